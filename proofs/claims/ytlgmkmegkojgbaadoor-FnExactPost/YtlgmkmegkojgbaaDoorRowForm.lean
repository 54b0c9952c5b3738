
/-
  THE CARD of FnExactFormMessage, proved.
-/
import Derived.Test.YtlgmkmegkojgbaaDoorLawForm
import Derived.Test.YtlgmkmegkojgbaaDoorCards
import Derived.Test.YtlgmkmegkojgbaaDoorTie
import Derived.ProofKit
import Derived.OpenShut
import Derived.OpenVars
import Derived.ShutString
import Derived.ChangeOld
import Derived.SliceStrings
import Derived.Deep.DeepHandedRow
import Derived.Lib.LaidTab
import Derived.Lib.LaidU8
namespace Go.Proofs.YtlgmkmegkojgbaaDoor
open Go.ChangeShapes Go.WideShapes Go.ChangeAt Go.RowKit
open Go.ChangeMaps (open_string shut_string)

theorem Tryd.own : ownKnob Tryd.prog.godebug = none := by kernel_rfl
theorem Tryd.laidOut : laidOutB Tryd.prog = true := by kernel_rfl
theorem Tryd.gTab : Tryd.prog.globalNamed "loop.example/kilncrew/impl.usages" = some 0 := by kernel_rfl
theorem Tryd.gTabType : (Tryd.prog.globals[0]?).map (·.type) = some 98 := by kernel_rfl
theorem Tryd.cellsUse : Tryd.prog.cellsOf 97 = 5 := by kernel_rfl
theorem Tryd.cellsBool : Tryd.prog.cellsOf 4 = 1 := by kernel_rfl

set_option maxRecDepth 100000 in
/-- A struct of five bools. -/
theorem bools_of {H : Type} {enc : TypeId × Value → H} {W : World} {base : Nat} {sp : Nat → Bool} {held : Bool} {fuel : Nat} {cs : List Value} {b0 b1 b2 b3 b4 : Bool} {p : List MemPlace}
    (h : DataW.trod enc Tryd.prog W base sp held fuel 97 cs = some (.agg [.lit (.bool b0), .lit (.bool b1), .lit (.bool b2), .lit (.bool b3), .lit (.bool b4)], p)) : cs = [.bool b0, .bool b1, .bool b2, .bool b3, .bool b4] := by
  obtain ⟨xs, m, _, ex, hlen, hl, hel⟩ := DataW.trod_struct Tryd.underlying97 h
  rw [Tryd.cellsUse] at hlen
  match cs, hlen with
  | [c0, c1, c2, c3, c4], _ =>
    match xs, hl with
    | [x0, x1, x2, x3, x4], _ =>
      have e3 := (DataW.agg.inj (Prod.mk.inj ex).1)
      simp only [List.map_cons, List.map_nil, List.cons.injEq, and_true] at e3
      have k0 : DataW.trod enc Tryd.prog W base sp held m 4 (([c0, c1, c2, c3, c4].drop 0).take (Tryd.prog.cellsOf 4)) = some x0 := hel 0 _ rfl
      have k1 : DataW.trod enc Tryd.prog W base sp held m 4 (([c0, c1, c2, c3, c4].drop 1).take (Tryd.prog.cellsOf 4)) = some x1 := hel 1 _ rfl
      have k2 : DataW.trod enc Tryd.prog W base sp held m 4 (([c0, c1, c2, c3, c4].drop 2).take (Tryd.prog.cellsOf 4)) = some x2 := hel 2 _ rfl
      have k3 : DataW.trod enc Tryd.prog W base sp held m 4 (([c0, c1, c2, c3, c4].drop 3).take (Tryd.prog.cellsOf 4)) = some x3 := hel 3 _ rfl
      have k4 : DataW.trod enc Tryd.prog W base sp held m 4 (([c0, c1, c2, c3, c4].drop 4).take (Tryd.prog.cellsOf 4)) = some x4 := hel 4 _ rfl
      rw [Tryd.cellsBool] at k0 k1 k2 k3 k4
      obtain ⟨z0, a0, q0⟩ := DataW.trod_bool Tryd.underlying4 k0
      obtain ⟨z1, a1, q1⟩ := DataW.trod_bool Tryd.underlying4 k1
      obtain ⟨z2, a2, q2⟩ := DataW.trod_bool Tryd.underlying4 k2
      obtain ⟨z3, a3, q3⟩ := DataW.trod_bool Tryd.underlying4 k3
      obtain ⟨z4, a4, q4⟩ := DataW.trod_bool Tryd.underlying4 k4
      subst q0 q1 q2 q3 q4
      simp_all

set_option maxRecDepth 100000 in
/-- What the list of the row gives: the table of the kinds. -/
theorem tab_of {W : World} {l : List (String × DataW Unit)} (h : laidMet Tryd.prog l W) (hm : ("loop.example/kilncrew/impl.usages", Rows.laid_loop_example_kilncrew_impl_usages) ∈ l) : Tab W := by
  obtain ⟨g, t, cs, fuel, p, hg, ht, hv, hd⟩ := Lib.laidMet.reads h hm
  obtain rfl := Option.some.inj (Tryd.gTab.symm.trans hg)
  obtain rfl := Option.some.inj (Tryd.gTabType.symm.trans ht)
  have hcell := fun j => World.var?_cell Tryd.gTab hv j
  have elem := fun i hi => Lib.array_elem Tryd.underlying98 hd i hi
  intro j hj
  rw [hcell j]
  obtain ⟨f0, d0, q0, e0, k0⟩ := elem 0 (by omega)
  obtain ⟨f1, d1, q1, e1, k1⟩ := elem 1 (by omega)
  obtain ⟨f2, d2, q2, e2, k2⟩ := elem 2 (by omega)
  obtain ⟨f3, d3, q3, e3, k3⟩ := elem 3 (by omega)
  obtain ⟨f4, d4, q4, e4, k4⟩ := elem 4 (by omega)
  obtain ⟨f5, d5, q5, e5, k5⟩ := elem 5 (by omega)
  cases e0; cases e1; cases e2; cases e3; cases e4; cases e5
  have r0 := bools_of k0
  have r1 := bools_of k1
  have r2 := bools_of k2
  have r3 := bools_of k3
  have r4 := bools_of k4
  have r5 := bools_of k5
  rw [Tryd.cellsUse] at r0 r1 r2 r3 r4 r5
  have key : ∀ (i : Nat) (bs : List Value) (r : Nat), (cs.toList.drop (i * 5)).take 5 = bs → r < 5 → cs[i * 5 + r]? = bs[r]? := fun i bs r hb hr => by
    rw [← hb, List.getElem?_take, if_pos hr, List.getElem?_drop, Array.getElem?_toList]
  obtain ⟨i, r, hi, hr, rfl⟩ : ∃ i r, i < 6 ∧ r < 5 ∧ j = i * 5 + r := ⟨j / 5, j % 5, by omega, by omega, by omega⟩
  have hi' : i = 0 ∨ i = 1 ∨ i = 2 ∨ i = 3 ∨ i = 4 ∨ i = 5 := by omega
  have hr' : r = 0 ∨ r = 1 ∨ r = 2 ∨ r = 3 ∨ r = 4 := by omega
  rcases hi' with rfl | rfl | rfl | rfl | rfl | rfl
  · rw [key 0 _ r r0 hr]; rcases hr' with rfl | rfl | rfl | rfl | rfl <;> rfl
  · rw [key 1 _ r r1 hr]; rcases hr' with rfl | rfl | rfl | rfl | rfl <;> rfl
  · rw [key 2 _ r r2 hr]; rcases hr' with rfl | rfl | rfl | rfl | rfl <;> rfl
  · rw [key 3 _ r r3 hr]; rcases hr' with rfl | rfl | rfl | rfl | rfl <;> rfl
  · rw [key 4 _ r r4 hr]; rcases hr' with rfl | rfl | rfl | rfl | rfl <;> rfl
  · rw [key 5 _ r r5 hr]; rcases hr' with rfl | rfl | rfl | rfl | rfl <;> rfl

/-- A list of texts that came in. -/
theorem strsAt_of2 {H : Type} {enc : TypeId × Value → H} {W : World} {base fuel : Nat} {cs : List Value} {x : DataW H × List MemPlace}
    (hf : DataW.trod enc Tryd.prog W base (fun _ => true) true fuel 22 cs = some x) : ∃ a b o n c ss, cs = [.slice a n c] ∧ StrsAt W a b o n ss := by
  rcases open_strings Tryd.underlying22 Tryd.underlying9 (by kernel_rfl) hf with ⟨hcs, _⟩ | ⟨y, n, c, ss, hcs, _, hl, hm, hz, _, hcell, hws⟩
  · exact ⟨none, 0, 0, 0, 0, [], hcs, fun h => absurd h (by omega), rfl, Nat.zero_le _, fun h => absurd h (by omega), fun j hj => absurd hj (by omega), by simp⟩
  · have hz' : ss.length = c := by simpa using hz
    have hsz : ∀ s ∈ ss.take n, s.size ≤ maxLen := fun s hs => hws s (List.mem_of_mem_take hs)
    have hlen : (ss.take n).length = n := by rw [List.length_take]; omega
    by_cases h0 : n = 0
    · subst h0
      exact ⟨some y, 0, 0, 0, c, ss.take 0, hcs, fun h => absurd h (by omega), hlen, Nat.zero_le _, fun h => absurd h (by omega), fun j hj => absurd hj (by omega), hsz⟩
    · obtain ⟨b, off, spot⟩ := y
      have hc := hcell 0 (by omega)
      have hspot : spot = none := by simpa [Addr.add] using World.cell?_spot hc
      subst hspot
      have hc' : ∀ j, j < n → W.cell? ⟨b, off + j, none⟩ = some (.string ((ss.take n).getD j ByteArray.empty)) := fun j hj => by
        have := hcell j (by omega)
        rw [Addr.add_lit] at this
        rw [this]
        simp [List.getD, hj]
      exact ⟨_, b, off, n, c, ss.take n, hcs, fun _ => rfl, hlen, by omega, fun _ => World.block_lt_of_cell? _ _ (hc' 0 (by omega)), hc', hsz⟩

set_option maxRecDepth 100000 in
/-- A message that came in. -/
theorem msgAt_of {H : Type} {enc : TypeId × Value → H} {W : World} {base fuel : Nat} {v : Value} {x : DataW H × List MemPlace}
    (hv : ∃ cs, v = .agg cs ∧ cs.size = Tryd.prog.cellsOf 24) (hf : DataW.trod enc Tryd.prog W base (fun _ => true) true fuel 24 v.cells.toList = some x) :
    ∃ (k f t e l d : Int) (s : ByteArray) (a : Option Addr) (b o n c : Nat) (ss : List ByteArray), v = .agg #[.int .i64 k, .int .i64 f, .int .i64 t, .int .i64 e, .int .i64 l, .int .i64 d, .string s, .slice a n c] ∧ s.size ≤ maxLen ∧ StrsAt W a b o n ss := by
  obtain ⟨cs, rfl, hcs⟩ := hv
  have hC : Tryd.prog.cellsOf 24 = 8 := by kernel_rfl
  rw [hC] at hcs
  obtain ⟨l⟩ := cs
  obtain ⟨xs, m, _, ex, hlen, hl, hel⟩ := DataW.trod_struct Tryd.underlying24 hf
  match l, hcs with
  | [c0, c1, c2, c3, c4, c5, c6, c7], _ =>
    match xs, hl with
    | [x0, x1, x2, x3, x4, x5, x6, x7], _ =>
      have ki : Tryd.prog.cellsOf 3 = 1 := by kernel_rfl
      have ks : Tryd.prog.cellsOf 9 = 1 := by kernel_rfl
      have kl : Tryd.prog.cellsOf 22 = 1 := by kernel_rfl
      have k0 : DataW.trod enc Tryd.prog W base (fun _ => true) true m 3 (([c0, c1, c2, c3, c4, c5, c6, c7].drop 0).take (Tryd.prog.cellsOf 3)) = some x0 := hel 0 _ rfl
      have k1 : DataW.trod enc Tryd.prog W base (fun _ => true) true m 3 (([c0, c1, c2, c3, c4, c5, c6, c7].drop 1).take (Tryd.prog.cellsOf 3)) = some x1 := hel 1 _ rfl
      have k2 : DataW.trod enc Tryd.prog W base (fun _ => true) true m 3 (([c0, c1, c2, c3, c4, c5, c6, c7].drop 2).take (Tryd.prog.cellsOf 3)) = some x2 := hel 2 _ rfl
      have k3 : DataW.trod enc Tryd.prog W base (fun _ => true) true m 3 (([c0, c1, c2, c3, c4, c5, c6, c7].drop 3).take (Tryd.prog.cellsOf 3)) = some x3 := hel 3 _ rfl
      have k4 : DataW.trod enc Tryd.prog W base (fun _ => true) true m 3 (([c0, c1, c2, c3, c4, c5, c6, c7].drop 4).take (Tryd.prog.cellsOf 3)) = some x4 := hel 4 _ rfl
      have k5 : DataW.trod enc Tryd.prog W base (fun _ => true) true m 3 (([c0, c1, c2, c3, c4, c5, c6, c7].drop 5).take (Tryd.prog.cellsOf 3)) = some x5 := hel 5 _ rfl
      have k6 : DataW.trod enc Tryd.prog W base (fun _ => true) true m 9 (([c0, c1, c2, c3, c4, c5, c6, c7].drop 6).take (Tryd.prog.cellsOf 9)) = some x6 := hel 6 _ rfl
      have k7 : DataW.trod enc Tryd.prog W base (fun _ => true) true m 22 (([c0, c1, c2, c3, c4, c5, c6, c7].drop 7).take (Tryd.prog.cellsOf 22)) = some x7 := hel 7 _ rfl
      rw [ki] at k0 k1 k2 k3 k4 k5
      rw [ks] at k6
      rw [kl] at k7
      obtain ⟨z0, a0, _, _⟩ := DataW.trod_int Tryd.underlying3 k0
      obtain ⟨z1, a1, _, _⟩ := DataW.trod_int Tryd.underlying3 k1
      obtain ⟨z2, a2, _, _⟩ := DataW.trod_int Tryd.underlying3 k2
      obtain ⟨z3, a3, _, _⟩ := DataW.trod_int Tryd.underlying3 k3
      obtain ⟨z4, a4, _, _⟩ := DataW.trod_int Tryd.underlying3 k4
      obtain ⟨z5, a5, _, _⟩ := DataW.trod_int Tryd.underlying3 k5
      obtain ⟨s, a6, _, hsz⟩ := DataW.trod_string Tryd.underlying9 k6
      obtain ⟨a, b, o, n, c, ss, a7, hat⟩ := strsAt_of2 k7
      simp only [List.drop_zero, List.drop_succ_cons, List.take_succ_cons, List.take_zero, List.cons.injEq, and_true] at a0 a1 a2 a3 a4 a5 a6 a7
      subst a0 a1 a2 a3 a4 a5 a6 a7
      exact ⟨z0, z1, z2, z3, z4, z5, s, a, b, o, n, c, ss, rfl, hsz, hat⟩

/-- A world for the witness: the settled one, the table (block 0) holding what its initialiser lays. -/
noncomputable def laidWorld (os : Os) : World :=
  { World.holding Tryd.prog os ⟨#[], #[], []⟩ with heap := (World.holding Tryd.prog os ⟨#[], #[], []⟩).heap.modify 0 fun
      | .cells _ t frozen => .cells (tabL.map Value.bool).toArray t frozen
      | o => o }

namespace FForm
theorem laid_met (os : Os) : laidMet Tryd.prog Rows.fnExactFormMessageRow.laid ((laidWorld os).forCall (fun _ _ => 0) ⟨#[], #[.agg #[.int .i64 0, .int .i64 0, .int .i64 0, .int .i64 0, .int .i64 0, .int .i64 0, .string ⟨#[]⟩, .slice none 0 0], .string ⟨#[]⟩], []⟩).memory :=
  laidMet_of_run' 8 (by kernel_rfl) (by kernel_rfl)
def wds {H : Type} : List (DataW H) := [.agg [.lit (.int .i64 0), .lit (.int .i64 0), .lit (.int .i64 0), .lit (.int .i64 0), .lit (.int .i64 0), .lit (.int .i64 0), .lit (.string []), .nil], .lit (.string [])]
def wgs {H : Type} : List (DataW H) := [Rows.laid_loop_example_kilncrew_impl_usages]
theorem reads (os : Os) {H : Type} (enc : TypeId × Value → H) : ∃ places, DataW.whole enc Tryd.prog ((laidWorld os).forCall (fun _ _ => 0) ⟨#[], #[.agg #[.int .i64 0, .int .i64 0, .int .i64 0, .int .i64 0, .int .i64 0, .int .i64 0, .string ⟨#[]⟩, .slice none 0 0], .string ⟨#[]⟩], []⟩).memory Tryd.f3.params.toList Rows.fnExactFormMessageSpec.vars false #[Value.agg #[.int .i64 0, .int .i64 0, .int .i64 0, .int .i64 0, .int .i64 0, .int .i64 0, .string ⟨#[]⟩, .slice none 0 0], .string ⟨#[]⟩].toList 8 = some (wds, wgs, places) := by
  have h : (DataW.whole enc Tryd.prog ((laidWorld os).forCall (fun _ _ => 0) ⟨#[], #[.agg #[.int .i64 0, .int .i64 0, .int .i64 0, .int .i64 0, .int .i64 0, .int .i64 0, .string ⟨#[]⟩, .slice none 0 0], .string ⟨#[]⟩], []⟩).memory Tryd.f3.params.toList Rows.fnExactFormMessageSpec.vars false #[Value.agg #[.int .i64 0, .int .i64 0, .int .i64 0, .int .i64 0, .int .i64 0, .int .i64 0, .string ⟨#[]⟩, .slice none 0 0], .string ⟨#[]⟩].toList 8).map (fun x => (x.1, x.2.1)) = some (wds, wgs) := by kernel_rfl
  obtain ⟨⟨ds, gs, places⟩, hx, hy⟩ := Option.map_eq_some_iff.1 h
  simp only [Prod.mk.injEq] at hy
  obtain ⟨rfl, rfl⟩ := hy
  exact ⟨places, hx⟩

set_option maxRecDepth 100000 in
theorem contract (H : Type) (enc : TypeId × Value → H) (W : World) (base : Nat) (args : Array Value) (ds gs : List (DataW H)) (before : List MemPlace)
    (hval : ∀ (j : Nat) t v, Tryd.f3.params[j]? = some t → args[j]? = some v → Value.okWide Tryd.prog W .any base t v)
    (hW : DataW.Whole enc Tryd.prog Tryd.f3.params.toList Rows.fnExactFormMessageSpec.vars false W args.toList ds gs before) (hL : laidMetH Tryd.prog Rows.fnExactFormMessageRow.laid W) :
    Calls Tryd.prog 3 args W fun e W' => ∃ v, e = .returned v ∧ Rows.fnExactFormMessageSpec.post enc Tryd.prog Tryd.f3 false true false false W args v W' := by
  have hT : Tab W := tab_of (l := Rows.fnExactFormMessageRow.laid) (by rw [MakeChecks.laidMetH_plain _ _ _ (by kernel_rfl)] at hL; exact hL) (List.mem_cons_self ..)
  have hW' := hW
  obtain ⟨p, q, hA0, hV, rfl, hfz, hnd⟩ := hW
  have hA : DataW.TrodAll enc Tryd.prog W 0 (fun _ => true) true Tryd.f3.params.toList args.toList ds p := hA0
  rw [Tryd.params3] at hA hval
  obtain ⟨v0, vs0, d0, ds0, p0, q0, hargs, rfl, rfl, h0, r0⟩ := trodAll_cons hA
  obtain ⟨v1, vs1, d1, ds1, p1, q1, rfl, rfl, rfl, h1, r1⟩ := trodAll_cons r0
  obtain ⟨rfl, rfl, rfl⟩ := trodAll_nil r1
  obtain rfl : args = #[v0, v1] := by cases args; simp_all
  have hV0 := hV
  obtain ⟨_, _, _, _, dv, _, rfl, _⟩ := trodVars_one hV
  have k0 := h0
  have lt0 : ∀ x ∈ p0, x.block < W.heap.size := by obtain ⟨m, hm⟩ := k0; exact DataW.trod_lt m _ _ _ hm
  obtain ⟨fuel, hf⟩ := h0
  obtain ⟨k, f, t, e, l, d, x, a, b, o, n, c, ss, rfl, hx, hat⟩ := msgAt_of (okWide_struct Tryd.underlying24 (hval 0 24 v0 rfl rfl)) hf
  obtain ⟨s1, rfl, rfl, rfl, hs1⟩ := open_string Tryd.underlying9 (hval 1 9 v1 rfl rfl) h1
  clear hA0
  refine (fnExactFormMessage_walk k f t e l d x a b o n c ss s1 W hT hat hx hs1).mono fun e' W' ⟨he, bel⟩ => ?_
  subst he
  exact ⟨_, rfl, _, _, _, [], _, _, hW', trodAll_mk1 (shut_bool Tryd.underlying4 _), (trodAll_cons_mk (Below.trod Tryd.laidOut (by kernel_rfl) (of_decide_eq_true (by kernel_rfl)) k0 bel lt0) (trodAll_cons_mk (shut_string Tryd.underlying9 hs1) trodAll_mk0)), bel.trodVars Tryd.laidOut (by kernel_rfl) hV0, bel.frame _, fun h => by cases h⟩

set_option maxRecDepth 100000 in
theorem lifted (os : Os) (started : os.Started) (H : Type) (enc : TypeId × Value → H) (F : Stop.Interp) :
    ReturnsInHanded {} Tryd.checked os 3 .any ((OpenSpec.ofChange Rows.fnExactFormMessageSpec).preRow enc Tryd.prog Tryd.f3 Rows.fnExactFormMessageRow.domain false Rows.fnExactFormMessageRow.laid) (((OpenSpec.ofChange Rows.fnExactFormMessageSpec).at F).post enc Tryd.prog Tryd.f3 false true false false) := by
  obtain ⟨places, hx⟩ := reads os enc
  refine returnsInHanded_of_row (C := Tryd.checked) (s := OpenSpec.ofChange Rows.fnExactFormMessageSpec) Tryd.own started (by kernel_rfl) Tryd.func3
    (witness_row_at (enc := enc) (C := Tryd.checked) false (laidWorld os) #[.agg #[.int .i64 0, .int .i64 0, .int .i64 0, .int .i64 0, .int .i64 0, .int .i64 0, .string ⟨#[]⟩, .slice none 0 0], .string ⟨#[]⟩] rfl (by kernel_rfl) (by kernel_rfl) (by kernel_rfl)
      (OpenSpec.preRow_of_cond 8 hx (by kernel_rfl) (fun k hk => by cases hk) (by kernel_rfl) (laid_met os))) ?_
  intro W base args ds gs before hval hW _ _ _ hL _ _
  exact contract H enc W base args ds gs before hval hW hL

theorem said : Rows.FnExactFormMessageSaid :=
  OpenClaim.holds_of_cond 3 Tryd.f3 rfl rfl rfl rfl rfl rfl rfl ⟨rfl, rfl, rfl, rfl, rfl⟩ rfl rfl rfl rfl rfl (by kernel_rfl) Tryd.func3 (by kernel_rfl)
    (of_decide_eq_true (by kernel_rfl)) (by unfold Func.isWrapper; first | (rw [if_pos (by decide +kernel)]; kernel_rfl) | (rw [if_neg (by decide +kernel)]; exact ⟨rfl, rfl⟩))
    (fun os started H enc _ F => by rw [OpenClaim.pre_eq_preRow]; exact lifted os started H enc F)

theorem plain (f : FuncId) (fn : Func) (hf : Tryd.pinned.checked.prog.funcNamed "loop.example/kilncrew/laws.FnExactFormMessage" = some f) (hfn : Tryd.pinned.checked.prog.funcs[f]? = some fn) :
    true = Tryd.pinned.checked.prog.looks [] ∧ ∀ (j : Nat) t, fn.params[j]? = some t → Tryd.pinned.checked.prog.wantsStandIn t = false := by
  obtain rfl : f = 3 := Option.some.inj ((show Tryd.prog.funcNamed "loop.example/kilncrew/laws.FnExactFormMessage" = some 3 by kernel_rfl).symm.trans hf) |>.symm
  obtain rfl : fn = Tryd.f3 := (Option.some.inj (Tryd.func3.symm.trans hfn)).symm
  refine ⟨by kernel_rfl, fun j t ht => ?_⟩
  rw [Tryd.params3] at ht
  have hm : t ∈ [24, 9] := by simpa using Array.mem_of_getElem? ht
  have hall : ([24, 9].all fun u => !Tryd.prog.wantsStandIn u) = true := by kernel_rfl
  exact (show Tryd.prog.wantsStandIn t = false by simpa using List.all_eq_true.1 hall t hm)
end FForm

/-- THE CARD. -/
theorem fnExactFormMessage_card : Rows.FnExactFormMessageCardSaid :=
  Claim7.holds_tied_plain_at .later [] _ _ _ _ FForm.said (fun _ h => by cases h) (by kernel_rfl) (fun _ h => by cases h) fnExactFormMessage_row_tie rfl ⟨rfl, rfl⟩ (by kernel_rfl) rfl FForm.plain (by kernel_rfl)
#print axioms fnExactFormMessage_card
end Go.Proofs.YtlgmkmegkojgbaaDoor
