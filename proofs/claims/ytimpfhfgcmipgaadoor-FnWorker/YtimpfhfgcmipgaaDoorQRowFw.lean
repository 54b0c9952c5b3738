
import Derived.Test.YtimpfhfgcmipgaaDoorQLawFw
import Derived.Test.YtimpfhfgcmipgaaDoorCards
import Derived.Test.YtimpfhfgcmipgaaDoorTie
import Derived.OpenVars
import Derived.ChangeSlices
import Derived.Deep.DeepHandedRow
import Derived.Lib.LaidTab
import Derived.Lib.LaidU8
namespace Go.Proofs.YtimpfhfgcmipgaaDoor
open Go.ChangeShapes Go.WideShapes Go.ChangeAt Go.RowKit
open Go.ChangeMaps (open_string shut_string)

theorem Tryd.own : ownKnob Tryd.prog.godebug = none := by kernel_rfl
theorem Tryd.laidOut : laidOutB Tryd.prog = true := by kernel_rfl
theorem Tryd.gTab : Tryd.prog.globalNamed "loop.example/kilncrew/impl.usages" = some 0 := by kernel_rfl
theorem Tryd.gTabType : (Tryd.prog.globals[0]?).map (·.type) = some 96 := by kernel_rfl
theorem Tryd.cellsUse : Tryd.prog.cellsOf 57 = 5 := by kernel_rfl
theorem Tryd.cellsBool : Tryd.prog.cellsOf 4 = 1 := by kernel_rfl

set_option maxRecDepth 100000 in
/-- A struct of five bools. -/
theorem bools_of {H : Type} {enc : TypeId × Value → H} {W : World} {base : Nat} {sp : Nat → Bool} {held : Bool} {fuel : Nat} {cs : List Value} {b0 b1 b2 b3 b4 : Bool} {p : List MemPlace}
    (h : DataW.trod enc Tryd.prog W base sp held fuel 57 cs = some (.agg [.lit (.bool b0), .lit (.bool b1), .lit (.bool b2), .lit (.bool b3), .lit (.bool b4)], p)) : cs = [.bool b0, .bool b1, .bool b2, .bool b3, .bool b4] := by
  obtain ⟨xs, m, _, ex, hlen, hl, hel⟩ := DataW.trod_struct Tryd.underlying57 h
  rw [Tryd.cellsUse] at hlen
  match cs, hlen with
  | [c0, c1, c2, c3, c4], _ =>
    match xs, hl with
    | [x0, x1, x2, x3, x4], _ =>
      have e3 := (DataW.agg.inj (Prod.mk.inj ex).1)
      simp only [List.map_cons, List.map_nil, List.cons.injEq, and_true] at e3
      have k0 : DataW.trod enc Tryd.prog W base sp held m 4 (([c0, c1, c2, c3, c4].drop 0).take (Tryd.prog.cellsOf 4)) = some x0 := hel 0 _ rfl
      have k1 : DataW.trod enc Tryd.prog W base sp held m 4 (([c0, c1, c2, c3, c4].drop 1).take (Tryd.prog.cellsOf 4)) = some x1 := hel 1 _ rfl
      have k2 : DataW.trod enc Tryd.prog W base sp held m 4 (([c0, c1, c2, c3, c4].drop 2).take (Tryd.prog.cellsOf 4)) = some x2 := hel 2 _ rfl
      have k3 : DataW.trod enc Tryd.prog W base sp held m 4 (([c0, c1, c2, c3, c4].drop 3).take (Tryd.prog.cellsOf 4)) = some x3 := hel 3 _ rfl
      have k4 : DataW.trod enc Tryd.prog W base sp held m 4 (([c0, c1, c2, c3, c4].drop 4).take (Tryd.prog.cellsOf 4)) = some x4 := hel 4 _ rfl
      rw [Tryd.cellsBool] at k0 k1 k2 k3 k4
      obtain ⟨z0, a0, q0⟩ := DataW.trod_bool Tryd.underlying4 k0
      obtain ⟨z1, a1, q1⟩ := DataW.trod_bool Tryd.underlying4 k1
      obtain ⟨z2, a2, q2⟩ := DataW.trod_bool Tryd.underlying4 k2
      obtain ⟨z3, a3, q3⟩ := DataW.trod_bool Tryd.underlying4 k3
      obtain ⟨z4, a4, q4⟩ := DataW.trod_bool Tryd.underlying4 k4
      subst q0 q1 q2 q3 q4
      simp_all

set_option maxRecDepth 100000 in
/-- What the list of the row gives: the table of the kinds. -/
theorem tab_of {W : World} {l : List (String × DataW Unit)} (h : laidMet Tryd.prog l W) (hm : ("loop.example/kilncrew/impl.usages", Rows.laid_loop_example_kilncrew_impl_usages) ∈ l) : Tab W := by
  obtain ⟨g, t, cs, fuel, p, hg, ht, hv, hd⟩ := Lib.laidMet.reads h hm
  obtain rfl := Option.some.inj (Tryd.gTab.symm.trans hg)
  obtain rfl := Option.some.inj (Tryd.gTabType.symm.trans ht)
  have hcell := fun j => World.var?_cell Tryd.gTab hv j
  have elem := fun i hi => Lib.array_elem Tryd.underlying96 hd i hi
  intro j hj
  rw [hcell j]
  obtain ⟨f0, d0, q0, e0, k0⟩ := elem 0 (by omega)
  obtain ⟨f1, d1, q1, e1, k1⟩ := elem 1 (by omega)
  obtain ⟨f2, d2, q2, e2, k2⟩ := elem 2 (by omega)
  obtain ⟨f3, d3, q3, e3, k3⟩ := elem 3 (by omega)
  obtain ⟨f4, d4, q4, e4, k4⟩ := elem 4 (by omega)
  obtain ⟨f5, d5, q5, e5, k5⟩ := elem 5 (by omega)
  cases e0; cases e1; cases e2; cases e3; cases e4; cases e5
  have r0 := bools_of k0
  have r1 := bools_of k1
  have r2 := bools_of k2
  have r3 := bools_of k3
  have r4 := bools_of k4
  have r5 := bools_of k5
  rw [Tryd.cellsUse] at r0 r1 r2 r3 r4 r5
  have key : ∀ (i : Nat) (bs : List Value) (r : Nat), (cs.toList.drop (i * 5)).take 5 = bs → r < 5 → cs[i * 5 + r]? = bs[r]? := fun i bs r hb hr => by
    rw [← hb, List.getElem?_take, if_pos hr, List.getElem?_drop, Array.getElem?_toList]
  obtain ⟨i, r, hi, hr, rfl⟩ : ∃ i r, i < 6 ∧ r < 5 ∧ j = i * 5 + r := ⟨j / 5, j % 5, by omega, by omega, by omega⟩
  have hi' : i = 0 ∨ i = 1 ∨ i = 2 ∨ i = 3 ∨ i = 4 ∨ i = 5 := by omega
  have hr' : r = 0 ∨ r = 1 ∨ r = 2 ∨ r = 3 ∨ r = 4 := by omega
  rcases hi' with rfl | rfl | rfl | rfl | rfl | rfl
  · rw [key 0 _ r r0 hr]; rcases hr' with rfl | rfl | rfl | rfl | rfl <;> rfl
  · rw [key 1 _ r r1 hr]; rcases hr' with rfl | rfl | rfl | rfl | rfl <;> rfl
  · rw [key 2 _ r r2 hr]; rcases hr' with rfl | rfl | rfl | rfl | rfl <;> rfl
  · rw [key 3 _ r r3 hr]; rcases hr' with rfl | rfl | rfl | rfl | rfl <;> rfl
  · rw [key 4 _ r r4 hr]; rcases hr' with rfl | rfl | rfl | rfl | rfl <;> rfl
  · rw [key 5 _ r r5 hr]; rcases hr' with rfl | rfl | rfl | rfl | rfl <;> rfl

/-- A world for the witness: the settled one, the table (block 0) holding what its initialiser lays. -/
noncomputable def laidWorld (os : Os) : World :=
  { World.holding Tryd.prog os ⟨#[], #[], []⟩ with heap := (World.holding Tryd.prog os ⟨#[], #[], []⟩).heap.modify 0 fun
      | .cells _ t frozen => .cells (tabL.map Value.bool).toArray t frozen
      | o => o }

/-- Bytes that came in. -/
theorem bytesAt_of {H : Type} {enc : TypeId × Value → H} {W : World} {base fuel : Nat} {cs : List Value} {x : DataW H × List MemPlace}
    (hf : DataW.trod enc Tryd.prog W base (fun _ => true) true fuel 22 cs = some x) : ∃ a b o n c, cs = [.slice a n c] ∧ BytesAt W a b o n ∧ (0 < n → b < W.heap.size) ∧ n ≤ c ∧ n ≤ maxLen := by
  rcases open_ints Tryd.underlying22 Tryd.underlying5 (by kernel_rfl) hf with ⟨hcs, _⟩ | ⟨y, n, c, zs, hcs, _, hl, hm, hz, _, hcell, hws⟩
  · exact ⟨none, 0, 0, 0, 0, hcs, ⟨fun h => absurd h (by omega), fun j hj => absurd hj (by omega)⟩, fun h => absurd h (by omega), Nat.le_refl _, Nat.zero_le _⟩
  · have hz' : zs.length = c := by simpa using hz
    by_cases h0 : n = 0
    · subst h0
      exact ⟨some y, 0, 0, 0, c, hcs, ⟨fun h => absurd h (by omega), fun j hj => absurd hj (by omega)⟩, fun h => absurd h (by omega), Nat.zero_le _, Nat.zero_le _⟩
    · obtain ⟨b, off, spot⟩ := y
      have hc := hcell 0 (by omega)
      have hspot : spot = none := by simpa [Addr.add] using World.cell?_spot hc
      subst hspot
      have hc' : ∀ j, j < n → W.cell? ⟨b, off + j, none⟩ = some (.int .u8 (zs.getD j 0)) := fun j hj => by
        have := hcell j (by omega)
        rwa [Addr.add_lit] at this
      refine ⟨_, b, off, n, c, hcs, ⟨fun _ => rfl, fun j hj => ?_⟩, fun _ => World.block_lt_of_cell? _ _ (hc' 0 (by omega)), hl, by omega⟩
      have hw := hws (zs.getD j 0) (by simp only [List.getD, List.getElem?_eq_getElem (show j < zs.length by omega), Option.getD_some]; exact List.getElem_mem _)
      have hr : 0 ≤ zs.getD j 0 ∧ zs.getD j 0 < 256 := by have := bounds_u8 hw; omega
      exact ⟨(zs.getD j 0).toNat, by omega, by rw [hc' j hj]; congr 2; omega⟩

namespace FWk
theorem laid_met (os : Os) : laidMet Tryd.prog Rows.fnWorkerRow.laid ((laidWorld os).forCall (fun _ _ => 0) ⟨#[], #[.slice none 0 0], []⟩).memory :=
  laidMet_of_run' 8 (by kernel_rfl) (by kernel_rfl)
def wds {H : Type} : List (DataW H) := [.nil]
def wgs {H : Type} : List (DataW H) := [Rows.laid_loop_example_kilncrew_impl_usages]
theorem reads (os : Os) {H : Type} (enc : TypeId × Value → H) : ∃ places, DataW.whole enc Tryd.prog ((laidWorld os).forCall (fun _ _ => 0) ⟨#[], #[.slice none 0 0], []⟩).memory Tryd.f3.params.toList Rows.fnWorkerSpec.vars false #[Value.slice none 0 0].toList 8 = some (wds, wgs, places) := by
  have h : (DataW.whole enc Tryd.prog ((laidWorld os).forCall (fun _ _ => 0) ⟨#[], #[.slice none 0 0], []⟩).memory Tryd.f3.params.toList Rows.fnWorkerSpec.vars false #[Value.slice none 0 0].toList 8).map (fun x => (x.1, x.2.1)) = some (wds, wgs) := by kernel_rfl
  obtain ⟨⟨ds, gs, places⟩, hx, hy⟩ := Option.map_eq_some_iff.1 h
  simp only [Prod.mk.injEq] at hy
  obtain ⟨rfl, rfl⟩ := hy
  exact ⟨places, hx⟩

set_option maxRecDepth 100000 in
theorem contract (H : Type) (enc : TypeId × Value → H) (W : World) (base : Nat) (args : Array Value) (ds gs : List (DataW H)) (before : List MemPlace)
    (hval : ∀ (j : Nat) t v, Tryd.f3.params[j]? = some t → args[j]? = some v → Value.okWide Tryd.prog W .any base t v)
    (hW : DataW.Whole enc Tryd.prog Tryd.f3.params.toList Rows.fnWorkerSpec.vars false W args.toList ds gs before) (hL : laidMetH Tryd.prog Rows.fnWorkerRow.laid W) :
    Calls Tryd.prog 3 args W fun e W' => ∃ v, e = .returned v ∧ Rows.fnWorkerSpec.post enc Tryd.prog Tryd.f3 false true false false W args v W' := by
  have hT : Tab W := tab_of (l := Rows.fnWorkerRow.laid) (by rw [MakeChecks.laidMetH_plain _ _ _ (by kernel_rfl)] at hL; exact hL) (List.mem_cons_self ..)
  have hW' := hW
  obtain ⟨p, q, hA0, hV, rfl, hfz, hnd⟩ := hW
  have hA : DataW.TrodAll enc Tryd.prog W 0 (fun _ => true) true Tryd.f3.params.toList args.toList ds p := hA0
  rw [Tryd.params3] at hA hval
  obtain ⟨v0, vs0, d0, ds0, p0, q0, hargs, rfl, rfl, h0, r0⟩ := trodAll_cons hA
  obtain ⟨rfl, rfl, rfl⟩ := trodAll_nil r0
  obtain rfl : args = #[v0] := by cases args; simp_all
  have hV0 := hV
  obtain ⟨_, _, _, _, dv, _, rfl, _⟩ := trodVars_one hV
  have k0 := h0
  have lt0 : ∀ x ∈ p0, x.block < W.heap.size := by obtain ⟨m, hm⟩ := k0; exact DataW.trod_lt m _ _ _ hm
  obtain ⟨fuel, hf⟩ := h0
  obtain ⟨ad, b, o, n, c, hcs, hby, hb, hc, hn⟩ := bytesAt_of hf
  obtain rfl : v0 = .slice ad n c := by
    obtain ⟨a', n', c', rfl⟩ := okWide_slice Tryd.underlying22 (hval 0 22 v0 rfl rfl)
    simpa [Value.cells] using hcs
  clear hA0
  refine (fnWorker_walk ad b o n c W hT hby hb hc hn).mono fun e' W' ⟨he, bel⟩ => ?_
  subst he
  exact ⟨_, rfl, _, _, _, [], _, _, hW', trodAll_mk1 (shut_bool Tryd.underlying4 _), (trodAll_cons_mk (Below.trod Tryd.laidOut (by kernel_rfl) (of_decide_eq_true (by kernel_rfl)) k0 bel lt0) trodAll_mk0), bel.trodVars Tryd.laidOut (by kernel_rfl) hV0, bel.frame _, fun h => by cases h⟩

set_option maxRecDepth 100000 in
theorem lifted (os : Os) (started : os.Started) (H : Type) (enc : TypeId × Value → H) (F : Stop.Interp) :
    ReturnsInHanded {} Tryd.checked os 3 .any ((OpenSpec.ofChange Rows.fnWorkerSpec).preRow enc Tryd.prog Tryd.f3 Rows.fnWorkerRow.domain false Rows.fnWorkerRow.laid) (((OpenSpec.ofChange Rows.fnWorkerSpec).at F).post enc Tryd.prog Tryd.f3 false true false false) := by
  obtain ⟨places, hx⟩ := reads os enc
  refine returnsInHanded_of_row (C := Tryd.checked) (s := OpenSpec.ofChange Rows.fnWorkerSpec) Tryd.own started (by kernel_rfl) Tryd.func3
    (witness_row_at (enc := enc) (C := Tryd.checked) false (laidWorld os) #[.slice none 0 0] rfl (by kernel_rfl) (by kernel_rfl) (by kernel_rfl)
      (OpenSpec.preRow_of_cond 8 hx (by kernel_rfl) (fun k hk => by cases hk) (by kernel_rfl) (laid_met os))) ?_
  intro W base args ds gs before hval hW _ _ _ hL _ _
  exact contract H enc W base args ds gs before hval hW hL

theorem said : Rows.FnWorkerSaid :=
  OpenClaim.holds_of_cond 3 Tryd.f3 rfl rfl rfl rfl rfl rfl rfl ⟨rfl, rfl, rfl, rfl, rfl⟩ rfl rfl rfl rfl rfl (by kernel_rfl) Tryd.func3 (by kernel_rfl)
    (of_decide_eq_true (by kernel_rfl)) (by unfold Func.isWrapper; first | (rw [if_pos (by decide +kernel)]; kernel_rfl) | (rw [if_neg (by decide +kernel)]; exact ⟨rfl, rfl⟩))
    (fun os started H enc _ F => by rw [OpenClaim.pre_eq_preRow]; exact lifted os started H enc F)

theorem plain (f : FuncId) (fn : Func) (hf : Tryd.pinned.checked.prog.funcNamed "loop.example/kilncrew/laws.FnWorker" = some f) (hfn : Tryd.pinned.checked.prog.funcs[f]? = some fn) :
    true = Tryd.pinned.checked.prog.looks [] ∧ ∀ (j : Nat) t, fn.params[j]? = some t → Tryd.pinned.checked.prog.wantsStandIn t = false := by
  obtain rfl : f = 3 := Option.some.inj ((show Tryd.prog.funcNamed "loop.example/kilncrew/laws.FnWorker" = some 3 by kernel_rfl).symm.trans hf) |>.symm
  obtain rfl : fn = Tryd.f3 := (Option.some.inj (Tryd.func3.symm.trans hfn)).symm
  refine ⟨by kernel_rfl, fun j t ht => ?_⟩
  rw [Tryd.params3] at ht
  have hm : t ∈ [22] := by simpa using Array.mem_of_getElem? ht
  have hall : ([22].all fun u => !Tryd.prog.wantsStandIn u) = true := by kernel_rfl
  exact (show Tryd.prog.wantsStandIn t = false by simpa using List.all_eq_true.1 hall t hm)
end FWk

/-- THE CARD. -/
theorem fnWorker_card : Rows.FnWorkerCardSaid :=
  Claim7.holds_tied_plain_at .later [] _ _ _ _ FWk.said (fun _ h => by cases h) (by kernel_rfl) (fun _ h => by cases h) fnWorker_row_tie rfl ⟨rfl, rfl⟩ (by kernel_rfl) rfl FWk.plain (by kernel_rfl)
#print axioms fnWorker_card
end Go.Proofs.YtimpfhfgcmipgaaDoor
