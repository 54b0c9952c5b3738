
/-
  THE CARD of FnExactPost, proved.
-/
import Derived.Test.YtlgmkmegkojgbaaDoorLawPs
import Derived.Test.YtlgmkmegkojgbaaDoorRowRead
import Derived.Deep.Slices
import Derived.Deep.Strs
namespace Go.Proofs.YtlgmkmegkojgbaaDoor
open Go.ChangeShapes Go.WideShapes Go.ChangeAt Go.RowKit Go.Deep
open Go.ChangeMaps (open_string shut_string)

theorem wf_I64 {x : Int} (h : (Lit.int .i64 x).wf = true) : I64 x := by
  simp [Lit.wf, IntKind.min, IntKind.max, IntKind.signed, IntKind.bits] at h
  exact ⟨by omega, by omega⟩

set_option maxRecDepth 100000 in
theorem atParcel_of {H : Type} {enc : TypeId × Value → H} {W : World} {base fuel : Nat} {cs : List Value} {x : DataW H × List MemPlace}
    (hf : DataW.trod enc Tryd.prog W base (fun _ => true) true fuel 48 cs = some x) : ∃ a b o n c, ∃ J : List Pc, cs = [.slice a n c] ∧ PcAt W a b o n J := by
  rcases open_slice Tryd.underlying48 hf with ⟨hcs, _⟩ | ⟨y, n, c, m, fu, D, Pl, hcs, _, hl, hm, hmm, _, hel⟩
  · exact ⟨none, 0, 0, 0, 0, [], hcs, fun h => absurd h (by omega), rfl, Nat.zero_le _, fun h => absurd h (by omega), fun j hj => absurd hj (by omega), fun j hj => absurd hj (by omega), fun j hj => absurd hj (by omega), fun j hj => absurd hj (by omega)⟩
  · have hm' : m = c := by simpa using hmm
    have hC : Tryd.prog.cellsOf 42 = 3 := by kernel_rfl
    by_cases h0 : n = 0
    · subst h0
      exact ⟨some y, 0, 0, 0, c, [], hcs, fun h => absurd h (by omega), rfl, Nat.zero_le _, fun h => absurd h (by omega), fun j hj => absurd hj (by omega), fun j hj => absurd hj (by omega), fun j hj => absurd hj (by omega), fun j hj => absurd hj (by omega)⟩
    have each : ∀ i, i < n → ∃ (x : Int) (y' z : ByteArray), W.cell? (y.add (i * 3)) = some (.int .i64 x) ∧ W.cell? ((y.add (i * 3)).add 1) = some (.string y') ∧ W.cell? ((y.add (i * 3)).add 2) = some (.string z) ∧ I64 x ∧ y'.size ≤ maxLen ∧ z.size ≤ maxLen := fun i hi => by
      obtain ⟨cs', hcells, ht⟩ := hel i (by omega)
      rw [hC] at hcells
      obtain ⟨xs, mm, _, _, hlen, hl', hel'⟩ := DataW.trod_struct Tryd.underlying42 ht
      rw [hC] at hlen
      obtain ⟨_, _, hcl⟩ := World.cells?_some hcells
      have ki : Tryd.prog.cellsOf 3 = 1 := by kernel_rfl
      have ks : Tryd.prog.cellsOf 9 = 1 := by kernel_rfl
      match cs', hlen with
      | [c0, c1, c2], _ =>
        match xs, hl' with
        | [x0, x1, x2], _ =>
          have e0 := hcl 0 (by omega)
          have h0 : DataW.trod enc Tryd.prog W base (fun _ => true) true mm 3 (([c0, c1, c2].drop 0).take (Tryd.prog.cellsOf 3)) = some x0 := hel' 0 _ rfl
          rw [ki] at h0
          obtain ⟨z0, q0, _, r0⟩ := DataW.trod_int Tryd.underlying3 h0
          have e1 := hcl 1 (by omega)
          have h1 : DataW.trod enc Tryd.prog W base (fun _ => true) true mm 9 (([c0, c1, c2].drop 1).take (Tryd.prog.cellsOf 9)) = some x1 := hel' 1 _ rfl
          rw [ks] at h1
          obtain ⟨z1, q1, _, r1⟩ := DataW.trod_string Tryd.underlying9 h1
          have e2 := hcl 2 (by omega)
          have h2 : DataW.trod enc Tryd.prog W base (fun _ => true) true mm 9 (([c0, c1, c2].drop 2).take (Tryd.prog.cellsOf 9)) = some x2 := hel' 2 _ rfl
          rw [ks] at h2
          obtain ⟨z2, q2, _, r2⟩ := DataW.trod_string Tryd.underlying9 h2
          simp only [List.drop_zero, List.drop_succ_cons, List.take_succ_cons, List.take_zero, List.cons.injEq, and_true] at q0 q1 q2
          subst q0 q1 q2
          refine ⟨z0, z1, z2, ?_, by simpa using e1, by simpa using e2, wf_I64 r0, r1, r2⟩
          rw [show (y.add (i * 3)).add 0 = y.add (i * 3) by unfold Addr.add; split <;> simp_all] at e0
          simpa using e0
    obtain ⟨b, off, spot⟩ := y
    have hspot : spot = none := by
      obtain ⟨_, _, _, hc, _⟩ := each 0 (by omega)
      simpa [Addr.add] using World.cell?_spot hc
    subst hspot
    have each' : ∀ i, ∃ t : Pc, i < n → W.cell? ⟨b, off + i * 3, none⟩ = some (.int .i64 t.1) ∧ W.cell? ⟨b, off + i * 3 + 1, none⟩ = some (.string t.2.1) ∧ W.cell? ⟨b, off + i * 3 + 2, none⟩ = some (.string t.2.2) ∧ I64 t.1 ∧ t.2.1.size ≤ maxLen ∧ t.2.2.size ≤ maxLen := fun i => by
      by_cases hi : i < n
      · obtain ⟨z0, z1, z2, q0, q1, q2, hr⟩ := each i hi
        simp only [Addr.add_lit] at q0 q1 q2
        exact ⟨(z0, z1, z2), fun _ => ⟨q0, q1, q2, hr⟩⟩
      · exact ⟨((0, ByteArray.empty, ByteArray.empty) : Pc), fun h => absurd h hi⟩
    obtain ⟨f, hf⟩ := Classical.skolem.1 each'
    have hget : ∀ j, j < n → pc ((List.range n).map f) j = f j := fun j hj => by simp [pc, List.getD, hj]
    refine ⟨_, b, off, n, c, (List.range n).map f, hcs, fun _ => rfl, by simp, by omega, fun _ => World.block_lt_of_cell? _ _ (hf 0 (by omega)).1, fun j hj => ?_, fun j hj => ?_, fun j hj => ?_, fun j hj => ?_⟩
    · rw [hget j hj]; exact (hf j hj).1
    · rw [hget j hj]; exact (hf j hj).2.1
    · rw [hget j hj]; exact (hf j hj).2.2.1
    · rw [hget j hj]; exact (hf j hj).2.2.2

set_option maxRecDepth 100000 in
theorem atMessage_of {H : Type} {enc : TypeId × Value → H} {W : World} {base fuel : Nat} {cs : List Value} {x : DataW H × List MemPlace}
    (hf : DataW.trod enc Tryd.prog W base (fun _ => true) true fuel 49 cs = some x) : ∃ a b o n c, ∃ J : List MgD, cs = [.slice a n c] ∧ MsAt W a b o n J := by
  rcases open_slice Tryd.underlying49 hf with ⟨hcs, _⟩ | ⟨y, n, c, m, fu, D, Pl, hcs, _, hl, hm, hmm, _, hel⟩
  · exact ⟨none, 0, 0, 0, 0, [], hcs, fun h => absurd h (by omega), rfl, Nat.zero_le _, fun h => absurd h (by omega), fun j hj => absurd hj (by omega), fun j hj => absurd hj (by omega), fun j hj => absurd hj (by omega), fun j hj => absurd hj (by omega), fun j hj => absurd hj (by omega), fun j hj => absurd hj (by omega), fun j hj => absurd hj (by omega), fun j hj => absurd hj (by omega), fun j hj => absurd hj (by omega), fun j hj => absurd hj (by omega)⟩
  · have hm' : m = c := by simpa using hmm
    have hC : Tryd.prog.cellsOf 24 = 8 := by kernel_rfl
    by_cases h0 : n = 0
    · subst h0
      exact ⟨some y, 0, 0, 0, c, [], hcs, fun h => absurd h (by omega), rfl, Nat.zero_le _, fun h => absurd h (by omega), fun j hj => absurd hj (by omega), fun j hj => absurd hj (by omega), fun j hj => absurd hj (by omega), fun j hj => absurd hj (by omega), fun j hj => absurd hj (by omega), fun j hj => absurd hj (by omega), fun j hj => absurd hj (by omega), fun j hj => absurd hj (by omega), fun j hj => absurd hj (by omega), fun j hj => absurd hj (by omega)⟩
    have each : ∀ i, i < n → ∃ (d : MgD) (a' : Option Addr) (b' o' c' : Nat), W.cell? (y.add (i * 8)) = some (.int .i64 d.kd) ∧ W.cell? ((y.add (i * 8)).add 1) = some (.int .i64 d.fm) ∧ W.cell? ((y.add (i * 8)).add 2) = some (.int .i64 d.tw) ∧ W.cell? ((y.add (i * 8)).add 3) = some (.int .i64 d.ep) ∧ W.cell? ((y.add (i * 8)).add 4) = some (.int .i64 d.le) ∧ W.cell? ((y.add (i * 8)).add 5) = some (.int .i64 d.ta) ∧ W.cell? ((y.add (i * 8)).add 6) = some (.string d.x) ∧ W.cell? ((y.add (i * 8)).add 7) = some ((.slice a' d.ss.length c')) ∧ StrsAt W a' b' o' d.ss.length d.ss ∧ d.x.size ≤ maxLen ∧ I64 d.kd ∧ I64 d.fm ∧ I64 d.tw ∧ I64 d.ep ∧ I64 d.le ∧ I64 d.ta := fun i hi => by
      obtain ⟨cs', hcells, ht⟩ := hel i (by omega)
      rw [hC] at hcells
      obtain ⟨xs, mm, _, _, hlen, hl', hel'⟩ := DataW.trod_struct Tryd.underlying24 ht
      rw [hC] at hlen
      obtain ⟨_, _, hcl⟩ := World.cells?_some hcells
      have ki : Tryd.prog.cellsOf 3 = 1 := by kernel_rfl
      have ks : Tryd.prog.cellsOf 9 = 1 := by kernel_rfl
      have kl : Tryd.prog.cellsOf 22 = 1 := by kernel_rfl
      match cs', hlen with
      | [c0, c1, c2, c3, c4, c5, c6, c7], _ =>
        match xs, hl' with
        | [x0, x1, x2, x3, x4, x5, x6, x7], _ =>
          have e0 := hcl 0 (by omega)
          have h0 : DataW.trod enc Tryd.prog W base (fun _ => true) true mm 3 (([c0, c1, c2, c3, c4, c5, c6, c7].drop 0).take (Tryd.prog.cellsOf 3)) = some x0 := hel' 0 _ rfl
          rw [ki] at h0
          obtain ⟨z0, q0, _, r0⟩ := DataW.trod_int Tryd.underlying3 h0
          have e1 := hcl 1 (by omega)
          have h1 : DataW.trod enc Tryd.prog W base (fun _ => true) true mm 3 (([c0, c1, c2, c3, c4, c5, c6, c7].drop 1).take (Tryd.prog.cellsOf 3)) = some x1 := hel' 1 _ rfl
          rw [ki] at h1
          obtain ⟨z1, q1, _, r1⟩ := DataW.trod_int Tryd.underlying3 h1
          have e2 := hcl 2 (by omega)
          have h2 : DataW.trod enc Tryd.prog W base (fun _ => true) true mm 3 (([c0, c1, c2, c3, c4, c5, c6, c7].drop 2).take (Tryd.prog.cellsOf 3)) = some x2 := hel' 2 _ rfl
          rw [ki] at h2
          obtain ⟨z2, q2, _, r2⟩ := DataW.trod_int Tryd.underlying3 h2
          have e3 := hcl 3 (by omega)
          have h3 : DataW.trod enc Tryd.prog W base (fun _ => true) true mm 3 (([c0, c1, c2, c3, c4, c5, c6, c7].drop 3).take (Tryd.prog.cellsOf 3)) = some x3 := hel' 3 _ rfl
          rw [ki] at h3
          obtain ⟨z3, q3, _, r3⟩ := DataW.trod_int Tryd.underlying3 h3
          have e4 := hcl 4 (by omega)
          have h4 : DataW.trod enc Tryd.prog W base (fun _ => true) true mm 3 (([c0, c1, c2, c3, c4, c5, c6, c7].drop 4).take (Tryd.prog.cellsOf 3)) = some x4 := hel' 4 _ rfl
          rw [ki] at h4
          obtain ⟨z4, q4, _, r4⟩ := DataW.trod_int Tryd.underlying3 h4
          have e5 := hcl 5 (by omega)
          have h5 : DataW.trod enc Tryd.prog W base (fun _ => true) true mm 3 (([c0, c1, c2, c3, c4, c5, c6, c7].drop 5).take (Tryd.prog.cellsOf 3)) = some x5 := hel' 5 _ rfl
          rw [ki] at h5
          obtain ⟨z5, q5, _, r5⟩ := DataW.trod_int Tryd.underlying3 h5
          have e6 := hcl 6 (by omega)
          have h6 : DataW.trod enc Tryd.prog W base (fun _ => true) true mm 9 (([c0, c1, c2, c3, c4, c5, c6, c7].drop 6).take (Tryd.prog.cellsOf 9)) = some x6 := hel' 6 _ rfl
          rw [ks] at h6
          obtain ⟨z6, q6, _, r6⟩ := DataW.trod_string Tryd.underlying9 h6
          have e7 := hcl 7 (by omega)
          have h7 : DataW.trod enc Tryd.prog W base (fun _ => true) true mm 22 (([c0, c1, c2, c3, c4, c5, c6, c7].drop 7).take (Tryd.prog.cellsOf 22)) = some x7 := hel' 7 _ rfl
          rw [kl] at h7
          obtain ⟨a', b', o', n', c', ss, q7, hat⟩ := strsAt_of2 h7
          simp only [List.drop_zero, List.drop_succ_cons, List.take_succ_cons, List.take_zero, List.cons.injEq, and_true] at q0 q1 q2 q3 q4 q5 q6 q7
          subst q0 q1 q2 q3 q4 q5 q6 q7
          obtain rfl := hat.len
          refine ⟨⟨z0, z1, z2, z3, z4, z5, z6, ss⟩, a', b', o', c', ?_, by simpa using e1, by simpa using e2, by simpa using e3, by simpa using e4, by simpa using e5, by simpa using e6, by simpa using e7, hat, r6, wf_I64 r0, wf_I64 r1, wf_I64 r2, wf_I64 r3, wf_I64 r4, wf_I64 r5⟩
          rw [show (y.add (i * 8)).add 0 = y.add (i * 8) by unfold Addr.add; split <;> simp_all] at e0
          simpa using e0
    obtain ⟨b, off, spot⟩ := y
    have hspot : spot = none := by
      obtain ⟨_, _, _, _, _, hc, _⟩ := each 0 (by omega)
      simpa [Addr.add] using World.cell?_spot hc
    subst hspot
    have each' : ∀ i, ∃ d : MgD, i < n → W.cell? ⟨b, off + i * 8, none⟩ = some (.int .i64 d.kd) ∧ W.cell? ⟨b, off + i * 8 + 1, none⟩ = some (.int .i64 d.fm) ∧ W.cell? ⟨b, off + i * 8 + 2, none⟩ = some (.int .i64 d.tw) ∧ W.cell? ⟨b, off + i * 8 + 3, none⟩ = some (.int .i64 d.ep) ∧ W.cell? ⟨b, off + i * 8 + 4, none⟩ = some (.int .i64 d.le) ∧ W.cell? ⟨b, off + i * 8 + 5, none⟩ = some (.int .i64 d.ta) ∧ W.cell? ⟨b, off + i * 8 + 6, none⟩ = some (.string d.x) ∧ (∃ a' b' o' c', W.cell? ⟨b, off + i * 8 + 7, none⟩ = some (.slice a' d.ss.length c') ∧ StrsAt W a' b' o' d.ss.length d.ss) ∧ d.x.size ≤ maxLen ∧ I64 d.kd ∧ I64 d.fm ∧ I64 d.tw ∧ I64 d.ep ∧ I64 d.le ∧ I64 d.ta := fun i => by
      by_cases hi : i < n
      · obtain ⟨d, a', b', o', c', q0, q1, q2, q3, q4, q5, q6, q7, hr⟩ := each i hi
        simp only [Addr.add_lit] at q0 q1 q2 q3 q4 q5 q6 q7
        exact ⟨d, fun _ => ⟨q0, q1, q2, q3, q4, q5, q6, ⟨a', b', o', c', q7, hr.1⟩, hr.2⟩⟩
      · exact ⟨dMgD, fun h => absurd h hi⟩
    obtain ⟨f, hf⟩ := Classical.skolem.1 each'
    have hget : ∀ j, j < n → gMs ((List.range n).map f) j = f j := fun j hj => by simp [gMs, List.getD, hj]
    refine ⟨_, b, off, n, c, (List.range n).map f, hcs, fun _ => rfl, by simp, by omega, fun _ => World.block_lt_of_cell? _ _ (hf 0 (by omega)).1, fun j hj => ?_, fun j hj => ?_, fun j hj => ?_, fun j hj => ?_, fun j hj => ?_, fun j hj => ?_, fun j hj => ?_, fun j hj => ?_, fun j hj => ?_, fun j hj => ?_⟩
    · rw [hget j hj]; exact (hf j hj).1
    · rw [hget j hj]; exact (hf j hj).2.1
    · rw [hget j hj]; exact (hf j hj).2.2.1
    · rw [hget j hj]; exact (hf j hj).2.2.2.1
    · rw [hget j hj]; exact (hf j hj).2.2.2.2.1
    · rw [hget j hj]; exact (hf j hj).2.2.2.2.2.1
    · rw [hget j hj]; exact (hf j hj).2.2.2.2.2.2.1
    · rw [hget j hj]; exact (hf j hj).2.2.2.2.2.2.2.1
    · rw [hget j hj]; exact (hf j hj).2.2.2.2.2.2.2.2.1
    · rw [hget j hj]; exact (hf j hj).2.2.2.2.2.2.2.2.2

namespace FPost
theorem laid_met (os : Os) : laidMet Tryd.prog Rows.fnExactPostRow.laid ((laidWorld os).forCall (fun _ _ => 0) ⟨#[], #[.slice none 0 0, .slice none 0 0, .string ⟨#[]⟩], []⟩).memory :=
  laidMet_of_run' 8 (by kernel_rfl) (by kernel_rfl)
def wds {H : Type} : List (DataW H) := [.nil, .nil, .lit (.string [])]
def wgs {H : Type} : List (DataW H) := [Rows.laid_loop_example_kilncrew_impl_usages]
theorem reads (os : Os) {H : Type} (enc : TypeId × Value → H) : ∃ places, DataW.whole enc Tryd.prog ((laidWorld os).forCall (fun _ _ => 0) ⟨#[], #[.slice none 0 0, .slice none 0 0, .string ⟨#[]⟩], []⟩).memory Tryd.f7.params.toList Rows.fnExactPostSpec.vars false #[Value.slice none 0 0, .slice none 0 0, .string ⟨#[]⟩].toList 8 = some (wds, wgs, places) := by
  have h : (DataW.whole enc Tryd.prog ((laidWorld os).forCall (fun _ _ => 0) ⟨#[], #[.slice none 0 0, .slice none 0 0, .string ⟨#[]⟩], []⟩).memory Tryd.f7.params.toList Rows.fnExactPostSpec.vars false #[Value.slice none 0 0, .slice none 0 0, .string ⟨#[]⟩].toList 8).map (fun x => (x.1, x.2.1)) = some (wds, wgs) := by kernel_rfl
  obtain ⟨⟨ds, gs, places⟩, hx, hy⟩ := Option.map_eq_some_iff.1 h
  simp only [Prod.mk.injEq] at hy
  obtain ⟨rfl, rfl⟩ := hy
  exact ⟨places, hx⟩

set_option maxRecDepth 100000 in
theorem contract (H : Type) (enc : TypeId × Value → H) (W : World) (base : Nat) (args : Array Value) (ds gs : List (DataW H)) (before : List MemPlace)
    (hval : ∀ (j : Nat) t v, Tryd.f7.params[j]? = some t → args[j]? = some v → Value.okWide Tryd.prog W .any base t v)
    (hW : DataW.Whole enc Tryd.prog Tryd.f7.params.toList Rows.fnExactPostSpec.vars false W args.toList ds gs before) (hL : laidMetH Tryd.prog Rows.fnExactPostRow.laid W) :
    Calls Tryd.prog 7 args W fun e W' => ∃ v, e = .returned v ∧ Rows.fnExactPostSpec.post enc Tryd.prog Tryd.f7 false true false false W args v W' := by
  have hT : Tab W := tab_of (l := Rows.fnExactPostRow.laid) (by rw [MakeChecks.laidMetH_plain _ _ _ (by kernel_rfl)] at hL; exact hL) (List.mem_cons_self ..)
  have hW' := hW
  obtain ⟨p, q, hA0, hV, rfl, hfz, hnd⟩ := hW
  have hA : DataW.TrodAll enc Tryd.prog W 0 (fun _ => true) true Tryd.f7.params.toList args.toList ds p := hA0
  rw [Tryd.params7] at hA hval
  obtain ⟨v0, vs0, d0, ds0, p0, q0, hargs, rfl, rfl, h0, r0⟩ := trodAll_cons hA
  obtain ⟨v1, vs1, d1, ds1, p1, q1, rfl, rfl, rfl, h1, r1⟩ := trodAll_cons r0
  obtain ⟨v2, vs2, d2, ds2, p2, q2, rfl, rfl, rfl, h2, r2⟩ := trodAll_cons r1
  obtain ⟨rfl, rfl, rfl⟩ := trodAll_nil r2
  obtain rfl : args = #[v0, v1, v2] := by cases args; simp_all
  have hV0 := hV
  obtain ⟨_, _, _, _, dv, _, rfl, _⟩ := trodVars_one hV
  have k0 := h0
  have lt0 : ∀ x ∈ p0, x.block < W.heap.size := by obtain ⟨m, hm⟩ := k0; exact DataW.trod_lt m _ _ _ hm
  have k1 := h1
  have lt1 : ∀ x ∈ p1, x.block < W.heap.size := by obtain ⟨m, hm⟩ := k1; exact DataW.trod_lt m _ _ _ hm
  obtain ⟨a, n, c, rfl⟩ := okWide_slice Tryd.underlying48 (hval 0 48 v0 rfl rfl)
  obtain ⟨fuel, hf⟩ := h0
  obtain ⟨a', b, o, n', c', P, hcs, hat⟩ := atParcel_of hf
  simp only [Value.cells, List.cons.injEq, Value.slice.injEq, and_true] at hcs
  obtain ⟨rfl, rfl, rfl⟩ := hcs
  obtain ⟨a2, n2, c2, rfl⟩ := okWide_slice Tryd.underlying49 (hval 1 49 v1 rfl rfl)
  obtain ⟨fuel2, hf2⟩ := h1
  obtain ⟨a2', b2, o2, n2', c2', M, hcs2, hat2⟩ := atMessage_of hf2
  simp only [Value.cells, List.cons.injEq, Value.slice.injEq, and_true] at hcs2
  obtain ⟨rfl, rfl, rfl⟩ := hcs2
  obtain ⟨s2, rfl, rfl, rfl, hs2⟩ := open_string Tryd.underlying9 (hval 2 9 v2 rfl rfl) h2
  clear hA0
  refine (fnExactPost_walk a b o n c P a2 b2 o2 n2 c2 M s2 W hT hat hat2 hs2).mono fun e' W' ⟨he, bel⟩ => ?_
  subst he
  exact ⟨_, rfl, _, _, _, [], _, _, hW', trodAll_mk1 (shut_bool Tryd.underlying4 _), (trodAll_cons_mk (Below.trod Tryd.laidOut (by kernel_rfl) (of_decide_eq_true (by kernel_rfl)) k0 bel lt0) (trodAll_cons_mk (Below.trod Tryd.laidOut (by kernel_rfl) (of_decide_eq_true (by kernel_rfl)) k1 bel lt1) (trodAll_cons_mk (shut_string Tryd.underlying9 hs2) trodAll_mk0))), bel.trodVars Tryd.laidOut (by kernel_rfl) hV0, bel.frame _, fun h => by cases h⟩

set_option maxRecDepth 100000 in
theorem lifted (os : Os) (started : os.Started) (H : Type) (enc : TypeId × Value → H) (F : Stop.Interp) :
    ReturnsInHanded {} Tryd.checked os 7 .any ((OpenSpec.ofChange Rows.fnExactPostSpec).preRow enc Tryd.prog Tryd.f7 Rows.fnExactPostRow.domain false Rows.fnExactPostRow.laid) (((OpenSpec.ofChange Rows.fnExactPostSpec).at F).post enc Tryd.prog Tryd.f7 false true false false) := by
  obtain ⟨places, hx⟩ := reads os enc
  refine returnsInHanded_of_row (C := Tryd.checked) (s := OpenSpec.ofChange Rows.fnExactPostSpec) Tryd.own started (by kernel_rfl) Tryd.func7
    (witness_row_at (enc := enc) (C := Tryd.checked) false (laidWorld os) #[.slice none 0 0, .slice none 0 0, .string ⟨#[]⟩] rfl (by kernel_rfl) (by kernel_rfl) (by kernel_rfl)
      (OpenSpec.preRow_of_cond 8 hx (by kernel_rfl) (fun k hk => by cases hk) (by kernel_rfl) (laid_met os))) ?_
  intro W base args ds gs before hval hW _ _ _ hL _ _
  exact contract H enc W base args ds gs before hval hW hL

theorem said : Rows.FnExactPostSaid :=
  OpenClaim.holds_of_cond 7 Tryd.f7 rfl rfl rfl rfl rfl rfl rfl ⟨rfl, rfl, rfl, rfl, rfl⟩ rfl rfl rfl rfl rfl (by kernel_rfl) Tryd.func7 (by kernel_rfl)
    (of_decide_eq_true (by kernel_rfl)) (by unfold Func.isWrapper; first | (rw [if_pos (by decide +kernel)]; kernel_rfl) | (rw [if_neg (by decide +kernel)]; exact ⟨rfl, rfl⟩))
    (fun os started H enc _ F => by rw [OpenClaim.pre_eq_preRow]; exact lifted os started H enc F)

theorem plain (f : FuncId) (fn : Func) (hf : Tryd.pinned.checked.prog.funcNamed "loop.example/kilncrew/laws.FnExactPost" = some f) (hfn : Tryd.pinned.checked.prog.funcs[f]? = some fn) :
    true = Tryd.pinned.checked.prog.looks [] ∧ ∀ (j : Nat) t, fn.params[j]? = some t → Tryd.pinned.checked.prog.wantsStandIn t = false := by
  obtain rfl : f = 7 := Option.some.inj ((show Tryd.prog.funcNamed "loop.example/kilncrew/laws.FnExactPost" = some 7 by kernel_rfl).symm.trans hf) |>.symm
  obtain rfl : fn = Tryd.f7 := (Option.some.inj (Tryd.func7.symm.trans hfn)).symm
  refine ⟨by kernel_rfl, fun j t ht => ?_⟩
  rw [Tryd.params7] at ht
  have hm : t ∈ [48, 49, 9] := by simpa using Array.mem_of_getElem? ht
  have hall : ([48, 49, 9].all fun u => !Tryd.prog.wantsStandIn u) = true := by kernel_rfl
  exact (show Tryd.prog.wantsStandIn t = false by simpa using List.all_eq_true.1 hall t hm)
end FPost

/-- THE CARD. -/
theorem fnExactPost_card : Rows.FnExactPostCardSaid :=
  Claim7.holds_tied_plain_at .later [] _ _ _ _ FPost.said (fun _ h => by cases h) (by kernel_rfl) (fun _ h => by cases h) fnExactPost_row_tie rfl ⟨rfl, rfl⟩ (by kernel_rfl) rfl FPost.plain (by kernel_rfl)
#print axioms fnExactPost_card
end Go.Proofs.YtlgmkmegkojgbaaDoor
