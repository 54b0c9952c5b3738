
/-
  THE ROW of FnExactValidBoss, proved.
-/
import Derived.Test.YtoikcjeagigmfaaLawVb
import Derived.Test.YtoikcjeagigmfaaRowPl
namespace Go.Proofs.Ytoikcjeagigmfaa
open Go.ChangeShapes Go.WideShapes Go.ChangeAt Go.RowKit Go.Deep
open Go.ChangeMaps (open_string shut_string)

set_option maxRecDepth 100000 in
theorem atJob_of {H : Type} {enc : TypeId × Value → H} {W : World} {base fuel : Nat} {cs : List Value} {x : DataW H × List MemPlace}
    (hf : DataW.trod enc Try.prog W base (fun _ => true) true fuel 55 cs = some x) : ∃ a b o n c, ∃ J : List Tr, cs = [.slice a n c] ∧ T3At W a b o n J := by
  rcases open_slice Try.underlying55 hf with ⟨hcs, _⟩ | ⟨y, n, c, m, fu, D, Pl, hcs, _, hl, hm, hmm, _, hel⟩
  · exact ⟨none, 0, 0, 0, 0, [], hcs, fun h => absurd h (by omega), rfl, Nat.zero_le _, fun h => absurd h (by omega), fun j hj => absurd hj (by omega), fun j hj => absurd hj (by omega), fun j hj => absurd hj (by omega), fun j hj => absurd hj (by omega)⟩
  · have hm' : m = c := by simpa using hmm
    have hC : Try.prog.cellsOf 143 = 3 := by kernel_rfl
    by_cases h0 : n = 0
    · subst h0
      exact ⟨some y, 0, 0, 0, c, [], hcs, fun h => absurd h (by omega), rfl, Nat.zero_le _, fun h => absurd h (by omega), fun j hj => absurd hj (by omega), fun j hj => absurd hj (by omega), fun j hj => absurd hj (by omega), fun j hj => absurd hj (by omega)⟩
    have each : ∀ i, i < n → ∃ (x y' z : Int), W.cell? (y.add (i * 3)) = some (.int .i64 x) ∧ W.cell? ((y.add (i * 3)).add 1) = some (.int .i64 y') ∧ W.cell? ((y.add (i * 3)).add 2) = some (.int .i64 z) ∧ I64 x ∧ I64 y' ∧ I64 z := fun i hi => by
      obtain ⟨cs', hcells, ht⟩ := hel i (by omega)
      rw [hC] at hcells
      obtain ⟨xs, mm, _, _, hlen, hl', hel'⟩ := DataW.trod_struct Try.underlying143 ht
      rw [hC] at hlen
      obtain ⟨_, _, hcl⟩ := World.cells?_some hcells
      have ki : Try.prog.cellsOf 3 = 1 := by kernel_rfl
      have kb : Try.prog.cellsOf 4 = 1 := by kernel_rfl
      match cs', hlen with
      | [c0, c1, c2], _ =>
        match xs, hl' with
        | [x0, x1, x2], _ =>
          have e0 := hcl 0 (by omega)
          have h0 : DataW.trod enc Try.prog W base (fun _ => true) true mm 3 (([c0, c1, c2].drop 0).take (Try.prog.cellsOf 3)) = some x0 := hel' 0 _ rfl
          rw [ki] at h0
          obtain ⟨z0, q0, _, r0⟩ := DataW.trod_int Try.underlying3 h0
          have e1 := hcl 1 (by omega)
          have h1 : DataW.trod enc Try.prog W base (fun _ => true) true mm 3 (([c0, c1, c2].drop 1).take (Try.prog.cellsOf 3)) = some x1 := hel' 1 _ rfl
          rw [ki] at h1
          obtain ⟨z1, q1, _, r1⟩ := DataW.trod_int Try.underlying3 h1
          have e2 := hcl 2 (by omega)
          have h2 : DataW.trod enc Try.prog W base (fun _ => true) true mm 3 (([c0, c1, c2].drop 2).take (Try.prog.cellsOf 3)) = some x2 := hel' 2 _ rfl
          rw [ki] at h2
          obtain ⟨z2, q2, _, r2⟩ := DataW.trod_int Try.underlying3 h2
          simp only [List.drop_zero, List.drop_succ_cons, List.take_succ_cons, List.take_zero, List.cons.injEq, and_true] at q0 q1 q2
          subst q0 q1 q2
          refine ⟨z0, z1, z2, ?_, by simpa using e1, by simpa using e2, wf_I64 r0, wf_I64 r1, wf_I64 r2⟩
          rw [show (y.add (i * 3)).add 0 = y.add (i * 3) by unfold Addr.add; split <;> simp_all] at e0
          simpa using e0
    obtain ⟨b, off, spot⟩ := y
    have hspot : spot = none := by
      obtain ⟨_, _, _, hc, _⟩ := each 0 (by omega)
      simpa [Addr.add] using World.cell?_spot hc
    subst hspot
    have each' : ∀ i, ∃ t : Tr, i < n → W.cell? ⟨b, off + i * 3, none⟩ = some (.int .i64 t.1) ∧ W.cell? ⟨b, off + i * 3 + 1, none⟩ = some (.int .i64 t.2.1) ∧ W.cell? ⟨b, off + i * 3 + 2, none⟩ = some (.int .i64 t.2.2) ∧ I64 t.1 ∧ I64 t.2.1 ∧ I64 t.2.2 := fun i => by
      by_cases hi : i < n
      · obtain ⟨z0, z1, z2, q0, q1, q2, hr⟩ := each i hi
        simp only [Addr.add_lit] at q0 q1 q2
        exact ⟨(z0, z1, z2), fun _ => ⟨q0, q1, q2, hr⟩⟩
      · exact ⟨((0, 0, 0) : Tr), fun h => absurd h hi⟩
    obtain ⟨f, hf⟩ := Classical.skolem.1 each'
    have hget : ∀ j, j < n → t3 ((List.range n).map f) j = f j := fun j hj => by simp [t3, List.getD, hj]
    refine ⟨_, b, off, n, c, (List.range n).map f, hcs, fun _ => rfl, by simp, by omega, fun _ => World.block_lt_of_cell? _ _ (hf 0 (by omega)).1, fun j hj => ?_, fun j hj => ?_, fun j hj => ?_, fun j hj => ?_⟩
    · rw [hget j hj]; exact (hf j hj).1
    · rw [hget j hj]; exact (hf j hj).2.1
    · rw [hget j hj]; exact (hf j hj).2.2.1
    · rw [hget j hj]; exact (hf j hj).2.2.2

set_option maxRecDepth 100000 in
theorem atOwed_of {H : Type} {enc : TypeId × Value → H} {W : World} {base fuel : Nat} {cs : List Value} {x : DataW H × List MemPlace}
    (hf : DataW.trod enc Try.prog W base (fun _ => true) true fuel 57 cs = some x) : ∃ a b o n c, ∃ J : List Tr, cs = [.slice a n c] ∧ T3At W a b o n J := by
  rcases open_slice Try.underlying57 hf with ⟨hcs, _⟩ | ⟨y, n, c, m, fu, D, Pl, hcs, _, hl, hm, hmm, _, hel⟩
  · exact ⟨none, 0, 0, 0, 0, [], hcs, fun h => absurd h (by omega), rfl, Nat.zero_le _, fun h => absurd h (by omega), fun j hj => absurd hj (by omega), fun j hj => absurd hj (by omega), fun j hj => absurd hj (by omega), fun j hj => absurd hj (by omega)⟩
  · have hm' : m = c := by simpa using hmm
    have hC : Try.prog.cellsOf 147 = 3 := by kernel_rfl
    by_cases h0 : n = 0
    · subst h0
      exact ⟨some y, 0, 0, 0, c, [], hcs, fun h => absurd h (by omega), rfl, Nat.zero_le _, fun h => absurd h (by omega), fun j hj => absurd hj (by omega), fun j hj => absurd hj (by omega), fun j hj => absurd hj (by omega), fun j hj => absurd hj (by omega)⟩
    have each : ∀ i, i < n → ∃ (x y' z : Int), W.cell? (y.add (i * 3)) = some (.int .i64 x) ∧ W.cell? ((y.add (i * 3)).add 1) = some (.int .i64 y') ∧ W.cell? ((y.add (i * 3)).add 2) = some (.int .i64 z) ∧ I64 x ∧ I64 y' ∧ I64 z := fun i hi => by
      obtain ⟨cs', hcells, ht⟩ := hel i (by omega)
      rw [hC] at hcells
      obtain ⟨xs, mm, _, _, hlen, hl', hel'⟩ := DataW.trod_struct Try.underlying147 ht
      rw [hC] at hlen
      obtain ⟨_, _, hcl⟩ := World.cells?_some hcells
      have ki : Try.prog.cellsOf 3 = 1 := by kernel_rfl
      have kb : Try.prog.cellsOf 4 = 1 := by kernel_rfl
      match cs', hlen with
      | [c0, c1, c2], _ =>
        match xs, hl' with
        | [x0, x1, x2], _ =>
          have e0 := hcl 0 (by omega)
          have h0 : DataW.trod enc Try.prog W base (fun _ => true) true mm 3 (([c0, c1, c2].drop 0).take (Try.prog.cellsOf 3)) = some x0 := hel' 0 _ rfl
          rw [ki] at h0
          obtain ⟨z0, q0, _, r0⟩ := DataW.trod_int Try.underlying3 h0
          have e1 := hcl 1 (by omega)
          have h1 : DataW.trod enc Try.prog W base (fun _ => true) true mm 3 (([c0, c1, c2].drop 1).take (Try.prog.cellsOf 3)) = some x1 := hel' 1 _ rfl
          rw [ki] at h1
          obtain ⟨z1, q1, _, r1⟩ := DataW.trod_int Try.underlying3 h1
          have e2 := hcl 2 (by omega)
          have h2 : DataW.trod enc Try.prog W base (fun _ => true) true mm 3 (([c0, c1, c2].drop 2).take (Try.prog.cellsOf 3)) = some x2 := hel' 2 _ rfl
          rw [ki] at h2
          obtain ⟨z2, q2, _, r2⟩ := DataW.trod_int Try.underlying3 h2
          simp only [List.drop_zero, List.drop_succ_cons, List.take_succ_cons, List.take_zero, List.cons.injEq, and_true] at q0 q1 q2
          subst q0 q1 q2
          refine ⟨z0, z1, z2, ?_, by simpa using e1, by simpa using e2, wf_I64 r0, wf_I64 r1, wf_I64 r2⟩
          rw [show (y.add (i * 3)).add 0 = y.add (i * 3) by unfold Addr.add; split <;> simp_all] at e0
          simpa using e0
    obtain ⟨b, off, spot⟩ := y
    have hspot : spot = none := by
      obtain ⟨_, _, _, hc, _⟩ := each 0 (by omega)
      simpa [Addr.add] using World.cell?_spot hc
    subst hspot
    have each' : ∀ i, ∃ t : Tr, i < n → W.cell? ⟨b, off + i * 3, none⟩ = some (.int .i64 t.1) ∧ W.cell? ⟨b, off + i * 3 + 1, none⟩ = some (.int .i64 t.2.1) ∧ W.cell? ⟨b, off + i * 3 + 2, none⟩ = some (.int .i64 t.2.2) ∧ I64 t.1 ∧ I64 t.2.1 ∧ I64 t.2.2 := fun i => by
      by_cases hi : i < n
      · obtain ⟨z0, z1, z2, q0, q1, q2, hr⟩ := each i hi
        simp only [Addr.add_lit] at q0 q1 q2
        exact ⟨(z0, z1, z2), fun _ => ⟨q0, q1, q2, hr⟩⟩
      · exact ⟨((0, 0, 0) : Tr), fun h => absurd h hi⟩
    obtain ⟨f, hf⟩ := Classical.skolem.1 each'
    have hget : ∀ j, j < n → t3 ((List.range n).map f) j = f j := fun j hj => by simp [t3, List.getD, hj]
    refine ⟨_, b, off, n, c, (List.range n).map f, hcs, fun _ => rfl, by simp, by omega, fun _ => World.block_lt_of_cell? _ _ (hf 0 (by omega)).1, fun j hj => ?_, fun j hj => ?_, fun j hj => ?_, fun j hj => ?_⟩
    · rw [hget j hj]; exact (hf j hj).1
    · rw [hget j hj]; exact (hf j hj).2.1
    · rw [hget j hj]; exact (hf j hj).2.2.1
    · rw [hget j hj]; exact (hf j hj).2.2.2

set_option maxRecDepth 100000 in
theorem atSeat_of {H : Type} {enc : TypeId × Value → H} {W : World} {base fuel : Nat} {cs : List Value} {x : DataW H × List MemPlace}
    (hf : DataW.trod enc Try.prog W base (fun _ => true) true fuel 56 cs = some x) : ∃ a b o n c, ∃ J : List (Bool × Int), cs = [.slice a n c] ∧ T2At W a b o n J := by
  rcases open_slice Try.underlying56 hf with ⟨hcs, _⟩ | ⟨y, n, c, m, fu, D, Pl, hcs, _, hl, hm, hmm, _, hel⟩
  · exact ⟨none, 0, 0, 0, 0, [], hcs, fun h => absurd h (by omega), rfl, Nat.zero_le _, fun h => absurd h (by omega), fun j hj => absurd hj (by omega), fun j hj => absurd hj (by omega), fun j hj => absurd hj (by omega)⟩
  · have hm' : m = c := by simpa using hmm
    have hC : Try.prog.cellsOf 145 = 2 := by kernel_rfl
    by_cases h0 : n = 0
    · subst h0
      exact ⟨some y, 0, 0, 0, c, [], hcs, fun h => absurd h (by omega), rfl, Nat.zero_le _, fun h => absurd h (by omega), fun j hj => absurd hj (by omega), fun j hj => absurd hj (by omega), fun j hj => absurd hj (by omega)⟩
    have each : ∀ i, i < n → ∃ (x : Bool) (y' : Int), W.cell? (y.add (i * 2)) = some (.bool x) ∧ W.cell? ((y.add (i * 2)).add 1) = some (.int .i64 y') ∧ I64 y' := fun i hi => by
      obtain ⟨cs', hcells, ht⟩ := hel i (by omega)
      rw [hC] at hcells
      obtain ⟨xs, mm, _, _, hlen, hl', hel'⟩ := DataW.trod_struct Try.underlying145 ht
      rw [hC] at hlen
      obtain ⟨_, _, hcl⟩ := World.cells?_some hcells
      have ki : Try.prog.cellsOf 3 = 1 := by kernel_rfl
      have kb : Try.prog.cellsOf 4 = 1 := by kernel_rfl
      match cs', hlen with
      | [c0, c1], _ =>
        match xs, hl' with
        | [x0, x1], _ =>
          have e0 := hcl 0 (by omega)
          have h0 : DataW.trod enc Try.prog W base (fun _ => true) true mm 4 (([c0, c1].drop 0).take (Try.prog.cellsOf 4)) = some x0 := hel' 0 _ rfl
          rw [kb] at h0
          obtain ⟨z0, q0, _⟩ := DataW.trod_bool Try.underlying4 h0
          have e1 := hcl 1 (by omega)
          have h1 : DataW.trod enc Try.prog W base (fun _ => true) true mm 3 (([c0, c1].drop 1).take (Try.prog.cellsOf 3)) = some x1 := hel' 1 _ rfl
          rw [ki] at h1
          obtain ⟨z1, q1, _, r1⟩ := DataW.trod_int Try.underlying3 h1
          simp only [List.drop_zero, List.drop_succ_cons, List.take_succ_cons, List.take_zero, List.cons.injEq, and_true] at q0 q1
          subst q0 q1
          refine ⟨z0, z1, ?_, by simpa using e1, wf_I64 r1⟩
          rw [show (y.add (i * 2)).add 0 = y.add (i * 2) by unfold Addr.add; split <;> simp_all] at e0
          simpa using e0
    obtain ⟨b, off, spot⟩ := y
    have hspot : spot = none := by
      obtain ⟨_, _, hc, _⟩ := each 0 (by omega)
      simpa [Addr.add] using World.cell?_spot hc
    subst hspot
    have each' : ∀ i, ∃ t : Bool × Int, i < n → W.cell? ⟨b, off + i * 2, none⟩ = some (.bool t.1) ∧ W.cell? ⟨b, off + i * 2 + 1, none⟩ = some (.int .i64 t.2) ∧ I64 t.2 := fun i => by
      by_cases hi : i < n
      · obtain ⟨z0, z1, q0, q1, hr⟩ := each i hi
        simp only [Addr.add_lit] at q0 q1
        exact ⟨(z0, z1), fun _ => ⟨q0, q1, hr⟩⟩
      · exact ⟨((false, 0) : Bool × Int), fun h => absurd h hi⟩
    obtain ⟨f, hf⟩ := Classical.skolem.1 each'
    have hget : ∀ j, j < n → t2 ((List.range n).map f) j = f j := fun j hj => by simp [t2, List.getD, hj]
    refine ⟨_, b, off, n, c, (List.range n).map f, hcs, fun _ => rfl, by simp, by omega, fun _ => World.block_lt_of_cell? _ _ (hf 0 (by omega)).1, fun j hj => ?_, fun j hj => ?_, fun j hj => ?_⟩
    · rw [hget j hj]; exact (hf j hj).1
    · rw [hget j hj]; exact (hf j hj).2.1
    · rw [hget j hj]; exact (hf j hj).2.2

set_option maxRecDepth 100000 in
/-- A coordinator that came in. -/
theorem bossAt_of {H : Type} {enc : TypeId × Value → H} {W : World} {base fuel : Nat} {v : Value} {y : DataW H × List MemPlace}
    (hv : ∃ cs, v = .agg cs ∧ cs.size = Try.prog.cellsOf 59) (hf : DataW.trod enc Try.prog W base (fun _ => true) true fuel 59 v.cells.toList = some y) :
    ∃ (wk : Int) (up : Bool) (now sn ep gv : Int) (a1 a2 ar aj az ao : Option Addr) (n1 c1 n2 c2 nr cr nj cj ns cs no co : Nat) (bl1 ol1 bl2 ol2 br or' bj oj bs os' bo oo : Nat) (L1 L2 R : List ByteArray) (J : List Tr) (S : List (Bool × Int)) (O : List Tr), v = .agg #[.int .i64 wk, .bool up, .int .i64 now, .int .i64 sn, .int .i64 ep, .int .i64 gv, .slice a1 n1 c1, .slice a2 n2 c2, .slice ar nr cr, .slice aj nj cj, .slice az ns cs, .slice ao no co] ∧ StrsAt W a1 bl1 ol1 n1 L1 ∧ StrsAt W a2 bl2 ol2 n2 L2 ∧ StrsAt W ar br or' nr R ∧ T3At W aj bj oj nj J ∧ T2At W az bs os' ns S ∧ T3At W ao bo oo no O := by
  obtain ⟨cs, rfl, hcs⟩ := hv
  have hC : Try.prog.cellsOf 59 = 12 := by kernel_rfl
  rw [hC] at hcs
  obtain ⟨l⟩ := cs
  obtain ⟨xs, m, _, ex, hlen, hl, hel⟩ := DataW.trod_struct Try.underlying59 hf
  match l, hcs with
  | [c0, c1, c2, c3, c4, c5, c6, c7, c8, c9, c10, c11], _ =>
    match xs, hl with
    | [x0, x1, x2, x3, x4, x5, x6, x7, x8, x9, x10], _ =>
      have kint : Try.prog.cellsOf 3 = 1 := by kernel_rfl
      have kbool : Try.prog.cellsOf 4 = 1 := by kernel_rfl
      have kLog : Try.prog.cellsOf 54 = 2 := by kernel_rfl
      have kstr : Try.prog.cellsOf 36 = 1 := by kernel_rfl
      have kJob : Try.prog.cellsOf 55 = 1 := by kernel_rfl
      have kSeat : Try.prog.cellsOf 56 = 1 := by kernel_rfl
      have kOwed : Try.prog.cellsOf 57 = 1 := by kernel_rfl
      have k0 : DataW.trod enc Try.prog W base (fun _ => true) true m 3 (([c0, c1, c2, c3, c4, c5, c6, c7, c8, c9, c10, c11].drop 0).take (Try.prog.cellsOf 3)) = some x0 := hel 0 _ rfl
      rw [kint] at k0
      have k1 : DataW.trod enc Try.prog W base (fun _ => true) true m 4 (([c0, c1, c2, c3, c4, c5, c6, c7, c8, c9, c10, c11].drop 1).take (Try.prog.cellsOf 4)) = some x1 := hel 1 _ rfl
      rw [kbool] at k1
      have k2 : DataW.trod enc Try.prog W base (fun _ => true) true m 3 (([c0, c1, c2, c3, c4, c5, c6, c7, c8, c9, c10, c11].drop 2).take (Try.prog.cellsOf 3)) = some x2 := hel 2 _ rfl
      rw [kint] at k2
      have k3 : DataW.trod enc Try.prog W base (fun _ => true) true m 3 (([c0, c1, c2, c3, c4, c5, c6, c7, c8, c9, c10, c11].drop 3).take (Try.prog.cellsOf 3)) = some x3 := hel 3 _ rfl
      rw [kint] at k3
      have k4 : DataW.trod enc Try.prog W base (fun _ => true) true m 3 (([c0, c1, c2, c3, c4, c5, c6, c7, c8, c9, c10, c11].drop 4).take (Try.prog.cellsOf 3)) = some x4 := hel 4 _ rfl
      rw [kint] at k4
      have k5 : DataW.trod enc Try.prog W base (fun _ => true) true m 3 (([c0, c1, c2, c3, c4, c5, c6, c7, c8, c9, c10, c11].drop 5).take (Try.prog.cellsOf 3)) = some x5 := hel 5 _ rfl
      rw [kint] at k5
      have k6 : DataW.trod enc Try.prog W base (fun _ => true) true m 54 (([c0, c1, c2, c3, c4, c5, c6, c7, c8, c9, c10, c11].drop 6).take (Try.prog.cellsOf 54)) = some x6 := hel 6 _ rfl
      rw [kLog] at k6
      have k7 : DataW.trod enc Try.prog W base (fun _ => true) true m 36 (([c0, c1, c2, c3, c4, c5, c6, c7, c8, c9, c10, c11].drop 8).take (Try.prog.cellsOf 36)) = some x7 := hel 7 _ rfl
      rw [kstr] at k7
      have k8 : DataW.trod enc Try.prog W base (fun _ => true) true m 55 (([c0, c1, c2, c3, c4, c5, c6, c7, c8, c9, c10, c11].drop 9).take (Try.prog.cellsOf 55)) = some x8 := hel 8 _ rfl
      rw [kJob] at k8
      have k9 : DataW.trod enc Try.prog W base (fun _ => true) true m 56 (([c0, c1, c2, c3, c4, c5, c6, c7, c8, c9, c10, c11].drop 10).take (Try.prog.cellsOf 56)) = some x9 := hel 9 _ rfl
      rw [kSeat] at k9
      have k10 : DataW.trod enc Try.prog W base (fun _ => true) true m 57 (([c0, c1, c2, c3, c4, c5, c6, c7, c8, c9, c10, c11].drop 11).take (Try.prog.cellsOf 57)) = some x10 := hel 10 _ rfl
      rw [kOwed] at k10
      obtain ⟨z0, e0, _, _⟩ := DataW.trod_int Try.underlying3 k0
      obtain ⟨z2, e2, _, _⟩ := DataW.trod_int Try.underlying3 k2
      obtain ⟨z3, e3, _, _⟩ := DataW.trod_int Try.underlying3 k3
      obtain ⟨z4, e4, _, _⟩ := DataW.trod_int Try.underlying3 k4
      obtain ⟨z5, e5, _, _⟩ := DataW.trod_int Try.underlying3 k5
      obtain ⟨z1, e1, _⟩ := DataW.trod_bool Try.underlying4 k1
      obtain ⟨ys, m2, _, _, _, hl2, hel2⟩ := DataW.trod_struct Try.underlying54 k6
      match ys, hl2 with
      | [y0, y1], _ =>
        have j0 : DataW.trod enc Try.prog W base (fun _ => true) true m2 36 (((([c0, c1, c2, c3, c4, c5, c6, c7, c8, c9, c10, c11].drop 6).take 2).drop 0).take (Try.prog.cellsOf 36)) = some y0 := hel2 0 _ rfl
        have j1 : DataW.trod enc Try.prog W base (fun _ => true) true m2 36 (((([c0, c1, c2, c3, c4, c5, c6, c7, c8, c9, c10, c11].drop 6).take 2).drop 1).take (Try.prog.cellsOf 36)) = some y1 := hel2 1 _ rfl
        rw [kstr] at j0 j1
        obtain ⟨a1, b1, o1, n1, d1, L1, f1, h1⟩ := strsAt_of2 j0
        obtain ⟨a2, b2, o2, n2, d2, L2, f2, h2⟩ := strsAt_of2 j1
        obtain ⟨ar, br, oR, nr, dr, R, fr, hR⟩ := strsAt_of2 k7
        obtain ⟨aj, bj, oj, nj, dj, J, fj, hJ⟩ := atJob_of k8
        obtain ⟨az, bs, os, ns, ds, S, fs, hS⟩ := atSeat_of k9
        obtain ⟨ao, bo, oo, no, d0, O, fo, hO⟩ := atOwed_of k10
        simp only [List.drop_zero, List.drop_succ_cons, List.take_succ_cons, List.take_zero, List.cons.injEq, and_true] at e0 e1 e2 e3 e4 e5 f1 f2 fr fj fs fo
        subst e0 e1 e2 e3 e4 e5 f1 f2 fr fj fs fo
        exact ⟨z0, z1, z2, z3, z4, z5, a1, a2, ar, aj, az, ao, n1, d1, n2, d2, nr, dr, nj, dj, ns, ds, no, d0, b1, o1, b2, o2, br, oR, bj, oj, bs, os, bo, oo, L1, L2, R, J, S, O, rfl, h1, h2, hR, hJ, hS, hO⟩

set_option maxRecDepth 100000 in
theorem fnExactValidBoss_lifted (os : Os) (started : os.Started) (H : Type) (enc : TypeId × Value → H) :
    ReturnsInHanded {} Try.checked os 6 .any (Rows.fnExactValidBossSpec.pre6 enc Try.prog Try.f6 Rows.fnExactValidBossRow.domain false) (Rows.fnExactValidBossSpec.post enc Try.prog Try.f6 false true false false) := by
  refine returnsInHanded_of_change (C := Try.checked) Try.own started (by kernel_rfl) Try.func6
    (ChangeSpec.witness6 (enc := enc) (C := Try.checked) false ⟨#[], #[.agg #[.int .i64 0, .bool false, .int .i64 0, .int .i64 0, .int .i64 0, .int .i64 0, .slice none 0 0, .slice none 0 0, .slice none 0 0, .slice none 0 0, .slice none 0 0, .slice none 0 0], .agg #[.slice none 0 0]], []⟩ 8 (by kernel_rfl) (by kernel_rfl) (by kernel_rfl) (by kernel_rfl)) ?_
  intro W base args ds gs before hval0 hW hcnd _
  have hval : ∀ (j : Nat) t v, Try.f6.params[j]? = some t → args[j]? = some v → Value.okWide Try.prog W .any base t v := hval0
  have hW' := hW
  obtain ⟨p, q, hA0, hV, rfl, hfz, hnd⟩ := hW
  have hA : DataW.TrodAll enc Try.prog W 0 (fun _ => true) true Try.f6.params.toList args.toList ds p := hA0
  rw [Try.params6] at hA hval
  obtain ⟨v0, vs0, d0, ds0, p0, q0, hargs, rfl, rfl, h0, r0⟩ := trodAll_cons hA
  obtain ⟨v1, vs1, d1, ds1, p1, q1, rfl, rfl, rfl, h1, r1⟩ := trodAll_cons r0
  obtain ⟨rfl, rfl, rfl⟩ := trodAll_nil r1
  obtain rfl : args = #[v0, v1] := by cases args; simp_all
  obtain ⟨rfl, rfl⟩ := trodVars_none hV
  have k0 := h0
  have lt0 : ∀ x ∈ p0, x.block < W.heap.size := by obtain ⟨m, hm⟩ := k0; exact DataW.trod_lt m _ _ _ hm
  obtain ⟨fuel, hf⟩ := h0
  obtain ⟨wk, up, now, sn, ep, gv, a1, a2, ar, aj, az, ao, n1, c1, n2, c2, nr, cr, nj, cj, ns, cs, no, co, bl1, ol1, bl2, ol2, br, or', bj, oj, bs, os', bo, oo, L1, L2, R, J, S, O, rfl, H1, H2, HR, HJ, HS, HO⟩ := bossAt_of (okWide_struct Try.underlying59 (hval 0 59 v0 rfl rfl)) hf
  have k1 := h1
  have lt1 : ∀ x ∈ p1, x.block < W.heap.size := by obtain ⟨m, hm⟩ := k1; exact DataW.trod_lt m _ _ _ hm
  obtain ⟨fuel1, hf1⟩ := h1
  obtain ⟨pa, pb, po, pn, pc, ts, rfl, hat⟩ := planAt_of (okWide_struct Try.underlying35 (hval 1 35 v1 rfl rfl)) hf1
  clear hA0 hval0
  refine (fnExactValidBoss_walk wk up now sn ep gv a1 a2 ar aj az ao n1 c1 n2 c2 nr cr nj cj ns cs no co bl1 ol1 bl2 ol2 br or' bj oj bs os' bo oo L1 L2 R J S O pa pb po pn pc ts W H1 H2 HR HJ HS HO hat).mono fun e W' ⟨he, bel⟩ => ?_
  subst he
  exact ⟨_, rfl, _, _, _, [], _, [], hW', trodAll_mk1 (shut_bool Try.underlying4 _), (trodAll_cons_mk (Below.trod Try.laidOut (by kernel_rfl) (of_decide_eq_true (by kernel_rfl)) k0 bel lt0) (trodAll_cons_mk (Below.trod Try.laidOut (by kernel_rfl) (of_decide_eq_true (by kernel_rfl)) k1 bel lt1) trodAll_mk0)), rfl, bel.frame _, fun h => by cases h⟩

theorem fnExactValidBoss_holds : Rows.FnExactValidBossSaid :=
  OpenClaim.holds_of_wide 6 Try.f6 rfl rfl rfl rfl rfl rfl rfl ⟨rfl, rfl, rfl, rfl, rfl⟩ rfl rfl rfl rfl rfl (by kernel_rfl) Try.func6 (by kernel_rfl)
    (of_decide_eq_true (by kernel_rfl)) (by unfold Func.isWrapper; first | (rw [if_pos (by decide +kernel)]; kernel_rfl) | (rw [if_neg (by decide +kernel)]; exact ⟨rfl, rfl⟩))
    (fun os started H enc _ => fnExactValidBoss_lifted os started H enc)
#print axioms fnExactValidBoss_holds
end Go.Proofs.Ytoikcjeagigmfaa
