import Derived.Test.YthopfmhagddhgaaGreatQLawWo
import Derived.Test.YthopfmhagddhgaaGreatQRowVb
namespace Go.Proofs.YthopfmhagddhgaaGreat
open Go.ChangeShapes Go.WideShapes Go.ChangeAt Go.RowKit Go.Deep
open Go.ChangeMaps (open_string shut_string)

set_option maxRecDepth 100000 in
theorem atParcel_of {H : Type} {enc : TypeId × Value → H} {W : World} {base fuel : Nat} {cs : List Value} {x : DataW H × List MemPlace}
    (hf : DataW.trod enc Tryz.prog W base (fun _ => true) true fuel 34 cs = some x) : ∃ a b o n c, ∃ J : List Pc, cs = [.slice a n c] ∧ PcAt W a b o n J := by
  rcases open_slice Tryz.underlying34 hf with ⟨hcs, _⟩ | ⟨y, n, c, m, fu, D, Pl, hcs, _, hl, hm, hmm, _, hel⟩
  · exact ⟨none, 0, 0, 0, 0, [], hcs, fun h => absurd h (by omega), rfl, Nat.zero_le _, fun h => absurd h (by omega), fun j hj => absurd hj (by omega), fun j hj => absurd hj (by omega), fun j hj => absurd hj (by omega), fun j hj => absurd hj (by omega)⟩
  · have hm' : m = c := by simpa using hmm
    have hC : Tryz.prog.cellsOf 116 = 3 := by kernel_rfl
    by_cases h0 : n = 0
    · subst h0
      exact ⟨some y, 0, 0, 0, c, [], hcs, fun h => absurd h (by omega), rfl, Nat.zero_le _, fun h => absurd h (by omega), fun j hj => absurd hj (by omega), fun j hj => absurd hj (by omega), fun j hj => absurd hj (by omega), fun j hj => absurd hj (by omega)⟩
    have each : ∀ i, i < n → ∃ (x : Int) (y' z : ByteArray), W.cell? (y.add (i * 3)) = some (.int .i64 x) ∧ W.cell? ((y.add (i * 3)).add 1) = some (.string y') ∧ W.cell? ((y.add (i * 3)).add 2) = some (.string z) ∧ I64 x ∧ y'.size ≤ maxLen ∧ z.size ≤ maxLen := fun i hi => by
      obtain ⟨cs', hcells, ht⟩ := hel i (by omega)
      rw [hC] at hcells
      obtain ⟨xs, mm, _, _, hlen, hl', hel'⟩ := DataW.trod_struct Tryz.underlying116 ht
      rw [hC] at hlen
      obtain ⟨_, _, hcl⟩ := World.cells?_some hcells
      have ki : Tryz.prog.cellsOf 3 = 1 := by kernel_rfl
      have ks : Tryz.prog.cellsOf 9 = 1 := by kernel_rfl
      match cs', hlen with
      | [c0, c1, c2], _ =>
        match xs, hl' with
        | [x0, x1, x2], _ =>
          have e0 := hcl 0 (by omega)
          have h0 : DataW.trod enc Tryz.prog W base (fun _ => true) true mm 3 (([c0, c1, c2].drop 0).take (Tryz.prog.cellsOf 3)) = some x0 := hel' 0 _ rfl
          rw [ki] at h0
          obtain ⟨z0, q0, _, r0⟩ := DataW.trod_int Tryz.underlying3 h0
          have e1 := hcl 1 (by omega)
          have h1 : DataW.trod enc Tryz.prog W base (fun _ => true) true mm 9 (([c0, c1, c2].drop 1).take (Tryz.prog.cellsOf 9)) = some x1 := hel' 1 _ rfl
          rw [ks] at h1
          obtain ⟨z1, q1, _, r1⟩ := DataW.trod_string Tryz.underlying9 h1
          have e2 := hcl 2 (by omega)
          have h2 : DataW.trod enc Tryz.prog W base (fun _ => true) true mm 9 (([c0, c1, c2].drop 2).take (Tryz.prog.cellsOf 9)) = some x2 := hel' 2 _ rfl
          rw [ks] at h2
          obtain ⟨z2, q2, _, r2⟩ := DataW.trod_string Tryz.underlying9 h2
          simp only [List.drop_zero, List.drop_succ_cons, List.take_succ_cons, List.take_zero, List.cons.injEq, and_true] at q0 q1 q2
          subst q0 q1 q2
          refine ⟨z0, z1, z2, ?_, by simpa using e1, by simpa using e2, wf_I64 r0, r1, r2⟩
          rw [show (y.add (i * 3)).add 0 = y.add (i * 3) by unfold Addr.add; split <;> simp_all] at e0
          simpa using e0
    obtain ⟨b, off, spot⟩ := y
    have hspot : spot = none := by
      obtain ⟨_, _, _, hc, _⟩ := each 0 (by omega)
      simpa [Addr.add] using World.cell?_spot hc
    subst hspot
    have each' : ∀ i, ∃ t : Pc, i < n → W.cell? ⟨b, off + i * 3, none⟩ = some (.int .i64 t.1) ∧ W.cell? ⟨b, off + i * 3 + 1, none⟩ = some (.string t.2.1) ∧ W.cell? ⟨b, off + i * 3 + 2, none⟩ = some (.string t.2.2) ∧ I64 t.1 ∧ t.2.1.size ≤ maxLen ∧ t.2.2.size ≤ maxLen := fun i => by
      by_cases hi : i < n
      · obtain ⟨z0, z1, z2, q0, q1, q2, hr⟩ := each i hi
        simp only [Addr.add_lit] at q0 q1 q2
        exact ⟨(z0, z1, z2), fun _ => ⟨q0, q1, q2, hr⟩⟩
      · exact ⟨((0, ByteArray.empty, ByteArray.empty) : Pc), fun h => absurd h hi⟩
    obtain ⟨f, hf⟩ := Classical.skolem.1 each'
    have hget : ∀ j, j < n → pc ((List.range n).map f) j = f j := fun j hj => by simp [pc, List.getD, hj]
    refine ⟨_, b, off, n, c, (List.range n).map f, hcs, fun _ => rfl, by simp, by omega, fun _ => World.block_lt_of_cell? _ _ (hf 0 (by omega)).1, fun j hj => ?_, fun j hj => ?_, fun j hj => ?_, fun j hj => ?_⟩
    · rw [hget j hj]; exact (hf j hj).1
    · rw [hget j hj]; exact (hf j hj).2.1
    · rw [hget j hj]; exact (hf j hj).2.2.1
    · rw [hget j hj]; exact (hf j hj).2.2.2

set_option maxRecDepth 100000 in
theorem atWorker_of {H : Type} {enc : TypeId × Value → H} {W : World} {base fuel : Nat} {cs : List Value} {x : DataW H × List MemPlace}
    (hf : DataW.trod enc Tryz.prog W base (fun _ => true) true fuel 33 cs = some x) : ∃ a b o n c, ∃ J : List WkD, cs = [.slice a n c] ∧ WrAt W a b o n J := by
  rcases open_slice Tryz.underlying33 hf with ⟨hcs, _⟩ | ⟨y, n, c, m, fu, D, Pl, hcs, _, hl, hm, hmm, _, hel⟩
  · exact ⟨none, 0, 0, 0, 0, [], hcs, fun h => absurd h (by omega), rfl, Nat.zero_le _, fun h => absurd h (by omega), fun j hj => absurd hj (by omega), fun j hj => absurd hj (by omega), fun j hj => absurd hj (by omega), fun j hj => absurd hj (by omega), fun j hj => absurd hj (by omega), fun j hj => absurd hj (by omega), fun j hj => absurd hj (by omega), fun j hj => absurd hj (by omega), fun j hj => absurd hj (by omega), fun j hj => absurd hj (by omega), fun j hj => absurd hj (by omega), fun j hj => absurd hj (by omega), fun j hj => absurd hj (by omega)⟩
  · have hm' : m = c := by simpa using hmm
    have hC : Tryz.prog.cellsOf 114 = 11 := by kernel_rfl
    by_cases h0 : n = 0
    · subst h0
      exact ⟨some y, 0, 0, 0, c, [], hcs, fun h => absurd h (by omega), rfl, Nat.zero_le _, fun h => absurd h (by omega), fun j hj => absurd hj (by omega), fun j hj => absurd hj (by omega), fun j hj => absurd hj (by omega), fun j hj => absurd hj (by omega), fun j hj => absurd hj (by omega), fun j hj => absurd hj (by omega), fun j hj => absurd hj (by omega), fun j hj => absurd hj (by omega), fun j hj => absurd hj (by omega), fun j hj => absurd hj (by omega), fun j hj => absurd hj (by omega), fun j hj => absurd hj (by omega), fun j hj => absurd hj (by omega)⟩
    have each : ∀ i, i < n → ∃ (d : WkD) (a' : Option Addr) (b' o' c' : Nat), W.cell? (y.add (i * 11)) = some (.int .i64 d.nu) ∧ W.cell? ((y.add (i * 11)).add 1) = some (.int .i64 d.ep) ∧ W.cell? ((y.add (i * 11)).add 2) = some (.bool d.up) ∧ W.cell? ((y.add (i * 11)).add 3) = some (.int .i64 d.st) ∧ W.cell? ((y.add (i * 11)).add 4) = some (.int .i64 d.le) ∧ W.cell? ((y.add (i * 11)).add 5) = some (.int .i64 d.ta) ∧ W.cell? ((y.add (i * 11)).add 6) = some (.int .i64 d.co) ∧ W.cell? ((y.add (i * 11)).add 7) = some (.int .i64 d.lf) ∧ W.cell? ((y.add (i * 11)).add 8) = some ((.slice a' d.ss.length c')) ∧ W.cell? ((y.add (i * 11)).add 9) = some (.string d.x) ∧ W.cell? ((y.add (i * 11)).add 10) = some (.int .i64 d.si) ∧ StrsAt W a' b' o' d.ss.length d.ss ∧ d.x.size ≤ maxLen ∧ I64 d.nu ∧ I64 d.ep ∧ I64 d.st ∧ I64 d.le ∧ I64 d.ta ∧ I64 d.co ∧ I64 d.lf ∧ I64 d.si := fun i hi => by
      obtain ⟨cs', hcells, ht⟩ := hel i (by omega)
      rw [hC] at hcells
      obtain ⟨xs, mm, _, _, hlen, hl', hel'⟩ := DataW.trod_struct Tryz.underlying114 ht
      rw [hC] at hlen
      obtain ⟨_, _, hcl⟩ := World.cells?_some hcells
      have ki : Tryz.prog.cellsOf 3 = 1 := by kernel_rfl
      have kb : Tryz.prog.cellsOf 4 = 1 := by kernel_rfl
      have ks : Tryz.prog.cellsOf 9 = 1 := by kernel_rfl
      have kl : Tryz.prog.cellsOf 25 = 1 := by kernel_rfl
      match cs', hlen with
      | [c0, c1, c2, c3, c4, c5, c6, c7, c8, c9, c10], _ =>
        match xs, hl' with
        | [x0, x1, x2, x3, x4, x5, x6, x7, x8, x9, x10], _ =>
          have e0 := hcl 0 (by omega)
          have h0 : DataW.trod enc Tryz.prog W base (fun _ => true) true mm 3 (([c0, c1, c2, c3, c4, c5, c6, c7, c8, c9, c10].drop 0).take (Tryz.prog.cellsOf 3)) = some x0 := hel' 0 _ rfl
          rw [ki] at h0
          obtain ⟨z0, q0, _, r0⟩ := DataW.trod_int Tryz.underlying3 h0
          have e1 := hcl 1 (by omega)
          have h1 : DataW.trod enc Tryz.prog W base (fun _ => true) true mm 3 (([c0, c1, c2, c3, c4, c5, c6, c7, c8, c9, c10].drop 1).take (Tryz.prog.cellsOf 3)) = some x1 := hel' 1 _ rfl
          rw [ki] at h1
          obtain ⟨z1, q1, _, r1⟩ := DataW.trod_int Tryz.underlying3 h1
          have e2 := hcl 2 (by omega)
          have h2 : DataW.trod enc Tryz.prog W base (fun _ => true) true mm 4 (([c0, c1, c2, c3, c4, c5, c6, c7, c8, c9, c10].drop 2).take (Tryz.prog.cellsOf 4)) = some x2 := hel' 2 _ rfl
          rw [kb] at h2
          obtain ⟨z2, q2, _⟩ := DataW.trod_bool Tryz.underlying4 h2
          have e3 := hcl 3 (by omega)
          have h3 : DataW.trod enc Tryz.prog W base (fun _ => true) true mm 3 (([c0, c1, c2, c3, c4, c5, c6, c7, c8, c9, c10].drop 3).take (Tryz.prog.cellsOf 3)) = some x3 := hel' 3 _ rfl
          rw [ki] at h3
          obtain ⟨z3, q3, _, r3⟩ := DataW.trod_int Tryz.underlying3 h3
          have e4 := hcl 4 (by omega)
          have h4 : DataW.trod enc Tryz.prog W base (fun _ => true) true mm 3 (([c0, c1, c2, c3, c4, c5, c6, c7, c8, c9, c10].drop 4).take (Tryz.prog.cellsOf 3)) = some x4 := hel' 4 _ rfl
          rw [ki] at h4
          obtain ⟨z4, q4, _, r4⟩ := DataW.trod_int Tryz.underlying3 h4
          have e5 := hcl 5 (by omega)
          have h5 : DataW.trod enc Tryz.prog W base (fun _ => true) true mm 3 (([c0, c1, c2, c3, c4, c5, c6, c7, c8, c9, c10].drop 5).take (Tryz.prog.cellsOf 3)) = some x5 := hel' 5 _ rfl
          rw [ki] at h5
          obtain ⟨z5, q5, _, r5⟩ := DataW.trod_int Tryz.underlying3 h5
          have e6 := hcl 6 (by omega)
          have h6 : DataW.trod enc Tryz.prog W base (fun _ => true) true mm 3 (([c0, c1, c2, c3, c4, c5, c6, c7, c8, c9, c10].drop 6).take (Tryz.prog.cellsOf 3)) = some x6 := hel' 6 _ rfl
          rw [ki] at h6
          obtain ⟨z6, q6, _, r6⟩ := DataW.trod_int Tryz.underlying3 h6
          have e7 := hcl 7 (by omega)
          have h7 : DataW.trod enc Tryz.prog W base (fun _ => true) true mm 3 (([c0, c1, c2, c3, c4, c5, c6, c7, c8, c9, c10].drop 7).take (Tryz.prog.cellsOf 3)) = some x7 := hel' 7 _ rfl
          rw [ki] at h7
          obtain ⟨z7, q7, _, r7⟩ := DataW.trod_int Tryz.underlying3 h7
          have e8 := hcl 8 (by omega)
          have h8 : DataW.trod enc Tryz.prog W base (fun _ => true) true mm 25 (([c0, c1, c2, c3, c4, c5, c6, c7, c8, c9, c10].drop 8).take (Tryz.prog.cellsOf 25)) = some x8 := hel' 8 _ rfl
          rw [kl] at h8
          obtain ⟨a', b', o', n', c', ss, q8, hat⟩ := strsAt_of2 h8
          have e9 := hcl 9 (by omega)
          have h9 : DataW.trod enc Tryz.prog W base (fun _ => true) true mm 9 (([c0, c1, c2, c3, c4, c5, c6, c7, c8, c9, c10].drop 9).take (Tryz.prog.cellsOf 9)) = some x9 := hel' 9 _ rfl
          rw [ks] at h9
          obtain ⟨z9, q9, _, r9⟩ := DataW.trod_string Tryz.underlying9 h9
          have e10 := hcl 10 (by omega)
          have h10 : DataW.trod enc Tryz.prog W base (fun _ => true) true mm 3 (([c0, c1, c2, c3, c4, c5, c6, c7, c8, c9, c10].drop 10).take (Tryz.prog.cellsOf 3)) = some x10 := hel' 10 _ rfl
          rw [ki] at h10
          obtain ⟨z10, q10, _, r10⟩ := DataW.trod_int Tryz.underlying3 h10
          simp only [List.drop_zero, List.drop_succ_cons, List.take_succ_cons, List.take_zero, List.cons.injEq, and_true] at q0 q1 q2 q3 q4 q5 q6 q7 q8 q9 q10
          subst q0 q1 q2 q3 q4 q5 q6 q7 q8 q9 q10
          obtain rfl := hat.len
          refine ⟨⟨z0, z1, z2, z3, z4, z5, z6, z7, ss, z9, z10⟩, a', b', o', c', ?_, by simpa using e1, by simpa using e2, by simpa using e3, by simpa using e4, by simpa using e5, by simpa using e6, by simpa using e7, by simpa using e8, by simpa using e9, by simpa using e10, hat, r9, wf_I64 r0, wf_I64 r1, wf_I64 r3, wf_I64 r4, wf_I64 r5, wf_I64 r6, wf_I64 r7, wf_I64 r10⟩
          rw [show (y.add (i * 11)).add 0 = y.add (i * 11) by unfold Addr.add; split <;> simp_all] at e0
          simpa using e0
    obtain ⟨b, off, spot⟩ := y
    have hspot : spot = none := by
      obtain ⟨_, _, _, _, _, hc, _⟩ := each 0 (by omega)
      simpa [Addr.add] using World.cell?_spot hc
    subst hspot
    have each' : ∀ i, ∃ d : WkD, i < n → W.cell? ⟨b, off + i * 11, none⟩ = some (.int .i64 d.nu) ∧ W.cell? ⟨b, off + i * 11 + 1, none⟩ = some (.int .i64 d.ep) ∧ W.cell? ⟨b, off + i * 11 + 2, none⟩ = some (.bool d.up) ∧ W.cell? ⟨b, off + i * 11 + 3, none⟩ = some (.int .i64 d.st) ∧ W.cell? ⟨b, off + i * 11 + 4, none⟩ = some (.int .i64 d.le) ∧ W.cell? ⟨b, off + i * 11 + 5, none⟩ = some (.int .i64 d.ta) ∧ W.cell? ⟨b, off + i * 11 + 6, none⟩ = some (.int .i64 d.co) ∧ W.cell? ⟨b, off + i * 11 + 7, none⟩ = some (.int .i64 d.lf) ∧ W.cell? ⟨b, off + i * 11 + 9, none⟩ = some (.string d.x) ∧ W.cell? ⟨b, off + i * 11 + 10, none⟩ = some (.int .i64 d.si) ∧ (∃ a' b' o' c', W.cell? ⟨b, off + i * 11 + 8, none⟩ = some (.slice a' d.ss.length c') ∧ StrsAt W a' b' o' d.ss.length d.ss) ∧ d.x.size ≤ maxLen ∧ I64 d.nu ∧ I64 d.ep ∧ I64 d.st ∧ I64 d.le ∧ I64 d.ta ∧ I64 d.co ∧ I64 d.lf ∧ I64 d.si := fun i => by
      by_cases hi : i < n
      · obtain ⟨d, a', b', o', c', q0, q1, q2, q3, q4, q5, q6, q7, q8, q9, q10, hr⟩ := each i hi
        simp only [Addr.add_lit] at q0 q1 q2 q3 q4 q5 q6 q7 q8 q9 q10
        exact ⟨d, fun _ => ⟨q0, q1, q2, q3, q4, q5, q6, q7, q9, q10, ⟨a', b', o', c', q8, hr.1⟩, hr.2⟩⟩
      · exact ⟨dWkD, fun h => absurd h hi⟩
    obtain ⟨f, hf⟩ := Classical.skolem.1 each'
    have hget : ∀ j, j < n → gWr ((List.range n).map f) j = f j := fun j hj => by simp [gWr, List.getD, hj]
    refine ⟨_, b, off, n, c, (List.range n).map f, hcs, fun _ => rfl, by simp, by omega, fun _ => World.block_lt_of_cell? _ _ (hf 0 (by omega)).1, fun j hj => ?_, fun j hj => ?_, fun j hj => ?_, fun j hj => ?_, fun j hj => ?_, fun j hj => ?_, fun j hj => ?_, fun j hj => ?_, fun j hj => ?_, fun j hj => ?_, fun j hj => ?_, fun j hj => ?_, fun j hj => ?_⟩
    · rw [hget j hj]; exact (hf j hj).1
    · rw [hget j hj]; exact (hf j hj).2.1
    · rw [hget j hj]; exact (hf j hj).2.2.1
    · rw [hget j hj]; exact (hf j hj).2.2.2.1
    · rw [hget j hj]; exact (hf j hj).2.2.2.2.1
    · rw [hget j hj]; exact (hf j hj).2.2.2.2.2.1
    · rw [hget j hj]; exact (hf j hj).2.2.2.2.2.2.1
    · rw [hget j hj]; exact (hf j hj).2.2.2.2.2.2.2.1
    · rw [hget j hj]; exact (hf j hj).2.2.2.2.2.2.2.2.1
    · rw [hget j hj]; exact (hf j hj).2.2.2.2.2.2.2.2.2.1
    · rw [hget j hj]; exact (hf j hj).2.2.2.2.2.2.2.2.2.2.1
    · rw [hget j hj]; exact (hf j hj).2.2.2.2.2.2.2.2.2.2.2.1
    · rw [hget j hj]; exact (hf j hj).2.2.2.2.2.2.2.2.2.2.2.2

set_option maxRecDepth 100000 in
/-- A world that came in. -/
theorem worldAt_of {H : Type} {enc : TypeId × Value → H} {W : World} {base fuel : Nat} {v : Value} {x : DataW H × List MemPlace}
    (hv : ∃ cs, v = .agg cs ∧ cs.size = Tryz.prog.cellsOf 36) (hf : DataW.trod enc Tryz.prog W base (fun _ => true) true fuel 36 v.cells.toList = some x) :
    ∃ (pa : Option Addr) (pb po pn pq : Nat) (ts : List TaskD) (key : ByteArray) (d : BD) (v0 v1 v2 v3 v4 v5 v6 v7 v8 v9 v10 v11 : Value) (wa : Option Addr) (wb wo wn wc : Nat) (Ws : List WkD) (fa : Option Addr) (fb fo fn fc : Nat) (Fl : List Pc) (fg : ByteArray),
      v = .agg #[.slice pa pn pq, .string key, v0, v1, v2, v3, v4, v5, v6, v7, v8, v9, v10, v11, .slice wa wn wc, .slice fa fn fc, .string fg] ∧ TasksAt W pa pb po pn ts ∧ BossV W d [v0, v1, v2, v3, v4, v5, v6, v7, v8, v9, v10, v11] ∧ WrAt W wa wb wo wn Ws ∧ PcAt W fa fb fo fn Fl ∧ key.size ≤ maxLen ∧ fg.size ≤ maxLen := by
  obtain ⟨cs, rfl, hcs⟩ := hv
  have hC : Tryz.prog.cellsOf 36 = 17 := by kernel_rfl
  rw [hC] at hcs
  obtain ⟨l⟩ := cs
  obtain ⟨xs, m, _, ex, hlen, hl, hel⟩ := DataW.trod_struct Tryz.underlying36 hf
  have hPn : Tryz.prog.cellsOf 24 = 1 := by kernel_rfl
  have hBn : Tryz.prog.cellsOf 32 = 12 := by kernel_rfl
  match l, hcs with
  | [c0, c1, c2, c3, c4, c5, c6, c7, c8, c9, c10, c11, c12, c13, c14, c15, c16], _ =>
    match xs, hl with
    | [x0, x1, x2, x3, x4, x5], _ =>
      have ks : Tryz.prog.cellsOf 9 = 1 := by kernel_rfl
      have kw : Tryz.prog.cellsOf 33 = 1 := by kernel_rfl
      have kf : Tryz.prog.cellsOf 34 = 1 := by kernel_rfl
      have k0 : DataW.trod enc Tryz.prog W base (fun _ => true) true m 24 (([c0, c1, c2, c3, c4, c5, c6, c7, c8, c9, c10, c11, c12, c13, c14, c15, c16].drop 0).take (Tryz.prog.cellsOf 24)) = some x0 := hel 0 _ rfl
      have k1 : DataW.trod enc Tryz.prog W base (fun _ => true) true m 9 (([c0, c1, c2, c3, c4, c5, c6, c7, c8, c9, c10, c11, c12, c13, c14, c15, c16].drop 1).take (Tryz.prog.cellsOf 9)) = some x1 := hel 1 _ rfl
      have k2 : DataW.trod enc Tryz.prog W base (fun _ => true) true m 32 (([c0, c1, c2, c3, c4, c5, c6, c7, c8, c9, c10, c11, c12, c13, c14, c15, c16].drop 2).take (Tryz.prog.cellsOf 32)) = some x2 := hel 2 _ rfl
      have k3 : DataW.trod enc Tryz.prog W base (fun _ => true) true m 33 (([c0, c1, c2, c3, c4, c5, c6, c7, c8, c9, c10, c11, c12, c13, c14, c15, c16].drop 14).take (Tryz.prog.cellsOf 33)) = some x3 := hel 3 _ rfl
      have k4 : DataW.trod enc Tryz.prog W base (fun _ => true) true m 34 (([c0, c1, c2, c3, c4, c5, c6, c7, c8, c9, c10, c11, c12, c13, c14, c15, c16].drop 15).take (Tryz.prog.cellsOf 34)) = some x4 := hel 4 _ rfl
      have k5 : DataW.trod enc Tryz.prog W base (fun _ => true) true m 9 (([c0, c1, c2, c3, c4, c5, c6, c7, c8, c9, c10, c11, c12, c13, c14, c15, c16].drop 16).take (Tryz.prog.cellsOf 9)) = some x5 := hel 5 _ rfl
      rw [hPn] at k0
      rw [ks] at k1 k5
      rw [hBn] at k2
      rw [kw] at k3
      rw [kf] at k4
      simp only [List.drop_zero, List.drop_succ_cons, List.take_succ_cons, List.take_zero] at k0 k1 k2 k3 k4 k5
      obtain ⟨pa, pb, po, pn, pq, ts, e0, hT⟩ := planAt_of (v := .agg #[c0]) ⟨_, rfl, by rw [hPn]; rfl⟩ k0
      obtain ⟨key, e1, _, hk⟩ := DataW.trod_string Tryz.underlying9 k1
      obtain ⟨wk, up, now, sn, ep, gv, a1, a2, ar, aj, az, ao, n1, d1, n2, d2, nr, dr, nj, dj, ns, ds, no, d0, b1, o1, b2, o2, br, oR, bj, oj, bs, os, bo, oo, L1, L2, R, J, S, O, e2, h1, h2, hR, hJ, hS, hO⟩ := bossAt_of (v := .agg #[c2, c3, c4, c5, c6, c7, c8, c9, c10, c11, c12, c13]) ⟨_, rfl, by rw [hBn]; rfl⟩ k2
      obtain ⟨wa, wb, wo, wn, wc, Ws, e3, hW⟩ := atWorker_of k3
      obtain ⟨fa, fb, fo, fn, fc, Fl, e4, hF⟩ := atParcel_of k4
      obtain ⟨fg, e5, _, hg⟩ := DataW.trod_string Tryz.underlying9 k5
      simp only [Value.agg.injEq, List.cons.injEq, and_true, Array.mk.injEq] at e0 e1 e2 e3 e4 e5
      subst e0 e1 e3 e4 e5
      obtain ⟨rfl, rfl, rfl, rfl, rfl, rfl, rfl, rfl, rfl, rfl, rfl, rfl⟩ := e2
      obtain rfl := h1.len
      obtain rfl := h2.len
      obtain rfl := hR.len
      obtain rfl := hJ.len
      obtain rfl := hS.len
      obtain rfl := hO.len
      exact ⟨pa, pb, po, pn, pq, ts, key, ⟨wk, up, now, sn, ep, gv, L1, L2, R, J, S, O⟩, _, _, _, _, _, _, _, _, _, _, _, _, wa, wb, wo, wn, wc, Ws, fa, fb, fo, fn, fc, Fl, fg, rfl, hT, ⟨⟨a1, a2, ar, aj, az, ao, d1, d2, dr, dj, ds, d0⟩, rfl, ⟨_, _, h1⟩, ⟨_, _, h2⟩, ⟨_, _, hR⟩, ⟨_, _, hJ⟩, ⟨_, _, hS⟩, ⟨_, _, hO⟩⟩, hW, hF, hk, hg⟩

set_option maxRecDepth 100000 in
theorem fnExactValidWorld_lifted (os : Os) (started : os.Started) (H : Type) (enc : TypeId × Value → H) :
    ReturnsInHanded {} Tryz.checked os 3 .any (Rows.fnExactValidWorldSpec.pre6 enc Tryz.prog Tryz.f3 Rows.fnExactValidWorldRow.domain false) (Rows.fnExactValidWorldSpec.post enc Tryz.prog Tryz.f3 false true false false) := by
  refine returnsInHanded_of_change (C := Tryz.checked) Tryz.own started (by kernel_rfl) Tryz.func3
    (ChangeSpec.witness6 (enc := enc) (C := Tryz.checked) false ⟨#[], #[.agg #[.slice none 0 0, .string ⟨#[]⟩, .int .i64 0, .bool false, .int .i64 0, .int .i64 0, .int .i64 0, .int .i64 0, .slice none 0 0, .slice none 0 0, .slice none 0 0, .slice none 0 0, .slice none 0 0, .slice none 0 0, .slice none 0 0, .slice none 0 0, .string ⟨#[]⟩]], []⟩ 8 (by kernel_rfl) (by kernel_rfl) (by kernel_rfl) (by kernel_rfl)) ?_
  intro W base args ds gs before hval0 hW hcnd _
  have hval : ∀ (j : Nat) t v, Tryz.f3.params[j]? = some t → args[j]? = some v → Value.okWide Tryz.prog W .any base t v := hval0
  have hW' := hW
  obtain ⟨p, q, hA0, hV, rfl, hfz, hnd⟩ := hW
  have hA : DataW.TrodAll enc Tryz.prog W 0 (fun _ => true) true Tryz.f3.params.toList args.toList ds p := hA0
  rw [Tryz.params3] at hA hval
  obtain ⟨v0, vs0, d0, ds0, p0, q0, hargs, rfl, rfl, h0, r0⟩ := trodAll_cons hA
  obtain ⟨rfl, rfl, rfl⟩ := trodAll_nil r0
  obtain rfl : args = #[v0] := by cases args; simp_all
  obtain ⟨rfl, rfl⟩ := trodVars_none hV
  have k0 := h0
  have lt0 : ∀ x ∈ p0, x.block < W.heap.size := by obtain ⟨m, hm⟩ := k0; exact DataW.trod_lt m _ _ _ hm
  obtain ⟨fuel, hf⟩ := h0
  obtain ⟨pa, pb, po, pn, pq, ts, key, d, u0, u1, u2, u3, u4, u5, u6, u7, u8, u9, u10, u11, wa, wb, wo, wn, wc, Ws, fa, fb, fo, fn, fc, Fl, fg, rfl, hT, hV1, hW1, hF, hk, hg⟩ := worldAt_of (okWide_struct Tryz.underlying36 (hval 0 36 v0 rfl rfl)) hf
  clear hA0 hval0
  refine (fnExactValidWorld_walk pa pb po pn pq ts key d u0 u1 u2 u3 u4 u5 u6 u7 u8 u9 u10 u11 wa wb wo wn wc Ws fa fb fo fn fc Fl fg W hT hV1 hW1 hF hk hg).mono fun e W' ⟨he, bel⟩ => ?_
  subst he
  exact ⟨_, rfl, _, _, _, [], _, [], hW', trodAll_mk1 (shut_bool Tryz.underlying4 _), (trodAll_cons_mk (Below.trod Tryz.laidOut (by kernel_rfl) (of_decide_eq_true (by kernel_rfl)) k0 bel lt0) trodAll_mk0), rfl, bel.frame _, fun h => by cases h⟩

theorem fnExactValidWorld_holds : Rows.FnExactValidWorldSaid :=
  OpenClaim.holds_of_wide 3 Tryz.f3 rfl rfl rfl rfl rfl rfl rfl ⟨rfl, rfl, rfl, rfl, rfl⟩ rfl rfl rfl rfl rfl (by kernel_rfl) Tryz.func3 (by kernel_rfl)
    (of_decide_eq_true (by kernel_rfl)) (by unfold Func.isWrapper; first | (rw [if_pos (by decide +kernel)]; kernel_rfl) | (rw [if_neg (by decide +kernel)]; exact ⟨rfl, rfl⟩))
    (fun os started H enc _ => fnExactValidWorld_lifted os started H enc)
#print axioms fnExactValidWorld_holds

end Go.Proofs.YthopfmhagddhgaaGreat
