import Derived.Test.YthopfmhagddhgaaGreatQBoq
import Derived.Test.YthopfmhagddhgaaGreatQBsj
import Derived.Test.YthopfmhagddhgaaGreatQBsv
import Derived.Test.YthopfmhagddhgaaGreatQEq
import Derived.Test.YthopfmhagddhgaaGreatQLawVal
import Derived.ProofKit
import Derived.OpenShut
import Derived.ShutString
import Derived.ChangeOld
import Derived.SliceStrings
import Derived.Deep.Slices
import Derived.Deep.Strs
namespace Go.Proofs.YthopfmhagddhgaaGreat
open Go.RowKit

end Go.Proofs.YthopfmhagddhgaaGreat

namespace Go.Proofs.YthopfmhagddhgaaGreat
open Go.ChangeShapes Go.WideShapes Go.ChangeAt Go.RowKit
open Go.ChangeMaps (open_string shut_string)

theorem Tryz.own : ownKnob Tryz.prog.godebug = none := by kernel_rfl
theorem Tryz.laidOut : laidOutB Tryz.prog = true := by kernel_rfl

/-- A list of texts that came in. -/
theorem strsAt_of2 {H : Type} {enc : TypeId × Value → H} {W : World} {base fuel : Nat} {cs : List Value} {x : DataW H × List MemPlace}
    (hf : DataW.trod enc Tryz.prog W base (fun _ => true) true fuel 25 cs = some x) : ∃ a b o n c ss, cs = [.slice a n c] ∧ StrsAt W a b o n ss := by
  rcases open_strings Tryz.underlying25 Tryz.underlying9 (by kernel_rfl) hf with ⟨hcs, _⟩ | ⟨y, n, c, ss, hcs, _, hl, hm, hz, _, hcell, hws⟩
  · exact ⟨none, 0, 0, 0, 0, [], hcs, fun h => absurd h (by omega), rfl, Nat.zero_le _, fun h => absurd h (by omega), fun j hj => absurd hj (by omega), by simp⟩
  · have hz' : ss.length = c := by simpa using hz
    have hsz : ∀ s ∈ ss.take n, s.size ≤ maxLen := fun s hs => hws s (List.mem_of_mem_take hs)
    have hlen : (ss.take n).length = n := by rw [List.length_take]; omega
    by_cases h0 : n = 0
    · subst h0
      exact ⟨some y, 0, 0, 0, c, ss.take 0, hcs, fun h => absurd h (by omega), hlen, Nat.zero_le _, fun h => absurd h (by omega), fun j hj => absurd hj (by omega), hsz⟩
    · obtain ⟨b, off, spot⟩ := y
      have hc := hcell 0 (by omega)
      have hspot : spot = none := by simpa [Addr.add] using World.cell?_spot hc
      subst hspot
      have hc' : ∀ j, j < n → W.cell? ⟨b, off + j, none⟩ = some (.string ((ss.take n).getD j ByteArray.empty)) := fun j hj => by
        have := hcell j (by omega)
        rw [Addr.add_lit] at this
        rw [this]
        simp [List.getD, hj]
      exact ⟨_, b, off, n, c, ss.take n, hcs, fun _ => rfl, hlen, by omega, fun _ => World.block_lt_of_cell? _ _ (hc' 0 (by omega)), hc', hsz⟩

set_option maxRecDepth 100000 in
/-- A worker that came in. -/
theorem workerAt_of {H : Type} {enc : TypeId × Value → H} {W : World} {base fuel : Nat} {v : Value} {y : DataW H × List MemPlace}
    (hv : ∃ cs, v = .agg cs ∧ cs.size = Tryz.prog.cellsOf 114) (hf : DataW.trod enc Tryz.prog W base (fun _ => true) true fuel 114 v.cells.toList = some y) :
    ∃ (nu ep : Int) (up : Bool) (st le ta co lf : Int) (x : ByteArray) (si : Int) (a : Option Addr) (b o n c : Nat) (ss : List ByteArray), v = .agg #[.int .i64 nu, .int .i64 ep, .bool up, .int .i64 st, .int .i64 le, .int .i64 ta, .int .i64 co, .int .i64 lf, .slice a n c, .string x, .int .i64 si] ∧ x.size ≤ maxLen ∧ StrsAt W a b o n ss := by
  obtain ⟨cs, rfl, hcs⟩ := hv
  have hC : Tryz.prog.cellsOf 114 = 11 := by kernel_rfl
  rw [hC] at hcs
  obtain ⟨l⟩ := cs
  obtain ⟨xs, m, _, ex, hlen, hl, hel⟩ := DataW.trod_struct Tryz.underlying114 hf
  match l, hcs with
  | [c0, c1, c2, c3, c4, c5, c6, c7, c8, c9, c10], _ =>
    match xs, hl with
    | [x0, x1, x2, x3, x4, x5, x6, x7, x8, x9, x10], _ =>
      have ki : Tryz.prog.cellsOf 3 = 1 := by kernel_rfl
      have kb : Tryz.prog.cellsOf 4 = 1 := by kernel_rfl
      have ks : Tryz.prog.cellsOf 9 = 1 := by kernel_rfl
      have kl : Tryz.prog.cellsOf 25 = 1 := by kernel_rfl
      have k0 : DataW.trod enc Tryz.prog W base (fun _ => true) true m 3 (([c0, c1, c2, c3, c4, c5, c6, c7, c8, c9, c10].drop 0).take (Tryz.prog.cellsOf 3)) = some x0 := hel 0 _ rfl
      have k1 : DataW.trod enc Tryz.prog W base (fun _ => true) true m 3 (([c0, c1, c2, c3, c4, c5, c6, c7, c8, c9, c10].drop 1).take (Tryz.prog.cellsOf 3)) = some x1 := hel 1 _ rfl
      have k2 : DataW.trod enc Tryz.prog W base (fun _ => true) true m 4 (([c0, c1, c2, c3, c4, c5, c6, c7, c8, c9, c10].drop 2).take (Tryz.prog.cellsOf 4)) = some x2 := hel 2 _ rfl
      have k3 : DataW.trod enc Tryz.prog W base (fun _ => true) true m 3 (([c0, c1, c2, c3, c4, c5, c6, c7, c8, c9, c10].drop 3).take (Tryz.prog.cellsOf 3)) = some x3 := hel 3 _ rfl
      have k4 : DataW.trod enc Tryz.prog W base (fun _ => true) true m 3 (([c0, c1, c2, c3, c4, c5, c6, c7, c8, c9, c10].drop 4).take (Tryz.prog.cellsOf 3)) = some x4 := hel 4 _ rfl
      have k5 : DataW.trod enc Tryz.prog W base (fun _ => true) true m 3 (([c0, c1, c2, c3, c4, c5, c6, c7, c8, c9, c10].drop 5).take (Tryz.prog.cellsOf 3)) = some x5 := hel 5 _ rfl
      have k6 : DataW.trod enc Tryz.prog W base (fun _ => true) true m 3 (([c0, c1, c2, c3, c4, c5, c6, c7, c8, c9, c10].drop 6).take (Tryz.prog.cellsOf 3)) = some x6 := hel 6 _ rfl
      have k7 : DataW.trod enc Tryz.prog W base (fun _ => true) true m 3 (([c0, c1, c2, c3, c4, c5, c6, c7, c8, c9, c10].drop 7).take (Tryz.prog.cellsOf 3)) = some x7 := hel 7 _ rfl
      have k8 : DataW.trod enc Tryz.prog W base (fun _ => true) true m 25 (([c0, c1, c2, c3, c4, c5, c6, c7, c8, c9, c10].drop 8).take (Tryz.prog.cellsOf 25)) = some x8 := hel 8 _ rfl
      have k9 : DataW.trod enc Tryz.prog W base (fun _ => true) true m 9 (([c0, c1, c2, c3, c4, c5, c6, c7, c8, c9, c10].drop 9).take (Tryz.prog.cellsOf 9)) = some x9 := hel 9 _ rfl
      have k10 : DataW.trod enc Tryz.prog W base (fun _ => true) true m 3 (([c0, c1, c2, c3, c4, c5, c6, c7, c8, c9, c10].drop 10).take (Tryz.prog.cellsOf 3)) = some x10 := hel 10 _ rfl
      rw [ki] at k0
      rw [ki] at k1
      rw [kb] at k2
      rw [ki] at k3
      rw [ki] at k4
      rw [ki] at k5
      rw [ki] at k6
      rw [ki] at k7
      rw [kl] at k8
      rw [ks] at k9
      rw [ki] at k10
      obtain ⟨z0, a0, _, _⟩ := DataW.trod_int Tryz.underlying3 k0
      obtain ⟨z1, a1, _, _⟩ := DataW.trod_int Tryz.underlying3 k1
      obtain ⟨z2, a2, _⟩ := DataW.trod_bool Tryz.underlying4 k2
      obtain ⟨z3, a3, _, _⟩ := DataW.trod_int Tryz.underlying3 k3
      obtain ⟨z4, a4, _, _⟩ := DataW.trod_int Tryz.underlying3 k4
      obtain ⟨z5, a5, _, _⟩ := DataW.trod_int Tryz.underlying3 k5
      obtain ⟨z6, a6, _, _⟩ := DataW.trod_int Tryz.underlying3 k6
      obtain ⟨z7, a7, _, _⟩ := DataW.trod_int Tryz.underlying3 k7
      obtain ⟨a, b, o, n, c, ss, a8, hat⟩ := strsAt_of2 k8
      obtain ⟨z9, a9, _, hsz⟩ := DataW.trod_string Tryz.underlying9 k9
      obtain ⟨z10, a10, _, _⟩ := DataW.trod_int Tryz.underlying3 k10
      simp only [List.drop_zero, List.drop_succ_cons, List.take_succ_cons, List.take_zero, List.cons.injEq, and_true] at a0 a1 a2 a3 a4 a5 a6 a7 a8 a9 a10
      subst a0 a1 a2 a3 a4 a5 a6 a7 a8 a9 a10
      exact ⟨z0, z1, z2, z3, z4, z5, z6, z7, z9, z10, a, b, o, n, c, ss, rfl, hsz, hat⟩
end Go.Proofs.YthopfmhagddhgaaGreat

namespace Go.Proofs.YthopfmhagddhgaaGreat
open Go.ChangeShapes Go.WideShapes Go.ChangeAt Go.RowKit Go.Deep
open Go.ChangeMaps (open_string shut_string)

theorem wf_I64 {x : Int} (h : (Lit.int .i64 x).wf = true) : I64 x := by
  simp [Lit.wf, IntKind.min, IntKind.max, IntKind.signed, IntKind.bits] at h
  exact ⟨by omega, by omega⟩

set_option maxRecDepth 100000 in
theorem intsAt_of {H : Type} {enc : TypeId × Value → H} {W : World} {base fuel : Nat} {cs : List Value} {x : DataW H × List MemPlace}
    (hf : DataW.trod enc Tryz.prog W base (fun _ => true) true fuel 118 cs = some x) : ∃ a b o n c ns, cs = [.slice a n c] ∧ IntsAt W a b o n ns := by
  rcases open_ints Tryz.underlying118 Tryz.underlying3 (by kernel_rfl) hf with ⟨hcs, _⟩ | ⟨y, n, c, ss, hcs, _, hl, hm, hz, _, hcell, hws⟩
  · exact ⟨none, 0, 0, 0, 0, [], hcs, fun h => absurd h (by omega), rfl, Nat.zero_le _, fun h => absurd h (by omega), fun j hj => absurd hj (by omega), by simp⟩
  · have hz' : ss.length = c := by simpa using hz
    have hsz : ∀ s ∈ ss.take n, I64 s := fun s hs => wf_I64 (hws s (List.mem_of_mem_take hs))
    have hlen : (ss.take n).length = n := by rw [List.length_take]; omega
    by_cases h0 : n = 0
    · subst h0
      exact ⟨some y, 0, 0, 0, c, ss.take 0, hcs, fun h => absurd h (by omega), hlen, Nat.zero_le _, fun h => absurd h (by omega), fun j hj => absurd hj (by omega), hsz⟩
    · obtain ⟨b, off, spot⟩ := y
      have hc := hcell 0 (by omega)
      have hspot : spot = none := by simpa [Addr.add] using World.cell?_spot hc
      subst hspot
      have hc' : ∀ j, j < n → W.cell? ⟨b, off + j, none⟩ = some (.int .i64 ((ss.take n).getD j 0)) := fun j hj => by
        have := hcell j (by omega)
        rw [Addr.add_lit] at this
        rw [this]
        simp [List.getD, hj]
      exact ⟨_, b, off, n, c, ss.take n, hcs, fun _ => rfl, hlen, by omega, fun _ => World.block_lt_of_cell? _ _ (hc' 0 (by omega)), hc', hsz⟩

set_option maxRecDepth 100000 in
theorem tasksAt_of {H : Type} {enc : TypeId × Value → H} {W : World} {base fuel : Nat} {cs : List Value} {x : DataW H × List MemPlace}
    (hf : DataW.trod enc Tryz.prog W base (fun _ => true) true fuel 22 cs = some x) : ∃ a b o n c ts, cs = [.slice a n c] ∧ TasksAt W a b o n ts := by
  rcases open_slice Tryz.underlying22 hf with ⟨hcs, _⟩ | ⟨y, n, c, m, fu, D, Pl, hcs, _, hl, hm, hmm, _, hel⟩
  · exact ⟨none, 0, 0, 0, 0, [], hcs, fun h => absurd h (by omega), rfl, Nat.zero_le _, fun h => absurd h (by omega), fun j hj => absurd hj (by omega), fun j hj => absurd hj (by omega), fun j hj => absurd hj (by omega), fun j hj => absurd hj (by omega)⟩
  · have hm' : m = c := by simpa using hmm
    have hC : Tryz.prog.cellsOf 150 = 3 := by kernel_rfl
    by_cases h0 : n = 0
    · subst h0
      exact ⟨some y, 0, 0, 0, c, [], hcs, fun h => absurd h (by omega), rfl, Nat.zero_le _, fun h => absurd h (by omega), fun j hj => absurd hj (by omega), fun j hj => absurd hj (by omega), fun j hj => absurd hj (by omega), fun j hj => absurd hj (by omega)⟩
    have each : ∀ i, i < n → ∃ s x a' b' o' n' c' ns, W.cell? (y.add (i * 3)) = some (.string s) ∧ W.cell? ((y.add (i * 3)).add 1) = some (.int .i64 x) ∧ W.cell? ((y.add (i * 3)).add 2) = some (.slice a' n' c') ∧ s.size ≤ maxLen ∧ I64 x ∧ IntsAt W a' b' o' n' ns := fun i hi => by
      obtain ⟨cs', hcells, ht⟩ := hel i (by omega)
      rw [hC] at hcells
      obtain ⟨y0, y1, y2, fu2, _, hlen, h0, h1, h2⟩ := trod_struct3 Tryz.underlying150 ht
      rw [hC] at hlen
      obtain ⟨_, _, hcl⟩ := World.cells?_some hcells
      match cs', hlen with
      | [c0, c1, c2], _ =>
        have e0 := hcl 0 (by omega)
        have e1 := hcl 1 (by omega)
        have e2 := hcl 2 (by omega)
        have k9 : Tryz.prog.cellsOf 9 = 1 := by kernel_rfl
        have k3 : Tryz.prog.cellsOf 3 = 1 := by kernel_rfl
        have k42 : Tryz.prog.cellsOf 118 = 1 := by kernel_rfl
        simp only [k9, k3, k42, List.drop_zero, List.drop_succ_cons, List.take_succ_cons, List.take_zero] at h0 h1 h2
        obtain ⟨s, hs, _, hsz⟩ := DataW.trod_string Tryz.underlying9 h0
        obtain ⟨x, hx, _, hxw⟩ := DataW.trod_int Tryz.underlying3 h1
        obtain ⟨a', b', o', n', c', ns, hns, hi'⟩ := intsAt_of h2
        simp only [List.cons.injEq, and_true] at hs hx hns
        subst hs; subst hx; subst hns
        refine ⟨s, x, a', b', o', n', c', ns, ?_, by simpa using e1, by simpa using e2, hsz, wf_I64 hxw, hi'⟩
        rw [show (y.add (i * 3)).add 0 = y.add (i * 3) by unfold Addr.add; split <;> simp_all] at e0
        simpa using e0
    obtain ⟨b, off, spot⟩ := y
    have hspot : spot = none := by
      obtain ⟨_, _, _, _, _, _, _, _, hc, _⟩ := each 0 (by omega)
      simpa [Addr.add] using World.cell?_spot hc
    subst hspot
    have each' : ∀ i, ∃ t : TaskD, i < n → W.cell? ⟨b, off + i * 3, none⟩ = some (.string t.name) ∧ W.cell? ⟨b, off + i * 3 + 1, none⟩ = some (.int .i64 t.cost) ∧ (∃ a' b' o' n' c', W.cell? ⟨b, off + i * 3 + 2, none⟩ = some (.slice a' n' c') ∧ IntsAt W a' b' o' n' t.deps) ∧ t.name.size ≤ maxLen ∧ I64 t.cost := fun i => by
      by_cases hi : i < n
      · obtain ⟨s, x, a', b', o', n', c', ns, q0, q1, q2, q3, q4, q5⟩ := each i hi
        simp only [Addr.add_lit] at q0 q1 q2
        exact ⟨⟨s, x, ns⟩, fun _ => ⟨q0, q1, ⟨a', b', o', n', c', q2, q5⟩, q3, q4⟩⟩
      · exact ⟨dT, fun h => absurd h hi⟩
    obtain ⟨f, hf⟩ := Classical.skolem.1 each'
    have hget : ∀ j, j < n → ((List.range n).map f).getD j dT = f j := fun j hj => by simp [List.getD, hj]
    refine ⟨_, b, off, n, c, (List.range n).map f, hcs, fun _ => rfl, by simp, by omega, fun _ => World.block_lt_of_cell? _ _ (hf 0 (by omega)).1, fun j hj => ?_, fun j hj => ?_, fun j hj => ?_, fun j hj => ?_⟩
    · rw [hget j hj]; exact (hf j hj).1
    · rw [hget j hj]; exact (hf j hj).2.1
    · rw [hget j hj]; exact (hf j hj).2.2.1
    · rw [hget j hj]; exact (hf j hj).2.2.2

set_option maxRecDepth 100000 in
theorem planAt_of {H : Type} {enc : TypeId × Value → H} {W : World} {base fuel : Nat} {v : Value} {x : DataW H × List MemPlace}
    (hv : ∃ cs, v = .agg cs ∧ cs.size = Tryz.prog.cellsOf 24) (hf : DataW.trod enc Tryz.prog W base (fun _ => true) true fuel 24 v.cells.toList = some x) : ∃ a b o n c ts, v = .agg #[.slice a n c] ∧ TasksAt W a b o n ts := by
  obtain ⟨cs, rfl, hcs⟩ := hv
  have hC : Tryz.prog.cellsOf 24 = 1 := by kernel_rfl
  rw [hC] at hcs
  obtain ⟨l⟩ := cs
  match l, hcs with
  | [c0], _ =>
    obtain ⟨y0, fu, _, _, h0⟩ := trod_struct1 Tryz.underlying24 hf
    have k28 : Tryz.prog.cellsOf 22 = 1 := by kernel_rfl
    simp only [k28, Value.cells, List.drop_zero, List.take_succ_cons, List.take_zero] at h0
    obtain ⟨a, b, o, n, c, ts, hc, ht⟩ := tasksAt_of h0
    simp only [List.cons.injEq, and_true] at hc
    subst hc
    exact ⟨a, b, o, n, c, ts, rfl, ht⟩

end Go.Proofs.YthopfmhagddhgaaGreat

namespace Go.Proofs.YthopfmhagddhgaaGreat
open Go.ChangeShapes Go.WideShapes Go.ChangeAt Go.RowKit Go.Deep
open Go.ChangeMaps (open_string shut_string)

set_option maxRecDepth 100000 in
theorem atJob_of {H : Type} {enc : TypeId × Value → H} {W : World} {base fuel : Nat} {cs : List Value} {x : DataW H × List MemPlace}
    (hf : DataW.trod enc Tryz.prog W base (fun _ => true) true fuel 28 cs = some x) : ∃ a b o n c, ∃ J : List Tr, cs = [.slice a n c] ∧ T3At W a b o n J := by
  rcases open_slice Tryz.underlying28 hf with ⟨hcs, _⟩ | ⟨y, n, c, m, fu, D, Pl, hcs, _, hl, hm, hmm, _, hel⟩
  · exact ⟨none, 0, 0, 0, 0, [], hcs, fun h => absurd h (by omega), rfl, Nat.zero_le _, fun h => absurd h (by omega), fun j hj => absurd hj (by omega), fun j hj => absurd hj (by omega), fun j hj => absurd hj (by omega), fun j hj => absurd hj (by omega)⟩
  · have hm' : m = c := by simpa using hmm
    have hC : Tryz.prog.cellsOf 155 = 3 := by kernel_rfl
    by_cases h0 : n = 0
    · subst h0
      exact ⟨some y, 0, 0, 0, c, [], hcs, fun h => absurd h (by omega), rfl, Nat.zero_le _, fun h => absurd h (by omega), fun j hj => absurd hj (by omega), fun j hj => absurd hj (by omega), fun j hj => absurd hj (by omega), fun j hj => absurd hj (by omega)⟩
    have each : ∀ i, i < n → ∃ (x y' z : Int), W.cell? (y.add (i * 3)) = some (.int .i64 x) ∧ W.cell? ((y.add (i * 3)).add 1) = some (.int .i64 y') ∧ W.cell? ((y.add (i * 3)).add 2) = some (.int .i64 z) ∧ I64 x ∧ I64 y' ∧ I64 z := fun i hi => by
      obtain ⟨cs', hcells, ht⟩ := hel i (by omega)
      rw [hC] at hcells
      obtain ⟨xs, mm, _, _, hlen, hl', hel'⟩ := DataW.trod_struct Tryz.underlying155 ht
      rw [hC] at hlen
      obtain ⟨_, _, hcl⟩ := World.cells?_some hcells
      have ki : Tryz.prog.cellsOf 3 = 1 := by kernel_rfl
      have kb : Tryz.prog.cellsOf 4 = 1 := by kernel_rfl
      match cs', hlen with
      | [c0, c1, c2], _ =>
        match xs, hl' with
        | [x0, x1, x2], _ =>
          have e0 := hcl 0 (by omega)
          have h0 : DataW.trod enc Tryz.prog W base (fun _ => true) true mm 3 (([c0, c1, c2].drop 0).take (Tryz.prog.cellsOf 3)) = some x0 := hel' 0 _ rfl
          rw [ki] at h0
          obtain ⟨z0, q0, _, r0⟩ := DataW.trod_int Tryz.underlying3 h0
          have e1 := hcl 1 (by omega)
          have h1 : DataW.trod enc Tryz.prog W base (fun _ => true) true mm 3 (([c0, c1, c2].drop 1).take (Tryz.prog.cellsOf 3)) = some x1 := hel' 1 _ rfl
          rw [ki] at h1
          obtain ⟨z1, q1, _, r1⟩ := DataW.trod_int Tryz.underlying3 h1
          have e2 := hcl 2 (by omega)
          have h2 : DataW.trod enc Tryz.prog W base (fun _ => true) true mm 3 (([c0, c1, c2].drop 2).take (Tryz.prog.cellsOf 3)) = some x2 := hel' 2 _ rfl
          rw [ki] at h2
          obtain ⟨z2, q2, _, r2⟩ := DataW.trod_int Tryz.underlying3 h2
          simp only [List.drop_zero, List.drop_succ_cons, List.take_succ_cons, List.take_zero, List.cons.injEq, and_true] at q0 q1 q2
          subst q0 q1 q2
          refine ⟨z0, z1, z2, ?_, by simpa using e1, by simpa using e2, wf_I64 r0, wf_I64 r1, wf_I64 r2⟩
          rw [show (y.add (i * 3)).add 0 = y.add (i * 3) by unfold Addr.add; split <;> simp_all] at e0
          simpa using e0
    obtain ⟨b, off, spot⟩ := y
    have hspot : spot = none := by
      obtain ⟨_, _, _, hc, _⟩ := each 0 (by omega)
      simpa [Addr.add] using World.cell?_spot hc
    subst hspot
    have each' : ∀ i, ∃ t : Tr, i < n → W.cell? ⟨b, off + i * 3, none⟩ = some (.int .i64 t.1) ∧ W.cell? ⟨b, off + i * 3 + 1, none⟩ = some (.int .i64 t.2.1) ∧ W.cell? ⟨b, off + i * 3 + 2, none⟩ = some (.int .i64 t.2.2) ∧ I64 t.1 ∧ I64 t.2.1 ∧ I64 t.2.2 := fun i => by
      by_cases hi : i < n
      · obtain ⟨z0, z1, z2, q0, q1, q2, hr⟩ := each i hi
        simp only [Addr.add_lit] at q0 q1 q2
        exact ⟨(z0, z1, z2), fun _ => ⟨q0, q1, q2, hr⟩⟩
      · exact ⟨((0, 0, 0) : Tr), fun h => absurd h hi⟩
    obtain ⟨f, hf⟩ := Classical.skolem.1 each'
    have hget : ∀ j, j < n → t3 ((List.range n).map f) j = f j := fun j hj => by simp [t3, List.getD, hj]
    refine ⟨_, b, off, n, c, (List.range n).map f, hcs, fun _ => rfl, by simp, by omega, fun _ => World.block_lt_of_cell? _ _ (hf 0 (by omega)).1, fun j hj => ?_, fun j hj => ?_, fun j hj => ?_, fun j hj => ?_⟩
    · rw [hget j hj]; exact (hf j hj).1
    · rw [hget j hj]; exact (hf j hj).2.1
    · rw [hget j hj]; exact (hf j hj).2.2.1
    · rw [hget j hj]; exact (hf j hj).2.2.2

set_option maxRecDepth 100000 in
theorem atOwed_of {H : Type} {enc : TypeId × Value → H} {W : World} {base fuel : Nat} {cs : List Value} {x : DataW H × List MemPlace}
    (hf : DataW.trod enc Tryz.prog W base (fun _ => true) true fuel 30 cs = some x) : ∃ a b o n c, ∃ J : List Tr, cs = [.slice a n c] ∧ T3At W a b o n J := by
  rcases open_slice Tryz.underlying30 hf with ⟨hcs, _⟩ | ⟨y, n, c, m, fu, D, Pl, hcs, _, hl, hm, hmm, _, hel⟩
  · exact ⟨none, 0, 0, 0, 0, [], hcs, fun h => absurd h (by omega), rfl, Nat.zero_le _, fun h => absurd h (by omega), fun j hj => absurd hj (by omega), fun j hj => absurd hj (by omega), fun j hj => absurd hj (by omega), fun j hj => absurd hj (by omega)⟩
  · have hm' : m = c := by simpa using hmm
    have hC : Tryz.prog.cellsOf 159 = 3 := by kernel_rfl
    by_cases h0 : n = 0
    · subst h0
      exact ⟨some y, 0, 0, 0, c, [], hcs, fun h => absurd h (by omega), rfl, Nat.zero_le _, fun h => absurd h (by omega), fun j hj => absurd hj (by omega), fun j hj => absurd hj (by omega), fun j hj => absurd hj (by omega), fun j hj => absurd hj (by omega)⟩
    have each : ∀ i, i < n → ∃ (x y' z : Int), W.cell? (y.add (i * 3)) = some (.int .i64 x) ∧ W.cell? ((y.add (i * 3)).add 1) = some (.int .i64 y') ∧ W.cell? ((y.add (i * 3)).add 2) = some (.int .i64 z) ∧ I64 x ∧ I64 y' ∧ I64 z := fun i hi => by
      obtain ⟨cs', hcells, ht⟩ := hel i (by omega)
      rw [hC] at hcells
      obtain ⟨xs, mm, _, _, hlen, hl', hel'⟩ := DataW.trod_struct Tryz.underlying159 ht
      rw [hC] at hlen
      obtain ⟨_, _, hcl⟩ := World.cells?_some hcells
      have ki : Tryz.prog.cellsOf 3 = 1 := by kernel_rfl
      have kb : Tryz.prog.cellsOf 4 = 1 := by kernel_rfl
      match cs', hlen with
      | [c0, c1, c2], _ =>
        match xs, hl' with
        | [x0, x1, x2], _ =>
          have e0 := hcl 0 (by omega)
          have h0 : DataW.trod enc Tryz.prog W base (fun _ => true) true mm 3 (([c0, c1, c2].drop 0).take (Tryz.prog.cellsOf 3)) = some x0 := hel' 0 _ rfl
          rw [ki] at h0
          obtain ⟨z0, q0, _, r0⟩ := DataW.trod_int Tryz.underlying3 h0
          have e1 := hcl 1 (by omega)
          have h1 : DataW.trod enc Tryz.prog W base (fun _ => true) true mm 3 (([c0, c1, c2].drop 1).take (Tryz.prog.cellsOf 3)) = some x1 := hel' 1 _ rfl
          rw [ki] at h1
          obtain ⟨z1, q1, _, r1⟩ := DataW.trod_int Tryz.underlying3 h1
          have e2 := hcl 2 (by omega)
          have h2 : DataW.trod enc Tryz.prog W base (fun _ => true) true mm 3 (([c0, c1, c2].drop 2).take (Tryz.prog.cellsOf 3)) = some x2 := hel' 2 _ rfl
          rw [ki] at h2
          obtain ⟨z2, q2, _, r2⟩ := DataW.trod_int Tryz.underlying3 h2
          simp only [List.drop_zero, List.drop_succ_cons, List.take_succ_cons, List.take_zero, List.cons.injEq, and_true] at q0 q1 q2
          subst q0 q1 q2
          refine ⟨z0, z1, z2, ?_, by simpa using e1, by simpa using e2, wf_I64 r0, wf_I64 r1, wf_I64 r2⟩
          rw [show (y.add (i * 3)).add 0 = y.add (i * 3) by unfold Addr.add; split <;> simp_all] at e0
          simpa using e0
    obtain ⟨b, off, spot⟩ := y
    have hspot : spot = none := by
      obtain ⟨_, _, _, hc, _⟩ := each 0 (by omega)
      simpa [Addr.add] using World.cell?_spot hc
    subst hspot
    have each' : ∀ i, ∃ t : Tr, i < n → W.cell? ⟨b, off + i * 3, none⟩ = some (.int .i64 t.1) ∧ W.cell? ⟨b, off + i * 3 + 1, none⟩ = some (.int .i64 t.2.1) ∧ W.cell? ⟨b, off + i * 3 + 2, none⟩ = some (.int .i64 t.2.2) ∧ I64 t.1 ∧ I64 t.2.1 ∧ I64 t.2.2 := fun i => by
      by_cases hi : i < n
      · obtain ⟨z0, z1, z2, q0, q1, q2, hr⟩ := each i hi
        simp only [Addr.add_lit] at q0 q1 q2
        exact ⟨(z0, z1, z2), fun _ => ⟨q0, q1, q2, hr⟩⟩
      · exact ⟨((0, 0, 0) : Tr), fun h => absurd h hi⟩
    obtain ⟨f, hf⟩ := Classical.skolem.1 each'
    have hget : ∀ j, j < n → t3 ((List.range n).map f) j = f j := fun j hj => by simp [t3, List.getD, hj]
    refine ⟨_, b, off, n, c, (List.range n).map f, hcs, fun _ => rfl, by simp, by omega, fun _ => World.block_lt_of_cell? _ _ (hf 0 (by omega)).1, fun j hj => ?_, fun j hj => ?_, fun j hj => ?_, fun j hj => ?_⟩
    · rw [hget j hj]; exact (hf j hj).1
    · rw [hget j hj]; exact (hf j hj).2.1
    · rw [hget j hj]; exact (hf j hj).2.2.1
    · rw [hget j hj]; exact (hf j hj).2.2.2

set_option maxRecDepth 100000 in
theorem atSeat_of {H : Type} {enc : TypeId × Value → H} {W : World} {base fuel : Nat} {cs : List Value} {x : DataW H × List MemPlace}
    (hf : DataW.trod enc Tryz.prog W base (fun _ => true) true fuel 29 cs = some x) : ∃ a b o n c, ∃ J : List (Bool × Int), cs = [.slice a n c] ∧ T2At W a b o n J := by
  rcases open_slice Tryz.underlying29 hf with ⟨hcs, _⟩ | ⟨y, n, c, m, fu, D, Pl, hcs, _, hl, hm, hmm, _, hel⟩
  · exact ⟨none, 0, 0, 0, 0, [], hcs, fun h => absurd h (by omega), rfl, Nat.zero_le _, fun h => absurd h (by omega), fun j hj => absurd hj (by omega), fun j hj => absurd hj (by omega), fun j hj => absurd hj (by omega)⟩
  · have hm' : m = c := by simpa using hmm
    have hC : Tryz.prog.cellsOf 157 = 2 := by kernel_rfl
    by_cases h0 : n = 0
    · subst h0
      exact ⟨some y, 0, 0, 0, c, [], hcs, fun h => absurd h (by omega), rfl, Nat.zero_le _, fun h => absurd h (by omega), fun j hj => absurd hj (by omega), fun j hj => absurd hj (by omega), fun j hj => absurd hj (by omega)⟩
    have each : ∀ i, i < n → ∃ (x : Bool) (y' : Int), W.cell? (y.add (i * 2)) = some (.bool x) ∧ W.cell? ((y.add (i * 2)).add 1) = some (.int .i64 y') ∧ I64 y' := fun i hi => by
      obtain ⟨cs', hcells, ht⟩ := hel i (by omega)
      rw [hC] at hcells
      obtain ⟨xs, mm, _, _, hlen, hl', hel'⟩ := DataW.trod_struct Tryz.underlying157 ht
      rw [hC] at hlen
      obtain ⟨_, _, hcl⟩ := World.cells?_some hcells
      have ki : Tryz.prog.cellsOf 3 = 1 := by kernel_rfl
      have kb : Tryz.prog.cellsOf 4 = 1 := by kernel_rfl
      match cs', hlen with
      | [c0, c1], _ =>
        match xs, hl' with
        | [x0, x1], _ =>
          have e0 := hcl 0 (by omega)
          have h0 : DataW.trod enc Tryz.prog W base (fun _ => true) true mm 4 (([c0, c1].drop 0).take (Tryz.prog.cellsOf 4)) = some x0 := hel' 0 _ rfl
          rw [kb] at h0
          obtain ⟨z0, q0, _⟩ := DataW.trod_bool Tryz.underlying4 h0
          have e1 := hcl 1 (by omega)
          have h1 : DataW.trod enc Tryz.prog W base (fun _ => true) true mm 3 (([c0, c1].drop 1).take (Tryz.prog.cellsOf 3)) = some x1 := hel' 1 _ rfl
          rw [ki] at h1
          obtain ⟨z1, q1, _, r1⟩ := DataW.trod_int Tryz.underlying3 h1
          simp only [List.drop_zero, List.drop_succ_cons, List.take_succ_cons, List.take_zero, List.cons.injEq, and_true] at q0 q1
          subst q0 q1
          refine ⟨z0, z1, ?_, by simpa using e1, wf_I64 r1⟩
          rw [show (y.add (i * 2)).add 0 = y.add (i * 2) by unfold Addr.add; split <;> simp_all] at e0
          simpa using e0
    obtain ⟨b, off, spot⟩ := y
    have hspot : spot = none := by
      obtain ⟨_, _, hc, _⟩ := each 0 (by omega)
      simpa [Addr.add] using World.cell?_spot hc
    subst hspot
    have each' : ∀ i, ∃ t : Bool × Int, i < n → W.cell? ⟨b, off + i * 2, none⟩ = some (.bool t.1) ∧ W.cell? ⟨b, off + i * 2 + 1, none⟩ = some (.int .i64 t.2) ∧ I64 t.2 := fun i => by
      by_cases hi : i < n
      · obtain ⟨z0, z1, q0, q1, hr⟩ := each i hi
        simp only [Addr.add_lit] at q0 q1
        exact ⟨(z0, z1), fun _ => ⟨q0, q1, hr⟩⟩
      · exact ⟨((false, 0) : Bool × Int), fun h => absurd h hi⟩
    obtain ⟨f, hf⟩ := Classical.skolem.1 each'
    have hget : ∀ j, j < n → t2 ((List.range n).map f) j = f j := fun j hj => by simp [t2, List.getD, hj]
    refine ⟨_, b, off, n, c, (List.range n).map f, hcs, fun _ => rfl, by simp, by omega, fun _ => World.block_lt_of_cell? _ _ (hf 0 (by omega)).1, fun j hj => ?_, fun j hj => ?_, fun j hj => ?_⟩
    · rw [hget j hj]; exact (hf j hj).1
    · rw [hget j hj]; exact (hf j hj).2.1
    · rw [hget j hj]; exact (hf j hj).2.2

set_option maxRecDepth 100000 in
/-- A coordinator that came in. -/
theorem bossAt_of {H : Type} {enc : TypeId × Value → H} {W : World} {base fuel : Nat} {v : Value} {y : DataW H × List MemPlace}
    (hv : ∃ cs, v = .agg cs ∧ cs.size = Tryz.prog.cellsOf 32) (hf : DataW.trod enc Tryz.prog W base (fun _ => true) true fuel 32 v.cells.toList = some y) :
    ∃ (wk : Int) (up : Bool) (now sn ep gv : Int) (a1 a2 ar aj az ao : Option Addr) (n1 c1 n2 c2 nr cr nj cj ns cs no co : Nat) (bl1 ol1 bl2 ol2 br or' bj oj bs os' bo oo : Nat) (L1 L2 R : List ByteArray) (J : List Tr) (S : List (Bool × Int)) (O : List Tr), v = .agg #[.int .i64 wk, .bool up, .int .i64 now, .int .i64 sn, .int .i64 ep, .int .i64 gv, .slice a1 n1 c1, .slice a2 n2 c2, .slice ar nr cr, .slice aj nj cj, .slice az ns cs, .slice ao no co] ∧ StrsAt W a1 bl1 ol1 n1 L1 ∧ StrsAt W a2 bl2 ol2 n2 L2 ∧ StrsAt W ar br or' nr R ∧ T3At W aj bj oj nj J ∧ T2At W az bs os' ns S ∧ T3At W ao bo oo no O := by
  obtain ⟨cs, rfl, hcs⟩ := hv
  have hC : Tryz.prog.cellsOf 32 = 12 := by kernel_rfl
  rw [hC] at hcs
  obtain ⟨l⟩ := cs
  obtain ⟨xs, m, _, ex, hlen, hl, hel⟩ := DataW.trod_struct Tryz.underlying32 hf
  match l, hcs with
  | [c0, c1, c2, c3, c4, c5, c6, c7, c8, c9, c10, c11], _ =>
    match xs, hl with
    | [x0, x1, x2, x3, x4, x5, x6, x7, x8, x9, x10], _ =>
      have kint : Tryz.prog.cellsOf 3 = 1 := by kernel_rfl
      have kbool : Tryz.prog.cellsOf 4 = 1 := by kernel_rfl
      have kLog : Tryz.prog.cellsOf 27 = 2 := by kernel_rfl
      have kstr : Tryz.prog.cellsOf 25 = 1 := by kernel_rfl
      have kJob : Tryz.prog.cellsOf 28 = 1 := by kernel_rfl
      have kSeat : Tryz.prog.cellsOf 29 = 1 := by kernel_rfl
      have kOwed : Tryz.prog.cellsOf 30 = 1 := by kernel_rfl
      have k0 : DataW.trod enc Tryz.prog W base (fun _ => true) true m 3 (([c0, c1, c2, c3, c4, c5, c6, c7, c8, c9, c10, c11].drop 0).take (Tryz.prog.cellsOf 3)) = some x0 := hel 0 _ rfl
      rw [kint] at k0
      have k1 : DataW.trod enc Tryz.prog W base (fun _ => true) true m 4 (([c0, c1, c2, c3, c4, c5, c6, c7, c8, c9, c10, c11].drop 1).take (Tryz.prog.cellsOf 4)) = some x1 := hel 1 _ rfl
      rw [kbool] at k1
      have k2 : DataW.trod enc Tryz.prog W base (fun _ => true) true m 3 (([c0, c1, c2, c3, c4, c5, c6, c7, c8, c9, c10, c11].drop 2).take (Tryz.prog.cellsOf 3)) = some x2 := hel 2 _ rfl
      rw [kint] at k2
      have k3 : DataW.trod enc Tryz.prog W base (fun _ => true) true m 3 (([c0, c1, c2, c3, c4, c5, c6, c7, c8, c9, c10, c11].drop 3).take (Tryz.prog.cellsOf 3)) = some x3 := hel 3 _ rfl
      rw [kint] at k3
      have k4 : DataW.trod enc Tryz.prog W base (fun _ => true) true m 3 (([c0, c1, c2, c3, c4, c5, c6, c7, c8, c9, c10, c11].drop 4).take (Tryz.prog.cellsOf 3)) = some x4 := hel 4 _ rfl
      rw [kint] at k4
      have k5 : DataW.trod enc Tryz.prog W base (fun _ => true) true m 3 (([c0, c1, c2, c3, c4, c5, c6, c7, c8, c9, c10, c11].drop 5).take (Tryz.prog.cellsOf 3)) = some x5 := hel 5 _ rfl
      rw [kint] at k5
      have k6 : DataW.trod enc Tryz.prog W base (fun _ => true) true m 27 (([c0, c1, c2, c3, c4, c5, c6, c7, c8, c9, c10, c11].drop 6).take (Tryz.prog.cellsOf 27)) = some x6 := hel 6 _ rfl
      rw [kLog] at k6
      have k7 : DataW.trod enc Tryz.prog W base (fun _ => true) true m 25 (([c0, c1, c2, c3, c4, c5, c6, c7, c8, c9, c10, c11].drop 8).take (Tryz.prog.cellsOf 25)) = some x7 := hel 7 _ rfl
      rw [kstr] at k7
      have k8 : DataW.trod enc Tryz.prog W base (fun _ => true) true m 28 (([c0, c1, c2, c3, c4, c5, c6, c7, c8, c9, c10, c11].drop 9).take (Tryz.prog.cellsOf 28)) = some x8 := hel 8 _ rfl
      rw [kJob] at k8
      have k9 : DataW.trod enc Tryz.prog W base (fun _ => true) true m 29 (([c0, c1, c2, c3, c4, c5, c6, c7, c8, c9, c10, c11].drop 10).take (Tryz.prog.cellsOf 29)) = some x9 := hel 9 _ rfl
      rw [kSeat] at k9
      have k10 : DataW.trod enc Tryz.prog W base (fun _ => true) true m 30 (([c0, c1, c2, c3, c4, c5, c6, c7, c8, c9, c10, c11].drop 11).take (Tryz.prog.cellsOf 30)) = some x10 := hel 10 _ rfl
      rw [kOwed] at k10
      obtain ⟨z0, e0, _, _⟩ := DataW.trod_int Tryz.underlying3 k0
      obtain ⟨z2, e2, _, _⟩ := DataW.trod_int Tryz.underlying3 k2
      obtain ⟨z3, e3, _, _⟩ := DataW.trod_int Tryz.underlying3 k3
      obtain ⟨z4, e4, _, _⟩ := DataW.trod_int Tryz.underlying3 k4
      obtain ⟨z5, e5, _, _⟩ := DataW.trod_int Tryz.underlying3 k5
      obtain ⟨z1, e1, _⟩ := DataW.trod_bool Tryz.underlying4 k1
      obtain ⟨ys, m2, _, _, _, hl2, hel2⟩ := DataW.trod_struct Tryz.underlying27 k6
      match ys, hl2 with
      | [y0, y1], _ =>
        have j0 : DataW.trod enc Tryz.prog W base (fun _ => true) true m2 25 (((([c0, c1, c2, c3, c4, c5, c6, c7, c8, c9, c10, c11].drop 6).take 2).drop 0).take (Tryz.prog.cellsOf 25)) = some y0 := hel2 0 _ rfl
        have j1 : DataW.trod enc Tryz.prog W base (fun _ => true) true m2 25 (((([c0, c1, c2, c3, c4, c5, c6, c7, c8, c9, c10, c11].drop 6).take 2).drop 1).take (Tryz.prog.cellsOf 25)) = some y1 := hel2 1 _ rfl
        rw [kstr] at j0 j1
        obtain ⟨a1, b1, o1, n1, d1, L1, f1, h1⟩ := strsAt_of2 j0
        obtain ⟨a2, b2, o2, n2, d2, L2, f2, h2⟩ := strsAt_of2 j1
        obtain ⟨ar, br, oR, nr, dr, R, fr, hR⟩ := strsAt_of2 k7
        obtain ⟨aj, bj, oj, nj, dj, J, fj, hJ⟩ := atJob_of k8
        obtain ⟨az, bs, os, ns, ds, S, fs, hS⟩ := atSeat_of k9
        obtain ⟨ao, bo, oo, no, d0, O, fo, hO⟩ := atOwed_of k10
        simp only [List.drop_zero, List.drop_succ_cons, List.take_succ_cons, List.take_zero, List.cons.injEq, and_true] at e0 e1 e2 e3 e4 e5 f1 f2 fr fj fs fo
        subst e0 e1 e2 e3 e4 e5 f1 f2 fr fj fs fo
        exact ⟨z0, z1, z2, z3, z4, z5, a1, a2, ar, aj, az, ao, n1, d1, n2, d2, nr, dr, nj, dj, ns, ds, no, d0, b1, o1, b2, o2, br, oR, bj, oj, bs, os, bo, oo, L1, L2, R, J, S, O, rfl, h1, h2, hR, hJ, hS, hO⟩

end Go.Proofs.YthopfmhagddhgaaGreat
