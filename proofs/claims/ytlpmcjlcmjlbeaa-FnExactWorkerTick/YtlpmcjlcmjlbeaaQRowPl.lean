import Derived.Test.YtlpmcjlcmjlbeaaQLawVal
import Derived.ProofKit
import Derived.OpenShut
import Derived.ShutString
import Derived.ChangeOld
import Derived.SliceStrings
import Derived.Test.YtlpmcjlcmjlbeaaQEq
import Derived.Deep.Slices
import Derived.Deep.Strs
namespace Go.Proofs.Ytlpmcjlcmjlbeaa
open Go.ChangeShapes Go.WideShapes Go.ChangeAt Go.RowKit
open Go.ChangeMaps (open_string shut_string)

theorem Try.own : ownKnob Try.prog.godebug = none := by kernel_rfl
theorem Try.laidOut : laidOutB Try.prog = true := by kernel_rfl

/-- A list of texts that came in. -/
theorem strsAt_of2 {H : Type} {enc : TypeId × Value → H} {W : World} {base fuel : Nat} {cs : List Value} {x : DataW H × List MemPlace}
    (hf : DataW.trod enc Try.prog W base (fun _ => true) true fuel 22 cs = some x) : ∃ a b o n c ss, cs = [.slice a n c] ∧ StrsAt W a b o n ss := by
  rcases open_strings Try.underlying22 Try.underlying9 (by kernel_rfl) hf with ⟨hcs, _⟩ | ⟨y, n, c, ss, hcs, _, hl, hm, hz, _, hcell, hws⟩
  · exact ⟨none, 0, 0, 0, 0, [], hcs, fun h => absurd h (by omega), rfl, Nat.zero_le _, fun h => absurd h (by omega), fun j hj => absurd hj (by omega), by simp⟩
  · have hz' : ss.length = c := by simpa using hz
    have hsz : ∀ s ∈ ss.take n, s.size ≤ maxLen := fun s hs => hws s (List.mem_of_mem_take hs)
    have hlen : (ss.take n).length = n := by rw [List.length_take]; omega
    by_cases h0 : n = 0
    · subst h0
      exact ⟨some y, 0, 0, 0, c, ss.take 0, hcs, fun h => absurd h (by omega), hlen, Nat.zero_le _, fun h => absurd h (by omega), fun j hj => absurd hj (by omega), hsz⟩
    · obtain ⟨b, off, spot⟩ := y
      have hc := hcell 0 (by omega)
      have hspot : spot = none := by simpa [Addr.add] using World.cell?_spot hc
      subst hspot
      have hc' : ∀ j, j < n → W.cell? ⟨b, off + j, none⟩ = some (.string ((ss.take n).getD j ByteArray.empty)) := fun j hj => by
        have := hcell j (by omega)
        rw [Addr.add_lit] at this
        rw [this]
        simp [List.getD, hj]
      exact ⟨_, b, off, n, c, ss.take n, hcs, fun _ => rfl, hlen, by omega, fun _ => World.block_lt_of_cell? _ _ (hc' 0 (by omega)), hc', hsz⟩

set_option maxRecDepth 100000 in
/-- A worker that came in. -/
theorem workerAt_of {H : Type} {enc : TypeId × Value → H} {W : World} {base fuel : Nat} {v : Value} {y : DataW H × List MemPlace}
    (hv : ∃ cs, v = .agg cs ∧ cs.size = Try.prog.cellsOf 24) (hf : DataW.trod enc Try.prog W base (fun _ => true) true fuel 24 v.cells.toList = some y) :
    ∃ (nu ep : Int) (up : Bool) (st le ta co lf : Int) (x : ByteArray) (si : Int) (a : Option Addr) (b o n c : Nat) (ss : List ByteArray), v = .agg #[.int .i64 nu, .int .i64 ep, .bool up, .int .i64 st, .int .i64 le, .int .i64 ta, .int .i64 co, .int .i64 lf, .slice a n c, .string x, .int .i64 si] ∧ x.size ≤ maxLen ∧ StrsAt W a b o n ss := by
  obtain ⟨cs, rfl, hcs⟩ := hv
  have hC : Try.prog.cellsOf 24 = 11 := by kernel_rfl
  rw [hC] at hcs
  obtain ⟨l⟩ := cs
  obtain ⟨xs, m, _, ex, hlen, hl, hel⟩ := DataW.trod_struct Try.underlying24 hf
  match l, hcs with
  | [c0, c1, c2, c3, c4, c5, c6, c7, c8, c9, c10], _ =>
    match xs, hl with
    | [x0, x1, x2, x3, x4, x5, x6, x7, x8, x9, x10], _ =>
      have ki : Try.prog.cellsOf 3 = 1 := by kernel_rfl
      have kb : Try.prog.cellsOf 4 = 1 := by kernel_rfl
      have ks : Try.prog.cellsOf 9 = 1 := by kernel_rfl
      have kl : Try.prog.cellsOf 22 = 1 := by kernel_rfl
      have k0 : DataW.trod enc Try.prog W base (fun _ => true) true m 3 (([c0, c1, c2, c3, c4, c5, c6, c7, c8, c9, c10].drop 0).take (Try.prog.cellsOf 3)) = some x0 := hel 0 _ rfl
      have k1 : DataW.trod enc Try.prog W base (fun _ => true) true m 3 (([c0, c1, c2, c3, c4, c5, c6, c7, c8, c9, c10].drop 1).take (Try.prog.cellsOf 3)) = some x1 := hel 1 _ rfl
      have k2 : DataW.trod enc Try.prog W base (fun _ => true) true m 4 (([c0, c1, c2, c3, c4, c5, c6, c7, c8, c9, c10].drop 2).take (Try.prog.cellsOf 4)) = some x2 := hel 2 _ rfl
      have k3 : DataW.trod enc Try.prog W base (fun _ => true) true m 3 (([c0, c1, c2, c3, c4, c5, c6, c7, c8, c9, c10].drop 3).take (Try.prog.cellsOf 3)) = some x3 := hel 3 _ rfl
      have k4 : DataW.trod enc Try.prog W base (fun _ => true) true m 3 (([c0, c1, c2, c3, c4, c5, c6, c7, c8, c9, c10].drop 4).take (Try.prog.cellsOf 3)) = some x4 := hel 4 _ rfl
      have k5 : DataW.trod enc Try.prog W base (fun _ => true) true m 3 (([c0, c1, c2, c3, c4, c5, c6, c7, c8, c9, c10].drop 5).take (Try.prog.cellsOf 3)) = some x5 := hel 5 _ rfl
      have k6 : DataW.trod enc Try.prog W base (fun _ => true) true m 3 (([c0, c1, c2, c3, c4, c5, c6, c7, c8, c9, c10].drop 6).take (Try.prog.cellsOf 3)) = some x6 := hel 6 _ rfl
      have k7 : DataW.trod enc Try.prog W base (fun _ => true) true m 3 (([c0, c1, c2, c3, c4, c5, c6, c7, c8, c9, c10].drop 7).take (Try.prog.cellsOf 3)) = some x7 := hel 7 _ rfl
      have k8 : DataW.trod enc Try.prog W base (fun _ => true) true m 22 (([c0, c1, c2, c3, c4, c5, c6, c7, c8, c9, c10].drop 8).take (Try.prog.cellsOf 22)) = some x8 := hel 8 _ rfl
      have k9 : DataW.trod enc Try.prog W base (fun _ => true) true m 9 (([c0, c1, c2, c3, c4, c5, c6, c7, c8, c9, c10].drop 9).take (Try.prog.cellsOf 9)) = some x9 := hel 9 _ rfl
      have k10 : DataW.trod enc Try.prog W base (fun _ => true) true m 3 (([c0, c1, c2, c3, c4, c5, c6, c7, c8, c9, c10].drop 10).take (Try.prog.cellsOf 3)) = some x10 := hel 10 _ rfl
      rw [ki] at k0
      rw [ki] at k1
      rw [kb] at k2
      rw [ki] at k3
      rw [ki] at k4
      rw [ki] at k5
      rw [ki] at k6
      rw [ki] at k7
      rw [kl] at k8
      rw [ks] at k9
      rw [ki] at k10
      obtain ⟨z0, a0, _, _⟩ := DataW.trod_int Try.underlying3 k0
      obtain ⟨z1, a1, _, _⟩ := DataW.trod_int Try.underlying3 k1
      obtain ⟨z2, a2, _⟩ := DataW.trod_bool Try.underlying4 k2
      obtain ⟨z3, a3, _, _⟩ := DataW.trod_int Try.underlying3 k3
      obtain ⟨z4, a4, _, _⟩ := DataW.trod_int Try.underlying3 k4
      obtain ⟨z5, a5, _, _⟩ := DataW.trod_int Try.underlying3 k5
      obtain ⟨z6, a6, _, _⟩ := DataW.trod_int Try.underlying3 k6
      obtain ⟨z7, a7, _, _⟩ := DataW.trod_int Try.underlying3 k7
      obtain ⟨a, b, o, n, c, ss, a8, hat⟩ := strsAt_of2 k8
      obtain ⟨z9, a9, _, hsz⟩ := DataW.trod_string Try.underlying9 k9
      obtain ⟨z10, a10, _, _⟩ := DataW.trod_int Try.underlying3 k10
      simp only [List.drop_zero, List.drop_succ_cons, List.take_succ_cons, List.take_zero, List.cons.injEq, and_true] at a0 a1 a2 a3 a4 a5 a6 a7 a8 a9 a10
      subst a0 a1 a2 a3 a4 a5 a6 a7 a8 a9 a10
      exact ⟨z0, z1, z2, z3, z4, z5, z6, z7, z9, z10, a, b, o, n, c, ss, rfl, hsz, hat⟩
end Go.Proofs.Ytlpmcjlcmjlbeaa

namespace Go.Proofs.Ytlpmcjlcmjlbeaa
open Go.ChangeShapes Go.WideShapes Go.ChangeAt Go.RowKit Go.Deep
open Go.ChangeMaps (open_string shut_string)

theorem wf_I64 {x : Int} (h : (Lit.int .i64 x).wf = true) : I64 x := by
  simp [Lit.wf, IntKind.min, IntKind.max, IntKind.signed, IntKind.bits] at h
  exact ⟨by omega, by omega⟩

set_option maxRecDepth 100000 in
theorem intsAt_of {H : Type} {enc : TypeId × Value → H} {W : World} {base fuel : Nat} {cs : List Value} {x : DataW H × List MemPlace}
    (hf : DataW.trod enc Try.prog W base (fun _ => true) true fuel 70 cs = some x) : ∃ a b o n c ns, cs = [.slice a n c] ∧ IntsAt W a b o n ns := by
  rcases open_ints Try.underlying70 Try.underlying3 (by kernel_rfl) hf with ⟨hcs, _⟩ | ⟨y, n, c, ss, hcs, _, hl, hm, hz, _, hcell, hws⟩
  · exact ⟨none, 0, 0, 0, 0, [], hcs, fun h => absurd h (by omega), rfl, Nat.zero_le _, fun h => absurd h (by omega), fun j hj => absurd hj (by omega), by simp⟩
  · have hz' : ss.length = c := by simpa using hz
    have hsz : ∀ s ∈ ss.take n, I64 s := fun s hs => wf_I64 (hws s (List.mem_of_mem_take hs))
    have hlen : (ss.take n).length = n := by rw [List.length_take]; omega
    by_cases h0 : n = 0
    · subst h0
      exact ⟨some y, 0, 0, 0, c, ss.take 0, hcs, fun h => absurd h (by omega), hlen, Nat.zero_le _, fun h => absurd h (by omega), fun j hj => absurd hj (by omega), hsz⟩
    · obtain ⟨b, off, spot⟩ := y
      have hc := hcell 0 (by omega)
      have hspot : spot = none := by simpa [Addr.add] using World.cell?_spot hc
      subst hspot
      have hc' : ∀ j, j < n → W.cell? ⟨b, off + j, none⟩ = some (.int .i64 ((ss.take n).getD j 0)) := fun j hj => by
        have := hcell j (by omega)
        rw [Addr.add_lit] at this
        rw [this]
        simp [List.getD, hj]
      exact ⟨_, b, off, n, c, ss.take n, hcs, fun _ => rfl, hlen, by omega, fun _ => World.block_lt_of_cell? _ _ (hc' 0 (by omega)), hc', hsz⟩

set_option maxRecDepth 100000 in
theorem tasksAt_of {H : Type} {enc : TypeId × Value → H} {W : World} {base fuel : Nat} {cs : List Value} {x : DataW H × List MemPlace}
    (hf : DataW.trod enc Try.prog W base (fun _ => true) true fuel 33 cs = some x) : ∃ a b o n c ts, cs = [.slice a n c] ∧ TasksAt W a b o n ts := by
  rcases open_slice Try.underlying33 hf with ⟨hcs, _⟩ | ⟨y, n, c, m, fu, D, Pl, hcs, _, hl, hm, hmm, _, hel⟩
  · exact ⟨none, 0, 0, 0, 0, [], hcs, fun h => absurd h (by omega), rfl, Nat.zero_le _, fun h => absurd h (by omega), fun j hj => absurd hj (by omega), fun j hj => absurd hj (by omega), fun j hj => absurd hj (by omega), fun j hj => absurd hj (by omega)⟩
  · have hm' : m = c := by simpa using hmm
    have hC : Try.prog.cellsOf 91 = 3 := by kernel_rfl
    by_cases h0 : n = 0
    · subst h0
      exact ⟨some y, 0, 0, 0, c, [], hcs, fun h => absurd h (by omega), rfl, Nat.zero_le _, fun h => absurd h (by omega), fun j hj => absurd hj (by omega), fun j hj => absurd hj (by omega), fun j hj => absurd hj (by omega), fun j hj => absurd hj (by omega)⟩
    have each : ∀ i, i < n → ∃ s x a' b' o' n' c' ns, W.cell? (y.add (i * 3)) = some (.string s) ∧ W.cell? ((y.add (i * 3)).add 1) = some (.int .i64 x) ∧ W.cell? ((y.add (i * 3)).add 2) = some (.slice a' n' c') ∧ s.size ≤ maxLen ∧ I64 x ∧ IntsAt W a' b' o' n' ns := fun i hi => by
      obtain ⟨cs', hcells, ht⟩ := hel i (by omega)
      rw [hC] at hcells
      obtain ⟨y0, y1, y2, fu2, _, hlen, h0, h1, h2⟩ := trod_struct3 Try.underlying91 ht
      rw [hC] at hlen
      obtain ⟨_, _, hcl⟩ := World.cells?_some hcells
      match cs', hlen with
      | [c0, c1, c2], _ =>
        have e0 := hcl 0 (by omega)
        have e1 := hcl 1 (by omega)
        have e2 := hcl 2 (by omega)
        have k9 : Try.prog.cellsOf 9 = 1 := by kernel_rfl
        have k3 : Try.prog.cellsOf 3 = 1 := by kernel_rfl
        have k42 : Try.prog.cellsOf 70 = 1 := by kernel_rfl
        simp only [k9, k3, k42, List.drop_zero, List.drop_succ_cons, List.take_succ_cons, List.take_zero] at h0 h1 h2
        obtain ⟨s, hs, _, hsz⟩ := DataW.trod_string Try.underlying9 h0
        obtain ⟨x, hx, _, hxw⟩ := DataW.trod_int Try.underlying3 h1
        obtain ⟨a', b', o', n', c', ns, hns, hi'⟩ := intsAt_of h2
        simp only [List.cons.injEq, and_true] at hs hx hns
        subst hs; subst hx; subst hns
        refine ⟨s, x, a', b', o', n', c', ns, ?_, by simpa using e1, by simpa using e2, hsz, wf_I64 hxw, hi'⟩
        rw [show (y.add (i * 3)).add 0 = y.add (i * 3) by unfold Addr.add; split <;> simp_all] at e0
        simpa using e0
    obtain ⟨b, off, spot⟩ := y
    have hspot : spot = none := by
      obtain ⟨_, _, _, _, _, _, _, _, hc, _⟩ := each 0 (by omega)
      simpa [Addr.add] using World.cell?_spot hc
    subst hspot
    have each' : ∀ i, ∃ t : TaskD, i < n → W.cell? ⟨b, off + i * 3, none⟩ = some (.string t.name) ∧ W.cell? ⟨b, off + i * 3 + 1, none⟩ = some (.int .i64 t.cost) ∧ (∃ a' b' o' n' c', W.cell? ⟨b, off + i * 3 + 2, none⟩ = some (.slice a' n' c') ∧ IntsAt W a' b' o' n' t.deps) ∧ t.name.size ≤ maxLen ∧ I64 t.cost := fun i => by
      by_cases hi : i < n
      · obtain ⟨s, x, a', b', o', n', c', ns, q0, q1, q2, q3, q4, q5⟩ := each i hi
        simp only [Addr.add_lit] at q0 q1 q2
        exact ⟨⟨s, x, ns⟩, fun _ => ⟨q0, q1, ⟨a', b', o', n', c', q2, q5⟩, q3, q4⟩⟩
      · exact ⟨dT, fun h => absurd h hi⟩
    obtain ⟨f, hf⟩ := Classical.skolem.1 each'
    have hget : ∀ j, j < n → ((List.range n).map f).getD j dT = f j := fun j hj => by simp [List.getD, hj]
    refine ⟨_, b, off, n, c, (List.range n).map f, hcs, fun _ => rfl, by simp, by omega, fun _ => World.block_lt_of_cell? _ _ (hf 0 (by omega)).1, fun j hj => ?_, fun j hj => ?_, fun j hj => ?_, fun j hj => ?_⟩
    · rw [hget j hj]; exact (hf j hj).1
    · rw [hget j hj]; exact (hf j hj).2.1
    · rw [hget j hj]; exact (hf j hj).2.2.1
    · rw [hget j hj]; exact (hf j hj).2.2.2

set_option maxRecDepth 100000 in
theorem planAt_of {H : Type} {enc : TypeId × Value → H} {W : World} {base fuel : Nat} {v : Value} {x : DataW H × List MemPlace}
    (hv : ∃ cs, v = .agg cs ∧ cs.size = Try.prog.cellsOf 35) (hf : DataW.trod enc Try.prog W base (fun _ => true) true fuel 35 v.cells.toList = some x) : ∃ a b o n c ts, v = .agg #[.slice a n c] ∧ TasksAt W a b o n ts := by
  obtain ⟨cs, rfl, hcs⟩ := hv
  have hC : Try.prog.cellsOf 35 = 1 := by kernel_rfl
  rw [hC] at hcs
  obtain ⟨l⟩ := cs
  match l, hcs with
  | [c0], _ =>
    obtain ⟨y0, fu, _, _, h0⟩ := trod_struct1 Try.underlying35 hf
    have k28 : Try.prog.cellsOf 33 = 1 := by kernel_rfl
    simp only [k28, Value.cells, List.drop_zero, List.take_succ_cons, List.take_zero] at h0
    obtain ⟨a, b, o, n, c, ts, hc, ht⟩ := tasksAt_of h0
    simp only [List.cons.injEq, and_true] at hc
    subst hc
    exact ⟨a, b, o, n, c, ts, rfl, ht⟩

end Go.Proofs.Ytlpmcjlcmjlbeaa
