
/-
  spec.l4All.
-/
import Derived.Test.YtoikcjeagigmfaaBiv
import Derived.Test.YtoikcjeagigmfaaRGo2
namespace Go.Proofs.Ytoikcjeagigmfaa
open Go.RowKit

theorem StrsAt.srcS {w : World} {a : Option Addr} {b o n : Nat} {ss : List ByteArray} (h : StrsAt w a b o n ss) (c : Nat) : Src Try.prog 1 36 (.slice a n c) n (ss.map Value.string) w := by
  have h1 : ∀ u ∈ ss.map Value.string, u.oneCell' = true := fun u hu => by obtain ⟨y, _, rfl⟩ := List.mem_map.1 hu; rfl
  cases a with
  | none =>
    have h0 : n = 0 := Nat.eq_zero_of_not_pos fun hh => by have := h.ad hh; cases this
    subst h0
    have : ss = [] := List.eq_nil_of_length_eq_zero h.len
    subst this
    exact Src.ofNil w Try.underlying36 c
  | some y =>
    refine Src.ofSlice w Try.underlying36 y n c (ss.map Value.string) (by simp [h.len]) (fun j u hu => ?_) h1
    have hj : j < n := by have := (List.getElem?_eq_some_iff.1 hu).1; simp [h.len] at this; exact this
    have hy := h.ad (by omega)
    injection hy with hy
    subst hy
    rw [Addr.add_lit, h.cell j hj]
    rw [← hu]; simp [List.getD, h.len, hj]

theorem run_bs0 {ρ : Operand → Value} {o : Oper} {w : World} (h : o.op = .buildSlice 36 0 #[]) : (execOp ρ o).run Try.prog w = .ok (.value (.slice (some ⟨w.heap.size, 0, none⟩) 0 0)) (w.alloc (.cells #[] 9)) := by
  unfold execOp
  rw [h]
  simp [go_sem]
theorem run_app {ρ : Operand → Value} {o : Oper} {w w' : World} {v x v' : Value} (s y : Operand) (t tx : TypeId) (ho : o.op = .call { callee := .builtin .append, args := #[s, y], argTypes := #[t, tx] }) (hv : ρ s = v) (hx : ρ y = x) (hty : o.type = 36) (hr : (Builtin.append_ #[t, tx] 36 #[v, x]).run Try.prog w = .ok v' w') : (execOp ρ o).run Try.prog w = .ok (.value v') w' := by
  unfold execOp
  simp [ho, resolve, invoke, builtin, hv, hx, hty, hr, Result.andThen]
theorem run_asg {ρ : Operand → Value} {o : Oper} {w : World} {v : Value} (x : Operand) (h : o.op = .assign x) (hx : ρ x = v) : (execOp ρ o).run Try.prog w = .ok (.value v) w := by
  unfold execOp
  rw [h]
  simp [go_sem, hx]

set_option maxHeartbeats 2000000 in
set_option maxRecDepth 100000 in
theorem l4All_any (a1 a2 : Option Addr) (b1 o1 n1 c1 b2 o2 n2 c2 : Nat) (L1 L2 : List ByteArray) (w : World) (h1 : StrsAt w a1 b1 o1 n1 L1) (h2 : StrsAt w a2 b2 o2 n2 L2) (hm1 : n1 ≤ 1048576) (hm2 : n2 ≤ 1048576) :
    Calls Try.prog 54 #[.agg #[.slice a1 n1 c1, .slice a2 n2 c2]] w fun e w' => (∃ v, e = .returned v ∧ Own w.heap.size w' 1 v (n1 + n2) ((L1 ++ L2).map Value.string)) ∧ Below w.heap.size w w' := by
  obtain ⟨i0, hi, hz0, hz1, hz2⟩ := info_parts Try.info9
  obtain ⟨W, hW⟩ : ∃ W, W = w.alloc (.cells #[.slice a1 n1 c1, .slice a2 n2 c2] 62) := ⟨_, rfl⟩
  have hbW : Below w.heap.size w W := by rw [hW]; exact (Below.refl _ _).alloc (Nat.le_refl _) _
  have hsW : W.heap.size = w.heap.size + 1 := by rw [hW]; simp
  have hMC : MC W w.heap.size [.slice a1 n1 c1, .slice a2 n2 c2] := by rw [hW]; exact MC.made w _ _
  have k0 : W.cell? ⟨w.heap.size, 0, none⟩ = some (.slice a1 n1 c1) := hMC 0 (by simp)
  have k1 : W.cell? ⟨w.heap.size, 1, none⟩ = some (.slice a2 n2 c2) := hMC 1 (by simp)
  have hK : W.drew.cell? ⟨w.heap.size, 0, none⟩ = some (.slice a1 n1 c1) ∧ W.drew.cell? ⟨w.heap.size, 1, none⟩ = some (.slice a2 n2 c2) := ⟨k0, k1⟩
  obtain ⟨U, hU⟩ : ∃ U, U = W.drew.alloc (.cells #[] 9) := ⟨_, rfl⟩
  have hown0 : Own (w.heap.size + 1) U 1 (.slice (some ⟨W.heap.size, 0, none⟩) 0 0) 0 [] := by
    rw [hU]
    exact .inr ⟨_, 0, 0, rfl, OwnC.made W.drew (w.heap.size + 1) 9 1 0 0 _ 0 (by show _ ≤ W.heap.size; omega) (Nat.le_refl _) (by unfold maxLen; omega) rfl (Nat.le_refl _) _ rfl _ (.inl rfl)⟩
  have hbU : Below w.heap.size w U := by rw [hU]; exact hbW.drew.alloc hbW.size _
  have hsU : U.heap.size = w.heap.size + 2 := by rw [hU]; show (World.alloc _ _).heap.size = _; rw [World.size_alloc]; show W.heap.size + 1 = _; omega
  have hKU : U.cell? ⟨w.heap.size, 0, none⟩ = some (.slice a1 n1 c1) ∧ U.cell? ⟨w.heap.size, 1, none⟩ = some (.slice a2 n2 c2) := by
    rw [hU]
    exact ⟨(World.cell?_alloc_lt W.drew _ ⟨w.heap.size, 0, none⟩ (by show w.heap.size < W.heap.size; omega)).trans k0, (World.cell?_alloc_lt W.drew _ ⟨w.heap.size, 1, none⟩ (by show w.heap.size < W.heap.size; omega)).trans k1⟩
  obtain ⟨v1, w1, hr1, hown1, hg1, _⟩ := run_append_c (P := Try.prog) U (w.heap.size + 1) 36 36 36 9 i0 (.string ⟨#[]⟩) 1 16 Try.underlying36 hi hz0 hz1 hz2 rfl _ 0 _ hown0 _ n1 _ ((h1.below' hbU).srcS c1) (by unfold maxLen; omega) (by omega) (by omega)
  rw [Nat.zero_add, List.nil_append] at hown1
  have hrow := hown0.row_lo
  have hb1 := hbU.grown hg1 (by omega) (fun q hq => by have := hrow q hq; omega)
  have hK1 : w1.cell? ⟨w.heap.size, 0, none⟩ = some (.slice a1 n1 c1) ∧ w1.cell? ⟨w.heap.size, 1, none⟩ = some (.slice a2 n2 c2) := ⟨hg1.cell hKU.1 (fun e => absurd (hrow _ e.symm) (by show ¬ _ ≤ w.heap.size; omega)), hg1.cell hKU.2 (fun e => absurd (hrow _ e.symm) (by show ¬ _ ≤ w.heap.size; omega))⟩
  have hs1 := hg1.size
  obtain ⟨v2, w2, hr2, hown2, hg2, _⟩ := run_append_c (P := Try.prog) w1 (w.heap.size + 1) 36 36 36 9 i0 (.string ⟨#[]⟩) 1 16 Try.underlying36 hi hz0 hz1 hz2 rfl _ n1 _ hown1 _ n2 _ ((h2.below' hb1).srcS c2) (by unfold maxLen; omega) (by omega) (by omega)
  have hrow1 := hown1.row_lo
  have hb2 := hb1.grown hg2 (by omega) (fun q hq => by have := hrow1 q hq; omega)
  have hK2 : w2.cell? ⟨w.heap.size, 0, none⟩ = some (.slice a1 n1 c1) ∧ w2.cell? ⟨w.heap.size, 1, none⟩ = some (.slice a2 n2 c2) := ⟨hg2.cell hK1.1 (fun e => absurd (hrow1 _ e.symm) (by show ¬ _ ≤ w.heap.size; omega)), hg2.cell hK1.2 (fun e => absurd (hrow1 _ e.symm) (by show ¬ _ ≤ w.heap.size; omega))⟩
  have HO := hid (show Own w.heap.size w2 1 v2 (n1 + n2) ((L1 ++ L2).map Value.string) by rw [List.map_append]; exact hown2.mono' (by omega))
  clear hown0 hown1 hown2 hg1 hg2 hrow hrow1 hMC k0 k1
  go_enter Try.func54, Try.ntmps54
  go_upto_region 1 with fail
  rw [← hW]
  clear hW
  refine wp_region_held (S := fun w' => w'.cell? ⟨w.heap.size, 0, none⟩ = some (.slice a1 n1 c1) ∧ w'.cell? ⟨w.heap.size, 1, none⟩ = some (.slice a2 n2 c2)) (by kernel_rfl) ?_
  change wpAnyH _ _ _ _ _ _ _ _ (World.drew _)
  refine hTake (i := 1) (d := some 4) (v := .pointer (some ⟨w.heap.size, 0, none⟩)) (l' := #[false, true, false, false, false, false, false, false]) rfl (by kernel_rfl) (by kernel_rfl) (by kernel_rfl) (by kernel_rfl) (fun _ _ _ h => h) (by kernel_rfl) (fun _ hc => by kernel_rfl) hK (by kernel_rfl) ?_
  refine hTake (i := 2) (d := some 5) (v := .slice a1 n1 c1) (l' := #[false, true, true, false, false, false, false, false]) rfl (by kernel_rfl) (by kernel_rfl) (by kernel_rfl) (by kernel_rfl) (fun _ _ _ h => h) (by kernel_rfl) (fun _ hc => run_ldss (.tmp 4) (by kernel_rfl) (by kernel_rfl) hc.1) hK (by kernel_rfl) ?_
  refine hTake (i := 4) (d := some 7) (v := .pointer (some ⟨w.heap.size, 1, none⟩)) (l' := #[false, true, true, false, true, false, false, false]) rfl (by kernel_rfl) (by kernel_rfl) (by kernel_rfl) (by kernel_rfl) (fun _ _ _ h => h) (by kernel_rfl) (fun _ hc => by kernel_rfl) hK (by kernel_rfl) ?_
  refine hTake (i := 5) (d := some 8) (v := .slice a2 n2 c2) (l' := #[false, true, true, false, true, true, false, false]) rfl (by kernel_rfl) (by kernel_rfl) (by kernel_rfl) (by kernel_rfl) (fun _ _ _ h => h) (by kernel_rfl) (fun _ hc => run_ldss (.tmp 7) (by kernel_rfl) (by kernel_rfl) hc.2) hK (by kernel_rfl) ?_
  refine hOne (i := 0) (by kernel_rfl) (hVal (i := 0) (d := some 3) (v := .slice (some ⟨W.heap.size, 0, none⟩) 0 0) (w' := U) (l' := #[true, true, true, false, true, true, false, false]) rfl (by kernel_rfl) (by kernel_rfl) (by kernel_rfl) (by rw [hU]; exact run_bs0 (by kernel_rfl)) hKU ?_)
  refine hOne (i := 3) (by kernel_rfl) (hVal (i := 3) (d := some 6) (v := v1) (w' := w1) (l' := #[true, true, true, true, true, true, false, false]) rfl (by kernel_rfl) (by kernel_rfl) (by kernel_rfl) (run_app (.tmp 3) (.tmp 5) 36 36 (by kernel_rfl) (by kernel_rfl) (by kernel_rfl) (by kernel_rfl) hr1) hK1 ?_)
  refine hOne (i := 6) (by kernel_rfl) (hVal (i := 6) (d := some 9) (v := v2) (w' := w2) (l' := #[true, true, true, true, true, true, true, false]) rfl (by kernel_rfl) (by kernel_rfl) (by kernel_rfl) (run_app (.tmp 6) (.tmp 8) 36 36 (by kernel_rfl) (by kernel_rfl) (by kernel_rfl) (by kernel_rfl) hr2) hK2 ?_)
  refine hOne (i := 7) (by kernel_rfl) (hVal (i := 7) (d := some 2) (v := v2) (w' := w2) (l' := #[true, true, true, true, true, true, true, true]) rfl (by kernel_rfl) (by kernel_rfl) (by kernel_rfl) (run_asg (.tmp 9) (by kernel_rfl) (by kernel_rfl)) hK2 ?_)
  refine wpAnyH_done (by kernel_rfl) ?_ _
  go_simp
  go_wp2
  go_ret
  exact ⟨⟨_, rfl, HO.out⟩, hb2⟩
end Go.Proofs.Ytoikcjeagigmfaa
