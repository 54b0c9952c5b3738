
/-
  spec.l6Copy, l6There, Double, Lose, Bend.
-/
import Derived.Test.YtlgmkmegkojgbaaDoorNim
namespace Go.Proofs.YtlgmkmegkojgbaaDoor
open Go.RowKit

theorem Tryd.under_pcs : Tryd.prog.underlying 52 = some (.slice 45) := Tryd.underlying52
set_option maxHeartbeats 1000000 in
set_option maxRecDepth 100000 in
theorem l6Copy_any (a : Option Addr) (b o n c : Nat) (P : List Pc) (w : World) (h : PcAt w a b o n P) (hn : n ≤ 1048576) :
    Calls Tryd.prog 55 #[.slice a n c] w fun e w' => RetP e w.heap.size w' P ∧ Below w.heap.size w w' := by
  obtain ⟨i0, hi, hz0, hz1, hz2⟩ := info_parts Tryd.infoPc
  have hl := h.len
  have hbU : Below w.heap.size w (w.alloc (.cells #[] 45)) := (Below.refl _ _).alloc (Nat.le_refl _) _
  have hown0 : Own w.heap.size (w.alloc (.cells #[] 45)) 3 (.slice (some ⟨w.heap.size, 0, none⟩) 0 0) 0 [] :=
    .inr ⟨_, 0, 0, rfl, OwnC.made w w.heap.size 45 3 0 0 _ 0 (Nat.le_refl _) (Nat.le_refl _) (by unfold maxLen; omega) rfl (Nat.le_refl _) _ rfl _ (.inl rfl)⟩
  have hsrc := (h.below' hbU).src 52 45 Tryd.underlying52 c
  have hrow := hown0.row_lo
  go_enter Tryd.func55, Tryd.ntmps55
  go_wp2_with (refine wpList_append_c _ rfl _ _ 52 52 rfl w.heap.size 45 i0 _ 3 40 Tryd.underlying52 hi hz0 hz1 hz2 rfl (.slice (some ⟨w.heap.size, 0, none⟩) 0 0) 0 [] rfl hown0 (.slice a n c) n (pcs P) rfl hsrc (by unfold maxLen; omega) (by omega) (by simp) ?_; intro v' w1 hown hgr hob)
  rw [Nat.zero_add, List.nil_append] at hown
  go_ret
  exact ⟨⟨_, rfl, by rw [hl]; exact hown⟩, hbU.grown hgr (by simp) hrow⟩

theorem thereB_true {n : Nat} {k : Int} (h : n ≤ 2000 ∧ 0 ≤ k ∧ k < n) : thereB n k = true := by simp [thereB, h.1, h.2.1, h.2.2]
theorem thereB_false {n : Nat} {k : Int} (h : ¬ (n ≤ 2000 ∧ 0 ≤ k ∧ k < n)) : thereB n k = false := by
  cases hE : thereB n k with
  | true => exact absurd (thereB_t hE) h
  | false => rfl
theorem run_addL {ρ : Operand → Value} {o : Oper} {w : World} (x y : Operand) (c m : Int) (h : o.op = .binOp .add 3 x y 3) (hx : ρ x = .int .i64 c) (hy : ρ y = .int .i64 m) (h0 : -1099511627776 ≤ c + m) (h1 : c + m ≤ 1099511627776) :
    (execOp ρ o).run Tryd.prog w = .ok (.value (.int .i64 (c + m))) w := by
  unfold execOp
  rw [h]
  have hw : IntKind.i64.wrap (c + m) = c + m := by rw [IntKind.wrap_i64]; omega
  simp [go_sem, hx, hy, hw]
theorem run_bs0P {ρ : Operand → Value} {o : Oper} {w : World} (h : o.op = .buildSlice 52 0 #[]) : (execOp ρ o).run Tryd.prog w = .ok (.value (.slice (some ⟨w.heap.size, 0, none⟩) 0 0)) (w.alloc (.cells #[] 45)) := by
  unfold execOp
  rw [h]
  simp [go_sem]

end Go.Proofs.YtlgmkmegkojgbaaDoor
