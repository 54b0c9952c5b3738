import Derived.Test.YtlpmcjlcmjlbeaaQTk1
namespace Go.Proofs.Ytlpmcjlcmjlbeaa
open Go.RowKit
def zA : List Value := [.int .i64 0, .int .i64 0, .bool false, .int .i64 0, .int .i64 0, .int .i64 0, .int .i64 0, .int .i64 0, .slice none 0 0, .string ⟨#[]⟩, .int .i64 0, .slice none 0 0]
theorem Try.sizeAc : (Try.prog.info? 39).map (·.size) = some 12 := by kernel_rfl
theorem one12 (nu ep : Int) (up : Bool) (st le ta co lf : Int) (a : Option Addr) (n c : Nat) (x : ByteArray) (si : Int) (a' : Option Addr) (n' c' : Nat) : ∀ v ∈ [Value.int .i64 nu, .int .i64 ep, .bool up, .int .i64 st, .int .i64 le, .int .i64 ta, .int .i64 co, .int .i64 lf, .slice a n c, .string x, .int .i64 si, .slice a' n' c'], v.oneCell' = true := by
  intro v hv
  simp only [List.mem_cons, List.not_mem_nil, or_false] at hv
  rcases hv with rfl | rfl | rfl | rfl | rfl | rfl | rfl | rfl | rfl | rfl | rfl | rfl <;> rfl
theorem bad_of {d : WD} {ts : List TaskD} {c : Int} (h : Code ts c) (hc : ¬ c = 0) : ¬ (d.ok ∧ Code ts 0) := fun hh => hc (h.one hh.2)
theorem dis_of {v v' : Value} (h : ∀ q, v.ownBlock = some q → some q ≠ v'.ownBlock) : v.ownBlock = none ∨ v.ownBlock ≠ v'.ownBlock := by
  cases hq : v.ownBlock with
  | none => exact .inl rfl
  | some q => exact .inr (h q hq)
theorem run_mvT {ρ : Operand → Value} {o : Oper} {w : World} {v : Value} (x : Operand) (h : o.op = .move x) (hx : ρ x = v) : (execOp ρ o).run Try.prog w = .ok (.value v) w := by
  rw [← hx]; exact BigFrame.run_move x h w
theorem run_bs1 {ρ : Operand → Value} {o : Oper} {w : World} (x : Operand) (k f t e l d : Int) (s : ByteArray) (h : o.op = .buildSlice 37 1 #[(0, x)]) (hx : ρ x = .agg #[.int .i64 k, .int .i64 f, .int .i64 t, .int .i64 e, .int .i64 l, .int .i64 d, .string s, .slice none 0 0]) :
    (execOp ρ o).run Try.prog w = .ok (.value (.slice (some ⟨w.heap.size, 0, none⟩) 1 1)) (w.alloc (.cells #[.int .i64 k, .int .i64 f, .int .i64 t, .int .i64 e, .int .i64 l, .int .i64 d, .string s, .slice none 0 0] 75)) := by
  unfold execOp
  rw [h]
  simp [go_sem, hx]
theorem run_bd {ρ : Operand → Value} {o : Oper} {w : World} (x y : Operand) (nu ep : Int) (up : Bool) (st le ta co lf : Int) (a : Option Addr) (n c : Nat) (s : ByteArray) (si : Int) (a' : Option Addr) (n' c' : Nat) (h : o.op = .build 39 #[(0, x), (1, y)]) (hx : ρ x = .agg #[.int .i64 nu, .int .i64 ep, .bool up, .int .i64 st, .int .i64 le, .int .i64 ta, .int .i64 co, .int .i64 lf, .slice a n c, .string s, .int .i64 si]) (hy : ρ y = .slice a' n' c') :
    (execOp ρ o).run Try.prog w = .ok (.value (.agg #[.int .i64 nu, .int .i64 ep, .bool up, .int .i64 st, .int .i64 le, .int .i64 ta, .int .i64 co, .int .i64 lf, .slice a n c, .string s, .int .i64 si, .slice a' n' c'])) w := by
  unfold execOp
  rw [h]
  simp [go_sem, hx, hy]
theorem enter_l3Says (v1 v2 : Value) (w : World) : Sem.run Try.prog (callFunc 48 #[v1, v2]) w = .ok (.enter 48 #[v1, v2]) w := by kernel_rfl
theorem enter_inS (v1 v2 : Value) (w : World) : Sem.run Try.prog (callFunc 44 #[v1, v2]) w = .ok (.enter 44 #[v1, v2]) w := by kernel_rfl
/-- One message, as a list of its own. -/
theorem outOwn (w : World) (B : Nat) (m : OM) (hB : B ≤ w.heap.size) : Own B (w.alloc (.cells m.cells.toArray 75)) 8 (.slice (some ⟨w.heap.size, 0, none⟩) 1 1) 1 m.cells :=
  .inr ⟨w.heap.size, 0, 1, rfl, OwnC.made w B 75 8 1 1 m.cells.toArray 8 hB (Nat.le_refl _) (by unfold maxLen; omega) rfl (by simp [OM.cells]) m.cells (by simp [OM.cells]) _ (.inl rfl)⟩
end Go.Proofs.Ytlpmcjlcmjlbeaa
