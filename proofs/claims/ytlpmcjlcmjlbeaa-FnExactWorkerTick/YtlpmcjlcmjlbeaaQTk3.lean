import Derived.Test.YtlpmcjlcmjlbeaaQTk2
namespace Go.Proofs.Ytlpmcjlcmjlbeaa
open Go.RowKit
theorem Try.sizeMs : (Try.prog.info? 75).map (·.size) = some 8 := by kernel_rfl
theorem run_not {ρ : Operand → Value} {o : Oper} {w : World} (x : Operand) (b : Bool) (h : o.op = .unOp .not 4 x) (hx : ρ x = .bool b) : (execOp ρ o).run Try.prog w = .ok (.value (.bool (!b))) w := by
  unfold execOp
  rw [h]
  simp [go_sem, hx]
theorem run_fa10 {ρ : Operand → Value} {o : Oper} {w : World} {g : Nat} (x : Operand) (h : o.op = .fieldAddr 27 x 10) (hx : ρ x = .pointer (some ⟨g, 0, none⟩)) : (execOp ρ o).run Try.prog w = .ok (.value (.pointer (some ⟨g, 10, none⟩))) w := by
  unfold execOp
  rw [h]
  simp [go_sem, hx]
theorem run_ldi {ρ : Operand → Value} {o : Oper} {w : World} {p : Addr} {v : Value} (x : Operand) (h : o.op = .load 3 x) (hx : ρ x = .pointer (some p)) (hc : w.cell? p = some v) : (execOp ρ o).run Try.prog w = .ok (.value v) w := by
  unfold execOp
  rw [h]
  simp [go_sem, hx, hc]
theorem run_lss {ρ : Operand → Value} {o : Oper} {w : World} (x y : Operand) (a b : Int) (h : o.op = .binOp .lss 3 x y 3) (hx : ρ x = .int .i64 a) (hy : ρ y = .int .i64 b) : (execOp ρ o).run Try.prog w = .ok (.value (.bool (decide (a < b)))) w := by
  unfold execOp
  rw [h]
  simp [go_sem, hx, hy]
theorem run_pk {ρ : Operand → Value} {o : Oper} {w : World} (x y z : Operand) (v : Value) (h : o.op = .pick x y z) (hx : ρ x = .bool true) (hy : ρ y = v) : (execOp ρ o).run Try.prog w = .ok (.value v) w := by
  unfold execOp
  rw [h]
  simp [go_sem, hx, hy]
theorem run_pkf {ρ : Operand → Value} {o : Oper} {w : World} (x y z : Operand) (v : Value) (h : o.op = .pick x y z) (hx : ρ x = .bool false) (hz : ρ z = v) : (execOp ρ o).run Try.prog w = .ok (.value v) w := by
  unfold execOp
  rw [h]
  simp [go_sem, hx, hz]
theorem run_pause0 {ρ : Operand → Value} {o : Oper} {w : World} (x : Operand) (v : Value) (h : o.op = .call { callee := .invoke x "loop.example/kilncrew/impl.pause", args := #[], argTypes := #[] }) (hx : ρ x = .iface 83 v) : (execOp ρ o).run Try.prog w = .ok (.enter 94 #[v]) w := by
  have hm : (method 230 83 v "loop.example/kilncrew/impl.pause").run Try.prog w = .ok (94, v) w := by kernel_rfl
  have hc : (callFunc 94 #[v]).run Try.prog w = .ok (.enter 94 #[v]) w := by kernel_rfl
  unfold execOp
  rw [h]
  simp [go_sem, hx, hm, hc]
theorem run_pause1 {ρ : Operand → Value} {o : Oper} {w : World} (x : Operand) (v : Value) (h : o.op = .call { callee := .invoke x "loop.example/kilncrew/impl.pause", args := #[], argTypes := #[] }) (hx : ρ x = .iface 85 v) : (execOp ρ o).run Try.prog w = .ok (.enter 98 #[v]) w := by
  have hm : (method 230 85 v "loop.example/kilncrew/impl.pause").run Try.prog w = .ok (98, v) w := by kernel_rfl
  have hc : (callFunc 98 #[v]).run Try.prog w = .ok (.enter 98 #[v]) w := by kernel_rfl
  unfold execOp
  rw [h]
  simp [go_sem, hx, hm, hc]
theorem run_pause2 {ρ : Operand → Value} {o : Oper} {w : World} (x : Operand) (v : Value) (h : o.op = .call { callee := .invoke x "loop.example/kilncrew/impl.pause", args := #[], argTypes := #[] }) (hx : ρ x = .iface 87 v) : (execOp ρ o).run Try.prog w = .ok (.enter 102 #[v]) w := by
  have hm : (method 230 87 v "loop.example/kilncrew/impl.pause").run Try.prog w = .ok (102, v) w := by kernel_rfl
  have hc : (callFunc 102 #[v]).run Try.prog w = .ok (.enter 102 #[v]) w := by kernel_rfl
  unfold execOp
  rw [h]
  simp [go_sem, hx, hm, hc]
end Go.Proofs.Ytlpmcjlcmjlbeaa
