
import Derived.Test.YtimpfhfgcmipgaaDoorQWan
import Derived.Test.YtimpfhfgcmipgaaDoorQTk4
import Derived.Test.YtimpfhfgcmipgaaDoorQTk3
namespace Go.Proofs.YtimpfhfgcmipgaaDoor
open Go.RowKit

section
variable {ρ : Operand → Value} {o : Oper} {w : World}
theorem run_mvF {v : Value} (x : Operand) (h : o.op = .move x) (hx : ρ x = v) : (execOp ρ o).run Tryd.prog w = .ok (.value v) w := by
  rw [← hx]; unfold execOp; rw [h]; simp [go_sem]
theorem run_asF {v : Value} (x : Operand) (h : o.op = .assign x) (hx : ρ x = v) : (execOp ρ o).run Tryd.prog w = .ok (.value v) w := by
  rw [← hx]; unfold execOp; rw [h]; simp [go_sem]
theorem run_faA1 {g : Nat} (x : Operand) (h : o.op = .fieldAddr 40 x 1) (hx : ρ x = .pointer (some ⟨g, 0, none⟩)) : (execOp ρ o).run Tryd.prog w = .ok (.value (.pointer (some ⟨g, 11, none⟩))) w := by
  unfold execOp; rw [h]; simp [go_sem, hx]
theorem run_faW0 {g : Nat} (x : Operand) (h : o.op = .fieldAddr 25 x 0) (hx : ρ x = .pointer (some ⟨g, 0, none⟩)) : (execOp ρ o).run Tryd.prog w = .ok (.value (.pointer (some ⟨g, 0, none⟩))) w := by
  unfold execOp; rw [h]; simp [go_sem, hx]
theorem run_faW1 {g : Nat} (x : Operand) (h : o.op = .fieldAddr 25 x 1) (hx : ρ x = .pointer (some ⟨g, 0, none⟩)) : (execOp ρ o).run Tryd.prog w = .ok (.value (.pointer (some ⟨g, 1, none⟩))) w := by
  unfold execOp; rw [h]; simp [go_sem, hx]
theorem run_faM4 {g : Nat} (x : Operand) (h : o.op = .fieldAddr 34 x 4) (hx : ρ x = .pointer (some ⟨g, 0, none⟩)) : (execOp ρ o).run Tryd.prog w = .ok (.value (.pointer (some ⟨g, 4, none⟩))) w := by
  unfold execOp; rw [h]; simp [go_sem, hx]
theorem run_faM7 {g : Nat} (x : Operand) (h : o.op = .fieldAddr 34 x 7) (hx : ρ x = .pointer (some ⟨g, 0, none⟩)) : (execOp ρ o).run Tryd.prog w = .ok (.value (.pointer (some ⟨g, 7, none⟩))) w := by
  unfold execOp; rw [h]; simp [go_sem, hx]
theorem run_ldMs {p : Addr} {v : Value} (x : Operand) (h : o.op = .load 38 x) (hx : ρ x = .pointer (some p)) (hc : w.cell? p = some v) : (execOp ρ o).run Tryd.prog w = .ok (.value v) w := by
  unfold execOp; rw [h]; simp [go_sem, hx, hc]
theorem run_lenM (x : Operand) (a : Option Addr) (n c : Nat) (h : o.op = .call { callee := .builtin .len, args := #[x], argTypes := #[38] }) (hx : ρ x = .slice a n c) : (execOp ρ o).run Tryd.prog w = .ok (.value (.int .i64 (n : Nat))) w := by
  unfold execOp; rw [h]; simp [go_sem, hx]
theorem run_eqF (x y : Operand) (a b : Int) (r : Bool) (h : o.op = .binOp .eql 3 x y 3) (hx : ρ x = .int .i64 a) (hy : ρ y = .int .i64 b) (hr : decide (a = b) = r) : (execOp ρ o).run Tryd.prog w = .ok (.value (.bool r)) w := by
  subst hr; unfold execOp; rw [h]; simp [go_sem, hx, hy]; rfl
theorem run_neF (x y : Operand) (a b : Int) (r : Bool) (h : o.op = .binOp .neq 3 x y 3) (hx : ρ x = .int .i64 a) (hy : ρ y = .int .i64 b) (hr : decide (a ≠ b) = r) : (execOp ρ o).run Tryd.prog w = .ok (.value (.bool r)) w := by
  subst hr; unfold execOp; rw [h]; simp [go_sem, hx, hy]; rfl
theorem run_remF (x : Operand) (k r : Nat) (h : o.op = .binOp .rem 3 x (.const (.int .i64 4)) 3) (hx : ρ x = .int .i64 (k : Nat)) (hy : ρ (.const (.int .i64 4)) = .int .i64 4) (hk : k < 9) (hr : r = k % 4) : (execOp ρ o).run Tryd.prog w = .ok (.value (.int .i64 (r : Nat))) w := by
  subst hr; unfold execOp; rw [h]
  rcases (show k = 0 ∨ k = 1 ∨ k = 2 ∨ k = 3 ∨ k = 4 ∨ k = 5 ∨ k = 6 ∨ k = 7 ∨ k = 8 by omega) with rfl | rfl | rfl | rfl | rfl | rfl | rfl | rfl | rfl <;> simp [go_sem, hx, hy]
theorem run_ixM0 (x : Operand) (b oo c : Nat) (h : o.op = .indexAddr 38 x (.const (.int .i64 0))) (hx : ρ x = .slice (some ⟨b, oo, none⟩) 1 c) (hy : ρ (.const (.int .i64 0)) = .int .i64 0) : (execOp ρ o).run Tryd.prog w = .ok (.value (.pointer (some ⟨b, oo, none⟩))) w := by
  unfold execOp; rw [h]; simp [go_sem, hx, hy]
theorem run_bWant (x1 x3 x4 x5 x6 : Operand) (f e l d : Int) (s : ByteArray) (h : o.op = .build 34 #[(0, .const (.int .i64 3)), (1, x1), (3, x3), (4, x4), (5, x5), (6, x6)]) (h0 : ρ (.const (.int .i64 3)) = .int .i64 3) (h1 : ρ x1 = .int .i64 f) (h3 : ρ x3 = .int .i64 e) (h4 : ρ x4 = .int .i64 l) (h5 : ρ x5 = .int .i64 d) (h6 : ρ x6 = .string s) :
    (execOp ρ o).run Tryd.prog w = .ok (.value (.agg #[.int .i64 3, .int .i64 f, .int .i64 0, .int .i64 e, .int .i64 l, .int .i64 d, .string s, .slice none 0 0])) w := by
  unfold execOp; rw [h]; simp [go_sem, h0, h1, h3, h4, h5, h6]
theorem run_alMg (h : o.op = .alloc 34) : (execOp ρ o).run Tryd.prog w = .ok (.value (.pointer (some ⟨w.heap.size, 0, none⟩))) (w.alloc (.cells #[.int .i64 0, .int .i64 0, .int .i64 0, .int .i64 0, .int .i64 0, .int .i64 0, .string ⟨#[]⟩, .slice none 0 0] 34)) := by
  unfold execOp; rw [h]; simp [go_sem]
theorem run_ldMo {b k : Nat} (T : TypeId) (D : TypeDesc) (cs : List Value) (x : Operand) (h : o.op = .load T x) (hx : ρ x = .pointer (some ⟨b, k, none⟩)) (hc : ∀ j v, cs[j]? = some v → w.cell? ⟨b, k + j, none⟩ = some v) (hu : Tryd.prog.underlying T = some D) (hd : D.isRow = true) (hi : (Tryd.prog.info? T).map (·.size) = some cs.length) : (execOp ρ o).run Tryd.prog w = .ok (.value (.agg cs.toArray)) w := by
  have hr : w.rangeAt b k cs := hc
  unfold execOp
  simp only [h, hx, Instr.loadAt, Instr.sureAddr, Sem.run_bind, Sem.run_pure, Result.andThen_ok, run_loadVar_mid w b k T cs D hr hu hd hi]
end
theorem Tryd.sizeMgF : (Tryd.prog.info? 34).map (·.size) = some 8 := by kernel_rfl
theorem enter_wMsg (v1 v2 : Value) (w : World) : Sem.run Tryd.prog (callFunc 11 #[v1, v2]) w = .ok (.enter 11 #[v1, v2]) w := by kernel_rfl
theorem enter_sValue (v1 v2 : Value) (w : World) : Sem.run Tryd.prog (callFunc 10 #[v1, v2]) w = .ok (.enter 10 #[v1, v2]) w := by kernel_rfl
/-- A call, where it is the only operation that is ready. -/
theorem hOneC {P : Program} {md : Region.Mode} {ops : Array Oper} {Q : Exit → Act → World → Prop} {S : World → Prop} {i : Nat} {oi : Oper} {d : Option Nat} {fuel : Nat} {l l' : Array Bool} {a : Act} {w : World} {f : FuncId} {args : Array Value} {R : Value → World → Prop} (hr : Region.ready md ops l = [i]) (hi : ops[i]? = some oi) (hd : oi.dst = d) (hw : Region.wanted oi (yielded ops a.tmps) = true) (hl : l.setIfInBounds i true = l') (hy : (execOp a.eval oi).run P w = .ok (.enter f args) w) (hc : Calls P f args w fun e w' => ∃ v, e = .returned v ∧ R v w')
    (h : ∀ v w', R v w' → S w' ∧ wpAnyH P md ops Q S fuel l' (a.put d v) w') : wpAnyH P md ops Q S (fuel + 1) l a w :=
  hOne hr (hCall hi hd hw hl hy hc h)
end Go.Proofs.YtimpfhfgcmipgaaDoor
