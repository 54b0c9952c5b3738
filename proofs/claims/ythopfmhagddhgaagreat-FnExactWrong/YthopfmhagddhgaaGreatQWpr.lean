import Derived.Test.YthopfmhagddhgaaGreatQWld
import Derived.Test.YthopfmhagddhgaaGreatQWle
import Derived.Test.YthopfmhagddhgaaGreatQHld
namespace Go.Proofs.YthopfmhagddhgaaGreat
open Go.RowKit

/-- A load of a whole struct, for the walk. -/
theorem wpList_load_cf {ops : Array Oper} {rest : List Oper} {op : Oper} {a : Act} {w : World} {Q : Exit → Act → World → Prop} (hgd : op.guard = none) (ty : TypeId) (x : Operand) (ho : op.op = .load ty x)
    (p : Nat) (cs : List Value) (D : TypeDesc) (hx : a.eval x = .pointer (some ⟨p, 0, none⟩)) (hc : CF w p cs) (hu : Tryz.prog.underlying ty = some D) (hd : D.isRow = true) (hi : (Tryz.prog.info? ty).map (·.size) = some cs.length)
    (hK : wpList Tryz.prog ops Q rest (a.put op.dst (.agg cs.toArray)) w) : wpList Tryz.prog ops Q (op :: rest) a w := by
  refine wpList_plain hgd fun K hK' => ?_
  unfold Oper.wp
  rw [run_ldT ty D cs x ho hx hc hu hd hi]
  exact hK' _ _ hK

theorem enter_toW (v1 : Value) (w : World) : Sem.run Tryz.prog (callFunc 9 #[v1]) w = .ok (.enter 9 #[v1]) w := by kernel_rfl
theorem enter_eqW (v1 v2 : Value) (w : World) : Sem.run Tryz.prog (callFunc 11 #[v1, v2]) w = .ok (.enter 11 #[v1, v2]) w := by kernel_rfl
theorem run_notW {ρ : Operand → Value} {o : Oper} {w : World} (x : Operand) (b : Bool) (h : o.op = .unOp .not 4 x) (hx : ρ x = .bool b) : (execOp ρ o).run Tryz.prog w = .ok (.value (.bool (!b))) w := by
  unfold execOp
  rw [h]
  simp [go_sem, hx]

end Go.Proofs.YthopfmhagddhgaaGreat
