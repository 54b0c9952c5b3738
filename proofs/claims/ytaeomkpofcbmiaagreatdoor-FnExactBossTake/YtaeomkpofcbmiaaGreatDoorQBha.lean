
import Derived.Test.YtaeomkpofcbmiaaGreatDoorQBdk
import Derived.Deep.DeepCutAuto
namespace Go.Proofs.YtaeomkpofcbmiaaGreatDoor
open Go.RowKit
theorem Tryz.sizeLd : (Tryz.prog.info? 46).map (·.size) = some 13:=by kernel_rfl
theorem wpList_store_j3 {ops : Array Oper} {rest : List Oper} {op : Oper} {a : Act} {w : World} {Q : Exit → Act → World → Prop} (hgd : op.guard = none) (x y : Operand) (ho : op.op = .store 76 x y) (b o : Nat) (p q r : Int) (hx : a.eval x = .pointer (some ⟨b,o,none⟩)) (hy : a.eval y = .agg #[.int .i64 p,.int .i64 q,.int .i64 r]) (ht : w.there b o 3)
  (hK : wpList Tryz.prog ops Q rest (a.put op.dst undef) (w.setCells b o [.int .i64 p,.int .i64 q,.int .i64 r])) : wpList Tryz.prog ops Q (op :: rest) a w :=
 wpList_store_mid hgd 76 x y ho b o #[.int .i64 p,.int .i64 q,.int .i64 r] hx hy ht (by kernel_rfl) (by kernel_rfl) hK
theorem one13 (wk : Int) (up : Bool) (now sn ep gv : Int) (a0 a1 a2 a3 a4 a5 a6 : Option Addr) (n0 c0 n1 c1 n2 c2 n3 c3 n4 c4 n5 c5 n6 c6 : Nat) : ∀ v ∈ [Value.int .i64 wk,.bool up,.int .i64 now,.int .i64 sn,.int .i64 ep,.int .i64 gv,.slice a0 n0 c0,.slice a1 n1 c1,.slice a2 n2 c2,.slice a3 n3 c3,.slice a4 n4 c4,.slice a5 n5 c5,.slice a6 n6 c6],v.oneCell' = true:=by
 intro v hv
 simp only [List.mem_cons,List.not_mem_nil,or_false] at hv
 rcases hv with rfl | rfl | rfl | rfl | rfl | rfl | rfl | rfl | rfl | rfl | rfl | rfl | rfl <;> rfl
end Go.Proofs.YtaeomkpofcbmiaaGreatDoor
