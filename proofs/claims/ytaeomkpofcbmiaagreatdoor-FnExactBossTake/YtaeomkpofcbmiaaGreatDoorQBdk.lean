
import Derived.Test.YtaeomkpofcbmiaaGreatDoorQBhi
import Derived.Test.YtaeomkpofcbmiaaGreatDoorQHld
namespace Go.Proofs.YtaeomkpofcbmiaaGreatDoor
open Go.RowKit
section
variable {ρ : Operand → Value} {o : Oper} {w : World}
theorem run_mvF {v : Value} (x : Operand) (h : o.op = .move x) (hx : ρ x = v) : (execOp ρ o).run Tryz.prog w = .ok (.value v) w:=by
 rw [← hx];unfold execOp;rw [h];simp [go_sem]
theorem run_faB7 {g : Nat} (x : Operand) (h : o.op = .fieldAddr 43 x 7) (hx : ρ x = .pointer (some ⟨g,0,none⟩)) : (execOp ρ o).run Tryz.prog w = .ok (.value (.pointer (some ⟨g,8,none⟩))) w:=by
 unfold execOp;rw [h];simp [go_sem,hx]
theorem run_faB8 {g : Nat} (x : Operand) (h : o.op = .fieldAddr 43 x 8) (hx : ρ x = .pointer (some ⟨g,0,none⟩)) : (execOp ρ o).run Tryz.prog w = .ok (.value (.pointer (some ⟨g,9,none⟩))) w:=by
 unfold execOp;rw [h];simp [go_sem,hx]
theorem run_faB2 {g : Nat} (x : Operand) (h : o.op = .fieldAddr 43 x 2) (hx : ρ x = .pointer (some ⟨g,0,none⟩)) : (execOp ρ o).run Tryz.prog w = .ok (.value (.pointer (some ⟨g,2,none⟩))) w:=by
 unfold execOp;rw [h];simp [go_sem,hx]
theorem run_faJ0 {b oo : Nat} (x : Operand) (h : o.op = .fieldAddr 76 x 0) (hx : ρ x = .pointer (some ⟨b,oo,none⟩)) : (execOp ρ o).run Tryz.prog w = .ok (.value (.pointer (some ⟨b,oo,none⟩))) w:=by
 unfold execOp;rw [h];simp [go_sem,hx]
theorem run_faJ2 {b oo : Nat} (x : Operand) (h : o.op = .fieldAddr 76 x 2) (hx : ρ x = .pointer (some ⟨b,oo,none⟩)) : (execOp ρ o).run Tryz.prog w = .ok (.value (.pointer (some ⟨b,oo + 2,none⟩))) w:=by
 unfold execOp;rw [h];simp [go_sem,hx]
theorem run_ixJ (x y : Operand) (b oo n c i : Nat) (h : o.op = .indexAddr 39 x y) (hx : ρ x = .slice (some ⟨b,oo,none⟩) n c) (hy : ρ y = .int .i64 (i : Nat)) (hi : i < n) : (execOp ρ o).run Tryz.prog w = .ok (.value (.pointer (some ⟨b,oo + i * 3,none⟩))) w:=by
 have hi' : (i : Int) < (n : Int):=by omega
 unfold execOp;rw [h];simp [go_sem,hx,hy,hi']
theorem run_ixSo (x y : Operand) (b oo n c i : Nat) (h : o.op = .indexAddr 22 x y) (hx : ρ x = .slice (some ⟨b,oo,none⟩) n c) (hy : ρ y = .int .i64 (i : Nat)) (hi : i < n) : (execOp ρ o).run Tryz.prog w = .ok (.value (.pointer (some ⟨b,oo + i,none⟩))) w:=by
 have hi' : (i : Int) < (n : Int):=by omega
 unfold execOp;rw [h];simp [go_sem,hx,hy,hi']
theorem run_ldTsB {p : Addr} {v : Value} (x : Operand) (h : o.op = .load 49 x) (hx : ρ x = .pointer (some p)) (hc : w.cell? p = some v) : (execOp ρ o).run Tryz.prog w = .ok (.value v) w:=by
 unfold execOp;rw [h];simp [go_sem,hx,hc]
theorem run_ldJsB {p : Addr} {v : Value} (x : Operand) (h : o.op = .load 39 x) (hx : ρ x = .pointer (some p)) (hc : w.cell? p = some v) : (execOp ρ o).run Tryz.prog w = .ok (.value v) w:=by
 unfold execOp;rw [h];simp [go_sem,hx,hc]
theorem run_ldInB {p : Addr} {v : Value} (x : Operand) (h : o.op = .load 3 x) (hx : ρ x = .pointer (some p)) (hc : w.cell? p = some v) : (execOp ρ o).run Tryz.prog w = .ok (.value v) w:=by
 unfold execOp;rw [h];simp [go_sem,hx,hc]
theorem run_ldStB {p : Addr} {v : Value} (x : Operand) (h : o.op = .load 9 x) (hx : ρ x = .pointer (some p)) (hc : w.cell? p = some v) : (execOp ρ o).run Tryz.prog w = .ok (.value v) w:=by
 unfold execOp;rw [h];simp [go_sem,hx,hc]
theorem run_ldLsB {p : Addr} {v : Value} (x : Operand) (h : o.op = .load 22 x) (hx : ρ x = .pointer (some p)) (hc : w.cell? p = some v) : (execOp ρ o).run Tryz.prog w = .ok (.value v) w:=by
 unfold execOp;rw [h];simp [go_sem,hx,hc]
theorem run_bsLB (x0 : Operand) (s : ByteArray) (h : o.op = .buildSlice 22 1 #[(0,x0)]) (h0 : ρ x0 = .string s) : (execOp ρ o).run Tryz.prog w = .ok (.value (.slice (some ⟨w.heap.size,0,none⟩) 1 1)) (w.alloc (.cells #[.string s] 9)):=by
 unfold execOp;rw [h];simp [go_sem,h0]
theorem run_stLsB {p : Addr} {v0 : Value} (x y : Operand) (a : Option Addr) (n c : Nat) (h : o.op = .store 22 x y) (hx : ρ x = .pointer (some p)) (hy : ρ y = .slice a n c) (hc : w.cell? p = some v0) (hf : w.frozen? p = false) : (execOp ρ o).run Tryz.prog w = .ok .skip (w.setCell p (.slice a n c)):=by
 unfold execOp;rw [h];simp [go_sem,hx,hy,hc,hf]
theorem run_appB {w' : World} {v x v' : Value} (s y : Operand) (t tx ty : TypeId) (ho : o.op = .call { callee:=.builtin .append,args:=#[s,y],argTypes:=#[t,tx] }) (hv : ρ s = v) (hx : ρ y = x) (hty : o.type = ty) (hr : (Builtin.append_ #[t,tx] ty #[v,x]).run Tryz.prog w = .ok v' w') : (execOp ρ o).run Tryz.prog w = .ok (.value v') w':=by
 unfold execOp
 simp [ho,resolve,invoke,builtin,hv,hx,hty,hr,Result.andThen]
theorem run_pkB (x y z : Operand) (v : Value) (h : o.op = .pick x y z) (hx : ρ x = .bool true) (hy : ρ y = v) : (execOp ρ o).run Tryz.prog w = .ok (.value v) w:=by
 unfold execOp;rw [h];simp [go_sem,hx,hy]
theorem run_pkfB (x y z : Operand) (v : Value) (h : o.op = .pick x y z) (hx : ρ x = .bool false) (hz : ρ z = v) : (execOp ρ o).run Tryz.prog w = .ok (.value v) w:=by
 unfold execOp;rw [h];simp [go_sem,hx,hz]
end
end Go.Proofs.YtaeomkpofcbmiaaGreatDoor
