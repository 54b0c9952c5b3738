
import Derived.Test.YtaeomkpofcbmiaaGreatDoorQBdm
import Derived.Test.YtaeomkpofcbmiaaGreatDoorQBdk
import Derived.Test.YtaeomkpofcbmiaaGreatDoorQBfs
namespace Go.Proofs.YtaeomkpofcbmiaaGreatDoor
open Go.RowKit
section
variable {ρ : Operand → Value} {o : Oper} {w : World}
theorem run_fM1 {g : Nat} (x : Operand) (h : o.op = .fieldAddr 53 x 1) (hx : ρ x = .pointer (some ⟨g,0,none⟩)) : (execOp ρ o).run Tryz.prog w = .ok (.value (.pointer (some ⟨g,1,none⟩))) w:=by
 unfold execOp;rw [h];simp [go_sem,hx]
theorem run_fM3 {g : Nat} (x : Operand) (h : o.op = .fieldAddr 53 x 3) (hx : ρ x = .pointer (some ⟨g,0,none⟩)) : (execOp ρ o).run Tryz.prog w = .ok (.value (.pointer (some ⟨g,3,none⟩))) w:=by
 unfold execOp;rw [h];simp [go_sem,hx]
theorem run_fM4 {g : Nat} (x : Operand) (h : o.op = .fieldAddr 53 x 4) (hx : ρ x = .pointer (some ⟨g,0,none⟩)) : (execOp ρ o).run Tryz.prog w = .ok (.value (.pointer (some ⟨g,4,none⟩))) w:=by
 unfold execOp;rw [h];simp [go_sem,hx]
theorem run_fM5 {g : Nat} (x : Operand) (h : o.op = .fieldAddr 53 x 5) (hx : ρ x = .pointer (some ⟨g,0,none⟩)) : (execOp ρ o).run Tryz.prog w = .ok (.value (.pointer (some ⟨g,5,none⟩))) w:=by
 unfold execOp;rw [h];simp [go_sem,hx]
theorem run_fM6 {g : Nat} (x : Operand) (h : o.op = .fieldAddr 53 x 6) (hx : ρ x = .pointer (some ⟨g,0,none⟩)) : (execOp ρ o).run Tryz.prog w = .ok (.value (.pointer (some ⟨g,6,none⟩))) w:=by
 unfold execOp;rw [h];simp [go_sem,hx]
theorem run_fB0 {g : Nat} (x : Operand) (h : o.op = .fieldAddr 43 x 0) (hx : ρ x = .pointer (some ⟨g,0,none⟩)) : (execOp ρ o).run Tryz.prog w = .ok (.value (.pointer (some ⟨g,0,none⟩))) w:=by
 unfold execOp;rw [h];simp [go_sem,hx]
theorem run_fB1 {g : Nat} (x : Operand) (h : o.op = .fieldAddr 43 x 1) (hx : ρ x = .pointer (some ⟨g,0,none⟩)) : (execOp ρ o).run Tryz.prog w = .ok (.value (.pointer (some ⟨g,1,none⟩))) w:=by
 unfold execOp;rw [h];simp [go_sem,hx]
theorem run_fB4 {g : Nat} (x : Operand) (h : o.op = .fieldAddr 43 x 4) (hx : ρ x = .pointer (some ⟨g,0,none⟩)) : (execOp ρ o).run Tryz.prog w = .ok (.value (.pointer (some ⟨g,4,none⟩))) w:=by
 unfold execOp;rw [h];simp [go_sem,hx]
theorem run_fB6 {g : Nat} (x : Operand) (h : o.op = .fieldAddr 43 x 6) (hx : ρ x = .pointer (some ⟨g,0,none⟩)) : (execOp ρ o).run Tryz.prog w = .ok (.value (.pointer (some ⟨g,6,none⟩))) w:=by
 unfold execOp;rw [h];simp [go_sem,hx]
theorem run_fB9 {g : Nat} (x : Operand) (h : o.op = .fieldAddr 43 x 9) (hx : ρ x = .pointer (some ⟨g,0,none⟩)) : (execOp ρ o).run Tryz.prog w = .ok (.value (.pointer (some ⟨g,10,none⟩))) w:=by
 unfold execOp;rw [h];simp [go_sem,hx]
theorem run_fB10 {g : Nat} (x : Operand) (h : o.op = .fieldAddr 43 x 10) (hx : ρ x = .pointer (some ⟨g,0,none⟩)) : (execOp ρ o).run Tryz.prog w = .ok (.value (.pointer (some ⟨g,11,none⟩))) w:=by
 unfold execOp;rw [h];simp [go_sem,hx]
theorem run_faS1 {b oo : Nat} (x : Operand) (h : o.op = .fieldAddr 112 x 1) (hx : ρ x = .pointer (some ⟨b,oo,none⟩)) : (execOp ρ o).run Tryz.prog w = .ok (.value (.pointer (some ⟨b,oo + 1,none⟩))) w:=by
 unfold execOp;rw [h];simp [go_sem,hx]
theorem run_faJ1 {b oo : Nat} (x : Operand) (h : o.op = .fieldAddr 76 x 1) (hx : ρ x = .pointer (some ⟨b,oo,none⟩)) : (execOp ρ o).run Tryz.prog w = .ok (.value (.pointer (some ⟨b,oo + 1,none⟩))) w:=by
 unfold execOp;rw [h];simp [go_sem,hx]
theorem run_asF {v : Value} (x : Operand) (h : o.op = .assign x) (hx : ρ x = v) : (execOp ρ o).run Tryz.prog w = .ok (.value v) w:=by
 rw [← hx];unfold execOp;rw [h];simp [go_sem]
theorem run_fL1 {g k : Nat} (x : Operand) (h : o.op = .fieldAddr 38 x 1) (hx : ρ x = .pointer (some ⟨g,k,none⟩)) : (execOp ρ o).run Tryz.prog w = .ok (.value (.pointer (some ⟨g,k + 1,none⟩))) w:=by
 unfold execOp;rw [h];simp [go_sem,hx]
theorem run_bEn (x y z : Operand) (a b : Int) (s : ByteArray) (h : o.op = .build 123 #[(0,.const (.int .i64 2)),(1,x),(2,y),(3,z)]) (h0 : ρ (.const (.int .i64 2)) = .int .i64 2) (hx : ρ x = .int .i64 a) (hy : ρ y = .int .i64 b) (hz : ρ z = .string s) : (execOp ρ o).run Tryz.prog w = .ok (.value (.agg #[.int .i64 2,.int .i64 a,.int .i64 b,.string s])) w:=by
 unfold execOp;rw [h];simp [go_sem,h0,hx,hy,hz]
theorem run_neS (x y : Operand) (a b : ByteArray) (r : Bool) (h : o.op = .binOp .neq 9 x y 9) (hx : ρ x = .string a) (hy : ρ y = .string b) (hr : (!(a.toList == b.toList)) = r) : (execOp ρ o).run Tryz.prog w = .ok (.value (.bool r)) w:=by
 subst hr;unfold execOp;rw [h];simp [go_sem,hx,hy];first | done | rfl
theorem run_faO0 {b oo : Nat} (x : Operand) (h : o.op = .fieldAddr 114 x 0) (hx : ρ x = .pointer (some ⟨b,oo,none⟩)) : (execOp ρ o).run Tryz.prog w = .ok (.value (.pointer (some ⟨b,oo,none⟩))) w:=by
 unfold execOp;rw [h];simp [go_sem,hx]
theorem run_faO1 {b oo : Nat} (x : Operand) (h : o.op = .fieldAddr 114 x 1) (hx : ρ x = .pointer (some ⟨b,oo,none⟩)) : (execOp ρ o).run Tryz.prog w = .ok (.value (.pointer (some ⟨b,oo + 1,none⟩))) w:=by
 unfold execOp;rw [h];simp [go_sem,hx]
theorem run_ixSe (x y : Operand) (b oo n c i : Nat) (h : o.op = .indexAddr 40 x y) (hx : ρ x = .slice (some ⟨b,oo,none⟩) n c) (hy : ρ y = .int .i64 (i : Nat)) (hi : i < n) : (execOp ρ o).run Tryz.prog w = .ok (.value (.pointer (some ⟨b,oo + i * 2,none⟩))) w:=by
 have hi' : (i : Int) < (n : Int):=by omega
 unfold execOp;rw [h];simp [go_sem,hx,hy,hi']
theorem run_ixOw (x y : Operand) (b oo n c i : Nat) (h : o.op = .indexAddr 41 x y) (hx : ρ x = .slice (some ⟨b,oo,none⟩) n c) (hy : ρ y = .int .i64 (i : Nat)) (hi : i < n) : (execOp ρ o).run Tryz.prog w = .ok (.value (.pointer (some ⟨b,oo + i * 3,none⟩))) w:=by
 have hi' : (i : Int) < (n : Int):=by omega
 unfold execOp;rw [h];simp [go_sem,hx,hy,hi']
theorem run_ldSsB {p : Addr} {v : Value} (x : Operand) (h : o.op = .load 40 x) (hx : ρ x = .pointer (some p)) (hc : w.cell? p = some v) : (execOp ρ o).run Tryz.prog w = .ok (.value v) w:=by
 unfold execOp;rw [h];simp [go_sem,hx,hc]
theorem run_ldOsB {p : Addr} {v : Value} (x : Operand) (h : o.op = .load 41 x) (hx : ρ x = .pointer (some p)) (hc : w.cell? p = some v) : (execOp ρ o).run Tryz.prog w = .ok (.value v) w:=by
 unfold execOp;rw [h];simp [go_sem,hx,hc]
theorem run_ldBo {p : Addr} {v : Value} (x : Operand) (h : o.op = .load 4 x) (hx : ρ x = .pointer (some p)) (hc : w.cell? p = some v) : (execOp ρ o).run Tryz.prog w = .ok (.value v) w:=by
 unfold execOp;rw [h];simp [go_sem,hx,hc]
theorem run_sub1 (x : Operand) (k : Nat) (hk : k ≤ 1000000) (h : o.op = .binOp .sub 3 x (.const (.int .i64 1)) 3) (hx : ρ x = .int .i64 ((k : Int) + 1)) (hy : ρ (.const (.int .i64 1)) = .int .i64 1) : (execOp ρ o).run Tryz.prog w = .ok (.value (.int .i64 (k : Nat))) w:=by
 have hw : IntKind.i64.wrap ((k : Int) + 1 - 1) = k:=by rw [IntKind.wrap_i64];omega
 unfold execOp;rw [h];simp only [hx,hy];simp [go_sem]
 have hw2 : IntKind.i64.wrap (k : Int) = k:=by rw [IntKind.wrap_i64];omega
 first | done | exact hw | exact hw2
theorem run_ltB (x y : Operand) (a b : Int) (r : Bool) (h : o.op = .binOp .lss 3 x y 3) (hx : ρ x = .int .i64 a) (hy : ρ y = .int .i64 b) (hr : decide (a < b) = r) : (execOp ρ o).run Tryz.prog w = .ok (.value (.bool r)) w:=by
 subst hr;unfold execOp;rw [h];simp [go_sem,hx,hy]
theorem run_geB (x y : Operand) (a b : Int) (r : Bool) (h : o.op = .binOp .geq 3 x y 3) (hx : ρ x = .int .i64 a) (hy : ρ y = .int .i64 b) (hr : decide (b ≤ a) = r) : (execOp ρ o).run Tryz.prog w = .ok (.value (.bool r)) w:=by
 subst hr;unfold execOp;rw [h];simp [go_sem,hx,hy]
theorem run_gtB (x y : Operand) (a b : Int) (r : Bool) (h : o.op = .binOp .gtr 3 x y 3) (hx : ρ x = .int .i64 a) (hy : ρ y = .int .i64 b) (hr : decide (b < a) = r) : (execOp ρ o).run Tryz.prog w = .ok (.value (.bool r)) w:=by
 subst hr;unfold execOp;rw [h];simp [go_sem,hx,hy]
theorem run_eqB (x y : Operand) (a b : Int) (r : Bool) (h : o.op = .binOp .eql 3 x y 3) (hx : ρ x = .int .i64 a) (hy : ρ y = .int .i64 b) (hr : (a == b) = r) : (execOp ρ o).run Tryz.prog w = .ok (.value (.bool r)) w:=by
 subst hr;unfold execOp;rw [h];simp [go_sem,hx,hy]
theorem run_lenOw (x : Operand) (a : Option Addr) (n c : Nat) (h : o.op = .call { callee:=.builtin .len,args:=#[x],argTypes:=#[41] }) (hx : ρ x = .slice a n c) : (execOp ρ o).run Tryz.prog w = .ok (.value (.int .i64 (n : Nat))) w:=by
 unfold execOp;rw [h];simp [go_sem,hx]
theorem run_lenTs (x : Operand) (a : Option Addr) (n c : Nat) (h : o.op = .call { callee:=.builtin .len,args:=#[x],argTypes:=#[49] }) (hx : ρ x = .slice a n c) : (execOp ρ o).run Tryz.prog w = .ok (.value (.int .i64 (n : Nat))) w:=by
 unfold execOp;rw [h];simp [go_sem,hx]
end
theorem enter_fEnt (v1 : Value) (w : World) : Sem.run Tryz.prog (callFunc 69 #[v1]) w = .ok (.enter 69 #[v1]) w:=by kernel_rfl
theorem enter_iEnt (v1 : Value) (w : World) : Sem.run Tryz.prog (callFunc 126 #[v1]) w = .ok (.enter 126 #[v1]) w:=by kernel_rfl
theorem Grew.far {rows : List (Option Nat)} {w w1 w2 : World} {q : Nat} (h : Grew rows w w1) (hg : w1.grownBy w2 (some q)) (hq : w.heap.size ≤ q) : Grew rows w w2 :=
 ⟨Nat.le_trans h.size hg.size,fun p hp hr=>(hg.block p (Nat.lt_of_lt_of_le hp h.size) (fun e=>by injection e with e;omega)).trans (h.block p hp hr),hg.os.trans h.os,hg.tape.trans h.tape,hg.output.trans h.output⟩
theorem Grew.drewB {rows : List (Option Nat)} {w w1 : World} (h : Grew rows w w1) : Grew rows w w1.drew :=
 h.step (s:=[]) ⟨Nat.le_refl _,fun _ _ _=>rfl,rfl,rfl,rfl⟩ (by simp)
end Go.Proofs.YtaeomkpofcbmiaaGreatDoor
namespace Go.Proofs.YtaeomkpofcbmiaaGreatDoor
open Go.RowKit
theorem box4 (w : World) (c0 c1 c2 c3 : Array Value) (T0 T1 T2 T3 : TypeId) {W : World} (hW : W = (((w.alloc (.cells c0 T0)).alloc (.cells c1 T1)).alloc (.cells c2 T2)).alloc (.cells c3 T3)) :
  CF W w.heap.size c0.toList ∧ CF W (w.heap.size + 1) c1.toList ∧ CF W (w.heap.size + 2) c2.toList ∧ CF W (w.heap.size + 3) c3.toList ∧ W.heap.size = w.heap.size + 4 ∧ Below w.heap.size w W:=by
 subst hW
 refine ⟨(((CF.made w c0 T0).block (Below.heap_alloc _ _ _ (by simp))).block (Below.heap_alloc _ _ _ (by first | (simp;done) | (simp;omega)))).block (Below.heap_alloc _ _ _ (by first | (simp;done) | (simp;omega))),?_,?_,?_,by simp,((((Below.refl _ _).alloc (Nat.le_refl _) _).alloc (by simp) _).alloc (by first | (simp;done) | (simp;omega)) _).alloc (by first | (simp;done) | (simp;omega)) _⟩
 ·have:=((CF.made (w.alloc (.cells c0 T0)) c1 T1).block (Below.heap_alloc ((w.alloc (.cells c0 T0)).alloc (.cells c1 T1)) (.cells c2 T2) _ (by simp))).block (Below.heap_alloc (((w.alloc (.cells c0 T0)).alloc (.cells c1 T1)).alloc (.cells c2 T2)) (.cells c3 T3) _ (by first | (simp;done) | (simp;omega)))
  simpa using this
 ·have:=(CF.made ((w.alloc (.cells c0 T0)).alloc (.cells c1 T1)) c2 T2).block (Below.heap_alloc (((w.alloc (.cells c0 T0)).alloc (.cells c1 T1)).alloc (.cells c2 T2)) (.cells c3 T3) _ (by simp))
  simpa using this
 ·have:=CF.made (((w.alloc (.cells c0 T0)).alloc (.cells c1 T1)).alloc (.cells c2 T2)) c3 T3
  simpa using this
structure LrS (w0 w : World) (B Q : Nat) (d0 : BD) (h0 : BH) (pv : Value) (ms : List Value) (d : BD) (h : BH) (wr : World) : Prop where
 T : TkS w0 B Q [] d h wr
 P : CF wr (Q + 1) [pv]
 M : CF wr (Q + 2) ms
 Z : CF wr (Q + 3) zB
 G : Grew (rowsB d0 h0) w wr
 R : ∀ r ∈ rowsB d h,r ∈ rowsB d0 h0 ∨ ∀ q,r = some q → Q + 4 ≤ q
 q : Q = w.heap.size ∧ Q + 4 ≤ wr.heap.size
 o : ∀ r ∈ rowsB d0 h0,∀ q,r = some q → q < Q
theorem LrS.below {w0 w : World} {B Q : Nat} {d0 : BD} {h0 : BH} {pv : Value} {ms : List Value} {d : BD} {h : BH} {wr w' : World} (s : LrS w0 w B Q d0 h0 pv ms d h wr) (hb : Below wr.heap.size wr w') : LrS w0 w B Q d0 h0 pv ms d h w' :=
 have hq:=s.q
 ⟨s.T.below hb,s.P.block (hb.block _ (by omega)),s.M.block (hb.block _ (by omega)),s.Z.block (hb.block _ (by omega)),s.G.step (s:=[]) ⟨hb.size,fun q h1 _=>hb.block q h1,hb.os,hb.tape,hb.output⟩ (by simp),s.R,⟨hq.1,Nat.le_trans hq.2 hb.size⟩,s.o⟩
theorem LrS.ne {w0 w : World} {B Q : Nat} {d0 : BD} {h0 : BH} {pv : Value} {ms : List Value} {d : BD} {h : BH} {wr : World} (s : LrS w0 w B Q d0 h0 pv ms d h wr) {r : Option Nat} (hr : r ∈ rowsB d h) : ∀ p,Q ≤ p → p < Q + 4 → some p ≠ r:=fun p h1 h2 e=>by
 rcases s.R r hr with h | h
 ·have:=s.o r h p e.symm;omega
 ·have:=h p e.symm;omega
theorem LrS.gr {w0 w : World} {B Q : Nat} {d0 : BD} {h0 : BH} {pv : Value} {ms : List Value} {d : BD} {h : BH} {wr w1 w' : World} (s : LrS w0 w B Q d0 h0 pv ms d h wr) (G1 : Grew (rowsB d0 h0) w w1) {r : Option Nat} (hr : r ∈ rowsB d h) (hg : w1.grownBy w' r) : Grew (rowsB d0 h0) w w':=by
 rcases s.R r hr with h | h
 ·exact G1.step (Grew.of hg) (by intro x hx;rw [List.mem_singleton.1 hx];exact h)
 ·refine ⟨Nat.le_trans G1.size hg.size,fun p hp hh=>(hg.block p (Nat.lt_of_lt_of_le hp G1.size) (fun e=>?_)).trans (G1.block p hp hh),hg.os.trans G1.os,hg.tape.trans G1.tape,hg.output.trans G1.output⟩
  have:=h p e.symm
  have:=s.q.1
  omega
theorem LrS.row {w0 w : World} {B Q : Nat} {d0 : BD} {h0 : BH} {pv : Value} {ms : List Value} {d d' : BD} {h : BH} {wr w' : World} (s : LrS w0 w B Q d0 h0 pv ms d h wr) {r : Option Nat} (hr : r ∈ rowsB d h) (hg : wr.grownBy w' r) (hT : TkS w0 B Q [] d' h w') (hrows : rowsB d' h = rowsB d h) : LrS w0 w B Q d0 h0 pv ms d' h w':=by
 have hq:=s.q
 have ne:=s.ne hr
 exact ⟨hT,s.P.block (hg.block _ (by omega) (ne _ (by omega) (by omega))),s.M.block (hg.block _ (by omega) (ne _ (by omega) (by omega))),s.Z.block (hg.block _ (by omega) (ne _ (by omega) (by omega))),s.gr s.G hr hg,by rw [hrows];exact s.R,⟨hq.1,Nat.le_trans hq.2 hg.size⟩,s.o⟩
theorem LrS.app {w0 w : World} {B Q : Nat} {d0 : BD} {h0 : BH} {pv : Value} {ms : List Value} {d d' : BD} {h h' : BH} {wr w9 : World} {ob : Obj} {j : Nat} {u : Value} (s : LrS w0 w B Q d0 h0 pv ms d h wr) {r : Option Nat} (hr : r ∈ rowsB d h) (hg : (wr.alloc ob).grownBy w9 r) (hT : TkS w0 B Q [] d' h' (w9.setCell ⟨Q,j,none⟩ u)) (hrows : ∀ x ∈ rowsB d' h',x ∈ rowsB d h ∨ x = some (wr.alloc ob).heap.size) : LrS w0 w B Q d0 h0 pv ms d' h' (w9.setCell ⟨Q,j,none⟩ u):=by
 have hq:=s.q
 have ne:=s.ne hr
 have hb : Below wr.heap.size wr (wr.alloc ob):=(Below.refl _ _).alloc (Nat.le_refl _) _
 have hz : (wr.alloc ob).heap.size = wr.heap.size + 1:=by simp
 have hgz:=hg.size
 have s1:=s.below hb
 have gs:=gset (World.grownBy.refl w9 (some Q)) j u
 have ng : ∀ p,Q < p → p < Q + 4 → (w9.setCell ⟨Q,j,none⟩ u).heap[p]? = wr.heap[p]?:=fun p h1 h2=>((gs.block p (by omega) (fun e=>by injection e with e;omega)).trans (hg.block p (by omega) (ne p (by omega) h2))).trans (hb.block p (by omega))
 have G9:=s.gr s1.G hr hg
 refine ⟨hT,s.P.block (ng _ (by omega) (by omega)),s.M.block (ng _ (by omega) (by omega)),s.Z.block (ng _ (by omega) (by omega)),⟨Nat.le_trans G9.size gs.size,fun p hp hh=>(gs.block p (Nat.lt_of_lt_of_le hp G9.size) (fun e=>by injection e with e;omega)).trans (G9.block p hp hh),gs.os.trans G9.os,gs.tape.trans G9.tape,gs.output.trans G9.output⟩,fun x hx=>?_,⟨hq.1,by have:=gs.size;omega⟩,s.o⟩
 rcases hrows x hx with h | h
 ·exact s.R x h
 ·exact .inr (fun q e=>by rw [h] at e;injection e with e;omega)
theorem LrS.free {w0 w : World} {B Q : Nat} {d0 : BD} {h0 : BH} {pv : Value} {ms : List Value} {d d' : BD} {h : BH} {wr w1 w2 : World} {r : Option Nat} (s : LrS w0 w B Q d0 h0 pv ms d h wr) (hr : r ∈ rowsB d h) (hbo : BossO w1 B d' h) (hg : Grew [r] wr w1) (hg2 : w1.grownBy w2 (some Q)) (hc : CF w2 Q (bvs d' h)) (hrows : rowsB d' h = rowsB d h) : LrS w0 w B Q d0 h0 pv ms d' h w2:=by
 have hq:=s.q
 have hqT:=s.T.q
 have hz1:=hg.size
 have ne:=s.ne hr
 have k1 : ∀ p,Q ≤ p → p < Q + 4 → w1.heap[p]? = wr.heap[p]?:=fun p h1 h2=>hg.block p (by omega) (fun x hx e=>ne p h1 h2 (by rw [List.mem_singleton.1 hx] at e;exact e.symm))
 have k2 : ∀ p,Q < p → p < Q + 4 → w2.heap[p]? = wr.heap[p]?:=fun p h1 h2=>(hg2.block p (by omega) (fun e=>by injection e with e;omega)).trans (k1 p (by omega) h2)
 have hnr : ∀ x ∈ rowsB d' h,x ≠ some Q:=by rw [hrows];exact s.T.nr
 have G1 : Grew (rowsB d0 h0) w w1:=by
  rcases s.R r hr with h | h
  ·exact s.G.step hg (by intro x hx;rw [List.mem_singleton.1 hx];exact h)
  ·refine ⟨Nat.le_trans s.G.size hg.size,fun p hp hh=>(hg.block p (Nat.lt_of_lt_of_le hp s.G.size) (fun x hx e=>?_)).trans (s.G.block p hp hh),hg.os.trans s.G.os,hg.tape.trans s.G.tape,hg.output.trans s.G.output⟩
   rw [List.mem_singleton.1 hx] at e
   have:=h p e
   omega
 refine ⟨⟨hbo.blk (fun x hx q e=>hg2.block q (hbo.lo x hx q e).2 (fun e'=>hnr x hx (e.trans e'))),by rw [List.append_nil];exact hc,?_,hnr,⟨hqT.1,by have:=hg2.size;omega,hqT.2.2⟩⟩,s.P.block (k2 _ (by omega) (by omega)),s.M.block (k2 _ (by omega) (by omega)),s.Z.block (k2 _ (by omega) (by omega)),⟨Nat.le_trans G1.size hg2.size,fun p hp hh=>(hg2.block p (Nat.lt_of_lt_of_le hp G1.size) (fun e=>by injection e with e;omega)).trans (G1.block p hp hh),hg2.os.trans G1.os,hg2.tape.trans G1.tape,hg2.output.trans G1.output⟩,by rw [hrows];exact s.R,⟨hq.1,by have:=hg2.size;omega⟩,s.o⟩
 exact (Grew.below s.T.hb hg (by omega) (fun x hx q e=>by rw [List.mem_singleton.1 hx] at e;exact (s.T.bo.lo r hr q e).1)).grown hg2 (by omega) (fun q e=>by injection e with e;omega)
theorem LrS.fin {w0 w : World} {B Q : Nat} {d0 : BD} {h0 : BH} {pv : Value} {ms : List Value} {d : BD} {h : BH} {wr w' : World} (s : LrS w0 w B Q d0 h0 pv ms d h wr) (hg : wr.grownBy w' (some (Q + 3))) : BossO w' B d h ∧ Below B w0 w' ∧ Grew (rowsB d0 h0) w w' ∧ ∀ r ∈ rowsB d h,r ∈ rowsB d0 h0 ∨ ∀ q,r = some q → Q + 4 ≤ q:=by
 have hq:=s.q
 have hq2:=s.T.q
 have G9:=s.G
 exact ⟨s.T.bo.blk (fun r hr q e=>hg.block q (s.T.bo.lo r hr q e).2 (fun e'=>s.ne hr (Q + 3) (by omega) (by omega) (e'.symm.trans e.symm))),s.T.hb.grown hg (by omega) (fun q e=>by injection e with e;omega),⟨Nat.le_trans G9.size hg.size,fun p hp hh=>(hg.block p (Nat.lt_of_lt_of_le hp G9.size) (fun e=>by injection e with e;omega)).trans (G9.block p hp hh),hg.os.trans G9.os,hg.tape.trans G9.tape,hg.output.trans G9.output⟩,s.R⟩
end Go.Proofs.YtaeomkpofcbmiaaGreatDoor
namespace Go.Proofs.YtaeomkpofcbmiaaGreatDoor
open Go.RowKit
theorem keepR_yes {d : BD} {ts : List TaskD} {m : MgD} (h : dueOk ts d.R m.ta.toNat ∧ d.L1.length + d.L2.length < 310) : keepR d ts m = ⟨d.wk,d.up,d.now,d.sn,d.ep,d.gv,d.L1,d.L2 ++ [entS 2 d.ep m.ta m.x],d.R.set m.ta.toNat m.x,d.J.set m.ta.toNat (0,0,0),d.S,d.O⟩:=by unfold keepR;rw [if_pos h]
theorem keepR_no {d : BD} {ts : List TaskD} {m : MgD} (h : ¬ (dueOk ts d.R m.ta.toNat ∧ d.L1.length + d.L2.length < 310)) : keepR d ts m = d:=by unfold keepR;rw [if_neg h]
theorem freeR_not {d : BD} {m : MgD} (h : ¬ (rs d.R m.ta.toNat).size = 0) : freeR d m = d:=by unfold freeR;rw [if_neg h]
theorem freeR_none {d : BD} {m : MgD} (h : frS d.S m.fm m.ep = none) : freeR d m = d:=by
 unfold freeR
 split
 ·rw [h]
 ·rfl
theorem freeR_some {d : BD} {m : MgD} {S : List (Bool × Int)} (h0 : (rs d.R m.ta.toNat).size = 0) (h : frS d.S m.fm m.ep = some S) : freeR d m = ⟨d.wk,d.up,d.now,d.sn,d.ep,d.gv,d.L1,d.L2,d.R,d.J,S,d.O⟩:=by unfold freeR;rw [if_pos h0,h]
theorem oweR_no {d : BD} {m : MgD} (h : ¬ (rs d.R m.ta.toNat = m.x ∧ d.O.length < 2000 ∧ ¬ (∃ j,j < d.O.length ∧ (t3 d.O j).1 = m.fm ∧ (t3 d.O j).2.1 = m.le))) : oweR d m = d:=by unfold oweR;rw [if_neg h]
theorem oweR_yes {d : BD} {m : MgD} (h : rs d.R m.ta.toNat = m.x ∧ d.O.length < 2000 ∧ ¬ (∃ j,j < d.O.length ∧ (t3 d.O j).1 = m.fm ∧ (t3 d.O j).2.1 = m.le)) : oweR d m = ⟨d.wk,d.up,d.now,d.sn,d.ep,d.gv,d.L1,d.L2,d.R,d.J,d.S,d.O ++ [(m.fm,m.le,m.ta)]⟩:=by unfold oweR;rw [if_pos h]
theorem resB_yes {d : BD} {ts : List TaskD} {m : MgD} (h : m.ta < ts.length) : resB d ts m = oweR (freeR (keepR d ts m) m) m:=by unfold resB;rw [if_pos h]
theorem resB_no {d : BD} {ts : List TaskD} {m : MgD} (h : ¬ m.ta < ts.length) : resB d ts m = d:=by unfold resB;rw [if_neg h]
theorem keepR_facts (d : BD) (ts : List TaskD) (m : MgD) : (keepR d ts m).R.length = d.R.length ∧ (keepR d ts m).S = d.S ∧ (keepR d ts m).O = d.O:=by
 unfold keepR
 split
 ·exact ⟨by simp,rfl,rfl⟩
 ·exact ⟨rfl,rfl,rfl⟩
theorem freeR_facts (d : BD) (m : MgD) : (freeR d m).R = d.R ∧ (freeR d m).O = d.O:=by
 unfold freeR
 split
 ·cases frS d.S m.fm m.ep with
  | none=>exact ⟨rfl,rfl⟩
  | some S=>exact ⟨rfl,rfl⟩
 ·exact ⟨rfl,rfl⟩
theorem Own.set1 {B : Nat} {w : World} {v : Value} {R : List ByteArray} (h : Own B w 1 v R.length (R.map Value.string)) {t : Nat} (ht : t < R.length) : ∃ g o c,v = .slice (some ⟨g,o,none⟩) R.length c ∧ w.cell? ⟨g,o + t,none⟩ = some (.string (rs R t)) ∧ w.frozen? ⟨g,o + t,none⟩ = false ∧
  ∀ s : ByteArray,Own B (w.setCell ⟨g,o + t,none⟩ (.string s)) 1 v R.length ((R.set t s).map Value.string):=by
 rcases h with ⟨_,h0,_⟩ | ⟨g,o,cap,rfl,hc⟩
 ·omega
 ·have hl:=hc.le
  refine ⟨g,o,cap,rfl,?_,(hc.there t (by omega)).2,fun s=>.inr ⟨g,o,cap,rfl,?_⟩⟩
  ·rw [hc.holds t (by omega),List.getElem?_map,List.getElem?_eq_getElem ht]
   simp [rs,List.getD,ht]
  ·have h1:=hc.setCell (j:=t) (by omega) (.string s)
   have e : (R.map Value.string).set t (.string s) = (R.set t s).map Value.string:=by rw [List.map_set]
   rw [e] at h1
   exact h1
end Go.Proofs.YtaeomkpofcbmiaaGreatDoor
