
import Derived.Test.YtfkkipgcfoegmaaGreatQL5h
namespace Go.Proofs.YtfkkipgcfoegmaaGreat
open Go.Proofs.Tryz
open Go.Value renaming slice→K,string→E,pointer→aG,agg→aI
open Option renaming none→C,some→U
open Go.Value renaming int→I
open Go.IntKind renaming i64→Y
open Go.RowKit
variable {W w:World} {b g k:Nat} {p:Addr} {v v0:Value}
section
section
variable {ρ:Operand→Value} {o:Oper} {w:World}
theorem PX (x:Operand) (h:o.op=.load 26 x) (c:ρ x=aG (U p)) (a:w.cell? p=U v):(execOp ρ o).run prog w=.ok (.value v) w:=by
 unfold execOp;rw [h];simp [go_sem,c,a]
theorem Uo (x:Operand) (h:o.op=.load 28 x) (c:ρ x=aG (U p)) (a:w.cell? p=U v):(execOp ρ o).run prog w=.ok (.value v) w:=by
 unfold execOp;rw [h];simp [go_sem,c,a]
theorem Ib (x:Operand) (h:o.op=.load 23 x) (c:ρ x=aG (U p)) (a:w.cell? p=U v):(execOp ρ o).run prog w=.ok (.value v) w:=by
 unfold execOp;rw [h];simp [go_sem,c,a]
theorem Xy (x y:Operand) {a b:Int} (h:o.op=.binOp .add 3 x y 3) (c:ρ x=I Y a) (d:ρ y=I Y b):(execOp ρ o).run prog w=.ok (.value (I Y (IntKind.i64.wrap (a+b)))) w:=by
 unfold execOp;rw [h];simp [go_sem,c,d]
theorem ad4 (x y:Operand) {a b:Int} (h:o.op=.binOp .sub 3 x y 3) (c:ρ x=I Y a) (d:ρ y=I Y b):(execOp ρ o).run prog w=.ok (.value (I Y (IntKind.i64.wrap (a - b)))) w:=by
 unfold execOp;rw [h];simp [go_sem,c,d]
theorem ad5 (x y:Operand) {a b:Int} (h:o.op=.binOp .mul 3 x y 3) (c:ρ x=I Y a) (d:ρ y=I Y b):(execOp ρ o).run prog w=.ok (.value (I Y (IntKind.i64.wrap (a*b)))) w:=by
 unfold execOp;rw [h];simp [go_sem,c,d]
theorem abl (x:Operand) (a:Option Addr) (n c:Nat) (h:o.op=.call { callee:=.builtin .len,args:=#[x],argTypes:=#[26] }) (hx:ρ x=K a n c):(execOp ρ o).run prog w=.ok (.value (I Y (n:Nat))) w:=by
 unfold execOp;rw [h];simp [go_sem,hx]
theorem acR (x y:Operand) (n c i:Nat) (h:o.op=.indexAddr 79 x y) (d:ρ x=K (U ⟨b,0,C⟩) n c) (e:ρ y=I Y (i:Nat)) (hi:i<n):(execOp ρ o).run prog w=.ok (.value (aG (U ⟨b,i,C⟩))) w:=by
 have a:(i:Int)<(n:Int):=A;unfold execOp;rw [h];simp [go_sem,d,e,a]
theorem aah (x y:Operand) (n c i:Nat) (h:o.op=.indexAddr 23 x y) (d:ρ x=K (U ⟨b,0,C⟩) n c) (e:ρ y=I Y (i:Nat)) (hi:i<n):(execOp ρ o).run prog w=.ok (.value (aG (U ⟨b,i,C⟩))) w:=by
 have a:(i:Int)<(n:Int):=A;unfold execOp;rw [h];simp [go_sem,d,e,a]
theorem Ur (x y:Operand) (b a n c i:Nat) (h:o.op=.indexAddr 23 x y) (e:ρ x=K (U ⟨b,a,C⟩) n c) (f:ρ y=I Y (i:Nat)) (hi:i<n):(execOp ρ o).run prog w=.ok (.value (aG (U ⟨b,a+i,C⟩))) w:=by
 have d:(i:Int)<(n:Int):=A;unfold execOp;rw [h];simp [go_sem,e,f,d]
theorem aai (h:o.op=.buildSlice 23 2 #[(0,.const (E ⟨#[]⟩)),(1,.const (E ⟨#[49,50,51,52,53,54,55,56]⟩))]) (a:ρ (.const (E ⟨#[]⟩))=E ⟨#[]⟩) (c:ρ (.const (E ⟨#[49,50,51,52,53,54,55,56]⟩))=E ⟨#[49,50,51,52,53,54,55,56]⟩):(execOp ρ o).run prog w=.ok (.value (K (U ⟨w.heap.size,0,C⟩) 2 2)) (w.alloc (.cells #[E ⟨#[]⟩,E ⟨#[49,50,51,52,53,54,55,56]⟩] 9)):=by
 unfold execOp;rw [h];simp [go_sem,a,c]
theorem acT (h:o.op=.buildSlice 79 3 #[(0,.const (I Y (-1))),(1,.const (I Y 300)),(2,.const (I Y 301))]) (a:ρ (.const (I Y (-1)))=I Y (-1)) (c:ρ (.const (I Y 300))=I Y 300) (d:ρ (.const (I Y 301))=I Y 301):(execOp ρ o).run prog w=.ok (.value (K (U ⟨w.heap.size,0,C⟩) 3 3)) (w.alloc (.cells #[I Y (-1),I Y 300,I Y 301] 3)):=by
 unfold execOp;rw [h];simp [go_sem,a,c,d]
theorem qbJ (x y z:Operand) {a b c:Int} (h:o.op=.build 61 #[(0,x),(1,y),(2,z)]) (d:ρ x=I Y a) (e:ρ y=I Y b) (f:ρ z=I Y c):(execOp ρ o).run prog w=.ok (.value (aI #[I Y a,I Y b,I Y c])) w:=by
 unfold execOp;rw [h];simp [go_sem,d,e,f]
theorem qbO (x y z:Operand) {a b c:Int} (h:o.op=.build 56 #[(0,x),(1,y),(2,z)]) (d:ρ x=I Y a) (e:ρ y=I Y b) (f:ρ z=I Y c):(execOp ρ o).run prog w=.ok (.value (aI #[I Y a,I Y b,I Y c])) w:=by
 unfold execOp;rw [h];simp [go_sem,d,e,f]
theorem Us (y:Operand) {a b c:Int} (h:o.op=.buildSlice 28 1 #[(0,y)]) (d:ρ y=aI #[I Y a,I Y b,I Y c]):(execOp ρ o).run prog w=.ok (.value (K (U ⟨w.heap.size,0,C⟩) 1 1)) (w.alloc (.cells #[I Y a,I Y b,I Y c] 56)):=by
 unfold execOp;rw [h];simp [go_sem,d]
theorem Un {a:Option Addr} {n c:Nat} (x y:Operand) (h:o.op=.store 28 x y) (f:ρ x=aG (U p)) (g:ρ y=K a n c) (d:w.cell? p=U v0) (e:w.frozen? p=false):(execOp ρ o).run prog w=.ok .skip (w.setCell p (K a n c)):=by
 unfold execOp;rw [h];simp [go_sem,f,g,d,e]
theorem Xx (x y:Operand) {s:ByteArray} (h:o.op=.store 9 x y) (d:ρ x=aG (U p)) (e:ρ y=E s) (a:w.cell? p=U v0) (c:w.frozen? p=false):(execOp ρ o).run prog w=.ok .skip (w.setCell p (E s)):=by
 unfold execOp;rw [h];simp [go_sem,d,e,a,c]
theorem aag:(prog.info? 61).map (·.size)=U 3:=Z
theorem acQ {p q:Nat} {l k u:Int} (x y:Operand) (h:o.op=.store 61 x y) (d:ρ x=aG (U ⟨p,q,C⟩)) (e:ρ y=aI #[I Y l,I Y k,I Y u]) (c:w.there p q 3):(execOp ρ o).run prog w=.ok .skip (w.setCells p q [I Y l,I Y k,I Y u]):=by
 unfold execOp;rw [h];simp only [d,e,Instr.storeAt,Instr.sureAddr,Sem.run_bind,Sem.run_pure,Result.andThen_ok,run_storeVar_mid w p q 61 [I Y l,I Y k,I Y u].toArray c aag (all_oneCell_toArray (by intro v a;simp only [mG,mF,or_false] at a;rcases a with rfl | rfl | rfl <;> rfl))]
end
theorem MP {ops:Array Oper} {rest:List Oper} {op:Oper} {a:Act} {w':World} {Q:Exit→Act→World→Prop} (f:Region.wanted op (yielded ops a.tmps)=true) (e:(execOp a.eval op).run prog w=.ok (.value v) w') (c:wpList prog ops Q rest (a.put op.dst v) w'):wpList prog ops Q (op :: rest) a w:=by
 refine wpList_step fun g d=>?_;rw [if_pos f];unfold Oper.wp;rw [e];exact d _ _ c
def JD (r:Nat):ByteArray:=if r=0 then ⟨#[]⟩ else ⟨#[49,50,51,52,53,54,55,56]⟩
theorem KJ (r:Nat):(JD r).size≤maxLen:=by
 unfold JD maxLen;split
 ·exact lG _
 ·show 8≤_;omega
theorem KL {r:Nat} (h:CF W b [E ⟨#[]⟩,E ⟨#[49,50,51,52,53,54,55,56]⟩]) (a:r<2):W.cell? ⟨b,r,C⟩=U (E (JD r)):=by
 rw [(h r a).1];match r,a with
 | 0,_=>rfl
 | 1,_=>rfl
def NM (r:Nat):Int:=if r=0 then -1 else if r=1 then 300 else 301
theorem YZ (r:Nat):I64 (NM r):=by
 unfold NM;split
 ·exact ⟨A,A⟩
 ·split <;> exact ⟨A,A⟩
theorem QB {r:Nat} (h:CF W b [I Y (-1),I Y 300,I Y 301]) (a:r<3):W.cell? ⟨b,r,C⟩=U (I Y (NM r)):=by
 rw [(h r a).1];match r,a with
 | 0,_=>rfl
 | 1,_=>rfl
 | 2,_=>rfl
theorem WO {r:Nat} {a0 a1 a2 a3:Int} (h:CF W b [I Y a0,I Y a1,I Y a2,I Y a3]) (a:r<4):∃ z:Int,W.cell? ⟨b,r,C⟩=U (I Y z):=by
 rw [(h r a).1];match r,a with
 | 0,_=>exact ⟨_,rfl⟩
 | 1,_=>exact ⟨_,rfl⟩
 | 2,_=>exact ⟨_,rfl⟩
 | 3,_=>exact ⟨_,rfl⟩
def REn (W:World) (g k:Nat) (v:Value) (w':World):Prop:=(∃ (a b c:Int) (x:ByteArray),v=aI #[I Y a,I Y b,I Y c,E x]∧x.size≤110)∧RD w' g k∧W.grownBy w' (U g)
theorem ado (h:RD W g k) (l:k≤900000):Calls prog 64 #[aG (U ⟨g,0,C⟩)] W fun e d=>∃ v,e=.returned v∧REn W g (k+10) v d :=
 (XI g k W h l).mono fun e d j=>by
  obtain ⟨⟨a,b,c,x,rfl,-,-,-,o⟩,f,i⟩:=j;exact ⟨_,rfl,⟨a,b,c,x,rfl,A⟩,f,i⟩
def WV (W:World) (v:Value) (w':World):Prop:=(∃ s:ByteArray,s.size≤1000∧v=E s)∧Below W.heap.size W w'
theorem UN {a b c:Int} {x:ByteArray} (i:x.size≤110):Calls prog 52 #[aI #[I Y a,I Y b,I Y c,E x]] W fun e d=>∃ v,e=.returned v∧WV W v d :=
 (Ai a b c x W).mono fun e d g=>by
  obtain ⟨⟨r,rfl,h⟩,f⟩:=g;exact ⟨_,rfl,⟨r,by have:=h.small i;omega,rfl⟩,f⟩
theorem QK (v1:Value) (w:World):Sem.run prog (callFunc 64 #[v1]) w=.ok (.enter 64 #[v1]) w:=Z
theorem Ij (v1:Value) (w:World):Sem.run prog (callFunc 52 #[v1]) w=.ok (.enter 52 #[v1]) w:=Z
def abu (e:Ending) (B:Nat) (w':World):Prop:=∃ d h,e=.returned (aI (bvs d h).toArray)∧lg w' B d h∧d.fits∧d.small
theorem lX.fin {l W':World} {Q j:Nat} {d:BD} {h:BH} (x:lX l g k Q d h W) (hw:w.grownBy l (U g)) (z:w.heap.size≤j∧j<l.heap.size) (H:g<w.heap.size) (c:W.grownBy W' (U j)):abu (.returned (aI (bvs d h).toArray)) w.heap.size W'∧RD W' g k∧w.grownBy W' (U g):=by
 have J:=x.p;have L:=hw.size;have o:∀ q,q<W.heap.size→q≠j→W'.heap[q]?=W.heap[q]?:=fun q t v=>c.block q t (fun e=>O);have a:=grownBy_trans hw x.gr;exact ⟨⟨d,h,rfl,(x.bo.blk (fun r s q i=>o q (x.bo.lo r s q i).2 (by have:=(x.bo.lo r s q i).1;omega))).mono A,x.f,x.y⟩,x.rd.keep (fun q i=>o q A A),⟨c.os.trans a.os,c.tape.trans a.tape,c.output.trans a.output,lH a.size c.size,fun q i u=>(o q (by have:=a.size;omega) A).trans (a.block q i u)⟩⟩
end
end Go.Proofs.YtfkkipgcfoegmaaGreat
