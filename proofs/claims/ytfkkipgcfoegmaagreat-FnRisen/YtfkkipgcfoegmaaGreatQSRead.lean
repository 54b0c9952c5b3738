
import Derived.Test.YtfkkipgcfoegmaaGreatQForm
import Derived.Test.YtfkkipgcfoegmaaGreatQERd
import Derived.Deep.RegionLaw
import Derived.LaidEql
import Derived.Stop.Asserts
import Derived.RowKitTokens
set_option maxHeartbeats 4000000
set_option maxRecDepth 100000
namespace Go.Proofs.YtfkkipgcfoegmaaGreat
open Go.Proofs.Tryz
open Go.Value renaming slice→K,string→E,bool→aF,pointer→aG,agg→aI
open Option renaming none→C,some→U
open Go.Operand renaming tmp→F
open Go.Obj renaming cells→aH
open Bool renaming false→aK,true→aN
open Go.Value renaming int→I
open Go.IntKind renaming i64→Y
open Go.RowKit
open Go.RowKit Go.Extern.Stop Go.Stop Go.Extern
variable {P:Program} {b0 b1 b10 b2 b3 b4 b5 b6 b7 b8 b9:UInt8} {e f l t:Int} {fuel g i j n:Nat} {key s x:ByteArray} {l':Array Bool} {md:Region.Mode} {o oi:Oper} {ops:Array Oper} {ss:List ByteArray} {v:Value} {vs:List Value} {w w' w0:World} {ρ:Operand→Value}
theorem acv {k d:Int} {z:Nat} (h:vM k f t e l d z ss) :
  0≤k∧k≤5∧0≤f∧f≤8∧0≤t∧t≤8∧0≤e∧e≤300∧0≤l∧l≤300000000∧0≤d∧d≤39∧Ae ss∧(k=3→z=8∧ss.length=0)∧(¬ k=3→z=0):=by
 have hi:=(TQ h).2.1;unfold vM at h;rcases h with h | h | h | h | h <;> exact ⟨A,A,A,A,A,A,A,A,A,A,A,A,hi,A,A⟩
def chk:Nat→List UInt8→List ByteArray
 | 0,_=>[]
 | n+1,R=>⟨(R.take 8).toArray⟩ :: chk n (R.drop 8)
theorem Yb (n:Nat) (R:List UInt8):(chk n R).length=n:=by
 induction n generalizing R with
 | zero=>rfl
 | succ n ih=>simp [chk,ih]
theorem aaS (n:Nat) (R:List UInt8):chk (n+1) R=chk n R ++ [⟨((R.drop (8*n)).take 8).toArray⟩]:=by
 induction n generalizing R with
 | zero=>simp [chk]
 | succ n ih =>
  rw [chk,ih (R.drop 8),chk,Eo,List.drop_drop];simp [Nat.mul_add,Nat.add_comm]
theorem MW (h:Ji (s :: ss) (ss.length+1)):s.size=8∧Ji ss ss.length :=
 ⟨h 0 A,fun j a=>by simpa using h (j+1) A⟩
theorem ba_eq {a b:ByteArray} (h:a.data.toList=b.data.toList):a=b:=by
 cases a;cases b;simpa using h
theorem acf (ss:List ByteArray) (T:List UInt8) (h:Ji ss ss.length):chk ss.length (Df ss ++ T)=ss:=by
 induction ss with
 | nil=>rfl
 | cons s r ih =>
  obtain ⟨a,d⟩:=MW h;have e:s.data.toList.length=8:=by rw [nZ];exact a
  have c:Df (s :: r) ++ T=s.data.toList ++ (Df r ++ T):=by simp [Df]
  rw [pX,chk,c,aeF A,aeE A,pF A,LM A,oG,ih d]
theorem Xi (ss:List ByteArray) (h:Ji ss ss.length):tot ss=8*ss.length:=by
 induction ss with
 | nil=>rfl
 | cons s r ih =>
  obtain ⟨c,a⟩:=MW h;have:=ih a;simp only [tot,Js,RU,pX] at this ⊢;omega
theorem Ew {z:Int} {b:UInt8} (h:UInt8.ofNat z.toNat=b) (a:0≤z) (c:z<256):z=(b.toNat:Int):=by
 have:=congrArg UInt8.toNat h;rw [UInt8.toNat_ofNat_of_lt' jG] at this;omega
def nE (b3 b4:UInt8):Int:=(b3.toNat:Int)*256+b4.toNat
def nL (b5 b6 b7 b8:UInt8):Int:=(((b5.toNat:Int)*256+b6.toNat)*256+b7.toNat)*256+b8.toNat
theorem head_eq {k d:Int} {T R:List UInt8} (h:toB (Az k f t e l d n) ++ T=b0 :: b1 :: b2 :: b3 :: b4 :: b5 :: b6 :: b7 :: b8 :: b9 :: b10 :: R)
  (J:0≤k∧k<256) (H:0≤f∧f<256) (N:0≤t∧t<256) (he:0≤e∧e<65536) (L:0≤l∧l<4294967296) (z:0≤d∧d<256) (M:n<256) :
  k=b0.toNat∧f=b1.toNat∧t=b2.toNat∧e=nE b3 b4∧l=nL b5 b6 b7 b8∧d=b9.toNat∧n=b10.toNat∧T=R:=by
 unfold toB Az at h;simp only [Js,List.map_nil,Eo,oG,Oc] at h;obtain ⟨a,c,i,j,o,p,q,r,s,u,g,v⟩:=h;have g0:=Ew a A A;have g1:=Ew c A A;have g2:=Ew i A A;have g3:=Ew j A A;have g4:=Ew o A A;have g5:=Ew p A A;have g6:=Ew q A A;have g7:=Ew r A A;have g8:=Ew s A A;have g9:=Ew u A A;have g10:=Ew g A A;unfold nE nL;exact ⟨A,A,A,A,A,A,A,v⟩
theorem QV {k d:Int} {R:List UInt8} (J:vM k f t e l d x.size ss)
  (h:AB k f t e l d x ss=b0 :: b1 :: b2 :: b3 :: b4 :: b5 :: b6 :: b7 :: b8 :: b9 :: b10 :: R) :
  k=b0.toNat∧f=b1.toNat∧t=b2.toNat∧e=nE b3 b4∧l=nL b5 b6 b7 b8∧d=b9.toNat ∧
   (b0.toNat=3→x=⟨R.toArray⟩∧ss=[]∧R.length=8∧b10.toNat=0)∧(¬ b0.toNat=3→x=⟨#[]⟩∧ss=chk b10.toNat R∧R.length=8*b10.toNat):=by
 obtain ⟨i,N,o,P,r,Q,s,S,u,L,j,M,hi,q,v⟩:=acv J;unfold AB at h;rw [Dk] at h;obtain ⟨g0,g1,g2,g3,g4,g5,g6,g7⟩:=head_eq h ⟨i,A⟩ ⟨o,A⟩ ⟨r,A⟩ ⟨s,A⟩ ⟨u,A⟩ ⟨j,A⟩ (by have:=hi.1;omega);have c:x.data.toList.length=x.size:=by rw [nZ];rfl
 refine ⟨g0,g1,g2,g3,g4,g5,fun p=>?_,fun p=>?_⟩
 ·obtain ⟨a,z⟩:=q A
  have H:=oH z;subst H;have:x.data.toList=R:=by rw [← g7];simp [Df]
  refine ⟨?_,rfl,by rw [← this,c];exact a,by simpa using g6.symm⟩;apply ba_eq;simp [this]
 ·have a:=v A
  have g:x.data.toList=[]:=oH (by rw [c];exact a);rw [g,oG] at g7;refine ⟨?_,?_,?_⟩
  ·apply ba_eq;simp [g]
  ·rw [← g6,← g7]
   have:=acf ss [] hi.2;rw [pz] at this;exact this.symm
  ·rw [← g7,Nb,Xi ss hi.2,g6]
theorem abI (L:List UInt8) (h:11≤L.length):∃ b0 b1 b2 b3 b4 b5 b6 b7 b8 b9 b10 R,L=b0 :: b1 :: b2 :: b3 :: b4 :: b5 :: b6 :: b7 :: b8 :: b9 :: b10 :: R:=by
 match L,h with
 | b0 :: b1 :: b2 :: b3 :: b4 :: b5 :: b6 :: b7 :: b8 :: b9 :: b10 :: R,_=>exact ⟨b0,b1,b2,b3,b4,b5,b6,b7,b8,b9,b10,R,rfl⟩
theorem Tryz.sizeMsg:(prog.info? 136).map (·.size)=U 8:=Z
theorem aaT (n:Nat) (R:List UInt8):∀ s∈chk n R,s.size≤8:=by
 induction n generalizing R with
 | zero=>intro s a;cases a
 | succ n ih =>
  intro s a;rcases List.mem_cons.1 a with rfl | a
  ·show (R.take 8).toArray.size≤8
   simp;omega
  ·exact ih _ s a
theorem Own.strs {B:Nat} {a:Option Addr} {c:Nat} (h:Own B w 1 (K a n c) n (ss.map E)) (l:∀ s∈ss,s.size≤maxLen):∃ b o,kS w a b o n ss:=by
 rcases h with ⟨d,rfl,k⟩ | ⟨g,o,cap,d,f⟩
 ·injection d with e _ _
  have:ss=[]:=by simpa using k
  subst this;exact ⟨0,0,fun h=>absurd h A,rfl,lG _,fun h=>absurd h A,fun j i=>absurd i A,D⟩
 ·injection d with e _ _
  subst e;exact ⟨g,o,kS.Au f l⟩






def Good (s key:ByteArray) (k f t e l d:Int) (x:ByteArray) (ss:List ByteArray):Prop:=vM k f t e l d x.size ss∧key.size≤30∧s=Gf key [AA k f t e l d x ss] ++ AA k f t e l d x ss
def Iq (s key:ByteArray):Prop:=¬ ∃ (k f t e l d:Int) (x:ByteArray) (ss:List ByteArray),Good s key k f t e l d x ss
theorem KZ {k d:Int} (h:Good s key k f t e l d x ss):19≤s.size∧s.data.toList.drop 8=AB k f t e l d x ss∧s.extract 0 8=Gf key [s.extract 8 s.size]:=by
 obtain ⟨q,o,g⟩:=h;have a:=FW key [AA k f t e l d x ss];have j:=JX k f t e l d x ss;have p:(Gf key [AA k f t e l d x ss]).data.toList.length=8:=by rw [nZ];exact a
 have i:s.data.toList=(Gf key [AA k f t e l d x ss]).data.toList ++ AB k f t e l d x ss:=by rw [g];simp [AA]
 have c:s.data.toList.drop 8=AB k f t e l d x ss:=by rw [i,aeE A,LM A,oG]
 have he:s.extract 8 s.size=AA k f t e l d x ss:=by
  apply ba_eq;rw [ext_list,pF (by rw [nZ];exact kL),c];rfl
 refine ⟨?_,c,?_⟩
 ·rw [g,Jq,a,j];omega
 ·rw [he]
  apply ba_eq;rw [ext_list,Oe,i,aeF A,pF A]
def Vj (a:Ending) (w w':World) (s key:ByteArray):Prop :=
 (a=.returned (.tuple #[aI zM.toArray,aF aK])∧Iq s key) ∨
 (∃ (k f t e l d:Int) (x:ByteArray) (ss:List ByteArray) (v:Value),a=.returned (.tuple #[aI #[I Y k,I Y f,I Y t,I Y e,I Y l,I Y d,E x,v],aF aN])∧Good s key k f t e l d x ss∧Own w.heap.size w' 1 v ss.length (ss.map E))
def fr (vs:List Value) (n:Nat):Act:=⟨(vs ++ List.replicate n undef).toArray,[]⟩
theorem FI {Q:Exit→Act→World→Prop} {l:Array Bool} {a a':Act} (c:a=a') (h:wpAny P md ops Q fuel l a' w):wpAny P md ops Q fuel l a w:=by
 rw [c];exact h
theorem lV {Q:Exit→Act→World→Prop} {d:Option Nat} {l:Array Bool} {a:Act} (hi:ops[i]?=U oi) (hy:∀ w,(execOp a.eval oi).run P w=.ok (.value v) w) (h:wpAny P md ops Q fuel l' (a.put d v) w)
  (hd:oi.dst=d:=by kernel_rfl) (hs:Region.noSelect ops=aN:=by kernel_rfl) (hf:Region.free md ops l i=aN:=by kernel_rfl) (hr:(Region.ready md ops l).contains i=aN:=by kernel_rfl)
  (hQ:∀ c a w,Q (.panic c) (a.put oi.dst v) w→Q (.panic c) a w:=by exact fun _ _ _ h=>h) (hw:Region.wanted oi (yielded ops a.tmps)=aN:=by kernel_rfl) (hl:l.setIfInBounds i aN=l':=by kernel_rfl):wpAny P md ops Q (fuel+1) l a w:=by
 subst hl;subst hd;exact wpAny_take hi hs hf hr hQ (Or.inl ⟨hw,hy⟩) h
theorem Zr {Q:Exit→Act→World→Prop} {l:Array Bool} {a a':Act} {o:Obj} (hi:ops[i]?=U oi)
  (j:Region.ready md ops l=[i]) (hw:Region.wanted oi (yielded ops a.tmps)=aN) (e:w.heap.size=g) (k:(execOp a.eval oi).run P w=.ok (.value (aG (U ⟨w.heap.size,0,C⟩))) (w.alloc o))
  (f:l.setIfInBounds i aN=l') (d:a.put oi.dst (aG (U ⟨g,0,C⟩))=a') (h:wpAny P md ops Q fuel l' a' (w.alloc o)):wpAny P md ops Q (fuel+1) l a w:=by
 subst f;subst d;subst e;refine wpAny_ready j D (AllReady.cons hi (fun p c=>?_) AllReady.nil);rw [if_pos hw];unfold Oper.wp;rw [k];exact c _ _ h
theorem TM {Q:Exit→Act→World→Prop} {l:Array Bool} {a a':Act} (hi:ops[i]?=U oi)
  (f:Region.ready md ops l=[i]) (hw:Region.wanted oi (yielded ops a.tmps)=aN) (g:(execOp a.eval oi).run P w=.ok .skip w')
  (e:l.setIfInBounds i aN=l') (d:a.put oi.dst undef=a') (h:wpAny P md ops Q fuel l' a' w'):wpAny P md ops Q (fuel+1) l a w:=by
 subst e;subst d;refine wpAny_ready f D (AllReady.cons hi (fun j c=>?_) AllReady.nil);rw [if_pos hw];unfold Oper.wp;rw [g];exact c _ _ h
theorem acO (h:o.op=.alloc 136):(execOp ρ o).run prog w=.ok (.value (aG (U ⟨w.heap.size,0,C⟩))) (w.alloc (aH Jl 136)):=by
 unfold execOp;rw [h];simp [go_sem]
theorem acK {n:Int} {p:Addr} {old:Value} (x y:Operand) (h:o.op=.store 3 x y) (d:ρ x=aG (U p)) (e:ρ y=I Y n) (a:w.cell? p=U old) (c:w.frozen? p=aK) :
  (execOp ρ o).run prog w=.ok .skip (w.setCell p (I Y n)):=by
 unfold execOp;rw [h];simp [go_sem,d,e,a,c]
theorem acJ {p:Nat} (old vs:List Value) (x y:Operand) (h:o.op=.store 136 x y) (k:ρ x=aG (U ⟨p,0,C⟩)) (l:ρ y=aI vs.toArray) (f:CF w p old) (g:old.length=8) (d:vs.length=8) (a:∀ v∈vs,v.oneCell'=aN) :
  (execOp ρ o).run prog w=.ok .skip (w.setCells p 0 vs):=by
 have j:w.there p 0 vs.toArray.size:=fun i hi=>by
  have c:i<old.length:=by rw [g];simpa [d] using hi
  obtain ⟨a,e⟩:=f i c;exact ⟨by rw [ny,a,nH c];rfl,by rw [ny];exact e⟩
 have hi:(prog.info? 136).map (·.size)=U vs.toArray.size:=by rw [Tryz.sizeMsg];simp [d]
 unfold execOp;rw [h];simp only [k,l,Instr.storeAt,Instr.sureAddr,Sem.run_bind,Sem.run_pure,Result.andThen_ok,run_storeVar_mid w p 0 136 vs.toArray j hi (all_oneCell_toArray a)]
structure RS (w0:World) (P:Nat) (vs:List Value) (w:World):Prop where
 m:CF w (P+1) vs
 bx:CF w P zM
 lo:P+1<w.heap.size
 be:Below P w0 w
theorem RS.store {P:Nat} (h:RS w0 P vs w) (a:j<vs.length) (u:Value):RS w0 P (vs.set j u) (w.setCell ⟨P+1,j,C⟩ u) :=
 ⟨h.m.set a u,h.bx.block (nK _ _ _ _ aT),by simpa [World.setCell] using h.lo,h.be.setCell aT _⟩
theorem RS.below {P:Nat} (h:RS w0 P vs w) (a:Below w.heap.size w w'):RS w0 P vs w' :=
 ⟨h.m.block (a.block _ h.lo),h.bx.block (a.block _ fF),lu h.lo a.size,h.be.trans (a.mono fF)⟩
theorem RS.grown {P:Nat} {row:Option Nat} (h:RS w0 P vs w) (a:w.grownBy w' row) (c:∀ k,row=U k→P+1+1≤k):RS w0 P vs w' :=
 ⟨h.m.block (a.block _ h.lo (fun e=>fE)),h.bx.block (a.block _ fF (fun e=>fE)),lu h.lo a.size,
  h.be.grown a fF (fun k d=>by have:=c k d;omega)⟩
theorem acM (x:Operand) (h:o.op=.fieldAddr 136 x 4) (a:ρ x=aG (U ⟨g,0,C⟩)):(execOp ρ o).run prog w=.ok (.value (aG (U ⟨g,4,C⟩))) w:=by
 unfold execOp;rw [h];simp [go_sem,a]
theorem Du (x:Operand) (h:o.op=.move x) (a:ρ x=v):(execOp ρ o).run prog w=.ok (.value v) w:=by
 rw [← a];exact BigFrame.run_move x h w
theorem Dv (x y:Operand) (b:ByteArray) (i:Nat) (c:UInt8) (h:o.op=.index 9 x y) (d:ρ x=E b) (e:ρ y=I Y i) {hi:i<b.size} (a:b[i]=c) :
  (execOp ρ o).run prog w=.ok (.value (.int .u8 c.toNat)) w:=by
 subst a;unfold execOp;rw [h];simp [go_sem,d,e,hi]
theorem Dw (x:Operand) (c:UInt8) (h:o.op=.convert 5 3 x) (a:ρ x=.int .u8 c.toNat):(execOp ρ o).run prog w=.ok (.value (I Y c.toNat)) w:=by
 have:=c.toNat_lt;have hw:IntKind.i64.wrap (c.toNat:Int)=c.toNat:=bF;unfold execOp;rw [h];simp [go_sem,a,hw]
theorem LU (x y:Operand) (c:UInt8) (m:Int) (h:o.op=.binOp .mul 3 x y 3) (e:ρ x=I Y c.toNat) (f:ρ y=I Y m) (a:0≤m) (d:m≤16777216) :
  (execOp ρ o).run prog w=.ok (.value (I Y ((c.toNat:Int)*m))) w:=by
 have g:=c.toNat_lt;have i:0≤(c.toNat:Int)*m:=Int.mul_nonneg A a;have j:(c.toNat:Int)*m≤256*16777216:=Int.mul_le_mul A d a A;have hw:IntKind.i64.wrap ((c.toNat:Int)*m)=c.toNat*m:=bF;unfold execOp;rw [h];simp [go_sem,e,f,hw]
theorem Me (x y:Operand) (c m:Int) (h:o.op=.binOp .add 3 x y 3) (a:ρ x=I Y c) (d:ρ y=I Y m) (e:0≤c+m) (f:c+m≤4294967296) :
  (execOp ρ o).run prog w=.ok (.value (I Y (c+m))) w:=by
 have hw:IntKind.i64.wrap (c+m)=c+m:=bF;unfold execOp;rw [h];simp [go_sem,a,d,hw]
theorem abX {n0 n1 n2 a c:Int} (d e f g i:Operand) (h:o.op=.build 136 #[(0,d),(1,e),(2,f),(3,g),(5,i)]) (j:ρ d=I Y n0) (k:ρ e=I Y n1) (l:ρ f=I Y n2) (p:ρ g=I Y a) (q:ρ i=I Y c) :
  (execOp ρ o).run prog w=.ok (.value (aI #[I Y n0,I Y n1,I Y n2,I Y a,I Y 0,I Y c,E ⟨#[]⟩,K C 0 0])) w:=by
 unfold execOp;rw [h];simp [go_sem,j,k,l,p,q]
theorem QH {k d:Int} (a:19≤s.size) (h:F7 key k f t e l d x ss s):Good s key k f t e l d x ss:=by
 rcases h with h | ⟨_,c⟩
 ·exact h
 ·rw [c] at a;exact absurd a cZ
theorem aea {r:ByteArray} {R:List UInt8} (h:s.data.toList.drop 8=b0 :: b1 :: b2 :: b3 :: b4 :: b5 :: b6 :: b7 :: b8 :: b9 :: b10 :: R) (g:¬ b0.toNat=3) (q:8*j≤R.length) (u:R.length<8*j+8)
  (p:F7 key (b0.toNat:Int) (b1.toNat:Int) (b2.toNat:Int) (nE b3 b4) (nL b5 b6 b7 b8) (b9.toNat:Int) ⟨#[]⟩ (chk j R) r) (o:¬ r=s):Iq s key:=by
 rintro ⟨k,f,t,e,l,d,x,ss,a⟩;obtain ⟨_,c,_⟩:=KZ a;rw [h] at c;obtain ⟨rfl,rfl,rfl,rfl,rfl,rfl,_,i⟩:=QV a.1 c.symm;obtain ⟨rfl,rfl,hlen⟩:=i g;have:j=b10.toNat:=A;subst this;exact o (p.uniq (.inl a))
theorem ad9 {r:ByteArray} {R:List UInt8} (h:s.data.toList.drop 8=b0 :: b1 :: b2 :: b3 :: b4 :: b5 :: b6 :: b7 :: b8 :: b9 :: b10 :: R) (g:b0.toNat=3)
  (o:F7 key (b0.toNat:Int) (b1.toNat:Int) (b2.toNat:Int) (nE b3 b4) (nL b5 b6 b7 b8) (b9.toNat:Int) ⟨R.toArray⟩ [] r) (j:¬ r=s):Iq s key:=by
 rintro ⟨k,f,t,e,l,d,x,ss,a⟩;obtain ⟨_,c,_⟩:=KZ a;rw [h] at c;obtain ⟨rfl,rfl,rfl,rfl,rfl,rfl,i,_⟩:=QV a.1 c.symm;obtain ⟨rfl,rfl,_⟩:=i g;exact j (o.uniq (.inl a))
def acG:Value→Nat
 | E s=>s.size
 | _=>0
theorem Am {b:ByteArray} {L:List UInt8} {c:UInt8} (h:b.data.toList=L) {hi:i<b.size} (d:L[i]?=U c):b[i]=c:=by
 subst h;have a:b.data[i]?=U c:=by rw [← Array.getElem?_toList];exact d
 rw [Sl hi] at a;exact LH a
theorem Xn (s key:ByteArray) (w:World) (h:s.size<19) :
  Calls prog 85 #[E s,E key] w fun c w'=>Vj c w w' s key∧Below w.heap.size w w':=by
 have a:Hid (Iq s key):=by
  rintro ⟨k,f,t,e,l,d,x,ss,g⟩;have:=(KZ g).1;omega
 have i:(s.size:Int)<19:=A;go_enter func85,ntmps85
 go_wp2;exact bodyPost_ret (v:=.tuple #[aI zM.toArray,aF aK]) (by simp [results,results85,go_sem,zM]) rfl ⟨.inl ⟨rfl,a.out⟩,kQ⟩
theorem Xm (s key:ByteArray) (w:World) (hk:key.size≤maxLen) (hm:s.size≤1048576) (bg:19≤s.size) :
  Calls prog 85 #[E s,E key] w fun e' w'=>Vj e' w w' s key∧Below w.heap.size w w':=by
 obtain ⟨i0,hi,c8,c9,da⟩:=info_parts Tryz.info9;obtain ⟨b, hb⟩ := kC (s.extract 8 s.size);have bp:b.size=s.size - 8:=by rw [hb,RN];omega
 have bo:b.data.toList=s.data.toList.drop 8:=by rw [hb,ext_list,pF (by rw [nZ];exact kL)]
 have bs:b.data.toList.length=b.size:=by rw [nZ];rfl
 obtain ⟨b0,b1,b2,b3,b4,b5,b6,b7,b8,b9,b10,R,e⟩:=abI b.data.toList A;have bj:=bo.symm.trans e;have av:R.length+11=b.size:=by rw [← bs,e];simp
 have l:11≤b.size:=av ▸ Nat.le_add_left 11 _;have e0:b[0]'(lu cZ l)=b0:=Am e D;have e1:b[1]'(lu cZ l)=b1:=Am e D;have e2:b[2]'(lu cZ l)=b2:=Am e D;have e3:b[3]'(lu cZ l)=b3:=Am e D;have e4:b[4]'(lu cZ l)=b4:=Am e D;have e5:b[5]'(lu cZ l)=b5:=Am e D;have e6:b[6]'(lu cZ l)=b6:=Am e D;have e7:b[7]'(lu cZ l)=b7:=Am e D;have e8:b[8]'(lu cZ l)=b8:=Am e D;have e9:b[9]'(lu cZ l)=b9:=Am e D;have dg:b.size≤9223372036854775807:=A;obtain ⟨rs, c⟩ := kC (b.extract 11 b.size);have ba:rs.data.toList=R:=by rw [c,ext_list,pF A,e];simp
 have cd:rs.size=R.length:=by rw [← ba,nZ];rfl
 obtain ⟨W, hW⟩ := kC (w.alloc (aH Jl 136));have bn:Below w.heap.size w W:=by rw [hW];exact kQ
 have au:W.drew.heap.size=w.heap.size+1:=dF;have c5:W.heap.size=w.heap.size+1:=au;have bu:w.heap.size<W.drew.heap.size:=A;have bq:CF W.drew w.heap.size zM:=by rw [hW];exact (CF.made w zM.toArray _).block rfl
 have ay:CF (W.drew.alloc (aH Jl 136)) (w.heap.size+1) zM:=by rw [← au];exact CF.made W.drew zM.toArray _
 have HB:=hid hb;have HW:=hid hW;have cp:=hid c;have HL:=hid bj;have bd:=hid ba;have ch:=hid bp;have ct:=hid av;have db:=hid cd;clear hb hW c bj e ba bo bs bp cd av;have r3:b3.toNat<256:=b3.toNat_lt;have r4:b4.toNat<256:=b4.toNat_lt;have r5:b5.toNat<256:=b5.toNat_lt;have r6:b6.toNat<256:=b6.toNat_lt;have r7:b7.toNat<256:=b7.toNat_lt;have r8:b8.toNat<256:=b8.toNat_lt;go_enter func85,ntmps85
 go_upto_region 4 with fail
 rw [← HB.out];rw [← HW.out];refine wp_region_any Z ?_;change wpAny _ _ _ _ _ _ _ (World.drew _);refine FI (a':=(fr (E s :: E key :: undef :: undef :: aG (U ⟨w.heap.size,0,C⟩) :: aF aK :: E b :: undef :: undef :: E s :: I Y s.size :: aF (decide ((s.size:Int)<19)) :: undef :: E s :: E b :: []) 66)) Z ?_;refine lV (i:=0) (d:=U 15) (v:=E b) (l':=(bt 23 1)) rfl (fun _=>Du (F 6) Z Z) ?_;refine lV (i:=1) (d:=U 16) (v:=.int .u8 b0.toNat) (l':=(bt 23 3)) rfl (fun _=>Dv (F 15) (.const (I Y 0)) b 0 b0 Z Z Z e0) ?_;refine lV (i:=2) (d:=U 17) (v:=I Y b0.toNat) (l':=(bt 23 7)) rfl (fun _=>Dw (F 16) b0 Z Z) ?_;refine lV (i:=3) (d:=U 18) (v:=E b) (l':=(bt 23 15)) rfl (fun _=>Du (F 6) Z Z) ?_;refine lV (i:=4) (d:=U 19) (v:=.int .u8 b1.toNat) (l':=(bt 23 31)) rfl (fun _=>Dv (F 18) (.const (I Y 1)) b 1 b1 Z Z Z e1) ?_;refine lV (i:=5) (d:=U 20) (v:=I Y b1.toNat) (l':=(bt 23 63)) rfl (fun _=>Dw (F 19) b1 Z Z) ?_;refine lV (i:=6) (d:=U 21) (v:=E b) (l':=(bt 23 127)) rfl (fun _=>Du (F 6) Z Z) ?_;refine lV (i:=7) (d:=U 22) (v:=.int .u8 b2.toNat) (l':=(bt 23 255)) rfl (fun _=>Dv (F 21) (.const (I Y 2)) b 2 b2 Z Z Z e2) ?_;refine lV (i:=8) (d:=U 23) (v:=I Y b2.toNat) (l':=(bt 23 511)) rfl (fun _=>Dw (F 22) b2 Z Z) ?_;refine lV (i:=9) (d:=U 24) (v:=E b) (l':=(bt 23 1023)) rfl (fun _=>Du (F 6) Z Z) ?_;refine lV (i:=10) (d:=U 25) (v:=.int .u8 b3.toNat) (l':=(bt 23 2047)) rfl (fun _=>Dv (F 24) (.const (I Y 3)) b 3 b3 Z Z Z e3) ?_;refine lV (i:=11) (d:=U 26) (v:=I Y b3.toNat) (l':=(bt 23 4095)) rfl (fun _=>Dw (F 25) b3 Z Z) ?_;refine lV (i:=12) (d:=U 27) (v:=I Y ((b3.toNat:Int)*256)) (l':=(bt 23 8191)) rfl (fun _=>LU (F 26) (.const (I Y 256)) b3 256 Z Z Z A A) ?_;refine lV (i:=13) (d:=U 28) (v:=E b) (l':=(bt 23 16383)) rfl (fun _=>Du (F 6) Z Z) ?_;refine lV (i:=14) (d:=U 29) (v:=.int .u8 b4.toNat) (l':=(bt 23 32767)) rfl (fun _=>Dv (F 28) (.const (I Y 4)) b 4 b4 Z Z Z e4) ?_;refine lV (i:=15) (d:=U 30) (v:=I Y b4.toNat) (l':=(bt 23 65535)) rfl (fun _=>Dw (F 29) b4 Z Z) ?_;refine lV (i:=16) (d:=U 31) (v:=I Y ((b3.toNat:Int)*256+(b4.toNat:Int))) (l':=(bt 23 131071)) rfl (fun _=>Me (F 27) (F 30) ((b3.toNat:Int)*256) ((b4.toNat:Int)) Z Z Z A A) ?_;refine lV (i:=17) (d:=U 32) (v:=E b) (l':=(bt 23 262143)) rfl (fun _=>Du (F 6) Z Z) ?_;refine lV (i:=18) (d:=U 33) (v:=.int .u8 b9.toNat) (l':=(bt 23 524287)) rfl (fun _=>Dv (F 32) (.const (I Y 9)) b 9 b9 Z Z Z e9) ?_;refine lV (i:=19) (d:=U 34) (v:=I Y b9.toNat) (l':=(bt 23 1048575)) rfl (fun _=>Dw (F 33) b9 Z Z) ?_;refine lV (i:=20) (d:=U 35) (v:=aI #[I Y b0.toNat,I Y b1.toNat,I Y b2.toNat,I Y ((b3.toNat:Int)*256+(b4.toNat:Int)),I Y 0,I Y b9.toNat,E ⟨#[]⟩,K C 0 0]) (l':=(bt 23 2097151)) rfl (fun _=>abX (F 17) (F 20) (F 23) (F 31) (F 34) Z Z Z Z Z Z) ?_;refine Zr (i:=21) (g:=w.heap.size+1) (l':=(bt 23 4194303)) rfl Z Z au (acO Z) Z rfl ?_;refine TM (i:=22) (l':=(bt 23 8388607)) rfl Z Z (acJ zM [I Y (b0.toNat:Int),I Y (b1.toNat:Int),I Y (b2.toNat:Int),I Y ((b3.toNat:Int)*256+(b4.toNat:Int)),I Y 0,I Y (b9.toNat:Int),E ⟨#[]⟩,K C 0 0] (F 7) (F 35) Z Z Z ay rfl rfl (NI)) Z rfl ?_
 obtain ⟨W4, ak⟩ := kC ((W.drew.alloc (aH Jl 136)).setCells (w.heap.size+1) 0 [I Y (b0.toNat:Int),I Y (b1.toNat:Int),I Y (b2.toNat:Int),I Y ((b3.toNat:Int)*256+(b4.toNat:Int)),I Y 0,I Y (b9.toNat:Int),E ⟨#[]⟩,K C 0 0]);have ah:RS w w.heap.size [I Y (b0.toNat:Int),I Y (b1.toNat:Int),I Y (b2.toNat:Int),I Y ((b3.toNat:Int)*256+(b4.toNat:Int)),I Y 0,I Y (b9.toNat:Int),E ⟨#[]⟩,K C 0 0] W4:=by
  have hg:=mY (w.heap.size+1) [I Y (b0.toNat:Int),I Y (b1.toNat:Int),I Y (b2.toNat:Int),I Y ((b3.toNat:Int)*256+(b4.toNat:Int)),I Y 0,I Y (b9.toNat:Int),E ⟨#[]⟩,K C 0 0] 0 _ _ (lJ (W.drew.alloc (aH Jl 136)) (U (w.heap.size+1)));rw [← ak] at hg;refine ⟨by rw [ak];exact ay.stored rfl,(bq.block (kU W.drew _ _ bu)).block (hg.block _ aQ D),?_,(bn.drew.alloc A _).grown hg aQ (fun k hk=>by simp at hk;omega)⟩;have:=hg.size;simp at this;omega
 rw [← ak];clear ak;refine FI (a':=(⟨List.toArray (E s :: E key :: undef :: undef :: aG (U ⟨w.heap.size,0,C⟩) :: aF aK :: E b :: aG (U ⟨w.heap.size+1,0,C⟩) :: undef :: E s :: I Y s.size :: aF (decide ((s.size:Int)<19)) :: undef :: E s :: E b :: E b :: .int .u8 b0.toNat :: I Y b0.toNat :: E b :: .int .u8 b1.toNat :: I Y b1.toNat :: E b :: .int .u8 b2.toNat :: I Y b2.toNat :: E b :: .int .u8 b3.toNat :: I Y b3.toNat :: I Y ((b3.toNat:Int)*256) :: E b :: .int .u8 b4.toNat :: I Y b4.toNat :: I Y ((b3.toNat:Int)*256+(b4.toNat:Int)) :: E b :: .int .u8 b9.toNat :: I Y b9.toNat :: aI #[I Y b0.toNat,I Y b1.toNat,I Y b2.toNat,I Y ((b3.toNat:Int)*256+(b4.toNat:Int)),I Y 0,I Y b9.toNat,E ⟨#[]⟩,K C 0 0] :: undef :: undef :: undef :: undef :: undef :: undef :: undef :: undef :: undef :: undef :: undef :: undef :: undef :: undef :: undef :: undef :: undef :: undef :: undef :: undef :: undef :: undef :: undef :: undef :: undef :: undef :: undef :: undef :: undef :: undef :: undef :: undef :: undef :: undef :: undef :: undef :: undef :: undef :: undef :: undef :: undef :: undef :: undef :: undef :: undef :: []),[]⟩:Act)) Z ?_;refine wpAny_done Z ?_ _;go_upto_region 5 with fail
 refine wp_region_any Z ?_;change wpAny _ _ _ _ _ _ _ (World.drew _);refine FI (a':=(fr (E s :: E key :: undef :: undef :: aG (U ⟨w.heap.size,0,C⟩) :: aF aK :: E b :: aG (U ⟨w.heap.size+1,0,C⟩) :: undef :: E s :: I Y s.size :: aF (decide ((s.size:Int)<19)) :: undef :: E s :: E b :: E b :: .int .u8 b0.toNat :: I Y b0.toNat :: E b :: .int .u8 b1.toNat :: I Y b1.toNat :: E b :: .int .u8 b2.toNat :: I Y b2.toNat :: E b :: .int .u8 b3.toNat :: I Y b3.toNat :: I Y ((b3.toNat:Int)*256) :: E b :: .int .u8 b4.toNat :: I Y b4.toNat :: I Y ((b3.toNat:Int)*256+(b4.toNat:Int)) :: E b :: .int .u8 b9.toNat :: I Y b9.toNat :: aI #[I Y b0.toNat,I Y b1.toNat,I Y b2.toNat,I Y ((b3.toNat:Int)*256+(b4.toNat:Int)),I Y 0,I Y b9.toNat,E ⟨#[]⟩,K C 0 0] :: []) 45)) Z ?_;refine lV (i:=0) (d:=U 36) (v:=E b) (l':=(bt 20 1)) rfl (fun _=>Du (F 6) Z Z) ?_;refine lV (i:=1) (d:=U 37) (v:=.int .u8 b5.toNat) (l':=(bt 20 3)) rfl (fun _=>Dv (F 36) (.const (I Y 5)) b 5 b5 Z Z Z e5) ?_;refine lV (i:=2) (d:=U 38) (v:=I Y b5.toNat) (l':=(bt 20 7)) rfl (fun _=>Dw (F 37) b5 Z Z) ?_;refine lV (i:=3) (d:=U 39) (v:=I Y ((b5.toNat:Int)*16777216)) (l':=(bt 20 15)) rfl (fun _=>LU (F 38) (.const (I Y 16777216)) b5 16777216 Z Z Z A A) ?_;refine lV (i:=4) (d:=U 40) (v:=E b) (l':=(bt 20 31)) rfl (fun _=>Du (F 6) Z Z) ?_;refine lV (i:=5) (d:=U 41) (v:=.int .u8 b6.toNat) (l':=(bt 20 63)) rfl (fun _=>Dv (F 40) (.const (I Y 6)) b 6 b6 Z Z Z e6) ?_;refine lV (i:=6) (d:=U 42) (v:=I Y b6.toNat) (l':=(bt 20 127)) rfl (fun _=>Dw (F 41) b6 Z Z) ?_;refine lV (i:=7) (d:=U 43) (v:=I Y ((b6.toNat:Int)*65536)) (l':=(bt 20 255)) rfl (fun _=>LU (F 42) (.const (I Y 65536)) b6 65536 Z Z Z A A) ?_;refine lV (i:=8) (d:=U 44) (v:=I Y ((b5.toNat:Int)*16777216+(b6.toNat:Int)*65536)) (l':=(bt 20 511)) rfl (fun _=>Me (F 39) (F 43) ((b5.toNat:Int)*16777216) ((b6.toNat:Int)*65536) Z Z Z A A) ?_;refine lV (i:=9) (d:=U 45) (v:=E b) (l':=(bt 20 1023)) rfl (fun _=>Du (F 6) Z Z) ?_;refine lV (i:=10) (d:=U 46) (v:=.int .u8 b7.toNat) (l':=(bt 20 2047)) rfl (fun _=>Dv (F 45) (.const (I Y 7)) b 7 b7 Z Z Z e7) ?_;refine lV (i:=11) (d:=U 47) (v:=I Y b7.toNat) (l':=(bt 20 4095)) rfl (fun _=>Dw (F 46) b7 Z Z) ?_;refine lV (i:=12) (d:=U 48) (v:=I Y ((b7.toNat:Int)*256)) (l':=(bt 20 8191)) rfl (fun _=>LU (F 47) (.const (I Y 256)) b7 256 Z Z Z A A) ?_;refine lV (i:=13) (d:=U 49) (v:=I Y ((b5.toNat:Int)*16777216+(b6.toNat:Int)*65536+(b7.toNat:Int)*256)) (l':=(bt 20 16383)) rfl (fun _=>Me (F 44) (F 48) ((b5.toNat:Int)*16777216+(b6.toNat:Int)*65536) ((b7.toNat:Int)*256) Z Z Z A A) ?_;refine lV (i:=14) (d:=U 50) (v:=E b) (l':=(bt 20 32767)) rfl (fun _=>Du (F 6) Z Z) ?_;refine lV (i:=15) (d:=U 51) (v:=.int .u8 b8.toNat) (l':=(bt 20 65535)) rfl (fun _=>Dv (F 50) (.const (I Y 8)) b 8 b8 Z Z Z e8) ?_;refine lV (i:=16) (d:=U 52) (v:=I Y b8.toNat) (l':=(bt 20 131071)) rfl (fun _=>Dw (F 51) b8 Z Z) ?_;refine lV (i:=17) (d:=U 53) (v:=I Y ((b5.toNat:Int)*16777216+(b6.toNat:Int)*65536+(b7.toNat:Int)*256+(b8.toNat:Int))) (l':=(bt 20 262143)) rfl (fun _=>Me (F 49) (F 52) ((b5.toNat:Int)*16777216+(b6.toNat:Int)*65536+(b7.toNat:Int)*256) ((b8.toNat:Int)) Z Z Z A A) ?_
 refine lV (i:=18) (d:=U 54) (v:=aG (U ⟨w.heap.size+1,4,C⟩)) (l':=(bt 20 524287)) rfl (fun _=>acM (F 7) Z Z) ?_;refine TM (i:=19) (l':=(bt 20 1048575)) rfl Z Z (acK (n:=(b5.toNat:Int)*16777216+(b6.toNat:Int)*65536+(b7.toNat:Int)*256+(b8.toNat:Int)) (p:=⟨w.heap.size+1,4,C⟩) (F 54) (F 53) Z Z Z (ah.m 4 D).1 (ah.m 4 D).2) Z rfl ?_;have T:=(ah.below mD.drew).store (j:=4) D (I Y ((b5.toNat:Int)*16777216+(b6.toNat:Int)*65536+(b7.toNat:Int)*256+(b8.toNat:Int)));simp only [oV,pW] at T;obtain ⟨X, bm⟩ := kC (W4.drew.setCell ⟨w.heap.size+1,4,C⟩ (I Y ((b5.toNat:Int)*16777216+(b6.toNat:Int)*65536+(b7.toNat:Int)*256+(b8.toNat:Int))));rw [← bm] at T ⊢;clear bm ah;refine FI (a':=(⟨List.toArray (E s :: E key :: undef :: undef :: aG (U ⟨w.heap.size,0,C⟩) :: aF aK :: E b :: aG (U ⟨w.heap.size+1,0,C⟩) :: undef :: E s :: I Y s.size :: aF (decide ((s.size:Int)<19)) :: undef :: E s :: E b :: E b :: .int .u8 b0.toNat :: I Y b0.toNat :: E b :: .int .u8 b1.toNat :: I Y b1.toNat :: E b :: .int .u8 b2.toNat :: I Y b2.toNat :: E b :: .int .u8 b3.toNat :: I Y b3.toNat :: I Y ((b3.toNat:Int)*256) :: E b :: .int .u8 b4.toNat :: I Y b4.toNat :: I Y ((b3.toNat:Int)*256+(b4.toNat:Int)) :: E b :: .int .u8 b9.toNat :: I Y b9.toNat :: aI #[I Y b0.toNat,I Y b1.toNat,I Y b2.toNat,I Y ((b3.toNat:Int)*256+(b4.toNat:Int)),I Y 0,I Y b9.toNat,E ⟨#[]⟩,K C 0 0] :: E b :: .int .u8 b5.toNat :: I Y b5.toNat :: I Y ((b5.toNat:Int)*16777216) :: E b :: .int .u8 b6.toNat :: I Y b6.toNat :: I Y ((b6.toNat:Int)*65536) :: I Y ((b5.toNat:Int)*16777216+(b6.toNat:Int)*65536) :: E b :: .int .u8 b7.toNat :: I Y b7.toNat :: I Y ((b7.toNat:Int)*256) :: I Y ((b5.toNat:Int)*16777216+(b6.toNat:Int)*65536+(b7.toNat:Int)*256) :: E b :: .int .u8 b8.toNat :: I Y b8.toNat :: I Y ((b5.toNat:Int)*16777216+(b6.toNat:Int)*65536+(b7.toNat:Int)*256+(b8.toNat:Int)) :: aG (U ⟨w.heap.size+1,4,C⟩) :: undef :: undef :: undef :: undef :: undef :: undef :: undef :: undef :: undef :: undef :: undef :: undef :: undef :: undef :: undef :: undef :: undef :: undef :: undef :: undef :: undef :: undef :: undef :: undef :: undef :: undef :: []),[]⟩:Act)) Z ?_;refine wpAny_done Z ?_ _;go_upto_region 7 with fail
 rw [← cp.out];have bh:(b5.toNat:Int)*16777216+(b6.toNat:Int)*65536+(b7.toNat:Int)*256+(b8.toNat:Int)=nL b5 b6 b7 b8:=by unfold nL;omega
 rw [bh] at T;have aa:RS w w.heap.size [I Y (b0.toNat:Int),I Y (b1.toNat:Int),I Y (b2.toNat:Int),I Y (nE b3 b4),I Y (nL b5 b6 b7 b8),I Y (b9.toNat:Int),E ⟨#[]⟩,K C 0 0] X:=T;have ck:X.cell? ⟨w.heap.size+1,0,C⟩=U (I Y (b0.toNat:Int)):=(T.m 0 D).1;clear e0 e1 e2 e3 e4 e5 e6 e7 e8 e9 bh T ay bq bn au c5 bu r3 r4 r5 r6 r7 r8;by_cases h3:b0.toNat=3
 ·have af:(b0.toNat:Int)=3:=by omega
  have c6:X.cell? ⟨w.heap.size+1,6,C⟩=U (E ⟨#[]⟩):=(aa.m 6 D).1;have f6:X.frozen? ⟨w.heap.size+1,6,C⟩=aK:=(aa.m 6 D).2;have ai:=aa.store (j:=6) D (E rs);simp only [oV,pW] at ai;obtain ⟨W6, ax⟩ := kC (X.setCell ⟨w.heap.size+1,6,C⟩ (E rs));rw [← ax] at ai;have bf:=hid ax;have cb:rs=⟨R.toArray⟩:=by apply ba_eq;rw [bd.out]
  have cn:=hid cb;have H3:=hid h3;clear ax cb aa h3;go_upto_region 12 with fail
  rw [← bf.out];clear ck c6 f6 bf;have bl:kS W6 C 0 0 0 []:=⟨fun h=>absurd h A,rfl,lG _,fun h=>absurd h A,fun j hj=>absurd hj A,D⟩
  obtain ⟨bb,oo,ab⟩:∃ bb oo,kS W6 C bb oo 0 []:=⟨0,0,bl⟩
  clear bl af;obtain ⟨y0,y1,y2,y3,y4,y5,y6,y7⟩:=ER ai.m;go_wp2_with fail
  refine (Hr (b0.toNat:Int) (b1.toNat:Int) (b2.toNat:Int) (nE b3 b4) (nL b5 b6 b7 b8) (b9.toNat:Int) rs C bb oo 0 0 [] key _ ab hk).mono ?_;rintro e' w9 ⟨⟨r,rfl,a⟩,al⟩;have f:=ai.below al;clear y0 y1 y2 y3 y4 y5 y6 y7 ab;have ae:=f.bx;by_cases c:r=s
  ·have HG:=hid (QH (s:=s) bg (by rw [← c];exact a))
   have a6:(r.toList == s.toList)=aN:=by rw [c];exact beq_self_eq_true _
   obtain ⟨y0,y1,y2,y3,y4,y5,y6,y7⟩:=ER f.m;clear c a;go_wp2_with (refine jY rfl 136 (F 4) (F 80) rfl w.heap.size zM [I Y (b0.toNat:Int),I Y (b1.toNat:Int),I Y (b2.toNat:Int),I Y (nE b3 b4),I Y (nL b5 b6 b7 b8),I Y (b9.toNat:Int),E rs,K C 0 0] rfl rfl ae rfl Tryz.sizeMsg (NI) ?_;intro bc z o)
   obtain ⟨k0,k1,L,M,N,P,Q,S⟩:=ER z;refine bodyPost_ret (v:=.tuple #[aI #[I Y (b0.toNat:Int),I Y (b1.toNat:Int),I Y (b2.toNat:Int),I Y (nE b3 b4),I Y (nL b5 b6 b7 b8),I Y (b9.toNat:Int),E rs,K C 0 0],aF aN]) (by simp [results,results85,go_sem,k0,k1,L,M,N,P,Q,S]) rfl ⟨.inr ⟨_,_,_,_,_,_,_,[],_,rfl,HG.out,?_⟩,f.be.grown o (by have:=f.lo;omega) (fun q J=>by simp at J;omega)⟩;exact Own.nil _ _ _
  ·have HN:=hid ((ad9 HL.out H3.out (by rw [← cn.out];exact a)) c)
   have a6:(r.toList == s.toList)=aK:=beq_false_of_ne (fun H=>c (ba_eq (by rw [← Di,← Di];exact H)));clear a;go_wp2_with (refine jY rfl 136 (F 4) (F 79) rfl w.heap.size zM acn rfl rfl ae rfl Tryz.sizeMsg (NI) ?_;intro bc z o)
   obtain ⟨k0,k1,L,M,N,P,Q,S⟩:=ER z;exact bodyPost_ret (v:=.tuple #[aI zM.toArray,aF aK]) (by simp [results,results85,go_sem,zM,k0,k1,L,M,N,P,Q,S]) rfl ⟨.inl ⟨rfl,HN.out⟩,f.be.grown o (by have:=f.lo;omega) (fun q J=>by simp at J;omega)⟩
 ·have af:¬ (b0.toNat:Int)=3:=by omega
  have cx:((b0.toNat:Int) == 3)=aK:=beq_false_of_ne af;go_wp2;have H3:=hid h3;clear af cx h3 ck;go_loopw [8] (fun i wr=>∃ j:Nat,8*j≤R.length∧(∃ r:ByteArray,i=E r∧r.data.toList=R.drop (8*j))∧∃ v,RS w w.heap.size [I Y (b0.toNat:Int),I Y (b1.toNat:Int),I Y (b2.toNat:Int),I Y (nE b3 b4),I Y (nL b5 b6 b7 b8),I Y (b9.toNat:Int),E ⟨#[]⟩,v] wr∧Own (w.heap.size+1+1) wr 1 v j ((chk j R).map E)) (fun i _=>acG i)
  case atStart=>exact ⟨0,lG _,⟨rs,rfl,bd.out⟩,_,aa,Own.nil _ _ _⟩
  case round =>
   obtain ⟨j,hj,⟨r,rfl,a⟩,v,u,V⟩:=hrel;have cc:r.size=R.length - 8*j:=by
    have:r.data.toList.length=r.size:=by { rw [nZ];rfl }
    rw [a,Jy] at this;omega
   have cv:wr.cell? ⟨w.heap.size+1,7,C⟩=U v:=(u.m 7 D).1;have fv:wr.frozen? ⟨w.heap.size+1,7,C⟩=aK:=(u.m 7 D).2;have df:R.length≤1048576:=by have:=ct.out;have:=ch.out;omega
   by_cases h8:8≤r.size
   ·have cw:(8:Int)≤(r.size:Int):=by omega
    have dh:r.size≤9223372036854775807:=A;obtain ⟨y, hy⟩ := kC (r.extract 0 8);have cg:y=⟨((R.drop (8*j)).take 8).toArray⟩:=by apply ba_eq;rw [hy,ext_list,Oe,a]
    obtain ⟨r2, aq⟩ := kC (r.extract 8 r.size);have bz:r2.data.toList=R.drop (8*(j+1)):=by
     rw [aq,ext_list,pF (by rw [nZ];exact kL),a,List.drop_drop,Nat.mul_add]
    have ca:r2.size=r.size - 8:=by rw [aq,RN];omega
    have cf:Src prog 1 23 (K (U ⟨wr.heap.size,0,C⟩) 1 1) 1 [E y] (wr.alloc (aH #[E y] 9)).drew :=
     Own.src (B:=0) (.inr ⟨_,0,1,rfl,kW.made wr.drew 0 9 1 1 1 _ 1 A kL G rfl kL _ rfl _ (.inl rfl)⟩) underlying23 dY
    have aw:=(u.below (mD.alloc kL (aH #[E y] 9))).below mD.drew;have cu:(wr.alloc (aH #[E y] 9)).cell? ⟨w.heap.size+1,7,C⟩=U v:=(aw.m 7 D).1;have a8:=(V.alloc (aH #[E y] 9)).X8;have HY:=hid cg;have cl:=hid bz;clear cg bz a;have cq:=hid ca;have c4:8*(j+1)≤R.length:=A;clear ca cc;subst hy;have cm:=hid aq;clear aq;go_wp2;go_region_law (refine Gh rfl (F 66) (F 69) 23 23 rfl (w.heap.size+1+1) 9 i0 (E ⟨#[]⟩) 1 16 underlying23 hi c8 c9 da rfl v j _ rfl a8 _ 1 [E (r.extract 0 8)] rfl cf G A (by have:=u.lo;simp;omega) ?_;intro v2 w2 an br cy;obtain ⟨a2,c2,rfl⟩:=an.slc;have ag:=aw.grown br a8.ku;have dc:w2.cell? ⟨w.heap.size+1,7,C⟩=U v:=(ag.m 7 D).1;have de:w2.frozen? ⟨w.heap.size+1,7,C⟩=aK:=(ag.m 7 D).2)
    all_goals
     have bk:=ag.store (j:=7) D (K a2 (j+1) c2);simp only [oV,pW] at bk;have bw:=an.grown (lU (lJ w2 (U (w.heap.size+1))) 7 (K a2 (j+1) c2)) (.inr (by intro H;have:=an.ku _ H;omega));rw [show (chk j R).map E ++ [E (r.extract 0 8)]=(chk (j+1) R).map E by rw [aaS,HY.out];simp] at bw;clear ag an br cy cv cf V u aw cu a8;go_wp2;rw [← cm.out];go_roundw
     case rel=>exact ⟨j+1,c4,⟨r2,rfl,cl.out⟩,_,bk,bw⟩
     case measure =>
      have:=cq.out;simp [acG];omega
   ·have cw:¬ (8:Int)≤(r.size:Int):=by omega
    obtain ⟨a7,c7,rfl⟩:=V.slc;obtain ⟨bb,oo,ab⟩:=V.strs (fun s hs=>lH (aaT _ _ s hs) cZ);have cz:R.length<8*j+8:=A;clear cv fv a cc;obtain ⟨y0,y1,y2,y3,y4,y5,y6,y7⟩:=ER u.m;go_wp2_with fail
    refine (Hr (b0.toNat:Int) (b1.toNat:Int) (b2.toNat:Int) (nE b3 b4) (nL b5 b6 b7 b8) (b9.toNat:Int) ⟨#[]⟩ a7 bb oo j c7 (chk j R) key _ ab hk).mono ?_;rintro e' w9 ⟨⟨r,rfl,a⟩,al⟩;have f:=u.below al;clear y0 y1 y2 y3 y4 y5 y6 y7 ab;have ae:=f.bx;by_cases c:r=s
    ·have HG:=hid (QH (s:=s) bg (by rw [← c];exact a))
     have a6:(r.toList == s.toList)=aN:=by rw [c];exact beq_self_eq_true _
     obtain ⟨y0,y1,y2,y3,y4,y5,y6,y7⟩:=ER f.m;clear c a;go_wp2_with (refine jY rfl 136 (F 4) (F 80) rfl w.heap.size zM [I Y (b0.toNat:Int),I Y (b1.toNat:Int),I Y (b2.toNat:Int),I Y (nE b3 b4),I Y (nL b5 b6 b7 b8),I Y (b9.toNat:Int),E ⟨#[]⟩,K a7 j c7] rfl rfl ae rfl Tryz.sizeMsg (NI) ?_;intro bc z o)
     obtain ⟨k0,k1,L,M,N,P,Q,S⟩:=ER z;refine bodyPost_ret (v:=.tuple #[aI #[I Y (b0.toNat:Int),I Y (b1.toNat:Int),I Y (b2.toNat:Int),I Y (nE b3 b4),I Y (nL b5 b6 b7 b8),I Y (b9.toNat:Int),E ⟨#[]⟩,K a7 j c7],aF aN]) (by simp [results,results85,go_sem,k0,k1,L,M,N,P,Q,S]) rfl ⟨.inr ⟨_,_,_,_,_,_,_,(chk j R),_,rfl,HG.out,?_⟩,f.be.grown o (by have:=f.lo;omega) (fun q J=>by simp at J;omega)⟩;rw [Yb];exact ((V.below al kL).grown o (.inr (by intro H;have:=V.ku _ H;omega))).mono' A
    ·have HN:=hid ((aea HL.out H3.out hj cz a) c)
     have a6:(r.toList == s.toList)=aK:=beq_false_of_ne (fun H=>c (ba_eq (by rw [← Di,← Di];exact H)));clear a;go_wp2_with (refine jY rfl 136 (F 4) (F 79) rfl w.heap.size zM acn rfl rfl ae rfl Tryz.sizeMsg (NI) ?_;intro bc z o)
     obtain ⟨k0,k1,L,M,N,P,Q,S⟩:=ER z;exact bodyPost_ret (v:=.tuple #[aI zM.toArray,aF aK]) (by simp [results,results85,go_sem,zM,k0,k1,L,M,N,P,Q,S]) rfl ⟨.inl ⟨rfl,HN.out⟩,f.be.grown o (by have:=f.lo;omega) (fun q J=>by simp at J;omega)⟩
theorem KH (s key:ByteArray) (c:key.size≤maxLen) (hm:s.size≤1048576) :
  Calls prog 85 #[E s,E key] w fun a w'=>Vj a w w' s key∧Below w.heap.size w w':=by
 by_cases h:s.size<19
 ·exact Xn s key w h
 ·exact Xm s key w c hm A
end Go.Proofs.YtfkkipgcfoegmaaGreat
