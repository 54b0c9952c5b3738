
import Derived.Test.YtfkkipgcfoegmaaGreatQWlb
set_option maxHeartbeats 4000000
set_option maxRecDepth 100000
namespace Go.Proofs.YtfkkipgcfoegmaaGreat
open Go.Proofs.Tryz
open Go.Value renaming slice→K,string→E,bool→aF,pointer→aG,agg→aI
open Option renaming none→C,some→U
open Go.Operand renaming tmp→F
open Go.Obj renaming cells→aH
open Bool renaming false→aK
open Go.Value renaming int→I
open Go.IntKind renaming i64→Y
open Go.RowKit
variable {B b c c' ca cap cb g n n' n1 n2 nj no nr:Nat} {J:List Tr} {a a' a1 a2:Option Addr} {o:Oper} {v:Value} {w w' w1 w2:World} {xs:List Value} {y:Option Nat} {ρ:Operand→Value}
def c3 (J:List Tr):List Value:=J.flatMap fun x=>[I Y x.1,I Y x.2.1,I Y x.2.2]
def c2 (S:List (Bool × Int)):List Value:=S.flatMap fun x=>[aF x.1,I Y x.2]
theorem qp (J:List Tr):(c3 J).length=J.length*3:=by
 induction J with
 | nil=>rfl
 | cons x r ih=>simp only [c3,FD,lD,pX] at ih ⊢;rw [ih];simp;omega
theorem qw (J:List (Bool × Int)):(c2 J).length=J.length*2:=by
 induction J with
 | nil=>rfl
 | cons x r ih=>simp only [c2,FD,lD,pX] at ih ⊢;rw [ih];simp;omega
theorem oW (J:List Tr):∀ (j r:Nat),j<J.length→r<3→(c3 J)[j*3+r]?=[I Y (t3 J j).1,I Y (t3 J j).2.1,I Y (t3 J j).2.2][r]?:=by
 induction J with
 | nil=>intro j r h;simp at h
 | cons x t ih =>
  intro j r a c;have e:c3 (x :: t)=[I Y x.1,I Y x.2.1,I Y x.2.2] ++ c3 t:=rfl;rw [e];cases j with
  | zero=>rw [nO aQ,RH,ny];rfl
  | succ j=>rw [qP aQ,show (j+1)*3+r - [I Y x.1,I Y x.2.1,I Y x.2.2].length=j*3+r by simp;omega,ih j r (by simpa using a) c];simp [t3]
theorem uy (J:List (Bool × Int)):∀ (j r:Nat),j<J.length→r<2→(c2 J)[j*2+r]?=[aF (t2 J j).1,I Y (t2 J j).2][r]?:=by
 induction J with
 | nil=>intro j r h;simp at h
 | cons x t ih =>
  intro j r a c;have e:c2 (x :: t)=[aF x.1,I Y x.2] ++ c2 t:=rfl;rw [e];cases j with
  | zero=>rw [nO aQ,RH,ny];rfl
  | succ j=>rw [qP aQ,show (j+1)*2+r - [aF x.1,I Y x.2].length=j*2+r by simp;omega,ih j r (by simpa using a) c];simp [t2]
theorem Yc (k:xs.length=J.length*3) (h:∀ j,j<J.length→xs[j*3]?=U (I Y (t3 J j).1)∧xs[j*3+1]?=U (I Y (t3 J j).2.1)∧xs[j*3+2]?=U (I Y (t3 J j).2.2)):xs=c3 J:=by
 apply LG;intro i;by_cases hi:i<J.length*3
 ·obtain ⟨a,c,d⟩:=h (i / 3) A
  have g:i % 3=0∨i % 3=1∨i % 3=2:=A;have f:=oW J (i / 3) (i % 3) A A;rw [show i / 3*3+i % 3=i by omega] at f;rw [f];rcases g with e | e | e
  ·rw [show i / 3*3=i by omega] at a;rw [a,e];rfl
  ·rw [show i / 3*3+1=i by omega] at c;rw [c,e];rfl
  ·rw [show i / 3*3+2=i by omega] at d;rw [d,e];rfl
 ·rw [DL A,DL fD]
theorem SG {J:List (Bool × Int)} (g:xs.length=J.length*2) (h:∀ j,j<J.length→xs[j*2]?=U (aF (t2 J j).1)∧xs[j*2+1]?=U (I Y (t2 J j).2)):xs=c2 J:=by
 apply LG;intro i;by_cases hi:i<J.length*2
 ·obtain ⟨a,c⟩:=h (i / 2) A
  have f:i % 2=0∨i % 2=1:=A;have d:=uy J (i / 2) (i % 2) A A;rw [show i / 2*2+i % 2=i by omega] at d;rw [d];rcases f with e | e
  ·rw [show i / 2*2=i by omega] at a;rw [a,e];rfl
  ·rw [show i / 2*2+1=i by omega] at c;rw [c,e];rfl
 ·rw [DL A,DL (by rw [qw];omega)]
def EU (J:List Tr):Prop:=∀ j,j<J.length→I64 (t3 J j).1∧I64 (t3 J j).2.1∧I64 (t3 J j).2.2
def F6 (J:List (Bool × Int)):Prop:=∀ j,j<J.length→I64 (t2 J j).2
theorem qZ.Au {o:Nat} (h:kW B w 3 g o cap n (c3 J)) (c:EU J):qZ w (U ⟨g,o,C⟩) g o n J:=by
 have d:J.length=n:=by have:=h.len;rw [qp] at this;omega
 refine ⟨fun _=>rfl,d,lH h.le h.max,fun _=>h.hi,fun j a=>?_,fun j a=>?_,fun j a=>?_,fun j a=>c j A⟩
 ·have:=h.holds (j*3+0) A;rw [oW J j 0 A A] at this;exact this
 ·have:=h.holds (j*3+1) A;rw [oW J j 1 A A] at this;rw [nS];exact this
 ·have:=h.holds (j*3+2) A;rw [oW J j 2 A A] at this;rw [nS];exact this
theorem Ag.Au {o:Nat} {J:List (Bool × Int)} (h:kW B w 2 g o cap n (c2 J)) (c:F6 J):Ag w (U ⟨g,o,C⟩) g o n J:=by
 have d:J.length=n:=by have:=h.len;rw [qw] at this;omega
 refine ⟨fun _=>rfl,d,lH h.le h.max,fun _=>h.hi,fun j a=>?_,fun j a=>?_,fun j a=>c j A⟩
 ·have:=h.holds (j*2+0) A;rw [uy J j 0 A A] at this;exact this
 ·have:=h.holds (j*2+1) A;rw [uy J j 1 A A] at this;rw [nS];exact this
theorem Own.ZA (h:Own B w 3 (K a n c) n (c3 J)) (k:EU J):∃ b o,qZ w a b o n J∧(0<n→B≤b):=by
 rcases h with ⟨e,rfl,l⟩ | ⟨g,o,cap,e,i⟩
 ·injection e with f _ _
  have:J=[]:=oH (by have:=congrArg List.length l;rw [qp,qJ] at this;omega);subst this;exact ⟨0,0,⟨fun h=>absurd h A,rfl,lG _,fun h=>absurd h A,fun j d=>absurd d A,fun j d=>absurd d A,fun j d=>absurd d A,fun j d=>absurd d A⟩,fun h=>absurd h A⟩
 ·injection e with f _ _
  subst f;exact ⟨g,o,qZ.Au i k,fun _=>i.lo⟩
theorem Own.acF {J:List (Bool × Int)} (h:Own B w 2 (K a n c) n (c2 J)) (k:F6 J):∃ b o,Ag w a b o n J∧(0<n→B≤b):=by
 rcases h with ⟨e,rfl,l⟩ | ⟨g,o,cap,e,i⟩
 ·injection e with f _ _
  have:J=[]:=oH (by have:=congrArg List.length l;rw [qw,qJ] at this;omega);subst this;exact ⟨0,0,⟨fun h=>absurd h A,rfl,lG _,fun h=>absurd h A,fun j d=>absurd d A,fun j d=>absurd d A,fun j d=>absurd d A⟩,fun h=>absurd h A⟩
 ·injection e with f _ _
  subst f;exact ⟨g,o,Ag.Au i k,fun _=>i.lo⟩
structure Grew (rows:List (Option Nat)) (w w':World):Prop where
 size:w.heap.size≤w'.heap.size
 block:∀ q,q<w.heap.size→(∀ r∈rows,r≠U q)→w'.heap[q]?=w.heap[q]?
 os:w'.os=w.os
 tape:w'.tape=w.tape
 output:w'.output=w.output
theorem Grew.of {r:Option Nat} (h:w.grownBy w' r):Grew [r] w w':=⟨h.size,fun q a c=>h.block q a (fun e=>c r D e.symm),h.os,h.tape,h.output⟩
theorem Grew.step {rows s:List (Option Nat)} (h:Grew rows w w1) (a:Grew s w1 w2) (e:∀ r∈s,r∈rows):Grew rows w w2 :=
 ⟨lH h.1 a.1,fun q d c=>(a.2 q (by have:=h.1;omega) (fun r hm=>c r (e r hm))).trans (h.2 q d c),a.os.trans h.os,a.tape.trans h.tape,a.output.trans h.output⟩
theorem Grew.below {rows:List (Option Nat)} (h:Below B w w1) (a:Grew rows w1 w2) (f:B≤w1.heap.size) (d:∀ r∈rows,∀ q,r=U q→B≤q):Below B w w2 :=
 ⟨a.os.trans h.os,a.tape.trans h.tape,a.output.trans h.output,lH h.size a.size,fun k c=>(a.block k A (fun r hm e=>by have:=d r hm k e;omega)).trans (h.block k c)⟩
def Dj (x y:Option Nat):Prop:=x=C∨x≠y
theorem Dj.symm {x:Option Nat} (h:Dj x y):Dj y x:=by
 rcases h with rfl | h
 ·cases y with
  | none=>exact .inl rfl
  | some q=>exact .inr D
 ·exact .inr (fun e=>h e.symm)
theorem qZ.cells {o:Nat} (h:qZ w a b o n J) (i:Nat) (u:Value) (hu:(c3 J)[i]?=U u):w.cell? ⟨b,o+i,C⟩=U u:=by
 have hi:i<J.length*3:=by have:=(List.getElem?_eq_some_iff.1 hu).1;rw [qp] at this;exact this
 have g:=h.len;have d:=oW J (i / 3) (i % 3) A A;rw [show i / 3*3+i % 3=i by omega] at d;have f:i % 3=0∨i % 3=1∨i % 3=2:=A;rcases f with e | e | e
 ·have c:=h.c0 (i / 3) A
  rw [show o+i / 3*3=o+i by omega] at c;rw [e] at d;rw [c,← hu,d];rfl
 ·have c:=h.c1 (i / 3) A
  rw [show o+i / 3*3+1=o+i by omega] at c;rw [e] at d;rw [c,← hu,d];rfl
 ·have c:=h.c2 (i / 3) A
  rw [show o+i / 3*3+2=o+i by omega] at c;rw [e] at d;rw [c,← hu,d];rfl
theorem ads (J:List Tr):∀ u∈c3 J,u.oneCell'=true:=fun u hu=>by
 obtain ⟨x,_,a⟩:=List.mem_flatMap.1 hu;simp only [mG,mF,or_false] at a;rcases a with rfl | rfl | rfl <;> rfl
theorem qZ.src {o:Nat} (h:qZ w a b o n J) (tx e:TypeId) (d:prog.underlying tx=U (.slice e)) (c:Nat):Src prog 3 tx (K a n c) n (c3 J) w:=by
 have go:∀ y:Addr,(0<n→y=⟨b,o,C⟩)→Src prog 3 tx (K (U y) n c) n (c3 J) w:=fun y k=>by
  refine Src.ofSlice w d y n c _ (by rw [qp,h.len]) (fun j u hu=>?_) (ads J);have l:j<J.length*3:=by have:=(List.getElem?_eq_some_iff.1 hu).1;rw [qp] at this;exact this
  have p:=h.len;rw [k A,Addr.add_lit];exact h.cells j u hu
 cases a with
 | none =>
  have f:n=0:=LD fun g=>by have:=h.ad g;cases this
  subst f;have:J=[]:=oH h.len;subst this;exact Src.ofNil w d c
 | some y=>exact go y (fun i=>by have:=h.ad i;injection this)
theorem Ag.cells {o:Nat} {J:List (Bool × Int)} (h:Ag w a b o n J) (i:Nat) (u:Value) (hu:(c2 J)[i]?=U u):w.cell? ⟨b,o+i,C⟩=U u:=by
 have hi:i<J.length*2:=by have:=(List.getElem?_eq_some_iff.1 hu).1;rw [qw] at this;exact this
 have g:=h.len;have d:=uy J (i / 2) (i % 2) A A;rw [show i / 2*2+i % 2=i by omega] at d;have f:i % 2=0∨i % 2=1:=A;rcases f with e | e
 ·have c:=h.c0 (i / 2) A
  rw [show o+i / 2*2=o+i by omega] at c;rw [e] at d;rw [c,← hu,d];rfl
 ·have c:=h.c1 (i / 2) A
  rw [show o+i / 2*2+1=o+i by omega] at c;rw [e] at d;rw [c,← hu,d];rfl
theorem adt (J:List (Bool × Int)):∀ u∈c2 J,u.oneCell'=true:=fun u hu=>by
 obtain ⟨x,_,a⟩:=List.mem_flatMap.1 hu;simp only [mG,mF,or_false] at a;rcases a with rfl | rfl <;> rfl
theorem Ag.src {o:Nat} {J:List (Bool × Int)} (h:Ag w a b o n J) (tx e:TypeId) (d:prog.underlying tx=U (.slice e)) (c:Nat):Src prog 2 tx (K a n c) n (c2 J) w:=by
 have go:∀ y:Addr,(0<n→y=⟨b,o,C⟩)→Src prog 2 tx (K (U y) n c) n (c2 J) w:=fun y k=>by
  refine Src.ofSlice w d y n c _ (by rw [qw,h.len]) (fun j u hu=>?_) (adt J);have l:j<J.length*2:=by have:=(List.getElem?_eq_some_iff.1 hu).1;rw [qw] at this;exact this
  have p:=h.len;rw [k A,Addr.add_lit];exact h.cells j u hu
 cases a with
 | none =>
  have f:n=0:=LD fun g=>by have:=h.ad g;cases this
  subst f;have:J=[]:=oH h.len;subst this;exact Src.ofNil w d c
 | some y=>exact go y (fun i=>by have:=h.ad i;injection this)
def zB:List Value:=[I Y 0,aF aK,I Y 0,I Y 0,I Y 0,I Y 0,K C 0 0,K C 0 0,K C 0 0,K C 0 0,K C 0 0,K C 0 0]
theorem Tryz.sizeBo:(prog.info? 30).map (·.size)=U 12:=Z
theorem Tryz.infoSt:(prog.info? 9).map (fun i=>(i.zero,i.size,i.bytes))=U (U (E ⟨#[]⟩),1,16):=Z
theorem Tryz.infoJb:(prog.info? 61).map (fun i=>(i.zero,i.size,i.bytes))=U (U (aI rV),3,24):=Z
theorem Tryz.infoSe:(prog.info? 54).map (fun i=>(i.zero,i.size,i.bytes))=U (U (aI #[aF aK,I Y 0]),2,16):=Z
theorem Tryz.infoOw:(prog.info? 56).map (fun i=>(i.zero,i.size,i.bytes))=U (U (aI rV),3,24):=Z
theorem nP {wk:Int} {up:Bool} {now sn ep gv:Int} {a0 a3 a4 a5:Option Addr} {n0 c0 c1 c2 e c3 f c g d:Nat}:∀ v∈[I Y wk,aF up,I Y now,I Y sn,I Y ep,I Y gv,K a0 n0 c0,K a1 n1 c1,K a2 n2 c2,K a3 e c3,K a4 f c,K a5 g d],v.oneCell'=true:=by
 intro v a;simp only [mG,mF,or_false] at a;rcases a with rfl | rfl | rfl | rfl | rfl | rfl | rfl | rfl | rfl | rfl | rfl | rfl <;> rfl
theorem Dj.new {x:Option Nat} {m:Nat} (a:∀ q,x=U q→q<m) (c:y=C∨y=U m):Dj x y:=by
 cases x with
 | none=>exact .inl rfl
 | some q =>
  refine .inr ?_;have:=a q rfl;rcases c with rfl | rfl
  ·simp
  ·intro e;injection e with e;omega
theorem none_lt {q:Nat}:U q≠(K C 0 0).ownBlock:=by simp [Value.ownBlock]
theorem Ll (wk:Int) (up:Bool) (now sn ep gv:Int) (a1 a2 ar aj az ao:Option Addr) (b1 o1:Nat) (ca b2 o2:Nat) (cb br or':Nat) (cr bj oj:Nat) (cj bs c6:Nat) {f:Nat} (cs bo oo:Nat) (co:Nat) (L1 L2 R:List ByteArray) (J:List Tr) (S:List (Bool × Int)) (a6:List Tr) (h0:kS w a1 b1 o1 n1 L1) (h1:kS w a2 b2 o2 n2 L2) (h2:kS w ar br or' nr R) (h3:qZ w aj bj oj nj J) (h4:Ag w az bs c6 f S) (h5:qZ w ao bo oo no a6) (m0:n1≤1048576) (m1:n2≤1048576) (m2:nr≤1048576) (m3:nj≤1048576) (m4:f≤1048576) (m5:no≤1048576) :
  Calls prog 30 #[aI #[I Y wk,aF up,I Y now,I Y sn,I Y ep,I Y gv,K a1 n1 ca,K a2 n2 cb,K ar nr cr,K aj nj cj,K az f cs,K ao no co]] w fun e w'=>∃ k l o r u z H L M N P Q,e=.returned (aI #[I Y wk,aF up,I Y now,I Y sn,I Y ep,I Y gv,K k n1 l,K o n2 r,K u nr z,K H nj L,K M f N,K P no Q])∧(Own w.heap.size w' 1 (K k n1 l) n1 (L1.map E)∧Own w.heap.size w' 1 (K o n2 r) n2 (L2.map E)∧Own w.heap.size w' 1 (K u nr z) nr (R.map E)∧Own w.heap.size w' 3 (K H nj L) nj (c3 J)∧Own w.heap.size w' 2 (K M f N) f (c2 S)∧Own w.heap.size w' 3 (K P no Q) no (c3 a6))∧List.Pairwise Dj [(K k n1 l).ownBlock,(K o n2 r).ownBlock,(K u nr z).ownBlock,(K H nj L).ownBlock,(K M f N).ownBlock,(K P no Q).ownBlock]∧Below w.heap.size w w':=by
 obtain ⟨i0,bf,bg,bh,bk⟩:=info_parts Tryz.infoSt;obtain ⟨i3,cl,cp,cq,ct⟩:=info_parts Tryz.infoJb;obtain ⟨i4,cm,cu,cv,cw⟩:=info_parts Tryz.infoSe;obtain ⟨i5,cn,cx,cy,cz⟩:=info_parts Tryz.infoOw;obtain ⟨W, hW⟩ := kC ((w.alloc (aH #[I Y wk,aF up,I Y now,I Y sn,I Y ep,I Y gv,K a1 n1 ca,K a2 n2 cb,K ar nr cr,K aj nj cj,K az f cs,K ao no co] 30)).alloc (aH ni 30));have B0:Below w.heap.size w W:=jT;have z0:w.heap.size+2≤W.heap.size:=dF;have P0:CF W w.heap.size [I Y wk,aF up,I Y now,I Y sn,I Y ep,I Y gv,K a1 n1 ca,K a2 n2 cb,K ar nr cr,K aj nj cj,K az f cs,K ao no co]:=by
  rw [hW];exact (CF.made w #[I Y wk,aF up,I Y now,I Y sn,I Y ep,I Y gv,K a1 n1 ca,K a2 n2 cb,K ar nr cr,K aj nj cj,K az f cs,K ao no co] 30).block (kU _ _ _ D)
 have R0:CF W (w.heap.size+1) zB:=by
  rw [hW];have:=CF.made (w.alloc (aH #[I Y wk,aF up,I Y now,I Y sn,I Y ep,I Y gv,K a1 n1 ca,K a2 n2 cb,K ar nr cr,K aj nj cj,K az f cs,K ao no co] 30)) ni 30;simpa [zB] using this
 have HW:=hid hW;clear hW;go_enter func30,ntmps30
 go_upto_region 1 with fail
 rw [← HW.out];clear HW;have y:W.cell? ⟨w.heap.size,6,C⟩=U (K a1 n1 ca):=(P0 6 D).1;have X:Src prog 1 23 (K a1 n1 ca) n1 (L1.map E) W:=(h0.below' B0).IV ca;go_upto_region 2 with (at_builtin;refine kT _ rfl _ _ 23 23 rfl (w.heap.size+2) 9 i0 (E ⟨#[]⟩) 1 16 underlying23 bf bg bh bk rfl (K C 0 0) 0 [] rfl (Own.nil _ _ _) _ n1 _ rfl X G A z0 ?_;intro v0 u0 d c i;rw [ny,oG] at d;obtain ⟨k,l,rfl⟩:=d.slc;have g:=P0.block (c.block w.heap.size A none_lt);have V:=R0.block (c.block (w.heap.size+1) A none_lt);have T:=below_grown B0 c A (fun q h=>by cases h);have yu:u0.cell? ⟨w.heap.size,6,C⟩=U (K a1 n1 ca):=(g 6 D).1;have fu:u0.frozen? ⟨w.heap.size,6,C⟩=aK:=(g 6 D).2;have zu:w.heap.size+2≤u0.heap.size:=lH z0 c.size)
 have P1:=g.set (j:=6) D (K k n1 l);simp only [oV,pW] at P1;have gs:=lU (lJ u0 (U w.heap.size)) 6 (K k n1 l);have R1:=V.block (nK u0 (⟨w.heap.size,6,C⟩:Addr) (K k n1 l) (w.heap.size+1) aT);have B1:=T.setCell (p:=⟨w.heap.size,6,C⟩) aT (K k n1 l);have z1:w.heap.size+2≤(u0.setCell ⟨w.heap.size,6,C⟩ (K k n1 l)).heap.size:=bY;have ab:=d.grown gs (.inr dP);obtain ⟨V1, a7⟩ := kC (u0.setCell ⟨w.heap.size,6,C⟩ (K k n1 l));rw [← a7] at P1 R1 B1 z1 ab;rw [← a7];clear a7 y X yu fu zu g V T gs d c i P0 R0 B0 z0 ;have y:V1.cell? ⟨w.heap.size,7,C⟩=U (K a2 n2 cb):=(P1 7 D).1;have X:Src prog 1 23 (K a2 n2 cb) n2 (L2.map E) V1:=(h1.below' B1).IV cb;go_upto_region 3 with (at_builtin;refine kT _ rfl _ _ 23 23 rfl (w.heap.size+2) 9 i0 (E ⟨#[]⟩) 1 16 underlying23 bf bg bh bk rfl (K C 0 0) 0 [] rfl (Own.nil _ _ _) _ n2 _ rfl X G A z1 ?_;intro v1 u1 d c i;rw [ny,oG] at d;obtain ⟨o,r,rfl⟩:=d.slc;have g:=P1.block (c.block w.heap.size A none_lt);have V:=R1.block (c.block (w.heap.size+1) A none_lt);have T:=below_grown B1 c A (fun q h=>by cases h);have yu:u1.cell? ⟨w.heap.size,7,C⟩=U (K a2 n2 cb):=(g 7 D).1;have fu:u1.frozen? ⟨w.heap.size,7,C⟩=aK:=(g 7 D).2;have zu:w.heap.size+2≤u1.heap.size:=lH z1 c.size)
 have P2:=g.set (j:=7) D (K o n2 r);simp only [oV,pW] at P2;have gs:=lU (lJ u1 (U w.heap.size)) 7 (K o n2 r);have R2:=V.block (nK u1 (⟨w.heap.size,7,C⟩:Addr) (K o n2 r) (w.heap.size+1) aT);have B2:=T.setCell (p:=⟨w.heap.size,7,C⟩) aT (K o n2 r);have z2:w.heap.size+2≤(u1.setCell ⟨w.heap.size,7,C⟩ (K o n2 r)).heap.size:=bY;have ai:=d.grown gs (.inr dP);have bw:Hid (Dj (K k n1 l).ownBlock (K o n2 r).ownBlock):=Dj.new ab.kD i;have ae:=(ab.grown c (by cases h:(K k n1 l).ownBlock with | none=>exact .inl rfl | some q=>exact .inr (fun a=>fU))).grown gs (.inr (by intro a;have:=ab.ku _ a;omega));obtain ⟨V2, a8⟩ := kC (u1.setCell ⟨w.heap.size,7,C⟩ (K o n2 r));rw [← a8] at P2 R2 B2 z2 ae ai;rw [← a8];clear a8 y X yu fu zu g V T gs d c i P1 R1 B1 z1 ab;have y:V2.cell? ⟨w.heap.size,8,C⟩=U (K ar nr cr):=(P2 8 D).1;have X:Src prog 1 23 (K ar nr cr) nr (R.map E) V2:=(h2.below' B2).IV cr;go_upto_region 4 with (at_builtin;refine kT _ rfl _ _ 23 23 rfl (w.heap.size+2) 9 i0 (E ⟨#[]⟩) 1 16 underlying23 bf bg bh bk rfl (K C 0 0) 0 [] rfl (Own.nil _ _ _) _ nr _ rfl X G A z2 ?_;intro v2 u2 d c i;rw [ny,oG] at d;obtain ⟨u,z,rfl⟩:=d.slc;have g:=P2.block (c.block w.heap.size A none_lt);have V:=R2.block (c.block (w.heap.size+1) A none_lt);have T:=below_grown B2 c A (fun q h=>by cases h);have yu:u2.cell? ⟨w.heap.size,8,C⟩=U (K ar nr cr):=(g 8 D).1;have fu:u2.frozen? ⟨w.heap.size,8,C⟩=aK:=(g 8 D).2;have zu:w.heap.size+2≤u2.heap.size:=lH z2 c.size)
 have P3:=g.set (j:=8) D (K u nr z);simp only [oV,pW] at P3;have gs:=lU (lJ u2 (U w.heap.size)) 8 (K u nr z);have R3:=V.block (nK u2 (⟨w.heap.size,8,C⟩:Addr) (K u nr z) (w.heap.size+1) aT);have B3:=T.setCell (p:=⟨w.heap.size,8,C⟩) aT (K u nr z);have z3:w.heap.size+2≤(u2.setCell ⟨w.heap.size,8,C⟩ (K u nr z)).heap.size:=bY;have aq:=d.grown gs (.inr dP);have bz:Hid (Dj (K k n1 l).ownBlock (K u nr z).ownBlock):=Dj.new ae.kD i;have af:=(ae.grown c (by cases h:(K k n1 l).ownBlock with | none=>exact .inl rfl | some q=>exact .inr (fun a=>fU))).grown gs (.inr (by intro a;have:=ae.ku _ a;omega));have b5:Hid (Dj (K o n2 r).ownBlock (K u nr z).ownBlock):=Dj.new ai.kD i;have ak:=(ai.grown c (by cases h:(K o n2 r).ownBlock with | none=>exact .inl rfl | some q=>exact .inr (fun a=>fU))).grown gs (.inr (by intro a;have:=ai.ku _ a;omega));obtain ⟨V3, ba⟩ := kC (u2.setCell ⟨w.heap.size,8,C⟩ (K u nr z));rw [← ba] at P3 R3 B3 z3 af ak aq;rw [← ba];clear ba y X yu fu zu g V T gs d c i P2 R2 B2 z2 ae ai;have y:V3.cell? ⟨w.heap.size,9,C⟩=U (K aj nj cj):=(P3 9 D).1;have X:Src prog 3 26 (K aj nj cj) nj (c3 J) V3:=(h3.below' B3).src 26 61 underlying26 cj;go_upto_region 5 with (at_builtin;refine kT _ rfl _ _ 26 26 rfl (w.heap.size+2) 61 i3 (aI rV) 3 24 underlying26 cl cp cq ct rfl (K C 0 0) 0 [] rfl (Own.nil _ _ _) _ nj _ rfl X G A z3 ?_;intro v3 u3 d c i;rw [ny,oG] at d;obtain ⟨H,L,rfl⟩:=d.slc;have g:=P3.block (c.block w.heap.size A none_lt);have V:=R3.block (c.block (w.heap.size+1) A none_lt);have T:=below_grown B3 c A (fun q h=>by cases h);have yu:u3.cell? ⟨w.heap.size,9,C⟩=U (K aj nj cj):=(g 9 D).1;have fu:u3.frozen? ⟨w.heap.size,9,C⟩=aK:=(g 9 D).2;have zu:w.heap.size+2≤u3.heap.size:=lH z3 c.size)
 have P4:=g.set (j:=9) D (K H nj L);simp only [oV,pW] at P4;have gs:=lU (lJ u3 (U w.heap.size)) 9 (K H nj L);have R4:=V.block (nK u3 (⟨w.heap.size,9,C⟩:Addr) (K H nj L) (w.heap.size+1) aT);have B4:=T.setCell (p:=⟨w.heap.size,9,C⟩) aT (K H nj L);have z4:w.heap.size+2≤(u3.setCell ⟨w.heap.size,9,C⟩ (K H nj L)).heap.size:=bY;have aw:=d.grown gs (.inr dP);have b0:Hid (Dj (K k n1 l).ownBlock (K H nj L).ownBlock):=Dj.new af.kD i;have ag:=(af.grown c (by cases h:(K k n1 l).ownBlock with | none=>exact .inl rfl | some q=>exact .inr (fun a=>fU))).grown gs (.inr (by intro a;have:=af.ku _ a;omega));have b6:Hid (Dj (K o n2 r).ownBlock (K H nj L).ownBlock):=Dj.new ak.kD i;have al:=(ak.grown c (by cases h:(K o n2 r).ownBlock with | none=>exact .inl rfl | some q=>exact .inr (fun a=>fU))).grown gs (.inr (by intro a;have:=ak.ku _ a;omega));have b9:Hid (Dj (K u nr z).ownBlock (K H nj L).ownBlock):=Dj.new aq.kD i;have au:=(aq.grown c (by cases h:(K u nr z).ownBlock with | none=>exact .inl rfl | some q=>exact .inr (fun a=>fU))).grown gs (.inr (by intro a;have:=aq.ku _ a;omega));obtain ⟨V4, bb⟩ := kC (u3.setCell ⟨w.heap.size,9,C⟩ (K H nj L));rw [← bb] at P4 R4 B4 z4 ag al au aw;rw [← bb];clear bb y X yu fu zu g V T gs d c i P3 R3 B3 z3 af ak aq;have y:V4.cell? ⟨w.heap.size,10,C⟩=U (K az f cs):=(P4 10 D).1;have X:Src prog 2 27 (K az f cs) f (c2 S) V4:=(h4.below' B4).src 27 54 underlying27 cs;go_upto_region 6 with (at_builtin;refine kT _ rfl _ _ 27 27 rfl (w.heap.size+2) 54 i4 (aI #[aF aK,I Y 0]) 2 16 underlying27 cm cu cv cw rfl (K C 0 0) 0 [] rfl (Own.nil _ _ _) _ f _ rfl X G A z4 ?_;intro v4 u4 d c i;rw [ny,oG] at d;obtain ⟨M,N,rfl⟩:=d.slc;have g:=P4.block (c.block w.heap.size A none_lt);have V:=R4.block (c.block (w.heap.size+1) A none_lt);have T:=below_grown B4 c A (fun q h=>by cases h);have yu:u4.cell? ⟨w.heap.size,10,C⟩=U (K az f cs):=(g 10 D).1;have fu:u4.frozen? ⟨w.heap.size,10,C⟩=aK:=(g 10 D).2;have zu:w.heap.size+2≤u4.heap.size:=lH z4 c.size)
 have P5:=g.set (j:=10) D (K M f N);simp only [oV,pW] at P5;have gs:=lU (lJ u4 (U w.heap.size)) 10 (K M f N);have R5:=V.block (nK u4 (⟨w.heap.size,10,C⟩:Addr) (K M f N) (w.heap.size+1) aT);have B5:=T.setCell (p:=⟨w.heap.size,10,C⟩) aT (K M f N);have z5:w.heap.size+2≤(u4.setCell ⟨w.heap.size,10,C⟩ (K M f N)).heap.size:=bY;have ay:=d.grown gs (.inr dP);have b3:Hid (Dj (K k n1 l).ownBlock (K M f N).ownBlock):=Dj.new ag.kD i;have ah:=(ag.grown c (by cases h:(K k n1 l).ownBlock with | none=>exact .inl rfl | some q=>exact .inr (fun a=>fU))).grown gs (.inr (by intro a;have:=ag.ku _ a;omega));have b7:Hid (Dj (K o n2 r).ownBlock (K M f N).ownBlock):=Dj.new al.kD i;have an:=(al.grown c (by cases h:(K o n2 r).ownBlock with | none=>exact .inl rfl | some q=>exact .inr (fun a=>fU))).grown gs (.inr (by intro a;have:=al.ku _ a;omega));have cc:Hid (Dj (K u nr z).ownBlock (K M f N).ownBlock):=Dj.new au.kD i;have av:=(au.grown c (by cases h:(K u nr z).ownBlock with | none=>exact .inl rfl | some q=>exact .inr (fun a=>fU))).grown gs (.inr (by intro a;have:=au.ku _ a;omega));have cf:Hid (Dj (K H nj L).ownBlock (K M f N).ownBlock):=Dj.new aw.kD i;have ax:=(aw.grown c (by cases h:(K H nj L).ownBlock with | none=>exact .inl rfl | some q=>exact .inr (fun a=>fU))).grown gs (.inr (by intro a;have:=aw.ku _ a;omega));obtain ⟨V5, bc⟩ := kC (u4.setCell ⟨w.heap.size,10,C⟩ (K M f N));rw [← bc] at P5 R5 B5 z5 ah an av ax ay;rw [← bc];clear bc y X yu fu zu g V T gs d c i P4 R4 B4 z4 ag al au aw;have y:V5.cell? ⟨w.heap.size,11,C⟩=U (K ao no co):=(P5 11 D).1;have X:Src prog 3 28 (K ao no co) no (c3 a6) V5:=(h5.below' B5).src 28 56 underlying28 co;go_upto_region 7 with (at_builtin;refine kT _ rfl _ _ 28 28 rfl (w.heap.size+2) 56 i5 (aI rV) 3 24 underlying28 cn cx cy cz rfl (K C 0 0) 0 [] rfl (Own.nil _ _ _) _ no _ rfl X G A z5 ?_;intro v5 u5 d c i;rw [ny,oG] at d;obtain ⟨P,Q,rfl⟩:=d.slc;have g:=P5.block (c.block w.heap.size A none_lt);have V:=R5.block (c.block (w.heap.size+1) A none_lt);have T:=below_grown B5 c A (fun q h=>by cases h);have yu:u5.cell? ⟨w.heap.size,11,C⟩=U (K ao no co):=(g 11 D).1;have fu:u5.frozen? ⟨w.heap.size,11,C⟩=aK:=(g 11 D).2;have zu:w.heap.size+2≤u5.heap.size:=lH z5 c.size)
 have P6:=g.set (j:=11) D (K P no Q);simp only [oV,pW] at P6;have gs:=lU (lJ u5 (U w.heap.size)) 11 (K P no Q);have R6:=V.block (nK u5 (⟨w.heap.size,11,C⟩:Addr) (K P no Q) (w.heap.size+1) aT);have B6:=T.setCell (p:=⟨w.heap.size,11,C⟩) aT (K P no Q);have z6:w.heap.size+2≤(u5.setCell ⟨w.heap.size,11,C⟩ (K P no Q)).heap.size:=bY;have bu:=d.grown gs (.inr dP);have b4:Hid (Dj (K k n1 l).ownBlock (K P no Q).ownBlock):=Dj.new ah.kD i;have bl:=(ah.grown c (by cases h:(K k n1 l).ownBlock with | none=>exact .inl rfl | some q=>exact .inr (fun a=>fU))).grown gs (.inr (by intro a;have:=ah.ku _ a;omega));have b8:Hid (Dj (K o n2 r).ownBlock (K P no Q).ownBlock):=Dj.new an.kD i;have bm:=(an.grown c (by cases h:(K o n2 r).ownBlock with | none=>exact .inl rfl | some q=>exact .inr (fun a=>fU))).grown gs (.inr (by intro a;have:=an.ku _ a;omega));have cd:Hid (Dj (K u nr z).ownBlock (K P no Q).ownBlock):=Dj.new av.kD i;have bn:=(av.grown c (by cases h:(K u nr z).ownBlock with | none=>exact .inl rfl | some q=>exact .inr (fun a=>fU))).grown gs (.inr (by intro a;have:=av.ku _ a;omega));have cg:Hid (Dj (K H nj L).ownBlock (K P no Q).ownBlock):=Dj.new ax.kD i;have bp:=(ax.grown c (by cases h:(K H nj L).ownBlock with | none=>exact .inl rfl | some q=>exact .inr (fun a=>fU))).grown gs (.inr (by intro a;have:=ax.ku _ a;omega));have ch:Hid (Dj (K M f N).ownBlock (K P no Q).ownBlock):=Dj.new ay.kD i;have bq:=(ay.grown c (by cases h:(K M f N).ownBlock with | none=>exact .inl rfl | some q=>exact .inr (fun a=>fU))).grown gs (.inr (by intro a;have:=ay.ku _ a;omega));obtain ⟨V6, bd⟩ := kC (u5.setCell ⟨w.heap.size,11,C⟩ (K P no Q));rw [← bd] at P6 R6 B6 z6 bl bm bn bp bq bu;rw [← bd];clear bd y X yu fu zu g V T gs d c i P5 R5 B5 z5 ah an av ax ay;obtain ⟨y0,y1,y2,y3,y4,y5,y6,y7,y8,y9,c8,c9⟩:=l9 P6;go_wp2_with (refine jY rfl 30 (F 2) (F 31) rfl (w.heap.size+1) zB [I Y wk,aF up,I Y now,I Y sn,I Y ep,I Y gv,K k n1 l,K o n2 r,K u nr z,K H nj L,K M f N,K P no Q] rfl rfl R6 rfl Tryz.sizeBo (nP) ?_;intro c7 ck aa)
 obtain ⟨k0,k1,k2,k3,k4,k5,k6,k7,k8,k9,c4,c5⟩:=l9 ck;refine bodyPost_ret (v:=aI #[I Y wk,aF up,I Y now,I Y sn,I Y ep,I Y gv,K k n1 l,K o n2 r,K u nr z,K H nj L,K M f N,K P no Q]) (by simp [results,results30,go_sem,k0,k1,k2,k3,k4,k5,k6,k7,k8,k9,c4,c5]) rfl ⟨k,l,o,r,u,z,H,L,M,N,P,Q,rfl,⟨(bl.grown aa (.inr (by intro a;have:=bl.ku _ a;omega))).mono' A,(bm.grown aa (.inr (by intro a;have:=bm.ku _ a;omega))).mono' A,(bn.grown aa (.inr (by intro a;have:=bn.ku _ a;omega))).mono' A,(bp.grown aa (.inr (by intro a;have:=bp.ku _ a;omega))).mono' A,(bq.grown aa (.inr (by intro a;have:=bq.ku _ a;omega))).mono' A,(bu.grown aa (.inr (by intro a;have:=bu.ku _ a;omega))).mono' A⟩,?_,below_grown B6 aa A (fun q h=>by simp at h;omega)⟩;simp only [rW,mG,mF,or_false,forall_eq_or_imp,forall_eq,List.Pairwise.nil,and_true,false_implies,implies_true];exact ⟨⟨bw.out,bz.out,b0.out,b3.out,b4.out⟩,⟨b5.out,b6.out,b7.out,b8.out⟩,⟨b9.out,cc.out,cd.out⟩,⟨cf.out,cg.out⟩,ch.out⟩
theorem Yr (x y:Operand) (g off n c k:Nat) (f:k≤c) (h:o.op=.slice 23 x C (U y) C) (d:ρ x=K (U ⟨g,off,C⟩) n c) (e:ρ y=I Y (k:Nat)):(execOp ρ o).run prog w=.ok (.value (K (U ⟨g,off,C⟩) k c)) w:=by
 unfold execOp;rw [h];have a:(k:Int)≤(c:Int):=A;simp [go_sem,d,e,a]
theorem VP (x y:Operand) (h:o.op=.slice 23 x C (U y) C) (a:ρ x=K C 0 0) (c:ρ y=I Y 0):(execOp ρ o).run prog w=.ok (.value (K C 0 0)) w:=by
 unfold execOp;rw [h];simp [go_sem,a,c]
structure lg (w:World) (B:Nat) (d:BD) (h:BH):Prop where
 o0:Own B w 1 (K h.a1 d.L1.length h.c1) d.L1.length (d.L1.map E)
 o1:Own B w 1 (K h.a2 d.L2.length h.c2) d.L2.length (d.L2.map E)
 o2:Own B w 1 (K h.ar d.R.length h.cr) d.R.length (d.R.map E)
 o3:Own B w 3 (K h.aj d.J.length h.cj) d.J.length (c3 d.J)
 o4:Own B w 2 (K h.az d.S.length h.cs) d.S.length (c2 d.S)
 o5:Own B w 3 (K h.ao d.O.length h.co) d.O.length (c3 d.O)
 Ik:List.Pairwise Dj [(K h.a1 d.L1.length h.c1).ownBlock,(K h.a2 d.L2.length h.c2).ownBlock,(K h.ar d.R.length h.cr).ownBlock,(K h.aj d.J.length h.cj).ownBlock,(K h.az d.S.length h.cs).ownBlock,(K h.ao d.O.length h.co).ownBlock]
def Pq (e:Ending) (B:Nat) (w':World) (d:BD):Prop:=∃ h,e=.returned (aI (bvs d h).toArray)∧lg w' B d h
def pV (a:Int) (n:Nat):Nat:=(min (max a 0) n).toNat
theorem UH {a:Int}:pV a n≤n:=by unfold pV;omega
def qR (d:BD) (a:Int):BD:=⟨d.wk,aK,d.now,0,0,0,d.L1 ++ d.L2.take (pV a d.L2.length),[],[],[],[],[]⟩
def rM:BD:=⟨0,aK,0,0,0,0,[],[],[],[],[],[]⟩
def Jg (d:BD) (ts:List kJ) (a:Int) (d':BD):Prop:=d.ok ts∧d'=qR d a∨¬ d.ok ts∧d'=rM
theorem Dj.EC (y:Option Nat):Dj C y:=.inl rfl
theorem TJ (w:World) (B:Nat):lg w B rM ⟨C,C,C,C,C,C,0,0,0,0,0,0⟩:=by
 refine ⟨Own.nil _ _ _,Own.nil _ _ _,Own.nil _ _ _,Own.nil _ _ _,Own.nil _ _ _,Own.nil _ _ _,?_⟩;simp [Value.ownBlock,Dj.EC]
theorem XA (w:World) (B:Nat) (wk now:Int) (L:List ByteArray) (a:Option Addr) (c:Nat) (e:Own B w 1 (K a L.length c) L.length (L.map E)):lg w B ⟨wk,aK,now,0,0,0,L,[],[],[],[],[]⟩ ⟨a,C,C,C,C,C,c,0,0,0,0,0⟩:=by
 refine ⟨e,Own.nil _ _ _,Own.nil _ _ _,Own.nil _ _ _,Own.nil _ _ _,Own.nil _ _ _,?_⟩;simp only [rW,mG,mF,or_false,forall_eq_or_imp,forall_eq,List.Pairwise.nil,and_true,false_implies,implies_true];have d:∀ x,Dj x (K C 0 0).ownBlock:=fun x=>by
  cases x with
  | none=>exact .inl rfl
  | some q=>exact .inr (by simp [Value.ownBlock])
 exact ⟨⟨d _,d _,d _,d _,d _⟩,⟨d _,d _,d _,d _⟩,⟨d _,d _,d _⟩,⟨d _,d _⟩,d _⟩
theorem kS.Xj {o:Nat} {c:List ByteArray} (h:kS w a b o n c) (k:Nat) (f:k≤n):kS w a b o k (c.take k) :=
 ⟨fun d=>h.ad A,by rw [qI,h.len];omega,lH f h.max,fun d=>h.lt A,fun j e=>by rw [h.cell j A];simp [List.getD,e],fun s g=>h.sz s (abb g)⟩
theorem Own.DT {size:Nat} (h:Own B w size v n xs):Own B w.drew size v n xs:=by
 rcases h with h | ⟨g,o,cap,c,a⟩
 ·exact .inl h
 ·exact .inr ⟨g,o,cap,c,a.block rfl⟩
theorem oL {p:Addr} (x:Operand) (h:o.op=.load 3 x) (c:ρ x=aG (U p)) (a:w.cell? p=U v):(execOp ρ o).run prog w=.ok (.value v) w:=by
 unfold execOp;rw [h];simp [go_sem,c,a]
theorem Wi (x:Operand) (h:o.op=.build 25 #[(0,x)]) (d:ρ x=K a n c):(execOp ρ o).run prog w=.ok (.value (aI #[K a n c,K C 0 0])) w:=by
 unfold execOp;rw [h];simp [go_sem,d]
theorem Wh {k m:Int} (x y z:Operand) (h:o.op=.build 30 #[(0,x),(2,y),(6,z)]) (d:ρ x=I Y k) (e:ρ y=I Y m) (f:ρ z=aI #[K a n c,K C 0 0]):(execOp ρ o).run prog w=.ok (.value (aI #[I Y k,aF aK,I Y m,I Y 0,I Y 0,I Y 0,K a n c,K C 0 0,K C 0 0,K C 0 0,K C 0 0,K C 0 0])) w:=by
 unfold execOp;rw [h];simp [go_sem,d,e,f]
theorem XT (d:BD) (h:BH) (l:Option Addr) (pb po p M:Nat) (ts:List kJ) (L:Int) (hM:rU w d h) (hT:lN w l pb po p ts) (hs:d.small) :
  Calls prog 8 #[aI (nN d h),aI #[K l p M],I Y L] w fun e w'=>(∃ d',Pq e w.heap.size w' d'∧Jg d ts L d')∧Below w.heap.size w w':=by
 obtain ⟨i0,b7,b9,cc,cd⟩:=info_parts Tryz.infoSt;obtain ⟨W, N⟩ := kC (((w.alloc (aH (nN d h) 30)).alloc (aH #[K l p M] 33)).alloc (aH ni 30));have X:Below w.heap.size w W:=by rw [N];exact (kQ.alloc D _).alloc aQ _
 have z0:w.heap.size+3≤W.heap.size:=by rw [N];simp
 have P0:CF W w.heap.size (nR d h):=by
  rw [N];exact ((CF.made w (nN d h) 30).block (kU _ _ _ D)).block (kU _ _ _ aQ)
 have L0:CF W (w.heap.size+1) [K l p M]:=by
  rw [N];have:=(CF.made (w.alloc (aH (nN d h) 30)) #[K l p M] 33).block (kU ((w.alloc (aH (nN d h) 30)).alloc (aH #[K l p M] 33)) (aH ni 30) _ D);simpa using this
 have R0:CF W (w.heap.size+2) zB:=by
  rw [N];have:=CF.made ((w.alloc (aH (nN d h) 30)).alloc (aH #[K l p M] 33)) ni 30;simpa [zB] using this
 have bj:EP w d (nR d h):=⟨h,rfl,hM⟩
 have hV:=hid (bj.below' X);have bl:=hid hs;clear bj hs;have HW:=hid N;clear N;go_enter func8,ntmps8
 go_upto_region 1 with fail
 rw [← HW.out];clear HW;obtain ⟨y0,y1,y2,y3,y4,y5,y6,y7,y8,y9,bg,bh⟩:=l9 P0;have kp:W.cell? ⟨w.heap.size+1,0,C⟩=U (K l p M):=(L0 0 D).1;go_wp2_with fail
 refine (OW d l pb po p M ts hV.out (hT.below' X) bl.out).mono ?_;rintro e w1 ⟨⟨r,rfl,hr⟩,ae⟩;clear y0 y1 y2 y3 y4 y5 y6 y7 y8 y9 bg bh kp;have P1:=P0.block (ae.block w.heap.size A);have R1:=R0.block (ae.block (w.heap.size+2) A);have k:=X.trans (ae.mono X.size);have z1:w.heap.size+3≤w1.heap.size:=by have:=ae.size;omega
 have HR:=hid hr;clear hr ae P0 R0 X z0 L0;cases r with
 | false =>
  have HN:Hid (¬ d.ok ts):=fun j=>by have:=HR.out.2 j;cases this
  go_upto_region 2 with fail
  go_wp2_with (refine jY rfl 30 (F 6) (F 12) rfl (w.heap.size+2) zB FB rfl rfl R1 rfl Tryz.sizeBo (nP) ?_;intro cf bu b0)
  obtain ⟨k0,k1,k2,k3,k4,k5,k6,k7,k8,k9,bb,bc⟩:=l9 bu;exact bodyPost_ret (v:=aI ni) (by simp [results,results8,go_sem,k0,k1,k2,k3,k4,k5,k6,k7,k8,k9,bb,bc]) rfl ⟨⟨rM,⟨_,rfl,TJ _ _⟩,.inr ⟨HN.out,rfl⟩⟩,below_grown k b0 A (fun q Q=>by simp at Q;omega)⟩
 | true =>
  have HV:Hid (d.ok ts):=HR.out.1 rfl;have y7:w1.cell? ⟨w.heap.size,7,C⟩=U (K h.a2 d.L2.length h.c2):=(P1 7 D).1;go_upto_region 4 with fail
  clear y7;obtain ⟨a, hK⟩ := kC (pV L d.L2.length);have e7:min (max L 0) (d.L2.length:Int)=(a:Nat):=by rw [hK];unfold pV;omega
  have ak:a≤d.L2.length:=by rw [hK];exact UH
  rw [e7];have HK:=hid hK;clear e7 hK;have bm:=bl.out;unfold BD.small at bm;obtain ⟨⟨b1,o1,h1⟩,⟨b2,o2,h2⟩,⟨b3,o3,h3⟩,⟨b4,o4,h4⟩,⟨b5,o5,h5⟩,⟨b6,o6,h6⟩⟩:=hM;obtain ⟨y0,y1,y2,y3,y4,y5,y6,y7,y8,y9,bg,bh⟩:=l9 P1;go_upto_region 5 with (first | (go_at_call 30;refine (Ll d.wk d.up d.now d.sn d.ep d.gv h.a1 h.a2 h.ar h.aj h.az h.ao b1 o1 h.c1 b2 o2 h.c2 b3 o3 h.cr b4 o4 h.cj b5 o5 h.cs b6 o6 h.co d.L1 d.L2 d.R d.J d.S d.O (h1.below' k) (h2.below' k) (h3.below' k) (h4.below' k) (h5.below' k) (h6.below' k) A A A A A A).mono ?_;rintro e w2 ⟨aa,ab,z,T,an,aw,aq,ax,au,ay,av,a6,rfl,⟨q0,q1,_,_,_,_⟩,bz,af⟩;have P2:=P1.block (af.block w.heap.size A);have R2:=R1.block (af.block (w.heap.size+2) A);have B2:=k.trans (af.mono k.size);have z2:w.heap.size+3≤w2.heap.size:=(by have:=af.size;omega)) | (refine jY rfl 30 (F 3) (F 21) rfl w.heap.size (nR d h) [I Y d.wk,aF d.up,I Y d.now,I Y d.sn,I Y d.ep,I Y d.gv,K aa d.L1.length ab,K z d.L2.length T,K an d.R.length aw,K aq d.J.length ax,K au d.S.length ay,K av d.O.length a6] rfl rfl P2 rfl Tryz.sizeBo (nP) ?_;intro w3 P3 V))
  have R3:=R2.block (V.block (w.heap.size+2) A (by intro j;injection j with j;omega));have B3:=below_grown B2 V A (fun q Q=>by simp at Q;omega);have z3:w.heap.size+3≤w3.heap.size:=lH z2 V.size;have bo:=(q0.grown V (.inr (by intro j;have:=q0.ku _ j;omega))).mono' z1;have bp:=(q1.grown V (.inr (by intro j;have:=q1.ku _ j;omega))).mono' z1;clear y0 y1 y2 y3 y4 y5 y6 y7 y8 y9 bg bh bz af P2 R2 B2 z2 V q0 q1 P1 R1 k;obtain ⟨u, H⟩ := kC w3.drew;have f:CF u w.heap.size [I Y d.wk,aF d.up,I Y d.now,I Y d.sn,I Y d.ep,I Y d.gv,K aa d.L1.length ab,K z d.L2.length T,K an d.R.length aw,K aq d.J.length ax,K au d.S.length ay,K av d.O.length a6]:=by rw [H];exact P3
  have Rd:CF u (w.heap.size+2) zB:=by rw [H];exact R3
  have Bd:Below w.heap.size w u:=by rw [H];exact B3.drew
  have zd:w.heap.size+3≤u.heap.size:=by rw [H];exact z3
  have bd:Own (w.heap.size+3) u 1 (K aa d.L1.length ab) d.L1.length (d.L1.map E):=by rw [H];exact bo.DT
  have bf:Own (w.heap.size+3) u 1 (K z d.L2.length T) d.L2.length (d.L2.map E):=by rw [H];exact bp.DT
  obtain ⟨bs,os,a8,_⟩:=bf.xP h2.sz;have a7:∃ xv,(∀ (ρ:Operand→Value) (o:Oper) (w:World) (x y:Operand),o.op=.slice 23 x C (U y) C→ρ x=K z d.L2.length T→ρ y=I Y (a:Nat)→(execOp ρ o).run prog w=.ok (.value xv) w)∧Src prog 1 23 xv a ((d.L2.take a).map E) u:=by
   rcases bf with ⟨hv,hn,_⟩ | ⟨g,og,cap,hv,c⟩
   ·injection hv with e1 e2 e3
    have br:a=0:=A;refine ⟨K z a 0,fun ρ o w x y ho hx hy=>?_,(a8.Xj a ak).IV 0⟩;subst br;rw [e1];refine VP x y ho ?_ hy;rw [hx,e1,e2,e3]
   ·injection hv with e1 _ e3
    refine ⟨K z a cap,fun ρ o w x y ho hx hy=>?_,(a8.Xj a ak).IV cap⟩;rw [e1];refine Yr x y g og d.L2.length cap a (lH ak c.le) ho ?_ hy;rw [hx,e1,e3]
  obtain ⟨xv,a7,bn⟩:=a7;obtain ⟨v1,w4,b8,ah,ag,_⟩:=l7 (P:=prog) u (w.heap.size+3) 23 23 23 9 i0 (E ⟨#[]⟩) 1 16 underlying23 b7 b9 cc cd rfl _ d.L1.length _ bd _ a _ bn G A zd;rw [← rD] at ah;obtain ⟨a',c',rfl⟩:=ah.slc;have al:=bd.ku;have P4:=f.block (ag.block w.heap.size A (fun e=>by have:=al _ e.symm;omega));have R4:=Rd.block (ag.block (w.heap.size+2) A (fun e=>by have:=al _ e.symm;omega));have B4:=below_grown Bd ag A (fun q Q=>by have:=al q Q;omega);have z4:w.heap.size+3≤w4.heap.size:=lH zd ag.size;obtain ⟨w5, ba⟩ := kC (w4.setCells (w.heap.size+2) 0 [I Y d.wk,aF aK,I Y d.now,I Y 0,I Y 0,I Y 0,K a' (d.L1.length+a) c',K C 0 0,K C 0 0,K C 0 0,K C 0 0,K C 0 0]);have ai:w4.grownBy w5 (U (w.heap.size+2)):=by rw [ba];exact gsc
  have bw:CF w5 (w.heap.size+2) [I Y d.wk,aF aK,I Y d.now,I Y 0,I Y 0,I Y 0,K a' (d.L1.length+a) c',K C 0 0,K C 0 0,K C 0 0,K C 0 0,K C 0 0]:=by rw [ba];exact R4.stored rfl
  have P5:=P4.block (ai.block w.heap.size A (by intro j;injection j with j;omega));have bk:=ah.grown ai (.inr (by intro j;have:=ah.ku _ j;omega));have B5:=below_grown B4 ai A (fun q Q=>by simp at Q;omega);have HO:Hid (lg w5 w.heap.size (qR d L) ⟨a',C,C,C,C,C,c',0,0,0,0,0⟩):=by
   have hl:(d.L1 ++ d.L2.take a).length=d.L1.length+a:=by rw [lD,qI];omega
   have:=XA w5 w.heap.size d.wk d.now (d.L1 ++ d.L2.take a) a' c' (by rw [hl];exact bk.mono' A);rw [HK.out] at this;exact this
  have bq:=hid B5;have HL:Hid (d.L1.length+a=(qR d L).L1.length):=by show _=(d.L1 ++ d.L2.take (pV L d.L2.length)).length;rw [← HK.out,lD,qI];show _=_;omega
  clear a8 bn ah bk ag al Bd bd bf bo bp B3 P3 R3 z3 Rd B4 B5 ai h1 h2 h3 h4 h5 h6 bm ak HK hT;refine wp_region_held (S:=fun w'=>CF w' w.heap.size [I Y d.wk,aF d.up,I Y d.now,I Y d.sn,I Y d.ep,I Y d.gv,K aa d.L1.length ab,K z d.L2.length T,K an d.R.length aw,K aq d.J.length ax,K au d.S.length ay,K av d.O.length a6]) Z ?_;change wpAnyH _ _ _ _ _ _ _ _ (World.drew _);rw [← H];clear H;refine jZ (i:=0) (d:=U 22) (v:=aG (U ⟨w.heap.size,0,C⟩)) (l':=(bt 16 1)) rfl (fun _ c=>Z) f ?_;refine jZ (i:=1) (d:=U 23) (v:=I Y d.wk) (l':=(bt 16 3)) rfl (fun _ c=>oL (F 22) Z Z (c 0 D).1) f ?_;refine jZ (i:=2) (d:=U 24) (v:=aG (U ⟨w.heap.size,2,C⟩)) (l':=(bt 16 7)) rfl (fun _ c=>Z) f ?_;refine jZ (i:=3) (d:=U 25) (v:=I Y d.now) (l':=(bt 16 15)) rfl (fun _ c=>oL (F 24) Z Z (c 2 D).1) f ?_;refine jZ (i:=4) (d:=U 26) (v:=aG (U ⟨w.heap.size,6,C⟩)) (l':=(bt 16 31)) rfl (fun _ c=>Z) f ?_;refine jZ (i:=5) (d:=U 27) (v:=aG (U ⟨w.heap.size,6,C⟩)) (l':=(bt 16 63)) rfl (fun _ c=>Z) f ?_;refine jZ (i:=6) (d:=U 28) (v:=K aa d.L1.length ab) (l':=(bt 16 127)) rfl (fun _ c=>pY (F 27) Z Z (c 6 D).1) f ?_;refine jZ (i:=7) (d:=U 29) (v:=aG (U ⟨w.heap.size,6,C⟩)) (l':=(bt 16 255)) rfl (fun _ c=>Z) f ?_;refine jZ (i:=8) (d:=U 30) (v:=aG (U ⟨w.heap.size,7,C⟩)) (l':=(bt 16 511)) rfl (fun _ c=>Z) f ?_;refine jZ (i:=9) (d:=U 31) (v:=K z d.L2.length T) (l':=(bt 16 1023)) rfl (fun _ c=>pY (F 30) Z Z (c 7 D).1) f ?_;refine jZ (i:=10) (d:=U 32) (v:=I Y (a:Nat)) (l':=(bt 16 2047)) rfl (fun _ c=>Z) f ?_;refine jZ (i:=11) (d:=U 33) (v:=xv) (l':=(bt 16 4095)) rfl (fun _ c=>a7 _ _ _ (F 31) (F 32) Z Z Z) f ?_;refine kF (i:=12) Z (kM (i:=12) (d:=U 34) (v:=K a' (d.L1.length+a) c') (w':=w4) (l':=(bt 16 8191)) rfl Z Z Z (ql (F 28) (F 33) 23 23 Z Z Z Z b8) P4 ?_);refine jZ (i:=13) (d:=U 35) (v:=aI #[K a' (d.L1.length+a) c',K C 0 0]) (l':=(bt 16 16383)) rfl (fun _ c=>Wi (F 34) Z Z) P4 ?_;refine jZ (i:=14) (d:=U 36) (v:=aI #[I Y d.wk,aF aK,I Y d.now,I Y 0,I Y 0,I Y 0,K a' (d.L1.length+a) c',K C 0 0,K C 0 0,K C 0 0,K C 0 0,K C 0 0]) (l':=(bt 16 32767)) rfl (fun _ c=>Wh (F 23) (F 25) (F 35) Z Z Z Z) P4 ?_;refine kF (i:=15) Z (lI (i:=15) (w':=w5) (l':=(bt 16 65535)) rfl Z Z Z (by rw [ba];exact lM 30 zB [I Y d.wk,aF aK,I Y d.now,I Y 0,I Y 0,I Y 0,K a' (d.L1.length+a) c',K C 0 0,K C 0 0,K C 0 0,K C 0 0,K C 0 0] (F 6) (F 36) Z Z Z R4 rfl Tryz.sizeBo (nP)) P5 ?_);obtain ⟨k0,k1,k2,k3,k4,k5,k6,k7,k8,k9,bb,bc⟩:=l9 bw;refine wpAnyH_done Z ?_ _;go_wp2;refine bodyPost_ret (v:=aI #[I Y d.wk,aF aK,I Y d.now,I Y 0,I Y 0,I Y 0,K a' (d.L1.length+a) c',K C 0 0,K C 0 0,K C 0 0,K C 0 0,K C 0 0]) (by simp [results,results8,go_sem,k0,k1,k2,k3,k4,k5,k6,k7,k8,k9,bb,bc]) rfl ⟨⟨qR d L,⟨_,?_,HO.out⟩,.inl ⟨HV.out,rfl⟩⟩,bq.out⟩;rw [HL.out];rfl
theorem Tryz.sizeLo:(prog.info? 25).map (·.size)=U 2:=Z
theorem JW (w:World) (B:Nat) (h:B≤w.heap.size):Own B (w.alloc (aH #[] 9)) 1 (K (U ⟨w.heap.size,0,C⟩) 0 0) 0 [] :=
 .inr ⟨_,0,0,rfl,kW.made w B 9 1 0 0 _ 0 h kL G rfl kL _ rfl _ (.inl rfl)⟩
structure LJ (w:World) (a1:Option Addr) (n1 ca:Nat) (a2:Option Addr) (n2 cb:Nat) (w':World):Prop where
 p:CF w' w.heap.size [K a1 n1 ca,K a2 n2 cb]
 r:CF w' (w.heap.size+1) [K C 0 0,K C 0 0]
 b:Below w.heap.size w w'
 z:w.heap.size+2≤w'.heap.size
theorem LJ.alloc (h:LJ w a1 n1 ca a2 n2 cb w') (ob:Obj):LJ w a1 n1 ca a2 n2 cb (w'.alloc ob) :=
 ⟨h.p.block (kU _ _ _ bM),h.r.block (kU _ _ _ bM),h.b.alloc h.b.size ob,by have:=h.z;simp;omega⟩
theorem LJ.grown {d:World} {row:Option Nat} (h:LJ w a1 n1 ca a2 n2 cb w') (a:w'.grownBy d row) (c:∀ q,row=U q→w.heap.size+2≤q):LJ w a1 n1 ca a2 n2 cb d :=
 ⟨h.p.block (a.block _ bM (fun e=>fE)),h.r.block (a.block _ bM (fun e=>fE)),below_grown h.b a bM (fun q f=>by have:=c q f;omega),lH h.z a.size⟩
theorem app0 (w d:World) (B:Nat) (g:Below w.heap.size w d) (f:B≤d.heap.size) {o:Nat} {L:List ByteArray} (c:Nat) (h:kS w a b o n L) (t:n≤1048576) (p:Own B d 1 v 0 []) :
  ∃ a' c' w',(Builtin.append_ #[23,23] 23 #[v,K a n c]).run prog d=.ok (K a' n c') w'∧Own B w' 1 (K a' n c') n (L.map E)∧d.grownBy w' v.ownBlock∧((K a' n c').ownBlock=v.ownBlock∨(K a' n c').ownBlock=U d.heap.size):=by
 obtain ⟨i0,j,q,r,s⟩:=info_parts Tryz.infoSt;obtain ⟨u,w',l,e,i,k⟩:=l7 (P:=prog) d B 23 23 23 9 i0 (E ⟨#[]⟩) 1 16 underlying23 j q r s rfl _ 0 _ p _ n _ ((h.below' g).IV c) G A f;rw [ny,oG] at e;obtain ⟨a',c',rfl⟩:=e.slc;exact ⟨a',c',w',l,e,i,k⟩
theorem Ny (x y:Operand) (h:o.op=.build 25 #[(0,x),(1,y)]) (d:ρ x=K a n c) (e:ρ y=K a' n' c'):(execOp ρ o).run prog w=.ok (.value (aI #[K a n c,K a' n' c'])) w:=by
 unfold execOp;rw [h];simp [go_sem,d,e]
theorem aaq:∀ v∈[K a n c,K a' n' c'],v.oneCell'=true:=by
 intro v d;simp only [mG,mF,or_false] at d;rcases d with rfl | rfl <;> rfl
theorem YT (a1 a2:Option Addr) (b1 o1 n1 ca b2 o2 n2 cb:Nat) (L1 L2:List ByteArray) (h1:kS w a1 b1 o1 n1 L1) (h2:kS w a2 b2 o2 n2 L2) (m1:n1≤1048576) (m2:n2≤1048576) :
  Calls prog 53 #[aI #[K a1 n1 ca,K a2 n2 cb]] w fun e w'=>∃ an au aq av,e=.returned (aI #[K an n1 au,K aq n2 av])∧Own w.heap.size w' 1 (K an n1 au) n1 (L1.map E)∧Own w.heap.size w' 1 (K aq n2 av) n2 (L2.map E)∧Dj (K an n1 au).ownBlock (K aq n2 av).ownBlock∧Below w.heap.size w w':=by
 obtain ⟨W, hW⟩ := kC ((w.alloc (aH #[K a1 n1 ca,K a2 n2 cb] 25)).alloc (aH #[K C 0 0,K C 0 0] 25));have k:LJ w a1 n1 ca a2 n2 cb W.drew:=by
  rw [hW];refine ⟨(CF.made w #[K a1 n1 ca,K a2 n2 cb] 25).block (kU _ _ _ D),?_,(kQ.alloc D _).drew,?_⟩
  ·have:=CF.made (w.alloc (aH #[K a1 n1 ca,K a2 n2 cb] 25)) #[K C 0 0,K C 0 0] 25
   rw [mJ] at this;exact this
  ·show _≤(World.alloc _ _).heap.size;simp
 have HW:=hid hW;clear hW;go_enter func53,ntmps53
 go_upto_region 1 with fail
 rw [← HW.out];clear HW;refine wp_region_held (S:=fun w'=>CF w' w.heap.size [K a1 n1 ca,K a2 n2 cb]) Z ?_;change wpAnyH _ _ _ _ _ _ _ _ (World.drew _);obtain ⟨g, hU⟩ := kC W.drew;rw [← hU] at k;rw [← hU];clear hU;refine jZ (i:=1) (d:=U 4) (v:=aG (U ⟨w.heap.size,0,C⟩)) (l':=(bt 10 2)) rfl (fun _ L=>Z) k.p ?_;refine jZ (i:=2) (d:=U 5) (v:=K a1 n1 ca) (l':=(bt 10 6)) rfl (fun _ L=>pY (F 4) Z Z (L 0 D).1) k.p ?_;refine jZ (i:=5) (d:=U 8) (v:=aG (U ⟨w.heap.size,1,C⟩)) (l':=(bt 10 38)) rfl (fun _ L=>Z) k.p ?_;refine jZ (i:=6) (d:=U 9) (v:=K a2 n2 cb) (l':=(bt 10 102)) rfl (fun _ L=>pY (F 8) Z Z (L 1 D).1) k.p ?_;refine nT (i:=0) (j:=4) Z (kM (i:=0) (d:=U 3) (v:=K (U ⟨g.heap.size,0,C⟩) 0 0) (w':=g.alloc (aH #[] 9)) (l':=(bt 10 103)) rfl Z Z Z (Dp Z) (k.alloc (aH #[] 9)).p ?_) (kM (i:=4) (d:=U 7) (v:=K (U ⟨g.heap.size,0,C⟩) 0 0) (w':=g.alloc (aH #[] 9)) (l':=(bt 10 118)) rfl Z Z Z (Dp Z) (k.alloc (aH #[] 9)).p ?_)
 ·have R:=k.alloc (aH #[] 9)
  have al:=JW g (w.heap.size+2) k.z;have ch:(g.alloc (aH #[] 9)).heap.size=g.heap.size+1:=D;obtain ⟨H, hA1⟩ := kC (g.alloc (aH #[] 9));rw [← hA1] at R al ch;rw [← hA1];clear hA1;obtain ⟨o,u,w2,b9,bh,bz,cp⟩:=app0 w H (w.heap.size+2) R.b R.z ca h1 m1 al;have J2:=R.grown bz (fun q c=>al.ku q c);refine nT (i:=3) (j:=4) Z (kM (i:=3) (d:=U 6) (v:=K o n1 u) (w':=w2) (l':=(bt 10 111)) rfl Z Z Z (ql (F 3) (F 5) 23 23 Z Z Z Z b9) J2.p ?_) (kM (i:=4) (d:=U 7) (v:=K (U ⟨H.heap.size,0,C⟩) 0 0) (w':=H.alloc (aH #[] 9)) (l':=(bt 10 119)) rfl Z Z Z (Dp Z) (R.alloc (aH #[] 9)).p ?_)
  ·refine kF (i:=4) Z (kM (i:=4) (d:=U 7) (v:=K (U ⟨w2.heap.size,0,C⟩) 0 0) (w':=w2.alloc (aH #[] 9)) (l':=(bt 10 127)) rfl Z Z Z (Dp Z) (J2.alloc (aH #[] 9)).p ?_)
   have J3:=J2.alloc (aH #[] 9);have aw:=JW w2 (w.heap.size+2) J2.z;have ck:(w2.alloc (aH #[] 9)).heap.size=w2.heap.size+1:=D;have ay:=bh.alloc (aH #[] 9);obtain ⟨A3, hA3⟩ := kC (w2.alloc (aH #[] 9));rw [← hA3] at J3 aw ck ay;rw [← hA3];clear hA3;have ai:=ay.kD;have J:Dj (K o n1 u).ownBlock (K (U ⟨w2.heap.size,0,C⟩) 0 0).ownBlock:=by
    cases c:(K o n1 u).ownBlock with
    | none=>exact .inl rfl
    | some q=>exact .inr (by have h5:=bh.kD q c;simp [Value.ownBlock];omega)
   obtain ⟨ab,ag,w4,cc,bj,bb,b4⟩:=app0 w A3 (w.heap.size+2) J3.b J3.z cb h2 m2 aw;have V:=J3.grown bb (fun q c=>aw.ku q c);refine kF (i:=7) Z (kM (i:=7) (d:=U 10) (v:=K ab n2 ag) (w':=w4) (l':=(bt 10 255)) rfl Z Z Z (ql (F 7) (F 9) 23 23 Z Z Z Z cc) V.p ?_);have bp:=ay.grown bb J;have DF:Dj (K o n1 u).ownBlock (K ab n2 ag).ownBlock:=by
    rcases b4 with e | e
    ·rw [e];exact J
    ·exact Dj.new ai (.inr e)
   refine jZ (i:=8) (d:=U 11) (v:=aI #[K o n1 u,K ab n2 ag]) (l':=(bt 10 511)) rfl (fun _ L=>Ny (F 6) (F 10) Z Z Z) V.p ?_;obtain ⟨wf, l⟩ := kC (w4.setCells (w.heap.size+1) 0 [K o n1 u,K ab n2 ag]);have f:w4.grownBy wf (U (w.heap.size+1)):=by rw [l];exact gsc
   have cf:CF wf (w.heap.size+1) [K o n1 u,K ab n2 ag]:=by rw [l];exact V.r.stored rfl
   have zf:=V.z;have pf:=V.p.block (f.block w.heap.size A gY);refine kF (i:=9) Z (lI (i:=9) (w':=wf) (l':=(bt 10 1023)) rfl Z Z Z (by rw [l];exact lM 25 [K C 0 0,K C 0 0] [K o n1 u,K ab n2 ag] (F 2) (F 11) Z Z Z V.r rfl Tryz.sizeLo (aaq)) pf ?_);obtain ⟨k0,k1⟩:=Ph cf;refine wpAnyH_done Z ?_ _;go_wp2;exact bodyPost_ret (v:=aI #[K o n1 u,K ab n2 ag]) iQ rfl ⟨_,_,_,_,rfl,(bp.grown f (.inr (by intro a;have:=bp.ku _ a;omega))).mono' A,(bj.grown f (.inr (by intro a;have:=bj.ku _ a;omega))).mono' A,DF,below_grown V.b f A (fun q c=>fB)⟩
  ·have J5:=R.alloc (aH #[] 9)
   have bm:=JW H (w.heap.size+2) R.z;have cl:(H.alloc (aH #[] 9)).heap.size=H.heap.size+1:=D;have a6:=al.alloc (aH #[] 9);obtain ⟨A5, hA5⟩ := kC (H.alloc (aH #[] 9));rw [← hA5] at J5 bm cl a6;rw [← hA5];clear hA5;obtain ⟨N,Q,w6,cd,bk,bc,b5⟩:=app0 w A5 (w.heap.size+2) J5.b J5.z ca h1 m1 a6;have J6:=J5.grown bc (fun q c=>a6.ku q c);refine kF (i:=3) Z (kM (i:=3) (d:=U 6) (v:=K N n1 Q) (w':=w6) (l':=(bt 10 127)) rfl Z Z Z (ql (F 3) (F 5) 23 23 Z Z Z Z cd) J6.p ?_);have bs:=bm.grown bc (.inr eG);have ai:=bk.kD;have J:Dj (K N n1 Q).ownBlock (K (U ⟨H.heap.size,0,C⟩) 0 0).ownBlock:=by
    rcases b5 with e | e
    ·rw [e];exact .inr eG
    ·rw [e];exact .inr eG
   obtain ⟨ae,ah,w7,cg,bl,bd,b6⟩:=app0 w w6 (w.heap.size+2) J6.b J6.z cb h2 m2 bs;have X:=J6.grown bd (fun q c=>bs.ku q c);refine kF (i:=7) Z (kM (i:=7) (d:=U 10) (v:=K ae n2 ah) (w':=w7) (l':=(bt 10 255)) rfl Z Z Z (ql (F 7) (F 9) 23 23 Z Z Z Z cg) X.p ?_);have bq:=bk.grown bd J;have DF:Dj (K N n1 Q).ownBlock (K ae n2 ah).ownBlock:=by
    rcases b6 with e | e
    ·rw [e];exact J
    ·exact Dj.new ai (.inr e)
   refine jZ (i:=8) (d:=U 11) (v:=aI #[K N n1 Q,K ae n2 ah]) (l':=(bt 10 511)) rfl (fun _ L=>Ny (F 6) (F 10) Z Z Z) X.p ?_;obtain ⟨wf, l⟩ := kC (w7.setCells (w.heap.size+1) 0 [K N n1 Q,K ae n2 ah]);have f:w7.grownBy wf (U (w.heap.size+1)):=by rw [l];exact gsc
   have cf:CF wf (w.heap.size+1) [K N n1 Q,K ae n2 ah]:=by rw [l];exact X.r.stored rfl
   have zf:=X.z;have pf:=X.p.block (f.block w.heap.size A gY);refine kF (i:=9) Z (lI (i:=9) (w':=wf) (l':=(bt 10 1023)) rfl Z Z Z (by rw [l];exact lM 25 [K C 0 0,K C 0 0] [K N n1 Q,K ae n2 ah] (F 2) (F 11) Z Z Z X.r rfl Tryz.sizeLo (aaq)) pf ?_);obtain ⟨k0,k1⟩:=Ph cf;refine wpAnyH_done Z ?_ _;go_wp2;exact bodyPost_ret (v:=aI #[K N n1 Q,K ae n2 ah]) iQ rfl ⟨_,_,_,_,rfl,(bq.grown f (.inr (by intro a;have:=bq.ku _ a;omega))).mono' A,(bl.grown f (.inr (by intro a;have:=bl.ku _ a;omega))).mono' A,DF,below_grown X.b f A (fun q c=>fB)⟩
 ·have J8:=k.alloc (aH #[] 9)
  have bn:=JW g (w.heap.size+2) k.z;have cm:(g.alloc (aH #[] 9)).heap.size=g.heap.size+1:=D;obtain ⟨A8, hA8⟩ := kC (g.alloc (aH #[] 9));rw [← hA8] at J8 bn cm;rw [← hA8];clear hA8;refine kF (i:=0) Z (kM (i:=0) (d:=U 3) (v:=K (U ⟨A8.heap.size,0,C⟩) 0 0) (w':=A8.alloc (aH #[] 9)) (l':=(bt 10 119)) rfl Z Z Z (Dp Z) (J8.alloc (aH #[] 9)).p ?_);have J9:=J8.alloc (aH #[] 9);have ax:=JW A8 (w.heap.size+2) J8.z;have cn:(A8.alloc (aH #[] 9)).heap.size=A8.heap.size+1:=D;have bu:=bn.alloc (aH #[] 9);obtain ⟨A9, hA9⟩ := kC (A8.alloc (aH #[] 9));rw [← hA9] at J9 ax cn bu;rw [← hA9];clear hA9;obtain ⟨M,P,bw,b7,bf,a8,b0⟩:=app0 w A9 (w.heap.size+2) J9.b J9.z ca h1 m1 ax;have ak:=J9.grown a8 (fun q c=>ax.ku q c);refine kF (i:=3) Z (kM (i:=3) (d:=U 6) (v:=K M n1 P) (w':=bw) (l':=(bt 10 127)) rfl Z Z Z (ql (F 3) (F 5) 23 23 Z Z Z Z b7) ak.p ?_);have br:=bu.grown a8 (.inr eG);have ai:=bf.kD;have J:Dj (K M n1 P).ownBlock (K (U ⟨g.heap.size,0,C⟩) 0 0).ownBlock:=by
   rcases b0 with e | e
   ·rw [e];exact .inr eG
   ·rw [e];exact .inr eG
  obtain ⟨aa,af,a7,b8,bg,ba,b3⟩:=app0 w bw (w.heap.size+2) ak.b ak.z cb h2 m2 br;have T:=ak.grown ba (fun q c=>br.ku q c);refine kF (i:=7) Z (kM (i:=7) (d:=U 10) (v:=K aa n2 af) (w':=a7) (l':=(bt 10 255)) rfl Z Z Z (ql (F 7) (F 9) 23 23 Z Z Z Z b8) T.p ?_);have bo:=bf.grown ba J;have DF:Dj (K M n1 P).ownBlock (K aa n2 af).ownBlock:=by
   rcases b3 with e | e
   ·rw [e];exact J
   ·exact Dj.new ai (.inr e)
  refine jZ (i:=8) (d:=U 11) (v:=aI #[K M n1 P,K aa n2 af]) (l':=(bt 10 511)) rfl (fun _ L=>Ny (F 6) (F 10) Z Z Z) T.p ?_;obtain ⟨wf, l⟩ := kC (a7.setCells (w.heap.size+1) 0 [K M n1 P,K aa n2 af]);have f:a7.grownBy wf (U (w.heap.size+1)):=by rw [l];exact gsc
  have cf:CF wf (w.heap.size+1) [K M n1 P,K aa n2 af]:=by rw [l];exact T.r.stored rfl
  have zf:=T.z;have pf:=T.p.block (f.block w.heap.size A gY);refine kF (i:=9) Z (lI (i:=9) (w':=wf) (l':=(bt 10 1023)) rfl Z Z Z (by rw [l];exact lM 25 [K C 0 0,K C 0 0] [K M n1 P,K aa n2 af] (F 2) (F 11) Z Z Z T.r rfl Tryz.sizeLo (aaq)) pf ?_);obtain ⟨k0,k1⟩:=Ph cf;refine wpAnyH_done Z ?_ _;go_wp2;exact bodyPost_ret (v:=aI #[K M n1 P,K aa n2 af]) iQ rfl ⟨_,_,_,_,rfl,(bo.grown f (.inr (by intro a;have:=bo.ku _ a;omega))).mono' A,(bg.grown f (.inr (by intro a;have:=bg.ku _ a;omega))).mono' A,DF,below_grown T.b f A (fun q c=>fB)⟩
theorem Ad (wk:Int) (up:Bool) (now sn ep gv:Int) (a1 a2 ar aj az ao:Option Addr) (b1 o1:Nat) (ca b2 o2:Nat) (cb br or':Nat) (cr bj oj:Nat) (cj bs dj:Nat) {f:Nat} (cs bo oo:Nat) (co:Nat) (L1 L2 R:List ByteArray) (J:List Tr) (S:List (Bool × Int)) (bf:List Tr) (w:World) (h0:kS w a1 b1 o1 n1 L1) (h1:kS w a2 b2 o2 n2 L2) (h2:kS w ar br or' nr R) (h3:qZ w aj bj oj nj J) (h4:Ag w az bs dj f S) (h5:qZ w ao bo oo no bf) (m0:n1≤1048576) (m1:n2≤1048576) (m2:nr≤1048576) (m3:nj≤1048576) (m4:f≤1048576) (m5:no≤1048576) :
  Calls prog 34 #[aI #[I Y wk,aF up,I Y now,I Y sn,I Y ep,I Y gv,K a1 n1 ca,K a2 n2 cb,K ar nr cr,K aj nj cj,K az f cs,K ao no co]] w fun e w'=>∃ z M H N k l r u L P T V,e=.returned (aI #[I Y wk,aF up,I Y now,I Y sn,I Y ep,I Y gv,K z n1 M,K H n2 N,K k nr l,K r nj u,K L f P,K T no V])∧(Own w.heap.size w' 1 (K z n1 M) n1 (L1.map E)∧Own w.heap.size w' 1 (K H n2 N) n2 (L2.map E)∧Own w.heap.size w' 1 (K k nr l) nr (R.map E)∧Own w.heap.size w' 3 (K r nj u) nj (c3 J)∧Own w.heap.size w' 2 (K L f P) f (c2 S)∧Own w.heap.size w' 3 (K T no V) no (c3 bf))∧List.Pairwise Dj [(K z n1 M).ownBlock,(K H n2 N).ownBlock,(K k nr l).ownBlock,(K r nj u).ownBlock,(K L f P).ownBlock,(K T no V).ownBlock]∧Below w.heap.size w w':=by
 obtain ⟨i0,cw,c4,c5,c6⟩:=info_parts Tryz.infoSt;obtain ⟨i3,cx,c7,c8,c9⟩:=info_parts Tryz.infoJb;obtain ⟨i4,cy,da,db,dc⟩:=info_parts Tryz.infoSe;obtain ⟨i5,cz,de,df,dg⟩:=info_parts Tryz.infoOw;obtain ⟨W, hW⟩ := kC ((w.alloc (aH #[I Y wk,aF up,I Y now,I Y sn,I Y ep,I Y gv,K a1 n1 ca,K a2 n2 cb,K ar nr cr,K aj nj cj,K az f cs,K ao no co] 30)).alloc (aH ni 30));have B0:Below w.heap.size w W:=jT;have z0:w.heap.size+2≤W.heap.size:=dF;have P0:CF W w.heap.size [I Y wk,aF up,I Y now,I Y sn,I Y ep,I Y gv,K a1 n1 ca,K a2 n2 cb,K ar nr cr,K aj nj cj,K az f cs,K ao no co]:=by
  rw [hW];exact (CF.made w #[I Y wk,aF up,I Y now,I Y sn,I Y ep,I Y gv,K a1 n1 ca,K a2 n2 cb,K ar nr cr,K aj nj cj,K az f cs,K ao no co] 30).block (kU _ _ _ D)
 have R0:CF W (w.heap.size+1) zB:=by
  rw [hW];have:=CF.made (w.alloc (aH #[I Y wk,aF up,I Y now,I Y sn,I Y ep,I Y gv,K a1 n1 ca,K a2 n2 cb,K ar nr cr,K aj nj cj,K az f cs,K ao no co] 30)) ni 30;simpa [zB] using this
 have HW:=hid hW;clear hW;go_enter func34,ntmps34
 go_upto_region 1 with fail
 rw [← HW.out];clear HW;obtain ⟨-,-,-,-,-,-,y6,y7⟩:=ER P0;go_upto_region 2 with (go_at_call 53;refine (YT a1 a2 b1 o1 n1 ca b2 o2 n2 cb L1 L2 (h0.below' B0) (h1.below' B0) m0 m1).mono ?_;rintro e u0 ⟨z,M,H,N,rfl,bn,bp,b4,bc⟩;have g:=P0.block (bc.block w.heap.size A);have Ru:=R0.block (bc.block (w.heap.size+1) A);have Bu:=B0.trans (bc.mono B0.size);have zu:w.heap.size+2≤u0.heap.size:=lH z0 bc.size;have dk:u0.cell? ⟨w.heap.size,6,C⟩=U (K a1 n1 ca):=(g 6 D).1;have dm:u0.cell? ⟨w.heap.size,7,C⟩=U (K a2 n2 cb):=(g 7 D).1;have ct:u0.frozen? ⟨w.heap.size,6,C⟩=aK:=(g 6 D).2;have cu:u0.frozen? ⟨w.heap.size,7,C⟩=aK:=(g 7 D).2)
 have g6:=lU (lU (lJ u0 (U w.heap.size)) 6 (K z n1 M)) 7 (K H n2 N);have P2:=(g.set (j:=6) D (K z n1 M)).set (j:=7) D (K H n2 N);simp only [oV,pW] at P2;have R2:=Ru.block (g6.block (w.heap.size+1) A gY);have B2:=(Bu.setCell (p:=⟨w.heap.size,6,C⟩) aT (K z n1 M)).setCell (p:=⟨w.heap.size,7,C⟩) aT (K H n2 N);have z2:=lH zu g6.size;have ak:=(bn.mono' z0).grown g6 (.inr (by intro a;have:=(bn.mono' z0).ku _ a;omega));have au:=(bp.mono' z0).grown g6 (.inr (by intro a;have:=(bp.mono' z0).ku _ a;omega));have b6:=hid b4;obtain ⟨V2, bg⟩ := kC ((u0.setCell ⟨w.heap.size,6,C⟩ (K z n1 M)).setCell ⟨w.heap.size,7,C⟩ (K H n2 N));rw [← bg] at P2 R2 B2 z2 ak au;rw [← bg];clear bg g6 bn bp b4 bc g Ru Bu zu dk dm ct cu y6 y7 P0 R0 B0 z0;have y:V2.cell? ⟨w.heap.size,8,C⟩=U (K ar nr cr):=(P2 8 D).1;have aa:Own (w.heap.size+2) (V2.alloc (aH #[] 9)) 1 (K (U ⟨V2.heap.size,0,C⟩) 0 0) 0 [] :=
  .inr ⟨_,0,0,rfl,kW.made V2 (w.heap.size+2) 9 1 0 0 _ 0 z2 kL G rfl kL _ rfl _ (.inl rfl)⟩
 have X:Below w.heap.size w (V2.alloc (aH #[] 9)):=B2.alloc B2.size _;have PE:CF (V2.alloc (aH #[] 9)) w.heap.size [I Y wk,aF up,I Y now,I Y sn,I Y ep,I Y gv,K z n1 M,K H n2 N,K ar nr cr,K aj nj cj,K az f cs,K ao no co]:=P2.block (kU _ _ _ A);have RE:CF (V2.alloc (aH #[] 9)) (w.heap.size+1) zB:=R2.block (kU _ _ _ A);have yE:(V2.alloc (aH #[] 9)).cell? ⟨w.heap.size,8,C⟩=U (K ar nr cr):=(PE 8 D).1;have zE:w.heap.size+2≤(V2.alloc (aH #[] 9)).heap.size:=aQ;have af:w.heap.size<(V2.alloc (aH #[] 9)).heap.size:=A;have ag:w.heap.size+1<(V2.alloc (aH #[] 9)).heap.size:=A;have sr:Src prog 1 23 (K ar nr cr) nr (R.map E) (V2.alloc (aH #[] 9)):=(h2.below' X).IV cr;have i:Hid ((V2.alloc (aH #[] 9)).heap.size=V2.heap.size+1):=hid D;have ab:=ak.alloc (aH #[] 9);have ae:=au.alloc (aH #[] 9);go_upto_region 3 with (at_builtin;refine kT _ rfl _ _ 23 23 rfl (w.heap.size+2) 9 i0 (E ⟨#[]⟩) 1 16 underlying23 cw c4 c5 c6 rfl _ 0 _ rfl aa _ nr _ rfl sr G A zE ?_;intro v2 u2 h c o;rw [ny,oG] at h;obtain ⟨k,l,rfl⟩:=h.slc;have Q:=aa.ku;have g:=PE.block (c.block w.heap.size af (fun e=>dX));have Ru:=RE.block (c.block (w.heap.size+1) ag (fun e=>dX));have Bu:=below_grown X c (lH (Xe _ 2) zE) (fun q d=>by have:=Q q d;omega);have yu:u2.cell? ⟨w.heap.size,8,C⟩=U (K ar nr cr):=(g 8 D).1;have fu:u2.frozen? ⟨w.heap.size,8,C⟩=aK:=(g 8 D).2;have zu:w.heap.size+2≤u2.heap.size:=lH zE c.size)
 have P3:=g.set (j:=8) D (K k nr l);simp only [oV,pW] at P3;have gs:=lU (lJ u2 (U w.heap.size)) 8 (K k nr l);have R3:=Ru.block (nK u2 (⟨w.heap.size,8,C⟩:Addr) (K k nr l) (w.heap.size+1) aT);have B3:=Bu.setCell (p:=⟨w.heap.size,8,C⟩) aT (K k nr l);have z3:w.heap.size+2≤(u2.setCell ⟨w.heap.size,8,C⟩ (K k nr l)).heap.size:=bY;have ay:=h.grown gs (.inr fC);have b7:Hid (Dj (K z n1 M).ownBlock (K k nr l).ownBlock):=by
  rcases o with e | e
  ·exact Dj.new ak.kD (.inr e)
  ·exact Dj.new (fun q d=>by have h5:=ak.kD q d;have h6:=i.out;omega) (.inr e)
 have al:=(ab.grown c (Dj.new ak.kD (.inr rfl))).grown gs (.inr (by intro a;have:=ak.ku _ a;omega));have cd:Hid (Dj (K H n2 N).ownBlock (K k nr l).ownBlock):=by
  rcases o with e | e
  ·exact Dj.new au.kD (.inr e)
  ·exact Dj.new (fun q d=>by have h5:=au.kD q d;have h6:=i.out;omega) (.inr e)
 have av:=(ae.grown c (Dj.new au.kD (.inr rfl))).grown gs (.inr (by intro a;have:=au.ku _ a;omega));obtain ⟨V3, bh⟩ := kC (u2.setCell ⟨w.heap.size,8,C⟩ (K k nr l));rw [← bh] at P3 R3 B3 z3 al av ay;rw [← bh];clear bh y sr yu fu zu g Ru Bu gs h c o Q aa X PE RE yE zE af ag i P2 R2 B2 z2 ak ab au ae;have y:V3.cell? ⟨w.heap.size,9,C⟩=U (K aj nj cj):=(P3 9 D).1;have aa:Own (w.heap.size+2) (V3.alloc (aH #[] 61)) 3 (K (U ⟨V3.heap.size,0,C⟩) 0 0) 0 [] :=
  .inr ⟨_,0,0,rfl,kW.made V3 (w.heap.size+2) 61 3 0 0 _ 0 z3 kL G rfl kL _ rfl _ (.inl rfl)⟩
 have X:Below w.heap.size w (V3.alloc (aH #[] 61)):=B3.alloc B3.size _;have PE:CF (V3.alloc (aH #[] 61)) w.heap.size [I Y wk,aF up,I Y now,I Y sn,I Y ep,I Y gv,K z n1 M,K H n2 N,K k nr l,K aj nj cj,K az f cs,K ao no co]:=P3.block (kU _ _ _ A);have RE:CF (V3.alloc (aH #[] 61)) (w.heap.size+1) zB:=R3.block (kU _ _ _ A);have yE:(V3.alloc (aH #[] 61)).cell? ⟨w.heap.size,9,C⟩=U (K aj nj cj):=(PE 9 D).1;have zE:w.heap.size+2≤(V3.alloc (aH #[] 61)).heap.size:=aQ;have af:w.heap.size<(V3.alloc (aH #[] 61)).heap.size:=A;have ag:w.heap.size+1<(V3.alloc (aH #[] 61)).heap.size:=A;have sr:Src prog 3 26 (K aj nj cj) nj (c3 J) (V3.alloc (aH #[] 61)):=(h3.below' X).src 26 61 underlying26 cj;have i:Hid ((V3.alloc (aH #[] 61)).heap.size=V3.heap.size+1):=hid D;have ab:=al.alloc (aH #[] 61);have ae:=av.alloc (aH #[] 61);have ah:=ay.alloc (aH #[] 61);go_upto_region 4 with (at_builtin;refine kT _ rfl _ _ 26 26 rfl (w.heap.size+2) 61 i3 (aI rV) 3 24 underlying26 cx c7 c8 c9 rfl _ 0 _ rfl aa _ nj _ rfl sr G A zE ?_;intro v3 u3 h c o;rw [ny,oG] at h;obtain ⟨r,u,rfl⟩:=h.slc;have Q:=aa.ku;have g:=PE.block (c.block w.heap.size af (fun e=>dX));have Ru:=RE.block (c.block (w.heap.size+1) ag (fun e=>dX));have Bu:=below_grown X c (lH (Xe _ 2) zE) (fun q d=>by have:=Q q d;omega);have yu:u3.cell? ⟨w.heap.size,9,C⟩=U (K aj nj cj):=(g 9 D).1;have fu:u3.frozen? ⟨w.heap.size,9,C⟩=aK:=(g 9 D).2;have zu:w.heap.size+2≤u3.heap.size:=lH zE c.size)
 have P4:=g.set (j:=9) D (K r nj u);simp only [oV,pW] at P4;have gs:=lU (lJ u3 (U w.heap.size)) 9 (K r nj u);have R4:=Ru.block (nK u3 (⟨w.heap.size,9,C⟩:Addr) (K r nj u) (w.heap.size+1) aT);have B4:=Bu.setCell (p:=⟨w.heap.size,9,C⟩) aT (K r nj u);have z4:w.heap.size+2≤(u3.setCell ⟨w.heap.size,9,C⟩ (K r nj u)).heap.size:=bY;have a8:=h.grown gs (.inr fC);have b8:Hid (Dj (K z n1 M).ownBlock (K r nj u).ownBlock):=by
  rcases o with e | e
  ·exact Dj.new al.kD (.inr e)
  ·exact Dj.new (fun q d=>by have h5:=al.kD q d;have h6:=i.out;omega) (.inr e)
 have an:=(ab.grown c (Dj.new al.kD (.inr rfl))).grown gs (.inr (by intro a;have:=al.ku _ a;omega));have cf:Hid (Dj (K H n2 N).ownBlock (K r nj u).ownBlock):=by
  rcases o with e | e
  ·exact Dj.new av.kD (.inr e)
  ·exact Dj.new (fun q d=>by have h5:=av.kD q d;have h6:=i.out;omega) (.inr e)
 have aw:=(ae.grown c (Dj.new av.kD (.inr rfl))).grown gs (.inr (by intro a;have:=av.ku _ a;omega));have ck:Hid (Dj (K k nr l).ownBlock (K r nj u).ownBlock):=by
  rcases o with e | e
  ·exact Dj.new ay.kD (.inr e)
  ·exact Dj.new (fun q d=>by have h5:=ay.kD q d;have h6:=i.out;omega) (.inr e)
 have a6:=(ah.grown c (Dj.new ay.kD (.inr rfl))).grown gs (.inr (by intro a;have:=ay.ku _ a;omega));obtain ⟨V4, bk⟩ := kC (u3.setCell ⟨w.heap.size,9,C⟩ (K r nj u));rw [← bk] at P4 R4 B4 z4 an aw a6 a8;rw [← bk];clear bk y sr yu fu zu g Ru Bu gs h c o Q aa X PE RE yE zE af ag i P3 R3 B3 z3 al ab av ae ay ah;have y:V4.cell? ⟨w.heap.size,10,C⟩=U (K az f cs):=(P4 10 D).1;have aa:Own (w.heap.size+2) (V4.alloc (aH #[] 54)) 2 (K (U ⟨V4.heap.size,0,C⟩) 0 0) 0 [] :=
  .inr ⟨_,0,0,rfl,kW.made V4 (w.heap.size+2) 54 2 0 0 _ 0 z4 kL G rfl kL _ rfl _ (.inl rfl)⟩
 have X:Below w.heap.size w (V4.alloc (aH #[] 54)):=B4.alloc B4.size _;have PE:CF (V4.alloc (aH #[] 54)) w.heap.size [I Y wk,aF up,I Y now,I Y sn,I Y ep,I Y gv,K z n1 M,K H n2 N,K k nr l,K r nj u,K az f cs,K ao no co]:=P4.block (kU _ _ _ A);have RE:CF (V4.alloc (aH #[] 54)) (w.heap.size+1) zB:=R4.block (kU _ _ _ A);have yE:(V4.alloc (aH #[] 54)).cell? ⟨w.heap.size,10,C⟩=U (K az f cs):=(PE 10 D).1;have zE:w.heap.size+2≤(V4.alloc (aH #[] 54)).heap.size:=aQ;have af:w.heap.size<(V4.alloc (aH #[] 54)).heap.size:=A;have ag:w.heap.size+1<(V4.alloc (aH #[] 54)).heap.size:=A;have sr:Src prog 2 27 (K az f cs) f (c2 S) (V4.alloc (aH #[] 54)):=(h4.below' X).src 27 54 underlying27 cs;have i:Hid ((V4.alloc (aH #[] 54)).heap.size=V4.heap.size+1):=hid D;have ab:=an.alloc (aH #[] 54);have ae:=aw.alloc (aH #[] 54);have ah:=a6.alloc (aH #[] 54);have bd:=a8.alloc (aH #[] 54);go_upto_region 5 with (at_builtin;refine kT _ rfl _ _ 27 27 rfl (w.heap.size+2) 54 i4 (aI #[aF aK,I Y 0]) 2 16 underlying27 cy da db dc rfl _ 0 _ rfl aa _ f _ rfl sr G A zE ?_;intro v4 u4 h c o;rw [ny,oG] at h;obtain ⟨L,P,rfl⟩:=h.slc;have Q:=aa.ku;have g:=PE.block (c.block w.heap.size af (fun e=>dX));have Ru:=RE.block (c.block (w.heap.size+1) ag (fun e=>dX));have Bu:=below_grown X c (lH (Xe _ 2) zE) (fun q d=>by have:=Q q d;omega);have yu:u4.cell? ⟨w.heap.size,10,C⟩=U (K az f cs):=(g 10 D).1;have fu:u4.frozen? ⟨w.heap.size,10,C⟩=aK:=(g 10 D).2;have zu:w.heap.size+2≤u4.heap.size:=lH zE c.size)
 have P5:=g.set (j:=10) D (K L f P);simp only [oV,pW] at P5;have gs:=lU (lJ u4 (U w.heap.size)) 10 (K L f P);have R5:=Ru.block (nK u4 (⟨w.heap.size,10,C⟩:Addr) (K L f P) (w.heap.size+1) aT);have B5:=Bu.setCell (p:=⟨w.heap.size,10,C⟩) aT (K L f P);have z5:w.heap.size+2≤(u4.setCell ⟨w.heap.size,10,C⟩ (K L f P)).heap.size:=bY;have bb:=h.grown gs (.inr fC);have b9:Hid (Dj (K z n1 M).ownBlock (K L f P).ownBlock):=by
  rcases o with e | e
  ·exact Dj.new an.kD (.inr e)
  ·exact Dj.new (fun q d=>by have h5:=an.kD q d;have h6:=i.out;omega) (.inr e)
 have aq:=(ab.grown c (Dj.new an.kD (.inr rfl))).grown gs (.inr (by intro a;have:=an.ku _ a;omega));have cg:Hid (Dj (K H n2 N).ownBlock (K L f P).ownBlock):=by
  rcases o with e | e
  ·exact Dj.new aw.kD (.inr e)
  ·exact Dj.new (fun q d=>by have h5:=aw.kD q d;have h6:=i.out;omega) (.inr e)
 have ax:=(ae.grown c (Dj.new aw.kD (.inr rfl))).grown gs (.inr (by intro a;have:=aw.ku _ a;omega));have cl:Hid (Dj (K k nr l).ownBlock (K L f P).ownBlock):=by
  rcases o with e | e
  ·exact Dj.new a6.kD (.inr e)
  ·exact Dj.new (fun q d=>by have h5:=a6.kD q d;have h6:=i.out;omega) (.inr e)
 have a7:=(ah.grown c (Dj.new a6.kD (.inr rfl))).grown gs (.inr (by intro a;have:=a6.ku _ a;omega));have cn:Hid (Dj (K r nj u).ownBlock (K L f P).ownBlock):=by
  rcases o with e | e
  ·exact Dj.new a8.kD (.inr e)
  ·exact Dj.new (fun q d=>by have h5:=a8.kD q d;have h6:=i.out;omega) (.inr e)
 have ba:=(bd.grown c (Dj.new a8.kD (.inr rfl))).grown gs (.inr (by intro a;have:=a8.ku _ a;omega));obtain ⟨V5, bl⟩ := kC (u4.setCell ⟨w.heap.size,10,C⟩ (K L f P));rw [← bl] at P5 R5 B5 z5 aq ax a7 ba bb;rw [← bl];clear bl y sr yu fu zu g Ru Bu gs h c o Q aa X PE RE yE zE af ag i P4 R4 B4 z4 an ab aw ae a6 ah a8 bd;have y:V5.cell? ⟨w.heap.size,11,C⟩=U (K ao no co):=(P5 11 D).1;have aa:Own (w.heap.size+2) (V5.alloc (aH #[] 56)) 3 (K (U ⟨V5.heap.size,0,C⟩) 0 0) 0 [] :=
  .inr ⟨_,0,0,rfl,kW.made V5 (w.heap.size+2) 56 3 0 0 _ 0 z5 kL G rfl kL _ rfl _ (.inl rfl)⟩
 have X:Below w.heap.size w (V5.alloc (aH #[] 56)):=B5.alloc B5.size _;have PE:CF (V5.alloc (aH #[] 56)) w.heap.size [I Y wk,aF up,I Y now,I Y sn,I Y ep,I Y gv,K z n1 M,K H n2 N,K k nr l,K r nj u,K L f P,K ao no co]:=P5.block (kU _ _ _ A);have RE:CF (V5.alloc (aH #[] 56)) (w.heap.size+1) zB:=R5.block (kU _ _ _ A);have yE:(V5.alloc (aH #[] 56)).cell? ⟨w.heap.size,11,C⟩=U (K ao no co):=(PE 11 D).1;have zE:w.heap.size+2≤(V5.alloc (aH #[] 56)).heap.size:=aQ;have af:w.heap.size<(V5.alloc (aH #[] 56)).heap.size:=A;have ag:w.heap.size+1<(V5.alloc (aH #[] 56)).heap.size:=A;have sr:Src prog 3 28 (K ao no co) no (c3 bf) (V5.alloc (aH #[] 56)):=(h5.below' X).src 28 56 underlying28 co;have i:Hid ((V5.alloc (aH #[] 56)).heap.size=V5.heap.size+1):=hid D;have ab:=aq.alloc (aH #[] 56);have ae:=ax.alloc (aH #[] 56);have ah:=a7.alloc (aH #[] 56);have bd:=ba.alloc (aH #[] 56);have b5:=bb.alloc (aH #[] 56);go_upto_region 6 with (at_builtin;refine kT _ rfl _ _ 28 28 rfl (w.heap.size+2) 56 i5 (aI rV) 3 24 underlying28 cz de df dg rfl _ 0 _ rfl aa _ no _ rfl sr G A zE ?_;intro v5 u5 h c o;rw [ny,oG] at h;obtain ⟨T,V,rfl⟩:=h.slc;have Q:=aa.ku;have g:=PE.block (c.block w.heap.size af (fun e=>dX));have Ru:=RE.block (c.block (w.heap.size+1) ag (fun e=>dX));have Bu:=below_grown X c (lH (Xe _ 2) zE) (fun q d=>by have:=Q q d;omega);have yu:u5.cell? ⟨w.heap.size,11,C⟩=U (K ao no co):=(g 11 D).1;have fu:u5.frozen? ⟨w.heap.size,11,C⟩=aK:=(g 11 D).2;have zu:w.heap.size+2≤u5.heap.size:=lH zE c.size)
 have P6:=g.set (j:=11) D (K T no V);simp only [oV,pW] at P6;have gs:=lU (lJ u5 (U w.heap.size)) 11 (K T no V);have R6:=Ru.block (nK u5 (⟨w.heap.size,11,C⟩:Addr) (K T no V) (w.heap.size+1) aT);have B6:=Bu.setCell (p:=⟨w.heap.size,11,C⟩) aT (K T no V);have z6:w.heap.size+2≤(u5.setCell ⟨w.heap.size,11,C⟩ (K T no V)).heap.size:=bY;have b3:=h.grown gs (.inr fC);have cc:Hid (Dj (K z n1 M).ownBlock (K T no V).ownBlock):=by
  rcases o with e | e
  ·exact Dj.new aq.kD (.inr e)
  ·exact Dj.new (fun q d=>by have h5:=aq.kD q d;have h6:=i.out;omega) (.inr e)
 have bq:=(ab.grown c (Dj.new aq.kD (.inr rfl))).grown gs (.inr (by intro a;have:=aq.ku _ a;omega));have ch:Hid (Dj (K H n2 N).ownBlock (K T no V).ownBlock):=by
  rcases o with e | e
  ·exact Dj.new ax.kD (.inr e)
  ·exact Dj.new (fun q d=>by have h5:=ax.kD q d;have h6:=i.out;omega) (.inr e)
 have bu:=(ae.grown c (Dj.new ax.kD (.inr rfl))).grown gs (.inr (by intro a;have:=ax.ku _ a;omega));have cm:Hid (Dj (K k nr l).ownBlock (K T no V).ownBlock):=by
  rcases o with e | e
  ·exact Dj.new a7.kD (.inr e)
  ·exact Dj.new (fun q d=>by have h5:=a7.kD q d;have h6:=i.out;omega) (.inr e)
 have bw:=(ah.grown c (Dj.new a7.kD (.inr rfl))).grown gs (.inr (by intro a;have:=a7.ku _ a;omega));have cp:Hid (Dj (K r nj u).ownBlock (K T no V).ownBlock):=by
  rcases o with e | e
  ·exact Dj.new ba.kD (.inr e)
  ·exact Dj.new (fun q d=>by have h5:=ba.kD q d;have h6:=i.out;omega) (.inr e)
 have bz:=(bd.grown c (Dj.new ba.kD (.inr rfl))).grown gs (.inr (by intro a;have:=ba.ku _ a;omega));have cq:Hid (Dj (K L f P).ownBlock (K T no V).ownBlock):=by
  rcases o with e | e
  ·exact Dj.new bb.kD (.inr e)
  ·exact Dj.new (fun q d=>by have h5:=bb.kD q d;have h6:=i.out;omega) (.inr e)
 have b0:=(b5.grown c (Dj.new bb.kD (.inr rfl))).grown gs (.inr (by intro a;have:=bb.ku _ a;omega));obtain ⟨V6, bm⟩ := kC (u5.setCell ⟨w.heap.size,11,C⟩ (K T no V));rw [← bm] at P6 R6 B6 z6 bq bu bw bz b0 b3;rw [← bm];clear bm y sr yu fu zu g Ru Bu gs h c o Q aa X PE RE yE zE af ag i P5 R5 B5 z5 aq ab ax ae a7 ah ba bd bb b5;obtain ⟨y0,y1,y2,y3,y4,y5,y6,y7,y8,y9,dp,dq⟩:=l9 P6;go_wp2_with (refine jY rfl 30 (F 2) (F 27) rfl (w.heap.size+1) zB [I Y wk,aF up,I Y now,I Y sn,I Y ep,I Y gv,K z n1 M,K H n2 N,K k nr l,K r nj u,K L f P,K T no V] rfl rfl R6 rfl Tryz.sizeBo (nP) ?_;intro dn cv ai)
 obtain ⟨k0,k1,k2,k3,k4,k5,k6,k7,k8,k9,dh,di⟩:=l9 cv;refine bodyPost_ret (v:=aI #[I Y wk,aF up,I Y now,I Y sn,I Y ep,I Y gv,K z n1 M,K H n2 N,K k nr l,K r nj u,K L f P,K T no V]) (by simp [results,results34,go_sem,k0,k1,k2,k3,k4,k5,k6,k7,k8,k9,dh,di]) rfl ⟨z,M,H,N,k,l,r,u,L,P,T,V,rfl,⟨(bq.grown ai (.inr (by intro a;have:=bq.ku _ a;omega))).mono' A,(bu.grown ai (.inr (by intro a;have:=bu.ku _ a;omega))).mono' A,(bw.grown ai (.inr (by intro a;have:=bw.ku _ a;omega))).mono' A,(bz.grown ai (.inr (by intro a;have:=bz.ku _ a;omega))).mono' A,(b0.grown ai (.inr (by intro a;have:=b0.ku _ a;omega))).mono' A,(b3.grown ai (.inr (by intro a;have:=b3.ku _ a;omega))).mono' A⟩,?_,below_grown B6 ai A (fun q d=>fA)⟩;simp only [rW,mG,mF,or_false,forall_eq_or_imp,forall_eq,List.Pairwise.nil,and_true,false_implies,implies_true];exact ⟨⟨b6.out,b7.out,b8.out,b9.out,cc.out⟩,⟨cd.out,cf.out,cg.out,ch.out⟩,⟨ck.out,cl.out,cm.out⟩,⟨cn.out,cp.out⟩,cq.out⟩
theorem BD.down {d:BD} {ts:List kJ} (h:d.ok ts) (hu:d.up=aK) (k:Int):d=qR d k:=by
 obtain ⟨wk,up,now,sn,ep,gv,L1,L2,R,J,S,c⟩:=d;dsimp only at hu;subst hu;have a:=Eu h;unfold qE at a;dsimp only at a;obtain ⟨l,rfl,rfl,rfl,o,p,q,r⟩:=a;have e:=oH (by omega:L2.length=0);have f:=oH (by omega:R.length=0);have g:=oH (by omega:J.length=0);have i:=oH (by omega:S.length=0);have j:=oH (by omega:c.length=0);subst e;subst f;subst g;subst i;subst j;simp [qR]
def Zn (a:Option Addr) (n c:Nat):Prop:=∀ (d:Nat),d≤n→∀ (ρ:Operand→Value) (o:Oper) (w:World) (x y:Operand),o.op=.slice 23 x C (U y) C→ρ x=K a n c→ρ y=I Y (d:Nat)→(execOp ρ o).run prog w=.ok (.value (K a d c)) w
theorem Zn.at {o:Nat} (h:n≤c):Zn (U ⟨g,o,C⟩) n c:=fun a d _ _ _ x y e f i=>Yr x y g o n c a (lH d h) e f i
theorem Own.slS (h:Own B w 1 (K a n c) n xs):Zn a n c:=by
 rcases h with ⟨f,_,_⟩ | ⟨g,o,cap,f,k⟩
 ·injection f with d i e
  subst d i e;intro j r ρ o w x y l p q;obtain rfl:j=0:=A;exact VP x y l p q
 ·injection f with d i e
  subst d e;exact Zn.at k.le
theorem MR (d:BD) (h:BH) (z:Option Addr) (pb po H M:Nat) (ts:List kJ) (a:Int) (bq:Zn h.a2 d.L2.length h.c2) (hM:rU w d h) (hT:lN w z pb po H ts) (hs:d.small) :
  Calls prog 11 #[aI (nN d h),aI #[K z H M],I Y a] w fun e w'=>(∃ d',Pq e w.heap.size w' d'∧Jg d ts a d')∧Below w.heap.size w w':=by
 have bo:=hid bq;clear bq;obtain ⟨i0,cc,ch,ck,cl⟩:=info_parts Tryz.infoSt;obtain ⟨W, T⟩ := kC (((w.alloc (aH (nN d h) 30)).alloc (aH #[K z H M] 33)).alloc (aH ni 30));have B0:Below w.heap.size w W:=by rw [T];exact (kQ.alloc D _).alloc aQ _
 have z0:w.heap.size+3≤W.heap.size:=by rw [T];simp
 have P0:CF W w.heap.size (nR d h):=by
  rw [T];exact ((CF.made w (nN d h) 30).block (kU _ _ _ D)).block (kU _ _ _ aQ)
 have L0:CF W (w.heap.size+1) [K z H M]:=by
  rw [T];have:=(CF.made (w.alloc (aH (nN d h) 30)) #[K z H M] 33).block (kU ((w.alloc (aH (nN d h) 30)).alloc (aH #[K z H M] 33)) (aH ni 30) _ D);simpa using this
 have R0:CF W (w.heap.size+2) zB:=by
  rw [T];have:=CF.made ((w.alloc (aH (nN d h) 30)).alloc (aH #[K z H M] 33)) ni 30;simpa [zB] using this
 have bp:EP w d (nR d h):=⟨h,rfl,hM⟩
 have hV:=hid (bp.below' B0);have bu:=hid hs;clear bp hs;have HW:=hid T;clear T;go_enter func11,ntmps11
 go_upto_region 1 with fail
 rw [← HW.out];clear HW;obtain ⟨y0,V,y2,y3,y4,y5,y6,y7,y8,y9,bz,b0⟩:=l9 P0;have kp:W.cell? ⟨w.heap.size+1,0,C⟩=U (K z H M):=(L0 0 D).1;go_wp2_with fail
 refine (Gt d z pb po H M ts hV.out (hT.below' B0) bu.out).mono ?_;rintro e w1 ⟨⟨r,rfl,hr⟩,ab⟩;clear y0 V y2 y3 y4 y5 y6 y7 y8 y9 bz b0 kp;have P1:=P0.block (ab.block w.heap.size A);have R1:=R0.block (ab.block (w.heap.size+2) A);have l:=B0.trans (ab.mono B0.size);have z1:w.heap.size+3≤w1.heap.size:=by have:=ab.size;omega
 have HR:=hid hr;clear hr ab P0 R0 B0 z0 L0;cases r with
 | false =>
  have HN:Hid (¬ d.ok ts):=fun g=>by have:=HR.out.2 g;cases this
  go_upto_region 2 with fail
  go_wp2_with (refine jY rfl 30 (F 6) (F 11) rfl (w.heap.size+2) zB FB rfl rfl R1 rfl Tryz.sizeBo (nP) ?_;intro cm bj p)
  obtain ⟨k0,k1,k2,k3,k4,k5,k6,k7,k8,k9,ah,ai⟩:=l9 bj;exact bodyPost_ret (v:=aI ni) eF rfl ⟨⟨rM,⟨_,rfl,TJ _ _⟩,.inr ⟨HN.out,rfl⟩⟩,below_grown l p A (fun q u=>by simp at u;omega)⟩
 | true =>
  have HV:Hid (d.ok ts):=HR.out.1 rfl;have bw:=bu.out;unfold BD.small at bw;obtain ⟨⟨b1,o1,h1⟩,⟨b2,o2,h2⟩,⟨b3,o3,h3⟩,⟨b4,o4,h4⟩,⟨b5,o5,h5⟩,⟨b6,o6,h6⟩⟩:=hM;have V:w1.cell? ⟨w.heap.size,1,C⟩=U (aF d.up):=(P1 1 D).1;cases aa:d.up with
  | false =>
   rw [aa] at V;go_upto_region 4 with fail
   clear V;obtain ⟨y0,V,y2,y3,y4,y5,y6,y7,y8,y9,bz,b0⟩:=l9 P1;have au:=hid aa;clear aa;go_wp2_with (first | (go_at_call 34;refine (Ad d.wk d.up d.now d.sn d.ep d.gv h.a1 h.a2 h.ar h.aj h.az h.ao b1 o1 h.c1 b2 o2 h.c2 b3 o3 h.cr b4 o4 h.cj b5 o5 h.cs b6 o6 h.co d.L1 d.L2 d.R d.J d.S d.O _ (h1.below' l) (h2.below' l) (h3.below' l) (h4.below' l) (h5.below' l) (h6.below' l) A A A A A A).mono ?_;rintro e w2 ⟨av,a8,aw,ba,ax,bb,ay,bc,a6,bd,a7,bf,rfl,⟨q0,q1,q2,q3,q4,q5⟩,b9,bh⟩;have R2:=R1.block (bh.block (w.heap.size+2) A);have B2:=l.trans (bh.mono l.size);have z2:w.heap.size+3≤w2.heap.size:=(by have:=bh.size;omega)) | (refine jY rfl 30 (F 6) (F 16) rfl (w.heap.size+2) zB [I Y d.wk,aF d.up,I Y d.now,I Y d.sn,I Y d.ep,I Y d.gv,K av d.L1.length a8,K aw d.L2.length ba,K ax d.R.length bb,K ay d.J.length bc,K a6 d.S.length bd,K a7 d.O.length bf] rfl rfl R2 rfl Tryz.sizeBo (nP) ?_;intro cm bj p))
   obtain ⟨k0,k1,k2,k3,k4,k5,k6,k7,k8,k9,ah,ai⟩:=l9 bj;exact bodyPost_ret (v:=aI #[I Y d.wk,aF d.up,I Y d.now,I Y d.sn,I Y d.ep,I Y d.gv,K av d.L1.length a8,K aw d.L2.length ba,K ax d.R.length bb,K ay d.J.length bc,K a6 d.S.length bd,K a7 d.O.length bf]) eF rfl ⟨⟨d,⟨⟨av,aw,ax,ay,a6,a7,a8,ba,bb,bc,bd,bf⟩,rfl,⟨(q0.grown p (.inr gW)).mono' A,(q1.grown p (.inr gV)).mono' A,(q2.grown p (.inr gU)).mono' A,(q3.grown p (.inr gQ)).mono' A,(q4.grown p (.inr gK)).mono' A,(q5.grown p (.inr gJ)).mono' A,b9⟩⟩,.inl ⟨HV.out,BD.down HV.out au.out a⟩⟩,below_grown B2 p A (fun q u=>by simp at u;omega)⟩
  | true =>
   rw [aa] at V;have y7:w1.cell? ⟨w.heap.size,7,C⟩=U (K h.a2 d.L2.length h.c2):=(P1 7 D).1;have au:=hid aa;clear aa;go_upto_if 18 with fail
   go_cut [2] (fun c wx=>∃ k1:Int,c=I Y k1∧k1=max a 0∧wx=w1)
   case first =>
    by_cases c1:a<0
    ·have Q:Hid ((0:Int)=max a 0):=hid (show (0:Int)=max a 0 by omega)
     go_wp2_with fail
     go_meet
     case rel=>exact ⟨0,rfl,Q.out,rfl⟩
    ·have Q:Hid (a=max a 0):=hid (show a=max a 0 by omega)
     go_wp2_with fail
     go_meet
     case rel=>exact ⟨a,rfl,Q.out,rfl⟩
   case rest =>
    obtain ⟨k1,rfl,br,bn⟩:=hcut;subst bn;have aq:=hid br;clear br;go_upto_if 24 with fail
    go_cut [2] (fun c wx=>c=I Y ((pV a d.L2.length:Nat):Int)∧wx=wc)
    case first =>
     by_cases c2:(d.L2.length:Int)<k1
     ·have Q:Hid ((d.L2.length:Int)=((pV a d.L2.length:Nat):Int)):=hid (show (d.L2.length:Int)=((pV a d.L2.length:Nat):Int) by have:=aq.out;unfold pV;omega)
      go_wp2_with fail
      go_meet
      case rel=>exact ⟨by rw [← Q.out],rfl⟩
     ·have Q:Hid (k1=((pV a d.L2.length:Nat):Int)):=hid (show k1=((pV a d.L2.length:Nat):Int) by have:=aq.out;unfold pV;omega)
      go_wp2_with fail
      go_meet
      case rel=>exact ⟨by rw [← Q.out],rfl⟩
    case rest =>
     obtain ⟨rfl,bn⟩:=hcut;subst bn;clear aq au;go_upto_region 9 with fail
     clear V y7;obtain ⟨f, hK⟩ := kC (pV a d.L2.length);have e7:((pV a d.L2.length:Nat):Int)=((f:Nat):Int):=by rw [hK]
     have bg:f≤d.L2.length:=by rw [hK];exact UH
     have HK:=hid hK;clear hK;obtain ⟨L, hU⟩ := kC wc.drew;have k:CF L w.heap.size (nR d h):=by rw [hU];exact P1
     have Rd:CF L (w.heap.size+2) zB:=by rw [hU];exact R1
     have Bd:Below w.heap.size w L:=by rw [hU];exact l.drew
     have zd:w.heap.size+3≤L.heap.size:=by rw [hU];exact z1
     obtain ⟨N, X⟩ := kC (L.alloc (aH #[] 9));have bl:Own (w.heap.size+3) N 1 (K (U ⟨L.heap.size,0,C⟩) 0 0) 0 []:=by rw [X];exact JW L _ zd
     have PE:CF N w.heap.size (nR d h):=by rw [X];exact k.block (kU _ _ _ A)
     have RE:CF N (w.heap.size+2) zB:=by rw [X];exact Rd.block (kU _ _ _ A)
     have BE:Below w.heap.size w N:=by rw [X];exact Bd.alloc Bd.size _
     have zE:w.heap.size+3≤N.heap.size:=by rw [X];simp;omega
     obtain ⟨a9,c9,w3,cf,bk,ae,_⟩:=app0 w N (w.heap.size+3) BE zE h.c1 h1 A bl;have an:=bl.ku;have P3:=PE.block (ae.block w.heap.size A (fun e=>by have:=an _ e.symm;omega));have R3:=RE.block (ae.block (w.heap.size+2) A (fun e=>by have:=an _ e.symm;omega));have B3:=below_grown BE ae A (fun q u=>by have:=an q u;omega);have z3:w.heap.size+3≤w3.heap.size:=lH zE ae.size;obtain ⟨v1,w4,cd,ag,af,_⟩:=l7 (P:=prog) w3 (w.heap.size+3) 23 23 23 9 i0 (E ⟨#[]⟩) 1 16 underlying23 cc ch ck cl rfl _ d.L1.length _ bk _ f _ (((h2.below' B3).Xj f bg).IV h.c2) G A z3;rw [← rD] at ag;obtain ⟨a',c',rfl⟩:=ag.slc;have al:=bk.ku;have P4:=P3.block (af.block w.heap.size A (fun e=>by have:=al _ e.symm;omega));have R4:=R3.block (af.block (w.heap.size+2) A (fun e=>by have:=al _ e.symm;omega));have B4:=below_grown B3 af A (fun q u=>by have:=al q u;omega);have z4:w.heap.size+3≤w4.heap.size:=lH z3 af.size;obtain ⟨w5, bm⟩ := kC (w4.setCells (w.heap.size+2) 0 [I Y d.wk,aF aK,I Y d.now,I Y 0,I Y 0,I Y 0,K a' (d.L1.length+f) c',K C 0 0,K C 0 0,K C 0 0,K C 0 0,K C 0 0]);have ak:w4.grownBy w5 (U (w.heap.size+2)):=by rw [bm];exact gsc
     have b8:CF w5 (w.heap.size+2) [I Y d.wk,aF aK,I Y d.now,I Y 0,I Y 0,I Y 0,K a' (d.L1.length+f) c',K C 0 0,K C 0 0,K C 0 0,K C 0 0,K C 0 0]:=by rw [bm];exact R4.stored rfl
     have P5:=P4.block (ak.block w.heap.size A (by intro g;injection g with g;omega));have bs:=ag.grown ak (.inr (by intro g;have:=ag.ku _ g;omega));have B5:=below_grown B4 ak A (fun q u=>by simp at u;omega);have HO:Hid (lg w5 w.heap.size (qR d a) ⟨a',C,C,C,C,C,c',0,0,0,0,0⟩):=by
      have hl:(d.L1 ++ d.L2.take f).length=d.L1.length+f:=by rw [lD,qI];omega
      have:=XA w5 w.heap.size d.wk d.now (d.L1 ++ d.L2.take f) a' c' (by rw [hl];exact bs.mono' A);rw [HK.out] at this;exact this
     have b7:=hid B5;have HL:Hid (d.L1.length+f=(qR d a).L1.length):=by show _=(d.L1 ++ d.L2.take (pV a d.L2.length)).length;rw [← HK.out,lD,qI];show _=_;omega
     have cg:Hid (∀ (ρ:Operand→Value) (o:Oper) (w:World) (x y:Operand),o.op=.slice 23 x C (U y) C→ρ x=K h.a2 d.L2.length h.c2→ρ y=I Y (((pV a d.L2.length:Nat):Int))→(execOp ρ o).run prog w=.ok (.value (K h.a2 f h.c2)) w):=hid (fun ρ o w x y ho hx hy=>by
      exact bo.out f bg ρ o w x y ho hx (by rw [hy,e7]))
     clear bl bk ag bs ae af al an Bd BE B3 B4 B5 ak h1 h2 h3 h4 h5 h6 bw bg HK hT e7 RE R3 bo;refine wp_region_held (S:=fun w'=>CF w' w.heap.size (nR d h)) Z ?_;change wpAnyH _ _ _ _ _ _ _ _ (World.drew _);rw [← hU];clear hU P1 R1 l z1;refine jZ (i:=0) (d:=U 29) (v:=aG (U ⟨w.heap.size,0,C⟩)) (l':=(bt 18 1)) rfl (fun _ j=>Z) k ?_;refine jZ (i:=1) (d:=U 30) (v:=I Y d.wk) (l':=(bt 18 3)) rfl (fun _ j=>oL (F 29) Z Z (j 0 D).1) k ?_;refine jZ (i:=2) (d:=U 31) (v:=aG (U ⟨w.heap.size,2,C⟩)) (l':=(bt 18 7)) rfl (fun _ j=>Z) k ?_;refine jZ (i:=3) (d:=U 32) (v:=I Y d.now) (l':=(bt 18 15)) rfl (fun _ j=>oL (F 31) Z Z (j 2 D).1) k ?_;refine jZ (i:=5) (d:=U 34) (v:=aG (U ⟨w.heap.size,6,C⟩)) (l':=(bt 18 47)) rfl (fun _ j=>Z) k ?_;refine jZ (i:=6) (d:=U 35) (v:=aG (U ⟨w.heap.size,6,C⟩)) (l':=(bt 18 111)) rfl (fun _ j=>Z) k ?_;refine jZ (i:=7) (d:=U 36) (v:=K h.a1 d.L1.length h.c1) (l':=(bt 18 239)) rfl (fun _ j=>pY (F 35) Z Z (j 6 D).1) k ?_;refine jZ (i:=9) (d:=U 38) (v:=aG (U ⟨w.heap.size,6,C⟩)) (l':=(bt 18 751)) rfl (fun _ j=>Z) k ?_;refine jZ (i:=10) (d:=U 39) (v:=aG (U ⟨w.heap.size,7,C⟩)) (l':=(bt 18 1775)) rfl (fun _ j=>Z) k ?_;refine jZ (i:=11) (d:=U 40) (v:=K h.a2 d.L2.length h.c2) (l':=(bt 18 3823)) rfl (fun _ j=>pY (F 39) Z Z (j 7 D).1) k ?_;refine jZ (i:=12) (d:=U 41) (v:=I Y (((pV a d.L2.length:Nat):Int))) (l':=(bt 18 7919)) rfl (fun _ j=>Z) k ?_;refine jZ (i:=13) (d:=U 42) (v:=K h.a2 f h.c2) (l':=(bt 18 16111)) rfl (fun _ j=>cg.out _ _ _ (F 40) (F 41) Z Z Z) k ?_;refine kF (i:=4) Z (kM (i:=4) (d:=U 33) (v:=K (U ⟨L.heap.size,0,C⟩) 0 0) (w':=N) (l':=(bt 18 16127)) rfl Z Z Z (by rw [X];exact Dp Z) PE ?_);refine kF (i:=8) Z (kM (i:=8) (d:=U 37) (v:=K a9 d.L1.length c9) (w':=w3) (l':=(bt 18 16383)) rfl Z Z Z (ql (F 33) (F 36) 23 23 Z Z Z Z cf) P3 ?_);refine kF (i:=14) Z (kM (i:=14) (d:=U 43) (v:=K a' (d.L1.length+f) c') (w':=w4) (l':=(bt 18 32767)) rfl Z Z Z (ql (F 37) (F 42) 23 23 Z Z Z Z cd) P4 ?_);refine jZ (i:=15) (d:=U 44) (v:=aI #[K a' (d.L1.length+f) c',K C 0 0]) (l':=(bt 18 65535)) rfl (fun _ j=>Wi (F 43) Z Z) P4 ?_;refine jZ (i:=16) (d:=U 45) (v:=aI #[I Y d.wk,aF aK,I Y d.now,I Y 0,I Y 0,I Y 0,K a' (d.L1.length+f) c',K C 0 0,K C 0 0,K C 0 0,K C 0 0,K C 0 0]) (l':=(bt 18 131071)) rfl (fun _ j=>Wh (F 30) (F 32) (F 44) Z Z Z Z) P4 ?_;refine kF (i:=17) Z (lI (i:=17) (w':=w5) (l':=(bt 18 262143)) rfl Z Z Z (by rw [bm];exact lM 30 zB [I Y d.wk,aF aK,I Y d.now,I Y 0,I Y 0,I Y 0,K a' (d.L1.length+f) c',K C 0 0,K C 0 0,K C 0 0,K C 0 0,K C 0 0] (F 6) (F 45) Z Z Z R4 rfl Tryz.sizeBo (nP)) P5 ?_);obtain ⟨k0,k1,k2,k3,k4,k5,k6,k7,k8,k9,ah,ai⟩:=l9 b8;refine wpAnyH_done Z ?_ _;go_wp2;refine bodyPost_ret (v:=aI #[I Y d.wk,aF aK,I Y d.now,I Y 0,I Y 0,I Y 0,K a' (d.L1.length+f) c',K C 0 0,K C 0 0,K C 0 0,K C 0 0,K C 0 0]) eF rfl ⟨⟨qR d a,⟨_,?_,HO.out⟩,.inl ⟨HV.out,rfl⟩⟩,b7.out⟩;rw [HL.out];rfl
end Go.Proofs.YtfkkipgcfoegmaaGreat
