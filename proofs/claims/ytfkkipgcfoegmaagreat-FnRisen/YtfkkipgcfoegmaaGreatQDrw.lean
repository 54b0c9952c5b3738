
import Derived.Test.YtfkkipgcfoegmaaGreatQSRead
set_option maxHeartbeats 1000000
set_option maxRecDepth 100000
namespace Go.Proofs.YtfkkipgcfoegmaaGreat
open Go.Proofs.Tryz
open Go.Value renaming slice→K,string→E,pointer→aG
open Option renaming none→C,some→U
open Go.Value renaming int→I
open Go.IntKind renaming i64→Y
open Go.RowKit
variable {a:Option Addr} {b n:Nat} {ns:List Int} {w w':World}
structure qN (w:World) (a:Option Addr) (b o n:Nat) (ns:List Int):Prop where
 ad:0<n→a=U ⟨b,o,C⟩
 len:ns.length=n
 max:n≤maxLen
 lt:0<n→b<w.heap.size
 cell:∀ j,j<n→w.cell? ⟨b,o+j,C⟩=U (I Y (ns.getD j 0))
 rng:∀ x∈ns,-9223372036854775808≤x∧x≤9223372036854775807
theorem qN.below {o:Nat} {C:Nat} (h:qN w a b o n ns) (c:Below C w w') (d:0<n→b<C):qN w' a b o n ns :=
 ⟨h.ad,h.len,h.max,fun f=>lu (h.lt f) c.size,fun j e=>(c.cell (by exact d A)).trans (h.cell j e),h.rng⟩
theorem qN.below' {o:Nat} (h:qN w a b o n ns) (c:Below w.heap.size w w'):qN w' a b o n ns:=h.below c h.lt
structure kJ where
 name:ByteArray
 cost:Int
 deps:List Int
variable {ts:List kJ}
def dT:kJ:=⟨ByteArray.empty,0,[]⟩
def I64 (x:Int):Prop:=-9223372036854775808≤x∧x≤9223372036854775807
structure lN (w:World) (a:Option Addr) (b o n:Nat) (ts:List kJ):Prop where
 ad:0<n→a=U ⟨b,o,C⟩
 len:ts.length=n
 max:n≤maxLen
 lt:0<n→b<w.heap.size
 c0:∀ j,j<n→w.cell? ⟨b,o+j*3,C⟩=U (E (ts.getD j dT).name)
 c1:∀ j,j<n→w.cell? ⟨b,o+j*3+1,C⟩=U (I Y (ts.getD j dT).cost)
 c2:∀ j,j<n→∃ a' b' o' n' c',w.cell? ⟨b,o+j*3+2,C⟩=U (K a' n' c')∧qN w a' b' o' n' (ts.getD j dT).deps
 okn:∀ j,j<n→(ts.getD j dT).name.size≤maxLen∧I64 (ts.getD j dT).cost
theorem lN.below' {o:Nat} (h:lN w a b o n ts) (c:Below w.heap.size w w'):lN w' a b o n ts :=
 ⟨h.ad,h.len,h.max,fun l=>lu (h.lt l) c.size,fun j d=>(c.cell jR).trans (h.c0 j d),fun j d=>(c.cell jR).trans (h.c1 j d),
  fun j d=>by obtain ⟨e,f,q,p,g,i,k⟩:=h.c2 j d;exact ⟨e,f,q,p,g,(c.cell jR).trans i,k.below' c⟩,h.okn⟩
theorem lN.get {o:Nat} (h:lN w a b o n ts) {k:Nat} (c:k<n) :
  ∃ t d f i e g,t=ts.getD k dT∧w.cell? ⟨b,o+k*3,C⟩=U (E t.name)∧w.cell? ⟨b,o+k*3+1,C⟩=U (I Y t.cost)∧w.cell? ⟨b,o+k*3+2,C⟩=U (K d e g) ∧
   qN w d f i e t.deps∧t.name.size≤maxLen∧I64 t.cost:=by
 obtain ⟨d,f,i,e,g,j,l⟩:=h.c2 k c;exact ⟨_,d,f,i,e,g,rfl,h.c0 k c,h.c1 k c,j,l,(h.okn k c).1,(h.okn k c).2⟩
def Yj (t:kJ):Nat:=t.name.size+t.deps.length
def qF (ts:List kJ):Nat:=(ts.map Yj).sum
theorem Qq (ts:List kJ) (t:kJ):qF (ts ++ [t])=qF ts+Yj t:=by simp [qF]
theorem JB {j:Nat} (a:j<ts.length):ts.take (j+1)=ts.take j ++ [ts.getD j dT]:=by
 rw [Og,nH a];simp [List.getD,List.getElem?_eq_getElem a]
theorem TS (ts:List kJ) (k:Nat):qF (ts.take k)≤qF ts:=by
 have:qF ts=qF (ts.take k)+qF (ts.drop k):=by
  conv=>lhs;rw [← RV k ts]
  unfold qF;rw [rD,List.sum_append]
 omega
theorem Tryz.info3:(prog.info? 3).map (fun i=>(i.zero,i.size,i.bytes))=U (U (I Y 0),1,8):=Z
theorem Tryz.info81:(prog.info? 81).map (fun i=>(i.zero,i.size,i.bytes))=U (U (.agg Nk),3,48):=Z
theorem qN.Au {B:Nat} {g o cap:Nat} (h:kW B w 1 g o cap n (ns.map (I Y))) (c:∀ x∈ns,I64 x):qN w (U ⟨g,o,C⟩) g o n ns:=by
 have a:ns.length=n:=by have:=h.len;simpa using this
 refine ⟨fun _=>rfl,a,lH h.le h.max,fun _=>h.hi,fun j d=>?_,c⟩;rw [h.holds j A,IB,nH A];simp [List.getD,List.getElem?_eq_getElem (show j<ns.length by omega)]



structure lQ where
 kd:Int
 fm:Int
 tw:Int
 ep:Int
 le:Int
 ta:Int
 x:ByteArray
 ss:List ByteArray
variable {B c g k:Nat}
def Fz:lQ:=⟨0,0,0,0,0,0,ByteArray.empty,[]⟩
def rF (M:List lQ) (j:Nat):lQ:=M.getD j Fz
structure Vm (w:World) (a:Option Addr) (b o n:Nat) (M:List lQ):Prop where
 ad:0<n→a=U ⟨b,o,C⟩
 len:M.length=n
 max:n≤maxLen
 lt:0<n→b<w.heap.size
 c0:∀ j,j<n→w.cell? ⟨b,o+j*8,C⟩=U (I Y (rF M j).kd)
 c1:∀ j,j<n→w.cell? ⟨b,o+j*8+1,C⟩=U (I Y (rF M j).fm)
 c2:∀ j,j<n→w.cell? ⟨b,o+j*8+2,C⟩=U (I Y (rF M j).tw)
 c3:∀ j,j<n→w.cell? ⟨b,o+j*8+3,C⟩=U (I Y (rF M j).ep)
 c4:∀ j,j<n→w.cell? ⟨b,o+j*8+4,C⟩=U (I Y (rF M j).le)
 c5:∀ j,j<n→w.cell? ⟨b,o+j*8+5,C⟩=U (I Y (rF M j).ta)
 c6:∀ j,j<n→w.cell? ⟨b,o+j*8+6,C⟩=U (E (rF M j).x)
 cn:∀ j,j<n→∃ a' b' o' c',w.cell? ⟨b,o+j*8+7,C⟩=U (K a' (rF M j).ss.length c')∧kS w a' b' o' (rF M j).ss.length (rF M j).ss
 rng:∀ j,j<n→(rF M j).x.size≤maxLen
 i64:∀ j,j<n→I64 (rF M j).kd∧I64 (rF M j).fm∧I64 (rF M j).tw∧I64 (rF M j).ep∧I64 (rF M j).le∧I64 (rF M j).ta
theorem Vm.below' {o:Nat} {M:List lQ} (h:Vm w a b o n M) (d:Below w.heap.size w w'):Vm w' a b o n M where
 ad:=h.ad
 len:=h.len
 max:=h.max
 lt:=fun l=>lu (h.lt l) d.size
 c0:=fun j c=>(d.cell jR).trans (h.c0 j c)
 c1:=fun j c=>(d.cell jR).trans (h.c1 j c)
 c2:=fun j c=>(d.cell jR).trans (h.c2 j c)
 c3:=fun j c=>(d.cell jR).trans (h.c3 j c)
 c4:=fun j c=>(d.cell jR).trans (h.c4 j c)
 c5:=fun j c=>(d.cell jR).trans (h.c5 j c)
 c6:=fun j c=>(d.cell jR).trans (h.c6 j c)
 cn:=fun j c=>by
  obtain ⟨e,f,p,g,i,k⟩:=h.cn j c;exact ⟨e,f,p,g,(d.cell jR).trans i,k.below' d⟩
 rng:=h.rng
 i64:=h.i64
theorem Tryz.infoMs:(prog.info? 136).map (fun i=>(i.zero,i.size,i.bytes))=U (U (.agg Jl),8,88):=Z
abbrev Pc:=Int × ByteArray × ByteArray
def pc (P:List Pc) (j:Nat):Pc:=P.getD j (0,ByteArray.empty,ByteArray.empty)
def Ku (x:Pc):List Value:=[I Y x.1,E x.2.1,E x.2.2]
def oN (P:List Pc):List Value:=P.flatMap Ku
theorem um (P:List Pc):(oN P).length=P.length*3:=by
 induction P with
 | nil=>rfl
 | cons x r ih=>simp only [oN,FD,lD,pX] at ih ⊢;rw [ih];simp [Ku];omega
theorem JL (a B:List Pc):oN (a ++ B)=oN a ++ oN B:=by simp [oN]
theorem PY {P:List Pc}:∀ u∈oN P,u.oneCell'=true:=by
 intro u hu;obtain ⟨x,_,a⟩:=List.mem_flatMap.1 hu;simp only [Ku,mG,mF,or_false] at a;rcases a with rfl | rfl | rfl <;> rfl
theorem Uu (x:Pc) (P:List Pc) (j:Nat):pc (x :: P) (j+1)=pc P j:=by simp [pc]
theorem Ej (P:List Pc):∀ (j r:Nat),j<P.length→r<3→(oN P)[j*3+r]?=(Ku (pc P j))[r]?:=by
 induction P with
 | nil=>intro j r h;simp at h
 | cons x t ih =>
  intro j r a d;have e:oN (x :: t)=Ku x ++ oN t:=rfl;have c:(Ku x).length=3:=rfl;rw [e];cases j with
  | zero=>rw [nO A,RH,ny];rfl
  | succ j=>rw [qP A,c,show (j+1)*3+r - 3=j*3+r by omega,ih j r (by simpa using a) d,Uu]
theorem aal (P:List Pc):∀ (k:Nat),(oN P).take (k*3)=oN (P.take k):=by
 induction P with
 | nil=>intro k;simp [oN]
 | cons x t ih =>
  intro k;cases k with
  | zero=>simp [oN]
  | succ k =>
   have e:oN (x :: t)=Ku x ++ oN t:=rfl;have a:(Ku x).length=3:=rfl;rw [e,List.take_succ_cons,List.take_append,a,pF A,show (k+1)*3 - 3=k*3 by omega,ih k];rfl
theorem aan (P:List Pc):∀ (k:Nat),(oN P).drop (k*3)=oN (P.drop k):=by
 induction P with
 | nil=>intro k;simp [oN]
 | cons x t ih =>
  intro k;cases k with
  | zero=>simp
  | succ k =>
   have e:oN (x :: t)=Ku x ++ oN t:=rfl;have a:(Ku x).length=3:=rfl;rw [e,List.drop_succ_cons,List.drop_append,a,LM A,show (k+1)*3 - 3=k*3 by omega,ih k];simp
theorem acV {a B:List Pc} (e:a.length=B.length) (h:∀ j,j<a.length→pc a j=pc B j):a=B:=by
 apply WZ e;intro j c d;have:=h j c;simpa [pc,List.getD,List.getElem?_eq_getElem c,List.getElem?_eq_getElem d] using this
theorem acU {P:List Pc} {xs:List Value} (k:xs.length=P.length*3) (h:∀ j,j<P.length→xs[j*3]?=U (I Y (pc P j).1)∧xs[j*3+1]?=U (E (pc P j).2.1)∧xs[j*3+2]?=U (E (pc P j).2.2)):xs=oN P:=by
 apply LG;intro i;by_cases hi:i<P.length*3
 ·obtain ⟨a,c,d⟩:=h (i / 3) A
  have g:i % 3=0∨i % 3=1∨i % 3=2:=A;have f:=Ej P (i / 3) (i % 3) A A;rw [show i / 3*3+i % 3=i by omega] at f;rw [f];rcases g with e | e | e
  ·rw [show i / 3*3=i by omega] at a;rw [a,e];rfl
  ·rw [show i / 3*3+1=i by omega] at c;rw [c,e];rfl
  ·rw [show i / 3*3+2=i by omega] at d;rw [d,e];rfl
 ·rw [DL A,DL (by rw [um];omega)]
structure rE (w:World) (a:Option Addr) (b o n:Nat) (P:List Pc):Prop where
 ad:0<n→a=U ⟨b,o,C⟩
 len:P.length=n
 max:n≤maxLen
 lt:0<n→b<w.heap.size
 c0:∀ j,j<n→w.cell? ⟨b,o+j*3,C⟩=U (I Y (pc P j).1)
 c1:∀ j,j<n→w.cell? ⟨b,o+j*3+1,C⟩=U (E (pc P j).2.1)
 c2:∀ j,j<n→w.cell? ⟨b,o+j*3+2,C⟩=U (E (pc P j).2.2)
 rng:∀ j,j<n→I64 (pc P j).1∧(pc P j).2.1.size≤maxLen∧(pc P j).2.2.size≤maxLen
theorem rE.block {o:Nat} {P:List Pc} (h:rE w a b o n P) (f:w.heap.size≤w'.heap.size) (d:0<n→w'.heap[b]?=w.heap[b]?):rE w' a b o n P :=
 ⟨h.ad,h.len,h.max,fun e=>lu (h.lt e) f,fun j c=>(mV (w:=w) (d A)).trans (h.c0 j c),fun j c=>(mV (w:=w) (d A)).trans (h.c1 j c),fun j c=>(mV (w:=w) (d A)).trans (h.c2 j c),h.rng⟩
theorem rE.below {o C:Nat} {P:List Pc} (h:rE w a b o n P) (c:Below C w w') (d:0<n→b<C):rE w' a b o n P :=
 h.block c.size fun e=>c.block b (d e)
theorem rE.below' {o:Nat} {P:List Pc} (h:rE w a b o n P) (c:Below w.heap.size w w'):rE w' a b o n P:=h.below c h.lt
def aa4 (P:List Pc):Prop:=∀ j,j<P.length→I64 (pc P j).1∧(pc P j).2.1.size≤maxLen∧(pc P j).2.2.size≤maxLen
theorem rE.Au {o cap:Nat} {P:List Pc} (h:kW B w 3 g o cap n (oN P)) (c:aa4 P):rE w (U ⟨g,o,C⟩) g o n P:=by
 have d:P.length=n:=by have:=h.len;rw [um] at this;omega
 refine ⟨fun _=>rfl,d,lH h.le h.max,fun _=>h.hi,fun j a=>?_,fun j a=>?_,fun j a=>?_,fun j a=>c j A⟩
 ·have:=h.holds (j*3+0) A;rw [Ej P j 0 A A] at this;exact this
 ·have:=h.holds (j*3+1) A;rw [Ej P j 1 A A] at this;rw [nS];exact this
 ·have:=h.holds (j*3+2) A;rw [Ej P j 2 A A] at this;rw [nS];exact this
theorem Own.PZ {P:List Pc} (h:Own B w 3 (K a n c) n (oN P)) (k:aa4 P):∃ b o,rE w a b o n P∧(0<n→B≤b):=by
 rcases h with ⟨e,rfl,l⟩ | ⟨g,o,cap,e,i⟩
 ·injection e with f _ _
  have:P=[]:=oH (by have:=congrArg List.length l;rw [um,qJ] at this;omega);subst this;exact ⟨0,0,⟨fun h=>absurd h A,rfl,lG _,fun h=>absurd h A,fun j d=>absurd d A,fun j d=>absurd d A,fun j d=>absurd d A,fun j d=>absurd d A⟩,fun h=>absurd h A⟩
 ·injection e with f _ _
  subst f;exact ⟨g,o,rE.Au i k,fun _=>i.lo⟩
theorem rE.cells {o:Nat} {P:List Pc} (h:rE w a b o n P):∀ j u,(oN P)[j]?=U u→w.cell? ⟨b,o+j,C⟩=U u:=by
 intro j u hu;have f:j<n*3:=by have:=(List.getElem?_eq_some_iff.1 hu).1;rw [um,h.len] at this;exact this
 have c:=Ej P (j / 3) (j % 3) (by rw [h.len];omega) A;rw [show j / 3*3+j % 3=j by omega,hu] at c;have d:j % 3=0∨j % 3=1∨j % 3=2:=A;rcases d with e | e | e
 ·have:=h.c0 (j / 3) A;rw [show o+j / 3*3=o+j by omega] at this;rw [this,c,e];rfl
 ·have:=h.c1 (j / 3) A;rw [show o+j / 3*3+1=o+j by omega] at this;rw [this,c,e];rfl
 ·have:=h.c2 (j / 3) A;rw [show o+j / 3*3+2=o+j by omega] at this;rw [this,c,e];rfl
theorem rE.Pz {o:Nat} {P:List Pc} (h:rE w a b o n P) (tx d:TypeId) (f:prog.underlying tx=U (.slice d)) (k m c:Nat) (g:k+m≤n):Src prog 3 tx (K (U ⟨b,o+k*3,C⟩) m c) m (oN ((P.drop k).take m)) w:=by
 refine Src.ofSlice w f ⟨b,o+k*3,C⟩ m c _ (by rw [um,qI,Jy,h.len];omega) (fun j u hu=>?_) (PY);rw [Addr.add_lit];have e:j<m*3:=by have:=(List.getElem?_eq_some_iff.1 hu).1;rw [um,qI,Jy,h.len] at this;omega
 rw [← aal,← aan,List.getElem?_take,if_pos e,RG] at hu;rw [nS];exact h.cells _ _ hu
theorem rE.src {o:Nat} {P:List Pc} (h:rE w a b o n P) (tx f:TypeId) (d:prog.underlying tx=U (.slice f)) (c:Nat):Src prog 3 tx (K a n c) n (oN P) w:=by
 cases a with
 | none =>
  have g:n=0:=LD fun i=>by have:=h.ad i;cases this
  subst g;have:P=[]:=oH h.len;subst this;exact Src.ofNil w d c
 | some y =>
  by_cases k:0<n
  ·have e:=h.ad k
   injection e with e;subst e;have:=h.Pz tx f d 0 n c A;rw [Oe,pF (by rw [h.len];omega)] at this;simpa using this
  ·obtain rfl:n=0:=by omega
   have:P=[]:=oH h.len;subst this;exact Src.ofSlice w d y 0 c [] rfl (fun j u hu=>by simp at hu) D
theorem Tryz.infoPc:(prog.info? 133).map (fun i=>(i.zero,i.size,i.bytes))=U (U (.agg #[I Y 0,E ⟨#[]⟩,E ⟨#[]⟩]),3,40):=Z
def BytesAt (w:World) (a:Option Addr) (b o n:Nat):Prop:=(0<n→a=U ⟨b,o,C⟩)∧∀ j,j<n→∃ v:Nat,v<256∧w.cell? ⟨b,o+j,C⟩=U (.int .u8 v)
def RD (w:World) (g k:Nat):Prop:=∃ (b o n c p:Nat) (ad:Option Addr),w.cell? ⟨g,0,C⟩=U (K ad n c)∧w.cell? ⟨g,1,C⟩=U (I Y p)∧w.frozen? ⟨g,1,C⟩=false∧BytesAt w ad b o n∧n≤2000∧p≤k∧(0<n→b<g)
theorem RD.keep (h:RD w g k) (f:∀ q,q≤g→w'.heap[q]?=w.heap[q]?):RD w' g k:=by
 obtain ⟨b,o,n,c,p,ad,c0,c1,f1,l,t,u,i⟩:=h;have d:∀ {q:Addr} {v:Value},q.block≤g→w.cell? q=U v→w'.cell? q=U v:=fun {q v} z e=>(mV (w:=w) (f q.block z)).trans e;exact ⟨b,o,n,c,p,ad,d kL c0,d kL c1,(Jw (w:=w) (a:=⟨g,1,C⟩) (f g kL)).trans f1,⟨l.1,fun j s=>by obtain ⟨v,e,r⟩:=l.2 j s;exact ⟨v,e,d (Nat.le_of_lt (i A)) r⟩⟩,t,u,i⟩
theorem RD.lt (h:RD w g k):g<w.heap.size:=by
 obtain ⟨b,o,n,c,p,ad,c0,_⟩:=h;exact Ep _ _ c0
theorem RD.below (h:RD w g k) (a:Below w.heap.size w w'):RD w' g k:=h.keep (fun q c=>a.block q (by have:=h.lt;omega))
theorem RD.drewN (h:RD w g k) (n:Nat):RD (w.drewN n) g k:=h.keep (fun _ _=>rfl)
theorem RD.drew (h:RD w g k):RD w.drew g k:=h.keep (fun _ _=>rfl)
theorem RD.set (h:RD w g k) {p:Addr} (a:g<p.block) (u:Value):RD (w.setCell p u) g k:=h.keep (fun q c=>nK _ _ _ _ A)
theorem RD.grown {row:Option Nat} (h:RD w g k) (a:w.grownBy w' row) (c:∀ q,row=U q→g<q):RD w' g k:=h.keep (fun q d=>a.block q (by have:=h.lt;omega) (fun e=>by have:=c q e.symm;omega))
theorem RD.mono {k':Nat} (h:RD w g k) (e:k≤k'):RD w g k':=by
 obtain ⟨b,o,n,c,p,ad,c0,c1,f1,d,f,i,a⟩:=h;exact ⟨b,o,n,c,p,ad,c0,c1,f1,d,f,lH i e,a⟩
theorem Rl {r:Option Nat} (h:w.grownBy w' r):w.grownBy (w'.drewN n) r:=⟨h.os,h.tape,h.output,h.size,h.block⟩
theorem abx (m n:Nat) (d:m<2 ^ 40) (e:n<2 ^ 40):bits BinOp.xor IntKind.i64 (m:Int) (n:Int)=((m ^^^ n:Nat):Int):=by
 have a:(BitVec.ofInt 64 (m:Int)).toNat=m:=by
  rw [BitVec.ofInt_natCast,BitVec.toNat_ofNat];exact RI A
 have c:(BitVec.ofInt 64 (n:Int)).toNat=n:=by
  rw [BitVec.ofInt_natCast,BitVec.toNat_ofNat];exact RI A
 show IntKind.i64.wrap ((BitVec.ofInt 64 (m:Int) ^^^ BitVec.ofInt 64 (n:Int)).toNat:Int)=_;rw [BitVec.toNat_xor,a,c];have:=Nat.xor_lt_two_pow d e;rw [IntKind.wrap_i64];omega
theorem pick_any (g m k:Nat) (w:World) (h:RD w g k) (hk:k≤1000000) (h1:1≤m) (hm:m≤1000000) :
  Calls prog 17 #[aG (U ⟨g,0,C⟩),I Y m] w fun e w'=>(∃ r:Nat,r<m∧e=.returned (I Y r))∧RD w' g (k+1)∧w.grownBy w' (U g):=by
 obtain ⟨b,o,n,c,p,ad,c0,c1,f1,i,hn,hp,M⟩:=h;obtain ⟨W, a⟩ := kC (w.setCell ⟨g,1,C⟩ (I Y ((p:Int)+1)));have l:w.grownBy W (U g):=by rw [a];exact lU (lJ _ _) 1 _
 have d0:W.cell? ⟨g,0,C⟩=U (K ad n c):=by rw [a,DN _ _ _ _ D];exact c0
 have d1:W.cell? ⟨g,1,C⟩=U (I Y ((p:Int)+1)):=by rw [a];exact Ju _ _ _ c1
 have d:BytesAt W ad b o n:=⟨i.1,fun j hj=>by
  obtain ⟨v,Q,N⟩:=i.2 j hj;exact ⟨v,Q,by rw [a,DN _ _ _ _ (by intro e;injection e with J;have:=M A;omega)];exact N⟩⟩
 have P:RD W g (k+1):=⟨b,o,n,c,p+1,ad,d0,by rw [d1];rfl,by rw [a,Jt];exact f1,d,hn,A,M⟩
 have f:=hid P;have T:=hid a;clear a P i;have ah:¬ (m:Int)<1:=A;go_enter func17,ntmps17
 go_upto_region 2 with fail
 rw [← T.out];by_cases h0:n=0
 ·subst h0
  go_wp2;go_ret;exact ⟨⟨0,A,rfl⟩,f.out,l⟩
 ·have ae:¬ (n:Int)=0:=by omega
  obtain rfl:=d.1 A;by_cases aa:p<n
  ·have ab:(p:Int)<(n:Int):=by omega
   obtain ⟨v,Q,N⟩:=d.2 p aa;go_wp2;go_ret;exact ⟨⟨v % m,Rz _ A,D⟩,f.out,l⟩
  ·have ab:¬ (p:Int)<(n:Int):=by omega
   obtain ⟨i1, s⟩ := kC (p % n);obtain ⟨i2, t⟩ := kC ((p*7+3) % n);obtain ⟨q, u⟩ := kC (p / n);have l1:i1<n:=by rw [s];exact Rz _ A
   have l2:i2<n:=by rw [t];exact Rz _ A
   have lq:q≤p:=by rw [u];exact Nat.div_le_self _ _
   obtain ⟨v1,ak,af⟩:=d.2 i1 l1;obtain ⟨v2,al,ag⟩:=d.2 i2 l2;have J:((p:Int) % (n:Int))=(i1:Int):=by rw [s];simp
   have V:(((p:Int)*7+3) % (n:Int))=(i2:Int):=by rw [t];simp
   have X:((p:Int) / (n:Int))=(q:Int):=by rw [u];simp
   have ai:(0:Int)<(n:Int):=A;clear s t u d;go_wp2;go_quiet (fail)
   obtain ⟨y, R⟩ := kC (v1*131+v2*1117+p*29+q*53);have L:(v1:Int)*131+(v2:Int)*1117+(p:Int)*29+(q:Int)*53=(y:Int):=by rw [R];simp
   have S:y<2 ^ 40:=A;have e5:bits BinOp.xor IntKind.i64 (y:Int) ((y:Int) / 64)=((y ^^^ y / 64:Nat):Int):=by
    rw [show (y:Int) / 64=((y / 64:Nat):Int) by omega];exact abx y (y / 64) S A
   obtain ⟨z, H⟩ := kC (y ^^^ y / 64);have an:z<2 ^ 40:=by rw [H];exact Nat.xor_lt_two_pow S A
   rw [← H] at e5;rw [L];clear R H L J V X;go_wp2;go_ret;exact ⟨⟨z % m,Rz _ A,D⟩,f.out.drewN _,Rl l⟩
theorem Wn {o:Nat} {T:TypeId} (h:BytesAt w a b o n) (f:0<n→b<w.heap.size) (l:n≤2000):RD (w.alloc (.cells #[K a n c,I Y 0] T)) w.heap.size 0:=by
 have d:=CF.made w #[K a n c,I Y 0] T;by_cases g:n=0
 ·subst g
  exact ⟨w.heap.size+1,0,0,c,0,a,(d 0 D).1,(d 1 D).1,(d 1 D).2,⟨fun h=>absurd h A,fun j e=>absurd e A⟩,A,kL,fun h=>absurd h A⟩
 ·have i:=f A
  refine ⟨b,o,n,c,0,a,(d 0 D).1,(d 1 D).1,(d 1 D).2,⟨h.1,fun j e=>?_⟩,l,kL,f⟩;obtain ⟨v,p,k⟩:=h.2 j e;exact ⟨v,p,(mV (w:=w) (a:=⟨b,o+j,C⟩) (kU _ _ _ i)).trans k⟩
theorem XK (a:Option Addr) (b o n c:Nat) (h:BytesAt w a b o n) (d:0<n→b<w.heap.size) (g:n≤c) (p:n≤1048576) :
  Calls prog 15 #[K a n c] w fun e w'=>e=.returned (aG (U ⟨w.heap.size,0,C⟩))∧RD w' w.heap.size 0∧Below w.heap.size w w':=by
 by_cases l:2000<n
 ·have f:(2000:Int)<(n:Int):=by omega
  obtain rfl:=h.1 A;have i:(2000:Int)≤(c:Int):=A;go_enter func15,ntmps15
  go_wp2;go_ret;exact ⟨rfl,Wn (n:=2000) ⟨fun _=>rfl,fun j k=>h.2 j A⟩ (fun _=>d A) kL,kQ⟩
 ·have f:¬ (2000:Int)<(n:Int):=by omega
  go_enter func15,ntmps15
  go_wp2;go_ret;exact ⟨rfl,Wn h d A,kQ⟩
theorem abm {W a:World} (c:Below W.heap.size W a) (p:Addr) (v:Value):W.cell? p=U v→a.cell? p=U v:=fun h=>kV c h
def Oa (e:Ending) (z:Nat):Prop:=∃ y:ByteArray,e=.returned (E y)∧y.size≤z
theorem WI (n:Nat) (w:World) (h:n<10):Calls prog 55 #[I Y n] w fun e w'=>Oa e 1∧Below w.heap.size w w':=by
 have f:¬ (n:Int)<0:=A;have g:(n:Int)<10:=A;have c:=run_convert_bytes_arg (P:=prog) (w.alloc (.cells #[.int .u8 (48+(n:Int))] 5)) 22 5 underlying22 underlying5 w.heap.size 0 1 1 [48+(n:Int)] rfl (fun i hi=>by
  obtain rfl:i=0:=A;simp) 9 underlying9
 obtain ⟨s1, a⟩ := kC (strOfNums [48+(n:Int)]);rw [← a] at c;have d:s1.size≤1:=by rw [a,strOfNums_size];simp
 clear a;go_enter func55,ntmps55
 go_wp2;go_ret;exact ⟨⟨s1,rfl,d⟩,kQ⟩
theorem WH (n:Nat) (h:n<100):Calls prog 55 #[I Y n] w fun e w'=>Oa e 2∧Below w.heap.size w w':=by
 by_cases k:n<10
 ·refine (WI n w k).mono ?_
  rintro e w' ⟨⟨y,rfl,r⟩,l⟩;exact ⟨⟨y,rfl,A⟩,l⟩
 ·have t:¬ (n:Int)<0:=by omega
  have u:¬ (n:Int)<10:=A;have f:∀ a:World,Calls prog 55 #[I Y ((n:Int) / 10)] a fun e w'=>Oa e 1∧Below a.heap.size a w':=fun a=>by
   rw [show (n:Int) / 10=((n / 10:Nat):Int) by omega];exact WI (n / 10) a A
  have j:=hid f;obtain ⟨s1, d⟩ := kC (strOfNums [48+(n:Int) % 10]);have M:s1.size≤1:=by rw [d,strOfNums_size];simp
  have p:=fun (W:World) (g:Nat) (q:W.cell? ⟨g,0,C⟩=U (.int .u8 (48+(n:Int) % 10)))=>run_convert_bytes_arg (P:=prog) W 22 5 underlying22 underlying5 g 0 1 1 [48+(n:Int) % 10] rfl (fun i hi=>by
   obtain rfl:i=0:=A;simpa using q) 9 underlying9
  simp only [← d] at p;have v:IntKind.i64.wrap ((n:Int) / 10)=(n:Int) / 10:=bF;have z:(n:Int).tmod 10=(n:Int) % 10:=aeD A;have H:IntKind.i64.wrap (48+(n:Int) % 10)=48+(n:Int) % 10:=bF;have J:IntKind.u8.wrap (48+(n:Int) % 10)=48+(n:Int) % 10:=by rw [IntKind.wrap_u8];omega
  clear f d;go_enter func55,ntmps55
  go_wp2;go_region_law (first
    | (go_simp;go_at_call 55;refine (j.out _).mono ?_;rintro s a ⟨⟨y,rfl,r⟩,c⟩;have L:¬ 9223372036854775807<y.size+s1.size:=(by omega);have o:=abm c ⟨w.heap.size,0,C⟩ (.int .u8 (48+(n:Int) % 10));simp at o))
  all_goals
   go_wp2;go_ret;refine ⟨⟨y ++ s1,rfl,by rw [Jq];omega⟩,?_⟩;first
    | exact (mD.drew.trans (c.mono kL)).alloc c.size _
    | exact kQ.drew.trans (c.mono D)
theorem uF (g k:Nat) (w:World) (h:RD w g k) (q:k≤1000000) :
  Calls prog 93 #[aG (U ⟨g,0,C⟩)] w fun e w'=>(∃ y:ByteArray,e=.returned (E y)∧y.size=8)∧RD w' g (k+1)∧w.grownBy w' (U g):=by
 go_enter func93,ntmps93
 go_wp2_with fail
 refine (pick_any g 50 k _ h q A A).mono ?_;rintro e H ⟨⟨r,u,rfl⟩,c,i⟩;go_wp2_with fail
 refine (WH r A).mono ?_;rintro e J ⟨⟨y,rfl,v⟩,d⟩;have j:=c.below d;have o:=grownBy_trans i (grownBy_below (r:=U g) d);have s:y.size≤maxLen:=G;clear h c i;go_wp2_with fail
 refine (KW y s).mono ?_;rintro e L ⟨rfl,f⟩;obtain ⟨z, a⟩ := kC (Nl (fnv start y.data.toList));rw [← a];have t:z.size=8:=by rw [a];exact Qs
 have l:=j.below f;have p:=grownBy_trans o (grownBy_below (r:=U g) f);clear a;go_wp2;go_ret;exact ⟨⟨z,rfl,t⟩,l,p⟩
end Go.Proofs.YtfkkipgcfoegmaaGreat
