
import Derived.Test.YtfkkipgcfoegmaaGreatQBtd
set_option maxHeartbeats 2000000
set_option maxRecDepth 100000
namespace Go.Proofs.YtfkkipgcfoegmaaGreat
open Go.Proofs.Tryz
open Go.Value renaming slice→K,string→E,bool→aF,pointer→aG
open Option renaming none→C,some→U
open Go.Value renaming int→I
open Go.IntKind renaming i64→Y
open Go.RowKit
def Xp (S:List (Bool × Int)) (r:Int):Prop:=(∃ k:Nat,Ii S=U k∧r=k)∨(Ii S=C∧r = -1)
theorem XE (wk:Int) (up:Bool) (now sn ep gv:Int) (a1 a2 ar aj az ao:Option Addr) (n1 c1 n2 c2 q cr p cj a cs no co:Nat) (z M:Nat) (S:List (Bool × Int)) {w:World} (c:Ag w az z M a S) :
  Calls prog 112 #[.agg #[I Y wk,aF up,I Y now,I Y sn,I Y ep,I Y gv,K a1 n1 c1,K a2 n2 c2,K ar q cr,K aj p cj,K az a cs,K ao no co]] w fun e w'=>(∃ r:Int,e=.returned (I Y r)∧Xp S r)∧Below w.heap.size w w':=by
 have L:=c.max;unfold maxLen at L;obtain ⟨W, d⟩ := kC (w.alloc (.cells #[I Y wk,aF up,I Y now,I Y sn,I Y ep,I Y gv,K a1 n1 c1,K a2 n2 c2,K ar q cr,K aj p cj,K az a cs,K ao no co] 30));have l:Below w.heap.size w W:=by rw [d];exact kQ
 have t:MC W w.heap.size [I Y wk,aF up,I Y now,I Y sn,I Y ep,I Y gv,K a1 n1 c1,K a2 n2 c2,K ar q cr,K aj p cj,K az a cs,K ao no co]:=by rw [d];exact MC.made w _ _
 have P:w.heap.size<W.heap.size:=by rw [d];simp
 go_enter func112,ntmps112
 go_upto_region 1 with fail
 rw [← d];clear d;have Q:W.cell? ⟨w.heap.size,10,C⟩=U (K az a cs):=t 10 D;clear t;go_wp2_with fail
 go_loopw [3] (fun i wr=>∃ k:Nat,k≤a∧i=I Y k∧(∀ j,j<k→(t2 S j).1=false)∧wr=W) (fun i _=>a - (intOf i).toNat)
 case atStart=>exact ⟨0,lG _,rfl,fun j u=>absurd u A,rfl⟩
 case round =>
  obtain ⟨k,N,rfl,f,rfl⟩:=hrel;by_cases v:k<a
  ·obtain rfl:=c.ad A
   have H:=(c.below' l).c0 k v;obtain ⟨fr, o⟩ := kC ((t2 S k).1);rw [← o] at H;have s:=hid o;clear o;have J:(k:Int)<(a:Int):=A;cases fr with
   | true =>
    have g:=hid (show Xp S (k:Nat) from .inl ⟨k,aaG (by rw [c.len];exact v) s.out.symm f,rfl⟩);go_wp2_with fail
    go_ret;exact ⟨⟨_,rfl,g.out⟩,l⟩
   | false =>
    go_wp2_with fail
    go_roundw
    case rel =>
     refine ⟨k+1,A,aW,fun j u=>?_,by trivial⟩;rcases RP j k with h | h
     ·exact f j h
     ·obtain rfl:j=k:=by omega
      exact s.out.symm
    case measure=>simp [intOf];omega
  ·obtain rfl:k=a:=by omega
   have J:¬ (k:Int)<(k:Int):=A;have g:=hid (show Xp S (-1) from .inr ⟨aaH (by rw [c.len];exact f),rfl⟩);clear f;go_wp2_with fail
   go_ret;exact ⟨⟨_,rfl,g.out⟩,l⟩
def BD.at (d:BD) (st:F8):BD:={d with gv:=st.gv,J:=st.J,S:=st.S}
variable {B Qm b g oo q:Nat} {J:List Tr} {d:BD} {gv:Int} {h:BH} {ob:Obj} {p:Addr} {st:F8} {u v v':Value} {vs:List Value} {w w' w0 w9 wr:World}
theorem QF (J:List Tr) (i:Nat) (x:Tr) (hi:i<J.length) (j:Nat):t3 (J.set i x) j=if i=j then x else t3 J j:=by
 unfold t3;by_cases e:i=j
 ·subst e;simp [List.getD,hi]
 ·rw [if_neg e];simp [List.getD,List.getElem?_set_ne e]
theorem La (S:List (Bool × Int)) (i:Nat) {x:Bool × Int} (hi:i<S.length) (j:Nat):t2 (S.set i x) j=if i=j then x else t2 S j:=by
 unfold t2;by_cases e:i=j
 ·subst e;simp [List.getD,hi]
 ·rw [if_neg e];simp [List.getD,List.getElem?_set_ne e]
theorem WU (J:List Tr) (i:Nat) (hi:i<J.length) (x:Tr):(((c3 J).set (i*3) (I Y x.1)).set (i*3+1) (I Y x.2.1)).set (i*3+2) (I Y x.2.2)=c3 (J.set i x):=by
 refine Yc (by simp [qp]) fun j a=>?_;rw [nV] at a;rw [QF J i x hi j];have g0:=oW J j 0 a A;have g1:=oW J j 1 a A;have g2:=oW J j 2 a A;simp only [Xd,nV,qp];by_cases e:i=j
 ·subst e
  refine ⟨?_,?_,?_⟩
  ·rw [if_neg A,if_neg A,if_pos rfl,if_pos A,if_pos rfl]
  ·rw [if_neg A,if_pos rfl,if_pos A,if_pos rfl]
  ·rw [if_pos rfl,if_pos A,if_pos rfl]
 ·refine ⟨?_,?_,?_⟩
  ·rw [if_neg A,if_neg A,if_neg A,if_neg e];exact g0
  ·rw [if_neg A,if_neg A,if_neg A,if_neg e];exact g1
  ·rw [if_neg A,if_neg A,if_neg A,if_neg e];exact g2
theorem acj (S:List (Bool × Int)) (k:Nat) (c:k<S.length) (b:Bool):(c2 S).set (k*2) (aF b)=c2 (S.set k (b,(t2 S k).2)):=by
 refine SG (by simp [qw]) fun j a=>?_;rw [nV] at a;rw [La S k c j];have g0:=uy S j 0 a A;have g1:=uy S j 1 a A;simp only [Xd,qw];by_cases e:k=j
 ·subst e
  exact ⟨by rw [if_pos rfl,if_pos A,if_pos rfl],by rw [if_neg A,if_pos rfl];exact g1⟩
 ·exact ⟨by rw [if_neg A,if_neg e];exact g0,by rw [if_neg A,if_neg e];exact g1⟩
theorem Own.Ht (h:Own B w 3 v J.length (c3 J)) {i:Nat} (hi:i<J.length):∃ g o c,v=K (U ⟨g,o,C⟩) J.length c∧w.there g (o+i*3) 3 ∧
  ∀ x:Tr,Own B (w.setCells g (o+i*3) [I Y x.1,I Y x.2.1,I Y x.2.2]) 3 v J.length (c3 (J.set i x)):=by
 rcases h with ⟨_,k,_⟩ | ⟨g,o,cap,rfl,a⟩
 ·omega
 ·have p:=a.le
  refine ⟨g,o,cap,rfl,fun j l=>?_,fun x=>.inr ⟨g,o,cap,rfl,?_⟩⟩
  ·have:=a.there (i*3+j) A
   rw [← nS] at this;exact this
  ·have e:=a.setCell (j:=i*3) A (I Y x.1)
   have f:=e.setCell (j:=i*3+1) A (I Y x.2.1);have d:=f.setCell (j:=i*3+2) A (I Y x.2.2);rw [WU J i hi x] at d;exact d
theorem Own.set2 {S:List (Bool × Int)} (h:Own B w 2 v S.length (c2 S)) {k:Nat} (e:k<S.length):∃ g o c,v=K (U ⟨g,o,C⟩) S.length c∧w.cell? ⟨g,o+k*2,C⟩=U (aF (t2 S k).1)∧w.frozen? ⟨g,o+k*2,C⟩=false ∧
  ∀ b:Bool,Own B (w.setCell ⟨g,o+k*2,C⟩ (aF b)) 2 v S.length (c2 (S.set k (b,(t2 S k).2))):=by
 rcases h with ⟨_,f,_⟩ | ⟨g,o,cap,rfl,a⟩
 ·omega
 ·have i:=a.le
  refine ⟨g,o,cap,rfl,?_,(a.there (k*2) A).2,fun b=>.inr ⟨g,o,cap,rfl,?_⟩⟩
  ·rw [a.holds (k*2) A]
   exact uy S k 0 e A
  ·have d:=a.setCell (j:=k*2) A (aF b)
   rw [acj S k e b] at d;exact d
theorem lg.Zu (a:lg w B d h) (f:J.length=d.J.length) (c:w.grownBy w' (K h.aj d.J.length h.cj).ownBlock) (i:Own B w' 3 (K h.aj d.J.length h.cj) d.J.length (c3 J)):lg w' B {d with gv:=gv,J:=J} h:=by
 have e:=a.Ik;simp only [rW,mG,mF,or_false,forall_eq_or_imp,forall_eq,List.Pairwise.nil,and_true,false_implies,implies_true] at e;obtain ⟨⟨_,_,g,_,_⟩,⟨_,d13,_,_⟩,⟨Lh,_,_⟩,⟨Jj,O8⟩,_⟩:=e;refine ⟨a.o0.grown c g,a.o1.grown c d13,a.o2.grown c Lh,?_,a.o4.grown c Jj.symm,a.o5.grown c O8.symm,?_⟩
 ·show Own B w' 3 (K h.aj J.length h.cj) J.length (c3 J)
  rw [f];exact i
 ·have:=a.Ik
  show List.Pairwise Dj [_,_,_,(K h.aj J.length h.cj).ownBlock,_,_];rw [f];exact this
theorem lg.Zt {S:List (Bool × Int)} (a:lg w B d h) (f:S.length=d.S.length) (c:w.grownBy w' (K h.az d.S.length h.cs).ownBlock) (i:Own B w' 2 (K h.az d.S.length h.cs) d.S.length (c2 S)):lg w' B {d with S:=S} h:=by
 have e:=a.Ik;simp only [rW,mG,mF,or_false,forall_eq_or_imp,forall_eq,List.Pairwise.nil,and_true,false_implies,implies_true] at e;obtain ⟨⟨_,_,_,g,_⟩,⟨_,_,Na,_⟩,⟨_,Kz,_⟩,⟨Jj,_⟩,MZ⟩:=e;refine ⟨a.o0.grown c g,a.o1.grown c Na,a.o2.grown c Kz,a.o3.grown c Jj,?_,a.o5.grown c MZ.symm,?_⟩
 ·show Own B w' 2 (K h.az S.length h.cs) S.length (c2 S)
  rw [f];exact i
 ·have:=a.Ik
  show List.Pairwise Dj [_,_,_,_,(K h.az S.length h.cs).ownBlock,_];rw [f];exact this
def yV (d:BD) (h:BH):Option Nat:=(K h.aj d.J.length h.cj).ownBlock
def Ap (d:BD) (h:BH):Option Nat:=(K h.az d.S.length h.cs).ownBlock
structure uz (w0 w:World) (B Qm:Nat) (d:BD) (h:BH) (st:F8) (v:Value) (vs:List Value) (wr:World):Prop where
 bo:lg wr B (d.at st) h
 ms:qy wr Qm v st.M vs
 hb:Below B w0 wr
 gr:Grew [yV d h,Ap d h] w wr
 lj:st.J.length=d.J.length∧st.S.length=d.S.length
 lo:∀ r∈kK d h,∀ q,r=U q→B≤q∧q<w.heap.size
 qm:w.heap.size≤Qm
 sz:Qm≤wr.heap.size
 bs:B≤w.heap.size
theorem JH (a:st.J.length=d.J.length∧st.S.length=d.S.length):kK (d.at st) h=kK d h:=by
 unfold kK BD.at;simp only [a.1,a.2]
theorem Ac (d:BD) (h:BH):yV d h∈kK d h:=by unfold yV kK;simp
theorem qW (d:BD) (h:BH):Ap d h∈kK d h:=by unfold Ap kK;simp
theorem uz.below (H:uz w0 w B Qm d h st v vs wr) (a:Below wr.heap.size wr w'):uz w0 w B Qm d h st v vs w' :=
 ⟨H.bo.below a,H.ms.below a,H.hb.trans (a.mono (lH H.bs (lH H.qm H.sz))),⟨lH H.gr.size a.size,fun q c e=>(a.block q (lu c H.gr.size)).trans (H.gr.block q c e),a.os.trans H.gr.os,a.tape.trans H.gr.tape,a.output.trans H.gr.output⟩,H.lj,H.lo,H.qm,lH H.sz a.size,H.bs⟩
theorem uz.far (H:uz w0 w B Qm d h st v vs wr) (a:wr.grownBy w' (U q)) (o:w.heap.size≤q) (g:Dn v.ownBlock (U q)) (i:∀ j,j<st.M.length→Dn (vs.getD j kH).ownBlock (U q)):uz w0 w B Qm d h st v vs w' :=
 have s:=H.bs;have t:=H.qm;have l:=H.sz
 ⟨H.bo.blk (fun r f p c=>by
   rw [JH H.lj] at f;have:=H.lo r f p c;exact a.block p A (fun e=>O)),
  H.ms.grown a g i,H.hb.grown a A (fun k e=>O),
  ⟨lH H.gr.size a.size,fun p c f=>(a.block p (lu c H.gr.size) (fun e=>O)).trans (H.gr.block p c f),a.os.trans H.gr.os,a.tape.trans H.gr.tape,a.output.trans H.gr.output⟩,H.lj,H.lo,H.qm,lH l a.size,H.bs⟩
theorem uz.X3 (H:uz w0 w B Qm d h st v vs wr) (c:wr.grownBy w' (U q)) (a:w.heap.size≤q) (g:q<Qm):uz w0 w B Qm d h st v vs w' :=
 H.far c a ((Dn.later (x:=U q) (y:=v.ownBlock) (m:=Qm) (fun k e=>O) H.ms.row.ku).symm) (fun j f=>(Dn.later (x:=U q) (m:=Qm) (fun k e=>O) (H.ms.dep j f).ku).symm)
theorem uz.rows (H:uz w0 w B Qm d h st v vs wr) {r:Option Nat} (a:r∈kK d h):Dn v.ownBlock r∧∀ j,j<st.M.length→Dn (vs.getD j kH).ownBlock r :=
 ⟨(Dn.later (m:=Qm) (fun q e=>by have:=H.lo r a q e;have:=H.qm;omega) H.ms.row.ku).symm,fun j c=>(Dn.later (m:=Qm) (fun q e=>by have:=H.lo r a q e;have:=H.qm;omega) (H.ms.dep j c).ku).symm⟩
theorem uz.Nq (H:uz w0 w B Qm d h st v vs wr) (f:J.length=d.J.length) (a:wr.grownBy w' (yV d h)) (g:Own B w' 3 (K h.aj d.J.length h.cj) d.J.length (c3 J)):uz w0 w B Qm d h ⟨gv,J,st.S,st.M⟩ v vs w':=by
 have l:=H.bs;have o:=H.qm;have j:=H.sz;have i:=H.bo;have c:(d.at st).J.length=d.J.length:=H.lj.1;refine ⟨i.Zu (gv:=gv) (by rw [c];exact f) (by rw [c];exact a) (by rw [c];exact g),H.ms.grown a (H.rows (Ac d h)).1 (H.rows (Ac d h)).2,H.hb.grown a A (fun k e=>(H.lo _ (Ac d h) k e).1),?_,⟨f,H.lj.2⟩,H.lo,H.qm,lH j a.size,H.bs⟩;exact H.gr.step (Grew.of a) D
theorem uz.Uc {S:List (Bool × Int)} (H:uz w0 w B Qm d h st v vs wr) (f:S.length=d.S.length) (a:wr.grownBy w' (Ap d h)) (g:Own B w' 2 (K h.az d.S.length h.cs) d.S.length (c2 S)):uz w0 w B Qm d h ⟨st.gv,st.J,S,st.M⟩ v vs w':=by
 have l:=H.bs;have o:=H.qm;have j:=H.sz;have i:=H.bo;have c:(d.at st).S.length=d.S.length:=H.lj.2;refine ⟨i.Zt (by rw [c];exact f) (by rw [c];exact a) (by rw [c];exact g),H.ms.grown a (H.rows (qW d h)).1 (H.rows (qW d h)).2,H.hb.grown a A (fun k e=>(H.lo _ (qW d h) k e).1),?_,⟨H.lj.1,f⟩,H.lo,H.qm,lH j a.size,H.bs⟩;exact H.gr.step (Grew.of a) D
theorem uz.ade {row:Option Nat} (H:uz w0 w B Qm d h st v vs wr) (a:wr.grownBy w' row) (l:∀ q,row=U q→w.heap.size≤q) (g:Dn v.ownBlock row) (i:∀ j,j<st.M.length→Dn (vs.getD j kH).ownBlock row):uz w0 w B Qm d h st v vs w':=by
 cases row with
 | some q=>exact H.far a (l q rfl) g i
 | none =>
  have s:=H.bs;have t:=H.qm;have o:=H.sz;refine ⟨H.bo.blk (fun r f p c=>?_),H.ms.grown a g i,H.hb.grown a A (fun k e=>iY),?_,H.lj,H.lo,H.qm,lH o a.size,H.bs⟩
  ·rw [JH H.lj] at f
   have:=H.lo r f p c;exact a.block p A D
  ·exact ⟨lH H.gr.size a.size,fun p c f=>(a.block p (lu c H.gr.size) D).trans (H.gr.block p c f),a.os.trans H.gr.os,a.tape.trans H.gr.tape,a.output.trans H.gr.output⟩
theorem qy.app {ts:List lQ} {t:lQ} (h:qy w B v ts vs) (hu:Own B w 1 u t.ss.length (t.ss.map E)) (g:Dn u.ownBlock v.ownBlock) (o:∀ j,j<ts.length→Dn (vs.getD j kH).ownBlock u.ownBlock)
  (p:Own B w9 8 v' (ts.length+1) (uD ts vs ++ Aw t u)) (f:(w.alloc ob).grownBy w9 v.ownBlock) (l:v'.ownBlock=v.ownBlock∨v'.ownBlock=U (w.alloc ob).heap.size):qy w9 B v' (ts ++ [t]) (vs ++ [u]):=by
 have d:Below w.heap.size w (w.alloc ob):=kQ;have r:(w.alloc ob).heap.size=w.heap.size+1:=D;have key:∀ x:Value,Dn x.ownBlock v.ownBlock→(∀ q,x.ownBlock=U q→q<w.heap.size)→Dn x.ownBlock v'.ownBlock:=fun x i k=>by
  rcases l with e | e
  ·rw [e];exact i
  ·exact Dn.later k (fun q c=>by rw [e] at c;injection c with c;omega)
 refine qy.snoc h.len (fun j a=>((h.dep j a).below d kL).grown f (h.dr j a)) h.dd p ((hu.below d kL).grown f g) (fun j a=>key _ (h.dr j a) (h.dep j a).kD) (key _ g hu.kD) o
theorem uz.snoc {t:lQ} (H:uz w0 w B Qm d h st v vs wr) (hu:Own Qm wr 1 u t.ss.length (t.ss.map E)) (z:Dn u.ownBlock v.ownBlock) (l:∀ j,j<st.M.length→Dn (vs.getD j kH).ownBlock u.ownBlock)
  (s:Own Qm w9 8 v' (st.M.length+1) (uD st.M vs ++ Aw t u)) (a:(wr.alloc ob).grownBy w9 v.ownBlock) (k:v'.ownBlock=v.ownBlock∨v'.ownBlock=U (wr.alloc ob).heap.size):uz w0 w B Qm d h ⟨st.gv,st.J,st.S,st.M ++ [t]⟩ v' (vs ++ [u]) w9:=by
 have o:=H.ms.app hu z l s a k;have L:=H.bs;have N:=H.qm;have P:=H.sz;have i:=H.ms.row.ku;have c:=H.below (w':=wr.alloc ob) kQ;have Q:(wr.alloc ob).heap.size=wr.heap.size+1:=D;refine ⟨?_,o,c.hb.grown a A (fun q e=>by have:=i q e;omega),?_,H.lj,H.lo,H.qm,by have:=a.size;omega,H.bs⟩
 ·have:=c.bo.blk (w':=w9) (fun r g p f=>by
   rw [JH H.lj] at g;have:=H.lo r g p f;exact a.block p A (fun e=>by have:=i p e.symm;omega))
  exact this
 ·exact ⟨lH c.gr.size a.size,fun p f g=>(a.block p (lu f c.gr.size) (fun e=>by have:=i p e.symm;omega)).trans (c.gr.block p f g),a.os.trans c.gr.os,a.tape.trans c.gr.tape,a.output.trans c.gr.output⟩

section
section
variable {ρ:Operand→Value} {o:Oper} {w:World}
theorem yT (x:Operand) (h:o.op=.move x) (a:ρ x=v):(execOp ρ o).run prog w=.ok (.value v) w:=by
 rw [← a];unfold execOp;rw [h];simp [go_sem]
theorem Nv (x:Operand) (h:o.op=.fieldAddr 136 x 7) (a:ρ x=aG (U ⟨g,0,C⟩)):(execOp ρ o).run prog w=.ok (.value (aG (U ⟨g,7,C⟩))) w:=by
 unfold execOp;rw [h];simp [go_sem,a]
theorem Yx (x:Operand) (h:o.op=.fieldAddr 141 x 0) (a:ρ x=aG (U ⟨g,0,C⟩)):(execOp ρ o).run prog w=.ok (.value (aG (U ⟨g,0,C⟩))) w:=by
 unfold execOp;rw [h];simp [go_sem,a]
theorem ZR (x:Operand) (h:o.op=.fieldAddr 30 x 7) (a:ρ x=aG (U ⟨g,0,C⟩)):(execOp ρ o).run prog w=.ok (.value (aG (U ⟨g,8,C⟩))) w:=by
 unfold execOp;rw [h];simp [go_sem,a]
theorem DV (x:Operand) (h:o.op=.fieldAddr 30 x 8) (a:ρ x=aG (U ⟨g,0,C⟩)):(execOp ρ o).run prog w=.ok (.value (aG (U ⟨g,9,C⟩))) w:=by
 unfold execOp;rw [h];simp [go_sem,a]
theorem ZT (x:Operand) (h:o.op=.fieldAddr 30 x 2) (a:ρ x=aG (U ⟨g,0,C⟩)):(execOp ρ o).run prog w=.ok (.value (aG (U ⟨g,2,C⟩))) w:=by
 unfold execOp;rw [h];simp [go_sem,a]
theorem ZO (x:Operand) (h:o.op=.fieldAddr 33 x 0) (a:ρ x=aG (U ⟨b,0,C⟩)):(execOp ρ o).run prog w=.ok (.value (aG (U ⟨b,0,C⟩))) w:=by
 unfold execOp;rw [h];simp [go_sem,a]
theorem ZP (x:Operand) (h:o.op=.fieldAddr 81 x 2) (a:ρ x=aG (U ⟨b,oo,C⟩)):(execOp ρ o).run prog w=.ok (.value (aG (U ⟨b,oo+2,C⟩))) w:=by
 unfold execOp;rw [h];simp [go_sem,a]
theorem JE (x:Operand) (h:o.op=.fieldAddr 61 x 0) (a:ρ x=aG (U ⟨b,oo,C⟩)):(execOp ρ o).run prog w=.ok (.value (aG (U ⟨b,oo,C⟩))) w:=by
 unfold execOp;rw [h];simp [go_sem,a]
theorem ZQ (x:Operand) (h:o.op=.fieldAddr 61 x 2) (a:ρ x=aG (U ⟨b,oo,C⟩)):(execOp ρ o).run prog w=.ok (.value (aG (U ⟨b,oo+2,C⟩))) w:=by
 unfold execOp;rw [h];simp [go_sem,a]
theorem abR (x y:Operand) (b oo n c i:Nat) (h:o.op=.indexAddr 31 x y) (d:ρ x=K (U ⟨b,oo,C⟩) n c) (e:ρ y=I Y (i:Nat)) (hi:i<n):(execOp ρ o).run prog w=.ok (.value (aG (U ⟨b,oo+i*3,C⟩))) w:=by
 have a:(i:Int)<(n:Int):=A;unfold execOp;rw [h];simp [go_sem,d,e,a]
theorem yU (x y:Operand) (b oo n c i:Nat) (h:o.op=.indexAddr 26 x y) (d:ρ x=K (U ⟨b,oo,C⟩) n c) (e:ρ y=I Y (i:Nat)) (hi:i<n):(execOp ρ o).run prog w=.ok (.value (aG (U ⟨b,oo+i*3,C⟩))) w:=by
 have a:(i:Int)<(n:Int):=A;unfold execOp;rw [h];simp [go_sem,d,e,a]
theorem ZM (x y:Operand) (b oo n c i:Nat) (h:o.op=.indexAddr 79 x y) (d:ρ x=K (U ⟨b,oo,C⟩) n c) (e:ρ y=I Y (i:Nat)) (hi:i<n):(execOp ρ o).run prog w=.ok (.value (aG (U ⟨b,oo+i,C⟩))) w:=by
 have a:(i:Int)<(n:Int):=A;unfold execOp;rw [h];simp [go_sem,d,e,a]
theorem ZL (x y:Operand) (b oo n c i:Nat) (h:o.op=.indexAddr 23 x y) (d:ρ x=K (U ⟨b,oo,C⟩) n c) (e:ρ y=I Y (i:Nat)) (hi:i<n):(execOp ρ o).run prog w=.ok (.value (aG (U ⟨b,oo+i,C⟩))) w:=by
 have a:(i:Int)<(n:Int):=A;unfold execOp;rw [h];simp [go_sem,d,e,a]
theorem Yv (x:Operand) (h:o.op=.load 31 x) (c:ρ x=aG (U p)) (a:w.cell? p=U v):(execOp ρ o).run prog w=.ok (.value v) w:=by
 unfold execOp;rw [h];simp [go_sem,c,a]
theorem CG (x:Operand) (h:o.op=.load 26 x) (c:ρ x=aG (U p)) (a:w.cell? p=U v):(execOp ρ o).run prog w=.ok (.value v) w:=by
 unfold execOp;rw [h];simp [go_sem,c,a]
theorem Yw (x:Operand) (h:o.op=.load 79 x) (c:ρ x=aG (U p)) (a:w.cell? p=U v):(execOp ρ o).run prog w=.ok (.value v) w:=by
 unfold execOp;rw [h];simp [go_sem,c,a]
theorem nG (x:Operand) (h:o.op=.load 3 x) (c:ρ x=aG (U p)) (a:w.cell? p=U v):(execOp ρ o).run prog w=.ok (.value v) w:=by
 unfold execOp;rw [h];simp [go_sem,c,a]
theorem Qv (x:Operand) (h:o.op=.load 9 x) (c:ρ x=aG (U p)) (a:w.cell? p=U v):(execOp ρ o).run prog w=.ok (.value v) w:=by
 unfold execOp;rw [h];simp [go_sem,c,a]
theorem Ef (x:Operand) (h:o.op=.load 23 x) (c:ρ x=aG (U p)) (a:w.cell? p=U v):(execOp ρ o).run prog w=.ok (.value v) w:=by
 unfold execOp;rw [h];simp [go_sem,c,a]
theorem qU (a:Operand) (s:ByteArray) (h:o.op=.buildSlice 23 1 #[(0,a)]) (c:ρ a=E s):(execOp ρ o).run prog w=.ok (.value (K (U ⟨w.heap.size,0,C⟩) 1 1)) (w.alloc (.cells #[E s] 9)):=by
 unfold execOp;rw [h];simp [go_sem,c]
theorem qo {v0:Value} (x y:Operand) (a:Option Addr) (n c:Nat) (h:o.op=.store 23 x y) (f:ρ x=aG (U p)) (g:ρ y=K a n c) (d:w.cell? p=U v0) (e:w.frozen? p=false):(execOp ρ o).run prog w=.ok .skip (w.setCell p (K a n c)):=by
 unfold execOp;rw [h];simp [go_sem,f,g,d,e]
theorem H6 {x:Value} (s y:Operand) (t tx ty:TypeId) (ho:o.op=.call { callee:=.builtin .append,args:=#[s,y],argTypes:=#[t,tx] }) (hv:ρ s=v) (hx:ρ y=x) (hty:o.type=ty) (hr:(Builtin.append_ #[t,tx] ty #[v,x]).run prog w=.ok v' w'):(execOp ρ o).run prog w=.ok (.value v') w':=by
 unfold execOp;simp [ho,resolve,invoke,builtin,hv,hx,hty,hr,Result.andThen]
theorem VQ (x y:Operand) (a b:Int) (r:Bool) (h:o.op=.binOp .neq 3 x y 3) (d:ρ x=I Y a) (e:ρ y=I Y b) (c:decide (a≠b)=r):(execOp ρ o).run prog w=.ok (.value (aF r)) w:=by
 subst c;unfold execOp;rw [h];simp [go_sem,d,e];rfl
theorem abO (x y:Operand) (a b:Int) (r:Bool) (h:o.op=.binOp .leq 3 x y 3) (d:ρ x=I Y a) (e:ρ y=I Y b) (c:decide (a≤b)=r):(execOp ρ o).run prog w=.ok (.value (aF r)) w:=by
 subst c;unfold execOp;rw [h];simp [go_sem,d,e]
theorem abM (x y z:Operand) (h:o.op=.pick x y z) (a:ρ x=aF true) (c:ρ y=v):(execOp ρ o).run prog w=.ok (.value v) w:=by
 unfold execOp;rw [h];simp [go_sem,a,c]
theorem ZH (x y z:Operand) (h:o.op=.pick x y z) (a:ρ x=aF false) (c:ρ z=v):(execOp ρ o).run prog w=.ok (.value v) w:=by
 unfold execOp;rw [h];simp [go_sem,a,c]
end
end
end Go.Proofs.YtfkkipgcfoegmaaGreat
