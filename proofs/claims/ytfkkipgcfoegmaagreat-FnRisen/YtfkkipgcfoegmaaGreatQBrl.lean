
import Derived.Test.YtfkkipgcfoegmaaGreatQBha
namespace Go.Proofs.YtfkkipgcfoegmaaGreat
open Go.Proofs.Tryz
open Go.Value renaming slice→K,string→E,bool→aF,pointer→aG
open Option renaming none→C,some→U
open Go.Obj renaming cells→aH
open Go.Value renaming int→I
open Go.IntKind renaming i64→Y
open Go.RowKit
variable {ep fm:Int}
def Ih (S:List (Bool × Int)) (fm ep:Int):Option (List (Bool × Int)):=if ep<(t2 S (fm - 1).toNat).2 then C else U (S.set (fm - 1).toNat (true,ep))
theorem aaD {S:List (Bool × Int)} (h:ep<(t2 S (fm - 1).toNat).2):Ih S fm ep=C:=by unfold Ih;rw [if_pos h]
theorem aaC {S:List (Bool × Int)} (h:¬ ep<(t2 S (fm - 1).toNat).2):Ih S fm ep=U (S.set (fm - 1).toNat (true,ep)):=by unfold Ih;rw [if_neg h]
def qL (fm:Int) (j:Tr):Tr:=if j.2.1=fm then (0,0,0) else j
def pI (le now:Int) (j:Tr):Tr:=if j.1=le then (j.1,j.2.1,now+12) else j
def Gz (d:BD) (m:lQ):BD :=
 match Ih d.S m.fm m.ep with
 | none=>d
 | some S=>{d with J:=d.J.map (qL m.fm),S:=S}
def MK (d:BD) (m:lQ):BD:={d with J:=d.J.map (pI m.le d.now)}
open Classical in
noncomputable def keepR (d:BD) (ts:List kJ) (m:lQ):BD :=
 if uw ts d.R m.ta.toNat∧d.L1.length+d.L2.length<310 then {d with L2:=d.L2 ++ [lS 2 d.ep m.ta m.x],R:=d.R.set m.ta.toNat m.x,J:=d.J.set m.ta.toNat (0,0,0)} else d
def uq (d:BD) (m:lQ):BD :=
 if (rs d.R m.ta.toNat).size=0 then
  match Ih d.S m.fm m.ep with
  | none=>d
  | some S=>{d with S:=S}
 else d
open Classical in
noncomputable def JM (d:BD) (m:lQ):BD :=
 if rs d.R m.ta.toNat=m.x∧d.O.length<2000∧¬ (∃ j,j<d.O.length∧(t3 d.O j).1=m.fm∧(t3 d.O j).2.1=m.le) then {d with O:=d.O ++ [(m.fm,m.le,m.ta)]} else d
open Classical in
noncomputable def Fa (d:BD) (ts:List kJ) (m:lQ):BD:=if m.ta<ts.length then JM (uq (keepR d ts m) m) m else d
def lQ.ok (m:lQ):Prop:=vM m.kd m.fm m.tw m.ep m.le m.ta m.x.size m.ss
variable {B Q b c9 g i k oo:Nat} {J:List Tr} {R:List ByteArray} {a9:Option Addr} {d d' d0:BD} {ex ms:List Value} {h h0:BH} {m:lQ} {ob:Obj} {pv v:Value} {s:ByteArray} {ts:List kJ} {w w' w0 w1 w2 w9 wr:World}
open Classical in
noncomputable def takeB (d:BD) (ts:List kJ) (m:lQ):BD :=
 if d.up=true∧m.ok∧m.tw=0∧m.fm≤d.wk then
  if m.kd=5 then Gz d m else if m.kd=2 then MK d m else if m.kd=3 then Fa d ts m else d
 else d
def KG (d:BD) (ts:List kJ) (m:lQ) (r:BD × List lQ):Prop:=d.ok ts∧r=(takeB d ts m,[])∨¬ d.ok ts∧r=(rM,[])
section
section
variable {ρ:Operand→Value} {o:Oper} {w:World}
end
end


def jM (f:Tr→Tr) (J:List Tr) (i:Nat):List Tr:=(J.take i).map f ++ J.drop i
theorem VK (hi:i<J.length):t3 J i=J[i]:=by simp [t3,List.getD,hi]
theorem CY (f:Tr→Tr) (J:List Tr) (i:Nat):(jM f J i).length=J.length:=by unfold jM;simp;omega
theorem OV {f:Tr→Tr} (hi:i<J.length):t3 (jM f J i) i=t3 J i:=by
 have a:((J.take i).map f).length=i:=aQ;unfold jM t3;rw [FC,qP A,a,Xc,RG];simp [List.getD]
theorem UL {f:Tr→Tr} (hi:i<J.length):(jM f J i).set i (f (t3 J i))=jM f J (i+1):=by
 have a:((J.take i).map f).length=i:=aQ;unfold jM;rw [List.drop_eq_getElem_cons hi,List.set_append_right _ _ A,a,Xc,oV,Xa hi,rD,VK hi];simp
theorem WL {f:Tr→Tr} (hi:i<J.length) (h:f (t3 J i)=t3 J i):jM f J (i+1)=jM f J i:=by
 rw [← UL hi,h,← OV (f:=f) hi];have a:i<(jM f J i).length:=by rw [CY];exact hi
 rw [VK a];exact List.set_getElem_self a
theorem YV (f:Tr→Tr) (J:List Tr):jM f J J.length=J.map f:=by unfold jM;simp
theorem WJ (f:Tr→Tr) (J:List Tr):jM f J 0=J:=by unfold jM;simp
structure oZ (w0:World) (B Q:Nat) (ex:List Value) (d:BD) (h:BH) (wr:World):Prop where
 bo:lg wr B d h
 D:CF wr Q (bvs d h ++ ex)
 hb:Below B w0 wr
 nr:∀ r∈kK d h,r≠U Q
 q:B≤Q∧Q<wr.heap.size∧w0.heap.size≤B
theorem oZ.below (s:oZ w0 B Q ex d h wr) (a:Below wr.heap.size wr w'):oZ w0 B Q ex d h w' :=
 have c:=s.q
 ⟨s.bo.below a,s.D.block (a.block _ c.2.1),s.hb.trans (a.mono A),s.nr,⟨c.1,lu c.2.1 a.size,c.2.2⟩⟩
def KP (d:BD) (h:BH):Option Nat:=(K h.ar d.R.length h.cr).ownBlock
def JJ (d:BD) (h:BH):Option Nat:=(K h.a2 d.L2.length h.c2).ownBlock
def KQ (d:BD) (h:BH):Option Nat:=(K h.ao d.O.length h.co).ownBlock
theorem JI (d:BD) (h:BH):KP d h∈kK d h:=by unfold KP kK;simp
theorem DX (d:BD) (h:BH):JJ d h∈kK d h:=by unfold JJ kK;simp
theorem Ia (d:BD) (h:BH):KQ d h∈kK d h:=by unfold KQ kK;simp
theorem lg.adR (a:lg w B d h) (f:R.length=d.R.length) (c:w.grownBy w' (KP d h)) (i:Own B w' 1 (K h.ar d.R.length h.cr) d.R.length (R.map E)):lg w' B {d with R:=R} h:=by
 have e:=a.Ik;simp only [rW,mG,mF,or_false,forall_eq_or_imp,forall_eq,List.Pairwise.nil,and_true,false_implies,implies_true] at e;obtain ⟨⟨j,g,k,l,o⟩,⟨d12,d13,Na,QO⟩,⟨Lh,Kz,QN⟩,⟨Jj,O8⟩,MZ⟩:=e;refine ⟨a.o0.grown c g,a.o1.grown c d12,?_,a.o3.grown c Lh.symm,a.o4.grown c Kz.symm,a.o5.grown c QN.symm,?_⟩
 ·show Own B w' 1 (K h.ar R.length h.cr) R.length (R.map E)
  rw [f];exact i
 ·have:=a.Ik
  show List.Pairwise Dj [_,_,(K h.ar R.length h.cr).ownBlock,_,_,_];rw [f];exact this
theorem lg.Vf (a:lg w B d h) (v:Own B w9 1 (K a9 (d.L2.length+1) c9) (d.L2.length+1) (d.L2.map E ++ [E s])) (f:(w.alloc ob).grownBy w9 (JJ d h)) (u:(K a9 (d.L2.length+1) c9).ownBlock=JJ d h∨(K a9 (d.L2.length+1) c9).ownBlock=U (w.alloc ob).heap.size) :
  lg w9 B {d with L2:=d.L2 ++ [s]} {h with a2:=a9,c2:=c9}:=by
 have j:=a.Ik;simp only [rW,mG,mF,or_false,forall_eq_or_imp,forall_eq,List.Pairwise.nil,and_true,false_implies,implies_true] at j;obtain ⟨⟨i,k,l,o,p⟩,⟨d12,d13,Na,QO⟩,⟨Lh,Kz,QN⟩,⟨Jj,O8⟩,MZ⟩:=j;have c:Below w.heap.size w (w.alloc ob):=kQ;have z:(w.alloc ob).heap.size=w.heap.size+1:=D;have key:∀ x:Option Nat,Dj x (JJ d h)→(∀ q,x=U q→q<w.heap.size)→Dj x (K a9 (d.L2.length+1) c9).ownBlock:=fun x r t=>by
  rcases u with e | e
  ·rw [e];exact r
  ·exact Dn.later t (fun q g=>by rw [e] at g;injection g with g;omega)
 refine ⟨(a.o0.below c kL).grown f i,?_,(a.o2.below c kL).grown f d12.symm,(a.o3.below c kL).grown f d13.symm,(a.o4.below c kL).grown f Na.symm,(a.o5.below c kL).grown f QO.symm,?_⟩
 ·show Own B w9 1 (K a9 (d.L2 ++ [s]).length c9) (d.L2 ++ [s]).length ((d.L2 ++ [s]).map E)
  rw [lD,mQ,rD];exact v
 ·show List.Pairwise Dj [_,(K a9 (d.L2 ++ [s]).length c9).ownBlock,_,_,_,_]
  rw [lD,mQ];simp only [rW,mG,mF,or_false,forall_eq_or_imp,forall_eq,List.Pairwise.nil,and_true,false_implies,implies_true];exact ⟨⟨key _ i a.o0.kD,k,l,o,p⟩,⟨(key _ d12.symm a.o2.kD).symm,(key _ d13.symm a.o3.kD).symm,(key _ Na.symm a.o4.kD).symm,(key _ QO.symm a.o5.kD).symm⟩,⟨Lh,Kz,QN⟩,⟨Jj,O8⟩,MZ⟩
theorem aaU (a:List Tr) (x:Tr):c3 (a ++ [x])=c3 a ++ [I Y x.1,I Y x.2.1,I Y x.2.2]:=by
 refine (Yc (by simp [qp];omega) fun j d=>?_).symm;rw [lD,mQ] at d;by_cases e:j<a.length
 ·have g0:=oW a j 0 e A
  have g1:=oW a j 1 e A;have g2:=oW a j 2 e A;have c:t3 (a ++ [x]) j=t3 a j:=by unfold t3;simp [List.getD,List.getElem?_append_left e]
  rw [c,nO fD,nO fD,nO fD];exact ⟨g0,g1,g2⟩
 ·obtain rfl:j=a.length:=by omega
  have c:t3 (a ++ [x]) a.length=x:=by unfold t3;simp [List.getD]
  rw [c,qP fD,qP fD,qP fD,qp,show a.length*3 - a.length*3=0 by omega,show a.length*3+1 - a.length*3=1 by omega,show a.length*3+2 - a.length*3=2 by omega];exact ⟨rfl,rfl,rfl⟩
theorem lg.Yf {x:Tr} (a:lg w B d h) (u:Own B w9 3 (K a9 (d.O.length+1) c9) (d.O.length+1) (c3 d.O ++ [I Y x.1,I Y x.2.1,I Y x.2.2])) (f:(w.alloc ob).grownBy w9 (KQ d h)) (t:(K a9 (d.O.length+1) c9).ownBlock=KQ d h∨(K a9 (d.O.length+1) c9).ownBlock=U (w.alloc ob).heap.size) :
  lg w9 B {d with O:=d.O ++ [x]} {h with ao:=a9,co:=c9}:=by
 have j:=a.Ik;simp only [rW,mG,mF,or_false,forall_eq_or_imp,forall_eq,List.Pairwise.nil,and_true,false_implies,implies_true] at j;obtain ⟨⟨k,l,o,p,i⟩,⟨d12,d13,Na,QO⟩,⟨Lh,Kz,QN⟩,⟨Jj,O8⟩,MZ⟩:=j;have c:Below w.heap.size w (w.alloc ob):=kQ;have v:(w.alloc ob).heap.size=w.heap.size+1:=D;have key:∀ x:Option Nat,Dj x (KQ d h)→(∀ q,x=U q→q<w.heap.size)→Dj x (K a9 (d.O.length+1) c9).ownBlock:=fun x r s=>by
  rcases t with e | e
  ·rw [e];exact r
  ·exact Dn.later s (fun q g=>by rw [e] at g;injection g with g;omega)
 refine ⟨(a.o0.below c kL).grown f i,(a.o1.below c kL).grown f QO,(a.o2.below c kL).grown f QN,(a.o3.below c kL).grown f O8,(a.o4.below c kL).grown f MZ,?_,?_⟩
 ·show Own B w9 3 (K a9 (d.O ++ [x]).length c9) (d.O ++ [x]).length (c3 (d.O ++ [x]))
  rw [lD,mQ,aaU];exact u
 ·show List.Pairwise Dj [_,_,_,_,_,(K a9 (d.O ++ [x]).length c9).ownBlock]
  rw [lD,mQ];simp only [rW,mG,mF,or_false,forall_eq_or_imp,forall_eq,List.Pairwise.nil,and_true,false_implies,implies_true];exact ⟨⟨k,l,o,p,key _ i a.o0.kD⟩,⟨d12,d13,Na,key _ QO a.o1.kD⟩,⟨Lh,Kz,key _ QN a.o2.kD⟩,⟨Jj,key _ O8 a.o3.kD⟩,key _ MZ a.o4.kD⟩
theorem oZ.upd {r:Option Nat} (s:oZ w0 B Q ex d h wr) (f:r∈kK d h) (c:wr.grownBy w' r) (g:lg w' B d' h) (j:bvs d' h=bvs d h) (i:kK d' h=kK d h):oZ w0 B Q ex d' h w' :=
 have a:=s.q
 ⟨g,by rw [j];exact s.D.block (c.block _ a.2.1 (fun e=>s.nr r f e.symm)),s.hb.grown c A (fun q e=>(s.bo.lo r f q e).1),by rw [i];exact s.nr,⟨a.1,lu a.2.1 c.size,a.2.2⟩⟩
theorem oZ.Nq (s:oZ w0 B Q ex d h wr) (a:J.length=d.J.length) (c:wr.grownBy w' (yV d h)) (e:Own B w' 3 (K h.aj d.J.length h.cj) d.J.length (c3 J)):oZ w0 B Q ex {d with J:=J} h w' :=
 s.upd (Ac d h) c (s.bo.Zu a c e) (by unfold bvs;simp only [a]) (by unfold kK;simp only [a])
theorem oZ.Uc {S:List (Bool × Int)} (s:oZ w0 B Q ex d h wr) (a:S.length=d.S.length) (c:wr.grownBy w' (Ap d h)) (e:Own B w' 2 (K h.az d.S.length h.cs) d.S.length (c2 S)):oZ w0 B Q ex {d with S:=S} h w' :=
 s.upd (qW d h) c (s.bo.Zt a c e) (by unfold bvs;simp only [a]) (by unfold kK;simp only [a])
theorem oZ.Xo (s:oZ w0 B Q ex d h wr) (a:R.length=d.R.length) (c:wr.grownBy w' (KP d h)) (e:Own B w' 1 (K h.ar d.R.length h.cr) d.R.length (R.map E)):oZ w0 B Q ex {d with R:=R} h w' :=
 s.upd (JI d h) c (s.bo.adR a c e) (by unfold bvs;simp only [a]) (by unfold kK;simp only [a])
theorem oZ.Vf (t:oZ w0 B Q ex d h wr) (z:Own B w9 1 (K a9 (d.L2.length+1) c9) (d.L2.length+1) (d.L2.map E ++ [E s])) (c:(wr.alloc ob).grownBy w9 (JJ d h)) (l:(K a9 (d.L2.length+1) c9).ownBlock=JJ d h∨(K a9 (d.L2.length+1) c9).ownBlock=U (wr.alloc ob).heap.size) :
  CF w9 Q (bvs d h ++ ex)∧oZ w0 B Q ex {d with L2:=d.L2 ++ [s]} {h with a2:=a9,c2:=c9} (w9.setCell ⟨Q,7,C⟩ (K a9 (d.L2.length+1) c9)):=by
 have g:=t.q;have k:Below wr.heap.size wr (wr.alloc ob):=kQ;have J:(wr.alloc ob).heap.size=wr.heap.size+1:=(by simp)
 have H:=c.size;have o:=t.bo.Vf z c l;have gs:=lU (lJ w9 (U Q)) 7 (K a9 (d.L2.length+1) c9);have i:=(t.D.block (k.block _ g.2.1)).block (c.block _ A (fun e=>t.nr _ (DX d h) e.symm));have v:=(t.hb.trans (k.mono A)).grown c A (fun q e=>(t.bo.lo _ (DX d h) q e).1);have p:∀ r∈kK {d with L2:=d.L2 ++ [s]} {h with a2:=a9,c2:=c9},r≠U Q:=fun r a e=>by
  simp only [kK,mG,mF,or_false,lD,mQ] at a;rcases a with rfl | rfl | rfl | rfl | rfl | rfl
  ·exact t.nr _ aX e
  ·rcases l with f | f
   ·rw [f] at e;exact t.nr _ (DX d h) e
   ·rw [f] at e;injection e with e;omega
  ·exact t.nr _ aX e
  ·exact t.nr _ aX e
  ·exact t.nr _ aX e
  ·exact t.nr _ aX e
 refine ⟨i,o.blk (fun r a q e=>gs.block q (o.lo r a q e).2 (fun u=>p r a (e.trans u))),?_,v.grown gs A (fun q e=>O),p,⟨g.1,bW,g.2.2⟩⟩;have:=i.set (j:=7) aP (K a9 (d.L2.length+1) c9);have e:(bvs d h ++ ex).set 7 (K a9 (d.L2.length+1) c9)=bvs {d with L2:=d.L2 ++ [s]} {h with a2:=a9,c2:=c9} ++ ex:=aP;rw [← e];exact this
theorem oZ.Yf {x:Tr} (t:oZ w0 B Q ex d h wr) (v:Own B w9 3 (K a9 (d.O.length+1) c9) (d.O.length+1) (c3 d.O ++ [I Y x.1,I Y x.2.1,I Y x.2.2])) (c:(wr.alloc ob).grownBy w9 (KQ d h)) (l:(K a9 (d.O.length+1) c9).ownBlock=KQ d h∨(K a9 (d.O.length+1) c9).ownBlock=U (wr.alloc ob).heap.size) :
  CF w9 Q (bvs d h ++ ex)∧oZ w0 B Q ex {d with O:=d.O ++ [x]} {h with ao:=a9,co:=c9} (w9.setCell ⟨Q,11,C⟩ (K a9 (d.O.length+1) c9)):=by
 have g:=t.q;have k:Below wr.heap.size wr (wr.alloc ob):=kQ;have H:(wr.alloc ob).heap.size=wr.heap.size+1:=(by simp)
 have z:=c.size;have o:=t.bo.Yf v c l;have gs:=lU (lJ w9 (U Q)) 11 (K a9 (d.O.length+1) c9);have i:=(t.D.block (k.block _ g.2.1)).block (c.block _ A (fun e=>t.nr _ (Ia d h) e.symm));have u:=(t.hb.trans (k.mono A)).grown c A (fun q e=>(t.bo.lo _ (Ia d h) q e).1);have p:∀ r∈kK {d with O:=d.O ++ [x]} {h with ao:=a9,co:=c9},r≠U Q:=fun r a e=>by
  simp only [kK,mG,mF,or_false,lD,mQ] at a;rcases a with rfl | rfl | rfl | rfl | rfl | rfl
  ·exact t.nr _ aX e
  ·exact t.nr _ aX e
  ·exact t.nr _ aX e
  ·exact t.nr _ aX e
  ·exact t.nr _ aX e
  ·rcases l with f | f
   ·rw [f] at e;exact t.nr _ (Ia d h) e
   ·rw [f] at e;injection e with e;omega
 refine ⟨i,o.blk (fun r a q e=>gs.block q (o.lo r a q e).2 (fun s=>p r a (e.trans s))),?_,u.grown gs A (fun q e=>O),p,⟨g.1,bW,g.2.2⟩⟩;have:=i.set (j:=11) aP (K a9 (d.O.length+1) c9);have e:(bvs d h ++ ex).set 11 (K a9 (d.O.length+1) c9)=bvs {d with O:=d.O ++ [x]} {h with ao:=a9,co:=c9} ++ ex:=aP;rw [← e];exact this
theorem Own.abk {S:List (Bool × Int)} (h:Own B w 2 v S.length (c2 S)) (f:k<S.length):∃ g o c,v=K (U ⟨g,o,C⟩) S.length c∧w.cell? ⟨g,o+k*2,C⟩=U (aF (t2 S k).1)∧w.cell? ⟨g,o+k*2+1,C⟩=U (I Y (t2 S k).2)∧w.there g (o+k*2) 2 ∧
  ∀ (b:Bool) (e:Int),Own B (w.setCells g (o+k*2) [aF b,I Y e]) 2 v S.length (c2 (S.set k (b,e))):=by
 rcases h with ⟨_,h0,_⟩ | ⟨g,o,cap,rfl,a⟩
 ·omega
 ·have q:=a.le
  refine ⟨g,o,cap,rfl,?_,?_,fun j d=>?_,fun b e=>.inr ⟨g,o,cap,rfl,?_⟩⟩
  ·rw [a.holds (k*2) A];exact uy S k 0 f A
  ·rw [nS,a.holds (k*2+1) A];exact uy S k 1 f A
  ·have:=a.there (k*2+j) A
   rw [← nS] at this;exact this
  ·have p:=a.setCell (j:=k*2) A (aF b)
   have i:=p.setCell (j:=k*2+1) A (I Y e);have l:((c2 S).set (k*2) (aF b)).set (k*2+1) (I Y e)=c2 (S.set k (b,e)):=by
    refine SG (by simp [qw]) fun j d=>?_;rw [nV] at d;rw [La S k f j];have g0:=uy S j 0 d A;have g1:=uy S j 1 d A;simp only [Xd,nV,qw];by_cases e:k=j
    ·subst e
     exact ⟨by rw [if_neg A,if_pos rfl,if_pos A,if_pos rfl],by rw [if_pos rfl,if_pos A,if_pos rfl]⟩
    ·exact ⟨by rw [if_neg A,if_neg A,if_neg e];exact g0,by rw [if_neg A,if_neg A,if_neg e];exact g1⟩
   rw [l] at i;exact i

section
section
variable {ρ:Operand→Value} {o:Oper} {w:World}
theorem LX (x:Operand) (h:o.op=.fieldAddr 136 x 1) (a:ρ x=aG (U ⟨g,0,C⟩)):(execOp ρ o).run prog w=.ok (.value (aG (U ⟨g,1,C⟩))) w:=by
 unfold execOp;rw [h];simp [go_sem,a]
theorem VU (x:Operand) (h:o.op=.fieldAddr 136 x 3) (a:ρ x=aG (U ⟨g,0,C⟩)):(execOp ρ o).run prog w=.ok (.value (aG (U ⟨g,3,C⟩))) w:=by
 unfold execOp;rw [h];simp [go_sem,a]
theorem VT (x:Operand) (h:o.op=.fieldAddr 136 x 4) (a:ρ x=aG (U ⟨g,0,C⟩)):(execOp ρ o).run prog w=.ok (.value (aG (U ⟨g,4,C⟩))) w:=by
 unfold execOp;rw [h];simp [go_sem,a]
theorem abT (x:Operand) (h:o.op=.fieldAddr 136 x 5) (a:ρ x=aG (U ⟨g,0,C⟩)):(execOp ρ o).run prog w=.ok (.value (aG (U ⟨g,5,C⟩))) w:=by
 unfold execOp;rw [h];simp [go_sem,a]
theorem abS (x:Operand) (h:o.op=.fieldAddr 136 x 6) (a:ρ x=aG (U ⟨g,0,C⟩)):(execOp ρ o).run prog w=.ok (.value (aG (U ⟨g,6,C⟩))) w:=by
 unfold execOp;rw [h];simp [go_sem,a]
theorem abU (x:Operand) (h:o.op=.fieldAddr 30 x 4) (a:ρ x=aG (U ⟨g,0,C⟩)):(execOp ρ o).run prog w=.ok (.value (aG (U ⟨g,4,C⟩))) w:=by
 unfold execOp;rw [h];simp [go_sem,a]
theorem LZ (x:Operand) (h:o.op=.fieldAddr 30 x 6) (a:ρ x=aG (U ⟨g,0,C⟩)):(execOp ρ o).run prog w=.ok (.value (aG (U ⟨g,6,C⟩))) w:=by
 unfold execOp;rw [h];simp [go_sem,a]
theorem VW (x:Operand) (h:o.op=.fieldAddr 30 x 9) (a:ρ x=aG (U ⟨g,0,C⟩)):(execOp ρ o).run prog w=.ok (.value (aG (U ⟨g,10,C⟩))) w:=by
 unfold execOp;rw [h];simp [go_sem,a]
theorem Ug (x:Operand) (h:o.op=.fieldAddr 54 x 1) (a:ρ x=aG (U ⟨b,oo,C⟩)):(execOp ρ o).run prog w=.ok (.value (aG (U ⟨b,oo+1,C⟩))) w:=by
 unfold execOp;rw [h];simp [go_sem,a]
theorem Uh (x:Operand) (h:o.op=.fieldAddr 61 x 1) (a:ρ x=aG (U ⟨b,oo,C⟩)):(execOp ρ o).run prog w=.ok (.value (aG (U ⟨b,oo+1,C⟩))) w:=by
 unfold execOp;rw [h];simp [go_sem,a]
theorem LY (x:Operand) (h:o.op=.fieldAddr 25 x 1) (a:ρ x=aG (U ⟨g,k,C⟩)):(execOp ρ o).run prog w=.ok (.value (aG (U ⟨g,k+1,C⟩))) w:=by
 unfold execOp;rw [h];simp [go_sem,a]
theorem VZ (x y z:Operand) (a b:Int) (s:ByteArray) (h:o.op=.build 66 #[(0,.const (I Y 2)),(1,x),(2,y),(3,z)]) (h0:ρ (.const (I Y 2))=I Y 2) (c:ρ x=I Y a) (d:ρ y=I Y b) (e:ρ z=E s):(execOp ρ o).run prog w=.ok (.value (.agg #[I Y 2,I Y a,I Y b,E s])) w:=by
 unfold execOp;rw [h];simp [go_sem,h0,c,d,e]
theorem Hz (x y:Operand) (b oo n c i:Nat) (h:o.op=.indexAddr 27 x y) (d:ρ x=K (U ⟨b,oo,C⟩) n c) (e:ρ y=I Y (i:Nat)) (hi:i<n):(execOp ρ o).run prog w=.ok (.value (aG (U ⟨b,oo+i*2,C⟩))) w:=by
 have a:(i:Int)<(n:Int):=A;unfold execOp;rw [h];simp [go_sem,d,e,a]
theorem IG {p:Addr} (x:Operand) (h:o.op=.load 27 x) (c:ρ x=aG (U p)) (a:w.cell? p=U v):(execOp ρ o).run prog w=.ok (.value v) w:=by
 unfold execOp;rw [h];simp [go_sem,c,a]
theorem Cj (x:Operand) (k:Nat) (e:k≤1000000) (h:o.op=.binOp .sub 3 x (.const (I Y 1)) 3) (c:ρ x=I Y ((k:Int)+1)) (d:ρ (.const (I Y 1))=I Y 1):(execOp ρ o).run prog w=.ok (.value (I Y (k:Nat))) w:=by
 have hw:IntKind.i64.wrap ((k:Int)+1 - 1)=k:=bF;unfold execOp;rw [h];simp only [c,d];simp [go_sem];have a:IntKind.i64.wrap (k:Int)=k:=bF;first | done | exact hw | exact a
theorem VR (x y:Operand) (a b:Int) (r:Bool) (h:o.op=.binOp .lss 3 x y 3) (d:ρ x=I Y a) (e:ρ y=I Y b) (c:decide (a<b)=r):(execOp ρ o).run prog w=.ok (.value (aF r)) w:=by
 subst c;unfold execOp;rw [h];simp [go_sem,d,e]
theorem Mc (x y:Operand) (a b:Int) (r:Bool) (h:o.op=.binOp .eql 3 x y 3) (d:ρ x=I Y a) (e:ρ y=I Y b) (c:(a == b)=r):(execOp ρ o).run prog w=.ok (.value (aF r)) w:=by
 subst c;unfold execOp;rw [h];simp [go_sem,d,e]
theorem Yu (x:Operand) (a:Option Addr) (n c:Nat) (h:o.op=.call { callee:=.builtin .len,args:=#[x],argTypes:=#[23] }) (hx:ρ x=K a n c):(execOp ρ o).run prog w=.ok (.value (I Y (n:Nat))) w:=by
 unfold execOp;rw [h];simp [go_sem,hx]
end
theorem OZ (v1:Value) (w:World):Sem.run prog (callFunc 52 #[v1]) w=.ok (.enter 52 #[v1]) w:=Z
theorem Grew.far {rows:List (Option Nat)} {q:Nat} (h:Grew rows w w1) (a:w1.grownBy w2 (U q)) (f:w.heap.size≤q):Grew rows w w2 :=
 ⟨lH h.size a.size,fun p c d=>(a.block p (lu c h.size) (fun e=>O)).trans (h.block p c d),a.os.trans h.os,a.tape.trans h.tape,a.output.trans h.output⟩
theorem Grew.DT {rows:List (Option Nat)} (h:Grew rows w w1):Grew rows w w1.drew :=
 h.step (s:=[]) ⟨kL,fun _ _ _=>rfl,rfl,rfl,rfl⟩ D
end
theorem adv (w:World) (c0 c1 c2 c3:Array Value) (a c d e:TypeId) {W:World} (f:W=(((w.alloc (aH c0 a)).alloc (aH c1 c)).alloc (aH c2 d)).alloc (aH c3 e)) :
  CF W w.heap.size c0.toList∧CF W (w.heap.size+1) c1.toList∧CF W (w.heap.size+2) c2.toList∧CF W (w.heap.size+3) c3.toList∧W.heap.size=w.heap.size+4∧Below w.heap.size w W:=by
 subst f;refine ⟨(((CF.made w c0 a).block (kU _ _ _ D)).block (kU _ _ _ eP)).block (kU _ _ _ eP),?_,?_,?_,D,((kQ.alloc D _).alloc eP _).alloc eP _⟩
 ·have:=((CF.made (w.alloc (aH c0 a)) c1 c).block (kU ((w.alloc (aH c0 a)).alloc (aH c1 c)) (aH c2 d) _ D)).block (kU (((w.alloc (aH c0 a)).alloc (aH c1 c)).alloc (aH c2 d)) (aH c3 e) _ eP)
  simpa using this
 ·have:=(CF.made ((w.alloc (aH c0 a)).alloc (aH c1 c)) c2 d).block (kU (((w.alloc (aH c0 a)).alloc (aH c1 c)).alloc (aH c2 d)) (aH c3 e) _ D)
  simpa using this
 ·have:=CF.made (((w.alloc (aH c0 a)).alloc (aH c1 c)).alloc (aH c2 d)) c3 e
  simpa using this
structure rG (w0 w:World) (B Q:Nat) (d0:BD) (h0:BH) (pv:Value) (ms:List Value) (d:BD) (h:BH) (wr:World):Prop where
 T:oZ w0 B Q [] d h wr
 P:CF wr (Q+1) [pv]
 M:CF wr (Q+2) ms
 Z:CF wr (Q+3) zB
 G:Grew (kK d0 h0) w wr
 R:∀ r∈kK d h,r∈kK d0 h0∨∀ q,r=U q→Q+4≤q
 q:Q=w.heap.size∧Q+4≤wr.heap.size
 o:∀ r∈kK d0 h0,∀ q,r=U q→q<Q
theorem rG.below (s:rG w0 w B Q d0 h0 pv ms d h wr) (a:Below wr.heap.size wr w'):rG w0 w B Q d0 h0 pv ms d h w' :=
 have c:=s.q
 ⟨s.T.below a,s.P.block (a.block _ A),s.M.block (a.block _ A),s.Z.block (a.block _ A),s.G.step (s:=[]) ⟨a.size,fun q e _=>a.block q e,a.os,a.tape,a.output⟩ D,s.R,⟨c.1,lH c.2 a.size⟩,s.o⟩
theorem rG.ne (s:rG w0 w B Q d0 h0 pv ms d h wr) {r:Option Nat} (a:r∈kK d h):∀ p,Q≤p→p<Q+4→U p≠r:=fun p c f e=>by
 rcases s.R r a with h | h
 ·have:=s.o r h p e.symm;omega
 ·have:=h p e.symm;omega
theorem rG.gr (s:rG w0 w B Q d0 h0 pv ms d h wr) (a:Grew (kK d0 h0) w w1) {r:Option Nat} (i:r∈kK d h) (c:w1.grownBy w' r):Grew (kK d0 h0) w w':=by
 rcases s.R r i with h | h
 ·exact a.step (Grew.of c) (by intro x j;rw [List.mem_singleton.1 j];exact h)
 ·refine ⟨lH a.size c.size,fun p f g=>(c.block p (lu f a.size) (fun e=>?_)).trans (a.block p f g),c.os.trans a.os,c.tape.trans a.tape,c.output.trans a.output⟩
  have:=h p e.symm;have:=s.q.1;omega
theorem rG.row (s:rG w0 w B Q d0 h0 pv ms d h wr) {r:Option Nat} (e:r∈kK d h) (a:wr.grownBy w' r) (f:oZ w0 B Q [] d' h w') (g:kK d' h=kK d h):rG w0 w B Q d0 h0 pv ms d' h w':=by
 have c:=s.q;have ne:=s.ne e;exact ⟨f,s.P.block (a.block _ A (ne _ A A)),s.M.block (a.block _ A (ne _ A A)),s.Z.block (a.block _ A (ne _ A A)),s.gr s.G e a,by rw [g];exact s.R,⟨c.1,lH c.2 a.size⟩,s.o⟩
theorem rG.app {c:BH} {j:Nat} {u:Value} (s:rG w0 w B Q d0 h0 pv ms d h wr) {r:Option Nat} (l:r∈kK d h) (f:(wr.alloc ob).grownBy w9 r) (v:oZ w0 B Q [] d' c (w9.setCell ⟨Q,j,C⟩ u)) (J:∀ x∈kK d' c,x∈kK d h∨x=U (wr.alloc ob).heap.size):rG w0 w B Q d0 h0 pv ms d' c (w9.setCell ⟨Q,j,C⟩ u):=by
 have H:=s.q;have ne:=s.ne l;have i:Below wr.heap.size wr (wr.alloc ob):=kQ;have T:(wr.alloc ob).heap.size=wr.heap.size+1:=D;have S:=f.size;have s1:=s.below i;have gs:=lU (lJ w9 (U Q)) j u;have g:∀ p,Q<p→p<Q+4→(w9.setCell ⟨Q,j,C⟩ u).heap[p]?=wr.heap[p]?:=fun p N t=>((gs.block p A (fun e=>O)).trans (f.block p A (ne p A t))).trans (i.block p A);have a:=s.gr s1.G l f;refine ⟨v,s.P.block (g _ A A),s.M.block (g _ A A),s.Z.block (g _ A A),⟨lH a.size gs.size,fun p k z=>(gs.block p (lu k a.size) (fun e=>O)).trans (a.block p k z),gs.os.trans a.os,gs.tape.trans a.tape,gs.output.trans a.output⟩,fun x L=>?_,⟨H.1,bW⟩,s.o⟩;rcases J x L with h | h
 ·exact s.R x h
 ·exact .inr (fun q e=>by rw [h] at e;injection e with e;omega)
theorem rG.free {r:Option Nat} (s:rG w0 w B Q d0 h0 pv ms d h wr) (l:r∈kK d h) (v:lg w1 B d' h) (f:Grew [r] wr w1) (a:w1.grownBy w2 (U Q)) (N:CF w2 Q (bvs d' h)) (J:kK d' h=kK d h):rG w0 w B Q d0 h0 pv ms d' h w2:=by
 have S:=s.q;have H:=s.T.q;have V:=f.size;have ne:=s.ne l;have k1:∀ p,Q≤p→p<Q+4→w1.heap[p]?=wr.heap[p]?:=fun p u j=>f.block p A (fun x c e=>ne p u j (by rw [List.mem_singleton.1 c] at e;exact e.symm));have t:∀ p,Q<p→p<Q+4→w2.heap[p]?=wr.heap[p]?:=fun p u j=>(a.block p A (fun e=>O)).trans (k1 p A j);have z:∀ x∈kK d' h,x≠U Q:=by rw [J];exact s.T.nr
 have g:Grew (kK d0 h0) w w1:=by
  rcases s.R r l with h | h
  ·exact s.G.step f (by intro x c;rw [List.mem_singleton.1 c];exact h)
  ·refine ⟨lH s.G.size f.size,fun p i k=>(f.block p (lu i s.G.size) (fun x c e=>?_)).trans (s.G.block p i k),f.os.trans s.G.os,f.tape.trans s.G.tape,f.output.trans s.G.output⟩
   rw [List.mem_singleton.1 c] at e;have:=h p e;omega
 refine ⟨⟨v.blk (fun x c q e=>a.block q (v.lo x c q e).2 (fun L=>z x c (e.trans L))),by rw [pz];exact N,?_,z,⟨H.1,by have:=a.size;omega,H.2.2⟩⟩,s.P.block (t _ A A),s.M.block (t _ A A),s.Z.block (t _ A A),⟨lH g.size a.size,fun p i k=>(a.block p (lu i g.size) (fun e=>O)).trans (g.block p i k),a.os.trans g.os,a.tape.trans g.tape,a.output.trans g.output⟩,by rw [J];exact s.R,⟨S.1,by have:=a.size;omega⟩,s.o⟩;exact (Grew.below s.T.hb f A (fun x c q e=>by rw [List.mem_singleton.1 c] at e;exact (s.T.bo.lo r l q e).1)).grown a A (fun q e=>O)
theorem rG.fin (s:rG w0 w B Q d0 h0 pv ms d h wr) (a:wr.grownBy w' (U (Q+3))):lg w' B d h∧Below B w0 w'∧Grew (kK d0 h0) w w'∧∀ r∈kK d h,r∈kK d0 h0∨∀ q,r=U q→Q+4≤q:=by
 have k:=s.q;have l:=s.T.q;have c:=s.G;exact ⟨s.T.bo.blk (fun r g q e=>a.block q (s.T.bo.lo r g q e).2 (fun i=>s.ne g (Q+3) A A (i.symm.trans e.symm))),s.T.hb.grown a A (fun q e=>O),⟨lH c.size a.size,fun p f j=>(a.block p (lu f c.size) (fun e=>O)).trans (c.block p f j),a.os.trans c.os,a.tape.trans c.tape,a.output.trans c.output⟩,s.R⟩
theorem YU (h:uw ts d.R m.ta.toNat∧d.L1.length+d.L2.length<310):keepR d ts m={d with L2:=d.L2 ++ [lS 2 d.ep m.ta m.x],R:=d.R.set m.ta.toNat m.x,J:=d.J.set m.ta.toNat (0,0,0)}:=by unfold keepR;rw [if_pos h]
theorem aaz (h:¬ (uw ts d.R m.ta.toNat∧d.L1.length+d.L2.length<310)):keepR d ts m=d:=by unfold keepR;rw [if_neg h]
theorem Y2 (h:¬ (rs d.R m.ta.toNat).size=0):uq d m=d:=by unfold uq;rw [if_neg h]
theorem XZ (h:Ih d.S m.fm m.ep=C):uq d m=d:=by
 unfold uq;split
 ·rw [h]
 ·rfl
theorem XY {S:List (Bool × Int)} (h0:(rs d.R m.ta.toNat).size=0) (h:Ih d.S m.fm m.ep=U S):uq d m={d with S:=S}:=by unfold uq;rw [if_pos h0,h]
theorem Wv (h:¬ (rs d.R m.ta.toNat=m.x∧d.O.length<2000∧¬ (∃ j,j<d.O.length∧(t3 d.O j).1=m.fm∧(t3 d.O j).2.1=m.le))):JM d m=d:=by unfold JM;rw [if_neg h]
theorem aao (h:rs d.R m.ta.toNat=m.x∧d.O.length<2000∧¬ (∃ j,j<d.O.length∧(t3 d.O j).1=m.fm∧(t3 d.O j).2.1=m.le)):JM d m={d with O:=d.O ++ [(m.fm,m.le,m.ta)]}:=by unfold JM;rw [if_pos h]
theorem aae (h:m.ta<ts.length):Fa d ts m=JM (uq (keepR d ts m) m) m:=by unfold Fa;rw [if_pos h]
theorem ab4 (h:¬ m.ta<ts.length):Fa d ts m=d:=by unfold Fa;rw [if_neg h]
theorem Vz (d:BD) (ts:List kJ) (m:lQ):(keepR d ts m).R.length=d.R.length∧(keepR d ts m).S=d.S∧(keepR d ts m).O=d.O:=by
 unfold keepR;split
 ·exact ⟨D,rfl,rfl⟩
 ·exact ⟨rfl,rfl,rfl⟩
theorem VB (d:BD) (m:lQ):(uq d m).R=d.R∧(uq d m).O=d.O:=by
 unfold uq;split
 ·cases Ih d.S m.fm m.ep with
  | none=>exact ⟨rfl,rfl⟩
  | some S=>exact ⟨rfl,rfl⟩
 ·exact ⟨rfl,rfl⟩
theorem Own.set1 (h:Own B w 1 v R.length (R.map E)) {t:Nat} (f:t<R.length):∃ g o c,v=K (U ⟨g,o,C⟩) R.length c∧w.cell? ⟨g,o+t,C⟩=U (E (rs R t))∧w.frozen? ⟨g,o+t,C⟩=false ∧
  ∀ s:ByteArray,Own B (w.setCell ⟨g,o+t,C⟩ (E s)) 1 v R.length ((R.set t s).map E):=by
 rcases h with ⟨_,h0,_⟩ | ⟨g,o,cap,rfl,a⟩
 ·omega
 ·have i:=a.le
  refine ⟨g,o,cap,rfl,?_,(a.there t A).2,fun s=>.inr ⟨g,o,cap,rfl,?_⟩⟩
  ·rw [a.holds t A,IB,nH f]
   simp [rs,List.getD,f]
  ·have d:=a.setCell (j:=t) A (E s)
   have e:(R.map E).set t (E s)=(R.set t s).map E:=by rw [Ry]
   rw [e] at d;exact d
end Go.Proofs.YtfkkipgcfoegmaaGreat
