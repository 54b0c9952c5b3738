
import Derived.Test.YtfkkipgcfoegmaaGreatQBkg
set_option maxHeartbeats 8000000
set_option maxRecDepth 100000
namespace Go.Proofs.YtfkkipgcfoegmaaGreat
open Go.Proofs.Tryz
open Go.Value renaming slice→K,string→E,bool→aF,pointer→aG,agg→aI
open Option renaming none→C,some→U
open Go.Operand renaming tmp→F
open Go.Obj renaming cells→aH
open Bool renaming false→aK,true→aN
open Go.Value renaming int→I
open Go.IntKind renaming i64→Y
open Go.RowKit
variable {J:List Tr} {i:Nat} {now:Int}
def jE (now:Int) (J:List Tr) (i:Nat):List Tr:=(J.take i).map (nJ now) ++ J.drop i
theorem I5 (hi:i<J.length):t3 J i=J[i]:=by simp [t3,List.getD,hi]
theorem KX (now:Int) (J:List Tr) (i:Nat):(jE now J i).length=J.length:=by unfold jE;simp;omega
theorem YX (hi:i<J.length):t3 (jE now J i) i=t3 J i:=by
 have a:((J.take i).map (nJ now)).length=i:=aQ;unfold jE t3;rw [FC,qP A,a,Xc,RG];simp [List.getD]
theorem YW (hi:i<J.length):(jE now J i).set i (nJ now (t3 J i))=jE now J (i+1):=by
 have a:((J.take i).map (nJ now)).length=i:=aQ;unfold jE;rw [List.drop_eq_getElem_cons hi,List.set_append_right _ _ A,a,Xc,oV,Xa hi,rD,I5 hi];simp
theorem WM (hi:i<J.length) (h:nJ now (t3 J i)=t3 J i):jE now J (i+1)=jE now J i:=by
 rw [← YW hi,h,← YX (now:=now) hi];have a:i<(jE now J i).length:=by rw [KX];exact hi
 rw [I5 a];exact List.set_getElem_self a
theorem ac5 (now:Int) (J:List Tr):jE now J J.length=J.map (nJ now):=by unfold jE;simp
theorem ab9 (now:Int) (J:List Tr):jE now J 0=J:=by unfold jE;simp
def BD.nj (d:BD) (now:Int) (J:List Tr):BD:={d with now:=now,J:=J}
variable {B' Q4 Q5 Q7 c1 nn pc pn q:Nat} {L R:List ByteArray} {W w w1 w10 wr:World} {a1 pa:Option Addr} {d dN:BD} {ep gv:Int} {h':BH} {st:F8} {ts:List kJ} {v:Value} {vs:List Value}
structure Iu (w w1:World) (d:BD) (h':BH) (pa:Option Addr) (pn pc Q5:Nat) (now:Int) (J:List Tr) (wr:World):Prop where
 P3:CF wr (w.heap.size+1) [K pa pn pc]
 A4:CF wr (w.heap.size+2) qH
 X5:CF wr Q5 [I Y d.wk,aF d.up,I Y now,I Y d.sn,I Y d.ep,I Y d.gv,K h'.a1 d.L1.length h'.c1,K h'.a2 d.L2.length h'.c2,K h'.ar d.R.length h'.cr,K h'.aj d.J.length h'.cj,K h'.az d.S.length h'.cs,K h'.ao d.O.length h'.co]
 bo:lg wr w1.heap.size (d.nj now J) h'
 jl:J.length=d.J.length
 hb:Below w1.heap.size w1 wr
 lo:∀ r∈kK d h',∀ q,r=U q→w1.heap.size≤q∧q<Q5
 od:w.heap.size+3≤w1.heap.size∧w1.heap.size≤Q5∧Q5<wr.heap.size
theorem Iu.drew (s:Iu w w1 d h' pa pn pc Q5 now J wr):Iu w w1 d h' pa pn pc Q5 now J wr.drew :=
 have a:Below wr.heap.size wr wr.drew:=mD.drew;have c:=s.od
 ⟨s.P3.block (a.block _ A),s.A4.block (a.block _ A),s.X5.block (a.block _ A),s.bo.below a,s.jl,s.hb.trans (a.mono A),s.lo,⟨c.1,c.2.1,lu c.2.2 a.size⟩⟩
theorem Iu.acH (s:Iu w w1 d h' pa pn pc Q5 now J wr) (n2:Int):Iu w w1 d h' pa pn pc Q5 n2 J (wr.setCell ⟨Q5,2,C⟩ (I Y n2)):=by
 have a:=s.od;have gs:=lU (lJ wr (U Q5)) 2 (I Y n2);refine ⟨s.P3.block (gs.block _ A aQ),s.A4.block (gs.block _ A aQ),s.X5.set (j:=2) D _,?_,s.jl,s.hb.grown gs A (fun q e=>O),s.lo,⟨a.1,a.2.1,lu a.2.2 gs.size⟩⟩;have f:kK (d.nj now J) h'=kK d h':=by unfold kK BD.nj;simp only [s.jl]
 have:=s.bo.blk (w':=wr.setCell ⟨Q5,2,C⟩ (I Y n2)) (fun r hm q c=>by
  rw [f] at hm;have:=s.lo r hm q c;exact gs.block q A (fun e=>O))
 exact ⟨this.o0,this.o1,this.o2,this.o3,this.o4,this.o5,this.Ik⟩
theorem Iu.adn {c:List Tr} {h:World} {f:Nat} (s:Iu w w1 d h' pa pn pc Q5 now J wr) (i:c.length=d.J.length) (j:yV d h'=U f) (a:wr.grownBy h (U f)) (k:Own w1.heap.size h 3 (K h'.aj J.length h'.cj) J.length (c3 c)):Iu w w1 d h' pa pn pc Q5 now c h:=by
 have g:=s.od;have l:=s.lo _ (Ac d h') f j;refine ⟨s.P3.block (a.block _ A aQ),s.A4.block (a.block _ A aQ),s.X5.block (a.block _ A aQ),?_,i,s.hb.grown a A (fun q e=>O),s.lo,⟨g.1,g.2.1,lu g.2.2 a.size⟩⟩;have e:(K h'.aj (d.nj now J).J.length h'.cj).ownBlock=U f:=by
  show (K h'.aj J.length h'.cj).ownBlock=_;rw [s.jl];exact j
 exact s.bo.Zu (gv:=d.gv) (by show c.length=J.length;rw [i,s.jl]) (by rw [e];exact a) k
theorem Code.YO (h:Code ts 0):1≤ts.length∧ts.length≤40∧yY ts ts.length∧Ak ts ts.length∧nM ts ts.length:=by
 rcases h with ⟨h,_⟩ | ⟨a,⟨h,_⟩ | ⟨c,⟨h,_⟩ | ⟨d,⟨h,_⟩ | ⟨e,_⟩⟩⟩⟩
 ·omega
 ·omega
 ·omega
 ·omega
 ·exact ⟨a.1,a.2,c,d,e⟩
theorem BD.Hf (h:d.ok ts) (hu:d.up=aN):d.R.length=ts.length∧d.J.length=ts.length∧(1≤d.ep∧d.ep≤300)∧(0≤d.gv∧d.gv≤1000000)∧d.S.length≤8∧(0≤d.sn∧d.sn≤1)∧d.O.length≤2000:=by
 obtain ⟨wk,up,now,sn,ep,gv,L1,L2,R,J,S,s⟩:=d;dsimp only at hu;subst hu;have h':=h;obtain ⟨_,q,_,r,Q,a,_⟩:=h';obtain ⟨c,e,f,g,i,j,l,k⟩:=qA h a;have p:=Ez (n:=ts.length) (m:=0) _ (Ey ts.length) a;have o:=MH _ (by simp [st0]) a;dsimp only at c e f g i j l k q ⊢;refine ⟨by rw [f];exact p.2.2.1,j.1,⟨e,by rw [c];exact o⟩,i,A,g,k.1⟩
theorem BD.Wx (a:d.fits) (now n2:Int):(d.nj now (d.J.map (nJ n2))).fits:=by
 refine ⟨a.s1,a.s2,a.s3,?_,a.k2,a.k4⟩;intro j f;have c:j<d.J.length:=by simpa [BD.nj] using f
 have e:t3 (d.J.map (nJ n2)) j=nJ n2 (t3 d.J j):=by rw [I5 fZ,I5 c,List.getElem_map]
 show I64 (t3 (d.J.map (nJ n2)) j).1∧I64 (t3 (d.J.map (nJ n2)) j).2.1∧I64 (t3 (d.J.map (nJ n2)) j).2.2;rw [e];have key:∀ x:Tr,(I64 x.1∧I64 x.2.1∧I64 x.2.2)→I64 (nJ n2 x).1∧I64 (nJ n2 x).2.1∧I64 (nJ n2 x).2.2:=fun x g=>by
  unfold nJ;split
  ·exact ⟨by show I64 0;unfold I64;decide,by show I64 0;unfold I64;decide,by show I64 0;unfold I64;decide⟩
  ·exact g
 exact key _ (a.k3 j c)
theorem Iu.led (s:Iu w w1 d h' pa pn pc Q5 now J wr) (a:Below w.heap.size w w1) (f:wr.grownBy w10 (U (w.heap.size+2))):Yh w10 w.heap.size (d.nj now J) h' (K C 0 0) [] []∧Below w.heap.size w w10:=by
 have k:=s.od;have c:kK (d.nj now J) h'=kK d h':=by unfold kK BD.nj;simp only [s.jl]
 have g:=s.bo.blk (w':=w10) (fun r hm q i=>by
  rw [c] at hm;have:=s.lo r hm q i;exact f.block q A (fun e=>O))
 refine ⟨⟨g.mono a.size,qy.nil _ _,fun r c=>Dj.symm (.inl rfl),fun r c j h=>absurd h D⟩,?_⟩;exact (a.trans (s.hb.mono a.size)).grown f A (fun q e=>O)
theorem uz.led {s:World} {B c:Nat} {h:BH} (H:uz s w B c d h st v vs wr) (sn:Int) (g:wr.grownBy w10 (U q)) (u:q<B) (l:B'≤B):Yh w10 B' {d with sn:=sn,gv:=st.gv,J:=st.J,S:=st.S} h v st.M vs:=by
 have t:=H.bs;have z:=H.qm;have i:kK {d with sn:=sn,gv:=st.gv,J:=st.J,S:=st.S} h=kK d h:=by unfold kK;simp only [H.lj.1,H.lj.2]
 have a:=H.bo.blk (w':=w10) (fun r hm p o=>by
  rw [JH H.lj] at hm;have:=H.lo r hm p o;have:=H.sz;exact g.block p A (fun e=>O))
 refine ⟨lg.mono ⟨a.o0,a.o1,a.o2,a.o3,a.o4,a.o5,a.Ik⟩ l,?_,fun r hm=>?_,fun r hm j f=>?_⟩
 ·refine (H.ms.grown g ?_ (fun j f=>?_)).mono A
  ·exact (Dn.later (x:=U q) (m:=c) (fun k e=>O) H.ms.row.ku).symm
  ·exact (Dn.later (x:=U q) (m:=c) (fun k e=>O) (H.ms.dep j f).ku).symm
 ·rw [i] at hm
  exact (H.rows hm).1.symm
 ·rw [i] at hm
  exact ((H.rows hm).2 j f).symm
theorem Ov {ops:Array Oper} {rest:List Oper} {op:Oper} {a:Act} {Q:Exit→Act→World→Prop} (d:op.guard=C) (x y:Operand) (e:op.op=.store 25 x y) (b o:Nat) (a1:Option Addr) (n1 c1:Nat) (g:a.eval x=aG (U ⟨b,o,C⟩)) (h:a.eval y=aI #[K a1 n1 c1,K C 0 0]) (f:w.there b o 2)
  (c:wpList prog ops Q rest (a.put op.dst undef) (w.setCells b o [K a1 n1 c1,K C 0 0])):wpList prog ops Q (op :: rest) a w :=
 wpList_store_mid d 25 x y e b o #[K a1 n1 c1,K C 0 0] g h f Z Z c
theorem Zy {a:List Tr} {j:Nat} (c:j<a.length):(a.take (j+1)).map (Gm ep)=(a.take j).map (Gm ep) ++ [Gm ep (t3 a j)]:=by
 rw [Og,nH c,rD,I5 c];rfl
structure Lr (w1 wr:World) (Q4 Q7 nn:Nat) (d dN:BD) (h':BH) (now gv:Int) (st:F8) (a1:Option Addr) (c1:Nat) (L:List ByteArray) (v:Value) (vs:List Value) (W:World):Prop where
 H:uz w1 wr w1.heap.size (wr.heap.size+4) dN h' st v vs W
 A:CF W Q4 qH
 L7:CF W Q7 [I Y d.wk,aF d.up,I Y now,I Y 0,I Y d.ep,I Y gv,K a1 L.length c1,K C 0 0,K h'.ar nn h'.cr,K h'.aj nn h'.cj,K h'.az d.S.length h'.cs,K h'.ao d.O.length h'.co,v]
 O1:Own (Q7+1) W 1 (K a1 L.length c1) L.length (L.map E)
 d1:Dn (K a1 L.length c1).ownBlock v.ownBlock
 d2:∀ j,j<st.M.length→Dn (K a1 L.length c1).ownBlock (vs.getD j kH).ownBlock
 n1:Dn v.ownBlock (U Q7)
 n2:∀ j,j<st.M.length→Dn (vs.getD j kH).ownBlock (U Q7)
 q:wr.heap.size+4≤Q7∧Q7<W.heap.size∧Q4<w1.heap.size
 vm:∃ a c,v=K a st.M.length c
theorem Lr.below {W':World} (s:Lr w1 wr Q4 Q7 nn d dN h' now gv st a1 c1 L v vs W) (a:Below W.heap.size W W'):Lr w1 wr Q4 Q7 nn d dN h' now gv st a1 c1 L v vs W' :=
 have c:=s.q;have e:=s.H.bs
 ⟨s.H.below a,s.A.block (a.block _ (by omega)),s.L7.block (a.block _ (by omega)),s.O1.below a kL,s.d1,s.d2,s.n1,s.n2,⟨c.1,lu c.2.1 a.size,c.2.2⟩,s.vm⟩
theorem Lr.app {i:World} {m:lQ} {a9:Option Addr} {a:Nat} {ob:Obj} (s:Lr w1 wr Q4 Q7 nn d dN h' now gv st a1 c1 L v vs W) (hm:m.ss=[])
  (X:Own (wr.heap.size+4) i 8 (K a9 (st.M.length+1) a) (st.M.length+1) (uD st.M vs ++ Aw m (K C 0 0))) (g:(W.alloc ob).grownBy i v.ownBlock) (o:(K a9 (st.M.length+1) a).ownBlock=v.ownBlock∨(K a9 (st.M.length+1) a).ownBlock=U (W.alloc ob).heap.size) :
  Lr w1 wr Q4 Q7 nn d dN h' now gv ⟨st.gv,st.J,st.S,st.M ++ [m]⟩ a1 c1 L (K a9 (st.M.length+1) a) (vs ++ [K C 0 0]) (i.setCell ⟨Q7,12,C⟩ (K a9 (st.M.length+1) a)):=by
 have c:=s.q;have aa:=s.H.bs;have T:=s.H.ms.row.ku;have ae:(W.alloc ob).heap.size=W.heap.size+1:=D;have k:Below W.heap.size W (W.alloc ob):=kQ;have ab:=g.size;have gs:=lU (lJ i (U Q7)) 12 (K a9 (st.M.length+1) a);have V:Own (wr.heap.size+4) W 1 (K C 0 0) m.ss.length (m.ss.map E):=by rw [hm];exact Own.nil _ _ _
 have R:=s.H.snoc (t:=m) V (.inl rfl) (fun j f=>Dn.symm (.inl rfl)) X g o;have key:∀ x:Option Nat,Dn x v.ownBlock→(∀ q,x=U q→q<W.heap.size)→Dn x (K a9 (st.M.length+1) a).ownBlock:=fun x P Q=>by
  rcases o with e | e
  ·rw [e];exact P
  ·exact Dn.later Q (fun q c=>by rw [e] at c;injection c with c;omega)
 have z:Dn (K a9 (st.M.length+1) a).ownBlock (U Q7):=(key (U Q7) s.n1.symm (fun q e=>O)).symm;have l:∀ j,j<st.M.length→(vs ++ [K C 0 0]).getD j kH=vs.getD j kH:=fun j f=>by simp [List.getD,List.getElem?_append_left (show j<vs.length by rw [s.H.ms.len];exact f)]
 have ge:(vs ++ [K C 0 0]).getD st.M.length kH=K C 0 0:=by rw [← s.H.ms.len];simp [List.getD]
 have N:∀ j,j<(st.M ++ [m]).length→Dn ((vs ++ [K C 0 0]).getD j kH).ownBlock (U Q7):=fun j f=>by
  rw [lD,mQ] at f;by_cases e:j<st.M.length
  ·rw [l j e];exact s.n2 j e
  ·obtain rfl:j=st.M.length:=by omega
   rw [ge];exact .inl rfl
 have r:∀ p,p<wr.heap.size+4∨p=Q7→U p≠v.ownBlock:=fun p u e=>by
  rcases u with u | rfl
  ·have:=T p e.symm;omega
  ·rcases s.n1 with h | h
   ·rw [h] at e;cases e
   ·exact h e.symm
 refine ⟨R.far gs (by omega) z N,?_,?_,?_,?_,fun j f=>?_,z,N,⟨c.1,bW,c.2.2⟩,⟨a9,a,by rw [lD,mQ]⟩⟩
 ·exact ((s.A.block (k.block _ (by omega))).block (g.block _ (by omega) (r _ (.inl (by omega))))).block (gs.block _ (by omega) (fun e=>O))
 ·exact ((s.L7.block (k.block _ c.2.1)).block (g.block _ (by omega) (r _ (.inr rfl)))).set (j:=12) D _
 ·refine ((s.O1.below k kL).grown g s.d1).grown gs (.inr (fun e=>?_))
  have:=s.O1.ku Q7 e;omega
 ·exact key _ s.d1 s.O1.kD
 ·rw [lD,mQ] at f
  by_cases e:j<st.M.length
  ·rw [l j e];exact s.d2 j e
  ·obtain rfl:j=st.M.length:=by omega
   rw [ge];exact Dn.symm (.inl rfl)
theorem Lr.led {G:Nat} (s:Lr w1 wr Q4 Q7 nn d dN h' now gv st a1 c1 L v vs W) (o:∀ q,q<W.heap.size→q≠Q7→q≠Q4→w10.heap[q]?=W.heap[q]?) (hG:kW W.heap.size w10 3 G 0 0 0 []) (aa:G=W.heap.size) (l:B'≤w1.heap.size) :
  Yh w10 B' ⟨dN.wk,dN.up,dN.now,0,dN.ep,st.gv,L,[],dN.R,st.J,st.S,[]⟩ {h' with a1:=a1,a2:=C,ao:=U ⟨G,0,C⟩,c1:=c1,c2:=0,co:=0} v st.M vs:=by
 have hq:=s.q;have ab:=s.H.bs;have af:=s.H.qm;have ag:=s.H.sz;have ae:=s.H.gr.size;have p:∀ r∈kK dN h',∀ q,r=U q→w1.heap.size≤q∧q<wr.heap.size:=s.H.lo;have g:(K h'.ar dN.R.length h'.cr).ownBlock∈kK dN h':=by unfold kK;simp
 have i:(K h'.aj st.J.length h'.cj).ownBlock∈kK dN h':=by rw [s.H.lj.1];exact Ac dN h'
 have k:(K h'.az st.S.length h'.cs).ownBlock∈kK dN h':=by rw [s.H.lj.2];exact qW dN h'
 have u:∀ r∈kK dN h',∀ q,r=U q→w10.heap[q]?=W.heap[q]?:=fun r a q e=>by have:=p r a q e;exact o q (by omega) (by omega) (by omega)
 have k0:∀ q,(K a1 L.length c1).ownBlock=U q→w10.heap[q]?=W.heap[q]?:=fun q e=>by have h1:=s.O1.ku q e;have h2:=s.O1.kD q e;exact o q h2 (by omega) (by omega)
 have X:∀ x:Value,Dn x.ownBlock (U Q7)→(∀ q,x.ownBlock=U q→wr.heap.size+4≤q∧q<W.heap.size)→∀ q,x.ownBlock=U q→w10.heap[q]?=W.heap[q]?:=fun x t hb q e=>by
  have:=hb q e;refine o q (by omega) (fun hh=>?_) (by omega);subst hh;rcases t with h | h
  ·rw [h] at e;cases e
  ·exact h e
 have z:∀ r:Option Nat,r∈kK dN h'→Dj (K a1 L.length c1).ownBlock r:=fun r a=>Dn.symm (Dn.later (m:=Q7) (fun q e=>by have:=p r a q e;omega) (fun q e=>by have:=s.O1.ku q e;omega));have f:∀ x:Option Nat,(∀ q,x=U q→q<W.heap.size)→Dj x (U G):=fun x t=>Dn.later (m:=W.heap.size) t (fun q e=>O);have N:∀ r:Option Nat,r∈kK dN h'→Dj r (U G):=fun r a=>f r (fun q e=>by have:=p r a q e;omega);have P:=s.H.bo.Ik;simp only [rW,mG,mF,or_false,forall_eq_or_imp,forall_eq,List.Pairwise.nil,and_true,false_implies,implies_true] at P;obtain ⟨_,_,⟨Lh,Kz,_⟩,⟨Jj,_⟩,_⟩:=P;have T:∀ q,v.ownBlock=U q→wr.heap.size+4≤q∧q<W.heap.size:=fun q e=>⟨s.H.ms.row.ku q e,s.H.ms.row.kD q e⟩
 have V:∀ j,j<st.M.length→∀ q,(vs.getD j kH).ownBlock=U q→wr.heap.size+4≤q∧q<W.heap.size:=fun j c q e=>⟨(s.H.ms.dep j c).ku q e,(s.H.ms.dep j c).kD q e⟩
 have Q:∀ r,r∈kK ⟨dN.wk,dN.up,dN.now,0,dN.ep,st.gv,L,[],dN.R,st.J,st.S,[]⟩ ({h' with a1:=a1,a2:=C,ao:=U ⟨G,0,C⟩,c1:=c1,c2:=0,co:=0}:BH)→r=(K a1 L.length c1).ownBlock∨r=C∨r∈kK dN h'∨r=U G:=fun r a=>by
  unfold kK at a;simp only [mG,mF,or_false] at a;rcases a with rfl | rfl | rfl | rfl | rfl | rfl
  ·exact .inl rfl
  ·exact .inr (.inl rfl)
  ·exact .inr (.inr (.inl g))
  ·exact .inr (.inr (.inl i))
  ·exact .inr (.inr (.inl k))
  ·exact .inr (.inr (.inr rfl))
 refine ⟨⟨(s.O1.blk k0).mono' (by omega),Own.nil _ _ _,(s.H.bo.o2.blk (u _ g)).mono' l,(s.H.bo.o3.blk (u _ i)).mono' l,(s.H.bo.o4.blk (u _ k)).mono' l,.inr ⟨G,0,0,rfl,hG.mono (by omega)⟩,?_⟩,?_,fun r a=>?_,fun r a j c=>?_⟩
 ·show List.Pairwise Dj [(K a1 L.length c1).ownBlock,C,(K h'.ar dN.R.length h'.cr).ownBlock,(K h'.aj st.J.length h'.cj).ownBlock,(K h'.az st.S.length h'.cs).ownBlock,U G]
  simp only [rW,mG,mF,or_false,forall_eq_or_imp,forall_eq,List.Pairwise.nil,and_true,false_implies,implies_true];exact ⟨⟨Dj.symm (.inl rfl),z _ g,z _ i,z _ k,f _ s.O1.kD⟩,⟨.inl rfl,.inl rfl,.inl rfl,.inl rfl⟩,⟨Lh,Kz,N _ g⟩,⟨Jj,N _ i⟩,N _ k⟩
 ·exact qy.mono ⟨s.H.ms.len,s.H.ms.row.blk (X v s.n1 T),fun j c=>(s.H.ms.dep j c).blk (X _ (s.n2 j c) (V j c)),s.H.ms.dr,s.H.ms.dd⟩ (by omega)
 ·rcases Q r a with rfl | rfl | h | rfl
  ·exact s.d1
  ·exact .inl rfl
  ·exact (s.H.rows h).1.symm
  ·exact (f _ (fun q e=>(T q e).2)).symm
 ·rcases Q r a with rfl | rfl | h | rfl
  ·exact s.d2 j c
  ·exact .inl rfl
  ·exact ((s.H.rows h).2 j c).symm
  ·exact (f _ (fun q e=>(V j c q e).2)).symm
theorem Xr (d:BD) (h:BH) (pa:Option Addr) (pb po pn pc:Nat) (ts:List kJ) (hM:rU w d h) (hT:lN w pa pb po pn ts) (f:d.small) :
  Calls prog 88 #[aI (nN d h),aI #[K pa pn pc]] w fun e w'=>abr e w.heap.size w' (KF d ts)∧Below w.heap.size w w':=by
 obtain ⟨W, hW⟩ := kC (((w.alloc (aH (nN d h) 30)).alloc (aH #[K pa pn pc] 33)).alloc (aH Iw 141));have B0:Below w.heap.size w W:=jS;have z0:W.heap.size=w.heap.size+3:=dF;have P0:CF W w.heap.size (nR d h):=by
  rw [hW];exact ((CF.made w (nN d h) 30).block (kU _ _ _ D)).block (kU _ _ _ aQ)
 have L0:CF W (w.heap.size+1) [K pa pn pc]:=by
  have:=CF.made (w.alloc (aH (nN d h) 30)) #[K pa pn pc] 33;rw [mJ] at this;rw [hW];exact this.block (kU _ _ _ D)
 have R0:CF W (w.heap.size+2) qH:=by
  have:=CF.made ((w.alloc (aH (nN d h) 30)).alloc (aH #[K pa pn pc] 33)) Iw 141;rw [mJ,mJ] at this;rw [hW];exact this
 have hf:=hid hM.fits;have ei:EP w d (nR d h):=⟨h,rfl,hM⟩
 have hV:=hid (ei.below' B0);have ew:=hid f;clear ei f;have HW:=hid hW;clear hW;go_enter func88,ntmps88
 go_upto_region 1 with fail
 rw [← HW.out];clear HW;obtain ⟨y0,z,l,P,X,y5,y6,y7,y8,N,aa,V⟩:=l9 P0;have kp:W.cell? ⟨w.heap.size+1,0,C⟩=U (K pa pn pc):=(L0 0 D).1;go_wp2_with fail
 refine (Gt d pa pb po pn pc ts hV.out (hT.below' B0) ew.out).mono ?_;rintro e w1 ⟨⟨r,rfl,hr⟩,a8⟩;clear y0 z l P X y5 y6 y7 y8 N aa V kp;have P1:=P0.block (a8.block w.heap.size A);have L1:=L0.block (a8.block (w.heap.size+1) A);have R1:=R0.block (a8.block (w.heap.size+2) A);have B1:=B0.trans (a8.mono B0.size);have z1:w.heap.size+3≤w1.heap.size:=by have:=a8.size;omega
 have HR:=hid hr;clear hr a8 P0 R0 B0 z0 L0;cases r with
 | false =>
  have HN:=hid (show ¬ d.ok ts from fun hh=>by have:=HR.out.2 hh;cases this);go_upto_region 2 with fail
  go_wp2_with (refine jY rfl 141 (F 4) (F 14) rfl (w.heap.size+2) qH qH rfl rfl R1 rfl Tryz.sizeLd (DR) ?_;intro w10 ak ab)
  obtain ⟨k0,k1,k2,k3,k4,k5,k6,k7,k8,k9,al,an,aq⟩:=Dq ak;exact bodyPost_ret (v:=aI Iw) bP rfl ⟨⟨rM,⟨C,C,C,C,C,C,0,0,0,0,0,0⟩,K C 0 0,[],[],rfl,⟨TJ _ _,qy.nil _ _,fun r hr=>Dj.symm (.inl rfl),fun r hr j T=>absurd T D⟩,.inr ⟨HN.out,rfl⟩⟩,below_grown B1 ab A (fun q hq=>dR)⟩
 | true =>
  have HV:=hid (show d.ok ts from HR.out.1 rfl);have gd:=ew.out;unfold BD.small at gd;obtain ⟨⟨b1,o1,h1⟩,⟨b2,o2,h2⟩,⟨b3,o3,h3⟩,⟨b4,o4,h4⟩,⟨b5,o5,h5⟩,⟨b6,o6,h6⟩⟩:=hM;obtain ⟨y0,z,l,P,X,y5,y6,y7,y8,N,aa,V⟩:=l9 P1;go_wp2_with fail
  refine (Ad d.wk d.up d.now d.sn d.ep d.gv h.a1 h.a2 h.ar h.aj h.az h.ao b1 o1 h.c1 b2 o2 h.c2 b3 o3 h.cr b4 o4 h.cj b5 o5 h.cs b6 o6 h.co d.L1 d.L2 d.R d.J d.S d.O _ (h1.below' B1) (h2.below' B1) (h3.below' B1) (h4.below' B1) (h5.below' B1) (h6.below' B1) A A A A A A).mono ?_;rintro e w2 ⟨b9,cg,ca,ch,cb,ck,cc,cl,cd,cm,cf,cn,rfl,⟨q0,q1,q2,q3,q4,q5⟩,en,bq⟩;clear y0 z l P X y5 y6 y7 y8 N aa V;go_upto_region 4 with fail
  obtain ⟨W3, bm⟩ := kC (w2.alloc (aH #[I Y d.wk,aF d.up,I Y d.now,I Y d.sn,I Y d.ep,I Y d.gv,K b9 d.L1.length cg,K ca d.L2.length ch,K cb d.R.length ck,K cc d.J.length cl,K cd d.S.length cm,K cf d.O.length cn] 30));obtain ⟨Q5, bl⟩ := kC w2.heap.size;have br:Below w2.heap.size w2 W3:=by rw [bm];exact kQ
  obtain ⟨h',dm⟩:∃ x:BH,x=⟨b9,ca,cb,cc,cd,cf,cg,ch,ck,cl,cm,cn⟩:=⟨_,rfl⟩
  have e7:=bq.size;have s0:Iu w w1 d h' pa pn pc Q5 d.now d.J W3:=by
   subst dm;have eh:lg w2 w1.heap.size d ⟨b9,ca,cb,cc,cd,cf,cg,ch,ck,cl,cm,cn⟩:=⟨q0,q1,q2,q3,q4,q5,en⟩
   refine ⟨(L1.block (bq.block _ A)).block (br.block _ A),(R1.block (bq.block _ A)).block (br.block _ A),?_,eh.below br,rfl,bq.trans (br.mono e7),fun r hr q hq=>by rw [bl];exact eh.lo r hr q hq,⟨z1,A,by rw [bm,bl];simp⟩⟩;rw [bm,bl];exact CF.made w2 #[I Y d.wk,aF d.up,I Y d.now,I Y d.sn,I Y d.ep,I Y d.gv,K b9 d.L1.length cg,K ca d.L2.length ch,K cb d.R.length ck,K cc d.J.length cl,K cd d.S.length cm,K cf d.O.length cn] 30
  rw [← bm,← bl];have HH:=hid dm;clear bm bl br bq q0 q1 q2 q3 q4 q5 en dm e7 L1 R1 P1;obtain ⟨-,z,l⟩:=cf3 s0.X5;by_cases er:d.now<1000000
  case neg =>
   have fz:d.now ≥ 1000000:=A;have fe:=hid er;clear er z l;have l:W3.cell? ⟨Q5,2,C⟩=U (I Y d.now):=(s0.X5 2 D).1;go_upto_region 5 with fail
   clear l;obtain ⟨y0,z,l,P,X,y5,y6,y7,y8,N,aa,V⟩:=l9 s0.X5;go_wp2_with (refine jY rfl 141 (F 4) (F 21) rfl (w.heap.size+2) qH [I Y d.wk,aF d.up,I Y d.now,I Y d.sn,I Y d.ep,I Y d.gv,K h'.a1 d.L1.length h'.c1,K h'.a2 d.L2.length h'.c2,K h'.ar d.R.length h'.cr,K h'.aj d.J.length h'.cj,K h'.az d.S.length h'.cs,K h'.ao d.O.length h'.co,K C 0 0] rfl rfl s0.A4 rfl Tryz.sizeLd (DR) ?_;intro w10 ak ab)
   clear y0 z l P X y5 y6 y7 y8 N aa V;obtain ⟨k0,k1,k2,k3,k4,k5,k6,k7,k8,k9,al,an,aq⟩:=Dq ak;have hL:=s0.led B1 ab;exact bodyPost_ret (v:=aI #[I Y d.wk,aF d.up,I Y d.now,I Y d.sn,I Y d.ep,I Y d.gv,K h'.a1 d.L1.length h'.c1,K h'.a2 d.L2.length h'.c2,K h'.ar d.R.length h'.cr,K h'.aj d.J.length h'.cj,K h'.az d.S.length h'.cs,K h'.ao d.O.length h'.co,K C 0 0]) bP rfl ⟨⟨d.nj d.now d.J,h',K C 0 0,[],[],rfl,hL.1,.inl ⟨HV.out,by unfold JA;rw [if_pos (by have:=fe.out;omega)];rfl⟩⟩,hL.2⟩
  have fz:¬ d.now ≥ 1000000:=A;have gy:0≤d.now:=HV.out.2.2.1.1;have f2:W3.frozen? ⟨Q5,2,C⟩=aK:=(s0.X5 2 D).2;go_upto_region 7 with fail
  have s1:=s0.acH (d.now+1);obtain ⟨W4, dh⟩ := kC (W3.setCell ⟨Q5,2,C⟩ (I Y (d.now+1)));rw [← dh] at s1;rw [← dh];clear dh s0 z l f2;have z:W4.cell? ⟨Q5,1,C⟩=U (aF d.up):=(s1.X5 1 D).1;cases bf:d.up with
  | false =>
   rw [bf] at z;have ai:=hid bf;clear bf;go_upto_region 8 with fail
   clear z;obtain ⟨y0,z,l,P,X,y5,y6,y7,y8,N,aa,V⟩:=l9 s1.X5;go_wp2_with (refine jY rfl 141 (F 4) (F 30) rfl (w.heap.size+2) qH [I Y d.wk,aF d.up,I Y (d.now+1),I Y d.sn,I Y d.ep,I Y d.gv,K h'.a1 d.L1.length h'.c1,K h'.a2 d.L2.length h'.c2,K h'.ar d.R.length h'.cr,K h'.aj d.J.length h'.cj,K h'.az d.S.length h'.cs,K h'.ao d.O.length h'.co,K C 0 0] rfl rfl s1.A4 rfl Tryz.sizeLd (DR) ?_;intro w10 ak ab)
   clear y0 z l P X y5 y6 y7 y8 N aa V;obtain ⟨k0,k1,k2,k3,k4,k5,k6,k7,k8,k9,al,an,aq⟩:=Dq ak;have hL:=s1.led B1 ab;exact bodyPost_ret (v:=aI #[I Y d.wk,aF d.up,I Y (d.now+1),I Y d.sn,I Y d.ep,I Y d.gv,K h'.a1 d.L1.length h'.c1,K h'.a2 d.L2.length h'.c2,K h'.ar d.R.length h'.cr,K h'.aj d.J.length h'.cj,K h'.az d.S.length h'.cs,K h'.ao d.O.length h'.co,K C 0 0]) bP rfl ⟨⟨d.nj (d.now+1) d.J,h',K C 0 0,[],[],rfl,hL.1,.inl ⟨HV.out,by unfold JA;rw [if_neg A,if_pos ai.out];rfl⟩⟩,hL.2⟩
  | true =>
   rw [bf] at z;have ai:=hid bf;clear bf;go_wp2_with fail
   clear z;go_loopw [6] (fun x wr=>∃ i:Nat,i≤d.J.length∧x=I Y i∧Iu w w1 d h' pa pn pc Q5 (d.now+1) (jE (d.now+1) d.J i) wr) (fun x _=>d.J.length - (intOf x).toNat)
   case atStart=>exact ⟨0,lG _,rfl,by rw [ab9];exact s1⟩
   case round =>
    clear s1;obtain ⟨i,hi,rfl,f⟩:=hrel;have gu:d.J.length≤1048576:=A;have eb:wr.cell? ⟨Q5,9,C⟩=U (K h'.aj d.J.length h'.cj):=(f.X5 9 D).1;by_cases ah:i<d.J.length
    case pos =>
     have fy:(i:Int)<(d.J.length:Int):=A;go_upto_region 12 with fail
     obtain ⟨g,k,cj,a7,_,_⟩:=f.bo.o3.Ht (i:=i) (by show i<(jE (d.now+1) d.J i).length;rw [KX];exact ah);obtain ⟨ae, dq⟩ := kC ((t3 d.J i).1);obtain ⟨ax, du⟩ := kC ((t3 d.J i).2.2);have bc:h'.aj=U ⟨g,k,C⟩:=by injection a7 with e1 e2 e3
     have av:∀ r,r<3→wr.cell? ⟨g,k+(i*3+r),C⟩=[I Y (t3 d.J i).1,I Y (t3 d.J i).2.1,I Y (t3 d.J i).2.2][r]?:=fun r hr=>by
      rcases f.bo.o3 with ⟨Q,_⟩ | ⟨g',gh,fk,Q,a⟩
      ·rw [a7] at Q;cases Q
      ·rw [a7] at Q
       injection Q with e1 e2 e3;injection e1 with e1;injection e1 with e4 e5;subst e4 e5;have hl:i<(jE (d.now+1) d.J i).length:=by rw [KX];exact ah
       rw [a.holds (i*3+r) (by show i*3+r<(jE (d.now+1) d.J i).length*3;omega),← YX (now:=(d.now+1)) ah];exact oW (jE (d.now+1) d.J i) i r hl hr
     have c5:wr.cell? ⟨g,k+i*3,C⟩=U (I Y ae):=by rw [dq];exact av 0 A
     have c6:wr.cell? ⟨g,k+i*3+2,C⟩=U (I Y ax):=by rw [du];exact av 2 A
     have N:wr.cell? ⟨Q5,9,C⟩=U (K (U ⟨g,k,C⟩) d.J.length h'.cj):=by rw [← bc];exact eb
     have l:wr.cell? ⟨Q5,2,C⟩=U (I Y (d.now+1)):=(f.X5 2 D).1;have bg:=hid dq;have bk:=hid du;clear dq du av a7 bc eb;by_cases bd:ae=0
     case pos =>
      have bb:decide (ae≠0)=aK:=decide_eq_false A;have c7:=hid (show nJ (d.now+1) (t3 d.J i)=t3 d.J i by unfold nJ;rw [if_neg];intro hh;exact hh.1 (by rw [← bg.out];exact bd));refine wp_region_held (S:=fun w'=>w'.cell? ⟨Q5,9,C⟩=U (K (U ⟨g,k,C⟩) d.J.length h'.cj)∧w'.cell? ⟨Q5,2,C⟩=U (I Y (d.now+1))∧w'.cell? ⟨g,k+i*3,C⟩=U (I Y ae)∧w'.cell? ⟨g,k+i*3+2,C⟩=U (I Y ax)) Z ?_;change wpAnyH _ _ _ _ _ _ _ _ (World.drew _);have c:wr.drew.cell? ⟨Q5,9,C⟩=U (K (U ⟨g,k,C⟩) d.J.length h'.cj)∧wr.drew.cell? ⟨Q5,2,C⟩=U (I Y (d.now+1))∧wr.drew.cell? ⟨g,k+i*3,C⟩=U (I Y ae)∧wr.drew.cell? ⟨g,k+i*3+2,C⟩=U (I Y ax):=⟨N,l,c5,c6⟩
      refine jZ (i:=0) (d:=U 38) (v:=aG (U ⟨Q5,9,C⟩)) (l':=(bt 18 1)) rfl (fun _ a=>DV (F 5) Z Z) c ?_;refine jZ (i:=1) (d:=U 39) (v:=(K (U ⟨g,k,C⟩) d.J.length h'.cj)) (l':=(bt 18 3)) rfl (fun _ a=>CG (F 38) Z Z a.1) c ?_;refine jZ (i:=2) (d:=U 40) (v:=I Y (i:Nat)) (l':=(bt 18 7)) rfl (fun _ a=>yT (F 6) Z Z) c ?_;refine jZ (i:=3) (d:=U 41) (v:=aG (U ⟨g,k+i*3,C⟩)) (l':=(bt 18 15)) rfl (fun _ a=>yU (F 39) (F 40) g k d.J.length h'.cj i Z Z Z ah) c ?_;refine jZ (i:=4) (d:=U 42) (v:=aG (U ⟨g,k+i*3,C⟩)) (l':=(bt 18 31)) rfl (fun _ a=>JE (F 41) Z Z) c ?_;refine jZ (i:=5) (d:=U 43) (v:=I Y ae) (l':=(bt 18 63)) rfl (fun _ a=>nG (F 42) Z Z a.2.2.1) c ?_;refine jZ (i:=6) (d:=U 44) (v:=aF aK) (l':=(bt 18 127)) rfl (fun _ a=>VQ (F 43) (.const (I Y 0)) ae 0 aK Z Z Z bb) c ?_;refine jZ (i:=7) (d:=U 45) (v:=aF aK) (l':=(bt 18 255)) rfl (fun _ a=>yT (F 44) Z Z) c ?_;refine rC (i:=8) (d:=U 46) (l':=(bt 18 511)) rfl c ?_;refine rC (i:=9) (d:=U 47) (l':=(bt 18 1023)) rfl c ?_;refine rC (i:=10) (d:=U 48) (l':=(bt 18 2047)) rfl c ?_;refine rC (i:=11) (d:=U 49) (l':=(bt 18 4095)) rfl c ?_;refine rC (i:=12) (d:=U 50) (l':=(bt 18 8191)) rfl c ?_;refine rC (i:=13) (d:=U 51) (l':=(bt 18 16383)) rfl c ?_;refine rC (i:=14) (d:=U 52) (l':=(bt 18 32767)) rfl c ?_;refine rC (i:=15) (d:=U 53) (l':=(bt 18 65535)) rfl c ?_;refine rC (i:=16) (d:=U 54) (l':=(bt 18 131071)) rfl c ?_;refine jZ (i:=17) (d:=U 55) (v:=aF aK) (l':=(bt 18 262143)) rfl (fun _ a=>ZH (F 45) (F 54) (.const (aF aK)) Z Z Z) c ?_;refine wpAnyH_done Z ?_ _;have sd:=f.drew;obtain ⟨u, hu⟩ := kC wr.drew;rw [← hu] at sd;rw [← hu];clear hu c f N l c5 c6;clear bd bb bg bk;have HS:=hid sd;clear sd;go_simp;go_wp2_with fail
      go_roundw
      case rel=>exact ⟨i+1,A,aW,by rw [WM ah (c7.out)];exact HS.out⟩
      case measure=>simp [intOf];omega
     case neg =>
      have bb:decide (ae≠0)=aN:=decide_eq_true bd;obtain ⟨b2,bw⟩:∃ b,decide (ax≤(d.now+1))=b:=⟨_,rfl⟩
      refine wp_region_held (S:=fun w'=>w'.cell? ⟨Q5,9,C⟩=U (K (U ⟨g,k,C⟩) d.J.length h'.cj)∧w'.cell? ⟨Q5,2,C⟩=U (I Y (d.now+1))∧w'.cell? ⟨g,k+i*3,C⟩=U (I Y ae)∧w'.cell? ⟨g,k+i*3+2,C⟩=U (I Y ax)) Z ?_;change wpAnyH _ _ _ _ _ _ _ _ (World.drew _);have c:wr.drew.cell? ⟨Q5,9,C⟩=U (K (U ⟨g,k,C⟩) d.J.length h'.cj)∧wr.drew.cell? ⟨Q5,2,C⟩=U (I Y (d.now+1))∧wr.drew.cell? ⟨g,k+i*3,C⟩=U (I Y ae)∧wr.drew.cell? ⟨g,k+i*3+2,C⟩=U (I Y ax):=⟨N,l,c5,c6⟩
      refine jZ (i:=0) (d:=U 38) (v:=aG (U ⟨Q5,9,C⟩)) (l':=(bt 18 1)) rfl (fun _ a=>DV (F 5) Z Z) c ?_;refine jZ (i:=1) (d:=U 39) (v:=(K (U ⟨g,k,C⟩) d.J.length h'.cj)) (l':=(bt 18 3)) rfl (fun _ a=>CG (F 38) Z Z a.1) c ?_;refine jZ (i:=2) (d:=U 40) (v:=I Y (i:Nat)) (l':=(bt 18 7)) rfl (fun _ a=>yT (F 6) Z Z) c ?_;refine jZ (i:=3) (d:=U 41) (v:=aG (U ⟨g,k+i*3,C⟩)) (l':=(bt 18 15)) rfl (fun _ a=>yU (F 39) (F 40) g k d.J.length h'.cj i Z Z Z ah) c ?_;refine jZ (i:=4) (d:=U 42) (v:=aG (U ⟨g,k+i*3,C⟩)) (l':=(bt 18 31)) rfl (fun _ a=>JE (F 41) Z Z) c ?_;refine jZ (i:=5) (d:=U 43) (v:=I Y ae) (l':=(bt 18 63)) rfl (fun _ a=>nG (F 42) Z Z a.2.2.1) c ?_;refine jZ (i:=6) (d:=U 44) (v:=aF aN) (l':=(bt 18 127)) rfl (fun _ a=>VQ (F 43) (.const (I Y 0)) ae 0 aN Z Z Z bb) c ?_;refine jZ (i:=7) (d:=U 45) (v:=aF aN) (l':=(bt 18 255)) rfl (fun _ a=>yT (F 44) Z Z) c ?_;refine jZ (i:=8) (d:=U 46) (v:=aG (U ⟨Q5,9,C⟩)) (l':=(bt 18 511)) rfl (fun _ a=>DV (F 5) Z Z) c ?_;refine jZ (i:=9) (d:=U 47) (v:=(K (U ⟨g,k,C⟩) d.J.length h'.cj)) (l':=(bt 18 1023)) rfl (fun _ a=>CG (F 46) Z Z a.1) c ?_;refine jZ (i:=10) (d:=U 48) (v:=I Y (i:Nat)) (l':=(bt 18 2047)) rfl (fun _ a=>yT (F 6) Z Z) c ?_;refine jZ (i:=11) (d:=U 49) (v:=aG (U ⟨g,k+i*3,C⟩)) (l':=(bt 18 4095)) rfl (fun _ a=>yU (F 47) (F 48) g k d.J.length h'.cj i Z Z Z ah) c ?_;refine jZ (i:=12) (d:=U 50) (v:=aG (U ⟨g,k+i*3+2,C⟩)) (l':=(bt 18 8191)) rfl (fun _ a=>ZQ (F 49) Z Z) c ?_;refine jZ (i:=13) (d:=U 51) (v:=I Y ax) (l':=(bt 18 16383)) rfl (fun _ a=>nG (F 50) Z Z a.2.2.2) c ?_;refine jZ (i:=14) (d:=U 52) (v:=aG (U ⟨Q5,2,C⟩)) (l':=(bt 18 32767)) rfl (fun _ a=>ZT (F 5) Z Z) c ?_;refine jZ (i:=15) (d:=U 53) (v:=I Y (d.now+1)) (l':=(bt 18 65535)) rfl (fun _ a=>nG (F 52) Z Z a.2.1) c ?_;refine jZ (i:=16) (d:=U 54) (v:=aF b2) (l':=(bt 18 131071)) rfl (fun _ a=>abO (F 51) (F 53) ax (d.now+1) b2 Z Z Z bw) c ?_;refine jZ (i:=17) (d:=U 55) (v:=aF b2) (l':=(bt 18 262143)) rfl (fun _ a=>abM (F 45) (F 54) (.const (aF aK)) Z Z Z) c ?_;refine wpAnyH_done Z ?_ _;have sd:=f.drew;obtain ⟨u, hu⟩ := kC wr.drew;rw [← hu] at sd;rw [← hu];clear hu c f N l c5 c6;cases b2
      case false =>
       have c7:=hid (show nJ (d.now+1) (t3 d.J i)=t3 d.J i by unfold nJ;rw [if_neg];intro hh;have h9:=hh.2;rw [← bk.out] at h9;exact (of_decide_eq_false bw) h9);clear bd bb bg bk bw;have HS:=hid sd;clear sd;go_simp;go_wp2_with fail
       go_roundw
       case rel=>exact ⟨i+1,A,aW,by rw [WM ah (c7.out)];exact HS.out⟩
       case measure=>simp [intOf];omega
      case true =>
       have e9:=hid (show nJ (d.now+1) (t3 d.J i)=(0,0,0) by unfold nJ;rw [if_pos ⟨by rw [← bg.out];exact bd,by rw [← bk.out];exact of_decide_eq_true bw⟩]);clear bd bb bg bk bw;obtain ⟨bJ,oJ,cJ,a7,cz,e0⟩:=sd.bo.o3.Ht (i:=i) (by show i<(jE (d.now+1) d.J i).length;rw [KX];exact ah);obtain ⟨bc,fw⟩:h'.aj=U ⟨bJ,oJ,C⟩∧h'.cj=cJ:=by injection a7 with e1 e2 e3;exact ⟨e1,e3⟩
       have eu:yV d h'=U bJ:=by unfold yV;rw [bc];rfl
       have N:u.cell? ⟨Q5,9,C⟩=U (K (U ⟨bJ,oJ,C⟩) d.J.length h'.cj):=by rw [← bc];exact (sd.X5 9 D).1
       have HS:=hid sd;have bh:=hid e0;have fh:=hid eu;clear a7 bc fw sd e0 eu;go_simp;go_wp2_with (refine Ar rfl (F 60) (F 59) rfl bJ (oJ+i*3) 0 0 0 rfl rfl cz ?_)
       have ff:=hid (show Iu w w1 d h' pa pn pc Q5 (d.now+1) (jE (d.now+1) d.J (i+1)) (u.setCells bJ (oJ+i*3) Iy) by
        have hq:=bh.out ((0,0,0):Tr);rw [← YW ah,e9.out];exact HS.out.adn (by rw [nV,KX]) fh.out (gsc) hq)
       go_roundw
       case rel=>exact ⟨i+1,A,aW,ff.out⟩
       case measure=>simp [intOf];omega
    case neg =>
     obtain rfl:i=d.J.length:=A;have fy:¬ (d.J.length:Int)<(d.J.length:Int):=A;go_upto_region 14 with fail
     clear eb;obtain ⟨dg,dc,ft,fu,fs,ha,gp⟩:=BD.Hf HV.out ai.out;have cx:=Code.YO HV.out.1.1;have ga:=hT.len;subst ga;have s2:Iu w w1 d h' pa ts.length pc Q5 (d.now+1) (d.J.map (nJ (d.now+1))) wr:=by rw [← ac5];exact f
     clear f;obtain ⟨y0,z,l,P,X,y5,y6,y7,y8,N,aa,V⟩:=l9 s2.X5;rw [dg] at y8;rw [dc] at N;have kp:wr.cell? ⟨w.heap.size+1,0,C⟩=U (K pa ts.length pc):=(s2.P3 0 D).1;obtain ⟨st, dt⟩ := kC (nY d.ep (d.now+1) d.R ts ⟨d.gv,(d.J.map (nJ (d.now+1))),d.S,[]⟩ ts.length);have gz:=s2.od;have a:Calls prog 106 #[aI #[I Y d.wk,aF d.up,I Y (d.now+1),I Y d.sn,I Y d.ep,I Y d.gv,K h'.a1 d.L1.length h'.c1,K h'.a2 d.L2.length h'.c2,K h'.ar ts.length h'.cr,K h'.aj ts.length h'.cj,K h'.az d.S.length h'.cs,K h'.ao d.O.length h'.co],aI #[K pa ts.length pc]] wr fun e w'=>∃ v vs,e=.returned (aI #[I Y d.wk,aF d.up,I Y (d.now+1),I Y d.sn,I Y d.ep,I Y st.gv,K h'.a1 d.L1.length h'.c1,K h'.a2 d.L2.length h'.c2,K h'.ar ts.length h'.cr,K h'.aj ts.length h'.cj,K h'.az d.S.length h'.cs,K h'.ao d.O.length h'.co,v])∧uz w1 wr w1.heap.size (wr.heap.size+4) (d.nj (d.now+1) (d.J.map (nJ (d.now+1)))) h' st v vs w':=by
      rw [dt];exact XG (d.nj (d.now+1) (d.J.map (nJ (d.now+1)))) h' pa pb po pc ts w1 wr w1.heap.size rfl (hT.below' B1) s2.bo s2.hb A (BD.Wx hf.out _ _) dg (by show (d.J.map (nJ (d.now+1))).length=_;rw [List.length_map];exact dc) cx.2.2.2.2 cx.2.1 ft fu ⟨by show 0≤(d.now+1);omega,by show (d.now+1)≤1000000;omega⟩ fs
     have ec:=hid a;have bh:=hid dt;have ee:=hid s2;have fc:=hid cx;clear a dt cx s2 dg dc;go_wp2_with fail
     refine ec.out.mono ?_;rintro e w3 ⟨v,vs,rfl,hH⟩;clear ec y0 z l P X y5 y6 y7 y8 N aa V kp;obtain ⟨o,p,rfl⟩:=hH.ms.row.slc;have s2:=ee.out;have A3:CF w3 (w.heap.size+2) qH:=s2.A4.block (hH.gr.block _ A (fun r hr e=>by
      simp only [mG,mF,or_false] at hr;rcases hr with rfl | rfl
      ·have:=s2.lo _ (Ac d h') (w.heap.size+2) (by rw [← e];unfold yV;show _=(K h'.aj (d.J.map (nJ (d.now+1))).length h'.cj).ownBlock;rw [List.length_map])
       omega
      ·have:=s2.lo _ (qW d h') (w.heap.size+2) e
       omega))
     have e8:=hH.sz;clear s2 ee;go_upto_region 15 with fail
     obtain ⟨W7, bn⟩ := kC (w3.alloc (aH #[I Y d.wk,aF d.up,I Y (d.now+1),I Y d.sn,I Y d.ep,I Y st.gv,K h'.a1 d.L1.length h'.c1,K h'.a2 d.L2.length h'.c2,K h'.ar ts.length h'.cr,K h'.aj ts.length h'.cj,K h'.az d.S.length h'.cs,K h'.ao d.O.length h'.co,K o st.M.length p] 141));obtain ⟨Q7, ay⟩ := kC w3.heap.size;have di:Below w3.heap.size w3 W7:=by rw [bn];exact kQ
     have L7:CF W7 Q7 [I Y d.wk,aF d.up,I Y (d.now+1),I Y d.sn,I Y d.ep,I Y st.gv,K h'.a1 d.L1.length h'.c1,K h'.a2 d.L2.length h'.c2,K h'.ar ts.length h'.cr,K h'.aj ts.length h'.cj,K h'.az d.S.length h'.cs,K h'.ao d.O.length h'.co,K o st.M.length p]:=by rw [bn,ay];exact CF.made w3 #[I Y d.wk,aF d.up,I Y (d.now+1),I Y d.sn,I Y d.ep,I Y st.gv,K h'.a1 d.L1.length h'.c1,K h'.a2 d.L2.length h'.c2,K h'.ar ts.length h'.cr,K h'.aj ts.length h'.cj,K h'.az d.S.length h'.cs,K h'.ao d.O.length h'.co,K o st.M.length p] 141
     have H7:=hH.below di;have A7:=A3.block (di.block _ A);have bz:∀ q,(K o st.M.length p).ownBlock=U q→q<Q7:=by rw [ay];exact hH.ms.row.kD
     have b7:∀ j,j<st.M.length→∀ q,(vs.getD j kH).ownBlock=U q→q<Q7:=by rw [ay];exact fun j T=>(hH.ms.dep j T).kD
     have gb:wr.heap.size+4≤Q7:=by rw [ay];exact e8
     have gw:Q7<W7.heap.size:=by rw [bn,ay];simp
     rw [← bn,← ay];clear bn ay di hH A3 e8;have P:W7.cell? ⟨Q7,3,C⟩=U (I Y d.sn):=(L7 3 D).1;have f3:W7.frozen? ⟨Q7,3,C⟩=aK:=(L7 3 D).2;go_upto_region 16 with fail
     obtain ⟨W8, cq⟩ := kC (W7.setCell ⟨Q7,3,C⟩ (I Y (d.sn+1)));have g8:W7.grownBy W8 (U Q7):=by rw [cq];exact lU (lJ W7 _) 3 _
     have L8:CF W8 Q7 [I Y d.wk,aF d.up,I Y (d.now+1),I Y (d.sn+1),I Y d.ep,I Y st.gv,K h'.a1 d.L1.length h'.c1,K h'.a2 d.L2.length h'.c2,K h'.ar ts.length h'.cr,K h'.aj ts.length h'.cj,K h'.az d.S.length h'.cs,K h'.ao d.O.length h'.co,K o st.M.length p]:=by rw [cq];exact L7.set (j:=3) D _
     have au:∀ x:Value,(∀ q,x.ownBlock=U q→q<Q7)→Dn x.ownBlock (U Q7):=fun x Q=>Dn.later (m:=Q7) Q (fun q e=>O);have H8:=H7.far g8 A (au _ bz) (fun j T=>au _ (b7 j T));have A8:=A7.block (g8.block _ A aQ);have z8:=g8.size;rw [← cq];clear cq g8 L7 H7 A7 P f3;have P:W8.cell? ⟨Q7,3,C⟩=U (I Y (d.sn+1)):=(L8 3 D).1;by_cases dj:d.sn+1<2
     case pos =>
      go_upto_region 17 with fail
      clear P;obtain ⟨y0,z,l,P,X,y5,y6,y7,y8,N,aa,V,b8⟩:=Dq L8;go_wp2_with (refine jY rfl 141 (F 4) (F 74) rfl (w.heap.size+2) qH [I Y d.wk,aF d.up,I Y (d.now+1),I Y (d.sn+1),I Y d.ep,I Y st.gv,K h'.a1 d.L1.length h'.c1,K h'.a2 d.L2.length h'.c2,K h'.ar ts.length h'.cr,K h'.aj ts.length h'.cj,K h'.az d.S.length h'.cs,K h'.ao d.O.length h'.co,K o st.M.length p] rfl rfl A8 rfl Tryz.sizeLd (DR) ?_;intro w10 ak ab)
      clear y0 z l P X y5 y6 y7 y8 N aa V b8;obtain ⟨k0,k1,k2,k3,k4,k5,k6,k7,k8,k9,al,an,aq⟩:=Dq ak;have hL:=H8.led (d.sn+1) ab A (B':=w.heap.size) A;have db:Below w.heap.size w w10:=(B1.trans (H8.hb.mono A)).grown ab A (fun q e=>O);have dn:st.J.length=ts.length:=by have:=H8.lj.1;rw [this];show (d.J.map (nJ (d.now+1))).length=_;rw [List.length_map];exact (BD.Hf HV.out ai.out).2.1
      have ds:st.S.length=d.S.length:=H8.lj.2;refine bodyPost_ret (v:=aI #[I Y d.wk,aF d.up,I Y (d.now+1),I Y (d.sn+1),I Y d.ep,I Y st.gv,K h'.a1 d.L1.length h'.c1,K h'.a2 d.L2.length h'.c2,K h'.ar ts.length h'.cr,K h'.aj ts.length h'.cj,K h'.az d.S.length h'.cs,K h'.ao d.O.length h'.co,K o st.M.length p]) bP rfl ⟨⟨_,h',K o st.M.length p,st.M,vs,?_,hL,.inl ⟨HV.out,?_⟩⟩,db⟩
      ·show Ending.returned (aI _)=Ending.returned (aI #[I Y d.wk,aF d.up,I Y (d.now+1),I Y (d.sn+1),I Y d.ep,I Y st.gv,K h'.a1 d.L1.length h'.c1,K h'.a2 d.L2.length h'.c2,K h'.ar d.R.length h'.cr,K h'.aj st.J.length h'.cj,K h'.az st.S.length h'.cs,K h'.ao d.O.length h'.co,K o st.M.length p])
       rw [dn,ds,(BD.Hf HV.out ai.out).1]
      ·unfold JA
       rw [if_neg A,if_neg (by rw [ai.out];simp),if_pos dj,← bh.out];rfl
     case neg =>
      have f3:W8.frozen? ⟨Q7,3,C⟩=aK:=(L8 3 D).2;go_upto_region 19 with fail
      have fa:=hid dj;obtain ⟨W9, ct⟩ := kC (W8.setCell ⟨Q7,3,C⟩ (I Y 0));have g9:W8.grownBy W9 (U Q7):=by rw [ct];exact lU (lJ W8 _) 3 _
      have L9:CF W9 Q7 [I Y d.wk,aF d.up,I Y (d.now+1),I Y 0,I Y d.ep,I Y st.gv,K h'.a1 d.L1.length h'.c1,K h'.a2 d.L2.length h'.c2,K h'.ar ts.length h'.cr,K h'.aj ts.length h'.cj,K h'.az d.S.length h'.cs,K h'.ao d.O.length h'.co,K o st.M.length p]:=by rw [ct];exact L8.set (j:=3) D _
      have H9:=H8.far g9 A (au _ bz) (fun j T=>au _ (b7 j T));have A9:=A8.block (g9.block _ A aQ);have z9:=g9.size;rw [← ct];clear ct g9 L8 H8 A8 P f3 dj;obtain ⟨bA,oA,ey,_⟩:=H9.bo.o0.xP hf.out.s1;obtain ⟨bB,oB,ez,_⟩:=H9.bo.o1.xP hf.out.s2;obtain ⟨-,-,-,-,-,-,y6,y7⟩:=ER L9;go_wp2_with fail
      refine (KU h'.a1 h'.a2 bA oA d.L1.length h'.c1 bB oB d.L2.length h'.c2 d.L1 d.L2 _ ey ez A A).mono ?_;rintro e w4 ⟨⟨v1,rfl,aw⟩,bu⟩;obtain ⟨af,ag,rfl⟩:=aw.slc;obtain ⟨L,hL,cp⟩:∃ L,L=d.L1 ++ d.L2∧L.length=d.L1.length+d.L2.length:=⟨_,rfl,lD⟩
      rw [← cp] at aw;rw [← hL] at aw;have L4:=L9.block (bu.block _ A);have H4:=H9.below bu;have A4:=A9.block (bu.block _ A);have z4:=bu.size;have cz:w4.there Q7 6 2:=fun j T=>by
       rcases (show j=0∨j=1 by omega) with rfl | rfl
       ·exact ⟨by rw [(L4 6 D).1];rfl,(L4 6 D).2⟩
       ·exact ⟨by rw [(L4 7 D).1];rfl,(L4 7 D).2⟩
      clear y6 y7 ey ez;go_upto_region 20 with (refine Ov rfl (F 83) (F 81) rfl Q7 6 af (d.L1.length+d.L2.length) ag rfl rfl cz ?_)
      rw [← cp];have fb:=hid (And.intro hL cp);obtain ⟨wh, rfl⟩ := kC wr;obtain ⟨WT, cw⟩ := kC (w4.setCells Q7 6 [K af L.length ag,K C 0 0]);have gT:w4.grownBy WT (U Q7):=by rw [cw];exact gsc
      have sT:Lr w1 wh (w.heap.size+2) Q7 ts.length d (d.nj (d.now+1) (d.J.map (nJ (d.now+1)))) h' (d.now+1) st.gv ⟨st.gv,st.J,st.S,st.M⟩ af ag L (K o st.M.length p) vs WT:=by
       refine ⟨H4.far gT A (au _ bz) (fun j T=>au _ (b7 j T)),A4.block (gT.block _ A aQ),?_,(aw.mono' A).grown gT (.inr (fun e=>by have:=aw.ku Q7 e;omega)),?_,fun j T=>?_,au _ bz,fun j T=>au _ (b7 j T),⟨gb,by have:=gT.size;omega,A⟩,⟨o,p,rfl⟩⟩
       ·rw [cw]
        exact (L4.set (j:=6) D (K af L.length ag)).set (j:=7) D (K C 0 0)
       ·exact (Dn.later (m:=Q7) bz (fun q e=>by have:=aw.ku q e;omega)).symm
       ·exact (Dn.later (m:=Q7) (b7 j T) (fun q e=>by have:=aw.ku q e;omega)).symm
      rw [← cw];clear cw gT L4 H4 A4 cz aw bu L9 H9 A9 hL cp;obtain ⟨iM,fv,fo,fp,fq⟩:=info_parts Tryz.infoMs;have gx:st.M.length≤40:=by rw [bh.out];exact lH (JQ _ _ _ _ _ _) (by show 0+ts.length≤40;have:=fc.out.2.1;omega)
      go_wp2_with fail
      go_loopw [8] (fun x wq=>∃ (j:Nat) (v:Value) (vs:List Value) (M:List lQ),j≤d.O.length∧x=I Y j∧M=st.M ++ (d.O.take j).map (Gm d.ep)∧Lr w1 wh (w.heap.size+2) Q7 ts.length d (d.nj (d.now+1) (d.J.map (nJ (d.now+1)))) h' (d.now+1) st.gv ⟨st.gv,st.J,st.S,M⟩ af ag L v vs wq) (fun x _=>d.O.length - (intOf x).toNat)
      case atStart=>exact ⟨0,_,_,st.M,lG _,rfl,D,sT⟩
      case round =>
       clear sT;obtain ⟨j,v,vs,M,T,rfl,de,f⟩:=hrel;obtain ⟨o,p,rfl⟩:=f.vm;have ed:=hid de;have gn:M.length≤2100:=by rw [de];simp;omega
       clear de;have ea:wr.cell? ⟨Q7,11,C⟩=U (K h'.ao d.O.length h'.co):=(f.L7 11 D).1;by_cases dp:j<d.O.length
       case pos =>
        have fx:(j:Int)<(d.O.length:Int):=A;obtain ⟨bo,oo,co,cy,_,_⟩:=f.H.bo.o5.Ht (i:=j) dp;have et:h'.ao=U ⟨bo,oo,C⟩:=by injection cy with e1 e2 e3
        have av:∀ r,r<3→wr.cell? ⟨bo,oo+(j*3+r),C⟩=[I Y (t3 d.O j).1,I Y (t3 d.O j).2.1,I Y (t3 d.O j).2.2][r]?:=fun r hr=>by
         rcases f.H.bo.o5 with ⟨Q,_⟩ | ⟨g',gh,fk,Q,a⟩
         ·rw [cy] at Q;cases Q
         ·rw [cy] at Q
          injection Q with e1 e2 e3;injection e1 with e1;injection e1 with e4 e5;subst e4 e5;rw [a.holds (j*3+r) (by show j*3+r<d.O.length*3;omega)];exact oW d.O j r dp hr
        obtain ⟨x0, dv⟩ := kC ((t3 d.O j).1);obtain ⟨x1, dw⟩ := kC ((t3 d.O j).2.1);obtain ⟨x2, e6⟩ := kC ((t3 d.O j).2.2);have gi:wr.cell? ⟨bo,oo+j*3,C⟩=U (I Y x0):=by rw [dv];exact av 0 A
        have gj:wr.cell? ⟨bo,oo+j*3+1,C⟩=U (I Y x1):=by rw [dw];exact av 1 A
        have gl:wr.cell? ⟨bo,oo+j*3+2,C⟩=U (I Y x2):=by rw [e6];exact av 2 A
        have V:wr.cell? ⟨Q7,11,C⟩=U (K (U ⟨bo,oo,C⟩) d.O.length h'.co):=by rw [← et];exact ea
        have HX:=hid (And.intro dv dw);clear dv dw e6 av cy et ea;go_upto_region 24 with fail
        obtain ⟨WB, cu⟩ := kC (wr.alloc (aH #[I Y x0,I Y x1,I Y x2] 56));obtain ⟨Q9, df⟩ := kC wr.heap.size;have ej:Below wr.heap.size wr WB:=by rw [cu];exact kQ
        have cB:CF WB Q9 [I Y x0,I Y x1,I Y x2]:=by rw [cu,df];exact CF.made wr #[I Y x0,I Y x1,I Y x2] 56
        have sB:=f.below ej;rw [← cu,← df];clear cu df ej f gi gj gl V;obtain ⟨b0,b1⟩:=Ph cB;obtain ⟨-,-,-,-,X,-,-,-,-,-,-,-,b8⟩:=Dq sB.L7;have hq:=sB.q;have a6:Below WB.heap.size WB (WB.alloc (aH #[I Y 4,I Y 0,I Y x0,I Y d.ep,I Y x1,I Y 0,E ⟨#[]⟩,K C 0 0] 136)):=kQ;have dx:Own (wh.heap.size+4) (WB.alloc (aH #[I Y 4,I Y 0,I Y x0,I Y d.ep,I Y x1,I Y 0,E ⟨#[]⟩,K C 0 0] 136)) 8 (K (U ⟨WB.heap.size,0,C⟩) 1 1) 1 [I Y 4,I Y 0,I Y x0,I Y d.ep,I Y x1,I Y 0,E ⟨#[]⟩,K C 0 0] :=
         .inr ⟨_,0,1,rfl,kW.made WB (wh.heap.size+4) 136 8 1 1 _ 8 A kL G rfl kL _ rfl _ (.inl rfl)⟩
        have dz:Src prog 8 139 _ 1 _ (WB.alloc (aH #[I Y 4,I Y 0,I Y x0,I Y d.ep,I Y x1,I Y 0,E ⟨#[]⟩,K C 0 0] 136)):=dx.src underlying139 (NI);have dy:Own (wh.heap.size+4) (WB.alloc (aH #[I Y 4,I Y 0,I Y x0,I Y d.ep,I Y x1,I Y 0,E ⟨#[]⟩,K C 0 0] 136)) 8 (K o M.length p) M.length (uD M vs):=sB.H.ms.row.below a6 kL;have c8:=sB.L7.block (a6.block _ A);have eo:U Q7≠(K o M.length p).ownBlock:=fun e=>by
         rcases sB.n1 with h | h
         ·rw [h] at e;cases e
         ·exact h e.symm
        have ef:=hid sB;obtain ⟨wA, c4⟩ := kC (WB.alloc (aH #[I Y 4,I Y 0,I Y x0,I Y d.ep,I Y x1,I Y 0,E ⟨#[]⟩,K C 0 0] 136));rw [← c4] at a6 dx dz dy c8;have hd:wA.heap.size=WB.heap.size+1:=by rw [c4];simp
        have eg:=hid c4;clear c4 sB dx cB;go_wp2_with (at_builtin;rw [← eg.out];refine kT _ rfl _ _ 139 139 rfl (wh.heap.size+4) 136 iM (aI Jl) 8 88 underlying139 fv fo fp fq rfl _ M.length _ rfl dy _ 1 _ rfl dz G A A ?_;intro v' w9 dr dk ek;obtain ⟨a9,c9,rfl⟩:=dr.slc;have da:=c8.block (dk.block _ A eo);have f12:w9.frozen? ⟨Q7,12,C⟩=aK:=(da 12 D).2;have gg:w9.cell? ⟨Q7,12,C⟩=U (K o M.length p):=(da 12 D).1)
        have fg:=hid (show Lr w1 wh (w.heap.size+2) Q7 ts.length d (d.nj (d.now+1) (d.J.map (nJ (d.now+1)))) h' (d.now+1) st.gv ⟨st.gv,st.J,st.S,(M ++ [Gm d.ep (t3 d.O j)])⟩ af ag L (K a9 (M.length+1) c9) (vs ++ [K C 0 0]) (w9.setCell ⟨Q7,12,C⟩ (K a9 (M.length+1) c9)) by
         have hw:=eg.out;subst hw;have Q:=HX.out;refine ef.out.app (m:=Gm d.ep (t3 d.O j)) rfl ?_ dk ek;have e:Aw (Gm d.ep (t3 d.O j)) (K C 0 0)=[I Y 4,I Y 0,I Y x0,I Y d.ep,I Y x1,I Y 0,E ⟨#[]⟩,K C 0 0]:=by unfold Gm Aw;rw [← Q.1,← Q.2]
         rw [e];exact dr)
        clear da f12 gg dr dk ek c8 dy dz a6 ef b8 X b0 b1 eo;go_wp2_with fail
        go_roundw
        case rel=>exact ⟨j+1,_,_,M ++ [Gm d.ep (t3 d.O j)],A,aW,by rw [Zy dp,ed.out,Dk],fg.out⟩
        case measure=>simp [intOf];omega
       case neg =>
        obtain rfl:j=d.O.length:=A;have fx:¬ (d.O.length:Int)<(d.O.length:Int):=A;have hq:=f.q;have a6:Below wr.heap.size wr (wr.alloc (aH #[] 56)):=kQ;have LA:=f.L7.block (a6.block _ hq.2.1);have gm:(wr.alloc (aH #[] 56)).cell? ⟨Q7,11,C⟩=U (K h'.ao d.O.length h'.co):=(LA 11 D).1;have fl:(wr.alloc (aH #[] 56)).frozen? ⟨Q7,11,C⟩=aK:=(LA 11 D).2;go_upto_region 26 with fail
        obtain ⟨G, hG⟩ := kC wr.heap.size;obtain ⟨WS, bp⟩ := kC (wr.setCell ⟨Q7,11,C⟩ (K (U ⟨G,0,C⟩) 0 0));have gS:wr.grownBy WS (U Q7):=by rw [bp];exact lU (lJ _ _) 11 _
        have zS:WS.heap.size=wr.heap.size:=by rw [bp];simp
        obtain ⟨WE, cv⟩ := kC (WS.alloc (aH #[] 56));have ba:Below WS.heap.size WS WE:=by rw [cv];exact kQ
        have fj:CF WE Q7 [I Y d.wk,aF d.up,I Y (d.now+1),I Y 0,I Y d.ep,I Y st.gv,K af L.length ag,K C 0 0,K h'.ar ts.length h'.cr,K h'.aj ts.length h'.cj,K h'.az d.S.length h'.cs,K (U ⟨G,0,C⟩) 0 0,K o M.length p]:=by
         have h0:CF WS Q7 [I Y d.wk,aF d.up,I Y (d.now+1),I Y 0,I Y d.ep,I Y st.gv,K af L.length ag,K C 0 0,K h'.ar ts.length h'.cr,K h'.aj ts.length h'.cj,K h'.az d.S.length h'.cs,K (U ⟨G,0,C⟩) 0 0,K o M.length p]:=by rw [bp];exact f.L7.set (j:=11) D _
         exact h0.block (ba.block _ A)
        have AE:=(f.A.block (gS.block _ (by have:=f.H.bs;have:=f.H.gr.size;omega) (by simp;have:=f.H.bs;omega))).block (ba.block _ (by have:=f.H.bs;have:=f.H.gr.size;omega));have oE:kW wr.heap.size WE 3 G 0 0 0 []:=by
         have:=kW.made WS wr.heap.size 56 3 0 0 #[] 0 A kL (lG _) rfl kL [] rfl (0,0) (.inl rfl);rw [hG,← zS,cv];rw [← zS] at this;exact this
        have kE:∀ q,q<wr.heap.size→q≠Q7→WE.heap[q]?=wr.heap[q]?:=fun q h1 h2=>(ba.block q A).trans (gS.block q h1 (fun e=>O));have zE:=ba.size;rw [← hG,← bp,← cv];have fi:=hid f;have BE:Below w.heap.size w WE:=by
         have h1:=B1.trans (f.H.hb.mono A);have h2:=h1.grown gS h1.size (fun q e=>by injection e with e;have:=f.H.bs;omega);exact h2.trans (ba.mono h2.size)
        have HG:=hid hG;clear cv bp gS ba LA gm fl a6 ea hG;obtain ⟨y0,z,l,P,X,y5,y6,y7,y8,N,aa,V,b8⟩:=Dq (fj);go_wp2_with (refine jY rfl 141 (F 4) (F 114) rfl (w.heap.size+2) qH [I Y d.wk,aF d.up,I Y (d.now+1),I Y 0,I Y d.ep,I Y st.gv,K af L.length ag,K C 0 0,K h'.ar ts.length h'.cr,K h'.aj ts.length h'.cj,K h'.az d.S.length h'.cs,K (U ⟨G,0,C⟩) 0 0,K o M.length p] rfl rfl AE rfl Tryz.sizeLd (DR) ?_;intro w10 ak ab)
        clear y0 z l P X y5 y6 y7 y8 N aa V b8;obtain ⟨k0,k1,k2,k3,k4,k5,k6,k7,k8,k9,al,an,aq⟩:=Dq ak;have f:=fi.out;have gq:=f.H.bs;have hL:=f.led (w10:=w10) (B':=w.heap.size) (G:=G) (fun q h1 h2 h3=>(ab.block q A (fun e=>O)).trans (kE q h1 h2)) (oE.grown ab (fun e=>by injection e with e;have:=HG.out;omega)) HG.out A;have db:Below w.heap.size w w10:=BE.grown ab BE.size (fun q e=>O);have dn:st.J.length=ts.length:=by have:=f.H.lj.1;rw [show st.J.length=_ from this];show (d.J.map (nJ (d.now+1))).length=_;rw [List.length_map];exact (BD.Hf HV.out ai.out).2.1
        have ds:st.S.length=d.S.length:=f.H.lj.2;refine bodyPost_ret (v:=aI #[I Y d.wk,aF d.up,I Y (d.now+1),I Y 0,I Y d.ep,I Y st.gv,K af L.length ag,K C 0 0,K h'.ar ts.length h'.cr,K h'.aj ts.length h'.cj,K h'.az d.S.length h'.cs,K (U ⟨G,0,C⟩) 0 0,K o M.length p]) bP rfl ⟨⟨_,_,K o M.length p,M,vs,?_,hL,.inl ⟨HV.out,?_⟩⟩,db⟩
        ·show Ending.returned (aI _)=Ending.returned (aI #[I Y d.wk,aF d.up,I Y (d.now+1),I Y 0,I Y d.ep,I Y st.gv,K af L.length ag,K C 0 0,K h'.ar d.R.length h'.cr,K h'.aj st.J.length h'.cj,K h'.az st.S.length h'.cs,K (U ⟨G,0,C⟩) 0 0,K o M.length p])
         rw [dn,ds,(BD.Hf HV.out ai.out).1]
        ·unfold JA
         rw [if_neg A,if_neg (by rw [ai.out];simp),if_neg (by have:=fa.out;omega),← bh.out,ed.out,LK,← fb.out.1];rfl
theorem ab1 (h:∀ s∈R,s.size≤maxLen):(rs R q).size≤maxLen:=by
 unfold rs;by_cases a:q<R.length
 ·rw [FC,nH a];exact h _ (IC a)
 ·rw [FC,DL A];exact lG _
structure QZ (st:F8):Prop where
 o3:EU st.J
 o2:F6 st.S
 g0:0≤st.gv∧st.gv≤1000000
 s8:st.S.length≤8
 ms:∀ m∈st.M,m.good
theorem QZ.step (h:QZ st) (he:1≤ep∧ep≤300) (z:0≤now∧now≤1000001) (o:∀ s∈R,s.size≤maxLen) (l:∀ i,i<ts.length→(ts.getD i dT).deps.length≤1048576) (t:ts.length≤40) (i:Nat) (hi:i<ts.length):QZ (xQ ep now R ts st i):=by
 by_cases c:st.gv<1000000∧uw ts R i∧(t3 st.J i).1=0
 ·cases a:Ii st.S with
  | none=>rw [OX a];exact h
  | some k =>
   have r:=Y6 a;have g:=h.s8;have u:=h.g0;have v:=c.1;have e:I64 (Jd ep (st.gv+1)):=by unfold Jd;constructor <;> omega
   have hw:I64 ((k:Int)+1):=by constructor <;> omega
   rw [QC a c];refine ⟨?_,h.o2.set r aK,⟨by show 0≤st.gv+1;omega,by show st.gv+1≤1000000;omega⟩,by show (st.S.set k _).length≤8;rw [nV];exact g,?_⟩
   ·intro j q
    have d:j<st.J.length:=by simpa using q
    show I64 (t3 (st.J.set i _) j).1∧I64 (t3 (st.J.set i _) j).2.1∧I64 (t3 (st.J.set i _) j).2.2;by_cases p:i<st.J.length
    ·rw [QF _ _ _ p]
     split
     ·exact ⟨e,hw,by constructor <;> (dsimp only;omega)⟩
     ·exact h.o3 j d
    ·rw [List.set_eq_of_length_le A];exact h.o3 j d
   ·intro m hm
    rcases List.mem_append.1 hm with hm | hm
    ·exact h.ms m hm
    ·obtain rfl:=List.mem_singleton.1 hm
     refine ⟨lG _,⟨by constructor <;> (dsimp only;omega),by constructor <;> (dsimp only;omega),hw,by constructor <;> (dsimp only;omega),e,by constructor <;> (dsimp only;omega)⟩,fun s f=>?_,?_⟩
     ·unfold insOf at f
      obtain ⟨x,_,rfl⟩:=List.mem_map.1 f;exact ab1 o
     ·show (insOf R _).length≤_
      unfold insOf;rw [List.length_map];exact l i hi
 ·rw [QD c];exact h
theorem QZ.all (h:QZ st) (he:1≤ep∧ep≤300) (e:0≤now∧now≤1000001) (d:∀ s∈R,s.size≤maxLen) (c:∀ i,i<ts.length→(ts.getD i dT).deps.length≤1048576) (a:ts.length≤40):∀ n,n≤ts.length→QZ (nY ep now R ts st n)
 | 0,_=>h
 | n+1,hn'=>(QZ.all h he e d c a n A).step he e d c a n A
theorem KF.good {r:BD × List lQ} (h:KF d ts r) (a:d.fits) (c:d.small):abn r.1 r.2:=by
 rcases h with ⟨l,rfl⟩ | ⟨_,rfl⟩
 ·have L:=l
  obtain ⟨⟨u,_⟩,_,ab,_⟩:=L;obtain ⟨W,o,_,_,p⟩:=u.YO;unfold JA;by_cases H:d.now<1000000
  case neg=>rw [if_pos H];exact ⟨a,c,lG _,fun m hm=>absurd hm D⟩
  rw [if_neg A];by_cases hu:d.up=aK
  ·rw [if_pos hu]
   exact ⟨⟨a.s1,a.s2,a.s3,a.k3,a.k2,a.k4⟩,c,lG _,fun m hm=>absurd hm D⟩
  rw [if_neg hu];have Q:d.up=aN:=by cases h:d.up with | true=>rfl | false=>exact absurd h hu
  obtain ⟨aa,X,v,z,t,ae,hO⟩:=BD.Hf l Q;have N:QZ ⟨d.gv,d.J.map (nJ (d.now+1)),d.S,[]⟩:=⟨(BD.Wx a 0 (d.now+1)).k3,a.k2,z,t,fun m hm=>absurd hm D⟩
  have q:∀ i,i<ts.length→(ts.getD i dT).deps.length≤1048576:=fun i hi=>by have:=(p i hi).1;omega
  have e:=N.all v (now:=d.now+1) A a.s3 q o ts.length kL;have hlen:=QE d.ep (d.now+1) d.R ts ⟨d.gv,d.J.map (nJ (d.now+1)),d.S,[]⟩ ts.length;have g:=JQ d.ep (d.now+1) d.R ts ⟨d.gv,d.J.map (nJ (d.now+1)),d.S,[]⟩ ts.length;obtain ⟨st, P⟩ := kC (nY d.ep (d.now+1) d.R ts ⟨d.gv,d.J.map (nJ (d.now+1)),d.S,[]⟩ ts.length);rw [← P] at e hlen g ⊢;dsimp only [List.length_map] at hlen g;rw [List.length_map] at hlen;unfold BD.small at c;split
  ·refine ⟨⟨a.s1,a.s2,a.s3,e.o3,e.o2,a.k4⟩,?_,?_,e.ms⟩
   ·show d.L1.length+d.L2.length+d.R.length+st.J.length+st.S.length+d.O.length≤1048576
    omega
   ·show st.M.length≤4096
    simp at g;omega
  ·refine ⟨⟨fun s c=>?_,fun s c=>absurd c D,a.s3,e.o3,e.o2,fun j f=>absurd f D⟩,?_,?_,fun m hm=>?_⟩
   ·rcases List.mem_append.1 c with c | c
    ·exact a.s1 s c
    ·exact a.s2 s c
   ·show (d.L1 ++ d.L2).length+0+d.R.length+st.J.length+st.S.length+0≤1048576
    rw [lD];omega
   ·show (st.M ++ d.O.map (Gm d.ep)).length≤4096
    rw [lD,List.length_map];simp at g;omega
   ·rcases List.mem_append.1 hm with hm | hm
    ·exact e.ms m hm
    ·obtain ⟨x,T,rfl⟩:=List.mem_map.1 hm
     obtain ⟨j,f,V⟩:=List.mem_iff_getElem.1 T;have k:=a.k4 j f;rw [I5 f,V] at k;exact ⟨lG _,⟨by constructor <;> (dsimp only [Gm];omega),by constructor <;> (dsimp only [Gm];omega),k.1,by constructor <;> (dsimp only [Gm];omega),k.2.1,by constructor <;> (dsimp only [Gm];omega)⟩,fun s c=>absurd c (by simp [Gm]),lG _⟩
 ·exact ⟨TK,by unfold BD.small;simp [rM],lG _,fun m hm=>absurd hm D⟩
end Go.Proofs.YtfkkipgcfoegmaaGreat
