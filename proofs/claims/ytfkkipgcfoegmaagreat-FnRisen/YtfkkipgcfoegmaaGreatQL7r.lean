
import Derived.Test.YtfkkipgcfoegmaaGreatQDpl
import Derived.Test.YtfkkipgcfoegmaaGreatQL7d
set_option maxHeartbeats 8000000
set_option maxRecDepth 100000
namespace Go.Proofs.YtfkkipgcfoegmaaGreat
open Go.Proofs.Tryz
open Go.Value renaming slice→K,string→E,pointer→aG,agg→aI
open Option renaming none→C,some→U
open Go.Operand renaming tmp→F
open Go.Obj renaming cells→aH
open Go.Ending renaming returned→aO
open Go.Value renaming int→I
open Go.IntKind renaming i64→Y
open Go.RowKit
variable {B Q c g j k k' n:Nat} {W w wr:World} {Ws:List pU} {a:Option Addr} {bh:BH} {key:ByteArray} {p:Addr} {ts:List kJ} {u vP:Value} {us vs:List Value} {wk:Int}
section
structure CB (w:World) (d:nI) (h:oO) (W:World):Prop where
 b:Below w.heap.size w W
 c:CF W w.heap.size (mg d h)
 r:CF W (w.heap.size+1) kX
 z:w.heap.size+2≤W.heap.size
section
variable {w W W':World} {d:nI} {h:oO}
theorem CB.below (x:CB w d h W) (a:Below W.heap.size W W'):CB w d h W' :=
 have e:=x.z
 ⟨x.b.trans (a.mono A),x.c.block (a.block _ A),x.r.block (a.block _ A),lH e a.size⟩
theorem CB.far {r:Option Nat} (x:CB w d h W) (a:W.grownBy W' r) (f:∀ p,r=U p→w.heap.size+2≤p):CB w d h W' :=
 have g:=x.z
 ⟨x.b.grown a A (fun k e=>by have:=f k e;omega),x.c.block (a.block _ A (fun e=>iR)),x.r.block (a.block _ A (fun e=>iR)),lH g a.size⟩
def RPl (W:World) (ts:List kJ) (v:Value) (w':World):Prop:=∃ (a:Option Addr) (c:Nat) (vs:List Value),v=aI #[K a ts.length c]∧lF w' W.heap.size (K a ts.length c) ts vs∧Below W.heap.size W w'
def Zp (W:World) (d:BD) (v:Value) (w':World):Prop:=∃ h:BH,v=aI (bvs d h).toArray∧lg w' W.heap.size d h∧Below W.heap.size W w'
def Zo (W:World) (P:List Pc) (v:Value) (w':World):Prop:=∃ (a:Option Addr) (c:Nat),v=K a P.length c∧Own W.heap.size w' 3 (K a P.length c) P.length (oN P)∧Below W.heap.size W w'
theorem CB.plan (x:CB w d h W) (s:qx w 0 d h) (g:Ah d):Calls prog 77 #[aI #[h.vP]] W fun e i=>∃ v,e=aO v∧RPl W d.ts v i:=by
 have p:=s.below x.b;have r:=g.tz;obtain ⟨a,b,o,c,e,q⟩:=p.pl.tasks g.ft G;rw [e];refine (OO a b o d.ts.length c d.ts W q r).mono ?_;rintro e i ⟨⟨v,vs,rfl,f⟩,l⟩;obtain ⟨j,k,rfl⟩:=f.row.slc;exact ⟨_,rfl,j,k,vs,rfl,f,l⟩
theorem QU (a:BD) (bh:BH) (ho:rU W a bh) (hs:a.small):Calls prog 34 #[aI (bvs a bh).toArray] W fun e w'=>∃ v,e=aO v∧Zp W a v w':=by
 unfold BD.small at hs;obtain ⟨⟨j,o1,L⟩,⟨k,o2,M⟩,⟨l,o3,N⟩,⟨o,o4,P⟩,⟨p,o5,Q⟩,⟨q,o6,T⟩⟩:=ho;refine (Ad a.wk a.up a.now a.sn a.ep a.gv bh.a1 bh.a2 bh.ar bh.aj bh.az bh.ao j o1 bh.c1 k o2 bh.c2 l o3 bh.cr o o4 bh.cj p o5 bh.cs q o6 bh.co a.L1 a.L2 a.R a.J a.S a.O W L M N P Q T A A A A A A).mono ?_;rintro e w2 ⟨c,r,d,s,f,t,g,u,h,z,i,H,rfl,⟨q0,q1,q2,q3,q4,q5⟩,X,V⟩;exact ⟨_,rfl,⟨c,d,f,g,h,i,r,s,t,u,z,H⟩,rfl,⟨q0,q1,q2,q3,q4,q5,X⟩,V⟩
theorem CB.D8 (x:CB w d h W) (s:qx w 0 d h) (g:Ah d):Calls prog 34 #[aI (bvs d.bd h.bh).toArray] W fun e a=>∃ v,e=aO v∧Zp W d.bd v a:=QU _ _ ((s.below x.b).bo.m g.fb) g.sb.small
theorem CB.flt (x:CB w d h W) (s:qx w 0 d h) (g:Ah d):Calls prog 91 #[h.vF] W fun e f=>∃ v,e=aO v∧Zo W d.Fl v f:=by
 have t:=s.below x.b;have a:=t.fl;obtain ⟨k,o,e⟩:=a.slc;rw [e] at a;obtain ⟨l,p,q,_⟩:=a.PZ g.fx.ok;rw [e];refine (EF k l p d.Fl.length o d.Fl W q g.fx.1).mono ?_;rintro e f ⟨⟨v,rfl,c⟩,r⟩;obtain ⟨i,j,rfl⟩:=c.slc;exact ⟨_,rfl,i,j,rfl,c,r⟩
def aa3 (W:World) (k:pU) (v:Value) (w':World):Prop:=∃ (a:Option Addr) (c:Nat),v=aI (lZ k (K a k.ss.length c)).toArray∧Own W.heap.size w' 1 (K a k.ss.length c) k.ss.length (k.ss.map E)∧Below W.heap.size W w'
theorem CB.work (x:CB w d h W) (s:qx w 0 d h) {i:Nat} (hi:i<d.Ws.length):Calls prog 92 #[aI (lZ (nD d.Ws i) (h.us.getD i kH)).toArray] W fun e g=>∃ v,e=aO v∧aa3 W (nD d.Ws i) v g:=by
 have a:=s.below x.b;obtain ⟨q,r,io,t,l,f⟩:=(a.cr.dep i hi).Py (a.cr.ok i hi).1;obtain ⟨k, o⟩ := kC (nD d.Ws i);have c:=(a.cr.ok i hi).2;rw [l];rw [← o] at f c ⊢;refine (EG k.nu k.ep k.up k.st k.le k.ta k.co k.lf q r io k.ss.length t k.ss k.x k.si W f c).mono ?_;rintro e g ⟨a1,c1,rfl,p,j⟩;exact ⟨_,rfl,a1,c1,rfl,p,j⟩
end
def PBd (d:nI) (h:oO):Prop:=∀ q,U q∈kK d.bd h.bh→h.vP.ownBlock≠U q∧∀ j,j<d.ts.length→(h.vs.getD j kH).ownBlock≠U q
structure CQ (w:World) (d:nI) (h:oO) (P:Nat) (d':nI) (h':oO) (W:World):Prop where
 x:CB w d h W
 s:qx W (w.heap.size+2) d' h'
 g:Ah d'
 c:CF W P (mg d' h')
 p:w.heap.size+2≤P∧P<W.heap.size
 n:∀ q,WB d' h' q→q≠P
 pb:PBd d' h'
section
variable {w W W':World} {d d':nI} {h h':oO} {P:Nat}
theorem CQ.below (x:CQ w d h P d' h' W) (a:Below W.heap.size W W'):CQ w d h P d' h' W' :=
 ⟨x.x.below a,x.s.below a,x.g,x.c.block (a.block _ x.p.2),⟨x.p.1,lu x.p.2 a.size⟩,x.n,x.pb⟩
theorem CQ.mk0 {zp MN zb MO zf Qk:Nat} {vF:Value} {W0:World} (x:CB w d h W0) (g:Ah d) (hp:lF W0 zp vP d.ts vs) (hp':∀ q,(vP.ownBlock=U q∨∃ j,j<d.ts.length∧(vs.getD j kH).ownBlock=U q)→q<MN) (hb:lg W0 zb d.bd bh) (hb':∀ q,U q∈kK d.bd bh→q<MO) (hf:Own zf W0 3 vF d.Fl.length (oN d.Fl)) (hf':∀ q,vF.ownBlock=U q→q<Qk)
  (hz:w.heap.size+2≤zp∧MN≤zb∧MO≤zf∧zp≤MN∧zb≤MO) (hP:w.heap.size+2≤P∧P<W0.heap.size) (hPn:(P<zp∨MN≤P)∧(P<zb∨MO≤P)∧(P<zf∨Qk≤P)) (hg:W0.grownBy W (U P)) (hc:CF W P (mg { d with Ws:=[] } ⟨vP,vs,bh,kH,[],vF⟩)):CQ w d h P { d with Ws:=[] } ⟨vP,vs,bh,kH,[],vF⟩ W:=by
 have hk:∀ q,q<W0.heap.size→q≠P→W.heap[q]?=W0.heap[q]?:=fun q h1 h2=>hg.block q h1 (fun e=>O);have b1:∀ q,(vP.ownBlock=U q∨∃ j,j<d.ts.length∧(vs.getD j kH).ownBlock=U q)→zp≤q∧q<MN∧q<W0.heap.size:=fun q hq=>by
  refine ⟨?_,hp' q hq,?_⟩ <;> rcases hq with hq | ⟨j,hj,hq⟩
  ·exact hp.row.ku q hq
  ·exact (hp.dep j hj).ku q hq
  ·exact hp.row.kD q hq
  ·exact (hp.dep j hj).kD q hq
 have b2:∀ q,U q∈kK d.bd bh→zb≤q∧q<MO∧q<W0.heap.size:=fun q hq=>⟨(hb.lo _ hq q rfl).1,hb' q hq,(hb.lo _ hq q rfl).2⟩
 have b3:∀ q,vF.ownBlock=U q→zf≤q∧q<Qk∧q<W0.heap.size:=fun q hq=>⟨hf.ku q hq,hf' q hq,hf.kD q hq⟩
 refine ⟨x.far hg (fun p e=>O),⟨(hp.MJ (fun q hq=>hk q (b1 q (.inl hq)).2.2 (by have:=b1 q (.inl hq);omega)) (fun j hj q hq=>hk q (b1 q (.inr ⟨j,hj,hq⟩)).2.2 (by have:=b1 q (.inr ⟨j,hj,hq⟩);omega))).mono hz.1,(hb.blk (fun r hr q hq=>hk q (b2 q (hq ▸ hr)).2.2 (by have:=b2 q (hq ▸ hr);omega))).mono A,⟨rfl,Own.nil _ _ _,fun j hj=>absurd hj D,fun j hj=>absurd hj D,fun j hj=>absurd hj D,D⟩,(hf.qY (fun q hq=>hk q (b3 q hq).2.2 (by have:=b3 q hq;omega))).mono' A,fun q hq=>by cases hq⟩,⟨g.ft,g.tz,g.fb,g.sb,g.fx,g.ky⟩,hc,⟨hP.1,lu hP.2 hg.size⟩,fun q hq=>?_,fun q hq=>⟨fun e=>?_,fun j hj e=>?_⟩⟩
 ·rcases hq with (h6 | h6 | h6 | h6) | h6 | ⟨j,hj,h6⟩
  ·have:=b1 q (.inl h6);omega
  ·have:=b1 q (.inr h6);omega
  ·have:=b2 q h6;omega
  ·have:=b3 q h6;omega
  ·cases h6
  ·simp at hj
 ·have:=b2 q hq;have:=b1 q (.inl e);omega
 ·have:=b2 q hq;have:=b1 q (.inr ⟨j,hj,e⟩);omega
theorem Qa (f c:Nat→List Value):∀ l:List Nat,(∀ j∈l,f j=c j)→l.flatMap f=l.flatMap c
 | [],_=>rfl
 | a :: l,hn=>by
  rw [FD,FD,hn a D,Qa f c l (fun j d=>hn j (aa9 _ d))]
theorem NQ {k:pU} (a:j<Ws.length):nD (Ws ++ [k]) j=nD Ws j:=by
 unfold nD;simp [List.getD,List.getElem?_append_left a]
theorem NR {k:pU}:nD (Ws ++ [k]) Ws.length=k:=by
 unfold nD;simp [List.getD]
theorem FX (a:j<us.length):(us ++ [u]).getD j kH=us.getD j kH:=by simp [List.getD,List.getElem?_append_left a]
theorem FY:(us ++ [u]).getD us.length kH=u:=by simp [List.getD]
theorem YA (d:us.length=Ws.length) (k:pU) (u:Value):qV (Ws ++ [k]) (us ++ [u])=qV Ws us ++ lZ k u:=by
 unfold qV;rw [lD,mQ,DK,FH,Qa (fun j=>lZ (nD (Ws ++ [k]) j) ((us ++ [u]).getD j kH)) (fun j=>lZ (nD Ws j) (us.getD j kH)) (List.range Ws.length) (fun j a=>by have c:=List.mem_range.1 a;rw [NQ c,FX A])];simp only [FD,List.flatMap_nil,pz,NR];rw [← d,FY]
theorem CQ.app {k:pU} {f:Value} {y:Nat} {i:World} (x:CQ w d h P d' h' W) (hy:P<y∧∀ q,WB d' h' q→q<y) (hu:Own y W 1 u k.ss.length (k.ss.map E)) (ae:EN k) (h8:d'.Ws.length<8) (ho:Own (w.heap.size+2) i 11 f (d'.Ws.length+1) (qV d'.Ws h'.us ++ lZ k u)) (J:W.grownBy i h'.vW.ownBlock) (o:f.ownBlock=h'.vW.ownBlock∨f.ownBlock=U W.heap.size):CQ w d h P { d' with Ws:=d'.Ws ++ [k] } { h' with vW:=f,us:=h'.us ++ [u] } (i.setCell ⟨P,14,C⟩ f):=by
 have hz:=x.x.z;have X:=x.p;have L:=x.s.cr.len;have N:∀ q,h'.vW.ownBlock=U q→w.heap.size+2≤q∧q<W.heap.size∧q<y∧q≠P:=fun q a=>⟨x.s.cr.row.ku q a,x.s.cr.row.kD q a,hy.2 q (.inr (.inl a)),x.n q (.inr (.inl a))⟩
 have gs:i.grownBy (i.setCell ⟨P,14,C⟩ f) (U P):=lU (lJ _ _) 14 _;have k4:∀ q,q<i.heap.size→q≠P→(i.setCell ⟨P,14,C⟩ f).heap[q]?=i.heap[q]?:=fun q t v=>gs.block q t (fun e=>v fK);have V:∀ q,q<W.heap.size→h'.vW.ownBlock≠U q→q≠P→(i.setCell ⟨P,14,C⟩ f).heap[q]?=W.heap[q]?:=fun q t v h3=>(k4 q (lu t J.size) h3).trans (J.block q t (fun e=>v e.symm));have R:∀ q,WC d' h' q→(i.setCell ⟨P,14,C⟩ f).heap[q]?=W.heap[q]?:=fun q a=>V q (x.s.lt (.inl a)).2 (fun e=>x.s.nw q e a) (x.n q (.inl a));have ab:∀ j,j<d'.Ws.length→∀ q,(h'.us.getD j kH).ownBlock=U q→(i.setCell ⟨P,14,C⟩ f).heap[q]?=W.heap[q]?:=fun j l q a=>V q (x.s.lt (.inr (.inr ⟨j,l,a⟩))).2 (fun e=>by
  rcases x.s.cr.dr j l with t | t
  ·rw [t] at a;cases a
  ·exact t (a.trans e.symm)) (x.n q (.inr (.inr ⟨j,l,a⟩)))
 have M:∀ q,u.ownBlock=U q→y≤q∧q<W.heap.size:=fun q a=>⟨hu.ku q a,hu.kD q a⟩
 have ag:∀ q,u.ownBlock=U q→(i.setCell ⟨P,14,C⟩ f).heap[q]?=W.heap[q]?:=fun q a=>V q (M q a).2 (fun e=>by have:=N q e;have:=M q a;omega) (by have:=M q a;omega);have S:∀ q,f.ownBlock=U q→w.heap.size+2≤q∧q≠P∧(h'.vW.ownBlock=U q∨q=W.heap.size):=fun q a=>by
  rcases o with o | o
  ·rw [o] at a;have:=N q a;exact ⟨this.1,this.2.2.2,.inl a⟩
  ·rw [o] at a;injection a with a;exact ⟨A,A,.inr a.symm⟩
 have hlen:(d'.Ws ++ [k]).length=d'.Ws.length+1:=D;refine ⟨(x.x.far J (fun p e=>(N p e).1)).far gs (fun p e=>O),⟨x.s.pl.MJ (fun q a=>R q (.inl a)) (fun j l q a=>R q (.inr (.inl ⟨j,l,a⟩))),x.s.bo.blk (fun r hr q a=>R q (.inr (.inr (.inl (a ▸ hr))))),⟨by simp [L],?_,fun j l=>?_,fun j l=>?_,fun j l=>?_,by show (d'.Ws ++ [k]).length≤8;omega⟩,x.s.fl.qY (fun q a=>R q (.inr (.inr (.inr a)))),fun q a hc=>?_⟩,⟨x.g.ft,x.g.tz,x.g.fb,x.g.sb,x.g.fx,x.g.ky⟩,?_,⟨X.1,lu X.2 (lH J.size gs.size)⟩,fun q a=>?_,x.pb⟩
 ·show Own _ _ 11 f (d'.Ws ++ [k]).length (qV (d'.Ws ++ [k]) (h'.us ++ [u]))
  rw [hlen,YA L];exact ho.qY (fun q a=>k4 q (ho.kD q a) (S q a).2.1)
 ·show Own _ _ 1 ((h'.us ++ [u]).getD j kH) (nD (d'.Ws ++ [k]) j).ss.length ((nD (d'.Ws ++ [k]) j).ss.map E)
  have T:j<d'.Ws.length+1:=by rw [← hlen];exact l
  by_cases e:j<d'.Ws.length
  ·rw [NQ e,FX A];exact (x.s.cr.dep j e).qY (ab j e)
  ·obtain rfl:j=d'.Ws.length:=by omega
   rw [NR,← L,FY];exact (hu.qY ag).mono' A
 ·show Dn ((h'.us ++ [u]).getD j kH).ownBlock f.ownBlock
  have T:j<d'.Ws.length+1:=by rw [← hlen];exact l
  by_cases e:j<d'.Ws.length
  ·rw [FX A]
   rcases o with o | o
   ·rw [o];exact x.s.cr.dr j e
   ·rw [o];exact Dn.later (m:=W.heap.size) (fun q a=>(x.s.cr.dep j e).kD q a) (fun q a=>by injection a with a;omega)
  ·obtain rfl:j=d'.Ws.length:=by omega
   rw [← L,FY];cases af:u.ownBlock with
   | none=>exact .inl rfl
   | some q =>
    refine .inr (fun e=>?_);have t:=M q af;rcases (S q e.symm).2.2 with v | v
    ·have:=N q v;omega
    ·omega
 ·show EN (nD (d'.Ws ++ [k]) j)
  have T:j<d'.Ws.length+1:=by rw [← hlen];exact l
  by_cases e:j<d'.Ws.length
  ·rw [NQ e];exact x.s.cr.ok j e
  ·obtain rfl:j=d'.Ws.length:=by omega
   rw [NR];exact ae
 ·rcases (S q a).2.2 with v | v
  ·exact x.s.nw q v hc
  ·have:=(x.s.lt (.inl hc)).2;omega
 ·have aa:CF i P (mg d' h'):=x.c.block (J.block P X.2 (fun e=>(N P e.symm).2.2.2 rfl))
  exact aa.set (j:=14) aU _
 ·rcases a with H | H | ⟨j,l,H⟩
  ·exact x.n q (.inl H)
  ·exact (S q H).2.1
  ·have T:j<d'.Ws.length+1:=by rw [← hlen];exact l
   have Q:((h'.us ++ [u]).getD j kH).ownBlock=U q:=H;by_cases e:j<d'.Ws.length
   ·rw [FX A] at Q;exact x.n q (.inr (.inr ⟨j,e,Q⟩))
   ·obtain rfl:j=d'.Ws.length:=by omega
    rw [← L,FY] at Q;have:=M q Q;omega
theorem CQ.step {k:pU} {i:Option Addr} {j y:Nat} (x:CQ w d h P d' h' W) (hy:P<y∧∀ q,WB d' h' q→q<y) (hu:Own y W 1 (K i k.ss.length j) k.ss.length (k.ss.map E)) (X:EN k) (M:d'.Ws.length<8) :
  ∃ (a:Option Addr) (c:Nat) (g:World),(Builtin.append_ #[72,72] 72 #[h'.vW,K (U ⟨W.heap.size,0,C⟩) 1 1]).run prog (W.alloc (aH (lZ k (K i k.ss.length j)).toArray 127))=.ok (K a (d'.Ws.length+1) c) g∧(g.cell? ⟨P,14,C⟩=U h'.vW∧g.frozen? ⟨P,14,C⟩=false)∧CB w d h g∧CQ w d h P { d' with Ws:=d'.Ws ++ [k] } { h' with vW:=K a (d'.Ws.length+1) c,us:=h'.us ++ [K i k.ss.length j] } (g.setCell ⟨P,14,C⟩ (K a (d'.Ws.length+1) c)):=by
 obtain ⟨iW,V,N,Q,R⟩:=info_parts Tryz.infoWr;obtain ⟨f, o⟩ := kC (W.alloc (aH (lZ k (K i k.ss.length j)).toArray 127));have t:Below W.heap.size W f:=by rw [o];exact kQ
 have l:=x.below t;have hz:=x.x.z;have e2:f.heap.size=W.heap.size+1:=by rw [o];simp
 have aa:Own (w.heap.size+2) f 11 (K (U ⟨W.heap.size,0,C⟩) 1 1) 1 (lZ k (K i k.ss.length j)):=by
  rw [o];exact .inr ⟨_,0,1,rfl,kW.made W (w.heap.size+2) 127 11 1 1 _ 11 A kL G rfl kL _ rfl _ (.inl rfl)⟩
 have ab:Src prog 11 72 _ 1 _ f:=aa.src underlying72 (LP _ _ _ _);obtain ⟨v4,L,S,v,r,T⟩:=l7 (P:=prog) f (w.heap.size+2) 72 72 72 127 iW (aI Ob) 11 112 underlying72 V N Q R rfl _ _ _ l.s.cr.row _ 1 _ ab G A A;obtain ⟨a,c,rfl⟩:=v.slc;have J:∀ q,h'.vW.ownBlock=U q→w.heap.size+2≤q∧q≠P:=fun q H=>⟨x.s.cr.row.ku q H,x.n q (.inr (.inl H))⟩
 have u:CF L P (mg d' h'):=l.c.block (r.block P l.p.2 (fun e=>(J P e.symm).2 rfl));rw [← o];exact ⟨a,c,L,S,⟨(u 14 aU).1,(u 14 aU).2⟩,l.x.far r (fun p e=>(J p e).1),l.app hy (hu.below t kL) X M v r T⟩
end
def TG (e:Ending) (B:Nat) (w':World):Prop:=∃ d h,e=aO (aI (mg d h).toArray)∧qx w' B d h∧Ah d∧PBd d h
theorem CQ.fin {W':World} {d d':nI} {h h':oO} {P:Nat} (x:CQ w d h P d' h' W) (a:W.grownBy W' (U (w.heap.size+1))):TG (aO (aI (mg d' h').toArray)) w.heap.size W'∧Below w.heap.size w W':=by
 have f:=x.x.z;refine ⟨⟨d',h',rfl,?_,x.g,x.pb⟩,x.x.b.grown a A (fun k e=>O)⟩;exact (x.s.keep (fun q c=>a.block q (x.s.lt c).2 (fun e=>by injection e with e;have:=(x.s.lt c).1;omega))).mono A
section
variable {ρ:Operand→Value} {o:Oper} {w:World}
theorem ZK {v:Value} (x:Operand) (h:o.op=.load 73 x) (c:ρ x=aG (U p)) (a:w.cell? p=U v):(execOp ρ o).run prog w=.ok (.value v) w:=by
 unfold execOp;rw [h];simp [go_sem,c,a]
theorem VX (x y z t u:Operand) {e:ByteArray} {d:BD} {h':BH} {a':Option Addr} {f c':Nat} (h:o.op=.build 75 #[(0,x),(1,y),(2,z),(4,t),(5,u)]) (i:ρ x=aI #[K a n c]) (j:ρ y=E key) (k:ρ z=aI (bvs d h').toArray) (g:ρ t=K a' f c') (hu:ρ u=E e):(execOp ρ o).run prog w=.ok (.value (aI ([K a n c,E key] ++ bvs d h' ++ [K C 0 0,K a' f c',E e]).toArray)) w:=by
 unfold execOp;rw [h];simp [go_sem,i,j,k,g,hu,bvs]
theorem Nw (y:Operand) {k:pU} (h:o.op=.buildSlice 72 1 #[(0,y)]) (d:ρ y=aI (lZ k (K a n c)).toArray):(execOp ρ o).run prog w=.ok (.value (K (U ⟨w.heap.size,0,C⟩) 1 1)) (w.alloc (aH (lZ k (K a n c)).toArray 127)):=by
 unfold execOp;rw [h];simp [go_sem,d,lZ]
theorem Nr {v0:Value} (x y:Operand) (h:o.op=.store 72 x y) (f:ρ x=aG (U p)) (g:ρ y=K a n c) (d:w.cell? p=U v0) (e:w.frozen? p=false):(execOp ρ o).run prog w=.ok .skip (w.setCell p (K a n c)):=by
 unfold execOp;rw [h];simp [go_sem,f,g,d,e]
end
theorem U1 (v1:Value) (w:World):Sem.run prog (callFunc 77 #[v1]) w=.ok (.enter 77 #[v1]) w:=Z
theorem NY (v1:Value) (w:World):Sem.run prog (callFunc 34 #[v1]) w=.ok (.enter 34 #[v1]) w:=Z
theorem JU (v1:Value) (w:World):Sem.run prog (callFunc 91 #[v1]) w=.ok (.enter 91 #[v1]) w:=Z
theorem U0 (v1:Value) (w:World):Sem.run prog (callFunc 92 #[v1]) w=.ok (.enter 92 #[v1]) w:=Z
theorem XD (d:nI) (h:oO) (s:qx w 0 d h) (g:Ah d) :
  Calls prog 63 #[aI (mg d h).toArray] w fun e w'=>TG e w.heap.size w'∧Below w.heap.size w w':=by
 obtain ⟨W, hW⟩ := kC ((w.alloc (aH (mg d h).toArray 75)).alloc (aH kX.toArray 75));have x0:CB w d h W:=by
  rw [hW];refine ⟨kQ.alloc D _,(CF.made w (mg d h).toArray _).block (kU _ _ _ D),?_,D⟩;have:=CF.made (w.alloc (aH (mg d h).toArray 75)) kX.toArray 75;rw [mJ] at this;exact this
 have hk:=hid s;have X:=hid g;obtain ⟨pa,qC,c8⟩:=s.pl.row.slc;obtain ⟨wa,ai,da⟩:=s.cr.row.slc;obtain ⟨fa,fc,c7⟩:=s.fl.slc;obtain ⟨vP,vs,bh,vW,us,vF⟩:=h;dsimp only at c8 da c7;subst c8 da c7;simp only [mg,bvs,kX,Eo,oG] at hW;have HW:=hid hW;clear hW s g;show Calls prog _ #[aI #[K pa d.ts.length qC,E d.key,I Y d.bd.wk,.bool d.bd.up,I Y d.bd.now,I Y d.bd.sn,I Y d.bd.ep,I Y d.bd.gv,K bh.a1 d.bd.L1.length bh.c1,K bh.a2 d.bd.L2.length bh.c2,K bh.ar d.bd.R.length bh.cr,K bh.aj d.bd.J.length bh.cj,K bh.az d.bd.S.length bh.cs,K bh.ao d.bd.O.length bh.co,K wa d.Ws.length ai,K fa d.Fl.length fc,E d.fg]] w _;go_enter func63,ntmps63
 go_upto_region 1 with fail
 rw [← HW.out];clear HW;go_cut [3] (fun c wx=>∃ (P:Nat) (dw:Value) (dx:List Value) (c6:BH) (dv:Value),c=aG (U ⟨P,0,C⟩)∧CQ w d ⟨K pa d.ts.length qC,vs,bh,K wa d.Ws.length ai,us,K fa d.Fl.length fc⟩ P { d with Ws:=[] } ⟨dw,dx,c6,kH,[],dv⟩ wx)
 case first =>
  refine wp_region_held (S:=CB w d ⟨K pa d.ts.length qC,vs,bh,K wa d.Ws.length ai,us,K fa d.Fl.length fc⟩) Z ?_;change wpAnyH _ _ _ _ _ _ _ _ (World.drew _);obtain ⟨wd, ax⟩ := kC W.drew;have t:=x0.below (show Below W.heap.size W wd by rw [ax];exact mD.drew);rw [← ax];clear ax x0;refine jZ (i:=0) (d:=U 5) (v:=aG (U ⟨w.heap.size,0,C⟩)) (l':=bt 16 1) rfl (fun _ _=>Z) t ?_;refine jZ (i:=1) (d:=U 6) (v:=aI #[K pa d.ts.length qC]) (l':=bt 16 3) rfl (fun _ u=>pK (F 5) Z Z (u.c 0 aU).1) t ?_;refine jZ (i:=3) (d:=U 8) (v:=aG (U ⟨w.heap.size,1,C⟩)) (l':=bt 16 11) rfl (fun _ _=>Z) t ?_;refine jZ (i:=4) (d:=U 9) (v:=E d.key) (l':=bt 16 27) rfl (fun _ u=>Nu (F 8) Z Z (u.c 1 aU).1) t ?_;refine jZ (i:=5) (d:=U 10) (v:=aG (U ⟨w.heap.size,2,C⟩)) (l':=bt 16 59) rfl (fun _ _=>Z) t ?_;refine jZ (i:=6) (d:=U 11) (v:=aI (bvs d.bd bh).toArray) (l':=bt 16 123) rfl (fun _ u=>Dl 30 (bvs d.bd bh) (F 10) Z Z (u.c.range [K pa d.ts.length qC,E d.key] (bvs d.bd bh) [K wa d.Ws.length ai,K fa d.Fl.length fc,E d.fg]) underlying30 rfl Tryz.sizeBo) t ?_;refine jZ (i:=8) (d:=U 13) (v:=aG (U ⟨w.heap.size,15,C⟩)) (l':=bt 16 379) rfl (fun _ _=>Z) t ?_;refine jZ (i:=9) (d:=U 14) (v:=K fa d.Fl.length fc) (l':=bt 16 891) rfl (fun _ u=>ZK (F 13) Z Z (u.c 15 aU).1) t ?_;refine jZ (i:=11) (d:=U 16) (v:=aG (U ⟨w.heap.size,16,C⟩)) (l':=bt 16 2939) rfl (fun _ _=>Z) t ?_;refine jZ (i:=12) (d:=U 17) (v:=E d.fg) (l':=bt 16 7035) rfl (fun _ u=>Nu (F 16) Z Z (u.c 16 aU).1) t ?_;have b7:Hid (w.heap.size+2≤wd.heap.size):=hid t.z;refine nT (i:=2) (j:=14) Z (kZ (i:=2) (d:=U 7) (f:=77) (args:=#[aI #[K pa d.ts.length qC]]) (l':=bt 16 7039) (R:=RPl wd d.ts) rfl Z Z Z (lW _ _ rfl Z rfl U1) (t.plan hk.out X.out) ?_) (kM (i:=14) (d:=U 3) (v:=aG (U ⟨wd.heap.size,0,C⟩)) (w':=wd.alloc (aH kX.toArray 75)) (l':=bt 16 23419) rfl Z Z Z (Ei Z) (t.below kQ) ?_)
  ·rintro v1 w1 ⟨a1,c1,q1,rfl,o1,ba⟩
   have t1:=t.below ba;have s1:=ba.size;refine ⟨t1,?_⟩;refine nT (i:=7) (j:=14) Z (kZ (i:=7) (d:=U 12) (f:=34) (args:=#[aI (bvs d.bd bh).toArray]) (l':=bt 16 7167) (R:=Zp w1 d.bd) rfl Z Z Z (lW _ _ rfl Z rfl NY) (t1.D8 hk.out X.out) ?_) (kM (i:=14) (d:=U 3) (v:=aG (U ⟨w1.heap.size,0,C⟩)) (w':=w1.alloc (aH kX.toArray 75)) (l':=bt 16 23423) rfl Z Z Z (Ei Z) (t1.below kQ) ?_)
   ·rintro v2 w2 ⟨q2,rfl,o2,bf⟩
    have t2:=t1.below bf;have s2:=bf.size;have b4:=o1.below bf;refine ⟨t2,?_⟩;refine nT (i:=10) (j:=14) Z (kZ (i:=10) (d:=U 15) (f:=91) (args:=#[K fa d.Fl.length fc]) (l':=bt 16 8191) (R:=Zo w2 d.Fl) rfl Z Z Z (lW _ _ rfl Z rfl JU) (t2.flt hk.out X.out) ?_) (kM (i:=14) (d:=U 3) (v:=aG (U ⟨w2.heap.size,0,C⟩)) (w':=w2.alloc (aH kX.toArray 75)) (l':=bt 16 23551) rfl Z Z Z (Ei Z) (t2.below kQ) ?_)
    ·rintro v3 o ⟨a3,c3,rfl,o3,bj⟩
     have t3:=t2.below bj;have s3:=bj.size;have cd:=b4.below bj;have cc:=o2.below bj;refine ⟨t3,?_⟩;obtain ⟨cs,l⟩:∃ cs,cs=mg { d with Ws:=[] } ⟨K a1 d.ts.length c1,q1,q2,kH,[],K a3 d.Fl.length c3⟩:=⟨_,rfl⟩
     have M:=hid l;clear l;refine nT (i:=13) (j:=14) Z (kM (i:=13) (d:=U 18) (v:=aI cs.toArray) (w':=o) (l':=bt 16 16383) rfl Z Z Z jP t3 ?_) (kM (i:=14) (d:=U 3) (v:=aG (U ⟨o.heap.size,0,C⟩)) (w':=o.alloc (aH kX.toArray 75)) (l':=bt 16 24575) rfl Z Z Z (Ei Z) (t3.below kQ) ?_)
     ·refine kF Z (kM (i:=14) (d:=U 3) (v:=aG (U ⟨o.heap.size,0,C⟩)) (w':=o.alloc (aH kX.toArray 75)) (l':=bt 16 32767) rfl Z Z Z (Ei Z) (t3.below kQ) ?_)
      obtain ⟨N, b2⟩ := kC (o.alloc (aH kX.toArray 75));have ag:Below o.heap.size o N:=by rw [b2];exact kQ
      have C5:CF N o.heap.size kX:=by rw [b2];exact CF.made o kX.toArray _
      have z5:N.heap.size=o.heap.size+1:=by rw [b2];simp
      rw [← b2];have t5:=t3.below ag;have s5:=ag.size;have dr:=cd.below ag;have dp:=cc.below ag;have dq:=o3.below ag kL;have H:CF N (o.heap.size) kX:=C5;have hz:=b7.out;have zz:=t5.z;have l:=M.out;have ae:(prog.info? 75).map (·.size)=U cs.length:=iJ;have L:kX.length=cs.length:=by rw [l];rfl
      have aa:N.grownBy (N.setCells (o.heap.size) 0 cs) (U (o.heap.size)):=gsc;have a:=CQ.mk0 (P:=o.heap.size) (zp:=wd.heap.size) (MN:=w1.heap.size) (zb:=w1.heap.size) (MO:=w2.heap.size) (zf:=w2.heap.size) (Qk:=o.heap.size) t5 X.out dr (fun q a=>a.elim (fun e=>o1.row.kD q e) (fun ⟨j,hj,e⟩=>(o1.dep j hj).kD q e)) dp (fun q a=>(o2.lo _ a q rfl).2) dq (fun q a=>o3.kD q a) A A A aa fP;have ab:∀ v∈cs,v.oneCell'=true:=iH;refine kF Z (lI (i:=15) (w':=N.setCells (o.heap.size) 0 cs) (l':=bt 16 65535) rfl Z Z Z (lM 75 kX cs (F 3) (F 18) Z Z Z H L ae ab) a.x ?_);refine wpAnyH_done Z ?_ _;obtain ⟨wz, af⟩ := kC (N.setCells (o.heap.size) 0 cs);rw [← af] at a ⊢;have HQ:=hid a;clear a aa ae ab H hz zz af l L M t o1 t1 s1 ba o2 t2 s2 bf b4 o3 t3 s3 bj cd cc b2 C5 z5 t5 s5 ag dr dp dq;go_simp;go_wp2;go_meet
      case rel=>exact ⟨_,_,_,_,_,rfl,HQ.out⟩
     ·obtain ⟨w7, b3⟩ := kC (o.alloc (aH kX.toArray 75))
      have bk:Below o.heap.size o w7:=by rw [b3];exact kQ
      have C7:CF w7 o.heap.size kX:=by rw [b3];exact CF.made o kX.toArray _
      have z7:w7.heap.size=o.heap.size+1:=by rw [b3];simp
      rw [← b3];have t7:=t3.below bk;have s7:=bk.size;have du:=cd.below bk;have ds:=cc.below bk;have dt:=o3.below bk kL;refine kF Z (kM (i:=13) (d:=U 18) (v:=aI cs.toArray) (w':=w7) (l':=bt 16 32767) rfl Z Z Z jP t7 ?_);have H:CF w7 (o.heap.size) kX:=C7;have hz:=b7.out;have zz:=t7.z;have l:=M.out;have ae:(prog.info? 75).map (·.size)=U cs.length:=iJ;have L:kX.length=cs.length:=by rw [l];rfl
      have aa:w7.grownBy (w7.setCells (o.heap.size) 0 cs) (U (o.heap.size)):=gsc;have a:=CQ.mk0 (P:=o.heap.size) (zp:=wd.heap.size) (MN:=w1.heap.size) (zb:=w1.heap.size) (MO:=w2.heap.size) (zf:=w2.heap.size) (Qk:=o.heap.size) t7 X.out du (fun q a=>a.elim (fun e=>o1.row.kD q e) (fun ⟨j,hj,e⟩=>(o1.dep j hj).kD q e)) ds (fun q a=>(o2.lo _ a q rfl).2) dt (fun q a=>o3.kD q a) A A A aa fP;have ab:∀ v∈cs,v.oneCell'=true:=iH;refine kF Z (lI (i:=15) (w':=w7.setCells (o.heap.size) 0 cs) (l':=bt 16 65535) rfl Z Z Z (lM 75 kX cs (F 3) (F 18) Z Z Z H L ae ab) a.x ?_);refine wpAnyH_done Z ?_ _;obtain ⟨wz, af⟩ := kC (w7.setCells (o.heap.size) 0 cs);rw [← af] at a ⊢;have HQ:=hid a;clear a aa ae ab H hz zz af l L M t o1 t1 s1 ba o2 t2 s2 bf b4 o3 t3 s3 bj cd cc b3 C7 z7 t7 s7 bk du ds dt;go_simp;go_wp2;go_meet
      case rel=>exact ⟨_,_,_,_,_,rfl,HQ.out⟩
    ·obtain ⟨bo, bz⟩ := kC (w2.alloc (aH kX.toArray 75))
     have bq:Below w2.heap.size w2 bo:=by rw [bz];exact kQ
     have ct:CF bo w2.heap.size kX:=by rw [bz];exact CF.made w2 kX.toArray _
     have e7:bo.heap.size=w2.heap.size+1:=by rw [bz];simp
     rw [← bz];have t10:=t2.below bq;have er:=bq.size;have dc:=b4.below bq;have db:=o2.below bq;refine kF Z (kZ (i:=10) (d:=U 15) (f:=91) (args:=#[K fa d.Fl.length fc]) (l':=bt 16 24575) (R:=Zo bo d.Fl) rfl Z Z Z (lW _ _ rfl Z rfl JU) (t10.flt hk.out X.out) ?_);rintro v11 ay ⟨dy,eb,rfl,cg,bb⟩;have t11:=t10.below bb;have et:=bb.size;have df:=dc.below bb;have de:=db.below bb;have cu:=ct.block (bb.block _ A);refine ⟨t11,?_⟩;obtain ⟨cs,l⟩:∃ cs,cs=mg { d with Ws:=[] } ⟨K a1 d.ts.length c1,q1,q2,kH,[],K dy d.Fl.length eb⟩:=⟨_,rfl⟩
     have M:=hid l;clear l;refine kF Z (kM (i:=13) (d:=U 18) (v:=aI cs.toArray) (w':=ay) (l':=bt 16 32767) rfl Z Z Z jP t11 ?_);have H:CF ay (w2.heap.size) kX:=cu;have hz:=b7.out;have zz:=t11.z;have l:=M.out;have ae:(prog.info? 75).map (·.size)=U cs.length:=iJ;have L:kX.length=cs.length:=by rw [l];rfl
     have aa:ay.grownBy (ay.setCells (w2.heap.size) 0 cs) (U (w2.heap.size)):=gsc;have a:=CQ.mk0 (P:=w2.heap.size) (zp:=wd.heap.size) (MN:=w1.heap.size) (zb:=w1.heap.size) (MO:=w2.heap.size) (zf:=bo.heap.size) (Qk:=ay.heap.size) t11 X.out df (fun q a=>a.elim (fun e=>o1.row.kD q e) (fun ⟨j,hj,e⟩=>(o1.dep j hj).kD q e)) de (fun q a=>(o2.lo _ a q rfl).2) cg (fun q a=>cg.kD q a) A A A aa fP;have ab:∀ v∈cs,v.oneCell'=true:=iH;refine kF Z (lI (i:=15) (w':=ay.setCells (w2.heap.size) 0 cs) (l':=bt 16 65535) rfl Z Z Z (lM 75 kX cs (F 3) (F 18) Z Z Z H L ae ab) a.x ?_);refine wpAnyH_done Z ?_ _;obtain ⟨wz, af⟩ := kC (ay.setCells (w2.heap.size) 0 cs);rw [← af] at a ⊢;have HQ:=hid a;clear a aa ae ab H hz zz af l L M t o1 t1 s1 ba o2 t2 s2 bf b4 bz ct e7 t10 er bq dc db cg t11 et bb df de cu;go_simp;go_wp2;go_meet
     case rel=>exact ⟨_,_,_,_,_,rfl,HQ.out⟩
   ·obtain ⟨b5, b0⟩ := kC (w1.alloc (aH kX.toArray 75))
    have b8:Below w1.heap.size w1 b5:=by rw [b0];exact kQ
    have cv:CF b5 w1.heap.size kX:=by rw [b0];exact CF.made w1 kX.toArray _
    have e8:b5.heap.size=w1.heap.size+1:=by rw [b0];simp
    rw [← b0];have t14:=t1.below b8;have eu:=b8.size;have dg:=o1.below b8;refine kF Z (kZ (i:=7) (d:=U 12) (f:=34) (args:=#[aI (bvs d.bd bh).toArray]) (l':=bt 16 23551) (R:=Zp b5 d.bd) rfl Z Z Z (lW _ _ rfl Z rfl NY) (t14.D8 hk.out X.out) ?_);rintro fb cn ⟨ek,rfl,ch,br⟩;have t15:=t14.below br;have ew:=br.size;have dh:=dg.below br;have cw:=cv.block (br.block _ A);refine ⟨t15,?_⟩;refine kF Z (kZ (i:=10) (d:=U 15) (f:=91) (args:=#[K fa d.Fl.length fc]) (l':=bt 16 24575) (R:=Zo cn d.Fl) rfl Z Z Z (lW _ _ rfl Z rfl JU) (t15.flt hk.out X.out) ?_);rintro fe a6 ⟨dz,ec,rfl,ck,bc⟩;have t16:=t15.below bc;have ey:=bc.size;have dj:=dh.below bc;have di:=ch.below bc;have cx:=cw.block (bc.block _ A);refine ⟨t16,?_⟩;obtain ⟨cs,l⟩:∃ cs,cs=mg { d with Ws:=[] } ⟨K a1 d.ts.length c1,q1,ek,kH,[],K dz d.Fl.length ec⟩:=⟨_,rfl⟩
    have M:=hid l;clear l;refine kF Z (kM (i:=13) (d:=U 18) (v:=aI cs.toArray) (w':=a6) (l':=bt 16 32767) rfl Z Z Z jP t16 ?_);have H:CF a6 (w1.heap.size) kX:=cx;have hz:=b7.out;have zz:=t16.z;have l:=M.out;have ae:(prog.info? 75).map (·.size)=U cs.length:=iJ;have L:kX.length=cs.length:=by rw [l];rfl
    have aa:a6.grownBy (a6.setCells (w1.heap.size) 0 cs) (U (w1.heap.size)):=gsc;have a:=CQ.mk0 (P:=w1.heap.size) (zp:=wd.heap.size) (MN:=w1.heap.size) (zb:=b5.heap.size) (MO:=cn.heap.size) (zf:=cn.heap.size) (Qk:=a6.heap.size) t16 X.out dj (fun q a=>a.elim (fun e=>o1.row.kD q e) (fun ⟨j,hj,e⟩=>(o1.dep j hj).kD q e)) di (fun q a=>(ch.lo _ a q rfl).2) ck (fun q a=>ck.kD q a) A A A aa fP;have ab:∀ v∈cs,v.oneCell'=true:=iH;refine kF Z (lI (i:=15) (w':=a6.setCells (w1.heap.size) 0 cs) (l':=bt 16 65535) rfl Z Z Z (lM 75 kX cs (F 3) (F 18) Z Z Z H L ae ab) a.x ?_);refine wpAnyH_done Z ?_ _;obtain ⟨wz, af⟩ := kC (a6.setCells (w1.heap.size) 0 cs);rw [← af] at a ⊢;have HQ:=hid a;clear a aa ae ab H hz zz af l L M t o1 t1 s1 ba b0 cv e8 t14 eu b8 dg ch t15 ew br dh cw ck t16 ey bc dj di cx;go_simp;go_wp2;go_meet
    case rel=>exact ⟨_,_,_,_,_,rfl,HQ.out⟩
  ·obtain ⟨b6, b1⟩ := kC (wd.alloc (aH kX.toArray 75))
   have cf:Below wd.heap.size wd b6:=by rw [b1];exact kQ
   have cy:CF b6 wd.heap.size kX:=by rw [b1];exact CF.made wd kX.toArray _
   have e9:b6.heap.size=wd.heap.size+1:=by rw [b1];simp
   rw [← b1];have t19:=t.below cf;have ez:=cf.size;refine kF Z (kZ (i:=2) (d:=U 7) (f:=77) (args:=#[aI #[K pa d.ts.length qC]]) (l':=bt 16 23423) (R:=RPl b6 d.ts) rfl Z Z Z (lW _ _ rfl Z rfl U1) (t19.plan hk.out X.out) ?_);rintro v20 cp ⟨a20,ed,en,rfl,cb,b9⟩;have t20:=t19.below b9;have e0:=b9.size;have cz:=cy.block (b9.block _ A);refine ⟨t20,?_⟩;refine kF Z (kZ (i:=7) (d:=U 12) (f:=34) (args:=#[aI (bvs d.bd bh).toArray]) (l':=bt 16 23551) (R:=Zp cp d.bd) rfl Z Z Z (lW _ _ rfl Z rfl NY) (t20.D8 hk.out X.out) ?_);rintro v21 cq ⟨eo,rfl,cl,bs⟩;have t21:=t20.below bs;have e4:=bs.size;have dk:=cb.below bs;have c4:=cz.block (bs.block _ A);refine ⟨t21,?_⟩;refine kF Z (kZ (i:=10) (d:=U 15) (f:=91) (args:=#[K fa d.Fl.length fc]) (l':=bt 16 24575) (R:=Zo cq d.Fl) rfl Z Z Z (lW _ _ rfl Z rfl JU) (t21.flt hk.out X.out) ?_);rintro ff a7 ⟨ea,ee,rfl,cm,bg⟩;have t22:=t21.below bg;have e5:=bg.size;have dn:=dk.below bg;have dm:=cl.below bg;have c5:=c4.block (bg.block _ A);refine ⟨t22,?_⟩;obtain ⟨cs,l⟩:∃ cs,cs=mg { d with Ws:=[] } ⟨K a20 d.ts.length ed,en,eo,kH,[],K ea d.Fl.length ee⟩:=⟨_,rfl⟩
   have M:=hid l;clear l;refine kF Z (kM (i:=13) (d:=U 18) (v:=aI cs.toArray) (w':=a7) (l':=bt 16 32767) rfl Z Z Z jP t22 ?_);have H:CF a7 (wd.heap.size) kX:=c5;have hz:=b7.out;have zz:=t22.z;have l:=M.out;have ae:(prog.info? 75).map (·.size)=U cs.length:=iJ;have L:kX.length=cs.length:=by rw [l];rfl
   have aa:a7.grownBy (a7.setCells (wd.heap.size) 0 cs) (U (wd.heap.size)):=gsc;have a:=CQ.mk0 (P:=wd.heap.size) (zp:=b6.heap.size) (MN:=cp.heap.size) (zb:=cp.heap.size) (MO:=cq.heap.size) (zf:=cq.heap.size) (Qk:=a7.heap.size) t22 X.out dn (fun q a=>a.elim (fun e=>cb.row.kD q e) (fun ⟨j,hj,e⟩=>(cb.dep j hj).kD q e)) dm (fun q a=>(cl.lo _ a q rfl).2) cm (fun q a=>cm.kD q a) A A A aa fP;have ab:∀ v∈cs,v.oneCell'=true:=iH;refine kF Z (lI (i:=15) (w':=a7.setCells (wd.heap.size) 0 cs) (l':=bt 16 65535) rfl Z Z Z (lM 75 kX cs (F 3) (F 18) Z Z Z H L ae ab) a.x ?_);refine wpAnyH_done Z ?_ _;obtain ⟨wz, af⟩ := kC (a7.setCells (wd.heap.size) 0 cs);rw [← af] at a ⊢;have HQ:=hid a;clear a aa ae ab H hz zz af l L M t b1 cy e9 t19 ez cf cb t20 e0 b9 cz cl t21 e4 bs dk c4 cm t22 e5 bg dn dm c5;go_simp;go_wp2;go_meet
   case rel=>exact ⟨_,_,_,_,_,rfl,HQ.out⟩
 case rest =>
  obtain ⟨P,dw,dx,c6,dv,rfl,q0⟩:=hcut;clear x0;have HQ:=hid q0;have h8:Hid (d.Ws.length≤8):=hid hk.out.cr.m8;clear q0;go_wp2;go_loopw [4] (fun i wr=>∃ (k:Nat) (dd:nI) (u:oO),k≤d.Ws.length∧i=I Y k∧dd.Ws.length=k∧CQ w d ⟨K pa d.ts.length qC,vs,bh,K wa d.Ws.length ai,us,K fa d.Fl.length fc⟩ P dd u wr) (fun i _=>d.Ws.length - (intOf i).toNat)
  case atStart=>exact ⟨0,_,_,lG _,rfl,rfl,HQ.out⟩
  case round =>
   clear HQ;obtain ⟨k,dd,u,ei,rfl,T,x⟩:=hrel;have e6:wr.cell? ⟨w.heap.size,14,C⟩=U (K wa d.Ws.length ai):=(x.x.c 14 aU).1;have ef:=h8.out;by_cases bw:k<d.Ws.length
   ·have ej:Own 0 w 11 (K wa d.Ws.length ai) d.Ws.length (qV d.Ws us):=hk.out.cr.row
    rcases ej with ⟨h1,h2,_⟩ | ⟨g9,o9,cap,h1,hc⟩
    ·omega
    injection h1 with e1 _ e3;subst e1 e3;have HX:=hid x;have ah:=hid T;clear x T hc;go_upto_region 5 with fail
    clear e6;have x:=HX.out;have T:=ah.out;clear HX ah;refine wp_region_held (S:=CB w d ⟨K pa d.ts.length qC,vs,bh,K (U ⟨g9,o9,C⟩) d.Ws.length ai,us,K fa d.Fl.length fc⟩) Z ?_;change wpAnyH _ _ _ _ _ _ _ _ (World.drew _);obtain ⟨wd, ax⟩ := kC wr.drew;have t:=x.below (show Below wr.heap.size wr wd by rw [ax];exact mD.drew);rw [← ax];clear ax x;have hS:=t.x;have bu:=hS.work hk.out bw;have bl:=hk.out.cr.ok k bw;have ca:∀ V,CB w d ⟨K pa d.ts.length qC,vs,bh,K (U ⟨g9,o9,C⟩) d.Ws.length ai,us,K fa d.Fl.length fc⟩ V→V.rangeAt g9 (o9+k*11) (lZ (nD d.Ws k) (us.getD k kH)):=fun V hV=>by
     have h5:=(hk.out.below hV.b).cr.row;rcases h5 with ⟨h1,_,_⟩ | ⟨g',o',cap,h1,hc⟩
     ·cases h1
     ·injection h1 with e1 _ e3
      injection e1 with e1;injection e1 with e1 e2 _;subst e1 e2 e3;exact EO.range hc bw
    obtain ⟨y0, bm⟩ := kC wd.heap.size;have bn:P<y0∧∀ q,WB dd u q→q<y0:=by rw [bm];exact ⟨t.p.2,fun q a=>(t.s.lt a).2⟩
    have a8:∀ V,CQ w d ⟨K pa d.ts.length qC,vs,bh,K (U ⟨g9,o9,C⟩) d.Ws.length ai,us,K fa d.Fl.length fc⟩ P dd u V→V.cell? ⟨P,14,C⟩=U u.vW:=fun V hV=>(hV.c 14 aU).1;refine jZ (i:=0) (d:=U 26) (v:=aG (U ⟨P,14,C⟩)) (l':=bt 12 1) rfl (fun _ _=>Z) hS ?_;refine jZ (i:=2) (d:=U 28) (v:=aG (U ⟨w.heap.size,14,C⟩)) (l':=bt 12 5) rfl (fun _ _=>Z) hS ?_;refine jZ (i:=3) (d:=U 29) (v:=K (U ⟨g9,o9,C⟩) d.Ws.length ai) (l':=bt 12 13) rfl (fun _ u=>rO (F 28) Z Z (u.c 14 aU).1) hS ?_;refine jZ (i:=4) (d:=U 30) (v:=I Y (k:Nat)) (l':=bt 12 29) rfl (fun _ _=>Z) hS ?_;refine jZ (i:=5) (d:=U 31) (v:=aG (U ⟨g9,o9+k*11,C⟩)) (l':=bt 12 61) rfl (fun _ _=>CO (F 29) (F 30) g9 o9 d.Ws.length ai k Z Z Z bw) hS ?_;refine jZ (i:=6) (d:=U 32) (v:=aI (lZ (nD d.Ws k) (us.getD k kH)).toArray) (l':=bt 12 125) rfl (fun _ u=>Dl 127 (lZ (nD d.Ws k) (us.getD k kH)) (F 31) Z Z (ca _ u) underlying127 rfl Tryz.sizeWk) hS ?_;refine nT (i:=1) (j:=7) Z (kM (i:=1) (d:=U 27) (v:=u.vW) (w':=wd) (l':=bt 12 127) rfl Z Z Z (rO (F 26) Z Z (a8 _ t)) t.x ?_) (kZ (i:=7) (d:=U 33) (f:=92) (args:=#[aI (lZ (nD d.Ws k) (us.getD k kH)).toArray]) (l':=bt 12 253) (R:=aa3 wd (nD d.Ws k)) rfl Z Z Z (lW _ _ rfl Z rfl U0) (by exact bu) ?_)
    ·refine kF Z (kZ (i:=7) (d:=U 33) (f:=92) (args:=#[aI (lZ (nD d.Ws k) (us.getD k kH)).toArray]) (l':=bt 12 255) (R:=aa3 wd (nD d.Ws k)) rfl Z Z Z (lW _ _ rfl Z rfl U0) (by exact bu) ?_)
     rintro v5 N ⟨ua,uc,rfl,au,ag⟩;have t5:=t.below ag;rw [← bm] at au;refine ⟨t5.x,?_⟩;refine kF Z (kM (i:=8) (d:=U 34) (v:=K (U ⟨N.heap.size,0,C⟩) 1 1) (w':=(N.alloc (aH (lZ (nD d.Ws k) (K ua (nD d.Ws k).ss.length uc)).toArray 127))) (l':=bt 12 511) rfl Z Z Z (Nw (F 33) Z Z) (t5.below kQ).x ?_);obtain ⟨a9,c9,w9,an,ak,al,Q⟩:=t5.step bn au bl A;rw [T] at an Q;refine kF Z (kM (i:=9) (d:=U 35) (v:=K a9 (k+1) c9) (w':=w9) (l':=bt 12 1023) rfl Z Z Z (mX (F 27) (F 34) 72 72 72 Z Z Z Z an) al ?_);refine jZ (i:=10) (d:=U 36) (v:=aG (U ⟨P,14,C⟩)) (l':=bt 12 2047) rfl (fun _ _=>Z) al ?_;refine kF Z (lI (i:=11) (w':=w9.setCell ⟨P,14,C⟩ (K a9 (k+1) c9)) (l':=bt 12 4095) rfl Z Z Z (Nr (F 36) (F 35) Z Z Z ak.1 ak.2) Q.x ?_);refine wpAnyH_done Z ?_ _;have av:=hid Q;have ah:=hid T;clear Q al ak an t5 au ag bl ca bn bm a8 hS t bu T;obtain ⟨aw,aq⟩:∃ x:nI,x={ dd with Ws:=dd.Ws ++ [nD d.Ws k] }:=⟨_,rfl⟩
     have bp:Hid (aw.Ws.length=k+1):=hid (by rw [aq,← ah.out];exact lD);rw [← aq] at av;clear aq ah;go_simp;go_wp2;go_roundw
     case rel=>exact ⟨k+1,aw,_,A,aW,bp.out,av.out⟩
     case measure=>simp [intOf];omega
    ·rintro v5 N ⟨ua,uc,rfl,au,ag⟩
     have t5:=t.below ag;rw [← bm] at au;refine ⟨t5.x,?_⟩;refine nT (i:=1) (j:=8) Z (kM (i:=1) (d:=U 27) (v:=u.vW) (w':=N) (l':=bt 12 255) rfl Z Z Z (rO (F 26) Z Z (a8 _ t5)) t5.x ?_) (kM (i:=8) (d:=U 34) (v:=K (U ⟨N.heap.size,0,C⟩) 1 1) (w':=(N.alloc (aH (lZ (nD d.Ws k) (K ua (nD d.Ws k).ss.length uc)).toArray 127))) (l':=bt 12 509) rfl Z Z Z (Nw (F 33) Z Z) (t5.below kQ).x ?_)
     ·refine kF Z (kM (i:=8) (d:=U 34) (v:=K (U ⟨N.heap.size,0,C⟩) 1 1) (w':=(N.alloc (aH (lZ (nD d.Ws k) (K ua (nD d.Ws k).ss.length uc)).toArray 127))) (l':=bt 12 511) rfl Z Z Z (Nw (F 33) Z Z) (t5.below kQ).x ?_)
      obtain ⟨a9,c9,w9,an,ak,al,Q⟩:=t5.step bn au bl A;rw [T] at an Q;refine kF Z (kM (i:=9) (d:=U 35) (v:=K a9 (k+1) c9) (w':=w9) (l':=bt 12 1023) rfl Z Z Z (mX (F 27) (F 34) 72 72 72 Z Z Z Z an) al ?_);refine jZ (i:=10) (d:=U 36) (v:=aG (U ⟨P,14,C⟩)) (l':=bt 12 2047) rfl (fun _ _=>Z) al ?_;refine kF Z (lI (i:=11) (w':=w9.setCell ⟨P,14,C⟩ (K a9 (k+1) c9)) (l':=bt 12 4095) rfl Z Z Z (Nr (F 36) (F 35) Z Z Z ak.1 ak.2) Q.x ?_);refine wpAnyH_done Z ?_ _;have av:=hid Q;have ah:=hid T;clear Q al ak an t5 au ag bl ca bn bm a8 hS t bu T;obtain ⟨aw,aq⟩:∃ x:nI,x={ dd with Ws:=dd.Ws ++ [nD d.Ws k] }:=⟨_,rfl⟩
      have bp:Hid (aw.Ws.length=k+1):=hid (by rw [aq,← ah.out];exact lD);rw [← aq] at av;clear aq ah;go_simp;go_wp2;go_roundw
      case rel=>exact ⟨k+1,aw,_,A,aW,bp.out,av.out⟩
      case measure=>simp [intOf];omega
     ·refine kF Z (kM (i:=1) (d:=U 27) (v:=u.vW) (w':=(N.alloc (aH (lZ (nD d.Ws k) (K ua (nD d.Ws k).ss.length uc)).toArray 127))) (l':=bt 12 511) rfl Z Z Z (rO (F 26) Z Z (a8 _ (t5.below kQ))) (t5.below kQ).x ?_)
      obtain ⟨a9,c9,w9,an,ak,al,Q⟩:=t5.step bn au bl A;rw [T] at an Q;refine kF Z (kM (i:=9) (d:=U 35) (v:=K a9 (k+1) c9) (w':=w9) (l':=bt 12 1023) rfl Z Z Z (mX (F 27) (F 34) 72 72 72 Z Z Z Z an) al ?_);refine jZ (i:=10) (d:=U 36) (v:=aG (U ⟨P,14,C⟩)) (l':=bt 12 2047) rfl (fun _ _=>Z) al ?_;refine kF Z (lI (i:=11) (w':=w9.setCell ⟨P,14,C⟩ (K a9 (k+1) c9)) (l':=bt 12 4095) rfl Z Z Z (Nr (F 36) (F 35) Z Z Z ak.1 ak.2) Q.x ?_);refine wpAnyH_done Z ?_ _;have av:=hid Q;have ah:=hid T;clear Q al ak an t5 au ag bl ca bn bm a8 hS t bu T;obtain ⟨aw,aq⟩:∃ x:nI,x={ dd with Ws:=dd.Ws ++ [nD d.Ws k] }:=⟨_,rfl⟩
      have bp:Hid (aw.Ws.length=k+1):=hid (by rw [aq,← ah.out];exact lD);rw [← aq] at av;clear aq ah;go_simp;go_wp2;go_roundw
      case rel=>exact ⟨k+1,aw,_,A,aW,bp.out,av.out⟩
      case measure=>simp [intOf];omega
   ·obtain rfl:k=d.Ws.length:=by omega
    clear bw ei ef;have R9:=x.x.r;have ah:=hid T;clear T;go_wp2_with (first | (refine kY rfl 75 (F 3) rfl P _ rfl x.c underlying75 rfl Tryz.sizeWo ?_) | (refine jY rfl 75 (F 2) (F 37) rfl (w.heap.size+1) kX _ rfl rfl R9 rfl Tryz.sizeWo (mW x.s) ?_;intro bo eg eh))
    exact bodyPost_ret (lK 75 2 results63 rfl eg underlying75 rfl Tryz.sizeWo) rfl (x.fin eh)
end
def KE:List Value:=[I Y 0,I Y 0,I Y 0,I Y 0]
theorem Tryz.sizeEv:(prog.info? 110).map (·.size)=U 4:=Z
structure EvS (w:World) (g k:Nat) (wr:World):Prop where
 A:CF wr w.heap.size KE
 rd:RD wr g k
 gr:w.grownBy wr (U g)
 ord:g<w.heap.size∧w.heap.size<wr.heap.size
theorem EvS.pick {w':World} (h:EvS w g k wr) (d:RD w' g k') (a:wr.grownBy w' (U g)):EvS w g k' w' :=
 have c:=h.ord
 ⟨h.A.block (a.block _ (by omega) aQ),d,grownBy_trans h.gr a,c.1,lu c.2 a.size⟩
theorem EvS.more (h:EvS w g k wr) (a:k≤k'):EvS w g k' wr:=⟨h.A,h.rd.mono a,h.gr,h.ord⟩
def abt (e:Ending):Prop:=∃ f a c d:Int,e=aO (aI #[I Y f,I Y a,I Y c,I Y d])
theorem EvS.fin {w10:World} (h:EvS w g k wr) (j d f i:Int) (a:wr.grownBy w10 (U w.heap.size)):abt (aO (aI [I Y j,I Y d,I Y f,I Y i].toArray))∧RD w10 g k∧w.grownBy w10 (U g) :=
 have o:=h.ord
 ⟨⟨j,d,f,i,rfl⟩,h.rd.grown a (fun q c=>by injection c with c;omega),⟨a.os.trans h.gr.os,a.tape.trans h.gr.tape,a.output.trans h.gr.output,lH h.gr.size a.size,fun q c l=>(a.block q (lu c h.gr.size) (fun e=>O)).trans (h.gr.block q c l)⟩⟩
theorem F5 {f c d e:Int}:∀ v∈[I Y f,I Y c,I Y d,I Y e],v.oneCell'=true:=by
 intro v a;simp only [mG,mF,or_false] at a;rcases a with rfl | rfl | rfl | rfl <;> rfl
theorem Vx (g k:Nat) (w:World) (h:RD w g k) (hk:k≤900000) :
  Calls prog 60 #[aG (U ⟨g,0,C⟩)] w fun e w'=>abt e∧RD w' g (k+6)∧w.grownBy w' (U g):=by
 have ae:=h.lt;obtain ⟨W, t⟩ := kC (w.alloc (aH KE.toArray 110));have L:EvS w g k W:=by
  rw [t];exact ⟨CF.made w KE.toArray _,h.keep (fun q hq=>kU _ _ _ A),FZ (lJ _ _),ae,D⟩
 have Q:=hid (show W=w.alloc (aH #[I Y 0,I Y 0,I Y 0,I Y 0] 110) from t);clear t;go_enter func60,ntmps60
 go_wp2_with fail
 rw [← Q.out];clear Q;refine (pick_any g 24 k _ L.rd A A A).mono ?_;rintro e1 w1 ⟨⟨p,a8,rfl⟩,af,V⟩;have M:=L.pick af V;clear L af V h ae;go_wp2_with fail
 refine (pick_any g 40 (k+1) _ M.rd A A A).mono ?_;rintro e2 w2 ⟨⟨a1,ak,rfl⟩,ag,X⟩;have N:=M.pick ag X;clear M ag X;go_wp2_with fail
 refine (pick_any g 2 (k+2) _ N.rd A A A).mono ?_;rintro e3 w3 ⟨⟨r3,al,rfl⟩,ah,aa⟩;have s:=N.pick ah aa;clear N ah aa;go_upto_if 11 with fail
 go_cut [4] (fun c wx=>∃ a:Nat,c=I Y a∧EvS w g (k+4) wx)
 case first =>
  by_cases h0:r3=0
  ·subst h0
   go_wp2_with fail
   refine (pick_any g 4 (k+3) _ s.rd A A A).mono ?_;rintro e4 w4 ⟨⟨a4,a7,rfl⟩,ai,ab⟩;have J:=hid (s.pick ai ab);clear s ai ab;go_wp2_with fail
   go_meet
   case rel=>exact ⟨a4,rfl,J.out⟩
  ·have a6:¬ (r3:Int)=0:=by omega
   have J:=hid s;clear s;go_wp2;go_meet
   case rel=>exact ⟨a1,rfl,J.out.more A⟩
 case rest =>
  obtain ⟨a,rfl,S⟩:=hcut;clear s ak al;obtain ⟨W, t⟩ := kC wc;rw [← t] at S ⊢;clear t;by_cases an:(p:Int)<9
  ·have d:=S.A
   go_wp2_with (refine jY rfl 110 (F 2) (F 16) rfl w.heap.size KE [I Y 1,I Y 0,I Y 0,I Y 0] rfl rfl d rfl Tryz.sizeEv (F5) ?_;intro r f i)
   exact bodyPost_ret (lK 110 2 results60 rfl f underlying110 rfl Tryz.sizeEv) rfl ((S.more A).fin _ _ _ _ i)
  ·skip
   by_cases aq:(p:Int)<17
   ·have d:=S.A
    go_wp2_with (refine jY rfl 110 (F 2) (F 20) rfl w.heap.size KE [I Y 2,I Y (a:Nat),I Y 0,I Y 0] rfl rfl d rfl Tryz.sizeEv (F5) ?_;intro r f i)
    exact bodyPost_ret (lK 110 2 results60 rfl f underlying110 rfl Tryz.sizeEv) rfl ((S.more A).fin _ _ _ _ i)
   ·skip
    by_cases au:(p:Int)=17
    ·have d:=S.A
     go_wp2_with (refine jY rfl 110 (F 2) (F 24) rfl w.heap.size KE [I Y 3,I Y (a:Nat),I Y 0,I Y 0] rfl rfl d rfl Tryz.sizeEv (F5) ?_;intro r f i)
     exact bodyPost_ret (lK 110 2 results60 rfl f underlying110 rfl Tryz.sizeEv) rfl ((S.more A).fin _ _ _ _ i)
    ·skip
     by_cases av:(p:Int)=18
     ·have d:=S.A
      go_wp2_with (refine jY rfl 110 (F 2) (F 28) rfl w.heap.size KE [I Y 4,I Y (a:Nat),I Y 0,I Y 0] rfl rfl d rfl Tryz.sizeEv (F5) ?_;intro r f i)
      exact bodyPost_ret (lK 110 2 results60 rfl f underlying110 rfl Tryz.sizeEv) rfl ((S.more A).fin _ _ _ _ i)
     ·skip
      by_cases aw:(p:Int)=19
      ·go_wp2_with fail
       refine (pick_any g 40 (k+4) _ S.rd A A A).mono ?_;rintro R w5 ⟨⟨H,T,rfl⟩,o,l⟩;have j:=S.pick o l;clear S o l;go_wp2_with fail
       refine (pick_any g 300 (k+5) _ j.rd A A A).mono ?_;rintro e6 w6 ⟨⟨P,h6,rfl⟩,z,v⟩;have u:=j.pick z v;clear j z v;have d:=u.A;go_wp2_with (refine jY rfl 110 (F 2) (F 36) rfl w.heap.size KE [I Y 5,I Y (a:Nat),I Y (H:Nat),I Y (P:Nat)] rfl rfl d rfl Tryz.sizeEv (F5) ?_;intro r f i)
       exact bodyPost_ret (lK 110 2 results60 rfl f underlying110 rfl Tryz.sizeEv) rfl ((u.more A).fin _ _ _ _ i)
      ·skip
       by_cases ax:(p:Int)<22
       ·go_wp2_with fail
        refine (pick_any g 4 (k+4) _ S.rd A A A).mono ?_;rintro R w5 ⟨⟨H,T,rfl⟩,o,l⟩;have j:=S.pick o l;clear S o l;go_wp2_with fail
        refine (pick_any g 4 (k+5) _ j.rd A A A).mono ?_;rintro e6 w6 ⟨⟨P,h6,rfl⟩,z,v⟩;have u:=j.pick z v;clear j z v;have d:=u.A;go_wp2_with (refine jY rfl 110 (F 2) (F 43) rfl w.heap.size KE [I Y 6,I Y (H:Nat),I Y (P:Nat),I Y 0] rfl rfl d rfl Tryz.sizeEv (F5) ?_;intro r f i)
        exact bodyPost_ret (lK 110 2 results60 rfl f underlying110 rfl Tryz.sizeEv) rfl ((u.more A).fin _ _ _ _ i)
       ·skip
        by_cases ay:(p:Int)=22
        ·have d:=S.A
         go_wp2_with (refine jY rfl 110 (F 2) (F 46) rfl w.heap.size KE [I Y 7,I Y 0,I Y 0,I Y 0] rfl rfl d rfl Tryz.sizeEv (F5) ?_;intro r f i)
         exact bodyPost_ret (lK 110 2 results60 rfl f underlying110 rfl Tryz.sizeEv) rfl ((S.more A).fin _ _ _ _ i)
        ·skip
         go_wp2_with fail
         refine (pick_any g 4 (k+4) _ S.rd A A A).mono ?_;rintro R w5 ⟨⟨H,T,rfl⟩,o,l⟩;have j:=S.pick o l;clear S o l;have d:=j.A;go_wp2_with (refine jY rfl 110 (F 2) (F 49) rfl w.heap.size KE [I Y 7,I Y (H:Nat),I Y 0,I Y 0] rfl rfl d rfl Tryz.sizeEv (F5) ?_;intro r f i)
         exact bodyPost_ret (lK 110 2 results60 rfl f underlying110 rfl Tryz.sizeEv) rfl ((j.more A).fin _ _ _ _ i)
section
theorem Qr (e:Code ts 0) (c:1≤wk) (d:wk≤8):told (DY wk) ts 0 (List.replicate ts.length ⟨#[]⟩):=by
 have a:=U8 e;exact ⟨rfl,dJ,A,A,D,fun s f=>by rw [List.eq_of_mem_replicate f];show 0≤8;omega,a.1,a.2,c,d⟩
theorem YM (wk:Int):(DY wk).fits:=⟨fun s c=>absurd c dJ,fun s c=>absurd c dJ,fun s c=>absurd c dJ,fun j a=>absurd a dJ,fun j a=>absurd a dJ,fun j a=>absurd a dJ⟩
theorem Zq:rM.fits:=⟨fun s c=>absurd c bT,fun s c=>absurd c bT,fun s c=>absurd c bT,fun j a=>absurd a bT,fun j a=>absurd a bT,fun j a=>absurd a bT⟩
theorem NP (n j:Nat):(List.replicate n kH).getD j kH=kH:=by
 by_cases h:j<n
 ·simp [List.getD,h]
 ·simp [List.getD,List.getElem?_eq_none (show (List.replicate n kH).length≤j by simp;omega)]
theorem aaR (n:Nat):qV (xR n) (List.replicate n kH)=JV n:=by
 have c:(xR n).length=n:=by simp [xR]
 unfold qV JV;rw [c];refine Qa _ _ _ (fun j a=>?_);rw [NP,Lj (List.mem_range.1 a)];rfl
theorem adG {i:List kJ} {r:ByteArray} {f:BD} {t:Value} (h:WoO w B i vP vs f bh n t) (u:newR ts key wk i r f n) (L:IX ts) (M:ts.length+qF ts≤1048576) (H:key.size≤1048576) :
  qx w B ⟨i,r,f,xR n,[],⟨#[]⟩⟩ ⟨vP,vs,bh,t,List.replicate n kH,kH⟩∧Ah ⟨i,r,f,xR n,[],⟨#[]⟩⟩:=by
 have o:(xR n).length=n:=by simp [xR]
 have N:n≤8:=by
  rcases u with ⟨a,_,_,_,rfl⟩ | ⟨_,_,_,_,rfl⟩
  ·have:=a.2.1;omega
  ·omega
 refine ⟨⟨h.pl,h.bo,⟨by simp [xR],?_,fun j c=>?_,fun j c=>?_,fun j c=>?_,by show (xR n).length≤8;omega⟩,Own.nil _ _ _,fun q p z=>?_⟩,?_⟩
 ·show Own B w 11 t (xR n).length (qV (xR n) (List.replicate n kH))
  rw [aaR,o];exact h.cr
 ·show Own B w 1 ((List.replicate n kH).getD j kH) (nD (xR n) j).ss.length ((nD (xR n) j).ss.map E)
  rw [NP,Lj (by rw [← o];exact c)];exact Own.nil _ _ _
 ·show Dn ((List.replicate n kH).getD j kH).ownBlock _
  rw [NP];exact .inl rfl
 ·show EN (nD (xR n) j)
  rw [Lj (by rw [← o];exact c)];exact ⟨fun s J=>absurd J D,D⟩
 ·have k:∀ {x y:Option Nat},Dn x y→x=U q→y=U q→False:=fun e l v=>by
   rcases e with e | e
   ·rw [e] at l;cases l
   ·exact e (l.trans v.symm)
  rcases z with d | ⟨j,c,d⟩ | d | d
  ·exact k h.d2.1 d p
  ·exact k (h.d2.2 j c) d p
  ·exact k (h.d3 _ d) rfl p
  ·cases d
 ·have g:ET []:=⟨D,fun x g=>absurd g D⟩
  rcases u with ⟨a,rfl,rfl,rfl,rfl⟩ | ⟨_,rfl,rfl,rfl,rfl⟩
  ·exact ⟨L,M,OG (Qr a.1 a.2.1.1 a.2.1.2) (YM wk),OE (Qr a.1 a.2.1.1 a.2.1.2),g,H⟩
  ·exact ⟨fun j c=>absurd c D,by simp [qF],Zq,rM.tiny,g,by show 0≤1048576;omega⟩
structure DJ (w:World) (g k Q:Nat) (d:nI) (h:oO) (W:World):Prop where
 A:CF W w.heap.size kX
 rd:RD W g k
 gr:w.grownBy W (U g)
 c:CF W Q (mg d h)
 s:qx W 0 d h
 g':Ah d
 p:g<w.heap.size∧w.heap.size<Q∧Q<W.heap.size
 n:∀ q,WB d h q→q≠Q∧w.heap.size<q
def RF (w:World) (Q:Nat):Nat→Prop:=fun q=>q≤w.heap.size∨q=Q
section
variable {w W W' w1 w2:World} {g k k' Q:Nat} {d d':nI} {h h':oO}
theorem DJ.f (x:DJ w g k Q d h W):(∀ q,RF w Q q→q<W.heap.size)∧∀ q,WB d h q→¬ RF w Q q:=by
 have:=x.p;refine ⟨fun q a=>?_,fun q hw a=>?_⟩
 ·rcases a with a | a <;> omega
 ·have c:=x.n q hw
  rcases a with a | a <;> omega
theorem DJ.pick (x:DJ w g k Q d h W) (o:RD W' g k') (f:W.grownBy W' (U g)):DJ w g k' Q d h W' :=
 have a:=x.p;have i:∀ q,w.heap.size≤q→q<W.heap.size→W'.heap[q]?=W.heap[q]?:=fun q r l=>f.block q l (fun e=>O)
 ⟨x.A.block (i _ (by omega) (by omega)),o,grownBy_trans x.gr f,x.c.block (i _ (by omega) a.2.2),x.s.keep (fun q j=>i q (by have:=x.n q j;omega) (x.s.lt j).2),x.g',⟨a.1,a.2.1,lu a.2.2 f.size⟩,x.n⟩
theorem DJ.more (x:DJ w g k Q d h W) (a:k≤k'):DJ w g k' Q d h W:=⟨x.A,x.rd.mono a,x.gr,x.c,x.s,x.g',x.p,x.n⟩
structure RT (w:World) (g k Q:Nat) (d:nI) (h:oO) (W:World):Prop where
 A:CF W w.heap.size kX
 rd:RD W g k
 gr:w.grownBy W (U g)
 c:∃ cs:List Value,cs.length=17∧CF W Q cs
 s:qx W 0 d h
 g':Ah d
 p:g<w.heap.size∧w.heap.size<Q∧Q<W.heap.size
 n:∀ q,WB d h q→¬ RF w Q q
theorem RT.f (x:RT w g k Q d h W):(∀ q,RF w Q q→q<W.heap.size)∧∀ q,WB d h q→¬ RF w Q q:=by
 have:=x.p;exact ⟨fun q a=>by rcases a with a | a <;> omega,x.n⟩
theorem DJ.t (x:DJ w g k Q d h W):RT w g k Q d h W:=⟨x.A,x.rd,x.gr,⟨_,rfl,x.c⟩,x.s,x.g',x.p,x.f.2⟩
theorem RT.call (x:RT w g k Q d h W) (s:qx w1 0 d' h') (i:Ah d') (r:∀ q,WB d' h' q→¬ RF w Q q) (fr:Fr (RF w Q) W w1):RT w g k Q d' h' w1:=by
 have f:=x.p;have e:∀ q,q≤w.heap.size→w1.heap[q]?=W.heap[q]?:=fun q a=>fr.k q (.inl a);obtain ⟨cs,l,j⟩:=x.c;exact ⟨x.A.block (e _ kL),x.rd.keep (fun q a=>e q (by omega)),⟨fr.z.os.trans x.gr.os,fr.z.tape.trans x.gr.tape,fr.z.output.trans x.gr.output,lH x.gr.size fr.z.size,fun q a o=>(e q (by omega)).trans (x.gr.block q a o)⟩,⟨cs,l,j.block (fr.k Q (.inr rfl))⟩,s,i,⟨f.1,f.2.1,lu f.2.2 fr.z.size⟩,r⟩
theorem RT.put (x:RT w g k Q d h W) (c:W.grownBy W' (U Q)) (o:CF W' Q (mg d h)):DJ w g k Q d h W':=by
 have i:=x.p;have j:∀ q,WB d h q→q≠Q∧w.heap.size<q:=fun q a=>⟨fun e=>x.n q a (.inr e),Nat.lt_of_not_le fun e=>x.n q a (.inl e)⟩
 have f:∀ q,q<W.heap.size→q≠Q→W'.heap[q]?=W.heap[q]?:=fun q l t=>c.block q l (fun e=>O);exact ⟨x.A.block (f _ (by omega) (by omega)),x.rd.keep (fun q a=>f q (by omega) (by omega)),⟨c.os.trans x.gr.os,c.tape.trans x.gr.tape,c.output.trans x.gr.output,lH x.gr.size c.size,fun q a r=>(f q (by have:=x.gr.size;omega) (by omega)).trans (x.gr.block q a r)⟩,o,x.s.keep (fun q a=>f q (x.s.lt a).2 (j q a).1),x.g',⟨i.1,i.2.1,lu i.2.2 c.size⟩,j⟩
end
theorem UQ (v1:Value) (w:World):Sem.run prog (callFunc 60 #[v1]) w=.ok (.enter 60 #[v1]) w:=Z
theorem UU (v1 v2:Value) (w:World):Sem.run prog (callFunc 59 #[v1,v2]) w=.ok (.enter 59 #[v1,v2]) w:=Z
theorem NW (v1 v2 v3:Value) (w:World):Sem.run prog (callFunc 58 #[v1,v2,v3]) w=.ok (.enter 58 #[v1,v2,v3]) w:=Z
theorem mZ (v1 v2:Value) (w:World):Sem.run prog (callFunc 17 #[v1,v2]) w=.ok (.enter 17 #[v1,v2]) w:=Z
def REv (W:World) (g k:Nat) (v:Value) (w':World):Prop:=(∃ e a c d:Int,v=aI #[I Y e,I Y a,I Y c,I Y d])∧RD w' g k∧W.grownBy w' (U g)
theorem adf (h:RD W g k) (p:k≤900000):Calls prog 60 #[aG (U ⟨g,0,C⟩)] W fun e a=>∃ v,e=aO v∧REv W g (k+6) v a :=
 (Vx g k W h p).mono fun e a o=>by
  obtain ⟨⟨i,c,d,f,rfl⟩,j,l⟩:=o;exact ⟨_,rfl,⟨i,c,d,f,rfl⟩,j,l⟩
def RWd (w W:World) (Q:Nat) (v:Value) (w':World):Prop:=∃ d h,v=aI (mg d h).toArray∧qx w' 0 d h∧Ah d∧(∀ q,WB d h q→¬ RF w Q q)∧Fr (RF w Q) W w'
theorem adp {d:nI} {h:oO} (x:RT w g k Q d h W) (j a c i:Int):Calls prog 59 #[aI (mg d h).toArray,aI #[I Y j,I Y a,I Y c,I Y i]] W fun e l=>∃ v,e=aO v∧RWd w W Q v l :=
 (aau d h j a c i (RF w Q) W x.s x.g' x.f.1 x.f.2).mono fun e l p=>by
  obtain ⟨⟨d',h',rfl,r,o,q⟩,fr⟩:=p;exact ⟨_,rfl,d',h',rfl,r,o,q,fr⟩
def uI (W:World) (g k m:Nat) (v:Value) (w':World):Prop:=(∃ r:Nat,r<m∧v=I Y r)∧RD w' g (k+1)∧W.grownBy w' (U g)
theorem qG (m:Nat) (h:RD W g k) (o:k≤900000) (c:1≤m) (d:m≤1000000):Calls prog 17 #[aG (U ⟨g,0,C⟩),I Y m] W fun e a=>∃ v,e=aO v∧uI W g k m v a :=
 (pick_any g m k W h A c d).mono fun e a j=>by
  obtain ⟨⟨r,l,rfl⟩,f,i⟩:=j;exact ⟨_,rfl,⟨r,l,rfl⟩,f,i⟩
structure NB (w:World) (g k Pp:Nat) (pa:Option Addr) (qC:Nat) (ts:List kJ) (vs:List Value) (W:World):Prop where
 A:CF W w.heap.size kX
 rd:RD W g k
 gr:w.grownBy W (U g)
 pl:lF W (w.heap.size+1) (K pa ts.length qC) ts vs
 pp:CF W Pp [K pa ts.length qC]
 p:g<w.heap.size∧w.heap.size<Pp∧Pp<W.heap.size
section
variable {w W W':World} {g k k' Pp qC:Nat} {pa:Option Addr} {ts:List kJ} {vs:List Value}
theorem NB.below (x:NB w g k Pp pa qC ts vs W) (a:Below W.heap.size W W'):NB w g k Pp pa qC ts vs W' :=
 have c:=x.p
 ⟨x.A.block (a.block _ (by omega)),x.rd.below a,grownBy_trans x.gr (grownBy_below a),x.pl.below a,x.pp.block (a.block _ c.2.2),⟨c.1,c.2.1,lu c.2.2 a.size⟩⟩
theorem NB.pick (x:NB w g k Pp pa qC ts vs W) (l:RD W' g k') (f:W.grownBy W' (U g)):NB w g k' Pp pa qC ts vs W' :=
 have d:=x.p;have c:∀ q,w.heap.size≤q→q<W.heap.size→W'.heap[q]?=W.heap[q]?:=fun q o i=>f.block q i (fun e=>O)
 ⟨x.A.block (c _ (by omega) (by omega)),l,grownBy_trans x.gr f,x.pl.MJ (fun q a=>c q (by have:=x.pl.row.ku q a;omega) (x.pl.row.kD q a)) (fun j h q a=>c q (by have:=(x.pl.dep j h).ku q a;omega) ((x.pl.dep j h).kD q a)),x.pp.block (c _ (by omega) d.2.2),⟨d.1,d.2.1,lu d.2.2 f.size⟩⟩
theorem NB.new {d:nI} {h:oO} (x:NB w g k Pp pa qC ts vs W) (s:qx W B d h) (i:Ah d) (t:w.heap.size<B) (hQ:w.heap.size<Q∧Q<W.heap.size∧Q≠Pp) (o:∀ q,WB d h q→q≠Q) (r:CF W Q kX) (a:W.grownBy W' (U Q)) (j:CF W' Q (mg d h)):DJ w g k Q d h W'∧W'.cell? ⟨Pp,0,C⟩=U (K pa ts.length qC) :=
 have c:=x.p
 ⟨RT.put ⟨x.A,x.rd,x.gr,⟨kX,rfl,r⟩,s.mono (lG _),i,⟨c.1,hQ.1,hQ.2.1⟩,fun q f l=>l.elim (fun e=>by have:=(s.lt f).1;omega) (fun e=>o q f e)⟩ a j,(x.pp.block (a.block _ c.2.2 (fun e=>O)) 0 D).1⟩
def RNw (W:World) (v:Value) (w':World):Prop:=∃ d h,v=aI (mg d h).toArray∧qx w' W.heap.size d h∧Ah d∧Below W.heap.size W w'
theorem NB.call (x:NB w g k Pp pa qC ts vs W) (a:I7 ts) (p:ts.length≤40) (wk:Int):Calls prog 58 #[aI #[K pa ts.length qC],E ⟨#[107,101,121]⟩,I Y wk] W fun e d=>∃ v,e=aO v∧RNw W v d:=by
 have c:ts.length+qF ts≤1048576:=by
  have:=a.qF ts.length kL;rw [LK] at this;omega
 obtain ⟨b,o,j⟩:=x.pl.tasks' a.fit G;refine (ZG pa b o ts.length qC ts ⟨#[107,101,121]⟩ wk W j c (by show 3≤_;omega)).mono ?_;rintro e d ⟨⟨r,q,l,n,vP,t,bh,s,rfl,f,i⟩,h⟩;have hw:=adG f i a.fit c (by show 3≤_;omega);exact ⟨_,rfl,_,_,rfl,hw.1,hw.2,h⟩
theorem DJ.below {d:nI} {h:oO} (x:DJ w g k Q d h W) (a:Below W.heap.size W W'):DJ w g k Q d h W' :=
 have e:=x.p
 ⟨x.A.block (a.block _ (by omega)),x.rd.below a,grownBy_trans x.gr (grownBy_below a),x.c.block (a.block _ e.2.2),x.s.below a,x.g',⟨e.1,e.2.1,lu e.2.2 a.size⟩,x.n⟩
theorem DJ.fin {d d':nI} {h h':oO} {w1 w2:World} (x:DJ w g k Q d h W) (o:Below W.heap.size W w1) (s:qx w1 W.heap.size d' h') (j:Ah d') (t:PBd d' h') (c:w1.grownBy w2 (U w.heap.size)):TG (aO (aI (mg d' h').toArray)) w.heap.size w2∧RD w2 g k∧w.grownBy w2 (U g):=by
 have a:=x.below o;have v:=x.p;have i:∀ q,q<w1.heap.size→q≠w.heap.size→w2.heap[q]?=w1.heap[q]?:=fun q l u=>c.block q l (fun e=>O);refine ⟨⟨d',h',rfl,(s.keep (fun q f=>i q (s.lt f).2 (by have:=(s.lt f).1;omega))).mono (by omega),j,t⟩,a.rd.keep (fun q f=>i q (by have:=a.p;omega) (by omega)),⟨c.os.trans a.gr.os,c.tape.trans a.gr.tape,c.output.trans a.gr.output,lH a.gr.size c.size,fun q f r=>(i q (by have:=a.gr.size;omega) (by omega)).trans (a.gr.block q f r)⟩⟩
end
section
variable {ρ:Operand→Value} {o:Oper} {w:World}
theorem Yz (x:Operand) (r:Nat) (d:r≤1000) (h:o.op=.binOp .add 3 (.const (I Y 1)) x 3) (c:ρ x=I Y (r:Nat)) (a:ρ (.const (I Y 1))=I Y 1):(execOp ρ o).run prog w=.ok (.value (I Y (1+(r:Int)))) w:=by
 have:IntKind.i64.wrap (1+(r:Int))=1+(r:Int):=bF;unfold execOp;rw [h];simp [go_sem,c,a,this]
end
theorem Kw (g k:Nat) (h:RD w g k) (hk:k≤800000) :
  Calls prog 38 #[aG (U ⟨g,0,C⟩)] w fun e w'=>TG e w.heap.size w'∧RD w' g (k+6000)∧w.grownBy w' (U g):=by
 have b0:=h.lt;obtain ⟨W, X⟩ := kC (w.alloc (aH kX.toArray 75));have A0:CF W w.heap.size kX:=by rw [X];exact CF.made w kX.toArray _
 have bn:RD W g k:=by rw [X];exact h.keep (fun q H=>kU _ _ _ A)
 have bc:w.grownBy W (U g):=by rw [X];exact FZ (lJ _ _)
 have zW:W.heap.size=w.heap.size+1:=by rw [X];simp
 simp only [kX] at X;have HW:=hid X;clear X h;go_enter func38,ntmps38
 go_wp2_with fail
 rw [← HW.out];clear HW;refine (XL g k bn A).mono ?_;rintro e1 w1 ⟨⟨v,ts,vs,rfl,hp,bl,-,bg,P⟩,ab,g1⟩;obtain ⟨pa,qC,rfl⟩:=hp.row.slc;have b4:=g1.size;obtain ⟨Pp, aq⟩ := kC w1.heap.size;obtain ⟨W2, ai⟩ := kC (w1.alloc (aH #[K pa ts.length qC] 33));have x2:NB w g (k+5000) Pp pa qC ts vs W2:=by
  have hb:Below w1.heap.size w1 W2:=by rw [ai];exact kQ
  refine ⟨(A0.block (g1.block _ A (fun e=>O))).block (hb.block _ A),ab.below hb,grownBy_trans (grownBy_trans bc g1) (grownBy_below hb),(hp.below hb).mono A,by rw [ai,aq];exact CF.made w1 #[K pa ts.length qC] _,⟨b0,A,by rw [ai,aq];simp⟩⟩
 have a6:=hid ai;have ay:=hid aq;have af:=hid bl;have HL:=hid (And.intro bg P);clear ai aq hp ab g1 b4 A0 bn bc zW bl bg P;go_upto_region 2 with fail
 rw [← a6.out,← ay.out];have bu:Hid (g<Pp):=hid (by have:=x2.p;omega);clear a6 ay;go_cut [4] (fun c wx=>∃ Q d h,c=aG (U ⟨Q,0,C⟩)∧DJ w g (k+5001) Q d h wx∧wx.cell? ⟨Pp,0,C⟩=U (K pa ts.length qC))
 case first =>
  have P:=HL.out.2;refine wp_region_held (S:=fun w'=>w'.cell? ⟨Pp,0,C⟩=U (K pa ts.length qC)) Z ?_;change wpAnyH _ _ _ _ _ _ _ _ (World.drew _);obtain ⟨wd, ae⟩ := kC W2.drew;have t:=x2.below (show Below W2.heap.size W2 wd by rw [ae];exact mD.drew);rw [← ae];clear ae x2;have l:∀ {V:World} {j:Nat},NB w g j Pp pa qC ts vs V→V.cell? ⟨Pp,0,C⟩=U (K pa ts.length qC):=fun hh=>(hh.pp 0 D).1;refine jZ (i:=0) (d:=U 9) (v:=aI #[K pa ts.length qC]) (l':=bt 7 1) rfl (fun _ hh=>pK (F 3) Z Z hh) (l t) ?_;refine jZ (i:=1) (d:=U 10) (v:=aG (U ⟨g,0,C⟩)) (l':=bt 7 3) rfl (fun _ _=>Z) (l t) ?_;refine nT (i:=2) (j:=5) Z (kZ (i:=2) (d:=U 11) (f:=17) (args:=#[aG (U ⟨g,0,C⟩),I Y (3:Nat)]) (l':=bt 7 7) (R:=uI wd g (k+5000) 3) rfl Z Z Z (lT _ _ _ rfl Z Z rfl mZ) (qG 3 t.rd A A A) ?_) (kM (i:=5) (d:=U 4) (v:=aG (U ⟨wd.heap.size,0,C⟩)) (w':=wd.alloc (aH kX.toArray 75)) (l':=bt 7 35) rfl Z Z Z (Ei Z) (l (t.below kQ)) ?_)
  ·rintro v1 w1 ⟨⟨r1,bk,rfl⟩,ab,g1⟩
   have t1:=t.pick ab g1;have s1:=g1.size;refine ⟨l t1,?_⟩;refine jZ (i:=3) (d:=U 12) (v:=I Y (1+(r1:Int))) (l':=bt 7 15) rfl (fun _ _=>Yz (F 11) r1 A Z Z Z) (l t1) ?_;refine nT (i:=4) (j:=5) Z (kZ (i:=4) (d:=U 13) (f:=58) (args:=#[aI #[K pa ts.length qC],E ⟨#[107,101,121]⟩,I Y (1+(r1:Int))]) (l':=bt 7 31) (R:=RNw w1) rfl Z Z Z (JF _ _ _ _ rfl Z Z Z rfl NW) (t1.call af.out P _) ?_) (kM (i:=5) (d:=U 4) (v:=aG (U ⟨w1.heap.size,0,C⟩)) (w':=w1.alloc (aH kX.toArray 75)) (l':=bt 7 47) rfl Z Z Z (Ei Z) (l (t1.below kQ)) ?_)
   ·rintro v2 w2 ⟨d',h',rfl,a,r,ag⟩
    have t2:=t1.below ag;have s2:=ag.size;refine ⟨l t2,?_⟩;refine kF Z (kM (i:=5) (d:=U 4) (v:=aG (U ⟨w2.heap.size,0,C⟩)) (w':=w2.alloc (aH kX.toArray 75)) (l':=bt 7 63) rfl Z Z Z (Ei Z) (l (t2.below kQ)) ?_);obtain ⟨N, an⟩ := kC (w2.alloc (aH kX.toArray 75));have M:Below w2.heap.size w2 N:=by rw [an];exact kQ
    have o:CF N w2.heap.size kX:=by rw [an];exact CF.made w2 kX.toArray _
    have z3:N.heap.size=w2.heap.size+1:=by rw [an];simp
    rw [← an];have t3:=t2.below M;have J:(prog.info? 75).map (·.size)=U (mg d' h').length:=Tryz.sizeWo;have aa:=t3.p;have zd:=t.p;have u:=t3.new (Q:=w2.heap.size) (B:=w1.heap.size) (a.below M) r A ⟨A,A,A⟩ (fun q H=>by have:=(a.lt H).2;omega) o (mY (w2.heap.size) (mg d' h') 0 _ _ (lJ _ _)) (o.stored rfl);refine kF Z (lI (i:=6) (w':=N.setCells (w2.heap.size) 0 (mg d' h')) (l':=bt 7 127) rfl Z Z Z (lM 75 kX _ (F 4) (F 13) Z Z Z o rfl J (mW a)) u.2 ?_);refine wpAnyH_done Z ?_ _;obtain ⟨wz, L⟩ := kC (N.setCells (w2.heap.size) 0 (mg d' h'));rw [← L] at u ⊢;have ah:=hid u;clear L;clear u J aa zd l a r P t t1 s1 ab g1 bk t2 s2 ag t3 M o z3 an af HL;go_simp;go_wp2;go_meet
    case rel=>exact ⟨_,d',h',rfl,ah.out⟩
   ·obtain ⟨w2, al⟩ := kC (w1.alloc (aH kX.toArray 75))
    have ag:Below w1.heap.size w1 w2:=by rw [al];exact kQ
    have C2:CF w2 w1.heap.size kX:=by rw [al];exact CF.made w1 kX.toArray _
    have z2:w2.heap.size=w1.heap.size+1:=by rw [al];simp
    rw [← al];have t2:=t1.below ag;refine kF Z (kZ (i:=4) (d:=U 13) (f:=58) (args:=#[aI #[K pa ts.length qC],E ⟨#[107,101,121]⟩,I Y (1+(r1:Int))]) (l':=bt 7 63) (R:=RNw w2) rfl Z Z Z (JF _ _ _ _ rfl Z Z Z rfl NW) (t2.call af.out P _) ?_);rintro v3 N ⟨d',h',rfl,a,r,M⟩;have t3:=t2.below M;have s3:=M.size;refine ⟨l t3,?_⟩;have o:=C2.block (M.block _ A);have J:(prog.info? 75).map (·.size)=U (mg d' h').length:=Tryz.sizeWo;have aa:=t3.p;have zd:=t.p;have u:=t3.new (Q:=w1.heap.size) (B:=w2.heap.size) (a) r A ⟨A,A,A⟩ (fun q H=>by have:=(a.lt H).1;omega) o (mY (w1.heap.size) (mg d' h') 0 _ _ (lJ _ _)) (o.stored rfl);refine kF Z (lI (i:=6) (w':=N.setCells (w1.heap.size) 0 (mg d' h')) (l':=bt 7 127) rfl Z Z Z (lM 75 kX _ (F 4) (F 13) Z Z Z o rfl J (mW a)) u.2 ?_);refine wpAnyH_done Z ?_ _;obtain ⟨wz, L⟩ := kC (N.setCells (w1.heap.size) 0 (mg d' h'));rw [← L] at u ⊢;have ah:=hid u;clear L;clear u J aa zd l a r P t t1 s1 ab g1 bk t2 ag C2 z2 al t3 s3 M o af HL;go_simp;go_wp2;go_meet
    case rel=>exact ⟨_,d',h',rfl,ah.out⟩
  ·obtain ⟨w1, ak⟩ := kC (wd.alloc (aH kX.toArray 75))
   have bf:Below wd.heap.size wd w1:=by rw [ak];exact kQ
   have C1:CF w1 wd.heap.size kX:=by rw [ak];exact CF.made wd kX.toArray _
   have z1:w1.heap.size=wd.heap.size+1:=by rw [ak];simp
   rw [← ak];have t1:=t.below bf;refine kF Z (kZ (i:=2) (d:=U 11) (f:=17) (args:=#[aG (U ⟨g,0,C⟩),I Y (3:Nat)]) (l':=bt 7 39) (R:=uI w1 g (k+5000) 3) rfl Z Z Z (lT _ _ _ rfl Z Z rfl mZ) (qG 3 t1.rd A A A) ?_);rintro v2 w2 ⟨⟨r2,b3,rfl⟩,bo,g2⟩;have t2:=t1.pick bo g2;have s2:=g2.size;refine ⟨l t2,?_⟩;refine jZ (i:=3) (d:=U 12) (v:=I Y (1+(r2:Int))) (l':=bt 7 47) rfl (fun _ _=>Yz (F 11) r2 A Z Z Z) (l t2) ?_;have C2:=C1.block (g2.block _ A (fun e=>by injection e with e;have:=t.p;omega));refine kF Z (kZ (i:=4) (d:=U 13) (f:=58) (args:=#[aI #[K pa ts.length qC],E ⟨#[107,101,121]⟩,I Y (1+(r2:Int))]) (l':=bt 7 63) (R:=RNw w2) rfl Z Z Z (JF _ _ _ _ rfl Z Z Z rfl NW) (t2.call af.out P _) ?_);rintro v3 N ⟨d',h',rfl,a,r,M⟩;have t3:=t2.below M;have s3:=M.size;refine ⟨l t3,?_⟩;have o:=C2.block (M.block _ A);have J:(prog.info? 75).map (·.size)=U (mg d' h').length:=Tryz.sizeWo;have aa:=t3.p;have zd:=t.p;have u:=t3.new (Q:=wd.heap.size) (B:=w2.heap.size) (a) r A ⟨A,A,A⟩ (fun q H=>by have:=(a.lt H).1;omega) o (mY (wd.heap.size) (mg d' h') 0 _ _ (lJ _ _)) (o.stored rfl);refine kF Z (lI (i:=6) (w':=N.setCells (wd.heap.size) 0 (mg d' h')) (l':=bt 7 127) rfl Z Z Z (lM 75 kX _ (F 4) (F 13) Z Z Z o rfl J (mW a)) u.2 ?_);refine wpAnyH_done Z ?_ _;obtain ⟨wz, L⟩ := kC (N.setCells (wd.heap.size) 0 (mg d' h'));rw [← L] at u ⊢;have ah:=hid u;clear L;clear u J aa zd l a r P t t1 bf C1 z1 ak t2 s2 bo g2 b3 C2 t3 s3 M o af HL;go_simp;go_wp2;go_meet
   case rel=>exact ⟨_,d',h',rfl,ah.out⟩
 case rest =>
  obtain ⟨Q,d,h,rfl,x,aa⟩:=hcut;clear x2;obtain ⟨W, X⟩ := kC wc;rw [← X] at x aa ⊢;clear X;go_wp2_with fail
  refine (pick_any g 40 (k+5001) _ x.rd A A A).mono ?_;rintro e3 N ⟨⟨n0,cb,rfl⟩,bp,g3⟩;have x3:=x.pick bp g3;have b5:N.cell? ⟨Pp,0,C⟩=U (K pa ts.length qC):=(mV (w:=W) (g3.block Pp (Ep _ _ aa) (fun e=>by injection e with e;have:=bu.out;omega))).trans aa;have T:=hid x3;have P:=HL.out.2;clear bp g3 x aa x3;go_upto_if 19 with fail
  go_cut [5] (fun c wx=>∃ m:Nat,c=I Y m∧m≤40∧DJ w g (k+5002) Q d h wx)
  case first =>
   by_cases b8:(20:Int)<(ts.length:Int)
   ·have b9:IntKind.i64.wrap ((n0:Int).tdiv 3)=((n0 / 3:Nat):Int):=by rw [Int.tdiv_eq_ediv_of_nonneg A,IntKind.wrap_i64];omega
    have ca:(3:Int)≠0:=A;go_wp2;go_meet
    case rel=>exact ⟨n0 / 3,rfl,A,T.out⟩
   ·go_wp2_with fail
    go_meet
    case rel=>exact ⟨n0,rfl,A,T.out⟩
  case rest =>
   obtain ⟨m,rfl,hm,x⟩:=hcut;clear T b5 P;have T:=hid x;clear x;go_wp2;go_loopw [6] (fun i wr=>∃ (j:Nat) (d:nI) (h:oO),j≤m∧i=I Y j∧DJ w g (k+5002+j*7) Q d h wr) (fun i _=>m - (intOf i).toNat)
   case atStart=>exact ⟨0,d,h,lG _,rfl,T.out⟩
   case round =>
    clear T;obtain ⟨j,d,h,hj,rfl,x⟩:=hrel;by_cases b1:j<m
    ·have b2:(j:Int)<(m:Int):=by omega
     have T:=hid x;clear x;go_upto_region 9 with fail
     go_cut [27] (fun _ wx=>∃ (d:nI) (h:oO),DJ w g (k+5002+j*7+6) Q d h wx)
     case first =>
      have x:=T.out;clear T;refine wp_region_held (S:=fun _=>True) Z ?_;change wpAnyH _ _ _ _ _ _ _ _ (World.drew _);obtain ⟨wd, ae⟩ := kC wr.drew;have t:=x.below (show Below wr.heap.size wr wd by rw [ae];exact mD.drew);rw [← ae];clear ae x;refine jZ (i:=1) (d:=U 28) (v:=aG (U ⟨g,0,C⟩)) (l':=bt 5 2) rfl (fun _ _=>Z) trivial ?_;refine nT (i:=0) (j:=2) Z (kM (i:=0) (d:=U 27) (v:=aI (mg d h).toArray) (w':=wd) (l':=bt 5 3) rfl Z Z Z (E5 75 _ (mg d h) (F 4) Z Z t.c underlying75 rfl Tryz.sizeWo) trivial ?_) (kZ (i:=2) (d:=U 29) (f:=60) (args:=#[aG (U ⟨g,0,C⟩)]) (l':=bt 5 6) (R:=REv wd g (k+5002+j*7+6)) rfl Z Z Z (lW _ _ rfl Z rfl UQ) (adf t.rd A) ?_)
      ·refine kF Z (kZ (i:=2) (d:=U 29) (f:=60) (args:=#[aG (U ⟨g,0,C⟩)]) (l':=bt 5 7) (R:=REv wd g (k+5002+j*7+6)) rfl Z Z Z (lW _ _ rfl Z rfl UQ) (adf t.rd A) ?_)
       rintro v1 w1 ⟨⟨ek,ea,eb,ec,rfl⟩,ab,g1⟩;have t1:=t.pick ab g1;refine ⟨trivial,?_⟩;refine kF Z (kZ (i:=3) (d:=U 30) (f:=59) (args:=#[aI (mg d h).toArray,aI #[I Y ek,I Y ea,I Y eb,I Y ec]]) (l':=bt 5 15) (R:=RWd w w1 Q) rfl Z Z Z (lT _ _ _ rfl Z Z rfl UU) (adp t1.t ek ea eb ec) ?_);rintro v2 w2 ⟨d',h',rfl,a,r,n',fr⟩;have t2:=t1.t.call a r n' fr;refine ⟨trivial,?_⟩;obtain ⟨cs,hl,hc⟩:=t2.c;have J:(prog.info? 75).map (·.size)=U (mg d' h').length:=Tryz.sizeWo;have H:=t2.put (mY Q (mg d' h') 0 _ _ (lJ _ _)) (hc.stored (vs:=mg d' h') hl);refine kF Z (lI (i:=4) (w':=w2.setCells Q 0 (mg d' h')) (l':=bt 5 31) rfl Z Z Z (lM 75 cs _ (F 4) (F 30) Z Z Z hc hl J (mW a)) trivial ?_);refine wpAnyH_done Z ?_ _;obtain ⟨wz, L⟩ := kC (w2.setCells Q 0 (mg d' h'));rw [← L] at H ⊢;have HQ:=hid H;clear L H J hc hl t2 n' fr a r t1 t;go_simp;go_wp2;go_meet
       case rel=>exact ⟨d',h',HQ.out⟩
      ·rintro v1 w1 ⟨⟨ek,ea,eb,ec,rfl⟩,ab,g1⟩
       have t1:=t.pick ab g1;refine ⟨trivial,?_⟩;refine kF Z (kM (i:=0) (d:=U 27) (v:=aI (mg d h).toArray) (w':=w1) (l':=bt 5 7) rfl Z Z Z (E5 75 _ (mg d h) (F 4) Z Z t1.c underlying75 rfl Tryz.sizeWo) trivial ?_);refine kF Z (kZ (i:=3) (d:=U 30) (f:=59) (args:=#[aI (mg d h).toArray,aI #[I Y ek,I Y ea,I Y eb,I Y ec]]) (l':=bt 5 15) (R:=RWd w w1 Q) rfl Z Z Z (lT _ _ _ rfl Z Z rfl UU) (adp t1.t ek ea eb ec) ?_);rintro v2 w2 ⟨d',h',rfl,a,r,n',fr⟩;have t2:=t1.t.call a r n' fr;refine ⟨trivial,?_⟩;obtain ⟨cs,hl,hc⟩:=t2.c;have J:(prog.info? 75).map (·.size)=U (mg d' h').length:=Tryz.sizeWo;have H:=t2.put (mY Q (mg d' h') 0 _ _ (lJ _ _)) (hc.stored (vs:=mg d' h') hl);refine kF Z (lI (i:=4) (w':=w2.setCells Q 0 (mg d' h')) (l':=bt 5 31) rfl Z Z Z (lM 75 cs _ (F 4) (F 30) Z Z Z hc hl J (mW a)) trivial ?_);refine wpAnyH_done Z ?_ _;obtain ⟨wz, L⟩ := kC (w2.setCells Q 0 (mg d' h'));rw [← L] at H ⊢;have HQ:=hid H;clear L H J hc hl t2 n' fr a r t1 t;go_simp;go_wp2;go_meet
       case rel=>exact ⟨d',h',HQ.out⟩
     case rest =>
      obtain ⟨d1,h1,x⟩:=hcut;clear T;obtain ⟨W5, bd⟩ := kC wc;rw [← bd] at x ⊢;clear bd;go_wp2_with fail
      refine (pick_any g 4 (k+5002+j*7+6) _ x.rd A A A).mono ?_;rintro e6 w6 ⟨⟨r6,cc,rfl⟩,bq,g6⟩;have x6:=x.pick bq g6;clear bq g6 x;by_cases h0:r6=0
      ·subst h0
       go_wp2_with (refine kY rfl 75 (F 4) rfl Q _ rfl x6.c underlying75 rfl Tryz.sizeWo ?_)
       refine (OI d1 h1 (RF w Q) x6.s x6.g' x6.f.1 x6.f.2).mono ?_;rintro e7 w7 ⟨⟨d7,h7,rfl,s7,g7,n7⟩,a8⟩;have x7:=x6.t.call s7 g7 n7 a8;clear s7 g7 n7 a8 x6;go_wp2_with fail
       refine (IW d7 h7 0 (RF w Q) x7.s x7.g' x7.f.1 x7.f.2).mono ?_;rintro e8 w8 ⟨⟨d8,h8,rfl,s8,g8,n8⟩,ba⟩;have x8:=x7.call s8 g8 n8 ba;clear s8 g8 n8 ba x7;go_wp2_with fail
       refine (IW d8 h8 0 (RF w Q) x8.s x8.g' x8.f.1 x8.f.2).mono ?_;rintro e9 w9 ⟨⟨d9,h9,rfl,s9,g9,n9⟩,bb⟩;have x9:=x8.call s9 g9 n9 bb;clear s9 g9 n9 bb x8;obtain ⟨cs,hl,hc⟩:=x9.c;have ax:=hid hl;have a7:=hid x9;have bj:=mW x9.s;clear hl x9;go_wp2_with (refine jY rfl 75 (F 4) (F 37) rfl Q cs _ rfl rfl hc ax.out Tryz.sizeWo bj ?_;intro b6 au av)
       have bw:=hid (a7.out.put av au);clear a7 ax hc bj au av;go_roundw
       case rel=>exact ⟨j+1,d9,h9,A,aW,bw.out.more A⟩
       case measure=>simp [intOf];omega
      ·have b7:¬ (r6:Int)=0:=by omega
       have bz:=hid x6;clear x6;go_wp2;go_roundw
       case rel=>exact ⟨j+1,d1,h1,A,aW,bz.out.more A⟩
       case measure=>simp [intOf];omega
    ·obtain rfl:j=m:=by omega
     clear b1 hj;have b2:¬ (j:Int)<(j:Int):=A;go_wp2_with (refine kY rfl 75 (F 4) rfl Q _ rfl x.c underlying75 rfl Tryz.sizeWo ?_)
     refine (XD d h x.s x.g').mono ?_;rintro e7 w7 ⟨⟨d7,h7,rfl,s7,g7,bm⟩,aw⟩;have R9:CF w7 w.heap.size kX:=x.A.block (aw.block _ (by have:=x.p;omega));have br:=hid aw;have bs:=hid bm;clear aw bm;go_wp2_with (refine jY rfl 75 (F 2) (F 39) rfl w.heap.size kX _ rfl rfl R9 rfl Tryz.sizeWo (mW s7) ?_;intro b6 au av)
     exact bodyPost_ret (lK 75 2 results38 rfl au underlying75 rfl Tryz.sizeWo) rfl ((x.more A).fin br.out s7 g7 bs.out av)
end
end Go.Proofs.YtfkkipgcfoegmaaGreat
