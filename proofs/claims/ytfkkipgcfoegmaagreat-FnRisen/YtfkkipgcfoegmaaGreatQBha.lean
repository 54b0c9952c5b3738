
import Derived.Test.YtfkkipgcfoegmaaGreatQBdk
set_option maxHeartbeats 8000000
set_option maxRecDepth 100000
namespace Go.Proofs.YtfkkipgcfoegmaaGreat
open Go.Proofs.Tryz
open Go.Value renaming slice→K,string→E,bool→aF,pointer→aG,agg→aI
open Option renaming none→C,some→U
open Go.Operand renaming tmp→F
open Go.Obj renaming cells→aH
open Bool renaming false→aK
open Go.Value renaming int→I
open Go.IntKind renaming i64→Y
open Go.RowKit
variable {B Q9 mc pc q:Nat} {d:BD} {h:BH} {ins:List ByteArray} {le ti tw:Int} {ma pa:Option Addr} {ob:Obj} {st:F8} {ts:List kJ} {v:Value} {vs:List Value} {w w0 w9 wr:World}
theorem Tryz.sizeLd:(prog.info? 141).map (·.size)=U 13:=Z
theorem Ar {ops:Array Oper} {rest:List Oper} {op:Oper} {a:Act} {Q:Exit→Act→World→Prop} (d:op.guard=C) (x y:Operand) (e:op.op=.store 61 x y) (b o:Nat) (p q r:Int) (g:a.eval x=aG (U ⟨b,o,C⟩)) (h:a.eval y=aI #[I Y p,I Y q,I Y r]) (f:w.there b o 3)
  (c:wpList prog ops Q rest (a.put op.dst undef) (w.setCells b o [I Y p,I Y q,I Y r])):wpList prog ops Q (op :: rest) a w :=
 wpList_store_mid d 61 x y e b o #[I Y p,I Y q,I Y r] g h f Z Z c
theorem JQ (ep now:Int) (R:List ByteArray) (ts:List kJ) (st:F8) (n:Nat):(nY ep now R ts st n).M.length≤st.M.length+n:=by
 induction n with
 | zero=>exact kL
 | succ n ih =>
  show (xQ ep now R ts (nY ep now R ts st n) n).M.length≤_;unfold xQ;cases Ii (nY ep now R ts st n).S with
  | none=>exact lH ih A
  | some k =>
   simp only;split
   ·simp;omega
   ·exact lH ih A
theorem DR {wk:Int} {up:Bool} {now sn ep gv:Int} {a0 a1 a2 a3 a4 a5 c:Option Addr} {n0 c0 n1 c1 n2 c2 g c3 h d i e j f:Nat}:∀ v∈[I Y wk,aF up,I Y now,I Y sn,I Y ep,I Y gv,K a0 n0 c0,K a1 n1 c1,K a2 n2 c2,K a3 g c3,K a4 h d,K a5 i e,K c j f],v.oneCell'=true:=by
 intro v a;simp only [mG,mF,or_false] at a;rcases a with rfl | rfl | rfl | rfl | rfl | rfl | rfl | rfl | rfl | rfl | rfl | rfl | rfl <;> rfl
theorem XQ {R:List ByteArray} {a:List Int} {j:Nat} (c:j<a.length) (d:a.getD j 0=(q:Int)):(insOf R a).take (j+1)=(insOf R a).take j ++ [rs R q]:=by
 unfold insOf;rw [Og,IB,nH c];have:a[j]=(q:Int):=by rw [← d];simp [List.getD,c]
 rw [this];rfl
structure Gq (w0 w:World) (B:Nat) (d:BD) (h:BH) (ts:List kJ) (pa:Option Addr) (pc:Nat) (st:F8) (v:Value) (vs:List Value) (wr:World):Prop where
 H:uz w0 w B (w.heap.size+4) d h st v vs wr
 P3:CF wr (w.heap.size+1) [K pa ts.length pc]
 A4:CF wr (w.heap.size+2) qH
 L5:CF wr (w.heap.size+3) [I Y d.wk,aF d.up,I Y d.now,I Y d.sn,I Y d.ep,I Y st.gv,K h.a1 d.L1.length h.c1,K h.a2 d.L2.length h.c2,K h.ar ts.length h.cr,K h.aj ts.length h.cj,K h.az d.S.length h.cs,K h.ao d.O.length h.co,v]
 o2:F6 st.S
 g0:0≤st.gv
 vm:∃ a c,v=K a st.M.length c
theorem Gq.below {w':World} (s:Gq w0 w B d h ts pa pc st v vs wr) (a:Below wr.heap.size wr w'):Gq w0 w B d h ts pa pc st v vs w' :=
 have c:=s.H.sz
 ⟨s.H.below a,s.P3.block (a.block _ A),s.A4.block (a.block _ A),s.L5.block (a.block _ A),s.o2,s.g0,s.vm⟩
structure Nj (w0 w:World) (B:Nat) (d:BD) (h:BH) (ts:List kJ) (pa:Option Addr) (pc:Nat) (st:F8) (v:Value) (vs:List Value) (Q9:Nat) (tw le ti:Int) (ma:Option Addr) (mc:Nat) (ins:List ByteArray) (wr:World):Prop where
 S:Gq w0 w B d h ts pa pc st v vs wr
 M9:CF wr Q9 [I Y 1,I Y 0,I Y tw,I Y d.ep,I Y le,I Y ti,E ⟨#[]⟩,K ma ins.length mc]
 I9:Own (Q9+1) wr 1 (K ma ins.length mc) ins.length (ins.map E)
 q9:w.heap.size+4≤Q9∧Q9<wr.heap.size
 v1:∀ q,v.ownBlock=U q→q<Q9
 v2:∀ j,j<st.M.length→∀ q,(vs.getD j kH).ownBlock=U q→q<Q9
theorem Nj.drew (s:Nj w0 w B d h ts pa pc st v vs Q9 tw le ti ma mc ins wr):Nj w0 w B d h ts pa pc st v vs Q9 tw le ti ma mc ins wr.drew :=
 have a:Below wr.heap.size wr wr.drew:=mD.drew
 ⟨s.S.below a,s.M9.block (a.block _ s.q9.2),s.I9.below a kL,⟨s.q9.1,lu s.q9.2 a.size⟩,s.v1,s.v2⟩
theorem Nj.aeh (s:Nj w0 w B d h ts pa pc st v vs Q9 tw le ti ma mc ins wr)
  (i:(wr.alloc ob).grownBy w9 (K ma ins.length mc).ownBlock):Gq w0 w B d h ts pa pc st v vs w9∧CF w9 Q9 [I Y 1,I Y 0,I Y tw,I Y d.ep,I Y le,I Y ti,E ⟨#[]⟩,K ma ins.length mc]:=by
 have c:=s.I9.ku;have z:=s.q9;have L:=s.S.H.sz;have J:=s.S.H.qm;have g:Below wr.heap.size wr (wr.alloc ob):=kQ;have f:=s.S.below g;have N:(wr.alloc ob).heap.size=wr.heap.size+1:=D;have l:Dn v.ownBlock (K ma ins.length mc).ownBlock:=Dn.later (m:=Q9) s.v1 (fun q e=>by have:=c q e;omega);have o:∀ j,j<st.M.length→Dn (vs.getD j kH).ownBlock (K ma ins.length mc).ownBlock:=fun j t=>Dn.later (m:=Q9) (s.v2 j t) (fun q e=>by have:=c q e;omega);have u:∀ p,p≤Q9→U p≠(K ma ins.length mc).ownBlock:=fun p k e=>by have:=c p e.symm;omega
 have a:∀ {p:Nat} {cs:List Value},CF (wr.alloc ob) p cs→p≤Q9→CF w9 p cs:=fun r k=>r.block (i.block _ A (u _ k));exact ⟨⟨f.H.ade i (fun q e=>by have:=c q e;omega) l o,a f.P3 A,a f.A4 A,a f.L5 A,s.S.o2,s.S.g0,s.S.vm⟩,a (s.M9.block (g.block Q9 z.2)) kL⟩
theorem Gq.rc (s:Gq w0 w B d h ts pa pc st v vs wr) {e or':Nat} (f:h.ar=U ⟨e,or',C⟩) (g:q<d.R.length):wr.cell? ⟨e,or'+q,C⟩=U (E (rs d.R q)):=by
 rcases s.H.bo.o2 with ⟨a,_⟩ | ⟨r,t,l,a,k⟩
 ·rw [f] at a;cases a
 ·rw [f] at a
  injection a with c o p;injection c with c;injection c with i j;subst i j;rw [k.holds q (by show q<d.R.length*1;omega)];show (d.R.map E)[q]?=_;rw [IB,nH g];simp [rs,List.getD,g]
theorem Nj.app {a9:Option Addr} {a:Nat} {x:ByteArray} (s:Nj w0 w B d h ts pa pc st v vs Q9 tw le ti ma mc ins wr)
  (t:Own (Q9+1) w9 1 (K a9 (ins.length+1) a) (ins.length+1) (ins.map E ++ [E x])) (c:(wr.alloc ob).grownBy w9 (K ma ins.length mc).ownBlock):Nj w0 w B d h ts pa pc st v vs Q9 tw le ti a9 a (ins ++ [x]) (w9.setCell ⟨Q9,7,C⟩ (K a9 (ins.length+1) a)):=by
 have f:=s.I9.ku;have u:=s.q9;have W:=s.S.H.sz;have V:=s.S.H.qm;have o:Below wr.heap.size wr (wr.alloc ob):=kQ;have g:=s.S.below o;have X:(wr.alloc ob).heap.size=wr.heap.size+1:=D;have z:Dn v.ownBlock (K ma ins.length mc).ownBlock:=Dn.later (m:=Q9) s.v1 (fun q e=>by have:=f q e;omega);have J:∀ j,j<st.M.length→Dn (vs.getD j kH).ownBlock (K ma ins.length mc).ownBlock:=fun j k=>Dn.later (m:=Q9) (s.v2 j k) (fun q e=>by have:=f q e;omega);have r:∀ p,p≤Q9→U p≠(K ma ins.length mc).ownBlock:=fun p Q e=>by have:=f p e.symm;omega
 have L:=g.H.ade c (fun q e=>by have:=f q e;omega) z J;have gs:=lU (lJ w9 (U Q9)) 7 (K a9 (ins.length+1) a);have N:=L.far gs A (Dn.symm (Dn.later (x:=U Q9) (m:=Q9+1) (fun q e=>O) (y:=C) (fun q e=>iY)) |> fun _=>(by
   cases l:v.ownBlock with
   | none=>exact .inl rfl
   | some q=>exact .inr (fun e=>by injection e with e;have:=s.v1 q l;omega))) (fun j k=>by
   cases l:(vs.getD j kH).ownBlock with
   | none=>exact .inl rfl
   | some q=>exact .inr (fun e=>by injection e with e;have:=s.v2 j k q l;omega))
 have i:∀ {p:Nat} {cs:List Value},CF (wr.alloc ob) p cs→p<Q9→CF (w9.setCell ⟨Q9,7,C⟩ (K a9 (ins.length+1) a)) p cs:=fun P Q=>(P.block (c.block _ A (r _ A))).block (gs.block _ (by have:=c.size;omega) (fun e=>O));refine ⟨⟨N,i g.P3 A,i g.A4 A,i g.L5 A,s.S.o2,s.S.g0,s.S.vm⟩,?_,?_,⟨u.1,?_⟩,s.v1,s.v2⟩
 ·have:=((s.M9.block (o.block Q9 u.2)).block (c.block Q9 A (r Q9 kL))).set (j:=7) D (K a9 (ins.length+1) a)
  rw [lD,mQ];exact this
 ·rw [lD,mQ,rD]
  exact t.grown gs (.inr (fun e=>by have:=t.ku Q9 e;omega))
 ·have R:=c.size
  have T:=gs.size;omega
theorem F6.set {S:List (Bool × Int)} (h:F6 S) {k:Nat} (c:k<S.length) (b:Bool):F6 (S.set k (b,(t2 S k).2)):=fun j a=>by
 rw [nV] at a;rw [La S k c j];split
 ·exact h k c
 ·exact h j a
theorem XG (d:BD) (h:BH) (pa:Option Addr) (V X pc:Nat) (ts:List kJ) (w0 w:World) (B:Nat) (hB:B=w0.heap.size) (hT:lN w0 pa V X ts.length ts) (hO:lg w B d h) (hb:Below B w0 w) (dq:B≤w.heap.size) (hf:d.fits) (dt:d.R.length=ts.length) (fi:d.J.length=ts.length) (ck:nM ts ts.length) (fg:ts.length≤40) (h4:1≤d.ep∧d.ep≤300) (fv:0≤d.gv∧d.gv≤1000000) (ic:0≤d.now∧d.now≤1000000) (h1:d.S.length≤8) :
  Calls prog 106 #[aI #[I Y d.wk,aF d.up,I Y d.now,I Y d.sn,I Y d.ep,I Y d.gv,K h.a1 d.L1.length h.c1,K h.a2 d.L2.length h.c2,K h.ar ts.length h.cr,K h.aj ts.length h.cj,K h.az d.S.length h.cs,K h.ao d.O.length h.co],aI #[K pa ts.length pc]] w fun e w'=>∃ v vs,e=.returned (aI #[I Y d.wk,aF d.up,I Y d.now,I Y d.sn,I Y d.ep,I Y (nY d.ep d.now d.R ts ⟨d.gv,d.J,d.S,[]⟩ ts.length).gv,K h.a1 d.L1.length h.c1,K h.a2 d.L2.length h.c2,K h.ar ts.length h.cr,K h.aj ts.length h.cj,K h.az d.S.length h.cs,K h.ao d.O.length h.co,v])∧uz w0 w B (w.heap.size+4) d h (nY d.ep d.now d.R ts ⟨d.gv,d.J,d.S,[]⟩ ts.length) v vs w':=by
 have hy:ts.length≤40:=fg;obtain ⟨iM,fx,fj,fk,fl⟩:=info_parts Tryz.infoMs;obtain ⟨i0,fw,gp,gq,gr⟩:=info_parts Tryz.info9;obtain ⟨W, hW⟩ := kC ((((w.alloc (aH #[I Y d.wk,aF d.up,I Y d.now,I Y d.sn,I Y d.ep,I Y d.gv,K h.a1 d.L1.length h.c1,K h.a2 d.L2.length h.c2,K h.ar ts.length h.cr,K h.aj ts.length h.cj,K h.az d.S.length h.cs,K h.ao d.O.length h.co] 30)).alloc (aH #[K pa ts.length pc] 33)).alloc (aH Iw 141)));have dy:Below w.heap.size w W:=by rw [hW];exact (kQ.alloc D _).alloc dQ _
 have er:W.heap.size=w.heap.size+3:=dF;have c2:CF W w.heap.size [I Y d.wk,aF d.up,I Y d.now,I Y d.sn,I Y d.ep,I Y d.gv,K h.a1 d.L1.length h.c1,K h.a2 d.L2.length h.c2,K h.ar ts.length h.cr,K h.aj ts.length h.cj,K h.az d.S.length h.cs,K h.ao d.O.length h.co]:=by rw [hW];exact ((CF.made w #[I Y d.wk,aF d.up,I Y d.now,I Y d.sn,I Y d.ep,I Y d.gv,K h.a1 d.L1.length h.c1,K h.a2 d.L2.length h.c2,K h.ar ts.length h.cr,K h.aj ts.length h.cj,K h.az d.S.length h.cs,K h.ao d.O.length h.co] 30).block (kU _ _ _ D)).block (kU _ _ _ dQ)
 have dn:CF W (w.heap.size+1) [K pa ts.length pc]:=by
  have:=CF.made (w.alloc (aH #[I Y d.wk,aF d.up,I Y d.now,I Y d.sn,I Y d.ep,I Y d.gv,K h.a1 d.L1.length h.c1,K h.a2 d.L2.length h.c2,K h.ar ts.length h.cr,K h.aj ts.length h.cj,K h.az d.S.length h.cs,K h.ao d.O.length h.co] 30)) #[K pa ts.length pc] 33;rw [mJ] at this;rw [hW];exact this.block (kU _ _ _ D)
 have c4:CF W (w.heap.size+2) qH:=by
  have:=CF.made ((w.alloc (aH #[I Y d.wk,aF d.up,I Y d.now,I Y d.sn,I Y d.ep,I Y d.gv,K h.a1 d.L1.length h.c1,K h.a2 d.L2.length h.c2,K h.ar ts.length h.cr,K h.aj ts.length h.cj,K h.az d.S.length h.cs,K h.ao d.O.length h.co] 30)).alloc (aH #[K pa ts.length pc] 33)) Iw 141;rw [mJ,mJ] at this;rw [hW];exact this
 have HW:=hid hW;clear hW;go_enter func106,ntmps106
 go_upto_region 1 with fail
 rw [← HW.out];clear HW;obtain ⟨b0,b1,b2,b3,b4,b5,b6,b7,b8,b9,fe,ff⟩:=l9 c2;go_upto_region 2 with fail
 obtain ⟨W5, bb⟩ := kC (W.alloc (aH #[I Y d.wk,aF d.up,I Y d.now,I Y d.sn,I Y d.ep,I Y d.gv,K h.a1 d.L1.length h.c1,K h.a2 d.L2.length h.c2,K h.ar ts.length h.cr,K h.aj ts.length h.cj,K h.az d.S.length h.cs,K h.ao d.O.length h.co,K C 0 0] 141));have bm:Below W.heap.size W W5:=by rw [bb];exact kQ
 have c5:CF W5 (w.heap.size+3) [I Y d.wk,aF d.up,I Y d.now,I Y d.sn,I Y d.ep,I Y d.gv,K h.a1 d.L1.length h.c1,K h.a2 d.L2.length h.c2,K h.ar ts.length h.cr,K h.aj ts.length h.cj,K h.az d.S.length h.cs,K h.ao d.O.length h.co,K C 0 0]:=by rw [bb,← er];exact CF.made W #[I Y d.wk,aF d.up,I Y d.now,I Y d.sn,I Y d.ep,I Y d.gv,K h.a1 d.L1.length h.c1,K h.a2 d.L2.length h.c2,K h.ar ts.length h.cr,K h.aj ts.length h.cj,K h.az d.S.length h.cs,K h.ao d.O.length h.co,K C 0 0] 141
 have gu:W5.heap.size=w.heap.size+4:=by rw [bb];simp;omega
 have f:Gq w0 w B d h ts pa pc (nY d.ep d.now d.R ts ⟨d.gv,d.J,d.S,[]⟩ 0) (K C 0 0) [] W5:=by
  have an:Below w.heap.size w W5:=dy.trans (bm.mono A);refine ⟨⟨(show lg W5 B (d.at ⟨d.gv,d.J,d.S,[]⟩) h from hO.below an),qy.nil _ _,hb.trans (an.mono dq),?_,⟨rfl,rfl⟩,fun r hr q Q=>hO.lo r hr q Q,A,A,dq⟩,dn.block (bm.block _ A),c4.block (bm.block _ A),c5,hf.k2,fv.1,⟨C,0,rfl⟩⟩;exact ⟨an.size,fun q Q _=>an.block q Q,an.os,an.tape,an.output⟩
 rw [← bb];clear bb bm c5 gu c2 dn c4 er dy b0 b1 b2 b3 b4 b5 b6 b7 b8 b9 fe ff;go_wp2_with fail
 go_loopw [6] (fun x wr=>∃ (i:Nat) (v:Value) (vs:List Value),i≤ts.length∧x=I Y i∧Gq w0 w B d h ts pa pc (nY d.ep d.now d.R ts ⟨d.gv,d.J,d.S,[]⟩ i) v vs wr) (fun x _=>ts.length - (intOf x).toNat)
 case atStart=>exact ⟨0,_,_,lG _,rfl,f⟩
 case round =>
  clear f;obtain ⟨i,v,vs,hi,rfl,z⟩:=hrel;obtain ⟨st, a6⟩ := kC (nY d.ep d.now d.R ts ⟨d.gv,d.J,d.S,[]⟩ i);rw [← a6] at z;have al:=hid a6;have e8:=hid (show st.M.length≤40 by rw [a6];exact lH (JQ _ _ _ _ _ _) (by show 0+i≤40;omega));clear a6;obtain ⟨l,o,rfl⟩:=z.vm;have z0:wr.cell? ⟨w.heap.size+1,0,C⟩=U (K pa ts.length pc):=(z.P3 0 D).1;by_cases ay:i<ts.length
  case pos =>
   have gb:(i:Int)<(ts.length:Int):=A;obtain ⟨y0,y1,y2,y3,y4,y5,y6,y7,y8,y9,au,dc⟩:=l9 z.L5;obtain ⟨bs,ey,du,_⟩:=z.H.bo.o4.acF z.o2;have cl:st.S.length=d.S.length:=z.H.lj.2;have dv:Ag wr h.az bs ey d.S.length st.S:=by rw [← cl];exact du
   go_wp2_with fail
   refine (XE d.wk d.up d.now d.sn d.ep st.gv h.a1 h.a2 h.ar h.aj h.az h.ao d.L1.length h.c1 d.L2.length h.c2 ts.length h.cr ts.length h.cj d.S.length h.cs d.O.length h.co bs ey st.S dv).mono ?_;rintro e w1 ⟨⟨r,rfl,hr⟩,dx⟩;have s1:=z.below dx;clear z dx du dv z0 y0 y1 y2 y3 y4 y5 y6 y7 y8 y9 au dc;have fc:=hid cl;clear cl;rcases hr with ⟨k,hk,rfl⟩ | ⟨hn,rfl⟩
   case inr =>
    have cg:=hid (show Gq w0 w B d h ts pa pc (nY d.ep d.now d.R ts ⟨d.gv,d.J,d.S,[]⟩ (i+1)) (K l st.M.length o) vs w1 by
     show Gq w0 w B d h ts pa pc (xQ d.ep d.now d.R ts (nY d.ep d.now d.R ts ⟨d.gv,d.J,d.S,[]⟩ i) i) _ _ _;rw [← al.out,OX hn];exact s1)
    clear s1 hn;go_wp2_with fail
    go_roundw
    case rel=>exact ⟨i+1,_,_,A,aW,cg.out⟩
    case measure=>simp [intOf];omega
   case inl =>
    have HK:=hid hk;have ed:k<st.S.length:=Y6 hk;clear hk;have h6:¬ (k:Int)<0:=A;have ef:∀ (N:¬ (st.gv<1000000∧uw ts d.R i∧(t3 st.J i).1=0)),Gq w0 w B d h ts pa pc (nY d.ep d.now d.R ts ⟨d.gv,d.J,d.S,[]⟩ (i+1)) (K l st.M.length o) vs w1:=fun N=>by
     show Gq w0 w B d h ts pa pc (xQ d.ep d.now d.R ts (nY d.ep d.now d.R ts ⟨d.gv,d.J,d.S,[]⟩ i) i) _ _ _;rw [← al.out,QD N];exact s1
    have a7:=hid ef;clear ef;have z0:w1.cell? ⟨w.heap.size+1,0,C⟩=U (K pa ts.length pc):=(s1.P3 0 D).1;obtain ⟨-,-,y2,-,y4,y5,-,-,y8,y9,au⟩:=Dc s1.L5;by_cases ax:st.gv<1000000
    case neg =>
     have fu:st.gv ≥ 1000000:=A;have HR:=hid ax;clear s1 ax;go_wp2_with fail
     go_roundw
     case rel=>exact ⟨i+1,_,_,A,aW,a7.out (fun N=>by have:=HR.out;have:=N.1;omega)⟩
     case measure=>simp [intOf];omega
    have fu:¬ st.gv ≥ 1000000:=A;obtain ⟨br,or',a8,fo⟩:=s1.H.bo.o2.xP hf.s3;have bk:kS w1 h.ar br or' ts.length d.R:=by rw [← dt];exact a8
    have aw:=bk.ad A;have ei:=bk.cell i ay;obtain ⟨s, cw⟩ := kC (d.R.getD i ByteArray.empty);rw [← cw] at ei;have HS:Hid (rs d.R i=s):=by rw [cw];rfl
    clear cw;rw [aw] at y8;have bh:=hid aw;clear aw;by_cases h0:s.size=0
    case neg =>
     have dp:=oQ h0;have H0:=hid h0;clear h0 s1 ax;go_wp2_with fail
     go_roundw
     case rel=>exact ⟨i+1,_,_,A,aW,a7.out (fun N=>H0.out (by rw [← HS.out];exact N.2.1.1))⟩
     case measure=>simp [intOf];omega
    have dp:=oP h0;have H0:=hid h0;clear h0;have hz:st.J.length=ts.length:=s1.H.lj.1.trans fi;have cm:i<st.J.length:=A;obtain ⟨bj,oj,cj,ah,ga,ec⟩:=s1.H.bo.o3.Ht cm;obtain ⟨ai,bp⟩:h.aj=U ⟨bj,oj,C⟩∧h.cj=cj:=by injection ah with e1 e2 e3;exact ⟨e1,e3⟩
    rw [ai] at y9;have di:=hid (And.intro ai bp);clear ai bp;have e6:=hid ec;have e0:=hid ah;clear ec;obtain ⟨ew, cp⟩ := kC ((t3 st.J i).1);have fy:w1.cell? ⟨bj,oj+i*3,C⟩=U (I Y ew):=by
     rcases s1.H.bo.o3 with ⟨hx,_⟩ | ⟨g',ir,hv,hx,c⟩
     ·rw [ah] at hx;cases hx
     ·rw [ah] at hx
      injection hx with e1 e2 e3;injection e1 with e1;injection e1 with e4 e5;subst e4 e5;rw [c.holds (i*3) (by show i*3<st.J.length*3;omega),cp];exact oW st.J i 0 cm A
    have dj:=hid cp;clear cp ah;by_cases ee:ew=0
    case neg =>
     have e7:=hid ee;clear s1 ax;go_wp2_with fail
     go_roundw
     case rel=>exact ⟨i+1,_,_,A,aW,a7.out (fun N=>e7.out (by rw [dj.out];exact N.2.2))⟩
     case measure=>simp [intOf];omega
    subst ee;have F1:=hT.below' (hB ▸ s1.H.hb);go_wp2_with fail
    refine (Gw pa V X ts.length pc ts _ br or' h.cr d.R i _ F1 (by rw [← bh.out];exact bk) ay ck).mono ?_;rintro e w2 ⟨⟨b2,rfl,bl⟩,bn⟩;have s2:=s1.below bn;cases b2
    case false =>
     have e9:=hid (show ¬ Il ts d.R i from fun N=>by have:=bl.2 N;cases this);have cg:=hid (show Gq w0 w B d h ts pa pc (nY d.ep d.now d.R ts ⟨d.gv,d.J,d.S,[]⟩ (i+1)) (K l st.M.length o) vs w2 by
      have h':=a7.out (fun N=>e9.out N.2.1.2);exact h'.below bn)
     clear s1 s2 ax bl bn;go_wp2_with fail
     go_roundw
     case rel=>exact ⟨i+1,_,_,A,aW,cg.out⟩
     case measure=>simp [intOf];omega
    case true =>
     have ez:=hid (show st.gv<1000000∧uw ts d.R i∧(t3 st.J i).1=0 from ⟨ax,⟨by rw [HS.out];exact H0.out,bl.1 rfl⟩,dj.out.symm⟩);clear s1 bl a7 bn;have il:=s2.H.sz;have ie:=s2.H.qm;have h5:=s2.g0;have h7:k<d.S.length:=by have:=fc.out;omega
     have h8:(k:Int)<(d.S.length:Int):=A;clear z0 y2 y4 y5 y8 y9 au ei fy ga e6 di e0 dp a8 bk fo;obtain ⟨-,-,y2,-,y4,y5⟩:=cf6 s2.L5;have f5:w2.frozen? ⟨w.heap.size+3,5,C⟩=aK:=(s2.L5 5 D).2;go_upto_region 8 with fail
     obtain ⟨wA, af⟩ := kC (w2.setCell ⟨w.heap.size+3,5,C⟩ (I Y (st.gv+1)));have gA:w2.grownBy wA (U (w.heap.size+3)):=by rw [af];exact lU (lJ w2 _) 5 _
     have lA:CF wA (w.heap.size+3) [I Y d.wk,aF d.up,I Y d.now,I Y d.sn,I Y d.ep,I Y (st.gv+1),K h.a1 d.L1.length h.c1,K h.a2 d.L2.length h.c2,K h.ar ts.length h.cr,K h.aj ts.length h.cj,K h.az d.S.length h.cs,K h.ao d.O.length h.co,K l st.M.length o]:=by rw [af];exact s2.L5.set (j:=5) D _
     have HA:=s2.H.X3 gA A A;have gw:=gA.size;have pA:=s2.P3.block (gA.block _ A D);have aA:=s2.A4.block (gA.block _ A D);rw [← af];clear af y2 y4 y5 f5;have eg:=s2.o2;obtain ⟨bJ,oJ,cJ,ah,ek,ej⟩:=HA.bo.o3.Ht (i:=i) cm;obtain ⟨ai,bp⟩:h.aj=U ⟨bJ,oJ,C⟩∧h.cj=cJ:=by injection ah with e1 e2 e3;exact ⟨e1,e3⟩
     have ct:yV d h=U bJ:=by unfold yV;rw [ai];rfl
     have h2:=HA.lo _ (Ac d h) bJ ct;obtain ⟨-,-,y2,-,y4,y5⟩:=cf6 lA;have y9:wA.cell? ⟨w.heap.size+3,9,C⟩=U (K (U ⟨bJ,oJ,C⟩) ts.length h.cj):=by rw [← ai];exact (lA 9 D).1
     have di:=hid ai;clear ah ai bp s2 gA;go_upto_region 10 with (refine Ar rfl (F 86) (F 85) rfl bJ (oJ+i*3) ((d.ep - 1)*1000000+(st.gv+1)) ((k:Int)+1) (d.now+12) rfl rfl ek ?_)
     obtain ⟨wB, bw⟩ := kC (wA.setCells bJ (oJ+i*3) [I Y ((d.ep - 1)*1000000+(st.gv+1)),I Y ((k:Int)+1),I Y (d.now+12)]);have gB:wA.grownBy wB (U bJ):=by rw [bw];exact gsc
     have ds:Own B wB 3 (K h.aj d.J.length h.cj) d.J.length (c3 (st.J.set i ((((d.ep - 1)*1000000+(st.gv+1)),(k:Int)+1,d.now+12):Tr))):=by
      have:=ej ((((d.ep - 1)*1000000+(st.gv+1)),(k:Int)+1,d.now+12):Tr);rw [bw];have e:(d.at st).J.length=d.J.length:=HA.lj.1;rw [e] at this;exact this
     have HB:=HA.Nq (gv:=st.gv+1) (J:=st.J.set i ((((d.ep - 1)*1000000+(st.gv+1)),(k:Int)+1,d.now+12):Tr)) (by rw [nV];exact HA.lj.1) (ct ▸ gB) ds;have lB:=lA.block (gB.block _ A aQ);have pB:=pA.block (gB.block _ A aQ);have aB:=aA.block (gB.block _ A aQ);have im:=gB.size;rw [← bw];clear bw gB ds ej ek y2 y4 y5 y9 HA lA pA aA ct;obtain ⟨bz,oz,cz,et,gx,gz,eu⟩:=HB.bo.o4.set2 (k:=k) ed;obtain ⟨c6,gy⟩:h.az=U ⟨bz,oz,C⟩∧h.cs=cz:=by injection et with e1 e2 e3;exact ⟨e1,e3⟩
     have cu:Ap d h=U bz:=by unfold Ap;rw [c6];rfl
     have h3:=HB.lo _ (qW d h) bz cu;have au:wB.cell? ⟨w.heap.size+3,10,C⟩=U (K (U ⟨bz,oz,C⟩) d.S.length h.cs):=by rw [← c6];exact (lB 10 D).1
     clear et c6 gy;go_upto_region 11 with fail
     obtain ⟨wC, ca⟩ := kC (wB.setCell ⟨bz,oz+k*2,C⟩ (aF aK));have gC:wB.grownBy wC (U bz):=by rw [ca];exact lU (lJ wB _) _ _
     have dw:Own B wC 2 (K h.az d.S.length h.cs) d.S.length (c2 (st.S.set k (aK,(t2 st.S k).2))):=by
      have:=eu aK;rw [ca];have e:(d.at ⟨st.gv+1,st.J.set i ((((d.ep - 1)*1000000+(st.gv+1)),(k:Int)+1,d.now+12):Tr),st.S,st.M⟩).S.length=d.S.length:=HB.lj.2;rw [e] at this;exact this
     have HC:=HB.Uc (S:=st.S.set k (aK,(t2 st.S k).2)) (by rw [nV];exact HB.lj.2) (cu ▸ gC) dw;have lC:=lB.block (gC.block _ A aQ);have pC:=pB.block (gC.block _ A aQ);have aC:=aB.block (gC.block _ A aQ);have iq:=gC.size;rw [← ca];clear ca gC dw eu gx gz au HB lB pB aB cu;have y4:wC.cell? ⟨w.heap.size+3,4,C⟩=U (I Y d.ep):=(lC 4 D).1;go_upto_region 12 with fail
     clear y4;obtain ⟨wD, bd⟩ := kC (wC.alloc (aH #[I Y 1,I Y 0,I Y ((k:Int)+1),I Y d.ep,I Y ((d.ep - 1)*1000000+(st.gv+1)),I Y i,E ⟨#[]⟩,K C 0 0] 136));obtain ⟨Q9, av⟩ := kC wC.heap.size;have bc:Below wC.heap.size wC wD:=by rw [bd];exact kQ
     have sD:Nj w0 w B d h ts pa pc ⟨st.gv+1,st.J.set i ((((d.ep - 1)*1000000+(st.gv+1)),(k:Int)+1,d.now+12):Tr),st.S.set k (aK,(t2 st.S k).2),st.M⟩ (K l st.M.length o) vs Q9 ((k:Int)+1) ((d.ep - 1)*1000000+(st.gv+1)) i C 0 [] wD:=by
      have gh:=HC.ms.row.kD;have gi:=fun j hj=>(HC.ms.dep j hj).kD;refine ⟨⟨HC.below bc,pC.block (bc.block _ A),aC.block (bc.block _ A),lC.block (bc.block _ A),eg.set ed aK,by show 0≤st.gv+1;omega,⟨l,o,rfl⟩⟩,?_,Own.nil _ _ _,⟨A,by rw [bd,av];simp⟩,fun q Q=>by rw [av];exact gh q Q,fun j hj q Q=>by rw [av];exact gi j hj q Q⟩;rw [bd,av];exact CF.made wC #[I Y 1,I Y 0,I Y ((k:Int)+1),I Y d.ep,I Y ((d.ep - 1)*1000000+(st.gv+1)),I Y i,E ⟨#[]⟩,K C 0 0] 136
     rw [← bd,← av];clear bd av bc HC lC pC aC;obtain ⟨t,ho,cc,cd,n',db,ht,bf,gn,eo,cy,ik,ij⟩:=hT.get ay;have gd:=hT.ad A;subst gd;have HT:=hid ht;clear ht bf gn;have ea:t.deps.length=n':=cy.len;have ib:n'≤8:=by have:=(ck i ay).1;rw [← HT.out] at this;omega
     have bg:=hid ea;clear ea eg;go_wp2_with fail
     go_loopw [10] (fun x wq=>∃ (j:Nat) (ma:Option Addr) (mc:Nat) (ins:List ByteArray),j≤n'∧x=I Y j∧ins=(insOf d.R t.deps).take j∧Nj w0 w B d h ts (U ⟨V,X,C⟩) pc ⟨st.gv+1,st.J.set i ((((d.ep - 1)*1000000+(st.gv+1)),(k:Int)+1,d.now+12):Tr),st.S.set k (aK,(t2 st.S k).2),st.M⟩ (K l st.M.length o) vs Q9 ((k:Int)+1) ((d.ep - 1)*1000000+(st.gv+1)) i ma mc ins wq) (fun x _=>n' - (intOf x).toNat)
     case atStart=>exact ⟨0,C,0,[],lG _,rfl,rfl,sD⟩
     case round =>
      clear sD;obtain ⟨j,ma,mc,ins,hj,rfl,cn,a⟩:=hrel;have eb:ins.length=j:=by rw [cn,qI];unfold insOf;rw [List.length_map,bg.out];omega
      have dh:=hid cn;have dg:=hid eb;clear cn eb;have dr:Below w0.heap.size w0 wr:=hB ▸ a.S.H.hb;have z0:wr.cell? ⟨w.heap.size+1,0,C⟩=U (K (U ⟨V,X,C⟩) ts.length pc):=(a.S.P3 0 D).1;have x2:wr.cell? ⟨V,X+i*3+2,C⟩=U (K ho n' db):=kV dr eo;by_cases bq:j<n'
      case pos =>
       have fz:(j:Int)<(n':Int):=A;go_upto_region 15 with fail
       have gl:=cy.ad A;subst gl;obtain ⟨q,Q,eh⟩:=Qc ck ay (j:=j) (by rw [← HT.out,bg.out];exact bq);rw [← HT.out] at Q;have fq:w0.cell? ⟨cc,cd+j,C⟩=U (I Y (q:Int)):=by rw [← Q];exact cy.cell j bq
       obtain ⟨br,or',a8,_⟩:=a.S.H.bo.o2.xP hf.s3;have aw:h.ar=U ⟨br,or',C⟩:=a8.ad (by show 0<d.R.length;omega);obtain ⟨L, cv⟩ := kC (rs d.R q);have dk:=hid (show ins ++ [L]=(insOf d.R t.deps).take (j+1) by rw [XQ (by rw [bg.out];exact bq) Q,← dh.out,cv]);have fb:=hid cv;have bh:=hid aw;clear cv aw a8 Q;refine wp_region_held (S:=fun w'=>Gq w0 w B d h ts (U ⟨V,X,C⟩) pc ⟨st.gv+1,st.J.set i ((((d.ep - 1)*1000000+(st.gv+1)),(k:Int)+1,d.now+12):Tr),st.S.set k (aK,(t2 st.S k).2),st.M⟩ (K l st.M.length o) vs w') Z ?_;change wpAnyH _ _ _ _ _ _ _ _ (World.drew _);have ae:=a.drew;obtain ⟨u, bf⟩ := kC wr.drew;rw [← bf] at ae;rw [← bf];clear bf a z0 x2 dr;have f:=ae.S;refine jZ (i:=0) (d:=U 112) (v:=aG (U ⟨Q9,7,C⟩)) (l':=(bt 20 1)) rfl (fun _ c=>Nv (F 9) Z Z) f ?_;refine jZ (i:=2) (d:=U 114) (v:=aG (U ⟨w.heap.size+3,0,C⟩)) (l':=(bt 20 5)) rfl (fun _ c=>Yx (F 5) Z Z) f ?_;refine jZ (i:=3) (d:=U 115) (v:=aG (U ⟨w.heap.size+3,8,C⟩)) (l':=(bt 20 13)) rfl (fun _ c=>ZR (F 114) Z Z) f ?_;refine jZ (i:=4) (d:=U 116) (v:=K (U ⟨br,or',C⟩) ts.length h.cr) (l':=(bt 20 29)) rfl (fun _ c=>Ef (F 115) Z Z (by rw [← bh.out];exact (c.L5 8 D).1)) f ?_;refine jZ (i:=5) (d:=U 117) (v:=aG (U ⟨w.heap.size+1,0,C⟩)) (l':=(bt 20 61)) rfl (fun _ c=>ZO (F 3) Z Z) f ?_;refine jZ (i:=6) (d:=U 118) (v:=K (U ⟨V,X,C⟩) ts.length pc) (l':=(bt 20 125)) rfl (fun _ c=>Yv (F 117) Z Z (c.P3 0 D).1) f ?_;refine jZ (i:=7) (d:=U 119) (v:=I Y (i:Nat)) (l':=(bt 20 253)) rfl (fun _ c=>yT (F 6) Z Z) f ?_;refine jZ (i:=8) (d:=U 120) (v:=aG (U ⟨V,X+i*3,C⟩)) (l':=(bt 20 509)) rfl (fun _ c=>abR (F 118) (F 119) V X ts.length pc i Z Z Z ay) f ?_;refine jZ (i:=9) (d:=U 121) (v:=aG (U ⟨V,X+i*3+2,C⟩)) (l':=(bt 20 1021)) rfl (fun _ c=>ZP (F 120) Z Z) f ?_;refine jZ (i:=10) (d:=U 122) (v:=K (U ⟨cc,cd,C⟩) n' db) (l':=(bt 20 2045)) rfl (fun _ c=>Yw (F 121) Z Z (kV (hB ▸ c.H.hb) eo)) f ?_;refine jZ (i:=11) (d:=U 123) (v:=I Y (j:Nat)) (l':=(bt 20 4093)) rfl (fun _ c=>yT (F 10) Z Z) f ?_;refine jZ (i:=12) (d:=U 124) (v:=aG (U ⟨cc,cd+j,C⟩)) (l':=(bt 20 8189)) rfl (fun _ c=>ZM (F 122) (F 123) cc cd n' db j Z Z Z bq) f ?_;refine jZ (i:=13) (d:=U 125) (v:=I Y (q:Nat)) (l':=(bt 20 16381)) rfl (fun _ c=>nG (F 124) Z Z (kV (hB ▸ c.H.hb) fq)) f ?_;refine jZ (i:=14) (d:=U 126) (v:=aG (U ⟨br,or'+q,C⟩)) (l':=(bt 20 32765)) rfl (fun _ c=>ZL (F 116) (F 125) br or' ts.length h.cr q Z Z Z eh) f ?_;refine jZ (i:=15) (d:=U 127) (v:=E L) (l':=(bt 20 65533)) rfl (fun _ c=>Qv (F 126) Z Z (by rw [fb.out];exact c.rc bh.out (by rw [dt];exact eh))) f ?_;have gg:=ae.q9;have cq:Own (Q9+1) (u.alloc (aH #[E L] 9)) 1 (K (U ⟨u.heap.size,0,C⟩) 1 1) 1 [E L] :=
        .inr ⟨_,0,1,rfl,kW.made u (Q9+1) 9 1 1 1 _ 1 A kL G rfl kL _ rfl _ (.inl rfl)⟩
       have cx:Src prog 1 23 _ 1 _ (u.alloc (aH #[E L] 9)):=cq.src underlying23 dY;have T:Below u.heap.size u (u.alloc (aH #[E L] 9)):=kQ;have ba:=f.below T;obtain ⟨v9,w9,bu,ak,ab,_⟩:=l7 (P:=prog) (u.alloc (aH #[E L] 9)) (Q9+1) 23 23 23 9 i0 (E ⟨#[]⟩) 1 16 underlying23 fw gp gq gr rfl _ ins.length _ (ae.I9.below T kL) _ 1 _ cx (by have:=dg.out;unfold maxLen;omega) (by have:=dg.out;omega) aQ;obtain ⟨a9,g,rfl⟩:=ak.slc;have ag:=ae.app ak ab;have aa:=ae.aeh ab;have m7:u.cell? ⟨Q9,7,C⟩=U (K ma ins.length mc):=(ae.M9 7 D).1;refine nT (i:=1) (j:=16) Z (kM (i:=1) (d:=U 113) (v:=K ma ins.length mc) (w':=u) (l':=(bt 20 65535)) rfl Z Z Z (Ef (F 112) Z Z m7) f ?_) (kM (i:=16) (d:=U 128) (v:=K (U ⟨u.heap.size,0,C⟩) 1 1) (w':=u.alloc (aH #[E L] 9)) (l':=(bt 20 131069)) rfl Z Z Z (qU (F 127) L Z Z) ba ?_)
       ·refine kF (i:=16) Z (kM (i:=16) (d:=U 128) (v:=K (U ⟨u.heap.size,0,C⟩) 1 1) (w':=u.alloc (aH #[E L] 9)) (l':=(bt 20 131071)) rfl Z Z Z (qU (F 127) L Z Z) ba ?_)
        refine kF (i:=17) Z (kM (i:=17) (d:=U 129) (v:=K a9 (ins.length+1) g) (w':=w9) (l':=(bt 20 262143)) rfl Z Z Z (H6 (F 113) (F 128) 23 23 23 Z Z Z Z bu) aa.1 ?_);refine jZ (i:=18) (d:=U 130) (v:=aG (U ⟨Q9,7,C⟩)) (l':=(bt 20 524287)) rfl (fun _ c=>Nv (F 9) Z Z) aa.1 ?_;refine kF (i:=19) Z (lI (i:=19) (w':=w9.setCell ⟨Q9,7,C⟩ (K a9 (ins.length+1) g)) (l':=(bt 20 1048575)) rfl Z Z Z (qo (F 130) (F 129) a9 (ins.length+1) g Z Z Z (aa.2 7 D).1 (aa.2 7 D).2) ag.S ?_);refine wpAnyH_done Z ?_ _;obtain ⟨wF, aq⟩ := kC (w9.setCell ⟨Q9,7,C⟩ (K a9 (ins.length+1) g));rw [← aq] at ag;rw [← aq];have cf:=hid ag;clear aq ag aa ba f ae ak ab bu cx cq T;go_simp;go_wp2_with fail
        go_roundw
        case rel=>exact ⟨j+1,a9,g,ins ++ [L],A,aW,dk.out,cf.out⟩
        case measure=>simp [intOf];omega
       ·refine kF (i:=1) Z (kM (i:=1) (d:=U 113) (v:=K ma ins.length mc) (w':=(u.alloc (aH #[E L] 9))) (l':=(bt 20 131071)) rfl Z Z Z (Ef (F 112) Z Z (kV T m7)) ba ?_)
        refine kF (i:=17) Z (kM (i:=17) (d:=U 129) (v:=K a9 (ins.length+1) g) (w':=w9) (l':=(bt 20 262143)) rfl Z Z Z (H6 (F 113) (F 128) 23 23 23 Z Z Z Z bu) aa.1 ?_);refine jZ (i:=18) (d:=U 130) (v:=aG (U ⟨Q9,7,C⟩)) (l':=(bt 20 524287)) rfl (fun _ c=>Nv (F 9) Z Z) aa.1 ?_;refine kF (i:=19) Z (lI (i:=19) (w':=w9.setCell ⟨Q9,7,C⟩ (K a9 (ins.length+1) g)) (l':=(bt 20 1048575)) rfl Z Z Z (qo (F 130) (F 129) a9 (ins.length+1) g Z Z Z (aa.2 7 D).1 (aa.2 7 D).2) ag.S ?_);refine wpAnyH_done Z ?_ _;obtain ⟨wF, aq⟩ := kC (w9.setCell ⟨Q9,7,C⟩ (K a9 (ins.length+1) g));rw [← aq] at ag;rw [← aq];have cf:=hid ag;clear aq ag aa ba f ae ak ab bu cx cq T;go_simp;go_wp2_with fail
        go_roundw
        case rel=>exact ⟨j+1,a9,g,ins ++ [L],A,aW,dk.out,cf.out⟩
        case measure=>simp [intOf];omega
      case neg =>
       obtain rfl:j=n':=A;have fz:¬ (j:Int)<(j:Int):=A;obtain ⟨n0,n1,n2,n3,n4,n5,n6,n7⟩:=ER a.M9;have de:wr.cell? ⟨w.heap.size+3,12,C⟩=U (K l st.M.length o):=(a.S.L5 12 D).1;have gg:=a.q9;have gj:=a.S.H.sz;have T:Below wr.heap.size wr (wr.alloc (aH #[I Y 1,I Y 0,I Y ((k:Int)+1),I Y d.ep,I Y ((d.ep - 1)*1000000+(st.gv+1)),I Y i,E ⟨#[]⟩,K ma ins.length mc] 136)):=kQ;have c7:Own (w.heap.size+4) (wr.alloc (aH #[I Y 1,I Y 0,I Y ((k:Int)+1),I Y d.ep,I Y ((d.ep - 1)*1000000+(st.gv+1)),I Y i,E ⟨#[]⟩,K ma ins.length mc] 136)) 8 (K (U ⟨wr.heap.size,0,C⟩) 1 1) 1 [I Y 1,I Y 0,I Y ((k:Int)+1),I Y d.ep,I Y ((d.ep - 1)*1000000+(st.gv+1)),I Y i,E ⟨#[]⟩,K ma ins.length mc] :=
        .inr ⟨_,0,1,rfl,kW.made wr (w.heap.size+4) 136 8 1 1 _ 8 A kL G rfl kL _ rfl _ (.inl rfl)⟩
       have da:Src prog 8 139 _ 1 _ (wr.alloc (aH #[I Y 1,I Y 0,I Y ((k:Int)+1),I Y d.ep,I Y ((d.ep - 1)*1000000+(st.gv+1)),I Y i,E ⟨#[]⟩,K ma ins.length mc] 136)):=c7.src underlying139 (NI);have c8:=a.S.H.ms.row.below T kL;have ia:st.M.length≤40:=e8.out;have ch:=a.S.L5.block (T.block _ A);have en:∀ q,(K l st.M.length o).ownBlock=U q→w.heap.size+4≤q:=a.S.H.ms.row.ku;have df:=hid a;obtain ⟨wA, af⟩ := kC (wr.alloc (aH #[I Y 1,I Y 0,I Y ((k:Int)+1),I Y d.ep,I Y ((d.ep - 1)*1000000+(st.gv+1)),I Y i,E ⟨#[]⟩,K ma ins.length mc] 136));rw [← af] at T c7 da c8 ch;have gw:wA.heap.size=wr.heap.size+1:=by rw [af];simp
       have dm:=hid af;clear af a c7;go_wp2_with (at_builtin;rw [← dm.out];refine kT _ rfl _ _ 139 139 rfl (w.heap.size+4) 136 iM (aI Jl) 8 88 underlying139 fx fj fk fl rfl _ st.M.length _ rfl c8 _ 1 _ rfl da G A A ?_;intro v' w9 ak ab dz;obtain ⟨a9,g,rfl⟩:=ak.slc;have L9:=ch.block (ab.block _ A (fun e=>by have:=en _ e.symm;omega));have f12:w9.frozen? ⟨w.heap.size+3,12,C⟩=aK:=(L9 12 D).2;have hl:w9.cell? ⟨w.heap.size+3,12,C⟩=U (K l st.M.length o):=(L9 12 D).1)
       have fa:=hid (show Gq w0 w B d h ts (U ⟨V,X,C⟩) pc (nY d.ep d.now d.R ts ⟨d.gv,d.J,d.S,[]⟩ (i+1)) (K a9 (st.M.length+1) g) (vs ++ [K ma ins.length mc]) (w9.setCell ⟨w.heap.size+3,12,C⟩ (K a9 (st.M.length+1) g)) by
        have a:=df.out;have hw:=dm.out;subst hw;have hu:Own (w.heap.size+4) wr 1 (K ma ins.length mc) ins.length (ins.map E):=a.I9.mono' A;have gm:Dn (K ma ins.length mc).ownBlock (K l st.M.length o).ownBlock:=Dn.symm (Dn.later (m:=Q9) a.v1 (fun q e=>by have:=a.I9.ku q e;omega));have fs:∀ j,j<st.M.length→Dn (vs.getD j kH).ownBlock (K ma ins.length mc).ownBlock:=fun j hj=>Dn.later (m:=Q9) (a.v2 j hj) (fun q e=>by have:=a.I9.ku q e;omega);have hH:=a.S.H.snoc (t:=⟨1,0,(k:Int)+1,d.ep,((d.ep - 1)*1000000+(st.gv+1)),i,⟨#[]⟩,ins⟩) hu gm fs ak ab dz;have gs:=lU (lJ w9 (U (w.heap.size+3))) 12 (K a9 (st.M.length+1) g);have fh:=hH.X3 gs A A;have cb:∀ {p:Nat} {cs:List Value},CF wr p cs→p<w.heap.size+3→CF (w9.setCell ⟨w.heap.size+3,12,C⟩ (K a9 (st.M.length+1) g)) p cs:=fun c hp=>((c.block (T.block _ A)).block (ab.block _ A (fun e=>by have:=en _ e.symm;omega))).block (gs.block _ (by have:=ab.size;omega) (fun e=>O));have a6:nY d.ep d.now d.R ts ⟨d.gv,d.J,d.S,[]⟩ (i+1)=⟨st.gv+1,st.J.set i ((((d.ep - 1)*1000000+(st.gv+1)),(k:Int)+1,d.now+12):Tr),st.S.set k (aK,(t2 st.S k).2),st.M ++ [(⟨1,0,(k:Int)+1,d.ep,((d.ep - 1)*1000000+(st.gv+1)),i,⟨#[]⟩,ins⟩:lQ)]⟩:=by
         show xQ d.ep d.now d.R ts (nY d.ep d.now d.R ts ⟨d.gv,d.J,d.S,[]⟩ i) i=_;rw [← al.out,QC HK.out ez.out];have e:ins=insOf d.R (ts.getD i dT).deps:=by
          rw [dh.out,HT.out];refine pF ?_;unfold insOf;rw [List.length_map,← HT.out,bg.out];exact kL
         rw [e];rfl
        rw [a6];exact ⟨fh,cb a.S.P3 A,cb a.S.A4 A,L9.set (j:=12) D _,a.S.o2,a.S.g0,⟨a9,g,by rw [lD,mQ]⟩⟩)
       clear L9 f12 hl ak ab dz ch c8 da T df de n0 n1 n2 n3 n4 n5 n6 n7;go_wp2_with fail
       go_roundw
       case rel=>exact ⟨i+1,_,_,A,aW,fa.out⟩
       case measure=>simp [intOf];omega
  case neg =>
   obtain rfl:i=ts.length:=A;have gb:¬ (ts.length:Int)<(ts.length:Int):=A;obtain ⟨y0,y1,y2,y3,y4,y5,y6,y7,y8,y9,au,dc,de⟩:=Dq z.L5;have ig:=z.H.qm;have gj:=z.H.sz;go_wp2_with (refine jY rfl 141 (F 4) (F 137) rfl (w.heap.size+2) qH [I Y d.wk,aF d.up,I Y d.now,I Y d.sn,I Y d.ep,I Y st.gv,K h.a1 d.L1.length h.c1,K h.a2 d.L2.length h.c2,K h.ar ts.length h.cr,K h.aj ts.length h.cj,K h.az d.S.length h.cs,K h.ao d.O.length h.co,K l st.M.length o] rfl rfl z.A4 rfl Tryz.sizeLd (DR) ?_;intro iu fp ft)
   clear y0 y1 y2 y3 y4 y5 y6 y7 y8 y9 au dc de;obtain ⟨k0,k1,k2,k3,k4,k5,k6,k7,k8,k9,ha,hd,hg⟩:=Dq fp;have HF:=z.H.X3 ft A A;refine bodyPost_ret (v:=aI #[I Y d.wk,aF d.up,I Y d.now,I Y d.sn,I Y d.ep,I Y st.gv,K h.a1 d.L1.length h.c1,K h.a2 d.L2.length h.c2,K h.ar ts.length h.cr,K h.aj ts.length h.cj,K h.az d.S.length h.cs,K h.ao d.O.length h.co,K l st.M.length o]) (by simp [results,results106,go_sem,k0,k1,k2,k3,k4,k5,k6,k7,k8,k9,ha,hd,hg]) rfl ?_;first | exact ⟨K l st.M.length o,vs,by rw [← al.out],by rw [← al.out];exact HF⟩ | exact ⟨K l st.M.length o,by rw [← al.out],vs,by rw [← al.out];first | exact HF | (have h9:=HF;rw [hB] at h9;exact h9)⟩
end Go.Proofs.YtfkkipgcfoegmaaGreat
