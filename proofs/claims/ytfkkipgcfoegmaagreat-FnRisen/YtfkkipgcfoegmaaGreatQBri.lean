
import Derived.Test.YtfkkipgcfoegmaaGreatQBtd
set_option maxHeartbeats 4000000
set_option maxRecDepth 100000
namespace Go.Proofs.YtfkkipgcfoegmaaGreat
open Go.Proofs.Tryz
open Go.Value renaming slice→K,string→E,bool→aF,pointer→aG,agg→aI
open Option renaming none→C,some→U
open Go.Operand renaming tmp→F
open Go.Obj renaming cells→aH
open Bool renaming false→aK,true→aN
open Go.Value renaming int→I
open Go.IntKind renaming i64→Y
open Go.RowKit
variable {R:List ByteArray} {cs:List Value} {d:BD} {n pc pn:Nat} {o:Oper} {pa:Option Addr} {ts:List kJ} {w w0 wx wy:World} {ρ:Operand→Value}
theorem BD.abg {c e:Int} (h:d.ok ts) (a:rJ ts (d.L1 ++ d.L2) c e R):c=0∧(∀ s∈R,s.size≤8)∧R.length=ts.length∧0≤e∧e≤300:=by
 obtain ⟨k,_,_,l,Q,g,_⟩:=h;rcases a with ⟨a,_⟩ | ⟨_,a⟩
 ·exact absurd k a
 ·rcases a with ⟨a,_⟩ | ⟨a,i⟩
  ·rw [a] at g;cases g
  ·have f:=Ez _ (Ey ts.length) a
   have j:=MH _ (by simp [st0]) a;exact ⟨i,f.2.2.2,f.2.2.1,f.1,j⟩
theorem BD.abd {c g:Int} (h:d.ok ts) (hu:d.up=aK) (a:rJ ts (d.L1 ++ d.L2) c g R):Go.Proofs.YtfkkipgcfoegmaaGreat.told d ts g R:=by
 obtain ⟨k,l,f⟩:=BD.told h hu;have j:d.L2=[]:=by rw [BD.dn h hu]
 rcases a with ⟨a,_⟩ | ⟨_,a⟩
 ·exact absurd h.1 a
 ·rw [j,pz] at a
  rcases a with ⟨a,_⟩ | ⟨a,o⟩
  ·have i:=f.1;rw [a] at i;cases i
  ·have e:=f.1.symm.trans a
   cases e
   exact f
structure nU (w0:World) (pa:Option Addr) (pn pc:Nat) (cs:List Value) (wx:World):Prop where
 P:CF wx w0.heap.size cs
 L:CF wx (w0.heap.size+1) [K pa pn pc]
 R:CF wx (w0.heap.size+2) zB
 B:Below w0.heap.size w0 wx
 z:w0.heap.size+3≤wx.heap.size
theorem nU.below (h:nU w0 pa pn pc cs wx) (a:Below wx.heap.size wx wy):nU w0 pa pn pc cs wy :=
 ⟨h.P.block (a.block _ bM),h.L.block (a.block _ bM),h.R.block (a.block _ bM),h.B.trans (a.mono h.B.size),lH h.z a.size⟩
theorem nU.alloc (h:nU w0 pa pn pc cs wx) (ob:Obj):nU w0 pa pn pc cs (wx.alloc ob) :=
 h.below kQ
theorem nU.drew (h:nU w0 pa pn pc cs wx):nU w0 pa pn pc cs wx.drew :=
 ⟨h.P,h.L,h.R,h.B.drew,h.z⟩
theorem nU.grown {row:Option Nat} (h:nU w0 pa pn pc cs wx) (a:wx.grownBy wy row) (c:∀ q,row=U q→w0.heap.size+3≤q):nU w0 pa pn pc cs wy :=
 ⟨h.P.block (a.block _ bM (fun e=>fE)),h.L.block (a.block _ bM (fun e=>fE)),h.R.block (a.block _ bM (fun e=>fE)),below_grown h.B a h.B.size (fun q d=>by have:=c q d;omega),lH h.z a.size⟩
theorem nU.set (h:nU w0 pa pn pc cs wx) (j:Nat) (a:j<cs.length) (u:Value):nU w0 pa pn pc (cs.set j u) (wx.setCell ⟨w0.heap.size,j,C⟩ u) :=
 ⟨h.P.set a u,h.L.block (nK wx (⟨w0.heap.size,j,C⟩:Addr) u (w0.heap.size+1) aT),h.R.block (nK wx (⟨w0.heap.size,j,C⟩:Addr) u (w0.heap.size+2) aT),h.B.setCell (p:=⟨w0.heap.size,j,C⟩) aT u,by have:=h.z;simpa [World.setCell] using this⟩
theorem Dj.later {x y:Option Nat} {m:Nat} (a:∀ q,x=U q→q<m) (c:∀ q,y=U q→m≤q):Dj x y:=by
 cases x with
 | none=>exact .inl rfl
 | some q=>exact .inr (fun e=>by have d:=a q rfl;have f:=c q e.symm;omega)
theorem Own.mP {B:Nat} {size:Nat} {v:Value} {xs:List Value} (h:Own B w size v n xs) {q j:Nat} (c:q<B) (u:Value):Own B (w.setCell ⟨q,j,C⟩ u) size v n xs :=
 h.grown (lU (lJ w (U q)) j u) (.inr fC)
theorem Md (x:Operand) {s:ByteArray} (h:o.op=.buildSlice 23 1 #[(0,x)]) (a:ρ x=E s) :
  (execOp ρ o).run prog w=.ok (.value (K (U ⟨w.heap.size,0,C⟩) 1 1)) (w.alloc (aH #[E s] 9)):=by
 unfold execOp;rw [h];simp [go_sem,a]
theorem V7 (x:Operand) (e:Int) (h:o.op=.build 66 #[(0,.const (I Y 1)),(1,x)]) (a:ρ (.const (I Y 1))=I Y 1) (c:ρ x=I Y e) :
  (execOp ρ o).run prog w=.ok (.value (aI #[I Y 1,I Y e,I Y 0,E ⟨#[]⟩])) w:=by
 unfold execOp;rw [h];simp [go_sem,c,a]
theorem PN {p:Addr} {a:Option Addr} {c:Nat} {v0:Value} (x y:Operand) (h:o.op=.store 23 x y) (f:ρ x=aG (U p)) (g:ρ y=K a n c) (d:w.cell? p=U v0) (e:w.frozen? p=aK) :
  (execOp ρ o).run prog w=.ok .skip (w.setCell p (K a n c)):=by
 unfold execOp;rw [h];simp [go_sem,f,g,d,e]
theorem QL (v1:Value) (w:World):Sem.run prog (callFunc 32 #[v1]) w=.ok (.enter 32 #[v1]) w:=Z
theorem XR (d:BD) (h:BH) (pa:Option Addr) (pb po pn pc:Nat) (ts:List kJ) (hM:rU w d h) (hT:lN w pa pb po pn ts) (hs:d.small) :
  Calls prog 9 #[aI (nN d h),aI #[K pa pn pc]] w fun e w'=>(∃ d',Pq e w.heap.size w' d'∧CP d ts d')∧Below w.heap.size w w':=by
 obtain ⟨i0,ft,gg,gh,gi⟩:=info_parts Tryz.infoSt;obtain ⟨i3,ib,ig,ij,ik⟩:=info_parts Tryz.infoJb;obtain ⟨i4,ic,il,im,iq⟩:=info_parts Tryz.infoSe;obtain ⟨W, hW⟩ := kC (((w.alloc (aH (nN d h) 30)).alloc (aH #[K pa pn pc] 33)).alloc (aH ni 30));have B0:Below w.heap.size w W:=jS;have z0:w.heap.size+3≤W.heap.size:=dF;have P0:CF W w.heap.size (nR d h):=by
  rw [hW];exact ((CF.made w (nN d h) 30).block (kU _ _ _ D)).block (kU _ _ _ aQ)
 have L0:CF W (w.heap.size+1) [K pa pn pc]:=by
  rw [hW];have:=(CF.made (w.alloc (aH (nN d h) 30)) #[K pa pn pc] 33).block (kU ((w.alloc (aH (nN d h) 30)).alloc (aH #[K pa pn pc] 33)) (aH ni 30) _ D);simpa using this
 have R0:CF W (w.heap.size+2) zB:=by
  rw [hW];have:=CF.made ((w.alloc (aH (nN d h) 30)).alloc (aH #[K pa pn pc] 33)) ni 30;simpa [zB] using this
 have fq:EP w d (nR d h):=⟨h,rfl,hM⟩
 have hV:=hid (fq.below' B0);have ga:=hid hs;clear fq hs;have HW:=hid hW;clear hW;go_enter func9,ntmps9
 go_upto_region 1 with fail
 rw [← HW.out];clear HW;obtain ⟨y0,y1,y2,y3,y4,y5,y6,y7,y8,y9,ay,bb⟩:=l9 P0;have kp:W.cell? ⟨w.heap.size+1,0,C⟩=U (K pa pn pc):=(L0 0 D).1;go_wp2_with fail
 refine (OW d pa pb po pn pc ts hV.out (hT.below' B0) ga.out).mono ?_;rintro e w1 ⟨⟨r,rfl,hr⟩,c5⟩;clear y0 y1 y2 y3 y4 y5 y6 y7 y8 y9 ay bb kp;have L1:=L0.block (c5.block (w.heap.size+1) A);have P1:=P0.block (c5.block w.heap.size A);have R1:=R0.block (c5.block (w.heap.size+2) A);have B1:=B0.trans (c5.mono B0.size);have z1:w.heap.size+3≤w1.heap.size:=by have:=c5.size;omega
 have HR:=hid hr;clear hr c5 P0 R0 B0 z0 L0;cases r with
 | false =>
  have HN:Hid (¬ d.ok ts):=fun c=>by have:=HR.out.2 c;cases this
  go_upto_region 2 with fail
  go_wp2_with (refine jY rfl 30 (F 4) (F 10) rfl (w.heap.size+2) zB FB rfl rfl R1 rfl Tryz.sizeBo (nP) ?_;intro dx bm T)
  obtain ⟨k0,k1,k2,k3,k4,k5,k6,k7,k8,k9,bq,br⟩:=l9 bm;exact bodyPost_ret (v:=aI ni) bV rfl ⟨⟨rM,⟨_,rfl,TJ _ _⟩,.inr ⟨HN.out,rfl⟩⟩,below_grown B1 T A (fun q V=>jD)⟩
 | true =>
  have HV:Hid (d.ok ts):=HR.out.1 rfl;have ie:=ga.out;unfold BD.small at ie;obtain ⟨⟨b1,o1,h1⟩,⟨b2,o2,h2⟩,⟨b3,o3,h3⟩,⟨b4,o4,h4⟩,⟨b5,o5,Q⟩,⟨b6,o6,h6⟩⟩:=hM;obtain ⟨y0,y1,y2,y3,y4,y5,y6,y7,y8,y9,ay,bb⟩:=l9 P1;go_upto_region 4 with (first | (go_at_call 30;refine (Ll d.wk d.up d.now d.sn d.ep d.gv h.a1 h.a2 h.ar h.aj h.az h.ao b1 o1 h.c1 b2 o2 h.c2 b3 o3 h.cr b4 o4 h.cj b5 o5 h.cs b6 o6 h.co d.L1 d.L2 d.R d.J d.S d.O (h1.below' B1) (h2.below' B1) (h3.below' B1) (h4.below' B1) (Q.below' B1) (h6.below' B1) A A A A A A).mono ?_;rintro e w2 ⟨af,ah,o,u,ak,al,ag,ai,aa,ab,M,N,rfl,⟨q0,q1,q2,q3,q4,q5⟩,fs,c6⟩;have P2:=P1.block (c6.block w.heap.size A);have L2:=L1.block (c6.block (w.heap.size+1) A);have R2:=R1.block (c6.block (w.heap.size+2) A);have B2:=B1.trans (c6.mono B1.size);have z2:w.heap.size+3≤w2.heap.size:=(by have:=c6.size;omega)) | (refine jY rfl 30 (F 2) (F 12) rfl w.heap.size (nR d h) [I Y d.wk,aF d.up,I Y d.now,I Y d.sn,I Y d.ep,I Y d.gv,K af d.L1.length ah,K o d.L2.length u,K ak d.R.length al,K ag d.J.length ai,K aa d.S.length ab,K M d.O.length N] rfl rfl P2 rfl Tryz.sizeBo (nP) ?_;intro w3 P3 ae))
  have L3:=L2.block (ae.block (w.heap.size+1) A (by intro c;injection c with c;omega));have R3:=R2.block (ae.block (w.heap.size+2) A (by intro c;injection c with c;omega));have B3:=below_grown B2 ae A (fun q V=>jD);have z3:w.heap.size+3≤w3.heap.size:=lH z2 ae.size;have S3:nU w pa pn pc [I Y d.wk,aF d.up,I Y d.now,I Y d.sn,I Y d.ep,I Y d.gv,K af d.L1.length ah,K o d.L2.length u,K ak d.R.length al,K ag d.J.length ai,K aa d.S.length ab,K M d.O.length N] w3:=⟨P3,L3,R3,B3,z3⟩
  have eb:=(q0.grown ae (.inr (by intro c;have:=q0.ku _ c;omega))).mono' z1;have bc:=(q1.grown ae (.inr (by intro c;have:=q1.ku _ c;omega))).mono' z1;have e0:=(q2.grown ae (.inr (by intro c;have:=q2.ku _ c;omega))).mono' z1;have e5:=(q3.grown ae (.inr (by intro c;have:=q3.ku _ c;omega))).mono' z1;have e8:=(q4.grown ae (.inr (by intro c;have:=q4.ku _ c;omega))).mono' z1;have b9:=(q5.grown ae (.inr (by intro c;have:=q5.ku _ c;omega))).mono' z1;have dg:=hid fs;clear y0 y1 y2 y3 y4 y5 y6 y7 y8 y9 ay bb fs c6 P2 L2 R2 B2 z2 ae q0 q1 q2 q3 q4 q5 P1 L1 R1 B1 P3 L3 R3 B3 z3 z1;have kp:w3.cell? ⟨w.heap.size+1,0,C⟩=U (K pa pn pc):=(S3.L 0 D).1;obtain ⟨-,-,-,-,-,-,y6,y7⟩:=ER S3.P;obtain ⟨b7,o7,gb,_⟩:=eb.xP h1.sz;obtain ⟨b8,o8,gd,_⟩:=bc.xP h2.sz;go_wp2_with fail
  refine (IU pa pb po pn pc ts af o b7 o7 _ ah b8 o8 _ u d.L1 d.L2 (hT.below' S3.B) gb gd A A).mono ?_;rintro e l ⟨⟨cc,a,R,v,rfl,et,ea⟩,cd⟩;obtain ⟨rfl,iv,ia,fp,iu⟩:=BD.abg HV.out et;clear ia;obtain ⟨p,H,rfl⟩:=ea.slc;have S4:=S3.below cd;have eu:=eb.below cd kL;have aw:=bc.below cd kL;have gj:=e0.below cd kL;have gm:=e5.below cd kL;have gp:=e8.below cd kL;have ax:=b9.below cd kL;have av:=ea.mono' S3.z;have cu:=ea.ku;have dy:Hid (Dj (K af d.L1.length ah).ownBlock (K p R.length H).ownBlock):=Dj.later eb.kD cu;have ha:Hid (Dj (K o d.L2.length u).ownBlock (K p R.length H).ownBlock):=Dj.later bc.kD cu;have hf:Hid (Dj (K ak d.R.length al).ownBlock (K p R.length H).ownBlock):=Dj.later e0.kD cu;have hg:Hid (Dj (K ag d.J.length ai).ownBlock (K p R.length H).ownBlock):=Dj.later e5.kD cu;have hj:Hid (Dj (K aa d.S.length ab).ownBlock (K p R.length H).ownBlock):=Dj.later e8.kD cu;have hk:Hid (Dj (K M d.O.length N).ownBlock (K p R.length H).ownBlock):=Dj.later b9.kD cu;have ff:=hid eu.kD;clear kp y6 y7 gb gd cd S3 ea cu eb bc e0 e5 e8 b9;obtain ⟨W4, a6⟩ := kC (l.alloc (aH #[I Y 0,I Y a,K p R.length H] 41));have S5:nU w pa pn pc [I Y d.wk,aF d.up,I Y d.now,I Y d.sn,I Y d.ep,I Y d.gv,K af d.L1.length ah,K o d.L2.length u,K ak d.R.length al,K ag d.J.length ai,K aa d.S.length ab,K M d.O.length N] W4:=by rw [a6];exact S4.alloc _
  have T5:CF W4 l.heap.size [I Y 0,I Y a,K p R.length H]:=by rw [a6];exact CF.made l #[I Y 0,I Y a,K p R.length H] 41
  have t5:w.heap.size+3≤l.heap.size∧l.heap.size<W4.heap.size:=⟨S4.z,by rw [a6];simp⟩
  have ec:Own (w.heap.size+3) W4 1 (K af d.L1.length ah) d.L1.length (d.L1.map E):=by rw [a6];exact eu.alloc _
  have bd:Own (w.heap.size+3) W4 1 (K o d.L2.length u) d.L2.length (d.L2.map E):=by rw [a6];exact aw.alloc _
  have ed:Own (w.heap.size+3) W4 1 (K ak d.R.length al) d.R.length (d.R.map E):=by rw [a6];exact gj.alloc _
  have ee:Own (w.heap.size+3) W4 3 (K ag d.J.length ai) d.J.length (c3 d.J):=by rw [a6];exact gm.alloc _
  have ef:Own (w.heap.size+3) W4 2 (K aa d.S.length ab) d.S.length (c2 d.S):=by rw [a6];exact gp.alloc _
  have bf:Own (w.heap.size+3) W4 3 (K M d.O.length N) d.O.length (c3 d.O):=by rw [a6];exact ax.alloc _
  have cg:Own (w.heap.size+3) W4 1 (K p R.length H) R.length (R.map E):=by rw [a6];exact av.alloc _
  have fk:=hid a6;have fj:=hid et;clear a6 S4 av et eu aw gj gm gp ax;go_upto_region 5 with fail
  rw [← fk.out];clear fk;have y1:W4.cell? ⟨w.heap.size,1,C⟩=U (aF d.up):=(S5.P 1 D).1;cases cy:d.up with
  | true =>
   rw [cy] at y1;have ct:=hid cy;clear cy;go_upto_region 6 with fail
   clear y1;obtain ⟨y0,y1,y2,y3,y4,y5,y6,y7,y8,y9,ay,bb⟩:=l9 S5.P;go_wp2_with (refine jY rfl 30 (F 4) (F 30) rfl (w.heap.size+2) zB [I Y d.wk,aF d.up,I Y d.now,I Y d.sn,I Y d.ep,I Y d.gv,K af d.L1.length ah,K o d.L2.length u,K ak d.R.length al,K ag d.J.length ai,K aa d.S.length ab,K M d.O.length N] rfl rfl S5.R rfl Tryz.sizeBo (nP) ?_;intro dx bm T)
   clear y0 y1 y2 y3 y4 y5 y6 y7 y8 y9 ay bb;obtain ⟨k0,k1,k2,k3,k4,k5,k6,k7,k8,k9,bq,br⟩:=l9 bm;refine bodyPost_ret (v:=aI #[I Y d.wk,aF d.up,I Y d.now,I Y d.sn,I Y d.ep,I Y d.gv,K af d.L1.length ah,K o d.L2.length u,K ak d.R.length al,K ag d.J.length ai,K aa d.S.length ab,K M d.O.length N]) bV rfl ⟨⟨d,⟨⟨af,o,ak,ag,aa,M,ah,u,al,ai,ab,N⟩,rfl,⟨(ec.grown T (.inr (by intro c;have:=ec.ku _ c;omega))).mono' A,(bd.grown T (.inr (by intro c;have:=bd.ku _ c;omega))).mono' A,(ed.grown T (.inr (by intro c;have:=ed.ku _ c;omega))).mono' A,(ee.grown T (.inr (by intro c;have:=ee.ku _ c;omega))).mono' A,(ef.grown T (.inr (by intro c;have:=ef.ku _ c;omega))).mono' A,(bf.grown T (.inr (by intro c;have:=bf.ku _ c;omega))).mono' A,dg.out⟩⟩,.inl ⟨HV.out,.inl ⟨ct.out,rfl⟩⟩⟩,below_grown S5.B T (by have:=S5.z;omega) (fun q V=>jD)⟩
  | false =>
   rw [cy] at y1;have HT:Hid (told d ts a R):=BD.abd HV.out cy fj.out;have ct:=hid cy;clear cy fj;obtain ⟨-,-,-,-,-,-,y6,y7⟩:=ER S5.P;go_wp2_with fail
   refine (size_any af o d.L1.length ah d.L2.length u A A).mono ?_;rintro e w5 ⟨rfl,ba⟩;have S6:=S5.below ba;have T6:=T5.block (ba.block _ t5.2);have t6:w.heap.size+3≤l.heap.size∧l.heap.size<w5.heap.size:=⟨t5.1,lu t5.2 ba.size⟩
   have c9:=ec.below ba kL;have bw:=bd.below ba kL;have db:=ed.below ba kL;have dc:=ee.below ba kL;have de:=ef.below ba kL;have ca:=bf.below ba kL;have dq:=cg.below ba kL;have fg:=hid (show d.L2.length=0 by rw [BD.dn HV.out ct.out];rfl);clear y1 y6 y7 ba S5 T5 t5 cg ec bd ed ee ef bf;by_cases c1:((d.L1.length+d.L2.length:Nat):Int)=310
   ·have hn:=hid (show 310≤d.L1.length by have Q:=fg.out;omega)
    go_upto_region 6 with fail
    clear c1;obtain ⟨y0,y1,y2,y3,y4,y5,y6,y7,y8,y9,ay,bb⟩:=l9 S6.P;go_wp2_with (refine jY rfl 30 (F 4) (F 30) rfl (w.heap.size+2) zB [I Y d.wk,aF d.up,I Y d.now,I Y d.sn,I Y d.ep,I Y d.gv,K af d.L1.length ah,K o d.L2.length u,K ak d.R.length al,K ag d.J.length ai,K aa d.S.length ab,K M d.O.length N] rfl rfl S6.R rfl Tryz.sizeBo (nP) ?_;intro dx bm T)
    clear y0 y1 y2 y3 y4 y5 y6 y7 y8 y9 ay bb;obtain ⟨k0,k1,k2,k3,k4,k5,k6,k7,k8,k9,bq,br⟩:=l9 bm;refine bodyPost_ret (v:=aI #[I Y d.wk,aF d.up,I Y d.now,I Y d.sn,I Y d.ep,I Y d.gv,K af d.L1.length ah,K o d.L2.length u,K ak d.R.length al,K ag d.J.length ai,K aa d.S.length ab,K M d.O.length N]) bV rfl ⟨⟨d,⟨⟨af,o,ak,ag,aa,M,ah,u,al,ai,ab,N⟩,rfl,⟨(c9.grown T (.inr (by intro c;have:=c9.ku _ c;omega))).mono' A,(bw.grown T (.inr (by intro c;have:=bw.ku _ c;omega))).mono' A,(db.grown T (.inr (by intro c;have:=db.ku _ c;omega))).mono' A,(dc.grown T (.inr (by intro c;have:=dc.ku _ c;omega))).mono' A,(de.grown T (.inr (by intro c;have:=de.ku _ c;omega))).mono' A,(ca.grown T (.inr (by intro c;have:=ca.ku _ c;omega))).mono' A,dg.out⟩⟩,.inl ⟨HV.out,.inr ⟨ct.out,a,R,HT.out,.inl ⟨.inl hn.out,rfl⟩⟩⟩⟩,below_grown S6.B T jO (fun q V=>jD)⟩
   ·have y1:w5.cell? ⟨l.heap.size,1,C⟩=U (I Y a):=(T6 1 D).1
    by_cases c2:a=300
    ·have ho:=hid (show 300≤a by omega)
     subst c2;go_upto_region 6 with fail
     clear c1 y1;obtain ⟨y0,y1,y2,y3,y4,y5,y6,y7,y8,y9,ay,bb⟩:=l9 S6.P;go_wp2_with (refine jY rfl 30 (F 4) (F 30) rfl (w.heap.size+2) zB [I Y d.wk,aF d.up,I Y d.now,I Y d.sn,I Y d.ep,I Y d.gv,K af d.L1.length ah,K o d.L2.length u,K ak d.R.length al,K ag d.J.length ai,K aa d.S.length ab,K M d.O.length N] rfl rfl S6.R rfl Tryz.sizeBo (nP) ?_;intro dx bm T)
     clear y0 y1 y2 y3 y4 y5 y6 y7 y8 y9 ay bb;obtain ⟨k0,k1,k2,k3,k4,k5,k6,k7,k8,k9,bq,br⟩:=l9 bm;refine bodyPost_ret (v:=aI #[I Y d.wk,aF d.up,I Y d.now,I Y d.sn,I Y d.ep,I Y d.gv,K af d.L1.length ah,K o d.L2.length u,K ak d.R.length al,K ag d.J.length ai,K aa d.S.length ab,K M d.O.length N]) bV rfl ⟨⟨d,⟨⟨af,o,ak,ag,aa,M,ah,u,al,ai,ab,N⟩,rfl,⟨(c9.grown T (.inr (by intro c;have:=c9.ku _ c;omega))).mono' A,(bw.grown T (.inr (by intro c;have:=bw.ku _ c;omega))).mono' A,(db.grown T (.inr (by intro c;have:=db.ku _ c;omega))).mono' A,(dc.grown T (.inr (by intro c;have:=dc.ku _ c;omega))).mono' A,(de.grown T (.inr (by intro c;have:=de.ku _ c;omega))).mono' A,(ca.grown T (.inr (by intro c;have:=ca.ku _ c;omega))).mono' A,dg.out⟩⟩,.inl ⟨HV.out,.inr ⟨ct.out,300,R,HT.out,.inl ⟨.inr ho.out,rfl⟩⟩⟩⟩,below_grown S6.B T jO (fun q V=>jD)⟩
    ·have hp:=hid (show d.L1.length<310 by have Q:=HT.out.2.1;have h6:=fg.out;omega)
     have HE:=hid (show a<300 by omega);have ir:w5.cell? ⟨w.heap.size,1,C⟩=U (aF d.up):=(S6.P 1 D).1;have h9:w5.frozen? ⟨w.heap.size,1,C⟩=aK:=(S6.P 1 D).2;have hz:(((d.L1.length+d.L2.length:Nat):Int) == 310)=aK:=beq_eq_false_iff_ne.2 c1;have h0:(a == 300)=aK:=beq_eq_false_iff_ne.2 c2;go_upto_region 8 with fail
     clear c1 c2 hz h0 y1 ir h9;obtain ⟨w7, a7⟩ := kC (w5.setCell ⟨w.heap.size,1,C⟩ (aF aN));have S7:nU w pa pn pc [I Y d.wk,aF aN,I Y d.now,I Y d.sn,I Y d.ep,I Y d.gv,K af d.L1.length ah,K o d.L2.length u,K ak d.R.length al,K ag d.J.length ai,K aa d.S.length ab,K M d.O.length N] w7:=by rw [a7];exact S6.set 1 D (aF aN)
     have T7:CF w7 l.heap.size [I Y 0,I Y a,K p R.length H]:=by rw [a7];exact T6.block (nK w5 (⟨w.heap.size,1,C⟩:Addr) _ l.heap.size aT)
     have ew:=c9.mP (j:=1) (show w.heap.size<w.heap.size+3 by omega) (aF aN);rw [← a7] at ew;have bz:=bw.mP (j:=1) (show w.heap.size<w.heap.size+3 by omega) (aF aN);rw [← a7] at bz;have e3:=db.mP (j:=1) (show w.heap.size<w.heap.size+3 by omega) (aF aN);rw [← a7] at e3;have e6:=dc.mP (j:=1) (show w.heap.size<w.heap.size+3 by omega) (aF aN);rw [← a7] at e6;have e9:=de.mP (j:=1) (show w.heap.size<w.heap.size+3 by omega) (aF aN);rw [← a7] at e9;have cb:=ca.mP (j:=1) (show w.heap.size<w.heap.size+3 by omega) (aF aN);rw [← a7] at cb;have bo:=dq.mP (j:=1) (show w.heap.size<w.heap.size+3 by omega) (aF aN);rw [← a7] at bo;rw [← a7];have iz:w7.heap.size=w5.heap.size:=by rw [a7];simp [World.setCell]
     clear a7;clear S6 T6 c9 bw db dc de ca dq;have y4:w7.cell? ⟨w.heap.size,4,C⟩=U (I Y d.ep):=(S7.P 4 D).1;have f4:w7.frozen? ⟨w.heap.size,4,C⟩=aK:=(S7.P 4 D).2;have e1:w7.cell? ⟨l.heap.size,1,C⟩=U (I Y a):=(T7 1 D).1;go_upto_region 9 with fail
     clear y4 f4 e1;obtain ⟨w8, a8⟩ := kC (w7.setCell ⟨w.heap.size,4,C⟩ (I Y (a+1)));have S8:nU w pa pn pc [I Y d.wk,aF aN,I Y d.now,I Y d.sn,I Y (a+1),I Y d.gv,K af d.L1.length ah,K o d.L2.length u,K ak d.R.length al,K ag d.J.length ai,K aa d.S.length ab,K M d.O.length N] w8:=by rw [a8];exact S7.set 4 D (I Y (a+1))
     have T8:CF w8 l.heap.size [I Y 0,I Y a,K p R.length H]:=by rw [a8];exact T7.block (nK w7 (⟨w.heap.size,4,C⟩:Addr) _ l.heap.size aT)
     have ey:=ew.mP (j:=4) (show w.heap.size<w.heap.size+3 by omega) (I Y (a+1));rw [← a8] at ey;have da:=bz.mP (j:=4) (show w.heap.size<w.heap.size+3 by omega) (I Y (a+1));rw [← a8] at da;have e4:=e3.mP (j:=4) (show w.heap.size<w.heap.size+3 by omega) (I Y (a+1));rw [← a8] at e4;have e7:=e6.mP (j:=4) (show w.heap.size<w.heap.size+3 by omega) (I Y (a+1));rw [← a8] at e7;have fa:=e9.mP (j:=4) (show w.heap.size<w.heap.size+3 by omega) (I Y (a+1));rw [← a8] at fa;have df:=cb.mP (j:=4) (show w.heap.size<w.heap.size+3 by omega) (I Y (a+1));rw [← a8] at df;have c8:=bo.mP (j:=4) (show w.heap.size<w.heap.size+3 by omega) (I Y (a+1));rw [← a8] at c8;rw [← a8];have ja:w8.heap.size=w7.heap.size:=by rw [a8];simp [World.setCell]
     clear a8;clear S7 T7 ew bz e3 e6 e9 cb bo;have HD:=hid (BD.dn HV.out ct.out);have iy:=HT.out.2.2.2.2.2.2.2.2;have eg:=hid hT.len;have ix:pn≤40:=by rw [← eg.out];exact HT.out.2.2.2.2.2.2.2.1
     obtain ⟨bk, hU⟩ := kC w8.drew;have SU:nU w pa pn pc [I Y d.wk,aF aN,I Y d.now,I Y d.sn,I Y (a+1),I Y d.gv,K af d.L1.length ah,K o d.L2.length u,K ak d.R.length al,K ag d.J.length ai,K aa d.S.length ab,K M d.O.length N] bk:=by rw [hU];exact S8.drew
     have TU:CF bk l.heap.size [I Y 0,I Y a,K p R.length H]:=by rw [hU];exact T8
     have tU:w.heap.size+3≤l.heap.size∧l.heap.size<bk.heap.size:=by rw [hU];exact ⟨t6.1,by have Q:=t6.2;show _<w8.heap.size;omega⟩
     have cl:=ey.DT;rw [← hU] at cl;have cm:=da.DT;rw [← hU] at cm;have gl:=e4.DT;rw [← hU] at gl;have gn:=e7.DT;rw [← hU] at gn;have gq:=fa.DT;rw [← hU] at gq;have cn:=df.DT;rw [← hU] at cn;have ch:=c8.DT;rw [← hU] at ch;clear S8 T8 t6 ey da e4 e7 fa df c8;have hd:=dg.out;simp only [rW,mG,mF,or_false,forall_eq_or_imp,forall_eq,List.Pairwise.nil,and_true,false_implies,implies_true] at hd;obtain ⟨⟨cp,gr,gu,gw,cq⟩,⟨gx,gy,gz,fe⟩,_⟩:=hd;have hl:=hid fe;have cp:=hid cp;have cq:=hid cq;clear gr gu gw gx gy gz fe hf hg hj dg gl gn gq ;rw [hU] at SU TU tU cl cm cn ch;clear hU;go_cut [4] (fun sv wx=>∃ (g:Option Addr) (k:Nat),sv=aG (U ⟨w.heap.size+2,0,C⟩)∧nU w pa pn pc [I Y d.wk,aF aN,I Y d.now,I Y d.sn,I Y (a+1),I Y d.gv,K g (d.L1.length+1) k,K o d.L2.length u,K ak d.R.length al,K ag d.J.length ai,K aa d.S.length ab,K M d.O.length N] wx∧CF wx l.heap.size [I Y 0,I Y a,K p R.length H]∧l.heap.size<wx.heap.size∧Own (w.heap.size+3) wx 1 (K g (d.L1.length+1) k) (d.L1.length+1) ((d.L1 ++ [lS 1 (a+1) 0 ⟨#[]⟩]).map E)∧Own (w.heap.size+3) wx 1 (K o d.L2.length u) d.L2.length (d.L2.map E)∧Own (w.heap.size+3) wx 3 (K M d.O.length N) d.O.length (c3 d.O)∧Own (w.heap.size+3) wx 1 (K p R.length H) R.length (R.map E)∧Dj (K g (d.L1.length+1) k).ownBlock (K o d.L2.length u).ownBlock∧Dj (K g (d.L1.length+1) k).ownBlock (K M d.O.length N).ownBlock∧Dj (K g (d.L1.length+1) k).ownBlock (K p R.length H).ownBlock)
     case first =>
      refine wp_region_held (S:=fun w'=>w'.cell? ⟨w.heap.size,4,C⟩=U (I Y (a+1))) Z ?_;change wpAnyH _ _ _ _ _ _ _ _ (World.drew _);obtain ⟨bk, hU⟩ := kC w8.drew;rw [← hU] at SU TU tU cl cm cn ch;rw [← hU];clear hU;have cU:=(SU.P 4 D).1;refine jZ (i:=0) (d:=U 36) (v:=aG (U ⟨w.heap.size,6,C⟩)) (l':=(bt 12 1)) rfl (fun _ hc=>Z) cU ?_;refine jZ (i:=1) (d:=U 37) (v:=aG (U ⟨w.heap.size,6,C⟩)) (l':=(bt 12 3)) rfl (fun _ hc=>Z) cU ?_;refine jZ (i:=3) (d:=U 39) (v:=aG (U ⟨w.heap.size,4,C⟩)) (l':=(bt 12 11)) rfl (fun _ hc=>Z) cU ?_;refine jZ (i:=4) (d:=U 40) (v:=I Y (a+1)) (l':=(bt 12 27)) rfl (fun _ hc=>oL (F 39) Z Z hc) cU ?_;refine jZ (i:=5) (d:=U 41) (v:=aI #[I Y 1,I Y (a+1),I Y 0,E ⟨#[]⟩]) (l':=(bt 12 59)) rfl (fun _ hc=>V7 (F 40) (a+1) Z Z Z) cU ?_;refine nT (i:=2) (j:=6) Z (kM (i:=2) (d:=U 38) (v:=K af d.L1.length ah) (w':=bk) (l':=(bt 12 63)) rfl Z Z Z (pY (F 37) Z Z (SU.P 6 D).1) cU ?_) (kZ (i:=6) (d:=U 42) (f:=32) (args:=#[aI #[I Y 1,I Y (a+1),I Y 0,E ⟨#[]⟩]]) (l':=(bt 12 123)) (R:=fun v w'=>v=E (lS 1 (a+1) 0 ⟨#[]⟩)∧Below bk.heap.size bk w') rfl Z Z Z (lW _ _ rfl Z rfl QL) ((MS 1 (a+1) 0 ⟨#[]⟩).mono fun _ _ ⟨⟨r,he,hi⟩,hb⟩=>⟨_,he,by rw [hi.new fp HE.out],hb⟩) ?_)
      ·refine kF Z (kZ (i:=6) (d:=U 42) (f:=32) (args:=#[aI #[I Y 1,I Y (a+1),I Y 0,E ⟨#[]⟩]]) (l':=(bt 12 127)) (R:=fun v w'=>v=E (lS 1 (a+1) 0 ⟨#[]⟩)∧Below bk.heap.size bk w') rfl Z Z Z (lW _ _ rfl Z rfl QL) ((MS 1 (a+1) 0 ⟨#[]⟩).mono fun _ _ ⟨⟨r,he,hi⟩,hb⟩=>⟨_,he,by rw [hi.new fp HE.out],hb⟩) ?_)
       rintro _ u1 ⟨rfl,au⟩;have S1:=SU.below au;have T1:=TU.block (au.block _ tU.2);have t1:w.heap.size+3≤l.heap.size∧l.heap.size<u1.heap.size:=⟨tU.1,lu tU.2 au.size⟩
       have dz:=(S1.P 4 D).1;have dt:=cl.below au kL;have du:=cm.below au kL;have dv:=cn.below au kL;have dm:=ch.below au kL;refine ⟨dz,?_⟩;clear au SU TU tU cl cm cn ch;obtain ⟨u2, an⟩ := kC (u1.alloc (aH #[E (lS 1 (a+1) 0 ⟨#[]⟩)] 9));have S2:nU w pa pn pc [I Y d.wk,aF aN,I Y d.now,I Y d.sn,I Y (a+1),I Y d.gv,K af d.L1.length ah,K o d.L2.length u,K ak d.R.length al,K ag d.J.length ai,K aa d.S.length ab,K M d.O.length N] u2:=by rw [an];exact S1.alloc _
       have T2:CF u2 l.heap.size [I Y 0,I Y a,K p R.length H]:=by rw [an];exact T1.block (kU _ _ _ t1.2)
       have t2:w.heap.size+3≤l.heap.size∧l.heap.size<u2.heap.size:=⟨t1.1,by rw [an];simp;omega⟩
       have ds:Own (w.heap.size+3) u2 1 (K (U ⟨u1.heap.size,0,C⟩) 1 1) 1 [E (lS 1 (a+1) 0 ⟨#[]⟩)]:=by
        rw [an];exact .inr ⟨_,0,1,rfl,kW.made u1 (w.heap.size+3) 9 1 1 1 _ 1 S1.z kL G rfl kL _ rfl _ (.inl rfl)⟩
       have dw:Src prog 1 23 _ 1 _ u2:=ds.src underlying23 dY;have bs:=dt.alloc (aH #[E (lS 1 (a+1) 0 ⟨#[]⟩)] 9);rw [← an] at bs;have bu:=du.alloc (aH #[E (lS 1 (a+1) 0 ⟨#[]⟩)] 9);rw [← an] at bu;have b0:=dv.alloc (aH #[E (lS 1 (a+1) 0 ⟨#[]⟩)] 9);rw [← an] at b0;have bn:=dm.alloc (aH #[E (lS 1 (a+1) 0 ⟨#[]⟩)] 9);rw [← an] at bn;obtain ⟨v3,u3,cx,cw,ae,bl⟩:=l7 (P:=prog) u2 (w.heap.size+3) 23 23 23 9 i0 (E ⟨#[]⟩) 1 16 underlying23 ft gg gh gi rfl _ d.L1.length _ bs _ 1 _ dw G A S2.z;obtain ⟨g,k,rfl⟩:=cw.slc;have dr:=bs.ku;have S3:=S2.grown ae dr;have T3:=T2.block (ae.block _ t2.2 (fun e=>by have Q:=ff.out _ e.symm;omega));have t3:w.heap.size+3≤l.heap.size∧l.heap.size<u3.heap.size:=⟨t2.1,lu t2.2 ae.size⟩
       have bc:=bu.grown ae cp.out.symm;have b9:=b0.grown ae cq.out.symm;have dp:=bn.grown ae dy.out.symm;have bg:Dj (K g (d.L1.length+1) k).ownBlock (K o d.L2.length u).ownBlock:=by
        rcases bl with Q | Q
        ·rw [Q];exact cp.out
        ·exact (Dj.new bu.kD (.inr Q)).symm
       have bj:Dj (K g (d.L1.length+1) k).ownBlock (K M d.O.length N).ownBlock:=by
        rcases bl with Q | Q
        ·rw [Q];exact cq.out
        ·exact (Dj.new b0.kD (.inr Q)).symm
       have bh:Dj (K g (d.L1.length+1) k).ownBlock (K p R.length H).ownBlock:=by
        rcases bl with Q | Q
        ·rw [Q];exact dy.out
        ·exact (Dj.new bn.kD (.inr Q)).symm
       have y6:u3.cell? ⟨w.heap.size,6,C⟩=U (K af d.L1.length ah):=(S3.P 6 D).1;have f6:u3.frozen? ⟨w.heap.size,6,C⟩=aK:=(S3.P 6 D).2;obtain ⟨u4, aq⟩ := kC (u3.setCell ⟨w.heap.size,6,C⟩ (K g (d.L1.length+1) k));have S4:nU w pa pn pc [I Y d.wk,aF aN,I Y d.now,I Y d.sn,I Y (a+1),I Y d.gv,K g (d.L1.length+1) k,K o d.L2.length u,K ak d.R.length al,K ag d.J.length ai,K aa d.S.length ab,K M d.O.length N] u4:=by rw [aq];exact S3.set 6 D _
       have T4:CF u4 l.heap.size [I Y 0,I Y a,K p R.length H]:=jX;have t4:l.heap.size<u4.heap.size:=by have Q:=t3.2;rw [aq];simpa [World.setCell] using Q
       have cf:=cw.mP (j:=6) (show w.heap.size<w.heap.size+3 by omega) (K g (d.L1.length+1) k);have dh:Own (w.heap.size+3) u4 1 (K g (d.L1.length+1) k) (d.L1.length+1) ((d.L1 ++ [lS 1 (a+1) 0 ⟨#[]⟩]).map E):=by rw [aq,rD];exact cf
       have aw:=bc.mP (j:=6) (show w.heap.size<w.heap.size+3 by omega) (K g (d.L1.length+1) k);rw [← aq] at aw;have ax:=b9.mP (j:=6) (show w.heap.size<w.heap.size+3 by omega) (K g (d.L1.length+1) k);rw [← aq] at ax;have av:=dp.mP (j:=6) (show w.heap.size<w.heap.size+3 by omega) (K g (d.L1.length+1) k);rw [← aq] at av;have HR:=hid (show (∃ (g:Option Addr) (k:Nat),(aG (U ⟨w.heap.size+2,0,C⟩):Value)=aG (U ⟨w.heap.size+2,0,C⟩)∧nU w pa pn pc [I Y d.wk,aF aN,I Y d.now,I Y d.sn,I Y (a+1),I Y d.gv,K g (d.L1.length+1) k,K o d.L2.length u,K ak d.R.length al,K ag d.J.length ai,K aa d.S.length ab,K M d.O.length N] u4∧CF u4 l.heap.size [I Y 0,I Y a,K p R.length H]∧l.heap.size<u4.heap.size∧Own (w.heap.size+3) u4 1 (K g (d.L1.length+1) k) (d.L1.length+1) ((d.L1 ++ [lS 1 (a+1) 0 ⟨#[]⟩]).map E)∧Own (w.heap.size+3) u4 1 (K o d.L2.length u) d.L2.length (d.L2.map E)∧Own (w.heap.size+3) u4 3 (K M d.O.length N) d.O.length (c3 d.O)∧Own (w.heap.size+3) u4 1 (K p R.length H) R.length (R.map E)∧Dj (K g (d.L1.length+1) k).ownBlock (K o d.L2.length u).ownBlock∧Dj (K g (d.L1.length+1) k).ownBlock (K M d.O.length N).ownBlock∧Dj (K g (d.L1.length+1) k).ownBlock (K p R.length H).ownBlock) from ⟨g,k,rfl,S4,T4,t4,dh,aw,ax,av,bg,bj,bh⟩);have c2:=(S2.P 4 D).1;have l1:=(S1.P 6 D).1;have l2:=(S2.P 6 D).1;have c3:=(S3.P 4 D).1;have c4:=(S4.P 4 D).1;clear S1 S2 S3 S4 T1 T2 T3 T4 t1 t2 t3 t4 ds dw du bu dv b0 dt bs dm bn ae dr bg bj bh bc aw b9 ax dp av cf dh cw bl;refine kF Z (kM (i:=7) (d:=U 43) (v:=K (U ⟨u1.heap.size,0,C⟩) 1 1) (w':=u2) (l':=(bt 12 255)) rfl Z Z Z (by rw [an];exact Md (F 42) Z Z) c2 ?_);refine kF Z (kM (i:=8) (d:=U 44) (v:=K g (d.L1.length+1) k) (w':=u3) (l':=(bt 12 511)) rfl Z Z Z (ql (F 38) (F 43) 23 23 Z Z Z Z cx) c3 ?_);refine jZ (i:=9) (d:=U 45) (v:=aG (U ⟨w.heap.size,6,C⟩)) (l':=(bt 12 1023)) rfl (fun _ hc=>Z) c3 ?_;refine jZ (i:=10) (d:=U 46) (v:=aG (U ⟨w.heap.size,6,C⟩)) (l':=(bt 12 2047)) rfl (fun _ hc=>Z) c3 ?_;refine kF Z (lI (i:=11) (w':=u4) (l':=(bt 12 4095)) rfl Z Z Z jW c4 ?_);refine wpAnyH_done Z ?_ _;clear aq an cx y6 f6 c2 c3 c4 l1 l2;go_wp2_with fail
       go_meet
       case rel =>
        obtain ⟨g,k,-,c⟩:=HR.out;exact ⟨g,k,rfl,c⟩
      ·rintro _ u1 ⟨rfl,au⟩
       have S1:=SU.below au;have T1:=TU.block (au.block _ tU.2);have t1:w.heap.size+3≤l.heap.size∧l.heap.size<u1.heap.size:=⟨tU.1,lu tU.2 au.size⟩
       have dz:=(S1.P 4 D).1;have dt:=cl.below au kL;have du:=cm.below au kL;have dv:=cn.below au kL;have dm:=ch.below au kL;refine ⟨dz,?_⟩;clear au SU TU tU cl cm cn ch;obtain ⟨u2, an⟩ := kC (u1.alloc (aH #[E (lS 1 (a+1) 0 ⟨#[]⟩)] 9));have S2:nU w pa pn pc [I Y d.wk,aF aN,I Y d.now,I Y d.sn,I Y (a+1),I Y d.gv,K af d.L1.length ah,K o d.L2.length u,K ak d.R.length al,K ag d.J.length ai,K aa d.S.length ab,K M d.O.length N] u2:=by rw [an];exact S1.alloc _
       have T2:CF u2 l.heap.size [I Y 0,I Y a,K p R.length H]:=by rw [an];exact T1.block (kU _ _ _ t1.2)
       have t2:w.heap.size+3≤l.heap.size∧l.heap.size<u2.heap.size:=⟨t1.1,by rw [an];simp;omega⟩
       have ds:Own (w.heap.size+3) u2 1 (K (U ⟨u1.heap.size,0,C⟩) 1 1) 1 [E (lS 1 (a+1) 0 ⟨#[]⟩)]:=by
        rw [an];exact .inr ⟨_,0,1,rfl,kW.made u1 (w.heap.size+3) 9 1 1 1 _ 1 S1.z kL G rfl kL _ rfl _ (.inl rfl)⟩
       have dw:Src prog 1 23 _ 1 _ u2:=ds.src underlying23 dY;have bs:=dt.alloc (aH #[E (lS 1 (a+1) 0 ⟨#[]⟩)] 9);rw [← an] at bs;have bu:=du.alloc (aH #[E (lS 1 (a+1) 0 ⟨#[]⟩)] 9);rw [← an] at bu;have b0:=dv.alloc (aH #[E (lS 1 (a+1) 0 ⟨#[]⟩)] 9);rw [← an] at b0;have bn:=dm.alloc (aH #[E (lS 1 (a+1) 0 ⟨#[]⟩)] 9);rw [← an] at bn;obtain ⟨v3,u3,cx,cw,ae,bl⟩:=l7 (P:=prog) u2 (w.heap.size+3) 23 23 23 9 i0 (E ⟨#[]⟩) 1 16 underlying23 ft gg gh gi rfl _ d.L1.length _ bs _ 1 _ dw G A S2.z;obtain ⟨g,k,rfl⟩:=cw.slc;have dr:=bs.ku;have S3:=S2.grown ae dr;have T3:=T2.block (ae.block _ t2.2 (fun e=>by have Q:=ff.out _ e.symm;omega));have t3:w.heap.size+3≤l.heap.size∧l.heap.size<u3.heap.size:=⟨t2.1,lu t2.2 ae.size⟩
       have bc:=bu.grown ae cp.out.symm;have b9:=b0.grown ae cq.out.symm;have dp:=bn.grown ae dy.out.symm;have bg:Dj (K g (d.L1.length+1) k).ownBlock (K o d.L2.length u).ownBlock:=by
        rcases bl with Q | Q
        ·rw [Q];exact cp.out
        ·exact (Dj.new bu.kD (.inr Q)).symm
       have bj:Dj (K g (d.L1.length+1) k).ownBlock (K M d.O.length N).ownBlock:=by
        rcases bl with Q | Q
        ·rw [Q];exact cq.out
        ·exact (Dj.new b0.kD (.inr Q)).symm
       have bh:Dj (K g (d.L1.length+1) k).ownBlock (K p R.length H).ownBlock:=by
        rcases bl with Q | Q
        ·rw [Q];exact dy.out
        ·exact (Dj.new bn.kD (.inr Q)).symm
       have y6:u3.cell? ⟨w.heap.size,6,C⟩=U (K af d.L1.length ah):=(S3.P 6 D).1;have f6:u3.frozen? ⟨w.heap.size,6,C⟩=aK:=(S3.P 6 D).2;obtain ⟨u4, aq⟩ := kC (u3.setCell ⟨w.heap.size,6,C⟩ (K g (d.L1.length+1) k));have S4:nU w pa pn pc [I Y d.wk,aF aN,I Y d.now,I Y d.sn,I Y (a+1),I Y d.gv,K g (d.L1.length+1) k,K o d.L2.length u,K ak d.R.length al,K ag d.J.length ai,K aa d.S.length ab,K M d.O.length N] u4:=by rw [aq];exact S3.set 6 D _
       have T4:CF u4 l.heap.size [I Y 0,I Y a,K p R.length H]:=jX;have t4:l.heap.size<u4.heap.size:=by have Q:=t3.2;rw [aq];simpa [World.setCell] using Q
       have cf:=cw.mP (j:=6) (show w.heap.size<w.heap.size+3 by omega) (K g (d.L1.length+1) k);have dh:Own (w.heap.size+3) u4 1 (K g (d.L1.length+1) k) (d.L1.length+1) ((d.L1 ++ [lS 1 (a+1) 0 ⟨#[]⟩]).map E):=by rw [aq,rD];exact cf
       have aw:=bc.mP (j:=6) (show w.heap.size<w.heap.size+3 by omega) (K g (d.L1.length+1) k);rw [← aq] at aw;have ax:=b9.mP (j:=6) (show w.heap.size<w.heap.size+3 by omega) (K g (d.L1.length+1) k);rw [← aq] at ax;have av:=dp.mP (j:=6) (show w.heap.size<w.heap.size+3 by omega) (K g (d.L1.length+1) k);rw [← aq] at av;have HR:=hid (show (∃ (g:Option Addr) (k:Nat),(aG (U ⟨w.heap.size+2,0,C⟩):Value)=aG (U ⟨w.heap.size+2,0,C⟩)∧nU w pa pn pc [I Y d.wk,aF aN,I Y d.now,I Y d.sn,I Y (a+1),I Y d.gv,K g (d.L1.length+1) k,K o d.L2.length u,K ak d.R.length al,K ag d.J.length ai,K aa d.S.length ab,K M d.O.length N] u4∧CF u4 l.heap.size [I Y 0,I Y a,K p R.length H]∧l.heap.size<u4.heap.size∧Own (w.heap.size+3) u4 1 (K g (d.L1.length+1) k) (d.L1.length+1) ((d.L1 ++ [lS 1 (a+1) 0 ⟨#[]⟩]).map E)∧Own (w.heap.size+3) u4 1 (K o d.L2.length u) d.L2.length (d.L2.map E)∧Own (w.heap.size+3) u4 3 (K M d.O.length N) d.O.length (c3 d.O)∧Own (w.heap.size+3) u4 1 (K p R.length H) R.length (R.map E)∧Dj (K g (d.L1.length+1) k).ownBlock (K o d.L2.length u).ownBlock∧Dj (K g (d.L1.length+1) k).ownBlock (K M d.O.length N).ownBlock∧Dj (K g (d.L1.length+1) k).ownBlock (K p R.length H).ownBlock) from ⟨g,k,rfl,S4,T4,t4,dh,aw,ax,av,bg,bj,bh⟩);have c2:=(S2.P 4 D).1;have l1:=(S1.P 6 D).1;have l2:=(S2.P 6 D).1;have c3:=(S3.P 4 D).1;have c4:=(S4.P 4 D).1;clear S1 S2 S3 S4 T1 T2 T3 T4 t1 t2 t3 t4 ds dw du bu dv b0 dt bs dm bn ae dr bg bj bh bc aw b9 ax dp av cf dh cw bl;refine nT (i:=2) (j:=7) Z (kM (i:=2) (d:=U 38) (v:=K af d.L1.length ah) (w':=u1) (l':=(bt 12 127)) rfl Z Z Z (pY (F 37) Z Z l1) dz ?_) (kM (i:=7) (d:=U 43) (v:=K (U ⟨u1.heap.size,0,C⟩) 1 1) (w':=u2) (l':=(bt 12 251)) rfl Z Z Z (by rw [an];exact Md (F 42) Z Z) c2 ?_)
       ·refine kF Z (kM (i:=7) (d:=U 43) (v:=K (U ⟨u1.heap.size,0,C⟩) 1 1) (w':=u2) (l':=(bt 12 255)) rfl Z Z Z (by rw [an];exact Md (F 42) Z Z) c2 ?_)
        refine kF Z (kM (i:=8) (d:=U 44) (v:=K g (d.L1.length+1) k) (w':=u3) (l':=(bt 12 511)) rfl Z Z Z (ql (F 38) (F 43) 23 23 Z Z Z Z cx) c3 ?_);refine jZ (i:=9) (d:=U 45) (v:=aG (U ⟨w.heap.size,6,C⟩)) (l':=(bt 12 1023)) rfl (fun _ hc=>Z) c3 ?_;refine jZ (i:=10) (d:=U 46) (v:=aG (U ⟨w.heap.size,6,C⟩)) (l':=(bt 12 2047)) rfl (fun _ hc=>Z) c3 ?_;refine kF Z (lI (i:=11) (w':=u4) (l':=(bt 12 4095)) rfl Z Z Z jW c4 ?_);refine wpAnyH_done Z ?_ _;clear aq an cx y6 f6 c2 c3 c4 l1 l2;go_wp2_with fail
        go_meet
        case rel =>
         obtain ⟨g,k,-,c⟩:=HR.out;exact ⟨g,k,rfl,c⟩
       ·refine kF Z (kM (i:=2) (d:=U 38) (v:=K af d.L1.length ah) (w':=u2) (l':=(bt 12 255)) rfl Z Z Z (pY (F 37) Z Z l2) c2 ?_)
        refine kF Z (kM (i:=8) (d:=U 44) (v:=K g (d.L1.length+1) k) (w':=u3) (l':=(bt 12 511)) rfl Z Z Z (ql (F 38) (F 43) 23 23 Z Z Z Z cx) c3 ?_);refine jZ (i:=9) (d:=U 45) (v:=aG (U ⟨w.heap.size,6,C⟩)) (l':=(bt 12 1023)) rfl (fun _ hc=>Z) c3 ?_;refine jZ (i:=10) (d:=U 46) (v:=aG (U ⟨w.heap.size,6,C⟩)) (l':=(bt 12 2047)) rfl (fun _ hc=>Z) c3 ?_;refine kF Z (lI (i:=11) (w':=u4) (l':=(bt 12 4095)) rfl Z Z Z jW c4 ?_);refine wpAnyH_done Z ?_ _;clear aq an cx y6 f6 c2 c3 c4 l1 l2;go_wp2_with fail
        go_meet
        case rel =>
         obtain ⟨g,k,-,c⟩:=HR.out;exact ⟨g,k,rfl,c⟩
     case rest =>
      obtain ⟨g,k,rfl,S4,T4,t4,cf,aw,ax,av,bg,bj,bh⟩:=hcut;have bg:=hid bg;have bj:=hid bj;have bh:=hid bh;clear SU TU tU cl cm cn ch cp cq;obtain ⟨x4, rfl⟩ := kC wc;have y8:x4.cell? ⟨w.heap.size,8,C⟩=U (K ak d.R.length al):=(S4.P 8 D).1;have f8:x4.frozen? ⟨w.heap.size,8,C⟩=aK:=(S4.P 8 D).2;have e2:x4.cell? ⟨l.heap.size,2,C⟩=U (K p R.length H):=(T4 2 D).1;go_upto_region 11 with fail
      clear y8 f8 e2;obtain ⟨x5, cz⟩ := kC (x4.setCell ⟨w.heap.size,8,C⟩ (K p R.length H));have S5:nU w pa pn pc [I Y d.wk,aF aN,I Y d.now,I Y d.sn,I Y (a+1),I Y d.gv,K g (d.L1.length+1) k,K o d.L2.length u,K p R.length H,K ag d.J.length ai,K aa d.S.length ab,K M d.O.length N] x5:=by rw [cz];exact S4.set 8 D _
      have di:=cf.mP (j:=8) (show w.heap.size<w.heap.size+3 by omega) (K p R.length H);rw [← cz] at di;have bd:=aw.mP (j:=8) (show w.heap.size<w.heap.size+3 by omega) (K p R.length H);rw [← cz] at bd;have bf:=ax.mP (j:=8) (show w.heap.size<w.heap.size+3 by omega) (K p R.length H);rw [← cz] at bf;have cg:=av.mP (j:=8) (show w.heap.size<w.heap.size+3 by omega) (K p R.length H);rw [← cz] at cg;rw [← cz];clear cz S4 T4 t4 cf aw ax av;have kp:x5.cell? ⟨w.heap.size+1,0,C⟩=U (K pa pn pc):=(S5.L 0 D).1;go_upto_region 12 with (refine Ko rfl 26 rfl (w.heap.size+3) 61 i3 (aI rV) 3 24 underlying26 ib ig ij ik .i64 .i64 pn pn pn rfl rfl rfl rfl A G S5.z ?_;intro x6 eo c7;have S6:=S5.grown c7 (fun q V=>by cases V);have y9:x6.cell? ⟨w.heap.size,9,C⟩=U (K ag d.J.length ai):=(S6.P 9 D).1;have f9:x6.frozen? ⟨w.heap.size,9,C⟩=aK:=(S6.P 9 D).2)
      clear y9 f9 kp;rw [made3] at eo;have fx:Own (w.heap.size+3) x6 3 (K (U ⟨x5.heap.size,0,C⟩) pn pn) pn (c3 (List.replicate pn (0,0,0))):=.inr ⟨_,0,pn,rfl,eo⟩;have fv:=di.blk (fun q V=>c7.block q (di.kD q V) (fun e=>iY));have bw:=bd.blk (fun q V=>c7.block q (bd.kD q V) (fun e=>iY));have ca:=bf.blk (fun q V=>c7.block q (bf.kD q V) (fun e=>iY));have dq:=cg.blk (fun q V=>c7.block q (cg.kD q V) (fun e=>iY));have J0:Hid (Dj (K g (d.L1.length+1) k).ownBlock (U x5.heap.size)):=Dj.new di.kD (.inr rfl);have J1:Hid (Dj (K o d.L2.length u).ownBlock (U x5.heap.size)):=Dj.new bd.kD (.inr rfl);have J2:Hid (Dj (K p R.length H).ownBlock (U x5.heap.size)):=Dj.new cg.kD (.inr rfl);have J5:Hid (Dj (K M d.O.length N).ownBlock (U x5.heap.size)):=Dj.new bf.kD (.inr rfl);clear eo c7 di bd bf cg S5;obtain ⟨x7, ck⟩ := kC (x6.setCell ⟨w.heap.size,9,C⟩ (K (U ⟨x5.heap.size,0,C⟩) pn pn));have S7:nU w pa pn pc [I Y d.wk,aF aN,I Y d.now,I Y d.sn,I Y (a+1),I Y d.gv,K g (d.L1.length+1) k,K o d.L2.length u,K p R.length H,K (U ⟨x5.heap.size,0,C⟩) pn pn,K aa d.S.length ab,K M d.O.length N] x7:=by rw [ck];exact S6.set 9 D _
      have dj:=fv.mP (j:=9) (show w.heap.size<w.heap.size+3 by omega) (K (U ⟨x5.heap.size,0,C⟩) pn pn);rw [← ck] at dj;have bz:=bw.mP (j:=9) (show w.heap.size<w.heap.size+3 by omega) (K (U ⟨x5.heap.size,0,C⟩) pn pn);rw [← ck] at bz;have cb:=ca.mP (j:=9) (show w.heap.size<w.heap.size+3 by omega) (K (U ⟨x5.heap.size,0,C⟩) pn pn);rw [← ck] at cb;have bo:=dq.mP (j:=9) (show w.heap.size<w.heap.size+3 by omega) (K (U ⟨x5.heap.size,0,C⟩) pn pn);rw [← ck] at bo;have dk:=fx.mP (j:=9) (show w.heap.size<w.heap.size+3 by omega) (K (U ⟨x5.heap.size,0,C⟩) pn pn);rw [← ck] at dk;rw [← ck];clear ck S6 fv bw ca dq fx;have y0:x7.cell? ⟨w.heap.size,0,C⟩=U (I Y d.wk):=(S7.P 0 D).1;obtain ⟨X,fu⟩:∃ X:Nat,X=d.wk.toNat:=⟨_,rfl⟩
      have fh:=hid (show d.wk=(X:Int) by omega);have iw:X≤8:=A;have fi:=hid fu;clear fu;go_upto_region 13 with (refine Ko rfl 27 rfl (w.heap.size+3) 54 i4 (aI #[aF aK,I Y 0]) 2 16 underlying27 ic il im iq .i64 .i64 d.wk d.wk X rfl rfl fh.out fh.out A G S7.z ?_;intro x8 er cv;have S8:=S7.grown cv (fun q V=>by cases V);have ay:x8.cell? ⟨w.heap.size,10,C⟩=U (K aa d.S.length ab):=(S8.P 10 D).1;have f10:x8.frozen? ⟨w.heap.size,10,C⟩=aK:=(S8.P 10 D).2)
      clear ay f10 y0;rw [made2] at er;have fz:Own (w.heap.size+3) x8 2 (K (U ⟨x7.heap.size,0,C⟩) X X) X (c2 (List.replicate X (aK,0))):=.inr ⟨_,0,X,rfl,er⟩;have fw:=dj.blk (fun q V=>cv.block q (dj.kD q V) (fun e=>iY));have da:=bz.blk (fun q V=>cv.block q (bz.kD q V) (fun e=>iY));have df:=cb.blk (fun q V=>cv.block q (cb.kD q V) (fun e=>iY));have c8:=bo.blk (fun q V=>cv.block q (bo.kD q V) (fun e=>iY));have fy:=dk.blk (fun q V=>cv.block q (dk.kD q V) (fun e=>iY));have K0:Hid (Dj (K g (d.L1.length+1) k).ownBlock (U x7.heap.size)):=Dj.new dj.kD (.inr rfl);have K1:Hid (Dj (K o d.L2.length u).ownBlock (U x7.heap.size)):=Dj.new bz.kD (.inr rfl);have K2:Hid (Dj (K p R.length H).ownBlock (U x7.heap.size)):=Dj.new bo.kD (.inr rfl);have K3:Hid (Dj (K (U ⟨x5.heap.size,0,C⟩) pn pn).ownBlock (U x7.heap.size)):=Dj.new dk.kD (.inr rfl);have K5:Hid (Dj (K M d.O.length N).ownBlock (U x7.heap.size)):=Dj.new cb.kD (.inr rfl);clear er cv dj bz cb bo dk S7;obtain ⟨x9, bp⟩ := kC (x8.setCell ⟨w.heap.size,10,C⟩ (K (U ⟨x7.heap.size,0,C⟩) X X));have S9:nU w pa pn pc [I Y d.wk,aF aN,I Y d.now,I Y d.sn,I Y (a+1),I Y d.gv,K g (d.L1.length+1) k,K o d.L2.length u,K p R.length H,K (U ⟨x5.heap.size,0,C⟩) pn pn,K (U ⟨x7.heap.size,0,C⟩) X X,K M d.O.length N] x9:=by rw [bp];exact S8.set 10 D _
      have ei:=fw.mP (j:=10) (show w.heap.size<w.heap.size+3 by omega) (K (U ⟨x7.heap.size,0,C⟩) X X);rw [← bp] at ei;have ez:=da.mP (j:=10) (show w.heap.size<w.heap.size+3 by omega) (K (U ⟨x7.heap.size,0,C⟩) X X);rw [← bp] at ez;have fb:=df.mP (j:=10) (show w.heap.size<w.heap.size+3 by omega) (K (U ⟨x7.heap.size,0,C⟩) X X);rw [← bp] at fb;have ek:=c8.mP (j:=10) (show w.heap.size<w.heap.size+3 by omega) (K (U ⟨x7.heap.size,0,C⟩) X X);rw [← bp] at ek;have ej:=fy.mP (j:=10) (show w.heap.size<w.heap.size+3 by omega) (K (U ⟨x7.heap.size,0,C⟩) X X);rw [← bp] at ej;have en:=fz.mP (j:=10) (show w.heap.size<w.heap.size+3 by omega) (K (U ⟨x7.heap.size,0,C⟩) X X);rw [← bp] at en;rw [← bp];clear bp S8 fw da df c8 fy fz;obtain ⟨y0,y1,y2,y3,y4,y5,y6,y7,y8,y9,ay,bb⟩:=l9 S9.P;go_wp2_with (refine jY rfl 30 (F 4) (F 59) rfl (w.heap.size+2) zB [I Y d.wk,aF aN,I Y d.now,I Y d.sn,I Y (a+1),I Y d.gv,K g (d.L1.length+1) k,K o d.L2.length u,K p R.length H,K (U ⟨x5.heap.size,0,C⟩) pn pn,K (U ⟨x7.heap.size,0,C⟩) X X,K M d.O.length N] rfl rfl S9.R rfl Tryz.sizeBo (nP) ?_;intro dx bm T)
      clear y0 y1 y2 y3 y4 y5 y6 y7 y8 y9 ay bb;have h8:d.sn=0:=by rw [HD.out]
      have h7:d.gv=0:=by rw [HD.out]
      have eh:d.L2=[]:=by rw [HD.out]
      have eO:d.O=[]:=by rw [HD.out]
      have ht:=(ei.grown T (.inr (by intro c;have:=ei.ku _ c;omega))).mono' (show w.heap.size≤w.heap.size+3 by omega);have fl:=(ez.grown T (.inr (by intro c;have:=ez.ku _ c;omega))).mono' (show w.heap.size≤w.heap.size+3 by omega);have hv:=(ek.grown T (.inr (by intro c;have:=ek.ku _ c;omega))).mono' (show w.heap.size≤w.heap.size+3 by omega);have hx:=(ej.grown T (.inr (by intro c;have:=ej.ku _ c;omega))).mono' (show w.heap.size≤w.heap.size+3 by omega);have hy:=(en.grown T (.inr (by intro c;have:=en.ku _ c;omega))).mono' (show w.heap.size≤w.heap.size+3 by omega);have fo:=(fb.grown T (.inr (by intro c;have:=fb.ku _ c;omega))).mono' (show w.heap.size≤w.heap.size+3 by omega);have HO:Hid (lg dx w.heap.size (oI d a R ts.length) ⟨g,o,p,U ⟨x5.heap.size,0,C⟩,U ⟨x7.heap.size,0,C⟩,M,k,u,H,pn,X,N⟩):=by
       refine ⟨?_,?_,?_,?_,?_,?_,?_⟩
       ·simp only [oI,lD,pX,qJ];exact ht
       ·rw [eh] at fl;exact fl
       ·exact hv
       ·simp only [oI,Dh];rw [eg.out];exact hx
       ·simp only [oI,Dh];rw [← fi.out];exact hy
       ·rw [eO] at fo;exact fo
       ·simp only [oI,lD,pX,qJ,Dh,rW,mG,mF,or_false,forall_eq_or_imp,forall_eq,List.Pairwise.nil,and_true,false_implies,implies_true]
        have f1:=bg.out;have f5:=bj.out;have g1:=J1.out;have g5:=J5.out;have m1:=K1.out;have m5:=K5.out;have r1:=ha.out;have r5:=hk.out;have fc:=hl.out;rw [eh] at f1 g1 m1 r1 fc;rw [eO] at f5 g5 m5 r5 fc;refine ⟨⟨f1,bh.out,J0.out,K0.out,f5⟩,⟨r1,g1,m1,fc⟩,⟨J2.out,K2.out,r5.symm⟩,⟨?_,?_⟩,?_⟩
        ·exact K3.out
        ·exact g5.symm
        ·exact m5.symm
      obtain ⟨k0,k1,k2,k3,k4,k5,k6,k7,k8,k9,bq,br⟩:=l9 bm;refine bodyPost_ret (v:=aI #[I Y d.wk,aF aN,I Y d.now,I Y d.sn,I Y (a+1),I Y d.gv,K g (d.L1.length+1) k,K o d.L2.length u,K p R.length H,K (U ⟨x5.heap.size,0,C⟩) pn pn,K (U ⟨x7.heap.size,0,C⟩) X X,K M d.O.length N]) bV rfl ⟨⟨oI d a R ts.length,⟨_,?_,HO.out⟩,.inl ⟨HV.out,.inr ⟨ct.out,a,R,HT.out,.inr ⟨⟨hp.out,HE.out⟩,rfl⟩⟩⟩⟩,below_grown S9.B T (by have:=S9.z;omega) (fun q V=>jD)⟩;simp only [bvs,oI,lD,pX,qJ,Dh,h8,h7,eh,eO,eg.out,← fi.out]
end Go.Proofs.YtfkkipgcfoegmaaGreat
