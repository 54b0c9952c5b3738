
import Derived.Test.YtfkkipgcfoegmaaGreatQBkg
set_option maxHeartbeats 8000000
set_option maxRecDepth 100000
namespace Go.Proofs.YtfkkipgcfoegmaaGreat
open Go.Proofs.Tryz
open Go.Value renaming slice→K,string→E,bool→aF,pointer→aG,agg→aI
open Option renaming none→C,some→U
open Go.Operand renaming tmp→F
open Go.Obj renaming cells→aH
open Bool renaming false→aK,true→aN
open Go.Value renaming int→I
open Go.IntKind renaming i64→Y
open Go.RowKit
variable {a9:Option Addr} {c9:Nat} {d:BD} {h:BH} {m:lQ} {ob:Obj} {ts:List kJ} {w wr:World}
theorem QX {s:ByteArray} (c:(K a9 (d.L2.length+1) c9).ownBlock=JJ d h∨(K a9 (d.L2.length+1) c9).ownBlock=U (wr.alloc ob).heap.size):∀ r∈kK {d with L2:=d.L2 ++ [s]} {h with a2:=a9,c2:=c9},r∈kK d h∨r=U (wr.alloc ob).heap.size:=fun r a=>by
 simp only [kK,mG,mF,or_false,lD,mQ] at a;rcases a with rfl | rfl | rfl | rfl | rfl | rfl
 ·exact .inl aX
 ·rcases c with e | e
  ·exact .inl (by rw [e];exact DX d h)
  ·exact .inr e
 ·exact .inl aX
 ·exact .inl aX
 ·exact .inl aX
 ·exact .inl aX
theorem Zk {x:Tr} (c:(K a9 (d.O.length+1) c9).ownBlock=KQ d h∨(K a9 (d.O.length+1) c9).ownBlock=U (wr.alloc ob).heap.size):∀ r∈kK {d with O:=d.O ++ [x]} {h with ao:=a9,co:=c9},r∈kK d h∨r=U (wr.alloc ob).heap.size:=fun r a=>by
 simp only [kK,mG,mF,or_false,lD,mQ] at a;rcases a with rfl | rfl | rfl | rfl | rfl | rfl
 ·exact .inl aX
 ·exact .inl aX
 ·exact .inl aX
 ·exact .inl aX
 ·exact .inl aX
 ·rcases c with e | e
  ·exact .inl (by rw [e];exact Ia d h)
  ·exact .inr e
theorem L9c {k:World} {B Q:Nat} {d0:BD} {c:BH} {i:Value} {ms:List Value} {a:World} (f:(wr.alloc ob).grownBy a (JJ d h)) (s:rG k w B Q d0 c i ms d h wr) (j:Nat) (g:j<ms.length):a.cell? ⟨Q+2,j,C⟩=ms[j]?:=by
 have l:=s.q;have e:Below wr.heap.size wr (wr.alloc ob):=kQ;have o:(wr.alloc ob).heap.size=wr.heap.size+1:=D;exact (((s.M.block (e.block _ A)).block (f.block _ A (s.ne (DX d h) _ A A))) j g).1
theorem UC (w0:World) (B:Nat) (d:BD) (h:BH) (V:Option Addr) (pb po pc:Nat) (ts:List kJ) (o p ep le:Int) (k t:Nat) (x:ByteArray) (ss:List ByteArray) (ua:Option Addr) (un uc:Nat) (w:World) (hO:lg w B d h) (hB:Below B w0 w) (eg:w0.heap.size≤B∧B≤w.heap.size) (hf:d.fits) (hx:x.size=8) (hT:lN w V pb po ts.length ts) (ef:nM ts ts.length) (ej:d.R.length=ts.length) (ei:d.J.length=ts.length) (gx:ts.length≤40) (ht:t≤39) (hk:k<d.S.length) (gg:k≤100) (er:1≤d.ep∧d.ep≤300) (hl:d.L1.length+d.L2.length≤310) (gj:d.O.length≤2000) :
  Calls prog 105 #[aI (nN d h),aI #[K V ts.length pc],aI #[I Y o,I Y ((k:Int)+1),I Y p,I Y ep,I Y le,I Y (t:Nat),E x,K ua un uc]] w fun e w'=>∃ h',e=.returned (aI (bvs (Fa d ts (⟨o,(k:Int)+1,p,ep,le,(t:Nat),x,ss⟩:lQ)) h').toArray)∧lg w' B (Fa d ts (⟨o,(k:Int)+1,p,ep,le,(t:Nat),x,ss⟩:lQ)) h'∧Below B w0 w'∧Grew (kK d h) w w'∧∀ r∈kK (Fa d ts (⟨o,(k:Int)+1,p,ep,le,(t:Nat),x,ss⟩:lQ)) h',r∈kK d h∨∀ q,r=U q→w.heap.size+4≤q:=by
 obtain ⟨W, hW⟩ := kC ((((w.alloc (aH (nN d h) 30)).alloc (aH #[K V ts.length pc] 33)).alloc (aH #[I Y o,I Y ((k:Int)+1),I Y p,I Y ep,I Y le,I Y (t:Nat),E x,K ua un uc] 136)).alloc (aH ni 30));obtain ⟨Q, hQ⟩ := kC w.heap.size;obtain ⟨C0,C1,C2,C3,z0,B0⟩:=adv w (nN d h) #[K V ts.length pc] #[I Y o,I Y ((k:Int)+1),I Y p,I Y ep,I Y le,I Y (t:Nat),E x,K ua un uc] ni 30 33 136 30 hW;rw [← hQ] at C0 C1 C2 C3 z0;have Ls:rG w0 w B Q d h (K V ts.length pc) [I Y o,I Y ((k:Int)+1),I Y p,I Y ep,I Y le,I Y (t:Nat),E x,K ua un uc] d h W:=⟨⟨hO.below B0,C0,hB.trans (B0.mono eg.2),fun r hr e=>by have:=(hO.lo r hr Q e).2;omega,⟨A,A,eg.1⟩⟩,C1,C2,C3,⟨B0.size,fun q hq _=>B0.block q hq,B0.os,B0.tape,B0.output⟩,fun r hr=>.inl hr,⟨hQ,A⟩,fun r hr q e=>by rw [hQ];exact (hO.lo r hr q e).2⟩
 have fp:=hid (hT.below' B0);have HW:=hid hW;have HQ:=hid hQ;have fl:=hid hf;have fj:=hid ef;have ba:=hid ej;have dk:=hid ei;have ha:t<ts.length→((t:Nat):Int)<(ts.length:Int):=fun h=>by omega
 have m5:W.cell? ⟨Q+2,5,C⟩=U (I Y (t:Nat)):=(C2 5 D).1;have kp:W.cell? ⟨Q+1,0,C⟩=U (K V ts.length pc):=(C1 0 D).1;clear hW hQ C0 C1 C2 C3 B0 hO hB hf ef ej ei hT;go_enter func105,ntmps105
 go_upto_region 1 with fail
 have eb:w.heap.size+1=Q+1:=by rw [HQ.out]
 have ec:w.heap.size+1+1=Q+2:=by rw [HQ.out]
 have ed:w.heap.size+1+1+1=Q+3:=by rw [HQ.out]
 rw [← HW.out];(try rw [ed])
 (try rw [ec])
 (try rw [eb])
 (try rw [← HQ.out])
 clear HW eb ec ed;by_cases b4:t<ts.length
 case neg =>
  have hd:decide (((ts.length:Nat):Int)≤((t:Nat):Int))=aN:=decide_eq_true A;have HE:=hid (ab4 (d:=d) (ts:=ts) (m:=(⟨o,(k:Int)+1,p,ep,le,(t:Nat),x,ss⟩:lQ)) (by show ¬ ((t:Nat):Int)<(ts.length:Int);omega));obtain ⟨hy, de⟩ := kC W;have Lx:=Ls;rw [← de] at Lx;rw [← de] at m5 kp ⊢;clear Ls de;obtain ⟨y0,y1,y2,y3,y4,y5,y6,y7,y8,y9,cc,a8⟩:=l9 ((Lx.T.D));have hZ:=Lx.Z;go_wp2_with (refine jY rfl 30 (F 6) (F 14) rfl (Q+3) zB (nR d h) rfl rfl hZ rfl Tryz.sizeBo (nP) ?_;intro cb a6 a7)
  obtain ⟨k0,k1,k2,k3,k4,k5,k6,k7,k8,k9,bs,bu⟩:=l9 a6;have bm:=Lx.fin a7;have fv:=Lx.q.1;exact bodyPost_ret (v:=aI (nN d h)) dB rfl ⟨h,by rw [HE.out];rfl,by rw [HE.out];rw [← fv];exact bm⟩
 case pos =>
  have hd:decide (((ts.length:Nat):Int)≤((t:Nat):Int))=aK:=decide_eq_false A;go_upto_region 3 with fail
  clear m5 kp;go_cut [41] (fun c wx=>∃ b:Bool,c=aF b∧(b=aN ↔ uw ts d.R t∧d.L1.length+d.L2.length<310)∧rG w0 w B Q d h (K V ts.length pc) [I Y o,I Y ((k:Int)+1),I Y p,I Y ep,I Y le,I Y (t:Nat),E x,K ua un uc] d h wx)
  case first =>
   obtain ⟨br,or',cy,aw,bg,_,_⟩:=Ls.T.bo.o2.set1 (t:=t) (by rw [ba.out];exact b4);have u:h.ar=U ⟨br,or',C⟩:=jK;obtain ⟨sR, ax⟩ := kC (rs d.R t);rw [← ax] at bg;obtain ⟨-,-,-,-,-,-,y6,y7⟩:=ER Ls.T.D;have y8:W.cell? ⟨Q,8,C⟩=U (K (U ⟨br,or',C⟩) ts.length h.cr):=by rw [← u,← ba.out];exact (Ls.T.D 8 aP).1
   have m5:W.cell? ⟨Q+2,5,C⟩=U (I Y (t:Nat)):=(Ls.M 5 D).1;have kp:W.cell? ⟨Q+1,0,C⟩=U (K V ts.length pc):=(Ls.P 0 D).1;obtain ⟨gr,hs,ca,_⟩:=Ls.T.bo.o2.xP fl.out.s3;have ch:=ca.ad (by have:=ba.out;omega);rw [u] at ch ca;injection ch with ch;injection ch with fw fx;subst fw fx;rw [ba.out] at ca;have dp:=hid (Gw V pb po ts.length pc ts (U ⟨br,or',C⟩) br or' h.cr d.R t W fp.out ca b4 fj.out);have bd:=hid ax;have ff:((t:Nat):Int)<(ts.length:Int):=A;clear aw u ca ax;by_cases h0:sR.size=0
   ·have cg:=oP h0
    go_wp2_with fail
    refine dp.out.mono ?_;rintro _ w1 ⟨⟨r,rfl,hr⟩,cl⟩;have h2:=kV cl y6;have h3:=kV cl y7;have b6:=hid (Ls.below cl);have bw:=hid (show (rs d.R t).size=0 by rw [← bd.out];exact h0);have HR:=hid hr;clear dp hr y6 y7 y8 m5 kp bg cg h0 cl Ls;cases r with
    | false =>
     go_wp2_with fail
     go_meet
     case rel=>exact ⟨aK,rfl,⟨fun h=>(by cases h),fun h=>absurd h.1.2 (by have:=HR.out;simpa using this)⟩,b6.out⟩
    | true =>
     by_cases ee:d.L1.length+d.L2.length<310
     ·have fz:decide (((d.L1.length:Nat):Int)+((d.L2.length:Nat):Int)<310)=aN:=decide_eq_true A
      go_wp2_with fail
      go_meet
      case rel=>exact ⟨aN,rfl,⟨fun _=>⟨⟨bw.out,HR.out.1 (by trivial)⟩,ee⟩,fun _=>rfl⟩,b6.out⟩
     ·have fz:decide (((d.L1.length:Nat):Int)+((d.L2.length:Nat):Int)<310)=aK:=decide_eq_false A
      go_wp2_with fail
      go_meet
      case rel=>exact ⟨aK,rfl,⟨fun h=>(by cases h),fun h=>absurd h.2 ee⟩,b6.out⟩
   ·have cg:=oQ h0
    have b6:=hid Ls;have bw:=hid (show ¬ (rs d.R t).size=0 by rw [← bd.out];exact h0);clear Ls;go_wp2_with fail
    go_meet
    case rel=>exact ⟨aK,rfl,⟨fun h=>(by cases h),fun h=>absurd h.1.1 bw.out⟩,b6.out⟩
  case rest =>
   obtain ⟨b,rfl,N,bb⟩:=hcut;clear Ls;go_upto_if 41 with fail
   go_cut [69] (fun _ wx=>∃ g,rG w0 w B Q d h (K V ts.length pc) [I Y o,I Y ((k:Int)+1),I Y p,I Y ep,I Y le,I Y (t:Nat),E x,K ua un uc] (keepR d ts (⟨o,(k:Int)+1,p,ep,le,(t:Nat),x,ss⟩:lQ)) g wx)
   case first =>
    cases b with
    | false =>
     have ak:=hid (show rG w0 w B Q d h (K V ts.length pc) [I Y o,I Y ((k:Int)+1),I Y p,I Y ep,I Y le,I Y (t:Nat),E x,K ua un uc] (keepR d ts (⟨o,(k:Int)+1,p,ep,le,(t:Nat),x,ss⟩:lQ)) h wc by rw [aaz (fun hh=>by have:=N.2 ⟨by have:=hh.1;simpa using this,hh.2⟩;cases this)];exact bb);clear bb N;go_wp2_with fail
     go_meet
     case rel=>exact ⟨h,ak.out⟩
    | true =>
     have bw:=hid (N.1 rfl);clear N;obtain ⟨br,or',cy,aw,bg,gm,fc⟩:=bb.T.bo.o2.set1 (t:=t) (by rw [ba.out];exact b4);have u:h.ar=U ⟨br,or',C⟩:=jK;have fb:KP d h=U br:=by unfold KP;rw [u];rfl
     have y8:wc.cell? ⟨Q,8,C⟩=U (K (U ⟨br,or',C⟩) ts.length h.cr):=by rw [← u,← ba.out];exact (bb.T.D 8 aP).1
     obtain ⟨-,-,-,-,-,m5,m6⟩:=cf7 bb.M;have ff:((t:Nat):Int)<(ts.length:Int):=A;have dv:=hid fb;have dx:=hid (fc x);clear aw u fb fc;go_upto_region 5 with fail
     obtain ⟨W2, ck⟩ := kC (wc.setCell ⟨br,or'+t,C⟩ (E x));have g2:wc.grownBy W2 (KP d h):=by rw [dv.out,ck];exact lU (lJ wc _) _ _
     have LW:rG w0 w B Q d h (K V ts.length pc) [I Y o,I Y ((k:Int)+1),I Y p,I Y ep,I Y le,I Y (t:Nat),E x,K ua un uc] {d with R:=d.R.set t x} h W2:=bb.row (JI d h) g2 (bb.T.Xo (by rw [nV]) g2 (by rw [ck];exact dx.out)) (by unfold kK;simp only [nV]);rw [← ck];clear ck g2 dx dv y8 m5 m6 bg gm bb;go_cut [63] (fun _ wx=>∃ g,rG w0 w B Q d h (K V ts.length pc) [I Y o,I Y ((k:Int)+1),I Y p,I Y ep,I Y le,I Y (t:Nat),E x,K ua un uc] {d with L2:=d.L2 ++ [lS 2 d.ep (t:Nat) x],R:=d.R.set t x} g wx)
     case first =>
      have ay:=LW.below (Iz W2.heap.size W2).drew;obtain ⟨i0,ew,fg,fh,fi⟩:=info_parts Tryz.info9;refine wp_region_held (S:=fun w'=>w'.cell? ⟨Q,4,C⟩=U (I Y d.ep)∧w'.cell? ⟨Q+2,5,C⟩=U (I Y (t:Nat))∧w'.cell? ⟨Q+2,6,C⟩=U (E x)) Z ?_;change wpAnyH _ _ _ _ _ _ _ _ (World.drew _);obtain ⟨x0, bq⟩ := kC W2.drew;rw [← bq] at ay;rw [← bq];clear bq LW;have ae:x0.cell? ⟨Q,4,C⟩=U (I Y d.ep)∧x0.cell? ⟨Q+2,5,C⟩=U (I Y (t:Nat))∧x0.cell? ⟨Q+2,6,C⟩=U (E x):=⟨(ay.T.D 4 aP).1,(ay.M 5 D).1,(ay.M 6 D).1⟩
      have cx:x0.cell? ⟨Q,7,C⟩=U (K h.a2 d.L2.length h.c2):=(ay.T.D 7 aP).1;have dz:Hid (vE 2 d.ep (t:Nat) x.size):=by unfold vE;exact .inr ⟨rfl,er.1,er.2,A,A,hx⟩
      refine jZ (i:=0) (d:=U 49) (v:=aG (U ⟨Q,6,C⟩)) (l':=(bt 16 1)) rfl (fun _ hc=>LZ (F 3) Z Z) ae ?_;refine jZ (i:=1) (d:=U 50) (v:=aG (U ⟨Q,7,C⟩)) (l':=(bt 16 3)) rfl (fun _ hc=>LY (F 49) Z Z) ae ?_;refine jZ (i:=3) (d:=U 52) (v:=aG (U ⟨Q,4,C⟩)) (l':=(bt 16 11)) rfl (fun _ hc=>abU (F 3) Z Z) ae ?_;refine jZ (i:=4) (d:=U 53) (v:=I Y d.ep) (l':=(bt 16 27)) rfl (fun _ hc=>nG (F 52) Z Z hc.1) ae ?_;refine jZ (i:=5) (d:=U 54) (v:=aG (U ⟨Q+2,5,C⟩)) (l':=(bt 16 59)) rfl (fun _ hc=>abT (F 5) Z Z) ae ?_;refine jZ (i:=6) (d:=U 55) (v:=I Y (t:Nat)) (l':=(bt 16 123)) rfl (fun _ hc=>nG (F 54) Z Z hc.2.1) ae ?_;refine jZ (i:=7) (d:=U 56) (v:=aG (U ⟨Q+2,6,C⟩)) (l':=(bt 16 251)) rfl (fun _ hc=>abS (F 5) Z Z) ae ?_;refine jZ (i:=8) (d:=U 57) (v:=E x) (l':=(bt 16 507)) rfl (fun _ hc=>Qv (F 56) Z Z hc.2.2) ae ?_;refine jZ (i:=9) (d:=U 58) (v:=aI #[I Y 2,I Y d.ep,I Y (t:Nat),E x]) (l':=(bt 16 1019)) rfl (fun _ hc=>VZ (F 53) (F 55) (F 57) d.ep (t:Nat) x Z Z Z Z Z) ae ?_;refine nT (i:=2) (j:=10) Z (kM (i:=2) (d:=U 51) (v:=K h.a2 d.L2.length h.c2) (w':=x0) (l':=(bt 16 1023)) rfl Z Z Z (Ef (F 50) Z Z cx) ae ?_) (kZ (i:=10) (d:=U 59) (f:=52) (args:=#[aI #[I Y 2,I Y d.ep,I Y (t:Nat),E x]]) (l':=(bt 16 2043)) (R:=fun v w'=>(∃ r,v=E r∧FU 2 d.ep (t:Nat) x r)∧Below x0.heap.size x0 w') rfl Z Z Z (lW _ _ rfl Z rfl OZ) ((Ai 2 d.ep (t:Nat) x x0).mono fun _ _ ⟨⟨r,he,hr⟩,N⟩=>⟨_,he,⟨r,rfl,hr⟩,N⟩) ?_)
      ·refine kF (i:=10) Z (kZ (i:=10) (d:=U 59) (f:=52) (args:=#[aI #[I Y 2,I Y d.ep,I Y (t:Nat),E x]]) (l':=(bt 16 2047)) (R:=fun v w'=>(∃ r,v=E r∧FU 2 d.ep (t:Nat) x r)∧Below x0.heap.size x0 w') rfl Z Z Z (lW _ _ rfl Z rfl OZ) ((Ai 2 d.ep (t:Nat) x x0).mono fun _ _ ⟨⟨r,he,hr⟩,N⟩=>⟨_,he,⟨r,rfl,hr⟩,N⟩) ?_)
       rintro _ l ⟨⟨r5,rfl,dc⟩,av⟩;obtain rfl:r5=lS 2 d.ep (t:Nat) x:=by
        rcases dc with h | h
        ·exact h.2
        ·exact absurd dz.out h.1
       have aa:=ay.below av;have an:l.cell? ⟨Q,4,C⟩=U (I Y d.ep)∧l.cell? ⟨Q+2,5,C⟩=U (I Y (t:Nat))∧l.cell? ⟨Q+2,6,C⟩=U (E x):=⟨kV av ae.1,kV av ae.2.1,kV av ae.2.2⟩
       have b0:=kV av cx;refine ⟨an,?_⟩;have gl:=aa.q.2;have e9:=aa.T.q;have b2:Own B (l.alloc (aH #[E (lS 2 d.ep (t:Nat) x)] 9)) 1 (K (U ⟨l.heap.size,0,C⟩) 1 1) 1 [E (lS 2 d.ep (t:Nat) x)] :=
        .inr ⟨_,0,1,rfl,kW.made l B 9 1 1 1 _ 1 A kL G rfl kL _ rfl _ (.inl rfl)⟩
       have b3:Src prog 1 23 _ 1 _ (l.alloc (aH #[E (lS 2 d.ep (t:Nat) x)] 9)):=b2.src underlying23 dY;have af:Below l.heap.size l (l.alloc (aH #[E (lS 2 d.ep (t:Nat) x)] 9)):=kQ;have bf:(l.alloc (aH #[E (lS 2 d.ep (t:Nat) x)] 9)).cell? ⟨Q,4,C⟩=U (I Y d.ep)∧(l.alloc (aH #[E (lS 2 d.ep (t:Nat) x)] 9)).cell? ⟨Q+2,5,C⟩=U (I Y (t:Nat))∧(l.alloc (aH #[E (lS 2 d.ep (t:Nat) x)] 9)).cell? ⟨Q+2,6,C⟩=U (E x):=⟨kV af an.1,kV af an.2.1,kV af an.2.2⟩
       obtain ⟨v9,H,bn,au,ag,aq⟩:=l7 (P:=prog) (l.alloc (aH #[E (lS 2 d.ep (t:Nat) x)] 9)) B 23 23 23 9 i0 (E ⟨#[]⟩) 1 16 underlying23 ew fg fh fi rfl _ d.L2.length _ (aa.T.bo.o1.below af kL) _ 1 _ b3 G A aQ;obtain ⟨a9,c9,rfl⟩:=au.slc;have X:=aa.T.Vf au ag aq;have L:=aa.app (DX _ _) ag X.2 (QX aq);have ab:H.cell? ⟨Q,4,C⟩=U (I Y d.ep)∧H.cell? ⟨Q+2,5,C⟩=U (I Y (t:Nat))∧H.cell? ⟨Q+2,6,C⟩=U (E x):=⟨(X.1 4 aP).1,(L9c ag aa 5 D),(L9c ag aa 6 D)⟩
       have bl:(H.setCell ⟨Q,7,C⟩ (K a9 (d.L2.length+1) c9)).cell? ⟨Q,4,C⟩=U (I Y d.ep)∧(H.setCell ⟨Q,7,C⟩ (K a9 (d.L2.length+1) c9)).cell? ⟨Q+2,5,C⟩=U (I Y (t:Nat))∧(H.setCell ⟨Q,7,C⟩ (K a9 (d.L2.length+1) c9)).cell? ⟨Q+2,6,C⟩=U (E x):=⟨(L.T.D 4 aP).1,(L.M 5 D).1,(L.M 6 D).1⟩
       refine kF (i:=11) Z (kM (i:=11) (d:=U 60) (v:=K (U ⟨l.heap.size,0,C⟩) 1 1) (w':=l.alloc (aH #[E (lS 2 d.ep (t:Nat) x)] 9)) (l':=(bt 16 4095)) rfl Z Z Z (qU (F 59) (lS 2 d.ep (t:Nat) x) Z Z) bf ?_);refine kF (i:=12) Z (kM (i:=12) (d:=U 61) (v:=K a9 (d.L2.length+1) c9) (w':=H) (l':=(bt 16 8191)) rfl Z Z Z (H6 (F 51) (F 60) 23 23 23 Z Z Z Z bn) ab ?_);refine jZ (i:=13) (d:=U 62) (v:=aG (U ⟨Q,6,C⟩)) (l':=(bt 16 16383)) rfl (fun _ hc=>LZ (F 3) Z Z) ab ?_;refine jZ (i:=14) (d:=U 63) (v:=aG (U ⟨Q,7,C⟩)) (l':=(bt 16 32767)) rfl (fun _ hc=>LY (F 62) Z Z) ab ?_;refine kF (i:=15) Z (lI (i:=15) (w':=H.setCell ⟨Q,7,C⟩ (K a9 (d.L2.length+1) c9)) (l':=(bt 16 65535)) rfl Z Z Z (qo (F 63) (F 61) a9 (d.L2.length+1) c9 Z Z Z (X.1 7 aP).1 (X.1 7 aP).2) bl ?_);refine wpAnyH_done Z ?_ _;obtain ⟨wF, ai⟩ := kC (H.setCell ⟨Q,7,C⟩ (K a9 (d.L2.length+1) c9));rw [← ai] at L;rw [← ai];have ak:=hid L;clear ai L X ab bl bf an b2 b3 bn au ag aq b0 aa;(try clear cf)
       clear af;go_simp;go_wp2_with fail
       go_meet
       case rel=>exact ⟨_,ak.out⟩
      ·rintro _ l ⟨⟨r5,rfl,dc⟩,av⟩
       obtain rfl:r5=lS 2 d.ep (t:Nat) x:=by
        rcases dc with h | h
        ·exact h.2
        ·exact absurd dz.out h.1
       have aa:=ay.below av;have an:l.cell? ⟨Q,4,C⟩=U (I Y d.ep)∧l.cell? ⟨Q+2,5,C⟩=U (I Y (t:Nat))∧l.cell? ⟨Q+2,6,C⟩=U (E x):=⟨kV av ae.1,kV av ae.2.1,kV av ae.2.2⟩
       have b0:=kV av cx;refine ⟨an,?_⟩;have gl:=aa.q.2;have e9:=aa.T.q;have b2:Own B (l.alloc (aH #[E (lS 2 d.ep (t:Nat) x)] 9)) 1 (K (U ⟨l.heap.size,0,C⟩) 1 1) 1 [E (lS 2 d.ep (t:Nat) x)] :=
        .inr ⟨_,0,1,rfl,kW.made l B 9 1 1 1 _ 1 A kL G rfl kL _ rfl _ (.inl rfl)⟩
       have b3:Src prog 1 23 _ 1 _ (l.alloc (aH #[E (lS 2 d.ep (t:Nat) x)] 9)):=b2.src underlying23 dY;have af:Below l.heap.size l (l.alloc (aH #[E (lS 2 d.ep (t:Nat) x)] 9)):=kQ;have bf:(l.alloc (aH #[E (lS 2 d.ep (t:Nat) x)] 9)).cell? ⟨Q,4,C⟩=U (I Y d.ep)∧(l.alloc (aH #[E (lS 2 d.ep (t:Nat) x)] 9)).cell? ⟨Q+2,5,C⟩=U (I Y (t:Nat))∧(l.alloc (aH #[E (lS 2 d.ep (t:Nat) x)] 9)).cell? ⟨Q+2,6,C⟩=U (E x):=⟨kV af an.1,kV af an.2.1,kV af an.2.2⟩
       obtain ⟨v9,H,bn,au,ag,aq⟩:=l7 (P:=prog) (l.alloc (aH #[E (lS 2 d.ep (t:Nat) x)] 9)) B 23 23 23 9 i0 (E ⟨#[]⟩) 1 16 underlying23 ew fg fh fi rfl _ d.L2.length _ (aa.T.bo.o1.below af kL) _ 1 _ b3 G A aQ;obtain ⟨a9,c9,rfl⟩:=au.slc;have X:=aa.T.Vf au ag aq;have L:=aa.app (DX _ _) ag X.2 (QX aq);have ab:H.cell? ⟨Q,4,C⟩=U (I Y d.ep)∧H.cell? ⟨Q+2,5,C⟩=U (I Y (t:Nat))∧H.cell? ⟨Q+2,6,C⟩=U (E x):=⟨(X.1 4 aP).1,(L9c ag aa 5 D),(L9c ag aa 6 D)⟩
       have bl:(H.setCell ⟨Q,7,C⟩ (K a9 (d.L2.length+1) c9)).cell? ⟨Q,4,C⟩=U (I Y d.ep)∧(H.setCell ⟨Q,7,C⟩ (K a9 (d.L2.length+1) c9)).cell? ⟨Q+2,5,C⟩=U (I Y (t:Nat))∧(H.setCell ⟨Q,7,C⟩ (K a9 (d.L2.length+1) c9)).cell? ⟨Q+2,6,C⟩=U (E x):=⟨(L.T.D 4 aP).1,(L.M 5 D).1,(L.M 6 D).1⟩
       have cf:=kV af b0;refine nT (i:=2) (j:=11) Z (kM (i:=2) (d:=U 51) (v:=K h.a2 d.L2.length h.c2) (w':=l) (l':=(bt 16 2047)) rfl Z Z Z (Ef (F 50) Z Z b0) an ?_) (kM (i:=11) (d:=U 60) (v:=K (U ⟨l.heap.size,0,C⟩) 1 1) (w':=l.alloc (aH #[E (lS 2 d.ep (t:Nat) x)] 9)) (l':=(bt 16 4091)) rfl Z Z Z (qU (F 59) (lS 2 d.ep (t:Nat) x) Z Z) bf ?_)
       ·refine kF (i:=11) Z (kM (i:=11) (d:=U 60) (v:=K (U ⟨l.heap.size,0,C⟩) 1 1) (w':=l.alloc (aH #[E (lS 2 d.ep (t:Nat) x)] 9)) (l':=(bt 16 4095)) rfl Z Z Z (qU (F 59) (lS 2 d.ep (t:Nat) x) Z Z) bf ?_)
        refine kF (i:=12) Z (kM (i:=12) (d:=U 61) (v:=K a9 (d.L2.length+1) c9) (w':=H) (l':=(bt 16 8191)) rfl Z Z Z (H6 (F 51) (F 60) 23 23 23 Z Z Z Z bn) ab ?_);refine jZ (i:=13) (d:=U 62) (v:=aG (U ⟨Q,6,C⟩)) (l':=(bt 16 16383)) rfl (fun _ hc=>LZ (F 3) Z Z) ab ?_;refine jZ (i:=14) (d:=U 63) (v:=aG (U ⟨Q,7,C⟩)) (l':=(bt 16 32767)) rfl (fun _ hc=>LY (F 62) Z Z) ab ?_;refine kF (i:=15) Z (lI (i:=15) (w':=H.setCell ⟨Q,7,C⟩ (K a9 (d.L2.length+1) c9)) (l':=(bt 16 65535)) rfl Z Z Z (qo (F 63) (F 61) a9 (d.L2.length+1) c9 Z Z Z (X.1 7 aP).1 (X.1 7 aP).2) bl ?_);refine wpAnyH_done Z ?_ _;obtain ⟨wF, ai⟩ := kC (H.setCell ⟨Q,7,C⟩ (K a9 (d.L2.length+1) c9));rw [← ai] at L;rw [← ai];have ak:=hid L;clear ai L X ab bl bf an b2 b3 bn au ag aq b0 aa;(try clear cf)
        clear af;go_simp;go_wp2_with fail
        go_meet
        case rel=>exact ⟨_,ak.out⟩
       ·refine kF (i:=2) Z (kM (i:=2) (d:=U 51) (v:=K h.a2 d.L2.length h.c2) (w':=(l.alloc (aH #[E (lS 2 d.ep (t:Nat) x)] 9))) (l':=(bt 16 4095)) rfl Z Z Z (Ef (F 50) Z Z cf) bf ?_)
        refine kF (i:=12) Z (kM (i:=12) (d:=U 61) (v:=K a9 (d.L2.length+1) c9) (w':=H) (l':=(bt 16 8191)) rfl Z Z Z (H6 (F 51) (F 60) 23 23 23 Z Z Z Z bn) ab ?_);refine jZ (i:=13) (d:=U 62) (v:=aG (U ⟨Q,6,C⟩)) (l':=(bt 16 16383)) rfl (fun _ hc=>LZ (F 3) Z Z) ab ?_;refine jZ (i:=14) (d:=U 63) (v:=aG (U ⟨Q,7,C⟩)) (l':=(bt 16 32767)) rfl (fun _ hc=>LY (F 62) Z Z) ab ?_;refine kF (i:=15) Z (lI (i:=15) (w':=H.setCell ⟨Q,7,C⟩ (K a9 (d.L2.length+1) c9)) (l':=(bt 16 65535)) rfl Z Z Z (qo (F 63) (F 61) a9 (d.L2.length+1) c9 Z Z Z (X.1 7 aP).1 (X.1 7 aP).2) bl ?_);refine wpAnyH_done Z ?_ _;obtain ⟨wF, ai⟩ := kC (H.setCell ⟨Q,7,C⟩ (K a9 (d.L2.length+1) c9));rw [← ai] at L;rw [← ai];have ak:=hid L;clear ai L X ab bl bf an b2 b3 bn au ag aq b0 aa;(try clear cf)
        clear af;go_simp;go_wp2_with fail
        go_meet
        case rel=>exact ⟨_,ak.out⟩
     case rest =>
      obtain ⟨h5,ah⟩:=hcut;clear LW;have gn:t<d.J.length:=by rw [dk.out];exact b4
      obtain ⟨bj,oj,gw,ey,gp,fe⟩:=ah.T.bo.o3.Ht (i:=t) gn;have u:h5.aj=U ⟨bj,oj,C⟩:=by injection ey with u e2 e3
      have fa:yV {d with L2:=d.L2 ++ [lS 2 d.ep (t:Nat) x],R:=d.R.set t x} h5=U bj:=by unfold yV;rw [u];rfl
      have y9:wc.cell? ⟨Q,9,C⟩=U (K (U ⟨bj,oj,C⟩) ts.length h5.cj):=by rw [← u,← dk.out];exact (ah.T.D 9 aP).1
      have m5:wc.cell? ⟨Q+2,5,C⟩=U (I Y (t:Nat)):=(ah.M 5 D).1;have g6:wc.grownBy (wc.setCells bj (oj+t*3) Iy) (yV {d with L2:=d.L2 ++ [lS 2 d.ep (t:Nat) x],R:=d.R.set t x} h5):=by rw [fa];exact gsc
      have L6:=ah.row (Ac _ _) g6 (ah.T.Nq (J:=d.J.set t (0,0,0)) (by rw [nV]) g6 (fe ((0,0,0):Tr))) (by unfold kK;simp only [nV]);have ak:=hid (show ∃ g,rG w0 w B Q d h (K V ts.length pc) [I Y o,I Y ((k:Int)+1),I Y p,I Y ep,I Y le,I Y (t:Nat),E x,K ua un uc] (keepR d ts (⟨o,(k:Int)+1,p,ep,le,(t:Nat),x,ss⟩:lQ)) g (wc.setCells bj (oj+t*3) Iy) from ⟨h5,by rw [YU ⟨by have:=bw.out.1;simpa using this,bw.out.2⟩];exact L6⟩);clear ey u fa fe g6 L6 ah;go_wp2_with (refine Ar rfl (F 69) (F 68) rfl bj (oj+t*3) 0 0 0 rfl rfl gp ?_)
      go_meet
      case rel=>exact ak.out
   case rest =>
    obtain ⟨g,bh⟩:=hcut;clear bb N;have c7:=Vz d ts (⟨o,(k:Int)+1,p,ep,le,(t:Nat),x,ss⟩:lQ);obtain ⟨dK, c6⟩ := kC ((keepR d ts (⟨o,(k:Int)+1,p,ep,le,(t:Nat),x,ss⟩:lQ)));rw [← c6] at bh c7;have fk:=hid c6;have b5:=hid c7;clear c6 c7;go_upto_region 7 with fail
    go_cut [76] (fun c wx=>∃ b:Bool,c=aF b∧(b=aN ↔ (rs dK.R t).size=0)∧rG w0 w B Q d h (K V ts.length pc) [I Y o,I Y ((k:Int)+1),I Y p,I Y ep,I Y le,I Y (t:Nat),E x,K ua un uc] dK g wx)
    case first =>
     obtain ⟨br,or',cy,aw,bg,_,_⟩:=bh.T.bo.o2.set1 (t:=t) (by rw [b5.out.1,ba.out];exact b4);have u:g.ar=U ⟨br,or',C⟩:=jK;obtain ⟨sR, ax⟩ := kC (rs dK.R t);rw [← ax] at bg;have y8:wc.cell? ⟨Q,8,C⟩=U (K (U ⟨br,or',C⟩) ts.length g.cr):=by rw [← u,← ba.out,← b5.out.1];exact (bh.T.D 8 aP).1
     have m5:wc.cell? ⟨Q+2,5,C⟩=U (I Y (t:Nat)):=(bh.M 5 D).1;have ff:((t:Nat):Int)<(ts.length:Int):=A;have bd:=hid ax;have dm:=hid bh;clear aw u ax bh;by_cases h0:sR.size=0
     ·have cg:=oP h0
      go_wp2_with fail
      go_meet
      case rel=>exact ⟨aN,rfl,⟨fun _=>by rw [← bd.out];exact h0,fun _=>rfl⟩,dm.out⟩
     ·have cg:=oQ h0
      go_wp2_with fail
      go_meet
      case rel=>exact ⟨aK,rfl,⟨fun h=>(by cases h),fun h=>absurd (by rw [bd.out];exact h) h0⟩,dm.out⟩
    case rest =>
     obtain ⟨b,rfl,N,bc⟩:=hcut;clear bh;go_upto_if 76 with fail
     go_cut [82] (fun _ wx=>rG w0 w B Q d h (K V ts.length pc) [I Y o,I Y ((k:Int)+1),I Y p,I Y ep,I Y le,I Y (t:Nat),E x,K ua un uc] (uq dK (⟨o,(k:Int)+1,p,ep,le,(t:Nat),x,ss⟩:lQ)) g wx)
     case first =>
      cases b with
      | false =>
       have ak:=hid (show rG w0 w B Q d h (K V ts.length pc) [I Y o,I Y ((k:Int)+1),I Y p,I Y ep,I Y le,I Y (t:Nat),E x,K ua un uc] (uq dK (⟨o,(k:Int)+1,p,ep,le,(t:Nat),x,ss⟩:lQ)) g wc by rw [Y2 (fun hh=>by have:=N.2 (by simpa using hh);cases this)];exact bc);clear bc N;go_wp2_with fail
       go_meet
       case rel=>exact ak.out
      | true =>
       have H0:=hid (N.1 rfl);clear N;obtain ⟨y0,y1,y2,y3,y4,y5,y6,y7,y8,y9,cc,a8⟩:=l9 bc.T.D;obtain ⟨n0,n1,n2,n3,n4,n5,n6,n7⟩:=ER bc.M;have di:=hid (OL dK g o p ep le (t:Nat) k x ua un uc B wc bc.T.bo (by rw [b5.out.2.1];exact hk) gg);have ct:=hid bc;have hg:=bc.q.2;clear bc;go_wp2_with fail
       refine di.out.mono ?_;rintro _ w1 ⟨S',r,rfl,et,ek,eo,c8⟩;clear di y0 y1 y2 y3 y4 y5 y6 y7 y8 y9 cc a8 n0 n1 n2 n3 n4 n5 n6 n7;have eh:CF w1 Q (nR dK g):=by
        have h5:CF wc Q (nR dK g):=by have:=ct.out.T.D;rw [pz] at this;exact this
        exact h5.block (c8.block Q A (fun z hz e=>by rw [List.mem_singleton.1 hz] at e;exact ct.out.T.nr _ (qW dK g) e))
       have cq:=hid (And.intro eo c8);have dj:=hid et;have dy:=hid ek;clear eo c8 et ek;go_wp2_with (refine jY rfl 30 (F 3) (F 81) rfl Q (nR dK g) (nR dK g) rfl rfl eh rfl Tryz.sizeBo (nP) ?_;intro cb a6 a7)
       have L8:=ct.out.free (qW dK g) cq.out.1 cq.out.2 a7 (d':={dK with S:=S'}) (by unfold bvs;simp only [dy.out];exact a6) (by unfold kK;simp only [dy.out]);have ak:=hid (show rG w0 w B Q d h (K V ts.length pc) [I Y o,I Y ((k:Int)+1),I Y p,I Y ep,I Y le,I Y (t:Nat),E x,K ua un uc] (uq dK (⟨o,(k:Int)+1,p,ep,le,(t:Nat),x,ss⟩:lQ)) g cb by
        rcases dj.out with ⟨hn,_,fy⟩ | ⟨hn,_⟩
        ·rw [XZ (by exact hn)]
         rw [fy] at L8;exact L8
        ·rw [XY (by have:=H0.out;simpa using this) (by exact hn)]
         exact L8)
       clear L8 cq dj a6 a7 eh;go_wp2_with fail
       go_meet
       case rel=>exact ak.out
     case rest =>
      have ah:=hcut;clear bc N;have cm:=VB dK (⟨o,(k:Int)+1,p,ep,le,(t:Nat),x,ss⟩:lQ);obtain ⟨a, c5⟩ := kC (uq dK (⟨o,(k:Int)+1,p,ep,le,(t:Nat),x,ss⟩:lQ));rw [← c5] at ah cm;have HE:=hid (show (Fa d ts (⟨o,(k:Int)+1,p,ep,le,(t:Nat),x,ss⟩:lQ))=JM a (⟨o,(k:Int)+1,p,ep,le,(t:Nat),x,ss⟩:lQ) by rw [aae (by show ((t:Nat):Int)<(ts.length:Int);omega),c5,fk.out]);have du:=hid (show a.R.length=ts.length by rw [cm.1,b5.out.1,ba.out]);have fo:=hid (show a.O.length≤2000 by rw [cm.2,b5.out.2.2];exact gj);clear c5 cm;go_upto_region 9 with fail
      go_cut [97] (fun c wx=>∃ b:Bool,c=aF b∧(b=aK ↔ rs a.R t=x∧a.O.length<2000)∧rG w0 w B Q d h (K V ts.length pc) [I Y o,I Y ((k:Int)+1),I Y p,I Y ep,I Y le,I Y (t:Nat),E x,K ua un uc] a g wx)
      case first =>
       obtain ⟨br,or',cy,aw,bg,_,_⟩:=ah.T.bo.o2.set1 (t:=t) (by rw [du.out];exact b4);have u:g.ar=U ⟨br,or',C⟩:=jK;obtain ⟨sR, ax⟩ := kC (rs a.R t);rw [← ax] at bg;have c0:wc.cell? ⟨Q,8,C⟩=U (K (U ⟨br,or',C⟩) ts.length g.cr):=by rw [← u,← du.out];exact (ah.T.D 8 aP).1
       obtain ⟨-,-,-,-,-,c1,c2⟩:=cf7 ah.M;have c4:wc.cell? ⟨Q,11,C⟩=U (K g.ao a.O.length g.co):=(ah.T.D 11 aP).1;have bd:=hid ax;have HL:=hid ah;clear ah aw u ax;by_cases bp:sR=x
       ·have gh:(!(sR.toList == x.toList))=aK:=by rw [bp];simp
        by_cases eu:a.O.length<2000
        ·have ga:decide ((2000:Int)≤((a.O.length:Nat):Int))=aK:=decide_eq_false A
         have HS:=hid bp;clear bp;go_quiet (fail)
         go_wp2;go_meet
         case rel=>exact ⟨aK,rfl,⟨fun _=>⟨by rw [← bd.out];exact HS.out,eu⟩,fun _=>rfl⟩,HL.out.below (below_drewN mD _)⟩
        ·have ga:decide ((2000:Int)≤((a.O.length:Nat):Int))=aN:=decide_eq_true A
         clear bp;go_quiet (fail)
         go_wp2;go_meet
         case rel=>exact ⟨aN,rfl,⟨fun h=>(by cases h),fun h=>absurd h.2 eu⟩,HL.out.below (below_drewN mD _)⟩
       ·have gh:(!(sR.toList == x.toList))=aN:=by rw [OD bp];rfl
        have HS:=hid bp;clear bp;go_quiet (fail)
        go_wp2;go_meet
        case rel=>exact ⟨aN,rfl,⟨fun h=>(by cases h),fun h=>absurd (by rw [bd.out];exact h.1) HS.out⟩,HL.out.below (below_drewN mD _)⟩
      case rest =>
       obtain ⟨b,rfl,N,cd⟩:=hcut;clear ah;cases b with
       | true =>
        have bz:=hid (Wv (d:=a) (m:=(⟨o,(k:Int)+1,p,ep,le,(t:Nat),x,ss⟩:lQ)) (fun hh=>by have:=N.2 ⟨by have:=hh.1;simpa using this,hh.2.1⟩;cases this));clear N;have Lx:=cd;obtain ⟨y0,y1,y2,y3,y4,y5,y6,y7,y8,y9,cc,a8⟩:=l9 Lx.T.D;have hZ:=Lx.Z;have b7:=hid Lx;clear Lx;go_wp2_with (refine jY rfl 30 (F 6) (F 98) rfl (Q+3) zB (nR a g) rfl rfl hZ rfl Tryz.sizeBo (nP) ?_;intro cb a6 a7)
        obtain ⟨k0,k1,k2,k3,k4,k5,k6,k7,k8,k9,bs,bu⟩:=l9 a6;have bm:=b7.out.fin a7;have b8:=hid b7.out.q.1;exact bodyPost_ret (v:=aI (nN a g)) dB rfl ⟨g,by rw [HE.out,bz.out];rfl,by rw [HE.out,bz.out,← b8.out];exact bm⟩
       | false =>
        have cw:=hid (N.1 rfl);clear N;have gz:=fo.out;obtain ⟨bo,oo,en⟩:∃ bo oo:Nat,0<a.O.length→g.ao=U ⟨bo,oo,C⟩:=by
         by_cases h0:0<a.O.length
         ·obtain ⟨bo,oo,_,gi,_,_⟩:=cd.T.bo.o5.Ht (i:=0) h0
          exact ⟨bo,oo,fun _=>by injection gi with u e2 e3⟩
         ·exact ⟨0,0,fun h=>absurd h h0⟩
        have cp:=hid en;have dn:=hid cd;clear en cd;go_wp2_with fail
        go_loopw [7] (fun xv wr=>∃ j:Nat,j≤a.O.length∧xv=I Y j∧Hid (∀ i,i<j→¬ ((t3 a.O i).1=(k:Int)+1∧(t3 a.O i).2.1=le))∧rG w0 w B Q d h (K V ts.length pc) [I Y o,I Y ((k:Int)+1),I Y p,I Y ep,I Y le,I Y (t:Nat),E x,K ua un uc] a g wr) (fun xv _=>a.O.length - (intOf xv).toNat)
        case atStart=>exact ⟨0,lG _,rfl,hid (fun i hi=>absurd hi A),dn.out⟩
        case round =>
         clear dn;obtain ⟨j,hj,rfl,bz,al⟩:=hrel;by_cases ez:j<a.O.length
         case pos =>
          have gd:(j:Int)<(a.O.length:Int):=A;have cz:∀ r,r<3→wr.cell? ⟨bo,oo+(j*3+r),C⟩=[I Y (t3 a.O j).1,I Y (t3 a.O j).2.1,I Y (t3 a.O j).2.2][r]?:=fun r hr=>by
           rcases al.T.bo.o5 with ⟨hx,_⟩ | ⟨g',hp,gu,hx,hc⟩
           ·rw [cp.out A] at hx;cases hx
           ·rw [cp.out A] at hx
            injection hx with u e2 e3;injection u with u;injection u with e4 e5;subst e4 e5;rw [hc.holds (j*3+r) A];exact oW a.O j r ez hr
          obtain ⟨o0, da⟩ := kC ((t3 a.O j).1);obtain ⟨o1, db⟩ := kC ((t3 a.O j).2.1);have e0:wr.cell? ⟨bo,oo+j*3,C⟩=U (I Y o0):=by rw [da];exact cz 0 A
          have e6:wr.cell? ⟨bo,oo+j*3+1,C⟩=U (I Y o1):=by rw [db];exact cz 1 A
          have a8:wr.cell? ⟨Q,11,C⟩=U (K (U ⟨bo,oo,C⟩) a.O.length g.co):=by rw [← cp.out A];exact (al.T.D 11 aP).1
          have ds:=hid da;have dt:=hid db;have ab:wr.cell? ⟨Q,11,C⟩=U (K (U ⟨bo,oo,C⟩) a.O.length g.co)∧wr.cell? ⟨bo,oo+j*3,C⟩=U (I Y o0)∧wr.cell? ⟨bo,oo+j*3+1,C⟩=U (I Y o1)∧wr.cell? ⟨Q+2,1,C⟩=U (I Y ((k:Int)+1))∧wr.cell? ⟨Q+2,4,C⟩=U (I Y le):=⟨a8,e0,e6,(al.M 1 D).1,(al.M 4 D).1⟩
          have dw:=hid ab;clear da db cz e0 e6 ab;go_upto_region 14 with fail
          have ab:=dw.out;clear a8 dw;have HL:=hid al;obtain ⟨c0,c1,c2,c3,c4⟩:=ab;clear al;by_cases bk:o0=(k:Int)+1
          ·have e7:(o0 == (k:Int)+1)=aN:=by simpa using bk
           by_cases b1:o1=le
           ·have e8:(o1 == le)=aN:=by simpa using b1
            have dr:=hid (Wv (d:=a) (m:=(⟨o,(k:Int)+1,p,ep,le,(t:Nat),x,ss⟩:lQ)) (fun hh=>hh.2.2 ⟨j,ez,by show (t3 a.O j).1=(k:Int)+1;rw [← ds.out];exact bk,by show (t3 a.O j).2.1=le;rw [← dt.out];exact b1⟩));clear bk b1;go_quiet (fail)
            clear e7 e8 c0 c1 c2 c3 c4;obtain ⟨x0, bq⟩ := kC (wr.drewN nq);have ay:=HL.out.below (below_drewN mD nq);rw [← bq] at ay;rw [← bq];clear bq;have Lx:=ay;obtain ⟨y0,y1,y2,y3,y4,y5,y6,y7,y8,y9,cc,a8⟩:=l9 Lx.T.D;have hZ:=Lx.Z;have b7:=hid Lx;clear Lx;go_wp2_with (refine jY rfl 30 (F 6) (F 126) rfl (Q+3) zB (nR a g) rfl rfl hZ rfl Tryz.sizeBo (nP) ?_;intro cb a6 a7)
            obtain ⟨k0,k1,k2,k3,k4,k5,k6,k7,k8,k9,bs,bu⟩:=l9 a6;have bm:=b7.out.fin a7;have b8:=hid b7.out.q.1;exact bodyPost_ret (v:=aI (nN a g)) dB rfl ⟨g,by rw [HE.out,dr.out];rfl,by rw [HE.out,dr.out,← b8.out];exact bm⟩
           ·have e8:(o1 == le)=aK:=by simpa using b1
            have cv:=hid (show ¬ ((t3 a.O j).1=(k:Int)+1∧(t3 a.O j).2.1=le) from fun hh=>b1 (by rw [dt.out];exact hh.2));clear bk b1;go_quiet (fail)
            go_wp2;go_roundw
            case rel=>exact ⟨j+1,A,aW,hid (fun i hi=>by
             by_cases e:i=j
             ·subst e;exact cv.out
             ·exact bz.out i A),HL.out.below (below_drewN mD _)⟩
            case measure=>simp [intOf];omega
          ·have e7:(o0 == (k:Int)+1)=aK:=by simpa using bk
           have cv:=hid (show ¬ ((t3 a.O j).1=(k:Int)+1∧(t3 a.O j).2.1=le) from fun hh=>bk (by rw [ds.out];exact hh.1));clear bk;go_quiet (fail)
           go_wp2;go_roundw
           case rel=>exact ⟨j+1,A,aW,hid (fun i hi=>by
            by_cases e:i=j
            ·subst e;exact cv.out
            ·exact bz.out i A),HL.out.below (below_drewN mD _)⟩
           case measure=>simp [intOf];omega
         case neg =>
          obtain rfl:j=a.O.length:=A;have gd:¬ (a.O.length:Int)<(a.O.length:Int):=A;obtain ⟨iO,gb,fs,ft,fu⟩:=info_parts Tryz.infoOw;have hq:=al.q.2;have e9:=al.T.q;have af:Below wr.heap.size wr (wr.alloc (aH #[I Y ((k:Int)+1),I Y le,I Y (t:Nat)] 56)):=kQ;have df:Own B (wr.alloc (aH #[I Y ((k:Int)+1),I Y le,I Y (t:Nat)] 56)) 3 (K (U ⟨wr.heap.size,0,C⟩) 1 1) 1 [I Y ((k:Int)+1),I Y le,I Y (t:Nat)] :=
           .inr ⟨_,0,1,rfl,kW.made wr B 56 3 1 1 _ 3 A kL G rfl kL _ rfl _ (.inl rfl)⟩
          have dh:Src prog 3 28 _ 1 _ (wr.alloc (aH #[I Y ((k:Int)+1),I Y le,I Y (t:Nat)] 56)):=df.src underlying28 (by intro v hv;simp only [mG,mF,or_false] at hv;rcases hv with rfl | rfl | rfl <;> rfl);have dg:=al.T.bo.o5.below af kL;have a8:wr.cell? ⟨Q,11,C⟩=U (K g.ao a.O.length g.co):=(al.T.D 11 aP).1;obtain ⟨-,m1,-,-,m4,m5⟩:=cf6 al.M;have gy:=cw.out.2;have cu:=hid al;obtain ⟨wA, cn⟩ := kC (wr.alloc (aH #[I Y ((k:Int)+1),I Y le,I Y (t:Nat)] 56));rw [← cn] at df dh dg;have ho:wA.heap.size=wr.heap.size+1:=by rw [cn];simp
          have b9:=hid cn;clear cn al df af;go_upto_region 17 with (at_builtin;rw [← b9.out];refine kT _ rfl _ _ 28 28 rfl B 56 iO (aI rV) 3 24 underlying28 gb fs ft fu rfl _ a.O.length _ rfl dg _ 1 _ rfl dh G A A ?_;intro v' H au ag aq;obtain ⟨a9,c9,rfl⟩:=au.slc;have X:=cu.out.T.Yf (x:=((k:Int)+1,le,((t:Nat):Int))) au (by rw [← b9.out];exact ag) (by rw [← b9.out];exact aq);have f11:H.frozen? ⟨Q,11,C⟩=aK:=(X.1 11 aP).2;have gq:H.cell? ⟨Q,11,C⟩=U (K g.ao a.O.length g.co):=(X.1 11 aP).1)
          have L:=cu.out.app (Ia _ _) (by rw [← b9.out];exact ag) X.2 (Zk (by rw [← b9.out];exact aq));obtain ⟨wF, ai⟩ := kC (H.setCell ⟨Q,11,C⟩ (K a9 (a.O.length+1) c9));rw [← ai] at L;rw [← ai];have ea:=hid (aao (d:=a) (m:=(⟨o,(k:Int)+1,p,ep,le,(t:Nat),x,ss⟩:lQ)) ⟨by have:=cw.out.1;simpa using this,cw.out.2,fun ⟨i,hi,hh⟩=>bz.out i hi hh⟩);have dq:=hid L;have fq:CF wF Q [I Y a.wk,aF a.up,I Y a.now,I Y a.sn,I Y a.ep,I Y a.gv,K g.a1 a.L1.length g.c1,K g.a2 a.L2.length g.c2,K g.ar a.R.length g.cr,K g.aj a.J.length g.cj,K g.az a.S.length g.cs,K a9 (a.O.length+1) c9]:=by have:=L.T.D;rw [pz] at this;unfold bvs at this;rw [lD,mQ] at this;exact this
          have hZ:=L.Z;clear ai L X f11 gq au ag aq dg dh a8 m1 m4 m5 cu;obtain ⟨y0,y1,y2,y3,y4,y5,y6,y7,y8,y9,cc,a8⟩:=l9 fq;go_wp2_with (refine jY rfl 30 (F 6) (F 139) rfl (Q+3) zB [I Y a.wk,aF a.up,I Y a.now,I Y a.sn,I Y a.ep,I Y a.gv,K g.a1 a.L1.length g.c1,K g.a2 a.L2.length g.c2,K g.ar a.R.length g.cr,K g.aj a.J.length g.cj,K g.az a.S.length g.cs,K a9 (a.O.length+1) c9] rfl rfl hZ rfl Tryz.sizeBo (nP) ?_;intro cb a6 a7)
          obtain ⟨k0,k1,k2,k3,k4,k5,k6,k7,k8,k9,bs,bu⟩:=l9 a6;have bm:=dq.out.fin a7;have b8:=hid dq.out.q.1;exact bodyPost_ret (v:=aI #[I Y a.wk,aF a.up,I Y a.now,I Y a.sn,I Y a.ep,I Y a.gv,K g.a1 a.L1.length g.c1,K g.a2 a.L2.length g.c2,K g.ar a.R.length g.cr,K g.aj a.J.length g.cj,K g.az a.S.length g.cs,K a9 (a.O.length+1) c9]) dB rfl ⟨{g with ao:=a9,co:=c9},by rw [HE.out,ea.out];unfold bvs;simp only [lD,mQ],by rw [HE.out,ea.out,← b8.out];exact bm⟩
section
theorem XW {P:Program} {md:Region.Mode} {ops:Array Oper} {Q:Exit→Act→World→Prop} {S:World→Prop} {i:Nat} {g:Oper} {d:Option Nat} {fuel:Nat} {l l':Array Bool} {a:Act} {f:FuncId} {args:Array Value} {R:Value→World→Prop} (p:Region.ready md ops l=[i]) (hi:ops[i]?=U g) (k:g.dst=d) (hw:Region.wanted g (yielded ops a.tmps)=aN) (o:l.setIfInBounds i aN=l') (q:(execOp a.eval g).run P w=.ok (.enter f args) w) (j:Calls P f args w fun e c=>∃ v,e=.returned v∧R v c)
  (h:∀ v c,R v c→S c∧wpAnyH P md ops Q S fuel l' (a.put d v) c):wpAnyH P md ops Q S (fuel+1) l a w :=
 kF p (kZ hi k hw o q j h)
section
variable {ρ:Operand→Value} {o:Oper} {w:World}
end
end
theorem Zz (h:¬ (d.up=aN∧m.ok∧m.tw=0∧m.fm≤d.wk)):takeB d ts m=d:=by unfold takeB;rw [if_neg h]
theorem abD (h:d.up=aN∧m.ok∧m.tw=0∧m.fm≤d.wk) (a:m.kd=5):takeB d ts m=Gz d m:=by unfold takeB;rw [if_pos h,if_pos a]
theorem abG (h:d.up=aN∧m.ok∧m.tw=0∧m.fm≤d.wk) (a:m.kd=2):takeB d ts m=MK d m:=by unfold takeB;rw [if_pos h,if_neg A,if_pos a]
theorem abE (h:d.up=aN∧m.ok∧m.tw=0∧m.fm≤d.wk) (a:m.kd=3):takeB d ts m=Fa d ts m:=by unfold takeB;rw [if_pos h,if_neg A,if_neg A,if_pos a]
theorem Xt (d:BD) (h:BH) (pa:Option Addr) (pb po pn pc:Nat) (ts:List kJ) (kd fm tw ep le ta:Int) (x:ByteArray) (ss:List ByteArray) (ua:Option Addr) (ub uo uc:Nat) (hM:rU w d h) (hT:lN w pa pb po pn ts) (hs:d.small) (ez:kS w ua ub uo ss.length ss) :
  Calls prog 86 #[aI (nN d h),aI #[K pa pn pc],aI #[I Y kd,I Y fm,I Y tw,I Y ep,I Y le,I Y ta,E x,K ua ss.length uc]] w fun e w'=>abr e w.heap.size w' (KG d ts (⟨kd,fm,tw,ep,le,ta,x,ss⟩:lQ))∧Below w.heap.size w w':=by
 obtain ⟨W, hW⟩ := kC ((((w.alloc (aH (nN d h) 30)).alloc (aH #[K pa pn pc] 33)).alloc (aH #[I Y kd,I Y fm,I Y tw,I Y ep,I Y le,I Y ta,E x,K ua ss.length uc] 136)).alloc (aH Iw 141));obtain ⟨P0,L0,M0,R0,z0,B0⟩:=adv w (nN d h) #[K pa pn pc] #[I Y kd,I Y fm,I Y tw,I Y ep,I Y le,I Y ta,E x,K ua ss.length uc] Iw 30 33 136 141 hW;have P0:CF W w.heap.size (nR d h):=P0;have L0:CF W (w.heap.size+1) [K pa pn pc]:=L0;have M0:CF W (w.heap.size+2) [I Y kd,I Y fm,I Y tw,I Y ep,I Y le,I Y ta,E x,K ua ss.length uc]:=M0;have R0:CF W (w.heap.size+3) qH:=R0;have ei:EP w d (nR d h):=⟨h,rfl,hM⟩
 have hV:=hid (ei.below' B0);have et:=hid hs;have cg:=hid hT;have hf:=hid hM.fits;have ea:=hid ez;clear ei hs hT ez;have HW:=hid hW;clear hW;go_enter func86,ntmps86
 go_upto_region 1 with fail
 rw [← HW.out];clear HW;obtain ⟨y0,y1,y2,y3,y4,y5,y6,y7,y8,y9,ak,al⟩:=l9 P0;have kp:W.cell? ⟨w.heap.size+1,0,C⟩=U (K pa pn pc):=(L0 0 D).1;go_wp2_with fail
 refine (Gt d pa pb po pn pc ts hV.out (cg.out.below' B0) et.out).mono ?_;rintro e P ⟨⟨r,rfl,M⟩,bh⟩;clear y0 y1 y2 y3 y4 y5 y6 y7 y8 y9 ak al kp;have P1:=P0.block (bh.block w.heap.size A);have L1:=L0.block (bh.block (w.heap.size+1) A);have M1:=M0.block (bh.block (w.heap.size+2) A);have R1:=R0.block (bh.block (w.heap.size+3) A);have B1:=B0.trans (bh.mono B0.size);have z1:w.heap.size+4≤P.heap.size:=by have:=bh.size;omega
 have HR:=hid M;clear M bh P0 R0 B0 z0 L0 M0;cases r with
 | false =>
  have HN:Hid (¬ d.ok ts):=fun hh=>by have:=HR.out.2 hh;cases this
  go_upto_region 2 with fail
  go_wp2_with (refine jY rfl 141 (F 6) (F 16) rfl (w.heap.size+3) qH qH rfl rfl R1 rfl Tryz.sizeLd (DR) ?_;intro a8 au af)
  obtain ⟨k0,k1,k2,k3,k4,k5,k6,k7,k8,k9,av,aw,ax⟩:=Dq au;exact bodyPost_ret (v:=aI Iw) bD rfl ⟨⟨rM,⟨C,C,C,C,C,C,0,0,0,0,0,0⟩,K C 0 0,[],[],rfl,⟨TJ _ _,qy.nil _ _,fun r M=>Dj.symm (.inl rfl),fun r M j hj=>absurd hj D⟩,.inr ⟨HN.out,rfl⟩⟩,below_grown B1 af A (fun q hq=>dR)⟩
 | true =>
  have HV:Hid (d.ok ts):=HR.out.1 rfl;have fw:=cg.out.len;subst fw;have gd:1≤ts.length:=by
   have h9:=HV.out;obtain ⟨⟨ft,_⟩,_⟩:=h9;exact ft.YN.1
  obtain rfl:=cg.out.ad A;clear HR hV;have ey:=et.out;unfold BD.small at ey;obtain ⟨⟨b1,o1,h1⟩,⟨b2,o2,h2⟩,⟨b3,o3,h3⟩,⟨b4,o4,h4⟩,⟨b5,o5,Q⟩,⟨b6,o6,h6⟩⟩:=hM;have du:=hid (Ad d.wk d.up d.now d.sn d.ep d.gv h.a1 h.a2 h.ar h.aj h.az h.ao b1 o1 h.c1 b2 o2 h.c2 b3 o3 h.cr b4 o4 h.cj b5 o5 h.cs b6 o6 h.co d.L1 d.L2 d.R d.J d.S d.O P (h1.below' B1) (h2.below' B1) (h3.below' B1) (h4.below' B1) (Q.below' B1) (h6.below' B1) A A A A A A);clear h1 h2 h3 h4 Q h6 ey;obtain ⟨y0,y1,y2,y3,y4,y5,y6,y7,y8,y9,ak,al⟩:=l9 P1;go_wp2_with fail
  refine du.out.mono ?_;rintro e w2 ⟨ch,cq,ck,ct,cl,cv,cm,cw,cn,cx,cp,cy,rfl,⟨q0,q1,q2,q3,q4,q5⟩,en,dh⟩;clear y0 y1 y2 y3 y4 y5 y6 y7 y8 y9 ak al du;go_upto_region 4 with fail
  obtain ⟨W3, b0⟩ := kC (w2.alloc (aH #[I Y d.wk,aF d.up,I Y d.now,I Y d.sn,I Y d.ep,I Y d.gv,K ch d.L1.length cq,K ck d.L2.length ct,K cl d.R.length cv,K cm d.J.length cw,K cn d.S.length cx,K cp d.O.length cy] 30));obtain ⟨N, cz⟩ := kC w2.heap.size;have di:Below w2.heap.size w2 W3:=by rw [b0];exact kQ
  obtain ⟨a,er⟩:∃ x:BH,x=⟨ch,ck,cl,cm,cn,cp,cq,ct,cv,cw,cx,cy⟩:=⟨_,rfl⟩
  have fc:=dh.size;have T0:oZ P P.heap.size N [] d a W3:=by
   subst er;have ec:lg w2 P.heap.size d ⟨ch,ck,cl,cm,cn,cp,cq,ct,cv,cw,cx,cy⟩:=⟨q0,q1,q2,q3,q4,q5,en⟩
   refine ⟨ec.below di,?_,dh.trans (di.mono fc),fun r M e=>by have:=(ec.lo r M _ e).2;omega,⟨A,by rw [b0,cz];simp,kL⟩⟩;rw [pz,b0,cz];exact CF.made w2 #[I Y d.wk,aF d.up,I Y d.now,I Y d.sn,I Y d.ep,I Y d.gv,K ch d.L1.length cq,K ck d.L2.length ct,K cl d.R.length cv,K cm d.J.length cw,K cn d.S.length cx,K cp d.O.length cy] 30
  rw [← b0,← cz];have ae:=hid M1;have fj:=hid L1;have bs:=hid R1;have ag:=hid B1;have ah:=hid z1;have fl:=hid (ea.out.below' B1);have fo:=hid (cg.out.below' B1);clear b0 cz di dh q0 q1 q2 q3 q4 q5 en er fc L1 R1 P1 M1 B1 z1 ea;go_cut [38] (fun c wx=>∃ b:Bool,c=aF b∧(b=aK ↔ d.up=aN∧vM kd fm tw ep le ta x.size ss∧tw=0∧fm≤d.wk)∧oZ P P.heap.size N [] d a wx)
  case first =>
   have H:=hid T0;have n0:W3.cell? ⟨w.heap.size+2,0,C⟩=U (I Y kd):=kV H.out.hb ((ae.out 0 D).1);have n1:W3.cell? ⟨w.heap.size+2,1,C⟩=U (I Y fm):=kV H.out.hb ((ae.out 1 D).1);have n2:W3.cell? ⟨w.heap.size+2,2,C⟩=U (I Y tw):=kV H.out.hb ((ae.out 2 D).1);have n3:W3.cell? ⟨w.heap.size+2,3,C⟩=U (I Y ep):=kV H.out.hb ((ae.out 3 D).1);have n4:W3.cell? ⟨w.heap.size+2,4,C⟩=U (I Y le):=kV H.out.hb ((ae.out 4 D).1);have n5:W3.cell? ⟨w.heap.size+2,5,C⟩=U (I Y ta):=kV H.out.hb ((ae.out 5 D).1);have n6:W3.cell? ⟨w.heap.size+2,6,C⟩=U (E x):=kV H.out.hb ((ae.out 6 D).1);have n7:W3.cell? ⟨w.heap.size+2,7,C⟩=U (K ua ss.length uc):=kV H.out.hb ((ae.out 7 D).1);have y0:W3.cell? ⟨N,0,C⟩=U (I Y d.wk):=(T0.D 0 aP).1;rcases Sv d.up with bn | bn
   ·have y1:W3.cell? ⟨N,1,C⟩=U (aF aN):=by rw [← bn];exact (T0.D 1 aP).1
    have dy:=hid (NK kd fm tw ep le ta x ua ub uo ss.length uc ss W3 (fl.out.below' T0.hb));have df:=hid bn;clear T0 bn;go_wp2_with fail
    refine dy.out.mono ?_;rintro _ w5 ⟨⟨r,rfl,M⟩,a7⟩;have cf:=hid (H.out.below a7);have m1:=kV a7 n1;have m2:=kV a7 n2;have gi:=kV a7 y0;have dz:=hid M;clear n0 n1 n2 n3 n4 n5 n6 n7;clear M a7 dy y0 y1;cases r with
    | false =>
     go_wp2_with fail
     go_meet
     case rel=>exact ⟨aN,rfl,⟨fun h=>(by cases h),fun h=>absurd h.2.1 (by have:=dz.out;simpa using this)⟩,cf.out⟩
    | true =>
     by_cases bm:tw=0
     ·have fy:(tw == 0)=aN:=by simpa using bm
      have fz:(tw != 0)=aK:=by simp [bm]
      have fp:=hid bm;clear bm;by_cases bf:fm≤d.wk
      ·have fu:decide (d.wk<fm)=aK:=decide_eq_false A
       go_wp2_with fail
       go_meet
       case rel=>exact ⟨aK,rfl,⟨fun _=>⟨df.out,dz.out.1 (by trivial),fp.out,bf⟩,fun _=>rfl⟩,cf.out⟩
      ·have fu:decide (d.wk<fm)=aN:=decide_eq_true A
       go_wp2_with fail
       go_meet
       case rel=>exact ⟨aN,rfl,⟨fun h=>(by cases h),fun h=>absurd h.2.2.2 A⟩,cf.out⟩
     ·have fy:(tw == 0)=aK:=by simpa using bm
      have fz:(tw != 0)=aN:=by simpa using bm
      go_wp2_with fail
      go_meet
      case rel=>exact ⟨aN,rfl,⟨fun h=>(by cases h),fun h=>absurd h.2.2.1 bm⟩,cf.out⟩
   ·have y1:W3.cell? ⟨N,1,C⟩=U (aF aK):=by rw [← bn];exact (T0.D 1 aP).1
    have df:=hid bn;clear T0 bn;go_wp2_with fail
    go_meet
    case rel=>exact ⟨aN,rfl,⟨fun h=>(by cases h),fun h=>absurd (df.out.symm.trans h.1) D⟩,H.out⟩
  case rest =>
   obtain ⟨b,rfl,hb,T1⟩:=hcut;clear T0;cases b with
   | true =>
    have fk:=hid (Zz (d:=d) (ts:=ts) (m:=(⟨kd,fm,tw,ep,le,ta,x,ss⟩:lQ)) (fun hh=>by have:=hb.2 hh;cases this));clear hb;have aa:=T1;obtain ⟨y0,y1,y2,y3,y4,y5,y6,y7,y8,y9,ak,al⟩:=l9 aa.D;have R4:=bs.out.block (aa.hb.block (w.heap.size+3) jy);have V:=hid aa;clear aa;go_wp2_with (refine jY rfl 141 (F 6) (F 40) rfl (w.heap.size+3) qH [I Y d.wk,aF d.up,I Y d.now,I Y d.sn,I Y d.ep,I Y d.gv,K a.a1 d.L1.length a.c1,K a.a2 d.L2.length a.c2,K a.ar d.R.length a.cr,K a.aj d.J.length a.cj,K a.az d.S.length a.cs,K a.ao d.O.length a.co,K C 0 0] rfl rfl R4 rfl Tryz.sizeLd (DR) ?_;intro a8 au af)
    obtain ⟨k0,k1,k2,k3,k4,k5,k6,k7,k8,k9,av,aw,ax⟩:=Dq au;have bb:lg a8 P.heap.size d a:=V.out.bo.blk (fun r M k hk=>af.block k (V.out.bo.lo r M k hk).2 (fun e=>by
     injection e with e;have:=V.out.bo.lo r M k hk;have:=ah.out;omega))
    have B4:=ag.out.trans (V.out.hb.mono ag.out.size);exact bodyPost_ret (v:=aI #[I Y d.wk,aF d.up,I Y d.now,I Y d.sn,I Y d.ep,I Y d.gv,K a.a1 d.L1.length a.c1,K a.a2 d.L2.length a.c2,K a.ar d.R.length a.cr,K a.aj d.J.length a.cj,K a.az d.S.length a.cs,K a.ao d.O.length a.co,K C 0 0]) bD rfl ⟨⟨d,a,K C 0 0,[],[],rfl,⟨bb.mono ag.out.size,qy.nil _ _,fun r M=>Dj.symm (.inl rfl),fun r M j hj=>absurd hj D⟩,.inl ⟨HV.out,by rw [fk.out]⟩⟩,below_grown B4 af dU (fun q hq=>dR)⟩
   | false =>
    have HC:=hid (hb.1 rfl);clear hb;have ab:=BD.Xh HV.out HC.out.1;have hv:=HC.out.2.1;have bq:=HC.out.2.2.1;have bf:=HC.out.2.2.2;have dq:=ab.s;have H:=hid T1;have n0:wc.cell? ⟨w.heap.size+2,0,C⟩=U (I Y kd):=kV H.out.hb ((ae.out 0 D).1);have n1:wc.cell? ⟨w.heap.size+2,1,C⟩=U (I Y fm):=kV H.out.hb ((ae.out 1 D).1);have n2:wc.cell? ⟨w.heap.size+2,2,C⟩=U (I Y tw):=kV H.out.hb ((ae.out 2 D).1);have n3:wc.cell? ⟨w.heap.size+2,3,C⟩=U (I Y ep):=kV H.out.hb ((ae.out 3 D).1);have n4:wc.cell? ⟨w.heap.size+2,4,C⟩=U (I Y le):=kV H.out.hb ((ae.out 4 D).1);have n5:wc.cell? ⟨w.heap.size+2,5,C⟩=U (I Y ta):=kV H.out.hb ((ae.out 5 D).1);have n6:wc.cell? ⟨w.heap.size+2,6,C⟩=U (E x):=kV H.out.hb ((ae.out 6 D).1);have n7:wc.cell? ⟨w.heap.size+2,7,C⟩=U (K ua ss.length uc):=kV H.out.hb ((ae.out 7 D).1);unfold vM at hv;rcases hv with hv | hv | hv | hv | hv
    ·omega
    ·obtain ⟨rfl,hv⟩:=hv
     have fg:=hid (abG (d:=d) (ts:=ts) (m:=(⟨2,fm,tw,ep,le,ta,x,ss⟩:lQ)) ⟨HC.out.1,HC.out.2.1,bq,bf⟩ rfl);obtain ⟨p,u,_,ca,_,_⟩:=T1.bo.o3.Ht (i:=0) (by have:=ab.j;have:=ab.t.1;omega);have an:=hid (show a.aj=U ⟨p,u,C⟩ by injection ca with e1 e2 e3);have gg:=ab.now;have fs:d.J.length≤40:=by have:=ab.j;have:=ab.t;omega
     clear ca T1 bq bf hv ab dq;go_wp2_with fail
     clear n0 n1 n2 n3 n4 n5 n6 n7;go_loopw [11] (fun xv wr=>∃ i:Nat,i≤d.J.length∧xv=I Y i∧oZ P P.heap.size N [] {d with J:=jM (pI le d.now) d.J i} a wr) (fun xv _=>d.J.length - (intOf xv).toNat)
     case atStart=>exact ⟨0,lG _,rfl,by rw [WJ];exact H.out⟩
     case round =>
      clear H;obtain ⟨i,hi,rfl,hs⟩:=hrel;have H:=hid hs;by_cases ai:i<d.J.length
      case pos =>
       have dp:(i:Int)<(d.J.length:Int):=A;have hl:i<(jM (pI le d.now) d.J i).length:=by rw [CY];exact ai
       obtain ⟨ay, dn⟩ := kC ((t3 d.J i).1);have y9:wr.cell? ⟨N,9,C⟩=U (K (U ⟨p,u,C⟩) d.J.length a.cj):=by
        rw [← an.out,← CY (pI le d.now) d.J i];exact (hs.D 9 aP).1
       obtain ⟨bu,ou,cu,cd,e6,e8,fb⟩:=hs.bo.o3.abj (i:=i) hl;have eu:a.aj=U ⟨bu,ou,C⟩:=by injection cd with e1 e2 e3
       have e2:=an.out.symm.trans eu;injection e2 with e2;injection e2 with e3 e4;subst e3 e4;have fe:wr.cell? ⟨p,u+i*3,C⟩=U (I Y ay):=by
        rcases hs.bo.o3 with ⟨hx,_⟩ | ⟨g',gb,fq,hx,g⟩
        ·rw [an.out] at hx;cases hx
        ·rw [an.out] at hx
         injection hx with e1 e2 e3;injection e1 with e1;injection e1 with e4 e5;subst e4 e5;have h7:=g.holds (i*3+0) (by show i*3+0<(jM (pI le d.now) d.J i).length*3;omega);rw [show u+(i*3+0)=u+i*3 by omega] at h7;rw [h7,dn,← OV (f:=(pI le d.now)) ai];exact oW (jM (pI le d.now) d.J i) i 0 hl A
       have aq:wr.cell? ⟨N,9,C⟩=U (K (U ⟨p,u,C⟩) d.J.length a.cj)∧wr.cell? ⟨p,u+i*3,C⟩=U (I Y ay)∧wr.cell? ⟨w.heap.size+2,4,C⟩=U (I Y le):=⟨y9,fe,kV hs.hb ((ae.out 4 D).1)⟩
       have bw:=hid aq;have bd:=hid (And.intro e6 (And.intro e8 (fb (d.now+12))));have br:=hid dn;clear aq fe cd eu e6 e8 fb dn hs;go_upto_region 19 with fail
       have aq:=bw.out;clear y9 bw;refine wp_region_held (S:=fun w'=>w'.cell? ⟨N,9,C⟩=U (K (U ⟨p,u,C⟩) d.J.length a.cj)∧w'.cell? ⟨p,u+i*3,C⟩=U (I Y ay)∧w'.cell? ⟨w.heap.size+2,4,C⟩=U (I Y le)) Z ?_;change wpAnyH _ _ _ _ _ _ _ _ (World.drew _);have L:wr.drew.cell? ⟨N,9,C⟩=U (K (U ⟨p,u,C⟩) d.J.length a.cj)∧wr.drew.cell? ⟨p,u+i*3,C⟩=U (I Y ay)∧wr.drew.cell? ⟨w.heap.size+2,4,C⟩=U (I Y le):=aq;have T5:=H.out.below (Iz wr.heap.size wr).drew;have e7:wr.drew.cell? ⟨p,u+i*3+2,C⟩=U (I Y (t3 (jM (pI le d.now) d.J i) i).2.2):=bd.out.1;have fa:wr.drew.frozen? ⟨p,u+i*3+2,C⟩=aK:=bd.out.2.1;have ba:Hid (Own P.heap.size (wr.drew.setCell ⟨p,u+i*3+2,C⟩ (I Y (d.now+12))) 3 (K a.aj (jM (pI le d.now) d.J i).length a.cj) (jM (pI le d.now) d.J i).length (c3 ((jM (pI le d.now) d.J i).set i ((t3 (jM (pI le d.now) d.J i) i).1,(t3 (jM (pI le d.now) d.J i) i).2.1,d.now+12)))):=bd.out.2.2.blk (fun q _=>rfl);obtain ⟨x0, bp⟩ := kC wr.drew;rw [← bp] at L T5 e7 fa ba;rw [← bp];clear bp aq H bd;by_cases hle:ay=le
       ·have bk:(ay == le)=aN:=by simpa using hle
        refine jZ (i:=0) (d:=U 85) (v:=aG (U ⟨N,9,C⟩)) (l':=(bt 9 1)) rfl (fun _ g=>DV (F 7) Z Z) L ?_;refine jZ (i:=1) (d:=U 86) (v:=(K (U ⟨p,u,C⟩) d.J.length a.cj)) (l':=(bt 9 3)) rfl (fun _ g=>CG (F 85) Z Z g.1) L ?_;refine jZ (i:=2) (d:=U 87) (v:=I Y (i:Nat)) (l':=(bt 9 7)) rfl (fun _ g=>yT (F 11) Z Z) L ?_;refine jZ (i:=3) (d:=U 88) (v:=aG (U ⟨p,u+i*3,C⟩)) (l':=(bt 9 15)) rfl (fun _ g=>yU (F 86) (F 87) p u d.J.length a.cj i Z Z Z ai) L ?_;refine jZ (i:=4) (d:=U 89) (v:=aG (U ⟨p,u+i*3,C⟩)) (l':=(bt 9 31)) rfl (fun _ g=>JE (F 88) Z Z) L ?_;refine jZ (i:=5) (d:=U 90) (v:=I Y ay) (l':=(bt 9 63)) rfl (fun _ g=>nG (F 89) Z Z g.2.1) L ?_;refine jZ (i:=6) (d:=U 91) (v:=aG (U ⟨w.heap.size+2,4,C⟩)) (l':=(bt 9 127)) rfl (fun _ g=>VT (F 5) Z Z) L ?_;refine jZ (i:=7) (d:=U 92) (v:=I Y le) (l':=(bt 9 255)) rfl (fun _ g=>nG (F 91) Z Z g.2.2) L ?_;refine jZ (i:=8) (d:=U 93) (v:=aF aN) (l':=(bt 9 511)) rfl (fun _ g=>Mc (F 90) (F 92) ay le aN Z Z Z bk) L ?_;refine wpAnyH_done Z ?_ _;have cc:yV {d with J:=jM (pI le d.now) d.J i} a=U p:=by unfold yV;rw [an.out];rfl
        have g5:x0.grownBy (x0.setCell ⟨p,u+i*3+2,C⟩ (I Y (d.now+12))) (yV {d with J:=jM (pI le d.now) d.J i} a):=by rw [cc];exact lU (lJ x0 _) _ _
        have T6:=T5.Nq (J:=jM (pI le d.now) d.J (i+1)) (by rw [CY,CY]) g5 (by
         have e9:(jM (pI le d.now) d.J i).set i ((t3 (jM (pI le d.now) d.J i) i).1,(t3 (jM (pI le d.now) d.J i) i).2.1,d.now+12)=jM (pI le d.now) d.J (i+1):=by
          rw [← UL ai,OV ai];unfold pI;rw [if_pos jv]
         rw [← e9];exact ba.out)
        have bg:=hid T6;have y9:x0.cell? ⟨N,9,C⟩=U (K (U ⟨p,u,C⟩) d.J.length a.cj):=L.1;have y2:x0.cell? ⟨N,2,C⟩=U (I Y d.now):=(T5.D 2 aP).1;clear L T6 T5 cc g5 ba hle;go_simp;go_wp2_with fail
        go_roundw
        case rel=>exact ⟨i+1,A,aW,bg.out⟩
        case measure=>simp [intOf];omega
       ·have bk:(ay == le)=aK:=by simpa using hle
        refine jZ (i:=0) (d:=U 85) (v:=aG (U ⟨N,9,C⟩)) (l':=(bt 9 1)) rfl (fun _ g=>DV (F 7) Z Z) L ?_;refine jZ (i:=1) (d:=U 86) (v:=(K (U ⟨p,u,C⟩) d.J.length a.cj)) (l':=(bt 9 3)) rfl (fun _ g=>CG (F 85) Z Z g.1) L ?_;refine jZ (i:=2) (d:=U 87) (v:=I Y (i:Nat)) (l':=(bt 9 7)) rfl (fun _ g=>yT (F 11) Z Z) L ?_;refine jZ (i:=3) (d:=U 88) (v:=aG (U ⟨p,u+i*3,C⟩)) (l':=(bt 9 15)) rfl (fun _ g=>yU (F 86) (F 87) p u d.J.length a.cj i Z Z Z ai) L ?_;refine jZ (i:=4) (d:=U 89) (v:=aG (U ⟨p,u+i*3,C⟩)) (l':=(bt 9 31)) rfl (fun _ g=>JE (F 88) Z Z) L ?_;refine jZ (i:=5) (d:=U 90) (v:=I Y ay) (l':=(bt 9 63)) rfl (fun _ g=>nG (F 89) Z Z g.2.1) L ?_;refine jZ (i:=6) (d:=U 91) (v:=aG (U ⟨w.heap.size+2,4,C⟩)) (l':=(bt 9 127)) rfl (fun _ g=>VT (F 5) Z Z) L ?_;refine jZ (i:=7) (d:=U 92) (v:=I Y le) (l':=(bt 9 255)) rfl (fun _ g=>nG (F 91) Z Z g.2.2) L ?_;refine jZ (i:=8) (d:=U 93) (v:=aF aK) (l':=(bt 9 511)) rfl (fun _ g=>Mc (F 90) (F 92) ay le aK Z Z Z bk) L ?_;refine wpAnyH_done Z ?_ _;have bg:=hid (show oZ P P.heap.size N [] {d with J:=jM (pI le d.now) d.J (i+1)} a x0 by rw [WL ai (by unfold pI;rw [if_neg jv])];exact T5);clear L T5 e7 fa ba hle;go_simp;go_wp2_with fail
        go_roundw
        case rel=>exact ⟨i+1,A,aW,bg.out⟩
        case measure=>simp [intOf];omega
      case neg =>
       obtain rfl:i=d.J.length:=A;have dp:¬ (d.J.length:Int)<(d.J.length:Int):=A;obtain ⟨X, dj⟩ := kC (MK d (⟨2,fm,tw,ep,le,ta,x,ss⟩:lQ));have T9:oZ P P.heap.size N [] X a wr:=by
        rw [dj];unfold MK;dsimp only;rw [← YV];exact hs
       have y9:wr.cell? ⟨N,9,C⟩=U (K (U ⟨p,u,C⟩) d.J.length a.cj):=by
        rw [← an.out,← CY (pI le d.now) d.J d.J.length];exact (hs.D 9 aP).1
       have fh:=hid dj;clear dj hs H;go_upto_region 23 with fail
       clear y9;have aa:=T9;obtain ⟨y0,y1,y2,y3,y4,y5,y6,y7,y8,y9,ak,al⟩:=l9 aa.D;have R4:=bs.out.block (aa.hb.block (w.heap.size+3) jy);have V:=hid aa;clear aa;go_wp2_with (refine jY rfl 141 (F 6) (F 109) rfl (w.heap.size+3) qH [I Y X.wk,aF X.up,I Y X.now,I Y X.sn,I Y X.ep,I Y X.gv,K a.a1 X.L1.length a.c1,K a.a2 X.L2.length a.c2,K a.ar X.R.length a.cr,K a.aj X.J.length a.cj,K a.az X.S.length a.cs,K a.ao X.O.length a.co,K C 0 0] rfl rfl R4 rfl Tryz.sizeLd (DR) ?_;intro a8 au af)
       obtain ⟨k0,k1,k2,k3,k4,k5,k6,k7,k8,k9,av,aw,ax⟩:=Dq au;have bb:lg a8 P.heap.size X a:=V.out.bo.blk (fun r M k hk=>af.block k (V.out.bo.lo r M k hk).2 (fun e=>by
        injection e with e;have:=V.out.bo.lo r M k hk;have:=ah.out;omega))
       have B4:=ag.out.trans (V.out.hb.mono ag.out.size);exact bodyPost_ret (v:=aI #[I Y X.wk,aF X.up,I Y X.now,I Y X.sn,I Y X.ep,I Y X.gv,K a.a1 X.L1.length a.c1,K a.a2 X.L2.length a.c2,K a.ar X.R.length a.cr,K a.aj X.J.length a.cj,K a.az X.S.length a.cs,K a.ao X.O.length a.co,K C 0 0]) bD rfl ⟨⟨X,a,K C 0 0,[],[],rfl,⟨bb.mono ag.out.size,qy.nil _ _,fun r M=>Dj.symm (.inl rfl),fun r M j hj=>absurd hj D⟩,.inl ⟨HV.out,by rw [fg.out,fh.out]⟩⟩,below_grown B4 af dU (fun q hq=>dR)⟩
    ·obtain ⟨rfl,hv⟩:=hv
     obtain ⟨k,rfl⟩:∃ k:Nat,fm=(k:Int)+1:=⟨(fm - 1).toNat,A⟩
     obtain ⟨t,rfl⟩:∃ t:Nat,ta=(t:Int):=⟨ta.toNat,A⟩
     have dc:=hid (UC P P.heap.size d a (U ⟨pb,po,C⟩) pb po pc ts 3 tw ep le k t x ss ua ss.length uc wc T1.bo T1.hb ⟨kL,T1.hb.size⟩ hf.out A (fo.out.below' T1.hb) ab.t.2.2 ab.r ab.j ab.t.2.1 A A A ab.ep ab.l ab.o);obtain ⟨y0,y1,y2,y3,y4,y5,y6,y7,y8,y9,ak,al⟩:=l9 T1.D;have kp:wc.cell? ⟨w.heap.size+1,0,C⟩=U (K (U ⟨pb,po,C⟩) ts.length pc):=kV T1.hb ((fj.out 0 D).1);have eb:=hid (abE (d:=d) (ts:=ts) (m:=(⟨3,(k:Int)+1,tw,ep,le,(t:Int),x,ss⟩:lQ)) ⟨HC.out.1,HC.out.2.1,bq,bf⟩ rfl);obtain ⟨T, ek⟩ := kC (Fa d ts (⟨3,(k:Int)+1,tw,ep,le,(t:Int),x,ss⟩:lQ));rw [← ek] at dc eb;clear T1 ek bq bf hv ab dq;go_wp2_with fail
     refine dc.out.mono ?_;rintro e w5 ⟨Q,he,b8,a7,dm,c6⟩;have fv:e=.returned (aI (nN T Q)):=he;clear he;subst fv;have bl:=H.out.q;have ga:=dm.size;have bz:CF w5 N (nR d a):=by
      have h6:CF wc N (nR d a):=by have:=H.out.D;rw [pz] at this;exact this
      exact h6.block (dm.block N bl.2.1 (fun r M e=>H.out.nr r M e))
     have dw:=hid (And.intro b8 (And.intro a7 c6));clear n0 n1 n2 n3 n4 n5 n6 n7;clear y0 y1 y2 y3 y4 y5 y6 y7 y8 y9 ak al kp dc b8 a7 dm c6;go_upto_region 23 with (refine jY rfl 30 (F 7) (F 107) rfl N (nR d a) (nR T Q) rfl rfl bz rfl Tryz.sizeBo (nP) ?_;intro w9 b9 bc)
     have T9:oZ P P.heap.size N [] T Q w9:=by
      obtain ⟨b8,a7,c6⟩:=dw.out;have cb:∀ r∈kK T Q,r≠U N:=fun r M e=>by
       rcases c6 r M with h6 | h6
       ·exact H.out.nr r h6 e
       ·have:=h6 N e;omega
      exact ⟨b8.blk (fun r M q e=>bc.block q (b8.lo r M q e).2 (fun e'=>cb r M (e.trans e'))),by rw [pz];exact b9,a7.grown bc A (fun q e=>O),cb,⟨bl.1,by have:=bc.size;omega,bl.2.2⟩⟩
     clear bz dw b9 bc;have aa:=T9;obtain ⟨y0,y1,y2,y3,y4,y5,y6,y7,y8,y9,ak,al⟩:=l9 aa.D;have R4:=bs.out.block (aa.hb.block (w.heap.size+3) jy);have V:=hid aa;clear aa;go_wp2_with (refine jY rfl 141 (F 6) (F 109) rfl (w.heap.size+3) qH [I Y T.wk,aF T.up,I Y T.now,I Y T.sn,I Y T.ep,I Y T.gv,K Q.a1 T.L1.length Q.c1,K Q.a2 T.L2.length Q.c2,K Q.ar T.R.length Q.cr,K Q.aj T.J.length Q.cj,K Q.az T.S.length Q.cs,K Q.ao T.O.length Q.co,K C 0 0] rfl rfl R4 rfl Tryz.sizeLd (DR) ?_;intro a8 au af)
     obtain ⟨k0,k1,k2,k3,k4,k5,k6,k7,k8,k9,av,aw,ax⟩:=Dq au;have bb:lg a8 P.heap.size T Q:=V.out.bo.blk (fun r M k hk=>af.block k (V.out.bo.lo r M k hk).2 (fun e=>by
      injection e with e;have:=V.out.bo.lo r M k hk;have:=ah.out;omega))
     have B4:=ag.out.trans (V.out.hb.mono ag.out.size);exact bodyPost_ret (v:=aI #[I Y T.wk,aF T.up,I Y T.now,I Y T.sn,I Y T.ep,I Y T.gv,K Q.a1 T.L1.length Q.c1,K Q.a2 T.L2.length Q.c2,K Q.ar T.R.length Q.cr,K Q.aj T.J.length Q.cj,K Q.az T.S.length Q.cs,K Q.ao T.O.length Q.co,K C 0 0]) bD rfl ⟨⟨T,Q,K C 0 0,[],[],rfl,⟨bb.mono ag.out.size,qy.nil _ _,fun r M=>Dj.symm (.inl rfl),fun r M j hj=>absurd hj D⟩,.inl ⟨HV.out,by rw [eb.out]⟩⟩,below_grown B4 af dU (fun q hq=>dR)⟩
    ·omega
    ·obtain ⟨rfl,hv⟩:=hv
     obtain ⟨k,rfl⟩:∃ k:Nat,fm=(k:Int)+1:=⟨(fm - 1).toNat,A⟩
     have dx:=hid (abD (d:=d) (ts:=ts) (m:=(⟨5,(k:Int)+1,tw,ep,le,ta,x,ss⟩:lQ)) ⟨HC.out.1,HC.out.2.1,bq,bf⟩ rfl);obtain ⟨p,u,_,ca,_,_⟩:=T1.bo.o3.Ht (i:=0) (by have:=ab.j;have:=ab.t.1;omega);have an:=hid (show a.aj=U ⟨p,u,C⟩ by injection ca with e1 e2 e3);have fs:d.J.length≤40:=by have:=ab.j;have:=ab.t;omega
     have dv:=hid (OL d a 5 tw ep le ta k x ua ss.length uc P.heap.size wc T1.bo A A);obtain ⟨y0,y1,y2,y3,y4,y5,y6,y7,y8,y9,ak,al⟩:=l9 T1.D;clear ca T1 bq bf hv ab dq;go_wp2_with fail
     refine dv.out.mono ?_;rintro _ w5 ⟨S',r,rfl,eo,eh,ej,c5⟩;clear n0 n1 n2 n3 n4 n5 n6 n7;clear y0 y1 y2 y3 y4 y5 y6 y7 y8 y9 ak al dv;have bl:=H.out.q;have ga:=c5.size;have bz:CF w5 N (nR d a):=by
      have h6:CF wc N (nR d a):=by have:=H.out.D;rw [pz] at this;exact this
      exact h6.block (c5.block N bl.2.1 (fun z hz e=>by rw [List.mem_singleton.1 hz] at e;exact H.out.nr _ (qW d a) e))
     have ed:Below P.heap.size P w5:=Grew.below H.out.hb c5 A (fun z hz q e=>by rw [List.mem_singleton.1 hz] at e;exact (H.out.bo.lo _ (qW d a) q e).1);have da:=hid eo;have de:=hid eh;have dt:=hid ej;clear c5 eo eh ej;go_upto_region 9 with fail
     obtain ⟨W8, c4⟩ := kC (w5.alloc (aH (nN d a) 30));obtain ⟨Q8, dg⟩ := kC w5.heap.size;have b7:Below w5.heap.size w5 W8:=by rw [c4];exact kQ
     have c8:CF W8 Q8 (nR d a):=by rw [c4,dg];exact CF.made w5 (nN d a) 30
     have ef:=bz.block (b7.block N A);have ee:=ed.trans (b7.mono A);have c7:=hid (dt.out.below b7);have gh:=b7.size;rw [← c4,← dg];obtain ⟨y0,y1,y2,y3,y4,y5,y6,y7,y8,y9,ak,al⟩:=l9 c8;clear c4 dg b7 bz ed dt c8;go_upto_region 10 with (refine jY rfl 30 (F 7) (F 51) rfl N (nR d a) (nR d a) rfl rfl ef rfl Tryz.sizeBo (nP) ?_;intro w9 b9 bc)
     have T9:oZ P P.heap.size N [] {d with S:=S'} a w9:=by
      have fx:kK {d with S:=S'} a=kK d a:=by unfold kK;simp only [de.out]
      have cb:∀ z∈kK {d with S:=S'} a,z≠U N:=by rw [fx];exact H.out.nr
      refine ⟨c7.out.blk (fun r M q e=>bc.block q (c7.out.lo r M q e).2 (fun e'=>cb r M (e.trans e'))),?_,ee.grown bc A (fun q e=>O),cb,⟨bl.1,by have:=bc.size;omega,bl.2.2⟩⟩;rw [pz];unfold bvs;simp only [de.out];exact b9
     clear y0 y1 y2 y3 y4 y5 y6 y7 y8 y9 ak al ef ee c7 b9 bc H;rcases da.out with ⟨hn,rfl,eg⟩ | ⟨hn,rfl⟩
     ·have db:=hid (show Gz d (⟨5,(k:Int)+1,tw,ep,le,ta,x,ss⟩:lQ)=d by unfold Gz;dsimp only;rw [hn])
      rw [eg] at T9;have H:=hid T9;clear T9 hn eg da de;go_wp2_with fail
      go_loopw [10] (fun xv wr=>xv=I Y 0∧oZ P P.heap.size N [] d a wr) (fun _ _=>0)
      case atStart=>exact ⟨rfl,H.out⟩
      case round =>
       clear H;obtain ⟨rfl,T9⟩:=hrel;go_upto_region 23 with fail
       have aa:=T9;obtain ⟨y0,y1,y2,y3,y4,y5,y6,y7,y8,y9,ak,al⟩:=l9 aa.D;have R4:=bs.out.block (aa.hb.block (w.heap.size+3) jy);have V:=hid aa;clear aa;go_wp2_with (refine jY rfl 141 (F 6) (F 109) rfl (w.heap.size+3) qH [I Y d.wk,aF d.up,I Y d.now,I Y d.sn,I Y d.ep,I Y d.gv,K a.a1 d.L1.length a.c1,K a.a2 d.L2.length a.c2,K a.ar d.R.length a.cr,K a.aj d.J.length a.cj,K a.az d.S.length a.cs,K a.ao d.O.length a.co,K C 0 0] rfl rfl R4 rfl Tryz.sizeLd (DR) ?_;intro a8 au af)
       obtain ⟨k0,k1,k2,k3,k4,k5,k6,k7,k8,k9,av,aw,ax⟩:=Dq au;have bb:lg a8 P.heap.size d a:=V.out.bo.blk (fun r M k hk=>af.block k (V.out.bo.lo r M k hk).2 (fun e=>by
        injection e with e;have:=V.out.bo.lo r M k hk;have:=ah.out;omega))
       have B4:=ag.out.trans (V.out.hb.mono ag.out.size);exact bodyPost_ret (v:=aI #[I Y d.wk,aF d.up,I Y d.now,I Y d.sn,I Y d.ep,I Y d.gv,K a.a1 d.L1.length a.c1,K a.a2 d.L2.length a.c2,K a.ar d.R.length a.cr,K a.aj d.J.length a.cj,K a.az d.S.length a.cs,K a.ao d.O.length a.co,K C 0 0]) bD rfl ⟨⟨d,a,K C 0 0,[],[],rfl,⟨bb.mono ag.out.size,qy.nil _ _,fun r M=>Dj.symm (.inl rfl),fun r M j hj=>absurd hj D⟩,.inl ⟨HV.out,by rw [dx.out,db.out]⟩⟩,below_grown B4 af dU (fun q hq=>dR)⟩
     ·have db:=hid (show Gz d (⟨5,(k:Int)+1,tw,ep,le,ta,x,ss⟩:lQ)={d with J:=d.J.map (qL ((k:Int)+1)),S:=S'} by unfold Gz;dsimp only;rw [hn])
      have H:=hid T9;clear T9 hn da;go_wp2_with fail
      go_loopw [10] (fun xv wr=>∃ i:Nat,i≤d.J.length∧xv=I Y i∧oZ P P.heap.size N [] {d with J:=jM (qL ((k:Int)+1)) d.J i,S:=S'} a wr) (fun xv _=>d.J.length - (intOf xv).toNat)
      case atStart=>exact ⟨0,lG _,rfl,by rw [WJ];exact H.out⟩
      case round =>
       clear H;obtain ⟨i,hi,rfl,hs⟩:=hrel;have H:=hid hs;by_cases ai:i<d.J.length
       case pos =>
        have dp:(i:Int)<(d.J.length:Int):=A;have hl:i<(jM (qL ((k:Int)+1)) d.J i).length:=by rw [CY];exact ai
        obtain ⟨a6, ds⟩ := kC ((t3 d.J i).2.1);have y9:wr.cell? ⟨N,9,C⟩=U (K (U ⟨p,u,C⟩) d.J.length a.cj):=by
         rw [← an.out,← CY (qL ((k:Int)+1)) d.J i];exact (hs.D 9 aP).1
        obtain ⟨bu,ou,cu,cd,e0,ew⟩:=hs.bo.o3.Ht (i:=i) hl;have eu:a.aj=U ⟨bu,ou,C⟩:=by injection cd with e1 e2 e3
        have e2:=an.out.symm.trans eu;injection e2 with e2;injection e2 with e3 e4;subst e3 e4;have ff:wr.cell? ⟨p,u+i*3+1,C⟩=U (I Y a6):=by
         rcases hs.bo.o3 with ⟨hx,_⟩ | ⟨g',gb,fq,hx,g⟩
         ·rw [an.out] at hx;cases hx
         ·rw [an.out] at hx
          injection hx with e1 e2 e3;injection e1 with e1;injection e1 with e4 e5;subst e4 e5;have h7:=g.holds (i*3+1) (by show i*3+1<(jM (qL ((k:Int)+1)) d.J i).length*3;omega);rw [← nS] at h7;rw [h7,ds,← OV (f:=(qL ((k:Int)+1))) ai];exact oW (jM (qL ((k:Int)+1)) d.J i) i 1 hl A
        have aq:wr.cell? ⟨N,9,C⟩=U (K (U ⟨p,u,C⟩) d.J.length a.cj)∧wr.cell? ⟨p,u+i*3+1,C⟩=U (I Y a6)∧wr.cell? ⟨w.heap.size+2,1,C⟩=U (I Y ((k:Int)+1)):=⟨y9,ff,kV hs.hb ((ae.out 1 D).1)⟩
        have bw:=hid aq;have bd:=hid (And.intro e0 (ew ((0,0,0):Tr)));have br:=hid ds;clear aq ff cd eu e0 ew ds hs;go_upto_region 13 with fail
        have aq:=bw.out;clear y9 bw;refine wp_region_held (S:=fun w'=>w'.cell? ⟨N,9,C⟩=U (K (U ⟨p,u,C⟩) d.J.length a.cj)∧w'.cell? ⟨p,u+i*3+1,C⟩=U (I Y a6)∧w'.cell? ⟨w.heap.size+2,1,C⟩=U (I Y ((k:Int)+1))) Z ?_;change wpAnyH _ _ _ _ _ _ _ _ (World.drew _);have L:wr.drew.cell? ⟨N,9,C⟩=U (K (U ⟨p,u,C⟩) d.J.length a.cj)∧wr.drew.cell? ⟨p,u+i*3+1,C⟩=U (I Y a6)∧wr.drew.cell? ⟨w.heap.size+2,1,C⟩=U (I Y ((k:Int)+1)):=aq;have T5:=H.out.below (Iz wr.heap.size wr).drew;have dr:wr.drew.there p (u+i*3) 3:=bd.out.1;have ba:Hid (Own P.heap.size (wr.drew.setCells p (u+i*3) Iy) 3 (K a.aj (jM (qL ((k:Int)+1)) d.J i).length a.cj) (jM (qL ((k:Int)+1)) d.J i).length (c3 ((jM (qL ((k:Int)+1)) d.J i).set i (0,0,0)))):=bd.out.2.blk (fun q _=>rfl);obtain ⟨x0, bp⟩ := kC wr.drew;rw [← bp] at L T5 dr ba;rw [← bp];clear bp aq H bd;by_cases hle:a6=(k:Int)+1
        ·have bk:(a6 == (k:Int)+1)=aN:=by simpa using hle
         refine jZ (i:=0) (d:=U 62) (v:=aG (U ⟨N,9,C⟩)) (l':=(bt 9 1)) rfl (fun _ g=>DV (F 7) Z Z) L ?_;refine jZ (i:=1) (d:=U 63) (v:=(K (U ⟨p,u,C⟩) d.J.length a.cj)) (l':=(bt 9 3)) rfl (fun _ g=>CG (F 62) Z Z g.1) L ?_;refine jZ (i:=2) (d:=U 64) (v:=I Y (i:Nat)) (l':=(bt 9 7)) rfl (fun _ g=>yT (F 10) Z Z) L ?_;refine jZ (i:=3) (d:=U 65) (v:=aG (U ⟨p,u+i*3,C⟩)) (l':=(bt 9 15)) rfl (fun _ g=>yU (F 63) (F 64) p u d.J.length a.cj i Z Z Z ai) L ?_;refine jZ (i:=4) (d:=U 66) (v:=aG (U ⟨p,u+i*3+1,C⟩)) (l':=(bt 9 31)) rfl (fun _ g=>Uh (F 65) Z Z) L ?_;refine jZ (i:=5) (d:=U 67) (v:=I Y a6) (l':=(bt 9 63)) rfl (fun _ g=>nG (F 66) Z Z g.2.1) L ?_;refine jZ (i:=6) (d:=U 68) (v:=aG (U ⟨w.heap.size+2,1,C⟩)) (l':=(bt 9 127)) rfl (fun _ g=>LX (F 5) Z Z) L ?_;refine jZ (i:=7) (d:=U 69) (v:=I Y ((k:Int)+1)) (l':=(bt 9 255)) rfl (fun _ g=>nG (F 68) Z Z g.2.2) L ?_;refine jZ (i:=8) (d:=U 70) (v:=aF aN) (l':=(bt 9 511)) rfl (fun _ g=>Mc (F 67) (F 69) a6 ((k:Int)+1) aN Z Z Z bk) L ?_;refine wpAnyH_done Z ?_ _;have cc:yV {d with J:=jM (qL ((k:Int)+1)) d.J i,S:=S'} a=U p:=by unfold yV;rw [an.out];rfl
         have g5:x0.grownBy (x0.setCells p (u+i*3) Iy) (yV {d with J:=jM (qL ((k:Int)+1)) d.J i,S:=S'} a):=by rw [cc];exact gsc
         have T6:=T5.Nq (J:=jM (qL ((k:Int)+1)) d.J (i+1)) (by rw [CY,CY]) g5 (by
          have e9:(jM (qL ((k:Int)+1)) d.J i).set i (0,0,0)=jM (qL ((k:Int)+1)) d.J (i+1):=by
           rw [← UL ai];unfold qL;rw [if_pos jv]
          rw [← e9];exact ba.out)
         have bg:=hid T6;have y9:x0.cell? ⟨N,9,C⟩=U (K (U ⟨p,u,C⟩) d.J.length a.cj):=L.1;clear L T6 T5 cc g5 ba hle;go_simp;go_wp2_with (refine Ar rfl (F 75) (F 74) rfl p (u+i*3) 0 0 0 rfl rfl dr ?_)
         go_roundw
         case rel=>exact ⟨i+1,A,aW,bg.out⟩
         case measure=>simp [intOf];omega
        ·have bk:(a6 == (k:Int)+1)=aK:=by simpa using hle
         refine jZ (i:=0) (d:=U 62) (v:=aG (U ⟨N,9,C⟩)) (l':=(bt 9 1)) rfl (fun _ g=>DV (F 7) Z Z) L ?_;refine jZ (i:=1) (d:=U 63) (v:=(K (U ⟨p,u,C⟩) d.J.length a.cj)) (l':=(bt 9 3)) rfl (fun _ g=>CG (F 62) Z Z g.1) L ?_;refine jZ (i:=2) (d:=U 64) (v:=I Y (i:Nat)) (l':=(bt 9 7)) rfl (fun _ g=>yT (F 10) Z Z) L ?_;refine jZ (i:=3) (d:=U 65) (v:=aG (U ⟨p,u+i*3,C⟩)) (l':=(bt 9 15)) rfl (fun _ g=>yU (F 63) (F 64) p u d.J.length a.cj i Z Z Z ai) L ?_;refine jZ (i:=4) (d:=U 66) (v:=aG (U ⟨p,u+i*3+1,C⟩)) (l':=(bt 9 31)) rfl (fun _ g=>Uh (F 65) Z Z) L ?_;refine jZ (i:=5) (d:=U 67) (v:=I Y a6) (l':=(bt 9 63)) rfl (fun _ g=>nG (F 66) Z Z g.2.1) L ?_;refine jZ (i:=6) (d:=U 68) (v:=aG (U ⟨w.heap.size+2,1,C⟩)) (l':=(bt 9 127)) rfl (fun _ g=>LX (F 5) Z Z) L ?_;refine jZ (i:=7) (d:=U 69) (v:=I Y ((k:Int)+1)) (l':=(bt 9 255)) rfl (fun _ g=>nG (F 68) Z Z g.2.2) L ?_;refine jZ (i:=8) (d:=U 70) (v:=aF aK) (l':=(bt 9 511)) rfl (fun _ g=>Mc (F 67) (F 69) a6 ((k:Int)+1) aK Z Z Z bk) L ?_;refine wpAnyH_done Z ?_ _;have bg:=hid (show oZ P P.heap.size N [] {d with J:=jM (qL ((k:Int)+1)) d.J (i+1),S:=S'} a x0 by rw [WL ai (by unfold qL;rw [if_neg jv])];exact T5);clear L T5 dr ba hle;go_simp;go_wp2_with fail
         go_roundw
         case rel=>exact ⟨i+1,A,aW,bg.out⟩
         case measure=>simp [intOf];omega
       case neg =>
        obtain rfl:i=d.J.length:=A;have dp:¬ (d.J.length:Int)<(d.J.length:Int):=A;obtain ⟨dH, dk⟩ := kC (Gz d (⟨5,(k:Int)+1,tw,ep,le,ta,x,ss⟩:lQ));have T9:oZ P P.heap.size N [] dH a wr:=by
         rw [dk,db.out,← YV];exact hs
        have y9:wr.cell? ⟨N,9,C⟩=U (K (U ⟨p,u,C⟩) d.J.length a.cj):=by
         rw [← an.out,← CY (qL ((k:Int)+1)) d.J d.J.length];exact (hs.D 9 aP).1
        have fi:=hid dk;clear dk hs H;go_upto_region 23 with fail
        clear y9;have aa:=T9;obtain ⟨y0,y1,y2,y3,y4,y5,y6,y7,y8,y9,ak,al⟩:=l9 aa.D;have R4:=bs.out.block (aa.hb.block (w.heap.size+3) jy);have V:=hid aa;clear aa;go_wp2_with (refine jY rfl 141 (F 6) (F 109) rfl (w.heap.size+3) qH [I Y dH.wk,aF dH.up,I Y dH.now,I Y dH.sn,I Y dH.ep,I Y dH.gv,K a.a1 dH.L1.length a.c1,K a.a2 dH.L2.length a.c2,K a.ar dH.R.length a.cr,K a.aj dH.J.length a.cj,K a.az dH.S.length a.cs,K a.ao dH.O.length a.co,K C 0 0] rfl rfl R4 rfl Tryz.sizeLd (DR) ?_;intro a8 au af)
        obtain ⟨k0,k1,k2,k3,k4,k5,k6,k7,k8,k9,av,aw,ax⟩:=Dq au;have bb:lg a8 P.heap.size dH a:=V.out.bo.blk (fun r M k hk=>af.block k (V.out.bo.lo r M k hk).2 (fun e=>by
         injection e with e;have:=V.out.bo.lo r M k hk;have:=ah.out;omega))
        have B4:=ag.out.trans (V.out.hb.mono ag.out.size);exact bodyPost_ret (v:=aI #[I Y dH.wk,aF dH.up,I Y dH.now,I Y dH.sn,I Y dH.ep,I Y dH.gv,K a.a1 dH.L1.length a.c1,K a.a2 dH.L2.length a.c2,K a.ar dH.R.length a.cr,K a.aj dH.J.length a.cj,K a.az dH.S.length a.cs,K a.ao dH.O.length a.co,K C 0 0]) bD rfl ⟨⟨dH,a,K C 0 0,[],[],rfl,⟨bb.mono ag.out.size,qy.nil _ _,fun r M=>Dj.symm (.inl rfl),fun r M j hj=>absurd hj D⟩,.inl ⟨HV.out,by rw [dx.out,fi.out]⟩⟩,below_grown B4 af dU (fun q hq=>dR)⟩
end Go.Proofs.YtfkkipgcfoegmaaGreat
