
import Derived.Test.YtfkkipgcfoegmaaGreatQBri
import Derived.Test.YtfkkipgcfoegmaaGreatQWcp
set_option maxHeartbeats 8000000
set_option maxRecDepth 100000
namespace Go.Proofs.YtfkkipgcfoegmaaGreat
open Go.Proofs.Tryz
open Go.Value renaming slice→K,string→E,bool→aF,pointer→aG,agg→aI
open Option renaming none→C,some→U
open Go.Operand renaming tmp→F
open Go.Obj renaming cells→aH
open Bool renaming false→aK,true→aN
open Go.Value renaming int→I
open Go.IntKind renaming i64→Y
open Go.RowKit
theorem BD.adB {d:BD} {ts:List kJ} {c a:Int} {R:List ByteArray} (h:d.ok ts) (hu:d.up=aK) (g:rJ ts d.L1 c a R):c=0∧Go.Proofs.YtfkkipgcfoegmaaGreat.told d ts a R:=by
 have f:d.L2=[]:=by rw [BD.dn h hu]
 have e:rJ ts (d.L1 ++ d.L2) c a R:=by rw [f,pz];exact g
 exact ⟨(BD.abg h e).1,BD.abd h hu e⟩
theorem Y8 (v1:Value) (w:World):Sem.run prog (callFunc 52 #[v1]) w=.ok (.enter 52 #[v1]) w:=Z
theorem YH (k:Nat):c3 (List.replicate (k+1) (0,0,0))=c3 (List.replicate k (0,0,0)) ++ Iy:=by rw [WY,← acg]
theorem YI (k:Nat):c2 (List.replicate (k+1) (aK,0))=c2 (List.replicate k (aK,0)) ++ [aF aK,I Y 0]:=by rw [WY,← ach]
theorem OJ (d:BD) (h:BH) (pa:Option Addr) (pb po pn pc:Nat) (ts:List kJ) {w:World} (en:d.ok ts) (hM:rU w d h) (hT:lN w pa pb po pn ts) (hs:d.small) :
  Calls prog 33 #[aI (nN d h),aI #[K pa pn pc]] w fun e w'=>(∃ d',Pq e w.heap.size w' d'∧Xv d ts d')∧Below w.heap.size w w':=by
 obtain ⟨i0,fw,ga,gb,gd⟩:=info_parts Tryz.infoSt;obtain ⟨i3,fx,gg,gh,gi⟩:=info_parts Tryz.infoJb;obtain ⟨i4,fy,gj,gl,gm⟩:=info_parts Tryz.infoSe;have HV:=hid en;clear en;obtain ⟨W, hW⟩ := kC (((w.alloc (aH (nN d h) 30)).alloc (aH #[K pa pn pc] 33)).alloc (aH ni 30));have B0:Below w.heap.size w W:=jS;have z0:w.heap.size+3≤W.heap.size:=dF;have P0:CF W w.heap.size (nR d h):=by
  rw [hW];exact ((CF.made w (nN d h) 30).block (kU _ _ _ D)).block (kU _ _ _ aQ)
 have L0:CF W (w.heap.size+1) [K pa pn pc]:=by
  rw [hW];have:=(CF.made (w.alloc (aH (nN d h) 30)) #[K pa pn pc] 33).block (kU ((w.alloc (aH (nN d h) 30)).alloc (aH #[K pa pn pc] 33)) (aH ni 30) _ D);simpa using this
 have R0:CF W (w.heap.size+2) zB:=by
  rw [hW];have:=CF.made ((w.alloc (aH (nN d h) 30)).alloc (aH #[K pa pn pc] 33)) ni 30;simpa [zB] using this
 have S0:nU w pa pn pc (nR d h) W:=⟨P0,L0,R0,B0,z0⟩
 clear P0 L0 R0 B0 z0;have fz:=hs;unfold BD.small at fz;obtain ⟨⟨b1,o1,h1⟩,⟨b2,o2,h2⟩,⟨b3,o3,h3⟩,⟨b4,o4,h4⟩,⟨b5,o5,h5⟩,⟨b6,o6,h6⟩⟩:=hM;have HW:=hid hW;clear hW;go_enter func33,ntmps33
 go_upto_region 1 with fail
 rw [← HW.out];clear HW;have kp:W.cell? ⟨w.heap.size+1,0,C⟩=U (K pa pn pc):=(S0.L 0 D).1;have y6:W.cell? ⟨w.heap.size,6,C⟩=U (K h.a1 d.L1.length h.c1):=(S0.P 6 D).1;go_wp2_with fail
 refine (yS pa pb po pn pc ts h.a1 b1 o1 _ h.c1 d.L1 _ (hT.below' S0.B) (h1.below' S0.B) A).mono ?_;rintro e w4 ⟨⟨cc,o,R,v,rfl,er,dg⟩,eh⟩;obtain ⟨H,M,rfl⟩:=dg.slc;have S4:=S0.below eh;have ab:=dg.mono' S0.z;clear kp y6 eh S0 dg;obtain ⟨W4, bn⟩ := kC (w4.alloc (aH #[I Y cc,I Y o,K H R.length M] 41));have u:nU w pa pn pc (nR d h) W4:=by rw [bn];exact S4.alloc _
 have T5:CF W4 w4.heap.size [I Y cc,I Y o,K H R.length M]:=by rw [bn];exact CF.made w4 #[I Y cc,I Y o,K H R.length M] 41
 have t5:w.heap.size+3≤w4.heap.size∧w4.heap.size<W4.heap.size:=⟨S4.z,by rw [bn];simp⟩
 have dh:Own (w.heap.size+3) W4 1 (K H R.length M) R.length (R.map E):=by rw [bn];exact ab.alloc _
 have dq:=hid bn;have dp:=hid er;clear bn S4 ab er;go_upto_region 2 with fail
 rw [← dq.out];clear dq;have y1:W4.cell? ⟨w.heap.size,1,C⟩=U (aF d.up):=(u.P 1 D).1;cases bj:d.up with
 | true =>
  rw [bj] at y1;have br:=hid bj;clear bj;go_upto_region 3 with fail
  clear y1;obtain ⟨y0,y1,y2,y3,y4,y5,y6,y7,y8,y9,e4,e5⟩:=l9 u.P;go_wp2_with (first | (go_at_call 34;refine (Ad d.wk d.up d.now d.sn d.ep d.gv h.a1 h.a2 h.ar h.aj h.az h.ao b1 o1 h.c1 b2 o2 h.c2 b3 o3 h.cr b4 o4 h.cj b5 o5 h.cs b6 o6 h.co d.L1 d.L2 d.R d.J d.S d.O _ (h1.below' u.B) (h2.below' u.B) (h3.below' u.B) (h4.below' u.B) (h5.below' u.B) (h6.below' u.B) A A A A A A).mono ?_;rintro e w2 ⟨ag,aq,ah,au,ai,av,ak,aw,al,ax,an,ay,rfl,⟨q0,q1,q2,q3,q4,q5⟩,cb,ca⟩;have S6:=u.below ca) | (refine jY rfl 30 (F 4) (F 29) rfl (w.heap.size+2) zB [I Y d.wk,aF d.up,I Y d.now,I Y d.sn,I Y d.ep,I Y d.gv,K ag d.L1.length aq,K ah d.L2.length au,K ai d.R.length av,K ak d.J.length aw,K al d.S.length ax,K an d.O.length ay] rfl rfl S6.R rfl Tryz.sizeBo (nP) ?_;intro cx ba Q))
  have z5:=u.z;obtain ⟨k0,k1,k2,k3,k4,k5,k6,k7,k8,k9,bk,bl⟩:=l9 ba;exact bodyPost_ret (v:=aI #[I Y d.wk,aF d.up,I Y d.now,I Y d.sn,I Y d.ep,I Y d.gv,K ag d.L1.length aq,K ah d.L2.length au,K ai d.R.length av,K ak d.J.length aw,K al d.S.length ax,K an d.O.length ay]) dD rfl ⟨⟨d,⟨⟨ag,ah,ai,ak,al,an,aq,au,av,aw,ax,ay⟩,rfl,⟨(q0.grown Q (.inr gW)).mono' A,(q1.grown Q (.inr gV)).mono' A,(q2.grown Q (.inr gU)).mono' A,(q3.grown Q (.inr gQ)).mono' A,(q4.grown Q (.inr gK)).mono' A,(q5.grown Q (.inr gJ)).mono' A,cb⟩⟩,.inl ⟨br.out,rfl⟩⟩,below_grown S6.B Q jO (fun q p=>gI)⟩
 | false =>
  rw [bj] at y1;obtain ⟨rfl,ee⟩:=BD.adB HV.out bj dp.out;have HT:=hid ee;have br:=hid bj;obtain ⟨-,-,fi,gx,-,-,-,eo,ha,hd⟩:=ee;clear bj dp;have y6:W4.cell? ⟨w.heap.size,6,C⟩=U (K h.a1 d.L1.length h.c1):=(u.P 6 D).1;have e1:W4.cell? ⟨w4.heap.size,1,C⟩=U (I Y o):=(T5 1 D).1;by_cases c1:(310:Int)≤(d.L1.length:Int)
  ·have e6:=hid (show 310≤d.L1.length by omega)
   go_upto_region 3 with fail
   clear c1 y1 y6 e1;obtain ⟨y0,y1,y2,y3,y4,y5,y6,y7,y8,y9,e4,e5⟩:=l9 u.P;go_wp2_with (first | (go_at_call 34;refine (Ad d.wk d.up d.now d.sn d.ep d.gv h.a1 h.a2 h.ar h.aj h.az h.ao b1 o1 h.c1 b2 o2 h.c2 b3 o3 h.cr b4 o4 h.cj b5 o5 h.cs b6 o6 h.co d.L1 d.L2 d.R d.J d.S d.O _ (h1.below' u.B) (h2.below' u.B) (h3.below' u.B) (h4.below' u.B) (h5.below' u.B) (h6.below' u.B) A A A A A A).mono ?_;rintro e w2 ⟨ag,aq,ah,au,ai,av,ak,aw,al,ax,an,ay,rfl,⟨q0,q1,q2,q3,q4,q5⟩,cb,ca⟩;have S6:=u.below ca) | (refine jY rfl 30 (F 4) (F 29) rfl (w.heap.size+2) zB [I Y d.wk,aF d.up,I Y d.now,I Y d.sn,I Y d.ep,I Y d.gv,K ag d.L1.length aq,K ah d.L2.length au,K ai d.R.length av,K ak d.J.length aw,K al d.S.length ax,K an d.O.length ay] rfl rfl S6.R rfl Tryz.sizeBo (nP) ?_;intro cx ba Q))
   have z5:=u.z;obtain ⟨k0,k1,k2,k3,k4,k5,k6,k7,k8,k9,bk,bl⟩:=l9 ba;exact bodyPost_ret (v:=aI #[I Y d.wk,aF d.up,I Y d.now,I Y d.sn,I Y d.ep,I Y d.gv,K ag d.L1.length aq,K ah d.L2.length au,K ai d.R.length av,K ak d.J.length aw,K al d.S.length ax,K an d.O.length ay]) dD rfl ⟨⟨d,⟨⟨ag,ah,ai,ak,al,an,aq,au,av,aw,ax,ay⟩,rfl,⟨(q0.grown Q (.inr gW)).mono' A,(q1.grown Q (.inr gV)).mono' A,(q2.grown Q (.inr gU)).mono' A,(q3.grown Q (.inr gQ)).mono' A,(q4.grown Q (.inr gK)).mono' A,(q5.grown Q (.inr gJ)).mono' A,cb⟩⟩,.inr ⟨br.out,o,R,HT.out,.inl ⟨.inl e6.out,rfl⟩⟩⟩,below_grown S6.B Q jO (fun q p=>gI)⟩
  ·by_cases c2:(300:Int)≤o
   ·have e7:=hid c2
    go_upto_region 3 with fail
    clear c1 c2 y1 y6 e1;obtain ⟨y0,y1,y2,y3,y4,y5,y6,y7,y8,y9,e4,e5⟩:=l9 u.P;go_wp2_with (first | (go_at_call 34;refine (Ad d.wk d.up d.now d.sn d.ep d.gv h.a1 h.a2 h.ar h.aj h.az h.ao b1 o1 h.c1 b2 o2 h.c2 b3 o3 h.cr b4 o4 h.cj b5 o5 h.cs b6 o6 h.co d.L1 d.L2 d.R d.J d.S d.O _ (h1.below' u.B) (h2.below' u.B) (h3.below' u.B) (h4.below' u.B) (h5.below' u.B) (h6.below' u.B) A A A A A A).mono ?_;rintro e w2 ⟨ag,aq,ah,au,ai,av,ak,aw,al,ax,an,ay,rfl,⟨q0,q1,q2,q3,q4,q5⟩,cb,ca⟩;have S6:=u.below ca) | (refine jY rfl 30 (F 4) (F 29) rfl (w.heap.size+2) zB [I Y d.wk,aF d.up,I Y d.now,I Y d.sn,I Y d.ep,I Y d.gv,K ag d.L1.length aq,K ah d.L2.length au,K ai d.R.length av,K ak d.J.length aw,K al d.S.length ax,K an d.O.length ay] rfl rfl S6.R rfl Tryz.sizeBo (nP) ?_;intro cx ba Q))
    have z5:=u.z;obtain ⟨k0,k1,k2,k3,k4,k5,k6,k7,k8,k9,bk,bl⟩:=l9 ba;exact bodyPost_ret (v:=aI #[I Y d.wk,aF d.up,I Y d.now,I Y d.sn,I Y d.ep,I Y d.gv,K ag d.L1.length aq,K ah d.L2.length au,K ai d.R.length av,K ak d.J.length aw,K al d.S.length ax,K an d.O.length ay]) dD rfl ⟨⟨d,⟨⟨ag,ah,ai,ak,al,an,aq,au,av,aw,ax,ay⟩,rfl,⟨(q0.grown Q (.inr gW)).mono' A,(q1.grown Q (.inr gV)).mono' A,(q2.grown Q (.inr gU)).mono' A,(q3.grown Q (.inr gQ)).mono' A,(q4.grown Q (.inr gK)).mono' A,(q5.grown Q (.inr gJ)).mono' A,cb⟩⟩,.inr ⟨br.out,o,R,HT.out,.inl ⟨.inr e7.out,rfl⟩⟩⟩,below_grown S6.B Q jO (fun q p=>gI)⟩
   ·have e9:=hid (show d.L1.length<310 by omega)
    have HE:=hid (show o<300 by omega);have cl:=hid hT.len;have gz:pn≤40:=by rw [← cl.out];exact eo
    clear eo;obtain ⟨y0,-,y2⟩:=cf3 u.P;have e2:W4.cell? ⟨w4.heap.size,2,C⟩=U (K H R.length M):=(T5 2 D).1;obtain ⟨X,hX⟩:∃ X:Nat,X=W4.heap.size:=⟨_,rfl⟩
    obtain ⟨W6, bo⟩ := kC (W4.alloc (aH #[I Y d.wk,aF aN,I Y d.now,I Y 0,I Y (o+1),I Y 0,K C 0 0,K C 0 0,K H R.length M,K C 0 0,K C 0 0,K C 0 0] 30));have S6:nU w pa pn pc (nR d h) W6:=by rw [bo];exact u.alloc _
    have X6:CF W6 X [I Y d.wk,aF aN,I Y d.now,I Y 0,I Y (o+1),I Y 0,K C 0 0,K C 0 0,K H R.length M,K C 0 0,K C 0 0,K C 0 0]:=by rw [bo,hX];exact CF.made W4 #[I Y d.wk,aF aN,I Y d.now,I Y 0,I Y (o+1),I Y 0,K C 0 0,K C 0 0,K H R.length M,K C 0 0,K C 0 0,K C 0 0] 30
    have x6:X<W6.heap.size:=by rw [bo,hX];simp
    have zX:w.heap.size+3≤X:=by rw [hX];exact u.z
    have bc:Own (w.heap.size+3) W6 1 (K H R.length M) R.length (R.map E):=by rw [bo];exact dh.alloc _
    have a6:=hid (show ∀ q,(K H R.length M).ownBlock=U q→q<X from fun q p=>by rw [hX];exact dh.kD q p);have HX:=hid hX;have dr:=hid bo;clear bo hX;go_upto_region 5 with fail
    rw [← dr.out,← HX.out];clear dr HX y0 y1 y2 y6 e1 e2 u T5 t5 dh c1 c2;go_cut [4] (fun sv wx=>∃ (T:Option Addr) (V:Nat),sv=aG (U ⟨w.heap.size+2,0,C⟩)∧nU w pa pn pc (nR d h) wx∧CF wx X [I Y d.wk,aF aN,I Y d.now,I Y 0,I Y (o+1),I Y 0,K T (d.L1.length+1) V,K C 0 0,K H R.length M,K C 0 0,K C 0 0,K C 0 0]∧X<wx.heap.size∧Own (X+1) wx 1 (K T (d.L1.length+1) V) (d.L1.length+1) ((d.L1 ++ [(lS 1 (o+1) 0 ⟨#[]⟩)]).map E)∧Own (w.heap.size+3) wx 1 (K H R.length M) R.length (R.map E))
    case first =>
     refine wp_region_held (S:=fun w'=>CF w' w.heap.size (nR d h)∧w'.cell? ⟨X,4,C⟩=U (I Y (o+1))) Z ?_;change wpAnyH _ _ _ _ _ _ _ _ (World.drew _);obtain ⟨r0, bp⟩ := kC W6.drew;have dt:nU w pa pn pc (nR d h) r0:=by rw [bp];exact S6.drew
     have dx:CF r0 X [I Y d.wk,aF aN,I Y d.now,I Y 0,I Y (o+1),I Y 0,K C 0 0,K C 0 0,K H R.length M,K C 0 0,K C 0 0,K C 0 0]:=by rw [bp];exact X6
     have gq:X<r0.heap.size:=by rw [bp];exact x6
     have fo:Own (w.heap.size+3) r0 1 (K H R.length M) R.length (R.map E):=by rw [bp];exact bc.DT
     rw [← bp];clear bp S6 X6 x6 bc;have bm:=hid (show CF r0 w.heap.size (nR d h)∧r0.cell? ⟨X,4,C⟩=U (I Y (o+1)) from ⟨dt.P,(dx 4 D).1⟩);refine jZ (i:=1) (d:=U 41) (v:=aG (U ⟨w.heap.size,6,C⟩)) (l':=(bt 14 2)) rfl (fun _ hc=>Z) bm.out ?_;refine jZ (i:=2) (d:=U 42) (v:=aG (U ⟨w.heap.size,6,C⟩)) (l':=(bt 14 6)) rfl (fun _ hc=>Z) bm.out ?_;refine jZ (i:=3) (d:=U 43) (v:=K h.a1 d.L1.length h.c1) (l':=(bt 14 14)) rfl (fun _ hc=>pY (F 42) Z Z (hc.1 6 D).1) bm.out ?_;refine jZ (i:=5) (d:=U 45) (v:=aG (U ⟨X,4,C⟩)) (l':=(bt 14 46)) rfl (fun _ hc=>Z) bm.out ?_;refine jZ (i:=6) (d:=U 46) (v:=I Y (o+1)) (l':=(bt 14 110)) rfl (fun _ hc=>oL (F 45) Z Z hc.2) bm.out ?_;refine jZ (i:=7) (d:=U 47) (v:=aI #[I Y 1,I Y (o+1),I Y 0,E ⟨#[]⟩]) (l':=(bt 14 238)) rfl (fun _ hc=>V7 (F 46) (o+1) Z Z Z) bm.out ?_;obtain ⟨r1, bq⟩ := kC (r0.alloc (aH #[] 9));have c5:nU w pa pn pc (nR d h) r1:=by rw [bq];exact dt.alloc _
     have dy:CF r1 X [I Y d.wk,aF aN,I Y d.now,I Y 0,I Y (o+1),I Y 0,K C 0 0,K C 0 0,K H R.length M,K C 0 0,K C 0 0,K C 0 0]:=by rw [bq];exact dx.block (kU _ _ _ gq)
     have ez:X<r1.heap.size:=by rw [bq];simp;omega
     have fp:Own (w.heap.size+3) r1 1 (K H R.length M) R.length (R.map E):=by rw [bq];exact fo.alloc _
     have et:Own (X+1) r1 1 (K (U ⟨r0.heap.size,0,C⟩) 0 0) 0 []:=by rw [bq];exact JW r0 _ A
     have fa:=hid (show CF r1 w.heap.size (nR d h)∧r1.cell? ⟨X,4,C⟩=U (I Y (o+1)) from ⟨c5.P,(dy 4 D).1⟩);refine kF Z (kM (i:=0) (d:=U 40) (v:=K (U ⟨r0.heap.size,0,C⟩) 0 0) (w':=r1) (l':=(bt 14 239)) rfl Z Z Z (by rw [bq];exact Dp Z) fa.out ?_);obtain ⟨a9,c9,r2,ef,gn,hg,fu⟩:=app0 w r1 (X+1) c5.B A h.c1 h1 A et;have a8:=et.ku;have du:=c5.grown hg (fun q p=>by have:=a8 q p;omega);have dz:=dy.block (hg.block X ez (fun e=>by have:=a8 _ e.symm;omega));have e0:X<r2.heap.size:=lu ez hg.size;have fq:=fp.grown hg (Dj.later a6.out (fun q p=>by have:=a8 q p;omega));have fb:=hid (show CF r2 w.heap.size (nR d h)∧r2.cell? ⟨X,4,C⟩=U (I Y (o+1)) from ⟨du.P,(dz 4 D).1⟩);refine kF Z (kM (i:=4) (d:=U 44) (v:=K a9 d.L1.length c9) (w':=r2) (l':=(bt 14 255)) rfl Z Z Z (ql (F 40) (F 43) 23 23 Z Z Z Z ef) fb.out ?_);clear ef hg fu a8;refine kF Z (kZ (i:=8) (d:=U 48) (f:=52) (args:=#[aI #[I Y 1,I Y (o+1),I Y 0,E ⟨#[]⟩]]) (l':=(bt 14 511)) (R:=fun v w'=>v=E (lS 1 (o+1) 0 ⟨#[]⟩)∧Below r2.heap.size r2 w') rfl Z Z Z (lW _ _ rfl Z rfl Y8) ((Ai 1 (o+1) 0 ⟨#[]⟩ _).mono fun _ _ ⟨⟨r,he,hi⟩,hb⟩=>⟨_,he,by rw [hi.new fi HE.out],hb⟩) ?_);rintro _ r3 ⟨rfl,hb⟩;have dv:=du.below hb;have ea:=dz.block (hb.block X e0);have gr:X<r3.heap.size:=lu e0 hb.size;have fs:=fq.below hb kL;have eu:=gn.below hb kL;have fc:=hid (show CF r3 w.heap.size (nR d h)∧r3.cell? ⟨X,4,C⟩=U (I Y (o+1)) from ⟨dv.P,(ea 4 D).1⟩);clear hb;refine ⟨fc.out,?_⟩;obtain ⟨r4, bg⟩ := kC (r3.alloc (aH #[E (lS 1 (o+1) 0 ⟨#[]⟩)] 9));have dw:nU w pa pn pc (nR d h) r4:=by rw [bg];exact dv.alloc _
     have eb:CF r4 X [I Y d.wk,aF aN,I Y d.now,I Y 0,I Y (o+1),I Y 0,K C 0 0,K C 0 0,K H R.length M,K C 0 0,K C 0 0,K C 0 0]:=by rw [bg];exact ea.block (kU _ _ _ gr)
     have e3:X<r4.heap.size:=by rw [bg];simp;omega
     have ft:Own (w.heap.size+3) r4 1 (K H R.length M) R.length (R.map E):=by rw [bg];exact fs.alloc _
     obtain ⟨EB,c7⟩:∃ EB:Value,EB=K (U ⟨r3.heap.size,0,C⟩) 1 1:=⟨_,rfl⟩
     have fh:EB.ownBlock=U r3.heap.size:=by rw [c7];rfl
     have gp:Own (X+1) r4 1 EB 1 [E (lS 1 (o+1) 0 ⟨#[]⟩)]:=by
      rw [bg,c7];exact .inr ⟨_,0,1,rfl,kW.made r3 (X+1) 9 1 1 1 _ 1 A kL G rfl kL _ rfl _ (.inl rfl)⟩
     have dk:=eu.alloc (aH #[E (lS 1 (o+1) 0 ⟨#[]⟩)] 9);rw [← bg] at dk;have gu:=Dj.new eu.kD (.inr fh);have fe:=hid (show CF r4 w.heap.size (nR d h)∧r4.cell? ⟨X,4,C⟩=U (I Y (o+1)) from ⟨dw.P,(eb 4 D).1⟩);refine kF Z (kM (i:=9) (d:=U 49) (v:=EB) (w':=r4) (l':=(bt 14 1023)) rfl Z Z Z (by rw [bg,c7];exact Md (F 48) Z Z) fe.out ?_);obtain ⟨v3,q1,eg,cu,cd,fv⟩:=l7 (P:=prog) r4 (X+1) 23 23 23 9 i0 (E ⟨#[]⟩) 1 16 underlying23 fw ga gb gd rfl _ d.L1.length _ dk _ 1 _ (gp.src underlying23 dY) G A A;obtain ⟨T,V,rfl⟩:=cu.slc;have a8:=dk.ku;have cz:=dw.grown cd (fun q p=>by have:=a8 q p;omega);have bs:=eb.block (cd.block X e3 (fun e=>by have:=a8 _ e.symm;omega));have ew:X<q1.heap.size:=lu e3 cd.size;have ec:=ft.grown cd (Dj.later a6.out (fun q p=>by have:=a8 q p;omega));have cm:=hid (show CF q1 w.heap.size (nR d h)∧q1.cell? ⟨X,4,C⟩=U (I Y (o+1)) from ⟨cz.P,(bs 4 D).1⟩);have y6:q1.cell? ⟨X,6,C⟩=U (K C 0 0):=(bs 6 D).1;have f6:q1.frozen? ⟨X,6,C⟩=aK:=(bs 6 D).2;obtain ⟨q2, cw⟩ := kC (q1.setCell ⟨X,6,C⟩ (K T (d.L1.length+1) V));have bz:q1.grownBy q2 (U X):=by rw [cw];exact lU (lJ q1 (U X)) 6 _
     have c4:=cz.grown bz (fun q p=>fM);have c6:CF q2 X [I Y d.wk,aF aN,I Y d.now,I Y 0,I Y (o+1),I Y 0,K T (d.L1.length+1) V,K C 0 0,K H R.length M,K C 0 0,K C 0 0,K C 0 0]:=by rw [cw];exact bs.set (j:=6) D (K T (d.L1.length+1) V)
     have ey:X<q2.heap.size:=lu ew bz.size;have ed:=ec.grown bz (Dj.later a6.out (fun q p=>fM));have aa:Own (X+1) q2 1 (K T (d.L1.length+1) V) (d.L1.length+1) ((d.L1 ++ [(lS 1 (o+1) 0 ⟨#[]⟩)]).map E):=by rw [rD];exact cu.grown bz (.inr (by intro g;have:=cu.ku _ g;omega))
     have ds:=hid (show CF q2 w.heap.size (nR d h)∧q2.cell? ⟨X,4,C⟩=U (I Y (o+1)) from ⟨c4.P,(c6 4 D).1⟩);have HR:=hid (show (∃ (T:Option Addr) (V:Nat),(aG (U ⟨w.heap.size+2,0,C⟩):Value)=aG (U ⟨w.heap.size+2,0,C⟩)∧nU w pa pn pc (nR d h) q2∧CF q2 X [I Y d.wk,aF aN,I Y d.now,I Y 0,I Y (o+1),I Y 0,K T (d.L1.length+1) V,K C 0 0,K H R.length M,K C 0 0,K C 0 0,K C 0 0]∧X<q2.heap.size∧Own (X+1) q2 1 (K T (d.L1.length+1) V) (d.L1.length+1) ((d.L1 ++ [(lS 1 (o+1) 0 ⟨#[]⟩)]).map E)∧Own (w.heap.size+3) q2 1 (K H R.length M) R.length (R.map E)) from ⟨T,V,rfl,c4,c6,ey,aa,ed⟩);refine kF Z (kM (i:=10) (d:=U 50) (v:=K T (d.L1.length+1) V) (w':=q1) (l':=(bt 14 2047)) rfl Z Z Z (ql (F 44) (F 49) 23 23 Z Z Z Z eg) cm.out ?_);refine jZ (i:=11) (d:=U 51) (v:=aG (U ⟨X,6,C⟩)) (l':=(bt 14 4095)) rfl (fun _ hc=>Z) cm.out ?_;refine jZ (i:=12) (d:=U 52) (v:=aG (U ⟨X,6,C⟩)) (l':=(bt 14 8191)) rfl (fun _ hc=>Z) cm.out ?_;refine kF Z (lI (i:=13) (w':=q2) (l':=(bt 14 16383)) rfl Z Z Z (by rw [cw];exact PN (F 52) (F 50) Z Z Z y6 f6) ds.out ?_);refine wpAnyH_done Z ?_ _;clear eg cu cd fv a8 cz bs ew ec y6 f6 bz c4 c6 ey ed aa cm ds cw;go_wp2_with fail
     go_meet
     case rel =>
      obtain ⟨T,V,-,g⟩:=HR.out;exact ⟨T,V,rfl,g⟩
    case rest =>
     obtain ⟨T,V,rfl,S4,X4,x4,aa,ab⟩:=hcut;obtain ⟨y4, rfl⟩ := kC wc;clear S6 X6 x6 bc;go_wp2;go_loopw [7] (fun i wr=>∃ k:Nat,k≤pn∧i=I Y k∧∃ (aJ:Option Addr) (cJ:Nat),nU w pa pn pc (nR d h) wr∧CF wr X [I Y d.wk,aF aN,I Y d.now,I Y 0,I Y (o+1),I Y 0,K T (d.L1.length+1) V,K C 0 0,K H R.length M,K aJ k cJ,K C 0 0,K C 0 0]∧X<wr.heap.size∧Own (X+1) wr 1 (K T (d.L1.length+1) V) (d.L1.length+1) ((d.L1 ++ [(lS 1 (o+1) 0 ⟨#[]⟩)]).map E)∧Own (w.heap.size+3) wr 1 (K H R.length M) R.length (R.map E)∧Own (X+1) wr 3 (K aJ k cJ) k (c3 (List.replicate k (0,0,0)))∧Dj (K T (d.L1.length+1) V).ownBlock (K aJ k cJ).ownBlock) (fun i _=>pn - (intOf i).toNat)
     case atStart=>exact ⟨0,lG _,rfl,C,0,S4,X4,x4,aa,ab,Own.nil _ _ _,Dj.symm (Dj.EC _)⟩
     case round =>
      clear S4 X4 x4 aa ab;obtain ⟨k,hk,rfl,aJ,cJ,S4,X4,x4,aa,ab,a7,cq⟩:=hrel;have kp:wr.cell? ⟨w.heap.size+1,0,C⟩=U (K pa pn pc):=(S4.L 0 D).1;by_cases dc:k<pn
      ·have de:(k:Int)<(pn:Int):=by omega
       obtain ⟨af, hU⟩ := kC (wr.alloc (aH rV 61));have ck:Own (X+1) af 3 (K (U ⟨wr.heap.size,0,C⟩) 1 1) 1 Iy:=by
        rw [hU];exact .inr ⟨_,0,1,rfl,kW.made wr (X+1) 61 3 1 1 _ 3 A kL G rfl kL _ rfl _ (.inl rfl)⟩
       have dm:Src prog 3 26 _ 1 _ af:=ck.src underlying26 dY;have SU:nU w pa pn pc (nR d h) af:=by rw [hU];exact S4.alloc _
       have XU:CF af X [I Y d.wk,aF aN,I Y d.now,I Y 0,I Y (o+1),I Y 0,K T (d.L1.length+1) V,K C 0 0,K H R.length M,K aJ k cJ,K C 0 0,K C 0 0]:=by rw [hU];exact X4.block (kU _ _ _ x4)
       have xU:X<af.heap.size:=by rw [hU];simp;omega
       have bd:=aa.alloc (aH rV 61);have cg:=ab.alloc (aH rV 61);have bb:=a7.alloc (aH rV 61);rw [← hU] at bd cg bb;have c9:wr.cell? ⟨X,9,C⟩=U (K aJ k cJ):=(X4 9 D).1;have bh:=bb.ku;clear S4 X4 x4 aa ab a7 ck;go_wp2_with (at_builtin;rw [← hU];refine kT _ rfl _ _ 26 26 rfl (X+1) 61 i3 (aI rV) 3 24 underlying26 fx gg gh gi rfl _ k _ rfl bb _ 1 _ rfl dm G A A ?_;intro v' w6 bf ae ct;have X6:=XU.block (ae.block X xU (fun e=>absurd (bh _ e.symm) A));have q9:=(X6 9 D).1;have f9:=(X6 9 D).2;obtain ⟨cn,cp,rfl⟩:=bf.slc)
       have S6:=SU.grown ae (fun q p=>by have:=bh q p;omega);have x6:X<w6.heap.size:=lu xU ae.size;have cf:=bd.grown ae cq;have bc:=cg.grown ae (Dj.later a6.out (fun q p=>by have:=bh q p;omega));have fk:Dj (K T (d.L1.length+1) V).ownBlock (K cn (k+1) cp).ownBlock:=by
        rcases ct with h5 | h5
        ·rw [h5];exact cq
        ·exact Dj.new bd.kD (.inr h5)
       have gs:=lU (lJ w6 (U X)) 9 (K cn (k+1) cp);have S7:=S6.grown gs (fun q p=>fM);have x7:X<(w6.setCell ⟨X,9,C⟩ (K cn (k+1) cp)).heap.size:=lu x6 gs.size;have df:=cf.grown gs (.inr (by intro g;have:=cf.ku _ g;omega));have di:=bc.grown gs (Dj.later a6.out (fun q p=>fM));have cv:=bf.grown gs (.inr (by intro g;have:=bf.ku _ g;omega));rw [← YH] at cv;go_roundw
       case rel=>exact ⟨k+1,A,aW,cn,cp,S7,X6.set (j:=9) D _,x7,df,di,cv,fk⟩
       case measure=>simp [intOf];omega
      ·obtain rfl:k=pn:=by omega
       have y0:wr.cell? ⟨w.heap.size,0,C⟩=U (I Y d.wk):=(S4.P 0 D).1;obtain ⟨nw,ei⟩:∃ nw:Nat,nw=d.wk.toNat:=⟨_,rfl⟩
       have dn:=hid (show d.wk=(nw:Int) by omega);have gy:nw≤8:=A;have cy:=hid ei;clear ei dc hk;have e8:=hid cq;clear cq;go_wp2;go_loopw [8] (fun i wr=>∃ j:Nat,j≤nw∧i=I Y j∧∃ (aS:Option Addr) (cS:Nat),nU w pa k pc (nR d h) wr∧CF wr X [I Y d.wk,aF aN,I Y d.now,I Y 0,I Y (o+1),I Y 0,K T (d.L1.length+1) V,K C 0 0,K H R.length M,K aJ k cJ,K aS j cS,K C 0 0]∧X<wr.heap.size∧Own (X+1) wr 1 (K T (d.L1.length+1) V) (d.L1.length+1) ((d.L1 ++ [(lS 1 (o+1) 0 ⟨#[]⟩)]).map E)∧Own (w.heap.size+3) wr 1 (K H R.length M) R.length (R.map E)∧Own (X+1) wr 3 (K aJ k cJ) k (c3 (List.replicate k (0,0,0)))∧Own (X+1) wr 2 (K aS j cS) j (c2 (List.replicate j (aK,0)))∧Dj (K T (d.L1.length+1) V).ownBlock (K aS j cS).ownBlock∧Dj (K aJ k cJ).ownBlock (K aS j cS).ownBlock) (fun i _=>nw - (intOf i).toNat)
       case atStart=>exact ⟨0,lG _,rfl,C,0,S4,X4,x4,aa,ab,a7,Own.nil _ _ _,Dj.symm (Dj.EC _),Dj.symm (Dj.EC _)⟩
       case round =>
        clear S4 X4 x4 aa ab a7 y0 kp;obtain ⟨j,hj,rfl,aS,cS,S4,X4,x4,aa,ab,a7,ch,da,c8⟩:=hrel;have y0:wr.cell? ⟨w.heap.size,0,C⟩=U (I Y d.wk):=(S4.P 0 D).1;by_cases dc:j<nw
        ·have de:(j:Int)<d.wk:=by rw [dn.out];omega
         obtain ⟨af, hU⟩ := kC (wr.alloc (aH #[aF aK,I Y 0] 54));have ck:Own (X+1) af 2 (K (U ⟨wr.heap.size,0,C⟩) 1 1) 1 [aF aK,I Y 0]:=by
          rw [hU];exact .inr ⟨_,0,1,rfl,kW.made wr (X+1) 54 2 1 1 _ 2 A kL G rfl kL _ rfl _ (.inl rfl)⟩
         have dm:Src prog 2 27 _ 1 _ af:=ck.src underlying27 (by intro v hv;simp only [mG,mF,or_false] at hv;rcases hv with rfl | rfl <;> rfl);have SU:nU w pa k pc (nR d h) af:=by rw [hU];exact S4.alloc _
         have XU:CF af X [I Y d.wk,aF aN,I Y d.now,I Y 0,I Y (o+1),I Y 0,K T (d.L1.length+1) V,K C 0 0,K H R.length M,K aJ k cJ,K aS j cS,K C 0 0]:=by rw [hU];exact X4.block (kU _ _ _ x4)
         have xU:X<af.heap.size:=by rw [hU];simp;omega
         have bd:=aa.alloc (aH #[aF aK,I Y 0] 54);have cg:=ab.alloc (aH #[aF aK,I Y 0] 54);have bb:=a7.alloc (aH #[aF aK,I Y 0] 54);have dj:=ch.alloc (aH #[aF aK,I Y 0] 54);rw [← hU] at bd cg bb dj;have gw:wr.cell? ⟨X,10,C⟩=U (K aS j cS):=(X4 10 D).1;have bh:=dj.ku;clear S4 X4 x4 aa ab a7 ch ck;go_wp2_with (at_builtin;rw [← hU];refine kT _ rfl _ _ 27 27 rfl (X+1) 54 i4 (aI #[aF aK,I Y 0]) 2 16 underlying27 fy gj gl gm rfl _ j _ rfl dj _ 1 _ rfl dm G A A ?_;intro v' w6 bf ae ct;have X6:=XU.block (ae.block X xU (fun e=>absurd (bh _ e.symm) A));have hf:=(X6 10 D).1;have f10:=(X6 10 D).2;obtain ⟨bu,bw,rfl⟩:=bf.slc)
         have S6:=SU.grown ae (fun q p=>by have:=bh q p;omega);have x6:X<w6.heap.size:=lu xU ae.size;have cf:=bd.grown ae da;have ej:=bb.grown ae c8;have bc:=cg.grown ae (Dj.later a6.out (fun q p=>by have:=bh q p;omega));have fl:Dj (K T (d.L1.length+1) V).ownBlock (K bu (j+1) bw).ownBlock:=by
          rcases ct with h5 | h5
          ·rw [h5];exact da
          ·exact Dj.new bd.kD (.inr h5)
         have fj:Dj (K aJ k cJ).ownBlock (K bu (j+1) bw).ownBlock:=by
          rcases ct with h5 | h5
          ·rw [h5];exact c8
          ·exact Dj.new bb.kD (.inr h5)
         have gs:=lU (lJ w6 (U X)) 10 (K bu (j+1) bw);have S7:=S6.grown gs (fun q p=>fM);have x7:X<(w6.setCell ⟨X,10,C⟩ (K bu (j+1) bw)).heap.size:=lu x6 gs.size;have df:=cf.grown gs (.inr (by intro g;have:=cf.ku _ g;omega));have di:=bc.grown gs (Dj.later a6.out (fun q p=>fM));have cv:=ej.grown gs (.inr (by intro g;have:=ej.ku _ g;omega));have ek:=bf.grown gs (.inr (by intro g;have:=bf.ku _ g;omega));rw [← YI] at ek;go_roundw
         case rel=>exact ⟨j+1,A,aW,bu,bw,S7,X6.set (j:=10) D _,x7,df,di,cv,ek,fl,fj⟩
         case measure=>simp [intOf];omega
        ·obtain rfl:j=nw:=by omega
         have de:¬ ((j:Int)<d.wk):=by rw [dn.out];omega
         obtain ⟨b0,b1,b2,b3,b4,b5,b6,b7,b8,b9,ff,fg⟩:=l9 X4;go_wp2_with (refine jY rfl 30 (F 4) (F 78) rfl (w.heap.size+2) zB [I Y d.wk,aF aN,I Y d.now,I Y 0,I Y (o+1),I Y 0,K T (d.L1.length+1) V,K C 0 0,K H R.length M,K aJ k cJ,K aS j cS,K C 0 0] rfl rfl S4.R rfl Tryz.sizeBo (nP) ?_;intro cx ba Q)
         clear b0 b1 b2 b3 b4 b5 b6 b7 b8 b9 ff fg de dc hj;have z0:=(aa.grown Q (.inr (by intro g;have:=aa.ku _ g;omega))).mono' (show w.heap.size≤X+1 by omega);have z1:=(ab.grown Q (.inr (by intro g;have:=ab.ku _ g;omega))).mono' (show w.heap.size≤w.heap.size+3 by omega);have z2:=(a7.grown Q (.inr (by intro g;have:=a7.ku _ g;omega))).mono' (show w.heap.size≤X+1 by omega);have z3:=(ch.grown Q (.inr (by intro g;have:=ch.ku _ g;omega))).mono' (show w.heap.size≤X+1 by omega);have db:∀ {n:Nat} {a:Option Addr} {c sz m:Nat} {l:List Value},Own (X+1) wr sz (K a n c) m l→∀ q,(K a n c).ownBlock=U q→X≤q:=fun g q p=>by have:=g.ku q p;omega
         have RL:=Dj.later a6.out (db aa);have RJ:=Dj.later a6.out (db a7);have RS:=Dj.later a6.out (db ch);have HO:Hid (lg cx w.heap.size (oI d o R ts.length) ⟨T,C,H,aJ,aS,C,V,0,M,cJ,cS,0⟩):=by
          refine ⟨?_,Own.nil _ _ _,?_,?_,?_,Own.nil _ _ _,?_⟩
          ·simp only [oI,lD,pX,qJ];exact z0
          ·exact z1
          ·simp only [oI,Dh];rw [cl.out];exact z2
          ·simp only [oI,Dh];rw [← cy.out];exact z3
          ·simp only [oI,lD,pX,qJ,Dh,rW,mG,mF,or_false,forall_eq_or_imp,forall_eq,List.Pairwise.nil,and_true,false_implies,implies_true]
           rw [cl.out,← cy.out];have N:∀ x:Option Nat,Dj x (K C 0 0).ownBlock:=fun x=>Dj.symm (Dj.EC _);exact ⟨⟨N _,RL.symm,e8.out,da,N _⟩,⟨Dj.EC _,Dj.EC _,Dj.EC _,N _⟩,⟨RJ,RS,N _⟩,⟨c8,N _⟩,N _⟩
         obtain ⟨k0,k1,k2,k3,k4,k5,k6,k7,k8,k9,bk,bl⟩:=l9 ba;refine bodyPost_ret (v:=aI #[I Y d.wk,aF aN,I Y d.now,I Y 0,I Y (o+1),I Y 0,K T (d.L1.length+1) V,K C 0 0,K H R.length M,K aJ k cJ,K aS j cS,K C 0 0]) dD rfl ⟨⟨oI d o R ts.length,⟨_,?_,HO.out⟩,.inr ⟨br.out,o,R,HT.out,.inr ⟨⟨e9.out,HE.out⟩,rfl⟩⟩⟩,below_grown S4.B Q (by have:=S4.z;omega) (fun q p=>gI)⟩;simp only [bvs,oI,lD,pX,qJ,Dh,cl.out,← cy.out]
theorem Gu (d:BD) (h:BH) (a:Option Addr) (pb po c f:Nat) (ts:List kJ) (w:World) (hM:rU w d h) (hT:lN w a pb po c ts) (hs:d.small) :
  Calls prog 10 #[aI (nN d h),aI #[K a c f]] w fun e w'=>(∃ g,Pq e w.heap.size w' g∧CP d ts g)∧Below w.heap.size w w':=by
 obtain ⟨i0,an,aq,au,av⟩:=info_parts Tryz.infoSt;obtain ⟨W, i⟩ := kC (((w.alloc (aH (nN d h) 30)).alloc (aH #[K a c f] 33)).alloc (aH ni 30));have l:Below w.heap.size w W:=by rw [i];exact (kQ.alloc D _).alloc aQ _
 have z0:w.heap.size+3≤W.heap.size:=by rw [i];simp
 have z:CF W w.heap.size (nR d h):=by
  rw [i];exact ((CF.made w (nN d h) 30).block (kU _ _ _ D)).block (kU _ _ _ aQ)
 have u:CF W (w.heap.size+1) [K a c f]:=by
  rw [i];have:=(CF.made (w.alloc (aH (nN d h) 30)) #[K a c f] 33).block (kU ((w.alloc (aH (nN d h) 30)).alloc (aH #[K a c f] 33)) (aH ni 30) _ D);simpa using this
 have R0:CF W (w.heap.size+2) zB:=by
  rw [i];have:=CF.made ((w.alloc (aH (nN d h) 30)).alloc (aH #[K a c f] 33)) ni 30;simpa [zB] using this
 have ag:EP w d (nR d h):=⟨h,rfl,hM⟩
 have hV:=hid (ag.below' l);have ah:=hid hs;clear ag hs;have HW:=hid i;clear i;go_enter func10,ntmps10
 go_upto_region 1 with fail
 rw [← HW.out];clear HW;obtain ⟨y0,y1,y2,y3,y4,y5,y6,y7,y8,y9,aa,ab⟩:=l9 z;have kp:W.cell? ⟨w.heap.size+1,0,C⟩=U (K a c f):=(u 0 D).1;go_wp2_with fail
 refine (Gt d a pb po c f ts hV.out (hT.below' l) ah.out).mono ?_;rintro e w1 ⟨⟨r,rfl,t⟩,j⟩;clear y0 y1 y2 y3 y4 y5 y6 y7 y8 y9 aa ab kp;have L1:=u.block (j.block (w.heap.size+1) A);have P1:=z.block (j.block w.heap.size A);have H:=R0.block (j.block (w.heap.size+2) A);have o:=l.trans (j.mono l.size);have z1:w.heap.size+3≤w1.heap.size:=by have:=j.size;omega
 have HR:=hid t;clear t j z R0 l z0 u;cases r with
 | false =>
  have HN:Hid (¬ d.ok ts):=fun hh=>by have:=HR.out.2 hh;cases this
  go_upto_region 2 with fail
  go_wp2_with (refine jY rfl 30 (F 4) (F 9) rfl (w.heap.size+2) zB FB rfl rfl H rfl Tryz.sizeBo (nP) ?_;intro al L s)
  obtain ⟨k0,k1,P,Q,R,S,T,V,X,k9,M,N⟩:=l9 L;exact bodyPost_ret (v:=aI ni) (by simp [results,results10,go_sem,k0,k1,P,Q,R,S,T,V,X,k9,M,N]) rfl ⟨⟨rM,⟨_,rfl,TJ _ _⟩,.inr ⟨HN.out,rfl⟩⟩,below_grown o s A (fun q k=>by simp at k;omega)⟩
 | true =>
  have HV:Hid (d.ok ts):=HR.out.1 rfl;have ae:=hM.below' o;have af:=hT.below' o;obtain ⟨y0,y1,y2,y3,y4,y5,y6,y7,y8,y9,aa,ab⟩:=l9 P1;have kp:w1.cell? ⟨w.heap.size+1,0,C⟩=U (K a c f):=(L1 0 D).1;go_wp2_with fail
  refine (OJ d h a pb po c f ts HV.out ae af ah.out).mono ?_;rintro e w2 ⟨⟨g,⟨p,he,hO⟩,hK⟩,J⟩;have ai:e=.returned (aI (nN g p)):=he;clear he;subst ai;have HO:=hid hO;have HK:=hid hK;have R2:=H.block (J.block (w.heap.size+2) A);have B2:=o.trans (J.mono o.size);clear y0 y1 y2 y3 y4 y5 y6 y7 y8 y9 aa ab kp hO hK ae af P1 L1 H;go_wp2_with (refine jY rfl 30 (F 4) (F 12) rfl (w.heap.size+2) zB (nR g p) rfl rfl R2 rfl Tryz.sizeBo (nP) ?_;intro al L s)
  obtain ⟨k0,k1,P,Q,R,S,T,V,X,k9,M,N⟩:=l9 L;have z2:=J.size;exact bodyPost_ret (v:=aI (nN g p)) (by simp [results,results10,go_sem,k0,k1,P,Q,R,S,T,V,X,k9,M,N]) rfl ⟨⟨g,⟨p,rfl,(HO.out.grew (Grew.of s) (fun r t q k r' ak e=>by
   obtain rfl:=List.mem_singleton.1 t;injection k with k;have h5:=(HO.out.lo r' ak q e).1;omega)).mono A⟩,.inl ⟨HV.out,HK.out⟩⟩,below_grown B2 s A (fun q k=>by simp at k;omega)⟩
structure pU where
 nu:Int
 ep:Int
 up:Bool
 st:Int
 le:Int
 ta:Int
 co:Int
 lf:Int
 ss:List ByteArray
 x:ByteArray
 si:Int
variable {B c n:Nat} {a:Option Addr} {o op:Oper} {ops:Array Oper} {rest:List Oper} {ts:List kJ} {v:Value} {vs:List Value} {w wr wx:World} {wk:Int} {ρ:Operand→Value}
def aef:pU:=⟨0,0,aK,0,0,0,0,0,[],ByteArray.empty,0⟩
def nD (M:List pU) (j:Nat):pU:=M.getD j aef
theorem Tryz.infoWr:(prog.info? 127).map (fun i=>(i.zero,i.size,i.bytes))=U (U (aI Ob),11,112):=Z
theorem flatK (f:Nat→List Value) (m:Nat) (a:∀ j,(f j).length=m) (n:Nat):((List.range n).flatMap f).length=n*m:=by
 induction n with
 | zero=>simp
 | succ n ih=>rw [DK,FH,lD,ih,Nat.succ_mul];simp [a]
theorem Y3 {f:Nat→List Value} (m:Nat) (a:∀ j,(f j).length=m) (j r:Nat) (d:j<n) (e:r<m):((List.range n).flatMap f)[j*m+r]?=(f j)[r]?:=by
 induction n with
 | zero=>omega
 | succ n ih =>
  rw [DK,FH];have c:=flatK f m a n;by_cases h:j<n
  ·have:j*m+r<n*m:=by
    have:=Jv m (show j+1≤n by omega);rw [Nat.succ_mul] at this;omega
   rw [nO A];exact ih h
  ·obtain rfl:j=n:=by omega
   rw [qP A,c,show j*m+r - j*m=r by omega];simp
def Sz (i:Nat):List Value:=[I Y ((i:Int)+1),I Y 1,aF aN,I Y 0,I Y 0,I Y 0,I Y 0,I Y 0,K C 0 0,E ⟨#[]⟩,I Y 3]
def JV (n:Nat):List Value:=(List.range n).flatMap Sz
def xR (n:Nat):List pU:=(List.range n).map fun (i:Nat)=>⟨(i:Int)+1,1,aN,0,0,0,0,0,[],⟨#[]⟩,3⟩
theorem Ya (n:Nat):JV (n+1)=JV n ++ Sz n:=by unfold JV;rw [DK,FH];simp
theorem Lj {j:Nat} (a:j<n):nD (xR n) j=⟨(j:Int)+1,1,aN,0,0,0,0,0,[],⟨#[]⟩,3⟩:=by simp [nD,xR,List.getD,a]
def DY (wk:Int):BD:=⟨wk,aK,0,0,0,0,[],[],[],[],[],[]⟩
def KT:BH:=⟨C,C,C,C,C,C,0,0,0,0,0,0⟩
theorem ab6 (d:Code ts 0) (a:1≤wk) (c:wk≤8):(DY wk).ok ts :=
 ⟨⟨d,dJ⟩,⟨a,c⟩,⟨dJ,dJ⟩,0,(st0 ts.length).2,rfl,.inl ⟨rfl,by simp [qE,DY]⟩⟩
def Dt (wk:Int) (n:Nat):BD:=oI (DY wk) 0 (List.replicate n ⟨#[]⟩) n
theorem aac {d':BD} (h:Xv (DY wk) ts d'):d'=Dt wk ts.length:=by
 rcases h with ⟨h,_⟩ | ⟨_,a,R,d,h⟩
 ·cases h
 ·have e:=d.1
  have c:(U (0,List.replicate ts.length (⟨#[]⟩:ByteArray)):Option St)=U (a,R):=e;cases c
  rcases h with ⟨h,_⟩ | ⟨_,h⟩
  ·rcases h with h | h
   ·simp [DY] at h
   ·omega
  ·exact h
theorem XC (wk:Int):(DY wk).small:=by simp [BD.small,DY]
theorem acY (wk:Int):rU w (DY wk) KT:=by
 have d:lg w 0 (DY wk) KT:=by
  refine ⟨Own.nil _ _ _,Own.nil _ _ _,Own.nil _ _ _,Own.nil _ _ _,Own.nil _ _ _,Own.nil _ _ _,?_⟩;simp [KT,DY,Value.ownBlock,Dj.EC]
 exact d.m ⟨fun s c=>absurd c dJ,fun s c=>absurd c dJ,fun s c=>absurd c dJ,fun j a=>absurd a dJ,fun j a=>absurd a dJ,fun j a=>absurd a dJ⟩
structure WoO (w:World) (B:Nat) (ts:List kJ) (vP:Value) (vs:List Value) (bd:BD) (bh:BH) (n:Nat) (vW:Value):Prop where
 pl:lF w B vP ts vs
 bo:lg w B bd bh
 cr:Own B w 11 vW n (JV n)
 d1:∀ r∈kK bd bh,Dn vP.ownBlock r∧∀ j,j<ts.length→Dn (vs.getD j kH).ownBlock r
 d2:Dn vP.ownBlock vW.ownBlock∧∀ j,j<ts.length→Dn (vs.getD j kH).ownBlock vW.ownBlock
 d3:∀ r∈kK bd bh,Dn r vW.ownBlock
def Oo (d:Value) (key:ByteArray) (a:BD) (c:BH) (e:Value):List Value:=d :: E key :: (bvs a c ++ [e,K C 0 0,E ⟨#[]⟩])
def okW (ts:List kJ) (key:ByteArray) (wk:Int):Prop:=Code ts 0∧(1≤wk∧wk≤8)∧key.size≤30
def newR (ts:List kJ) (key:ByteArray) (wk:Int) (d:List kJ) (c:ByteArray) (a:BD) (n:Nat):Prop :=
 (okW ts key wk∧d=ts∧c=key∧a=Dt wk ts.length∧n=wk.toNat)∨(¬ okW ts key wk∧d=[]∧c=⟨#[]⟩∧a=rM∧n=0)
def abq (e:Ending) (B:Nat) (w':World) (g:List kJ→ByteArray→BD→Nat→Prop):Prop :=
 ∃ ts key a n d vs c f,e=.returned (aI (Oo d key a c f).toArray)∧WoO w' B ts d vs a c n f∧g ts key a n
theorem adO:WoO w B [] kH [] rM KT 0 kH :=
 ⟨lF.nil _ _,TJ w B,Own.nil _ _ _,fun r c=>⟨.inl rfl,fun j a=>absurd a D⟩,⟨.inl rfl,fun j a=>absurd a D⟩,fun r c=>Dn.symm (.inl rfl)⟩
theorem Tryz.sizeWo:(prog.info? 75).map (·.size)=U 17:=Z
def kX:List Value:=[K C 0 0,E ⟨#[]⟩,I Y 0,aF aK,I Y 0,I Y 0,I Y 0,I Y 0,K C 0 0,K C 0 0,K C 0 0,K C 0 0,K C 0 0,K C 0 0,K C 0 0,K C 0 0,E ⟨#[]⟩]
theorem nC (d:BD) (h:BH):∀ v∈bvs d h,v.oneCell'=aN:=by
 intro v a;simp only [bvs,mG,mF,or_false] at a;rcases a with rfl | rfl | rfl | rfl | rfl | rfl | rfl | rfl | rfl | rfl | rfl | rfl <;> rfl
theorem VH (a:Option Addr) (n c:Nat) (key:ByteArray) (d:BD) (h:BH) (a':Option Addr) (f c':Nat):∀ v∈Oo (K a n c) key d h (K a' f c'),v.oneCell'=aN:=by
 intro v e;simp only [Oo,mG,aa',mF,or_false] at e;rcases e with rfl | rfl | e | rfl | rfl | rfl
 ·rfl
 ·rfl
 ·exact nC d h v e
 ·rfl
 ·rfl
 ·rfl
theorem Px:∀ v∈kX,v.oneCell'=aN:=by
 intro v a;have:v∈Oo (K C 0 0) ⟨#[]⟩ rM KT (K C 0 0):=a;exact VH C 0 0 ⟨#[]⟩ rM KT C 0 0 v this
theorem Et (a:Value) (key:ByteArray) (d:BD) (h:BH) (c:Value):(Oo a key d h c).length=17:=by simp [Oo,bvs]
theorem pK {b:Nat} (x:Operand) (h:o.op=.load 33 x) (c:ρ x=aG (U ⟨b,0,C⟩)) (a:w.cell? ⟨b,0,C⟩=U v):(execOp ρ o).run prog w=.ok (.value (aI #[v])) w:=by
 unfold execOp;rw [h];simp [go_sem,c,a]
theorem lK {fn:Func} {tmps:Array Value} {p:Nat} {cs:List Value} (T:TypeId) {a:TypeDesc} (s:Nat) (h:fn.results=#[.cell s T]) (i:tmps.getD s undef=aG (U ⟨p,0,C⟩)) (d:CF w p cs) (hu:prog.underlying T=U a) (e:a.isRow=aN) (hi:(prog.info? T).map (·.size)=U cs.length):(results fn tmps).run prog w=.ok (aI cs.toArray) w:=by
 have g:w.rangeAt p 0 cs:=fun j v c=>by
  rw [ny,(d j (List.getElem?_eq_some_iff.1 c).1).1];exact c
 have f:=run_loadVar_mid (P:=prog) w p 0 T cs a g hu e hi;have k:tmps[s]?.getD undef=aG (U ⟨p,0,C⟩):=by rw [← i];simp
 unfold results;rw [h];simp [k,asAddr,f]
theorem kY {a:Act} {Q:Exit→Act→World→Prop} (h:op.guard=C) (ty:TypeId) (x:Operand) (i:op.op=.load ty x)
  (p:Nat) (cs:List Value) {c:TypeDesc} (j:a.eval x=aG (U ⟨p,0,C⟩)) (f:CF w p cs) (hu:prog.underlying ty=U c) (g:c.isRow=aN) (hi:(prog.info? ty).map (·.size)=U cs.length)
  (d:wpList prog ops Q rest (a.put op.dst (aI cs.toArray)) w):wpList prog ops Q (op :: rest) a w:=by
 refine wpList_plain h fun k e=>?_;unfold Oper.wp;rw [E5 ty c cs x i j f hu g hi];exact e _ _ d
theorem Ei (h:o.op=.alloc 75):(execOp ρ o).run prog w=.ok (.value (aG (U ⟨w.heap.size,0,C⟩))) (w.alloc (aH Jm 75)):=by
 unfold execOp;rw [h];simp [go_sem]
structure J7 (w:World) (a:Option Addr) (n c:Nat) (wr:World):Prop where
 P:CF wr w.heap.size [K a n c]
 R:CF wr (w.heap.size+1) kX
 B:Below w.heap.size w wr
 z:w.heap.size+2≤wr.heap.size
theorem J7.below (h:J7 w a n c wr) (d:Below wr.heap.size wr wx):J7 w a n c wx :=
 ⟨h.P.block (d.block _ bM),h.R.block (d.block _ bM),h.B.trans (d.mono h.B.size),lH h.z d.size⟩
theorem J7.grown {row:Option Nat} (h:J7 w a n c wr) (d:wr.grownBy wx row) (f:∀ q,row=U q→w.heap.size+2≤q):J7 w a n c wx :=
 ⟨h.P.block (d.block _ bM (fun e=>iR)),h.R.block (d.block _ bM (fun e=>iR)),below_grown h.B d h.B.size (fun q g=>by have:=f q g;omega),lH h.z d.size⟩
def J4 (a:Value) (ts:List kJ) (vs:List Value) (P:Nat→Prop):Prop:=(∀ q,a.ownBlock=U q→P q)∧∀ i,i<ts.length→∀ q,(vs.getD i kH).ownBlock=U q→P q
theorem lF.q (h:lF w B v ts vs):J4 v ts vs (fun q=>B≤q∧q<w.heap.size) :=
 ⟨fun q a=>⟨h.row.ku q a,h.row.kD q a⟩,fun i hi q a=>⟨(h.dep i hi).ku q a,(h.dep i hi).kD q a⟩⟩
theorem J4.imp {c:Value} {P Q:Nat→Prop} (h:J4 c ts vs P) (hi:∀ q,P q→Q q):J4 c ts vs Q:=⟨fun q a=>hi q (h.1 q a),fun i d q a=>hi q (h.2 i d q a)⟩
theorem lF.byQ {w':World} (h:lF w B v ts vs) (a:J4 v ts vs (fun q=>w'.heap[q]?=w.heap[q]?)):lF w' B v ts vs :=
 ⟨h.len,h.row.qY a.1,fun i hi=>(h.dep i hi).qY (a.2 i hi),h.dr,h.dd⟩
def abw (a:BD) (c:BH) (P:Nat→Prop):Prop:=∀ r∈kK a c,∀ q,r=U q→P q
structure NwM (w:World) (a:Option Addr) (n c:Nat) (ts:List kJ) (key:ByteArray) (bd:BD) (X:Nat) (vP:Value) (vs:List Value) (bh:BH) (m:Nat) (vW:Value) (wr:World):Prop where
 S:J7 w a n c wr
 X0:w.heap.size+2≤X∧X<wr.heap.size
 box:CF wr X (Oo vP key bd bh vW)
 pl:lF wr (w.heap.size+2) vP ts vs
 bo:lg wr (w.heap.size+2) bd bh
 pq:J4 vP ts vs (fun q=>q≠X)
 bq:abw bd bh (fun q=>q≠X)
 cr:Own (w.heap.size+2) wr 11 vW m (JV m)
 cx:∀ q,vW.ownBlock=U q→q≠X
 d1:∀ r∈kK bd bh,Dn vP.ownBlock r∧∀ i,i<ts.length→Dn (vs.getD i kH).ownBlock r
 d2:Dn vP.ownBlock vW.ownBlock∧∀ i,i<ts.length→Dn (vs.getD i kH).ownBlock vW.ownBlock
 d3:∀ r∈kK bd bh,Dn r vW.ownBlock
theorem CF.storedIn {p:Nat} {pre old post:List Value} (h:CF w p (pre ++ old ++ post)) (d:old.length=vs.length):CF (w.setCells p pre.length vs) p (pre ++ vs ++ post):=fun j g=>by
 have hlen:(pre ++ vs ++ post).length=(pre ++ old ++ post).length:=by simp [d]
 have k:j<(pre ++ old ++ post).length:=by rw [← hlen];exact g
 obtain ⟨a,e⟩:=h j k;refine ⟨?_,by rw [RY];exact e⟩;by_cases a1:j<pre.length
 ·rw [Oh p vs pre.length w ⟨p,j,C⟩ (fun _ _=>.inl a1),a]
  rw [nO (by rw [lD];omega),nO a1,nO (by rw [lD];omega),nO a1]
 ·by_cases a2:j<pre.length+vs.length
  ·have c:=RZ p vs pre.length w (fun i hi=>by
    obtain ⟨f,_⟩:=h (pre.length+i) aQ;rw [f,nH aQ];rfl) (j - pre.length) A
   rw [show pre.length+(j - pre.length)=j by omega] at c;rw [c,nO (by rw [lD];omega),qP A,nH A]
  ·rw [Oh p vs pre.length w ⟨p,j,C⟩ (fun _ _=>.inr (by show pre.length+vs.length≤j;omega)),a]
   rw [qP (by rw [lD];omega),qP (by rw [lD];omega)];simp [d]
theorem uj {P:Program} {a:Act} {Q:Exit→Act→World→Prop} (j:op.guard=C) (ty:TypeId) (x y:Operand) (k:op.op=.store ty x y)
  (p o:Nat) (pre old post vs:List Value) (l:pre.length=o) (q:a.eval x=aG (U ⟨p,o,C⟩)) (r:a.eval y=aI vs.toArray) (e:CF w p (pre ++ old ++ post)) (f:old.length=vs.length) (hi:(P.info? ty).map (·.size)=U vs.length) (d:∀ v∈vs,v.oneCell'=aN)
  (h:∀ c,CF c p (pre ++ vs ++ post)→w.grownBy c (U p)→wpList P ops Q rest (a.put op.dst undef) c):wpList P ops Q (op :: rest) a w:=by
 subst l;refine wpList_store_mid j ty x y k p pre.length vs.toArray q r (fun i hi=>?_) (by simpa using hi) (all_oneCell_toArray d) ?_
 ·have s:i<old.length:=by simpa [f] using hi
  obtain ⟨d,g⟩:=e (pre.length+i) aQ;exact ⟨by rw [d,nH aQ];rfl,g⟩
 ·exact h _ (e.storedIn f) (mY p vs pre.length w w (lJ _ _))
theorem ZG (a:Option Addr) (b o n c:Nat) (ts:List kJ) (key:ByteArray) (wk:Int) (w:World) (h:lN w a b o n ts) (hn:n+qF ts≤1048576) (ck:key.size≤1048576) :
  Calls prog 58 #[aI #[K a n c],E key,I Y wk] w fun e w'=>abq e w.heap.size w' (newR ts key wk)∧Below w.heap.size w w':=by
 obtain ⟨iW,ch,cb,cd,cf⟩:=info_parts Tryz.infoWr;obtain ⟨W, hW⟩ := kC ((w.alloc (aH #[K a n c] 33)).alloc (aH Jm 75));have S0:J7 w a n c W:=by
  refine ⟨?_,?_,?_,dF⟩
  ·rw [hW];exact (CF.made w #[K a n c] 33).block (kU _ _ _ D)
  ·rw [hW]
   have:=CF.made (w.alloc (aH #[K a n c] 33)) Jm 75;rw [mJ] at this;exact this
  ·rw [hW];exact kQ.alloc D _
 have HW:=hid hW;have HL:=hid h.len;have HZ:Hid (∀ wx,J7 w a n c wx→∀ wy,wx.grownBy wy (U (w.heap.size+1))→¬ okW ts key wk→abq (.returned (aI Jm)) w.heap.size wy (newR ts key wk)∧Below w.heap.size w wy):=hid fun wx Sx wy hg cm =>
  ⟨⟨[],⟨#[]⟩,rM,0,kH,[],KT,kH,rfl,adO,.inr ⟨cm,rfl,rfl,rfl,rfl⟩⟩,below_grown Sx.B hg Sx.B.size (fun q d=>by injection d with d;omega)⟩
 clear hW;go_enter func58,ntmps58
 go_upto_region 1 with fail
 rw [← HW.out];clear HW;have y0:W.cell? ⟨w.heap.size,0,C⟩=U (K a n c):=(S0.P 0 D).1;go_wp2_with fail
 refine (ru a b o n c ts (h.below' S0.B)).mono ?_;rintro e w1 ⟨⟨cc,rfl,aq⟩,bs⟩;have L:=S0.below bs;clear y0 bs S0;by_cases c0:cc=0
 case neg =>
  have cv:(cc == 0)=aK:=beq_eq_false_iff_ne.2 c0;have HN:=hid (show ¬ okW ts key wk from fun hh=>c0 (aq.one hh.1));clear aq;have T:CF w1 (w.heap.size+1) kX:=L.R;go_upto_region 2 with fail
  go_wp2_with (refine jY rfl 75 (F 6) (F 22) rfl (w.heap.size+1) kX WW rfl rfl T rfl Tryz.sizeWo Px ?_;intro ax aa N)
  exact bodyPost_ret (v:=aI Jm) (lK 75 6 results58 rfl aa underlying75 rfl Tryz.sizeWo) rfl (HZ.out _ L _ N HN.out)
 subst c0;have HC:=hid aq;clear aq;go_wp2_with fail
 refine (kP wk 1 8).mono ?_;rintro e w2 ⟨rfl,rfl⟩;by_cases c1:inB wk 1 8=aN
 case neg =>
  have cw:inB wk 1 8=aK:=by simpa using c1
  have HN:=hid (show ¬ okW ts key wk from fun hh=>c1 (by unfold inB;simp;exact hh.2.1));clear c1;have T:CF w2 (w.heap.size+1) kX:=L.R;go_upto_region 2 with fail
  go_wp2_with (refine jY rfl 75 (F 6) (F 22) rfl (w.heap.size+1) kX WW rfl rfl T rfl Tryz.sizeWo Px ?_;intro ax aa N)
  exact bodyPost_ret (v:=aI Jm) (lK 75 6 results58 rfl aa underlying75 rfl Tryz.sizeWo) rfl (HZ.out _ L _ N HN.out)
 have bf:1≤wk∧wk≤8:=by unfold inB at c1;simpa using c1
 by_cases c2:(30:Int)<(key.size:Int)
 case pos =>
  have HN:=hid (show ¬ okW ts key wk from fun hh=>by have:=hh.2.2;omega);have T:CF w2 (w.heap.size+1) kX:=L.R;go_upto_region 2 with fail
  go_wp2_with (refine jY rfl 75 (F 6) (F 22) rfl (w.heap.size+1) kX WW rfl rfl T rfl Tryz.sizeWo Px ?_;intro ax aa N)
  exact bodyPost_ret (v:=aI Jm) (lK 75 6 results58 rfl aa underlying75 rfl Tryz.sizeWo) rfl (HZ.out _ L _ N HN.out)
 have b9:decide ((30:Int)<(key.size:Int))=aK:=decide_eq_false c2;have b6:=hid (show okW ts key wk from ⟨HC.out,bf,A⟩);have bk:=hid (ab6 HC.out bf.1 bf.2);go_upto_region 3 with fail
 clear c1 c2 b9 HZ;obtain ⟨Q,bz⟩:∃ Q:Nat,Q=wk.toNat:=⟨_,rfl⟩
 have bl:=hid (show wk=(Q:Int) by omega);have b5:=hid bz;have cz:Q≤8:=A;clear bz;have y0:w2.cell? ⟨w.heap.size,0,C⟩=U (K a n c):=(L.P 0 D).1;go_wp2_with fail
 refine (OO a b o n c ts _ (h.below' L.B) hn).mono ?_;rintro e w3 ⟨⟨v,vs,rfl,av⟩,a8⟩;obtain ⟨H,J,rfl⟩:=av.row.slc;have S3:=L.below a8;have pq:=hid av.q;have z3:w2.heap.size≤w3.heap.size:=a8.size;have z2:=L.z;clear y0 a8 L;obtain ⟨l,an⟩:∃ X:Nat,X=w3.heap.size:=⟨_,rfl⟩
 obtain ⟨W4, ae⟩ := kC (w3.alloc (aH #[K H ts.length J,E key,I Y 0,aF aK,I Y 0,I Y 0,I Y 0,I Y 0,K C 0 0,K C 0 0,K C 0 0,K C 0 0,K C 0 0,K C 0 0,K C 0 0,K C 0 0,E ⟨#[]⟩] 75));have b4:Below w3.heap.size w3 W4:=by rw [ae];exact kQ
 have S4:=S3.below b4;have b1:=av.below b4;have bn:CF W4 l [K H ts.length J,E key,I Y 0,aF aK,I Y 0,I Y 0,I Y 0,I Y 0,K C 0 0,K C 0 0,K C 0 0,K C 0 0,K C 0 0,K C 0 0,K C 0 0,K C 0 0,E ⟨#[]⟩]:=by rw [ae,an];exact CF.made w3 #[K H ts.length J,E key,I Y 0,aF aK,I Y 0,I Y 0,I Y 0,I Y 0,K C 0 0,K C 0 0,K C 0 0,K C 0 0,K C 0 0,K C 0 0,K C 0 0,K C 0 0,E ⟨#[]⟩] 75
 have z4:W4.heap.size=l+1:=by rw [ae,an];simp
 have HX:=hid an;have bm:=hid ae;clear ae an S3 av b4;go_upto_region 4 with fail
 rw [← bm.out,← HX.out];clear bm;have y0:W4.cell? ⟨w.heap.size,0,C⟩=U (K a n c):=(S4.P 0 D).1;go_wp2_with fail
 refine (OJ (DY wk) KT a b o n c ts bk.out (acY wk) (h.below' S4.B) (XC wk)).mono ?_;rintro e w5 ⟨⟨d',⟨M,he,bb⟩,g⟩,af⟩;have e5:=aac g;subst e5;subst he;have S5:=S4.below af;have b2:=b1.below af;have bp:CF w5 l ([K H ts.length J,E key] ++ FB ++ [K C 0 0,K C 0 0,E ⟨#[]⟩]):=bn.block (af.block l A);have bq:=hid bb.lo;have z5:W4.heap.size≤w5.heap.size:=af.size;have ay:=hid bb;have ah:=hid b2;clear y0 S4 b1 bn af g bb b2;go_upto_region 5 with (refine uj rfl 30 _ _ rfl l 2 [K H ts.length J,E key] FB [K C 0 0,K C 0 0,E ⟨#[]⟩] (bvs (Dt wk ts.length) M) rfl rfl rfl bp rfl Tryz.sizeBo (nC _ _) ?_;intro w6 bu ab)
 have cg:=HX.out;have aw:J4 (K H ts.length J) ts vs (fun q=>q≠l):=pq.out.imp (fun q d=>A);have bne:abw (Dt wk ts.length) M (fun q=>q≠l):=fun r g q d=>by have p:=bq.out r g q d;omega
 have HR:=hid (show NwM w a n c ts key (Dt wk ts.length) l (K H ts.length J) vs M 0 kH w6 from {
  S:=S5.grown ab (fun q d=>by injection d with d;omega)
  X0:=⟨A,by have:=ab.size;omega⟩
  box:=bu
  pl:=(ah.out.byQ ⟨fun q d=>ab.block q (ah.out.row.kD q d) (by simp;exact aw.1 q d),fun i hi q d=>ab.block q ((ah.out.dep i hi).kD q d) (by simp;exact aw.2 i hi q d)⟩).mono A
  bo:=(ay.out.blk (fun r g q d=>ab.block q (ay.out.lo r g q d).2 (by simp;exact bne r g q d))).mono A
  pq:=aw
  bq:=bne
  cr:=Own.nil _ _ _
  cx:=fun q d=>by cases d
  d1:=fun r g=>⟨Dn.later (m:=l) (fun q d=>by have p:=pq.out.1 q d;omega) (fun q d=>by have p:=bq.out r g q d;omega),fun i hi=>Dn.later (m:=l) (fun q d=>by have p:=pq.out.2 i hi q d;omega) (fun q d=>by have p:=bq.out r g q d;omega)⟩
  d2:=⟨Dn.symm (.inl rfl),fun i hi=>Dn.symm (.inl rfl)⟩
  d3:=fun r g=>Dn.symm (.inl rfl) })
 clear bu ab aw bne ah ay pq bq bp S5 z2 z3 z4 z5 cg HX bk HC h hn ck HL;go_wp2;go_loopw [8] (fun i wr=>∃ k:Nat,k≤Q∧i=I Y ((k:Int)+1)∧∃ vW,NwM w a n c ts key (Dt wk ts.length) l (K H ts.length J) vs M k vW wr) (fun i _=>Q+1 - (intOf i).toNat)
 case atStart=>exact ⟨0,lG _,rfl,kH,HR.out⟩
 case round =>
  clear HR;obtain ⟨k,hk,rfl,vW,S⟩:=hrel;by_cases cy:k<Q
  ·have cl:(k:Int)+1≤wk:=by rw [bl.out];omega
   obtain ⟨V,cW,bd⟩:=S.cr.slc;subst bd;have cu:wr.cell? ⟨l,14,C⟩=U (K V k cW):=(S.box 14 (by rw [Et];omega)).1;have hX:=S.X0;obtain ⟨ai, hU⟩ := kC (wr.alloc (aH #[I Y ((k:Int)+1),I Y 1,aF aN,I Y 0,I Y 0,I Y 0,I Y 0,I Y 0,K C 0 0,E ⟨#[]⟩,I Y 3] 127));have bU:Below wr.heap.size wr ai:=by rw [hU];exact kQ
   have zU:ai.heap.size=wr.heap.size+1:=by rw [hU];simp
   have cq:Own (w.heap.size+2) ai 11 (K (U ⟨wr.heap.size,0,C⟩) 1 1) 1 (Sz k):=by
    rw [hU];exact .inr ⟨_,0,1,rfl,kW.made wr (w.heap.size+2) 127 11 1 1 _ 11 A kL G rfl kL _ rfl _ (.inl rfl)⟩
   have ct:Src prog 11 72 _ 1 _ ai:=cq.src underlying72 (by intro x hx;simp only [Sz,mG,mF,or_false] at hx;rcases hx with rfl | rfl | rfl | rfl | rfl | rfl | rfl | rfl | rfl | rfl | rfl <;> rfl);have ca:=S.cr.below bU kL;have b8:=S.box.block (bU.block l hX.2);have cn:=S.cr.ku;have HS:=hid S;clear S;go_wp2_with (at_builtin;rw [← hU];refine kT _ rfl _ _ 72 72 rfl (w.heap.size+2) 127 iW (aI Ob) 11 112 underlying72 ch cb cd cf rfl _ k _ rfl ca _ 1 _ rfl ct G A A ?_;intro v' w6 b0 ag ba;have a7:=b8.block (ag.block l A (fun e=>HS.out.cx _ e.symm rfl));have cp:w6.cell? ⟨l,14,C⟩=U (K V k cW):=(a7 14 (by rw [Et];omega)).1;have f14:w6.frozen? ⟨l,14,C⟩=aK:=(a7 14 (by rw [Et];omega)).2;obtain ⟨ak,al,rfl⟩:=b0.slc)
   clear cp f14 cu;have gs:=lU (lJ w6 (U l)) 14 (K ak (k+1) al);have f:=HS.out;have zg:=ag.size;have br:∀ q,(K ak (k+1) al).ownBlock=U q→q≠l:=fun q d=>by
    rcases ba with p | p
    ·rw [p] at d;exact f.cx q d
    ·rw [p] at d;injection d with d;omega
   have ne:∀ x:Option Nat,(∀ q,x=U q→q≠l)→Dn x (U l):=fun x hx=>by
    cases x with
    | none=>exact .inl rfl
    | some q=>exact .inr (by simp;exact hx q rfl)
   go_roundw
   case rel =>
    refine ⟨k+1,A,by first | go_num | (simp;omega) | simp,K ak (k+1) al,?_⟩;exact {
     S:=((f.S.below bU).grown ag (fun q d=>cn q d)).grown gs (fun q d=>by injection d with d;omega)
     X0:=⟨hX.1,bW⟩
     box:=a7.set (j:=14) (by rw [Et];omega) (K ak (k+1) al)
     pl:=((f.pl.below bU).grown ag f.d2.1 f.d2.2).grown gs (ne _ f.pq.1) (fun i hi=>ne _ (f.pq.2 i hi))
     bo:=((f.bo.below bU).blk (fun r g q d=>ag.block q (by have:=(f.bo.lo r g q d).2;omega) (fun e=>by
      rcases f.d3 r g with p | p
      ·rw [p] at d;cases d
      ·exact p (d.trans e)))).blk (fun r g q d=>gs.block q (by have:=(f.bo.lo r g q d).2;omega) (by simp;exact f.bq r g q d))
     pq:=f.pq
     bq:=f.bq
     cr:=by rw [Ya];exact b0.grown gs (ne _ br)
     cx:=br
     d1:=f.d1
     d2:=by
      rcases ba with p | p
      ·rw [p];exact f.d2
      ·have d:=f.pl.q
       exact ⟨Dn.later (fun q u=>(d.1 q u).2) (fun q u=>by rw [p] at u;injection u with u;omega),fun i hi=>Dn.later (fun q u=>(d.2 i hi q u).2) (fun q u=>by rw [p] at u;injection u with u;omega)⟩
     d3:=fun r g=>by
      rcases ba with p | p
      ·rw [p];exact f.d3 r g
      ·exact Dn.later (fun q u=>(f.bo.lo r g q u).2) (fun q u=>by rw [p] at u;injection u with u;omega) }
   case measure=>simp [intOf];omega
  ·obtain rfl:k=Q:=by omega
   have cl:¬ ((k:Int)+1≤wk):=by rw [bl.out];omega
   obtain ⟨V,cW,bd⟩:=S.cr.slc;subst bd;have BX:CF wr l (Oo (K H ts.length J) key (Dt wk ts.length) M (K V k cW)):=S.box;obtain ⟨cs, au⟩ := kC (Oo (K H ts.length J) key (Dt wk ts.length) M (K V k cW));rw [← au] at BX;have bj:=hid au;have bc:cs.length=17:=by rw [au];exact Et _ _ _ _ _
   have b3:=hid bc;have bw:(prog.info? 75).map (·.size)=U cs.length:=by rw [bc];exact Tryz.sizeWo
   have a6:=hid bw;clear au bc bw;have T:CF wr (w.heap.size+1) kX:=S.S.R;have b7:=hid (show ∀ v∈cs,v.oneCell'=aN by rw [bj.out];exact VH H ts.length J key (Dt wk ts.length) M V k cW);have HS:=hid S;clear S;go_wp2_with (first | (refine kY rfl 75 _ rfl l cs rfl BX underlying75 rfl a6.out ?_) | (refine jY rfl 75 (F 6) (F 44) rfl (w.heap.size+1) kX cs rfl rfl T b3.out.symm a6.out b7.out ?_;intro ax aa N))
   have f:=HS.out;have hz:=f.S.z;have bg:∀ q,w.heap.size+2≤q→q<wr.heap.size→ax.heap[q]?=wr.heap[q]?:=fun q u h2=>N.block q h2 aQ;exact bodyPost_ret (v:=aI cs.toArray) (lK 75 6 results58 rfl aa underlying75 rfl a6.out) rfl ⟨⟨ts,key,(Dt wk ts.length),k,K H ts.length J,vs,M,K V k cW,by rw [bj.out],{
    pl:=(f.pl.blk bg).mono A
    bo:=(f.bo.blk (fun r g q d=>bg q (f.bo.lo r g q d).1 (f.bo.lo r g q d).2)).mono A
    cr:=(f.cr.qY (fun q d=>bg q (f.cr.ku q d) (f.cr.kD q d))).mono' A
    d1:=f.d1
    d2:=f.d2
    d3:=f.d3 },.inl ⟨b6.out,rfl,rfl,rfl,b5.out⟩⟩,below_grown f.S.B N f.S.B.size (fun q d=>by injection d with d;omega)⟩
end Go.Proofs.YtfkkipgcfoegmaaGreat
