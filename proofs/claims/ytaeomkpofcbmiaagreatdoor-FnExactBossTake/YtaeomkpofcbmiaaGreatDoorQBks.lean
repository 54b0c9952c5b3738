
import Derived.Test.YtaeomkpofcbmiaaGreatDoorQBre
import Derived.Test.YtaeomkpofcbmiaaGreatDoorQBku
import Derived.Test.YtaeomkpofcbmiaaGreatDoorQBfs
set_option maxHeartbeats 8000000
set_option maxRecDepth 100000
namespace Go.Proofs.YtaeomkpofcbmiaaGreatDoor
open Go.RowKit
theorem sTakeB_any (d : BD) (h : BH) (pa : Option Addr) (pb po pn pc : Nat) (ts : List TaskD) (kd fm tw ep le ta : Int) (x : ByteArray) (ss : List ByteArray) (ua : Option Addr) (ub uo uc : Nat) (w : World) (hM : BossM w d h) (hT : TasksAt w pa pb po pn ts) (hs : d.small) (hst : StrsAt w ua ub uo ss.length ss) :
  Calls Tryz.prog 7 #[.agg #[.int .i64 d.wk,.bool d.up,.int .i64 d.now,.int .i64 d.sn,.int .i64 d.ep,.int .i64 d.gv,.slice h.a1 d.L1.length h.c1,.slice h.a2 d.L2.length h.c2,.slice h.ar d.R.length h.cr,.slice h.aj d.J.length h.cj,.slice h.az d.S.length h.cs,.slice h.ao d.O.length h.co],.agg #[.slice pa pn pc],.agg #[.int .i64 kd,.int .i64 fm,.int .i64 tw,.int .i64 ep,.int .i64 le,.int .i64 ta,.string x,.slice ua ss.length uc]] w fun e w'=>RetLd e w.heap.size w' (takeBR d ts (⟨kd,fm,tw,ep,le,ta,x,ss⟩ : MgD)) ∧ Below w.heap.size w w':=by
 obtain ⟨W,hW⟩ : ∃ W,W = (((w.alloc (.cells #[.int .i64 d.wk,.bool d.up,.int .i64 d.now,.int .i64 d.sn,.int .i64 d.ep,.int .i64 d.gv,.slice h.a1 d.L1.length h.c1,.slice h.a2 d.L2.length h.c2,.slice h.ar d.R.length h.cr,.slice h.aj d.J.length h.cj,.slice h.az d.S.length h.cs,.slice h.ao d.O.length h.co] 43)).alloc (.cells #[.slice pa pn pc] 51)).alloc (.cells #[.int .i64 kd,.int .i64 fm,.int .i64 tw,.int .i64 ep,.int .i64 le,.int .i64 ta,.string x,.slice ua ss.length uc] 53)).alloc (.cells #[.int .i64 0,.bool false,.int .i64 0,.int .i64 0,.int .i64 0,.int .i64 0,.slice none 0 0,.slice none 0 0,.slice none 0 0,.slice none 0 0,.slice none 0 0,.slice none 0 0,.slice none 0 0] 46):=⟨_,rfl⟩
 obtain ⟨P0,L0,M0,R0,z0,B0⟩:=box4 w #[.int .i64 d.wk,.bool d.up,.int .i64 d.now,.int .i64 d.sn,.int .i64 d.ep,.int .i64 d.gv,.slice h.a1 d.L1.length h.c1,.slice h.a2 d.L2.length h.c2,.slice h.ar d.R.length h.cr,.slice h.aj d.J.length h.cj,.slice h.az d.S.length h.cs,.slice h.ao d.O.length h.co] #[.slice pa pn pc] #[.int .i64 kd,.int .i64 fm,.int .i64 tw,.int .i64 ep,.int .i64 le,.int .i64 ta,.string x,.slice ua ss.length uc] #[.int .i64 0,.bool false,.int .i64 0,.int .i64 0,.int .i64 0,.int .i64 0,.slice none 0 0,.slice none 0 0,.slice none 0 0,.slice none 0 0,.slice none 0 0,.slice none 0 0,.slice none 0 0] 43 51 53 46 hW
 have P0 : CF W w.heap.size [.int .i64 d.wk,.bool d.up,.int .i64 d.now,.int .i64 d.sn,.int .i64 d.ep,.int .i64 d.gv,.slice h.a1 d.L1.length h.c1,.slice h.a2 d.L2.length h.c2,.slice h.ar d.R.length h.cr,.slice h.aj d.J.length h.cj,.slice h.az d.S.length h.cs,.slice h.ao d.O.length h.co]:=P0
 have L0 : CF W (w.heap.size + 1) [.slice pa pn pc]:=L0
 have M0 : CF W (w.heap.size + 2) [.int .i64 kd,.int .i64 fm,.int .i64 tw,.int .i64 ep,.int .i64 le,.int .i64 ta,.string x,.slice ua ss.length uc]:=M0
 have R0 : CF W (w.heap.size + 3) [.int .i64 0,.bool false,.int .i64 0,.int .i64 0,.int .i64 0,.int .i64 0,.slice none 0 0,.slice none 0 0,.slice none 0 0,.slice none 0 0,.slice none 0 0,.slice none 0 0,.slice none 0 0]:=R0
 have hV0 : BossV w d [.int .i64 d.wk,.bool d.up,.int .i64 d.now,.int .i64 d.sn,.int .i64 d.ep,.int .i64 d.gv,.slice h.a1 d.L1.length h.c1,.slice h.a2 d.L2.length h.c2,.slice h.ar d.R.length h.cr,.slice h.aj d.J.length h.cj,.slice h.az d.S.length h.cs,.slice h.ao d.O.length h.co]:=⟨h,rfl,hM⟩
 have hV:=hid (hV0.below' B0)
 have hs':=hid hs
 have HTT:=hid hT
 have hf:=hid hM.fits
 have HSA0:=hid hst
 clear hV0 hs hT hst
 have HW:=hid hW
 clear hW
 go_enter Tryz.func7,Tryz.ntmps7
 go_upto_region 1 with fail
 rw [← HW.out]
 clear HW
 obtain ⟨y0,y1,y2,y3,y4,y5,y6,y7,y8,y9,y10,y11⟩:=cf12 P0
 have kp : W.cell? ⟨w.heap.size + 1,0,none⟩ = some (.slice pa pn pc):=(L0 0 (by simp)).1
 go_wp2_with fail
 refine (sValBV_any d _ _ _ _ _ _ _ _ _ _ _ _ pa pb po pn pc ts _ hV.out (HTT.out.below' B0) hs'.out).mono ?_
 rintro e w1 ⟨⟨r,rfl,hr⟩,hb1⟩
 clear y0 y1 y2 y3 y4 y5 y6 y7 y8 y9 y10 y11 kp
 have P1:=P0.block (hb1.block w.heap.size (by omega))
 have L1:=L0.block (hb1.block (w.heap.size + 1) (by omega))
 have M1:=M0.block (hb1.block (w.heap.size + 2) (by omega))
 have R1:=R0.block (hb1.block (w.heap.size + 3) (by omega))
 have B1:=B0.trans (hb1.mono B0.size)
 have z1 : w.heap.size + 4 ≤ w1.heap.size:=by have:=hb1.size;omega
 have HR:=hid hr
 clear hr hb1 P0 R0 B0 z0 L0 M0
 cases r with
 | false =>
  have HN : Hid (¬ d.ok ts):=fun hh=>by have:=HR.out.2 hh;cases this
  go_upto_region 2 with fail
  go_wp2_with (refine wpList_store_cf rfl 46 (.tmp 6) (.tmp 16) rfl (w.heap.size + 3) [.int .i64 0,.bool false,.int .i64 0,.int .i64 0,.int .i64 0,.int .i64 0,.slice none 0 0,.slice none 0 0,.slice none 0 0,.slice none 0 0,.slice none 0 0,.slice none 0 0,.slice none 0 0] [.int .i64 0,.bool false,.int .i64 0,.int .i64 0,.int .i64 0,.int .i64 0,.slice none 0 0,.slice none 0 0,.slice none 0 0,.slice none 0 0,.slice none 0 0,.slice none 0 0,.slice none 0 0] rfl rfl R1 rfl Tryz.sizeLd (one13 _ _ _ _ _ _ _ _ _ _ _ _ _ _ _ _ _ _ _ _ _ _ _ _ _ _ _) ?_;intro w10 hc10 hg10)
  obtain ⟨k0,k1,k2,k3,k4,k5,k6,k7,k8,k9,k10,k11,k12⟩:=cf13 hc10
  exact bodyPost_ret (v:=.agg #[.int .i64 0,.bool false,.int .i64 0,.int .i64 0,.int .i64 0,.int .i64 0,.slice none 0 0,.slice none 0 0,.slice none 0 0,.slice none 0 0,.slice none 0 0,.slice none 0 0,.slice none 0 0]) (by simp [results,Tryz.results7,go_sem,k0,k1,k2,k3,k4,k5,k6,k7,k8,k9,k10,k11,k12]) rfl ⟨⟨zBD,⟨none,none,none,none,none,none,0,0,0,0,0,0⟩,.slice none 0 0,[],[],rfl,⟨zBO _ _,MsO.nil _ _,fun r hr=>Dj.symm (.inl rfl),fun r hr j hj=>absurd hj (by simp)⟩,.inr ⟨HN.out,rfl⟩⟩,below_grown B1 hg10 (by omega) (fun q hq=>by simp at hq;omega)⟩
 | true =>
  have HV : Hid (d.ok ts):=HR.out.1 rfl
  have hpn:=HTT.out.len
  subst hpn
  have hcd : 1 ≤ ts.length:=by
   have h9:=HV.out
   obtain ⟨⟨hcode,_⟩,_⟩:=h9
   exact hcode.namesC.1
  obtain rfl:=HTT.out.ad (by omega)
  clear HR hV
  have hsm:=hs'.out
  unfold BD.small at hsm
  obtain ⟨⟨b1,o1,h1⟩,⟨b2,o2,h2⟩,⟨b3,o3,h3⟩,⟨b4,o4,h4⟩,⟨b5,o5,h5⟩,⟨b6,o6,h6⟩⟩:=hM
  have HCP:=hid (l5Copy_any d.wk d.up d.now d.sn d.ep d.gv h.a1 h.a2 h.ar h.aj h.az h.ao b1 o1 _ h.c1 b2 o2 _ h.c2 b3 o3 _ h.cr b4 o4 _ h.cj b5 o5 _ h.cs b6 o6 _ h.co d.L1 d.L2 d.R d.J d.S d.O w1 (h1.below' B1) (h2.below' B1) (h3.below' B1) (h4.below' B1) (h5.below' B1) (h6.below' B1) (by omega) (by omega) (by omega) (by omega) (by omega) (by omega))
  clear h1 h2 h3 h4 h5 h6 hsm
  obtain ⟨y0,y1,y2,y3,y4,y5,y6,y7,y8,y9,y10,y11⟩:=cf12 P1
  go_wp2_with fail
  refine HCP.out.mono ?_
  rintro e w2 ⟨a0_,c0_,a1_,c1_,a2_,c2_,a3_,c3_,a4_,c4_,a5_,c5_,rfl,⟨q0,q1,q2,q3,q4,q5⟩,hdis,hb2⟩
  clear y0 y1 y2 y3 y4 y5 y6 y7 y8 y9 y10 y11 HCP
  go_upto_region 4 with fail
  obtain ⟨W3,hW3⟩ : ∃ V,V = w2.alloc (.cells #[.int .i64 d.wk,.bool d.up,.int .i64 d.now,.int .i64 d.sn,.int .i64 d.ep,.int .i64 d.gv,.slice a0_ d.L1.length c0_,.slice a1_ d.L2.length c1_,.slice a2_ d.R.length c2_,.slice a3_ d.J.length c3_,.slice a4_ d.S.length c4_,.slice a5_ d.O.length c5_] 43):=⟨_,rfl⟩
  obtain ⟨Q7,hQ7⟩ : ∃ q,q = w2.heap.size:=⟨_,rfl⟩
  have hb3 : Below w2.heap.size w2 W3:=by rw [hW3];exact (Below.refl _ _).alloc (Nat.le_refl _) _
  obtain ⟨h',hh'⟩ : ∃ x : BH,x = ⟨a0_,a1_,a2_,a3_,a4_,a5_,c0_,c1_,c2_,c3_,c4_,c5_⟩:=⟨_,rfl⟩
  have hz2:=hb2.size
  have T0 : TkS w1 w1.heap.size Q7 [] d h' W3:=by
   subst hh'
   have bo2 : BossO w2 w1.heap.size d ⟨a0_,a1_,a2_,a3_,a4_,a5_,c0_,c1_,c2_,c3_,c4_,c5_⟩:=⟨q0,q1,q2,q3,q4,q5,hdis⟩
   refine ⟨bo2.below hb3,?_,hb2.trans (hb3.mono hz2),fun r hr e=>by have:=(bo2.lo r hr _ e).2;omega,⟨by omega,by rw [hW3,hQ7];simp,Nat.le_refl _⟩⟩
   rw [List.append_nil,hW3,hQ7]
   exact CF.made w2 #[.int .i64 d.wk,.bool d.up,.int .i64 d.now,.int .i64 d.sn,.int .i64 d.ep,.int .i64 d.gv,.slice a0_ d.L1.length c0_,.slice a1_ d.L2.length c1_,.slice a2_ d.R.length c2_,.slice a3_ d.J.length c3_,.slice a4_ d.S.length c4_,.slice a5_ d.O.length c5_] 43
  rw [← hW3,← hQ7]
  have HM1:=hid M1
  have HL1:=hid L1
  have HR1:=hid R1
  have HB1:=hid B1
  have HZ1:=hid z1
  have HSA:=hid (HSA0.out.below' B1)
  have HT1:=hid (HTT.out.below' B1)
  clear hW3 hQ7 hb3 hb2 q0 q1 q2 q3 q4 q5 hdis hh' hz2 L1 R1 P1 M1 B1 z1 HSA0
  go_cut [38] (fun c wx=>∃ b : Bool,c = .bool b ∧ (b = false ↔ d.up = true ∧ vM kd fm tw ep le ta x.size ss ∧ tw = 0 ∧ fm ≤ d.wk) ∧ TkS w1 w1.heap.size Q7 [] d h' wx)
  case first =>
   have HT:=hid T0
   have n0 : W3.cell? ⟨w.heap.size + 2,0,none⟩ = some (.int .i64 kd):=keepB HT.out.hb ((HM1.out 0 (by simp)).1)
   have n1 : W3.cell? ⟨w.heap.size + 2,1,none⟩ = some (.int .i64 fm):=keepB HT.out.hb ((HM1.out 1 (by simp)).1)
   have n2 : W3.cell? ⟨w.heap.size + 2,2,none⟩ = some (.int .i64 tw):=keepB HT.out.hb ((HM1.out 2 (by simp)).1)
   have n3 : W3.cell? ⟨w.heap.size + 2,3,none⟩ = some (.int .i64 ep):=keepB HT.out.hb ((HM1.out 3 (by simp)).1)
   have n4 : W3.cell? ⟨w.heap.size + 2,4,none⟩ = some (.int .i64 le):=keepB HT.out.hb ((HM1.out 4 (by simp)).1)
   have n5 : W3.cell? ⟨w.heap.size + 2,5,none⟩ = some (.int .i64 ta):=keepB HT.out.hb ((HM1.out 5 (by simp)).1)
   have n6 : W3.cell? ⟨w.heap.size + 2,6,none⟩ = some (.string x):=keepB HT.out.hb ((HM1.out 6 (by simp)).1)
   have n7 : W3.cell? ⟨w.heap.size + 2,7,none⟩ = some (.slice ua ss.length uc):=keepB HT.out.hb ((HM1.out 7 (by simp)).1)
   have y0 : W3.cell? ⟨Q7,0,none⟩ = some (.int .i64 d.wk):=(T0.D 0 (by simp [bvs])).1
   rcases Bool.eq_false_or_eq_true d.up with hup | hup
   ·have y1 : W3.cell? ⟨Q7,1,none⟩ = some (.bool true):=by rw [← hup];exact (T0.D 1 (by simp [bvs])).1
    have HL2:=hid (l2Ok_any kd fm tw ep le ta x ua ub uo ss.length uc ss W3 (HSA.out.below' T0.hb))
    have HUP:=hid hup
    clear T0 hup
    go_wp2_with fail
    refine HL2.out.mono ?_
    rintro _ w5 ⟨⟨r,rfl,hr⟩,hb5⟩
    have HT5:=hid (HT.out.below hb5)
    have m1:=keepB hb5 n1
    have m2:=keepB hb5 n2
    have y0':=keepB hb5 y0
    have HR5:=hid hr
    clear n0 n1 n2 n3 n4 n5 n6 n7
    clear hr hb5 HL2 y0 y1
    cases r with
    | false =>
     go_wp2_with fail
     go_meet
     case rel=>exact ⟨true,rfl,⟨fun h=>(by cases h),fun h=>absurd h.2.1 (by have:=HR5.out;simpa using this)⟩,HT5.out⟩
    | true =>
     by_cases htw : tw = 0
     ·have htb : (tw == 0) = true:=by simpa using htw
      have htn : (tw != 0) = false:=by simp [htw]
      have HTW:=hid htw
      clear htw
      by_cases hfw : fm ≤ d.wk
      ·have hd5 : decide (d.wk < fm) = false:=decide_eq_false (by omega)
       go_wp2_with fail
       go_meet
       case rel=>exact ⟨false,rfl,⟨fun _=>⟨HUP.out,HR5.out.1 (by trivial),HTW.out,hfw⟩,fun _=>rfl⟩,HT5.out⟩
      ·have hd5 : decide (d.wk < fm) = true:=decide_eq_true (by omega)
       go_wp2_with fail
       go_meet
       case rel=>exact ⟨true,rfl,⟨fun h=>(by cases h),fun h=>absurd h.2.2.2 (by omega)⟩,HT5.out⟩
     ·have htb : (tw == 0) = false:=by simpa using htw
      have htn : (tw != 0) = true:=by simpa using htw
      go_wp2_with fail
      go_meet
      case rel=>exact ⟨true,rfl,⟨fun h=>(by cases h),fun h=>absurd h.2.2.1 htw⟩,HT5.out⟩
   ·have y1 : W3.cell? ⟨Q7,1,none⟩ = some (.bool false):=by rw [← hup];exact (T0.D 1 (by simp [bvs])).1
    have HUP:=hid hup
    clear T0 hup
    go_wp2_with fail
    go_meet
    case rel=>exact ⟨true,rfl,⟨fun h=>(by cases h),fun h=>absurd (HUP.out.symm.trans h.1) (by simp)⟩,HT.out⟩
  case rest =>
   obtain ⟨b,rfl,hb,T1⟩:=hcut
   clear T0
   cases b with
   | true =>
    have HNO:=hid (takeB_no (d:=d) (ts:=ts) (m:=(⟨kd,fm,tw,ep,le,ta,x,ss⟩ : MgD)) (fun hh=>by have:=hb.2 hh;cases this))
    clear hb
    have hT9:=T1
    obtain ⟨y0,y1,y2,y3,y4,y5,y6,y7,y8,y9,y10,y11⟩:=cf12 hT9.D
    have R4:=HR1.out.block (hT9.hb.block (w.heap.size + 3) (by have:=HZ1.out;omega))
    have HT9:=hid hT9
    clear hT9
    go_wp2_with (refine wpList_store_cf rfl 46 (.tmp 6) (.tmp 40) rfl (w.heap.size + 3) [.int .i64 0,.bool false,.int .i64 0,.int .i64 0,.int .i64 0,.int .i64 0,.slice none 0 0,.slice none 0 0,.slice none 0 0,.slice none 0 0,.slice none 0 0,.slice none 0 0,.slice none 0 0] [.int .i64 d.wk,.bool d.up,.int .i64 d.now,.int .i64 d.sn,.int .i64 d.ep,.int .i64 d.gv,.slice h'.a1 d.L1.length h'.c1,.slice h'.a2 d.L2.length h'.c2,.slice h'.ar d.R.length h'.cr,.slice h'.aj d.J.length h'.cj,.slice h'.az d.S.length h'.cs,.slice h'.ao d.O.length h'.co,.slice none 0 0] rfl rfl R4 rfl Tryz.sizeLd (one13 _ _ _ _ _ _ _ _ _ _ _ _ _ _ _ _ _ _ _ _ _ _ _ _ _ _ _) ?_;intro w10 hc10 hg10)
    obtain ⟨k0,k1,k2,k3,k4,k5,k6,k7,k8,k9,k10,k11,k12⟩:=cf13 hc10
    have hLF : BossO w10 w1.heap.size d h':=HT9.out.bo.blk (fun r hr k hk=>hg10.block k (HT9.out.bo.lo r hr k hk).2 (fun e=>by
     injection e with e
     have:=HT9.out.bo.lo r hr k hk
     have:=HZ1.out
     omega))
    have B4:=HB1.out.trans (HT9.out.hb.mono HB1.out.size)
    exact bodyPost_ret (v:=.agg #[.int .i64 d.wk,.bool d.up,.int .i64 d.now,.int .i64 d.sn,.int .i64 d.ep,.int .i64 d.gv,.slice h'.a1 d.L1.length h'.c1,.slice h'.a2 d.L2.length h'.c2,.slice h'.ar d.R.length h'.cr,.slice h'.aj d.J.length h'.cj,.slice h'.az d.S.length h'.cs,.slice h'.ao d.O.length h'.co,.slice none 0 0]) (by simp [results,Tryz.results7,go_sem,k0,k1,k2,k3,k4,k5,k6,k7,k8,k9,k10,k11,k12]) rfl ⟨⟨d,h',.slice none 0 0,[],[],rfl,⟨hLF.mono HB1.out.size,MsO.nil _ _,fun r hr=>Dj.symm (.inl rfl),fun r hr j hj=>absurd hj (by simp)⟩,.inl ⟨HV.out,by rw [HNO.out]⟩⟩,below_grown B4 hg10 (by have:=HT9.out.hb.size;have:=HZ1.out;omega) (fun q hq=>by simp at hq;omega)⟩
   | false =>
    have HC:=hid (hb.1 rfl)
    clear hb
    have F:=BD.upFs HV.out HC.out.1
    have hv:=HC.out.2.1
    have htw0:=HC.out.2.2.1
    have hfw:=HC.out.2.2.2
    have hsz:=F.s
    have HT:=hid T1
    have n0 : wc.cell? ⟨w.heap.size + 2,0,none⟩ = some (.int .i64 kd):=keepB HT.out.hb ((HM1.out 0 (by simp)).1)
    have n1 : wc.cell? ⟨w.heap.size + 2,1,none⟩ = some (.int .i64 fm):=keepB HT.out.hb ((HM1.out 1 (by simp)).1)
    have n2 : wc.cell? ⟨w.heap.size + 2,2,none⟩ = some (.int .i64 tw):=keepB HT.out.hb ((HM1.out 2 (by simp)).1)
    have n3 : wc.cell? ⟨w.heap.size + 2,3,none⟩ = some (.int .i64 ep):=keepB HT.out.hb ((HM1.out 3 (by simp)).1)
    have n4 : wc.cell? ⟨w.heap.size + 2,4,none⟩ = some (.int .i64 le):=keepB HT.out.hb ((HM1.out 4 (by simp)).1)
    have n5 : wc.cell? ⟨w.heap.size + 2,5,none⟩ = some (.int .i64 ta):=keepB HT.out.hb ((HM1.out 5 (by simp)).1)
    have n6 : wc.cell? ⟨w.heap.size + 2,6,none⟩ = some (.string x):=keepB HT.out.hb ((HM1.out 6 (by simp)).1)
    have n7 : wc.cell? ⟨w.heap.size + 2,7,none⟩ = some (.slice ua ss.length uc):=keepB HT.out.hb ((HM1.out 7 (by simp)).1)
    unfold vM at hv
    rcases hv with hv | hv | hv | hv | hv
    ·omega
    ·obtain ⟨rfl,hv⟩:=hv
     have HBK:=hid (takeB_2 (d:=d) (ts:=ts) (m:=(⟨2,fm,tw,ep,le,ta,x,ss⟩ : MgD)) ⟨HC.out.1,HC.out.2.1,htw0,hfw⟩ rfl)
     obtain ⟨bj,oj,_,hje,_,_⟩:=T1.bo.o3.set3 (i:=0) (by have:=F.j;have:=F.t.1;omega)
     have HAJ:=hid (show h'.aj = some ⟨bj,oj,none⟩ by injection hje with e1 e2 e3)
     have hnow:=F.now
     have hJl : d.J.length ≤ 40:=by have:=F.j;have:=F.t;omega
     clear hje T1 htw0 hfw hv F hsz
     go_wp2_with fail
     clear n0 n1 n2 n3 n4 n5 n6 n7
     go_loopw [11] (fun xv wr=>∃ i : Nat,i ≤ d.J.length ∧ xv = .int .i64 i ∧ TkS w1 w1.heap.size Q7 [] ⟨d.wk,d.up,d.now,d.sn,d.ep,d.gv,d.L1,d.L2,d.R,jM (beatJ le d.now) d.J i,d.S,d.O⟩ h' wr) (fun xv _=>d.J.length - (intOf xv).toNat)
     case atStart=>exact ⟨0,Nat.zero_le _,rfl,by rw [jM_zero];exact HT.out⟩
     case round =>
      clear HT
      obtain ⟨i,hi,rfl,hs⟩:=hrel
      have HT:=hid hs
      by_cases hlt : i < d.J.length
      case pos =>
       have hlt' : (i : Int) < (d.J.length : Int):=by omega
       have hl : i < (jM (beatJ le d.now) d.J i).length:=by rw [jM_len];exact hlt
       obtain ⟨lea,hlea⟩ : ∃ q,q = (t3 d.J i).1:=⟨_,rfl⟩
       have y9 : wr.cell? ⟨Q7,9,none⟩ = some (.slice (some ⟨bj,oj,none⟩) d.J.length h'.cj):=by
        rw [← HAJ.out,← jM_len (beatJ le d.now) d.J i];exact (hs.D 9 (by simp [bvs])).1
       obtain ⟨bu,ou,cu,hue,huc,huf,huset⟩:=hs.bo.o3.set3u (i:=i) hl
       have eu : h'.aj = some ⟨bu,ou,none⟩:=by injection hue with e1 e2 e3
       have e2:=HAJ.out.symm.trans eu
       injection e2 with e2
       injection e2 with e3 e4
       subst e3 e4
       have jc0 : wr.cell? ⟨bj,oj + i * 3,none⟩ = some (.int .i64 lea):=by
        rcases hs.bo.o3 with ⟨hx,_⟩ | ⟨g',o'',cap',hx,hc⟩
        ·rw [HAJ.out] at hx;cases hx
        ·rw [HAJ.out] at hx
         injection hx with e1 e2 e3
         injection e1 with e1
         injection e1 with e4 e5
         subst e4 e5
         have h7:=hc.holds (i * 3 + 0) (by show i * 3 + 0 < (jM (beatJ le d.now) d.J i).length * 3;omega)
         rw [show oj + (i * 3 + 0) = oj + i * 3 by omega] at h7
         rw [h7,hlea,← jM_get (f:=(beatJ le d.now)) hlt]
         exact c3_get (jM (beatJ le d.now) d.J i) i 0 hl (by omega)
       have hS9 : wr.cell? ⟨Q7,9,none⟩ = some (.slice (some ⟨bj,oj,none⟩) d.J.length h'.cj) ∧ wr.cell? ⟨bj,oj + i * 3,none⟩ = some (.int .i64 lea) ∧ wr.cell? ⟨w.heap.size + 2,4,none⟩ = some (.int .i64 le):=⟨y9,jc0,keepB hs.hb ((HM1.out 4 (by simp)).1)⟩
       have HS9:=hid hS9
       have HUC:=hid (And.intro huc (And.intro huf (huset (d.now + 12))))
       have HLE:=hid hlea
       clear hS9 jc0 hue eu huc huf huset hlea hs
       go_upto_region 19 with fail
       have hS9:=HS9.out
       clear y9 HS9
       refine wp_region_held (S:=fun w'=>w'.cell? ⟨Q7,9,none⟩ = some (.slice (some ⟨bj,oj,none⟩) d.J.length h'.cj) ∧ w'.cell? ⟨bj,oj + i * 3,none⟩ = some (.int .i64 lea) ∧ w'.cell? ⟨w.heap.size + 2,4,none⟩ = some (.int .i64 le)) (by kernel_rfl) ?_
       change wpAnyH _ _ _ _ _ _ _ _ (World.drew _)
       have hS0 : wr.drew.cell? ⟨Q7,9,none⟩ = some (.slice (some ⟨bj,oj,none⟩) d.J.length h'.cj) ∧ wr.drew.cell? ⟨bj,oj + i * 3,none⟩ = some (.int .i64 lea) ∧ wr.drew.cell? ⟨w.heap.size + 2,4,none⟩ = some (.int .i64 le):=hS9
       have T5:=HT.out.below (Below.refl wr.heap.size wr).drew
       have huc5 : wr.drew.cell? ⟨bj,oj + i * 3 + 2,none⟩ = some (.int .i64 (t3 (jM (beatJ le d.now) d.J i) i).2.2):=HUC.out.1
       have huf5 : wr.drew.frozen? ⟨bj,oj + i * 3 + 2,none⟩ = false:=HUC.out.2.1
       have HST5 : Hid (Own w1.heap.size (wr.drew.setCell ⟨bj,oj + i * 3 + 2,none⟩ (.int .i64 (d.now + 12))) 3 (.slice h'.aj (jM (beatJ le d.now) d.J i).length h'.cj) (jM (beatJ le d.now) d.J i).length (c3 ((jM (beatJ le d.now) d.J i).set i ((t3 (jM (beatJ le d.now) d.J i) i).1,(t3 (jM (beatJ le d.now) d.J i) i).2.1,d.now + 12)))):=HUC.out.2.2.blk (fun q _=>rfl)
       obtain ⟨x0,hx0⟩ : ∃ U,U = wr.drew:=⟨_,rfl⟩
       rw [← hx0] at hS0 T5 huc5 huf5 HST5
       rw [← hx0]
       clear hx0 hS9 HT HUC
       by_cases hle : lea = le
       ·have hq1 : (lea == le) = true:=by simpa using hle
        refine hTk (i:=0) (d:=some 85) (v:=.pointer (some ⟨Q7,9,none⟩)) (l':=(bt 9 1)) rfl (fun _ hc=>run_faB8 (.tmp 7) (by kernel_rfl) (by kernel_rfl)) hS0 ?_
        refine hTk (i:=1) (d:=some 86) (v:=(.slice (some ⟨bj,oj,none⟩) d.J.length h'.cj)) (l':=(bt 9 3)) rfl (fun _ hc=>run_ldJsB (.tmp 85) (by kernel_rfl) (by kernel_rfl) hc.1) hS0 ?_
        refine hTk (i:=2) (d:=some 87) (v:=.int .i64 (i : Nat)) (l':=(bt 9 7)) rfl (fun _ hc=>run_mvF (.tmp 11) (by kernel_rfl) (by kernel_rfl)) hS0 ?_
        refine hTk (i:=3) (d:=some 88) (v:=.pointer (some ⟨bj,oj + i * 3,none⟩)) (l':=(bt 9 15)) rfl (fun _ hc=>run_ixJ (.tmp 86) (.tmp 87) bj oj d.J.length h'.cj i (by kernel_rfl) (by kernel_rfl) (by kernel_rfl) hlt) hS0 ?_
        refine hTk (i:=4) (d:=some 89) (v:=.pointer (some ⟨bj,oj + i * 3,none⟩)) (l':=(bt 9 31)) rfl (fun _ hc=>run_faJ0 (.tmp 88) (by kernel_rfl) (by kernel_rfl)) hS0 ?_
        refine hTk (i:=5) (d:=some 90) (v:=.int .i64 lea) (l':=(bt 9 63)) rfl (fun _ hc=>run_ldInB (.tmp 89) (by kernel_rfl) (by kernel_rfl) hc.2.1) hS0 ?_
        refine hTk (i:=6) (d:=some 91) (v:=.pointer (some ⟨w.heap.size + 2,4,none⟩)) (l':=(bt 9 127)) rfl (fun _ hc=>run_fM4 (.tmp 5) (by kernel_rfl) (by kernel_rfl)) hS0 ?_
        refine hTk (i:=7) (d:=some 92) (v:=.int .i64 le) (l':=(bt 9 255)) rfl (fun _ hc=>run_ldInB (.tmp 91) (by kernel_rfl) (by kernel_rfl) hc.2.2) hS0 ?_
        refine hTk (i:=8) (d:=some 93) (v:=.bool true) (l':=(bt 9 511)) rfl (fun _ hc=>run_eqB (.tmp 90) (.tmp 92) lea le true (by kernel_rfl) (by kernel_rfl) (by kernel_rfl) hq1) hS0 ?_
        refine wpAnyH_done (by kernel_rfl) ?_ _
        have hrj : rowJ ⟨d.wk,d.up,d.now,d.sn,d.ep,d.gv,d.L1,d.L2,d.R,jM (beatJ le d.now) d.J i,d.S,d.O⟩ h' = some bj:=by unfold rowJ;rw [HAJ.out];rfl
        have g5 : x0.grownBy (x0.setCell ⟨bj,oj + i * 3 + 2,none⟩ (.int .i64 (d.now + 12))) (rowJ ⟨d.wk,d.up,d.now,d.sn,d.ep,d.gv,d.L1,d.L2,d.R,jM (beatJ le d.now) d.J i,d.S,d.O⟩ h'):=by rw [hrj];exact gset (World.grownBy.refl x0 _) _ _
        have T6:=T5.setJ (J:=jM (beatJ le d.now) d.J (i + 1)) (by rw [jM_len,jM_len]) g5 (by
         have e9 : (jM (beatJ le d.now) d.J i).set i ((t3 (jM (beatJ le d.now) d.J i) i).1,(t3 (jM (beatJ le d.now) d.J i) i).2.1,d.now + 12) = jM (beatJ le d.now) d.J (i + 1):=by
          rw [← jM_set hlt,jM_get hlt]
          unfold beatJ
          rw [if_pos (by rw [← HLE.out];exact hle)]
         rw [← e9];exact HST5.out)
        have HT6:=hid T6
        have y9 : x0.cell? ⟨Q7,9,none⟩ = some (.slice (some ⟨bj,oj,none⟩) d.J.length h'.cj):=hS0.1
        have y2 : x0.cell? ⟨Q7,2,none⟩ = some (.int .i64 d.now):=(T5.D 2 (by simp [bvs])).1
        clear hS0 T6 T5 hrj g5 HST5 hle
        go_simp
        go_wp2_with fail
        go_roundw
        case rel=>exact ⟨i + 1,by omega,by go_num,HT6.out⟩
        case measure=>simp [intOf];omega
       ·have hq1 : (lea == le) = false:=by simpa using hle
        refine hTk (i:=0) (d:=some 85) (v:=.pointer (some ⟨Q7,9,none⟩)) (l':=(bt 9 1)) rfl (fun _ hc=>run_faB8 (.tmp 7) (by kernel_rfl) (by kernel_rfl)) hS0 ?_
        refine hTk (i:=1) (d:=some 86) (v:=(.slice (some ⟨bj,oj,none⟩) d.J.length h'.cj)) (l':=(bt 9 3)) rfl (fun _ hc=>run_ldJsB (.tmp 85) (by kernel_rfl) (by kernel_rfl) hc.1) hS0 ?_
        refine hTk (i:=2) (d:=some 87) (v:=.int .i64 (i : Nat)) (l':=(bt 9 7)) rfl (fun _ hc=>run_mvF (.tmp 11) (by kernel_rfl) (by kernel_rfl)) hS0 ?_
        refine hTk (i:=3) (d:=some 88) (v:=.pointer (some ⟨bj,oj + i * 3,none⟩)) (l':=(bt 9 15)) rfl (fun _ hc=>run_ixJ (.tmp 86) (.tmp 87) bj oj d.J.length h'.cj i (by kernel_rfl) (by kernel_rfl) (by kernel_rfl) hlt) hS0 ?_
        refine hTk (i:=4) (d:=some 89) (v:=.pointer (some ⟨bj,oj + i * 3,none⟩)) (l':=(bt 9 31)) rfl (fun _ hc=>run_faJ0 (.tmp 88) (by kernel_rfl) (by kernel_rfl)) hS0 ?_
        refine hTk (i:=5) (d:=some 90) (v:=.int .i64 lea) (l':=(bt 9 63)) rfl (fun _ hc=>run_ldInB (.tmp 89) (by kernel_rfl) (by kernel_rfl) hc.2.1) hS0 ?_
        refine hTk (i:=6) (d:=some 91) (v:=.pointer (some ⟨w.heap.size + 2,4,none⟩)) (l':=(bt 9 127)) rfl (fun _ hc=>run_fM4 (.tmp 5) (by kernel_rfl) (by kernel_rfl)) hS0 ?_
        refine hTk (i:=7) (d:=some 92) (v:=.int .i64 le) (l':=(bt 9 255)) rfl (fun _ hc=>run_ldInB (.tmp 91) (by kernel_rfl) (by kernel_rfl) hc.2.2) hS0 ?_
        refine hTk (i:=8) (d:=some 93) (v:=.bool false) (l':=(bt 9 511)) rfl (fun _ hc=>run_eqB (.tmp 90) (.tmp 92) lea le false (by kernel_rfl) (by kernel_rfl) (by kernel_rfl) hq1) hS0 ?_
        refine wpAnyH_done (by kernel_rfl) ?_ _
        have HT6:=hid (show TkS w1 w1.heap.size Q7 [] ⟨d.wk,d.up,d.now,d.sn,d.ep,d.gv,d.L1,d.L2,d.R,jM (beatJ le d.now) d.J (i + 1),d.S,d.O⟩ h' x0 by rw [jM_same hlt (by unfold beatJ;rw [if_neg (by rw [← HLE.out];exact hle)])];exact T5)
        clear hS0 T5 huc5 huf5 HST5 hle
        go_simp
        go_wp2_with fail
        go_roundw
        case rel=>exact ⟨i + 1,by omega,by go_num,HT6.out⟩
        case measure=>simp [intOf];omega
      case neg =>
       obtain rfl : i = d.J.length:=by omega
       have hlt' : ¬ (d.J.length : Int) < (d.J.length : Int):=by omega
       obtain ⟨dB,hdB⟩ : ∃ q,q = beatB d (⟨2,fm,tw,ep,le,ta,x,ss⟩ : MgD):=⟨_,rfl⟩
       have T9 : TkS w1 w1.heap.size Q7 [] dB h' wr:=by
        rw [hdB];unfold beatB;dsimp only;rw [← jM_all];exact hs
       have y9 : wr.cell? ⟨Q7,9,none⟩ = some (.slice (some ⟨bj,oj,none⟩) d.J.length h'.cj):=by
        rw [← HAJ.out,← jM_len (beatJ le d.now) d.J d.J.length];exact (hs.D 9 (by simp [bvs])).1
       have HDB:=hid hdB
       clear hdB hs HT
       go_upto_region 23 with fail
       clear y9
       have hT9:=T9
       obtain ⟨y0,y1,y2,y3,y4,y5,y6,y7,y8,y9,y10,y11⟩:=cf12 hT9.D
       have R4:=HR1.out.block (hT9.hb.block (w.heap.size + 3) (by have:=HZ1.out;omega))
       have HT9:=hid hT9
       clear hT9
       go_wp2_with (refine wpList_store_cf rfl 46 (.tmp 6) (.tmp 109) rfl (w.heap.size + 3) [.int .i64 0,.bool false,.int .i64 0,.int .i64 0,.int .i64 0,.int .i64 0,.slice none 0 0,.slice none 0 0,.slice none 0 0,.slice none 0 0,.slice none 0 0,.slice none 0 0,.slice none 0 0] [.int .i64 dB.wk,.bool dB.up,.int .i64 dB.now,.int .i64 dB.sn,.int .i64 dB.ep,.int .i64 dB.gv,.slice h'.a1 dB.L1.length h'.c1,.slice h'.a2 dB.L2.length h'.c2,.slice h'.ar dB.R.length h'.cr,.slice h'.aj dB.J.length h'.cj,.slice h'.az dB.S.length h'.cs,.slice h'.ao dB.O.length h'.co,.slice none 0 0] rfl rfl R4 rfl Tryz.sizeLd (one13 _ _ _ _ _ _ _ _ _ _ _ _ _ _ _ _ _ _ _ _ _ _ _ _ _ _ _) ?_;intro w10 hc10 hg10)
       obtain ⟨k0,k1,k2,k3,k4,k5,k6,k7,k8,k9,k10,k11,k12⟩:=cf13 hc10
       have hLF : BossO w10 w1.heap.size dB h':=HT9.out.bo.blk (fun r hr k hk=>hg10.block k (HT9.out.bo.lo r hr k hk).2 (fun e=>by
        injection e with e
        have:=HT9.out.bo.lo r hr k hk
        have:=HZ1.out
        omega))
       have B4:=HB1.out.trans (HT9.out.hb.mono HB1.out.size)
       exact bodyPost_ret (v:=.agg #[.int .i64 dB.wk,.bool dB.up,.int .i64 dB.now,.int .i64 dB.sn,.int .i64 dB.ep,.int .i64 dB.gv,.slice h'.a1 dB.L1.length h'.c1,.slice h'.a2 dB.L2.length h'.c2,.slice h'.ar dB.R.length h'.cr,.slice h'.aj dB.J.length h'.cj,.slice h'.az dB.S.length h'.cs,.slice h'.ao dB.O.length h'.co,.slice none 0 0]) (by simp [results,Tryz.results7,go_sem,k0,k1,k2,k3,k4,k5,k6,k7,k8,k9,k10,k11,k12]) rfl ⟨⟨dB,h',.slice none 0 0,[],[],rfl,⟨hLF.mono HB1.out.size,MsO.nil _ _,fun r hr=>Dj.symm (.inl rfl),fun r hr j hj=>absurd hj (by simp)⟩,.inl ⟨HV.out,by rw [HBK.out,HDB.out]⟩⟩,below_grown B4 hg10 (by have:=HT9.out.hb.size;have:=HZ1.out;omega) (fun q hq=>by simp at hq;omega)⟩
    ·obtain ⟨rfl,hv⟩:=hv
     obtain ⟨k,rfl⟩ : ∃ k : Nat,fm = (k : Int) + 1:=⟨(fm - 1).toNat,by omega⟩
     obtain ⟨t,rfl⟩ : ∃ t : Nat,ta = (t : Int):=⟨ta.toNat,by omega⟩
     have HRS:=hid (l5Result_any w1 w1.heap.size d h' (some ⟨pb,po,none⟩) pb po pc ts 3 tw ep le k t x ss ua ss.length uc wc T1.bo T1.hb ⟨Nat.le_refl _,T1.hb.size⟩ hf.out (by omega) (HT1.out.below' T1.hb) F.t.2.2 F.r F.j F.t.2.1 (by omega) (by omega) (by omega) F.ep F.l F.o)
     obtain ⟨y0,y1,y2,y3,y4,y5,y6,y7,y8,y9,y10,y11⟩:=cf12 T1.D
     have kp : wc.cell? ⟨w.heap.size + 1,0,none⟩ = some (.slice (some ⟨pb,po,none⟩) ts.length pc):=keepB T1.hb ((HL1.out 0 (by simp)).1)
     have HTK:=hid (takeB_3 (d:=d) (ts:=ts) (m:=(⟨3,(k : Int) + 1,tw,ep,le,(t : Int),x,ss⟩ : MgD)) ⟨HC.out.1,HC.out.2.1,htw0,hfw⟩ rfl)
     obtain ⟨dR,hdR⟩ : ∃ q,q = resB d ts (⟨3,(k : Int) + 1,tw,ep,le,(t : Int),x,ss⟩ : MgD):=⟨_,rfl⟩
     rw [← hdR] at HRS HTK
     clear T1 hdR htw0 hfw hv F hsz
     go_wp2_with fail
     refine HRS.out.mono ?_
     rintro e w5 ⟨h5,he,hbo5,hb5,hg5,hr5⟩
     have he' : e = .returned (.agg #[.int .i64 dR.wk,.bool dR.up,.int .i64 dR.now,.int .i64 dR.sn,.int .i64 dR.ep,.int .i64 dR.gv,.slice h5.a1 dR.L1.length h5.c1,.slice h5.a2 dR.L2.length h5.c2,.slice h5.ar dR.R.length h5.cr,.slice h5.aj dR.J.length h5.cj,.slice h5.az dR.S.length h5.cs,.slice h5.ao dR.O.length h5.co]):=he
     clear he
     subst he'
     have hq7:=HT.out.q
     have hz5:=hg5.size
     have hC5 : CF w5 Q7 [.int .i64 d.wk,.bool d.up,.int .i64 d.now,.int .i64 d.sn,.int .i64 d.ep,.int .i64 d.gv,.slice h'.a1 d.L1.length h'.c1,.slice h'.a2 d.L2.length h'.c2,.slice h'.ar d.R.length h'.cr,.slice h'.aj d.J.length h'.cj,.slice h'.az d.S.length h'.cs,.slice h'.ao d.O.length h'.co]:=by
      have h6 : CF wc Q7 [.int .i64 d.wk,.bool d.up,.int .i64 d.now,.int .i64 d.sn,.int .i64 d.ep,.int .i64 d.gv,.slice h'.a1 d.L1.length h'.c1,.slice h'.a2 d.L2.length h'.c2,.slice h'.ar d.R.length h'.cr,.slice h'.aj d.J.length h'.cj,.slice h'.az d.S.length h'.cs,.slice h'.ao d.O.length h'.co]:=by have:=HT.out.D;rw [List.append_nil] at this;exact this
      exact h6.block (hg5.block Q7 hq7.2.1 (fun r hr e=>HT.out.nr r hr e))
     have HG5:=hid (And.intro hbo5 (And.intro hb5 hr5))
     clear n0 n1 n2 n3 n4 n5 n6 n7
     clear y0 y1 y2 y3 y4 y5 y6 y7 y8 y9 y10 y11 kp HRS hbo5 hb5 hg5 hr5
     go_upto_region 23 with (refine wpList_store_cf rfl 43 (.tmp 7) (.tmp 107) rfl Q7 [.int .i64 d.wk,.bool d.up,.int .i64 d.now,.int .i64 d.sn,.int .i64 d.ep,.int .i64 d.gv,.slice h'.a1 d.L1.length h'.c1,.slice h'.a2 d.L2.length h'.c2,.slice h'.ar d.R.length h'.cr,.slice h'.aj d.J.length h'.cj,.slice h'.az d.S.length h'.cs,.slice h'.ao d.O.length h'.co] [.int .i64 dR.wk,.bool dR.up,.int .i64 dR.now,.int .i64 dR.sn,.int .i64 dR.ep,.int .i64 dR.gv,.slice h5.a1 dR.L1.length h5.c1,.slice h5.a2 dR.L2.length h5.c2,.slice h5.ar dR.R.length h5.cr,.slice h5.aj dR.J.length h5.cj,.slice h5.az dR.S.length h5.cs,.slice h5.ao dR.O.length h5.co] rfl rfl hC5 rfl Tryz.sizeBo (one12b _ _ _ _ _ _ _ _ _ _ _ _ _ _ _ _ _ _ _ _ _ _ _ _) ?_;intro w9 hc9 hg9)
     have T9 : TkS w1 w1.heap.size Q7 [] dR h5 w9:=by
      obtain ⟨hbo5,hb5,hr5⟩:=HG5.out
      have hnr : ∀ r ∈ rowsB dR h5,r ≠ some Q7:=fun r hr e=>by
       rcases hr5 r hr with h6 | h6
       ·exact HT.out.nr r h6 e
       ·have:=h6 Q7 e;omega
      exact ⟨hbo5.blk (fun r hr q e=>hg9.block q (hbo5.lo r hr q e).2 (fun e'=>hnr r hr (e.trans e'))),by rw [List.append_nil];exact hc9,hb5.grown hg9 (by omega) (fun q e=>by injection e with e;omega),hnr,⟨hq7.1,by have:=hg9.size;omega,hq7.2.2⟩⟩
     clear hC5 HG5 hc9 hg9
     have hT9:=T9
     obtain ⟨y0,y1,y2,y3,y4,y5,y6,y7,y8,y9,y10,y11⟩:=cf12 hT9.D
     have R4:=HR1.out.block (hT9.hb.block (w.heap.size + 3) (by have:=HZ1.out;omega))
     have HT9:=hid hT9
     clear hT9
     go_wp2_with (refine wpList_store_cf rfl 46 (.tmp 6) (.tmp 109) rfl (w.heap.size + 3) [.int .i64 0,.bool false,.int .i64 0,.int .i64 0,.int .i64 0,.int .i64 0,.slice none 0 0,.slice none 0 0,.slice none 0 0,.slice none 0 0,.slice none 0 0,.slice none 0 0,.slice none 0 0] [.int .i64 dR.wk,.bool dR.up,.int .i64 dR.now,.int .i64 dR.sn,.int .i64 dR.ep,.int .i64 dR.gv,.slice h5.a1 dR.L1.length h5.c1,.slice h5.a2 dR.L2.length h5.c2,.slice h5.ar dR.R.length h5.cr,.slice h5.aj dR.J.length h5.cj,.slice h5.az dR.S.length h5.cs,.slice h5.ao dR.O.length h5.co,.slice none 0 0] rfl rfl R4 rfl Tryz.sizeLd (one13 _ _ _ _ _ _ _ _ _ _ _ _ _ _ _ _ _ _ _ _ _ _ _ _ _ _ _) ?_;intro w10 hc10 hg10)
     obtain ⟨k0,k1,k2,k3,k4,k5,k6,k7,k8,k9,k10,k11,k12⟩:=cf13 hc10
     have hLF : BossO w10 w1.heap.size dR h5:=HT9.out.bo.blk (fun r hr k hk=>hg10.block k (HT9.out.bo.lo r hr k hk).2 (fun e=>by
      injection e with e
      have:=HT9.out.bo.lo r hr k hk
      have:=HZ1.out
      omega))
     have B4:=HB1.out.trans (HT9.out.hb.mono HB1.out.size)
     exact bodyPost_ret (v:=.agg #[.int .i64 dR.wk,.bool dR.up,.int .i64 dR.now,.int .i64 dR.sn,.int .i64 dR.ep,.int .i64 dR.gv,.slice h5.a1 dR.L1.length h5.c1,.slice h5.a2 dR.L2.length h5.c2,.slice h5.ar dR.R.length h5.cr,.slice h5.aj dR.J.length h5.cj,.slice h5.az dR.S.length h5.cs,.slice h5.ao dR.O.length h5.co,.slice none 0 0]) (by simp [results,Tryz.results7,go_sem,k0,k1,k2,k3,k4,k5,k6,k7,k8,k9,k10,k11,k12]) rfl ⟨⟨dR,h5,.slice none 0 0,[],[],rfl,⟨hLF.mono HB1.out.size,MsO.nil _ _,fun r hr=>Dj.symm (.inl rfl),fun r hr j hj=>absurd hj (by simp)⟩,.inl ⟨HV.out,by rw [HTK.out]⟩⟩,below_grown B4 hg10 (by have:=HT9.out.hb.size;have:=HZ1.out;omega) (fun q hq=>by simp at hq;omega)⟩
    ·omega
    ·obtain ⟨rfl,hv⟩:=hv
     obtain ⟨k,rfl⟩ : ∃ k : Nat,fm = (k : Int) + 1:=⟨(fm - 1).toNat,by omega⟩
     have HHK:=hid (takeB_5 (d:=d) (ts:=ts) (m:=(⟨5,(k : Int) + 1,tw,ep,le,ta,x,ss⟩ : MgD)) ⟨HC.out.1,HC.out.2.1,htw0,hfw⟩ rfl)
     obtain ⟨bj,oj,_,hje,_,_⟩:=T1.bo.o3.set3 (i:=0) (by have:=F.j;have:=F.t.1;omega)
     have HAJ:=hid (show h'.aj = some ⟨bj,oj,none⟩ by injection hje with e1 e2 e3)
     have hJl : d.J.length ≤ 40:=by have:=F.j;have:=F.t;omega
     have HFR:=hid (l5Free_any d h' 5 tw ep le ta k x ua ss.length uc w1.heap.size wc T1.bo (by omega) (by omega))
     obtain ⟨y0,y1,y2,y3,y4,y5,y6,y7,y8,y9,y10,y11⟩:=cf12 T1.D
     clear hje T1 htw0 hfw hv F hsz
     go_wp2_with fail
     refine HFR.out.mono ?_
     rintro _ w5 ⟨S',r,rfl,hfr,hSl,hbo,hgr⟩
     clear n0 n1 n2 n3 n4 n5 n6 n7
     clear y0 y1 y2 y3 y4 y5 y6 y7 y8 y9 y10 y11 HFR
     have hq7:=HT.out.q
     have hz5:=hgr.size
     have hC5 : CF w5 Q7 [.int .i64 d.wk,.bool d.up,.int .i64 d.now,.int .i64 d.sn,.int .i64 d.ep,.int .i64 d.gv,.slice h'.a1 d.L1.length h'.c1,.slice h'.a2 d.L2.length h'.c2,.slice h'.ar d.R.length h'.cr,.slice h'.aj d.J.length h'.cj,.slice h'.az d.S.length h'.cs,.slice h'.ao d.O.length h'.co]:=by
      have h6 : CF wc Q7 [.int .i64 d.wk,.bool d.up,.int .i64 d.now,.int .i64 d.sn,.int .i64 d.ep,.int .i64 d.gv,.slice h'.a1 d.L1.length h'.c1,.slice h'.a2 d.L2.length h'.c2,.slice h'.ar d.R.length h'.cr,.slice h'.aj d.J.length h'.cj,.slice h'.az d.S.length h'.cs,.slice h'.ao d.O.length h'.co]:=by have:=HT.out.D;rw [List.append_nil] at this;exact this
      exact h6.block (hgr.block Q7 hq7.2.1 (fun z hz e=>by rw [List.mem_singleton.1 hz] at e;exact HT.out.nr _ (rowS_mem d h') e))
     have hB5 : Below w1.heap.size w1 w5:=Grew.below HT.out.hb hgr (by omega) (fun z hz q e=>by rw [List.mem_singleton.1 hz] at e;exact (HT.out.bo.lo _ (rowS_mem d h') q e).1)
     have HFS:=hid hfr
     have HSL:=hid hSl
     have HBO:=hid hbo
     clear hgr hfr hSl hbo
     go_upto_region 9 with fail
     obtain ⟨W8,hW8⟩ : ∃ V,V = w5.alloc (.cells #[.int .i64 d.wk,.bool d.up,.int .i64 d.now,.int .i64 d.sn,.int .i64 d.ep,.int .i64 d.gv,.slice h'.a1 d.L1.length h'.c1,.slice h'.a2 d.L2.length h'.c2,.slice h'.ar d.R.length h'.cr,.slice h'.aj d.J.length h'.cj,.slice h'.az d.S.length h'.cs,.slice h'.ao d.O.length h'.co] 43):=⟨_,rfl⟩
     obtain ⟨Q8,hQ8⟩ : ∃ q,q = w5.heap.size:=⟨_,rfl⟩
     have hb8 : Below w5.heap.size w5 W8:=by rw [hW8];exact (Below.refl _ _).alloc (Nat.le_refl _) _
     have c8 : CF W8 Q8 [.int .i64 d.wk,.bool d.up,.int .i64 d.now,.int .i64 d.sn,.int .i64 d.ep,.int .i64 d.gv,.slice h'.a1 d.L1.length h'.c1,.slice h'.a2 d.L2.length h'.c2,.slice h'.ar d.R.length h'.cr,.slice h'.aj d.J.length h'.cj,.slice h'.az d.S.length h'.cs,.slice h'.ao d.O.length h'.co]:=by rw [hW8,hQ8];exact CF.made w5 #[.int .i64 d.wk,.bool d.up,.int .i64 d.now,.int .i64 d.sn,.int .i64 d.ep,.int .i64 d.gv,.slice h'.a1 d.L1.length h'.c1,.slice h'.a2 d.L2.length h'.c2,.slice h'.ar d.R.length h'.cr,.slice h'.aj d.J.length h'.cj,.slice h'.az d.S.length h'.cs,.slice h'.ao d.O.length h'.co] 43
     have hC8:=hC5.block (hb8.block Q7 (by omega))
     have hB8:=hB5.trans (hb8.mono (by omega))
     have HBO8:=hid (HBO.out.below hb8)
     have hz8:=hb8.size
     rw [← hW8,← hQ8]
     obtain ⟨y0,y1,y2,y3,y4,y5,y6,y7,y8,y9,y10,y11⟩:=cf12 c8
     clear hW8 hQ8 hb8 hC5 hB5 HBO c8
     go_upto_region 10 with (refine wpList_store_cf rfl 43 (.tmp 7) (.tmp 51) rfl Q7 [.int .i64 d.wk,.bool d.up,.int .i64 d.now,.int .i64 d.sn,.int .i64 d.ep,.int .i64 d.gv,.slice h'.a1 d.L1.length h'.c1,.slice h'.a2 d.L2.length h'.c2,.slice h'.ar d.R.length h'.cr,.slice h'.aj d.J.length h'.cj,.slice h'.az d.S.length h'.cs,.slice h'.ao d.O.length h'.co] [.int .i64 d.wk,.bool d.up,.int .i64 d.now,.int .i64 d.sn,.int .i64 d.ep,.int .i64 d.gv,.slice h'.a1 d.L1.length h'.c1,.slice h'.a2 d.L2.length h'.c2,.slice h'.ar d.R.length h'.cr,.slice h'.aj d.J.length h'.cj,.slice h'.az d.S.length h'.cs,.slice h'.ao d.O.length h'.co] rfl rfl hC8 rfl Tryz.sizeBo (one12b _ _ _ _ _ _ _ _ _ _ _ _ _ _ _ _ _ _ _ _ _ _ _ _) ?_;intro w9 hc9 hg9)
     have T9 : TkS w1 w1.heap.size Q7 [] ⟨d.wk,d.up,d.now,d.sn,d.ep,d.gv,d.L1,d.L2,d.R,d.J,S',d.O⟩ h' w9:=by
      have hrw : rowsB ⟨d.wk,d.up,d.now,d.sn,d.ep,d.gv,d.L1,d.L2,d.R,d.J,S',d.O⟩ h' = rowsB d h':=by unfold rowsB;simp only [HSL.out]
      have hnr : ∀ z ∈ rowsB ⟨d.wk,d.up,d.now,d.sn,d.ep,d.gv,d.L1,d.L2,d.R,d.J,S',d.O⟩ h',z ≠ some Q7:=by rw [hrw];exact HT.out.nr
      refine ⟨HBO8.out.blk (fun r hr q e=>hg9.block q (HBO8.out.lo r hr q e).2 (fun e'=>hnr r hr (e.trans e'))),?_,hB8.grown hg9 (by omega) (fun q e=>by injection e with e;omega),hnr,⟨hq7.1,by have:=hg9.size;omega,hq7.2.2⟩⟩
      rw [List.append_nil]
      unfold bvs
      simp only [HSL.out]
      exact hc9
     clear y0 y1 y2 y3 y4 y5 y6 y7 y8 y9 y10 y11 hC8 hB8 HBO8 hc9 hg9 HT
     rcases HFS.out with ⟨hn,rfl,hSS⟩ | ⟨hn,rfl⟩
     ·have HHB:=hid (show hereB d (⟨5,(k : Int) + 1,tw,ep,le,ta,x,ss⟩ : MgD) = d by unfold hereB;dsimp only;rw [hn])
      rw [hSS] at T9
      have HT:=hid T9
      clear T9 hn hSS HFS HSL
      go_wp2_with fail
      go_loopw [10] (fun xv wr=>xv = .int .i64 0 ∧ TkS w1 w1.heap.size Q7 [] d h' wr) (fun _ _=>0)
      case atStart=>exact ⟨rfl,HT.out⟩
      case round =>
       clear HT
       obtain ⟨rfl,T9⟩:=hrel
       go_upto_region 23 with fail
       have hT9:=T9
       obtain ⟨y0,y1,y2,y3,y4,y5,y6,y7,y8,y9,y10,y11⟩:=cf12 hT9.D
       have R4:=HR1.out.block (hT9.hb.block (w.heap.size + 3) (by have:=HZ1.out;omega))
       have HT9:=hid hT9
       clear hT9
       go_wp2_with (refine wpList_store_cf rfl 46 (.tmp 6) (.tmp 109) rfl (w.heap.size + 3) [.int .i64 0,.bool false,.int .i64 0,.int .i64 0,.int .i64 0,.int .i64 0,.slice none 0 0,.slice none 0 0,.slice none 0 0,.slice none 0 0,.slice none 0 0,.slice none 0 0,.slice none 0 0] [.int .i64 d.wk,.bool d.up,.int .i64 d.now,.int .i64 d.sn,.int .i64 d.ep,.int .i64 d.gv,.slice h'.a1 d.L1.length h'.c1,.slice h'.a2 d.L2.length h'.c2,.slice h'.ar d.R.length h'.cr,.slice h'.aj d.J.length h'.cj,.slice h'.az d.S.length h'.cs,.slice h'.ao d.O.length h'.co,.slice none 0 0] rfl rfl R4 rfl Tryz.sizeLd (one13 _ _ _ _ _ _ _ _ _ _ _ _ _ _ _ _ _ _ _ _ _ _ _ _ _ _ _) ?_;intro w10 hc10 hg10)
       obtain ⟨k0,k1,k2,k3,k4,k5,k6,k7,k8,k9,k10,k11,k12⟩:=cf13 hc10
       have hLF : BossO w10 w1.heap.size d h':=HT9.out.bo.blk (fun r hr k hk=>hg10.block k (HT9.out.bo.lo r hr k hk).2 (fun e=>by
        injection e with e
        have:=HT9.out.bo.lo r hr k hk
        have:=HZ1.out
        omega))
       have B4:=HB1.out.trans (HT9.out.hb.mono HB1.out.size)
       exact bodyPost_ret (v:=.agg #[.int .i64 d.wk,.bool d.up,.int .i64 d.now,.int .i64 d.sn,.int .i64 d.ep,.int .i64 d.gv,.slice h'.a1 d.L1.length h'.c1,.slice h'.a2 d.L2.length h'.c2,.slice h'.ar d.R.length h'.cr,.slice h'.aj d.J.length h'.cj,.slice h'.az d.S.length h'.cs,.slice h'.ao d.O.length h'.co,.slice none 0 0]) (by simp [results,Tryz.results7,go_sem,k0,k1,k2,k3,k4,k5,k6,k7,k8,k9,k10,k11,k12]) rfl ⟨⟨d,h',.slice none 0 0,[],[],rfl,⟨hLF.mono HB1.out.size,MsO.nil _ _,fun r hr=>Dj.symm (.inl rfl),fun r hr j hj=>absurd hj (by simp)⟩,.inl ⟨HV.out,by rw [HHK.out,HHB.out]⟩⟩,below_grown B4 hg10 (by have:=HT9.out.hb.size;have:=HZ1.out;omega) (fun q hq=>by simp at hq;omega)⟩
     ·have HHB:=hid (show hereB d (⟨5,(k : Int) + 1,tw,ep,le,ta,x,ss⟩ : MgD) = ⟨d.wk,d.up,d.now,d.sn,d.ep,d.gv,d.L1,d.L2,d.R,d.J.map (leftJ ((k : Int) + 1)),S',d.O⟩ by unfold hereB;dsimp only;rw [hn])
      have HT:=hid T9
      clear T9 hn HFS
      go_wp2_with fail
      go_loopw [10] (fun xv wr=>∃ i : Nat,i ≤ d.J.length ∧ xv = .int .i64 i ∧ TkS w1 w1.heap.size Q7 [] ⟨d.wk,d.up,d.now,d.sn,d.ep,d.gv,d.L1,d.L2,d.R,jM (leftJ ((k : Int) + 1)) d.J i,S',d.O⟩ h' wr) (fun xv _=>d.J.length - (intOf xv).toNat)
      case atStart=>exact ⟨0,Nat.zero_le _,rfl,by rw [jM_zero];exact HT.out⟩
      case round =>
       clear HT
       obtain ⟨i,hi,rfl,hs⟩:=hrel
       have HT:=hid hs
       by_cases hlt : i < d.J.length
       case pos =>
        have hlt' : (i : Int) < (d.J.length : Int):=by omega
        have hl : i < (jM (leftJ ((k : Int) + 1)) d.J i).length:=by rw [jM_len];exact hlt
        obtain ⟨wrk,hwrk⟩ : ∃ q,q = (t3 d.J i).2.1:=⟨_,rfl⟩
        have y9 : wr.cell? ⟨Q7,9,none⟩ = some (.slice (some ⟨bj,oj,none⟩) d.J.length h'.cj):=by
         rw [← HAJ.out,← jM_len (leftJ ((k : Int) + 1)) d.J i];exact (hs.D 9 (by simp [bvs])).1
        obtain ⟨bu,ou,cu,hue,hth,hset⟩:=hs.bo.o3.set3 (i:=i) hl
        have eu : h'.aj = some ⟨bu,ou,none⟩:=by injection hue with e1 e2 e3
        have e2:=HAJ.out.symm.trans eu
        injection e2 with e2
        injection e2 with e3 e4
        subst e3 e4
        have jc1 : wr.cell? ⟨bj,oj + i * 3 + 1,none⟩ = some (.int .i64 wrk):=by
         rcases hs.bo.o3 with ⟨hx,_⟩ | ⟨g',o'',cap',hx,hc⟩
         ·rw [HAJ.out] at hx;cases hx
         ·rw [HAJ.out] at hx
          injection hx with e1 e2 e3
          injection e1 with e1
          injection e1 with e4 e5
          subst e4 e5
          have h7:=hc.holds (i * 3 + 1) (by show i * 3 + 1 < (jM (leftJ ((k : Int) + 1)) d.J i).length * 3;omega)
          rw [← Nat.add_assoc] at h7
          rw [h7,hwrk,← jM_get (f:=(leftJ ((k : Int) + 1))) hlt]
          exact c3_get (jM (leftJ ((k : Int) + 1)) d.J i) i 1 hl (by omega)
        have hS9 : wr.cell? ⟨Q7,9,none⟩ = some (.slice (some ⟨bj,oj,none⟩) d.J.length h'.cj) ∧ wr.cell? ⟨bj,oj + i * 3 + 1,none⟩ = some (.int .i64 wrk) ∧ wr.cell? ⟨w.heap.size + 2,1,none⟩ = some (.int .i64 ((k : Int) + 1)):=⟨y9,jc1,keepB hs.hb ((HM1.out 1 (by simp)).1)⟩
        have HS9:=hid hS9
        have HUC:=hid (And.intro hth (hset ((0,0,0) : Tr)))
        have HLE:=hid hwrk
        clear hS9 jc1 hue eu hth hset hwrk hs
        go_upto_region 13 with fail
        have hS9:=HS9.out
        clear y9 HS9
        refine wp_region_held (S:=fun w'=>w'.cell? ⟨Q7,9,none⟩ = some (.slice (some ⟨bj,oj,none⟩) d.J.length h'.cj) ∧ w'.cell? ⟨bj,oj + i * 3 + 1,none⟩ = some (.int .i64 wrk) ∧ w'.cell? ⟨w.heap.size + 2,1,none⟩ = some (.int .i64 ((k : Int) + 1))) (by kernel_rfl) ?_
        change wpAnyH _ _ _ _ _ _ _ _ (World.drew _)
        have hS0 : wr.drew.cell? ⟨Q7,9,none⟩ = some (.slice (some ⟨bj,oj,none⟩) d.J.length h'.cj) ∧ wr.drew.cell? ⟨bj,oj + i * 3 + 1,none⟩ = some (.int .i64 wrk) ∧ wr.drew.cell? ⟨w.heap.size + 2,1,none⟩ = some (.int .i64 ((k : Int) + 1)):=hS9
        have T5:=HT.out.below (Below.refl wr.heap.size wr).drew
        have hth5 : wr.drew.there bj (oj + i * 3) 3:=HUC.out.1
        have HST5 : Hid (Own w1.heap.size (wr.drew.setCells bj (oj + i * 3) [.int .i64 0,.int .i64 0,.int .i64 0]) 3 (.slice h'.aj (jM (leftJ ((k : Int) + 1)) d.J i).length h'.cj) (jM (leftJ ((k : Int) + 1)) d.J i).length (c3 ((jM (leftJ ((k : Int) + 1)) d.J i).set i (0,0,0)))):=HUC.out.2.blk (fun q _=>rfl)
        obtain ⟨x0,hx0⟩ : ∃ U,U = wr.drew:=⟨_,rfl⟩
        rw [← hx0] at hS0 T5 hth5 HST5
        rw [← hx0]
        clear hx0 hS9 HT HUC
        by_cases hle : wrk = (k : Int) + 1
        ·have hq1 : (wrk == (k : Int) + 1) = true:=by simpa using hle
         refine hTk (i:=0) (d:=some 62) (v:=.pointer (some ⟨Q7,9,none⟩)) (l':=(bt 9 1)) rfl (fun _ hc=>run_faB8 (.tmp 7) (by kernel_rfl) (by kernel_rfl)) hS0 ?_
         refine hTk (i:=1) (d:=some 63) (v:=(.slice (some ⟨bj,oj,none⟩) d.J.length h'.cj)) (l':=(bt 9 3)) rfl (fun _ hc=>run_ldJsB (.tmp 62) (by kernel_rfl) (by kernel_rfl) hc.1) hS0 ?_
         refine hTk (i:=2) (d:=some 64) (v:=.int .i64 (i : Nat)) (l':=(bt 9 7)) rfl (fun _ hc=>run_mvF (.tmp 10) (by kernel_rfl) (by kernel_rfl)) hS0 ?_
         refine hTk (i:=3) (d:=some 65) (v:=.pointer (some ⟨bj,oj + i * 3,none⟩)) (l':=(bt 9 15)) rfl (fun _ hc=>run_ixJ (.tmp 63) (.tmp 64) bj oj d.J.length h'.cj i (by kernel_rfl) (by kernel_rfl) (by kernel_rfl) hlt) hS0 ?_
         refine hTk (i:=4) (d:=some 66) (v:=.pointer (some ⟨bj,oj + i * 3 + 1,none⟩)) (l':=(bt 9 31)) rfl (fun _ hc=>run_faJ1 (.tmp 65) (by kernel_rfl) (by kernel_rfl)) hS0 ?_
         refine hTk (i:=5) (d:=some 67) (v:=.int .i64 wrk) (l':=(bt 9 63)) rfl (fun _ hc=>run_ldInB (.tmp 66) (by kernel_rfl) (by kernel_rfl) hc.2.1) hS0 ?_
         refine hTk (i:=6) (d:=some 68) (v:=.pointer (some ⟨w.heap.size + 2,1,none⟩)) (l':=(bt 9 127)) rfl (fun _ hc=>run_fM1 (.tmp 5) (by kernel_rfl) (by kernel_rfl)) hS0 ?_
         refine hTk (i:=7) (d:=some 69) (v:=.int .i64 ((k : Int) + 1)) (l':=(bt 9 255)) rfl (fun _ hc=>run_ldInB (.tmp 68) (by kernel_rfl) (by kernel_rfl) hc.2.2) hS0 ?_
         refine hTk (i:=8) (d:=some 70) (v:=.bool true) (l':=(bt 9 511)) rfl (fun _ hc=>run_eqB (.tmp 67) (.tmp 69) wrk ((k : Int) + 1) true (by kernel_rfl) (by kernel_rfl) (by kernel_rfl) hq1) hS0 ?_
         refine wpAnyH_done (by kernel_rfl) ?_ _
         have hrj : rowJ ⟨d.wk,d.up,d.now,d.sn,d.ep,d.gv,d.L1,d.L2,d.R,jM (leftJ ((k : Int) + 1)) d.J i,S',d.O⟩ h' = some bj:=by unfold rowJ;rw [HAJ.out];rfl
         have g5 : x0.grownBy (x0.setCells bj (oj + i * 3) [.int .i64 0,.int .i64 0,.int .i64 0]) (rowJ ⟨d.wk,d.up,d.now,d.sn,d.ep,d.gv,d.L1,d.L2,d.R,jM (leftJ ((k : Int) + 1)) d.J i,S',d.O⟩ h'):=by rw [hrj];exact grown_setCells _ _ _ _ _ (World.grownBy.refl _ _)
         have T6:=T5.setJ (J:=jM (leftJ ((k : Int) + 1)) d.J (i + 1)) (by rw [jM_len,jM_len]) g5 (by
          have e9 : (jM (leftJ ((k : Int) + 1)) d.J i).set i (0,0,0) = jM (leftJ ((k : Int) + 1)) d.J (i + 1):=by
           rw [← jM_set hlt]
           unfold leftJ
           rw [if_pos (by rw [← HLE.out];exact hle)]
          rw [← e9];exact HST5.out)
         have HT6:=hid T6
         have y9 : x0.cell? ⟨Q7,9,none⟩ = some (.slice (some ⟨bj,oj,none⟩) d.J.length h'.cj):=hS0.1
         clear hS0 T6 T5 hrj g5 HST5 hle
         go_simp
         go_wp2_with (refine wpList_store_j3 rfl (.tmp 75) (.tmp 74) rfl bj (oj + i * 3) 0 0 0 rfl rfl hth5 ?_)
         go_roundw
         case rel=>exact ⟨i + 1,by omega,by go_num,HT6.out⟩
         case measure=>simp [intOf];omega
        ·have hq1 : (wrk == (k : Int) + 1) = false:=by simpa using hle
         refine hTk (i:=0) (d:=some 62) (v:=.pointer (some ⟨Q7,9,none⟩)) (l':=(bt 9 1)) rfl (fun _ hc=>run_faB8 (.tmp 7) (by kernel_rfl) (by kernel_rfl)) hS0 ?_
         refine hTk (i:=1) (d:=some 63) (v:=(.slice (some ⟨bj,oj,none⟩) d.J.length h'.cj)) (l':=(bt 9 3)) rfl (fun _ hc=>run_ldJsB (.tmp 62) (by kernel_rfl) (by kernel_rfl) hc.1) hS0 ?_
         refine hTk (i:=2) (d:=some 64) (v:=.int .i64 (i : Nat)) (l':=(bt 9 7)) rfl (fun _ hc=>run_mvF (.tmp 10) (by kernel_rfl) (by kernel_rfl)) hS0 ?_
         refine hTk (i:=3) (d:=some 65) (v:=.pointer (some ⟨bj,oj + i * 3,none⟩)) (l':=(bt 9 15)) rfl (fun _ hc=>run_ixJ (.tmp 63) (.tmp 64) bj oj d.J.length h'.cj i (by kernel_rfl) (by kernel_rfl) (by kernel_rfl) hlt) hS0 ?_
         refine hTk (i:=4) (d:=some 66) (v:=.pointer (some ⟨bj,oj + i * 3 + 1,none⟩)) (l':=(bt 9 31)) rfl (fun _ hc=>run_faJ1 (.tmp 65) (by kernel_rfl) (by kernel_rfl)) hS0 ?_
         refine hTk (i:=5) (d:=some 67) (v:=.int .i64 wrk) (l':=(bt 9 63)) rfl (fun _ hc=>run_ldInB (.tmp 66) (by kernel_rfl) (by kernel_rfl) hc.2.1) hS0 ?_
         refine hTk (i:=6) (d:=some 68) (v:=.pointer (some ⟨w.heap.size + 2,1,none⟩)) (l':=(bt 9 127)) rfl (fun _ hc=>run_fM1 (.tmp 5) (by kernel_rfl) (by kernel_rfl)) hS0 ?_
         refine hTk (i:=7) (d:=some 69) (v:=.int .i64 ((k : Int) + 1)) (l':=(bt 9 255)) rfl (fun _ hc=>run_ldInB (.tmp 68) (by kernel_rfl) (by kernel_rfl) hc.2.2) hS0 ?_
         refine hTk (i:=8) (d:=some 70) (v:=.bool false) (l':=(bt 9 511)) rfl (fun _ hc=>run_eqB (.tmp 67) (.tmp 69) wrk ((k : Int) + 1) false (by kernel_rfl) (by kernel_rfl) (by kernel_rfl) hq1) hS0 ?_
         refine wpAnyH_done (by kernel_rfl) ?_ _
         have HT6:=hid (show TkS w1 w1.heap.size Q7 [] ⟨d.wk,d.up,d.now,d.sn,d.ep,d.gv,d.L1,d.L2,d.R,jM (leftJ ((k : Int) + 1)) d.J (i + 1),S',d.O⟩ h' x0 by rw [jM_same hlt (by unfold leftJ;rw [if_neg (by rw [← HLE.out];exact hle)])];exact T5)
         clear hS0 T5 hth5 HST5 hle
         go_simp
         go_wp2_with fail
         go_roundw
         case rel=>exact ⟨i + 1,by omega,by go_num,HT6.out⟩
         case measure=>simp [intOf];omega
       case neg =>
        obtain rfl : i = d.J.length:=by omega
        have hlt' : ¬ (d.J.length : Int) < (d.J.length : Int):=by omega
        obtain ⟨dH,hdH⟩ : ∃ q,q = hereB d (⟨5,(k : Int) + 1,tw,ep,le,ta,x,ss⟩ : MgD):=⟨_,rfl⟩
        have T9 : TkS w1 w1.heap.size Q7 [] dH h' wr:=by
         rw [hdH,HHB.out,← jM_all];exact hs
        have y9 : wr.cell? ⟨Q7,9,none⟩ = some (.slice (some ⟨bj,oj,none⟩) d.J.length h'.cj):=by
         rw [← HAJ.out,← jM_len (leftJ ((k : Int) + 1)) d.J d.J.length];exact (hs.D 9 (by simp [bvs])).1
        have HDH:=hid hdH
        clear hdH hs HT
        go_upto_region 23 with fail
        clear y9
        have hT9:=T9
        obtain ⟨y0,y1,y2,y3,y4,y5,y6,y7,y8,y9,y10,y11⟩:=cf12 hT9.D
        have R4:=HR1.out.block (hT9.hb.block (w.heap.size + 3) (by have:=HZ1.out;omega))
        have HT9:=hid hT9
        clear hT9
        go_wp2_with (refine wpList_store_cf rfl 46 (.tmp 6) (.tmp 109) rfl (w.heap.size + 3) [.int .i64 0,.bool false,.int .i64 0,.int .i64 0,.int .i64 0,.int .i64 0,.slice none 0 0,.slice none 0 0,.slice none 0 0,.slice none 0 0,.slice none 0 0,.slice none 0 0,.slice none 0 0] [.int .i64 dH.wk,.bool dH.up,.int .i64 dH.now,.int .i64 dH.sn,.int .i64 dH.ep,.int .i64 dH.gv,.slice h'.a1 dH.L1.length h'.c1,.slice h'.a2 dH.L2.length h'.c2,.slice h'.ar dH.R.length h'.cr,.slice h'.aj dH.J.length h'.cj,.slice h'.az dH.S.length h'.cs,.slice h'.ao dH.O.length h'.co,.slice none 0 0] rfl rfl R4 rfl Tryz.sizeLd (one13 _ _ _ _ _ _ _ _ _ _ _ _ _ _ _ _ _ _ _ _ _ _ _ _ _ _ _) ?_;intro w10 hc10 hg10)
        obtain ⟨k0,k1,k2,k3,k4,k5,k6,k7,k8,k9,k10,k11,k12⟩:=cf13 hc10
        have hLF : BossO w10 w1.heap.size dH h':=HT9.out.bo.blk (fun r hr k hk=>hg10.block k (HT9.out.bo.lo r hr k hk).2 (fun e=>by
         injection e with e
         have:=HT9.out.bo.lo r hr k hk
         have:=HZ1.out
         omega))
        have B4:=HB1.out.trans (HT9.out.hb.mono HB1.out.size)
        exact bodyPost_ret (v:=.agg #[.int .i64 dH.wk,.bool dH.up,.int .i64 dH.now,.int .i64 dH.sn,.int .i64 dH.ep,.int .i64 dH.gv,.slice h'.a1 dH.L1.length h'.c1,.slice h'.a2 dH.L2.length h'.c2,.slice h'.ar dH.R.length h'.cr,.slice h'.aj dH.J.length h'.cj,.slice h'.az dH.S.length h'.cs,.slice h'.ao dH.O.length h'.co,.slice none 0 0]) (by simp [results,Tryz.results7,go_sem,k0,k1,k2,k3,k4,k5,k6,k7,k8,k9,k10,k11,k12]) rfl ⟨⟨dH,h',.slice none 0 0,[],[],rfl,⟨hLF.mono HB1.out.size,MsO.nil _ _,fun r hr=>Dj.symm (.inl rfl),fun r hr j hj=>absurd hj (by simp)⟩,.inl ⟨HV.out,by rw [HHK.out,HDH.out]⟩⟩,below_grown B4 hg10 (by have:=HT9.out.hb.size;have:=HZ1.out;omega) (fun q hq=>by simp at hq;omega)⟩
end Go.Proofs.YtaeomkpofcbmiaaGreatDoor
