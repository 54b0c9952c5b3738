
import Derived.Test.YtaeomkpofcbmiaaGreatDoorQBfi
import Derived.Test.YtaeomkpofcbmiaaGreatDoorQBrl
import Derived.Test.YtaeomkpofcbmiaaGreatDoorQBha
import Derived.Deep.DeepCutAuto
set_option maxHeartbeats 8000000
set_option maxRecDepth 100000
namespace Go.Proofs.YtaeomkpofcbmiaaGreatDoor
open Go.RowKit
theorem app2_rows {wr : World} {d : BD} {h : BH} {s : ByteArray} {ob : Obj} {a9 : Option Addr} {c9 : Nat} (hbk : (Value.slice a9 (d.L2.length + 1) c9).ownBlock = row2 d h ∨ (Value.slice a9 (d.L2.length + 1) c9).ownBlock = some (wr.alloc ob).heap.size) : ∀ r ∈ rowsB ⟨d.wk,d.up,d.now,d.sn,d.ep,d.gv,d.L1,d.L2 ++ [s],d.R,d.J,d.S,d.O⟩ ⟨h.a1,a9,h.ar,h.aj,h.az,h.ao,h.c1,c9,h.cr,h.cj,h.cs,h.co⟩,r ∈ rowsB d h ∨ r = some (wr.alloc ob).heap.size:=fun r hr=>by
 simp only [rowsB,List.mem_cons,List.not_mem_nil,or_false,List.length_append,List.length_singleton] at hr
 rcases hr with rfl | rfl | rfl | rfl | rfl | rfl
 ·exact .inl (by simp [rowsB])
 ·rcases hbk with e | e
  ·exact .inl (by rw [e];exact row2_mem d h)
  ·exact .inr e
 ·exact .inl (by simp [rowsB])
 ·exact .inl (by simp [rowsB])
 ·exact .inl (by simp [rowsB])
 ·exact .inl (by simp [rowsB])
theorem appO_rows {wr : World} {d : BD} {h : BH} {x : Tr} {ob : Obj} {a9 : Option Addr} {c9 : Nat} (hbk : (Value.slice a9 (d.O.length + 1) c9).ownBlock = rowO d h ∨ (Value.slice a9 (d.O.length + 1) c9).ownBlock = some (wr.alloc ob).heap.size) : ∀ r ∈ rowsB ⟨d.wk,d.up,d.now,d.sn,d.ep,d.gv,d.L1,d.L2,d.R,d.J,d.S,d.O ++ [x]⟩ ⟨h.a1,h.a2,h.ar,h.aj,h.az,a9,h.c1,h.c2,h.cr,h.cj,h.cs,c9⟩,r ∈ rowsB d h ∨ r = some (wr.alloc ob).heap.size:=fun r hr=>by
 simp only [rowsB,List.mem_cons,List.not_mem_nil,or_false,List.length_append,List.length_singleton] at hr
 rcases hr with rfl | rfl | rfl | rfl | rfl | rfl
 ·exact .inl (by simp [rowsB])
 ·exact .inl (by simp [rowsB])
 ·exact .inl (by simp [rowsB])
 ·exact .inl (by simp [rowsB])
 ·exact .inl (by simp [rowsB])
 ·rcases hbk with e | e
  ·exact .inl (by rw [e];exact rowO_mem d h)
  ·exact .inr e
theorem L9c {w0 w : World} {B Q : Nat} {d0 : BD} {h0 : BH} {pv : Value} {ms : List Value} {d : BD} {h : BH} {wr w9 : World} {ob : Obj} (hg : (wr.alloc ob).grownBy w9 (row2 d h)) (s : LrS w0 w B Q d0 h0 pv ms d h wr) (j : Nat) (hj : j < ms.length) : w9.cell? ⟨Q + 2,j,none⟩ = ms[j]?:=by
 have hq:=s.q
 have hb : Below wr.heap.size wr (wr.alloc ob):=(Below.refl _ _).alloc (Nat.le_refl _) _
 have hz : (wr.alloc ob).heap.size = wr.heap.size + 1:=by simp
 exact (((s.M.block (hb.block _ (by omega))).block (hg.block _ (by omega) (s.ne (row2_mem d h) _ (by omega) (by omega)))) j hj).1
theorem l5Result_any (w0 : World) (B : Nat) (d : BD) (h : BH) (pa : Option Addr) (pb po pc : Nat) (ts : List TaskD) (kd tw ep le : Int) (k t : Nat) (x : ByteArray) (ss : List ByteArray) (ua : Option Addr) (un uc : Nat) (w : World) (hO : BossO w B d h) (hB : Below B w0 w) (hBz : w0.heap.size ≤ B ∧ B ≤ w.heap.size) (hf : d.fits) (hx : x.size = 8) (hT : TasksAt w pa pb po ts.length ts) (hAD : allDeps ts ts.length) (hRl : d.R.length = ts.length) (hJl : d.J.length = ts.length) (h40 : ts.length ≤ 40) (ht : t ≤ 39) (hk : k < d.S.length) (hk8 : k ≤ 100) (hep : 1 ≤ d.ep ∧ d.ep ≤ 300) (hl : d.L1.length + d.L2.length ≤ 310) (hol : d.O.length ≤ 2000) :
  Calls Tryz.prog 31 #[.agg #[.int .i64 d.wk,.bool d.up,.int .i64 d.now,.int .i64 d.sn,.int .i64 d.ep,.int .i64 d.gv,.slice h.a1 d.L1.length h.c1,.slice h.a2 d.L2.length h.c2,.slice h.ar d.R.length h.cr,.slice h.aj d.J.length h.cj,.slice h.az d.S.length h.cs,.slice h.ao d.O.length h.co],.agg #[.slice pa ts.length pc],.agg #[.int .i64 kd,.int .i64 ((k : Int) + 1),.int .i64 tw,.int .i64 ep,.int .i64 le,.int .i64 (t : Nat),.string x,.slice ua un uc]] w fun e w'=>∃ h',e = .returned (.agg (bvs (resB d ts (⟨kd,(k : Int) + 1,tw,ep,le,(t : Nat),x,ss⟩ : MgD)) h').toArray) ∧ BossO w' B (resB d ts (⟨kd,(k : Int) + 1,tw,ep,le,(t : Nat),x,ss⟩ : MgD)) h' ∧ Below B w0 w' ∧ Grew (rowsB d h) w w' ∧ ∀ r ∈ rowsB (resB d ts (⟨kd,(k : Int) + 1,tw,ep,le,(t : Nat),x,ss⟩ : MgD)) h',r ∈ rowsB d h ∨ ∀ q,r = some q → w.heap.size + 4 ≤ q:=by
 obtain ⟨W,hW⟩ : ∃ W,W = (((w.alloc (.cells #[.int .i64 d.wk,.bool d.up,.int .i64 d.now,.int .i64 d.sn,.int .i64 d.ep,.int .i64 d.gv,.slice h.a1 d.L1.length h.c1,.slice h.a2 d.L2.length h.c2,.slice h.ar d.R.length h.cr,.slice h.aj d.J.length h.cj,.slice h.az d.S.length h.cs,.slice h.ao d.O.length h.co] 43)).alloc (.cells #[.slice pa ts.length pc] 51)).alloc (.cells #[.int .i64 kd,.int .i64 ((k : Int) + 1),.int .i64 tw,.int .i64 ep,.int .i64 le,.int .i64 (t : Nat),.string x,.slice ua un uc] 53)).alloc (.cells #[.int .i64 0,.bool false,.int .i64 0,.int .i64 0,.int .i64 0,.int .i64 0,.slice none 0 0,.slice none 0 0,.slice none 0 0,.slice none 0 0,.slice none 0 0,.slice none 0 0] 43):=⟨_,rfl⟩
 obtain ⟨Q,hQ⟩ : ∃ q,q = w.heap.size:=⟨_,rfl⟩
 obtain ⟨C0,C1,C2,C3,z0,B0⟩:=box4 w #[.int .i64 d.wk,.bool d.up,.int .i64 d.now,.int .i64 d.sn,.int .i64 d.ep,.int .i64 d.gv,.slice h.a1 d.L1.length h.c1,.slice h.a2 d.L2.length h.c2,.slice h.ar d.R.length h.cr,.slice h.aj d.J.length h.cj,.slice h.az d.S.length h.cs,.slice h.ao d.O.length h.co] #[.slice pa ts.length pc] #[.int .i64 kd,.int .i64 ((k : Int) + 1),.int .i64 tw,.int .i64 ep,.int .i64 le,.int .i64 (t : Nat),.string x,.slice ua un uc] #[.int .i64 0,.bool false,.int .i64 0,.int .i64 0,.int .i64 0,.int .i64 0,.slice none 0 0,.slice none 0 0,.slice none 0 0,.slice none 0 0,.slice none 0 0,.slice none 0 0] 43 51 53 43 hW
 rw [← hQ] at C0 C1 C2 C3 z0
 have Ls : LrS w0 w B Q d h (.slice pa ts.length pc) [.int .i64 kd,.int .i64 ((k : Int) + 1),.int .i64 tw,.int .i64 ep,.int .i64 le,.int .i64 (t : Nat),.string x,.slice ua un uc] d h W:=⟨⟨hO.below B0,C0,hB.trans (B0.mono hBz.2),fun r hr e=>by have:=(hO.lo r hr Q e).2;omega,⟨by omega,by omega,hBz.1⟩⟩,C1,C2,C3,⟨B0.size,fun q hq _=>B0.block q hq,B0.os,B0.tape,B0.output⟩,fun r hr=>.inl hr,⟨hQ,by omega⟩,fun r hr q e=>by rw [hQ];exact (hO.lo r hr q e).2⟩
 have HTT:=hid (hT.below' B0)
 have HW:=hid hW
 have HQ:=hid hQ
 have HFF:=hid hf
 have HAD:=hid hAD
 have HRL:=hid hRl
 have HJL:=hid hJl
 have htb : t < ts.length → ((t : Nat) : Int) < (ts.length : Int):=fun h=>by omega
 have m5 : W.cell? ⟨Q + 2,5,none⟩ = some (.int .i64 (t : Nat)):=(C2 5 (by simp)).1
 have kp : W.cell? ⟨Q + 1,0,none⟩ = some (.slice pa ts.length pc):=(C1 0 (by simp)).1
 clear hW hQ C0 C1 C2 C3 B0 hO hB hf hAD hRl hJl hT
 go_enter Tryz.func31,Tryz.ntmps31
 go_upto_region 1 with fail
 have eq1 : w.heap.size + 1 = Q + 1:=by rw [HQ.out]
 have eq2 : w.heap.size + 1 + 1 = Q + 2:=by rw [HQ.out]
 have eq3 : w.heap.size + 1 + 1 + 1 = Q + 3:=by rw [HQ.out]
 rw [← HW.out]
 (try rw [eq3])
 (try rw [eq2])
 (try rw [eq1])
 (try rw [← HQ.out])
 clear HW eq1 eq2 eq3
 by_cases htl : t < ts.length
 case neg =>
  have hd : decide (((ts.length : Nat) : Int) ≤ ((t : Nat) : Int)) = true:=decide_eq_true (by omega)
  have HE:=hid (resB_no (d:=d) (ts:=ts) (m:=(⟨kd,(k : Int) + 1,tw,ep,le,(t : Nat),x,ss⟩ : MgD)) (by show ¬ ((t : Nat) : Int) < (ts.length : Int);omega))
  obtain ⟨wr2,hwr⟩ : ∃ V,V = W:=⟨_,rfl⟩
  have Lx:=Ls
  rw [← hwr] at Lx
  rw [← hwr] at m5 kp ⊢
  clear Ls hwr
  obtain ⟨y0,y1,y2,y3,y4,y5,y6,y7,y8,y9,y10,y11⟩:=cf12 ((Lx.T.D))
  have hZ:=Lx.Z
  go_wp2_with (refine wpList_store_cf rfl 43 (.tmp 6) (.tmp 14) rfl (Q + 3) zB [.int .i64 d.wk,.bool d.up,.int .i64 d.now,.int .i64 d.sn,.int .i64 d.ep,.int .i64 d.gv,.slice h.a1 d.L1.length h.c1,.slice h.a2 d.L2.length h.c2,.slice h.ar d.R.length h.cr,.slice h.aj d.J.length h.cj,.slice h.az d.S.length h.cs,.slice h.ao d.O.length h.co] rfl rfl hZ rfl Tryz.sizeBo (one12b _ _ _ _ _ _ _ _ _ _ _ _ _ _ _ _ _ _ _ _ _ _ _ _) ?_;intro w10 hc10 hg10)
  obtain ⟨k0,k1,k2,k3,k4,k5,k6,k7,k8,k9,k10,k11⟩:=cf12 hc10
  have hfin:=Lx.fin hg10
  have hQ1:=Lx.q.1
  exact bodyPost_ret (v:=.agg #[.int .i64 d.wk,.bool d.up,.int .i64 d.now,.int .i64 d.sn,.int .i64 d.ep,.int .i64 d.gv,.slice h.a1 d.L1.length h.c1,.slice h.a2 d.L2.length h.c2,.slice h.ar d.R.length h.cr,.slice h.aj d.J.length h.cj,.slice h.az d.S.length h.cs,.slice h.ao d.O.length h.co]) (by simp [results,Tryz.results31,go_sem,k0,k1,k2,k3,k4,k5,k6,k7,k8,k9,k10,k11]) rfl ⟨h,by rw [HE.out];rfl,by rw [HE.out];rw [← hQ1];exact hfin⟩
 case pos =>
  have hd : decide (((ts.length : Nat) : Int) ≤ ((t : Nat) : Int)) = false:=decide_eq_false (by omega)
  go_upto_region 3 with fail
  clear m5 kp
  go_cut [41] (fun c wx=>∃ b : Bool,c = .bool b ∧ (b = true ↔ dueOk ts d.R t ∧ d.L1.length + d.L2.length < 310) ∧ LrS w0 w B Q d h (.slice pa ts.length pc) [.int .i64 kd,.int .i64 ((k : Int) + 1),.int .i64 tw,.int .i64 ep,.int .i64 le,.int .i64 (t : Nat),.string x,.slice ua un uc] d h wx)
  case first =>
   obtain ⟨br,or',crr,hre,hrc,_,_⟩:=Ls.T.bo.o2.set1 (t:=t) (by rw [HRL.out];exact htl)
   have e1 : h.ar = some ⟨br,or',none⟩:=by injection hre with e1 e2 e3
   obtain ⟨sR,hsR⟩ : ∃ s,s = rs d.R t:=⟨_,rfl⟩
   rw [← hsR] at hrc
   obtain ⟨-,-,-,-,-,-,y6,y7⟩:=cf8 Ls.T.D
   have y8 : W.cell? ⟨Q,8,none⟩ = some (.slice (some ⟨br,or',none⟩) ts.length h.cr):=by rw [← e1,← HRL.out];exact (Ls.T.D 8 (by simp [bvs])).1
   have m5 : W.cell? ⟨Q + 2,5,none⟩ = some (.int .i64 (t : Nat)):=(Ls.M 5 (by simp)).1
   have kp : W.cell? ⟨Q + 1,0,none⟩ = some (.slice pa ts.length pc):=(Ls.P 0 (by simp)).1
   obtain ⟨br',or2,hRy,_⟩:=Ls.T.bo.o2.statB HFF.out.s3
   have hRe:=hRy.ad (by have:=HRL.out;omega)
   rw [e1] at hRe hRy
   injection hRe with hRe
   injection hRe with hRe1 hRe2
   subst hRe1 hRe2
   rw [HRL.out] at hRy
   have HLD:=hid (l4Deps_any pa pb po ts.length pc ts (some ⟨br,or',none⟩) br or' h.cr d.R t W HTT.out hRy htl HAD.out)
   have HSR:=hid hsR
   have htl' : ((t : Nat) : Int) < (ts.length : Int):=by omega
   clear hre e1 hRy hsR
   by_cases h0 : sR.size = 0
   ·have h0':=empty_t h0
    go_wp2_with fail
    refine HLD.out.mono ?_
    rintro _ w1 ⟨⟨r,rfl,hr⟩,hb1⟩
    have y6':=keepB hb1 y6
    have y7':=keepB hb1 y7
    have HL1:=hid (Ls.below hb1)
    have HDU:=hid (show (rs d.R t).size = 0 by rw [← HSR.out];exact h0)
    have HR:=hid hr
    clear HLD hr y6 y7 y8 m5 kp hrc h0' h0 hb1 Ls
    cases r with
    | false =>
     go_wp2_with fail
     go_meet
     case rel=>exact ⟨false,rfl,⟨fun h=>(by cases h),fun h=>absurd h.1.2 (by have:=HR.out;simpa using this)⟩,HL1.out⟩
    | true =>
     by_cases h31 : d.L1.length + d.L2.length < 310
     ·have hd3 : decide (((d.L1.length : Nat) : Int) + ((d.L2.length : Nat) : Int) < 310) = true:=decide_eq_true (by omega)
      go_wp2_with fail
      go_meet
      case rel=>exact ⟨true,rfl,⟨fun _=>⟨⟨HDU.out,HR.out.1 (by trivial)⟩,h31⟩,fun _=>rfl⟩,HL1.out⟩
     ·have hd3 : decide (((d.L1.length : Nat) : Int) + ((d.L2.length : Nat) : Int) < 310) = false:=decide_eq_false (by omega)
      go_wp2_with fail
      go_meet
      case rel=>exact ⟨false,rfl,⟨fun h=>(by cases h),fun h=>absurd h.2 h31⟩,HL1.out⟩
   ·have h0':=empty_f h0
    have HL1:=hid Ls
    have HDU:=hid (show ¬ (rs d.R t).size = 0 by rw [← HSR.out];exact h0)
    clear Ls
    go_wp2_with fail
    go_meet
    case rel=>exact ⟨false,rfl,⟨fun h=>(by cases h),fun h=>absurd h.1.1 HDU.out⟩,HL1.out⟩
  case rest =>
   obtain ⟨b,rfl,hb,Ls2⟩:=hcut
   clear Ls
   go_upto_if 41 with fail
   go_cut [69] (fun _ wx=>∃ h1,LrS w0 w B Q d h (.slice pa ts.length pc) [.int .i64 kd,.int .i64 ((k : Int) + 1),.int .i64 tw,.int .i64 ep,.int .i64 le,.int .i64 (t : Nat),.string x,.slice ua un uc] (keepR d ts (⟨kd,(k : Int) + 1,tw,ep,le,(t : Nat),x,ss⟩ : MgD)) h1 wx)
   case first =>
    cases b with
    | false =>
     have HREL:=hid (show LrS w0 w B Q d h (.slice pa ts.length pc) [.int .i64 kd,.int .i64 ((k : Int) + 1),.int .i64 tw,.int .i64 ep,.int .i64 le,.int .i64 (t : Nat),.string x,.slice ua un uc] (keepR d ts (⟨kd,(k : Int) + 1,tw,ep,le,(t : Nat),x,ss⟩ : MgD)) h wc by rw [keepR_no (fun hh=>by have:=hb.2 ⟨by have:=hh.1;simpa using this,hh.2⟩;cases this)];exact Ls2)
     clear Ls2 hb
     go_wp2_with fail
     go_meet
     case rel=>exact ⟨h,HREL.out⟩
    | true =>
     have HDU:=hid (hb.1 rfl)
     clear hb
     obtain ⟨br,or',crr,hre,hrc,hrf,hrset⟩:=Ls2.T.bo.o2.set1 (t:=t) (by rw [HRL.out];exact htl)
     have e1 : h.ar = some ⟨br,or',none⟩:=by injection hre with e1 e2 e3
     have hrr : rowR d h = some br:=by unfold rowR;rw [e1];rfl
     have y8 : wc.cell? ⟨Q,8,none⟩ = some (.slice (some ⟨br,or',none⟩) ts.length h.cr):=by rw [← e1,← HRL.out];exact (Ls2.T.D 8 (by simp [bvs])).1
     obtain ⟨-,-,-,-,-,m5,m6⟩:=cf7 Ls2.M
     have htl' : ((t : Nat) : Int) < (ts.length : Int):=by omega
     have HRR:=hid hrr
     have HSET:=hid (hrset x)
     clear hre e1 hrr hrset
     go_upto_region 5 with fail
     obtain ⟨W2,hW2⟩ : ∃ V,V = wc.setCell ⟨br,or' + t,none⟩ (.string x):=⟨_,rfl⟩
     have g2 : wc.grownBy W2 (rowR d h):=by rw [HRR.out,hW2];exact gset (World.grownBy.refl wc _) _ _
     have LW : LrS w0 w B Q d h (.slice pa ts.length pc) [.int .i64 kd,.int .i64 ((k : Int) + 1),.int .i64 tw,.int .i64 ep,.int .i64 le,.int .i64 (t : Nat),.string x,.slice ua un uc] ⟨d.wk,d.up,d.now,d.sn,d.ep,d.gv,d.L1,d.L2,d.R.set t x,d.J,d.S,d.O⟩ h W2:=Ls2.row (rowR_mem d h) g2 (Ls2.T.setR (by rw [List.length_set]) g2 (by rw [hW2];exact HSET.out)) (by unfold rowsB;simp only [List.length_set])
     rw [← hW2]
     clear hW2 g2 HSET HRR y8 m5 m6 hrc hrf Ls2
     go_cut [63] (fun _ wx=>∃ h1,LrS w0 w B Q d h (.slice pa ts.length pc) [.int .i64 kd,.int .i64 ((k : Int) + 1),.int .i64 tw,.int .i64 ep,.int .i64 le,.int .i64 (t : Nat),.string x,.slice ua un uc] ⟨d.wk,d.up,d.now,d.sn,d.ep,d.gv,d.L1,d.L2 ++ [entS 2 d.ep (t : Nat) x],d.R.set t x,d.J,d.S,d.O⟩ h1 wx)
     case first =>
      have Lx0:=LW.below (Below.refl W2.heap.size W2).drew
      obtain ⟨i0,hi0,hz00,hz01,hz02⟩:=info_parts Tryz.info9
      refine wp_region_held (S:=fun w'=>w'.cell? ⟨Q,4,none⟩ = some (.int .i64 d.ep) ∧ w'.cell? ⟨Q + 2,5,none⟩ = some (.int .i64 (t : Nat)) ∧ w'.cell? ⟨Q + 2,6,none⟩ = some (.string x)) (by kernel_rfl) ?_
      change wpAnyH _ _ _ _ _ _ _ _ (World.drew _)
      obtain ⟨x0,hx0⟩ : ∃ U,U = W2.drew:=⟨_,rfl⟩
      rw [← hx0] at Lx0
      rw [← hx0]
      clear hx0 LW
      have hS0 : x0.cell? ⟨Q,4,none⟩ = some (.int .i64 d.ep) ∧ x0.cell? ⟨Q + 2,5,none⟩ = some (.int .i64 (t : Nat)) ∧ x0.cell? ⟨Q + 2,6,none⟩ = some (.string x):=⟨(Lx0.T.D 4 (by simp [bvs])).1,(Lx0.M 5 (by simp)).1,(Lx0.M 6 (by simp)).1⟩
      have c7x0 : x0.cell? ⟨Q,7,none⟩ = some (.slice h.a2 d.L2.length h.c2):=(Lx0.T.D 7 (by simp [bvs])).1
      have HVE : Hid (vE 2 d.ep (t : Nat) x.size):=by unfold vE;exact .inr ⟨rfl,hep.1,hep.2,by omega,by omega,hx⟩
      refine hTk (i:=0) (d:=some 49) (v:=.pointer (some ⟨Q,6,none⟩)) (l':=(bt 16 1)) rfl (fun _ hc=>run_fB6 (.tmp 3) (by kernel_rfl) (by kernel_rfl)) hS0 ?_
      refine hTk (i:=1) (d:=some 50) (v:=.pointer (some ⟨Q,7,none⟩)) (l':=(bt 16 3)) rfl (fun _ hc=>run_fL1 (.tmp 49) (by kernel_rfl) (by kernel_rfl)) hS0 ?_
      refine hTk (i:=3) (d:=some 52) (v:=.pointer (some ⟨Q,4,none⟩)) (l':=(bt 16 11)) rfl (fun _ hc=>run_fB4 (.tmp 3) (by kernel_rfl) (by kernel_rfl)) hS0 ?_
      refine hTk (i:=4) (d:=some 53) (v:=.int .i64 d.ep) (l':=(bt 16 27)) rfl (fun _ hc=>run_ldInB (.tmp 52) (by kernel_rfl) (by kernel_rfl) hc.1) hS0 ?_
      refine hTk (i:=5) (d:=some 54) (v:=.pointer (some ⟨Q + 2,5,none⟩)) (l':=(bt 16 59)) rfl (fun _ hc=>run_fM5 (.tmp 5) (by kernel_rfl) (by kernel_rfl)) hS0 ?_
      refine hTk (i:=6) (d:=some 55) (v:=.int .i64 (t : Nat)) (l':=(bt 16 123)) rfl (fun _ hc=>run_ldInB (.tmp 54) (by kernel_rfl) (by kernel_rfl) hc.2.1) hS0 ?_
      refine hTk (i:=7) (d:=some 56) (v:=.pointer (some ⟨Q + 2,6,none⟩)) (l':=(bt 16 251)) rfl (fun _ hc=>run_fM6 (.tmp 5) (by kernel_rfl) (by kernel_rfl)) hS0 ?_
      refine hTk (i:=8) (d:=some 57) (v:=.string x) (l':=(bt 16 507)) rfl (fun _ hc=>run_ldStB (.tmp 56) (by kernel_rfl) (by kernel_rfl) hc.2.2) hS0 ?_
      refine hTk (i:=9) (d:=some 58) (v:=.agg #[.int .i64 2,.int .i64 d.ep,.int .i64 (t : Nat),.string x]) (l':=(bt 16 1019)) rfl (fun _ hc=>run_bEn (.tmp 53) (.tmp 55) (.tmp 57) d.ep (t : Nat) x (by kernel_rfl) (by kernel_rfl) (by kernel_rfl) (by kernel_rfl) (by kernel_rfl)) hS0 ?_
      refine hTwo (i:=2) (j:=10) (by kernel_rfl) (hVal (i:=2) (d:=some 51) (v:=.slice h.a2 d.L2.length h.c2) (w':=x0) (l':=(bt 16 1023)) rfl (by kernel_rfl) (by kernel_rfl) (by kernel_rfl) (run_ldLsB (.tmp 50) (by kernel_rfl) (by kernel_rfl) c7x0) hS0 ?_) (hCall (i:=10) (d:=some 59) (f:=69) (args:=#[.agg #[.int .i64 2,.int .i64 d.ep,.int .i64 (t : Nat),.string x]]) (l':=(bt 16 2043)) (R:=fun v w'=>(∃ r,v = .string r ∧ IsEnt 2 d.ep (t : Nat) x r) ∧ Below x0.heap.size x0 w') rfl (by kernel_rfl) (by kernel_rfl) (by kernel_rfl) (run_cl1 _ _ rfl (by kernel_rfl) rfl enter_fEnt) ((specEnt_any 2 d.ep (t : Nat) x x0).mono fun _ _ ⟨⟨r,he,hr⟩,hb⟩=>⟨_,he,⟨r,rfl,hr⟩,hb⟩) ?_)
      ·refine hOne (i:=10) (by kernel_rfl) (hCall (i:=10) (d:=some 59) (f:=69) (args:=#[.agg #[.int .i64 2,.int .i64 d.ep,.int .i64 (t : Nat),.string x]]) (l':=(bt 16 2047)) (R:=fun v w'=>(∃ r,v = .string r ∧ IsEnt 2 d.ep (t : Nat) x r) ∧ Below x0.heap.size x0 w') rfl (by kernel_rfl) (by kernel_rfl) (by kernel_rfl) (run_cl1 _ _ rfl (by kernel_rfl) rfl enter_fEnt) ((specEnt_any 2 d.ep (t : Nat) x x0).mono fun _ _ ⟨⟨r,he,hr⟩,hb⟩=>⟨_,he,⟨r,rfl,hr⟩,hb⟩) ?_)
       rintro _ x1 ⟨⟨r5,rfl,hr5⟩,hb5⟩
       obtain rfl : r5 = entS 2 d.ep (t : Nat) x:=by
        rcases hr5 with h | h
        ·exact h.2
        ·exact absurd HVE.out h.1
       have Lx1:=Lx0.below hb5
       have hSx1 : x1.cell? ⟨Q,4,none⟩ = some (.int .i64 d.ep) ∧ x1.cell? ⟨Q + 2,5,none⟩ = some (.int .i64 (t : Nat)) ∧ x1.cell? ⟨Q + 2,6,none⟩ = some (.string x):=⟨keepB hb5 hS0.1,keepB hb5 hS0.2.1,keepB hb5 hS0.2.2⟩
       have c7x1:=keepB hb5 c7x0
       refine ⟨hSx1,?_⟩
       have hq5:=Lx1.q.2
       have hqT:=Lx1.T.q
       have hown1 : Own B (x1.alloc (.cells #[.string (entS 2 d.ep (t : Nat) x)] 9)) 1 (.slice (some ⟨x1.heap.size,0,none⟩) 1 1) 1 [.string (entS 2 d.ep (t : Nat) x)] :=
        .inr ⟨_,0,1,rfl,OwnC.made x1 B 9 1 1 1 _ 1 (by omega) (Nat.le_refl _) (by unfold maxLen;omega) rfl (Nat.le_refl _) _ rfl _ (.inl rfl)⟩
       have hsrc : Src Tryz.prog 1 22 _ 1 _ (x1.alloc (.cells #[.string (entS 2 d.ep (t : Nat) x)] 9)):=hown1.src Tryz.underlying22 (by simp;rfl)
       have hbA : Below x1.heap.size x1 (x1.alloc (.cells #[.string (entS 2 d.ep (t : Nat) x)] 9)):=(Below.refl _ _).alloc (Nat.le_refl _) _
       have hSA : (x1.alloc (.cells #[.string (entS 2 d.ep (t : Nat) x)] 9)).cell? ⟨Q,4,none⟩ = some (.int .i64 d.ep) ∧ (x1.alloc (.cells #[.string (entS 2 d.ep (t : Nat) x)] 9)).cell? ⟨Q + 2,5,none⟩ = some (.int .i64 (t : Nat)) ∧ (x1.alloc (.cells #[.string (entS 2 d.ep (t : Nat) x)] 9)).cell? ⟨Q + 2,6,none⟩ = some (.string x):=⟨keepB hbA hSx1.1,keepB hbA hSx1.2.1,keepB hbA hSx1.2.2⟩
       obtain ⟨v9,w9,hrun,ho9,hg9,hbk9⟩:=run_append_c (P:=Tryz.prog) (x1.alloc (.cells #[.string (entS 2 d.ep (t : Nat) x)] 9)) B 22 22 22 9 i0 (.string ⟨#[]⟩) 1 16 Tryz.underlying22 hi0 hz00 hz01 hz02 rfl _ d.L2.length _ (Lx1.T.bo.o1.below hbA (Nat.le_refl _)) _ 1 _ hsrc (by unfold maxLen;omega) (by omega) (by simp;omega)
       obtain ⟨a9,c9,rfl⟩:=ho9.slc
       have hap:=Lx1.T.app2 ho9 hg9 hbk9
       have LF:=Lx1.app (row2_mem _ _) hg9 hap.2 (app2_rows hbk9)
       have hS9 : w9.cell? ⟨Q,4,none⟩ = some (.int .i64 d.ep) ∧ w9.cell? ⟨Q + 2,5,none⟩ = some (.int .i64 (t : Nat)) ∧ w9.cell? ⟨Q + 2,6,none⟩ = some (.string x):=⟨(hap.1 4 (by simp [bvs])).1,(L9c hg9 Lx1 5 (by simp)),(L9c hg9 Lx1 6 (by simp))⟩
       have hSF : (w9.setCell ⟨Q,7,none⟩ (.slice a9 (d.L2.length + 1) c9)).cell? ⟨Q,4,none⟩ = some (.int .i64 d.ep) ∧ (w9.setCell ⟨Q,7,none⟩ (.slice a9 (d.L2.length + 1) c9)).cell? ⟨Q + 2,5,none⟩ = some (.int .i64 (t : Nat)) ∧ (w9.setCell ⟨Q,7,none⟩ (.slice a9 (d.L2.length + 1) c9)).cell? ⟨Q + 2,6,none⟩ = some (.string x):=⟨(LF.T.D 4 (by simp [bvs])).1,(LF.M 5 (by simp)).1,(LF.M 6 (by simp)).1⟩
       refine hOne (i:=11) (by kernel_rfl) (hVal (i:=11) (d:=some 60) (v:=.slice (some ⟨x1.heap.size,0,none⟩) 1 1) (w':=x1.alloc (.cells #[.string (entS 2 d.ep (t : Nat) x)] 9)) (l':=(bt 16 4095)) rfl (by kernel_rfl) (by kernel_rfl) (by kernel_rfl) (run_bsLB (.tmp 59) (entS 2 d.ep (t : Nat) x) (by kernel_rfl) (by kernel_rfl)) hSA ?_)
       refine hOne (i:=12) (by kernel_rfl) (hVal (i:=12) (d:=some 61) (v:=.slice a9 (d.L2.length + 1) c9) (w':=w9) (l':=(bt 16 8191)) rfl (by kernel_rfl) (by kernel_rfl) (by kernel_rfl) (run_appB (.tmp 51) (.tmp 60) 22 22 22 (by kernel_rfl) (by kernel_rfl) (by kernel_rfl) (by kernel_rfl) hrun) hS9 ?_)
       refine hTk (i:=13) (d:=some 62) (v:=.pointer (some ⟨Q,6,none⟩)) (l':=(bt 16 16383)) rfl (fun _ hc=>run_fB6 (.tmp 3) (by kernel_rfl) (by kernel_rfl)) hS9 ?_
       refine hTk (i:=14) (d:=some 63) (v:=.pointer (some ⟨Q,7,none⟩)) (l':=(bt 16 32767)) rfl (fun _ hc=>run_fL1 (.tmp 62) (by kernel_rfl) (by kernel_rfl)) hS9 ?_
       refine hOne (i:=15) (by kernel_rfl) (hSkip (i:=15) (w':=w9.setCell ⟨Q,7,none⟩ (.slice a9 (d.L2.length + 1) c9)) (l':=(bt 16 65535)) rfl (by kernel_rfl) (by kernel_rfl) (by kernel_rfl) (run_stLsB (.tmp 63) (.tmp 61) a9 (d.L2.length + 1) c9 (by kernel_rfl) (by kernel_rfl) (by kernel_rfl) (hap.1 7 (by simp [bvs])).1 (hap.1 7 (by simp [bvs])).2) hSF ?_)
       refine wpAnyH_done (by kernel_rfl) ?_ _
       obtain ⟨wF,hwF⟩ : ∃ V,V = w9.setCell ⟨Q,7,none⟩ (.slice a9 (d.L2.length + 1) c9):=⟨_,rfl⟩
       rw [← hwF] at LF
       rw [← hwF]
       have HREL:=hid LF
       clear hwF LF hap hS9 hSF hSA hSx1 hown1 hsrc hrun ho9 hg9 hbk9 c7x1 Lx1
       (try clear c7xA)
       clear hbA
       go_simp
       go_wp2_with fail
       go_meet
       case rel=>exact ⟨_,HREL.out⟩
      ·rintro _ x1 ⟨⟨r5,rfl,hr5⟩,hb5⟩
       obtain rfl : r5 = entS 2 d.ep (t : Nat) x:=by
        rcases hr5 with h | h
        ·exact h.2
        ·exact absurd HVE.out h.1
       have Lx1:=Lx0.below hb5
       have hSx1 : x1.cell? ⟨Q,4,none⟩ = some (.int .i64 d.ep) ∧ x1.cell? ⟨Q + 2,5,none⟩ = some (.int .i64 (t : Nat)) ∧ x1.cell? ⟨Q + 2,6,none⟩ = some (.string x):=⟨keepB hb5 hS0.1,keepB hb5 hS0.2.1,keepB hb5 hS0.2.2⟩
       have c7x1:=keepB hb5 c7x0
       refine ⟨hSx1,?_⟩
       have hq5:=Lx1.q.2
       have hqT:=Lx1.T.q
       have hown1 : Own B (x1.alloc (.cells #[.string (entS 2 d.ep (t : Nat) x)] 9)) 1 (.slice (some ⟨x1.heap.size,0,none⟩) 1 1) 1 [.string (entS 2 d.ep (t : Nat) x)] :=
        .inr ⟨_,0,1,rfl,OwnC.made x1 B 9 1 1 1 _ 1 (by omega) (Nat.le_refl _) (by unfold maxLen;omega) rfl (Nat.le_refl _) _ rfl _ (.inl rfl)⟩
       have hsrc : Src Tryz.prog 1 22 _ 1 _ (x1.alloc (.cells #[.string (entS 2 d.ep (t : Nat) x)] 9)):=hown1.src Tryz.underlying22 (by simp;rfl)
       have hbA : Below x1.heap.size x1 (x1.alloc (.cells #[.string (entS 2 d.ep (t : Nat) x)] 9)):=(Below.refl _ _).alloc (Nat.le_refl _) _
       have hSA : (x1.alloc (.cells #[.string (entS 2 d.ep (t : Nat) x)] 9)).cell? ⟨Q,4,none⟩ = some (.int .i64 d.ep) ∧ (x1.alloc (.cells #[.string (entS 2 d.ep (t : Nat) x)] 9)).cell? ⟨Q + 2,5,none⟩ = some (.int .i64 (t : Nat)) ∧ (x1.alloc (.cells #[.string (entS 2 d.ep (t : Nat) x)] 9)).cell? ⟨Q + 2,6,none⟩ = some (.string x):=⟨keepB hbA hSx1.1,keepB hbA hSx1.2.1,keepB hbA hSx1.2.2⟩
       obtain ⟨v9,w9,hrun,ho9,hg9,hbk9⟩:=run_append_c (P:=Tryz.prog) (x1.alloc (.cells #[.string (entS 2 d.ep (t : Nat) x)] 9)) B 22 22 22 9 i0 (.string ⟨#[]⟩) 1 16 Tryz.underlying22 hi0 hz00 hz01 hz02 rfl _ d.L2.length _ (Lx1.T.bo.o1.below hbA (Nat.le_refl _)) _ 1 _ hsrc (by unfold maxLen;omega) (by omega) (by simp;omega)
       obtain ⟨a9,c9,rfl⟩:=ho9.slc
       have hap:=Lx1.T.app2 ho9 hg9 hbk9
       have LF:=Lx1.app (row2_mem _ _) hg9 hap.2 (app2_rows hbk9)
       have hS9 : w9.cell? ⟨Q,4,none⟩ = some (.int .i64 d.ep) ∧ w9.cell? ⟨Q + 2,5,none⟩ = some (.int .i64 (t : Nat)) ∧ w9.cell? ⟨Q + 2,6,none⟩ = some (.string x):=⟨(hap.1 4 (by simp [bvs])).1,(L9c hg9 Lx1 5 (by simp)),(L9c hg9 Lx1 6 (by simp))⟩
       have hSF : (w9.setCell ⟨Q,7,none⟩ (.slice a9 (d.L2.length + 1) c9)).cell? ⟨Q,4,none⟩ = some (.int .i64 d.ep) ∧ (w9.setCell ⟨Q,7,none⟩ (.slice a9 (d.L2.length + 1) c9)).cell? ⟨Q + 2,5,none⟩ = some (.int .i64 (t : Nat)) ∧ (w9.setCell ⟨Q,7,none⟩ (.slice a9 (d.L2.length + 1) c9)).cell? ⟨Q + 2,6,none⟩ = some (.string x):=⟨(LF.T.D 4 (by simp [bvs])).1,(LF.M 5 (by simp)).1,(LF.M 6 (by simp)).1⟩
       have c7xA:=keepB hbA c7x1
       refine hTwo (i:=2) (j:=11) (by kernel_rfl) (hVal (i:=2) (d:=some 51) (v:=.slice h.a2 d.L2.length h.c2) (w':=x1) (l':=(bt 16 2047)) rfl (by kernel_rfl) (by kernel_rfl) (by kernel_rfl) (run_ldLsB (.tmp 50) (by kernel_rfl) (by kernel_rfl) c7x1) hSx1 ?_) (hVal (i:=11) (d:=some 60) (v:=.slice (some ⟨x1.heap.size,0,none⟩) 1 1) (w':=x1.alloc (.cells #[.string (entS 2 d.ep (t : Nat) x)] 9)) (l':=(bt 16 4091)) rfl (by kernel_rfl) (by kernel_rfl) (by kernel_rfl) (run_bsLB (.tmp 59) (entS 2 d.ep (t : Nat) x) (by kernel_rfl) (by kernel_rfl)) hSA ?_)
       ·refine hOne (i:=11) (by kernel_rfl) (hVal (i:=11) (d:=some 60) (v:=.slice (some ⟨x1.heap.size,0,none⟩) 1 1) (w':=x1.alloc (.cells #[.string (entS 2 d.ep (t : Nat) x)] 9)) (l':=(bt 16 4095)) rfl (by kernel_rfl) (by kernel_rfl) (by kernel_rfl) (run_bsLB (.tmp 59) (entS 2 d.ep (t : Nat) x) (by kernel_rfl) (by kernel_rfl)) hSA ?_)
        refine hOne (i:=12) (by kernel_rfl) (hVal (i:=12) (d:=some 61) (v:=.slice a9 (d.L2.length + 1) c9) (w':=w9) (l':=(bt 16 8191)) rfl (by kernel_rfl) (by kernel_rfl) (by kernel_rfl) (run_appB (.tmp 51) (.tmp 60) 22 22 22 (by kernel_rfl) (by kernel_rfl) (by kernel_rfl) (by kernel_rfl) hrun) hS9 ?_)
        refine hTk (i:=13) (d:=some 62) (v:=.pointer (some ⟨Q,6,none⟩)) (l':=(bt 16 16383)) rfl (fun _ hc=>run_fB6 (.tmp 3) (by kernel_rfl) (by kernel_rfl)) hS9 ?_
        refine hTk (i:=14) (d:=some 63) (v:=.pointer (some ⟨Q,7,none⟩)) (l':=(bt 16 32767)) rfl (fun _ hc=>run_fL1 (.tmp 62) (by kernel_rfl) (by kernel_rfl)) hS9 ?_
        refine hOne (i:=15) (by kernel_rfl) (hSkip (i:=15) (w':=w9.setCell ⟨Q,7,none⟩ (.slice a9 (d.L2.length + 1) c9)) (l':=(bt 16 65535)) rfl (by kernel_rfl) (by kernel_rfl) (by kernel_rfl) (run_stLsB (.tmp 63) (.tmp 61) a9 (d.L2.length + 1) c9 (by kernel_rfl) (by kernel_rfl) (by kernel_rfl) (hap.1 7 (by simp [bvs])).1 (hap.1 7 (by simp [bvs])).2) hSF ?_)
        refine wpAnyH_done (by kernel_rfl) ?_ _
        obtain ⟨wF,hwF⟩ : ∃ V,V = w9.setCell ⟨Q,7,none⟩ (.slice a9 (d.L2.length + 1) c9):=⟨_,rfl⟩
        rw [← hwF] at LF
        rw [← hwF]
        have HREL:=hid LF
        clear hwF LF hap hS9 hSF hSA hSx1 hown1 hsrc hrun ho9 hg9 hbk9 c7x1 Lx1
        (try clear c7xA)
        clear hbA
        go_simp
        go_wp2_with fail
        go_meet
        case rel=>exact ⟨_,HREL.out⟩
       ·refine hOne (i:=2) (by kernel_rfl) (hVal (i:=2) (d:=some 51) (v:=.slice h.a2 d.L2.length h.c2) (w':=(x1.alloc (.cells #[.string (entS 2 d.ep (t : Nat) x)] 9))) (l':=(bt 16 4095)) rfl (by kernel_rfl) (by kernel_rfl) (by kernel_rfl) (run_ldLsB (.tmp 50) (by kernel_rfl) (by kernel_rfl) c7xA) hSA ?_)
        refine hOne (i:=12) (by kernel_rfl) (hVal (i:=12) (d:=some 61) (v:=.slice a9 (d.L2.length + 1) c9) (w':=w9) (l':=(bt 16 8191)) rfl (by kernel_rfl) (by kernel_rfl) (by kernel_rfl) (run_appB (.tmp 51) (.tmp 60) 22 22 22 (by kernel_rfl) (by kernel_rfl) (by kernel_rfl) (by kernel_rfl) hrun) hS9 ?_)
        refine hTk (i:=13) (d:=some 62) (v:=.pointer (some ⟨Q,6,none⟩)) (l':=(bt 16 16383)) rfl (fun _ hc=>run_fB6 (.tmp 3) (by kernel_rfl) (by kernel_rfl)) hS9 ?_
        refine hTk (i:=14) (d:=some 63) (v:=.pointer (some ⟨Q,7,none⟩)) (l':=(bt 16 32767)) rfl (fun _ hc=>run_fL1 (.tmp 62) (by kernel_rfl) (by kernel_rfl)) hS9 ?_
        refine hOne (i:=15) (by kernel_rfl) (hSkip (i:=15) (w':=w9.setCell ⟨Q,7,none⟩ (.slice a9 (d.L2.length + 1) c9)) (l':=(bt 16 65535)) rfl (by kernel_rfl) (by kernel_rfl) (by kernel_rfl) (run_stLsB (.tmp 63) (.tmp 61) a9 (d.L2.length + 1) c9 (by kernel_rfl) (by kernel_rfl) (by kernel_rfl) (hap.1 7 (by simp [bvs])).1 (hap.1 7 (by simp [bvs])).2) hSF ?_)
        refine wpAnyH_done (by kernel_rfl) ?_ _
        obtain ⟨wF,hwF⟩ : ∃ V,V = w9.setCell ⟨Q,7,none⟩ (.slice a9 (d.L2.length + 1) c9):=⟨_,rfl⟩
        rw [← hwF] at LF
        rw [← hwF]
        have HREL:=hid LF
        clear hwF LF hap hS9 hSF hSA hSx1 hown1 hsrc hrun ho9 hg9 hbk9 c7x1 Lx1
        (try clear c7xA)
        clear hbA
        go_simp
        go_wp2_with fail
        go_meet
        case rel=>exact ⟨_,HREL.out⟩
     case rest =>
      obtain ⟨h5,Ls5⟩:=hcut
      clear LW
      have htJ : t < d.J.length:=by rw [HJL.out];exact htl
      obtain ⟨bj,oj,cjj,hje,hth,hset⟩:=Ls5.T.bo.o3.set3 (i:=t) htJ
      have e1 : h5.aj = some ⟨bj,oj,none⟩:=by injection hje with e1 e2 e3
      have hrj : rowJ ⟨d.wk,d.up,d.now,d.sn,d.ep,d.gv,d.L1,d.L2 ++ [entS 2 d.ep (t : Nat) x],d.R.set t x,d.J,d.S,d.O⟩ h5 = some bj:=by unfold rowJ;rw [e1];rfl
      have y9 : wc.cell? ⟨Q,9,none⟩ = some (.slice (some ⟨bj,oj,none⟩) ts.length h5.cj):=by rw [← e1,← HJL.out];exact (Ls5.T.D 9 (by simp [bvs])).1
      have m5 : wc.cell? ⟨Q + 2,5,none⟩ = some (.int .i64 (t : Nat)):=(Ls5.M 5 (by simp)).1
      have g6 : wc.grownBy (wc.setCells bj (oj + t * 3) [.int .i64 0,.int .i64 0,.int .i64 0]) (rowJ ⟨d.wk,d.up,d.now,d.sn,d.ep,d.gv,d.L1,d.L2 ++ [entS 2 d.ep (t : Nat) x],d.R.set t x,d.J,d.S,d.O⟩ h5):=by rw [hrj];exact grown_setCells _ _ _ _ _ (World.grownBy.refl _ _)
      have L6:=Ls5.row (rowJ_mem _ _) g6 (Ls5.T.setJ (J:=d.J.set t (0,0,0)) (by rw [List.length_set]) g6 (hset ((0,0,0) : Tr))) (by unfold rowsB;simp only [List.length_set])
      have HREL:=hid (show ∃ h1,LrS w0 w B Q d h (.slice pa ts.length pc) [.int .i64 kd,.int .i64 ((k : Int) + 1),.int .i64 tw,.int .i64 ep,.int .i64 le,.int .i64 (t : Nat),.string x,.slice ua un uc] (keepR d ts (⟨kd,(k : Int) + 1,tw,ep,le,(t : Nat),x,ss⟩ : MgD)) h1 (wc.setCells bj (oj + t * 3) [.int .i64 0,.int .i64 0,.int .i64 0]) from ⟨h5,by rw [keepR_yes ⟨by have:=HDU.out.1;simpa using this,HDU.out.2⟩];exact L6⟩)
      clear hje e1 hrj hset g6 L6 Ls5
      go_wp2_with (refine wpList_store_j3 rfl (.tmp 69) (.tmp 68) rfl bj (oj + t * 3) 0 0 0 rfl rfl hth ?_)
      go_meet
      case rel=>exact HREL.out
   case rest =>
    obtain ⟨h1,Ls3⟩:=hcut
    clear Ls2 hb
    have hfk:=keepR_facts d ts (⟨kd,(k : Int) + 1,tw,ep,le,(t : Nat),x,ss⟩ : MgD)
    obtain ⟨dK,hdK⟩ : ∃ q,q = (keepR d ts (⟨kd,(k : Int) + 1,tw,ep,le,(t : Nat),x,ss⟩ : MgD)):=⟨_,rfl⟩
    rw [← hdK] at Ls3 hfk
    have HDK:=hid hdK
    have HFK:=hid hfk
    clear hdK hfk
    go_upto_region 7 with fail
    go_cut [76] (fun c wx=>∃ b : Bool,c = .bool b ∧ (b = true ↔ (rs dK.R t).size = 0) ∧ LrS w0 w B Q d h (.slice pa ts.length pc) [.int .i64 kd,.int .i64 ((k : Int) + 1),.int .i64 tw,.int .i64 ep,.int .i64 le,.int .i64 (t : Nat),.string x,.slice ua un uc] dK h1 wx)
    case first =>
     obtain ⟨br,or',crr,hre,hrc,_,_⟩:=Ls3.T.bo.o2.set1 (t:=t) (by rw [HFK.out.1,HRL.out];exact htl)
     have e1 : h1.ar = some ⟨br,or',none⟩:=by injection hre with e1 e2 e3
     obtain ⟨sR,hsR⟩ : ∃ s,s = rs dK.R t:=⟨_,rfl⟩
     rw [← hsR] at hrc
     have y8 : wc.cell? ⟨Q,8,none⟩ = some (.slice (some ⟨br,or',none⟩) ts.length h1.cr):=by rw [← e1,← HRL.out,← HFK.out.1];exact (Ls3.T.D 8 (by simp [bvs])).1
     have m5 : wc.cell? ⟨Q + 2,5,none⟩ = some (.int .i64 (t : Nat)):=(Ls3.M 5 (by simp)).1
     have htl' : ((t : Nat) : Int) < (ts.length : Int):=by omega
     have HSR:=hid hsR
     have HL3:=hid Ls3
     clear hre e1 hsR Ls3
     by_cases h0 : sR.size = 0
     ·have h0':=empty_t h0
      go_wp2_with fail
      go_meet
      case rel=>exact ⟨true,rfl,⟨fun _=>by rw [← HSR.out];exact h0,fun _=>rfl⟩,HL3.out⟩
     ·have h0':=empty_f h0
      go_wp2_with fail
      go_meet
      case rel=>exact ⟨false,rfl,⟨fun h=>(by cases h),fun h=>absurd (by rw [HSR.out];exact h) h0⟩,HL3.out⟩
    case rest =>
     obtain ⟨b,rfl,hb,Ls4⟩:=hcut
     clear Ls3
     go_upto_if 76 with fail
     go_cut [82] (fun _ wx=>LrS w0 w B Q d h (.slice pa ts.length pc) [.int .i64 kd,.int .i64 ((k : Int) + 1),.int .i64 tw,.int .i64 ep,.int .i64 le,.int .i64 (t : Nat),.string x,.slice ua un uc] (freeR dK (⟨kd,(k : Int) + 1,tw,ep,le,(t : Nat),x,ss⟩ : MgD)) h1 wx)
     case first =>
      cases b with
      | false =>
       have HREL:=hid (show LrS w0 w B Q d h (.slice pa ts.length pc) [.int .i64 kd,.int .i64 ((k : Int) + 1),.int .i64 tw,.int .i64 ep,.int .i64 le,.int .i64 (t : Nat),.string x,.slice ua un uc] (freeR dK (⟨kd,(k : Int) + 1,tw,ep,le,(t : Nat),x,ss⟩ : MgD)) h1 wc by rw [freeR_not (fun hh=>by have:=hb.2 (by simpa using hh);cases this)];exact Ls4)
       clear Ls4 hb
       go_wp2_with fail
       go_meet
       case rel=>exact HREL.out
      | true =>
       have H0:=hid (hb.1 rfl)
       clear hb
       obtain ⟨y0,y1,y2,y3,y4,y5,y6,y7,y8,y9,y10,y11⟩:=cf12 Ls4.T.D
       obtain ⟨n0,n1,n2,n3,n4,n5,n6,n7⟩:=cf8 Ls4.M
       have HFR:=hid (l5Free_any dK h1 kd tw ep le (t : Nat) k x ua un uc B wc Ls4.T.bo (by rw [HFK.out.2.1];exact hk) hk8)
       have HL4:=hid Ls4
       have hz4:=Ls4.q.2
       clear Ls4
       go_wp2_with fail
       refine HFR.out.mono ?_
       rintro _ w1 ⟨S',r,rfl,hfr,hSl,hbo,hgr⟩
       clear HFR y0 y1 y2 y3 y4 y5 y6 y7 y8 y9 y10 y11 n0 n1 n2 n3 n4 n5 n6 n7
       have hC1 : CF w1 Q [.int .i64 dK.wk,.bool dK.up,.int .i64 dK.now,.int .i64 dK.sn,.int .i64 dK.ep,.int .i64 dK.gv,.slice h1.a1 dK.L1.length h1.c1,.slice h1.a2 dK.L2.length h1.c2,.slice h1.ar dK.R.length h1.cr,.slice h1.aj dK.J.length h1.cj,.slice h1.az dK.S.length h1.cs,.slice h1.ao dK.O.length h1.co]:=by
        have h5 : CF wc Q [.int .i64 dK.wk,.bool dK.up,.int .i64 dK.now,.int .i64 dK.sn,.int .i64 dK.ep,.int .i64 dK.gv,.slice h1.a1 dK.L1.length h1.c1,.slice h1.a2 dK.L2.length h1.c2,.slice h1.ar dK.R.length h1.cr,.slice h1.aj dK.J.length h1.cj,.slice h1.az dK.S.length h1.cs,.slice h1.ao dK.O.length h1.co]:=by have:=HL4.out.T.D;rw [List.append_nil] at this;exact this
        exact h5.block (hgr.block Q (by omega) (fun z hz e=>by rw [List.mem_singleton.1 hz] at e;exact HL4.out.T.nr _ (rowS_mem dK h1) e))
       have HGR:=hid (And.intro hbo hgr)
       have HFS:=hid hfr
       have HSL:=hid hSl
       clear hbo hgr hfr hSl
       go_wp2_with (refine wpList_store_cf rfl 43 (.tmp 3) (.tmp 81) rfl Q [.int .i64 dK.wk,.bool dK.up,.int .i64 dK.now,.int .i64 dK.sn,.int .i64 dK.ep,.int .i64 dK.gv,.slice h1.a1 dK.L1.length h1.c1,.slice h1.a2 dK.L2.length h1.c2,.slice h1.ar dK.R.length h1.cr,.slice h1.aj dK.J.length h1.cj,.slice h1.az dK.S.length h1.cs,.slice h1.ao dK.O.length h1.co] [.int .i64 dK.wk,.bool dK.up,.int .i64 dK.now,.int .i64 dK.sn,.int .i64 dK.ep,.int .i64 dK.gv,.slice h1.a1 dK.L1.length h1.c1,.slice h1.a2 dK.L2.length h1.c2,.slice h1.ar dK.R.length h1.cr,.slice h1.aj dK.J.length h1.cj,.slice h1.az dK.S.length h1.cs,.slice h1.ao dK.O.length h1.co] rfl rfl hC1 rfl Tryz.sizeBo (one12b _ _ _ _ _ _ _ _ _ _ _ _ _ _ _ _ _ _ _ _ _ _ _ _) ?_;intro w10 hc10 hg10)
       have L8:=HL4.out.free (rowS_mem dK h1) HGR.out.1 HGR.out.2 hg10 (d':=⟨dK.wk,dK.up,dK.now,dK.sn,dK.ep,dK.gv,dK.L1,dK.L2,dK.R,dK.J,S',dK.O⟩) (by unfold bvs;simp only [HSL.out];exact hc10) (by unfold rowsB;simp only [HSL.out])
       have HREL:=hid (show LrS w0 w B Q d h (.slice pa ts.length pc) [.int .i64 kd,.int .i64 ((k : Int) + 1),.int .i64 tw,.int .i64 ep,.int .i64 le,.int .i64 (t : Nat),.string x,.slice ua un uc] (freeR dK (⟨kd,(k : Int) + 1,tw,ep,le,(t : Nat),x,ss⟩ : MgD)) h1 w10 by
        rcases HFS.out with ⟨hn,_,hSS⟩ | ⟨hn,_⟩
        ·rw [freeR_none (by exact hn)]
         rw [hSS] at L8
         exact L8
        ·rw [freeR_some (by have:=H0.out;simpa using this) (by exact hn)]
         exact L8)
       clear L8 HGR HFS hc10 hg10 hC1
       go_wp2_with fail
       go_meet
       case rel=>exact HREL.out
     case rest =>
      have Ls5:=hcut
      clear Ls4 hb
      have hff:=freeR_facts dK (⟨kd,(k : Int) + 1,tw,ep,le,(t : Nat),x,ss⟩ : MgD)
      obtain ⟨dF,hdF⟩ : ∃ q,q = freeR dK (⟨kd,(k : Int) + 1,tw,ep,le,(t : Nat),x,ss⟩ : MgD):=⟨_,rfl⟩
      rw [← hdF] at Ls5 hff
      have HE:=hid (show (resB d ts (⟨kd,(k : Int) + 1,tw,ep,le,(t : Nat),x,ss⟩ : MgD)) = oweR dF (⟨kd,(k : Int) + 1,tw,ep,le,(t : Nat),x,ss⟩ : MgD) by rw [resB_yes (by show ((t : Nat) : Int) < (ts.length : Int);omega),hdF,HDK.out])
      have HRF:=hid (show dF.R.length = ts.length by rw [hff.1,HFK.out.1,HRL.out])
      have HOF:=hid (show dF.O.length ≤ 2000 by rw [hff.2,HFK.out.2.2];exact hol)
      clear hdF hff
      go_upto_region 9 with fail
      go_cut [97] (fun c wx=>∃ b : Bool,c = .bool b ∧ (b = false ↔ rs dF.R t = x ∧ dF.O.length < 2000) ∧ LrS w0 w B Q d h (.slice pa ts.length pc) [.int .i64 kd,.int .i64 ((k : Int) + 1),.int .i64 tw,.int .i64 ep,.int .i64 le,.int .i64 (t : Nat),.string x,.slice ua un uc] dF h1 wx)
      case first =>
       obtain ⟨br,or',crr,hre,hrc,_,_⟩:=Ls5.T.bo.o2.set1 (t:=t) (by rw [HRF.out];exact htl)
       have e1 : h1.ar = some ⟨br,or',none⟩:=by injection hre with e1 e2 e3
       obtain ⟨sR,hsR⟩ : ∃ s,s = rs dF.R t:=⟨_,rfl⟩
       rw [← hsR] at hrc
       refine wp_region_held (S:=fun w'=>w'.cell? ⟨Q,8,none⟩ = some (.slice (some ⟨br,or',none⟩) ts.length h1.cr) ∧ w'.cell? ⟨Q + 2,5,none⟩ = some (.int .i64 (t : Nat)) ∧ w'.cell? ⟨Q + 2,6,none⟩ = some (.string x) ∧ w'.cell? ⟨br,or' + t,none⟩ = some (.string sR) ∧ w'.cell? ⟨Q,11,none⟩ = some (.slice h1.ao dF.O.length h1.co)) (by kernel_rfl) ?_
       change wpAnyH _ _ _ _ _ _ _ _ (World.drew _)
       have hS0 : wc.drew.cell? ⟨Q,8,none⟩ = some (.slice (some ⟨br,or',none⟩) ts.length h1.cr) ∧ wc.drew.cell? ⟨Q + 2,5,none⟩ = some (.int .i64 (t : Nat)) ∧ wc.drew.cell? ⟨Q + 2,6,none⟩ = some (.string x) ∧ wc.drew.cell? ⟨br,or' + t,none⟩ = some (.string sR) ∧ wc.drew.cell? ⟨Q,11,none⟩ = some (.slice h1.ao dF.O.length h1.co):=⟨by rw [← e1,← HRF.out];exact (Ls5.T.D 8 (by simp [bvs])).1,(Ls5.M 5 (by simp)).1,(Ls5.M 6 (by simp)).1,hrc,(Ls5.T.D 11 (by simp [bvs])).1⟩
       have Lx0:=Ls5.below (Below.refl wc.heap.size wc).drew
       obtain ⟨x0,hx0⟩ : ∃ U,U = wc.drew:=⟨_,rfl⟩
       rw [← hx0] at hS0 Lx0
       rw [← hx0]
       have HSR:=hid hsR
       have HL:=hid Lx0
       clear hx0 Ls5 Lx0 hre e1 hsR hrc
       by_cases hse : sR = x
       ·have hn1 : (!(sR.toList == x.toList)) = false:=by rw [hse];simp
        by_cases hge : dF.O.length < 2000
        ·have hg1 : decide ((2000 : Int) ≤ ((dF.O.length : Nat) : Int)) = false:=decide_eq_false (by omega)
         refine hTk (i:=0) (d:=some 83) (v:=.pointer (some ⟨Q,8,none⟩)) (l':=(bt 15 1)) rfl (fun _ hc=>run_faB7 (.tmp 3) (by kernel_rfl) (by kernel_rfl)) hS0 ?_
         refine hTk (i:=1) (d:=some 84) (v:=(.slice (some ⟨br,or',none⟩) ts.length h1.cr)) (l':=(bt 15 3)) rfl (fun _ hc=>run_ldLsB (.tmp 83) (by kernel_rfl) (by kernel_rfl) hc.1) hS0 ?_
         refine hTk (i:=2) (d:=some 85) (v:=.pointer (some ⟨Q + 2,5,none⟩)) (l':=(bt 15 7)) rfl (fun _ hc=>run_fM5 (.tmp 5) (by kernel_rfl) (by kernel_rfl)) hS0 ?_
         refine hTk (i:=3) (d:=some 86) (v:=.int .i64 (t : Nat)) (l':=(bt 15 15)) rfl (fun _ hc=>run_ldInB (.tmp 85) (by kernel_rfl) (by kernel_rfl) hc.2.1) hS0 ?_
         refine hTk (i:=4) (d:=some 87) (v:=.pointer (some ⟨br,or' + t,none⟩)) (l':=(bt 15 31)) rfl (fun _ hc=>run_ixSo (.tmp 84) (.tmp 86) br or' ts.length h1.cr t (by kernel_rfl) (by kernel_rfl) (by kernel_rfl) htl) hS0 ?_
         refine hTk (i:=5) (d:=some 88) (v:=.string sR) (l':=(bt 15 63)) rfl (fun _ hc=>run_ldStB (.tmp 87) (by kernel_rfl) (by kernel_rfl) hc.2.2.2.1) hS0 ?_
         refine hTk (i:=6) (d:=some 89) (v:=.pointer (some ⟨Q + 2,6,none⟩)) (l':=(bt 15 127)) rfl (fun _ hc=>run_fM6 (.tmp 5) (by kernel_rfl) (by kernel_rfl)) hS0 ?_
         refine hTk (i:=7) (d:=some 90) (v:=.string x) (l':=(bt 15 255)) rfl (fun _ hc=>run_ldStB (.tmp 89) (by kernel_rfl) (by kernel_rfl) hc.2.2.1) hS0 ?_
         refine hTk (i:=8) (d:=some 91) (v:=.bool false) (l':=(bt 15 511)) rfl (fun _ hc=>run_neS (.tmp 88) (.tmp 90) sR x false (by kernel_rfl) (by kernel_rfl) (by kernel_rfl) hn1) hS0 ?_
         refine hTk (i:=9) (d:=some 92) (v:=.bool false) (l':=(bt 15 1023)) rfl (fun _ hc=>run_mvF (.tmp 91) (by kernel_rfl) (by kernel_rfl)) hS0 ?_
         refine hTk (i:=10) (d:=some 93) (v:=.pointer (some ⟨Q,11,none⟩)) (l':=(bt 15 2047)) rfl (fun _ hc=>run_fB10 (.tmp 3) (by kernel_rfl) (by kernel_rfl)) hS0 ?_
         refine hTk (i:=11) (d:=some 94) (v:=(.slice h1.ao dF.O.length h1.co)) (l':=(bt 15 4095)) rfl (fun _ hc=>run_ldOsB (.tmp 93) (by kernel_rfl) (by kernel_rfl) hc.2.2.2.2) hS0 ?_
         refine hTk (i:=12) (d:=some 95) (v:=.int .i64 (dF.O.length : Nat)) (l':=(bt 15 8191)) rfl (fun _ hc=>run_lenOw (.tmp 94) h1.ao dF.O.length h1.co (by kernel_rfl) (by kernel_rfl)) hS0 ?_
         refine hTk (i:=13) (d:=some 96) (v:=.bool false) (l':=(bt 15 16383)) rfl (fun _ hc=>run_geB (.tmp 95) (.const (.int .i64 2000)) (dF.O.length : Nat) 2000 false (by kernel_rfl) (by kernel_rfl) (by kernel_rfl) hg1) hS0 ?_
         refine hTk (i:=14) (d:=some 97) (v:=.bool false) (l':=(bt 15 32767)) rfl (fun _ hc=>run_pkfB (.tmp 92) (.const (.bool true)) (.tmp 96) _ (by kernel_rfl) (by kernel_rfl) (by kernel_rfl)) hS0 ?_
         refine wpAnyH_done (by kernel_rfl) ?_ _
         clear hS0
         go_simp
         go_wp2_with fail
         go_meet
         case rel=>exact ⟨false,rfl,⟨fun _=>⟨by rw [← HSR.out];exact hse,hge⟩,fun _=>rfl⟩,HL.out⟩
        ·have hg1 : decide ((2000 : Int) ≤ ((dF.O.length : Nat) : Int)) = true:=decide_eq_true (by omega)
         refine hTk (i:=0) (d:=some 83) (v:=.pointer (some ⟨Q,8,none⟩)) (l':=(bt 15 1)) rfl (fun _ hc=>run_faB7 (.tmp 3) (by kernel_rfl) (by kernel_rfl)) hS0 ?_
         refine hTk (i:=1) (d:=some 84) (v:=(.slice (some ⟨br,or',none⟩) ts.length h1.cr)) (l':=(bt 15 3)) rfl (fun _ hc=>run_ldLsB (.tmp 83) (by kernel_rfl) (by kernel_rfl) hc.1) hS0 ?_
         refine hTk (i:=2) (d:=some 85) (v:=.pointer (some ⟨Q + 2,5,none⟩)) (l':=(bt 15 7)) rfl (fun _ hc=>run_fM5 (.tmp 5) (by kernel_rfl) (by kernel_rfl)) hS0 ?_
         refine hTk (i:=3) (d:=some 86) (v:=.int .i64 (t : Nat)) (l':=(bt 15 15)) rfl (fun _ hc=>run_ldInB (.tmp 85) (by kernel_rfl) (by kernel_rfl) hc.2.1) hS0 ?_
         refine hTk (i:=4) (d:=some 87) (v:=.pointer (some ⟨br,or' + t,none⟩)) (l':=(bt 15 31)) rfl (fun _ hc=>run_ixSo (.tmp 84) (.tmp 86) br or' ts.length h1.cr t (by kernel_rfl) (by kernel_rfl) (by kernel_rfl) htl) hS0 ?_
         refine hTk (i:=5) (d:=some 88) (v:=.string sR) (l':=(bt 15 63)) rfl (fun _ hc=>run_ldStB (.tmp 87) (by kernel_rfl) (by kernel_rfl) hc.2.2.2.1) hS0 ?_
         refine hTk (i:=6) (d:=some 89) (v:=.pointer (some ⟨Q + 2,6,none⟩)) (l':=(bt 15 127)) rfl (fun _ hc=>run_fM6 (.tmp 5) (by kernel_rfl) (by kernel_rfl)) hS0 ?_
         refine hTk (i:=7) (d:=some 90) (v:=.string x) (l':=(bt 15 255)) rfl (fun _ hc=>run_ldStB (.tmp 89) (by kernel_rfl) (by kernel_rfl) hc.2.2.1) hS0 ?_
         refine hTk (i:=8) (d:=some 91) (v:=.bool false) (l':=(bt 15 511)) rfl (fun _ hc=>run_neS (.tmp 88) (.tmp 90) sR x false (by kernel_rfl) (by kernel_rfl) (by kernel_rfl) hn1) hS0 ?_
         refine hTk (i:=9) (d:=some 92) (v:=.bool false) (l':=(bt 15 1023)) rfl (fun _ hc=>run_mvF (.tmp 91) (by kernel_rfl) (by kernel_rfl)) hS0 ?_
         refine hTk (i:=10) (d:=some 93) (v:=.pointer (some ⟨Q,11,none⟩)) (l':=(bt 15 2047)) rfl (fun _ hc=>run_fB10 (.tmp 3) (by kernel_rfl) (by kernel_rfl)) hS0 ?_
         refine hTk (i:=11) (d:=some 94) (v:=(.slice h1.ao dF.O.length h1.co)) (l':=(bt 15 4095)) rfl (fun _ hc=>run_ldOsB (.tmp 93) (by kernel_rfl) (by kernel_rfl) hc.2.2.2.2) hS0 ?_
         refine hTk (i:=12) (d:=some 95) (v:=.int .i64 (dF.O.length : Nat)) (l':=(bt 15 8191)) rfl (fun _ hc=>run_lenOw (.tmp 94) h1.ao dF.O.length h1.co (by kernel_rfl) (by kernel_rfl)) hS0 ?_
         refine hTk (i:=13) (d:=some 96) (v:=.bool true) (l':=(bt 15 16383)) rfl (fun _ hc=>run_geB (.tmp 95) (.const (.int .i64 2000)) (dF.O.length : Nat) 2000 true (by kernel_rfl) (by kernel_rfl) (by kernel_rfl) hg1) hS0 ?_
         refine hTk (i:=14) (d:=some 97) (v:=.bool true) (l':=(bt 15 32767)) rfl (fun _ hc=>run_pkfB (.tmp 92) (.const (.bool true)) (.tmp 96) _ (by kernel_rfl) (by kernel_rfl) (by kernel_rfl)) hS0 ?_
         refine wpAnyH_done (by kernel_rfl) ?_ _
         clear hS0
         go_simp
         go_wp2_with fail
         go_meet
         case rel=>exact ⟨true,rfl,⟨fun h=>(by cases h),fun h=>absurd h.2 hge⟩,HL.out⟩
       ·have hn1 : (!(sR.toList == x.toList)) = true:=by rw [str_ne hse];rfl
        refine hTk (i:=0) (d:=some 83) (v:=.pointer (some ⟨Q,8,none⟩)) (l':=(bt 15 1)) rfl (fun _ hc=>run_faB7 (.tmp 3) (by kernel_rfl) (by kernel_rfl)) hS0 ?_
        refine hTk (i:=1) (d:=some 84) (v:=(.slice (some ⟨br,or',none⟩) ts.length h1.cr)) (l':=(bt 15 3)) rfl (fun _ hc=>run_ldLsB (.tmp 83) (by kernel_rfl) (by kernel_rfl) hc.1) hS0 ?_
        refine hTk (i:=2) (d:=some 85) (v:=.pointer (some ⟨Q + 2,5,none⟩)) (l':=(bt 15 7)) rfl (fun _ hc=>run_fM5 (.tmp 5) (by kernel_rfl) (by kernel_rfl)) hS0 ?_
        refine hTk (i:=3) (d:=some 86) (v:=.int .i64 (t : Nat)) (l':=(bt 15 15)) rfl (fun _ hc=>run_ldInB (.tmp 85) (by kernel_rfl) (by kernel_rfl) hc.2.1) hS0 ?_
        refine hTk (i:=4) (d:=some 87) (v:=.pointer (some ⟨br,or' + t,none⟩)) (l':=(bt 15 31)) rfl (fun _ hc=>run_ixSo (.tmp 84) (.tmp 86) br or' ts.length h1.cr t (by kernel_rfl) (by kernel_rfl) (by kernel_rfl) htl) hS0 ?_
        refine hTk (i:=5) (d:=some 88) (v:=.string sR) (l':=(bt 15 63)) rfl (fun _ hc=>run_ldStB (.tmp 87) (by kernel_rfl) (by kernel_rfl) hc.2.2.2.1) hS0 ?_
        refine hTk (i:=6) (d:=some 89) (v:=.pointer (some ⟨Q + 2,6,none⟩)) (l':=(bt 15 127)) rfl (fun _ hc=>run_fM6 (.tmp 5) (by kernel_rfl) (by kernel_rfl)) hS0 ?_
        refine hTk (i:=7) (d:=some 90) (v:=.string x) (l':=(bt 15 255)) rfl (fun _ hc=>run_ldStB (.tmp 89) (by kernel_rfl) (by kernel_rfl) hc.2.2.1) hS0 ?_
        refine hTk (i:=8) (d:=some 91) (v:=.bool true) (l':=(bt 15 511)) rfl (fun _ hc=>run_neS (.tmp 88) (.tmp 90) sR x true (by kernel_rfl) (by kernel_rfl) (by kernel_rfl) hn1) hS0 ?_
        refine hTk (i:=9) (d:=some 92) (v:=.bool true) (l':=(bt 15 1023)) rfl (fun _ hc=>run_mvF (.tmp 91) (by kernel_rfl) (by kernel_rfl)) hS0 ?_
        refine hTn (i:=10) (d:=some 93) (l':=(bt 15 2047)) rfl hS0 ?_
        refine hTn (i:=11) (d:=some 94) (l':=(bt 15 4095)) rfl hS0 ?_
        refine hTn (i:=12) (d:=some 95) (l':=(bt 15 8191)) rfl hS0 ?_
        refine hTn (i:=13) (d:=some 96) (l':=(bt 15 16383)) rfl hS0 ?_
        refine hTk (i:=14) (d:=some 97) (v:=.bool true) (l':=(bt 15 32767)) rfl (fun _ hc=>run_pkB (.tmp 92) (.const (.bool true)) (.tmp 96) _ (by kernel_rfl) (by kernel_rfl) (by kernel_rfl)) hS0 ?_
        refine wpAnyH_done (by kernel_rfl) ?_ _
        clear hS0
        go_simp
        go_wp2_with fail
        go_meet
        case rel=>exact ⟨true,rfl,⟨fun h=>(by cases h),fun h=>absurd (by rw [HSR.out];exact h.1) hse⟩,HL.out⟩
      case rest =>
       obtain ⟨b,rfl,hb,Ls6⟩:=hcut
       clear Ls5
       cases b with
       | true =>
        have HNO:=hid (oweR_no (d:=dF) (m:=(⟨kd,(k : Int) + 1,tw,ep,le,(t : Nat),x,ss⟩ : MgD)) (fun hh=>by have:=hb.2 ⟨by have:=hh.1;simpa using this,hh.2.1⟩;cases this))
        clear hb
        have Lx:=Ls6
        obtain ⟨y0,y1,y2,y3,y4,y5,y6,y7,y8,y9,y10,y11⟩:=cf12 Lx.T.D
        have hZ:=Lx.Z
        have HLX:=hid Lx
        clear Lx
        go_wp2_with (refine wpList_store_cf rfl 43 (.tmp 6) (.tmp 98) rfl (Q + 3) zB [.int .i64 dF.wk,.bool dF.up,.int .i64 dF.now,.int .i64 dF.sn,.int .i64 dF.ep,.int .i64 dF.gv,.slice h1.a1 dF.L1.length h1.c1,.slice h1.a2 dF.L2.length h1.c2,.slice h1.ar dF.R.length h1.cr,.slice h1.aj dF.J.length h1.cj,.slice h1.az dF.S.length h1.cs,.slice h1.ao dF.O.length h1.co] rfl rfl hZ rfl Tryz.sizeBo (one12b _ _ _ _ _ _ _ _ _ _ _ _ _ _ _ _ _ _ _ _ _ _ _ _) ?_;intro w10 hc10 hg10)
        obtain ⟨k0,k1,k2,k3,k4,k5,k6,k7,k8,k9,k10,k11⟩:=cf12 hc10
        have hfin:=HLX.out.fin hg10
        have HQ1:=hid HLX.out.q.1
        exact bodyPost_ret (v:=.agg #[.int .i64 dF.wk,.bool dF.up,.int .i64 dF.now,.int .i64 dF.sn,.int .i64 dF.ep,.int .i64 dF.gv,.slice h1.a1 dF.L1.length h1.c1,.slice h1.a2 dF.L2.length h1.c2,.slice h1.ar dF.R.length h1.cr,.slice h1.aj dF.J.length h1.cj,.slice h1.az dF.S.length h1.cs,.slice h1.ao dF.O.length h1.co]) (by simp [results,Tryz.results31,go_sem,k0,k1,k2,k3,k4,k5,k6,k7,k8,k9,k10,k11]) rfl ⟨h1,by rw [HE.out,HNO.out];rfl,by rw [HE.out,HNO.out,← HQ1.out];exact hfin⟩
       | false =>
        have HYS:=hid (hb.1 rfl)
        clear hb
        have hol2:=HOF.out
        obtain ⟨bo,oo,hao⟩ : ∃ bo oo : Nat,0 < dF.O.length → h1.ao = some ⟨bo,oo,none⟩:=by
         by_cases h0 : 0 < dF.O.length
         ·obtain ⟨bo,oo,_,hoe,_,_⟩:=Ls6.T.bo.o5.set3 (i:=0) h0
          exact ⟨bo,oo,fun _=>by injection hoe with e1 e2 e3⟩
         ·exact ⟨0,0,fun h=>absurd h h0⟩
        have HAO:=hid hao
        have HL6:=hid Ls6
        clear hao Ls6
        go_wp2_with fail
        go_loopw [7] (fun xv wr=>∃ j : Nat,j ≤ dF.O.length ∧ xv = .int .i64 j ∧ Hid (∀ i,i < j → ¬ ((t3 dF.O i).1 = (k : Int) + 1 ∧ (t3 dF.O i).2.1 = le)) ∧ LrS w0 w B Q d h (.slice pa ts.length pc) [.int .i64 kd,.int .i64 ((k : Int) + 1),.int .i64 tw,.int .i64 ep,.int .i64 le,.int .i64 (t : Nat),.string x,.slice ua un uc] dF h1 wr) (fun xv _=>dF.O.length - (intOf xv).toNat)
        case atStart=>exact ⟨0,Nat.zero_le _,rfl,hid (fun i hi=>absurd hi (by omega)),HL6.out⟩
        case round =>
         clear HL6
         obtain ⟨j,hj,rfl,HNO,Ls7⟩:=hrel
         by_cases hjn : j < dF.O.length
         case pos =>
          have hjn' : (j : Int) < (dF.O.length : Int):=by omega
          have hc3 : ∀ r,r < 3 → wr.cell? ⟨bo,oo + (j * 3 + r),none⟩ = [Value.int .i64 (t3 dF.O j).1,.int .i64 (t3 dF.O j).2.1,.int .i64 (t3 dF.O j).2.2][r]?:=fun r hr=>by
           rcases Ls7.T.bo.o5 with ⟨hx,_⟩ | ⟨g',o'',cap',hx,hc⟩
           ·rw [HAO.out (by omega)] at hx;cases hx
           ·rw [HAO.out (by omega)] at hx
            injection hx with e1 e2 e3
            injection e1 with e1
            injection e1 with e4 e5
            subst e4 e5
            rw [hc.holds (j * 3 + r) (by omega)]
            exact c3_get dF.O j r hjn hr
          obtain ⟨o0,ho0⟩ : ∃ q,q = (t3 dF.O j).1:=⟨_,rfl⟩
          obtain ⟨o1,ho1⟩ : ∃ q,q = (t3 dF.O j).2.1:=⟨_,rfl⟩
          have hoc0 : wr.cell? ⟨bo,oo + j * 3,none⟩ = some (.int .i64 o0):=by rw [ho0];exact hc3 0 (by omega)
          have hoc1 : wr.cell? ⟨bo,oo + j * 3 + 1,none⟩ = some (.int .i64 o1):=by rw [ho1];exact hc3 1 (by omega)
          have y11 : wr.cell? ⟨Q,11,none⟩ = some (.slice (some ⟨bo,oo,none⟩) dF.O.length h1.co):=by rw [← HAO.out (by omega)];exact (Ls7.T.D 11 (by simp [bvs])).1
          have HO0:=hid ho0
          have HO1:=hid ho1
          have hS9 : wr.cell? ⟨Q,11,none⟩ = some (.slice (some ⟨bo,oo,none⟩) dF.O.length h1.co) ∧ wr.cell? ⟨bo,oo + j * 3,none⟩ = some (.int .i64 o0) ∧ wr.cell? ⟨bo,oo + j * 3 + 1,none⟩ = some (.int .i64 o1) ∧ wr.cell? ⟨Q + 2,1,none⟩ = some (.int .i64 ((k : Int) + 1)) ∧ wr.cell? ⟨Q + 2,4,none⟩ = some (.int .i64 le):=⟨y11,hoc0,hoc1,(Ls7.M 1 (by simp)).1,(Ls7.M 4 (by simp)).1⟩
          have HS9:=hid hS9
          clear ho0 ho1 hc3 hoc0 hoc1 hS9
          go_upto_region 14 with fail
          have hS9:=HS9.out
          clear y11 HS9
          refine wp_region_held (S:=fun w'=>w'.cell? ⟨Q,11,none⟩ = some (.slice (some ⟨bo,oo,none⟩) dF.O.length h1.co) ∧ w'.cell? ⟨bo,oo + j * 3,none⟩ = some (.int .i64 o0) ∧ w'.cell? ⟨bo,oo + j * 3 + 1,none⟩ = some (.int .i64 o1) ∧ w'.cell? ⟨Q + 2,1,none⟩ = some (.int .i64 ((k : Int) + 1)) ∧ w'.cell? ⟨Q + 2,4,none⟩ = some (.int .i64 le)) (by kernel_rfl) ?_
          change wpAnyH _ _ _ _ _ _ _ _ (World.drew _)
          have hS0 : wr.drew.cell? ⟨Q,11,none⟩ = some (.slice (some ⟨bo,oo,none⟩) dF.O.length h1.co) ∧ wr.drew.cell? ⟨bo,oo + j * 3,none⟩ = some (.int .i64 o0) ∧ wr.drew.cell? ⟨bo,oo + j * 3 + 1,none⟩ = some (.int .i64 o1) ∧ wr.drew.cell? ⟨Q + 2,1,none⟩ = some (.int .i64 ((k : Int) + 1)) ∧ wr.drew.cell? ⟨Q + 2,4,none⟩ = some (.int .i64 le):=hS9
          have Lx0:=Ls7.below (Below.refl wr.heap.size wr).drew
          obtain ⟨x0,hx0⟩ : ∃ U,U = wr.drew:=⟨_,rfl⟩
          rw [← hx0] at hS0 Lx0
          rw [← hx0]
          have HL:=hid Lx0
          clear hx0 Ls7 Lx0 hS9
          by_cases h1e : o0 = (k : Int) + 1
          ·have hq1 : (o0 == (k : Int) + 1) = true:=by simpa using h1e
           by_cases h2e : o1 = le
           ·have hq2 : (o1 == le) = true:=by simpa using h2e
            have HNW:=hid (oweR_no (d:=dF) (m:=(⟨kd,(k : Int) + 1,tw,ep,le,(t : Nat),x,ss⟩ : MgD)) (fun hh=>hh.2.2 ⟨j,hjn,by show (t3 dF.O j).1 = (k : Int) + 1;rw [← HO0.out];exact h1e,by show (t3 dF.O j).2.1 = le;rw [← HO1.out];exact h2e⟩))
            refine hTk (i:=0) (d:=some 106) (v:=.pointer (some ⟨Q,11,none⟩)) (l':=(bt 20 1)) rfl (fun _ hc=>run_fB10 (.tmp 3) (by kernel_rfl) (by kernel_rfl)) hS0 ?_
            refine hTk (i:=1) (d:=some 107) (v:=(.slice (some ⟨bo,oo,none⟩) dF.O.length h1.co)) (l':=(bt 20 3)) rfl (fun _ hc=>run_ldOsB (.tmp 106) (by kernel_rfl) (by kernel_rfl) hc.1) hS0 ?_
            refine hTk (i:=2) (d:=some 108) (v:=.int .i64 (j : Nat)) (l':=(bt 20 7)) rfl (fun _ hc=>run_mvF (.tmp 7) (by kernel_rfl) (by kernel_rfl)) hS0 ?_
            refine hTk (i:=3) (d:=some 109) (v:=.pointer (some ⟨bo,oo + j * 3,none⟩)) (l':=(bt 20 15)) rfl (fun _ hc=>run_ixOw (.tmp 107) (.tmp 108) bo oo dF.O.length h1.co j (by kernel_rfl) (by kernel_rfl) (by kernel_rfl) hjn) hS0 ?_
            refine hTk (i:=4) (d:=some 110) (v:=.pointer (some ⟨bo,oo + j * 3,none⟩)) (l':=(bt 20 31)) rfl (fun _ hc=>run_faO0 (.tmp 109) (by kernel_rfl) (by kernel_rfl)) hS0 ?_
            refine hTk (i:=5) (d:=some 111) (v:=.int .i64 o0) (l':=(bt 20 63)) rfl (fun _ hc=>run_ldInB (.tmp 110) (by kernel_rfl) (by kernel_rfl) hc.2.1) hS0 ?_
            refine hTk (i:=6) (d:=some 112) (v:=.pointer (some ⟨Q + 2,1,none⟩)) (l':=(bt 20 127)) rfl (fun _ hc=>run_fM1 (.tmp 5) (by kernel_rfl) (by kernel_rfl)) hS0 ?_
            refine hTk (i:=7) (d:=some 113) (v:=.int .i64 ((k : Int) + 1)) (l':=(bt 20 255)) rfl (fun _ hc=>run_ldInB (.tmp 112) (by kernel_rfl) (by kernel_rfl) hc.2.2.2.1) hS0 ?_
            refine hTk (i:=8) (d:=some 114) (v:=.bool true) (l':=(bt 20 511)) rfl (fun _ hc=>run_eqB (.tmp 111) (.tmp 113) o0 ((k : Int) + 1) true (by kernel_rfl) (by kernel_rfl) (by kernel_rfl) hq1) hS0 ?_
            refine hTk (i:=9) (d:=some 115) (v:=.bool true) (l':=(bt 20 1023)) rfl (fun _ hc=>run_mvF (.tmp 114) (by kernel_rfl) (by kernel_rfl)) hS0 ?_
            refine hTk (i:=10) (d:=some 116) (v:=.pointer (some ⟨Q,11,none⟩)) (l':=(bt 20 2047)) rfl (fun _ hc=>run_fB10 (.tmp 3) (by kernel_rfl) (by kernel_rfl)) hS0 ?_
            refine hTk (i:=11) (d:=some 117) (v:=(.slice (some ⟨bo,oo,none⟩) dF.O.length h1.co)) (l':=(bt 20 4095)) rfl (fun _ hc=>run_ldOsB (.tmp 116) (by kernel_rfl) (by kernel_rfl) hc.1) hS0 ?_
            refine hTk (i:=12) (d:=some 118) (v:=.int .i64 (j : Nat)) (l':=(bt 20 8191)) rfl (fun _ hc=>run_mvF (.tmp 7) (by kernel_rfl) (by kernel_rfl)) hS0 ?_
            refine hTk (i:=13) (d:=some 119) (v:=.pointer (some ⟨bo,oo + j * 3,none⟩)) (l':=(bt 20 16383)) rfl (fun _ hc=>run_ixOw (.tmp 117) (.tmp 118) bo oo dF.O.length h1.co j (by kernel_rfl) (by kernel_rfl) (by kernel_rfl) hjn) hS0 ?_
            refine hTk (i:=14) (d:=some 120) (v:=.pointer (some ⟨bo,oo + j * 3 + 1,none⟩)) (l':=(bt 20 32767)) rfl (fun _ hc=>run_faO1 (.tmp 119) (by kernel_rfl) (by kernel_rfl)) hS0 ?_
            refine hTk (i:=15) (d:=some 121) (v:=.int .i64 o1) (l':=(bt 20 65535)) rfl (fun _ hc=>run_ldInB (.tmp 120) (by kernel_rfl) (by kernel_rfl) hc.2.2.1) hS0 ?_
            refine hTk (i:=16) (d:=some 122) (v:=.pointer (some ⟨Q + 2,4,none⟩)) (l':=(bt 20 131071)) rfl (fun _ hc=>run_fM4 (.tmp 5) (by kernel_rfl) (by kernel_rfl)) hS0 ?_
            refine hTk (i:=17) (d:=some 123) (v:=.int .i64 le) (l':=(bt 20 262143)) rfl (fun _ hc=>run_ldInB (.tmp 122) (by kernel_rfl) (by kernel_rfl) hc.2.2.2.2) hS0 ?_
            refine hTk (i:=18) (d:=some 124) (v:=.bool true) (l':=(bt 20 524287)) rfl (fun _ hc=>run_eqB (.tmp 121) (.tmp 123) o1 le true (by kernel_rfl) (by kernel_rfl) (by kernel_rfl) hq2) hS0 ?_
            refine hTk (i:=19) (d:=some 125) (v:=.bool true) (l':=(bt 20 1048575)) rfl (fun _ hc=>run_pkB (.tmp 115) (.tmp 124) (.const (.bool false)) _ (by kernel_rfl) (by kernel_rfl) (by kernel_rfl)) hS0 ?_
            refine wpAnyH_done (by kernel_rfl) ?_ _
            clear hS0 hq1 hq2 h1e h2e
            go_simp
            have Lx:=HL.out
            obtain ⟨y0,y1,y2,y3,y4,y5,y6,y7,y8,y9,y10,y11⟩:=cf12 Lx.T.D
            have hZ:=Lx.Z
            have HLX:=hid Lx
            clear Lx
            go_wp2_with (refine wpList_store_cf rfl 43 (.tmp 6) (.tmp 126) rfl (Q + 3) zB [.int .i64 dF.wk,.bool dF.up,.int .i64 dF.now,.int .i64 dF.sn,.int .i64 dF.ep,.int .i64 dF.gv,.slice h1.a1 dF.L1.length h1.c1,.slice h1.a2 dF.L2.length h1.c2,.slice h1.ar dF.R.length h1.cr,.slice h1.aj dF.J.length h1.cj,.slice h1.az dF.S.length h1.cs,.slice h1.ao dF.O.length h1.co] rfl rfl hZ rfl Tryz.sizeBo (one12b _ _ _ _ _ _ _ _ _ _ _ _ _ _ _ _ _ _ _ _ _ _ _ _) ?_;intro w10 hc10 hg10)
            obtain ⟨k0,k1,k2,k3,k4,k5,k6,k7,k8,k9,k10,k11⟩:=cf12 hc10
            have hfin:=HLX.out.fin hg10
            have HQ1:=hid HLX.out.q.1
            exact bodyPost_ret (v:=.agg #[.int .i64 dF.wk,.bool dF.up,.int .i64 dF.now,.int .i64 dF.sn,.int .i64 dF.ep,.int .i64 dF.gv,.slice h1.a1 dF.L1.length h1.c1,.slice h1.a2 dF.L2.length h1.c2,.slice h1.ar dF.R.length h1.cr,.slice h1.aj dF.J.length h1.cj,.slice h1.az dF.S.length h1.cs,.slice h1.ao dF.O.length h1.co]) (by simp [results,Tryz.results31,go_sem,k0,k1,k2,k3,k4,k5,k6,k7,k8,k9,k10,k11]) rfl ⟨h1,by rw [HE.out,HNW.out];rfl,by rw [HE.out,HNW.out,← HQ1.out];exact hfin⟩
           ·have hq2 : (o1 == le) = false:=by simpa using h2e
            have HNE:=hid (show ¬ ((t3 dF.O j).1 = (k : Int) + 1 ∧ (t3 dF.O j).2.1 = le) from fun hh=>h2e (by rw [HO1.out];exact hh.2))
            refine hTk (i:=0) (d:=some 106) (v:=.pointer (some ⟨Q,11,none⟩)) (l':=(bt 20 1)) rfl (fun _ hc=>run_fB10 (.tmp 3) (by kernel_rfl) (by kernel_rfl)) hS0 ?_
            refine hTk (i:=1) (d:=some 107) (v:=(.slice (some ⟨bo,oo,none⟩) dF.O.length h1.co)) (l':=(bt 20 3)) rfl (fun _ hc=>run_ldOsB (.tmp 106) (by kernel_rfl) (by kernel_rfl) hc.1) hS0 ?_
            refine hTk (i:=2) (d:=some 108) (v:=.int .i64 (j : Nat)) (l':=(bt 20 7)) rfl (fun _ hc=>run_mvF (.tmp 7) (by kernel_rfl) (by kernel_rfl)) hS0 ?_
            refine hTk (i:=3) (d:=some 109) (v:=.pointer (some ⟨bo,oo + j * 3,none⟩)) (l':=(bt 20 15)) rfl (fun _ hc=>run_ixOw (.tmp 107) (.tmp 108) bo oo dF.O.length h1.co j (by kernel_rfl) (by kernel_rfl) (by kernel_rfl) hjn) hS0 ?_
            refine hTk (i:=4) (d:=some 110) (v:=.pointer (some ⟨bo,oo + j * 3,none⟩)) (l':=(bt 20 31)) rfl (fun _ hc=>run_faO0 (.tmp 109) (by kernel_rfl) (by kernel_rfl)) hS0 ?_
            refine hTk (i:=5) (d:=some 111) (v:=.int .i64 o0) (l':=(bt 20 63)) rfl (fun _ hc=>run_ldInB (.tmp 110) (by kernel_rfl) (by kernel_rfl) hc.2.1) hS0 ?_
            refine hTk (i:=6) (d:=some 112) (v:=.pointer (some ⟨Q + 2,1,none⟩)) (l':=(bt 20 127)) rfl (fun _ hc=>run_fM1 (.tmp 5) (by kernel_rfl) (by kernel_rfl)) hS0 ?_
            refine hTk (i:=7) (d:=some 113) (v:=.int .i64 ((k : Int) + 1)) (l':=(bt 20 255)) rfl (fun _ hc=>run_ldInB (.tmp 112) (by kernel_rfl) (by kernel_rfl) hc.2.2.2.1) hS0 ?_
            refine hTk (i:=8) (d:=some 114) (v:=.bool true) (l':=(bt 20 511)) rfl (fun _ hc=>run_eqB (.tmp 111) (.tmp 113) o0 ((k : Int) + 1) true (by kernel_rfl) (by kernel_rfl) (by kernel_rfl) hq1) hS0 ?_
            refine hTk (i:=9) (d:=some 115) (v:=.bool true) (l':=(bt 20 1023)) rfl (fun _ hc=>run_mvF (.tmp 114) (by kernel_rfl) (by kernel_rfl)) hS0 ?_
            refine hTk (i:=10) (d:=some 116) (v:=.pointer (some ⟨Q,11,none⟩)) (l':=(bt 20 2047)) rfl (fun _ hc=>run_fB10 (.tmp 3) (by kernel_rfl) (by kernel_rfl)) hS0 ?_
            refine hTk (i:=11) (d:=some 117) (v:=(.slice (some ⟨bo,oo,none⟩) dF.O.length h1.co)) (l':=(bt 20 4095)) rfl (fun _ hc=>run_ldOsB (.tmp 116) (by kernel_rfl) (by kernel_rfl) hc.1) hS0 ?_
            refine hTk (i:=12) (d:=some 118) (v:=.int .i64 (j : Nat)) (l':=(bt 20 8191)) rfl (fun _ hc=>run_mvF (.tmp 7) (by kernel_rfl) (by kernel_rfl)) hS0 ?_
            refine hTk (i:=13) (d:=some 119) (v:=.pointer (some ⟨bo,oo + j * 3,none⟩)) (l':=(bt 20 16383)) rfl (fun _ hc=>run_ixOw (.tmp 117) (.tmp 118) bo oo dF.O.length h1.co j (by kernel_rfl) (by kernel_rfl) (by kernel_rfl) hjn) hS0 ?_
            refine hTk (i:=14) (d:=some 120) (v:=.pointer (some ⟨bo,oo + j * 3 + 1,none⟩)) (l':=(bt 20 32767)) rfl (fun _ hc=>run_faO1 (.tmp 119) (by kernel_rfl) (by kernel_rfl)) hS0 ?_
            refine hTk (i:=15) (d:=some 121) (v:=.int .i64 o1) (l':=(bt 20 65535)) rfl (fun _ hc=>run_ldInB (.tmp 120) (by kernel_rfl) (by kernel_rfl) hc.2.2.1) hS0 ?_
            refine hTk (i:=16) (d:=some 122) (v:=.pointer (some ⟨Q + 2,4,none⟩)) (l':=(bt 20 131071)) rfl (fun _ hc=>run_fM4 (.tmp 5) (by kernel_rfl) (by kernel_rfl)) hS0 ?_
            refine hTk (i:=17) (d:=some 123) (v:=.int .i64 le) (l':=(bt 20 262143)) rfl (fun _ hc=>run_ldInB (.tmp 122) (by kernel_rfl) (by kernel_rfl) hc.2.2.2.2) hS0 ?_
            refine hTk (i:=18) (d:=some 124) (v:=.bool false) (l':=(bt 20 524287)) rfl (fun _ hc=>run_eqB (.tmp 121) (.tmp 123) o1 le false (by kernel_rfl) (by kernel_rfl) (by kernel_rfl) hq2) hS0 ?_
            refine hTk (i:=19) (d:=some 125) (v:=.bool false) (l':=(bt 20 1048575)) rfl (fun _ hc=>run_pkB (.tmp 115) (.tmp 124) (.const (.bool false)) _ (by kernel_rfl) (by kernel_rfl) (by kernel_rfl)) hS0 ?_
            refine wpAnyH_done (by kernel_rfl) ?_ _
            clear hS0
            go_simp
            go_wp2_with fail
            go_roundw
            case rel=>exact ⟨j + 1,by omega,by go_num,hid (fun i hi=>by
             by_cases e : i = j
             ·subst e;exact HNE.out
             ·exact HNO.out i (by omega)),HL.out⟩
            case measure=>simp [intOf];omega
          ·have hq1 : (o0 == (k : Int) + 1) = false:=by simpa using h1e
           have HNE:=hid (show ¬ ((t3 dF.O j).1 = (k : Int) + 1 ∧ (t3 dF.O j).2.1 = le) from fun hh=>h1e (by rw [HO0.out];exact hh.1))
           refine hTk (i:=0) (d:=some 106) (v:=.pointer (some ⟨Q,11,none⟩)) (l':=(bt 20 1)) rfl (fun _ hc=>run_fB10 (.tmp 3) (by kernel_rfl) (by kernel_rfl)) hS0 ?_
           refine hTk (i:=1) (d:=some 107) (v:=(.slice (some ⟨bo,oo,none⟩) dF.O.length h1.co)) (l':=(bt 20 3)) rfl (fun _ hc=>run_ldOsB (.tmp 106) (by kernel_rfl) (by kernel_rfl) hc.1) hS0 ?_
           refine hTk (i:=2) (d:=some 108) (v:=.int .i64 (j : Nat)) (l':=(bt 20 7)) rfl (fun _ hc=>run_mvF (.tmp 7) (by kernel_rfl) (by kernel_rfl)) hS0 ?_
           refine hTk (i:=3) (d:=some 109) (v:=.pointer (some ⟨bo,oo + j * 3,none⟩)) (l':=(bt 20 15)) rfl (fun _ hc=>run_ixOw (.tmp 107) (.tmp 108) bo oo dF.O.length h1.co j (by kernel_rfl) (by kernel_rfl) (by kernel_rfl) hjn) hS0 ?_
           refine hTk (i:=4) (d:=some 110) (v:=.pointer (some ⟨bo,oo + j * 3,none⟩)) (l':=(bt 20 31)) rfl (fun _ hc=>run_faO0 (.tmp 109) (by kernel_rfl) (by kernel_rfl)) hS0 ?_
           refine hTk (i:=5) (d:=some 111) (v:=.int .i64 o0) (l':=(bt 20 63)) rfl (fun _ hc=>run_ldInB (.tmp 110) (by kernel_rfl) (by kernel_rfl) hc.2.1) hS0 ?_
           refine hTk (i:=6) (d:=some 112) (v:=.pointer (some ⟨Q + 2,1,none⟩)) (l':=(bt 20 127)) rfl (fun _ hc=>run_fM1 (.tmp 5) (by kernel_rfl) (by kernel_rfl)) hS0 ?_
           refine hTk (i:=7) (d:=some 113) (v:=.int .i64 ((k : Int) + 1)) (l':=(bt 20 255)) rfl (fun _ hc=>run_ldInB (.tmp 112) (by kernel_rfl) (by kernel_rfl) hc.2.2.2.1) hS0 ?_
           refine hTk (i:=8) (d:=some 114) (v:=.bool false) (l':=(bt 20 511)) rfl (fun _ hc=>run_eqB (.tmp 111) (.tmp 113) o0 ((k : Int) + 1) false (by kernel_rfl) (by kernel_rfl) (by kernel_rfl) hq1) hS0 ?_
           refine hTk (i:=9) (d:=some 115) (v:=.bool false) (l':=(bt 20 1023)) rfl (fun _ hc=>run_mvF (.tmp 114) (by kernel_rfl) (by kernel_rfl)) hS0 ?_
           refine hTn (i:=10) (d:=some 116) (l':=(bt 20 2047)) rfl hS0 ?_
           refine hTn (i:=11) (d:=some 117) (l':=(bt 20 4095)) rfl hS0 ?_
           refine hTn (i:=12) (d:=some 118) (l':=(bt 20 8191)) rfl hS0 ?_
           refine hTn (i:=13) (d:=some 119) (l':=(bt 20 16383)) rfl hS0 ?_
           refine hTn (i:=14) (d:=some 120) (l':=(bt 20 32767)) rfl hS0 ?_
           refine hTn (i:=15) (d:=some 121) (l':=(bt 20 65535)) rfl hS0 ?_
           refine hTn (i:=16) (d:=some 122) (l':=(bt 20 131071)) rfl hS0 ?_
           refine hTn (i:=17) (d:=some 123) (l':=(bt 20 262143)) rfl hS0 ?_
           refine hTn (i:=18) (d:=some 124) (l':=(bt 20 524287)) rfl hS0 ?_
           refine hTk (i:=19) (d:=some 125) (v:=.bool false) (l':=(bt 20 1048575)) rfl (fun _ hc=>run_pkfB (.tmp 115) (.tmp 124) (.const (.bool false)) _ (by kernel_rfl) (by kernel_rfl) (by kernel_rfl)) hS0 ?_
           refine wpAnyH_done (by kernel_rfl) ?_ _
           clear hS0
           go_simp
           go_wp2_with fail
           go_roundw
           case rel=>exact ⟨j + 1,by omega,by go_num,hid (fun i hi=>by
            by_cases e : i = j
            ·subst e;exact HNE.out
            ·exact HNO.out i (by omega)),HL.out⟩
           case measure=>simp [intOf];omega
         case neg =>
          obtain rfl : j = dF.O.length:=by omega
          have hjn' : ¬ (dF.O.length : Int) < (dF.O.length : Int):=by omega
          obtain ⟨iO,hiO,hO0,hO1,hO2⟩:=info_parts Tryz.infoOw
          have hq:=Ls7.q.2
          have hqT:=Ls7.T.q
          have hbA : Below wr.heap.size wr (wr.alloc (.cells #[.int .i64 ((k : Int) + 1),.int .i64 le,.int .i64 (t : Nat)] 114)):=(Below.refl _ _).alloc (Nat.le_refl _) _
          have own1 : Own B (wr.alloc (.cells #[.int .i64 ((k : Int) + 1),.int .i64 le,.int .i64 (t : Nat)] 114)) 3 (.slice (some ⟨wr.heap.size,0,none⟩) 1 1) 1 [.int .i64 ((k : Int) + 1),.int .i64 le,.int .i64 (t : Nat)] :=
           .inr ⟨_,0,1,rfl,OwnC.made wr B 114 3 1 1 _ 3 (by omega) (Nat.le_refl _) (by unfold maxLen;omega) rfl (Nat.le_refl _) _ rfl _ (.inl rfl)⟩
          have src1 : Src Tryz.prog 3 41 _ 1 _ (wr.alloc (.cells #[.int .i64 ((k : Int) + 1),.int .i64 le,.int .i64 (t : Nat)] 114)):=own1.src Tryz.underlying41 (by intro v hv;simp only [List.mem_cons,List.not_mem_nil,or_false] at hv;rcases hv with rfl | rfl | rfl <;> rfl)
          have rowA:=Ls7.T.bo.o5.below hbA (Nat.le_refl _)
          have y11 : wr.cell? ⟨Q,11,none⟩ = some (.slice h1.ao dF.O.length h1.co):=(Ls7.T.D 11 (by simp [bvs])).1
          obtain ⟨-,m1,-,-,m4,m5⟩:=cf6 Ls7.M
          have hOl:=HYS.out.2
          have HL7:=hid Ls7
          obtain ⟨wA,hwA⟩ : ∃ V,V = wr.alloc (.cells #[.int .i64 ((k : Int) + 1),.int .i64 le,.int .i64 (t : Nat)] 114):=⟨_,rfl⟩
          rw [← hwA] at own1 src1 rowA
          have hzA : wA.heap.size = wr.heap.size + 1:=by rw [hwA];simp
          have HWA:=hid hwA
          clear hwA Ls7 own1 hbA
          go_upto_region 17 with (at_builtin;rw [← HWA.out];refine wpList_append_c _ rfl _ _ 41 41 rfl B 114 iO (.agg #[.int .i64 0,.int .i64 0,.int .i64 0]) 3 24 Tryz.underlying41 hiO hO0 hO1 hO2 rfl _ dF.O.length _ rfl rowA _ 1 _ rfl src1 (by unfold maxLen;omega) (by omega) (by omega) ?_;intro v' w9 ho9 hg9 hbk9;obtain ⟨a9,c9,rfl⟩:=ho9.slc;have hap:=HL7.out.T.appO (x:=((k : Int) + 1,le,((t : Nat) : Int))) ho9 (by rw [← HWA.out];exact hg9) (by rw [← HWA.out];exact hbk9);have f11 : w9.frozen? ⟨Q,11,none⟩ = false:=(hap.1 11 (by simp [bvs])).2;have l11 : w9.cell? ⟨Q,11,none⟩ = some (.slice h1.ao dF.O.length h1.co):=(hap.1 11 (by simp [bvs])).1)
          have LF:=HL7.out.app (rowO_mem _ _) (by rw [← HWA.out];exact hg9) hap.2 (appO_rows (by rw [← HWA.out];exact hbk9))
          obtain ⟨wF,hwF⟩ : ∃ V,V = w9.setCell ⟨Q,11,none⟩ (.slice a9 (dF.O.length + 1) c9):=⟨_,rfl⟩
          rw [← hwF] at LF
          rw [← hwF]
          have HYY:=hid (oweR_yes (d:=dF) (m:=(⟨kd,(k : Int) + 1,tw,ep,le,(t : Nat),x,ss⟩ : MgD)) ⟨by have:=HYS.out.1;simpa using this,HYS.out.2,fun ⟨i,hi,hh⟩=>HNO.out i hi hh⟩)
          have HLF:=hid LF
          have hCF : CF wF Q [.int .i64 dF.wk,.bool dF.up,.int .i64 dF.now,.int .i64 dF.sn,.int .i64 dF.ep,.int .i64 dF.gv,.slice h1.a1 dF.L1.length h1.c1,.slice h1.a2 dF.L2.length h1.c2,.slice h1.ar dF.R.length h1.cr,.slice h1.aj dF.J.length h1.cj,.slice h1.az dF.S.length h1.cs,.slice a9 (dF.O.length + 1) c9]:=by have:=LF.T.D;rw [List.append_nil] at this;unfold bvs at this;rw [List.length_append,List.length_singleton] at this;exact this
          have hZ:=LF.Z
          clear hwF LF hap f11 l11 ho9 hg9 hbk9 rowA src1 y11 m1 m4 m5 HL7
          obtain ⟨y0,y1,y2,y3,y4,y5,y6,y7,y8,y9,y10,y11⟩:=cf12 hCF
          go_wp2_with (refine wpList_store_cf rfl 43 (.tmp 6) (.tmp 139) rfl (Q + 3) zB [.int .i64 dF.wk,.bool dF.up,.int .i64 dF.now,.int .i64 dF.sn,.int .i64 dF.ep,.int .i64 dF.gv,.slice h1.a1 dF.L1.length h1.c1,.slice h1.a2 dF.L2.length h1.c2,.slice h1.ar dF.R.length h1.cr,.slice h1.aj dF.J.length h1.cj,.slice h1.az dF.S.length h1.cs,.slice a9 (dF.O.length + 1) c9] rfl rfl hZ rfl Tryz.sizeBo (one12b _ _ _ _ _ _ _ _ _ _ _ _ _ _ _ _ _ _ _ _ _ _ _ _) ?_;intro w10 hc10 hg10)
          obtain ⟨k0,k1,k2,k3,k4,k5,k6,k7,k8,k9,k10,k11⟩:=cf12 hc10
          have hfin:=HLF.out.fin hg10
          have HQ1:=hid HLF.out.q.1
          exact bodyPost_ret (v:=.agg #[.int .i64 dF.wk,.bool dF.up,.int .i64 dF.now,.int .i64 dF.sn,.int .i64 dF.ep,.int .i64 dF.gv,.slice h1.a1 dF.L1.length h1.c1,.slice h1.a2 dF.L2.length h1.c2,.slice h1.ar dF.R.length h1.cr,.slice h1.aj dF.J.length h1.cj,.slice h1.az dF.S.length h1.cs,.slice a9 (dF.O.length + 1) c9]) (by simp [results,Tryz.results31,go_sem,k0,k1,k2,k3,k4,k5,k6,k7,k8,k9,k10,k11]) rfl ⟨⟨h1.a1,h1.a2,h1.ar,h1.aj,h1.az,a9,h1.c1,h1.c2,h1.cr,h1.cj,h1.cs,c9⟩,by rw [HE.out,HYY.out];unfold bvs;simp only [List.length_append,List.length_singleton],by rw [HE.out,HYY.out,← HQ1.out];exact hfin⟩
end Go.Proofs.YtaeomkpofcbmiaaGreatDoor
