
import Derived.Test.YtaeomkpofcbmiaaGreatDoorQBdm
import Derived.Test.YtaeomkpofcbmiaaGreatDoorQBrl
import Derived.Test.YtaeomkpofcbmiaaGreatDoorQBha
import Derived.Deep.DeepCutAuto
set_option maxHeartbeats 8000000
set_option maxRecDepth 100000
namespace Go.Proofs.YtaeomkpofcbmiaaGreatDoor
open Go.RowKit
open Classical in
noncomputable def oweO (d : BD) (fm le ta : Int) : BD :=
 if d.O.length < 2000 ∧ ¬ (∃ j,j < d.O.length ∧ (t3 d.O j).1 = fm ∧ (t3 d.O j).2.1 = le) then ⟨d.wk,d.up,d.now,d.sn,d.ep,d.gv,d.L1,d.L2,d.R,d.J,d.S,d.O ++ [(fm,le,ta)]⟩ else d
theorem oweO_no {d : BD} {fm le ta : Int} (h : ¬ (d.O.length < 2000 ∧ ¬ (∃ j,j < d.O.length ∧ (t3 d.O j).1 = fm ∧ (t3 d.O j).2.1 = le))) : oweO d fm le ta = d:=by unfold oweO;rw [if_neg h]
theorem oweO_yes {d : BD} {fm le ta : Int} (h : d.O.length < 2000 ∧ ¬ (∃ j,j < d.O.length ∧ (t3 d.O j).1 = fm ∧ (t3 d.O j).2.1 = le)) : oweO d fm le ta = ⟨d.wk,d.up,d.now,d.sn,d.ep,d.gv,d.L1,d.L2,d.R,d.J,d.S,d.O ++ [(fm,le,ta)]⟩:=by unfold oweO;rw [if_pos h]
theorem Tryz.sizeOwB : (Tryz.prog.info? 114).map (·.size) = some 3:=by kernel_rfl
theorem run_bsOw {ρ : Operand → Value} {o : Oper} {w : World} (y : Operand) (a b c : Int) (h : o.op = .buildSlice 41 1 #[(0,y)]) (hx : ρ y = .agg #[.int .i64 a,.int .i64 b,.int .i64 c]) :
  (execOp ρ o).run Tryz.prog w = .ok (.value (.slice (some ⟨w.heap.size,0,none⟩) 1 1)) (w.alloc (.cells #[.int .i64 a,.int .i64 b,.int .i64 c] 114)):=by
 unfold execOp;rw [h];simp [go_sem,hx]
theorem run_stOs {ρ : Operand → Value} {o : Oper} {w : World} {p : Addr} {v0 : Value} (x y : Operand) (a : Option Addr) (n c : Nat) (h : o.op = .store 41 x y) (hx : ρ x = .pointer (some p)) (hy : ρ y = .slice a n c) (hc : w.cell? p = some v0) (hf : w.frozen? p = false) : (execOp ρ o).run Tryz.prog w = .ok .skip (w.setCell p (.slice a n c)):=by
 unfold execOp;rw [h];simp [go_sem,hx,hy,hc,hf]
theorem appO_rowsT {wr : World} {d : BD} {h : BH} {x : Tr} {ob : Obj} {a9 : Option Addr} {c9 : Nat} (hbk : (Value.slice a9 (d.O.length + 1) c9).ownBlock = rowO d h ∨ (Value.slice a9 (d.O.length + 1) c9).ownBlock = some (wr.alloc ob).heap.size) : ∀ r ∈ rowsB ⟨d.wk,d.up,d.now,d.sn,d.ep,d.gv,d.L1,d.L2,d.R,d.J,d.S,d.O ++ [x]⟩ ⟨h.a1,h.a2,h.ar,h.aj,h.az,a9,h.c1,h.c2,h.cr,h.cj,h.cs,c9⟩,r ∈ rowsB d h ∨ r = some (wr.alloc ob).heap.size:=fun r hr=>by
 simp only [rowsB,List.mem_cons,List.not_mem_nil,or_false,List.length_append,List.length_singleton] at hr
 rcases hr with rfl | rfl | rfl | rfl | rfl | rfl
 ·exact .inl (by simp [rowsB])
 ·exact .inl (by simp [rowsB])
 ·exact .inl (by simp [rowsB])
 ·exact .inl (by simp [rowsB])
 ·exact .inl (by simp [rowsB])
 ·rcases hbk with e | e
  ·exact .inl (by rw [e];exact rowO_mem d h)
  ·exact .inr e
theorem owe_any (w0 : World) (B Qd Qp : Nat) (ts : List TaskD) (pa : Option Addr) (pc nb : Nat) (d : BD) (h : BH) (fm le ta : Int) (w : World) (s : TmS w0 B Qd Qp ts pa pc nb d h w) (hol : d.O.length ≤ 2000) :
  Calls Tryz.prog 118 #[.pointer (some ⟨Qd,0,none⟩),.agg #[.int .i64 fm,.int .i64 le,.int .i64 ta]] w fun e w'=>e = .returned (.tuple #[]) ∧ ∃ h',TmS w0 B Qd Qp ts pa pc nb (oweO d fm le ta) h' w':=by
 obtain ⟨W,hW⟩ : ∃ V,V = w.alloc (.cells #[.int .i64 fm,.int .i64 le,.int .i64 ta] 114):=⟨_,rfl⟩
 obtain ⟨Qx,hQx⟩ : ∃ q,q = w.heap.size:=⟨_,rfl⟩
 have hbW : Below w.heap.size w W:=by rw [hW];exact (Below.refl _ _).alloc (Nat.le_refl _) _
 have cW : CF W Qx [.int .i64 fm,.int .i64 le,.int .i64 ta]:=by rw [hW,hQx];exact CF.made w #[.int .i64 fm,.int .i64 le,.int .i64 ta] 114
 have zW : W.heap.size = Qx + 1:=by rw [hW,hQx];simp
 have sW:=s.below hbW
 have hq:=s.T.q
 have hNR : ∀ r ∈ rowsB d h,∀ q,r = some q → q < Qx:=fun r hr q e=>by rw [hQx];exact (s.T.bo.lo r hr q e).2
 have hdx : Qd < Qx:=by omega
 have y11 : W.cell? ⟨Qd,11,none⟩ = some (.slice h.ao d.O.length h.co):=(sW.T.D 11 (by simp [bvs])).1
 have HW:=hid hW
 have HQ:=hid hQx
 have HNR:=hid hNR
 clear hW hQx hbW s hNR hq
 go_enter Tryz.func118,Tryz.ntmps118
 go_upto_region 1 with fail
 rw [← HW.out,← HQ.out]
 clear HW HQ
 by_cases h2k : d.O.length = 2000
 case pos =>
  have hbb : (((d.O.length : Nat) : Int) == 2000) = true:=by simp;omega
  have HF:=hid (show ∃ h',TmS w0 B Qd Qp ts pa pc nb (oweO d fm le ta) h' W from ⟨h,by rw [oweO_no (fun hh=>by have:=hh.1;omega)];exact sW⟩)
  clear sW h2k
  go_wp2_with fail
  (try simp only [Exit.inBlock,Exit.then])
  refine bodyPost_ret (results_none rfl _ _ _) rfl ?_
  exact ⟨rfl,HF.out⟩
 case neg =>
  have hbb : (((d.O.length : Nat) : Int) == 2000) = false:=by simp;omega
  obtain ⟨bo,oo,hao⟩ : ∃ bo oo : Nat,0 < d.O.length → h.ao = some ⟨bo,oo,none⟩:=by
   by_cases h0 : 0 < d.O.length
   ·obtain ⟨bo,oo,_,hoe,_,_⟩:=sW.T.bo.o5.set3 (i:=0) h0
    exact ⟨bo,oo,fun _=>by injection hoe with e1 e2 e3⟩
   ·exact ⟨0,0,fun h=>absurd h h0⟩
  have h2l : d.O.length < 2000:=by omega
  have HCW:=hid cW
  have HSW:=hid sW
  clear cW sW h2k
  obtain ⟨a1,a2,ar,aj,az,ao,c1,c2,cr,cj,cs,co⟩:=h
  go_wp2_with fail
  clear y11 hbb
  go_loopw [19] (fun xv wr=>∃ j : Nat,j ≤ d.O.length ∧ xv = .int .i64 j ∧ Hid (∀ i,i < j → ¬ ((t3 d.O i).1 = fm ∧ (t3 d.O i).2.1 = le)) ∧ TmS w0 B Qd Qp ts pa pc nb d ⟨a1,a2,ar,aj,az,ao,c1,c2,cr,cj,cs,co⟩ wr ∧ CF wr Qx [.int .i64 fm,.int .i64 le,.int .i64 ta] ∧ Qx < wr.heap.size) (fun xv _=>d.O.length - (intOf xv).toNat)
  case atStart=>exact ⟨0,Nat.zero_le _,rfl,hid (fun i hi=>absurd hi (by omega)),HSW.out,HCW.out,by omega⟩
  case round =>
   clear HSW HCW
   obtain ⟨j,hj,rfl,HNO,hs,hcx,hlx⟩:=hrel
   by_cases hjn : j < d.O.length
   case pos =>
    have hjn' : (j : Int) < (d.O.length : Int):=by omega
    obtain rfl:=hao (by omega)
    have hc3 : ∀ r,r < 3 → wr.cell? ⟨bo,oo + (j * 3 + r),none⟩ = [Value.int .i64 (t3 d.O j).1,.int .i64 (t3 d.O j).2.1,.int .i64 (t3 d.O j).2.2][r]?:=fun r hr=>by
     rcases hs.T.bo.o5 with ⟨hx,_⟩ | ⟨g',o'',cap',hx,hc⟩
     ·cases hx
     ·injection hx with e1 e2 e3
      injection e1 with e1
      injection e1 with e4 e5
      subst e4 e5
      rw [hc.holds (j * 3 + r) (by omega)]
      exact c3_get d.O j r hjn hr
    obtain ⟨o0,ho0⟩ : ∃ q,q = (t3 d.O j).1:=⟨_,rfl⟩
    obtain ⟨o1,ho1⟩ : ∃ q,q = (t3 d.O j).2.1:=⟨_,rfl⟩
    obtain ⟨o2,ho2⟩ : ∃ q,q = (t3 d.O j).2.2:=⟨_,rfl⟩
    have oc0 : wr.cell? ⟨bo,oo + j * 3,none⟩ = some (.int .i64 o0):=by rw [ho0];exact hc3 0 (by omega)
    have oc1 : wr.cell? ⟨bo,oo + j * 3 + 1,none⟩ = some (.int .i64 o1):=by rw [ho1];exact hc3 1 (by omega)
    have oc2 : wr.cell? ⟨bo,oo + j * 3 + 2,none⟩ = some (.int .i64 o2):=by rw [ho2];exact hc3 2 (by omega)
    have HO0:=hid ho0
    have HO1:=hid ho1
    clear ho0 ho1 ho2 hc3
    go_upto_region 5 with fail
    obtain ⟨WB,hWB⟩ : ∃ V,V = wr.alloc (.cells #[.int .i64 o0,.int .i64 o1,.int .i64 o2] 114):=⟨_,rfl⟩
    obtain ⟨Qb,hQb⟩ : ∃ q,q = wr.heap.size:=⟨_,rfl⟩
    have hbB : Below wr.heap.size wr WB:=by rw [hWB];exact (Below.refl _ _).alloc (Nat.le_refl _) _
    have cB : CF WB Qb [.int .i64 o0,.int .i64 o1,.int .i64 o2]:=by rw [hWB,hQb];exact CF.made wr #[.int .i64 o0,.int .i64 o1,.int .i64 o2] 114
    have sB:=hs.below hbB
    have cX:=hcx.block (hbB.block Qx hlx)
    have lX : Qx < WB.heap.size:=Nat.lt_of_lt_of_le hlx hbB.size
    rw [← hWB,← hQb]
    clear hWB hQb hbB hs oc0 oc1 oc2 hcx hlx
    obtain ⟨b0,b1⟩:=cf2 cB
    obtain ⟨n0,n1⟩:=cf2 cX
    have HSB:=hid (And.intro sB (And.intro cX lX))
    clear sB cB cX lX
    by_cases h1e : o0 = fm
    ·have hq1 : (o0 == fm) = true:=by simpa using h1e
     by_cases h2e : o1 = le
     ·have hq2 : (o1 == le) = true:=by simpa using h2e
      have HF:=hid (show ∃ h',TmS w0 B Qd Qp ts pa pc nb (oweO d fm le ta) h' WB from ⟨_,by rw [oweO_no (fun hh=>hh.2 ⟨j,hjn,by rw [← HO0.out];exact h1e,by rw [← HO1.out];exact h2e⟩)];exact HSB.out.1⟩)
      clear h1e h2e
      go_wp2_with fail
      (try simp only [Exit.inBlock,Exit.then])
      refine bodyPost_ret (results_none rfl _ _ _) rfl ?_
      exact ⟨rfl,HF.out⟩
     ·have hq2 : (o1 == le) = false:=by simpa using h2e
      have HNE:=hid (show ¬ ((t3 d.O j).1 = fm ∧ (t3 d.O j).2.1 = le) from fun hh=>h2e (by rw [HO1.out];exact hh.2))
      clear h1e h2e
      go_wp2_with fail
      go_roundw
      case rel=>exact ⟨j + 1,by omega,by go_num,hid (fun i hi=>by
       by_cases e : i = j
       ·subst e;exact HNE.out
       ·exact HNO.out i (by omega)),HSB.out.1,HSB.out.2.1,HSB.out.2.2⟩
      case measure=>simp [intOf];omega
    ·have hq1 : (o0 == fm) = false:=by simpa using h1e
     have HNE:=hid (show ¬ ((t3 d.O j).1 = fm ∧ (t3 d.O j).2.1 = le) from fun hh=>h1e (by rw [HO0.out];exact hh.1))
     clear h1e
     go_wp2_with fail
     go_roundw
     case rel=>exact ⟨j + 1,by omega,by go_num,hid (fun i hi=>by
      by_cases e : i = j
      ·subst e;exact HNE.out
      ·exact HNO.out i (by omega)),HSB.out.1,HSB.out.2.1,HSB.out.2.2⟩
     case measure=>simp [intOf];omega
   case neg =>
    obtain rfl : j = d.O.length:=by omega
    have hjn' : ¬ (d.O.length : Int) < (d.O.length : Int):=by omega
    go_upto_region 7 with fail
    obtain ⟨iO,hiO,hO0,hO1,hO2⟩:=info_parts Tryz.infoOw
    refine wp_region_held (S:=fun w'=>CF w' Qx [.int .i64 fm,.int .i64 le,.int .i64 ta]) (by kernel_rfl) ?_
    change wpAnyH _ _ _ _ _ _ _ _ (World.drew _)
    have s0:=hs.below (Below.refl wr.heap.size wr).drew
    have hS0 : CF wr.drew Qx [.int .i64 fm,.int .i64 le,.int .i64 ta]:=hcx
    have lx0 : Qx < wr.drew.heap.size:=hlx
    obtain ⟨x0,hx0⟩ : ∃ U,U = wr.drew:=⟨_,rfl⟩
    rw [← hx0] at s0 hS0 lx0
    rw [← hx0]
    clear hx0 hs hcx hlx
    have hq:=s0.T.q
    have hbA : Below x0.heap.size x0 (x0.alloc (.cells #[.int .i64 fm,.int .i64 le,.int .i64 ta] 114)):=(Below.refl _ _).alloc (Nat.le_refl _) _
    have own1 : Own B (x0.alloc (.cells #[.int .i64 fm,.int .i64 le,.int .i64 ta] 114)) 3 (.slice (some ⟨x0.heap.size,0,none⟩) 1 1) 1 [.int .i64 fm,.int .i64 le,.int .i64 ta] :=
     .inr ⟨_,0,1,rfl,OwnC.made x0 B 114 3 1 1 _ 3 (by omega) (Nat.le_refl _) (by unfold maxLen;omega) rfl (Nat.le_refl _) _ rfl _ (.inl rfl)⟩
    have src1 : Src Tryz.prog 3 41 _ 1 _ (x0.alloc (.cells #[.int .i64 fm,.int .i64 le,.int .i64 ta] 114)):=own1.src Tryz.underlying41 (by intro v hv;simp only [List.mem_cons,List.not_mem_nil,or_false] at hv;rcases hv with rfl | rfl | rfl <;> rfl)
    obtain ⟨v9,w9,hrun,ho9,hg9,hbk9⟩:=run_append_c (P:=Tryz.prog) (x0.alloc (.cells #[.int .i64 fm,.int .i64 le,.int .i64 ta] 114)) B 41 41 41 114 iO (.agg #[.int .i64 0,.int .i64 0,.int .i64 0]) 3 24 Tryz.underlying41 hiO hO0 hO1 hO2 rfl _ d.O.length _ (s0.T.bo.o5.below hbA (Nat.le_refl _)) _ 1 _ src1 (by unfold maxLen;omega) (by omega) (by simp;omega)
    obtain ⟨a9,c9,rfl⟩:=ho9.slc
    have hap:=s0.T.appO (x:=(fm,le,ta)) ho9 hg9 hbk9
    have sF:=s0.app (rowO_mem _ _) hg9 hap.2 (appO_rowsT hbk9)
    have HF:=hid (show ∃ h',TmS w0 B Qd Qp ts pa pc nb (oweO d fm le ta) h' (w9.setCell ⟨Qd,11,none⟩ (.slice a9 (d.O.length + 1) c9)) from ⟨_,by rw [oweO_yes ⟨h2l,fun ⟨i,hi,hh⟩=>HNO.out i hi hh⟩];exact sF⟩)
    have hzA : (x0.alloc (.cells #[.int .i64 fm,.int .i64 le,.int .i64 ta] 114)).heap.size = x0.heap.size + 1:=by simp
    have hSA:=hS0.block (hbA.block Qx lx0)
    have hS9:=hSA.block (hg9.block Qx (by omega) (fun e=>by have:=HNR.out _ (rowO_mem _ _) Qx e.symm;omega))
    have gs:=gset (World.grownBy.refl w9 (some Qd)) 11 (.slice a9 (d.O.length + 1) c9)
    have hSF:=hS9.block (gs.block Qx (by have:=hg9.size;omega) (fun e=>by injection e with e;omega))
    have m11 : x0.cell? ⟨Qd,11,none⟩ = some (.slice ao d.O.length co):=(s0.T.D 11 (by simp [bvs])).1
    have m11A:=keepB hbA m11
    clear gs sF s0
    refine hTk (i:=0) (d:=some 36) (v:=.pointer (some ⟨Qd,0,none⟩)) (l':=(bt 13 1)) rfl (fun _ hc=>run_mvF (.tmp 0) (by kernel_rfl) (by kernel_rfl)) hS0 ?_
    refine hTk (i:=1) (d:=some 37) (v:=.pointer (some ⟨Qd,0,none⟩)) (l':=(bt 13 3)) rfl (fun _ hc=>run_mvF (.tmp 0) (by kernel_rfl) (by kernel_rfl)) hS0 ?_
    refine hTk (i:=2) (d:=some 38) (v:=.pointer (some ⟨Qd,0,none⟩)) (l':=(bt 13 7)) rfl (fun _ hc=>run_nc (.tmp 37) (by kernel_rfl) (by kernel_rfl)) hS0 ?_
    refine hTk (i:=3) (d:=some 39) (v:=.pointer (some ⟨Qd,0,none⟩)) (l':=(bt 13 15)) rfl (fun _ hc=>run_faD0 (.tmp 38) (by kernel_rfl) (by kernel_rfl)) hS0 ?_
    refine hTk (i:=4) (d:=some 40) (v:=.pointer (some ⟨Qd,11,none⟩)) (l':=(bt 13 31)) rfl (fun _ hc=>run_fB10 (.tmp 39) (by kernel_rfl) (by kernel_rfl)) hS0 ?_
    refine hTk (i:=6) (d:=some 42) (v:=.agg #[.int .i64 fm,.int .i64 le,.int .i64 ta]) (l':=(bt 13 95)) rfl (fun _ hc=>run_ldT 114 _ [.int .i64 fm,.int .i64 le,.int .i64 ta] (.tmp 3) (by kernel_rfl) (by kernel_rfl) hc Tryz.underlying114 rfl Tryz.sizeOwB) hS0 ?_
    refine hTwo (i:=5) (j:=7) (by kernel_rfl) (hVal (i:=5) (d:=some 41) (v:=(.slice ao d.O.length co)) (w':=x0) (l':=(bt 13 127)) rfl (by kernel_rfl) (by kernel_rfl) (by kernel_rfl) (run_ldOsB (.tmp 40) (by kernel_rfl) (by kernel_rfl) m11) hS0 ?_) (hVal (i:=7) (d:=some 43) (v:=.slice (some ⟨x0.heap.size,0,none⟩) 1 1) (w':=x0.alloc (.cells #[.int .i64 fm,.int .i64 le,.int .i64 ta] 114)) (l':=(bt 13 223)) rfl (by kernel_rfl) (by kernel_rfl) (by kernel_rfl) (run_bsOw (.tmp 42) fm le ta (by kernel_rfl) (by kernel_rfl)) hSA ?_)
    ·refine hOne (i:=7) (by kernel_rfl) (hVal (i:=7) (d:=some 43) (v:=.slice (some ⟨x0.heap.size,0,none⟩) 1 1) (w':=x0.alloc (.cells #[.int .i64 fm,.int .i64 le,.int .i64 ta] 114)) (l':=(bt 13 255)) rfl (by kernel_rfl) (by kernel_rfl) (by kernel_rfl) (run_bsOw (.tmp 42) fm le ta (by kernel_rfl) (by kernel_rfl)) hSA ?_)
     refine hOne (i:=8) (by kernel_rfl) (hVal (i:=8) (d:=some 44) (v:=.slice a9 (d.O.length + 1) c9) (w':=w9) (l':=(bt 13 511)) rfl (by kernel_rfl) (by kernel_rfl) (by kernel_rfl) (run_appB (.tmp 41) (.tmp 43) 41 41 41 (by kernel_rfl) (by kernel_rfl) (by kernel_rfl) (by kernel_rfl) hrun) hS9 ?_)
     refine hTk (i:=9) (d:=some 45) (v:=.pointer (some ⟨Qd,0,none⟩)) (l':=(bt 13 1023)) rfl (fun _ hc=>run_nc (.tmp 36) (by kernel_rfl) (by kernel_rfl)) hS9 ?_
     refine hTk (i:=10) (d:=some 46) (v:=.pointer (some ⟨Qd,0,none⟩)) (l':=(bt 13 2047)) rfl (fun _ hc=>run_faD0 (.tmp 45) (by kernel_rfl) (by kernel_rfl)) hS9 ?_
     refine hTk (i:=11) (d:=some 47) (v:=.pointer (some ⟨Qd,11,none⟩)) (l':=(bt 13 4095)) rfl (fun _ hc=>run_fB10 (.tmp 46) (by kernel_rfl) (by kernel_rfl)) hS9 ?_
     refine hOne (i:=12) (by kernel_rfl) (hSkip (i:=12) (w':=w9.setCell ⟨Qd,11,none⟩ (.slice a9 (d.O.length + 1) c9)) (l':=(bt 13 8191)) rfl (by kernel_rfl) (by kernel_rfl) (by kernel_rfl) (run_stOs (.tmp 47) (.tmp 44) a9 (d.O.length + 1) c9 (by kernel_rfl) (by kernel_rfl) (by kernel_rfl) (hap.1 11 (by simp [bvs])).1 (hap.1 11 (by simp [bvs])).2) hSF ?_)
     refine wpAnyH_done (by kernel_rfl) ?_ _
     clear hS0 hS9 hSF hSA hrun hap ho9 hg9 hbk9 own1 src1 hbA
     go_simp
     go_wp2_with fail
     go_end0
     exact ⟨rfl,HF.out⟩
    ·refine hOne (i:=5) (by kernel_rfl) (hVal (i:=5) (d:=some 41) (v:=(.slice ao d.O.length co)) (w':=(x0.alloc (.cells #[.int .i64 fm,.int .i64 le,.int .i64 ta] 114))) (l':=(bt 13 255)) rfl (by kernel_rfl) (by kernel_rfl) (by kernel_rfl) (run_ldOsB (.tmp 40) (by kernel_rfl) (by kernel_rfl) m11A) hSA ?_)
     refine hOne (i:=8) (by kernel_rfl) (hVal (i:=8) (d:=some 44) (v:=.slice a9 (d.O.length + 1) c9) (w':=w9) (l':=(bt 13 511)) rfl (by kernel_rfl) (by kernel_rfl) (by kernel_rfl) (run_appB (.tmp 41) (.tmp 43) 41 41 41 (by kernel_rfl) (by kernel_rfl) (by kernel_rfl) (by kernel_rfl) hrun) hS9 ?_)
     refine hTk (i:=9) (d:=some 45) (v:=.pointer (some ⟨Qd,0,none⟩)) (l':=(bt 13 1023)) rfl (fun _ hc=>run_nc (.tmp 36) (by kernel_rfl) (by kernel_rfl)) hS9 ?_
     refine hTk (i:=10) (d:=some 46) (v:=.pointer (some ⟨Qd,0,none⟩)) (l':=(bt 13 2047)) rfl (fun _ hc=>run_faD0 (.tmp 45) (by kernel_rfl) (by kernel_rfl)) hS9 ?_
     refine hTk (i:=11) (d:=some 47) (v:=.pointer (some ⟨Qd,11,none⟩)) (l':=(bt 13 4095)) rfl (fun _ hc=>run_fB10 (.tmp 46) (by kernel_rfl) (by kernel_rfl)) hS9 ?_
     refine hOne (i:=12) (by kernel_rfl) (hSkip (i:=12) (w':=w9.setCell ⟨Qd,11,none⟩ (.slice a9 (d.O.length + 1) c9)) (l':=(bt 13 8191)) rfl (by kernel_rfl) (by kernel_rfl) (by kernel_rfl) (run_stOs (.tmp 47) (.tmp 44) a9 (d.O.length + 1) c9 (by kernel_rfl) (by kernel_rfl) (by kernel_rfl) (hap.1 11 (by simp [bvs])).1 (hap.1 11 (by simp [bvs])).2) hSF ?_)
     refine wpAnyH_done (by kernel_rfl) ?_ _
     clear hS0 hS9 hSF hSA hrun hap ho9 hg9 hbk9 own1 src1 hbA
     go_simp
     go_wp2_with fail
     go_end0
     exact ⟨rfl,HF.out⟩
end Go.Proofs.YtaeomkpofcbmiaaGreatDoor
namespace Go.Proofs.YtaeomkpofcbmiaaGreatDoor
open Go.RowKit
theorem Tryz.sizeEnB : (Tryz.prog.info? 123).map (·.size) = some 4:=by kernel_rfl
theorem run_alEn {ρ : Operand → Value} {o : Oper} {w : World} (h : o.op = .alloc 123) : (execOp ρ o).run Tryz.prog w = .ok (.value (.pointer (some ⟨w.heap.size,0,none⟩))) (w.alloc (.cells #[.int .i64 0,.int .i64 0,.int .i64 0,.string ⟨#[]⟩] 123)):=by
 unfold execOp;rw [h];simp [go_sem]
theorem app2_rowsT {wr : World} {d : BD} {h : BH} {s : ByteArray} {ob : Obj} {a9 : Option Addr} {c9 : Nat} (hbk : (Value.slice a9 (d.L2.length + 1) c9).ownBlock = row2 d h ∨ (Value.slice a9 (d.L2.length + 1) c9).ownBlock = some (wr.alloc ob).heap.size) : ∀ r ∈ rowsB ⟨d.wk,d.up,d.now,d.sn,d.ep,d.gv,d.L1,d.L2 ++ [s],d.R,d.J,d.S,d.O⟩ ⟨h.a1,a9,h.ar,h.aj,h.az,h.ao,h.c1,c9,h.cr,h.cj,h.cs,h.co⟩,r ∈ rowsB d h ∨ r = some (wr.alloc ob).heap.size:=fun r hr=>by
 simp only [rowsB,List.mem_cons,List.not_mem_nil,or_false,List.length_append,List.length_singleton] at hr
 rcases hr with rfl | rfl | rfl | rfl | rfl | rfl
 ·exact .inl (by simp [rowsB])
 ·rcases hbk with e | e
  ·exact .inl (by rw [e];exact row2_mem d h)
  ·exact .inr e
 ·exact .inl (by simp [rowsB])
 ·exact .inl (by simp [rowsB])
 ·exact .inl (by simp [rowsB])
 ·exact .inl (by simp [rowsB])
theorem run_stSt {ρ : Operand → Value} {o : Oper} {w : World} {p : Addr} {v0 : Value} (x y : Operand) (s : ByteArray) (h : o.op = .store 9 x y) (hx : ρ x = .pointer (some p)) (hy : ρ y = .string s) (hc : w.cell? p = some v0) (hf : w.frozen? p = false) : (execOp ρ o).run Tryz.prog w = .ok .skip (w.setCell p (.string s)):=by
 unfold execOp;rw [h];simp [go_sem,hx,hy,hc,hf]
structure KeS (w0 : World) (B Qd Qp : Nat) (ts : List TaskD) (pa : Option Addr) (pc nb Qx : Nat) (ms : List Value) (ws : World) (d0 : BD) (h0 : BH) (d : BD) (h : BH) (wr : World) : Prop where
 T : TmS w0 B Qd Qp ts pa pc nb d h wr
 M : CF wr Qx ms
 n : ∀ r ∈ rowsB d h,r ≠ some Qx
 q : Qd < Qx ∧ Qx < wr.heap.size
 g : ∀ q,q < ws.heap.size → q ≠ Qd → q ≠ Qp → (∀ r ∈ rowsB d0 h0,r ≠ some q) → wr.heap[q]? = ws.heap[q]?
 r : ∀ x ∈ rowsB d h,x ∈ rowsB d0 h0 ∨ ∀ q,x = some q → ws.heap.size ≤ q
 z : ws.heap.size ≤ wr.heap.size
theorem KeS.below {w0 : World} {B Qd Qp : Nat} {ts : List TaskD} {pa : Option Addr} {pc nb Qx : Nat} {ms : List Value} {ws : World} {d0 : BD} {h0 : BH} {d : BD} {h : BH} {wr w' : World} (s : KeS w0 B Qd Qp ts pa pc nb Qx ms ws d0 h0 d h wr) (hb : Below wr.heap.size wr w') : KeS w0 B Qd Qp ts pa pc nb Qx ms ws d0 h0 d h w' :=
 ⟨s.T.below hb,s.M.block (hb.block _ s.q.2),s.n,⟨s.q.1,Nat.lt_of_lt_of_le s.q.2 hb.size⟩,fun q h1 h2 h3 h4=>(hb.block q (Nat.lt_of_lt_of_le h1 s.z)).trans (s.g q h1 h2 h3 h4),s.r,Nat.le_trans s.z hb.size⟩
theorem KeS.nr {w0 : World} {B Qd Qp : Nat} {ts : List TaskD} {pa : Option Addr} {pc nb Qx : Nat} {ms : List Value} {ws : World} {d0 : BD} {h0 : BH} {d : BD} {h : BH} {wr : World} (s : KeS w0 B Qd Qp ts pa pc nb Qx ms ws d0 h0 d h wr) {r : Option Nat} (hr : r ∈ rowsB d h) {q : Nat} (h1 : q < ws.heap.size) (h4 : ∀ r ∈ rowsB d0 h0,r ≠ some q) : some q ≠ r:=fun e=>by
 rcases s.r r hr with h | h
 ·exact h4 r h e.symm
 ·have:=h q e.symm;omega
theorem KeS.app {w0 : World} {B Qd Qp : Nat} {ts : List TaskD} {pa : Option Addr} {pc nb Qx : Nat} {ms : List Value} {ws : World} {d0 : BD} {h0 : BH} {d : BD} {h : BH} {wr w9 : World} {s5 : ByteArray} {ob : Obj} {a9 : Option Addr} {c9 : Nat} (s : KeS w0 B Qd Qp ts pa pc nb Qx ms ws d0 h0 d h wr) (hg : (wr.alloc ob).grownBy w9 (row2 d h)) (hT : TkS w0 B Qd [.slice pa ts.length pc,.map (some Qp),.slice none 0 0] ⟨d.wk,d.up,d.now,d.sn,d.ep,d.gv,d.L1,d.L2 ++ [s5],d.R,d.J,d.S,d.O⟩ ⟨h.a1,a9,h.ar,h.aj,h.az,h.ao,h.c1,c9,h.cr,h.cj,h.cs,h.co⟩ (w9.setCell ⟨Qd,7,none⟩ (.slice a9 (d.L2.length + 1) c9))) (hbk : (Value.slice a9 (d.L2.length + 1) c9).ownBlock = row2 d h ∨ (Value.slice a9 (d.L2.length + 1) c9).ownBlock = some (wr.alloc ob).heap.size) :
  KeS w0 B Qd Qp ts pa pc nb Qx ms ws d0 h0 ⟨d.wk,d.up,d.now,d.sn,d.ep,d.gv,d.L1,d.L2 ++ [s5],d.R,d.J,d.S,d.O⟩ ⟨h.a1,a9,h.ar,h.aj,h.az,h.ao,h.c1,c9,h.cr,h.cj,h.cs,h.co⟩ (w9.setCell ⟨Qd,7,none⟩ (.slice a9 (d.L2.length + 1) c9)):=by
 have hq:=s.q
 have hz : (wr.alloc ob).heap.size = wr.heap.size + 1:=by simp
 have hb : Below wr.heap.size wr (wr.alloc ob):=(Below.refl _ _).alloc (Nat.le_refl _) _
 have hgz:=hg.size
 have gs:=gset (World.grownBy.refl w9 (some Qd)) 7 (.slice a9 (d.L2.length + 1) c9)
 refine ⟨s.T.app (row2_mem _ _) hg hT (app2_rowsT hbk),((s.M.block (hb.block _ hq.2)).block (hg.block _ (by omega) (fun e=>s.n _ (row2_mem d h) e.symm))).block (gs.block _ (by omega) (fun e=>by injection e with e;omega)),fun r hr e=>?_,⟨hq.1,by have:=gs.size;omega⟩,fun q h1 h2 h3 h4=>?_,fun r hr=>?_,by have:=gs.size;have:=s.z;omega⟩
 ·rcases app2_rowsT hbk r hr with h1 | h1
  ·exact s.n r h1 e
  ·rw [h1] at e;injection e with e;omega
 ·have hz2:=s.z
  exact ((gs.block q (by omega) (fun e=>by injection e with e;exact h2 e)).trans (hg.block q (by omega) (s.nr (row2_mem d h) h1 h4))).trans ((hb.block q (by omega)).trans (s.g q h1 h2 h3 h4))
 ·rcases app2_rowsT hbk r hr with h1 | h1
  ·exact s.r r h1
  ·exact .inr (fun q e=>by rw [h1] at e;injection e with e;have:=s.z;omega)
structure KeQ (w0 : World) (B Qd Qp : Nat) (ts : List TaskD) (pa : Option Addr) (pc nb : Nat) (ws : World) (d0 : BD) (h0 : BH) (d : BD) (h : BH) (wr : World) : Prop where
 T : TmS w0 B Qd Qp ts pa pc nb d h wr
 g : ∀ q,q < ws.heap.size → q ≠ Qd → q ≠ Qp → (∀ r ∈ rowsB d0 h0,r ≠ some q) → wr.heap[q]? = ws.heap[q]?
 r : ∀ x ∈ rowsB d h,x ∈ rowsB d0 h0 ∨ ∀ q,x = some q → ws.heap.size ≤ q
 z : ws.heap.size ≤ wr.heap.size
theorem keepResult_any (w0 : World) (B Qd Qp : Nat) (ts : List TaskD) (pa : Option Addr) (pc nb : Nat) (d : BD) (h : BH) (kd fm tw ep le : Int) (t : Nat) (x : ByteArray) (ua : Option Addr) (un uc : Nat) (w : World) (s : TmS w0 B Qd Qp ts pa pc nb d h w) (hBz : w0.heap.size ≤ B) (htR : t < d.R.length) (htJ : t < d.J.length) (ht : t ≤ 39) (hx : x.size = 8) (hep : 1 ≤ d.ep ∧ d.ep ≤ 300) (hl : d.L1.length + d.L2.length ≤ 310) (hI : I64 (t3 d.J t).1) :
  Calls Tryz.prog 117 #[.pointer (some ⟨Qd,0,none⟩),.agg #[.int .i64 kd,.int .i64 fm,.int .i64 tw,.int .i64 ep,.int .i64 le,.int .i64 (t : Nat),.string x,.slice ua un uc]] w fun e w'=>e = .returned (.tuple #[]) ∧ ∃ h',KeQ w0 B Qd Qp ts pa pc nb w d h ⟨d.wk,d.up,d.now,d.sn,d.ep,d.gv,d.L1,d.L2 ++ [entS 2 d.ep (t : Nat) x],d.R.set t x,d.J.set t (0,0,0),d.S,d.O⟩ h' w':=by
 obtain ⟨i0,hi0,hz00,hz01,hz02⟩:=info_parts Tryz.info9
 obtain ⟨W,hW⟩ : ∃ V,V = w.alloc (.cells #[.int .i64 kd,.int .i64 fm,.int .i64 tw,.int .i64 ep,.int .i64 le,.int .i64 (t : Nat),.string x,.slice ua un uc] 53):=⟨_,rfl⟩
 obtain ⟨Qx,hQx⟩ : ∃ q,q = w.heap.size:=⟨_,rfl⟩
 have hbW : Below w.heap.size w W:=by rw [hW];exact (Below.refl _ _).alloc (Nat.le_refl _) _
 have cW : CF W Qx [.int .i64 kd,.int .i64 fm,.int .i64 tw,.int .i64 ep,.int .i64 le,.int .i64 (t : Nat),.string x,.slice ua un uc]:=by rw [hW,hQx];exact CF.made w #[.int .i64 kd,.int .i64 fm,.int .i64 tw,.int .i64 ep,.int .i64 le,.int .i64 (t : Nat),.string x,.slice ua un uc] 53
 have zW : W.heap.size = Qx + 1:=by rw [hW,hQx];simp
 have KW : KeS w0 B Qd Qp ts pa pc nb Qx [.int .i64 kd,.int .i64 fm,.int .i64 tw,.int .i64 ep,.int .i64 le,.int .i64 (t : Nat),.string x,.slice ua un uc] w d h d h W:=⟨s.below hbW,cW,fun r hr e=>by have:=(s.T.bo.lo r hr Qx e).2;omega,⟨by have:=s.T.q;omega,by omega⟩,fun q h1 _ _ _=>hbW.block q h1,fun r hr=>.inl hr,hbW.size⟩
 have HW:=hid hW
 have HQ:=hid hQx
 clear hW hQx hbW s cW zW
 go_enter Tryz.func117,Tryz.ntmps117
 go_upto_region 2 with fail
 rw [← HW.out,← HQ.out]
 clear HW HQ
 go_cut [17] (fun _ wx=>KeS w0 B Qd Qp ts pa pc nb Qx [.int .i64 kd,.int .i64 fm,.int .i64 tw,.int .i64 ep,.int .i64 le,.int .i64 (t : Nat),.string x,.slice ua un uc] w d h ⟨d.wk,d.up,d.now,d.sn,d.ep,d.gv,d.L1,d.L2,d.R.set t x,d.J,d.S,d.O⟩ h wx)
 case first =>
  obtain ⟨br,or',crr,hre,hrc,hrf,hrset⟩:=KW.T.T.bo.o2.set1 (t:=t) htR
  have e1 : h.ar = some ⟨br,or',none⟩:=by injection hre with e1 e2 e3
  have hrr : rowR d h = some br:=by unfold rowR;rw [e1];rfl
  refine wp_region_held (S:=fun w'=>w'.cell? ⟨Qd,8,none⟩ = some (.slice (some ⟨br,or',none⟩) d.R.length h.cr) ∧ w'.cell? ⟨Qx,5,none⟩ = some (.int .i64 (t : Nat)) ∧ w'.cell? ⟨Qx,6,none⟩ = some (.string x)) (by kernel_rfl) ?_
  change wpAnyH _ _ _ _ _ _ _ _ (World.drew _)
  have hS0 : W.drew.cell? ⟨Qd,8,none⟩ = some (.slice (some ⟨br,or',none⟩) d.R.length h.cr) ∧ W.drew.cell? ⟨Qx,5,none⟩ = some (.int .i64 (t : Nat)) ∧ W.drew.cell? ⟨Qx,6,none⟩ = some (.string x):=⟨by rw [← e1];exact (KW.T.T.D 8 (by simp [bvs])).1,(KW.M 5 (by simp)).1,(KW.M 6 (by simp)).1⟩
  have K0:=KW.below (Below.refl W.heap.size W).drew
  have hrc0 : W.drew.cell? ⟨br,or' + t,none⟩ = some (.string (rs d.R t)):=hrc
  have hrf0 : W.drew.frozen? ⟨br,or' + t,none⟩ = false:=hrf
  have hst0 : Own B (W.drew.setCell ⟨br,or' + t,none⟩ (.string x)) 1 (.slice h.ar d.R.length h.cr) d.R.length ((d.R.set t x).map Value.string):=(hrset x).blk (fun q _=>rfl)
  obtain ⟨x0,hx0⟩ : ∃ U,U = W.drew:=⟨_,rfl⟩
  rw [← hx0] at hS0 K0 hrc0 hrf0 hst0
  rw [← hx0]
  clear hx0 KW hrset hrc hrf hre
  refine hTk (i:=0) (d:=some 9) (v:=.pointer (some ⟨Qd,0,none⟩)) (l':=(bt 10 1)) rfl (fun _ hc=>run_mvF (.tmp 4) (by kernel_rfl) (by kernel_rfl)) hS0 ?_
  refine hTk (i:=1) (d:=some 10) (v:=.pointer (some ⟨Qd,0,none⟩)) (l':=(bt 10 3)) rfl (fun _ hc=>run_nc (.tmp 9) (by kernel_rfl) (by kernel_rfl)) hS0 ?_
  refine hTk (i:=2) (d:=some 11) (v:=.pointer (some ⟨Qd,8,none⟩)) (l':=(bt 10 7)) rfl (fun _ hc=>run_faB7 (.tmp 10) (by kernel_rfl) (by kernel_rfl)) hS0 ?_
  refine hTk (i:=3) (d:=some 12) (v:=(.slice (some ⟨br,or',none⟩) d.R.length h.cr)) (l':=(bt 10 15)) rfl (fun _ hc=>run_ldLsB (.tmp 11) (by kernel_rfl) (by kernel_rfl) hc.1) hS0 ?_
  refine hTk (i:=4) (d:=some 13) (v:=.pointer (some ⟨Qx,5,none⟩)) (l':=(bt 10 31)) rfl (fun _ hc=>run_fM5 (.tmp 3) (by kernel_rfl) (by kernel_rfl)) hS0 ?_
  refine hTk (i:=5) (d:=some 14) (v:=.int .i64 (t : Nat)) (l':=(bt 10 63)) rfl (fun _ hc=>run_ldInB (.tmp 13) (by kernel_rfl) (by kernel_rfl) hc.2.1) hS0 ?_
  refine hTk (i:=6) (d:=some 15) (v:=.pointer (some ⟨Qx,6,none⟩)) (l':=(bt 10 127)) rfl (fun _ hc=>run_fM6 (.tmp 3) (by kernel_rfl) (by kernel_rfl)) hS0 ?_
  refine hTk (i:=7) (d:=some 16) (v:=.string x) (l':=(bt 10 255)) rfl (fun _ hc=>run_ldStB (.tmp 15) (by kernel_rfl) (by kernel_rfl) hc.2.2) hS0 ?_
  refine hTk (i:=8) (d:=some 17) (v:=.pointer (some ⟨br,or' + t,none⟩)) (l':=(bt 10 511)) rfl (fun _ hc=>run_ixSo (.tmp 12) (.tmp 14) br or' d.R.length h.cr t (by kernel_rfl) (by kernel_rfl) (by kernel_rfl) htR) hS0 ?_
  have g2 : x0.grownBy (x0.setCell ⟨br,or' + t,none⟩ (.string x)) (rowR d h):=by rw [hrr];exact gset (World.grownBy.refl x0 _) _ _
  have T2:=K0.T.row (rowR_mem d h) g2 (K0.T.T.setR (R:=d.R.set t x) (by rw [List.length_set]) g2 hst0) (by unfold rowsB;simp only [List.length_set])
  have hne : some Qx ≠ rowR d h:=fun e=>K0.n _ (rowR_mem d h) e.symm
  have K2 : KeS w0 B Qd Qp ts pa pc nb Qx [.int .i64 kd,.int .i64 fm,.int .i64 tw,.int .i64 ep,.int .i64 le,.int .i64 (t : Nat),.string x,.slice ua un uc] w d h ⟨d.wk,d.up,d.now,d.sn,d.ep,d.gv,d.L1,d.L2,d.R.set t x,d.J,d.S,d.O⟩ h (x0.setCell ⟨br,or' + t,none⟩ (.string x)):=⟨T2,K0.M.block (g2.block Qx K0.q.2 hne),by have:=K0.n;unfold rowsB at this ⊢;simp only [List.length_set];exact this,⟨K0.q.1,Nat.lt_of_lt_of_le K0.q.2 g2.size⟩,fun q h1 h2 h3 h4=>(g2.block q (Nat.lt_of_lt_of_le h1 K0.z) (K0.nr (rowR_mem d h) h1 h4)).trans (K0.g q h1 h2 h3 h4),by have:=K0.r;unfold rowsB at this ⊢;simp only [List.length_set];exact this,Nat.le_trans K0.z g2.size⟩
  have hS2 : (x0.setCell ⟨br,or' + t,none⟩ (.string x)).cell? ⟨Qd,8,none⟩ = some (.slice (some ⟨br,or',none⟩) d.R.length h.cr) ∧ (x0.setCell ⟨br,or' + t,none⟩ (.string x)).cell? ⟨Qx,5,none⟩ = some (.int .i64 (t : Nat)) ∧ (x0.setCell ⟨br,or' + t,none⟩ (.string x)).cell? ⟨Qx,6,none⟩ = some (.string x):=⟨by have:=(K2.T.T.D 8 (by simp [bvs])).1;rw [← e1];simpa [bvs] using this,(K2.M 5 (by simp)).1,(K2.M 6 (by simp)).1⟩
  refine hOne (i:=9) (by kernel_rfl) (hSkip (i:=9) (w':=x0.setCell ⟨br,or' + t,none⟩ (.string x)) (l':=(bt 10 1023)) rfl (by kernel_rfl) (by kernel_rfl) (by kernel_rfl) (run_stSt (.tmp 17) (.tmp 16) x (by kernel_rfl) (by kernel_rfl) (by kernel_rfl) hrc0 hrf0) hS2 ?_)
  refine wpAnyH_done (by kernel_rfl) ?_ _
  have HREL:=hid K2
  clear hS0 hS2 K2 T2 K0 g2 hst0 hrc0 hrf0 hne e1 hrr
  go_simp
  go_wp2_with fail
  go_meet
  case rel=>exact HREL.out
 case rest =>
  have K1:=hcut
  clear KW
  go_upto_region 3 with fail
  go_cut [5] (fun ev wx=>∃ Qe : Nat,ev = .pointer (some ⟨Qe,0,none⟩) ∧ CF wx Qe [.int .i64 2,.int .i64 d.ep,.int .i64 (t : Nat),.string x] ∧ Qe < wx.heap.size ∧ Hid (∀ r ∈ rowsB ⟨d.wk,d.up,d.now,d.sn,d.ep,d.gv,d.L1,d.L2,d.R.set t x,d.J,d.S,d.O⟩ h,r ≠ some Qe) ∧ Qd < Qe ∧ KeS w0 B Qd Qp ts pa pc nb Qx [.int .i64 kd,.int .i64 fm,.int .i64 tw,.int .i64 ep,.int .i64 le,.int .i64 (t : Nat),.string x,.slice ua un uc] w d h ⟨d.wk,d.up,d.now,d.sn,d.ep,d.gv,d.L1,d.L2,d.R.set t x,d.J,d.S,d.O⟩ h wx)
  case first =>
   refine wp_region_held (S:=fun w'=>w'.cell? ⟨Qd,4,none⟩ = some (.int .i64 d.ep) ∧ w'.cell? ⟨Qx,5,none⟩ = some (.int .i64 (t : Nat)) ∧ w'.cell? ⟨Qx,6,none⟩ = some (.string x)) (by kernel_rfl) ?_
   change wpAnyH _ _ _ _ _ _ _ _ (World.drew _)
   have K0:=K1.below (Below.refl wc.heap.size wc).drew
   obtain ⟨x0,hx0⟩ : ∃ U,U = wc.drew:=⟨_,rfl⟩
   rw [← hx0] at K0
   rw [← hx0]
   clear hx0 K1
   have hS0 : x0.cell? ⟨Qd,4,none⟩ = some (.int .i64 d.ep) ∧ x0.cell? ⟨Qx,5,none⟩ = some (.int .i64 (t : Nat)) ∧ x0.cell? ⟨Qx,6,none⟩ = some (.string x):=⟨(K0.T.T.D 4 (by simp [bvs])).1,(K0.M 5 (by simp)).1,(K0.M 6 (by simp)).1⟩
   have hbA : Below x0.heap.size x0 (x0.alloc (.cells #[.int .i64 0,.int .i64 0,.int .i64 0,.string ⟨#[]⟩] 123)):=(Below.refl _ _).alloc (Nat.le_refl _) _
   have hSA : (x0.alloc (.cells #[.int .i64 0,.int .i64 0,.int .i64 0,.string ⟨#[]⟩] 123)).cell? ⟨Qd,4,none⟩ = some (.int .i64 d.ep) ∧ (x0.alloc (.cells #[.int .i64 0,.int .i64 0,.int .i64 0,.string ⟨#[]⟩] 123)).cell? ⟨Qx,5,none⟩ = some (.int .i64 (t : Nat)) ∧ (x0.alloc (.cells #[.int .i64 0,.int .i64 0,.int .i64 0,.string ⟨#[]⟩] 123)).cell? ⟨Qx,6,none⟩ = some (.string x):=⟨keepB hbA hS0.1,keepB hbA hS0.2.1,keepB hbA hS0.2.2⟩
   have cA:=CF.made x0 #[.int .i64 0,.int .i64 0,.int .i64 0,.string ⟨#[]⟩] 123
   have zA : (x0.alloc (.cells #[.int .i64 0,.int .i64 0,.int .i64 0,.string ⟨#[]⟩] 123)).heap.size = x0.heap.size + 1:=by simp
   obtain ⟨xF,hxF⟩ : ∃ V,V = (x0.alloc (.cells #[.int .i64 0,.int .i64 0,.int .i64 0,.string ⟨#[]⟩] 123)).setCells x0.heap.size 0 [.int .i64 2,.int .i64 d.ep,.int .i64 (t : Nat),.string x]:=⟨_,rfl⟩
   have gF : (x0.alloc (.cells #[.int .i64 0,.int .i64 0,.int .i64 0,.string ⟨#[]⟩] 123)).grownBy xF (some x0.heap.size):=by rw [hxF];exact grown_setCells _ _ _ _ _ (World.grownBy.refl _ _)
   have cF : CF xF x0.heap.size [.int .i64 2,.int .i64 d.ep,.int .i64 (t : Nat),.string x]:=by rw [hxF];exact CF.stored cA rfl
   have hbF : Below x0.heap.size x0 xF:=hbA.grown gF hbA.size (fun q e=>by injection e with e;omega)
   have KF:=K0.below hbF
   have hSF : xF.cell? ⟨Qd,4,none⟩ = some (.int .i64 d.ep) ∧ xF.cell? ⟨Qx,5,none⟩ = some (.int .i64 (t : Nat)) ∧ xF.cell? ⟨Qx,6,none⟩ = some (.string x):=⟨keepB hbF hS0.1,keepB hbF hS0.2.1,keepB hbF hS0.2.2⟩
   have HREL:=hid (show ∃ Qe : Nat,(.pointer (some ⟨x0.heap.size,0,none⟩) : Value) = .pointer (some ⟨Qe,0,none⟩) ∧ CF xF Qe [.int .i64 2,.int .i64 d.ep,.int .i64 (t : Nat),.string x] ∧ Qe < xF.heap.size ∧ Hid (∀ r ∈ rowsB ⟨d.wk,d.up,d.now,d.sn,d.ep,d.gv,d.L1,d.L2,d.R.set t x,d.J,d.S,d.O⟩ h,r ≠ some Qe) ∧ Qd < Qe ∧ KeS w0 B Qd Qp ts pa pc nb Qx [.int .i64 kd,.int .i64 fm,.int .i64 tw,.int .i64 ep,.int .i64 le,.int .i64 (t : Nat),.string x,.slice ua un uc] w d h ⟨d.wk,d.up,d.now,d.sn,d.ep,d.gv,d.L1,d.L2,d.R.set t x,d.J,d.S,d.O⟩ h xF from ⟨_,rfl,cF,by have:=gF.size;omega,hid (fun r hr e=>by have:=(K0.T.T.bo.lo r hr _ e).2;omega),by have:=K0.q;omega,KF⟩)
   have HXF:=hid hxF
   clear KF hbF gF cF hxF hbA zA K0
   refine hTk (i:=0) (d:=some 18) (v:=.pointer (some ⟨Qd,0,none⟩)) (l':=(bt 11 1)) rfl (fun _ hc=>run_mvF (.tmp 4) (by kernel_rfl) (by kernel_rfl)) hS0 ?_
   refine hTk (i:=1) (d:=some 19) (v:=.pointer (some ⟨Qd,0,none⟩)) (l':=(bt 11 3)) rfl (fun _ hc=>run_nc (.tmp 18) (by kernel_rfl) (by kernel_rfl)) hS0 ?_
   refine hTk (i:=2) (d:=some 20) (v:=.pointer (some ⟨Qd,4,none⟩)) (l':=(bt 11 7)) rfl (fun _ hc=>run_fB4 (.tmp 19) (by kernel_rfl) (by kernel_rfl)) hS0 ?_
   refine hTk (i:=3) (d:=some 21) (v:=.int .i64 d.ep) (l':=(bt 11 15)) rfl (fun _ hc=>run_ldInB (.tmp 20) (by kernel_rfl) (by kernel_rfl) hc.1) hS0 ?_
   refine hTk (i:=4) (d:=some 22) (v:=.pointer (some ⟨Qx,5,none⟩)) (l':=(bt 11 31)) rfl (fun _ hc=>run_fM5 (.tmp 3) (by kernel_rfl) (by kernel_rfl)) hS0 ?_
   refine hTk (i:=5) (d:=some 23) (v:=.int .i64 (t : Nat)) (l':=(bt 11 63)) rfl (fun _ hc=>run_ldInB (.tmp 22) (by kernel_rfl) (by kernel_rfl) hc.2.1) hS0 ?_
   refine hTk (i:=6) (d:=some 24) (v:=.pointer (some ⟨Qx,6,none⟩)) (l':=(bt 11 127)) rfl (fun _ hc=>run_fM6 (.tmp 3) (by kernel_rfl) (by kernel_rfl)) hS0 ?_
   refine hTk (i:=7) (d:=some 25) (v:=.string x) (l':=(bt 11 255)) rfl (fun _ hc=>run_ldStB (.tmp 24) (by kernel_rfl) (by kernel_rfl) hc.2.2) hS0 ?_
   refine hTk (i:=8) (d:=some 26) (v:=.agg #[.int .i64 2,.int .i64 d.ep,.int .i64 (t : Nat),.string x]) (l':=(bt 11 511)) rfl (fun _ hc=>run_bEn (.tmp 21) (.tmp 23) (.tmp 25) d.ep (t : Nat) x (by kernel_rfl) (by kernel_rfl) (by kernel_rfl) (by kernel_rfl) (by kernel_rfl)) hS0 ?_
   refine hOne (i:=9) (by kernel_rfl) (hVal (i:=9) (d:=some 5) (v:=.pointer (some ⟨x0.heap.size,0,none⟩)) (w':=x0.alloc (.cells #[.int .i64 0,.int .i64 0,.int .i64 0,.string ⟨#[]⟩] 123)) (l':=(bt 11 1023)) rfl (by kernel_rfl) (by kernel_rfl) (by kernel_rfl) (run_alEn (by kernel_rfl)) hSA ?_)
   refine hOne (i:=10) (by kernel_rfl) (hSkip (i:=10) (w':=xF) (l':=(bt 11 2047)) rfl (by kernel_rfl) (by kernel_rfl) (by kernel_rfl) (by rw [HXF.out];exact run_stT 123 [.int .i64 0,.int .i64 0,.int .i64 0,.string ⟨#[]⟩] [.int .i64 2,.int .i64 d.ep,.int .i64 (t : Nat),.string x] (.tmp 5) (.tmp 26) (by kernel_rfl) (by kernel_rfl) (by kernel_rfl) cA rfl Tryz.sizeEnB (by intro v hv;simp only [List.mem_cons,List.not_mem_nil,or_false] at hv;rcases hv with rfl | rfl | rfl | rfl <;> rfl)) hSF ?_)
   refine wpAnyH_done (by kernel_rfl) ?_ _
   clear hS0 hSA hSF cA HXF
   go_simp
   go_wp2_with fail
   go_meet
   case rel=>exact HREL.out
  case rest =>
   obtain ⟨Qe,rfl,cE,lE,HNE,hde,K3⟩:=hcut
   clear K1
   go_upto_region 4 with fail
   go_cut [39] (fun _ wx=>∃ h',KeS w0 B Qd Qp ts pa pc nb Qx [.int .i64 kd,.int .i64 fm,.int .i64 tw,.int .i64 ep,.int .i64 le,.int .i64 (t : Nat),.string x,.slice ua un uc] w d h ⟨d.wk,d.up,d.now,d.sn,d.ep,d.gv,d.L1,d.L2 ++ [entS 2 d.ep (t : Nat) x],d.R.set t x,d.J,d.S,d.O⟩ h' wx)
   case first =>
    have hNE:=HNE.out
    refine wp_region_held (S:=fun w'=>CF w' Qe [.int .i64 2,.int .i64 d.ep,.int .i64 (t : Nat),.string x]) (by kernel_rfl) ?_
    change wpAnyH _ _ _ _ _ _ _ _ (World.drew _)
    have K0:=K3.below (Below.refl wc.heap.size wc).drew
    have hS0 : CF wc.drew Qe [.int .i64 2,.int .i64 d.ep,.int .i64 (t : Nat),.string x]:=cE
    have lE0 : Qe < wc.drew.heap.size:=lE
    obtain ⟨x0,hx0⟩ : ∃ U,U = wc.drew:=⟨_,rfl⟩
    rw [← hx0] at K0 hS0 lE0
    rw [← hx0]
    clear hx0 K3 cE lE
    have c7x0 : x0.cell? ⟨Qd,7,none⟩ = some (.slice h.a2 d.L2.length h.c2):=(K0.T.T.D 7 (by simp [bvs])).1
    have HVE : Hid (vE 2 d.ep (t : Nat) x.size):=by unfold vE;exact .inr ⟨rfl,hep.1,hep.2,by omega,by omega,hx⟩
    refine hTk (i:=0) (d:=some 27) (v:=.pointer (some ⟨Qd,0,none⟩)) (l':=(bt 14 1)) rfl (fun _ hc=>run_mvF (.tmp 4) (by kernel_rfl) (by kernel_rfl)) hS0 ?_
    refine hTk (i:=1) (d:=some 28) (v:=.pointer (some ⟨Qd,0,none⟩)) (l':=(bt 14 3)) rfl (fun _ hc=>run_mvF (.tmp 4) (by kernel_rfl) (by kernel_rfl)) hS0 ?_
    refine hTk (i:=2) (d:=some 29) (v:=.pointer (some ⟨Qd,0,none⟩)) (l':=(bt 14 7)) rfl (fun _ hc=>run_nc (.tmp 28) (by kernel_rfl) (by kernel_rfl)) hS0 ?_
    refine hTk (i:=3) (d:=some 30) (v:=.pointer (some ⟨Qd,6,none⟩)) (l':=(bt 14 15)) rfl (fun _ hc=>run_fB6 (.tmp 29) (by kernel_rfl) (by kernel_rfl)) hS0 ?_
    refine hTk (i:=4) (d:=some 31) (v:=.pointer (some ⟨Qd,7,none⟩)) (l':=(bt 14 31)) rfl (fun _ hc=>run_fL1 (.tmp 30) (by kernel_rfl) (by kernel_rfl)) hS0 ?_
    refine hTk (i:=6) (d:=some 33) (v:=.agg #[.int .i64 2,.int .i64 d.ep,.int .i64 (t : Nat),.string x]) (l':=(bt 14 95)) rfl (fun _ hc=>run_ldT 123 _ [.int .i64 2,.int .i64 d.ep,.int .i64 (t : Nat),.string x] (.tmp 5) (by kernel_rfl) (by kernel_rfl) hc Tryz.underlying123 rfl Tryz.sizeEnB) hS0 ?_
    refine hTwo (i:=5) (j:=7) (by kernel_rfl) (hVal (i:=5) (d:=some 32) (v:=.slice h.a2 d.L2.length h.c2) (w':=x0) (l':=(bt 14 127)) rfl (by kernel_rfl) (by kernel_rfl) (by kernel_rfl) (run_ldLsB (.tmp 31) (by kernel_rfl) (by kernel_rfl) c7x0) hS0 ?_) (hCall (i:=7) (d:=some 34) (f:=126) (args:=#[.agg #[.int .i64 2,.int .i64 d.ep,.int .i64 (t : Nat),.string x]]) (l':=(bt 14 223)) (R:=fun v w'=>(∃ r,v = .string r ∧ IsEnt 2 d.ep (t : Nat) x r) ∧ Below x0.heap.size x0 w') rfl (by kernel_rfl) (by kernel_rfl) (by kernel_rfl) (run_cl1 _ _ rfl (by kernel_rfl) rfl enter_iEnt) ((implEnt_any 2 d.ep (t : Nat) x x0).mono fun _ _ ⟨⟨r,he,hr⟩,hb⟩=>⟨_,he,⟨r,rfl,hr⟩,hb⟩) ?_)
    ·refine hOne (i:=7) (by kernel_rfl) (hCall (i:=7) (d:=some 34) (f:=126) (args:=#[.agg #[.int .i64 2,.int .i64 d.ep,.int .i64 (t : Nat),.string x]]) (l':=(bt 14 255)) (R:=fun v w'=>(∃ r,v = .string r ∧ IsEnt 2 d.ep (t : Nat) x r) ∧ Below x0.heap.size x0 w') rfl (by kernel_rfl) (by kernel_rfl) (by kernel_rfl) (run_cl1 _ _ rfl (by kernel_rfl) rfl enter_iEnt) ((implEnt_any 2 d.ep (t : Nat) x x0).mono fun _ _ ⟨⟨r,he,hr⟩,hb⟩=>⟨_,he,⟨r,rfl,hr⟩,hb⟩) ?_)
     rintro _ x1 ⟨⟨r5,rfl,hr5⟩,hb5⟩
     obtain rfl : r5 = entS 2 d.ep (t : Nat) x:=by
      rcases hr5 with h | h
      ·exact h.2
      ·exact absurd HVE.out h.1
     have K1:=K0.below hb5
     have hS1:=hS0.block (hb5.block Qe lE0)
     have lE1 : Qe < x1.heap.size:=Nat.lt_of_lt_of_le lE0 hb5.size
     have c7x1:=keepB hb5 c7x0
     refine ⟨hS1,?_⟩
     have hqT:=K1.T.T.q
     have hown1 : Own B (x1.alloc (.cells #[.string (entS 2 d.ep (t : Nat) x)] 9)) 1 (.slice (some ⟨x1.heap.size,0,none⟩) 1 1) 1 [.string (entS 2 d.ep (t : Nat) x)] :=
      .inr ⟨_,0,1,rfl,OwnC.made x1 B 9 1 1 1 _ 1 (by omega) (Nat.le_refl _) (by unfold maxLen;omega) rfl (Nat.le_refl _) _ rfl _ (.inl rfl)⟩
     have hsrc : Src Tryz.prog 1 22 _ 1 _ (x1.alloc (.cells #[.string (entS 2 d.ep (t : Nat) x)] 9)):=hown1.src Tryz.underlying22 (by simp;rfl)
     have hbA : Below x1.heap.size x1 (x1.alloc (.cells #[.string (entS 2 d.ep (t : Nat) x)] 9)):=(Below.refl _ _).alloc (Nat.le_refl _) _
     have zA : (x1.alloc (.cells #[.string (entS 2 d.ep (t : Nat) x)] 9)).heap.size = x1.heap.size + 1:=by simp
     have hSA:=hS1.block (hbA.block Qe lE1)
     obtain ⟨v9,w9,hrun,ho9,hg9,hbk9⟩:=run_append_c (P:=Tryz.prog) (x1.alloc (.cells #[.string (entS 2 d.ep (t : Nat) x)] 9)) B 22 22 22 9 i0 (.string ⟨#[]⟩) 1 16 Tryz.underlying22 hi0 hz00 hz01 hz02 rfl _ d.L2.length _ (K1.T.T.bo.o1.below hbA (Nat.le_refl _)) _ 1 _ hsrc (by unfold maxLen;omega) (by omega) (by simp;omega)
     obtain ⟨a9,c9,rfl⟩:=ho9.slc
     have hap:=K1.T.T.app2 ho9 hg9 hbk9
     have KF:=K1.app hg9 hap.2 hbk9
     have hS9:=hSA.block (hg9.block Qe (by omega) (fun e=>hNE _ (row2_mem _ _) e.symm))
     have gs:=gset (World.grownBy.refl w9 (some Qd)) 7 (.slice a9 (d.L2.length + 1) c9)
     have hSF:=hS9.block (gs.block Qe (by have:=hg9.size;omega) (fun e=>by injection e with e;omega))
     have c7xA:=keepB hbA c7x1
     have HREL:=hid KF
     clear gs KF
     refine hOne (i:=8) (by kernel_rfl) (hVal (i:=8) (d:=some 35) (v:=.slice (some ⟨x1.heap.size,0,none⟩) 1 1) (w':=x1.alloc (.cells #[.string (entS 2 d.ep (t : Nat) x)] 9)) (l':=(bt 14 511)) rfl (by kernel_rfl) (by kernel_rfl) (by kernel_rfl) (run_bsLB (.tmp 34) (entS 2 d.ep (t : Nat) x) (by kernel_rfl) (by kernel_rfl)) hSA ?_)
     refine hOne (i:=9) (by kernel_rfl) (hVal (i:=9) (d:=some 36) (v:=.slice a9 (d.L2.length + 1) c9) (w':=w9) (l':=(bt 14 1023)) rfl (by kernel_rfl) (by kernel_rfl) (by kernel_rfl) (run_appB (.tmp 32) (.tmp 35) 22 22 22 (by kernel_rfl) (by kernel_rfl) (by kernel_rfl) (by kernel_rfl) hrun) hS9 ?_)
     refine hTk (i:=10) (d:=some 37) (v:=.pointer (some ⟨Qd,0,none⟩)) (l':=(bt 14 2047)) rfl (fun _ hc=>run_nc (.tmp 27) (by kernel_rfl) (by kernel_rfl)) hS9 ?_
     refine hTk (i:=11) (d:=some 38) (v:=.pointer (some ⟨Qd,6,none⟩)) (l':=(bt 14 4095)) rfl (fun _ hc=>run_fB6 (.tmp 37) (by kernel_rfl) (by kernel_rfl)) hS9 ?_
     refine hTk (i:=12) (d:=some 39) (v:=.pointer (some ⟨Qd,7,none⟩)) (l':=(bt 14 8191)) rfl (fun _ hc=>run_fL1 (.tmp 38) (by kernel_rfl) (by kernel_rfl)) hS9 ?_
     refine hOne (i:=13) (by kernel_rfl) (hSkip (i:=13) (w':=w9.setCell ⟨Qd,7,none⟩ (.slice a9 (d.L2.length + 1) c9)) (l':=(bt 14 16383)) rfl (by kernel_rfl) (by kernel_rfl) (by kernel_rfl) (run_stLsB (.tmp 39) (.tmp 36) a9 (d.L2.length + 1) c9 (by kernel_rfl) (by kernel_rfl) (by kernel_rfl) (hap.1 7 (by simp [bvs])).1 (hap.1 7 (by simp [bvs])).2) hSF ?_)
     refine wpAnyH_done (by kernel_rfl) ?_ _
     clear hS0 hS1 hS9 hSF hSA hrun hap ho9 hg9 hbk9 hown1 hsrc hbA c7x0 c7x1 c7xA K0 K1
     go_simp
     go_wp2_with fail
     go_meet
     case rel=>exact ⟨_,HREL.out⟩
    ·rintro _ x1 ⟨⟨r5,rfl,hr5⟩,hb5⟩
     obtain rfl : r5 = entS 2 d.ep (t : Nat) x:=by
      rcases hr5 with h | h
      ·exact h.2
      ·exact absurd HVE.out h.1
     have K1:=K0.below hb5
     have hS1:=hS0.block (hb5.block Qe lE0)
     have lE1 : Qe < x1.heap.size:=Nat.lt_of_lt_of_le lE0 hb5.size
     have c7x1:=keepB hb5 c7x0
     refine ⟨hS1,?_⟩
     have hqT:=K1.T.T.q
     have hown1 : Own B (x1.alloc (.cells #[.string (entS 2 d.ep (t : Nat) x)] 9)) 1 (.slice (some ⟨x1.heap.size,0,none⟩) 1 1) 1 [.string (entS 2 d.ep (t : Nat) x)] :=
      .inr ⟨_,0,1,rfl,OwnC.made x1 B 9 1 1 1 _ 1 (by omega) (Nat.le_refl _) (by unfold maxLen;omega) rfl (Nat.le_refl _) _ rfl _ (.inl rfl)⟩
     have hsrc : Src Tryz.prog 1 22 _ 1 _ (x1.alloc (.cells #[.string (entS 2 d.ep (t : Nat) x)] 9)):=hown1.src Tryz.underlying22 (by simp;rfl)
     have hbA : Below x1.heap.size x1 (x1.alloc (.cells #[.string (entS 2 d.ep (t : Nat) x)] 9)):=(Below.refl _ _).alloc (Nat.le_refl _) _
     have zA : (x1.alloc (.cells #[.string (entS 2 d.ep (t : Nat) x)] 9)).heap.size = x1.heap.size + 1:=by simp
     have hSA:=hS1.block (hbA.block Qe lE1)
     obtain ⟨v9,w9,hrun,ho9,hg9,hbk9⟩:=run_append_c (P:=Tryz.prog) (x1.alloc (.cells #[.string (entS 2 d.ep (t : Nat) x)] 9)) B 22 22 22 9 i0 (.string ⟨#[]⟩) 1 16 Tryz.underlying22 hi0 hz00 hz01 hz02 rfl _ d.L2.length _ (K1.T.T.bo.o1.below hbA (Nat.le_refl _)) _ 1 _ hsrc (by unfold maxLen;omega) (by omega) (by simp;omega)
     obtain ⟨a9,c9,rfl⟩:=ho9.slc
     have hap:=K1.T.T.app2 ho9 hg9 hbk9
     have KF:=K1.app hg9 hap.2 hbk9
     have hS9:=hSA.block (hg9.block Qe (by omega) (fun e=>hNE _ (row2_mem _ _) e.symm))
     have gs:=gset (World.grownBy.refl w9 (some Qd)) 7 (.slice a9 (d.L2.length + 1) c9)
     have hSF:=hS9.block (gs.block Qe (by have:=hg9.size;omega) (fun e=>by injection e with e;omega))
     have c7xA:=keepB hbA c7x1
     have HREL:=hid KF
     clear gs KF
     refine hTwo (i:=5) (j:=8) (by kernel_rfl) (hVal (i:=5) (d:=some 32) (v:=.slice h.a2 d.L2.length h.c2) (w':=x1) (l':=(bt 14 255)) rfl (by kernel_rfl) (by kernel_rfl) (by kernel_rfl) (run_ldLsB (.tmp 31) (by kernel_rfl) (by kernel_rfl) c7x1) hS1 ?_) (hVal (i:=8) (d:=some 35) (v:=.slice (some ⟨x1.heap.size,0,none⟩) 1 1) (w':=x1.alloc (.cells #[.string (entS 2 d.ep (t : Nat) x)] 9)) (l':=(bt 14 479)) rfl (by kernel_rfl) (by kernel_rfl) (by kernel_rfl) (run_bsLB (.tmp 34) (entS 2 d.ep (t : Nat) x) (by kernel_rfl) (by kernel_rfl)) hSA ?_)
     ·refine hOne (i:=8) (by kernel_rfl) (hVal (i:=8) (d:=some 35) (v:=.slice (some ⟨x1.heap.size,0,none⟩) 1 1) (w':=x1.alloc (.cells #[.string (entS 2 d.ep (t : Nat) x)] 9)) (l':=(bt 14 511)) rfl (by kernel_rfl) (by kernel_rfl) (by kernel_rfl) (run_bsLB (.tmp 34) (entS 2 d.ep (t : Nat) x) (by kernel_rfl) (by kernel_rfl)) hSA ?_)
      refine hOne (i:=9) (by kernel_rfl) (hVal (i:=9) (d:=some 36) (v:=.slice a9 (d.L2.length + 1) c9) (w':=w9) (l':=(bt 14 1023)) rfl (by kernel_rfl) (by kernel_rfl) (by kernel_rfl) (run_appB (.tmp 32) (.tmp 35) 22 22 22 (by kernel_rfl) (by kernel_rfl) (by kernel_rfl) (by kernel_rfl) hrun) hS9 ?_)
      refine hTk (i:=10) (d:=some 37) (v:=.pointer (some ⟨Qd,0,none⟩)) (l':=(bt 14 2047)) rfl (fun _ hc=>run_nc (.tmp 27) (by kernel_rfl) (by kernel_rfl)) hS9 ?_
      refine hTk (i:=11) (d:=some 38) (v:=.pointer (some ⟨Qd,6,none⟩)) (l':=(bt 14 4095)) rfl (fun _ hc=>run_fB6 (.tmp 37) (by kernel_rfl) (by kernel_rfl)) hS9 ?_
      refine hTk (i:=12) (d:=some 39) (v:=.pointer (some ⟨Qd,7,none⟩)) (l':=(bt 14 8191)) rfl (fun _ hc=>run_fL1 (.tmp 38) (by kernel_rfl) (by kernel_rfl)) hS9 ?_
      refine hOne (i:=13) (by kernel_rfl) (hSkip (i:=13) (w':=w9.setCell ⟨Qd,7,none⟩ (.slice a9 (d.L2.length + 1) c9)) (l':=(bt 14 16383)) rfl (by kernel_rfl) (by kernel_rfl) (by kernel_rfl) (run_stLsB (.tmp 39) (.tmp 36) a9 (d.L2.length + 1) c9 (by kernel_rfl) (by kernel_rfl) (by kernel_rfl) (hap.1 7 (by simp [bvs])).1 (hap.1 7 (by simp [bvs])).2) hSF ?_)
      refine wpAnyH_done (by kernel_rfl) ?_ _
      clear hS0 hS1 hS9 hSF hSA hrun hap ho9 hg9 hbk9 hown1 hsrc hbA c7x0 c7x1 c7xA K0 K1
      go_simp
      go_wp2_with fail
      go_meet
      case rel=>exact ⟨_,HREL.out⟩
     ·refine hOne (i:=5) (by kernel_rfl) (hVal (i:=5) (d:=some 32) (v:=.slice h.a2 d.L2.length h.c2) (w':=(x1.alloc (.cells #[.string (entS 2 d.ep (t : Nat) x)] 9))) (l':=(bt 14 511)) rfl (by kernel_rfl) (by kernel_rfl) (by kernel_rfl) (run_ldLsB (.tmp 31) (by kernel_rfl) (by kernel_rfl) c7xA) hSA ?_)
      refine hOne (i:=9) (by kernel_rfl) (hVal (i:=9) (d:=some 36) (v:=.slice a9 (d.L2.length + 1) c9) (w':=w9) (l':=(bt 14 1023)) rfl (by kernel_rfl) (by kernel_rfl) (by kernel_rfl) (run_appB (.tmp 32) (.tmp 35) 22 22 22 (by kernel_rfl) (by kernel_rfl) (by kernel_rfl) (by kernel_rfl) hrun) hS9 ?_)
      refine hTk (i:=10) (d:=some 37) (v:=.pointer (some ⟨Qd,0,none⟩)) (l':=(bt 14 2047)) rfl (fun _ hc=>run_nc (.tmp 27) (by kernel_rfl) (by kernel_rfl)) hS9 ?_
      refine hTk (i:=11) (d:=some 38) (v:=.pointer (some ⟨Qd,6,none⟩)) (l':=(bt 14 4095)) rfl (fun _ hc=>run_fB6 (.tmp 37) (by kernel_rfl) (by kernel_rfl)) hS9 ?_
      refine hTk (i:=12) (d:=some 39) (v:=.pointer (some ⟨Qd,7,none⟩)) (l':=(bt 14 8191)) rfl (fun _ hc=>run_fL1 (.tmp 38) (by kernel_rfl) (by kernel_rfl)) hS9 ?_
      refine hOne (i:=13) (by kernel_rfl) (hSkip (i:=13) (w':=w9.setCell ⟨Qd,7,none⟩ (.slice a9 (d.L2.length + 1) c9)) (l':=(bt 14 16383)) rfl (by kernel_rfl) (by kernel_rfl) (by kernel_rfl) (run_stLsB (.tmp 39) (.tmp 36) a9 (d.L2.length + 1) c9 (by kernel_rfl) (by kernel_rfl) (by kernel_rfl) (hap.1 7 (by simp [bvs])).1 (hap.1 7 (by simp [bvs])).2) hSF ?_)
      refine wpAnyH_done (by kernel_rfl) ?_ _
      clear hS0 hS1 hS9 hSF hSA hrun hap ho9 hg9 hbk9 hown1 hsrc hbA c7x0 c7x1 c7xA K0 K1
      go_simp
      go_wp2_with fail
      go_meet
      case rel=>exact ⟨_,HREL.out⟩
   case rest =>
    obtain ⟨h5,K5⟩:=hcut
    clear K3 HNE cE lE hde
    have m5 : wc.cell? ⟨Qx,5,none⟩ = some (.int .i64 (t : Nat)):=(K5.M 5 (by simp)).1
    have HEJ:=hid (endJob_any w0 wc B wc.heap.size Qd Qp ⟨d.wk,d.up,d.now,d.sn,d.ep,d.gv,d.L1,d.L2 ++ [entS 2 d.ep (t : Nat) x],d.R.set t x,d.J,d.S,d.O⟩ h5 ts pa pc d.now d.sn nb ⟨d.gv,d.J,d.S,[]⟩ (.slice none 0 0) [] t wc K5.T.toD htJ hI)
    have HK5:=hid K5
    clear K5
    go_wp2_with fail
    refine HEJ.out.mono ?_
    rintro _ w2 ⟨rfl,s2⟩
    have HF:=hid (show ∃ h',KeQ w0 B Qd Qp ts pa pc nb w d h ⟨d.wk,d.up,d.now,d.sn,d.ep,d.gv,d.L1,d.L2 ++ [entS 2 d.ep (t : Nat) x],d.R.set t x,d.J.set t (0,0,0),d.S,d.O⟩ h' w2 from ⟨h5,s2.toM hBz,fun q h1 h2 h3 h4=>(s2.fx q (Nat.lt_of_lt_of_le h1 HK5.out.z) h2 h3 (fun r hr e=>HK5.out.nr hr h1 h4 e.symm)).trans (HK5.out.g q h1 h2 h3 h4),by have e : rowsB ⟨d.wk,d.up,d.now,d.sn,d.ep,d.gv,d.L1,d.L2 ++ [entS 2 d.ep (t : Nat) x],d.R.set t x,d.J.set t (0,0,0),d.S,d.O⟩ h5 = rowsB ⟨d.wk,d.up,d.now,d.sn,d.ep,d.gv,d.L1,d.L2 ++ [entS 2 d.ep (t : Nat) x],d.R.set t x,d.J,d.S,d.O⟩ h5:=(by unfold rowsB;simp only [List.length_set]);rw [e];exact HK5.out.r,Nat.le_trans HK5.out.z s2.H.sz⟩)
    clear s2 HEJ m5
    go_wp2_with fail
    go_end0
    exact ⟨rfl,HF.out⟩
end Go.Proofs.YtaeomkpofcbmiaaGreatDoor
