
import Derived.Test.YtaeomkpofcbmiaaGreatDoorQBke
import Derived.Test.YtaeomkpofcbmiaaGreatDoorQBfi
import Derived.Test.YtaeomkpofcbmiaaGreatDoorQRIm
import Derived.Deep.DeepCutAuto
set_option maxHeartbeats 8000000
set_option maxRecDepth 100000
namespace Go.Proofs.YtaeomkpofcbmiaaGreatDoor
open Go.RowKit
theorem hOneC {P : Program} {md : Region.Mode} {ops : Array Oper} {Q : Exit → Act → World → Prop} {S : World → Prop} {i : Nat} {oi : Oper} {d : Option Nat} {fuel : Nat} {l l' : Array Bool} {a : Act} {w : World} {f : FuncId} {args : Array Value} {R : Value → World → Prop} (hr : Region.ready md ops l = [i]) (hi : ops[i]? = some oi) (hd : oi.dst = d) (hw : Region.wanted oi (yielded ops a.tmps) = true) (hl : l.setIfInBounds i true = l') (hy : (execOp a.eval oi).run P w = .ok (.enter f args) w) (hc : Calls P f args w fun e w'=>∃ v,e = .returned v ∧ R v w')
  (h : ∀ v w',R v w' → S w' ∧ wpAnyH P md ops Q S fuel l' (a.put d v) w') : wpAnyH P md ops Q S (fuel + 1) l a w :=
 hOne hr (hCall hi hd hw hl hy hc h)
section
variable {ρ : Operand → Value} {o : Oper} {w : World}
theorem run_faP0o {b k : Nat} (x : Operand) (h : o.op = .fieldAddr 51 x 0) (hx : ρ x = .pointer (some ⟨b,k,none⟩)) : (execOp ρ o).run Tryz.prog w = .ok (.value (.pointer (some ⟨b,k,none⟩))) w:=by
 unfold execOp;rw [h];simp [go_sem,hx]
theorem run_ldPlT {p : Addr} {a : Option Addr} {n c : Nat} (x : Operand) (h : o.op = .load 51 x) (hx : ρ x = .pointer (some p)) (hc : w.cell? p = some (.slice a n c)) : (execOp ρ o).run Tryz.prog w = .ok (.value (.agg #[.slice a n c])) w:=by
 unfold execOp;rw [h];simp [go_sem,hx,hc]
theorem run_ldLg {g k : Nat} {a1 a2 : Option Addr} {n1 c1 n2 c2 : Nat} (x : Operand) (h : o.op = .load 38 x) (hx : ρ x = .pointer (some ⟨g,k,none⟩)) (hc : w.cell? ⟨g,k,none⟩ = some (.slice a1 n1 c1)) (hc2 : w.cell? ⟨g,k + 1,none⟩ = some (.slice a2 n2 c2)) : (execOp ρ o).run Tryz.prog w = .ok (.value (.agg #[.slice a1 n1 c1,.slice a2 n2 c2])) w:=by
 unfold execOp;rw [h];simp [go_sem,hx,hc,hc2]
end
theorem enter_lgSz (v1 : Value) (w : World) : Sem.run Tryz.prog (callFunc 105 #[v1]) w = .ok (.enter 105 #[v1]) w:=by kernel_rfl
theorem takeResult_any (w0 : World) (B Qd Qp : Nat) (ts : List TaskD) (pb po pc nb : Nat) (d : BD) (h : BH) (kd tw ep le : Int) (k t : Nat) (x : ByteArray) (ss : List ByteArray) (ua : Option Addr) (un uc : Nat) (w : World) (s : TmS w0 B Qd Qp ts (some ⟨pb,po,none⟩) pc nb d h w) (hB : B = w0.heap.size) (hf : d.fits) (hx : x.size = 8) (hT : TasksAt w0 (some ⟨pb,po,none⟩) pb po ts.length ts) (hAD : allDeps ts ts.length) (hRl : d.R.length = ts.length) (hJl : d.J.length = ts.length) (h40 : ts.length ≤ 40) (ht : t ≤ 39) (hk : k < d.S.length) (hk8 : k ≤ 100) (hep : 1 ≤ d.ep ∧ d.ep ≤ 300) (hl : d.L1.length + d.L2.length ≤ 310) (hol : d.O.length ≤ 2000) :
  Calls Tryz.prog 86 #[.pointer (some ⟨Qd,0,none⟩),.agg #[.int .i64 kd,.int .i64 ((k : Int) + 1),.int .i64 tw,.int .i64 ep,.int .i64 le,.int .i64 (t : Nat),.string x,.slice ua un uc]] w fun e w'=>e = .returned (.tuple #[]) ∧ ∃ h',TmS w0 B Qd Qp ts (some ⟨pb,po,none⟩) pc nb (resB d ts (⟨kd,(k : Int) + 1,tw,ep,le,(t : Nat),x,ss⟩ : MgD)) h' w':=by
 obtain ⟨W,hW⟩ : ∃ V,V = w.alloc (.cells #[.int .i64 kd,.int .i64 ((k : Int) + 1),.int .i64 tw,.int .i64 ep,.int .i64 le,.int .i64 (t : Nat),.string x,.slice ua un uc] 53):=⟨_,rfl⟩
 obtain ⟨Qx,hQx⟩ : ∃ q,q = w.heap.size:=⟨_,rfl⟩
 have hbW : Below w.heap.size w W:=by rw [hW];exact (Below.refl _ _).alloc (Nat.le_refl _) _
 have cW : CF W Qx [.int .i64 kd,.int .i64 ((k : Int) + 1),.int .i64 tw,.int .i64 ep,.int .i64 le,.int .i64 (t : Nat),.string x,.slice ua un uc]:=by rw [hW,hQx];exact CF.made w #[.int .i64 kd,.int .i64 ((k : Int) + 1),.int .i64 tw,.int .i64 ep,.int .i64 le,.int .i64 (t : Nat),.string x,.slice ua un uc] 53
 have zW : W.heap.size = Qx + 1:=by rw [hW,hQx];simp
 have hpx : Qp < Qx:=by rw [hQx];exact s.q.2.2
 have KW : KeS w0 B Qd Qp ts (some ⟨pb,po,none⟩) pc nb Qx [.int .i64 kd,.int .i64 ((k : Int) + 1),.int .i64 tw,.int .i64 ep,.int .i64 le,.int .i64 (t : Nat),.string x,.slice ua un uc] w d h d h W:=⟨s.below hbW,cW,fun r hr e=>by have:=(s.T.bo.lo r hr Qx e).2;omega,⟨by have:=s.T.q;omega,by omega⟩,fun q h1 _ _ _=>hbW.block q h1,fun r hr=>.inl hr,hbW.size⟩
 have HW:=hid hW
 have HQ:=hid hQx
 have HB:=hid hB
 have HFF:=hid hf
 have HTT:=hid hT
 have HAD:=hid hAD
 have HRL:=hid hRl
 have HJL:=hid hJl
 clear hW hQx hbW s cW zW hB hf hT hAD hRl hJl
 go_enter Tryz.func86,Tryz.ntmps86
 go_upto_region 1 with fail
 rw [← HW.out,← HQ.out]
 clear HW HQ
 refine wp_region_held (S:=fun w'=>w'.cell? ⟨Qx,5,none⟩ = some (.int .i64 (t : Nat)) ∧ w'.cell? ⟨Qd,12,none⟩ = some (.slice (some ⟨pb,po,none⟩) ts.length pc)) (by kernel_rfl) ?_
 change wpAnyH _ _ _ _ _ _ _ _ (World.drew _)
 have K0:=KW.below (Below.refl W.heap.size W).drew
 obtain ⟨x0,hx0⟩ : ∃ U,U = W.drew:=⟨_,rfl⟩
 rw [← hx0] at K0
 rw [← hx0]
 clear hx0 KW
 have hS0 : x0.cell? ⟨Qx,5,none⟩ = some (.int .i64 (t : Nat)) ∧ x0.cell? ⟨Qd,12,none⟩ = some (.slice (some ⟨pb,po,none⟩) ts.length pc):=⟨(K0.M 5 (by simp)).1,(K0.T.T.D 12 (by simp [bvs])).1⟩
 by_cases htl : t < ts.length
 case neg =>
  have hd : decide (((ts.length : Nat) : Int) ≤ ((t : Nat) : Int)) = true:=decide_eq_true (by omega)
  refine hTk (i:=0) (d:=some 4) (v:=.pointer (some ⟨Qx,5,none⟩)) (l':=(bt 9 1)) rfl (fun _ hc=>run_fM5 (.tmp 3) (by kernel_rfl) (by kernel_rfl)) hS0 ?_
  refine hTk (i:=1) (d:=some 5) (v:=.int .i64 (t : Nat)) (l':=(bt 9 3)) rfl (fun _ hc=>run_ldInB (.tmp 4) (by kernel_rfl) (by kernel_rfl) hc.1) hS0 ?_
  refine hTk (i:=2) (d:=some 6) (v:=.pointer (some ⟨Qd,0,none⟩)) (l':=(bt 9 7)) rfl (fun _ hc=>run_mvF (.tmp 0) (by kernel_rfl) (by kernel_rfl)) hS0 ?_
  refine hTk (i:=3) (d:=some 7) (v:=.pointer (some ⟨Qd,0,none⟩)) (l':=(bt 9 15)) rfl (fun _ hc=>run_nc (.tmp 6) (by kernel_rfl) (by kernel_rfl)) hS0 ?_
  refine hTk (i:=4) (d:=some 8) (v:=.pointer (some ⟨Qd,12,none⟩)) (l':=(bt 9 31)) rfl (fun _ hc=>run_faD1 (.tmp 7) (by kernel_rfl) (by kernel_rfl)) hS0 ?_
  refine hTk (i:=5) (d:=some 9) (v:=.pointer (some ⟨Qd,12,none⟩)) (l':=(bt 9 63)) rfl (fun _ hc=>run_faP0o (.tmp 8) (by kernel_rfl) (by kernel_rfl)) hS0 ?_
  refine hTk (i:=6) (d:=some 10) (v:=.slice (some ⟨pb,po,none⟩) ts.length pc) (l':=(bt 9 127)) rfl (fun _ hc=>run_ldTsB (.tmp 9) (by kernel_rfl) (by kernel_rfl) hc.2) hS0 ?_
  refine hTk (i:=7) (d:=some 11) (v:=.int .i64 (ts.length : Nat)) (l':=(bt 9 255)) rfl (fun _ hc=>run_lenTs (.tmp 10) (some ⟨pb,po,none⟩) ts.length pc (by kernel_rfl) (by kernel_rfl)) hS0 ?_
  refine hTk (i:=8) (d:=some 12) (v:=.bool true) (l':=(bt 9 511)) rfl (fun _ hc=>run_geB (.tmp 5) (.tmp 11) (t : Nat) (ts.length : Nat) true (by kernel_rfl) (by kernel_rfl) (by kernel_rfl) hd) hS0 ?_
  refine wpAnyH_done (by kernel_rfl) ?_ _
  have HF:=hid (show ∃ h',TmS w0 B Qd Qp ts (some ⟨pb,po,none⟩) pc nb (resB d ts (⟨kd,(k : Int) + 1,tw,ep,le,(t : Nat),x,ss⟩ : MgD)) h' x0 from ⟨h,by rw [resB_no (by show ¬ ((t : Nat) : Int) < (ts.length : Int);omega)];exact K0.T⟩)
  clear hS0 K0 hd
  go_simp
  go_wp2_with fail
  (try simp only [Exit.inBlock,Exit.then])
  refine bodyPost_ret (results_none rfl _ _ _) rfl ?_
  exact ⟨rfl,HF.out⟩
 case pos =>
  have hd : decide (((ts.length : Nat) : Int) ≤ ((t : Nat) : Int)) = false:=decide_eq_false (by omega)
  refine hTk (i:=0) (d:=some 4) (v:=.pointer (some ⟨Qx,5,none⟩)) (l':=(bt 9 1)) rfl (fun _ hc=>run_fM5 (.tmp 3) (by kernel_rfl) (by kernel_rfl)) hS0 ?_
  refine hTk (i:=1) (d:=some 5) (v:=.int .i64 (t : Nat)) (l':=(bt 9 3)) rfl (fun _ hc=>run_ldInB (.tmp 4) (by kernel_rfl) (by kernel_rfl) hc.1) hS0 ?_
  refine hTk (i:=2) (d:=some 6) (v:=.pointer (some ⟨Qd,0,none⟩)) (l':=(bt 9 7)) rfl (fun _ hc=>run_mvF (.tmp 0) (by kernel_rfl) (by kernel_rfl)) hS0 ?_
  refine hTk (i:=3) (d:=some 7) (v:=.pointer (some ⟨Qd,0,none⟩)) (l':=(bt 9 15)) rfl (fun _ hc=>run_nc (.tmp 6) (by kernel_rfl) (by kernel_rfl)) hS0 ?_
  refine hTk (i:=4) (d:=some 8) (v:=.pointer (some ⟨Qd,12,none⟩)) (l':=(bt 9 31)) rfl (fun _ hc=>run_faD1 (.tmp 7) (by kernel_rfl) (by kernel_rfl)) hS0 ?_
  refine hTk (i:=5) (d:=some 9) (v:=.pointer (some ⟨Qd,12,none⟩)) (l':=(bt 9 63)) rfl (fun _ hc=>run_faP0o (.tmp 8) (by kernel_rfl) (by kernel_rfl)) hS0 ?_
  refine hTk (i:=6) (d:=some 10) (v:=.slice (some ⟨pb,po,none⟩) ts.length pc) (l':=(bt 9 127)) rfl (fun _ hc=>run_ldTsB (.tmp 9) (by kernel_rfl) (by kernel_rfl) hc.2) hS0 ?_
  refine hTk (i:=7) (d:=some 11) (v:=.int .i64 (ts.length : Nat)) (l':=(bt 9 255)) rfl (fun _ hc=>run_lenTs (.tmp 10) (some ⟨pb,po,none⟩) ts.length pc (by kernel_rfl) (by kernel_rfl)) hS0 ?_
  refine hTk (i:=8) (d:=some 12) (v:=.bool false) (l':=(bt 9 511)) rfl (fun _ hc=>run_geB (.tmp 5) (.tmp 11) (t : Nat) (ts.length : Nat) false (by kernel_rfl) (by kernel_rfl) (by kernel_rfl) hd) hS0 ?_
  refine wpAnyH_done (by kernel_rfl) ?_ _
  clear hS0 hd
  go_simp
  go_upto_region 2 with fail
  go_cut [33] (fun c wx=>∃ b : Bool,c = .bool b ∧ (b = true ↔ dueOk ts d.R t ∧ d.L1.length + d.L2.length < 310) ∧ KeS w0 B Qd Qp ts (some ⟨pb,po,none⟩) pc nb Qx [.int .i64 kd,.int .i64 ((k : Int) + 1),.int .i64 tw,.int .i64 ep,.int .i64 le,.int .i64 (t : Nat),.string x,.slice ua un uc] w d h d h wx)
  case first =>
   obtain ⟨br,or',crr,hre,hrc,_,_⟩:=K0.T.T.bo.o2.set1 (t:=t) (by rw [HRL.out];exact htl)
   have e1 : h.ar = some ⟨br,or',none⟩:=by injection hre with e1 e2 e3
   have KA:=K0.below (Below.refl x0.heap.size x0).drew
   refine wp_region_held (S:=fun w'=>w'.cell? ⟨Qd,12,none⟩ = some (.slice (some ⟨pb,po,none⟩) ts.length pc) ∧ w'.cell? ⟨Qd,8,none⟩ = some (.slice (some ⟨br,or',none⟩) ts.length h.cr) ∧ w'.cell? ⟨Qx,5,none⟩ = some (.int .i64 (t : Nat)) ∧ w'.cell? ⟨Qd,6,none⟩ = some (.slice h.a1 d.L1.length h.c1) ∧ w'.cell? ⟨Qd,7,none⟩ = some (.slice h.a2 d.L2.length h.c2)) (by kernel_rfl) ?_
   change wpAnyH _ _ _ _ _ _ _ _ (World.drew _)
   obtain ⟨xz,hxz⟩ : ∃ U,U = x0.drew:=⟨_,rfl⟩
   rw [← hxz] at KA
   rw [← hxz]
   clear hxz K0 hre hrc
   obtain ⟨x0,hx0⟩ : ∃ U,U = xz:=⟨_,rfl⟩
   rw [← hx0] at KA
   rw [← hx0]
   clear hx0
   have K0:=KA
   clear KA
   have hS0 : x0.cell? ⟨Qd,12,none⟩ = some (.slice (some ⟨pb,po,none⟩) ts.length pc) ∧ x0.cell? ⟨Qd,8,none⟩ = some (.slice (some ⟨br,or',none⟩) ts.length h.cr) ∧ x0.cell? ⟨Qx,5,none⟩ = some (.int .i64 (t : Nat)) ∧ x0.cell? ⟨Qd,6,none⟩ = some (.slice h.a1 d.L1.length h.c1) ∧ x0.cell? ⟨Qd,7,none⟩ = some (.slice h.a2 d.L2.length h.c2):=⟨(K0.T.T.D 12 (by simp [bvs])).1,by rw [← e1,← HRL.out];exact (K0.T.T.D 8 (by simp [bvs])).1,(K0.M 5 (by simp)).1,(K0.T.T.D 6 (by simp [bvs])).1,(K0.T.T.D 7 (by simp [bvs])).1⟩
   have hTx : TasksAt x0 (some ⟨pb,po,none⟩) pb po ts.length ts:=HTT.out.below' (HB.out ▸ K0.T.T.hb)
   obtain ⟨br',or2,hRy,_⟩:=K0.T.T.bo.o2.statB HFF.out.s3
   have hRe:=hRy.ad (by have:=HRL.out;omega)
   rw [e1] at hRe hRy
   injection hRe with hRe
   injection hRe with hRe1 hRe2
   subst hRe1 hRe2
   have hRx : StrsAt x0 (some ⟨br,or',none⟩) br or' ts.length d.R:=by rw [← HRL.out];exact hRy
   clear hRy e1
   refine hTk (i:=0) (d:=some 13) (v:=.pointer (some ⟨Qd,0,none⟩)) (l':=(bt 21 1)) rfl (fun _ hc=>run_mvF (.tmp 0) (by kernel_rfl) (by kernel_rfl)) hS0 ?_
   refine hTk (i:=1) (d:=some 14) (v:=.pointer (some ⟨Qd,0,none⟩)) (l':=(bt 21 3)) rfl (fun _ hc=>run_nc (.tmp 13) (by kernel_rfl) (by kernel_rfl)) hS0 ?_
   refine hTk (i:=2) (d:=some 15) (v:=.pointer (some ⟨Qd,12,none⟩)) (l':=(bt 21 7)) rfl (fun _ hc=>run_faD1 (.tmp 14) (by kernel_rfl) (by kernel_rfl)) hS0 ?_
   refine hTk (i:=3) (d:=some 16) (v:=.agg #[.slice (some ⟨pb,po,none⟩) ts.length pc]) (l':=(bt 21 15)) rfl (fun _ hc=>run_ldPlT (.tmp 15) (by kernel_rfl) (by kernel_rfl) hc.1) hS0 ?_
   refine hTk (i:=4) (d:=some 17) (v:=.pointer (some ⟨Qd,0,none⟩)) (l':=(bt 21 31)) rfl (fun _ hc=>run_mvF (.tmp 0) (by kernel_rfl) (by kernel_rfl)) hS0 ?_
   refine hTk (i:=5) (d:=some 18) (v:=.pointer (some ⟨Qd,0,none⟩)) (l':=(bt 21 63)) rfl (fun _ hc=>run_nc (.tmp 17) (by kernel_rfl) (by kernel_rfl)) hS0 ?_
   refine hTk (i:=6) (d:=some 19) (v:=.pointer (some ⟨Qd,0,none⟩)) (l':=(bt 21 127)) rfl (fun _ hc=>run_faD0 (.tmp 18) (by kernel_rfl) (by kernel_rfl)) hS0 ?_
   refine hTk (i:=7) (d:=some 20) (v:=.pointer (some ⟨Qd,8,none⟩)) (l':=(bt 21 255)) rfl (fun _ hc=>run_faB7 (.tmp 19) (by kernel_rfl) (by kernel_rfl)) hS0 ?_
   refine hTk (i:=8) (d:=some 21) (v:=(.slice (some ⟨br,or',none⟩) ts.length h.cr)) (l':=(bt 21 511)) rfl (fun _ hc=>run_ldLsB (.tmp 20) (by kernel_rfl) (by kernel_rfl) hc.2.1) hS0 ?_
   refine hTk (i:=9) (d:=some 22) (v:=.pointer (some ⟨Qx,5,none⟩)) (l':=(bt 21 1023)) rfl (fun _ hc=>run_fM5 (.tmp 3) (by kernel_rfl) (by kernel_rfl)) hS0 ?_
   refine hTk (i:=10) (d:=some 23) (v:=.int .i64 (t : Nat)) (l':=(bt 21 2047)) rfl (fun _ hc=>run_ldInB (.tmp 22) (by kernel_rfl) (by kernel_rfl) hc.2.2.1) hS0 ?_
   refine hOneC (i:=11) (by kernel_rfl) (d:=some 24) (f:=109) (args:=#[.agg #[.slice (some ⟨pb,po,none⟩) ts.length pc],(.slice (some ⟨br,or',none⟩) ts.length h.cr),.int .i64 (t : Nat)]) (l':=(bt 21 4095)) (R:=fun v u=>(∃ r : Bool,v = .bool r ∧ (r = true ↔ dueOk ts d.R t)) ∧ Below x0.heap.size x0 u) rfl (by kernel_rfl) (by kernel_rfl) (by kernel_rfl) (run_cl3 _ _ _ _ rfl (by kernel_rfl) (by kernel_rfl) (by kernel_rfl) rfl enter_isDue) ((isDue_any (some ⟨pb,po,none⟩) pb po ts.length pc ts (some ⟨br,or',none⟩) br or' h.cr d.R t x0 hTx hRx htl HAD.out).mono fun _ _ ⟨⟨r,he,hr⟩,hb⟩=>⟨_,he,⟨r,rfl,hr⟩,hb⟩) ?_
   rintro _ x1 ⟨⟨r,rfl,hr⟩,hb1⟩
   have K1:=K0.below hb1
   have hS1 : x1.cell? ⟨Qd,12,none⟩ = some (.slice (some ⟨pb,po,none⟩) ts.length pc) ∧ x1.cell? ⟨Qd,8,none⟩ = some (.slice (some ⟨br,or',none⟩) ts.length h.cr) ∧ x1.cell? ⟨Qx,5,none⟩ = some (.int .i64 (t : Nat)) ∧ x1.cell? ⟨Qd,6,none⟩ = some (.slice h.a1 d.L1.length h.c1) ∧ x1.cell? ⟨Qd,7,none⟩ = some (.slice h.a2 d.L2.length h.c2):=⟨keepB hb1 hS0.1,keepB hb1 hS0.2.1,keepB hb1 hS0.2.2.1,keepB hb1 hS0.2.2.2.1,keepB hb1 hS0.2.2.2.2⟩
   refine ⟨hS1,?_⟩
   clear hTx hRx K0
   have HR:=hid hr
   cases r with
   | false =>
    refine hTk (i:=12) (d:=some 25) (v:=.bool false) (l':=(bt 21 8191)) rfl (fun _ hc=>run_mvF (.tmp 24) (by kernel_rfl) (by kernel_rfl)) hS1 ?_
    refine hTn (i:=13) (d:=some 26) (l':=(bt 21 16383)) rfl hS1 ?_
    refine hTn (i:=14) (d:=some 27) (l':=(bt 21 32767)) rfl hS1 ?_
    refine hTn (i:=15) (d:=some 28) (l':=(bt 21 65535)) rfl hS1 ?_
    refine hTn (i:=16) (d:=some 29) (l':=(bt 21 131071)) rfl hS1 ?_
    refine hTn (i:=17) (d:=some 30) (l':=(bt 21 262143)) rfl hS1 ?_
    refine hTn (i:=18) (d:=some 31) (l':=(bt 21 524287)) rfl hS1 ?_
    refine hTn (i:=19) (d:=some 32) (l':=(bt 21 1048575)) rfl hS1 ?_
    refine hTk (i:=20) (d:=some 33) (v:=.bool false) (l':=(bt 21 2097151)) rfl (fun _ hc=>run_pkfB (.tmp 25) (.tmp 32) (.const (.bool false)) _ (by kernel_rfl) (by kernel_rfl) (by kernel_rfl)) hS1 ?_
    refine wpAnyH_done (by kernel_rfl) ?_ _
    have HREL:=hid (show ∃ b : Bool,(.bool false : Value) = .bool b ∧ (b = true ↔ dueOk ts d.R t ∧ d.L1.length + d.L2.length < 310) ∧ KeS w0 B Qd Qp ts (some ⟨pb,po,none⟩) pc nb Qx [.int .i64 kd,.int .i64 ((k : Int) + 1),.int .i64 tw,.int .i64 ep,.int .i64 le,.int .i64 (t : Nat),.string x,.slice ua un uc] w d h d h x1 from ⟨false,rfl,⟨fun h=>(by cases h),fun h=>(by have:=HR.out.2 h.1;cases this)⟩,K1⟩)
    clear hS0 hS1 K1 hr HR
    go_simp
    go_wp2_with fail
    go_meet
    case rel=>exact HREL.out
   | true =>
    obtain ⟨b3,hb3⟩ : ∃ b,decide (((d.L1.length + d.L2.length : Nat) : Int) < 310) = b:=⟨_,rfl⟩
    refine hTk (i:=12) (d:=some 25) (v:=.bool true) (l':=(bt 21 8191)) rfl (fun _ hc=>run_mvF (.tmp 24) (by kernel_rfl) (by kernel_rfl)) hS1 ?_
    refine hTk (i:=13) (d:=some 26) (v:=.pointer (some ⟨Qd,0,none⟩)) (l':=(bt 21 16383)) rfl (fun _ hc=>run_mvF (.tmp 0) (by kernel_rfl) (by kernel_rfl)) hS1 ?_
    refine hTk (i:=14) (d:=some 27) (v:=.pointer (some ⟨Qd,0,none⟩)) (l':=(bt 21 32767)) rfl (fun _ hc=>run_nc (.tmp 26) (by kernel_rfl) (by kernel_rfl)) hS1 ?_
    refine hTk (i:=15) (d:=some 28) (v:=.pointer (some ⟨Qd,0,none⟩)) (l':=(bt 21 65535)) rfl (fun _ hc=>run_faD0 (.tmp 27) (by kernel_rfl) (by kernel_rfl)) hS1 ?_
    refine hTk (i:=16) (d:=some 29) (v:=.pointer (some ⟨Qd,6,none⟩)) (l':=(bt 21 131071)) rfl (fun _ hc=>run_fB6 (.tmp 28) (by kernel_rfl) (by kernel_rfl)) hS1 ?_
    refine hTk (i:=17) (d:=some 30) (v:=.agg #[.slice h.a1 d.L1.length h.c1,.slice h.a2 d.L2.length h.c2]) (l':=(bt 21 262143)) rfl (fun _ hc=>run_ldLg (.tmp 29) (by kernel_rfl) (by kernel_rfl) hc.2.2.2.1 hc.2.2.2.2) hS1 ?_
    refine hOneC (i:=18) (by kernel_rfl) (d:=some 31) (f:=105) (args:=#[.agg #[.slice h.a1 d.L1.length h.c1,.slice h.a2 d.L2.length h.c2]]) (l':=(bt 21 524287)) (R:=fun v u=>v = .int .i64 ((d.L1.length + d.L2.length : Nat) : Int) ∧ Below x1.heap.size x1 u) rfl (by kernel_rfl) (by kernel_rfl) (by kernel_rfl) (run_cl1 _ _ rfl (by kernel_rfl) rfl enter_lgSz) ((size_any h.a1 h.a2 d.L1.length h.c1 d.L2.length h.c2 x1 (by omega) (by omega)).mono fun _ _ ⟨he,hb⟩=>⟨_,he,rfl,hb⟩) ?_
    rintro _ x2 ⟨rfl,hb2⟩
    have K2:=K1.below hb2
    have hS2 : x2.cell? ⟨Qd,12,none⟩ = some (.slice (some ⟨pb,po,none⟩) ts.length pc) ∧ x2.cell? ⟨Qd,8,none⟩ = some (.slice (some ⟨br,or',none⟩) ts.length h.cr) ∧ x2.cell? ⟨Qx,5,none⟩ = some (.int .i64 (t : Nat)) ∧ x2.cell? ⟨Qd,6,none⟩ = some (.slice h.a1 d.L1.length h.c1) ∧ x2.cell? ⟨Qd,7,none⟩ = some (.slice h.a2 d.L2.length h.c2):=⟨keepB hb2 hS1.1,keepB hb2 hS1.2.1,keepB hb2 hS1.2.2.1,keepB hb2 hS1.2.2.2.1,keepB hb2 hS1.2.2.2.2⟩
    refine ⟨hS2,?_⟩
    refine hTk (i:=19) (d:=some 32) (v:=.bool b3) (l':=(bt 21 1048575)) rfl (fun _ hc=>run_ltB (.tmp 31) (.const (.int .i64 310)) ((d.L1.length + d.L2.length : Nat) : Int) 310 b3 (by kernel_rfl) (by kernel_rfl) (by kernel_rfl) hb3) hS2 ?_
    refine hTk (i:=20) (d:=some 33) (v:=.bool b3) (l':=(bt 21 2097151)) rfl (fun _ hc=>run_pkB (.tmp 25) (.tmp 32) (.const (.bool false)) _ (by kernel_rfl) (by kernel_rfl) (by kernel_rfl)) hS2 ?_
    refine wpAnyH_done (by kernel_rfl) ?_ _
    have HREL:=hid (show ∃ b : Bool,(.bool b3 : Value) = .bool b ∧ (b = true ↔ dueOk ts d.R t ∧ d.L1.length + d.L2.length < 310) ∧ KeS w0 B Qd Qp ts (some ⟨pb,po,none⟩) pc nb Qx [.int .i64 kd,.int .i64 ((k : Int) + 1),.int .i64 tw,.int .i64 ep,.int .i64 le,.int .i64 (t : Nat),.string x,.slice ua un uc] w d h d h x2 from ⟨b3,rfl,⟨fun h=>⟨HR.out.1 rfl,by rw [h] at hb3;have:=of_decide_eq_true hb3;omega⟩,fun h=>by rw [← hb3];exact decide_eq_true (by have:=h.2;omega)⟩,K2⟩)
    clear hS0 hS1 hS2 K1 K2 hr HR hb3
    go_simp
    go_wp2_with fail
    go_meet
    case rel=>exact HREL.out
  case rest =>
   obtain ⟨b,rfl,hb,K3⟩:=hcut
   clear K0
   go_upto_if 33 with fail
   go_cut [36] (fun _ wx=>∃ h1,KeS w0 B Qd Qp ts (some ⟨pb,po,none⟩) pc nb Qx [.int .i64 kd,.int .i64 ((k : Int) + 1),.int .i64 tw,.int .i64 ep,.int .i64 le,.int .i64 (t : Nat),.string x,.slice ua un uc] w d h (keepR d ts (⟨kd,(k : Int) + 1,tw,ep,le,(t : Nat),x,ss⟩ : MgD)) h1 wx)
   case first =>
    cases b with
    | false =>
     have HREL:=hid (show KeS w0 B Qd Qp ts (some ⟨pb,po,none⟩) pc nb Qx [.int .i64 kd,.int .i64 ((k : Int) + 1),.int .i64 tw,.int .i64 ep,.int .i64 le,.int .i64 (t : Nat),.string x,.slice ua un uc] w d h (keepR d ts (⟨kd,(k : Int) + 1,tw,ep,le,(t : Nat),x,ss⟩ : MgD)) h wc by rw [keepR_no (fun hh=>by have:=hb.2 ⟨by have:=hh.1;simpa using this,hh.2⟩;cases this)];exact K3)
     clear K3 hb
     go_wp2_with fail
     go_meet
     case rel=>exact ⟨h,HREL.out⟩
    | true =>
     have HDU:=hid (hb.1 rfl)
     clear hb
     obtain ⟨n0,n1,n2,n3,n4,n5,n6,n7⟩:=cf8 K3.M
     have HKR:=hid (keepResult_any w0 B Qd Qp ts (some ⟨pb,po,none⟩) pc nb d h kd ((k : Int) + 1) tw ep le t x ua un uc wc K3.T (by rw [HB.out];exact Nat.le_refl _) (by rw [HRL.out];exact htl) (by rw [HJL.out];exact htl) ht hx hep hl (HFF.out.k3 t (by rw [HJL.out];exact htl)).1)
     have HK3:=hid K3
     clear K3
     go_wp2_with fail
     refine HKR.out.mono ?_
     rintro _ w1 ⟨rfl,h5,q5⟩
     have K3:=HK3.out
     have hq3:=K3.q
     have hz3:=K3.z
     have HREL:=hid (show KeS w0 B Qd Qp ts (some ⟨pb,po,none⟩) pc nb Qx [.int .i64 kd,.int .i64 ((k : Int) + 1),.int .i64 tw,.int .i64 ep,.int .i64 le,.int .i64 (t : Nat),.string x,.slice ua un uc] w d h (keepR d ts (⟨kd,(k : Int) + 1,tw,ep,le,(t : Nat),x,ss⟩ : MgD)) h5 w1 by
      rw [keepR_yes ⟨by have:=HDU.out.1;simpa using this,HDU.out.2⟩]
      refine ⟨q5.T,K3.M.block (q5.g Qx hq3.2 (by omega) (by omega) K3.n),fun r hr e=>?_,⟨hq3.1,Nat.lt_of_lt_of_le hq3.2 q5.z⟩,fun q h1 h2 h3 h4=>(q5.g q (by omega) h2 h3 h4).trans (K3.g q h1 h2 h3 h4),fun r hr=>?_,Nat.le_trans hz3 q5.z⟩
      ·rcases q5.r r hr with h6 | h6
       ·exact K3.n r h6 e
       ·have:=h6 Qx e;omega
      ·rcases q5.r r hr with h6 | h6
       ·exact .inl h6
       ·exact .inr (fun q e=>by have:=h6 q e;omega))
     clear K3 q5 HKR HK3 n0 n1 n2 n3 n4 n5 n6 n7 hq3 hz3
     go_wp2_with fail
     go_meet
     case rel=>exact ⟨h5,HREL.out⟩
   case rest =>
    obtain ⟨h1,K4⟩:=hcut
    clear K3 hb
    have hfk:=keepR_facts d ts (⟨kd,(k : Int) + 1,tw,ep,le,(t : Nat),x,ss⟩ : MgD)
    obtain ⟨dK,hdK⟩ : ∃ q,q = (keepR d ts (⟨kd,(k : Int) + 1,tw,ep,le,(t : Nat),x,ss⟩ : MgD)):=⟨_,rfl⟩
    rw [← hdK] at K4 hfk
    have HE:=hid (show (resB d ts (⟨kd,(k : Int) + 1,tw,ep,le,(t : Nat),x,ss⟩ : MgD)) = (oweR (freeR dK (⟨kd,(k : Int) + 1,tw,ep,le,(t : Nat),x,ss⟩ : MgD)) (⟨kd,(k : Int) + 1,tw,ep,le,(t : Nat),x,ss⟩ : MgD)) by rw [resB_yes (by show ((t : Nat) : Int) < (ts.length : Int);omega),hdK])
    have HRK:=hid (show dK.R.length = ts.length by rw [hfk.1,HRL.out])
    have HSK:=hid (show k < dK.S.length by rw [hfk.2.1];exact hk)
    have HOK:=hid (show dK.O.length ≤ 2000 by rw [hfk.2.2];exact hol)
    clear hdK hfk
    obtain ⟨sK,hsK⟩ : ∃ s,s = rs dK.R t:=⟨_,rfl⟩
    go_upto_region 4 with fail
    go_cut [45] (fun c wx=>c = .string sK ∧ KeS w0 B Qd Qp ts (some ⟨pb,po,none⟩) pc nb Qx [.int .i64 kd,.int .i64 ((k : Int) + 1),.int .i64 tw,.int .i64 ep,.int .i64 le,.int .i64 (t : Nat),.string x,.slice ua un uc] w d h dK h1 wx)
    case first =>
     obtain ⟨br,or',crr,hre,hrc,_,_⟩:=K4.T.T.bo.o2.set1 (t:=t) (by rw [HRK.out];exact htl)
     have e1 : h1.ar = some ⟨br,or',none⟩:=by injection hre with e1 e2 e3
     rw [← hsK] at hrc
     refine wp_region_held (S:=fun w'=>w'.cell? ⟨Qd,8,none⟩ = some (.slice (some ⟨br,or',none⟩) ts.length h1.cr) ∧ w'.cell? ⟨Qx,5,none⟩ = some (.int .i64 (t : Nat)) ∧ w'.cell? ⟨br,or' + t,none⟩ = some (.string sK)) (by kernel_rfl) ?_
     change wpAnyH _ _ _ _ _ _ _ _ (World.drew _)
     have hS0 : wc.drew.cell? ⟨Qd,8,none⟩ = some (.slice (some ⟨br,or',none⟩) ts.length h1.cr) ∧ wc.drew.cell? ⟨Qx,5,none⟩ = some (.int .i64 (t : Nat)) ∧ wc.drew.cell? ⟨br,or' + t,none⟩ = some (.string sK):=⟨by rw [← e1,← HRK.out];exact (K4.T.T.D 8 (by simp [bvs])).1,(K4.M 5 (by simp)).1,hrc⟩
     have KA:=K4.below (Below.refl wc.heap.size wc).drew
     obtain ⟨xz,hxz⟩ : ∃ U,U = wc.drew:=⟨_,rfl⟩
     rw [← hxz] at KA hS0
     rw [← hxz]
     clear hxz K4 hre hrc e1 hsK
     refine hTk (i:=0) (d:=some 37) (v:=.pointer (some ⟨Qd,0,none⟩)) (l':=(bt 9 1)) rfl (fun _ hc=>run_mvF (.tmp 0) (by kernel_rfl) (by kernel_rfl)) hS0 ?_
     refine hTk (i:=1) (d:=some 38) (v:=.pointer (some ⟨Qd,0,none⟩)) (l':=(bt 9 3)) rfl (fun _ hc=>run_nc (.tmp 37) (by kernel_rfl) (by kernel_rfl)) hS0 ?_
     refine hTk (i:=2) (d:=some 39) (v:=.pointer (some ⟨Qd,0,none⟩)) (l':=(bt 9 7)) rfl (fun _ hc=>run_faD0 (.tmp 38) (by kernel_rfl) (by kernel_rfl)) hS0 ?_
     refine hTk (i:=3) (d:=some 40) (v:=.pointer (some ⟨Qd,8,none⟩)) (l':=(bt 9 15)) rfl (fun _ hc=>run_faB7 (.tmp 39) (by kernel_rfl) (by kernel_rfl)) hS0 ?_
     refine hTk (i:=4) (d:=some 41) (v:=(.slice (some ⟨br,or',none⟩) ts.length h1.cr)) (l':=(bt 9 31)) rfl (fun _ hc=>run_ldLsB (.tmp 40) (by kernel_rfl) (by kernel_rfl) hc.1) hS0 ?_
     refine hTk (i:=5) (d:=some 42) (v:=.pointer (some ⟨Qx,5,none⟩)) (l':=(bt 9 63)) rfl (fun _ hc=>run_fM5 (.tmp 3) (by kernel_rfl) (by kernel_rfl)) hS0 ?_
     refine hTk (i:=6) (d:=some 43) (v:=.int .i64 (t : Nat)) (l':=(bt 9 127)) rfl (fun _ hc=>run_ldInB (.tmp 42) (by kernel_rfl) (by kernel_rfl) hc.2.1) hS0 ?_
     refine hTk (i:=7) (d:=some 44) (v:=.pointer (some ⟨br,or' + t,none⟩)) (l':=(bt 9 255)) rfl (fun _ hc=>run_ixSo (.tmp 41) (.tmp 43) br or' ts.length h1.cr t (by kernel_rfl) (by kernel_rfl) (by kernel_rfl) htl) hS0 ?_
     refine hTk (i:=8) (d:=some 45) (v:=.string sK) (l':=(bt 9 511)) rfl (fun _ hc=>run_ldStB (.tmp 44) (by kernel_rfl) (by kernel_rfl) hc.2.2) hS0 ?_
     refine wpAnyH_done (by kernel_rfl) ?_ _
     have HREL:=hid KA
     clear hS0 KA
     go_simp
     go_wp2_with fail
     go_meet
     case rel=>exact ⟨rfl,HREL.out⟩
    case rest =>
     obtain ⟨rfl,K5⟩:=hcut
     clear K4
     have HSS:=hid hsK
     clear hsK
     obtain ⟨n0,n1,n2,n3,n4,n5,n6,n7⟩:=cf8 K5.M
     by_cases h0 : sK.size = 0
     ·have h0':=empty_t h0
      have HX0:=hid (show ¬ rs dK.R t = x from fun e=>by rw [← HSS.out] at e;rw [e,hx] at h0;omega)
      have HS0:=hid (show (rs dK.R t).size = 0 by rw [← HSS.out];exact h0)
      have HFR:=hid (freeSeat_any w0 wc B wc.heap.size Qd Qp dK h1 ts (some ⟨pb,po,none⟩) pc dK.now dK.sn nb ⟨dK.gv,dK.J,dK.S,[]⟩ (.slice none 0 0) [] kd tw ep le (t : Nat) k x ua un uc wc K5.T.toD HSK.out hk8)
      clear K5
      go_wp2_with fail
      refine HFR.out.mono ?_
      rintro _ w1 ⟨S',r,rfl,hfr,s1⟩
      have HF:=hid (show ∃ h',TmS w0 B Qd Qp ts (some ⟨pb,po,none⟩) pc nb (resB d ts (⟨kd,(k : Int) + 1,tw,ep,le,(t : Nat),x,ss⟩ : MgD)) h' w1 from ⟨h1,by
       have hT:=s1.toM (by rw [HB.out];exact Nat.le_refl _)
       rw [HE.out]
       have hno : ∀ dd : BD,dd.R = dK.R → oweR dd (⟨kd,(k : Int) + 1,tw,ep,le,(t : Nat),x,ss⟩ : MgD) = dd:=fun dd e=>oweR_no (fun hh=>HX0.out (by have:=hh.1;rw [e] at this;simpa using this))
       rw [hno _ (freeR_facts dK (⟨kd,(k : Int) + 1,tw,ep,le,(t : Nat),x,ss⟩ : MgD)).1]
       rcases hfr with ⟨hn,_,hSS⟩ | ⟨hn,_⟩
       ·rw [freeR_none (by exact hn)]
        rw [hSS] at hT
        exact hT
       ·rw [freeR_some (by have:=HS0.out;simpa using this) (by exact hn)]
        exact hT⟩)
      clear HFR hfr s1 n0 n1 n2 n3 n4 n5 n6 n7
      go_wp2_with fail
      go_end0
      exact ⟨rfl,HF.out⟩
     ·have h0':=empty_f h0
      have HN0:=hid (show ¬ (rs dK.R t).size = 0 by rw [← HSS.out];exact h0)
      by_cases hse : sK = x
      ·have hse' : (sK.toList == x.toList) = true:=by rw [hse];simp
       have HXE:=hid (show rs dK.R t = x by rw [← HSS.out];exact hse)
       have HOW:=hid (owe_any w0 B Qd Qp ts (some ⟨pb,po,none⟩) pc nb dK h1 ((k : Int) + 1) le (t : Nat) wc K5.T HOK.out)
       clear K5 hse
       go_wp2_with fail
       refine HOW.out.mono ?_
       rintro _ w1 ⟨rfl,h5,s1⟩
       have HF:=hid (show ∃ h',TmS w0 B Qd Qp ts (some ⟨pb,po,none⟩) pc nb (resB d ts (⟨kd,(k : Int) + 1,tw,ep,le,(t : Nat),x,ss⟩ : MgD)) h' w1 from ⟨h5,by
        rw [HE.out,freeR_not (by have:=HN0.out;simpa using this)]
        have e : oweR dK (⟨kd,(k : Int) + 1,tw,ep,le,(t : Nat),x,ss⟩ : MgD) = oweO dK ((k : Int) + 1) le (t : Nat):=by
         unfold oweR oweO
         by_cases hh : dK.O.length < 2000 ∧ ¬ (∃ j,j < dK.O.length ∧ (t3 dK.O j).1 = (k : Int) + 1 ∧ (t3 dK.O j).2.1 = le)
         ·rw [if_pos ⟨by have:=HXE.out;simpa using this,hh⟩,if_pos hh]
         ·rw [if_neg (fun h9=>hh h9.2),if_neg hh]
        rw [e];exact s1⟩)
       clear HOW s1 n0 n1 n2 n3 n4 n5 n6 n7
       go_wp2_with fail
       go_end0
       exact ⟨rfl,HF.out⟩
      ·have hse':=str_ne hse
       have HF:=hid (show ∃ h',TmS w0 B Qd Qp ts (some ⟨pb,po,none⟩) pc nb (resB d ts (⟨kd,(k : Int) + 1,tw,ep,le,(t : Nat),x,ss⟩ : MgD)) h' wc from ⟨h1,by
        rw [HE.out,freeR_not (by have:=HN0.out;simpa using this),oweR_no (fun hh=>hse (by rw [HSS.out];have:=hh.1;simpa using this))]
        exact K5.T⟩)
       clear K5 hse
       go_wp2_with fail
       go_end0
       exact ⟨rfl,HF.out⟩
end Go.Proofs.YtaeomkpofcbmiaaGreatDoor
