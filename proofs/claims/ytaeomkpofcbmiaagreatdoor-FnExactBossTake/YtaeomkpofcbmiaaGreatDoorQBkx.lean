
import Derived.Test.YtaeomkpofcbmiaaGreatDoorQBku
import Derived.Test.YtaeomkpofcbmiaaGreatDoorQBfs
set_option maxHeartbeats 4000000
set_option maxRecDepth 100000
namespace Go.Proofs.YtaeomkpofcbmiaaGreatDoor
open Go.RowKit
theorem run_bLd {ρ : Operand → Value} {o : Oper} {w : World} (x0 y0 : Operand) (v0 v1 v2 v3 v4 v5 v6 v7 v8 v9 v10 v11 : Value) (a : Option Addr) (n c : Nat) (h : o.op = .build 46 #[(0,x0),(1,y0)]) (hx : ρ x0 = .agg #[v0,v1,v2,v3,v4,v5,v6,v7,v8,v9,v10,v11]) (hy : ρ y0 = .slice a n c) : (execOp ρ o).run Tryz.prog w = .ok (.value (.agg #[v0,v1,v2,v3,v4,v5,v6,v7,v8,v9,v10,v11,.slice a n c])) w:=by
 unfold execOp;rw [h];simp [go_sem,hx,hy]
theorem CF.left {w : World} {p : Nat} {xs ys : List Value} (h : CF w p (xs ++ ys)) : CF w p xs:=fun j hj=>by
 have:=h j (by rw [List.length_append];omega)
 rw [List.getElem?_append_left hj] at this
 exact this
theorem enter_hov (v1 : Value) (w : World) : Sem.run Tryz.prog (callFunc 87 #[v1]) w = .ok (.enter 87 #[v1]) w:=by kernel_rfl
theorem handOverF_any (Qd : Nat) (va : Option Addr) (n vc : Nat) (w : World) (y14 : w.cell? ⟨Qd,14,none⟩ = some (.slice va n vc)) (f14 : w.frozen? ⟨Qd,14,none⟩ = false) :
  Calls Tryz.prog 87 #[.pointer (some ⟨Qd,0,none⟩)] w fun e w'=>e = .returned (.slice va n vc) ∧ w' = w.setCell ⟨Qd,14,none⟩ (.slice none 0 0):=by
 go_enter Tryz.func87,Tryz.ntmps87
 go_wp2
 go_ret
 exact ⟨rfl,rfl⟩
theorem led0_any (w0 : World) (B Qd Qp : Nat) (ts : List TaskD) (pa : Option Addr) (pc nb : Nat) (d : BD) (h : BH) (w : World) (s : TmS w0 B Qd Qp ts pa pc nb d h w) :
  Calls Tryz.prog 41 #[.pointer (some ⟨Qd,0,none⟩)] w fun e w'=>e = .returned (.agg #[.int .i64 d.wk,.bool d.up,.int .i64 d.now,.int .i64 d.sn,.int .i64 d.ep,.int .i64 d.gv,.slice h.a1 d.L1.length h.c1,.slice h.a2 d.L2.length h.c2,.slice h.ar d.R.length h.cr,.slice h.aj d.J.length h.cj,.slice h.az d.S.length h.cs,.slice h.ao d.O.length h.co,.slice none 0 0]) ∧ BossO w' B d h ∧ Below B w0 w':=by
 obtain ⟨W,hW⟩ : ∃ V,V = w.alloc (.cells #[.int .i64 0,.bool false,.int .i64 0,.int .i64 0,.int .i64 0,.int .i64 0,.slice none 0 0,.slice none 0 0,.slice none 0 0,.slice none 0 0,.slice none 0 0,.slice none 0 0,.slice none 0 0] 46):=⟨_,rfl⟩
 obtain ⟨Q2,hQ2⟩ : ∃ q,q = w.heap.size:=⟨_,rfl⟩
 have hbW : Below w.heap.size w W:=by rw [hW];exact (Below.refl _ _).alloc (Nat.le_refl _) _
 have cW : CF W Q2 [.int .i64 0,.bool false,.int .i64 0,.int .i64 0,.int .i64 0,.int .i64 0,.slice none 0 0,.slice none 0 0,.slice none 0 0,.slice none 0 0,.slice none 0 0,.slice none 0 0,.slice none 0 0]:=by rw [hW,hQ2];exact CF.made w #[.int .i64 0,.bool false,.int .i64 0,.int .i64 0,.int .i64 0,.int .i64 0,.slice none 0 0,.slice none 0 0,.slice none 0 0,.slice none 0 0,.slice none 0 0,.slice none 0 0,.slice none 0 0] 46
 have zW : W.heap.size = Q2 + 1:=by rw [hW,hQ2];simp
 have hLo : ∀ r ∈ rowsB d h,∀ q,r = some q → q < Q2:=fun r hr q e=>by rw [hQ2];exact (s.T.bo.lo r hr q e).2
 have hdq : Qd < Q2:=by rw [hQ2];exact s.T.q.2.1
 have sW:=s.below hbW
 have HW:=hid hW
 have HQ:=hid hQ2
 clear hW hQ2 hbW s
 go_enter Tryz.func41,Tryz.ntmps41
 go_upto_region 1 with fail
 rw [← HW.out,← HQ.out]
 clear HW HQ
 refine wp_region_held (S:=fun w'=>CF w' Qd [.int .i64 d.wk,.bool d.up,.int .i64 d.now,.int .i64 d.sn,.int .i64 d.ep,.int .i64 d.gv,.slice h.a1 d.L1.length h.c1,.slice h.a2 d.L2.length h.c2,.slice h.ar d.R.length h.cr,.slice h.aj d.J.length h.cj,.slice h.az d.S.length h.cs,.slice h.ao d.O.length h.co]) (by kernel_rfl) ?_
 change wpAnyH _ _ _ _ _ _ _ _ (World.drew _)
 have s0:=sW.below (Below.refl W.heap.size W).drew
 have c0 : CF W.drew Q2 [.int .i64 0,.bool false,.int .i64 0,.int .i64 0,.int .i64 0,.int .i64 0,.slice none 0 0,.slice none 0 0,.slice none 0 0,.slice none 0 0,.slice none 0 0,.slice none 0 0,.slice none 0 0]:=cW
 have z0 : W.drew.heap.size = Q2 + 1:=zW
 obtain ⟨x0,hx0⟩ : ∃ U,U = W.drew:=⟨_,rfl⟩
 rw [← hx0] at s0 c0 z0
 rw [← hx0]
 clear hx0 sW cW zW
 have hS0 : CF x0 Qd [.int .i64 d.wk,.bool d.up,.int .i64 d.now,.int .i64 d.sn,.int .i64 d.ep,.int .i64 d.gv,.slice h.a1 d.L1.length h.c1,.slice h.a2 d.L2.length h.c2,.slice h.ar d.R.length h.cr,.slice h.aj d.J.length h.cj,.slice h.az d.S.length h.cs,.slice h.ao d.O.length h.co]:=CF.left (ys:=[.slice pa ts.length pc,.map (some Qp),.slice none 0 0]) s0.T.D
 have y14 : x0.cell? ⟨Qd,14,none⟩ = some (.slice none 0 0):=(s0.T.D 14 (by simp [bvs])).1
 have f14 : x0.frozen? ⟨Qd,14,none⟩ = false:=(s0.T.D 14 (by simp [bvs])).2
 refine hTk (i:=0) (d:=some 3) (v:=.pointer (some ⟨Qd,0,none⟩)) (l':=(bt 8 1)) rfl (fun _ hc=>run_mvF (.tmp 0) (by kernel_rfl) (by kernel_rfl)) hS0 ?_
 refine hTk (i:=1) (d:=some 4) (v:=.pointer (some ⟨Qd,0,none⟩)) (l':=(bt 8 3)) rfl (fun _ hc=>run_nc (.tmp 3) (by kernel_rfl) (by kernel_rfl)) hS0 ?_
 refine hTk (i:=2) (d:=some 5) (v:=.pointer (some ⟨Qd,0,none⟩)) (l':=(bt 8 7)) rfl (fun _ hc=>run_faD0 (.tmp 4) (by kernel_rfl) (by kernel_rfl)) hS0 ?_
 refine hTk (i:=3) (d:=some 6) (v:=.agg #[.int .i64 d.wk,.bool d.up,.int .i64 d.now,.int .i64 d.sn,.int .i64 d.ep,.int .i64 d.gv,.slice h.a1 d.L1.length h.c1,.slice h.a2 d.L2.length h.c2,.slice h.ar d.R.length h.cr,.slice h.aj d.J.length h.cj,.slice h.az d.S.length h.cs,.slice h.ao d.O.length h.co]) (l':=(bt 8 15)) rfl (fun _ hc=>run_ldT 43 _ [.int .i64 d.wk,.bool d.up,.int .i64 d.now,.int .i64 d.sn,.int .i64 d.ep,.int .i64 d.gv,.slice h.a1 d.L1.length h.c1,.slice h.a2 d.L2.length h.c2,.slice h.ar d.R.length h.cr,.slice h.aj d.J.length h.cj,.slice h.az d.S.length h.cs,.slice h.ao d.O.length h.co] (.tmp 5) (by kernel_rfl) (by kernel_rfl) hc Tryz.underlying43 rfl Tryz.sizeBo) hS0 ?_
 refine hTk (i:=4) (d:=some 7) (v:=.pointer (some ⟨Qd,0,none⟩)) (l':=(bt 8 31)) rfl (fun _ hc=>run_mvF (.tmp 0) (by kernel_rfl) (by kernel_rfl)) hS0 ?_
 refine hOneC (i:=5) (by kernel_rfl) (d:=some 8) (f:=87) (args:=#[.pointer (some ⟨Qd,0,none⟩)]) (l':=(bt 8 63)) (R:=fun v u=>v = .slice none 0 0 ∧ u = x0.setCell ⟨Qd,14,none⟩ (.slice none 0 0)) rfl (by kernel_rfl) (by kernel_rfl) (by kernel_rfl) (run_cl1 _ _ rfl (by kernel_rfl) rfl enter_hov) ((handOverF_any Qd none 0 0 x0 y14 f14).mono fun _ _ ⟨he,hw⟩=>⟨_,he,rfl,hw⟩) ?_
 rintro _ _ ⟨rfl,hu⟩
 have hq:=s0.T.q
 have gs:=gset (World.grownBy.refl x0 (some Qd)) 14 (.slice none 0 0)
 have hL1 : BossO (x0.setCell ⟨Qd,14,none⟩ (.slice none 0 0)) B d h:=s0.T.bo.blk (fun r hr k hk=>gs.block k (s0.T.bo.lo r hr k hk).2 (fun e=>s0.T.nr r hr (hk.trans e)))
 have hS1 : CF (x0.setCell ⟨Qd,14,none⟩ (.slice none 0 0)) Qd [.int .i64 d.wk,.bool d.up,.int .i64 d.now,.int .i64 d.sn,.int .i64 d.ep,.int .i64 d.gv,.slice h.a1 d.L1.length h.c1,.slice h.a2 d.L2.length h.c2,.slice h.ar d.R.length h.cr,.slice h.aj d.J.length h.cj,.slice h.az d.S.length h.cs,.slice h.ao d.O.length h.co]:=CF.left (ys:=[.slice pa ts.length pc,.map (some Qp),.slice none 0 0]) (s0.T.D.set (j:=14) (by simp [bvs]) (.slice none 0 0))
 have c1:=c0.block (gs.block Q2 (by omega) (fun e=>by injection e with e;omega))
 have z1:=gs.size
 have hB1:=s0.T.hb.grown gs (by omega) (fun q e=>by injection e with e;omega)
 rw [← hu] at hL1 hS1 c1 z1 hB1
 rename_i x1
 clear hu gs c0 s0
 refine ⟨hS1,?_⟩
 refine hTk (i:=6) (d:=some 9) (v:=.agg #[.int .i64 d.wk,.bool d.up,.int .i64 d.now,.int .i64 d.sn,.int .i64 d.ep,.int .i64 d.gv,.slice h.a1 d.L1.length h.c1,.slice h.a2 d.L2.length h.c2,.slice h.ar d.R.length h.cr,.slice h.aj d.J.length h.cj,.slice h.az d.S.length h.cs,.slice h.ao d.O.length h.co,.slice none 0 0]) (l':=(bt 8 127)) rfl (fun _ hc=>run_bLd (.tmp 6) (.tmp 8) _ _ _ _ _ _ _ _ _ _ _ _ none 0 0 (by kernel_rfl) (by kernel_rfl) (by kernel_rfl)) hS1 ?_
 obtain ⟨xF,hxF⟩ : ∃ V,V = x1.setCells Q2 0 [.int .i64 d.wk,.bool d.up,.int .i64 d.now,.int .i64 d.sn,.int .i64 d.ep,.int .i64 d.gv,.slice h.a1 d.L1.length h.c1,.slice h.a2 d.L2.length h.c2,.slice h.ar d.R.length h.cr,.slice h.aj d.J.length h.cj,.slice h.az d.S.length h.cs,.slice h.ao d.O.length h.co,.slice none 0 0]:=⟨_,rfl⟩
 have gF : x1.grownBy xF (some Q2):=by rw [hxF];exact grown_setCells _ _ _ _ _ (World.grownBy.refl _ _)
 have cF : CF xF Q2 [.int .i64 d.wk,.bool d.up,.int .i64 d.now,.int .i64 d.sn,.int .i64 d.ep,.int .i64 d.gv,.slice h.a1 d.L1.length h.c1,.slice h.a2 d.L2.length h.c2,.slice h.ar d.R.length h.cr,.slice h.aj d.J.length h.cj,.slice h.az d.S.length h.cs,.slice h.ao d.O.length h.co,.slice none 0 0]:=by rw [hxF];exact CF.stored c1 rfl
 have hLF : BossO xF B d h:=hL1.blk (fun r hr k hk=>gF.block k (hL1.lo r hr k hk).2 (fun e=>by
  injection e with e
  have:=hLo r hr k hk
  omega))
 have hSF:=hS1.block (gF.block Qd (by omega) (fun e=>by injection e with e;omega))
 have hBF:=hB1.grown gF (by omega) (fun q e=>by injection e with e;omega)
 refine hOne (i:=7) (by kernel_rfl) (hSkip (i:=7) (w':=xF) (l':=(bt 8 255)) rfl (by kernel_rfl) (by kernel_rfl) (by kernel_rfl) (by rw [hxF];exact run_stT 46 [.int .i64 0,.bool false,.int .i64 0,.int .i64 0,.int .i64 0,.int .i64 0,.slice none 0 0,.slice none 0 0,.slice none 0 0,.slice none 0 0,.slice none 0 0,.slice none 0 0,.slice none 0 0] [.int .i64 d.wk,.bool d.up,.int .i64 d.now,.int .i64 d.sn,.int .i64 d.ep,.int .i64 d.gv,.slice h.a1 d.L1.length h.c1,.slice h.a2 d.L2.length h.c2,.slice h.ar d.R.length h.cr,.slice h.aj d.J.length h.cj,.slice h.az d.S.length h.cs,.slice h.ao d.O.length h.co,.slice none 0 0] (.tmp 2) (.tmp 9) (by kernel_rfl) (by kernel_rfl) (by kernel_rfl) c1 rfl Tryz.sizeLd (one13 _ _ _ _ _ _ _ _ _ _ _ _ _ _ _ _ _ _ _ _ _ _ _ _ _ _ _)) hSF ?_)
 refine wpAnyH_done (by kernel_rfl) ?_ _
 have HF:=hid (And.intro hLF hBF)
 obtain ⟨k0,k1,k2,k3,k4,k5,k6,k7,k8,k9,k10,k11,k12⟩:=cf13 cF
 clear hLF hBF hSF cF gF hxF hS1 c1 hL1 hB1 hS0
 go_simp
 go_wp2_with fail
 exact bodyPost_ret (v:=.agg #[.int .i64 d.wk,.bool d.up,.int .i64 d.now,.int .i64 d.sn,.int .i64 d.ep,.int .i64 d.gv,.slice h.a1 d.L1.length h.c1,.slice h.a2 d.L2.length h.c2,.slice h.ar d.R.length h.cr,.slice h.aj d.J.length h.cj,.slice h.az d.S.length h.cs,.slice h.ao d.O.length h.co,.slice none 0 0]) (by simp [results,Tryz.results41,go_sem,k0,k1,k2,k3,k4,k5,k6,k7,k8,k9,k10,k11,k12]) rfl ⟨rfl,HF.out.1,HF.out.2⟩
end Go.Proofs.YtaeomkpofcbmiaaGreatDoor
namespace Go.Proofs.YtaeomkpofcbmiaaGreatDoor
open Go.RowKit
theorem Tryz.sizePlB : (Tryz.prog.info? 51).map (·.size) = some 1:=by kernel_rfl
theorem enter_cpB (v1 : Value) (w : World) : Sem.run Tryz.prog (callFunc 81 #[v1]) w = .ok (.enter 81 #[v1]) w:=by kernel_rfl
theorem enter_byL (v1 : Value) (w : World) : Sem.run Tryz.prog (callFunc 82 #[v1]) w = .ok (.enter 82 #[v1]) w:=by kernel_rfl
theorem run_bDk {ρ : Operand → Value} {o : Oper} {w : World} (x0 y0 z0 : Operand) (v0 v1 v2 v3 v4 v5 v6 v7 v8 v9 v10 v11 : Value) (a : Option Addr) (n c : Nat) (m : Option Nat) (h : o.op = .build 137 #[(0,x0),(1,y0),(2,z0)]) (hx : ρ x0 = .agg #[v0,v1,v2,v3,v4,v5,v6,v7,v8,v9,v10,v11]) (hy : ρ y0 = .agg #[.slice a n c]) (hz : ρ z0 = .map m) : (execOp ρ o).run Tryz.prog w = .ok (.value (.agg #[v0,v1,v2,v3,v4,v5,v6,v7,v8,v9,v10,v11,.slice a n c,.map m,.slice none 0 0])) w:=by
 unfold execOp;rw [h];simp [go_sem,hx,hy,hz]
theorem run_bxDk {ρ : Operand → Value} {o : Oper} {w : World} (x0 : Operand) (cs : Array Value) (h : o.op = .box 137 x0) (hx : ρ x0 = .agg cs) : (execOp ρ o).run Tryz.prog w = .ok (.value (.pointer (some ⟨w.heap.size,0,none⟩))) (w.alloc (.cells cs 137)):=by
 unfold execOp;rw [h];simp [go_sem,hx]
theorem deskOfP_any (d : BD) (h : BH) (ts : List TaskD) (pa : Option Addr) (pc : Nat) (w : World) (hM : BossM w d h) (hs : d.small) :
  Calls Tryz.prog 39 #[.agg #[.int .i64 d.wk,.bool d.up,.int .i64 d.now,.int .i64 d.sn,.int .i64 d.ep,.int .i64 d.gv,.slice h.a1 d.L1.length h.c1,.slice h.a2 d.L2.length h.c2,.slice h.ar d.R.length h.cr,.slice h.aj d.J.length h.cj,.slice h.az d.S.length h.cs,.slice h.ao d.O.length h.co],.agg #[.slice pa ts.length pc]] w fun e w'=>∃ Qd Qp h' X,e = .returned (.pointer (some ⟨Qd,0,none⟩)) ∧ TmS w w.heap.size Qd Qp ts pa pc d.J.length d h' w' ∧ w'.ownsMap Tryz.prog 3 (plainElem Tryz.prog 3) Qp d.J.length X ∧ LastP X d.J d.J.length:=by
 obtain ⟨W,hW⟩ : ∃ V,V = (w.alloc (.cells #[.int .i64 d.wk,.bool d.up,.int .i64 d.now,.int .i64 d.sn,.int .i64 d.ep,.int .i64 d.gv,.slice h.a1 d.L1.length h.c1,.slice h.a2 d.L2.length h.c2,.slice h.ar d.R.length h.cr,.slice h.aj d.J.length h.cj,.slice h.az d.S.length h.cs,.slice h.ao d.O.length h.co] 43)).alloc (.cells #[.slice pa ts.length pc] 51):=⟨_,rfl⟩
 obtain ⟨Qb,hQb⟩ : ∃ q,q = w.heap.size:=⟨_,rfl⟩
 have hbW : Below w.heap.size w W:=by rw [hW];exact ((Below.refl _ _).alloc (Nat.le_refl _) _).alloc (by simp) _
 have cB : CF W Qb [.int .i64 d.wk,.bool d.up,.int .i64 d.now,.int .i64 d.sn,.int .i64 d.ep,.int .i64 d.gv,.slice h.a1 d.L1.length h.c1,.slice h.a2 d.L2.length h.c2,.slice h.ar d.R.length h.cr,.slice h.aj d.J.length h.cj,.slice h.az d.S.length h.cs,.slice h.ao d.O.length h.co]:=by rw [hW,hQb];exact (CF.made w #[.int .i64 d.wk,.bool d.up,.int .i64 d.now,.int .i64 d.sn,.int .i64 d.ep,.int .i64 d.gv,.slice h.a1 d.L1.length h.c1,.slice h.a2 d.L2.length h.c2,.slice h.ar d.R.length h.cr,.slice h.aj d.J.length h.cj,.slice h.az d.S.length h.cs,.slice h.ao d.O.length h.co] 43).block (Below.heap_alloc _ _ _ (by simp))
 have cP : CF W (Qb + 1) [.slice pa ts.length pc]:=by
  rw [hW,hQb]
  have:=CF.made (w.alloc (.cells #[.int .i64 d.wk,.bool d.up,.int .i64 d.now,.int .i64 d.sn,.int .i64 d.ep,.int .i64 d.gv,.slice h.a1 d.L1.length h.c1,.slice h.a2 d.L2.length h.c2,.slice h.ar d.R.length h.cr,.slice h.aj d.J.length h.cj,.slice h.az d.S.length h.cs,.slice h.ao d.O.length h.co] 43)) #[.slice pa ts.length pc] 51
  simpa using this
 have zW : W.heap.size = Qb + 2:=by rw [hW,hQb];simp
 have HW:=hid hW
 have HQ:=hid hQb
 have HS:=hid hs
 have HM:=hid hM
 clear hW hQb hs hM
 go_enter Tryz.func39,Tryz.ntmps39
 go_upto_region 1 with fail
 have e1 : w.heap.size + 1 = Qb + 1:=by rw [HQ.out]
 rw [← HW.out]
 (try rw [e1])
 rw [← HQ.out]
 clear HW
 refine wp_region_held (S:=fun w'=>CF w' Qb [.int .i64 d.wk,.bool d.up,.int .i64 d.now,.int .i64 d.sn,.int .i64 d.ep,.int .i64 d.gv,.slice h.a1 d.L1.length h.c1,.slice h.a2 d.L2.length h.c2,.slice h.ar d.R.length h.cr,.slice h.aj d.J.length h.cj,.slice h.az d.S.length h.cs,.slice h.ao d.O.length h.co] ∧ CF w' (Qb + 1) [.slice pa ts.length pc]) (by kernel_rfl) ?_
 change wpAnyH _ _ _ _ _ _ _ _ (World.drew _)
 have hbd : Below w.heap.size w W.drew:=hbW.drew
 have hS0 : CF W.drew Qb [.int .i64 d.wk,.bool d.up,.int .i64 d.now,.int .i64 d.sn,.int .i64 d.ep,.int .i64 d.gv,.slice h.a1 d.L1.length h.c1,.slice h.a2 d.L2.length h.c2,.slice h.ar d.R.length h.cr,.slice h.aj d.J.length h.cj,.slice h.az d.S.length h.cs,.slice h.ao d.O.length h.co] ∧ CF W.drew (Qb + 1) [.slice pa ts.length pc]:=⟨cB,cP⟩
 have z0 : W.drew.heap.size = Qb + 2:=zW
 obtain ⟨x0,hx0⟩ : ∃ U,U = W.drew:=⟨_,rfl⟩
 rw [← hx0] at hbd hS0 z0
 rw [← hx0]
 clear hx0 cB cP zW hbW
 refine hTk (i:=0) (d:=some 5) (v:=.agg #[.int .i64 d.wk,.bool d.up,.int .i64 d.now,.int .i64 d.sn,.int .i64 d.ep,.int .i64 d.gv,.slice h.a1 d.L1.length h.c1,.slice h.a2 d.L2.length h.c2,.slice h.ar d.R.length h.cr,.slice h.aj d.J.length h.cj,.slice h.az d.S.length h.cs,.slice h.ao d.O.length h.co]) (l':=(bt 9 1)) rfl (fun _ hc=>run_ldT 43 _ [.int .i64 d.wk,.bool d.up,.int .i64 d.now,.int .i64 d.sn,.int .i64 d.ep,.int .i64 d.gv,.slice h.a1 d.L1.length h.c1,.slice h.a2 d.L2.length h.c2,.slice h.ar d.R.length h.cr,.slice h.aj d.J.length h.cj,.slice h.az d.S.length h.cs,.slice h.ao d.O.length h.co] (.tmp 2) (by kernel_rfl) (by kernel_rfl) hc.1 Tryz.underlying43 rfl Tryz.sizeBo) hS0 ?_
 refine hTk (i:=2) (d:=some 7) (v:=.agg #[.slice pa ts.length pc]) (l':=(bt 9 5)) rfl (fun _ hc=>run_ldT 51 _ [.slice pa ts.length pc] (.tmp 3) (by kernel_rfl) (by kernel_rfl) hc.2 Tryz.underlying51 rfl Tryz.sizePlB) hS0 ?_
 refine hTk (i:=3) (d:=some 8) (v:=.pointer (some ⟨Qb,9,none⟩)) (l':=(bt 9 13)) rfl (fun _ hc=>run_faB8 (.tmp 2) (by kernel_rfl) (by kernel_rfl)) hS0 ?_
 refine hTk (i:=4) (d:=some 9) (v:=.slice h.aj d.J.length h.cj) (l':=(bt 9 29)) rfl (fun _ hc=>run_ldJsB (.tmp 8) (by kernel_rfl) (by kernel_rfl) (hc.1 9 (by simp)).1) hS0 ?_
 obtain ⟨⟨b1,o1,h1⟩,⟨b2,o2,h2⟩,⟨b3,o3,h3⟩,⟨b4,o4,h4⟩,⟨b5,o5,h5⟩,⟨b6,o6,h6⟩⟩:=HM.out.below' hbd
 have hsm:=HS.out
 unfold BD.small at hsm
 refine hOneC (i:=1) (by kernel_rfl) (d:=some 6) (f:=81) (args:=#[.agg #[.int .i64 d.wk,.bool d.up,.int .i64 d.now,.int .i64 d.sn,.int .i64 d.ep,.int .i64 d.gv,.slice h.a1 d.L1.length h.c1,.slice h.a2 d.L2.length h.c2,.slice h.ar d.R.length h.cr,.slice h.aj d.J.length h.cj,.slice h.az d.S.length h.cs,.slice h.ao d.O.length h.co]]) (l':=(bt 9 31)) (R:=fun v u=>∃ h',v = .agg #[.int .i64 d.wk,.bool d.up,.int .i64 d.now,.int .i64 d.sn,.int .i64 d.ep,.int .i64 d.gv,.slice h'.a1 d.L1.length h'.c1,.slice h'.a2 d.L2.length h'.c2,.slice h'.ar d.R.length h'.cr,.slice h'.aj d.J.length h'.cj,.slice h'.az d.S.length h'.cs,.slice h'.ao d.O.length h'.co] ∧ BossO u x0.heap.size d h' ∧ Below x0.heap.size x0 u) rfl (by kernel_rfl) (by kernel_rfl) (by kernel_rfl) (run_cl1 _ _ rfl (by kernel_rfl) rfl enter_cpB) ((copyBoss_any d.wk d.up d.now d.sn d.ep d.gv h.a1 h.a2 h.ar h.aj h.az h.ao b1 o1 d.L1.length h.c1 b2 o2 d.L2.length h.c2 b3 o3 d.R.length h.cr b4 o4 d.J.length h.cj b5 o5 d.S.length h.cs b6 o6 d.O.length h.co d.L1 d.L2 d.R d.J d.S d.O x0 h1 h2 h3 h4 h5 h6 (by omega) (by omega) (by omega) (by omega) (by omega) (by omega)).mono fun _ _ ⟨a0_,c0_,a1_,c1_,a2_,c2_,a3_,c3_,a4_,c4_,a5_,c5_,he,⟨p0,p1,p2,p3,p4,p5⟩,hdis,hb⟩=>⟨_,he,⟨a0_,a1_,a2_,a3_,a4_,a5_,c0_,c1_,c2_,c3_,c4_,c5_⟩,rfl,⟨p0,p1,p2,p3,p4,p5,hdis⟩,hb⟩) ?_
 rintro _ x1 ⟨h',rfl,hO1,hb1⟩
 have hS1 : CF x1 Qb [.int .i64 d.wk,.bool d.up,.int .i64 d.now,.int .i64 d.sn,.int .i64 d.ep,.int .i64 d.gv,.slice h.a1 d.L1.length h.c1,.slice h.a2 d.L2.length h.c2,.slice h.ar d.R.length h.cr,.slice h.aj d.J.length h.cj,.slice h.az d.S.length h.cs,.slice h.ao d.O.length h.co] ∧ CF x1 (Qb + 1) [.slice pa ts.length pc]:=⟨hS0.1.block (hb1.block _ (by omega)),hS0.2.block (hb1.block _ (by omega))⟩
 have hB1:=hbd.trans (hb1.mono hbd.size)
 refine ⟨hS1,?_⟩
 refine hOneC (i:=5) (by kernel_rfl) (d:=some 10) (f:=82) (args:=#[.slice h.aj d.J.length h.cj]) (l':=(bt 9 63)) (R:=fun v u=>v = .map (some x1.heap.size) ∧ (∃ X : DataW Unit,u.ownsMap Tryz.prog 3 (plainElem Tryz.prog 3) x1.heap.size d.J.length X ∧ LastP X d.J d.J.length) ∧ Below x1.heap.size x1 u) rfl (by kernel_rfl) (by kernel_rfl) (by kernel_rfl) (run_cl1 _ _ rfl (by kernel_rfl) rfl enter_byL) ((byLeaseP_any h.aj b4 o4 d.J.length h.cj d.J x1 (h4.below' hb1) (by omega)).mono fun _ _ ⟨D,he,hD,hP,hb⟩=>⟨_,he,rfl,⟨D,hD,hP⟩,hb⟩) ?_
 rintro _ x2 ⟨rfl,⟨X,hX,hLP⟩,hb2⟩
 have hS2 : CF x2 Qb [.int .i64 d.wk,.bool d.up,.int .i64 d.now,.int .i64 d.sn,.int .i64 d.ep,.int .i64 d.gv,.slice h.a1 d.L1.length h.c1,.slice h.a2 d.L2.length h.c2,.slice h.ar d.R.length h.cr,.slice h.aj d.J.length h.cj,.slice h.az d.S.length h.cs,.slice h.ao d.O.length h.co] ∧ CF x2 (Qb + 1) [.slice pa ts.length pc]:=⟨hS1.1.block (hb2.block _ (by have:=hb1.size;omega)),hS1.2.block (hb2.block _ (by have:=hb1.size;omega))⟩
 have hB2:=hB1.trans (hb2.mono hB1.size)
 have hO2:=hO1.below hb2
 have hlo1:=hO1.lo
 obtain ⟨Qp,hQp⟩ : ∃ q,q = x1.heap.size:=⟨_,rfl⟩
 rw [← hQp] at hX hlo1
 have hXl : Qp < x2.heap.size:=hX.lt
 rw [← hQp]
 refine ⟨hS2,?_⟩
 refine hTk (i:=6) (d:=some 11) (v:=.agg #[.int .i64 d.wk,.bool d.up,.int .i64 d.now,.int .i64 d.sn,.int .i64 d.ep,.int .i64 d.gv,.slice h'.a1 d.L1.length h'.c1,.slice h'.a2 d.L2.length h'.c2,.slice h'.ar d.R.length h'.cr,.slice h'.aj d.J.length h'.cj,.slice h'.az d.S.length h'.cs,.slice h'.ao d.O.length h'.co,.slice pa ts.length pc,.map (some Qp),.slice none 0 0]) (l':=(bt 9 127)) rfl (fun _ hc=>run_bDk (.tmp 6) (.tmp 7) (.tmp 10) _ _ _ _ _ _ _ _ _ _ _ _ pa ts.length pc (some Qp) (by kernel_rfl) (by kernel_rfl) (by kernel_rfl) (by kernel_rfl)) hS2 ?_
 obtain ⟨x3,hx3⟩ : ∃ V,V = x2.alloc (.cells #[.int .i64 d.wk,.bool d.up,.int .i64 d.now,.int .i64 d.sn,.int .i64 d.ep,.int .i64 d.gv,.slice h'.a1 d.L1.length h'.c1,.slice h'.a2 d.L2.length h'.c2,.slice h'.ar d.R.length h'.cr,.slice h'.aj d.J.length h'.cj,.slice h'.az d.S.length h'.cs,.slice h'.ao d.O.length h'.co,.slice pa ts.length pc,.map (some Qp),.slice none 0 0] 137):=⟨_,rfl⟩
 have hb3 : Below x2.heap.size x2 x3:=by rw [hx3];exact (Below.refl _ _).alloc (Nat.le_refl _) _
 have c3 : CF x3 x2.heap.size [.int .i64 d.wk,.bool d.up,.int .i64 d.now,.int .i64 d.sn,.int .i64 d.ep,.int .i64 d.gv,.slice h'.a1 d.L1.length h'.c1,.slice h'.a2 d.L2.length h'.c2,.slice h'.ar d.R.length h'.cr,.slice h'.aj d.J.length h'.cj,.slice h'.az d.S.length h'.cs,.slice h'.ao d.O.length h'.co,.slice pa ts.length pc,.map (some Qp),.slice none 0 0]:=by rw [hx3];exact CF.made x2 #[.int .i64 d.wk,.bool d.up,.int .i64 d.now,.int .i64 d.sn,.int .i64 d.ep,.int .i64 d.gv,.slice h'.a1 d.L1.length h'.c1,.slice h'.a2 d.L2.length h'.c2,.slice h'.ar d.R.length h'.cr,.slice h'.aj d.J.length h'.cj,.slice h'.az d.S.length h'.cs,.slice h'.ao d.O.length h'.co,.slice pa ts.length pc,.map (some Qp),.slice none 0 0] 137
 have z3 : x3.heap.size = x2.heap.size + 1:=by rw [hx3];simp
 have hS3 : CF x3 Qb [.int .i64 d.wk,.bool d.up,.int .i64 d.now,.int .i64 d.sn,.int .i64 d.ep,.int .i64 d.gv,.slice h.a1 d.L1.length h.c1,.slice h.a2 d.L2.length h.c2,.slice h.ar d.R.length h.cr,.slice h.aj d.J.length h.cj,.slice h.az d.S.length h.cs,.slice h.ao d.O.length h.co] ∧ CF x3 (Qb + 1) [.slice pa ts.length pc]:=⟨hS2.1.block (hb3.block _ (by have:=hb1.size;have:=hb2.size;omega)),hS2.2.block (hb3.block _ (by have:=hb1.size;have:=hb2.size;omega))⟩
 have hX3 : x3.ownsMap Tryz.prog 3 (plainElem Tryz.prog 3) Qp d.J.length X:=hX.kept (row:=none) ⟨hb3.os,hb3.tape,hb3.output,hb3.size,fun i hi _=>hb3.block i hi⟩ (by simp)
 have HF:=hid (show TmS w w.heap.size x2.heap.size Qp ts pa pc d.J.length d h' x3 from by
  have hQ:=HQ.out
  have hz1:=hb1.size
  have hz2:=hb2.size
  refine ⟨⟨(hO2.below hb3).mono (by omega),c3,hB2.trans (hb3.mono hB2.size),fun r hr e=>?_,⟨by omega,by omega,Nat.le_refl _⟩⟩,⟨d.J.length,X,Nat.le_refl _,hX3⟩,fun r hr e=>?_,⟨by omega,by omega,by omega⟩⟩
  ·have:=hlo1 r hr _ e;omega
  ·have:=hlo1 r hr Qp e;omega)
 have HXP:=hid (And.intro hX3 hLP)
 clear hX3 hLP
 refine hOne (i:=7) (by kernel_rfl) (hVal (i:=7) (d:=some 12) (v:=.pointer (some ⟨x2.heap.size,0,none⟩)) (w':=x3) (l':=(bt 9 255)) rfl (by kernel_rfl) (by kernel_rfl) (by kernel_rfl) (by rw [hx3];exact run_bxDk (.tmp 11) #[.int .i64 d.wk,.bool d.up,.int .i64 d.now,.int .i64 d.sn,.int .i64 d.ep,.int .i64 d.gv,.slice h'.a1 d.L1.length h'.c1,.slice h'.a2 d.L2.length h'.c2,.slice h'.ar d.R.length h'.cr,.slice h'.aj d.J.length h'.cj,.slice h'.az d.S.length h'.cs,.slice h'.ao d.O.length h'.co,.slice pa ts.length pc,.map (some Qp),.slice none 0 0] (by kernel_rfl) (by kernel_rfl)) hS3 ?_)
 refine hTk (i:=8) (d:=some 4) (v:=.pointer (some ⟨x2.heap.size,0,none⟩)) (l':=(bt 9 511)) rfl (fun _ hc=>run_asF (.tmp 12) (by kernel_rfl) (by kernel_rfl)) hS3 ?_
 refine wpAnyH_done (by kernel_rfl) ?_ _
 clear hS0 hS1 hS2 hS3 c3 hX hO1 hO2 hb1 hb2 hb3 hx3 hB1 hB2 hbd
 go_simp
 go_wp2_with fail
 go_ret
 exact ⟨_,_,_,X,rfl,HF.out,HXP.out.1,HXP.out.2⟩
end Go.Proofs.YtaeomkpofcbmiaaGreatDoor
namespace Go.Proofs.YtaeomkpofcbmiaaGreatDoor
open Go.RowKit
theorem iTakeB_any (d : BD) (h : BH) (pa : Option Addr) (pb po pn pc : Nat) (ts : List TaskD) (kd fm tw ep le ta : Int) (x : ByteArray) (ss : List ByteArray) (ua : Option Addr) (ub uo uc : Nat) (w : World) (hM : BossM w d h) (hT : TasksAt w pa pb po pn ts) (hs : d.small) (hTab : Tab w) (hst : StrsAt w ua ub uo ss.length ss) :
  Calls Tryz.prog 11 #[.agg #[.int .i64 d.wk,.bool d.up,.int .i64 d.now,.int .i64 d.sn,.int .i64 d.ep,.int .i64 d.gv,.slice h.a1 d.L1.length h.c1,.slice h.a2 d.L2.length h.c2,.slice h.ar d.R.length h.cr,.slice h.aj d.J.length h.cj,.slice h.az d.S.length h.cs,.slice h.ao d.O.length h.co],.agg #[.slice pa pn pc],.agg #[.int .i64 kd,.int .i64 fm,.int .i64 tw,.int .i64 ep,.int .i64 le,.int .i64 ta,.string x,.slice ua ss.length uc]] w fun e w'=>RetLd e w.heap.size w' (takeBR d ts (⟨kd,fm,tw,ep,le,ta,x,ss⟩ : MgD)) ∧ Below w.heap.size w w':=by
 obtain ⟨W,hW⟩ : ∃ W,W = (((w.alloc (.cells #[.int .i64 d.wk,.bool d.up,.int .i64 d.now,.int .i64 d.sn,.int .i64 d.ep,.int .i64 d.gv,.slice h.a1 d.L1.length h.c1,.slice h.a2 d.L2.length h.c2,.slice h.ar d.R.length h.cr,.slice h.aj d.J.length h.cj,.slice h.az d.S.length h.cs,.slice h.ao d.O.length h.co] 43)).alloc (.cells #[.slice pa pn pc] 51)).alloc (.cells #[.int .i64 kd,.int .i64 fm,.int .i64 tw,.int .i64 ep,.int .i64 le,.int .i64 ta,.string x,.slice ua ss.length uc] 53)).alloc (.cells #[.int .i64 0,.bool false,.int .i64 0,.int .i64 0,.int .i64 0,.int .i64 0,.slice none 0 0,.slice none 0 0,.slice none 0 0,.slice none 0 0,.slice none 0 0,.slice none 0 0,.slice none 0 0] 46):=⟨_,rfl⟩
 obtain ⟨P0,L0,M0,R0,z0,B0⟩:=box4 w #[.int .i64 d.wk,.bool d.up,.int .i64 d.now,.int .i64 d.sn,.int .i64 d.ep,.int .i64 d.gv,.slice h.a1 d.L1.length h.c1,.slice h.a2 d.L2.length h.c2,.slice h.ar d.R.length h.cr,.slice h.aj d.J.length h.cj,.slice h.az d.S.length h.cs,.slice h.ao d.O.length h.co] #[.slice pa pn pc] #[.int .i64 kd,.int .i64 fm,.int .i64 tw,.int .i64 ep,.int .i64 le,.int .i64 ta,.string x,.slice ua ss.length uc] #[.int .i64 0,.bool false,.int .i64 0,.int .i64 0,.int .i64 0,.int .i64 0,.slice none 0 0,.slice none 0 0,.slice none 0 0,.slice none 0 0,.slice none 0 0,.slice none 0 0,.slice none 0 0] 43 51 53 46 hW
 have P0 : CF W w.heap.size [.int .i64 d.wk,.bool d.up,.int .i64 d.now,.int .i64 d.sn,.int .i64 d.ep,.int .i64 d.gv,.slice h.a1 d.L1.length h.c1,.slice h.a2 d.L2.length h.c2,.slice h.ar d.R.length h.cr,.slice h.aj d.J.length h.cj,.slice h.az d.S.length h.cs,.slice h.ao d.O.length h.co]:=P0
 have L0 : CF W (w.heap.size + 1) [.slice pa pn pc]:=L0
 have M0 : CF W (w.heap.size + 2) [.int .i64 kd,.int .i64 fm,.int .i64 tw,.int .i64 ep,.int .i64 le,.int .i64 ta,.string x,.slice ua ss.length uc]:=M0
 have R0 : CF W (w.heap.size + 3) [.int .i64 0,.bool false,.int .i64 0,.int .i64 0,.int .i64 0,.int .i64 0,.slice none 0 0,.slice none 0 0,.slice none 0 0,.slice none 0 0,.slice none 0 0,.slice none 0 0,.slice none 0 0]:=R0
 have hV0 : BossV w d [.int .i64 d.wk,.bool d.up,.int .i64 d.now,.int .i64 d.sn,.int .i64 d.ep,.int .i64 d.gv,.slice h.a1 d.L1.length h.c1,.slice h.a2 d.L2.length h.c2,.slice h.ar d.R.length h.cr,.slice h.aj d.J.length h.cj,.slice h.az d.S.length h.cs,.slice h.ao d.O.length h.co]:=⟨h,rfl,hM⟩
 have hV:=hid (hV0.below' B0)
 have hs':=hid hs
 have HM:=hid hM
 have HTT:=hid hT
 have hf:=hid hM.fits
 have HTA:=hid hTab
 have HSA:=hid hst
 clear hV0 hs hM hT hTab hst
 have HW:=hid hW
 clear hW
 go_enter Tryz.func11,Tryz.ntmps11
 go_upto_region 1 with fail
 rw [← HW.out]
 clear HW
 obtain ⟨y0,y1,y2,y3,y4,y5,y6,y7,y8,y9,y10,y11⟩:=cf12 P0
 have kp : W.cell? ⟨w.heap.size + 1,0,none⟩ = some (.slice pa pn pc):=(L0 0 (by simp)).1
 go_wp2_with fail
 refine (iValBV_any d _ _ _ _ _ _ _ _ _ _ _ _ pa pb po pn pc ts _ hV.out (HTT.out.below' B0) hs'.out).mono ?_
 rintro e w1 ⟨⟨r,rfl,hr⟩,hb1⟩
 clear y0 y1 y2 y3 y4 y5 y6 y7 y8 y9 y10 y11 kp
 have P1:=P0.block (hb1.block w.heap.size (by omega))
 have L1:=L0.block (hb1.block (w.heap.size + 1) (by omega))
 have M1:=M0.block (hb1.block (w.heap.size + 2) (by omega))
 have R1:=R0.block (hb1.block (w.heap.size + 3) (by omega))
 have B1:=B0.trans (hb1.mono B0.size)
 have z1 : w.heap.size + 4 ≤ w1.heap.size:=by have:=hb1.size;omega
 have HR:=hid hr
 clear hr hb1 P0 R0 B0 z0 L0 M0
 cases r with
 | false =>
  have HN : Hid (¬ d.ok ts):=fun hh=>by have:=HR.out.2 hh;cases this
  go_upto_region 2 with fail
  go_wp2_with (refine wpList_store_cf rfl 46 (.tmp 6) (.tmp 12) rfl (w.heap.size + 3) [.int .i64 0,.bool false,.int .i64 0,.int .i64 0,.int .i64 0,.int .i64 0,.slice none 0 0,.slice none 0 0,.slice none 0 0,.slice none 0 0,.slice none 0 0,.slice none 0 0,.slice none 0 0] [.int .i64 0,.bool false,.int .i64 0,.int .i64 0,.int .i64 0,.int .i64 0,.slice none 0 0,.slice none 0 0,.slice none 0 0,.slice none 0 0,.slice none 0 0,.slice none 0 0,.slice none 0 0] rfl rfl R1 rfl Tryz.sizeLd (one13 _ _ _ _ _ _ _ _ _ _ _ _ _ _ _ _ _ _ _ _ _ _ _ _ _ _ _) ?_;intro w10 hc10 hg10)
  obtain ⟨k0,k1,k2,k3,k4,k5,k6,k7,k8,k9,k10,k11,k12⟩:=cf13 hc10
  exact bodyPost_ret (v:=.agg #[.int .i64 0,.bool false,.int .i64 0,.int .i64 0,.int .i64 0,.int .i64 0,.slice none 0 0,.slice none 0 0,.slice none 0 0,.slice none 0 0,.slice none 0 0,.slice none 0 0,.slice none 0 0]) (by simp [results,Tryz.results11,go_sem,k0,k1,k2,k3,k4,k5,k6,k7,k8,k9,k10,k11,k12]) rfl ⟨⟨zBD,⟨none,none,none,none,none,none,0,0,0,0,0,0⟩,.slice none 0 0,[],[],rfl,⟨zBO _ _,MsO.nil _ _,fun r hr=>Dj.symm (.inl rfl),fun r hr j hj=>absurd hj (by simp)⟩,.inr ⟨HN.out,rfl⟩⟩,below_grown B1 hg10 (by omega) (fun q hq=>by simp at hq;omega)⟩
 | true =>
  have HV : Hid (d.ok ts):=HR.out.1 rfl
  have hpn:=HTT.out.len
  subst hpn
  have hcd : 1 ≤ ts.length:=by
   have h9:=HV.out
   obtain ⟨⟨hcode,_⟩,_⟩:=h9
   exact hcode.namesC.1
  obtain rfl:=HTT.out.ad (by omega)
  clear HR hV
  obtain ⟨y0,y1,y2,y3,y4,y5,y6,y7,y8,y9,y10,y11⟩:=cf12 P1
  obtain ⟨n0,n1,n2,n3,n4,n5,n6,n7⟩:=cf8 M1
  have kp : w1.cell? ⟨w.heap.size + 1,0,none⟩ = some (.slice (some ⟨pb,po,none⟩) ts.length pc):=(L1 0 (by simp)).1
  have HDK:=hid (deskOfP_any d h ts (some ⟨pb,po,none⟩) pc w1 (HM.out.below' B1) hs'.out)
  go_wp2_with fail
  refine HDK.out.mono ?_
  rintro _ w2 ⟨Qd,Qp,h',X,rfl,s2,hX2,hLP⟩
  have hb2:=s2.T.hb
  have m0:=keepB hb2 n0
  have m1:=keepB hb2 n1
  have m2:=keepB hb2 n2
  have m3:=keepB hb2 n3
  have m4:=keepB hb2 n4
  have m5:=keepB hb2 n5
  have m6:=keepB hb2 n6
  have m7:=keepB hb2 n7
  have HTK:=hid (take_any w1 w1.heap.size Qd Qp ts pb po pc d.J.length d h' X kd fm tw ep le ta x ss ua ub uo uc w2 s2 hX2 hLP rfl hf.out HV.out (HTT.out.below' B1) (HTA.out.below' B1) (HSA.out.below' B1))
  clear y0 y1 y2 y3 y4 y5 y6 y7 y8 y9 y10 y11 n0 n1 n2 n3 n4 n5 n6 n7 kp HDK s2 hX2 hLP hb2
  go_wp2_with fail
  refine HTK.out.mono ?_
  rintro _ w3 ⟨rfl,hG,nb',s3⟩
  have HLD:=hid (led0_any w1 w1.heap.size Qd Qp ts _ pc nb' _ hG w3 s3)
  clear s3 HTK m0 m1 m2 m3 m4 m5 m6 m7
  obtain ⟨dT,hdT⟩ : ∃ q,q = takeB d ts (⟨kd,fm,tw,ep,le,ta,x,ss⟩ : MgD):=⟨_,rfl⟩
  rw [← hdT] at HLD
  have HDT:=hid hdT
  clear hdT
  go_upto_region 5 with fail
  go_wp2_with fail
  refine HLD.out.mono ?_
  rintro _ w4 ⟨rfl,hL4,hb4⟩
  have R4:=R1.block (hb4.block (w.heap.size + 3) (by omega))
  have B4:=B1.trans (hb4.mono B1.size)
  have HL:=hid hL4
  have z4:=hb4.size
  clear HLD hb4 hL4 P1 L1 R1 M1
  go_wp2_with (refine wpList_store_cf rfl 46 (.tmp 6) (.tmp 20) rfl (w.heap.size + 3) [.int .i64 0,.bool false,.int .i64 0,.int .i64 0,.int .i64 0,.int .i64 0,.slice none 0 0,.slice none 0 0,.slice none 0 0,.slice none 0 0,.slice none 0 0,.slice none 0 0,.slice none 0 0] [.int .i64 dT.wk,.bool dT.up,.int .i64 dT.now,.int .i64 dT.sn,.int .i64 dT.ep,.int .i64 dT.gv,.slice hG.a1 dT.L1.length hG.c1,.slice hG.a2 dT.L2.length hG.c2,.slice hG.ar dT.R.length hG.cr,.slice hG.aj dT.J.length hG.cj,.slice hG.az dT.S.length hG.cs,.slice hG.ao dT.O.length hG.co,.slice none 0 0] rfl rfl R4 rfl Tryz.sizeLd (one13 _ _ _ _ _ _ _ _ _ _ _ _ _ _ _ _ _ _ _ _ _ _ _ _ _ _ _) ?_;intro w10 hc10 hg10)
  obtain ⟨k0,k1,k2,k3,k4,k5,k6,k7,k8,k9,k10,k11,k12⟩:=cf13 hc10
  have hLF : BossO w10 w1.heap.size dT hG:=HL.out.blk (fun r hr k hk=>hg10.block k (HL.out.lo r hr k hk).2 (fun e=>by
   injection e with e
   have:=HL.out.lo r hr k hk
   omega))
  exact bodyPost_ret (v:=.agg #[.int .i64 dT.wk,.bool dT.up,.int .i64 dT.now,.int .i64 dT.sn,.int .i64 dT.ep,.int .i64 dT.gv,.slice hG.a1 dT.L1.length hG.c1,.slice hG.a2 dT.L2.length hG.c2,.slice hG.ar dT.R.length hG.cr,.slice hG.aj dT.J.length hG.cj,.slice hG.az dT.S.length hG.cs,.slice hG.ao dT.O.length hG.co,.slice none 0 0]) (by simp [results,Tryz.results11,go_sem,k0,k1,k2,k3,k4,k5,k6,k7,k8,k9,k10,k11,k12]) rfl ⟨⟨dT,hG,.slice none 0 0,[],[],rfl,⟨hLF.mono B1.size,MsO.nil _ _,fun r hr=>Dj.symm (.inl rfl),fun r hr j hj=>absurd hj (by simp)⟩,.inl ⟨HV.out,by rw [HDT.out]⟩⟩,below_grown B4 hg10 (by omega) (fun q hq=>by simp at hq;omega)⟩
end Go.Proofs.YtaeomkpofcbmiaaGreatDoor
