import Derived.Test.YtaeomkpofcbmiaaGreatQBfl
import Derived.Test.YtaeomkpofcbmiaaGreatQLld
import Derived.Test.YtaeomkpofcbmiaaGreatQBfk
import Derived.Test.YtaeomkpofcbmiaaGreatQBfa
namespace Go.Proofs.YtaeomkpofcbmiaaGreat
open Go.RowKit

theorem run_bLd {ρ : Operand → Value} {o : Oper} {w : World} (x0 y0 : Operand) (v0 v1 v2 v3 v4 v5 v6 v7 v8 v9 v10 v11 : Value) (a : Option Addr) (n c : Nat) (h : o.op = .build 43 #[(0, x0), (1, y0)]) (hx : ρ x0 = .agg #[v0, v1, v2, v3, v4, v5, v6, v7, v8, v9, v10, v11]) (hy : ρ y0 = .slice a n c) : (execOp ρ o).run Tryz.prog w = .ok (.value (.agg #[v0, v1, v2, v3, v4, v5, v6, v7, v8, v9, v10, v11, .slice a n c])) w := by
  unfold execOp; rw [h]; simp [go_sem, hx, hy]
theorem CF.left {w : World} {p : Nat} {xs ys : List Value} (h : CF w p (xs ++ ys)) : CF w p xs := fun j hj => by
  have := h j (by rw [List.length_append]; omega)
  rw [List.getElem?_append_left hj] at this
  exact this
theorem enter_hov (v1 : Value) (w : World) : Sem.run Tryz.prog (callFunc 78 #[v1]) w = .ok (.enter 78 #[v1]) w := by kernel_rfl
set_option maxRecDepth 100000 in
theorem handOverF_any (Qd : Nat) (va : Option Addr) (n vc : Nat) (w : World) (y14 : w.cell? ⟨Qd, 14, none⟩ = some (.slice va n vc)) (f14 : w.frozen? ⟨Qd, 14, none⟩ = false) :
    Calls Tryz.prog 78 #[.pointer (some ⟨Qd, 0, none⟩)] w fun e w' => e = .returned (.slice va n vc) ∧ w' = w.setCell ⟨Qd, 14, none⟩ (.slice none 0 0) := by
  go_enter Tryz.func78, Tryz.ntmps78
  go_wp2
  go_ret
  exact ⟨rfl, rfl⟩
set_option maxHeartbeats 4000000 in
set_option maxRecDepth 100000 in
theorem led_any (w0 : World) (B Qd : Nat) (d : BD) (h : BH) (x12 x13 v : Value) (M : List MgD) (vs : List Value) (w : World) (s : DkF w0 B Qd d h x12 x13 v M vs w) :
    Calls Tryz.prog 36 #[.pointer (some ⟨Qd, 0, none⟩)] w fun e w' => RetLd e B w' (fun r => r = (d, M)) ∧ Below B w0 w' := by
  obtain ⟨x, y, rfl⟩ := s.vm
  obtain ⟨W, hW⟩ : ∃ V, V = w.alloc (.cells #[.int .i64 0, .bool false, .int .i64 0, .int .i64 0, .int .i64 0, .int .i64 0, .slice none 0 0, .slice none 0 0, .slice none 0 0, .slice none 0 0, .slice none 0 0, .slice none 0 0, .slice none 0 0] 43) := ⟨_, rfl⟩
  obtain ⟨Q2, hQ2⟩ : ∃ q, q = w.heap.size := ⟨_, rfl⟩
  have hbW : Below w.heap.size w W := by rw [hW]; exact (Below.refl _ _).alloc (Nat.le_refl _) _
  have cW : CF W Q2 [.int .i64 0, .bool false, .int .i64 0, .int .i64 0, .int .i64 0, .int .i64 0, .slice none 0 0, .slice none 0 0, .slice none 0 0, .slice none 0 0, .slice none 0 0, .slice none 0 0, .slice none 0 0] := by rw [hW, hQ2]; exact CF.made w #[.int .i64 0, .bool false, .int .i64 0, .int .i64 0, .int .i64 0, .int .i64 0, .slice none 0 0, .slice none 0 0, .slice none 0 0, .slice none 0 0, .slice none 0 0, .slice none 0 0, .slice none 0 0] 43
  have zW : W.heap.size = Q2 + 1 := by rw [hW, hQ2]; simp
  have hq := s.q
  have hLo := s.L.lo
  have hLW := s.L.below hbW
  have hDW := s.D.block (hbW.block _ hq.2.1)
  have hBB := s.hb.trans (hbW.mono (by have := s.hb.size; omega))
  have hnb := s.nb
  have hnv := s.nv
  have hns := s.ns
  rw [← hQ2] at hq hLo
  have HW := hid hW
  have HQ := hid hQ2
  clear hW hQ2 hbW s
  go_enter Tryz.func36, Tryz.ntmps36
  go_upto_region 1 with fail
  rw [← HW.out, ← HQ.out]
  clear HW HQ
  refine wp_region_held (S := fun w' => CF w' Qd [.int .i64 d.wk, .bool d.up, .int .i64 d.now, .int .i64 d.sn, .int .i64 d.ep, .int .i64 d.gv, .slice h.a1 d.L1.length h.c1, .slice h.a2 d.L2.length h.c2, .slice h.ar d.R.length h.cr, .slice h.aj d.J.length h.cj, .slice h.az d.S.length h.cs, .slice h.ao d.O.length h.co]) (by kernel_rfl) ?_
  change wpAnyH _ _ _ _ _ _ _ _ (World.drew _)
  have hbd : Below W.heap.size W W.drew := (Below.refl _ _).drew
  have hL0 := hLW.below hbd
  have hD0 : CF W.drew Qd [.int .i64 d.wk, .bool d.up, .int .i64 d.now, .int .i64 d.sn, .int .i64 d.ep, .int .i64 d.gv, .slice h.a1 d.L1.length h.c1, .slice h.a2 d.L2.length h.c2, .slice h.ar d.R.length h.cr, .slice h.aj d.J.length h.cj, .slice h.az d.S.length h.cs, .slice h.ao d.O.length h.co, x12, x13, .slice x M.length y] := hDW
  have c0 : CF W.drew Q2 [.int .i64 0, .bool false, .int .i64 0, .int .i64 0, .int .i64 0, .int .i64 0, .slice none 0 0, .slice none 0 0, .slice none 0 0, .slice none 0 0, .slice none 0 0, .slice none 0 0, .slice none 0 0] := cW
  have hB0 := hBB.trans (hbd.mono (by have := hBB.size; omega))
  have z0 : W.drew.heap.size = Q2 + 1 := zW
  obtain ⟨x0, hx0⟩ : ∃ U, U = W.drew := ⟨_, rfl⟩
  rw [← hx0] at hL0 hD0 c0 hB0 z0
  rw [← hx0]
  clear hx0 hLW hDW hBB cW zW hbd
  have hS0 : CF x0 Qd [.int .i64 d.wk, .bool d.up, .int .i64 d.now, .int .i64 d.sn, .int .i64 d.ep, .int .i64 d.gv, .slice h.a1 d.L1.length h.c1, .slice h.a2 d.L2.length h.c2, .slice h.ar d.R.length h.cr, .slice h.aj d.J.length h.cj, .slice h.az d.S.length h.cs, .slice h.ao d.O.length h.co] := CF.left (ys := [x12, x13, .slice x M.length y]) hD0
  refine hTk (i := 0) (d := some 3) (v := .pointer (some ⟨Qd, 0, none⟩)) (l' := (bt 8 1)) rfl (fun _ hc => run_mvF (.tmp 0) (by kernel_rfl) (by kernel_rfl)) hS0 ?_
  refine hTk (i := 1) (d := some 4) (v := .pointer (some ⟨Qd, 0, none⟩)) (l' := (bt 8 3)) rfl (fun _ hc => run_nc (.tmp 3) (by kernel_rfl) (by kernel_rfl)) hS0 ?_
  refine hTk (i := 2) (d := some 5) (v := .pointer (some ⟨Qd, 0, none⟩)) (l' := (bt 8 7)) rfl (fun _ hc => run_faD0 (.tmp 4) (by kernel_rfl) (by kernel_rfl)) hS0 ?_
  refine hTk (i := 3) (d := some 6) (v := .agg #[.int .i64 d.wk, .bool d.up, .int .i64 d.now, .int .i64 d.sn, .int .i64 d.ep, .int .i64 d.gv, .slice h.a1 d.L1.length h.c1, .slice h.a2 d.L2.length h.c2, .slice h.ar d.R.length h.cr, .slice h.aj d.J.length h.cj, .slice h.az d.S.length h.cs, .slice h.ao d.O.length h.co]) (l' := (bt 8 15)) rfl (fun _ hc => run_ldT 40 _ [.int .i64 d.wk, .bool d.up, .int .i64 d.now, .int .i64 d.sn, .int .i64 d.ep, .int .i64 d.gv, .slice h.a1 d.L1.length h.c1, .slice h.a2 d.L2.length h.c2, .slice h.ar d.R.length h.cr, .slice h.aj d.J.length h.cj, .slice h.az d.S.length h.cs, .slice h.ao d.O.length h.co] (.tmp 5) (by kernel_rfl) (by kernel_rfl) hc Tryz.underlying40 rfl Tryz.sizeBo) hS0 ?_
  refine hTk (i := 4) (d := some 7) (v := .pointer (some ⟨Qd, 0, none⟩)) (l' := (bt 8 31)) rfl (fun _ hc => run_mvF (.tmp 0) (by kernel_rfl) (by kernel_rfl)) hS0 ?_
  refine hOneC (i := 5) (by kernel_rfl) (d := some 8) (f := 78) (args := #[.pointer (some ⟨Qd, 0, none⟩)]) (l' := (bt 8 63)) (R := fun v u => v = .slice x M.length y ∧ u = x0.setCell ⟨Qd, 14, none⟩ (.slice none 0 0)) rfl (by kernel_rfl) (by kernel_rfl) (by kernel_rfl) (run_cl1 _ _ rfl (by kernel_rfl) rfl enter_hov) ((handOverF_any Qd x M.length y x0 (hD0 14 (by simp)).1 (hD0 14 (by simp)).2).mono fun _ _ ⟨he, hw⟩ => ⟨_, he, rfl, hw⟩) ?_
  rintro _ _ ⟨rfl, hu⟩
  have gs := gset (World.grownBy.refl x0 (some Qd)) 14 (.slice none 0 0)
  have hL1 : LedO (x0.setCell ⟨Qd, 14, none⟩ (.slice none 0 0)) B d h (.slice x M.length y) M vs := hL0.blk (fun r hr k hk => gs.block k (hL0.lo r hr k hk).2 (fun e => by
    injection e with e
    subst e
    rcases List.mem_append.1 hr with hr | hr
    · exact hnb r hr hk
    · rcases rowsMs_of hr with rfl | ⟨j, hj, rfl⟩
      · rcases hnv with hx | hx
        · rw [hx] at hk; cases hk
        · exact hx hk
      · rcases hns j hj with hx | hx
        · rw [hx] at hk; cases hk
        · exact hx hk))
  have hS1 : CF (x0.setCell ⟨Qd, 14, none⟩ (.slice none 0 0)) Qd [.int .i64 d.wk, .bool d.up, .int .i64 d.now, .int .i64 d.sn, .int .i64 d.ep, .int .i64 d.gv, .slice h.a1 d.L1.length h.c1, .slice h.a2 d.L2.length h.c2, .slice h.ar d.R.length h.cr, .slice h.aj d.J.length h.cj, .slice h.az d.S.length h.cs, .slice h.ao d.O.length h.co] := CF.left (ys := [x12, x13, .slice none 0 0]) (hD0.set (j := 14) (by simp) (.slice none 0 0))
  have c1 := c0.block (gs.block Q2 (by omega) (fun e => by injection e with e; omega))
  have z1 := gs.size
  have hB1 := hB0.grown gs (by omega) (fun q e => by injection e with e; omega)
  rw [← hu] at hL1 hS1 c1 z1 hB1
  rename_i x1
  clear hu gs hL0 c0 hB0
  refine ⟨hS1, ?_⟩
  refine hTk (i := 6) (d := some 9) (v := .agg #[.int .i64 d.wk, .bool d.up, .int .i64 d.now, .int .i64 d.sn, .int .i64 d.ep, .int .i64 d.gv, .slice h.a1 d.L1.length h.c1, .slice h.a2 d.L2.length h.c2, .slice h.ar d.R.length h.cr, .slice h.aj d.J.length h.cj, .slice h.az d.S.length h.cs, .slice h.ao d.O.length h.co, .slice x M.length y]) (l' := (bt 8 127)) rfl (fun _ hc => run_bLd (.tmp 6) (.tmp 8) _ _ _ _ _ _ _ _ _ _ _ _ x M.length y (by kernel_rfl) (by kernel_rfl) (by kernel_rfl)) hS1 ?_
  obtain ⟨xF, hxF⟩ : ∃ V, V = x1.setCells Q2 0 [.int .i64 d.wk, .bool d.up, .int .i64 d.now, .int .i64 d.sn, .int .i64 d.ep, .int .i64 d.gv, .slice h.a1 d.L1.length h.c1, .slice h.a2 d.L2.length h.c2, .slice h.ar d.R.length h.cr, .slice h.aj d.J.length h.cj, .slice h.az d.S.length h.cs, .slice h.ao d.O.length h.co, .slice x M.length y] := ⟨_, rfl⟩
  have gF : x1.grownBy xF (some Q2) := by rw [hxF]; exact grown_setCells _ _ _ _ _ (World.grownBy.refl _ _)
  have cF : CF xF Q2 [.int .i64 d.wk, .bool d.up, .int .i64 d.now, .int .i64 d.sn, .int .i64 d.ep, .int .i64 d.gv, .slice h.a1 d.L1.length h.c1, .slice h.a2 d.L2.length h.c2, .slice h.ar d.R.length h.cr, .slice h.aj d.J.length h.cj, .slice h.az d.S.length h.cs, .slice h.ao d.O.length h.co, .slice x M.length y] := by rw [hxF]; exact CF.stored c1 rfl
  have hLF : LedO xF B d h (.slice x M.length y) M vs := hL1.blk (fun r hr k hk => gF.block k (hL1.lo r hr k hk).2 (fun e => by
    injection e with e
    have := hLo r hr k hk
    omega))
  have hSF := hS1.block (gF.block Qd (by omega) (fun e => by injection e with e; omega))
  have hBF := hB1.grown gF (by omega) (fun q e => by injection e with e; have := hB1.size; omega)
  refine hOne (i := 7) (by kernel_rfl) (hSkip (i := 7) (w' := xF) (l' := (bt 8 255)) rfl (by kernel_rfl) (by kernel_rfl) (by kernel_rfl) (by rw [hxF]; exact run_stT 43 [.int .i64 0, .bool false, .int .i64 0, .int .i64 0, .int .i64 0, .int .i64 0, .slice none 0 0, .slice none 0 0, .slice none 0 0, .slice none 0 0, .slice none 0 0, .slice none 0 0, .slice none 0 0] [.int .i64 d.wk, .bool d.up, .int .i64 d.now, .int .i64 d.sn, .int .i64 d.ep, .int .i64 d.gv, .slice h.a1 d.L1.length h.c1, .slice h.a2 d.L2.length h.c2, .slice h.ar d.R.length h.cr, .slice h.aj d.J.length h.cj, .slice h.az d.S.length h.cs, .slice h.ao d.O.length h.co, .slice x M.length y] (.tmp 2) (.tmp 9) (by kernel_rfl) (by kernel_rfl) (by kernel_rfl) c1 rfl Tryz.sizeLd (one13 _ _ _ _ _ _ _ _ _ _ _ _ _ _ _ _ _ _ _ _ _ _ _ _ _ _ _)) hSF ?_)
  refine wpAnyH_done (by kernel_rfl) ?_ _
  have HF := hid (And.intro hLF hBF)
  have k0 : xF.cell? ⟨Q2, 0, none⟩ = some (.int .i64 d.wk) := (cF 0 (by simp)).1
  have k1 : xF.cell? ⟨Q2, 1, none⟩ = some (.bool d.up) := (cF 1 (by simp)).1
  have k2 : xF.cell? ⟨Q2, 2, none⟩ = some (.int .i64 d.now) := (cF 2 (by simp)).1
  have k3 : xF.cell? ⟨Q2, 3, none⟩ = some (.int .i64 d.sn) := (cF 3 (by simp)).1
  have k4 : xF.cell? ⟨Q2, 4, none⟩ = some (.int .i64 d.ep) := (cF 4 (by simp)).1
  have k5 : xF.cell? ⟨Q2, 5, none⟩ = some (.int .i64 d.gv) := (cF 5 (by simp)).1
  have k6 : xF.cell? ⟨Q2, 6, none⟩ = some (.slice h.a1 d.L1.length h.c1) := (cF 6 (by simp)).1
  have k7 : xF.cell? ⟨Q2, 7, none⟩ = some (.slice h.a2 d.L2.length h.c2) := (cF 7 (by simp)).1
  have k8 : xF.cell? ⟨Q2, 8, none⟩ = some (.slice h.ar d.R.length h.cr) := (cF 8 (by simp)).1
  have k9 : xF.cell? ⟨Q2, 9, none⟩ = some (.slice h.aj d.J.length h.cj) := (cF 9 (by simp)).1
  have k10 : xF.cell? ⟨Q2, 10, none⟩ = some (.slice h.az d.S.length h.cs) := (cF 10 (by simp)).1
  have k11 : xF.cell? ⟨Q2, 11, none⟩ = some (.slice h.ao d.O.length h.co) := (cF 11 (by simp)).1
  have k12 : xF.cell? ⟨Q2, 12, none⟩ = some (.slice x M.length y) := (cF 12 (by simp)).1
  clear hLF hBF hSF cF gF hxF hS1 c1 hL1 hB1 hS0 hD0
  go_simp
  go_wp2_with fail
  exact bodyPost_ret (v := .agg #[.int .i64 d.wk, .bool d.up, .int .i64 d.now, .int .i64 d.sn, .int .i64 d.ep, .int .i64 d.gv, .slice h.a1 d.L1.length h.c1, .slice h.a2 d.L2.length h.c2, .slice h.ar d.R.length h.cr, .slice h.aj d.J.length h.cj, .slice h.az d.S.length h.cs, .slice h.ao d.O.length h.co, .slice x M.length y]) (by simp [results, Tryz.results36, go_sem, k0, k1, k2, k3, k4, k5, k6, k7, k8, k9, k10, k11, k12]) rfl ⟨⟨d, h, _, M, vs, rfl, HF.out.1, rfl⟩, HF.out.2⟩
end Go.Proofs.YtaeomkpofcbmiaaGreat

namespace Go.Proofs.YtaeomkpofcbmiaaGreat
open Go.RowKit

theorem Tryz.sizePlB : (Tryz.prog.info? 48).map (·.size) = some 1 := by kernel_rfl
theorem enter_cpB (v1 : Value) (w : World) : Sem.run Tryz.prog (callFunc 73 #[v1]) w = .ok (.enter 73 #[v1]) w := by kernel_rfl
theorem enter_byL (v1 : Value) (w : World) : Sem.run Tryz.prog (callFunc 74 #[v1]) w = .ok (.enter 74 #[v1]) w := by kernel_rfl
theorem run_bDk {ρ : Operand → Value} {o : Oper} {w : World} (x0 y0 z0 : Operand) (v0 v1 v2 v3 v4 v5 v6 v7 v8 v9 v10 v11 : Value) (a : Option Addr) (n c : Nat) (m : Option Nat) (h : o.op = .build 122 #[(0, x0), (1, y0), (2, z0)]) (hx : ρ x0 = .agg #[v0, v1, v2, v3, v4, v5, v6, v7, v8, v9, v10, v11]) (hy : ρ y0 = .agg #[.slice a n c]) (hz : ρ z0 = .map m) : (execOp ρ o).run Tryz.prog w = .ok (.value (.agg #[v0, v1, v2, v3, v4, v5, v6, v7, v8, v9, v10, v11, .slice a n c, .map m, .slice none 0 0])) w := by
  unfold execOp; rw [h]; simp [go_sem, hx, hy, hz]
theorem run_bxDk {ρ : Operand → Value} {o : Oper} {w : World} (x0 : Operand) (cs : Array Value) (h : o.op = .box 122 x0) (hx : ρ x0 = .agg cs) : (execOp ρ o).run Tryz.prog w = .ok (.value (.pointer (some ⟨w.heap.size, 0, none⟩))) (w.alloc (.cells cs 122)) := by
  unfold execOp; rw [h]; simp [go_sem, hx]
theorem run_asF {ρ : Operand → Value} {o : Oper} {w : World} {v : Value} (x : Operand) (h : o.op = .assign x) (hx : ρ x = v) : (execOp ρ o).run Tryz.prog w = .ok (.value v) w := by
  rw [← hx]; unfold execOp; rw [h]; simp [go_sem]
set_option maxHeartbeats 4000000 in
set_option maxRecDepth 100000 in
theorem deskOf_any (d : BD) (h : BH) (ts : List TaskD) (pa : Option Addr) (pc : Nat) (w : World) (hM : BossM w d h) (hs : d.small) :
    Calls Tryz.prog 34 #[.agg #[.int .i64 d.wk, .bool d.up, .int .i64 d.now, .int .i64 d.sn, .int .i64 d.ep, .int .i64 d.gv, .slice h.a1 d.L1.length h.c1, .slice h.a2 d.L2.length h.c2, .slice h.ar d.R.length h.cr, .slice h.aj d.J.length h.cj, .slice h.az d.S.length h.cs, .slice h.ao d.O.length h.co], .agg #[.slice pa ts.length pc]] w fun e w' => ∃ Qd Qp h', e = .returned (.pointer (some ⟨Qd, 0, none⟩)) ∧ DkS w w' w.heap.size w'.heap.size Qd Qp d h' ts pa pc d.now d.sn d.J.length ⟨d.gv, d.J, d.S, []⟩ (.slice none 0 0) [] w' := by
  obtain ⟨W, hW⟩ : ∃ V, V = (w.alloc (.cells #[.int .i64 d.wk, .bool d.up, .int .i64 d.now, .int .i64 d.sn, .int .i64 d.ep, .int .i64 d.gv, .slice h.a1 d.L1.length h.c1, .slice h.a2 d.L2.length h.c2, .slice h.ar d.R.length h.cr, .slice h.aj d.J.length h.cj, .slice h.az d.S.length h.cs, .slice h.ao d.O.length h.co] 40)).alloc (.cells #[.slice pa ts.length pc] 48) := ⟨_, rfl⟩
  obtain ⟨Qb, hQb⟩ : ∃ q, q = w.heap.size := ⟨_, rfl⟩
  have hbW : Below w.heap.size w W := by rw [hW]; exact ((Below.refl _ _).alloc (Nat.le_refl _) _).alloc (by simp) _
  have cB : CF W Qb [.int .i64 d.wk, .bool d.up, .int .i64 d.now, .int .i64 d.sn, .int .i64 d.ep, .int .i64 d.gv, .slice h.a1 d.L1.length h.c1, .slice h.a2 d.L2.length h.c2, .slice h.ar d.R.length h.cr, .slice h.aj d.J.length h.cj, .slice h.az d.S.length h.cs, .slice h.ao d.O.length h.co] := by rw [hW, hQb]; exact (CF.made w #[.int .i64 d.wk, .bool d.up, .int .i64 d.now, .int .i64 d.sn, .int .i64 d.ep, .int .i64 d.gv, .slice h.a1 d.L1.length h.c1, .slice h.a2 d.L2.length h.c2, .slice h.ar d.R.length h.cr, .slice h.aj d.J.length h.cj, .slice h.az d.S.length h.cs, .slice h.ao d.O.length h.co] 40).block (Below.heap_alloc _ _ _ (by simp))
  have cP : CF W (Qb + 1) [.slice pa ts.length pc] := by
    rw [hW, hQb]
    have := CF.made (w.alloc (.cells #[.int .i64 d.wk, .bool d.up, .int .i64 d.now, .int .i64 d.sn, .int .i64 d.ep, .int .i64 d.gv, .slice h.a1 d.L1.length h.c1, .slice h.a2 d.L2.length h.c2, .slice h.ar d.R.length h.cr, .slice h.aj d.J.length h.cj, .slice h.az d.S.length h.cs, .slice h.ao d.O.length h.co] 40)) #[.slice pa ts.length pc] 48
    simpa using this
  have zW : W.heap.size = Qb + 2 := by rw [hW, hQb]; simp
  have HW := hid hW
  have HQ := hid hQb
  have HS := hid hs
  have HM := hid hM
  clear hW hQb hs hM
  go_enter Tryz.func34, Tryz.ntmps34
  go_upto_region 1 with fail
  have e1 : w.heap.size + 1 = Qb + 1 := by rw [HQ.out]
  rw [← HW.out]
  (try rw [e1])
  rw [← HQ.out]
  clear HW
  refine wp_region_held (S := fun w' => CF w' Qb [.int .i64 d.wk, .bool d.up, .int .i64 d.now, .int .i64 d.sn, .int .i64 d.ep, .int .i64 d.gv, .slice h.a1 d.L1.length h.c1, .slice h.a2 d.L2.length h.c2, .slice h.ar d.R.length h.cr, .slice h.aj d.J.length h.cj, .slice h.az d.S.length h.cs, .slice h.ao d.O.length h.co] ∧ CF w' (Qb + 1) [.slice pa ts.length pc]) (by kernel_rfl) ?_
  change wpAnyH _ _ _ _ _ _ _ _ (World.drew _)
  have hbd : Below w.heap.size w W.drew := hbW.drew
  have hS0 : CF W.drew Qb [.int .i64 d.wk, .bool d.up, .int .i64 d.now, .int .i64 d.sn, .int .i64 d.ep, .int .i64 d.gv, .slice h.a1 d.L1.length h.c1, .slice h.a2 d.L2.length h.c2, .slice h.ar d.R.length h.cr, .slice h.aj d.J.length h.cj, .slice h.az d.S.length h.cs, .slice h.ao d.O.length h.co] ∧ CF W.drew (Qb + 1) [.slice pa ts.length pc] := ⟨cB, cP⟩
  have z0 : W.drew.heap.size = Qb + 2 := zW
  obtain ⟨x0, hx0⟩ : ∃ U, U = W.drew := ⟨_, rfl⟩
  rw [← hx0] at hbd hS0 z0
  rw [← hx0]
  clear hx0 cB cP zW hbW
  refine hTk (i := 0) (d := some 5) (v := .agg #[.int .i64 d.wk, .bool d.up, .int .i64 d.now, .int .i64 d.sn, .int .i64 d.ep, .int .i64 d.gv, .slice h.a1 d.L1.length h.c1, .slice h.a2 d.L2.length h.c2, .slice h.ar d.R.length h.cr, .slice h.aj d.J.length h.cj, .slice h.az d.S.length h.cs, .slice h.ao d.O.length h.co]) (l' := (bt 9 1)) rfl (fun _ hc => run_ldT 40 _ [.int .i64 d.wk, .bool d.up, .int .i64 d.now, .int .i64 d.sn, .int .i64 d.ep, .int .i64 d.gv, .slice h.a1 d.L1.length h.c1, .slice h.a2 d.L2.length h.c2, .slice h.ar d.R.length h.cr, .slice h.aj d.J.length h.cj, .slice h.az d.S.length h.cs, .slice h.ao d.O.length h.co] (.tmp 2) (by kernel_rfl) (by kernel_rfl) hc.1 Tryz.underlying40 rfl Tryz.sizeBo) hS0 ?_
  refine hTk (i := 2) (d := some 7) (v := .agg #[.slice pa ts.length pc]) (l' := (bt 9 5)) rfl (fun _ hc => run_ldT 48 _ [.slice pa ts.length pc] (.tmp 3) (by kernel_rfl) (by kernel_rfl) hc.2 Tryz.underlying48 rfl Tryz.sizePlB) hS0 ?_
  refine hTk (i := 3) (d := some 8) (v := .pointer (some ⟨Qb, 9, none⟩)) (l' := (bt 9 13)) rfl (fun _ hc => run_faB8 (.tmp 2) (by kernel_rfl) (by kernel_rfl)) hS0 ?_
  refine hTk (i := 4) (d := some 9) (v := .slice h.aj d.J.length h.cj) (l' := (bt 9 29)) rfl (fun _ hc => run_ldJsB (.tmp 8) (by kernel_rfl) (by kernel_rfl) (hc.1 9 (by simp)).1) hS0 ?_
  obtain ⟨⟨b1, o1, h1⟩, ⟨b2, o2, h2⟩, ⟨b3, o3, h3⟩, ⟨b4, o4, h4⟩, ⟨b5, o5, h5⟩, ⟨b6, o6, h6⟩⟩ := HM.out.below' hbd
  have hsm := HS.out
  unfold BD.small at hsm
  refine hOneC (i := 1) (by kernel_rfl) (d := some 6) (f := 73) (args := #[.agg #[.int .i64 d.wk, .bool d.up, .int .i64 d.now, .int .i64 d.sn, .int .i64 d.ep, .int .i64 d.gv, .slice h.a1 d.L1.length h.c1, .slice h.a2 d.L2.length h.c2, .slice h.ar d.R.length h.cr, .slice h.aj d.J.length h.cj, .slice h.az d.S.length h.cs, .slice h.ao d.O.length h.co]]) (l' := (bt 9 31)) (R := fun v u => ∃ h', v = .agg #[.int .i64 d.wk, .bool d.up, .int .i64 d.now, .int .i64 d.sn, .int .i64 d.ep, .int .i64 d.gv, .slice h'.a1 d.L1.length h'.c1, .slice h'.a2 d.L2.length h'.c2, .slice h'.ar d.R.length h'.cr, .slice h'.aj d.J.length h'.cj, .slice h'.az d.S.length h'.cs, .slice h'.ao d.O.length h'.co] ∧ BossO u x0.heap.size d h' ∧ Below x0.heap.size x0 u) rfl (by kernel_rfl) (by kernel_rfl) (by kernel_rfl) (run_cl1 _ _ rfl (by kernel_rfl) rfl enter_cpB) ((copyBoss_any d.wk d.up d.now d.sn d.ep d.gv h.a1 h.a2 h.ar h.aj h.az h.ao b1 o1 d.L1.length h.c1 b2 o2 d.L2.length h.c2 b3 o3 d.R.length h.cr b4 o4 d.J.length h.cj b5 o5 d.S.length h.cs b6 o6 d.O.length h.co d.L1 d.L2 d.R d.J d.S d.O x0 h1 h2 h3 h4 h5 h6 (by omega) (by omega) (by omega) (by omega) (by omega) (by omega)).mono fun _ _ ⟨a0_, c0_, a1_, c1_, a2_, c2_, a3_, c3_, a4_, c4_, a5_, c5_, he, ⟨p0, p1, p2, p3, p4, p5⟩, hdis, hb⟩ => ⟨_, he, ⟨a0_, a1_, a2_, a3_, a4_, a5_, c0_, c1_, c2_, c3_, c4_, c5_⟩, rfl, ⟨p0, p1, p2, p3, p4, p5, hdis⟩, hb⟩) ?_
  rintro _ x1 ⟨h', rfl, hO1, hb1⟩
  have hS1 : CF x1 Qb [.int .i64 d.wk, .bool d.up, .int .i64 d.now, .int .i64 d.sn, .int .i64 d.ep, .int .i64 d.gv, .slice h.a1 d.L1.length h.c1, .slice h.a2 d.L2.length h.c2, .slice h.ar d.R.length h.cr, .slice h.aj d.J.length h.cj, .slice h.az d.S.length h.cs, .slice h.ao d.O.length h.co] ∧ CF x1 (Qb + 1) [.slice pa ts.length pc] := ⟨hS0.1.block (hb1.block _ (by omega)), hS0.2.block (hb1.block _ (by omega))⟩
  have hB1 := hbd.trans (hb1.mono hbd.size)
  refine ⟨hS1, ?_⟩
  refine hOneC (i := 5) (by kernel_rfl) (d := some 10) (f := 74) (args := #[.slice h.aj d.J.length h.cj]) (l' := (bt 9 63)) (R := fun v u => v = .map (some x1.heap.size) ∧ (∃ X : DataW Unit, u.ownsMap Tryz.prog 3 (plainElem Tryz.prog 3) x1.heap.size d.J.length X) ∧ Below x1.heap.size x1 u) rfl (by kernel_rfl) (by kernel_rfl) (by kernel_rfl) (run_cl1 _ _ rfl (by kernel_rfl) rfl enter_byL) ((byLease_any h.aj b4 o4 d.J.length h.cj d.J x1 (h4.below' hb1) (by omega)).mono fun _ _ ⟨D, he, hD, _, hb⟩ => ⟨_, he, rfl, ⟨D, hD⟩, hb⟩) ?_
  rintro _ x2 ⟨rfl, ⟨X, hX⟩, hb2⟩
  have hS2 : CF x2 Qb [.int .i64 d.wk, .bool d.up, .int .i64 d.now, .int .i64 d.sn, .int .i64 d.ep, .int .i64 d.gv, .slice h.a1 d.L1.length h.c1, .slice h.a2 d.L2.length h.c2, .slice h.ar d.R.length h.cr, .slice h.aj d.J.length h.cj, .slice h.az d.S.length h.cs, .slice h.ao d.O.length h.co] ∧ CF x2 (Qb + 1) [.slice pa ts.length pc] := ⟨hS1.1.block (hb2.block _ (by have := hb1.size; omega)), hS1.2.block (hb2.block _ (by have := hb1.size; omega))⟩
  have hB2 := hB1.trans (hb2.mono hB1.size)
  have hO2 := hO1.below hb2
  have hlo1 := hO1.lo
  obtain ⟨Qp, hQp⟩ : ∃ q, q = x1.heap.size := ⟨_, rfl⟩
  rw [← hQp] at hX hlo1
  have hXl : Qp < x2.heap.size := hX.lt
  rw [← hQp]
  refine ⟨hS2, ?_⟩
  refine hTk (i := 6) (d := some 11) (v := .agg #[.int .i64 d.wk, .bool d.up, .int .i64 d.now, .int .i64 d.sn, .int .i64 d.ep, .int .i64 d.gv, .slice h'.a1 d.L1.length h'.c1, .slice h'.a2 d.L2.length h'.c2, .slice h'.ar d.R.length h'.cr, .slice h'.aj d.J.length h'.cj, .slice h'.az d.S.length h'.cs, .slice h'.ao d.O.length h'.co, .slice pa ts.length pc, .map (some Qp), .slice none 0 0]) (l' := (bt 9 127)) rfl (fun _ hc => run_bDk (.tmp 6) (.tmp 7) (.tmp 10) _ _ _ _ _ _ _ _ _ _ _ _ pa ts.length pc (some Qp) (by kernel_rfl) (by kernel_rfl) (by kernel_rfl) (by kernel_rfl)) hS2 ?_
  obtain ⟨x3, hx3⟩ : ∃ V, V = x2.alloc (.cells #[.int .i64 d.wk, .bool d.up, .int .i64 d.now, .int .i64 d.sn, .int .i64 d.ep, .int .i64 d.gv, .slice h'.a1 d.L1.length h'.c1, .slice h'.a2 d.L2.length h'.c2, .slice h'.ar d.R.length h'.cr, .slice h'.aj d.J.length h'.cj, .slice h'.az d.S.length h'.cs, .slice h'.ao d.O.length h'.co, .slice pa ts.length pc, .map (some Qp), .slice none 0 0] 122) := ⟨_, rfl⟩
  have hb3 : Below x2.heap.size x2 x3 := by rw [hx3]; exact (Below.refl _ _).alloc (Nat.le_refl _) _
  have c3 : CF x3 x2.heap.size [.int .i64 d.wk, .bool d.up, .int .i64 d.now, .int .i64 d.sn, .int .i64 d.ep, .int .i64 d.gv, .slice h'.a1 d.L1.length h'.c1, .slice h'.a2 d.L2.length h'.c2, .slice h'.ar d.R.length h'.cr, .slice h'.aj d.J.length h'.cj, .slice h'.az d.S.length h'.cs, .slice h'.ao d.O.length h'.co, .slice pa ts.length pc, .map (some Qp), .slice none 0 0] := by rw [hx3]; exact CF.made x2 #[.int .i64 d.wk, .bool d.up, .int .i64 d.now, .int .i64 d.sn, .int .i64 d.ep, .int .i64 d.gv, .slice h'.a1 d.L1.length h'.c1, .slice h'.a2 d.L2.length h'.c2, .slice h'.ar d.R.length h'.cr, .slice h'.aj d.J.length h'.cj, .slice h'.az d.S.length h'.cs, .slice h'.ao d.O.length h'.co, .slice pa ts.length pc, .map (some Qp), .slice none 0 0] 122
  have z3 : x3.heap.size = x2.heap.size + 1 := by rw [hx3]; simp
  have hS3 : CF x3 Qb [.int .i64 d.wk, .bool d.up, .int .i64 d.now, .int .i64 d.sn, .int .i64 d.ep, .int .i64 d.gv, .slice h.a1 d.L1.length h.c1, .slice h.a2 d.L2.length h.c2, .slice h.ar d.R.length h.cr, .slice h.aj d.J.length h.cj, .slice h.az d.S.length h.cs, .slice h.ao d.O.length h.co] ∧ CF x3 (Qb + 1) [.slice pa ts.length pc] := ⟨hS2.1.block (hb3.block _ (by have := hb1.size; have := hb2.size; omega)), hS2.2.block (hb3.block _ (by have := hb1.size; have := hb2.size; omega))⟩
  have HF := hid (show DkS w x3 w.heap.size x3.heap.size x2.heap.size Qp d h' ts pa pc d.now d.sn d.J.length ⟨d.gv, d.J, d.S, []⟩ (.slice none 0 0) [] x3 from by
    have hQ := HQ.out
    have hz1 := hb1.size
    have hz2 := hb2.size
    refine ⟨⟨(hO2.below hb3).mono (by omega), MsO.nil _ _, hB2.trans (hb3.mono hB2.size), ⟨rfl, rfl⟩, fun r hr q e => ?_, Nat.le_refl _, by omega⟩, c3, ⟨d.J.length, X, Nat.le_refl _, hX.kept (row := none) ⟨hb3.os, hb3.tape, hb3.output, hb3.size, fun i hi _ => hb3.block i hi⟩ (by simp)⟩, ⟨by omega, by omega, by omega, by omega, by omega⟩, fun r hr => ⟨fun e => ?_, fun e => ?_⟩, ⟨none, 0, rfl⟩, fun q _ _ _ _ => rfl⟩
    · have := hlo1 r hr q e; omega
    · have := hlo1 r hr Qp e; omega
    · have := hlo1 r hr _ e; omega)
  refine hOne (i := 7) (by kernel_rfl) (hVal (i := 7) (d := some 12) (v := .pointer (some ⟨x2.heap.size, 0, none⟩)) (w' := x3) (l' := (bt 9 255)) rfl (by kernel_rfl) (by kernel_rfl) (by kernel_rfl) (by rw [hx3]; exact run_bxDk (.tmp 11) #[.int .i64 d.wk, .bool d.up, .int .i64 d.now, .int .i64 d.sn, .int .i64 d.ep, .int .i64 d.gv, .slice h'.a1 d.L1.length h'.c1, .slice h'.a2 d.L2.length h'.c2, .slice h'.ar d.R.length h'.cr, .slice h'.aj d.J.length h'.cj, .slice h'.az d.S.length h'.cs, .slice h'.ao d.O.length h'.co, .slice pa ts.length pc, .map (some Qp), .slice none 0 0] (by kernel_rfl) (by kernel_rfl)) hS3 ?_)
  refine hTk (i := 8) (d := some 4) (v := .pointer (some ⟨x2.heap.size, 0, none⟩)) (l' := (bt 9 511)) rfl (fun _ hc => run_asF (.tmp 12) (by kernel_rfl) (by kernel_rfl)) hS3 ?_
  refine wpAnyH_done (by kernel_rfl) ?_ _
  clear hS0 hS1 hS2 hS3 c3 hX hO1 hO2 hb1 hb2 hb3 hx3 hB1 hB2 hbd
  go_simp
  go_wp2_with fail
  go_ret
  exact ⟨_, _, _, rfl, HF.out⟩
end Go.Proofs.YtaeomkpofcbmiaaGreat
