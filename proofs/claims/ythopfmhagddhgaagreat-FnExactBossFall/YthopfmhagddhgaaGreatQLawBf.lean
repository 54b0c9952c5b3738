import Derived.Test.YthopfmhagddhgaaGreatQBoo
import Derived.Test.YthopfmhagddhgaaGreatQMid
import Derived.Deep.DeepCutAuto
namespace Go.Proofs.YthopfmhagddhgaaGreat
open Go.RowKit
theorem Tryz.sizeLB : (Tryz.prog.info? 32).map (·.size) = some 12 := by kernel_rfl
theorem Tryz.sizeLP : (Tryz.prog.info? 24).map (·.size) = some 1 := by kernel_rfl
theorem enter_toB (v1 : Value) (w : World) : Sem.run Tryz.prog (callFunc 19 #[v1]) w = .ok (.enter 19 #[v1]) w := by kernel_rfl
theorem enter_toP (v1 : Value) (w : World) : Sem.run Tryz.prog (callFunc 20 #[v1]) w = .ok (.enter 20 #[v1]) w := by kernel_rfl
theorem enter_sFall (v1 v2 v3 : Value) (w : World) : Sem.run Tryz.prog (callFunc 18 #[v1, v2, v3]) w = .ok (.enter 18 #[v1, v2, v3]) w := by kernel_rfl
theorem enter_iFall (v1 v2 v3 : Value) (w : World) : Sem.run Tryz.prog (callFunc 21 #[v1, v2, v3]) w = .ok (.enter 21 #[v1, v2, v3]) w := by kernel_rfl
theorem run_alB {ρ : Operand → Value} {o : Oper} {w : World} (h : o.op = .alloc 47) : (execOp ρ o).run Tryz.prog w = .ok (.value (.pointer (some ⟨w.heap.size, 0, none⟩))) (w.alloc (.cells #[.int .i64 0, .bool false, .int .i64 0, .int .i64 0, .int .i64 0, .int .i64 0, .slice none 0 0, .slice none 0 0, .slice none 0 0, .slice none 0 0, .slice none 0 0, .slice none 0 0] 47)) := by
  unfold execOp
  rw [h]
  simp [go_sem]
theorem Shape.blocks {g H n : Nat} {w w' : World} (h : Shape g H n w) (hgH : g < H) (hb : ∀ q, g ≤ q → q < H → w'.heap[q]? = w.heap[q]?) : Shape g H n w' where
  s0 := fun j hj => by obtain ⟨s, hs⟩ := h.s0 j hj; exact ⟨s, (World.cell?_of_block (w := w) (a := ⟨g, j * 3, none⟩) (hb g (Nat.le_refl _) hgH)).trans hs⟩
  s1 := fun j hj => by obtain ⟨s, hs⟩ := h.s1 j hj; exact ⟨s, (World.cell?_of_block (w := w) (a := ⟨g, j * 3 + 1, none⟩) (hb g (Nat.le_refl _) hgH)).trans hs⟩
  s2 := fun j hj => by
    obtain ⟨b', n', h0, h1, h2, h3, h4⟩ := h.s2 j hj
    refine ⟨b', n', (World.cell?_of_block (w := w) (a := ⟨g, j * 3 + 2, none⟩) (hb g (Nat.le_refl _) hgH)).trans h0, h1, h2, h3, fun i hi => ?_⟩
    obtain ⟨⟨y, hy⟩, hf⟩ := h4 i hi
    exact ⟨⟨y, (World.cell?_of_block (w := w) (a := ⟨b', i, none⟩) (hb b' (by omega) h2)).trans hy⟩, (World.frozen?_of_block (w := w) (a := ⟨b', i, none⟩) (hb b' (by omega) h2)).trans hf⟩
  fr := fun j hj => (World.frozen?_of_block (w := w) (a := ⟨g, j, none⟩) (hb g (Nat.le_refl _) hgH)).trans (h.fr j hj)
theorem CF.lt {w : World} {p : Nat} {v : Value} {vs : List Value} (h : CF w p (v :: vs)) : p < w.heap.size := World.block_lt_of_cell? w ⟨p, 0, none⟩ (h 0 (by simp)).1
theorem CF.belowS {w w' : World} {p : Nat} {v : Value} {vs : List Value} (h : CF w p (v :: vs)) (hb : Below w.heap.size w w') : CF w' p (v :: vs) := h.block (hb.block p h.lt)
theorem CF.grownS {w w' : World} {p : Nat} {v : Value} {vs : List Value} {row : Option Nat} (h : CF w p (v :: vs)) (hg : w.grownBy w' row) (hr : some p ≠ row) : CF w' p (v :: vs) := h.block (hg.block p h.lt hr)
theorem CF.midS {w w' : World} {p g H : Nat} {v : Value} {vs : List Value} (h : CF w p (v :: vs)) (hM : Mid g H w w') (hr : p < g ∨ H ≤ p) : CF w' p (v :: vs) := h.block (hM.block p h.lt hr)
theorem Own.midR {B : Nat} {w w' : World} {size : Nat} {v : Value} {n : Nat} {xs : List Value} {g H : Nat} (h : Own B w size v n xs) (hM : Mid g H w w') (hr : ∀ q, v.ownBlock = some q → q < g ∨ H ≤ q) : Own B w' size v n xs := by
  rcases h with h | ⟨k, o, cap, rfl, hc⟩
  · exact .inl h
  · exact .inr ⟨k, o, cap, rfl, hc.block (hM.block k hc.hi (hr k rfl))⟩

theorem bvs_one (d : BD) (h : BH) : ∀ v ∈ bvs d h, v.oneCell' = true := by
  intro v hv
  simp only [bvs, List.mem_cons, List.not_mem_nil, or_false] at hv
  rcases hv with rfl | rfl | rfl | rfl | rfl | rfl | rfl | rfl | rfl | rfl | rfl | rfl <;> rfl

set_option maxHeartbeats 16000000 in
set_option maxRecDepth 100000 in
theorem fnExactBossFall_walk (d : BD) (h : BH) (pa : Option Addr) (pb po pn pc : Nat) (ts : List TaskD) (keep : Int) (w : World) (hM : BossM w d h) (hp : TasksAt w pa pb po pn ts) :
    Calls Tryz.prog 6 #[.agg #[.int .i64 d.wk, .bool d.up, .int .i64 d.now, .int .i64 d.sn, .int .i64 d.ep, .int .i64 d.gv, .slice h.a1 d.L1.length h.c1, .slice h.a2 d.L2.length h.c2, .slice h.ar d.R.length h.cr, .slice h.aj d.J.length h.cj, .slice h.az d.S.length h.cs, .slice h.ao d.O.length h.co], .agg #[.slice pa pn pc], .int .i64 keep] w fun e' w' => e' = .returned (.bool true) ∧ Below w.heap.size w w' := by
  obtain ⟨W, hW⟩ : ∃ W, W = (w.alloc (.cells #[.int .i64 d.wk, .bool d.up, .int .i64 d.now, .int .i64 d.sn, .int .i64 d.ep, .int .i64 d.gv, .slice h.a1 d.L1.length h.c1, .slice h.a2 d.L2.length h.c2, .slice h.ar d.R.length h.cr, .slice h.aj d.J.length h.cj, .slice h.az d.S.length h.cs, .slice h.ao d.O.length h.co] 32)).alloc (.cells #[.slice pa pn pc] 24) := ⟨_, rfl⟩
  have hBW : Below w.heap.size w W := by rw [hW]; exact ((Below.refl _ _).alloc (Nat.le_refl _) _).alloc (by simp) _
  have hsW : W.heap.size = w.heap.size + 2 := by rw [hW]; simp
  have hPW : CF W (w.heap.size) [.int .i64 d.wk, .bool d.up, .int .i64 d.now, .int .i64 d.sn, .int .i64 d.ep, .int .i64 d.gv, .slice h.a1 d.L1.length h.c1, .slice h.a2 d.L2.length h.c2, .slice h.ar d.R.length h.cr, .slice h.aj d.J.length h.cj, .slice h.az d.S.length h.cs, .slice h.ao d.O.length h.co] := by rw [hW]; exact (CF.made w #[.int .i64 d.wk, .bool d.up, .int .i64 d.now, .int .i64 d.sn, .int .i64 d.ep, .int .i64 d.gv, .slice h.a1 d.L1.length h.c1, .slice h.a2 d.L2.length h.c2, .slice h.ar d.R.length h.cr, .slice h.aj d.J.length h.cj, .slice h.az d.S.length h.cs, .slice h.ao d.O.length h.co] 32).block (Below.heap_alloc _ _ _ (by simp))
  have hPP : CF W (w.heap.size + 1) [.slice pa pn pc] := by
    rw [hW]
    have := CF.made (w.alloc (.cells #[.int .i64 d.wk, .bool d.up, .int .i64 d.now, .int .i64 d.sn, .int .i64 d.ep, .int .i64 d.gv, .slice h.a1 d.L1.length h.c1, .slice h.a2 d.L2.length h.c2, .slice h.ar d.R.length h.cr, .slice h.aj d.J.length h.cj, .slice h.az d.S.length h.cs, .slice h.ao d.O.length h.co] 32)) #[.slice pa pn pc] 24
    simpa using this
  have hfit := hM.fits
  have HW := hid hW
  clear hW
  go_enter Tryz.func6, Tryz.ntmps6
  go_wp2_with fail
  rw [← HW.out]
  clear HW
  refine (szBossO_any d h 1048576 _ (by omega) (by omega) (hM.below' hBW)).mono ?_
  rintro e' w1 ⟨⟨r, rfl, hr⟩, hb1⟩
  have hPW1 := hPW.block (hb1.block (w.heap.size) (by omega))
  have hPP1 := hPP.block (hb1.block (w.heap.size + 1) (by omega))
  have hBw1 := hBW.trans (hb1.mono hBW.size)
  have hl1 : w.heap.size + 1 < w1.heap.size := by have := hb1.size; omega
  clear hPW hPP hb1 hBW hsW
  rcases hr with rfl | ⟨hr0, hr1, hs⟩
  · go_wp2
    go_ret
    exact ⟨rfl, hBw1⟩
  have kp : w1.cell? ⟨w.heap.size + 1, 0, none⟩ = some (.slice pa pn pc) := (hPP1 0 (by simp)).1
  have hr0' : ¬ r < 0 := by omega
  go_wp2_with fail
  refine (szPlan_any pa pb po pn pc ts r _ hr0 hr1 (hp.below' hBw1)).mono ?_
  rintro e' w2 ⟨⟨r2, rfl, hr2⟩, hb2⟩
  have hPW := hPW1.block (hb2.block (w.heap.size) (by omega))
  have hPP := hPP1.block (hb2.block (w.heap.size + 1) (by omega))
  have hBw2 := hBw1.trans (hb2.mono hBw1.size)
  have hlp : w.heap.size + 1 < w2.heap.size := Nat.lt_of_lt_of_le hl1 hb2.size
  clear kp hPW1 hPP1 hb2 hBw1 hl1 hr0'
  rcases hr2 with rfl | ⟨hr2, hr3⟩
  · go_wp2
    go_ret
    exact ⟨rfl, hBw2⟩
  have hpn : pn + tssz ts ≤ 1048576 := by omega
  have hr3' : ¬ r2 < 0 := by omega
  clear hr2 hr0 hr1
  go_upto_region 8 with fail
  clear hr3 hr3'
  go_cut [8] (fun sv wx => ∃ (p : Nat) (d1 : BD) (h1 : BH), sv = .pointer (some ⟨p, 0, none⟩) ∧ CF wx p (bvs d1 h1) ∧ fallR2 d ts keep d1 ∧ BossO wx w2.heap.size d1 h1 ∧ w2.heap.size ≤ p ∧ CF wx (w.heap.size) [.int .i64 d.wk, .bool d.up, .int .i64 d.now, .int .i64 d.sn, .int .i64 d.ep, .int .i64 d.gv, .slice h.a1 d.L1.length h.c1, .slice h.a2 d.L2.length h.c2, .slice h.ar d.R.length h.cr, .slice h.aj d.J.length h.cj, .slice h.az d.S.length h.cs, .slice h.ao d.O.length h.co] ∧ CF wx (w.heap.size + 1) [.slice pa pn pc] ∧ Below w.heap.size w wx ∧ Below w2.heap.size w2 wx)
  case first =>
    refine wp_region_held (S := fun w' => CF w' (w.heap.size) [.int .i64 d.wk, .bool d.up, .int .i64 d.now, .int .i64 d.sn, .int .i64 d.ep, .int .i64 d.gv, .slice h.a1 d.L1.length h.c1, .slice h.a2 d.L2.length h.c2, .slice h.ar d.R.length h.cr, .slice h.aj d.J.length h.cj, .slice h.az d.S.length h.cs, .slice h.ao d.O.length h.co] ∧ CF w' (w.heap.size + 1) [.slice pa pn pc]) (by kernel_rfl) ?_
    change wpAnyH _ _ _ _ _ _ _ _ (World.drew _)
    have hPWu0 : CF w2.drew (w.heap.size) [.int .i64 d.wk, .bool d.up, .int .i64 d.now, .int .i64 d.sn, .int .i64 d.ep, .int .i64 d.gv, .slice h.a1 d.L1.length h.c1, .slice h.a2 d.L2.length h.c2, .slice h.ar d.R.length h.cr, .slice h.aj d.J.length h.cj, .slice h.az d.S.length h.cs, .slice h.ao d.O.length h.co] := hPW
    have hPPu0 : CF w2.drew (w.heap.size + 1) [.slice pa pn pc] := hPP
    have hBu0 := hBw2.drew
    have hzu0 : w2.heap.size ≤ w2.drew.heap.size := Nat.le_refl _
    have hDu0 : Below w2.heap.size w2 w2.drew := (Below.refl _ _).drew
    have hlu0 : w.heap.size + 1 < w2.drew.heap.size := hlp
    obtain ⟨u0, hu0⟩ : ∃ u0, u0 = w2.drew := ⟨_, rfl⟩
    rw [← hu0] at hPWu0 hPPu0 hBu0 hzu0 hlu0 hDu0
    rw [← hu0]
    clear hu0
    refine hTake (i := 0) (d := some 26) (v := .agg #[.int .i64 d.wk, .bool d.up, .int .i64 d.now, .int .i64 d.sn, .int .i64 d.ep, .int .i64 d.gv, .slice h.a1 d.L1.length h.c1, .slice h.a2 d.L2.length h.c2, .slice h.ar d.R.length h.cr, .slice h.aj d.J.length h.cj, .slice h.az d.S.length h.cs, .slice h.ao d.O.length h.co]) (l' := #[true, false, false, false, false, false, false, false]) rfl (by kernel_rfl) (by kernel_rfl) (by kernel_rfl) (by kernel_rfl) (fun _ _ _ h => h) (by kernel_rfl) (fun _ hc => run_ldT 32 _ [.int .i64 d.wk, .bool d.up, .int .i64 d.now, .int .i64 d.sn, .int .i64 d.ep, .int .i64 d.gv, .slice h.a1 d.L1.length h.c1, .slice h.a2 d.L2.length h.c2, .slice h.ar d.R.length h.cr, .slice h.aj d.J.length h.cj, .slice h.az d.S.length h.cs, .slice h.ao d.O.length h.co] (.tmp 3) (by kernel_rfl) (by kernel_rfl) hc.1 Tryz.underlying32 rfl Tryz.sizeLB) ⟨hPWu0, hPPu0⟩ (by kernel_rfl) ?_
    refine hTake (i := 2) (d := some 28) (v := .agg #[.slice pa pn pc]) (l' := #[true, false, true, false, false, false, false, false]) rfl (by kernel_rfl) (by kernel_rfl) (by kernel_rfl) (by kernel_rfl) (fun _ _ _ h => h) (by kernel_rfl) (fun _ hc => run_ldT 24 _ [.slice pa pn pc] (.tmp 4) (by kernel_rfl) (by kernel_rfl) hc.2 Tryz.underlying24 rfl Tryz.sizeLP) ⟨hPWu0, hPPu0⟩ (by kernel_rfl) ?_
    refine hTake (i := 4) (d := some 30) (v := .int .i64 keep) (l' := #[true, false, true, false, true, false, false, false]) rfl (by kernel_rfl) (by kernel_rfl) (by kernel_rfl) (by kernel_rfl) (fun _ _ _ h => h) (by kernel_rfl) (fun _ hc => by kernel_rfl) ⟨hPWu0, hPPu0⟩ (by kernel_rfl) ?_
    refine hTwo (i := 1) (j := 6) (by kernel_rfl) (hCall (i := 1) (d := some 27) (f := 19) (args := #[.agg (bvs d h).toArray]) (l' := #[true, true, true, false, true, false, false, false]) (R := fun v w' => ∃ h2 g2, v = .agg (bvs d h2).toArray ∧ BossO w' u0.heap.size d h2 ∧ h2.a2 = some ⟨g2, 0, none⟩ ∧ d.L2.length ≤ h2.c2 ∧ Below u0.heap.size u0 w') rfl (by kernel_rfl) (by kernel_rfl) (by kernel_rfl) (run_cl1 _ _ rfl (by kernel_rfl) rfl enter_toB) ((toBossO_any d h _ (hM.below' hBu0) hs).mono fun _ _ ⟨⟨h2, g2, he, ho, ha, hc⟩, hb⟩ => ⟨_, he, h2, g2, rfl, ho, ha, hc, hb⟩) ?_) (hVal (i := 6) (d := some 8) (v := .pointer (some ⟨u0.heap.size, 0, none⟩)) (w' := u0.alloc (.cells #[.int .i64 0, .bool false, .int .i64 0, .int .i64 0, .int .i64 0, .int .i64 0, .slice none 0 0, .slice none 0 0, .slice none 0 0, .slice none 0 0, .slice none 0 0, .slice none 0 0] 47)) (l' := #[true, false, true, false, true, false, true, false]) rfl (by kernel_rfl) (by kernel_rfl) (by kernel_rfl) (run_alB (by kernel_rfl)) ⟨hPWu0.block (Below.heap_alloc u0 _ (w.heap.size) (by omega)), hPPu0.block (Below.heap_alloc u0 _ (w.heap.size + 1) (by omega))⟩ ?_)
    · rintro _ u1 ⟨h2, g2, rfl, ho2, ha2, hc2, hbu1⟩
      have hPWu1 := hPWu0.block (hbu1.block (w.heap.size) (by omega))
      have hPPu1 := hPPu0.block (hbu1.block (w.heap.size + 1) (by omega))
      have hBu1 := hBu0.trans (hbu1.mono hBu0.size)
      have hzu1 : w2.heap.size ≤ u1.heap.size := Nat.le_trans hzu0 hbu1.size
      have hlu1 : w.heap.size + 1 < u1.heap.size := Nat.lt_of_lt_of_le hlu0 hbu1.size
      have hDu1 := hDu0.trans (hbu1.mono hzu0)
      have h2mu1 := ho2.m hfit
      have HA2 := hid ha2
      clear ho2 ha2
      refine ⟨⟨hPWu1, hPPu1⟩, ?_⟩
      refine hTwo (i := 3) (j := 6) (by kernel_rfl) (hCall (i := 3) (d := some 29) (f := 20) (args := #[.agg #[.slice pa pn pc]]) (l' := #[true, true, true, true, true, false, false, false]) (R := fun v w' => ∃ g, v = .agg #[.slice (some ⟨g, 0, none⟩) pn pn] ∧ TasksAt w' (some ⟨g, 0, none⟩) g 0 pn ts ∧ Below u1.heap.size u1 w') rfl (by kernel_rfl) (by kernel_rfl) (by kernel_rfl) (run_cl1 _ _ rfl (by kernel_rfl) rfl enter_toP) ((toPlan_any pa pb po pn pc ts _ (hp.below' hBu1) hpn).mono fun _ _ ⟨g, xs, he, _, _, ht, hb⟩ => ⟨_, he, g, rfl, ht, hb⟩) ?_) (hVal (i := 6) (d := some 8) (v := .pointer (some ⟨u1.heap.size, 0, none⟩)) (w' := u1.alloc (.cells #[.int .i64 0, .bool false, .int .i64 0, .int .i64 0, .int .i64 0, .int .i64 0, .slice none 0 0, .slice none 0 0, .slice none 0 0, .slice none 0 0, .slice none 0 0, .slice none 0 0] 47)) (l' := #[true, true, true, false, true, false, true, false]) rfl (by kernel_rfl) (by kernel_rfl) (by kernel_rfl) (run_alB (by kernel_rfl)) ⟨hPWu1.block (Below.heap_alloc u1 _ (w.heap.size) (by omega)), hPPu1.block (Below.heap_alloc u1 _ (w.heap.size + 1) (by omega))⟩ ?_)
      · rintro _ u2 ⟨g3, rfl, ht3, hbu2⟩
        have hPWu2 := hPWu1.block (hbu2.block (w.heap.size) (by omega))
        have hPPu2 := hPPu1.block (hbu2.block (w.heap.size + 1) (by omega))
        have hBu2 := hBu1.trans (hbu2.mono hBu1.size)
        have hzu2 : w2.heap.size ≤ u2.heap.size := Nat.le_trans hzu1 hbu2.size
        have hlu2 : w.heap.size + 1 < u2.heap.size := Nat.lt_of_lt_of_le hlu1 hbu2.size
        have hDu2 := hDu1.trans (hbu2.mono hzu1)
        have h2mu2 := h2mu1.below' hbu2
        have ht3u2 := ht3
        refine ⟨⟨hPWu2, hPPu2⟩, ?_⟩
        refine hTwo (i := 5) (j := 6) (by kernel_rfl) (hCall (i := 5) (d := some 31) (f := 18) (args := #[.agg (bvs d h2).toArray, .agg #[.slice (some ⟨g3, 0, none⟩) pn pn], .int .i64 keep]) (l' := #[true, true, true, true, true, true, false, false]) (R := fun v w' => ∃ d1 h1, v = .agg (bvs d1 h1).toArray ∧ BossO w' u2.heap.size d1 h1 ∧ fallR2 d ts keep d1 ∧ Below u2.heap.size u2 w') rfl (by kernel_rfl) (by kernel_rfl) (by kernel_rfl) (run_cl3 _ _ _ _ rfl (by kernel_rfl) (by kernel_rfl) (by kernel_rfl) rfl enter_sFall) ((sFallB_any d h2 _ g3 0 pn pn ts keep _ g2 HA2.out hc2 h2mu2 ht3u2 hs).mono fun e _ ⟨⟨d1, ⟨h1, he, ho⟩, hf⟩, hb⟩ => ⟨_, he, d1, h1, rfl, ho, hf, hb⟩) ?_) (hVal (i := 6) (d := some 8) (v := .pointer (some ⟨u2.heap.size, 0, none⟩)) (w' := u2.alloc (.cells #[.int .i64 0, .bool false, .int .i64 0, .int .i64 0, .int .i64 0, .int .i64 0, .slice none 0 0, .slice none 0 0, .slice none 0 0, .slice none 0 0, .slice none 0 0, .slice none 0 0] 47)) (l' := #[true, true, true, true, true, false, true, false]) rfl (by kernel_rfl) (by kernel_rfl) (by kernel_rfl) (run_alB (by kernel_rfl)) ⟨hPWu2.block (Below.heap_alloc u2 _ (w.heap.size) (by omega)), hPPu2.block (Below.heap_alloc u2 _ (w.heap.size + 1) (by omega))⟩ ?_)
        · rintro _ u3 ⟨d1, h1, rfl, hO1, hF, hbu3⟩
          have hPWu3 := hPWu2.block (hbu3.block (w.heap.size) (by omega))
          have hPPu3 := hPPu2.block (hbu3.block (w.heap.size + 1) (by omega))
          have hBu3 := hBu2.trans (hbu3.mono hBu2.size)
          have hzu3 : w2.heap.size ≤ u3.heap.size := Nat.le_trans hzu2 hbu3.size
          have hlu3 : w.heap.size + 1 < u3.heap.size := Nat.lt_of_lt_of_le hlu2 hbu3.size
          have hDu3 := hDu2.trans (hbu3.mono hzu2)
          have h2mu3 := h2mu2.below' hbu3
          have hlo1 := hO1.lo
          have hO1 := hO1.mono hzu2
          refine ⟨⟨hPWu3, hPPu3⟩, ?_⟩
          refine hOne (by kernel_rfl) (hVal (i := 6) (d := some 8) (v := .pointer (some ⟨u3.heap.size, 0, none⟩)) (w' := u3.alloc (.cells #[.int .i64 0, .bool false, .int .i64 0, .int .i64 0, .int .i64 0, .int .i64 0, .slice none 0 0, .slice none 0 0, .slice none 0 0, .slice none 0 0, .slice none 0 0, .slice none 0 0] 47)) (l' := #[true, true, true, true, true, true, true, false]) rfl (by kernel_rfl) (by kernel_rfl) (by kernel_rfl) (run_alB (by kernel_rfl)) ⟨hPWu3.block (Below.heap_alloc u3 _ (w.heap.size) (by omega)), hPPu3.block (Below.heap_alloc u3 _ (w.heap.size + 1) (by omega))⟩ ?_)
          have hPWu4 := hPWu3.block (Below.heap_alloc u3 (.cells zB.toArray 47) (w.heap.size) (by omega))
          have hPPu4 := hPPu3.block (Below.heap_alloc u3 (.cells zB.toArray 47) (w.heap.size + 1) (by omega))
          have hBu4 := hBu3.alloc hBu3.size (.cells zB.toArray 47)
          have hDu4 := hDu3.alloc hDu3.size (.cells zB.toArray 47)
          have hbbu4 : Below u3.heap.size u3 (u3.alloc (.cells zB.toArray 47)) := (Below.refl _ _).alloc (Nat.le_refl _) _
          have hAu4 := CF.made u3 zB.toArray 47
          have h2mu4 := h2mu3.below' hbbu4
          have hO1 := hO1.below hbbu4
          have hszu4 : (u3.alloc (.cells zB.toArray 47)).heap.size = u3.heap.size + 1 := by simp
          obtain ⟨pA, hpA⟩ : ∃ pA, pA = u3.heap.size := ⟨_, rfl⟩
          rw [← hpA] at hAu4 hszu4
          rw [← hpA]
          obtain ⟨u4, hu4⟩ : ∃ V, V = u3.alloc (.cells zB.toArray 47) := ⟨_, rfl⟩
          rw [← hu4] at hPWu4 hPPu4 hBu4 hDu4 hbbu4 hAu4 hszu4 h2mu4 hO1
          have eu4 : (.alloc u3 (.cells #[.int .i64 0, .bool false, .int .i64 0, .int .i64 0, .int .i64 0, .int .i64 0, .slice none 0 0, .slice none 0 0, .slice none 0 0, .slice none 0 0, .slice none 0 0, .slice none 0 0] 47) : World) = u4 := hu4.symm
          rw [eu4]
          clear hu4 eu4
          have hzu4 : w2.heap.size ≤ u4.heap.size := Nat.le_trans hzu3 hbbu4.size
          have hlu4 : w.heap.size + 1 < u4.heap.size := Nat.lt_of_lt_of_le hlu3 hbbu4.size
          have hAlu4 : pA < u4.heap.size := by omega
          have hAb : w2.heap.size ≤ pA := by omega
          have HPA := hid hpA
          clear hpA
          obtain ⟨uz, huz⟩ : ∃ uz, uz = u4.setCells pA 0 (bvs d1 h1) := ⟨_, rfl⟩
          have hcz : CF uz pA (bvs d1 h1) := by rw [huz]; exact hAu4.stored rfl
          have hgz : u4.grownBy uz (some pA) := by rw [huz]; exact grown_setCells _ _ _ _ _ (World.grownBy.refl _ _)
          have hPWz := hPWu4.block (hgz.block (w.heap.size) (by omega) (by simp; omega))
          have hPPz := hPPu4.block (hgz.block (w.heap.size + 1) (by omega) (by simp; omega))
          have hBz := below_grown hBu4 hgz (by omega) (fun k hk => by simp at hk; omega)
          have hOz := hO1.grew (Grew.of hgz) (fun r hr q hq r' hr' e => by
            obtain rfl := List.mem_singleton.1 hr
            injection hq with hq
            have h5 := hlo1 r' hr' q e
            have h6 := HPA.out
            omega)
          have hzz := below_grown hDu4 hgz (by omega) (fun k hk => by simp at hk; omega)
          refine hOne (by kernel_rfl) (hSkip (i := 7) (w' := uz) (l' := #[true, true, true, true, true, true, true, true]) rfl (by kernel_rfl) (by kernel_rfl) (by kernel_rfl) (by rw [huz]; exact run_stT 47 zB (bvs d1 h1) (.tmp 8) (.tmp 31) (by kernel_rfl) (by kernel_rfl) (by kernel_rfl) hAu4 rfl Tryz.sizeBo (bvs_one d1 h1)) ⟨hPWz, hPPz⟩ ?_)
          refine wpAnyH_done (by kernel_rfl) ?_ _
          have HR := hid (show ∃ (p : Nat) (d1 : BD) (h1 : BH), (.pointer (some ⟨pA, 0, none⟩) : Value) = .pointer (some ⟨p, 0, none⟩) ∧ CF uz p (bvs d1 h1) ∧ fallR2 d ts keep d1 ∧ BossO uz w2.heap.size d1 h1 ∧ w2.heap.size ≤ p ∧ CF uz (w.heap.size) [.int .i64 d.wk, .bool d.up, .int .i64 d.now, .int .i64 d.sn, .int .i64 d.ep, .int .i64 d.gv, .slice h.a1 d.L1.length h.c1, .slice h.a2 d.L2.length h.c2, .slice h.ar d.R.length h.cr, .slice h.aj d.J.length h.cj, .slice h.az d.S.length h.cs, .slice h.ao d.O.length h.co] ∧ CF uz (w.heap.size + 1) [.slice pa pn pc] ∧ Below w.heap.size w uz ∧ Below w2.heap.size w2 uz from ⟨pA, d1, h1, rfl, hcz, hF, hOz, hAb, hPWz, hPPz, hBz, hzz⟩)
          clear hcz hF hOz hPWz hPPz hBz hzz huz hgz hO1 hlo1
          go_wp2_with fail
          go_meet
          case rel => exact HR.out
        · have hPWu5 := hPWu2.block (Below.heap_alloc u2 (.cells zB.toArray 47) (w.heap.size) (by omega))
          have hPPu5 := hPPu2.block (Below.heap_alloc u2 (.cells zB.toArray 47) (w.heap.size + 1) (by omega))
          have hBu5 := hBu2.alloc hBu2.size (.cells zB.toArray 47)
          have hDu5 := hDu2.alloc hDu2.size (.cells zB.toArray 47)
          have hbbu5 : Below u2.heap.size u2 (u2.alloc (.cells zB.toArray 47)) := (Below.refl _ _).alloc (Nat.le_refl _) _
          have hAu5 := CF.made u2 zB.toArray 47
          have h2mu5 := h2mu2.below' hbbu5
          have ht3u5 := ht3u2.below' hbbu5
          have hszu5 : (u2.alloc (.cells zB.toArray 47)).heap.size = u2.heap.size + 1 := by simp
          obtain ⟨pA, hpA⟩ : ∃ pA, pA = u2.heap.size := ⟨_, rfl⟩
          rw [← hpA] at hAu5 hszu5
          rw [← hpA]
          obtain ⟨u5, hu5⟩ : ∃ V, V = u2.alloc (.cells zB.toArray 47) := ⟨_, rfl⟩
          rw [← hu5] at hPWu5 hPPu5 hBu5 hDu5 hbbu5 hAu5 hszu5 h2mu5 ht3u5
          have eu5 : (.alloc u2 (.cells #[.int .i64 0, .bool false, .int .i64 0, .int .i64 0, .int .i64 0, .int .i64 0, .slice none 0 0, .slice none 0 0, .slice none 0 0, .slice none 0 0, .slice none 0 0, .slice none 0 0] 47) : World) = u5 := hu5.symm
          rw [eu5]
          clear hu5 eu5
          have hzu5 : w2.heap.size ≤ u5.heap.size := Nat.le_trans hzu2 hbbu5.size
          have hlu5 : w.heap.size + 1 < u5.heap.size := Nat.lt_of_lt_of_le hlu2 hbbu5.size
          have hAlu5 : pA < u5.heap.size := by omega
          have hAb : w2.heap.size ≤ pA := by omega
          have HPA := hid hpA
          clear hpA
          refine hOne (by kernel_rfl) (hCall (i := 5) (d := some 31) (f := 18) (args := #[.agg (bvs d h2).toArray, .agg #[.slice (some ⟨g3, 0, none⟩) pn pn], .int .i64 keep]) (l' := #[true, true, true, true, true, true, true, false]) (R := fun v w' => ∃ d1 h1, v = .agg (bvs d1 h1).toArray ∧ BossO w' u5.heap.size d1 h1 ∧ fallR2 d ts keep d1 ∧ Below u5.heap.size u5 w') rfl (by kernel_rfl) (by kernel_rfl) (by kernel_rfl) (run_cl3 _ _ _ _ rfl (by kernel_rfl) (by kernel_rfl) (by kernel_rfl) rfl enter_sFall) ((sFallB_any d h2 _ g3 0 pn pn ts keep _ g2 HA2.out hc2 h2mu5 ht3u5 hs).mono fun e _ ⟨⟨d1, ⟨h1, he, ho⟩, hf⟩, hb⟩ => ⟨_, he, d1, h1, rfl, ho, hf, hb⟩) ?_)
          rintro _ u6 ⟨d1, h1, rfl, hO1, hF, hbu6⟩
          have hPWu6 := hPWu5.block (hbu6.block (w.heap.size) (by omega))
          have hPPu6 := hPPu5.block (hbu6.block (w.heap.size + 1) (by omega))
          have hBu6 := hBu5.trans (hbu6.mono hBu5.size)
          have hzu6 : w2.heap.size ≤ u6.heap.size := Nat.le_trans hzu5 hbu6.size
          have hlu6 : w.heap.size + 1 < u6.heap.size := Nat.lt_of_lt_of_le hlu5 hbu6.size
          have hDu6 := hDu5.trans (hbu6.mono hzu5)
          have h2mu6 := h2mu5.below' hbu6
          have hlo1 := hO1.lo
          have hO1 := hO1.mono hzu5
          have hAu6 := hAu5.block (hbu6.block pA (by omega))
          have hAlu6 : pA < u6.heap.size := Nat.lt_of_lt_of_le hAlu5 hbu6.size
          refine ⟨⟨hPWu6, hPPu6⟩, ?_⟩
          obtain ⟨uz, huz⟩ : ∃ uz, uz = u6.setCells pA 0 (bvs d1 h1) := ⟨_, rfl⟩
          have hcz : CF uz pA (bvs d1 h1) := by rw [huz]; exact hAu6.stored rfl
          have hgz : u6.grownBy uz (some pA) := by rw [huz]; exact grown_setCells _ _ _ _ _ (World.grownBy.refl _ _)
          have hPWz := hPWu6.block (hgz.block (w.heap.size) (by omega) (by simp; omega))
          have hPPz := hPPu6.block (hgz.block (w.heap.size + 1) (by omega) (by simp; omega))
          have hBz := below_grown hBu6 hgz (by omega) (fun k hk => by simp at hk; omega)
          have hOz := hO1.grew (Grew.of hgz) (fun r hr q hq r' hr' e => by
            obtain rfl := List.mem_singleton.1 hr
            injection hq with hq
            have h5 := hlo1 r' hr' q e
            have h6 := HPA.out
            omega)
          have hzz := below_grown hDu6 hgz (by omega) (fun k hk => by simp at hk; omega)
          refine hOne (by kernel_rfl) (hSkip (i := 7) (w' := uz) (l' := #[true, true, true, true, true, true, true, true]) rfl (by kernel_rfl) (by kernel_rfl) (by kernel_rfl) (by rw [huz]; exact run_stT 47 zB (bvs d1 h1) (.tmp 8) (.tmp 31) (by kernel_rfl) (by kernel_rfl) (by kernel_rfl) hAu6 rfl Tryz.sizeBo (bvs_one d1 h1)) ⟨hPWz, hPPz⟩ ?_)
          refine wpAnyH_done (by kernel_rfl) ?_ _
          have HR := hid (show ∃ (p : Nat) (d1 : BD) (h1 : BH), (.pointer (some ⟨pA, 0, none⟩) : Value) = .pointer (some ⟨p, 0, none⟩) ∧ CF uz p (bvs d1 h1) ∧ fallR2 d ts keep d1 ∧ BossO uz w2.heap.size d1 h1 ∧ w2.heap.size ≤ p ∧ CF uz (w.heap.size) [.int .i64 d.wk, .bool d.up, .int .i64 d.now, .int .i64 d.sn, .int .i64 d.ep, .int .i64 d.gv, .slice h.a1 d.L1.length h.c1, .slice h.a2 d.L2.length h.c2, .slice h.ar d.R.length h.cr, .slice h.aj d.J.length h.cj, .slice h.az d.S.length h.cs, .slice h.ao d.O.length h.co] ∧ CF uz (w.heap.size + 1) [.slice pa pn pc] ∧ Below w.heap.size w uz ∧ Below w2.heap.size w2 uz from ⟨pA, d1, h1, rfl, hcz, hF, hOz, hAb, hPWz, hPPz, hBz, hzz⟩)
          clear hcz hF hOz hPWz hPPz hBz hzz huz hgz hO1 hlo1
          go_wp2_with fail
          go_meet
          case rel => exact HR.out
      · have hPWu7 := hPWu1.block (Below.heap_alloc u1 (.cells zB.toArray 47) (w.heap.size) (by omega))
        have hPPu7 := hPPu1.block (Below.heap_alloc u1 (.cells zB.toArray 47) (w.heap.size + 1) (by omega))
        have hBu7 := hBu1.alloc hBu1.size (.cells zB.toArray 47)
        have hDu7 := hDu1.alloc hDu1.size (.cells zB.toArray 47)
        have hbbu7 : Below u1.heap.size u1 (u1.alloc (.cells zB.toArray 47)) := (Below.refl _ _).alloc (Nat.le_refl _) _
        have hAu7 := CF.made u1 zB.toArray 47
        have h2mu7 := h2mu1.below' hbbu7
        have hszu7 : (u1.alloc (.cells zB.toArray 47)).heap.size = u1.heap.size + 1 := by simp
        obtain ⟨pA, hpA⟩ : ∃ pA, pA = u1.heap.size := ⟨_, rfl⟩
        rw [← hpA] at hAu7 hszu7
        rw [← hpA]
        obtain ⟨u7, hu7⟩ : ∃ V, V = u1.alloc (.cells zB.toArray 47) := ⟨_, rfl⟩
        rw [← hu7] at hPWu7 hPPu7 hBu7 hDu7 hbbu7 hAu7 hszu7 h2mu7
        have eu7 : (.alloc u1 (.cells #[.int .i64 0, .bool false, .int .i64 0, .int .i64 0, .int .i64 0, .int .i64 0, .slice none 0 0, .slice none 0 0, .slice none 0 0, .slice none 0 0, .slice none 0 0, .slice none 0 0] 47) : World) = u7 := hu7.symm
        rw [eu7]
        clear hu7 eu7
        have hzu7 : w2.heap.size ≤ u7.heap.size := Nat.le_trans hzu1 hbbu7.size
        have hlu7 : w.heap.size + 1 < u7.heap.size := Nat.lt_of_lt_of_le hlu1 hbbu7.size
        have hAlu7 : pA < u7.heap.size := by omega
        have hAb : w2.heap.size ≤ pA := by omega
        have HPA := hid hpA
        clear hpA
        refine hOne (by kernel_rfl) (hCall (i := 3) (d := some 29) (f := 20) (args := #[.agg #[.slice pa pn pc]]) (l' := #[true, true, true, true, true, false, true, false]) (R := fun v w' => ∃ g, v = .agg #[.slice (some ⟨g, 0, none⟩) pn pn] ∧ TasksAt w' (some ⟨g, 0, none⟩) g 0 pn ts ∧ Below u7.heap.size u7 w') rfl (by kernel_rfl) (by kernel_rfl) (by kernel_rfl) (run_cl1 _ _ rfl (by kernel_rfl) rfl enter_toP) ((toPlan_any pa pb po pn pc ts _ (hp.below' hBu7) hpn).mono fun _ _ ⟨g, xs, he, _, _, ht, hb⟩ => ⟨_, he, g, rfl, ht, hb⟩) ?_)
        rintro _ u8 ⟨g3, rfl, ht3, hbu8⟩
        have hPWu8 := hPWu7.block (hbu8.block (w.heap.size) (by omega))
        have hPPu8 := hPPu7.block (hbu8.block (w.heap.size + 1) (by omega))
        have hBu8 := hBu7.trans (hbu8.mono hBu7.size)
        have hzu8 : w2.heap.size ≤ u8.heap.size := Nat.le_trans hzu7 hbu8.size
        have hlu8 : w.heap.size + 1 < u8.heap.size := Nat.lt_of_lt_of_le hlu7 hbu8.size
        have hDu8 := hDu7.trans (hbu8.mono hzu7)
        have h2mu8 := h2mu7.below' hbu8
        have ht3u8 := ht3
        have hAu8 := hAu7.block (hbu8.block pA (by omega))
        have hAlu8 : pA < u8.heap.size := Nat.lt_of_lt_of_le hAlu7 hbu8.size
        refine ⟨⟨hPWu8, hPPu8⟩, ?_⟩
        refine hOne (by kernel_rfl) (hCall (i := 5) (d := some 31) (f := 18) (args := #[.agg (bvs d h2).toArray, .agg #[.slice (some ⟨g3, 0, none⟩) pn pn], .int .i64 keep]) (l' := #[true, true, true, true, true, true, true, false]) (R := fun v w' => ∃ d1 h1, v = .agg (bvs d1 h1).toArray ∧ BossO w' u8.heap.size d1 h1 ∧ fallR2 d ts keep d1 ∧ Below u8.heap.size u8 w') rfl (by kernel_rfl) (by kernel_rfl) (by kernel_rfl) (run_cl3 _ _ _ _ rfl (by kernel_rfl) (by kernel_rfl) (by kernel_rfl) rfl enter_sFall) ((sFallB_any d h2 _ g3 0 pn pn ts keep _ g2 HA2.out hc2 h2mu8 ht3u8 hs).mono fun e _ ⟨⟨d1, ⟨h1, he, ho⟩, hf⟩, hb⟩ => ⟨_, he, d1, h1, rfl, ho, hf, hb⟩) ?_)
        rintro _ u9 ⟨d1, h1, rfl, hO1, hF, hbu9⟩
        have hPWu9 := hPWu8.block (hbu9.block (w.heap.size) (by omega))
        have hPPu9 := hPPu8.block (hbu9.block (w.heap.size + 1) (by omega))
        have hBu9 := hBu8.trans (hbu9.mono hBu8.size)
        have hzu9 : w2.heap.size ≤ u9.heap.size := Nat.le_trans hzu8 hbu9.size
        have hlu9 : w.heap.size + 1 < u9.heap.size := Nat.lt_of_lt_of_le hlu8 hbu9.size
        have hDu9 := hDu8.trans (hbu9.mono hzu8)
        have h2mu9 := h2mu8.below' hbu9
        have hlo1 := hO1.lo
        have hO1 := hO1.mono hzu8
        have hAu9 := hAu8.block (hbu9.block pA (by omega))
        have hAlu9 : pA < u9.heap.size := Nat.lt_of_lt_of_le hAlu8 hbu9.size
        refine ⟨⟨hPWu9, hPPu9⟩, ?_⟩
        obtain ⟨uz, huz⟩ : ∃ uz, uz = u9.setCells pA 0 (bvs d1 h1) := ⟨_, rfl⟩
        have hcz : CF uz pA (bvs d1 h1) := by rw [huz]; exact hAu9.stored rfl
        have hgz : u9.grownBy uz (some pA) := by rw [huz]; exact grown_setCells _ _ _ _ _ (World.grownBy.refl _ _)
        have hPWz := hPWu9.block (hgz.block (w.heap.size) (by omega) (by simp; omega))
        have hPPz := hPPu9.block (hgz.block (w.heap.size + 1) (by omega) (by simp; omega))
        have hBz := below_grown hBu9 hgz (by omega) (fun k hk => by simp at hk; omega)
        have hOz := hO1.grew (Grew.of hgz) (fun r hr q hq r' hr' e => by
          obtain rfl := List.mem_singleton.1 hr
          injection hq with hq
          have h5 := hlo1 r' hr' q e
          have h6 := HPA.out
          omega)
        have hzz := below_grown hDu9 hgz (by omega) (fun k hk => by simp at hk; omega)
        refine hOne (by kernel_rfl) (hSkip (i := 7) (w' := uz) (l' := #[true, true, true, true, true, true, true, true]) rfl (by kernel_rfl) (by kernel_rfl) (by kernel_rfl) (by rw [huz]; exact run_stT 47 zB (bvs d1 h1) (.tmp 8) (.tmp 31) (by kernel_rfl) (by kernel_rfl) (by kernel_rfl) hAu9 rfl Tryz.sizeBo (bvs_one d1 h1)) ⟨hPWz, hPPz⟩ ?_)
        refine wpAnyH_done (by kernel_rfl) ?_ _
        have HR := hid (show ∃ (p : Nat) (d1 : BD) (h1 : BH), (.pointer (some ⟨pA, 0, none⟩) : Value) = .pointer (some ⟨p, 0, none⟩) ∧ CF uz p (bvs d1 h1) ∧ fallR2 d ts keep d1 ∧ BossO uz w2.heap.size d1 h1 ∧ w2.heap.size ≤ p ∧ CF uz (w.heap.size) [.int .i64 d.wk, .bool d.up, .int .i64 d.now, .int .i64 d.sn, .int .i64 d.ep, .int .i64 d.gv, .slice h.a1 d.L1.length h.c1, .slice h.a2 d.L2.length h.c2, .slice h.ar d.R.length h.cr, .slice h.aj d.J.length h.cj, .slice h.az d.S.length h.cs, .slice h.ao d.O.length h.co] ∧ CF uz (w.heap.size + 1) [.slice pa pn pc] ∧ Below w.heap.size w uz ∧ Below w2.heap.size w2 uz from ⟨pA, d1, h1, rfl, hcz, hF, hOz, hAb, hPWz, hPPz, hBz, hzz⟩)
        clear hcz hF hOz hPWz hPPz hBz hzz huz hgz hO1 hlo1
        go_wp2_with fail
        go_meet
        case rel => exact HR.out
    · have hPWu10 := hPWu0.block (Below.heap_alloc u0 (.cells zB.toArray 47) (w.heap.size) (by omega))
      have hPPu10 := hPPu0.block (Below.heap_alloc u0 (.cells zB.toArray 47) (w.heap.size + 1) (by omega))
      have hBu10 := hBu0.alloc hBu0.size (.cells zB.toArray 47)
      have hDu10 := hDu0.alloc hDu0.size (.cells zB.toArray 47)
      have hbbu10 : Below u0.heap.size u0 (u0.alloc (.cells zB.toArray 47)) := (Below.refl _ _).alloc (Nat.le_refl _) _
      have hAu10 := CF.made u0 zB.toArray 47
      have hszu10 : (u0.alloc (.cells zB.toArray 47)).heap.size = u0.heap.size + 1 := by simp
      obtain ⟨pA, hpA⟩ : ∃ pA, pA = u0.heap.size := ⟨_, rfl⟩
      rw [← hpA] at hAu10 hszu10
      rw [← hpA]
      obtain ⟨u10, hu10⟩ : ∃ V, V = u0.alloc (.cells zB.toArray 47) := ⟨_, rfl⟩
      rw [← hu10] at hPWu10 hPPu10 hBu10 hDu10 hbbu10 hAu10 hszu10
      have eu10 : (.alloc u0 (.cells #[.int .i64 0, .bool false, .int .i64 0, .int .i64 0, .int .i64 0, .int .i64 0, .slice none 0 0, .slice none 0 0, .slice none 0 0, .slice none 0 0, .slice none 0 0, .slice none 0 0] 47) : World) = u10 := hu10.symm
      rw [eu10]
      clear hu10 eu10
      have hzu10 : w2.heap.size ≤ u10.heap.size := Nat.le_trans hzu0 hbbu10.size
      have hlu10 : w.heap.size + 1 < u10.heap.size := Nat.lt_of_lt_of_le hlu0 hbbu10.size
      have hAlu10 : pA < u10.heap.size := by omega
      have hAb : w2.heap.size ≤ pA := by omega
      have HPA := hid hpA
      clear hpA
      refine hOne (by kernel_rfl) (hCall (i := 1) (d := some 27) (f := 19) (args := #[.agg (bvs d h).toArray]) (l' := #[true, true, true, false, true, false, true, false]) (R := fun v w' => ∃ h2 g2, v = .agg (bvs d h2).toArray ∧ BossO w' u10.heap.size d h2 ∧ h2.a2 = some ⟨g2, 0, none⟩ ∧ d.L2.length ≤ h2.c2 ∧ Below u10.heap.size u10 w') rfl (by kernel_rfl) (by kernel_rfl) (by kernel_rfl) (run_cl1 _ _ rfl (by kernel_rfl) rfl enter_toB) ((toBossO_any d h _ (hM.below' hBu10) hs).mono fun _ _ ⟨⟨h2, g2, he, ho, ha, hc⟩, hb⟩ => ⟨_, he, h2, g2, rfl, ho, ha, hc, hb⟩) ?_)
      rintro _ u11 ⟨h2, g2, rfl, ho2, ha2, hc2, hbu11⟩
      have hPWu11 := hPWu10.block (hbu11.block (w.heap.size) (by omega))
      have hPPu11 := hPPu10.block (hbu11.block (w.heap.size + 1) (by omega))
      have hBu11 := hBu10.trans (hbu11.mono hBu10.size)
      have hzu11 : w2.heap.size ≤ u11.heap.size := Nat.le_trans hzu10 hbu11.size
      have hlu11 : w.heap.size + 1 < u11.heap.size := Nat.lt_of_lt_of_le hlu10 hbu11.size
      have hDu11 := hDu10.trans (hbu11.mono hzu10)
      have h2mu11 := ho2.m hfit
      have HA2 := hid ha2
      clear ho2 ha2
      have hAu11 := hAu10.block (hbu11.block pA (by omega))
      have hAlu11 : pA < u11.heap.size := Nat.lt_of_lt_of_le hAlu10 hbu11.size
      refine ⟨⟨hPWu11, hPPu11⟩, ?_⟩
      refine hOne (by kernel_rfl) (hCall (i := 3) (d := some 29) (f := 20) (args := #[.agg #[.slice pa pn pc]]) (l' := #[true, true, true, true, true, false, true, false]) (R := fun v w' => ∃ g, v = .agg #[.slice (some ⟨g, 0, none⟩) pn pn] ∧ TasksAt w' (some ⟨g, 0, none⟩) g 0 pn ts ∧ Below u11.heap.size u11 w') rfl (by kernel_rfl) (by kernel_rfl) (by kernel_rfl) (run_cl1 _ _ rfl (by kernel_rfl) rfl enter_toP) ((toPlan_any pa pb po pn pc ts _ (hp.below' hBu11) hpn).mono fun _ _ ⟨g, xs, he, _, _, ht, hb⟩ => ⟨_, he, g, rfl, ht, hb⟩) ?_)
      rintro _ u12 ⟨g3, rfl, ht3, hbu12⟩
      have hPWu12 := hPWu11.block (hbu12.block (w.heap.size) (by omega))
      have hPPu12 := hPPu11.block (hbu12.block (w.heap.size + 1) (by omega))
      have hBu12 := hBu11.trans (hbu12.mono hBu11.size)
      have hzu12 : w2.heap.size ≤ u12.heap.size := Nat.le_trans hzu11 hbu12.size
      have hlu12 : w.heap.size + 1 < u12.heap.size := Nat.lt_of_lt_of_le hlu11 hbu12.size
      have hDu12 := hDu11.trans (hbu12.mono hzu11)
      have h2mu12 := h2mu11.below' hbu12
      have ht3u12 := ht3
      have hAu12 := hAu11.block (hbu12.block pA (by omega))
      have hAlu12 : pA < u12.heap.size := Nat.lt_of_lt_of_le hAlu11 hbu12.size
      refine ⟨⟨hPWu12, hPPu12⟩, ?_⟩
      refine hOne (by kernel_rfl) (hCall (i := 5) (d := some 31) (f := 18) (args := #[.agg (bvs d h2).toArray, .agg #[.slice (some ⟨g3, 0, none⟩) pn pn], .int .i64 keep]) (l' := #[true, true, true, true, true, true, true, false]) (R := fun v w' => ∃ d1 h1, v = .agg (bvs d1 h1).toArray ∧ BossO w' u12.heap.size d1 h1 ∧ fallR2 d ts keep d1 ∧ Below u12.heap.size u12 w') rfl (by kernel_rfl) (by kernel_rfl) (by kernel_rfl) (run_cl3 _ _ _ _ rfl (by kernel_rfl) (by kernel_rfl) (by kernel_rfl) rfl enter_sFall) ((sFallB_any d h2 _ g3 0 pn pn ts keep _ g2 HA2.out hc2 h2mu12 ht3u12 hs).mono fun e _ ⟨⟨d1, ⟨h1, he, ho⟩, hf⟩, hb⟩ => ⟨_, he, d1, h1, rfl, ho, hf, hb⟩) ?_)
      rintro _ u13 ⟨d1, h1, rfl, hO1, hF, hbu13⟩
      have hPWu13 := hPWu12.block (hbu13.block (w.heap.size) (by omega))
      have hPPu13 := hPPu12.block (hbu13.block (w.heap.size + 1) (by omega))
      have hBu13 := hBu12.trans (hbu13.mono hBu12.size)
      have hzu13 : w2.heap.size ≤ u13.heap.size := Nat.le_trans hzu12 hbu13.size
      have hlu13 : w.heap.size + 1 < u13.heap.size := Nat.lt_of_lt_of_le hlu12 hbu13.size
      have hDu13 := hDu12.trans (hbu13.mono hzu12)
      have h2mu13 := h2mu12.below' hbu13
      have hlo1 := hO1.lo
      have hO1 := hO1.mono hzu12
      have hAu13 := hAu12.block (hbu13.block pA (by omega))
      have hAlu13 : pA < u13.heap.size := Nat.lt_of_lt_of_le hAlu12 hbu13.size
      refine ⟨⟨hPWu13, hPPu13⟩, ?_⟩
      obtain ⟨uz, huz⟩ : ∃ uz, uz = u13.setCells pA 0 (bvs d1 h1) := ⟨_, rfl⟩
      have hcz : CF uz pA (bvs d1 h1) := by rw [huz]; exact hAu13.stored rfl
      have hgz : u13.grownBy uz (some pA) := by rw [huz]; exact grown_setCells _ _ _ _ _ (World.grownBy.refl _ _)
      have hPWz := hPWu13.block (hgz.block (w.heap.size) (by omega) (by simp; omega))
      have hPPz := hPPu13.block (hgz.block (w.heap.size + 1) (by omega) (by simp; omega))
      have hBz := below_grown hBu13 hgz (by omega) (fun k hk => by simp at hk; omega)
      have hOz := hO1.grew (Grew.of hgz) (fun r hr q hq r' hr' e => by
        obtain rfl := List.mem_singleton.1 hr
        injection hq with hq
        have h5 := hlo1 r' hr' q e
        have h6 := HPA.out
        omega)
      have hzz := below_grown hDu13 hgz (by omega) (fun k hk => by simp at hk; omega)
      refine hOne (by kernel_rfl) (hSkip (i := 7) (w' := uz) (l' := #[true, true, true, true, true, true, true, true]) rfl (by kernel_rfl) (by kernel_rfl) (by kernel_rfl) (by rw [huz]; exact run_stT 47 zB (bvs d1 h1) (.tmp 8) (.tmp 31) (by kernel_rfl) (by kernel_rfl) (by kernel_rfl) hAu13 rfl Tryz.sizeBo (bvs_one d1 h1)) ⟨hPWz, hPPz⟩ ?_)
      refine wpAnyH_done (by kernel_rfl) ?_ _
      have HR := hid (show ∃ (p : Nat) (d1 : BD) (h1 : BH), (.pointer (some ⟨pA, 0, none⟩) : Value) = .pointer (some ⟨p, 0, none⟩) ∧ CF uz p (bvs d1 h1) ∧ fallR2 d ts keep d1 ∧ BossO uz w2.heap.size d1 h1 ∧ w2.heap.size ≤ p ∧ CF uz (w.heap.size) [.int .i64 d.wk, .bool d.up, .int .i64 d.now, .int .i64 d.sn, .int .i64 d.ep, .int .i64 d.gv, .slice h.a1 d.L1.length h.c1, .slice h.a2 d.L2.length h.c2, .slice h.ar d.R.length h.cr, .slice h.aj d.J.length h.cj, .slice h.az d.S.length h.cs, .slice h.ao d.O.length h.co] ∧ CF uz (w.heap.size + 1) [.slice pa pn pc] ∧ Below w.heap.size w uz ∧ Below w2.heap.size w2 uz from ⟨pA, d1, h1, rfl, hcz, hF, hOz, hAb, hPWz, hPPz, hBz, hzz⟩)
      clear hcz hF hOz hPWz hPPz hBz hzz huz hgz hO1 hlo1
      go_wp2_with fail
      go_meet
      case rel => exact HR.out
  case rest =>
    obtain ⟨wo, rfl⟩ : ∃ wo, wo = wc := ⟨_, rfl⟩
    obtain ⟨p, d1, h1, rfl, hX, hF, hO, hpb, hPW, hPP, hBwo, hzc⟩ := hcut
    have HF := hid hF
    have hs1 := hid (hF.small hs)
    have hf1 := hid (hF.fits hfit)
    have OV := hid hO
    have hhV := hid hO.lo
    have PW := hid hPW
    have PP := hid hPP
    have MW := hid (show CF wo p [.int .i64 d1.wk, .bool d1.up, .int .i64 d1.now, .int .i64 d1.sn, .int .i64 d1.ep, .int .i64 d1.gv, .slice h1.a1 d1.L1.length h1.c1, .slice h1.a2 d1.L2.length h1.c2, .slice h1.ar d1.R.length h1.cr, .slice h1.aj d1.J.length h1.cj, .slice h1.az d1.S.length h1.cs, .slice h1.ao d1.O.length h1.co] from hX)
    have hxl := hid MW.out.lt
    have hpl := hid hPP.lt
    have hpb' := hid hpb
    have hzc' := hid hzc.size
    clear hX hF hO hPW hPP hpb hzc
    have hBwoS := hid hBwo.size
    have c0 : wo.cell? ⟨w.heap.size, 0, none⟩ = some (.int .i64 d.wk) := (PW.out 0 (by simp)).1
    have c1 : wo.cell? ⟨w.heap.size, 1, none⟩ = some (.bool d.up) := (PW.out 1 (by simp)).1
    have c2 : wo.cell? ⟨w.heap.size, 2, none⟩ = some (.int .i64 d.now) := (PW.out 2 (by simp)).1
    have c3 : wo.cell? ⟨w.heap.size, 3, none⟩ = some (.int .i64 d.sn) := (PW.out 3 (by simp)).1
    have c4 : wo.cell? ⟨w.heap.size, 4, none⟩ = some (.int .i64 d.ep) := (PW.out 4 (by simp)).1
    have c5 : wo.cell? ⟨w.heap.size, 5, none⟩ = some (.int .i64 d.gv) := (PW.out 5 (by simp)).1
    have c6 : wo.cell? ⟨w.heap.size, 6, none⟩ = some (.slice h.a1 d.L1.length h.c1) := (PW.out 6 (by simp)).1
    have c7 : wo.cell? ⟨w.heap.size, 7, none⟩ = some (.slice h.a2 d.L2.length h.c2) := (PW.out 7 (by simp)).1
    have c8 : wo.cell? ⟨w.heap.size, 8, none⟩ = some (.slice h.ar d.R.length h.cr) := (PW.out 8 (by simp)).1
    have c9 : wo.cell? ⟨w.heap.size, 9, none⟩ = some (.slice h.aj d.J.length h.cj) := (PW.out 9 (by simp)).1
    have c10 : wo.cell? ⟨w.heap.size, 10, none⟩ = some (.slice h.az d.S.length h.cs) := (PW.out 10 (by simp)).1
    have c11 : wo.cell? ⟨w.heap.size, 11, none⟩ = some (.slice h.ao d.O.length h.co) := (PW.out 11 (by simp)).1
    go_wp2_with fail
    refine (toBossO_any d h _ (hM.below' hBwo) hs).mono ?_
    rintro e' w4 ⟨⟨h4, g4, he, ho4, -, -⟩, hb4⟩
    have he' : e' = .returned (.agg #[.int .i64 d.wk, .bool d.up, .int .i64 d.now, .int .i64 d.sn, .int .i64 d.ep, .int .i64 d.gv, .slice h4.a1 d.L1.length h4.c1, .slice h4.a2 d.L2.length h4.c2, .slice h4.ar d.R.length h4.cr, .slice h4.aj d.J.length h4.cj, .slice h4.az d.S.length h4.cs, .slice h4.ao d.O.length h4.co]) := he
    clear he
    subst he'
    have hlo4 := hid ho4.lo
    have OX := hid ho4
    clear ho4
    clear c0 c1 c2 c3 c4 c5 c6 c7 c8 c9 c10 c11
    have hBw4 := hBwo.trans (hb4.mono hBwo.size)
    have zw4 := hid (hb4.size)
    have PW_w4 := hid (PW.out.belowS hb4)
    clear PW
    have PP_w4 := hid (PP.out.belowS hb4)
    clear PP
    have MW_w4 := hid (MW.out.belowS hb4)
    clear MW
    have OV_w4 := hid (OV.out.below hb4)
    clear OV
    clear hb4 hBwo
    obtain ⟨W4, hW4⟩ : ∃ W4, W4 = w4.alloc (.cells #[.int .i64 d.wk, .bool d.up, .int .i64 d.now, .int .i64 d.sn, .int .i64 d.ep, .int .i64 d.gv, .slice h4.a1 d.L1.length h4.c1, .slice h4.a2 d.L2.length h4.c2, .slice h4.ar d.R.length h4.cr, .slice h4.aj d.J.length h4.cj, .slice h4.az d.S.length h4.cs, .slice h4.ao d.O.length h4.co] 47) := ⟨_, rfl⟩
    have hbaW4 : Below w4.heap.size w4 W4 := by rw [hW4]; exact (Below.refl _ _).alloc (Nat.le_refl _) _
    have qW4 := hid (show W4.heap.size = w4.heap.size + 1 by rw [hW4]; simp)
    have MX := hid (show CF W4 w4.heap.size [.int .i64 d.wk, .bool d.up, .int .i64 d.now, .int .i64 d.sn, .int .i64 d.ep, .int .i64 d.gv, .slice h4.a1 d.L1.length h4.c1, .slice h4.a2 d.L2.length h4.c2, .slice h4.ar d.R.length h4.cr, .slice h4.aj d.J.length h4.cj, .slice h4.az d.S.length h4.cs, .slice h4.ao d.O.length h4.co] by rw [hW4]; exact CF.made w4 #[.int .i64 d.wk, .bool d.up, .int .i64 d.now, .int .i64 d.sn, .int .i64 d.ep, .int .i64 d.gv, .slice h4.a1 d.L1.length h4.c1, .slice h4.a2 d.L2.length h4.c2, .slice h4.ar d.R.length h4.cr, .slice h4.aj d.J.length h4.cj, .slice h4.az d.S.length h4.cs, .slice h4.ao d.O.length h4.co] 47)
    have HW4 := hid hW4
    clear hW4
    have hBW4 := hBw4.trans (hbaW4.mono hBw4.size)
    have zW4 := hid (hbaW4.size)
    have PW_W4 := hid (PW_w4.out.belowS hbaW4)
    clear PW_w4
    have PP_W4 := hid (PP_w4.out.belowS hbaW4)
    clear PP_w4
    have MW_W4 := hid (MW_w4.out.belowS hbaW4)
    clear MW_w4
    have OV_W4 := hid (OV_w4.out.below hbaW4)
    clear OV_w4
    have OX_W4 := hid (OX.out.below hbaW4)
    clear OX
    clear hbaW4 hBw4
    go_upto_region 10 with fail
    rw [← HW4.out]
    clear HW4
    have c0 : W4.cell? ⟨w.heap.size + 1, 0, none⟩ = some (.slice pa pn pc) := (PP_W4.out 0 (by simp)).1
    go_wp2_with fail
    refine (toPlan_any pa pb po pn pc ts _ (hp.below' hBW4) hpn).mono ?_
    rintro e' w5 ⟨g5, xs5, rfl, ho5, hbu5, ht5, hb5⟩
    have hg5 := hid ho5.lo
    have hg5' := hid ho5.hi
    have h5t := hid ht5
    have SH := hid (hbu5.shape ho5 hp.len (by omega))
    clear ho5 hbu5 ht5
    clear c0
    have hBw5 := hBW4.trans (hb5.mono hBW4.size)
    have zw5 := hid (hb5.size)
    have PW_w5 := hid (PW_W4.out.belowS hb5)
    clear PW_W4
    have PP_w5 := hid (PP_W4.out.belowS hb5)
    clear PP_W4
    have MW_w5 := hid (MW_W4.out.belowS hb5)
    clear MW_W4
    have OV_w5 := hid (OV_W4.out.below hb5)
    clear OV_W4
    have OX_w5 := hid (OX_W4.out.below hb5)
    clear OX_W4
    have MX_w5 := hid (MX.out.belowS hb5)
    clear MX
    clear hb5 hBW4
    obtain ⟨W5, hW5⟩ : ∃ W5, W5 = w5.alloc (.cells #[.slice (some ⟨g5, 0, none⟩) pn pn] 41) := ⟨_, rfl⟩
    have hbaW5 : Below w5.heap.size w5 W5 := by rw [hW5]; exact (Below.refl _ _).alloc (Nat.le_refl _) _
    have qW5 := hid (show W5.heap.size = w5.heap.size + 1 by rw [hW5]; simp)
    have MP := hid (show CF W5 w5.heap.size [.slice (some ⟨g5, 0, none⟩) pn pn] by rw [hW5]; exact CF.made w5 #[.slice (some ⟨g5, 0, none⟩) pn pn] 41)
    have HW5 := hid hW5
    clear hW5
    have hBW5 := hBw5.trans (hbaW5.mono hBw5.size)
    have zW5 := hid (hbaW5.size)
    have PW_W5 := hid (PW_w5.out.belowS hbaW5)
    clear PW_w5
    have PP_W5 := hid (PP_w5.out.belowS hbaW5)
    clear PP_w5
    have MW_W5 := hid (MW_w5.out.belowS hbaW5)
    clear MW_w5
    have OV_W5 := hid (OV_w5.out.below hbaW5)
    clear OV_w5
    have OX_W5 := hid (OX_w5.out.below hbaW5)
    clear OX_w5
    have MX_W5 := hid (MX_w5.out.belowS hbaW5)
    clear MX_w5
    have h5t_W5 := hid (h5t.out.below' hbaW5)
    clear h5t
    have SH_W5 := hid (SH.out.below hbaW5)
    clear SH
    clear hbaW5 hBw5
    go_upto_region 11 with fail
    rw [← HW5.out]
    clear HW5
    have kq0 : W5.cell? ⟨w4.heap.size, 0, none⟩ = some (.int .i64 d.wk) := (MX_W5.out 0 (by simp)).1
    have kq1 : W5.cell? ⟨w4.heap.size, 1, none⟩ = some (.bool d.up) := (MX_W5.out 1 (by simp)).1
    have kq2 : W5.cell? ⟨w4.heap.size, 2, none⟩ = some (.int .i64 d.now) := (MX_W5.out 2 (by simp)).1
    have kq3 : W5.cell? ⟨w4.heap.size, 3, none⟩ = some (.int .i64 d.sn) := (MX_W5.out 3 (by simp)).1
    have kq4 : W5.cell? ⟨w4.heap.size, 4, none⟩ = some (.int .i64 d.ep) := (MX_W5.out 4 (by simp)).1
    have kq5 : W5.cell? ⟨w4.heap.size, 5, none⟩ = some (.int .i64 d.gv) := (MX_W5.out 5 (by simp)).1
    have kq6 : W5.cell? ⟨w4.heap.size, 6, none⟩ = some (.slice h4.a1 d.L1.length h4.c1) := (MX_W5.out 6 (by simp)).1
    have kq7 : W5.cell? ⟨w4.heap.size, 7, none⟩ = some (.slice h4.a2 d.L2.length h4.c2) := (MX_W5.out 7 (by simp)).1
    have kq8 : W5.cell? ⟨w4.heap.size, 8, none⟩ = some (.slice h4.ar d.R.length h4.cr) := (MX_W5.out 8 (by simp)).1
    have kq9 : W5.cell? ⟨w4.heap.size, 9, none⟩ = some (.slice h4.aj d.J.length h4.cj) := (MX_W5.out 9 (by simp)).1
    have kq10 : W5.cell? ⟨w4.heap.size, 10, none⟩ = some (.slice h4.az d.S.length h4.cs) := (MX_W5.out 10 (by simp)).1
    have kq11 : W5.cell? ⟨w4.heap.size, 11, none⟩ = some (.slice h4.ao d.O.length h4.co) := (MX_W5.out 11 (by simp)).1
    have c0 : W5.cell? ⟨w5.heap.size, 0, none⟩ = some (.slice (some ⟨g5, 0, none⟩) pn pn) := (MP.out 0 (by simp)).1
    go_wp2_with fail
    refine (iFallB_any d h4 _ g5 0 pn pn ts keep _ (OX_W5.out.m hfit) h5t_W5.out hs).mono ?_
    rintro e' w6 ⟨⟨d2, ⟨h6, he, ho6⟩, hF2⟩, hb6⟩
    obtain rfl := HF.out.uniq hF2
    have he' : e' = .returned (.agg #[.int .i64 d1.wk, .bool d1.up, .int .i64 d1.now, .int .i64 d1.sn, .int .i64 d1.ep, .int .i64 d1.gv, .slice h6.a1 d1.L1.length h6.c1, .slice h6.a2 d1.L2.length h6.c2, .slice h6.ar d1.R.length h6.cr, .slice h6.aj d1.J.length h6.cj, .slice h6.az d1.S.length h6.cs, .slice h6.ao d1.O.length h6.co]) := he
    clear he
    subst he'
    have hlo6 := hid ho6.lo
    have OG := hid ho6
    clear ho6 hF2
    clear kq0 kq1 kq2 kq3 kq4 kq5 kq6 kq7 kq8 kq9 kq10 kq11
    clear c0
    have hBw6 := hBW5.trans (hb6.mono hBW5.size)
    have zw6 := hid (hb6.size)
    have PW_w6 := hid (PW_W5.out.belowS hb6)
    clear PW_W5
    have PP_w6 := hid (PP_W5.out.belowS hb6)
    clear PP_W5
    have MW_w6 := hid (MW_W5.out.belowS hb6)
    clear MW_W5
    have OV_w6 := hid (OV_W5.out.below hb6)
    clear OV_W5
    have OX_w6 := hid (OX_W5.out.below hb6)
    clear OX_W5
    have MX_w6 := hid (MX_W5.out.belowS hb6)
    clear MX_W5
    have h5t_w6 := hid (h5t_W5.out.below' hb6)
    clear h5t_W5
    have SH_w6 := hid (SH_W5.out.below hb6)
    clear SH_W5
    have MP_w6 := hid (MP.out.belowS hb6)
    clear MP
    clear hb6 hBW5
    obtain ⟨W6, hW6⟩ : ∃ W6, W6 = w6.alloc (.cells #[.int .i64 d1.wk, .bool d1.up, .int .i64 d1.now, .int .i64 d1.sn, .int .i64 d1.ep, .int .i64 d1.gv, .slice h6.a1 d1.L1.length h6.c1, .slice h6.a2 d1.L2.length h6.c2, .slice h6.ar d1.R.length h6.cr, .slice h6.aj d1.J.length h6.cj, .slice h6.az d1.S.length h6.cs, .slice h6.ao d1.O.length h6.co] 47) := ⟨_, rfl⟩
    have hbaW6 : Below w6.heap.size w6 W6 := by rw [hW6]; exact (Below.refl _ _).alloc (Nat.le_refl _) _
    have qW6 := hid (show W6.heap.size = w6.heap.size + 1 by rw [hW6]; simp)
    have MG := hid (show CF W6 w6.heap.size [.int .i64 d1.wk, .bool d1.up, .int .i64 d1.now, .int .i64 d1.sn, .int .i64 d1.ep, .int .i64 d1.gv, .slice h6.a1 d1.L1.length h6.c1, .slice h6.a2 d1.L2.length h6.c2, .slice h6.ar d1.R.length h6.cr, .slice h6.aj d1.J.length h6.cj, .slice h6.az d1.S.length h6.cs, .slice h6.ao d1.O.length h6.co] by rw [hW6]; exact CF.made w6 #[.int .i64 d1.wk, .bool d1.up, .int .i64 d1.now, .int .i64 d1.sn, .int .i64 d1.ep, .int .i64 d1.gv, .slice h6.a1 d1.L1.length h6.c1, .slice h6.a2 d1.L2.length h6.c2, .slice h6.ar d1.R.length h6.cr, .slice h6.aj d1.J.length h6.cj, .slice h6.az d1.S.length h6.cs, .slice h6.ao d1.O.length h6.co] 47)
    have HW6 := hid hW6
    clear hW6
    have hBW6 := hBw6.trans (hbaW6.mono hBw6.size)
    have zW6 := hid (hbaW6.size)
    have PW_W6 := hid (PW_w6.out.belowS hbaW6)
    clear PW_w6
    have PP_W6 := hid (PP_w6.out.belowS hbaW6)
    clear PP_w6
    have MW_W6 := hid (MW_w6.out.belowS hbaW6)
    clear MW_w6
    have OV_W6 := hid (OV_w6.out.below hbaW6)
    clear OV_w6
    have OX_W6 := hid (OX_w6.out.below hbaW6)
    clear OX_w6
    have MX_W6 := hid (MX_w6.out.belowS hbaW6)
    clear MX_w6
    have h5t_W6 := hid (h5t_w6.out.below' hbaW6)
    clear h5t_w6
    have SH_W6 := hid (SH_w6.out.below hbaW6)
    clear SH_w6
    have MP_W6 := hid (MP_w6.out.belowS hbaW6)
    clear MP_w6
    have OG_W6 := hid (OG.out.below hbaW6)
    clear OG
    clear hbaW6 hBw6
    go_upto_region 12 with fail
    rw [← HW6.out]
    clear HW6
    have c0 : W6.cell? ⟨w6.heap.size, 0, none⟩ = some (.int .i64 d1.wk) := (MG.out 0 (by simp)).1
    have c1 : W6.cell? ⟨w6.heap.size, 1, none⟩ = some (.bool d1.up) := (MG.out 1 (by simp)).1
    have c2 : W6.cell? ⟨w6.heap.size, 2, none⟩ = some (.int .i64 d1.now) := (MG.out 2 (by simp)).1
    have c3 : W6.cell? ⟨w6.heap.size, 3, none⟩ = some (.int .i64 d1.sn) := (MG.out 3 (by simp)).1
    have c4 : W6.cell? ⟨w6.heap.size, 4, none⟩ = some (.int .i64 d1.ep) := (MG.out 4 (by simp)).1
    have c5 : W6.cell? ⟨w6.heap.size, 5, none⟩ = some (.int .i64 d1.gv) := (MG.out 5 (by simp)).1
    have c6 : W6.cell? ⟨w6.heap.size, 6, none⟩ = some (.slice h6.a1 d1.L1.length h6.c1) := (MG.out 6 (by simp)).1
    have c7 : W6.cell? ⟨w6.heap.size, 7, none⟩ = some (.slice h6.a2 d1.L2.length h6.c2) := (MG.out 7 (by simp)).1
    have c8 : W6.cell? ⟨w6.heap.size, 8, none⟩ = some (.slice h6.ar d1.R.length h6.cr) := (MG.out 8 (by simp)).1
    have c9 : W6.cell? ⟨w6.heap.size, 9, none⟩ = some (.slice h6.aj d1.J.length h6.cj) := (MG.out 9 (by simp)).1
    have c10 : W6.cell? ⟨w6.heap.size, 10, none⟩ = some (.slice h6.az d1.S.length h6.cs) := (MG.out 10 (by simp)).1
    have c11 : W6.cell? ⟨w6.heap.size, 11, none⟩ = some (.slice h6.ao d1.O.length h6.co) := (MG.out 11 (by simp)).1
    have kq0 : W6.cell? ⟨p, 0, none⟩ = some (.int .i64 d1.wk) := (MW_W6.out 0 (by simp)).1
    have kq1 : W6.cell? ⟨p, 1, none⟩ = some (.bool d1.up) := (MW_W6.out 1 (by simp)).1
    have kq2 : W6.cell? ⟨p, 2, none⟩ = some (.int .i64 d1.now) := (MW_W6.out 2 (by simp)).1
    have kq3 : W6.cell? ⟨p, 3, none⟩ = some (.int .i64 d1.sn) := (MW_W6.out 3 (by simp)).1
    have kq4 : W6.cell? ⟨p, 4, none⟩ = some (.int .i64 d1.ep) := (MW_W6.out 4 (by simp)).1
    have kq5 : W6.cell? ⟨p, 5, none⟩ = some (.int .i64 d1.gv) := (MW_W6.out 5 (by simp)).1
    have kq6 : W6.cell? ⟨p, 6, none⟩ = some (.slice h1.a1 d1.L1.length h1.c1) := (MW_W6.out 6 (by simp)).1
    have kq7 : W6.cell? ⟨p, 7, none⟩ = some (.slice h1.a2 d1.L2.length h1.c2) := (MW_W6.out 7 (by simp)).1
    have kq8 : W6.cell? ⟨p, 8, none⟩ = some (.slice h1.ar d1.R.length h1.cr) := (MW_W6.out 8 (by simp)).1
    have kq9 : W6.cell? ⟨p, 9, none⟩ = some (.slice h1.aj d1.J.length h1.cj) := (MW_W6.out 9 (by simp)).1
    have kq10 : W6.cell? ⟨p, 10, none⟩ = some (.slice h1.az d1.S.length h1.cs) := (MW_W6.out 10 (by simp)).1
    have kq11 : W6.cell? ⟨p, 11, none⟩ = some (.slice h1.ao d1.O.length h1.co) := (MW_W6.out 11 (by simp)).1
    go_wp2_with fail
    refine (eqBossO_any d1 h6 h1 _ (OG_W6.out.m hf1.out) (OV_W6.out.m hf1.out)).mono ?_
    rintro e' w7 ⟨rfl, hb⟩
    clear c0 c1 c2 c3 c4 c5 c6 c7 c8 c9 c10 c11
    clear kq0 kq1 kq2 kq3 kq4 kq5 kq6 kq7 kq8 kq9 kq10 kq11
    have hBw7 := hBW6.trans (hb.mono hBW6.size)
    have zw7 := hid (hb.size)
    have PW_w7 := hid (PW_W6.out.belowS hb)
    clear PW_W6
    have PP_w7 := hid (PP_W6.out.belowS hb)
    clear PP_W6
    have MW_w7 := hid (MW_W6.out.belowS hb)
    clear MW_W6
    have OV_w7 := hid (OV_W6.out.below hb)
    clear OV_W6
    have OX_w7 := hid (OX_W6.out.below hb)
    clear OX_W6
    have MX_w7 := hid (MX_W6.out.belowS hb)
    clear MX_W6
    have h5t_w7 := hid (h5t_W6.out.below' hb)
    clear h5t_W6
    have SH_w7 := hid (SH_W6.out.below hb)
    clear SH_W6
    have MP_w7 := hid (MP_W6.out.belowS hb)
    clear MP_W6
    have OG_w7 := hid (OG_W6.out.below hb)
    clear OG_W6
    have MG_w7 := hid (MG.out.belowS hb)
    clear MG
    clear hb hBW6
    have c0 : w7.cell? ⟨w.heap.size, 0, none⟩ = some (.int .i64 d.wk) := (PW_w7.out 0 (by simp)).1
    have c1 : w7.cell? ⟨w.heap.size, 1, none⟩ = some (.bool d.up) := (PW_w7.out 1 (by simp)).1
    have c2 : w7.cell? ⟨w.heap.size, 2, none⟩ = some (.int .i64 d.now) := (PW_w7.out 2 (by simp)).1
    have c3 : w7.cell? ⟨w.heap.size, 3, none⟩ = some (.int .i64 d.sn) := (PW_w7.out 3 (by simp)).1
    have c4 : w7.cell? ⟨w.heap.size, 4, none⟩ = some (.int .i64 d.ep) := (PW_w7.out 4 (by simp)).1
    have c5 : w7.cell? ⟨w.heap.size, 5, none⟩ = some (.int .i64 d.gv) := (PW_w7.out 5 (by simp)).1
    have c6 : w7.cell? ⟨w.heap.size, 6, none⟩ = some (.slice h.a1 d.L1.length h.c1) := (PW_w7.out 6 (by simp)).1
    have c7 : w7.cell? ⟨w.heap.size, 7, none⟩ = some (.slice h.a2 d.L2.length h.c2) := (PW_w7.out 7 (by simp)).1
    have c8 : w7.cell? ⟨w.heap.size, 8, none⟩ = some (.slice h.ar d.R.length h.cr) := (PW_w7.out 8 (by simp)).1
    have c9 : w7.cell? ⟨w.heap.size, 9, none⟩ = some (.slice h.aj d.J.length h.cj) := (PW_w7.out 9 (by simp)).1
    have c10 : w7.cell? ⟨w.heap.size, 10, none⟩ = some (.slice h.az d.S.length h.cs) := (PW_w7.out 10 (by simp)).1
    have c11 : w7.cell? ⟨w.heap.size, 11, none⟩ = some (.slice h.ao d.O.length h.co) := (PW_w7.out 11 (by simp)).1
    have kq0 : w7.cell? ⟨w4.heap.size, 0, none⟩ = some (.int .i64 d.wk) := (MX_w7.out 0 (by simp)).1
    have kq1 : w7.cell? ⟨w4.heap.size, 1, none⟩ = some (.bool d.up) := (MX_w7.out 1 (by simp)).1
    have kq2 : w7.cell? ⟨w4.heap.size, 2, none⟩ = some (.int .i64 d.now) := (MX_w7.out 2 (by simp)).1
    have kq3 : w7.cell? ⟨w4.heap.size, 3, none⟩ = some (.int .i64 d.sn) := (MX_w7.out 3 (by simp)).1
    have kq4 : w7.cell? ⟨w4.heap.size, 4, none⟩ = some (.int .i64 d.ep) := (MX_w7.out 4 (by simp)).1
    have kq5 : w7.cell? ⟨w4.heap.size, 5, none⟩ = some (.int .i64 d.gv) := (MX_w7.out 5 (by simp)).1
    have kq6 : w7.cell? ⟨w4.heap.size, 6, none⟩ = some (.slice h4.a1 d.L1.length h4.c1) := (MX_w7.out 6 (by simp)).1
    have kq7 : w7.cell? ⟨w4.heap.size, 7, none⟩ = some (.slice h4.a2 d.L2.length h4.c2) := (MX_w7.out 7 (by simp)).1
    have kq8 : w7.cell? ⟨w4.heap.size, 8, none⟩ = some (.slice h4.ar d.R.length h4.cr) := (MX_w7.out 8 (by simp)).1
    have kq9 : w7.cell? ⟨w4.heap.size, 9, none⟩ = some (.slice h4.aj d.J.length h4.cj) := (MX_w7.out 9 (by simp)).1
    have kq10 : w7.cell? ⟨w4.heap.size, 10, none⟩ = some (.slice h4.az d.S.length h4.cs) := (MX_w7.out 10 (by simp)).1
    have kq11 : w7.cell? ⟨w4.heap.size, 11, none⟩ = some (.slice h4.ao d.O.length h4.co) := (MX_w7.out 11 (by simp)).1
    go_wp2
    have hBd := hBw7.drew
    have hd6 := hM.below' hBd
    have hdp6 := hp.below' hBd
    have PWd := hid (show CF w7.drew (w.heap.size) [.int .i64 d.wk, .bool d.up, .int .i64 d.now, .int .i64 d.sn, .int .i64 d.ep, .int .i64 d.gv, .slice h.a1 d.L1.length h.c1, .slice h.a2 d.L2.length h.c2, .slice h.ar d.R.length h.cr, .slice h.aj d.J.length h.cj, .slice h.az d.S.length h.cs, .slice h.ao d.O.length h.co] from PW_w7.out)
    clear PW_w7
    have PPd := hid (show CF w7.drew (w.heap.size + 1) [.slice pa pn pc] from PP_w7.out)
    clear PP_w7
    have MWd := hid (show CF w7.drew (p) [.int .i64 d1.wk, .bool d1.up, .int .i64 d1.now, .int .i64 d1.sn, .int .i64 d1.ep, .int .i64 d1.gv, .slice h1.a1 d1.L1.length h1.c1, .slice h1.a2 d1.L2.length h1.c2, .slice h1.ar d1.R.length h1.cr, .slice h1.aj d1.J.length h1.cj, .slice h1.az d1.S.length h1.cs, .slice h1.ao d1.O.length h1.co] from MW_w7.out)
    clear MW_w7
    have OVd := hid (OV_w7.out.below (Below.refl _ _).drew)
    clear OV_w7
    have OXd := hid (OX_w7.out.below (Below.refl _ _).drew)
    clear OX_w7
    have MXd := hid (show CF w7.drew (w4.heap.size) [.int .i64 d.wk, .bool d.up, .int .i64 d.now, .int .i64 d.sn, .int .i64 d.ep, .int .i64 d.gv, .slice h4.a1 d.L1.length h4.c1, .slice h4.a2 d.L2.length h4.c2, .slice h4.ar d.R.length h4.cr, .slice h4.aj d.J.length h4.cj, .slice h4.az d.S.length h4.cs, .slice h4.ao d.O.length h4.co] from MX_w7.out)
    clear MX_w7
    have h5td := hid (h5t_w7.out.below' (Below.refl _ _).drew)
    clear h5t_w7
    have SHd := hid (SH_w7.out.below (Below.refl _ _).drew)
    clear SH_w7
    have MPd := hid (show CF w7.drew (w5.heap.size) [.slice (some ⟨g5, 0, none⟩) pn pn] from MP_w7.out)
    clear MP_w7
    have OGd := hid (OG_w7.out.below (Below.refl _ _).drew)
    clear OG_w7
    have MGd := hid (show CF w7.drew (w6.heap.size) [.int .i64 d1.wk, .bool d1.up, .int .i64 d1.now, .int .i64 d1.sn, .int .i64 d1.ep, .int .i64 d1.gv, .slice h6.a1 d1.L1.length h6.c1, .slice h6.a2 d1.L2.length h6.c2, .slice h6.ar d1.R.length h6.cr, .slice h6.aj d1.J.length h6.cj, .slice h6.az d1.S.length h6.cs, .slice h6.ao d1.O.length h6.co] from MG_w7.out)
    clear MG_w7
    go_region_held3 (fun w' => w'.cell? ⟨w.heap.size, 0, none⟩ = some (.int .i64 d.wk) ∧ w'.cell? ⟨w.heap.size, 1, none⟩ = some (.bool d.up) ∧ w'.cell? ⟨w.heap.size, 2, none⟩ = some (.int .i64 d.now) ∧ w'.cell? ⟨w.heap.size, 3, none⟩ = some (.int .i64 d.sn) ∧ w'.cell? ⟨w.heap.size, 4, none⟩ = some (.int .i64 d.ep) ∧ w'.cell? ⟨w.heap.size, 5, none⟩ = some (.int .i64 d.gv) ∧ w'.cell? ⟨w.heap.size, 6, none⟩ = some (.slice h.a1 d.L1.length h.c1) ∧ w'.cell? ⟨w.heap.size, 7, none⟩ = some (.slice h.a2 d.L2.length h.c2) ∧ w'.cell? ⟨w.heap.size, 8, none⟩ = some (.slice h.ar d.R.length h.cr) ∧ w'.cell? ⟨w.heap.size, 9, none⟩ = some (.slice h.aj d.J.length h.cj) ∧ w'.cell? ⟨w.heap.size, 10, none⟩ = some (.slice h.az d.S.length h.cs) ∧ w'.cell? ⟨w.heap.size, 11, none⟩ = some (.slice h.ao d.O.length h.co) ∧ w'.cell? ⟨w4.heap.size, 0, none⟩ = some (.int .i64 d.wk) ∧ w'.cell? ⟨w4.heap.size, 1, none⟩ = some (.bool d.up) ∧ w'.cell? ⟨w4.heap.size, 2, none⟩ = some (.int .i64 d.now) ∧ w'.cell? ⟨w4.heap.size, 3, none⟩ = some (.int .i64 d.sn) ∧ w'.cell? ⟨w4.heap.size, 4, none⟩ = some (.int .i64 d.ep) ∧ w'.cell? ⟨w4.heap.size, 5, none⟩ = some (.int .i64 d.gv) ∧ w'.cell? ⟨w4.heap.size, 6, none⟩ = some (.slice h4.a1 d.L1.length h4.c1) ∧ w'.cell? ⟨w4.heap.size, 7, none⟩ = some (.slice h4.a2 d.L2.length h4.c2) ∧ w'.cell? ⟨w4.heap.size, 8, none⟩ = some (.slice h4.ar d.R.length h4.cr) ∧ w'.cell? ⟨w4.heap.size, 9, none⟩ = some (.slice h4.aj d.J.length h4.cj) ∧ w'.cell? ⟨w4.heap.size, 10, none⟩ = some (.slice h4.az d.S.length h4.cs) ∧ w'.cell? ⟨w4.heap.size, 11, none⟩ = some (.slice h4.ao d.O.length h4.co)) (first | (simp [go_sem, *]; done) | assumption)
      (first
        | (go_at_call 19; refine (toBossO_any d h _ hd6 hs).mono ?_; rintro e' w8 ⟨⟨h8, g8, he, ho8, -, -⟩, hb7⟩; have he' : e' = .returned (.agg #[.int .i64 d.wk, .bool d.up, .int .i64 d.now, .int .i64 d.sn, .int .i64 d.ep, .int .i64 d.gv, .slice h8.a1 d.L1.length h8.c1, .slice h8.a2 d.L2.length h8.c2, .slice h8.ar d.R.length h8.cr, .slice h8.aj d.J.length h8.cj, .slice h8.az d.S.length h8.cs, .slice h8.ao d.O.length h8.co]) := he; clear he; subst he'; have y0 := keepC hb7 c0; have y1 := keepC hb7 c1; have y2 := keepC hb7 c2; have y3 := keepC hb7 c3; have y4 := keepC hb7 c4; have y5 := keepC hb7 c5; have y6 := keepC hb7 c6; have y7 := keepC hb7 c7; have y8 := keepC hb7 c8; have y9 := keepC hb7 c9; have y10 := keepC hb7 c10; have y11 := keepC hb7 c11; have t0 := keepC hb7 kq0; have t1 := keepC hb7 kq1; have t2 := keepC hb7 kq2; have t3 := keepC hb7 kq3; have t4 := keepC hb7 kq4; have t5 := keepC hb7 kq5; have t6 := keepC hb7 kq6; have t7 := keepC hb7 kq7; have t8 := keepC hb7 kq8; have t9 := keepC hb7 kq9; have t10 := keepC hb7 kq10; have t11 := keepC hb7 kq11; have hB7 := hBd.trans (hb7.mono hBd.size); have zw8 := hid (show w7.heap.size ≤ w8.heap.size from hb7.size); have PWe := hid (PWd.out.belowS hb7); have PPe := hid (PPd.out.belowS hb7); have MWe := hid (MWd.out.belowS hb7); have OVe := hid (OVd.out.below hb7); have OXe := hid (OXd.out.below hb7); have MXe := hid (MXd.out.belowS hb7); have h5te := hid (h5td.out.below' hb7); have SHe := hid (SHd.out.below hb7); have MPe := hid (MPd.out.belowS hb7); have OGe := hid (OGd.out.below hb7); have MGe := hid (MGd.out.belowS hb7))
        | (go_at_call 22; refine (eqBossO_any d h4 h8 _ (OXe.out.m hfit) (ho8.m hfit)).mono ?_; rintro e' w9 ⟨rfl, hb8⟩; have y0a := keepB hb8 y0; have y1a := keepB hb8 y1; have y2a := keepB hb8 y2; have y3a := keepB hb8 y3; have y4a := keepB hb8 y4; have y5a := keepB hb8 y5; have y6a := keepB hb8 y6; have y7a := keepB hb8 y7; have y8a := keepB hb8 y8; have y9a := keepB hb8 y9; have y10a := keepB hb8 y10; have y11a := keepB hb8 y11; have t0a := keepB hb8 t0; have t1a := keepB hb8 t1; have t2a := keepB hb8 t2; have t3a := keepB hb8 t3; have t4a := keepB hb8 t4; have t5a := keepB hb8 t5; have t6a := keepB hb8 t6; have t7a := keepB hb8 t7; have t8a := keepB hb8 t8; have t9a := keepB hb8 t9; have t10a := keepB hb8 t10; have t11a := keepB hb8 t11; have hBw9 := hB7.trans (hb8.mono hB7.size); have zw9 := hid hb8.size; have PWf := hid (PWe.out.belowS hb8); have PPf := hid (PPe.out.belowS hb8); have MWf := hid (MWe.out.belowS hb8); have OVf := hid (OVe.out.below hb8); have OXf := hid (OXe.out.below hb8); have MXf := hid (MXe.out.belowS hb8); have h5tf := hid (h5te.out.below' hb8); have SHf := hid (SHe.out.below hb8); have MPf := hid (MPe.out.belowS hb8); have OGf := hid (OGe.out.below hb8); have MGf := hid (MGe.out.belowS hb8)))
    clear c0 y0 y0a c1 y1 y1a c2 y2 y2a c3 y3 y3a c4 y4 y4a c5 y5 y5a c6 y6 y6a c7 y7 y7a c8 y8 y8a c9 y9 y9a c10 y10 y10a c11 y11 y11a kq0 t0 t0a kq1 t1 t1a kq2 t2 t2a kq3 t3 t3a kq4 t4 t4a kq5 t5 t5a kq6 t6 t6a kq7 t7 t7a kq8 t8 t8a kq9 t9 t9a kq10 t10 t10a kq11 t11 t11a
    clear PWd PWe PPd PPe MWd MWe OVd OVe OXd OXe MXd MXe h5td h5te SHd SHe MPd MPe OGd OGe MGd MGe hB7 hBd hd6 hdp6 hb7 hb8 hBw7 ho8
    have PW_w9 := PWf
    clear PWf
    have PP_w9 := PPf
    clear PPf
    have MW_w9 := MWf
    clear MWf
    have OV_w9 := OVf
    clear OVf
    have OX_w9 := OXf
    clear OXf
    have MX_w9 := MXf
    clear MXf
    have h5t_w9 := h5tf
    clear h5tf
    have SH_w9 := SHf
    clear SHf
    have MP_w9 := MPf
    clear MPf
    have OG_w9 := OGf
    clear OGf
    have MG_w9 := MGf
    clear MGf
    have c0 : w9.cell? ⟨w.heap.size + 1, 0, none⟩ = some (.slice pa pn pc) := (PP_w9.out 0 (by simp)).1
    have kq0 : w9.cell? ⟨w5.heap.size, 0, none⟩ = some (.slice (some ⟨g5, 0, none⟩) pn pn) := (MP_w9.out 0 (by simp)).1
    go_wp2
    have hBd := hBw9.drew
    have hd6 := hM.below' hBd
    have hdp6 := hp.below' hBd
    have PWd := hid (show CF w9.drew (w.heap.size) [.int .i64 d.wk, .bool d.up, .int .i64 d.now, .int .i64 d.sn, .int .i64 d.ep, .int .i64 d.gv, .slice h.a1 d.L1.length h.c1, .slice h.a2 d.L2.length h.c2, .slice h.ar d.R.length h.cr, .slice h.aj d.J.length h.cj, .slice h.az d.S.length h.cs, .slice h.ao d.O.length h.co] from PW_w9.out)
    clear PW_w9
    have PPd := hid (show CF w9.drew (w.heap.size + 1) [.slice pa pn pc] from PP_w9.out)
    clear PP_w9
    have MWd := hid (show CF w9.drew (p) [.int .i64 d1.wk, .bool d1.up, .int .i64 d1.now, .int .i64 d1.sn, .int .i64 d1.ep, .int .i64 d1.gv, .slice h1.a1 d1.L1.length h1.c1, .slice h1.a2 d1.L2.length h1.c2, .slice h1.ar d1.R.length h1.cr, .slice h1.aj d1.J.length h1.cj, .slice h1.az d1.S.length h1.cs, .slice h1.ao d1.O.length h1.co] from MW_w9.out)
    clear MW_w9
    have OVd := hid (OV_w9.out.below (Below.refl _ _).drew)
    clear OV_w9
    have OXd := hid (OX_w9.out.below (Below.refl _ _).drew)
    clear OX_w9
    have MXd := hid (show CF w9.drew (w4.heap.size) [.int .i64 d.wk, .bool d.up, .int .i64 d.now, .int .i64 d.sn, .int .i64 d.ep, .int .i64 d.gv, .slice h4.a1 d.L1.length h4.c1, .slice h4.a2 d.L2.length h4.c2, .slice h4.ar d.R.length h4.cr, .slice h4.aj d.J.length h4.cj, .slice h4.az d.S.length h4.cs, .slice h4.ao d.O.length h4.co] from MX_w9.out)
    clear MX_w9
    have h5td := hid (h5t_w9.out.below' (Below.refl _ _).drew)
    clear h5t_w9
    have SHd := hid (SH_w9.out.below (Below.refl _ _).drew)
    clear SH_w9
    have MPd := hid (show CF w9.drew (w5.heap.size) [.slice (some ⟨g5, 0, none⟩) pn pn] from MP_w9.out)
    clear MP_w9
    have OGd := hid (OG_w9.out.below (Below.refl _ _).drew)
    clear OG_w9
    have MGd := hid (show CF w9.drew (w6.heap.size) [.int .i64 d1.wk, .bool d1.up, .int .i64 d1.now, .int .i64 d1.sn, .int .i64 d1.ep, .int .i64 d1.gv, .slice h6.a1 d1.L1.length h6.c1, .slice h6.a2 d1.L2.length h6.c2, .slice h6.ar d1.R.length h6.cr, .slice h6.aj d1.J.length h6.cj, .slice h6.az d1.S.length h6.cs, .slice h6.ao d1.O.length h6.co] from MG_w9.out)
    clear MG_w9
    go_region_held3 (fun w' => w'.cell? ⟨w.heap.size + 1, 0, none⟩ = some (.slice pa pn pc) ∧ w'.cell? ⟨w5.heap.size, 0, none⟩ = some (.slice (some ⟨g5, 0, none⟩) pn pn)) (first | (simp [go_sem, *]; done) | assumption)
      (first
        | (go_at_call 20; refine (toPlan_any pa pb po pn pc ts _ hdp6 hpn).mono ?_; rintro e' w10 ⟨g10, xs10, rfl, ho10, hbu10, ht10, hb7⟩; have y0 := keepC hb7 c0; have t0 := keepC hb7 kq0; have hB7 := hBd.trans (hb7.mono hBd.size); have zw10 := hid (show w9.heap.size ≤ w10.heap.size from hb7.size); have PWe := hid (PWd.out.belowS hb7); have PPe := hid (PPd.out.belowS hb7); have MWe := hid (MWd.out.belowS hb7); have OVe := hid (OVd.out.below hb7); have OXe := hid (OXd.out.below hb7); have MXe := hid (MXd.out.belowS hb7); have h5te := hid (h5td.out.below' hb7); have SHe := hid (SHd.out.below hb7); have MPe := hid (MPd.out.belowS hb7); have OGe := hid (OGd.out.below hb7); have MGe := hid (MGd.out.belowS hb7))
        | (go_at_call 23; refine (eqPlan_any _ _ g5 0 pn pn g10 0 pn ts _ h5te.out ht10).mono ?_; rintro e' w11 ⟨rfl, hb8⟩; have y0a := keepB hb8 y0; have t0a := keepB hb8 t0; have hBw11 := hB7.trans (hb8.mono hB7.size); have zw11 := hid hb8.size; have PWf := hid (PWe.out.belowS hb8); have PPf := hid (PPe.out.belowS hb8); have MWf := hid (MWe.out.belowS hb8); have OVf := hid (OVe.out.below hb8); have OXf := hid (OXe.out.below hb8); have MXf := hid (MXe.out.belowS hb8); have h5tf := hid (h5te.out.below' hb8); have SHf := hid (SHe.out.below hb8); have MPf := hid (MPe.out.belowS hb8); have OGf := hid (OGe.out.below hb8); have MGf := hid (MGe.out.belowS hb8)))
    clear c0 y0 y0a kq0 t0 t0a
    clear PWd PWe PPd PPe MWd MWe OVd OVe OXd OXe MXd MXe h5td h5te SHd SHe MPd MPe OGd OGe MGd MGe hB7 hBd hd6 hdp6 hb7 hb8 hBw9 ho10 hbu10 ht10
    have PW_w11 := PWf
    clear PWf
    have PP_w11 := PPf
    clear PPf
    have MW_w11 := MWf
    clear MWf
    have OV_w11 := OVf
    clear OVf
    have OX_w11 := OXf
    clear OXf
    have MX_w11 := MXf
    clear MXf
    have h5t_w11 := h5tf
    clear h5tf
    have SH_w11 := SHf
    clear SHf
    have MP_w11 := MPf
    clear MPf
    have OG_w11 := OGf
    clear OGf
    have MG_w11 := MGf
    clear MGf
    have kq0 : w11.cell? ⟨w4.heap.size, 0, none⟩ = some (.int .i64 d.wk) := (MX_w11.out 0 (by simp)).1
    have kq1 : w11.cell? ⟨w4.heap.size, 1, none⟩ = some (.bool d.up) := (MX_w11.out 1 (by simp)).1
    have kq2 : w11.cell? ⟨w4.heap.size, 2, none⟩ = some (.int .i64 d.now) := (MX_w11.out 2 (by simp)).1
    have kq3 : w11.cell? ⟨w4.heap.size, 3, none⟩ = some (.int .i64 d.sn) := (MX_w11.out 3 (by simp)).1
    have kq4 : w11.cell? ⟨w4.heap.size, 4, none⟩ = some (.int .i64 d.ep) := (MX_w11.out 4 (by simp)).1
    have kq5 : w11.cell? ⟨w4.heap.size, 5, none⟩ = some (.int .i64 d.gv) := (MX_w11.out 5 (by simp)).1
    have kq6 : w11.cell? ⟨w4.heap.size, 6, none⟩ = some (.slice h4.a1 d.L1.length h4.c1) := (MX_w11.out 6 (by simp)).1
    have kq7 : w11.cell? ⟨w4.heap.size, 7, none⟩ = some (.slice h4.a2 d.L2.length h4.c2) := (MX_w11.out 7 (by simp)).1
    have kq8 : w11.cell? ⟨w4.heap.size, 8, none⟩ = some (.slice h4.ar d.R.length h4.cr) := (MX_w11.out 8 (by simp)).1
    have kq9 : w11.cell? ⟨w4.heap.size, 9, none⟩ = some (.slice h4.aj d.J.length h4.cj) := (MX_w11.out 9 (by simp)).1
    have kq10 : w11.cell? ⟨w4.heap.size, 10, none⟩ = some (.slice h4.az d.S.length h4.cs) := (MX_w11.out 10 (by simp)).1
    have kq11 : w11.cell? ⟨w4.heap.size, 11, none⟩ = some (.slice h4.ao d.O.length h4.co) := (MX_w11.out 11 (by simp)).1
    go_wp2_with fail
    refine (markBossO_any d h4 _ _ OX_w11.out hs).mono ?_
    rintro e' w12 ⟨rfl, -, hg12⟩
    clear kq0 kq1 kq2 kq3 kq4 kq5 kq6 kq7 kq8 kq9 kq10 kq11
    clear OX_w11 MX_w11 h5t_w11
    have PW_w12 := hid (PW_w11.out.block (hg12.block _ PW_w11.out.lt (fun r hr e => by have h5 := hlo4.out r hr _ e; have := hxl.out; have := hpl.out; have := hpb'.out; have := hzc'.out; have := zw4.out; have := qW4.out; have := zW4.out; have := hg5.out; have := hg5'.out; have := zw5.out; have := qW5.out; have := zW5.out; have := zw6.out; have := qW6.out; have := zW6.out; have := zw7.out; have := zw8.out; have := zw9.out; have := zw10.out; have := zw11.out; omega)))
    clear PW_w11
    have PP_w12 := hid (PP_w11.out.block (hg12.block _ PP_w11.out.lt (fun r hr e => by have h5 := hlo4.out r hr _ e; have := hxl.out; have := hpl.out; have := hpb'.out; have := hzc'.out; have := zw4.out; have := qW4.out; have := zW4.out; have := hg5.out; have := hg5'.out; have := zw5.out; have := qW5.out; have := zW5.out; have := zw6.out; have := qW6.out; have := zW6.out; have := zw7.out; have := zw8.out; have := zw9.out; have := zw10.out; have := zw11.out; omega)))
    clear PP_w11
    have MW_w12 := hid (MW_w11.out.block (hg12.block _ MW_w11.out.lt (fun r hr e => by have h5 := hlo4.out r hr _ e; have := hxl.out; have := hpl.out; have := hpb'.out; have := hzc'.out; have := zw4.out; have := qW4.out; have := zW4.out; have := hg5.out; have := hg5'.out; have := zw5.out; have := qW5.out; have := zW5.out; have := zw6.out; have := qW6.out; have := zW6.out; have := zw7.out; have := zw8.out; have := zw9.out; have := zw10.out; have := zw11.out; omega)))
    clear MW_w11
    have OV_w12 := hid (OV_w11.out.grew hg12 (fun r hr q hq r' hr' e => by have h5 := hlo4.out r hr q hq; have h6 := hhV.out r' hr' q e; have := hxl.out; have := hpl.out; have := hpb'.out; have := hzc'.out; have := zw4.out; have := qW4.out; have := zW4.out; have := hg5.out; have := hg5'.out; have := zw5.out; have := qW5.out; have := zW5.out; have := zw6.out; have := qW6.out; have := zW6.out; have := zw7.out; have := zw8.out; have := zw9.out; have := zw10.out; have := zw11.out; omega))
    clear OV_w11
    have SH_w12 := hid (SH_w11.out.blocks hg5'.out (fun q h1 h2 => hg12.block q (by have := hxl.out; have := hpl.out; have := hpb'.out; have := hzc'.out; have := zw4.out; have := qW4.out; have := zW4.out; have := hg5.out; have := hg5'.out; have := zw5.out; have := qW5.out; have := zW5.out; have := zw6.out; have := qW6.out; have := zW6.out; have := zw7.out; have := zw8.out; have := zw9.out; have := zw10.out; have := zw11.out; omega) (fun r hr e => by have h5 := hlo4.out r hr q e; have := hxl.out; have := hpl.out; have := hpb'.out; have := hzc'.out; have := zw4.out; have := qW4.out; have := zW4.out; have := hg5.out; have := hg5'.out; have := zw5.out; have := qW5.out; have := zW5.out; have := zw6.out; have := qW6.out; have := zW6.out; have := zw7.out; have := zw8.out; have := zw9.out; have := zw10.out; have := zw11.out; omega)))
    clear SH_w11
    have MP_w12 := hid (MP_w11.out.block (hg12.block _ MP_w11.out.lt (fun r hr e => by have h5 := hlo4.out r hr _ e; have := hxl.out; have := hpl.out; have := hpb'.out; have := hzc'.out; have := zw4.out; have := qW4.out; have := zW4.out; have := hg5.out; have := hg5'.out; have := zw5.out; have := qW5.out; have := zW5.out; have := zw6.out; have := qW6.out; have := zW6.out; have := zw7.out; have := zw8.out; have := zw9.out; have := zw10.out; have := zw11.out; omega)))
    clear MP_w11
    have OG_w12 := hid (OG_w11.out.grew hg12 (fun r hr q hq r' hr' e => by have h5 := hlo4.out r hr q hq; have h6 := hlo6.out r' hr' q e; have := hxl.out; have := hpl.out; have := hpb'.out; have := hzc'.out; have := zw4.out; have := qW4.out; have := zW4.out; have := hg5.out; have := hg5'.out; have := zw5.out; have := qW5.out; have := zW5.out; have := zw6.out; have := qW6.out; have := zW6.out; have := zw7.out; have := zw8.out; have := zw9.out; have := zw10.out; have := zw11.out; omega))
    clear OG_w11
    have MG_w12 := hid (MG_w11.out.block (hg12.block _ MG_w11.out.lt (fun r hr e => by have h5 := hlo4.out r hr _ e; have := hxl.out; have := hpl.out; have := hpb'.out; have := hzc'.out; have := zw4.out; have := qW4.out; have := zW4.out; have := hg5.out; have := hg5'.out; have := zw5.out; have := qW5.out; have := zW5.out; have := zw6.out; have := qW6.out; have := zW6.out; have := zw7.out; have := zw8.out; have := zw9.out; have := zw10.out; have := zw11.out; omega)))
    clear MG_w11
    have hBw12 := Grew.below hBw11 hg12 hBw11.size (fun r hr q hq => by have h5 := hlo4.out r hr q hq; have := hxl.out; have := hpl.out; have := hpb'.out; have := hzc'.out; have := zw4.out; have := qW4.out; have := zW4.out; have := hg5.out; have := hg5'.out; have := zw5.out; have := qW5.out; have := zW5.out; have := zw6.out; have := qW6.out; have := zW6.out; have := zw7.out; have := zw8.out; have := zw9.out; have := zw10.out; have := zw11.out; have := hBwoS.out; omega)
    have zw12 := hid hg12.size
    clear hg12 hBw11
    have c0 : w12.cell? ⟨w5.heap.size, 0, none⟩ = some (.slice (some ⟨g5, 0, none⟩) pn pn) := (MP_w12.out 0 (by simp)).1
    have hk12 : totB d ≤ 4194304 := by have := hs; unfold BD.small at this; unfold totB; omega
    have hk13 : 0 < totB d := by unfold totB; omega
    go_wp2_with fail
    refine (markPlan_any g5 w5.heap.size pn pn (totB d) _ hk13 hk12 (by omega) hg5'.out SH_w12.out).mono ?_
    rintro e' w13 ⟨⟨rk, rfl, hrk⟩, hM13⟩
    clear hk12 hk13
    clear c0
    clear SH_w12 MP_w12
    have PW_w13 := hid (PW_w12.out.midS hM13 (by have := hxl.out; have := hpl.out; have := hpb'.out; have := hzc'.out; have := zw4.out; have := qW4.out; have := zW4.out; have := hg5.out; have := hg5'.out; have := zw5.out; have := qW5.out; have := zW5.out; have := zw6.out; have := qW6.out; have := zW6.out; have := zw7.out; have := zw8.out; have := zw9.out; have := zw10.out; have := zw11.out; have := zw12.out; omega))
    clear PW_w12
    have PP_w13 := hid (PP_w12.out.midS hM13 (by have := hxl.out; have := hpl.out; have := hpb'.out; have := hzc'.out; have := zw4.out; have := qW4.out; have := zW4.out; have := hg5.out; have := hg5'.out; have := zw5.out; have := qW5.out; have := zW5.out; have := zw6.out; have := qW6.out; have := zW6.out; have := zw7.out; have := zw8.out; have := zw9.out; have := zw10.out; have := zw11.out; have := zw12.out; omega))
    clear PP_w12
    have MW_w13 := hid (MW_w12.out.midS hM13 (by have := hxl.out; have := hpl.out; have := hpb'.out; have := hzc'.out; have := zw4.out; have := qW4.out; have := zW4.out; have := hg5.out; have := hg5'.out; have := zw5.out; have := qW5.out; have := zW5.out; have := zw6.out; have := qW6.out; have := zW6.out; have := zw7.out; have := zw8.out; have := zw9.out; have := zw10.out; have := zw11.out; have := zw12.out; omega))
    clear MW_w12
    have OV_w13 := hid (OV_w12.out.blk (fun r hr q hq => hM13.block q (OV_w12.out.lo r hr q hq).2 (by have h6 := hhV.out r hr q hq; have := hxl.out; have := hpl.out; have := hpb'.out; have := hzc'.out; have := zw4.out; have := qW4.out; have := zW4.out; have := hg5.out; have := hg5'.out; have := zw5.out; have := qW5.out; have := zW5.out; have := zw6.out; have := qW6.out; have := zW6.out; have := zw7.out; have := zw8.out; have := zw9.out; have := zw10.out; have := zw11.out; have := zw12.out; omega)))
    clear OV_w12
    have OG_w13 := hid (OG_w12.out.blk (fun r hr q hq => hM13.block q (OG_w12.out.lo r hr q hq).2 (by have h6 := hlo6.out r hr q hq; have := hxl.out; have := hpl.out; have := hpb'.out; have := hzc'.out; have := zw4.out; have := qW4.out; have := zW4.out; have := hg5.out; have := hg5'.out; have := zw5.out; have := qW5.out; have := zW5.out; have := zw6.out; have := qW6.out; have := zW6.out; have := zw7.out; have := zw8.out; have := zw9.out; have := zw10.out; have := zw11.out; have := zw12.out; omega)))
    clear OG_w12
    have MG_w13 := hid (MG_w12.out.midS hM13 (by have := hxl.out; have := hpl.out; have := hpb'.out; have := hzc'.out; have := zw4.out; have := qW4.out; have := zW4.out; have := hg5.out; have := hg5'.out; have := zw5.out; have := qW5.out; have := zW5.out; have := zw6.out; have := qW6.out; have := zW6.out; have := zw7.out; have := zw8.out; have := zw9.out; have := zw10.out; have := zw11.out; have := zw12.out; omega))
    clear MG_w12
    have zw13 := hid hM13.size
    have hBw13 := Mid.below hBw12 hM13 (by have := hxl.out; have := hpl.out; have := hpb'.out; have := hzc'.out; have := zw4.out; have := qW4.out; have := zW4.out; have := hg5.out; have := hg5'.out; have := zw5.out; have := qW5.out; have := zW5.out; have := zw6.out; have := qW6.out; have := zW6.out; have := zw7.out; have := zw8.out; have := zw9.out; have := zw10.out; have := zw11.out; have := zw12.out; have := hBwoS.out; omega) hBw12.size
    clear hM13 hBw12
    have hrk' : ¬ rk < 0 := by omega
    clear hrk
    have c0 : w13.cell? ⟨w6.heap.size, 0, none⟩ = some (.int .i64 d1.wk) := (MG_w13.out 0 (by simp)).1
    have c1 : w13.cell? ⟨w6.heap.size, 1, none⟩ = some (.bool d1.up) := (MG_w13.out 1 (by simp)).1
    have c2 : w13.cell? ⟨w6.heap.size, 2, none⟩ = some (.int .i64 d1.now) := (MG_w13.out 2 (by simp)).1
    have c3 : w13.cell? ⟨w6.heap.size, 3, none⟩ = some (.int .i64 d1.sn) := (MG_w13.out 3 (by simp)).1
    have c4 : w13.cell? ⟨w6.heap.size, 4, none⟩ = some (.int .i64 d1.ep) := (MG_w13.out 4 (by simp)).1
    have c5 : w13.cell? ⟨w6.heap.size, 5, none⟩ = some (.int .i64 d1.gv) := (MG_w13.out 5 (by simp)).1
    have c6 : w13.cell? ⟨w6.heap.size, 6, none⟩ = some (.slice h6.a1 d1.L1.length h6.c1) := (MG_w13.out 6 (by simp)).1
    have c7 : w13.cell? ⟨w6.heap.size, 7, none⟩ = some (.slice h6.a2 d1.L2.length h6.c2) := (MG_w13.out 7 (by simp)).1
    have c8 : w13.cell? ⟨w6.heap.size, 8, none⟩ = some (.slice h6.ar d1.R.length h6.cr) := (MG_w13.out 8 (by simp)).1
    have c9 : w13.cell? ⟨w6.heap.size, 9, none⟩ = some (.slice h6.aj d1.J.length h6.cj) := (MG_w13.out 9 (by simp)).1
    have c10 : w13.cell? ⟨w6.heap.size, 10, none⟩ = some (.slice h6.az d1.S.length h6.cs) := (MG_w13.out 10 (by simp)).1
    have c11 : w13.cell? ⟨w6.heap.size, 11, none⟩ = some (.slice h6.ao d1.O.length h6.co) := (MG_w13.out 11 (by simp)).1
    have kq0 : w13.cell? ⟨p, 0, none⟩ = some (.int .i64 d1.wk) := (MW_w13.out 0 (by simp)).1
    have kq1 : w13.cell? ⟨p, 1, none⟩ = some (.bool d1.up) := (MW_w13.out 1 (by simp)).1
    have kq2 : w13.cell? ⟨p, 2, none⟩ = some (.int .i64 d1.now) := (MW_w13.out 2 (by simp)).1
    have kq3 : w13.cell? ⟨p, 3, none⟩ = some (.int .i64 d1.sn) := (MW_w13.out 3 (by simp)).1
    have kq4 : w13.cell? ⟨p, 4, none⟩ = some (.int .i64 d1.ep) := (MW_w13.out 4 (by simp)).1
    have kq5 : w13.cell? ⟨p, 5, none⟩ = some (.int .i64 d1.gv) := (MW_w13.out 5 (by simp)).1
    have kq6 : w13.cell? ⟨p, 6, none⟩ = some (.slice h1.a1 d1.L1.length h1.c1) := (MW_w13.out 6 (by simp)).1
    have kq7 : w13.cell? ⟨p, 7, none⟩ = some (.slice h1.a2 d1.L2.length h1.c2) := (MW_w13.out 7 (by simp)).1
    have kq8 : w13.cell? ⟨p, 8, none⟩ = some (.slice h1.ar d1.R.length h1.cr) := (MW_w13.out 8 (by simp)).1
    have kq9 : w13.cell? ⟨p, 9, none⟩ = some (.slice h1.aj d1.J.length h1.cj) := (MW_w13.out 9 (by simp)).1
    have kq10 : w13.cell? ⟨p, 10, none⟩ = some (.slice h1.az d1.S.length h1.cs) := (MW_w13.out 10 (by simp)).1
    have kq11 : w13.cell? ⟨p, 11, none⟩ = some (.slice h1.ao d1.O.length h1.co) := (MW_w13.out 11 (by simp)).1
    go_wp2_with fail
    refine (eqBossO_any d1 h6 h1 _ (OG_w13.out.m hf1.out) (OV_w13.out.m hf1.out)).mono ?_
    rintro e' w14 ⟨rfl, hb⟩
    clear c0 c1 c2 c3 c4 c5 c6 c7 c8 c9 c10 c11
    clear kq0 kq1 kq2 kq3 kq4 kq5 kq6 kq7 kq8 kq9 kq10 kq11
    have hBw14 := hBw13.trans (hb.mono hBw13.size)
    have zw14 := hid (hb.size)
    have PW_w14 := hid (PW_w13.out.belowS hb)
    clear PW_w13
    have PP_w14 := hid (PP_w13.out.belowS hb)
    clear PP_w13
    have MW_w14 := hid (MW_w13.out.belowS hb)
    clear MW_w13
    have OV_w14 := hid (OV_w13.out.below hb)
    clear OV_w13
    have OG_w14 := hid (OG_w13.out.below hb)
    clear OG_w13
    have MG_w14 := hid (MG_w13.out.belowS hb)
    clear MG_w13
    clear hb hBw13
    have c0 : w14.cell? ⟨w6.heap.size, 0, none⟩ = some (.int .i64 d1.wk) := (MG_w14.out 0 (by simp)).1
    have c1 : w14.cell? ⟨w6.heap.size, 1, none⟩ = some (.bool d1.up) := (MG_w14.out 1 (by simp)).1
    have c2 : w14.cell? ⟨w6.heap.size, 2, none⟩ = some (.int .i64 d1.now) := (MG_w14.out 2 (by simp)).1
    have c3 : w14.cell? ⟨w6.heap.size, 3, none⟩ = some (.int .i64 d1.sn) := (MG_w14.out 3 (by simp)).1
    have c4 : w14.cell? ⟨w6.heap.size, 4, none⟩ = some (.int .i64 d1.ep) := (MG_w14.out 4 (by simp)).1
    have c5 : w14.cell? ⟨w6.heap.size, 5, none⟩ = some (.int .i64 d1.gv) := (MG_w14.out 5 (by simp)).1
    have c6 : w14.cell? ⟨w6.heap.size, 6, none⟩ = some (.slice h6.a1 d1.L1.length h6.c1) := (MG_w14.out 6 (by simp)).1
    have c7 : w14.cell? ⟨w6.heap.size, 7, none⟩ = some (.slice h6.a2 d1.L2.length h6.c2) := (MG_w14.out 7 (by simp)).1
    have c8 : w14.cell? ⟨w6.heap.size, 8, none⟩ = some (.slice h6.ar d1.R.length h6.cr) := (MG_w14.out 8 (by simp)).1
    have c9 : w14.cell? ⟨w6.heap.size, 9, none⟩ = some (.slice h6.aj d1.J.length h6.cj) := (MG_w14.out 9 (by simp)).1
    have c10 : w14.cell? ⟨w6.heap.size, 10, none⟩ = some (.slice h6.az d1.S.length h6.cs) := (MG_w14.out 10 (by simp)).1
    have c11 : w14.cell? ⟨w6.heap.size, 11, none⟩ = some (.slice h6.ao d1.O.length h6.co) := (MG_w14.out 11 (by simp)).1
    go_wp2_with fail
    clear hrk'
    refine (markBossO_any d1 h6 _ _ OG_w14.out hs1.out).mono ?_
    rintro e' w15 ⟨rfl, ho15, hg15⟩
    clear c0 c1 c2 c3 c4 c5 c6 c7 c8 c9 c10 c11
    clear OG_w14
    have PW_w15 := hid (PW_w14.out.block (hg15.block _ PW_w14.out.lt (fun r hr e => by have h5 := hlo6.out r hr _ e; have := hxl.out; have := hpl.out; have := hpb'.out; have := hzc'.out; have := zw4.out; have := qW4.out; have := zW4.out; have := hg5.out; have := hg5'.out; have := zw5.out; have := qW5.out; have := zW5.out; have := zw6.out; have := qW6.out; have := zW6.out; have := zw7.out; have := zw8.out; have := zw9.out; have := zw10.out; have := zw11.out; have := zw12.out; have := zw13.out; have := zw14.out; omega)))
    clear PW_w14
    have PP_w15 := hid (PP_w14.out.block (hg15.block _ PP_w14.out.lt (fun r hr e => by have h5 := hlo6.out r hr _ e; have := hxl.out; have := hpl.out; have := hpb'.out; have := hzc'.out; have := zw4.out; have := qW4.out; have := zW4.out; have := hg5.out; have := hg5'.out; have := zw5.out; have := qW5.out; have := zW5.out; have := zw6.out; have := qW6.out; have := zW6.out; have := zw7.out; have := zw8.out; have := zw9.out; have := zw10.out; have := zw11.out; have := zw12.out; have := zw13.out; have := zw14.out; omega)))
    clear PP_w14
    have MW_w15 := hid (MW_w14.out.block (hg15.block _ MW_w14.out.lt (fun r hr e => by have h5 := hlo6.out r hr _ e; have := hxl.out; have := hpl.out; have := hpb'.out; have := hzc'.out; have := zw4.out; have := qW4.out; have := zW4.out; have := hg5.out; have := hg5'.out; have := zw5.out; have := qW5.out; have := zW5.out; have := zw6.out; have := qW6.out; have := zW6.out; have := zw7.out; have := zw8.out; have := zw9.out; have := zw10.out; have := zw11.out; have := zw12.out; have := zw13.out; have := zw14.out; omega)))
    clear MW_w14
    have OV_w15 := hid (OV_w14.out.grew hg15 (fun r hr q hq r' hr' e => by have h5 := hlo6.out r hr q hq; have h6 := hhV.out r' hr' q e; have := hxl.out; have := hpl.out; have := hpb'.out; have := hzc'.out; have := zw4.out; have := qW4.out; have := zW4.out; have := hg5.out; have := hg5'.out; have := zw5.out; have := qW5.out; have := zW5.out; have := zw6.out; have := qW6.out; have := zW6.out; have := zw7.out; have := zw8.out; have := zw9.out; have := zw10.out; have := zw11.out; have := zw12.out; have := zw13.out; have := zw14.out; omega))
    clear OV_w14
    have MG_w15 := hid (MG_w14.out.block (hg15.block _ MG_w14.out.lt (fun r hr e => by have h5 := hlo6.out r hr _ e; have := hxl.out; have := hpl.out; have := hpb'.out; have := hzc'.out; have := zw4.out; have := qW4.out; have := zW4.out; have := hg5.out; have := hg5'.out; have := zw5.out; have := qW5.out; have := zW5.out; have := zw6.out; have := qW6.out; have := zW6.out; have := zw7.out; have := zw8.out; have := zw9.out; have := zw10.out; have := zw11.out; have := zw12.out; have := zw13.out; have := zw14.out; omega)))
    clear MG_w14
    have hBw15 := Grew.below hBw14 hg15 hBw14.size (fun r hr q hq => by have h5 := hlo6.out r hr q hq; have := hxl.out; have := hpl.out; have := hpb'.out; have := hzc'.out; have := zw4.out; have := qW4.out; have := zW4.out; have := hg5.out; have := hg5'.out; have := zw5.out; have := qW5.out; have := zW5.out; have := zw6.out; have := qW6.out; have := zW6.out; have := zw7.out; have := zw8.out; have := zw9.out; have := zw10.out; have := zw11.out; have := zw12.out; have := zw13.out; have := zw14.out; have := hBwoS.out; omega)
    have zw15 := hid hg15.size
    clear hg15 hBw14
    have MK := hid ho15
    clear ho15
    have hpk : ¬ ((totB d1 : Nat) : Int) < 0 := by omega
    have c0 : w15.cell? ⟨w6.heap.size, 0, none⟩ = some (.int .i64 d1.wk) := (MG_w15.out 0 (by simp)).1
    have c1 : w15.cell? ⟨w6.heap.size, 1, none⟩ = some (.bool d1.up) := (MG_w15.out 1 (by simp)).1
    have c2 : w15.cell? ⟨w6.heap.size, 2, none⟩ = some (.int .i64 d1.now) := (MG_w15.out 2 (by simp)).1
    have c3 : w15.cell? ⟨w6.heap.size, 3, none⟩ = some (.int .i64 d1.sn) := (MG_w15.out 3 (by simp)).1
    have c4 : w15.cell? ⟨w6.heap.size, 4, none⟩ = some (.int .i64 d1.ep) := (MG_w15.out 4 (by simp)).1
    have c5 : w15.cell? ⟨w6.heap.size, 5, none⟩ = some (.int .i64 d1.gv) := (MG_w15.out 5 (by simp)).1
    have c6 : w15.cell? ⟨w6.heap.size, 6, none⟩ = some (.slice h6.a1 d1.L1.length h6.c1) := (MG_w15.out 6 (by simp)).1
    have c7 : w15.cell? ⟨w6.heap.size, 7, none⟩ = some (.slice h6.a2 d1.L2.length h6.c2) := (MG_w15.out 7 (by simp)).1
    have c8 : w15.cell? ⟨w6.heap.size, 8, none⟩ = some (.slice h6.ar d1.R.length h6.cr) := (MG_w15.out 8 (by simp)).1
    have c9 : w15.cell? ⟨w6.heap.size, 9, none⟩ = some (.slice h6.aj d1.J.length h6.cj) := (MG_w15.out 9 (by simp)).1
    have c10 : w15.cell? ⟨w6.heap.size, 10, none⟩ = some (.slice h6.az d1.S.length h6.cs) := (MG_w15.out 10 (by simp)).1
    have c11 : w15.cell? ⟨w6.heap.size, 11, none⟩ = some (.slice h6.ao d1.O.length h6.co) := (MG_w15.out 11 (by simp)).1
    go_wp2_with fail
    refine (heldBossO_any d1 h6 _ _ MK.out hs1.out).mono ?_
    rintro e' w16 ⟨rfl, hb⟩
    clear c0 c1 c2 c3 c4 c5 c6 c7 c8 c9 c10 c11
    have hBw16 := hBw15.trans (hb.mono hBw15.size)
    have zw16 := hid (hb.size)
    have PW_w16 := hid (PW_w15.out.belowS hb)
    clear PW_w15
    have PP_w16 := hid (PP_w15.out.belowS hb)
    clear PP_w15
    have MW_w16 := hid (MW_w15.out.belowS hb)
    clear MW_w15
    have OV_w16 := hid (OV_w15.out.below hb)
    clear OV_w15
    have MG_w16 := hid (MG_w15.out.belowS hb)
    clear MG_w15
    have MK_w16 := hid (MK.out.below hb)
    clear MK
    clear hb hBw15
    go_upto_region 31 with fail
    have hPW := PW_w16.out
    have hPP := PP_w16.out
    have hlp : w.heap.size + 1 < w16.heap.size := hPP.lt
    clear PW_w16 PP_w16
    go_cut [15] (fun sv wx => ∃ (p : Nat) (d1 : BD) (h1 : BH), sv = .pointer (some ⟨p, 0, none⟩) ∧ CF wx p (bvs d1 h1) ∧ fallR2 d ts keep d1 ∧ BossO wx w16.heap.size d1 h1 ∧ w16.heap.size ≤ p ∧ CF wx (w.heap.size) [.int .i64 d.wk, .bool d.up, .int .i64 d.now, .int .i64 d.sn, .int .i64 d.ep, .int .i64 d.gv, .slice h.a1 d.L1.length h.c1, .slice h.a2 d.L2.length h.c2, .slice h.ar d.R.length h.cr, .slice h.aj d.J.length h.cj, .slice h.az d.S.length h.cs, .slice h.ao d.O.length h.co] ∧ CF wx (w.heap.size + 1) [.slice pa pn pc] ∧ Below w.heap.size w wx ∧ Below w16.heap.size w16 wx)
    case first =>
      refine wp_region_held (S := fun w' => CF w' (w.heap.size) [.int .i64 d.wk, .bool d.up, .int .i64 d.now, .int .i64 d.sn, .int .i64 d.ep, .int .i64 d.gv, .slice h.a1 d.L1.length h.c1, .slice h.a2 d.L2.length h.c2, .slice h.ar d.R.length h.cr, .slice h.aj d.J.length h.cj, .slice h.az d.S.length h.cs, .slice h.ao d.O.length h.co] ∧ CF w' (w.heap.size + 1) [.slice pa pn pc]) (by kernel_rfl) ?_
      change wpAnyH _ _ _ _ _ _ _ _ (World.drew _)
      have hPWu0 : CF w16.drew (w.heap.size) [.int .i64 d.wk, .bool d.up, .int .i64 d.now, .int .i64 d.sn, .int .i64 d.ep, .int .i64 d.gv, .slice h.a1 d.L1.length h.c1, .slice h.a2 d.L2.length h.c2, .slice h.ar d.R.length h.cr, .slice h.aj d.J.length h.cj, .slice h.az d.S.length h.cs, .slice h.ao d.O.length h.co] := hPW
      have hPPu0 : CF w16.drew (w.heap.size + 1) [.slice pa pn pc] := hPP
      have hBu0 := hBw16.drew
      have hzu0 : w16.heap.size ≤ w16.drew.heap.size := Nat.le_refl _
      have hDu0 : Below w16.heap.size w16 w16.drew := (Below.refl _ _).drew
      have hlu0 : w.heap.size + 1 < w16.drew.heap.size := hlp
      obtain ⟨u0, hu0⟩ : ∃ u0, u0 = w16.drew := ⟨_, rfl⟩
      rw [← hu0] at hPWu0 hPPu0 hBu0 hzu0 hlu0 hDu0
      rw [← hu0]
      clear hu0
      refine hTake (i := 0) (d := some 79) (v := .agg #[.int .i64 d.wk, .bool d.up, .int .i64 d.now, .int .i64 d.sn, .int .i64 d.ep, .int .i64 d.gv, .slice h.a1 d.L1.length h.c1, .slice h.a2 d.L2.length h.c2, .slice h.ar d.R.length h.cr, .slice h.aj d.J.length h.cj, .slice h.az d.S.length h.cs, .slice h.ao d.O.length h.co]) (l' := #[true, false, false, false, false, false, false, false]) rfl (by kernel_rfl) (by kernel_rfl) (by kernel_rfl) (by kernel_rfl) (fun _ _ _ h => h) (by kernel_rfl) (fun _ hc => run_ldT 32 _ [.int .i64 d.wk, .bool d.up, .int .i64 d.now, .int .i64 d.sn, .int .i64 d.ep, .int .i64 d.gv, .slice h.a1 d.L1.length h.c1, .slice h.a2 d.L2.length h.c2, .slice h.ar d.R.length h.cr, .slice h.aj d.J.length h.cj, .slice h.az d.S.length h.cs, .slice h.ao d.O.length h.co] (.tmp 3) (by kernel_rfl) (by kernel_rfl) hc.1 Tryz.underlying32 rfl Tryz.sizeLB) ⟨hPWu0, hPPu0⟩ (by kernel_rfl) ?_
      refine hTake (i := 2) (d := some 81) (v := .agg #[.slice pa pn pc]) (l' := #[true, false, true, false, false, false, false, false]) rfl (by kernel_rfl) (by kernel_rfl) (by kernel_rfl) (by kernel_rfl) (fun _ _ _ h => h) (by kernel_rfl) (fun _ hc => run_ldT 24 _ [.slice pa pn pc] (.tmp 4) (by kernel_rfl) (by kernel_rfl) hc.2 Tryz.underlying24 rfl Tryz.sizeLP) ⟨hPWu0, hPPu0⟩ (by kernel_rfl) ?_
      refine hTake (i := 4) (d := some 83) (v := .int .i64 keep) (l' := #[true, false, true, false, true, false, false, false]) rfl (by kernel_rfl) (by kernel_rfl) (by kernel_rfl) (by kernel_rfl) (fun _ _ _ h => h) (by kernel_rfl) (fun _ hc => by kernel_rfl) ⟨hPWu0, hPPu0⟩ (by kernel_rfl) ?_
      refine hTwo (i := 1) (j := 6) (by kernel_rfl) (hCall (i := 1) (d := some 80) (f := 19) (args := #[.agg (bvs d h).toArray]) (l' := #[true, true, true, false, true, false, false, false]) (R := fun v w' => ∃ h2 g2, v = .agg (bvs d h2).toArray ∧ BossO w' u0.heap.size d h2 ∧ h2.a2 = some ⟨g2, 0, none⟩ ∧ d.L2.length ≤ h2.c2 ∧ Below u0.heap.size u0 w') rfl (by kernel_rfl) (by kernel_rfl) (by kernel_rfl) (run_cl1 _ _ rfl (by kernel_rfl) rfl enter_toB) ((toBossO_any d h _ (hM.below' hBu0) hs).mono fun _ _ ⟨⟨h2, g2, he, ho, ha, hc⟩, hb⟩ => ⟨_, he, h2, g2, rfl, ho, ha, hc, hb⟩) ?_) (hVal (i := 6) (d := some 15) (v := .pointer (some ⟨u0.heap.size, 0, none⟩)) (w' := u0.alloc (.cells #[.int .i64 0, .bool false, .int .i64 0, .int .i64 0, .int .i64 0, .int .i64 0, .slice none 0 0, .slice none 0 0, .slice none 0 0, .slice none 0 0, .slice none 0 0, .slice none 0 0] 47)) (l' := #[true, false, true, false, true, false, true, false]) rfl (by kernel_rfl) (by kernel_rfl) (by kernel_rfl) (run_alB (by kernel_rfl)) ⟨hPWu0.block (Below.heap_alloc u0 _ (w.heap.size) (by omega)), hPPu0.block (Below.heap_alloc u0 _ (w.heap.size + 1) (by omega))⟩ ?_)
      · rintro _ u1 ⟨h2, g2, rfl, ho2, ha2, hc2, hbu1⟩
        have hPWu1 := hPWu0.block (hbu1.block (w.heap.size) (by omega))
        have hPPu1 := hPPu0.block (hbu1.block (w.heap.size + 1) (by omega))
        have hBu1 := hBu0.trans (hbu1.mono hBu0.size)
        have hzu1 : w16.heap.size ≤ u1.heap.size := Nat.le_trans hzu0 hbu1.size
        have hlu1 : w.heap.size + 1 < u1.heap.size := Nat.lt_of_lt_of_le hlu0 hbu1.size
        have hDu1 := hDu0.trans (hbu1.mono hzu0)
        have h2mu1 := ho2.m hfit
        have HA2 := hid ha2
        clear ho2 ha2
        refine ⟨⟨hPWu1, hPPu1⟩, ?_⟩
        refine hTwo (i := 3) (j := 6) (by kernel_rfl) (hCall (i := 3) (d := some 82) (f := 20) (args := #[.agg #[.slice pa pn pc]]) (l' := #[true, true, true, true, true, false, false, false]) (R := fun v w' => ∃ g, v = .agg #[.slice (some ⟨g, 0, none⟩) pn pn] ∧ TasksAt w' (some ⟨g, 0, none⟩) g 0 pn ts ∧ Below u1.heap.size u1 w') rfl (by kernel_rfl) (by kernel_rfl) (by kernel_rfl) (run_cl1 _ _ rfl (by kernel_rfl) rfl enter_toP) ((toPlan_any pa pb po pn pc ts _ (hp.below' hBu1) hpn).mono fun _ _ ⟨g, xs, he, _, _, ht, hb⟩ => ⟨_, he, g, rfl, ht, hb⟩) ?_) (hVal (i := 6) (d := some 15) (v := .pointer (some ⟨u1.heap.size, 0, none⟩)) (w' := u1.alloc (.cells #[.int .i64 0, .bool false, .int .i64 0, .int .i64 0, .int .i64 0, .int .i64 0, .slice none 0 0, .slice none 0 0, .slice none 0 0, .slice none 0 0, .slice none 0 0, .slice none 0 0] 47)) (l' := #[true, true, true, false, true, false, true, false]) rfl (by kernel_rfl) (by kernel_rfl) (by kernel_rfl) (run_alB (by kernel_rfl)) ⟨hPWu1.block (Below.heap_alloc u1 _ (w.heap.size) (by omega)), hPPu1.block (Below.heap_alloc u1 _ (w.heap.size + 1) (by omega))⟩ ?_)
        · rintro _ u2 ⟨g3, rfl, ht3, hbu2⟩
          have hPWu2 := hPWu1.block (hbu2.block (w.heap.size) (by omega))
          have hPPu2 := hPPu1.block (hbu2.block (w.heap.size + 1) (by omega))
          have hBu2 := hBu1.trans (hbu2.mono hBu1.size)
          have hzu2 : w16.heap.size ≤ u2.heap.size := Nat.le_trans hzu1 hbu2.size
          have hlu2 : w.heap.size + 1 < u2.heap.size := Nat.lt_of_lt_of_le hlu1 hbu2.size
          have hDu2 := hDu1.trans (hbu2.mono hzu1)
          have h2mu2 := h2mu1.below' hbu2
          have ht3u2 := ht3
          refine ⟨⟨hPWu2, hPPu2⟩, ?_⟩
          refine hTwo (i := 5) (j := 6) (by kernel_rfl) (hCall (i := 5) (d := some 84) (f := 21) (args := #[.agg (bvs d h2).toArray, .agg #[.slice (some ⟨g3, 0, none⟩) pn pn], .int .i64 keep]) (l' := #[true, true, true, true, true, true, false, false]) (R := fun v w' => ∃ d9 h9, v = .agg (bvs d9 h9).toArray ∧ BossO w' u2.heap.size d9 h9 ∧ fallR2 d ts keep d9 ∧ Below u2.heap.size u2 w') rfl (by kernel_rfl) (by kernel_rfl) (by kernel_rfl) (run_cl3 _ _ _ _ rfl (by kernel_rfl) (by kernel_rfl) (by kernel_rfl) rfl enter_iFall) ((iFallB_any d h2 _ g3 0 pn pn ts keep _ h2mu2 ht3u2 hs).mono fun e _ ⟨⟨d9, ⟨h9, he, ho⟩, hf⟩, hb⟩ => ⟨_, he, d9, h9, rfl, ho, hf, hb⟩) ?_) (hVal (i := 6) (d := some 15) (v := .pointer (some ⟨u2.heap.size, 0, none⟩)) (w' := u2.alloc (.cells #[.int .i64 0, .bool false, .int .i64 0, .int .i64 0, .int .i64 0, .int .i64 0, .slice none 0 0, .slice none 0 0, .slice none 0 0, .slice none 0 0, .slice none 0 0, .slice none 0 0] 47)) (l' := #[true, true, true, true, true, false, true, false]) rfl (by kernel_rfl) (by kernel_rfl) (by kernel_rfl) (run_alB (by kernel_rfl)) ⟨hPWu2.block (Below.heap_alloc u2 _ (w.heap.size) (by omega)), hPPu2.block (Below.heap_alloc u2 _ (w.heap.size + 1) (by omega))⟩ ?_)
          · rintro _ u3 ⟨d9, h9, rfl, hO1, hF, hbu3⟩
            have hPWu3 := hPWu2.block (hbu3.block (w.heap.size) (by omega))
            have hPPu3 := hPPu2.block (hbu3.block (w.heap.size + 1) (by omega))
            have hBu3 := hBu2.trans (hbu3.mono hBu2.size)
            have hzu3 : w16.heap.size ≤ u3.heap.size := Nat.le_trans hzu2 hbu3.size
            have hlu3 : w.heap.size + 1 < u3.heap.size := Nat.lt_of_lt_of_le hlu2 hbu3.size
            have hDu3 := hDu2.trans (hbu3.mono hzu2)
            have h2mu3 := h2mu2.below' hbu3
            have hlo1 := hO1.lo
            have hO1 := hO1.mono hzu2
            refine ⟨⟨hPWu3, hPPu3⟩, ?_⟩
            refine hOne (by kernel_rfl) (hVal (i := 6) (d := some 15) (v := .pointer (some ⟨u3.heap.size, 0, none⟩)) (w' := u3.alloc (.cells #[.int .i64 0, .bool false, .int .i64 0, .int .i64 0, .int .i64 0, .int .i64 0, .slice none 0 0, .slice none 0 0, .slice none 0 0, .slice none 0 0, .slice none 0 0, .slice none 0 0] 47)) (l' := #[true, true, true, true, true, true, true, false]) rfl (by kernel_rfl) (by kernel_rfl) (by kernel_rfl) (run_alB (by kernel_rfl)) ⟨hPWu3.block (Below.heap_alloc u3 _ (w.heap.size) (by omega)), hPPu3.block (Below.heap_alloc u3 _ (w.heap.size + 1) (by omega))⟩ ?_)
            have hPWu4 := hPWu3.block (Below.heap_alloc u3 (.cells zB.toArray 47) (w.heap.size) (by omega))
            have hPPu4 := hPPu3.block (Below.heap_alloc u3 (.cells zB.toArray 47) (w.heap.size + 1) (by omega))
            have hBu4 := hBu3.alloc hBu3.size (.cells zB.toArray 47)
            have hDu4 := hDu3.alloc hDu3.size (.cells zB.toArray 47)
            have hbbu4 : Below u3.heap.size u3 (u3.alloc (.cells zB.toArray 47)) := (Below.refl _ _).alloc (Nat.le_refl _) _
            have hAu4 := CF.made u3 zB.toArray 47
            have h2mu4 := h2mu3.below' hbbu4
            have hO1 := hO1.below hbbu4
            have hszu4 : (u3.alloc (.cells zB.toArray 47)).heap.size = u3.heap.size + 1 := by simp
            obtain ⟨pA, hpA⟩ : ∃ pA, pA = u3.heap.size := ⟨_, rfl⟩
            rw [← hpA] at hAu4 hszu4
            rw [← hpA]
            obtain ⟨u4, hu4⟩ : ∃ V, V = u3.alloc (.cells zB.toArray 47) := ⟨_, rfl⟩
            rw [← hu4] at hPWu4 hPPu4 hBu4 hDu4 hbbu4 hAu4 hszu4 h2mu4 hO1
            have eu4 : (.alloc u3 (.cells #[.int .i64 0, .bool false, .int .i64 0, .int .i64 0, .int .i64 0, .int .i64 0, .slice none 0 0, .slice none 0 0, .slice none 0 0, .slice none 0 0, .slice none 0 0, .slice none 0 0] 47) : World) = u4 := hu4.symm
            rw [eu4]
            clear hu4 eu4
            have hzu4 : w16.heap.size ≤ u4.heap.size := Nat.le_trans hzu3 hbbu4.size
            have hlu4 : w.heap.size + 1 < u4.heap.size := Nat.lt_of_lt_of_le hlu3 hbbu4.size
            have hAlu4 : pA < u4.heap.size := by omega
            have hAb : w16.heap.size ≤ pA := by omega
            have HPA := hid hpA
            clear hpA
            obtain ⟨uz, huz⟩ : ∃ uz, uz = u4.setCells pA 0 (bvs d9 h9) := ⟨_, rfl⟩
            have hcz : CF uz pA (bvs d9 h9) := by rw [huz]; exact hAu4.stored rfl
            have hgz : u4.grownBy uz (some pA) := by rw [huz]; exact grown_setCells _ _ _ _ _ (World.grownBy.refl _ _)
            have hPWz := hPWu4.block (hgz.block (w.heap.size) (by omega) (by simp; omega))
            have hPPz := hPPu4.block (hgz.block (w.heap.size + 1) (by omega) (by simp; omega))
            have hBz := below_grown hBu4 hgz (by omega) (fun k hk => by simp at hk; omega)
            have hOz := hO1.grew (Grew.of hgz) (fun r hr q hq r' hr' e => by
              obtain rfl := List.mem_singleton.1 hr
              injection hq with hq
              have h5 := hlo1 r' hr' q e
              have h6 := HPA.out
              omega)
            have hzz := below_grown hDu4 hgz (by omega) (fun k hk => by simp at hk; omega)
            refine hOne (by kernel_rfl) (hSkip (i := 7) (w' := uz) (l' := #[true, true, true, true, true, true, true, true]) rfl (by kernel_rfl) (by kernel_rfl) (by kernel_rfl) (by rw [huz]; exact run_stT 47 zB (bvs d9 h9) (.tmp 15) (.tmp 84) (by kernel_rfl) (by kernel_rfl) (by kernel_rfl) hAu4 rfl Tryz.sizeBo (bvs_one d9 h9)) ⟨hPWz, hPPz⟩ ?_)
            refine wpAnyH_done (by kernel_rfl) ?_ _
            have HR := hid (show ∃ (p : Nat) (d9 : BD) (h9 : BH), (.pointer (some ⟨pA, 0, none⟩) : Value) = .pointer (some ⟨p, 0, none⟩) ∧ CF uz p (bvs d9 h9) ∧ fallR2 d ts keep d9 ∧ BossO uz w16.heap.size d9 h9 ∧ w16.heap.size ≤ p ∧ CF uz (w.heap.size) [.int .i64 d.wk, .bool d.up, .int .i64 d.now, .int .i64 d.sn, .int .i64 d.ep, .int .i64 d.gv, .slice h.a1 d.L1.length h.c1, .slice h.a2 d.L2.length h.c2, .slice h.ar d.R.length h.cr, .slice h.aj d.J.length h.cj, .slice h.az d.S.length h.cs, .slice h.ao d.O.length h.co] ∧ CF uz (w.heap.size + 1) [.slice pa pn pc] ∧ Below w.heap.size w uz ∧ Below w16.heap.size w16 uz from ⟨pA, d9, h9, rfl, hcz, hF, hOz, hAb, hPWz, hPPz, hBz, hzz⟩)
            clear hcz hF hOz hPWz hPPz hBz hzz huz hgz hO1 hlo1
            go_wp2_with fail
            go_meet
            case rel => exact HR.out
          · have hPWu5 := hPWu2.block (Below.heap_alloc u2 (.cells zB.toArray 47) (w.heap.size) (by omega))
            have hPPu5 := hPPu2.block (Below.heap_alloc u2 (.cells zB.toArray 47) (w.heap.size + 1) (by omega))
            have hBu5 := hBu2.alloc hBu2.size (.cells zB.toArray 47)
            have hDu5 := hDu2.alloc hDu2.size (.cells zB.toArray 47)
            have hbbu5 : Below u2.heap.size u2 (u2.alloc (.cells zB.toArray 47)) := (Below.refl _ _).alloc (Nat.le_refl _) _
            have hAu5 := CF.made u2 zB.toArray 47
            have h2mu5 := h2mu2.below' hbbu5
            have ht3u5 := ht3u2.below' hbbu5
            have hszu5 : (u2.alloc (.cells zB.toArray 47)).heap.size = u2.heap.size + 1 := by simp
            obtain ⟨pA, hpA⟩ : ∃ pA, pA = u2.heap.size := ⟨_, rfl⟩
            rw [← hpA] at hAu5 hszu5
            rw [← hpA]
            obtain ⟨u5, hu5⟩ : ∃ V, V = u2.alloc (.cells zB.toArray 47) := ⟨_, rfl⟩
            rw [← hu5] at hPWu5 hPPu5 hBu5 hDu5 hbbu5 hAu5 hszu5 h2mu5 ht3u5
            have eu5 : (.alloc u2 (.cells #[.int .i64 0, .bool false, .int .i64 0, .int .i64 0, .int .i64 0, .int .i64 0, .slice none 0 0, .slice none 0 0, .slice none 0 0, .slice none 0 0, .slice none 0 0, .slice none 0 0] 47) : World) = u5 := hu5.symm
            rw [eu5]
            clear hu5 eu5
            have hzu5 : w16.heap.size ≤ u5.heap.size := Nat.le_trans hzu2 hbbu5.size
            have hlu5 : w.heap.size + 1 < u5.heap.size := Nat.lt_of_lt_of_le hlu2 hbbu5.size
            have hAlu5 : pA < u5.heap.size := by omega
            have hAb : w16.heap.size ≤ pA := by omega
            have HPA := hid hpA
            clear hpA
            refine hOne (by kernel_rfl) (hCall (i := 5) (d := some 84) (f := 21) (args := #[.agg (bvs d h2).toArray, .agg #[.slice (some ⟨g3, 0, none⟩) pn pn], .int .i64 keep]) (l' := #[true, true, true, true, true, true, true, false]) (R := fun v w' => ∃ d9 h9, v = .agg (bvs d9 h9).toArray ∧ BossO w' u5.heap.size d9 h9 ∧ fallR2 d ts keep d9 ∧ Below u5.heap.size u5 w') rfl (by kernel_rfl) (by kernel_rfl) (by kernel_rfl) (run_cl3 _ _ _ _ rfl (by kernel_rfl) (by kernel_rfl) (by kernel_rfl) rfl enter_iFall) ((iFallB_any d h2 _ g3 0 pn pn ts keep _ h2mu5 ht3u5 hs).mono fun e _ ⟨⟨d9, ⟨h9, he, ho⟩, hf⟩, hb⟩ => ⟨_, he, d9, h9, rfl, ho, hf, hb⟩) ?_)
            rintro _ u6 ⟨d9, h9, rfl, hO1, hF, hbu6⟩
            have hPWu6 := hPWu5.block (hbu6.block (w.heap.size) (by omega))
            have hPPu6 := hPPu5.block (hbu6.block (w.heap.size + 1) (by omega))
            have hBu6 := hBu5.trans (hbu6.mono hBu5.size)
            have hzu6 : w16.heap.size ≤ u6.heap.size := Nat.le_trans hzu5 hbu6.size
            have hlu6 : w.heap.size + 1 < u6.heap.size := Nat.lt_of_lt_of_le hlu5 hbu6.size
            have hDu6 := hDu5.trans (hbu6.mono hzu5)
            have h2mu6 := h2mu5.below' hbu6
            have hlo1 := hO1.lo
            have hO1 := hO1.mono hzu5
            have hAu6 := hAu5.block (hbu6.block pA (by omega))
            have hAlu6 : pA < u6.heap.size := Nat.lt_of_lt_of_le hAlu5 hbu6.size
            refine ⟨⟨hPWu6, hPPu6⟩, ?_⟩
            obtain ⟨uz, huz⟩ : ∃ uz, uz = u6.setCells pA 0 (bvs d9 h9) := ⟨_, rfl⟩
            have hcz : CF uz pA (bvs d9 h9) := by rw [huz]; exact hAu6.stored rfl
            have hgz : u6.grownBy uz (some pA) := by rw [huz]; exact grown_setCells _ _ _ _ _ (World.grownBy.refl _ _)
            have hPWz := hPWu6.block (hgz.block (w.heap.size) (by omega) (by simp; omega))
            have hPPz := hPPu6.block (hgz.block (w.heap.size + 1) (by omega) (by simp; omega))
            have hBz := below_grown hBu6 hgz (by omega) (fun k hk => by simp at hk; omega)
            have hOz := hO1.grew (Grew.of hgz) (fun r hr q hq r' hr' e => by
              obtain rfl := List.mem_singleton.1 hr
              injection hq with hq
              have h5 := hlo1 r' hr' q e
              have h6 := HPA.out
              omega)
            have hzz := below_grown hDu6 hgz (by omega) (fun k hk => by simp at hk; omega)
            refine hOne (by kernel_rfl) (hSkip (i := 7) (w' := uz) (l' := #[true, true, true, true, true, true, true, true]) rfl (by kernel_rfl) (by kernel_rfl) (by kernel_rfl) (by rw [huz]; exact run_stT 47 zB (bvs d9 h9) (.tmp 15) (.tmp 84) (by kernel_rfl) (by kernel_rfl) (by kernel_rfl) hAu6 rfl Tryz.sizeBo (bvs_one d9 h9)) ⟨hPWz, hPPz⟩ ?_)
            refine wpAnyH_done (by kernel_rfl) ?_ _
            have HR := hid (show ∃ (p : Nat) (d9 : BD) (h9 : BH), (.pointer (some ⟨pA, 0, none⟩) : Value) = .pointer (some ⟨p, 0, none⟩) ∧ CF uz p (bvs d9 h9) ∧ fallR2 d ts keep d9 ∧ BossO uz w16.heap.size d9 h9 ∧ w16.heap.size ≤ p ∧ CF uz (w.heap.size) [.int .i64 d.wk, .bool d.up, .int .i64 d.now, .int .i64 d.sn, .int .i64 d.ep, .int .i64 d.gv, .slice h.a1 d.L1.length h.c1, .slice h.a2 d.L2.length h.c2, .slice h.ar d.R.length h.cr, .slice h.aj d.J.length h.cj, .slice h.az d.S.length h.cs, .slice h.ao d.O.length h.co] ∧ CF uz (w.heap.size + 1) [.slice pa pn pc] ∧ Below w.heap.size w uz ∧ Below w16.heap.size w16 uz from ⟨pA, d9, h9, rfl, hcz, hF, hOz, hAb, hPWz, hPPz, hBz, hzz⟩)
            clear hcz hF hOz hPWz hPPz hBz hzz huz hgz hO1 hlo1
            go_wp2_with fail
            go_meet
            case rel => exact HR.out
        · have hPWu7 := hPWu1.block (Below.heap_alloc u1 (.cells zB.toArray 47) (w.heap.size) (by omega))
          have hPPu7 := hPPu1.block (Below.heap_alloc u1 (.cells zB.toArray 47) (w.heap.size + 1) (by omega))
          have hBu7 := hBu1.alloc hBu1.size (.cells zB.toArray 47)
          have hDu7 := hDu1.alloc hDu1.size (.cells zB.toArray 47)
          have hbbu7 : Below u1.heap.size u1 (u1.alloc (.cells zB.toArray 47)) := (Below.refl _ _).alloc (Nat.le_refl _) _
          have hAu7 := CF.made u1 zB.toArray 47
          have h2mu7 := h2mu1.below' hbbu7
          have hszu7 : (u1.alloc (.cells zB.toArray 47)).heap.size = u1.heap.size + 1 := by simp
          obtain ⟨pA, hpA⟩ : ∃ pA, pA = u1.heap.size := ⟨_, rfl⟩
          rw [← hpA] at hAu7 hszu7
          rw [← hpA]
          obtain ⟨u7, hu7⟩ : ∃ V, V = u1.alloc (.cells zB.toArray 47) := ⟨_, rfl⟩
          rw [← hu7] at hPWu7 hPPu7 hBu7 hDu7 hbbu7 hAu7 hszu7 h2mu7
          have eu7 : (.alloc u1 (.cells #[.int .i64 0, .bool false, .int .i64 0, .int .i64 0, .int .i64 0, .int .i64 0, .slice none 0 0, .slice none 0 0, .slice none 0 0, .slice none 0 0, .slice none 0 0, .slice none 0 0] 47) : World) = u7 := hu7.symm
          rw [eu7]
          clear hu7 eu7
          have hzu7 : w16.heap.size ≤ u7.heap.size := Nat.le_trans hzu1 hbbu7.size
          have hlu7 : w.heap.size + 1 < u7.heap.size := Nat.lt_of_lt_of_le hlu1 hbbu7.size
          have hAlu7 : pA < u7.heap.size := by omega
          have hAb : w16.heap.size ≤ pA := by omega
          have HPA := hid hpA
          clear hpA
          refine hOne (by kernel_rfl) (hCall (i := 3) (d := some 82) (f := 20) (args := #[.agg #[.slice pa pn pc]]) (l' := #[true, true, true, true, true, false, true, false]) (R := fun v w' => ∃ g, v = .agg #[.slice (some ⟨g, 0, none⟩) pn pn] ∧ TasksAt w' (some ⟨g, 0, none⟩) g 0 pn ts ∧ Below u7.heap.size u7 w') rfl (by kernel_rfl) (by kernel_rfl) (by kernel_rfl) (run_cl1 _ _ rfl (by kernel_rfl) rfl enter_toP) ((toPlan_any pa pb po pn pc ts _ (hp.below' hBu7) hpn).mono fun _ _ ⟨g, xs, he, _, _, ht, hb⟩ => ⟨_, he, g, rfl, ht, hb⟩) ?_)
          rintro _ u8 ⟨g3, rfl, ht3, hbu8⟩
          have hPWu8 := hPWu7.block (hbu8.block (w.heap.size) (by omega))
          have hPPu8 := hPPu7.block (hbu8.block (w.heap.size + 1) (by omega))
          have hBu8 := hBu7.trans (hbu8.mono hBu7.size)
          have hzu8 : w16.heap.size ≤ u8.heap.size := Nat.le_trans hzu7 hbu8.size
          have hlu8 : w.heap.size + 1 < u8.heap.size := Nat.lt_of_lt_of_le hlu7 hbu8.size
          have hDu8 := hDu7.trans (hbu8.mono hzu7)
          have h2mu8 := h2mu7.below' hbu8
          have ht3u8 := ht3
          have hAu8 := hAu7.block (hbu8.block pA (by omega))
          have hAlu8 : pA < u8.heap.size := Nat.lt_of_lt_of_le hAlu7 hbu8.size
          refine ⟨⟨hPWu8, hPPu8⟩, ?_⟩
          refine hOne (by kernel_rfl) (hCall (i := 5) (d := some 84) (f := 21) (args := #[.agg (bvs d h2).toArray, .agg #[.slice (some ⟨g3, 0, none⟩) pn pn], .int .i64 keep]) (l' := #[true, true, true, true, true, true, true, false]) (R := fun v w' => ∃ d9 h9, v = .agg (bvs d9 h9).toArray ∧ BossO w' u8.heap.size d9 h9 ∧ fallR2 d ts keep d9 ∧ Below u8.heap.size u8 w') rfl (by kernel_rfl) (by kernel_rfl) (by kernel_rfl) (run_cl3 _ _ _ _ rfl (by kernel_rfl) (by kernel_rfl) (by kernel_rfl) rfl enter_iFall) ((iFallB_any d h2 _ g3 0 pn pn ts keep _ h2mu8 ht3u8 hs).mono fun e _ ⟨⟨d9, ⟨h9, he, ho⟩, hf⟩, hb⟩ => ⟨_, he, d9, h9, rfl, ho, hf, hb⟩) ?_)
          rintro _ u9 ⟨d9, h9, rfl, hO1, hF, hbu9⟩
          have hPWu9 := hPWu8.block (hbu9.block (w.heap.size) (by omega))
          have hPPu9 := hPPu8.block (hbu9.block (w.heap.size + 1) (by omega))
          have hBu9 := hBu8.trans (hbu9.mono hBu8.size)
          have hzu9 : w16.heap.size ≤ u9.heap.size := Nat.le_trans hzu8 hbu9.size
          have hlu9 : w.heap.size + 1 < u9.heap.size := Nat.lt_of_lt_of_le hlu8 hbu9.size
          have hDu9 := hDu8.trans (hbu9.mono hzu8)
          have h2mu9 := h2mu8.below' hbu9
          have hlo1 := hO1.lo
          have hO1 := hO1.mono hzu8
          have hAu9 := hAu8.block (hbu9.block pA (by omega))
          have hAlu9 : pA < u9.heap.size := Nat.lt_of_lt_of_le hAlu8 hbu9.size
          refine ⟨⟨hPWu9, hPPu9⟩, ?_⟩
          obtain ⟨uz, huz⟩ : ∃ uz, uz = u9.setCells pA 0 (bvs d9 h9) := ⟨_, rfl⟩
          have hcz : CF uz pA (bvs d9 h9) := by rw [huz]; exact hAu9.stored rfl
          have hgz : u9.grownBy uz (some pA) := by rw [huz]; exact grown_setCells _ _ _ _ _ (World.grownBy.refl _ _)
          have hPWz := hPWu9.block (hgz.block (w.heap.size) (by omega) (by simp; omega))
          have hPPz := hPPu9.block (hgz.block (w.heap.size + 1) (by omega) (by simp; omega))
          have hBz := below_grown hBu9 hgz (by omega) (fun k hk => by simp at hk; omega)
          have hOz := hO1.grew (Grew.of hgz) (fun r hr q hq r' hr' e => by
            obtain rfl := List.mem_singleton.1 hr
            injection hq with hq
            have h5 := hlo1 r' hr' q e
            have h6 := HPA.out
            omega)
          have hzz := below_grown hDu9 hgz (by omega) (fun k hk => by simp at hk; omega)
          refine hOne (by kernel_rfl) (hSkip (i := 7) (w' := uz) (l' := #[true, true, true, true, true, true, true, true]) rfl (by kernel_rfl) (by kernel_rfl) (by kernel_rfl) (by rw [huz]; exact run_stT 47 zB (bvs d9 h9) (.tmp 15) (.tmp 84) (by kernel_rfl) (by kernel_rfl) (by kernel_rfl) hAu9 rfl Tryz.sizeBo (bvs_one d9 h9)) ⟨hPWz, hPPz⟩ ?_)
          refine wpAnyH_done (by kernel_rfl) ?_ _
          have HR := hid (show ∃ (p : Nat) (d9 : BD) (h9 : BH), (.pointer (some ⟨pA, 0, none⟩) : Value) = .pointer (some ⟨p, 0, none⟩) ∧ CF uz p (bvs d9 h9) ∧ fallR2 d ts keep d9 ∧ BossO uz w16.heap.size d9 h9 ∧ w16.heap.size ≤ p ∧ CF uz (w.heap.size) [.int .i64 d.wk, .bool d.up, .int .i64 d.now, .int .i64 d.sn, .int .i64 d.ep, .int .i64 d.gv, .slice h.a1 d.L1.length h.c1, .slice h.a2 d.L2.length h.c2, .slice h.ar d.R.length h.cr, .slice h.aj d.J.length h.cj, .slice h.az d.S.length h.cs, .slice h.ao d.O.length h.co] ∧ CF uz (w.heap.size + 1) [.slice pa pn pc] ∧ Below w.heap.size w uz ∧ Below w16.heap.size w16 uz from ⟨pA, d9, h9, rfl, hcz, hF, hOz, hAb, hPWz, hPPz, hBz, hzz⟩)
          clear hcz hF hOz hPWz hPPz hBz hzz huz hgz hO1 hlo1
          go_wp2_with fail
          go_meet
          case rel => exact HR.out
      · have hPWu10 := hPWu0.block (Below.heap_alloc u0 (.cells zB.toArray 47) (w.heap.size) (by omega))
        have hPPu10 := hPPu0.block (Below.heap_alloc u0 (.cells zB.toArray 47) (w.heap.size + 1) (by omega))
        have hBu10 := hBu0.alloc hBu0.size (.cells zB.toArray 47)
        have hDu10 := hDu0.alloc hDu0.size (.cells zB.toArray 47)
        have hbbu10 : Below u0.heap.size u0 (u0.alloc (.cells zB.toArray 47)) := (Below.refl _ _).alloc (Nat.le_refl _) _
        have hAu10 := CF.made u0 zB.toArray 47
        have hszu10 : (u0.alloc (.cells zB.toArray 47)).heap.size = u0.heap.size + 1 := by simp
        obtain ⟨pA, hpA⟩ : ∃ pA, pA = u0.heap.size := ⟨_, rfl⟩
        rw [← hpA] at hAu10 hszu10
        rw [← hpA]
        obtain ⟨u10, hu10⟩ : ∃ V, V = u0.alloc (.cells zB.toArray 47) := ⟨_, rfl⟩
        rw [← hu10] at hPWu10 hPPu10 hBu10 hDu10 hbbu10 hAu10 hszu10
        have eu10 : (.alloc u0 (.cells #[.int .i64 0, .bool false, .int .i64 0, .int .i64 0, .int .i64 0, .int .i64 0, .slice none 0 0, .slice none 0 0, .slice none 0 0, .slice none 0 0, .slice none 0 0, .slice none 0 0] 47) : World) = u10 := hu10.symm
        rw [eu10]
        clear hu10 eu10
        have hzu10 : w16.heap.size ≤ u10.heap.size := Nat.le_trans hzu0 hbbu10.size
        have hlu10 : w.heap.size + 1 < u10.heap.size := Nat.lt_of_lt_of_le hlu0 hbbu10.size
        have hAlu10 : pA < u10.heap.size := by omega
        have hAb : w16.heap.size ≤ pA := by omega
        have HPA := hid hpA
        clear hpA
        refine hOne (by kernel_rfl) (hCall (i := 1) (d := some 80) (f := 19) (args := #[.agg (bvs d h).toArray]) (l' := #[true, true, true, false, true, false, true, false]) (R := fun v w' => ∃ h2 g2, v = .agg (bvs d h2).toArray ∧ BossO w' u10.heap.size d h2 ∧ h2.a2 = some ⟨g2, 0, none⟩ ∧ d.L2.length ≤ h2.c2 ∧ Below u10.heap.size u10 w') rfl (by kernel_rfl) (by kernel_rfl) (by kernel_rfl) (run_cl1 _ _ rfl (by kernel_rfl) rfl enter_toB) ((toBossO_any d h _ (hM.below' hBu10) hs).mono fun _ _ ⟨⟨h2, g2, he, ho, ha, hc⟩, hb⟩ => ⟨_, he, h2, g2, rfl, ho, ha, hc, hb⟩) ?_)
        rintro _ u11 ⟨h2, g2, rfl, ho2, ha2, hc2, hbu11⟩
        have hPWu11 := hPWu10.block (hbu11.block (w.heap.size) (by omega))
        have hPPu11 := hPPu10.block (hbu11.block (w.heap.size + 1) (by omega))
        have hBu11 := hBu10.trans (hbu11.mono hBu10.size)
        have hzu11 : w16.heap.size ≤ u11.heap.size := Nat.le_trans hzu10 hbu11.size
        have hlu11 : w.heap.size + 1 < u11.heap.size := Nat.lt_of_lt_of_le hlu10 hbu11.size
        have hDu11 := hDu10.trans (hbu11.mono hzu10)
        have h2mu11 := ho2.m hfit
        have HA2 := hid ha2
        clear ho2 ha2
        have hAu11 := hAu10.block (hbu11.block pA (by omega))
        have hAlu11 : pA < u11.heap.size := Nat.lt_of_lt_of_le hAlu10 hbu11.size
        refine ⟨⟨hPWu11, hPPu11⟩, ?_⟩
        refine hOne (by kernel_rfl) (hCall (i := 3) (d := some 82) (f := 20) (args := #[.agg #[.slice pa pn pc]]) (l' := #[true, true, true, true, true, false, true, false]) (R := fun v w' => ∃ g, v = .agg #[.slice (some ⟨g, 0, none⟩) pn pn] ∧ TasksAt w' (some ⟨g, 0, none⟩) g 0 pn ts ∧ Below u11.heap.size u11 w') rfl (by kernel_rfl) (by kernel_rfl) (by kernel_rfl) (run_cl1 _ _ rfl (by kernel_rfl) rfl enter_toP) ((toPlan_any pa pb po pn pc ts _ (hp.below' hBu11) hpn).mono fun _ _ ⟨g, xs, he, _, _, ht, hb⟩ => ⟨_, he, g, rfl, ht, hb⟩) ?_)
        rintro _ u12 ⟨g3, rfl, ht3, hbu12⟩
        have hPWu12 := hPWu11.block (hbu12.block (w.heap.size) (by omega))
        have hPPu12 := hPPu11.block (hbu12.block (w.heap.size + 1) (by omega))
        have hBu12 := hBu11.trans (hbu12.mono hBu11.size)
        have hzu12 : w16.heap.size ≤ u12.heap.size := Nat.le_trans hzu11 hbu12.size
        have hlu12 : w.heap.size + 1 < u12.heap.size := Nat.lt_of_lt_of_le hlu11 hbu12.size
        have hDu12 := hDu11.trans (hbu12.mono hzu11)
        have h2mu12 := h2mu11.below' hbu12
        have ht3u12 := ht3
        have hAu12 := hAu11.block (hbu12.block pA (by omega))
        have hAlu12 : pA < u12.heap.size := Nat.lt_of_lt_of_le hAlu11 hbu12.size
        refine ⟨⟨hPWu12, hPPu12⟩, ?_⟩
        refine hOne (by kernel_rfl) (hCall (i := 5) (d := some 84) (f := 21) (args := #[.agg (bvs d h2).toArray, .agg #[.slice (some ⟨g3, 0, none⟩) pn pn], .int .i64 keep]) (l' := #[true, true, true, true, true, true, true, false]) (R := fun v w' => ∃ d9 h9, v = .agg (bvs d9 h9).toArray ∧ BossO w' u12.heap.size d9 h9 ∧ fallR2 d ts keep d9 ∧ Below u12.heap.size u12 w') rfl (by kernel_rfl) (by kernel_rfl) (by kernel_rfl) (run_cl3 _ _ _ _ rfl (by kernel_rfl) (by kernel_rfl) (by kernel_rfl) rfl enter_iFall) ((iFallB_any d h2 _ g3 0 pn pn ts keep _ h2mu12 ht3u12 hs).mono fun e _ ⟨⟨d9, ⟨h9, he, ho⟩, hf⟩, hb⟩ => ⟨_, he, d9, h9, rfl, ho, hf, hb⟩) ?_)
        rintro _ u13 ⟨d9, h9, rfl, hO1, hF, hbu13⟩
        have hPWu13 := hPWu12.block (hbu13.block (w.heap.size) (by omega))
        have hPPu13 := hPPu12.block (hbu13.block (w.heap.size + 1) (by omega))
        have hBu13 := hBu12.trans (hbu13.mono hBu12.size)
        have hzu13 : w16.heap.size ≤ u13.heap.size := Nat.le_trans hzu12 hbu13.size
        have hlu13 : w.heap.size + 1 < u13.heap.size := Nat.lt_of_lt_of_le hlu12 hbu13.size
        have hDu13 := hDu12.trans (hbu13.mono hzu12)
        have h2mu13 := h2mu12.below' hbu13
        have hlo1 := hO1.lo
        have hO1 := hO1.mono hzu12
        have hAu13 := hAu12.block (hbu13.block pA (by omega))
        have hAlu13 : pA < u13.heap.size := Nat.lt_of_lt_of_le hAlu12 hbu13.size
        refine ⟨⟨hPWu13, hPPu13⟩, ?_⟩
        obtain ⟨uz, huz⟩ : ∃ uz, uz = u13.setCells pA 0 (bvs d9 h9) := ⟨_, rfl⟩
        have hcz : CF uz pA (bvs d9 h9) := by rw [huz]; exact hAu13.stored rfl
        have hgz : u13.grownBy uz (some pA) := by rw [huz]; exact grown_setCells _ _ _ _ _ (World.grownBy.refl _ _)
        have hPWz := hPWu13.block (hgz.block (w.heap.size) (by omega) (by simp; omega))
        have hPPz := hPPu13.block (hgz.block (w.heap.size + 1) (by omega) (by simp; omega))
        have hBz := below_grown hBu13 hgz (by omega) (fun k hk => by simp at hk; omega)
        have hOz := hO1.grew (Grew.of hgz) (fun r hr q hq r' hr' e => by
          obtain rfl := List.mem_singleton.1 hr
          injection hq with hq
          have h5 := hlo1 r' hr' q e
          have h6 := HPA.out
          omega)
        have hzz := below_grown hDu13 hgz (by omega) (fun k hk => by simp at hk; omega)
        refine hOne (by kernel_rfl) (hSkip (i := 7) (w' := uz) (l' := #[true, true, true, true, true, true, true, true]) rfl (by kernel_rfl) (by kernel_rfl) (by kernel_rfl) (by rw [huz]; exact run_stT 47 zB (bvs d9 h9) (.tmp 15) (.tmp 84) (by kernel_rfl) (by kernel_rfl) (by kernel_rfl) hAu13 rfl Tryz.sizeBo (bvs_one d9 h9)) ⟨hPWz, hPPz⟩ ?_)
        refine wpAnyH_done (by kernel_rfl) ?_ _
        have HR := hid (show ∃ (p : Nat) (d9 : BD) (h9 : BH), (.pointer (some ⟨pA, 0, none⟩) : Value) = .pointer (some ⟨p, 0, none⟩) ∧ CF uz p (bvs d9 h9) ∧ fallR2 d ts keep d9 ∧ BossO uz w16.heap.size d9 h9 ∧ w16.heap.size ≤ p ∧ CF uz (w.heap.size) [.int .i64 d.wk, .bool d.up, .int .i64 d.now, .int .i64 d.sn, .int .i64 d.ep, .int .i64 d.gv, .slice h.a1 d.L1.length h.c1, .slice h.a2 d.L2.length h.c2, .slice h.ar d.R.length h.cr, .slice h.aj d.J.length h.cj, .slice h.az d.S.length h.cs, .slice h.ao d.O.length h.co] ∧ CF uz (w.heap.size + 1) [.slice pa pn pc] ∧ Below w.heap.size w uz ∧ Below w16.heap.size w16 uz from ⟨pA, d9, h9, rfl, hcz, hF, hOz, hAb, hPWz, hPPz, hBz, hzz⟩)
        clear hcz hF hOz hPWz hPPz hBz hzz huz hgz hO1 hlo1
        go_wp2_with fail
        go_meet
        case rel => exact HR.out

    case rest =>
      obtain ⟨p2, d2, h7, rfl, hX, hF2, hO, hpb, hPW2, hPP2, hBwd, hbd⟩ := hcut
      obtain rfl := HF.out.uniq hF2
      have O2 := hid hO
      have MH := hid (show CF wc p2 [.int .i64 d1.wk, .bool d1.up, .int .i64 d1.now, .int .i64 d1.sn, .int .i64 d1.ep, .int .i64 d1.gv, .slice h7.a1 d1.L1.length h7.c1, .slice h7.a2 d1.L2.length h7.c2, .slice h7.ar d1.R.length h7.cr, .slice h7.aj d1.J.length h7.cj, .slice h7.az d1.S.length h7.cs, .slice h7.ao d1.O.length h7.co] from hX)
      clear hX hF2 hO hpb hPW2 hPP2 hBwd
      have hBwc := hBw16.trans (hbd.mono hBw16.size)
      have zwc := hid (hbd.size)
      have MW_wc := hid (MW_w16.out.belowS hbd)
      clear MW_w16
      have OV_wc := hid (OV_w16.out.below hbd)
      clear OV_w16
      have MG_wc := hid (MG_w16.out.belowS hbd)
      clear MG_w16
      have MK_wc := hid (MK_w16.out.below hbd)
      clear MK_w16
      clear hbd hBw16
      have c0 : wc.cell? ⟨p2, 0, none⟩ = some (.int .i64 d1.wk) := (MH.out 0 (by simp)).1
      have c1 : wc.cell? ⟨p2, 1, none⟩ = some (.bool d1.up) := (MH.out 1 (by simp)).1
      have c2 : wc.cell? ⟨p2, 2, none⟩ = some (.int .i64 d1.now) := (MH.out 2 (by simp)).1
      have c3 : wc.cell? ⟨p2, 3, none⟩ = some (.int .i64 d1.sn) := (MH.out 3 (by simp)).1
      have c4 : wc.cell? ⟨p2, 4, none⟩ = some (.int .i64 d1.ep) := (MH.out 4 (by simp)).1
      have c5 : wc.cell? ⟨p2, 5, none⟩ = some (.int .i64 d1.gv) := (MH.out 5 (by simp)).1
      have c6 : wc.cell? ⟨p2, 6, none⟩ = some (.slice h7.a1 d1.L1.length h7.c1) := (MH.out 6 (by simp)).1
      have c7 : wc.cell? ⟨p2, 7, none⟩ = some (.slice h7.a2 d1.L2.length h7.c2) := (MH.out 7 (by simp)).1
      have c8 : wc.cell? ⟨p2, 8, none⟩ = some (.slice h7.ar d1.R.length h7.cr) := (MH.out 8 (by simp)).1
      have c9 : wc.cell? ⟨p2, 9, none⟩ = some (.slice h7.aj d1.J.length h7.cj) := (MH.out 9 (by simp)).1
      have c10 : wc.cell? ⟨p2, 10, none⟩ = some (.slice h7.az d1.S.length h7.cs) := (MH.out 10 (by simp)).1
      have c11 : wc.cell? ⟨p2, 11, none⟩ = some (.slice h7.ao d1.O.length h7.co) := (MH.out 11 (by simp)).1
      have kq0 : wc.cell? ⟨p, 0, none⟩ = some (.int .i64 d1.wk) := (MW_wc.out 0 (by simp)).1
      have kq1 : wc.cell? ⟨p, 1, none⟩ = some (.bool d1.up) := (MW_wc.out 1 (by simp)).1
      have kq2 : wc.cell? ⟨p, 2, none⟩ = some (.int .i64 d1.now) := (MW_wc.out 2 (by simp)).1
      have kq3 : wc.cell? ⟨p, 3, none⟩ = some (.int .i64 d1.sn) := (MW_wc.out 3 (by simp)).1
      have kq4 : wc.cell? ⟨p, 4, none⟩ = some (.int .i64 d1.ep) := (MW_wc.out 4 (by simp)).1
      have kq5 : wc.cell? ⟨p, 5, none⟩ = some (.int .i64 d1.gv) := (MW_wc.out 5 (by simp)).1
      have kq6 : wc.cell? ⟨p, 6, none⟩ = some (.slice h1.a1 d1.L1.length h1.c1) := (MW_wc.out 6 (by simp)).1
      have kq7 : wc.cell? ⟨p, 7, none⟩ = some (.slice h1.a2 d1.L2.length h1.c2) := (MW_wc.out 7 (by simp)).1
      have kq8 : wc.cell? ⟨p, 8, none⟩ = some (.slice h1.ar d1.R.length h1.cr) := (MW_wc.out 8 (by simp)).1
      have kq9 : wc.cell? ⟨p, 9, none⟩ = some (.slice h1.aj d1.J.length h1.cj) := (MW_wc.out 9 (by simp)).1
      have kq10 : wc.cell? ⟨p, 10, none⟩ = some (.slice h1.az d1.S.length h1.cs) := (MW_wc.out 10 (by simp)).1
      have kq11 : wc.cell? ⟨p, 11, none⟩ = some (.slice h1.ao d1.O.length h1.co) := (MW_wc.out 11 (by simp)).1
      go_wp2_with fail
      refine (eqBossO_any d1 h7 h1 _ (O2.out.m hf1.out) (OV_wc.out.m hf1.out)).mono ?_
      rintro e' w18 ⟨rfl, hb⟩
      clear c0 c1 c2 c3 c4 c5 c6 c7 c8 c9 c10 c11
      clear kq0 kq1 kq2 kq3 kq4 kq5 kq6 kq7 kq8 kq9 kq10 kq11
      have hBw18 := hBwc.trans (hb.mono hBwc.size)
      have zw18 := hid (hb.size)
      have MW_w18 := hid (MW_wc.out.belowS hb)
      clear MW_wc
      have OV_w18 := hid (OV_wc.out.below hb)
      clear OV_wc
      have MG_w18 := hid (MG_wc.out.belowS hb)
      clear MG_wc
      have MK_w18 := hid (MK_wc.out.below hb)
      clear MK_wc
      have O2_w18 := hid (O2.out.below hb)
      clear O2
      have MH_w18 := hid (MH.out.belowS hb)
      clear MH
      clear hb hBwc
      have c0 : w18.cell? ⟨w6.heap.size, 0, none⟩ = some (.int .i64 d1.wk) := (MG_w18.out 0 (by simp)).1
      have c1 : w18.cell? ⟨w6.heap.size, 1, none⟩ = some (.bool d1.up) := (MG_w18.out 1 (by simp)).1
      have c2 : w18.cell? ⟨w6.heap.size, 2, none⟩ = some (.int .i64 d1.now) := (MG_w18.out 2 (by simp)).1
      have c3 : w18.cell? ⟨w6.heap.size, 3, none⟩ = some (.int .i64 d1.sn) := (MG_w18.out 3 (by simp)).1
      have c4 : w18.cell? ⟨w6.heap.size, 4, none⟩ = some (.int .i64 d1.ep) := (MG_w18.out 4 (by simp)).1
      have c5 : w18.cell? ⟨w6.heap.size, 5, none⟩ = some (.int .i64 d1.gv) := (MG_w18.out 5 (by simp)).1
      have c6 : w18.cell? ⟨w6.heap.size, 6, none⟩ = some (.slice h6.a1 d1.L1.length h6.c1) := (MG_w18.out 6 (by simp)).1
      have c7 : w18.cell? ⟨w6.heap.size, 7, none⟩ = some (.slice h6.a2 d1.L2.length h6.c2) := (MG_w18.out 7 (by simp)).1
      have c8 : w18.cell? ⟨w6.heap.size, 8, none⟩ = some (.slice h6.ar d1.R.length h6.cr) := (MG_w18.out 8 (by simp)).1
      have c9 : w18.cell? ⟨w6.heap.size, 9, none⟩ = some (.slice h6.aj d1.J.length h6.cj) := (MG_w18.out 9 (by simp)).1
      have c10 : w18.cell? ⟨w6.heap.size, 10, none⟩ = some (.slice h6.az d1.S.length h6.cs) := (MG_w18.out 10 (by simp)).1
      have c11 : w18.cell? ⟨w6.heap.size, 11, none⟩ = some (.slice h6.ao d1.O.length h6.co) := (MG_w18.out 11 (by simp)).1
      go_wp2_with fail
      refine (heldBossO_any d1 h6 _ _ MK_w18.out hs1.out).mono ?_
      rintro e' w19 ⟨rfl, hb⟩
      clear c0 c1 c2 c3 c4 c5 c6 c7 c8 c9 c10 c11
      have hBw19 := hBw18.trans (hb.mono hBw18.size)
      have zw19 := hid (hb.size)
      have MW_w19 := hid (MW_w18.out.belowS hb)
      clear MW_w18
      have OV_w19 := hid (OV_w18.out.below hb)
      clear OV_w18
      have MG_w19 := hid (MG_w18.out.belowS hb)
      clear MG_w18
      have MK_w19 := hid (MK_w18.out.below hb)
      clear MK_w18
      have O2_w19 := hid (O2_w18.out.below hb)
      clear O2_w18
      have MH_w19 := hid (MH_w18.out.belowS hb)
      clear MH_w18
      clear hb hBw18
      go_wp2
      go_ret
      exact ⟨rfl, hBw19⟩
end Go.Proofs.YthopfmhagddhgaaGreat
