import Derived.Test.YtjjapohngbagpaaGreatQBlc
namespace Go.Proofs.YtjjapohngbagpaaGreat
open Go.RowKit

theorem BD.down {d : BD} {ts : List TaskD} (h : d.ok ts) (hu : d.up = false) (keep : Int) : d = fallB d keep := by
  obtain ⟨wk, up, now, sn, ep, gv, L1, L2, R, J, S, O⟩ := d
  dsimp only at hu
  subst hu
  have hd := vB_dn h
  unfold isDown at hd
  dsimp only at hd
  obtain ⟨h1, rfl, rfl, rfl, h2, h3, h4, h5⟩ := hd
  have e1 := List.eq_nil_of_length_eq_zero (by omega : L2.length = 0)
  have e2 := List.eq_nil_of_length_eq_zero (by omega : R.length = 0)
  have e3 := List.eq_nil_of_length_eq_zero (by omega : J.length = 0)
  have e4 := List.eq_nil_of_length_eq_zero (by omega : S.length = 0)
  have e5 := List.eq_nil_of_length_eq_zero (by omega : O.length = 0)
  subst e1; subst e2; subst e3; subst e4; subst e5
  simp [fallB]

set_option maxHeartbeats 4000000 in
set_option maxRecDepth 100000 in
theorem sFallB_any (d : BD) (h : BH) (pa : Option Addr) (pb po pn pc : Nat) (ts : List TaskD) (keep : Int) (w : World) (g2 : Nat) (ha2 : h.a2 = some ⟨g2, 0, none⟩) (hc2 : d.L2.length ≤ h.c2) (hM : BossM w d h) (hT : TasksAt w pa pb po pn ts) (hs : d.small) :
    Calls Tryz.prog 27 #[.agg #[.int .i64 d.wk, .bool d.up, .int .i64 d.now, .int .i64 d.sn, .int .i64 d.ep, .int .i64 d.gv, .slice h.a1 d.L1.length h.c1, .slice h.a2 d.L2.length h.c2, .slice h.ar d.R.length h.cr, .slice h.aj d.J.length h.cj, .slice h.az d.S.length h.cs, .slice h.ao d.O.length h.co], .agg #[.slice pa pn pc], .int .i64 keep] w fun e w' => (∃ d', RetBs e w.heap.size w' d' ∧ fallR2 d ts keep d') ∧ Below w.heap.size w w' := by
  have HA2 := hid ha2
  clear ha2
  obtain ⟨i0, hi0, hz00, hz01, hz02⟩ := info_parts Tryz.infoSt
  obtain ⟨W, hW⟩ : ∃ W, W = ((w.alloc (.cells #[.int .i64 d.wk, .bool d.up, .int .i64 d.now, .int .i64 d.sn, .int .i64 d.ep, .int .i64 d.gv, .slice h.a1 d.L1.length h.c1, .slice h.a2 d.L2.length h.c2, .slice h.ar d.R.length h.cr, .slice h.aj d.J.length h.cj, .slice h.az d.S.length h.cs, .slice h.ao d.O.length h.co] 47)).alloc (.cells #[.slice pa pn pc] 41)).alloc (.cells #[.int .i64 0, .bool false, .int .i64 0, .int .i64 0, .int .i64 0, .int .i64 0, .slice none 0 0, .slice none 0 0, .slice none 0 0, .slice none 0 0, .slice none 0 0, .slice none 0 0] 47) := ⟨_, rfl⟩
  have B0 : Below w.heap.size w W := by rw [hW]; exact (((Below.refl _ _).alloc (Nat.le_refl _) _).alloc (by simp) _).alloc (by simp; omega) _
  have z0 : w.heap.size + 3 ≤ W.heap.size := by rw [hW]; simp
  have P0 : CF W w.heap.size [.int .i64 d.wk, .bool d.up, .int .i64 d.now, .int .i64 d.sn, .int .i64 d.ep, .int .i64 d.gv, .slice h.a1 d.L1.length h.c1, .slice h.a2 d.L2.length h.c2, .slice h.ar d.R.length h.cr, .slice h.aj d.J.length h.cj, .slice h.az d.S.length h.cs, .slice h.ao d.O.length h.co] := by
    rw [hW]; exact ((CF.made w #[.int .i64 d.wk, .bool d.up, .int .i64 d.now, .int .i64 d.sn, .int .i64 d.ep, .int .i64 d.gv, .slice h.a1 d.L1.length h.c1, .slice h.a2 d.L2.length h.c2, .slice h.ar d.R.length h.cr, .slice h.aj d.J.length h.cj, .slice h.az d.S.length h.cs, .slice h.ao d.O.length h.co] 47).block (Below.heap_alloc _ _ _ (by simp))).block (Below.heap_alloc _ _ _ (by simp; omega))
  have L0 : CF W (w.heap.size + 1) [.slice pa pn pc] := by
    rw [hW]
    have := (CF.made (w.alloc (.cells #[.int .i64 d.wk, .bool d.up, .int .i64 d.now, .int .i64 d.sn, .int .i64 d.ep, .int .i64 d.gv, .slice h.a1 d.L1.length h.c1, .slice h.a2 d.L2.length h.c2, .slice h.ar d.R.length h.cr, .slice h.aj d.J.length h.cj, .slice h.az d.S.length h.cs, .slice h.ao d.O.length h.co] 47)) #[.slice pa pn pc] 41).block (Below.heap_alloc ((w.alloc (.cells #[.int .i64 d.wk, .bool d.up, .int .i64 d.now, .int .i64 d.sn, .int .i64 d.ep, .int .i64 d.gv, .slice h.a1 d.L1.length h.c1, .slice h.a2 d.L2.length h.c2, .slice h.ar d.R.length h.cr, .slice h.aj d.J.length h.cj, .slice h.az d.S.length h.cs, .slice h.ao d.O.length h.co] 47)).alloc (.cells #[.slice pa pn pc] 41)) (.cells #[.int .i64 0, .bool false, .int .i64 0, .int .i64 0, .int .i64 0, .int .i64 0, .slice none 0 0, .slice none 0 0, .slice none 0 0, .slice none 0 0, .slice none 0 0, .slice none 0 0] 47) _ (by simp))
    simpa using this
  have R0 : CF W (w.heap.size + 2) zB := by
    rw [hW]
    have := CF.made ((w.alloc (.cells #[.int .i64 d.wk, .bool d.up, .int .i64 d.now, .int .i64 d.sn, .int .i64 d.ep, .int .i64 d.gv, .slice h.a1 d.L1.length h.c1, .slice h.a2 d.L2.length h.c2, .slice h.ar d.R.length h.cr, .slice h.aj d.J.length h.cj, .slice h.az d.S.length h.cs, .slice h.ao d.O.length h.co] 47)).alloc (.cells #[.slice pa pn pc] 41)) #[.int .i64 0, .bool false, .int .i64 0, .int .i64 0, .int .i64 0, .int .i64 0, .slice none 0 0, .slice none 0 0, .slice none 0 0, .slice none 0 0, .slice none 0 0, .slice none 0 0] 47
    simpa [zB] using this
  have hV0 : BossV w d [.int .i64 d.wk, .bool d.up, .int .i64 d.now, .int .i64 d.sn, .int .i64 d.ep, .int .i64 d.gv, .slice h.a1 d.L1.length h.c1, .slice h.a2 d.L2.length h.c2, .slice h.ar d.R.length h.cr, .slice h.aj d.J.length h.cj, .slice h.az d.S.length h.cs, .slice h.ao d.O.length h.co] := ⟨h, rfl, hM⟩
  have hV := hid (hV0.below' B0)
  have hs' := hid hs
  clear hV0 hs
  have HW := hid hW
  clear hW
  go_enter Tryz.func27, Tryz.ntmps27
  go_upto_region 1 with fail
  rw [← HW.out]
  clear HW
  have y0 : W.cell? ⟨w.heap.size, 0, none⟩ = some (.int .i64 d.wk) := (P0 0 (by simp)).1
  have y1 : W.cell? ⟨w.heap.size, 1, none⟩ = some (.bool d.up) := (P0 1 (by simp)).1
  have y2 : W.cell? ⟨w.heap.size, 2, none⟩ = some (.int .i64 d.now) := (P0 2 (by simp)).1
  have y3 : W.cell? ⟨w.heap.size, 3, none⟩ = some (.int .i64 d.sn) := (P0 3 (by simp)).1
  have y4 : W.cell? ⟨w.heap.size, 4, none⟩ = some (.int .i64 d.ep) := (P0 4 (by simp)).1
  have y5 : W.cell? ⟨w.heap.size, 5, none⟩ = some (.int .i64 d.gv) := (P0 5 (by simp)).1
  have y6 : W.cell? ⟨w.heap.size, 6, none⟩ = some (.slice h.a1 d.L1.length h.c1) := (P0 6 (by simp)).1
  have y7 : W.cell? ⟨w.heap.size, 7, none⟩ = some (.slice h.a2 d.L2.length h.c2) := (P0 7 (by simp)).1
  have y8 : W.cell? ⟨w.heap.size, 8, none⟩ = some (.slice h.ar d.R.length h.cr) := (P0 8 (by simp)).1
  have y9 : W.cell? ⟨w.heap.size, 9, none⟩ = some (.slice h.aj d.J.length h.cj) := (P0 9 (by simp)).1
  have y10 : W.cell? ⟨w.heap.size, 10, none⟩ = some (.slice h.az d.S.length h.cs) := (P0 10 (by simp)).1
  have y11 : W.cell? ⟨w.heap.size, 11, none⟩ = some (.slice h.ao d.O.length h.co) := (P0 11 (by simp)).1
  have kp : W.cell? ⟨w.heap.size + 1, 0, none⟩ = some (.slice pa pn pc) := (L0 0 (by simp)).1
  go_wp2_with fail
  refine (sValBV_any d _ _ _ _ _ _ _ _ _ _ _ _ pa pb po pn pc ts _ hV.out (hT.below' B0) hs'.out).mono ?_
  rintro e w1 ⟨⟨r, rfl, hr⟩, hb1⟩
  clear y0 y1 y2 y3 y4 y5 y6 y7 y8 y9 y10 y11 kp
  have P1 := P0.block (hb1.block w.heap.size (by omega))
  have R1 := R0.block (hb1.block (w.heap.size + 2) (by omega))
  have B1 := B0.trans (hb1.mono B0.size)
  have z1 : w.heap.size + 3 ≤ w1.heap.size := by have := hb1.size; omega
  have HR := hid hr
  clear hr hb1 P0 R0 B0 z0 L0
  cases r with
  | false =>
    have HN : Hid (¬ d.ok ts) := fun hh => by have := HR.out.2 hh; cases this
    go_upto_region 2 with fail
    go_wp2_with (refine wpList_store_cf rfl 47 (.tmp 6) (.tmp 11) rfl (w.heap.size + 2) zB [.int .i64 0, .bool false, .int .i64 0, .int .i64 0, .int .i64 0, .int .i64 0, .slice none 0 0, .slice none 0 0, .slice none 0 0, .slice none 0 0, .slice none 0 0, .slice none 0 0] rfl rfl R1 rfl Tryz.sizeBo (one12b _ _ _ _ _ _ _ _ _ _ _ _ _ _ _ _ _ _ _ _ _ _ _ _) ?_; intro w10 hc10 hg10)
    have k0 : w10.cell? ⟨w.heap.size + 2, 0, none⟩ = some (.int .i64 0) := (hc10 0 (by simp)).1
    have k1 : w10.cell? ⟨w.heap.size + 2, 1, none⟩ = some (.bool false) := (hc10 1 (by simp)).1
    have k2 : w10.cell? ⟨w.heap.size + 2, 2, none⟩ = some (.int .i64 0) := (hc10 2 (by simp)).1
    have k3 : w10.cell? ⟨w.heap.size + 2, 3, none⟩ = some (.int .i64 0) := (hc10 3 (by simp)).1
    have k4 : w10.cell? ⟨w.heap.size + 2, 4, none⟩ = some (.int .i64 0) := (hc10 4 (by simp)).1
    have k5 : w10.cell? ⟨w.heap.size + 2, 5, none⟩ = some (.int .i64 0) := (hc10 5 (by simp)).1
    have k6 : w10.cell? ⟨w.heap.size + 2, 6, none⟩ = some (.slice none 0 0) := (hc10 6 (by simp)).1
    have k7 : w10.cell? ⟨w.heap.size + 2, 7, none⟩ = some (.slice none 0 0) := (hc10 7 (by simp)).1
    have k8 : w10.cell? ⟨w.heap.size + 2, 8, none⟩ = some (.slice none 0 0) := (hc10 8 (by simp)).1
    have k9 : w10.cell? ⟨w.heap.size + 2, 9, none⟩ = some (.slice none 0 0) := (hc10 9 (by simp)).1
    have k10 : w10.cell? ⟨w.heap.size + 2, 10, none⟩ = some (.slice none 0 0) := (hc10 10 (by simp)).1
    have k11 : w10.cell? ⟨w.heap.size + 2, 11, none⟩ = some (.slice none 0 0) := (hc10 11 (by simp)).1
    exact bodyPost_ret (v := .agg #[.int .i64 0, .bool false, .int .i64 0, .int .i64 0, .int .i64 0, .int .i64 0, .slice none 0 0, .slice none 0 0, .slice none 0 0, .slice none 0 0, .slice none 0 0, .slice none 0 0]) (by simp [results, Tryz.results27, go_sem, k0, k1, k2, k3, k4, k5, k6, k7, k8, k9, k10, k11]) rfl ⟨⟨zBD, ⟨_, rfl, zBO _ _⟩, .inr ⟨HN.out, rfl⟩⟩, below_grown B1 hg10 (by omega) (fun q hq => by simp at hq; omega)⟩
  | true =>
    have HV : Hid (d.ok ts) := HR.out.1 rfl
    have hsm := hs'.out
    unfold BD.small at hsm
    obtain ⟨⟨b1, o1, h1⟩, ⟨b2, o2, h2⟩, ⟨b3, o3, h3⟩, ⟨b4, o4, h4⟩, ⟨b5, o5, h5⟩, ⟨b6, o6, h6⟩⟩ := hM
    have y1 : w1.cell? ⟨w.heap.size, 1, none⟩ = some (.bool d.up) := (P1 1 (by simp)).1
    cases hup : d.up with
    | false =>
      rw [hup] at y1
      go_upto_region 4 with fail
      clear y1
      have y0 : w1.cell? ⟨w.heap.size, 0, none⟩ = some (.int .i64 d.wk) := (P1 0 (by simp)).1
      have y1 : w1.cell? ⟨w.heap.size, 1, none⟩ = some (.bool d.up) := (P1 1 (by simp)).1
      have y2 : w1.cell? ⟨w.heap.size, 2, none⟩ = some (.int .i64 d.now) := (P1 2 (by simp)).1
      have y3 : w1.cell? ⟨w.heap.size, 3, none⟩ = some (.int .i64 d.sn) := (P1 3 (by simp)).1
      have y4 : w1.cell? ⟨w.heap.size, 4, none⟩ = some (.int .i64 d.ep) := (P1 4 (by simp)).1
      have y5 : w1.cell? ⟨w.heap.size, 5, none⟩ = some (.int .i64 d.gv) := (P1 5 (by simp)).1
      have y6 : w1.cell? ⟨w.heap.size, 6, none⟩ = some (.slice h.a1 d.L1.length h.c1) := (P1 6 (by simp)).1
      have y7 : w1.cell? ⟨w.heap.size, 7, none⟩ = some (.slice h.a2 d.L2.length h.c2) := (P1 7 (by simp)).1
      have y8 : w1.cell? ⟨w.heap.size, 8, none⟩ = some (.slice h.ar d.R.length h.cr) := (P1 8 (by simp)).1
      have y9 : w1.cell? ⟨w.heap.size, 9, none⟩ = some (.slice h.aj d.J.length h.cj) := (P1 9 (by simp)).1
      have y10 : w1.cell? ⟨w.heap.size, 10, none⟩ = some (.slice h.az d.S.length h.cs) := (P1 10 (by simp)).1
      have y11 : w1.cell? ⟨w.heap.size, 11, none⟩ = some (.slice h.ao d.O.length h.co) := (P1 11 (by simp)).1
      have HUP := hid hup
      clear hup
      go_wp2_with (first | (go_at_call 73; refine (l5Copy_any d.wk d.up d.now d.sn d.ep d.gv h.a1 h.a2 h.ar h.aj h.az h.ao b1 o1 _ h.c1 b2 o2 _ h.c2 b3 o3 _ h.cr b4 o4 _ h.cj b5 o5 _ h.cs b6 o6 _ h.co d.L1 d.L2 d.R d.J d.S d.O _ (h1.below' B1) (h2.below' B1) (h3.below' B1) (h4.below' B1) (h5.below' B1) (h6.below' B1) (by omega) (by omega) (by omega) (by omega) (by omega) (by omega)).mono ?_; rintro e w2 ⟨a0_, c0_, a1_, c1_, a2_, c2_, a3_, c3_, a4_, c4_, a5_, c5_, rfl, ⟨q0, q1, q2, q3, q4, q5⟩, hdis, hb2⟩; have R2 := R1.block (hb2.block (w.heap.size + 2) (by omega)); have B2 := B1.trans (hb2.mono B1.size); have z2 : w.heap.size + 3 ≤ w2.heap.size := (by have := hb2.size; omega)) | (refine wpList_store_cf rfl 47 (.tmp 6) (.tmp 16) rfl (w.heap.size + 2) zB [.int .i64 d.wk, .bool d.up, .int .i64 d.now, .int .i64 d.sn, .int .i64 d.ep, .int .i64 d.gv, .slice a0_ d.L1.length c0_, .slice a1_ d.L2.length c1_, .slice a2_ d.R.length c2_, .slice a3_ d.J.length c3_, .slice a4_ d.S.length c4_, .slice a5_ d.O.length c5_] rfl rfl R2 rfl Tryz.sizeBo (one12b _ _ _ _ _ _ _ _ _ _ _ _ _ _ _ _ _ _ _ _ _ _ _ _) ?_; intro w10 hc10 hg10))
      have k0 : w10.cell? ⟨w.heap.size + 2, 0, none⟩ = some (.int .i64 d.wk) := (hc10 0 (by simp)).1
      have k1 : w10.cell? ⟨w.heap.size + 2, 1, none⟩ = some (.bool d.up) := (hc10 1 (by simp)).1
      have k2 : w10.cell? ⟨w.heap.size + 2, 2, none⟩ = some (.int .i64 d.now) := (hc10 2 (by simp)).1
      have k3 : w10.cell? ⟨w.heap.size + 2, 3, none⟩ = some (.int .i64 d.sn) := (hc10 3 (by simp)).1
      have k4 : w10.cell? ⟨w.heap.size + 2, 4, none⟩ = some (.int .i64 d.ep) := (hc10 4 (by simp)).1
      have k5 : w10.cell? ⟨w.heap.size + 2, 5, none⟩ = some (.int .i64 d.gv) := (hc10 5 (by simp)).1
      have k6 : w10.cell? ⟨w.heap.size + 2, 6, none⟩ = some (.slice a0_ d.L1.length c0_) := (hc10 6 (by simp)).1
      have k7 : w10.cell? ⟨w.heap.size + 2, 7, none⟩ = some (.slice a1_ d.L2.length c1_) := (hc10 7 (by simp)).1
      have k8 : w10.cell? ⟨w.heap.size + 2, 8, none⟩ = some (.slice a2_ d.R.length c2_) := (hc10 8 (by simp)).1
      have k9 : w10.cell? ⟨w.heap.size + 2, 9, none⟩ = some (.slice a3_ d.J.length c3_) := (hc10 9 (by simp)).1
      have k10 : w10.cell? ⟨w.heap.size + 2, 10, none⟩ = some (.slice a4_ d.S.length c4_) := (hc10 10 (by simp)).1
      have k11 : w10.cell? ⟨w.heap.size + 2, 11, none⟩ = some (.slice a5_ d.O.length c5_) := (hc10 11 (by simp)).1
      exact bodyPost_ret (v := .agg #[.int .i64 d.wk, .bool d.up, .int .i64 d.now, .int .i64 d.sn, .int .i64 d.ep, .int .i64 d.gv, .slice a0_ d.L1.length c0_, .slice a1_ d.L2.length c1_, .slice a2_ d.R.length c2_, .slice a3_ d.J.length c3_, .slice a4_ d.S.length c4_, .slice a5_ d.O.length c5_]) (by simp [results, Tryz.results27, go_sem, k0, k1, k2, k3, k4, k5, k6, k7, k8, k9, k10, k11]) rfl ⟨⟨d, ⟨⟨a0_, a1_, a2_, a3_, a4_, a5_, c0_, c1_, c2_, c3_, c4_, c5_⟩, rfl, ⟨(q0.grown hg10 (.inr (by intro hh; have := q0.row_lo _ hh; omega))).mono' (by omega), (q1.grown hg10 (.inr (by intro hh; have := q1.row_lo _ hh; omega))).mono' (by omega), (q2.grown hg10 (.inr (by intro hh; have := q2.row_lo _ hh; omega))).mono' (by omega), (q3.grown hg10 (.inr (by intro hh; have := q3.row_lo _ hh; omega))).mono' (by omega), (q4.grown hg10 (.inr (by intro hh; have := q4.row_lo _ hh; omega))).mono' (by omega), (q5.grown hg10 (.inr (by intro hh; have := q5.row_lo _ hh; omega))).mono' (by omega), hdis⟩⟩, .inl ⟨HV.out, BD.down HV.out HUP.out keep⟩⟩, below_grown B2 hg10 (by omega) (fun q hq => by simp at hq; omega)⟩
    | true =>
      rw [hup] at y1
      have y7 : w1.cell? ⟨w.heap.size, 7, none⟩ = some (.slice h.a2 d.L2.length h.c2) := (P1 7 (by simp)).1
      clear hup
      by_cases c1 : keep < 0
      · have c2 : ¬ (d.L2.length : Int) < 0 := by omega
        go_upto_region 9 with fail
        clear y1 y7
        obtain ⟨K, hK⟩ : ∃ K, K = keptN keep d.L2.length := ⟨_, rfl⟩
        have e7 : 0 = ((K : Nat) : Int) := by rw [hK]; unfold keptN; omega
        have hKl : K ≤ d.L2.length := by rw [hK]; exact keptN_le _ _
        have HK := hid hK
        clear hK
        obtain ⟨U, hU⟩ : ∃ U, U = w1.drew := ⟨_, rfl⟩
        have Pd : CF U w.heap.size [.int .i64 d.wk, .bool d.up, .int .i64 d.now, .int .i64 d.sn, .int .i64 d.ep, .int .i64 d.gv, .slice h.a1 d.L1.length h.c1, .slice h.a2 d.L2.length h.c2, .slice h.ar d.R.length h.cr, .slice h.aj d.J.length h.cj, .slice h.az d.S.length h.cs, .slice h.ao d.O.length h.co] := by rw [hU]; exact P1
        have Rd : CF U (w.heap.size + 2) zB := by rw [hU]; exact R1
        have Bd : Below w.heap.size w U := by rw [hU]; exact B1.drew
        have zd : w.heap.size + 3 ≤ U.heap.size := by rw [hU]; exact z1
        obtain ⟨E, hE⟩ : ∃ E, E = U.alloc (.cells #[] 9) := ⟨_, rfl⟩
        have hown0 : Own (w.heap.size + 3) E 1 (.slice (some ⟨U.heap.size, 0, none⟩) 0 0) 0 [] := by rw [hE]; exact bsOwn U _ zd
        have PE : CF E w.heap.size [.int .i64 d.wk, .bool d.up, .int .i64 d.now, .int .i64 d.sn, .int .i64 d.ep, .int .i64 d.gv, .slice h.a1 d.L1.length h.c1, .slice h.a2 d.L2.length h.c2, .slice h.ar d.R.length h.cr, .slice h.aj d.J.length h.cj, .slice h.az d.S.length h.cs, .slice h.ao d.O.length h.co] := by rw [hE]; exact Pd.block (Below.heap_alloc _ _ _ (by omega))
        have RE : CF E (w.heap.size + 2) zB := by rw [hE]; exact Rd.block (Below.heap_alloc _ _ _ (by omega))
        have BE : Below w.heap.size w E := by rw [hE]; exact Bd.alloc Bd.size _
        have zE : w.heap.size + 3 ≤ E.heap.size := by rw [hE]; simp; omega
        obtain ⟨a9, c9, w3, hr3, ho3, hg3, _⟩ := app0 w E (w.heap.size + 3) BE zE h.c1 h1 (by omega) hown0
        have hrow0 := hown0.row_lo
        have P3 := PE.block (hg3.block w.heap.size (by omega) (fun e => by have := hrow0 _ e.symm; omega))
        have R3 := RE.block (hg3.block (w.heap.size + 2) (by omega) (fun e => by have := hrow0 _ e.symm; omega))
        have B3 := below_grown BE hg3 (by omega) (fun q hq => by have := hrow0 q hq; omega)
        have z3 : w.heap.size + 3 ≤ w3.heap.size := Nat.le_trans zE hg3.size
        obtain ⟨v1, w4, hr1, ho4, hg4, _⟩ := run_append_c (P := Tryz.prog) w3 (w.heap.size + 3) 25 25 25 9 i0 (.string ⟨#[]⟩) 1 16 Tryz.underlying25 hi0 hz00 hz01 hz02 rfl _ d.L1.length _ ho3 _ K _ (((h2.below' B3).takeP K hKl).srcS h.c2) (by unfold maxLen; omega) (by omega) z3
        rw [← List.map_append] at ho4
        obtain ⟨a', c', rfl⟩ := ho4.slc
        have hrow := ho3.row_lo
        have P4 := P3.block (hg4.block w.heap.size (by omega) (fun e => by have := hrow _ e.symm; omega))
        have R4 := R3.block (hg4.block (w.heap.size + 2) (by omega) (fun e => by have := hrow _ e.symm; omega))
        have B4 := below_grown B3 hg4 (by omega) (fun q hq => by have := hrow q hq; omega)
        have z4 : w.heap.size + 3 ≤ w4.heap.size := Nat.le_trans z3 hg4.size
        obtain ⟨w5, hw5⟩ : ∃ w5, w5 = w4.setCells (w.heap.size + 2) 0 [.int .i64 d.wk, .bool false, .int .i64 d.now, .int .i64 0, .int .i64 0, .int .i64 0, .slice a' (d.L1.length + K) c', .slice none 0 0, .slice none 0 0, .slice none 0 0, .slice none 0 0, .slice none 0 0] := ⟨_, rfl⟩
        have P5f : w4.grownBy w5 (some (w.heap.size + 2)) := by rw [hw5]; exact grown_setCells _ _ _ _ _ (World.grownBy.refl _ _)
        have hc5 : CF w5 (w.heap.size + 2) [.int .i64 d.wk, .bool false, .int .i64 d.now, .int .i64 0, .int .i64 0, .int .i64 0, .slice a' (d.L1.length + K) c', .slice none 0 0, .slice none 0 0, .slice none 0 0, .slice none 0 0, .slice none 0 0] := by rw [hw5]; exact R4.stored rfl
        have P5 := P4.block (P5f.block w.heap.size (by omega) (by intro hh; injection hh with hh; omega))
        have ho5 := ho4.grown P5f (.inr (by intro hh; have := ho4.row_lo _ hh; omega))
        have B5 := below_grown B4 P5f (by omega) (fun q hq => by simp at hq; omega)
        have HO : Hid (BossO w5 w.heap.size (fallB d keep) ⟨a', none, none, none, none, none, c', 0, 0, 0, 0, 0⟩) := by
          have hl : (d.L1 ++ d.L2.take K).length = d.L1.length + K := by rw [List.length_append, List.length_take]; omega
          have := oneBO w5 w.heap.size d.wk d.now (d.L1 ++ d.L2.take K) a' c' (by rw [hl]; exact ho5.mono' (by omega))
          rw [HK.out] at this
          exact this
        have HB5 := hid B5
        have HL : Hid (d.L1.length + K = (fallB d keep).L1.length) := by show _ = (d.L1 ++ d.L2.take (keptN keep d.L2.length)).length; rw [← HK.out, List.length_append, List.length_take]; show _ = _; omega
        have hsl : Hid (∀ (ρ : Operand → Value) (o : Oper) (w : World) (x y : Operand), o.op = .slice 25 x none (some y) none → ρ x = .slice h.a2 d.L2.length h.c2 → ρ y = .int .i64 (0) → (execOp ρ o).run Tryz.prog w = .ok (.value (.slice h.a2 K h.c2)) w) := hid (fun ρ o w x y ho hx hy => by
          rw [HA2.out]
          rw [HA2.out] at hx
          exact run_sl x y g2 0 d.L2.length h.c2 K (Nat.le_trans hKl hc2) ho hx (by rw [hy, e7]))
        clear hown0 ho3 ho4 ho5 hg3 hg4 hrow hrow0 Bd BE B3 B4 B5 P5f h1 h2 h3 h4 h5 h6 hsm hKl HK hT e7 RE R3 HA2 hc2
        refine wp_region_held (S := fun w' => CF w' w.heap.size [.int .i64 d.wk, .bool d.up, .int .i64 d.now, .int .i64 d.sn, .int .i64 d.ep, .int .i64 d.gv, .slice h.a1 d.L1.length h.c1, .slice h.a2 d.L2.length h.c2, .slice h.ar d.R.length h.cr, .slice h.aj d.J.length h.cj, .slice h.az d.S.length h.cs, .slice h.ao d.O.length h.co]) (by kernel_rfl) ?_
        change wpAnyH _ _ _ _ _ _ _ _ (World.drew _)
        rw [← hU]
        clear hU P1 R1 B1 z1
        refine hTake (i := 0) (d := some 29) (v := .pointer (some ⟨w.heap.size, 0, none⟩)) (l' := #[true, false, false, false, false, false, false, false, false, false, false, false, false, false, false, false, false, false]) rfl (by kernel_rfl) (by kernel_rfl) (by kernel_rfl) (by kernel_rfl) (fun _ _ _ h => h) (by kernel_rfl) (fun _ hc => by kernel_rfl) Pd (by kernel_rfl) ?_
        refine hTake (i := 1) (d := some 30) (v := .int .i64 d.wk) (l' := #[true, true, false, false, false, false, false, false, false, false, false, false, false, false, false, false, false, false]) rfl (by kernel_rfl) (by kernel_rfl) (by kernel_rfl) (by kernel_rfl) (fun _ _ _ h => h) (by kernel_rfl) (fun _ hc => run_ldI (.tmp 29) (by kernel_rfl) (by kernel_rfl) (hc 0 (by simp)).1) Pd (by kernel_rfl) ?_
        refine hTake (i := 2) (d := some 31) (v := .pointer (some ⟨w.heap.size, 2, none⟩)) (l' := #[true, true, true, false, false, false, false, false, false, false, false, false, false, false, false, false, false, false]) rfl (by kernel_rfl) (by kernel_rfl) (by kernel_rfl) (by kernel_rfl) (fun _ _ _ h => h) (by kernel_rfl) (fun _ hc => by kernel_rfl) Pd (by kernel_rfl) ?_
        refine hTake (i := 3) (d := some 32) (v := .int .i64 d.now) (l' := #[true, true, true, true, false, false, false, false, false, false, false, false, false, false, false, false, false, false]) rfl (by kernel_rfl) (by kernel_rfl) (by kernel_rfl) (by kernel_rfl) (fun _ _ _ h => h) (by kernel_rfl) (fun _ hc => run_ldI (.tmp 31) (by kernel_rfl) (by kernel_rfl) (hc 2 (by simp)).1) Pd (by kernel_rfl) ?_
        refine hTake (i := 5) (d := some 34) (v := .pointer (some ⟨w.heap.size, 6, none⟩)) (l' := #[true, true, true, true, false, true, false, false, false, false, false, false, false, false, false, false, false, false]) rfl (by kernel_rfl) (by kernel_rfl) (by kernel_rfl) (by kernel_rfl) (fun _ _ _ h => h) (by kernel_rfl) (fun _ hc => by kernel_rfl) Pd (by kernel_rfl) ?_
        refine hTake (i := 6) (d := some 35) (v := .pointer (some ⟨w.heap.size, 6, none⟩)) (l' := #[true, true, true, true, false, true, true, false, false, false, false, false, false, false, false, false, false, false]) rfl (by kernel_rfl) (by kernel_rfl) (by kernel_rfl) (by kernel_rfl) (fun _ _ _ h => h) (by kernel_rfl) (fun _ hc => by kernel_rfl) Pd (by kernel_rfl) ?_
        refine hTake (i := 7) (d := some 36) (v := .slice h.a1 d.L1.length h.c1) (l' := #[true, true, true, true, false, true, true, true, false, false, false, false, false, false, false, false, false, false]) rfl (by kernel_rfl) (by kernel_rfl) (by kernel_rfl) (by kernel_rfl) (fun _ _ _ h => h) (by kernel_rfl) (fun _ hc => run_ldss (.tmp 35) (by kernel_rfl) (by kernel_rfl) (hc 6 (by simp)).1) Pd (by kernel_rfl) ?_
        refine hTake (i := 9) (d := some 38) (v := .pointer (some ⟨w.heap.size, 6, none⟩)) (l' := #[true, true, true, true, false, true, true, true, false, true, false, false, false, false, false, false, false, false]) rfl (by kernel_rfl) (by kernel_rfl) (by kernel_rfl) (by kernel_rfl) (fun _ _ _ h => h) (by kernel_rfl) (fun _ hc => by kernel_rfl) Pd (by kernel_rfl) ?_
        refine hTake (i := 10) (d := some 39) (v := .pointer (some ⟨w.heap.size, 7, none⟩)) (l' := #[true, true, true, true, false, true, true, true, false, true, true, false, false, false, false, false, false, false]) rfl (by kernel_rfl) (by kernel_rfl) (by kernel_rfl) (by kernel_rfl) (fun _ _ _ h => h) (by kernel_rfl) (fun _ hc => by kernel_rfl) Pd (by kernel_rfl) ?_
        refine hTake (i := 11) (d := some 40) (v := .slice h.a2 d.L2.length h.c2) (l' := #[true, true, true, true, false, true, true, true, false, true, true, true, false, false, false, false, false, false]) rfl (by kernel_rfl) (by kernel_rfl) (by kernel_rfl) (by kernel_rfl) (fun _ _ _ h => h) (by kernel_rfl) (fun _ hc => run_ldss (.tmp 39) (by kernel_rfl) (by kernel_rfl) (hc 7 (by simp)).1) Pd (by kernel_rfl) ?_
        refine hTake (i := 12) (d := some 41) (v := .int .i64 (0)) (l' := #[true, true, true, true, false, true, true, true, false, true, true, true, true, false, false, false, false, false]) rfl (by kernel_rfl) (by kernel_rfl) (by kernel_rfl) (by kernel_rfl) (fun _ _ _ h => h) (by kernel_rfl) (fun _ hc => by kernel_rfl) Pd (by kernel_rfl) ?_
        refine hTake (i := 13) (d := some 42) (v := .slice h.a2 K h.c2) (l' := #[true, true, true, true, false, true, true, true, false, true, true, true, true, true, false, false, false, false]) rfl (by kernel_rfl) (by kernel_rfl) (by kernel_rfl) (by kernel_rfl) (fun _ _ _ h => h) (by kernel_rfl) (fun _ hc => hsl.out _ _ _ (.tmp 40) (.tmp 41) (by kernel_rfl) (by kernel_rfl) (by kernel_rfl)) Pd (by kernel_rfl) ?_
        refine hOne (i := 4) (by kernel_rfl) (hVal (i := 4) (d := some 33) (v := .slice (some ⟨U.heap.size, 0, none⟩) 0 0) (w' := E) (l' := #[true, true, true, true, true, true, true, true, false, true, true, true, true, true, false, false, false, false]) rfl (by kernel_rfl) (by kernel_rfl) (by kernel_rfl) (by rw [hE]; exact run_bs0 (by kernel_rfl)) PE ?_)
        refine hOne (i := 8) (by kernel_rfl) (hVal (i := 8) (d := some 37) (v := .slice a9 d.L1.length c9) (w' := w3) (l' := #[true, true, true, true, true, true, true, true, true, true, true, true, true, true, false, false, false, false]) rfl (by kernel_rfl) (by kernel_rfl) (by kernel_rfl) (run_app (.tmp 33) (.tmp 36) 25 25 (by kernel_rfl) (by kernel_rfl) (by kernel_rfl) (by kernel_rfl) hr3) P3 ?_)
        refine hOne (i := 14) (by kernel_rfl) (hVal (i := 14) (d := some 43) (v := .slice a' (d.L1.length + K) c') (w' := w4) (l' := #[true, true, true, true, true, true, true, true, true, true, true, true, true, true, true, false, false, false]) rfl (by kernel_rfl) (by kernel_rfl) (by kernel_rfl) (run_app (.tmp 37) (.tmp 42) 25 25 (by kernel_rfl) (by kernel_rfl) (by kernel_rfl) (by kernel_rfl) hr1) P4 ?_)
        refine hTake (i := 15) (d := some 44) (v := .agg #[.slice a' (d.L1.length + K) c', .slice none 0 0]) (l' := #[true, true, true, true, true, true, true, true, true, true, true, true, true, true, true, true, false, false]) rfl (by kernel_rfl) (by kernel_rfl) (by kernel_rfl) (by kernel_rfl) (fun _ _ _ h => h) (by kernel_rfl) (fun _ hc => run_b42 (.tmp 43) (by kernel_rfl) (by kernel_rfl)) P4 (by kernel_rfl) ?_
        refine hTake (i := 16) (d := some 45) (v := .agg #[.int .i64 d.wk, .bool false, .int .i64 d.now, .int .i64 0, .int .i64 0, .int .i64 0, .slice a' (d.L1.length + K) c', .slice none 0 0, .slice none 0 0, .slice none 0 0, .slice none 0 0, .slice none 0 0]) (l' := #[true, true, true, true, true, true, true, true, true, true, true, true, true, true, true, true, true, false]) rfl (by kernel_rfl) (by kernel_rfl) (by kernel_rfl) (by kernel_rfl) (fun _ _ _ h => h) (by kernel_rfl) (fun _ hc => run_b47 (.tmp 30) (.tmp 32) (.tmp 44) (by kernel_rfl) (by kernel_rfl) (by kernel_rfl) (by kernel_rfl)) P4 (by kernel_rfl) ?_
        refine hOne (i := 17) (by kernel_rfl) (hSkip (i := 17) (w' := w5) (l' := #[true, true, true, true, true, true, true, true, true, true, true, true, true, true, true, true, true, true]) rfl (by kernel_rfl) (by kernel_rfl) (by kernel_rfl) (by rw [hw5]; exact run_stT 47 zB [.int .i64 d.wk, .bool false, .int .i64 d.now, .int .i64 0, .int .i64 0, .int .i64 0, .slice a' (d.L1.length + K) c', .slice none 0 0, .slice none 0 0, .slice none 0 0, .slice none 0 0, .slice none 0 0] (.tmp 6) (.tmp 45) (by kernel_rfl) (by kernel_rfl) (by kernel_rfl) R4 rfl Tryz.sizeBo (one12b _ _ _ _ _ _ _ _ _ _ _ _ _ _ _ _ _ _ _ _ _ _ _ _)) P5 ?_)
        have k0 : w5.cell? ⟨w.heap.size + 2, 0, none⟩ = some (.int .i64 d.wk) := (hc5 0 (by simp)).1
        have k1 : w5.cell? ⟨w.heap.size + 2, 1, none⟩ = some (.bool false) := (hc5 1 (by simp)).1
        have k2 : w5.cell? ⟨w.heap.size + 2, 2, none⟩ = some (.int .i64 d.now) := (hc5 2 (by simp)).1
        have k3 : w5.cell? ⟨w.heap.size + 2, 3, none⟩ = some (.int .i64 0) := (hc5 3 (by simp)).1
        have k4 : w5.cell? ⟨w.heap.size + 2, 4, none⟩ = some (.int .i64 0) := (hc5 4 (by simp)).1
        have k5 : w5.cell? ⟨w.heap.size + 2, 5, none⟩ = some (.int .i64 0) := (hc5 5 (by simp)).1
        have k6 : w5.cell? ⟨w.heap.size + 2, 6, none⟩ = some (.slice a' (d.L1.length + K) c') := (hc5 6 (by simp)).1
        have k7 : w5.cell? ⟨w.heap.size + 2, 7, none⟩ = some (.slice none 0 0) := (hc5 7 (by simp)).1
        have k8 : w5.cell? ⟨w.heap.size + 2, 8, none⟩ = some (.slice none 0 0) := (hc5 8 (by simp)).1
        have k9 : w5.cell? ⟨w.heap.size + 2, 9, none⟩ = some (.slice none 0 0) := (hc5 9 (by simp)).1
        have k10 : w5.cell? ⟨w.heap.size + 2, 10, none⟩ = some (.slice none 0 0) := (hc5 10 (by simp)).1
        have k11 : w5.cell? ⟨w.heap.size + 2, 11, none⟩ = some (.slice none 0 0) := (hc5 11 (by simp)).1
        refine wpAnyH_done (by kernel_rfl) ?_ _
        go_wp2
        refine bodyPost_ret (v := .agg #[.int .i64 d.wk, .bool false, .int .i64 d.now, .int .i64 0, .int .i64 0, .int .i64 0, .slice a' (d.L1.length + K) c', .slice none 0 0, .slice none 0 0, .slice none 0 0, .slice none 0 0, .slice none 0 0]) (by simp [results, Tryz.results27, go_sem, k0, k1, k2, k3, k4, k5, k6, k7, k8, k9, k10, k11]) rfl ⟨⟨fallB d keep, ⟨_, ?_, HO.out⟩, .inl ⟨HV.out, rfl⟩⟩, HB5.out⟩
        rw [HL.out]; rfl
      · by_cases c2 : (d.L2.length : Int) < keep
        · go_upto_region 9 with fail
          clear y1 y7
          obtain ⟨K, hK⟩ : ∃ K, K = keptN keep d.L2.length := ⟨_, rfl⟩
          have e7 : (d.L2.length : Int) = ((K : Nat) : Int) := by rw [hK]; unfold keptN; omega
          have hKl : K ≤ d.L2.length := by rw [hK]; exact keptN_le _ _
          have HK := hid hK
          clear hK
          obtain ⟨U, hU⟩ : ∃ U, U = w1.drew := ⟨_, rfl⟩
          have Pd : CF U w.heap.size [.int .i64 d.wk, .bool d.up, .int .i64 d.now, .int .i64 d.sn, .int .i64 d.ep, .int .i64 d.gv, .slice h.a1 d.L1.length h.c1, .slice h.a2 d.L2.length h.c2, .slice h.ar d.R.length h.cr, .slice h.aj d.J.length h.cj, .slice h.az d.S.length h.cs, .slice h.ao d.O.length h.co] := by rw [hU]; exact P1
          have Rd : CF U (w.heap.size + 2) zB := by rw [hU]; exact R1
          have Bd : Below w.heap.size w U := by rw [hU]; exact B1.drew
          have zd : w.heap.size + 3 ≤ U.heap.size := by rw [hU]; exact z1
          obtain ⟨E, hE⟩ : ∃ E, E = U.alloc (.cells #[] 9) := ⟨_, rfl⟩
          have hown0 : Own (w.heap.size + 3) E 1 (.slice (some ⟨U.heap.size, 0, none⟩) 0 0) 0 [] := by rw [hE]; exact bsOwn U _ zd
          have PE : CF E w.heap.size [.int .i64 d.wk, .bool d.up, .int .i64 d.now, .int .i64 d.sn, .int .i64 d.ep, .int .i64 d.gv, .slice h.a1 d.L1.length h.c1, .slice h.a2 d.L2.length h.c2, .slice h.ar d.R.length h.cr, .slice h.aj d.J.length h.cj, .slice h.az d.S.length h.cs, .slice h.ao d.O.length h.co] := by rw [hE]; exact Pd.block (Below.heap_alloc _ _ _ (by omega))
          have RE : CF E (w.heap.size + 2) zB := by rw [hE]; exact Rd.block (Below.heap_alloc _ _ _ (by omega))
          have BE : Below w.heap.size w E := by rw [hE]; exact Bd.alloc Bd.size _
          have zE : w.heap.size + 3 ≤ E.heap.size := by rw [hE]; simp; omega
          obtain ⟨a9, c9, w3, hr3, ho3, hg3, _⟩ := app0 w E (w.heap.size + 3) BE zE h.c1 h1 (by omega) hown0
          have hrow0 := hown0.row_lo
          have P3 := PE.block (hg3.block w.heap.size (by omega) (fun e => by have := hrow0 _ e.symm; omega))
          have R3 := RE.block (hg3.block (w.heap.size + 2) (by omega) (fun e => by have := hrow0 _ e.symm; omega))
          have B3 := below_grown BE hg3 (by omega) (fun q hq => by have := hrow0 q hq; omega)
          have z3 : w.heap.size + 3 ≤ w3.heap.size := Nat.le_trans zE hg3.size
          obtain ⟨v1, w4, hr1, ho4, hg4, _⟩ := run_append_c (P := Tryz.prog) w3 (w.heap.size + 3) 25 25 25 9 i0 (.string ⟨#[]⟩) 1 16 Tryz.underlying25 hi0 hz00 hz01 hz02 rfl _ d.L1.length _ ho3 _ K _ (((h2.below' B3).takeP K hKl).srcS h.c2) (by unfold maxLen; omega) (by omega) z3
          rw [← List.map_append] at ho4
          obtain ⟨a', c', rfl⟩ := ho4.slc
          have hrow := ho3.row_lo
          have P4 := P3.block (hg4.block w.heap.size (by omega) (fun e => by have := hrow _ e.symm; omega))
          have R4 := R3.block (hg4.block (w.heap.size + 2) (by omega) (fun e => by have := hrow _ e.symm; omega))
          have B4 := below_grown B3 hg4 (by omega) (fun q hq => by have := hrow q hq; omega)
          have z4 : w.heap.size + 3 ≤ w4.heap.size := Nat.le_trans z3 hg4.size
          obtain ⟨w5, hw5⟩ : ∃ w5, w5 = w4.setCells (w.heap.size + 2) 0 [.int .i64 d.wk, .bool false, .int .i64 d.now, .int .i64 0, .int .i64 0, .int .i64 0, .slice a' (d.L1.length + K) c', .slice none 0 0, .slice none 0 0, .slice none 0 0, .slice none 0 0, .slice none 0 0] := ⟨_, rfl⟩
          have P5f : w4.grownBy w5 (some (w.heap.size + 2)) := by rw [hw5]; exact grown_setCells _ _ _ _ _ (World.grownBy.refl _ _)
          have hc5 : CF w5 (w.heap.size + 2) [.int .i64 d.wk, .bool false, .int .i64 d.now, .int .i64 0, .int .i64 0, .int .i64 0, .slice a' (d.L1.length + K) c', .slice none 0 0, .slice none 0 0, .slice none 0 0, .slice none 0 0, .slice none 0 0] := by rw [hw5]; exact R4.stored rfl
          have P5 := P4.block (P5f.block w.heap.size (by omega) (by intro hh; injection hh with hh; omega))
          have ho5 := ho4.grown P5f (.inr (by intro hh; have := ho4.row_lo _ hh; omega))
          have B5 := below_grown B4 P5f (by omega) (fun q hq => by simp at hq; omega)
          have HO : Hid (BossO w5 w.heap.size (fallB d keep) ⟨a', none, none, none, none, none, c', 0, 0, 0, 0, 0⟩) := by
            have hl : (d.L1 ++ d.L2.take K).length = d.L1.length + K := by rw [List.length_append, List.length_take]; omega
            have := oneBO w5 w.heap.size d.wk d.now (d.L1 ++ d.L2.take K) a' c' (by rw [hl]; exact ho5.mono' (by omega))
            rw [HK.out] at this
            exact this
          have HB5 := hid B5
          have HL : Hid (d.L1.length + K = (fallB d keep).L1.length) := by show _ = (d.L1 ++ d.L2.take (keptN keep d.L2.length)).length; rw [← HK.out, List.length_append, List.length_take]; show _ = _; omega
          have hsl : Hid (∀ (ρ : Operand → Value) (o : Oper) (w : World) (x y : Operand), o.op = .slice 25 x none (some y) none → ρ x = .slice h.a2 d.L2.length h.c2 → ρ y = .int .i64 ((d.L2.length : Int)) → (execOp ρ o).run Tryz.prog w = .ok (.value (.slice h.a2 K h.c2)) w) := hid (fun ρ o w x y ho hx hy => by
            rw [HA2.out]
            rw [HA2.out] at hx
            exact run_sl x y g2 0 d.L2.length h.c2 K (Nat.le_trans hKl hc2) ho hx (by rw [hy, e7]))
          clear hown0 ho3 ho4 ho5 hg3 hg4 hrow hrow0 Bd BE B3 B4 B5 P5f h1 h2 h3 h4 h5 h6 hsm hKl HK hT e7 RE R3 HA2 hc2
          refine wp_region_held (S := fun w' => CF w' w.heap.size [.int .i64 d.wk, .bool d.up, .int .i64 d.now, .int .i64 d.sn, .int .i64 d.ep, .int .i64 d.gv, .slice h.a1 d.L1.length h.c1, .slice h.a2 d.L2.length h.c2, .slice h.ar d.R.length h.cr, .slice h.aj d.J.length h.cj, .slice h.az d.S.length h.cs, .slice h.ao d.O.length h.co]) (by kernel_rfl) ?_
          change wpAnyH _ _ _ _ _ _ _ _ (World.drew _)
          rw [← hU]
          clear hU P1 R1 B1 z1
          refine hTake (i := 0) (d := some 29) (v := .pointer (some ⟨w.heap.size, 0, none⟩)) (l' := #[true, false, false, false, false, false, false, false, false, false, false, false, false, false, false, false, false, false]) rfl (by kernel_rfl) (by kernel_rfl) (by kernel_rfl) (by kernel_rfl) (fun _ _ _ h => h) (by kernel_rfl) (fun _ hc => by kernel_rfl) Pd (by kernel_rfl) ?_
          refine hTake (i := 1) (d := some 30) (v := .int .i64 d.wk) (l' := #[true, true, false, false, false, false, false, false, false, false, false, false, false, false, false, false, false, false]) rfl (by kernel_rfl) (by kernel_rfl) (by kernel_rfl) (by kernel_rfl) (fun _ _ _ h => h) (by kernel_rfl) (fun _ hc => run_ldI (.tmp 29) (by kernel_rfl) (by kernel_rfl) (hc 0 (by simp)).1) Pd (by kernel_rfl) ?_
          refine hTake (i := 2) (d := some 31) (v := .pointer (some ⟨w.heap.size, 2, none⟩)) (l' := #[true, true, true, false, false, false, false, false, false, false, false, false, false, false, false, false, false, false]) rfl (by kernel_rfl) (by kernel_rfl) (by kernel_rfl) (by kernel_rfl) (fun _ _ _ h => h) (by kernel_rfl) (fun _ hc => by kernel_rfl) Pd (by kernel_rfl) ?_
          refine hTake (i := 3) (d := some 32) (v := .int .i64 d.now) (l' := #[true, true, true, true, false, false, false, false, false, false, false, false, false, false, false, false, false, false]) rfl (by kernel_rfl) (by kernel_rfl) (by kernel_rfl) (by kernel_rfl) (fun _ _ _ h => h) (by kernel_rfl) (fun _ hc => run_ldI (.tmp 31) (by kernel_rfl) (by kernel_rfl) (hc 2 (by simp)).1) Pd (by kernel_rfl) ?_
          refine hTake (i := 5) (d := some 34) (v := .pointer (some ⟨w.heap.size, 6, none⟩)) (l' := #[true, true, true, true, false, true, false, false, false, false, false, false, false, false, false, false, false, false]) rfl (by kernel_rfl) (by kernel_rfl) (by kernel_rfl) (by kernel_rfl) (fun _ _ _ h => h) (by kernel_rfl) (fun _ hc => by kernel_rfl) Pd (by kernel_rfl) ?_
          refine hTake (i := 6) (d := some 35) (v := .pointer (some ⟨w.heap.size, 6, none⟩)) (l' := #[true, true, true, true, false, true, true, false, false, false, false, false, false, false, false, false, false, false]) rfl (by kernel_rfl) (by kernel_rfl) (by kernel_rfl) (by kernel_rfl) (fun _ _ _ h => h) (by kernel_rfl) (fun _ hc => by kernel_rfl) Pd (by kernel_rfl) ?_
          refine hTake (i := 7) (d := some 36) (v := .slice h.a1 d.L1.length h.c1) (l' := #[true, true, true, true, false, true, true, true, false, false, false, false, false, false, false, false, false, false]) rfl (by kernel_rfl) (by kernel_rfl) (by kernel_rfl) (by kernel_rfl) (fun _ _ _ h => h) (by kernel_rfl) (fun _ hc => run_ldss (.tmp 35) (by kernel_rfl) (by kernel_rfl) (hc 6 (by simp)).1) Pd (by kernel_rfl) ?_
          refine hTake (i := 9) (d := some 38) (v := .pointer (some ⟨w.heap.size, 6, none⟩)) (l' := #[true, true, true, true, false, true, true, true, false, true, false, false, false, false, false, false, false, false]) rfl (by kernel_rfl) (by kernel_rfl) (by kernel_rfl) (by kernel_rfl) (fun _ _ _ h => h) (by kernel_rfl) (fun _ hc => by kernel_rfl) Pd (by kernel_rfl) ?_
          refine hTake (i := 10) (d := some 39) (v := .pointer (some ⟨w.heap.size, 7, none⟩)) (l' := #[true, true, true, true, false, true, true, true, false, true, true, false, false, false, false, false, false, false]) rfl (by kernel_rfl) (by kernel_rfl) (by kernel_rfl) (by kernel_rfl) (fun _ _ _ h => h) (by kernel_rfl) (fun _ hc => by kernel_rfl) Pd (by kernel_rfl) ?_
          refine hTake (i := 11) (d := some 40) (v := .slice h.a2 d.L2.length h.c2) (l' := #[true, true, true, true, false, true, true, true, false, true, true, true, false, false, false, false, false, false]) rfl (by kernel_rfl) (by kernel_rfl) (by kernel_rfl) (by kernel_rfl) (fun _ _ _ h => h) (by kernel_rfl) (fun _ hc => run_ldss (.tmp 39) (by kernel_rfl) (by kernel_rfl) (hc 7 (by simp)).1) Pd (by kernel_rfl) ?_
          refine hTake (i := 12) (d := some 41) (v := .int .i64 ((d.L2.length : Int))) (l' := #[true, true, true, true, false, true, true, true, false, true, true, true, true, false, false, false, false, false]) rfl (by kernel_rfl) (by kernel_rfl) (by kernel_rfl) (by kernel_rfl) (fun _ _ _ h => h) (by kernel_rfl) (fun _ hc => by kernel_rfl) Pd (by kernel_rfl) ?_
          refine hTake (i := 13) (d := some 42) (v := .slice h.a2 K h.c2) (l' := #[true, true, true, true, false, true, true, true, false, true, true, true, true, true, false, false, false, false]) rfl (by kernel_rfl) (by kernel_rfl) (by kernel_rfl) (by kernel_rfl) (fun _ _ _ h => h) (by kernel_rfl) (fun _ hc => hsl.out _ _ _ (.tmp 40) (.tmp 41) (by kernel_rfl) (by kernel_rfl) (by kernel_rfl)) Pd (by kernel_rfl) ?_
          refine hOne (i := 4) (by kernel_rfl) (hVal (i := 4) (d := some 33) (v := .slice (some ⟨U.heap.size, 0, none⟩) 0 0) (w' := E) (l' := #[true, true, true, true, true, true, true, true, false, true, true, true, true, true, false, false, false, false]) rfl (by kernel_rfl) (by kernel_rfl) (by kernel_rfl) (by rw [hE]; exact run_bs0 (by kernel_rfl)) PE ?_)
          refine hOne (i := 8) (by kernel_rfl) (hVal (i := 8) (d := some 37) (v := .slice a9 d.L1.length c9) (w' := w3) (l' := #[true, true, true, true, true, true, true, true, true, true, true, true, true, true, false, false, false, false]) rfl (by kernel_rfl) (by kernel_rfl) (by kernel_rfl) (run_app (.tmp 33) (.tmp 36) 25 25 (by kernel_rfl) (by kernel_rfl) (by kernel_rfl) (by kernel_rfl) hr3) P3 ?_)
          refine hOne (i := 14) (by kernel_rfl) (hVal (i := 14) (d := some 43) (v := .slice a' (d.L1.length + K) c') (w' := w4) (l' := #[true, true, true, true, true, true, true, true, true, true, true, true, true, true, true, false, false, false]) rfl (by kernel_rfl) (by kernel_rfl) (by kernel_rfl) (run_app (.tmp 37) (.tmp 42) 25 25 (by kernel_rfl) (by kernel_rfl) (by kernel_rfl) (by kernel_rfl) hr1) P4 ?_)
          refine hTake (i := 15) (d := some 44) (v := .agg #[.slice a' (d.L1.length + K) c', .slice none 0 0]) (l' := #[true, true, true, true, true, true, true, true, true, true, true, true, true, true, true, true, false, false]) rfl (by kernel_rfl) (by kernel_rfl) (by kernel_rfl) (by kernel_rfl) (fun _ _ _ h => h) (by kernel_rfl) (fun _ hc => run_b42 (.tmp 43) (by kernel_rfl) (by kernel_rfl)) P4 (by kernel_rfl) ?_
          refine hTake (i := 16) (d := some 45) (v := .agg #[.int .i64 d.wk, .bool false, .int .i64 d.now, .int .i64 0, .int .i64 0, .int .i64 0, .slice a' (d.L1.length + K) c', .slice none 0 0, .slice none 0 0, .slice none 0 0, .slice none 0 0, .slice none 0 0]) (l' := #[true, true, true, true, true, true, true, true, true, true, true, true, true, true, true, true, true, false]) rfl (by kernel_rfl) (by kernel_rfl) (by kernel_rfl) (by kernel_rfl) (fun _ _ _ h => h) (by kernel_rfl) (fun _ hc => run_b47 (.tmp 30) (.tmp 32) (.tmp 44) (by kernel_rfl) (by kernel_rfl) (by kernel_rfl) (by kernel_rfl)) P4 (by kernel_rfl) ?_
          refine hOne (i := 17) (by kernel_rfl) (hSkip (i := 17) (w' := w5) (l' := #[true, true, true, true, true, true, true, true, true, true, true, true, true, true, true, true, true, true]) rfl (by kernel_rfl) (by kernel_rfl) (by kernel_rfl) (by rw [hw5]; exact run_stT 47 zB [.int .i64 d.wk, .bool false, .int .i64 d.now, .int .i64 0, .int .i64 0, .int .i64 0, .slice a' (d.L1.length + K) c', .slice none 0 0, .slice none 0 0, .slice none 0 0, .slice none 0 0, .slice none 0 0] (.tmp 6) (.tmp 45) (by kernel_rfl) (by kernel_rfl) (by kernel_rfl) R4 rfl Tryz.sizeBo (one12b _ _ _ _ _ _ _ _ _ _ _ _ _ _ _ _ _ _ _ _ _ _ _ _)) P5 ?_)
          have k0 : w5.cell? ⟨w.heap.size + 2, 0, none⟩ = some (.int .i64 d.wk) := (hc5 0 (by simp)).1
          have k1 : w5.cell? ⟨w.heap.size + 2, 1, none⟩ = some (.bool false) := (hc5 1 (by simp)).1
          have k2 : w5.cell? ⟨w.heap.size + 2, 2, none⟩ = some (.int .i64 d.now) := (hc5 2 (by simp)).1
          have k3 : w5.cell? ⟨w.heap.size + 2, 3, none⟩ = some (.int .i64 0) := (hc5 3 (by simp)).1
          have k4 : w5.cell? ⟨w.heap.size + 2, 4, none⟩ = some (.int .i64 0) := (hc5 4 (by simp)).1
          have k5 : w5.cell? ⟨w.heap.size + 2, 5, none⟩ = some (.int .i64 0) := (hc5 5 (by simp)).1
          have k6 : w5.cell? ⟨w.heap.size + 2, 6, none⟩ = some (.slice a' (d.L1.length + K) c') := (hc5 6 (by simp)).1
          have k7 : w5.cell? ⟨w.heap.size + 2, 7, none⟩ = some (.slice none 0 0) := (hc5 7 (by simp)).1
          have k8 : w5.cell? ⟨w.heap.size + 2, 8, none⟩ = some (.slice none 0 0) := (hc5 8 (by simp)).1
          have k9 : w5.cell? ⟨w.heap.size + 2, 9, none⟩ = some (.slice none 0 0) := (hc5 9 (by simp)).1
          have k10 : w5.cell? ⟨w.heap.size + 2, 10, none⟩ = some (.slice none 0 0) := (hc5 10 (by simp)).1
          have k11 : w5.cell? ⟨w.heap.size + 2, 11, none⟩ = some (.slice none 0 0) := (hc5 11 (by simp)).1
          refine wpAnyH_done (by kernel_rfl) ?_ _
          go_wp2
          refine bodyPost_ret (v := .agg #[.int .i64 d.wk, .bool false, .int .i64 d.now, .int .i64 0, .int .i64 0, .int .i64 0, .slice a' (d.L1.length + K) c', .slice none 0 0, .slice none 0 0, .slice none 0 0, .slice none 0 0, .slice none 0 0]) (by simp [results, Tryz.results27, go_sem, k0, k1, k2, k3, k4, k5, k6, k7, k8, k9, k10, k11]) rfl ⟨⟨fallB d keep, ⟨_, ?_, HO.out⟩, .inl ⟨HV.out, rfl⟩⟩, HB5.out⟩
          rw [HL.out]; rfl
        · go_upto_region 9 with fail
          clear y1 y7
          obtain ⟨K, hK⟩ : ∃ K, K = keptN keep d.L2.length := ⟨_, rfl⟩
          have e7 : keep = ((K : Nat) : Int) := by rw [hK]; unfold keptN; omega
          have hKl : K ≤ d.L2.length := by rw [hK]; exact keptN_le _ _
          have HK := hid hK
          clear hK
          obtain ⟨U, hU⟩ : ∃ U, U = w1.drew := ⟨_, rfl⟩
          have Pd : CF U w.heap.size [.int .i64 d.wk, .bool d.up, .int .i64 d.now, .int .i64 d.sn, .int .i64 d.ep, .int .i64 d.gv, .slice h.a1 d.L1.length h.c1, .slice h.a2 d.L2.length h.c2, .slice h.ar d.R.length h.cr, .slice h.aj d.J.length h.cj, .slice h.az d.S.length h.cs, .slice h.ao d.O.length h.co] := by rw [hU]; exact P1
          have Rd : CF U (w.heap.size + 2) zB := by rw [hU]; exact R1
          have Bd : Below w.heap.size w U := by rw [hU]; exact B1.drew
          have zd : w.heap.size + 3 ≤ U.heap.size := by rw [hU]; exact z1
          obtain ⟨E, hE⟩ : ∃ E, E = U.alloc (.cells #[] 9) := ⟨_, rfl⟩
          have hown0 : Own (w.heap.size + 3) E 1 (.slice (some ⟨U.heap.size, 0, none⟩) 0 0) 0 [] := by rw [hE]; exact bsOwn U _ zd
          have PE : CF E w.heap.size [.int .i64 d.wk, .bool d.up, .int .i64 d.now, .int .i64 d.sn, .int .i64 d.ep, .int .i64 d.gv, .slice h.a1 d.L1.length h.c1, .slice h.a2 d.L2.length h.c2, .slice h.ar d.R.length h.cr, .slice h.aj d.J.length h.cj, .slice h.az d.S.length h.cs, .slice h.ao d.O.length h.co] := by rw [hE]; exact Pd.block (Below.heap_alloc _ _ _ (by omega))
          have RE : CF E (w.heap.size + 2) zB := by rw [hE]; exact Rd.block (Below.heap_alloc _ _ _ (by omega))
          have BE : Below w.heap.size w E := by rw [hE]; exact Bd.alloc Bd.size _
          have zE : w.heap.size + 3 ≤ E.heap.size := by rw [hE]; simp; omega
          obtain ⟨a9, c9, w3, hr3, ho3, hg3, _⟩ := app0 w E (w.heap.size + 3) BE zE h.c1 h1 (by omega) hown0
          have hrow0 := hown0.row_lo
          have P3 := PE.block (hg3.block w.heap.size (by omega) (fun e => by have := hrow0 _ e.symm; omega))
          have R3 := RE.block (hg3.block (w.heap.size + 2) (by omega) (fun e => by have := hrow0 _ e.symm; omega))
          have B3 := below_grown BE hg3 (by omega) (fun q hq => by have := hrow0 q hq; omega)
          have z3 : w.heap.size + 3 ≤ w3.heap.size := Nat.le_trans zE hg3.size
          obtain ⟨v1, w4, hr1, ho4, hg4, _⟩ := run_append_c (P := Tryz.prog) w3 (w.heap.size + 3) 25 25 25 9 i0 (.string ⟨#[]⟩) 1 16 Tryz.underlying25 hi0 hz00 hz01 hz02 rfl _ d.L1.length _ ho3 _ K _ (((h2.below' B3).takeP K hKl).srcS h.c2) (by unfold maxLen; omega) (by omega) z3
          rw [← List.map_append] at ho4
          obtain ⟨a', c', rfl⟩ := ho4.slc
          have hrow := ho3.row_lo
          have P4 := P3.block (hg4.block w.heap.size (by omega) (fun e => by have := hrow _ e.symm; omega))
          have R4 := R3.block (hg4.block (w.heap.size + 2) (by omega) (fun e => by have := hrow _ e.symm; omega))
          have B4 := below_grown B3 hg4 (by omega) (fun q hq => by have := hrow q hq; omega)
          have z4 : w.heap.size + 3 ≤ w4.heap.size := Nat.le_trans z3 hg4.size
          obtain ⟨w5, hw5⟩ : ∃ w5, w5 = w4.setCells (w.heap.size + 2) 0 [.int .i64 d.wk, .bool false, .int .i64 d.now, .int .i64 0, .int .i64 0, .int .i64 0, .slice a' (d.L1.length + K) c', .slice none 0 0, .slice none 0 0, .slice none 0 0, .slice none 0 0, .slice none 0 0] := ⟨_, rfl⟩
          have P5f : w4.grownBy w5 (some (w.heap.size + 2)) := by rw [hw5]; exact grown_setCells _ _ _ _ _ (World.grownBy.refl _ _)
          have hc5 : CF w5 (w.heap.size + 2) [.int .i64 d.wk, .bool false, .int .i64 d.now, .int .i64 0, .int .i64 0, .int .i64 0, .slice a' (d.L1.length + K) c', .slice none 0 0, .slice none 0 0, .slice none 0 0, .slice none 0 0, .slice none 0 0] := by rw [hw5]; exact R4.stored rfl
          have P5 := P4.block (P5f.block w.heap.size (by omega) (by intro hh; injection hh with hh; omega))
          have ho5 := ho4.grown P5f (.inr (by intro hh; have := ho4.row_lo _ hh; omega))
          have B5 := below_grown B4 P5f (by omega) (fun q hq => by simp at hq; omega)
          have HO : Hid (BossO w5 w.heap.size (fallB d keep) ⟨a', none, none, none, none, none, c', 0, 0, 0, 0, 0⟩) := by
            have hl : (d.L1 ++ d.L2.take K).length = d.L1.length + K := by rw [List.length_append, List.length_take]; omega
            have := oneBO w5 w.heap.size d.wk d.now (d.L1 ++ d.L2.take K) a' c' (by rw [hl]; exact ho5.mono' (by omega))
            rw [HK.out] at this
            exact this
          have HB5 := hid B5
          have HL : Hid (d.L1.length + K = (fallB d keep).L1.length) := by show _ = (d.L1 ++ d.L2.take (keptN keep d.L2.length)).length; rw [← HK.out, List.length_append, List.length_take]; show _ = _; omega
          have hsl : Hid (∀ (ρ : Operand → Value) (o : Oper) (w : World) (x y : Operand), o.op = .slice 25 x none (some y) none → ρ x = .slice h.a2 d.L2.length h.c2 → ρ y = .int .i64 (keep) → (execOp ρ o).run Tryz.prog w = .ok (.value (.slice h.a2 K h.c2)) w) := hid (fun ρ o w x y ho hx hy => by
            rw [HA2.out]
            rw [HA2.out] at hx
            exact run_sl x y g2 0 d.L2.length h.c2 K (Nat.le_trans hKl hc2) ho hx (by rw [hy, e7]))
          clear hown0 ho3 ho4 ho5 hg3 hg4 hrow hrow0 Bd BE B3 B4 B5 P5f h1 h2 h3 h4 h5 h6 hsm hKl HK hT e7 RE R3 HA2 hc2
          refine wp_region_held (S := fun w' => CF w' w.heap.size [.int .i64 d.wk, .bool d.up, .int .i64 d.now, .int .i64 d.sn, .int .i64 d.ep, .int .i64 d.gv, .slice h.a1 d.L1.length h.c1, .slice h.a2 d.L2.length h.c2, .slice h.ar d.R.length h.cr, .slice h.aj d.J.length h.cj, .slice h.az d.S.length h.cs, .slice h.ao d.O.length h.co]) (by kernel_rfl) ?_
          change wpAnyH _ _ _ _ _ _ _ _ (World.drew _)
          rw [← hU]
          clear hU P1 R1 B1 z1
          refine hTake (i := 0) (d := some 29) (v := .pointer (some ⟨w.heap.size, 0, none⟩)) (l' := #[true, false, false, false, false, false, false, false, false, false, false, false, false, false, false, false, false, false]) rfl (by kernel_rfl) (by kernel_rfl) (by kernel_rfl) (by kernel_rfl) (fun _ _ _ h => h) (by kernel_rfl) (fun _ hc => by kernel_rfl) Pd (by kernel_rfl) ?_
          refine hTake (i := 1) (d := some 30) (v := .int .i64 d.wk) (l' := #[true, true, false, false, false, false, false, false, false, false, false, false, false, false, false, false, false, false]) rfl (by kernel_rfl) (by kernel_rfl) (by kernel_rfl) (by kernel_rfl) (fun _ _ _ h => h) (by kernel_rfl) (fun _ hc => run_ldI (.tmp 29) (by kernel_rfl) (by kernel_rfl) (hc 0 (by simp)).1) Pd (by kernel_rfl) ?_
          refine hTake (i := 2) (d := some 31) (v := .pointer (some ⟨w.heap.size, 2, none⟩)) (l' := #[true, true, true, false, false, false, false, false, false, false, false, false, false, false, false, false, false, false]) rfl (by kernel_rfl) (by kernel_rfl) (by kernel_rfl) (by kernel_rfl) (fun _ _ _ h => h) (by kernel_rfl) (fun _ hc => by kernel_rfl) Pd (by kernel_rfl) ?_
          refine hTake (i := 3) (d := some 32) (v := .int .i64 d.now) (l' := #[true, true, true, true, false, false, false, false, false, false, false, false, false, false, false, false, false, false]) rfl (by kernel_rfl) (by kernel_rfl) (by kernel_rfl) (by kernel_rfl) (fun _ _ _ h => h) (by kernel_rfl) (fun _ hc => run_ldI (.tmp 31) (by kernel_rfl) (by kernel_rfl) (hc 2 (by simp)).1) Pd (by kernel_rfl) ?_
          refine hTake (i := 5) (d := some 34) (v := .pointer (some ⟨w.heap.size, 6, none⟩)) (l' := #[true, true, true, true, false, true, false, false, false, false, false, false, false, false, false, false, false, false]) rfl (by kernel_rfl) (by kernel_rfl) (by kernel_rfl) (by kernel_rfl) (fun _ _ _ h => h) (by kernel_rfl) (fun _ hc => by kernel_rfl) Pd (by kernel_rfl) ?_
          refine hTake (i := 6) (d := some 35) (v := .pointer (some ⟨w.heap.size, 6, none⟩)) (l' := #[true, true, true, true, false, true, true, false, false, false, false, false, false, false, false, false, false, false]) rfl (by kernel_rfl) (by kernel_rfl) (by kernel_rfl) (by kernel_rfl) (fun _ _ _ h => h) (by kernel_rfl) (fun _ hc => by kernel_rfl) Pd (by kernel_rfl) ?_
          refine hTake (i := 7) (d := some 36) (v := .slice h.a1 d.L1.length h.c1) (l' := #[true, true, true, true, false, true, true, true, false, false, false, false, false, false, false, false, false, false]) rfl (by kernel_rfl) (by kernel_rfl) (by kernel_rfl) (by kernel_rfl) (fun _ _ _ h => h) (by kernel_rfl) (fun _ hc => run_ldss (.tmp 35) (by kernel_rfl) (by kernel_rfl) (hc 6 (by simp)).1) Pd (by kernel_rfl) ?_
          refine hTake (i := 9) (d := some 38) (v := .pointer (some ⟨w.heap.size, 6, none⟩)) (l' := #[true, true, true, true, false, true, true, true, false, true, false, false, false, false, false, false, false, false]) rfl (by kernel_rfl) (by kernel_rfl) (by kernel_rfl) (by kernel_rfl) (fun _ _ _ h => h) (by kernel_rfl) (fun _ hc => by kernel_rfl) Pd (by kernel_rfl) ?_
          refine hTake (i := 10) (d := some 39) (v := .pointer (some ⟨w.heap.size, 7, none⟩)) (l' := #[true, true, true, true, false, true, true, true, false, true, true, false, false, false, false, false, false, false]) rfl (by kernel_rfl) (by kernel_rfl) (by kernel_rfl) (by kernel_rfl) (fun _ _ _ h => h) (by kernel_rfl) (fun _ hc => by kernel_rfl) Pd (by kernel_rfl) ?_
          refine hTake (i := 11) (d := some 40) (v := .slice h.a2 d.L2.length h.c2) (l' := #[true, true, true, true, false, true, true, true, false, true, true, true, false, false, false, false, false, false]) rfl (by kernel_rfl) (by kernel_rfl) (by kernel_rfl) (by kernel_rfl) (fun _ _ _ h => h) (by kernel_rfl) (fun _ hc => run_ldss (.tmp 39) (by kernel_rfl) (by kernel_rfl) (hc 7 (by simp)).1) Pd (by kernel_rfl) ?_
          refine hTake (i := 12) (d := some 41) (v := .int .i64 (keep)) (l' := #[true, true, true, true, false, true, true, true, false, true, true, true, true, false, false, false, false, false]) rfl (by kernel_rfl) (by kernel_rfl) (by kernel_rfl) (by kernel_rfl) (fun _ _ _ h => h) (by kernel_rfl) (fun _ hc => by kernel_rfl) Pd (by kernel_rfl) ?_
          refine hTake (i := 13) (d := some 42) (v := .slice h.a2 K h.c2) (l' := #[true, true, true, true, false, true, true, true, false, true, true, true, true, true, false, false, false, false]) rfl (by kernel_rfl) (by kernel_rfl) (by kernel_rfl) (by kernel_rfl) (fun _ _ _ h => h) (by kernel_rfl) (fun _ hc => hsl.out _ _ _ (.tmp 40) (.tmp 41) (by kernel_rfl) (by kernel_rfl) (by kernel_rfl)) Pd (by kernel_rfl) ?_
          refine hOne (i := 4) (by kernel_rfl) (hVal (i := 4) (d := some 33) (v := .slice (some ⟨U.heap.size, 0, none⟩) 0 0) (w' := E) (l' := #[true, true, true, true, true, true, true, true, false, true, true, true, true, true, false, false, false, false]) rfl (by kernel_rfl) (by kernel_rfl) (by kernel_rfl) (by rw [hE]; exact run_bs0 (by kernel_rfl)) PE ?_)
          refine hOne (i := 8) (by kernel_rfl) (hVal (i := 8) (d := some 37) (v := .slice a9 d.L1.length c9) (w' := w3) (l' := #[true, true, true, true, true, true, true, true, true, true, true, true, true, true, false, false, false, false]) rfl (by kernel_rfl) (by kernel_rfl) (by kernel_rfl) (run_app (.tmp 33) (.tmp 36) 25 25 (by kernel_rfl) (by kernel_rfl) (by kernel_rfl) (by kernel_rfl) hr3) P3 ?_)
          refine hOne (i := 14) (by kernel_rfl) (hVal (i := 14) (d := some 43) (v := .slice a' (d.L1.length + K) c') (w' := w4) (l' := #[true, true, true, true, true, true, true, true, true, true, true, true, true, true, true, false, false, false]) rfl (by kernel_rfl) (by kernel_rfl) (by kernel_rfl) (run_app (.tmp 37) (.tmp 42) 25 25 (by kernel_rfl) (by kernel_rfl) (by kernel_rfl) (by kernel_rfl) hr1) P4 ?_)
          refine hTake (i := 15) (d := some 44) (v := .agg #[.slice a' (d.L1.length + K) c', .slice none 0 0]) (l' := #[true, true, true, true, true, true, true, true, true, true, true, true, true, true, true, true, false, false]) rfl (by kernel_rfl) (by kernel_rfl) (by kernel_rfl) (by kernel_rfl) (fun _ _ _ h => h) (by kernel_rfl) (fun _ hc => run_b42 (.tmp 43) (by kernel_rfl) (by kernel_rfl)) P4 (by kernel_rfl) ?_
          refine hTake (i := 16) (d := some 45) (v := .agg #[.int .i64 d.wk, .bool false, .int .i64 d.now, .int .i64 0, .int .i64 0, .int .i64 0, .slice a' (d.L1.length + K) c', .slice none 0 0, .slice none 0 0, .slice none 0 0, .slice none 0 0, .slice none 0 0]) (l' := #[true, true, true, true, true, true, true, true, true, true, true, true, true, true, true, true, true, false]) rfl (by kernel_rfl) (by kernel_rfl) (by kernel_rfl) (by kernel_rfl) (fun _ _ _ h => h) (by kernel_rfl) (fun _ hc => run_b47 (.tmp 30) (.tmp 32) (.tmp 44) (by kernel_rfl) (by kernel_rfl) (by kernel_rfl) (by kernel_rfl)) P4 (by kernel_rfl) ?_
          refine hOne (i := 17) (by kernel_rfl) (hSkip (i := 17) (w' := w5) (l' := #[true, true, true, true, true, true, true, true, true, true, true, true, true, true, true, true, true, true]) rfl (by kernel_rfl) (by kernel_rfl) (by kernel_rfl) (by rw [hw5]; exact run_stT 47 zB [.int .i64 d.wk, .bool false, .int .i64 d.now, .int .i64 0, .int .i64 0, .int .i64 0, .slice a' (d.L1.length + K) c', .slice none 0 0, .slice none 0 0, .slice none 0 0, .slice none 0 0, .slice none 0 0] (.tmp 6) (.tmp 45) (by kernel_rfl) (by kernel_rfl) (by kernel_rfl) R4 rfl Tryz.sizeBo (one12b _ _ _ _ _ _ _ _ _ _ _ _ _ _ _ _ _ _ _ _ _ _ _ _)) P5 ?_)
          have k0 : w5.cell? ⟨w.heap.size + 2, 0, none⟩ = some (.int .i64 d.wk) := (hc5 0 (by simp)).1
          have k1 : w5.cell? ⟨w.heap.size + 2, 1, none⟩ = some (.bool false) := (hc5 1 (by simp)).1
          have k2 : w5.cell? ⟨w.heap.size + 2, 2, none⟩ = some (.int .i64 d.now) := (hc5 2 (by simp)).1
          have k3 : w5.cell? ⟨w.heap.size + 2, 3, none⟩ = some (.int .i64 0) := (hc5 3 (by simp)).1
          have k4 : w5.cell? ⟨w.heap.size + 2, 4, none⟩ = some (.int .i64 0) := (hc5 4 (by simp)).1
          have k5 : w5.cell? ⟨w.heap.size + 2, 5, none⟩ = some (.int .i64 0) := (hc5 5 (by simp)).1
          have k6 : w5.cell? ⟨w.heap.size + 2, 6, none⟩ = some (.slice a' (d.L1.length + K) c') := (hc5 6 (by simp)).1
          have k7 : w5.cell? ⟨w.heap.size + 2, 7, none⟩ = some (.slice none 0 0) := (hc5 7 (by simp)).1
          have k8 : w5.cell? ⟨w.heap.size + 2, 8, none⟩ = some (.slice none 0 0) := (hc5 8 (by simp)).1
          have k9 : w5.cell? ⟨w.heap.size + 2, 9, none⟩ = some (.slice none 0 0) := (hc5 9 (by simp)).1
          have k10 : w5.cell? ⟨w.heap.size + 2, 10, none⟩ = some (.slice none 0 0) := (hc5 10 (by simp)).1
          have k11 : w5.cell? ⟨w.heap.size + 2, 11, none⟩ = some (.slice none 0 0) := (hc5 11 (by simp)).1
          refine wpAnyH_done (by kernel_rfl) ?_ _
          go_wp2
          refine bodyPost_ret (v := .agg #[.int .i64 d.wk, .bool false, .int .i64 d.now, .int .i64 0, .int .i64 0, .int .i64 0, .slice a' (d.L1.length + K) c', .slice none 0 0, .slice none 0 0, .slice none 0 0, .slice none 0 0, .slice none 0 0]) (by simp [results, Tryz.results27, go_sem, k0, k1, k2, k3, k4, k5, k6, k7, k8, k9, k10, k11]) rfl ⟨⟨fallB d keep, ⟨_, ?_, HO.out⟩, .inl ⟨HV.out, rfl⟩⟩, HB5.out⟩
          rw [HL.out]; rfl

end Go.Proofs.YtjjapohngbagpaaGreat
