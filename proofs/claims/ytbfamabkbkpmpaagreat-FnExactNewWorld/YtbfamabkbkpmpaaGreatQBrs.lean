import Derived.Test.YtbfamabkbkpmpaaGreatQBri
namespace Go.Proofs.YtbfamabkbkpmpaaGreat
open Go.RowKit

theorem BD.told1 {d : BD} {ts : List TaskD} {c E : Int} {R : List ByteArray} (h : d.ok ts) (hu : d.up = false) (hs : StoryIs ts d.L1 c E R) : c = 0 ∧ Go.Proofs.YtbfamabkbkpmpaaGreat.told d ts E R := by
  have e2 : d.L2 = [] := by rw [BD.dn h hu]
  have hs' : StoryIs ts (d.L1 ++ d.L2) c E R := by rw [e2, List.append_nil]; exact hs
  exact ⟨(BD.story h hs').1, BD.told2 h hu hs'⟩
theorem enter_sFE (v1 : Value) (w : World) : Sem.run Tryz.prog (callFunc 76 #[v1]) w = .ok (.enter 76 #[v1]) w := by kernel_rfl
theorem rep3_snoc (k : Nat) : c3 (List.replicate (k + 1) (0, 0, 0)) = c3 (List.replicate k (0, 0, 0)) ++ [.int .i64 0, .int .i64 0, .int .i64 0] := by rw [List.replicate_succ', ← c3_snoc]
theorem rep2_snoc (k : Nat) : c2 (List.replicate (k + 1) (false, 0)) = c2 (List.replicate k (false, 0)) ++ [.bool false, .int .i64 0] := by rw [List.replicate_succ', ← c2_snoc]

set_option maxHeartbeats 4000000 in
set_option maxRecDepth 100000 in
theorem l5Rise_any (d : BD) (h : BH) (pa : Option Addr) (pb po pn pc : Nat) (ts : List TaskD) (w : World) (hok : d.ok ts) (hM : BossM w d h) (hT : TasksAt w pa pb po pn ts) (hs : d.small) :
    Calls Tryz.prog 28 #[.agg #[.int .i64 d.wk, .bool d.up, .int .i64 d.now, .int .i64 d.sn, .int .i64 d.ep, .int .i64 d.gv, .slice h.a1 d.L1.length h.c1, .slice h.a2 d.L2.length h.c2, .slice h.ar d.R.length h.cr, .slice h.aj d.J.length h.cj, .slice h.az d.S.length h.cs, .slice h.ao d.O.length h.co], .agg #[.slice pa pn pc]] w fun e w' => (∃ d', RetBs e w.heap.size w' d' ∧ riseK d ts d') ∧ Below w.heap.size w w' := by
  obtain ⟨i0, hi0, hz00, hz01, hz02⟩ := info_parts Tryz.infoSt
  obtain ⟨i3, hi3, hz30, hz31, hz32⟩ := info_parts Tryz.infoJb
  obtain ⟨i4, hi4, hz40, hz41, hz42⟩ := info_parts Tryz.infoSe
  have HV := hid hok
  clear hok
  obtain ⟨W, hW⟩ : ∃ W, W = ((w.alloc (.cells #[.int .i64 d.wk, .bool d.up, .int .i64 d.now, .int .i64 d.sn, .int .i64 d.ep, .int .i64 d.gv, .slice h.a1 d.L1.length h.c1, .slice h.a2 d.L2.length h.c2, .slice h.ar d.R.length h.cr, .slice h.aj d.J.length h.cj, .slice h.az d.S.length h.cs, .slice h.ao d.O.length h.co] 40)).alloc (.cells #[.slice pa pn pc] 45)).alloc (.cells #[.int .i64 0, .bool false, .int .i64 0, .int .i64 0, .int .i64 0, .int .i64 0, .slice none 0 0, .slice none 0 0, .slice none 0 0, .slice none 0 0, .slice none 0 0, .slice none 0 0] 40) := ⟨_, rfl⟩
  have B0 : Below w.heap.size w W := by rw [hW]; exact (((Below.refl _ _).alloc (Nat.le_refl _) _).alloc (by simp) _).alloc (by simp; omega) _
  have z0 : w.heap.size + 3 ≤ W.heap.size := by rw [hW]; simp
  have P0 : CF W w.heap.size [.int .i64 d.wk, .bool d.up, .int .i64 d.now, .int .i64 d.sn, .int .i64 d.ep, .int .i64 d.gv, .slice h.a1 d.L1.length h.c1, .slice h.a2 d.L2.length h.c2, .slice h.ar d.R.length h.cr, .slice h.aj d.J.length h.cj, .slice h.az d.S.length h.cs, .slice h.ao d.O.length h.co] := by
    rw [hW]; exact ((CF.made w #[.int .i64 d.wk, .bool d.up, .int .i64 d.now, .int .i64 d.sn, .int .i64 d.ep, .int .i64 d.gv, .slice h.a1 d.L1.length h.c1, .slice h.a2 d.L2.length h.c2, .slice h.ar d.R.length h.cr, .slice h.aj d.J.length h.cj, .slice h.az d.S.length h.cs, .slice h.ao d.O.length h.co] 40).block (Below.heap_alloc _ _ _ (by simp))).block (Below.heap_alloc _ _ _ (by simp; omega))
  have L0 : CF W (w.heap.size + 1) [.slice pa pn pc] := by
    rw [hW]
    have := (CF.made (w.alloc (.cells #[.int .i64 d.wk, .bool d.up, .int .i64 d.now, .int .i64 d.sn, .int .i64 d.ep, .int .i64 d.gv, .slice h.a1 d.L1.length h.c1, .slice h.a2 d.L2.length h.c2, .slice h.ar d.R.length h.cr, .slice h.aj d.J.length h.cj, .slice h.az d.S.length h.cs, .slice h.ao d.O.length h.co] 40)) #[.slice pa pn pc] 45).block (Below.heap_alloc ((w.alloc (.cells #[.int .i64 d.wk, .bool d.up, .int .i64 d.now, .int .i64 d.sn, .int .i64 d.ep, .int .i64 d.gv, .slice h.a1 d.L1.length h.c1, .slice h.a2 d.L2.length h.c2, .slice h.ar d.R.length h.cr, .slice h.aj d.J.length h.cj, .slice h.az d.S.length h.cs, .slice h.ao d.O.length h.co] 40)).alloc (.cells #[.slice pa pn pc] 45)) (.cells #[.int .i64 0, .bool false, .int .i64 0, .int .i64 0, .int .i64 0, .int .i64 0, .slice none 0 0, .slice none 0 0, .slice none 0 0, .slice none 0 0, .slice none 0 0, .slice none 0 0] 40) _ (by simp))
    simpa using this
  have R0 : CF W (w.heap.size + 2) zB := by
    rw [hW]
    have := CF.made ((w.alloc (.cells #[.int .i64 d.wk, .bool d.up, .int .i64 d.now, .int .i64 d.sn, .int .i64 d.ep, .int .i64 d.gv, .slice h.a1 d.L1.length h.c1, .slice h.a2 d.L2.length h.c2, .slice h.ar d.R.length h.cr, .slice h.aj d.J.length h.cj, .slice h.az d.S.length h.cs, .slice h.ao d.O.length h.co] 40)).alloc (.cells #[.slice pa pn pc] 45)) #[.int .i64 0, .bool false, .int .i64 0, .int .i64 0, .int .i64 0, .int .i64 0, .slice none 0 0, .slice none 0 0, .slice none 0 0, .slice none 0 0, .slice none 0 0, .slice none 0 0] 40
    simpa [zB] using this
  have S0 : RiSt w pa pn pc [.int .i64 d.wk, .bool d.up, .int .i64 d.now, .int .i64 d.sn, .int .i64 d.ep, .int .i64 d.gv, .slice h.a1 d.L1.length h.c1, .slice h.a2 d.L2.length h.c2, .slice h.ar d.R.length h.cr, .slice h.aj d.J.length h.cj, .slice h.az d.S.length h.cs, .slice h.ao d.O.length h.co] W := ⟨P0, L0, R0, B0, z0⟩
  clear P0 L0 R0 B0 z0
  have hsm := hs
  unfold BD.small at hsm
  obtain ⟨⟨b1, o1, h1⟩, ⟨b2, o2, h2⟩, ⟨b3, o3, h3⟩, ⟨b4, o4, h4⟩, ⟨b5, o5, h5⟩, ⟨b6, o6, h6⟩⟩ := hM
  have HW := hid hW
  clear hW
  go_enter Tryz.func28, Tryz.ntmps28
  go_upto_region 1 with fail
  rw [← HW.out]
  clear HW
  have kp : W.cell? ⟨w.heap.size + 1, 0, none⟩ = some (.slice pa pn pc) := (S0.L 0 (by simp)).1
  have y6 : W.cell? ⟨w.heap.size, 6, none⟩ = some (.slice h.a1 d.L1.length h.c1) := (S0.P 6 (by simp)).1
  go_wp2_with fail
  refine (specReplay_any pa pb po pn pc ts h.a1 b1 o1 _ h.c1 d.L1 _ (hT.below' S0.B) (h1.below' S0.B) (by omega)).mono ?_
  rintro e w4 ⟨⟨cc, E, R, v, rfl, hst, hoR⟩, hb4⟩
  obtain ⟨aR, cR, rfl⟩ := hoR.slc
  have S4 := S0.below hb4
  have hoR4 := hoR.mono' S0.z
  clear kp y6 hb4 S0 hoR
  obtain ⟨W4, hW4⟩ : ∃ W4, W4 = w4.alloc (.cells #[.int .i64 cc, .int .i64 E, .slice aR R.length cR] 75) := ⟨_, rfl⟩
  have S5 : RiSt w pa pn pc [.int .i64 d.wk, .bool d.up, .int .i64 d.now, .int .i64 d.sn, .int .i64 d.ep, .int .i64 d.gv, .slice h.a1 d.L1.length h.c1, .slice h.a2 d.L2.length h.c2, .slice h.ar d.R.length h.cr, .slice h.aj d.J.length h.cj, .slice h.az d.S.length h.cs, .slice h.ao d.O.length h.co] W4 := by rw [hW4]; exact S4.alloc _
  have T5 : CF W4 w4.heap.size [.int .i64 cc, .int .i64 E, .slice aR R.length cR] := by rw [hW4]; exact CF.made w4 #[.int .i64 cc, .int .i64 E, .slice aR R.length cR] 75
  have t5 : w.heap.size + 3 ≤ w4.heap.size ∧ w4.heap.size < W4.heap.size := ⟨S4.z, by rw [hW4]; simp⟩
  have hoR5 : Own (w.heap.size + 3) W4 1 (.slice aR R.length cR) R.length (R.map Value.string) := by rw [hW4]; exact hoR4.alloc _
  have HW4 := hid hW4
  have HST := hid hst
  clear hW4 S4 hoR4 hst
  go_upto_region 2 with fail
  rw [← HW4.out]
  clear HW4
  have y1 : W4.cell? ⟨w.heap.size, 1, none⟩ = some (.bool d.up) := (S5.P 1 (by simp)).1
  cases hup : d.up with
  | true =>
    rw [hup] at y1
    have HUP := hid hup
    clear hup
    go_upto_region 3 with fail
    clear y1
    have y0 : W4.cell? ⟨w.heap.size, 0, none⟩ = some (.int .i64 d.wk) := (S5.P 0 (by simp)).1
    have y1 : W4.cell? ⟨w.heap.size, 1, none⟩ = some (.bool d.up) := (S5.P 1 (by simp)).1
    have y2 : W4.cell? ⟨w.heap.size, 2, none⟩ = some (.int .i64 d.now) := (S5.P 2 (by simp)).1
    have y3 : W4.cell? ⟨w.heap.size, 3, none⟩ = some (.int .i64 d.sn) := (S5.P 3 (by simp)).1
    have y4 : W4.cell? ⟨w.heap.size, 4, none⟩ = some (.int .i64 d.ep) := (S5.P 4 (by simp)).1
    have y5 : W4.cell? ⟨w.heap.size, 5, none⟩ = some (.int .i64 d.gv) := (S5.P 5 (by simp)).1
    have y6 : W4.cell? ⟨w.heap.size, 6, none⟩ = some (.slice h.a1 d.L1.length h.c1) := (S5.P 6 (by simp)).1
    have y7 : W4.cell? ⟨w.heap.size, 7, none⟩ = some (.slice h.a2 d.L2.length h.c2) := (S5.P 7 (by simp)).1
    have y8 : W4.cell? ⟨w.heap.size, 8, none⟩ = some (.slice h.ar d.R.length h.cr) := (S5.P 8 (by simp)).1
    have y9 : W4.cell? ⟨w.heap.size, 9, none⟩ = some (.slice h.aj d.J.length h.cj) := (S5.P 9 (by simp)).1
    have y10 : W4.cell? ⟨w.heap.size, 10, none⟩ = some (.slice h.az d.S.length h.cs) := (S5.P 10 (by simp)).1
    have y11 : W4.cell? ⟨w.heap.size, 11, none⟩ = some (.slice h.ao d.O.length h.co) := (S5.P 11 (by simp)).1
    go_wp2_with (first | (go_at_call 75; refine (l5Copy_any d.wk d.up d.now d.sn d.ep d.gv h.a1 h.a2 h.ar h.aj h.az h.ao b1 o1 _ h.c1 b2 o2 _ h.c2 b3 o3 _ h.cr b4 o4 _ h.cj b5 o5 _ h.cs b6 o6 _ h.co d.L1 d.L2 d.R d.J d.S d.O _ (h1.below' S5.B) (h2.below' S5.B) (h3.below' S5.B) (h4.below' S5.B) (h5.below' S5.B) (h6.below' S5.B) (by omega) (by omega) (by omega) (by omega) (by omega) (by omega)).mono ?_; rintro e w2 ⟨a0_, c0_, a1_, c1_, a2_, c2_, a3_, c3_, a4_, c4_, a5_, c5_, rfl, ⟨q0, q1, q2, q3, q4, q5⟩, hdis, hb2⟩; have S6 := S5.below hb2) | (refine wpList_store_cf rfl 40 (.tmp 4) (.tmp 29) rfl (w.heap.size + 2) zB [.int .i64 d.wk, .bool d.up, .int .i64 d.now, .int .i64 d.sn, .int .i64 d.ep, .int .i64 d.gv, .slice a0_ d.L1.length c0_, .slice a1_ d.L2.length c1_, .slice a2_ d.R.length c2_, .slice a3_ d.J.length c3_, .slice a4_ d.S.length c4_, .slice a5_ d.O.length c5_] rfl rfl S6.R rfl Tryz.sizeBo (one12b _ _ _ _ _ _ _ _ _ _ _ _ _ _ _ _ _ _ _ _ _ _ _ _) ?_; intro w10 hc10 hg10))
    have z5 := S5.z
    have k0 : w10.cell? ⟨w.heap.size + 2, 0, none⟩ = some (.int .i64 d.wk) := (hc10 0 (by simp)).1
    have k1 : w10.cell? ⟨w.heap.size + 2, 1, none⟩ = some (.bool d.up) := (hc10 1 (by simp)).1
    have k2 : w10.cell? ⟨w.heap.size + 2, 2, none⟩ = some (.int .i64 d.now) := (hc10 2 (by simp)).1
    have k3 : w10.cell? ⟨w.heap.size + 2, 3, none⟩ = some (.int .i64 d.sn) := (hc10 3 (by simp)).1
    have k4 : w10.cell? ⟨w.heap.size + 2, 4, none⟩ = some (.int .i64 d.ep) := (hc10 4 (by simp)).1
    have k5 : w10.cell? ⟨w.heap.size + 2, 5, none⟩ = some (.int .i64 d.gv) := (hc10 5 (by simp)).1
    have k6 : w10.cell? ⟨w.heap.size + 2, 6, none⟩ = some (.slice a0_ d.L1.length c0_) := (hc10 6 (by simp)).1
    have k7 : w10.cell? ⟨w.heap.size + 2, 7, none⟩ = some (.slice a1_ d.L2.length c1_) := (hc10 7 (by simp)).1
    have k8 : w10.cell? ⟨w.heap.size + 2, 8, none⟩ = some (.slice a2_ d.R.length c2_) := (hc10 8 (by simp)).1
    have k9 : w10.cell? ⟨w.heap.size + 2, 9, none⟩ = some (.slice a3_ d.J.length c3_) := (hc10 9 (by simp)).1
    have k10 : w10.cell? ⟨w.heap.size + 2, 10, none⟩ = some (.slice a4_ d.S.length c4_) := (hc10 10 (by simp)).1
    have k11 : w10.cell? ⟨w.heap.size + 2, 11, none⟩ = some (.slice a5_ d.O.length c5_) := (hc10 11 (by simp)).1
    exact bodyPost_ret (v := .agg #[.int .i64 d.wk, .bool d.up, .int .i64 d.now, .int .i64 d.sn, .int .i64 d.ep, .int .i64 d.gv, .slice a0_ d.L1.length c0_, .slice a1_ d.L2.length c1_, .slice a2_ d.R.length c2_, .slice a3_ d.J.length c3_, .slice a4_ d.S.length c4_, .slice a5_ d.O.length c5_]) (by simp [results, Tryz.results28, go_sem, k0, k1, k2, k3, k4, k5, k6, k7, k8, k9, k10, k11]) rfl ⟨⟨d, ⟨⟨a0_, a1_, a2_, a3_, a4_, a5_, c0_, c1_, c2_, c3_, c4_, c5_⟩, rfl, ⟨(q0.grown hg10 (.inr (by intro hh; have := q0.row_lo _ hh; omega))).mono' (by omega), (q1.grown hg10 (.inr (by intro hh; have := q1.row_lo _ hh; omega))).mono' (by omega), (q2.grown hg10 (.inr (by intro hh; have := q2.row_lo _ hh; omega))).mono' (by omega), (q3.grown hg10 (.inr (by intro hh; have := q3.row_lo _ hh; omega))).mono' (by omega), (q4.grown hg10 (.inr (by intro hh; have := q4.row_lo _ hh; omega))).mono' (by omega), (q5.grown hg10 (.inr (by intro hh; have := q5.row_lo _ hh; omega))).mono' (by omega), hdis⟩⟩, .inl ⟨HUP.out, rfl⟩⟩, below_grown S6.B hg10 (by have := S6.z; omega) (fun q hq => by simp at hq; omega)⟩
  | false =>
    rw [hup] at y1
    obtain ⟨rfl, hT0⟩ := BD.told1 HV.out hup HST.out
    have HT := hid hT0
    have HUP := hid hup
    obtain ⟨-, -, hE0, hE1, -, -, -, hp40', hwk0, hwk1⟩ := hT0
    clear hup HST
    have y6 : W4.cell? ⟨w.heap.size, 6, none⟩ = some (.slice h.a1 d.L1.length h.c1) := (S5.P 6 (by simp)).1
    have e1 : W4.cell? ⟨w4.heap.size, 1, none⟩ = some (.int .i64 E) := (T5 1 (by simp)).1
    by_cases c1 : (310 : Int) ≤ (d.L1.length : Int)
    · have HC1 := hid (show 310 ≤ d.L1.length by omega)
      go_upto_region 3 with fail
      clear c1 y1 y6 e1
      have y0 : W4.cell? ⟨w.heap.size, 0, none⟩ = some (.int .i64 d.wk) := (S5.P 0 (by simp)).1
      have y1 : W4.cell? ⟨w.heap.size, 1, none⟩ = some (.bool d.up) := (S5.P 1 (by simp)).1
      have y2 : W4.cell? ⟨w.heap.size, 2, none⟩ = some (.int .i64 d.now) := (S5.P 2 (by simp)).1
      have y3 : W4.cell? ⟨w.heap.size, 3, none⟩ = some (.int .i64 d.sn) := (S5.P 3 (by simp)).1
      have y4 : W4.cell? ⟨w.heap.size, 4, none⟩ = some (.int .i64 d.ep) := (S5.P 4 (by simp)).1
      have y5 : W4.cell? ⟨w.heap.size, 5, none⟩ = some (.int .i64 d.gv) := (S5.P 5 (by simp)).1
      have y6 : W4.cell? ⟨w.heap.size, 6, none⟩ = some (.slice h.a1 d.L1.length h.c1) := (S5.P 6 (by simp)).1
      have y7 : W4.cell? ⟨w.heap.size, 7, none⟩ = some (.slice h.a2 d.L2.length h.c2) := (S5.P 7 (by simp)).1
      have y8 : W4.cell? ⟨w.heap.size, 8, none⟩ = some (.slice h.ar d.R.length h.cr) := (S5.P 8 (by simp)).1
      have y9 : W4.cell? ⟨w.heap.size, 9, none⟩ = some (.slice h.aj d.J.length h.cj) := (S5.P 9 (by simp)).1
      have y10 : W4.cell? ⟨w.heap.size, 10, none⟩ = some (.slice h.az d.S.length h.cs) := (S5.P 10 (by simp)).1
      have y11 : W4.cell? ⟨w.heap.size, 11, none⟩ = some (.slice h.ao d.O.length h.co) := (S5.P 11 (by simp)).1
      go_wp2_with (first | (go_at_call 75; refine (l5Copy_any d.wk d.up d.now d.sn d.ep d.gv h.a1 h.a2 h.ar h.aj h.az h.ao b1 o1 _ h.c1 b2 o2 _ h.c2 b3 o3 _ h.cr b4 o4 _ h.cj b5 o5 _ h.cs b6 o6 _ h.co d.L1 d.L2 d.R d.J d.S d.O _ (h1.below' S5.B) (h2.below' S5.B) (h3.below' S5.B) (h4.below' S5.B) (h5.below' S5.B) (h6.below' S5.B) (by omega) (by omega) (by omega) (by omega) (by omega) (by omega)).mono ?_; rintro e w2 ⟨a0_, c0_, a1_, c1_, a2_, c2_, a3_, c3_, a4_, c4_, a5_, c5_, rfl, ⟨q0, q1, q2, q3, q4, q5⟩, hdis, hb2⟩; have S6 := S5.below hb2) | (refine wpList_store_cf rfl 40 (.tmp 4) (.tmp 29) rfl (w.heap.size + 2) zB [.int .i64 d.wk, .bool d.up, .int .i64 d.now, .int .i64 d.sn, .int .i64 d.ep, .int .i64 d.gv, .slice a0_ d.L1.length c0_, .slice a1_ d.L2.length c1_, .slice a2_ d.R.length c2_, .slice a3_ d.J.length c3_, .slice a4_ d.S.length c4_, .slice a5_ d.O.length c5_] rfl rfl S6.R rfl Tryz.sizeBo (one12b _ _ _ _ _ _ _ _ _ _ _ _ _ _ _ _ _ _ _ _ _ _ _ _) ?_; intro w10 hc10 hg10))
      have z5 := S5.z
      have k0 : w10.cell? ⟨w.heap.size + 2, 0, none⟩ = some (.int .i64 d.wk) := (hc10 0 (by simp)).1
      have k1 : w10.cell? ⟨w.heap.size + 2, 1, none⟩ = some (.bool d.up) := (hc10 1 (by simp)).1
      have k2 : w10.cell? ⟨w.heap.size + 2, 2, none⟩ = some (.int .i64 d.now) := (hc10 2 (by simp)).1
      have k3 : w10.cell? ⟨w.heap.size + 2, 3, none⟩ = some (.int .i64 d.sn) := (hc10 3 (by simp)).1
      have k4 : w10.cell? ⟨w.heap.size + 2, 4, none⟩ = some (.int .i64 d.ep) := (hc10 4 (by simp)).1
      have k5 : w10.cell? ⟨w.heap.size + 2, 5, none⟩ = some (.int .i64 d.gv) := (hc10 5 (by simp)).1
      have k6 : w10.cell? ⟨w.heap.size + 2, 6, none⟩ = some (.slice a0_ d.L1.length c0_) := (hc10 6 (by simp)).1
      have k7 : w10.cell? ⟨w.heap.size + 2, 7, none⟩ = some (.slice a1_ d.L2.length c1_) := (hc10 7 (by simp)).1
      have k8 : w10.cell? ⟨w.heap.size + 2, 8, none⟩ = some (.slice a2_ d.R.length c2_) := (hc10 8 (by simp)).1
      have k9 : w10.cell? ⟨w.heap.size + 2, 9, none⟩ = some (.slice a3_ d.J.length c3_) := (hc10 9 (by simp)).1
      have k10 : w10.cell? ⟨w.heap.size + 2, 10, none⟩ = some (.slice a4_ d.S.length c4_) := (hc10 10 (by simp)).1
      have k11 : w10.cell? ⟨w.heap.size + 2, 11, none⟩ = some (.slice a5_ d.O.length c5_) := (hc10 11 (by simp)).1
      exact bodyPost_ret (v := .agg #[.int .i64 d.wk, .bool d.up, .int .i64 d.now, .int .i64 d.sn, .int .i64 d.ep, .int .i64 d.gv, .slice a0_ d.L1.length c0_, .slice a1_ d.L2.length c1_, .slice a2_ d.R.length c2_, .slice a3_ d.J.length c3_, .slice a4_ d.S.length c4_, .slice a5_ d.O.length c5_]) (by simp [results, Tryz.results28, go_sem, k0, k1, k2, k3, k4, k5, k6, k7, k8, k9, k10, k11]) rfl ⟨⟨d, ⟨⟨a0_, a1_, a2_, a3_, a4_, a5_, c0_, c1_, c2_, c3_, c4_, c5_⟩, rfl, ⟨(q0.grown hg10 (.inr (by intro hh; have := q0.row_lo _ hh; omega))).mono' (by omega), (q1.grown hg10 (.inr (by intro hh; have := q1.row_lo _ hh; omega))).mono' (by omega), (q2.grown hg10 (.inr (by intro hh; have := q2.row_lo _ hh; omega))).mono' (by omega), (q3.grown hg10 (.inr (by intro hh; have := q3.row_lo _ hh; omega))).mono' (by omega), (q4.grown hg10 (.inr (by intro hh; have := q4.row_lo _ hh; omega))).mono' (by omega), (q5.grown hg10 (.inr (by intro hh; have := q5.row_lo _ hh; omega))).mono' (by omega), hdis⟩⟩, .inr ⟨HUP.out, E, R, HT.out, .inl ⟨.inl HC1.out, rfl⟩⟩⟩, below_grown S6.B hg10 (by have := S6.z; omega) (fun q hq => by simp at hq; omega)⟩
    · by_cases c2 : (300 : Int) ≤ E
      · have HC2 := hid c2
        go_upto_region 3 with fail
        clear c1 c2 y1 y6 e1
        have y0 : W4.cell? ⟨w.heap.size, 0, none⟩ = some (.int .i64 d.wk) := (S5.P 0 (by simp)).1
        have y1 : W4.cell? ⟨w.heap.size, 1, none⟩ = some (.bool d.up) := (S5.P 1 (by simp)).1
        have y2 : W4.cell? ⟨w.heap.size, 2, none⟩ = some (.int .i64 d.now) := (S5.P 2 (by simp)).1
        have y3 : W4.cell? ⟨w.heap.size, 3, none⟩ = some (.int .i64 d.sn) := (S5.P 3 (by simp)).1
        have y4 : W4.cell? ⟨w.heap.size, 4, none⟩ = some (.int .i64 d.ep) := (S5.P 4 (by simp)).1
        have y5 : W4.cell? ⟨w.heap.size, 5, none⟩ = some (.int .i64 d.gv) := (S5.P 5 (by simp)).1
        have y6 : W4.cell? ⟨w.heap.size, 6, none⟩ = some (.slice h.a1 d.L1.length h.c1) := (S5.P 6 (by simp)).1
        have y7 : W4.cell? ⟨w.heap.size, 7, none⟩ = some (.slice h.a2 d.L2.length h.c2) := (S5.P 7 (by simp)).1
        have y8 : W4.cell? ⟨w.heap.size, 8, none⟩ = some (.slice h.ar d.R.length h.cr) := (S5.P 8 (by simp)).1
        have y9 : W4.cell? ⟨w.heap.size, 9, none⟩ = some (.slice h.aj d.J.length h.cj) := (S5.P 9 (by simp)).1
        have y10 : W4.cell? ⟨w.heap.size, 10, none⟩ = some (.slice h.az d.S.length h.cs) := (S5.P 10 (by simp)).1
        have y11 : W4.cell? ⟨w.heap.size, 11, none⟩ = some (.slice h.ao d.O.length h.co) := (S5.P 11 (by simp)).1
        go_wp2_with (first | (go_at_call 75; refine (l5Copy_any d.wk d.up d.now d.sn d.ep d.gv h.a1 h.a2 h.ar h.aj h.az h.ao b1 o1 _ h.c1 b2 o2 _ h.c2 b3 o3 _ h.cr b4 o4 _ h.cj b5 o5 _ h.cs b6 o6 _ h.co d.L1 d.L2 d.R d.J d.S d.O _ (h1.below' S5.B) (h2.below' S5.B) (h3.below' S5.B) (h4.below' S5.B) (h5.below' S5.B) (h6.below' S5.B) (by omega) (by omega) (by omega) (by omega) (by omega) (by omega)).mono ?_; rintro e w2 ⟨a0_, c0_, a1_, c1_, a2_, c2_, a3_, c3_, a4_, c4_, a5_, c5_, rfl, ⟨q0, q1, q2, q3, q4, q5⟩, hdis, hb2⟩; have S6 := S5.below hb2) | (refine wpList_store_cf rfl 40 (.tmp 4) (.tmp 29) rfl (w.heap.size + 2) zB [.int .i64 d.wk, .bool d.up, .int .i64 d.now, .int .i64 d.sn, .int .i64 d.ep, .int .i64 d.gv, .slice a0_ d.L1.length c0_, .slice a1_ d.L2.length c1_, .slice a2_ d.R.length c2_, .slice a3_ d.J.length c3_, .slice a4_ d.S.length c4_, .slice a5_ d.O.length c5_] rfl rfl S6.R rfl Tryz.sizeBo (one12b _ _ _ _ _ _ _ _ _ _ _ _ _ _ _ _ _ _ _ _ _ _ _ _) ?_; intro w10 hc10 hg10))
        have z5 := S5.z
        have k0 : w10.cell? ⟨w.heap.size + 2, 0, none⟩ = some (.int .i64 d.wk) := (hc10 0 (by simp)).1
        have k1 : w10.cell? ⟨w.heap.size + 2, 1, none⟩ = some (.bool d.up) := (hc10 1 (by simp)).1
        have k2 : w10.cell? ⟨w.heap.size + 2, 2, none⟩ = some (.int .i64 d.now) := (hc10 2 (by simp)).1
        have k3 : w10.cell? ⟨w.heap.size + 2, 3, none⟩ = some (.int .i64 d.sn) := (hc10 3 (by simp)).1
        have k4 : w10.cell? ⟨w.heap.size + 2, 4, none⟩ = some (.int .i64 d.ep) := (hc10 4 (by simp)).1
        have k5 : w10.cell? ⟨w.heap.size + 2, 5, none⟩ = some (.int .i64 d.gv) := (hc10 5 (by simp)).1
        have k6 : w10.cell? ⟨w.heap.size + 2, 6, none⟩ = some (.slice a0_ d.L1.length c0_) := (hc10 6 (by simp)).1
        have k7 : w10.cell? ⟨w.heap.size + 2, 7, none⟩ = some (.slice a1_ d.L2.length c1_) := (hc10 7 (by simp)).1
        have k8 : w10.cell? ⟨w.heap.size + 2, 8, none⟩ = some (.slice a2_ d.R.length c2_) := (hc10 8 (by simp)).1
        have k9 : w10.cell? ⟨w.heap.size + 2, 9, none⟩ = some (.slice a3_ d.J.length c3_) := (hc10 9 (by simp)).1
        have k10 : w10.cell? ⟨w.heap.size + 2, 10, none⟩ = some (.slice a4_ d.S.length c4_) := (hc10 10 (by simp)).1
        have k11 : w10.cell? ⟨w.heap.size + 2, 11, none⟩ = some (.slice a5_ d.O.length c5_) := (hc10 11 (by simp)).1
        exact bodyPost_ret (v := .agg #[.int .i64 d.wk, .bool d.up, .int .i64 d.now, .int .i64 d.sn, .int .i64 d.ep, .int .i64 d.gv, .slice a0_ d.L1.length c0_, .slice a1_ d.L2.length c1_, .slice a2_ d.R.length c2_, .slice a3_ d.J.length c3_, .slice a4_ d.S.length c4_, .slice a5_ d.O.length c5_]) (by simp [results, Tryz.results28, go_sem, k0, k1, k2, k3, k4, k5, k6, k7, k8, k9, k10, k11]) rfl ⟨⟨d, ⟨⟨a0_, a1_, a2_, a3_, a4_, a5_, c0_, c1_, c2_, c3_, c4_, c5_⟩, rfl, ⟨(q0.grown hg10 (.inr (by intro hh; have := q0.row_lo _ hh; omega))).mono' (by omega), (q1.grown hg10 (.inr (by intro hh; have := q1.row_lo _ hh; omega))).mono' (by omega), (q2.grown hg10 (.inr (by intro hh; have := q2.row_lo _ hh; omega))).mono' (by omega), (q3.grown hg10 (.inr (by intro hh; have := q3.row_lo _ hh; omega))).mono' (by omega), (q4.grown hg10 (.inr (by intro hh; have := q4.row_lo _ hh; omega))).mono' (by omega), (q5.grown hg10 (.inr (by intro hh; have := q5.row_lo _ hh; omega))).mono' (by omega), hdis⟩⟩, .inr ⟨HUP.out, E, R, HT.out, .inl ⟨.inr HC2.out, rfl⟩⟩⟩, below_grown S6.B hg10 (by have := S6.z; omega) (fun q hq => by simp at hq; omega)⟩
      · have HLT := hid (show d.L1.length < 310 by omega)
        have HE := hid (show E < 300 by omega)
        have HPL := hid hT.len
        have hp40 : pn ≤ 40 := by rw [← HPL.out]; exact hp40'
        clear hp40'
        have y0 : W4.cell? ⟨w.heap.size, 0, none⟩ = some (.int .i64 d.wk) := (S5.P 0 (by simp)).1
        have y2 : W4.cell? ⟨w.heap.size, 2, none⟩ = some (.int .i64 d.now) := (S5.P 2 (by simp)).1
        have e2 : W4.cell? ⟨w4.heap.size, 2, none⟩ = some (.slice aR R.length cR) := (T5 2 (by simp)).1
        obtain ⟨X, hX⟩ : ∃ X : Nat, X = W4.heap.size := ⟨_, rfl⟩
        obtain ⟨W6, hW6⟩ : ∃ V, V = W4.alloc (.cells #[.int .i64 d.wk, .bool true, .int .i64 d.now, .int .i64 0, .int .i64 (E + 1), .int .i64 0, .slice none 0 0, .slice none 0 0, .slice aR R.length cR, .slice none 0 0, .slice none 0 0, .slice none 0 0] 40) := ⟨_, rfl⟩
        have S6 : RiSt w pa pn pc [.int .i64 d.wk, .bool d.up, .int .i64 d.now, .int .i64 d.sn, .int .i64 d.ep, .int .i64 d.gv, .slice h.a1 d.L1.length h.c1, .slice h.a2 d.L2.length h.c2, .slice h.ar d.R.length h.cr, .slice h.aj d.J.length h.cj, .slice h.az d.S.length h.cs, .slice h.ao d.O.length h.co] W6 := by rw [hW6]; exact S5.alloc _
        have X6 : CF W6 X [.int .i64 d.wk, .bool true, .int .i64 d.now, .int .i64 0, .int .i64 (E + 1), .int .i64 0, .slice none 0 0, .slice none 0 0, .slice aR R.length cR, .slice none 0 0, .slice none 0 0, .slice none 0 0] := by rw [hW6, hX]; exact CF.made W4 #[.int .i64 d.wk, .bool true, .int .i64 d.now, .int .i64 0, .int .i64 (E + 1), .int .i64 0, .slice none 0 0, .slice none 0 0, .slice aR R.length cR, .slice none 0 0, .slice none 0 0, .slice none 0 0] 40
        have x6 : X < W6.heap.size := by rw [hW6, hX]; simp
        have zX : w.heap.size + 3 ≤ X := by rw [hX]; exact S5.z
        have hoR6 : Own (w.heap.size + 3) W6 1 (.slice aR R.length cR) R.length (R.map Value.string) := by rw [hW6]; exact hoR5.alloc _
        have HRX := hid (show ∀ q, (Value.slice aR R.length cR).ownBlock = some q → q < X from fun q hq => by rw [hX]; exact hoR5.row_hi q hq)
        have HX := hid hX
        have HW6 := hid hW6
        clear hW6 hX
        go_upto_region 5 with fail
        rw [← HW6.out, ← HX.out]
        clear HW6 HX y0 y1 y2 y6 e1 e2 S5 T5 t5 hoR5 c1 c2
        go_cut [4] (fun sv wx => ∃ (a' : Option Addr) (c' : Nat), sv = .pointer (some ⟨w.heap.size + 2, 0, none⟩) ∧ RiSt w pa pn pc [.int .i64 d.wk, .bool d.up, .int .i64 d.now, .int .i64 d.sn, .int .i64 d.ep, .int .i64 d.gv, .slice h.a1 d.L1.length h.c1, .slice h.a2 d.L2.length h.c2, .slice h.ar d.R.length h.cr, .slice h.aj d.J.length h.cj, .slice h.az d.S.length h.cs, .slice h.ao d.O.length h.co] wx ∧ CF wx X [.int .i64 d.wk, .bool true, .int .i64 d.now, .int .i64 0, .int .i64 (E + 1), .int .i64 0, .slice a' (d.L1.length + 1) c', .slice none 0 0, .slice aR R.length cR, .slice none 0 0, .slice none 0 0, .slice none 0 0] ∧ X < wx.heap.size ∧ Own (X + 1) wx 1 (.slice a' (d.L1.length + 1) c') (d.L1.length + 1) ((d.L1 ++ [(entS 1 (E + 1) 0 ⟨#[]⟩)]).map Value.string) ∧ Own (w.heap.size + 3) wx 1 (.slice aR R.length cR) R.length (R.map Value.string))
        case first =>
          refine wp_region_held (S := fun w' => CF w' w.heap.size [.int .i64 d.wk, .bool d.up, .int .i64 d.now, .int .i64 d.sn, .int .i64 d.ep, .int .i64 d.gv, .slice h.a1 d.L1.length h.c1, .slice h.a2 d.L2.length h.c2, .slice h.ar d.R.length h.cr, .slice h.aj d.J.length h.cj, .slice h.az d.S.length h.cs, .slice h.ao d.O.length h.co] ∧ w'.cell? ⟨X, 4, none⟩ = some (.int .i64 (E + 1))) (by kernel_rfl) ?_
          change wpAnyH _ _ _ _ _ _ _ _ (World.drew _)
          obtain ⟨r0, hr0⟩ : ∃ U, U = W6.drew := ⟨_, rfl⟩
          have Sr0 : RiSt w pa pn pc [.int .i64 d.wk, .bool d.up, .int .i64 d.now, .int .i64 d.sn, .int .i64 d.ep, .int .i64 d.gv, .slice h.a1 d.L1.length h.c1, .slice h.a2 d.L2.length h.c2, .slice h.ar d.R.length h.cr, .slice h.aj d.J.length h.cj, .slice h.az d.S.length h.cs, .slice h.ao d.O.length h.co] r0 := by rw [hr0]; exact S6.drew
          have Xr0 : CF r0 X [.int .i64 d.wk, .bool true, .int .i64 d.now, .int .i64 0, .int .i64 (E + 1), .int .i64 0, .slice none 0 0, .slice none 0 0, .slice aR R.length cR, .slice none 0 0, .slice none 0 0, .slice none 0 0] := by rw [hr0]; exact X6
          have xr0 : X < r0.heap.size := by rw [hr0]; exact x6
          have hRr0 : Own (w.heap.size + 3) r0 1 (.slice aR R.length cR) R.length (R.map Value.string) := by rw [hr0]; exact hoR6.drewB
          rw [← hr0]
          clear hr0 S6 X6 x6 hoR6
          have Hr0 := hid (show CF r0 w.heap.size [.int .i64 d.wk, .bool d.up, .int .i64 d.now, .int .i64 d.sn, .int .i64 d.ep, .int .i64 d.gv, .slice h.a1 d.L1.length h.c1, .slice h.a2 d.L2.length h.c2, .slice h.ar d.R.length h.cr, .slice h.aj d.J.length h.cj, .slice h.az d.S.length h.cs, .slice h.ao d.O.length h.co] ∧ r0.cell? ⟨X, 4, none⟩ = some (.int .i64 (E + 1)) from ⟨Sr0.P, (Xr0 4 (by simp)).1⟩)
          refine hTake (i := 1) (d := some 41) (v := .pointer (some ⟨w.heap.size, 6, none⟩)) (l' := #[false, true, false, false, false, false, false, false, false, false, false, false, false, false]) rfl (by kernel_rfl) (by kernel_rfl) (by kernel_rfl) (by kernel_rfl) (fun _ _ _ h => h) (by kernel_rfl) (fun _ hc => by kernel_rfl) Hr0.out (by kernel_rfl) ?_
          refine hTake (i := 2) (d := some 42) (v := .pointer (some ⟨w.heap.size, 6, none⟩)) (l' := #[false, true, true, false, false, false, false, false, false, false, false, false, false, false]) rfl (by kernel_rfl) (by kernel_rfl) (by kernel_rfl) (by kernel_rfl) (fun _ _ _ h => h) (by kernel_rfl) (fun _ hc => by kernel_rfl) Hr0.out (by kernel_rfl) ?_
          refine hTake (i := 3) (d := some 43) (v := .slice h.a1 d.L1.length h.c1) (l' := #[false, true, true, true, false, false, false, false, false, false, false, false, false, false]) rfl (by kernel_rfl) (by kernel_rfl) (by kernel_rfl) (by kernel_rfl) (fun _ _ _ h => h) (by kernel_rfl) (fun _ hc => run_ldss (.tmp 42) (by kernel_rfl) (by kernel_rfl) (hc.1 6 (by simp)).1) Hr0.out (by kernel_rfl) ?_
          refine hTake (i := 5) (d := some 45) (v := .pointer (some ⟨X, 4, none⟩)) (l' := #[false, true, true, true, false, true, false, false, false, false, false, false, false, false]) rfl (by kernel_rfl) (by kernel_rfl) (by kernel_rfl) (by kernel_rfl) (fun _ _ _ h => h) (by kernel_rfl) (fun _ hc => by kernel_rfl) Hr0.out (by kernel_rfl) ?_
          refine hTake (i := 6) (d := some 46) (v := .int .i64 (E + 1)) (l' := #[false, true, true, true, false, true, true, false, false, false, false, false, false, false]) rfl (by kernel_rfl) (by kernel_rfl) (by kernel_rfl) (by kernel_rfl) (fun _ _ _ h => h) (by kernel_rfl) (fun _ hc => run_ldI (.tmp 45) (by kernel_rfl) (by kernel_rfl) hc.2) Hr0.out (by kernel_rfl) ?_
          refine hTake (i := 7) (d := some 47) (v := .agg #[.int .i64 1, .int .i64 (E + 1), .int .i64 0, .string ⟨#[]⟩]) (l' := #[false, true, true, true, false, true, true, true, false, false, false, false, false, false]) rfl (by kernel_rfl) (by kernel_rfl) (by kernel_rfl) (by kernel_rfl) (fun _ _ _ h => h) (by kernel_rfl) (fun _ hc => run_bEn (.tmp 46) (E + 1) (by kernel_rfl) (by kernel_rfl) (by kernel_rfl)) Hr0.out (by kernel_rfl) ?_
          obtain ⟨r1, hr1⟩ : ∃ V, V = r0.alloc (.cells #[] 9) := ⟨_, rfl⟩
          have Sr1 : RiSt w pa pn pc [.int .i64 d.wk, .bool d.up, .int .i64 d.now, .int .i64 d.sn, .int .i64 d.ep, .int .i64 d.gv, .slice h.a1 d.L1.length h.c1, .slice h.a2 d.L2.length h.c2, .slice h.ar d.R.length h.cr, .slice h.aj d.J.length h.cj, .slice h.az d.S.length h.cs, .slice h.ao d.O.length h.co] r1 := by rw [hr1]; exact Sr0.alloc _
          have Xr1 : CF r1 X [.int .i64 d.wk, .bool true, .int .i64 d.now, .int .i64 0, .int .i64 (E + 1), .int .i64 0, .slice none 0 0, .slice none 0 0, .slice aR R.length cR, .slice none 0 0, .slice none 0 0, .slice none 0 0] := by rw [hr1]; exact Xr0.block (Below.heap_alloc _ _ _ xr0)
          have xr1 : X < r1.heap.size := by rw [hr1]; simp; omega
          have hRr1 : Own (w.heap.size + 3) r1 1 (.slice aR R.length cR) R.length (R.map Value.string) := by rw [hr1]; exact hRr0.alloc _
          have oAr1 : Own (X + 1) r1 1 (.slice (some ⟨r0.heap.size, 0, none⟩) 0 0) 0 [] := by rw [hr1]; exact bsOwn r0 _ (by omega)
          have Hr1 := hid (show CF r1 w.heap.size [.int .i64 d.wk, .bool d.up, .int .i64 d.now, .int .i64 d.sn, .int .i64 d.ep, .int .i64 d.gv, .slice h.a1 d.L1.length h.c1, .slice h.a2 d.L2.length h.c2, .slice h.ar d.R.length h.cr, .slice h.aj d.J.length h.cj, .slice h.az d.S.length h.cs, .slice h.ao d.O.length h.co] ∧ r1.cell? ⟨X, 4, none⟩ = some (.int .i64 (E + 1)) from ⟨Sr1.P, (Xr1 4 (by simp)).1⟩)
          refine hOne (by kernel_rfl) (hVal (i := 0) (d := some 40) (v := .slice (some ⟨r0.heap.size, 0, none⟩) 0 0) (w' := r1) (l' := #[true, true, true, true, false, true, true, true, false, false, false, false, false, false]) rfl (by kernel_rfl) (by kernel_rfl) (by kernel_rfl) (by rw [hr1]; exact run_bs0 (by kernel_rfl)) Hr1.out ?_)
          obtain ⟨a9, c9, r2, hap, oAr2, hg, hbk⟩ := app0 w r1 (X + 1) Sr1.B (by omega) h.c1 h1 (by omega) oAr1
          have hlo := oAr1.row_lo
          have Sr2 := Sr1.grown hg (fun q hq => by have := hlo q hq; omega)
          have Xr2 := Xr1.block (hg.block X xr1 (fun e => by have := hlo _ e.symm; omega))
          have xr2 : X < r2.heap.size := Nat.lt_of_lt_of_le xr1 hg.size
          have hRr2 := hRr1.grown hg (Dj.later HRX.out (fun q hq => by have := hlo q hq; omega))
          have Hr2 := hid (show CF r2 w.heap.size [.int .i64 d.wk, .bool d.up, .int .i64 d.now, .int .i64 d.sn, .int .i64 d.ep, .int .i64 d.gv, .slice h.a1 d.L1.length h.c1, .slice h.a2 d.L2.length h.c2, .slice h.ar d.R.length h.cr, .slice h.aj d.J.length h.cj, .slice h.az d.S.length h.cs, .slice h.ao d.O.length h.co] ∧ r2.cell? ⟨X, 4, none⟩ = some (.int .i64 (E + 1)) from ⟨Sr2.P, (Xr2 4 (by simp)).1⟩)
          refine hOne (by kernel_rfl) (hVal (i := 4) (d := some 44) (v := .slice a9 d.L1.length c9) (w' := r2) (l' := #[true, true, true, true, true, true, true, true, false, false, false, false, false, false]) rfl (by kernel_rfl) (by kernel_rfl) (by kernel_rfl) (run_app (.tmp 40) (.tmp 43) 22 22 (by kernel_rfl) (by kernel_rfl) (by kernel_rfl) (by kernel_rfl) hap) Hr2.out ?_)
          clear hap hg hbk hlo
          refine hOne (by kernel_rfl) (hCall (i := 8) (d := some 48) (f := 76) (args := #[.agg #[.int .i64 1, .int .i64 (E + 1), .int .i64 0, .string ⟨#[]⟩]]) (l' := #[true, true, true, true, true, true, true, true, true, false, false, false, false, false]) (R := fun v w' => v = .string (entS 1 (E + 1) 0 ⟨#[]⟩) ∧ Below r2.heap.size r2 w') rfl (by kernel_rfl) (by kernel_rfl) (by kernel_rfl) (run_cl1 _ _ rfl (by kernel_rfl) rfl enter_sFE) ((specEnt_any 1 (E + 1) 0 ⟨#[]⟩ _).mono fun _ _ ⟨⟨r, he, hi⟩, hb⟩ => ⟨_, he, by rw [hi.new hE0 HE.out], hb⟩) ?_)
          rintro _ r3 ⟨rfl, hb⟩
          have Sr3 := Sr2.below hb
          have Xr3 := Xr2.block (hb.block X xr2)
          have xr3 : X < r3.heap.size := Nat.lt_of_lt_of_le xr2 hb.size
          have hRr3 := hRr2.below hb (Nat.le_refl _)
          have oAr3 := oAr2.below hb (Nat.le_refl _)
          have Hr3 := hid (show CF r3 w.heap.size [.int .i64 d.wk, .bool d.up, .int .i64 d.now, .int .i64 d.sn, .int .i64 d.ep, .int .i64 d.gv, .slice h.a1 d.L1.length h.c1, .slice h.a2 d.L2.length h.c2, .slice h.ar d.R.length h.cr, .slice h.aj d.J.length h.cj, .slice h.az d.S.length h.cs, .slice h.ao d.O.length h.co] ∧ r3.cell? ⟨X, 4, none⟩ = some (.int .i64 (E + 1)) from ⟨Sr3.P, (Xr3 4 (by simp)).1⟩)
          clear hb
          refine ⟨Hr3.out, ?_⟩
          obtain ⟨r4, hr4⟩ : ∃ V, V = r3.alloc (.cells #[.string (entS 1 (E + 1) 0 ⟨#[]⟩)] 9) := ⟨_, rfl⟩
          have Sr4 : RiSt w pa pn pc [.int .i64 d.wk, .bool d.up, .int .i64 d.now, .int .i64 d.sn, .int .i64 d.ep, .int .i64 d.gv, .slice h.a1 d.L1.length h.c1, .slice h.a2 d.L2.length h.c2, .slice h.ar d.R.length h.cr, .slice h.aj d.J.length h.cj, .slice h.az d.S.length h.cs, .slice h.ao d.O.length h.co] r4 := by rw [hr4]; exact Sr3.alloc _
          have Xr4 : CF r4 X [.int .i64 d.wk, .bool true, .int .i64 d.now, .int .i64 0, .int .i64 (E + 1), .int .i64 0, .slice none 0 0, .slice none 0 0, .slice aR R.length cR, .slice none 0 0, .slice none 0 0, .slice none 0 0] := by rw [hr4]; exact Xr3.block (Below.heap_alloc _ _ _ xr3)
          have xr4 : X < r4.heap.size := by rw [hr4]; simp; omega
          have hRr4 : Own (w.heap.size + 3) r4 1 (.slice aR R.length cR) R.length (R.map Value.string) := by rw [hr4]; exact hRr3.alloc _
          obtain ⟨EB, hEB⟩ : ∃ EB : Value, EB = .slice (some ⟨r3.heap.size, 0, none⟩) 1 1 := ⟨_, rfl⟩
          have bEB : EB.ownBlock = some r3.heap.size := by rw [hEB]; rfl
          have oEr4 : Own (X + 1) r4 1 EB 1 [.string (entS 1 (E + 1) 0 ⟨#[]⟩)] := by
            rw [hr4, hEB]; exact .inr ⟨_, 0, 1, rfl, OwnC.made r3 (X + 1) 9 1 1 1 _ 1 (by omega) (Nat.le_refl _) (by unfold maxLen; omega) rfl (Nat.le_refl _) _ rfl _ (.inl rfl)⟩
          have oAr4 := oAr3.alloc (.cells #[.string (entS 1 (E + 1) 0 ⟨#[]⟩)] 9)
          rw [← hr4] at oAr4
          have DDr4 := Dj.new oAr3.row_hi (.inr bEB)
          have Hr4 := hid (show CF r4 w.heap.size [.int .i64 d.wk, .bool d.up, .int .i64 d.now, .int .i64 d.sn, .int .i64 d.ep, .int .i64 d.gv, .slice h.a1 d.L1.length h.c1, .slice h.a2 d.L2.length h.c2, .slice h.ar d.R.length h.cr, .slice h.aj d.J.length h.cj, .slice h.az d.S.length h.cs, .slice h.ao d.O.length h.co] ∧ r4.cell? ⟨X, 4, none⟩ = some (.int .i64 (E + 1)) from ⟨Sr4.P, (Xr4 4 (by simp)).1⟩)
          refine hOne (by kernel_rfl) (hVal (i := 9) (d := some 49) (v := EB) (w' := r4) (l' := #[true, true, true, true, true, true, true, true, true, true, false, false, false, false]) rfl (by kernel_rfl) (by kernel_rfl) (by kernel_rfl) (by rw [hr4, hEB]; exact run_bsS (.tmp 48) _ (by kernel_rfl) (by kernel_rfl)) Hr4.out ?_)
          obtain ⟨v3, q1, hap3, ho3, hg3, hbk3⟩ := run_append_c (P := Tryz.prog) r4 (X + 1) 22 22 22 9 i0 (.string ⟨#[]⟩) 1 16 Tryz.underlying22 hi0 hz00 hz01 hz02 rfl _ d.L1.length _ oAr4 _ 1 _ (oEr4.src Tryz.underlying22 (by simp; rfl)) (by unfold maxLen; omega) (by omega) (by omega)
          obtain ⟨a', c', rfl⟩ := ho3.slc
          have hlo := oAr4.row_lo
          have Sq1 := Sr4.grown hg3 (fun q hq => by have := hlo q hq; omega)
          have Xq1 := Xr4.block (hg3.block X xr4 (fun e => by have := hlo _ e.symm; omega))
          have xq1 : X < q1.heap.size := Nat.lt_of_lt_of_le xr4 hg3.size
          have hRq1 := hRr4.grown hg3 (Dj.later HRX.out (fun q hq => by have := hlo q hq; omega))
          have Hq1 := hid (show CF q1 w.heap.size [.int .i64 d.wk, .bool d.up, .int .i64 d.now, .int .i64 d.sn, .int .i64 d.ep, .int .i64 d.gv, .slice h.a1 d.L1.length h.c1, .slice h.a2 d.L2.length h.c2, .slice h.ar d.R.length h.cr, .slice h.aj d.J.length h.cj, .slice h.az d.S.length h.cs, .slice h.ao d.O.length h.co] ∧ q1.cell? ⟨X, 4, none⟩ = some (.int .i64 (E + 1)) from ⟨Sq1.P, (Xq1 4 (by simp)).1⟩)
          have y6 : q1.cell? ⟨X, 6, none⟩ = some (.slice none 0 0) := (Xq1 6 (by simp)).1
          have f6 : q1.frozen? ⟨X, 6, none⟩ = false := (Xq1 6 (by simp)).2
          obtain ⟨q2, hq2⟩ : ∃ V, V = q1.setCell ⟨X, 6, none⟩ (.slice a' (d.L1.length + 1) c') := ⟨_, rfl⟩
          have gq2 : q1.grownBy q2 (some X) := by rw [hq2]; exact gset (World.grownBy.refl q1 (some X)) 6 _
          have Sq2 := Sq1.grown gq2 (fun q hq => by injection hq with hq; omega)
          have Xq2 : CF q2 X [.int .i64 d.wk, .bool true, .int .i64 d.now, .int .i64 0, .int .i64 (E + 1), .int .i64 0, .slice a' (d.L1.length + 1) c', .slice none 0 0, .slice aR R.length cR, .slice none 0 0, .slice none 0 0, .slice none 0 0] := by rw [hq2]; exact Xq1.set (j := 6) (by simp) (.slice a' (d.L1.length + 1) c')
          have xq2 : X < q2.heap.size := Nat.lt_of_lt_of_le xq1 gq2.size
          have hRq2 := hRq1.grown gq2 (Dj.later HRX.out (fun q hq => by injection hq with hq; omega))
          have ho4 : Own (X + 1) q2 1 (.slice a' (d.L1.length + 1) c') (d.L1.length + 1) ((d.L1 ++ [(entS 1 (E + 1) 0 ⟨#[]⟩)]).map Value.string) := by rw [List.map_append]; exact ho3.grown gq2 (.inr (by intro hh; have := ho3.row_lo _ hh; omega))
          have Hq2 := hid (show CF q2 w.heap.size [.int .i64 d.wk, .bool d.up, .int .i64 d.now, .int .i64 d.sn, .int .i64 d.ep, .int .i64 d.gv, .slice h.a1 d.L1.length h.c1, .slice h.a2 d.L2.length h.c2, .slice h.ar d.R.length h.cr, .slice h.aj d.J.length h.cj, .slice h.az d.S.length h.cs, .slice h.ao d.O.length h.co] ∧ q2.cell? ⟨X, 4, none⟩ = some (.int .i64 (E + 1)) from ⟨Sq2.P, (Xq2 4 (by simp)).1⟩)
          have HR := hid (show (∃ (a' : Option Addr) (c' : Nat), (.pointer (some ⟨w.heap.size + 2, 0, none⟩) : Value) = .pointer (some ⟨w.heap.size + 2, 0, none⟩) ∧ RiSt w pa pn pc [.int .i64 d.wk, .bool d.up, .int .i64 d.now, .int .i64 d.sn, .int .i64 d.ep, .int .i64 d.gv, .slice h.a1 d.L1.length h.c1, .slice h.a2 d.L2.length h.c2, .slice h.ar d.R.length h.cr, .slice h.aj d.J.length h.cj, .slice h.az d.S.length h.cs, .slice h.ao d.O.length h.co] q2 ∧ CF q2 X [.int .i64 d.wk, .bool true, .int .i64 d.now, .int .i64 0, .int .i64 (E + 1), .int .i64 0, .slice a' (d.L1.length + 1) c', .slice none 0 0, .slice aR R.length cR, .slice none 0 0, .slice none 0 0, .slice none 0 0] ∧ X < q2.heap.size ∧ Own (X + 1) q2 1 (.slice a' (d.L1.length + 1) c') (d.L1.length + 1) ((d.L1 ++ [(entS 1 (E + 1) 0 ⟨#[]⟩)]).map Value.string) ∧ Own (w.heap.size + 3) q2 1 (.slice aR R.length cR) R.length (R.map Value.string)) from ⟨a', c', rfl, Sq2, Xq2, xq2, ho4, hRq2⟩)
          refine hOne (by kernel_rfl) (hVal (i := 10) (d := some 50) (v := .slice a' (d.L1.length + 1) c') (w' := q1) (l' := #[true, true, true, true, true, true, true, true, true, true, true, false, false, false]) rfl (by kernel_rfl) (by kernel_rfl) (by kernel_rfl) (run_app (.tmp 44) (.tmp 49) 22 22 (by kernel_rfl) (by kernel_rfl) (by kernel_rfl) (by kernel_rfl) hap3) Hq1.out ?_)
          refine hTake (i := 11) (d := some 51) (v := .pointer (some ⟨X, 6, none⟩)) (l' := #[true, true, true, true, true, true, true, true, true, true, true, true, false, false]) rfl (by kernel_rfl) (by kernel_rfl) (by kernel_rfl) (by kernel_rfl) (fun _ _ _ h => h) (by kernel_rfl) (fun _ hc => by kernel_rfl) Hq1.out (by kernel_rfl) ?_
          refine hTake (i := 12) (d := some 52) (v := .pointer (some ⟨X, 6, none⟩)) (l' := #[true, true, true, true, true, true, true, true, true, true, true, true, true, false]) rfl (by kernel_rfl) (by kernel_rfl) (by kernel_rfl) (by kernel_rfl) (fun _ _ _ h => h) (by kernel_rfl) (fun _ hc => by kernel_rfl) Hq1.out (by kernel_rfl) ?_
          refine hOne (by kernel_rfl) (hSkip (i := 13) (w' := q2) (l' := #[true, true, true, true, true, true, true, true, true, true, true, true, true, true]) rfl (by kernel_rfl) (by kernel_rfl) (by kernel_rfl) (by rw [hq2]; exact run_stS (.tmp 52) (.tmp 50) (by kernel_rfl) (by kernel_rfl) (by kernel_rfl) y6 f6) Hq2.out ?_)
          refine wpAnyH_done (by kernel_rfl) ?_ _
          clear hap3 ho3 hg3 hbk3 hlo Sq1 Xq1 xq1 hRq1 y6 f6 gq2 Sq2 Xq2 xq2 hRq2 ho4 Hq1 Hq2 hq2
          go_wp2_with fail
          go_meet
          case rel =>
            obtain ⟨a', c', -, hh⟩ := HR.out
            exact ⟨a', c', rfl, hh⟩
        case rest =>
          obtain ⟨a', c', rfl, S4, X4, x4, ho4, hoR4⟩ := hcut
          obtain ⟨y4, rfl⟩ : ∃ y, y = wc := ⟨_, rfl⟩
          clear S6 X6 x6 hoR6
          go_wp2
          go_loopw [7] (fun i wr => ∃ k : Nat, k ≤ pn ∧ i = .int .i64 k ∧ ∃ (aJ : Option Addr) (cJ : Nat), RiSt w pa pn pc [.int .i64 d.wk, .bool d.up, .int .i64 d.now, .int .i64 d.sn, .int .i64 d.ep, .int .i64 d.gv, .slice h.a1 d.L1.length h.c1, .slice h.a2 d.L2.length h.c2, .slice h.ar d.R.length h.cr, .slice h.aj d.J.length h.cj, .slice h.az d.S.length h.cs, .slice h.ao d.O.length h.co] wr ∧ CF wr X [.int .i64 d.wk, .bool true, .int .i64 d.now, .int .i64 0, .int .i64 (E + 1), .int .i64 0, .slice a' (d.L1.length + 1) c', .slice none 0 0, .slice aR R.length cR, .slice aJ k cJ, .slice none 0 0, .slice none 0 0] ∧ X < wr.heap.size ∧ Own (X + 1) wr 1 (.slice a' (d.L1.length + 1) c') (d.L1.length + 1) ((d.L1 ++ [(entS 1 (E + 1) 0 ⟨#[]⟩)]).map Value.string) ∧ Own (w.heap.size + 3) wr 1 (.slice aR R.length cR) R.length (R.map Value.string) ∧ Own (X + 1) wr 3 (.slice aJ k cJ) k (c3 (List.replicate k (0, 0, 0))) ∧ Dj (Value.slice a' (d.L1.length + 1) c').ownBlock (Value.slice aJ k cJ).ownBlock) (fun i _ => pn - (intOf i).toNat)
          case atStart => exact ⟨0, Nat.zero_le _, rfl, none, 0, S4, X4, x4, ho4, hoR4, Own.nil _ _ _, Dj.symm (Dj.none_l _)⟩
          case round =>
            clear S4 X4 x4 ho4 hoR4
            obtain ⟨k, hk, rfl, aJ, cJ, S4, X4, x4, ho4, hoR4, hoJ, hLJ⟩ := hrel
            have kp : wr.cell? ⟨w.heap.size + 1, 0, none⟩ = some (.slice pa pn pc) := (S4.L 0 (by simp)).1
            by_cases hlt : k < pn
            · have hlt' : (k : Int) < (pn : Int) := by omega
              obtain ⟨U, hU⟩ : ∃ U, U = wr.alloc (.cells #[.int .i64 0, .int .i64 0, .int .i64 0] 113) := ⟨_, rfl⟩
              have own1 : Own (X + 1) U 3 (.slice (some ⟨wr.heap.size, 0, none⟩) 1 1) 1 [.int .i64 0, .int .i64 0, .int .i64 0] := by
                rw [hU]; exact .inr ⟨_, 0, 1, rfl, OwnC.made wr (X + 1) 113 3 1 1 _ 3 (by omega) (Nat.le_refl _) (by unfold maxLen; omega) rfl (Nat.le_refl _) _ rfl _ (.inl rfl)⟩
              have src1 : Src Tryz.prog 3 36 _ 1 _ U := own1.src Tryz.underlying36 (by simp; rfl)
              have SU : RiSt w pa pn pc [.int .i64 d.wk, .bool d.up, .int .i64 d.now, .int .i64 d.sn, .int .i64 d.ep, .int .i64 d.gv, .slice h.a1 d.L1.length h.c1, .slice h.a2 d.L2.length h.c2, .slice h.ar d.R.length h.cr, .slice h.aj d.J.length h.cj, .slice h.az d.S.length h.cs, .slice h.ao d.O.length h.co] U := by rw [hU]; exact S4.alloc _
              have XU : CF U X [.int .i64 d.wk, .bool true, .int .i64 d.now, .int .i64 0, .int .i64 (E + 1), .int .i64 0, .slice a' (d.L1.length + 1) c', .slice none 0 0, .slice aR R.length cR, .slice aJ k cJ, .slice none 0 0, .slice none 0 0] := by rw [hU]; exact X4.block (Below.heap_alloc _ _ _ x4)
              have xU : X < U.heap.size := by rw [hU]; simp; omega
              have hoU := ho4.alloc (.cells #[.int .i64 0, .int .i64 0, .int .i64 0] 113)
              have hoRU := hoR4.alloc (.cells #[.int .i64 0, .int .i64 0, .int .i64 0] 113)
              have hoJU := hoJ.alloc (.cells #[.int .i64 0, .int .i64 0, .int .i64 0] 113)
              rw [← hU] at hoU hoRU hoJU
              have c9 : wr.cell? ⟨X, 9, none⟩ = some (.slice aJ k cJ) := (X4 9 (by simp)).1
              have hrow := hoJU.row_lo
              clear S4 X4 x4 ho4 hoR4 hoJ own1
              go_wp2_with (at_builtin; rw [← hU]; refine wpList_append_c _ rfl _ _ 36 36 rfl (X + 1) 113 i3 (.agg #[.int .i64 0, .int .i64 0, .int .i64 0]) 3 24 Tryz.underlying36 hi3 hz30 hz31 hz32 rfl _ k _ rfl hoJU _ 1 _ rfl src1 (by unfold maxLen; omega) (by omega) (by omega) ?_; intro v' w6 hown' hgrow hblk; have X6 := XU.block (hgrow.block X xU (fun e => absurd (hrow _ e.symm) (by omega))); have q9 := (X6 9 (by simp)).1; have f9 := (X6 9 (by simp)).2; obtain ⟨aJ', cJ', rfl⟩ := hown'.slc)
              have S6 := SU.grown hgrow (fun q hq => by have := hrow q hq; omega)
              have x6 : X < w6.heap.size := Nat.lt_of_lt_of_le xU hgrow.size
              have ho6 := hoU.grown hgrow hLJ
              have hoR6 := hoRU.grown hgrow (Dj.later HRX.out (fun q hq => by have := hrow q hq; omega))
              have hLJ6 : Dj (Value.slice a' (d.L1.length + 1) c').ownBlock (Value.slice aJ' (k + 1) cJ').ownBlock := by
                rcases hblk with h5 | h5
                · rw [h5]; exact hLJ
                · exact Dj.new hoU.row_hi (.inr h5)
              have gs := gset (World.grownBy.refl w6 (some X)) 9 (.slice aJ' (k + 1) cJ')
              have S7 := S6.grown gs (fun q hq => by injection hq with hq; omega)
              have x7 : X < (w6.setCell ⟨X, 9, none⟩ (.slice aJ' (k + 1) cJ')).heap.size := Nat.lt_of_lt_of_le x6 gs.size
              have ho7 := ho6.grown gs (.inr (by intro hh; have := ho6.row_lo _ hh; omega))
              have hoR7 := hoR6.grown gs (Dj.later HRX.out (fun q hq => by injection hq with hq; omega))
              have hoJ7 := hown'.grown gs (.inr (by intro hh; have := hown'.row_lo _ hh; omega))
              rw [← rep3_snoc] at hoJ7
              go_roundw
              case rel => exact ⟨k + 1, by omega, by go_num, aJ', cJ', S7, X6.set (j := 9) (by simp) _, x7, ho7, hoR7, hoJ7, hLJ6⟩
              case measure => simp [intOf]; omega
            · obtain rfl : k = pn := by omega
              have y0 : wr.cell? ⟨w.heap.size, 0, none⟩ = some (.int .i64 d.wk) := (S4.P 0 (by simp)).1
              obtain ⟨nw, hnw⟩ : ∃ nw : Nat, nw = d.wk.toNat := ⟨_, rfl⟩
              have HNW := hid (show d.wk = (nw : Int) by omega)
              have hnw8 : nw ≤ 8 := by omega
              have HNW0 := hid hnw
              clear hnw hlt hk
              have HLJ := hid hLJ
              clear hLJ
              go_wp2
              go_loopw [8] (fun i wr => ∃ j : Nat, j ≤ nw ∧ i = .int .i64 j ∧ ∃ (aS : Option Addr) (cS : Nat), RiSt w pa k pc [.int .i64 d.wk, .bool d.up, .int .i64 d.now, .int .i64 d.sn, .int .i64 d.ep, .int .i64 d.gv, .slice h.a1 d.L1.length h.c1, .slice h.a2 d.L2.length h.c2, .slice h.ar d.R.length h.cr, .slice h.aj d.J.length h.cj, .slice h.az d.S.length h.cs, .slice h.ao d.O.length h.co] wr ∧ CF wr X [.int .i64 d.wk, .bool true, .int .i64 d.now, .int .i64 0, .int .i64 (E + 1), .int .i64 0, .slice a' (d.L1.length + 1) c', .slice none 0 0, .slice aR R.length cR, .slice aJ k cJ, .slice aS j cS, .slice none 0 0] ∧ X < wr.heap.size ∧ Own (X + 1) wr 1 (.slice a' (d.L1.length + 1) c') (d.L1.length + 1) ((d.L1 ++ [(entS 1 (E + 1) 0 ⟨#[]⟩)]).map Value.string) ∧ Own (w.heap.size + 3) wr 1 (.slice aR R.length cR) R.length (R.map Value.string) ∧ Own (X + 1) wr 3 (.slice aJ k cJ) k (c3 (List.replicate k (0, 0, 0))) ∧ Own (X + 1) wr 2 (.slice aS j cS) j (c2 (List.replicate j (false, 0))) ∧ Dj (Value.slice a' (d.L1.length + 1) c').ownBlock (Value.slice aS j cS).ownBlock ∧ Dj (Value.slice aJ k cJ).ownBlock (Value.slice aS j cS).ownBlock) (fun i _ => nw - (intOf i).toNat)
              case atStart => exact ⟨0, Nat.zero_le _, rfl, none, 0, S4, X4, x4, ho4, hoR4, hoJ, Own.nil _ _ _, Dj.symm (Dj.none_l _), Dj.symm (Dj.none_l _)⟩
              case round =>
                clear S4 X4 x4 ho4 hoR4 hoJ y0 kp
                obtain ⟨j, hj, rfl, aS, cS, S4, X4, x4, ho4, hoR4, hoJ, hoS, hLS, hJS⟩ := hrel
                have y0 : wr.cell? ⟨w.heap.size, 0, none⟩ = some (.int .i64 d.wk) := (S4.P 0 (by simp)).1
                by_cases hlt : j < nw
                · have hlt' : (j : Int) < d.wk := by rw [HNW.out]; omega
                  obtain ⟨U, hU⟩ : ∃ U, U = wr.alloc (.cells #[.bool false, .int .i64 0] 108) := ⟨_, rfl⟩
                  have own1 : Own (X + 1) U 2 (.slice (some ⟨wr.heap.size, 0, none⟩) 1 1) 1 [.bool false, .int .i64 0] := by
                    rw [hU]; exact .inr ⟨_, 0, 1, rfl, OwnC.made wr (X + 1) 108 2 1 1 _ 2 (by omega) (Nat.le_refl _) (by unfold maxLen; omega) rfl (Nat.le_refl _) _ rfl _ (.inl rfl)⟩
                  have src1 : Src Tryz.prog 2 37 _ 1 _ U := own1.src Tryz.underlying37 (by intro v hv; simp only [List.mem_cons, List.not_mem_nil, or_false] at hv; rcases hv with rfl | rfl <;> rfl)
                  have SU : RiSt w pa k pc [.int .i64 d.wk, .bool d.up, .int .i64 d.now, .int .i64 d.sn, .int .i64 d.ep, .int .i64 d.gv, .slice h.a1 d.L1.length h.c1, .slice h.a2 d.L2.length h.c2, .slice h.ar d.R.length h.cr, .slice h.aj d.J.length h.cj, .slice h.az d.S.length h.cs, .slice h.ao d.O.length h.co] U := by rw [hU]; exact S4.alloc _
                  have XU : CF U X [.int .i64 d.wk, .bool true, .int .i64 d.now, .int .i64 0, .int .i64 (E + 1), .int .i64 0, .slice a' (d.L1.length + 1) c', .slice none 0 0, .slice aR R.length cR, .slice aJ k cJ, .slice aS j cS, .slice none 0 0] := by rw [hU]; exact X4.block (Below.heap_alloc _ _ _ x4)
                  have xU : X < U.heap.size := by rw [hU]; simp; omega
                  have hoU := ho4.alloc (.cells #[.bool false, .int .i64 0] 108)
                  have hoRU := hoR4.alloc (.cells #[.bool false, .int .i64 0] 108)
                  have hoJU := hoJ.alloc (.cells #[.bool false, .int .i64 0] 108)
                  have hoSU := hoS.alloc (.cells #[.bool false, .int .i64 0] 108)
                  rw [← hU] at hoU hoRU hoJU hoSU
                  have c10 : wr.cell? ⟨X, 10, none⟩ = some (.slice aS j cS) := (X4 10 (by simp)).1
                  have hrow := hoSU.row_lo
                  clear S4 X4 x4 ho4 hoR4 hoJ hoS own1
                  go_wp2_with (at_builtin; rw [← hU]; refine wpList_append_c _ rfl _ _ 37 37 rfl (X + 1) 108 i4 (.agg #[.bool false, .int .i64 0]) 2 16 Tryz.underlying37 hi4 hz40 hz41 hz42 rfl _ j _ rfl hoSU _ 1 _ rfl src1 (by unfold maxLen; omega) (by omega) (by omega) ?_; intro v' w6 hown' hgrow hblk; have X6 := XU.block (hgrow.block X xU (fun e => absurd (hrow _ e.symm) (by omega))); have q10 := (X6 10 (by simp)).1; have f10 := (X6 10 (by simp)).2; obtain ⟨aS', cS', rfl⟩ := hown'.slc)
                  have S6 := SU.grown hgrow (fun q hq => by have := hrow q hq; omega)
                  have x6 : X < w6.heap.size := Nat.lt_of_lt_of_le xU hgrow.size
                  have ho6 := hoU.grown hgrow hLS
                  have hoJ6 := hoJU.grown hgrow hJS
                  have hoR6 := hoRU.grown hgrow (Dj.later HRX.out (fun q hq => by have := hrow q hq; omega))
                  have hLS6 : Dj (Value.slice a' (d.L1.length + 1) c').ownBlock (Value.slice aS' (j + 1) cS').ownBlock := by
                    rcases hblk with h5 | h5
                    · rw [h5]; exact hLS
                    · exact Dj.new hoU.row_hi (.inr h5)
                  have hJS6 : Dj (Value.slice aJ k cJ).ownBlock (Value.slice aS' (j + 1) cS').ownBlock := by
                    rcases hblk with h5 | h5
                    · rw [h5]; exact hJS
                    · exact Dj.new hoJU.row_hi (.inr h5)
                  have gs := gset (World.grownBy.refl w6 (some X)) 10 (.slice aS' (j + 1) cS')
                  have S7 := S6.grown gs (fun q hq => by injection hq with hq; omega)
                  have x7 : X < (w6.setCell ⟨X, 10, none⟩ (.slice aS' (j + 1) cS')).heap.size := Nat.lt_of_lt_of_le x6 gs.size
                  have ho7 := ho6.grown gs (.inr (by intro hh; have := ho6.row_lo _ hh; omega))
                  have hoR7 := hoR6.grown gs (Dj.later HRX.out (fun q hq => by injection hq with hq; omega))
                  have hoJ7 := hoJ6.grown gs (.inr (by intro hh; have := hoJ6.row_lo _ hh; omega))
                  have hoS7 := hown'.grown gs (.inr (by intro hh; have := hown'.row_lo _ hh; omega))
                  rw [← rep2_snoc] at hoS7
                  go_roundw
                  case rel => exact ⟨j + 1, by omega, by go_num, aS', cS', S7, X6.set (j := 10) (by simp) _, x7, ho7, hoR7, hoJ7, hoS7, hLS6, hJS6⟩
                  case measure => simp [intOf]; omega
                · obtain rfl : j = nw := by omega
                  have hlt' : ¬ ((j : Int) < d.wk) := by rw [HNW.out]; omega
                  have b0 : wr.cell? ⟨X, 0, none⟩ = some (.int .i64 d.wk) := (X4 0 (by simp)).1
                  have b1 : wr.cell? ⟨X, 1, none⟩ = some (.bool true) := (X4 1 (by simp)).1
                  have b2 : wr.cell? ⟨X, 2, none⟩ = some (.int .i64 d.now) := (X4 2 (by simp)).1
                  have b3 : wr.cell? ⟨X, 3, none⟩ = some (.int .i64 0) := (X4 3 (by simp)).1
                  have b4 : wr.cell? ⟨X, 4, none⟩ = some (.int .i64 (E + 1)) := (X4 4 (by simp)).1
                  have b5 : wr.cell? ⟨X, 5, none⟩ = some (.int .i64 0) := (X4 5 (by simp)).1
                  have b6 : wr.cell? ⟨X, 6, none⟩ = some (.slice a' (d.L1.length + 1) c') := (X4 6 (by simp)).1
                  have b7 : wr.cell? ⟨X, 7, none⟩ = some (.slice none 0 0) := (X4 7 (by simp)).1
                  have b8 : wr.cell? ⟨X, 8, none⟩ = some (.slice aR R.length cR) := (X4 8 (by simp)).1
                  have b9 : wr.cell? ⟨X, 9, none⟩ = some (.slice aJ k cJ) := (X4 9 (by simp)).1
                  have b10 : wr.cell? ⟨X, 10, none⟩ = some (.slice aS j cS) := (X4 10 (by simp)).1
                  have b11 : wr.cell? ⟨X, 11, none⟩ = some (.slice none 0 0) := (X4 11 (by simp)).1
                  go_wp2_with (refine wpList_store_cf rfl 40 (.tmp 4) (.tmp 78) rfl (w.heap.size + 2) zB [.int .i64 d.wk, .bool true, .int .i64 d.now, .int .i64 0, .int .i64 (E + 1), .int .i64 0, .slice a' (d.L1.length + 1) c', .slice none 0 0, .slice aR R.length cR, .slice aJ k cJ, .slice aS j cS, .slice none 0 0] rfl rfl S4.R rfl Tryz.sizeBo (one12b _ _ _ _ _ _ _ _ _ _ _ _ _ _ _ _ _ _ _ _ _ _ _ _) ?_; intro w10 hc10 hg10)
                  clear b0 b1 b2 b3 b4 b5 b6 b7 b8 b9 b10 b11 hlt' hlt hj
                  have z0 := (ho4.grown hg10 (.inr (by intro hh; have := ho4.row_lo _ hh; omega))).mono' (show w.heap.size ≤ X + 1 by omega)
                  have z1 := (hoR4.grown hg10 (.inr (by intro hh; have := hoR4.row_lo _ hh; omega))).mono' (show w.heap.size ≤ w.heap.size + 3 by omega)
                  have z2 := (hoJ.grown hg10 (.inr (by intro hh; have := hoJ.row_lo _ hh; omega))).mono' (show w.heap.size ≤ X + 1 by omega)
                  have z3 := (hoS.grown hg10 (.inr (by intro hh; have := hoS.row_lo _ hh; omega))).mono' (show w.heap.size ≤ X + 1 by omega)
                  have hXlo : ∀ {n : Nat} {a : Option Addr} {c sz m : Nat} {l : List Value}, Own (X + 1) wr sz (.slice a n c) m l → ∀ q, (Value.slice a n c).ownBlock = some q → X ≤ q := fun hh q hq => by have := hh.row_lo q hq; omega
                  have RL := Dj.later HRX.out (hXlo ho4)
                  have RJ := Dj.later HRX.out (hXlo hoJ)
                  have RS := Dj.later HRX.out (hXlo hoS)
                  have HO : Hid (BossO w10 w.heap.size (riseB d E R ts.length) ⟨a', none, aR, aJ, aS, none, c', 0, cR, cJ, cS, 0⟩) := by
                    refine ⟨?_, Own.nil _ _ _, ?_, ?_, ?_, Own.nil _ _ _, ?_⟩
                    · simp only [riseB, List.length_append, List.length_cons, List.length_nil]; exact z0
                    · exact z1
                    · simp only [riseB, List.length_replicate]; rw [HPL.out]; exact z2
                    · simp only [riseB, List.length_replicate]; rw [← HNW0.out]; exact z3
                    · simp only [riseB, List.length_append, List.length_cons, List.length_nil, List.length_replicate, List.pairwise_cons, List.mem_cons, List.not_mem_nil, or_false, forall_eq_or_imp, forall_eq, List.Pairwise.nil, and_true, false_implies, implies_true]
                      rw [HPL.out, ← HNW0.out]
                      have N : ∀ x : Option Nat, Dj x (Value.slice none 0 0).ownBlock := fun x => Dj.symm (Dj.none_l _)
                      exact ⟨⟨N _, RL.symm, HLJ.out, hLS, N _⟩, ⟨Dj.none_l _, Dj.none_l _, Dj.none_l _, N _⟩, ⟨RJ, RS, N _⟩, ⟨hJS, N _⟩, N _⟩
                  have k0 : w10.cell? ⟨w.heap.size + 2, 0, none⟩ = some (.int .i64 d.wk) := (hc10 0 (by simp)).1
                  have k1 : w10.cell? ⟨w.heap.size + 2, 1, none⟩ = some (.bool true) := (hc10 1 (by simp)).1
                  have k2 : w10.cell? ⟨w.heap.size + 2, 2, none⟩ = some (.int .i64 d.now) := (hc10 2 (by simp)).1
                  have k3 : w10.cell? ⟨w.heap.size + 2, 3, none⟩ = some (.int .i64 0) := (hc10 3 (by simp)).1
                  have k4 : w10.cell? ⟨w.heap.size + 2, 4, none⟩ = some (.int .i64 (E + 1)) := (hc10 4 (by simp)).1
                  have k5 : w10.cell? ⟨w.heap.size + 2, 5, none⟩ = some (.int .i64 0) := (hc10 5 (by simp)).1
                  have k6 : w10.cell? ⟨w.heap.size + 2, 6, none⟩ = some (.slice a' (d.L1.length + 1) c') := (hc10 6 (by simp)).1
                  have k7 : w10.cell? ⟨w.heap.size + 2, 7, none⟩ = some (.slice none 0 0) := (hc10 7 (by simp)).1
                  have k8 : w10.cell? ⟨w.heap.size + 2, 8, none⟩ = some (.slice aR R.length cR) := (hc10 8 (by simp)).1
                  have k9 : w10.cell? ⟨w.heap.size + 2, 9, none⟩ = some (.slice aJ k cJ) := (hc10 9 (by simp)).1
                  have k10 : w10.cell? ⟨w.heap.size + 2, 10, none⟩ = some (.slice aS j cS) := (hc10 10 (by simp)).1
                  have k11 : w10.cell? ⟨w.heap.size + 2, 11, none⟩ = some (.slice none 0 0) := (hc10 11 (by simp)).1
                  refine bodyPost_ret (v := .agg #[.int .i64 d.wk, .bool true, .int .i64 d.now, .int .i64 0, .int .i64 (E + 1), .int .i64 0, .slice a' (d.L1.length + 1) c', .slice none 0 0, .slice aR R.length cR, .slice aJ k cJ, .slice aS j cS, .slice none 0 0]) (by simp [results, Tryz.results28, go_sem, k0, k1, k2, k3, k4, k5, k6, k7, k8, k9, k10, k11]) rfl ⟨⟨riseB d E R ts.length, ⟨_, ?_, HO.out⟩, .inr ⟨HUP.out, E, R, HT.out, .inr ⟨⟨HLT.out, HE.out⟩, rfl⟩⟩⟩, below_grown S4.B hg10 (by have := S4.z; omega) (fun q hq => by simp at hq; omega)⟩
                  simp only [bvs, riseB, List.length_append, List.length_cons, List.length_nil, List.length_replicate, HPL.out, ← HNW0.out]

set_option maxHeartbeats 4000000 in
set_option maxRecDepth 100000 in
theorem sRiseB_any (d : BD) (h : BH) (pa : Option Addr) (pb po pn pc : Nat) (ts : List TaskD) (w : World) (hM : BossM w d h) (hT : TasksAt w pa pb po pn ts) (hs : d.small) :
    Calls Tryz.prog 7 #[.agg #[.int .i64 d.wk, .bool d.up, .int .i64 d.now, .int .i64 d.sn, .int .i64 d.ep, .int .i64 d.gv, .slice h.a1 d.L1.length h.c1, .slice h.a2 d.L2.length h.c2, .slice h.ar d.R.length h.cr, .slice h.aj d.J.length h.cj, .slice h.az d.S.length h.cs, .slice h.ao d.O.length h.co], .agg #[.slice pa pn pc]] w fun e w' => (∃ d', RetBs e w.heap.size w' d' ∧ riseR2 d ts d') ∧ Below w.heap.size w w' := by
  obtain ⟨i0, hi0, hz00, hz01, hz02⟩ := info_parts Tryz.infoSt
  obtain ⟨W, hW⟩ : ∃ W, W = ((w.alloc (.cells #[.int .i64 d.wk, .bool d.up, .int .i64 d.now, .int .i64 d.sn, .int .i64 d.ep, .int .i64 d.gv, .slice h.a1 d.L1.length h.c1, .slice h.a2 d.L2.length h.c2, .slice h.ar d.R.length h.cr, .slice h.aj d.J.length h.cj, .slice h.az d.S.length h.cs, .slice h.ao d.O.length h.co] 40)).alloc (.cells #[.slice pa pn pc] 45)).alloc (.cells #[.int .i64 0, .bool false, .int .i64 0, .int .i64 0, .int .i64 0, .int .i64 0, .slice none 0 0, .slice none 0 0, .slice none 0 0, .slice none 0 0, .slice none 0 0, .slice none 0 0] 40) := ⟨_, rfl⟩
  have B0 : Below w.heap.size w W := by rw [hW]; exact (((Below.refl _ _).alloc (Nat.le_refl _) _).alloc (by simp) _).alloc (by simp; omega) _
  have z0 : w.heap.size + 3 ≤ W.heap.size := by rw [hW]; simp
  have P0 : CF W w.heap.size [.int .i64 d.wk, .bool d.up, .int .i64 d.now, .int .i64 d.sn, .int .i64 d.ep, .int .i64 d.gv, .slice h.a1 d.L1.length h.c1, .slice h.a2 d.L2.length h.c2, .slice h.ar d.R.length h.cr, .slice h.aj d.J.length h.cj, .slice h.az d.S.length h.cs, .slice h.ao d.O.length h.co] := by
    rw [hW]; exact ((CF.made w #[.int .i64 d.wk, .bool d.up, .int .i64 d.now, .int .i64 d.sn, .int .i64 d.ep, .int .i64 d.gv, .slice h.a1 d.L1.length h.c1, .slice h.a2 d.L2.length h.c2, .slice h.ar d.R.length h.cr, .slice h.aj d.J.length h.cj, .slice h.az d.S.length h.cs, .slice h.ao d.O.length h.co] 40).block (Below.heap_alloc _ _ _ (by simp))).block (Below.heap_alloc _ _ _ (by simp; omega))
  have L0 : CF W (w.heap.size + 1) [.slice pa pn pc] := by
    rw [hW]
    have := (CF.made (w.alloc (.cells #[.int .i64 d.wk, .bool d.up, .int .i64 d.now, .int .i64 d.sn, .int .i64 d.ep, .int .i64 d.gv, .slice h.a1 d.L1.length h.c1, .slice h.a2 d.L2.length h.c2, .slice h.ar d.R.length h.cr, .slice h.aj d.J.length h.cj, .slice h.az d.S.length h.cs, .slice h.ao d.O.length h.co] 40)) #[.slice pa pn pc] 45).block (Below.heap_alloc ((w.alloc (.cells #[.int .i64 d.wk, .bool d.up, .int .i64 d.now, .int .i64 d.sn, .int .i64 d.ep, .int .i64 d.gv, .slice h.a1 d.L1.length h.c1, .slice h.a2 d.L2.length h.c2, .slice h.ar d.R.length h.cr, .slice h.aj d.J.length h.cj, .slice h.az d.S.length h.cs, .slice h.ao d.O.length h.co] 40)).alloc (.cells #[.slice pa pn pc] 45)) (.cells #[.int .i64 0, .bool false, .int .i64 0, .int .i64 0, .int .i64 0, .int .i64 0, .slice none 0 0, .slice none 0 0, .slice none 0 0, .slice none 0 0, .slice none 0 0, .slice none 0 0] 40) _ (by simp))
    simpa using this
  have R0 : CF W (w.heap.size + 2) zB := by
    rw [hW]
    have := CF.made ((w.alloc (.cells #[.int .i64 d.wk, .bool d.up, .int .i64 d.now, .int .i64 d.sn, .int .i64 d.ep, .int .i64 d.gv, .slice h.a1 d.L1.length h.c1, .slice h.a2 d.L2.length h.c2, .slice h.ar d.R.length h.cr, .slice h.aj d.J.length h.cj, .slice h.az d.S.length h.cs, .slice h.ao d.O.length h.co] 40)).alloc (.cells #[.slice pa pn pc] 45)) #[.int .i64 0, .bool false, .int .i64 0, .int .i64 0, .int .i64 0, .int .i64 0, .slice none 0 0, .slice none 0 0, .slice none 0 0, .slice none 0 0, .slice none 0 0, .slice none 0 0] 40
    simpa [zB] using this
  have hV0 : BossV w d [.int .i64 d.wk, .bool d.up, .int .i64 d.now, .int .i64 d.sn, .int .i64 d.ep, .int .i64 d.gv, .slice h.a1 d.L1.length h.c1, .slice h.a2 d.L2.length h.c2, .slice h.ar d.R.length h.cr, .slice h.aj d.J.length h.cj, .slice h.az d.S.length h.cs, .slice h.ao d.O.length h.co] := ⟨h, rfl, hM⟩
  have hV := hid (hV0.below' B0)
  have hs' := hid hs
  clear hV0 hs
  have HW := hid hW
  clear hW
  go_enter Tryz.func7, Tryz.ntmps7
  go_upto_region 1 with fail
  rw [← HW.out]
  clear HW
  have y0 : W.cell? ⟨w.heap.size, 0, none⟩ = some (.int .i64 d.wk) := (P0 0 (by simp)).1
  have y1 : W.cell? ⟨w.heap.size, 1, none⟩ = some (.bool d.up) := (P0 1 (by simp)).1
  have y2 : W.cell? ⟨w.heap.size, 2, none⟩ = some (.int .i64 d.now) := (P0 2 (by simp)).1
  have y3 : W.cell? ⟨w.heap.size, 3, none⟩ = some (.int .i64 d.sn) := (P0 3 (by simp)).1
  have y4 : W.cell? ⟨w.heap.size, 4, none⟩ = some (.int .i64 d.ep) := (P0 4 (by simp)).1
  have y5 : W.cell? ⟨w.heap.size, 5, none⟩ = some (.int .i64 d.gv) := (P0 5 (by simp)).1
  have y6 : W.cell? ⟨w.heap.size, 6, none⟩ = some (.slice h.a1 d.L1.length h.c1) := (P0 6 (by simp)).1
  have y7 : W.cell? ⟨w.heap.size, 7, none⟩ = some (.slice h.a2 d.L2.length h.c2) := (P0 7 (by simp)).1
  have y8 : W.cell? ⟨w.heap.size, 8, none⟩ = some (.slice h.ar d.R.length h.cr) := (P0 8 (by simp)).1
  have y9 : W.cell? ⟨w.heap.size, 9, none⟩ = some (.slice h.aj d.J.length h.cj) := (P0 9 (by simp)).1
  have y10 : W.cell? ⟨w.heap.size, 10, none⟩ = some (.slice h.az d.S.length h.cs) := (P0 10 (by simp)).1
  have y11 : W.cell? ⟨w.heap.size, 11, none⟩ = some (.slice h.ao d.O.length h.co) := (P0 11 (by simp)).1
  have kp : W.cell? ⟨w.heap.size + 1, 0, none⟩ = some (.slice pa pn pc) := (L0 0 (by simp)).1
  go_wp2_with fail
  refine (sValBV_any d _ _ _ _ _ _ _ _ _ _ _ _ pa pb po pn pc ts _ hV.out (hT.below' B0) hs'.out).mono ?_
  rintro e w1 ⟨⟨r, rfl, hr⟩, hb1⟩
  clear y0 y1 y2 y3 y4 y5 y6 y7 y8 y9 y10 y11 kp
  have L1 := L0.block (hb1.block (w.heap.size + 1) (by omega))
  have P1 := P0.block (hb1.block w.heap.size (by omega))
  have R1 := R0.block (hb1.block (w.heap.size + 2) (by omega))
  have B1 := B0.trans (hb1.mono B0.size)
  have z1 : w.heap.size + 3 ≤ w1.heap.size := by have := hb1.size; omega
  have HR := hid hr
  clear hr hb1 P0 R0 B0 z0 L0
  cases r with
  | false =>
    have HN : Hid (¬ d.ok ts) := fun hh => by have := HR.out.2 hh; cases this
    go_upto_region 2 with fail
    go_wp2_with (refine wpList_store_cf rfl 40 (.tmp 4) (.tmp 9) rfl (w.heap.size + 2) zB [.int .i64 0, .bool false, .int .i64 0, .int .i64 0, .int .i64 0, .int .i64 0, .slice none 0 0, .slice none 0 0, .slice none 0 0, .slice none 0 0, .slice none 0 0, .slice none 0 0] rfl rfl R1 rfl Tryz.sizeBo (one12b _ _ _ _ _ _ _ _ _ _ _ _ _ _ _ _ _ _ _ _ _ _ _ _) ?_; intro w10 hc10 hg10)
    have k0 : w10.cell? ⟨w.heap.size + 2, 0, none⟩ = some (.int .i64 0) := (hc10 0 (by simp)).1
    have k1 : w10.cell? ⟨w.heap.size + 2, 1, none⟩ = some (.bool false) := (hc10 1 (by simp)).1
    have k2 : w10.cell? ⟨w.heap.size + 2, 2, none⟩ = some (.int .i64 0) := (hc10 2 (by simp)).1
    have k3 : w10.cell? ⟨w.heap.size + 2, 3, none⟩ = some (.int .i64 0) := (hc10 3 (by simp)).1
    have k4 : w10.cell? ⟨w.heap.size + 2, 4, none⟩ = some (.int .i64 0) := (hc10 4 (by simp)).1
    have k5 : w10.cell? ⟨w.heap.size + 2, 5, none⟩ = some (.int .i64 0) := (hc10 5 (by simp)).1
    have k6 : w10.cell? ⟨w.heap.size + 2, 6, none⟩ = some (.slice none 0 0) := (hc10 6 (by simp)).1
    have k7 : w10.cell? ⟨w.heap.size + 2, 7, none⟩ = some (.slice none 0 0) := (hc10 7 (by simp)).1
    have k8 : w10.cell? ⟨w.heap.size + 2, 8, none⟩ = some (.slice none 0 0) := (hc10 8 (by simp)).1
    have k9 : w10.cell? ⟨w.heap.size + 2, 9, none⟩ = some (.slice none 0 0) := (hc10 9 (by simp)).1
    have k10 : w10.cell? ⟨w.heap.size + 2, 10, none⟩ = some (.slice none 0 0) := (hc10 10 (by simp)).1
    have k11 : w10.cell? ⟨w.heap.size + 2, 11, none⟩ = some (.slice none 0 0) := (hc10 11 (by simp)).1
    exact bodyPost_ret (v := .agg #[.int .i64 0, .bool false, .int .i64 0, .int .i64 0, .int .i64 0, .int .i64 0, .slice none 0 0, .slice none 0 0, .slice none 0 0, .slice none 0 0, .slice none 0 0, .slice none 0 0]) (by simp [results, Tryz.results7, go_sem, k0, k1, k2, k3, k4, k5, k6, k7, k8, k9, k10, k11]) rfl ⟨⟨zBD, ⟨_, rfl, zBO _ _⟩, .inr ⟨HN.out, rfl⟩⟩, below_grown B1 hg10 (by omega) (fun q hq => by simp at hq; omega)⟩
  | true =>
    have HV : Hid (d.ok ts) := HR.out.1 rfl
    have hM1 := hM.below' B1
    have hT1 := hT.below' B1
    have y0 : w1.cell? ⟨w.heap.size, 0, none⟩ = some (.int .i64 d.wk) := (P1 0 (by simp)).1
    have y1 : w1.cell? ⟨w.heap.size, 1, none⟩ = some (.bool d.up) := (P1 1 (by simp)).1
    have y2 : w1.cell? ⟨w.heap.size, 2, none⟩ = some (.int .i64 d.now) := (P1 2 (by simp)).1
    have y3 : w1.cell? ⟨w.heap.size, 3, none⟩ = some (.int .i64 d.sn) := (P1 3 (by simp)).1
    have y4 : w1.cell? ⟨w.heap.size, 4, none⟩ = some (.int .i64 d.ep) := (P1 4 (by simp)).1
    have y5 : w1.cell? ⟨w.heap.size, 5, none⟩ = some (.int .i64 d.gv) := (P1 5 (by simp)).1
    have y6 : w1.cell? ⟨w.heap.size, 6, none⟩ = some (.slice h.a1 d.L1.length h.c1) := (P1 6 (by simp)).1
    have y7 : w1.cell? ⟨w.heap.size, 7, none⟩ = some (.slice h.a2 d.L2.length h.c2) := (P1 7 (by simp)).1
    have y8 : w1.cell? ⟨w.heap.size, 8, none⟩ = some (.slice h.ar d.R.length h.cr) := (P1 8 (by simp)).1
    have y9 : w1.cell? ⟨w.heap.size, 9, none⟩ = some (.slice h.aj d.J.length h.cj) := (P1 9 (by simp)).1
    have y10 : w1.cell? ⟨w.heap.size, 10, none⟩ = some (.slice h.az d.S.length h.cs) := (P1 10 (by simp)).1
    have y11 : w1.cell? ⟨w.heap.size, 11, none⟩ = some (.slice h.ao d.O.length h.co) := (P1 11 (by simp)).1
    have kp : w1.cell? ⟨w.heap.size + 1, 0, none⟩ = some (.slice pa pn pc) := (L1 0 (by simp)).1
    go_wp2_with fail
    refine (l5Rise_any d h pa pb po pn pc ts _ HV.out hM1 hT1 hs'.out).mono ?_
    rintro e w2 ⟨⟨d', ⟨h', he, hO⟩, hK⟩, hb2⟩
    have he' : e = .returned (.agg #[.int .i64 d'.wk, .bool d'.up, .int .i64 d'.now, .int .i64 d'.sn, .int .i64 d'.ep, .int .i64 d'.gv, .slice h'.a1 d'.L1.length h'.c1, .slice h'.a2 d'.L2.length h'.c2, .slice h'.ar d'.R.length h'.cr, .slice h'.aj d'.J.length h'.cj, .slice h'.az d'.S.length h'.cs, .slice h'.ao d'.O.length h'.co]) := he
    clear he
    subst he'
    have HO := hid hO
    have HK := hid hK
    have R2 := R1.block (hb2.block (w.heap.size + 2) (by omega))
    have B2 := B1.trans (hb2.mono B1.size)
    clear y0 y1 y2 y3 y4 y5 y6 y7 y8 y9 y10 y11 kp hO hK hM1 hT1 P1 L1 R1
    go_wp2_with (refine wpList_store_cf rfl 40 (.tmp 4) (.tmp 12) rfl (w.heap.size + 2) zB [.int .i64 d'.wk, .bool d'.up, .int .i64 d'.now, .int .i64 d'.sn, .int .i64 d'.ep, .int .i64 d'.gv, .slice h'.a1 d'.L1.length h'.c1, .slice h'.a2 d'.L2.length h'.c2, .slice h'.ar d'.R.length h'.cr, .slice h'.aj d'.J.length h'.cj, .slice h'.az d'.S.length h'.cs, .slice h'.ao d'.O.length h'.co] rfl rfl R2 rfl Tryz.sizeBo (one12b _ _ _ _ _ _ _ _ _ _ _ _ _ _ _ _ _ _ _ _ _ _ _ _) ?_; intro w10 hc10 hg10)
    have k0 : w10.cell? ⟨w.heap.size + 2, 0, none⟩ = some (.int .i64 d'.wk) := (hc10 0 (by simp)).1
    have k1 : w10.cell? ⟨w.heap.size + 2, 1, none⟩ = some (.bool d'.up) := (hc10 1 (by simp)).1
    have k2 : w10.cell? ⟨w.heap.size + 2, 2, none⟩ = some (.int .i64 d'.now) := (hc10 2 (by simp)).1
    have k3 : w10.cell? ⟨w.heap.size + 2, 3, none⟩ = some (.int .i64 d'.sn) := (hc10 3 (by simp)).1
    have k4 : w10.cell? ⟨w.heap.size + 2, 4, none⟩ = some (.int .i64 d'.ep) := (hc10 4 (by simp)).1
    have k5 : w10.cell? ⟨w.heap.size + 2, 5, none⟩ = some (.int .i64 d'.gv) := (hc10 5 (by simp)).1
    have k6 : w10.cell? ⟨w.heap.size + 2, 6, none⟩ = some (.slice h'.a1 d'.L1.length h'.c1) := (hc10 6 (by simp)).1
    have k7 : w10.cell? ⟨w.heap.size + 2, 7, none⟩ = some (.slice h'.a2 d'.L2.length h'.c2) := (hc10 7 (by simp)).1
    have k8 : w10.cell? ⟨w.heap.size + 2, 8, none⟩ = some (.slice h'.ar d'.R.length h'.cr) := (hc10 8 (by simp)).1
    have k9 : w10.cell? ⟨w.heap.size + 2, 9, none⟩ = some (.slice h'.aj d'.J.length h'.cj) := (hc10 9 (by simp)).1
    have k10 : w10.cell? ⟨w.heap.size + 2, 10, none⟩ = some (.slice h'.az d'.S.length h'.cs) := (hc10 10 (by simp)).1
    have k11 : w10.cell? ⟨w.heap.size + 2, 11, none⟩ = some (.slice h'.ao d'.O.length h'.co) := (hc10 11 (by simp)).1
    have z2 := hb2.size
    exact bodyPost_ret (v := .agg #[.int .i64 d'.wk, .bool d'.up, .int .i64 d'.now, .int .i64 d'.sn, .int .i64 d'.ep, .int .i64 d'.gv, .slice h'.a1 d'.L1.length h'.c1, .slice h'.a2 d'.L2.length h'.c2, .slice h'.ar d'.R.length h'.cr, .slice h'.aj d'.J.length h'.cj, .slice h'.az d'.S.length h'.cs, .slice h'.ao d'.O.length h'.co]) (by simp [results, Tryz.results7, go_sem, k0, k1, k2, k3, k4, k5, k6, k7, k8, k9, k10, k11]) rfl ⟨⟨d', ⟨h', rfl, (HO.out.grew (Grew.of hg10) (fun r hr q hq r' hr' e => by
      obtain rfl := List.mem_singleton.1 hr
      injection hq with hq
      have h5 := (HO.out.lo r' hr' q e).1
      omega)).mono (by omega)⟩, .inl ⟨HV.out, HK.out⟩⟩, below_grown B2 hg10 (by omega) (fun q hq => by simp at hq; omega)⟩

end Go.Proofs.YtbfamabkbkpmpaaGreat
