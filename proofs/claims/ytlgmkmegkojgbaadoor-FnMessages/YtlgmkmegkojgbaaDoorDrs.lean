
/-
  spec.l2Spoil.
-/
import Derived.Test.YtlgmkmegkojgbaaDoorDrm
namespace Go.Proofs.YtlgmkmegkojgbaaDoor
open Go.RowKit

theorem grownBy_box2 {w w1 w2 : World} {g : Nat} (h : w.grownBy w1 (some g)) (hg : w1.grownBy w2 (some (w.heap.size + 1))) : w.grownBy w2 (some g) :=
  ⟨hg.os.trans h.os, hg.tape.trans h.tape, hg.output.trans h.output, Nat.le_trans h.size hg.size, fun q hq hne => (hg.block q (Nat.lt_of_lt_of_le hq h.size) (by simp; omega)).trans (h.block q hq hne)⟩
theorem dm_start2 (w : World) (g k : Nat) (vs : Array Value) (T T' : TypeId) (h : RD w g k) : DM w g (w.heap.size + 1) w.heap.size vs.toList k ((w.alloc (.cells vs T)).alloc (.cells zM.toArray T')) := by
  have hl := h.lt
  have h1 := CF.made w vs T
  have h2 := CF.made (w.alloc (.cells vs T)) zM.toArray T'
  have e1 : (w.alloc (.cells vs T)).heap.size = w.heap.size + 1 := by simp
  rw [e1] at h2
  refine ⟨h1.block (Below.heap_alloc _ _ _ (by simp)), h2, (h.keep (fun q hq => Below.heap_alloc _ _ _ (by omega))).keep (fun q hq => Below.heap_alloc _ _ _ (by simp; omega)), galloc (galloc (World.grownBy.refl _ _) _) _, by omega, Nat.le_refl _, hl, by omega, by simp; omega, by simp⟩

set_option maxHeartbeats 8000000 in
set_option maxRecDepth 100000 in
theorem l2Spoil_any (g k B : Nat) (w : World) (h : RD w g k) (hk : k ≤ 900000) (v : Value) (ok : Bool) (hv : OwnMsg B w v ok) :
    Calls Tryd.prog 51 #[.pointer (some ⟨g, 0, none⟩), v] w fun e' w' => (∃ v', e' = .returned v' ∧ OwnMsg w.heap.size w' v' false) ∧ RD w' g (k + 20) ∧ w.grownBy w' (some g) := by
  obtain ⟨i0, hi, hz0, hz1, hz2⟩ := info_parts Tryd.info9
  obtain ⟨k0, f, t, e, l, d, x, ss, a, c, rfl, hx, hl12, hs8, _, ho⟩ := hv
  obtain ⟨W, hW⟩ : ∃ W, W = (w.alloc (.cells #[.int .i64 k0, .int .i64 f, .int .i64 t, .int .i64 e, .int .i64 l, .int .i64 d, .string x, .slice a ss.length c] 27)).alloc (.cells zM.toArray 27) := ⟨_, rfl⟩
  have hD := dm_start2 w g k #[.int .i64 k0, .int .i64 f, .int .i64 t, .int .i64 e, .int .i64 l, .int .i64 d, .string x, .slice a ss.length c] 27 27 h
  rw [← hW] at hD
  have hsW : W.heap.size = w.heap.size + 2 := by rw [hW]; simp
  have hoW : Own B W 1 (.slice a ss.length c) ss.length (ss.map Value.string) := by rw [hW]; exact (ho.alloc _).alloc _
  have hgl := h.lt
  have hDE := hD.alloc (.cells #[] 9)
  have hoE := hoW.alloc (.cells #[] 9)
  have hown0 : Own (w.heap.size + 2) (W.alloc (.cells #[] 9)) 1 (.slice (some ⟨W.heap.size, 0, none⟩) 0 0) 0 [] :=
    .inr ⟨_, 0, 0, rfl, OwnC.made W (w.heap.size + 2) 9 1 0 0 _ 0 (by omega) (Nat.le_refl _) (by unfold maxLen; omega) rfl (Nat.le_refl _) _ rfl _ (.inl rfl)⟩
  have hsrc : Src Tryd.prog 1 22 (.slice a ss.length c) ss.length (ss.map Value.string) (W.alloc (.cells #[] 9)) := hoE.src Tryd.underlying22 (fun u hu => by obtain ⟨y, _, rfl⟩ := List.mem_map.1 hu; rfl)
  have c7 : W.cell? ⟨w.heap.size, 7, none⟩ = some (.slice a ss.length c) := (hD.m 7 (by simp)).1
  have c7a : (W.alloc (.cells #[] 9)).cell? ⟨w.heap.size, 7, none⟩ = some (.slice a ss.length c) := (hDE.m 7 (by simp)).1
  simp only [zM] at hW
  have HW := hid hW
  have hleW : w.heap.size + 2 ≤ W.heap.size := by omega
  clear hW h ho hoW hsW
  go_enter Tryd.func51, Tryd.ntmps51
  go_upto_region 1 with fail
  rw [← HW.out]
  clear HW
  go_wp2_with (at_builtin; refine wpList_append_c _ rfl _ _ 22 22 rfl (w.heap.size + 2) 9 i0 (.string ⟨#[]⟩) 1 16 Tryd.underlying22 hi hz0 hz1 hz2 rfl _ 0 _ rfl hown0 _ ss.length _ rfl hsrc (by unfold maxLen; omega) (by omega) (by simp; omega) ?_; intro v1 w1 ho1 hg1 hbk1; rw [Nat.zero_add, List.nil_append] at ho1; obtain ⟨a1, c1, rfl⟩ := ho1.slc; have hS1 := hDE.grown hg1 (fun q hq => by have := hown0.row_lo q hq; omega); have c71 : w1.cell? ⟨w.heap.size, 7, none⟩ = some (.slice a ss.length c) := (hS1.m 7 (by simp)).1; have f71 : w1.frozen? ⟨w.heap.size, 7, none⟩ = false := (hS1.m 7 (by simp)).2)
  have hS2 := hS1.store (j := 7) (by simp) (.slice a1 ss.length c1)
  simp only [List.set_cons_zero, List.set_cons_succ] at hS2
  have ho2 := ho1.grown (gset (World.grownBy.refl w1 (some (w.heap.size))) 7 (.slice a1 ss.length c1)) (.inr (by intro hh; have := ho1.row_lo _ hh; omega))
  clear hD hDE hoE hown0 hsrc hS1 c7 c7a c71 f71 ho1 hbk1 hg1
  refine (pick_any g 8 k _ hS2.rd (by omega) (by omega) (by omega)).mono ?_
  rintro e2 w2 ⟨⟨r, hq, rfl⟩, hr2, hg2⟩
  have hC2 := hS2.call hg2 hr2
  have HO2 := hid (ho2.grown hg2 (.inr (by intro hh; have := ho2.row_lo _ hh; omega)))
  clear hS2 ho2 hr2 hg2
  rcases (show r = 0 ∨ r = 1 ∨ r = 2 ∨ r = 3 ∨ r = 4 ∨ r = 5 ∨ r = 6 ∨ r = 7 by omega) with rfl | rfl | rfl | rfl | rfl | rfl | rfl | rfl
  · clear hq
    go_wp2_with fail
    refine (pick_any g 8 (k + 1) _ hC2.rd (by omega) (by omega) (by omega)).mono ?_
    rintro e3 w3 ⟨⟨r3, hq3, rfl⟩, hr3, hg3⟩
    have hC3 := hC2.call hg3 hr3
    have HO3 := hid (HO2.out.grown hg3 (.inr (by intro hh; have := HO2.out.row_lo _ hh; omega)))
    have c3 : w3.cell? ⟨w.heap.size, 0, none⟩ = some (.int .i64 k0) := (hC3.m 0 (by simp)).1
    have f3 : w3.frozen? ⟨w.heap.size, 0, none⟩ = false := (hC3.m 0 (by simp)).2
    have hS3 := hC3.store (j := 0) (by simp) (.int .i64 ((r3 : Int) - 1))
    simp only [List.set_cons_zero] at hS3
    have hoF := HO3.out.grown (gset (World.grownBy.refl w3 (some (w.heap.size))) 0 (.int .i64 ((r3 : Int) - 1))) (.inr (by intro hh; have := HO3.out.row_lo _ hh; omega))
    clear hC2 hr3 hg3 hC3 HO2 HO3
    have y0 : (w3.setCell ⟨w.heap.size, 0, none⟩ (.int .i64 ((r3 : Int) - 1))).cell? ⟨w.heap.size, 0, none⟩ = some (.int .i64 ((r3 : Int) - 1)) := (hS3.m 0 (by simp)).1
    have y1 : (w3.setCell ⟨w.heap.size, 0, none⟩ (.int .i64 ((r3 : Int) - 1))).cell? ⟨w.heap.size, 1, none⟩ = some (.int .i64 f) := (hS3.m 1 (by simp)).1
    have y2 : (w3.setCell ⟨w.heap.size, 0, none⟩ (.int .i64 ((r3 : Int) - 1))).cell? ⟨w.heap.size, 2, none⟩ = some (.int .i64 t) := (hS3.m 2 (by simp)).1
    have y3 : (w3.setCell ⟨w.heap.size, 0, none⟩ (.int .i64 ((r3 : Int) - 1))).cell? ⟨w.heap.size, 3, none⟩ = some (.int .i64 e) := (hS3.m 3 (by simp)).1
    have y4 : (w3.setCell ⟨w.heap.size, 0, none⟩ (.int .i64 ((r3 : Int) - 1))).cell? ⟨w.heap.size, 4, none⟩ = some (.int .i64 l) := (hS3.m 4 (by simp)).1
    have y5 : (w3.setCell ⟨w.heap.size, 0, none⟩ (.int .i64 ((r3 : Int) - 1))).cell? ⟨w.heap.size, 5, none⟩ = some (.int .i64 d) := (hS3.m 5 (by simp)).1
    have y6 : (w3.setCell ⟨w.heap.size, 0, none⟩ (.int .i64 ((r3 : Int) - 1))).cell? ⟨w.heap.size, 6, none⟩ = some (.string x) := (hS3.m 6 (by simp)).1
    have y7 : (w3.setCell ⟨w.heap.size, 0, none⟩ (.int .i64 ((r3 : Int) - 1))).cell? ⟨w.heap.size, 7, none⟩ = some (.slice a1 ss.length c1) := (hS3.m 7 (by simp)).1
    have hbx := hS3.bx
    obtain ⟨WF, hWF⟩ : ∃ WF, WF = (w3.setCell ⟨w.heap.size, 0, none⟩ (.int .i64 ((r3 : Int) - 1))) := ⟨_, rfl⟩
    rw [← hWF] at hS3 hbx y0 y1 y2 y3 y4 y5 y6 y7 hoF
    have HWF := hid hWF
    clear hWF
    go_upto_region 22 with fail
    rw [← HWF.out]
    go_wp2_with (refine wpList_store_cf rfl 27 (.tmp 4) (.tmp 86) rfl (w.heap.size + 1) zM [.int .i64 ((r3 : Int) - 1), .int .i64 f, .int .i64 t, .int .i64 e, .int .i64 l, .int .i64 d, .string x, .slice a1 ss.length c1] rfl rfl hbx rfl Tryd.sizeMsg (one8 _ _ _ _ _ _ _ _ _ _) ?_; intro w10 hc10 hg10)
    have kk0 : w10.cell? ⟨w.heap.size + 1, 0, none⟩ = some (.int .i64 ((r3 : Int) - 1)) := (hc10 0 (by simp)).1
    have kk1 : w10.cell? ⟨w.heap.size + 1, 1, none⟩ = some (.int .i64 f) := (hc10 1 (by simp)).1
    have kk2 : w10.cell? ⟨w.heap.size + 1, 2, none⟩ = some (.int .i64 t) := (hc10 2 (by simp)).1
    have kk3 : w10.cell? ⟨w.heap.size + 1, 3, none⟩ = some (.int .i64 e) := (hc10 3 (by simp)).1
    have kk4 : w10.cell? ⟨w.heap.size + 1, 4, none⟩ = some (.int .i64 l) := (hc10 4 (by simp)).1
    have kk5 : w10.cell? ⟨w.heap.size + 1, 5, none⟩ = some (.int .i64 d) := (hc10 5 (by simp)).1
    have kk6 : w10.cell? ⟨w.heap.size + 1, 6, none⟩ = some (.string x) := (hc10 6 (by simp)).1
    have kk7 : w10.cell? ⟨w.heap.size + 1, 7, none⟩ = some (.slice a1 ss.length c1) := (hc10 7 (by simp)).1
    refine bodyPost_ret (v := .agg #[.int .i64 ((r3 : Int) - 1), .int .i64 f, .int .i64 t, .int .i64 e, .int .i64 l, .int .i64 d, .string x, .slice a1 ss.length c1]) (by simp [results, Tryd.results51, go_sem, kk0, kk1, kk2, kk3, kk4, kk5, kk6, kk7]) rfl ⟨⟨_, rfl, _, _, _, _, _, _, _, ss, _, _, rfl, hx, hl12, hs8, (fun h => by cases h), ?_⟩, (hS3.rd.grown hg10 (fun q hq => by simp at hq; have := hS3.h1; omega)).mono (by omega), grownBy_box2 hS3.gr hg10⟩
    exact (hoF.grown hg10 (.inr (by intro hh; have := hoF.row_lo _ hh; omega))).mono' (by omega)
  · clear hq
    go_wp2_with fail
    refine (pick_any g 11 (k + 1) _ hC2.rd (by omega) (by omega) (by omega)).mono ?_
    rintro e3 w3 ⟨⟨r3, hq3, rfl⟩, hr3, hg3⟩
    have hC3 := hC2.call hg3 hr3
    have HO3 := hid (HO2.out.grown hg3 (.inr (by intro hh; have := HO2.out.row_lo _ hh; omega)))
    have c3 : w3.cell? ⟨w.heap.size, 1, none⟩ = some (.int .i64 f) := (hC3.m 1 (by simp)).1
    have f3 : w3.frozen? ⟨w.heap.size, 1, none⟩ = false := (hC3.m 1 (by simp)).2
    have hS3 := hC3.store (j := 1) (by simp) (.int .i64 ((r3 : Int) - 1))
    simp only [List.set_cons_zero, List.set_cons_succ] at hS3
    have hoF := HO3.out.grown (gset (World.grownBy.refl w3 (some (w.heap.size))) 1 (.int .i64 ((r3 : Int) - 1))) (.inr (by intro hh; have := HO3.out.row_lo _ hh; omega))
    clear hC2 hr3 hg3 hC3 HO2 HO3
    have y0 : (w3.setCell ⟨w.heap.size, 1, none⟩ (.int .i64 ((r3 : Int) - 1))).cell? ⟨w.heap.size, 0, none⟩ = some (.int .i64 k0) := (hS3.m 0 (by simp)).1
    have y1 : (w3.setCell ⟨w.heap.size, 1, none⟩ (.int .i64 ((r3 : Int) - 1))).cell? ⟨w.heap.size, 1, none⟩ = some (.int .i64 ((r3 : Int) - 1)) := (hS3.m 1 (by simp)).1
    have y2 : (w3.setCell ⟨w.heap.size, 1, none⟩ (.int .i64 ((r3 : Int) - 1))).cell? ⟨w.heap.size, 2, none⟩ = some (.int .i64 t) := (hS3.m 2 (by simp)).1
    have y3 : (w3.setCell ⟨w.heap.size, 1, none⟩ (.int .i64 ((r3 : Int) - 1))).cell? ⟨w.heap.size, 3, none⟩ = some (.int .i64 e) := (hS3.m 3 (by simp)).1
    have y4 : (w3.setCell ⟨w.heap.size, 1, none⟩ (.int .i64 ((r3 : Int) - 1))).cell? ⟨w.heap.size, 4, none⟩ = some (.int .i64 l) := (hS3.m 4 (by simp)).1
    have y5 : (w3.setCell ⟨w.heap.size, 1, none⟩ (.int .i64 ((r3 : Int) - 1))).cell? ⟨w.heap.size, 5, none⟩ = some (.int .i64 d) := (hS3.m 5 (by simp)).1
    have y6 : (w3.setCell ⟨w.heap.size, 1, none⟩ (.int .i64 ((r3 : Int) - 1))).cell? ⟨w.heap.size, 6, none⟩ = some (.string x) := (hS3.m 6 (by simp)).1
    have y7 : (w3.setCell ⟨w.heap.size, 1, none⟩ (.int .i64 ((r3 : Int) - 1))).cell? ⟨w.heap.size, 7, none⟩ = some (.slice a1 ss.length c1) := (hS3.m 7 (by simp)).1
    have hbx := hS3.bx
    obtain ⟨WF, hWF⟩ : ∃ WF, WF = (w3.setCell ⟨w.heap.size, 1, none⟩ (.int .i64 ((r3 : Int) - 1))) := ⟨_, rfl⟩
    rw [← hWF] at hS3 hbx y0 y1 y2 y3 y4 y5 y6 y7 hoF
    have HWF := hid hWF
    clear hWF
    go_upto_region 22 with fail
    rw [← HWF.out]
    go_wp2_with (refine wpList_store_cf rfl 27 (.tmp 4) (.tmp 86) rfl (w.heap.size + 1) zM [.int .i64 k0, .int .i64 ((r3 : Int) - 1), .int .i64 t, .int .i64 e, .int .i64 l, .int .i64 d, .string x, .slice a1 ss.length c1] rfl rfl hbx rfl Tryd.sizeMsg (one8 _ _ _ _ _ _ _ _ _ _) ?_; intro w10 hc10 hg10)
    have kk0 : w10.cell? ⟨w.heap.size + 1, 0, none⟩ = some (.int .i64 k0) := (hc10 0 (by simp)).1
    have kk1 : w10.cell? ⟨w.heap.size + 1, 1, none⟩ = some (.int .i64 ((r3 : Int) - 1)) := (hc10 1 (by simp)).1
    have kk2 : w10.cell? ⟨w.heap.size + 1, 2, none⟩ = some (.int .i64 t) := (hc10 2 (by simp)).1
    have kk3 : w10.cell? ⟨w.heap.size + 1, 3, none⟩ = some (.int .i64 e) := (hc10 3 (by simp)).1
    have kk4 : w10.cell? ⟨w.heap.size + 1, 4, none⟩ = some (.int .i64 l) := (hc10 4 (by simp)).1
    have kk5 : w10.cell? ⟨w.heap.size + 1, 5, none⟩ = some (.int .i64 d) := (hc10 5 (by simp)).1
    have kk6 : w10.cell? ⟨w.heap.size + 1, 6, none⟩ = some (.string x) := (hc10 6 (by simp)).1
    have kk7 : w10.cell? ⟨w.heap.size + 1, 7, none⟩ = some (.slice a1 ss.length c1) := (hc10 7 (by simp)).1
    refine bodyPost_ret (v := .agg #[.int .i64 k0, .int .i64 ((r3 : Int) - 1), .int .i64 t, .int .i64 e, .int .i64 l, .int .i64 d, .string x, .slice a1 ss.length c1]) (by simp [results, Tryd.results51, go_sem, kk0, kk1, kk2, kk3, kk4, kk5, kk6, kk7]) rfl ⟨⟨_, rfl, _, _, _, _, _, _, _, ss, _, _, rfl, hx, hl12, hs8, (fun h => by cases h), ?_⟩, (hS3.rd.grown hg10 (fun q hq => by simp at hq; have := hS3.h1; omega)).mono (by omega), grownBy_box2 hS3.gr hg10⟩
    exact (hoF.grown hg10 (.inr (by intro hh; have := hoF.row_lo _ hh; omega))).mono' (by omega)
  · clear hq
    go_wp2_with fail
    refine (pick_any g 11 (k + 1) _ hC2.rd (by omega) (by omega) (by omega)).mono ?_
    rintro e3 w3 ⟨⟨r3, hq3, rfl⟩, hr3, hg3⟩
    have hC3 := hC2.call hg3 hr3
    have HO3 := hid (HO2.out.grown hg3 (.inr (by intro hh; have := HO2.out.row_lo _ hh; omega)))
    have c3 : w3.cell? ⟨w.heap.size, 2, none⟩ = some (.int .i64 t) := (hC3.m 2 (by simp)).1
    have f3 : w3.frozen? ⟨w.heap.size, 2, none⟩ = false := (hC3.m 2 (by simp)).2
    have hS3 := hC3.store (j := 2) (by simp) (.int .i64 ((r3 : Int) - 1))
    simp only [List.set_cons_zero, List.set_cons_succ] at hS3
    have hoF := HO3.out.grown (gset (World.grownBy.refl w3 (some (w.heap.size))) 2 (.int .i64 ((r3 : Int) - 1))) (.inr (by intro hh; have := HO3.out.row_lo _ hh; omega))
    clear hC2 hr3 hg3 hC3 HO2 HO3
    have y0 : (w3.setCell ⟨w.heap.size, 2, none⟩ (.int .i64 ((r3 : Int) - 1))).cell? ⟨w.heap.size, 0, none⟩ = some (.int .i64 k0) := (hS3.m 0 (by simp)).1
    have y1 : (w3.setCell ⟨w.heap.size, 2, none⟩ (.int .i64 ((r3 : Int) - 1))).cell? ⟨w.heap.size, 1, none⟩ = some (.int .i64 f) := (hS3.m 1 (by simp)).1
    have y2 : (w3.setCell ⟨w.heap.size, 2, none⟩ (.int .i64 ((r3 : Int) - 1))).cell? ⟨w.heap.size, 2, none⟩ = some (.int .i64 ((r3 : Int) - 1)) := (hS3.m 2 (by simp)).1
    have y3 : (w3.setCell ⟨w.heap.size, 2, none⟩ (.int .i64 ((r3 : Int) - 1))).cell? ⟨w.heap.size, 3, none⟩ = some (.int .i64 e) := (hS3.m 3 (by simp)).1
    have y4 : (w3.setCell ⟨w.heap.size, 2, none⟩ (.int .i64 ((r3 : Int) - 1))).cell? ⟨w.heap.size, 4, none⟩ = some (.int .i64 l) := (hS3.m 4 (by simp)).1
    have y5 : (w3.setCell ⟨w.heap.size, 2, none⟩ (.int .i64 ((r3 : Int) - 1))).cell? ⟨w.heap.size, 5, none⟩ = some (.int .i64 d) := (hS3.m 5 (by simp)).1
    have y6 : (w3.setCell ⟨w.heap.size, 2, none⟩ (.int .i64 ((r3 : Int) - 1))).cell? ⟨w.heap.size, 6, none⟩ = some (.string x) := (hS3.m 6 (by simp)).1
    have y7 : (w3.setCell ⟨w.heap.size, 2, none⟩ (.int .i64 ((r3 : Int) - 1))).cell? ⟨w.heap.size, 7, none⟩ = some (.slice a1 ss.length c1) := (hS3.m 7 (by simp)).1
    have hbx := hS3.bx
    obtain ⟨WF, hWF⟩ : ∃ WF, WF = (w3.setCell ⟨w.heap.size, 2, none⟩ (.int .i64 ((r3 : Int) - 1))) := ⟨_, rfl⟩
    rw [← hWF] at hS3 hbx y0 y1 y2 y3 y4 y5 y6 y7 hoF
    have HWF := hid hWF
    clear hWF
    go_upto_region 22 with fail
    rw [← HWF.out]
    go_wp2_with (refine wpList_store_cf rfl 27 (.tmp 4) (.tmp 86) rfl (w.heap.size + 1) zM [.int .i64 k0, .int .i64 f, .int .i64 ((r3 : Int) - 1), .int .i64 e, .int .i64 l, .int .i64 d, .string x, .slice a1 ss.length c1] rfl rfl hbx rfl Tryd.sizeMsg (one8 _ _ _ _ _ _ _ _ _ _) ?_; intro w10 hc10 hg10)
    have kk0 : w10.cell? ⟨w.heap.size + 1, 0, none⟩ = some (.int .i64 k0) := (hc10 0 (by simp)).1
    have kk1 : w10.cell? ⟨w.heap.size + 1, 1, none⟩ = some (.int .i64 f) := (hc10 1 (by simp)).1
    have kk2 : w10.cell? ⟨w.heap.size + 1, 2, none⟩ = some (.int .i64 ((r3 : Int) - 1)) := (hc10 2 (by simp)).1
    have kk3 : w10.cell? ⟨w.heap.size + 1, 3, none⟩ = some (.int .i64 e) := (hc10 3 (by simp)).1
    have kk4 : w10.cell? ⟨w.heap.size + 1, 4, none⟩ = some (.int .i64 l) := (hc10 4 (by simp)).1
    have kk5 : w10.cell? ⟨w.heap.size + 1, 5, none⟩ = some (.int .i64 d) := (hc10 5 (by simp)).1
    have kk6 : w10.cell? ⟨w.heap.size + 1, 6, none⟩ = some (.string x) := (hc10 6 (by simp)).1
    have kk7 : w10.cell? ⟨w.heap.size + 1, 7, none⟩ = some (.slice a1 ss.length c1) := (hc10 7 (by simp)).1
    refine bodyPost_ret (v := .agg #[.int .i64 k0, .int .i64 f, .int .i64 ((r3 : Int) - 1), .int .i64 e, .int .i64 l, .int .i64 d, .string x, .slice a1 ss.length c1]) (by simp [results, Tryd.results51, go_sem, kk0, kk1, kk2, kk3, kk4, kk5, kk6, kk7]) rfl ⟨⟨_, rfl, _, _, _, _, _, _, _, ss, _, _, rfl, hx, hl12, hs8, (fun h => by cases h), ?_⟩, (hS3.rd.grown hg10 (fun q hq => by simp at hq; have := hS3.h1; omega)).mono (by omega), grownBy_box2 hS3.gr hg10⟩
    exact (hoF.grown hg10 (.inr (by intro hh; have := hoF.row_lo _ hh; omega))).mono' (by omega)
  · clear hq
    have hA := hC2.alloc (.cells #[.int .i64 0, .int .i64 (-1), .int .i64 300, .int .i64 301] 3)
    have hT4 := CF.made w2 #[.int .i64 0, .int .i64 (-1), .int .i64 300, .int .i64 301] 3
    obtain ⟨WA, hWA⟩ : ∃ WA, WA = w2.alloc (.cells #[.int .i64 0, .int .i64 (-1), .int .i64 300, .int .i64 301] 3) := ⟨_, rfl⟩
    have hsA : w2.heap.size < WA.heap.size := by rw [hWA]; simp
    have hoA := HO2.out.alloc (.cells #[.int .i64 0, .int .i64 (-1), .int .i64 300, .int .i64 301] 3)
    rw [← hWA] at hA hT4 hoA
    have hgL : g < w2.heap.size := hC2.rd.lt
    have HWA := hid hWA
    clear hWA hC2
    go_wp2_with fail
    rw [← HWA.out]
    refine (pick_any g 4 (k + 1) _ hA.rd (by omega) (by omega) (by omega)).mono ?_
    rintro e3 w3 ⟨⟨r3, hq3, rfl⟩, hr3, hg3⟩
    have hC3 := hA.call hg3 hr3
    have HO3 := hid (hoA.grown hg3 (.inr (by intro hh; have := hoA.row_lo _ hh; omega)))
    obtain ⟨v4, hv4⟩ : ∃ v4 : Int, [Value.int .i64 0, .int .i64 (-1), .int .i64 300, .int .i64 301][r3]? = some (.int .i64 v4) := by
      rcases (show r3 = 0 ∨ r3 = 1 ∨ r3 = 2 ∨ r3 = 3 by omega) with rfl | rfl | rfl | rfl <;> exact ⟨_, rfl⟩
    have c7 : w3.cell? ⟨w2.heap.size, r3, none⟩ = some (.int .i64 v4) := ((hT4.block (hg3.block _ hsA (by simp; omega))) r3 (by simpa using hq3)).1.trans hv4
    have hq3' : (r3 : Int) < 4 := by omega
    have c3 : w3.cell? ⟨w.heap.size, 3, none⟩ = some (.int .i64 e) := (hC3.m 3 (by simp)).1
    have f3 : w3.frozen? ⟨w.heap.size, 3, none⟩ = false := (hC3.m 3 (by simp)).2
    have hS3 := hC3.store (j := 3) (by simp) (.int .i64 v4)
    simp only [List.set_cons_zero, List.set_cons_succ] at hS3
    have hoF := HO3.out.grown (gset (World.grownBy.refl w3 (some (w.heap.size))) 3 (.int .i64 v4)) (.inr (by intro hh; have := HO3.out.row_lo _ hh; omega))
    clear hT4 hA hr3 hg3 hv4 hC3 HO2 HO3 hoA HWA hsA hgL
    have y0 : (w3.setCell ⟨w.heap.size, 3, none⟩ (.int .i64 v4)).cell? ⟨w.heap.size, 0, none⟩ = some (.int .i64 k0) := (hS3.m 0 (by simp)).1
    have y1 : (w3.setCell ⟨w.heap.size, 3, none⟩ (.int .i64 v4)).cell? ⟨w.heap.size, 1, none⟩ = some (.int .i64 f) := (hS3.m 1 (by simp)).1
    have y2 : (w3.setCell ⟨w.heap.size, 3, none⟩ (.int .i64 v4)).cell? ⟨w.heap.size, 2, none⟩ = some (.int .i64 t) := (hS3.m 2 (by simp)).1
    have y3 : (w3.setCell ⟨w.heap.size, 3, none⟩ (.int .i64 v4)).cell? ⟨w.heap.size, 3, none⟩ = some (.int .i64 v4) := (hS3.m 3 (by simp)).1
    have y4 : (w3.setCell ⟨w.heap.size, 3, none⟩ (.int .i64 v4)).cell? ⟨w.heap.size, 4, none⟩ = some (.int .i64 l) := (hS3.m 4 (by simp)).1
    have y5 : (w3.setCell ⟨w.heap.size, 3, none⟩ (.int .i64 v4)).cell? ⟨w.heap.size, 5, none⟩ = some (.int .i64 d) := (hS3.m 5 (by simp)).1
    have y6 : (w3.setCell ⟨w.heap.size, 3, none⟩ (.int .i64 v4)).cell? ⟨w.heap.size, 6, none⟩ = some (.string x) := (hS3.m 6 (by simp)).1
    have y7 : (w3.setCell ⟨w.heap.size, 3, none⟩ (.int .i64 v4)).cell? ⟨w.heap.size, 7, none⟩ = some (.slice a1 ss.length c1) := (hS3.m 7 (by simp)).1
    have hbx := hS3.bx
    obtain ⟨WF, hWF⟩ : ∃ WF, WF = (w3.setCell ⟨w.heap.size, 3, none⟩ (.int .i64 v4)) := ⟨_, rfl⟩
    rw [← hWF] at hS3 hbx y0 y1 y2 y3 y4 y5 y6 y7 hoF
    have HWF := hid hWF
    clear hWF
    go_upto_region 22 with fail
    rw [← HWF.out]
    go_wp2_with (refine wpList_store_cf rfl 27 (.tmp 4) (.tmp 86) rfl (w.heap.size + 1) zM [.int .i64 k0, .int .i64 f, .int .i64 t, .int .i64 v4, .int .i64 l, .int .i64 d, .string x, .slice a1 ss.length c1] rfl rfl hbx rfl Tryd.sizeMsg (one8 _ _ _ _ _ _ _ _ _ _) ?_; intro w10 hc10 hg10)
    have kk0 : w10.cell? ⟨w.heap.size + 1, 0, none⟩ = some (.int .i64 k0) := (hc10 0 (by simp)).1
    have kk1 : w10.cell? ⟨w.heap.size + 1, 1, none⟩ = some (.int .i64 f) := (hc10 1 (by simp)).1
    have kk2 : w10.cell? ⟨w.heap.size + 1, 2, none⟩ = some (.int .i64 t) := (hc10 2 (by simp)).1
    have kk3 : w10.cell? ⟨w.heap.size + 1, 3, none⟩ = some (.int .i64 v4) := (hc10 3 (by simp)).1
    have kk4 : w10.cell? ⟨w.heap.size + 1, 4, none⟩ = some (.int .i64 l) := (hc10 4 (by simp)).1
    have kk5 : w10.cell? ⟨w.heap.size + 1, 5, none⟩ = some (.int .i64 d) := (hc10 5 (by simp)).1
    have kk6 : w10.cell? ⟨w.heap.size + 1, 6, none⟩ = some (.string x) := (hc10 6 (by simp)).1
    have kk7 : w10.cell? ⟨w.heap.size + 1, 7, none⟩ = some (.slice a1 ss.length c1) := (hc10 7 (by simp)).1
    refine bodyPost_ret (v := .agg #[.int .i64 k0, .int .i64 f, .int .i64 t, .int .i64 v4, .int .i64 l, .int .i64 d, .string x, .slice a1 ss.length c1]) (by simp [results, Tryd.results51, go_sem, kk0, kk1, kk2, kk3, kk4, kk5, kk6, kk7]) rfl ⟨⟨_, rfl, _, _, _, _, _, _, _, ss, _, _, rfl, hx, hl12, hs8, (fun h => by cases h), ?_⟩, (hS3.rd.grown hg10 (fun q hq => by simp at hq; have := hS3.h1; omega)).mono (by omega), grownBy_box2 hS3.gr hg10⟩
    exact (hoF.grown hg10 (.inr (by intro hh; have := hoF.row_lo _ hh; omega))).mono' (by omega)
  · clear hq
    have hA := hC2.alloc (.cells #[.int .i64 0, .int .i64 (-1), .int .i64 300000001, .int .i64 5] 3)
    have hT4 := CF.made w2 #[.int .i64 0, .int .i64 (-1), .int .i64 300000001, .int .i64 5] 3
    obtain ⟨WA, hWA⟩ : ∃ WA, WA = w2.alloc (.cells #[.int .i64 0, .int .i64 (-1), .int .i64 300000001, .int .i64 5] 3) := ⟨_, rfl⟩
    have hsA : w2.heap.size < WA.heap.size := by rw [hWA]; simp
    have hoA := HO2.out.alloc (.cells #[.int .i64 0, .int .i64 (-1), .int .i64 300000001, .int .i64 5] 3)
    rw [← hWA] at hA hT4 hoA
    have hgL : g < w2.heap.size := hC2.rd.lt
    have HWA := hid hWA
    clear hWA hC2
    go_wp2_with fail
    rw [← HWA.out]
    refine (pick_any g 4 (k + 1) _ hA.rd (by omega) (by omega) (by omega)).mono ?_
    rintro e3 w3 ⟨⟨r3, hq3, rfl⟩, hr3, hg3⟩
    have hC3 := hA.call hg3 hr3
    have HO3 := hid (hoA.grown hg3 (.inr (by intro hh; have := hoA.row_lo _ hh; omega)))
    obtain ⟨v4, hv4⟩ : ∃ v4 : Int, [Value.int .i64 0, .int .i64 (-1), .int .i64 300000001, .int .i64 5][r3]? = some (.int .i64 v4) := by
      rcases (show r3 = 0 ∨ r3 = 1 ∨ r3 = 2 ∨ r3 = 3 by omega) with rfl | rfl | rfl | rfl <;> exact ⟨_, rfl⟩
    have c7 : w3.cell? ⟨w2.heap.size, r3, none⟩ = some (.int .i64 v4) := ((hT4.block (hg3.block _ hsA (by simp; omega))) r3 (by simpa using hq3)).1.trans hv4
    have hq3' : (r3 : Int) < 4 := by omega
    have c3 : w3.cell? ⟨w.heap.size, 4, none⟩ = some (.int .i64 l) := (hC3.m 4 (by simp)).1
    have f3 : w3.frozen? ⟨w.heap.size, 4, none⟩ = false := (hC3.m 4 (by simp)).2
    have hS3 := hC3.store (j := 4) (by simp) (.int .i64 v4)
    simp only [List.set_cons_zero, List.set_cons_succ] at hS3
    have hoF := HO3.out.grown (gset (World.grownBy.refl w3 (some (w.heap.size))) 4 (.int .i64 v4)) (.inr (by intro hh; have := HO3.out.row_lo _ hh; omega))
    clear hT4 hA hr3 hg3 hv4 hC3 HO2 HO3 hoA HWA hsA hgL
    have y0 : (w3.setCell ⟨w.heap.size, 4, none⟩ (.int .i64 v4)).cell? ⟨w.heap.size, 0, none⟩ = some (.int .i64 k0) := (hS3.m 0 (by simp)).1
    have y1 : (w3.setCell ⟨w.heap.size, 4, none⟩ (.int .i64 v4)).cell? ⟨w.heap.size, 1, none⟩ = some (.int .i64 f) := (hS3.m 1 (by simp)).1
    have y2 : (w3.setCell ⟨w.heap.size, 4, none⟩ (.int .i64 v4)).cell? ⟨w.heap.size, 2, none⟩ = some (.int .i64 t) := (hS3.m 2 (by simp)).1
    have y3 : (w3.setCell ⟨w.heap.size, 4, none⟩ (.int .i64 v4)).cell? ⟨w.heap.size, 3, none⟩ = some (.int .i64 e) := (hS3.m 3 (by simp)).1
    have y4 : (w3.setCell ⟨w.heap.size, 4, none⟩ (.int .i64 v4)).cell? ⟨w.heap.size, 4, none⟩ = some (.int .i64 v4) := (hS3.m 4 (by simp)).1
    have y5 : (w3.setCell ⟨w.heap.size, 4, none⟩ (.int .i64 v4)).cell? ⟨w.heap.size, 5, none⟩ = some (.int .i64 d) := (hS3.m 5 (by simp)).1
    have y6 : (w3.setCell ⟨w.heap.size, 4, none⟩ (.int .i64 v4)).cell? ⟨w.heap.size, 6, none⟩ = some (.string x) := (hS3.m 6 (by simp)).1
    have y7 : (w3.setCell ⟨w.heap.size, 4, none⟩ (.int .i64 v4)).cell? ⟨w.heap.size, 7, none⟩ = some (.slice a1 ss.length c1) := (hS3.m 7 (by simp)).1
    have hbx := hS3.bx
    obtain ⟨WF, hWF⟩ : ∃ WF, WF = (w3.setCell ⟨w.heap.size, 4, none⟩ (.int .i64 v4)) := ⟨_, rfl⟩
    rw [← hWF] at hS3 hbx y0 y1 y2 y3 y4 y5 y6 y7 hoF
    have HWF := hid hWF
    clear hWF
    go_upto_region 22 with fail
    rw [← HWF.out]
    go_wp2_with (refine wpList_store_cf rfl 27 (.tmp 4) (.tmp 86) rfl (w.heap.size + 1) zM [.int .i64 k0, .int .i64 f, .int .i64 t, .int .i64 e, .int .i64 v4, .int .i64 d, .string x, .slice a1 ss.length c1] rfl rfl hbx rfl Tryd.sizeMsg (one8 _ _ _ _ _ _ _ _ _ _) ?_; intro w10 hc10 hg10)
    have kk0 : w10.cell? ⟨w.heap.size + 1, 0, none⟩ = some (.int .i64 k0) := (hc10 0 (by simp)).1
    have kk1 : w10.cell? ⟨w.heap.size + 1, 1, none⟩ = some (.int .i64 f) := (hc10 1 (by simp)).1
    have kk2 : w10.cell? ⟨w.heap.size + 1, 2, none⟩ = some (.int .i64 t) := (hc10 2 (by simp)).1
    have kk3 : w10.cell? ⟨w.heap.size + 1, 3, none⟩ = some (.int .i64 e) := (hc10 3 (by simp)).1
    have kk4 : w10.cell? ⟨w.heap.size + 1, 4, none⟩ = some (.int .i64 v4) := (hc10 4 (by simp)).1
    have kk5 : w10.cell? ⟨w.heap.size + 1, 5, none⟩ = some (.int .i64 d) := (hc10 5 (by simp)).1
    have kk6 : w10.cell? ⟨w.heap.size + 1, 6, none⟩ = some (.string x) := (hc10 6 (by simp)).1
    have kk7 : w10.cell? ⟨w.heap.size + 1, 7, none⟩ = some (.slice a1 ss.length c1) := (hc10 7 (by simp)).1
    refine bodyPost_ret (v := .agg #[.int .i64 k0, .int .i64 f, .int .i64 t, .int .i64 e, .int .i64 v4, .int .i64 d, .string x, .slice a1 ss.length c1]) (by simp [results, Tryd.results51, go_sem, kk0, kk1, kk2, kk3, kk4, kk5, kk6, kk7]) rfl ⟨⟨_, rfl, _, _, _, _, _, _, _, ss, _, _, rfl, hx, hl12, hs8, (fun h => by cases h), ?_⟩, (hS3.rd.grown hg10 (fun q hq => by simp at hq; have := hS3.h1; omega)).mono (by omega), grownBy_box2 hS3.gr hg10⟩
    exact (hoF.grown hg10 (.inr (by intro hh; have := hoF.row_lo _ hh; omega))).mono' (by omega)
  · clear hq
    have hA := hC2.alloc (.cells #[.int .i64 (-1), .int .i64 39, .int .i64 40, .int .i64 256] 3)
    have hT4 := CF.made w2 #[.int .i64 (-1), .int .i64 39, .int .i64 40, .int .i64 256] 3
    obtain ⟨WA, hWA⟩ : ∃ WA, WA = w2.alloc (.cells #[.int .i64 (-1), .int .i64 39, .int .i64 40, .int .i64 256] 3) := ⟨_, rfl⟩
    have hsA : w2.heap.size < WA.heap.size := by rw [hWA]; simp
    have hoA := HO2.out.alloc (.cells #[.int .i64 (-1), .int .i64 39, .int .i64 40, .int .i64 256] 3)
    rw [← hWA] at hA hT4 hoA
    have hgL : g < w2.heap.size := hC2.rd.lt
    have HWA := hid hWA
    clear hWA hC2
    go_wp2_with fail
    rw [← HWA.out]
    refine (pick_any g 4 (k + 1) _ hA.rd (by omega) (by omega) (by omega)).mono ?_
    rintro e3 w3 ⟨⟨r3, hq3, rfl⟩, hr3, hg3⟩
    have hC3 := hA.call hg3 hr3
    have HO3 := hid (hoA.grown hg3 (.inr (by intro hh; have := hoA.row_lo _ hh; omega)))
    obtain ⟨v4, hv4⟩ : ∃ v4 : Int, [Value.int .i64 (-1), .int .i64 39, .int .i64 40, .int .i64 256][r3]? = some (.int .i64 v4) := by
      rcases (show r3 = 0 ∨ r3 = 1 ∨ r3 = 2 ∨ r3 = 3 by omega) with rfl | rfl | rfl | rfl <;> exact ⟨_, rfl⟩
    have c7 : w3.cell? ⟨w2.heap.size, r3, none⟩ = some (.int .i64 v4) := ((hT4.block (hg3.block _ hsA (by simp; omega))) r3 (by simpa using hq3)).1.trans hv4
    have hq3' : (r3 : Int) < 4 := by omega
    have c3 : w3.cell? ⟨w.heap.size, 5, none⟩ = some (.int .i64 d) := (hC3.m 5 (by simp)).1
    have f3 : w3.frozen? ⟨w.heap.size, 5, none⟩ = false := (hC3.m 5 (by simp)).2
    have hS3 := hC3.store (j := 5) (by simp) (.int .i64 v4)
    simp only [List.set_cons_zero, List.set_cons_succ] at hS3
    have hoF := HO3.out.grown (gset (World.grownBy.refl w3 (some (w.heap.size))) 5 (.int .i64 v4)) (.inr (by intro hh; have := HO3.out.row_lo _ hh; omega))
    clear hT4 hA hr3 hg3 hv4 hC3 HO2 HO3 hoA HWA hsA hgL
    have y0 : (w3.setCell ⟨w.heap.size, 5, none⟩ (.int .i64 v4)).cell? ⟨w.heap.size, 0, none⟩ = some (.int .i64 k0) := (hS3.m 0 (by simp)).1
    have y1 : (w3.setCell ⟨w.heap.size, 5, none⟩ (.int .i64 v4)).cell? ⟨w.heap.size, 1, none⟩ = some (.int .i64 f) := (hS3.m 1 (by simp)).1
    have y2 : (w3.setCell ⟨w.heap.size, 5, none⟩ (.int .i64 v4)).cell? ⟨w.heap.size, 2, none⟩ = some (.int .i64 t) := (hS3.m 2 (by simp)).1
    have y3 : (w3.setCell ⟨w.heap.size, 5, none⟩ (.int .i64 v4)).cell? ⟨w.heap.size, 3, none⟩ = some (.int .i64 e) := (hS3.m 3 (by simp)).1
    have y4 : (w3.setCell ⟨w.heap.size, 5, none⟩ (.int .i64 v4)).cell? ⟨w.heap.size, 4, none⟩ = some (.int .i64 l) := (hS3.m 4 (by simp)).1
    have y5 : (w3.setCell ⟨w.heap.size, 5, none⟩ (.int .i64 v4)).cell? ⟨w.heap.size, 5, none⟩ = some (.int .i64 v4) := (hS3.m 5 (by simp)).1
    have y6 : (w3.setCell ⟨w.heap.size, 5, none⟩ (.int .i64 v4)).cell? ⟨w.heap.size, 6, none⟩ = some (.string x) := (hS3.m 6 (by simp)).1
    have y7 : (w3.setCell ⟨w.heap.size, 5, none⟩ (.int .i64 v4)).cell? ⟨w.heap.size, 7, none⟩ = some (.slice a1 ss.length c1) := (hS3.m 7 (by simp)).1
    have hbx := hS3.bx
    obtain ⟨WF, hWF⟩ : ∃ WF, WF = (w3.setCell ⟨w.heap.size, 5, none⟩ (.int .i64 v4)) := ⟨_, rfl⟩
    rw [← hWF] at hS3 hbx y0 y1 y2 y3 y4 y5 y6 y7 hoF
    have HWF := hid hWF
    clear hWF
    go_upto_region 22 with fail
    rw [← HWF.out]
    go_wp2_with (refine wpList_store_cf rfl 27 (.tmp 4) (.tmp 86) rfl (w.heap.size + 1) zM [.int .i64 k0, .int .i64 f, .int .i64 t, .int .i64 e, .int .i64 l, .int .i64 v4, .string x, .slice a1 ss.length c1] rfl rfl hbx rfl Tryd.sizeMsg (one8 _ _ _ _ _ _ _ _ _ _) ?_; intro w10 hc10 hg10)
    have kk0 : w10.cell? ⟨w.heap.size + 1, 0, none⟩ = some (.int .i64 k0) := (hc10 0 (by simp)).1
    have kk1 : w10.cell? ⟨w.heap.size + 1, 1, none⟩ = some (.int .i64 f) := (hc10 1 (by simp)).1
    have kk2 : w10.cell? ⟨w.heap.size + 1, 2, none⟩ = some (.int .i64 t) := (hc10 2 (by simp)).1
    have kk3 : w10.cell? ⟨w.heap.size + 1, 3, none⟩ = some (.int .i64 e) := (hc10 3 (by simp)).1
    have kk4 : w10.cell? ⟨w.heap.size + 1, 4, none⟩ = some (.int .i64 l) := (hc10 4 (by simp)).1
    have kk5 : w10.cell? ⟨w.heap.size + 1, 5, none⟩ = some (.int .i64 v4) := (hc10 5 (by simp)).1
    have kk6 : w10.cell? ⟨w.heap.size + 1, 6, none⟩ = some (.string x) := (hc10 6 (by simp)).1
    have kk7 : w10.cell? ⟨w.heap.size + 1, 7, none⟩ = some (.slice a1 ss.length c1) := (hc10 7 (by simp)).1
    refine bodyPost_ret (v := .agg #[.int .i64 k0, .int .i64 f, .int .i64 t, .int .i64 e, .int .i64 l, .int .i64 v4, .string x, .slice a1 ss.length c1]) (by simp [results, Tryd.results51, go_sem, kk0, kk1, kk2, kk3, kk4, kk5, kk6, kk7]) rfl ⟨⟨_, rfl, _, _, _, _, _, _, _, ss, _, _, rfl, hx, hl12, hs8, (fun h => by cases h), ?_⟩, (hS3.rd.grown hg10 (fun q hq => by simp at hq; have := hS3.h1; omega)).mono (by omega), grownBy_box2 hS3.gr hg10⟩
    exact (hoF.grown hg10 (.inr (by intro hh; have := hoF.row_lo _ hh; omega))).mono' (by omega)
  · clear hq
    go_wp2_with fail
    refine (l1Bytes_any g (k + 1) _ hC2.rd (by omega)).mono ?_
    rintro e3 w3 ⟨⟨tz, rfl, htz⟩, hr3, hg3⟩
    have hC3 := hC2.call hg3 hr3
    have HO3 := hid (HO2.out.grown hg3 (.inr (by intro hh; have := HO2.out.row_lo _ hh; omega)))
    have hA := hC3.alloc (.cells #[.string ⟨#[]⟩, .string ⟨#[115, 104, 111, 114, 116]⟩, .string tz] 9)
    have hT4 := CF.made w3 #[.string ⟨#[]⟩, .string ⟨#[115, 104, 111, 114, 116]⟩, .string tz] 9
    obtain ⟨WA, hWA⟩ : ∃ WA, WA = w3.alloc (.cells #[.string ⟨#[]⟩, .string ⟨#[115, 104, 111, 114, 116]⟩, .string tz] 9) := ⟨_, rfl⟩
    have hsA : w3.heap.size < WA.heap.size := by rw [hWA]; simp
    have hoA := HO3.out.alloc (.cells #[.string ⟨#[]⟩, .string ⟨#[115, 104, 111, 114, 116]⟩, .string tz] 9)
    rw [← hWA] at hA hT4 hoA
    have hgL : g < w3.heap.size := hC3.rd.lt
    have HWA := hid hWA
    clear hWA hC2 hC3 hr3 hg3
    go_wp2_with fail
    rw [← HWA.out]
    refine (pick_any g 3 (k + 1 + 1) _ hA.rd (by omega) (by omega) (by omega)).mono ?_
    rintro e4 w4 ⟨⟨r4, hq4, rfl⟩, hr4, hg4⟩
    have hC4 := hA.call hg4 hr4
    have HO4 := hid (hoA.grown hg4 (.inr (by intro hh; have := hoA.row_lo _ hh; omega)))
    obtain ⟨t4, ht4, ht48⟩ : ∃ t4 : ByteArray, [Value.string ⟨#[]⟩, .string ⟨#[115, 104, 111, 114, 116]⟩, .string tz][r4]? = some (.string t4) ∧ t4.size ≤ 8 := by
      rcases (show r4 = 0 ∨ r4 = 1 ∨ r4 = 2 by omega) with rfl | rfl | rfl
      · exact ⟨_, rfl, by decide⟩
      · exact ⟨_, rfl, by decide⟩
      · exact ⟨_, rfl, Nat.le_of_eq htz⟩
    have c7 : w4.cell? ⟨w3.heap.size, r4, none⟩ = some (.string t4) := ((hT4.block (hg4.block _ hsA (by simp; omega))) r4 (by simpa using hq4)).1.trans ht4
    have hq4' : (r4 : Int) < 3 := by omega
    have c3 : w4.cell? ⟨w.heap.size, 6, none⟩ = some (.string x) := (hC4.m 6 (by simp)).1
    have f3 : w4.frozen? ⟨w.heap.size, 6, none⟩ = false := (hC4.m 6 (by simp)).2
    have hS3 := hC4.store (j := 6) (by simp) (.string t4)
    simp only [List.set_cons_zero, List.set_cons_succ] at hS3
    have hoF := HO4.out.grown (gset (World.grownBy.refl w4 (some (w.heap.size))) 6 (.string t4)) (.inr (by intro hh; have := HO4.out.row_lo _ hh; omega))
    clear hT4 hA hr4 hg4 ht4 hC4 HO2 HO3 HO4 hoA HWA hsA hgL
    have y0 : (w4.setCell ⟨w.heap.size, 6, none⟩ (.string t4)).cell? ⟨w.heap.size, 0, none⟩ = some (.int .i64 k0) := (hS3.m 0 (by simp)).1
    have y1 : (w4.setCell ⟨w.heap.size, 6, none⟩ (.string t4)).cell? ⟨w.heap.size, 1, none⟩ = some (.int .i64 f) := (hS3.m 1 (by simp)).1
    have y2 : (w4.setCell ⟨w.heap.size, 6, none⟩ (.string t4)).cell? ⟨w.heap.size, 2, none⟩ = some (.int .i64 t) := (hS3.m 2 (by simp)).1
    have y3 : (w4.setCell ⟨w.heap.size, 6, none⟩ (.string t4)).cell? ⟨w.heap.size, 3, none⟩ = some (.int .i64 e) := (hS3.m 3 (by simp)).1
    have y4 : (w4.setCell ⟨w.heap.size, 6, none⟩ (.string t4)).cell? ⟨w.heap.size, 4, none⟩ = some (.int .i64 l) := (hS3.m 4 (by simp)).1
    have y5 : (w4.setCell ⟨w.heap.size, 6, none⟩ (.string t4)).cell? ⟨w.heap.size, 5, none⟩ = some (.int .i64 d) := (hS3.m 5 (by simp)).1
    have y6 : (w4.setCell ⟨w.heap.size, 6, none⟩ (.string t4)).cell? ⟨w.heap.size, 6, none⟩ = some (.string t4) := (hS3.m 6 (by simp)).1
    have y7 : (w4.setCell ⟨w.heap.size, 6, none⟩ (.string t4)).cell? ⟨w.heap.size, 7, none⟩ = some (.slice a1 ss.length c1) := (hS3.m 7 (by simp)).1
    have hbx := hS3.bx
    obtain ⟨WF, hWF⟩ : ∃ WF, WF = (w4.setCell ⟨w.heap.size, 6, none⟩ (.string t4)) := ⟨_, rfl⟩
    rw [← hWF] at hS3 hbx y0 y1 y2 y3 y4 y5 y6 y7 hoF
    have HWF := hid hWF
    clear hWF
    go_upto_region 22 with fail
    rw [← HWF.out]
    go_wp2_with (refine wpList_store_cf rfl 27 (.tmp 4) (.tmp 86) rfl (w.heap.size + 1) zM [.int .i64 k0, .int .i64 f, .int .i64 t, .int .i64 e, .int .i64 l, .int .i64 d, .string t4, .slice a1 ss.length c1] rfl rfl hbx rfl Tryd.sizeMsg (one8 _ _ _ _ _ _ _ _ _ _) ?_; intro w10 hc10 hg10)
    have kk0 : w10.cell? ⟨w.heap.size + 1, 0, none⟩ = some (.int .i64 k0) := (hc10 0 (by simp)).1
    have kk1 : w10.cell? ⟨w.heap.size + 1, 1, none⟩ = some (.int .i64 f) := (hc10 1 (by simp)).1
    have kk2 : w10.cell? ⟨w.heap.size + 1, 2, none⟩ = some (.int .i64 t) := (hc10 2 (by simp)).1
    have kk3 : w10.cell? ⟨w.heap.size + 1, 3, none⟩ = some (.int .i64 e) := (hc10 3 (by simp)).1
    have kk4 : w10.cell? ⟨w.heap.size + 1, 4, none⟩ = some (.int .i64 l) := (hc10 4 (by simp)).1
    have kk5 : w10.cell? ⟨w.heap.size + 1, 5, none⟩ = some (.int .i64 d) := (hc10 5 (by simp)).1
    have kk6 : w10.cell? ⟨w.heap.size + 1, 6, none⟩ = some (.string t4) := (hc10 6 (by simp)).1
    have kk7 : w10.cell? ⟨w.heap.size + 1, 7, none⟩ = some (.slice a1 ss.length c1) := (hc10 7 (by simp)).1
    refine bodyPost_ret (v := .agg #[.int .i64 k0, .int .i64 f, .int .i64 t, .int .i64 e, .int .i64 l, .int .i64 d, .string t4, .slice a1 ss.length c1]) (by simp [results, Tryd.results51, go_sem, kk0, kk1, kk2, kk3, kk4, kk5, kk6, kk7]) rfl ⟨⟨_, rfl, _, _, _, _, _, _, _, ss, _, _, rfl, ht48, hl12, hs8, (fun h => by cases h), ?_⟩, (hS3.rd.grown hg10 (fun q hq => by simp at hq; have := hS3.h1; omega)).mono (by omega), grownBy_box2 hS3.gr hg10⟩
    exact (hoF.grown hg10 (.inr (by intro hh; have := hoF.row_lo _ hh; omega))).mono' (by omega)
  · clear hq
    go_wp2_with fail
    refine (pick_any g 10 (k + 1) _ hC2.rd (by omega) (by omega) (by omega)).mono ?_
    rintro e3 w3 ⟨⟨r3, hq3, rfl⟩, hr3, hg3⟩
    have hC3 := hC2.call hg3 hr3
    have HO3 := hid (HO2.out.grown hg3 (.inr (by intro hh; have := HO2.out.row_lo _ hh; omega)))
    have HS := hid hC3
    clear hC2 hC3 hr3 hg3 HO2
    go_wp2
    go_loopw [] (fun wr => ∃ (v : Value) (xs : List ByteArray), xs.length ≤ 12 ∧ (∀ s ∈ xs, s.size ≤ 8) ∧ ss.length ≤ xs.length ∧ (xs.length ≤ r3 + 1 ∨ xs.length = ss.length) ∧ DM w g (w.heap.size + 1) (w.heap.size) [.int .i64 k0, .int .i64 f, .int .i64 t, .int .i64 e, .int .i64 l, .int .i64 d, .string x, v] (k + 1 + 1 + (xs.length - ss.length)) wr ∧ Own (w.heap.size + 2) wr 1 v xs.length (xs.map Value.string)) (fun wr => match wr.cell? ⟨w.heap.size, 7, none⟩ with | some (.slice _ n _) => 20 - n | _ => 0)
    case atStart => exact ⟨_, ss, hl12, hs8, Nat.le_refl _, .inr rfl, by rw [Nat.sub_self]; exact HS.out, HO3.out⟩
    case round =>
      obtain ⟨v, xs, hx12, hx8, hxl, hxn, hSj, ho⟩ := hrel
      obtain ⟨av, cvn, rfl⟩ := ho.slc
      have cv : wr.cell? ⟨w.heap.size, 7, none⟩ = some (.slice av xs.length cvn) := (hSj.m 7 (by simp)).1
      have fv : wr.frozen? ⟨w.heap.size, 7, none⟩ = false := (hSj.m 7 (by simp)).2
      by_cases hlt : xs.length < r3 + 1
      · have hlt' : (xs.length : Int) < 1 + (r3 : Int) := by omega
        have hSd := hSj.drew
        have cvd : wr.drew.cell? ⟨w.heap.size, 7, none⟩ = some (.slice av xs.length cvn) := cv
        have hod := ho.drewW
        have hsrc : ∀ (w1 : World) (y : ByteArray), Src Tryd.prog 1 22 (.slice (some ⟨w1.heap.size, 0, none⟩) 1 1) 1 [.string y] (w1.alloc (.cells #[.string y] 9)) := fun w1 y =>
          Own.src (B := 0) (.inr ⟨_, 0, 1, rfl, OwnC.made w1 0 9 1 1 1 _ 1 (by omega) (Nat.le_refl _) (by unfold maxLen; omega) rfl (Nat.le_refl _) _ rfl _ (.inl rfl)⟩) Tryd.underlying22 (by simp; rfl)
        have hgQ := hSj.h1
        go_wp2
        go_region_law (first
            | (go_simp; go_at_call 79; refine (l1Bytes_any g _ _ hSd.rd (by omega)).mono ?_; rintro e' w1 ⟨⟨y, rfl, hy⟩, hr1, hg1⟩; have hS1 := hSd.call hg1 hr1; have hSa := hS1.alloc (.cells #[.string y] 9); have cv1 : (w1.alloc (.cells #[.string y] 9)).cell? ⟨w.heap.size, 7, none⟩ = some (.slice av xs.length cvn) := (hSa.m 7 (by simp)).1; have cv1' : w1.cell? ⟨w.heap.size, 7, none⟩ = some (.slice av xs.length cvn) := (hS1.m 7 (by simp)).1; have ho1 := (hod.grown hg1 (.inr (by intro hh; have := ho.row_lo _ hh; omega))).alloc (.cells #[.string y] 9); have hsrc1 := hsrc w1 y; have hlo1 := hS1.h4)
            | (refine step_append_c rfl (.tmp 22) (.tmp 25) 22 22 rfl (w.heap.size + 2) 9 i0 (.string ⟨#[]⟩) 1 16 Tryd.underlying22 hi hz0 hz1 hz2 rfl _ xs.length _ rfl ho1 _ 1 [.string y] rfl hsrc1 (by unfold maxLen; omega) (by omega) (by simp; omega) ?_; intro v2 w2 ho2 hg2 hbk2; obtain ⟨a2, c2, rfl⟩ := ho2.slc; have hS2 := hSa.grown hg2 (fun q hq => by have := ho1.row_lo q hq; omega); have cv2 : w2.cell? ⟨w.heap.size, 7, none⟩ = some (.slice av xs.length cvn) := (hS2.m 7 (by simp)).1; have fv2 : w2.frozen? ⟨w.heap.size, 7, none⟩ = false := (hS2.m 7 (by simp)).2))
        all_goals
          have hS3 := hS2.store (j := 7) (by simp) (.slice a2 (xs.length + 1) c2)
          simp only [List.set_cons_zero, List.set_cons_succ] at hS3
          have ho3 := ho2.grown (gset (World.grownBy.refl w2 (some (w.heap.size))) 7 (.slice a2 (xs.length + 1) c2)) (.inr (by intro hh; have := ho2.row_lo _ hh; omega))
          rw [show xs.map Value.string ++ [.string y] = (xs ++ [y]).map Value.string by simp] at ho3
          have hx8y : ∀ s ∈ xs ++ [y], s.size ≤ 8 := fun s hs => by
            rcases List.mem_append.1 hs with hs | hs
            · exact hx8 s hs
            · rw [List.mem_singleton.1 hs]; omega
          have c7b : (w2.setCell ⟨w.heap.size, 7, none⟩ (.slice a2 (xs.length + 1) c2)).cell? ⟨w.heap.size, 7, none⟩ = some (.slice a2 (xs.length + 1) c2) := (hS3.m 7 (by simp)).1
          have cw := cv
          clear hS1 hSa hS2 ho1 ho2 hsrc1 hg2 hbk2 cv cvd hSd hod hsrc ho hSj hg1 hr1 hx8
          go_wp2
          go_roundw
          case rel => exact ⟨_, xs ++ [y], by simp; omega, hx8y, by simp; omega, .inl (by simp; omega), by rw [List.length_append, List.length_singleton, show k + 1 + 1 + (xs.length + 1 - ss.length) = k + 1 + 1 + (xs.length - ss.length) + 1 by omega]; exact hS3, by rw [List.length_append]; exact ho3⟩
          case measure => rw [c7b, cw]; simp only; omega
      · have hlt' : ¬ (xs.length : Int) < 1 + (r3 : Int) := by omega
        have hkk : k + 1 + 1 + (xs.length - ss.length) ≤ k + 15 := by omega
        go_wp2_with fail
        refine (pick_any g 3 _ _ hSj.rd (by omega) (by omega) (by omega)).mono ?_
        rintro e4 w4 ⟨⟨r4, hq4, rfl⟩, hr4, hg4⟩
        have hC4 := hSj.call hg4 hr4
        have ho4 := ho.grown hg4 (.inr (by intro hh; have := ho.row_lo _ hh; have := hSj.h1; omega))
        clear cv fv hr4 hg4 ho hSj
        by_cases h40 : r4 = 0
        · subst h40
          rcases ho4 with ⟨hv, h0, _⟩ | ⟨g7, o7, cap7, hv, hc7⟩
          · omega
          · injection hv with hv1 _ hv3
            subst hv1
            subst hv3
            have hlo7 := hc7.lo
            obtain ⟨u0, _, hq0⟩ := hc7.cellSome (j := 0) (by omega)
            have hf0 := hc7.notFrozen (j := 0) (by omega)
            have hc8 := hc7.setCell (j := 0) (by omega) (.string ⟨#[120]⟩)
            have cq : w4.cell? ⟨w.heap.size, 7, none⟩ = some (.slice (some ⟨g7, o7, none⟩) xs.length cvn) := (hC4.m 7 (by simp)).1
            have hS8 := hC4.set (p := ⟨g7, o7 + 0, none⟩) ⟨by dsimp only; omega, by dsimp only; omega⟩ (.string ⟨#[120]⟩)
            rw [show (xs.map Value.string).set 0 (.string ⟨#[120]⟩) = (xs.set 0 ⟨#[120]⟩).map Value.string by rw [List.map_set]] at hc8
            have hoF : Own (w.heap.size + 2) (w4.setCell ⟨g7, o7 + 0, none⟩ (.string ⟨#[120]⟩)) 1 (.slice (some ⟨g7, o7, none⟩) (xs.set 0 ⟨#[120]⟩).length cvn) (xs.set 0 ⟨#[120]⟩).length ((xs.set 0 ⟨#[120]⟩).map Value.string) := by rw [List.length_set]; exact .inr ⟨g7, o7, cvn, rfl, hc8⟩
            have hx8z : ∀ s ∈ xs.set 0 ⟨#[120]⟩, s.size ≤ 8 := fun s hs => by
              rcases List.mem_or_eq_of_mem_set hs with hs | hs
              · exact hx8 s hs
              · rw [hs]; decide
            simp only [Nat.add_zero] at hS8 hoF hq0 hf0
            have hxpos : (0 : Int) < (xs.length : Int) := by omega
            clear hc7 hc8 hC4
            have y0 : (w4.setCell ⟨g7, o7, none⟩ (.string ⟨#[120]⟩)).cell? ⟨w.heap.size, 0, none⟩ = some (.int .i64 k0) := (hS8.m 0 (by simp)).1
            have y1 : (w4.setCell ⟨g7, o7, none⟩ (.string ⟨#[120]⟩)).cell? ⟨w.heap.size, 1, none⟩ = some (.int .i64 f) := (hS8.m 1 (by simp)).1
            have y2 : (w4.setCell ⟨g7, o7, none⟩ (.string ⟨#[120]⟩)).cell? ⟨w.heap.size, 2, none⟩ = some (.int .i64 t) := (hS8.m 2 (by simp)).1
            have y3 : (w4.setCell ⟨g7, o7, none⟩ (.string ⟨#[120]⟩)).cell? ⟨w.heap.size, 3, none⟩ = some (.int .i64 e) := (hS8.m 3 (by simp)).1
            have y4 : (w4.setCell ⟨g7, o7, none⟩ (.string ⟨#[120]⟩)).cell? ⟨w.heap.size, 4, none⟩ = some (.int .i64 l) := (hS8.m 4 (by simp)).1
            have y5 : (w4.setCell ⟨g7, o7, none⟩ (.string ⟨#[120]⟩)).cell? ⟨w.heap.size, 5, none⟩ = some (.int .i64 d) := (hS8.m 5 (by simp)).1
            have y6 : (w4.setCell ⟨g7, o7, none⟩ (.string ⟨#[120]⟩)).cell? ⟨w.heap.size, 6, none⟩ = some (.string x) := (hS8.m 6 (by simp)).1
            have y7 : (w4.setCell ⟨g7, o7, none⟩ (.string ⟨#[120]⟩)).cell? ⟨w.heap.size, 7, none⟩ = some (.slice (some ⟨g7, o7, none⟩) xs.length cvn) := (hS8.m 7 (by simp)).1
            have hbx := hS8.bx
            obtain ⟨WF, hWF⟩ : ∃ WF, WF = (w4.setCell ⟨g7, o7, none⟩ (.string ⟨#[120]⟩)) := ⟨_, rfl⟩
            rw [← hWF] at hS8 hbx y0 y1 y2 y3 y4 y5 y6 y7 hoF
            have HWF := hid hWF
            clear hWF
            go_upto_region 22 with fail
            rw [← HWF.out]
            go_wp2_with (refine wpList_store_cf rfl 27 (.tmp 4) (.tmp 86) rfl (w.heap.size + 1) zM [.int .i64 k0, .int .i64 f, .int .i64 t, .int .i64 e, .int .i64 l, .int .i64 d, .string x, .slice (some ⟨g7, o7, none⟩) xs.length cvn] rfl rfl hbx rfl Tryd.sizeMsg (one8 _ _ _ _ _ _ _ _ _ _) ?_; intro w10 hc10 hg10)
            have kk0 : w10.cell? ⟨w.heap.size + 1, 0, none⟩ = some (.int .i64 k0) := (hc10 0 (by simp)).1
            have kk1 : w10.cell? ⟨w.heap.size + 1, 1, none⟩ = some (.int .i64 f) := (hc10 1 (by simp)).1
            have kk2 : w10.cell? ⟨w.heap.size + 1, 2, none⟩ = some (.int .i64 t) := (hc10 2 (by simp)).1
            have kk3 : w10.cell? ⟨w.heap.size + 1, 3, none⟩ = some (.int .i64 e) := (hc10 3 (by simp)).1
            have kk4 : w10.cell? ⟨w.heap.size + 1, 4, none⟩ = some (.int .i64 l) := (hc10 4 (by simp)).1
            have kk5 : w10.cell? ⟨w.heap.size + 1, 5, none⟩ = some (.int .i64 d) := (hc10 5 (by simp)).1
            have kk6 : w10.cell? ⟨w.heap.size + 1, 6, none⟩ = some (.string x) := (hc10 6 (by simp)).1
            have kk7 : w10.cell? ⟨w.heap.size + 1, 7, none⟩ = some (.slice (some ⟨g7, o7, none⟩) xs.length cvn) := (hc10 7 (by simp)).1
            refine bodyPost_ret (v := .agg #[.int .i64 k0, .int .i64 f, .int .i64 t, .int .i64 e, .int .i64 l, .int .i64 d, .string x, .slice (some ⟨g7, o7, none⟩) xs.length cvn]) (by simp [results, Tryd.results51, go_sem, kk0, kk1, kk2, kk3, kk4, kk5, kk6, kk7]) rfl ⟨⟨_, rfl, _, _, _, _, _, _, _, (xs.set 0 ⟨#[120]⟩), _, _, (by rw [List.length_set]), hx, by rw [List.length_set]; exact hx12, hx8z, (fun h => by cases h), ?_⟩, (hS8.rd.grown hg10 (fun q hq => by simp at hq; have := hS8.h1; omega)).mono (by omega), grownBy_box2 hS8.gr hg10⟩
            exact (hoF.grown hg10 (.inr (by intro hh; have := hoF.row_lo _ hh; omega))).mono' (by omega)
        · have h40' : ¬ (r4 : Int) = 0 := by omega
          have y0 : w4.cell? ⟨w.heap.size, 0, none⟩ = some (.int .i64 k0) := (hC4.m 0 (by simp)).1
          have y1 : w4.cell? ⟨w.heap.size, 1, none⟩ = some (.int .i64 f) := (hC4.m 1 (by simp)).1
          have y2 : w4.cell? ⟨w.heap.size, 2, none⟩ = some (.int .i64 t) := (hC4.m 2 (by simp)).1
          have y3 : w4.cell? ⟨w.heap.size, 3, none⟩ = some (.int .i64 e) := (hC4.m 3 (by simp)).1
          have y4 : w4.cell? ⟨w.heap.size, 4, none⟩ = some (.int .i64 l) := (hC4.m 4 (by simp)).1
          have y5 : w4.cell? ⟨w.heap.size, 5, none⟩ = some (.int .i64 d) := (hC4.m 5 (by simp)).1
          have y6 : w4.cell? ⟨w.heap.size, 6, none⟩ = some (.string x) := (hC4.m 6 (by simp)).1
          have y7 : w4.cell? ⟨w.heap.size, 7, none⟩ = some (.slice av xs.length cvn) := (hC4.m 7 (by simp)).1
          have hbx := hC4.bx
          go_wp2_with (refine wpList_store_cf rfl 27 (.tmp 4) (.tmp 86) rfl (w.heap.size + 1) zM [.int .i64 k0, .int .i64 f, .int .i64 t, .int .i64 e, .int .i64 l, .int .i64 d, .string x, .slice av xs.length cvn] rfl rfl hbx rfl Tryd.sizeMsg (one8 _ _ _ _ _ _ _ _ _ _) ?_; intro w10 hc10 hg10)
          have kk0 : w10.cell? ⟨w.heap.size + 1, 0, none⟩ = some (.int .i64 k0) := (hc10 0 (by simp)).1
          have kk1 : w10.cell? ⟨w.heap.size + 1, 1, none⟩ = some (.int .i64 f) := (hc10 1 (by simp)).1
          have kk2 : w10.cell? ⟨w.heap.size + 1, 2, none⟩ = some (.int .i64 t) := (hc10 2 (by simp)).1
          have kk3 : w10.cell? ⟨w.heap.size + 1, 3, none⟩ = some (.int .i64 e) := (hc10 3 (by simp)).1
          have kk4 : w10.cell? ⟨w.heap.size + 1, 4, none⟩ = some (.int .i64 l) := (hc10 4 (by simp)).1
          have kk5 : w10.cell? ⟨w.heap.size + 1, 5, none⟩ = some (.int .i64 d) := (hc10 5 (by simp)).1
          have kk6 : w10.cell? ⟨w.heap.size + 1, 6, none⟩ = some (.string x) := (hc10 6 (by simp)).1
          have kk7 : w10.cell? ⟨w.heap.size + 1, 7, none⟩ = some (.slice av xs.length cvn) := (hc10 7 (by simp)).1
          refine bodyPost_ret (v := .agg #[.int .i64 k0, .int .i64 f, .int .i64 t, .int .i64 e, .int .i64 l, .int .i64 d, .string x, .slice av xs.length cvn]) (by simp [results, Tryd.results51, go_sem, kk0, kk1, kk2, kk3, kk4, kk5, kk6, kk7]) rfl ⟨⟨_, rfl, _, _, _, _, _, _, _, xs, _, _, rfl, hx, hx12, hx8, (fun h => by cases h), ?_⟩, (hC4.rd.grown hg10 (fun q hq => by simp at hq; have := hC4.h1; omega)).mono (by omega), grownBy_box2 hC4.gr hg10⟩
          exact (ho4.grown hg10 (.inr (by intro hh; have := ho4.row_lo _ hh; omega))).mono' (by omega)
end Go.Proofs.YtlgmkmegkojgbaaDoor
