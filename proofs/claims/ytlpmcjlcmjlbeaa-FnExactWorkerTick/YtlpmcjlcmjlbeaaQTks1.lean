import Derived.Test.YtlpmcjlcmjlbeaaQTk2
namespace Go.Proofs.Ytlpmcjlcmjlbeaa
open Go.RowKit

set_option maxHeartbeats 8000000 in
set_option maxRecDepth 100000 in
theorem sTick_0 (nu ep : Int) (le ta co lf : Int) (a : Option Addr) (b o n c : Nat) (ss : List ByteArray) (x : ByteArray) (si : Int) (pa : Option Addr) (pb po pn pc : Nat) (ts : List TaskD) (w : World) (h : StrsAt w a b o n ss) (hp : TasksAt w pa pb po pn ts) (hok : (⟨nu, ep, true, 0, le, ta, co, lf, ss, x, si⟩ : WD).ok) (hcode : Code ts 0) :
    Calls Try.prog 19 #[.agg #[.int .i64 nu, .int .i64 ep, .bool true, .int .i64 0, .int .i64 le, .int .i64 ta, .int .i64 co, .int .i64 lf, .slice a n c, .string x, .int .i64 si], .agg #[.slice pa pn pc]] w fun e w' => RetA e w.heap.size w' (tickR (⟨nu, ep, true, 0, le, ta, co, lf, ss, x, si⟩ : WD) ts) ∧ Below w.heap.size w w' := by
  obtain ⟨W, hW⟩ : ∃ W, W = ((w.alloc (.cells #[.int .i64 nu, .int .i64 ep, .bool true, .int .i64 0, .int .i64 le, .int .i64 ta, .int .i64 co, .int .i64 lf, .slice a n c, .string x, .int .i64 si] 27)).alloc (.cells #[.slice pa pn pc] 43)).alloc (.cells zA.toArray 39) := ⟨_, rfl⟩
  have hbW : Below w.heap.size w W := by rw [hW]; exact (((Below.refl _ _).alloc (Nat.le_refl _) _).alloc (by simp) _).alloc (by simp; omega) _
  have hsW : W.heap.size = w.heap.size + 3 := by rw [hW]; simp
  have hP : CF W w.heap.size [.int .i64 nu, .int .i64 ep, .bool true, .int .i64 0, .int .i64 le, .int .i64 ta, .int .i64 co, .int .i64 lf, .slice a n c, .string x, .int .i64 si] := by
    rw [hW]; exact ((CF.made w #[.int .i64 nu, .int .i64 ep, .bool true, .int .i64 0, .int .i64 le, .int .i64 ta, .int .i64 co, .int .i64 lf, .slice a n c, .string x, .int .i64 si] 27).block (Below.heap_alloc _ _ _ (by simp))).block (Below.heap_alloc _ _ _ (by simp; omega))
  have hL : CF W (w.heap.size + 1) [.slice pa pn pc] := by
    rw [hW]
    have := (CF.made (w.alloc (.cells #[.int .i64 nu, .int .i64 ep, .bool true, .int .i64 0, .int .i64 le, .int .i64 ta, .int .i64 co, .int .i64 lf, .slice a n c, .string x, .int .i64 si] 27)) #[.slice pa pn pc] 43).block (Below.heap_alloc ((w.alloc (.cells #[.int .i64 nu, .int .i64 ep, .bool true, .int .i64 0, .int .i64 le, .int .i64 ta, .int .i64 co, .int .i64 lf, .slice a n c, .string x, .int .i64 si] 27)).alloc (.cells #[.slice pa pn pc] 43)) (.cells zA.toArray 39) _ (by simp))
    simpa using this
  have hR : CF W (w.heap.size + 2) zA := by
    rw [hW]
    have := CF.made ((w.alloc (.cells #[.int .i64 nu, .int .i64 ep, .bool true, .int .i64 0, .int .i64 le, .int .i64 ta, .int .i64 co, .int .i64 lf, .slice a n c, .string x, .int .i64 si] 27)).alloc (.cells #[.slice pa pn pc] 43)) zA.toArray 39
    simpa using this
  have hlen := hid h.len
  have hplen := hid hp.len
  simp only [zA] at hW
  have HW := hid hW
  clear hW
  go_enter Try.func19, Try.ntmps19
  go_upto_region 1 with fail
  rw [← HW.out]
  clear HW
  have y0 : W.cell? ⟨w.heap.size, 0, none⟩ = some (.int .i64 nu) := (hP 0 (by simp)).1
  have y1 : W.cell? ⟨w.heap.size, 1, none⟩ = some (.int .i64 ep) := (hP 1 (by simp)).1
  have y2 : W.cell? ⟨w.heap.size, 2, none⟩ = some (.bool true) := (hP 2 (by simp)).1
  have y3 : W.cell? ⟨w.heap.size, 3, none⟩ = some (.int .i64 0) := (hP 3 (by simp)).1
  have y4 : W.cell? ⟨w.heap.size, 4, none⟩ = some (.int .i64 le) := (hP 4 (by simp)).1
  have y5 : W.cell? ⟨w.heap.size, 5, none⟩ = some (.int .i64 ta) := (hP 5 (by simp)).1
  have y6 : W.cell? ⟨w.heap.size, 6, none⟩ = some (.int .i64 co) := (hP 6 (by simp)).1
  have y7 : W.cell? ⟨w.heap.size, 7, none⟩ = some (.int .i64 lf) := (hP 7 (by simp)).1
  have y8 : W.cell? ⟨w.heap.size, 8, none⟩ = some (.slice a n c) := (hP 8 (by simp)).1
  have y9 : W.cell? ⟨w.heap.size, 9, none⟩ = some (.string x) := (hP 9 (by simp)).1
  have y10 : W.cell? ⟨w.heap.size, 10, none⟩ = some (.int .i64 si) := (hP 10 (by simp)).1
  go_wp2_with fail
  refine (sVal_any nu ep true 0 le ta co lf a b o n c ss x si _ (h.below' hbW)).mono ?_
  rintro e w1 ⟨⟨r, rfl, hr⟩, hb1⟩
  have hP1 := hP.block (hb1.block w.heap.size (by omega))
  have hL1 := hL.block (hb1.block (w.heap.size + 1) (by omega))
  have hR1 := hR.block (hb1.block (w.heap.size + 2) (by omega))
  have hB1 := hbW.trans (hb1.mono hbW.size)
  have hz1 : w.heap.size + 3 ≤ w1.heap.size := by have := hb1.size; omega
  have HR := hid hr
  clear y0 y1 y2 y3 y4 y5 y6 y7 y8 y9 y10 hr hb1 hP hL hR hsW hbW
  have HV := hid hok
  have HC := hid hcode
  clear hok hcode
  obtain rfl : r = true := HR.out.2 HV.out
  have hn8 : n ≤ 8 := by have := (WD.ok.small HV.out).1; rw [hlen.out] at this; exact this
  have kp : w1.cell? ⟨w.heap.size + 1, 0, none⟩ = some (.slice pa pn pc) := (hL1 0 (by simp)).1
  go_wp2_with fail
  refine (specCheckPlan_any pa pb po pn pc ts _ (hp.below' hB1)).mono ?_
  rintro e w2 ⟨⟨cd, rfl, hcd⟩, hb2⟩
  have hP2 := hP1.block (hb2.block w.heap.size (by omega))
  have hL2 := hL1.block (hb2.block (w.heap.size + 1) (by omega))
  have hR2 := hR1.block (hb2.block (w.heap.size + 2) (by omega))
  have hB2 := hB1.trans (hb2.mono hB1.size)
  have hz2 : w.heap.size + 3 ≤ w2.heap.size := by have := hb2.size; omega
  have HCD := hid hcd
  clear kp hP1 hL1 hR1 hB1 hz1 hb2 HR hcd
  obtain rfl : cd = 0 := HCD.out.one HC.out
  clear HC
  have hw2 := h.below' hB2
  have y0 : w2.cell? ⟨w.heap.size, 0, none⟩ = some (.int .i64 nu) := (hP2 0 (by simp)).1
  have y1 : w2.cell? ⟨w.heap.size, 1, none⟩ = some (.int .i64 ep) := (hP2 1 (by simp)).1
  have y2 : w2.cell? ⟨w.heap.size, 2, none⟩ = some (.bool true) := (hP2 2 (by simp)).1
  have y3 : w2.cell? ⟨w.heap.size, 3, none⟩ = some (.int .i64 0) := (hP2 3 (by simp)).1
  have y4 : w2.cell? ⟨w.heap.size, 4, none⟩ = some (.int .i64 le) := (hP2 4 (by simp)).1
  have y5 : w2.cell? ⟨w.heap.size, 5, none⟩ = some (.int .i64 ta) := (hP2 5 (by simp)).1
  have y6 : w2.cell? ⟨w.heap.size, 6, none⟩ = some (.int .i64 co) := (hP2 6 (by simp)).1
  have y7 : w2.cell? ⟨w.heap.size, 7, none⟩ = some (.int .i64 lf) := (hP2 7 (by simp)).1
  have y8 : w2.cell? ⟨w.heap.size, 8, none⟩ = some (.slice a n c) := (hP2 8 (by simp)).1
  have y9 : w2.cell? ⟨w.heap.size, 9, none⟩ = some (.string x) := (hP2 9 (by simp)).1
  have y10 : w2.cell? ⟨w.heap.size, 10, none⟩ = some (.int .i64 si) := (hP2 10 (by simp)).1
  go_upto_region 4 with (go_at_call 43; refine (l3Copy_any nu ep true 0 le ta co lf a b o n c ss x si _ hw2 (by omega)).mono ?_; rintro e w3 ⟨a1, c1, rfl, ho3, hb3⟩; have hL3 := hL2.block (hb3.block (w.heap.size + 1) (by omega)); have hR3 := hR2.block (hb3.block (w.heap.size + 2) (by omega)); have hB3 := hB2.trans (hb3.mono hB2.size); have hz3 : w.heap.size + 3 ≤ w3.heap.size := (by have := hb3.size; omega); clear hP2 hL2 hR2 hB2 hb3 hw2)
  clear y0 y1 y2 y3 y4 y5 y6 y7 y8 y9 y10
  have kp : w3.cell? ⟨w.heap.size + 1, 0, none⟩ = some (.slice pa pn pc) := (hL3 0 (by simp)).1
  have hlp : w.heap.size + 1 < w3.heap.size := by omega
  have v5 : 0 ≤ si := HV.out.2.2.2.2.1
  have v6 : si ≤ 1000000 := HV.out.2.2.2.2.2.1
  by_cases hs : si < 1000000
  · by_cases h3 : 3 ≤ si + 1
    · skip
      have HT : Hid ((⟨nu, ep, true, 0, le, ta, co, lf, ss, x, 0⟩, some ⟨5, nu, ep, 0, 0, ⟨#[]⟩⟩) = tickV ⟨nu, ep, true, 0, le, ta, co, lf, ss, x, si⟩ (tnm ts ta)) := (tick_0t _ _ _ _ _ _ _ _ _ (si + 1) _ (sup_lt hs) h3).symm
      go_upto_region 31 with fail
      clear h3 hs v5 v6
      have hR4 := hR3.block (Below.heap_alloc w3 (.cells #[.int .i64 nu, .int .i64 ep, .bool true, .int .i64 0, .int .i64 le, .int .i64 ta, .int .i64 co, .int .i64 lf, .slice a1 n c1, .string x, .int .i64 0] 27) _ (by omega))
      have hB4 := hB3.alloc hB3.size (.cells #[.int .i64 nu, .int .i64 ep, .bool true, .int .i64 0, .int .i64 le, .int .i64 ta, .int .i64 co, .int .i64 lf, .slice a1 n c1, .string x, .int .i64 0] 27)
      have ho4 := ho3.alloc (.cells #[.int .i64 nu, .int .i64 ep, .bool true, .int .i64 0, .int .i64 le, .int .i64 ta, .int .i64 co, .int .i64 lf, .slice a1 n c1, .string x, .int .i64 0] 27)
      obtain ⟨WX, hWX⟩ : ∃ WX, WX = w3.alloc (.cells #[.int .i64 nu, .int .i64 ep, .bool true, .int .i64 0, .int .i64 le, .int .i64 ta, .int .i64 co, .int .i64 lf, .slice a1 n c1, .string x, .int .i64 0] 27) := ⟨_, rfl⟩
      have hX4 : CF WX w3.heap.size [.int .i64 nu, .int .i64 ep, .bool true, .int .i64 0, .int .i64 le, .int .i64 ta, .int .i64 co, .int .i64 lf, .slice a1 n c1, .string x, .int .i64 0] := by rw [hWX]; exact CF.made w3 #[.int .i64 nu, .int .i64 ep, .bool true, .int .i64 0, .int .i64 le, .int .i64 ta, .int .i64 co, .int .i64 lf, .slice a1 n c1, .string x, .int .i64 0] 27
      have hz4 : w3.heap.size < WX.heap.size := by rw [hWX]; simp
      rw [← hWX] at hR4 hB4 ho4
      rw [← hWX]
      clear hWX
      refine wp_region_held (S := fun w' => CF w' w3.heap.size [.int .i64 nu, .int .i64 ep, .bool true, .int .i64 0, .int .i64 le, .int .i64 ta, .int .i64 co, .int .i64 lf, .slice a1 n c1, .string x, .int .i64 0]) (by kernel_rfl) ?_
      change wpAnyH _ _ _ _ _ _ _ _ (World.drew _)
      have hXd : CF WX.drew w3.heap.size [.int .i64 nu, .int .i64 ep, .bool true, .int .i64 0, .int .i64 le, .int .i64 ta, .int .i64 co, .int .i64 lf, .slice a1 n c1, .string x, .int .i64 0] := hX4
      have hRd : CF WX.drew (w.heap.size + 2) zA := hR4
      have hBd := hB4.drew
      have hzd : w3.heap.size < WX.drew.heap.size := hz4
      refine hTake (i := 0) (d := some 80) (v := .agg #[.int .i64 nu, .int .i64 ep, .bool true, .int .i64 0, .int .i64 le, .int .i64 ta, .int .i64 co, .int .i64 lf, .slice a1 n c1, .string x, .int .i64 0]) (l' := #[true, false, false, false, false, false, false]) rfl (by kernel_rfl) (by kernel_rfl) (by kernel_rfl) (by kernel_rfl) (fun _ _ _ h => h) (by kernel_rfl) (fun _ hc => run_ldT 27 _ [.int .i64 nu, .int .i64 ep, .bool true, .int .i64 0, .int .i64 le, .int .i64 ta, .int .i64 co, .int .i64 lf, .slice a1 n c1, .string x, .int .i64 0] (.tmp 5) (by kernel_rfl) (by kernel_rfl) hc Try.underlying27 rfl Try.sizeWk) hXd (by kernel_rfl) ?_
      refine hTake (i := 1) (d := some 81) (v := .agg #[.int .i64 nu, .int .i64 ep, .bool true, .int .i64 0, .int .i64 le, .int .i64 ta, .int .i64 co, .int .i64 lf, .slice a1 n c1, .string x, .int .i64 0]) (l' := #[true, true, false, false, false, false, false]) rfl (by kernel_rfl) (by kernel_rfl) (by kernel_rfl) (by kernel_rfl) (fun _ _ _ h => h) (by kernel_rfl) (fun _ hc => run_ldT 27 _ [.int .i64 nu, .int .i64 ep, .bool true, .int .i64 0, .int .i64 le, .int .i64 ta, .int .i64 co, .int .i64 lf, .slice a1 n c1, .string x, .int .i64 0] (.tmp 5) (by kernel_rfl) (by kernel_rfl) hc Try.underlying27 rfl Try.sizeWk) hXd (by kernel_rfl) ?_
      refine hTake (i := 2) (d := some 82) (v := .int .i64 5) (l' := #[true, true, true, false, false, false, false]) rfl (by kernel_rfl) (by kernel_rfl) (by kernel_rfl) (by kernel_rfl) (fun _ _ _ h => h) (by kernel_rfl) (fun _ _ => run_mvT (.tmp 6) (by kernel_rfl) (by kernel_rfl)) hXd (by kernel_rfl) ?_
      refine hOne (by kernel_rfl) (hCall (i := 3) (d := some 83) (f := 48) (args := #[.agg #[.int .i64 nu, .int .i64 ep, .bool true, .int .i64 0, .int .i64 le, .int .i64 ta, .int .i64 co, .int .i64 lf, .slice a1 n c1, .string x, .int .i64 0], .int .i64 5]) (l' := #[true, true, true, true, false, false, false]) (R := fun v w' => v = .agg #[.int .i64 5, .int .i64 nu, .int .i64 0, .int .i64 ep, .int .i64 0, .int .i64 0, .string ⟨#[]⟩, .slice none 0 0] ∧ Below WX.drew.heap.size WX.drew w') rfl (by kernel_rfl) (by kernel_rfl) (by kernel_rfl) (run_cl2 _ _ _ rfl (by kernel_rfl) (by kernel_rfl) rfl enter_l3Says) ((l3Says_5 nu ep true 0 le ta co lf a1 n c1 x 0 _).mono fun _ _ ⟨he, hw⟩ => ⟨_, he, rfl, hw⟩) ?_)
      rintro _ w5 ⟨rfl, hb5⟩
      have hX5 := hXd.block (hb5.block _ hzd)
      have hR5 := hRd.block (hb5.block (w.heap.size + 2) (by omega))
      have hB5 := hBd.trans (hb5.mono hBd.size)
      have hz5 : w3.heap.size < w5.heap.size := by have := hb5.size; omega
      have hz5' : WX.heap.size ≤ w5.heap.size := hb5.size
      refine ⟨hX5, ?_⟩
      have hX6 := hX5.block (Below.heap_alloc w5 (.cells #[.int .i64 5, .int .i64 nu, .int .i64 0, .int .i64 ep, .int .i64 0, .int .i64 0, .string ⟨#[]⟩, .slice none 0 0] 75) _ hz5)
      have hR6 := hR5.block (Below.heap_alloc w5 (.cells #[.int .i64 5, .int .i64 nu, .int .i64 0, .int .i64 ep, .int .i64 0, .int .i64 0, .string ⟨#[]⟩, .slice none 0 0] 75) _ (by omega))
      have hB6 := hB5.alloc hB5.size (.cells #[.int .i64 5, .int .i64 nu, .int .i64 0, .int .i64 ep, .int .i64 0, .int .i64 0, .string ⟨#[]⟩, .slice none 0 0] 75)
      have hout : Own w.heap.size (w5.alloc (.cells #[.int .i64 5, .int .i64 nu, .int .i64 0, .int .i64 ep, .int .i64 0, .int .i64 0, .string ⟨#[]⟩, .slice none 0 0] 75)) 8 (.slice (some ⟨w5.heap.size, 0, none⟩) 1 1) 1 [.int .i64 5, .int .i64 nu, .int .i64 0, .int .i64 ep, .int .i64 0, .int .i64 0, .string ⟨#[]⟩, .slice none 0 0] := outOwn w5 w.heap.size ⟨5, nu, ep, 0, 0, ⟨#[]⟩⟩ (by omega)
      have hz6 : w.heap.size + 2 < (w5.alloc (.cells #[.int .i64 5, .int .i64 nu, .int .i64 0, .int .i64 ep, .int .i64 0, .int .i64 0, .string ⟨#[]⟩, .slice none 0 0] 75)).heap.size := by simp; omega
      refine hOne (by kernel_rfl) (hVal (i := 4) (d := some 84) (v := .slice (some ⟨w5.heap.size, 0, none⟩) 1 1) (w' := w5.alloc (.cells #[.int .i64 5, .int .i64 nu, .int .i64 0, .int .i64 ep, .int .i64 0, .int .i64 0, .string ⟨#[]⟩, .slice none 0 0] 75)) (l' := #[true, true, true, true, true, false, false]) rfl (by kernel_rfl) (by kernel_rfl) (by kernel_rfl) (run_bs1 (.tmp 83) 5 nu 0 ep 0 0 ⟨#[]⟩ (by kernel_rfl) (by kernel_rfl)) hX6 ?_)
      refine hTake (i := 5) (d := some 85) (v := .agg #[.int .i64 nu, .int .i64 ep, .bool true, .int .i64 0, .int .i64 le, .int .i64 ta, .int .i64 co, .int .i64 lf, .slice a1 n c1, .string x, .int .i64 0, .slice (some ⟨w5.heap.size, 0, none⟩) 1 1]) (l' := #[true, true, true, true, true, true, false]) rfl (by kernel_rfl) (by kernel_rfl) (by kernel_rfl) (by kernel_rfl) (fun _ _ _ h => h) (by kernel_rfl) (fun _ _ => run_bd (.tmp 80) (.tmp 84) nu ep true 0 le ta co lf a1 n c1 x 0 (some ⟨w5.heap.size, 0, none⟩) 1 1 (by kernel_rfl) (by kernel_rfl) (by kernel_rfl)) hX6 (by kernel_rfl) ?_
      obtain ⟨w10, hw10⟩ : ∃ w10, w10 = (w5.alloc (.cells #[.int .i64 5, .int .i64 nu, .int .i64 0, .int .i64 ep, .int .i64 0, .int .i64 0, .string ⟨#[]⟩, .slice none 0 0] 75)).setCells (w.heap.size + 2) 0 [.int .i64 nu, .int .i64 ep, .bool true, .int .i64 0, .int .i64 le, .int .i64 ta, .int .i64 co, .int .i64 lf, .slice a1 n c1, .string x, .int .i64 0, .slice (some ⟨w5.heap.size, 0, none⟩) 1 1] := ⟨_, rfl⟩
      have hc10 : CF w10 (w.heap.size + 2) [.int .i64 nu, .int .i64 ep, .bool true, .int .i64 0, .int .i64 le, .int .i64 ta, .int .i64 co, .int .i64 lf, .slice a1 n c1, .string x, .int .i64 0, .slice (some ⟨w5.heap.size, 0, none⟩) 1 1] := by rw [hw10]; exact hR6.stored rfl
      have hg10 : (w5.alloc (.cells #[.int .i64 5, .int .i64 nu, .int .i64 0, .int .i64 ep, .int .i64 0, .int .i64 0, .string ⟨#[]⟩, .slice none 0 0] 75)).grownBy w10 (some (w.heap.size + 2)) := by rw [hw10]; exact grown_setCells _ _ _ _ _ (World.grownBy.refl _ _)
      have hX10 := hX6.block (hg10.block w3.heap.size (by simp; omega) (by simp; omega))
      refine hOne (by kernel_rfl) (hSkip (i := 6) (w' := w10) (l' := #[true, true, true, true, true, true, true]) rfl (by kernel_rfl) (by kernel_rfl) (by kernel_rfl) (by rw [hw10]; exact run_stT 39 zA [.int .i64 nu, .int .i64 ep, .bool true, .int .i64 0, .int .i64 le, .int .i64 ta, .int .i64 co, .int .i64 lf, .slice a1 n c1, .string x, .int .i64 0, .slice (some ⟨w5.heap.size, 0, none⟩) 1 1] (.tmp 4) (.tmp 85) (by kernel_rfl) (by kernel_rfl) (by kernel_rfl) hR6 rfl Try.sizeAc (one12 _ _ _ _ _ _ _ _ _ _ _ _ _ _ _ _)) hX10 ?_)
      have kk0 : w10.cell? ⟨w.heap.size + 2, 0, none⟩ = some (.int .i64 nu) := (hc10 0 (by simp)).1
      have kk1 : w10.cell? ⟨w.heap.size + 2, 1, none⟩ = some (.int .i64 ep) := (hc10 1 (by simp)).1
      have kk2 : w10.cell? ⟨w.heap.size + 2, 2, none⟩ = some (.bool true) := (hc10 2 (by simp)).1
      have kk3 : w10.cell? ⟨w.heap.size + 2, 3, none⟩ = some (.int .i64 0) := (hc10 3 (by simp)).1
      have kk4 : w10.cell? ⟨w.heap.size + 2, 4, none⟩ = some (.int .i64 le) := (hc10 4 (by simp)).1
      have kk5 : w10.cell? ⟨w.heap.size + 2, 5, none⟩ = some (.int .i64 ta) := (hc10 5 (by simp)).1
      have kk6 : w10.cell? ⟨w.heap.size + 2, 6, none⟩ = some (.int .i64 co) := (hc10 6 (by simp)).1
      have kk7 : w10.cell? ⟨w.heap.size + 2, 7, none⟩ = some (.int .i64 lf) := (hc10 7 (by simp)).1
      have kk8 : w10.cell? ⟨w.heap.size + 2, 8, none⟩ = some (.slice a1 n c1) := (hc10 8 (by simp)).1
      have kk9 : w10.cell? ⟨w.heap.size + 2, 9, none⟩ = some (.string x) := (hc10 9 (by simp)).1
      have kk10 : w10.cell? ⟨w.heap.size + 2, 10, none⟩ = some (.int .i64 0) := (hc10 10 (by simp)).1
      have kk11 : w10.cell? ⟨w.heap.size + 2, 11, none⟩ = some (.slice (some ⟨w5.heap.size, 0, none⟩) 1 1) := (hc10 11 (by simp)).1
      refine wpAnyH_done (by kernel_rfl) ?_ _
      go_wp2
      refine bodyPost_ret (v := .agg #[.int .i64 nu, .int .i64 ep, .bool true, .int .i64 0, .int .i64 le, .int .i64 ta, .int .i64 co, .int .i64 lf, .slice a1 n c1, .string x, .int .i64 0, .slice (some ⟨w5.heap.size, 0, none⟩) 1 1]) (by simp [results, Try.results19, go_sem, kk0, kk1, kk2, kk3, kk4, kk5, kk6, kk7, kk8, kk9, kk10, kk11]) rfl ⟨⟨⟨nu, ep, true, 0, le, ta, co, lf, ss, x, 0⟩, some ⟨5, nu, ep, 0, 0, ⟨#[]⟩⟩, a1, c1, .slice (some ⟨w5.heap.size, 0, none⟩) 1 1, ?_, ?_, ?_, ?_, .inl ⟨HV.out, HCD.out, ?_⟩⟩, ?_⟩
      · exact (by simp only [hlen.out])
      · exact (by rw [hlen.out]; exact (((ho4.drewW.below hb5 (Nat.le_refl _)).alloc _).grown hg10 (.inr (by intro hh; have := ho3.row_lo _ hh; omega))).mono' (by omega))
      · exact hout.grown hg10 (.inr (by intro hh; have : w5.heap.size = w.heap.size + 2 := Option.some.inj hh; omega))
      · rw [hlen.out]; exact dis_of (fun q hq hh => by have := ho3.row_hi q hq; have : q = w5.heap.size := Option.some.inj hh; omega)
      · exact HT.out
      · exact below_grown hB6 hg10 (by omega) (fun q hq => by simp at hq; omega)
    · skip
      have HT : Hid ((⟨nu, ep, true, 0, le, ta, co, lf, ss, x, si + 1⟩, none) = tickV ⟨nu, ep, true, 0, le, ta, co, lf, ss, x, si⟩ (tnm ts ta)) := (tick_0q _ _ _ _ _ _ _ _ _ (si + 1) _ (sup_lt hs) h3).symm
      go_upto_region 29 with fail
      clear h3 hs v5 v6
      have hR4 := hR3.block (Below.heap_alloc w3 (.cells #[.int .i64 nu, .int .i64 ep, .bool true, .int .i64 0, .int .i64 le, .int .i64 ta, .int .i64 co, .int .i64 lf, .slice a1 n c1, .string x, .int .i64 (si + 1)] 27) _ (by omega))
      have hB4 := hB3.alloc hB3.size (.cells #[.int .i64 nu, .int .i64 ep, .bool true, .int .i64 0, .int .i64 le, .int .i64 ta, .int .i64 co, .int .i64 lf, .slice a1 n c1, .string x, .int .i64 (si + 1)] 27)
      have ho4 := ho3.alloc (.cells #[.int .i64 nu, .int .i64 ep, .bool true, .int .i64 0, .int .i64 le, .int .i64 ta, .int .i64 co, .int .i64 lf, .slice a1 n c1, .string x, .int .i64 (si + 1)] 27)
      obtain ⟨WX, hWX⟩ : ∃ WX, WX = w3.alloc (.cells #[.int .i64 nu, .int .i64 ep, .bool true, .int .i64 0, .int .i64 le, .int .i64 ta, .int .i64 co, .int .i64 lf, .slice a1 n c1, .string x, .int .i64 (si + 1)] 27) := ⟨_, rfl⟩
      have hX4 : CF WX w3.heap.size [.int .i64 nu, .int .i64 ep, .bool true, .int .i64 0, .int .i64 le, .int .i64 ta, .int .i64 co, .int .i64 lf, .slice a1 n c1, .string x, .int .i64 (si + 1)] := by rw [hWX]; exact CF.made w3 #[.int .i64 nu, .int .i64 ep, .bool true, .int .i64 0, .int .i64 le, .int .i64 ta, .int .i64 co, .int .i64 lf, .slice a1 n c1, .string x, .int .i64 (si + 1)] 27
      have hz4 : w3.heap.size < WX.heap.size := by rw [hWX]; simp
      rw [← hWX] at hR4 hB4 ho4
      rw [← hWX]
      clear hWX
      have z0 : WX.cell? ⟨w3.heap.size, 0, none⟩ = some (.int .i64 nu) := (hX4 0 (by simp)).1
      have z1 : WX.cell? ⟨w3.heap.size, 1, none⟩ = some (.int .i64 ep) := (hX4 1 (by simp)).1
      have z2 : WX.cell? ⟨w3.heap.size, 2, none⟩ = some (.bool true) := (hX4 2 (by simp)).1
      have z3 : WX.cell? ⟨w3.heap.size, 3, none⟩ = some (.int .i64 0) := (hX4 3 (by simp)).1
      have z4 : WX.cell? ⟨w3.heap.size, 4, none⟩ = some (.int .i64 le) := (hX4 4 (by simp)).1
      have z5 : WX.cell? ⟨w3.heap.size, 5, none⟩ = some (.int .i64 ta) := (hX4 5 (by simp)).1
      have z6 : WX.cell? ⟨w3.heap.size, 6, none⟩ = some (.int .i64 co) := (hX4 6 (by simp)).1
      have z7 : WX.cell? ⟨w3.heap.size, 7, none⟩ = some (.int .i64 lf) := (hX4 7 (by simp)).1
      have z8 : WX.cell? ⟨w3.heap.size, 8, none⟩ = some (.slice a1 n c1) := (hX4 8 (by simp)).1
      have z9 : WX.cell? ⟨w3.heap.size, 9, none⟩ = some (.string x) := (hX4 9 (by simp)).1
      have z10 : WX.cell? ⟨w3.heap.size, 10, none⟩ = some (.int .i64 (si + 1)) := (hX4 10 (by simp)).1
      go_wp2_with (refine wpList_store_cf rfl 39 (.tmp 4) (.tmp 78) rfl (w.heap.size + 2) zA [.int .i64 nu, .int .i64 ep, .bool true, .int .i64 0, .int .i64 le, .int .i64 ta, .int .i64 co, .int .i64 lf, .slice a1 n c1, .string x, .int .i64 (si + 1), .slice none 0 0] rfl rfl hR4 rfl Try.sizeAc (one12 _ _ _ _ _ _ _ _ _ _ _ _ _ _ _ _) ?_; intro w10 hc10 hg10)
      have kk0 : w10.cell? ⟨w.heap.size + 2, 0, none⟩ = some (.int .i64 nu) := (hc10 0 (by simp)).1
      have kk1 : w10.cell? ⟨w.heap.size + 2, 1, none⟩ = some (.int .i64 ep) := (hc10 1 (by simp)).1
      have kk2 : w10.cell? ⟨w.heap.size + 2, 2, none⟩ = some (.bool true) := (hc10 2 (by simp)).1
      have kk3 : w10.cell? ⟨w.heap.size + 2, 3, none⟩ = some (.int .i64 0) := (hc10 3 (by simp)).1
      have kk4 : w10.cell? ⟨w.heap.size + 2, 4, none⟩ = some (.int .i64 le) := (hc10 4 (by simp)).1
      have kk5 : w10.cell? ⟨w.heap.size + 2, 5, none⟩ = some (.int .i64 ta) := (hc10 5 (by simp)).1
      have kk6 : w10.cell? ⟨w.heap.size + 2, 6, none⟩ = some (.int .i64 co) := (hc10 6 (by simp)).1
      have kk7 : w10.cell? ⟨w.heap.size + 2, 7, none⟩ = some (.int .i64 lf) := (hc10 7 (by simp)).1
      have kk8 : w10.cell? ⟨w.heap.size + 2, 8, none⟩ = some (.slice a1 n c1) := (hc10 8 (by simp)).1
      have kk9 : w10.cell? ⟨w.heap.size + 2, 9, none⟩ = some (.string x) := (hc10 9 (by simp)).1
      have kk10 : w10.cell? ⟨w.heap.size + 2, 10, none⟩ = some (.int .i64 (si + 1)) := (hc10 10 (by simp)).1
      have kk11 : w10.cell? ⟨w.heap.size + 2, 11, none⟩ = some (.slice none 0 0) := (hc10 11 (by simp)).1
      exact bodyPost_ret (v := .agg #[.int .i64 nu, .int .i64 ep, .bool true, .int .i64 0, .int .i64 le, .int .i64 ta, .int .i64 co, .int .i64 lf, .slice a1 n c1, .string x, .int .i64 (si + 1), .slice none 0 0]) (by simp [results, Try.results19, go_sem, kk0, kk1, kk2, kk3, kk4, kk5, kk6, kk7, kk8, kk9, kk10, kk11]) rfl ⟨⟨⟨nu, ep, true, 0, le, ta, co, lf, ss, x, si + 1⟩, none, a1, c1, .slice none 0 0, (by simp only [hlen.out]), (by rw [hlen.out]; exact (ho4.grown hg10 (.inr (by intro hh; have := ho3.row_lo _ hh; omega))).mono' (by omega)), Own.nil _ _ _, (dis_of (fun q _ hh => by cases hh)), .inl ⟨HV.out, HCD.out, HT.out⟩⟩, below_grown hB4 hg10 (by omega) (fun q hq => by simp at hq; omega)⟩
  · have h3 : 3 ≤ si := by omega
    have HT : Hid ((⟨nu, ep, true, 0, le, ta, co, lf, ss, x, 0⟩, some ⟨5, nu, ep, 0, 0, ⟨#[]⟩⟩) = tickV ⟨nu, ep, true, 0, le, ta, co, lf, ss, x, si⟩ (tnm ts ta)) := (tick_0t _ _ _ _ _ _ _ _ _ si _ (sup_ge hs) h3).symm
    go_upto_region 31 with fail
    clear h3 hs v5 v6
    have hR4 := hR3.block (Below.heap_alloc w3 (.cells #[.int .i64 nu, .int .i64 ep, .bool true, .int .i64 0, .int .i64 le, .int .i64 ta, .int .i64 co, .int .i64 lf, .slice a1 n c1, .string x, .int .i64 0] 27) _ (by omega))
    have hB4 := hB3.alloc hB3.size (.cells #[.int .i64 nu, .int .i64 ep, .bool true, .int .i64 0, .int .i64 le, .int .i64 ta, .int .i64 co, .int .i64 lf, .slice a1 n c1, .string x, .int .i64 0] 27)
    have ho4 := ho3.alloc (.cells #[.int .i64 nu, .int .i64 ep, .bool true, .int .i64 0, .int .i64 le, .int .i64 ta, .int .i64 co, .int .i64 lf, .slice a1 n c1, .string x, .int .i64 0] 27)
    obtain ⟨WX, hWX⟩ : ∃ WX, WX = w3.alloc (.cells #[.int .i64 nu, .int .i64 ep, .bool true, .int .i64 0, .int .i64 le, .int .i64 ta, .int .i64 co, .int .i64 lf, .slice a1 n c1, .string x, .int .i64 0] 27) := ⟨_, rfl⟩
    have hX4 : CF WX w3.heap.size [.int .i64 nu, .int .i64 ep, .bool true, .int .i64 0, .int .i64 le, .int .i64 ta, .int .i64 co, .int .i64 lf, .slice a1 n c1, .string x, .int .i64 0] := by rw [hWX]; exact CF.made w3 #[.int .i64 nu, .int .i64 ep, .bool true, .int .i64 0, .int .i64 le, .int .i64 ta, .int .i64 co, .int .i64 lf, .slice a1 n c1, .string x, .int .i64 0] 27
    have hz4 : w3.heap.size < WX.heap.size := by rw [hWX]; simp
    rw [← hWX] at hR4 hB4 ho4
    rw [← hWX]
    clear hWX
    refine wp_region_held (S := fun w' => CF w' w3.heap.size [.int .i64 nu, .int .i64 ep, .bool true, .int .i64 0, .int .i64 le, .int .i64 ta, .int .i64 co, .int .i64 lf, .slice a1 n c1, .string x, .int .i64 0]) (by kernel_rfl) ?_
    change wpAnyH _ _ _ _ _ _ _ _ (World.drew _)
    have hXd : CF WX.drew w3.heap.size [.int .i64 nu, .int .i64 ep, .bool true, .int .i64 0, .int .i64 le, .int .i64 ta, .int .i64 co, .int .i64 lf, .slice a1 n c1, .string x, .int .i64 0] := hX4
    have hRd : CF WX.drew (w.heap.size + 2) zA := hR4
    have hBd := hB4.drew
    have hzd : w3.heap.size < WX.drew.heap.size := hz4
    refine hTake (i := 0) (d := some 80) (v := .agg #[.int .i64 nu, .int .i64 ep, .bool true, .int .i64 0, .int .i64 le, .int .i64 ta, .int .i64 co, .int .i64 lf, .slice a1 n c1, .string x, .int .i64 0]) (l' := #[true, false, false, false, false, false, false]) rfl (by kernel_rfl) (by kernel_rfl) (by kernel_rfl) (by kernel_rfl) (fun _ _ _ h => h) (by kernel_rfl) (fun _ hc => run_ldT 27 _ [.int .i64 nu, .int .i64 ep, .bool true, .int .i64 0, .int .i64 le, .int .i64 ta, .int .i64 co, .int .i64 lf, .slice a1 n c1, .string x, .int .i64 0] (.tmp 5) (by kernel_rfl) (by kernel_rfl) hc Try.underlying27 rfl Try.sizeWk) hXd (by kernel_rfl) ?_
    refine hTake (i := 1) (d := some 81) (v := .agg #[.int .i64 nu, .int .i64 ep, .bool true, .int .i64 0, .int .i64 le, .int .i64 ta, .int .i64 co, .int .i64 lf, .slice a1 n c1, .string x, .int .i64 0]) (l' := #[true, true, false, false, false, false, false]) rfl (by kernel_rfl) (by kernel_rfl) (by kernel_rfl) (by kernel_rfl) (fun _ _ _ h => h) (by kernel_rfl) (fun _ hc => run_ldT 27 _ [.int .i64 nu, .int .i64 ep, .bool true, .int .i64 0, .int .i64 le, .int .i64 ta, .int .i64 co, .int .i64 lf, .slice a1 n c1, .string x, .int .i64 0] (.tmp 5) (by kernel_rfl) (by kernel_rfl) hc Try.underlying27 rfl Try.sizeWk) hXd (by kernel_rfl) ?_
    refine hTake (i := 2) (d := some 82) (v := .int .i64 5) (l' := #[true, true, true, false, false, false, false]) rfl (by kernel_rfl) (by kernel_rfl) (by kernel_rfl) (by kernel_rfl) (fun _ _ _ h => h) (by kernel_rfl) (fun _ _ => run_mvT (.tmp 6) (by kernel_rfl) (by kernel_rfl)) hXd (by kernel_rfl) ?_
    refine hOne (by kernel_rfl) (hCall (i := 3) (d := some 83) (f := 48) (args := #[.agg #[.int .i64 nu, .int .i64 ep, .bool true, .int .i64 0, .int .i64 le, .int .i64 ta, .int .i64 co, .int .i64 lf, .slice a1 n c1, .string x, .int .i64 0], .int .i64 5]) (l' := #[true, true, true, true, false, false, false]) (R := fun v w' => v = .agg #[.int .i64 5, .int .i64 nu, .int .i64 0, .int .i64 ep, .int .i64 0, .int .i64 0, .string ⟨#[]⟩, .slice none 0 0] ∧ Below WX.drew.heap.size WX.drew w') rfl (by kernel_rfl) (by kernel_rfl) (by kernel_rfl) (run_cl2 _ _ _ rfl (by kernel_rfl) (by kernel_rfl) rfl enter_l3Says) ((l3Says_5 nu ep true 0 le ta co lf a1 n c1 x 0 _).mono fun _ _ ⟨he, hw⟩ => ⟨_, he, rfl, hw⟩) ?_)
    rintro _ w5 ⟨rfl, hb5⟩
    have hX5 := hXd.block (hb5.block _ hzd)
    have hR5 := hRd.block (hb5.block (w.heap.size + 2) (by omega))
    have hB5 := hBd.trans (hb5.mono hBd.size)
    have hz5 : w3.heap.size < w5.heap.size := by have := hb5.size; omega
    have hz5' : WX.heap.size ≤ w5.heap.size := hb5.size
    refine ⟨hX5, ?_⟩
    have hX6 := hX5.block (Below.heap_alloc w5 (.cells #[.int .i64 5, .int .i64 nu, .int .i64 0, .int .i64 ep, .int .i64 0, .int .i64 0, .string ⟨#[]⟩, .slice none 0 0] 75) _ hz5)
    have hR6 := hR5.block (Below.heap_alloc w5 (.cells #[.int .i64 5, .int .i64 nu, .int .i64 0, .int .i64 ep, .int .i64 0, .int .i64 0, .string ⟨#[]⟩, .slice none 0 0] 75) _ (by omega))
    have hB6 := hB5.alloc hB5.size (.cells #[.int .i64 5, .int .i64 nu, .int .i64 0, .int .i64 ep, .int .i64 0, .int .i64 0, .string ⟨#[]⟩, .slice none 0 0] 75)
    have hout : Own w.heap.size (w5.alloc (.cells #[.int .i64 5, .int .i64 nu, .int .i64 0, .int .i64 ep, .int .i64 0, .int .i64 0, .string ⟨#[]⟩, .slice none 0 0] 75)) 8 (.slice (some ⟨w5.heap.size, 0, none⟩) 1 1) 1 [.int .i64 5, .int .i64 nu, .int .i64 0, .int .i64 ep, .int .i64 0, .int .i64 0, .string ⟨#[]⟩, .slice none 0 0] := outOwn w5 w.heap.size ⟨5, nu, ep, 0, 0, ⟨#[]⟩⟩ (by omega)
    have hz6 : w.heap.size + 2 < (w5.alloc (.cells #[.int .i64 5, .int .i64 nu, .int .i64 0, .int .i64 ep, .int .i64 0, .int .i64 0, .string ⟨#[]⟩, .slice none 0 0] 75)).heap.size := by simp; omega
    refine hOne (by kernel_rfl) (hVal (i := 4) (d := some 84) (v := .slice (some ⟨w5.heap.size, 0, none⟩) 1 1) (w' := w5.alloc (.cells #[.int .i64 5, .int .i64 nu, .int .i64 0, .int .i64 ep, .int .i64 0, .int .i64 0, .string ⟨#[]⟩, .slice none 0 0] 75)) (l' := #[true, true, true, true, true, false, false]) rfl (by kernel_rfl) (by kernel_rfl) (by kernel_rfl) (run_bs1 (.tmp 83) 5 nu 0 ep 0 0 ⟨#[]⟩ (by kernel_rfl) (by kernel_rfl)) hX6 ?_)
    refine hTake (i := 5) (d := some 85) (v := .agg #[.int .i64 nu, .int .i64 ep, .bool true, .int .i64 0, .int .i64 le, .int .i64 ta, .int .i64 co, .int .i64 lf, .slice a1 n c1, .string x, .int .i64 0, .slice (some ⟨w5.heap.size, 0, none⟩) 1 1]) (l' := #[true, true, true, true, true, true, false]) rfl (by kernel_rfl) (by kernel_rfl) (by kernel_rfl) (by kernel_rfl) (fun _ _ _ h => h) (by kernel_rfl) (fun _ _ => run_bd (.tmp 80) (.tmp 84) nu ep true 0 le ta co lf a1 n c1 x 0 (some ⟨w5.heap.size, 0, none⟩) 1 1 (by kernel_rfl) (by kernel_rfl) (by kernel_rfl)) hX6 (by kernel_rfl) ?_
    obtain ⟨w10, hw10⟩ : ∃ w10, w10 = (w5.alloc (.cells #[.int .i64 5, .int .i64 nu, .int .i64 0, .int .i64 ep, .int .i64 0, .int .i64 0, .string ⟨#[]⟩, .slice none 0 0] 75)).setCells (w.heap.size + 2) 0 [.int .i64 nu, .int .i64 ep, .bool true, .int .i64 0, .int .i64 le, .int .i64 ta, .int .i64 co, .int .i64 lf, .slice a1 n c1, .string x, .int .i64 0, .slice (some ⟨w5.heap.size, 0, none⟩) 1 1] := ⟨_, rfl⟩
    have hc10 : CF w10 (w.heap.size + 2) [.int .i64 nu, .int .i64 ep, .bool true, .int .i64 0, .int .i64 le, .int .i64 ta, .int .i64 co, .int .i64 lf, .slice a1 n c1, .string x, .int .i64 0, .slice (some ⟨w5.heap.size, 0, none⟩) 1 1] := by rw [hw10]; exact hR6.stored rfl
    have hg10 : (w5.alloc (.cells #[.int .i64 5, .int .i64 nu, .int .i64 0, .int .i64 ep, .int .i64 0, .int .i64 0, .string ⟨#[]⟩, .slice none 0 0] 75)).grownBy w10 (some (w.heap.size + 2)) := by rw [hw10]; exact grown_setCells _ _ _ _ _ (World.grownBy.refl _ _)
    have hX10 := hX6.block (hg10.block w3.heap.size (by simp; omega) (by simp; omega))
    refine hOne (by kernel_rfl) (hSkip (i := 6) (w' := w10) (l' := #[true, true, true, true, true, true, true]) rfl (by kernel_rfl) (by kernel_rfl) (by kernel_rfl) (by rw [hw10]; exact run_stT 39 zA [.int .i64 nu, .int .i64 ep, .bool true, .int .i64 0, .int .i64 le, .int .i64 ta, .int .i64 co, .int .i64 lf, .slice a1 n c1, .string x, .int .i64 0, .slice (some ⟨w5.heap.size, 0, none⟩) 1 1] (.tmp 4) (.tmp 85) (by kernel_rfl) (by kernel_rfl) (by kernel_rfl) hR6 rfl Try.sizeAc (one12 _ _ _ _ _ _ _ _ _ _ _ _ _ _ _ _)) hX10 ?_)
    have kk0 : w10.cell? ⟨w.heap.size + 2, 0, none⟩ = some (.int .i64 nu) := (hc10 0 (by simp)).1
    have kk1 : w10.cell? ⟨w.heap.size + 2, 1, none⟩ = some (.int .i64 ep) := (hc10 1 (by simp)).1
    have kk2 : w10.cell? ⟨w.heap.size + 2, 2, none⟩ = some (.bool true) := (hc10 2 (by simp)).1
    have kk3 : w10.cell? ⟨w.heap.size + 2, 3, none⟩ = some (.int .i64 0) := (hc10 3 (by simp)).1
    have kk4 : w10.cell? ⟨w.heap.size + 2, 4, none⟩ = some (.int .i64 le) := (hc10 4 (by simp)).1
    have kk5 : w10.cell? ⟨w.heap.size + 2, 5, none⟩ = some (.int .i64 ta) := (hc10 5 (by simp)).1
    have kk6 : w10.cell? ⟨w.heap.size + 2, 6, none⟩ = some (.int .i64 co) := (hc10 6 (by simp)).1
    have kk7 : w10.cell? ⟨w.heap.size + 2, 7, none⟩ = some (.int .i64 lf) := (hc10 7 (by simp)).1
    have kk8 : w10.cell? ⟨w.heap.size + 2, 8, none⟩ = some (.slice a1 n c1) := (hc10 8 (by simp)).1
    have kk9 : w10.cell? ⟨w.heap.size + 2, 9, none⟩ = some (.string x) := (hc10 9 (by simp)).1
    have kk10 : w10.cell? ⟨w.heap.size + 2, 10, none⟩ = some (.int .i64 0) := (hc10 10 (by simp)).1
    have kk11 : w10.cell? ⟨w.heap.size + 2, 11, none⟩ = some (.slice (some ⟨w5.heap.size, 0, none⟩) 1 1) := (hc10 11 (by simp)).1
    refine wpAnyH_done (by kernel_rfl) ?_ _
    go_wp2
    refine bodyPost_ret (v := .agg #[.int .i64 nu, .int .i64 ep, .bool true, .int .i64 0, .int .i64 le, .int .i64 ta, .int .i64 co, .int .i64 lf, .slice a1 n c1, .string x, .int .i64 0, .slice (some ⟨w5.heap.size, 0, none⟩) 1 1]) (by simp [results, Try.results19, go_sem, kk0, kk1, kk2, kk3, kk4, kk5, kk6, kk7, kk8, kk9, kk10, kk11]) rfl ⟨⟨⟨nu, ep, true, 0, le, ta, co, lf, ss, x, 0⟩, some ⟨5, nu, ep, 0, 0, ⟨#[]⟩⟩, a1, c1, .slice (some ⟨w5.heap.size, 0, none⟩) 1 1, ?_, ?_, ?_, ?_, .inl ⟨HV.out, HCD.out, ?_⟩⟩, ?_⟩
    · exact (by simp only [hlen.out])
    · exact (by rw [hlen.out]; exact (((ho4.drewW.below hb5 (Nat.le_refl _)).alloc _).grown hg10 (.inr (by intro hh; have := ho3.row_lo _ hh; omega))).mono' (by omega))
    · exact hout.grown hg10 (.inr (by intro hh; have : w5.heap.size = w.heap.size + 2 := Option.some.inj hh; omega))
    · rw [hlen.out]; exact dis_of (fun q hq hh => by have := ho3.row_hi q hq; have : q = w5.heap.size := Option.some.inj hh; omega)
    · exact HT.out
    · exact below_grown hB6 hg10 (by omega) (fun q hq => by simp at hq; omega)
end Go.Proofs.Ytlpmcjlcmjlbeaa
