import Derived.Test.YtlpmcjlcmjlbeaaQTk4
namespace Go.Proofs.Ytlpmcjlcmjlbeaa
open Go.RowKit

set_option maxHeartbeats 8000000 in
set_option maxRecDepth 100000 in
theorem iTick_dt (nu ep : Int) (le ta co : Int) (a : Option Addr) (b o n c : Nat) (ss : List ByteArray) (x : ByteArray) (si : Int) (pa : Option Addr) (pb po pn pc : Nat) (ts : List TaskD) (w : World) (h : StrsAt w a b o n ss) (hp : TasksAt w pa pb po pn ts) (hs : si < 1000000) (hok : (⟨nu, ep, true, 1, le, ta, co, 1, ss, x, si⟩ : WD).ok) (hcode : Code ts 0) :
    Calls Try.prog 51 #[.agg #[.int .i64 nu, .int .i64 ep, .bool true, .int .i64 1, .int .i64 le, .int .i64 ta, .int .i64 co, .int .i64 1, .slice a n c, .string x, .int .i64 si], .agg #[.slice pa pn pc]] w fun e w' => RetA e w.heap.size w' (tickR (⟨nu, ep, true, 1, le, ta, co, 1, ss, x, si⟩ : WD) ts) ∧ Below w.heap.size w w' := by
  obtain ⟨w2, hW⟩ : ∃ w2, w2 = ((w.alloc (.cells #[.int .i64 nu, .int .i64 ep, .bool true, .int .i64 1, .int .i64 le, .int .i64 ta, .int .i64 co, .int .i64 1, .slice a n c, .string x, .int .i64 si] 27)).alloc (.cells #[.slice pa pn pc] 43)).alloc (.cells zA.toArray 39) := ⟨_, rfl⟩
  have hbW : Below w.heap.size w w2 := by rw [hW]; exact (((Below.refl _ _).alloc (Nat.le_refl _) _).alloc (by simp) _).alloc (by simp; omega) _
  have hsW : w2.heap.size = w.heap.size + 3 := by rw [hW]; simp
  have hP : CF w2 w.heap.size [.int .i64 nu, .int .i64 ep, .bool true, .int .i64 1, .int .i64 le, .int .i64 ta, .int .i64 co, .int .i64 1, .slice a n c, .string x, .int .i64 si] := by
    rw [hW]; exact ((CF.made w #[.int .i64 nu, .int .i64 ep, .bool true, .int .i64 1, .int .i64 le, .int .i64 ta, .int .i64 co, .int .i64 1, .slice a n c, .string x, .int .i64 si] 27).block (Below.heap_alloc _ _ _ (by simp))).block (Below.heap_alloc _ _ _ (by simp; omega))
  have hL : CF w2 (w.heap.size + 1) [.slice pa pn pc] := by
    rw [hW]
    have := (CF.made (w.alloc (.cells #[.int .i64 nu, .int .i64 ep, .bool true, .int .i64 1, .int .i64 le, .int .i64 ta, .int .i64 co, .int .i64 1, .slice a n c, .string x, .int .i64 si] 27)) #[.slice pa pn pc] 43).block (Below.heap_alloc ((w.alloc (.cells #[.int .i64 nu, .int .i64 ep, .bool true, .int .i64 1, .int .i64 le, .int .i64 ta, .int .i64 co, .int .i64 1, .slice a n c, .string x, .int .i64 si] 27)).alloc (.cells #[.slice pa pn pc] 43)) (.cells zA.toArray 39) _ (by simp))
    simpa using this
  have hR : CF w2 (w.heap.size + 2) zA := by
    rw [hW]
    have := CF.made ((w.alloc (.cells #[.int .i64 nu, .int .i64 ep, .bool true, .int .i64 1, .int .i64 le, .int .i64 ta, .int .i64 co, .int .i64 1, .slice a n c, .string x, .int .i64 si] 27)).alloc (.cells #[.slice pa pn pc] 43)) zA.toArray 39
    simpa using this
  have hlen := hid h.len
  have hplen := hid hp.len
  simp only [zA] at hW
  have HW := hid hW
  clear hW
  go_enter Try.func51, Try.ntmps51
  go_upto_region 1 with fail
  rw [← HW.out]
  clear HW
  have HV := hid hok
  have v5 : (0 : Int) ≤ si := hok.2.2.2.2.1
  have q4 : 0 ≤ ta := ((vW1 _ _ _ _ _ _ _ _ _ _).1 hok).2.2.2.1
  have q5 : ta ≤ 39 := ((vW1 _ _ _ _ _ _ _ _ _ _).1 hok).2.2.2.2.1
  obtain ⟨vt, hvt⟩ : ∃ vt, vt = valS (tnm ts ta) ss := ⟨_, rfl⟩
  have HWK : Hid (∀ w1 : World, StrsAt w1 a b o n ss → TasksAt w1 pa pb po pn ts → Calls Try.prog 65 #[.iface 85 (.agg #[.int .i64 le, .int .i64 ta, .int .i64 co, .int .i64 1, .slice a n c]), .agg #[.slice pa pn pc]] w1 fun e w' => e = .returned (.tuple #[.iface 87 (.agg #[.int .i64 le, .int .i64 ta, .string vt]), .bool true]) ∧ Below w1.heap.size w1 w') := fun w1 h1 h2 => by rw [hvt]; exact workedOn_d le ta co a b o n c ss pa pb po pn pc ts w1 h1 h2 hcode q4 q5
  clear q4 q5
  have HT : Hid (((⟨nu, ep, true, 2, le, ta, 0, 0, [], vt, 0⟩ : WD), some (⟨3, nu, ep, le, ta, vt⟩ : OM)) = tickV ⟨nu, ep, true, 1, le, ta, co, 1, ss, x, si⟩ (tnm ts ta)) := by rw [hvt, tick_1d]; exact rfl
  clear hvt
  have HCD := hid hcode
  clear hok hcode
  have hn8 : n ≤ 8 := by have := (WD.ok.small HV.out).1; rw [hlen.out] at this; exact this
  have hP2 := hP
  have hL2 := hL
  have hR2 := hR
  have hB2 := hbW
  have hz2 : w.heap.size + 3 ≤ w2.heap.size := by omega
  clear hP hL hR hbW hsW
  have hw2 := h.below' hB2
  have y0 : w2.cell? ⟨w.heap.size, 0, none⟩ = some (.int .i64 nu) := (hP2 0 (by simp)).1
  have y1 : w2.cell? ⟨w.heap.size, 1, none⟩ = some (.int .i64 ep) := (hP2 1 (by simp)).1
  have y2 : w2.cell? ⟨w.heap.size, 2, none⟩ = some (.bool true) := (hP2 2 (by simp)).1
  have y3 : w2.cell? ⟨w.heap.size, 3, none⟩ = some (.int .i64 1) := (hP2 3 (by simp)).1
  have y4 : w2.cell? ⟨w.heap.size, 4, none⟩ = some (.int .i64 le) := (hP2 4 (by simp)).1
  have y5 : w2.cell? ⟨w.heap.size, 5, none⟩ = some (.int .i64 ta) := (hP2 5 (by simp)).1
  have y6 : w2.cell? ⟨w.heap.size, 6, none⟩ = some (.int .i64 co) := (hP2 6 (by simp)).1
  have y7 : w2.cell? ⟨w.heap.size, 7, none⟩ = some (.int .i64 1) := (hP2 7 (by simp)).1
  have y8 : w2.cell? ⟨w.heap.size, 8, none⟩ = some (.slice a n c) := (hP2 8 (by simp)).1
  have y9 : w2.cell? ⟨w.heap.size, 9, none⟩ = some (.string x) := (hP2 9 (by simp)).1
  have y10 : w2.cell? ⟨w.heap.size, 10, none⟩ = some (.int .i64 si) := (hP2 10 (by simp)).1
  go_upto_region 2 with (go_at_call 32; refine (stateOf_1 nu ep true le ta co 1 a n c x si _).mono ?_; rintro e w' ⟨rfl, rfl⟩)
  clear y0 y1 y2 y3 y4 y5 y6 y7 y8 y9 y10
  have hP3 := hP2.block (Below.heap_alloc w2 (.cells #[.int .i64 nu, .int .i64 ep, .bool true, .int .i64 1, .int .i64 le, .int .i64 ta, .int .i64 co, .int .i64 1, .slice a n c, .string x, .int .i64 si] 27) _ (by omega))
  have hL3 := hL2.block (Below.heap_alloc w2 (.cells #[.int .i64 nu, .int .i64 ep, .bool true, .int .i64 1, .int .i64 le, .int .i64 ta, .int .i64 co, .int .i64 1, .slice a n c, .string x, .int .i64 si] 27) _ (by omega))
  have hR3 := hR2.block (Below.heap_alloc w2 (.cells #[.int .i64 nu, .int .i64 ep, .bool true, .int .i64 1, .int .i64 le, .int .i64 ta, .int .i64 co, .int .i64 1, .slice a n c, .string x, .int .i64 si] 27) _ (by omega))
  have hB3 := hB2.alloc hB2.size (.cells #[.int .i64 nu, .int .i64 ep, .bool true, .int .i64 1, .int .i64 le, .int .i64 ta, .int .i64 co, .int .i64 1, .slice a n c, .string x, .int .i64 si] 27)
  have hz3 : w.heap.size + 3 ≤ (w2.alloc (.cells #[.int .i64 nu, .int .i64 ep, .bool true, .int .i64 1, .int .i64 le, .int .i64 ta, .int .i64 co, .int .i64 1, .slice a n c, .string x, .int .i64 si] 27)).heap.size := by simp; omega
  obtain ⟨w3, hw3⟩ : ∃ w3, w3 = w2.alloc (.cells #[.int .i64 nu, .int .i64 ep, .bool true, .int .i64 1, .int .i64 le, .int .i64 ta, .int .i64 co, .int .i64 1, .slice a n c, .string x, .int .i64 si] 27) := ⟨_, rfl⟩
  rw [← hw3] at hP3 hL3 hR3 hB3 hz3
  rw [← hw3]
  clear hw3 hP2 hL2 hR2 hB2 hz2 hw2
  have y2 : w3.cell? ⟨w.heap.size, 2, none⟩ = some (.bool true) := (hP3 2 (by simp)).1
  have zz : w3.cell? ⟨w.heap.size, 10, none⟩ = some (.int .i64 si) := (hP3 10 (by simp)).1
  have ff : w3.frozen? ⟨w.heap.size, 10, none⟩ = false := (hP3 10 (by simp)).2
  go_upto_region 5 with fail
  clear zz ff
  have hP4 := hP3.set (j := 10) (by simp) (.int .i64 (si + 1))
  simp only [List.set_cons_zero, List.set_cons_succ] at hP4
  have hL4 := hL3.block (Below.heap_setCell w3 (⟨w.heap.size, 10, none⟩ : Addr) (.int .i64 (si + 1)) (w.heap.size + 1) (by dsimp only; omega))
  have hR4 := hR3.block (Below.heap_setCell w3 (⟨w.heap.size, 10, none⟩ : Addr) (.int .i64 (si + 1)) (w.heap.size + 2) (by dsimp only; omega))
  have hB4 := hB3.setCell (p := ⟨w.heap.size, 10, none⟩) (by dsimp only; omega) (.int .i64 (si + 1))
  have hz4 : w.heap.size + 3 ≤ (w3.setCell ⟨w.heap.size, 10, none⟩ (.int .i64 (si + 1))).heap.size := by simpa [World.setCell] using hz3
  obtain ⟨w4, hw4⟩ : ∃ w4, w4 = w3.setCell ⟨w.heap.size, 10, none⟩ (.int .i64 (si + 1)) := ⟨_, rfl⟩
  rw [← hw4] at hP4 hL4 hR4 hB4 hz4
  rw [← hw4]
  clear hw4 hP3 hL3 hR3 hB3
  clear y2 hs v5
  have kp : w4.cell? ⟨w.heap.size + 1, 0, none⟩ = some (.slice pa pn pc) := (hL4 0 (by simp)).1
  go_upto_region 6 with (go_at_call 65; refine (HWK.out _ (h.below' hB4) (hp.below' hB4)).mono ?_; rintro e w5 ⟨rfl, hb5⟩; have hP5 := hP4.block (hb5.block w.heap.size (by omega)); have hR5 := hR4.block (hb5.block (w.heap.size + 2) (by omega)); have hB5 := hB4.trans (hb5.mono hB4.size); have hz5 : w.heap.size + 3 ≤ w5.heap.size := (by have := hb5.size; omega); clear hP4 hR4 hB4 hL4 kp hb5)
  refine wp_region_held (S := fun w' => CF w' w.heap.size [.int .i64 nu, .int .i64 ep, .bool true, .int .i64 1, .int .i64 le, .int .i64 ta, .int .i64 co, .int .i64 1, .slice a n c, .string x, .int .i64 (si + 1)]) (by kernel_rfl) ?_
  change wpAnyH _ _ _ _ _ _ _ _ (World.drew _)
  have hPd : CF w5.drew w.heap.size [.int .i64 nu, .int .i64 ep, .bool true, .int .i64 1, .int .i64 le, .int .i64 ta, .int .i64 co, .int .i64 1, .slice a n c, .string x, .int .i64 (si + 1)] := hP5
  refine hTake (i := 0) (d := some 28) (v := .bool true) (l' := #[true, false, false, false, false, false, false, false, false]) rfl (by kernel_rfl) (by kernel_rfl) (by kernel_rfl) (by kernel_rfl) (fun _ _ _ h => h) (by kernel_rfl) (fun _ hc => run_mvT (.tmp 6) (by kernel_rfl) (by kernel_rfl)) hPd (by kernel_rfl) ?_
  refine hTake (i := 1) (d := some 29) (v := .bool false) (l' := #[true, true, false, false, false, false, false, false, false]) rfl (by kernel_rfl) (by kernel_rfl) (by kernel_rfl) (by kernel_rfl) (fun _ _ _ h => h) (by kernel_rfl) (fun _ hc => run_not (.tmp 28) true (by kernel_rfl) (by kernel_rfl)) hPd (by kernel_rfl) ?_
  refine hTake (i := 2) (d := some 30) (v := .bool false) (l' := #[true, true, true, false, false, false, false, false, false]) rfl (by kernel_rfl) (by kernel_rfl) (by kernel_rfl) (by kernel_rfl) (fun _ _ _ h => h) (by kernel_rfl) (fun _ hc => run_mvT (.tmp 29) (by kernel_rfl) (by kernel_rfl)) hPd (by kernel_rfl) ?_
  refine hTakeN (i := 3) (d := some 31) (l' := #[true, true, true, true, false, false, false, false, false]) rfl (by kernel_rfl) (by kernel_rfl) (by kernel_rfl) (by kernel_rfl) (fun _ _ _ h => h) (by kernel_rfl) hPd (by kernel_rfl) ?_
  refine hTakeN (i := 4) (d := some 32) (l' := #[true, true, true, true, true, false, false, false, false]) rfl (by kernel_rfl) (by kernel_rfl) (by kernel_rfl) (by kernel_rfl) (fun _ _ _ h => h) (by kernel_rfl) hPd (by kernel_rfl) ?_
  refine hTakeN (i := 5) (d := some 33) (l' := #[true, true, true, true, true, true, false, false, false]) rfl (by kernel_rfl) (by kernel_rfl) (by kernel_rfl) (by kernel_rfl) (fun _ _ _ h => h) (by kernel_rfl) hPd (by kernel_rfl) ?_
  refine hTakeN (i := 6) (d := some 34) (l' := #[true, true, true, true, true, true, true, false, false]) rfl (by kernel_rfl) (by kernel_rfl) (by kernel_rfl) (by kernel_rfl) (fun _ _ _ h => h) (by kernel_rfl) hPd (by kernel_rfl) ?_
  refine hTakeN (i := 7) (d := some 35) (l' := #[true, true, true, true, true, true, true, true, false]) rfl (by kernel_rfl) (by kernel_rfl) (by kernel_rfl) (by kernel_rfl) (fun _ _ _ h => h) (by kernel_rfl) hPd (by kernel_rfl) ?_
  refine hTake (i := 8) (d := some 36) (v := .bool false) (l' := #[true, true, true, true, true, true, true, true, true]) rfl (by kernel_rfl) (by kernel_rfl) (by kernel_rfl) (by kernel_rfl) (fun _ _ _ h => h) (by kernel_rfl) (fun _ hc => run_pkf (.tmp 30) (.tmp 35) (.const (.bool false)) _ (by kernel_rfl) (by kernel_rfl) (by kernel_rfl)) hPd (by kernel_rfl) ?_
  refine wpAnyH_done (by kernel_rfl) ?_ _
  have hR6 : CF w5.drew (w.heap.size + 2) zA := hR5
  have hB6 := hB5.drew
  have hz6 : w.heap.size + 3 ≤ w5.drew.heap.size := hz5
  have hP6 := hPd
  obtain ⟨w6, hw6⟩ : ∃ w6, w6 = w5.drew := ⟨_, rfl⟩
  rw [← hw6] at hR6 hB6 hz6 hP6
  rw [← hw6]
  clear hw6 hP5 hR5 hB5 hPd
  go_simp
  go_upto_region 8 with fail
  have zz : w6.cell? ⟨w.heap.size, 10, none⟩ = some (.int .i64 (si + 1)) := (hP6 10 (by simp)).1
  have ff : w6.frozen? ⟨w.heap.size, 10, none⟩ = false := (hP6 10 (by simp)).2
  go_upto_region 9 with fail
  clear zz ff
  have hP7 := hP6.set (j := 10) (by simp) (.int .i64 0)
  simp only [List.set_cons_zero, List.set_cons_succ] at hP7
  have hR7 := hR6.block (Below.heap_setCell w6 (⟨w.heap.size, 10, none⟩ : Addr) (.int .i64 0) (w.heap.size + 2) (by dsimp only; omega))
  have hB7 := hB6.setCell (p := ⟨w.heap.size, 10, none⟩) (by dsimp only; omega) (.int .i64 0)
  have hz7 : w.heap.size + 3 ≤ (w6.setCell ⟨w.heap.size, 10, none⟩ (.int .i64 0)).heap.size := by simpa [World.setCell] using hz6
  obtain ⟨w7x, hw7x⟩ : ∃ w7x, w7x = w6.setCell ⟨w.heap.size, 10, none⟩ (.int .i64 0) := ⟨_, rfl⟩
  rw [← hw7x] at hP7 hR7 hB7 hz7
  rw [← hw7x]
  clear hw7x hP6 hR6 hB6
  go_upto_region 10 with (go_at_call 103; refine (tells_2 _ _ _ _).mono ?_; rintro e w8 ⟨rfl, hb8⟩; have hP8 := hP7.block (hb8.block w.heap.size (by omega)); have hR8 := hR7.block (hb8.block (w.heap.size + 2) (by omega)); have hB8 := hB7.trans (hb8.mono hB7.size); have hz8 : w.heap.size + 3 ≤ w8.heap.size := (by have := hb8.size; omega); clear hP7 hR7 hB7 hb8)
  have y0 : w8.cell? ⟨w.heap.size, 0, none⟩ = some (.int .i64 nu) := (hP8 0 (by simp)).1
  have y1 : w8.cell? ⟨w.heap.size, 1, none⟩ = some (.int .i64 ep) := (hP8 1 (by simp)).1
  have hl8 : w.heap.size < w8.heap.size := by omega
  go_region
  clear y0 y1
  have hP9 := hP8.block (Below.heap_alloc w8 (.cells #[.int .i64 3, .int .i64 nu, .int .i64 0, .int .i64 ep, .int .i64 le, .int .i64 ta, .string vt, .slice none 0 0] 75) _ hl8)
  have hR9 := hR8.block (Below.heap_alloc w8 (.cells #[.int .i64 3, .int .i64 nu, .int .i64 0, .int .i64 ep, .int .i64 le, .int .i64 ta, .string vt, .slice none 0 0] 75) _ (by omega))
  have hB9 := hB8.alloc hB8.size (.cells #[.int .i64 3, .int .i64 nu, .int .i64 0, .int .i64 ep, .int .i64 le, .int .i64 ta, .string vt, .slice none 0 0] 75)
  have hM9 := CF.made w8 #[.int .i64 3, .int .i64 nu, .int .i64 0, .int .i64 ep, .int .i64 le, .int .i64 ta, .string vt, .slice none 0 0] 75
  have hz9 : w8.heap.size + 1 ≤ (w8.alloc (.cells #[.int .i64 3, .int .i64 nu, .int .i64 0, .int .i64 ep, .int .i64 le, .int .i64 ta, .string vt, .slice none 0 0] 75)).heap.size := by simp
  obtain ⟨w9, hw9⟩ : ∃ w9, w9 = w8.alloc (.cells #[.int .i64 3, .int .i64 nu, .int .i64 0, .int .i64 ep, .int .i64 le, .int .i64 ta, .string vt, .slice none 0 0] 75) := ⟨_, rfl⟩
  rw [← hw9] at hP9 hR9 hB9 hM9 hz9
  rw [← hw9]
  clear hw9 hP8 hR8 hB8
  go_upto_region 11 with fail
  refine wp_region_held (S := fun w' => CF w' w.heap.size [.int .i64 nu, .int .i64 ep, .bool true, .int .i64 1, .int .i64 le, .int .i64 ta, .int .i64 co, .int .i64 1, .slice a n c, .string x, .int .i64 0] ∧ CF w' w8.heap.size [.int .i64 3, .int .i64 nu, .int .i64 0, .int .i64 ep, .int .i64 le, .int .i64 ta, .string vt, .slice none 0 0]) (by kernel_rfl) ?_
  change wpAnyH _ _ _ _ _ _ _ _ (World.drew _)
  have hPd : CF w9.drew.drew w.heap.size [.int .i64 nu, .int .i64 ep, .bool true, .int .i64 1, .int .i64 le, .int .i64 ta, .int .i64 co, .int .i64 1, .slice a n c, .string x, .int .i64 0] := hP9
  have hMd : CF w9.drew.drew w8.heap.size [.int .i64 3, .int .i64 nu, .int .i64 0, .int .i64 ep, .int .i64 le, .int .i64 ta, .string vt, .slice none 0 0] := hM9
  have hRd : CF w9.drew.drew (w.heap.size + 2) zA := hR9
  have hBd : Below w.heap.size w w9.drew.drew := hB9.drew.drew
  have hzd : w8.heap.size + 1 ≤ w9.drew.drew.heap.size := hz9
  obtain ⟨wd, hwd⟩ : ∃ wd, wd = w9.drew.drew := ⟨_, rfl⟩
  rw [← hwd] at hPd hMd hRd hBd hzd
  rw [← hwd]
  clear hwd hP9 hM9 hR9 hB9 hz9
  refine hTake (i := 0) (d := some 50) (v := .agg #[.int .i64 nu, .int .i64 ep, .bool true, .int .i64 1, .int .i64 le, .int .i64 ta, .int .i64 co, .int .i64 1, .slice a n c, .string x, .int .i64 0]) (l' := #[true, false, false, false, false, false, false]) rfl (by kernel_rfl) (by kernel_rfl) (by kernel_rfl) (by kernel_rfl) (fun _ _ _ h => h) (by kernel_rfl) (fun _ hc => run_ldT 27 _ [.int .i64 nu, .int .i64 ep, .bool true, .int .i64 1, .int .i64 le, .int .i64 ta, .int .i64 co, .int .i64 1, .slice a n c, .string x, .int .i64 0] (.tmp 2) (by kernel_rfl) (by kernel_rfl) hc.1 Try.underlying27 rfl Try.sizeWk) ⟨hPd, hMd⟩ (by kernel_rfl) ?_
  refine hTake (i := 1) (d := some 51) (v := .iface 87 (.agg #[.int .i64 le, .int .i64 ta, .string vt])) (l' := #[true, true, false, false, false, false, false]) rfl (by kernel_rfl) (by kernel_rfl) (by kernel_rfl) (by kernel_rfl) (fun _ _ _ h => h) (by kernel_rfl) (fun _ hc => run_mvT (.tmp 5) (by kernel_rfl) (by kernel_rfl)) ⟨hPd, hMd⟩ (by kernel_rfl) ?_
  refine hTake (i := 3) (d := some 53) (v := .agg #[.int .i64 3, .int .i64 nu, .int .i64 0, .int .i64 ep, .int .i64 le, .int .i64 ta, .string vt, .slice none 0 0]) (l' := #[true, true, false, true, false, false, false]) rfl (by kernel_rfl) (by kernel_rfl) (by kernel_rfl) (by kernel_rfl) (fun _ _ _ h => h) (by kernel_rfl) (fun _ hc => run_ldT 75 _ [.int .i64 3, .int .i64 nu, .int .i64 0, .int .i64 ep, .int .i64 le, .int .i64 ta, .string vt, .slice none 0 0] (.tmp 7) (by kernel_rfl) (by kernel_rfl) hc.2 Try.underlying75 rfl Try.sizeMs) ⟨hPd, hMd⟩ (by kernel_rfl) ?_
  refine hTwo (i := 2) (j := 4) (by kernel_rfl) (hCall (i := 2) (d := some 52) (f := 44) (args := #[.agg #[.int .i64 nu, .int .i64 ep, .bool true, .int .i64 1, .int .i64 le, .int .i64 ta, .int .i64 co, .int .i64 1, .slice a n c, .string x, .int .i64 0], .iface 87 (.agg #[.int .i64 le, .int .i64 ta, .string vt])]) (l' := #[true, true, true, true, false, false, false]) (R := fun v w' => v = .agg #[.int .i64 nu, .int .i64 ep, .bool true, .int .i64 2, .int .i64 le, .int .i64 ta, .int .i64 0, .int .i64 0, .slice none 0 0, .string vt, .int .i64 0] ∧ Below wd.heap.size wd w') rfl (by kernel_rfl) (by kernel_rfl) (by kernel_rfl) (run_cl2 _ _ _ rfl (by kernel_rfl) (by kernel_rfl) rfl enter_inS) ((inState_2 nu ep true 1 le ta co 1 a n c x 0 le ta vt _).mono fun _ _ ⟨he, hw⟩ => ⟨_, he, rfl, hw⟩) ?_) (hVal (i := 4) (d := some 54) (v := .slice (some ⟨wd.heap.size, 0, none⟩) 1 1) (w' := wd.alloc (.cells #[.int .i64 3, .int .i64 nu, .int .i64 0, .int .i64 ep, .int .i64 le, .int .i64 ta, .string vt, .slice none 0 0] 75)) (l' := #[true, true, false, true, true, false, false]) rfl (by kernel_rfl) (by kernel_rfl) (by kernel_rfl) (run_bs1 (.tmp 53) 3 nu 0 ep le ta vt (by kernel_rfl) (by kernel_rfl))  ⟨hPd.block (Below.heap_alloc wd (.cells #[.int .i64 3, .int .i64 nu, .int .i64 0, .int .i64 ep, .int .i64 le, .int .i64 ta, .string vt, .slice none 0 0] 75) _ (by omega)), hMd.block (Below.heap_alloc wd (.cells #[.int .i64 3, .int .i64 nu, .int .i64 0, .int .i64 ep, .int .i64 le, .int .i64 ta, .string vt, .slice none 0 0] 75) _ (by omega))⟩ ?_)
  · rintro _ w10 ⟨rfl, hb10⟩
    have hP10 := hPd.block (hb10.block w.heap.size (by omega))
    have hM10 := hMd.block (hb10.block w8.heap.size (by omega))
    have hR10 := hRd.block (hb10.block (w.heap.size + 2) (by omega))
    have hB10 := hBd.trans (hb10.mono hBd.size)
    have hz10 : w8.heap.size + 1 ≤ w10.heap.size := by have := hb10.size; omega
    refine ⟨⟨hP10, hM10⟩, ?_⟩
    have hP11 := hP10.block (Below.heap_alloc w10 (.cells #[.int .i64 3, .int .i64 nu, .int .i64 0, .int .i64 ep, .int .i64 le, .int .i64 ta, .string vt, .slice none 0 0] 75) _ (by omega))
    have hM11 := hM10.block (Below.heap_alloc w10 (.cells #[.int .i64 3, .int .i64 nu, .int .i64 0, .int .i64 ep, .int .i64 le, .int .i64 ta, .string vt, .slice none 0 0] 75) _ (by omega))
    have hR11 := hR10.block (Below.heap_alloc w10 (.cells #[.int .i64 3, .int .i64 nu, .int .i64 0, .int .i64 ep, .int .i64 le, .int .i64 ta, .string vt, .slice none 0 0] 75) _ (by omega))
    have hB11 := hB10.alloc hB10.size (.cells #[.int .i64 3, .int .i64 nu, .int .i64 0, .int .i64 ep, .int .i64 le, .int .i64 ta, .string vt, .slice none 0 0] 75)
    have hz11 : w8.heap.size + 2 ≤ (w10.alloc (.cells #[.int .i64 3, .int .i64 nu, .int .i64 0, .int .i64 ep, .int .i64 le, .int .i64 ta, .string vt, .slice none 0 0] 75)).heap.size := by simp; omega
    have hout : Own w.heap.size (w10.alloc (.cells #[.int .i64 3, .int .i64 nu, .int .i64 0, .int .i64 ep, .int .i64 le, .int .i64 ta, .string vt, .slice none 0 0] 75)) 8 (.slice (some ⟨w10.heap.size, 0, none⟩) 1 1) 1 [.int .i64 3, .int .i64 nu, .int .i64 0, .int .i64 ep, .int .i64 le, .int .i64 ta, .string vt, .slice none 0 0] := outOwn w10 w.heap.size ⟨3, nu, ep, le, ta, vt⟩ (by omega)
    refine hOne (by kernel_rfl) (hVal (i := 4) (d := some 54) (v := .slice (some ⟨w10.heap.size, 0, none⟩) 1 1) (w' := w10.alloc (.cells #[.int .i64 3, .int .i64 nu, .int .i64 0, .int .i64 ep, .int .i64 le, .int .i64 ta, .string vt, .slice none 0 0] 75)) (l' := #[true, true, true, true, true, false, false]) rfl (by kernel_rfl) (by kernel_rfl) (by kernel_rfl) (run_bs1 (.tmp 53) 3 nu 0 ep le ta vt (by kernel_rfl) (by kernel_rfl))  ⟨hP11, hM11⟩ ?_)
    refine hTake (i := 5) (d := some 55) (v := .agg #[.int .i64 nu, .int .i64 ep, .bool true, .int .i64 2, .int .i64 le, .int .i64 ta, .int .i64 0, .int .i64 0, .slice none 0 0, .string vt, .int .i64 0, .slice (some ⟨w10.heap.size, 0, none⟩) 1 1]) (l' := #[true, true, true, true, true, true, false]) rfl (by kernel_rfl) (by kernel_rfl) (by kernel_rfl) (by kernel_rfl) (fun _ _ _ h => h) (by kernel_rfl) (fun _ hc => run_bd (.tmp 52) (.tmp 54) nu ep true 2 le ta 0 0 none 0 0 vt 0 (some ⟨w10.heap.size, 0, none⟩) 1 1 (by kernel_rfl) (by kernel_rfl) (by kernel_rfl)) ⟨hP11, hM11⟩ (by kernel_rfl) ?_
    obtain ⟨w20, hw20⟩ : ∃ w20, w20 = (w10.alloc (.cells #[.int .i64 3, .int .i64 nu, .int .i64 0, .int .i64 ep, .int .i64 le, .int .i64 ta, .string vt, .slice none 0 0] 75)).setCells (w.heap.size + 2) 0 [.int .i64 nu, .int .i64 ep, .bool true, .int .i64 2, .int .i64 le, .int .i64 ta, .int .i64 0, .int .i64 0, .slice none 0 0, .string vt, .int .i64 0, .slice (some ⟨w10.heap.size, 0, none⟩) 1 1] := ⟨_, rfl⟩
    have hc20 : CF w20 (w.heap.size + 2) [.int .i64 nu, .int .i64 ep, .bool true, .int .i64 2, .int .i64 le, .int .i64 ta, .int .i64 0, .int .i64 0, .slice none 0 0, .string vt, .int .i64 0, .slice (some ⟨w10.heap.size, 0, none⟩) 1 1] := by rw [hw20]; exact hR11.stored rfl
    have hg20 : (w10.alloc (.cells #[.int .i64 3, .int .i64 nu, .int .i64 0, .int .i64 ep, .int .i64 le, .int .i64 ta, .string vt, .slice none 0 0] 75)).grownBy w20 (some (w.heap.size + 2)) := by rw [hw20]; exact grown_setCells _ _ _ _ _ (World.grownBy.refl _ _)
    have hP20 := hP11.block (hg20.block w.heap.size (by first | omega | (simp; omega)) (by simp))
    have hM20 := hM11.block (hg20.block w8.heap.size (by first | omega | (simp; omega)) (by simp; omega))
    refine hOne (by kernel_rfl) (hSkip (i := 6) (w' := w20) (l' := #[true, true, true, true, true, true, true]) rfl (by kernel_rfl) (by kernel_rfl) (by kernel_rfl) (by rw [hw20]; exact run_stT 39 zA [.int .i64 nu, .int .i64 ep, .bool true, .int .i64 2, .int .i64 le, .int .i64 ta, .int .i64 0, .int .i64 0, .slice none 0 0, .string vt, .int .i64 0, .slice (some ⟨w10.heap.size, 0, none⟩) 1 1] (.tmp 4) (.tmp 55) (by kernel_rfl) (by kernel_rfl) (by kernel_rfl) hR11 rfl Try.sizeAc (one12 _ _ _ _ _ _ _ _ _ _ _ _ _ _ _ _)) ⟨hP20, hM20⟩ ?_)
    have kk0 : w20.cell? ⟨w.heap.size + 2, 0, none⟩ = some (.int .i64 nu) := (hc20 0 (by simp)).1
    have kk1 : w20.cell? ⟨w.heap.size + 2, 1, none⟩ = some (.int .i64 ep) := (hc20 1 (by simp)).1
    have kk2 : w20.cell? ⟨w.heap.size + 2, 2, none⟩ = some (.bool true) := (hc20 2 (by simp)).1
    have kk3 : w20.cell? ⟨w.heap.size + 2, 3, none⟩ = some (.int .i64 2) := (hc20 3 (by simp)).1
    have kk4 : w20.cell? ⟨w.heap.size + 2, 4, none⟩ = some (.int .i64 le) := (hc20 4 (by simp)).1
    have kk5 : w20.cell? ⟨w.heap.size + 2, 5, none⟩ = some (.int .i64 ta) := (hc20 5 (by simp)).1
    have kk6 : w20.cell? ⟨w.heap.size + 2, 6, none⟩ = some (.int .i64 0) := (hc20 6 (by simp)).1
    have kk7 : w20.cell? ⟨w.heap.size + 2, 7, none⟩ = some (.int .i64 0) := (hc20 7 (by simp)).1
    have kk8 : w20.cell? ⟨w.heap.size + 2, 8, none⟩ = some (.slice none 0 0) := (hc20 8 (by simp)).1
    have kk9 : w20.cell? ⟨w.heap.size + 2, 9, none⟩ = some (.string vt) := (hc20 9 (by simp)).1
    have kk10 : w20.cell? ⟨w.heap.size + 2, 10, none⟩ = some (.int .i64 0) := (hc20 10 (by simp)).1
    have kk11 : w20.cell? ⟨w.heap.size + 2, 11, none⟩ = some (.slice (some ⟨w10.heap.size, 0, none⟩) 1 1) := (hc20 11 (by simp)).1
    refine wpAnyH_done (by kernel_rfl) ?_ _
    go_wp2
    refine bodyPost_ret (v := .agg #[.int .i64 nu, .int .i64 ep, .bool true, .int .i64 2, .int .i64 le, .int .i64 ta, .int .i64 0, .int .i64 0, .slice none 0 0, .string vt, .int .i64 0, .slice (some ⟨w10.heap.size, 0, none⟩) 1 1]) (by simp [results, Try.results51, go_sem, kk0, kk1, kk2, kk3, kk4, kk5, kk6, kk7, kk8, kk9, kk10, kk11]) rfl ⟨⟨⟨nu, ep, true, 2, le, ta, 0, 0, [], vt, 0⟩, some ⟨3, nu, ep, le, ta, vt⟩, none, 0, .slice (some ⟨w10.heap.size, 0, none⟩) 1 1, rfl, Own.nil _ _ _, ?_, .inl rfl, .inl ⟨HV.out, HCD.out, HT.out⟩⟩, ?_⟩
    · exact hout.grown hg20 (.inr (by intro hh; have : w10.heap.size = w.heap.size + 2 := Option.some.inj hh; omega))
    · exact below_grown hB11 hg20 (by first | omega | (simp; omega)) (fun q hq => by simp at hq; omega)
  · have hPb := hPd.block (Below.heap_alloc wd (.cells #[.int .i64 3, .int .i64 nu, .int .i64 0, .int .i64 ep, .int .i64 le, .int .i64 ta, .string vt, .slice none 0 0] 75) _ (by omega))
    have hMb := hMd.block (Below.heap_alloc wd (.cells #[.int .i64 3, .int .i64 nu, .int .i64 0, .int .i64 ep, .int .i64 le, .int .i64 ta, .string vt, .slice none 0 0] 75) _ (by omega))
    have hRb := hRd.block (Below.heap_alloc wd (.cells #[.int .i64 3, .int .i64 nu, .int .i64 0, .int .i64 ep, .int .i64 le, .int .i64 ta, .string vt, .slice none 0 0] 75) _ (by omega))
    have hBb := hBd.alloc hBd.size (.cells #[.int .i64 3, .int .i64 nu, .int .i64 0, .int .i64 ep, .int .i64 le, .int .i64 ta, .string vt, .slice none 0 0] 75)
    have hzb : (wd.alloc (.cells #[.int .i64 3, .int .i64 nu, .int .i64 0, .int .i64 ep, .int .i64 le, .int .i64 ta, .string vt, .slice none 0 0] 75)).heap.size = wd.heap.size + 1 := by simp
    have hout : Own w.heap.size (wd.alloc (.cells #[.int .i64 3, .int .i64 nu, .int .i64 0, .int .i64 ep, .int .i64 le, .int .i64 ta, .string vt, .slice none 0 0] 75)) 8 (.slice (some ⟨wd.heap.size, 0, none⟩) 1 1) 1 [.int .i64 3, .int .i64 nu, .int .i64 0, .int .i64 ep, .int .i64 le, .int .i64 ta, .string vt, .slice none 0 0] := outOwn wd w.heap.size ⟨3, nu, ep, le, ta, vt⟩ (by omega)
    obtain ⟨wb, hwb⟩ : ∃ wb, wb = wd.alloc (.cells #[.int .i64 3, .int .i64 nu, .int .i64 0, .int .i64 ep, .int .i64 le, .int .i64 ta, .string vt, .slice none 0 0] 75) := ⟨_, rfl⟩
    rw [← hwb] at hPb hMb hRb hBb hzb hout
    rw [← hwb]
    clear hwb
    refine hOne (by kernel_rfl) (hCall (i := 2) (d := some 52) (f := 44) (args := #[.agg #[.int .i64 nu, .int .i64 ep, .bool true, .int .i64 1, .int .i64 le, .int .i64 ta, .int .i64 co, .int .i64 1, .slice a n c, .string x, .int .i64 0], .iface 87 (.agg #[.int .i64 le, .int .i64 ta, .string vt])]) (l' := #[true, true, true, true, true, false, false]) (R := fun v w' => v = .agg #[.int .i64 nu, .int .i64 ep, .bool true, .int .i64 2, .int .i64 le, .int .i64 ta, .int .i64 0, .int .i64 0, .slice none 0 0, .string vt, .int .i64 0] ∧ Below wb.heap.size wb w') rfl (by kernel_rfl) (by kernel_rfl) (by kernel_rfl) (run_cl2 _ _ _ rfl (by kernel_rfl) (by kernel_rfl) rfl enter_inS) ((inState_2 nu ep true 1 le ta co 1 a n c x 0 le ta vt _).mono fun _ _ ⟨he, hw⟩ => ⟨_, he, rfl, hw⟩) ?_)
    rintro _ w10 ⟨rfl, hb10⟩
    have hP10 := hPb.block (hb10.block w.heap.size (by omega))
    have hM10 := hMb.block (hb10.block w8.heap.size (by omega))
    have hR10 := hRb.block (hb10.block (w.heap.size + 2) (by omega))
    have hB10 := hBb.trans (hb10.mono hBb.size)
    have hz10 : wd.heap.size + 1 ≤ w10.heap.size := by have := hb10.size; omega
    have hout10 := hout.below hb10 (Nat.le_refl _)
    refine ⟨⟨hP10, hM10⟩, ?_⟩
    refine hTake (i := 5) (d := some 55) (v := .agg #[.int .i64 nu, .int .i64 ep, .bool true, .int .i64 2, .int .i64 le, .int .i64 ta, .int .i64 0, .int .i64 0, .slice none 0 0, .string vt, .int .i64 0, .slice (some ⟨wd.heap.size, 0, none⟩) 1 1]) (l' := #[true, true, true, true, true, true, false]) rfl (by kernel_rfl) (by kernel_rfl) (by kernel_rfl) (by kernel_rfl) (fun _ _ _ h => h) (by kernel_rfl) (fun _ hc => run_bd (.tmp 52) (.tmp 54) nu ep true 2 le ta 0 0 none 0 0 vt 0 (some ⟨wd.heap.size, 0, none⟩) 1 1 (by kernel_rfl) (by kernel_rfl) (by kernel_rfl)) ⟨hP10, hM10⟩ (by kernel_rfl) ?_
    obtain ⟨w20, hw20⟩ : ∃ w20, w20 = (w10).setCells (w.heap.size + 2) 0 [.int .i64 nu, .int .i64 ep, .bool true, .int .i64 2, .int .i64 le, .int .i64 ta, .int .i64 0, .int .i64 0, .slice none 0 0, .string vt, .int .i64 0, .slice (some ⟨wd.heap.size, 0, none⟩) 1 1] := ⟨_, rfl⟩
    have hc20 : CF w20 (w.heap.size + 2) [.int .i64 nu, .int .i64 ep, .bool true, .int .i64 2, .int .i64 le, .int .i64 ta, .int .i64 0, .int .i64 0, .slice none 0 0, .string vt, .int .i64 0, .slice (some ⟨wd.heap.size, 0, none⟩) 1 1] := by rw [hw20]; exact hR10.stored rfl
    have hg20 : (w10).grownBy w20 (some (w.heap.size + 2)) := by rw [hw20]; exact grown_setCells _ _ _ _ _ (World.grownBy.refl _ _)
    have hP20 := hP10.block (hg20.block w.heap.size (by first | omega | (simp; omega)) (by simp))
    have hM20 := hM10.block (hg20.block w8.heap.size (by first | omega | (simp; omega)) (by simp; omega))
    refine hOne (by kernel_rfl) (hSkip (i := 6) (w' := w20) (l' := #[true, true, true, true, true, true, true]) rfl (by kernel_rfl) (by kernel_rfl) (by kernel_rfl) (by rw [hw20]; exact run_stT 39 zA [.int .i64 nu, .int .i64 ep, .bool true, .int .i64 2, .int .i64 le, .int .i64 ta, .int .i64 0, .int .i64 0, .slice none 0 0, .string vt, .int .i64 0, .slice (some ⟨wd.heap.size, 0, none⟩) 1 1] (.tmp 4) (.tmp 55) (by kernel_rfl) (by kernel_rfl) (by kernel_rfl) hR10 rfl Try.sizeAc (one12 _ _ _ _ _ _ _ _ _ _ _ _ _ _ _ _)) ⟨hP20, hM20⟩ ?_)
    have kk0 : w20.cell? ⟨w.heap.size + 2, 0, none⟩ = some (.int .i64 nu) := (hc20 0 (by simp)).1
    have kk1 : w20.cell? ⟨w.heap.size + 2, 1, none⟩ = some (.int .i64 ep) := (hc20 1 (by simp)).1
    have kk2 : w20.cell? ⟨w.heap.size + 2, 2, none⟩ = some (.bool true) := (hc20 2 (by simp)).1
    have kk3 : w20.cell? ⟨w.heap.size + 2, 3, none⟩ = some (.int .i64 2) := (hc20 3 (by simp)).1
    have kk4 : w20.cell? ⟨w.heap.size + 2, 4, none⟩ = some (.int .i64 le) := (hc20 4 (by simp)).1
    have kk5 : w20.cell? ⟨w.heap.size + 2, 5, none⟩ = some (.int .i64 ta) := (hc20 5 (by simp)).1
    have kk6 : w20.cell? ⟨w.heap.size + 2, 6, none⟩ = some (.int .i64 0) := (hc20 6 (by simp)).1
    have kk7 : w20.cell? ⟨w.heap.size + 2, 7, none⟩ = some (.int .i64 0) := (hc20 7 (by simp)).1
    have kk8 : w20.cell? ⟨w.heap.size + 2, 8, none⟩ = some (.slice none 0 0) := (hc20 8 (by simp)).1
    have kk9 : w20.cell? ⟨w.heap.size + 2, 9, none⟩ = some (.string vt) := (hc20 9 (by simp)).1
    have kk10 : w20.cell? ⟨w.heap.size + 2, 10, none⟩ = some (.int .i64 0) := (hc20 10 (by simp)).1
    have kk11 : w20.cell? ⟨w.heap.size + 2, 11, none⟩ = some (.slice (some ⟨wd.heap.size, 0, none⟩) 1 1) := (hc20 11 (by simp)).1
    refine wpAnyH_done (by kernel_rfl) ?_ _
    go_wp2
    refine bodyPost_ret (v := .agg #[.int .i64 nu, .int .i64 ep, .bool true, .int .i64 2, .int .i64 le, .int .i64 ta, .int .i64 0, .int .i64 0, .slice none 0 0, .string vt, .int .i64 0, .slice (some ⟨wd.heap.size, 0, none⟩) 1 1]) (by simp [results, Try.results51, go_sem, kk0, kk1, kk2, kk3, kk4, kk5, kk6, kk7, kk8, kk9, kk10, kk11]) rfl ⟨⟨⟨nu, ep, true, 2, le, ta, 0, 0, [], vt, 0⟩, some ⟨3, nu, ep, le, ta, vt⟩, none, 0, .slice (some ⟨wd.heap.size, 0, none⟩) 1 1, rfl, Own.nil _ _ _, ?_, .inl rfl, .inl ⟨HV.out, HCD.out, HT.out⟩⟩, ?_⟩
    · exact hout10.grown hg20 (.inr (by intro hh; have : wd.heap.size = w.heap.size + 2 := Option.some.inj hh; omega))
    · exact below_grown hB10 hg20 (by first | omega | (simp; omega)) (fun q hq => by simp at hq; omega)

set_option maxHeartbeats 8000000 in
set_option maxRecDepth 100000 in
theorem iTick_dT (nu ep : Int) (le ta co : Int) (a : Option Addr) (b o n c : Nat) (ss : List ByteArray) (x : ByteArray) (pa : Option Addr) (pb po pn pc : Nat) (ts : List TaskD) (w : World) (h : StrsAt w a b o n ss) (hp : TasksAt w pa pb po pn ts) (hok : (⟨nu, ep, true, 1, le, ta, co, 1, ss, x, 1000000⟩ : WD).ok) (hcode : Code ts 0) :
    Calls Try.prog 51 #[.agg #[.int .i64 nu, .int .i64 ep, .bool true, .int .i64 1, .int .i64 le, .int .i64 ta, .int .i64 co, .int .i64 1, .slice a n c, .string x, .int .i64 1000000], .agg #[.slice pa pn pc]] w fun e w' => RetA e w.heap.size w' (tickR (⟨nu, ep, true, 1, le, ta, co, 1, ss, x, 1000000⟩ : WD) ts) ∧ Below w.heap.size w w' := by
  obtain ⟨w2, hW⟩ : ∃ w2, w2 = ((w.alloc (.cells #[.int .i64 nu, .int .i64 ep, .bool true, .int .i64 1, .int .i64 le, .int .i64 ta, .int .i64 co, .int .i64 1, .slice a n c, .string x, .int .i64 1000000] 27)).alloc (.cells #[.slice pa pn pc] 43)).alloc (.cells zA.toArray 39) := ⟨_, rfl⟩
  have hbW : Below w.heap.size w w2 := by rw [hW]; exact (((Below.refl _ _).alloc (Nat.le_refl _) _).alloc (by simp) _).alloc (by simp; omega) _
  have hsW : w2.heap.size = w.heap.size + 3 := by rw [hW]; simp
  have hP : CF w2 w.heap.size [.int .i64 nu, .int .i64 ep, .bool true, .int .i64 1, .int .i64 le, .int .i64 ta, .int .i64 co, .int .i64 1, .slice a n c, .string x, .int .i64 1000000] := by
    rw [hW]; exact ((CF.made w #[.int .i64 nu, .int .i64 ep, .bool true, .int .i64 1, .int .i64 le, .int .i64 ta, .int .i64 co, .int .i64 1, .slice a n c, .string x, .int .i64 1000000] 27).block (Below.heap_alloc _ _ _ (by simp))).block (Below.heap_alloc _ _ _ (by simp; omega))
  have hL : CF w2 (w.heap.size + 1) [.slice pa pn pc] := by
    rw [hW]
    have := (CF.made (w.alloc (.cells #[.int .i64 nu, .int .i64 ep, .bool true, .int .i64 1, .int .i64 le, .int .i64 ta, .int .i64 co, .int .i64 1, .slice a n c, .string x, .int .i64 1000000] 27)) #[.slice pa pn pc] 43).block (Below.heap_alloc ((w.alloc (.cells #[.int .i64 nu, .int .i64 ep, .bool true, .int .i64 1, .int .i64 le, .int .i64 ta, .int .i64 co, .int .i64 1, .slice a n c, .string x, .int .i64 1000000] 27)).alloc (.cells #[.slice pa pn pc] 43)) (.cells zA.toArray 39) _ (by simp))
    simpa using this
  have hR : CF w2 (w.heap.size + 2) zA := by
    rw [hW]
    have := CF.made ((w.alloc (.cells #[.int .i64 nu, .int .i64 ep, .bool true, .int .i64 1, .int .i64 le, .int .i64 ta, .int .i64 co, .int .i64 1, .slice a n c, .string x, .int .i64 1000000] 27)).alloc (.cells #[.slice pa pn pc] 43)) zA.toArray 39
    simpa using this
  have hlen := hid h.len
  have hplen := hid hp.len
  simp only [zA] at hW
  have HW := hid hW
  clear hW
  go_enter Try.func51, Try.ntmps51
  go_upto_region 1 with fail
  rw [← HW.out]
  clear HW
  have HV := hid hok
  have v5 : (0 : Int) ≤ 1000000 := hok.2.2.2.2.1
  have q4 : 0 ≤ ta := ((vW1 _ _ _ _ _ _ _ _ _ _).1 hok).2.2.2.1
  have q5 : ta ≤ 39 := ((vW1 _ _ _ _ _ _ _ _ _ _).1 hok).2.2.2.2.1
  obtain ⟨vt, hvt⟩ : ∃ vt, vt = valS (tnm ts ta) ss := ⟨_, rfl⟩
  have HWK : Hid (∀ w1 : World, StrsAt w1 a b o n ss → TasksAt w1 pa pb po pn ts → Calls Try.prog 65 #[.iface 85 (.agg #[.int .i64 le, .int .i64 ta, .int .i64 co, .int .i64 1, .slice a n c]), .agg #[.slice pa pn pc]] w1 fun e w' => e = .returned (.tuple #[.iface 87 (.agg #[.int .i64 le, .int .i64 ta, .string vt]), .bool true]) ∧ Below w1.heap.size w1 w') := fun w1 h1 h2 => by rw [hvt]; exact workedOn_d le ta co a b o n c ss pa pb po pn pc ts w1 h1 h2 hcode q4 q5
  clear q4 q5
  have HT : Hid (((⟨nu, ep, true, 2, le, ta, 0, 0, [], vt, 0⟩ : WD), some (⟨3, nu, ep, le, ta, vt⟩ : OM)) = tickV ⟨nu, ep, true, 1, le, ta, co, 1, ss, x, 1000000⟩ (tnm ts ta)) := by rw [hvt, tick_1d]; exact rfl
  clear hvt
  have HCD := hid hcode
  clear hok hcode
  have hn8 : n ≤ 8 := by have := (WD.ok.small HV.out).1; rw [hlen.out] at this; exact this
  have hP2 := hP
  have hL2 := hL
  have hR2 := hR
  have hB2 := hbW
  have hz2 : w.heap.size + 3 ≤ w2.heap.size := by omega
  clear hP hL hR hbW hsW
  have hw2 := h.below' hB2
  have y0 : w2.cell? ⟨w.heap.size, 0, none⟩ = some (.int .i64 nu) := (hP2 0 (by simp)).1
  have y1 : w2.cell? ⟨w.heap.size, 1, none⟩ = some (.int .i64 ep) := (hP2 1 (by simp)).1
  have y2 : w2.cell? ⟨w.heap.size, 2, none⟩ = some (.bool true) := (hP2 2 (by simp)).1
  have y3 : w2.cell? ⟨w.heap.size, 3, none⟩ = some (.int .i64 1) := (hP2 3 (by simp)).1
  have y4 : w2.cell? ⟨w.heap.size, 4, none⟩ = some (.int .i64 le) := (hP2 4 (by simp)).1
  have y5 : w2.cell? ⟨w.heap.size, 5, none⟩ = some (.int .i64 ta) := (hP2 5 (by simp)).1
  have y6 : w2.cell? ⟨w.heap.size, 6, none⟩ = some (.int .i64 co) := (hP2 6 (by simp)).1
  have y7 : w2.cell? ⟨w.heap.size, 7, none⟩ = some (.int .i64 1) := (hP2 7 (by simp)).1
  have y8 : w2.cell? ⟨w.heap.size, 8, none⟩ = some (.slice a n c) := (hP2 8 (by simp)).1
  have y9 : w2.cell? ⟨w.heap.size, 9, none⟩ = some (.string x) := (hP2 9 (by simp)).1
  have y10 : w2.cell? ⟨w.heap.size, 10, none⟩ = some (.int .i64 1000000) := (hP2 10 (by simp)).1
  go_upto_region 2 with (go_at_call 32; refine (stateOf_1 nu ep true le ta co 1 a n c x 1000000 _).mono ?_; rintro e w' ⟨rfl, rfl⟩)
  clear y0 y1 y2 y3 y4 y5 y6 y7 y8 y9 y10
  have hP3 := hP2.block (Below.heap_alloc w2 (.cells #[.int .i64 nu, .int .i64 ep, .bool true, .int .i64 1, .int .i64 le, .int .i64 ta, .int .i64 co, .int .i64 1, .slice a n c, .string x, .int .i64 1000000] 27) _ (by omega))
  have hL3 := hL2.block (Below.heap_alloc w2 (.cells #[.int .i64 nu, .int .i64 ep, .bool true, .int .i64 1, .int .i64 le, .int .i64 ta, .int .i64 co, .int .i64 1, .slice a n c, .string x, .int .i64 1000000] 27) _ (by omega))
  have hR3 := hR2.block (Below.heap_alloc w2 (.cells #[.int .i64 nu, .int .i64 ep, .bool true, .int .i64 1, .int .i64 le, .int .i64 ta, .int .i64 co, .int .i64 1, .slice a n c, .string x, .int .i64 1000000] 27) _ (by omega))
  have hB3 := hB2.alloc hB2.size (.cells #[.int .i64 nu, .int .i64 ep, .bool true, .int .i64 1, .int .i64 le, .int .i64 ta, .int .i64 co, .int .i64 1, .slice a n c, .string x, .int .i64 1000000] 27)
  have hz3 : w.heap.size + 3 ≤ (w2.alloc (.cells #[.int .i64 nu, .int .i64 ep, .bool true, .int .i64 1, .int .i64 le, .int .i64 ta, .int .i64 co, .int .i64 1, .slice a n c, .string x, .int .i64 1000000] 27)).heap.size := by simp; omega
  obtain ⟨w3, hw3⟩ : ∃ w3, w3 = w2.alloc (.cells #[.int .i64 nu, .int .i64 ep, .bool true, .int .i64 1, .int .i64 le, .int .i64 ta, .int .i64 co, .int .i64 1, .slice a n c, .string x, .int .i64 1000000] 27) := ⟨_, rfl⟩
  rw [← hw3] at hP3 hL3 hR3 hB3 hz3
  rw [← hw3]
  clear hw3 hP2 hL2 hR2 hB2 hz2 hw2
  have y2 : w3.cell? ⟨w.heap.size, 2, none⟩ = some (.bool true) := (hP3 2 (by simp)).1
  have zz : w3.cell? ⟨w.heap.size, 10, none⟩ = some (.int .i64 1000000) := (hP3 10 (by simp)).1
  have ff : w3.frozen? ⟨w.heap.size, 10, none⟩ = false := (hP3 10 (by simp)).2
  go_upto_region 5 with fail
  clear zz ff
  have hP4 := hP3.set (j := 10) (by simp) (.int .i64 1000000)
  simp only [List.set_cons_zero, List.set_cons_succ] at hP4
  have hL4 := hL3.block (Below.heap_setCell w3 (⟨w.heap.size, 10, none⟩ : Addr) (.int .i64 1000000) (w.heap.size + 1) (by dsimp only; omega))
  have hR4 := hR3.block (Below.heap_setCell w3 (⟨w.heap.size, 10, none⟩ : Addr) (.int .i64 1000000) (w.heap.size + 2) (by dsimp only; omega))
  have hB4 := hB3.setCell (p := ⟨w.heap.size, 10, none⟩) (by dsimp only; omega) (.int .i64 1000000)
  have hz4 : w.heap.size + 3 ≤ (w3.setCell ⟨w.heap.size, 10, none⟩ (.int .i64 1000000)).heap.size := by simpa [World.setCell] using hz3
  obtain ⟨w4, hw4⟩ : ∃ w4, w4 = w3.setCell ⟨w.heap.size, 10, none⟩ (.int .i64 1000000) := ⟨_, rfl⟩
  rw [← hw4] at hP4 hL4 hR4 hB4 hz4
  rw [← hw4]
  clear hw4 hP3 hL3 hR3 hB3
  clear y2 v5
  have kp : w4.cell? ⟨w.heap.size + 1, 0, none⟩ = some (.slice pa pn pc) := (hL4 0 (by simp)).1
  go_upto_region 6 with (go_at_call 65; refine (HWK.out _ (h.below' hB4) (hp.below' hB4)).mono ?_; rintro e w5 ⟨rfl, hb5⟩; have hP5 := hP4.block (hb5.block w.heap.size (by omega)); have hR5 := hR4.block (hb5.block (w.heap.size + 2) (by omega)); have hB5 := hB4.trans (hb5.mono hB4.size); have hz5 : w.heap.size + 3 ≤ w5.heap.size := (by have := hb5.size; omega); clear hP4 hR4 hB4 hL4 kp hb5)
  refine wp_region_held (S := fun w' => CF w' w.heap.size [.int .i64 nu, .int .i64 ep, .bool true, .int .i64 1, .int .i64 le, .int .i64 ta, .int .i64 co, .int .i64 1, .slice a n c, .string x, .int .i64 1000000]) (by kernel_rfl) ?_
  change wpAnyH _ _ _ _ _ _ _ _ (World.drew _)
  have hPd : CF w5.drew w.heap.size [.int .i64 nu, .int .i64 ep, .bool true, .int .i64 1, .int .i64 le, .int .i64 ta, .int .i64 co, .int .i64 1, .slice a n c, .string x, .int .i64 1000000] := hP5
  refine hTake (i := 0) (d := some 28) (v := .bool true) (l' := #[true, false, false, false, false, false, false, false, false]) rfl (by kernel_rfl) (by kernel_rfl) (by kernel_rfl) (by kernel_rfl) (fun _ _ _ h => h) (by kernel_rfl) (fun _ hc => run_mvT (.tmp 6) (by kernel_rfl) (by kernel_rfl)) hPd (by kernel_rfl) ?_
  refine hTake (i := 1) (d := some 29) (v := .bool false) (l' := #[true, true, false, false, false, false, false, false, false]) rfl (by kernel_rfl) (by kernel_rfl) (by kernel_rfl) (by kernel_rfl) (fun _ _ _ h => h) (by kernel_rfl) (fun _ hc => run_not (.tmp 28) true (by kernel_rfl) (by kernel_rfl)) hPd (by kernel_rfl) ?_
  refine hTake (i := 2) (d := some 30) (v := .bool false) (l' := #[true, true, true, false, false, false, false, false, false]) rfl (by kernel_rfl) (by kernel_rfl) (by kernel_rfl) (by kernel_rfl) (fun _ _ _ h => h) (by kernel_rfl) (fun _ hc => run_mvT (.tmp 29) (by kernel_rfl) (by kernel_rfl)) hPd (by kernel_rfl) ?_
  refine hTakeN (i := 3) (d := some 31) (l' := #[true, true, true, true, false, false, false, false, false]) rfl (by kernel_rfl) (by kernel_rfl) (by kernel_rfl) (by kernel_rfl) (fun _ _ _ h => h) (by kernel_rfl) hPd (by kernel_rfl) ?_
  refine hTakeN (i := 4) (d := some 32) (l' := #[true, true, true, true, true, false, false, false, false]) rfl (by kernel_rfl) (by kernel_rfl) (by kernel_rfl) (by kernel_rfl) (fun _ _ _ h => h) (by kernel_rfl) hPd (by kernel_rfl) ?_
  refine hTakeN (i := 5) (d := some 33) (l' := #[true, true, true, true, true, true, false, false, false]) rfl (by kernel_rfl) (by kernel_rfl) (by kernel_rfl) (by kernel_rfl) (fun _ _ _ h => h) (by kernel_rfl) hPd (by kernel_rfl) ?_
  refine hTakeN (i := 6) (d := some 34) (l' := #[true, true, true, true, true, true, true, false, false]) rfl (by kernel_rfl) (by kernel_rfl) (by kernel_rfl) (by kernel_rfl) (fun _ _ _ h => h) (by kernel_rfl) hPd (by kernel_rfl) ?_
  refine hTakeN (i := 7) (d := some 35) (l' := #[true, true, true, true, true, true, true, true, false]) rfl (by kernel_rfl) (by kernel_rfl) (by kernel_rfl) (by kernel_rfl) (fun _ _ _ h => h) (by kernel_rfl) hPd (by kernel_rfl) ?_
  refine hTake (i := 8) (d := some 36) (v := .bool false) (l' := #[true, true, true, true, true, true, true, true, true]) rfl (by kernel_rfl) (by kernel_rfl) (by kernel_rfl) (by kernel_rfl) (fun _ _ _ h => h) (by kernel_rfl) (fun _ hc => run_pkf (.tmp 30) (.tmp 35) (.const (.bool false)) _ (by kernel_rfl) (by kernel_rfl) (by kernel_rfl)) hPd (by kernel_rfl) ?_
  refine wpAnyH_done (by kernel_rfl) ?_ _
  have hR6 : CF w5.drew (w.heap.size + 2) zA := hR5
  have hB6 := hB5.drew
  have hz6 : w.heap.size + 3 ≤ w5.drew.heap.size := hz5
  have hP6 := hPd
  obtain ⟨w6, hw6⟩ : ∃ w6, w6 = w5.drew := ⟨_, rfl⟩
  rw [← hw6] at hR6 hB6 hz6 hP6
  rw [← hw6]
  clear hw6 hP5 hR5 hB5 hPd
  go_simp
  go_upto_region 8 with fail
  have zz : w6.cell? ⟨w.heap.size, 10, none⟩ = some (.int .i64 1000000) := (hP6 10 (by simp)).1
  have ff : w6.frozen? ⟨w.heap.size, 10, none⟩ = false := (hP6 10 (by simp)).2
  go_upto_region 9 with fail
  clear zz ff
  have hP7 := hP6.set (j := 10) (by simp) (.int .i64 0)
  simp only [List.set_cons_zero, List.set_cons_succ] at hP7
  have hR7 := hR6.block (Below.heap_setCell w6 (⟨w.heap.size, 10, none⟩ : Addr) (.int .i64 0) (w.heap.size + 2) (by dsimp only; omega))
  have hB7 := hB6.setCell (p := ⟨w.heap.size, 10, none⟩) (by dsimp only; omega) (.int .i64 0)
  have hz7 : w.heap.size + 3 ≤ (w6.setCell ⟨w.heap.size, 10, none⟩ (.int .i64 0)).heap.size := by simpa [World.setCell] using hz6
  obtain ⟨w7x, hw7x⟩ : ∃ w7x, w7x = w6.setCell ⟨w.heap.size, 10, none⟩ (.int .i64 0) := ⟨_, rfl⟩
  rw [← hw7x] at hP7 hR7 hB7 hz7
  rw [← hw7x]
  clear hw7x hP6 hR6 hB6
  go_upto_region 10 with (go_at_call 103; refine (tells_2 _ _ _ _).mono ?_; rintro e w8 ⟨rfl, hb8⟩; have hP8 := hP7.block (hb8.block w.heap.size (by omega)); have hR8 := hR7.block (hb8.block (w.heap.size + 2) (by omega)); have hB8 := hB7.trans (hb8.mono hB7.size); have hz8 : w.heap.size + 3 ≤ w8.heap.size := (by have := hb8.size; omega); clear hP7 hR7 hB7 hb8)
  have y0 : w8.cell? ⟨w.heap.size, 0, none⟩ = some (.int .i64 nu) := (hP8 0 (by simp)).1
  have y1 : w8.cell? ⟨w.heap.size, 1, none⟩ = some (.int .i64 ep) := (hP8 1 (by simp)).1
  have hl8 : w.heap.size < w8.heap.size := by omega
  go_region
  clear y0 y1
  have hP9 := hP8.block (Below.heap_alloc w8 (.cells #[.int .i64 3, .int .i64 nu, .int .i64 0, .int .i64 ep, .int .i64 le, .int .i64 ta, .string vt, .slice none 0 0] 75) _ hl8)
  have hR9 := hR8.block (Below.heap_alloc w8 (.cells #[.int .i64 3, .int .i64 nu, .int .i64 0, .int .i64 ep, .int .i64 le, .int .i64 ta, .string vt, .slice none 0 0] 75) _ (by omega))
  have hB9 := hB8.alloc hB8.size (.cells #[.int .i64 3, .int .i64 nu, .int .i64 0, .int .i64 ep, .int .i64 le, .int .i64 ta, .string vt, .slice none 0 0] 75)
  have hM9 := CF.made w8 #[.int .i64 3, .int .i64 nu, .int .i64 0, .int .i64 ep, .int .i64 le, .int .i64 ta, .string vt, .slice none 0 0] 75
  have hz9 : w8.heap.size + 1 ≤ (w8.alloc (.cells #[.int .i64 3, .int .i64 nu, .int .i64 0, .int .i64 ep, .int .i64 le, .int .i64 ta, .string vt, .slice none 0 0] 75)).heap.size := by simp
  obtain ⟨w9, hw9⟩ : ∃ w9, w9 = w8.alloc (.cells #[.int .i64 3, .int .i64 nu, .int .i64 0, .int .i64 ep, .int .i64 le, .int .i64 ta, .string vt, .slice none 0 0] 75) := ⟨_, rfl⟩
  rw [← hw9] at hP9 hR9 hB9 hM9 hz9
  rw [← hw9]
  clear hw9 hP8 hR8 hB8
  go_upto_region 11 with fail
  refine wp_region_held (S := fun w' => CF w' w.heap.size [.int .i64 nu, .int .i64 ep, .bool true, .int .i64 1, .int .i64 le, .int .i64 ta, .int .i64 co, .int .i64 1, .slice a n c, .string x, .int .i64 0] ∧ CF w' w8.heap.size [.int .i64 3, .int .i64 nu, .int .i64 0, .int .i64 ep, .int .i64 le, .int .i64 ta, .string vt, .slice none 0 0]) (by kernel_rfl) ?_
  change wpAnyH _ _ _ _ _ _ _ _ (World.drew _)
  have hPd : CF w9.drew.drew w.heap.size [.int .i64 nu, .int .i64 ep, .bool true, .int .i64 1, .int .i64 le, .int .i64 ta, .int .i64 co, .int .i64 1, .slice a n c, .string x, .int .i64 0] := hP9
  have hMd : CF w9.drew.drew w8.heap.size [.int .i64 3, .int .i64 nu, .int .i64 0, .int .i64 ep, .int .i64 le, .int .i64 ta, .string vt, .slice none 0 0] := hM9
  have hRd : CF w9.drew.drew (w.heap.size + 2) zA := hR9
  have hBd : Below w.heap.size w w9.drew.drew := hB9.drew.drew
  have hzd : w8.heap.size + 1 ≤ w9.drew.drew.heap.size := hz9
  obtain ⟨wd, hwd⟩ : ∃ wd, wd = w9.drew.drew := ⟨_, rfl⟩
  rw [← hwd] at hPd hMd hRd hBd hzd
  rw [← hwd]
  clear hwd hP9 hM9 hR9 hB9 hz9
  refine hTake (i := 0) (d := some 50) (v := .agg #[.int .i64 nu, .int .i64 ep, .bool true, .int .i64 1, .int .i64 le, .int .i64 ta, .int .i64 co, .int .i64 1, .slice a n c, .string x, .int .i64 0]) (l' := #[true, false, false, false, false, false, false]) rfl (by kernel_rfl) (by kernel_rfl) (by kernel_rfl) (by kernel_rfl) (fun _ _ _ h => h) (by kernel_rfl) (fun _ hc => run_ldT 27 _ [.int .i64 nu, .int .i64 ep, .bool true, .int .i64 1, .int .i64 le, .int .i64 ta, .int .i64 co, .int .i64 1, .slice a n c, .string x, .int .i64 0] (.tmp 2) (by kernel_rfl) (by kernel_rfl) hc.1 Try.underlying27 rfl Try.sizeWk) ⟨hPd, hMd⟩ (by kernel_rfl) ?_
  refine hTake (i := 1) (d := some 51) (v := .iface 87 (.agg #[.int .i64 le, .int .i64 ta, .string vt])) (l' := #[true, true, false, false, false, false, false]) rfl (by kernel_rfl) (by kernel_rfl) (by kernel_rfl) (by kernel_rfl) (fun _ _ _ h => h) (by kernel_rfl) (fun _ hc => run_mvT (.tmp 5) (by kernel_rfl) (by kernel_rfl)) ⟨hPd, hMd⟩ (by kernel_rfl) ?_
  refine hTake (i := 3) (d := some 53) (v := .agg #[.int .i64 3, .int .i64 nu, .int .i64 0, .int .i64 ep, .int .i64 le, .int .i64 ta, .string vt, .slice none 0 0]) (l' := #[true, true, false, true, false, false, false]) rfl (by kernel_rfl) (by kernel_rfl) (by kernel_rfl) (by kernel_rfl) (fun _ _ _ h => h) (by kernel_rfl) (fun _ hc => run_ldT 75 _ [.int .i64 3, .int .i64 nu, .int .i64 0, .int .i64 ep, .int .i64 le, .int .i64 ta, .string vt, .slice none 0 0] (.tmp 7) (by kernel_rfl) (by kernel_rfl) hc.2 Try.underlying75 rfl Try.sizeMs) ⟨hPd, hMd⟩ (by kernel_rfl) ?_
  refine hTwo (i := 2) (j := 4) (by kernel_rfl) (hCall (i := 2) (d := some 52) (f := 44) (args := #[.agg #[.int .i64 nu, .int .i64 ep, .bool true, .int .i64 1, .int .i64 le, .int .i64 ta, .int .i64 co, .int .i64 1, .slice a n c, .string x, .int .i64 0], .iface 87 (.agg #[.int .i64 le, .int .i64 ta, .string vt])]) (l' := #[true, true, true, true, false, false, false]) (R := fun v w' => v = .agg #[.int .i64 nu, .int .i64 ep, .bool true, .int .i64 2, .int .i64 le, .int .i64 ta, .int .i64 0, .int .i64 0, .slice none 0 0, .string vt, .int .i64 0] ∧ Below wd.heap.size wd w') rfl (by kernel_rfl) (by kernel_rfl) (by kernel_rfl) (run_cl2 _ _ _ rfl (by kernel_rfl) (by kernel_rfl) rfl enter_inS) ((inState_2 nu ep true 1 le ta co 1 a n c x 0 le ta vt _).mono fun _ _ ⟨he, hw⟩ => ⟨_, he, rfl, hw⟩) ?_) (hVal (i := 4) (d := some 54) (v := .slice (some ⟨wd.heap.size, 0, none⟩) 1 1) (w' := wd.alloc (.cells #[.int .i64 3, .int .i64 nu, .int .i64 0, .int .i64 ep, .int .i64 le, .int .i64 ta, .string vt, .slice none 0 0] 75)) (l' := #[true, true, false, true, true, false, false]) rfl (by kernel_rfl) (by kernel_rfl) (by kernel_rfl) (run_bs1 (.tmp 53) 3 nu 0 ep le ta vt (by kernel_rfl) (by kernel_rfl))  ⟨hPd.block (Below.heap_alloc wd (.cells #[.int .i64 3, .int .i64 nu, .int .i64 0, .int .i64 ep, .int .i64 le, .int .i64 ta, .string vt, .slice none 0 0] 75) _ (by omega)), hMd.block (Below.heap_alloc wd (.cells #[.int .i64 3, .int .i64 nu, .int .i64 0, .int .i64 ep, .int .i64 le, .int .i64 ta, .string vt, .slice none 0 0] 75) _ (by omega))⟩ ?_)
  · rintro _ w10 ⟨rfl, hb10⟩
    have hP10 := hPd.block (hb10.block w.heap.size (by omega))
    have hM10 := hMd.block (hb10.block w8.heap.size (by omega))
    have hR10 := hRd.block (hb10.block (w.heap.size + 2) (by omega))
    have hB10 := hBd.trans (hb10.mono hBd.size)
    have hz10 : w8.heap.size + 1 ≤ w10.heap.size := by have := hb10.size; omega
    refine ⟨⟨hP10, hM10⟩, ?_⟩
    have hP11 := hP10.block (Below.heap_alloc w10 (.cells #[.int .i64 3, .int .i64 nu, .int .i64 0, .int .i64 ep, .int .i64 le, .int .i64 ta, .string vt, .slice none 0 0] 75) _ (by omega))
    have hM11 := hM10.block (Below.heap_alloc w10 (.cells #[.int .i64 3, .int .i64 nu, .int .i64 0, .int .i64 ep, .int .i64 le, .int .i64 ta, .string vt, .slice none 0 0] 75) _ (by omega))
    have hR11 := hR10.block (Below.heap_alloc w10 (.cells #[.int .i64 3, .int .i64 nu, .int .i64 0, .int .i64 ep, .int .i64 le, .int .i64 ta, .string vt, .slice none 0 0] 75) _ (by omega))
    have hB11 := hB10.alloc hB10.size (.cells #[.int .i64 3, .int .i64 nu, .int .i64 0, .int .i64 ep, .int .i64 le, .int .i64 ta, .string vt, .slice none 0 0] 75)
    have hz11 : w8.heap.size + 2 ≤ (w10.alloc (.cells #[.int .i64 3, .int .i64 nu, .int .i64 0, .int .i64 ep, .int .i64 le, .int .i64 ta, .string vt, .slice none 0 0] 75)).heap.size := by simp; omega
    have hout : Own w.heap.size (w10.alloc (.cells #[.int .i64 3, .int .i64 nu, .int .i64 0, .int .i64 ep, .int .i64 le, .int .i64 ta, .string vt, .slice none 0 0] 75)) 8 (.slice (some ⟨w10.heap.size, 0, none⟩) 1 1) 1 [.int .i64 3, .int .i64 nu, .int .i64 0, .int .i64 ep, .int .i64 le, .int .i64 ta, .string vt, .slice none 0 0] := outOwn w10 w.heap.size ⟨3, nu, ep, le, ta, vt⟩ (by omega)
    refine hOne (by kernel_rfl) (hVal (i := 4) (d := some 54) (v := .slice (some ⟨w10.heap.size, 0, none⟩) 1 1) (w' := w10.alloc (.cells #[.int .i64 3, .int .i64 nu, .int .i64 0, .int .i64 ep, .int .i64 le, .int .i64 ta, .string vt, .slice none 0 0] 75)) (l' := #[true, true, true, true, true, false, false]) rfl (by kernel_rfl) (by kernel_rfl) (by kernel_rfl) (run_bs1 (.tmp 53) 3 nu 0 ep le ta vt (by kernel_rfl) (by kernel_rfl))  ⟨hP11, hM11⟩ ?_)
    refine hTake (i := 5) (d := some 55) (v := .agg #[.int .i64 nu, .int .i64 ep, .bool true, .int .i64 2, .int .i64 le, .int .i64 ta, .int .i64 0, .int .i64 0, .slice none 0 0, .string vt, .int .i64 0, .slice (some ⟨w10.heap.size, 0, none⟩) 1 1]) (l' := #[true, true, true, true, true, true, false]) rfl (by kernel_rfl) (by kernel_rfl) (by kernel_rfl) (by kernel_rfl) (fun _ _ _ h => h) (by kernel_rfl) (fun _ hc => run_bd (.tmp 52) (.tmp 54) nu ep true 2 le ta 0 0 none 0 0 vt 0 (some ⟨w10.heap.size, 0, none⟩) 1 1 (by kernel_rfl) (by kernel_rfl) (by kernel_rfl)) ⟨hP11, hM11⟩ (by kernel_rfl) ?_
    obtain ⟨w20, hw20⟩ : ∃ w20, w20 = (w10.alloc (.cells #[.int .i64 3, .int .i64 nu, .int .i64 0, .int .i64 ep, .int .i64 le, .int .i64 ta, .string vt, .slice none 0 0] 75)).setCells (w.heap.size + 2) 0 [.int .i64 nu, .int .i64 ep, .bool true, .int .i64 2, .int .i64 le, .int .i64 ta, .int .i64 0, .int .i64 0, .slice none 0 0, .string vt, .int .i64 0, .slice (some ⟨w10.heap.size, 0, none⟩) 1 1] := ⟨_, rfl⟩
    have hc20 : CF w20 (w.heap.size + 2) [.int .i64 nu, .int .i64 ep, .bool true, .int .i64 2, .int .i64 le, .int .i64 ta, .int .i64 0, .int .i64 0, .slice none 0 0, .string vt, .int .i64 0, .slice (some ⟨w10.heap.size, 0, none⟩) 1 1] := by rw [hw20]; exact hR11.stored rfl
    have hg20 : (w10.alloc (.cells #[.int .i64 3, .int .i64 nu, .int .i64 0, .int .i64 ep, .int .i64 le, .int .i64 ta, .string vt, .slice none 0 0] 75)).grownBy w20 (some (w.heap.size + 2)) := by rw [hw20]; exact grown_setCells _ _ _ _ _ (World.grownBy.refl _ _)
    have hP20 := hP11.block (hg20.block w.heap.size (by first | omega | (simp; omega)) (by simp))
    have hM20 := hM11.block (hg20.block w8.heap.size (by first | omega | (simp; omega)) (by simp; omega))
    refine hOne (by kernel_rfl) (hSkip (i := 6) (w' := w20) (l' := #[true, true, true, true, true, true, true]) rfl (by kernel_rfl) (by kernel_rfl) (by kernel_rfl) (by rw [hw20]; exact run_stT 39 zA [.int .i64 nu, .int .i64 ep, .bool true, .int .i64 2, .int .i64 le, .int .i64 ta, .int .i64 0, .int .i64 0, .slice none 0 0, .string vt, .int .i64 0, .slice (some ⟨w10.heap.size, 0, none⟩) 1 1] (.tmp 4) (.tmp 55) (by kernel_rfl) (by kernel_rfl) (by kernel_rfl) hR11 rfl Try.sizeAc (one12 _ _ _ _ _ _ _ _ _ _ _ _ _ _ _ _)) ⟨hP20, hM20⟩ ?_)
    have kk0 : w20.cell? ⟨w.heap.size + 2, 0, none⟩ = some (.int .i64 nu) := (hc20 0 (by simp)).1
    have kk1 : w20.cell? ⟨w.heap.size + 2, 1, none⟩ = some (.int .i64 ep) := (hc20 1 (by simp)).1
    have kk2 : w20.cell? ⟨w.heap.size + 2, 2, none⟩ = some (.bool true) := (hc20 2 (by simp)).1
    have kk3 : w20.cell? ⟨w.heap.size + 2, 3, none⟩ = some (.int .i64 2) := (hc20 3 (by simp)).1
    have kk4 : w20.cell? ⟨w.heap.size + 2, 4, none⟩ = some (.int .i64 le) := (hc20 4 (by simp)).1
    have kk5 : w20.cell? ⟨w.heap.size + 2, 5, none⟩ = some (.int .i64 ta) := (hc20 5 (by simp)).1
    have kk6 : w20.cell? ⟨w.heap.size + 2, 6, none⟩ = some (.int .i64 0) := (hc20 6 (by simp)).1
    have kk7 : w20.cell? ⟨w.heap.size + 2, 7, none⟩ = some (.int .i64 0) := (hc20 7 (by simp)).1
    have kk8 : w20.cell? ⟨w.heap.size + 2, 8, none⟩ = some (.slice none 0 0) := (hc20 8 (by simp)).1
    have kk9 : w20.cell? ⟨w.heap.size + 2, 9, none⟩ = some (.string vt) := (hc20 9 (by simp)).1
    have kk10 : w20.cell? ⟨w.heap.size + 2, 10, none⟩ = some (.int .i64 0) := (hc20 10 (by simp)).1
    have kk11 : w20.cell? ⟨w.heap.size + 2, 11, none⟩ = some (.slice (some ⟨w10.heap.size, 0, none⟩) 1 1) := (hc20 11 (by simp)).1
    refine wpAnyH_done (by kernel_rfl) ?_ _
    go_wp2
    refine bodyPost_ret (v := .agg #[.int .i64 nu, .int .i64 ep, .bool true, .int .i64 2, .int .i64 le, .int .i64 ta, .int .i64 0, .int .i64 0, .slice none 0 0, .string vt, .int .i64 0, .slice (some ⟨w10.heap.size, 0, none⟩) 1 1]) (by simp [results, Try.results51, go_sem, kk0, kk1, kk2, kk3, kk4, kk5, kk6, kk7, kk8, kk9, kk10, kk11]) rfl ⟨⟨⟨nu, ep, true, 2, le, ta, 0, 0, [], vt, 0⟩, some ⟨3, nu, ep, le, ta, vt⟩, none, 0, .slice (some ⟨w10.heap.size, 0, none⟩) 1 1, rfl, Own.nil _ _ _, ?_, .inl rfl, .inl ⟨HV.out, HCD.out, HT.out⟩⟩, ?_⟩
    · exact hout.grown hg20 (.inr (by intro hh; have : w10.heap.size = w.heap.size + 2 := Option.some.inj hh; omega))
    · exact below_grown hB11 hg20 (by first | omega | (simp; omega)) (fun q hq => by simp at hq; omega)
  · have hPb := hPd.block (Below.heap_alloc wd (.cells #[.int .i64 3, .int .i64 nu, .int .i64 0, .int .i64 ep, .int .i64 le, .int .i64 ta, .string vt, .slice none 0 0] 75) _ (by omega))
    have hMb := hMd.block (Below.heap_alloc wd (.cells #[.int .i64 3, .int .i64 nu, .int .i64 0, .int .i64 ep, .int .i64 le, .int .i64 ta, .string vt, .slice none 0 0] 75) _ (by omega))
    have hRb := hRd.block (Below.heap_alloc wd (.cells #[.int .i64 3, .int .i64 nu, .int .i64 0, .int .i64 ep, .int .i64 le, .int .i64 ta, .string vt, .slice none 0 0] 75) _ (by omega))
    have hBb := hBd.alloc hBd.size (.cells #[.int .i64 3, .int .i64 nu, .int .i64 0, .int .i64 ep, .int .i64 le, .int .i64 ta, .string vt, .slice none 0 0] 75)
    have hzb : (wd.alloc (.cells #[.int .i64 3, .int .i64 nu, .int .i64 0, .int .i64 ep, .int .i64 le, .int .i64 ta, .string vt, .slice none 0 0] 75)).heap.size = wd.heap.size + 1 := by simp
    have hout : Own w.heap.size (wd.alloc (.cells #[.int .i64 3, .int .i64 nu, .int .i64 0, .int .i64 ep, .int .i64 le, .int .i64 ta, .string vt, .slice none 0 0] 75)) 8 (.slice (some ⟨wd.heap.size, 0, none⟩) 1 1) 1 [.int .i64 3, .int .i64 nu, .int .i64 0, .int .i64 ep, .int .i64 le, .int .i64 ta, .string vt, .slice none 0 0] := outOwn wd w.heap.size ⟨3, nu, ep, le, ta, vt⟩ (by omega)
    obtain ⟨wb, hwb⟩ : ∃ wb, wb = wd.alloc (.cells #[.int .i64 3, .int .i64 nu, .int .i64 0, .int .i64 ep, .int .i64 le, .int .i64 ta, .string vt, .slice none 0 0] 75) := ⟨_, rfl⟩
    rw [← hwb] at hPb hMb hRb hBb hzb hout
    rw [← hwb]
    clear hwb
    refine hOne (by kernel_rfl) (hCall (i := 2) (d := some 52) (f := 44) (args := #[.agg #[.int .i64 nu, .int .i64 ep, .bool true, .int .i64 1, .int .i64 le, .int .i64 ta, .int .i64 co, .int .i64 1, .slice a n c, .string x, .int .i64 0], .iface 87 (.agg #[.int .i64 le, .int .i64 ta, .string vt])]) (l' := #[true, true, true, true, true, false, false]) (R := fun v w' => v = .agg #[.int .i64 nu, .int .i64 ep, .bool true, .int .i64 2, .int .i64 le, .int .i64 ta, .int .i64 0, .int .i64 0, .slice none 0 0, .string vt, .int .i64 0] ∧ Below wb.heap.size wb w') rfl (by kernel_rfl) (by kernel_rfl) (by kernel_rfl) (run_cl2 _ _ _ rfl (by kernel_rfl) (by kernel_rfl) rfl enter_inS) ((inState_2 nu ep true 1 le ta co 1 a n c x 0 le ta vt _).mono fun _ _ ⟨he, hw⟩ => ⟨_, he, rfl, hw⟩) ?_)
    rintro _ w10 ⟨rfl, hb10⟩
    have hP10 := hPb.block (hb10.block w.heap.size (by omega))
    have hM10 := hMb.block (hb10.block w8.heap.size (by omega))
    have hR10 := hRb.block (hb10.block (w.heap.size + 2) (by omega))
    have hB10 := hBb.trans (hb10.mono hBb.size)
    have hz10 : wd.heap.size + 1 ≤ w10.heap.size := by have := hb10.size; omega
    have hout10 := hout.below hb10 (Nat.le_refl _)
    refine ⟨⟨hP10, hM10⟩, ?_⟩
    refine hTake (i := 5) (d := some 55) (v := .agg #[.int .i64 nu, .int .i64 ep, .bool true, .int .i64 2, .int .i64 le, .int .i64 ta, .int .i64 0, .int .i64 0, .slice none 0 0, .string vt, .int .i64 0, .slice (some ⟨wd.heap.size, 0, none⟩) 1 1]) (l' := #[true, true, true, true, true, true, false]) rfl (by kernel_rfl) (by kernel_rfl) (by kernel_rfl) (by kernel_rfl) (fun _ _ _ h => h) (by kernel_rfl) (fun _ hc => run_bd (.tmp 52) (.tmp 54) nu ep true 2 le ta 0 0 none 0 0 vt 0 (some ⟨wd.heap.size, 0, none⟩) 1 1 (by kernel_rfl) (by kernel_rfl) (by kernel_rfl)) ⟨hP10, hM10⟩ (by kernel_rfl) ?_
    obtain ⟨w20, hw20⟩ : ∃ w20, w20 = (w10).setCells (w.heap.size + 2) 0 [.int .i64 nu, .int .i64 ep, .bool true, .int .i64 2, .int .i64 le, .int .i64 ta, .int .i64 0, .int .i64 0, .slice none 0 0, .string vt, .int .i64 0, .slice (some ⟨wd.heap.size, 0, none⟩) 1 1] := ⟨_, rfl⟩
    have hc20 : CF w20 (w.heap.size + 2) [.int .i64 nu, .int .i64 ep, .bool true, .int .i64 2, .int .i64 le, .int .i64 ta, .int .i64 0, .int .i64 0, .slice none 0 0, .string vt, .int .i64 0, .slice (some ⟨wd.heap.size, 0, none⟩) 1 1] := by rw [hw20]; exact hR10.stored rfl
    have hg20 : (w10).grownBy w20 (some (w.heap.size + 2)) := by rw [hw20]; exact grown_setCells _ _ _ _ _ (World.grownBy.refl _ _)
    have hP20 := hP10.block (hg20.block w.heap.size (by first | omega | (simp; omega)) (by simp))
    have hM20 := hM10.block (hg20.block w8.heap.size (by first | omega | (simp; omega)) (by simp; omega))
    refine hOne (by kernel_rfl) (hSkip (i := 6) (w' := w20) (l' := #[true, true, true, true, true, true, true]) rfl (by kernel_rfl) (by kernel_rfl) (by kernel_rfl) (by rw [hw20]; exact run_stT 39 zA [.int .i64 nu, .int .i64 ep, .bool true, .int .i64 2, .int .i64 le, .int .i64 ta, .int .i64 0, .int .i64 0, .slice none 0 0, .string vt, .int .i64 0, .slice (some ⟨wd.heap.size, 0, none⟩) 1 1] (.tmp 4) (.tmp 55) (by kernel_rfl) (by kernel_rfl) (by kernel_rfl) hR10 rfl Try.sizeAc (one12 _ _ _ _ _ _ _ _ _ _ _ _ _ _ _ _)) ⟨hP20, hM20⟩ ?_)
    have kk0 : w20.cell? ⟨w.heap.size + 2, 0, none⟩ = some (.int .i64 nu) := (hc20 0 (by simp)).1
    have kk1 : w20.cell? ⟨w.heap.size + 2, 1, none⟩ = some (.int .i64 ep) := (hc20 1 (by simp)).1
    have kk2 : w20.cell? ⟨w.heap.size + 2, 2, none⟩ = some (.bool true) := (hc20 2 (by simp)).1
    have kk3 : w20.cell? ⟨w.heap.size + 2, 3, none⟩ = some (.int .i64 2) := (hc20 3 (by simp)).1
    have kk4 : w20.cell? ⟨w.heap.size + 2, 4, none⟩ = some (.int .i64 le) := (hc20 4 (by simp)).1
    have kk5 : w20.cell? ⟨w.heap.size + 2, 5, none⟩ = some (.int .i64 ta) := (hc20 5 (by simp)).1
    have kk6 : w20.cell? ⟨w.heap.size + 2, 6, none⟩ = some (.int .i64 0) := (hc20 6 (by simp)).1
    have kk7 : w20.cell? ⟨w.heap.size + 2, 7, none⟩ = some (.int .i64 0) := (hc20 7 (by simp)).1
    have kk8 : w20.cell? ⟨w.heap.size + 2, 8, none⟩ = some (.slice none 0 0) := (hc20 8 (by simp)).1
    have kk9 : w20.cell? ⟨w.heap.size + 2, 9, none⟩ = some (.string vt) := (hc20 9 (by simp)).1
    have kk10 : w20.cell? ⟨w.heap.size + 2, 10, none⟩ = some (.int .i64 0) := (hc20 10 (by simp)).1
    have kk11 : w20.cell? ⟨w.heap.size + 2, 11, none⟩ = some (.slice (some ⟨wd.heap.size, 0, none⟩) 1 1) := (hc20 11 (by simp)).1
    refine wpAnyH_done (by kernel_rfl) ?_ _
    go_wp2
    refine bodyPost_ret (v := .agg #[.int .i64 nu, .int .i64 ep, .bool true, .int .i64 2, .int .i64 le, .int .i64 ta, .int .i64 0, .int .i64 0, .slice none 0 0, .string vt, .int .i64 0, .slice (some ⟨wd.heap.size, 0, none⟩) 1 1]) (by simp [results, Try.results51, go_sem, kk0, kk1, kk2, kk3, kk4, kk5, kk6, kk7, kk8, kk9, kk10, kk11]) rfl ⟨⟨⟨nu, ep, true, 2, le, ta, 0, 0, [], vt, 0⟩, some ⟨3, nu, ep, le, ta, vt⟩, none, 0, .slice (some ⟨wd.heap.size, 0, none⟩) 1 1, rfl, Own.nil _ _ _, ?_, .inl rfl, .inl ⟨HV.out, HCD.out, HT.out⟩⟩, ?_⟩
    · exact hout10.grown hg20 (.inr (by intro hh; have : wd.heap.size = w.heap.size + 2 := Option.some.inj hh; omega))
    · exact below_grown hB10 hg20 (by first | omega | (simp; omega)) (fun q hq => by simp at hq; omega)

theorem iTick_d (nu ep : Int) (le ta co : Int) (a : Option Addr) (b o n c : Nat) (ss : List ByteArray) (x : ByteArray) (si : Int) (pa : Option Addr) (pb po pn pc : Nat) (ts : List TaskD) (w : World) (h : StrsAt w a b o n ss) (hp : TasksAt w pa pb po pn ts) (hok : (⟨nu, ep, true, 1, le, ta, co, 1, ss, x, si⟩ : WD).ok) (hcode : Code ts 0) :
    Calls Try.prog 51 #[.agg #[.int .i64 nu, .int .i64 ep, .bool true, .int .i64 1, .int .i64 le, .int .i64 ta, .int .i64 co, .int .i64 1, .slice a n c, .string x, .int .i64 si], .agg #[.slice pa pn pc]] w fun e w' => RetA e w.heap.size w' (tickR ⟨nu, ep, true, 1, le, ta, co, 1, ss, x, si⟩ ts) ∧ Below w.heap.size w w' := by
  by_cases hs : si < 1000000
  · exact iTick_dt nu ep le ta co a b o n c ss x si pa pb po pn pc ts w h hp hs hok hcode
  · obtain rfl : si = 1000000 := by have := hok.2.2.2.2.2.1; dsimp only at this; omega
    exact iTick_dT nu ep le ta co a b o n c ss x pa pb po pn pc ts w h hp hok hcode
end Go.Proofs.Ytlpmcjlcmjlbeaa
