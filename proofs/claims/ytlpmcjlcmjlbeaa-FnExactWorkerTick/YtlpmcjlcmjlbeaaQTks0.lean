import Derived.Test.YtlpmcjlcmjlbeaaQTk2
namespace Go.Proofs.Ytlpmcjlcmjlbeaa
open Go.RowKit

set_option maxHeartbeats 8000000 in
set_option maxRecDepth 100000 in
theorem sTick_bad (nu ep : Int) (up : Bool) (st le ta co lf : Int) (a : Option Addr) (b o n c : Nat) (ss : List ByteArray) (x : ByteArray) (si : Int) (pa : Option Addr) (pb po pn pc : Nat) (ts : List TaskD) (w : World) (h : StrsAt w a b o n ss) (hp : TasksAt w pa pb po pn ts) (hbad0 : ¬ ((⟨nu, ep, up, st, le, ta, co, lf, ss, x, si⟩ : WD).ok ∧ Code ts 0)) :
    Calls Try.prog 19 #[.agg #[.int .i64 nu, .int .i64 ep, .bool up, .int .i64 st, .int .i64 le, .int .i64 ta, .int .i64 co, .int .i64 lf, .slice a n c, .string x, .int .i64 si], .agg #[.slice pa pn pc]] w fun e w' => RetA e w.heap.size w' (tickR (⟨nu, ep, up, st, le, ta, co, lf, ss, x, si⟩ : WD) ts) ∧ Below w.heap.size w w' := by
  obtain ⟨W, hW⟩ : ∃ W, W = ((w.alloc (.cells #[.int .i64 nu, .int .i64 ep, .bool up, .int .i64 st, .int .i64 le, .int .i64 ta, .int .i64 co, .int .i64 lf, .slice a n c, .string x, .int .i64 si] 27)).alloc (.cells #[.slice pa pn pc] 43)).alloc (.cells zA.toArray 39) := ⟨_, rfl⟩
  have hbW : Below w.heap.size w W := by rw [hW]; exact (((Below.refl _ _).alloc (Nat.le_refl _) _).alloc (by simp) _).alloc (by simp; omega) _
  have hsW : W.heap.size = w.heap.size + 3 := by rw [hW]; simp
  have hP : CF W w.heap.size [.int .i64 nu, .int .i64 ep, .bool up, .int .i64 st, .int .i64 le, .int .i64 ta, .int .i64 co, .int .i64 lf, .slice a n c, .string x, .int .i64 si] := by
    rw [hW]; exact ((CF.made w #[.int .i64 nu, .int .i64 ep, .bool up, .int .i64 st, .int .i64 le, .int .i64 ta, .int .i64 co, .int .i64 lf, .slice a n c, .string x, .int .i64 si] 27).block (Below.heap_alloc _ _ _ (by simp))).block (Below.heap_alloc _ _ _ (by simp; omega))
  have hL : CF W (w.heap.size + 1) [.slice pa pn pc] := by
    rw [hW]
    have := (CF.made (w.alloc (.cells #[.int .i64 nu, .int .i64 ep, .bool up, .int .i64 st, .int .i64 le, .int .i64 ta, .int .i64 co, .int .i64 lf, .slice a n c, .string x, .int .i64 si] 27)) #[.slice pa pn pc] 43).block (Below.heap_alloc ((w.alloc (.cells #[.int .i64 nu, .int .i64 ep, .bool up, .int .i64 st, .int .i64 le, .int .i64 ta, .int .i64 co, .int .i64 lf, .slice a n c, .string x, .int .i64 si] 27)).alloc (.cells #[.slice pa pn pc] 43)) (.cells zA.toArray 39) _ (by simp))
    simpa using this
  have hR : CF W (w.heap.size + 2) zA := by
    rw [hW]
    have := CF.made ((w.alloc (.cells #[.int .i64 nu, .int .i64 ep, .bool up, .int .i64 st, .int .i64 le, .int .i64 ta, .int .i64 co, .int .i64 lf, .slice a n c, .string x, .int .i64 si] 27)).alloc (.cells #[.slice pa pn pc] 43)) zA.toArray 39
    simpa using this
  have hlen := hid h.len
  have hbad := hid hbad0
  clear hbad0
  have hplen := hid hp.len
  simp only [zA] at hW
  have HW := hid hW
  clear hW
  go_enter Try.func19, Try.ntmps19
  go_upto_region 1 with fail
  rw [← HW.out]
  clear HW
  have y0 : W.cell? ⟨w.heap.size, 0, none⟩ = some (.int .i64 nu) := (hP 0 (by simp)).1
  have y1 : W.cell? ⟨w.heap.size, 1, none⟩ = some (.int .i64 ep) := (hP 1 (by simp)).1
  have y2 : W.cell? ⟨w.heap.size, 2, none⟩ = some (.bool up) := (hP 2 (by simp)).1
  have y3 : W.cell? ⟨w.heap.size, 3, none⟩ = some (.int .i64 st) := (hP 3 (by simp)).1
  have y4 : W.cell? ⟨w.heap.size, 4, none⟩ = some (.int .i64 le) := (hP 4 (by simp)).1
  have y5 : W.cell? ⟨w.heap.size, 5, none⟩ = some (.int .i64 ta) := (hP 5 (by simp)).1
  have y6 : W.cell? ⟨w.heap.size, 6, none⟩ = some (.int .i64 co) := (hP 6 (by simp)).1
  have y7 : W.cell? ⟨w.heap.size, 7, none⟩ = some (.int .i64 lf) := (hP 7 (by simp)).1
  have y8 : W.cell? ⟨w.heap.size, 8, none⟩ = some (.slice a n c) := (hP 8 (by simp)).1
  have y9 : W.cell? ⟨w.heap.size, 9, none⟩ = some (.string x) := (hP 9 (by simp)).1
  have y10 : W.cell? ⟨w.heap.size, 10, none⟩ = some (.int .i64 si) := (hP 10 (by simp)).1
  go_wp2_with fail
  refine (sVal_any nu ep up st le ta co lf a b o n c ss x si _ (h.below' hbW)).mono ?_
  rintro e w1 ⟨⟨r, rfl, hr⟩, hb1⟩
  have hP1 := hP.block (hb1.block w.heap.size (by omega))
  have hL1 := hL.block (hb1.block (w.heap.size + 1) (by omega))
  have hR1 := hR.block (hb1.block (w.heap.size + 2) (by omega))
  have hB1 := hbW.trans (hb1.mono hbW.size)
  have hz1 : w.heap.size + 3 ≤ w1.heap.size := by have := hb1.size; omega
  have HR := hid hr
  clear y0 y1 y2 y3 y4 y5 y6 y7 y8 y9 y10 hr hb1 hP hL hR hsW hbW
  cases r with
  | false =>
    go_upto_region 2 with fail
    go_wp2_with (refine wpList_store_cf rfl 39 (.tmp 4) (.tmp 16) rfl (w.heap.size + 2) zA [.int .i64 0, .int .i64 0, .bool false, .int .i64 0, .int .i64 0, .int .i64 0, .int .i64 0, .int .i64 0, .slice none 0 0, .string ⟨#[]⟩, .int .i64 0, .slice none 0 0] rfl rfl hR1 rfl Try.sizeAc (one12 _ _ _ _ _ _ _ _ _ _ _ _ _ _ _ _) ?_; intro w10 hc10 hg10)
    have kk0 : w10.cell? ⟨w.heap.size + 2, 0, none⟩ = some (.int .i64 0) := (hc10 0 (by simp)).1
    have kk1 : w10.cell? ⟨w.heap.size + 2, 1, none⟩ = some (.int .i64 0) := (hc10 1 (by simp)).1
    have kk2 : w10.cell? ⟨w.heap.size + 2, 2, none⟩ = some (.bool false) := (hc10 2 (by simp)).1
    have kk3 : w10.cell? ⟨w.heap.size + 2, 3, none⟩ = some (.int .i64 0) := (hc10 3 (by simp)).1
    have kk4 : w10.cell? ⟨w.heap.size + 2, 4, none⟩ = some (.int .i64 0) := (hc10 4 (by simp)).1
    have kk5 : w10.cell? ⟨w.heap.size + 2, 5, none⟩ = some (.int .i64 0) := (hc10 5 (by simp)).1
    have kk6 : w10.cell? ⟨w.heap.size + 2, 6, none⟩ = some (.int .i64 0) := (hc10 6 (by simp)).1
    have kk7 : w10.cell? ⟨w.heap.size + 2, 7, none⟩ = some (.int .i64 0) := (hc10 7 (by simp)).1
    have kk8 : w10.cell? ⟨w.heap.size + 2, 8, none⟩ = some (.slice none 0 0) := (hc10 8 (by simp)).1
    have kk9 : w10.cell? ⟨w.heap.size + 2, 9, none⟩ = some (.string ⟨#[]⟩) := (hc10 9 (by simp)).1
    have kk10 : w10.cell? ⟨w.heap.size + 2, 10, none⟩ = some (.int .i64 0) := (hc10 10 (by simp)).1
    have kk11 : w10.cell? ⟨w.heap.size + 2, 11, none⟩ = some (.slice none 0 0) := (hc10 11 (by simp)).1
    exact bodyPost_ret (v := .agg #[.int .i64 0, .int .i64 0, .bool false, .int .i64 0, .int .i64 0, .int .i64 0, .int .i64 0, .int .i64 0, .slice none 0 0, .string ⟨#[]⟩, .int .i64 0, .slice none 0 0]) (by simp [results, Try.results19, go_sem, kk0, kk1, kk2, kk3, kk4, kk5, kk6, kk7, kk8, kk9, kk10, kk11]) rfl ⟨⟨zWD, none, none, 0, .slice none 0 0, rfl, Own.nil _ _ _, Own.nil _ _ _, .inl rfl, .inr ⟨hbad.out, rfl⟩⟩, below_grown hB1 hg10 (by omega) (fun q hq => by simp at hq; omega)⟩
  | true =>
    have HV : Hid (⟨nu, ep, up, st, le, ta, co, lf, ss, x, si⟩ : WD).ok := HR.out.1 rfl
    have kp : w1.cell? ⟨w.heap.size + 1, 0, none⟩ = some (.slice pa pn pc) := (hL1 0 (by simp)).1
    go_wp2_with fail
    refine (specCheckPlan_any pa pb po pn pc ts _ (hp.below' hB1)).mono ?_
    rintro e w2 ⟨⟨cd, rfl, hcd⟩, hb2⟩
    have hP2 := hP1.block (hb2.block w.heap.size (by omega))
    have hL2 := hL1.block (hb2.block (w.heap.size + 1) (by omega))
    have hR2 := hR1.block (hb2.block (w.heap.size + 2) (by omega))
    have hB2 := hB1.trans (hb2.mono hB1.size)
    have hz2 : w.heap.size + 3 ≤ w2.heap.size := by have := hb2.size; omega
    have HCD := hid hcd
    clear kp hP1 hL1 hR1 hB1 hz1 hb2 HR hcd
    have hc0 : ¬ cd = 0 := fun hh => by subst hh; exact hbad.out ⟨HV.out, HCD.out⟩
    have hc0' : (cd == 0) = false := by simpa using hc0
    go_upto_region 2 with fail
    go_wp2_with (refine wpList_store_cf rfl 39 (.tmp 4) (.tmp 16) rfl (w.heap.size + 2) zA [.int .i64 0, .int .i64 0, .bool false, .int .i64 0, .int .i64 0, .int .i64 0, .int .i64 0, .int .i64 0, .slice none 0 0, .string ⟨#[]⟩, .int .i64 0, .slice none 0 0] rfl rfl hR2 rfl Try.sizeAc (one12 _ _ _ _ _ _ _ _ _ _ _ _ _ _ _ _) ?_; intro w10 hc10 hg10)
    have kk0 : w10.cell? ⟨w.heap.size + 2, 0, none⟩ = some (.int .i64 0) := (hc10 0 (by simp)).1
    have kk1 : w10.cell? ⟨w.heap.size + 2, 1, none⟩ = some (.int .i64 0) := (hc10 1 (by simp)).1
    have kk2 : w10.cell? ⟨w.heap.size + 2, 2, none⟩ = some (.bool false) := (hc10 2 (by simp)).1
    have kk3 : w10.cell? ⟨w.heap.size + 2, 3, none⟩ = some (.int .i64 0) := (hc10 3 (by simp)).1
    have kk4 : w10.cell? ⟨w.heap.size + 2, 4, none⟩ = some (.int .i64 0) := (hc10 4 (by simp)).1
    have kk5 : w10.cell? ⟨w.heap.size + 2, 5, none⟩ = some (.int .i64 0) := (hc10 5 (by simp)).1
    have kk6 : w10.cell? ⟨w.heap.size + 2, 6, none⟩ = some (.int .i64 0) := (hc10 6 (by simp)).1
    have kk7 : w10.cell? ⟨w.heap.size + 2, 7, none⟩ = some (.int .i64 0) := (hc10 7 (by simp)).1
    have kk8 : w10.cell? ⟨w.heap.size + 2, 8, none⟩ = some (.slice none 0 0) := (hc10 8 (by simp)).1
    have kk9 : w10.cell? ⟨w.heap.size + 2, 9, none⟩ = some (.string ⟨#[]⟩) := (hc10 9 (by simp)).1
    have kk10 : w10.cell? ⟨w.heap.size + 2, 10, none⟩ = some (.int .i64 0) := (hc10 10 (by simp)).1
    have kk11 : w10.cell? ⟨w.heap.size + 2, 11, none⟩ = some (.slice none 0 0) := (hc10 11 (by simp)).1
    exact bodyPost_ret (v := .agg #[.int .i64 0, .int .i64 0, .bool false, .int .i64 0, .int .i64 0, .int .i64 0, .int .i64 0, .int .i64 0, .slice none 0 0, .string ⟨#[]⟩, .int .i64 0, .slice none 0 0]) (by simp [results, Try.results19, go_sem, kk0, kk1, kk2, kk3, kk4, kk5, kk6, kk7, kk8, kk9, kk10, kk11]) rfl ⟨⟨zWD, none, none, 0, .slice none 0 0, rfl, Own.nil _ _ _, Own.nil _ _ _, .inl rfl, .inr ⟨hbad.out, rfl⟩⟩, below_grown hB2 hg10 (by omega) (fun q hq => by simp at hq; omega)⟩

set_option maxHeartbeats 8000000 in
set_option maxRecDepth 100000 in
theorem sTick_dn (nu ep : Int) (st le ta co lf : Int) (a : Option Addr) (b o n c : Nat) (ss : List ByteArray) (x : ByteArray) (si : Int) (pa : Option Addr) (pb po pn pc : Nat) (ts : List TaskD) (w : World) (h : StrsAt w a b o n ss) (hp : TasksAt w pa pb po pn ts) (hok : (⟨nu, ep, false, st, le, ta, co, lf, ss, x, si⟩ : WD).ok) (hcode : Code ts 0) :
    Calls Try.prog 19 #[.agg #[.int .i64 nu, .int .i64 ep, .bool false, .int .i64 st, .int .i64 le, .int .i64 ta, .int .i64 co, .int .i64 lf, .slice a n c, .string x, .int .i64 si], .agg #[.slice pa pn pc]] w fun e w' => RetA e w.heap.size w' (tickR (⟨nu, ep, false, st, le, ta, co, lf, ss, x, si⟩ : WD) ts) ∧ Below w.heap.size w w' := by
  obtain ⟨W, hW⟩ : ∃ W, W = ((w.alloc (.cells #[.int .i64 nu, .int .i64 ep, .bool false, .int .i64 st, .int .i64 le, .int .i64 ta, .int .i64 co, .int .i64 lf, .slice a n c, .string x, .int .i64 si] 27)).alloc (.cells #[.slice pa pn pc] 43)).alloc (.cells zA.toArray 39) := ⟨_, rfl⟩
  have hbW : Below w.heap.size w W := by rw [hW]; exact (((Below.refl _ _).alloc (Nat.le_refl _) _).alloc (by simp) _).alloc (by simp; omega) _
  have hsW : W.heap.size = w.heap.size + 3 := by rw [hW]; simp
  have hP : CF W w.heap.size [.int .i64 nu, .int .i64 ep, .bool false, .int .i64 st, .int .i64 le, .int .i64 ta, .int .i64 co, .int .i64 lf, .slice a n c, .string x, .int .i64 si] := by
    rw [hW]; exact ((CF.made w #[.int .i64 nu, .int .i64 ep, .bool false, .int .i64 st, .int .i64 le, .int .i64 ta, .int .i64 co, .int .i64 lf, .slice a n c, .string x, .int .i64 si] 27).block (Below.heap_alloc _ _ _ (by simp))).block (Below.heap_alloc _ _ _ (by simp; omega))
  have hL : CF W (w.heap.size + 1) [.slice pa pn pc] := by
    rw [hW]
    have := (CF.made (w.alloc (.cells #[.int .i64 nu, .int .i64 ep, .bool false, .int .i64 st, .int .i64 le, .int .i64 ta, .int .i64 co, .int .i64 lf, .slice a n c, .string x, .int .i64 si] 27)) #[.slice pa pn pc] 43).block (Below.heap_alloc ((w.alloc (.cells #[.int .i64 nu, .int .i64 ep, .bool false, .int .i64 st, .int .i64 le, .int .i64 ta, .int .i64 co, .int .i64 lf, .slice a n c, .string x, .int .i64 si] 27)).alloc (.cells #[.slice pa pn pc] 43)) (.cells zA.toArray 39) _ (by simp))
    simpa using this
  have hR : CF W (w.heap.size + 2) zA := by
    rw [hW]
    have := CF.made ((w.alloc (.cells #[.int .i64 nu, .int .i64 ep, .bool false, .int .i64 st, .int .i64 le, .int .i64 ta, .int .i64 co, .int .i64 lf, .slice a n c, .string x, .int .i64 si] 27)).alloc (.cells #[.slice pa pn pc] 43)) zA.toArray 39
    simpa using this
  have hlen := hid h.len
  have hplen := hid hp.len
  simp only [zA] at hW
  have HW := hid hW
  clear hW
  go_enter Try.func19, Try.ntmps19
  go_upto_region 1 with fail
  rw [← HW.out]
  clear HW
  have y0 : W.cell? ⟨w.heap.size, 0, none⟩ = some (.int .i64 nu) := (hP 0 (by simp)).1
  have y1 : W.cell? ⟨w.heap.size, 1, none⟩ = some (.int .i64 ep) := (hP 1 (by simp)).1
  have y2 : W.cell? ⟨w.heap.size, 2, none⟩ = some (.bool false) := (hP 2 (by simp)).1
  have y3 : W.cell? ⟨w.heap.size, 3, none⟩ = some (.int .i64 st) := (hP 3 (by simp)).1
  have y4 : W.cell? ⟨w.heap.size, 4, none⟩ = some (.int .i64 le) := (hP 4 (by simp)).1
  have y5 : W.cell? ⟨w.heap.size, 5, none⟩ = some (.int .i64 ta) := (hP 5 (by simp)).1
  have y6 : W.cell? ⟨w.heap.size, 6, none⟩ = some (.int .i64 co) := (hP 6 (by simp)).1
  have y7 : W.cell? ⟨w.heap.size, 7, none⟩ = some (.int .i64 lf) := (hP 7 (by simp)).1
  have y8 : W.cell? ⟨w.heap.size, 8, none⟩ = some (.slice a n c) := (hP 8 (by simp)).1
  have y9 : W.cell? ⟨w.heap.size, 9, none⟩ = some (.string x) := (hP 9 (by simp)).1
  have y10 : W.cell? ⟨w.heap.size, 10, none⟩ = some (.int .i64 si) := (hP 10 (by simp)).1
  go_wp2_with fail
  refine (sVal_any nu ep false st le ta co lf a b o n c ss x si _ (h.below' hbW)).mono ?_
  rintro e w1 ⟨⟨r, rfl, hr⟩, hb1⟩
  have hP1 := hP.block (hb1.block w.heap.size (by omega))
  have hL1 := hL.block (hb1.block (w.heap.size + 1) (by omega))
  have hR1 := hR.block (hb1.block (w.heap.size + 2) (by omega))
  have hB1 := hbW.trans (hb1.mono hbW.size)
  have hz1 : w.heap.size + 3 ≤ w1.heap.size := by have := hb1.size; omega
  have HR := hid hr
  clear y0 y1 y2 y3 y4 y5 y6 y7 y8 y9 y10 hr hb1 hP hL hR hsW hbW
  have HV := hid hok
  have HC := hid hcode
  clear hok hcode
  obtain rfl : r = true := HR.out.2 HV.out
  have hn8 : n ≤ 8 := by have := (WD.ok.small HV.out).1; rw [hlen.out] at this; exact this
  have kp : w1.cell? ⟨w.heap.size + 1, 0, none⟩ = some (.slice pa pn pc) := (hL1 0 (by simp)).1
  go_wp2_with fail
  refine (specCheckPlan_any pa pb po pn pc ts _ (hp.below' hB1)).mono ?_
  rintro e w2 ⟨⟨cd, rfl, hcd⟩, hb2⟩
  have hP2 := hP1.block (hb2.block w.heap.size (by omega))
  have hL2 := hL1.block (hb2.block (w.heap.size + 1) (by omega))
  have hR2 := hR1.block (hb2.block (w.heap.size + 2) (by omega))
  have hB2 := hB1.trans (hb2.mono hB1.size)
  have hz2 : w.heap.size + 3 ≤ w2.heap.size := by have := hb2.size; omega
  have HCD := hid hcd
  clear kp hP1 hL1 hR1 hB1 hz1 hb2 HR hcd
  obtain rfl : cd = 0 := HCD.out.one HC.out
  clear HC
  have hw2 := h.below' hB2
  have y0 : w2.cell? ⟨w.heap.size, 0, none⟩ = some (.int .i64 nu) := (hP2 0 (by simp)).1
  have y1 : w2.cell? ⟨w.heap.size, 1, none⟩ = some (.int .i64 ep) := (hP2 1 (by simp)).1
  have y2 : w2.cell? ⟨w.heap.size, 2, none⟩ = some (.bool false) := (hP2 2 (by simp)).1
  have y3 : w2.cell? ⟨w.heap.size, 3, none⟩ = some (.int .i64 st) := (hP2 3 (by simp)).1
  have y4 : w2.cell? ⟨w.heap.size, 4, none⟩ = some (.int .i64 le) := (hP2 4 (by simp)).1
  have y5 : w2.cell? ⟨w.heap.size, 5, none⟩ = some (.int .i64 ta) := (hP2 5 (by simp)).1
  have y6 : w2.cell? ⟨w.heap.size, 6, none⟩ = some (.int .i64 co) := (hP2 6 (by simp)).1
  have y7 : w2.cell? ⟨w.heap.size, 7, none⟩ = some (.int .i64 lf) := (hP2 7 (by simp)).1
  have y8 : w2.cell? ⟨w.heap.size, 8, none⟩ = some (.slice a n c) := (hP2 8 (by simp)).1
  have y9 : w2.cell? ⟨w.heap.size, 9, none⟩ = some (.string x) := (hP2 9 (by simp)).1
  have y10 : w2.cell? ⟨w.heap.size, 10, none⟩ = some (.int .i64 si) := (hP2 10 (by simp)).1
  go_upto_region 4 with (go_at_call 43; refine (l3Copy_any nu ep false st le ta co lf a b o n c ss x si _ hw2 (by omega)).mono ?_; rintro e w3 ⟨a1, c1, rfl, ho3, hb3⟩; have hL3 := hL2.block (hb3.block (w.heap.size + 1) (by omega)); have hR3 := hR2.block (hb3.block (w.heap.size + 2) (by omega)); have hB3 := hB2.trans (hb3.mono hB2.size); have hz3 : w.heap.size + 3 ≤ w3.heap.size := (by have := hb3.size; omega); clear hP2 hL2 hR2 hB2 hb3 hw2)
  clear y0 y1 y2 y3 y4 y5 y6 y7 y8 y9 y10
  have kp : w3.cell? ⟨w.heap.size + 1, 0, none⟩ = some (.slice pa pn pc) := (hL3 0 (by simp)).1
  have hlp : w.heap.size + 1 < w3.heap.size := by omega
  have v5 : 0 ≤ si := HV.out.2.2.2.2.1
  have v6 : si ≤ 1000000 := HV.out.2.2.2.2.2.1
  go_upto_region 5 with fail
  have hR4 := hR3.block (Below.heap_alloc w3 (.cells #[.int .i64 nu, .int .i64 ep, .bool false, .int .i64 st, .int .i64 le, .int .i64 ta, .int .i64 co, .int .i64 lf, .slice a1 n c1, .string x, .int .i64 si] 27) _ (by omega))
  have hB4 := hB3.alloc hB3.size (.cells #[.int .i64 nu, .int .i64 ep, .bool false, .int .i64 st, .int .i64 le, .int .i64 ta, .int .i64 co, .int .i64 lf, .slice a1 n c1, .string x, .int .i64 si] 27)
  have ho4 := ho3.alloc (.cells #[.int .i64 nu, .int .i64 ep, .bool false, .int .i64 st, .int .i64 le, .int .i64 ta, .int .i64 co, .int .i64 lf, .slice a1 n c1, .string x, .int .i64 si] 27)
  obtain ⟨WX, hWX⟩ : ∃ WX, WX = w3.alloc (.cells #[.int .i64 nu, .int .i64 ep, .bool false, .int .i64 st, .int .i64 le, .int .i64 ta, .int .i64 co, .int .i64 lf, .slice a1 n c1, .string x, .int .i64 si] 27) := ⟨_, rfl⟩
  have hX4 : CF WX w3.heap.size [.int .i64 nu, .int .i64 ep, .bool false, .int .i64 st, .int .i64 le, .int .i64 ta, .int .i64 co, .int .i64 lf, .slice a1 n c1, .string x, .int .i64 si] := by rw [hWX]; exact CF.made w3 #[.int .i64 nu, .int .i64 ep, .bool false, .int .i64 st, .int .i64 le, .int .i64 ta, .int .i64 co, .int .i64 lf, .slice a1 n c1, .string x, .int .i64 si] 27
  have hz4 : w3.heap.size < WX.heap.size := by rw [hWX]; simp
  rw [← hWX] at hR4 hB4 ho4
  rw [← hWX]
  clear hWX
  have z0 : WX.cell? ⟨w3.heap.size, 0, none⟩ = some (.int .i64 nu) := (hX4 0 (by simp)).1
  have z1 : WX.cell? ⟨w3.heap.size, 1, none⟩ = some (.int .i64 ep) := (hX4 1 (by simp)).1
  have z2 : WX.cell? ⟨w3.heap.size, 2, none⟩ = some (.bool false) := (hX4 2 (by simp)).1
  have z3 : WX.cell? ⟨w3.heap.size, 3, none⟩ = some (.int .i64 st) := (hX4 3 (by simp)).1
  have z4 : WX.cell? ⟨w3.heap.size, 4, none⟩ = some (.int .i64 le) := (hX4 4 (by simp)).1
  have z5 : WX.cell? ⟨w3.heap.size, 5, none⟩ = some (.int .i64 ta) := (hX4 5 (by simp)).1
  have z6 : WX.cell? ⟨w3.heap.size, 6, none⟩ = some (.int .i64 co) := (hX4 6 (by simp)).1
  have z7 : WX.cell? ⟨w3.heap.size, 7, none⟩ = some (.int .i64 lf) := (hX4 7 (by simp)).1
  have z8 : WX.cell? ⟨w3.heap.size, 8, none⟩ = some (.slice a1 n c1) := (hX4 8 (by simp)).1
  have z9 : WX.cell? ⟨w3.heap.size, 9, none⟩ = some (.string x) := (hX4 9 (by simp)).1
  have z10 : WX.cell? ⟨w3.heap.size, 10, none⟩ = some (.int .i64 si) := (hX4 10 (by simp)).1
  go_wp2_with (refine wpList_store_cf rfl 39 (.tmp 4) (.tmp 23) rfl (w.heap.size + 2) zA [.int .i64 nu, .int .i64 ep, .bool false, .int .i64 st, .int .i64 le, .int .i64 ta, .int .i64 co, .int .i64 lf, .slice a1 n c1, .string x, .int .i64 si, .slice none 0 0] rfl rfl hR4 rfl Try.sizeAc (one12 _ _ _ _ _ _ _ _ _ _ _ _ _ _ _ _) ?_; intro w10 hc10 hg10)
  have kk0 : w10.cell? ⟨w.heap.size + 2, 0, none⟩ = some (.int .i64 nu) := (hc10 0 (by simp)).1
  have kk1 : w10.cell? ⟨w.heap.size + 2, 1, none⟩ = some (.int .i64 ep) := (hc10 1 (by simp)).1
  have kk2 : w10.cell? ⟨w.heap.size + 2, 2, none⟩ = some (.bool false) := (hc10 2 (by simp)).1
  have kk3 : w10.cell? ⟨w.heap.size + 2, 3, none⟩ = some (.int .i64 st) := (hc10 3 (by simp)).1
  have kk4 : w10.cell? ⟨w.heap.size + 2, 4, none⟩ = some (.int .i64 le) := (hc10 4 (by simp)).1
  have kk5 : w10.cell? ⟨w.heap.size + 2, 5, none⟩ = some (.int .i64 ta) := (hc10 5 (by simp)).1
  have kk6 : w10.cell? ⟨w.heap.size + 2, 6, none⟩ = some (.int .i64 co) := (hc10 6 (by simp)).1
  have kk7 : w10.cell? ⟨w.heap.size + 2, 7, none⟩ = some (.int .i64 lf) := (hc10 7 (by simp)).1
  have kk8 : w10.cell? ⟨w.heap.size + 2, 8, none⟩ = some (.slice a1 n c1) := (hc10 8 (by simp)).1
  have kk9 : w10.cell? ⟨w.heap.size + 2, 9, none⟩ = some (.string x) := (hc10 9 (by simp)).1
  have kk10 : w10.cell? ⟨w.heap.size + 2, 10, none⟩ = some (.int .i64 si) := (hc10 10 (by simp)).1
  have kk11 : w10.cell? ⟨w.heap.size + 2, 11, none⟩ = some (.slice none 0 0) := (hc10 11 (by simp)).1
  exact bodyPost_ret (v := .agg #[.int .i64 nu, .int .i64 ep, .bool false, .int .i64 st, .int .i64 le, .int .i64 ta, .int .i64 co, .int .i64 lf, .slice a1 n c1, .string x, .int .i64 si, .slice none 0 0]) (by simp [results, Try.results19, go_sem, kk0, kk1, kk2, kk3, kk4, kk5, kk6, kk7, kk8, kk9, kk10, kk11]) rfl ⟨⟨⟨nu, ep, false, st, le, ta, co, lf, ss, x, si⟩, none, a1, c1, .slice none 0 0, (by simp only [hlen.out]), (by rw [hlen.out]; exact (ho4.grown hg10 (.inr (by intro hh; have := ho3.row_lo _ hh; omega))).mono' (by omega)), Own.nil _ _ _, (dis_of (fun q _ hh => by cases hh)), .inl ⟨HV.out, HCD.out, (tick_dn _ _ _ _ _ _ _ _ _ _ _).symm⟩⟩, below_grown hB4 hg10 (by omega) (fun q hq => by simp at hq; omega)⟩
end Go.Proofs.Ytlpmcjlcmjlbeaa
