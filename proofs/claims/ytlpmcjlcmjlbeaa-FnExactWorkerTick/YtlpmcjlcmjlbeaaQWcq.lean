import Derived.Test.YtlpmcjlcmjlbeaaQWcp
namespace Go.Proofs.Ytlpmcjlcmjlbeaa
open Go.RowKit

set_option maxHeartbeats 4000000 in
set_option maxRecDepth 100000 in
theorem parts_1 (l2 t2 c2 f2 : Int) (a : Option Addr) (b o n c : Nat) (ss : List ByteArray) (w : World) (h : StrsAt w a b o n ss) (hn : n ≤ 1048576) :
    Calls Try.prog 97 #[.agg #[.int .i64 l2, .int .i64 t2, .int .i64 c2, .int .i64 f2, .slice a n c]] w fun e w' => ∃ a1 c1, e = .returned (.agg #[.int .i64 0, .int .i64 0, .bool false, .int .i64 1, .int .i64 l2, .int .i64 t2, .int .i64 c2, .int .i64 f2, .slice a1 n c1, .string ⟨#[]⟩, .int .i64 0]) ∧ Own w.heap.size w' 1 (.slice a1 n c1) n (ss.map Value.string) ∧ Below w.heap.size w w' := by
  obtain ⟨i0, hi, hz0, hz1, hz2⟩ := info_parts Try.info9
  obtain ⟨W, hW⟩ : ∃ W, W = (w.alloc (.cells #[.int .i64 l2, .int .i64 t2, .int .i64 c2, .int .i64 f2, .slice a n c] 85)).alloc (.cells zW.toArray 27) := ⟨_, rfl⟩
  have hbW : Below w.heap.size w W := by rw [hW]; exact ((Below.refl _ _).alloc (Nat.le_refl _) _).alloc (by simp) _
  have hsW : W.heap.size = w.heap.size + 2 := by rw [hW]; simp
  have hP : CF W w.heap.size [.int .i64 l2, .int .i64 t2, .int .i64 c2, .int .i64 f2, .slice a n c] := by
    rw [hW]; exact (CF.made w #[.int .i64 l2, .int .i64 t2, .int .i64 c2, .int .i64 f2, .slice a n c] 85).block (Below.heap_alloc _ _ _ (by simp))
  have hR : CF W (w.heap.size + 1) zW := by
    rw [hW]
    have := CF.made (w.alloc (.cells #[.int .i64 l2, .int .i64 t2, .int .i64 c2, .int .i64 f2, .slice a n c] 85)) zW.toArray 27
    simpa using this
  have hown0 : Own (w.heap.size + 2) W 1 (.slice none 0 0) 0 [] := Own.nil _ _ _
  have hsrc : Src Try.prog 1 22 (.slice a n c) n (ss.map Value.string) W := (h.below' hbW).src c
  have c4 : W.cell? ⟨w.heap.size, 4, none⟩ = some (.slice a n c) := (hP 4 (by simp)).1
  have hleE : w.heap.size + 2 ≤ W.heap.size := by omega
  simp only [zW] at hW
  have HW := hid hW
  have HsW := hid hsW
  clear hW hsW
  go_enter Try.func97, Try.ntmps97
  go_upto_region 1 with fail
  rw [← HW.out]
  clear HW
  go_upto_region 2 with (at_builtin; refine wpList_append_c _ rfl _ _ 22 22 rfl (w.heap.size + 2) 9 i0 (.string ⟨#[]⟩) 1 16 Try.underlying22 hi hz0 hz1 hz2 rfl _ 0 _ rfl hown0 _ n _ rfl hsrc (by unfold maxLen; omega) (by omega) hleE ?_; intro v1 w1 ho1 hg1 hbk1; rw [Nat.zero_add, List.nil_append] at ho1; obtain ⟨a1, c1, rfl⟩ := ho1.slc; have hrow : ∀ q, (Value.slice none 0 0).ownBlock = some q → w.heap.size + 2 ≤ q := (fun q hq => hown0.row_lo q hq); have hP1 := hP.block (hg1.block w.heap.size (by have := HsW.out; omega) (fun e => by have := hrow _ e.symm; omega)); have hR1 := hR.block (hg1.block (w.heap.size + 1) (by have := HsW.out; omega) (fun e => by have := hrow _ e.symm; omega)); have hb1 := below_grown hbW hg1 (by omega) (fun q hq => by have := hrow q hq; omega); have hz1' := hg1.size; have hzF : w.heap.size + 1 < w1.heap.size := (by have := HsW.out; omega))
  have y0 : w1.cell? ⟨w.heap.size, 0, none⟩ = some (.int .i64 l2) := (hP1 0 (by simp)).1
  have y1 : w1.cell? ⟨w.heap.size, 1, none⟩ = some (.int .i64 t2) := (hP1 1 (by simp)).1
  have y2 : w1.cell? ⟨w.heap.size, 2, none⟩ = some (.int .i64 c2) := (hP1 2 (by simp)).1
  have y3 : w1.cell? ⟨w.heap.size, 3, none⟩ = some (.int .i64 f2) := (hP1 3 (by simp)).1
  have y4 : w1.cell? ⟨w.heap.size, 4, none⟩ = some (.slice a n c) := (hP1 4 (by simp)).1
  clear hP hR hown0 hsrc c4 hP1 hbk1 hg1 hbW HsW hleE hz1' hrow
  go_wp2_with (refine wpList_store_cf rfl 27 (.tmp 2) (.tmp 16) rfl (w.heap.size + 1) zW [.int .i64 0, .int .i64 0, .bool false, .int .i64 1, .int .i64 l2, .int .i64 t2, .int .i64 c2, .int .i64 f2, .slice a1 n c1, .string ⟨#[]⟩, .int .i64 0] rfl rfl hR1 rfl Try.sizeWk (one11 _ _ _ _ _ _ _ _ _ _ _ _ _) ?_; intro w10 hc10 hg10)
  have kk0 : w10.cell? ⟨w.heap.size + 1, 0, none⟩ = some (.int .i64 0) := (hc10 0 (by simp)).1
  have kk1 : w10.cell? ⟨w.heap.size + 1, 1, none⟩ = some (.int .i64 0) := (hc10 1 (by simp)).1
  have kk2 : w10.cell? ⟨w.heap.size + 1, 2, none⟩ = some (.bool false) := (hc10 2 (by simp)).1
  have kk3 : w10.cell? ⟨w.heap.size + 1, 3, none⟩ = some (.int .i64 1) := (hc10 3 (by simp)).1
  have kk4 : w10.cell? ⟨w.heap.size + 1, 4, none⟩ = some (.int .i64 l2) := (hc10 4 (by simp)).1
  have kk5 : w10.cell? ⟨w.heap.size + 1, 5, none⟩ = some (.int .i64 t2) := (hc10 5 (by simp)).1
  have kk6 : w10.cell? ⟨w.heap.size + 1, 6, none⟩ = some (.int .i64 c2) := (hc10 6 (by simp)).1
  have kk7 : w10.cell? ⟨w.heap.size + 1, 7, none⟩ = some (.int .i64 f2) := (hc10 7 (by simp)).1
  have kk8 : w10.cell? ⟨w.heap.size + 1, 8, none⟩ = some (.slice a1 n c1) := (hc10 8 (by simp)).1
  have kk9 : w10.cell? ⟨w.heap.size + 1, 9, none⟩ = some (.string ⟨#[]⟩) := (hc10 9 (by simp)).1
  have kk10 : w10.cell? ⟨w.heap.size + 1, 10, none⟩ = some (.int .i64 0) := (hc10 10 (by simp)).1
  refine bodyPost_ret (v := .agg #[.int .i64 0, .int .i64 0, .bool false, .int .i64 1, .int .i64 l2, .int .i64 t2, .int .i64 c2, .int .i64 f2, .slice a1 n c1, .string ⟨#[]⟩, .int .i64 0]) (by simp [results, Try.results97, go_sem, kk0, kk1, kk2, kk3, kk4, kk5, kk6, kk7, kk8, kk9, kk10]) rfl ⟨a1, c1, rfl, ?_, ?_⟩
  · exact (ho1.grown hg10 (.inr (by intro hh; have := ho1.row_lo _ hh; omega))).mono' (by omega)
  · exact below_grown hb1 hg10 (by omega) (fun q hq => by simp at hq; omega)

set_option maxHeartbeats 4000000 in
set_option maxRecDepth 100000 in
theorem inState_1 (nu ep : Int) (up : Bool) (st le ta co lf : Int) (a0 : Option Addr) (n0 c0 : Nat) (x : ByteArray) (si : Int) (l2 t2 c2 f2 : Int) (a : Option Addr) (b o n c : Nat) (ss : List ByteArray) (w : World) (h : StrsAt w a b o n ss) (hn : n ≤ 1048576) :
    Calls Try.prog 44 #[.agg #[.int .i64 nu, .int .i64 ep, .bool up, .int .i64 st, .int .i64 le, .int .i64 ta, .int .i64 co, .int .i64 lf, .slice a0 n0 c0, .string x, .int .i64 si], .iface 85 (.agg #[.int .i64 l2, .int .i64 t2, .int .i64 c2, .int .i64 f2, .slice a n c])] w fun e w' => ∃ a1 c1, e = .returned (.agg #[.int .i64 nu, .int .i64 ep, .bool up, .int .i64 1, .int .i64 l2, .int .i64 t2, .int .i64 c2, .int .i64 f2, .slice a1 n c1, .string ⟨#[]⟩, .int .i64 si]) ∧ Own w.heap.size w' 1 (.slice a1 n c1) n (ss.map Value.string) ∧ Below w.heap.size w w' := by
  obtain ⟨W, hW⟩ : ∃ W, W = (w.alloc (.cells #[.int .i64 nu, .int .i64 ep, .bool up, .int .i64 st, .int .i64 le, .int .i64 ta, .int .i64 co, .int .i64 lf, .slice a0 n0 c0, .string x, .int .i64 si] 27)).alloc (.cells zW.toArray 27) := ⟨_, rfl⟩
  have hbW : Below w.heap.size w W := by rw [hW]; exact ((Below.refl _ _).alloc (Nat.le_refl _) _).alloc (by simp) _
  have hsW : W.heap.size = w.heap.size + 2 := by rw [hW]; simp
  have hP : CF W w.heap.size [.int .i64 nu, .int .i64 ep, .bool up, .int .i64 st, .int .i64 le, .int .i64 ta, .int .i64 co, .int .i64 lf, .slice a0 n0 c0, .string x, .int .i64 si] := by
    rw [hW]; exact (CF.made w #[.int .i64 nu, .int .i64 ep, .bool up, .int .i64 st, .int .i64 le, .int .i64 ta, .int .i64 co, .int .i64 lf, .slice a0 n0 c0, .string x, .int .i64 si] 27).block (Below.heap_alloc _ _ _ (by simp))
  have hR : CF W (w.heap.size + 1) zW := by
    rw [hW]
    have := CF.made (w.alloc (.cells #[.int .i64 nu, .int .i64 ep, .bool up, .int .i64 st, .int .i64 le, .int .i64 ta, .int .i64 co, .int .i64 lf, .slice a0 n0 c0, .string x, .int .i64 si] 27)) zW.toArray 27
    simpa using this
  simp only [zW] at hW
  have HW := hid hW
  clear hW
  go_enter Try.func44, Try.ntmps44
  go_upto_region 1 with fail
  rw [← HW.out]
  clear HW
  go_upto_region 2 with (go_at_call 97; refine (parts_1 l2 t2 c2 f2 a b o n c ss _ (h.below' hbW) hn).mono ?_; rintro e w1 ⟨a1, c1, rfl, ho1, hb1⟩; have hP1 := hP.block (hb1.block w.heap.size (by omega)); have hR1 := hR.block (hb1.block (w.heap.size + 1) (by omega)); have hB1 := hbW.trans (hb1.mono hbW.size); have hz1 : w.heap.size + 2 ≤ w1.heap.size := (by have := hb1.size; omega); clear hP hR hb1)
  have y0 : w1.cell? ⟨w.heap.size, 0, none⟩ = some (.int .i64 nu) := (hP1 0 (by simp)).1
  have y1 : w1.cell? ⟨w.heap.size, 1, none⟩ = some (.int .i64 ep) := (hP1 1 (by simp)).1
  have y2 : w1.cell? ⟨w.heap.size, 2, none⟩ = some (.bool up) := (hP1 2 (by simp)).1
  have y3 : w1.cell? ⟨w.heap.size, 3, none⟩ = some (.int .i64 st) := (hP1 3 (by simp)).1
  have y4 : w1.cell? ⟨w.heap.size, 4, none⟩ = some (.int .i64 le) := (hP1 4 (by simp)).1
  have y5 : w1.cell? ⟨w.heap.size, 5, none⟩ = some (.int .i64 ta) := (hP1 5 (by simp)).1
  have y6 : w1.cell? ⟨w.heap.size, 6, none⟩ = some (.int .i64 co) := (hP1 6 (by simp)).1
  have y7 : w1.cell? ⟨w.heap.size, 7, none⟩ = some (.int .i64 lf) := (hP1 7 (by simp)).1
  have y8 : w1.cell? ⟨w.heap.size, 8, none⟩ = some (.slice a0 n0 c0) := (hP1 8 (by simp)).1
  have y9 : w1.cell? ⟨w.heap.size, 9, none⟩ = some (.string x) := (hP1 9 (by simp)).1
  have y10 : w1.cell? ⟨w.heap.size, 10, none⟩ = some (.int .i64 si) := (hP1 10 (by simp)).1
  have hl1 : w.heap.size < w1.heap.size := by omega
  have hl2 : w.heap.size + 1 < w1.heap.size := by omega
  go_region
  have hR3 := (hR1.block (Below.heap_alloc w1 (.cells #[.int .i64 nu, .int .i64 ep, .bool up, .int .i64 1, .int .i64 l2, .int .i64 t2, .int .i64 c2, .int .i64 f2, .slice a1 n c1, .string ⟨#[]⟩, .int .i64 si] 27) _ (by omega)))
  have ho3 := ho1.alloc (.cells #[.int .i64 nu, .int .i64 ep, .bool up, .int .i64 1, .int .i64 l2, .int .i64 t2, .int .i64 c2, .int .i64 f2, .slice a1 n c1, .string ⟨#[]⟩, .int .i64 si] 27)
  have hB3 := hB1.alloc hB1.size (.cells #[.int .i64 nu, .int .i64 ep, .bool up, .int .i64 1, .int .i64 l2, .int .i64 t2, .int .i64 c2, .int .i64 f2, .slice a1 n c1, .string ⟨#[]⟩, .int .i64 si] 27)
  obtain ⟨WF, hWF⟩ : ∃ WF, WF = w1.alloc (.cells #[.int .i64 nu, .int .i64 ep, .bool up, .int .i64 1, .int .i64 l2, .int .i64 t2, .int .i64 c2, .int .i64 f2, .slice a1 n c1, .string ⟨#[]⟩, .int .i64 si] 27) := ⟨_, rfl⟩
  have hN : CF WF w1.heap.size [.int .i64 nu, .int .i64 ep, .bool up, .int .i64 1, .int .i64 l2, .int .i64 t2, .int .i64 c2, .int .i64 f2, .slice a1 n c1, .string ⟨#[]⟩, .int .i64 si] := by rw [hWF]; exact CF.made w1 #[.int .i64 nu, .int .i64 ep, .bool up, .int .i64 1, .int .i64 l2, .int .i64 t2, .int .i64 c2, .int .i64 f2, .slice a1 n c1, .string ⟨#[]⟩, .int .i64 si] 27
  rw [← hWF] at hR3 ho3 hB3
  rw [← hWF]
  have hzF : w1.heap.size < WF.heap.size := by rw [hWF]; simp
  have hR4 : CF WF.drew (w.heap.size + 1) zW := hR3
  have hN4 : CF WF.drew w1.heap.size [.int .i64 nu, .int .i64 ep, .bool up, .int .i64 1, .int .i64 l2, .int .i64 t2, .int .i64 c2, .int .i64 f2, .slice a1 n c1, .string ⟨#[]⟩, .int .i64 si] := hN
  have ho4 := ho3.drewW
  have hB4 := hB3.drew
  have hzF4 : w1.heap.size < WF.drew.heap.size := hzF
  have z0 : WF.drew.cell? ⟨w1.heap.size, 0, none⟩ = some (.int .i64 nu) := (hN4 0 (by simp)).1
  have z1 : WF.drew.cell? ⟨w1.heap.size, 1, none⟩ = some (.int .i64 ep) := (hN4 1 (by simp)).1
  have z2 : WF.drew.cell? ⟨w1.heap.size, 2, none⟩ = some (.bool up) := (hN4 2 (by simp)).1
  have z3 : WF.drew.cell? ⟨w1.heap.size, 3, none⟩ = some (.int .i64 1) := (hN4 3 (by simp)).1
  have z4 : WF.drew.cell? ⟨w1.heap.size, 4, none⟩ = some (.int .i64 l2) := (hN4 4 (by simp)).1
  have z5 : WF.drew.cell? ⟨w1.heap.size, 5, none⟩ = some (.int .i64 t2) := (hN4 5 (by simp)).1
  have z6 : WF.drew.cell? ⟨w1.heap.size, 6, none⟩ = some (.int .i64 c2) := (hN4 6 (by simp)).1
  have z7 : WF.drew.cell? ⟨w1.heap.size, 7, none⟩ = some (.int .i64 f2) := (hN4 7 (by simp)).1
  have z8 : WF.drew.cell? ⟨w1.heap.size, 8, none⟩ = some (.slice a1 n c1) := (hN4 8 (by simp)).1
  have z9 : WF.drew.cell? ⟨w1.heap.size, 9, none⟩ = some (.string ⟨#[]⟩) := (hN4 9 (by simp)).1
  have z10 : WF.drew.cell? ⟨w1.heap.size, 10, none⟩ = some (.int .i64 si) := (hN4 10 (by simp)).1
  obtain ⟨WG, hWG⟩ : ∃ WG, WG = WF.drew := ⟨_, rfl⟩
  rw [← hWG] at hR4 hN4 ho4 hB4 hzF4 z0 z1 z2 z3 z4 z5 z6 z7 z8 z9 z10
  rw [← hWG]
  clear hWG hWF hR3 hN ho3 hB3 hzF hR1 hP1 y0 y1 y2 y3 y4 y5 y6 y7 y8 y9 y10 hl1 ho1 hB1
  go_wp2_with (refine wpList_store_cf rfl 27 (.tmp 4) (.tmp 20) rfl (w.heap.size + 1) zW [.int .i64 nu, .int .i64 ep, .bool up, .int .i64 1, .int .i64 l2, .int .i64 t2, .int .i64 c2, .int .i64 f2, .slice a1 n c1, .string ⟨#[]⟩, .int .i64 si] rfl rfl hR4 rfl Try.sizeWk (one11 _ _ _ _ _ _ _ _ _ _ _ _ _) ?_; intro w10 hc10 hg10)
  have kk0 : w10.cell? ⟨w.heap.size + 1, 0, none⟩ = some (.int .i64 nu) := (hc10 0 (by simp)).1
  have kk1 : w10.cell? ⟨w.heap.size + 1, 1, none⟩ = some (.int .i64 ep) := (hc10 1 (by simp)).1
  have kk2 : w10.cell? ⟨w.heap.size + 1, 2, none⟩ = some (.bool up) := (hc10 2 (by simp)).1
  have kk3 : w10.cell? ⟨w.heap.size + 1, 3, none⟩ = some (.int .i64 1) := (hc10 3 (by simp)).1
  have kk4 : w10.cell? ⟨w.heap.size + 1, 4, none⟩ = some (.int .i64 l2) := (hc10 4 (by simp)).1
  have kk5 : w10.cell? ⟨w.heap.size + 1, 5, none⟩ = some (.int .i64 t2) := (hc10 5 (by simp)).1
  have kk6 : w10.cell? ⟨w.heap.size + 1, 6, none⟩ = some (.int .i64 c2) := (hc10 6 (by simp)).1
  have kk7 : w10.cell? ⟨w.heap.size + 1, 7, none⟩ = some (.int .i64 f2) := (hc10 7 (by simp)).1
  have kk8 : w10.cell? ⟨w.heap.size + 1, 8, none⟩ = some (.slice a1 n c1) := (hc10 8 (by simp)).1
  have kk9 : w10.cell? ⟨w.heap.size + 1, 9, none⟩ = some (.string ⟨#[]⟩) := (hc10 9 (by simp)).1
  have kk10 : w10.cell? ⟨w.heap.size + 1, 10, none⟩ = some (.int .i64 si) := (hc10 10 (by simp)).1
  refine bodyPost_ret (v := .agg #[.int .i64 nu, .int .i64 ep, .bool up, .int .i64 1, .int .i64 l2, .int .i64 t2, .int .i64 c2, .int .i64 f2, .slice a1 n c1, .string ⟨#[]⟩, .int .i64 si]) (by simp [results, Try.results44, go_sem, kk0, kk1, kk2, kk3, kk4, kk5, kk6, kk7, kk8, kk9, kk10]) rfl ⟨a1, c1, rfl, ?_, ?_⟩
  · exact (ho4.grown hg10 (.inr (by intro hh; have := ho4.row_lo _ hh; omega))).mono' (by omega)
  · exact below_grown hB4 hg10 (by omega) (fun q hq => by simp at hq; omega)
end Go.Proofs.Ytlpmcjlcmjlbeaa
