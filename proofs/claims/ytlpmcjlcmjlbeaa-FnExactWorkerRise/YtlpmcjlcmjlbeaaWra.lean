
/-
  spec and impl: WorkerRise.
-/
import Derived.Test.YtlpmcjlcmjlbeaaLwb
import Derived.Test.YtlpmcjlcmjlbeaaHld
import Derived.Test.YtlpmcjlcmjlbeaaWcq
import Derived.Test.YtlpmcjlcmjlbeaaWkv
namespace Go.Proofs.Ytlpmcjlcmjlbeaa
open Go.RowKit

set_option maxHeartbeats 4000000 in
set_option maxRecDepth 100000 in
theorem sRise_any (nu ep : Int) (up : Bool) (st le ta co lf : Int) (a : Option Addr) (b o n c : Nat) (ss : List ByteArray) (x : ByteArray) (si : Int) (w : World) (h : StrsAt w a b o n ss) :
    Calls Try.prog 16 #[.agg #[.int .i64 nu, .int .i64 ep, .bool up, .int .i64 st, .int .i64 le, .int .i64 ta, .int .i64 co, .int .i64 lf, .slice a n c, .string x, .int .i64 si]] w fun e w' => RetW e w.heap.size w' (riseR (⟨nu, ep, up, st, le, ta, co, lf, ss, x, si⟩ : WD)) ∧ Below w.heap.size w w' := by
  obtain ⟨W, hW⟩ : ∃ W, W = (w.alloc (.cells #[.int .i64 nu, .int .i64 ep, .bool up, .int .i64 st, .int .i64 le, .int .i64 ta, .int .i64 co, .int .i64 lf, .slice a n c, .string x, .int .i64 si] 27)).alloc (.cells zW.toArray 27) := ⟨_, rfl⟩
  have hbW : Below w.heap.size w W := by rw [hW]; exact ((Below.refl _ _).alloc (Nat.le_refl _) _).alloc (by simp) _
  have hsW : W.heap.size = w.heap.size + 2 := by rw [hW]; simp
  have hP : CF W w.heap.size [.int .i64 nu, .int .i64 ep, .bool up, .int .i64 st, .int .i64 le, .int .i64 ta, .int .i64 co, .int .i64 lf, .slice a n c, .string x, .int .i64 si] := by
    rw [hW]; exact (CF.made w #[.int .i64 nu, .int .i64 ep, .bool up, .int .i64 st, .int .i64 le, .int .i64 ta, .int .i64 co, .int .i64 lf, .slice a n c, .string x, .int .i64 si] 27).block (Below.heap_alloc _ _ _ (by simp))
  have hR : CF W (w.heap.size + 1) zW := by
    rw [hW]
    have := CF.made (w.alloc (.cells #[.int .i64 nu, .int .i64 ep, .bool up, .int .i64 st, .int .i64 le, .int .i64 ta, .int .i64 co, .int .i64 lf, .slice a n c, .string x, .int .i64 si] 27)) zW.toArray 27
    simpa using this
  have hlen := hid h.len
  simp only [zW] at hW
  have HW := hid hW
  clear hW
  go_enter Try.func16, Try.ntmps16
  go_upto_region 1 with fail
  rw [← HW.out]
  clear HW
  have y0 : W.cell? ⟨w.heap.size, 0, none⟩ = some (.int .i64 nu) := (hP 0 (by simp)).1
  have y1 : W.cell? ⟨w.heap.size, 1, none⟩ = some (.int .i64 ep) := (hP 1 (by simp)).1
  have y2 : W.cell? ⟨w.heap.size, 2, none⟩ = some (.bool up) := (hP 2 (by simp)).1
  have y3 : W.cell? ⟨w.heap.size, 3, none⟩ = some (.int .i64 st) := (hP 3 (by simp)).1
  have y4 : W.cell? ⟨w.heap.size, 4, none⟩ = some (.int .i64 le) := (hP 4 (by simp)).1
  have y5 : W.cell? ⟨w.heap.size, 5, none⟩ = some (.int .i64 ta) := (hP 5 (by simp)).1
  have y6 : W.cell? ⟨w.heap.size, 6, none⟩ = some (.int .i64 co) := (hP 6 (by simp)).1
  have y7 : W.cell? ⟨w.heap.size, 7, none⟩ = some (.int .i64 lf) := (hP 7 (by simp)).1
  have y8 : W.cell? ⟨w.heap.size, 8, none⟩ = some (.slice a n c) := (hP 8 (by simp)).1
  have y9 : W.cell? ⟨w.heap.size, 9, none⟩ = some (.string x) := (hP 9 (by simp)).1
  have y10 : W.cell? ⟨w.heap.size, 10, none⟩ = some (.int .i64 si) := (hP 10 (by simp)).1
  go_wp2_with fail
  refine (sVal_any nu ep up st le ta co lf a b o n c ss x si _ (h.below' hbW)).mono ?_
  rintro e w1 ⟨⟨r, rfl, hr⟩, hb1⟩
  have hP1 := hP.block (hb1.block w.heap.size (by omega))
  have hR1 := hR.block (hb1.block (w.heap.size + 1) (by omega))
  have hB1 := hbW.trans (hb1.mono hbW.size)
  have hz1 : w.heap.size + 2 ≤ w1.heap.size := by have := hb1.size; omega
  have HR := hid hr
  clear y0 y1 y2 y3 y4 y5 y6 y7 y8 y9 y10 hr hb1 hP hR hsW hbW
  have y0 : w1.cell? ⟨w.heap.size, 0, none⟩ = some (.int .i64 nu) := (hP1 0 (by simp)).1
  have y1 : w1.cell? ⟨w.heap.size, 1, none⟩ = some (.int .i64 ep) := (hP1 1 (by simp)).1
  have y2 : w1.cell? ⟨w.heap.size, 2, none⟩ = some (.bool up) := (hP1 2 (by simp)).1
  have y3 : w1.cell? ⟨w.heap.size, 3, none⟩ = some (.int .i64 st) := (hP1 3 (by simp)).1
  have y4 : w1.cell? ⟨w.heap.size, 4, none⟩ = some (.int .i64 le) := (hP1 4 (by simp)).1
  have y5 : w1.cell? ⟨w.heap.size, 5, none⟩ = some (.int .i64 ta) := (hP1 5 (by simp)).1
  have y6 : w1.cell? ⟨w.heap.size, 6, none⟩ = some (.int .i64 co) := (hP1 6 (by simp)).1
  have y7 : w1.cell? ⟨w.heap.size, 7, none⟩ = some (.int .i64 lf) := (hP1 7 (by simp)).1
  have y8 : w1.cell? ⟨w.heap.size, 8, none⟩ = some (.slice a n c) := (hP1 8 (by simp)).1
  have y9 : w1.cell? ⟨w.heap.size, 9, none⟩ = some (.string x) := (hP1 9 (by simp)).1
  have y10 : w1.cell? ⟨w.heap.size, 10, none⟩ = some (.int .i64 si) := (hP1 10 (by simp)).1
  cases r with
  | false =>
    have HN : Hid (¬ (⟨nu, ep, up, st, le, ta, co, lf, ss, x, si⟩ : WD).ok) := fun hh => by have := HR.out.2 hh; cases this
    go_wp2_with (refine wpList_store_cf rfl 27 (.tmp 2) (.tmp 7) rfl (w.heap.size + 1) zW [.int .i64 0, .int .i64 0, .bool false, .int .i64 0, .int .i64 0, .int .i64 0, .int .i64 0, .int .i64 0, .slice none 0 0, .string ⟨#[]⟩, .int .i64 0] rfl rfl hR1 rfl Try.sizeWk (one11 _ _ _ _ _ _ _ _ _ _ _ _ _) ?_; intro w10 hc10 hg10)
    have kk0 : w10.cell? ⟨w.heap.size + 1, 0, none⟩ = some (.int .i64 0) := (hc10 0 (by simp)).1
    have kk1 : w10.cell? ⟨w.heap.size + 1, 1, none⟩ = some (.int .i64 0) := (hc10 1 (by simp)).1
    have kk2 : w10.cell? ⟨w.heap.size + 1, 2, none⟩ = some (.bool false) := (hc10 2 (by simp)).1
    have kk3 : w10.cell? ⟨w.heap.size + 1, 3, none⟩ = some (.int .i64 0) := (hc10 3 (by simp)).1
    have kk4 : w10.cell? ⟨w.heap.size + 1, 4, none⟩ = some (.int .i64 0) := (hc10 4 (by simp)).1
    have kk5 : w10.cell? ⟨w.heap.size + 1, 5, none⟩ = some (.int .i64 0) := (hc10 5 (by simp)).1
    have kk6 : w10.cell? ⟨w.heap.size + 1, 6, none⟩ = some (.int .i64 0) := (hc10 6 (by simp)).1
    have kk7 : w10.cell? ⟨w.heap.size + 1, 7, none⟩ = some (.int .i64 0) := (hc10 7 (by simp)).1
    have kk8 : w10.cell? ⟨w.heap.size + 1, 8, none⟩ = some (.slice none 0 0) := (hc10 8 (by simp)).1
    have kk9 : w10.cell? ⟨w.heap.size + 1, 9, none⟩ = some (.string ⟨#[]⟩) := (hc10 9 (by simp)).1
    have kk10 : w10.cell? ⟨w.heap.size + 1, 10, none⟩ = some (.int .i64 0) := (hc10 10 (by simp)).1
    exact bodyPost_ret (v := .agg #[.int .i64 0, .int .i64 0, .bool false, .int .i64 0, .int .i64 0, .int .i64 0, .int .i64 0, .int .i64 0, .slice none 0 0, .string ⟨#[]⟩, .int .i64 0]) (by simp [results, Try.results16, go_sem, kk0, kk1, kk2, kk3, kk4, kk5, kk6, kk7, kk8, kk9, kk10]) rfl ⟨⟨zWD, none, 0, rfl, Own.nil _ _ _, .inr ⟨HN.out, rfl⟩⟩, below_grown hB1 hg10 (by omega) (fun q hq => by simp at hq; omega)⟩
  | true =>
    have HV : Hid (⟨nu, ep, up, st, le, ta, co, lf, ss, x, si⟩ : WD).ok := HR.out.1 rfl
    have hn8 : n ≤ 8 := by have := (WD.ok.small HV.out).1; rw [hlen.out] at this; exact this
    have hle3 : ep ≤ 300 := HV.out.2.2.2.1
    have hlt : ep < 9223372036854775807 := by omega
    have hge : -9223372036854775808 ≤ ep := by have := HV.out.2.2.1; dsimp only at this; omega
    have hw2 := h.below' hB1
    by_cases hu : up = true ∨ ep = 300
    · have hq : Hid (up = true ∨ ep = 300) := hu
      have hcopy : ∀ (w5 : World), w5.heap.size = w5.heap.size → True := fun _ _ => trivial
      clear hcopy
      have key : up = true ∨ (up = false ∧ 300 ≤ ep) := by
        rcases hu with hu | hu
        · exact .inl hu
        · cases up
          · exact .inr ⟨rfl, by omega⟩
          · exact .inl rfl
      clear hu
      rcases key with hk | ⟨hk, hk2⟩
      · subst hk
        go_wp2_with fail
        refine (l3Copy_any nu ep _ st le ta co lf a b o n c ss x si _ hw2 (by omega)).mono ?_
        rintro e w2 ⟨a1, c1, rfl, ho2, hb2⟩
        have hR2 := hR1.block (hb2.block (w.heap.size + 1) (by omega))
        have hB2 := hB1.trans (hb2.mono hB1.size)
        have hz2 : w.heap.size + 2 ≤ w2.heap.size := by have := hb2.size; omega
        clear hR1 hB1 hb2 hP1 y0 y1 y2 y3 y4 y5 y6 y7 y8 y9 y10
        go_wp2_with (refine wpList_store_cf rfl 27 (.tmp 2) (.tmp 16) rfl (w.heap.size + 1) zW [.int .i64 nu, .int .i64 ep, .bool true, .int .i64 st, .int .i64 le, .int .i64 ta, .int .i64 co, .int .i64 lf, .slice a1 n c1, .string x, .int .i64 si] rfl rfl hR2 rfl Try.sizeWk (one11 _ _ _ _ _ _ _ _ _ _ _ _ _) ?_; intro w10 hc10 hg10)
        have kk0 : w10.cell? ⟨w.heap.size + 1, 0, none⟩ = some (.int .i64 nu) := (hc10 0 (by simp)).1
        have kk1 : w10.cell? ⟨w.heap.size + 1, 1, none⟩ = some (.int .i64 ep) := (hc10 1 (by simp)).1
        have kk2 : w10.cell? ⟨w.heap.size + 1, 2, none⟩ = some (.bool true) := (hc10 2 (by simp)).1
        have kk3 : w10.cell? ⟨w.heap.size + 1, 3, none⟩ = some (.int .i64 st) := (hc10 3 (by simp)).1
        have kk4 : w10.cell? ⟨w.heap.size + 1, 4, none⟩ = some (.int .i64 le) := (hc10 4 (by simp)).1
        have kk5 : w10.cell? ⟨w.heap.size + 1, 5, none⟩ = some (.int .i64 ta) := (hc10 5 (by simp)).1
        have kk6 : w10.cell? ⟨w.heap.size + 1, 6, none⟩ = some (.int .i64 co) := (hc10 6 (by simp)).1
        have kk7 : w10.cell? ⟨w.heap.size + 1, 7, none⟩ = some (.int .i64 lf) := (hc10 7 (by simp)).1
        have kk8 : w10.cell? ⟨w.heap.size + 1, 8, none⟩ = some (.slice a1 n c1) := (hc10 8 (by simp)).1
        have kk9 : w10.cell? ⟨w.heap.size + 1, 9, none⟩ = some (.string x) := (hc10 9 (by simp)).1
        have kk10 : w10.cell? ⟨w.heap.size + 1, 10, none⟩ = some (.int .i64 si) := (hc10 10 (by simp)).1
        refine bodyPost_ret (v := .agg #[.int .i64 nu, .int .i64 ep, .bool true, .int .i64 st, .int .i64 le, .int .i64 ta, .int .i64 co, .int .i64 lf, .slice a1 n c1, .string x, .int .i64 si]) (by simp [results, Try.results16, go_sem, kk0, kk1, kk2, kk3, kk4, kk5, kk6, kk7, kk8, kk9, kk10]) rfl ⟨⟨⟨nu, ep, true, st, le, ta, co, lf, ss, x, si⟩, a1, c1, ?_, ?_, .inl ⟨HV.out, .inl ⟨(by first | exact .inl rfl | exact .inr rfl | exact .inr (by dsimp only; omega)), rfl⟩⟩⟩, below_grown hB2 hg10 (by omega) (fun q hq => by simp at hq; omega)⟩
        · simp only [WD.v, hlen.out]
        · rw [hlen.out]; exact (ho2.grown hg10 (.inr (by intro hh; have := ho2.row_lo _ hh; omega))).mono' (by omega)
      · subst hk
        go_wp2_with fail
        refine (l3Copy_any nu ep _ st le ta co lf a b o n c ss x si _ hw2 (by omega)).mono ?_
        rintro e w2 ⟨a1, c1, rfl, ho2, hb2⟩
        have hR2 := hR1.block (hb2.block (w.heap.size + 1) (by omega))
        have hB2 := hB1.trans (hb2.mono hB1.size)
        have hz2 : w.heap.size + 2 ≤ w2.heap.size := by have := hb2.size; omega
        clear hR1 hB1 hb2 hP1 y0 y1 y2 y3 y4 y5 y6 y7 y8 y9 y10
        go_wp2_with (refine wpList_store_cf rfl 27 (.tmp 2) (.tmp 16) rfl (w.heap.size + 1) zW [.int .i64 nu, .int .i64 ep, .bool false, .int .i64 st, .int .i64 le, .int .i64 ta, .int .i64 co, .int .i64 lf, .slice a1 n c1, .string x, .int .i64 si] rfl rfl hR2 rfl Try.sizeWk (one11 _ _ _ _ _ _ _ _ _ _ _ _ _) ?_; intro w10 hc10 hg10)
        have kk0 : w10.cell? ⟨w.heap.size + 1, 0, none⟩ = some (.int .i64 nu) := (hc10 0 (by simp)).1
        have kk1 : w10.cell? ⟨w.heap.size + 1, 1, none⟩ = some (.int .i64 ep) := (hc10 1 (by simp)).1
        have kk2 : w10.cell? ⟨w.heap.size + 1, 2, none⟩ = some (.bool false) := (hc10 2 (by simp)).1
        have kk3 : w10.cell? ⟨w.heap.size + 1, 3, none⟩ = some (.int .i64 st) := (hc10 3 (by simp)).1
        have kk4 : w10.cell? ⟨w.heap.size + 1, 4, none⟩ = some (.int .i64 le) := (hc10 4 (by simp)).1
        have kk5 : w10.cell? ⟨w.heap.size + 1, 5, none⟩ = some (.int .i64 ta) := (hc10 5 (by simp)).1
        have kk6 : w10.cell? ⟨w.heap.size + 1, 6, none⟩ = some (.int .i64 co) := (hc10 6 (by simp)).1
        have kk7 : w10.cell? ⟨w.heap.size + 1, 7, none⟩ = some (.int .i64 lf) := (hc10 7 (by simp)).1
        have kk8 : w10.cell? ⟨w.heap.size + 1, 8, none⟩ = some (.slice a1 n c1) := (hc10 8 (by simp)).1
        have kk9 : w10.cell? ⟨w.heap.size + 1, 9, none⟩ = some (.string x) := (hc10 9 (by simp)).1
        have kk10 : w10.cell? ⟨w.heap.size + 1, 10, none⟩ = some (.int .i64 si) := (hc10 10 (by simp)).1
        refine bodyPost_ret (v := .agg #[.int .i64 nu, .int .i64 ep, .bool false, .int .i64 st, .int .i64 le, .int .i64 ta, .int .i64 co, .int .i64 lf, .slice a1 n c1, .string x, .int .i64 si]) (by simp [results, Try.results16, go_sem, kk0, kk1, kk2, kk3, kk4, kk5, kk6, kk7, kk8, kk9, kk10]) rfl ⟨⟨⟨nu, ep, false, st, le, ta, co, lf, ss, x, si⟩, a1, c1, ?_, ?_, .inl ⟨HV.out, .inl ⟨(by first | exact .inl rfl | exact .inr rfl | exact .inr (by dsimp only; omega)), rfl⟩⟩⟩, below_grown hB2 hg10 (by omega) (fun q hq => by simp at hq; omega)⟩
        · simp only [WD.v, hlen.out]
        · rw [hlen.out]; exact (ho2.grown hg10 (.inr (by intro hh; have := ho2.row_lo _ hh; omega))).mono' (by omega)
    · have hq : Hid (¬ (up = true ∨ ep = 300)) := hu
      have hup : up = false := by cases up <;> simp_all
      have hep : ¬ 300 ≤ ep := by have := HV.out.2.2.2.1; dsimp only at this; omega
      have hwr : IntKind.i64.wrap (ep + 1) = ep + 1 := by go_arith
      subst hup
      clear hu
      go_upto_region 6 with (go_at_call 40; refine (l3Free_any nu ep _ st le ta co lf a n c x si 3 _).mono ?_; rintro e w2 ⟨rfl, hb2⟩; have hR2 := hR1.block (hb2.block (w.heap.size + 1) (by omega)); have hP2 := hP1.block (hb2.block w.heap.size (by omega)); have hB2 := hB1.trans (hb2.mono hB1.size); have hz2 : w.heap.size + 2 ≤ w2.heap.size := (by have := hb2.size; omega); have hzz : w.heap.size < w2.heap.size := (by omega); have k1 : w2.cell? ⟨w.heap.size, 1, none⟩ = some (.int .i64 ep) := (hP2 1 (by simp)).1; clear hR1 hB1 hb2 hP1 hP2)
      clear y0 y1 y2 y3 y4 y5 y6 y7 y8 y9 y10
      have hR3 := (hR2.block (Below.heap_alloc w2 (.cells #[.int .i64 nu, .int .i64 (ep + 1), .bool true, .int .i64 0, .int .i64 0, .int .i64 0, .int .i64 0, .int .i64 0, .slice none 0 0, .string ⟨#[]⟩, .int .i64 3] 27) _ (by omega)))
      have hB3 := hB2.alloc hB2.size (.cells #[.int .i64 nu, .int .i64 (ep + 1), .bool true, .int .i64 0, .int .i64 0, .int .i64 0, .int .i64 0, .int .i64 0, .slice none 0 0, .string ⟨#[]⟩, .int .i64 3] 27)
      obtain ⟨WF, hWF⟩ : ∃ WF, WF = w2.alloc (.cells #[.int .i64 nu, .int .i64 (ep + 1), .bool true, .int .i64 0, .int .i64 0, .int .i64 0, .int .i64 0, .int .i64 0, .slice none 0 0, .string ⟨#[]⟩, .int .i64 3] 27) := ⟨_, rfl⟩
      have hN : CF WF w2.heap.size [.int .i64 nu, .int .i64 (ep + 1), .bool true, .int .i64 0, .int .i64 0, .int .i64 0, .int .i64 0, .int .i64 0, .slice none 0 0, .string ⟨#[]⟩, .int .i64 3] := by rw [hWF]; exact CF.made w2 #[.int .i64 nu, .int .i64 (ep + 1), .bool true, .int .i64 0, .int .i64 0, .int .i64 0, .int .i64 0, .int .i64 0, .slice none 0 0, .string ⟨#[]⟩, .int .i64 3] 27
      have hzF : w2.heap.size < WF.heap.size := by rw [hWF]; simp
      rw [← hWF] at hR3 hB3
      have z0 : WF.cell? ⟨w2.heap.size, 0, none⟩ = some (.int .i64 nu) := (hN 0 (by simp)).1
      have z1 : WF.cell? ⟨w2.heap.size, 1, none⟩ = some (.int .i64 (ep + 1)) := (hN 1 (by simp)).1
      have z2 : WF.cell? ⟨w2.heap.size, 2, none⟩ = some (.bool true) := (hN 2 (by simp)).1
      have z3 : WF.cell? ⟨w2.heap.size, 3, none⟩ = some (.int .i64 0) := (hN 3 (by simp)).1
      have z4 : WF.cell? ⟨w2.heap.size, 4, none⟩ = some (.int .i64 0) := (hN 4 (by simp)).1
      have z5 : WF.cell? ⟨w2.heap.size, 5, none⟩ = some (.int .i64 0) := (hN 5 (by simp)).1
      have z6 : WF.cell? ⟨w2.heap.size, 6, none⟩ = some (.int .i64 0) := (hN 6 (by simp)).1
      have z7 : WF.cell? ⟨w2.heap.size, 7, none⟩ = some (.int .i64 0) := (hN 7 (by simp)).1
      have z8 : WF.cell? ⟨w2.heap.size, 8, none⟩ = some (.slice none 0 0) := (hN 8 (by simp)).1
      have z9 : WF.cell? ⟨w2.heap.size, 9, none⟩ = some (.string ⟨#[]⟩) := (hN 9 (by simp)).1
      have z10 : WF.cell? ⟨w2.heap.size, 10, none⟩ = some (.int .i64 3) := (hN 10 (by simp)).1
      have HWF := hid hWF
      clear hWF hR2 hB2 hN
      go_upto_region 8 with fail
      rw [← HWF.out]
      clear HWF
      go_wp2_with (refine wpList_store_cf rfl 27 (.tmp 2) (.tmp 24) rfl (w.heap.size + 1) zW [.int .i64 nu, .int .i64 (ep + 1), .bool true, .int .i64 0, .int .i64 0, .int .i64 0, .int .i64 0, .int .i64 0, .slice none 0 0, .string ⟨#[]⟩, .int .i64 3] rfl rfl hR3 rfl Try.sizeWk (one11 _ _ _ _ _ _ _ _ _ _ _ _ _) ?_; intro w10 hc10 hg10)
      have kk0 : w10.cell? ⟨w.heap.size + 1, 0, none⟩ = some (.int .i64 nu) := (hc10 0 (by simp)).1
      have kk1 : w10.cell? ⟨w.heap.size + 1, 1, none⟩ = some (.int .i64 (ep + 1)) := (hc10 1 (by simp)).1
      have kk2 : w10.cell? ⟨w.heap.size + 1, 2, none⟩ = some (.bool true) := (hc10 2 (by simp)).1
      have kk3 : w10.cell? ⟨w.heap.size + 1, 3, none⟩ = some (.int .i64 0) := (hc10 3 (by simp)).1
      have kk4 : w10.cell? ⟨w.heap.size + 1, 4, none⟩ = some (.int .i64 0) := (hc10 4 (by simp)).1
      have kk5 : w10.cell? ⟨w.heap.size + 1, 5, none⟩ = some (.int .i64 0) := (hc10 5 (by simp)).1
      have kk6 : w10.cell? ⟨w.heap.size + 1, 6, none⟩ = some (.int .i64 0) := (hc10 6 (by simp)).1
      have kk7 : w10.cell? ⟨w.heap.size + 1, 7, none⟩ = some (.int .i64 0) := (hc10 7 (by simp)).1
      have kk8 : w10.cell? ⟨w.heap.size + 1, 8, none⟩ = some (.slice none 0 0) := (hc10 8 (by simp)).1
      have kk9 : w10.cell? ⟨w.heap.size + 1, 9, none⟩ = some (.string ⟨#[]⟩) := (hc10 9 (by simp)).1
      have kk10 : w10.cell? ⟨w.heap.size + 1, 10, none⟩ = some (.int .i64 3) := (hc10 10 (by simp)).1
      exact bodyPost_ret (v := .agg #[.int .i64 nu, .int .i64 (ep + 1), .bool true, .int .i64 0, .int .i64 0, .int .i64 0, .int .i64 0, .int .i64 0, .slice none 0 0, .string ⟨#[]⟩, .int .i64 3]) (by simp [results, Try.results16, go_sem, kk0, kk1, kk2, kk3, kk4, kk5, kk6, kk7, kk8, kk9, kk10]) rfl ⟨⟨⟨nu, ep + 1, true, 0, 0, 0, 0, 0, [], ⟨#[]⟩, 3⟩, none, 0, rfl, Own.nil _ _ _, .inl ⟨HV.out, .inr ⟨hq.out, rfl⟩⟩⟩, below_grown hB3 hg10 (by omega) (fun q hq => by simp at hq; omega)⟩
end Go.Proofs.Ytlpmcjlcmjlbeaa
