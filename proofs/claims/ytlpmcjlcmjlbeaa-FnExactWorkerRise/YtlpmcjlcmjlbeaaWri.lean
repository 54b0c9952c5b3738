
/-
  spec and impl: WorkerRise.
-/
import Derived.Test.YtlpmcjlcmjlbeaaLwb
import Derived.Test.YtlpmcjlcmjlbeaaHld
import Derived.Test.YtlpmcjlcmjlbeaaWcq
import Derived.Test.YtlpmcjlcmjlbeaaWkv
namespace Go.Proofs.Ytlpmcjlcmjlbeaa
open Go.RowKit
theorem enter_stateOf (v1 : Value) (w : World) : Sem.run Try.prog (callFunc 32 #[v1]) w = .ok (.enter 32 #[v1]) w := by kernel_rfl
theorem enter_inState (v1 v2 : Value) (w : World) : Sem.run Try.prog (callFunc 44 #[v1, v2]) w = .ok (.enter 44 #[v1, v2]) w := by kernel_rfl

set_option maxHeartbeats 4000000 in
set_option maxRecDepth 100000 in
theorem iRise_any (nu ep : Int) (up : Bool) (st le ta co lf : Int) (a : Option Addr) (b o n c : Nat) (ss : List ByteArray) (x : ByteArray) (si : Int) (w : World) (h : StrsAt w a b o n ss) :
    Calls Try.prog 17 #[.agg #[.int .i64 nu, .int .i64 ep, .bool up, .int .i64 st, .int .i64 le, .int .i64 ta, .int .i64 co, .int .i64 lf, .slice a n c, .string x, .int .i64 si]] w fun e w' => RetW e w.heap.size w' (riseR (⟨nu, ep, up, st, le, ta, co, lf, ss, x, si⟩ : WD)) ∧ Below w.heap.size w w' := by
  obtain ⟨W, hW⟩ : ∃ W, W = (w.alloc (.cells #[.int .i64 nu, .int .i64 ep, .bool up, .int .i64 st, .int .i64 le, .int .i64 ta, .int .i64 co, .int .i64 lf, .slice a n c, .string x, .int .i64 si] 27)).alloc (.cells zW.toArray 27) := ⟨_, rfl⟩
  have hbW : Below w.heap.size w W := by rw [hW]; exact ((Below.refl _ _).alloc (Nat.le_refl _) _).alloc (by simp) _
  have hsW : W.heap.size = w.heap.size + 2 := by rw [hW]; simp
  have hP : CF W w.heap.size [.int .i64 nu, .int .i64 ep, .bool up, .int .i64 st, .int .i64 le, .int .i64 ta, .int .i64 co, .int .i64 lf, .slice a n c, .string x, .int .i64 si] := by
    rw [hW]; exact (CF.made w #[.int .i64 nu, .int .i64 ep, .bool up, .int .i64 st, .int .i64 le, .int .i64 ta, .int .i64 co, .int .i64 lf, .slice a n c, .string x, .int .i64 si] 27).block (Below.heap_alloc _ _ _ (by simp))
  have hR : CF W (w.heap.size + 1) zW := by
    rw [hW]
    have := CF.made (w.alloc (.cells #[.int .i64 nu, .int .i64 ep, .bool up, .int .i64 st, .int .i64 le, .int .i64 ta, .int .i64 co, .int .i64 lf, .slice a n c, .string x, .int .i64 si] 27)) zW.toArray 27
    simpa using this
  have hlen := hid h.len
  simp only [zW] at hW
  have HW := hid hW
  clear hW
  go_enter Try.func17, Try.ntmps17
  go_upto_region 1 with fail
  rw [← HW.out]
  clear HW
  have y0 : W.cell? ⟨w.heap.size, 0, none⟩ = some (.int .i64 nu) := (hP 0 (by simp)).1
  have y1 : W.cell? ⟨w.heap.size, 1, none⟩ = some (.int .i64 ep) := (hP 1 (by simp)).1
  have y2 : W.cell? ⟨w.heap.size, 2, none⟩ = some (.bool up) := (hP 2 (by simp)).1
  have y3 : W.cell? ⟨w.heap.size, 3, none⟩ = some (.int .i64 st) := (hP 3 (by simp)).1
  have y4 : W.cell? ⟨w.heap.size, 4, none⟩ = some (.int .i64 le) := (hP 4 (by simp)).1
  have y5 : W.cell? ⟨w.heap.size, 5, none⟩ = some (.int .i64 ta) := (hP 5 (by simp)).1
  have y6 : W.cell? ⟨w.heap.size, 6, none⟩ = some (.int .i64 co) := (hP 6 (by simp)).1
  have y7 : W.cell? ⟨w.heap.size, 7, none⟩ = some (.int .i64 lf) := (hP 7 (by simp)).1
  have y8 : W.cell? ⟨w.heap.size, 8, none⟩ = some (.slice a n c) := (hP 8 (by simp)).1
  have y9 : W.cell? ⟨w.heap.size, 9, none⟩ = some (.string x) := (hP 9 (by simp)).1
  have y10 : W.cell? ⟨w.heap.size, 10, none⟩ = some (.int .i64 si) := (hP 10 (by simp)).1
  go_wp2_with fail
  refine (iVal_any nu ep up st le ta co lf a b o n c ss x si _ (h.below' hbW)).mono ?_
  rintro e w1 ⟨⟨r, rfl, hr⟩, hb1⟩
  have hP1 := hP.block (hb1.block w.heap.size (by omega))
  have hR1 := hR.block (hb1.block (w.heap.size + 1) (by omega))
  have hB1 := hbW.trans (hb1.mono hbW.size)
  have hz1 : w.heap.size + 2 ≤ w1.heap.size := by have := hb1.size; omega
  have HR := hid hr
  clear y0 y1 y2 y3 y4 y5 y6 y7 y8 y9 y10 hr hb1 hP hR hsW hbW
  have y0 : w1.cell? ⟨w.heap.size, 0, none⟩ = some (.int .i64 nu) := (hP1 0 (by simp)).1
  have y1 : w1.cell? ⟨w.heap.size, 1, none⟩ = some (.int .i64 ep) := (hP1 1 (by simp)).1
  have y2 : w1.cell? ⟨w.heap.size, 2, none⟩ = some (.bool up) := (hP1 2 (by simp)).1
  have y3 : w1.cell? ⟨w.heap.size, 3, none⟩ = some (.int .i64 st) := (hP1 3 (by simp)).1
  have y4 : w1.cell? ⟨w.heap.size, 4, none⟩ = some (.int .i64 le) := (hP1 4 (by simp)).1
  have y5 : w1.cell? ⟨w.heap.size, 5, none⟩ = some (.int .i64 ta) := (hP1 5 (by simp)).1
  have y6 : w1.cell? ⟨w.heap.size, 6, none⟩ = some (.int .i64 co) := (hP1 6 (by simp)).1
  have y7 : w1.cell? ⟨w.heap.size, 7, none⟩ = some (.int .i64 lf) := (hP1 7 (by simp)).1
  have y8 : w1.cell? ⟨w.heap.size, 8, none⟩ = some (.slice a n c) := (hP1 8 (by simp)).1
  have y9 : w1.cell? ⟨w.heap.size, 9, none⟩ = some (.string x) := (hP1 9 (by simp)).1
  have y10 : w1.cell? ⟨w.heap.size, 10, none⟩ = some (.int .i64 si) := (hP1 10 (by simp)).1
  cases r with
  | false =>
    have HN : Hid (¬ (⟨nu, ep, up, st, le, ta, co, lf, ss, x, si⟩ : WD).ok) := fun hh => by have := HR.out.2 hh; cases this
    go_wp2_with (refine wpList_store_cf rfl 27 (.tmp 2) (.tmp 6) rfl (w.heap.size + 1) zW [.int .i64 0, .int .i64 0, .bool false, .int .i64 0, .int .i64 0, .int .i64 0, .int .i64 0, .int .i64 0, .slice none 0 0, .string ⟨#[]⟩, .int .i64 0] rfl rfl hR1 rfl Try.sizeWk (one11 _ _ _ _ _ _ _ _ _ _ _ _ _) ?_; intro w10 hc10 hg10)
    have kk0 : w10.cell? ⟨w.heap.size + 1, 0, none⟩ = some (.int .i64 0) := (hc10 0 (by simp)).1
    have kk1 : w10.cell? ⟨w.heap.size + 1, 1, none⟩ = some (.int .i64 0) := (hc10 1 (by simp)).1
    have kk2 : w10.cell? ⟨w.heap.size + 1, 2, none⟩ = some (.bool false) := (hc10 2 (by simp)).1
    have kk3 : w10.cell? ⟨w.heap.size + 1, 3, none⟩ = some (.int .i64 0) := (hc10 3 (by simp)).1
    have kk4 : w10.cell? ⟨w.heap.size + 1, 4, none⟩ = some (.int .i64 0) := (hc10 4 (by simp)).1
    have kk5 : w10.cell? ⟨w.heap.size + 1, 5, none⟩ = some (.int .i64 0) := (hc10 5 (by simp)).1
    have kk6 : w10.cell? ⟨w.heap.size + 1, 6, none⟩ = some (.int .i64 0) := (hc10 6 (by simp)).1
    have kk7 : w10.cell? ⟨w.heap.size + 1, 7, none⟩ = some (.int .i64 0) := (hc10 7 (by simp)).1
    have kk8 : w10.cell? ⟨w.heap.size + 1, 8, none⟩ = some (.slice none 0 0) := (hc10 8 (by simp)).1
    have kk9 : w10.cell? ⟨w.heap.size + 1, 9, none⟩ = some (.string ⟨#[]⟩) := (hc10 9 (by simp)).1
    have kk10 : w10.cell? ⟨w.heap.size + 1, 10, none⟩ = some (.int .i64 0) := (hc10 10 (by simp)).1
    exact bodyPost_ret (v := .agg #[.int .i64 0, .int .i64 0, .bool false, .int .i64 0, .int .i64 0, .int .i64 0, .int .i64 0, .int .i64 0, .slice none 0 0, .string ⟨#[]⟩, .int .i64 0]) (by simp [results, Try.results17, go_sem, kk0, kk1, kk2, kk3, kk4, kk5, kk6, kk7, kk8, kk9, kk10]) rfl ⟨⟨zWD, none, 0, rfl, Own.nil _ _ _, .inr ⟨HN.out, rfl⟩⟩, below_grown hB1 hg10 (by omega) (fun q hq => by simp at hq; omega)⟩
  | true =>
    have HV : Hid (⟨nu, ep, up, st, le, ta, co, lf, ss, x, si⟩ : WD).ok := HR.out.1 rfl
    have hn8 : n ≤ 8 := by have := (WD.ok.small HV.out).1; rw [hlen.out] at this; exact this
    have hlt : ep ≤ 300 := HV.out.2.2.2.1
    have hge : 1 ≤ ep := HV.out.2.2.1
    have hw2 := h.below' hB1
    by_cases hu : up = true ∨ ep = 300
    · have hq : Hid (up = true ∨ ep = 300) := hu
      have hst := vW_st HV.out
      dsimp only at hst
      have key : up = true ∨ (up = false ∧ ep = 300) := by
        rcases hu with hu | hu
        · exact .inl hu
        · cases up
          · exact .inr ⟨rfl, hu⟩
          · exact .inl rfl
      clear hu
      rcases key with hk | ⟨hk, hk2⟩
      · subst hk
        rcases hst with rfl | rfl | rfl
        · skip
          go_upto_region 4 with fail
          refine wp_region_held (S := fun w' => CF w' w.heap.size [.int .i64 nu, .int .i64 ep, .bool true, .int .i64 0, .int .i64 le, .int .i64 ta, .int .i64 co, .int .i64 lf, .slice a n c, .string x, .int .i64 si]) (by kernel_rfl) ?_
          change wpAnyH _ _ _ _ _ _ _ _ (World.drew _)
          have hPd : CF w1.drew w.heap.size [.int .i64 nu, .int .i64 ep, .bool true, .int .i64 0, .int .i64 le, .int .i64 ta, .int .i64 co, .int .i64 lf, .slice a n c, .string x, .int .i64 si] := hP1
          have hRd : CF w1.drew (w.heap.size + 1) zW := hR1
          have hBd := hB1.drew
          have hzd : w.heap.size + 2 ≤ w1.drew.heap.size := hz1
          have hwd := h.below' hBd
          obtain ⟨wd, hwd0⟩ : ∃ wd, wd = w1.drew := ⟨_, rfl⟩
          rw [← hwd0] at hPd hRd hBd hzd hwd ⊢
          clear hwd0 hP1 hR1 hB1 hz1 hw2 y0 y1 y2 y3 y4 y5 y6 y7 y8 y9 y10
          refine hTake (i := 0) (d := some 14) (v := .agg #[.int .i64 nu, .int .i64 ep, .bool true, .int .i64 0, .int .i64 le, .int .i64 ta, .int .i64 co, .int .i64 lf, .slice a n c, .string x, .int .i64 si]) (l' := #[true, false, false, false, false]) rfl (by kernel_rfl) (by kernel_rfl) (by kernel_rfl) (by kernel_rfl) (fun _ _ _ h => h) (by kernel_rfl) (fun _ hc => run_ldT 27 _ [.int .i64 nu, .int .i64 ep, .bool true, .int .i64 0, .int .i64 le, .int .i64 ta, .int .i64 co, .int .i64 lf, .slice a n c, .string x, .int .i64 si] (.tmp 1) (by kernel_rfl) (by kernel_rfl) hc Try.underlying27 rfl Try.sizeWk) hPd (by kernel_rfl) ?_
          refine hTake (i := 1) (d := some 15) (v := .agg #[.int .i64 nu, .int .i64 ep, .bool true, .int .i64 0, .int .i64 le, .int .i64 ta, .int .i64 co, .int .i64 lf, .slice a n c, .string x, .int .i64 si]) (l' := #[true, true, false, false, false]) rfl (by kernel_rfl) (by kernel_rfl) (by kernel_rfl) (by kernel_rfl) (fun _ _ _ h => h) (by kernel_rfl) (fun _ hc => run_ldT 27 _ [.int .i64 nu, .int .i64 ep, .bool true, .int .i64 0, .int .i64 le, .int .i64 ta, .int .i64 co, .int .i64 lf, .slice a n c, .string x, .int .i64 si] (.tmp 1) (by kernel_rfl) (by kernel_rfl) hc Try.underlying27 rfl Try.sizeWk) hPd (by kernel_rfl) ?_
          refine hOne (by kernel_rfl) (hCall (i := 2) (d := some 16) (f := 32) (args := #[.agg #[.int .i64 nu, .int .i64 ep, .bool true, .int .i64 0, .int .i64 le, .int .i64 ta, .int .i64 co, .int .i64 lf, .slice a n c, .string x, .int .i64 si]]) (l' := #[true, true, true, false, false]) (R := fun v w' => v = .iface 83 (.agg #[]) ∧ w' = wd.alloc (.cells #[.int .i64 nu, .int .i64 ep, .bool true, .int .i64 0, .int .i64 le, .int .i64 ta, .int .i64 co, .int .i64 lf, .slice a n c, .string x, .int .i64 si] 27)) rfl (by kernel_rfl) (by kernel_rfl) (by kernel_rfl) (run_cl1 _ _ rfl (by kernel_rfl) rfl enter_stateOf) ((stateOf_0 nu ep true le ta co lf a n c x si _).mono fun _ _ ⟨he, hw⟩ => ⟨_, he, rfl, hw⟩) ?_)
          rintro _ _ ⟨rfl, rfl⟩
          have hP2 := hPd.block (Below.heap_alloc wd (.cells #[.int .i64 nu, .int .i64 ep, .bool true, .int .i64 0, .int .i64 le, .int .i64 ta, .int .i64 co, .int .i64 lf, .slice a n c, .string x, .int .i64 si] 27) _ (by omega))
          have hR2 := hRd.block (Below.heap_alloc wd (.cells #[.int .i64 nu, .int .i64 ep, .bool true, .int .i64 0, .int .i64 le, .int .i64 ta, .int .i64 co, .int .i64 lf, .slice a n c, .string x, .int .i64 si] 27) _ (by omega))
          have hB2 := hBd.alloc hBd.size (.cells #[.int .i64 nu, .int .i64 ep, .bool true, .int .i64 0, .int .i64 le, .int .i64 ta, .int .i64 co, .int .i64 lf, .slice a n c, .string x, .int .i64 si] 27)
          have hz2 : w.heap.size + 2 ≤ (wd.alloc (.cells #[.int .i64 nu, .int .i64 ep, .bool true, .int .i64 0, .int .i64 le, .int .i64 ta, .int .i64 co, .int .i64 lf, .slice a n c, .string x, .int .i64 si] 27)).heap.size := by simp; omega
          have hw3 := h.below' hB2
          refine ⟨hP2, ?_⟩
          obtain ⟨we, hwe0⟩ : ∃ we, we = wd.alloc (.cells #[.int .i64 nu, .int .i64 ep, .bool true, .int .i64 0, .int .i64 le, .int .i64 ta, .int .i64 co, .int .i64 lf, .slice a n c, .string x, .int .i64 si] 27) := ⟨_, rfl⟩
          rw [← hwe0] at hP2 hR2 hB2 hz2 hw3 ⊢
          clear hwe0 hPd hRd hBd hzd hwd
          refine hOne (by kernel_rfl) (hCall (i := 3) (d := some 17) (f := 44) (args := #[.agg #[.int .i64 nu, .int .i64 ep, .bool true, .int .i64 0, .int .i64 le, .int .i64 ta, .int .i64 co, .int .i64 lf, .slice a n c, .string x, .int .i64 si], .iface 83 (.agg #[])]) (l' := #[true, true, true, true, false]) (R := fun v w' => v = .agg #[.int .i64 nu, .int .i64 ep, .bool true, .int .i64 0, .int .i64 0, .int .i64 0, .int .i64 0, .int .i64 0, .slice none 0 0, .string ⟨#[]⟩, .int .i64 si] ∧ Below we.heap.size we w') rfl (by kernel_rfl) (by kernel_rfl) (by kernel_rfl) (run_cl2 _ _ _ rfl (by kernel_rfl) (by kernel_rfl) rfl enter_inState) ((inState_0 nu ep true 0 le ta co lf a n c x si _).mono fun _ _ ⟨he, hw⟩ => ⟨_, he, rfl, hw⟩) ?_)
          rintro _ w4 ⟨rfl, hb4⟩
          have hP4 := hP2.block (hb4.block _ (by omega))
          have hR4 := hR2.block (hb4.block (w.heap.size + 1) (by omega))
          have hB4 := hB2.trans (hb4.mono hB2.size)
          have hz4 : w.heap.size + 2 ≤ w4.heap.size := by have := hb4.size; omega
          refine ⟨hP4, ?_⟩
          obtain ⟨w10, hw10⟩ : ∃ w10, w10 = w4.setCells (w.heap.size + 1) 0 [.int .i64 nu, .int .i64 ep, .bool true, .int .i64 0, .int .i64 0, .int .i64 0, .int .i64 0, .int .i64 0, .slice none 0 0, .string ⟨#[]⟩, .int .i64 si] := ⟨_, rfl⟩
          have hc10 : CF w10 (w.heap.size + 1) [.int .i64 nu, .int .i64 ep, .bool true, .int .i64 0, .int .i64 0, .int .i64 0, .int .i64 0, .int .i64 0, .slice none 0 0, .string ⟨#[]⟩, .int .i64 si] := by rw [hw10]; exact hR4.stored rfl
          have hg10 : w4.grownBy w10 (some (w.heap.size + 1)) := by rw [hw10]; exact grown_setCells _ _ _ _ _ (World.grownBy.refl _ _)
          have hP10 := hP4.block (hg10.block w.heap.size (by omega) (by simp))
          refine hOne (by kernel_rfl) (hSkip (i := 4) (w' := w10) (l' := #[true, true, true, true, true]) rfl (by kernel_rfl) (by kernel_rfl) (by kernel_rfl) (by rw [hw10]; exact run_stT 27 zW [.int .i64 nu, .int .i64 ep, .bool true, .int .i64 0, .int .i64 0, .int .i64 0, .int .i64 0, .int .i64 0, .slice none 0 0, .string ⟨#[]⟩, .int .i64 si] (.tmp 2) (.tmp 17) (by kernel_rfl) (by kernel_rfl) (by kernel_rfl) hR4 rfl Try.sizeWk (one11 _ _ _ _ _ _ _ _ _ _ _ _ _)) hP10 ?_)
          have kk0 : w10.cell? ⟨w.heap.size + 1, 0, none⟩ = some (.int .i64 nu) := (hc10 0 (by simp)).1
          have kk1 : w10.cell? ⟨w.heap.size + 1, 1, none⟩ = some (.int .i64 ep) := (hc10 1 (by simp)).1
          have kk2 : w10.cell? ⟨w.heap.size + 1, 2, none⟩ = some (.bool true) := (hc10 2 (by simp)).1
          have kk3 : w10.cell? ⟨w.heap.size + 1, 3, none⟩ = some (.int .i64 0) := (hc10 3 (by simp)).1
          have kk4 : w10.cell? ⟨w.heap.size + 1, 4, none⟩ = some (.int .i64 0) := (hc10 4 (by simp)).1
          have kk5 : w10.cell? ⟨w.heap.size + 1, 5, none⟩ = some (.int .i64 0) := (hc10 5 (by simp)).1
          have kk6 : w10.cell? ⟨w.heap.size + 1, 6, none⟩ = some (.int .i64 0) := (hc10 6 (by simp)).1
          have kk7 : w10.cell? ⟨w.heap.size + 1, 7, none⟩ = some (.int .i64 0) := (hc10 7 (by simp)).1
          have kk8 : w10.cell? ⟨w.heap.size + 1, 8, none⟩ = some (.slice none 0 0) := (hc10 8 (by simp)).1
          have kk9 : w10.cell? ⟨w.heap.size + 1, 9, none⟩ = some (.string ⟨#[]⟩) := (hc10 9 (by simp)).1
          have kk10 : w10.cell? ⟨w.heap.size + 1, 10, none⟩ = some (.int .i64 si) := (hc10 10 (by simp)).1
          refine wpAnyH_done (by kernel_rfl) ?_ _
          go_wp2
          have hd := (vW0 _ _ _ _ _ _ _ _ _ _).1 HV.out
          obtain ⟨_, e1, e2, e3, e4, e5, e6⟩ := hd
          have e7 := bytes0 e6
          have e8 : ss = [] := List.eq_nil_of_length_eq_zero e5
          have hD : (⟨nu, ep, true, 0, 0, 0, 0, 0, [], ⟨#[]⟩, si⟩ : WD) = ⟨nu, ep, true, 0, le, ta, co, lf, ss, x, si⟩ := by dsimp only at e1 e2 e3 e4 e7; rw [e1, e2, e3, e4, e7, e8]
          exact bodyPost_ret (v := .agg #[.int .i64 nu, .int .i64 ep, .bool true, .int .i64 0, .int .i64 0, .int .i64 0, .int .i64 0, .int .i64 0, .slice none 0 0, .string ⟨#[]⟩, .int .i64 si]) (by simp [results, Try.results17, go_sem, kk0, kk1, kk2, kk3, kk4, kk5, kk6, kk7, kk8, kk9, kk10]) rfl ⟨⟨⟨nu, ep, true, 0, 0, 0, 0, 0, [], ⟨#[]⟩, si⟩, none, 0, rfl, Own.nil _ _ _, .inl ⟨HV.out, .inl ⟨(by first | exact .inl rfl | exact .inr rfl | exact .inr (by dsimp only; omega)), hD⟩⟩⟩, below_grown hB4 hg10 (by omega) (fun q hq => by simp at hq; omega)⟩
        · skip
          go_upto_region 4 with fail
          refine wp_region_held (S := fun w' => CF w' w.heap.size [.int .i64 nu, .int .i64 ep, .bool true, .int .i64 1, .int .i64 le, .int .i64 ta, .int .i64 co, .int .i64 lf, .slice a n c, .string x, .int .i64 si]) (by kernel_rfl) ?_
          change wpAnyH _ _ _ _ _ _ _ _ (World.drew _)
          have hPd : CF w1.drew w.heap.size [.int .i64 nu, .int .i64 ep, .bool true, .int .i64 1, .int .i64 le, .int .i64 ta, .int .i64 co, .int .i64 lf, .slice a n c, .string x, .int .i64 si] := hP1
          have hRd : CF w1.drew (w.heap.size + 1) zW := hR1
          have hBd := hB1.drew
          have hzd : w.heap.size + 2 ≤ w1.drew.heap.size := hz1
          have hwd := h.below' hBd
          obtain ⟨wd, hwd0⟩ : ∃ wd, wd = w1.drew := ⟨_, rfl⟩
          rw [← hwd0] at hPd hRd hBd hzd hwd ⊢
          clear hwd0 hP1 hR1 hB1 hz1 hw2 y0 y1 y2 y3 y4 y5 y6 y7 y8 y9 y10
          refine hTake (i := 0) (d := some 14) (v := .agg #[.int .i64 nu, .int .i64 ep, .bool true, .int .i64 1, .int .i64 le, .int .i64 ta, .int .i64 co, .int .i64 lf, .slice a n c, .string x, .int .i64 si]) (l' := #[true, false, false, false, false]) rfl (by kernel_rfl) (by kernel_rfl) (by kernel_rfl) (by kernel_rfl) (fun _ _ _ h => h) (by kernel_rfl) (fun _ hc => run_ldT 27 _ [.int .i64 nu, .int .i64 ep, .bool true, .int .i64 1, .int .i64 le, .int .i64 ta, .int .i64 co, .int .i64 lf, .slice a n c, .string x, .int .i64 si] (.tmp 1) (by kernel_rfl) (by kernel_rfl) hc Try.underlying27 rfl Try.sizeWk) hPd (by kernel_rfl) ?_
          refine hTake (i := 1) (d := some 15) (v := .agg #[.int .i64 nu, .int .i64 ep, .bool true, .int .i64 1, .int .i64 le, .int .i64 ta, .int .i64 co, .int .i64 lf, .slice a n c, .string x, .int .i64 si]) (l' := #[true, true, false, false, false]) rfl (by kernel_rfl) (by kernel_rfl) (by kernel_rfl) (by kernel_rfl) (fun _ _ _ h => h) (by kernel_rfl) (fun _ hc => run_ldT 27 _ [.int .i64 nu, .int .i64 ep, .bool true, .int .i64 1, .int .i64 le, .int .i64 ta, .int .i64 co, .int .i64 lf, .slice a n c, .string x, .int .i64 si] (.tmp 1) (by kernel_rfl) (by kernel_rfl) hc Try.underlying27 rfl Try.sizeWk) hPd (by kernel_rfl) ?_
          refine hOne (by kernel_rfl) (hCall (i := 2) (d := some 16) (f := 32) (args := #[.agg #[.int .i64 nu, .int .i64 ep, .bool true, .int .i64 1, .int .i64 le, .int .i64 ta, .int .i64 co, .int .i64 lf, .slice a n c, .string x, .int .i64 si]]) (l' := #[true, true, true, false, false]) (R := fun v w' => v = .iface 85 (.agg #[.int .i64 le, .int .i64 ta, .int .i64 co, .int .i64 lf, .slice a n c]) ∧ w' = wd.alloc (.cells #[.int .i64 nu, .int .i64 ep, .bool true, .int .i64 1, .int .i64 le, .int .i64 ta, .int .i64 co, .int .i64 lf, .slice a n c, .string x, .int .i64 si] 27)) rfl (by kernel_rfl) (by kernel_rfl) (by kernel_rfl) (run_cl1 _ _ rfl (by kernel_rfl) rfl enter_stateOf) ((stateOf_1 nu ep true le ta co lf a n c x si _).mono fun _ _ ⟨he, hw⟩ => ⟨_, he, rfl, hw⟩) ?_)
          rintro _ _ ⟨rfl, rfl⟩
          have hP2 := hPd.block (Below.heap_alloc wd (.cells #[.int .i64 nu, .int .i64 ep, .bool true, .int .i64 1, .int .i64 le, .int .i64 ta, .int .i64 co, .int .i64 lf, .slice a n c, .string x, .int .i64 si] 27) _ (by omega))
          have hR2 := hRd.block (Below.heap_alloc wd (.cells #[.int .i64 nu, .int .i64 ep, .bool true, .int .i64 1, .int .i64 le, .int .i64 ta, .int .i64 co, .int .i64 lf, .slice a n c, .string x, .int .i64 si] 27) _ (by omega))
          have hB2 := hBd.alloc hBd.size (.cells #[.int .i64 nu, .int .i64 ep, .bool true, .int .i64 1, .int .i64 le, .int .i64 ta, .int .i64 co, .int .i64 lf, .slice a n c, .string x, .int .i64 si] 27)
          have hz2 : w.heap.size + 2 ≤ (wd.alloc (.cells #[.int .i64 nu, .int .i64 ep, .bool true, .int .i64 1, .int .i64 le, .int .i64 ta, .int .i64 co, .int .i64 lf, .slice a n c, .string x, .int .i64 si] 27)).heap.size := by simp; omega
          have hw3 := h.below' hB2
          refine ⟨hP2, ?_⟩
          obtain ⟨we, hwe0⟩ : ∃ we, we = wd.alloc (.cells #[.int .i64 nu, .int .i64 ep, .bool true, .int .i64 1, .int .i64 le, .int .i64 ta, .int .i64 co, .int .i64 lf, .slice a n c, .string x, .int .i64 si] 27) := ⟨_, rfl⟩
          rw [← hwe0] at hP2 hR2 hB2 hz2 hw3 ⊢
          clear hwe0 hPd hRd hBd hzd hwd
          refine hOne (by kernel_rfl) (hCall (i := 3) (d := some 17) (f := 44) (args := #[.agg #[.int .i64 nu, .int .i64 ep, .bool true, .int .i64 1, .int .i64 le, .int .i64 ta, .int .i64 co, .int .i64 lf, .slice a n c, .string x, .int .i64 si], .iface 85 (.agg #[.int .i64 le, .int .i64 ta, .int .i64 co, .int .i64 lf, .slice a n c])]) (l' := #[true, true, true, true, false]) (R := fun v w' => ∃ a1 c1, v = .agg #[.int .i64 nu, .int .i64 ep, .bool true, .int .i64 1, .int .i64 le, .int .i64 ta, .int .i64 co, .int .i64 lf, .slice a1 n c1, .string ⟨#[]⟩, .int .i64 si] ∧ Own we.heap.size w' 1 (.slice a1 n c1) n (ss.map Value.string) ∧ Below we.heap.size we w') rfl (by kernel_rfl) (by kernel_rfl) (by kernel_rfl) (run_cl2 _ _ _ rfl (by kernel_rfl) (by kernel_rfl) rfl enter_inState) ((inState_1 nu ep true 1 le ta co lf a n c x si le ta co lf a b o n c ss _ hw3 (by omega)).mono fun _ _ ⟨a1, c1, he, ho, hw⟩ => ⟨_, he, a1, c1, rfl, ho, hw⟩) ?_)
          rintro _ w4 ⟨a1, c1, rfl, ho4, hb4⟩
          have hP4 := hP2.block (hb4.block _ (by omega))
          have hR4 := hR2.block (hb4.block (w.heap.size + 1) (by omega))
          have hB4 := hB2.trans (hb4.mono hB2.size)
          have hz4 : w.heap.size + 2 ≤ w4.heap.size := by have := hb4.size; omega
          refine ⟨hP4, ?_⟩
          obtain ⟨w10, hw10⟩ : ∃ w10, w10 = w4.setCells (w.heap.size + 1) 0 [.int .i64 nu, .int .i64 ep, .bool true, .int .i64 1, .int .i64 le, .int .i64 ta, .int .i64 co, .int .i64 lf, .slice a1 n c1, .string ⟨#[]⟩, .int .i64 si] := ⟨_, rfl⟩
          have hc10 : CF w10 (w.heap.size + 1) [.int .i64 nu, .int .i64 ep, .bool true, .int .i64 1, .int .i64 le, .int .i64 ta, .int .i64 co, .int .i64 lf, .slice a1 n c1, .string ⟨#[]⟩, .int .i64 si] := by rw [hw10]; exact hR4.stored rfl
          have hg10 : w4.grownBy w10 (some (w.heap.size + 1)) := by rw [hw10]; exact grown_setCells _ _ _ _ _ (World.grownBy.refl _ _)
          have hP10 := hP4.block (hg10.block w.heap.size (by omega) (by simp))
          refine hOne (by kernel_rfl) (hSkip (i := 4) (w' := w10) (l' := #[true, true, true, true, true]) rfl (by kernel_rfl) (by kernel_rfl) (by kernel_rfl) (by rw [hw10]; exact run_stT 27 zW [.int .i64 nu, .int .i64 ep, .bool true, .int .i64 1, .int .i64 le, .int .i64 ta, .int .i64 co, .int .i64 lf, .slice a1 n c1, .string ⟨#[]⟩, .int .i64 si] (.tmp 2) (.tmp 17) (by kernel_rfl) (by kernel_rfl) (by kernel_rfl) hR4 rfl Try.sizeWk (one11 _ _ _ _ _ _ _ _ _ _ _ _ _)) hP10 ?_)
          have kk0 : w10.cell? ⟨w.heap.size + 1, 0, none⟩ = some (.int .i64 nu) := (hc10 0 (by simp)).1
          have kk1 : w10.cell? ⟨w.heap.size + 1, 1, none⟩ = some (.int .i64 ep) := (hc10 1 (by simp)).1
          have kk2 : w10.cell? ⟨w.heap.size + 1, 2, none⟩ = some (.bool true) := (hc10 2 (by simp)).1
          have kk3 : w10.cell? ⟨w.heap.size + 1, 3, none⟩ = some (.int .i64 1) := (hc10 3 (by simp)).1
          have kk4 : w10.cell? ⟨w.heap.size + 1, 4, none⟩ = some (.int .i64 le) := (hc10 4 (by simp)).1
          have kk5 : w10.cell? ⟨w.heap.size + 1, 5, none⟩ = some (.int .i64 ta) := (hc10 5 (by simp)).1
          have kk6 : w10.cell? ⟨w.heap.size + 1, 6, none⟩ = some (.int .i64 co) := (hc10 6 (by simp)).1
          have kk7 : w10.cell? ⟨w.heap.size + 1, 7, none⟩ = some (.int .i64 lf) := (hc10 7 (by simp)).1
          have kk8 : w10.cell? ⟨w.heap.size + 1, 8, none⟩ = some (.slice a1 n c1) := (hc10 8 (by simp)).1
          have kk9 : w10.cell? ⟨w.heap.size + 1, 9, none⟩ = some (.string ⟨#[]⟩) := (hc10 9 (by simp)).1
          have kk10 : w10.cell? ⟨w.heap.size + 1, 10, none⟩ = some (.int .i64 si) := (hc10 10 (by simp)).1
          refine wpAnyH_done (by kernel_rfl) ?_ _
          go_wp2
          have hd := (vW1 _ _ _ _ _ _ _ _ _ _).1 HV.out
          obtain ⟨_, _, _, _, _, _, _, _, _, e6, _⟩ := hd
          have e7 := bytes0 e6
          have hD : (⟨nu, ep, true, 1, le, ta, co, lf, ss, ⟨#[]⟩, si⟩ : WD) = ⟨nu, ep, true, 1, le, ta, co, lf, ss, x, si⟩ := by dsimp only at e7; rw [e7]
          exact bodyPost_ret (v := .agg #[.int .i64 nu, .int .i64 ep, .bool true, .int .i64 1, .int .i64 le, .int .i64 ta, .int .i64 co, .int .i64 lf, .slice a1 n c1, .string ⟨#[]⟩, .int .i64 si]) (by simp [results, Try.results17, go_sem, kk0, kk1, kk2, kk3, kk4, kk5, kk6, kk7, kk8, kk9, kk10]) rfl ⟨⟨⟨nu, ep, true, 1, le, ta, co, lf, ss, ⟨#[]⟩, si⟩, a1, c1, (by simp only [WD.v, hlen.out]), (by rw [hlen.out]; exact (ho4.grown hg10 (.inr (by intro hh; have := ho4.row_lo _ hh; omega))).mono' (by omega)), .inl ⟨HV.out, .inl ⟨(by first | exact .inl rfl | exact .inr rfl | exact .inr (by dsimp only; omega)), hD⟩⟩⟩, below_grown hB4 hg10 (by omega) (fun q hq => by simp at hq; omega)⟩
        · skip
          go_upto_region 4 with fail
          refine wp_region_held (S := fun w' => CF w' w.heap.size [.int .i64 nu, .int .i64 ep, .bool true, .int .i64 2, .int .i64 le, .int .i64 ta, .int .i64 co, .int .i64 lf, .slice a n c, .string x, .int .i64 si]) (by kernel_rfl) ?_
          change wpAnyH _ _ _ _ _ _ _ _ (World.drew _)
          have hPd : CF w1.drew w.heap.size [.int .i64 nu, .int .i64 ep, .bool true, .int .i64 2, .int .i64 le, .int .i64 ta, .int .i64 co, .int .i64 lf, .slice a n c, .string x, .int .i64 si] := hP1
          have hRd : CF w1.drew (w.heap.size + 1) zW := hR1
          have hBd := hB1.drew
          have hzd : w.heap.size + 2 ≤ w1.drew.heap.size := hz1
          have hwd := h.below' hBd
          obtain ⟨wd, hwd0⟩ : ∃ wd, wd = w1.drew := ⟨_, rfl⟩
          rw [← hwd0] at hPd hRd hBd hzd hwd ⊢
          clear hwd0 hP1 hR1 hB1 hz1 hw2 y0 y1 y2 y3 y4 y5 y6 y7 y8 y9 y10
          refine hTake (i := 0) (d := some 14) (v := .agg #[.int .i64 nu, .int .i64 ep, .bool true, .int .i64 2, .int .i64 le, .int .i64 ta, .int .i64 co, .int .i64 lf, .slice a n c, .string x, .int .i64 si]) (l' := #[true, false, false, false, false]) rfl (by kernel_rfl) (by kernel_rfl) (by kernel_rfl) (by kernel_rfl) (fun _ _ _ h => h) (by kernel_rfl) (fun _ hc => run_ldT 27 _ [.int .i64 nu, .int .i64 ep, .bool true, .int .i64 2, .int .i64 le, .int .i64 ta, .int .i64 co, .int .i64 lf, .slice a n c, .string x, .int .i64 si] (.tmp 1) (by kernel_rfl) (by kernel_rfl) hc Try.underlying27 rfl Try.sizeWk) hPd (by kernel_rfl) ?_
          refine hTake (i := 1) (d := some 15) (v := .agg #[.int .i64 nu, .int .i64 ep, .bool true, .int .i64 2, .int .i64 le, .int .i64 ta, .int .i64 co, .int .i64 lf, .slice a n c, .string x, .int .i64 si]) (l' := #[true, true, false, false, false]) rfl (by kernel_rfl) (by kernel_rfl) (by kernel_rfl) (by kernel_rfl) (fun _ _ _ h => h) (by kernel_rfl) (fun _ hc => run_ldT 27 _ [.int .i64 nu, .int .i64 ep, .bool true, .int .i64 2, .int .i64 le, .int .i64 ta, .int .i64 co, .int .i64 lf, .slice a n c, .string x, .int .i64 si] (.tmp 1) (by kernel_rfl) (by kernel_rfl) hc Try.underlying27 rfl Try.sizeWk) hPd (by kernel_rfl) ?_
          refine hOne (by kernel_rfl) (hCall (i := 2) (d := some 16) (f := 32) (args := #[.agg #[.int .i64 nu, .int .i64 ep, .bool true, .int .i64 2, .int .i64 le, .int .i64 ta, .int .i64 co, .int .i64 lf, .slice a n c, .string x, .int .i64 si]]) (l' := #[true, true, true, false, false]) (R := fun v w' => v = .iface 87 (.agg #[.int .i64 le, .int .i64 ta, .string x]) ∧ w' = wd.alloc (.cells #[.int .i64 nu, .int .i64 ep, .bool true, .int .i64 2, .int .i64 le, .int .i64 ta, .int .i64 co, .int .i64 lf, .slice a n c, .string x, .int .i64 si] 27)) rfl (by kernel_rfl) (by kernel_rfl) (by kernel_rfl) (run_cl1 _ _ rfl (by kernel_rfl) rfl enter_stateOf) ((stateOf_2 nu ep true le ta co lf a n c x si _).mono fun _ _ ⟨he, hw⟩ => ⟨_, he, rfl, hw⟩) ?_)
          rintro _ _ ⟨rfl, rfl⟩
          have hP2 := hPd.block (Below.heap_alloc wd (.cells #[.int .i64 nu, .int .i64 ep, .bool true, .int .i64 2, .int .i64 le, .int .i64 ta, .int .i64 co, .int .i64 lf, .slice a n c, .string x, .int .i64 si] 27) _ (by omega))
          have hR2 := hRd.block (Below.heap_alloc wd (.cells #[.int .i64 nu, .int .i64 ep, .bool true, .int .i64 2, .int .i64 le, .int .i64 ta, .int .i64 co, .int .i64 lf, .slice a n c, .string x, .int .i64 si] 27) _ (by omega))
          have hB2 := hBd.alloc hBd.size (.cells #[.int .i64 nu, .int .i64 ep, .bool true, .int .i64 2, .int .i64 le, .int .i64 ta, .int .i64 co, .int .i64 lf, .slice a n c, .string x, .int .i64 si] 27)
          have hz2 : w.heap.size + 2 ≤ (wd.alloc (.cells #[.int .i64 nu, .int .i64 ep, .bool true, .int .i64 2, .int .i64 le, .int .i64 ta, .int .i64 co, .int .i64 lf, .slice a n c, .string x, .int .i64 si] 27)).heap.size := by simp; omega
          have hw3 := h.below' hB2
          refine ⟨hP2, ?_⟩
          obtain ⟨we, hwe0⟩ : ∃ we, we = wd.alloc (.cells #[.int .i64 nu, .int .i64 ep, .bool true, .int .i64 2, .int .i64 le, .int .i64 ta, .int .i64 co, .int .i64 lf, .slice a n c, .string x, .int .i64 si] 27) := ⟨_, rfl⟩
          rw [← hwe0] at hP2 hR2 hB2 hz2 hw3 ⊢
          clear hwe0 hPd hRd hBd hzd hwd
          refine hOne (by kernel_rfl) (hCall (i := 3) (d := some 17) (f := 44) (args := #[.agg #[.int .i64 nu, .int .i64 ep, .bool true, .int .i64 2, .int .i64 le, .int .i64 ta, .int .i64 co, .int .i64 lf, .slice a n c, .string x, .int .i64 si], .iface 87 (.agg #[.int .i64 le, .int .i64 ta, .string x])]) (l' := #[true, true, true, true, false]) (R := fun v w' => v = .agg #[.int .i64 nu, .int .i64 ep, .bool true, .int .i64 2, .int .i64 le, .int .i64 ta, .int .i64 0, .int .i64 0, .slice none 0 0, .string x, .int .i64 si] ∧ Below we.heap.size we w') rfl (by kernel_rfl) (by kernel_rfl) (by kernel_rfl) (run_cl2 _ _ _ rfl (by kernel_rfl) (by kernel_rfl) rfl enter_inState) ((inState_2 nu ep true 2 le ta co lf a n c x si le ta x _).mono fun _ _ ⟨he, hw⟩ => ⟨_, he, rfl, hw⟩) ?_)
          rintro _ w4 ⟨rfl, hb4⟩
          have hP4 := hP2.block (hb4.block _ (by omega))
          have hR4 := hR2.block (hb4.block (w.heap.size + 1) (by omega))
          have hB4 := hB2.trans (hb4.mono hB2.size)
          have hz4 : w.heap.size + 2 ≤ w4.heap.size := by have := hb4.size; omega
          refine ⟨hP4, ?_⟩
          obtain ⟨w10, hw10⟩ : ∃ w10, w10 = w4.setCells (w.heap.size + 1) 0 [.int .i64 nu, .int .i64 ep, .bool true, .int .i64 2, .int .i64 le, .int .i64 ta, .int .i64 0, .int .i64 0, .slice none 0 0, .string x, .int .i64 si] := ⟨_, rfl⟩
          have hc10 : CF w10 (w.heap.size + 1) [.int .i64 nu, .int .i64 ep, .bool true, .int .i64 2, .int .i64 le, .int .i64 ta, .int .i64 0, .int .i64 0, .slice none 0 0, .string x, .int .i64 si] := by rw [hw10]; exact hR4.stored rfl
          have hg10 : w4.grownBy w10 (some (w.heap.size + 1)) := by rw [hw10]; exact grown_setCells _ _ _ _ _ (World.grownBy.refl _ _)
          have hP10 := hP4.block (hg10.block w.heap.size (by omega) (by simp))
          refine hOne (by kernel_rfl) (hSkip (i := 4) (w' := w10) (l' := #[true, true, true, true, true]) rfl (by kernel_rfl) (by kernel_rfl) (by kernel_rfl) (by rw [hw10]; exact run_stT 27 zW [.int .i64 nu, .int .i64 ep, .bool true, .int .i64 2, .int .i64 le, .int .i64 ta, .int .i64 0, .int .i64 0, .slice none 0 0, .string x, .int .i64 si] (.tmp 2) (.tmp 17) (by kernel_rfl) (by kernel_rfl) (by kernel_rfl) hR4 rfl Try.sizeWk (one11 _ _ _ _ _ _ _ _ _ _ _ _ _)) hP10 ?_)
          have kk0 : w10.cell? ⟨w.heap.size + 1, 0, none⟩ = some (.int .i64 nu) := (hc10 0 (by simp)).1
          have kk1 : w10.cell? ⟨w.heap.size + 1, 1, none⟩ = some (.int .i64 ep) := (hc10 1 (by simp)).1
          have kk2 : w10.cell? ⟨w.heap.size + 1, 2, none⟩ = some (.bool true) := (hc10 2 (by simp)).1
          have kk3 : w10.cell? ⟨w.heap.size + 1, 3, none⟩ = some (.int .i64 2) := (hc10 3 (by simp)).1
          have kk4 : w10.cell? ⟨w.heap.size + 1, 4, none⟩ = some (.int .i64 le) := (hc10 4 (by simp)).1
          have kk5 : w10.cell? ⟨w.heap.size + 1, 5, none⟩ = some (.int .i64 ta) := (hc10 5 (by simp)).1
          have kk6 : w10.cell? ⟨w.heap.size + 1, 6, none⟩ = some (.int .i64 0) := (hc10 6 (by simp)).1
          have kk7 : w10.cell? ⟨w.heap.size + 1, 7, none⟩ = some (.int .i64 0) := (hc10 7 (by simp)).1
          have kk8 : w10.cell? ⟨w.heap.size + 1, 8, none⟩ = some (.slice none 0 0) := (hc10 8 (by simp)).1
          have kk9 : w10.cell? ⟨w.heap.size + 1, 9, none⟩ = some (.string x) := (hc10 9 (by simp)).1
          have kk10 : w10.cell? ⟨w.heap.size + 1, 10, none⟩ = some (.int .i64 si) := (hc10 10 (by simp)).1
          refine wpAnyH_done (by kernel_rfl) ?_ _
          go_wp2
          have hd := (vW2 _ _ _ _ _ _ _ _ _ _).1 HV.out
          obtain ⟨_, _, _, _, _, _, e3, e4, e5⟩ := hd
          have e8 : ss = [] := List.eq_nil_of_length_eq_zero e5
          have hD : (⟨nu, ep, true, 2, le, ta, 0, 0, [], x, si⟩ : WD) = ⟨nu, ep, true, 2, le, ta, co, lf, ss, x, si⟩ := by dsimp only at e3 e4; rw [e3, e4, e8]
          exact bodyPost_ret (v := .agg #[.int .i64 nu, .int .i64 ep, .bool true, .int .i64 2, .int .i64 le, .int .i64 ta, .int .i64 0, .int .i64 0, .slice none 0 0, .string x, .int .i64 si]) (by simp [results, Try.results17, go_sem, kk0, kk1, kk2, kk3, kk4, kk5, kk6, kk7, kk8, kk9, kk10]) rfl ⟨⟨⟨nu, ep, true, 2, le, ta, 0, 0, [], x, si⟩, none, 0, rfl, Own.nil _ _ _, .inl ⟨HV.out, .inl ⟨(by first | exact .inl rfl | exact .inr rfl | exact .inr (by dsimp only; omega)), hD⟩⟩⟩, below_grown hB4 hg10 (by omega) (fun q hq => by simp at hq; omega)⟩
      · subst hk hk2
        rcases hst with rfl | rfl | rfl
        · skip
          go_upto_region 4 with fail
          refine wp_region_held (S := fun w' => CF w' w.heap.size [.int .i64 nu, .int .i64 300, .bool false, .int .i64 0, .int .i64 le, .int .i64 ta, .int .i64 co, .int .i64 lf, .slice a n c, .string x, .int .i64 si]) (by kernel_rfl) ?_
          change wpAnyH _ _ _ _ _ _ _ _ (World.drew _)
          have hPd : CF w1.drew w.heap.size [.int .i64 nu, .int .i64 300, .bool false, .int .i64 0, .int .i64 le, .int .i64 ta, .int .i64 co, .int .i64 lf, .slice a n c, .string x, .int .i64 si] := hP1
          have hRd : CF w1.drew (w.heap.size + 1) zW := hR1
          have hBd := hB1.drew
          have hzd : w.heap.size + 2 ≤ w1.drew.heap.size := hz1
          have hwd := h.below' hBd
          obtain ⟨wd, hwd0⟩ : ∃ wd, wd = w1.drew := ⟨_, rfl⟩
          rw [← hwd0] at hPd hRd hBd hzd hwd ⊢
          clear hwd0 hP1 hR1 hB1 hz1 hw2 y0 y1 y2 y3 y4 y5 y6 y7 y8 y9 y10
          refine hTake (i := 0) (d := some 14) (v := .agg #[.int .i64 nu, .int .i64 300, .bool false, .int .i64 0, .int .i64 le, .int .i64 ta, .int .i64 co, .int .i64 lf, .slice a n c, .string x, .int .i64 si]) (l' := #[true, false, false, false, false]) rfl (by kernel_rfl) (by kernel_rfl) (by kernel_rfl) (by kernel_rfl) (fun _ _ _ h => h) (by kernel_rfl) (fun _ hc => run_ldT 27 _ [.int .i64 nu, .int .i64 300, .bool false, .int .i64 0, .int .i64 le, .int .i64 ta, .int .i64 co, .int .i64 lf, .slice a n c, .string x, .int .i64 si] (.tmp 1) (by kernel_rfl) (by kernel_rfl) hc Try.underlying27 rfl Try.sizeWk) hPd (by kernel_rfl) ?_
          refine hTake (i := 1) (d := some 15) (v := .agg #[.int .i64 nu, .int .i64 300, .bool false, .int .i64 0, .int .i64 le, .int .i64 ta, .int .i64 co, .int .i64 lf, .slice a n c, .string x, .int .i64 si]) (l' := #[true, true, false, false, false]) rfl (by kernel_rfl) (by kernel_rfl) (by kernel_rfl) (by kernel_rfl) (fun _ _ _ h => h) (by kernel_rfl) (fun _ hc => run_ldT 27 _ [.int .i64 nu, .int .i64 300, .bool false, .int .i64 0, .int .i64 le, .int .i64 ta, .int .i64 co, .int .i64 lf, .slice a n c, .string x, .int .i64 si] (.tmp 1) (by kernel_rfl) (by kernel_rfl) hc Try.underlying27 rfl Try.sizeWk) hPd (by kernel_rfl) ?_
          refine hOne (by kernel_rfl) (hCall (i := 2) (d := some 16) (f := 32) (args := #[.agg #[.int .i64 nu, .int .i64 300, .bool false, .int .i64 0, .int .i64 le, .int .i64 ta, .int .i64 co, .int .i64 lf, .slice a n c, .string x, .int .i64 si]]) (l' := #[true, true, true, false, false]) (R := fun v w' => v = .iface 83 (.agg #[]) ∧ w' = wd.alloc (.cells #[.int .i64 nu, .int .i64 300, .bool false, .int .i64 0, .int .i64 le, .int .i64 ta, .int .i64 co, .int .i64 lf, .slice a n c, .string x, .int .i64 si] 27)) rfl (by kernel_rfl) (by kernel_rfl) (by kernel_rfl) (run_cl1 _ _ rfl (by kernel_rfl) rfl enter_stateOf) ((stateOf_0 nu 300 false le ta co lf a n c x si _).mono fun _ _ ⟨he, hw⟩ => ⟨_, he, rfl, hw⟩) ?_)
          rintro _ _ ⟨rfl, rfl⟩
          have hP2 := hPd.block (Below.heap_alloc wd (.cells #[.int .i64 nu, .int .i64 300, .bool false, .int .i64 0, .int .i64 le, .int .i64 ta, .int .i64 co, .int .i64 lf, .slice a n c, .string x, .int .i64 si] 27) _ (by omega))
          have hR2 := hRd.block (Below.heap_alloc wd (.cells #[.int .i64 nu, .int .i64 300, .bool false, .int .i64 0, .int .i64 le, .int .i64 ta, .int .i64 co, .int .i64 lf, .slice a n c, .string x, .int .i64 si] 27) _ (by omega))
          have hB2 := hBd.alloc hBd.size (.cells #[.int .i64 nu, .int .i64 300, .bool false, .int .i64 0, .int .i64 le, .int .i64 ta, .int .i64 co, .int .i64 lf, .slice a n c, .string x, .int .i64 si] 27)
          have hz2 : w.heap.size + 2 ≤ (wd.alloc (.cells #[.int .i64 nu, .int .i64 300, .bool false, .int .i64 0, .int .i64 le, .int .i64 ta, .int .i64 co, .int .i64 lf, .slice a n c, .string x, .int .i64 si] 27)).heap.size := by simp; omega
          have hw3 := h.below' hB2
          refine ⟨hP2, ?_⟩
          obtain ⟨we, hwe0⟩ : ∃ we, we = wd.alloc (.cells #[.int .i64 nu, .int .i64 300, .bool false, .int .i64 0, .int .i64 le, .int .i64 ta, .int .i64 co, .int .i64 lf, .slice a n c, .string x, .int .i64 si] 27) := ⟨_, rfl⟩
          rw [← hwe0] at hP2 hR2 hB2 hz2 hw3 ⊢
          clear hwe0 hPd hRd hBd hzd hwd
          refine hOne (by kernel_rfl) (hCall (i := 3) (d := some 17) (f := 44) (args := #[.agg #[.int .i64 nu, .int .i64 300, .bool false, .int .i64 0, .int .i64 le, .int .i64 ta, .int .i64 co, .int .i64 lf, .slice a n c, .string x, .int .i64 si], .iface 83 (.agg #[])]) (l' := #[true, true, true, true, false]) (R := fun v w' => v = .agg #[.int .i64 nu, .int .i64 300, .bool false, .int .i64 0, .int .i64 0, .int .i64 0, .int .i64 0, .int .i64 0, .slice none 0 0, .string ⟨#[]⟩, .int .i64 si] ∧ Below we.heap.size we w') rfl (by kernel_rfl) (by kernel_rfl) (by kernel_rfl) (run_cl2 _ _ _ rfl (by kernel_rfl) (by kernel_rfl) rfl enter_inState) ((inState_0 nu 300 false 0 le ta co lf a n c x si _).mono fun _ _ ⟨he, hw⟩ => ⟨_, he, rfl, hw⟩) ?_)
          rintro _ w4 ⟨rfl, hb4⟩
          have hP4 := hP2.block (hb4.block _ (by omega))
          have hR4 := hR2.block (hb4.block (w.heap.size + 1) (by omega))
          have hB4 := hB2.trans (hb4.mono hB2.size)
          have hz4 : w.heap.size + 2 ≤ w4.heap.size := by have := hb4.size; omega
          refine ⟨hP4, ?_⟩
          obtain ⟨w10, hw10⟩ : ∃ w10, w10 = w4.setCells (w.heap.size + 1) 0 [.int .i64 nu, .int .i64 300, .bool false, .int .i64 0, .int .i64 0, .int .i64 0, .int .i64 0, .int .i64 0, .slice none 0 0, .string ⟨#[]⟩, .int .i64 si] := ⟨_, rfl⟩
          have hc10 : CF w10 (w.heap.size + 1) [.int .i64 nu, .int .i64 300, .bool false, .int .i64 0, .int .i64 0, .int .i64 0, .int .i64 0, .int .i64 0, .slice none 0 0, .string ⟨#[]⟩, .int .i64 si] := by rw [hw10]; exact hR4.stored rfl
          have hg10 : w4.grownBy w10 (some (w.heap.size + 1)) := by rw [hw10]; exact grown_setCells _ _ _ _ _ (World.grownBy.refl _ _)
          have hP10 := hP4.block (hg10.block w.heap.size (by omega) (by simp))
          refine hOne (by kernel_rfl) (hSkip (i := 4) (w' := w10) (l' := #[true, true, true, true, true]) rfl (by kernel_rfl) (by kernel_rfl) (by kernel_rfl) (by rw [hw10]; exact run_stT 27 zW [.int .i64 nu, .int .i64 300, .bool false, .int .i64 0, .int .i64 0, .int .i64 0, .int .i64 0, .int .i64 0, .slice none 0 0, .string ⟨#[]⟩, .int .i64 si] (.tmp 2) (.tmp 17) (by kernel_rfl) (by kernel_rfl) (by kernel_rfl) hR4 rfl Try.sizeWk (one11 _ _ _ _ _ _ _ _ _ _ _ _ _)) hP10 ?_)
          have kk0 : w10.cell? ⟨w.heap.size + 1, 0, none⟩ = some (.int .i64 nu) := (hc10 0 (by simp)).1
          have kk1 : w10.cell? ⟨w.heap.size + 1, 1, none⟩ = some (.int .i64 300) := (hc10 1 (by simp)).1
          have kk2 : w10.cell? ⟨w.heap.size + 1, 2, none⟩ = some (.bool false) := (hc10 2 (by simp)).1
          have kk3 : w10.cell? ⟨w.heap.size + 1, 3, none⟩ = some (.int .i64 0) := (hc10 3 (by simp)).1
          have kk4 : w10.cell? ⟨w.heap.size + 1, 4, none⟩ = some (.int .i64 0) := (hc10 4 (by simp)).1
          have kk5 : w10.cell? ⟨w.heap.size + 1, 5, none⟩ = some (.int .i64 0) := (hc10 5 (by simp)).1
          have kk6 : w10.cell? ⟨w.heap.size + 1, 6, none⟩ = some (.int .i64 0) := (hc10 6 (by simp)).1
          have kk7 : w10.cell? ⟨w.heap.size + 1, 7, none⟩ = some (.int .i64 0) := (hc10 7 (by simp)).1
          have kk8 : w10.cell? ⟨w.heap.size + 1, 8, none⟩ = some (.slice none 0 0) := (hc10 8 (by simp)).1
          have kk9 : w10.cell? ⟨w.heap.size + 1, 9, none⟩ = some (.string ⟨#[]⟩) := (hc10 9 (by simp)).1
          have kk10 : w10.cell? ⟨w.heap.size + 1, 10, none⟩ = some (.int .i64 si) := (hc10 10 (by simp)).1
          refine wpAnyH_done (by kernel_rfl) ?_ _
          go_wp2
          have hd := (vW0 _ _ _ _ _ _ _ _ _ _).1 HV.out
          obtain ⟨_, e1, e2, e3, e4, e5, e6⟩ := hd
          have e7 := bytes0 e6
          have e8 : ss = [] := List.eq_nil_of_length_eq_zero e5
          have hD : (⟨nu, 300, false, 0, 0, 0, 0, 0, [], ⟨#[]⟩, si⟩ : WD) = ⟨nu, 300, false, 0, le, ta, co, lf, ss, x, si⟩ := by dsimp only at e1 e2 e3 e4 e7; rw [e1, e2, e3, e4, e7, e8]
          exact bodyPost_ret (v := .agg #[.int .i64 nu, .int .i64 300, .bool false, .int .i64 0, .int .i64 0, .int .i64 0, .int .i64 0, .int .i64 0, .slice none 0 0, .string ⟨#[]⟩, .int .i64 si]) (by simp [results, Try.results17, go_sem, kk0, kk1, kk2, kk3, kk4, kk5, kk6, kk7, kk8, kk9, kk10]) rfl ⟨⟨⟨nu, 300, false, 0, 0, 0, 0, 0, [], ⟨#[]⟩, si⟩, none, 0, rfl, Own.nil _ _ _, .inl ⟨HV.out, .inl ⟨(by first | exact .inl rfl | exact .inr rfl | exact .inr (by dsimp only; omega)), hD⟩⟩⟩, below_grown hB4 hg10 (by omega) (fun q hq => by simp at hq; omega)⟩
        · skip
          go_upto_region 4 with fail
          refine wp_region_held (S := fun w' => CF w' w.heap.size [.int .i64 nu, .int .i64 300, .bool false, .int .i64 1, .int .i64 le, .int .i64 ta, .int .i64 co, .int .i64 lf, .slice a n c, .string x, .int .i64 si]) (by kernel_rfl) ?_
          change wpAnyH _ _ _ _ _ _ _ _ (World.drew _)
          have hPd : CF w1.drew w.heap.size [.int .i64 nu, .int .i64 300, .bool false, .int .i64 1, .int .i64 le, .int .i64 ta, .int .i64 co, .int .i64 lf, .slice a n c, .string x, .int .i64 si] := hP1
          have hRd : CF w1.drew (w.heap.size + 1) zW := hR1
          have hBd := hB1.drew
          have hzd : w.heap.size + 2 ≤ w1.drew.heap.size := hz1
          have hwd := h.below' hBd
          obtain ⟨wd, hwd0⟩ : ∃ wd, wd = w1.drew := ⟨_, rfl⟩
          rw [← hwd0] at hPd hRd hBd hzd hwd ⊢
          clear hwd0 hP1 hR1 hB1 hz1 hw2 y0 y1 y2 y3 y4 y5 y6 y7 y8 y9 y10
          refine hTake (i := 0) (d := some 14) (v := .agg #[.int .i64 nu, .int .i64 300, .bool false, .int .i64 1, .int .i64 le, .int .i64 ta, .int .i64 co, .int .i64 lf, .slice a n c, .string x, .int .i64 si]) (l' := #[true, false, false, false, false]) rfl (by kernel_rfl) (by kernel_rfl) (by kernel_rfl) (by kernel_rfl) (fun _ _ _ h => h) (by kernel_rfl) (fun _ hc => run_ldT 27 _ [.int .i64 nu, .int .i64 300, .bool false, .int .i64 1, .int .i64 le, .int .i64 ta, .int .i64 co, .int .i64 lf, .slice a n c, .string x, .int .i64 si] (.tmp 1) (by kernel_rfl) (by kernel_rfl) hc Try.underlying27 rfl Try.sizeWk) hPd (by kernel_rfl) ?_
          refine hTake (i := 1) (d := some 15) (v := .agg #[.int .i64 nu, .int .i64 300, .bool false, .int .i64 1, .int .i64 le, .int .i64 ta, .int .i64 co, .int .i64 lf, .slice a n c, .string x, .int .i64 si]) (l' := #[true, true, false, false, false]) rfl (by kernel_rfl) (by kernel_rfl) (by kernel_rfl) (by kernel_rfl) (fun _ _ _ h => h) (by kernel_rfl) (fun _ hc => run_ldT 27 _ [.int .i64 nu, .int .i64 300, .bool false, .int .i64 1, .int .i64 le, .int .i64 ta, .int .i64 co, .int .i64 lf, .slice a n c, .string x, .int .i64 si] (.tmp 1) (by kernel_rfl) (by kernel_rfl) hc Try.underlying27 rfl Try.sizeWk) hPd (by kernel_rfl) ?_
          refine hOne (by kernel_rfl) (hCall (i := 2) (d := some 16) (f := 32) (args := #[.agg #[.int .i64 nu, .int .i64 300, .bool false, .int .i64 1, .int .i64 le, .int .i64 ta, .int .i64 co, .int .i64 lf, .slice a n c, .string x, .int .i64 si]]) (l' := #[true, true, true, false, false]) (R := fun v w' => v = .iface 85 (.agg #[.int .i64 le, .int .i64 ta, .int .i64 co, .int .i64 lf, .slice a n c]) ∧ w' = wd.alloc (.cells #[.int .i64 nu, .int .i64 300, .bool false, .int .i64 1, .int .i64 le, .int .i64 ta, .int .i64 co, .int .i64 lf, .slice a n c, .string x, .int .i64 si] 27)) rfl (by kernel_rfl) (by kernel_rfl) (by kernel_rfl) (run_cl1 _ _ rfl (by kernel_rfl) rfl enter_stateOf) ((stateOf_1 nu 300 false le ta co lf a n c x si _).mono fun _ _ ⟨he, hw⟩ => ⟨_, he, rfl, hw⟩) ?_)
          rintro _ _ ⟨rfl, rfl⟩
          have hP2 := hPd.block (Below.heap_alloc wd (.cells #[.int .i64 nu, .int .i64 300, .bool false, .int .i64 1, .int .i64 le, .int .i64 ta, .int .i64 co, .int .i64 lf, .slice a n c, .string x, .int .i64 si] 27) _ (by omega))
          have hR2 := hRd.block (Below.heap_alloc wd (.cells #[.int .i64 nu, .int .i64 300, .bool false, .int .i64 1, .int .i64 le, .int .i64 ta, .int .i64 co, .int .i64 lf, .slice a n c, .string x, .int .i64 si] 27) _ (by omega))
          have hB2 := hBd.alloc hBd.size (.cells #[.int .i64 nu, .int .i64 300, .bool false, .int .i64 1, .int .i64 le, .int .i64 ta, .int .i64 co, .int .i64 lf, .slice a n c, .string x, .int .i64 si] 27)
          have hz2 : w.heap.size + 2 ≤ (wd.alloc (.cells #[.int .i64 nu, .int .i64 300, .bool false, .int .i64 1, .int .i64 le, .int .i64 ta, .int .i64 co, .int .i64 lf, .slice a n c, .string x, .int .i64 si] 27)).heap.size := by simp; omega
          have hw3 := h.below' hB2
          refine ⟨hP2, ?_⟩
          obtain ⟨we, hwe0⟩ : ∃ we, we = wd.alloc (.cells #[.int .i64 nu, .int .i64 300, .bool false, .int .i64 1, .int .i64 le, .int .i64 ta, .int .i64 co, .int .i64 lf, .slice a n c, .string x, .int .i64 si] 27) := ⟨_, rfl⟩
          rw [← hwe0] at hP2 hR2 hB2 hz2 hw3 ⊢
          clear hwe0 hPd hRd hBd hzd hwd
          refine hOne (by kernel_rfl) (hCall (i := 3) (d := some 17) (f := 44) (args := #[.agg #[.int .i64 nu, .int .i64 300, .bool false, .int .i64 1, .int .i64 le, .int .i64 ta, .int .i64 co, .int .i64 lf, .slice a n c, .string x, .int .i64 si], .iface 85 (.agg #[.int .i64 le, .int .i64 ta, .int .i64 co, .int .i64 lf, .slice a n c])]) (l' := #[true, true, true, true, false]) (R := fun v w' => ∃ a1 c1, v = .agg #[.int .i64 nu, .int .i64 300, .bool false, .int .i64 1, .int .i64 le, .int .i64 ta, .int .i64 co, .int .i64 lf, .slice a1 n c1, .string ⟨#[]⟩, .int .i64 si] ∧ Own we.heap.size w' 1 (.slice a1 n c1) n (ss.map Value.string) ∧ Below we.heap.size we w') rfl (by kernel_rfl) (by kernel_rfl) (by kernel_rfl) (run_cl2 _ _ _ rfl (by kernel_rfl) (by kernel_rfl) rfl enter_inState) ((inState_1 nu 300 false 1 le ta co lf a n c x si le ta co lf a b o n c ss _ hw3 (by omega)).mono fun _ _ ⟨a1, c1, he, ho, hw⟩ => ⟨_, he, a1, c1, rfl, ho, hw⟩) ?_)
          rintro _ w4 ⟨a1, c1, rfl, ho4, hb4⟩
          have hP4 := hP2.block (hb4.block _ (by omega))
          have hR4 := hR2.block (hb4.block (w.heap.size + 1) (by omega))
          have hB4 := hB2.trans (hb4.mono hB2.size)
          have hz4 : w.heap.size + 2 ≤ w4.heap.size := by have := hb4.size; omega
          refine ⟨hP4, ?_⟩
          obtain ⟨w10, hw10⟩ : ∃ w10, w10 = w4.setCells (w.heap.size + 1) 0 [.int .i64 nu, .int .i64 300, .bool false, .int .i64 1, .int .i64 le, .int .i64 ta, .int .i64 co, .int .i64 lf, .slice a1 n c1, .string ⟨#[]⟩, .int .i64 si] := ⟨_, rfl⟩
          have hc10 : CF w10 (w.heap.size + 1) [.int .i64 nu, .int .i64 300, .bool false, .int .i64 1, .int .i64 le, .int .i64 ta, .int .i64 co, .int .i64 lf, .slice a1 n c1, .string ⟨#[]⟩, .int .i64 si] := by rw [hw10]; exact hR4.stored rfl
          have hg10 : w4.grownBy w10 (some (w.heap.size + 1)) := by rw [hw10]; exact grown_setCells _ _ _ _ _ (World.grownBy.refl _ _)
          have hP10 := hP4.block (hg10.block w.heap.size (by omega) (by simp))
          refine hOne (by kernel_rfl) (hSkip (i := 4) (w' := w10) (l' := #[true, true, true, true, true]) rfl (by kernel_rfl) (by kernel_rfl) (by kernel_rfl) (by rw [hw10]; exact run_stT 27 zW [.int .i64 nu, .int .i64 300, .bool false, .int .i64 1, .int .i64 le, .int .i64 ta, .int .i64 co, .int .i64 lf, .slice a1 n c1, .string ⟨#[]⟩, .int .i64 si] (.tmp 2) (.tmp 17) (by kernel_rfl) (by kernel_rfl) (by kernel_rfl) hR4 rfl Try.sizeWk (one11 _ _ _ _ _ _ _ _ _ _ _ _ _)) hP10 ?_)
          have kk0 : w10.cell? ⟨w.heap.size + 1, 0, none⟩ = some (.int .i64 nu) := (hc10 0 (by simp)).1
          have kk1 : w10.cell? ⟨w.heap.size + 1, 1, none⟩ = some (.int .i64 300) := (hc10 1 (by simp)).1
          have kk2 : w10.cell? ⟨w.heap.size + 1, 2, none⟩ = some (.bool false) := (hc10 2 (by simp)).1
          have kk3 : w10.cell? ⟨w.heap.size + 1, 3, none⟩ = some (.int .i64 1) := (hc10 3 (by simp)).1
          have kk4 : w10.cell? ⟨w.heap.size + 1, 4, none⟩ = some (.int .i64 le) := (hc10 4 (by simp)).1
          have kk5 : w10.cell? ⟨w.heap.size + 1, 5, none⟩ = some (.int .i64 ta) := (hc10 5 (by simp)).1
          have kk6 : w10.cell? ⟨w.heap.size + 1, 6, none⟩ = some (.int .i64 co) := (hc10 6 (by simp)).1
          have kk7 : w10.cell? ⟨w.heap.size + 1, 7, none⟩ = some (.int .i64 lf) := (hc10 7 (by simp)).1
          have kk8 : w10.cell? ⟨w.heap.size + 1, 8, none⟩ = some (.slice a1 n c1) := (hc10 8 (by simp)).1
          have kk9 : w10.cell? ⟨w.heap.size + 1, 9, none⟩ = some (.string ⟨#[]⟩) := (hc10 9 (by simp)).1
          have kk10 : w10.cell? ⟨w.heap.size + 1, 10, none⟩ = some (.int .i64 si) := (hc10 10 (by simp)).1
          refine wpAnyH_done (by kernel_rfl) ?_ _
          go_wp2
          have hd := (vW1 _ _ _ _ _ _ _ _ _ _).1 HV.out
          obtain ⟨_, _, _, _, _, _, _, _, _, e6, _⟩ := hd
          have e7 := bytes0 e6
          have hD : (⟨nu, 300, false, 1, le, ta, co, lf, ss, ⟨#[]⟩, si⟩ : WD) = ⟨nu, 300, false, 1, le, ta, co, lf, ss, x, si⟩ := by dsimp only at e7; rw [e7]
          exact bodyPost_ret (v := .agg #[.int .i64 nu, .int .i64 300, .bool false, .int .i64 1, .int .i64 le, .int .i64 ta, .int .i64 co, .int .i64 lf, .slice a1 n c1, .string ⟨#[]⟩, .int .i64 si]) (by simp [results, Try.results17, go_sem, kk0, kk1, kk2, kk3, kk4, kk5, kk6, kk7, kk8, kk9, kk10]) rfl ⟨⟨⟨nu, 300, false, 1, le, ta, co, lf, ss, ⟨#[]⟩, si⟩, a1, c1, (by simp only [WD.v, hlen.out]), (by rw [hlen.out]; exact (ho4.grown hg10 (.inr (by intro hh; have := ho4.row_lo _ hh; omega))).mono' (by omega)), .inl ⟨HV.out, .inl ⟨(by first | exact .inl rfl | exact .inr rfl | exact .inr (by dsimp only; omega)), hD⟩⟩⟩, below_grown hB4 hg10 (by omega) (fun q hq => by simp at hq; omega)⟩
        · skip
          go_upto_region 4 with fail
          refine wp_region_held (S := fun w' => CF w' w.heap.size [.int .i64 nu, .int .i64 300, .bool false, .int .i64 2, .int .i64 le, .int .i64 ta, .int .i64 co, .int .i64 lf, .slice a n c, .string x, .int .i64 si]) (by kernel_rfl) ?_
          change wpAnyH _ _ _ _ _ _ _ _ (World.drew _)
          have hPd : CF w1.drew w.heap.size [.int .i64 nu, .int .i64 300, .bool false, .int .i64 2, .int .i64 le, .int .i64 ta, .int .i64 co, .int .i64 lf, .slice a n c, .string x, .int .i64 si] := hP1
          have hRd : CF w1.drew (w.heap.size + 1) zW := hR1
          have hBd := hB1.drew
          have hzd : w.heap.size + 2 ≤ w1.drew.heap.size := hz1
          have hwd := h.below' hBd
          obtain ⟨wd, hwd0⟩ : ∃ wd, wd = w1.drew := ⟨_, rfl⟩
          rw [← hwd0] at hPd hRd hBd hzd hwd ⊢
          clear hwd0 hP1 hR1 hB1 hz1 hw2 y0 y1 y2 y3 y4 y5 y6 y7 y8 y9 y10
          refine hTake (i := 0) (d := some 14) (v := .agg #[.int .i64 nu, .int .i64 300, .bool false, .int .i64 2, .int .i64 le, .int .i64 ta, .int .i64 co, .int .i64 lf, .slice a n c, .string x, .int .i64 si]) (l' := #[true, false, false, false, false]) rfl (by kernel_rfl) (by kernel_rfl) (by kernel_rfl) (by kernel_rfl) (fun _ _ _ h => h) (by kernel_rfl) (fun _ hc => run_ldT 27 _ [.int .i64 nu, .int .i64 300, .bool false, .int .i64 2, .int .i64 le, .int .i64 ta, .int .i64 co, .int .i64 lf, .slice a n c, .string x, .int .i64 si] (.tmp 1) (by kernel_rfl) (by kernel_rfl) hc Try.underlying27 rfl Try.sizeWk) hPd (by kernel_rfl) ?_
          refine hTake (i := 1) (d := some 15) (v := .agg #[.int .i64 nu, .int .i64 300, .bool false, .int .i64 2, .int .i64 le, .int .i64 ta, .int .i64 co, .int .i64 lf, .slice a n c, .string x, .int .i64 si]) (l' := #[true, true, false, false, false]) rfl (by kernel_rfl) (by kernel_rfl) (by kernel_rfl) (by kernel_rfl) (fun _ _ _ h => h) (by kernel_rfl) (fun _ hc => run_ldT 27 _ [.int .i64 nu, .int .i64 300, .bool false, .int .i64 2, .int .i64 le, .int .i64 ta, .int .i64 co, .int .i64 lf, .slice a n c, .string x, .int .i64 si] (.tmp 1) (by kernel_rfl) (by kernel_rfl) hc Try.underlying27 rfl Try.sizeWk) hPd (by kernel_rfl) ?_
          refine hOne (by kernel_rfl) (hCall (i := 2) (d := some 16) (f := 32) (args := #[.agg #[.int .i64 nu, .int .i64 300, .bool false, .int .i64 2, .int .i64 le, .int .i64 ta, .int .i64 co, .int .i64 lf, .slice a n c, .string x, .int .i64 si]]) (l' := #[true, true, true, false, false]) (R := fun v w' => v = .iface 87 (.agg #[.int .i64 le, .int .i64 ta, .string x]) ∧ w' = wd.alloc (.cells #[.int .i64 nu, .int .i64 300, .bool false, .int .i64 2, .int .i64 le, .int .i64 ta, .int .i64 co, .int .i64 lf, .slice a n c, .string x, .int .i64 si] 27)) rfl (by kernel_rfl) (by kernel_rfl) (by kernel_rfl) (run_cl1 _ _ rfl (by kernel_rfl) rfl enter_stateOf) ((stateOf_2 nu 300 false le ta co lf a n c x si _).mono fun _ _ ⟨he, hw⟩ => ⟨_, he, rfl, hw⟩) ?_)
          rintro _ _ ⟨rfl, rfl⟩
          have hP2 := hPd.block (Below.heap_alloc wd (.cells #[.int .i64 nu, .int .i64 300, .bool false, .int .i64 2, .int .i64 le, .int .i64 ta, .int .i64 co, .int .i64 lf, .slice a n c, .string x, .int .i64 si] 27) _ (by omega))
          have hR2 := hRd.block (Below.heap_alloc wd (.cells #[.int .i64 nu, .int .i64 300, .bool false, .int .i64 2, .int .i64 le, .int .i64 ta, .int .i64 co, .int .i64 lf, .slice a n c, .string x, .int .i64 si] 27) _ (by omega))
          have hB2 := hBd.alloc hBd.size (.cells #[.int .i64 nu, .int .i64 300, .bool false, .int .i64 2, .int .i64 le, .int .i64 ta, .int .i64 co, .int .i64 lf, .slice a n c, .string x, .int .i64 si] 27)
          have hz2 : w.heap.size + 2 ≤ (wd.alloc (.cells #[.int .i64 nu, .int .i64 300, .bool false, .int .i64 2, .int .i64 le, .int .i64 ta, .int .i64 co, .int .i64 lf, .slice a n c, .string x, .int .i64 si] 27)).heap.size := by simp; omega
          have hw3 := h.below' hB2
          refine ⟨hP2, ?_⟩
          obtain ⟨we, hwe0⟩ : ∃ we, we = wd.alloc (.cells #[.int .i64 nu, .int .i64 300, .bool false, .int .i64 2, .int .i64 le, .int .i64 ta, .int .i64 co, .int .i64 lf, .slice a n c, .string x, .int .i64 si] 27) := ⟨_, rfl⟩
          rw [← hwe0] at hP2 hR2 hB2 hz2 hw3 ⊢
          clear hwe0 hPd hRd hBd hzd hwd
          refine hOne (by kernel_rfl) (hCall (i := 3) (d := some 17) (f := 44) (args := #[.agg #[.int .i64 nu, .int .i64 300, .bool false, .int .i64 2, .int .i64 le, .int .i64 ta, .int .i64 co, .int .i64 lf, .slice a n c, .string x, .int .i64 si], .iface 87 (.agg #[.int .i64 le, .int .i64 ta, .string x])]) (l' := #[true, true, true, true, false]) (R := fun v w' => v = .agg #[.int .i64 nu, .int .i64 300, .bool false, .int .i64 2, .int .i64 le, .int .i64 ta, .int .i64 0, .int .i64 0, .slice none 0 0, .string x, .int .i64 si] ∧ Below we.heap.size we w') rfl (by kernel_rfl) (by kernel_rfl) (by kernel_rfl) (run_cl2 _ _ _ rfl (by kernel_rfl) (by kernel_rfl) rfl enter_inState) ((inState_2 nu 300 false 2 le ta co lf a n c x si le ta x _).mono fun _ _ ⟨he, hw⟩ => ⟨_, he, rfl, hw⟩) ?_)
          rintro _ w4 ⟨rfl, hb4⟩
          have hP4 := hP2.block (hb4.block _ (by omega))
          have hR4 := hR2.block (hb4.block (w.heap.size + 1) (by omega))
          have hB4 := hB2.trans (hb4.mono hB2.size)
          have hz4 : w.heap.size + 2 ≤ w4.heap.size := by have := hb4.size; omega
          refine ⟨hP4, ?_⟩
          obtain ⟨w10, hw10⟩ : ∃ w10, w10 = w4.setCells (w.heap.size + 1) 0 [.int .i64 nu, .int .i64 300, .bool false, .int .i64 2, .int .i64 le, .int .i64 ta, .int .i64 0, .int .i64 0, .slice none 0 0, .string x, .int .i64 si] := ⟨_, rfl⟩
          have hc10 : CF w10 (w.heap.size + 1) [.int .i64 nu, .int .i64 300, .bool false, .int .i64 2, .int .i64 le, .int .i64 ta, .int .i64 0, .int .i64 0, .slice none 0 0, .string x, .int .i64 si] := by rw [hw10]; exact hR4.stored rfl
          have hg10 : w4.grownBy w10 (some (w.heap.size + 1)) := by rw [hw10]; exact grown_setCells _ _ _ _ _ (World.grownBy.refl _ _)
          have hP10 := hP4.block (hg10.block w.heap.size (by omega) (by simp))
          refine hOne (by kernel_rfl) (hSkip (i := 4) (w' := w10) (l' := #[true, true, true, true, true]) rfl (by kernel_rfl) (by kernel_rfl) (by kernel_rfl) (by rw [hw10]; exact run_stT 27 zW [.int .i64 nu, .int .i64 300, .bool false, .int .i64 2, .int .i64 le, .int .i64 ta, .int .i64 0, .int .i64 0, .slice none 0 0, .string x, .int .i64 si] (.tmp 2) (.tmp 17) (by kernel_rfl) (by kernel_rfl) (by kernel_rfl) hR4 rfl Try.sizeWk (one11 _ _ _ _ _ _ _ _ _ _ _ _ _)) hP10 ?_)
          have kk0 : w10.cell? ⟨w.heap.size + 1, 0, none⟩ = some (.int .i64 nu) := (hc10 0 (by simp)).1
          have kk1 : w10.cell? ⟨w.heap.size + 1, 1, none⟩ = some (.int .i64 300) := (hc10 1 (by simp)).1
          have kk2 : w10.cell? ⟨w.heap.size + 1, 2, none⟩ = some (.bool false) := (hc10 2 (by simp)).1
          have kk3 : w10.cell? ⟨w.heap.size + 1, 3, none⟩ = some (.int .i64 2) := (hc10 3 (by simp)).1
          have kk4 : w10.cell? ⟨w.heap.size + 1, 4, none⟩ = some (.int .i64 le) := (hc10 4 (by simp)).1
          have kk5 : w10.cell? ⟨w.heap.size + 1, 5, none⟩ = some (.int .i64 ta) := (hc10 5 (by simp)).1
          have kk6 : w10.cell? ⟨w.heap.size + 1, 6, none⟩ = some (.int .i64 0) := (hc10 6 (by simp)).1
          have kk7 : w10.cell? ⟨w.heap.size + 1, 7, none⟩ = some (.int .i64 0) := (hc10 7 (by simp)).1
          have kk8 : w10.cell? ⟨w.heap.size + 1, 8, none⟩ = some (.slice none 0 0) := (hc10 8 (by simp)).1
          have kk9 : w10.cell? ⟨w.heap.size + 1, 9, none⟩ = some (.string x) := (hc10 9 (by simp)).1
          have kk10 : w10.cell? ⟨w.heap.size + 1, 10, none⟩ = some (.int .i64 si) := (hc10 10 (by simp)).1
          refine wpAnyH_done (by kernel_rfl) ?_ _
          go_wp2
          have hd := (vW2 _ _ _ _ _ _ _ _ _ _).1 HV.out
          obtain ⟨_, _, _, _, _, _, e3, e4, e5⟩ := hd
          have e8 : ss = [] := List.eq_nil_of_length_eq_zero e5
          have hD : (⟨nu, 300, false, 2, le, ta, 0, 0, [], x, si⟩ : WD) = ⟨nu, 300, false, 2, le, ta, co, lf, ss, x, si⟩ := by dsimp only at e3 e4; rw [e3, e4, e8]
          exact bodyPost_ret (v := .agg #[.int .i64 nu, .int .i64 300, .bool false, .int .i64 2, .int .i64 le, .int .i64 ta, .int .i64 0, .int .i64 0, .slice none 0 0, .string x, .int .i64 si]) (by simp [results, Try.results17, go_sem, kk0, kk1, kk2, kk3, kk4, kk5, kk6, kk7, kk8, kk9, kk10]) rfl ⟨⟨⟨nu, 300, false, 2, le, ta, 0, 0, [], x, si⟩, none, 0, rfl, Own.nil _ _ _, .inl ⟨HV.out, .inl ⟨(by first | exact .inl rfl | exact .inr rfl | exact .inr (by dsimp only; omega)), hD⟩⟩⟩, below_grown hB4 hg10 (by omega) (fun q hq => by simp at hq; omega)⟩
    · have hq : Hid (¬ (up = true ∨ ep = 300)) := hu
      have hup : up = false := by cases up <;> simp_all
      have hep : (ep == 300) = false := by have := hq.out; simp; omega
      have hwr : IntKind.i64.wrap (ep + 1) = ep + 1 := by go_arith
      subst hup
      clear hu
      go_wp2_with (refine wpList_store_cf rfl 27 (.tmp 2) (.tmp 23) rfl (w.heap.size + 1) zW [.int .i64 nu, .int .i64 (ep + 1), .bool true, .int .i64 0, .int .i64 0, .int .i64 0, .int .i64 0, .int .i64 0, .slice none 0 0, .string ⟨#[]⟩, .int .i64 3] rfl rfl hR1 rfl Try.sizeWk (one11 _ _ _ _ _ _ _ _ _ _ _ _ _) ?_; intro w10 hc10 hg10)
      have kk0 : w10.cell? ⟨w.heap.size + 1, 0, none⟩ = some (.int .i64 nu) := (hc10 0 (by simp)).1
      have kk1 : w10.cell? ⟨w.heap.size + 1, 1, none⟩ = some (.int .i64 (ep + 1)) := (hc10 1 (by simp)).1
      have kk2 : w10.cell? ⟨w.heap.size + 1, 2, none⟩ = some (.bool true) := (hc10 2 (by simp)).1
      have kk3 : w10.cell? ⟨w.heap.size + 1, 3, none⟩ = some (.int .i64 0) := (hc10 3 (by simp)).1
      have kk4 : w10.cell? ⟨w.heap.size + 1, 4, none⟩ = some (.int .i64 0) := (hc10 4 (by simp)).1
      have kk5 : w10.cell? ⟨w.heap.size + 1, 5, none⟩ = some (.int .i64 0) := (hc10 5 (by simp)).1
      have kk6 : w10.cell? ⟨w.heap.size + 1, 6, none⟩ = some (.int .i64 0) := (hc10 6 (by simp)).1
      have kk7 : w10.cell? ⟨w.heap.size + 1, 7, none⟩ = some (.int .i64 0) := (hc10 7 (by simp)).1
      have kk8 : w10.cell? ⟨w.heap.size + 1, 8, none⟩ = some (.slice none 0 0) := (hc10 8 (by simp)).1
      have kk9 : w10.cell? ⟨w.heap.size + 1, 9, none⟩ = some (.string ⟨#[]⟩) := (hc10 9 (by simp)).1
      have kk10 : w10.cell? ⟨w.heap.size + 1, 10, none⟩ = some (.int .i64 3) := (hc10 10 (by simp)).1
      exact bodyPost_ret (v := .agg #[.int .i64 nu, .int .i64 (ep + 1), .bool true, .int .i64 0, .int .i64 0, .int .i64 0, .int .i64 0, .int .i64 0, .slice none 0 0, .string ⟨#[]⟩, .int .i64 3]) (by simp [results, Try.results17, go_sem, kk0, kk1, kk2, kk3, kk4, kk5, kk6, kk7, kk8, kk9, kk10]) rfl ⟨⟨⟨nu, ep + 1, true, 0, 0, 0, 0, 0, [], ⟨#[]⟩, 3⟩, none, 0, rfl, Own.nil _ _ _, .inl ⟨HV.out, .inr ⟨hq.out, rfl⟩⟩⟩, below_grown hB1 hg10 (by omega) (fun q hq => by simp at hq; omega)⟩
end Go.Proofs.Ytlpmcjlcmjlbeaa
