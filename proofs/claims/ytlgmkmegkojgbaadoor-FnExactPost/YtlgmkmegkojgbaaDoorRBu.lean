
/- impl.readBody, a case. -/
import Derived.Test.YtlgmkmegkojgbaaDoorRBody
namespace Go.Proofs.YtlgmkmegkojgbaaDoor
open Go.RowKit

set_option maxHeartbeats 4000000 in
set_option maxRecDepth 100000 in
theorem readBody_u (body : ByteArray) (w : World) (hT : Tab w) (b0 b1 b2 b3 b4 b5 b6 b7 b8 b9 b10 : UInt8) (R : List UInt8) (hL : body.data.toList = b0 :: b1 :: b2 :: b3 :: b4 :: b5 :: b6 :: b7 :: b8 :: b9 :: b10 :: R) (h3 : b0.toNat = 3) (h8 : R.length < 8) :
    Calls Tryd.prog 74 #[.string body] w fun e' w' => RetR e' w w' body.data.toList ∧ Below w.heap.size w w' := by
  obtain ⟨i0, hi, hz0, hz1, hz2⟩ := info_parts Tryd.info9
  have hb10 : b10.toNat < 256 := b10.toNat_lt
  obtain ⟨W, hW⟩ : ∃ W, W = ((w.alloc (.cells zM.toArray 27)).alloc (.cells #[.string body, .nilIface] 139)).alloc (.cells zM.toArray 27) := ⟨_, rfl⟩
  obtain ⟨hs0, hr0⟩ := rb_start w body W hW
  rw [hL] at hr0
  simp only [zM] at hW
  have H3 := hid h3
  clear h3
  go_enter Tryd.func74, Tryd.ntmps74
  go_wp2_with fail
  rw [← hW]
  clear hW
  refine (number_L (w.heap.size + 1) 1 (b0 :: b1 :: b2 :: b3 :: b4 :: b5 :: b6 :: b7 :: b8 :: b9 :: b10 :: R) _ hr0 (by simp) (by omega) (by omega)).mono ?_
  rintro e0 w1 ⟨rfl, hr0', hg0⟩
  have hv0 : beV ((b0 :: b1 :: b2 :: b3 :: b4 :: b5 :: b6 :: b7 :: b8 :: b9 :: b10 :: R).take 1) = (b0.toNat : Int) := by simp [beV]
  rw [hv0]
  clear hv0
  have hs0' := hs0.call hg0
  have c0 : w1.cell? ⟨w.heap.size + 1 + 1, 0, none⟩ = some (.int .i64 0) := (hs0'.m 0 (by simp [zM])).1
  have f0 := (hs0'.m 0 (by simp [zM])).2
  have hs1 := hs0'.store (j := 0) (by simp [zM]) (.int .i64 (b0.toNat : Int))
  have hr1 := hr0'.store (j := 0) (u := .int .i64 (b0.toNat : Int))
  simp only [zM, List.set_cons_zero] at hs1
  clear hs0' hr0' hg0 hs0 hr0
  go_wp2_with fail
  refine (number_L (w.heap.size + 1) 1 (b1 :: b2 :: b3 :: b4 :: b5 :: b6 :: b7 :: b8 :: b9 :: b10 :: R) _ hr1 (by simp) (by omega) (by omega)).mono ?_
  rintro e0 w2 ⟨rfl, hr1', hg1⟩
  have hv1 : beV ((b1 :: b2 :: b3 :: b4 :: b5 :: b6 :: b7 :: b8 :: b9 :: b10 :: R).take 1) = (b1.toNat : Int) := by simp [beV]
  rw [hv1]
  clear hv1
  have hs1' := hs1.call hg1
  have c1 : w2.cell? ⟨w.heap.size + 1 + 1, 1, none⟩ = some (.int .i64 0) := (hs1'.m 1 (by simp)).1
  have f1 := (hs1'.m 1 (by simp)).2
  have hs2 := hs1'.store (j := 1) (by simp) (.int .i64 (b1.toNat : Int))
  have hr2 := hr1'.store (j := 1) (u := .int .i64 (b1.toNat : Int))
  simp only [List.set_cons_zero, List.set_cons_succ] at hs2
  clear hs1' hr1' hg1 hs1 hr1
  clear c0 f0
  go_wp2_with fail
  refine (number_L (w.heap.size + 1) 1 (b2 :: b3 :: b4 :: b5 :: b6 :: b7 :: b8 :: b9 :: b10 :: R) _ hr2 (by simp) (by omega) (by omega)).mono ?_
  rintro e0 w3 ⟨rfl, hr2', hg2⟩
  have hv2 : beV ((b2 :: b3 :: b4 :: b5 :: b6 :: b7 :: b8 :: b9 :: b10 :: R).take 1) = (b2.toNat : Int) := by simp [beV]
  rw [hv2]
  clear hv2
  have hs2' := hs2.call hg2
  have c2 : w3.cell? ⟨w.heap.size + 1 + 1, 2, none⟩ = some (.int .i64 0) := (hs2'.m 2 (by simp)).1
  have f2 := (hs2'.m 2 (by simp)).2
  have hs3 := hs2'.store (j := 2) (by simp) (.int .i64 (b2.toNat : Int))
  have hr3 := hr2'.store (j := 2) (u := .int .i64 (b2.toNat : Int))
  simp only [List.set_cons_zero, List.set_cons_succ] at hs3
  clear hs2' hr2' hg2 hs2 hr2
  clear c1 f1
  go_wp2_with fail
  refine (number_L (w.heap.size + 1) 2 (b3 :: b4 :: b5 :: b6 :: b7 :: b8 :: b9 :: b10 :: R) _ hr3 (by simp) (by omega) (by omega)).mono ?_
  rintro e0 w4 ⟨rfl, hr3', hg3⟩
  have hv3 : beV ((b3 :: b4 :: b5 :: b6 :: b7 :: b8 :: b9 :: b10 :: R).take 2) = (nE b3 b4) := by simp [beV, nE]
  rw [hv3]
  clear hv3
  have hs3' := hs3.call hg3
  have c3 : w4.cell? ⟨w.heap.size + 1 + 1, 3, none⟩ = some (.int .i64 0) := (hs3'.m 3 (by simp)).1
  have f3 := (hs3'.m 3 (by simp)).2
  have hs4 := hs3'.store (j := 3) (by simp) (.int .i64 (nE b3 b4))
  have hr4 := hr3'.store (j := 3) (u := .int .i64 (nE b3 b4))
  simp only [List.set_cons_zero, List.set_cons_succ] at hs4
  clear hs3' hr3' hg3 hs3 hr3
  clear c2 f2
  go_wp2_with fail
  refine (number_L (w.heap.size + 1) 4 (b5 :: b6 :: b7 :: b8 :: b9 :: b10 :: R) _ hr4 (by simp) (by omega) (by omega)).mono ?_
  rintro e0 w5 ⟨rfl, hr4', hg4⟩
  have hv4 : beV ((b5 :: b6 :: b7 :: b8 :: b9 :: b10 :: R).take 4) = (nL b5 b6 b7 b8) := by simp [beV, nL]
  rw [hv4]
  clear hv4
  have hs4' := hs4.call hg4
  have c4 : w5.cell? ⟨w.heap.size + 1 + 1, 4, none⟩ = some (.int .i64 0) := (hs4'.m 4 (by simp)).1
  have f4 := (hs4'.m 4 (by simp)).2
  have hs5 := hs4'.store (j := 4) (by simp) (.int .i64 (nL b5 b6 b7 b8))
  have hr5 := hr4'.store (j := 4) (u := .int .i64 (nL b5 b6 b7 b8))
  simp only [List.set_cons_zero, List.set_cons_succ] at hs5
  clear hs4' hr4' hg4 hs4 hr4
  clear c3 f3
  go_wp2_with fail
  refine (number_L (w.heap.size + 1) 1 (b9 :: b10 :: R) _ hr5 (by simp) (by omega) (by omega)).mono ?_
  rintro e0 w6 ⟨rfl, hr5', hg5⟩
  have hv5 : beV ((b9 :: b10 :: R).take 1) = (b9.toNat : Int) := by simp [beV]
  rw [hv5]
  clear hv5
  have hs5' := hs5.call hg5
  have c5 : w6.cell? ⟨w.heap.size + 1 + 1, 5, none⟩ = some (.int .i64 0) := (hs5'.m 5 (by simp)).1
  have f5 := (hs5'.m 5 (by simp)).2
  have hs6 := hs5'.store (j := 5) (by simp) (.int .i64 (b9.toNat : Int))
  have hr6 := hr5'.store (j := 5) (u := .int .i64 (b9.toNat : Int))
  simp only [List.set_cons_zero, List.set_cons_succ] at hs6
  clear hs5' hr5' hg5 hs5 hr5
  clear c4 f4
  go_wp2_with fail
  refine (number_L (w.heap.size + 1) 1 (b10 :: R) _ hr6 (by simp) (by omega) (by omega)).mono ?_
  rintro e0 w7 ⟨rfl, hr6', hg6⟩
  have hv6 : beV ((b10 :: R).take 1) = (b10.toNat : Int) := by simp [beV]
  rw [hv6]
  clear hv6
  have hs6' := hs6.call hg6
  clear hg6 hs6 hr6
  clear c5 f5
  have ck : w7.cell? ⟨w.heap.size + 1 + 1, 0, none⟩ = some (.int .i64 (b0.toNat : Int)) := (hs6'.m 0 (by simp)).1
  have h3 := H3.out
  have h0 : inB (b0.toNat : Int) 1 5 = true := by rw [h3]; rfl
  have q1 : (1 : Int) ≤ b0.toNat := by omega
  have q2 : (b0.toNat : Int) ≤ 5 := by omega
  have q3 : w7.cell? ⟨0, b0.toNat * 5 + 3, none⟩ = some (.bool true) := by rw [tab_text (hT.below hs6'.be hT.pos) (by omega) (by omega), decide_eq_true h3]
  clear h3
  go_wp2_with (go_at_call 64; refine (isKind_any _ _).mono ?_; rintro e' w' ⟨rfl, rfl⟩)
  have h3 := H3.out
  refine (text_S (w.heap.size + 1) 8 R _ hr6' h8).mono ?_
  rintro e' w8 ⟨rfl, hr8, hg8⟩
  have hs8 := hs6'.call hg8
  have c6 : w8.cell? ⟨w.heap.size + 1 + 1, 6, none⟩ = some (.string ⟨#[]⟩) := (hs8.m 6 (by simp)).1
  have f6 : w8.frozen? ⟨w.heap.size + 1 + 1, 6, none⟩ = false := (hs8.m 6 (by simp)).2
  have hS := hs8.store (j := 6) (by simp) (.string ⟨#[]⟩)
  have hr8' := hr8.store (j := 6) (u := .string ⟨#[]⟩)
  simp only [List.set_cons_zero, List.set_cons_succ] at hS
  obtain ⟨Z, hZ0⟩ : ∃ Z : Prop, Z = True := ⟨_, rfl⟩
  obtain ⟨Rp, hRp⟩ : ∃ Rp : List UInt8, Rp = [0] := ⟨_, rfl⟩
  have hR : ST (w8.setCell ⟨w.heap.size + 1 + 1, 6, none⟩ (.string ⟨#[]⟩)) (w.heap.size + 1) Z Rp 0 [] := ⟨rfl, .inr ⟨hr8', by rw [hZ0]; trivial⟩⟩
  have hZ : Rp.length < 8 * b10.toNat → Z := by rw [hRp, hZ0]; exact fun _ => trivial
  have hgood : Rp.length = 8 * b10.toNat → vM (b0.toNat : Int) (b1.toNat : Int) (b2.toNat : Int) (nE b3 b4) (nL b5 b6 b7 b8) (b9.toNat : Int) (⟨#[]⟩ : ByteArray).size (chk b10.toNat Rp) → bodyL (b0.toNat : Int) (b1.toNat : Int) (b2.toNat : Int) (nE b3 b4) (nL b5 b6 b7 b8) (b9.toNat : Int) ⟨#[]⟩ (chk b10.toNat Rp) = body.data.toList := by rw [hRp]; exact fun h _ => absurd h (by simp; omega)
  have hinv : Rp.length = 8 * b10.toNat → ¬ vM (b0.toNat : Int) (b1.toNat : Int) (b2.toNat : Int) (nE b3 b4) (nL b5 b6 b7 b8) (b9.toNat : Int) (⟨#[]⟩ : ByteArray).size (chk b10.toNat Rp) → NoRead body.data.toList := by rw [hRp]; exact fun _ _ => t_len hL h3 (.inl h8)
  have hlong : ¬ Rp.length = 8 * b10.toNat → NoRead body.data.toList := by rw [hRp]; exact fun _ => t_len hL h3 (.inl h8)
  have hbad : Z → NoRead body.data.toList := by rw [hZ0]; exact fun _ => t_len hL h3 (.inl h8)
  clear hRp hZ0
  clear hr8 hr8' hs8 hg8 hr6' hs6' h3 H3
  go_wp2
  go_loopw [36] (fun i wr => ∃ j : Nat, j ≤ b10.toNat ∧ i = .int .i64 j ∧ ∃ v xs, RB w w.heap.size [.int .i64 (b0.toNat : Int), .int .i64 (b1.toNat : Int), .int .i64 (b2.toNat : Int), .int .i64 (nE b3 b4), .int .i64 (nL b5 b6 b7 b8), .int .i64 (b9.toNat : Int), .string ⟨#[]⟩, v] wr ∧ Own (w.heap.size + 1 + 1 + 1) wr 1 v j (xs.map Value.string) ∧ ST wr (w.heap.size + 1) Z Rp j xs) (fun i _ => b10.toNat - (intOf i).toNat)
  case atStart => exact ⟨0, Nat.zero_le _, rfl, _, [], hS, Own.nil _ _ _, hR⟩
  case round =>
    obtain ⟨j, hj, rfl, v, xs, hSj, ho, hRj⟩ := hrel
    have cv : wr.cell? ⟨w.heap.size + 1 + 1, 7, none⟩ = some v := (hSj.m 7 (by simp)).1
    have fv : wr.frozen? ⟨w.heap.size + 1 + 1, 7, none⟩ = false := (hSj.m 7 (by simp)).2
    by_cases hlt : j < b10.toNat
    · have hlt' : (j : Int) < (b10.toNat : Int) := by omega
      have hRd : ST wr.drew (w.heap.size + 1) Z Rp j xs := hRj.block rfl
      have cvd : wr.drew.cell? ⟨w.heap.size + 1 + 1, 7, none⟩ = some v := cv
      have hSd : RB w w.heap.size [.int .i64 (b0.toNat : Int), .int .i64 (b1.toNat : Int), .int .i64 (b2.toNat : Int), .int .i64 (nE b3 b4), .int .i64 (nL b5 b6 b7 b8), .int .i64 (b9.toNat : Int), .string ⟨#[]⟩, v] wr.drew := hSj.below (Below.refl _ _).drew
      have hod := ho.drewW
      have hsrc : ∀ (w1 : World) (y : ByteArray), Src Tryd.prog 1 22 (.slice (some ⟨w1.heap.size, 0, none⟩) 1 1) 1 [.string y] (w1.alloc (.cells #[.string y] 9)) := fun w1 y =>
        Own.src (B := 0) (.inr ⟨_, 0, 1, rfl, OwnC.made w1 0 9 1 1 1 _ 1 (by omega) (Nat.le_refl _) (by unfold maxLen; omega) rfl (Nat.le_refl _) _ rfl _ (.inl rfl)⟩) Tryd.underlying22 (by simp; rfl)
      go_wp2
      go_region_law (first
          | (go_simp; go_at_call 86; refine (text_W (w.heap.size + 1) b10.toNat j Z Rp xs _ hRd hlt hZ).mono ?_; rintro e' w1 ⟨⟨y, rfl, hy, hR1⟩, hg1⟩; have hS1 := (hSd.call hg1).below ((Below.refl _ _).alloc (Nat.le_refl _) (.cells #[.string y] 9)); have hlo1 : w.heap.size + 1 + 1 < w1.heap.size := (hSd.call hg1).lo; have cv1 : (w1.alloc (.cells #[.string y] 9)).cell? ⟨w.heap.size + 1 + 1, 7, none⟩ = some v := (hS1.m 7 (by simp)).1; have cv1' : w1.cell? ⟨w.heap.size + 1 + 1, 7, none⟩ = some v := ((hSd.call hg1).m 7 (by simp)).1; have ho1 := (hod.grown hg1 (.inr (by intro hh; have := ho.row_lo _ hh; omega))).alloc (.cells #[.string y] 9); have hsrc1 := hsrc w1 y; have hRa := hR1.block (w' := w1.alloc (.cells #[.string y] 9)) (Below.heap_alloc _ _ _ (by omega)))
          | (refine step_append_c rfl (.tmp 39) (.tmp 41) 22 22 rfl (w.heap.size + 1 + 1 + 1) 9 i0 (.string ⟨#[]⟩) 1 16 Tryd.underlying22 hi hz0 hz1 hz2 rfl v j _ rfl ho1 _ 1 [.string y] rfl hsrc1 (by unfold maxLen; omega) (by omega) (by simp; omega) ?_; intro v2 w2 ho2 hg2 hbk2; obtain ⟨a2, c2, rfl⟩ := ho2.slc; have hS2 := hS1.grown hg2 ho1.row_lo; have cv2 : w2.cell? ⟨w.heap.size + 1 + 1, 7, none⟩ = some v := (hS2.m 7 (by simp)).1; have fv2 : w2.frozen? ⟨w.heap.size + 1 + 1, 7, none⟩ = false := (hS2.m 7 (by simp)).2; have hR2 := hRa.block (hg2.block (w.heap.size + 1) (by simp; omega) (fun e => by have := ho1.row_lo _ e.symm; omega))))
      all_goals
        have hS3 := hS2.store (j := 7) (by simp) (.slice a2 (j + 1) c2)
        simp only [List.set_cons_zero, List.set_cons_succ] at hS3
        have ho3 := ho2.grown (gset (World.grownBy.refl w2 (some (w.heap.size + 1 + 1))) 7 (.slice a2 (j + 1) c2)) (.inr (by intro hh; have := ho2.row_lo _ hh; omega))
        rw [show xs.map Value.string ++ [.string y] = (xs ++ [y]).map Value.string by simp] at ho3
        have hR3 := hR2.block (w' := w2.setCell ⟨w.heap.size + 1 + 1, 7, none⟩ (.slice a2 (j + 1) c2)) (Below.heap_setCell _ _ _ _ (by dsimp only; omega))
        clear hS1 hS2 ho1 ho2 hR1 hRa hR2 hsrc1 hg2 hbk2 cv cvd hSd hod hsrc hRd hRj ho hSj
        go_wp2
        go_roundw
        case rel => exact ⟨j + 1, by omega, by go_num, _, _, hS3, ho3, hR3⟩
        case measure => simp [intOf]; omega
    · obtain rfl : j = b10.toNat := by omega
      obtain ⟨a7, c7, rfl⟩ := ho.slc
      clear cv fv
      rcases hRj.2 with ⟨hl, h8, hxs⟩ | ⟨hx, hz⟩
      · by_cases hfull : Rp.length = 8 * b10.toNat
        · rw [List.drop_of_length_le (by omega)] at hl
          obtain ⟨rest, hrl, hok⟩ := hl
          have hr0 : rest.size = 0 := by have : rest.data.toList.length = rest.size := by { rw [Array.length_toList]; rfl }
                                         rw [hrl] at this; simpa using this.symm
          go_wp2_with fail
          refine (end_ok (w.heap.size + 1) rest _ hok hr0).mono ?_
          rintro e' w8 ⟨rfl, hg8⟩
          have hS8 := hSj.call hg8
          have ho8 := ho.grown hg8 (.inr (by intro hh; have := ho.row_lo _ hh; omega))
          have y0 : w8.cell? ⟨w.heap.size + 1 + 1, 0, none⟩ = some (.int .i64 (b0.toNat : Int)) := (hS8.m 0 (by simp)).1
          have y1 : w8.cell? ⟨w.heap.size + 1 + 1, 1, none⟩ = some (.int .i64 (b1.toNat : Int)) := (hS8.m 1 (by simp)).1
          have y2 : w8.cell? ⟨w.heap.size + 1 + 1, 2, none⟩ = some (.int .i64 (b2.toNat : Int)) := (hS8.m 2 (by simp)).1
          have y3 : w8.cell? ⟨w.heap.size + 1 + 1, 3, none⟩ = some (.int .i64 (nE b3 b4)) := (hS8.m 3 (by simp)).1
          have y4 : w8.cell? ⟨w.heap.size + 1 + 1, 4, none⟩ = some (.int .i64 (nL b5 b6 b7 b8)) := (hS8.m 4 (by simp)).1
          have y5 : w8.cell? ⟨w.heap.size + 1 + 1, 5, none⟩ = some (.int .i64 (b9.toNat : Int)) := (hS8.m 5 (by simp)).1
          have y6 : w8.cell? ⟨w.heap.size + 1 + 1, 6, none⟩ = some (.string ⟨#[]⟩) := (hS8.m 6 (by simp)).1
          have y7 : w8.cell? ⟨w.heap.size + 1 + 1, 7, none⟩ = some (.slice a7 b10.toNat c7) := (hS8.m 7 (by simp)).1
          obtain ⟨bb, oo, hSt⟩ := ho8.strs (fun s hs => Nat.le_trans (by rw [hxs] at hs; exact chk_size _ _ s hs) (by decide))
          have hTw := hT.below hS8.be hT.pos
          go_wp2_with fail
          refine (valid_any (b0.toNat : Int) (b1.toNat : Int) (b2.toNat : Int) (nE b3 b4) (nL b5 b6 b7 b8) (b9.toNat : Int) (⟨#[]⟩ : ByteArray) a7 bb oo b10.toNat c7 xs _ hTw hSt).mono ?_
          rintro e' w9 ⟨⟨r, rfl, hr⟩, hb9⟩
          have hS9 := hS8.below hb9
          have ho9 := ho8.below hb9 (Nat.le_refl _)
          clear y0 y1 y2 y3 y4 y5 y6 y7 hSt hTw
          cases r with
          | true =>
            have hv := hr.1 rfl
            have y0 : w9.cell? ⟨w.heap.size + 1 + 1, 0, none⟩ = some (.int .i64 (b0.toNat : Int)) := (hS9.m 0 (by simp)).1
            have y1 : w9.cell? ⟨w.heap.size + 1 + 1, 1, none⟩ = some (.int .i64 (b1.toNat : Int)) := (hS9.m 1 (by simp)).1
            have y2 : w9.cell? ⟨w.heap.size + 1 + 1, 2, none⟩ = some (.int .i64 (b2.toNat : Int)) := (hS9.m 2 (by simp)).1
            have y3 : w9.cell? ⟨w.heap.size + 1 + 1, 3, none⟩ = some (.int .i64 (nE b3 b4)) := (hS9.m 3 (by simp)).1
            have y4 : w9.cell? ⟨w.heap.size + 1 + 1, 4, none⟩ = some (.int .i64 (nL b5 b6 b7 b8)) := (hS9.m 4 (by simp)).1
            have y5 : w9.cell? ⟨w.heap.size + 1 + 1, 5, none⟩ = some (.int .i64 (b9.toNat : Int)) := (hS9.m 5 (by simp)).1
            have y6 : w9.cell? ⟨w.heap.size + 1 + 1, 6, none⟩ = some (.string ⟨#[]⟩) := (hS9.m 6 (by simp)).1
            have y7 : w9.cell? ⟨w.heap.size + 1 + 1, 7, none⟩ = some (.slice a7 b10.toNat c7) := (hS9.m 7 (by simp)).1
            have hbx := hS9.bx
            clear hS8 ho8 hb9 hr hok
            go_wp2_with (refine wpList_store_cf rfl 27 (.tmp 2) (.tmp 57) rfl w.heap.size zM [.int .i64 (b0.toNat : Int), .int .i64 (b1.toNat : Int), .int .i64 (b2.toNat : Int), .int .i64 (nE b3 b4), .int .i64 (nL b5 b6 b7 b8), .int .i64 (b9.toNat : Int), .string ⟨#[]⟩, .slice a7 b10.toNat c7] rfl rfl hbx rfl Tryd.sizeMsg (one8 _ _ _ _ _ _ _ _ _ _) ?_; intro w10 hc10 hg10)
            have k0 : w10.cell? ⟨w.heap.size, 0, none⟩ = some (.int .i64 (b0.toNat : Int)) := (hc10 0 (by simp)).1
            have k1 : w10.cell? ⟨w.heap.size, 1, none⟩ = some (.int .i64 (b1.toNat : Int)) := (hc10 1 (by simp)).1
            have k2 : w10.cell? ⟨w.heap.size, 2, none⟩ = some (.int .i64 (b2.toNat : Int)) := (hc10 2 (by simp)).1
            have k3 : w10.cell? ⟨w.heap.size, 3, none⟩ = some (.int .i64 (nE b3 b4)) := (hc10 3 (by simp)).1
            have k4 : w10.cell? ⟨w.heap.size, 4, none⟩ = some (.int .i64 (nL b5 b6 b7 b8)) := (hc10 4 (by simp)).1
            have k5 : w10.cell? ⟨w.heap.size, 5, none⟩ = some (.int .i64 (b9.toNat : Int)) := (hc10 5 (by simp)).1
            have k6 : w10.cell? ⟨w.heap.size, 6, none⟩ = some (.string ⟨#[]⟩) := (hc10 6 (by simp)).1
            have k7 : w10.cell? ⟨w.heap.size, 7, none⟩ = some (.slice a7 b10.toNat c7) := (hc10 7 (by simp)).1
            refine bodyPost_ret (v := .tuple #[.agg #[.int .i64 (b0.toNat : Int), .int .i64 (b1.toNat : Int), .int .i64 (b2.toNat : Int), .int .i64 (nE b3 b4), .int .i64 (nL b5 b6 b7 b8), .int .i64 (b9.toNat : Int), .string ⟨#[]⟩, .slice a7 b10.toNat c7], .nilIface]) (by simp [results, Tryd.results74, go_sem, k0, k1, k2, k3, k4, k5, k6, k7]) rfl ⟨.inr ⟨_, _, _, _, _, _, _, xs, _, rfl, hv, ?_, ?_⟩, ?_⟩
            · subst hxs; exact hgood hfull hv
            · have := (ho9.grown hg10 (.inr (by intro hh; have := ho9.row_lo _ hh; omega))).mono' (show w.heap.size ≤ w.heap.size + 1 + 1 + 1 by omega)
              rw [hRj.1]; exact this
            · exact hS9.be.grown hg10 (by have := hS9.lo; omega) (fun q hq => by simp at hq; omega)
          | false =>
            have hv : ¬ vM (b0.toNat : Int) (b1.toNat : Int) (b2.toNat : Int) (nE b3 b4) (nL b5 b6 b7 b8) (b9.toNat : Int) (⟨#[]⟩ : ByteArray).size xs := fun hv => by have := hr.2 hv; cases this
            have HN := hid (hinv hfull (by rw [← hxs]; exact hv))
            have hSA := hS9.below ((Below.refl _ _).alloc (Nat.le_refl _) (.cells #[.string ⟨#[105, 116, 115, 32, 98, 111, 100, 121, 32, 105, 115, 32, 110, 111, 116, 32, 118, 97, 108, 105, 100]⟩] 113))
            have hbx := hSA.bx
            clear hv hr hS8 ho8 hb9 hok
            go_wp2_with (refine wpList_store_cf rfl 27 (.tmp 2) (.tmp 53) rfl w.heap.size zM [.int .i64 0, .int .i64 0, .int .i64 0, .int .i64 0, .int .i64 0, .int .i64 0, .string ⟨#[]⟩, .slice none 0 0] rfl rfl hbx rfl Tryd.sizeMsg (one8 _ _ _ _ _ _ _ _ _ _) ?_; intro w10 hc10 hg10)
            have k0 : w10.cell? ⟨w.heap.size, 0, none⟩ = some (.int .i64 0) := (hc10 0 (by simp)).1
            have k1 : w10.cell? ⟨w.heap.size, 1, none⟩ = some (.int .i64 0) := (hc10 1 (by simp)).1
            have k2 : w10.cell? ⟨w.heap.size, 2, none⟩ = some (.int .i64 0) := (hc10 2 (by simp)).1
            have k3 : w10.cell? ⟨w.heap.size, 3, none⟩ = some (.int .i64 0) := (hc10 3 (by simp)).1
            have k4 : w10.cell? ⟨w.heap.size, 4, none⟩ = some (.int .i64 0) := (hc10 4 (by simp)).1
            have k5 : w10.cell? ⟨w.heap.size, 5, none⟩ = some (.int .i64 0) := (hc10 5 (by simp)).1
            have k6 : w10.cell? ⟨w.heap.size, 6, none⟩ = some (.string ⟨#[]⟩) := (hc10 6 (by simp)).1
            have k7 : w10.cell? ⟨w.heap.size, 7, none⟩ = some (.slice none 0 0) := (hc10 7 (by simp)).1
            refine bodyPost_ret (v := .tuple #[.agg zM.toArray, .iface 73 (.pointer (some ⟨w9.heap.size, 0, none⟩))]) (by simp [results, Tryd.results74, go_sem, zM, k0, k1, k2, k3, k4, k5, k6, k7]) rfl ⟨.inl ⟨_, rfl, HN.out⟩, ?_⟩
            exact hSA.be.grown hg10 (by have := hSA.lo; omega) (fun q hq => by simp at hq; omega)
        · obtain ⟨rest, hrl, hok⟩ := hl
          have hr0 : ¬ rest.size = 0 := fun h0 => by
            have h1 : rest.data.toList.length = rest.size := by rw [Array.length_toList]; rfl
            rw [hrl, List.length_drop] at h1; omega
          have HN := hid (hlong hfull)
          go_wp2_with fail
          refine (end_long (w.heap.size + 1) rest _ hok hr0).mono ?_
          rintro e' w8 ⟨⟨ae, rfl⟩, hg8⟩
          have hS8 := hSj.call hg8
          have hbx := hS8.bx
          clear hok hg8
          go_wp2_with (refine wpList_store_cf rfl 27 (.tmp 2) (.tmp 48) rfl w.heap.size zM [.int .i64 0, .int .i64 0, .int .i64 0, .int .i64 0, .int .i64 0, .int .i64 0, .string ⟨#[]⟩, .slice none 0 0] rfl rfl hbx rfl Tryd.sizeMsg (one8 _ _ _ _ _ _ _ _ _ _) ?_; intro w10 hc10 hg10)
          have k0 : w10.cell? ⟨w.heap.size, 0, none⟩ = some (.int .i64 0) := (hc10 0 (by simp)).1
          have k1 : w10.cell? ⟨w.heap.size, 1, none⟩ = some (.int .i64 0) := (hc10 1 (by simp)).1
          have k2 : w10.cell? ⟨w.heap.size, 2, none⟩ = some (.int .i64 0) := (hc10 2 (by simp)).1
          have k3 : w10.cell? ⟨w.heap.size, 3, none⟩ = some (.int .i64 0) := (hc10 3 (by simp)).1
          have k4 : w10.cell? ⟨w.heap.size, 4, none⟩ = some (.int .i64 0) := (hc10 4 (by simp)).1
          have k5 : w10.cell? ⟨w.heap.size, 5, none⟩ = some (.int .i64 0) := (hc10 5 (by simp)).1
          have k6 : w10.cell? ⟨w.heap.size, 6, none⟩ = some (.string ⟨#[]⟩) := (hc10 6 (by simp)).1
          have k7 : w10.cell? ⟨w.heap.size, 7, none⟩ = some (.slice none 0 0) := (hc10 7 (by simp)).1
          refine bodyPost_ret (v := .tuple #[.agg zM.toArray, .iface 73 (.pointer (some ae))]) (by simp [results, Tryd.results74, go_sem, zM, k0, k1, k2, k3, k4, k5, k6, k7]) rfl ⟨.inl ⟨_, rfl, HN.out⟩, ?_⟩
          exact hS8.be.grown hg10 (by have := hS8.lo; omega) (fun q hq => by simp at hq; omega)
      · obtain ⟨ae, rest, hok⟩ := hx
        have HN := hid (hbad hz)
        go_wp2_with fail
        refine (end_bad (w.heap.size + 1) ae rest _ hok).mono ?_
        rintro e' w8 ⟨rfl, hg8⟩
        have hS8 := hSj.call hg8
        have hbx := hS8.bx
        clear hok hg8
        go_wp2_with (refine wpList_store_cf rfl 27 (.tmp 2) (.tmp 48) rfl w.heap.size zM [.int .i64 0, .int .i64 0, .int .i64 0, .int .i64 0, .int .i64 0, .int .i64 0, .string ⟨#[]⟩, .slice none 0 0] rfl rfl hbx rfl Tryd.sizeMsg (one8 _ _ _ _ _ _ _ _ _ _) ?_; intro w10 hc10 hg10)
        have k0 : w10.cell? ⟨w.heap.size, 0, none⟩ = some (.int .i64 0) := (hc10 0 (by simp)).1
        have k1 : w10.cell? ⟨w.heap.size, 1, none⟩ = some (.int .i64 0) := (hc10 1 (by simp)).1
        have k2 : w10.cell? ⟨w.heap.size, 2, none⟩ = some (.int .i64 0) := (hc10 2 (by simp)).1
        have k3 : w10.cell? ⟨w.heap.size, 3, none⟩ = some (.int .i64 0) := (hc10 3 (by simp)).1
        have k4 : w10.cell? ⟨w.heap.size, 4, none⟩ = some (.int .i64 0) := (hc10 4 (by simp)).1
        have k5 : w10.cell? ⟨w.heap.size, 5, none⟩ = some (.int .i64 0) := (hc10 5 (by simp)).1
        have k6 : w10.cell? ⟨w.heap.size, 6, none⟩ = some (.string ⟨#[]⟩) := (hc10 6 (by simp)).1
        have k7 : w10.cell? ⟨w.heap.size, 7, none⟩ = some (.slice none 0 0) := (hc10 7 (by simp)).1
        refine bodyPost_ret (v := .tuple #[.agg zM.toArray, .iface 73 (.pointer (some ae))]) (by simp [results, Tryd.results74, go_sem, zM, k0, k1, k2, k3, k4, k5, k6, k7]) rfl ⟨.inl ⟨_, rfl, HN.out⟩, ?_⟩
        exact hS8.be.grown hg10 (by have := hS8.lo; omega) (fun q hq => by simp at hq; omega)
end Go.Proofs.YtlgmkmegkojgbaaDoor
