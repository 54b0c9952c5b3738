import Derived.Test.YtlpmcjlcmjlbeaaQLwt
namespace Go.Proofs.Ytlpmcjlcmjlbeaa
open Go.RowKit

/-- A message marked from k on. -/
def mkL (k : Nat) : List Value := [.int .i64 (k : Int), .int .i64 ((k : Int) + 1), .int .i64 (((k : Int) + 1) + 1), .int .i64 ((((k : Int) + 1) + 1) + 1), .int .i64 (((((k : Int) + 1) + 1) + 1) + 1), .int .i64 ((((((k : Int) + 1) + 1) + 1) + 1) + 1), .string (mtx (k + 6)), .slice none 0 0]
theorem M8.c {w : World} {g o : Nat} {vs : List Value} (h : M8 w g o vs) (j : Nat) (v : Value) (hj : j < 8) (hv : vs[j]? = some v) : w.cell? ⟨g, o + j, none⟩ = some v := (h.all j hj).1.trans hv
theorem M8.f {w : World} {g o : Nat} {vs : List Value} (h : M8 w g o vs) (j : Nat) (hj : j < 8) : w.frozen? ⟨g, o + j, none⟩ = false := (h.all j hj).2

set_option maxRecDepth 100000 in
set_option maxHeartbeats 8000000 in
theorem markMessageS_some (k f t e l d : Int) (x : ByteArray) (g o cap kk : Nat) (w : World) (h1 : 0 < kk) (h2 : kk ≤ 1099511000000) (hg : g < w.heap.size) (h : M8 w g o [.int .i64 k, .int .i64 f, .int .i64 t, .int .i64 e, .int .i64 l, .int .i64 d, .string x, .slice none 0 0]) :
    Calls Try.prog 55 #[.slice (some ⟨g, o, none⟩) 1 cap, .int .i64 (kk : Int)] w fun e' w' => e' = .returned (.int .i64 ((kk : Int) + 7)) ∧ M8 w' g o (mkL kk) ∧ w.grownBy w' (some g) := by
  go_enter Try.func55, Try.ntmps55
  go_wp2
  go_loopw [1, 5] (fun kv i wr => (kv = .int .i64 (kk : Int) ∧ i = .int .i64 0 ∧ wr = w) ∨ (kv = .int .i64 ((kk : Int) + 7) ∧ i = .int .i64 1 ∧ M8 wr g o (mkL kk) ∧ w.grownBy wr (some g))) (fun _ i _ => 1 - (intOf i).toNat)
  case atStart => exact .inl ⟨rfl, rfl, rfl⟩
  case round =>
    rcases hrel with ⟨rfl, rfl, rfl⟩ | ⟨rfl, rfl, hm, hgr⟩
    · skip
      obtain ⟨w0x, hw0⟩ : ∃ w0x, w0x = wr := ⟨_, rfl⟩
      rw [← hw0] at h hg ⊢
      clear hw0
      have hm0 := h
      have hr0 : w0x.grownBy w0x (some g) := World.grownBy.refl _ _
      clear h
      have zz : w0x.cell? ⟨g, o, none⟩ = some (.int .i64 k) := hm0.c 0 _ (by omega) rfl
      have ff : w0x.frozen? ⟨g, o, none⟩ = false := hm0.f 0 (by omega)
      go_upto_region 5 with fail
      clear zz ff
      have hm1 := hm0.set (j := 0) (by omega) (.int .i64 (kk : Int))
      simp only [List.set_cons_zero, Nat.add_zero] at hm1
      have hr1 := gset hr0 (o) (.int .i64 (kk : Int))
      obtain ⟨w1x, hw1⟩ : ∃ w1x, w1x = w0x.setCell ⟨g, o, none⟩ (.int .i64 (kk : Int)) := ⟨_, rfl⟩
      rw [← hw1] at hm1 hr1
      rw [← hw1]
      clear hw1 hm0 hr0
      have zz : w1x.cell? ⟨g, o + 1, none⟩ = some (.int .i64 f) := hm1.c 1 _ (by omega) rfl
      have ff : w1x.frozen? ⟨g, o + 1, none⟩ = false := hm1.f 1 (by omega)
      go_upto_region 7 with fail
      clear zz ff
      have hm2 := hm1.set (j := 1) (by omega) (.int .i64 ((kk : Int) + 1))
      simp only [List.set_cons_zero, List.set_cons_succ] at hm2
      have hr2 := gset hr1 (o + 1) (.int .i64 ((kk : Int) + 1))
      obtain ⟨w2x, hw2⟩ : ∃ w2x, w2x = w1x.setCell ⟨g, o + 1, none⟩ (.int .i64 ((kk : Int) + 1)) := ⟨_, rfl⟩
      rw [← hw2] at hm2 hr2
      rw [← hw2]
      clear hw2 hm1 hr1
      have zz : w2x.cell? ⟨g, o + 2, none⟩ = some (.int .i64 t) := hm2.c 2 _ (by omega) rfl
      have ff : w2x.frozen? ⟨g, o + 2, none⟩ = false := hm2.f 2 (by omega)
      go_upto_region 9 with fail
      clear zz ff
      have hm3 := hm2.set (j := 2) (by omega) (.int .i64 (((kk : Int) + 1) + 1))
      simp only [List.set_cons_zero, List.set_cons_succ] at hm3
      have hr3 := gset hr2 (o + 2) (.int .i64 (((kk : Int) + 1) + 1))
      obtain ⟨w3x, hw3⟩ : ∃ w3x, w3x = w2x.setCell ⟨g, o + 2, none⟩ (.int .i64 (((kk : Int) + 1) + 1)) := ⟨_, rfl⟩
      rw [← hw3] at hm3 hr3
      rw [← hw3]
      clear hw3 hm2 hr2
      have zz : w3x.cell? ⟨g, o + 3, none⟩ = some (.int .i64 e) := hm3.c 3 _ (by omega) rfl
      have ff : w3x.frozen? ⟨g, o + 3, none⟩ = false := hm3.f 3 (by omega)
      go_upto_region 11 with fail
      clear zz ff
      have hm4 := hm3.set (j := 3) (by omega) (.int .i64 ((((kk : Int) + 1) + 1) + 1))
      simp only [List.set_cons_zero, List.set_cons_succ] at hm4
      have hr4 := gset hr3 (o + 3) (.int .i64 ((((kk : Int) + 1) + 1) + 1))
      obtain ⟨w4x, hw4⟩ : ∃ w4x, w4x = w3x.setCell ⟨g, o + 3, none⟩ (.int .i64 ((((kk : Int) + 1) + 1) + 1)) := ⟨_, rfl⟩
      rw [← hw4] at hm4 hr4
      rw [← hw4]
      clear hw4 hm3 hr3
      have zz : w4x.cell? ⟨g, o + 4, none⟩ = some (.int .i64 l) := hm4.c 4 _ (by omega) rfl
      have ff : w4x.frozen? ⟨g, o + 4, none⟩ = false := hm4.f 4 (by omega)
      go_upto_region 13 with fail
      clear zz ff
      have hm5 := hm4.set (j := 4) (by omega) (.int .i64 (((((kk : Int) + 1) + 1) + 1) + 1))
      simp only [List.set_cons_zero, List.set_cons_succ] at hm5
      have hr5 := gset hr4 (o + 4) (.int .i64 (((((kk : Int) + 1) + 1) + 1) + 1))
      obtain ⟨w5x, hw5⟩ : ∃ w5x, w5x = w4x.setCell ⟨g, o + 4, none⟩ (.int .i64 (((((kk : Int) + 1) + 1) + 1) + 1)) := ⟨_, rfl⟩
      rw [← hw5] at hm5 hr5
      rw [← hw5]
      clear hw5 hm4 hr4
      have zz : w5x.cell? ⟨g, o + 5, none⟩ = some (.int .i64 d) := hm5.c 5 _ (by omega) rfl
      have ff : w5x.frozen? ⟨g, o + 5, none⟩ = false := hm5.f 5 (by omega)
      go_upto_region 15 with fail
      clear zz ff
      have hm6 := hm5.set (j := 5) (by omega) (.int .i64 ((((((kk : Int) + 1) + 1) + 1) + 1) + 1))
      simp only [List.set_cons_zero, List.set_cons_succ] at hm6
      have hr6 := gset hr5 (o + 5) (.int .i64 ((((((kk : Int) + 1) + 1) + 1) + 1) + 1))
      obtain ⟨w6x, hw6⟩ : ∃ w6x, w6x = w5x.setCell ⟨g, o + 5, none⟩ (.int .i64 ((((((kk : Int) + 1) + 1) + 1) + 1) + 1)) := ⟨_, rfl⟩
      rw [← hw6] at hm6 hr6
      rw [← hw6]
      clear hw6 hm5 hr5
      have zz : w6x.cell? ⟨g, o + 6, none⟩ = some (.string x) := hm6.c 6 _ (by omega) rfl
      have ff : w6x.frozen? ⟨g, o + 6, none⟩ = false := hm6.f 6 (by omega)
      go_wp2_with fail
      rw [show (((((((kk : Int) + 1) + 1) + 1) + 1) + 1) + 1) = ((kk + 6 : Nat) : Int) by omega]
      refine (markText_any (kk + 6) _ (by omega) (by omega)).mono ?_
      rintro e' w7x ⟨rfl, hb7⟩
      have hz6 : g < w6x.heap.size := Nat.lt_of_lt_of_le hg hr6.size
      have hm7 := hm6.block (hb7.block g hz6)
      have hr7 := grownBy_trans hr6 (grownBy_below hb7)
      clear zz ff hm6 hr6 hb7
      have zz : w7x.cell? ⟨g, o + 6, none⟩ = some (.string x) := hm7.c 6 _ (by omega) rfl
      have ff : w7x.frozen? ⟨g, o + 6, none⟩ = false := hm7.f 6 (by omega)
      obtain ⟨tx, htx⟩ : ∃ tx, tx = mtx (kk + 6) := ⟨_, rfl⟩
      rw [← htx]
      have HTX := hid htx
      clear htx
      go_upto_region 17 with fail
      clear zz ff
      have hm8 := hm7.set (j := 6) (by omega) (.string tx)
      simp only [List.set_cons_zero, List.set_cons_succ] at hm8
      have hr8 := gset hr7 (o + 6) (.string tx)
      obtain ⟨w8x, hw8⟩ : ∃ w8x, w8x = w7x.setCell ⟨g, o + 6, none⟩ (.string tx) := ⟨_, rfl⟩
      rw [← hw8] at hm8 hr8
      rw [← hw8]
      clear hw8 hm7 hr7
      have zz : w8x.cell? ⟨g, o + 7, none⟩ = some (.slice none 0 0) := hm8.c 7 _ (by omega) rfl
      go_wp2_with fail
      first | rw [show ((kk : Int) + 6 + 1) = ((kk + 7 : Nat) : Int) by omega] | rw [show ((kk : Int) + 7) = ((kk + 7 : Nat) : Int) by omega] | rw [show (((kk + 6 : Nat) : Int) + 1) = ((kk + 7 : Nat) : Int) by omega]
      refine (markStringS_nil (kk + 7) _).mono ?_
      rintro e' w9x ⟨rfl, hw9⟩
      rw [hw9]
      clear zz hw9
      have HM : Hid (M8 w8x g o (mkL kk)) := by rw [HTX.out] at hm8; exact hm8
      clear hm8 HTX
      go_wp2
      go_roundw
      case rel => exact .inr ⟨by go_num, rfl, HM.out, hr8⟩
      case measure => simp [intOf]
    · go_wp2
      go_ret
      exact ⟨rfl, hm, hgr⟩

set_option maxRecDepth 100000 in
set_option maxHeartbeats 8000000 in
theorem heldMessageS_some (g o cap kk : Nat) (w : World) (h1 : 0 < kk) (h2 : kk ≤ 1099511000000) (h : M8 w g o (mkL kk)) :
    Calls Try.prog 56 #[.slice (some ⟨g, o, none⟩) 1 cap, .int .i64 (kk : Int)] w fun e' w' => e' = .returned (.int .i64 ((kk : Int) + 7)) ∧ Below w.heap.size w w' := by
  have hp : ¬ ((kk : Int) + 7) < 0 := by omega
  go_enter Try.func56, Try.ntmps56
  go_wp2
  go_loopw [1, 5] (fun kv i wr => (kv = .int .i64 (kk : Int) ∧ i = .int .i64 0 ∧ wr = w) ∨ (kv = .int .i64 ((kk : Int) + 7) ∧ i = .int .i64 1 ∧ Below w.heap.size w wr)) (fun _ i _ => 1 - (intOf i).toNat)
  case atStart => exact .inl ⟨rfl, rfl, rfl⟩
  case round =>
    rcases hrel with ⟨rfl, rfl, rfl⟩ | ⟨rfl, rfl, hb⟩
    · have m0 : wr.cell? ⟨g, o, none⟩ = some (.int .i64 (kk : Int)) := h.c 0 _ (by omega) rfl
      have m1 : wr.cell? ⟨g, o + 1, none⟩ = some (.int .i64 ((kk : Int) + 1)) := h.c 1 _ (by omega) rfl
      have m2 : wr.cell? ⟨g, o + 2, none⟩ = some (.int .i64 (((kk : Int) + 1) + 1)) := h.c 2 _ (by omega) rfl
      have m3 : wr.cell? ⟨g, o + 3, none⟩ = some (.int .i64 ((((kk : Int) + 1) + 1) + 1)) := h.c 3 _ (by omega) rfl
      have m4 : wr.cell? ⟨g, o + 4, none⟩ = some (.int .i64 (((((kk : Int) + 1) + 1) + 1) + 1)) := h.c 4 _ (by omega) rfl
      have m5 : wr.cell? ⟨g, o + 5, none⟩ = some (.int .i64 ((((((kk : Int) + 1) + 1) + 1) + 1) + 1)) := h.c 5 _ (by omega) rfl
      obtain ⟨s, hs⟩ : ∃ s, s = mtx (kk + 6) := ⟨_, rfl⟩
      have m6 : wr.cell? ⟨g, o + 6, none⟩ = some (.string s) := by rw [hs]; exact h.c 6 _ (by omega) rfl
      have m7 : wr.cell? ⟨g, o + 7, none⟩ = some (.slice none 0 0) := h.c 7 _ (by omega) rfl
      have HC : Hid (∀ w1 : World, Calls Try.prog 57 #[.int .i64 (((((((kk : Int) + 1) + 1) + 1) + 1) + 1) + 1)] w1 fun e w' => e = .returned (.string s) ∧ Below w1.heap.size w1 w') := fun w1 => by
        rw [show (((((((kk : Int) + 1) + 1) + 1) + 1) + 1) + 1) = ((kk + 6 : Nat) : Int) by omega, hs]
        exact markText_any (kk + 6) w1 (by omega) (by omega)
      have HD : Hid (∀ w1 : World, Calls Try.prog 42 #[.slice none 0 0, .int .i64 ((((((((kk : Int) + 1) + 1) + 1) + 1) + 1) + 1) + 1)] w1 fun e w' => e = .returned (.int .i64 ((((((((kk : Int) + 1) + 1) + 1) + 1) + 1) + 1) + 1)) ∧ Below w1.heap.size w1 w') := fun w1 => by
        rw [show ((((((((kk : Int) + 1) + 1) + 1) + 1) + 1) + 1) + 1) = ((kk + 7 : Nat) : Int) by omega]
        refine (heldStringS_any none 0 0 0 0 (kk + 7) w1 (by omega) (by omega) (by omega) (strsNil _)).mono ?_
        rintro e w' ⟨rfl, hb⟩
        exact ⟨by simp, hb⟩
      clear hs
      have hbd : Below wr.heap.size wr wr.drew := (Below.refl _ _).drew
      go_wp2
      go_region_held3 (fun w' => w'.cell? ⟨g, o + 6, none⟩ = some (.string s)) (first | (simp [go_sem, *]; done) | assumption)
        (first
          | (go_at_call 57; refine (HC.out _).mono ?_; rintro e w1 ⟨rfl, hb1⟩; have q0 := keepC hb1 m6; have q7 := keepC hb1 m7; have hb1' := hbd.trans (hb1.mono hbd.size)))
      clear m0 m1 m2 m3 m4 m5 m6 m7
      have hnn : ¬ ((((((((kk : Int) + 1) + 1) + 1) + 1) + 1) + 1) + 1) < 0 := by omega
      go_wp2_with fail
      refine (HD.out _).mono ?_
      rintro e w2 ⟨rfl, hb2⟩
      have hb2' := hb1'.trans (hb2.mono hb1'.size)
      go_wp2
      go_roundw
      case rel => exact .inr ⟨by go_num, rfl, hb2'⟩
      case measure => simp [intOf]
    · go_wp2
      go_ret
      exact ⟨rfl, hb⟩
end Go.Proofs.Ytlpmcjlcmjlbeaa
