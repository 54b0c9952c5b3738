import Derived.Test.YtbfamabkbkpmpaaGreatQNwh
import Derived.Test.YtbfamabkbkpmpaaGreatQMark
namespace Go.Proofs.YtbfamabkbkpmpaaGreat
open Go.RowKit

def wcellM (m : Nat) : List Value := [.int .i64 (m : Nat), .int .i64 (m + 1 : Nat), .bool (((m + 2 : Nat) : Int) % 3 == 0), .int .i64 (m + 3 : Nat), .int .i64 (m + 4 : Nat), .int .i64 (m + 5 : Nat), .int .i64 (m + 6 : Nat), .int .i64 (m + 7 : Nat), .slice none 0 0, .string (mtx (m + 8)), .int .i64 (m + 9 : Nat)]
def crewM (k n : Nat) : List Value := (List.range n).flatMap fun j => wcellM (k + j * 10)
theorem crewM_length (k n : Nat) : (crewM k n).length = n * 11 := flatK _ 11 (fun _ => rfl) n
theorem crewM_get (k n j r : Nat) (hj : j < n) (hr : r < 11) : (crewM k n)[j * 11 + r]? = (wcellM (k + j * 10))[r]? := flatK_get _ 11 (fun _ => rfl) n j r hj hr
theorem crewM_of {k n : Nat} {ys : List Value} (hl : ys.length = n * 11) (h : ∀ j r, j < n → r < 11 → ys[j * 11 + r]? = (wcellM (k + j * 10))[r]?) : ys = crewM k n := by
  refine List.ext_getElem? fun i => ?_
  by_cases hi : i < n * 11
  · have h1 := h (i / 11) (i % 11) (by omega) (by omega)
    have h2 := crewM_get k n (i / 11) (i % 11) (by omega) (by omega)
    rw [show i / 11 * 11 + i % 11 = i by omega] at h1 h2
    rw [h1, h2]
  · rw [List.getElem?_eq_none (by omega), List.getElem?_eq_none (by rw [crewM_length]; omega)]
set_option maxHeartbeats 8000000 in
set_option maxRecDepth 100000 in
theorem markWorkerS_c (g o cap n c k : Nat) (B : Nat) (w : World) (h1 : 0 < k) (h2 : k ≤ 1000000000) (hn : n ≤ 1048576) (h : OwnC B w 11 g o cap n (crewC n)) :
    Calls Tryz.prog 65 #[.slice (some ⟨g, o, none⟩) n c, .int .i64 k] w fun e w' => e = .returned (.int .i64 (k + n * 10 : Nat)) ∧ OwnC B w' 11 g o cap n (crewM k n) ∧ w.grownBy w' (some g) := by
  go_enter Tryz.func65, Tryz.ntmps65
  go_wp2
  go_loopw [1, 5] (fun kv x wr => ∃ i : Nat, i ≤ n ∧ x = .int .i64 i ∧ kv = .int .i64 (k + i * 10 : Nat) ∧ (∃ ys, OwnC B wr 11 g o cap n ys ∧ Hid (∀ j r : Nat, j < i → r < 11 → ys[j * 11 + r]? = (wcellM (k + j * 10))[r]?) ∧ Hid (∀ j : Nat, i ≤ j → j < n → ys[j * 11 + 8]? = some (.slice none 0 0))) ∧ w.grownBy wr (some g)) (fun _ x _ => n - (intOf x).toNat)
  case atStart => exact ⟨0, Nat.zero_le _, rfl, by simp, ⟨crewC n, h, hid (fun j r hj => absurd hj (by omega)), hid (fun j _ hj => crewC_get n j 8 hj (by omega))⟩, World.grownBy.refl w _⟩
  case round =>
    obtain ⟨i, hi, rfl, rfl, ⟨ys, ho0, HBU, HEI⟩, hg0⟩ := hrel
    by_cases hlt : i < n
    · have hlt' : (i : Int) < (n : Int) := by omega
      have HLEN := hid (show i * 11 + 10 < ys.length by rw [ho0.len]; omega)
      have HN8 := hid (show ys[i * 11 + 8]? = some (.slice none 0 0) from HEI.out i (Nat.le_refl _) hlt)
      obtain ⟨m0, hm0⟩ : ∃ m : Nat, m = k + i * 10 := ⟨_, rfl⟩
      have hb0 : m0 ≤ 1010485760 := by omega
      have hp0 : 0 < m0 := by omega
      rw [← hm0]
      have HM0 := hid hm0
      clear hm0
      have b0 : wr.heap.size = wr.heap.size := rfl
      clear b0
      obtain ⟨u0, _, hq0⟩ := ho0.cellSome (j := i * 11) (by omega)
      have hf0 := ho0.notFrozen (j := i * 11) (by omega)
      have ho1 := ho0.setCell (j := i * 11) (by omega) (.int .i64 (m0 : Nat))
      have hg1 := gset hg0 (o + (i * 11)) (.int .i64 (m0 : Nat))
      obtain ⟨w0, hw0⟩ : ∃ V, V = wr.setCell ⟨g, o + i * 11, none⟩ (.int .i64 (m0 : Nat)) := ⟨_, rfl⟩
      obtain ⟨m1, hm1⟩ : ∃ q : Nat, ((q : Nat) : Int) = (m0 : Int) + 1 := ⟨m0 + 1, by omega⟩
      go_upto_region 6 with fail
      rw [← hw0] at ho1 hg1 ⊢
      rw [← hm1]
      have hb1 : m1 ≤ 1010485760 + 1 := by omega
      have HM1 := hid (show m1 = m0 + 1 by omega)
      clear hw0 hq0 hf0 ho0 hg0 hm1
      obtain ⟨u1, _, hq1⟩ := ho1.cellSome (j := i * 11 + 1) (by omega)
      have hf1 := ho1.notFrozen (j := i * 11 + 1) (by omega)
      have ho2 := ho1.setCell (j := i * 11 + 1) (by omega) (.int .i64 (m1 : Nat))
      have hg2 := gset hg1 (o + (i * 11 + 1)) (.int .i64 (m1 : Nat))
      rw [← Nat.add_assoc] at hq1 hf1 ho2 hg2
      obtain ⟨w1, hw1⟩ : ∃ V, V = w0.setCell ⟨g, o + i * 11 + 1, none⟩ (.int .i64 (m1 : Nat)) := ⟨_, rfl⟩
      obtain ⟨m2, hm2⟩ : ∃ q : Nat, ((q : Nat) : Int) = (m1 : Int) + 1 := ⟨m1 + 1, by omega⟩
      go_upto_region 8 with fail
      rw [← hw1] at ho2 hg2 ⊢
      rw [← hm2]
      have hb2 : m2 ≤ 1010485760 + 2 := by omega
      have HM2 := hid (show m2 = m1 + 1 by omega)
      clear hw1 hq1 hf1 ho1 hg1 hm2
      obtain ⟨u2, _, hq2⟩ := ho2.cellSome (j := i * 11 + 2) (by omega)
      have hf2 := ho2.notFrozen (j := i * 11 + 2) (by omega)
      have ho3 := ho2.setCell (j := i * 11 + 2) (by omega) (.bool (((m2 : Nat) : Int) % 3 == 0))
      have hg3 := gset hg2 (o + (i * 11 + 2)) (.bool (((m2 : Nat) : Int) % 3 == 0))
      rw [← Nat.add_assoc] at hq2 hf2 ho3 hg3
      obtain ⟨w2, hw2⟩ : ∃ V, V = w1.setCell ⟨g, o + i * 11 + 2, none⟩ (.bool (((m2 : Nat) : Int) % 3 == 0)) := ⟨_, rfl⟩
      obtain ⟨m3, hm3⟩ : ∃ q : Nat, ((q : Nat) : Int) = (m2 : Int) + 1 := ⟨m2 + 1, by omega⟩
      go_upto_region 10 with fail
      rw [← hw2] at ho3 hg3 ⊢
      rw [← hm3]
      have hb3 : m3 ≤ 1010485760 + 3 := by omega
      have HM3 := hid (show m3 = m2 + 1 by omega)
      clear hw2 hq2 hf2 ho2 hg2 hm3
      obtain ⟨u3, _, hq3⟩ := ho3.cellSome (j := i * 11 + 3) (by omega)
      have hf3 := ho3.notFrozen (j := i * 11 + 3) (by omega)
      have ho4 := ho3.setCell (j := i * 11 + 3) (by omega) (.int .i64 (m3 : Nat))
      have hg4 := gset hg3 (o + (i * 11 + 3)) (.int .i64 (m3 : Nat))
      rw [← Nat.add_assoc] at hq3 hf3 ho4 hg4
      obtain ⟨w3, hw3⟩ : ∃ V, V = w2.setCell ⟨g, o + i * 11 + 3, none⟩ (.int .i64 (m3 : Nat)) := ⟨_, rfl⟩
      obtain ⟨m4, hm4⟩ : ∃ q : Nat, ((q : Nat) : Int) = (m3 : Int) + 1 := ⟨m3 + 1, by omega⟩
      go_upto_region 12 with fail
      rw [← hw3] at ho4 hg4 ⊢
      rw [← hm4]
      have hb4 : m4 ≤ 1010485760 + 4 := by omega
      have HM4 := hid (show m4 = m3 + 1 by omega)
      clear hw3 hq3 hf3 ho3 hg3 hm4
      obtain ⟨u4, _, hq4⟩ := ho4.cellSome (j := i * 11 + 4) (by omega)
      have hf4 := ho4.notFrozen (j := i * 11 + 4) (by omega)
      have ho5 := ho4.setCell (j := i * 11 + 4) (by omega) (.int .i64 (m4 : Nat))
      have hg5 := gset hg4 (o + (i * 11 + 4)) (.int .i64 (m4 : Nat))
      rw [← Nat.add_assoc] at hq4 hf4 ho5 hg5
      obtain ⟨w4, hw4⟩ : ∃ V, V = w3.setCell ⟨g, o + i * 11 + 4, none⟩ (.int .i64 (m4 : Nat)) := ⟨_, rfl⟩
      obtain ⟨m5, hm5⟩ : ∃ q : Nat, ((q : Nat) : Int) = (m4 : Int) + 1 := ⟨m4 + 1, by omega⟩
      go_upto_region 14 with fail
      rw [← hw4] at ho5 hg5 ⊢
      rw [← hm5]
      have hb5 : m5 ≤ 1010485760 + 5 := by omega
      have HM5 := hid (show m5 = m4 + 1 by omega)
      clear hw4 hq4 hf4 ho4 hg4 hm5
      obtain ⟨u5, _, hq5⟩ := ho5.cellSome (j := i * 11 + 5) (by omega)
      have hf5 := ho5.notFrozen (j := i * 11 + 5) (by omega)
      have ho6 := ho5.setCell (j := i * 11 + 5) (by omega) (.int .i64 (m5 : Nat))
      have hg6 := gset hg5 (o + (i * 11 + 5)) (.int .i64 (m5 : Nat))
      rw [← Nat.add_assoc] at hq5 hf5 ho6 hg6
      obtain ⟨w5, hw5⟩ : ∃ V, V = w4.setCell ⟨g, o + i * 11 + 5, none⟩ (.int .i64 (m5 : Nat)) := ⟨_, rfl⟩
      obtain ⟨m6, hm6⟩ : ∃ q : Nat, ((q : Nat) : Int) = (m5 : Int) + 1 := ⟨m5 + 1, by omega⟩
      go_upto_region 16 with fail
      rw [← hw5] at ho6 hg6 ⊢
      rw [← hm6]
      have hb6 : m6 ≤ 1010485760 + 6 := by omega
      have HM6 := hid (show m6 = m5 + 1 by omega)
      clear hw5 hq5 hf5 ho5 hg5 hm6
      obtain ⟨u6, _, hq6⟩ := ho6.cellSome (j := i * 11 + 6) (by omega)
      have hf6 := ho6.notFrozen (j := i * 11 + 6) (by omega)
      have ho7 := ho6.setCell (j := i * 11 + 6) (by omega) (.int .i64 (m6 : Nat))
      have hg7 := gset hg6 (o + (i * 11 + 6)) (.int .i64 (m6 : Nat))
      rw [← Nat.add_assoc] at hq6 hf6 ho7 hg7
      obtain ⟨w6, hw6⟩ : ∃ V, V = w5.setCell ⟨g, o + i * 11 + 6, none⟩ (.int .i64 (m6 : Nat)) := ⟨_, rfl⟩
      obtain ⟨m7, hm7⟩ : ∃ q : Nat, ((q : Nat) : Int) = (m6 : Int) + 1 := ⟨m6 + 1, by omega⟩
      go_upto_region 18 with fail
      rw [← hw6] at ho7 hg7 ⊢
      rw [← hm7]
      have hb7 : m7 ≤ 1010485760 + 7 := by omega
      have HM7 := hid (show m7 = m6 + 1 by omega)
      clear hw6 hq6 hf6 ho6 hg6 hm7
      obtain ⟨u7, _, hq7⟩ := ho7.cellSome (j := i * 11 + 7) (by omega)
      have hf7 := ho7.notFrozen (j := i * 11 + 7) (by omega)
      have ho8 := ho7.setCell (j := i * 11 + 7) (by omega) (.int .i64 (m7 : Nat))
      have hg8 := gset hg7 (o + (i * 11 + 7)) (.int .i64 (m7 : Nat))
      rw [← Nat.add_assoc] at hq7 hf7 ho8 hg8
      obtain ⟨w7, hw7⟩ : ∃ V, V = w6.setCell ⟨g, o + i * 11 + 7, none⟩ (.int .i64 (m7 : Nat)) := ⟨_, rfl⟩
      obtain ⟨m8, hm8⟩ : ∃ q : Nat, ((q : Nat) : Int) = (m7 : Int) + 1 := ⟨m7 + 1, by omega⟩
      go_upto_region 20 with fail
      rw [← hw7] at ho8 hg8 ⊢
      rw [← hm8]
      have hb8 : m8 ≤ 1010485760 + 8 := by omega
      have HM8 := hid (show m8 = m7 + 1 by omega)
      clear hw7 hq7 hf7 ho7 hg7 hm8
      have hq8 := ho8.holds (i * 11 + 8) (by omega)
      rw [List.getElem?_set_ne (by omega)] at hq8
      rw [List.getElem?_set_ne (by omega)] at hq8
      rw [List.getElem?_set_ne (by omega)] at hq8
      rw [List.getElem?_set_ne (by omega)] at hq8
      rw [List.getElem?_set_ne (by omega)] at hq8
      rw [List.getElem?_set_ne (by omega)] at hq8
      rw [List.getElem?_set_ne (by omega)] at hq8
      rw [List.getElem?_set_ne (by omega)] at hq8
      rw [HN8.out, ← Nat.add_assoc] at hq8
      go_wp2_with fail
      refine (markStringS_nil m8 _).mono ?_
      rintro e w8' ⟨rfl, rfl⟩
      clear hq8
      have hp8 : 0 < m8 := by have := HM8.out; omega
      go_wp2_with fail
      refine (markText_any m8 _ hp8 (by omega)).mono ?_
      rintro e w8 ⟨rfl, hbt⟩
      have hoA := ho8.below hbt ho8.hi
      have hgA := grownBy_trans hg8 (grownBy_below (r := some g) hbt)
      clear ho8 hg8 hbt
      obtain ⟨u9, _, hq9⟩ := hoA.cellSome (j := i * 11 + 9) (by omega)
      have hf9 := hoA.notFrozen (j := i * 11 + 9) (by omega)
      have ho9 := hoA.setCell (j := i * 11 + 9) (by omega) (.string (mtx m8))
      have hg9 := gset hgA (o + (i * 11 + 9)) (.string (mtx m8))
      rw [← Nat.add_assoc] at hq9 hf9 ho9 hg9
      obtain ⟨w9, hw9⟩ : ∃ V, V = w8.setCell ⟨g, o + i * 11 + 9, none⟩ (.string (mtx m8)) := ⟨_, rfl⟩
      obtain ⟨m9, hm9⟩ : ∃ q : Nat, ((q : Nat) : Int) = (m8 : Int) + 1 := ⟨m8 + 1, by omega⟩
      go_upto_region 23 with fail
      rw [← hw9] at ho9 hg9 ⊢
      rw [← hm9]
      have hb9 : m9 ≤ 1010485760 + 9 := by omega
      have HM9 := hid (show m9 = m8 + 1 by omega)
      clear hw9 hq9 hf9 hoA hgA hm9
      obtain ⟨u10, _, hq10⟩ := ho9.cellSome (j := i * 11 + 10) (by omega)
      have hf10 := ho9.notFrozen (j := i * 11 + 10) (by omega)
      have ho10 := ho9.setCell (j := i * 11 + 10) (by omega) (.int .i64 (m9 : Nat))
      have hg10 := gset hg9 (o + (i * 11 + 10)) (.int .i64 (m9 : Nat))
      rw [← Nat.add_assoc] at hq10 hf10 ho10 hg10
      clear ho9 hg9
      go_wp2
      go_roundw
      case rel =>
        have a1 := HM1.out; have a2 := HM2.out; have a3 := HM3.out; have a4 := HM4.out; have a5 := HM5.out; have a6 := HM6.out; have a7 := HM7.out; have a8 := HM8.out; have a9 := HM9.out
        subst a9 a8 a7 a6 a5 a4 a3 a2 a1
        have hm0 := HM0.out
        have hl := HLEN.out
        refine ⟨i + 1, by omega, by go_num, ?_, ⟨_, ho10, hid (fun j r hj hr => ?_), hid (fun j h1 h2 => ?_)⟩, hg10⟩
        · subst hm0; congr 1; omega
        · by_cases e : j = i
          · subst e
            rw [← hm0]
            have : r = 0 ∨ r = 1 ∨ r = 2 ∨ r = 3 ∨ r = 4 ∨ r = 5 ∨ r = 6 ∨ r = 7 ∨ r = 8 ∨ r = 9 ∨ r = 10 := by omega
            rcases this with rfl | rfl | rfl | rfl | rfl | rfl | rfl | rfl | rfl | rfl | rfl
            · iterate 9 rw [List.getElem?_set_ne (by omega)]
              rw [Nat.add_zero, List.getElem?_set_self (by omega)]; rfl
            · iterate 8 rw [List.getElem?_set_ne (by omega)]
              rw [List.getElem?_set_self (by simp only [List.length_set]; omega)]; rfl
            · iterate 7 rw [List.getElem?_set_ne (by omega)]
              rw [List.getElem?_set_self (by simp only [List.length_set]; omega)]; rfl
            · iterate 6 rw [List.getElem?_set_ne (by omega)]
              rw [List.getElem?_set_self (by simp only [List.length_set]; omega)]; rfl
            · iterate 5 rw [List.getElem?_set_ne (by omega)]
              rw [List.getElem?_set_self (by simp only [List.length_set]; omega)]; rfl
            · iterate 4 rw [List.getElem?_set_ne (by omega)]
              rw [List.getElem?_set_self (by simp only [List.length_set]; omega)]; rfl
            · iterate 3 rw [List.getElem?_set_ne (by omega)]
              rw [List.getElem?_set_self (by simp only [List.length_set]; omega)]; rfl
            · iterate 2 rw [List.getElem?_set_ne (by omega)]
              rw [List.getElem?_set_self (by simp only [List.length_set]; omega)]; rfl
            · iterate 10 rw [List.getElem?_set_ne (by omega)]
              exact HN8.out
            · iterate 1 rw [List.getElem?_set_ne (by omega)]
              rw [List.getElem?_set_self (by simp only [List.length_set]; omega)]; rfl
            · rw [List.getElem?_set_self (by simp only [List.length_set]; omega)]; rfl
          · have := HBU.out j r (by omega) hr
            iterate 10 rw [List.getElem?_set_ne (by omega)]
            exact this
        · have := HEI.out j (by omega) h2
          iterate 10 rw [List.getElem?_set_ne (by omega)]
          exact this
      case measure => simp [intOf]; omega
    · obtain rfl : i = n := by omega
      obtain rfl : ys = crewM k i := crewM_of ho0.len (fun j r hj hr => HBU.out j r hj hr)
      go_wp2
      go_ret
      exact ⟨rfl, ho0, hg0⟩

set_option maxHeartbeats 1000000 in
theorem markWorkerS_nil (k : Nat) (w : World) :
    Calls Tryz.prog 65 #[.slice none 0 0, .int .i64 k] w fun e w' => e = .returned (.int .i64 (k : Int)) ∧ w' = w := by
  go_enter Tryz.func65, Tryz.ntmps65
  go_wp2
  go_loop [1, 5] (fun kv x => x = .int .i64 0 ∧ kv = .int .i64 k) (fun _ _ => 0)
  case atStart => exact ⟨rfl, rfl⟩
  case round =>
    obtain ⟨rfl, rfl⟩ := hrel
    go_wp2
    go_ret
    exact ⟨rfl, rfl⟩
set_option maxHeartbeats 1000000 in
theorem heldWorkerS_nil (k : Nat) (w : World) :
    Calls Tryz.prog 68 #[.slice none 0 0, .int .i64 k] w fun e w' => e = .returned (.int .i64 (k : Int)) ∧ w' = w := by
  go_enter Tryz.func68, Tryz.ntmps68
  go_wp2
  go_loop [1, 5] (fun kv x => x = .int .i64 0 ∧ kv = .int .i64 k) (fun _ _ => 0)
  case atStart => exact ⟨rfl, rfl⟩
  case round =>
    obtain ⟨rfl, rfl⟩ := hrel
    go_wp2
    go_ret
    exact ⟨rfl, rfl⟩

set_option maxHeartbeats 1000000 in
theorem markParcelS_nil (k : Nat) (w : World) :
    Calls Tryz.prog 66 #[.slice none 0 0, .int .i64 k] w fun e w' => e = .returned (.int .i64 (k : Int)) ∧ w' = w := by
  go_enter Tryz.func66, Tryz.ntmps66
  go_wp2
  go_loop [1, 5] (fun kv x => x = .int .i64 0 ∧ kv = .int .i64 k) (fun _ _ => 0)
  case atStart => exact ⟨rfl, rfl⟩
  case round =>
    obtain ⟨rfl, rfl⟩ := hrel
    go_wp2
    go_ret
    exact ⟨rfl, rfl⟩
set_option maxHeartbeats 1000000 in
theorem heldParcelS_nil (k : Nat) (w : World) :
    Calls Tryz.prog 69 #[.slice none 0 0, .int .i64 k] w fun e w' => e = .returned (.int .i64 (k : Int)) ∧ w' = w := by
  go_enter Tryz.func69, Tryz.ntmps69
  go_wp2
  go_loop [1, 5] (fun kv x => x = .int .i64 0 ∧ kv = .int .i64 k) (fun _ _ => 0)
  case atStart => exact ⟨rfl, rfl⟩
  case round =>
    obtain ⟨rfl, rfl⟩ := hrel
    go_wp2
    go_ret
    exact ⟨rfl, rfl⟩

theorem markWorkerS_own (v : Value) (n k : Nat) (B : Nat) (w : World) (h1 : 0 < k) (h2 : k ≤ 1000000000) (hn : n ≤ 1048576) (h : Own B w 11 v n (crewC n)) :
    Calls Tryz.prog 65 #[v, .int .i64 k] w fun e w' => e = .returned (.int .i64 (k + n * 10 : Nat)) ∧ Own B w' 11 v n (crewM k n) ∧ w.grownBy w' v.ownBlock := by
  rcases h with ⟨rfl, rfl, _⟩ | ⟨g, o, cap, rfl, hc⟩
  · refine (markWorkerS_nil k w).mono ?_
    rintro e w' ⟨rfl, rfl⟩
    exact ⟨by simp, .inl ⟨rfl, rfl, rfl⟩, World.grownBy.refl _ _⟩
  · refine (markWorkerS_c g o cap n cap k B w h1 h2 hn hc).mono ?_
    rintro e w' ⟨rfl, ho, hg⟩
    exact ⟨rfl, .inr ⟨g, o, cap, rfl, ho⟩, hg⟩

set_option maxHeartbeats 8000000 in
set_option maxRecDepth 100000 in
theorem heldWorkerS_c (g o cap n c k : Nat) (B : Nat) (w : World) (h1 : 0 < k) (h2 : k ≤ 1000000000) (hn : n ≤ 1048576) (h : OwnC B w 11 g o cap n (crewM k n)) :
    Calls Tryz.prog 68 #[.slice (some ⟨g, o, none⟩) n c, .int .i64 k] w fun e w' => e = .returned (.int .i64 (k + n * 10 : Nat)) ∧ Below w.heap.size w w' := by
  have HKY : Hid (∀ (wr : World) j r, Below w.heap.size w wr → j < n → r < 11 → wr.cell? ⟨g, o + j * 11 + r, none⟩ = (wcellM (k + j * 10))[r]?) := fun wr j r hb hj hr => by
    rw [Nat.add_assoc, (h.below hb h.hi).holds (j * 11 + r) (by omega)]; exact crewM_get k n j r hj hr
  clear h
  go_enter Tryz.func68, Tryz.ntmps68
  go_wp2
  go_loopw [1, 5] (fun kv x wr => ∃ i : Nat, i ≤ n ∧ x = .int .i64 i ∧ kv = .int .i64 (k + i * 10 : Nat) ∧ Below w.heap.size w wr) (fun _ x _ => n - (intOf x).toNat)
  case atStart => exact ⟨0, Nat.zero_le _, rfl, by simp, Below.refl _ _⟩
  case round =>
    obtain ⟨i, hi, rfl, rfl, hB⟩ := hrel
    by_cases hlt : i < n
    · have hlt' : (i : Int) < (n : Int) := by omega
      obtain ⟨m0, hm0⟩ : ∃ m : Nat, m = k + i * 10 := ⟨_, rfl⟩
      have hb0 : m0 ≤ 1010485760 := by omega
      have hp0 : 0 < m0 := by omega
      obtain ⟨m1, hm1⟩ : ∃ q : Nat, ((q : Nat) : Int) = (m0 : Int) + 1 := ⟨m0 + 1, by omega⟩
      have hb1 : m1 ≤ 1010485760 + 1 := by omega
      have e1 : m0 + 1 = m1 := by omega
      obtain ⟨m2, hm2⟩ : ∃ q : Nat, ((q : Nat) : Int) = (m1 : Int) + 1 := ⟨m1 + 1, by omega⟩
      have hb2 : m2 ≤ 1010485760 + 2 := by omega
      have e2 : m0 + 2 = m2 := by omega
      obtain ⟨m3, hm3⟩ : ∃ q : Nat, ((q : Nat) : Int) = (m2 : Int) + 1 := ⟨m2 + 1, by omega⟩
      have hb3 : m3 ≤ 1010485760 + 3 := by omega
      have e3 : m0 + 3 = m3 := by omega
      obtain ⟨m4, hm4⟩ : ∃ q : Nat, ((q : Nat) : Int) = (m3 : Int) + 1 := ⟨m3 + 1, by omega⟩
      have hb4 : m4 ≤ 1010485760 + 4 := by omega
      have e4 : m0 + 4 = m4 := by omega
      obtain ⟨m5, hm5⟩ : ∃ q : Nat, ((q : Nat) : Int) = (m4 : Int) + 1 := ⟨m4 + 1, by omega⟩
      have hb5 : m5 ≤ 1010485760 + 5 := by omega
      have e5 : m0 + 5 = m5 := by omega
      obtain ⟨m6, hm6⟩ : ∃ q : Nat, ((q : Nat) : Int) = (m5 : Int) + 1 := ⟨m5 + 1, by omega⟩
      have hb6 : m6 ≤ 1010485760 + 6 := by omega
      have e6 : m0 + 6 = m6 := by omega
      obtain ⟨m7, hm7⟩ : ∃ q : Nat, ((q : Nat) : Int) = (m6 : Int) + 1 := ⟨m6 + 1, by omega⟩
      have hb7 : m7 ≤ 1010485760 + 7 := by omega
      have e7 : m0 + 7 = m7 := by omega
      obtain ⟨m8, hm8⟩ : ∃ q : Nat, ((q : Nat) : Int) = (m7 : Int) + 1 := ⟨m7 + 1, by omega⟩
      have hb8 : m8 ≤ 1010485760 + 8 := by omega
      have e8 : m0 + 8 = m8 := by omega
      obtain ⟨m9, hm9⟩ : ∃ q : Nat, ((q : Nat) : Int) = (m8 : Int) + 1 := ⟨m8 + 1, by omega⟩
      have hb9 : m9 ≤ 1010485760 + 9 := by omega
      have e9 : m0 + 9 = m9 := by omega
      have c0 : wr.cell? ⟨g, o + i * 11, none⟩ = some (.int .i64 (m0 : Nat)) := by have := HKY.out wr i 0 hB hlt (by omega); rw [← hm0] at this; simp only [wcellM] at this; exact this
      have c1 : wr.cell? ⟨g, o + i * 11 + 1, none⟩ = some (.int .i64 (m1 : Nat)) := by have := HKY.out wr i 1 hB hlt (by omega); rw [← hm0] at this; simp only [wcellM] at this;  rw [e1] at this; exact this
      have c2 : wr.cell? ⟨g, o + i * 11 + 2, none⟩ = some (.bool (((m2 : Nat) : Int) % 3 == 0)) := by have := HKY.out wr i 2 hB hlt (by omega); rw [← hm0] at this; simp only [wcellM] at this;  rw [e2] at this; exact this
      have c3 : wr.cell? ⟨g, o + i * 11 + 3, none⟩ = some (.int .i64 (m3 : Nat)) := by have := HKY.out wr i 3 hB hlt (by omega); rw [← hm0] at this; simp only [wcellM] at this;  rw [e3] at this; exact this
      have c4 : wr.cell? ⟨g, o + i * 11 + 4, none⟩ = some (.int .i64 (m4 : Nat)) := by have := HKY.out wr i 4 hB hlt (by omega); rw [← hm0] at this; simp only [wcellM] at this;  rw [e4] at this; exact this
      have c5 : wr.cell? ⟨g, o + i * 11 + 5, none⟩ = some (.int .i64 (m5 : Nat)) := by have := HKY.out wr i 5 hB hlt (by omega); rw [← hm0] at this; simp only [wcellM] at this;  rw [e5] at this; exact this
      have c6 : wr.cell? ⟨g, o + i * 11 + 6, none⟩ = some (.int .i64 (m6 : Nat)) := by have := HKY.out wr i 6 hB hlt (by omega); rw [← hm0] at this; simp only [wcellM] at this;  rw [e6] at this; exact this
      have c7 : wr.cell? ⟨g, o + i * 11 + 7, none⟩ = some (.int .i64 (m7 : Nat)) := by have := HKY.out wr i 7 hB hlt (by omega); rw [← hm0] at this; simp only [wcellM] at this;  rw [e7] at this; exact this
      have c8 : wr.cell? ⟨g, o + i * 11 + 8, none⟩ = some (.slice none 0 0) := by have := HKY.out wr i 8 hB hlt (by omega); rw [← hm0] at this; simp only [wcellM] at this; exact this
      have c9 : wr.cell? ⟨g, o + i * 11 + 9, none⟩ = some (.string (mtx m8)) := by have := HKY.out wr i 9 hB hlt (by omega); rw [← hm0] at this; simp only [wcellM] at this;  rw [e8] at this; exact this
      have c10 : wr.cell? ⟨g, o + i * 11 + 10, none⟩ = some (.int .i64 (m9 : Nat)) := by have := HKY.out wr i 10 hB hlt (by omega); rw [← hm0] at this; simp only [wcellM] at this;  rw [e9] at this; exact this
      rw [← hm0]
      have HM0 := hid (show k + (i + 1) * 10 = m9 + 1 by omega)
      have hp8 : 0 < m8 := by omega
      clear e1 e2 e3 e4 e5 e6 e7 e8 e9 hm0
      have G1 := hid hm1
      have G2 := hid hm2
      have G3 := hid hm3
      have G4 := hid hm4
      have G5 := hid hm5
      have G6 := hid hm6
      have G7 := hid hm7
      have G8 := hid hm8
      have G9 := hid hm9
      clear hm1 hm2 hm3 hm4 hm5 hm6 hm7 hm8 hm9
      go_upto_region 7 with fail
      rw [← G1.out]
      clear c0
      go_upto_region 10 with fail
      rw [← G2.out]
      clear c1
      go_upto_region 13 with fail
      rw [← G3.out]
      clear c2
      go_upto_region 16 with fail
      rw [← G4.out]
      clear c3
      go_upto_region 19 with fail
      rw [← G5.out]
      clear c4
      go_upto_region 22 with fail
      rw [← G6.out]
      clear c5
      go_upto_region 25 with fail
      rw [← G7.out]
      clear c6
      go_upto_region 28 with fail
      rw [← G8.out]
      clear c7
      go_wp2_with fail
      refine (heldStringS_any none 0 0 0 0 m8 _ hp8 (by omega) (by omega) (StrsAt.nil0 _)).mono ?_
      rintro e w8 ⟨rfl, hb8⟩
      rw [show ((m8 : Int) + (0 : Nat)) = (m8 : Nat) by simp]
      have d9 := keepB hb8 c9
      have d10 := keepB hb8 c10
      have hB8 := hB.trans (hb8.mono hB.size)
      clear c8 c9 c10 hB hb8
      obtain ⟨s, hs⟩ : ∃ s, s = mtx m8 := ⟨_, rfl⟩
      rw [← hs] at d9
      have HC : Hid (∀ w1 : World, Calls Tryz.prog 96 #[.int .i64 (m8 : Nat)] w1 fun e w' => e = .returned (.string s) ∧ Below w1.heap.size w1 w') := fun w1 => by
        rw [hs]; exact markText_any m8 w1 hp8 (by omega)
      clear hs
      have hBd : Below w.heap.size w w8.drew := hB8.drew
      go_wp2
      go_region_held3 (fun w' => w'.cell? ⟨g, o + i * 11 + 9, none⟩ = some (.string s)) (first | (simp [go_sem, *]; done) | assumption)
        (first
          | (go_at_call 96; refine (HC.out _).mono ?_; rintro e w1 ⟨rfl, hb1⟩; have d9' := keepC hb1 d9; have f10 := keepC hb1 d10; have hB1 := hBd.trans (hb1.mono hBd.size)))
      clear d9 d10 hB8 hBd hb1 HC
      go_upto_region 34 with fail
      rw [← G9.out]
      go_wp2
      go_roundw
      case rel => exact ⟨i + 1, by omega, by go_num, by rw [HM0.out]; congr 1, hB1⟩
      case measure => simp [intOf]; omega
    · obtain rfl : i = n := by omega
      go_wp2
      go_ret
      exact ⟨rfl, hB⟩
theorem heldWorkerS_own (v : Value) (n k : Nat) (B : Nat) (w : World) (h1 : 0 < k) (h2 : k ≤ 1000000000) (hn : n ≤ 1048576) (h : Own B w 11 v n (crewM k n)) :
    Calls Tryz.prog 68 #[v, .int .i64 k] w fun e w' => e = .returned (.int .i64 (k + n * 10 : Nat)) ∧ Below w.heap.size w w' := by
  rcases h with ⟨rfl, rfl, _⟩ | ⟨g, o, cap, rfl, hc⟩
  · refine (heldWorkerS_nil k w).mono ?_
    rintro e w' ⟨rfl, rfl⟩
    exact ⟨by simp, Below.refl _ _⟩
  · exact heldWorkerS_c g o cap n cap k B w h1 h2 hn hc
end Go.Proofs.YtbfamabkbkpmpaaGreat
