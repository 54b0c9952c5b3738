
/-
  spec.l1Bend.
-/
import Derived.Test.YtlgmkmegkojgbaaDoorDrw
namespace Go.Proofs.YtlgmkmegkojgbaaDoor
open Go.RowKit

theorem pick_len (g z k : Nat) (w : World) (h : RD w g k) (hk : k ≤ 1000000) (hz : z ≤ 900000) :
    Calls Tryd.prog 50 #[.pointer (some ⟨g, 0, none⟩), .int .i64 ((z : Int) + 1)] w fun e w' => (∃ r : Nat, r ≤ z ∧ e = .returned (.int .i64 r)) ∧ RD w' g (k + 1) ∧ w.grownBy w' (some g) := by
  have := pick_any g (z + 1) k w h hk (by omega) (by omega)
  rw [Int.natCast_add] at this
  refine this.mono ?_
  rintro e w' ⟨⟨r, hr, rfl⟩, h1, h2⟩
  exact ⟨⟨r, by omega, rfl⟩, h1, h2⟩
theorem bend_of (r : Nat) (h : r < 6) : ∃ t : ByteArray, [Value.string ⟨#[32]⟩, .string ⟨#[10]⟩, .string ⟨#[0]⟩, .string ⟨#[48]⟩, .string ⟨#[120]⟩, .string ⟨#[49, 50, 51, 52, 53, 54, 55, 56]⟩][r]? = some (.string t) ∧ t.size ≤ 8 := by
  rcases (show r = 0 ∨ r = 1 ∨ r = 2 ∨ r = 3 ∨ r = 4 ∨ r = 5 by omega) with rfl | rfl | rfl | rfl | rfl | rfl <;> exact ⟨_, rfl, by decide⟩

set_option maxHeartbeats 4000000 in
set_option maxRecDepth 100000 in
theorem l1Bend_any (g k : Nat) (s : ByteArray) (w : World) (h : RD w g k) (hk : k ≤ 900000) (hs : s.size ≤ 100000) :
    Calls Tryd.prog 54 #[.pointer (some ⟨g, 0, none⟩), .string s] w fun e w' => SomeText e (s.size + 8) ∧ RD w' g (k + 4) ∧ w.grownBy w' (some g) := by
  go_enter Tryd.func54, Tryd.ntmps54
  go_wp2_with fail
  refine (pick_len g s.size k _ h (by omega) (by omega)).mono ?_
  rintro e1 w1 ⟨⟨r1, hq1, rfl⟩, h1, hg1⟩
  go_wp2_with fail
  refine (pick_any g 4 (k + 1) _ h1 (by omega) (by omega) (by omega)).mono ?_
  rintro e2 w2 ⟨⟨r2, hq2, rfl⟩, h2, hg2⟩
  have hG2 := grownBy_trans hg1 hg2
  clear h1 hg1 hg2 h
  have hq1' : (r1 : Int) ≤ (s.size : Int) := by omega
  obtain ⟨A, hA⟩ : ∃ A, A = s.extract 0 r1 := ⟨_, rfl⟩
  have hAz : A.size ≤ r1 := by rw [hA, ByteArray.size_extract]; omega
  have hA' : s.extract 0 r1 = A := hA.symm
  obtain ⟨B, hB⟩ : ∃ B, B = s.extract r1 s.size := ⟨_, rfl⟩
  have hBz : B.size ≤ s.size - r1 := by rw [hB, ByteArray.size_extract]; omega
  have hB' : s.extract r1 s.size = B := hB.symm
  clear hA hB
  by_cases h20 : r2 = 0
  · subst h20
    go_wp2
    go_ret
    exact ⟨⟨A, by first | rfl | rw [hA'], by omega⟩, h2.mono (by omega), hG2⟩
  by_cases h21 : r2 = 1
  · subst h21
    have hd := h2.drew
    have hgd := hd.lt
    have hGd := grownBy_drewN hG2 1
    go_wp2
    go_region_law (first
        | (go_simp; go_at_call 50; refine (pick_any g 6 (k + 1 + 1) _ hd (by omega) (by omega) (by omega)).mono ?_; rintro e3 w3 ⟨⟨r3, hq3, rfl⟩, h3, hg3⟩; obtain ⟨t3, ht3, hz3⟩ := bend_of r3 hq3; have hq3' : (r3 : Int) < 6 := (by omega); have c3 : (w3.alloc (.cells #[.string ⟨#[32]⟩, .string ⟨#[10]⟩, .string ⟨#[0]⟩, .string ⟨#[48]⟩, .string ⟨#[120]⟩, .string ⟨#[49, 50, 51, 52, 53, 54, 55, 56]⟩] 9)).cell? ⟨w3.heap.size, r3, none⟩ = some (.string t3) := ((CF.made w3 #[.string ⟨#[32]⟩, .string ⟨#[10]⟩, .string ⟨#[0]⟩, .string ⟨#[48]⟩, .string ⟨#[120]⟩, .string ⟨#[49, 50, 51, 52, 53, 54, 55, 56]⟩] 9) r3 (by simpa using hq3)).1.trans ht3; have hh1 : ¬ 9223372036854775807 < A.size + t3.size := (by omega); have hh2 : ¬ 9223372036854775807 < A.size + t3.size + B.size := (by omega); have hz4 := ByteArray.size_append (a := A) (b := t3); have hF := h3.below ((Below.refl _ _).alloc (Nat.le_refl _) (.cells #[.string ⟨#[32]⟩, .string ⟨#[10]⟩, .string ⟨#[0]⟩, .string ⟨#[48]⟩, .string ⟨#[120]⟩, .string ⟨#[49, 50, 51, 52, 53, 54, 55, 56]⟩] 9)); have hGF := galloc (grownBy_trans hGd hg3) (.cells #[.string ⟨#[32]⟩, .string ⟨#[10]⟩, .string ⟨#[0]⟩, .string ⟨#[48]⟩, .string ⟨#[120]⟩, .string ⟨#[49, 50, 51, 52, 53, 54, 55, 56]⟩] 9))
        | (go_simp; go_at_call 50; refine (pick_any g 6 (k + 1 + 1) _ ((h2.below ((Below.refl _ _).alloc (Nat.le_refl _) _)).drew) (by omega) (by omega) (by omega)).mono ?_; rintro e3 w3 ⟨⟨r3, hq3, rfl⟩, h3, hg3⟩; obtain ⟨t3, ht3, hz3⟩ := bend_of r3 hq3; have hq3' : (r3 : Int) < 6 := (by omega); have c3 : w3.cell? ⟨w2.heap.size, r3, none⟩ = some (.string t3) := (((CF.made w2 #[.string ⟨#[32]⟩, .string ⟨#[10]⟩, .string ⟨#[0]⟩, .string ⟨#[48]⟩, .string ⟨#[120]⟩, .string ⟨#[49, 50, 51, 52, 53, 54, 55, 56]⟩] 9).block (hg3.block _ (by simp) (by have := h2.lt; simp; omega))) r3 (by simpa using hq3)).1.trans ht3; have hh1 : ¬ 9223372036854775807 < A.size + t3.size := (by omega); have hh2 : ¬ 9223372036854775807 < A.size + t3.size + B.size := (by omega); have hz4 := ByteArray.size_append (a := A) (b := t3); have hF := h3; have hGF := grownBy_trans (grownBy_drewN (galloc hG2 (.cells #[.string ⟨#[32]⟩, .string ⟨#[10]⟩, .string ⟨#[0]⟩, .string ⟨#[48]⟩, .string ⟨#[120]⟩, .string ⟨#[49, 50, 51, 52, 53, 54, 55, 56]⟩] 9)) 1) hg3))
    all_goals
      go_wp2
      go_ret
      exact ⟨⟨A ++ t3 ++ B, rfl, by rw [ByteArray.size_append, hz4]; omega⟩, hF.mono (by omega), hGF⟩
  have h20' : ¬ (r2 : Int) = 0 := by omega
  have h21' : ¬ (r2 : Int) = 1 := by omega
  obtain ⟨C, hC⟩ : ∃ C, C = s.extract (r1 + 1) s.size := ⟨_, rfl⟩
  have hCz : C.size ≤ s.size - r1 := by rw [hC, ByteArray.size_extract]; omega
  have hC' : s.extract (r1 + 1) s.size = C := hC.symm
  clear hC
  by_cases hlt : r1 < s.size
  · have hlt' : (r1 : Int) < (s.size : Int) := by omega
    by_cases h22 : r2 = 2
    · subst h22
      have hh1 : ¬ 9223372036854775807 < A.size + C.size := by omega
      go_wp2
      go_region
      all_goals
        go_wp2
        go_ret
        exact ⟨⟨A ++ C, rfl, by rw [ByteArray.size_append]; omega⟩, (h2.drew).mono (by omega), grownBy_drewN hG2 1⟩
    · have h22' : ¬ (r2 : Int) = 2 := by omega
      have hd := h2.drew
      have hGd := grownBy_drewN hG2 1
      have hw1 : IntKind.i64.wrap ((r1 : Int) + 1) = (r1 : Int) + 1 := by rw [IntKind.wrap_i64]; omega
      have hw2 : ((r1 : Int) + 1).toNat = r1 + 1 := by omega
      have hw3 : (r1 : Int) + 1 ≤ (s.size : Int) := by omega
      have hw4 : (0 : Int) ≤ (r1 : Int) + 1 := by omega
      go_wp2
      go_region_law (first
          | (go_simp; go_at_call 50; refine (pick_any g 256 (k + 1 + 1) _ hd (by omega) (by omega) (by omega)).mono ?_; rintro e3 w3 ⟨⟨r3, hq3, rfl⟩, h3, hg3⟩; have hw5 : IntKind.u8.wrap (r3 : Int) = (r3 : Int) := (by rw [IntKind.wrap_u8]; omega); obtain ⟨s1, hs1⟩ : (∃ s1, s1 = strOfNums [(r3 : Int)]) := ⟨_, rfl⟩; have hz1 : s1.size ≤ 1 := (by rw [hs1, strOfNums_size]; simp); have hconv := run_convert_bytes_arg (P := Tryd.prog) (w3.alloc (.cells #[.int .u8 (r3 : Int)] 5)) 35 5 Tryd.underlying35 Tryd.underlying5 w3.heap.size 0 1 1 [(r3 : Int)] rfl (fun i hi => by obtain rfl : i = 0 := (by omega); simp) 9 Tryd.underlying9; rw [← hs1] at hconv; clear hs1; have hh1 : ¬ 9223372036854775807 < A.size + s1.size := (by omega); have hh2 : ¬ 9223372036854775807 < A.size + s1.size + C.size := (by omega); have hz4 := ByteArray.size_append (a := A) (b := s1)))
      all_goals
        go_wp2
        go_ret
        exact ⟨⟨A ++ s1 ++ C, rfl, by rw [ByteArray.size_append, hz4]; omega⟩, (h3.below ((Below.refl _ _).alloc (Nat.le_refl _) _)).mono (by omega), galloc (grownBy_trans hGd hg3) _⟩
  · have hlt' : ¬ (r1 : Int) < (s.size : Int) := by omega
    by_cases h22 : r2 = 2
    · subst h22
      go_wp2
      go_ret
      exact ⟨⟨s, rfl, by omega⟩, h2.mono (by omega), hG2⟩
    · have h22' : ¬ (r2 : Int) = 2 := by omega
      go_wp2
      go_ret
      exact ⟨⟨s, rfl, by omega⟩, h2.mono (by omega), hG2⟩
end Go.Proofs.YtlgmkmegkojgbaaDoor
