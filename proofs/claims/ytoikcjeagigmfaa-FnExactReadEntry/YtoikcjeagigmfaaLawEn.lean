
/-
  laws.szEntry, toEntry, eqEntry; the law FnExactFormEntry's walk.
-/
import Derived.Test.YtoikcjeagigmfaaEnf
namespace Go.Proofs.Ytoikcjeagigmfaa
open Go.RowKit

set_option maxHeartbeats 400000 in
theorem szEntry_any (k e d : Int) (x : ByteArray) (w : World) (hx : x.size ≤ maxLen) :
    Calls Try.prog 7 #[.agg #[.int .i64 k, .int .i64 e, .int .i64 d, .string x], .int .i64 1048576] w fun e' w' => (∃ r, e' = .returned (.int .i64 r) ∧ (r = -1 ∨ 0 ≤ r ∧ x.size ≤ 1048576)) ∧ Below w.heap.size w w' := by
  unfold maxLen at hx
  have hb0 : Below w.heap.size w (w.alloc (.cells #[.int .i64 k, .int .i64 e, .int .i64 d, .string x] 23)) := (Below.refl _ _).alloc (Nat.le_refl _) _
  by_cases h : 1048576 < x.size
  · go_enter Try.func7, Try.ntmps7
    go_wp2
    go_ret
    exact ⟨⟨_, rfl, .inl rfl⟩, hb0⟩
  · go_enter Try.func7, Try.ntmps7
    go_wp2
    go_ret
    exact ⟨⟨_, rfl, .inr ⟨by omega, by omega⟩⟩, hb0⟩

set_option maxHeartbeats 400000 in
set_option maxRecDepth 100000 in
theorem toEntry_any (k e d : Int) (x : ByteArray) (w : World) :
    Calls Try.prog 9 #[.agg #[.int .i64 k, .int .i64 e, .int .i64 d, .string x]] w fun e' w' => e' = .returned (.agg #[.int .i64 k, .int .i64 e, .int .i64 d, .string x]) ∧ Below w.heap.size w w' := by
  go_enter Try.func9, Try.ntmps9
  go_wp2
  refine bodyPost_ret (v := .agg #[.int .i64 k, .int .i64 e, .int .i64 d, .string x]) (by simp [results, Try.results9, go_sem]) rfl ⟨rfl, ?_⟩
  repeat (first | exact Below.refl _ _ | refine Below.setCell ?_ (by first | exact Nat.le_refl _ | (dsimp only; omega) | (simp; done) | (simp; omega)) _ | refine Below.alloc ?_ (by first | (simp; done) | (simp; omega)) _)

set_option maxHeartbeats 400000 in
set_option maxRecDepth 100000 in
theorem eqEntry_any (k e d : Int) (x : ByteArray) (w : World) :
    Calls Try.prog 13 #[.agg #[.int .i64 k, .int .i64 e, .int .i64 d, .string x], .agg #[.int .i64 k, .int .i64 e, .int .i64 d, .string x]] w fun e' w' => e' = .returned (.bool true) ∧ Below w.heap.size w w' := by
  go_enter Try.func13, Try.ntmps13
  go_wp2
  go_ret
  exact ⟨rfl, ((Below.refl _ _).alloc (Nat.le_refl _) _).alloc (by simp) _⟩

set_option maxHeartbeats 1000000 in
set_option maxRecDepth 100000 in
theorem fnExactFormEntry_walk (k e d : Int) (x : ByteArray) (w : World) (hx : x.size ≤ maxLen) :
    Calls Try.prog 3 #[.agg #[.int .i64 k, .int .i64 e, .int .i64 d, .string x]] w fun e' w' => e' = .returned (.bool true) ∧ Below w.heap.size w w' := by
  obtain ⟨W, hW⟩ : ∃ W, W = w.alloc (.cells #[.int .i64 k, .int .i64 e, .int .i64 d, .string x] 23) := ⟨_, rfl⟩
  have hbW : Below w.heap.size w W := by rw [hW]; exact (Below.refl _ _).alloc (Nat.le_refl _) _
  have hMC : MC W w.heap.size [.int .i64 k, .int .i64 e, .int .i64 d, .string x] := by rw [hW]; exact MC.made w _ _
  have hlt : w.heap.size < W.heap.size := World.block_lt_of_cell? W ⟨w.heap.size, 0, none⟩ (hMC 0 (by simp))
  have HM := hid hMC
  clear hMC
  go_enter Try.func3, Try.ntmps3
  go_wp2_with fail
  rw [← hW]
  refine (szEntry_any k e d x _ hx).mono ?_
  rintro e' w1 ⟨⟨r, rfl, hr⟩, hb1⟩
  clear hW
  have hB1 := hbW.trans (hb1.mono hbW.size)
  rcases hr with rfl | ⟨hr0, hx1⟩
  · go_wp2
    go_ret
    exact ⟨rfl, hB1⟩
  · have hM1 := MC.below HM.out hb1 hlt
    have c0 : w1.cell? ⟨w.heap.size, 0, none⟩ = some (.int .i64 k) := hM1 0 (by simp)
    have c1 : w1.cell? ⟨w.heap.size, 1, none⟩ = some (.int .i64 e) := hM1 1 (by simp)
    have c2 : w1.cell? ⟨w.heap.size, 2, none⟩ = some (.int .i64 d) := hM1 2 (by simp)
    have c3 : w1.cell? ⟨w.heap.size, 3, none⟩ = some (.string x) := hM1 3 (by simp)
    have hl1 : w.heap.size < w1.heap.size := Nat.lt_of_lt_of_le hlt hb1.size
    have HM1 := hid hM1
    clear hM1
    go_wp2_with fail
    refine (toEntry_any k e d x _).mono ?_
    rintro e' w2 ⟨rfl, hb2⟩
    clear c0 c1 c2 c3
    go_wp2_with fail
    refine (specEnt_any k e d x _).mono ?_
    rintro e' w3 ⟨⟨r1, rfl, hf1⟩, hb3⟩
    have HF1 := hid hf1
    clear hf1
    have hb13 := hb2.trans (hb3.mono hb2.size)
    have hM3 := MC.below HM1.out hb13 hl1
    have hl3 : w.heap.size < w3.heap.size := Nat.lt_of_lt_of_le hl1 hb13.size
    have c0 : w3.cell? ⟨w.heap.size, 0, none⟩ = some (.int .i64 k) := hM3 0 (by simp)
    have c1 : w3.cell? ⟨w.heap.size, 1, none⟩ = some (.int .i64 e) := hM3 1 (by simp)
    have c2 : w3.cell? ⟨w.heap.size, 2, none⟩ = some (.int .i64 d) := hM3 2 (by simp)
    have c3 : w3.cell? ⟨w.heap.size, 3, none⟩ = some (.string x) := hM3 3 (by simp)
    clear hM3
    go_wp2_with fail
    refine (toEntry_any k e d x _).mono ?_
    rintro e' w4 ⟨rfl, hb4⟩
    clear c0 c1 c2 c3
    go_wp2_with fail
    refine (implEnt_any k e d x _).mono ?_
    rintro e' w5 ⟨⟨r2, rfl, hf2⟩, hb5⟩
    obtain rfl := hf2.uniq HF1.out
    have hb35 := hb4.trans (hb5.mono hb4.size)
    have hB5 := hB1.trans ((hb13.trans (hb35.mono hb13.size)).mono hB1.size)
    clear HF1 hf2
    go_wp2
    go_ret
    exact ⟨rfl, hB5⟩
end Go.Proofs.Ytoikcjeagigmfaa
