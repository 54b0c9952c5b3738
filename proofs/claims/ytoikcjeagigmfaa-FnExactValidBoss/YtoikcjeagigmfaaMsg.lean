
/-
  Messages: what is valid: spec.l2InputsOk, l2Ok; impl.inputsHold, validMessage.
-/
import Derived.Test.YtoikcjeagigmfaaLawVal
namespace Go.Proofs.Ytoikcjeagigmfaa
open Go.RowKit


def eights (ss : List ByteArray) (k : Nat) : Prop := ∀ j, j < k → (ss.getD j ByteArray.empty).size = 8
def inOk (ss : List ByteArray) : Prop := ss.length ≤ 8 ∧ eights ss ss.length

/-- What is valid. -/
def vM (k f t e l d : Int) (z : Nat) (ss : List ByteArray) : Prop :=
  (k = 1 ∧ f = 0 ∧ 1 ≤ t ∧ t ≤ 8 ∧ 1 ≤ e ∧ e ≤ 300 ∧ 1 ≤ l ∧ l ≤ 300000000 ∧ 0 ≤ d ∧ d ≤ 39 ∧ z = 0 ∧ inOk ss) ∨
  (k = 2 ∧ t = 0 ∧ 1 ≤ f ∧ f ≤ 8 ∧ 1 ≤ e ∧ e ≤ 300 ∧ 1 ≤ l ∧ l ≤ 300000000 ∧ d = 0 ∧ z = 0 ∧ ss.length = 0) ∨
  (k = 3 ∧ t = 0 ∧ 1 ≤ f ∧ f ≤ 8 ∧ 1 ≤ e ∧ e ≤ 300 ∧ 1 ≤ l ∧ l ≤ 300000000 ∧ 0 ≤ d ∧ d ≤ 39 ∧ z = 8 ∧ ss.length = 0) ∨
  (k = 4 ∧ f = 0 ∧ 1 ≤ t ∧ t ≤ 8 ∧ 1 ≤ e ∧ e ≤ 300 ∧ 1 ≤ l ∧ l ≤ 300000000 ∧ d = 0 ∧ z = 0 ∧ ss.length = 0) ∨
  (k = 5 ∧ t = 0 ∧ 1 ≤ f ∧ f ≤ 8 ∧ 1 ≤ e ∧ e ≤ 300 ∧ l = 0 ∧ d = 0 ∧ z = 0 ∧ ss.length = 0)
theorem vM1 (f t e l d : Int) (z : Nat) (ss : List ByteArray) : vM 1 f t e l d z ss ↔ (f = 0 ∧ 1 ≤ t ∧ t ≤ 8 ∧ 1 ≤ e ∧ e ≤ 300 ∧ 1 ≤ l ∧ l ≤ 300000000 ∧ 0 ≤ d ∧ d ≤ 39 ∧ z = 0 ∧ inOk ss) := by
  unfold vM
  constructor
  · rintro (h | h | h | h | h) <;> first | exact h.2 | (obtain ⟨h, _⟩ := h; omega)
  · intro h; exact .inl ⟨rfl, h⟩
theorem vM2 (f t e l d : Int) (z : Nat) (ss : List ByteArray) : vM 2 f t e l d z ss ↔ (t = 0 ∧ 1 ≤ f ∧ f ≤ 8 ∧ 1 ≤ e ∧ e ≤ 300 ∧ 1 ≤ l ∧ l ≤ 300000000 ∧ d = 0 ∧ z = 0 ∧ ss.length = 0) := by
  unfold vM
  constructor
  · rintro (h | h | h | h | h) <;> first | exact h.2 | (obtain ⟨h, _⟩ := h; omega)
  · intro h; exact .inr (.inl ⟨rfl, h⟩)
theorem vM3 (f t e l d : Int) (z : Nat) (ss : List ByteArray) : vM 3 f t e l d z ss ↔ (t = 0 ∧ 1 ≤ f ∧ f ≤ 8 ∧ 1 ≤ e ∧ e ≤ 300 ∧ 1 ≤ l ∧ l ≤ 300000000 ∧ 0 ≤ d ∧ d ≤ 39 ∧ z = 8 ∧ ss.length = 0) := by
  unfold vM
  constructor
  · rintro (h | h | h | h | h) <;> first | exact h.2 | (obtain ⟨h, _⟩ := h; omega)
  · intro h; exact .inr (.inr (.inl ⟨rfl, h⟩))
theorem vM4 (f t e l d : Int) (z : Nat) (ss : List ByteArray) : vM 4 f t e l d z ss ↔ (f = 0 ∧ 1 ≤ t ∧ t ≤ 8 ∧ 1 ≤ e ∧ e ≤ 300 ∧ 1 ≤ l ∧ l ≤ 300000000 ∧ d = 0 ∧ z = 0 ∧ ss.length = 0) := by
  unfold vM
  constructor
  · rintro (h | h | h | h | h) <;> first | exact h.2 | (obtain ⟨h, _⟩ := h; omega)
  · intro h; exact .inr (.inr (.inr (.inl ⟨rfl, h⟩)))
theorem vM5 (f t e l d : Int) (z : Nat) (ss : List ByteArray) : vM 5 f t e l d z ss ↔ (t = 0 ∧ 1 ≤ f ∧ f ≤ 8 ∧ 1 ≤ e ∧ e ≤ 300 ∧ l = 0 ∧ d = 0 ∧ z = 0 ∧ ss.length = 0) := by
  unfold vM
  constructor
  · rintro (h | h | h | h | h) <;> first | exact h.2 | (obtain ⟨h, _⟩ := h; omega)
  · intro h; exact .inr (.inr (.inr (.inr ⟨rfl, h⟩)))

/-- Within bounds. -/
def inB (n lo hi : Int) : Bool := decide (lo ≤ n) && decide (n ≤ hi)
theorem inB_t {n lo hi : Int} (h : inB n lo hi = true) : lo ≤ n ∧ n ≤ hi := by simpa [inB] using h
theorem inB_f {n lo hi : Int} (h : inB n lo hi = false) : ¬ (lo ≤ n ∧ n ≤ hi) := by
  intro hh; rw [show inB n lo hi = true by simp [inB, hh.1, hh.2]] at h; cases h
theorem inB_mk {n lo hi : Int} (h1 : lo ≤ n) (h2 : n ≤ hi) : inB n lo hi = true := by simp [inB, h1, h2]
set_option maxHeartbeats 400000 in
theorem l2In_any (n lo hi : Int) (w : World) : Calls Try.prog 53 #[.int .i64 n, .int .i64 lo, .int .i64 hi] w fun e w' => e = .returned (.bool (inB n lo hi)) ∧ w' = w := by
  by_cases h1 : lo ≤ n
  · by_cases h2 : n ≤ hi
    · go_enter Try.func53, Try.ntmps53
      go_wp2
      go_ret
      exact ⟨by simp [inB, h1, h2], rfl⟩
    · go_enter Try.func53, Try.ntmps53
      go_wp2
      go_ret
      exact ⟨by simp [inB, h1, h2], rfl⟩
  · go_enter Try.func53, Try.ntmps53
    go_wp2
    go_ret
    exact ⟨by simp [inB]; omega, rfl⟩
set_option maxHeartbeats 400000 in
theorem within_any (n lo hi : Int) (w : World) : Calls Try.prog 61 #[.int .i64 n, .int .i64 lo, .int .i64 hi] w fun e w' => e = .returned (.bool (inB n lo hi)) ∧ w' = w := by
  by_cases h1 : lo ≤ n
  · by_cases h2 : n ≤ hi
    · go_enter Try.func61, Try.ntmps61
      go_wp2
      go_ret
      exact ⟨by simp [inB, h1, h2], rfl⟩
    · go_enter Try.func61, Try.ntmps61
      go_wp2
      go_ret
      exact ⟨by simp [inB, h1, h2], rfl⟩
  · go_enter Try.func61, Try.ntmps61
    go_wp2
    go_ret
    exact ⟨by simp [inB]; omega, rfl⟩
theorem l2LeaseOk_any (n : Int) (w : World) : Calls Try.prog 55 #[.int .i64 n] w fun e w' => e = .returned (.bool (inB n 1 300000000)) ∧ w' = w := by
  go_enter Try.func55, Try.ntmps55
  go_wp2_with fail
  refine (l2In_any _ _ _ _).mono ?_
  rintro e w' ⟨rfl, rfl⟩
  go_wp2
  go_ret
  exact ⟨rfl, rfl⟩
theorem empty_t {x : ByteArray} (h : x.size = 0) : x.toList.isEmpty = true := by
  rw [ByteArray.toList_eq, List.isEmpty_iff]
  exact List.eq_nil_of_length_eq_zero (by rw [Array.length_toList]; exact h)
theorem empty_f {x : ByteArray} (h : ¬ x.size = 0) : x.toList.isEmpty = false := by
  rw [ByteArray.toList_eq]
  cases hx : x.data.toList with
  | nil => exact absurd (by have := congrArg List.length hx; rw [Array.length_toList] at this; exact this) h
  | cons a r => rfl
end Go.Proofs.Ytoikcjeagigmfaa
