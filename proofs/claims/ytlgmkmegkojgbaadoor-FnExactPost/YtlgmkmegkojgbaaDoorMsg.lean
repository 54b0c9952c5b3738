
/-
  Messages: what is valid: spec.l2InputsOk, l2Ok; impl.inputsHold, validMessage.
-/
import Derived.Test.YtlgmkmegkojgbaaDoorLawVal
namespace Go.Proofs.YtlgmkmegkojgbaaDoor
open Go.RowKit


def eights (ss : List ByteArray) (k : Nat) : Prop := ∀ j, j < k → (ss.getD j ByteArray.empty).size = 8
def inOk (ss : List ByteArray) : Prop := ss.length ≤ 8 ∧ eights ss ss.length

set_option maxHeartbeats 400000 in
theorem l2InputsOk_any (a : Option Addr) (b o n c : Nat) (ss : List ByteArray) (w : World) (h : StrsAt w a b o n ss) :
    Calls Tryd.prog 63 #[.slice a n c] w fun e w' => RetB e (inOk ss) ∧ w' = w := by
  have hmax := h.max
  unfold maxLen at hmax
  go_enter Tryd.func63, Tryd.ntmps63
  go_wp2
  go_loop [3] (fun i => ∃ k : Nat, k ≤ n ∧ i = .int .i64 k ∧ eights ss k) (fun i => n - (intOf i).toNat)
  case atStart => exact ⟨0, Nat.zero_le _, rfl, fun j hj => absurd hj (by omega)⟩
  case round =>
    obtain ⟨k, hk, rfl, hok⟩ := hrel
    by_cases hlt : k < n
    · obtain rfl := h.ad (by omega)
      have hc := h.cell k hlt
      have hsz := h.szD hlt
      obtain ⟨s, hs⟩ : ∃ s, s = ss.getD k ByteArray.empty := ⟨_, rfl⟩
      rw [← hs] at hc hsz
      unfold maxLen at hsz
      have HS : Hid (s = ss.getD k ByteArray.empty) := hs
      clear hs
      have hlt' : (k : Int) < (n : Int) := by omega
      by_cases h8 : s.size = 8
      · have H8 : Hid (s.size = 8) := h8
        have h8' : ((s.size : Int) == 8) = true := by simp; omega
        clear h8
        go_wp2
        go_round
        case rel =>
          refine ⟨k + 1, by omega, by go_num, fun j hj => ?_⟩
          by_cases e : j = k
          · subst e; rw [← HS.out]; exact H8.out
          · exact hok j (by omega)
        case measure => simp [intOf]; omega
      · have h8' : ((s.size : Int) == 8) = false := by simp; omega
        go_wp2
        go_ret
        refine ⟨RetB.f fun hh => h8 ?_, rfl⟩
        rw [HS.out]; exact hh.2 k (by rw [h.len]; exact hlt)
    · obtain rfl : k = n := by omega
      go_wp2
      go_ret
      refine ⟨RetB.d ?_, rfl⟩
      unfold inOk
      rw [h.len]
      exact ⟨fun hh => ⟨by omega, hok⟩, fun hh => by have := hh.1; omega⟩

set_option maxHeartbeats 400000 in
theorem inputsHold_any (a : Option Addr) (b o n c : Nat) (ss : List ByteArray) (w : World) (h : StrsAt w a b o n ss) :
    Calls Tryd.prog 69 #[.slice a n c, .bool true] w fun e w' => RetB e (inOk ss) ∧ w' = w := by
  have hmax := h.max
  unfold maxLen at hmax
  by_cases hn8 : 8 < n
  · go_enter Tryd.func69, Tryd.ntmps69
    go_wp2
    go_ret
    exact ⟨RetB.f fun hh => by have := hh.1; rw [h.len] at this; omega, rfl⟩
  go_enter Tryd.func69, Tryd.ntmps69
  go_wp2
  go_loop [17] (fun i => ∃ k : Nat, k ≤ n ∧ i = .int .i64 k ∧ eights ss k) (fun i => n - (intOf i).toNat)
  case atStart => exact ⟨0, Nat.zero_le _, rfl, fun j hj => absurd hj (by omega)⟩
  case round =>
    obtain ⟨k, hk, rfl, hok⟩ := hrel
    by_cases hlt : k < n
    · obtain rfl := h.ad (by omega)
      have hc := h.cell k hlt
      have hsz := h.szD hlt
      obtain ⟨s, hs⟩ : ∃ s, s = ss.getD k ByteArray.empty := ⟨_, rfl⟩
      rw [← hs] at hc hsz
      unfold maxLen at hsz
      have HS : Hid (s = ss.getD k ByteArray.empty) := hs
      clear hs
      have hlt' : (k : Int) < (n : Int) := by omega
      by_cases h8 : s.size = 8
      · have H8 : Hid (s.size = 8) := h8
        have h8' : ((s.size : Int) == 8) = true := by simp; omega
        clear h8
        go_wp2
        go_round
        case rel =>
          refine ⟨k + 1, by omega, by go_num, fun j hj => ?_⟩
          by_cases e : j = k
          · subst e; rw [← HS.out]; exact H8.out
          · exact hok j (by omega)
        case measure => simp [intOf]; omega
      · have h8' : ((s.size : Int) == 8) = false := by simp; omega
        go_wp2
        go_ret
        refine ⟨RetB.f fun hh => h8 ?_, rfl⟩
        rw [HS.out]; exact hh.2 k (by rw [h.len]; exact hlt)
    · obtain rfl : k = n := by omega
      go_wp2
      go_ret
      exact ⟨RetB.t ⟨by rw [h.len]; omega, by rw [h.len]; exact hok⟩, rfl⟩

/-- What is valid. -/
def vM (k f t e l d : Int) (z : Nat) (ss : List ByteArray) : Prop :=
  (k = 1 ∧ f = 0 ∧ 1 ≤ t ∧ t ≤ 8 ∧ 1 ≤ e ∧ e ≤ 300 ∧ 1 ≤ l ∧ l ≤ 300000000 ∧ 0 ≤ d ∧ d ≤ 39 ∧ z = 0 ∧ inOk ss) ∨
  (k = 2 ∧ t = 0 ∧ 1 ≤ f ∧ f ≤ 8 ∧ 1 ≤ e ∧ e ≤ 300 ∧ 1 ≤ l ∧ l ≤ 300000000 ∧ d = 0 ∧ z = 0 ∧ ss.length = 0) ∨
  (k = 3 ∧ t = 0 ∧ 1 ≤ f ∧ f ≤ 8 ∧ 1 ≤ e ∧ e ≤ 300 ∧ 1 ≤ l ∧ l ≤ 300000000 ∧ 0 ≤ d ∧ d ≤ 39 ∧ z = 8 ∧ ss.length = 0) ∨
  (k = 4 ∧ f = 0 ∧ 1 ≤ t ∧ t ≤ 8 ∧ 1 ≤ e ∧ e ≤ 300 ∧ 1 ≤ l ∧ l ≤ 300000000 ∧ d = 0 ∧ z = 0 ∧ ss.length = 0) ∨
  (k = 5 ∧ t = 0 ∧ 1 ≤ f ∧ f ≤ 8 ∧ 1 ≤ e ∧ e ≤ 300 ∧ l = 0 ∧ d = 0 ∧ z = 0 ∧ ss.length = 0)
theorem vM1 (f t e l d : Int) (z : Nat) (ss : List ByteArray) : vM 1 f t e l d z ss ↔ (f = 0 ∧ 1 ≤ t ∧ t ≤ 8 ∧ 1 ≤ e ∧ e ≤ 300 ∧ 1 ≤ l ∧ l ≤ 300000000 ∧ 0 ≤ d ∧ d ≤ 39 ∧ z = 0 ∧ inOk ss) := by
  unfold vM
  constructor
  · rintro (h | h | h | h | h) <;> first | exact h.2 | (obtain ⟨h, _⟩ := h; omega)
  · intro h; exact .inl ⟨rfl, h⟩
theorem vM2 (f t e l d : Int) (z : Nat) (ss : List ByteArray) : vM 2 f t e l d z ss ↔ (t = 0 ∧ 1 ≤ f ∧ f ≤ 8 ∧ 1 ≤ e ∧ e ≤ 300 ∧ 1 ≤ l ∧ l ≤ 300000000 ∧ d = 0 ∧ z = 0 ∧ ss.length = 0) := by
  unfold vM
  constructor
  · rintro (h | h | h | h | h) <;> first | exact h.2 | (obtain ⟨h, _⟩ := h; omega)
  · intro h; exact .inr (.inl ⟨rfl, h⟩)
theorem vM3 (f t e l d : Int) (z : Nat) (ss : List ByteArray) : vM 3 f t e l d z ss ↔ (t = 0 ∧ 1 ≤ f ∧ f ≤ 8 ∧ 1 ≤ e ∧ e ≤ 300 ∧ 1 ≤ l ∧ l ≤ 300000000 ∧ 0 ≤ d ∧ d ≤ 39 ∧ z = 8 ∧ ss.length = 0) := by
  unfold vM
  constructor
  · rintro (h | h | h | h | h) <;> first | exact h.2 | (obtain ⟨h, _⟩ := h; omega)
  · intro h; exact .inr (.inr (.inl ⟨rfl, h⟩))
theorem vM4 (f t e l d : Int) (z : Nat) (ss : List ByteArray) : vM 4 f t e l d z ss ↔ (f = 0 ∧ 1 ≤ t ∧ t ≤ 8 ∧ 1 ≤ e ∧ e ≤ 300 ∧ 1 ≤ l ∧ l ≤ 300000000 ∧ d = 0 ∧ z = 0 ∧ ss.length = 0) := by
  unfold vM
  constructor
  · rintro (h | h | h | h | h) <;> first | exact h.2 | (obtain ⟨h, _⟩ := h; omega)
  · intro h; exact .inr (.inr (.inr (.inl ⟨rfl, h⟩)))
theorem vM5 (f t e l d : Int) (z : Nat) (ss : List ByteArray) : vM 5 f t e l d z ss ↔ (t = 0 ∧ 1 ≤ f ∧ f ≤ 8 ∧ 1 ≤ e ∧ e ≤ 300 ∧ l = 0 ∧ d = 0 ∧ z = 0 ∧ ss.length = 0) := by
  unfold vM
  constructor
  · rintro (h | h | h | h | h) <;> first | exact h.2 | (obtain ⟨h, _⟩ := h; omega)
  · intro h; exact .inr (.inr (.inr (.inr ⟨rfl, h⟩)))

/-- Within bounds. -/
def inB (n lo hi : Int) : Bool := decide (lo ≤ n) && decide (n ≤ hi)
theorem inB_t {n lo hi : Int} (h : inB n lo hi = true) : lo ≤ n ∧ n ≤ hi := by simpa [inB] using h
theorem inB_f {n lo hi : Int} (h : inB n lo hi = false) : ¬ (lo ≤ n ∧ n ≤ hi) := by
  intro hh; rw [show inB n lo hi = true by simp [inB, hh.1, hh.2]] at h; cases h
theorem inB_mk {n lo hi : Int} (h1 : lo ≤ n) (h2 : n ≤ hi) : inB n lo hi = true := by simp [inB, h1, h2]
set_option maxHeartbeats 400000 in
theorem l2In_any (n lo hi : Int) (w : World) : Calls Tryd.prog 60 #[.int .i64 n, .int .i64 lo, .int .i64 hi] w fun e w' => e = .returned (.bool (inB n lo hi)) ∧ w' = w := by
  by_cases h1 : lo ≤ n
  · by_cases h2 : n ≤ hi
    · go_enter Tryd.func60, Tryd.ntmps60
      go_wp2
      go_ret
      exact ⟨by simp [inB, h1, h2], rfl⟩
    · go_enter Tryd.func60, Tryd.ntmps60
      go_wp2
      go_ret
      exact ⟨by simp [inB, h1, h2], rfl⟩
  · go_enter Tryd.func60, Tryd.ntmps60
    go_wp2
    go_ret
    exact ⟨by simp [inB]; omega, rfl⟩
set_option maxHeartbeats 400000 in
theorem within_any (n lo hi : Int) (w : World) : Calls Tryd.prog 65 #[.int .i64 n, .int .i64 lo, .int .i64 hi] w fun e w' => e = .returned (.bool (inB n lo hi)) ∧ w' = w := by
  by_cases h1 : lo ≤ n
  · by_cases h2 : n ≤ hi
    · go_enter Tryd.func65, Tryd.ntmps65
      go_wp2
      go_ret
      exact ⟨by simp [inB, h1, h2], rfl⟩
    · go_enter Tryd.func65, Tryd.ntmps65
      go_wp2
      go_ret
      exact ⟨by simp [inB, h1, h2], rfl⟩
  · go_enter Tryd.func65, Tryd.ntmps65
    go_wp2
    go_ret
    exact ⟨by simp [inB]; omega, rfl⟩
theorem l2LeaseOk_any (n : Int) (w : World) : Calls Tryd.prog 62 #[.int .i64 n] w fun e w' => e = .returned (.bool (inB n 1 300000000)) ∧ w' = w := by
  go_enter Tryd.func62, Tryd.ntmps62
  go_wp2_with fail
  refine (l2In_any _ _ _ _).mono ?_
  rintro e w' ⟨rfl, rfl⟩
  go_wp2
  go_ret
  exact ⟨rfl, rfl⟩
theorem isKind_any (n : Int) (w : World) : Calls Tryd.prog 64 #[.int .i64 n] w fun e w' => e = .returned (.bool (inB n 1 5)) ∧ w' = w := by
  go_enter Tryd.func64, Tryd.ntmps64
  go_wp2_with fail
  refine (within_any _ _ _ _).mono ?_
  rintro e w' ⟨rfl, rfl⟩
  go_wp2
  go_ret
  exact ⟨rfl, rfl⟩
theorem l2Uses_1 (w : World) : Calls Tryd.prog 61 #[.int .i64 1] w fun e w' => e = .returned (.tuple #[.bool true, .bool true, .bool false, .bool true, .bool true]) ∧ w' = w := by
  go_enter Tryd.func61, Tryd.ntmps61
  go_wp2
  exact bodyPost_ret (v := .tuple #[.bool true, .bool true, .bool false, .bool true, .bool true]) (by simp [results, Tryd.results61, go_sem]) rfl ⟨rfl, rfl⟩
theorem l2Uses_2 (w : World) : Calls Tryd.prog 61 #[.int .i64 2] w fun e w' => e = .returned (.tuple #[.bool true, .bool false, .bool false, .bool false, .bool false]) ∧ w' = w := by
  go_enter Tryd.func61, Tryd.ntmps61
  go_wp2
  exact bodyPost_ret (v := .tuple #[.bool true, .bool false, .bool false, .bool false, .bool false]) (by simp [results, Tryd.results61, go_sem]) rfl ⟨rfl, rfl⟩
theorem l2Uses_3 (w : World) : Calls Tryd.prog 61 #[.int .i64 3] w fun e w' => e = .returned (.tuple #[.bool true, .bool true, .bool true, .bool false, .bool false]) ∧ w' = w := by
  go_enter Tryd.func61, Tryd.ntmps61
  go_wp2
  exact bodyPost_ret (v := .tuple #[.bool true, .bool true, .bool true, .bool false, .bool false]) (by simp [results, Tryd.results61, go_sem]) rfl ⟨rfl, rfl⟩
theorem l2Uses_4 (w : World) : Calls Tryd.prog 61 #[.int .i64 4] w fun e w' => e = .returned (.tuple #[.bool true, .bool false, .bool false, .bool false, .bool true]) ∧ w' = w := by
  go_enter Tryd.func61, Tryd.ntmps61
  go_wp2
  exact bodyPost_ret (v := .tuple #[.bool true, .bool false, .bool false, .bool false, .bool true]) (by simp [results, Tryd.results61, go_sem]) rfl ⟨rfl, rfl⟩
theorem l2Uses_5 (w : World) : Calls Tryd.prog 61 #[.int .i64 5] w fun e w' => e = .returned (.tuple #[.bool false, .bool false, .bool false, .bool false, .bool false]) ∧ w' = w := by
  go_enter Tryd.func61, Tryd.ntmps61
  go_wp2
  exact bodyPost_ret (v := .tuple #[.bool false, .bool false, .bool false, .bool false, .bool false]) (by simp [results, Tryd.results61, go_sem]) rfl ⟨rfl, rfl⟩
theorem empty_t {x : ByteArray} (h : x.size = 0) : x.toList.isEmpty = true := by
  rw [ByteArray.toList_eq, List.isEmpty_iff]
  exact List.eq_nil_of_length_eq_zero (by rw [Array.length_toList]; exact h)
theorem empty_f {x : ByteArray} (h : ¬ x.size = 0) : x.toList.isEmpty = false := by
  rw [ByteArray.toList_eq]
  cases hx : x.data.toList with
  | nil => exact absurd (by have := congrArg List.length hx; rw [Array.length_toList] at this; exact this) h
  | cons a r => rfl
end Go.Proofs.YtlgmkmegkojgbaaDoor
