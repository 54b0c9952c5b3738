
/-
  laws.markText, markIntS, markTaskS, markPlan, markStringS, heldStringS.
-/
import Derived.Test.YtdjcfeiaembckaaLawVal
import Derived.Deep.DeepCutAuto
namespace Go.Proofs.Ytdjcfeiaembckaa
open Go.RowKit

/-! ### the decimal text of a mark -/
def lp : Nat → Nat → List UInt8 → List UInt8
  | 0, _, acc => acc
  | f + 1, k, acc => if k = 0 then acc else lp f (k / 10) (UInt8.ofNat (48 + k % 10) :: acc)
theorem lp_zero (f : Nat) (acc : List UInt8) : lp f 0 acc = acc := by cases f <;> simp [lp]
theorem lp_step {f k : Nat} (hk : 0 < k) (hf : k ≤ f) (acc : List UInt8) : ∃ f', k / 10 ≤ f' ∧ lp f k acc = lp f' (k / 10) (UInt8.ofNat (48 + k % 10) :: acc) := by
  cases f with
  | zero => omega
  | succ f => exact ⟨f, by omega, by rw [lp, if_neg (by omega)]⟩
def mtx (k : Nat) : ByteArray := ⟨(109 :: lp k k []).toArray⟩

/-! ### marks in a row of texts -/
def mks : Nat → Nat → List ByteArray
  | _, 0 => []
  | k, n + 1 => mks k n ++ [mtx (k + n)]
theorem mks_length (k n : Nat) : (mks k n).length = n := by
  induction n with
  | zero => rfl
  | succ n ih => simp [mks, ih]
theorem mks_get (k : Nat) {i n : Nat} (h : i < n) : (mks k n).getD i ByteArray.empty = mtx (k + i) := by
  induction n with
  | zero => omega
  | succ n ih =>
    by_cases e : i = n
    · subst e
      simp only [mks, List.getD]
      rw [List.getElem?_append_right (by rw [mks_length]; omega), mks_length]; simp
    · rw [← ih (by omega)]
      simp only [mks, List.getD]
      rw [List.getElem?_append_left (by rw [mks_length]; omega)]
theorem mks_set (k : Nat) {i n : Nat} {xs : List Value} (hi : i < n) (hl : xs.length = n) : ((mks k i).map Value.string ++ xs.drop i).set i (.string (mtx (k + i))) = (mks k (i + 1)).map Value.string ++ xs.drop (i + 1) := by
  rw [List.set_append_right _ _ (by simp [mks_length])]
  have : i - (List.map Value.string (mks k i)).length = 0 := by simp [mks_length]
  rw [this, List.drop_eq_getElem_cons (show i < xs.length by omega)]
  simp only [List.set_cons_zero, mks, List.map_append, List.map_cons, List.map_nil, List.append_assoc, List.cons_append, List.nil_append]

theorem lp_length (f : Nat) : ∀ (k : Nat) (acc : List UInt8), (lp f k acc).length ≤ acc.length + f := by
  induction f with
  | zero => intro k acc; simp [lp]
  | succ f ih =>
    intro k acc
    rw [lp]
    split
    · omega
    · have := ih (k / 10) (UInt8.ofNat (48 + k % 10) :: acc); rw [List.length_cons] at this; omega
theorem mks_sizes (n : Nat) (hn : n ≤ 1048576) : ∀ s ∈ mks 1 n, s.size ≤ maxLen := by
  intro s hs
  obtain ⟨j, hj, rfl⟩ := List.mem_iff_getElem.1 hs
  rw [mks_length] at hj
  have := mks_get 1 hj
  simp only [List.getD, List.getElem?_eq_getElem (show j < (mks 1 n).length by rw [mks_length]; exact hj), Option.getD_some] at this
  rw [this]
  have hl := lp_length (1 + j) (1 + j) []
  show (109 :: lp (1 + j) (1 + j) []).toArray.size ≤ maxLen
  simp only [List.size_toArray, List.length_cons] at hl ⊢
  simp at hl
  unfold maxLen; omega
end Go.Proofs.Ytdjcfeiaembckaa
