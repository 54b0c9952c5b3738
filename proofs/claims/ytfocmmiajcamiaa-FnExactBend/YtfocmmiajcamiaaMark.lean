
/-
  laws.markText, markIntS, markTaskS, markPlan, markStringS, heldStringS.
-/
import Derived.Test.YtfocmmiajcamiaaLawVal
import Derived.Deep.DeepCutAuto
namespace Go.Proofs.Ytfocmmiajcamiaa
open Go.RowKit

/-! ### the decimal text of a mark -/
def lp : Nat → Nat → List UInt8 → List UInt8
  | 0, _, acc => acc
  | f + 1, k, acc => if k = 0 then acc else lp f (k / 10) (UInt8.ofNat (48 + k % 10) :: acc)
theorem lp_zero (f : Nat) (acc : List UInt8) : lp f 0 acc = acc := by cases f <;> simp [lp]
theorem lp_step {f k : Nat} (hk : 0 < k) (hf : k ≤ f) (acc : List UInt8) : ∃ f', k / 10 ≤ f' ∧ lp f k acc = lp f' (k / 10) (UInt8.ofNat (48 + k % 10) :: acc) := by
  cases f with
  | zero => omega
  | succ f => exact ⟨f, by omega, by rw [lp, if_neg (by omega)]⟩
def mtx (k : Nat) : ByteArray := ⟨(109 :: lp k k []).toArray⟩

set_option maxHeartbeats 1000000 in
theorem markText_any (k : Nat) (w : World) (h1 : 0 < k) (h2 : k ≤ 4398046511104) :
    Calls Try.prog 25 #[.int .i64 k] w fun e w' => e = .returned (.string (mtx k)) ∧ Below w.heap.size w w' := by
  have hk0 : ¬ ((k : Int) ≤ 0) := by omega
  go_enter Try.func25, Try.ntmps25
  go_wp2
  go_loopw [0, 3] (fun kv sv wr => ∃ m : Nat, kv = .int .i64 m ∧ (∃ acc f, sv = .string ⟨acc.toArray⟩ ∧ m ≤ f ∧ lp f m acc = lp k k [] ∧ acc.length + m ≤ k) ∧ Below w.heap.size w wr) (fun kv _ _ => (intOf kv).toNat)
  case atStart => exact ⟨k, rfl, ⟨[], k, rfl, Nat.le_refl _, rfl, by simp⟩, Below.refl _ _⟩
  case round =>
    obtain ⟨m, rfl, ⟨acc, f, rfl, hf, hlp, hlen⟩, hb⟩ := hrel
    have HP : Hid (lp f m acc = lp k k []) := hlp
    clear hlp
    by_cases hm : 0 < m
    · obtain ⟨f', hf', hst⟩ := lp_step hm hf acc
      have HS : Hid _ := hst
      clear hst
      have hconv := run_convert_bytes_arg (P := Try.prog) (wr.alloc (.cells #[.int .u8 (48 + (m : Int) % 10)] 5)) 45 5 Try.underlying45 Try.underlying5 wr.heap.size 0 1 1 [48 + (m : Int) % 10] rfl (fun i hi => by
        obtain rfl : i = 0 := by omega
        simp) 9 Try.underlying9
      obtain ⟨s1, hs1⟩ : ∃ s1, s1 = strOfNums [48 + (m : Int) % 10] := ⟨_, rfl⟩
      rw [← hs1] at hconv
      have hz1 : s1.size ≤ 1 := by rw [hs1, strOfNums_size]; simp
      have hd1 : s1 = ⟨[UInt8.ofNat (48 + m % 10)].toArray⟩ := by
        rw [hs1]; unfold strOfNums
        rw [List.map_cons, List.map_nil, show (48 + (m : Int) % 10).toNat = 48 + m % 10 by omega]
      have HD : Hid _ := hd1
      clear hd1 hs1
      go_wp2
      go_roundw
      case rel =>
        refine ⟨m / 10, by go_num, ⟨UInt8.ofNat (48 + m % 10) :: acc, f', ?_, hf', by rw [← HS.out]; exact HP.out, by simp; omega⟩, hb.alloc hb.size _⟩
        rw [HD.out, ByteArray.mk_append_mk]; rfl
      case measure => simp [intOf]; omega
    · obtain rfl : m = 0 := by omega
      rw [lp_zero] at HP
      go_wp2
      go_ret
      refine ⟨ret_str ?_, hb⟩
      rw [show (⟨#[109]⟩ : ByteArray) = ⟨[109].toArray⟩ from rfl, ByteArray.mk_append_mk, mtx, ← HP.out]; rfl

/-! ### marks in a row of texts -/
def mks : Nat → Nat → List ByteArray
  | _, 0 => []
  | k, n + 1 => mks k n ++ [mtx (k + n)]
theorem mks_length (k n : Nat) : (mks k n).length = n := by
  induction n with
  | zero => rfl
  | succ n ih => simp [mks, ih]
theorem mks_get (k : Nat) {i n : Nat} (h : i < n) : (mks k n).getD i ByteArray.empty = mtx (k + i) := by
  induction n with
  | zero => omega
  | succ n ih =>
    by_cases e : i = n
    · subst e
      simp only [mks, List.getD]
      rw [List.getElem?_append_right (by rw [mks_length]; omega), mks_length]; simp
    · rw [← ih (by omega)]
      simp only [mks, List.getD]
      rw [List.getElem?_append_left (by rw [mks_length]; omega)]
theorem mks_set (k : Nat) {i n : Nat} {xs : List Value} (hi : i < n) (hl : xs.length = n) : ((mks k i).map Value.string ++ xs.drop i).set i (.string (mtx (k + i))) = (mks k (i + 1)).map Value.string ++ xs.drop (i + 1) := by
  rw [List.set_append_right _ _ (by simp [mks_length])]
  have : i - (List.map Value.string (mks k i)).length = 0 := by simp [mks_length]
  rw [this, List.drop_eq_getElem_cons (show i < xs.length by omega)]
  simp only [List.set_cons_zero, mks, List.map_append, List.map_cons, List.map_nil, List.append_assoc, List.cons_append, List.nil_append]

theorem lp_length (f : Nat) : ∀ (k : Nat) (acc : List UInt8), (lp f k acc).length ≤ acc.length + f := by
  induction f with
  | zero => intro k acc; simp [lp]
  | succ f ih =>
    intro k acc
    rw [lp]
    split
    · omega
    · have := ih (k / 10) (UInt8.ofNat (48 + k % 10) :: acc); rw [List.length_cons] at this; omega
theorem mks_sizes (n : Nat) (hn : n ≤ 1048576) : ∀ s ∈ mks 1 n, s.size ≤ maxLen := by
  intro s hs
  obtain ⟨j, hj, rfl⟩ := List.mem_iff_getElem.1 hs
  rw [mks_length] at hj
  have := mks_get 1 hj
  simp only [List.getD, List.getElem?_eq_getElem (show j < (mks 1 n).length by rw [mks_length]; exact hj), Option.getD_some] at this
  rw [this]
  have hl := lp_length (1 + j) (1 + j) []
  show (109 :: lp (1 + j) (1 + j) []).toArray.size ≤ maxLen
  simp only [List.size_toArray, List.length_cons] at hl ⊢
  simp at hl
  unfold maxLen; omega
end Go.Proofs.Ytfocmmiajcamiaa
