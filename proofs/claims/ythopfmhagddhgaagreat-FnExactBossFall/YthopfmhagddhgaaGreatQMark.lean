import Derived.Test.YthopfmhagddhgaaGreatQLawVal
import Derived.Deep.DeepCutAuto
namespace Go.Proofs.YthopfmhagddhgaaGreat
open Go.RowKit

/-! ### the decimal text of a mark -/
def lp : Nat → Nat → List UInt8 → List UInt8
  | 0, _, acc => acc
  | f + 1, k, acc => if k = 0 then acc else lp f (k / 10) (UInt8.ofNat (48 + k % 10) :: acc)
theorem lp_zero (f : Nat) (acc : List UInt8) : lp f 0 acc = acc := by cases f <;> simp [lp]
theorem lp_step {f k : Nat} (hk : 0 < k) (hf : k ≤ f) (acc : List UInt8) : ∃ f', k / 10 ≤ f' ∧ lp f k acc = lp f' (k / 10) (UInt8.ofNat (48 + k % 10) :: acc) := by
  cases f with
  | zero => omega
  | succ f => exact ⟨f, by omega, by rw [lp, if_neg (by omega)]⟩
def mtx (k : Nat) : ByteArray := ⟨(109 :: lp k k []).toArray⟩

set_option maxHeartbeats 1000000 in
theorem markText_any (k : Nat) (w : World) (h1 : 0 < k) (h2 : k ≤ 4398046511104) :
    Calls Tryz.prog 113 #[.int .i64 k] w fun e w' => e = .returned (.string (mtx k)) ∧ Below w.heap.size w w' := by
  have hk0 : ¬ ((k : Int) ≤ 0) := by omega
  go_enter Tryz.func113, Tryz.ntmps113
  go_wp2
  go_loopw [0, 3] (fun kv sv wr => ∃ m : Nat, kv = .int .i64 m ∧ (∃ acc f, sv = .string ⟨acc.toArray⟩ ∧ m ≤ f ∧ lp f m acc = lp k k [] ∧ acc.length + m ≤ k) ∧ Below w.heap.size w wr) (fun kv _ _ => (intOf kv).toNat)
  case atStart => exact ⟨k, rfl, ⟨[], k, rfl, Nat.le_refl _, rfl, by simp⟩, Below.refl _ _⟩
  case round =>
    obtain ⟨m, rfl, ⟨acc, f, rfl, hf, hlp, hlen⟩, hb⟩ := hrel
    have HP : Hid (lp f m acc = lp k k []) := hlp
    clear hlp
    by_cases hm : 0 < m
    · obtain ⟨f', hf', hst⟩ := lp_step hm hf acc
      have HS : Hid _ := hst
      clear hst
      have hconv := run_convert_bytes_arg (P := Tryz.prog) (wr.alloc (.cells #[.int .u8 (48 + (m : Int) % 10)] 5)) 180 5 Tryz.underlying180 Tryz.underlying5 wr.heap.size 0 1 1 [48 + (m : Int) % 10] rfl (fun i hi => by
        obtain rfl : i = 0 := by omega
        simp) 9 Tryz.underlying9
      obtain ⟨s1, hs1⟩ : ∃ s1, s1 = strOfNums [48 + (m : Int) % 10] := ⟨_, rfl⟩
      rw [← hs1] at hconv
      have hz1 : s1.size ≤ 1 := by rw [hs1, strOfNums_size]; simp
      have hd1 : s1 = ⟨[UInt8.ofNat (48 + m % 10)].toArray⟩ := by
        rw [hs1]; unfold strOfNums
        rw [List.map_cons, List.map_nil, show (48 + (m : Int) % 10).toNat = 48 + m % 10 by omega]
      have HD : Hid _ := hd1
      clear hd1 hs1
      go_wp2
      go_roundw
      case rel =>
        refine ⟨m / 10, by go_num, ⟨UInt8.ofNat (48 + m % 10) :: acc, f', ?_, hf', by rw [← HS.out]; exact HP.out, by simp; omega⟩, hb.alloc hb.size _⟩
        rw [HD.out, ByteArray.mk_append_mk]; rfl
      case measure => simp [intOf]; omega
    · obtain rfl : m = 0 := by omega
      rw [lp_zero] at HP
      go_wp2
      go_ret
      refine ⟨ret_str ?_, hb⟩
      rw [show (⟨#[109]⟩ : ByteArray) = ⟨[109].toArray⟩ from rfl, ByteArray.mk_append_mk, mtx, ← HP.out]; rfl

/-! ### marks in a row of texts -/
def mks : Nat → Nat → List ByteArray
  | _, 0 => []
  | k, n + 1 => mks k n ++ [mtx (k + n)]
theorem mks_length (k n : Nat) : (mks k n).length = n := by
  induction n with
  | zero => rfl
  | succ n ih => simp [mks, ih]
theorem mks_get (k : Nat) {i n : Nat} (h : i < n) : (mks k n).getD i ByteArray.empty = mtx (k + i) := by
  induction n with
  | zero => omega
  | succ n ih =>
    by_cases e : i = n
    · subst e
      simp only [mks, List.getD]
      rw [List.getElem?_append_right (by rw [mks_length]; omega), mks_length]; simp
    · rw [← ih (by omega)]
      simp only [mks, List.getD]
      rw [List.getElem?_append_left (by rw [mks_length]; omega)]
theorem mks_set (k : Nat) {i n : Nat} {xs : List Value} (hi : i < n) (hl : xs.length = n) : ((mks k i).map Value.string ++ xs.drop i).set i (.string (mtx (k + i))) = (mks k (i + 1)).map Value.string ++ xs.drop (i + 1) := by
  rw [List.set_append_right _ _ (by simp [mks_length])]
  have : i - (List.map Value.string (mks k i)).length = 0 := by simp [mks_length]
  rw [this, List.drop_eq_getElem_cons (show i < xs.length by omega)]
  simp only [List.set_cons_zero, mks, List.map_append, List.map_cons, List.map_nil, List.append_assoc, List.cons_append, List.nil_append]

set_option maxHeartbeats 1000000 in
theorem markStringS_any (g o cap n c k : Nat) (B : Nat) (xs : List Value) (w : World) (h1 : 0 < k) (h2 : k ≤ 2199023255552) (hn : n ≤ 1048576) (h : OwnC B w 1 g o cap n xs) :
    Calls Tryz.prog 67 #[.slice (some ⟨g, o, none⟩) n c, .int .i64 k] w fun e w' => e = .returned (.int .i64 ((k : Int) + n)) ∧ OwnC B w' 1 g o cap n ((mks k n).map Value.string) ∧ w.grownBy w' (some g) := by
  go_enter Tryz.func67, Tryz.ntmps67
  go_wp2
  go_loopw [1, 5] (fun kv x wr => ∃ i : Nat, i ≤ n ∧ x = .int .i64 i ∧ kv = .int .i64 ((k : Int) + i) ∧ OwnC B wr 1 g o cap n ((mks k i).map Value.string ++ xs.drop i) ∧ w.grownBy wr (some g)) (fun _ x _ => n - (intOf x).toNat)
  case atStart => exact ⟨0, Nat.zero_le _, rfl, by simp, by simpa [mks] using h, World.grownBy.refl w _⟩
  case round =>
    obtain ⟨i, hi, rfl, rfl, ho, hg⟩ := hrel
    by_cases hlt : i < n
    · have hlt' : (i : Int) < (n : Int) := by omega
      go_wp2_with fail
      rw [show ((k : Int) + i) = ((k + i : Nat) : Int) by omega]
      refine (markText_any (k + i) _ (by omega) (by omega)).mono ?_
      rintro e w1 ⟨rfl, hb1⟩
      have ho1 := ho.below hb1 ho.hi
      have hg1 := grownBy_trans hg (grownBy_below (r := some g) hb1)
      obtain ⟨u0, _, hq0⟩ := ho1.cellSome (j := i) (by omega)
      have hf0 := ho1.notFrozen (j := i) (by omega)
      have ho2 := ho1.setCell (j := i) (by omega) (.string (mtx (k + i)))
      rw [mks_set k hlt (by have := h.len; omega)] at ho2
      have hg2 : w.grownBy (w1.setCell ⟨g, o + i, none⟩ (.string (mtx (k + i)))) (some g) := ⟨hg1.os, hg1.tape, hg1.output, by simpa [World.setCell] using hg1.size, fun q hq hne => by rw [Below.heap_setCell _ _ _ _ (by show q ≠ g; intro e; exact hne (by rw [e]))]; exact hg1.block q hq hne⟩
      clear ho ho1 hg hg1 hb1
      go_wp2
      go_roundw
      case rel => exact ⟨i + 1, by omega, by go_num, by go_num, ho2, hg2⟩
      case measure => simp [intOf]; omega
    · obtain rfl : i = n := by omega
      rw [List.drop_of_length_le (by have := h.len; omega), List.append_nil] at ho
      go_wp2
      go_ret
      exact ⟨rfl, ho, hg⟩

set_option maxHeartbeats 1000000 in
theorem markStringS_nil (k : Nat) (w : World) :
    Calls Tryz.prog 67 #[.slice none 0 0, .int .i64 k] w fun e w' => e = .returned (.int .i64 (k : Int)) ∧ w' = w := by
  go_enter Tryz.func67, Tryz.ntmps67
  go_wp2
  go_loop [1, 5] (fun kv x => x = .int .i64 0 ∧ kv = .int .i64 k) (fun _ _ => 0)
  case atStart => exact ⟨rfl, rfl⟩
  case round =>
    obtain ⟨rfl, rfl⟩ := hrel
    go_wp2
    go_ret
    exact ⟨rfl, rfl⟩
/-- .. of whatever row the call owns, nil too; what lies elsewhere stays. -/
theorem markStringS_own (a : Option Addr) (n c k : Nat) (B : Nat) (xs : List Value) (w : World) (h1 : 0 < k) (h2 : k ≤ 2199023255552) (hn : n ≤ 1048576) (h : Own B w 1 (.slice a n c) n xs) :
    Calls Tryz.prog 67 #[.slice a n c, .int .i64 k] w fun e w' => e = .returned (.int .i64 ((k : Int) + n)) ∧ Own B w' 1 (.slice a n c) n ((mks k n).map Value.string) ∧ w.heap.size ≤ w'.heap.size ∧ Below B w w' := by
  rcases h with ⟨hv, rfl, rfl⟩ | ⟨g, o, cap, hv, hc⟩
  · simp only [Value.slice.injEq] at hv
    obtain ⟨rfl, _, rfl⟩ := hv
    refine (markStringS_nil k w).mono ?_
    rintro e w' ⟨rfl, rfl⟩
    exact ⟨by simp, .inl ⟨rfl, rfl, rfl⟩, Nat.le_refl _, Below.refl _ _⟩
  · simp only [Value.slice.injEq] at hv
    obtain ⟨rfl, _, rfl⟩ := hv
    refine (markStringS_any g o c n c k B xs w h1 h2 hn hc).mono ?_
    rintro e w' ⟨rfl, ho, hg⟩
    exact ⟨rfl, .inr ⟨g, o, c, rfl, ho⟩, hg.size, ⟨hg.os, hg.tape, hg.output, hg.size, fun q hq => hg.block q (by have := hc.hi; have := hc.lo; omega) (by have := hc.lo; simp; omega)⟩⟩

set_option maxHeartbeats 1000000 in
theorem heldStringS_any (a : Option Addr) (b o n c k : Nat) (w : World) (h1 : 0 < k) (h2 : k ≤ 2199023255552) (hn : n ≤ 1048576) (h : StrsAt w a b o n (mks k n)) :
    Calls Tryz.prog 73 #[.slice a n c, .int .i64 k] w fun e w' => e = .returned (.int .i64 ((k : Int) + n)) ∧ Below w.heap.size w w' := by
  go_enter Tryz.func73, Tryz.ntmps73
  go_wp2
  go_loopw [1, 5] (fun kv x wr => ∃ i : Nat, i ≤ n ∧ x = .int .i64 i ∧ kv = .int .i64 ((k : Int) + i) ∧ Below w.heap.size w wr) (fun _ x _ => n - (intOf x).toNat)
  case atStart => exact ⟨0, Nat.zero_le _, rfl, by simp, Below.refl _ _⟩
  case round =>
    obtain ⟨i, hi, rfl, rfl, hb⟩ := hrel
    by_cases hlt : i < n
    · have hlt' : (i : Int) < (n : Int) := by omega
      obtain rfl := h.ad (by omega)
      have hc := (h.below' hb).cell i hlt
      rw [mks_get k hlt] at hc
      obtain ⟨s, hs⟩ : ∃ s, s = mtx (k + i) := ⟨_, rfl⟩
      rw [← hs] at hc
      have hct : ∀ w1 : World, Calls Tryz.prog 113 #[.int .i64 ((k : Int) + i)] w1 fun e w' => e = .returned (.string s) ∧ Below w1.heap.size w1 w' := fun w1 => by
        rw [show ((k : Int) + i) = ((k + i : Nat) : Int) by omega, hs]
        exact markText_any (k + i) w1 (by omega) (by omega)
      have HC : Hid (∀ w1 : World, Calls Tryz.prog 113 #[.int .i64 ((k : Int) + i)] w1 fun e w' => e = .returned (.string s) ∧ Below w1.heap.size w1 w') := hct
      clear hct hs
      have hbd : Below w.heap.size w wr.drew := hb.drew
      go_wp2
      go_region_held3 (fun w' => w'.cell? ⟨b, o + i, none⟩ = some (.string s)) (first | (simp [go_sem, *]; done) | assumption)
        (first
          | (go_at_call 113; refine (HC.out _).mono ?_; rintro e w1 ⟨rfl, hb1⟩; have q0 := keepC hb1 hc; have hb1' := hbd.trans (hb1.mono hbd.size)))
      go_wp2
      go_roundw
      case rel => exact ⟨i + 1, by omega, by go_num, by go_num, hb1'⟩
      case measure => simp [intOf]; omega
    · obtain rfl : i = n := by omega
      go_wp2
      go_ret
      exact ⟨rfl, hb⟩
theorem lp_length (f : Nat) : ∀ (k : Nat) (acc : List UInt8), (lp f k acc).length ≤ acc.length + f := by
  induction f with
  | zero => intro k acc; simp [lp]
  | succ f ih =>
    intro k acc
    rw [lp]
    split
    · omega
    · have := ih (k / 10) (UInt8.ofNat (48 + k % 10) :: acc); rw [List.length_cons] at this; omega
theorem mks_sizes (n : Nat) (hn : n ≤ 1048576) : ∀ s ∈ mks 1 n, s.size ≤ maxLen := by
  intro s hs
  obtain ⟨j, hj, rfl⟩ := List.mem_iff_getElem.1 hs
  rw [mks_length] at hj
  have := mks_get 1 hj
  simp only [List.getD, List.getElem?_eq_getElem (show j < (mks 1 n).length by rw [mks_length]; exact hj), Option.getD_some] at this
  rw [this]
  have hl := lp_length (1 + j) (1 + j) []
  show (109 :: lp (1 + j) (1 + j) []).toArray.size ≤ maxLen
  simp only [List.size_toArray, List.length_cons] at hl ⊢
  simp at hl
  unfold maxLen; omega
/-- .. and what is written is that row alone. -/
theorem markStringS_own2 (a : Option Addr) (n c k : Nat) (B : Nat) (xs : List Value) (w : World) (h1 : 0 < k) (h2 : k ≤ 2199023255552) (hn : n ≤ 1048576) (h : Own B w 1 (.slice a n c) n xs) :
    Calls Tryz.prog 67 #[.slice a n c, .int .i64 k] w fun e w' => e = .returned (.int .i64 ((k : Int) + n)) ∧ Own B w' 1 (.slice a n c) n ((mks k n).map Value.string) ∧ w.grownBy w' (Value.slice a n c).ownBlock := by
  rcases h with ⟨hv, rfl, rfl⟩ | ⟨g, o, cap, hv, hc⟩
  · simp only [Value.slice.injEq] at hv
    obtain ⟨rfl, _, rfl⟩ := hv
    refine (markStringS_nil k w).mono ?_
    rintro e w' ⟨rfl, rfl⟩
    exact ⟨by simp, .inl ⟨rfl, rfl, rfl⟩, World.grownBy.refl _ _⟩
  · simp only [Value.slice.injEq] at hv
    obtain ⟨rfl, _, rfl⟩ := hv
    refine (markStringS_any g o c n c k B xs w h1 h2 hn hc).mono ?_
    rintro e w' ⟨rfl, ho, hg⟩
    exact ⟨rfl, .inr ⟨g, o, c, rfl, ho⟩, hg⟩
end Go.Proofs.YthopfmhagddhgaaGreat
