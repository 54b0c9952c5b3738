import Derived.Test.YthopfmhagddhgaaGreatQMark
import Derived.Test.YthopfmhagddhgaaGreatQEq
import Derived.Test.YthopfmhagddhgaaGreatQCel
import Derived.Test.YthopfmhagddhgaaGreatQRwk
import Derived.Test.YthopfmhagddhgaaGreatQWkv
namespace Go.Proofs.YthopfmhagddhgaaGreat
open Go.RowKit

abbrev Pc := Int × ByteArray × ByteArray
def pc (P : List Pc) (j : Nat) : Pc := P.getD j (0, ByteArray.empty, ByteArray.empty)
def pcl (x : Pc) : List Value := [.int .i64 x.1, .string x.2.1, .string x.2.2]
def pcs (P : List Pc) : List Value := P.flatMap pcl
theorem pcs_length (P : List Pc) : (pcs P).length = P.length * 3 := by
  induction P with
  | nil => rfl
  | cons x r ih => simp only [pcs, List.flatMap_cons, List.length_append, List.length_cons] at ih ⊢; rw [ih]; simp [pcl]; omega
theorem pcs_append (A B : List Pc) : pcs (A ++ B) = pcs A ++ pcs B := by simp [pcs]
theorem pcs_one (P : List Pc) : ∀ u ∈ pcs P, u.oneCell' = true := by
  intro u hu
  obtain ⟨x, _, hx⟩ := List.mem_flatMap.1 hu
  simp only [pcl, List.mem_cons, List.not_mem_nil, or_false] at hx
  rcases hx with rfl | rfl | rfl <;> rfl
theorem pc_cons_succ (x : Pc) (P : List Pc) (j : Nat) : pc (x :: P) (j + 1) = pc P j := by simp [pc]
theorem pcs_get (P : List Pc) : ∀ (j r : Nat), j < P.length → r < 3 → (pcs P)[j * 3 + r]? = (pcl (pc P j))[r]? := by
  induction P with
  | nil => intro j r h; simp at h
  | cons x t ih =>
    intro j r hj hr
    have e : pcs (x :: t) = pcl x ++ pcs t := rfl
    have hl : (pcl x).length = 3 := rfl
    rw [e]
    cases j with
    | zero => rw [List.getElem?_append_left (by omega), Nat.zero_mul, Nat.zero_add]; rfl
    | succ j => rw [List.getElem?_append_right (by omega), hl, show (j + 1) * 3 + r - 3 = j * 3 + r by omega, ih j r (by simpa using hj) hr, pc_cons_succ]
theorem pcs_take (P : List Pc) : ∀ (k : Nat), (pcs P).take (k * 3) = pcs (P.take k) := by
  induction P with
  | nil => intro k; simp [pcs]
  | cons x t ih =>
    intro k
    cases k with
    | zero => simp [pcs]
    | succ k =>
      have e : pcs (x :: t) = pcl x ++ pcs t := rfl
      have hl : (pcl x).length = 3 := rfl
      rw [e, List.take_succ_cons, List.take_append, hl, List.take_of_length_le (by omega), show (k + 1) * 3 - 3 = k * 3 by omega, ih k]; rfl
theorem pcs_drop (P : List Pc) : ∀ (k : Nat), (pcs P).drop (k * 3) = pcs (P.drop k) := by
  induction P with
  | nil => intro k; simp [pcs]
  | cons x t ih =>
    intro k
    cases k with
    | zero => simp
    | succ k =>
      have e : pcs (x :: t) = pcl x ++ pcs t := rfl
      have hl : (pcl x).length = 3 := rfl
      rw [e, List.drop_succ_cons, List.drop_append, hl, List.drop_of_length_le (by omega), show (k + 1) * 3 - 3 = k * 3 by omega, ih k]; simp
theorem pc_ext {A B : List Pc} (hl : A.length = B.length) (h : ∀ j, j < A.length → pc A j = pc B j) : A = B := by
  apply List.ext_getElem hl
  intro j h1 h2
  have := h j h1
  simpa [pc, List.getD, List.getElem?_eq_getElem h1, List.getElem?_eq_getElem h2] using this
/-- Cells that are those of parcels, told one by one. -/
theorem pcs_of {P : List Pc} {xs : List Value} (hl : xs.length = P.length * 3) (h : ∀ j, j < P.length → xs[j * 3]? = some (.int .i64 (pc P j).1) ∧ xs[j * 3 + 1]? = some (.string (pc P j).2.1) ∧ xs[j * 3 + 2]? = some (.string (pc P j).2.2)) : xs = pcs P := by
  apply List.ext_getElem?
  intro i
  by_cases hi : i < P.length * 3
  · obtain ⟨h0, h1, h2⟩ := h (i / 3) (by omega)
    have hr : i % 3 = 0 ∨ i % 3 = 1 ∨ i % 3 = 2 := by omega
    have hg := pcs_get P (i / 3) (i % 3) (by omega) (by omega)
    rw [show i / 3 * 3 + i % 3 = i by omega] at hg
    rw [hg]
    rcases hr with e | e | e
    · rw [show i / 3 * 3 = i by omega] at h0; rw [h0, e]; rfl
    · rw [show i / 3 * 3 + 1 = i by omega] at h1; rw [h1, e]; rfl
    · rw [show i / 3 * 3 + 2 = i by omega] at h2; rw [h2, e]; rfl
  · rw [List.getElem?_eq_none (by omega), List.getElem?_eq_none (by rw [pcs_length]; omega)]

/-- A list of parcels in memory. -/
structure PcAt (w : World) (a : Option Addr) (b o n : Nat) (P : List Pc) : Prop where
  ad : 0 < n → a = some ⟨b, o, none⟩
  len : P.length = n
  max : n ≤ maxLen
  lt : 0 < n → b < w.heap.size
  c0 : ∀ j, j < n → w.cell? ⟨b, o + j * 3, none⟩ = some (.int .i64 (pc P j).1)
  c1 : ∀ j, j < n → w.cell? ⟨b, o + j * 3 + 1, none⟩ = some (.string (pc P j).2.1)
  c2 : ∀ j, j < n → w.cell? ⟨b, o + j * 3 + 2, none⟩ = some (.string (pc P j).2.2)
  rng : ∀ j, j < n → I64 (pc P j).1 ∧ (pc P j).2.1.size ≤ maxLen ∧ (pc P j).2.2.size ≤ maxLen
theorem PcAt.block {w w' : World} {a : Option Addr} {b o n : Nat} {P : List Pc} (h : PcAt w a b o n P) (hs : w.heap.size ≤ w'.heap.size) (hb : 0 < n → w'.heap[b]? = w.heap[b]?) : PcAt w' a b o n P :=
  ⟨h.ad, h.len, h.max, fun hn => Nat.lt_of_lt_of_le (h.lt hn) hs, fun j hj => (World.cell?_of_block (w := w) (hb (by omega))).trans (h.c0 j hj), fun j hj => (World.cell?_of_block (w := w) (hb (by omega))).trans (h.c1 j hj), fun j hj => (World.cell?_of_block (w := w) (hb (by omega))).trans (h.c2 j hj), h.rng⟩
theorem PcAt.below {w w' : World} {a : Option Addr} {b o n C : Nat} {P : List Pc} (h : PcAt w a b o n P) (hb : Below C w w') (hC : 0 < n → b < C) : PcAt w' a b o n P :=
  h.block hb.size fun hn => hb.block b (hC hn)
theorem PcAt.below' {w w' : World} {a : Option Addr} {b o n : Nat} {P : List Pc} (h : PcAt w a b o n P) (hb : Below w.heap.size w w') : PcAt w' a b o n P := h.below hb h.lt
theorem PcAt.grown {w w' : World} {a : Option Addr} {b o n : Nat} {P : List Pc} {r : Option Nat} (h : PcAt w a b o n P) (hg : w.grownBy w' r) (hr : 0 < n → some b ≠ r) : PcAt w' a b o n P :=
  h.block hg.size fun hn => hg.block b (h.lt hn) (hr hn)
def PcOk (P : List Pc) : Prop := ∀ j, j < P.length → I64 (pc P j).1 ∧ (pc P j).2.1.size ≤ maxLen ∧ (pc P j).2.2.size ≤ maxLen
theorem PcAt.ok {w : World} {a : Option Addr} {b o n : Nat} {P : List Pc} (h : PcAt w a b o n P) : PcOk P := fun j hj => h.rng j (by rw [← h.len]; exact hj)
theorem PcAt.ofOwn {B : Nat} {w : World} {g o cap n : Nat} {P : List Pc} (h : OwnC B w 3 g o cap n (pcs P)) (hk : PcOk P) : PcAt w (some ⟨g, o, none⟩) g o n P := by
  have hl : P.length = n := by have := h.len; rw [pcs_length] at this; omega
  refine ⟨fun _ => rfl, hl, Nat.le_trans h.le h.max, fun _ => h.hi, fun j hj => ?_, fun j hj => ?_, fun j hj => ?_, fun j hj => hk j (by omega)⟩
  · have := h.holds (j * 3 + 0) (by omega); rw [pcs_get P j 0 (by omega) (by omega)] at this; exact this
  · have := h.holds (j * 3 + 1) (by omega); rw [pcs_get P j 1 (by omega) (by omega)] at this; rw [Nat.add_assoc]; exact this
  · have := h.holds (j * 3 + 2) (by omega); rw [pcs_get P j 2 (by omega) (by omega)] at this; rw [Nat.add_assoc]; exact this
/-- .. of whatever row, nil too. -/
theorem Own.pcAt {B : Nat} {w : World} {a : Option Addr} {n c : Nat} {P : List Pc} (h : Own B w 3 (.slice a n c) n (pcs P)) (hk : PcOk P) : ∃ b o, PcAt w a b o n P ∧ (0 < n → B ≤ b) := by
  rcases h with ⟨hv, rfl, hx⟩ | ⟨g, o, cap, hv, hc⟩
  · injection hv with h1 _ _
    have : P = [] := List.eq_nil_of_length_eq_zero (by have := congrArg List.length hx; rw [pcs_length, List.length_nil] at this; omega)
    subst this
    exact ⟨0, 0, ⟨fun h => absurd h (by omega), rfl, Nat.zero_le _, fun h => absurd h (by omega), fun j hj => absurd hj (by omega), fun j hj => absurd hj (by omega), fun j hj => absurd hj (by omega), fun j hj => absurd hj (by omega)⟩, fun h => absurd h (by omega)⟩
  · injection hv with h1 _ _
    subst h1
    exact ⟨g, o, PcAt.ofOwn hc hk, fun _ => hc.lo⟩
theorem PcAt.cells {w : World} {a : Option Addr} {b o n : Nat} {P : List Pc} (h : PcAt w a b o n P) : ∀ j u, (pcs P)[j]? = some u → w.cell? ⟨b, o + j, none⟩ = some u := by
  intro j u hu
  have hj : j < n * 3 := by have := (List.getElem?_eq_some_iff.1 hu).1; rw [pcs_length, h.len] at this; exact this
  have hg := pcs_get P (j / 3) (j % 3) (by rw [h.len]; omega) (by omega)
  rw [show j / 3 * 3 + j % 3 = j by omega, hu] at hg
  have hr : j % 3 = 0 ∨ j % 3 = 1 ∨ j % 3 = 2 := by omega
  rcases hr with e | e | e
  · have := h.c0 (j / 3) (by omega); rw [show o + j / 3 * 3 = o + j by omega] at this; rw [this, hg, e]; rfl
  · have := h.c1 (j / 3) (by omega); rw [show o + j / 3 * 3 + 1 = o + j by omega] at this; rw [this, hg, e]; rfl
  · have := h.c2 (j / 3) (by omega); rw [show o + j / 3 * 3 + 2 = o + j by omega] at this; rw [this, hg, e]; rfl
/-- What a piece of it yields to an append. -/
theorem PcAt.srcFrom {w : World} {a : Option Addr} {b o n : Nat} {P : List Pc} (h : PcAt w a b o n P) (tx e' : TypeId) (hk : Tryz.prog.underlying tx = some (.slice e')) (k m c : Nat) (hkm : k + m ≤ n) : Src Tryz.prog 3 tx (.slice (some ⟨b, o + k * 3, none⟩) m c) m (pcs ((P.drop k).take m)) w := by
  refine Src.ofSlice w hk ⟨b, o + k * 3, none⟩ m c _ (by rw [pcs_length, List.length_take, List.length_drop, h.len]; omega) (fun j u hu => ?_) (pcs_one _)
  rw [Addr.add_lit]
  have hj : j < m * 3 := by have := (List.getElem?_eq_some_iff.1 hu).1; rw [pcs_length, List.length_take, List.length_drop, h.len] at this; omega
  rw [← pcs_take, ← pcs_drop, List.getElem?_take, if_pos hj, List.getElem?_drop] at hu
  rw [Nat.add_assoc]
  exact h.cells _ _ hu
theorem PcAt.src {w : World} {a : Option Addr} {b o n : Nat} {P : List Pc} (h : PcAt w a b o n P) (tx e' : TypeId) (hk : Tryz.prog.underlying tx = some (.slice e')) (c : Nat) : Src Tryz.prog 3 tx (.slice a n c) n (pcs P) w := by
  cases a with
  | none =>
    have h0 : n = 0 := Nat.eq_zero_of_not_pos fun hh => by have := h.ad hh; cases this
    subst h0
    have : P = [] := List.eq_nil_of_length_eq_zero h.len
    subst this
    exact Src.ofNil w hk c
  | some y =>
    by_cases hn : 0 < n
    · have hy := h.ad hn
      injection hy with hy
      subst hy
      have := h.srcFrom tx e' hk 0 n c (by omega)
      rw [List.drop_zero, List.take_of_length_le (by rw [h.len]; omega)] at this
      simpa using this
    · obtain rfl : n = 0 := by omega
      have : P = [] := List.eq_nil_of_length_eq_zero h.len
      subst this
      exact Src.ofSlice w hk y 0 c [] rfl (fun j u hu => by simp at hu) (by simp)

theorem Tryz.infoPc : (Tryz.prog.info? 74).map (fun i => (i.zero, i.size, i.bytes)) = some (some (.agg #[.int .i64 0, .string ⟨#[]⟩, .string ⟨#[]⟩]), 3, 40) := by kernel_rfl

/-! ### sizes -/
set_option maxHeartbeats 400000 in
theorem szParcel_any (t : Int) (s u : ByteArray) (left : Int) (w : World) (hl0 : 0 ≤ left) (hl1 : left ≤ 1048576) (hs : s.size ≤ maxLen) (hu : u.size ≤ maxLen) :
    Calls Tryz.prog 78 #[.agg #[.int .i64 t, .string s, .string u], .int .i64 left] w fun e w' => (∃ r, e = .returned (.int .i64 r) ∧ (r = -1 ∨ 0 ≤ r ∧ r ≤ left ∧ s.size ≤ 1048576 ∧ u.size ≤ 1048576)) ∧ Below w.heap.size w w' := by
  unfold maxLen at hs hu
  by_cases h1 : left - s.size < 0
  · go_enter Tryz.func78, Tryz.ntmps78
    go_wp2
    go_ret
    exact ⟨⟨_, rfl, .inl rfl⟩, (Below.refl _ _).alloc (Nat.le_refl _) _⟩
  · by_cases h2 : left - s.size - u.size < 0
    · go_enter Tryz.func78, Tryz.ntmps78
      go_wp2
      go_ret
      exact ⟨⟨_, rfl, .inl rfl⟩, (Below.refl _ _).alloc (Nat.le_refl _) _⟩
    · go_enter Tryz.func78, Tryz.ntmps78
      go_wp2
      go_ret
      exact ⟨⟨_, rfl, .inr ⟨by omega, by omega, by omega, by omega⟩⟩, (Below.refl _ _).alloc (Nat.le_refl _) _⟩

set_option maxHeartbeats 400000 in
theorem szParcelS_any (a : Option Addr) (b o n c : Nat) (P : List Pc) (left : Int) (w : World) (hl0 : 0 ≤ left) (hl1 : left ≤ 1048576) (h : PcAt w a b o n P) :
    Calls Tryz.prog 28 #[.slice a n c, .int .i64 left] w fun e w' => (∃ r, e = .returned (.int .i64 r) ∧ (r = -1 ∨ 0 ≤ r ∧ r ≤ left ∧ n ≤ 1048576)) ∧ Below w.heap.size w w' := by
  have hmax := h.max
  unfold maxLen at hmax
  by_cases h1 : left - n < 0
  · go_enter Tryz.func28, Tryz.ntmps28
    go_wp2
    go_ret
    exact ⟨⟨_, rfl, .inl rfl⟩, Below.refl _ _⟩
  · go_enter Tryz.func28, Tryz.ntmps28
    go_wp2
    go_loopw [1, 5] (fun l i wr => ∃ k : Nat, k ≤ n ∧ i = .int .i64 k ∧ (∃ r : Int, l = .int .i64 r ∧ 0 ≤ r ∧ r ≤ left) ∧ Below w.heap.size w wr) (fun _ i _ => n - (intOf i).toNat)
    case atStart => exact ⟨0, Nat.zero_le _, rfl, ⟨_, rfl, by omega, by omega⟩, Below.refl _ _⟩
    case round =>
      obtain ⟨k, hk, rfl, ⟨r, rfl, hr0, hr⟩, hb⟩ := hrel
      have hr1 : r ≤ 1048576 := by omega
      by_cases hlt : k < n
      · obtain rfl := h.ad (by omega)
        have hc0 := (h.below' hb).c0 k hlt
        have hc1 := (h.below' hb).c1 k hlt
        have hc2 := (h.below' hb).c2 k hlt
        obtain ⟨_, g1, g2⟩ := h.rng k hlt
        obtain ⟨⟨x0, x1, x2⟩, hx⟩ : ∃ x, x = pc P k := ⟨_, rfl⟩
        rw [← hx] at hc0 hc1 hc2 g1 g2
        dsimp only at hc0 hc1 hc2 g1 g2
        clear hx
        have hlt' : (k : Int) < (n : Int) := by omega
        go_wp2_with fail
        refine (szParcel_any x0 x1 x2 r _ hr0 hr1 g1 g2).mono ?_
        rintro e w1 ⟨⟨r1, rfl, hr'⟩, hb1⟩
        have hb' := hb.trans (hb1.mono hb.size)
        clear g1 g2
        rcases hr' with rfl | ⟨hr', hr0'⟩
        · go_wp2
          go_ret
          exact ⟨⟨_, rfl, .inl rfl⟩, hb'⟩
        · have hr2 : r1 ≤ left := by omega
          clear hr0' hr
          go_wp2
          go_roundw
          case rel => exact ⟨k + 1, by omega, by go_num, ⟨r1, rfl, hr', hr2⟩, hb'⟩
          case measure => simp [intOf]; omega
      · go_wp2
        go_ret
        exact ⟨⟨r, rfl, .inr ⟨hr0, hr, by omega⟩⟩, hb⟩

/-! ### copies -/
set_option maxHeartbeats 400000 in
set_option maxRecDepth 100000 in
theorem toParcel_any (x0 : Int) (x1 x2 : ByteArray) (w : World) :
    Calls Tryz.prog 84 #[.agg #[.int .i64 x0, .string x1, .string x2]] w fun e w' => e = .returned (.agg #[.int .i64 x0, .string x1, .string x2]) ∧ Below w.heap.size w w' := by
  go_enter Tryz.func84, Tryz.ntmps84
  go_wp2
  refine bodyPost_ret (v := .agg #[.int .i64 x0, .string x1, .string x2]) (by simp [results, Tryz.results84, go_sem]) rfl ⟨rfl, ?_⟩
  repeat (first | exact Below.refl _ _ | refine Below.setCell ?_ (by first | exact Nat.le_refl _ | (dsimp only; omega) | (simp; done) | (simp; omega)) _ | refine Below.alloc ?_ (by first | (simp; done) | (simp; omega)) _)

set_option maxHeartbeats 1000000 in
set_option maxRecDepth 100000 in
theorem toParcelS_any (a : Option Addr) (b o n c : Nat) (P : List Pc) (w : World) (h : PcAt w a b o n P) (hn : n ≤ 1048576) :
    Calls Tryz.prog 34 #[.slice a n c] w fun e w' => ∃ g, e = .returned (.slice (some ⟨g, 0, none⟩) n n) ∧ OwnC w.heap.size w' 3 g 0 n n (pcs P) ∧ Below w.heap.size w w' := by
  obtain ⟨i0, hi, hz0, hz1, hz2⟩ := info_parts Tryz.infoPc
  go_enter Tryz.func34, Tryz.ntmps34
  go_wp2_with (refine wpList_make_c _ rfl _ _ 49 rfl w.heap.size 74 i0 (.agg #[.int .i64 0, .string ⟨#[]⟩, .string ⟨#[]⟩]) 3 40 Tryz.underlying49 hi hz0 hz1 hz2 .i64 .i64 n n n rfl rfl rfl rfl (by omega) (by unfold maxLen; omega) (Nat.le_refl _) ?_; intro w1 hown hgr)
  go_loopw [4] (fun i wr => ∃ k : Nat, k ≤ n ∧ i = .int .i64 k ∧ (∃ xs, OwnC w.heap.size wr 3 w.heap.size 0 n n xs ∧ ∀ j, j < k → xs[j * 3]? = some (.int .i64 (pc P j).1) ∧ xs[j * 3 + 1]? = some (.string (pc P j).2.1) ∧ xs[j * 3 + 2]? = some (.string (pc P j).2.2)) ∧ Below w.heap.size w wr) (fun i _ => n - (intOf i).toNat)
  case atStart => exact ⟨0, Nat.zero_le _, rfl, ⟨_, hown, fun j hj => absurd hj (by omega)⟩, (Below.refl _ _).grown hgr (Nat.le_refl _) (by simp)⟩
  case round =>
    obtain ⟨k, hk, rfl, ⟨xs, ho, hbu⟩, hb⟩ := hrel
    by_cases hlt : k < n
    · obtain rfl := h.ad (by omega)
      have hc0 := (h.below' hb).c0 k hlt
      have hc1 := (h.below' hb).c1 k hlt
      have hc2 := (h.below' hb).c2 k hlt
      obtain ⟨⟨x0, x1, x2⟩, hx⟩ : ∃ x, x = pc P k := ⟨_, rfl⟩
      rw [← hx] at hc0 hc1 hc2
      dsimp only at hc0 hc1 hc2
      have HX := hid hx
      clear hx
      have hlt' : (k : Int) < (n : Int) := by omega
      go_wp2_with fail
      refine (toParcel_any x0 x1 x2 _).mono ?_
      rintro e w2 ⟨rfl, hb2⟩
      have ho2 := ho.below hb2 ho.hi
      have hhi := ho.hi
      have hb' := hb.trans (hb2.mono hb.size)
      obtain ⟨u0, _, hq0⟩ := ho2.cellSome (j := k * 3) (by omega)
      obtain ⟨u1, _, hq1⟩ := ho2.cellSome (j := k * 3 + 1) (by omega)
      obtain ⟨u2, _, hq2⟩ := ho2.cellSome (j := k * 3 + 2) (by omega)
      have hf0 := ho2.notFrozen (j := k * 3) (by omega)
      have hf1 := ho2.notFrozen (j := k * 3 + 1) (by omega)
      have hf2 := ho2.notFrozen (j := k * 3 + 2) (by omega)
      have hlen : k * 3 + 2 < xs.length := by rw [ho2.len]; omega
      have ho' := (((ho2.setCell (j := k * 3) (by omega) (.int .i64 x0)).setCell (j := k * 3 + 1) (by omega) (.string x1)).setCell (j := k * 3 + 2) (by omega) (.string x2))
      have hb3 := (((hb'.setCell (p := ⟨w.heap.size, k * 3, none⟩) (Nat.le_refl _) (.int .i64 x0)).setCell (p := ⟨w.heap.size, k * 3 + 1, none⟩) (Nat.le_refl _) (.string x1)).setCell (p := ⟨w.heap.size, k * 3 + 2, none⟩) (Nat.le_refl _) (.string x2))
      simp only [Nat.zero_add] at hq0 hq1 hq2 hf0 hf1 hf2 ho'
      have HBU := hid hbu
      have HLEN := hid hlen
      clear ho2 ho hb2 hb' hbu hlen
      go_wp2
      go_roundw
      case rel =>
        refine ⟨k + 1, by omega, by go_num, ⟨_, ho', fun j hj => ?_⟩, hb3⟩
        have hl := HLEN.out
        by_cases e : j = k
        · subst e
          rw [← HX.out]
          exact ⟨by simp [List.getElem?_set]; omega, by simp [List.getElem?_set]; omega, by simp [List.getElem?_set]; omega⟩
        · obtain ⟨g0, g1, g2⟩ := HBU.out j (by omega)
          exact ⟨by rw [List.getElem?_set_ne (by omega), List.getElem?_set_ne (by omega), List.getElem?_set_ne (by omega)]; exact g0, by rw [List.getElem?_set_ne (by omega), List.getElem?_set_ne (by omega), List.getElem?_set_ne (by omega)]; exact g1, by rw [List.getElem?_set_ne (by omega), List.getElem?_set_ne (by omega), List.getElem?_set_ne (by omega)]; exact g2⟩
      case measure => simp [intOf]; omega
    · obtain rfl : k = n := by omega
      obtain rfl : xs = pcs P := pcs_of (by rw [ho.len, h.len]) (fun j hj => hbu j (by rw [← h.len]; exact hj))
      go_wp2
      go_ret
      exact ⟨_, rfl, ho, hb⟩

/-! ### equality -/
set_option maxHeartbeats 400000 in
set_option maxRecDepth 100000 in
theorem eqParcel_any (x0 : Int) (x1 x2 : ByteArray) (w : World) :
    Calls Tryz.prog 93 #[.agg #[.int .i64 x0, .string x1, .string x2], .agg #[.int .i64 x0, .string x1, .string x2]] w fun e w' => e = .returned (.bool true) ∧ Below w.heap.size w w' := by
  go_enter Tryz.func93, Tryz.ntmps93
  go_wp2
  go_ret
  exact ⟨rfl, ((Below.refl _ _).alloc (Nat.le_refl _) _).alloc (by simp) _⟩

set_option maxHeartbeats 1000000 in
theorem eqParcelS_any (a a' : Option Addr) (b o n c b' o' c' : Nat) (P : List Pc) (w : World) (h : PcAt w a b o n P) (h' : PcAt w a' b' o' n P) :
    Calls Tryz.prog 39 #[.slice a n c, .slice a' n c'] w fun e w' => e = .returned (.bool true) ∧ Below w.heap.size w w' := by
  have hmax := h.max
  unfold maxLen at hmax
  go_enter Tryz.func39, Tryz.ntmps39
  go_wp2
  go_loopw [5] (fun i wr => ∃ k : Nat, k ≤ n ∧ i = .int .i64 k ∧ Below w.heap.size w wr) (fun i _ => n - (intOf i).toNat)
  case atStart => exact ⟨0, Nat.zero_le _, rfl, Below.refl _ _⟩
  case round =>
    obtain ⟨k, hk, rfl, hb⟩ := hrel
    by_cases hlt : k < n
    · obtain rfl := h.ad (by omega)
      obtain rfl := h'.ad (by omega)
      have hc0 := (h.below' hb).c0 k hlt
      have hd0 := (h'.below' hb).c0 k hlt
      have hc1 := (h.below' hb).c1 k hlt
      have hd1 := (h'.below' hb).c1 k hlt
      have hc2 := (h.below' hb).c2 k hlt
      have hd2 := (h'.below' hb).c2 k hlt
      obtain ⟨⟨x0, x1, x2⟩, hx⟩ : ∃ x, x = pc P k := ⟨_, rfl⟩
      rw [← hx] at hc0 hd0 hc1 hd1 hc2 hd2
      dsimp only at hc0 hd0 hc1 hd1 hc2 hd2
      clear hx
      have hlt' : (k : Int) < (n : Int) := by omega
      have hbb : Below w.heap.size w wr.drew := hb.drew
      go_wp2
      go_region_held3 (fun w' => w'.cell? ⟨b, o + k * 3, none⟩ = some (.int .i64 x0) ∧ w'.cell? ⟨b, o + k * 3 + 1, none⟩ = some (.string x1) ∧ w'.cell? ⟨b, o + k * 3 + 2, none⟩ = some (.string x2) ∧ w'.cell? ⟨b', o' + k * 3, none⟩ = some (.int .i64 x0) ∧ w'.cell? ⟨b', o' + k * 3 + 1, none⟩ = some (.string x1) ∧ w'.cell? ⟨b', o' + k * 3 + 2, none⟩ = some (.string x2)) (first | (simp [go_sem, *]; done) | assumption)
        (first
          | (go_at_call 93; refine (eqParcel_any x0 x1 x2 _).mono ?_; rintro e w1 ⟨rfl, hb1⟩; have q0 := keepC hb1 hc0; have r0 := keepC hb1 hd0; have q1 := keepC hb1 hc1; have r1 := keepC hb1 hd1; have q2 := keepC hb1 hc2; have r2 := keepC hb1 hd2))
      go_wp2
      go_roundw
      case rel => exact ⟨k + 1, by omega, by go_num, hbb.trans (hb1.mono hbb.size)⟩
      case measure => simp [intOf]; omega
    · go_wp2
      go_ret
      exact ⟨rfl, hb⟩

/-! ### marks -/
def mkP (k n : Nat) : List Pc := (List.range n).map fun i => (((k + i * 3 : Nat) : Int), mtx (k + i * 3 + 1), mtx (k + i * 3 + 2))
theorem mkP_length (k n : Nat) : (mkP k n).length = n := by simp [mkP]
theorem mkP_get (k : Nat) {i n : Nat} (h : i < n) : pc (mkP k n) i = (((k + i * 3 : Nat) : Int), mtx (k + i * 3 + 1), mtx (k + i * 3 + 2)) := by
  simp [pc, mkP, List.getD, h]
theorem mtx_size (k : Nat) : (mtx k).size ≤ k + 1 := by
  have hl := lp_length k k []
  show (109 :: lp k k []).toArray.size ≤ _
  simp only [List.size_toArray, List.length_cons]
  simp at hl
  omega
theorem mkP_ok (k n : Nat) (hk : k ≤ 2199023255552) (hn : n ≤ 1048576) : PcOk (mkP k n) := fun j hj => by
  rw [mkP_length] at hj
  rw [mkP_get k hj]
  have h1 := mtx_size (k + j * 3 + 1)
  have h2 := mtx_size (k + j * 3 + 2)
  exact ⟨⟨by omega, by omega⟩, by unfold maxLen; dsimp only; omega, by unfold maxLen; dsimp only; omega⟩

end Go.Proofs.YthopfmhagddhgaaGreat

namespace Go.Proofs.YthopfmhagddhgaaGreat
open Go.RowKit

def WkD.ok (d : WkD) : Prop := vW d.nu d.ep d.up d.st d.le d.ta d.co d.lf d.ss d.x.size d.si
/-- The first k workers are valid, each at its place. -/
def crewK (Ws : List WkD) (k : Nat) : Prop := ∀ j, j < k → (gWr Ws j).ok ∧ (gWr Ws j).nu = (j : Int) + 1
def flK (P : List Pc) (k : Nat) : Prop := ∀ j, j < k → (0 ≤ (pc P j).1 ∧ (pc P j).1 ≤ 8) ∧ (pc P j).2.1.size ≤ 500 ∧ (pc P j).2.2.size ≤ 500
theorem crewK.succ {Ws : List WkD} {k : Nat} (h : crewK Ws k) (h1 : (gWr Ws k).ok ∧ (gWr Ws k).nu = (k : Int) + 1) : crewK Ws (k + 1) := fun j hj => by
  by_cases e : j = k
  · subst e; exact h1
  · exact h j (by omega)
theorem flK.succ {P : List Pc} {k : Nat} (h : flK P k) (h1 : (0 ≤ (pc P k).1 ∧ (pc P k).1 ≤ 8) ∧ (pc P k).2.1.size ≤ 500 ∧ (pc P k).2.2.size ≤ 500) : flK P (k + 1) := fun j hj => by
  by_cases e : j = k
  · subst e; exact h1
  · exact h j (by omega)

set_option maxHeartbeats 2000000 in
set_option maxRecDepth 100000 in
theorem crewHolds_any (a : Option Addr) (b o n c : Nat) (Ws : List WkD) (w : World) (h : WrAt w a b o n Ws) (hn : n ≤ 1048576) :
    Calls Tryz.prog 36 #[.slice a n c] w fun e w' => RetB e (crewK Ws n) ∧ Below w.heap.size w w' := by
  go_enter Tryz.func36, Tryz.ntmps36
  go_wp2
  go_loopw [7] (fun i wr => ∃ k : Nat, k ≤ n ∧ i = .int .i64 k ∧ crewK Ws k ∧ Below w.heap.size w wr) (fun i _ => n - (intOf i).toNat)
  case atStart => exact ⟨0, Nat.zero_le _, rfl, fun j hj => absurd hj (by omega), Below.refl _ _⟩
  case round =>
    obtain ⟨k, hk, rfl, hok, hb⟩ := hrel
    by_cases hlt : k < n
    · obtain rfl := h.ad (by omega)
      have hc0 := (h.below' hb).c0 k hlt
      have hc1 := (h.below' hb).c1 k hlt
      have hc2 := (h.below' hb).c2 k hlt
      have hc3 := (h.below' hb).c3 k hlt
      have hc4 := (h.below' hb).c4 k hlt
      have hc5 := (h.below' hb).c5 k hlt
      have hc6 := (h.below' hb).c6 k hlt
      have hc7 := (h.below' hb).c7 k hlt
      have hc9 := (h.below' hb).c9 k hlt
      have hc10 := (h.below' hb).c10 k hlt
      obtain ⟨a3, b3, o3, c3, hc8, hst⟩ := (h.below' hb).cn k hlt
      obtain ⟨⟨nu, ep, up, st, le, ta, co, lf, ss, x, si⟩, hx⟩ : ∃ x, x = gWr Ws k := ⟨_, rfl⟩
      rw [← hx] at hc0 hc1 hc2 hc3 hc4 hc5 hc6 hc7 hc8 hc9 hc10 hst
      dsimp only at hc0 hc1 hc2 hc3 hc4 hc5 hc6 hc7 hc8 hc9 hc10 hst
      have hlt' : (k : Int) < (n : Int) := by omega
      have HX := hid hx
      have HOK := hid hok
      clear hx hok
      obtain ⟨W, hW⟩ : ∃ W, W = wr.alloc (.cells #[.int .i64 nu, .int .i64 ep, .bool up, .int .i64 st, .int .i64 le, .int .i64 ta, .int .i64 co, .int .i64 lf, .slice a3 ss.length c3, .string x, .int .i64 si] 72) := ⟨_, rfl⟩
      have hbW : Below wr.heap.size wr W := by rw [hW]; exact (Below.refl _ _).alloc (Nat.le_refl _) _
      have hcf : CF W wr.heap.size [.int .i64 nu, .int .i64 ep, .bool up, .int .i64 st, .int .i64 le, .int .i64 ta, .int .i64 co, .int .i64 lf, .slice a3 ss.length c3, .string x, .int .i64 si] := by rw [hW]; exact CF.made wr _ _
      have q0 : W.cell? ⟨wr.heap.size, 0, none⟩ = some (.int .i64 nu) := (hcf 0 (by simp)).1
      have q1 : W.cell? ⟨wr.heap.size, 1, none⟩ = some (.int .i64 ep) := (hcf 1 (by simp)).1
      have q2 : W.cell? ⟨wr.heap.size, 2, none⟩ = some (.bool up) := (hcf 2 (by simp)).1
      have q3 : W.cell? ⟨wr.heap.size, 3, none⟩ = some (.int .i64 st) := (hcf 3 (by simp)).1
      have q4 : W.cell? ⟨wr.heap.size, 4, none⟩ = some (.int .i64 le) := (hcf 4 (by simp)).1
      have q5 : W.cell? ⟨wr.heap.size, 5, none⟩ = some (.int .i64 ta) := (hcf 5 (by simp)).1
      have q6 : W.cell? ⟨wr.heap.size, 6, none⟩ = some (.int .i64 co) := (hcf 6 (by simp)).1
      have q7 : W.cell? ⟨wr.heap.size, 7, none⟩ = some (.int .i64 lf) := (hcf 7 (by simp)).1
      have q8 : W.cell? ⟨wr.heap.size, 8, none⟩ = some (.slice a3 ss.length c3) := (hcf 8 (by simp)).1
      have q9 : W.cell? ⟨wr.heap.size, 9, none⟩ = some (.string x) := (hcf 9 (by simp)).1
      have q10 : W.cell? ⟨wr.heap.size, 10, none⟩ = some (.int .i64 si) := (hcf 10 (by simp)).1
      have hb2 := hb.trans (hbW.mono hb.size)
      have HV := hid (iVal_any nu ep up st le ta co lf a3 b3 o3 ss.length c3 ss x si W (hst.below' hbW))
      clear hst
      go_upto_region 4 with fail
      rw [← hW]
      clear hW hcf hc0 hc1 hc2 hc3 hc4 hc5 hc6 hc7 hc8 hc9 hc10 hbW
      go_wp2_with fail
      refine HV.out.mono ?_
      rintro e' w3 ⟨⟨rv, rfl, hrv⟩, hb3⟩
      have hb4 := hb2.trans (hb3.mono hb2.size)
      have k0 := keepB hb3 q0
      clear hb3 q0 q1 q2 q3 q4 q5 q6 q7 q8 q9 q10 HV
      cases rv with
      | false =>
        have HN := hid (show ¬ crewK Ws n from fun hh => by have := (hh k hlt).1; rw [← HX.out] at this; exact absurd (hrv.2 this) (by simp))
        clear hrv
        go_wp2
        go_ret
        exact ⟨RetB.f HN.out, hb4⟩
      | true =>
        have HR := hid (hrv.1 rfl)
        clear hrv
        by_cases hnu : nu = (k : Int) + 1
        · have HQ := hid (HOK.out.succ (by rw [← HX.out]; exact ⟨HR.out, hnu⟩))
          subst hnu
          go_wp2
          go_roundw
          case rel => exact ⟨k + 1, by omega, by go_num, HQ.out, hb4⟩
          case measure => simp [intOf]; omega
        · have HN := hid (show ¬ crewK Ws n from fun hh => by have := (hh k hlt).2; rw [← HX.out] at this; exact hnu this)
          have hnu' : (nu == (k : Int) + 1) = false := by simpa using hnu
          go_wp2
          go_ret
          exact ⟨RetB.f HN.out, hb4⟩
    · obtain rfl : k = n := by omega
      have HOK := hid hok
      clear hok
      go_wp2
      go_ret
      exact ⟨RetB.t HOK.out, hb⟩

set_option maxHeartbeats 2000000 in
set_option maxRecDepth 100000 in
theorem flightHolds_any (a : Option Addr) (b o n c : Nat) (P : List Pc) (w : World) (h : PcAt w a b o n P) (hn : n ≤ 1048576) :
    Calls Tryz.prog 37 #[.slice a n c] w fun e w' => RetB e (n ≤ 2000 ∧ flK P n) ∧ Below w.heap.size w w' := by
  have hn' : (n : Int) ≤ 1048576 := by omega
  by_cases h2 : n ≤ 2000
  · have h2' : ¬ (2000 : Int) < (n : Int) := by omega
    have HG := hid (show flK P n → n ≤ 2000 ∧ flK P n from fun hh => ⟨h2, hh⟩)
    go_enter Tryz.func37, Tryz.ntmps37
    go_wp2
    go_loopw [10] (fun i wr => ∃ k : Nat, k ≤ n ∧ i = .int .i64 k ∧ flK P k ∧ Below w.heap.size w wr) (fun i _ => n - (intOf i).toNat)
    case atStart => exact ⟨0, Nat.zero_le _, rfl, fun j hj => absurd hj (by omega), Below.refl _ _⟩
    case round =>
      obtain ⟨k, hk, rfl, hok, hb⟩ := hrel
      by_cases hlt : k < n
      · obtain rfl := h.ad (by omega)
        have hc0 := (h.below' hb).c0 k hlt
        have hc1 := (h.below' hb).c1 k hlt
        have hc2 := (h.below' hb).c2 k hlt
        obtain ⟨_, g1, g2⟩ := h.rng k hlt
        obtain ⟨⟨x0, x1, x2⟩, hx⟩ : ∃ x, x = pc P k := ⟨_, rfl⟩
        rw [← hx] at hc0 hc1 hc2 g1 g2
        dsimp only at hc0 hc1 hc2 g1 g2
        unfold maxLen at g1 g2
        have HX := hid hx
        have HOK := hid hok
        clear hx hok
        have hlt' : (k : Int) < (n : Int) := by omega
        have hb' : Below w.heap.size w (wr.alloc (.cells #[.int .i64 x0, .string x1, .string x2] 74)) := hb.alloc hb.size _
        go_wp2_with fail
        refine (within_any _ _ _ _).mono ?_
        rintro e w1 ⟨rfl, hw1⟩
        rw [hw1]
        clear hw1
        cases hE : inB x0 0 8 with
        | false =>
          have HN := hid (show ¬ (n ≤ 2000 ∧ flK P n) from fun hh => inB_f hE (by have := (hh.2 k hlt).1; rw [← HX.out] at this; exact this))
          clear HX HOK
          go_wp2
          go_ret
          exact ⟨RetB.f HN.out, hb'⟩
        | true =>
          have HI := hid (inB_t hE)
          by_cases h5 : x1.size ≤ 500
          · have h5' : ¬ (500 : Int) < (x1.size : Int) := by omega
            by_cases h6 : x2.size ≤ 500
            · have h6' : ¬ (500 : Int) < (x2.size : Int) := by omega
              have HQ := hid (HOK.out.succ (by rw [← HX.out]; exact ⟨HI.out, h5, h6⟩))
              clear HX HOK HI hE
              go_wp2
              go_roundw
              case rel => exact ⟨k + 1, by omega, by go_num, HQ.out, hb'⟩
              case measure => simp [intOf]; omega
            · have h6' : (500 : Int) < (x2.size : Int) := by omega
              have HN := hid (show ¬ (n ≤ 2000 ∧ flK P n) from fun hh => h6 (by have := (hh.2 k hlt).2.2; rw [← HX.out] at this; exact this))
              clear HX HOK HI hE
              go_wp2
              go_ret
              exact ⟨RetB.f HN.out, hb'⟩
          · have h5' : (500 : Int) < (x1.size : Int) := by omega
            have HN := hid (show ¬ (n ≤ 2000 ∧ flK P n) from fun hh => h5 (by have := (hh.2 k hlt).2.1; rw [← HX.out] at this; exact this))
            clear HX HOK HI hE
            go_wp2
            go_ret
            exact ⟨RetB.f HN.out, hb'⟩
      · obtain rfl : k = n := by omega
        have HQ := hid (HG.out hok)
        clear hok HG
        go_wp2
        go_ret
        exact ⟨RetB.t HQ.out, hb⟩
  · have h2' : (2000 : Int) < (n : Int) := by omega
    have HN := hid (show ¬ (n ≤ 2000 ∧ flK P n) from fun hh => h2 hh.1)
    go_enter Tryz.func37, Tryz.ntmps37
    go_wp2
    go_ret
    exact ⟨RetB.f HN.out, Below.refl _ _⟩
end Go.Proofs.YthopfmhagddhgaaGreat
