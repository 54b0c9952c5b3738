
/-
  Parcels in memory; laws.szParcel(S), toParcel(S), eqParcel(S), markParcelS, heldParcelS.
-/
import Derived.Test.YtlgmkmegkojgbaaDoorMark
import Derived.Test.YtlgmkmegkojgbaaDoorEq
import Derived.Test.YtlgmkmegkojgbaaDoorCel
namespace Go.Proofs.YtlgmkmegkojgbaaDoor
open Go.RowKit

abbrev Pc := Int × ByteArray × ByteArray
def pc (P : List Pc) (j : Nat) : Pc := P.getD j (0, ByteArray.empty, ByteArray.empty)
def pcl (x : Pc) : List Value := [.int .i64 x.1, .string x.2.1, .string x.2.2]
def pcs (P : List Pc) : List Value := P.flatMap pcl
theorem pcs_length (P : List Pc) : (pcs P).length = P.length * 3 := by
  induction P with
  | nil => rfl
  | cons x r ih => simp only [pcs, List.flatMap_cons, List.length_append, List.length_cons] at ih ⊢; rw [ih]; simp [pcl]; omega
theorem pcs_append (A B : List Pc) : pcs (A ++ B) = pcs A ++ pcs B := by simp [pcs]
theorem pcs_one (P : List Pc) : ∀ u ∈ pcs P, u.oneCell' = true := by
  intro u hu
  obtain ⟨x, _, hx⟩ := List.mem_flatMap.1 hu
  simp only [pcl, List.mem_cons, List.not_mem_nil, or_false] at hx
  rcases hx with rfl | rfl | rfl <;> rfl
theorem pc_cons_succ (x : Pc) (P : List Pc) (j : Nat) : pc (x :: P) (j + 1) = pc P j := by simp [pc]
theorem pcs_get (P : List Pc) : ∀ (j r : Nat), j < P.length → r < 3 → (pcs P)[j * 3 + r]? = (pcl (pc P j))[r]? := by
  induction P with
  | nil => intro j r h; simp at h
  | cons x t ih =>
    intro j r hj hr
    have e : pcs (x :: t) = pcl x ++ pcs t := rfl
    have hl : (pcl x).length = 3 := rfl
    rw [e]
    cases j with
    | zero => rw [List.getElem?_append_left (by omega), Nat.zero_mul, Nat.zero_add]; rfl
    | succ j => rw [List.getElem?_append_right (by omega), hl, show (j + 1) * 3 + r - 3 = j * 3 + r by omega, ih j r (by simpa using hj) hr, pc_cons_succ]
theorem pcs_take (P : List Pc) : ∀ (k : Nat), (pcs P).take (k * 3) = pcs (P.take k) := by
  induction P with
  | nil => intro k; simp [pcs]
  | cons x t ih =>
    intro k
    cases k with
    | zero => simp [pcs]
    | succ k =>
      have e : pcs (x :: t) = pcl x ++ pcs t := rfl
      have hl : (pcl x).length = 3 := rfl
      rw [e, List.take_succ_cons, List.take_append, hl, List.take_of_length_le (by omega), show (k + 1) * 3 - 3 = k * 3 by omega, ih k]; rfl
theorem pcs_drop (P : List Pc) : ∀ (k : Nat), (pcs P).drop (k * 3) = pcs (P.drop k) := by
  induction P with
  | nil => intro k; simp [pcs]
  | cons x t ih =>
    intro k
    cases k with
    | zero => simp
    | succ k =>
      have e : pcs (x :: t) = pcl x ++ pcs t := rfl
      have hl : (pcl x).length = 3 := rfl
      rw [e, List.drop_succ_cons, List.drop_append, hl, List.drop_of_length_le (by omega), show (k + 1) * 3 - 3 = k * 3 by omega, ih k]; simp
theorem pc_ext {A B : List Pc} (hl : A.length = B.length) (h : ∀ j, j < A.length → pc A j = pc B j) : A = B := by
  apply List.ext_getElem hl
  intro j h1 h2
  have := h j h1
  simpa [pc, List.getD, List.getElem?_eq_getElem h1, List.getElem?_eq_getElem h2] using this
/-- Cells that are those of parcels, told one by one. -/
theorem pcs_of {P : List Pc} {xs : List Value} (hl : xs.length = P.length * 3) (h : ∀ j, j < P.length → xs[j * 3]? = some (.int .i64 (pc P j).1) ∧ xs[j * 3 + 1]? = some (.string (pc P j).2.1) ∧ xs[j * 3 + 2]? = some (.string (pc P j).2.2)) : xs = pcs P := by
  apply List.ext_getElem?
  intro i
  by_cases hi : i < P.length * 3
  · obtain ⟨h0, h1, h2⟩ := h (i / 3) (by omega)
    have hr : i % 3 = 0 ∨ i % 3 = 1 ∨ i % 3 = 2 := by omega
    have hg := pcs_get P (i / 3) (i % 3) (by omega) (by omega)
    rw [show i / 3 * 3 + i % 3 = i by omega] at hg
    rw [hg]
    rcases hr with e | e | e
    · rw [show i / 3 * 3 = i by omega] at h0; rw [h0, e]; rfl
    · rw [show i / 3 * 3 + 1 = i by omega] at h1; rw [h1, e]; rfl
    · rw [show i / 3 * 3 + 2 = i by omega] at h2; rw [h2, e]; rfl
  · rw [List.getElem?_eq_none (by omega), List.getElem?_eq_none (by rw [pcs_length]; omega)]

/-- A list of parcels in memory. -/
structure PcAt (w : World) (a : Option Addr) (b o n : Nat) (P : List Pc) : Prop where
  ad : 0 < n → a = some ⟨b, o, none⟩
  len : P.length = n
  max : n ≤ maxLen
  lt : 0 < n → b < w.heap.size
  c0 : ∀ j, j < n → w.cell? ⟨b, o + j * 3, none⟩ = some (.int .i64 (pc P j).1)
  c1 : ∀ j, j < n → w.cell? ⟨b, o + j * 3 + 1, none⟩ = some (.string (pc P j).2.1)
  c2 : ∀ j, j < n → w.cell? ⟨b, o + j * 3 + 2, none⟩ = some (.string (pc P j).2.2)
  rng : ∀ j, j < n → I64 (pc P j).1 ∧ (pc P j).2.1.size ≤ maxLen ∧ (pc P j).2.2.size ≤ maxLen
theorem PcAt.block {w w' : World} {a : Option Addr} {b o n : Nat} {P : List Pc} (h : PcAt w a b o n P) (hs : w.heap.size ≤ w'.heap.size) (hb : 0 < n → w'.heap[b]? = w.heap[b]?) : PcAt w' a b o n P :=
  ⟨h.ad, h.len, h.max, fun hn => Nat.lt_of_lt_of_le (h.lt hn) hs, fun j hj => (World.cell?_of_block (w := w) (hb (by omega))).trans (h.c0 j hj), fun j hj => (World.cell?_of_block (w := w) (hb (by omega))).trans (h.c1 j hj), fun j hj => (World.cell?_of_block (w := w) (hb (by omega))).trans (h.c2 j hj), h.rng⟩
theorem PcAt.below {w w' : World} {a : Option Addr} {b o n C : Nat} {P : List Pc} (h : PcAt w a b o n P) (hb : Below C w w') (hC : 0 < n → b < C) : PcAt w' a b o n P :=
  h.block hb.size fun hn => hb.block b (hC hn)
theorem PcAt.below' {w w' : World} {a : Option Addr} {b o n : Nat} {P : List Pc} (h : PcAt w a b o n P) (hb : Below w.heap.size w w') : PcAt w' a b o n P := h.below hb h.lt
theorem PcAt.grown {w w' : World} {a : Option Addr} {b o n : Nat} {P : List Pc} {r : Option Nat} (h : PcAt w a b o n P) (hg : w.grownBy w' r) (hr : 0 < n → some b ≠ r) : PcAt w' a b o n P :=
  h.block hg.size fun hn => hg.block b (h.lt hn) (hr hn)
def PcOk (P : List Pc) : Prop := ∀ j, j < P.length → I64 (pc P j).1 ∧ (pc P j).2.1.size ≤ maxLen ∧ (pc P j).2.2.size ≤ maxLen
theorem PcAt.ok {w : World} {a : Option Addr} {b o n : Nat} {P : List Pc} (h : PcAt w a b o n P) : PcOk P := fun j hj => h.rng j (by rw [← h.len]; exact hj)
theorem PcAt.ofOwn {B : Nat} {w : World} {g o cap n : Nat} {P : List Pc} (h : OwnC B w 3 g o cap n (pcs P)) (hk : PcOk P) : PcAt w (some ⟨g, o, none⟩) g o n P := by
  have hl : P.length = n := by have := h.len; rw [pcs_length] at this; omega
  refine ⟨fun _ => rfl, hl, Nat.le_trans h.le h.max, fun _ => h.hi, fun j hj => ?_, fun j hj => ?_, fun j hj => ?_, fun j hj => hk j (by omega)⟩
  · have := h.holds (j * 3 + 0) (by omega); rw [pcs_get P j 0 (by omega) (by omega)] at this; exact this
  · have := h.holds (j * 3 + 1) (by omega); rw [pcs_get P j 1 (by omega) (by omega)] at this; rw [Nat.add_assoc]; exact this
  · have := h.holds (j * 3 + 2) (by omega); rw [pcs_get P j 2 (by omega) (by omega)] at this; rw [Nat.add_assoc]; exact this
/-- .. of whatever row, nil too. -/
theorem Own.pcAt {B : Nat} {w : World} {a : Option Addr} {n c : Nat} {P : List Pc} (h : Own B w 3 (.slice a n c) n (pcs P)) (hk : PcOk P) : ∃ b o, PcAt w a b o n P ∧ (0 < n → B ≤ b) := by
  rcases h with ⟨hv, rfl, hx⟩ | ⟨g, o, cap, hv, hc⟩
  · injection hv with h1 _ _
    have : P = [] := List.eq_nil_of_length_eq_zero (by have := congrArg List.length hx; rw [pcs_length, List.length_nil] at this; omega)
    subst this
    exact ⟨0, 0, ⟨fun h => absurd h (by omega), rfl, Nat.zero_le _, fun h => absurd h (by omega), fun j hj => absurd hj (by omega), fun j hj => absurd hj (by omega), fun j hj => absurd hj (by omega), fun j hj => absurd hj (by omega)⟩, fun h => absurd h (by omega)⟩
  · injection hv with h1 _ _
    subst h1
    exact ⟨g, o, PcAt.ofOwn hc hk, fun _ => hc.lo⟩
theorem PcAt.cells {w : World} {a : Option Addr} {b o n : Nat} {P : List Pc} (h : PcAt w a b o n P) : ∀ j u, (pcs P)[j]? = some u → w.cell? ⟨b, o + j, none⟩ = some u := by
  intro j u hu
  have hj : j < n * 3 := by have := (List.getElem?_eq_some_iff.1 hu).1; rw [pcs_length, h.len] at this; exact this
  have hg := pcs_get P (j / 3) (j % 3) (by rw [h.len]; omega) (by omega)
  rw [show j / 3 * 3 + j % 3 = j by omega, hu] at hg
  have hr : j % 3 = 0 ∨ j % 3 = 1 ∨ j % 3 = 2 := by omega
  rcases hr with e | e | e
  · have := h.c0 (j / 3) (by omega); rw [show o + j / 3 * 3 = o + j by omega] at this; rw [this, hg, e]; rfl
  · have := h.c1 (j / 3) (by omega); rw [show o + j / 3 * 3 + 1 = o + j by omega] at this; rw [this, hg, e]; rfl
  · have := h.c2 (j / 3) (by omega); rw [show o + j / 3 * 3 + 2 = o + j by omega] at this; rw [this, hg, e]; rfl
/-- What a piece of it yields to an append. -/
theorem PcAt.srcFrom {w : World} {a : Option Addr} {b o n : Nat} {P : List Pc} (h : PcAt w a b o n P) (tx e' : TypeId) (hk : Tryd.prog.underlying tx = some (.slice e')) (k m c : Nat) (hkm : k + m ≤ n) : Src Tryd.prog 3 tx (.slice (some ⟨b, o + k * 3, none⟩) m c) m (pcs ((P.drop k).take m)) w := by
  refine Src.ofSlice w hk ⟨b, o + k * 3, none⟩ m c _ (by rw [pcs_length, List.length_take, List.length_drop, h.len]; omega) (fun j u hu => ?_) (pcs_one _)
  rw [Addr.add_lit]
  have hj : j < m * 3 := by have := (List.getElem?_eq_some_iff.1 hu).1; rw [pcs_length, List.length_take, List.length_drop, h.len] at this; omega
  rw [← pcs_take, ← pcs_drop, List.getElem?_take, if_pos hj, List.getElem?_drop] at hu
  rw [Nat.add_assoc]
  exact h.cells _ _ hu
theorem PcAt.src {w : World} {a : Option Addr} {b o n : Nat} {P : List Pc} (h : PcAt w a b o n P) (tx e' : TypeId) (hk : Tryd.prog.underlying tx = some (.slice e')) (c : Nat) : Src Tryd.prog 3 tx (.slice a n c) n (pcs P) w := by
  cases a with
  | none =>
    have h0 : n = 0 := Nat.eq_zero_of_not_pos fun hh => by have := h.ad hh; cases this
    subst h0
    have : P = [] := List.eq_nil_of_length_eq_zero h.len
    subst this
    exact Src.ofNil w hk c
  | some y =>
    by_cases hn : 0 < n
    · have hy := h.ad hn
      injection hy with hy
      subst hy
      have := h.srcFrom tx e' hk 0 n c (by omega)
      rw [List.drop_zero, List.take_of_length_le (by rw [h.len]; omega)] at this
      simpa using this
    · obtain rfl : n = 0 := by omega
      have : P = [] := List.eq_nil_of_length_eq_zero h.len
      subst this
      exact Src.ofSlice w hk y 0 c [] rfl (fun j u hu => by simp at hu) (by simp)

theorem Tryd.infoPc : (Tryd.prog.info? 45).map (fun i => (i.zero, i.size, i.bytes)) = some (some (.agg #[.int .i64 0, .string ⟨#[]⟩, .string ⟨#[]⟩]), 3, 40) := by kernel_rfl

/-! ### sizes -/
set_option maxHeartbeats 400000 in
theorem szParcel_any (t : Int) (s u : ByteArray) (left : Int) (w : World) (hl0 : 0 ≤ left) (hl1 : left ≤ 1048576) (hs : s.size ≤ maxLen) (hu : u.size ≤ maxLen) :
    Calls Tryd.prog 20 #[.agg #[.int .i64 t, .string s, .string u], .int .i64 left] w fun e w' => (∃ r, e = .returned (.int .i64 r) ∧ (r = -1 ∨ 0 ≤ r ∧ r ≤ left ∧ s.size ≤ 1048576 ∧ u.size ≤ 1048576)) ∧ Below w.heap.size w w' := by
  unfold maxLen at hs hu
  by_cases h1 : left - s.size < 0
  · go_enter Tryd.func20, Tryd.ntmps20
    go_wp2
    go_ret
    exact ⟨⟨_, rfl, .inl rfl⟩, (Below.refl _ _).alloc (Nat.le_refl _) _⟩
  · by_cases h2 : left - s.size - u.size < 0
    · go_enter Tryd.func20, Tryd.ntmps20
      go_wp2
      go_ret
      exact ⟨⟨_, rfl, .inl rfl⟩, (Below.refl _ _).alloc (Nat.le_refl _) _⟩
    · go_enter Tryd.func20, Tryd.ntmps20
      go_wp2
      go_ret
      exact ⟨⟨_, rfl, .inr ⟨by omega, by omega, by omega, by omega⟩⟩, (Below.refl _ _).alloc (Nat.le_refl _) _⟩

set_option maxHeartbeats 400000 in
theorem szParcelS_any (a : Option Addr) (b o n c : Nat) (P : List Pc) (left : Int) (w : World) (hl0 : 0 ≤ left) (hl1 : left ≤ 1048576) (h : PcAt w a b o n P) :
    Calls Tryd.prog 24 #[.slice a n c, .int .i64 left] w fun e w' => (∃ r, e = .returned (.int .i64 r) ∧ (r = -1 ∨ 0 ≤ r ∧ r ≤ left ∧ n ≤ 1048576)) ∧ Below w.heap.size w w' := by
  have hmax := h.max
  unfold maxLen at hmax
  by_cases h1 : left - n < 0
  · go_enter Tryd.func24, Tryd.ntmps24
    go_wp2
    go_ret
    exact ⟨⟨_, rfl, .inl rfl⟩, Below.refl _ _⟩
  · go_enter Tryd.func24, Tryd.ntmps24
    go_wp2
    go_loopw [1, 5] (fun l i wr => ∃ k : Nat, k ≤ n ∧ i = .int .i64 k ∧ (∃ r : Int, l = .int .i64 r ∧ 0 ≤ r ∧ r ≤ left) ∧ Below w.heap.size w wr) (fun _ i _ => n - (intOf i).toNat)
    case atStart => exact ⟨0, Nat.zero_le _, rfl, ⟨_, rfl, by omega, by omega⟩, Below.refl _ _⟩
    case round =>
      obtain ⟨k, hk, rfl, ⟨r, rfl, hr0, hr⟩, hb⟩ := hrel
      have hr1 : r ≤ 1048576 := by omega
      by_cases hlt : k < n
      · obtain rfl := h.ad (by omega)
        have hc0 := (h.below' hb).c0 k hlt
        have hc1 := (h.below' hb).c1 k hlt
        have hc2 := (h.below' hb).c2 k hlt
        obtain ⟨_, g1, g2⟩ := h.rng k hlt
        obtain ⟨⟨x0, x1, x2⟩, hx⟩ : ∃ x, x = pc P k := ⟨_, rfl⟩
        rw [← hx] at hc0 hc1 hc2 g1 g2
        dsimp only at hc0 hc1 hc2 g1 g2
        clear hx
        have hlt' : (k : Int) < (n : Int) := by omega
        go_wp2_with fail
        refine (szParcel_any x0 x1 x2 r _ hr0 hr1 g1 g2).mono ?_
        rintro e w1 ⟨⟨r1, rfl, hr'⟩, hb1⟩
        have hb' := hb.trans (hb1.mono hb.size)
        clear g1 g2
        rcases hr' with rfl | ⟨hr', hr0'⟩
        · go_wp2
          go_ret
          exact ⟨⟨_, rfl, .inl rfl⟩, hb'⟩
        · have hr2 : r1 ≤ left := by omega
          clear hr0' hr
          go_wp2
          go_roundw
          case rel => exact ⟨k + 1, by omega, by go_num, ⟨r1, rfl, hr', hr2⟩, hb'⟩
          case measure => simp [intOf]; omega
      · go_wp2
        go_ret
        exact ⟨⟨r, rfl, .inr ⟨hr0, hr, by omega⟩⟩, hb⟩

/-! ### copies -/
set_option maxHeartbeats 400000 in
set_option maxRecDepth 100000 in
theorem toParcel_any (x0 : Int) (x1 x2 : ByteArray) (w : World) :
    Calls Tryd.prog 22 #[.agg #[.int .i64 x0, .string x1, .string x2]] w fun e w' => e = .returned (.agg #[.int .i64 x0, .string x1, .string x2]) ∧ Below w.heap.size w w' := by
  go_enter Tryd.func22, Tryd.ntmps22
  go_wp2
  refine bodyPost_ret (v := .agg #[.int .i64 x0, .string x1, .string x2]) (by simp [results, Tryd.results22, go_sem]) rfl ⟨rfl, ?_⟩
  repeat (first | exact Below.refl _ _ | refine Below.setCell ?_ (by first | exact Nat.le_refl _ | (dsimp only; omega) | (simp; done) | (simp; omega)) _ | refine Below.alloc ?_ (by first | (simp; done) | (simp; omega)) _)

set_option maxHeartbeats 1000000 in
set_option maxRecDepth 100000 in
theorem toParcelS_any (a : Option Addr) (b o n c : Nat) (P : List Pc) (w : World) (h : PcAt w a b o n P) (hn : n ≤ 1048576) :
    Calls Tryd.prog 27 #[.slice a n c] w fun e w' => ∃ g, e = .returned (.slice (some ⟨g, 0, none⟩) n n) ∧ OwnC w.heap.size w' 3 g 0 n n (pcs P) ∧ Below w.heap.size w w' := by
  obtain ⟨i0, hi, hz0, hz1, hz2⟩ := info_parts Tryd.infoPc
  go_enter Tryd.func27, Tryd.ntmps27
  go_wp2_with (refine wpList_make_c _ rfl _ _ 52 rfl w.heap.size 45 i0 (.agg #[.int .i64 0, .string ⟨#[]⟩, .string ⟨#[]⟩]) 3 40 Tryd.underlying52 hi hz0 hz1 hz2 .i64 .i64 n n n rfl rfl rfl rfl (by omega) (by unfold maxLen; omega) (Nat.le_refl _) ?_; intro w1 hown hgr)
  go_loopw [4] (fun i wr => ∃ k : Nat, k ≤ n ∧ i = .int .i64 k ∧ (∃ xs, OwnC w.heap.size wr 3 w.heap.size 0 n n xs ∧ ∀ j, j < k → xs[j * 3]? = some (.int .i64 (pc P j).1) ∧ xs[j * 3 + 1]? = some (.string (pc P j).2.1) ∧ xs[j * 3 + 2]? = some (.string (pc P j).2.2)) ∧ Below w.heap.size w wr) (fun i _ => n - (intOf i).toNat)
  case atStart => exact ⟨0, Nat.zero_le _, rfl, ⟨_, hown, fun j hj => absurd hj (by omega)⟩, (Below.refl _ _).grown hgr (Nat.le_refl _) (by simp)⟩
  case round =>
    obtain ⟨k, hk, rfl, ⟨xs, ho, hbu⟩, hb⟩ := hrel
    by_cases hlt : k < n
    · obtain rfl := h.ad (by omega)
      have hc0 := (h.below' hb).c0 k hlt
      have hc1 := (h.below' hb).c1 k hlt
      have hc2 := (h.below' hb).c2 k hlt
      obtain ⟨⟨x0, x1, x2⟩, hx⟩ : ∃ x, x = pc P k := ⟨_, rfl⟩
      rw [← hx] at hc0 hc1 hc2
      dsimp only at hc0 hc1 hc2
      have HX := hid hx
      clear hx
      have hlt' : (k : Int) < (n : Int) := by omega
      go_wp2_with fail
      refine (toParcel_any x0 x1 x2 _).mono ?_
      rintro e w2 ⟨rfl, hb2⟩
      have ho2 := ho.below hb2 ho.hi
      have hhi := ho.hi
      have hb' := hb.trans (hb2.mono hb.size)
      obtain ⟨u0, _, hq0⟩ := ho2.cellSome (j := k * 3) (by omega)
      obtain ⟨u1, _, hq1⟩ := ho2.cellSome (j := k * 3 + 1) (by omega)
      obtain ⟨u2, _, hq2⟩ := ho2.cellSome (j := k * 3 + 2) (by omega)
      have hf0 := ho2.notFrozen (j := k * 3) (by omega)
      have hf1 := ho2.notFrozen (j := k * 3 + 1) (by omega)
      have hf2 := ho2.notFrozen (j := k * 3 + 2) (by omega)
      have hlen : k * 3 + 2 < xs.length := by rw [ho2.len]; omega
      have ho' := (((ho2.setCell (j := k * 3) (by omega) (.int .i64 x0)).setCell (j := k * 3 + 1) (by omega) (.string x1)).setCell (j := k * 3 + 2) (by omega) (.string x2))
      have hb3 := (((hb'.setCell (p := ⟨w.heap.size, k * 3, none⟩) (Nat.le_refl _) (.int .i64 x0)).setCell (p := ⟨w.heap.size, k * 3 + 1, none⟩) (Nat.le_refl _) (.string x1)).setCell (p := ⟨w.heap.size, k * 3 + 2, none⟩) (Nat.le_refl _) (.string x2))
      simp only [Nat.zero_add] at hq0 hq1 hq2 hf0 hf1 hf2 ho'
      have HBU := hid hbu
      have HLEN := hid hlen
      clear ho2 ho hb2 hb' hbu hlen
      go_wp2
      go_roundw
      case rel =>
        refine ⟨k + 1, by omega, by go_num, ⟨_, ho', fun j hj => ?_⟩, hb3⟩
        have hl := HLEN.out
        by_cases e : j = k
        · subst e
          rw [← HX.out]
          exact ⟨by simp [List.getElem?_set]; omega, by simp [List.getElem?_set]; omega, by simp [List.getElem?_set]; omega⟩
        · obtain ⟨g0, g1, g2⟩ := HBU.out j (by omega)
          exact ⟨by rw [List.getElem?_set_ne (by omega), List.getElem?_set_ne (by omega), List.getElem?_set_ne (by omega)]; exact g0, by rw [List.getElem?_set_ne (by omega), List.getElem?_set_ne (by omega), List.getElem?_set_ne (by omega)]; exact g1, by rw [List.getElem?_set_ne (by omega), List.getElem?_set_ne (by omega), List.getElem?_set_ne (by omega)]; exact g2⟩
      case measure => simp [intOf]; omega
    · obtain rfl : k = n := by omega
      obtain rfl : xs = pcs P := pcs_of (by rw [ho.len, h.len]) (fun j hj => hbu j (by rw [← h.len]; exact hj))
      go_wp2
      go_ret
      exact ⟨_, rfl, ho, hb⟩

/-! ### equality -/
set_option maxHeartbeats 400000 in
set_option maxRecDepth 100000 in
theorem eqParcel_any (x0 : Int) (x1 x2 : ByteArray) (w : World) :
    Calls Tryd.prog 58 #[.agg #[.int .i64 x0, .string x1, .string x2], .agg #[.int .i64 x0, .string x1, .string x2]] w fun e w' => e = .returned (.bool true) ∧ Below w.heap.size w w' := by
  go_enter Tryd.func58, Tryd.ntmps58
  go_wp2
  go_ret
  exact ⟨rfl, ((Below.refl _ _).alloc (Nat.le_refl _) _).alloc (by simp) _⟩

set_option maxHeartbeats 1000000 in
theorem eqParcelS_any (a a' : Option Addr) (b o n c b' o' c' : Nat) (P : List Pc) (w : World) (h : PcAt w a b o n P) (h' : PcAt w a' b' o' n P) :
    Calls Tryd.prog 30 #[.slice a n c, .slice a' n c'] w fun e w' => e = .returned (.bool true) ∧ Below w.heap.size w w' := by
  have hmax := h.max
  unfold maxLen at hmax
  go_enter Tryd.func30, Tryd.ntmps30
  go_wp2
  go_loopw [5] (fun i wr => ∃ k : Nat, k ≤ n ∧ i = .int .i64 k ∧ Below w.heap.size w wr) (fun i _ => n - (intOf i).toNat)
  case atStart => exact ⟨0, Nat.zero_le _, rfl, Below.refl _ _⟩
  case round =>
    obtain ⟨k, hk, rfl, hb⟩ := hrel
    by_cases hlt : k < n
    · obtain rfl := h.ad (by omega)
      obtain rfl := h'.ad (by omega)
      have hc0 := (h.below' hb).c0 k hlt
      have hd0 := (h'.below' hb).c0 k hlt
      have hc1 := (h.below' hb).c1 k hlt
      have hd1 := (h'.below' hb).c1 k hlt
      have hc2 := (h.below' hb).c2 k hlt
      have hd2 := (h'.below' hb).c2 k hlt
      obtain ⟨⟨x0, x1, x2⟩, hx⟩ : ∃ x, x = pc P k := ⟨_, rfl⟩
      rw [← hx] at hc0 hd0 hc1 hd1 hc2 hd2
      dsimp only at hc0 hd0 hc1 hd1 hc2 hd2
      clear hx
      have hlt' : (k : Int) < (n : Int) := by omega
      have hbb : Below w.heap.size w wr.drew := hb.drew
      go_wp2
      go_region_held3 (fun w' => w'.cell? ⟨b, o + k * 3, none⟩ = some (.int .i64 x0) ∧ w'.cell? ⟨b, o + k * 3 + 1, none⟩ = some (.string x1) ∧ w'.cell? ⟨b, o + k * 3 + 2, none⟩ = some (.string x2) ∧ w'.cell? ⟨b', o' + k * 3, none⟩ = some (.int .i64 x0) ∧ w'.cell? ⟨b', o' + k * 3 + 1, none⟩ = some (.string x1) ∧ w'.cell? ⟨b', o' + k * 3 + 2, none⟩ = some (.string x2)) (first | (simp [go_sem, *]; done) | assumption)
        (first
          | (go_at_call 58; refine (eqParcel_any x0 x1 x2 _).mono ?_; rintro e w1 ⟨rfl, hb1⟩; have q0 := keepC hb1 hc0; have r0 := keepC hb1 hd0; have q1 := keepC hb1 hc1; have r1 := keepC hb1 hd1; have q2 := keepC hb1 hc2; have r2 := keepC hb1 hd2))
      go_wp2
      go_roundw
      case rel => exact ⟨k + 1, by omega, by go_num, hbb.trans (hb1.mono hbb.size)⟩
      case measure => simp [intOf]; omega
    · go_wp2
      go_ret
      exact ⟨rfl, hb⟩

/-! ### marks -/
def mkP (k n : Nat) : List Pc := (List.range n).map fun i => (((k + i * 3 : Nat) : Int), mtx (k + i * 3 + 1), mtx (k + i * 3 + 2))
theorem mkP_length (k n : Nat) : (mkP k n).length = n := by simp [mkP]
theorem mkP_get (k : Nat) {i n : Nat} (h : i < n) : pc (mkP k n) i = (((k + i * 3 : Nat) : Int), mtx (k + i * 3 + 1), mtx (k + i * 3 + 2)) := by
  simp [pc, mkP, List.getD, h]
theorem mtx_size (k : Nat) : (mtx k).size ≤ k + 1 := by
  have hl := lp_length k k []
  show (109 :: lp k k []).toArray.size ≤ _
  simp only [List.size_toArray, List.length_cons]
  simp at hl
  omega
theorem mkP_ok (k n : Nat) (hk : k ≤ 2199023255552) (hn : n ≤ 1048576) : PcOk (mkP k n) := fun j hj => by
  rw [mkP_length] at hj
  rw [mkP_get k hj]
  have h1 := mtx_size (k + j * 3 + 1)
  have h2 := mtx_size (k + j * 3 + 2)
  exact ⟨⟨by omega, by omega⟩, by unfold maxLen; dsimp only; omega, by unfold maxLen; dsimp only; omega⟩

set_option maxHeartbeats 1000000 in
set_option maxRecDepth 100000 in
theorem markParcelS_any (g o cap n c k : Nat) (B : Nat) (xs : List Value) (w : World) (h1 : 0 < k) (h2 : k ≤ 2199023255552) (hn : n ≤ 1048576) (h : OwnC B w 3 g o cap n xs) :
    Calls Tryd.prog 32 #[.slice (some ⟨g, o, none⟩) n c, .int .i64 k] w fun e w' => e = .returned (.int .i64 ((k : Int) + n * 3)) ∧ OwnC B w' 3 g o cap n (pcs (mkP k n)) ∧ w.grownBy w' (some g) := by
  go_enter Tryd.func32, Tryd.ntmps32
  go_wp2
  go_loopw [1, 5] (fun kv x wr => ∃ i : Nat, i ≤ n ∧ x = .int .i64 i ∧ kv = .int .i64 ((k : Int) + i * 3) ∧ (∃ ys, OwnC B wr 3 g o cap n ys ∧ ∀ j, j < i → ys[j * 3]? = some (.int .i64 ((k + j * 3 : Nat) : Int)) ∧ ys[j * 3 + 1]? = some (.string (mtx (k + j * 3 + 1))) ∧ ys[j * 3 + 2]? = some (.string (mtx (k + j * 3 + 2)))) ∧ w.grownBy wr (some g)) (fun _ x _ => n - (intOf x).toNat)
  case atStart => exact ⟨0, Nat.zero_le _, rfl, by simp, ⟨xs, h, fun j hj => absurd hj (by omega)⟩, World.grownBy.refl w _⟩
  case round =>
    obtain ⟨i, hi, rfl, rfl, ⟨ys, ho, hbu⟩, hg⟩ := hrel
    by_cases hlt : i < n
    · have hlt' : (i : Int) < (n : Int) := by omega
      obtain ⟨u0, _, hq0⟩ := ho.cellSome (j := i * 3) (by omega)
      have hf0 := ho.notFrozen (j := i * 3) (by omega)
      have hlen : i * 3 + 2 < ys.length := by rw [ho.len]; omega
      have ho1 := ho.setCell (j := i * 3) (by omega) (.int .i64 ((k : Int) + i * 3))
      have hg1 := gset hg (o + i * 3) (.int .i64 ((k : Int) + i * 3))
      have HBU := hid hbu
      have HLEN := hid hlen
      clear ho hg hbu hlen
      go_wp2_with fail
      rw [show ((k : Int) + i * 3 + 1) = ((k + i * 3 + 1 : Nat) : Int) by omega]
      refine (markText_any (k + i * 3 + 1) _ (by omega) (by omega)).mono ?_
      rintro e w1 ⟨rfl, hb1⟩
      have ho2 := ho1.below hb1 ho1.hi
      have hg2 := grownBy_trans hg1 (grownBy_below (r := some g) hb1)
      obtain ⟨u1, _, hq1⟩ := ho2.cellSome (j := i * 3 + 1) (by omega)
      have hf1 := ho2.notFrozen (j := i * 3 + 1) (by omega)
      have ho3 := ho2.setCell (j := i * 3 + 1) (by omega) (.string (mtx (k + i * 3 + 1)))
      have hg3 := gset hg2 (o + (i * 3 + 1)) (.string (mtx (k + i * 3 + 1)))
      rw [← Nat.add_assoc] at hq1 hf1 ho3 hg3
      clear ho1 ho2 hg1 hg2 hb1 hq0 hf0
      obtain ⟨w2, hw2⟩ : ∃ w2, w2 = w1.setCell ⟨g, o + i * 3 + 1, none⟩ (.string (mtx (k + i * 3 + 1))) := ⟨_, rfl⟩
      go_upto_region 8 with fail
      rw [← hw2] at ho3 hg3 ⊢
      clear hw2 hq1 hf1
      go_wp2_with fail
      rw [show ((k : Int) + i * 3 + 1 + 1) = ((k + i * 3 + 2 : Nat) : Int) by omega]
      refine (markText_any (k + i * 3 + 2) _ (by omega) (by omega)).mono ?_
      rintro e w3 ⟨rfl, hb3⟩
      have ho4 := ho3.below hb3 ho3.hi
      have hg4 := grownBy_trans hg3 (grownBy_below (r := some g) hb3)
      obtain ⟨u2, _, hq2⟩ := ho4.cellSome (j := i * 3 + 2) (by omega)
      have hf2 := ho4.notFrozen (j := i * 3 + 2) (by omega)
      have ho5 := ho4.setCell (j := i * 3 + 2) (by omega) (.string (mtx (k + i * 3 + 2)))
      have hg5 := gset hg4 (o + (i * 3 + 2)) (.string (mtx (k + i * 3 + 2)))
      rw [← Nat.add_assoc] at hq2 hf2 ho5 hg5
      clear ho3 ho4 hg3 hg4 hb3
      go_wp2
      go_roundw
      case rel =>
        refine ⟨i + 1, by omega, by go_num, by go_num, ⟨_, ho5, fun j hj => ?_⟩, hg5⟩
        have hl := HLEN.out
        by_cases e : j = i
        · subst e
          exact ⟨by simp [List.getElem?_set]; omega, by simp [List.getElem?_set]; omega, by simp [List.getElem?_set]; omega⟩
        · obtain ⟨g0, g1, g2⟩ := HBU.out j (by omega)
          exact ⟨by rw [List.getElem?_set_ne (by omega), List.getElem?_set_ne (by omega), List.getElem?_set_ne (by omega)]; exact g0, by rw [List.getElem?_set_ne (by omega), List.getElem?_set_ne (by omega), List.getElem?_set_ne (by omega)]; exact g1, by rw [List.getElem?_set_ne (by omega), List.getElem?_set_ne (by omega), List.getElem?_set_ne (by omega)]; exact g2⟩
      case measure => simp [intOf]; omega
    · obtain rfl : i = n := by omega
      obtain rfl : ys = pcs (mkP k i) := pcs_of (by rw [ho.len, mkP_length]) (fun j hj => by
        rw [mkP_length] at hj
        rw [mkP_get k hj]
        exact hbu j hj)
      go_wp2
      go_ret
      exact ⟨rfl, ho, hg⟩

set_option maxHeartbeats 1000000 in
theorem markParcelS_nil (k : Nat) (w : World) :
    Calls Tryd.prog 32 #[.slice none 0 0, .int .i64 k] w fun e w' => e = .returned (.int .i64 (k : Int)) ∧ w' = w := by
  go_enter Tryd.func32, Tryd.ntmps32
  go_wp2
  go_loop [1, 5] (fun kv x => x = .int .i64 0 ∧ kv = .int .i64 k) (fun _ _ => 0)
  case atStart => exact ⟨rfl, rfl⟩
  case round =>
    obtain ⟨rfl, rfl⟩ := hrel
    go_wp2
    go_ret
    exact ⟨rfl, rfl⟩
theorem markParcelS_own (a : Option Addr) (n c k : Nat) (B : Nat) (xs : List Value) (w : World) (h1 : 0 < k) (h2 : k ≤ 2199023255552) (hn : n ≤ 1048576) (h : Own B w 3 (.slice a n c) n xs) :
    Calls Tryd.prog 32 #[.slice a n c, .int .i64 k] w fun e w' => e = .returned (.int .i64 ((k : Int) + n * 3)) ∧ Own B w' 3 (.slice a n c) n (pcs (mkP k n)) ∧ w.grownBy w' (Value.slice a n c).ownBlock := by
  rcases h with ⟨hv, rfl, rfl⟩ | ⟨g, o, cap, hv, hc⟩
  · simp only [Value.slice.injEq] at hv
    obtain ⟨rfl, _, rfl⟩ := hv
    refine (markParcelS_nil k w).mono ?_
    rintro e w' ⟨rfl, rfl⟩
    exact ⟨by simp, .inl ⟨rfl, rfl, rfl⟩, World.grownBy.refl _ _⟩
  · simp only [Value.slice.injEq] at hv
    obtain ⟨rfl, _, rfl⟩ := hv
    refine (markParcelS_any g o c n c k B xs w h1 h2 hn hc).mono ?_
    rintro e w' ⟨rfl, ho, hg⟩
    exact ⟨rfl, .inr ⟨g, o, c, rfl, ho⟩, hg⟩

set_option maxHeartbeats 2000000 in
set_option maxRecDepth 100000 in
theorem heldParcelS_any (a : Option Addr) (b o n c k : Nat) (w : World) (h1 : 0 < k) (h2 : k ≤ 2199023255552) (hn : n ≤ 1048576) (h : PcAt w a b o n (mkP k n)) :
    Calls Tryd.prog 34 #[.slice a n c, .int .i64 k] w fun e w' => e = .returned (.int .i64 ((k : Int) + n * 3)) ∧ Below w.heap.size w w' := by
  go_enter Tryd.func34, Tryd.ntmps34
  go_wp2
  go_loopw [1, 5] (fun kv x wr => ∃ i : Nat, i ≤ n ∧ x = .int .i64 i ∧ kv = .int .i64 ((k : Int) + i * 3) ∧ Below w.heap.size w wr) (fun _ x _ => n - (intOf x).toNat)
  case atStart => exact ⟨0, Nat.zero_le _, rfl, by simp, Below.refl _ _⟩
  case round =>
    obtain ⟨i, hi, rfl, rfl, hb⟩ := hrel
    by_cases hlt : i < n
    · have hlt' : (i : Int) < (n : Int) := by omega
      obtain rfl := h.ad (by omega)
      have hc0 := (h.below' hb).c0 i hlt
      have hc1 := (h.below' hb).c1 i hlt
      have hc2 := (h.below' hb).c2 i hlt
      rw [mkP_get k hlt] at hc0 hc1 hc2
      dsimp only at hc0 hc1 hc2
      rw [show ((k + i * 3 : Nat) : Int) = (k : Int) + i * 3 by omega] at hc0
      obtain ⟨s, hs⟩ : ∃ s, s = mtx (k + i * 3 + 1) := ⟨_, rfl⟩
      obtain ⟨u, hu⟩ : ∃ u, u = mtx (k + i * 3 + 2) := ⟨_, rfl⟩
      rw [← hs] at hc1
      rw [← hu] at hc2
      have HC : Hid (∀ w1 : World, Calls Tryd.prog 59 #[.int .i64 ((k : Int) + i * 3 + 1)] w1 fun e w' => e = .returned (.string s) ∧ Below w1.heap.size w1 w') := fun w1 => by
        rw [show ((k : Int) + i * 3 + 1) = ((k + i * 3 + 1 : Nat) : Int) by omega, hs]
        exact markText_any (k + i * 3 + 1) w1 (by omega) (by omega)
      have HC2 : Hid (∀ w1 : World, Calls Tryd.prog 59 #[.int .i64 ((k : Int) + i * 3 + 1 + 1)] w1 fun e w' => e = .returned (.string u) ∧ Below w1.heap.size w1 w') := fun w1 => by
        rw [show ((k : Int) + i * 3 + 1 + 1) = ((k + i * 3 + 2 : Nat) : Int) by omega, hu]
        exact markText_any (k + i * 3 + 2) w1 (by omega) (by omega)
      clear hs hu
      have hbd : Below w.heap.size w wr.drew := hb.drew
      go_wp2
      go_region_held3 (fun w' => w'.cell? ⟨b, o + i * 3 + 1, none⟩ = some (.string s) ∧ w'.cell? ⟨b, o + i * 3 + 2, none⟩ = some (.string u)) (first | (simp [go_sem, *]; done) | assumption)
        (first
          | (go_at_call 59; refine (HC.out _).mono ?_; rintro e w1 ⟨rfl, hb1⟩; have q1 := keepC hb1 hc1; have q2 := keepC hb1 hc2; have hb1' := hbd.trans (hb1.mono hbd.size)))
      have hbd1 : Below w.heap.size w w1.drew := hb1'.drew
      go_wp2
      go_region_held3 (fun w' => w'.cell? ⟨b, o + i * 3 + 2, none⟩ = some (.string u)) (first | (simp [go_sem, *]; done) | assumption)
        (first
          | (go_at_call 59; refine (HC2.out _).mono ?_; rintro e w2 ⟨rfl, hb2⟩; have r2 := keepC hb2 q2; have hb2' := hbd1.trans (hb2.mono hbd1.size)))
      go_wp2
      go_roundw
      case rel => exact ⟨i + 1, by omega, by go_num, by go_num, hb2'⟩
      case measure => simp [intOf]; omega
    · obtain rfl : i = n := by omega
      go_wp2
      go_ret
      exact ⟨rfl, hb⟩
end Go.Proofs.YtlgmkmegkojgbaaDoor
