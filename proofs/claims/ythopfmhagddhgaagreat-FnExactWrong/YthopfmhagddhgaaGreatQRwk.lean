import Derived.Test.YthopfmhagddhgaaGreatQMark
import Derived.Test.YthopfmhagddhgaaGreatQLawWk
import Derived.Test.YthopfmhagddhgaaGreatQCel
import Derived.Test.YthopfmhagddhgaaGreatQEq
namespace Go.Proofs.YthopfmhagddhgaaGreat
open Go.RowKit

structure WkD where
  nu : Int
  ep : Int
  up : Bool
  st : Int
  le : Int
  ta : Int
  co : Int
  lf : Int
  ss : List ByteArray
  x : ByteArray
  si : Int
def dWkD : WkD := ⟨0, 0, false, 0, 0, 0, 0, 0, [], ByteArray.empty, 0⟩
def gWr (M : List WkD) (j : Nat) : WkD := M.getD j dWkD
def WkD.v (d : WkD) (a : Option Addr) (c : Nat) : Value := .agg #[.int .i64 d.nu, .int .i64 d.ep, .bool d.up, .int .i64 d.st, .int .i64 d.le, .int .i64 d.ta, .int .i64 d.co, .int .i64 d.lf, .slice a d.ss.length c, .string d.x, .int .i64 d.si]
/-- .. in memory. -/
structure WrAt (w : World) (a : Option Addr) (b o n : Nat) (M : List WkD) : Prop where
  ad : 0 < n → a = some ⟨b, o, none⟩
  len : M.length = n
  max : n ≤ maxLen
  lt : 0 < n → b < w.heap.size
  c0 : ∀ j, j < n → w.cell? ⟨b, o + j * 11, none⟩ = some (.int .i64 (gWr M j).nu)
  c1 : ∀ j, j < n → w.cell? ⟨b, o + j * 11 + 1, none⟩ = some (.int .i64 (gWr M j).ep)
  c2 : ∀ j, j < n → w.cell? ⟨b, o + j * 11 + 2, none⟩ = some (.bool (gWr M j).up)
  c3 : ∀ j, j < n → w.cell? ⟨b, o + j * 11 + 3, none⟩ = some (.int .i64 (gWr M j).st)
  c4 : ∀ j, j < n → w.cell? ⟨b, o + j * 11 + 4, none⟩ = some (.int .i64 (gWr M j).le)
  c5 : ∀ j, j < n → w.cell? ⟨b, o + j * 11 + 5, none⟩ = some (.int .i64 (gWr M j).ta)
  c6 : ∀ j, j < n → w.cell? ⟨b, o + j * 11 + 6, none⟩ = some (.int .i64 (gWr M j).co)
  c7 : ∀ j, j < n → w.cell? ⟨b, o + j * 11 + 7, none⟩ = some (.int .i64 (gWr M j).lf)
  c9 : ∀ j, j < n → w.cell? ⟨b, o + j * 11 + 9, none⟩ = some (.string (gWr M j).x)
  c10 : ∀ j, j < n → w.cell? ⟨b, o + j * 11 + 10, none⟩ = some (.int .i64 (gWr M j).si)
  cn : ∀ j, j < n → ∃ a' b' o' c', w.cell? ⟨b, o + j * 11 + 8, none⟩ = some (.slice a' (gWr M j).ss.length c') ∧ StrsAt w a' b' o' (gWr M j).ss.length (gWr M j).ss
  rng : ∀ j, j < n → (gWr M j).x.size ≤ maxLen
  i64 : ∀ j, j < n → I64 (gWr M j).nu ∧ I64 (gWr M j).ep ∧ I64 (gWr M j).st ∧ I64 (gWr M j).le ∧ I64 (gWr M j).ta ∧ I64 (gWr M j).co ∧ I64 (gWr M j).lf ∧ I64 (gWr M j).si
theorem WrAt.below' {w w' : World} {a : Option Addr} {b o n : Nat} {M : List WkD} (h : WrAt w a b o n M) (hb : Below w.heap.size w w') : WrAt w' a b o n M where
  ad := h.ad
  len := h.len
  max := h.max
  lt := fun hn => Nat.lt_of_lt_of_le (h.lt hn) hb.size
  c0 := fun j hj => (hb.cell (by exact h.lt (by omega))).trans (h.c0 j hj)
  c1 := fun j hj => (hb.cell (by exact h.lt (by omega))).trans (h.c1 j hj)
  c2 := fun j hj => (hb.cell (by exact h.lt (by omega))).trans (h.c2 j hj)
  c3 := fun j hj => (hb.cell (by exact h.lt (by omega))).trans (h.c3 j hj)
  c4 := fun j hj => (hb.cell (by exact h.lt (by omega))).trans (h.c4 j hj)
  c5 := fun j hj => (hb.cell (by exact h.lt (by omega))).trans (h.c5 j hj)
  c6 := fun j hj => (hb.cell (by exact h.lt (by omega))).trans (h.c6 j hj)
  c7 := fun j hj => (hb.cell (by exact h.lt (by omega))).trans (h.c7 j hj)
  c9 := fun j hj => (hb.cell (by exact h.lt (by omega))).trans (h.c9 j hj)
  c10 := fun j hj => (hb.cell (by exact h.lt (by omega))).trans (h.c10 j hj)
  cn := fun j hj => by
    obtain ⟨a', b', o', c', h1, h2⟩ := h.cn j hj
    exact ⟨a', b', o', c', (hb.cell (by exact h.lt (by omega))).trans h1, h2.below' hb⟩
  rng := h.rng
  i64 := h.i64

set_option maxHeartbeats 1000000 in
theorem szWorkerL_any (nu : Int) (ep : Int) (up : Bool) (st : Int) (le : Int) (ta : Int) (co : Int) (lf : Int) (x : ByteArray) (si : Int) (a : Option Addr) (b o n c : Nat) (ss : List ByteArray) (left : Int) (w : World) (hl0 : 0 ≤ left) (hl1 : left ≤ 1048576) (h : StrsAt w a b o n ss) (hx : x.size ≤ maxLen) :
    Calls Tryz.prog 77 #[.agg #[.int .i64 nu, .int .i64 ep, .bool up, .int .i64 st, .int .i64 le, .int .i64 ta, .int .i64 co, .int .i64 lf, .slice a n c, .string x, .int .i64 si], .int .i64 left] w fun e w' => (∃ r, e = .returned (.int .i64 r) ∧ (r = -1 ∨ 0 ≤ r ∧ r ≤ left ∧ n + tot ss ≤ 1048576 ∧ x.size ≤ 1048576)) ∧ Below w.heap.size w w' := by
  unfold maxLen at hx
  obtain ⟨W, hW⟩ : ∃ W, W = w.alloc (.cells #[.int .i64 nu, .int .i64 ep, .bool up, .int .i64 st, .int .i64 le, .int .i64 ta, .int .i64 co, .int .i64 lf, .slice a n c, .string x, .int .i64 si] 114) := ⟨_, rfl⟩
  have hbW : Below w.heap.size w W := by rw [hW]; exact (Below.refl _ _).alloc (Nat.le_refl _) _
  have hc : W.cell? ⟨w.heap.size, 9, none⟩ = some (.string x) := by rw [hW]; simp
  go_enter Tryz.func77, Tryz.ntmps77
  go_wp2_with fail
  rw [← hW]
  refine (szStringS_any a b o n c ss _ _ (by omega) (by omega) (h.below' hbW)).mono ?_
  rintro e w' ⟨⟨r, rfl, hr⟩, rfl⟩
  clear hW
  rcases hr with rfl | ⟨hr, hr0⟩
  · go_wp2
    go_ret
    exact ⟨⟨_, rfl, .inl rfl⟩, hbW⟩
  · have hs : n + tot ss ≤ 1048576 := by omega
    have hr1 : r ≤ left := by omega
    clear hr
    by_cases h1 : r - x.size < 0
    · go_wp2
      go_ret
      exact ⟨⟨_, rfl, .inl rfl⟩, hbW⟩
    · go_wp2
      go_ret
      exact ⟨⟨_, rfl, .inr ⟨by omega, by omega, hs, by omega⟩⟩, hbW⟩

/-- How great the lists of texts in it are. -/
def smallWr (M : List WkD) : Prop := ∀ j, j < M.length → (gWr M j).ss.length + tot (gWr M j).ss ≤ 1048576 ∧ (gWr M j).x.size ≤ 1048576

set_option maxHeartbeats 1000000 in
theorem szWorkerS_any (a : Option Addr) (b o n c : Nat) (M : List WkD) (left : Int) (w : World) (hl0 : 0 ≤ left) (hl1 : left ≤ 1048576) (h : WrAt w a b o n M) :
    Calls Tryz.prog 27 #[.slice a n c, .int .i64 left] w fun e w' => (∃ r, e = .returned (.int .i64 r) ∧ (r = -1 ∨ 0 ≤ r ∧ r ≤ left ∧ n ≤ 1048576 ∧ smallWr M)) ∧ Below w.heap.size w w' := by
  have hmax := h.max
  unfold maxLen at hmax
  by_cases h1 : left - n < 0
  · go_enter Tryz.func27, Tryz.ntmps27
    go_wp2
    go_ret
    exact ⟨⟨_, rfl, .inl rfl⟩, Below.refl _ _⟩
  · go_enter Tryz.func27, Tryz.ntmps27
    go_wp2
    go_loopw [1, 5] (fun l i wr => ∃ k : Nat, k ≤ n ∧ i = .int .i64 k ∧ (∃ r : Int, l = .int .i64 r ∧ 0 ≤ r ∧ r ≤ left) ∧ Hid (∀ j, j < k → (gWr M j).ss.length + tot (gWr M j).ss ≤ 1048576 ∧ (gWr M j).x.size ≤ 1048576) ∧ Below w.heap.size w wr) (fun _ i _ => n - (intOf i).toNat)
    case atStart => exact ⟨0, Nat.zero_le _, rfl, ⟨_, rfl, by omega, by omega⟩, hid (fun j hj => absurd hj (by omega)), Below.refl _ _⟩
    case round =>
      obtain ⟨k, hk, rfl, ⟨r, rfl, hr0, hr⟩, HSM, hb⟩ := hrel
      have hr1 : r ≤ 1048576 := by omega
      by_cases hlt : k < n
      · obtain rfl := h.ad (by omega)
        have hc0 := (h.below' hb).c0 k hlt
        have hc1 := (h.below' hb).c1 k hlt
        have hc2 := (h.below' hb).c2 k hlt
        have hc3 := (h.below' hb).c3 k hlt
        have hc4 := (h.below' hb).c4 k hlt
        have hc5 := (h.below' hb).c5 k hlt
        have hc6 := (h.below' hb).c6 k hlt
        have hc7 := (h.below' hb).c7 k hlt
        have hc9 := (h.below' hb).c9 k hlt
        have hc10 := (h.below' hb).c10 k hlt
        obtain ⟨a', b', o', c', hc8, hst⟩ := (h.below' hb).cn k hlt
        have hrx := (h.below' hb).rng k hlt
        obtain ⟨⟨nu, ep, up, st, le, ta, co, lf, ss, x, si⟩, hx⟩ : ∃ x, x = gWr M k := ⟨_, rfl⟩
        rw [← hx] at hc0 hc1 hc2 hc3 hc4 hc5 hc6 hc7 hc8 hc9 hc10 hst hrx
        dsimp only at hc0 hc1 hc2 hc3 hc4 hc5 hc6 hc7 hc8 hc9 hc10 hst hrx
        have HX := hid hx
        clear hx
        have hlt' : (k : Int) < (n : Int) := by omega
        have HC := hid (fun w1 hst' => szWorkerL_any nu ep up st le ta co lf x si a' b' o' ss.length c' ss r w1 hr0 hr1 hst' hrx)
        clear hrx
        go_wp2_with fail
        refine (HC.out _ hst).mono ?_
        rintro e w1 ⟨⟨r1, rfl, hr'⟩, hb1⟩
        have hb' := hb.trans (hb1.mono hb.size)
        rcases hr' with rfl | ⟨hr', hr0', hs1, hs2⟩
        · go_wp2
          go_ret
          exact ⟨⟨_, rfl, .inl rfl⟩, hb'⟩
        · have hr2 : r1 ≤ left := by omega
          have HS1 := hid (And.intro hs1 hs2)
          clear hr0' hr hs1 hs2
          go_wp2
          go_roundw
          case rel =>
            refine ⟨k + 1, by omega, by go_num, ⟨r1, rfl, hr', hr2⟩, hid (fun j hj => ?_), hb'⟩
            by_cases e : j = k
            · subst e
              rw [← HX.out]
              exact HS1.out
            · exact HSM.out j (by omega)
          case measure => simp [intOf]; omega
      · obtain rfl : k = n := by omega
        go_wp2
        go_ret
        exact ⟨⟨r, rfl, .inr ⟨hr0, hr, by omega, fun j hj => HSM.out j (by rw [← h.len]; exact hj)⟩⟩, hb⟩

theorem Tryz.infoWr : (Tryz.prog.info? 72).map (fun i => (i.zero, i.size, i.bytes)) = some (some (.agg #[.int .i64 0, .int .i64 0, .bool false, .int .i64 0, .int .i64 0, .int .i64 0, .int .i64 0, .int .i64 0, .slice none 0 0, .string ⟨#[]⟩, .int .i64 0]), 11, 112) := by kernel_rfl
/-- The first k stand in the row xs of block g; their lists lie behind block g, rows of their own. -/
def BuiltWr (w : World) (g : Nat) (xs : List Value) (k : Nat) (M : List WkD) : Prop :=
  ∀ j, j < k → xs[j * 11]? = some (.int .i64 (gWr M j).nu) ∧ xs[j * 11 + 1]? = some (.int .i64 (gWr M j).ep) ∧ xs[j * 11 + 2]? = some (.bool (gWr M j).up) ∧ xs[j * 11 + 3]? = some (.int .i64 (gWr M j).st) ∧ xs[j * 11 + 4]? = some (.int .i64 (gWr M j).le) ∧ xs[j * 11 + 5]? = some (.int .i64 (gWr M j).ta) ∧ xs[j * 11 + 6]? = some (.int .i64 (gWr M j).co) ∧ xs[j * 11 + 7]? = some (.int .i64 (gWr M j).lf) ∧ xs[j * 11 + 9]? = some (.string (gWr M j).x) ∧ xs[j * 11 + 10]? = some (.int .i64 (gWr M j).si) ∧ ∃ b', xs[j * 11 + 8]? = some (.slice (some ⟨b', 0, none⟩) (gWr M j).ss.length (gWr M j).ss.length) ∧ OwnC (g + 1) w 1 b' 0 (gWr M j).ss.length (gWr M j).ss.length ((gWr M j).ss.map Value.string)
theorem BuiltWr.below {w w' : World} {g : Nat} {xs : List Value} {k : Nat} {M : List WkD} (h : BuiltWr w g xs k M) (hb : Below w.heap.size w w') : BuiltWr w' g xs k M := fun j hj => by
  obtain ⟨h0, h1, h2, h3, h4, h5, h6, h7, h9, h10, b', hn, ho⟩ := h j hj
  exact ⟨h0, h1, h2, h3, h4, h5, h6, h7, h9, h10, b', hn, ho.below hb ho.hi⟩
theorem BuiltWr.setCell {w : World} {g : Nat} {xs : List Value} {k : Nat} {M : List WkD} (h : BuiltWr w g xs k M) {p : Addr} (hp : p.block ≤ g) (u : Value) : BuiltWr (w.setCell p u) g xs k M := fun j hj => by
  obtain ⟨h0, h1, h2, h3, h4, h5, h6, h7, h9, h10, b', hn, ho⟩ := h j hj
  exact ⟨h0, h1, h2, h3, h4, h5, h6, h7, h9, h10, b', hn, ho.setOther (by have := ho.lo; omega) _⟩
theorem BuiltWr.setCells {g : Nat} {xs : List Value} {k : Nat} {M : List WkD} : ∀ (vs : List Value) (o : Nat) (w : World), BuiltWr w g xs k M → BuiltWr (w.setCells g o vs) g xs k M
  | [], _, _, h => h
  | v :: r, o, _, h => BuiltWr.setCells r (o + 1) _ (h.setCell (p := ⟨g, o, none⟩) (Nat.le_refl _) v)
/-- A row of cells with others laid into it. -/
def layWr (xs : List Value) (k : Nat) (d : WkD) (b' : Nat) : List Value := (((((((((((xs.set (k * 11) (.int .i64 d.nu)).set (k * 11 + 1) (.int .i64 d.ep)).set (k * 11 + 2) (.bool d.up)).set (k * 11 + 3) (.int .i64 d.st)).set (k * 11 + 4) (.int .i64 d.le)).set (k * 11 + 5) (.int .i64 d.ta)).set (k * 11 + 6) (.int .i64 d.co)).set (k * 11 + 7) (.int .i64 d.lf)).set (k * 11 + 8) (.slice (some ⟨b', 0, none⟩) d.ss.length d.ss.length)).set (k * 11 + 9) (.string d.x)).set (k * 11 + 10) (.int .i64 d.si))
theorem BuiltWr.snoc {w : World} {g : Nat} {xs : List Value} {k : Nat} {M : List WkD} {d : WkD} {b' : Nat} (h : BuiltWr w g xs k M) (hd : d = gWr M k) (hl : k * 11 + 10 < xs.length) (hi : OwnC (g + 1) w 1 b' 0 d.ss.length d.ss.length (d.ss.map Value.string)) :
    BuiltWr w g (layWr xs k d b') (k + 1) M := fun j hj => by
  unfold layWr
  by_cases e : j = k
  · subst e
    rw [← hd]
    refine ⟨?_, ?_, ?_, ?_, ?_, ?_, ?_, ?_, ?_, ?_, b', ?_, hi⟩
    · rw [List.getElem?_set_ne (by omega), List.getElem?_set_ne (by omega), List.getElem?_set_ne (by omega), List.getElem?_set_ne (by omega), List.getElem?_set_ne (by omega), List.getElem?_set_ne (by omega), List.getElem?_set_ne (by omega), List.getElem?_set_ne (by omega), List.getElem?_set_ne (by omega), List.getElem?_set_ne (by omega), List.getElem?_set_self (by (try simp only [List.length_set]); omega)]
    · rw [List.getElem?_set_ne (by omega), List.getElem?_set_ne (by omega), List.getElem?_set_ne (by omega), List.getElem?_set_ne (by omega), List.getElem?_set_ne (by omega), List.getElem?_set_ne (by omega), List.getElem?_set_ne (by omega), List.getElem?_set_ne (by omega), List.getElem?_set_ne (by omega), List.getElem?_set_self (by (try simp only [List.length_set]); omega)]
    · rw [List.getElem?_set_ne (by omega), List.getElem?_set_ne (by omega), List.getElem?_set_ne (by omega), List.getElem?_set_ne (by omega), List.getElem?_set_ne (by omega), List.getElem?_set_ne (by omega), List.getElem?_set_ne (by omega), List.getElem?_set_ne (by omega), List.getElem?_set_self (by (try simp only [List.length_set]); omega)]
    · rw [List.getElem?_set_ne (by omega), List.getElem?_set_ne (by omega), List.getElem?_set_ne (by omega), List.getElem?_set_ne (by omega), List.getElem?_set_ne (by omega), List.getElem?_set_ne (by omega), List.getElem?_set_ne (by omega), List.getElem?_set_self (by (try simp only [List.length_set]); omega)]
    · rw [List.getElem?_set_ne (by omega), List.getElem?_set_ne (by omega), List.getElem?_set_ne (by omega), List.getElem?_set_ne (by omega), List.getElem?_set_ne (by omega), List.getElem?_set_ne (by omega), List.getElem?_set_self (by (try simp only [List.length_set]); omega)]
    · rw [List.getElem?_set_ne (by omega), List.getElem?_set_ne (by omega), List.getElem?_set_ne (by omega), List.getElem?_set_ne (by omega), List.getElem?_set_ne (by omega), List.getElem?_set_self (by (try simp only [List.length_set]); omega)]
    · rw [List.getElem?_set_ne (by omega), List.getElem?_set_ne (by omega), List.getElem?_set_ne (by omega), List.getElem?_set_ne (by omega), List.getElem?_set_self (by (try simp only [List.length_set]); omega)]
    · rw [List.getElem?_set_ne (by omega), List.getElem?_set_ne (by omega), List.getElem?_set_ne (by omega), List.getElem?_set_self (by (try simp only [List.length_set]); omega)]
    · rw [List.getElem?_set_ne (by omega), List.getElem?_set_self (by (try simp only [List.length_set]); omega)]
    · rw [List.getElem?_set_self (by (try simp only [List.length_set]); omega)]
    · rw [List.getElem?_set_ne (by omega), List.getElem?_set_ne (by omega), List.getElem?_set_self (by (try simp only [List.length_set]); omega)]
  · obtain ⟨h0, h1, h2, h3, h4, h5, h6, h7, h9, h10, b', hn, ho⟩ := h j (by omega)
    refine ⟨?_, ?_, ?_, ?_, ?_, ?_, ?_, ?_, ?_, ?_, b', ?_, ho⟩
    · rw [List.getElem?_set_ne (by omega), List.getElem?_set_ne (by omega), List.getElem?_set_ne (by omega), List.getElem?_set_ne (by omega), List.getElem?_set_ne (by omega), List.getElem?_set_ne (by omega), List.getElem?_set_ne (by omega), List.getElem?_set_ne (by omega), List.getElem?_set_ne (by omega), List.getElem?_set_ne (by omega), List.getElem?_set_ne (by omega)]; exact h0
    · rw [List.getElem?_set_ne (by omega), List.getElem?_set_ne (by omega), List.getElem?_set_ne (by omega), List.getElem?_set_ne (by omega), List.getElem?_set_ne (by omega), List.getElem?_set_ne (by omega), List.getElem?_set_ne (by omega), List.getElem?_set_ne (by omega), List.getElem?_set_ne (by omega), List.getElem?_set_ne (by omega), List.getElem?_set_ne (by omega)]; exact h1
    · rw [List.getElem?_set_ne (by omega), List.getElem?_set_ne (by omega), List.getElem?_set_ne (by omega), List.getElem?_set_ne (by omega), List.getElem?_set_ne (by omega), List.getElem?_set_ne (by omega), List.getElem?_set_ne (by omega), List.getElem?_set_ne (by omega), List.getElem?_set_ne (by omega), List.getElem?_set_ne (by omega), List.getElem?_set_ne (by omega)]; exact h2
    · rw [List.getElem?_set_ne (by omega), List.getElem?_set_ne (by omega), List.getElem?_set_ne (by omega), List.getElem?_set_ne (by omega), List.getElem?_set_ne (by omega), List.getElem?_set_ne (by omega), List.getElem?_set_ne (by omega), List.getElem?_set_ne (by omega), List.getElem?_set_ne (by omega), List.getElem?_set_ne (by omega), List.getElem?_set_ne (by omega)]; exact h3
    · rw [List.getElem?_set_ne (by omega), List.getElem?_set_ne (by omega), List.getElem?_set_ne (by omega), List.getElem?_set_ne (by omega), List.getElem?_set_ne (by omega), List.getElem?_set_ne (by omega), List.getElem?_set_ne (by omega), List.getElem?_set_ne (by omega), List.getElem?_set_ne (by omega), List.getElem?_set_ne (by omega), List.getElem?_set_ne (by omega)]; exact h4
    · rw [List.getElem?_set_ne (by omega), List.getElem?_set_ne (by omega), List.getElem?_set_ne (by omega), List.getElem?_set_ne (by omega), List.getElem?_set_ne (by omega), List.getElem?_set_ne (by omega), List.getElem?_set_ne (by omega), List.getElem?_set_ne (by omega), List.getElem?_set_ne (by omega), List.getElem?_set_ne (by omega), List.getElem?_set_ne (by omega)]; exact h5
    · rw [List.getElem?_set_ne (by omega), List.getElem?_set_ne (by omega), List.getElem?_set_ne (by omega), List.getElem?_set_ne (by omega), List.getElem?_set_ne (by omega), List.getElem?_set_ne (by omega), List.getElem?_set_ne (by omega), List.getElem?_set_ne (by omega), List.getElem?_set_ne (by omega), List.getElem?_set_ne (by omega), List.getElem?_set_ne (by omega)]; exact h6
    · rw [List.getElem?_set_ne (by omega), List.getElem?_set_ne (by omega), List.getElem?_set_ne (by omega), List.getElem?_set_ne (by omega), List.getElem?_set_ne (by omega), List.getElem?_set_ne (by omega), List.getElem?_set_ne (by omega), List.getElem?_set_ne (by omega), List.getElem?_set_ne (by omega), List.getElem?_set_ne (by omega), List.getElem?_set_ne (by omega)]; exact h7
    · rw [List.getElem?_set_ne (by omega), List.getElem?_set_ne (by omega), List.getElem?_set_ne (by omega), List.getElem?_set_ne (by omega), List.getElem?_set_ne (by omega), List.getElem?_set_ne (by omega), List.getElem?_set_ne (by omega), List.getElem?_set_ne (by omega), List.getElem?_set_ne (by omega), List.getElem?_set_ne (by omega), List.getElem?_set_ne (by omega)]; exact h9
    · rw [List.getElem?_set_ne (by omega), List.getElem?_set_ne (by omega), List.getElem?_set_ne (by omega), List.getElem?_set_ne (by omega), List.getElem?_set_ne (by omega), List.getElem?_set_ne (by omega), List.getElem?_set_ne (by omega), List.getElem?_set_ne (by omega), List.getElem?_set_ne (by omega), List.getElem?_set_ne (by omega), List.getElem?_set_ne (by omega)]; exact h10
    · rw [List.getElem?_set_ne (by omega), List.getElem?_set_ne (by omega), List.getElem?_set_ne (by omega), List.getElem?_set_ne (by omega), List.getElem?_set_ne (by omega), List.getElem?_set_ne (by omega), List.getElem?_set_ne (by omega), List.getElem?_set_ne (by omega), List.getElem?_set_ne (by omega), List.getElem?_set_ne (by omega), List.getElem?_set_ne (by omega)]; exact hn
theorem BuiltWr.at {B : Nat} {w : World} {g n : Nat} {xs : List Value} {M : List WkD} (h : BuiltWr w g xs n M) (ho : OwnC B w 11 g 0 n n xs) (hl : M.length = n) (hx : ∀ j, j < n → (gWr M j).x.size ≤ maxLen) (hs : ∀ j, j < n → ∀ s ∈ (gWr M j).ss, s.size ≤ maxLen) (hI : ∀ j, j < n → I64 (gWr M j).nu ∧ I64 (gWr M j).ep ∧ I64 (gWr M j).st ∧ I64 (gWr M j).le ∧ I64 (gWr M j).ta ∧ I64 (gWr M j).co ∧ I64 (gWr M j).lf ∧ I64 (gWr M j).si) : WrAt w (some ⟨g, 0, none⟩) g 0 n M where
  ad := fun _ => rfl
  len := hl
  max := Nat.le_trans ho.le ho.max
  lt := fun _ => ho.hi
  c0 := fun j hj => by exact (ho.holds (j * 11) (by omega)).trans (h j hj).1
  c1 := fun j hj => by rw [Nat.add_assoc]; exact (ho.holds (j * 11 + 1) (by omega)).trans (h j hj).2.1
  c2 := fun j hj => by rw [Nat.add_assoc]; exact (ho.holds (j * 11 + 2) (by omega)).trans (h j hj).2.2.1
  c3 := fun j hj => by rw [Nat.add_assoc]; exact (ho.holds (j * 11 + 3) (by omega)).trans (h j hj).2.2.2.1
  c4 := fun j hj => by rw [Nat.add_assoc]; exact (ho.holds (j * 11 + 4) (by omega)).trans (h j hj).2.2.2.2.1
  c5 := fun j hj => by rw [Nat.add_assoc]; exact (ho.holds (j * 11 + 5) (by omega)).trans (h j hj).2.2.2.2.2.1
  c6 := fun j hj => by rw [Nat.add_assoc]; exact (ho.holds (j * 11 + 6) (by omega)).trans (h j hj).2.2.2.2.2.2.1
  c7 := fun j hj => by rw [Nat.add_assoc]; exact (ho.holds (j * 11 + 7) (by omega)).trans (h j hj).2.2.2.2.2.2.2.1
  c9 := fun j hj => by rw [Nat.add_assoc]; exact (ho.holds (j * 11 + 9) (by omega)).trans (h j hj).2.2.2.2.2.2.2.2.1
  c10 := fun j hj => by rw [Nat.add_assoc]; exact (ho.holds (j * 11 + 10) (by omega)).trans (h j hj).2.2.2.2.2.2.2.2.2.1
  cn := fun j hj => by
    obtain ⟨h0, h1, h2, h3, h4, h5, h6, h7, h9, h10, b', hn, hb⟩ := h j hj
    exact ⟨_, b', 0, _, by rw [Nat.add_assoc]; exact (ho.holds (j * 11 + 8) (by omega)).trans hn, StrsAt.ofOwn hb (hs j hj)⟩
  rng := hx
  i64 := hI
theorem OwnC.layWr {B : Nat} {w : World} {g n k : Nat} {xs : List Value} (h : OwnC B w 11 g 0 n n xs) (hk : k < n) (d : WkD) (b' : Nat) : OwnC B (w.setCells g (k * 11) [.int .i64 d.nu, .int .i64 d.ep, .bool d.up, .int .i64 d.st, .int .i64 d.le, .int .i64 d.ta, .int .i64 d.co, .int .i64 d.lf, .slice (some ⟨b', 0, none⟩) d.ss.length d.ss.length, .string d.x, .int .i64 d.si]) 11 g 0 n n (layWr xs k d b') := by
  have := (((((((((((h.setCell (j := k * 11) (by omega) (.int .i64 d.nu)).setCell (j := k * 11 + 1) (by omega) (.int .i64 d.ep)).setCell (j := k * 11 + 2) (by omega) (.bool d.up)).setCell (j := k * 11 + 3) (by omega) (.int .i64 d.st)).setCell (j := k * 11 + 4) (by omega) (.int .i64 d.le)).setCell (j := k * 11 + 5) (by omega) (.int .i64 d.ta)).setCell (j := k * 11 + 6) (by omega) (.int .i64 d.co)).setCell (j := k * 11 + 7) (by omega) (.int .i64 d.lf)).setCell (j := k * 11 + 8) (by omega) (.slice (some ⟨b', 0, none⟩) d.ss.length d.ss.length)).setCell (j := k * 11 + 9) (by omega) (.string d.x)).setCell (j := k * 11 + 10) (by omega) (.int .i64 d.si))
  simp only [Nat.zero_add] at this
  exact this

/-- A store of a whole struct, for the walk. -/
theorem wpList_store_atWr {P : Program} {ops : Array Oper} {rest : List Oper} {op : Oper} {a : Act} {w : World} {Q : Exit → Act → World → Prop} (hgd : op.guard = none) (ty : TypeId) (x y : Operand) (ho : op.op = .store ty x y)
    (p k : Nat) (vs : List Value) (hx : a.eval x = .pointer (some ⟨p, k, none⟩)) (hy : a.eval y = .agg vs.toArray) (hc : ∀ i, i < vs.length → (w.cell? ⟨p, k + i, none⟩).isSome = true ∧ w.frozen? ⟨p, k + i, none⟩ = false) (hi : (P.info? ty).map (·.size) = some vs.length) (h1 : ∀ v ∈ vs, v.oneCell' = true)
    (hK : wpList P ops Q rest (a.put op.dst undef) (w.setCells p k vs)) : wpList P ops Q (op :: rest) a w :=
  wpList_store_mid hgd ty x y ho p k vs.toArray hx hy (fun i hi => hc i (by simpa using hi)) (by simpa using hi) (all_oneCell_toArray h1) hK

set_option maxHeartbeats 2000000 in
set_option maxRecDepth 100000 in
theorem toWorkerS_any (a : Option Addr) (b o n c : Nat) (M : List WkD) (w : World) (h : WrAt w a b o n M) (hn : n ≤ 1048576) (hsm : smallWr M) :
    Calls Tryz.prog 33 #[.slice a n c] w fun e w' => ∃ g xs, e = .returned (.slice (some ⟨g, 0, none⟩) n n) ∧ OwnC w.heap.size w' 11 g 0 n n xs ∧ BuiltWr w' g xs n M ∧ WrAt w' (some ⟨g, 0, none⟩) g 0 n M ∧ Below w.heap.size w w' := by
  obtain ⟨i0, hi, hz0, hz1, hz2⟩ := info_parts Tryz.infoWr
  have hsz : (Tryz.prog.info? 72).map (·.size) = some 11 := by kernel_rfl
  have HSM := hid hsm
  clear hsm
  go_enter Tryz.func33, Tryz.ntmps33
  go_wp2_with (refine wpList_make_c _ rfl _ _ 48 rfl w.heap.size 72 i0 (.agg #[.int .i64 0, .int .i64 0, .bool false, .int .i64 0, .int .i64 0, .int .i64 0, .int .i64 0, .int .i64 0, .slice none 0 0, .string ⟨#[]⟩, .int .i64 0]) 11 112 Tryz.underlying48 hi hz0 hz1 hz2 .i64 .i64 n n n rfl rfl rfl rfl (by omega) (by unfold maxLen; omega) (Nat.le_refl _) ?_; intro w1 hown hgr)
  go_loopw [4] (fun i wr => ∃ k : Nat, k ≤ n ∧ i = .int .i64 k ∧ (∃ xs, OwnC w.heap.size wr 11 w.heap.size 0 n n xs ∧ BuiltWr wr w.heap.size xs k M) ∧ Below w.heap.size w wr) (fun i _ => n - (intOf i).toNat)
  case atStart => exact ⟨0, Nat.zero_le _, rfl, ⟨_, hown, fun j hj => absurd hj (by omega)⟩, (Below.refl _ _).grown hgr (Nat.le_refl _) (by simp)⟩
  case round =>
    obtain ⟨k, hk, rfl, ⟨xs, ho, hbu⟩, hb⟩ := hrel
    by_cases hlt : k < n
    · obtain rfl := h.ad (by omega)
      have hsk := (HSM.out k (by rw [h.len]; exact hlt)).1
      have hc0 := (h.below' hb).c0 k hlt
      have hc1 := (h.below' hb).c1 k hlt
      have hc2 := (h.below' hb).c2 k hlt
      have hc3 := (h.below' hb).c3 k hlt
      have hc4 := (h.below' hb).c4 k hlt
      have hc5 := (h.below' hb).c5 k hlt
      have hc6 := (h.below' hb).c6 k hlt
      have hc7 := (h.below' hb).c7 k hlt
      have hc9 := (h.below' hb).c9 k hlt
      have hc10 := (h.below' hb).c10 k hlt
      obtain ⟨a', b', o', c', hc8, hst⟩ := (h.below' hb).cn k hlt
      have hrx := (h.below' hb).rng k hlt
      obtain ⟨⟨nu, ep, up, st, le, ta, co, lf, ss, x, si⟩, hx⟩ : ∃ x, x = gWr M k := ⟨_, rfl⟩
      rw [← hx] at hc0 hc1 hc2 hc3 hc4 hc5 hc6 hc7 hc8 hc9 hc10 hst hrx
      dsimp only at hc0 hc1 hc2 hc3 hc4 hc5 hc6 hc7 hc8 hc9 hc10 hst hrx
      rw [← hx] at hsk
      dsimp only at hsk
      have hdl : ss.length ≤ 1048576 := by omega
      have HX := hid hx
      clear hx hsk hrx
      have hlt' : (k : Int) < (n : Int) := by omega
      have HC := hid (fun w1 hst' => toWorker_any nu ep up st le ta co lf x si a' b' o' ss.length c' ss w1 hst' hdl)
      go_wp2_with fail
      refine (HC.out _ hst).mono ?_
      rintro e' w2 ⟨⟨g2, rfl, hi2⟩, hb2⟩
      have hg2 := hi2.lo
      have ho2 := ho.below hb2 ho.hi
      have hhi := ho.hi
      have hlen : k * 11 + 10 < xs.length := by rw [ho2.len]; omega
      have hb' := hb.trans (hb2.mono hb.size)
      have hth : ∀ i, i < 11 → (w2.cell? ⟨w.heap.size, k * 11 + i, none⟩).isSome = true ∧ w2.frozen? ⟨w.heap.size, k * 11 + i, none⟩ = false := fun i hi => by
        have := ho2.there (k * 11 + i) (by omega)
        rwa [Nat.zero_add] at this
      obtain ⟨vs, hvs⟩ : ∃ vs : List Value, vs = [.int .i64 nu, .int .i64 ep, .bool up, .int .i64 st, .int .i64 le, .int .i64 ta, .int .i64 co, .int .i64 lf, .slice (some ⟨g2, 0, none⟩) ss.length ss.length, .string x, .int .i64 si] := ⟨_, rfl⟩
      have ho3 := ho2.layWr hlt ⟨nu, ep, up, st, le, ta, co, lf, ss, x, si⟩ g2
      have hi3 : OwnC (w.heap.size + 1) (w2.setCells w.heap.size (k * 11) vs) 1 g2 0 ss.length ss.length (ss.map Value.string) := (hi2.mono (show w.heap.size + 1 ≤ wr.heap.size by omega)).block (World.heap_setCells_other w2 w.heap.size _ vs hi2.hi (by omega))
      have hbu3 := (BuiltWr.setCells vs (k * 11) _ (hbu.below hb2)).snoc HX.out hlen hi3
      dsimp only at ho3
      rw [← hvs] at ho3
      have hb3 : Below w.heap.size w (w2.setCells w.heap.size (k * 11) vs) := hb'.grown (grown_setCells w.heap.size vs _ w2 w2 (World.grownBy.refl _ _)) hb'.size (fun q hq => by injection hq with hq; omega)
      have HV := hid hvs
      clear ho2 hbu hi2 hi3 ho hb2 hb' HC hst hvs
      have h1c : ∀ v ∈ [.int .i64 nu, .int .i64 ep, .bool up, .int .i64 st, .int .i64 le, .int .i64 ta, .int .i64 co, .int .i64 lf, .slice (some ⟨g2, 0, none⟩) ss.length ss.length, .string x, .int .i64 si], Value.oneCell' v = true := by
        intro v hv
        simp only [List.mem_cons, List.not_mem_nil, or_false] at hv
        rcases hv with rfl | rfl | rfl | rfl | rfl | rfl | rfl | rfl | rfl | rfl | rfl <;> rfl
      rw [HV.out] at ho3 hbu3 hb3
      go_wp2_with (refine wpList_store_atWr rfl 72 _ _ rfl w.heap.size (k * 11) [.int .i64 nu, .int .i64 ep, .bool up, .int .i64 st, .int .i64 le, .int .i64 ta, .int .i64 co, .int .i64 lf, .slice (some ⟨g2, 0, none⟩) ss.length ss.length, .string x, .int .i64 si] rfl rfl hth hsz h1c ?_; obtain ⟨w4, hw4⟩ : ∃ w4, w4 = w2.setCells w.heap.size (k * 11) [.int .i64 nu, .int .i64 ep, .bool up, .int .i64 st, .int .i64 le, .int .i64 ta, .int .i64 co, .int .i64 lf, .slice (some ⟨g2, 0, none⟩) ss.length ss.length, .string x, .int .i64 si] := ⟨_, rfl⟩; rw [← hw4] at ho3 hbu3 hb3 ⊢; clear hw4)
      go_roundw
      case rel => exact ⟨k + 1, by omega, by go_num, ⟨_, ho3, hbu3⟩, hb3⟩
      case measure => simp [intOf]; omega
    · obtain rfl : k = n := by omega
      go_wp2
      go_ret
      refine ⟨_, _, rfl, ho, hbu, hbu.at ho h.len (fun j hj => h.rng j hj) (fun j hj => ?_) h.i64, hb⟩
      obtain ⟨_, _, _, _, _, hst⟩ := h.cn j hj
      exact hst.sz

set_option maxHeartbeats 4000000 in
set_option maxRecDepth 100000 in
theorem eqWorkerS_any (a a2 : Option Addr) (b o n c b2 o2 c2 : Nat) (M : List WkD) (w : World) (h : WrAt w a b o n M) (h' : WrAt w a2 b2 o2 n M) :
    Calls Tryz.prog 38 #[.slice a n c, .slice a2 n c2] w fun e w' => e = .returned (.bool true) ∧ Below w.heap.size w w' := by
  have hmax := h.max
  unfold maxLen at hmax
  go_enter Tryz.func38, Tryz.ntmps38
  go_wp2
  go_loopw [5] (fun i wr => ∃ k : Nat, k ≤ n ∧ i = .int .i64 k ∧ Below w.heap.size w wr) (fun i _ => n - (intOf i).toNat)
  case atStart => exact ⟨0, Nat.zero_le _, rfl, Below.refl _ _⟩
  case round =>
    obtain ⟨k, hk, rfl, hb⟩ := hrel
    by_cases hlt : k < n
    · obtain rfl := h.ad (by omega)
      obtain rfl := h'.ad (by omega)
      have hd0 := (h'.below' hb).c0 k hlt
      have hd1 := (h'.below' hb).c1 k hlt
      have hd2 := (h'.below' hb).c2 k hlt
      have hd3 := (h'.below' hb).c3 k hlt
      have hd4 := (h'.below' hb).c4 k hlt
      have hd5 := (h'.below' hb).c5 k hlt
      have hd6 := (h'.below' hb).c6 k hlt
      have hd7 := (h'.below' hb).c7 k hlt
      have hd9 := (h'.below' hb).c9 k hlt
      have hd10 := (h'.below' hb).c10 k hlt
      obtain ⟨a3, b3, o3, c3, hd8, hst3⟩ := (h'.below' hb).cn k hlt
      have hc0 := (h.below' hb).c0 k hlt
      have hc1 := (h.below' hb).c1 k hlt
      have hc2 := (h.below' hb).c2 k hlt
      have hc3 := (h.below' hb).c3 k hlt
      have hc4 := (h.below' hb).c4 k hlt
      have hc5 := (h.below' hb).c5 k hlt
      have hc6 := (h.below' hb).c6 k hlt
      have hc7 := (h.below' hb).c7 k hlt
      have hc9 := (h.below' hb).c9 k hlt
      have hc10 := (h.below' hb).c10 k hlt
      obtain ⟨a', b', o', c', hc8, hst⟩ := (h.below' hb).cn k hlt
      have hrx := (h.below' hb).rng k hlt
      obtain ⟨⟨nu, ep, up, st, le, ta, co, lf, ss, x, si⟩, hx⟩ : ∃ x, x = gWr M k := ⟨_, rfl⟩
      rw [← hx] at hc0 hc1 hc2 hc3 hc4 hc5 hc6 hc7 hc8 hc9 hc10 hst hrx
      dsimp only at hc0 hc1 hc2 hc3 hc4 hc5 hc6 hc7 hc8 hc9 hc10 hst hrx
      rw [← hx] at hd0 hd1 hd2 hd3 hd4 hd5 hd6 hd7 hd8 hd9 hd10 hst3
      dsimp only at hd0 hd1 hd2 hd3 hd4 hd5 hd6 hd7 hd8 hd9 hd10 hst3
      clear hx hrx
      have hlt' : (k : Int) < (n : Int) := by omega
      have hbb : Below w.heap.size w wr.drew := hb.drew
      have HC := hid (eqWorker_any nu ep up st le ta co lf x si a' a3 b' o' ss.length c' b3 o3 c3 ss wr.drew hst.drew hst3.drew)
      clear hst hst3
      go_wp2
      go_region_held3 (fun w' => w'.cell? ⟨b, o + k * 11, none⟩ = some (.int .i64 nu) ∧ w'.cell? ⟨b, o + k * 11 + 1, none⟩ = some (.int .i64 ep) ∧ w'.cell? ⟨b, o + k * 11 + 2, none⟩ = some (.bool up) ∧ w'.cell? ⟨b, o + k * 11 + 3, none⟩ = some (.int .i64 st) ∧ w'.cell? ⟨b, o + k * 11 + 4, none⟩ = some (.int .i64 le) ∧ w'.cell? ⟨b, o + k * 11 + 5, none⟩ = some (.int .i64 ta) ∧ w'.cell? ⟨b, o + k * 11 + 6, none⟩ = some (.int .i64 co) ∧ w'.cell? ⟨b, o + k * 11 + 7, none⟩ = some (.int .i64 lf) ∧ w'.cell? ⟨b, o + k * 11 + 8, none⟩ = some (.slice a' ss.length c') ∧ w'.cell? ⟨b, o + k * 11 + 9, none⟩ = some (.string x) ∧ w'.cell? ⟨b, o + k * 11 + 10, none⟩ = some (.int .i64 si) ∧ w'.cell? ⟨b2, o2 + k * 11, none⟩ = some (.int .i64 nu) ∧ w'.cell? ⟨b2, o2 + k * 11 + 1, none⟩ = some (.int .i64 ep) ∧ w'.cell? ⟨b2, o2 + k * 11 + 2, none⟩ = some (.bool up) ∧ w'.cell? ⟨b2, o2 + k * 11 + 3, none⟩ = some (.int .i64 st) ∧ w'.cell? ⟨b2, o2 + k * 11 + 4, none⟩ = some (.int .i64 le) ∧ w'.cell? ⟨b2, o2 + k * 11 + 5, none⟩ = some (.int .i64 ta) ∧ w'.cell? ⟨b2, o2 + k * 11 + 6, none⟩ = some (.int .i64 co) ∧ w'.cell? ⟨b2, o2 + k * 11 + 7, none⟩ = some (.int .i64 lf) ∧ w'.cell? ⟨b2, o2 + k * 11 + 8, none⟩ = some (.slice a3 ss.length c3) ∧ w'.cell? ⟨b2, o2 + k * 11 + 9, none⟩ = some (.string x) ∧ w'.cell? ⟨b2, o2 + k * 11 + 10, none⟩ = some (.int .i64 si)) (first | (simp [go_sem, *]; done) | assumption)
        (first
          | (go_at_call 92; refine HC.out.mono ?_; rintro e' w1 ⟨rfl, hb1⟩; have q0 := keepC hb1 hc0; have r0 := keepC hb1 hd0; have q1 := keepC hb1 hc1; have r1 := keepC hb1 hd1; have q2 := keepC hb1 hc2; have r2 := keepC hb1 hd2; have q3 := keepC hb1 hc3; have r3 := keepC hb1 hd3; have q4 := keepC hb1 hc4; have r4 := keepC hb1 hd4; have q5 := keepC hb1 hc5; have r5 := keepC hb1 hd5; have q6 := keepC hb1 hc6; have r6 := keepC hb1 hd6; have q7 := keepC hb1 hc7; have r7 := keepC hb1 hd7; have q8 := keepC hb1 hc8; have r8 := keepC hb1 hd8; have q9 := keepC hb1 hc9; have r9 := keepC hb1 hd9; have q10 := keepC hb1 hc10; have r10 := keepC hb1 hd10))
      go_wp2
      go_roundw
      case rel => exact ⟨k + 1, by omega, by go_num, hbb.trans (hb1.mono hbb.size)⟩
      case measure => simp [intOf]; omega
    · go_wp2
      go_ret
      exact ⟨rfl, hb⟩
end Go.Proofs.YthopfmhagddhgaaGreat
