import Derived.Test.YtbfamabkbkpmpaaGreatQMark
import Derived.Test.YtbfamabkbkpmpaaGreatQLawWk
import Derived.Test.YtbfamabkbkpmpaaGreatQCel
import Derived.Test.YtbfamabkbkpmpaaGreatQEq
namespace Go.Proofs.YtbfamabkbkpmpaaGreat
open Go.RowKit

structure WkD where
  nu : Int
  ep : Int
  up : Bool
  st : Int
  le : Int
  ta : Int
  co : Int
  lf : Int
  ss : List ByteArray
  x : ByteArray
  si : Int
def dWkD : WkD := ⟨0, 0, false, 0, 0, 0, 0, 0, [], ByteArray.empty, 0⟩
def gWr (M : List WkD) (j : Nat) : WkD := M.getD j dWkD
def WkD.v (d : WkD) (a : Option Addr) (c : Nat) : Value := .agg #[.int .i64 d.nu, .int .i64 d.ep, .bool d.up, .int .i64 d.st, .int .i64 d.le, .int .i64 d.ta, .int .i64 d.co, .int .i64 d.lf, .slice a d.ss.length c, .string d.x, .int .i64 d.si]
/-- .. in memory. -/
structure WrAt (w : World) (a : Option Addr) (b o n : Nat) (M : List WkD) : Prop where
  ad : 0 < n → a = some ⟨b, o, none⟩
  len : M.length = n
  max : n ≤ maxLen
  lt : 0 < n → b < w.heap.size
  c0 : ∀ j, j < n → w.cell? ⟨b, o + j * 11, none⟩ = some (.int .i64 (gWr M j).nu)
  c1 : ∀ j, j < n → w.cell? ⟨b, o + j * 11 + 1, none⟩ = some (.int .i64 (gWr M j).ep)
  c2 : ∀ j, j < n → w.cell? ⟨b, o + j * 11 + 2, none⟩ = some (.bool (gWr M j).up)
  c3 : ∀ j, j < n → w.cell? ⟨b, o + j * 11 + 3, none⟩ = some (.int .i64 (gWr M j).st)
  c4 : ∀ j, j < n → w.cell? ⟨b, o + j * 11 + 4, none⟩ = some (.int .i64 (gWr M j).le)
  c5 : ∀ j, j < n → w.cell? ⟨b, o + j * 11 + 5, none⟩ = some (.int .i64 (gWr M j).ta)
  c6 : ∀ j, j < n → w.cell? ⟨b, o + j * 11 + 6, none⟩ = some (.int .i64 (gWr M j).co)
  c7 : ∀ j, j < n → w.cell? ⟨b, o + j * 11 + 7, none⟩ = some (.int .i64 (gWr M j).lf)
  c9 : ∀ j, j < n → w.cell? ⟨b, o + j * 11 + 9, none⟩ = some (.string (gWr M j).x)
  c10 : ∀ j, j < n → w.cell? ⟨b, o + j * 11 + 10, none⟩ = some (.int .i64 (gWr M j).si)
  cn : ∀ j, j < n → ∃ a' b' o' c', w.cell? ⟨b, o + j * 11 + 8, none⟩ = some (.slice a' (gWr M j).ss.length c') ∧ StrsAt w a' b' o' (gWr M j).ss.length (gWr M j).ss
  rng : ∀ j, j < n → (gWr M j).x.size ≤ maxLen
  i64 : ∀ j, j < n → I64 (gWr M j).nu ∧ I64 (gWr M j).ep ∧ I64 (gWr M j).st ∧ I64 (gWr M j).le ∧ I64 (gWr M j).ta ∧ I64 (gWr M j).co ∧ I64 (gWr M j).lf ∧ I64 (gWr M j).si
theorem WrAt.below' {w w' : World} {a : Option Addr} {b o n : Nat} {M : List WkD} (h : WrAt w a b o n M) (hb : Below w.heap.size w w') : WrAt w' a b o n M where
  ad := h.ad
  len := h.len
  max := h.max
  lt := fun hn => Nat.lt_of_lt_of_le (h.lt hn) hb.size
  c0 := fun j hj => (hb.cell (by exact h.lt (by omega))).trans (h.c0 j hj)
  c1 := fun j hj => (hb.cell (by exact h.lt (by omega))).trans (h.c1 j hj)
  c2 := fun j hj => (hb.cell (by exact h.lt (by omega))).trans (h.c2 j hj)
  c3 := fun j hj => (hb.cell (by exact h.lt (by omega))).trans (h.c3 j hj)
  c4 := fun j hj => (hb.cell (by exact h.lt (by omega))).trans (h.c4 j hj)
  c5 := fun j hj => (hb.cell (by exact h.lt (by omega))).trans (h.c5 j hj)
  c6 := fun j hj => (hb.cell (by exact h.lt (by omega))).trans (h.c6 j hj)
  c7 := fun j hj => (hb.cell (by exact h.lt (by omega))).trans (h.c7 j hj)
  c9 := fun j hj => (hb.cell (by exact h.lt (by omega))).trans (h.c9 j hj)
  c10 := fun j hj => (hb.cell (by exact h.lt (by omega))).trans (h.c10 j hj)
  cn := fun j hj => by
    obtain ⟨a', b', o', c', h1, h2⟩ := h.cn j hj
    exact ⟨a', b', o', c', (hb.cell (by exact h.lt (by omega))).trans h1, h2.below' hb⟩
  rng := h.rng
  i64 := h.i64

/-- How great the lists of texts in it are. -/
def smallWr (M : List WkD) : Prop := ∀ j, j < M.length → (gWr M j).ss.length + tot (gWr M j).ss ≤ 1048576 ∧ (gWr M j).x.size ≤ 1048576

theorem Tryz.infoWr : (Tryz.prog.info? 96).map (fun i => (i.zero, i.size, i.bytes)) = some (some (.agg #[.int .i64 0, .int .i64 0, .bool false, .int .i64 0, .int .i64 0, .int .i64 0, .int .i64 0, .int .i64 0, .slice none 0 0, .string ⟨#[]⟩, .int .i64 0]), 11, 112) := by kernel_rfl
/-- The first k stand in the row xs of block g; their lists lie behind block g, rows of their own. -/
def BuiltWr (w : World) (g : Nat) (xs : List Value) (k : Nat) (M : List WkD) : Prop :=
  ∀ j, j < k → xs[j * 11]? = some (.int .i64 (gWr M j).nu) ∧ xs[j * 11 + 1]? = some (.int .i64 (gWr M j).ep) ∧ xs[j * 11 + 2]? = some (.bool (gWr M j).up) ∧ xs[j * 11 + 3]? = some (.int .i64 (gWr M j).st) ∧ xs[j * 11 + 4]? = some (.int .i64 (gWr M j).le) ∧ xs[j * 11 + 5]? = some (.int .i64 (gWr M j).ta) ∧ xs[j * 11 + 6]? = some (.int .i64 (gWr M j).co) ∧ xs[j * 11 + 7]? = some (.int .i64 (gWr M j).lf) ∧ xs[j * 11 + 9]? = some (.string (gWr M j).x) ∧ xs[j * 11 + 10]? = some (.int .i64 (gWr M j).si) ∧ ∃ b', xs[j * 11 + 8]? = some (.slice (some ⟨b', 0, none⟩) (gWr M j).ss.length (gWr M j).ss.length) ∧ OwnC (g + 1) w 1 b' 0 (gWr M j).ss.length (gWr M j).ss.length ((gWr M j).ss.map Value.string)
theorem BuiltWr.below {w w' : World} {g : Nat} {xs : List Value} {k : Nat} {M : List WkD} (h : BuiltWr w g xs k M) (hb : Below w.heap.size w w') : BuiltWr w' g xs k M := fun j hj => by
  obtain ⟨h0, h1, h2, h3, h4, h5, h6, h7, h9, h10, b', hn, ho⟩ := h j hj
  exact ⟨h0, h1, h2, h3, h4, h5, h6, h7, h9, h10, b', hn, ho.below hb ho.hi⟩
theorem BuiltWr.setCell {w : World} {g : Nat} {xs : List Value} {k : Nat} {M : List WkD} (h : BuiltWr w g xs k M) {p : Addr} (hp : p.block ≤ g) (u : Value) : BuiltWr (w.setCell p u) g xs k M := fun j hj => by
  obtain ⟨h0, h1, h2, h3, h4, h5, h6, h7, h9, h10, b', hn, ho⟩ := h j hj
  exact ⟨h0, h1, h2, h3, h4, h5, h6, h7, h9, h10, b', hn, ho.setOther (by have := ho.lo; omega) _⟩
theorem BuiltWr.setCells {g : Nat} {xs : List Value} {k : Nat} {M : List WkD} : ∀ (vs : List Value) (o : Nat) (w : World), BuiltWr w g xs k M → BuiltWr (w.setCells g o vs) g xs k M
  | [], _, _, h => h
  | v :: r, o, _, h => BuiltWr.setCells r (o + 1) _ (h.setCell (p := ⟨g, o, none⟩) (Nat.le_refl _) v)
/-- A row of cells with others laid into it. -/
def layWr (xs : List Value) (k : Nat) (d : WkD) (b' : Nat) : List Value := (((((((((((xs.set (k * 11) (.int .i64 d.nu)).set (k * 11 + 1) (.int .i64 d.ep)).set (k * 11 + 2) (.bool d.up)).set (k * 11 + 3) (.int .i64 d.st)).set (k * 11 + 4) (.int .i64 d.le)).set (k * 11 + 5) (.int .i64 d.ta)).set (k * 11 + 6) (.int .i64 d.co)).set (k * 11 + 7) (.int .i64 d.lf)).set (k * 11 + 8) (.slice (some ⟨b', 0, none⟩) d.ss.length d.ss.length)).set (k * 11 + 9) (.string d.x)).set (k * 11 + 10) (.int .i64 d.si))
theorem BuiltWr.snoc {w : World} {g : Nat} {xs : List Value} {k : Nat} {M : List WkD} {d : WkD} {b' : Nat} (h : BuiltWr w g xs k M) (hd : d = gWr M k) (hl : k * 11 + 10 < xs.length) (hi : OwnC (g + 1) w 1 b' 0 d.ss.length d.ss.length (d.ss.map Value.string)) :
    BuiltWr w g (layWr xs k d b') (k + 1) M := fun j hj => by
  unfold layWr
  by_cases e : j = k
  · subst e
    rw [← hd]
    refine ⟨?_, ?_, ?_, ?_, ?_, ?_, ?_, ?_, ?_, ?_, b', ?_, hi⟩
    · rw [List.getElem?_set_ne (by omega), List.getElem?_set_ne (by omega), List.getElem?_set_ne (by omega), List.getElem?_set_ne (by omega), List.getElem?_set_ne (by omega), List.getElem?_set_ne (by omega), List.getElem?_set_ne (by omega), List.getElem?_set_ne (by omega), List.getElem?_set_ne (by omega), List.getElem?_set_ne (by omega), List.getElem?_set_self (by (try simp only [List.length_set]); omega)]
    · rw [List.getElem?_set_ne (by omega), List.getElem?_set_ne (by omega), List.getElem?_set_ne (by omega), List.getElem?_set_ne (by omega), List.getElem?_set_ne (by omega), List.getElem?_set_ne (by omega), List.getElem?_set_ne (by omega), List.getElem?_set_ne (by omega), List.getElem?_set_ne (by omega), List.getElem?_set_self (by (try simp only [List.length_set]); omega)]
    · rw [List.getElem?_set_ne (by omega), List.getElem?_set_ne (by omega), List.getElem?_set_ne (by omega), List.getElem?_set_ne (by omega), List.getElem?_set_ne (by omega), List.getElem?_set_ne (by omega), List.getElem?_set_ne (by omega), List.getElem?_set_ne (by omega), List.getElem?_set_self (by (try simp only [List.length_set]); omega)]
    · rw [List.getElem?_set_ne (by omega), List.getElem?_set_ne (by omega), List.getElem?_set_ne (by omega), List.getElem?_set_ne (by omega), List.getElem?_set_ne (by omega), List.getElem?_set_ne (by omega), List.getElem?_set_ne (by omega), List.getElem?_set_self (by (try simp only [List.length_set]); omega)]
    · rw [List.getElem?_set_ne (by omega), List.getElem?_set_ne (by omega), List.getElem?_set_ne (by omega), List.getElem?_set_ne (by omega), List.getElem?_set_ne (by omega), List.getElem?_set_ne (by omega), List.getElem?_set_self (by (try simp only [List.length_set]); omega)]
    · rw [List.getElem?_set_ne (by omega), List.getElem?_set_ne (by omega), List.getElem?_set_ne (by omega), List.getElem?_set_ne (by omega), List.getElem?_set_ne (by omega), List.getElem?_set_self (by (try simp only [List.length_set]); omega)]
    · rw [List.getElem?_set_ne (by omega), List.getElem?_set_ne (by omega), List.getElem?_set_ne (by omega), List.getElem?_set_ne (by omega), List.getElem?_set_self (by (try simp only [List.length_set]); omega)]
    · rw [List.getElem?_set_ne (by omega), List.getElem?_set_ne (by omega), List.getElem?_set_ne (by omega), List.getElem?_set_self (by (try simp only [List.length_set]); omega)]
    · rw [List.getElem?_set_ne (by omega), List.getElem?_set_self (by (try simp only [List.length_set]); omega)]
    · rw [List.getElem?_set_self (by (try simp only [List.length_set]); omega)]
    · rw [List.getElem?_set_ne (by omega), List.getElem?_set_ne (by omega), List.getElem?_set_self (by (try simp only [List.length_set]); omega)]
  · obtain ⟨h0, h1, h2, h3, h4, h5, h6, h7, h9, h10, b', hn, ho⟩ := h j (by omega)
    refine ⟨?_, ?_, ?_, ?_, ?_, ?_, ?_, ?_, ?_, ?_, b', ?_, ho⟩
    · rw [List.getElem?_set_ne (by omega), List.getElem?_set_ne (by omega), List.getElem?_set_ne (by omega), List.getElem?_set_ne (by omega), List.getElem?_set_ne (by omega), List.getElem?_set_ne (by omega), List.getElem?_set_ne (by omega), List.getElem?_set_ne (by omega), List.getElem?_set_ne (by omega), List.getElem?_set_ne (by omega), List.getElem?_set_ne (by omega)]; exact h0
    · rw [List.getElem?_set_ne (by omega), List.getElem?_set_ne (by omega), List.getElem?_set_ne (by omega), List.getElem?_set_ne (by omega), List.getElem?_set_ne (by omega), List.getElem?_set_ne (by omega), List.getElem?_set_ne (by omega), List.getElem?_set_ne (by omega), List.getElem?_set_ne (by omega), List.getElem?_set_ne (by omega), List.getElem?_set_ne (by omega)]; exact h1
    · rw [List.getElem?_set_ne (by omega), List.getElem?_set_ne (by omega), List.getElem?_set_ne (by omega), List.getElem?_set_ne (by omega), List.getElem?_set_ne (by omega), List.getElem?_set_ne (by omega), List.getElem?_set_ne (by omega), List.getElem?_set_ne (by omega), List.getElem?_set_ne (by omega), List.getElem?_set_ne (by omega), List.getElem?_set_ne (by omega)]; exact h2
    · rw [List.getElem?_set_ne (by omega), List.getElem?_set_ne (by omega), List.getElem?_set_ne (by omega), List.getElem?_set_ne (by omega), List.getElem?_set_ne (by omega), List.getElem?_set_ne (by omega), List.getElem?_set_ne (by omega), List.getElem?_set_ne (by omega), List.getElem?_set_ne (by omega), List.getElem?_set_ne (by omega), List.getElem?_set_ne (by omega)]; exact h3
    · rw [List.getElem?_set_ne (by omega), List.getElem?_set_ne (by omega), List.getElem?_set_ne (by omega), List.getElem?_set_ne (by omega), List.getElem?_set_ne (by omega), List.getElem?_set_ne (by omega), List.getElem?_set_ne (by omega), List.getElem?_set_ne (by omega), List.getElem?_set_ne (by omega), List.getElem?_set_ne (by omega), List.getElem?_set_ne (by omega)]; exact h4
    · rw [List.getElem?_set_ne (by omega), List.getElem?_set_ne (by omega), List.getElem?_set_ne (by omega), List.getElem?_set_ne (by omega), List.getElem?_set_ne (by omega), List.getElem?_set_ne (by omega), List.getElem?_set_ne (by omega), List.getElem?_set_ne (by omega), List.getElem?_set_ne (by omega), List.getElem?_set_ne (by omega), List.getElem?_set_ne (by omega)]; exact h5
    · rw [List.getElem?_set_ne (by omega), List.getElem?_set_ne (by omega), List.getElem?_set_ne (by omega), List.getElem?_set_ne (by omega), List.getElem?_set_ne (by omega), List.getElem?_set_ne (by omega), List.getElem?_set_ne (by omega), List.getElem?_set_ne (by omega), List.getElem?_set_ne (by omega), List.getElem?_set_ne (by omega), List.getElem?_set_ne (by omega)]; exact h6
    · rw [List.getElem?_set_ne (by omega), List.getElem?_set_ne (by omega), List.getElem?_set_ne (by omega), List.getElem?_set_ne (by omega), List.getElem?_set_ne (by omega), List.getElem?_set_ne (by omega), List.getElem?_set_ne (by omega), List.getElem?_set_ne (by omega), List.getElem?_set_ne (by omega), List.getElem?_set_ne (by omega), List.getElem?_set_ne (by omega)]; exact h7
    · rw [List.getElem?_set_ne (by omega), List.getElem?_set_ne (by omega), List.getElem?_set_ne (by omega), List.getElem?_set_ne (by omega), List.getElem?_set_ne (by omega), List.getElem?_set_ne (by omega), List.getElem?_set_ne (by omega), List.getElem?_set_ne (by omega), List.getElem?_set_ne (by omega), List.getElem?_set_ne (by omega), List.getElem?_set_ne (by omega)]; exact h9
    · rw [List.getElem?_set_ne (by omega), List.getElem?_set_ne (by omega), List.getElem?_set_ne (by omega), List.getElem?_set_ne (by omega), List.getElem?_set_ne (by omega), List.getElem?_set_ne (by omega), List.getElem?_set_ne (by omega), List.getElem?_set_ne (by omega), List.getElem?_set_ne (by omega), List.getElem?_set_ne (by omega), List.getElem?_set_ne (by omega)]; exact h10
    · rw [List.getElem?_set_ne (by omega), List.getElem?_set_ne (by omega), List.getElem?_set_ne (by omega), List.getElem?_set_ne (by omega), List.getElem?_set_ne (by omega), List.getElem?_set_ne (by omega), List.getElem?_set_ne (by omega), List.getElem?_set_ne (by omega), List.getElem?_set_ne (by omega), List.getElem?_set_ne (by omega), List.getElem?_set_ne (by omega)]; exact hn
theorem BuiltWr.at {B : Nat} {w : World} {g n : Nat} {xs : List Value} {M : List WkD} (h : BuiltWr w g xs n M) (ho : OwnC B w 11 g 0 n n xs) (hl : M.length = n) (hx : ∀ j, j < n → (gWr M j).x.size ≤ maxLen) (hs : ∀ j, j < n → ∀ s ∈ (gWr M j).ss, s.size ≤ maxLen) (hI : ∀ j, j < n → I64 (gWr M j).nu ∧ I64 (gWr M j).ep ∧ I64 (gWr M j).st ∧ I64 (gWr M j).le ∧ I64 (gWr M j).ta ∧ I64 (gWr M j).co ∧ I64 (gWr M j).lf ∧ I64 (gWr M j).si) : WrAt w (some ⟨g, 0, none⟩) g 0 n M where
  ad := fun _ => rfl
  len := hl
  max := Nat.le_trans ho.le ho.max
  lt := fun _ => ho.hi
  c0 := fun j hj => by exact (ho.holds (j * 11) (by omega)).trans (h j hj).1
  c1 := fun j hj => by rw [Nat.add_assoc]; exact (ho.holds (j * 11 + 1) (by omega)).trans (h j hj).2.1
  c2 := fun j hj => by rw [Nat.add_assoc]; exact (ho.holds (j * 11 + 2) (by omega)).trans (h j hj).2.2.1
  c3 := fun j hj => by rw [Nat.add_assoc]; exact (ho.holds (j * 11 + 3) (by omega)).trans (h j hj).2.2.2.1
  c4 := fun j hj => by rw [Nat.add_assoc]; exact (ho.holds (j * 11 + 4) (by omega)).trans (h j hj).2.2.2.2.1
  c5 := fun j hj => by rw [Nat.add_assoc]; exact (ho.holds (j * 11 + 5) (by omega)).trans (h j hj).2.2.2.2.2.1
  c6 := fun j hj => by rw [Nat.add_assoc]; exact (ho.holds (j * 11 + 6) (by omega)).trans (h j hj).2.2.2.2.2.2.1
  c7 := fun j hj => by rw [Nat.add_assoc]; exact (ho.holds (j * 11 + 7) (by omega)).trans (h j hj).2.2.2.2.2.2.2.1
  c9 := fun j hj => by rw [Nat.add_assoc]; exact (ho.holds (j * 11 + 9) (by omega)).trans (h j hj).2.2.2.2.2.2.2.2.1
  c10 := fun j hj => by rw [Nat.add_assoc]; exact (ho.holds (j * 11 + 10) (by omega)).trans (h j hj).2.2.2.2.2.2.2.2.2.1
  cn := fun j hj => by
    obtain ⟨h0, h1, h2, h3, h4, h5, h6, h7, h9, h10, b', hn, hb⟩ := h j hj
    exact ⟨_, b', 0, _, by rw [Nat.add_assoc]; exact (ho.holds (j * 11 + 8) (by omega)).trans hn, StrsAt.ofOwn hb (hs j hj)⟩
  rng := hx
  i64 := hI
theorem OwnC.layWr {B : Nat} {w : World} {g n k : Nat} {xs : List Value} (h : OwnC B w 11 g 0 n n xs) (hk : k < n) (d : WkD) (b' : Nat) : OwnC B (w.setCells g (k * 11) [.int .i64 d.nu, .int .i64 d.ep, .bool d.up, .int .i64 d.st, .int .i64 d.le, .int .i64 d.ta, .int .i64 d.co, .int .i64 d.lf, .slice (some ⟨b', 0, none⟩) d.ss.length d.ss.length, .string d.x, .int .i64 d.si]) 11 g 0 n n (layWr xs k d b') := by
  have := (((((((((((h.setCell (j := k * 11) (by omega) (.int .i64 d.nu)).setCell (j := k * 11 + 1) (by omega) (.int .i64 d.ep)).setCell (j := k * 11 + 2) (by omega) (.bool d.up)).setCell (j := k * 11 + 3) (by omega) (.int .i64 d.st)).setCell (j := k * 11 + 4) (by omega) (.int .i64 d.le)).setCell (j := k * 11 + 5) (by omega) (.int .i64 d.ta)).setCell (j := k * 11 + 6) (by omega) (.int .i64 d.co)).setCell (j := k * 11 + 7) (by omega) (.int .i64 d.lf)).setCell (j := k * 11 + 8) (by omega) (.slice (some ⟨b', 0, none⟩) d.ss.length d.ss.length)).setCell (j := k * 11 + 9) (by omega) (.string d.x)).setCell (j := k * 11 + 10) (by omega) (.int .i64 d.si))
  simp only [Nat.zero_add] at this
  exact this

/-- A store of a whole struct, for the walk. -/
theorem wpList_store_atWr {P : Program} {ops : Array Oper} {rest : List Oper} {op : Oper} {a : Act} {w : World} {Q : Exit → Act → World → Prop} (hgd : op.guard = none) (ty : TypeId) (x y : Operand) (ho : op.op = .store ty x y)
    (p k : Nat) (vs : List Value) (hx : a.eval x = .pointer (some ⟨p, k, none⟩)) (hy : a.eval y = .agg vs.toArray) (hc : ∀ i, i < vs.length → (w.cell? ⟨p, k + i, none⟩).isSome = true ∧ w.frozen? ⟨p, k + i, none⟩ = false) (hi : (P.info? ty).map (·.size) = some vs.length) (h1 : ∀ v ∈ vs, v.oneCell' = true)
    (hK : wpList P ops Q rest (a.put op.dst undef) (w.setCells p k vs)) : wpList P ops Q (op :: rest) a w :=
  wpList_store_mid hgd ty x y ho p k vs.toArray hx hy (fun i hi => hc i (by simpa using hi)) (by simpa using hi) (all_oneCell_toArray h1) hK

set_option maxHeartbeats 4000000 in
set_option maxRecDepth 100000 in
theorem eqWorkerS_any (a a2 : Option Addr) (b o n c b2 o2 c2 : Nat) (M : List WkD) (w : World) (h : WrAt w a b o n M) (h' : WrAt w a2 b2 o2 n M) :
    Calls Tryz.prog 63 #[.slice a n c, .slice a2 n c2] w fun e w' => e = .returned (.bool true) ∧ Below w.heap.size w w' := by
  have hmax := h.max
  unfold maxLen at hmax
  go_enter Tryz.func63, Tryz.ntmps63
  go_wp2
  go_loopw [5] (fun i wr => ∃ k : Nat, k ≤ n ∧ i = .int .i64 k ∧ Below w.heap.size w wr) (fun i _ => n - (intOf i).toNat)
  case atStart => exact ⟨0, Nat.zero_le _, rfl, Below.refl _ _⟩
  case round =>
    obtain ⟨k, hk, rfl, hb⟩ := hrel
    by_cases hlt : k < n
    · obtain rfl := h.ad (by omega)
      obtain rfl := h'.ad (by omega)
      have hd0 := (h'.below' hb).c0 k hlt
      have hd1 := (h'.below' hb).c1 k hlt
      have hd2 := (h'.below' hb).c2 k hlt
      have hd3 := (h'.below' hb).c3 k hlt
      have hd4 := (h'.below' hb).c4 k hlt
      have hd5 := (h'.below' hb).c5 k hlt
      have hd6 := (h'.below' hb).c6 k hlt
      have hd7 := (h'.below' hb).c7 k hlt
      have hd9 := (h'.below' hb).c9 k hlt
      have hd10 := (h'.below' hb).c10 k hlt
      obtain ⟨a3, b3, o3, c3, hd8, hst3⟩ := (h'.below' hb).cn k hlt
      have hc0 := (h.below' hb).c0 k hlt
      have hc1 := (h.below' hb).c1 k hlt
      have hc2 := (h.below' hb).c2 k hlt
      have hc3 := (h.below' hb).c3 k hlt
      have hc4 := (h.below' hb).c4 k hlt
      have hc5 := (h.below' hb).c5 k hlt
      have hc6 := (h.below' hb).c6 k hlt
      have hc7 := (h.below' hb).c7 k hlt
      have hc9 := (h.below' hb).c9 k hlt
      have hc10 := (h.below' hb).c10 k hlt
      obtain ⟨a', b', o', c', hc8, hst⟩ := (h.below' hb).cn k hlt
      have hrx := (h.below' hb).rng k hlt
      obtain ⟨⟨nu, ep, up, st, le, ta, co, lf, ss, x, si⟩, hx⟩ : ∃ x, x = gWr M k := ⟨_, rfl⟩
      rw [← hx] at hc0 hc1 hc2 hc3 hc4 hc5 hc6 hc7 hc8 hc9 hc10 hst hrx
      dsimp only at hc0 hc1 hc2 hc3 hc4 hc5 hc6 hc7 hc8 hc9 hc10 hst hrx
      rw [← hx] at hd0 hd1 hd2 hd3 hd4 hd5 hd6 hd7 hd8 hd9 hd10 hst3
      dsimp only at hd0 hd1 hd2 hd3 hd4 hd5 hd6 hd7 hd8 hd9 hd10 hst3
      clear hx hrx
      have hlt' : (k : Int) < (n : Int) := by omega
      have hbb : Below w.heap.size w wr.drew := hb.drew
      have HC := hid (eqWorker_any nu ep up st le ta co lf x si a' a3 b' o' ss.length c' b3 o3 c3 ss wr.drew hst.drew hst3.drew)
      clear hst hst3
      go_wp2
      go_region_held3 (fun w' => w'.cell? ⟨b, o + k * 11, none⟩ = some (.int .i64 nu) ∧ w'.cell? ⟨b, o + k * 11 + 1, none⟩ = some (.int .i64 ep) ∧ w'.cell? ⟨b, o + k * 11 + 2, none⟩ = some (.bool up) ∧ w'.cell? ⟨b, o + k * 11 + 3, none⟩ = some (.int .i64 st) ∧ w'.cell? ⟨b, o + k * 11 + 4, none⟩ = some (.int .i64 le) ∧ w'.cell? ⟨b, o + k * 11 + 5, none⟩ = some (.int .i64 ta) ∧ w'.cell? ⟨b, o + k * 11 + 6, none⟩ = some (.int .i64 co) ∧ w'.cell? ⟨b, o + k * 11 + 7, none⟩ = some (.int .i64 lf) ∧ w'.cell? ⟨b, o + k * 11 + 8, none⟩ = some (.slice a' ss.length c') ∧ w'.cell? ⟨b, o + k * 11 + 9, none⟩ = some (.string x) ∧ w'.cell? ⟨b, o + k * 11 + 10, none⟩ = some (.int .i64 si) ∧ w'.cell? ⟨b2, o2 + k * 11, none⟩ = some (.int .i64 nu) ∧ w'.cell? ⟨b2, o2 + k * 11 + 1, none⟩ = some (.int .i64 ep) ∧ w'.cell? ⟨b2, o2 + k * 11 + 2, none⟩ = some (.bool up) ∧ w'.cell? ⟨b2, o2 + k * 11 + 3, none⟩ = some (.int .i64 st) ∧ w'.cell? ⟨b2, o2 + k * 11 + 4, none⟩ = some (.int .i64 le) ∧ w'.cell? ⟨b2, o2 + k * 11 + 5, none⟩ = some (.int .i64 ta) ∧ w'.cell? ⟨b2, o2 + k * 11 + 6, none⟩ = some (.int .i64 co) ∧ w'.cell? ⟨b2, o2 + k * 11 + 7, none⟩ = some (.int .i64 lf) ∧ w'.cell? ⟨b2, o2 + k * 11 + 8, none⟩ = some (.slice a3 ss.length c3) ∧ w'.cell? ⟨b2, o2 + k * 11 + 9, none⟩ = some (.string x) ∧ w'.cell? ⟨b2, o2 + k * 11 + 10, none⟩ = some (.int .i64 si)) (first | (simp [go_sem, *]; done) | assumption)
        (first
          | (go_at_call 102; refine HC.out.mono ?_; rintro e' w1 ⟨rfl, hb1⟩; have q0 := keepC hb1 hc0; have r0 := keepC hb1 hd0; have q1 := keepC hb1 hc1; have r1 := keepC hb1 hd1; have q2 := keepC hb1 hc2; have r2 := keepC hb1 hd2; have q3 := keepC hb1 hc3; have r3 := keepC hb1 hd3; have q4 := keepC hb1 hc4; have r4 := keepC hb1 hd4; have q5 := keepC hb1 hc5; have r5 := keepC hb1 hd5; have q6 := keepC hb1 hc6; have r6 := keepC hb1 hd6; have q7 := keepC hb1 hc7; have r7 := keepC hb1 hd7; have q8 := keepC hb1 hc8; have r8 := keepC hb1 hd8; have q9 := keepC hb1 hc9; have r9 := keepC hb1 hd9; have q10 := keepC hb1 hc10; have r10 := keepC hb1 hd10))
      go_wp2
      go_roundw
      case rel => exact ⟨k + 1, by omega, by go_num, hbb.trans (hb1.mono hbb.size)⟩
      case measure => simp [intOf]; omega
    · go_wp2
      go_ret
      exact ⟨rfl, hb⟩
end Go.Proofs.YtbfamabkbkpmpaaGreat
