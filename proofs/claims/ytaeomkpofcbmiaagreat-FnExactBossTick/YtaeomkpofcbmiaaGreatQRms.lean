import Derived.Test.YtaeomkpofcbmiaaGreatQLawVal
import Derived.Test.YtaeomkpofcbmiaaGreatQMark
import Derived.Test.YtaeomkpofcbmiaaGreatQCel
import Derived.Test.YtaeomkpofcbmiaaGreatQEq
namespace Go.Proofs.YtaeomkpofcbmiaaGreat
open Go.RowKit

set_option maxHeartbeats 1000000 in
theorem eqMessage_any (k f t e l d : Int) (x : ByteArray) (a a' : Option Addr) (b o n c b' o' c' : Nat) (ss : List ByteArray) (w : World) (h : StrsAt w a b o n ss) (h' : StrsAt w a' b' o' n ss) :
    Calls Tryz.prog 79 #[.agg #[.int .i64 k, .int .i64 f, .int .i64 t, .int .i64 e, .int .i64 l, .int .i64 d, .string x, .slice a n c], .agg #[.int .i64 k, .int .i64 f, .int .i64 t, .int .i64 e, .int .i64 l, .int .i64 d, .string x, .slice a' n c']] w fun e w' => e = .returned (.bool true) ∧ Below w.heap.size w w' := by
  obtain ⟨W, hW⟩ : ∃ W, W = (w.alloc (.cells #[.int .i64 k, .int .i64 f, .int .i64 t, .int .i64 e, .int .i64 l, .int .i64 d, .string x, .slice a n c] 71)).alloc (.cells #[.int .i64 k, .int .i64 f, .int .i64 t, .int .i64 e, .int .i64 l, .int .i64 d, .string x, .slice a' n c'] 71) := ⟨_, rfl⟩
  have hb0 : Below w.heap.size w W := by rw [hW]; exact ((Below.refl _ _).alloc (Nat.le_refl _) _).alloc (by simp) _
  go_enter Tryz.func79, Tryz.ntmps79
  go_wp2_with fail
  rw [← hW]
  refine (eqStringS_any a a' b o n c b' o' c' ss _ (h.below' hb0) (h'.below' hb0)).mono ?_
  rintro e' w1 ⟨rfl, hb1⟩
  clear hW
  have hb := hb0.trans (hb1.mono hb0.size)
  go_wp2
  go_ret
  exact ⟨rfl, hb⟩

end Go.Proofs.YtaeomkpofcbmiaaGreat

namespace Go.Proofs.YtaeomkpofcbmiaaGreat
open Go.RowKit

structure MgD where
  kd : Int
  fm : Int
  tw : Int
  ep : Int
  le : Int
  ta : Int
  x : ByteArray
  ss : List ByteArray
def dMgD : MgD := ⟨0, 0, 0, 0, 0, 0, ByteArray.empty, []⟩
def gMs (M : List MgD) (j : Nat) : MgD := M.getD j dMgD
def MgD.v (d : MgD) (a : Option Addr) (c : Nat) : Value := .agg #[.int .i64 d.kd, .int .i64 d.fm, .int .i64 d.tw, .int .i64 d.ep, .int .i64 d.le, .int .i64 d.ta, .string d.x, .slice a d.ss.length c]
/-- .. in memory. -/
structure MsAt (w : World) (a : Option Addr) (b o n : Nat) (M : List MgD) : Prop where
  ad : 0 < n → a = some ⟨b, o, none⟩
  len : M.length = n
  max : n ≤ maxLen
  lt : 0 < n → b < w.heap.size
  c0 : ∀ j, j < n → w.cell? ⟨b, o + j * 8, none⟩ = some (.int .i64 (gMs M j).kd)
  c1 : ∀ j, j < n → w.cell? ⟨b, o + j * 8 + 1, none⟩ = some (.int .i64 (gMs M j).fm)
  c2 : ∀ j, j < n → w.cell? ⟨b, o + j * 8 + 2, none⟩ = some (.int .i64 (gMs M j).tw)
  c3 : ∀ j, j < n → w.cell? ⟨b, o + j * 8 + 3, none⟩ = some (.int .i64 (gMs M j).ep)
  c4 : ∀ j, j < n → w.cell? ⟨b, o + j * 8 + 4, none⟩ = some (.int .i64 (gMs M j).le)
  c5 : ∀ j, j < n → w.cell? ⟨b, o + j * 8 + 5, none⟩ = some (.int .i64 (gMs M j).ta)
  c6 : ∀ j, j < n → w.cell? ⟨b, o + j * 8 + 6, none⟩ = some (.string (gMs M j).x)
  cn : ∀ j, j < n → ∃ a' b' o' c', w.cell? ⟨b, o + j * 8 + 7, none⟩ = some (.slice a' (gMs M j).ss.length c') ∧ StrsAt w a' b' o' (gMs M j).ss.length (gMs M j).ss
  rng : ∀ j, j < n → (gMs M j).x.size ≤ maxLen
  i64 : ∀ j, j < n → I64 (gMs M j).kd ∧ I64 (gMs M j).fm ∧ I64 (gMs M j).tw ∧ I64 (gMs M j).ep ∧ I64 (gMs M j).le ∧ I64 (gMs M j).ta
theorem MsAt.below' {w w' : World} {a : Option Addr} {b o n : Nat} {M : List MgD} (h : MsAt w a b o n M) (hb : Below w.heap.size w w') : MsAt w' a b o n M where
  ad := h.ad
  len := h.len
  max := h.max
  lt := fun hn => Nat.lt_of_lt_of_le (h.lt hn) hb.size
  c0 := fun j hj => (hb.cell (by exact h.lt (by omega))).trans (h.c0 j hj)
  c1 := fun j hj => (hb.cell (by exact h.lt (by omega))).trans (h.c1 j hj)
  c2 := fun j hj => (hb.cell (by exact h.lt (by omega))).trans (h.c2 j hj)
  c3 := fun j hj => (hb.cell (by exact h.lt (by omega))).trans (h.c3 j hj)
  c4 := fun j hj => (hb.cell (by exact h.lt (by omega))).trans (h.c4 j hj)
  c5 := fun j hj => (hb.cell (by exact h.lt (by omega))).trans (h.c5 j hj)
  c6 := fun j hj => (hb.cell (by exact h.lt (by omega))).trans (h.c6 j hj)
  cn := fun j hj => by
    obtain ⟨a', b', o', c', h1, h2⟩ := h.cn j hj
    exact ⟨a', b', o', c', (hb.cell (by exact h.lt (by omega))).trans h1, h2.below' hb⟩
  rng := h.rng
  i64 := h.i64

/-- How great the lists of texts in it are. -/
def smallMs (M : List MgD) : Prop := ∀ j, j < M.length → (gMs M j).ss.length + tot (gMs M j).ss ≤ 1048576 ∧ (gMs M j).x.size ≤ 1048576

theorem Tryz.infoMs : (Tryz.prog.info? 71).map (fun i => (i.zero, i.size, i.bytes)) = some (some (.agg #[.int .i64 0, .int .i64 0, .int .i64 0, .int .i64 0, .int .i64 0, .int .i64 0, .string ⟨#[]⟩, .slice none 0 0]), 8, 88) := by kernel_rfl
/-- The first k stand in the row xs of block g; their lists lie behind block g, rows of their own. -/
def BuiltMs (w : World) (g : Nat) (xs : List Value) (k : Nat) (M : List MgD) : Prop :=
  ∀ j, j < k → xs[j * 8]? = some (.int .i64 (gMs M j).kd) ∧ xs[j * 8 + 1]? = some (.int .i64 (gMs M j).fm) ∧ xs[j * 8 + 2]? = some (.int .i64 (gMs M j).tw) ∧ xs[j * 8 + 3]? = some (.int .i64 (gMs M j).ep) ∧ xs[j * 8 + 4]? = some (.int .i64 (gMs M j).le) ∧ xs[j * 8 + 5]? = some (.int .i64 (gMs M j).ta) ∧ xs[j * 8 + 6]? = some (.string (gMs M j).x) ∧ ∃ b', xs[j * 8 + 7]? = some (.slice (some ⟨b', 0, none⟩) (gMs M j).ss.length (gMs M j).ss.length) ∧ OwnC (g + 1) w 1 b' 0 (gMs M j).ss.length (gMs M j).ss.length ((gMs M j).ss.map Value.string)
theorem BuiltMs.below {w w' : World} {g : Nat} {xs : List Value} {k : Nat} {M : List MgD} (h : BuiltMs w g xs k M) (hb : Below w.heap.size w w') : BuiltMs w' g xs k M := fun j hj => by
  obtain ⟨h0, h1, h2, h3, h4, h5, h6, b', hn, ho⟩ := h j hj
  exact ⟨h0, h1, h2, h3, h4, h5, h6, b', hn, ho.below hb ho.hi⟩
theorem BuiltMs.setCell {w : World} {g : Nat} {xs : List Value} {k : Nat} {M : List MgD} (h : BuiltMs w g xs k M) {p : Addr} (hp : p.block ≤ g) (u : Value) : BuiltMs (w.setCell p u) g xs k M := fun j hj => by
  obtain ⟨h0, h1, h2, h3, h4, h5, h6, b', hn, ho⟩ := h j hj
  exact ⟨h0, h1, h2, h3, h4, h5, h6, b', hn, ho.setOther (by have := ho.lo; omega) _⟩
theorem BuiltMs.setCells {g : Nat} {xs : List Value} {k : Nat} {M : List MgD} : ∀ (vs : List Value) (o : Nat) (w : World), BuiltMs w g xs k M → BuiltMs (w.setCells g o vs) g xs k M
  | [], _, _, h => h
  | v :: r, o, _, h => BuiltMs.setCells r (o + 1) _ (h.setCell (p := ⟨g, o, none⟩) (Nat.le_refl _) v)
/-- A row of cells with others laid into it. -/
def layMs (xs : List Value) (k : Nat) (d : MgD) (b' : Nat) : List Value := ((((((((xs.set (k * 8) (.int .i64 d.kd)).set (k * 8 + 1) (.int .i64 d.fm)).set (k * 8 + 2) (.int .i64 d.tw)).set (k * 8 + 3) (.int .i64 d.ep)).set (k * 8 + 4) (.int .i64 d.le)).set (k * 8 + 5) (.int .i64 d.ta)).set (k * 8 + 6) (.string d.x)).set (k * 8 + 7) (.slice (some ⟨b', 0, none⟩) d.ss.length d.ss.length))
theorem BuiltMs.snoc {w : World} {g : Nat} {xs : List Value} {k : Nat} {M : List MgD} {d : MgD} {b' : Nat} (h : BuiltMs w g xs k M) (hd : d = gMs M k) (hl : k * 8 + 7 < xs.length) (hi : OwnC (g + 1) w 1 b' 0 d.ss.length d.ss.length (d.ss.map Value.string)) :
    BuiltMs w g (layMs xs k d b') (k + 1) M := fun j hj => by
  unfold layMs
  by_cases e : j = k
  · subst e
    rw [← hd]
    refine ⟨?_, ?_, ?_, ?_, ?_, ?_, ?_, b', ?_, hi⟩
    · rw [List.getElem?_set_ne (by omega), List.getElem?_set_ne (by omega), List.getElem?_set_ne (by omega), List.getElem?_set_ne (by omega), List.getElem?_set_ne (by omega), List.getElem?_set_ne (by omega), List.getElem?_set_ne (by omega), List.getElem?_set_self (by (try simp only [List.length_set]); omega)]
    · rw [List.getElem?_set_ne (by omega), List.getElem?_set_ne (by omega), List.getElem?_set_ne (by omega), List.getElem?_set_ne (by omega), List.getElem?_set_ne (by omega), List.getElem?_set_ne (by omega), List.getElem?_set_self (by (try simp only [List.length_set]); omega)]
    · rw [List.getElem?_set_ne (by omega), List.getElem?_set_ne (by omega), List.getElem?_set_ne (by omega), List.getElem?_set_ne (by omega), List.getElem?_set_ne (by omega), List.getElem?_set_self (by (try simp only [List.length_set]); omega)]
    · rw [List.getElem?_set_ne (by omega), List.getElem?_set_ne (by omega), List.getElem?_set_ne (by omega), List.getElem?_set_ne (by omega), List.getElem?_set_self (by (try simp only [List.length_set]); omega)]
    · rw [List.getElem?_set_ne (by omega), List.getElem?_set_ne (by omega), List.getElem?_set_ne (by omega), List.getElem?_set_self (by (try simp only [List.length_set]); omega)]
    · rw [List.getElem?_set_ne (by omega), List.getElem?_set_ne (by omega), List.getElem?_set_self (by (try simp only [List.length_set]); omega)]
    · rw [List.getElem?_set_ne (by omega), List.getElem?_set_self (by (try simp only [List.length_set]); omega)]
    · rw [List.getElem?_set_self (by (try simp only [List.length_set]); omega)]
  · obtain ⟨h0, h1, h2, h3, h4, h5, h6, b', hn, ho⟩ := h j (by omega)
    refine ⟨?_, ?_, ?_, ?_, ?_, ?_, ?_, b', ?_, ho⟩
    · rw [List.getElem?_set_ne (by omega), List.getElem?_set_ne (by omega), List.getElem?_set_ne (by omega), List.getElem?_set_ne (by omega), List.getElem?_set_ne (by omega), List.getElem?_set_ne (by omega), List.getElem?_set_ne (by omega), List.getElem?_set_ne (by omega)]; exact h0
    · rw [List.getElem?_set_ne (by omega), List.getElem?_set_ne (by omega), List.getElem?_set_ne (by omega), List.getElem?_set_ne (by omega), List.getElem?_set_ne (by omega), List.getElem?_set_ne (by omega), List.getElem?_set_ne (by omega), List.getElem?_set_ne (by omega)]; exact h1
    · rw [List.getElem?_set_ne (by omega), List.getElem?_set_ne (by omega), List.getElem?_set_ne (by omega), List.getElem?_set_ne (by omega), List.getElem?_set_ne (by omega), List.getElem?_set_ne (by omega), List.getElem?_set_ne (by omega), List.getElem?_set_ne (by omega)]; exact h2
    · rw [List.getElem?_set_ne (by omega), List.getElem?_set_ne (by omega), List.getElem?_set_ne (by omega), List.getElem?_set_ne (by omega), List.getElem?_set_ne (by omega), List.getElem?_set_ne (by omega), List.getElem?_set_ne (by omega), List.getElem?_set_ne (by omega)]; exact h3
    · rw [List.getElem?_set_ne (by omega), List.getElem?_set_ne (by omega), List.getElem?_set_ne (by omega), List.getElem?_set_ne (by omega), List.getElem?_set_ne (by omega), List.getElem?_set_ne (by omega), List.getElem?_set_ne (by omega), List.getElem?_set_ne (by omega)]; exact h4
    · rw [List.getElem?_set_ne (by omega), List.getElem?_set_ne (by omega), List.getElem?_set_ne (by omega), List.getElem?_set_ne (by omega), List.getElem?_set_ne (by omega), List.getElem?_set_ne (by omega), List.getElem?_set_ne (by omega), List.getElem?_set_ne (by omega)]; exact h5
    · rw [List.getElem?_set_ne (by omega), List.getElem?_set_ne (by omega), List.getElem?_set_ne (by omega), List.getElem?_set_ne (by omega), List.getElem?_set_ne (by omega), List.getElem?_set_ne (by omega), List.getElem?_set_ne (by omega), List.getElem?_set_ne (by omega)]; exact h6
    · rw [List.getElem?_set_ne (by omega), List.getElem?_set_ne (by omega), List.getElem?_set_ne (by omega), List.getElem?_set_ne (by omega), List.getElem?_set_ne (by omega), List.getElem?_set_ne (by omega), List.getElem?_set_ne (by omega), List.getElem?_set_ne (by omega)]; exact hn
theorem BuiltMs.at {B : Nat} {w : World} {g n : Nat} {xs : List Value} {M : List MgD} (h : BuiltMs w g xs n M) (ho : OwnC B w 8 g 0 n n xs) (hl : M.length = n) (hx : ∀ j, j < n → (gMs M j).x.size ≤ maxLen) (hs : ∀ j, j < n → ∀ s ∈ (gMs M j).ss, s.size ≤ maxLen) (hI : ∀ j, j < n → I64 (gMs M j).kd ∧ I64 (gMs M j).fm ∧ I64 (gMs M j).tw ∧ I64 (gMs M j).ep ∧ I64 (gMs M j).le ∧ I64 (gMs M j).ta) : MsAt w (some ⟨g, 0, none⟩) g 0 n M where
  ad := fun _ => rfl
  len := hl
  max := Nat.le_trans ho.le ho.max
  lt := fun _ => ho.hi
  c0 := fun j hj => by exact (ho.holds (j * 8) (by omega)).trans (h j hj).1
  c1 := fun j hj => by rw [Nat.add_assoc]; exact (ho.holds (j * 8 + 1) (by omega)).trans (h j hj).2.1
  c2 := fun j hj => by rw [Nat.add_assoc]; exact (ho.holds (j * 8 + 2) (by omega)).trans (h j hj).2.2.1
  c3 := fun j hj => by rw [Nat.add_assoc]; exact (ho.holds (j * 8 + 3) (by omega)).trans (h j hj).2.2.2.1
  c4 := fun j hj => by rw [Nat.add_assoc]; exact (ho.holds (j * 8 + 4) (by omega)).trans (h j hj).2.2.2.2.1
  c5 := fun j hj => by rw [Nat.add_assoc]; exact (ho.holds (j * 8 + 5) (by omega)).trans (h j hj).2.2.2.2.2.1
  c6 := fun j hj => by rw [Nat.add_assoc]; exact (ho.holds (j * 8 + 6) (by omega)).trans (h j hj).2.2.2.2.2.2.1
  cn := fun j hj => by
    obtain ⟨h0, h1, h2, h3, h4, h5, h6, b', hn, hb⟩ := h j hj
    exact ⟨_, b', 0, _, by rw [Nat.add_assoc]; exact (ho.holds (j * 8 + 7) (by omega)).trans hn, StrsAt.ofOwn hb (hs j hj)⟩
  rng := hx
  i64 := hI
theorem OwnC.layMs {B : Nat} {w : World} {g n k : Nat} {xs : List Value} (h : OwnC B w 8 g 0 n n xs) (hk : k < n) (d : MgD) (b' : Nat) : OwnC B (w.setCells g (k * 8) [.int .i64 d.kd, .int .i64 d.fm, .int .i64 d.tw, .int .i64 d.ep, .int .i64 d.le, .int .i64 d.ta, .string d.x, .slice (some ⟨b', 0, none⟩) d.ss.length d.ss.length]) 8 g 0 n n (layMs xs k d b') := by
  have := ((((((((h.setCell (j := k * 8) (by omega) (.int .i64 d.kd)).setCell (j := k * 8 + 1) (by omega) (.int .i64 d.fm)).setCell (j := k * 8 + 2) (by omega) (.int .i64 d.tw)).setCell (j := k * 8 + 3) (by omega) (.int .i64 d.ep)).setCell (j := k * 8 + 4) (by omega) (.int .i64 d.le)).setCell (j := k * 8 + 5) (by omega) (.int .i64 d.ta)).setCell (j := k * 8 + 6) (by omega) (.string d.x)).setCell (j := k * 8 + 7) (by omega) (.slice (some ⟨b', 0, none⟩) d.ss.length d.ss.length))
  simp only [Nat.zero_add] at this
  exact this

/-- A store of a whole struct, for the walk. -/
theorem wpList_store_atMs {P : Program} {ops : Array Oper} {rest : List Oper} {op : Oper} {a : Act} {w : World} {Q : Exit → Act → World → Prop} (hgd : op.guard = none) (ty : TypeId) (x y : Operand) (ho : op.op = .store ty x y)
    (p k : Nat) (vs : List Value) (hx : a.eval x = .pointer (some ⟨p, k, none⟩)) (hy : a.eval y = .agg vs.toArray) (hc : ∀ i, i < vs.length → (w.cell? ⟨p, k + i, none⟩).isSome = true ∧ w.frozen? ⟨p, k + i, none⟩ = false) (hi : (P.info? ty).map (·.size) = some vs.length) (h1 : ∀ v ∈ vs, v.oneCell' = true)
    (hK : wpList P ops Q rest (a.put op.dst undef) (w.setCells p k vs)) : wpList P ops Q (op :: rest) a w :=
  wpList_store_mid hgd ty x y ho p k vs.toArray hx hy (fun i hi => hc i (by simpa using hi)) (by simpa using hi) (all_oneCell_toArray h1) hK

set_option maxHeartbeats 4000000 in
set_option maxRecDepth 100000 in
theorem eqMessageS_any (a a2 : Option Addr) (b o n c b2 o2 c2 : Nat) (M : List MgD) (w : World) (h : MsAt w a b o n M) (h' : MsAt w a2 b2 o2 n M) :
    Calls Tryz.prog 37 #[.slice a n c, .slice a2 n c2] w fun e w' => e = .returned (.bool true) ∧ Below w.heap.size w w' := by
  have hmax := h.max
  unfold maxLen at hmax
  go_enter Tryz.func37, Tryz.ntmps37
  go_wp2
  go_loopw [5] (fun i wr => ∃ k : Nat, k ≤ n ∧ i = .int .i64 k ∧ Below w.heap.size w wr) (fun i _ => n - (intOf i).toNat)
  case atStart => exact ⟨0, Nat.zero_le _, rfl, Below.refl _ _⟩
  case round =>
    obtain ⟨k, hk, rfl, hb⟩ := hrel
    by_cases hlt : k < n
    · obtain rfl := h.ad (by omega)
      obtain rfl := h'.ad (by omega)
      have hd0 := (h'.below' hb).c0 k hlt
      have hd1 := (h'.below' hb).c1 k hlt
      have hd2 := (h'.below' hb).c2 k hlt
      have hd3 := (h'.below' hb).c3 k hlt
      have hd4 := (h'.below' hb).c4 k hlt
      have hd5 := (h'.below' hb).c5 k hlt
      have hd6 := (h'.below' hb).c6 k hlt
      obtain ⟨a3, b3, o3, c3, hd7, hst3⟩ := (h'.below' hb).cn k hlt
      have hc0 := (h.below' hb).c0 k hlt
      have hc1 := (h.below' hb).c1 k hlt
      have hc2 := (h.below' hb).c2 k hlt
      have hc3 := (h.below' hb).c3 k hlt
      have hc4 := (h.below' hb).c4 k hlt
      have hc5 := (h.below' hb).c5 k hlt
      have hc6 := (h.below' hb).c6 k hlt
      obtain ⟨a', b', o', c', hc7, hst⟩ := (h.below' hb).cn k hlt
      have hrx := (h.below' hb).rng k hlt
      obtain ⟨⟨kd, fm, tw, ep, le, ta, x, ss⟩, hx⟩ : ∃ x, x = gMs M k := ⟨_, rfl⟩
      rw [← hx] at hc0 hc1 hc2 hc3 hc4 hc5 hc6 hc7 hst hrx
      dsimp only at hc0 hc1 hc2 hc3 hc4 hc5 hc6 hc7 hst hrx
      rw [← hx] at hd0 hd1 hd2 hd3 hd4 hd5 hd6 hd7 hst3
      dsimp only at hd0 hd1 hd2 hd3 hd4 hd5 hd6 hd7 hst3
      clear hx hrx
      have hlt' : (k : Int) < (n : Int) := by omega
      have hbb : Below w.heap.size w wr.drew := hb.drew
      have HC := hid (eqMessage_any kd fm tw ep le ta x a' a3 b' o' ss.length c' b3 o3 c3 ss wr.drew hst.drew hst3.drew)
      clear hst hst3
      go_wp2
      go_region_held3 (fun w' => w'.cell? ⟨b, o + k * 8, none⟩ = some (.int .i64 kd) ∧ w'.cell? ⟨b, o + k * 8 + 1, none⟩ = some (.int .i64 fm) ∧ w'.cell? ⟨b, o + k * 8 + 2, none⟩ = some (.int .i64 tw) ∧ w'.cell? ⟨b, o + k * 8 + 3, none⟩ = some (.int .i64 ep) ∧ w'.cell? ⟨b, o + k * 8 + 4, none⟩ = some (.int .i64 le) ∧ w'.cell? ⟨b, o + k * 8 + 5, none⟩ = some (.int .i64 ta) ∧ w'.cell? ⟨b, o + k * 8 + 6, none⟩ = some (.string x) ∧ w'.cell? ⟨b, o + k * 8 + 7, none⟩ = some (.slice a' ss.length c') ∧ w'.cell? ⟨b2, o2 + k * 8, none⟩ = some (.int .i64 kd) ∧ w'.cell? ⟨b2, o2 + k * 8 + 1, none⟩ = some (.int .i64 fm) ∧ w'.cell? ⟨b2, o2 + k * 8 + 2, none⟩ = some (.int .i64 tw) ∧ w'.cell? ⟨b2, o2 + k * 8 + 3, none⟩ = some (.int .i64 ep) ∧ w'.cell? ⟨b2, o2 + k * 8 + 4, none⟩ = some (.int .i64 le) ∧ w'.cell? ⟨b2, o2 + k * 8 + 5, none⟩ = some (.int .i64 ta) ∧ w'.cell? ⟨b2, o2 + k * 8 + 6, none⟩ = some (.string x) ∧ w'.cell? ⟨b2, o2 + k * 8 + 7, none⟩ = some (.slice a3 ss.length c3)) (first | (simp [go_sem, *]; done) | assumption)
        (first
          | (go_at_call 79; refine HC.out.mono ?_; rintro e' w1 ⟨rfl, hb1⟩; have q0 := keepC hb1 hc0; have r0 := keepC hb1 hd0; have q1 := keepC hb1 hc1; have r1 := keepC hb1 hd1; have q2 := keepC hb1 hc2; have r2 := keepC hb1 hd2; have q3 := keepC hb1 hc3; have r3 := keepC hb1 hd3; have q4 := keepC hb1 hc4; have r4 := keepC hb1 hd4; have q5 := keepC hb1 hc5; have r5 := keepC hb1 hd5; have q6 := keepC hb1 hc6; have r6 := keepC hb1 hd6; have q7 := keepC hb1 hc7; have r7 := keepC hb1 hd7))
      go_wp2
      go_roundw
      case rel => exact ⟨k + 1, by omega, by go_num, hbb.trans (hb1.mono hbb.size)⟩
      case measure => simp [intOf]; omega
    · go_wp2
      go_ret
      exact ⟨rfl, hb⟩
end Go.Proofs.YtaeomkpofcbmiaaGreat
