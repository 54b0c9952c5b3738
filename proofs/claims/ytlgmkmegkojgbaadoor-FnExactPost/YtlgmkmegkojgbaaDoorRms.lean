
/-
  Lists of Messages in memory; laws.szMessage(S), toMessageS, eqMessageS.
-/
import Derived.Test.YtlgmkmegkojgbaaDoorMark
import Derived.Test.YtlgmkmegkojgbaaDoorLawMs
import Derived.Test.YtlgmkmegkojgbaaDoorCel
import Derived.Test.YtlgmkmegkojgbaaDoorEq
namespace Go.Proofs.YtlgmkmegkojgbaaDoor
open Go.RowKit

structure MgD where
  kd : Int
  fm : Int
  tw : Int
  ep : Int
  le : Int
  ta : Int
  x : ByteArray
  ss : List ByteArray
def dMgD : MgD := ⟨0, 0, 0, 0, 0, 0, ByteArray.empty, []⟩
def gMs (M : List MgD) (j : Nat) : MgD := M.getD j dMgD
def MgD.v (d : MgD) (a : Option Addr) (c : Nat) : Value := .agg #[.int .i64 d.kd, .int .i64 d.fm, .int .i64 d.tw, .int .i64 d.ep, .int .i64 d.le, .int .i64 d.ta, .string d.x, .slice a d.ss.length c]
/-- .. in memory. -/
structure MsAt (w : World) (a : Option Addr) (b o n : Nat) (M : List MgD) : Prop where
  ad : 0 < n → a = some ⟨b, o, none⟩
  len : M.length = n
  max : n ≤ maxLen
  lt : 0 < n → b < w.heap.size
  c0 : ∀ j, j < n → w.cell? ⟨b, o + j * 8, none⟩ = some (.int .i64 (gMs M j).kd)
  c1 : ∀ j, j < n → w.cell? ⟨b, o + j * 8 + 1, none⟩ = some (.int .i64 (gMs M j).fm)
  c2 : ∀ j, j < n → w.cell? ⟨b, o + j * 8 + 2, none⟩ = some (.int .i64 (gMs M j).tw)
  c3 : ∀ j, j < n → w.cell? ⟨b, o + j * 8 + 3, none⟩ = some (.int .i64 (gMs M j).ep)
  c4 : ∀ j, j < n → w.cell? ⟨b, o + j * 8 + 4, none⟩ = some (.int .i64 (gMs M j).le)
  c5 : ∀ j, j < n → w.cell? ⟨b, o + j * 8 + 5, none⟩ = some (.int .i64 (gMs M j).ta)
  c6 : ∀ j, j < n → w.cell? ⟨b, o + j * 8 + 6, none⟩ = some (.string (gMs M j).x)
  cn : ∀ j, j < n → ∃ a' b' o' c', w.cell? ⟨b, o + j * 8 + 7, none⟩ = some (.slice a' (gMs M j).ss.length c') ∧ StrsAt w a' b' o' (gMs M j).ss.length (gMs M j).ss
  rng : ∀ j, j < n → (gMs M j).x.size ≤ maxLen
  i64 : ∀ j, j < n → I64 (gMs M j).kd ∧ I64 (gMs M j).fm ∧ I64 (gMs M j).tw ∧ I64 (gMs M j).ep ∧ I64 (gMs M j).le ∧ I64 (gMs M j).ta
theorem MsAt.below' {w w' : World} {a : Option Addr} {b o n : Nat} {M : List MgD} (h : MsAt w a b o n M) (hb : Below w.heap.size w w') : MsAt w' a b o n M where
  ad := h.ad
  len := h.len
  max := h.max
  lt := fun hn => Nat.lt_of_lt_of_le (h.lt hn) hb.size
  c0 := fun j hj => (hb.cell (by exact h.lt (by omega))).trans (h.c0 j hj)
  c1 := fun j hj => (hb.cell (by exact h.lt (by omega))).trans (h.c1 j hj)
  c2 := fun j hj => (hb.cell (by exact h.lt (by omega))).trans (h.c2 j hj)
  c3 := fun j hj => (hb.cell (by exact h.lt (by omega))).trans (h.c3 j hj)
  c4 := fun j hj => (hb.cell (by exact h.lt (by omega))).trans (h.c4 j hj)
  c5 := fun j hj => (hb.cell (by exact h.lt (by omega))).trans (h.c5 j hj)
  c6 := fun j hj => (hb.cell (by exact h.lt (by omega))).trans (h.c6 j hj)
  cn := fun j hj => by
    obtain ⟨a', b', o', c', h1, h2⟩ := h.cn j hj
    exact ⟨a', b', o', c', (hb.cell (by exact h.lt (by omega))).trans h1, h2.below' hb⟩
  rng := h.rng
  i64 := h.i64

set_option maxHeartbeats 1000000 in
theorem szMessageL_any (kd : Int) (fm : Int) (tw : Int) (ep : Int) (le : Int) (ta : Int) (x : ByteArray) (a : Option Addr) (b o n c : Nat) (ss : List ByteArray) (left : Int) (w : World) (hl0 : 0 ≤ left) (hl1 : left ≤ 1048576) (h : StrsAt w a b o n ss) (hx : x.size ≤ maxLen) :
    Calls Tryd.prog 8 #[.agg #[.int .i64 kd, .int .i64 fm, .int .i64 tw, .int .i64 ep, .int .i64 le, .int .i64 ta, .string x, .slice a n c], .int .i64 left] w fun e w' => (∃ r, e = .returned (.int .i64 r) ∧ (r = -1 ∨ 0 ≤ r ∧ r ≤ left ∧ n + tot ss ≤ 1048576 ∧ x.size ≤ 1048576)) ∧ Below w.heap.size w w' := by
  unfold maxLen at hx
  obtain ⟨W, hW⟩ : ∃ W, W = w.alloc (.cells #[.int .i64 kd, .int .i64 fm, .int .i64 tw, .int .i64 ep, .int .i64 le, .int .i64 ta, .string x, .slice a n c] 24) := ⟨_, rfl⟩
  have hbW : Below w.heap.size w W := by rw [hW]; exact (Below.refl _ _).alloc (Nat.le_refl _) _
  by_cases h1 : left - x.size < 0
  · go_enter Tryd.func8, Tryd.ntmps8
    go_wp2
    go_ret
    exact ⟨⟨_, rfl, .inl rfl⟩, by rw [hW] at hbW; exact hbW⟩
  · go_enter Tryd.func8, Tryd.ntmps8
    go_wp2_with fail
    rw [← hW]
    refine (szStringS_any a b o n c ss _ _ (by omega) (by omega) (h.below' hbW)).mono ?_
    rintro e w' ⟨⟨r, rfl, hr⟩, rfl⟩
    clear hW
    rcases hr with rfl | ⟨hr, hr0⟩
    · go_wp2
      go_ret
      exact ⟨⟨_, rfl, .inl rfl⟩, hbW⟩
    · have hs : n + tot ss ≤ 1048576 := by omega
      have hr1 : r ≤ left := by omega
      clear hr
      go_wp2
      go_ret
      exact ⟨⟨_, rfl, .inr ⟨hr0, hr1, hs, by omega⟩⟩, hbW⟩

/-- How great the lists of texts in it are. -/
def smallMs (M : List MgD) : Prop := ∀ j, j < M.length → (gMs M j).ss.length + tot (gMs M j).ss ≤ 1048576 ∧ (gMs M j).x.size ≤ 1048576

set_option maxHeartbeats 1000000 in
theorem szMessageS_any (a : Option Addr) (b o n c : Nat) (M : List MgD) (left : Int) (w : World) (hl0 : 0 ≤ left) (hl1 : left ≤ 1048576) (h : MsAt w a b o n M) :
    Calls Tryd.prog 25 #[.slice a n c, .int .i64 left] w fun e w' => (∃ r, e = .returned (.int .i64 r) ∧ (r = -1 ∨ 0 ≤ r ∧ r ≤ left ∧ n ≤ 1048576 ∧ smallMs M)) ∧ Below w.heap.size w w' := by
  have hmax := h.max
  unfold maxLen at hmax
  by_cases h1 : left - n < 0
  · go_enter Tryd.func25, Tryd.ntmps25
    go_wp2
    go_ret
    exact ⟨⟨_, rfl, .inl rfl⟩, Below.refl _ _⟩
  · go_enter Tryd.func25, Tryd.ntmps25
    go_wp2
    go_loopw [1, 5] (fun l i wr => ∃ k : Nat, k ≤ n ∧ i = .int .i64 k ∧ (∃ r : Int, l = .int .i64 r ∧ 0 ≤ r ∧ r ≤ left) ∧ Hid (∀ j, j < k → (gMs M j).ss.length + tot (gMs M j).ss ≤ 1048576 ∧ (gMs M j).x.size ≤ 1048576) ∧ Below w.heap.size w wr) (fun _ i _ => n - (intOf i).toNat)
    case atStart => exact ⟨0, Nat.zero_le _, rfl, ⟨_, rfl, by omega, by omega⟩, hid (fun j hj => absurd hj (by omega)), Below.refl _ _⟩
    case round =>
      obtain ⟨k, hk, rfl, ⟨r, rfl, hr0, hr⟩, HSM, hb⟩ := hrel
      have hr1 : r ≤ 1048576 := by omega
      by_cases hlt : k < n
      · obtain rfl := h.ad (by omega)
        have hc0 := (h.below' hb).c0 k hlt
        have hc1 := (h.below' hb).c1 k hlt
        have hc2 := (h.below' hb).c2 k hlt
        have hc3 := (h.below' hb).c3 k hlt
        have hc4 := (h.below' hb).c4 k hlt
        have hc5 := (h.below' hb).c5 k hlt
        have hc6 := (h.below' hb).c6 k hlt
        obtain ⟨a', b', o', c', hc7, hst⟩ := (h.below' hb).cn k hlt
        have hrx := (h.below' hb).rng k hlt
        obtain ⟨⟨kd, fm, tw, ep, le, ta, x, ss⟩, hx⟩ : ∃ x, x = gMs M k := ⟨_, rfl⟩
        rw [← hx] at hc0 hc1 hc2 hc3 hc4 hc5 hc6 hc7 hst hrx
        dsimp only at hc0 hc1 hc2 hc3 hc4 hc5 hc6 hc7 hst hrx
        have HX := hid hx
        clear hx
        have hlt' : (k : Int) < (n : Int) := by omega
        have HC := hid (fun w1 hst' => szMessageL_any kd fm tw ep le ta x a' b' o' ss.length c' ss r w1 hr0 hr1 hst' hrx)
        clear hrx
        go_wp2_with fail
        refine (HC.out _ hst).mono ?_
        rintro e w1 ⟨⟨r1, rfl, hr'⟩, hb1⟩
        have hb' := hb.trans (hb1.mono hb.size)
        rcases hr' with rfl | ⟨hr', hr0', hs1, hs2⟩
        · go_wp2
          go_ret
          exact ⟨⟨_, rfl, .inl rfl⟩, hb'⟩
        · have hr2 : r1 ≤ left := by omega
          have HS1 := hid (And.intro hs1 hs2)
          clear hr0' hr hs1 hs2
          go_wp2
          go_roundw
          case rel =>
            refine ⟨k + 1, by omega, by go_num, ⟨r1, rfl, hr', hr2⟩, hid (fun j hj => ?_), hb'⟩
            by_cases e : j = k
            · subst e
              rw [← HX.out]
              exact HS1.out
            · exact HSM.out j (by omega)
          case measure => simp [intOf]; omega
      · obtain rfl : k = n := by omega
        go_wp2
        go_ret
        exact ⟨⟨r, rfl, .inr ⟨hr0, hr, by omega, fun j hj => HSM.out j (by rw [← h.len]; exact hj)⟩⟩, hb⟩

theorem Tryd.infoMs : (Tryd.prog.info? 27).map (fun i => (i.zero, i.size, i.bytes)) = some (some (.agg #[.int .i64 0, .int .i64 0, .int .i64 0, .int .i64 0, .int .i64 0, .int .i64 0, .string ⟨#[]⟩, .slice none 0 0]), 8, 88) := by kernel_rfl
/-- The first k stand in the row xs of block g; their lists lie behind block g, rows of their own. -/
def BuiltMs (w : World) (g : Nat) (xs : List Value) (k : Nat) (M : List MgD) : Prop :=
  ∀ j, j < k → xs[j * 8]? = some (.int .i64 (gMs M j).kd) ∧ xs[j * 8 + 1]? = some (.int .i64 (gMs M j).fm) ∧ xs[j * 8 + 2]? = some (.int .i64 (gMs M j).tw) ∧ xs[j * 8 + 3]? = some (.int .i64 (gMs M j).ep) ∧ xs[j * 8 + 4]? = some (.int .i64 (gMs M j).le) ∧ xs[j * 8 + 5]? = some (.int .i64 (gMs M j).ta) ∧ xs[j * 8 + 6]? = some (.string (gMs M j).x) ∧ ∃ b', xs[j * 8 + 7]? = some (.slice (some ⟨b', 0, none⟩) (gMs M j).ss.length (gMs M j).ss.length) ∧ OwnC (g + 1) w 1 b' 0 (gMs M j).ss.length (gMs M j).ss.length ((gMs M j).ss.map Value.string)
theorem BuiltMs.below {w w' : World} {g : Nat} {xs : List Value} {k : Nat} {M : List MgD} (h : BuiltMs w g xs k M) (hb : Below w.heap.size w w') : BuiltMs w' g xs k M := fun j hj => by
  obtain ⟨h0, h1, h2, h3, h4, h5, h6, b', hn, ho⟩ := h j hj
  exact ⟨h0, h1, h2, h3, h4, h5, h6, b', hn, ho.below hb ho.hi⟩
theorem BuiltMs.setCell {w : World} {g : Nat} {xs : List Value} {k : Nat} {M : List MgD} (h : BuiltMs w g xs k M) {p : Addr} (hp : p.block ≤ g) (u : Value) : BuiltMs (w.setCell p u) g xs k M := fun j hj => by
  obtain ⟨h0, h1, h2, h3, h4, h5, h6, b', hn, ho⟩ := h j hj
  exact ⟨h0, h1, h2, h3, h4, h5, h6, b', hn, ho.setOther (by have := ho.lo; omega) _⟩
theorem BuiltMs.setCells {g : Nat} {xs : List Value} {k : Nat} {M : List MgD} : ∀ (vs : List Value) (o : Nat) (w : World), BuiltMs w g xs k M → BuiltMs (w.setCells g o vs) g xs k M
  | [], _, _, h => h
  | v :: r, o, _, h => BuiltMs.setCells r (o + 1) _ (h.setCell (p := ⟨g, o, none⟩) (Nat.le_refl _) v)
/-- A row of cells with others laid into it. -/
def layMs (xs : List Value) (k : Nat) (d : MgD) (b' : Nat) : List Value := ((((((((xs.set (k * 8) (.int .i64 d.kd)).set (k * 8 + 1) (.int .i64 d.fm)).set (k * 8 + 2) (.int .i64 d.tw)).set (k * 8 + 3) (.int .i64 d.ep)).set (k * 8 + 4) (.int .i64 d.le)).set (k * 8 + 5) (.int .i64 d.ta)).set (k * 8 + 6) (.string d.x)).set (k * 8 + 7) (.slice (some ⟨b', 0, none⟩) d.ss.length d.ss.length))
theorem BuiltMs.snoc {w : World} {g : Nat} {xs : List Value} {k : Nat} {M : List MgD} {d : MgD} {b' : Nat} (h : BuiltMs w g xs k M) (hd : d = gMs M k) (hl : k * 8 + 7 < xs.length) (hi : OwnC (g + 1) w 1 b' 0 d.ss.length d.ss.length (d.ss.map Value.string)) :
    BuiltMs w g (layMs xs k d b') (k + 1) M := fun j hj => by
  unfold layMs
  by_cases e : j = k
  · subst e
    rw [← hd]
    refine ⟨?_, ?_, ?_, ?_, ?_, ?_, ?_, b', ?_, hi⟩
    · rw [List.getElem?_set_ne (by omega), List.getElem?_set_ne (by omega), List.getElem?_set_ne (by omega), List.getElem?_set_ne (by omega), List.getElem?_set_ne (by omega), List.getElem?_set_ne (by omega), List.getElem?_set_ne (by omega), List.getElem?_set_self (by (try simp only [List.length_set]); omega)]
    · rw [List.getElem?_set_ne (by omega), List.getElem?_set_ne (by omega), List.getElem?_set_ne (by omega), List.getElem?_set_ne (by omega), List.getElem?_set_ne (by omega), List.getElem?_set_ne (by omega), List.getElem?_set_self (by (try simp only [List.length_set]); omega)]
    · rw [List.getElem?_set_ne (by omega), List.getElem?_set_ne (by omega), List.getElem?_set_ne (by omega), List.getElem?_set_ne (by omega), List.getElem?_set_ne (by omega), List.getElem?_set_self (by (try simp only [List.length_set]); omega)]
    · rw [List.getElem?_set_ne (by omega), List.getElem?_set_ne (by omega), List.getElem?_set_ne (by omega), List.getElem?_set_ne (by omega), List.getElem?_set_self (by (try simp only [List.length_set]); omega)]
    · rw [List.getElem?_set_ne (by omega), List.getElem?_set_ne (by omega), List.getElem?_set_ne (by omega), List.getElem?_set_self (by (try simp only [List.length_set]); omega)]
    · rw [List.getElem?_set_ne (by omega), List.getElem?_set_ne (by omega), List.getElem?_set_self (by (try simp only [List.length_set]); omega)]
    · rw [List.getElem?_set_ne (by omega), List.getElem?_set_self (by (try simp only [List.length_set]); omega)]
    · rw [List.getElem?_set_self (by (try simp only [List.length_set]); omega)]
  · obtain ⟨h0, h1, h2, h3, h4, h5, h6, b', hn, ho⟩ := h j (by omega)
    refine ⟨?_, ?_, ?_, ?_, ?_, ?_, ?_, b', ?_, ho⟩
    · rw [List.getElem?_set_ne (by omega), List.getElem?_set_ne (by omega), List.getElem?_set_ne (by omega), List.getElem?_set_ne (by omega), List.getElem?_set_ne (by omega), List.getElem?_set_ne (by omega), List.getElem?_set_ne (by omega), List.getElem?_set_ne (by omega)]; exact h0
    · rw [List.getElem?_set_ne (by omega), List.getElem?_set_ne (by omega), List.getElem?_set_ne (by omega), List.getElem?_set_ne (by omega), List.getElem?_set_ne (by omega), List.getElem?_set_ne (by omega), List.getElem?_set_ne (by omega), List.getElem?_set_ne (by omega)]; exact h1
    · rw [List.getElem?_set_ne (by omega), List.getElem?_set_ne (by omega), List.getElem?_set_ne (by omega), List.getElem?_set_ne (by omega), List.getElem?_set_ne (by omega), List.getElem?_set_ne (by omega), List.getElem?_set_ne (by omega), List.getElem?_set_ne (by omega)]; exact h2
    · rw [List.getElem?_set_ne (by omega), List.getElem?_set_ne (by omega), List.getElem?_set_ne (by omega), List.getElem?_set_ne (by omega), List.getElem?_set_ne (by omega), List.getElem?_set_ne (by omega), List.getElem?_set_ne (by omega), List.getElem?_set_ne (by omega)]; exact h3
    · rw [List.getElem?_set_ne (by omega), List.getElem?_set_ne (by omega), List.getElem?_set_ne (by omega), List.getElem?_set_ne (by omega), List.getElem?_set_ne (by omega), List.getElem?_set_ne (by omega), List.getElem?_set_ne (by omega), List.getElem?_set_ne (by omega)]; exact h4
    · rw [List.getElem?_set_ne (by omega), List.getElem?_set_ne (by omega), List.getElem?_set_ne (by omega), List.getElem?_set_ne (by omega), List.getElem?_set_ne (by omega), List.getElem?_set_ne (by omega), List.getElem?_set_ne (by omega), List.getElem?_set_ne (by omega)]; exact h5
    · rw [List.getElem?_set_ne (by omega), List.getElem?_set_ne (by omega), List.getElem?_set_ne (by omega), List.getElem?_set_ne (by omega), List.getElem?_set_ne (by omega), List.getElem?_set_ne (by omega), List.getElem?_set_ne (by omega), List.getElem?_set_ne (by omega)]; exact h6
    · rw [List.getElem?_set_ne (by omega), List.getElem?_set_ne (by omega), List.getElem?_set_ne (by omega), List.getElem?_set_ne (by omega), List.getElem?_set_ne (by omega), List.getElem?_set_ne (by omega), List.getElem?_set_ne (by omega), List.getElem?_set_ne (by omega)]; exact hn
theorem BuiltMs.at {B : Nat} {w : World} {g n : Nat} {xs : List Value} {M : List MgD} (h : BuiltMs w g xs n M) (ho : OwnC B w 8 g 0 n n xs) (hl : M.length = n) (hx : ∀ j, j < n → (gMs M j).x.size ≤ maxLen) (hs : ∀ j, j < n → ∀ s ∈ (gMs M j).ss, s.size ≤ maxLen) (hI : ∀ j, j < n → I64 (gMs M j).kd ∧ I64 (gMs M j).fm ∧ I64 (gMs M j).tw ∧ I64 (gMs M j).ep ∧ I64 (gMs M j).le ∧ I64 (gMs M j).ta) : MsAt w (some ⟨g, 0, none⟩) g 0 n M where
  ad := fun _ => rfl
  len := hl
  max := Nat.le_trans ho.le ho.max
  lt := fun _ => ho.hi
  c0 := fun j hj => by exact (ho.holds (j * 8) (by omega)).trans (h j hj).1
  c1 := fun j hj => by rw [Nat.add_assoc]; exact (ho.holds (j * 8 + 1) (by omega)).trans (h j hj).2.1
  c2 := fun j hj => by rw [Nat.add_assoc]; exact (ho.holds (j * 8 + 2) (by omega)).trans (h j hj).2.2.1
  c3 := fun j hj => by rw [Nat.add_assoc]; exact (ho.holds (j * 8 + 3) (by omega)).trans (h j hj).2.2.2.1
  c4 := fun j hj => by rw [Nat.add_assoc]; exact (ho.holds (j * 8 + 4) (by omega)).trans (h j hj).2.2.2.2.1
  c5 := fun j hj => by rw [Nat.add_assoc]; exact (ho.holds (j * 8 + 5) (by omega)).trans (h j hj).2.2.2.2.2.1
  c6 := fun j hj => by rw [Nat.add_assoc]; exact (ho.holds (j * 8 + 6) (by omega)).trans (h j hj).2.2.2.2.2.2.1
  cn := fun j hj => by
    obtain ⟨h0, h1, h2, h3, h4, h5, h6, b', hn, hb⟩ := h j hj
    exact ⟨_, b', 0, _, by rw [Nat.add_assoc]; exact (ho.holds (j * 8 + 7) (by omega)).trans hn, StrsAt.ofOwn hb (hs j hj)⟩
  rng := hx
  i64 := hI
theorem OwnC.layMs {B : Nat} {w : World} {g n k : Nat} {xs : List Value} (h : OwnC B w 8 g 0 n n xs) (hk : k < n) (d : MgD) (b' : Nat) : OwnC B (w.setCells g (k * 8) [.int .i64 d.kd, .int .i64 d.fm, .int .i64 d.tw, .int .i64 d.ep, .int .i64 d.le, .int .i64 d.ta, .string d.x, .slice (some ⟨b', 0, none⟩) d.ss.length d.ss.length]) 8 g 0 n n (layMs xs k d b') := by
  have := ((((((((h.setCell (j := k * 8) (by omega) (.int .i64 d.kd)).setCell (j := k * 8 + 1) (by omega) (.int .i64 d.fm)).setCell (j := k * 8 + 2) (by omega) (.int .i64 d.tw)).setCell (j := k * 8 + 3) (by omega) (.int .i64 d.ep)).setCell (j := k * 8 + 4) (by omega) (.int .i64 d.le)).setCell (j := k * 8 + 5) (by omega) (.int .i64 d.ta)).setCell (j := k * 8 + 6) (by omega) (.string d.x)).setCell (j := k * 8 + 7) (by omega) (.slice (some ⟨b', 0, none⟩) d.ss.length d.ss.length))
  simp only [Nat.zero_add] at this
  exact this

/-- A store of a whole struct, for the walk. -/
theorem wpList_store_atMs {P : Program} {ops : Array Oper} {rest : List Oper} {op : Oper} {a : Act} {w : World} {Q : Exit → Act → World → Prop} (hgd : op.guard = none) (ty : TypeId) (x y : Operand) (ho : op.op = .store ty x y)
    (p k : Nat) (vs : List Value) (hx : a.eval x = .pointer (some ⟨p, k, none⟩)) (hy : a.eval y = .agg vs.toArray) (hc : ∀ i, i < vs.length → (w.cell? ⟨p, k + i, none⟩).isSome = true ∧ w.frozen? ⟨p, k + i, none⟩ = false) (hi : (P.info? ty).map (·.size) = some vs.length) (h1 : ∀ v ∈ vs, v.oneCell' = true)
    (hK : wpList P ops Q rest (a.put op.dst undef) (w.setCells p k vs)) : wpList P ops Q (op :: rest) a w :=
  wpList_store_mid hgd ty x y ho p k vs.toArray hx hy (fun i hi => hc i (by simpa using hi)) (by simpa using hi) (all_oneCell_toArray h1) hK

set_option maxHeartbeats 2000000 in
set_option maxRecDepth 100000 in
theorem toMessageS_any (a : Option Addr) (b o n c : Nat) (M : List MgD) (w : World) (h : MsAt w a b o n M) (hn : n ≤ 1048576) (hsm : smallMs M) :
    Calls Tryd.prog 28 #[.slice a n c] w fun e w' => ∃ g xs, e = .returned (.slice (some ⟨g, 0, none⟩) n n) ∧ OwnC w.heap.size w' 8 g 0 n n xs ∧ BuiltMs w' g xs n M ∧ MsAt w' (some ⟨g, 0, none⟩) g 0 n M ∧ Below w.heap.size w w' := by
  obtain ⟨i0, hi, hz0, hz1, hz2⟩ := info_parts Tryd.infoMs
  have hsz : (Tryd.prog.info? 27).map (·.size) = some 8 := by kernel_rfl
  have HSM := hid hsm
  clear hsm
  go_enter Tryd.func28, Tryd.ntmps28
  go_wp2_with (refine wpList_make_c _ rfl _ _ 55 rfl w.heap.size 27 i0 (.agg #[.int .i64 0, .int .i64 0, .int .i64 0, .int .i64 0, .int .i64 0, .int .i64 0, .string ⟨#[]⟩, .slice none 0 0]) 8 88 Tryd.underlying55 hi hz0 hz1 hz2 .i64 .i64 n n n rfl rfl rfl rfl (by omega) (by unfold maxLen; omega) (Nat.le_refl _) ?_; intro w1 hown hgr)
  go_loopw [4] (fun i wr => ∃ k : Nat, k ≤ n ∧ i = .int .i64 k ∧ (∃ xs, OwnC w.heap.size wr 8 w.heap.size 0 n n xs ∧ BuiltMs wr w.heap.size xs k M) ∧ Below w.heap.size w wr) (fun i _ => n - (intOf i).toNat)
  case atStart => exact ⟨0, Nat.zero_le _, rfl, ⟨_, hown, fun j hj => absurd hj (by omega)⟩, (Below.refl _ _).grown hgr (Nat.le_refl _) (by simp)⟩
  case round =>
    obtain ⟨k, hk, rfl, ⟨xs, ho, hbu⟩, hb⟩ := hrel
    by_cases hlt : k < n
    · obtain rfl := h.ad (by omega)
      have hsk := (HSM.out k (by rw [h.len]; exact hlt)).1
      have hc0 := (h.below' hb).c0 k hlt
      have hc1 := (h.below' hb).c1 k hlt
      have hc2 := (h.below' hb).c2 k hlt
      have hc3 := (h.below' hb).c3 k hlt
      have hc4 := (h.below' hb).c4 k hlt
      have hc5 := (h.below' hb).c5 k hlt
      have hc6 := (h.below' hb).c6 k hlt
      obtain ⟨a', b', o', c', hc7, hst⟩ := (h.below' hb).cn k hlt
      have hrx := (h.below' hb).rng k hlt
      obtain ⟨⟨kd, fm, tw, ep, le, ta, x, ss⟩, hx⟩ : ∃ x, x = gMs M k := ⟨_, rfl⟩
      rw [← hx] at hc0 hc1 hc2 hc3 hc4 hc5 hc6 hc7 hst hrx
      dsimp only at hc0 hc1 hc2 hc3 hc4 hc5 hc6 hc7 hst hrx
      rw [← hx] at hsk
      dsimp only at hsk
      have hdl : ss.length ≤ 1048576 := by omega
      have HX := hid hx
      clear hx hsk hrx
      have hlt' : (k : Int) < (n : Int) := by omega
      have HC := hid (fun w1 hst' => toMessage_any kd fm tw ep le ta x a' b' o' ss.length c' ss w1 hst' hdl)
      go_wp2_with fail
      refine (HC.out _ hst).mono ?_
      rintro e' w2 ⟨⟨g2, rfl, hi2⟩, hb2⟩
      have hg2 := hi2.lo
      have ho2 := ho.below hb2 ho.hi
      have hhi := ho.hi
      have hlen : k * 8 + 7 < xs.length := by rw [ho2.len]; omega
      have hb' := hb.trans (hb2.mono hb.size)
      have hth : ∀ i, i < 8 → (w2.cell? ⟨w.heap.size, k * 8 + i, none⟩).isSome = true ∧ w2.frozen? ⟨w.heap.size, k * 8 + i, none⟩ = false := fun i hi => by
        have := ho2.there (k * 8 + i) (by omega)
        rwa [Nat.zero_add] at this
      obtain ⟨vs, hvs⟩ : ∃ vs : List Value, vs = [.int .i64 kd, .int .i64 fm, .int .i64 tw, .int .i64 ep, .int .i64 le, .int .i64 ta, .string x, .slice (some ⟨g2, 0, none⟩) ss.length ss.length] := ⟨_, rfl⟩
      have ho3 := ho2.layMs hlt ⟨kd, fm, tw, ep, le, ta, x, ss⟩ g2
      have hi3 : OwnC (w.heap.size + 1) (w2.setCells w.heap.size (k * 8) vs) 1 g2 0 ss.length ss.length (ss.map Value.string) := (hi2.mono (show w.heap.size + 1 ≤ wr.heap.size by omega)).block (World.heap_setCells_other w2 w.heap.size _ vs hi2.hi (by omega))
      have hbu3 := (BuiltMs.setCells vs (k * 8) _ (hbu.below hb2)).snoc HX.out hlen hi3
      dsimp only at ho3
      rw [← hvs] at ho3
      have hb3 : Below w.heap.size w (w2.setCells w.heap.size (k * 8) vs) := hb'.grown (grown_setCells w.heap.size vs _ w2 w2 (World.grownBy.refl _ _)) hb'.size (fun q hq => by injection hq with hq; omega)
      have HV := hid hvs
      clear ho2 hbu hi2 hi3 ho hb2 hb' HC hst hvs
      have h1c : ∀ v ∈ [.int .i64 kd, .int .i64 fm, .int .i64 tw, .int .i64 ep, .int .i64 le, .int .i64 ta, .string x, .slice (some ⟨g2, 0, none⟩) ss.length ss.length], Value.oneCell' v = true := by
        intro v hv
        simp only [List.mem_cons, List.not_mem_nil, or_false] at hv
        rcases hv with rfl | rfl | rfl | rfl | rfl | rfl | rfl | rfl <;> rfl
      rw [HV.out] at ho3 hbu3 hb3
      go_wp2_with (refine wpList_store_atMs rfl 27 _ _ rfl w.heap.size (k * 8) [.int .i64 kd, .int .i64 fm, .int .i64 tw, .int .i64 ep, .int .i64 le, .int .i64 ta, .string x, .slice (some ⟨g2, 0, none⟩) ss.length ss.length] rfl rfl hth hsz h1c ?_; obtain ⟨w4, hw4⟩ : ∃ w4, w4 = w2.setCells w.heap.size (k * 8) [.int .i64 kd, .int .i64 fm, .int .i64 tw, .int .i64 ep, .int .i64 le, .int .i64 ta, .string x, .slice (some ⟨g2, 0, none⟩) ss.length ss.length] := ⟨_, rfl⟩; rw [← hw4] at ho3 hbu3 hb3 ⊢; clear hw4)
      go_roundw
      case rel => exact ⟨k + 1, by omega, by go_num, ⟨_, ho3, hbu3⟩, hb3⟩
      case measure => simp [intOf]; omega
    · obtain rfl : k = n := by omega
      go_wp2
      go_ret
      refine ⟨_, _, rfl, ho, hbu, hbu.at ho h.len (fun j hj => h.rng j hj) (fun j hj => ?_) h.i64, hb⟩
      obtain ⟨_, _, _, _, _, hst⟩ := h.cn j hj
      exact hst.sz

set_option maxHeartbeats 4000000 in
set_option maxRecDepth 100000 in
theorem eqMessageS_any (a a2 : Option Addr) (b o n c b2 o2 c2 : Nat) (M : List MgD) (w : World) (h : MsAt w a b o n M) (h' : MsAt w a2 b2 o2 n M) :
    Calls Tryd.prog 31 #[.slice a n c, .slice a2 n c2] w fun e w' => e = .returned (.bool true) ∧ Below w.heap.size w w' := by
  have hmax := h.max
  unfold maxLen at hmax
  go_enter Tryd.func31, Tryd.ntmps31
  go_wp2
  go_loopw [5] (fun i wr => ∃ k : Nat, k ≤ n ∧ i = .int .i64 k ∧ Below w.heap.size w wr) (fun i _ => n - (intOf i).toNat)
  case atStart => exact ⟨0, Nat.zero_le _, rfl, Below.refl _ _⟩
  case round =>
    obtain ⟨k, hk, rfl, hb⟩ := hrel
    by_cases hlt : k < n
    · obtain rfl := h.ad (by omega)
      obtain rfl := h'.ad (by omega)
      have hd0 := (h'.below' hb).c0 k hlt
      have hd1 := (h'.below' hb).c1 k hlt
      have hd2 := (h'.below' hb).c2 k hlt
      have hd3 := (h'.below' hb).c3 k hlt
      have hd4 := (h'.below' hb).c4 k hlt
      have hd5 := (h'.below' hb).c5 k hlt
      have hd6 := (h'.below' hb).c6 k hlt
      obtain ⟨a3, b3, o3, c3, hd7, hst3⟩ := (h'.below' hb).cn k hlt
      have hc0 := (h.below' hb).c0 k hlt
      have hc1 := (h.below' hb).c1 k hlt
      have hc2 := (h.below' hb).c2 k hlt
      have hc3 := (h.below' hb).c3 k hlt
      have hc4 := (h.below' hb).c4 k hlt
      have hc5 := (h.below' hb).c5 k hlt
      have hc6 := (h.below' hb).c6 k hlt
      obtain ⟨a', b', o', c', hc7, hst⟩ := (h.below' hb).cn k hlt
      have hrx := (h.below' hb).rng k hlt
      obtain ⟨⟨kd, fm, tw, ep, le, ta, x, ss⟩, hx⟩ : ∃ x, x = gMs M k := ⟨_, rfl⟩
      rw [← hx] at hc0 hc1 hc2 hc3 hc4 hc5 hc6 hc7 hst hrx
      dsimp only at hc0 hc1 hc2 hc3 hc4 hc5 hc6 hc7 hst hrx
      rw [← hx] at hd0 hd1 hd2 hd3 hd4 hd5 hd6 hd7 hst3
      dsimp only at hd0 hd1 hd2 hd3 hd4 hd5 hd6 hd7 hst3
      clear hx hrx
      have hlt' : (k : Int) < (n : Int) := by omega
      have hbb : Below w.heap.size w wr.drew := hb.drew
      have HC := hid (eqMessage_any kd fm tw ep le ta x a' a3 b' o' ss.length c' b3 o3 c3 ss wr.drew hst.drew hst3.drew)
      clear hst hst3
      go_wp2
      go_region_held3 (fun w' => w'.cell? ⟨b, o + k * 8, none⟩ = some (.int .i64 kd) ∧ w'.cell? ⟨b, o + k * 8 + 1, none⟩ = some (.int .i64 fm) ∧ w'.cell? ⟨b, o + k * 8 + 2, none⟩ = some (.int .i64 tw) ∧ w'.cell? ⟨b, o + k * 8 + 3, none⟩ = some (.int .i64 ep) ∧ w'.cell? ⟨b, o + k * 8 + 4, none⟩ = some (.int .i64 le) ∧ w'.cell? ⟨b, o + k * 8 + 5, none⟩ = some (.int .i64 ta) ∧ w'.cell? ⟨b, o + k * 8 + 6, none⟩ = some (.string x) ∧ w'.cell? ⟨b, o + k * 8 + 7, none⟩ = some (.slice a' ss.length c') ∧ w'.cell? ⟨b2, o2 + k * 8, none⟩ = some (.int .i64 kd) ∧ w'.cell? ⟨b2, o2 + k * 8 + 1, none⟩ = some (.int .i64 fm) ∧ w'.cell? ⟨b2, o2 + k * 8 + 2, none⟩ = some (.int .i64 tw) ∧ w'.cell? ⟨b2, o2 + k * 8 + 3, none⟩ = some (.int .i64 ep) ∧ w'.cell? ⟨b2, o2 + k * 8 + 4, none⟩ = some (.int .i64 le) ∧ w'.cell? ⟨b2, o2 + k * 8 + 5, none⟩ = some (.int .i64 ta) ∧ w'.cell? ⟨b2, o2 + k * 8 + 6, none⟩ = some (.string x) ∧ w'.cell? ⟨b2, o2 + k * 8 + 7, none⟩ = some (.slice a3 ss.length c3)) (first | (simp [go_sem, *]; done) | assumption)
        (first
          | (go_at_call 12; refine HC.out.mono ?_; rintro e' w1 ⟨rfl, hb1⟩; have q0 := keepC hb1 hc0; have r0 := keepC hb1 hd0; have q1 := keepC hb1 hc1; have r1 := keepC hb1 hd1; have q2 := keepC hb1 hc2; have r2 := keepC hb1 hd2; have q3 := keepC hb1 hc3; have r3 := keepC hb1 hd3; have q4 := keepC hb1 hc4; have r4 := keepC hb1 hd4; have q5 := keepC hb1 hc5; have r5 := keepC hb1 hd5; have q6 := keepC hb1 hc6; have r6 := keepC hb1 hd6; have q7 := keepC hb1 hc7; have r7 := keepC hb1 hd7))
      go_wp2
      go_roundw
      case rel => exact ⟨k + 1, by omega, by go_num, hbb.trans (hb1.mono hbb.size)⟩
      case measure => simp [intOf]; omega
    · go_wp2
      go_ret
      exact ⟨rfl, hb⟩
end Go.Proofs.YtlgmkmegkojgbaaDoor
