import Derived.Test.YthopfmhagddhgaaGreatQLawVal
import Derived.Deep.QuietTactic
import Derived.BigQuiet
import Derived.Test.YthopfmhagddhgaaGreatQMem
import Derived.Deep.MidRow
namespace Go.Proofs.YthopfmhagddhgaaGreat
open Go.RowKit


def eights (ss : List ByteArray) (k : Nat) : Prop := ∀ j, j < k → (ss.getD j ByteArray.empty).size = 8
def inOk (ss : List ByteArray) : Prop := ss.length ≤ 8 ∧ eights ss ss.length

set_option maxHeartbeats 400000 in
theorem l2InputsOk_any (a : Option Addr) (b o n c : Nat) (ss : List ByteArray) (w : World) (h : StrsAt w a b o n ss) :
    Calls Tryz.prog 81 #[.slice a n c] w fun e w' => RetB e (inOk ss) ∧ w' = w := by
  have hmax := h.max
  unfold maxLen at hmax
  go_enter Tryz.func81, Tryz.ntmps81
  go_wp2
  go_loop [3] (fun i => ∃ k : Nat, k ≤ n ∧ i = .int .i64 k ∧ eights ss k) (fun i => n - (intOf i).toNat)
  case atStart => exact ⟨0, Nat.zero_le _, rfl, fun j hj => absurd hj (by omega)⟩
  case round =>
    obtain ⟨k, hk, rfl, hok⟩ := hrel
    by_cases hlt : k < n
    · obtain rfl := h.ad (by omega)
      have hc := h.cell k hlt
      have hsz := h.szD hlt
      obtain ⟨s, hs⟩ : ∃ s, s = ss.getD k ByteArray.empty := ⟨_, rfl⟩
      rw [← hs] at hc hsz
      unfold maxLen at hsz
      have HS : Hid (s = ss.getD k ByteArray.empty) := hs
      clear hs
      have hlt' : (k : Int) < (n : Int) := by omega
      by_cases h8 : s.size = 8
      · have H8 : Hid (s.size = 8) := h8
        have h8' : ((s.size : Int) == 8) = true := by simp; omega
        clear h8
        go_wp2
        go_round
        case rel =>
          refine ⟨k + 1, by omega, by go_num, fun j hj => ?_⟩
          by_cases e : j = k
          · subst e; rw [← HS.out]; exact H8.out
          · exact hok j (by omega)
        case measure => simp [intOf]; omega
      · have h8' : ((s.size : Int) == 8) = false := by simp; omega
        go_wp2
        go_ret
        refine ⟨RetB.f fun hh => h8 ?_, rfl⟩
        rw [HS.out]; exact hh.2 k (by rw [h.len]; exact hlt)
    · obtain rfl : k = n := by omega
      go_wp2
      go_ret
      refine ⟨RetB.d ?_, rfl⟩
      unfold inOk
      rw [h.len]
      exact ⟨fun hh => ⟨by omega, hok⟩, fun hh => by have := hh.1; omega⟩

set_option maxHeartbeats 400000 in
theorem inputsHold_any (a : Option Addr) (b o n c : Nat) (ss : List ByteArray) (w : World) (h : StrsAt w a b o n ss) :
    Calls Tryz.prog 122 #[.slice a n c, .bool true] w fun e w' => RetB e (inOk ss) ∧ w' = w := by
  have hmax := h.max
  unfold maxLen at hmax
  by_cases hn8 : 8 < n
  · go_enter Tryz.func122, Tryz.ntmps122
    go_wp2
    go_ret
    exact ⟨RetB.f fun hh => by have := hh.1; rw [h.len] at this; omega, rfl⟩
  go_enter Tryz.func122, Tryz.ntmps122
  go_wp2
  go_loop [17] (fun i => ∃ k : Nat, k ≤ n ∧ i = .int .i64 k ∧ eights ss k) (fun i => n - (intOf i).toNat)
  case atStart => exact ⟨0, Nat.zero_le _, rfl, fun j hj => absurd hj (by omega)⟩
  case round =>
    obtain ⟨k, hk, rfl, hok⟩ := hrel
    by_cases hlt : k < n
    · obtain rfl := h.ad (by omega)
      have hc := h.cell k hlt
      have hsz := h.szD hlt
      obtain ⟨s, hs⟩ : ∃ s, s = ss.getD k ByteArray.empty := ⟨_, rfl⟩
      rw [← hs] at hc hsz
      unfold maxLen at hsz
      have HS : Hid (s = ss.getD k ByteArray.empty) := hs
      clear hs
      have hlt' : (k : Int) < (n : Int) := by omega
      by_cases h8 : s.size = 8
      · have H8 : Hid (s.size = 8) := h8
        have h8' : ((s.size : Int) == 8) = true := by simp; omega
        clear h8
        go_wp2
        go_round
        case rel =>
          refine ⟨k + 1, by omega, by go_num, fun j hj => ?_⟩
          by_cases e : j = k
          · subst e; rw [← HS.out]; exact H8.out
          · exact hok j (by omega)
        case measure => simp [intOf]; omega
      · have h8' : ((s.size : Int) == 8) = false := by simp; omega
        go_wp2
        go_ret
        refine ⟨RetB.f fun hh => h8 ?_, rfl⟩
        rw [HS.out]; exact hh.2 k (by rw [h.len]; exact hlt)
    · obtain rfl : k = n := by omega
      go_wp2
      go_ret
      exact ⟨RetB.t ⟨by rw [h.len]; omega, by rw [h.len]; exact hok⟩, rfl⟩

/-- What is valid. -/
def vM (k f t e l d : Int) (z : Nat) (ss : List ByteArray) : Prop :=
  (k = 1 ∧ f = 0 ∧ 1 ≤ t ∧ t ≤ 8 ∧ 1 ≤ e ∧ e ≤ 300 ∧ 1 ≤ l ∧ l ≤ 300000000 ∧ 0 ≤ d ∧ d ≤ 39 ∧ z = 0 ∧ inOk ss) ∨
  (k = 2 ∧ t = 0 ∧ 1 ≤ f ∧ f ≤ 8 ∧ 1 ≤ e ∧ e ≤ 300 ∧ 1 ≤ l ∧ l ≤ 300000000 ∧ d = 0 ∧ z = 0 ∧ ss.length = 0) ∨
  (k = 3 ∧ t = 0 ∧ 1 ≤ f ∧ f ≤ 8 ∧ 1 ≤ e ∧ e ≤ 300 ∧ 1 ≤ l ∧ l ≤ 300000000 ∧ 0 ≤ d ∧ d ≤ 39 ∧ z = 8 ∧ ss.length = 0) ∨
  (k = 4 ∧ f = 0 ∧ 1 ≤ t ∧ t ≤ 8 ∧ 1 ≤ e ∧ e ≤ 300 ∧ 1 ≤ l ∧ l ≤ 300000000 ∧ d = 0 ∧ z = 0 ∧ ss.length = 0) ∨
  (k = 5 ∧ t = 0 ∧ 1 ≤ f ∧ f ≤ 8 ∧ 1 ≤ e ∧ e ≤ 300 ∧ l = 0 ∧ d = 0 ∧ z = 0 ∧ ss.length = 0)
theorem vM1 (f t e l d : Int) (z : Nat) (ss : List ByteArray) : vM 1 f t e l d z ss ↔ (f = 0 ∧ 1 ≤ t ∧ t ≤ 8 ∧ 1 ≤ e ∧ e ≤ 300 ∧ 1 ≤ l ∧ l ≤ 300000000 ∧ 0 ≤ d ∧ d ≤ 39 ∧ z = 0 ∧ inOk ss) := by
  unfold vM
  constructor
  · rintro (h | h | h | h | h) <;> first | exact h.2 | (obtain ⟨h, _⟩ := h; omega)
  · intro h; exact .inl ⟨rfl, h⟩
theorem vM2 (f t e l d : Int) (z : Nat) (ss : List ByteArray) : vM 2 f t e l d z ss ↔ (t = 0 ∧ 1 ≤ f ∧ f ≤ 8 ∧ 1 ≤ e ∧ e ≤ 300 ∧ 1 ≤ l ∧ l ≤ 300000000 ∧ d = 0 ∧ z = 0 ∧ ss.length = 0) := by
  unfold vM
  constructor
  · rintro (h | h | h | h | h) <;> first | exact h.2 | (obtain ⟨h, _⟩ := h; omega)
  · intro h; exact .inr (.inl ⟨rfl, h⟩)
theorem vM3 (f t e l d : Int) (z : Nat) (ss : List ByteArray) : vM 3 f t e l d z ss ↔ (t = 0 ∧ 1 ≤ f ∧ f ≤ 8 ∧ 1 ≤ e ∧ e ≤ 300 ∧ 1 ≤ l ∧ l ≤ 300000000 ∧ 0 ≤ d ∧ d ≤ 39 ∧ z = 8 ∧ ss.length = 0) := by
  unfold vM
  constructor
  · rintro (h | h | h | h | h) <;> first | exact h.2 | (obtain ⟨h, _⟩ := h; omega)
  · intro h; exact .inr (.inr (.inl ⟨rfl, h⟩))
theorem vM4 (f t e l d : Int) (z : Nat) (ss : List ByteArray) : vM 4 f t e l d z ss ↔ (f = 0 ∧ 1 ≤ t ∧ t ≤ 8 ∧ 1 ≤ e ∧ e ≤ 300 ∧ 1 ≤ l ∧ l ≤ 300000000 ∧ d = 0 ∧ z = 0 ∧ ss.length = 0) := by
  unfold vM
  constructor
  · rintro (h | h | h | h | h) <;> first | exact h.2 | (obtain ⟨h, _⟩ := h; omega)
  · intro h; exact .inr (.inr (.inr (.inl ⟨rfl, h⟩)))
theorem vM5 (f t e l d : Int) (z : Nat) (ss : List ByteArray) : vM 5 f t e l d z ss ↔ (t = 0 ∧ 1 ≤ f ∧ f ≤ 8 ∧ 1 ≤ e ∧ e ≤ 300 ∧ l = 0 ∧ d = 0 ∧ z = 0 ∧ ss.length = 0) := by
  unfold vM
  constructor
  · rintro (h | h | h | h | h) <;> first | exact h.2 | (obtain ⟨h, _⟩ := h; omega)
  · intro h; exact .inr (.inr (.inr (.inr ⟨rfl, h⟩)))

/-- Within bounds. -/
def inB (n lo hi : Int) : Bool := decide (lo ≤ n) && decide (n ≤ hi)
theorem inB_t {n lo hi : Int} (h : inB n lo hi = true) : lo ≤ n ∧ n ≤ hi := by simpa [inB] using h
theorem inB_f {n lo hi : Int} (h : inB n lo hi = false) : ¬ (lo ≤ n ∧ n ≤ hi) := by
  intro hh; rw [show inB n lo hi = true by simp [inB, hh.1, hh.2]] at h; cases h
theorem inB_mk {n lo hi : Int} (h1 : lo ≤ n) (h2 : n ≤ hi) : inB n lo hi = true := by simp [inB, h1, h2]
set_option maxHeartbeats 400000 in
theorem l2In_any (n lo hi : Int) (w : World) : Calls Tryz.prog 30 #[.int .i64 n, .int .i64 lo, .int .i64 hi] w fun e w' => e = .returned (.bool (inB n lo hi)) ∧ w' = w := by
  by_cases h1 : lo ≤ n
  · by_cases h2 : n ≤ hi
    · go_enter Tryz.func30, Tryz.ntmps30
      go_wp2
      go_ret
      exact ⟨by simp [inB, h1, h2], rfl⟩
    · go_enter Tryz.func30, Tryz.ntmps30
      go_wp2
      go_ret
      exact ⟨by simp [inB, h1, h2], rfl⟩
  · go_enter Tryz.func30, Tryz.ntmps30
    go_wp2
    go_ret
    exact ⟨by simp [inB]; omega, rfl⟩
set_option maxHeartbeats 400000 in
theorem within_any (n lo hi : Int) (w : World) : Calls Tryz.prog 85 #[.int .i64 n, .int .i64 lo, .int .i64 hi] w fun e w' => e = .returned (.bool (inB n lo hi)) ∧ w' = w := by
  by_cases h1 : lo ≤ n
  · by_cases h2 : n ≤ hi
    · go_enter Tryz.func85, Tryz.ntmps85
      go_wp2
      go_ret
      exact ⟨by simp [inB, h1, h2], rfl⟩
    · go_enter Tryz.func85, Tryz.ntmps85
      go_wp2
      go_ret
      exact ⟨by simp [inB, h1, h2], rfl⟩
  · go_enter Tryz.func85, Tryz.ntmps85
    go_wp2
    go_ret
    exact ⟨by simp [inB]; omega, rfl⟩
theorem l2LeaseOk_any (n : Int) (w : World) : Calls Tryz.prog 80 #[.int .i64 n] w fun e w' => e = .returned (.bool (inB n 1 300000000)) ∧ w' = w := by
  go_enter Tryz.func80, Tryz.ntmps80
  go_wp2_with fail
  refine (l2In_any _ _ _ _).mono ?_
  rintro e w' ⟨rfl, rfl⟩
  go_wp2
  go_ret
  exact ⟨rfl, rfl⟩
theorem empty_t {x : ByteArray} (h : x.size = 0) : x.toList.isEmpty = true := by
  rw [ByteArray.toList_eq, List.isEmpty_iff]
  exact List.eq_nil_of_length_eq_zero (by rw [Array.length_toList]; exact h)
theorem empty_f {x : ByteArray} (h : ¬ x.size = 0) : x.toList.isEmpty = false := by
  rw [ByteArray.toList_eq]
  cases hx : x.data.toList with
  | nil => exact absurd (by have := congrArg List.length hx; rw [Array.length_toList] at this; exact this) h
  | cons a r => rfl
end Go.Proofs.YthopfmhagddhgaaGreat

namespace Go.Proofs.YthopfmhagddhgaaGreat
open Go.RowKit

theorem leaseHolds_t (n : Int) (r : Bool) (w : World) (hr : inB n 1 300000000 = r) : Calls Tryz.prog 118 #[.int .i64 n, .bool true] w fun e w' => e = .returned (.bool r) ∧ w' = w := by
  go_enter Tryz.func118, Tryz.ntmps118
  go_wp2_with fail
  refine (within_any _ _ _ _).mono ?_
  rintro e w' ⟨rfl, rfl⟩
  go_wp2
  go_ret
  exact ⟨by rw [← hr]; rfl, rfl⟩
theorem leaseHolds_f (n : Int) (r : Bool) (w : World) (hr : (n == 0) = r) : Calls Tryz.prog 118 #[.int .i64 n, .bool false] w fun e w' => e = .returned (.bool r) ∧ w' = w := by
  subst hr
  go_enter Tryz.func118, Tryz.ntmps118
  go_wp2
  go_ret
  exact ⟨rfl, rfl⟩
theorem taskHolds_t (n : Int) (r : Bool) (w : World) (hr : inB n 0 39 = r) : Calls Tryz.prog 120 #[.int .i64 n, .bool true] w fun e w' => e = .returned (.bool r) ∧ w' = w := by
  go_enter Tryz.func120, Tryz.ntmps120
  go_wp2_with fail
  refine (within_any _ _ _ _).mono ?_
  rintro e w' ⟨rfl, rfl⟩
  go_wp2
  go_ret
  exact ⟨by rw [← hr]; rfl, rfl⟩
theorem taskHolds_f (n : Int) (r : Bool) (w : World) (hr : (n == 0) = r) : Calls Tryz.prog 120 #[.int .i64 n, .bool false] w fun e w' => e = .returned (.bool r) ∧ w' = w := by
  subst hr
  go_enter Tryz.func120, Tryz.ntmps120
  go_wp2
  go_ret
  exact ⟨rfl, rfl⟩
theorem textHolds_t (x : ByteArray) (r : Bool) (w : World) (hr : ((x.size : Int) == 8) = r) : Calls Tryz.prog 121 #[.string x, .bool true] w fun e w' => e = .returned (.bool r) ∧ w' = w := by
  subst hr
  go_enter Tryz.func121, Tryz.ntmps121
  go_wp2
  go_ret
  exact ⟨rfl, rfl⟩
theorem textHolds_f (x : ByteArray) (r : Bool) (w : World) (hr : x.toList.isEmpty = r) : Calls Tryz.prog 121 #[.string x, .bool false] w fun e w' => e = .returned (.bool r) ∧ w' = w := by
  subst hr
  go_enter Tryz.func121, Tryz.ntmps121
  go_wp2
  go_ret
  exact ⟨rfl, rfl⟩
theorem inputsHold_f (a : Option Addr) (n c : Nat) (r : Bool) (w : World) (hr : ((n : Int) == 0) = r) : Calls Tryz.prog 122 #[.slice a n c, .bool false] w fun e w' => e = .returned (.bool r) ∧ w' = w := by
  subst hr
  go_enter Tryz.func122, Tryz.ntmps122
  go_wp2
  go_ret
  exact ⟨rfl, rfl⟩
theorem inputsHold_t (a : Option Addr) (b o n c : Nat) (ss : List ByteArray) (r : Bool) (w : World) (h : StrsAt w a b o n ss) (hr : r = true ↔ inOk ss) : Calls Tryz.prog 122 #[.slice a n c, .bool true] w fun e w' => e = .returned (.bool r) ∧ w' = w := by
  refine (inputsHold_any a b o n c ss w h).mono ?_
  rintro e w' ⟨⟨r', rfl, hr'⟩, rfl⟩
  have : r' = r := by cases r <;> cases r' <;> simp_all
  subst this
  exact ⟨rfl, rfl⟩

theorem inputsHold_yes (a : Option Addr) (b o n c : Nat) (ss : List ByteArray) (w : World) (h : StrsAt w a b o n ss) (hr : Hid (inOk ss)) : Calls Tryz.prog 122 #[.slice a n c, .bool true] w fun e w' => e = .returned (.bool true) ∧ w' = w :=
  inputsHold_t a b o n c ss true w h ⟨fun _ => hr, fun _ => rfl⟩
theorem inputsHold_no (a : Option Addr) (b o n c : Nat) (ss : List ByteArray) (w : World) (h : StrsAt w a b o n ss) (hr : Hid (¬ inOk ss)) : Calls Tryz.prog 122 #[.slice a n c, .bool true] w fun e w' => e = .returned (.bool false) ∧ w' = w :=
  inputsHold_t a b o n c ss false w h ⟨fun h => absurd h (by simp), fun h => absurd h hr⟩

/-- The table of the kinds, in block 0. -/
def tabL : List Bool := [false, false, false, false, false, true, true, true, false, true, false, true, false, false, false, false, true, true, true, false, true, true, false, false, false, false, false, false, false, false]
def Tab (w : World) : Prop := ∀ j, j < 30 → w.cell? ⟨0, j, none⟩ = some (.bool (tabL.getD j false))
theorem Tab.pos {w : World} (h : Tab w) : 0 < w.heap.size := World.block_lt_of_cell? _ _ (h 0 (by omega))
theorem Tab.below {w w' : World} {C : Nat} (h : Tab w) (hb : Below C w w') (hC : 0 < C) : Tab w' := fun j hj => (hb.cell (p := ⟨0, j, none⟩) hC).trans (h j hj)
theorem Tab.below' {w w' : World} (h : Tab w) (hb : Below w.heap.size w w') : Tab w' := h.below hb h.pos
end Go.Proofs.YthopfmhagddhgaaGreat

namespace Go.Proofs.YthopfmhagddhgaaGreat
open Go.RowKit

/-- The cells of a block, from its head on. -/
def MC (w : World) (p : Nat) (vs : List Value) : Prop := ∀ j, j < vs.length → w.cell? ⟨p, j, none⟩ = vs[j]?
theorem MC.below {w w' : World} {p B : Nat} {vs : List Value} (h : MC w p vs) (hb : Below B w w') (hp : p < B) : MC w' p vs := fun j hj => (hb.cell (p := ⟨p, j, none⟩) hp).trans (h j hj)
theorem MC.made (w : World) (cs : Array Value) (T : TypeId) : MC (w.alloc (.cells cs T)) w.heap.size cs.toList := fun j _ => by
  have := World.cell?_alloc_mark w cs T (0, 0) j
  rw [this]; simp
theorem MC.block {w w' : World} {p : Nat} {vs : List Value} (h : MC w p vs) (hb : w'.heap[p]? = w.heap[p]?) : MC w' p vs := fun j hj => (World.cell?_of_block (w := w) (a := ⟨p, j, none⟩) hb).trans (h j hj)
theorem gset {w w' : World} {b : Nat} (h : w.grownBy w' (some b)) (j : Nat) (v : Value) : w.grownBy (w'.setCell ⟨b, j, none⟩ v) (some b) :=
  ⟨h.os, h.tape, h.output, by simpa [World.setCell] using h.size, fun k hk hne => (Below.heap_setCell _ _ _ _ (fun e => hne (by simp [e]))).trans (h.block k hk hne)⟩
theorem galloc {w w' : World} {row : Option Nat} (h : w.grownBy w' row) (ob : Obj) : w.grownBy (w'.alloc ob) row :=
  ⟨h.os, h.tape, h.output, by have := h.size; simp; omega, fun k hk hne => (Below.heap_alloc w' ob k (Nat.lt_of_lt_of_le hk h.size)).trans (h.block k hk hne)⟩
/-- The cells of a block, from its head on, none frozen. -/
def CF (w : World) (p : Nat) (vs : List Value) : Prop := ∀ j, j < vs.length → w.cell? ⟨p, j, none⟩ = vs[j]? ∧ w.frozen? ⟨p, j, none⟩ = false
theorem CF.block {w w' : World} {p : Nat} {vs : List Value} (h : CF w p vs) (hb : w'.heap[p]? = w.heap[p]?) : CF w' p vs := fun j hj =>
  ⟨(World.cell?_of_block (w := w) (a := ⟨p, j, none⟩) hb).trans (h j hj).1, (World.frozen?_of_block (w := w) (a := ⟨p, j, none⟩) hb).trans (h j hj).2⟩
theorem CF.set {w : World} {p : Nat} {vs : List Value} (h : CF w p vs) {j : Nat} (hj : j < vs.length) (u : Value) : CF (w.setCell ⟨p, j, none⟩ u) p (vs.set j u) := fun i hi => by
  rw [List.length_set] at hi
  refine ⟨?_, by rw [World.frozen?_setCell]; exact (h i hi).2⟩
  by_cases e : i = j
  · subst e
    have := (h i hi).1
    rw [List.getElem?_eq_getElem hi] at this
    rw [World.cell?_setCell_same _ _ _ this, List.getElem?_set_self hi]
  · rw [World.cell?_setCell_other _ _ _ _ (by intro hh; injection hh with _ h2 _; omega), List.getElem?_set_ne (by omega)]
    exact (h i hi).1
theorem CF.made (w : World) (cs : Array Value) (T : TypeId) : CF (w.alloc (.cells cs T)) w.heap.size cs.toList := fun j _ => by
  have h1 := World.cell?_alloc_mark w cs T (0, 0) j
  have h2 := World.frozen?_alloc_mark w cs T 0 0 j
  refine ⟨by rw [h1]; simp, by rw [h2]; simp⟩

theorem grown_setCells (p : Nat) : ∀ (vs : List Value) (o : Nat) (w0 w : World), w0.grownBy w (some p) → w0.grownBy (w.setCells p o vs) (some p)
  | [], _, _, _, h => h
  | v :: r, o, w0, _, h => grown_setCells p r (o + 1) w0 _ (gset h o v)
theorem CF.stored {w : World} {p : Nat} {old vs : List Value} (h : CF w p old) (hl : old.length = vs.length) : CF (w.setCells p 0 vs) p vs := fun j hj => by
  have hin := World.cell?_setCells_in p vs 0 w (fun i hi => by
    obtain ⟨h1, _⟩ := h i (by omega)
    rw [Nat.zero_add, h1, List.getElem?_eq_getElem (by omega)]; rfl) j hj
  rw [Nat.zero_add] at hin
  refine ⟨by rw [hin, List.getElem?_eq_getElem hj], ?_⟩
  rw [World.frozen?_setCells]
  exact (h j (by omega)).2
/-- A store of a whole message, for the walk. -/
theorem wpList_store_cf {P : Program} {ops : Array Oper} {rest : List Oper} {op : Oper} {a : Act} {w : World} {Q : Exit → Act → World → Prop} (hgd : op.guard = none) (ty : TypeId) (x y : Operand) (ho : op.op = .store ty x y)
    (p : Nat) (old vs : List Value) (hx : a.eval x = .pointer (some ⟨p, 0, none⟩)) (hy : a.eval y = .agg vs.toArray) (hc : CF w p old) (hl : old.length = vs.length) (hi : (P.info? ty).map (·.size) = some vs.length) (h1 : ∀ v ∈ vs, v.oneCell' = true)
    (hK : ∀ W', CF W' p vs → w.grownBy W' (some p) → wpList P ops Q rest (a.put op.dst undef) W') : wpList P ops Q (op :: rest) a w := by
  refine wpList_store_mid hgd ty x y ho p 0 vs.toArray hx hy (fun i hi => ?_) (by simpa using hi) (all_oneCell_toArray h1) ?_
  · have hi' : i < old.length := by simpa [hl] using hi
    obtain ⟨h1, h2⟩ := hc i hi'
    exact ⟨by rw [Nat.zero_add, h1, List.getElem?_eq_getElem hi']; rfl, by rw [Nat.zero_add]; exact h2⟩
  · exact hK _ (hc.stored hl) (grown_setCells p vs 0 w w (World.grownBy.refl _ _))

theorem one8 (k f t e l d : Int) (x : ByteArray) (a : Option Addr) (n c : Nat) : ∀ v ∈ [Value.int .i64 k, .int .i64 f, .int .i64 t, .int .i64 e, .int .i64 l, .int .i64 d, .string x, .slice a n c], v.oneCell' = true := by
  intro v hv
  simp only [List.mem_cons, List.not_mem_nil, or_false] at hv
  rcases hv with rfl | rfl | rfl | rfl | rfl | rfl | rfl | rfl <;> rfl
theorem Own.mono' {B B' : Nat} {w : World} {size : Nat} {v : Value} {n : Nat} {xs : List Value} (h : Own B w size v n xs) (hB : B' ≤ B) : Own B' w size v n xs := by
  rcases h with h | ⟨g, o, cap, hv, hc⟩
  · exact .inl h
  · exact .inr ⟨g, o, cap, hv, hc.mono hB⟩
def zM : List Value := [.int .i64 0, .int .i64 0, .int .i64 0, .int .i64 0, .int .i64 0, .int .i64 0, .string ⟨#[]⟩, .slice none 0 0]
theorem Own.slc {B : Nat} {w : World} {size : Nat} {v : Value} {n : Nat} {xs : List Value} (h : Own B w size v n xs) : ∃ a c, v = .slice a n c := by
  rcases h with ⟨rfl, rfl, rfl⟩ | ⟨g, o, cap, rfl, hc⟩
  · exact ⟨none, 0, rfl⟩
  · exact ⟨_, _, rfl⟩
end Go.Proofs.YthopfmhagddhgaaGreat
