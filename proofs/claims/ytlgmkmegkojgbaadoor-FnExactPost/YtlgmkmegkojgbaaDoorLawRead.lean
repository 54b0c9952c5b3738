
/-
  laws.markMessage, heldMessage, FnExactReadMessage.
-/
import Derived.Test.YtlgmkmegkojgbaaDoorMark
import Derived.Test.YtlgmkmegkojgbaaDoorLawForm
namespace Go.Proofs.YtlgmkmegkojgbaaDoor
open Go.RowKit

/-- What ReadMessage says, both ways in one. -/
def Res (s key : ByteArray) (k f t e l d : Int) (x : ByteArray) (ss : List ByteArray) (r : Bool) : Prop :=
  (r = true ∧ Good s key k f t e l d x ss) ∨ (r = false ∧ NoGood s key ∧ k = 0 ∧ f = 0 ∧ t = 0 ∧ e = 0 ∧ l = 0 ∧ d = 0 ∧ x = ⟨#[]⟩ ∧ ss = [])
theorem good_uniq {s key : ByteArray} {k f t e l d k' f' t' e' l' d' : Int} {x x' : ByteArray} {ss ss' : List ByteArray} (h : Good s key k f t e l d x ss) (h' : Good s key k' f' t' e' l' d' x' ss') :
    k = k' ∧ f = f' ∧ t = t' ∧ e = e' ∧ l = l' ∧ d = d' ∧ x = x' ∧ ss = ss' := by
  obtain ⟨h19, hd, _⟩ := good_body h
  obtain ⟨_, hd', _⟩ := good_body h'
  have hll : s.data.toList.length = s.size := by rw [Array.length_toList]; rfl
  obtain ⟨b0, b1, b2, b3, b4, b5, b6, b7, b8, b9, b10, R, hL⟩ := split11 (s.data.toList.drop 8) (by rw [List.length_drop]; omega)
  obtain ⟨rfl, rfl, rfl, rfl, rfl, rfl, p3, pn⟩ := body_says h.1 (hd.symm.trans hL)
  obtain ⟨rfl, rfl, rfl, rfl, rfl, rfl, q3, qn⟩ := body_says h'.1 (hd'.symm.trans hL)
  by_cases h3 : b0.toNat = 3
  · obtain ⟨rfl, rfl, _⟩ := p3 h3
    obtain ⟨rfl, rfl, _⟩ := q3 h3
    exact ⟨rfl, rfl, rfl, rfl, rfl, rfl, rfl, rfl⟩
  · obtain ⟨rfl, rfl, _⟩ := pn h3
    obtain ⟨rfl, rfl, _⟩ := qn h3
    exact ⟨rfl, rfl, rfl, rfl, rfl, rfl, rfl, rfl⟩
theorem Res.uniq {s key : ByteArray} {k f t e l d k' f' t' e' l' d' : Int} {x x' : ByteArray} {ss ss' : List ByteArray} {r r' : Bool} (h : Res s key k f t e l d x ss r) (h' : Res s key k' f' t' e' l' d' x' ss' r') :
    k = k' ∧ f = f' ∧ t = t' ∧ e = e' ∧ l = l' ∧ d = d' ∧ x = x' ∧ ss = ss' ∧ r = r' := by
  rcases h with ⟨rfl, h⟩ | ⟨rfl, h, rfl, rfl, rfl, rfl, rfl, rfl, rfl, rfl⟩ <;> rcases h' with ⟨rfl, h'⟩ | ⟨rfl, h', rfl, rfl, rfl, rfl, rfl, rfl, rfl, rfl⟩
  · obtain ⟨q0, q1, q2, q3, q4, q5, q6, q7⟩ := good_uniq h h'
    exact ⟨q0, q1, q2, q3, q4, q5, q6, q7, rfl⟩
  · exact absurd ⟨_, _, _, _, _, _, _, _, h⟩ h'
  · exact absurd ⟨_, _, _, _, _, _, _, _, h'⟩ h
  · exact ⟨rfl, rfl, rfl, rfl, rfl, rfl, rfl, rfl, rfl⟩
theorem Res.small {s key : ByteArray} {k f t e l d : Int} {x : ByteArray} {ss : List ByteArray} {r : Bool} (h : Res s key k f t e l d x ss r) : ss.length ≤ 8 ∧ ∀ y ∈ ss, y.size ≤ maxLen := by
  rcases h with ⟨_, h⟩ | ⟨_, _, _, _, _, _, _, _, _, rfl⟩
  · obtain ⟨_, hi, _⟩ := vM_parts h.1
    refine ⟨hi.1, fun y hy => ?_⟩
    obtain ⟨j, hj, rfl⟩ := List.mem_iff_getElem.1 hy
    have := hi.2 j hj
    simp only [List.getD, List.getElem?_eq_getElem hj, Option.getD_some] at this
    rw [this]
    decide
  · exact ⟨Nat.zero_le _, fun y hy => by cases hy⟩
theorem RetM.view {e0 : Ending} {w w' : World} {s key : ByteArray} (h : RetM e0 w w' s key) : ∃ (k f t e l d : Int) (x : ByteArray) (ss : List ByteArray) (a : Option Addr) (c : Nat) (r : Bool),
    e0 = .returned (.tuple #[.agg #[.int .i64 k, .int .i64 f, .int .i64 t, .int .i64 e, .int .i64 l, .int .i64 d, .string x, .slice a ss.length c], .bool r]) ∧ Res s key k f t e l d x ss r ∧ Own w.heap.size w' 1 (.slice a ss.length c) ss.length (ss.map Value.string) := by
  rcases h with ⟨rfl, hn⟩ | ⟨k, f, t, e, l, d, x, ss, v, rfl, hg, ho⟩
  · exact ⟨0, 0, 0, 0, 0, 0, ⟨#[]⟩, [], none, 0, false, rfl, .inr ⟨rfl, hn, rfl, rfl, rfl, rfl, rfl, rfl, rfl, rfl⟩, Own.nil _ _ _⟩
  · obtain ⟨a, c, rfl⟩ := ho.slc
    exact ⟨k, f, t, e, l, d, x, ss, a, c, true, rfl, .inl ⟨rfl, hg⟩, ho⟩

set_option maxHeartbeats 1000000 in
set_option maxRecDepth 100000 in
theorem markMessage_own (k f t e l d : Int) (x : ByteArray) (a : Option Addr) (n c : Nat) (B : Nat) (xs : List Value) (w : World) (hn : n ≤ 1048576) (h : Own B w 1 (.slice a n c) n xs) :
    Calls Tryd.prog 15 #[.agg #[.int .i64 k, .int .i64 f, .int .i64 t, .int .i64 e, .int .i64 l, .int .i64 d, .string x, .slice a n c], .int .i64 1] w fun e' w' => e' = .returned (.int .i64 (1 + (n : Int))) ∧ Own B w' 1 (.slice a n c) n ((mks 1 n).map Value.string) ∧ w.grownBy w' (Value.slice a n c).ownBlock := by
  obtain ⟨W, hW⟩ : ∃ W, W = w.alloc (.cells #[.int .i64 k, .int .i64 f, .int .i64 t, .int .i64 e, .int .i64 l, .int .i64 d, .string x, .slice a n c] 27) := ⟨_, rfl⟩
  have hgW : w.grownBy W (Value.slice a n c).ownBlock := by rw [hW]; exact galloc (World.grownBy.refl _ _) _
  have hoW : Own B W 1 (.slice a n c) n xs := by rw [hW]; exact h.alloc _
  have hmk : ∀ w1 : World, Own B w1 1 (.slice a n c) n xs → Calls Tryd.prog 46 #[.slice a n c, .int .i64 1] w1 fun e w' => e = .returned (.int .i64 (1 + (n : Int))) ∧ Own B w' 1 (.slice a n c) n ((mks 1 n).map Value.string) ∧ w1.grownBy w' (Value.slice a n c).ownBlock := fun w1 h1 => markStringS_own2 a n c 1 B xs w1 (by omega) (by omega) hn h1
  have HK := hid hmk
  clear hmk
  go_enter Tryd.func15, Tryd.ntmps15
  go_wp2_with fail
  rw [← hW]
  refine (HK.out _ hoW).mono ?_
  rintro e' w1 ⟨rfl, ho1, hg1⟩
  clear hW
  go_wp2
  go_ret
  exact ⟨rfl, ho1, grownBy_trans hgW hg1⟩

set_option maxHeartbeats 1000000 in
set_option maxRecDepth 100000 in
theorem heldMessage_any (k f t e l d : Int) (x : ByteArray) (a : Option Addr) (b o n c : Nat) (w : World) (hn : n ≤ 1048576) (h : StrsAt w a b o n (mks 1 n)) :
    Calls Tryd.prog 16 #[.agg #[.int .i64 k, .int .i64 f, .int .i64 t, .int .i64 e, .int .i64 l, .int .i64 d, .string x, .slice a n c], .int .i64 1] w fun e' w' => e' = .returned (.int .i64 (1 + (n : Int))) ∧ Below w.heap.size w w' := by
  obtain ⟨W, hW⟩ : ∃ W, W = w.alloc (.cells #[.int .i64 k, .int .i64 f, .int .i64 t, .int .i64 e, .int .i64 l, .int .i64 d, .string x, .slice a n c] 27) := ⟨_, rfl⟩
  have hbW : Below w.heap.size w W := by rw [hW]; exact (Below.refl _ _).alloc (Nat.le_refl _) _
  have hmk : ∀ w1 : World, StrsAt w1 a b o n (mks 1 n) → Calls Tryd.prog 47 #[.slice a n c, .int .i64 1] w1 fun e w' => e = .returned (.int .i64 (1 + (n : Int))) ∧ Below w1.heap.size w1 w' := fun w1 h1 => heldStringS_any a b o n c 1 w1 (by omega) (by omega) hn h1
  have HK := hid hmk
  clear hmk
  go_enter Tryd.func16, Tryd.ntmps16
  go_wp2_with fail
  rw [← hW]
  refine (HK.out _ (h.below' hbW)).mono ?_
  rintro e' w1 ⟨rfl, hb1⟩
  clear hW
  have hB1 := hbW.trans (hb1.mono hbW.size)
  have hp : ¬ (1 + (n : Int)) < 0 := by omega
  go_wp2
  go_ret
  exact ⟨rfl, hB1⟩
end Go.Proofs.YtlgmkmegkojgbaaDoor
