
/-
  impl.validMessage.
-/
import Derived.Test.YtlgmkmegkojgbaaDoorMsg
import Derived.Deep.QuietTactic
import Derived.BigQuiet
namespace Go.Proofs.YtlgmkmegkojgbaaDoor
open Go.RowKit

theorem leaseHolds_t (n : Int) (r : Bool) (w : World) (hr : inB n 1 300000000 = r) : Calls Tryd.prog 66 #[.int .i64 n, .bool true] w fun e w' => e = .returned (.bool r) ∧ w' = w := by
  go_enter Tryd.func66, Tryd.ntmps66
  go_wp2_with fail
  refine (within_any _ _ _ _).mono ?_
  rintro e w' ⟨rfl, rfl⟩
  go_wp2
  go_ret
  exact ⟨by rw [← hr]; rfl, rfl⟩
theorem leaseHolds_f (n : Int) (r : Bool) (w : World) (hr : (n == 0) = r) : Calls Tryd.prog 66 #[.int .i64 n, .bool false] w fun e w' => e = .returned (.bool r) ∧ w' = w := by
  subst hr
  go_enter Tryd.func66, Tryd.ntmps66
  go_wp2
  go_ret
  exact ⟨rfl, rfl⟩
theorem taskHolds_t (n : Int) (r : Bool) (w : World) (hr : inB n 0 39 = r) : Calls Tryd.prog 67 #[.int .i64 n, .bool true] w fun e w' => e = .returned (.bool r) ∧ w' = w := by
  go_enter Tryd.func67, Tryd.ntmps67
  go_wp2_with fail
  refine (within_any _ _ _ _).mono ?_
  rintro e w' ⟨rfl, rfl⟩
  go_wp2
  go_ret
  exact ⟨by rw [← hr]; rfl, rfl⟩
theorem taskHolds_f (n : Int) (r : Bool) (w : World) (hr : (n == 0) = r) : Calls Tryd.prog 67 #[.int .i64 n, .bool false] w fun e w' => e = .returned (.bool r) ∧ w' = w := by
  subst hr
  go_enter Tryd.func67, Tryd.ntmps67
  go_wp2
  go_ret
  exact ⟨rfl, rfl⟩
theorem textHolds_t (x : ByteArray) (r : Bool) (w : World) (hr : ((x.size : Int) == 8) = r) : Calls Tryd.prog 68 #[.string x, .bool true] w fun e w' => e = .returned (.bool r) ∧ w' = w := by
  subst hr
  go_enter Tryd.func68, Tryd.ntmps68
  go_wp2
  go_ret
  exact ⟨rfl, rfl⟩
theorem textHolds_f (x : ByteArray) (r : Bool) (w : World) (hr : x.toList.isEmpty = r) : Calls Tryd.prog 68 #[.string x, .bool false] w fun e w' => e = .returned (.bool r) ∧ w' = w := by
  subst hr
  go_enter Tryd.func68, Tryd.ntmps68
  go_wp2
  go_ret
  exact ⟨rfl, rfl⟩
theorem inputsHold_f (a : Option Addr) (n c : Nat) (r : Bool) (w : World) (hr : ((n : Int) == 0) = r) : Calls Tryd.prog 69 #[.slice a n c, .bool false] w fun e w' => e = .returned (.bool r) ∧ w' = w := by
  subst hr
  go_enter Tryd.func69, Tryd.ntmps69
  go_wp2
  go_ret
  exact ⟨rfl, rfl⟩
theorem inputsHold_t (a : Option Addr) (b o n c : Nat) (ss : List ByteArray) (r : Bool) (w : World) (h : StrsAt w a b o n ss) (hr : r = true ↔ inOk ss) : Calls Tryd.prog 69 #[.slice a n c, .bool true] w fun e w' => e = .returned (.bool r) ∧ w' = w := by
  refine (inputsHold_any a b o n c ss w h).mono ?_
  rintro e w' ⟨⟨r', rfl, hr'⟩, rfl⟩
  have : r' = r := by cases r <;> cases r' <;> simp_all
  subst this
  exact ⟨rfl, rfl⟩

theorem inputsHold_yes (a : Option Addr) (b o n c : Nat) (ss : List ByteArray) (w : World) (h : StrsAt w a b o n ss) (hr : Hid (inOk ss)) : Calls Tryd.prog 69 #[.slice a n c, .bool true] w fun e w' => e = .returned (.bool true) ∧ w' = w :=
  inputsHold_t a b o n c ss true w h ⟨fun _ => hr, fun _ => rfl⟩
theorem inputsHold_no (a : Option Addr) (b o n c : Nat) (ss : List ByteArray) (w : World) (h : StrsAt w a b o n ss) (hr : Hid (¬ inOk ss)) : Calls Tryd.prog 69 #[.slice a n c, .bool true] w fun e w' => e = .returned (.bool false) ∧ w' = w :=
  inputsHold_t a b o n c ss false w h ⟨fun h => absurd h (by simp), fun h => absurd h hr⟩

/-- The table of the kinds, in block 0. -/
def tabL : List Bool := [false, false, false, false, false, true, true, true, false, true, false, true, false, false, false, false, true, true, true, false, true, true, false, false, false, false, false, false, false, false]
def Tab (w : World) : Prop := ∀ j, j < 30 → w.cell? ⟨0, j, none⟩ = some (.bool (tabL.getD j false))
theorem Tab.pos {w : World} (h : Tab w) : 0 < w.heap.size := World.block_lt_of_cell? _ _ (h 0 (by omega))
theorem Tab.below {w w' : World} {C : Nat} (h : Tab w) (hb : Below C w w') (hC : 0 < C) : Tab w' := fun j hj => (hb.cell (p := ⟨0, j, none⟩) hC).trans (h j hj)
theorem Tab.below' {w w' : World} (h : Tab w) (hb : Below w.heap.size w w') : Tab w' := h.below hb h.pos
end Go.Proofs.YtlgmkmegkojgbaaDoor
