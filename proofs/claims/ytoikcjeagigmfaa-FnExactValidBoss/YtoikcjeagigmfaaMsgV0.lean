
/-
  impl.validMessage.
-/
import Derived.Test.YtoikcjeagigmfaaMsg
import Derived.Deep.QuietTactic
import Derived.BigQuiet
namespace Go.Proofs.Ytoikcjeagigmfaa
open Go.RowKit

theorem leaseHolds_t (n : Int) (r : Bool) (w : World) (hr : inB n 1 300000000 = r) : Calls Try.prog 91 #[.int .i64 n, .bool true] w fun e w' => e = .returned (.bool r) ∧ w' = w := by
  go_enter Try.func91, Try.ntmps91
  go_wp2_with fail
  refine (within_any _ _ _ _).mono ?_
  rintro e w' ⟨rfl, rfl⟩
  go_wp2
  go_ret
  exact ⟨by rw [← hr]; rfl, rfl⟩
theorem leaseHolds_f (n : Int) (r : Bool) (w : World) (hr : (n == 0) = r) : Calls Try.prog 91 #[.int .i64 n, .bool false] w fun e w' => e = .returned (.bool r) ∧ w' = w := by
  subst hr
  go_enter Try.func91, Try.ntmps91
  go_wp2
  go_ret
  exact ⟨rfl, rfl⟩
theorem taskHolds_t (n : Int) (r : Bool) (w : World) (hr : inB n 0 39 = r) : Calls Try.prog 71 #[.int .i64 n, .bool true] w fun e w' => e = .returned (.bool r) ∧ w' = w := by
  go_enter Try.func71, Try.ntmps71
  go_wp2_with fail
  refine (within_any _ _ _ _).mono ?_
  rintro e w' ⟨rfl, rfl⟩
  go_wp2
  go_ret
  exact ⟨by rw [← hr]; rfl, rfl⟩
theorem taskHolds_f (n : Int) (r : Bool) (w : World) (hr : (n == 0) = r) : Calls Try.prog 71 #[.int .i64 n, .bool false] w fun e w' => e = .returned (.bool r) ∧ w' = w := by
  subst hr
  go_enter Try.func71, Try.ntmps71
  go_wp2
  go_ret
  exact ⟨rfl, rfl⟩
theorem textHolds_t (x : ByteArray) (r : Bool) (w : World) (hr : ((x.size : Int) == 8) = r) : Calls Try.prog 72 #[.string x, .bool true] w fun e w' => e = .returned (.bool r) ∧ w' = w := by
  subst hr
  go_enter Try.func72, Try.ntmps72
  go_wp2
  go_ret
  exact ⟨rfl, rfl⟩
theorem textHolds_f (x : ByteArray) (r : Bool) (w : World) (hr : x.toList.isEmpty = r) : Calls Try.prog 72 #[.string x, .bool false] w fun e w' => e = .returned (.bool r) ∧ w' = w := by
  subst hr
  go_enter Try.func72, Try.ntmps72
  go_wp2
  go_ret
  exact ⟨rfl, rfl⟩
/-- The table of the kinds, in block 0. -/
def tabL : List Bool := [false, false, false, false, false, true, true, true, false, true, false, true, false, false, false, false, true, true, true, false, true, true, false, false, false, false, false, false, false, false]
def Tab (w : World) : Prop := ∀ j, j < 30 → w.cell? ⟨0, j, none⟩ = some (.bool (tabL.getD j false))
theorem Tab.pos {w : World} (h : Tab w) : 0 < w.heap.size := World.block_lt_of_cell? _ _ (h 0 (by omega))
theorem Tab.below {w w' : World} {C : Nat} (h : Tab w) (hb : Below C w w') (hC : 0 < C) : Tab w' := fun j hj => (hb.cell (p := ⟨0, j, none⟩) hC).trans (h j hj)
theorem Tab.below' {w w' : World} (h : Tab w) (hb : Below w.heap.size w w') : Tab w' := h.below hb h.pos
end Go.Proofs.Ytoikcjeagigmfaa
