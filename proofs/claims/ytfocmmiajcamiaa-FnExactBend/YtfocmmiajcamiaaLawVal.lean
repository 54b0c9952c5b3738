
/-
  laws.szStringS, toStringS, eqStringS; the law FnExactValue's walk.
-/
import Derived.Test.YtfocmmiajcamiaaVal2
import Derived.Deep.QuietTactic
import Derived.BigQuiet
namespace Go.Proofs.Ytfocmmiajcamiaa
open Go.RowKit

theorem Try.info9 : (Try.prog.info? 9).map (fun i => (i.zero, i.size, i.bytes)) = some (some (.string ⟨#[]⟩), 1, 16) := by kernel_rfl

/-- A row of texts of the call's own, as a list in memory. -/
theorem StrsAt.ofOwn {B : Nat} {w : World} {g o cap n : Nat} {ss : List ByteArray} (h : OwnC B w 1 g o cap n (ss.map Value.string)) (hz : ∀ s ∈ ss, s.size ≤ maxLen) : StrsAt w (some ⟨g, o, none⟩) g o n ss := by
  have hl : ss.length = n := by have := h.len; simpa using this
  refine ⟨fun _ => rfl, hl, Nat.le_trans h.le h.max, fun _ => h.hi, fun j hj => ?_, hz⟩
  rw [h.holds j (by omega), List.getElem?_map, List.getElem?_eq_getElem (by omega)]
  simp [List.getD, List.getElem?_eq_getElem (show j < ss.length by omega)]

theorem set_step (ss : List ByteArray) (k n : Nat) (z : Value) (hk : k < n) (hn : ss.length = n) :
    ((ss.take k).map Value.string ++ List.replicate (n - k) z).set k (.string (ss.getD k ByteArray.empty)) = (ss.take (k + 1)).map Value.string ++ List.replicate (n - (k + 1)) z := by
  rw [takeS_snoc (by omega), List.set_append_right _ _ (by simp; omega), show n - k = (n - (k + 1)) + 1 by omega, List.replicate_succ]
  have : k - (List.map Value.string (List.take k ss)).length = 0 := by simp; omega
  rw [this]
  simp

end Go.Proofs.Ytfocmmiajcamiaa
