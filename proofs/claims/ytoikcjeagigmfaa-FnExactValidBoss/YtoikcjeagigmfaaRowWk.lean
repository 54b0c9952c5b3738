
/-
  The worker that came in.
-/
import Derived.Test.YtoikcjeagigmfaaLawVal
import Derived.ProofKit
import Derived.OpenShut
import Derived.ShutString
import Derived.ChangeOld
import Derived.SliceStrings
namespace Go.Proofs.Ytoikcjeagigmfaa
open Go.ChangeShapes Go.WideShapes Go.ChangeAt Go.RowKit
open Go.ChangeMaps (open_string shut_string)

theorem Try.own : ownKnob Try.prog.godebug = none := by kernel_rfl
theorem Try.laidOut : laidOutB Try.prog = true := by kernel_rfl

/-- A list of texts that came in. -/
theorem strsAt_of2 {H : Type} {enc : TypeId × Value → H} {W : World} {base fuel : Nat} {cs : List Value} {x : DataW H × List MemPlace}
    (hf : DataW.trod enc Try.prog W base (fun _ => true) true fuel 36 cs = some x) : ∃ a b o n c ss, cs = [.slice a n c] ∧ StrsAt W a b o n ss := by
  rcases open_strings Try.underlying36 Try.underlying9 (by kernel_rfl) hf with ⟨hcs, _⟩ | ⟨y, n, c, ss, hcs, _, hl, hm, hz, _, hcell, hws⟩
  · exact ⟨none, 0, 0, 0, 0, [], hcs, fun h => absurd h (by omega), rfl, Nat.zero_le _, fun h => absurd h (by omega), fun j hj => absurd hj (by omega), by simp⟩
  · have hz' : ss.length = c := by simpa using hz
    have hsz : ∀ s ∈ ss.take n, s.size ≤ maxLen := fun s hs => hws s (List.mem_of_mem_take hs)
    have hlen : (ss.take n).length = n := by rw [List.length_take]; omega
    by_cases h0 : n = 0
    · subst h0
      exact ⟨some y, 0, 0, 0, c, ss.take 0, hcs, fun h => absurd h (by omega), hlen, Nat.zero_le _, fun h => absurd h (by omega), fun j hj => absurd hj (by omega), hsz⟩
    · obtain ⟨b, off, spot⟩ := y
      have hc := hcell 0 (by omega)
      have hspot : spot = none := by simpa [Addr.add] using World.cell?_spot hc
      subst hspot
      have hc' : ∀ j, j < n → W.cell? ⟨b, off + j, none⟩ = some (.string ((ss.take n).getD j ByteArray.empty)) := fun j hj => by
        have := hcell j (by omega)
        rw [Addr.add_lit] at this
        rw [this]
        simp [List.getD, hj]
      exact ⟨_, b, off, n, c, ss.take n, hcs, fun _ => rfl, hlen, by omega, fun _ => World.block_lt_of_cell? _ _ (hc' 0 (by omega)), hc', hsz⟩

end Go.Proofs.Ytoikcjeagigmfaa
