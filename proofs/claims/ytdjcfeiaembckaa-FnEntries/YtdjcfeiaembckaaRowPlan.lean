
/-
  THE ROW of FnExactCheckPlan, proved.
-/
import Derived.Test.YtdjcfeiaembckaaSChk
import Derived.Test.YtdjcfeiaembckaaRowVal
import Derived.Deep.Slices
import Derived.Deep.Strs
namespace Go.Proofs.Ytdjcfeiaembckaa
open Go.ChangeShapes Go.WideShapes Go.ChangeAt Go.RowKit Go.Deep
open Go.ChangeMaps (open_string shut_string)

theorem wf_I64 {x : Int} (h : (Lit.int .i64 x).wf = true) : I64 x := by
  simp [Lit.wf, IntKind.min, IntKind.max, IntKind.signed, IntKind.bits] at h
  exact ⟨by omega, by omega⟩

/-- A list of numbers that came in. -/
theorem intsAt_of {H : Type} {enc : TypeId × Value → H} {W : World} {base fuel : Nat} {cs : List Value} {x : DataW H × List MemPlace}
    (hf : DataW.trod enc Try.prog W base (fun _ => true) true fuel 30 cs = some x) : ∃ a b o n c ns, cs = [.slice a n c] ∧ IntsAt W a b o n ns := by
  rcases open_ints Try.underlying30 Try.underlying3 (by kernel_rfl) hf with ⟨hcs, _⟩ | ⟨y, n, c, ss, hcs, _, hl, hm, hz, _, hcell, hws⟩
  · exact ⟨none, 0, 0, 0, 0, [], hcs, fun h => absurd h (by omega), rfl, Nat.zero_le _, fun h => absurd h (by omega), fun j hj => absurd hj (by omega), by simp⟩
  · have hz' : ss.length = c := by simpa using hz
    have hsz : ∀ s ∈ ss.take n, I64 s := fun s hs => wf_I64 (hws s (List.mem_of_mem_take hs))
    have hlen : (ss.take n).length = n := by rw [List.length_take]; omega
    by_cases h0 : n = 0
    · subst h0
      exact ⟨some y, 0, 0, 0, c, ss.take 0, hcs, fun h => absurd h (by omega), hlen, Nat.zero_le _, fun h => absurd h (by omega), fun j hj => absurd hj (by omega), hsz⟩
    · obtain ⟨b, off, spot⟩ := y
      have hc := hcell 0 (by omega)
      have hspot : spot = none := by simpa [Addr.add] using World.cell?_spot hc
      subst hspot
      have hc' : ∀ j, j < n → W.cell? ⟨b, off + j, none⟩ = some (.int .i64 ((ss.take n).getD j 0)) := fun j hj => by
        have := hcell j (by omega)
        rw [Addr.add_lit] at this
        rw [this]
        simp [List.getD, hj]
      exact ⟨_, b, off, n, c, ss.take n, hcs, fun _ => rfl, hlen, by omega, fun _ => World.block_lt_of_cell? _ _ (hc' 0 (by omega)), hc', hsz⟩

end Go.Proofs.Ytdjcfeiaembckaa
