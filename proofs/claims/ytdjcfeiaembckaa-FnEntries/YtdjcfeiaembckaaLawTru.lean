
/-
  laws.markIntS, markTaskS, markPlan; THE ROW of FnExactTruth, proved.
-/
import Derived.Test.YtdjcfeiaembckaaMark
import Derived.Test.YtdjcfeiaembckaaTru2
import Derived.Test.YtdjcfeiaembckaaMid
import Derived.Test.YtdjcfeiaembckaaRowPlan
namespace Go.Proofs.Ytdjcfeiaembckaa
open Go.ChangeShapes Go.WideShapes Go.ChangeAt Go.RowKit
open Go.ChangeMaps (open_string shut_string)

theorem TruS.sizes {ts : List TaskD} {ss : List ByteArray} (h : TruS ts ss) : ss.length ≤ 40 ∧ ∀ s ∈ ss, s.size ≤ maxLen := by
  rcases h with ⟨hc, rfl⟩ | ⟨_, rfl⟩
  · obtain ⟨hl, _, _, hd⟩ := code0 hc
    refine ⟨by rw [trs_length]; exact hl.2, fun s hs => ?_⟩
    obtain ⟨j, hj, rfl⟩ := List.mem_iff_getElem.1 hs
    rw [trs_length] at hj
    have := trs_get ts hj
    simp only [List.getD, List.getElem?_eq_getElem (show j < (trs ts ts.length).length by rw [trs_length]; exact hj), Option.getD_some] at this
    rw [this, tv_size hd hj]; unfold maxLen; omega
  · exact ⟨by simp, by simp⟩

end Go.Proofs.Ytdjcfeiaembckaa
