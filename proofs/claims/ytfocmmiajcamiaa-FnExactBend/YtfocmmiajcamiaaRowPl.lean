
/-
  The plan that came in.
-/
import Derived.Test.YtfocmmiajcamiaaRowWk
import Derived.Test.YtfocmmiajcamiaaDat
import Derived.Deep.Slices
import Derived.Deep.Strs
namespace Go.Proofs.Ytfocmmiajcamiaa
open Go.ChangeShapes Go.WideShapes Go.ChangeAt Go.RowKit Go.Deep
open Go.ChangeMaps (open_string shut_string)

theorem wf_I64 {x : Int} (h : (Lit.int .i64 x).wf = true) : I64 x := by
  simp [Lit.wf, IntKind.min, IntKind.max, IntKind.signed, IntKind.bits] at h
  exact ⟨by omega, by omega⟩

end Go.Proofs.Ytfocmmiajcamiaa
