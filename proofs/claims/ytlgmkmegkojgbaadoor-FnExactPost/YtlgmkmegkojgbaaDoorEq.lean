
/-
  laws.eqIntS, eqTask, eqTaskS, eqPlan: two readings of the same.
-/
import Derived.Test.YtlgmkmegkojgbaaDoorTo
namespace Go.Proofs.YtlgmkmegkojgbaaDoor
open Go.RowKit



end Go.Proofs.YtlgmkmegkojgbaaDoor
