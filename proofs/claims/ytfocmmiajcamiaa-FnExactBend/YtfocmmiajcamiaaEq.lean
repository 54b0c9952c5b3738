
/-
  laws.eqIntS, eqTask, eqTaskS, eqPlan: two readings of the same.
-/
import Derived.Test.YtfocmmiajcamiaaTo
namespace Go.Proofs.Ytfocmmiajcamiaa
open Go.RowKit



end Go.Proofs.Ytfocmmiajcamiaa
