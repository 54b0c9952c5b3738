
/-
  laws.eqIntS, eqTask, eqTaskS, eqPlan: two readings of the same.
-/
import Derived.Test.YtdjcfeiaembckaaTo
namespace Go.Proofs.Ytdjcfeiaembckaa
open Go.RowKit



end Go.Proofs.Ytdjcfeiaembckaa
