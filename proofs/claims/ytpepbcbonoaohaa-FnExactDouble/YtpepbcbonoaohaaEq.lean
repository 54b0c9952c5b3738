
/-
  laws.eqIntS, eqTask, eqTaskS, eqPlan: two readings of the same.
-/
import Derived.Test.YtpepbcbonoaohaaTo
namespace Go.Proofs.Ytpepbcbonoaohaa
open Go.RowKit



end Go.Proofs.Ytpepbcbonoaohaa
