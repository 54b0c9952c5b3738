
import Derived.Test.YtimpfhfgcmipgaaDoorQLawVal
import Derived.Deep.DeepCutAuto
namespace Go.Proofs.YtimpfhfgcmipgaaDoor
open Go.RowKit

/-! ### the decimal text of a mark -/
/-! ### marks in a row of texts -/
end Go.Proofs.YtimpfhfgcmipgaaDoor
