
/-
  impl.workedOn, the last tick of a task.
-/
import Derived.Test.YthogdlabinnndaaDoorTk0
namespace Go.Proofs.YthogdlabinnndaaDoor
open Go.RowKit

end Go.Proofs.YthogdlabinnndaaDoor
