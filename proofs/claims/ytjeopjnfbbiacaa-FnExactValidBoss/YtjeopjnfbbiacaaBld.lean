
/-
  A strings.Builder that lies first in impl.writer: copyCheck, WriteByte, WriteString, String; impl's writer.number.
-/
import Derived.Test.YtjeopjnfbbiacaaLawVal
import Derived.Lib.Builder
import Derived.Lib.AppendStr
import Derived.Lib.UnsafeStr
import Derived.Laws.Externs
namespace Go.Proofs.Ytjeopjnfbbiacaa
open Go.RowKit

theorem Try.cellsByte : Try.prog.cellsOf 5 = 1 := by kernel_rfl

end Go.Proofs.Ytjeopjnfbbiacaa
