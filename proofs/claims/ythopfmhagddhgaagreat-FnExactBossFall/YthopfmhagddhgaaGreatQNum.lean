import Derived.Test.YthopfmhagddhgaaGreatQLawVal
import Derived.Lib.Builder
import Derived.Lib.AppendStr
import Derived.Lib.UnsafeStr
import Derived.Laws.Externs
namespace Go.Proofs.YthopfmhagddhgaaGreat
open Go.RowKit

theorem Tryz.cellsByte : Tryz.prog.cellsOf 5 = 1 := by kernel_rfl

end Go.Proofs.YthopfmhagddhgaaGreat

namespace Go.Proofs.YthopfmhagddhgaaGreat
open Go.RowKit

theorem Tryz.wrap8 : IntKind.i64.wrap 8 = 8 := by decide
theorem Tryz.wrap16 : IntKind.i64.wrap 16 = 16 := by decide
theorem Tryz.wrap24 : IntKind.i64.wrap 24 = 24 := by decide
theorem Tryz.wrap0 : IntKind.i64.wrap 0 = 0 := by decide
theorem u8wrap (x : Int) : IntKind.u8.wrap x = x % 256 := by rw [IntKind.wrap_u8]


end Go.Proofs.YthopfmhagddhgaaGreat
