
/-
  impl's writer.number, at the sizes in use.
-/
import Derived.Test.YtjeopjnfbbiacaaBld
namespace Go.Proofs.Ytjeopjnfbbiacaa
open Go.RowKit

theorem Try.wrap8 : IntKind.i64.wrap 8 = 8 := by decide
theorem Try.wrap16 : IntKind.i64.wrap 16 = 16 := by decide
theorem Try.wrap24 : IntKind.i64.wrap 24 = 24 := by decide
theorem Try.wrap0 : IntKind.i64.wrap 0 = 0 := by decide
theorem u8wrap (x : Int) : IntKind.u8.wrap x = x % 256 := by rw [IntKind.wrap_u8]


end Go.Proofs.Ytjeopjnfbbiacaa
