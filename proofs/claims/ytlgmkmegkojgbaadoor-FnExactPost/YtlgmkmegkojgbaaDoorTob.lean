
/-
  Lists of bytes, of no program.
-/
import Derived.Test.YtlgmkmegkojgbaaDoorNum
namespace Go.Proofs.YtlgmkmegkojgbaaDoor
open Go.RowKit

def toB (ns : List Int) : List UInt8 := ns.map fun z => UInt8.ofNat z.toNat
theorem byteCells_toB (ns : List Int) (h : ∀ z ∈ ns, 0 ≤ z ∧ z < 256) : Lib.byteCells (toB ns) = ns.map (Value.int .u8) := by
  unfold Lib.byteCells toB
  rw [List.map_map]
  refine List.map_congr_left fun z hz => ?_
  have := h z hz
  simp only [Function.comp]
  congr 1
  rw [UInt8.toNat_ofNat_of_lt' (by simp [UInt8.size]; omega)]
  omega
theorem cells_toB (ns : List Int) (h : ∀ z ∈ ns, 0 ≤ z ∧ z < 256) : (bN (toB ns)) = ns := by
  unfold bN toB
  rw [List.map_map]
  conv => rhs; rw [← List.map_id ns]
  refine List.map_congr_left fun z hz => ?_
  have := h z hz
  simp only [Function.comp, id]
  rw [UInt8.toNat_ofNat_of_lt' (by simp [UInt8.size]; omega)]
  omega
theorem bN_append (l r : List UInt8) : bN (l ++ r) = bN l ++ bN r := by simp [bN]
end Go.Proofs.YtlgmkmegkojgbaaDoor
