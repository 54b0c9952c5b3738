
/-
  The specification's sums and values: contracts of spec.l1Sum, spec.Value.
-/
import Derived.Test.YtoikcjeagigmfaaVal
namespace Go.Proofs.Ytoikcjeagigmfaa
open Go.RowKit

def bN (l : List UInt8) : List Int := l.map fun b => (b.toNat : Int)
theorem byteCells_bN (s : ByteArray) : byteCells s = (bN s.data.toList).map (Value.int .u8) := by simp [byteCells, bN]
theorem strOf_bN (l : List UInt8) : strOfNums (bN l) = ⟨l.toArray⟩ := by
  unfold strOfNums bN
  congr 1
  rw [List.map_map]
  have : ((fun n : Int => UInt8.ofNat n.toNat) ∘ fun b : UInt8 => (b.toNat : Int)) = id := by funext b; simp
  rw [this, List.map_id]
theorem oneCell_nums (ns : List Int) : ∀ u ∈ ns.map (Value.int .u8), u.oneCell' = true := by
  intro u hu
  obtain ⟨_, _, rfl⟩ := List.mem_map.1 hu
  rfl

end Go.Proofs.Ytoikcjeagigmfaa
