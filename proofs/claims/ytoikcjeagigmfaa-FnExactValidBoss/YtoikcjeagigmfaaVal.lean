
/-
  The sums and the values: contracts of impl.addToSum, impl.sumText, impl.Value, spec.l1Sum, spec.Value.
-/
import Derived.Test.YtoikcjeagigmfaaRows
import Derived.Test.YtoikcjeagigmfaaMem
import Derived.WalkSpells
import Derived.WalkLawsBesides
import Derived.Outline
import Derived.Deep.RegionHeld3
namespace Go.Proofs.Ytoikcjeagigmfaa
open Go.RowKit

theorem Try.info5 : (Try.prog.info? 5).map (fun i => (i.zero, i.size, i.bytes)) = some (some (.int .u8 0), 1, 1) := by kernel_rfl

/-! ### plain -/
def stp (v : Int) (b : UInt8) : Int := IntKind.u64.wrap (bits BinOp.xor IntKind.u64 v (IntKind.u64.wrap (b.toNat : Int)) * 1099511628211)
def fnv (v : Int) (l : List UInt8) : Int := l.foldl stp v
theorem fnv_nil (v : Int) : fnv v [] = v := rfl
theorem fnv_snoc (v : Int) (l : List UInt8) (b : UInt8) : fnv v (l ++ [b]) = stp (fnv v l) b := by simp [fnv, List.foldl_append]
theorem fnv_append (v : Int) (l r : List UInt8) : fnv v (l ++ r) = fnv (fnv v l) r := by simp [fnv, List.foldl_append]
def Word (x : Int) : Prop := 0 ≤ x ∧ x < 18446744073709551616
theorem stp_word (v : Int) (b : UInt8) : Word (stp v b) := by unfold stp Word; rw [IntKind.wrap_u64]; omega
theorem fnv_word (v : Int) (l : List UInt8) (h : Word v) : Word (fnv v l) := by
  induction l generalizing v with
  | nil => exact h
  | cons b r ih => exact ih _ (stp_word v b)
/-- k bytes, the highest first. -/
def beN : Nat → Int → List Int
  | 0, _ => []
  | k + 1, v => beN k (v / 256) ++ [v % 256]
theorem beN_length (k : Nat) (v : Int) : (beN k v).length = k := by
  induction k generalizing v with
  | zero => rfl
  | succ k ih => simp [beN, ih]
/-- The text of a sum. -/
def sumS (v : Int) : ByteArray := strOfNums (beN 8 v)
theorem sumS_size (v : Int) : (sumS v).size = 8 := by simp [sumS, strOfNums_size, beN_length]
def start : Int := 14695981039346656037
theorem start_word : Word start := by unfold Word start; omega
/-- What the inputs add to the text. -/
def addL (ss : List ByteArray) : List UInt8 := (ss.map fun s => (0 : UInt8) :: s.data.toList).flatten
theorem addL_snoc (ss : List ByteArray) (s : ByteArray) : addL (ss ++ [s]) = addL ss ++ [0] ++ s.data.toList := by simp [addL]
/-- The value. -/
def valS (name : ByteArray) (ss : List ByteArray) : ByteArray := sumS (fnv start (name.data.toList ++ addL ss))
theorem valS_size (name : ByteArray) (ss : List ByteArray) : (valS name ss).size = 8 := sumS_size _
def tot (ss : List ByteArray) : Nat := (ss.map (·.size)).sum
theorem tot_snoc (ss : List ByteArray) (s : ByteArray) : tot (ss ++ [s]) = tot ss + s.size := by simp [tot]
theorem tot_take_le (ss : List ByteArray) (k : Nat) : tot (ss.take k) ≤ tot ss := by
  have : tot ss = tot (ss.take k) + tot (ss.drop k) := by
    conv => lhs; rw [← List.take_append_drop k ss]
    unfold tot
    rw [List.map_append, List.sum_append]
  omega
theorem addL_length (ss : List ByteArray) : (addL ss).length = ss.length + tot ss := by
  induction ss with
  | nil => rfl
  | cons s r ih =>
    simp only [addL, tot, List.map_cons, List.flatten_cons, List.length_append, List.length_cons, List.sum_cons] at ih ⊢
    rw [ih]
    have : s.data.toList.length = s.size := by rw [Array.length_toList]; rfl
    omega
theorem takeS_snoc {ss : List ByteArray} {j : Nat} (hj : j < ss.length) : ss.take (j + 1) = ss.take j ++ [ss.getD j ByteArray.empty] := by
  rw [List.take_add_one, List.getElem?_eq_getElem hj]; simp [List.getD, List.getElem?_eq_getElem hj]
theorem take_snoc (s : ByteArray) (k : Nat) (h : k < s.size) : s.data.toList.take (k + 1) = s.data.toList.take k ++ [s[k]] := by
  rw [List.take_succ_eq_append_getElem (by simpa using h)]; rfl
theorem ret_int {k : IntKind} {a b : Int} (h : a = b) : Ending.returned (.int k a) = .returned (.int k b) := by rw [h]
theorem ret_str {a b : ByteArray} (h : a = b) : Ending.returned (.string a) = .returned (.string b) := by rw [h]

/-- A list of texts in memory. -/
structure StrsAt (w : World) (a : Option Addr) (b o n : Nat) (ss : List ByteArray) : Prop where
  ad : 0 < n → a = some ⟨b, o, none⟩
  len : ss.length = n
  max : n ≤ maxLen
  lt : 0 < n → b < w.heap.size
  cell : ∀ j, j < n → w.cell? ⟨b, o + j, none⟩ = some (.string (ss.getD j ByteArray.empty))
  sz : ∀ s ∈ ss, s.size ≤ maxLen
theorem StrsAt.below {w w' : World} {a : Option Addr} {b o n : Nat} {ss : List ByteArray} {C : Nat} (h : StrsAt w a b o n ss) (hb : Below C w w') (hC : 0 < n → b < C) : StrsAt w' a b o n ss :=
  ⟨h.ad, h.len, h.max, fun hn => Nat.lt_of_lt_of_le (h.lt hn) hb.size, fun j hj => (hb.cell (by exact hC (by omega))).trans (h.cell j hj), h.sz⟩
theorem StrsAt.below' {w w' : World} {a : Option Addr} {b o n : Nat} {ss : List ByteArray} (h : StrsAt w a b o n ss) (hb : Below w.heap.size w w') : StrsAt w' a b o n ss := h.below hb h.lt
theorem StrsAt.drew {w : World} {a : Option Addr} {b o n : Nat} {ss : List ByteArray} (h : StrsAt w a b o n ss) : StrsAt w.drew a b o n ss := h.below' (Below.refl _ _).drew
theorem StrsAt.szD {w : World} {a : Option Addr} {b o n : Nat} {ss : List ByteArray} (h : StrsAt w a b o n ss) {j : Nat} (hj : j < n) : (ss.getD j ByteArray.empty).size ≤ maxLen := by
  have hj' : j < ss.length := by rw [h.len]; exact hj
  refine h.sz _ ?_
  rw [show ss.getD j ByteArray.empty = ss[j] by simp [List.getD, List.getElem?_eq_getElem hj']]
  exact List.getElem_mem hj'

/-! ### impl -/
theorem OwnC.nums {B : Nat} {w : World} {g o cap n : Nat} {ns : List Int} (h : OwnC B w 1 g o cap n (ns.map (Value.int .u8))) : ns.length = n ∧ ∀ i, i < n → w.cell? ⟨g, o + i, none⟩ = some (.int .u8 (ns.getD i 0)) := by
  have hl : ns.length = n := by have := h.len; simpa using this
  refine ⟨hl, fun i hi => ?_⟩
  rw [h.holds i (by omega), List.getElem?_map, List.getElem?_eq_getElem (by omega)]
  simp [List.getD, List.getElem?_eq_getElem (show i < ns.length by omega)]

theorem made_one (z : Value) (hz : z.cells = #[z]) (n : Nat) : (madeCells z.cells (n * 1)).toList = List.replicate n z := by
  rw [hz, Nat.mul_one]
  apply List.ext_getElem
  · simp [madeCells]
  · intro i h1 h2
    simp [madeCells, Nat.mod_one]
theorem rep_set (k : Nat) (z u : Value) (ys : List Value) : (List.replicate (k + 1) z ++ ys).set k u = List.replicate k z ++ u :: ys := by
  rw [List.replicate_succ', List.append_assoc, List.set_append_right _ _ (by simp)]
  simp

end Go.Proofs.Ytoikcjeagigmfaa
