
/-
  The sums and the values: contracts of impl.addToSum, impl.sumText, impl.Value, spec.l1Sum, spec.Value.
-/
import Derived.Test.YtlgmkmegkojgbaaDoorRows
import Derived.Test.YtlgmkmegkojgbaaDoorMem
import Derived.WalkSpells
import Derived.WalkLawsBesides
import Derived.Outline
import Derived.Deep.RegionHeld3
namespace Go.Proofs.YtlgmkmegkojgbaaDoor
open Go.RowKit

theorem Tryd.info5 : (Tryd.prog.info? 5).map (fun i => (i.zero, i.size, i.bytes)) = some (some (.int .u8 0), 1, 1) := by kernel_rfl

/-! ### plain -/
def stp (v : Int) (b : UInt8) : Int := IntKind.u64.wrap (bits BinOp.xor IntKind.u64 v (IntKind.u64.wrap (b.toNat : Int)) * 1099511628211)
def fnv (v : Int) (l : List UInt8) : Int := l.foldl stp v
theorem fnv_nil (v : Int) : fnv v [] = v := rfl
theorem fnv_snoc (v : Int) (l : List UInt8) (b : UInt8) : fnv v (l ++ [b]) = stp (fnv v l) b := by simp [fnv, List.foldl_append]
theorem fnv_append (v : Int) (l r : List UInt8) : fnv v (l ++ r) = fnv (fnv v l) r := by simp [fnv, List.foldl_append]
def Word (x : Int) : Prop := 0 ≤ x ∧ x < 18446744073709551616
theorem stp_word (v : Int) (b : UInt8) : Word (stp v b) := by unfold stp Word; rw [IntKind.wrap_u64]; omega
theorem fnv_word (v : Int) (l : List UInt8) (h : Word v) : Word (fnv v l) := by
  induction l generalizing v with
  | nil => exact h
  | cons b r ih => exact ih _ (stp_word v b)
/-- k bytes, the highest first. -/
def beN : Nat → Int → List Int
  | 0, _ => []
  | k + 1, v => beN k (v / 256) ++ [v % 256]
theorem beN_length (k : Nat) (v : Int) : (beN k v).length = k := by
  induction k generalizing v with
  | zero => rfl
  | succ k ih => simp [beN, ih]
/-- The text of a sum. -/
def sumS (v : Int) : ByteArray := strOfNums (beN 8 v)
theorem sumS_size (v : Int) : (sumS v).size = 8 := by simp [sumS, strOfNums_size, beN_length]
def start : Int := 14695981039346656037
theorem start_word : Word start := by unfold Word start; omega
/-- What the inputs add to the text. -/
def addL (ss : List ByteArray) : List UInt8 := (ss.map fun s => (0 : UInt8) :: s.data.toList).flatten
theorem addL_snoc (ss : List ByteArray) (s : ByteArray) : addL (ss ++ [s]) = addL ss ++ [0] ++ s.data.toList := by simp [addL]
/-- The value. -/
def valS (name : ByteArray) (ss : List ByteArray) : ByteArray := sumS (fnv start (name.data.toList ++ addL ss))
theorem valS_size (name : ByteArray) (ss : List ByteArray) : (valS name ss).size = 8 := sumS_size _
def tot (ss : List ByteArray) : Nat := (ss.map (·.size)).sum
theorem tot_snoc (ss : List ByteArray) (s : ByteArray) : tot (ss ++ [s]) = tot ss + s.size := by simp [tot]
theorem tot_take_le (ss : List ByteArray) (k : Nat) : tot (ss.take k) ≤ tot ss := by
  have : tot ss = tot (ss.take k) + tot (ss.drop k) := by
    conv => lhs; rw [← List.take_append_drop k ss]
    unfold tot
    rw [List.map_append, List.sum_append]
  omega
theorem addL_length (ss : List ByteArray) : (addL ss).length = ss.length + tot ss := by
  induction ss with
  | nil => rfl
  | cons s r ih =>
    simp only [addL, tot, List.map_cons, List.flatten_cons, List.length_append, List.length_cons, List.sum_cons] at ih ⊢
    rw [ih]
    have : s.data.toList.length = s.size := by rw [Array.length_toList]; rfl
    omega
theorem takeS_snoc {ss : List ByteArray} {j : Nat} (hj : j < ss.length) : ss.take (j + 1) = ss.take j ++ [ss.getD j ByteArray.empty] := by
  rw [List.take_add_one, List.getElem?_eq_getElem hj]; simp [List.getD, List.getElem?_eq_getElem hj]
theorem take_snoc (s : ByteArray) (k : Nat) (h : k < s.size) : s.data.toList.take (k + 1) = s.data.toList.take k ++ [s[k]] := by
  rw [List.take_succ_eq_append_getElem (by simpa using h)]; rfl
theorem ret_int {k : IntKind} {a b : Int} (h : a = b) : Ending.returned (.int k a) = .returned (.int k b) := by rw [h]
theorem ret_str {a b : ByteArray} (h : a = b) : Ending.returned (.string a) = .returned (.string b) := by rw [h]

/-- A list of texts in memory. -/
structure StrsAt (w : World) (a : Option Addr) (b o n : Nat) (ss : List ByteArray) : Prop where
  ad : 0 < n → a = some ⟨b, o, none⟩
  len : ss.length = n
  max : n ≤ maxLen
  lt : 0 < n → b < w.heap.size
  cell : ∀ j, j < n → w.cell? ⟨b, o + j, none⟩ = some (.string (ss.getD j ByteArray.empty))
  sz : ∀ s ∈ ss, s.size ≤ maxLen
theorem StrsAt.below {w w' : World} {a : Option Addr} {b o n : Nat} {ss : List ByteArray} {C : Nat} (h : StrsAt w a b o n ss) (hb : Below C w w') (hC : 0 < n → b < C) : StrsAt w' a b o n ss :=
  ⟨h.ad, h.len, h.max, fun hn => Nat.lt_of_lt_of_le (h.lt hn) hb.size, fun j hj => (hb.cell (by exact hC (by omega))).trans (h.cell j hj), h.sz⟩
theorem StrsAt.below' {w w' : World} {a : Option Addr} {b o n : Nat} {ss : List ByteArray} (h : StrsAt w a b o n ss) (hb : Below w.heap.size w w') : StrsAt w' a b o n ss := h.below hb h.lt
theorem StrsAt.drew {w : World} {a : Option Addr} {b o n : Nat} {ss : List ByteArray} (h : StrsAt w a b o n ss) : StrsAt w.drew a b o n ss := h.below' (Below.refl _ _).drew
theorem StrsAt.szD {w : World} {a : Option Addr} {b o n : Nat} {ss : List ByteArray} (h : StrsAt w a b o n ss) {j : Nat} (hj : j < n) : (ss.getD j ByteArray.empty).size ≤ maxLen := by
  have hj' : j < ss.length := by rw [h.len]; exact hj
  refine h.sz _ ?_
  rw [show ss.getD j ByteArray.empty = ss[j] by simp [List.getD, List.getElem?_eq_getElem hj']]
  exact List.getElem_mem hj'

/-! ### impl -/
set_option maxHeartbeats 400000 in
theorem add_any (v : Int) (s : ByteArray) (w : World) (hs : s.size ≤ maxLen) :
    Calls Tryd.prog 83 #[.int .u64 v, .string s] w fun e w' => e = .returned (.int .u64 (fnv v s.data.toList)) ∧ w' = w := by
  unfold maxLen at hs
  go_enter Tryd.func83, Tryd.ntmps83
  go_wp2
  go_loop [0, 5] (fun n i => ∃ k : Nat, k ≤ s.size ∧ i = .int .i64 k ∧ n = .int .u64 (fnv v (s.data.toList.take k))) (fun _ i => s.size - (intOf i).toNat)
  case atStart => exact ⟨0, Nat.zero_le _, rfl, rfl⟩
  case round =>
    obtain ⟨k, hk, rfl, rfl⟩ := hrel
    by_cases hlt : k < s.size
    · have HS : Hid (fnv v (s.data.toList.take (k + 1)) = stp (fnv v (s.data.toList.take k)) s[k]) := by rw [take_snoc s k hlt]; exact fnv_snoc _ _ _
      go_wp2
      go_round
      case rel => exact ⟨k + 1, by omega, by go_num, by rw [HS.out]; rfl⟩
      case measure => simp [intOf]; omega
    · go_wp2
      go_ret
      exact ⟨ret_int (by rw [List.take_of_length_le (by simp; omega)]), rfl⟩

theorem OwnC.nums {B : Nat} {w : World} {g o cap n : Nat} {ns : List Int} (h : OwnC B w 1 g o cap n (ns.map (Value.int .u8))) : ns.length = n ∧ ∀ i, i < n → w.cell? ⟨g, o + i, none⟩ = some (.int .u8 (ns.getD i 0)) := by
  have hl : ns.length = n := by have := h.len; simpa using this
  refine ⟨hl, fun i hi => ?_⟩
  rw [h.holds i (by omega), List.getElem?_map, List.getElem?_eq_getElem (by omega)]
  simp [List.getD, List.getElem?_eq_getElem (show i < ns.length by omega)]

theorem made_one (z : Value) (hz : z.cells = #[z]) (n : Nat) : (madeCells z.cells (n * 1)).toList = List.replicate n z := by
  rw [hz, Nat.mul_one]
  apply List.ext_getElem
  · simp [madeCells]
  · intro i h1 h2
    simp [madeCells, Nat.mod_one]
theorem rep_set (k : Nat) (z u : Value) (ys : List Value) : (List.replicate (k + 1) z ++ ys).set k u = List.replicate k z ++ u :: ys := by
  rw [List.replicate_succ', List.append_assoc, List.set_append_right _ _ (by simp)]
  simp

set_option maxHeartbeats 400000 in
theorem sumText_any (v : Int) (w : World) (hv : Word v) :
    Calls Tryd.prog 84 #[.int .u64 v] w fun e w' => e = .returned (.string (sumS v)) ∧ Below w.heap.size w w' := by
  obtain ⟨hv0, hv1⟩ := hv
  obtain ⟨i0, hi, hz0, hz1, hz2⟩ := info_parts Tryd.info5
  go_enter Tryd.func84, Tryd.ntmps84
  go_wp2_with (refine wpList_make_c _ rfl _ _ 35 rfl w.heap.size 5 i0 (.int .u8 0) 1 1 Tryd.underlying35 hi hz0 hz1 hz2 .i64 .i64 8 8 8 rfl rfl rfl rfl (by decide) (by unfold maxLen; omega) (Nat.le_refl _) ?_; intro w1 hown hgr)
  go_loopw [0, 4] (fun n i wr => ∃ k : Nat, k ≤ 8 ∧ i = .int .i64 ((k : Int) - 1) ∧ (∃ u : Int, 0 ≤ u ∧ u < 18446744073709551616 ∧ n = .int .u64 u ∧ ∃ ys, beN 8 v = beN k u ++ ys ∧ OwnC w.heap.size wr 1 w.heap.size 0 8 8 (List.replicate k (.int .u8 0) ++ ys.map (Value.int .u8))) ∧ Below w.heap.size w wr) (fun _ i _ => (intOf i + 1).toNat)
  case atStart => exact ⟨8, Nat.le_refl _, rfl, ⟨v, hv0, hv1, rfl, [], by simp, by rw [made_one _ rfl] at hown; simpa using hown⟩, (Below.refl _ _).grown hgr (Nat.le_refl _) (by simp)⟩
  case round =>
    obtain ⟨k, hk, rfl, ⟨u, hu0, hu1, rfl, ys, hys, ho⟩, hb⟩ := hrel
    have HY : Hid (beN 8 v = beN k u ++ ys) := hys
    clear hys
    by_cases hlt : 0 < k
    · obtain ⟨k, rfl⟩ : ∃ k', k = k' + 1 := ⟨k - 1, by omega⟩
      obtain ⟨u0, _, hc⟩ := ho.cellSome (j := k) (by omega)
      have hf := ho.notFrozen (j := k) (by omega)
      have ho' := ho.setCell (j := k) (by omega) (.int .u8 (u % 256))
      rw [rep_set] at ho'
      simp only [Nat.zero_add] at hc hf ho'
      go_wp2
      go_roundw
      case rel =>
        refine ⟨k, by omega, rfl, ⟨u / 256, by omega, by omega, rfl, u % 256 :: ys, ?_, ho'⟩, hb.setCell (by exact Nat.le_refl _) _⟩
        rw [HY.out, beN, List.append_assoc]; rfl
      case measure => simp [intOf]
    · obtain rfl : k = 0 := by omega
      obtain ⟨hl, hcs⟩ := ho.nums
      have hconv := run_convert_bytes_arg (P := Tryd.prog) wr 35 5 Tryd.underlying35 Tryd.underlying5 w.heap.size 0 8 8 ys hl hcs 9 Tryd.underlying9
      clear hcs ho
      go_wp2
      go_ret
      exact ⟨ret_str (by rw [sumS, HY.out]; rfl), hb⟩

set_option maxHeartbeats 400000 in
theorem implValue_any (name : ByteArray) (a : Option Addr) (b o n c : Nat) (ss : List ByteArray) (w : World) (hn : name.size ≤ maxLen) (h : StrsAt w a b o n ss) :
    Calls Tryd.prog 73 #[.string name, .slice a n c] w fun e w' => e = .returned (.string (valS name ss)) ∧ Below w.heap.size w w' := by
  have hmax := h.max
  unfold maxLen at hmax
  go_enter Tryd.func73, Tryd.ntmps73
  go_wp2_with (go_at_call 83; refine (add_any _ _ _ hn).mono ?_; rintro e w' ⟨rfl, rfl⟩)
  go_loop [5, 12] (fun v i => ∃ k : Nat, k ≤ n ∧ i = .int .i64 k ∧ v = .int .u64 (fnv start (name.data.toList ++ addL (ss.take k)))) (fun _ i => n - (intOf i).toNat)
  case atStart => exact ⟨0, Nat.zero_le _, rfl, by simp [addL]; rfl⟩
  case round =>
    obtain ⟨k, hk, rfl, rfl⟩ := hrel
    by_cases hlt : k < n
    · obtain rfl := h.ad (by omega)
      have hc := h.cell k hlt
      have hsz := h.szD hlt
      obtain ⟨s, hs⟩ : ∃ s, s = ss.getD k ByteArray.empty := ⟨_, rfl⟩
      rw [← hs] at hc hsz
      have hS : fnv start (name.data.toList ++ addL (ss.take (k + 1))) = fnv (fnv (fnv start (name.data.toList ++ addL (ss.take k))) [0]) s.data.toList := by
        rw [takeS_snoc (by rw [h.len]; exact hlt), addL_snoc, ← hs, ← fnv_append, ← fnv_append]; simp
      have HS : Hid _ := hS
      clear hs hS
      go_wp2_with fail
      refine (add_any _ _ _ (by decide)).mono ?_
      rintro e w' ⟨rfl, rfl⟩
      go_wp2_with fail
      refine (add_any _ _ _ hsz).mono ?_
      rintro e w' ⟨rfl, rfl⟩
      go_wp2
      go_round
      case rel => exact ⟨k + 1, by omega, by go_num, by rw [HS.out]⟩
      case measure => simp [intOf]; omega
    · go_wp2_with fail
      refine (sumText_any _ _ (fnv_word _ _ start_word)).mono ?_
      rintro e w' ⟨rfl, hb⟩
      go_wp2
      go_ret
      exact ⟨ret_str (by unfold valS; rw [List.take_of_length_le (by rw [h.len]; omega)]), hb⟩
end Go.Proofs.YtlgmkmegkojgbaaDoor
