import Derived.Test.YtaeomkpofcbmiaaGreatRows
import Derived.Test.YtaeomkpofcbmiaaGreatQMem
import Derived.WalkSpells
import Derived.WalkLawsBesides
import Derived.Outline
import Derived.Deep.RegionHeld3
import Derived.Deep.QuietTactic
import Derived.BigQuiet
namespace Go.Proofs.YtaeomkpofcbmiaaGreat
open Go.RowKit

theorem Tryz.info5 : (Tryz.prog.info? 5).map (fun i => (i.zero, i.size, i.bytes)) = some (some (.int .u8 0), 1, 1) := by kernel_rfl

/-! ### plain -/
def stp (v : Int) (b : UInt8) : Int := IntKind.u64.wrap (bits BinOp.xor IntKind.u64 v (IntKind.u64.wrap (b.toNat : Int)) * 1099511628211)
def fnv (v : Int) (l : List UInt8) : Int := l.foldl stp v
theorem fnv_nil (v : Int) : fnv v [] = v := rfl
theorem fnv_snoc (v : Int) (l : List UInt8) (b : UInt8) : fnv v (l ++ [b]) = stp (fnv v l) b := by simp [fnv, List.foldl_append]
theorem fnv_append (v : Int) (l r : List UInt8) : fnv v (l ++ r) = fnv (fnv v l) r := by simp [fnv, List.foldl_append]
def Word (x : Int) : Prop := 0 ≤ x ∧ x < 18446744073709551616
theorem stp_word (v : Int) (b : UInt8) : Word (stp v b) := by unfold stp Word; rw [IntKind.wrap_u64]; omega
theorem fnv_word (v : Int) (l : List UInt8) (h : Word v) : Word (fnv v l) := by
  induction l generalizing v with
  | nil => exact h
  | cons b r ih => exact ih _ (stp_word v b)
/-- k bytes, the highest first. -/
def beN : Nat → Int → List Int
  | 0, _ => []
  | k + 1, v => beN k (v / 256) ++ [v % 256]
theorem beN_length (k : Nat) (v : Int) : (beN k v).length = k := by
  induction k generalizing v with
  | zero => rfl
  | succ k ih => simp [beN, ih]
/-- The text of a sum. -/
def sumS (v : Int) : ByteArray := strOfNums (beN 8 v)
theorem sumS_size (v : Int) : (sumS v).size = 8 := by simp [sumS, strOfNums_size, beN_length]
def start : Int := 14695981039346656037
theorem start_word : Word start := by unfold Word start; omega
/-- What the inputs add to the text. -/
def addL (ss : List ByteArray) : List UInt8 := (ss.map fun s => (0 : UInt8) :: s.data.toList).flatten
theorem addL_snoc (ss : List ByteArray) (s : ByteArray) : addL (ss ++ [s]) = addL ss ++ [0] ++ s.data.toList := by simp [addL]
/-- The value. -/
def valS (name : ByteArray) (ss : List ByteArray) : ByteArray := sumS (fnv start (name.data.toList ++ addL ss))
theorem valS_size (name : ByteArray) (ss : List ByteArray) : (valS name ss).size = 8 := sumS_size _
def tot (ss : List ByteArray) : Nat := (ss.map (·.size)).sum
theorem tot_snoc (ss : List ByteArray) (s : ByteArray) : tot (ss ++ [s]) = tot ss + s.size := by simp [tot]
theorem tot_take_le (ss : List ByteArray) (k : Nat) : tot (ss.take k) ≤ tot ss := by
  have : tot ss = tot (ss.take k) + tot (ss.drop k) := by
    conv => lhs; rw [← List.take_append_drop k ss]
    unfold tot
    rw [List.map_append, List.sum_append]
  omega
theorem addL_length (ss : List ByteArray) : (addL ss).length = ss.length + tot ss := by
  induction ss with
  | nil => rfl
  | cons s r ih => simp only [addL, tot, List.map_cons, List.flatten_cons, List.length_append, List.length_cons, List.sum_cons] at ih ⊢; rw [ih]; have : s.data.toList.length = s.size := by rw [Array.length_toList]; rfl
                   omega
theorem takeS_snoc {ss : List ByteArray} {j : Nat} (hj : j < ss.length) : ss.take (j + 1) = ss.take j ++ [ss.getD j ByteArray.empty] := by
  rw [List.take_add_one, List.getElem?_eq_getElem hj]; simp [List.getD, List.getElem?_eq_getElem hj]
theorem take_snoc (s : ByteArray) (k : Nat) (h : k < s.size) : s.data.toList.take (k + 1) = s.data.toList.take k ++ [s[k]] := by
  rw [List.take_succ_eq_append_getElem (by simpa using h)]; rfl
theorem ret_int {k : IntKind} {a b : Int} (h : a = b) : Ending.returned (.int k a) = .returned (.int k b) := by rw [h]
theorem ret_str {a b : ByteArray} (h : a = b) : Ending.returned (.string a) = .returned (.string b) := by rw [h]

/-- A list of texts in memory. -/
structure StrsAt (w : World) (a : Option Addr) (b o n : Nat) (ss : List ByteArray) : Prop where
  ad : 0 < n → a = some ⟨b, o, none⟩
  len : ss.length = n
  max : n ≤ maxLen
  lt : 0 < n → b < w.heap.size
  cell : ∀ j, j < n → w.cell? ⟨b, o + j, none⟩ = some (.string (ss.getD j ByteArray.empty))
  sz : ∀ s ∈ ss, s.size ≤ maxLen
theorem StrsAt.below {w w' : World} {a : Option Addr} {b o n : Nat} {ss : List ByteArray} {C : Nat} (h : StrsAt w a b o n ss) (hb : Below C w w') (hC : 0 < n → b < C) : StrsAt w' a b o n ss :=
  ⟨h.ad, h.len, h.max, fun hn => Nat.lt_of_lt_of_le (h.lt hn) hb.size, fun j hj => (hb.cell (by exact hC (by omega))).trans (h.cell j hj), h.sz⟩
theorem StrsAt.below' {w w' : World} {a : Option Addr} {b o n : Nat} {ss : List ByteArray} (h : StrsAt w a b o n ss) (hb : Below w.heap.size w w') : StrsAt w' a b o n ss := h.below hb h.lt
theorem StrsAt.drew {w : World} {a : Option Addr} {b o n : Nat} {ss : List ByteArray} (h : StrsAt w a b o n ss) : StrsAt w.drew a b o n ss := h.below' (Below.refl _ _).drew
theorem StrsAt.szD {w : World} {a : Option Addr} {b o n : Nat} {ss : List ByteArray} (h : StrsAt w a b o n ss) {j : Nat} (hj : j < n) : (ss.getD j ByteArray.empty).size ≤ maxLen := by
  have hj' : j < ss.length := by rw [h.len]; exact hj
  refine h.sz _ ?_
  rw [show ss.getD j ByteArray.empty = ss[j] by simp [List.getD, List.getElem?_eq_getElem hj']]
  exact List.getElem_mem hj'

/-! ### impl -/
theorem OwnC.nums {B : Nat} {w : World} {g o cap n : Nat} {ns : List Int} (h : OwnC B w 1 g o cap n (ns.map (Value.int .u8))) : ns.length = n ∧ ∀ i, i < n → w.cell? ⟨g, o + i, none⟩ = some (.int .u8 (ns.getD i 0)) := by
  have hl : ns.length = n := by have := h.len; simpa using this
  refine ⟨hl, fun i hi => ?_⟩
  rw [h.holds i (by omega), List.getElem?_map, List.getElem?_eq_getElem (by omega)]
  simp [List.getD, List.getElem?_eq_getElem (show i < ns.length by omega)]

theorem made_one (z : Value) (hz : z.cells = #[z]) (n : Nat) : (madeCells z.cells (n * 1)).toList = List.replicate n z := by
  rw [hz, Nat.mul_one]
  apply List.ext_getElem
  · simp [madeCells]
  · intro i h1 h2
    simp [madeCells, Nat.mod_one]
theorem rep_set (k : Nat) (z u : Value) (ys : List Value) : (List.replicate (k + 1) z ++ ys).set k u = List.replicate k z ++ u :: ys := by
  rw [List.replicate_succ', List.append_assoc, List.set_append_right _ _ (by simp)]
  simp

end Go.Proofs.YtaeomkpofcbmiaaGreat

namespace Go.Proofs.YtaeomkpofcbmiaaGreat
open Go.RowKit

def bN (l : List UInt8) : List Int := l.map fun b => (b.toNat : Int)
theorem byteCells_bN (s : ByteArray) : byteCells s = (bN s.data.toList).map (Value.int .u8) := by simp [byteCells, bN]
theorem strOf_bN (l : List UInt8) : strOfNums (bN l) = ⟨l.toArray⟩ := by
  unfold strOfNums bN
  congr 1
  rw [List.map_map]
  have : ((fun n : Int => UInt8.ofNat n.toNat) ∘ fun b : UInt8 => (b.toNat : Int)) = id := by funext b; simp
  rw [this, List.map_id]
theorem oneCell_nums (ns : List Int) : ∀ u ∈ ns.map (Value.int .u8), u.oneCell' = true := by
  intro u hu
  obtain ⟨_, _, rfl⟩ := List.mem_map.1 hu
  rfl

end Go.Proofs.YtaeomkpofcbmiaaGreat

namespace Go.Proofs.YtaeomkpofcbmiaaGreat
open Go.RowKit

theorem Tryz.info9 : (Tryz.prog.info? 9).map (fun i => (i.zero, i.size, i.bytes)) = some (some (.string ⟨#[]⟩), 1, 16) := by kernel_rfl

set_option maxHeartbeats 400000 in
theorem szStringS_any (a : Option Addr) (b o n c : Nat) (ss : List ByteArray) (left : Int) (w : World) (hl0 : 0 ≤ left) (hl1 : left ≤ 1048576) (h : StrsAt w a b o n ss) :
    Calls Tryz.prog 18 #[.slice a n c, .int .i64 left] w fun e w' => (∃ r, e = .returned (.int .i64 r) ∧ (r = -1 ∨ r = left - (n + tot ss) ∧ 0 ≤ r)) ∧ w' = w := by
  have hmax := h.max
  unfold maxLen at hmax
  by_cases h1 : left - n < 0
  · go_enter Tryz.func18, Tryz.ntmps18
    go_wp2
    go_ret
    exact ⟨⟨_, rfl, .inl rfl⟩, rfl⟩
  · go_enter Tryz.func18, Tryz.ntmps18
    go_wp2
    go_loop [1, 5] (fun l i => ∃ k : Nat, k ≤ n ∧ i = .int .i64 k ∧ ∃ r : Int, l = .int .i64 r ∧ 0 ≤ r ∧ r = left - n - tot (ss.take k)) (fun _ i => n - (intOf i).toNat)
    case atStart => exact ⟨0, Nat.zero_le _, rfl, _, rfl, by omega, by simp [tot]⟩
    case round =>
      obtain ⟨k, hk, rfl, r, rfl, hr0, hr⟩ := hrel
      have HR : Hid (r = left - n - tot (ss.take k)) := hr
      have hr1 : r ≤ 1048576 := by omega
      clear hr
      by_cases hlt : k < n
      · obtain rfl := h.ad (by omega)
        have hc := h.cell k hlt
        have hsz := h.szD hlt
        have hS : tot (ss.take (k + 1)) = tot (ss.take k) + (ss.getD k ByteArray.empty).size := by rw [takeS_snoc (by rw [h.len]; exact hlt), tot_snoc]
        obtain ⟨s, hs'⟩ : ∃ s, s = ss.getD k ByteArray.empty := ⟨_, rfl⟩
        rw [← hs'] at hc hsz hS
        have HS : Hid _ := hS
        clear hS hs'
        unfold maxLen at hsz
        by_cases h2 : r - s.size < 0
        · go_wp2
          go_ret
          exact ⟨⟨_, rfl, .inl rfl⟩, rfl⟩
        · go_wp2
          go_round
          case rel => exact ⟨k + 1, by omega, by go_num, _, rfl, by omega, by rw [HS.out, HR.out]; omega⟩
          case measure => simp [intOf]; omega
      · obtain rfl : k = n := by omega
        go_wp2
        go_ret
        refine ⟨⟨r, rfl, .inr ⟨?_, hr0⟩⟩, rfl⟩
        rw [HR.out, List.take_of_length_le (by rw [h.len]; omega)]; omega

/-- A row of texts of the call's own, as a list in memory. -/
theorem StrsAt.ofOwn {B : Nat} {w : World} {g o cap n : Nat} {ss : List ByteArray} (h : OwnC B w 1 g o cap n (ss.map Value.string)) (hz : ∀ s ∈ ss, s.size ≤ maxLen) : StrsAt w (some ⟨g, o, none⟩) g o n ss := by
  have hl : ss.length = n := by have := h.len; simpa using this
  refine ⟨fun _ => rfl, hl, Nat.le_trans h.le h.max, fun _ => h.hi, fun j hj => ?_, hz⟩
  rw [h.holds j (by omega), List.getElem?_map, List.getElem?_eq_getElem (by omega)]
  simp [List.getD, List.getElem?_eq_getElem (show j < ss.length by omega)]

theorem set_step (ss : List ByteArray) (k n : Nat) (z : Value) (hk : k < n) (hn : ss.length = n) :
    ((ss.take k).map Value.string ++ List.replicate (n - k) z).set k (.string (ss.getD k ByteArray.empty)) = (ss.take (k + 1)).map Value.string ++ List.replicate (n - (k + 1)) z := by
  rw [takeS_snoc (by omega), List.set_append_right _ _ (by simp; omega), show n - k = (n - (k + 1)) + 1 by omega, List.replicate_succ]
  have : k - (List.map Value.string (List.take k ss)).length = 0 := by simp; omega
  rw [this]
  simp

set_option maxHeartbeats 400000 in
theorem toStringS_any (a : Option Addr) (b o n c : Nat) (ss : List ByteArray) (w : World) (h : StrsAt w a b o n ss) (hn : n ≤ 1048576) :
    Calls Tryz.prog 28 #[.slice a n c] w fun e w' => ∃ g, e = .returned (.slice (some ⟨g, 0, none⟩) n n) ∧ OwnC w.heap.size w' 1 g 0 n n (ss.map Value.string) ∧ Below w.heap.size w w' := by
  obtain ⟨i0, hi, hz0, hz1, hz2⟩ := info_parts Tryz.info9
  go_enter Tryz.func28, Tryz.ntmps28
  go_wp2_with (refine wpList_make_c _ rfl _ _ 22 rfl w.heap.size 9 i0 (.string ⟨#[]⟩) 1 16 Tryz.underlying22 hi hz0 hz1 hz2 .i64 .i64 n n n rfl rfl rfl rfl (by omega) (by unfold maxLen; omega) (Nat.le_refl _) ?_; intro w1 hown hgr)
  rw [made_one _ rfl] at hown
  go_loopw [4] (fun i wr => ∃ k : Nat, k ≤ n ∧ i = .int .i64 k ∧ OwnC w.heap.size wr 1 w.heap.size 0 n n ((ss.take k).map Value.string ++ List.replicate (n - k) (.string ⟨#[]⟩)) ∧ Below w.heap.size w wr) (fun i _ => n - (intOf i).toNat)
  case atStart => exact ⟨0, Nat.zero_le _, rfl, by simpa using hown, (Below.refl _ _).grown hgr (Nat.le_refl _) (by simp)⟩
  case round =>
    obtain ⟨k, hk, rfl, ho, hb⟩ := hrel
    by_cases hlt : k < n
    · obtain rfl := h.ad (by omega)
      have hbl := h.lt (by omega)
      have hc : wr.cell? ⟨b, o + k, none⟩ = some (.string (ss.getD k ByteArray.empty)) := (hb.cell (by exact hbl)).trans (h.cell k hlt)
      obtain ⟨u0, _, hc0⟩ := ho.cellSome (j := k) (by omega)
      have hf := ho.notFrozen (j := k) (by omega)
      have ho' := ho.setCell (j := k) (by omega) (.string (ss.getD k ByteArray.empty))
      rw [set_step ss k n _ hlt h.len] at ho'
      obtain ⟨s, hs'⟩ : ∃ s, s = ss.getD k ByteArray.empty := ⟨_, rfl⟩
      rw [← hs'] at hc ho'
      clear hs' ho
      simp only [Nat.zero_add] at hc0 hf ho'
      have hlt' : (k : Int) < (n : Int) := by omega
      go_wp2
      go_roundw
      case rel => exact ⟨k + 1, by omega, by go_num, ho', hb.setCell (by exact Nat.le_refl _) _⟩
      case measure => simp [intOf]; omega
    · obtain rfl : k = n := by omega
      go_wp2
      go_ret
      rw [List.take_of_length_le (by rw [h.len]; omega)] at ho
      exact ⟨_, rfl, by simpa using ho, hb⟩

set_option maxHeartbeats 400000 in
theorem eqStringS_any (a a' : Option Addr) (b o n c b' o' c' : Nat) (ss : List ByteArray) (w : World) (h : StrsAt w a b o n ss) (h' : StrsAt w a' b' o' n ss) :
    Calls Tryz.prog 39 #[.slice a n c, .slice a' n c'] w fun e w' => e = .returned (.bool true) ∧ Below w.heap.size w w' := by
  have hmax := h.max
  unfold maxLen at hmax
  go_enter Tryz.func39, Tryz.ntmps39
  go_wp2
  go_loopw [5] (fun i wr => ∃ k : Nat, k ≤ n ∧ i = .int .i64 k ∧ Below w.heap.size w wr) (fun i _ => n - (intOf i).toNat)
  case atStart => exact ⟨0, Nat.zero_le _, rfl, Below.refl _ _⟩
  case round =>
    obtain ⟨k, hk, rfl, hb⟩ := hrel
    by_cases hlt : k < n
    · obtain rfl := h.ad (by omega)
      obtain rfl := h'.ad (by omega)
      have hbl := h.lt (by omega)
      have hbl' := h'.lt (by omega)
      have hc : wr.cell? ⟨b, o + k, none⟩ = some (.string (ss.getD k ByteArray.empty)) := (hb.cell (by exact hbl)).trans (h.cell k hlt)
      have hc' : wr.cell? ⟨b', o' + k, none⟩ = some (.string (ss.getD k ByteArray.empty)) := (hb.cell (by exact hbl')).trans (h'.cell k hlt)
      obtain ⟨s, hs'⟩ : ∃ s, s = ss.getD k ByteArray.empty := ⟨_, rfl⟩
      rw [← hs'] at hc hc'
      clear hs'
      have hlt' : (k : Int) < (n : Int) := by omega
      go_wp2
      go_quiet (fail)
      go_wp2
      go_roundw
      case rel => exact ⟨k + 1, by omega, by go_num, below_drewN hb _⟩
      case measure => simp [intOf]; omega
    · go_wp2
      go_ret
      exact ⟨rfl, hb⟩


end Go.Proofs.YtaeomkpofcbmiaaGreat
