import Derived.Test.YthopfmhagddhgaaGreatRows
import Derived.Test.YthopfmhagddhgaaGreatQMem
import Derived.WalkSpells
import Derived.WalkLawsBesides
import Derived.Outline
import Derived.Deep.RegionHeld3
import Derived.Deep.QuietTactic
import Derived.BigQuiet
namespace Go.Proofs.YthopfmhagddhgaaGreat
open Go.RowKit

theorem Tryz.info5 : (Tryz.prog.info? 5).map (fun i => (i.zero, i.size, i.bytes)) = some (some (.int .u8 0), 1, 1) := by kernel_rfl

/-! ### plain -/
def stp (v : Int) (b : UInt8) : Int := IntKind.u64.wrap (bits BinOp.xor IntKind.u64 v (IntKind.u64.wrap (b.toNat : Int)) * 1099511628211)
def fnv (v : Int) (l : List UInt8) : Int := l.foldl stp v
theorem fnv_nil (v : Int) : fnv v [] = v := rfl
theorem fnv_snoc (v : Int) (l : List UInt8) (b : UInt8) : fnv v (l ++ [b]) = stp (fnv v l) b := by simp [fnv, List.foldl_append]
theorem fnv_append (v : Int) (l r : List UInt8) : fnv v (l ++ r) = fnv (fnv v l) r := by simp [fnv, List.foldl_append]
def Word (x : Int) : Prop := 0 ≤ x ∧ x < 18446744073709551616
theorem stp_word (v : Int) (b : UInt8) : Word (stp v b) := by unfold stp Word; rw [IntKind.wrap_u64]; omega
theorem fnv_word (v : Int) (l : List UInt8) (h : Word v) : Word (fnv v l) := by
  induction l generalizing v with
  | nil => exact h
  | cons b r ih => exact ih _ (stp_word v b)
/-- k bytes, the highest first. -/
def beN : Nat → Int → List Int
  | 0, _ => []
  | k + 1, v => beN k (v / 256) ++ [v % 256]
theorem beN_length (k : Nat) (v : Int) : (beN k v).length = k := by
  induction k generalizing v with
  | zero => rfl
  | succ k ih => simp [beN, ih]
/-- The text of a sum. -/
def sumS (v : Int) : ByteArray := strOfNums (beN 8 v)
theorem sumS_size (v : Int) : (sumS v).size = 8 := by simp [sumS, strOfNums_size, beN_length]
def start : Int := 14695981039346656037
theorem start_word : Word start := by unfold Word start; omega
/-- What the inputs add to the text. -/
def addL (ss : List ByteArray) : List UInt8 := (ss.map fun s => (0 : UInt8) :: s.data.toList).flatten
theorem addL_snoc (ss : List ByteArray) (s : ByteArray) : addL (ss ++ [s]) = addL ss ++ [0] ++ s.data.toList := by simp [addL]
/-- The value. -/
def valS (name : ByteArray) (ss : List ByteArray) : ByteArray := sumS (fnv start (name.data.toList ++ addL ss))
theorem valS_size (name : ByteArray) (ss : List ByteArray) : (valS name ss).size = 8 := sumS_size _
def tot (ss : List ByteArray) : Nat := (ss.map (·.size)).sum
theorem tot_snoc (ss : List ByteArray) (s : ByteArray) : tot (ss ++ [s]) = tot ss + s.size := by simp [tot]
theorem tot_take_le (ss : List ByteArray) (k : Nat) : tot (ss.take k) ≤ tot ss := by
  have : tot ss = tot (ss.take k) + tot (ss.drop k) := by
    conv => lhs; rw [← List.take_append_drop k ss]
    unfold tot
    rw [List.map_append, List.sum_append]
  omega
theorem addL_length (ss : List ByteArray) : (addL ss).length = ss.length + tot ss := by
  induction ss with
  | nil => rfl
  | cons s r ih =>
    simp only [addL, tot, List.map_cons, List.flatten_cons, List.length_append, List.length_cons, List.sum_cons] at ih ⊢
    rw [ih]
    have : s.data.toList.length = s.size := by rw [Array.length_toList]; rfl
    omega
theorem takeS_snoc {ss : List ByteArray} {j : Nat} (hj : j < ss.length) : ss.take (j + 1) = ss.take j ++ [ss.getD j ByteArray.empty] := by
  rw [List.take_add_one, List.getElem?_eq_getElem hj]; simp [List.getD, List.getElem?_eq_getElem hj]
theorem take_snoc (s : ByteArray) (k : Nat) (h : k < s.size) : s.data.toList.take (k + 1) = s.data.toList.take k ++ [s[k]] := by
  rw [List.take_succ_eq_append_getElem (by simpa using h)]; rfl
theorem ret_int {k : IntKind} {a b : Int} (h : a = b) : Ending.returned (.int k a) = .returned (.int k b) := by rw [h]
theorem ret_str {a b : ByteArray} (h : a = b) : Ending.returned (.string a) = .returned (.string b) := by rw [h]

/-- A list of texts in memory. -/
structure StrsAt (w : World) (a : Option Addr) (b o n : Nat) (ss : List ByteArray) : Prop where
  ad : 0 < n → a = some ⟨b, o, none⟩
  len : ss.length = n
  max : n ≤ maxLen
  lt : 0 < n → b < w.heap.size
  cell : ∀ j, j < n → w.cell? ⟨b, o + j, none⟩ = some (.string (ss.getD j ByteArray.empty))
  sz : ∀ s ∈ ss, s.size ≤ maxLen
theorem StrsAt.below {w w' : World} {a : Option Addr} {b o n : Nat} {ss : List ByteArray} {C : Nat} (h : StrsAt w a b o n ss) (hb : Below C w w') (hC : 0 < n → b < C) : StrsAt w' a b o n ss :=
  ⟨h.ad, h.len, h.max, fun hn => Nat.lt_of_lt_of_le (h.lt hn) hb.size, fun j hj => (hb.cell (by exact hC (by omega))).trans (h.cell j hj), h.sz⟩
theorem StrsAt.below' {w w' : World} {a : Option Addr} {b o n : Nat} {ss : List ByteArray} (h : StrsAt w a b o n ss) (hb : Below w.heap.size w w') : StrsAt w' a b o n ss := h.below hb h.lt
theorem StrsAt.drew {w : World} {a : Option Addr} {b o n : Nat} {ss : List ByteArray} (h : StrsAt w a b o n ss) : StrsAt w.drew a b o n ss := h.below' (Below.refl _ _).drew
theorem StrsAt.szD {w : World} {a : Option Addr} {b o n : Nat} {ss : List ByteArray} (h : StrsAt w a b o n ss) {j : Nat} (hj : j < n) : (ss.getD j ByteArray.empty).size ≤ maxLen := by
  have hj' : j < ss.length := by rw [h.len]; exact hj
  refine h.sz _ ?_
  rw [show ss.getD j ByteArray.empty = ss[j] by simp [List.getD, List.getElem?_eq_getElem hj']]
  exact List.getElem_mem hj'

/-! ### impl -/
set_option maxHeartbeats 400000 in
theorem add_any (v : Int) (s : ByteArray) (w : World) (hs : s.size ≤ maxLen) :
    Calls Tryz.prog 143 #[.int .u64 v, .string s] w fun e w' => e = .returned (.int .u64 (fnv v s.data.toList)) ∧ w' = w := by
  unfold maxLen at hs
  go_enter Tryz.func143, Tryz.ntmps143
  go_wp2
  go_loop [0, 5] (fun n i => ∃ k : Nat, k ≤ s.size ∧ i = .int .i64 k ∧ n = .int .u64 (fnv v (s.data.toList.take k))) (fun _ i => s.size - (intOf i).toNat)
  case atStart => exact ⟨0, Nat.zero_le _, rfl, rfl⟩
  case round =>
    obtain ⟨k, hk, rfl, rfl⟩ := hrel
    by_cases hlt : k < s.size
    · have HS : Hid (fnv v (s.data.toList.take (k + 1)) = stp (fnv v (s.data.toList.take k)) s[k]) := by rw [take_snoc s k hlt]; exact fnv_snoc _ _ _
      go_wp2
      go_round
      case rel => exact ⟨k + 1, by omega, by go_num, by rw [HS.out]; rfl⟩
      case measure => simp [intOf]; omega
    · go_wp2
      go_ret
      exact ⟨ret_int (by rw [List.take_of_length_le (by simp; omega)]), rfl⟩

theorem OwnC.nums {B : Nat} {w : World} {g o cap n : Nat} {ns : List Int} (h : OwnC B w 1 g o cap n (ns.map (Value.int .u8))) : ns.length = n ∧ ∀ i, i < n → w.cell? ⟨g, o + i, none⟩ = some (.int .u8 (ns.getD i 0)) := by
  have hl : ns.length = n := by have := h.len; simpa using this
  refine ⟨hl, fun i hi => ?_⟩
  rw [h.holds i (by omega), List.getElem?_map, List.getElem?_eq_getElem (by omega)]
  simp [List.getD, List.getElem?_eq_getElem (show i < ns.length by omega)]

theorem made_one (z : Value) (hz : z.cells = #[z]) (n : Nat) : (madeCells z.cells (n * 1)).toList = List.replicate n z := by
  rw [hz, Nat.mul_one]
  apply List.ext_getElem
  · simp [madeCells]
  · intro i h1 h2
    simp [madeCells, Nat.mod_one]
theorem rep_set (k : Nat) (z u : Value) (ys : List Value) : (List.replicate (k + 1) z ++ ys).set k u = List.replicate k z ++ u :: ys := by
  rw [List.replicate_succ', List.append_assoc, List.set_append_right _ _ (by simp)]
  simp

set_option maxHeartbeats 400000 in
theorem sumText_any (v : Int) (w : World) (hv : Word v) :
    Calls Tryz.prog 144 #[.int .u64 v] w fun e w' => e = .returned (.string (sumS v)) ∧ Below w.heap.size w w' := by
  obtain ⟨hv0, hv1⟩ := hv
  obtain ⟨i0, hi, hz0, hz1, hz2⟩ := info_parts Tryz.info5
  go_enter Tryz.func144, Tryz.ntmps144
  go_wp2_with (refine wpList_make_c _ rfl _ _ 180 rfl w.heap.size 5 i0 (.int .u8 0) 1 1 Tryz.underlying180 hi hz0 hz1 hz2 .i64 .i64 8 8 8 rfl rfl rfl rfl (by decide) (by unfold maxLen; omega) (Nat.le_refl _) ?_; intro w1 hown hgr)
  go_loopw [0, 4] (fun n i wr => ∃ k : Nat, k ≤ 8 ∧ i = .int .i64 ((k : Int) - 1) ∧ (∃ u : Int, 0 ≤ u ∧ u < 18446744073709551616 ∧ n = .int .u64 u ∧ ∃ ys, beN 8 v = beN k u ++ ys ∧ OwnC w.heap.size wr 1 w.heap.size 0 8 8 (List.replicate k (.int .u8 0) ++ ys.map (Value.int .u8))) ∧ Below w.heap.size w wr) (fun _ i _ => (intOf i + 1).toNat)
  case atStart => exact ⟨8, Nat.le_refl _, rfl, ⟨v, hv0, hv1, rfl, [], by simp, by rw [made_one _ rfl] at hown; simpa using hown⟩, (Below.refl _ _).grown hgr (Nat.le_refl _) (by simp)⟩
  case round =>
    obtain ⟨k, hk, rfl, ⟨u, hu0, hu1, rfl, ys, hys, ho⟩, hb⟩ := hrel
    have HY : Hid (beN 8 v = beN k u ++ ys) := hys
    clear hys
    by_cases hlt : 0 < k
    · obtain ⟨k, rfl⟩ : ∃ k', k = k' + 1 := ⟨k - 1, by omega⟩
      obtain ⟨u0, _, hc⟩ := ho.cellSome (j := k) (by omega)
      have hf := ho.notFrozen (j := k) (by omega)
      have ho' := ho.setCell (j := k) (by omega) (.int .u8 (u % 256))
      rw [rep_set] at ho'
      simp only [Nat.zero_add] at hc hf ho'
      go_wp2
      go_roundw
      case rel =>
        refine ⟨k, by omega, rfl, ⟨u / 256, by omega, by omega, rfl, u % 256 :: ys, ?_, ho'⟩, hb.setCell (by exact Nat.le_refl _) _⟩
        rw [HY.out, beN, List.append_assoc]; rfl
      case measure => simp [intOf]
    · obtain rfl : k = 0 := by omega
      obtain ⟨hl, hcs⟩ := ho.nums
      have hconv := run_convert_bytes_arg (P := Tryz.prog) wr 180 5 Tryz.underlying180 Tryz.underlying5 w.heap.size 0 8 8 ys hl hcs 9 Tryz.underlying9
      clear hcs ho
      go_wp2
      go_ret
      exact ⟨ret_str (by rw [sumS, HY.out]; rfl), hb⟩

set_option maxHeartbeats 400000 in
theorem implValue_any (name : ByteArray) (a : Option Addr) (b o n c : Nat) (ss : List ByteArray) (w : World) (hn : name.size ≤ maxLen) (h : StrsAt w a b o n ss) :
    Calls Tryz.prog 131 #[.string name, .slice a n c] w fun e w' => e = .returned (.string (valS name ss)) ∧ Below w.heap.size w w' := by
  have hmax := h.max
  unfold maxLen at hmax
  go_enter Tryz.func131, Tryz.ntmps131
  go_wp2_with (go_at_call 143; refine (add_any _ _ _ hn).mono ?_; rintro e w' ⟨rfl, rfl⟩)
  go_loop [5, 12] (fun v i => ∃ k : Nat, k ≤ n ∧ i = .int .i64 k ∧ v = .int .u64 (fnv start (name.data.toList ++ addL (ss.take k)))) (fun _ i => n - (intOf i).toNat)
  case atStart => exact ⟨0, Nat.zero_le _, rfl, by simp [addL]; rfl⟩
  case round =>
    obtain ⟨k, hk, rfl, rfl⟩ := hrel
    by_cases hlt : k < n
    · obtain rfl := h.ad (by omega)
      have hc := h.cell k hlt
      have hsz := h.szD hlt
      obtain ⟨s, hs⟩ : ∃ s, s = ss.getD k ByteArray.empty := ⟨_, rfl⟩
      rw [← hs] at hc hsz
      have hS : fnv start (name.data.toList ++ addL (ss.take (k + 1))) = fnv (fnv (fnv start (name.data.toList ++ addL (ss.take k))) [0]) s.data.toList := by
        rw [takeS_snoc (by rw [h.len]; exact hlt), addL_snoc, ← hs, ← fnv_append, ← fnv_append]; simp
      have HS : Hid _ := hS
      clear hs hS
      go_wp2_with fail
      refine (add_any _ _ _ (by decide)).mono ?_
      rintro e w' ⟨rfl, rfl⟩
      go_wp2_with fail
      refine (add_any _ _ _ hsz).mono ?_
      rintro e w' ⟨rfl, rfl⟩
      go_wp2
      go_round
      case rel => exact ⟨k + 1, by omega, by go_num, by rw [HS.out]⟩
      case measure => simp [intOf]; omega
    · go_wp2_with fail
      refine (sumText_any _ _ (fnv_word _ _ start_word)).mono ?_
      rintro e w' ⟨rfl, hb⟩
      go_wp2
      go_ret
      exact ⟨ret_str (by unfold valS; rw [List.take_of_length_le (by rw [h.len]; omega)]), hb⟩
end Go.Proofs.YthopfmhagddhgaaGreat

namespace Go.Proofs.YthopfmhagddhgaaGreat
open Go.RowKit

def bN (l : List UInt8) : List Int := l.map fun b => (b.toNat : Int)
theorem byteCells_bN (s : ByteArray) : byteCells s = (bN s.data.toList).map (Value.int .u8) := by simp [byteCells, bN]
theorem strOf_bN (l : List UInt8) : strOfNums (bN l) = ⟨l.toArray⟩ := by
  unfold strOfNums bN
  congr 1
  rw [List.map_map]
  have : ((fun n : Int => UInt8.ofNat n.toNat) ∘ fun b : UInt8 => (b.toNat : Int)) = id := by funext b; simp
  rw [this, List.map_id]
theorem oneCell_nums (ns : List Int) : ∀ u ∈ ns.map (Value.int .u8), u.oneCell' = true := by
  intro u hu
  obtain ⟨_, _, rfl⟩ := List.mem_map.1 hu
  rfl

set_option maxRecDepth 100000 in
set_option maxHeartbeats 400000 in
theorem l1Sum_any (s : ByteArray) (w : World) (hs : s.size ≤ maxLen) :
    Calls Tryz.prog 124 #[.string s] w fun e w' => e = .returned (.string (sumS (fnv start s.data.toList))) ∧ Below w.heap.size w w' := by
  obtain ⟨i0, hi, hz0, hz1, hz2⟩ := info_parts Tryz.info5
  unfold maxLen at hs
  go_enter Tryz.func124, Tryz.ntmps124
  go_wp2
  go_loop [3, 4] (fun n i => ∃ k : Nat, k ≤ s.size ∧ i = .int .i64 k ∧ n = .int .u64 (fnv start (s.data.toList.take k))) (fun _ i => s.size - (intOf i).toNat)
  case atStart => exact ⟨0, Nat.zero_le _, rfl, rfl⟩
  case round =>
    obtain ⟨k, hk, rfl, rfl⟩ := hrel
    by_cases hlt : k < s.size
    · have HS : Hid (fnv start (s.data.toList.take (k + 1)) = stp (fnv start (s.data.toList.take k)) s[k]) := by rw [take_snoc s k hlt]; exact fnv_snoc _ _ _
      go_wp2
      go_round
      case rel => exact ⟨k + 1, by omega, by go_num, by rw [HS.out]; rfl⟩
      case measure => simp [intOf]; omega
    · rw [List.take_of_length_le (by simp; omega)]
      obtain ⟨v, hv⟩ : ∃ v, v = fnv start s.data.toList := ⟨_, rfl⟩
      have hw := fnv_word start s.data.toList start_word
      rw [← hv] at hw ⊢
      have HV : Hid (v = fnv start s.data.toList) := hv
      clear hv
      obtain ⟨hv0, hv1⟩ := hw
      go_wp2
      go_loopw [3, 5, 6] (fun n ov i wr => ∃ k : Nat, k ≤ 8 ∧ i = .int .i64 k ∧ (∃ u : Int, 0 ≤ u ∧ u < 18446744073709551616 ∧ n = .int .u64 u ∧ ∃ ys, beN 8 v = beN (8 - k) u ++ ys ∧ Own w.heap.size wr 1 ov k (ys.map (Value.int .u8))) ∧ Below w.heap.size w wr) (fun _ _ i _ => (8 - intOf i).toNat)
      case atStart => exact ⟨0, by omega, rfl, ⟨v, hv0, hv1, rfl, [], by simp, .inr ⟨w.heap.size, 0, 0, rfl, OwnC.made w w.heap.size 5 1 0 0 #[] 0 (Nat.le_refl _) (Nat.le_refl _) (Nat.zero_le _) rfl (Nat.le_refl _) _ rfl _ (.inl rfl)⟩⟩, (Below.refl _ _).alloc (Nat.le_refl _) _⟩
      case round =>
        obtain ⟨k, hk, rfl, ⟨u, hu0, hu1, rfl, ys, hys, ho⟩, hb⟩ := hrel
        have HY : Hid (beN 8 v = beN (8 - k) u ++ ys) := hys
        clear hys
        have hsz := hb.size
        by_cases hlt8 : k < 8
        · have hown1 : Own w.heap.size (wr.alloc (.cells #[.int .u8 (u % 256)] 5)) 1 (.slice (some ⟨wr.heap.size, 0, none⟩) 1 1) 1 [.int .u8 (u % 256)] :=
            .inr ⟨_, 0, 1, rfl, OwnC.made wr w.heap.size 5 1 1 1 _ 1 hsz (Nat.le_refl _) (by unfold maxLen; omega) rfl (Nat.le_refl _) _ rfl _ (.inl rfl)⟩
          have hsrc : Src Tryz.prog 1 180 _ k _ (wr.alloc (.cells #[.int .u8 (u % 256)] 5)) := (ho.alloc (.cells #[.int .u8 (u % 256)] 5)).src Tryz.underlying180 (oneCell_nums ys)
          go_wp2_with (at_builtin; refine wpList_append_c _ rfl _ _ 180 180 rfl w.heap.size 5 i0 (.int .u8 0) 1 1 Tryz.underlying180 hi hz0 hz1 hz2 rfl (.slice (some ⟨wr.heap.size, 0, none⟩) 1 1) 1 [.int .u8 (u % 256)] rfl hown1 _ k (ys.map (Value.int .u8)) rfl hsrc (by unfold maxLen; omega) (by omega) (by simp; omega) ?_; intro v' w1 hown' hgrow hblk)
          have hb1 : Below w.heap.size w w1 := (hb.alloc hsz _).grown hgrow (by simp; omega) (by simp [Value.ownBlock]; exact hsz)
          clear hown1 hsrc ho hgrow hblk
          go_wp2
          go_roundw
          case rel =>
            refine ⟨k + 1, by omega, by go_num, ⟨u / 256, by omega, by omega, rfl, u % 256 :: ys, ?_, by simpa [Nat.add_comm] using hown'⟩, hb1⟩
            rw [HY.out, show 8 - k = (8 - (k + 1)) + 1 by omega, beN, List.append_assoc]; rfl
          case measure => simp [intOf]; omega
        · obtain rfl : k = 8 := by omega
          rcases ho with ⟨_, h8, _⟩ | ⟨g, o, cap, rfl, hc⟩
          · omega
          obtain ⟨hl, hcs⟩ := hc.nums
          have hconv := run_convert_bytes_arg (P := Tryz.prog) wr 180 5 Tryz.underlying180 Tryz.underlying5 g o 8 cap ys hl hcs 9 Tryz.underlying9
          clear hcs hc
          go_wp2
          go_ret
          exact ⟨ret_str (by rw [← HV.out, sumS, HY.out]; rfl), hb⟩

set_option maxHeartbeats 1000000 in
theorem specValue_any (name : ByteArray) (a : Option Addr) (b o n c : Nat) (ss : List ByteArray) (w : World) (hn : name.size ≤ 1048576) (h : StrsAt w a b o n ss) (hs : n + tot ss ≤ 1048576) :
    Calls Tryz.prog 95 #[.string name, .slice a n c] w fun e w' => e = .returned (.string (valS name ss)) ∧ Below w.heap.size w w' := by
  obtain ⟨i0, hi, hz0, hz1, hz2⟩ := info_parts Tryz.info5
  have hmax : n ≤ 1048576 := by omega
  go_enter Tryz.func95, Tryz.ntmps95
  go_wp2_with (refine wpList_bytes_c _ rfl _ 9 180 rfl w.heap.size 5 Tryz.underlying9 Tryz.underlying180 Tryz.underlying5 name rfl (by unfold maxLen; omega) (Nat.le_refl _) ?_; intro v0 w0 hown0 hgr0 hb0)
  go_loopw [5, 6] (fun ov i wr => ∃ k : Nat, k ≤ n ∧ i = .int .i64 k ∧ (∃ m, m = name.size + k + tot (ss.take k) ∧ Own w.heap.size wr 1 ov m ((bN (name.data.toList ++ addL (ss.take k))).map (Value.int .u8))) ∧ Below w.heap.size w wr) (fun _ i _ => n - (intOf i).toNat)
  case atStart =>
    refine ⟨0, Nat.zero_le _, rfl, ⟨name.size, by simp [tot], ?_⟩, (Below.refl _ _).grown hgr0 (Nat.le_refl _) (by simp)⟩
    rw [byteCells_bN] at hown0
    simpa [addL] using hown0
  case round =>
    obtain ⟨k, hk, rfl, ⟨m, hm, ho⟩, hb⟩ := hrel
    have HM : Hid (m = name.size + k + tot (ss.take k)) := hm
    have hsz := hb.size
    by_cases hlt : k < n
    · obtain rfl := h.ad (by omega)
      have hbl := h.lt (by omega)
      have hc : wr.cell? ⟨b, o + k, none⟩ = some (.string (ss.getD k ByteArray.empty)) := (hb.cell (by exact hbl)).trans (h.cell k hlt)
      have hlt' : (k : Int) < (n : Int) := by omega
      have ht2 : tot (ss.take (k + 1)) ≤ tot ss := tot_take_le _ _
      rw [takeS_snoc (by rw [h.len]; exact hlt), tot_snoc] at ht2
      obtain ⟨s, hs'⟩ : ∃ s, s = ss.getD k ByteArray.empty := ⟨_, rfl⟩
      rw [← hs'] at hc ht2
      have hS : (bN (name.data.toList ++ addL (ss.take (k + 1)))).map (Value.int .u8) = (bN (name.data.toList ++ addL (ss.take k))).map (Value.int .u8) ++ [.int .u8 0] ++ byteCells s := by
        rw [takeS_snoc (by rw [h.len]; exact hlt), addL_snoc, ← hs', byteCells_bN]
        simp [bN]
      have HS : Hid _ := hS
      have hS2 : tot (ss.take (k + 1)) = tot (ss.take k) + s.size := by rw [takeS_snoc (by rw [h.len]; exact hlt), tot_snoc, ← hs']
      have HS2 : Hid _ := hS2
      have hm1 : m + 1 ≤ 2097152 := by omega
      have hm2 : m + 1 + s.size ≤ 2097152 := by omega
      clear hS hs' hm ht2 hS2
      have hA := (ho.alloc (.cells #[.int .u8 0] 5)).drewW
      have hown1 : Own w.heap.size (wr.alloc (.cells #[.int .u8 0] 5)) 1 (.slice (some ⟨wr.heap.size, 0, none⟩) 1 1) 1 [.int .u8 0] :=
        .inr ⟨_, 0, 1, rfl, OwnC.made wr w.heap.size 5 1 1 1 _ 1 hsz (Nat.le_refl _) (by unfold maxLen; omega) rfl (Nat.le_refl _) _ rfl _ (.inl rfl)⟩
      have hsrc : Src Tryz.prog 1 180 _ 1 _ (wr.alloc (.cells #[.int .u8 0] 5)).drew := hown1.drewW.src Tryz.underlying180 (by simp; rfl)
      have hcA : (wr.alloc (.cells #[.int .u8 0] 5)).cell? ⟨b, o + k, none⟩ = some (.string s) := (World.cell?_of_block (w := wr) (Below.heap_alloc _ _ _ (by show b < wr.heap.size; omega))).trans hc
      have hrow := ho.row_lo
      have hne : u5.ownBlock = some b → False := fun e => absurd (hrow b e) (by omega)
      have hbA : Below w.heap.size w (wr.alloc (.cells #[.int .u8 0] 5)).drew := (hb.alloc hsz _).drew
      clear hown1 ho
      go_wp2
      go_region_held3 (fun w' => w'.cell? ⟨b, o + k, none⟩ = some (.string s)) (first | (simp [go_sem, *]; done) | assumption)
        (first
          | (refine step_append_c rfl (.tmp 15) (.tmp 16) 180 180 rfl w.heap.size 5 i0 (.int .u8 0) 1 1 Tryz.underlying180 hi hz0 hz1 hz2 rfl _ m _ rfl hA _ 1 _ rfl hsrc (by unfold maxLen; omega) (by omega) (by simp; omega) ?_; intro v1 w1 hown2 hgrow2 hblk2; have hc1 := hgrow2.cell hcA (fun e => hne e.symm); have hb1 := hbA.grown hgrow2 (by simp; omega) hrow)
          | (refine step_append_c rfl (.tmp 17) (.tmp 21) 180 9 rfl w.heap.size 5 i0 (.int .u8 0) 1 1 Tryz.underlying180 hi hz0 hz1 hz2 rfl _ (m + 1) _ rfl hown2 _ s.size _ rfl (Src.ofString _ Tryz.underlying9 s) (by unfold maxLen; omega) (by omega) (by have := hb1.size; omega) ?_; intro v2 w2 hown3 hgrow3 hblk3; have hc2 := hgrow3.cell hc1 (fun e => absurd (hown2.row_lo b e.symm) (by omega)); have hb2 := hb1.grown hgrow3 (by have := hb1.size; omega) hown2.row_lo))
      clear hown2 hgrow2 hgrow3 hA hsrc hblk2 hblk3 hrow hne
      go_wp2
      go_roundw
      case rel =>
        refine ⟨k + 1, by omega, by go_num, ⟨m + 1 + s.size, ?_, ?_⟩, hb2⟩
        · rw [HM.out, HS2.out]; omega
        · rw [HS.out]; exact hown3
      case measure => simp [intOf]; omega
    · obtain rfl : k = n := by omega
      rw [List.take_of_length_le (by rw [h.len]; omega)] at ho hm
      have hbs : (⟨(name.data.toList ++ addL ss).toArray⟩ : ByteArray).size ≤ maxLen := by
        have : (name.data.toList ++ addL ss).length ≤ 2097152 := by
          rw [List.length_append, addL_length, h.len]
          have : name.data.toList.length = name.size := by rw [Array.length_toList]; rfl
          omega
        show (name.data.toList ++ addL ss).toArray.size ≤ maxLen
        unfold maxLen; simp only [List.size_toArray]; omega
      have hconv : ∃ a' c', u5 = .slice a' m c' ∧ (convert 180 9 (.slice a' m c')).run Tryz.prog wr = .ok (.string ⟨(name.data.toList ++ addL ss).toArray⟩) wr := by
        rcases ho with ⟨rfl, hm0, hx⟩ | ⟨g, o', cap, rfl, hc⟩
        · subst hm0
          refine ⟨none, 0, rfl, ?_⟩
          have : name.data.toList ++ addL ss = [] := by
            have := congrArg List.length hx
            simp only [bN, List.length_map, List.length_nil] at this
            exact List.eq_nil_of_length_eq_zero this
          rw [this]
          exact run_convert_bytes_nil (P := Tryz.prog) wr 180 5 Tryz.underlying180 Tryz.underlying5 0 0 9 Tryz.underlying9
        · obtain ⟨hl, hcs⟩ := hc.nums
          refine ⟨_, _, rfl, ?_⟩
          rw [run_convert_bytes_arg (P := Tryz.prog) wr 180 5 Tryz.underlying180 Tryz.underlying5 g o' m cap _ hl hcs 9 Tryz.underlying9, strOf_bN]
      obtain ⟨a', c', hov, hcv⟩ := hconv
      rw [hov]
      obtain ⟨bs, hbs'⟩ : ∃ bs : ByteArray, bs = ⟨(name.data.toList ++ addL ss).toArray⟩ := ⟨_, rfl⟩
      rw [← hbs'] at hcv hbs
      have hB' : bs.data.toList = name.data.toList ++ addL ss := by rw [hbs']
      have HB : Hid _ := hB'
      clear hB'
      clear hbs' hov ho hm
      go_wp2_with fail
      refine (l1Sum_any _ _ hbs).mono ?_
      rintro e w' ⟨rfl, hb'⟩
      go_wp2
      go_ret
      exact ⟨ret_str (by rw [HB.out]; rfl), hb.trans (hb'.mono hsz)⟩
end Go.Proofs.YthopfmhagddhgaaGreat

namespace Go.Proofs.YthopfmhagddhgaaGreat
open Go.RowKit

theorem Tryz.info9 : (Tryz.prog.info? 9).map (fun i => (i.zero, i.size, i.bytes)) = some (some (.string ⟨#[]⟩), 1, 16) := by kernel_rfl

set_option maxHeartbeats 400000 in
theorem szStringS_any (a : Option Addr) (b o n c : Nat) (ss : List ByteArray) (left : Int) (w : World) (hl0 : 0 ≤ left) (hl1 : left ≤ 1048576) (h : StrsAt w a b o n ss) :
    Calls Tryz.prog 47 #[.slice a n c, .int .i64 left] w fun e w' => (∃ r, e = .returned (.int .i64 r) ∧ (r = -1 ∨ r = left - (n + tot ss) ∧ 0 ≤ r)) ∧ w' = w := by
  have hmax := h.max
  unfold maxLen at hmax
  by_cases h1 : left - n < 0
  · go_enter Tryz.func47, Tryz.ntmps47
    go_wp2
    go_ret
    exact ⟨⟨_, rfl, .inl rfl⟩, rfl⟩
  · go_enter Tryz.func47, Tryz.ntmps47
    go_wp2
    go_loop [1, 5] (fun l i => ∃ k : Nat, k ≤ n ∧ i = .int .i64 k ∧ ∃ r : Int, l = .int .i64 r ∧ 0 ≤ r ∧ r = left - n - tot (ss.take k)) (fun _ i => n - (intOf i).toNat)
    case atStart => exact ⟨0, Nat.zero_le _, rfl, _, rfl, by omega, by simp [tot]⟩
    case round =>
      obtain ⟨k, hk, rfl, r, rfl, hr0, hr⟩ := hrel
      have HR : Hid (r = left - n - tot (ss.take k)) := hr
      have hr1 : r ≤ 1048576 := by omega
      clear hr
      by_cases hlt : k < n
      · obtain rfl := h.ad (by omega)
        have hc := h.cell k hlt
        have hsz := h.szD hlt
        have hS : tot (ss.take (k + 1)) = tot (ss.take k) + (ss.getD k ByteArray.empty).size := by rw [takeS_snoc (by rw [h.len]; exact hlt), tot_snoc]
        obtain ⟨s, hs'⟩ : ∃ s, s = ss.getD k ByteArray.empty := ⟨_, rfl⟩
        rw [← hs'] at hc hsz hS
        have HS : Hid _ := hS
        clear hS hs'
        unfold maxLen at hsz
        by_cases h2 : r - s.size < 0
        · go_wp2
          go_ret
          exact ⟨⟨_, rfl, .inl rfl⟩, rfl⟩
        · go_wp2
          go_round
          case rel => exact ⟨k + 1, by omega, by go_num, _, rfl, by omega, by rw [HS.out, HR.out]; omega⟩
          case measure => simp [intOf]; omega
      · obtain rfl : k = n := by omega
        go_wp2
        go_ret
        refine ⟨⟨r, rfl, .inr ⟨?_, hr0⟩⟩, rfl⟩
        rw [HR.out, List.take_of_length_le (by rw [h.len]; omega)]; omega

/-- A row of texts of the call's own, as a list in memory. -/
theorem StrsAt.ofOwn {B : Nat} {w : World} {g o cap n : Nat} {ss : List ByteArray} (h : OwnC B w 1 g o cap n (ss.map Value.string)) (hz : ∀ s ∈ ss, s.size ≤ maxLen) : StrsAt w (some ⟨g, o, none⟩) g o n ss := by
  have hl : ss.length = n := by have := h.len; simpa using this
  refine ⟨fun _ => rfl, hl, Nat.le_trans h.le h.max, fun _ => h.hi, fun j hj => ?_, hz⟩
  rw [h.holds j (by omega), List.getElem?_map, List.getElem?_eq_getElem (by omega)]
  simp [List.getD, List.getElem?_eq_getElem (show j < ss.length by omega)]

theorem set_step (ss : List ByteArray) (k n : Nat) (z : Value) (hk : k < n) (hn : ss.length = n) :
    ((ss.take k).map Value.string ++ List.replicate (n - k) z).set k (.string (ss.getD k ByteArray.empty)) = (ss.take (k + 1)).map Value.string ++ List.replicate (n - (k + 1)) z := by
  rw [takeS_snoc (by omega), List.set_append_right _ _ (by simp; omega), show n - k = (n - (k + 1)) + 1 by omega, List.replicate_succ]
  have : k - (List.map Value.string (List.take k ss)).length = 0 := by simp; omega
  rw [this]
  simp

set_option maxHeartbeats 400000 in
theorem toStringS_any (a : Option Addr) (b o n c : Nat) (ss : List ByteArray) (w : World) (h : StrsAt w a b o n ss) (hn : n ≤ 1048576) :
    Calls Tryz.prog 54 #[.slice a n c] w fun e w' => ∃ g, e = .returned (.slice (some ⟨g, 0, none⟩) n n) ∧ OwnC w.heap.size w' 1 g 0 n n (ss.map Value.string) ∧ Below w.heap.size w w' := by
  obtain ⟨i0, hi, hz0, hz1, hz2⟩ := info_parts Tryz.info9
  go_enter Tryz.func54, Tryz.ntmps54
  go_wp2_with (refine wpList_make_c _ rfl _ _ 25 rfl w.heap.size 9 i0 (.string ⟨#[]⟩) 1 16 Tryz.underlying25 hi hz0 hz1 hz2 .i64 .i64 n n n rfl rfl rfl rfl (by omega) (by unfold maxLen; omega) (Nat.le_refl _) ?_; intro w1 hown hgr)
  rw [made_one _ rfl] at hown
  go_loopw [4] (fun i wr => ∃ k : Nat, k ≤ n ∧ i = .int .i64 k ∧ OwnC w.heap.size wr 1 w.heap.size 0 n n ((ss.take k).map Value.string ++ List.replicate (n - k) (.string ⟨#[]⟩)) ∧ Below w.heap.size w wr) (fun i _ => n - (intOf i).toNat)
  case atStart => exact ⟨0, Nat.zero_le _, rfl, by simpa using hown, (Below.refl _ _).grown hgr (Nat.le_refl _) (by simp)⟩
  case round =>
    obtain ⟨k, hk, rfl, ho, hb⟩ := hrel
    by_cases hlt : k < n
    · obtain rfl := h.ad (by omega)
      have hbl := h.lt (by omega)
      have hc : wr.cell? ⟨b, o + k, none⟩ = some (.string (ss.getD k ByteArray.empty)) := (hb.cell (by exact hbl)).trans (h.cell k hlt)
      obtain ⟨u0, _, hc0⟩ := ho.cellSome (j := k) (by omega)
      have hf := ho.notFrozen (j := k) (by omega)
      have ho' := ho.setCell (j := k) (by omega) (.string (ss.getD k ByteArray.empty))
      rw [set_step ss k n _ hlt h.len] at ho'
      obtain ⟨s, hs'⟩ : ∃ s, s = ss.getD k ByteArray.empty := ⟨_, rfl⟩
      rw [← hs'] at hc ho'
      clear hs' ho
      simp only [Nat.zero_add] at hc0 hf ho'
      have hlt' : (k : Int) < (n : Int) := by omega
      go_wp2
      go_roundw
      case rel => exact ⟨k + 1, by omega, by go_num, ho', hb.setCell (by exact Nat.le_refl _) _⟩
      case measure => simp [intOf]; omega
    · obtain rfl : k = n := by omega
      go_wp2
      go_ret
      rw [List.take_of_length_le (by rw [h.len]; omega)] at ho
      exact ⟨_, rfl, by simpa using ho, hb⟩

set_option maxHeartbeats 400000 in
theorem eqStringS_any (a a' : Option Addr) (b o n c b' o' c' : Nat) (ss : List ByteArray) (w : World) (h : StrsAt w a b o n ss) (h' : StrsAt w a' b' o' n ss) :
    Calls Tryz.prog 61 #[.slice a n c, .slice a' n c'] w fun e w' => e = .returned (.bool true) ∧ Below w.heap.size w w' := by
  have hmax := h.max
  unfold maxLen at hmax
  go_enter Tryz.func61, Tryz.ntmps61
  go_wp2
  go_loopw [5] (fun i wr => ∃ k : Nat, k ≤ n ∧ i = .int .i64 k ∧ Below w.heap.size w wr) (fun i _ => n - (intOf i).toNat)
  case atStart => exact ⟨0, Nat.zero_le _, rfl, Below.refl _ _⟩
  case round =>
    obtain ⟨k, hk, rfl, hb⟩ := hrel
    by_cases hlt : k < n
    · obtain rfl := h.ad (by omega)
      obtain rfl := h'.ad (by omega)
      have hbl := h.lt (by omega)
      have hbl' := h'.lt (by omega)
      have hc : wr.cell? ⟨b, o + k, none⟩ = some (.string (ss.getD k ByteArray.empty)) := (hb.cell (by exact hbl)).trans (h.cell k hlt)
      have hc' : wr.cell? ⟨b', o' + k, none⟩ = some (.string (ss.getD k ByteArray.empty)) := (hb.cell (by exact hbl')).trans (h'.cell k hlt)
      obtain ⟨s, hs'⟩ : ∃ s, s = ss.getD k ByteArray.empty := ⟨_, rfl⟩
      rw [← hs'] at hc hc'
      clear hs'
      have hlt' : (k : Int) < (n : Int) := by omega
      go_wp2
      go_quiet (fail)
      go_wp2
      go_roundw
      case rel => exact ⟨k + 1, by omega, by go_num, below_drewN hb _⟩
      case measure => simp [intOf]; omega
    · go_wp2
      go_ret
      exact ⟨rfl, hb⟩


end Go.Proofs.YthopfmhagddhgaaGreat
