
/-
  The specification's sums and values: contracts of spec.l1Sum, spec.Value.
-/
import Derived.Test.YtlgmkmegkojgbaaDoorVal
namespace Go.Proofs.YtlgmkmegkojgbaaDoor
open Go.RowKit

def bN (l : List UInt8) : List Int := l.map fun b => (b.toNat : Int)
theorem byteCells_bN (s : ByteArray) : byteCells s = (bN s.data.toList).map (Value.int .u8) := by simp [byteCells, bN]
theorem strOf_bN (l : List UInt8) : strOfNums (bN l) = ⟨l.toArray⟩ := by
  unfold strOfNums bN
  congr 1
  rw [List.map_map]
  have : ((fun n : Int => UInt8.ofNat n.toNat) ∘ fun b : UInt8 => (b.toNat : Int)) = id := by funext b; simp
  rw [this, List.map_id]
theorem oneCell_nums (ns : List Int) : ∀ u ∈ ns.map (Value.int .u8), u.oneCell' = true := by
  intro u hu
  obtain ⟨_, _, rfl⟩ := List.mem_map.1 hu
  rfl

set_option maxRecDepth 100000 in
set_option maxHeartbeats 400000 in
theorem l1Sum_any (s : ByteArray) (w : World) (hs : s.size ≤ maxLen) :
    Calls Tryd.prog 38 #[.string s] w fun e w' => e = .returned (.string (sumS (fnv start s.data.toList))) ∧ Below w.heap.size w w' := by
  obtain ⟨i0, hi, hz0, hz1, hz2⟩ := info_parts Tryd.info5
  unfold maxLen at hs
  go_enter Tryd.func38, Tryd.ntmps38
  go_wp2
  go_loop [3, 4] (fun n i => ∃ k : Nat, k ≤ s.size ∧ i = .int .i64 k ∧ n = .int .u64 (fnv start (s.data.toList.take k))) (fun _ i => s.size - (intOf i).toNat)
  case atStart => exact ⟨0, Nat.zero_le _, rfl, rfl⟩
  case round =>
    obtain ⟨k, hk, rfl, rfl⟩ := hrel
    by_cases hlt : k < s.size
    · have HS : Hid (fnv start (s.data.toList.take (k + 1)) = stp (fnv start (s.data.toList.take k)) s[k]) := by rw [take_snoc s k hlt]; exact fnv_snoc _ _ _
      go_wp2
      go_round
      case rel => exact ⟨k + 1, by omega, by go_num, by rw [HS.out]; rfl⟩
      case measure => simp [intOf]; omega
    · rw [List.take_of_length_le (by simp; omega)]
      obtain ⟨v, hv⟩ : ∃ v, v = fnv start s.data.toList := ⟨_, rfl⟩
      have hw := fnv_word start s.data.toList start_word
      rw [← hv] at hw ⊢
      have HV : Hid (v = fnv start s.data.toList) := hv
      clear hv
      obtain ⟨hv0, hv1⟩ := hw
      go_wp2
      go_loopw [3, 5, 6] (fun n ov i wr => ∃ k : Nat, k ≤ 8 ∧ i = .int .i64 k ∧ (∃ u : Int, 0 ≤ u ∧ u < 18446744073709551616 ∧ n = .int .u64 u ∧ ∃ ys, beN 8 v = beN (8 - k) u ++ ys ∧ Own w.heap.size wr 1 ov k (ys.map (Value.int .u8))) ∧ Below w.heap.size w wr) (fun _ _ i _ => (8 - intOf i).toNat)
      case atStart => exact ⟨0, by omega, rfl, ⟨v, hv0, hv1, rfl, [], by simp, .inr ⟨w.heap.size, 0, 0, rfl, OwnC.made w w.heap.size 5 1 0 0 #[] 0 (Nat.le_refl _) (Nat.le_refl _) (Nat.zero_le _) rfl (Nat.le_refl _) _ rfl _ (.inl rfl)⟩⟩, (Below.refl _ _).alloc (Nat.le_refl _) _⟩
      case round =>
        obtain ⟨k, hk, rfl, ⟨u, hu0, hu1, rfl, ys, hys, ho⟩, hb⟩ := hrel
        have HY : Hid (beN 8 v = beN (8 - k) u ++ ys) := hys
        clear hys
        have hsz := hb.size
        by_cases hlt8 : k < 8
        · have hown1 : Own w.heap.size (wr.alloc (.cells #[.int .u8 (u % 256)] 5)) 1 (.slice (some ⟨wr.heap.size, 0, none⟩) 1 1) 1 [.int .u8 (u % 256)] :=
            .inr ⟨_, 0, 1, rfl, OwnC.made wr w.heap.size 5 1 1 1 _ 1 hsz (Nat.le_refl _) (by unfold maxLen; omega) rfl (Nat.le_refl _) _ rfl _ (.inl rfl)⟩
          have hsrc : Src Tryd.prog 1 35 _ k _ (wr.alloc (.cells #[.int .u8 (u % 256)] 5)) := (ho.alloc (.cells #[.int .u8 (u % 256)] 5)).src Tryd.underlying35 (oneCell_nums ys)
          go_wp2_with (at_builtin; refine wpList_append_c _ rfl _ _ 35 35 rfl w.heap.size 5 i0 (.int .u8 0) 1 1 Tryd.underlying35 hi hz0 hz1 hz2 rfl (.slice (some ⟨wr.heap.size, 0, none⟩) 1 1) 1 [.int .u8 (u % 256)] rfl hown1 _ k (ys.map (Value.int .u8)) rfl hsrc (by unfold maxLen; omega) (by omega) (by simp; omega) ?_; intro v' w1 hown' hgrow hblk)
          have hb1 : Below w.heap.size w w1 := (hb.alloc hsz _).grown hgrow (by simp; omega) (by simp [Value.ownBlock]; exact hsz)
          clear hown1 hsrc ho hgrow hblk
          go_wp2
          go_roundw
          case rel =>
            refine ⟨k + 1, by omega, by go_num, ⟨u / 256, by omega, by omega, rfl, u % 256 :: ys, ?_, by simpa [Nat.add_comm] using hown'⟩, hb1⟩
            rw [HY.out, show 8 - k = (8 - (k + 1)) + 1 by omega, beN, List.append_assoc]; rfl
          case measure => simp [intOf]; omega
        · obtain rfl : k = 8 := by omega
          rcases ho with ⟨_, h8, _⟩ | ⟨g, o, cap, rfl, hc⟩
          · omega
          obtain ⟨hl, hcs⟩ := hc.nums
          have hconv := run_convert_bytes_arg (P := Tryd.prog) wr 35 5 Tryd.underlying35 Tryd.underlying5 g o 8 cap ys hl hcs 9 Tryd.underlying9
          clear hcs hc
          go_wp2
          go_ret
          exact ⟨ret_str (by rw [← HV.out, sumS, HY.out]; rfl), hb⟩

end Go.Proofs.YtlgmkmegkojgbaaDoor
