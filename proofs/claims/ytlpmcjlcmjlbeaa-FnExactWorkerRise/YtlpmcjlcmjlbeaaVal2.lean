
/-
  The specification's sums and values: contracts of spec.l1Sum, spec.Value.
-/
import Derived.Test.YtlpmcjlcmjlbeaaVal
namespace Go.Proofs.Ytlpmcjlcmjlbeaa
open Go.RowKit

def bN (l : List UInt8) : List Int := l.map fun b => (b.toNat : Int)
theorem byteCells_bN (s : ByteArray) : byteCells s = (bN s.data.toList).map (Value.int .u8) := by simp [byteCells, bN]
theorem strOf_bN (l : List UInt8) : strOfNums (bN l) = ⟨l.toArray⟩ := by
  unfold strOfNums bN
  congr 1
  rw [List.map_map]
  have : ((fun n : Int => UInt8.ofNat n.toNat) ∘ fun b : UInt8 => (b.toNat : Int)) = id := by funext b; simp
  rw [this, List.map_id]
theorem oneCell_nums (ns : List Int) : ∀ u ∈ ns.map (Value.int .u8), u.oneCell' = true := by
  intro u hu
  obtain ⟨_, _, rfl⟩ := List.mem_map.1 hu
  rfl

set_option maxRecDepth 100000 in
set_option maxHeartbeats 400000 in
theorem l1Sum_any (s : ByteArray) (w : World) (hs : s.size ≤ maxLen) :
    Calls Try.prog 60 #[.string s] w fun e w' => e = .returned (.string (sumS (fnv start s.data.toList))) ∧ Below w.heap.size w w' := by
  obtain ⟨i0, hi, hz0, hz1, hz2⟩ := info_parts Try.info5
  unfold maxLen at hs
  go_enter Try.func60, Try.ntmps60
  go_wp2
  go_loop [3, 4] (fun n i => ∃ k : Nat, k ≤ s.size ∧ i = .int .i64 k ∧ n = .int .u64 (fnv start (s.data.toList.take k))) (fun _ i => s.size - (intOf i).toNat)
  case atStart => exact ⟨0, Nat.zero_le _, rfl, rfl⟩
  case round =>
    obtain ⟨k, hk, rfl, rfl⟩ := hrel
    by_cases hlt : k < s.size
    · have HS : Hid (fnv start (s.data.toList.take (k + 1)) = stp (fnv start (s.data.toList.take k)) s[k]) := by rw [take_snoc s k hlt]; exact fnv_snoc _ _ _
      go_wp2
      go_round
      case rel => exact ⟨k + 1, by omega, by go_num, by rw [HS.out]; rfl⟩
      case measure => simp [intOf]; omega
    · rw [List.take_of_length_le (by simp; omega)]
      obtain ⟨v, hv⟩ : ∃ v, v = fnv start s.data.toList := ⟨_, rfl⟩
      have hw := fnv_word start s.data.toList start_word
      rw [← hv] at hw ⊢
      have HV : Hid (v = fnv start s.data.toList) := hv
      clear hv
      obtain ⟨hv0, hv1⟩ := hw
      go_wp2
      go_loopw [3, 5, 6] (fun n ov i wr => ∃ k : Nat, k ≤ 8 ∧ i = .int .i64 k ∧ (∃ u : Int, 0 ≤ u ∧ u < 18446744073709551616 ∧ n = .int .u64 u ∧ ∃ ys, beN 8 v = beN (8 - k) u ++ ys ∧ Own w.heap.size wr 1 ov k (ys.map (Value.int .u8))) ∧ Below w.heap.size w wr) (fun _ _ i _ => (8 - intOf i).toNat)
      case atStart => exact ⟨0, by omega, rfl, ⟨v, hv0, hv1, rfl, [], by simp, .inr ⟨w.heap.size, 0, 0, rfl, OwnC.made w w.heap.size 5 1 0 0 #[] 0 (Nat.le_refl _) (Nat.le_refl _) (Nat.zero_le _) rfl (Nat.le_refl _) _ rfl _ (.inl rfl)⟩⟩, (Below.refl _ _).alloc (Nat.le_refl _) _⟩
      case round =>
        obtain ⟨k, hk, rfl, ⟨u, hu0, hu1, rfl, ys, hys, ho⟩, hb⟩ := hrel
        have HY : Hid (beN 8 v = beN (8 - k) u ++ ys) := hys
        clear hys
        have hsz := hb.size
        by_cases hlt8 : k < 8
        · have hown1 : Own w.heap.size (wr.alloc (.cells #[.int .u8 (u % 256)] 5)) 1 (.slice (some ⟨wr.heap.size, 0, none⟩) 1 1) 1 [.int .u8 (u % 256)] :=
            .inr ⟨_, 0, 1, rfl, OwnC.made wr w.heap.size 5 1 1 1 _ 1 hsz (Nat.le_refl _) (by unfold maxLen; omega) rfl (Nat.le_refl _) _ rfl _ (.inl rfl)⟩
          have hsrc : Src Try.prog 1 93 _ k _ (wr.alloc (.cells #[.int .u8 (u % 256)] 5)) := (ho.alloc (.cells #[.int .u8 (u % 256)] 5)).src Try.underlying93 (oneCell_nums ys)
          go_wp2_with (at_builtin; refine wpList_append_c _ rfl _ _ 93 93 rfl w.heap.size 5 i0 (.int .u8 0) 1 1 Try.underlying93 hi hz0 hz1 hz2 rfl (.slice (some ⟨wr.heap.size, 0, none⟩) 1 1) 1 [.int .u8 (u % 256)] rfl hown1 _ k (ys.map (Value.int .u8)) rfl hsrc (by unfold maxLen; omega) (by omega) (by simp; omega) ?_; intro v' w1 hown' hgrow hblk)
          have hb1 : Below w.heap.size w w1 := (hb.alloc hsz _).grown hgrow (by simp; omega) (by simp [Value.ownBlock]; exact hsz)
          clear hown1 hsrc ho hgrow hblk
          go_wp2
          go_roundw
          case rel =>
            refine ⟨k + 1, by omega, by go_num, ⟨u / 256, by omega, by omega, rfl, u % 256 :: ys, ?_, by simpa [Nat.add_comm] using hown'⟩, hb1⟩
            rw [HY.out, show 8 - k = (8 - (k + 1)) + 1 by omega, beN, List.append_assoc]; rfl
          case measure => simp [intOf]; omega
        · obtain rfl : k = 8 := by omega
          rcases ho with ⟨_, h8, _⟩ | ⟨g, o, cap, rfl, hc⟩
          · omega
          obtain ⟨hl, hcs⟩ := hc.nums
          have hconv := run_convert_bytes_arg (P := Try.prog) wr 93 5 Try.underlying93 Try.underlying5 g o 8 cap ys hl hcs 9 Try.underlying9
          clear hcs hc
          go_wp2
          go_ret
          exact ⟨ret_str (by rw [← HV.out, sumS, HY.out]; rfl), hb⟩

set_option maxHeartbeats 1000000 in
theorem specValue_any (name : ByteArray) (a : Option Addr) (b o n c : Nat) (ss : List ByteArray) (w : World) (hn : name.size ≤ 1048576) (h : StrsAt w a b o n ss) (hs : n + tot ss ≤ 1048576) :
    Calls Try.prog 47 #[.string name, .slice a n c] w fun e w' => e = .returned (.string (valS name ss)) ∧ Below w.heap.size w w' := by
  obtain ⟨i0, hi, hz0, hz1, hz2⟩ := info_parts Try.info5
  have hmax : n ≤ 1048576 := by omega
  go_enter Try.func47, Try.ntmps47
  go_wp2_with (refine wpList_bytes_c _ rfl _ 9 93 rfl w.heap.size 5 Try.underlying9 Try.underlying93 Try.underlying5 name rfl (by unfold maxLen; omega) (Nat.le_refl _) ?_; intro v0 w0 hown0 hgr0 hb0)
  go_loopw [5, 6] (fun ov i wr => ∃ k : Nat, k ≤ n ∧ i = .int .i64 k ∧ (∃ m, m = name.size + k + tot (ss.take k) ∧ Own w.heap.size wr 1 ov m ((bN (name.data.toList ++ addL (ss.take k))).map (Value.int .u8))) ∧ Below w.heap.size w wr) (fun _ i _ => n - (intOf i).toNat)
  case atStart =>
    refine ⟨0, Nat.zero_le _, rfl, ⟨name.size, by simp [tot], ?_⟩, (Below.refl _ _).grown hgr0 (Nat.le_refl _) (by simp)⟩
    rw [byteCells_bN] at hown0
    simpa [addL] using hown0
  case round =>
    obtain ⟨k, hk, rfl, ⟨m, hm, ho⟩, hb⟩ := hrel
    have HM : Hid (m = name.size + k + tot (ss.take k)) := hm
    have hsz := hb.size
    by_cases hlt : k < n
    · obtain rfl := h.ad (by omega)
      have hbl := h.lt (by omega)
      have hc : wr.cell? ⟨b, o + k, none⟩ = some (.string (ss.getD k ByteArray.empty)) := (hb.cell (by exact hbl)).trans (h.cell k hlt)
      have hlt' : (k : Int) < (n : Int) := by omega
      have ht2 : tot (ss.take (k + 1)) ≤ tot ss := tot_take_le _ _
      rw [takeS_snoc (by rw [h.len]; exact hlt), tot_snoc] at ht2
      obtain ⟨s, hs'⟩ : ∃ s, s = ss.getD k ByteArray.empty := ⟨_, rfl⟩
      rw [← hs'] at hc ht2
      have hS : (bN (name.data.toList ++ addL (ss.take (k + 1)))).map (Value.int .u8) = (bN (name.data.toList ++ addL (ss.take k))).map (Value.int .u8) ++ [.int .u8 0] ++ byteCells s := by
        rw [takeS_snoc (by rw [h.len]; exact hlt), addL_snoc, ← hs', byteCells_bN]
        simp [bN]
      have HS : Hid _ := hS
      have hS2 : tot (ss.take (k + 1)) = tot (ss.take k) + s.size := by rw [takeS_snoc (by rw [h.len]; exact hlt), tot_snoc, ← hs']
      have HS2 : Hid _ := hS2
      have hm1 : m + 1 ≤ 2097152 := by omega
      have hm2 : m + 1 + s.size ≤ 2097152 := by omega
      clear hS hs' hm ht2 hS2
      have hA := (ho.alloc (.cells #[.int .u8 0] 5)).drewW
      have hown1 : Own w.heap.size (wr.alloc (.cells #[.int .u8 0] 5)) 1 (.slice (some ⟨wr.heap.size, 0, none⟩) 1 1) 1 [.int .u8 0] :=
        .inr ⟨_, 0, 1, rfl, OwnC.made wr w.heap.size 5 1 1 1 _ 1 hsz (Nat.le_refl _) (by unfold maxLen; omega) rfl (Nat.le_refl _) _ rfl _ (.inl rfl)⟩
      have hsrc : Src Try.prog 1 93 _ 1 _ (wr.alloc (.cells #[.int .u8 0] 5)).drew := hown1.drewW.src Try.underlying93 (by simp; rfl)
      have hcA : (wr.alloc (.cells #[.int .u8 0] 5)).cell? ⟨b, o + k, none⟩ = some (.string s) := (World.cell?_of_block (w := wr) (Below.heap_alloc _ _ _ (by show b < wr.heap.size; omega))).trans hc
      have hrow := ho.row_lo
      have hne : u5.ownBlock = some b → False := fun e => absurd (hrow b e) (by omega)
      have hbA : Below w.heap.size w (wr.alloc (.cells #[.int .u8 0] 5)).drew := (hb.alloc hsz _).drew
      clear hown1 ho
      go_wp2
      go_region_held3 (fun w' => w'.cell? ⟨b, o + k, none⟩ = some (.string s)) (first | (simp [go_sem, *]; done) | assumption)
        (first
          | (refine step_append_c rfl (.tmp 15) (.tmp 16) 93 93 rfl w.heap.size 5 i0 (.int .u8 0) 1 1 Try.underlying93 hi hz0 hz1 hz2 rfl _ m _ rfl hA _ 1 _ rfl hsrc (by unfold maxLen; omega) (by omega) (by simp; omega) ?_; intro v1 w1 hown2 hgrow2 hblk2; have hc1 := hgrow2.cell hcA (fun e => hne e.symm); have hb1 := hbA.grown hgrow2 (by simp; omega) hrow)
          | (refine step_append_c rfl (.tmp 17) (.tmp 21) 93 9 rfl w.heap.size 5 i0 (.int .u8 0) 1 1 Try.underlying93 hi hz0 hz1 hz2 rfl _ (m + 1) _ rfl hown2 _ s.size _ rfl (Src.ofString _ Try.underlying9 s) (by unfold maxLen; omega) (by omega) (by have := hb1.size; omega) ?_; intro v2 w2 hown3 hgrow3 hblk3; have hc2 := hgrow3.cell hc1 (fun e => absurd (hown2.row_lo b e.symm) (by omega)); have hb2 := hb1.grown hgrow3 (by have := hb1.size; omega) hown2.row_lo))
      clear hown2 hgrow2 hgrow3 hA hsrc hblk2 hblk3 hrow hne
      go_wp2
      go_roundw
      case rel =>
        refine ⟨k + 1, by omega, by go_num, ⟨m + 1 + s.size, ?_, ?_⟩, hb2⟩
        · rw [HM.out, HS2.out]; omega
        · rw [HS.out]; exact hown3
      case measure => simp [intOf]; omega
    · obtain rfl : k = n := by omega
      rw [List.take_of_length_le (by rw [h.len]; omega)] at ho hm
      have hbs : (⟨(name.data.toList ++ addL ss).toArray⟩ : ByteArray).size ≤ maxLen := by
        have : (name.data.toList ++ addL ss).length ≤ 2097152 := by
          rw [List.length_append, addL_length, h.len]
          have : name.data.toList.length = name.size := by rw [Array.length_toList]; rfl
          omega
        show (name.data.toList ++ addL ss).toArray.size ≤ maxLen
        unfold maxLen; simp only [List.size_toArray]; omega
      have hconv : ∃ a' c', u5 = .slice a' m c' ∧ (convert 93 9 (.slice a' m c')).run Try.prog wr = .ok (.string ⟨(name.data.toList ++ addL ss).toArray⟩) wr := by
        rcases ho with ⟨rfl, hm0, hx⟩ | ⟨g, o', cap, rfl, hc⟩
        · subst hm0
          refine ⟨none, 0, rfl, ?_⟩
          have : name.data.toList ++ addL ss = [] := by
            have := congrArg List.length hx
            simp only [bN, List.length_map, List.length_nil] at this
            exact List.eq_nil_of_length_eq_zero this
          rw [this]
          exact run_convert_bytes_nil (P := Try.prog) wr 93 5 Try.underlying93 Try.underlying5 0 0 9 Try.underlying9
        · obtain ⟨hl, hcs⟩ := hc.nums
          refine ⟨_, _, rfl, ?_⟩
          rw [run_convert_bytes_arg (P := Try.prog) wr 93 5 Try.underlying93 Try.underlying5 g o' m cap _ hl hcs 9 Try.underlying9, strOf_bN]
      obtain ⟨a', c', hov, hcv⟩ := hconv
      rw [hov]
      obtain ⟨bs, hbs'⟩ : ∃ bs : ByteArray, bs = ⟨(name.data.toList ++ addL ss).toArray⟩ := ⟨_, rfl⟩
      rw [← hbs'] at hcv hbs
      have hB' : bs.data.toList = name.data.toList ++ addL ss := by rw [hbs']
      have HB : Hid _ := hB'
      clear hB'
      clear hbs' hov ho hm
      go_wp2_with fail
      refine (l1Sum_any _ _ hbs).mono ?_
      rintro e w' ⟨rfl, hb'⟩
      go_wp2
      go_ret
      exact ⟨ret_str (by rw [HB.out]; rfl), hb.trans (hb'.mono hsz)⟩
end Go.Proofs.Ytlpmcjlcmjlbeaa
