
/-
  A message's body by the specification: spec.l2Body; the seals; spec.FormMessage and impl.FormMessage.
-/
import Derived.Test.YtlgmkmegkojgbaaDoorBody
import Derived.Deep.DeepCutAuto
namespace Go.Proofs.YtlgmkmegkojgbaaDoor
open Go.RowKit

set_option maxHeartbeats 4000000 in
set_option maxRecDepth 100000 in
theorem l2Body_any (k f t e l d : Int) (x : ByteArray) (a : Option Addr) (b o n c : Nat) (ss : List ByteArray) (w : World) (h : StrsAt w a b o n ss) (hx : x.size ≤ 8) (hi : inOk ss) (he0 : 0 ≤ e) (he1 : e ≤ 300) (hl0 : 0 ≤ l) (hl1 : l ≤ 300000000) :
    Calls Tryd.prog 37 #[.agg #[.int .i64 k, .int .i64 f, .int .i64 t, .int .i64 e, .int .i64 l, .int .i64 d, .string x, .slice a n c]] w fun e' w' => e' = .returned (.string ⟨(bodyL k f t e l d x ss).toArray⟩) ∧ Below w.heap.size w w' := by
  obtain ⟨i0, hi0, hz0, hz1, hz2⟩ := info_parts Tryd.info5
  have hmax := h.max
  have hn8 : n ≤ 8 := by have := hi.1; rw [h.len] at this; exact this
  have HT : Hid (tot ss ≤ 64) := tot_le hi
  have HLn : Hid (ss.length = n) := h.len
  obtain ⟨W, hW⟩ : ∃ W, W = (w.alloc (.cells #[.int .i64 k, .int .i64 f, .int .i64 t, .int .i64 e, .int .i64 l, .int .i64 d, .string x, .slice a n c] 27)).alloc (.cells #[.int .u8 (k % 256), .int .u8 (f % 256), .int .u8 (t % 256), .int .u8 (e / 256), .int .u8 (e % 256), .int .u8 (l / 16777216), .int .u8 (l / 65536 % 256), .int .u8 (l / 256 % 256), .int .u8 (l % 256), .int .u8 (d % 256), .int .u8 (n : Int)] 5) := ⟨_, rfl⟩
  have hsW : W.heap.size = w.heap.size + 2 := by rw [hW]; simp
  have hbW : Below w.heap.size w W := by rw [hW]; exact ((Below.refl _ _).alloc (Nat.le_refl _) _).alloc (by simp) _
  have hMC : MC W w.heap.size [.int .i64 k, .int .i64 f, .int .i64 t, .int .i64 e, .int .i64 l, .int .i64 d, .string x, .slice a n c] := by
    rw [hW]
    exact (MC.made w _ _).below ((Below.refl (w.heap.size + 1) _).alloc (by simp) _) (by omega)
  have hown : Own (w.heap.size + 1) W 1 (.slice (some ⟨w.heap.size + 1, 0, none⟩) 11 11) 11 ((bN (toB (headN k f t e l d n))).map (Value.int .u8)) := by
    rw [cells_toB _ (headN_range _ _ _ _ _ _ _), hW]
    have h1 : e / 256 % 256 = e / 256 := by omega
    have h2 : l / 16777216 % 256 = l / 16777216 := by omega
    have h3 : (n : Int) % 256 = n := by omega
    have := OwnC.made (w.alloc (.cells #[.int .i64 k, .int .i64 f, .int .i64 t, .int .i64 e, .int .i64 l, .int .i64 d, .string x, .slice a n c] 27)) (w.heap.size + 1) 5 1 11 11 #[.int .u8 (k % 256), .int .u8 (f % 256), .int .u8 (t % 256), .int .u8 (e / 256), .int .u8 (e % 256), .int .u8 (l / 16777216), .int .u8 (l / 65536 % 256), .int .u8 (l / 256 % 256), .int .u8 (l % 256), .int .u8 (d % 256), .int .u8 (n : Int)] 11 (by simp) (Nat.le_refl _) (by unfold maxLen; omega) rfl (Nat.le_refl _) ((headN k f t e l d n).map (Value.int .u8)) (by unfold headN; rw [h1, h2, h3]; rfl) (0, 0) (.inl rfl)
    rw [World.size_alloc] at this
    exact .inr ⟨_, 0, 11, rfl, this⟩
  have HM0 := hid hMC
  have q0 : W.cell? ⟨w.heap.size, 6, none⟩ = some (.string x) := HM0.out 6 (by simp)
  clear hMC
  go_enter Tryd.func37, Tryd.ntmps37
  go_upto_region 3 with fail
  rw [← hW]
  clear hW
  go_wp2_with (at_builtin; refine wpList_append_c _ rfl _ _ 35 9 rfl (w.heap.size + 1) 5 i0 (.int .u8 0) 1 1 Tryd.underlying35 hi0 hz0 hz1 hz2 rfl _ 11 _ rfl hown _ x.size _ rfl (Src.ofString _ Tryd.underlying9 x) (by unfold maxLen; omega) (by omega) (by omega) ?_; intro v1 w1 hown1 hgrow1 hblk1)
  have hb1 : Below (w.heap.size + 1) W w1 := (Below.refl _ _).grown hgrow1 (by omega) hown.row_lo
  have hown1' : Own (w.heap.size + 1) w1 1 v1 (11 + x.size) ((bN (toB (headN k f t e l d n) ++ x.data.toList ++ catL (ss.take 0))).map (Value.int .u8)) := by
    rw [byteCells_bN, ← List.map_append, ← bN_append] at hown1
    simpa [catL] using hown1
  clear hown hown1 hgrow1 hblk1 q0
  go_wp2
  go_loopw [4, 5] (fun v i wr => ∃ j : Nat, j ≤ n ∧ i = .int .i64 j ∧ (∃ m, m = 11 + x.size + tot (ss.take j) ∧ Own (w.heap.size + 1) wr 1 v m ((bN (toB (headN k f t e l d n) ++ x.data.toList ++ catL (ss.take j))).map (Value.int .u8))) ∧ Below (w.heap.size + 1) W wr) (fun _ i _ => n - (intOf i).toNat)
  case atStart => exact ⟨0, Nat.zero_le _, rfl, ⟨_, by simp [tot], hown1'⟩, hb1⟩
  case round =>
    obtain ⟨j, hj, rfl, ⟨m, hm, ho⟩, hbj⟩ := hrel
    have qj : wr.cell? ⟨w.heap.size, 7, none⟩ = some (.slice a n c) := MC.below HM0.out hbj (by omega) 7 (by simp)
    have hsz := hbj.size
    have hT := tot_take_le ss j
    have hT2 := HT.out
    by_cases hlt : j < n
    · obtain rfl := h.ad (by omega)
      have hbl := h.lt (by omega)
      have hc : wr.cell? ⟨b, o + j, none⟩ = some (.string (ss.getD j ByteArray.empty)) := (hbj.cell (p := ⟨b, o + j, none⟩) (by show b < w.heap.size + 1; omega)).trans ((hbW.cell (p := ⟨b, o + j, none⟩) hbl).trans (h.cell j hlt))
      have h8 : (ss.getD j ByteArray.empty).size = 8 := hi.2 j (by rw [HLn.out]; exact hlt)
      have hS : (bN (toB (headN k f t e l d n) ++ x.data.toList ++ catL (ss.take (j + 1)))).map (Value.int .u8) = (bN (toB (headN k f t e l d n) ++ x.data.toList ++ catL (ss.take j))).map (Value.int .u8) ++ byteCells (ss.getD j ByteArray.empty) := by
        rw [takeS_snoc (by rw [HLn.out]; exact hlt), catL_snoc, ← List.append_assoc, bN_append, byteCells_bN, List.map_append]
      have hS2 : tot (ss.take (j + 1)) = tot (ss.take j) + (ss.getD j ByteArray.empty).size := by rw [takeS_snoc (by rw [HLn.out]; exact hlt), tot_snoc]
      obtain ⟨s, hs⟩ : ∃ s, s = ss.getD j ByteArray.empty := ⟨_, rfl⟩
      rw [← hs] at hc hS h8 hS2
      have HS : Hid _ := hS
      have HS2 : Hid _ := hS2
      have hm2 : m + s.size ≤ 1000 := by omega
      have HM : Hid (m = 11 + x.size + tot (ss.take j)) := hm
      clear hS hs h8 hT hm hT2 hS2
      have hlt' : (j : Int) < (n : Int) := by omega
      go_wp2_with (at_builtin; refine wpList_append_c _ rfl _ _ 35 9 rfl (w.heap.size + 1) 5 i0 (.int .u8 0) 1 1 Tryd.underlying35 hi0 hz0 hz1 hz2 rfl _ m _ rfl ho _ s.size _ rfl (Src.ofString _ Tryd.underlying9 s) (by unfold maxLen; omega) (by omega) (by omega) ?_; intro v2 w2 hown2 hgrow2 hblk2)
      have hb2 : Below (w.heap.size + 1) W w2 := hbj.grown hgrow2 (by omega) ho.row_lo
      clear ho hgrow2 hblk2
      go_wp2
      go_roundw
      case rel => exact ⟨j + 1, by omega, by go_num, ⟨m + s.size, by rw [HM.out, HS2.out]; omega, by rw [HS.out]; exact hown2⟩, hb2⟩
      case measure => simp [intOf]; omega
    · obtain rfl : j = n := by omega
      rw [List.take_of_length_le (by rw [HLn.out]; omega), ← HLn.out] at ho
      have hbl : toB (headN k f t e l d ss.length) ++ x.data.toList ++ catL ss = bodyL k f t e l d x ss := rfl
      rw [hbl] at ho
      have hconv : ∃ a' c', u4 = .slice a' m c' ∧ (convert 35 9 (.slice a' m c')).run Tryd.prog wr = .ok (.string ⟨(bodyL k f t e l d x ss).toArray⟩) wr := by
        rcases ho with ⟨rfl, hm0, hx0⟩ | ⟨g, o', cap, rfl, hc⟩
        · omega
        · obtain ⟨hl, hcs⟩ := hc.nums
          refine ⟨_, _, rfl, ?_⟩
          rw [run_convert_bytes_arg (P := Tryd.prog) wr 35 5 Tryd.underlying35 Tryd.underlying5 g o' m cap _ hl hcs 9 Tryd.underlying9, strOf_bN]
      obtain ⟨a', c', hov, hcv⟩ := hconv
      rw [hov]
      obtain ⟨bs, hbs⟩ : ∃ bs : ByteArray, bs = ⟨(bodyL k f t e l d x ss).toArray⟩ := ⟨_, rfl⟩
      rw [← hbs] at hcv
      have HB : Hid _ := hbs
      clear hov ho hm hT hT2 hbs hbl
      go_wp2
      go_ret
      exact ⟨ret_str HB.out, hbW.trans (hbj.mono (by omega))⟩
end Go.Proofs.YtlgmkmegkojgbaaDoor
