
import Derived.Test.YtimpfhfgcmipgaaDoorQWan
namespace Go.Proofs.YtimpfhfgcmipgaaDoor
open Go.RowKit

set_option maxHeartbeats 1000000 in
theorem wList_any (a a' : Option Addr) (b o n c b' o' c' : Nat) (ss : List ByteArray) (w : World) (h : StrsAt w a b o n ss) (h' : StrsAt w a' b' o' n ss) :
    Calls Tryd.prog 29 #[.slice a n c, .slice a' n c'] w fun e w' => e = .returned (.bool true) ∧ Below w.heap.size w w' := by
  have hmax := h.max
  unfold maxLen at hmax
  go_enter Tryd.func29, Tryd.ntmps29
  go_wp2
  go_loopw [5] (fun i wr => ∃ k : Nat, k ≤ n ∧ i = .int .i64 k ∧ Below w.heap.size w wr) (fun i _ => n - (intOf i).toNat)
  case atStart => exact ⟨0, Nat.zero_le _, rfl, Below.refl _ _⟩
  case round =>
    obtain ⟨k, hk, rfl, hb⟩ := hrel
    by_cases hlt : k < n
    · obtain rfl := h.ad (by omega)
      obtain rfl := h'.ad (by omega)
      have hbl := h.lt (by omega)
      have hbl' := h'.lt (by omega)
      have hc : wr.cell? ⟨b, o + k, none⟩ = some (.string (ss.getD k ByteArray.empty)) := (hb.cell (by exact hbl)).trans (h.cell k hlt)
      have hc' : wr.cell? ⟨b', o' + k, none⟩ = some (.string (ss.getD k ByteArray.empty)) := (hb.cell (by exact hbl')).trans (h'.cell k hlt)
      obtain ⟨s, hs'⟩ : ∃ s, s = ss.getD k ByteArray.empty := ⟨_, rfl⟩
      rw [← hs'] at hc hc'
      clear hs'
      have hlt' : (k : Int) < (n : Int) := by omega
      go_wp2
      go_quiet (fail)
      go_wp2
      go_roundw
      case rel => exact ⟨k + 1, by omega, by go_num, below_drewN hb _⟩
      case measure => simp [intOf]; omega
    · go_wp2
      go_ret
      exact ⟨rfl, hb⟩

set_option maxHeartbeats 1000000 in
set_option maxRecDepth 100000 in
theorem wMessage_any (k f t e l d : Int) (x : ByteArray) (a a' : Option Addr) (b o n c b' o' c' : Nat) (ss : List ByteArray) (w : World) (h : StrsAt w a b o n ss) (h' : StrsAt w a' b' o' n ss) :
    Calls Tryd.prog 11 #[.agg #[.int .i64 k, .int .i64 f, .int .i64 t, .int .i64 e, .int .i64 l, .int .i64 d, .string x, .slice a n c], .agg #[.int .i64 k, .int .i64 f, .int .i64 t, .int .i64 e, .int .i64 l, .int .i64 d, .string x, .slice a' n c']] w fun e w' => e = .returned (.bool true) ∧ Below w.heap.size w w' := by
  obtain ⟨W, hW⟩ : ∃ W, W = (w.alloc (.cells #[.int .i64 k, .int .i64 f, .int .i64 t, .int .i64 e, .int .i64 l, .int .i64 d, .string x, .slice a n c] 34)).alloc (.cells #[.int .i64 k, .int .i64 f, .int .i64 t, .int .i64 e, .int .i64 l, .int .i64 d, .string x, .slice a' n c'] 34) := ⟨_, rfl⟩
  have hb0 : Below w.heap.size w W := by rw [hW]; exact ((Below.refl _ _).alloc (Nat.le_refl _) _).alloc (by simp) _
  go_enter Tryd.func11, Tryd.ntmps11
  go_wp2_with fail
  rw [← hW]
  refine (wList_any a a' b o n c b' o' c' ss _ (h.below' hb0) (h'.below' hb0)).mono ?_
  rintro e' w1 ⟨rfl, hb1⟩
  clear hW
  have hb := hb0.trans (hb1.mono hb0.size)
  go_wp2
  go_ret
  exact ⟨rfl, hb⟩
end Go.Proofs.YtimpfhfgcmipgaaDoor
