import Derived.Test.YtlpmcjlcmjlbeaaQLawVal
namespace Go.Proofs.Ytlpmcjlcmjlbeaa
open Go.RowKit

set_option maxHeartbeats 1000000 in
theorem eqMessage_any (k f t e l d : Int) (x : ByteArray) (a a' : Option Addr) (b o n c b' o' c' : Nat) (ss : List ByteArray) (w : World) (h : StrsAt w a b o n ss) (h' : StrsAt w a' b' o' n ss) :
    Calls Try.prog 66 #[.agg #[.int .i64 k, .int .i64 f, .int .i64 t, .int .i64 e, .int .i64 l, .int .i64 d, .string x, .slice a n c], .agg #[.int .i64 k, .int .i64 f, .int .i64 t, .int .i64 e, .int .i64 l, .int .i64 d, .string x, .slice a' n c']] w fun e w' => e = .returned (.bool true) ∧ Below w.heap.size w w' := by
  obtain ⟨W, hW⟩ : ∃ W, W = (w.alloc (.cells #[.int .i64 k, .int .i64 f, .int .i64 t, .int .i64 e, .int .i64 l, .int .i64 d, .string x, .slice a n c] 75)).alloc (.cells #[.int .i64 k, .int .i64 f, .int .i64 t, .int .i64 e, .int .i64 l, .int .i64 d, .string x, .slice a' n c'] 75) := ⟨_, rfl⟩
  have hb0 : Below w.heap.size w W := by rw [hW]; exact ((Below.refl _ _).alloc (Nat.le_refl _) _).alloc (by simp) _
  go_enter Try.func66, Try.ntmps66
  go_wp2_with fail
  rw [← hW]
  refine (eqStringS_any a a' b o n c b' o' c' ss _ (h.below' hb0) (h'.below' hb0)).mono ?_
  rintro e' w1 ⟨rfl, hb1⟩
  clear hW
  have hb := hb0.trans (hb1.mono hb0.size)
  go_wp2
  go_ret
  exact ⟨rfl, hb⟩

end Go.Proofs.Ytlpmcjlcmjlbeaa
