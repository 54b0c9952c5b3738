
/-
  spec.l2Ok and impl.validMessage at every kind.
-/
import Derived.Test.YtlgmkmegkojgbaaDoorMsgOk
import Derived.Test.YtlgmkmegkojgbaaDoorMsgV1
import Derived.Test.YtlgmkmegkojgbaaDoorMsgV2
import Derived.Test.YtlgmkmegkojgbaaDoorMsgV3
import Derived.Test.YtlgmkmegkojgbaaDoorMsgV4
import Derived.Test.YtlgmkmegkojgbaaDoorMsgV5
namespace Go.Proofs.YtlgmkmegkojgbaaDoor
open Go.RowKit

theorem vM_k {k f t e l d : Int} {z : Nat} {ss : List ByteArray} (h : vM k f t e l d z ss) : 1 ≤ k ∧ k ≤ 5 := by
  unfold vM at h
  rcases h with h | h | h | h | h <;> (obtain ⟨rfl, _⟩ := h; omega)

set_option maxHeartbeats 1000000 in
theorem l2Ok_0 (k f t e l d : Int) (x : ByteArray) (a : Option Addr) (n c : Nat) (ss : List ByteArray) (w : World) (hk : inB k 1 5 = false) :
    Calls Tryd.prog 36 #[.agg #[.int .i64 k, .int .i64 f, .int .i64 t, .int .i64 e, .int .i64 l, .int .i64 d, .string x, .slice a n c]] w fun e' w' => RetB e' (vM k f t e l d x.size ss) ∧ Below w.heap.size w w' := by
  have hb0 : Below w.heap.size w (w.alloc (.cells #[.int .i64 k, .int .i64 f, .int .i64 t, .int .i64 e, .int .i64 l, .int .i64 d, .string x, .slice a n c] 27)) := (Below.refl _ _).alloc (Nat.le_refl _) _
  have GK := hid (inB_f hk)
  go_enter Tryd.func36, Tryd.ntmps36
  go_wp2_with (go_at_call 60; refine (l2In_any _ _ _ _).mono ?_; rintro e' w' ⟨rfl, rfl⟩)
  go_ret
  exact ⟨RetB.f fun hv => GK.out (vM_k hv), hb0⟩

set_option maxHeartbeats 1000000 in
theorem valid_0 (k f t e l d : Int) (x : ByteArray) (a : Option Addr) (n c : Nat) (ss : List ByteArray) (w : World) (hk : inB k 1 5 = false) :
    Calls Tryd.prog 40 #[.agg #[.int .i64 k, .int .i64 f, .int .i64 t, .int .i64 e, .int .i64 l, .int .i64 d, .string x, .slice a n c]] w fun e' w' => RetB e' (vM k f t e l d x.size ss) ∧ Below w.heap.size w w' := by
  have hb0 : Below w.heap.size w (w.alloc (.cells #[.int .i64 k, .int .i64 f, .int .i64 t, .int .i64 e, .int .i64 l, .int .i64 d, .string x, .slice a n c] 27)) := (Below.refl _ _).alloc (Nat.le_refl _) _
  have GK := hid (inB_f hk)
  go_enter Tryd.func40, Tryd.ntmps40
  go_wp2_with (go_at_call 64; refine (isKind_any _ _).mono ?_; rintro e' w' ⟨rfl, rfl⟩)
  go_ret
  exact ⟨RetB.f fun hv => GK.out (vM_k hv), hb0⟩

theorem l2Ok_any (k f t e l d : Int) (x : ByteArray) (a : Option Addr) (b o n c : Nat) (ss : List ByteArray) (w : World) (h : StrsAt w a b o n ss) :
    Calls Tryd.prog 36 #[.agg #[.int .i64 k, .int .i64 f, .int .i64 t, .int .i64 e, .int .i64 l, .int .i64 d, .string x, .slice a n c]] w fun e' w' => RetB e' (vM k f t e l d x.size ss) ∧ Below w.heap.size w w' := by
  cases hk : inB k 1 5 with
  | false => exact l2Ok_0 k f t e l d x a n c ss w hk
  | true =>
    have := inB_t hk
    obtain rfl | rfl | rfl | rfl | rfl : k = 1 ∨ k = 2 ∨ k = 3 ∨ k = 4 ∨ k = 5 := by omega
    · exact l2Ok_1 f t e l d x a b o n c ss w h
    · exact l2Ok_2 f t e l d x a b o n c ss w h
    · exact l2Ok_3 f t e l d x a b o n c ss w h
    · exact l2Ok_4 f t e l d x a b o n c ss w h
    · exact l2Ok_5 f t e l d x a b o n c ss w h

theorem valid_any (k f t e l d : Int) (x : ByteArray) (a : Option Addr) (b o n c : Nat) (ss : List ByteArray) (w : World) (hT : Tab w) (h : StrsAt w a b o n ss) :
    Calls Tryd.prog 40 #[.agg #[.int .i64 k, .int .i64 f, .int .i64 t, .int .i64 e, .int .i64 l, .int .i64 d, .string x, .slice a n c]] w fun e' w' => RetB e' (vM k f t e l d x.size ss) ∧ Below w.heap.size w w' := by
  cases hk : inB k 1 5 with
  | false => exact valid_0 k f t e l d x a n c ss w hk
  | true =>
    have := inB_t hk
    obtain rfl | rfl | rfl | rfl | rfl : k = 1 ∨ k = 2 ∨ k = 3 ∨ k = 4 ∨ k = 5 := by omega
    · exact valid_1 f t e l d x a b o n c ss w hT h
    · exact valid_2 f t e l d x a b o n c ss w hT h
    · exact valid_3 f t e l d x a b o n c ss w hT h
    · exact valid_4 f t e l d x a b o n c ss w hT h
    · exact valid_5 f t e l d x a b o n c ss w hT h
end Go.Proofs.YtlgmkmegkojgbaaDoor
