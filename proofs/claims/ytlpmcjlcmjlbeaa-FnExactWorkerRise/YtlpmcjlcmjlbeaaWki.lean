
/-
  impl.stateOf; costHolds.
-/
import Derived.Test.YtlpmcjlcmjlbeaaMsgV0
import Derived.Handy
namespace Go.Proofs.Ytlpmcjlcmjlbeaa
open Go.RowKit

def fS : Value := .iface 83 (.agg #[])
def bS (le ta co lf : Int) (v : Value) : Value := .iface 85 (.agg #[.int .i64 le, .int .i64 ta, .int .i64 co, .int .i64 lf, v])
def tS (le ta : Int) (x : ByteArray) : Value := .iface 87 (.agg #[.int .i64 le, .int .i64 ta, .string x])

set_option maxHeartbeats 2000000 in
theorem stateOf_0 (nu ep : Int) (up : Bool) (le ta co lf : Int) (a : Option Addr) (n c : Nat) (x : ByteArray) (si : Int) (w : World) :
    Calls Try.prog 32 #[.agg #[.int .i64 nu, .int .i64 ep, .bool up, .int .i64 0, .int .i64 le, .int .i64 ta, .int .i64 co, .int .i64 lf, .slice a n c, .string x, .int .i64 si]] w fun e w' => e = .returned (.iface 83 (.agg #[])) ∧ w' = w.alloc (.cells #[.int .i64 nu, .int .i64 ep, .bool up, .int .i64 0, .int .i64 le, .int .i64 ta, .int .i64 co, .int .i64 lf, .slice a n c, .string x, .int .i64 si] 27) := by
  go_enter Try.func32, Try.ntmps32
  go_wp2
  go_ret
  exact ⟨rfl, rfl⟩

set_option maxHeartbeats 2000000 in
theorem stateOf_1 (nu ep : Int) (up : Bool) (le ta co lf : Int) (a : Option Addr) (n c : Nat) (x : ByteArray) (si : Int) (w : World) :
    Calls Try.prog 32 #[.agg #[.int .i64 nu, .int .i64 ep, .bool up, .int .i64 1, .int .i64 le, .int .i64 ta, .int .i64 co, .int .i64 lf, .slice a n c, .string x, .int .i64 si]] w fun e w' => e = .returned (.iface 85 (.agg #[.int .i64 le, .int .i64 ta, .int .i64 co, .int .i64 lf, .slice a n c])) ∧ w' = w.alloc (.cells #[.int .i64 nu, .int .i64 ep, .bool up, .int .i64 1, .int .i64 le, .int .i64 ta, .int .i64 co, .int .i64 lf, .slice a n c, .string x, .int .i64 si] 27) := by
  go_enter Try.func32, Try.ntmps32
  go_wp2
  go_ret
  exact ⟨rfl, rfl⟩

set_option maxHeartbeats 2000000 in
theorem stateOf_2 (nu ep : Int) (up : Bool) (le ta co lf : Int) (a : Option Addr) (n c : Nat) (x : ByteArray) (si : Int) (w : World) :
    Calls Try.prog 32 #[.agg #[.int .i64 nu, .int .i64 ep, .bool up, .int .i64 2, .int .i64 le, .int .i64 ta, .int .i64 co, .int .i64 lf, .slice a n c, .string x, .int .i64 si]] w fun e w' => e = .returned (.iface 87 (.agg #[.int .i64 le, .int .i64 ta, .string x])) ∧ w' = w.alloc (.cells #[.int .i64 nu, .int .i64 ep, .bool up, .int .i64 2, .int .i64 le, .int .i64 ta, .int .i64 co, .int .i64 lf, .slice a n c, .string x, .int .i64 si] 27) := by
  go_enter Try.func32, Try.ntmps32
  go_wp2
  go_ret
  exact ⟨rfl, rfl⟩

theorem uses_0 (w : World) : Calls Try.prog 96 #[.agg #[]] w fun e w' => e = .returned (.agg #[.bool false, .bool false, .bool false, .bool false, .bool false]) ∧ w' = (w.alloc (.cells #[] 83)).alloc (.cells #[.bool false, .bool false, .bool false, .bool false, .bool false] 59) := by
  go_enter Try.func96, Try.ntmps96
  go_wp2
  refine bodyPost_ret (v := .agg #[.bool false, .bool false, .bool false, .bool false, .bool false]) (by simp [results, Try.results96, go_sem]) rfl ⟨rfl, ?_⟩
  simp [go_sem]
theorem pause_0 (w : World) : Calls Try.prog 94 #[.agg #[]] w fun e w' => e = .returned (.int .i64 3) ∧ w' = w.alloc (.cells #[] 83) := by
  go_enter Try.func94, Try.ntmps94
  go_wp2
  go_ret
  exact ⟨rfl, rfl⟩

theorem uses_1 (le ta co lf : Int) (v : Value) (w : World) : Calls Try.prog 100 #[.agg #[.int .i64 le, .int .i64 ta, .int .i64 co, .int .i64 lf, v]] w fun e w' => e = .returned (.agg #[.bool false, .bool true, .bool true, .bool false, .bool true]) ∧ w' = (w.alloc (.cells #[.int .i64 le, .int .i64 ta, .int .i64 co, .int .i64 lf, v] 85)).alloc (.cells #[.bool false, .bool true, .bool true, .bool false, .bool true] 59) := by
  go_enter Try.func100, Try.ntmps100
  go_wp2
  refine bodyPost_ret (v := .agg #[.bool false, .bool true, .bool true, .bool false, .bool true]) (by simp [results, Try.results100, go_sem]) rfl ⟨rfl, ?_⟩
  simp [go_sem]
theorem pause_1 (le ta co lf : Int) (v : Value) (w : World) : Calls Try.prog 98 #[.agg #[.int .i64 le, .int .i64 ta, .int .i64 co, .int .i64 lf, v]] w fun e w' => e = .returned (.int .i64 4) ∧ w' = w.alloc (.cells #[.int .i64 le, .int .i64 ta, .int .i64 co, .int .i64 lf, v] 85) := by
  go_enter Try.func98, Try.ntmps98
  go_wp2
  go_ret
  exact ⟨rfl, rfl⟩

theorem uses_2 (le ta : Int) (x : ByteArray) (w : World) : Calls Try.prog 104 #[.agg #[.int .i64 le, .int .i64 ta, .string x]] w fun e w' => e = .returned (.agg #[.bool false, .bool true, .bool true, .bool true, .bool false]) ∧ w' = (w.alloc (.cells #[.int .i64 le, .int .i64 ta, .string x] 87)).alloc (.cells #[.bool false, .bool true, .bool true, .bool true, .bool false] 59) := by
  go_enter Try.func104, Try.ntmps104
  go_wp2
  refine bodyPost_ret (v := .agg #[.bool false, .bool true, .bool true, .bool true, .bool false]) (by simp [results, Try.results104, go_sem]) rfl ⟨rfl, ?_⟩
  simp [go_sem]
theorem pause_2 (le ta : Int) (x : ByteArray) (w : World) : Calls Try.prog 102 #[.agg #[.int .i64 le, .int .i64 ta, .string x]] w fun e w' => e = .returned (.int .i64 4) ∧ w' = w.alloc (.cells #[.int .i64 le, .int .i64 ta, .string x] 87) := by
  go_enter Try.func102, Try.ntmps102
  go_wp2
  go_ret
  exact ⟨rfl, rfl⟩

set_option maxHeartbeats 2000000 in
theorem stateOf_x (nu ep : Int) (up : Bool) (st le ta co lf : Int) (a : Option Addr) (n c : Nat) (x : ByteArray) (si : Int) (w : World) (h0 : (st == 0) = false) (h1 : (st == 1) = false) (h2 : (st == 2) = false) :
    Calls Try.prog 32 #[.agg #[.int .i64 nu, .int .i64 ep, .bool up, .int .i64 st, .int .i64 le, .int .i64 ta, .int .i64 co, .int .i64 lf, .slice a n c, .string x, .int .i64 si]] w fun e w' => e = .returned .nilIface ∧ w' = w.alloc (.cells #[.int .i64 nu, .int .i64 ep, .bool up, .int .i64 st, .int .i64 le, .int .i64 ta, .int .i64 co, .int .i64 lf, .slice a n c, .string x, .int .i64 si] 27) := by
  go_enter Try.func32, Try.ntmps32
  go_wp2
  go_ret
  exact ⟨rfl, rfl⟩
theorem costHolds_t (co lf : Int) (r : Bool) (w : World) (hr : (inB co 1 20 && inB lf 1 co) = r) : Calls Try.prog 38 #[.int .i64 co, .int .i64 lf, .bool true] w fun e w' => e = .returned (.bool r) ∧ w' = w := by
  subst hr
  cases h1 : inB co 1 20 with
  | false =>
    go_enter Try.func38, Try.ntmps38
    go_wp2_with (go_at_call 33; refine (within_any _ _ _ _).mono ?_; rintro e w' ⟨rfl, rfl⟩)
    go_ret
    exact ⟨rfl, rfl⟩
  | true =>
    go_enter Try.func38, Try.ntmps38
    go_wp2_with (go_at_call 33; refine (within_any _ _ _ _).mono ?_; rintro e w' ⟨rfl, rfl⟩)
    go_ret
    exact ⟨rfl, rfl⟩
theorem costHolds_f (co lf : Int) (r : Bool) (w : World) (hr : ((co == 0) && (lf == 0)) = r) : Calls Try.prog 38 #[.int .i64 co, .int .i64 lf, .bool false] w fun e w' => e = .returned (.bool r) ∧ w' = w := by
  subst hr
  cases h1 : (co == 0) with
  | false =>
    go_enter Try.func38, Try.ntmps38
    go_wp2
    go_ret
    exact ⟨rfl, rfl⟩
  | true =>
    go_enter Try.func38, Try.ntmps38
    go_wp2
    go_ret
    exact ⟨rfl, rfl⟩
end Go.Proofs.Ytlpmcjlcmjlbeaa
