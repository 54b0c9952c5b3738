
/-
  impl.stateOf; costHolds.
-/
import Derived.Test.YthogdlabinnndaaDoorMsgV0
import Derived.Handy
namespace Go.Proofs.YthogdlabinnndaaDoor
open Go.RowKit

def fS : Value := .iface 97 (.agg #[])
def bS (le ta co lf : Int) (v : Value) : Value := .iface 95 (.agg #[.int .i64 le, .int .i64 ta, .int .i64 co, .int .i64 lf, v])
def tS (le ta : Int) (x : ByteArray) : Value := .iface 104 (.agg #[.int .i64 le, .int .i64 ta, .string x])

set_option maxHeartbeats 2000000 in
theorem stateOf_0 (nu ep : Int) (up : Bool) (le ta co lf : Int) (a : Option Addr) (n c : Nat) (x : ByteArray) (si : Int) (w : World) :
    Calls Tryd.prog 48 #[.agg #[.int .i64 nu, .int .i64 ep, .bool up, .int .i64 0, .int .i64 le, .int .i64 ta, .int .i64 co, .int .i64 lf, .slice a n c, .string x, .int .i64 si]] w fun e w' => e = .returned (.iface 97 (.agg #[])) ∧ w' = w.alloc (.cells #[.int .i64 nu, .int .i64 ep, .bool up, .int .i64 0, .int .i64 le, .int .i64 ta, .int .i64 co, .int .i64 lf, .slice a n c, .string x, .int .i64 si] 33) := by
  go_enter Tryd.func48, Tryd.ntmps48
  go_wp2
  go_ret
  exact ⟨rfl, rfl⟩

set_option maxHeartbeats 2000000 in
theorem stateOf_1 (nu ep : Int) (up : Bool) (le ta co lf : Int) (a : Option Addr) (n c : Nat) (x : ByteArray) (si : Int) (w : World) :
    Calls Tryd.prog 48 #[.agg #[.int .i64 nu, .int .i64 ep, .bool up, .int .i64 1, .int .i64 le, .int .i64 ta, .int .i64 co, .int .i64 lf, .slice a n c, .string x, .int .i64 si]] w fun e w' => e = .returned (.iface 95 (.agg #[.int .i64 le, .int .i64 ta, .int .i64 co, .int .i64 lf, .slice a n c])) ∧ w' = w.alloc (.cells #[.int .i64 nu, .int .i64 ep, .bool up, .int .i64 1, .int .i64 le, .int .i64 ta, .int .i64 co, .int .i64 lf, .slice a n c, .string x, .int .i64 si] 33) := by
  go_enter Tryd.func48, Tryd.ntmps48
  go_wp2
  go_ret
  exact ⟨rfl, rfl⟩

set_option maxHeartbeats 2000000 in
theorem stateOf_2 (nu ep : Int) (up : Bool) (le ta co lf : Int) (a : Option Addr) (n c : Nat) (x : ByteArray) (si : Int) (w : World) :
    Calls Tryd.prog 48 #[.agg #[.int .i64 nu, .int .i64 ep, .bool up, .int .i64 2, .int .i64 le, .int .i64 ta, .int .i64 co, .int .i64 lf, .slice a n c, .string x, .int .i64 si]] w fun e w' => e = .returned (.iface 104 (.agg #[.int .i64 le, .int .i64 ta, .string x])) ∧ w' = w.alloc (.cells #[.int .i64 nu, .int .i64 ep, .bool up, .int .i64 2, .int .i64 le, .int .i64 ta, .int .i64 co, .int .i64 lf, .slice a n c, .string x, .int .i64 si] 33) := by
  go_enter Tryd.func48, Tryd.ntmps48
  go_wp2
  go_ret
  exact ⟨rfl, rfl⟩

theorem uses_0 (w : World) : Calls Tryd.prog 95 #[.agg #[]] w fun e w' => e = .returned (.agg #[.bool false, .bool false, .bool false, .bool false, .bool false]) ∧ w' = (w.alloc (.cells #[] 97)).alloc (.cells #[.bool false, .bool false, .bool false, .bool false, .bool false] 85) := by
  go_enter Tryd.func95, Tryd.ntmps95
  go_wp2
  refine bodyPost_ret (v := .agg #[.bool false, .bool false, .bool false, .bool false, .bool false]) (by simp [results, Tryd.results95, go_sem]) rfl ⟨rfl, ?_⟩
  simp [go_sem]
theorem uses_1 (le ta co lf : Int) (v : Value) (w : World) : Calls Tryd.prog 91 #[.agg #[.int .i64 le, .int .i64 ta, .int .i64 co, .int .i64 lf, v]] w fun e w' => e = .returned (.agg #[.bool false, .bool true, .bool true, .bool false, .bool true]) ∧ w' = (w.alloc (.cells #[.int .i64 le, .int .i64 ta, .int .i64 co, .int .i64 lf, v] 95)).alloc (.cells #[.bool false, .bool true, .bool true, .bool false, .bool true] 85) := by
  go_enter Tryd.func91, Tryd.ntmps91
  go_wp2
  refine bodyPost_ret (v := .agg #[.bool false, .bool true, .bool true, .bool false, .bool true]) (by simp [results, Tryd.results91, go_sem]) rfl ⟨rfl, ?_⟩
  simp [go_sem]
theorem uses_2 (le ta : Int) (x : ByteArray) (w : World) : Calls Tryd.prog 99 #[.agg #[.int .i64 le, .int .i64 ta, .string x]] w fun e w' => e = .returned (.agg #[.bool false, .bool true, .bool true, .bool true, .bool false]) ∧ w' = (w.alloc (.cells #[.int .i64 le, .int .i64 ta, .string x] 104)).alloc (.cells #[.bool false, .bool true, .bool true, .bool true, .bool false] 85) := by
  go_enter Tryd.func99, Tryd.ntmps99
  go_wp2
  refine bodyPost_ret (v := .agg #[.bool false, .bool true, .bool true, .bool true, .bool false]) (by simp [results, Tryd.results99, go_sem]) rfl ⟨rfl, ?_⟩
  simp [go_sem]
set_option maxHeartbeats 2000000 in
theorem stateOf_x (nu ep : Int) (up : Bool) (st le ta co lf : Int) (a : Option Addr) (n c : Nat) (x : ByteArray) (si : Int) (w : World) (h0 : (st == 0) = false) (h1 : (st == 1) = false) (h2 : (st == 2) = false) :
    Calls Tryd.prog 48 #[.agg #[.int .i64 nu, .int .i64 ep, .bool up, .int .i64 st, .int .i64 le, .int .i64 ta, .int .i64 co, .int .i64 lf, .slice a n c, .string x, .int .i64 si]] w fun e w' => e = .returned .nilIface ∧ w' = w.alloc (.cells #[.int .i64 nu, .int .i64 ep, .bool up, .int .i64 st, .int .i64 le, .int .i64 ta, .int .i64 co, .int .i64 lf, .slice a n c, .string x, .int .i64 si] 33) := by
  go_enter Tryd.func48, Tryd.ntmps48
  go_wp2
  go_ret
  exact ⟨rfl, rfl⟩
theorem costHolds_t (co lf : Int) (r : Bool) (w : World) (hr : (inB co 1 20 && inB lf 1 co) = r) : Calls Tryd.prog 54 #[.int .i64 co, .int .i64 lf, .bool true] w fun e w' => e = .returned (.bool r) ∧ w' = w := by
  subst hr
  cases h1 : inB co 1 20 with
  | false =>
    go_enter Tryd.func54, Tryd.ntmps54
    go_wp2_with (go_at_call 49; refine (within_any _ _ _ _).mono ?_; rintro e w' ⟨rfl, rfl⟩)
    go_ret
    exact ⟨rfl, rfl⟩
  | true =>
    go_enter Tryd.func54, Tryd.ntmps54
    go_wp2_with (go_at_call 49; refine (within_any _ _ _ _).mono ?_; rintro e w' ⟨rfl, rfl⟩)
    go_ret
    exact ⟨rfl, rfl⟩
theorem costHolds_f (co lf : Int) (r : Bool) (w : World) (hr : ((co == 0) && (lf == 0)) = r) : Calls Tryd.prog 54 #[.int .i64 co, .int .i64 lf, .bool false] w fun e w' => e = .returned (.bool r) ∧ w' = w := by
  subst hr
  cases h1 : (co == 0) with
  | false =>
    go_enter Tryd.func54, Tryd.ntmps54
    go_wp2
    go_ret
    exact ⟨rfl, rfl⟩
  | true =>
    go_enter Tryd.func54, Tryd.ntmps54
    go_wp2
    go_ret
    exact ⟨rfl, rfl⟩
end Go.Proofs.YthogdlabinnndaaDoor
