
/-
  impl.stateOf; costHolds.
-/
import Derived.Test.YtillccmllabbfaaMsgV0
import Derived.Handy
namespace Go.Proofs.Ytillccmllabbfaa
open Go.RowKit

def fS : Value := .iface 98 (.agg #[])
def bS (le ta co lf : Int) (v : Value) : Value := .iface 100 (.agg #[.int .i64 le, .int .i64 ta, .int .i64 co, .int .i64 lf, v])
def tS (le ta : Int) (x : ByteArray) : Value := .iface 102 (.agg #[.int .i64 le, .int .i64 ta, .string x])

set_option maxHeartbeats 2000000 in
theorem stateOf_0 (nu ep : Int) (up : Bool) (le ta co lf : Int) (a : Option Addr) (n c : Nat) (x : ByteArray) (si : Int) (w : World) :
    Calls Try.prog 44 #[.agg #[.int .i64 nu, .int .i64 ep, .bool up, .int .i64 0, .int .i64 le, .int .i64 ta, .int .i64 co, .int .i64 lf, .slice a n c, .string x, .int .i64 si]] w fun e w' => e = .returned (.iface 98 (.agg #[])) ∧ w' = w.alloc (.cells #[.int .i64 nu, .int .i64 ep, .bool up, .int .i64 0, .int .i64 le, .int .i64 ta, .int .i64 co, .int .i64 lf, .slice a n c, .string x, .int .i64 si] 30) := by
  go_enter Try.func44, Try.ntmps44
  go_wp2
  go_ret
  exact ⟨rfl, rfl⟩

set_option maxHeartbeats 2000000 in
theorem stateOf_1 (nu ep : Int) (up : Bool) (le ta co lf : Int) (a : Option Addr) (n c : Nat) (x : ByteArray) (si : Int) (w : World) :
    Calls Try.prog 44 #[.agg #[.int .i64 nu, .int .i64 ep, .bool up, .int .i64 1, .int .i64 le, .int .i64 ta, .int .i64 co, .int .i64 lf, .slice a n c, .string x, .int .i64 si]] w fun e w' => e = .returned (.iface 100 (.agg #[.int .i64 le, .int .i64 ta, .int .i64 co, .int .i64 lf, .slice a n c])) ∧ w' = w.alloc (.cells #[.int .i64 nu, .int .i64 ep, .bool up, .int .i64 1, .int .i64 le, .int .i64 ta, .int .i64 co, .int .i64 lf, .slice a n c, .string x, .int .i64 si] 30) := by
  go_enter Try.func44, Try.ntmps44
  go_wp2
  go_ret
  exact ⟨rfl, rfl⟩

set_option maxHeartbeats 2000000 in
theorem stateOf_2 (nu ep : Int) (up : Bool) (le ta co lf : Int) (a : Option Addr) (n c : Nat) (x : ByteArray) (si : Int) (w : World) :
    Calls Try.prog 44 #[.agg #[.int .i64 nu, .int .i64 ep, .bool up, .int .i64 2, .int .i64 le, .int .i64 ta, .int .i64 co, .int .i64 lf, .slice a n c, .string x, .int .i64 si]] w fun e w' => e = .returned (.iface 102 (.agg #[.int .i64 le, .int .i64 ta, .string x])) ∧ w' = w.alloc (.cells #[.int .i64 nu, .int .i64 ep, .bool up, .int .i64 2, .int .i64 le, .int .i64 ta, .int .i64 co, .int .i64 lf, .slice a n c, .string x, .int .i64 si] 30) := by
  go_enter Try.func44, Try.ntmps44
  go_wp2
  go_ret
  exact ⟨rfl, rfl⟩

theorem uses_0 (w : World) : Calls Try.prog 88 #[.agg #[]] w fun e w' => e = .returned (.agg #[.bool false, .bool false, .bool false, .bool false, .bool false]) ∧ w' = (w.alloc (.cells #[] 98)).alloc (.cells #[.bool false, .bool false, .bool false, .bool false, .bool false] 79) := by
  go_enter Try.func88, Try.ntmps88
  go_wp2
  refine bodyPost_ret (v := .agg #[.bool false, .bool false, .bool false, .bool false, .bool false]) (by simp [results, Try.results88, go_sem]) rfl ⟨rfl, ?_⟩
  simp [go_sem]
theorem pause_0 (w : World) : Calls Try.prog 86 #[.agg #[]] w fun e w' => e = .returned (.int .i64 3) ∧ w' = w.alloc (.cells #[] 98) := by
  go_enter Try.func86, Try.ntmps86
  go_wp2
  go_ret
  exact ⟨rfl, rfl⟩

theorem uses_1 (le ta co lf : Int) (v : Value) (w : World) : Calls Try.prog 92 #[.agg #[.int .i64 le, .int .i64 ta, .int .i64 co, .int .i64 lf, v]] w fun e w' => e = .returned (.agg #[.bool false, .bool true, .bool true, .bool false, .bool true]) ∧ w' = (w.alloc (.cells #[.int .i64 le, .int .i64 ta, .int .i64 co, .int .i64 lf, v] 100)).alloc (.cells #[.bool false, .bool true, .bool true, .bool false, .bool true] 79) := by
  go_enter Try.func92, Try.ntmps92
  go_wp2
  refine bodyPost_ret (v := .agg #[.bool false, .bool true, .bool true, .bool false, .bool true]) (by simp [results, Try.results92, go_sem]) rfl ⟨rfl, ?_⟩
  simp [go_sem]
theorem pause_1 (le ta co lf : Int) (v : Value) (w : World) : Calls Try.prog 90 #[.agg #[.int .i64 le, .int .i64 ta, .int .i64 co, .int .i64 lf, v]] w fun e w' => e = .returned (.int .i64 4) ∧ w' = w.alloc (.cells #[.int .i64 le, .int .i64 ta, .int .i64 co, .int .i64 lf, v] 100) := by
  go_enter Try.func90, Try.ntmps90
  go_wp2
  go_ret
  exact ⟨rfl, rfl⟩

theorem uses_2 (le ta : Int) (x : ByteArray) (w : World) : Calls Try.prog 96 #[.agg #[.int .i64 le, .int .i64 ta, .string x]] w fun e w' => e = .returned (.agg #[.bool false, .bool true, .bool true, .bool true, .bool false]) ∧ w' = (w.alloc (.cells #[.int .i64 le, .int .i64 ta, .string x] 102)).alloc (.cells #[.bool false, .bool true, .bool true, .bool true, .bool false] 79) := by
  go_enter Try.func96, Try.ntmps96
  go_wp2
  refine bodyPost_ret (v := .agg #[.bool false, .bool true, .bool true, .bool true, .bool false]) (by simp [results, Try.results96, go_sem]) rfl ⟨rfl, ?_⟩
  simp [go_sem]
theorem pause_2 (le ta : Int) (x : ByteArray) (w : World) : Calls Try.prog 94 #[.agg #[.int .i64 le, .int .i64 ta, .string x]] w fun e w' => e = .returned (.int .i64 4) ∧ w' = w.alloc (.cells #[.int .i64 le, .int .i64 ta, .string x] 102) := by
  go_enter Try.func94, Try.ntmps94
  go_wp2
  go_ret
  exact ⟨rfl, rfl⟩

set_option maxHeartbeats 2000000 in
theorem stateOf_x (nu ep : Int) (up : Bool) (st le ta co lf : Int) (a : Option Addr) (n c : Nat) (x : ByteArray) (si : Int) (w : World) (h0 : (st == 0) = false) (h1 : (st == 1) = false) (h2 : (st == 2) = false) :
    Calls Try.prog 44 #[.agg #[.int .i64 nu, .int .i64 ep, .bool up, .int .i64 st, .int .i64 le, .int .i64 ta, .int .i64 co, .int .i64 lf, .slice a n c, .string x, .int .i64 si]] w fun e w' => e = .returned .nilIface ∧ w' = w.alloc (.cells #[.int .i64 nu, .int .i64 ep, .bool up, .int .i64 st, .int .i64 le, .int .i64 ta, .int .i64 co, .int .i64 lf, .slice a n c, .string x, .int .i64 si] 30) := by
  go_enter Try.func44, Try.ntmps44
  go_wp2
  go_ret
  exact ⟨rfl, rfl⟩
theorem costHolds_t (co lf : Int) (r : Bool) (w : World) (hr : (inB co 1 20 && inB lf 1 co) = r) : Calls Try.prog 50 #[.int .i64 co, .int .i64 lf, .bool true] w fun e w' => e = .returned (.bool r) ∧ w' = w := by
  subst hr
  cases h1 : inB co 1 20 with
  | false =>
    go_enter Try.func50, Try.ntmps50
    go_wp2_with (go_at_call 45; refine (within_any _ _ _ _).mono ?_; rintro e w' ⟨rfl, rfl⟩)
    go_ret
    exact ⟨rfl, rfl⟩
  | true =>
    go_enter Try.func50, Try.ntmps50
    go_wp2_with (go_at_call 45; refine (within_any _ _ _ _).mono ?_; rintro e w' ⟨rfl, rfl⟩)
    go_ret
    exact ⟨rfl, rfl⟩
theorem costHolds_f (co lf : Int) (r : Bool) (w : World) (hr : ((co == 0) && (lf == 0)) = r) : Calls Try.prog 50 #[.int .i64 co, .int .i64 lf, .bool false] w fun e w' => e = .returned (.bool r) ∧ w' = w := by
  subst hr
  cases h1 : (co == 0) with
  | false =>
    go_enter Try.func50, Try.ntmps50
    go_wp2
    go_ret
    exact ⟨rfl, rfl⟩
  | true =>
    go_enter Try.func50, Try.ntmps50
    go_wp2
    go_ret
    exact ⟨rfl, rfl⟩
end Go.Proofs.Ytillccmllabbfaa
