/-
  impl.stateOf; costHolds.
-/
import Derived.Test.YtjgoeccamoeogaaMsgV0
import Derived.Handy
namespace Go.Proofs.Ytjgoeccamoeogaa
open Go.RowKit

def fS : Value := .iface 87 (.agg #[])
def bS (le ta co lf : Int) (v : Value) : Value := .iface 89 (.agg #[.int .i64 le, .int .i64 ta, .int .i64 co, .int .i64 lf, v])
def tS (le ta : Int) (x : ByteArray) : Value := .iface 91 (.agg #[.int .i64 le, .int .i64 ta, .string x])

set_option maxHeartbeats 2000000 in
theorem stateOf_0 (nu ep : Int) (up : Bool) (le ta co lf : Int) (a : Option Addr) (n c : Nat) (x : ByteArray) (si : Int) (w : World) :
    Calls Try.prog 32 #[.agg #[.int .i64 nu, .int .i64 ep, .bool up, .int .i64 0, .int .i64 le, .int .i64 ta, .int .i64 co, .int .i64 lf, .slice a n c, .string x, .int .i64 si]] w fun e w' => e = .returned (.iface 87 (.agg #[])) ∧ w' = w.alloc (.cells #[.int .i64 nu, .int .i64 ep, .bool up, .int .i64 0, .int .i64 le, .int .i64 ta, .int .i64 co, .int .i64 lf, .slice a n c, .string x, .int .i64 si] 27) := by
  go_enter Try.func32, Try.ntmps32
  go_wp2
  go_ret
  exact ⟨rfl, rfl⟩

set_option maxHeartbeats 2000000 in
theorem stateOf_1 (nu ep : Int) (up : Bool) (le ta co lf : Int) (a : Option Addr) (n c : Nat) (x : ByteArray) (si : Int) (w : World) :
    Calls Try.prog 32 #[.agg #[.int .i64 nu, .int .i64 ep, .bool up, .int .i64 1, .int .i64 le, .int .i64 ta, .int .i64 co, .int .i64 lf, .slice a n c, .string x, .int .i64 si]] w fun e w' => e = .returned (.iface 89 (.agg #[.int .i64 le, .int .i64 ta, .int .i64 co, .int .i64 lf, .slice a n c])) ∧ w' = w.alloc (.cells #[.int .i64 nu, .int .i64 ep, .bool up, .int .i64 1, .int .i64 le, .int .i64 ta, .int .i64 co, .int .i64 lf, .slice a n c, .string x, .int .i64 si] 27) := by
  go_enter Try.func32, Try.ntmps32
  go_wp2
  go_ret
  exact ⟨rfl, rfl⟩

set_option maxHeartbeats 2000000 in
theorem stateOf_2 (nu ep : Int) (up : Bool) (le ta co lf : Int) (a : Option Addr) (n c : Nat) (x : ByteArray) (si : Int) (w : World) :
    Calls Try.prog 32 #[.agg #[.int .i64 nu, .int .i64 ep, .bool up, .int .i64 2, .int .i64 le, .int .i64 ta, .int .i64 co, .int .i64 lf, .slice a n c, .string x, .int .i64 si]] w fun e w' => e = .returned (.iface 91 (.agg #[.int .i64 le, .int .i64 ta, .string x])) ∧ w' = w.alloc (.cells #[.int .i64 nu, .int .i64 ep, .bool up, .int .i64 2, .int .i64 le, .int .i64 ta, .int .i64 co, .int .i64 lf, .slice a n c, .string x, .int .i64 si] 27) := by
  go_enter Try.func32, Try.ntmps32
  go_wp2
  go_ret
  exact ⟨rfl, rfl⟩

theorem uses_0 (w : World) : Calls Try.prog 95 #[.agg #[]] w fun e w' => e = .returned (.agg #[.bool false, .bool false, .bool false, .bool false, .bool false]) ∧ w' = (w.alloc (.cells #[] 87)).alloc (.cells #[.bool false, .bool false, .bool false, .bool false, .bool false] 59) := by
  go_enter Try.func95, Try.ntmps95
  go_wp2
  refine bodyPost_ret (v := .agg #[.bool false, .bool false, .bool false, .bool false, .bool false]) (by simp [results, Try.results95, go_sem]) rfl ⟨rfl, ?_⟩
  simp [go_sem]
theorem pause_0 (w : World) : Calls Try.prog 93 #[.agg #[]] w fun e w' => e = .returned (.int .i64 3) ∧ w' = w.alloc (.cells #[] 87) := by
  go_enter Try.func93, Try.ntmps93
  go_wp2
  go_ret
  exact ⟨rfl, rfl⟩

theorem uses_1 (le ta co lf : Int) (v : Value) (w : World) : Calls Try.prog 99 #[.agg #[.int .i64 le, .int .i64 ta, .int .i64 co, .int .i64 lf, v]] w fun e w' => e = .returned (.agg #[.bool false, .bool true, .bool true, .bool false, .bool true]) ∧ w' = (w.alloc (.cells #[.int .i64 le, .int .i64 ta, .int .i64 co, .int .i64 lf, v] 89)).alloc (.cells #[.bool false, .bool true, .bool true, .bool false, .bool true] 59) := by
  go_enter Try.func99, Try.ntmps99
  go_wp2
  refine bodyPost_ret (v := .agg #[.bool false, .bool true, .bool true, .bool false, .bool true]) (by simp [results, Try.results99, go_sem]) rfl ⟨rfl, ?_⟩
  simp [go_sem]
theorem pause_1 (le ta co lf : Int) (v : Value) (w : World) : Calls Try.prog 97 #[.agg #[.int .i64 le, .int .i64 ta, .int .i64 co, .int .i64 lf, v]] w fun e w' => e = .returned (.int .i64 4) ∧ w' = w.alloc (.cells #[.int .i64 le, .int .i64 ta, .int .i64 co, .int .i64 lf, v] 89) := by
  go_enter Try.func97, Try.ntmps97
  go_wp2
  go_ret
  exact ⟨rfl, rfl⟩

theorem uses_2 (le ta : Int) (x : ByteArray) (w : World) : Calls Try.prog 103 #[.agg #[.int .i64 le, .int .i64 ta, .string x]] w fun e w' => e = .returned (.agg #[.bool false, .bool true, .bool true, .bool true, .bool false]) ∧ w' = (w.alloc (.cells #[.int .i64 le, .int .i64 ta, .string x] 91)).alloc (.cells #[.bool false, .bool true, .bool true, .bool true, .bool false] 59) := by
  go_enter Try.func103, Try.ntmps103
  go_wp2
  refine bodyPost_ret (v := .agg #[.bool false, .bool true, .bool true, .bool true, .bool false]) (by simp [results, Try.results103, go_sem]) rfl ⟨rfl, ?_⟩
  simp [go_sem]
theorem pause_2 (le ta : Int) (x : ByteArray) (w : World) : Calls Try.prog 101 #[.agg #[.int .i64 le, .int .i64 ta, .string x]] w fun e w' => e = .returned (.int .i64 4) ∧ w' = w.alloc (.cells #[.int .i64 le, .int .i64 ta, .string x] 91) := by
  go_enter Try.func101, Try.ntmps101
  go_wp2
  go_ret
  exact ⟨rfl, rfl⟩

set_option maxHeartbeats 2000000 in
theorem stateOf_x (nu ep : Int) (up : Bool) (st le ta co lf : Int) (a : Option Addr) (n c : Nat) (x : ByteArray) (si : Int) (w : World) (h0 : (st == 0) = false) (h1 : (st == 1) = false) (h2 : (st == 2) = false) :
    Calls Try.prog 32 #[.agg #[.int .i64 nu, .int .i64 ep, .bool up, .int .i64 st, .int .i64 le, .int .i64 ta, .int .i64 co, .int .i64 lf, .slice a n c, .string x, .int .i64 si]] w fun e w' => e = .returned .nilIface ∧ w' = w.alloc (.cells #[.int .i64 nu, .int .i64 ep, .bool up, .int .i64 st, .int .i64 le, .int .i64 ta, .int .i64 co, .int .i64 lf, .slice a n c, .string x, .int .i64 si] 27) := by
  go_enter Try.func32, Try.ntmps32
  go_wp2
  go_ret
  exact ⟨rfl, rfl⟩
theorem costHolds_t (co lf : Int) (r : Bool) (w : World) (hr : (inB co 1 20 && inB lf 1 co) = r) : Calls Try.prog 38 #[.int .i64 co, .int .i64 lf, .bool true] w fun e w' => e = .returned (.bool r) ∧ w' = w := by
  subst hr
  cases h1 : inB co 1 20 with
  | false =>
    go_enter Try.func38, Try.ntmps38
    go_wp2_with (go_at_call 33; refine (within_any _ _ _ _).mono ?_; rintro e w' ⟨rfl, rfl⟩)
    go_ret
    exact ⟨rfl, rfl⟩
  | true =>
    go_enter Try.func38, Try.ntmps38
    go_wp2_with (go_at_call 33; refine (within_any _ _ _ _).mono ?_; rintro e w' ⟨rfl, rfl⟩)
    go_ret
    exact ⟨rfl, rfl⟩
theorem costHolds_f (co lf : Int) (r : Bool) (w : World) (hr : ((co == 0) && (lf == 0)) = r) : Calls Try.prog 38 #[.int .i64 co, .int .i64 lf, .bool false] w fun e w' => e = .returned (.bool r) ∧ w' = w := by
  subst hr
  cases h1 : (co == 0) with
  | false =>
    go_enter Try.func38, Try.ntmps38
    go_wp2
    go_ret
    exact ⟨rfl, rfl⟩
  | true =>
    go_enter Try.func38, Try.ntmps38
    go_wp2
    go_ret
    exact ⟨rfl, rfl⟩
end Go.Proofs.Ytjgoeccamoeogaa
