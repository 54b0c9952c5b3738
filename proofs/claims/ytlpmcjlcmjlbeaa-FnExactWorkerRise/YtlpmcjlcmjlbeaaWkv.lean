
/-
  impl.ValidWorker.
-/
import Derived.Test.YtlpmcjlcmjlbeaaWkv0
import Derived.Test.YtlpmcjlcmjlbeaaWkv1
import Derived.Test.YtlpmcjlcmjlbeaaWkv2
namespace Go.Proofs.Ytlpmcjlcmjlbeaa
open Go.RowKit
set_option maxHeartbeats 2000000 in
theorem iVal_x (nu ep : Int) (up : Bool) (st le ta co lf : Int) (a : Option Addr) (n c : Nat) (ss : List ByteArray) (x : ByteArray) (si : Int) (w : World) (h0 : (st == 0) = false) (h1 : (st == 1) = false) (h2 : (st == 2) = false) :
    Calls Try.prog 10 #[.agg #[.int .i64 nu, .int .i64 ep, .bool up, .int .i64 st, .int .i64 le, .int .i64 ta, .int .i64 co, .int .i64 lf, .slice a n c, .string x, .int .i64 si]] w fun e' w' => RetB e' (vW nu ep up st le ta co lf ss x.size si) ∧ Below w.heap.size w w' := by
  have HF : Hid (¬ vW nu ep up st le ta co lf ss x.size si) := fun hv => by
    rcases vW_st hv with rfl | rfl | rfl
    · simp at h0
    · simp at h1
    · simp at h2
  go_enter Try.func10, Try.ntmps10
  go_wp2_with (go_at_call 32; refine (stateOf_x _ _ _ _ _ _ _ _ _ _ _ _ _ _ h0 h1 h2).mono ?_; rintro e' w' ⟨rfl, rfl⟩)
  go_ret
  exact ⟨RetB.f HF.out, (by repeat (first | exact Below.refl _ _ | refine Below.alloc ?_ (by simp <;> omega) _ | refine Below.drew ?_))⟩
theorem iVal_any (nu ep : Int) (up : Bool) (st le ta co lf : Int) (a : Option Addr) (b o n c : Nat) (ss : List ByteArray) (x : ByteArray) (si : Int) (w : World) (h : StrsAt w a b o n ss) :
    Calls Try.prog 10 #[.agg #[.int .i64 nu, .int .i64 ep, .bool up, .int .i64 st, .int .i64 le, .int .i64 ta, .int .i64 co, .int .i64 lf, .slice a n c, .string x, .int .i64 si]] w fun e' w' => RetB e' (vW nu ep up st le ta co lf ss x.size si) ∧ Below w.heap.size w w' := by
  by_cases h0 : st = 0
  · subst h0; exact iVal_0 nu ep up le ta co lf a b o n c ss x si w h
  by_cases h1 : st = 1
  · subst h1; exact iVal_1 nu ep up le ta co lf a b o n c ss x si w h
  by_cases h2 : st = 2
  · subst h2; exact iVal_2 nu ep up le ta co lf a b o n c ss x si w h
  exact iVal_x nu ep up st le ta co lf a n c ss x si w (by simpa using h0) (by simpa using h1) (by simpa using h2)
end Go.Proofs.Ytlpmcjlcmjlbeaa
