import Derived.Test.YtlpmcjlcmjlbeaaQWki
import Derived.Deep.DeepCutAuto
import Derived.Deep.RegionLaw
namespace Go.Proofs.Ytlpmcjlcmjlbeaa
open Go.RowKit

/-- A texts' list that a call owns, and as what it reads. -/
theorem Own.strW {B : Nat} {w : World} {v : Value} {n : Nat} {ss : List ByteArray} (h : Own B w 1 v n (ss.map Value.string)) (hz : ∀ s ∈ ss, s.size ≤ maxLen) : ∃ a b o c, v = .slice a n c ∧ StrsAt w a b o n ss := by
  rcases h with ⟨rfl, rfl, he⟩ | ⟨g, o, cap, rfl, hc⟩
  · have : ss = [] := by simpa using he
    subst this
    exact ⟨none, 0, 0, 0, rfl, fun h => absurd h (by omega), rfl, Nat.zero_le _, fun h => absurd h (by omega), fun j hj => absurd hj (by omega), by simp⟩
  · exact ⟨_, g, o, cap, rfl, StrsAt.ofOwn hc hz⟩

set_option maxHeartbeats 2000000 in
theorem inState_0 (nu ep : Int) (up : Bool) (st le ta co lf : Int) (a : Option Addr) (n c : Nat) (x : ByteArray) (si : Int) (w : World) :
    Calls Try.prog 44 #[.agg #[.int .i64 nu, .int .i64 ep, .bool up, .int .i64 st, .int .i64 le, .int .i64 ta, .int .i64 co, .int .i64 lf, .slice a n c, .string x, .int .i64 si], .iface 83 (.agg #[])] w fun e w' => e = .returned (.agg #[.int .i64 nu, .int .i64 ep, .bool up, .int .i64 0, .int .i64 0, .int .i64 0, .int .i64 0, .int .i64 0, .slice none 0 0, .string ⟨#[]⟩, .int .i64 si]) ∧ Below w.heap.size w w' := by
  go_enter Try.func44, Try.ntmps44
  go_wp2
  go_region
  go_wp2
  exact bodyPost_ret (v := .agg #[.int .i64 nu, .int .i64 ep, .bool up, .int .i64 0, .int .i64 0, .int .i64 0, .int .i64 0, .int .i64 0, .slice none 0 0, .string ⟨#[]⟩, .int .i64 si]) (by simp [results, Try.results44, go_sem]) rfl ⟨rfl, (by repeat (first | exact Below.refl _ _ | refine Below.alloc ?_ (by simp <;> omega) _ | refine Below.drew ?_ | refine below_drewN ?_ _))⟩

set_option maxHeartbeats 2000000 in
theorem inState_2 (nu ep : Int) (up : Bool) (st le ta co lf : Int) (a : Option Addr) (n c : Nat) (x : ByteArray) (si : Int) (l2 t2 : Int) (x2 : ByteArray) (w : World) :
    Calls Try.prog 44 #[.agg #[.int .i64 nu, .int .i64 ep, .bool up, .int .i64 st, .int .i64 le, .int .i64 ta, .int .i64 co, .int .i64 lf, .slice a n c, .string x, .int .i64 si], .iface 87 (.agg #[.int .i64 l2, .int .i64 t2, .string x2])] w fun e w' => e = .returned (.agg #[.int .i64 nu, .int .i64 ep, .bool up, .int .i64 2, .int .i64 l2, .int .i64 t2, .int .i64 0, .int .i64 0, .slice none 0 0, .string x2, .int .i64 si]) ∧ Below w.heap.size w w' := by
  go_enter Try.func44, Try.ntmps44
  go_wp2
  go_region
  go_wp2
  exact bodyPost_ret (v := .agg #[.int .i64 nu, .int .i64 ep, .bool up, .int .i64 2, .int .i64 l2, .int .i64 t2, .int .i64 0, .int .i64 0, .slice none 0 0, .string x2, .int .i64 si]) (by simp [results, Try.results44, go_sem]) rfl ⟨rfl, (by repeat (first | exact Below.refl _ _ | refine Below.alloc ?_ (by simp <;> omega) _ | refine Below.drew ?_ | refine below_drewN ?_ _))⟩

set_option maxHeartbeats 2000000 in
theorem l3Free_any (nu ep : Int) (up : Bool) (st le ta co lf : Int) (a : Option Addr) (n c : Nat) (x : ByteArray) (si : Int) (s2 : Int) (w : World) :
    Calls Try.prog 40 #[.agg #[.int .i64 nu, .int .i64 ep, .bool up, .int .i64 st, .int .i64 le, .int .i64 ta, .int .i64 co, .int .i64 lf, .slice a n c, .string x, .int .i64 si], .int .i64 s2] w fun e w' => e = .returned (.agg #[.int .i64 nu, .int .i64 ep, .bool up, .int .i64 0, .int .i64 0, .int .i64 0, .int .i64 0, .int .i64 0, .slice none 0 0, .string ⟨#[]⟩, .int .i64 s2]) ∧ Below w.heap.size w w' := by
  go_enter Try.func40, Try.ntmps40
  go_wp2
  exact bodyPost_ret (v := .agg #[.int .i64 nu, .int .i64 ep, .bool up, .int .i64 0, .int .i64 0, .int .i64 0, .int .i64 0, .int .i64 0, .slice none 0 0, .string ⟨#[]⟩, .int .i64 s2]) (by simp [results, Try.results40, go_sem]) rfl ⟨rfl, (by repeat (first | exact Below.refl _ _ | refine Below.alloc ?_ (by simp <;> omega) _ | refine Below.drew ?_ | refine below_drewN ?_ _))⟩
end Go.Proofs.Ytlpmcjlcmjlbeaa
