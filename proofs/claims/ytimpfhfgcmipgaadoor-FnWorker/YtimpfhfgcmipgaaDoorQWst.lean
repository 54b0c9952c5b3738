
import Derived.Test.YtimpfhfgcmipgaaDoorQWki
import Derived.Deep.DeepCutAuto
import Derived.Deep.RegionLaw
namespace Go.Proofs.YtimpfhfgcmipgaaDoor
open Go.RowKit

set_option maxHeartbeats 2000000 in
theorem inState_0 (nu ep : Int) (up : Bool) (st le ta co lf : Int) (a : Option Addr) (n c : Nat) (x : ByteArray) (si : Int) (w : World) :
    Calls Tryd.prog 42 #[.agg #[.int .i64 nu, .int .i64 ep, .bool up, .int .i64 st, .int .i64 le, .int .i64 ta, .int .i64 co, .int .i64 lf, .slice a n c, .string x, .int .i64 si], .iface 74 (.agg #[])] w fun e w' => e = .returned (.agg #[.int .i64 nu, .int .i64 ep, .bool up, .int .i64 0, .int .i64 0, .int .i64 0, .int .i64 0, .int .i64 0, .slice none 0 0, .string ⟨#[]⟩, .int .i64 si]) ∧ Below w.heap.size w w' := by
  go_enter Tryd.func42, Tryd.ntmps42
  go_wp2
  go_region
  go_wp2
  exact bodyPost_ret (v := .agg #[.int .i64 nu, .int .i64 ep, .bool up, .int .i64 0, .int .i64 0, .int .i64 0, .int .i64 0, .int .i64 0, .slice none 0 0, .string ⟨#[]⟩, .int .i64 si]) (by simp [results, Tryd.results42, go_sem]) rfl ⟨rfl, (by repeat (first | exact Below.refl _ _ | refine Below.alloc ?_ (by simp <;> omega) _ | refine Below.drew ?_ | refine below_drewN ?_ _))⟩

set_option maxHeartbeats 2000000 in
theorem inState_2 (nu ep : Int) (up : Bool) (st le ta co lf : Int) (a : Option Addr) (n c : Nat) (x : ByteArray) (si : Int) (l2 t2 : Int) (x2 : ByteArray) (w : World) :
    Calls Tryd.prog 42 #[.agg #[.int .i64 nu, .int .i64 ep, .bool up, .int .i64 st, .int .i64 le, .int .i64 ta, .int .i64 co, .int .i64 lf, .slice a n c, .string x, .int .i64 si], .iface 78 (.agg #[.int .i64 l2, .int .i64 t2, .string x2])] w fun e w' => e = .returned (.agg #[.int .i64 nu, .int .i64 ep, .bool up, .int .i64 2, .int .i64 l2, .int .i64 t2, .int .i64 0, .int .i64 0, .slice none 0 0, .string x2, .int .i64 si]) ∧ Below w.heap.size w w' := by
  go_enter Tryd.func42, Tryd.ntmps42
  go_wp2
  go_region
  go_wp2
  exact bodyPost_ret (v := .agg #[.int .i64 nu, .int .i64 ep, .bool up, .int .i64 2, .int .i64 l2, .int .i64 t2, .int .i64 0, .int .i64 0, .slice none 0 0, .string x2, .int .i64 si]) (by simp [results, Tryd.results42, go_sem]) rfl ⟨rfl, (by repeat (first | exact Below.refl _ _ | refine Below.alloc ?_ (by simp <;> omega) _ | refine Below.drew ?_ | refine below_drewN ?_ _))⟩

end Go.Proofs.YtimpfhfgcmipgaaDoor
