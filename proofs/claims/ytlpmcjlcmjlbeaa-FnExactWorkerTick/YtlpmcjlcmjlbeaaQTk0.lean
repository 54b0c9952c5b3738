import Derived.Test.YtlpmcjlcmjlbeaaQLwb
import Derived.Test.YtlpmcjlcmjlbeaaQHld
import Derived.Test.YtlpmcjlcmjlbeaaQWcq
import Derived.Test.YtlpmcjlcmjlbeaaQWkv
import Derived.Test.YtlpmcjlcmjlbeaaQSChk
namespace Go.Proofs.Ytlpmcjlcmjlbeaa
open Go.RowKit

/-- A message of a worker. -/
structure OM where
  k : Int
  f : Int
  e : Int
  l : Int
  d : Int
  x : ByteArray
def OM.cells (m : OM) : List Value := [.int .i64 m.k, .int .i64 m.f, .int .i64 0, .int .i64 m.e, .int .i64 m.l, .int .i64 m.d, .string m.x, .slice none 0 0]
def outL : Option OM → List Value
  | none => []
  | some m => m.cells
def outN : Option OM → Nat
  | none => 0
  | some _ => 1
/-- The task's name in the plan. -/
def tnm (ts : List TaskD) (t : Int) : ByteArray := if t < (ts.length : Int) then (ts.getD t.toNat dT).name else ⟨#[]⟩
def sup (s : Int) : Int := if s < 1000000 then s + 1 else s
/-- What a tick gives. -/
def tickV (d : WD) (nm : ByteArray) : WD × Option OM :=
  if d.up = false then (d, none)
  else if d.st = 1 then
    if d.lf = 1 then (⟨d.nu, d.ep, d.up, 2, d.le, d.ta, 0, 0, [], valS nm d.ss, 0⟩, some ⟨3, d.nu, d.ep, d.le, d.ta, valS nm d.ss⟩)
    else if 4 ≤ sup d.si then (⟨d.nu, d.ep, d.up, d.st, d.le, d.ta, d.co, d.lf - 1, d.ss, d.x, 0⟩, some ⟨2, d.nu, d.ep, d.le, 0, ⟨#[]⟩⟩)
    else (⟨d.nu, d.ep, d.up, d.st, d.le, d.ta, d.co, d.lf - 1, d.ss, d.x, sup d.si⟩, none)
  else if d.st = 2 then
    if 4 ≤ sup d.si then (⟨d.nu, d.ep, d.up, d.st, d.le, d.ta, d.co, d.lf, d.ss, d.x, 0⟩, some ⟨3, d.nu, d.ep, d.le, d.ta, d.x⟩)
    else (⟨d.nu, d.ep, d.up, d.st, d.le, d.ta, d.co, d.lf, d.ss, d.x, sup d.si⟩, none)
  else if 3 ≤ sup d.si then (⟨d.nu, d.ep, d.up, d.st, d.le, d.ta, d.co, d.lf, d.ss, d.x, 0⟩, some ⟨5, d.nu, d.ep, 0, 0, ⟨#[]⟩⟩)
  else (⟨d.nu, d.ep, d.up, d.st, d.le, d.ta, d.co, d.lf, d.ss, d.x, sup d.si⟩, none)
def tickR (d : WD) (ts : List TaskD) (r : WD × Option OM) : Prop := (d.ok ∧ Code ts 0 ∧ r = tickV d (tnm ts d.ta)) ∨ (¬ (d.ok ∧ Code ts 0) ∧ r = (zWD, none))
theorem tickR.uniq {d : WD} {ts : List TaskD} {r r' : WD × Option OM} (h : tickR d ts r) (h' : tickR d ts r') : r = r' := by
  rcases h with ⟨h1, h2, rfl⟩ | ⟨h, rfl⟩ <;> rcases h' with ⟨h1', h2', rfl⟩ | ⟨h', rfl⟩ <;> first | rfl | exact absurd ⟨h1, h2⟩ h' | exact absurd ⟨h1', h2'⟩ h
theorem tickR.small {d : WD} {ts : List TaskD} {r : WD × Option OM} (h : tickR d ts r) : r.1.ss.length ≤ 8 ∧ ∀ s ∈ r.1.ss, s.size ≤ maxLen := by
  rcases h with ⟨h1, h2, rfl⟩ | ⟨h, rfl⟩
  · have hs := h1.small
    unfold tickV
    repeat (first | exact hs | exact ⟨by simp, by simp⟩ | split)
  · exact ⟨by simp [zWD], by simp [zWD]⟩
theorem tick_dn (nu ep st le ta co lf : Int) (ss : List ByteArray) (x : ByteArray) (si : Int) (nm : ByteArray) : tickV ⟨nu, ep, false, st, le, ta, co, lf, ss, x, si⟩ nm = (⟨nu, ep, false, st, le, ta, co, lf, ss, x, si⟩, none) := rfl
theorem tick_0q (nu ep le ta co lf : Int) (ss : List ByteArray) (x : ByteArray) (si s1 : Int) (nm : ByteArray) (h1 : sup si = s1) (h : ¬ 3 ≤ s1) : tickV ⟨nu, ep, true, 0, le, ta, co, lf, ss, x, si⟩ nm = (⟨nu, ep, true, 0, le, ta, co, lf, ss, x, s1⟩, none) := by
  subst h1; simp [tickV, h]
theorem tick_0t (nu ep le ta co lf : Int) (ss : List ByteArray) (x : ByteArray) (si s1 : Int) (nm : ByteArray) (h1 : sup si = s1) (h : 3 ≤ s1) : tickV ⟨nu, ep, true, 0, le, ta, co, lf, ss, x, si⟩ nm = (⟨nu, ep, true, 0, le, ta, co, lf, ss, x, 0⟩, some ⟨5, nu, ep, 0, 0, ⟨#[]⟩⟩) := by
  subst h1; simp [tickV, h]
theorem tick_2q (nu ep le ta co lf : Int) (ss : List ByteArray) (x : ByteArray) (si s1 : Int) (nm : ByteArray) (h1 : sup si = s1) (h : ¬ 4 ≤ s1) : tickV ⟨nu, ep, true, 2, le, ta, co, lf, ss, x, si⟩ nm = (⟨nu, ep, true, 2, le, ta, co, lf, ss, x, s1⟩, none) := by
  subst h1; simp [tickV, h]
theorem tick_2t (nu ep le ta co lf : Int) (ss : List ByteArray) (x : ByteArray) (si s1 : Int) (nm : ByteArray) (h1 : sup si = s1) (h : 4 ≤ s1) : tickV ⟨nu, ep, true, 2, le, ta, co, lf, ss, x, si⟩ nm = (⟨nu, ep, true, 2, le, ta, co, lf, ss, x, 0⟩, some ⟨3, nu, ep, le, ta, x⟩) := by
  subst h1; simp [tickV, h]
theorem tick_1q (nu ep le ta co lf : Int) (ss : List ByteArray) (x : ByteArray) (si s1 : Int) (nm : ByteArray) (h1 : sup si = s1) (hl : ¬ lf = 1) (h : ¬ 4 ≤ s1) : tickV ⟨nu, ep, true, 1, le, ta, co, lf, ss, x, si⟩ nm = (⟨nu, ep, true, 1, le, ta, co, lf - 1, ss, x, s1⟩, none) := by
  subst h1; simp [tickV, h, hl]
theorem tick_1t (nu ep le ta co lf : Int) (ss : List ByteArray) (x : ByteArray) (si s1 : Int) (nm : ByteArray) (h1 : sup si = s1) (hl : ¬ lf = 1) (h : 4 ≤ s1) : tickV ⟨nu, ep, true, 1, le, ta, co, lf, ss, x, si⟩ nm = (⟨nu, ep, true, 1, le, ta, co, lf - 1, ss, x, 0⟩, some ⟨2, nu, ep, le, 0, ⟨#[]⟩⟩) := by
  subst h1; simp [tickV, h, hl]
theorem tick_1d (nu ep le ta co : Int) (ss : List ByteArray) (x : ByteArray) (si : Int) (nm : ByteArray) : tickV ⟨nu, ep, true, 1, le, ta, co, 1, ss, x, si⟩ nm = (⟨nu, ep, true, 2, le, ta, 0, 0, [], valS nm ss, 0⟩, some ⟨3, nu, ep, le, ta, valS nm ss⟩) := by
  simp [tickV]
theorem sup_lt {s : Int} (h : s < 1000000) : sup s = s + 1 := by simp [sup, h]
theorem sup_ge {s : Int} (h : ¬ s < 1000000) : sup s = s := by simp [sup, h]
/-- What came of a tick or a taking, in memory. -/
def RetA (e : Ending) (B : Nat) (w' : World) (F : WD × Option OM → Prop) : Prop := ∃ (d : WD) (q : Option OM) (a : Option Addr) (c : Nat) (v : Value),
  e = .returned (.agg #[.int .i64 d.nu, .int .i64 d.ep, .bool d.up, .int .i64 d.st, .int .i64 d.le, .int .i64 d.ta, .int .i64 d.co, .int .i64 d.lf, .slice a d.ss.length c, .string d.x, .int .i64 d.si, v]) ∧
  Own B w' 1 (.slice a d.ss.length c) d.ss.length (d.ss.map Value.string) ∧ Own B w' 8 v (outN q) (outL q) ∧ ((Value.slice a d.ss.length c).ownBlock = none ∨ (Value.slice a d.ss.length c).ownBlock ≠ v.ownBlock) ∧ F (d, q)
theorem Code.names {ts : List TaskD} (h : Code ts 0) : 1 ≤ ts.length ∧ ts.length ≤ 40 ∧ namesOk ts ts.length ∧ costsOk ts ts.length ∧ allDeps ts ts.length := by
  rcases h with ⟨h, _⟩ | ⟨h1, ⟨h, _⟩ | ⟨h2, ⟨h, _⟩ | ⟨h3, ⟨h, _⟩ | ⟨h4, _⟩⟩⟩⟩
  · omega
  · omega
  · omega
  · omega
  · exact ⟨h1.1, h1.2, h2, h3, h4⟩
theorem tnm_size {ts : List TaskD} (h : Code ts 0) (t : Int) (ht : 0 ≤ t) : (tnm ts t).size ≤ 30 := by
  unfold tnm
  split
  · have := (h.names.2.2.1 t.toNat (by omega)).1.2.2
    exact this
  · exact Nat.zero_le _

set_option maxHeartbeats 1000000 in
theorem taskName_any (pa : Option Addr) (pb po pn pc : Nat) (ts : List TaskD) (t : Int) (w : World) (h : TasksAt w pa pb po pn ts) (h0 : 0 ≤ t) (h1 : t ≤ 39) :
    Calls Try.prog 74 #[.agg #[.slice pa pn pc], .int .i64 t] w fun e w' => e = .returned (.string (tnm ts t)) ∧ Below w.heap.size w w' := by
  have hb0 : Below w.heap.size w (w.alloc (.cells #[.slice pa pn pc] 43)) := (Below.refl _ _).alloc (Nat.le_refl _) _
  have hmax := h.max
  unfold maxLen at hmax
  by_cases hlt : t < (pn : Int)
  · obtain ⟨k, rfl⟩ : ∃ k : Nat, t = k := ⟨t.toNat, by omega⟩
    have hk : k < pn := by omega
    obtain ⟨T, a', b', o', n', c', hT, hc0, _⟩ := (h.below' hb0).get hk
    have hnm : tnm ts (k : Int) = T.name := by
      unfold tnm
      rw [if_pos (by rw [h.len]; exact hlt)]
      have : (k : Int).toNat = k := by omega
      rw [this, hT]
    have HN := hid hnm
    obtain rfl := h.ad (by omega)
    obtain ⟨nm, hnm'⟩ : ∃ nm, nm = T.name := ⟨_, rfl⟩
    rw [← hnm'] at hc0
    have HN' := hid hnm'
    clear hT hnm hnm'
    go_enter Try.func74, Try.ntmps74
    go_wp2
    go_ret
    exact ⟨by rw [HN.out, ← HN'.out]; rfl, hb0⟩
  · have hnm : tnm ts t = ⟨#[]⟩ := by
      unfold tnm
      rw [if_neg (by rw [h.len]; exact hlt)]
    have HN := hid hnm
    clear hnm
    have hge : (pn : Int) ≤ t := by omega
    go_enter Try.func74, Try.ntmps74
    go_wp2
    go_ret
    exact ⟨by rw [HN.out]; rfl, hb0⟩

set_option maxHeartbeats 1000000 in
theorem tells_0 (w : World) : Calls Try.prog 95 #[.agg #[]] w fun e w' => e = .returned (.agg #[.int .i64 5, .int .i64 0, .int .i64 0, .int .i64 0, .int .i64 0, .int .i64 0, .string ⟨#[]⟩, .slice none 0 0]) ∧ Below w.heap.size w w' := by
  go_enter Try.func95, Try.ntmps95
  go_wp2
  exact bodyPost_ret (v := .agg #[.int .i64 5, .int .i64 0, .int .i64 0, .int .i64 0, .int .i64 0, .int .i64 0, .string ⟨#[]⟩, .slice none 0 0]) (by simp [results, Try.results95, go_sem]) rfl ⟨rfl, (by repeat (first | exact Below.refl _ _ | refine Below.alloc ?_ (by simp <;> omega) _ | refine Below.drew ?_ | refine below_drewN ?_ _))⟩

set_option maxHeartbeats 1000000 in
theorem tells_1 (le ta co lf : Int) (v : Value) (w : World) : Calls Try.prog 99 #[.agg #[.int .i64 le, .int .i64 ta, .int .i64 co, .int .i64 lf, v]] w fun e w' => e = .returned (.agg #[.int .i64 2, .int .i64 0, .int .i64 0, .int .i64 0, .int .i64 le, .int .i64 0, .string ⟨#[]⟩, .slice none 0 0]) ∧ Below w.heap.size w w' := by
  go_enter Try.func99, Try.ntmps99
  go_wp2
  exact bodyPost_ret (v := .agg #[.int .i64 2, .int .i64 0, .int .i64 0, .int .i64 0, .int .i64 le, .int .i64 0, .string ⟨#[]⟩, .slice none 0 0]) (by simp [results, Try.results99, go_sem]) rfl ⟨rfl, (by repeat (first | exact Below.refl _ _ | refine Below.alloc ?_ (by simp <;> omega) _ | refine Below.drew ?_ | refine below_drewN ?_ _))⟩

set_option maxHeartbeats 1000000 in
theorem tells_2 (le ta : Int) (x : ByteArray) (w : World) : Calls Try.prog 103 #[.agg #[.int .i64 le, .int .i64 ta, .string x]] w fun e w' => e = .returned (.agg #[.int .i64 3, .int .i64 0, .int .i64 0, .int .i64 0, .int .i64 le, .int .i64 ta, .string x, .slice none 0 0]) ∧ Below w.heap.size w w' := by
  go_enter Try.func103, Try.ntmps103
  go_wp2
  exact bodyPost_ret (v := .agg #[.int .i64 3, .int .i64 0, .int .i64 0, .int .i64 0, .int .i64 le, .int .i64 ta, .string x, .slice none 0 0]) (by simp [results, Try.results103, go_sem]) rfl ⟨rfl, (by repeat (first | exact Below.refl _ _ | refine Below.alloc ?_ (by simp <;> omega) _ | refine Below.drew ?_ | refine below_drewN ?_ _))⟩

set_option maxHeartbeats 1000000 in
theorem l3Says_5 (nu ep : Int) (up : Bool) (st le ta co lf : Int) (a : Option Addr) (n c : Nat) (x : ByteArray) (si : Int) (w : World) : Calls Try.prog 48 #[.agg #[.int .i64 nu, .int .i64 ep, .bool up, .int .i64 st, .int .i64 le, .int .i64 ta, .int .i64 co, .int .i64 lf, .slice a n c, .string x, .int .i64 si], .int .i64 5] w fun e w' => e = .returned (.agg #[.int .i64 5, .int .i64 nu, .int .i64 0, .int .i64 ep, .int .i64 0, .int .i64 0, .string ⟨#[]⟩, .slice none 0 0]) ∧ Below w.heap.size w w' := by
  go_enter Try.func48, Try.ntmps48
  go_wp2
  exact bodyPost_ret (v := .agg #[.int .i64 5, .int .i64 nu, .int .i64 0, .int .i64 ep, .int .i64 0, .int .i64 0, .string ⟨#[]⟩, .slice none 0 0]) (by simp [results, Try.results48, go_sem]) rfl ⟨rfl, (by repeat (first | exact Below.refl _ _ | refine Below.alloc ?_ (by simp <;> omega) _ | refine Below.drew ?_ | refine below_drewN ?_ _))⟩

set_option maxHeartbeats 1000000 in
theorem l3Says_2 (nu ep : Int) (up : Bool) (st le ta co lf : Int) (a : Option Addr) (n c : Nat) (x : ByteArray) (si : Int) (w : World) : Calls Try.prog 48 #[.agg #[.int .i64 nu, .int .i64 ep, .bool up, .int .i64 st, .int .i64 le, .int .i64 ta, .int .i64 co, .int .i64 lf, .slice a n c, .string x, .int .i64 si], .int .i64 2] w fun e w' => e = .returned (.agg #[.int .i64 2, .int .i64 nu, .int .i64 0, .int .i64 ep, .int .i64 le, .int .i64 0, .string ⟨#[]⟩, .slice none 0 0]) ∧ Below w.heap.size w w' := by
  go_enter Try.func48, Try.ntmps48
  go_wp2
  exact bodyPost_ret (v := .agg #[.int .i64 2, .int .i64 nu, .int .i64 0, .int .i64 ep, .int .i64 le, .int .i64 0, .string ⟨#[]⟩, .slice none 0 0]) (by simp [results, Try.results48, go_sem]) rfl ⟨rfl, (by repeat (first | exact Below.refl _ _ | refine Below.alloc ?_ (by simp <;> omega) _ | refine Below.drew ?_ | refine below_drewN ?_ _))⟩

set_option maxHeartbeats 1000000 in
theorem l3Says_3 (nu ep : Int) (up : Bool) (st le ta co lf : Int) (a : Option Addr) (n c : Nat) (x : ByteArray) (si : Int) (w : World) : Calls Try.prog 48 #[.agg #[.int .i64 nu, .int .i64 ep, .bool up, .int .i64 st, .int .i64 le, .int .i64 ta, .int .i64 co, .int .i64 lf, .slice a n c, .string x, .int .i64 si], .int .i64 3] w fun e w' => e = .returned (.agg #[.int .i64 3, .int .i64 nu, .int .i64 0, .int .i64 ep, .int .i64 le, .int .i64 ta, .string x, .slice none 0 0]) ∧ Below w.heap.size w w' := by
  go_enter Try.func48, Try.ntmps48
  go_wp2
  exact bodyPost_ret (v := .agg #[.int .i64 3, .int .i64 nu, .int .i64 0, .int .i64 ep, .int .i64 le, .int .i64 ta, .string x, .slice none 0 0]) (by simp [results, Try.results48, go_sem]) rfl ⟨rfl, (by repeat (first | exact Below.refl _ _ | refine Below.alloc ?_ (by simp <;> omega) _ | refine Below.drew ?_ | refine below_drewN ?_ _))⟩

theorem as_b_f (W : World) (v : Value) : (Instr.typeAssert (.iface 83 v) 56 85 true).run Try.prog W = .ok (.tuple #[.agg #[.int .i64 0, .int .i64 0, .int .i64 0, .int .i64 0, .slice none 0 0], .bool false]) W := by kernel_rfl
theorem as_b_b (W : World) (v : Value) : (Instr.typeAssert (.iface 85 v) 56 85 true).run Try.prog W = .ok (.tuple #[v, .bool true]) W := by kernel_rfl
theorem as_b_t (W : World) (v : Value) : (Instr.typeAssert (.iface 87 v) 56 85 true).run Try.prog W = .ok (.tuple #[.agg #[.int .i64 0, .int .i64 0, .int .i64 0, .int .i64 0, .slice none 0 0], .bool false]) W := by kernel_rfl
theorem as_t_f (W : World) (v : Value) : (Instr.typeAssert (.iface 83 v) 56 87 true).run Try.prog W = .ok (.tuple #[.agg #[.int .i64 0, .int .i64 0, .string ⟨#[]⟩], .bool false]) W := by kernel_rfl
theorem as_t_b (W : World) (v : Value) : (Instr.typeAssert (.iface 85 v) 56 87 true).run Try.prog W = .ok (.tuple #[.agg #[.int .i64 0, .int .i64 0, .string ⟨#[]⟩], .bool false]) W := by kernel_rfl
theorem as_t_t (W : World) (v : Value) : (Instr.typeAssert (.iface 87 v) 56 87 true).run Try.prog W = .ok (.tuple #[v, .bool true]) W := by kernel_rfl
set_option maxRecDepth 100000 in
set_option maxHeartbeats 1000000 in
theorem workedOn_0 (pv : Value) (w : World) : Calls Try.prog 65 #[.iface 83 (.agg #[]), .agg #[pv]] w fun e w' => e = .returned (.tuple #[.iface 83 (.agg #[]), .bool false]) ∧ Below w.heap.size w w' := by
  have hta := as_b_f (w.alloc (.cells #[pv] 43)) (.agg #[])
  go_enter Try.func65, Try.ntmps65
  go_wp2
  exact bodyPost_ret (v := .tuple #[.iface 83 (.agg #[]), .bool false]) (by simp [results, Try.results65, go_sem]) rfl ⟨rfl, (by repeat (first | exact Below.refl _ _ | refine Below.alloc ?_ (by simp <;> omega) _ | refine Below.drew ?_ | refine below_drewN ?_ _))⟩
set_option maxRecDepth 100000 in
set_option maxHeartbeats 1000000 in
theorem workedOn_2 (le ta : Int) (x : ByteArray) (pv : Value) (w : World) : Calls Try.prog 65 #[.iface 87 (.agg #[.int .i64 le, .int .i64 ta, .string x]), .agg #[pv]] w fun e w' => e = .returned (.tuple #[.iface 87 (.agg #[.int .i64 le, .int .i64 ta, .string x]), .bool false]) ∧ Below w.heap.size w w' := by
  have hta := as_b_t (w.alloc (.cells #[pv] 43)) (.agg #[.int .i64 le, .int .i64 ta, .string x])
  go_enter Try.func65, Try.ntmps65
  go_wp2
  exact bodyPost_ret (v := .tuple #[.iface 87 (.agg #[.int .i64 le, .int .i64 ta, .string x]), .bool false]) (by simp [results, Try.results65, go_sem]) rfl ⟨rfl, (by repeat (first | exact Below.refl _ _ | refine Below.alloc ?_ (by simp <;> omega) _ | refine Below.drew ?_ | refine below_drewN ?_ _))⟩
set_option maxRecDepth 100000 in
set_option maxHeartbeats 1000000 in
theorem workedOn_1 (le ta co lf : Int) (a : Option Addr) (n c : Nat) (pv : Value) (w : World) (h1 : 1 ≤ lf) (h20 : lf ≤ 20) (hne : ¬ lf = 1) : Calls Try.prog 65 #[.iface 85 (.agg #[.int .i64 le, .int .i64 ta, .int .i64 co, .int .i64 lf, .slice a n c]), .agg #[pv]] w fun e w' => e = .returned (.tuple #[.iface 85 (.agg #[.int .i64 le, .int .i64 ta, .int .i64 co, .int .i64 (lf - 1), .slice a n c]), .bool false]) ∧ Below w.heap.size w w' := by
  have hg : 0 < lf - 1 := by omega
  have hta := as_b_b (w.alloc (.cells #[pv] 43)) (.agg #[.int .i64 le, .int .i64 ta, .int .i64 co, .int .i64 lf, .slice a n c])
  go_enter Try.func65, Try.ntmps65
  go_wp2
  exact bodyPost_ret (v := .tuple #[.iface 85 (.agg #[.int .i64 le, .int .i64 ta, .int .i64 co, .int .i64 (lf - 1), .slice a n c]), .bool false]) (by simp [results, Try.results65, go_sem]) rfl ⟨rfl, (by repeat (first | exact Below.refl _ _ | refine Below.alloc ?_ (by simp <;> omega) _ | refine Below.drew ?_ | refine below_drewN ?_ _))⟩
end Go.Proofs.Ytlpmcjlcmjlbeaa
