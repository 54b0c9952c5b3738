
/-
  A tick: what it gives; impl.taskName, workedOn, tells; spec.l3Says.
-/
import Derived.Test.YthogdlabinnndaaDoorLwb
import Derived.Test.YthogdlabinnndaaDoorHld
import Derived.Test.YthogdlabinnndaaDoorWcq
import Derived.Test.YthogdlabinnndaaDoorWkv
import Derived.Test.YthogdlabinnndaaDoorSChk
namespace Go.Proofs.YthogdlabinnndaaDoor
open Go.RowKit

/-- A message of a worker. -/
structure OM where
  k : Int
  f : Int
  e : Int
  l : Int
  d : Int
  x : ByteArray
def OM.cells (m : OM) : List Value := [.int .i64 m.k, .int .i64 m.f, .int .i64 0, .int .i64 m.e, .int .i64 m.l, .int .i64 m.d, .string m.x, .slice none 0 0]
def outL : Option OM → List Value
  | none => []
  | some m => m.cells
def outN : Option OM → Nat
  | none => 0
  | some _ => 1
/-- The task's name in the plan. -/
def tnm (ts : List TaskD) (t : Int) : ByteArray := if t < (ts.length : Int) then (ts.getD t.toNat dT).name else ⟨#[]⟩
def sup (s : Int) : Int := if s < 1000000 then s + 1 else s
/-- What a tick gives. -/
def tickV (d : WD) (nm : ByteArray) : WD × Option OM :=
  if d.up = false then (d, none)
  else if d.st = 1 then
    if d.lf = 1 then (⟨d.nu, d.ep, d.up, 2, d.le, d.ta, 0, 0, [], valS nm d.ss, 0⟩, some ⟨3, d.nu, d.ep, d.le, d.ta, valS nm d.ss⟩)
    else if 4 ≤ sup d.si then (⟨d.nu, d.ep, d.up, d.st, d.le, d.ta, d.co, d.lf - 1, d.ss, d.x, 0⟩, some ⟨2, d.nu, d.ep, d.le, 0, ⟨#[]⟩⟩)
    else (⟨d.nu, d.ep, d.up, d.st, d.le, d.ta, d.co, d.lf - 1, d.ss, d.x, sup d.si⟩, none)
  else if d.st = 2 then
    if 4 ≤ sup d.si then (⟨d.nu, d.ep, d.up, d.st, d.le, d.ta, d.co, d.lf, d.ss, d.x, 0⟩, some ⟨3, d.nu, d.ep, d.le, d.ta, d.x⟩)
    else (⟨d.nu, d.ep, d.up, d.st, d.le, d.ta, d.co, d.lf, d.ss, d.x, sup d.si⟩, none)
  else if 3 ≤ sup d.si then (⟨d.nu, d.ep, d.up, d.st, d.le, d.ta, d.co, d.lf, d.ss, d.x, 0⟩, some ⟨5, d.nu, d.ep, 0, 0, ⟨#[]⟩⟩)
  else (⟨d.nu, d.ep, d.up, d.st, d.le, d.ta, d.co, d.lf, d.ss, d.x, sup d.si⟩, none)
def tickR (d : WD) (ts : List TaskD) (r : WD × Option OM) : Prop := (d.ok ∧ Code ts 0 ∧ r = tickV d (tnm ts d.ta)) ∨ (¬ (d.ok ∧ Code ts 0) ∧ r = (zWD, none))
theorem tickR.uniq {d : WD} {ts : List TaskD} {r r' : WD × Option OM} (h : tickR d ts r) (h' : tickR d ts r') : r = r' := by
  rcases h with ⟨h1, h2, rfl⟩ | ⟨h, rfl⟩ <;> rcases h' with ⟨h1', h2', rfl⟩ | ⟨h', rfl⟩ <;> first | rfl | exact absurd ⟨h1, h2⟩ h' | exact absurd ⟨h1', h2'⟩ h
theorem tickR.small {d : WD} {ts : List TaskD} {r : WD × Option OM} (h : tickR d ts r) : r.1.ss.length ≤ 8 ∧ ∀ s ∈ r.1.ss, s.size ≤ maxLen := by
  rcases h with ⟨h1, h2, rfl⟩ | ⟨h, rfl⟩
  · have hs := h1.small
    unfold tickV
    repeat (first | exact hs | exact ⟨by simp, by simp⟩ | split)
  · exact ⟨by simp [zWD], by simp [zWD]⟩
theorem tick_dn (nu ep st le ta co lf : Int) (ss : List ByteArray) (x : ByteArray) (si : Int) (nm : ByteArray) : tickV ⟨nu, ep, false, st, le, ta, co, lf, ss, x, si⟩ nm = (⟨nu, ep, false, st, le, ta, co, lf, ss, x, si⟩, none) := rfl
theorem tick_0q (nu ep le ta co lf : Int) (ss : List ByteArray) (x : ByteArray) (si s1 : Int) (nm : ByteArray) (h1 : sup si = s1) (h : ¬ 3 ≤ s1) : tickV ⟨nu, ep, true, 0, le, ta, co, lf, ss, x, si⟩ nm = (⟨nu, ep, true, 0, le, ta, co, lf, ss, x, s1⟩, none) := by
  subst h1; simp [tickV, h]
theorem tick_0t (nu ep le ta co lf : Int) (ss : List ByteArray) (x : ByteArray) (si s1 : Int) (nm : ByteArray) (h1 : sup si = s1) (h : 3 ≤ s1) : tickV ⟨nu, ep, true, 0, le, ta, co, lf, ss, x, si⟩ nm = (⟨nu, ep, true, 0, le, ta, co, lf, ss, x, 0⟩, some ⟨5, nu, ep, 0, 0, ⟨#[]⟩⟩) := by
  subst h1; simp [tickV, h]
theorem tick_2q (nu ep le ta co lf : Int) (ss : List ByteArray) (x : ByteArray) (si s1 : Int) (nm : ByteArray) (h1 : sup si = s1) (h : ¬ 4 ≤ s1) : tickV ⟨nu, ep, true, 2, le, ta, co, lf, ss, x, si⟩ nm = (⟨nu, ep, true, 2, le, ta, co, lf, ss, x, s1⟩, none) := by
  subst h1; simp [tickV, h]
theorem tick_2t (nu ep le ta co lf : Int) (ss : List ByteArray) (x : ByteArray) (si s1 : Int) (nm : ByteArray) (h1 : sup si = s1) (h : 4 ≤ s1) : tickV ⟨nu, ep, true, 2, le, ta, co, lf, ss, x, si⟩ nm = (⟨nu, ep, true, 2, le, ta, co, lf, ss, x, 0⟩, some ⟨3, nu, ep, le, ta, x⟩) := by
  subst h1; simp [tickV, h]
theorem tick_1q (nu ep le ta co lf : Int) (ss : List ByteArray) (x : ByteArray) (si s1 : Int) (nm : ByteArray) (h1 : sup si = s1) (hl : ¬ lf = 1) (h : ¬ 4 ≤ s1) : tickV ⟨nu, ep, true, 1, le, ta, co, lf, ss, x, si⟩ nm = (⟨nu, ep, true, 1, le, ta, co, lf - 1, ss, x, s1⟩, none) := by
  subst h1; simp [tickV, h, hl]
theorem tick_1t (nu ep le ta co lf : Int) (ss : List ByteArray) (x : ByteArray) (si s1 : Int) (nm : ByteArray) (h1 : sup si = s1) (hl : ¬ lf = 1) (h : 4 ≤ s1) : tickV ⟨nu, ep, true, 1, le, ta, co, lf, ss, x, si⟩ nm = (⟨nu, ep, true, 1, le, ta, co, lf - 1, ss, x, 0⟩, some ⟨2, nu, ep, le, 0, ⟨#[]⟩⟩) := by
  subst h1; simp [tickV, h, hl]
theorem tick_1d (nu ep le ta co : Int) (ss : List ByteArray) (x : ByteArray) (si : Int) (nm : ByteArray) : tickV ⟨nu, ep, true, 1, le, ta, co, 1, ss, x, si⟩ nm = (⟨nu, ep, true, 2, le, ta, 0, 0, [], valS nm ss, 0⟩, some ⟨3, nu, ep, le, ta, valS nm ss⟩) := by
  simp [tickV]
theorem sup_lt {s : Int} (h : s < 1000000) : sup s = s + 1 := by simp [sup, h]
theorem sup_ge {s : Int} (h : ¬ s < 1000000) : sup s = s := by simp [sup, h]
/-- What came of a tick or a taking, in memory. -/
def RetA (e : Ending) (B : Nat) (w' : World) (F : WD × Option OM → Prop) : Prop := ∃ (d : WD) (q : Option OM) (a : Option Addr) (c : Nat) (v : Value),
  e = .returned (.agg #[.int .i64 d.nu, .int .i64 d.ep, .bool d.up, .int .i64 d.st, .int .i64 d.le, .int .i64 d.ta, .int .i64 d.co, .int .i64 d.lf, .slice a d.ss.length c, .string d.x, .int .i64 d.si, v]) ∧
  Own B w' 1 (.slice a d.ss.length c) d.ss.length (d.ss.map Value.string) ∧ Own B w' 8 v (outN q) (outL q) ∧ ((Value.slice a d.ss.length c).ownBlock = none ∨ (Value.slice a d.ss.length c).ownBlock ≠ v.ownBlock) ∧ F (d, q)
theorem Code.names {ts : List TaskD} (h : Code ts 0) : 1 ≤ ts.length ∧ ts.length ≤ 40 ∧ namesOk ts ts.length ∧ costsOk ts ts.length ∧ allDeps ts ts.length := by
  rcases h with ⟨h, _⟩ | ⟨h1, ⟨h, _⟩ | ⟨h2, ⟨h, _⟩ | ⟨h3, ⟨h, _⟩ | ⟨h4, _⟩⟩⟩⟩
  · omega
  · omega
  · omega
  · omega
  · exact ⟨h1.1, h1.2, h2, h3, h4⟩
theorem tnm_size {ts : List TaskD} (h : Code ts 0) (t : Int) (ht : 0 ≤ t) : (tnm ts t).size ≤ 30 := by
  unfold tnm
  split
  · have := (h.names.2.2.1 t.toNat (by omega)).1.2.2
    exact this
  · exact Nat.zero_le _

theorem as_b_f (W : World) (v : Value) : (Instr.typeAssert (.iface 97 v) 82 95 true).run Tryd.prog W = .ok (.tuple #[.agg #[.int .i64 0, .int .i64 0, .int .i64 0, .int .i64 0, .slice none 0 0], .bool false]) W := by kernel_rfl
theorem as_b_b (W : World) (v : Value) : (Instr.typeAssert (.iface 95 v) 82 95 true).run Tryd.prog W = .ok (.tuple #[v, .bool true]) W := by kernel_rfl
theorem as_b_t (W : World) (v : Value) : (Instr.typeAssert (.iface 104 v) 82 95 true).run Tryd.prog W = .ok (.tuple #[.agg #[.int .i64 0, .int .i64 0, .int .i64 0, .int .i64 0, .slice none 0 0], .bool false]) W := by kernel_rfl
theorem as_t_f (W : World) (v : Value) : (Instr.typeAssert (.iface 97 v) 82 104 true).run Tryd.prog W = .ok (.tuple #[.agg #[.int .i64 0, .int .i64 0, .string ⟨#[]⟩], .bool false]) W := by kernel_rfl
theorem as_t_b (W : World) (v : Value) : (Instr.typeAssert (.iface 95 v) 82 104 true).run Tryd.prog W = .ok (.tuple #[.agg #[.int .i64 0, .int .i64 0, .string ⟨#[]⟩], .bool false]) W := by kernel_rfl
theorem as_t_t (W : World) (v : Value) : (Instr.typeAssert (.iface 104 v) 82 104 true).run Tryd.prog W = .ok (.tuple #[v, .bool true]) W := by kernel_rfl
end Go.Proofs.YthogdlabinnndaaDoor
