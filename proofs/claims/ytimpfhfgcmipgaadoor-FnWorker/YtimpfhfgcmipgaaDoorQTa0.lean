
import Derived.Test.YtimpfhfgcmipgaaDoorQTk2
import Derived.Test.YtimpfhfgcmipgaaDoorQMsgAll
namespace Go.Proofs.YtimpfhfgcmipgaaDoor
open Go.RowKit

/-- The boxes that a call lays first, one behind the other. -/
structure Bx (w0 : World) (bs : List (List Value)) (wx : World) : Prop where
  c : ∀ i, i < bs.length → CF wx (w0.heap.size + i) (bs.getD i [])
  B : Below w0.heap.size w0 wx
  z : w0.heap.size + bs.length ≤ wx.heap.size
theorem Bx.below {w0 : World} {bs : List (List Value)} {wx wy : World} (h : Bx w0 bs wx) (hb : Below wx.heap.size wx wy) : Bx w0 bs wy :=
  ⟨fun i hi => (h.c i hi).block (hb.block _ (by have := h.z; omega)), h.B.trans (hb.mono h.B.size), Nat.le_trans h.z hb.size⟩
theorem Bx.alloc {w0 : World} {bs : List (List Value)} {wx : World} (h : Bx w0 bs wx) (ob : Obj) : Bx w0 bs (wx.alloc ob) := h.below ((Below.refl _ _).alloc (Nat.le_refl _) _)
theorem Bx.set {w0 : World} {bs : List (List Value)} {wx : World} (h : Bx w0 bs wx) (i j : Nat) (hi : i < bs.length) (hj : j < (bs.getD i []).length) (u : Value) : Bx w0 (bs.set i ((bs.getD i []).set j u)) (wx.setCell ⟨w0.heap.size + i, j, none⟩ u) := by
  refine ⟨fun i' hi' => ?_, h.B.setCell (p := ⟨w0.heap.size + i, j, none⟩) (by dsimp only; omega) u, by have := h.z; simpa [World.setCell] using this⟩
  rw [List.length_set] at hi'
  by_cases e : i' = i
  · subst e
    have e2 : (bs.set i' ((bs.getD i' []).set j u)).getD i' [] = (bs.getD i' []).set j u := by simp [List.getD, hi]
    rw [e2]
    exact (h.c i' hi).set hj u
  · have e2 : (bs.set i ((bs.getD i []).set j u)).getD i' [] = bs.getD i' [] := by simp [List.getD, List.getElem?_set_ne (Ne.symm e)]
    rw [e2]
    exact (h.c i' hi').block (Below.heap_setCell wx (⟨w0.heap.size + i, j, none⟩ : Addr) u (w0.heap.size + i') (by dsimp only; omega))

def dlen (ts : List TaskD) (t : Int) : Nat := (ts.getD t.toNat dT).deps.length
def dcost (ts : List TaskD) (t : Int) : Int := (ts.getD t.toNat dT).cost
def hears (d : WD) (k f t e l dd : Int) (x : ByteArray) (ms : List ByteArray) : Prop := d.up = true ∧ vM k f t e l dd x.size ms ∧ t = d.nu
def gets (d : WD) (ts : List TaskD) (k l dd : Int) (ms : List ByteArray) : Prop := k = 1 ∧ dd < (ts.length : Int) ∧ ms.length = dlen ts dd ∧ (d.st = 0 ∨ d.le < l)
def freed (d : WD) (k l : Int) : Prop := k = 4 ∧ d.st = 2 ∧ d.le = l
def busyD (d : WD) (ts : List TaskD) (l dd : Int) (ms : List ByteArray) : WD := ⟨d.nu, d.ep, d.up, 1, l, dd, dcost ts dd, dcost ts dd, ms, ⟨#[]⟩, 0⟩
def freeD (d : WD) : WD := ⟨d.nu, d.ep, d.up, 0, 0, 0, 0, 0, [], ⟨#[]⟩, 3⟩
def takeK (d : WD) (ts : List TaskD) (k f t e l dd : Int) (x : ByteArray) (ms : List ByteArray) (d' : WD) : Prop :=
  (hears d k f t e l dd x ms ∧ gets d ts k l dd ms ∧ d' = busyD d ts l dd ms) ∨ (hears d k f t e l dd x ms ∧ freed d k l ∧ d' = freeD d) ∨ (¬ (hears d k f t e l dd x ms ∧ (gets d ts k l dd ms ∨ freed d k l)) ∧ d' = d)
def takeR (d : WD) (ts : List TaskD) (k f t e l dd : Int) (x : ByteArray) (ms : List ByteArray) (d' : WD) : Prop :=
  (d.ok ∧ Code ts 0 ∧ takeK d ts k f t e l dd x ms d') ∨ (¬ (d.ok ∧ Code ts 0) ∧ d' = zWD)
theorem vM_in {k f t e l d : Int} {z : Nat} {ss : List ByteArray} (h : vM k f t e l d z ss) (hk : k = 1) : 1 ≤ l ∧ 0 ≤ d ∧ d ≤ 39 ∧ inOk ss := by
  subst hk
  have := (vM1 f t e l d z ss).1 h
  exact ⟨by omega, by omega, by omega, this.2.2.2.2.2.2.2.2.2.2⟩
/-- An answer of WorkerTake: it tells nothing. -/
def RetT (e' : Ending) (B : Nat) (w' : World) (F : WD → Prop) : Prop := RetA e' B w' (fun r => F r.1 ∧ r.2 = none)
theorem RetT.mk {B : Nat} {w' : World} {F : WD → Prop} (d : WD) (a : Option Addr) (c : Nat) (h : Own B w' 1 (.slice a d.ss.length c) d.ss.length (d.ss.map Value.string)) (hF : F d) :
    RetT (.returned (.agg #[.int .i64 d.nu, .int .i64 d.ep, .bool d.up, .int .i64 d.st, .int .i64 d.le, .int .i64 d.ta, .int .i64 d.co, .int .i64 d.lf, .slice a d.ss.length c, .string d.x, .int .i64 d.si, .slice none 0 0])) B w' F :=
  ⟨d, none, a, c, .slice none 0 0, rfl, h, Own.nil _ _ _, dis_of (fun q _ => by simp [Value.ownBlock]), hF, rfl⟩

theorem yields_0 (l : Int) (w : World) : Calls Tryd.prog 40 #[.iface 74 (.agg #[]), .int .i64 l] w fun e w' => e = .returned (.bool true) ∧ Below w.heap.size w w' := by
  have h1 := as_b_f w (.agg #[])
  have h2 := as_t_f w (.agg #[])
  go_enter Tryd.func40, Tryd.ntmps40
  go_wp2
  go_ret
  exact ⟨rfl, Below.refl _ _⟩
theorem yields_1 (le ta co lf : Int) (a : Option Addr) (n c : Nat) (l : Int) (w : World) : Calls Tryd.prog 40 #[.iface 76 (.agg #[.int .i64 le, .int .i64 ta, .int .i64 co, .int .i64 lf, .slice a n c]), .int .i64 l] w fun e w' => e = .returned (.bool (decide (le < l))) ∧ Below w.heap.size w w' := by
  have h1 := as_b_b w (.agg #[.int .i64 le, .int .i64 ta, .int .i64 co, .int .i64 lf, .slice a n c])
  go_enter Tryd.func40, Tryd.ntmps40
  go_wp2
  go_ret
  exact ⟨rfl, (Below.refl _ _).alloc (Nat.le_refl _) _⟩
theorem yields_2 (le ta : Int) (x : ByteArray) (l : Int) (w : World) : Calls Tryd.prog 40 #[.iface 78 (.agg #[.int .i64 le, .int .i64 ta, .string x]), .int .i64 l] w fun e w' => e = .returned (.bool (decide (le < l))) ∧ Below w.heap.size w w' := by
  have h1 := as_b_t w (.agg #[.int .i64 le, .int .i64 ta, .string x])
  have h2 := as_t_t w (.agg #[.int .i64 le, .int .i64 ta, .string x])
  go_enter Tryd.func40, Tryd.ntmps40
  go_wp2
  go_ret
  exact ⟨rfl, (Below.refl _ _).alloc (Nat.le_refl _) _⟩
theorem waits_0 (l : Int) (w : World) : Calls Tryd.prog 41 #[.iface 74 (.agg #[]), .int .i64 l] w fun e w' => e = .returned (.bool false) ∧ Below w.heap.size w w' := by
  have h2 := as_t_f w (.agg #[])
  go_enter Tryd.func41, Tryd.ntmps41
  go_wp2
  go_ret
  exact ⟨rfl, Below.refl _ _⟩
theorem waits_1 (le ta co lf : Int) (v : Value) (l : Int) (w : World) : Calls Tryd.prog 41 #[.iface 76 (.agg #[.int .i64 le, .int .i64 ta, .int .i64 co, .int .i64 lf, v]), .int .i64 l] w fun e w' => e = .returned (.bool false) ∧ Below w.heap.size w w' := by
  have h1 := as_t_b w (.agg #[.int .i64 le, .int .i64 ta, .int .i64 co, .int .i64 lf, v])
  go_enter Tryd.func41, Tryd.ntmps41
  go_wp2
  go_ret
  exact ⟨rfl, Below.refl _ _⟩
theorem waits_2 (le ta : Int) (x : ByteArray) (l : Int) (w : World) : Calls Tryd.prog 41 #[.iface 78 (.agg #[.int .i64 le, .int .i64 ta, .string x]), .int .i64 l] w fun e w' => e = .returned (.bool (le == l)) ∧ Below w.heap.size w w' := by
  have h2 := as_t_t w (.agg #[.int .i64 le, .int .i64 ta, .string x])
  go_enter Tryd.func41, Tryd.ntmps41
  go_wp2
  go_ret
  exact ⟨rfl, (Below.refl _ _).alloc (Nat.le_refl _) _⟩
/-- The task that an offer names: its cells. -/
theorem TasksAt.task {w : World} {pa : Option Addr} {pb po pn : Nat} {ts : List TaskD} (h : TasksAt w pa pb po pn ts) {dd : Int} (h0 : 0 ≤ dd) (h1 : dd < (pn : Int)) :
    ∃ (j : Nat) (a' : Option Addr) (n' c' : Nat), dd = (j : Int) ∧ j < pn ∧ pa = some ⟨pb, po, none⟩ ∧ w.cell? ⟨pb, po + j * 3 + 1, none⟩ = some (.int .i64 (dcost ts dd)) ∧ w.cell? ⟨pb, po + j * 3 + 2, none⟩ = some (.slice a' n' c') ∧ n' = dlen ts dd := by
  obtain ⟨j, rfl⟩ : ∃ j : Nat, dd = (j : Int) := ⟨dd.toNat, by omega⟩
  have hj : j < pn := by omega
  obtain ⟨T, a', b', o', n', c', hT, _, hc1, hc2, hi, _⟩ := h.get hj
  refine ⟨j, a', n', c', rfl, hj, h.ad (by omega), ?_, hc2, ?_⟩
  · rw [hc1, hT]; rfl
  · have := hi.len
    rw [← this, hT]; rfl
set_option maxHeartbeats 2000000 in
theorem offerFits_any (k f t e l dd : Int) (x : ByteArray) (ma : Option Addr) (mn mc : Nat) (pa : Option Addr) (pb po pn pc : Nat) (ts : List TaskD) (w : World) (h : TasksAt w pa pb po pn ts) (h0 : 0 ≤ dd) (h1 : dd ≤ 39) :
    Calls Tryd.prog 39 #[.agg #[.int .i64 k, .int .i64 f, .int .i64 t, .int .i64 e, .int .i64 l, .int .i64 dd, .string x, .slice ma mn mc], .agg #[.slice pa pn pc]] w fun e' w' => RetB e' (dd < (pn : Int) ∧ mn = dlen ts dd) ∧ Below w.heap.size w w' := by
  obtain ⟨W, hW⟩ : ∃ W, W = ((w.alloc (.cells #[.int .i64 k, .int .i64 f, .int .i64 t, .int .i64 e, .int .i64 l, .int .i64 dd, .string x, .slice ma mn mc] 34)).alloc (.cells #[.slice pa pn pc] 28)) := ⟨_, rfl⟩
  have hB : Below w.heap.size w W := by rw [hW]; exact ((Below.refl _ _).alloc (Nat.le_refl _) _).alloc (by simp) _
  by_cases hlt : dd < (pn : Int)
  · obtain ⟨j, a', n', c', rfl, hj, rfl, hc1, hc2, hn⟩ := (h.below' hB).task h0 hlt
    have HN := hid hn
    clear hc1 hn
    rw [hW] at hc2
    have hjp : (j : Int) < (pn : Int) := hlt
    by_cases e2 : mn = n'
    · subst e2
      go_enter Tryd.func39, Tryd.ntmps39
      go_wp2
      go_quiet (fail)
      go_wp2
      go_ret
      rw [← hW]
      exact ⟨RetB.t ⟨hlt, HN.out⟩, below_drewN hB _⟩
    · have e3 : ((mn : Int) == (n' : Int)) = false := by simp; omega
      have e4 : ¬ ((mn : Int) = (n' : Int)) := by omega
      have HE := hid e2
      clear e2
      go_enter Tryd.func39, Tryd.ntmps39
      go_wp2
      go_quiet (fail)
      go_wp2
      go_ret
      rw [← hW]
      exact ⟨RetB.f fun hh => HE.out (hh.2.trans HN.out.symm), below_drewN hB _⟩
  · have e3 : decide (dd < (pn : Int)) = false := decide_eq_false hlt
    have HLT := hid (RetB.f (p := dd < (pn : Int) ∧ mn = dlen ts dd) (fun hh => hlt hh.1))
    clear hlt
    go_enter Tryd.func39, Tryd.ntmps39
    go_wp2
    go_quiet (fail)
    go_wp2
    go_ret
    rw [← hW]
    exact ⟨HLT.out, below_drewN hB _⟩
end Go.Proofs.YtimpfhfgcmipgaaDoor
