import Derived.Test.YtlpmcjlcmjlbeaaQLawWk
import Derived.Test.YtlpmcjlcmjlbeaaQMark
import Derived.Test.YtlpmcjlcmjlbeaaQCel
import Derived.Deep.DeepCutAuto
namespace Go.Proofs.Ytlpmcjlcmjlbeaa
open Go.RowKit

theorem MC.lt {w : World} {p : Nat} {v : Value} {vs : List Value} (h : MC w p (v :: vs)) : p < w.heap.size := World.block_lt_of_cell? w ⟨p, 0, none⟩ (h 0 (by simp))
theorem MC.belowS {w w' : World} {p : Nat} {v : Value} {vs : List Value} (h : MC w p (v :: vs)) (hb : Below w.heap.size w w') : MC w' p (v :: vs) := h.below hb h.lt
theorem MC.grown {w w' : World} {p : Nat} {v : Value} {vs : List Value} {row : Option Nat} (h : MC w p (v :: vs)) (hg : w.grownBy w' row) (hr : some p ≠ row) : MC w' p (v :: vs) := h.block (hg.block p h.lt hr)
theorem StrsAt.grownR {w w' : World} {a : Option Addr} {b o n : Nat} {ss : List ByteArray} {row : Option Nat} (h : StrsAt w a b o n ss) (hg : w.grownBy w' row) (hr : 0 < n → some b ≠ row) : StrsAt w' a b o n ss :=
  ⟨h.ad, h.len, h.max, fun hn => Nat.lt_of_lt_of_le (h.lt hn) hg.size, fun j hj => (World.cell?_of_block (w := w) (a := ⟨b, o + j, none⟩) (hg.block b (h.lt (by omega)) (hr (by omega)))).trans (h.cell j hj), h.sz⟩
/-- As what a list that a call owns reads. -/
theorem Own.strsB {B : Nat} {w : World} {a : Option Addr} {n c : Nat} {ss : List ByteArray} (h : Own B w 1 (.slice a n c) n (ss.map Value.string)) (hz : ∀ s ∈ ss, s.size ≤ maxLen) : ∃ b o, StrsAt w a b o n ss ∧ (0 < n → some b = (Value.slice a n c).ownBlock ∧ B ≤ b) := by
  rcases h with ⟨hv, rfl, he⟩ | ⟨g, o, cap, hv, hc⟩
  · have : ss = [] := by simpa using he
    subst this
    exact ⟨0, 0, ⟨fun h => absurd h (by omega), rfl, Nat.zero_le _, fun h => absurd h (by omega), fun j hj => absurd hj (by omega), by simp⟩, fun h => absurd h (by omega)⟩
  · simp only [Value.slice.injEq] at hv
    obtain ⟨rfl, _, rfl⟩ := hv
    exact ⟨g, o, StrsAt.ofOwn hc hz, fun _ => ⟨rfl, hc.lo⟩⟩

/-- A worker. -/
structure WD where
  nu : Int
  ep : Int
  up : Bool
  st : Int
  le : Int
  ta : Int
  co : Int
  lf : Int
  ss : List ByteArray
  x : ByteArray
  si : Int
def WD.ok (d : WD) : Prop := vW d.nu d.ep d.up d.st d.le d.ta d.co d.lf d.ss d.x.size d.si
def WD.v (d : WD) (a : Option Addr) (c : Nat) : Value := .agg #[.int .i64 d.nu, .int .i64 d.ep, .bool d.up, .int .i64 d.st, .int .i64 d.le, .int .i64 d.ta, .int .i64 d.co, .int .i64 d.lf, .slice a d.ss.length c, .string d.x, .int .i64 d.si]
def eb : ByteArray := ⟨#[]⟩
def zWD : WD := ⟨0, 0, false, 0, 0, 0, 0, 0, [], ⟨#[]⟩, 0⟩
/-- A worker handed back. -/
def RetW (e : Ending) (B : Nat) (w' : World) (F : WD → Prop) : Prop := ∃ (d : WD) (a : Option Addr) (c : Nat), e = .returned (d.v a c) ∧ Own B w' 1 (.slice a d.ss.length c) d.ss.length (d.ss.map Value.string) ∧ F d
theorem WD.ok.small {d : WD} (h : d.ok) : d.ss.length ≤ 8 ∧ ∀ s ∈ d.ss, s.size ≤ maxLen := by
  obtain ⟨_, _, _, _, _, _, _, h | h | h⟩ := h
  · have h0 : d.ss = [] := List.eq_nil_of_length_eq_zero h.2.2.2.2.2.1
    rw [h0]; exact ⟨by simp, by simp⟩
  · obtain ⟨h8, he⟩ := h.2.2.2.2.2.2.2.2.2.2
    refine ⟨h8, fun s hs => ?_⟩
    obtain ⟨j, hj, rfl⟩ := List.mem_iff_getElem.1 hs
    have := he j hj
    simp only [List.getD, List.getElem?_eq_getElem hj, Option.getD_some] at this
    rw [this]; decide
  · have h0 : d.ss = [] := List.eq_nil_of_length_eq_zero h.2.2.2.2.2.2.2.2
    rw [h0]; exact ⟨by simp, by simp⟩
theorem bytes0 {x : ByteArray} (h : x.size = 0) : x = ⟨#[]⟩ := by
  obtain ⟨⟨l⟩⟩ := x
  have : l = [] := List.eq_nil_of_length_eq_zero h
  subst this; rfl

def fallR (d d' : WD) : Prop := (d.ok ∧ d' = ⟨d.nu, d.ep, false, 0, 0, 0, 0, 0, [], ⟨#[]⟩, 0⟩) ∨ (¬ d.ok ∧ d' = zWD)
def riseR (d d' : WD) : Prop := (d.ok ∧ ((d.up = true ∨ d.ep = 300) ∧ d' = d ∨ ¬ (d.up = true ∨ d.ep = 300) ∧ d' = ⟨d.nu, d.ep + 1, true, 0, 0, 0, 0, 0, [], ⟨#[]⟩, 3⟩)) ∨ (¬ d.ok ∧ d' = zWD)
theorem fallR.uniq {d a b : WD} (h : fallR d a) (h' : fallR d b) : a = b := by
  rcases h with ⟨h, rfl⟩ | ⟨h, rfl⟩ <;> rcases h' with ⟨h', rfl⟩ | ⟨h', rfl⟩ <;> first | rfl | exact absurd h h' | exact absurd h' h
theorem riseR.uniq {d a b : WD} (h : riseR d a) (h' : riseR d b) : a = b := by
  rcases h with ⟨h, ⟨h1, rfl⟩ | ⟨h1, rfl⟩⟩ | ⟨h, rfl⟩ <;> rcases h' with ⟨h', ⟨h1', rfl⟩ | ⟨h1', rfl⟩⟩ | ⟨h', rfl⟩ <;> first | rfl | exact absurd h h' | exact absurd h' h | exact absurd h1 h1' | exact absurd h1' h1
theorem fallR.small {d a : WD} (h : fallR d a) : a.ss.length ≤ 8 ∧ ∀ s ∈ a.ss, s.size ≤ maxLen := by
  rcases h with ⟨h, rfl⟩ | ⟨h, rfl⟩ <;> exact ⟨by simp [zWD], by simp [zWD]⟩
theorem riseR.small {d a : WD} (h : riseR d a) : a.ss.length ≤ 8 ∧ ∀ s ∈ a.ss, s.size ≤ maxLen := by
  rcases h with ⟨h, ⟨_, rfl⟩ | ⟨_, rfl⟩⟩ | ⟨h, rfl⟩
  · exact h.small
  · exact ⟨by simp, by simp⟩
  · exact ⟨by simp [zWD], by simp [zWD]⟩

set_option maxHeartbeats 1000000 in
set_option maxRecDepth 100000 in
theorem markWorker_own (nu ep : Int) (up : Bool) (st le ta co lf : Int) (x : ByteArray) (si : Int) (a : Option Addr) (n c : Nat) (B : Nat) (xs : List Value) (w : World) (hn : n ≤ 1048576) (h : Own B w 1 (.slice a n c) n xs) :
    Calls Try.prog 14 #[.agg #[.int .i64 nu, .int .i64 ep, .bool up, .int .i64 st, .int .i64 le, .int .i64 ta, .int .i64 co, .int .i64 lf, .slice a n c, .string x, .int .i64 si], .int .i64 1] w fun e' w' => e' = .returned (.int .i64 (1 + (n : Int))) ∧ Own B w' 1 (.slice a n c) n ((mks 1 n).map Value.string) ∧ w.grownBy w' (Value.slice a n c).ownBlock := by
  obtain ⟨W, hW⟩ : ∃ W, W = w.alloc (.cells #[.int .i64 nu, .int .i64 ep, .bool up, .int .i64 st, .int .i64 le, .int .i64 ta, .int .i64 co, .int .i64 lf, .slice a n c, .string x, .int .i64 si] 27) := ⟨_, rfl⟩
  have hgW : w.grownBy W (Value.slice a n c).ownBlock := by rw [hW]; exact galloc (World.grownBy.refl _ _) _
  have hoW : Own B W 1 (.slice a n c) n xs := by rw [hW]; exact h.alloc _
  have hmk : ∀ w1 : World, Own B w1 1 (.slice a n c) n xs → Calls Try.prog 41 #[.slice a n c, .int .i64 1] w1 fun e w' => e = .returned (.int .i64 (1 + (n : Int))) ∧ Own B w' 1 (.slice a n c) n ((mks 1 n).map Value.string) ∧ w1.grownBy w' (Value.slice a n c).ownBlock := fun w1 h1 => markStringS_own2 a n c 1 B xs w1 (by omega) (by omega) hn h1
  have HK := hid hmk
  clear hmk
  go_enter Try.func14, Try.ntmps14
  go_wp2_with fail
  rw [← hW]
  refine (HK.out _ hoW).mono ?_
  rintro e' w1 ⟨rfl, ho1, hg1⟩
  clear hW
  go_wp2
  go_ret
  exact ⟨rfl, ho1, grownBy_trans hgW hg1⟩

set_option maxHeartbeats 1000000 in
set_option maxRecDepth 100000 in
theorem heldWorker_any (nu ep : Int) (up : Bool) (st le ta co lf : Int) (x : ByteArray) (si : Int) (a : Option Addr) (b o n c : Nat) (w : World) (hn : n ≤ 1048576) (h : StrsAt w a b o n (mks 1 n)) :
    Calls Try.prog 15 #[.agg #[.int .i64 nu, .int .i64 ep, .bool up, .int .i64 st, .int .i64 le, .int .i64 ta, .int .i64 co, .int .i64 lf, .slice a n c, .string x, .int .i64 si], .int .i64 1] w fun e' w' => e' = .returned (.int .i64 (1 + (n : Int))) ∧ Below w.heap.size w w' := by
  obtain ⟨W, hW⟩ : ∃ W, W = w.alloc (.cells #[.int .i64 nu, .int .i64 ep, .bool up, .int .i64 st, .int .i64 le, .int .i64 ta, .int .i64 co, .int .i64 lf, .slice a n c, .string x, .int .i64 si] 27) := ⟨_, rfl⟩
  have hbW : Below w.heap.size w W := by rw [hW]; exact (Below.refl _ _).alloc (Nat.le_refl _) _
  have hmk : ∀ w1 : World, StrsAt w1 a b o n (mks 1 n) → Calls Try.prog 42 #[.slice a n c, .int .i64 1] w1 fun e w' => e = .returned (.int .i64 (1 + (n : Int))) ∧ Below w1.heap.size w1 w' := fun w1 h1 => heldStringS_any a b o n c 1 w1 (by omega) (by omega) hn h1
  have HK := hid hmk
  clear hmk
  go_enter Try.func15, Try.ntmps15
  go_wp2_with fail
  rw [← hW]
  refine (HK.out _ (h.below' hbW)).mono ?_
  rintro e' w1 ⟨rfl, hb1⟩
  clear hW
  have hB1 := hbW.trans (hb1.mono hbW.size)
  have hp : ¬ (1 + (n : Int)) < 0 := by omega
  go_wp2
  go_ret
  exact ⟨rfl, hB1⟩
end Go.Proofs.Ytlpmcjlcmjlbeaa
