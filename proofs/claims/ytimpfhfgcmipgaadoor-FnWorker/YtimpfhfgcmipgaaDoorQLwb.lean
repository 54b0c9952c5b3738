
import Derived.Test.YtimpfhfgcmipgaaDoorQLawWk
import Derived.Test.YtimpfhfgcmipgaaDoorQMark
import Derived.Test.YtimpfhfgcmipgaaDoorQCel
import Derived.Deep.DeepCutAuto
namespace Go.Proofs.YtimpfhfgcmipgaaDoor
open Go.RowKit

theorem MC.lt {w : World} {p : Nat} {v : Value} {vs : List Value} (h : MC w p (v :: vs)) : p < w.heap.size := World.block_lt_of_cell? w ⟨p, 0, none⟩ (h 0 (by simp))
theorem MC.belowS {w w' : World} {p : Nat} {v : Value} {vs : List Value} (h : MC w p (v :: vs)) (hb : Below w.heap.size w w') : MC w' p (v :: vs) := h.below hb h.lt
theorem MC.grown {w w' : World} {p : Nat} {v : Value} {vs : List Value} {row : Option Nat} (h : MC w p (v :: vs)) (hg : w.grownBy w' row) (hr : some p ≠ row) : MC w' p (v :: vs) := h.block (hg.block p h.lt hr)
theorem StrsAt.grownR {w w' : World} {a : Option Addr} {b o n : Nat} {ss : List ByteArray} {row : Option Nat} (h : StrsAt w a b o n ss) (hg : w.grownBy w' row) (hr : 0 < n → some b ≠ row) : StrsAt w' a b o n ss :=
  ⟨h.ad, h.len, h.max, fun hn => Nat.lt_of_lt_of_le (h.lt hn) hg.size, fun j hj => (World.cell?_of_block (w := w) (a := ⟨b, o + j, none⟩) (hg.block b (h.lt (by omega)) (hr (by omega)))).trans (h.cell j hj), h.sz⟩
/-- As what a list that a call owns reads. -/
theorem Own.strsB {B : Nat} {w : World} {a : Option Addr} {n c : Nat} {ss : List ByteArray} (h : Own B w 1 (.slice a n c) n (ss.map Value.string)) (hz : ∀ s ∈ ss, s.size ≤ maxLen) : ∃ b o, StrsAt w a b o n ss ∧ (0 < n → some b = (Value.slice a n c).ownBlock ∧ B ≤ b) := by
  rcases h with ⟨hv, rfl, he⟩ | ⟨g, o, cap, hv, hc⟩
  · have : ss = [] := by simpa using he
    subst this
    exact ⟨0, 0, ⟨fun h => absurd h (by omega), rfl, Nat.zero_le _, fun h => absurd h (by omega), fun j hj => absurd hj (by omega), by simp⟩, fun h => absurd h (by omega)⟩
  · simp only [Value.slice.injEq] at hv
    obtain ⟨rfl, _, rfl⟩ := hv
    exact ⟨g, o, StrsAt.ofOwn hc hz, fun _ => ⟨rfl, hc.lo⟩⟩

/-- A worker. -/
structure WD where
  nu : Int
  ep : Int
  up : Bool
  st : Int
  le : Int
  ta : Int
  co : Int
  lf : Int
  ss : List ByteArray
  x : ByteArray
  si : Int
def WD.ok (d : WD) : Prop := vW d.nu d.ep d.up d.st d.le d.ta d.co d.lf d.ss d.x.size d.si
def WD.v (d : WD) (a : Option Addr) (c : Nat) : Value := .agg #[.int .i64 d.nu, .int .i64 d.ep, .bool d.up, .int .i64 d.st, .int .i64 d.le, .int .i64 d.ta, .int .i64 d.co, .int .i64 d.lf, .slice a d.ss.length c, .string d.x, .int .i64 d.si]
def zWD : WD := ⟨0, 0, false, 0, 0, 0, 0, 0, [], ⟨#[]⟩, 0⟩
/-- A worker handed back. -/
def RetW (e : Ending) (B : Nat) (w' : World) (F : WD → Prop) : Prop := ∃ (d : WD) (a : Option Addr) (c : Nat), e = .returned (d.v a c) ∧ Own B w' 1 (.slice a d.ss.length c) d.ss.length (d.ss.map Value.string) ∧ F d
theorem WD.ok.small {d : WD} (h : d.ok) : d.ss.length ≤ 8 ∧ ∀ s ∈ d.ss, s.size ≤ maxLen := by
  obtain ⟨_, _, _, _, _, _, _, h | h | h⟩ := h
  · have h0 : d.ss = [] := List.eq_nil_of_length_eq_zero h.2.2.2.2.2.1
    rw [h0]; exact ⟨by simp, by simp⟩
  · obtain ⟨h8, he⟩ := h.2.2.2.2.2.2.2.2.2.2
    refine ⟨h8, fun s hs => ?_⟩
    obtain ⟨j, hj, rfl⟩ := List.mem_iff_getElem.1 hs
    have := he j hj
    simp only [List.getD, List.getElem?_eq_getElem hj, Option.getD_some] at this
    rw [this]; decide
  · have h0 : d.ss = [] := List.eq_nil_of_length_eq_zero h.2.2.2.2.2.2.2.2
    rw [h0]; exact ⟨by simp, by simp⟩
theorem bytes0 {x : ByteArray} (h : x.size = 0) : x = ⟨#[]⟩ := by
  obtain ⟨⟨l⟩⟩ := x
  have : l = [] := List.eq_nil_of_length_eq_zero h
  subst this; rfl

end Go.Proofs.YtimpfhfgcmipgaaDoor
