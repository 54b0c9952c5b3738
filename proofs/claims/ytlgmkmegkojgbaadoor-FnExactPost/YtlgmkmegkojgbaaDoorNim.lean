
/-
  impl.Double, impl.Lose, impl.Bend.
-/
import Derived.Test.YtlgmkmegkojgbaaDoorNdl
namespace Go.Proofs.YtlgmkmegkojgbaaDoor
open Go.RowKit

def dblP (P : List Pc) (k : Int) : List Pc := if thereB P.length k = true then (if P.length < 2000 then P ++ [pc P k.toNat] else P) else P
/-- What 'show' to 'put' leaves. -/
def Shw (B : Nat) (w w' : World) (p f : Nat) (v : Value) (P : List Pc) (k : Int) : Prop :=
  (∃ v', LsAt B w' p f v' (dblP P k) ∧ (v'.ownBlock = v.ownBlock ∨ ∀ q, v'.ownBlock = some q → w.heap.size ≤ q)) ∧ Only w w' p f v.ownBlock

/-- An answer: a list of parcels of its own. -/
def RetP (e : Ending) (B : Nat) (w' : World) (P : List Pc) : Prop := ∃ v, e = .returned v ∧ Own B w' 3 v P.length (pcs P)

/-! ### Lose -/
def losP (P : List Pc) (k : Int) : List Pc := if thereB P.length k = true then P.take k.toNat ++ P.drop (k.toNat + 1) else P
/-- What 'give' leaves. -/
def Giv (B : Nat) (w w' : World) (p f : Nat) (v : Value) (P : List Pc) (k : Int) : Prop :=
  (∃ v', LsAt B w' p f v' (losP P k) ∧ v'.ownBlock = v.ownBlock) ∧ Only w w' p f v.ownBlock

theorem Only.trans {w w1 w2 : World} {p f : Nat} {r : Option Nat} (h : Only w w1 p f r) (k : Only w1 w2 p f r) : Only w w2 p f r :=
  ⟨k.os.trans h.os, k.tape.trans h.tape, k.output.trans h.output, Nat.le_trans h.size k.size, fun i hi h1 h2 => (k.block i (Nat.lt_of_lt_of_le hi h.size) h1 h2).trans (h.block i hi h1 h2), fun j hj => (k.cell j hj).trans (h.cell j hj), fun j => (k.frz j).trans (h.frz j)⟩
theorem Only.alloc {w w' : World} {p f : Nat} {r : Option Nat} (h : Only w w' p f r) (hp : p < w.heap.size) (ob : Obj) : Only w (w'.alloc ob) p f r :=
  ⟨h.os, h.tape, h.output, by have := h.size; simp; omega, fun k hk h1 h2 => (Below.heap_alloc w' ob k (Nat.lt_of_lt_of_le hk h.size)).trans (h.block k hk h1 h2), fun j hj => (World.cell?_of_block (w := w') (Below.heap_alloc w' ob p (Nat.lt_of_lt_of_le hp h.size))).trans (h.cell j hj), fun j => (World.frozen?_of_block (w := w') (Below.heap_alloc w' ob p (Nat.lt_of_lt_of_le hp h.size))).trans (h.frz j)⟩

end Go.Proofs.YtlgmkmegkojgbaaDoor
