
/-
  The cells of a block.
-/
import Derived.Test.YtlgmkmegkojgbaaDoorMem
import Derived.Deep.MidRow
namespace Go.Proofs.YtlgmkmegkojgbaaDoor
open Go.RowKit

/-- The cells of a block, from its head on. -/
def MC (w : World) (p : Nat) (vs : List Value) : Prop := ∀ j, j < vs.length → w.cell? ⟨p, j, none⟩ = vs[j]?
theorem MC.below {w w' : World} {p B : Nat} {vs : List Value} (h : MC w p vs) (hb : Below B w w') (hp : p < B) : MC w' p vs := fun j hj => (hb.cell (p := ⟨p, j, none⟩) hp).trans (h j hj)
theorem MC.made (w : World) (cs : Array Value) (T : TypeId) : MC (w.alloc (.cells cs T)) w.heap.size cs.toList := fun j _ => by
  have := World.cell?_alloc_mark w cs T (0, 0) j
  rw [this]; simp
theorem MC.block {w w' : World} {p : Nat} {vs : List Value} (h : MC w p vs) (hb : w'.heap[p]? = w.heap[p]?) : MC w' p vs := fun j hj => (World.cell?_of_block (w := w) (a := ⟨p, j, none⟩) hb).trans (h j hj)
theorem gset {w w' : World} {b : Nat} (h : w.grownBy w' (some b)) (j : Nat) (v : Value) : w.grownBy (w'.setCell ⟨b, j, none⟩ v) (some b) :=
  ⟨h.os, h.tape, h.output, by simpa [World.setCell] using h.size, fun k hk hne => (Below.heap_setCell _ _ _ _ (fun e => hne (by simp [e]))).trans (h.block k hk hne)⟩
theorem galloc {w w' : World} {row : Option Nat} (h : w.grownBy w' row) (ob : Obj) : w.grownBy (w'.alloc ob) row :=
  ⟨h.os, h.tape, h.output, by have := h.size; simp; omega, fun k hk hne => (Below.heap_alloc w' ob k (Nat.lt_of_lt_of_le hk h.size)).trans (h.block k hk hne)⟩
/-- The cells of a block, from its head on, none frozen. -/
def CF (w : World) (p : Nat) (vs : List Value) : Prop := ∀ j, j < vs.length → w.cell? ⟨p, j, none⟩ = vs[j]? ∧ w.frozen? ⟨p, j, none⟩ = false
theorem CF.block {w w' : World} {p : Nat} {vs : List Value} (h : CF w p vs) (hb : w'.heap[p]? = w.heap[p]?) : CF w' p vs := fun j hj =>
  ⟨(World.cell?_of_block (w := w) (a := ⟨p, j, none⟩) hb).trans (h j hj).1, (World.frozen?_of_block (w := w) (a := ⟨p, j, none⟩) hb).trans (h j hj).2⟩
theorem CF.set {w : World} {p : Nat} {vs : List Value} (h : CF w p vs) {j : Nat} (hj : j < vs.length) (u : Value) : CF (w.setCell ⟨p, j, none⟩ u) p (vs.set j u) := fun i hi => by
  rw [List.length_set] at hi
  refine ⟨?_, by rw [World.frozen?_setCell]; exact (h i hi).2⟩
  by_cases e : i = j
  · subst e
    have := (h i hi).1
    rw [List.getElem?_eq_getElem hi] at this
    rw [World.cell?_setCell_same _ _ _ this, List.getElem?_set_self hi]
  · rw [World.cell?_setCell_other _ _ _ _ (by intro hh; injection hh with _ h2 _; omega), List.getElem?_set_ne (by omega)]
    exact (h i hi).1
theorem CF.made (w : World) (cs : Array Value) (T : TypeId) : CF (w.alloc (.cells cs T)) w.heap.size cs.toList := fun j _ => by
  have h1 := World.cell?_alloc_mark w cs T (0, 0) j
  have h2 := World.frozen?_alloc_mark w cs T 0 0 j
  refine ⟨by rw [h1]; simp, by rw [h2]; simp⟩

theorem grown_setCells (p : Nat) : ∀ (vs : List Value) (o : Nat) (w0 w : World), w0.grownBy w (some p) → w0.grownBy (w.setCells p o vs) (some p)
  | [], _, _, _, h => h
  | v :: r, o, w0, _, h => grown_setCells p r (o + 1) w0 _ (gset h o v)
theorem CF.stored {w : World} {p : Nat} {old vs : List Value} (h : CF w p old) (hl : old.length = vs.length) : CF (w.setCells p 0 vs) p vs := fun j hj => by
  have hin := World.cell?_setCells_in p vs 0 w (fun i hi => by
    obtain ⟨h1, _⟩ := h i (by omega)
    rw [Nat.zero_add, h1, List.getElem?_eq_getElem (by omega)]; rfl) j hj
  rw [Nat.zero_add] at hin
  refine ⟨by rw [hin, List.getElem?_eq_getElem hj], ?_⟩
  rw [World.frozen?_setCells]
  exact (h j (by omega)).2
/-- A store of a whole message, for the walk. -/
theorem wpList_store_cf {P : Program} {ops : Array Oper} {rest : List Oper} {op : Oper} {a : Act} {w : World} {Q : Exit → Act → World → Prop} (hgd : op.guard = none) (ty : TypeId) (x y : Operand) (ho : op.op = .store ty x y)
    (p : Nat) (old vs : List Value) (hx : a.eval x = .pointer (some ⟨p, 0, none⟩)) (hy : a.eval y = .agg vs.toArray) (hc : CF w p old) (hl : old.length = vs.length) (hi : (P.info? ty).map (·.size) = some vs.length) (h1 : ∀ v ∈ vs, v.oneCell' = true)
    (hK : ∀ W', CF W' p vs → w.grownBy W' (some p) → wpList P ops Q rest (a.put op.dst undef) W') : wpList P ops Q (op :: rest) a w := by
  refine wpList_store_mid hgd ty x y ho p 0 vs.toArray hx hy (fun i hi => ?_) (by simpa using hi) (all_oneCell_toArray h1) ?_
  · have hi' : i < old.length := by simpa [hl] using hi
    obtain ⟨h1, h2⟩ := hc i hi'
    exact ⟨by rw [Nat.zero_add, h1, List.getElem?_eq_getElem hi']; rfl, by rw [Nat.zero_add]; exact h2⟩
  · exact hK _ (hc.stored hl) (grown_setCells p vs 0 w w (World.grownBy.refl _ _))

theorem one8 (k f t e l d : Int) (x : ByteArray) (a : Option Addr) (n c : Nat) : ∀ v ∈ [Value.int .i64 k, .int .i64 f, .int .i64 t, .int .i64 e, .int .i64 l, .int .i64 d, .string x, .slice a n c], v.oneCell' = true := by
  intro v hv
  simp only [List.mem_cons, List.not_mem_nil, or_false] at hv
  rcases hv with rfl | rfl | rfl | rfl | rfl | rfl | rfl | rfl <;> rfl
theorem Own.mono' {B B' : Nat} {w : World} {size : Nat} {v : Value} {n : Nat} {xs : List Value} (h : Own B w size v n xs) (hB : B' ≤ B) : Own B' w size v n xs := by
  rcases h with h | ⟨g, o, cap, hv, hc⟩
  · exact .inl h
  · exact .inr ⟨g, o, cap, hv, hc.mono hB⟩
def zM : List Value := [.int .i64 0, .int .i64 0, .int .i64 0, .int .i64 0, .int .i64 0, .int .i64 0, .string ⟨#[]⟩, .slice none 0 0]
theorem Own.slc {B : Nat} {w : World} {size : Nat} {v : Value} {n : Nat} {xs : List Value} (h : Own B w size v n xs) : ∃ a c, v = .slice a n c := by
  rcases h with ⟨rfl, rfl, rfl⟩ | ⟨g, o, cap, rfl, hc⟩
  · exact ⟨none, 0, rfl⟩
  · exact ⟨_, _, rfl⟩
end Go.Proofs.YtlgmkmegkojgbaaDoor
