
import Derived.Test.YtimpfhfgcmipgaaDoorQDpl
import Derived.Test.YtimpfhfgcmipgaaDoorQHld
namespace Go.Proofs.YtimpfhfgcmipgaaDoor
open Go.RowKit

section
variable {ρ : Operand → Value} {o : Oper} {w : World}
theorem run_mvD {v : Value} (x : Operand) (h : o.op = .move x) (hx : ρ x = v) : (execOp ρ o).run Tryd.prog w = .ok (.value v) w := by
  unfold execOp; rw [h]; simp [go_sem, hx]
theorem run_faP {b : Nat} (x : Operand) (h : o.op = .fieldAddr 28 x 0) (hx : ρ x = .pointer (some ⟨b, 0, none⟩)) : (execOp ρ o).run Tryd.prog w = .ok (.value (.pointer (some ⟨b, 0, none⟩))) w := by
  unfold execOp; rw [h]; simp [go_sem, hx]
theorem run_faT0 {b oo : Nat} (x : Operand) (h : o.op = .fieldAddr 37 x 0) (hx : ρ x = .pointer (some ⟨b, oo, none⟩)) : (execOp ρ o).run Tryd.prog w = .ok (.value (.pointer (some ⟨b, oo, none⟩))) w := by
  unfold execOp; rw [h]; simp [go_sem, hx]
theorem run_faT1 {b oo : Nat} (x : Operand) (h : o.op = .fieldAddr 37 x 1) (hx : ρ x = .pointer (some ⟨b, oo, none⟩)) : (execOp ρ o).run Tryd.prog w = .ok (.value (.pointer (some ⟨b, oo + 1, none⟩))) w := by
  unfold execOp; rw [h]; simp [go_sem, hx]
theorem run_faT2 {b oo : Nat} (x : Operand) (h : o.op = .fieldAddr 37 x 2) (hx : ρ x = .pointer (some ⟨b, oo, none⟩)) : (execOp ρ o).run Tryd.prog w = .ok (.value (.pointer (some ⟨b, oo + 2, none⟩))) w := by
  unfold execOp; rw [h]; simp [go_sem, hx]
theorem run_ixT (x y : Operand) (b oo n c i : Nat) (h : o.op = .indexAddr 26 x y) (hx : ρ x = .slice (some ⟨b, oo, none⟩) n c) (hy : ρ y = .int .i64 (i : Nat)) (hi : i < n) : (execOp ρ o).run Tryd.prog w = .ok (.value (.pointer (some ⟨b, oo + i * 3, none⟩))) w := by
  have hi' : (i : Int) < (n : Int) := by omega
  unfold execOp; rw [h]; simp [go_sem, hx, hy, hi']
theorem run_ixI (x y : Operand) (b n c i : Nat) (h : o.op = .indexAddr 35 x y) (hx : ρ x = .slice (some ⟨b, 0, none⟩) n c) (hy : ρ y = .int .i64 (i : Nat)) (hi : i < n) : (execOp ρ o).run Tryd.prog w = .ok (.value (.pointer (some ⟨b, i, none⟩))) w := by
  have hi' : (i : Int) < (n : Int) := by omega
  unfold execOp; rw [h]; simp [go_sem, hx, hy, hi']
theorem run_ixS (x y : Operand) (b n c i : Nat) (h : o.op = .indexAddr 23 x y) (hx : ρ x = .slice (some ⟨b, 0, none⟩) n c) (hy : ρ y = .int .i64 (i : Nat)) (hi : i < n) : (execOp ρ o).run Tryd.prog w = .ok (.value (.pointer (some ⟨b, i, none⟩))) w := by
  have hi' : (i : Int) < (n : Int) := by omega
  unfold execOp; rw [h]; simp [go_sem, hx, hy, hi']
theorem run_addSS (x y : Operand) (s t : ByteArray) (h : o.op = .binOp .add 9 x y 9) (hx : ρ x = .string s) (hy : ρ y = .string t) (hz : s.size + t.size ≤ 1000000) : (execOp ρ o).run Tryd.prog w = .ok (.value (.string (s ++ t))) w := by
  have hz' : ¬ 9223372036854775807 < s.size + t.size := by omega
  unfold execOp; rw [h]; simp [go_sem, hx, hy, hz']
theorem run_addII (x y : Operand) (a b : Int) (h : o.op = .binOp .add 3 x y 3) (hx : ρ x = .int .i64 a) (hy : ρ y = .int .i64 b) (hz : -1000000 ≤ a + b ∧ a + b ≤ 1000000) : (execOp ρ o).run Tryd.prog w = .ok (.value (.int .i64 (a + b))) w := by
  have hw : IntKind.i64.wrap (a + b) = a + b := by rw [IntKind.wrap_i64]; omega
  unfold execOp; rw [h]; simp [go_sem, hx, hy]
  first | done | exact hw | (rw [hw]) | omega
theorem run_lssI (x y : Operand) (a b : Int) (h : o.op = .binOp .lss 3 x y 3) (hx : ρ x = .int .i64 a) (hy : ρ y = .int .i64 b) : (execOp ρ o).run Tryd.prog w = .ok (.value (.bool (decide (a < b)))) w := by
  unfold execOp; rw [h]; simp [go_sem, hx, hy]
theorem run_lenT (x : Operand) (a : Option Addr) (n c : Nat) (h : o.op = .call { callee := .builtin .len, args := #[x], argTypes := #[26] }) (hx : ρ x = .slice a n c) : (execOp ρ o).run Tryd.prog w = .ok (.value (.int .i64 (n : Nat))) w := by
  unfold execOp; rw [h]; simp [go_sem, hx]
theorem run_bT2 (x y : Operand) (s : ByteArray) (c : Int) (h : o.op = .build 37 #[(0, x), (1, y)]) (hx : ρ x = .string s) (hy : ρ y = .int .i64 c) : (execOp ρ o).run Tryd.prog w = .ok (.value (.agg #[.string s, .int .i64 c, .slice none 0 0])) w := by
  unfold execOp; rw [h]; simp [go_sem, hx, hy]
theorem run_bsS5 (x0 x1 x2 x3 x4 : Operand) (s0 s1 s2 s3 s4 : ByteArray) (h : o.op = .buildSlice 23 5 #[(0, x0), (1, x1), (2, x2), (3, x3), (4, x4)]) (h0 : ρ x0 = .string s0) (h1 : ρ x1 = .string s1) (h2 : ρ x2 = .string s2) (h3 : ρ x3 = .string s3) (h4 : ρ x4 = .string s4) :
    (execOp ρ o).run Tryd.prog w = .ok (.value (.slice (some ⟨w.heap.size, 0, none⟩) 5 5)) (w.alloc (.cells #[.string s0, .string s1, .string s2, .string s3, .string s4] 9)) := by
  unfold execOp; rw [h]; simp [go_sem, h0, h1, h2, h3, h4]
theorem run_bsI4 (x0 x1 x2 x3 : Operand) (i0 i1 i2 i3 : Int) (h : o.op = .buildSlice 35 4 #[(0, x0), (1, x1), (2, x2), (3, x3)]) (h0 : ρ x0 = .int .i64 i0) (h1 : ρ x1 = .int .i64 i1) (h2 : ρ x2 = .int .i64 i2) (h3 : ρ x3 = .int .i64 i3) :
    (execOp ρ o).run Tryd.prog w = .ok (.value (.slice (some ⟨w.heap.size, 0, none⟩) 4 4)) (w.alloc (.cells #[.int .i64 i0, .int .i64 i1, .int .i64 i2, .int .i64 i3] 3)) := by
  unfold execOp; rw [h]; simp [go_sem, h0, h1, h2, h3]
theorem run_bsI1 (x0 : Operand) (i0 : Int) (h : o.op = .buildSlice 35 1 #[(0, x0)]) (h0 : ρ x0 = .int .i64 i0) :
    (execOp ρ o).run Tryd.prog w = .ok (.value (.slice (some ⟨w.heap.size, 0, none⟩) 1 1)) (w.alloc (.cells #[.int .i64 i0] 3)) := by
  unfold execOp; rw [h]; simp [go_sem, h0]
theorem run_bsI9 (x0 x1 x2 x3 x4 x5 x6 x7 x8 : Operand) (h : o.op = .buildSlice 35 9 #[(0, x0), (1, x1), (2, x2), (3, x3), (4, x4), (5, x5), (6, x6), (7, x7), (8, x8)]) (h0 : ρ x0 = .int .i64 0) (h1 : ρ x1 = .int .i64 1) (h2 : ρ x2 = .int .i64 2) (h3 : ρ x3 = .int .i64 3) (h4 : ρ x4 = .int .i64 4) (h5 : ρ x5 = .int .i64 5) (h6 : ρ x6 = .int .i64 6) (h7 : ρ x7 = .int .i64 7) (h8 : ρ x8 = .int .i64 8) :
    (execOp ρ o).run Tryd.prog w = .ok (.value (.slice (some ⟨w.heap.size, 0, none⟩) 9 9)) (w.alloc (.cells #[.int .i64 0, .int .i64 1, .int .i64 2, .int .i64 3, .int .i64 4, .int .i64 5, .int .i64 6, .int .i64 7, .int .i64 8] 3)) := by
  unfold execOp; rw [h]; simp [go_sem, h0, h1, h2, h3, h4, h5, h6, h7, h8]
theorem run_slI (x y : Operand) (b n c m : Nat) (h : o.op = .slice 35 x none (some y) none) (hx : ρ x = .slice (some ⟨b, 0, none⟩) n c) (hy : ρ y = .int .i64 (m : Nat)) (hm : m ≤ c) : (execOp ρ o).run Tryd.prog w = .ok (.value (.slice (some ⟨b, 0, none⟩) m c)) w := by
  have hm' : (m : Int) ≤ (c : Int) := by omega
  unfold execOp; rw [h]; simp [go_sem, hx, hy, hm']
theorem run_stSt {p : Addr} {v0 : Value} (x y : Operand) (s : ByteArray) (h : o.op = .store 9 x y) (hx : ρ x = .pointer (some p)) (hy : ρ y = .string s) (hc : w.cell? p = some v0) (hf : w.frozen? p = false) : (execOp ρ o).run Tryd.prog w = .ok .skip (w.setCell p (.string s)) := by
  unfold execOp; rw [h]; simp [go_sem, hx, hy, hc, hf]
theorem run_stIn {p : Addr} {v0 : Value} (x y : Operand) (i : Int) (h : o.op = .store 3 x y) (hx : ρ x = .pointer (some p)) (hy : ρ y = .int .i64 i) (hc : w.cell? p = some v0) (hf : w.frozen? p = false) : (execOp ρ o).run Tryd.prog w = .ok .skip (w.setCell p (.int .i64 i)) := by
  unfold execOp; rw [h]; simp [go_sem, hx, hy, hc, hf]
theorem run_stIs {p : Addr} {v0 : Value} (x y : Operand) (a : Option Addr) (n c : Nat) (h : o.op = .store 35 x y) (hx : ρ x = .pointer (some p)) (hy : ρ y = .slice a n c) (hc : w.cell? p = some v0) (hf : w.frozen? p = false) : (execOp ρ o).run Tryd.prog w = .ok .skip (w.setCell p (.slice a n c)) := by
  unfold execOp; rw [h]; simp [go_sem, hx, hy, hc, hf]
end
/-! ### changes in place -/
theorem rowC_upd (ts : List TaskD) (vs vs' : List Value) (i : Nat) (hi : i < ts.length) (t : TaskD) (r : Nat) (hr : r < 3) (u : Value) (h0 : ∀ q, q < 3 → q ≠ r → (tcell t (vs'.getD i nilV))[q]? = (tcell (ts.getD i dT) (vs.getD i nilV))[q]?) (h1 : (tcell t (vs'.getD i nilV))[r]? = some u) (hv : ∀ j, j ≠ i → vs'.getD j nilV = vs.getD j nilV) :
    (rowC ts vs).set (i * 3 + r) u = rowC (ts.set i t) vs' := by
  refine ext3 (n := ts.length) (by simp [rowC_length]) (by rw [rowC_length, List.length_set]) fun j q hj hq => ?_
  rw [rowC_get _ _ _ _ (by rw [List.length_set]; exact hj) hq, List.getElem?_set, getD_setT _ _ _ hi, rowC_length]
  by_cases e : i = j
  · subst e
    rw [if_pos rfl]
    by_cases e2 : q = r
    · subst e2; rw [if_pos rfl, if_pos (by omega)]; exact h1.symm
    · rw [if_neg (by omega), rowC_get _ _ _ _ hi hq]; exact (h0 q hq e2).symm
  · rw [if_neg (by omega), if_neg e, rowC_get _ _ _ _ hj hq, hv j (Ne.symm e)]
theorem getD_setV (vs : List Value) (i : Nat) (u : Value) (h : i < vs.length) (j : Nat) : (vs.set i u).getD j nilV = if i = j then u else vs.getD j nilV := by
  by_cases e : i = j
  · subst e; simp [List.getD, h]
  · rw [if_neg e]; simp [List.getD, List.getElem?_set_ne e]
section
variable {w w9 : World} {B g o n c : Nat} {ts : List TaskD} {vs : List Value} {i : Nat}
theorem PlanO.cell (h : PlanO w B (.slice (some ⟨g, o, none⟩) n c) ts vs) (hi : i < ts.length) (r : Nat) (hr : r < 3) : w.cell? ⟨g, o + i * 3 + r, none⟩ = (tcell (ts.getD i dT) (vs.getD i nilV))[r]? ∧ w.frozen? ⟨g, o + i * 3 + r, none⟩ = false := by
  have hc := h.row.toC.1
  rw [Nat.add_assoc]
  exact ⟨(hc.holds (i * 3 + r) (by omega)).trans (rowC_get _ _ _ _ hi hr), hc.notFrozen (by omega)⟩
theorem PlanO.setN (h : PlanO w B (.slice (some ⟨g, o, none⟩) n c) ts vs) (hi : i < ts.length) (s : ByteArray) : PlanO (w.setCell ⟨g, o + i * 3, none⟩ (.string s)) B (.slice (some ⟨g, o, none⟩) n c) (ts.set i ⟨s, (ts.getD i dT).cost, (ts.getD i dT).deps⟩) vs := by
  obtain ⟨hc, rfl⟩ := h.row.toC
  refine h.upd hi (gset (World.grownBy.refl w (some g)) (o + i * 3) (.string s)) (.inr ⟨g, o, c, rfl, ?_⟩) (World.grownBy.refl _ _) ((h.dep i hi).grown (gset (World.grownBy.refl w (some g)) (o + i * 3) (.string s)) (h.dr i hi))
  rw [← rowC_upd ts vs vs i hi _ 0 (by omega) (.string s) (fun q hq hne => by
    rcases (show q = 1 ∨ q = 2 by omega) with rfl | rfl <;> rfl) rfl (fun _ _ => rfl)]
  exact hc.setCell (j := i * 3) (by omega) (.string s)
theorem PlanO.setC (h : PlanO w B (.slice (some ⟨g, o, none⟩) n c) ts vs) (hi : i < ts.length) (x : Int) : PlanO (w.setCell ⟨g, o + i * 3 + 1, none⟩ (.int .i64 x)) B (.slice (some ⟨g, o, none⟩) n c) (ts.set i ⟨(ts.getD i dT).name, x, (ts.getD i dT).deps⟩) vs := by
  obtain ⟨hc, rfl⟩ := h.row.toC
  refine h.upd hi (gset (World.grownBy.refl w (some g)) (o + i * 3 + 1) (.int .i64 x)) (.inr ⟨g, o, c, rfl, ?_⟩) (World.grownBy.refl _ _) ((h.dep i hi).grown (gset (World.grownBy.refl w (some g)) (o + i * 3 + 1) (.int .i64 x)) (h.dr i hi))
  rw [← rowC_upd ts vs vs i hi _ 1 (by omega) (.int .i64 x) (fun q hq hne => by
    rcases (show q = 0 ∨ q = 2 by omega) with rfl | rfl <;> rfl) rfl (fun _ _ => rfl)]
  have := hc.setCell (j := i * 3 + 1) (by omega) (.int .i64 x)
  rw [← Nat.add_assoc] at this
  exact this
/-- A task's list is another. -/
theorem PlanO.newD {u : Value} {ds : List Int} (h : PlanO w B (.slice (some ⟨g, o, none⟩) n c) ts vs) (hi : i < ts.length) (hr : w9.heap[g]? = w.heap[g]?) (hk : ∀ j, j < ts.length → j ≠ i → ∀ q, (vs.getD j nilV).ownBlock = some q → w9.heap[q]? = w.heap[q]?) (hu : Own B w9 1 u ds.length (ds.map (Value.int .i64))) (hud : Dn u.ownBlock (some g)) (hdu : ∀ j, j < ts.length → j ≠ i → Dn (vs.getD j nilV).ownBlock u.ownBlock) :
    PlanO (w9.setCell ⟨g, o + i * 3 + 2, none⟩ u) B (.slice (some ⟨g, o, none⟩) n c) (ts.set i ⟨(ts.getD i dT).name, (ts.getD i dT).cost, ds⟩) (vs.set i u) := by
  obtain ⟨hc, rfl⟩ := h.row.toC
  have hiv : i < vs.length := by rw [h.len]; exact hi
  have gs := gset (World.grownBy.refl w9 (some g)) (o + i * 3 + 2) u
  refine ⟨by simp [h.len], ?_, fun j hj => ?_, fun j hj => ?_, fun a b hab hb => ?_⟩
  · rw [List.length_set]
    refine .inr ⟨g, o, c, rfl, ?_⟩
    rw [← rowC_upd ts vs (vs.set i u) i hi _ 2 (by omega) u (fun q hq hne => by
      rcases (show q = 0 ∨ q = 1 by omega) with rfl | rfl <;> rfl) (by rw [getD_setV _ _ _ hiv, if_pos rfl]; rfl) (fun j hj => by rw [getD_setV _ _ _ hiv, if_neg (Ne.symm hj)])]
    have := (hc.block hr).setCell (j := i * 3 + 2) (by omega) u
    rw [← Nat.add_assoc] at this
    exact this
  · rw [List.length_set] at hj
    rw [getD_setT _ _ _ hi, getD_setV _ _ _ hiv]
    by_cases e : i = j
    · subst e
      rw [if_pos rfl, if_pos rfl]
      exact hu.grown gs hud
    · rw [if_neg e, if_neg e]
      exact ((h.dep j hj).blkP (hk j hj (Ne.symm e))).grown gs (h.dr j hj)
  · rw [List.length_set] at hj
    rw [getD_setV _ _ _ hiv]
    by_cases e : i = j
    · rw [if_pos e]; exact hud
    · rw [if_neg e]; exact h.dr j hj
  · rw [List.length_set] at hb
    rw [getD_setV _ _ _ hiv, getD_setV _ _ _ hiv]
    by_cases e1 : i = a
    · rw [if_pos e1, if_neg (by omega)]; exact (hdu b hb (by omega)).symm
    · rw [if_neg e1]
      by_cases e2 : i = b
      · rw [if_pos e2]; exact hdu a (by omega) (by omega)
      · rw [if_neg e2]; exact h.dd a b hab hb
end
theorem smT.set {ts : List TaskD} {t : TaskD} {i : Nat} (h : smT ts) (hi : i < ts.length) (h1 : t.name.size ≤ 1000) (h2 : -1000 ≤ t.cost ∧ t.cost ≤ 1000) (h3 : t.deps.length ≤ 50) (h4 : ∀ x ∈ t.deps, -1000 ≤ x ∧ x ≤ 1000) : smT (ts.set i t) := fun j hj => by
  rw [List.length_set] at hj
  rw [getD_setT _ _ _ hi]
  by_cases e : i = j
  · rw [if_pos e]; exact ⟨h1, h2, h3, h4⟩
  · rw [if_neg e]; exact h j hj
/-- Amid the spoiling: the plan's box Po. -/
structure SP (w : World) (g Po : Nat) (v : Value) (ts : List TaskD) (vs : List Value) (k : Nat) (wr : World) : Prop where
  P : CF wr Po [v]
  R : CF wr (w.heap.size + 1) [.slice none 0 0]
  rd : RD wr g k
  gr : w.grownBy wr (some g)
  pl : PlanO wr (w.heap.size + 2) v ts vs
  sm : smT ts
  z : Po < wr.heap.size
  gl : g < w.heap.size
  lo : w.heap.size + 2 ≤ Po
  d1 : Dn v.ownBlock (some Po)
  d2 : ∀ j, j < ts.length → Dn (vs.getD j nilV).ownBlock (some Po)
section
variable {w wr w' : World} {g Po k k' : Nat} {v v' : Value} {ts ts' : List TaskD} {vs vs' : List Value}
theorem SP.upd (h : SP w g Po v ts vs k wr) (hb : Below (w.heap.size + 2) wr w') (hP : CF w' Po [v']) (hpl : PlanO w' (w.heap.size + 2) v' ts' vs') (hsm : smT ts') (h1 : Dn v'.ownBlock (some Po)) (h2 : ∀ j, j < ts'.length → Dn (vs'.getD j nilV).ownBlock (some Po)) : SP w g Po v' ts' vs' k w' :=
  have hg := h.gl
  ⟨hP, h.R.block (hb.block _ (by omega)), h.rd.keep (fun q hq => hb.block q (by omega)), ⟨hb.os.trans h.gr.os, hb.tape.trans h.gr.tape, hb.output.trans h.gr.output, Nat.le_trans h.gr.size hb.size, fun q hq hne => (hb.block q (by omega)).trans (h.gr.block q hq hne)⟩, hpl, hsm, Nat.lt_of_lt_of_le h.z hb.size, h.gl, h.lo, h1, h2⟩
theorem SP.below (h : SP w g Po v ts vs k wr) (hb : Below wr.heap.size wr w') : SP w g Po v ts vs k w' :=
  have hz := h.z
  have hl := h.lo
  h.upd (hb.mono (by omega)) (h.P.block (hb.block Po hz)) (h.pl.below hb) h.sm h.d1 h.d2
theorem SP.drew (h : SP w g Po v ts vs k wr) : SP w g Po v ts vs k wr.drew := h.below (Below.refl _ _).drew
theorem SP.alloc (h : SP w g Po v ts vs k wr) (ob : Obj) : SP w g Po v ts vs k (wr.alloc ob) := h.below ((Below.refl _ _).alloc (Nat.le_refl _) _)
theorem SP.call (h : SP w g Po v ts vs k wr) (hr : RD w' g k') (hg : wr.grownBy w' (some g)) : SP w g Po v ts vs k' w' :=
  have hgl := h.gl
  have hz := h.z
  have hl := h.lo
  ⟨h.P.block (hg.block _ hz (by simp; omega)), h.R.block (hg.block _ (by omega) (by simp; omega)), hr, grownBy_trans h.gr hg, h.pl.grownNew hg (fun x h1 _ => by omega), h.sm, Nat.lt_of_lt_of_le h.z hg.size, h.gl, h.lo, h.d1, h.d2⟩
theorem SP.more (h : SP w g Po v ts vs k wr) (hk : k ≤ k') : SP w g Po v ts vs k' wr := ⟨h.P, h.R, h.rd.mono hk, h.gr, h.pl, h.sm, h.z, h.gl, h.lo, h.d1, h.d2⟩
theorem SP.box (h : SP w g Po v ts vs k wr) : wr.cell? ⟨Po, 0, none⟩ = some v := (h.P 0 (by simp)).1
end
section
variable {w wr w9 : World} {g Po k b o n c i : Nat} {ts : List TaskD} {vs : List Value}
theorem SP.inRow (h : SP w g Po (.slice (some ⟨b, o, none⟩) n c) ts vs k wr) : w.heap.size + 2 ≤ b ∧ b < wr.heap.size ∧ b ≠ Po := by
  refine ⟨h.pl.row.row_lo b rfl, h.pl.row.row_hi b rfl, ?_⟩
  rcases h.d1 with e | e
  · cases e
  · intro e2; subst e2; exact e rfl
theorem SP.setN (h : SP w g Po (.slice (some ⟨b, o, none⟩) n c) ts vs k wr) (hi : i < ts.length) (s : ByteArray) (hs : s.size ≤ 1000) : SP w g Po (.slice (some ⟨b, o, none⟩) n c) (ts.set i ⟨s, (ts.getD i dT).cost, (ts.getD i dT).deps⟩) vs k (wr.setCell ⟨b, o + i * 3, none⟩ (.string s)) := by
  obtain ⟨h1, h2, h3⟩ := h.inRow
  have gs := gset (World.grownBy.refl wr (some b)) (o + i * 3) (.string s)
  have hlo := h.lo
  have hz := h.z
  obtain ⟨_, e2, e3, e4⟩ := h.sm i hi
  exact h.upd (below_grown (Below.refl _ _) gs (by omega) (fun q hq => by injection hq with hq; omega)) (h.P.block (gs.block Po h.z (by simp; omega))) (h.pl.setN hi s) (h.sm.set hi hs e2 e3 e4) h.d1 (fun j hj => h.d2 j (by simpa using hj))
theorem SP.setC (h : SP w g Po (.slice (some ⟨b, o, none⟩) n c) ts vs k wr) (hi : i < ts.length) (x : Int) (hx : -1000 ≤ x ∧ x ≤ 1000) : SP w g Po (.slice (some ⟨b, o, none⟩) n c) (ts.set i ⟨(ts.getD i dT).name, x, (ts.getD i dT).deps⟩) vs k (wr.setCell ⟨b, o + i * 3 + 1, none⟩ (.int .i64 x)) := by
  obtain ⟨h1, h2, h3⟩ := h.inRow
  have gs := gset (World.grownBy.refl wr (some b)) (o + i * 3 + 1) (.int .i64 x)
  have hlo := h.lo
  have hz := h.z
  obtain ⟨e1, _, e3, e4⟩ := h.sm i hi
  exact h.upd (below_grown (Below.refl _ _) gs (by omega) (fun q hq => by injection hq with hq; omega)) (h.P.block (gs.block Po h.z (by simp; omega))) (h.pl.setC hi x) (h.sm.set hi e1 hx e3 e4) h.d1 (fun j hj => h.d2 j (by simpa using hj))
/-- A task's list is another: w9 lies between, its new list u in it. -/
theorem SP.newD {u : Value} {ds : List Int} (h : SP w g Po (.slice (some ⟨b, o, none⟩) n c) ts vs k wr) (hi : i < ts.length) (hb : Below (w.heap.size + 2) wr w9) (hr : w9.heap[b]? = wr.heap[b]?) (hP : w9.heap[Po]? = wr.heap[Po]?) (hk : ∀ j, j < ts.length → j ≠ i → ∀ q, (vs.getD j nilV).ownBlock = some q → w9.heap[q]? = wr.heap[q]?) (hu : Own (w.heap.size + 2) w9 1 u ds.length (ds.map (Value.int .i64))) (hud : Dn u.ownBlock (some b)) (huP : Dn u.ownBlock (some Po)) (hdu : ∀ j, j < ts.length → j ≠ i → Dn (vs.getD j nilV).ownBlock u.ownBlock)
    (hl : ds.length ≤ 50) (hds : ∀ x ∈ ds, -1000 ≤ x ∧ x ≤ 1000) : SP w g Po (.slice (some ⟨b, o, none⟩) n c) (ts.set i ⟨(ts.getD i dT).name, (ts.getD i dT).cost, ds⟩) (vs.set i u) k (w9.setCell ⟨b, o + i * 3 + 2, none⟩ u) := by
  obtain ⟨h1, h2, h3⟩ := h.inRow
  have gs := gset (World.grownBy.refl w9 (some b)) (o + i * 3 + 2) u
  have hlo := h.lo
  have hz := h.z
  have hbz := hb.size
  have hiv : i < vs.length := by rw [h.pl.len]; exact hi
  obtain ⟨e1, e2, _, _⟩ := h.sm i hi
  exact h.upd (below_grown hb gs (by omega) (fun q hq => by injection hq with hq; omega)) ((h.P.block hP).block (gs.block Po (by omega) (by simp; omega))) (h.pl.newD hi hr hk hu hud hdu) (h.sm.set hi e1 e2 hl hds) h.d1 (fun j hj => by
    rw [List.length_set] at hj
    rw [getD_setV _ _ _ hiv]
    by_cases e : i = j
    · rw [if_pos e]; exact huP
    · rw [if_neg e]; exact h.d2 j hj)
/-- Another plan in the box, as a state. -/
theorem SP.newP {v v' : Value} {ts' : List TaskD} {vs' : List Value} (h : SP w g Po v ts vs k wr) (hb : Below (w.heap.size + 2) wr w9) (hP : w9.heap[Po]? = wr.heap[Po]?) (hpl : PlanO w9 (w.heap.size + 2) v' ts' vs') (hsm : smT ts') (h1 : Dn v'.ownBlock (some Po)) (h2 : ∀ j, j < ts'.length → Dn (vs'.getD j nilV).ownBlock (some Po)) : SP w g Po v' ts' vs' k (w9.setCell ⟨Po, 0, none⟩ v') := by
  have gs := gset (World.grownBy.refl w9 (some Po)) 0 v'
  have hlo := h.lo
  have hz := h.z
  have hbz := hb.size
  refine h.upd (below_grown hb gs (by omega) (fun q hq => by injection hq with hq; omega)) ((h.P.block hP).set (j := 0) (by simp) v') ?_ hsm h1 h2
  have key : ∀ x : Value, Dn x.ownBlock (some Po) → ∀ q, x.ownBlock = some q → (w9.setCell ⟨Po, 0, none⟩ v').heap[q]? = w9.heap[q]? := fun x hx q hq => Below.heap_setCell _ _ _ _ (fun e => by
    rcases hx with hx | hx
    · rw [hx] at hq; cases hq
    · exact hx (by rw [hq, e]))
  exact ⟨hpl.len, hpl.row.blkP (key _ h1), fun j hj => (hpl.dep j hj).blkP (key _ (h2 j hj)), hpl.dr, hpl.dd⟩
end
/-- One task more, by append. -/
theorem PlanO.app0 {w w9 : World} {B : Nat} {v v' : Value} {ts : List TaskD} {vs : List Value} {t : TaskD} {u : Value} (h : PlanO w B v ts vs) (hu : Own B w 1 u t.deps.length (t.deps.map (Value.int .i64))) (hud : Dn u.ownBlock v.ownBlock) (hdu : ∀ j, j < ts.length → Dn (vs.getD j nilV).ownBlock u.ownBlock)
    (ho : Own B w9 3 v' (ts.length + 1) (rowC ts vs ++ tcell t u)) (hg : w.grownBy w9 v.ownBlock) (hbk : v'.ownBlock = v.ownBlock ∨ v'.ownBlock = some w.heap.size) : PlanO w9 B v' (ts ++ [t]) (vs ++ [u]) := by
  have key : ∀ x : Value, Dn x.ownBlock v.ownBlock → (∀ q, x.ownBlock = some q → q < w.heap.size) → Dn x.ownBlock v'.ownBlock := fun x h1 h2 => by
    rcases hbk with e | e
    · rw [e]; exact h1
    · exact Dn.later h2 (fun q hq => by rw [e] at hq; injection hq with hq; omega)
  exact PlanO.snoc h.len (fun j hj => (h.dep j hj).grown hg (h.dr j hj)) h.dd ho (hu.grown hg hud) (fun j hj => key _ (h.dr j hj) (h.dep j hj).row_hi) (key _ hud hu.row_hi) hdu
theorem below_row {w w9 : World} {B : Nat} {v : Value} {n m : Nat} {xs : List Value} (ho : Own B w m v n xs) (hg : w.grownBy w9 v.ownBlock) (hB : B ≤ w.heap.size) : Below B w w9 := below_grown (Below.refl _ _) hg hB (fun q hq => ho.row_lo q hq)
theorem SP.appT {w u : World} {g Po k : Nat} {a : Option Addr} {c : Nat} {ts : List TaskD} {vs : List Value} {x : Value} (s : ByteArray) (co : Int) (h : SP w g Po (.slice a ts.length c) ts vs k u) (hs : Src Tryd.prog 3 26 x 1 [.string s, .int .i64 co, .slice none 0 0] u) (hl : ts.length ≤ 64) (h1 : s.size ≤ 1000) (h2 : -1000 ≤ co ∧ co ≤ 1000) :
    ∃ va vc W, (Builtin.append_ #[26, 26] 26 #[.slice a ts.length c, x]).run Tryd.prog u = .ok (.slice va (ts.length + 1) vc) W ∧ W.cell? ⟨Po, 0, none⟩ = some (.slice a ts.length c) ∧ W.frozen? ⟨Po, 0, none⟩ = false ∧ SP w g Po (.slice va (ts.length + 1) vc) (ts ++ [⟨s, co, []⟩]) (vs ++ [.slice none 0 0]) k (W.setCell ⟨Po, 0, none⟩ (.slice va (ts.length + 1) vc)) := by
  obtain ⟨iT, hiT, hT0, hT1, hT2⟩ := info_parts Tryd.info37
  have hz := h.z
  have hlo := h.lo
  obtain ⟨v', W, hr, ho, hg, hbk⟩ := run_append_c (P := Tryd.prog) u (w.heap.size + 2) 26 26 26 37 iT (.agg #[.string ⟨#[]⟩, .int .i64 0, .slice none 0 0]) 3 48 Tryd.underlying26 hiT hT0 hT1 hT2 rfl _ _ _ h.pl.row _ 1 _ hs (by unfold maxLen; omega) (by omega) (by omega)
  obtain ⟨va, vc, rfl⟩ := ho.slc
  have hPo : W.heap[Po]? = u.heap[Po]? := hg.block Po hz (fun e => by
    rcases h.d1 with d | d
    · rw [d] at e; cases e
    · exact d e.symm)
  have cP := h.P.block hPo
  have pl9 := h.pl.app0 (t := ⟨s, co, []⟩) (u := .slice none 0 0) (Own.nil _ _ _) (.inl rfl) (fun j hj => Dn.symm (.inl rfl)) ho hg hbk
  have d1' : Dn (Value.slice va (ts.length + 1) vc).ownBlock (some Po) := by
    rcases hbk with e | e
    · rw [e]; exact h.d1
    · rw [e]; exact .inr (by simp; omega)
  refine ⟨va, vc, W, hr, (cP 0 (by simp)).1, (cP 0 (by simp)).2, h.newP (below_row h.pl.row hg (by omega)) hPo pl9 (h.sm.snoc h1 h2 (Nat.zero_le _) (fun x hx => by cases hx)) d1' (fun j hj => ?_)⟩
  rw [List.length_append, List.length_singleton] at hj
  have hvl := h.pl.len
  by_cases e : j < ts.length
  · rw [show (vs ++ [Value.slice none 0 0]).getD j nilV = vs.getD j nilV by simp [List.getD, List.getElem?_append_left (show j < vs.length by omega)]]; exact h.d2 j e
  · obtain rfl : j = ts.length := by omega
    rw [show (vs ++ [Value.slice none 0 0]).getD ts.length nilV = Value.slice none 0 0 by rw [← hvl]; simp [List.getD]]; exact .inl rfl
theorem SP.appD {w u : World} {g Po k rb ro N rc kk dn : Nat} {da : Option Addr} {dc : Nat} {ts : List TaskD} {vs : List Value} {y : Value} (x : Int) (h : SP w g Po (.slice (some ⟨rb, ro, none⟩) N rc) ts vs k u) (hk : kk < ts.length) (hdv : vs.getD kk nilV = .slice da dn dc) (hdl : (ts.getD kk dT).deps.length = dn) (hs : Src Tryd.prog 1 35 y 1 [.int .i64 x] u) (hx : -1000 ≤ x ∧ x ≤ 1000) (hd : dn ≤ 40) :
    ∃ aa ac W, (Builtin.append_ #[35, 35] 35 #[.slice da dn dc, y]).run Tryd.prog u = .ok (.slice aa (dn + 1) ac) W ∧ W.cell? ⟨Po, 0, none⟩ = some (.slice (some ⟨rb, ro, none⟩) N rc) ∧ (∃ v0, W.cell? ⟨rb, ro + kk * 3 + 2, none⟩ = some v0) ∧ W.frozen? ⟨rb, ro + kk * 3 + 2, none⟩ = false ∧
      ∃ ts' vs', ts'.length = ts.length ∧ SP w g Po (.slice (some ⟨rb, ro, none⟩) N rc) ts' vs' k (W.setCell ⟨rb, ro + kk * 3 + 2, none⟩ (.slice aa (dn + 1) ac)) := by
  obtain ⟨iI, hiI, hI0, hI1, hI2⟩ := info_parts Tryd.info3
  have hz := h.z
  have hlo := h.lo
  subst hdl
  have hdep := h.pl.dep kk hk
  rw [hdv] at hdep
  obtain ⟨v', W, hr, ho, hg, hbk⟩ := run_append_c (P := Tryd.prog) u (w.heap.size + 2) 35 35 35 3 iI (.int .i64 0) 1 8 Tryd.underlying35 hiI hI0 hI1 hI2 rfl _ _ _ hdep _ 1 _ hs (by unfold maxLen; omega) (by omega) (by omega)
  obtain ⟨aa, ac, rfl⟩ := ho.slc
  have hd2 := h.d2 kk hk
  rw [hdv] at hd2
  have hdr := h.pl.dr kk hk
  rw [hdv] at hdr
  obtain ⟨r1, r2, r3⟩ := h.inRow
  have far : ∀ q, q < u.heap.size → Dn (Value.slice da (ts.getD kk dT).deps.length dc).ownBlock (some q) → W.heap[q]? = u.heap[q]? := fun q hq hn => hg.block q hq (fun e => by
    rcases hn with d | d
    · rw [d] at e; cases e
    · exact d e.symm)
  have hPo := far Po hz hd2
  have hrb := far rb r2 hdr
  have cP := h.P.block hPo
  have hcell := h.pl.cell hk 2 (by omega)
  have hW : W.cell? ⟨rb, ro + kk * 3 + 2, none⟩ = u.cell? ⟨rb, ro + kk * 3 + 2, none⟩ := World.cell?_of_block (w := u) (a := ⟨rb, ro + kk * 3 + 2, none⟩) hrb
  have hWf : W.frozen? ⟨rb, ro + kk * 3 + 2, none⟩ = u.frozen? ⟨rb, ro + kk * 3 + 2, none⟩ := World.frozen?_of_block (w := u) (a := ⟨rb, ro + kk * 3 + 2, none⟩) hrb
  have newD : ∀ q, q < u.heap.size → Dn (Value.slice da (ts.getD kk dT).deps.length dc).ownBlock (some q) → Dn (Value.slice aa ((ts.getD kk dT).deps.length + 1) ac).ownBlock (some q) := fun q hq hn => by
    rcases hbk with e | e
    · rw [e]; exact hn
    · rw [e]; exact .inr (by simp; omega)
  refine ⟨aa, ac, W, hr, (cP 0 (by simp)).1, ⟨_, hW.trans hcell.1⟩, hWf.trans hcell.2, _, _, ?_, h.newD (u := .slice aa ((ts.getD kk dT).deps.length + 1) ac) (ds := (ts.getD kk dT).deps ++ [x]) hk (below_row hdep hg (by omega)) hrb hPo (fun j hj hne q hq => far q ((h.pl.dep j hj).row_hi q hq) ?_) (by rw [List.length_append, List.map_append]; exact ho) (newD rb r2 hdr) (newD Po hz hd2) (fun j hj hne => ?_) (by rw [List.length_append, List.length_singleton]; omega) (fun y hy => ?_)⟩
  · rw [List.length_set]
  · have hdd : Dn (vs.getD j nilV).ownBlock (vs.getD kk nilV).ownBlock := by
      rcases Nat.lt_or_ge j kk with l | l
      · exact h.pl.dd j kk l hk
      · exact (h.pl.dd kk j (by omega) hj).symm
    rw [hdv, hq] at hdd
    exact hdd.symm
  · have hdd : Dn (vs.getD j nilV).ownBlock (vs.getD kk nilV).ownBlock := by
      rcases Nat.lt_or_ge j kk with l | l
      · exact h.pl.dd j kk l hk
      · exact (h.pl.dd kk j (by omega) hj).symm
    rw [hdv] at hdd
    rcases hbk with e | e
    · rw [e]; exact hdd
    · exact Dn.later (h.pl.dep j hj).row_hi (fun q hq => by rw [e] at hq; injection hq with hq; omega)
  · rcases List.mem_append.1 hy with hy | hy
    · exact (h.sm kk hk).2.2.2 y hy
    · rw [List.mem_singleton.1 hy]; exact hx
/-- What a draw of a plan answers. -/
def RetPl (e : Ending) (B : Nat) (w' : World) : Prop := ∃ v ts vs, e = .returned (.agg #[v]) ∧ PlanO w' B v ts vs ∧ smT ts ∧ ts.length ≤ 64
theorem SP.fin {w u : World} {g Po k : Nat} {v : Value} {ts : List TaskD} {vs : List Value} (h : SP w g Po v ts vs k u) (hl : ts.length ≤ 64) : RetPl (.returned (.agg #[v])) w.heap.size (u.setCell ⟨w.heap.size + 1, 0, none⟩ v) ∧ RD (u.setCell ⟨w.heap.size + 1, 0, none⟩ v) g k ∧ w.grownBy (u.setCell ⟨w.heap.size + 1, 0, none⟩ v) (some g) := by
  have gs := gset (World.grownBy.refl u (some (w.heap.size + 1))) 0 v
  have hg := h.gl
  have hz := h.z
  have hlo := h.lo
  refine ⟨⟨v, ts, vs, rfl, (h.pl.grownNew gs (fun x h1 _ => by omega)).mono (by omega), h.sm, hl⟩, h.rd.set (by show g < w.heap.size + 1; omega) _, ?_⟩
  exact ⟨h.gr.os, h.gr.tape, h.gr.output, by simpa [World.setCell] using h.gr.size, fun q hq hne => (gs.block q (by have := h.gr.size; omega) (by simp; omega)).trans (h.gr.block q hq hne)⟩
section
variable {P : Program} {md : Region.Mode} {ops : Array Oper} {Q : Exit → Act → World → Prop} {S : World → Prop} {i j m : Nat} {fuel : Nat} {l : Array Bool} {a : Act} {w : World}
theorem hThree (hr : Region.ready md ops l = [i, j, m]) (h : wpOp P ops Q i (fun a' w' => S w' ∧ wpAnyH P md ops Q S fuel (l.setIfInBounds i true) a' w') a w) (h2 : wpOp P ops Q j (fun a' w' => S w' ∧ wpAnyH P md ops Q S fuel (l.setIfInBounds j true) a' w') a w) (h3 : wpOp P ops Q m (fun a' w' => S w' ∧ wpAnyH P md ops Q S fuel (l.setIfInBounds m true) a' w') a w) : wpAnyH P md ops Q S (fuel + 1) l a w :=
  wpAnyH_all hr (by simp) (fun q hq => by
    rcases List.mem_cons.1 hq with rfl | hq
    · exact h
    · rcases List.mem_cons.1 hq with rfl | hq
      · exact h2
      · obtain rfl := List.mem_singleton.1 hq; exact h3)
end
def x4 (kk r : Nat) : Int := [(kk : Int), -1, 0, (kk : Int) + 1].getD r 0
theorem x4_cell {u : World} {q kk r : Nat} (h : CF u q [.int .i64 (kk : Nat), .int .i64 (-1), .int .i64 0, .int .i64 ((kk : Int) + 1)]) (hr : r < 4) : u.cell? ⟨q, r, none⟩ = some (.int .i64 (x4 kk r)) := by
  rcases (show r = 0 ∨ r = 1 ∨ r = 2 ∨ r = 3 by omega) with rfl | rfl | rfl | rfl
  · exact (h 0 (by simp)).1
  · exact (h 1 (by simp)).1
  · exact (h 2 (by simp)).1
  · exact (h 3 (by simp)).1
theorem x4_rng {kk r : Nat} (hk : kk ≤ 64) (hr : r < 4) : -1000 ≤ x4 kk r ∧ x4 kk r ≤ 1000 := by
  rcases (show r = 0 ∨ r = 1 ∨ r = 2 ∨ r = 3 by omega) with rfl | rfl | rfl | rfl <;> simp [x4] <;> omega
theorem enter_pick (v1 v2 : Value) (w : World) : Sem.run Tryd.prog (callFunc 32 #[v1, v2]) w = .ok (.enter 32 #[v1, v2]) w := by kernel_rfl
theorem enter_l1Many (v1 v2 : Value) (w : World) : Sem.run Tryd.prog (callFunc 47 #[v1, v2]) w = .ok (.enter 47 #[v1, v2]) w := by kernel_rfl
theorem enter_l1Dec (v1 : Value) (w : World) : Sem.run Tryd.prog (callFunc 44 #[v1]) w = .ok (.enter 44 #[v1]) w := by kernel_rfl
end Go.Proofs.YtimpfhfgcmipgaaDoor
