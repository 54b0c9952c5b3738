import Derived.Test.YthopfmhagddhgaaGreatQCel
import Derived.Test.YthopfmhagddhgaaGreatQLawVal
import Derived.Deep.RegionLaw
import Derived.Deep.DeepCutAuto
namespace Go.Proofs.YthopfmhagddhgaaGreat
open Go.RowKit

/-- A whole message stored, as a step of a region that draws its order. -/
theorem step_store_cf {P : Program} {ops : Array Oper} {o : Oper} {a : Act} {w : World} {K : Act → World → Prop} {Q : Exit → Act → World → Prop} {E : Prop} (hgd : o.guard = none) (ty : TypeId) (x y : Operand) (ho : o.op = .store ty x y)
    (p : Nat) (old vs : List Value) (hx : a.eval x = .pointer (some ⟨p, 0, none⟩)) (hy : a.eval y = .agg vs.toArray) (hc : CF w p old) (hl : old.length = vs.length) (hi : (P.info? ty).map (·.size) = some vs.length) (h1 : ∀ v ∈ vs, v.oneCell' = true)
    (hK : ∀ W', CF W' p vs → w.grownBy W' (some p) → K (a.put o.dst undef) W') : if Region.wanted o (yielded ops a.tmps) = true then Oper.wp P o a w K Q else E := by
  have hw : Region.wanted o (yielded ops a.tmps) = true := by simp [Region.wanted, hgd]
  rw [if_pos hw]
  refine wp_store_mid ty x y ho p 0 vs.toArray hx hy (fun i hi => ?_) (by simpa using hi) (all_oneCell_toArray h1) ?_
  · have hi' : i < old.length := by simpa [hl] using hi
    obtain ⟨h1, h2⟩ := hc i hi'
    exact ⟨by rw [Nat.zero_add, h1, List.getElem?_eq_getElem hi']; rfl, by rw [Nat.zero_add]; exact h2⟩
  · exact hK _ (hc.stored hl) (grown_setCells p vs 0 w w (World.grownBy.refl _ _))
section
variable {P : Program} {md : Region.Mode} {ops : Array Oper} {Q : Exit → Act → World → Prop} {S : World → Prop} {i j : Nat} {oi : Oper} {v : Value} {d : Option Nat} {fuel : Nat} {l l' : Array Bool} {a : Act} {w w' : World}
theorem hTake (hi : ops[i]? = some oi) (hd : oi.dst = d) (hs : Region.noSelect ops = true) (hf : Region.free md ops l i = true) (hr : (Region.ready md ops l).contains i = true)
    (hQ : ∀ c a w, Q (.panic c) (a.put oi.dst v) w → Q (.panic c) a w) (hw : Region.wanted oi (yielded ops a.tmps) = true) (hy : ∀ w, S w → (execOp a.eval oi).run P w = .ok (.value v) w) (hS : S w)
    (hl : l.setIfInBounds i true = l') (h : wpAnyH P md ops Q S fuel l' (a.put d v) w) : wpAnyH P md ops Q S (fuel + 1) l a w := by
  subst hl; subst hd
  exact wpAnyH_take hi hs hf hr hQ (Or.inl ⟨hw, hy⟩) hS h
theorem hOne (hr : Region.ready md ops l = [i]) (h : wpOp P ops Q i (fun a' w' => S w' ∧ wpAnyH P md ops Q S fuel (l.setIfInBounds i true) a' w') a w) : wpAnyH P md ops Q S (fuel + 1) l a w :=
  wpAnyH_all hr (by simp) (fun q hq => by obtain rfl := List.mem_singleton.1 hq; exact h)
theorem hTwo (hr : Region.ready md ops l = [i, j]) (h : wpOp P ops Q i (fun a' w' => S w' ∧ wpAnyH P md ops Q S fuel (l.setIfInBounds i true) a' w') a w) (h2 : wpOp P ops Q j (fun a' w' => S w' ∧ wpAnyH P md ops Q S fuel (l.setIfInBounds j true) a' w') a w) : wpAnyH P md ops Q S (fuel + 1) l a w :=
  wpAnyH_all hr (by simp) (fun q hq => by
    rcases List.mem_cons.1 hq with rfl | hq
    · exact h
    · obtain rfl := List.mem_singleton.1 hq; exact h2)
theorem hVal (hi : ops[i]? = some oi) (hd : oi.dst = d) (hw : Region.wanted oi (yielded ops a.tmps) = true) (hl : l.setIfInBounds i true = l') (hy : (execOp a.eval oi).run P w = .ok (.value v) w') (hS : S w') (h : wpAnyH P md ops Q S fuel l' (a.put d v) w') :
    wpOp P ops Q i (fun a' w' => S w' ∧ wpAnyH P md ops Q S fuel (l.setIfInBounds i true) a' w') a w := by
  subst hl; subst hd
  refine wpOp_step hi (fun K hK => ?_)
  rw [if_pos hw]
  unfold Oper.wp
  rw [hy]
  exact hK _ _ ⟨hS, h⟩
theorem hSkip (hi : ops[i]? = some oi) (hd : oi.dst = none) (hw : Region.wanted oi (yielded ops a.tmps) = true) (hl : l.setIfInBounds i true = l') (hy : (execOp a.eval oi).run P w = .ok .skip w') (hS : S w') (h : wpAnyH P md ops Q S fuel l' a w') :
    wpOp P ops Q i (fun a' w' => S w' ∧ wpAnyH P md ops Q S fuel (l.setIfInBounds i true) a' w') a w := by
  subst hl
  refine wpOp_step hi (fun K hK => ?_)
  rw [if_pos hw]
  unfold Oper.wp
  rw [hy]
  refine hK _ _ ⟨hS, ?_⟩
  rw [hd]
  exact h
theorem hCall {f : FuncId} {args : Array Value} {R : Value → World → Prop} (hi : ops[i]? = some oi) (hd : oi.dst = d) (hw : Region.wanted oi (yielded ops a.tmps) = true) (hl : l.setIfInBounds i true = l') (hy : (execOp a.eval oi).run P w = .ok (.enter f args) w) (hc : Calls P f args w fun e w' => ∃ v, e = .returned v ∧ R v w')
    (h : ∀ v w', R v w' → S w' ∧ wpAnyH P md ops Q S fuel l' (a.put d v) w') : wpOp P ops Q i (fun a' w' => S w' ∧ wpAnyH P md ops Q S fuel (l.setIfInBounds i true) a' w') a w := by
  subst hl; subst hd
  refine wpOp_step hi (fun K hK => ?_)
  rw [if_pos hw]
  unfold Oper.wp
  rw [hy]
  refine hc.mono ?_
  rintro e w' ⟨v, rfl, hr⟩
  exact hK _ _ (h v w' hr)
end
theorem keepP {w w' : World} {P : Nat} {p : Addr} {v : Value} (hg : w.grownBy w' (some P)) (h : w.cell? p = some v) (hne : p.block ≠ P) : w'.cell? p = some v :=
  (World.cell?_of_block (w := w) (hg.block p.block (World.block_lt_of_cell? _ _ h) (by simpa using hne))).trans h
theorem keepA {w : World} {p : Addr} {v : Value} (hp : p.block < w.heap.size) (h : w.cell? p = some v) (o : Obj) : (w.alloc o).cell? p = some v :=
  (World.cell?_of_block (w := w) (Below.heap_alloc _ _ _ hp)).trans h
theorem run_ldT {ρ : Operand → Value} {o : Oper} {w : World} {b : Nat} (T : TypeId) (D : TypeDesc) (cs : List Value) (x : Operand) (h : o.op = .load T x) (hx : ρ x = .pointer (some ⟨b, 0, none⟩)) (hc : CF w b cs) (hu : Tryz.prog.underlying T = some D) (hd : D.isRow = true) (hi : (Tryz.prog.info? T).map (·.size) = some cs.length) : (execOp ρ o).run Tryz.prog w = .ok (.value (.agg cs.toArray)) w := by
  have hr : w.rangeAt b 0 cs := fun j v hv => by
    rw [Nat.zero_add, (hc j (List.getElem?_eq_some_iff.1 hv).1).1]; exact hv
  unfold execOp
  simp only [h, hx, Instr.loadAt, Instr.sureAddr, Sem.run_bind, Sem.run_pure, Result.andThen_ok, run_loadVar_mid w b 0 T cs D hr hu hd hi]
theorem run_stT {ρ : Operand → Value} {o : Oper} {w : World} {p : Nat} (T : TypeId) (old vs : List Value) (x y : Operand) (h : o.op = .store T x y) (hx : ρ x = .pointer (some ⟨p, 0, none⟩)) (hy : ρ y = .agg vs.toArray) (hc : CF w p old) (hl : old.length = vs.length) (hi : (Tryz.prog.info? T).map (·.size) = some vs.length) (h1 : ∀ v ∈ vs, v.oneCell' = true) :
    (execOp ρ o).run Tryz.prog w = .ok .skip (w.setCells p 0 vs) := by
  have ht : w.there p 0 vs.toArray.size := fun i hi => by
    have hi' : i < old.length := by rw [hl]; simpa using hi
    obtain ⟨h1, h2⟩ := hc i hi'
    exact ⟨by rw [Nat.zero_add, h1, List.getElem?_eq_getElem hi']; rfl, by rw [Nat.zero_add]; exact h2⟩
  have hi' : (Tryz.prog.info? T).map (·.size) = some vs.toArray.size := by rw [hi]; simp
  unfold execOp
  rw [h]
  simp only [hx, hy, Instr.storeAt, Instr.sureAddr, Sem.run_bind, Sem.run_pure, Result.andThen_ok, run_storeVar_mid w p 0 T vs.toArray ht hi' (all_oneCell_toArray h1)]
theorem run_cl1 {ρ : Operand → Value} {o : Oper} {w : World} {f : FuncId} {v1 : Value} (x : Operand) (ts : Array TypeId) (h : o.op = .call { callee := .value (.func f), args := #[x], argTypes := ts }) (hx : ρ x = v1) (hf : ρ (.func f) = .func (.func f) #[] #[]) (he : ∀ (v1 : Value) (w : World), Sem.run Tryz.prog (callFunc f #[v1]) w = .ok (.enter f #[v1]) w) : (execOp ρ o).run Tryz.prog w = .ok (.enter f #[v1]) w := by
  unfold execOp
  rw [h]
  simp [go_sem, hx, hf, he]
theorem run_cl2 {ρ : Operand → Value} {o : Oper} {w : World} {f : FuncId} {v1 v2 : Value} (x y : Operand) (ts : Array TypeId) (h : o.op = .call { callee := .value (.func f), args := #[x, y], argTypes := ts }) (hx : ρ x = v1) (hy : ρ y = v2) (hf : ρ (.func f) = .func (.func f) #[] #[]) (he : ∀ (v1 v2 : Value) (w : World), Sem.run Tryz.prog (callFunc f #[v1, v2]) w = .ok (.enter f #[v1, v2]) w) : (execOp ρ o).run Tryz.prog w = .ok (.enter f #[v1, v2]) w := by
  unfold execOp
  rw [h]
  simp [go_sem, hx, hy, hf, he]
end Go.Proofs.YthopfmhagddhgaaGreat
