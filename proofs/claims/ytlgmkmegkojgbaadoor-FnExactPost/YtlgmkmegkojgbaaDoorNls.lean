
/-
  impl's generic list of parcels: listOf, has, put, show; spec.l6Copy, l6There.
-/
import Derived.Test.YtlgmkmegkojgbaaDoorNpr
import Derived.Test.YtlgmkmegkojgbaaDoorHld
import Derived.Test.YtlgmkmegkojgbaaDoorMsg
import Derived.Handy
namespace Go.Proofs.YtlgmkmegkojgbaaDoor
open Go.RowKit

/-- Parcel k is there. -/
def thereB (n : Nat) (k : Int) : Bool := decide (n ≤ 2000) && (decide (0 ≤ k) && decide (k < n))
theorem thereB_t {n : Nat} {k : Int} (h : thereB n k = true) : n ≤ 2000 ∧ 0 ≤ k ∧ k < n := by
  simpa [thereB] using h
theorem thereB_f {n : Nat} {k : Int} (h : thereB n k = false) : ¬ (n ≤ 2000 ∧ 0 ≤ k ∧ k < n) := by
  intro hh
  simp [thereB, hh.1, hh.2.1, hh.2.2] at h

set_option maxHeartbeats 400000 in
theorem listOf_any (a : Option Addr) (b o n c : Nat) (P : List Pc) (w : World) (h : PcAt w a b o n P) (hn : n ≤ 1048576) :
    Calls Tryd.prog 56 #[.slice a n c] w fun e w' => (∃ v, e = .returned v ∧ Own w.heap.size w' 3 v n (pcs P) ∧ v.ownBlock ≠ some w'.heap.size) ∧ Below w.heap.size w w' := by
  obtain ⟨i0, hi, hz0, hz1, hz2⟩ := info_parts Tryd.infoPc
  have hsrc := h.src 52 45 Tryd.underlying52 c
  go_enter Tryd.func56, Tryd.ntmps56
  go_wp2_with (refine wpList_append_c _ rfl _ _ 84 52 rfl w.heap.size 45 i0 _ 3 40 Tryd.underlying84 hi hz0 hz1 hz2 rfl (.slice none 0 0) 0 [] rfl (Own.nil _ _ _) (.slice a n c) n (pcs P) rfl hsrc (by unfold maxLen; omega) (by omega) (Nat.le_refl _) ?_; intro v' w1 hown hgr hob)
  rw [Nat.zero_add, List.nil_append] at hown
  go_ret
  refine ⟨⟨_, rfl, hown, fun e => ?_⟩, (Below.refl _ _).grown hgr (Nat.le_refl _) (by simp [Value.ownBlock])⟩
  have := hown.row_hi _ e
  omega

/-- What is written: one cell of block p, one row. -/
structure Only (w w' : World) (p f : Nat) (r : Option Nat) : Prop where
  os : w'.os = w.os
  tape : w'.tape = w.tape
  output : w'.output = w.output
  size : w.heap.size ≤ w'.heap.size
  block : ∀ k, k < w.heap.size → k ≠ p → some k ≠ r → w'.heap[k]? = w.heap[k]?
  cell : ∀ j, j ≠ f → w'.cell? ⟨p, j, none⟩ = w.cell? ⟨p, j, none⟩
  frz : ∀ j, w'.frozen? ⟨p, j, none⟩ = w.frozen? ⟨p, j, none⟩
theorem Only.refl (w : World) (p f : Nat) (r : Option Nat) : Only w w p f r := ⟨rfl, rfl, rfl, Nat.le_refl _, fun _ _ _ _ => rfl, fun _ _ => rfl, fun _ => rfl⟩
theorem Only.ofGrown {w w' : World} {p f : Nat} {r : Option Nat} (h : w.grownBy w' r) (hp : p < w.heap.size) (hr : r ≠ some p) : Only w w' p f r :=
  ⟨h.os, h.tape, h.output, h.size, fun k hk _ hr' => h.block k hk hr', fun _ _ => World.cell?_of_block (w := w) (h.block p hp (fun e => hr e.symm)), fun _ => World.frozen?_of_block (w := w) (h.block p hp (fun e => hr e.symm))⟩
theorem Only.setCell {w w' : World} {p f : Nat} {r : Option Nat} (h : Only w w' p f r) (u : Value) : Only w (w'.setCell ⟨p, f, none⟩ u) p f r :=
  ⟨h.os, h.tape, h.output, by simpa [World.setCell] using h.size, fun k hk hp hr => (Below.heap_setCell _ _ _ _ hp).trans (h.block k hk hp hr), fun j hj => (World.cell?_setCell_other _ _ _ _ (by intro e; injection e with _ e2; exact hj e2.symm)).trans (h.cell j hj), fun j => by rw [World.frozen?_setCell]; exact h.frz j⟩
theorem Only.below {w w' : World} {p f C : Nat} {r : Option Nat} (h : Only w w' p f r) (hp : C ≤ p) (hr : ∀ k, r = some k → C ≤ k) (hC : C ≤ w.heap.size) : Below C w w' :=
  ⟨h.os, h.tape, h.output, h.size, fun k hk => h.block k (by omega) (by omega) (fun e => by have := hr k e.symm; omega)⟩

/-- A list of parcels that the program is at: its header at place f of block p. -/
structure LsAt (B : Nat) (w : World) (p f : Nat) (v : Value) (P : List Pc) : Prop where
  c : w.cell? ⟨p, f, none⟩ = some v
  nf : w.frozen? ⟨p, f, none⟩ = false
  own : Own B w 3 v P.length (pcs P)
  lo : B ≤ p
  hi : p < w.heap.size
  ne : v.ownBlock ≠ some p
theorem LsAt.lenLe {B : Nat} {w : World} {p f : Nat} {v : Value} {P : List Pc} (h : LsAt B w p f v P) : P.length ≤ maxLen := by
  rcases h.own with ⟨_, h2, _⟩ | ⟨_, _, _, _, hc⟩
  · omega
  · exact Nat.le_trans hc.le hc.max

theorem run_mvL {ρ : Operand → Value} {o : Oper} {w : World} {v : Value} (x : Operand) (h : o.op = .move x) (hx : ρ x = v) : (execOp ρ o).run Tryd.prog w = .ok (.value v) w := by
  rw [← hx]; exact BigFrame.run_move x h w
theorem run_ldL {ρ : Operand → Value} {o : Oper} {w : World} {p : Addr} {v : Value} (x : Operand) (h : o.op = .load 84 x) (hx : ρ x = .pointer (some p)) (hc : w.cell? p = some v) : (execOp ρ o).run Tryd.prog w = .ok (.value v) w := by
  unfold execOp
  rw [h]
  simp [go_sem, hx, hc]
theorem run_ncL {ρ : Operand → Value} {o : Oper} {w : World} {p : Addr} (x : Operand) (h : o.op = .nilCheck x) (hx : ρ x = .pointer (some p)) : (execOp ρ o).run Tryd.prog w = .ok (.value (.pointer (some p))) w := by
  unfold execOp
  rw [h]
  simp [go_sem, hx]
theorem run_stL {ρ : Operand → Value} {o : Oper} {w : World} {a : Option Addr} {n c : Nat} {p : Addr} {old : Value} (x y : Operand) (h : o.op = .store 84 x y) (hx : ρ x = .pointer (some p)) (hy : ρ y = .slice a n c) (hc : w.cell? p = some old) (hf : w.frozen? p = false) :
    (execOp ρ o).run Tryd.prog w = .ok .skip (w.setCell p (.slice a n c)) := by
  unfold execOp
  rw [h]
  simp [go_sem, hx, hy, hc, hf]
theorem run_bsL {ρ : Operand → Value} {o : Oper} {w : World} (x : Operand) (t : Int) (s u : ByteArray) (h : o.op = .buildSlice 84 1 #[(0, x)]) (hx : ρ x = .agg #[.int .i64 t, .string s, .string u]) :
    (execOp ρ o).run Tryd.prog w = .ok (.value (.slice (some ⟨w.heap.size, 0, none⟩) 1 1)) (w.alloc (.cells #[.int .i64 t, .string s, .string u] 45)) := by
  unfold execOp
  rw [h]
  simp [go_sem, hx]
theorem run_appL {ρ : Operand → Value} {o : Oper} {w w' : World} {v x v' : Value} (s y : Operand) (t tx ty : TypeId) (ho : o.op = .call { callee := .builtin .append, args := #[s, y], argTypes := #[t, tx] }) (hv : ρ s = v) (hx : ρ y = x) (hty : o.type = ty) (hr : (Builtin.append_ #[t, tx] ty #[v, x]).run Tryd.prog w = .ok v' w') : (execOp ρ o).run Tryd.prog w = .ok (.value v') w' := by
  unfold execOp
  simp [ho, resolve, invoke, builtin, hv, hx, hty, hr, Result.andThen]

/-- What 'put' leaves. -/
def Put1 (B : Nat) (w w' : World) (p f : Nat) (v : Value) (P : List Pc) (x : Pc) : Prop :=
  (∃ v', LsAt B w' p f v' (if P.length < 2000 then P ++ [x] else P) ∧ (v'.ownBlock = v.ownBlock ∨ ∀ q, v'.ownBlock = some q → w.heap.size ≤ q)) ∧ Only w w' p f v.ownBlock

set_option maxHeartbeats 2000000 in
set_option maxRecDepth 100000 in
theorem put_any (B : Nat) (p f : Nat) (a : Option Addr) (n c : Nat) (P : List Pc) (x0 : Int) (x1 x2 : ByteArray) (w : World) (h : LsAt B w p f (.slice a n c) P) (hn : n = P.length) (hB : B ≤ w.heap.size) :
    Calls Tryd.prog 80 #[.pointer (some ⟨p, f, none⟩), .agg #[.int .i64 x0, .string x1, .string x2]] w fun e w' => e = .returned (.tuple #[]) ∧
      Put1 B w w' p f (.slice a n c) P (x0, x1, x2) := by
  obtain ⟨i0, hi, hz0, hz1, hz2⟩ := info_parts Tryd.infoPc
  have hmax := h.lenLe
  unfold maxLen at hmax
  obtain ⟨W, hW⟩ : ∃ W, W = w.alloc (.cells #[.int .i64 x0, .string x1, .string x2] 45) := ⟨_, rfl⟩
  have hsW : W.heap.size = w.heap.size + 1 := by rw [hW]; simp
  have hgW : w.grownBy W (Value.slice a n c).ownBlock := by rw [hW]; exact World.grownBy_alloc w _ _
  have hcW : W.cell? ⟨p, f, none⟩ = some (.slice a n c) := (World.cell?_of_block (w := w) (hgW.block p h.hi (fun e => h.ne e.symm))).trans h.c
  have hbox : CF W w.heap.size [.int .i64 x0, .string x1, .string x2] := by rw [hW]; exact CF.made w _ _
  have howW : Own B W 3 (.slice a n c) n (pcs P) := by rw [hW, hn]; have := h.own.alloc (.cells #[.int .i64 x0, .string x1, .string x2] 45); rw [← hn] at this ⊢; exact this
  by_cases h1 : n < 2000
  · have h1' : (n : Int) < 2000 := by omega
    obtain ⟨U, hU⟩ : ∃ U, U = W.drew.alloc (.cells #[.int .i64 x0, .string x1, .string x2] 45) := ⟨_, rfl⟩
    have hgU : W.grownBy U none := by rw [hU]; exact ⟨rfl, rfl, rfl, by simp, fun k hk _ => Below.heap_alloc W.drew _ k hk⟩
    have howU : Own B U 3 (.slice a n c) n (pcs P) := howW.grown hgU (by cases (Value.slice a n c).ownBlock <;> simp)
    have hsrc : Src Tryd.prog 3 84 (.slice (some ⟨W.heap.size, 0, none⟩) 1 1) 1 (pcs [(x0, x1, x2)]) U := by
      have hcf : CF U W.heap.size [.int .i64 x0, .string x1, .string x2] := by rw [hU]; exact CF.made W.drew _ _
      refine Src.ofSlice U Tryd.underlying84 ⟨W.heap.size, 0, none⟩ 1 1 _ rfl (fun j u hu => ?_) (pcs_one _)
      rw [Addr.add_lit, Nat.zero_add]
      exact (hcf j (by have := (List.getElem?_eq_some_iff.1 hu).1; simpa [pcs, pcl] using this)).1.trans hu
    obtain ⟨v2, w2, hr2, hown2, hg2, hob2⟩ := run_append_c (P := Tryd.prog) U B 84 84 84 45 i0 _ 3 40 Tryd.underlying84 hi hz0 hz1 hz2 rfl _ n _ howU _ 1 _ hsrc (by unfold maxLen; omega) (by omega) (by have := hgU.size; omega)
    obtain ⟨a2, c2, rfl⟩ := hown2.slc
    have hgall : w.grownBy w2 (Value.slice a n c).ownBlock := grownBy_trans (grownBy_trans hgW (grownBy_any hgU)) hg2
    have hc2 : w2.cell? ⟨p, f, none⟩ = some (.slice a n c) := (World.cell?_of_block (w := w) (hgall.block p h.hi (fun e => h.ne e.symm))).trans h.c
    have hf2 : w2.frozen? ⟨p, f, none⟩ = false := (World.frozen?_of_block (w := w) (hgall.block p h.hi (fun e => h.ne e.symm))).trans h.nf
    have hsU : U.heap.size = w.heap.size + 2 := by rw [hU]; show (World.alloc _ _).heap.size = _; rw [World.size_alloc]; show W.heap.size + 1 = _; omega
    have hne2 : (Value.slice a2 (n + 1) c2).ownBlock ≠ some p := by
      rcases hob2 with e | e
      · rw [e]; exact h.ne
      · rw [e, hsU]; have := h.hi; intro e'; injection e' with e'; omega
    have HQ : Put1 B w (w2.setCell ⟨p, f, none⟩ (.slice a2 (n + 1) c2)) p f (.slice a n c) P (x0, x1, x2) := by
      refine ⟨⟨.slice a2 (n + 1) c2, ⟨World.cell?_setCell_same _ _ _ hc2, by rw [World.frozen?_setCell]; exact hf2, ?_, h.lo, ?_, hne2⟩, ?_⟩, (Only.ofGrown hgall h.hi h.ne).setCell _⟩
      · rw [if_pos (by omega), List.length_append, List.length_singleton, ← hn, pcs_append]
        rcases hown2 with hh | ⟨g, o', cap, hv, hc⟩
        · exact .inl hh
        · exact .inr ⟨g, o', cap, hv, hc.setOther (by rw [hv] at hne2; simpa [Value.ownBlock] using hne2) _⟩
      · have := hgall.size; have := h.hi; simp [World.setCell]; omega
      · rcases hob2 with e | e
        · exact .inl e
        · refine .inr fun q hq => ?_
          rw [e, hsU] at hq; injection hq with hq; omega
    have hS0 : W.drew.cell? ⟨p, f, none⟩ = some (.slice a n c) ∧ CF W.drew w.heap.size [.int .i64 x0, .string x1, .string x2] := ⟨hcW, hbox⟩
    have hS1 : U.cell? ⟨p, f, none⟩ = some (.slice a n c) ∧ CF U w.heap.size [.int .i64 x0, .string x1, .string x2] :=
      ⟨(World.cell?_of_block (w := W) (hgU.block p (by have := h.hi; omega) (by simp))).trans hcW, hbox.block (hgU.block _ (by omega) (by simp))⟩
    have hlo := h.own.row_hi
    have hS2 : w2.cell? ⟨p, f, none⟩ = some (.slice a n c) ∧ CF w2 w.heap.size [.int .i64 x0, .string x1, .string x2] :=
      ⟨hc2, hS1.2.block (hg2.block _ (by omega) (fun e => by have := hlo _ e.symm; omega))⟩
    clear howU howW hown2 hg2 hgall hgU hsrc hn h hmax hgW hbox hlo hob2 hne2 hsU hsW hi hz0 hz1 hz2 h1 hS2 hB
    go_enter Tryd.func80, Tryd.ntmps80
    go_upto_region 1 with fail
    rw [← hW]
    clear hW
    go_upto_region 2 with fail
    refine wp_region_held (S := fun _ => True) (by kernel_rfl) ?_
    change wpAnyH _ _ _ _ _ _ _ _ (World.drew _)
    refine hTake (i := 0) (d := some 9) (v := .pointer (some ⟨p, f, none⟩)) (l' := #[true, false, false, false, false, false, false, false, false]) rfl (by kernel_rfl) (by kernel_rfl) (by kernel_rfl) (by kernel_rfl) (fun _ _ _ h => h) (by kernel_rfl) (fun _ hc => by kernel_rfl) trivial (by kernel_rfl) ?_
    refine hTake (i := 1) (d := some 10) (v := .pointer (some ⟨p, f, none⟩)) (l' := #[true, true, false, false, false, false, false, false, false]) rfl (by kernel_rfl) (by kernel_rfl) (by kernel_rfl) (by kernel_rfl) (fun _ _ _ h => h) (by kernel_rfl) (fun _ hc => by kernel_rfl) trivial (by kernel_rfl) ?_
    refine hTake (i := 2) (d := some 11) (v := .pointer (some ⟨p, f, none⟩)) (l' := #[true, true, true, false, false, false, false, false, false]) rfl (by kernel_rfl) (by kernel_rfl) (by kernel_rfl) (by kernel_rfl) (fun _ _ _ h => h) (by kernel_rfl) (fun _ hc => run_ncL (.tmp 10) (by kernel_rfl) (by kernel_rfl)) trivial (by kernel_rfl) ?_
    refine hTwo (i := 3) (j := 4) (by kernel_rfl) ?_ ?_
    · refine hVal (i := 3) (d := some 12) (v := .slice a n c) (w' := W.drew) (l' := #[true, true, true, true, false, false, false, false, false]) rfl (by kernel_rfl) (by kernel_rfl) (by kernel_rfl) (run_ldL (.tmp 11) (by kernel_rfl) (by kernel_rfl) hS0.1) trivial ?_
      refine hOne (i := 4) (by kernel_rfl) ?_
      refine hVal (i := 4) (d := some 13) (v := .agg #[.int .i64 x0, .string x1, .string x2]) (w' := W.drew) (l' := #[true, true, true, true, true, false, false, false, false]) rfl (by kernel_rfl) (by kernel_rfl) (by kernel_rfl) (run_ldT 45 _ _ (.tmp 3) (by kernel_rfl) (by kernel_rfl) hS0.2 Tryd.underlying45 rfl (by kernel_rfl)) trivial ?_
      refine hOne (i := 5) (by kernel_rfl) ?_
      refine hVal (i := 5) (d := some 14) (v := .slice (some ⟨W.heap.size, 0, none⟩) 1 1) (w' := U) (l' := #[true, true, true, true, true, true, false, false, false]) rfl (by kernel_rfl) (by kernel_rfl) (by kernel_rfl) (by rw [hU]; exact run_bsL (.tmp 13) x0 x1 x2 (by kernel_rfl) (by kernel_rfl)) trivial ?_
      refine hOne (i := 6) (by kernel_rfl) ?_
      refine hVal (i := 6) (d := some 15) (v := .slice a2 (n + 1) c2) (w' := w2) (l' := #[true, true, true, true, true, true, true, false, false]) rfl (by kernel_rfl) (by kernel_rfl) (by kernel_rfl) (run_appL (.tmp 12) (.tmp 14) 84 84 84 (by kernel_rfl) (by kernel_rfl) (by kernel_rfl) (by kernel_rfl) hr2) trivial ?_
      refine hOne (i := 7) (by kernel_rfl) ?_
      refine hVal (i := 7) (d := some 16) (v := .pointer (some ⟨p, f, none⟩)) (w' := w2) (l' := #[true, true, true, true, true, true, true, true, false]) rfl (by kernel_rfl) (by kernel_rfl) (by kernel_rfl) (run_ncL (.tmp 9) (by kernel_rfl) (by kernel_rfl)) trivial ?_
      refine hOne (i := 8) (by kernel_rfl) ?_
      refine hSkip (i := 8) (w' := w2.setCell ⟨p, f, none⟩ (.slice a2 (n + 1) c2)) (l' := #[true, true, true, true, true, true, true, true, true]) rfl (by kernel_rfl) (by kernel_rfl) (by kernel_rfl) (run_stL (.tmp 16) (.tmp 15) (by kernel_rfl) (by kernel_rfl) (by kernel_rfl) hc2 hf2) trivial ?_
      refine wpAnyH_done (by kernel_rfl) ?_ _
      go_simp
      go_wp2
      go_end0
      exact ⟨rfl, HQ⟩
    · refine hVal (i := 4) (d := some 13) (v := .agg #[.int .i64 x0, .string x1, .string x2]) (w' := W.drew) (l' := #[true, true, true, false, true, false, false, false, false]) rfl (by kernel_rfl) (by kernel_rfl) (by kernel_rfl) (run_ldT 45 _ _ (.tmp 3) (by kernel_rfl) (by kernel_rfl) hS0.2 Tryd.underlying45 rfl (by kernel_rfl)) trivial ?_
      refine hTwo (i := 3) (j := 5) (by kernel_rfl) ?_ ?_
      · refine hVal (i := 3) (d := some 12) (v := .slice a n c) (w' := W.drew) (l' := #[true, true, true, true, true, false, false, false, false]) rfl (by kernel_rfl) (by kernel_rfl) (by kernel_rfl) (run_ldL (.tmp 11) (by kernel_rfl) (by kernel_rfl) hS0.1) trivial ?_
        refine hOne (i := 5) (by kernel_rfl) ?_
        refine hVal (i := 5) (d := some 14) (v := .slice (some ⟨W.heap.size, 0, none⟩) 1 1) (w' := U) (l' := #[true, true, true, true, true, true, false, false, false]) rfl (by kernel_rfl) (by kernel_rfl) (by kernel_rfl) (by rw [hU]; exact run_bsL (.tmp 13) x0 x1 x2 (by kernel_rfl) (by kernel_rfl)) trivial ?_
        refine hOne (i := 6) (by kernel_rfl) ?_
        refine hVal (i := 6) (d := some 15) (v := .slice a2 (n + 1) c2) (w' := w2) (l' := #[true, true, true, true, true, true, true, false, false]) rfl (by kernel_rfl) (by kernel_rfl) (by kernel_rfl) (run_appL (.tmp 12) (.tmp 14) 84 84 84 (by kernel_rfl) (by kernel_rfl) (by kernel_rfl) (by kernel_rfl) hr2) trivial ?_
        refine hOne (i := 7) (by kernel_rfl) ?_
        refine hVal (i := 7) (d := some 16) (v := .pointer (some ⟨p, f, none⟩)) (w' := w2) (l' := #[true, true, true, true, true, true, true, true, false]) rfl (by kernel_rfl) (by kernel_rfl) (by kernel_rfl) (run_ncL (.tmp 9) (by kernel_rfl) (by kernel_rfl)) trivial ?_
        refine hOne (i := 8) (by kernel_rfl) ?_
        refine hSkip (i := 8) (w' := w2.setCell ⟨p, f, none⟩ (.slice a2 (n + 1) c2)) (l' := #[true, true, true, true, true, true, true, true, true]) rfl (by kernel_rfl) (by kernel_rfl) (by kernel_rfl) (run_stL (.tmp 16) (.tmp 15) (by kernel_rfl) (by kernel_rfl) (by kernel_rfl) hc2 hf2) trivial ?_
        refine wpAnyH_done (by kernel_rfl) ?_ _
        go_simp
        go_wp2
        go_end0
        exact ⟨rfl, HQ⟩
      · refine hVal (i := 5) (d := some 14) (v := .slice (some ⟨W.heap.size, 0, none⟩) 1 1) (w' := U) (l' := #[true, true, true, false, true, true, false, false, false]) rfl (by kernel_rfl) (by kernel_rfl) (by kernel_rfl) (by rw [hU]; exact run_bsL (.tmp 13) x0 x1 x2 (by kernel_rfl) (by kernel_rfl)) trivial ?_
        refine hOne (i := 3) (by kernel_rfl) ?_
        refine hVal (i := 3) (d := some 12) (v := .slice a n c) (w' := U) (l' := #[true, true, true, true, true, true, false, false, false]) rfl (by kernel_rfl) (by kernel_rfl) (by kernel_rfl) (run_ldL (.tmp 11) (by kernel_rfl) (by kernel_rfl) hS1.1) trivial ?_
        refine hOne (i := 6) (by kernel_rfl) ?_
        refine hVal (i := 6) (d := some 15) (v := .slice a2 (n + 1) c2) (w' := w2) (l' := #[true, true, true, true, true, true, true, false, false]) rfl (by kernel_rfl) (by kernel_rfl) (by kernel_rfl) (run_appL (.tmp 12) (.tmp 14) 84 84 84 (by kernel_rfl) (by kernel_rfl) (by kernel_rfl) (by kernel_rfl) hr2) trivial ?_
        refine hOne (i := 7) (by kernel_rfl) ?_
        refine hVal (i := 7) (d := some 16) (v := .pointer (some ⟨p, f, none⟩)) (w' := w2) (l' := #[true, true, true, true, true, true, true, true, false]) rfl (by kernel_rfl) (by kernel_rfl) (by kernel_rfl) (run_ncL (.tmp 9) (by kernel_rfl) (by kernel_rfl)) trivial ?_
        refine hOne (i := 8) (by kernel_rfl) ?_
        refine hSkip (i := 8) (w' := w2.setCell ⟨p, f, none⟩ (.slice a2 (n + 1) c2)) (l' := #[true, true, true, true, true, true, true, true, true]) rfl (by kernel_rfl) (by kernel_rfl) (by kernel_rfl) (run_stL (.tmp 16) (.tmp 15) (by kernel_rfl) (by kernel_rfl) (by kernel_rfl) hc2 hf2) trivial ?_
        refine wpAnyH_done (by kernel_rfl) ?_ _
        go_simp
        go_wp2
        go_end0
        exact ⟨rfl, HQ⟩
  · have h1' : ¬ (n : Int) < 2000 := by omega
    have HQ : Put1 B w W p f (.slice a n c) P (x0, x1, x2) := by
      refine ⟨⟨.slice a n c, ⟨hcW, (World.frozen?_of_block (w := w) (hgW.block p h.hi (fun e => h.ne e.symm))).trans h.nf, by rw [if_neg (by omega), ← hn]; exact howW, h.lo, by have := h.hi; omega, h.ne⟩, .inl rfl⟩, Only.ofGrown hgW h.hi h.ne⟩
    clear howW hn h hmax hgW hbox hi hz0 hz1 hz2 h1 hB hsW
    go_enter Tryd.func80, Tryd.ntmps80
    go_upto_region 1 with fail
    rw [← hW]
    clear hW
    go_wp2
    go_end0
    exact ⟨rfl, HQ⟩

end Go.Proofs.YtlgmkmegkojgbaaDoor
