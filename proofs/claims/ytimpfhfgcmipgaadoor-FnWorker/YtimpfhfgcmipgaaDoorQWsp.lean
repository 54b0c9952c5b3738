
import Derived.Test.YtimpfhfgcmipgaaDoorQWdr
import Derived.Deep.DeepCutAuto
namespace Go.Proofs.YtimpfhfgcmipgaaDoor
open Go.RowKit

theorem StrsAt.srcQ {w : World} {a : Option Addr} {b o n : Nat} {ss : List ByteArray} (h : StrsAt w a b o n ss) (c : Nat) : Src Tryd.prog 1 23 (.slice a n c) n (ss.map Value.string) w := by
  have h1 : ∀ u ∈ ss.map Value.string, u.oneCell' = true := fun u hu => by obtain ⟨y, _, rfl⟩ := List.mem_map.1 hu; rfl
  cases a with
  | none =>
    have h0 : n = 0 := Nat.eq_zero_of_not_pos fun hh => by have := h.ad hh; cases this
    subst h0
    have : ss = [] := List.eq_nil_of_length_eq_zero h.len
    subst this
    exact Src.ofNil w Tryd.underlying23 c
  | some y =>
    refine Src.ofSlice w Tryd.underlying23 y n c (ss.map Value.string) (by simp [h.len]) (fun j u hu => ?_) h1
    have hj : j < n := by have := (List.getElem?_eq_some_iff.1 hu).1; simp [h.len] at this; exact this
    have hy := h.ad (by omega)
    injection hy with hy
    subst hy
    rw [Addr.add_lit, h.cell j hj]
    rw [← hu]; simp [List.getD, h.len, hj]

/-- Amid the spoiling: the worker's box, the answer's box, the inputs as they came. -/
structure WP (w : World) (g : Nat) (cs : List Value) (a : Option Addr) (b o n : Nat) (ss : List ByteArray) (k : Nat) (wr : World) : Prop where
  E : CF wr (w.heap.size) cs
  A : CF wr (w.heap.size + 1) [.int .i64 0, .int .i64 0, .bool false, .int .i64 0, .int .i64 0, .int .i64 0, .int .i64 0, .int .i64 0, .slice none 0 0, .string ⟨#[]⟩, .int .i64 0]
  st : StrsAt wr a b o n ss
  rd : RD wr g k
  gr : w.grownBy wr (some g)
  gb : 0 < n → g < b ∧ b < w.heap.size
  ord : g < w.heap.size ∧ w.heap.size + 2 ≤ wr.heap.size
section
variable {w wr w' : World} {g k k' b o n : Nat} {a : Option Addr} {cs : List Value} {ss : List ByteArray}
theorem WP.upd (h : WP w g cs a b o n ss k wr) (hos : w'.os = wr.os) (htp : w'.tape = wr.tape) (hop : w'.output = wr.output) (hz : wr.heap.size ≤ w'.heap.size) (hE : CF w' (w.heap.size) cs) (hb : ∀ q, q < w.heap.size + 2 → q ≠ g → q ≠ w.heap.size → w'.heap[q]? = wr.heap[q]?) (hr : RD w' g k') : WP w g cs a b o n ss k' w' :=
  have ho := h.ord
  ⟨hE, h.A.block (hb _ (by omega) (by omega) (by omega)), ⟨h.st.ad, h.st.len, h.st.max, fun h0 => Nat.lt_of_lt_of_le (h.st.lt h0) hz, fun j hj => (World.cell?_of_block (w := wr) (a := ⟨b, o + j, none⟩) (hb b (by have := h.gb (by omega); omega) (by have := h.gb (by omega); omega) (by have := h.gb (by omega); omega))).trans (h.st.cell j hj), h.st.sz⟩, hr, ⟨hos.trans h.gr.os, htp.trans h.gr.tape, hop.trans h.gr.output, Nat.le_trans h.gr.size hz, fun q hq hne => (hb q (by omega) (by simpa using hne) (by omega)).trans (h.gr.block q hq hne)⟩, h.gb, ho.1, Nat.le_trans ho.2 hz⟩
theorem WP.call (h : WP w g cs a b o n ss k wr) (hr : RD w' g k') (hg : wr.grownBy w' (some g)) : WP w g cs a b o n ss k' w' :=
  have ho := h.ord
  h.upd hg.os hg.tape hg.output hg.size (h.E.block (hg.block _ (by omega) (by simp; omega))) (fun q hq hne _ => hg.block q (by omega) (by simpa using hne)) hr
theorem WP.below (h : WP w g cs a b o n ss k wr) (hb : Below wr.heap.size wr w') : WP w g cs a b o n ss k w' :=
  have ho := h.ord
  h.upd hb.os hb.tape hb.output hb.size (h.E.block (hb.block _ (by omega))) (fun q hq _ _ => hb.block q (by omega)) (h.rd.below hb)
theorem WP.alloc (h : WP w g cs a b o n ss k wr) (ob : Obj) : WP w g cs a b o n ss k (wr.alloc ob) := h.below ((Below.refl _ _).alloc (Nat.le_refl _) _)
theorem WP.drew (h : WP w g cs a b o n ss k wr) : WP w g cs a b o n ss k wr.drew := h.below (Below.refl _ _).drew
theorem WP.grown (h : WP w g cs a b o n ss k wr) {row : Option Nat} (hg : wr.grownBy w' row) (hr : ∀ q, row = some q → w.heap.size + 2 ≤ q) : WP w g cs a b o n ss k w' :=
  have ho := h.ord
  have far : ∀ q, q < w.heap.size + 2 → w'.heap[q]? = wr.heap[q]? := fun q hq => hg.block q (by omega) (fun e => by have := hr q e.symm; omega)
  h.upd hg.os hg.tape hg.output hg.size (h.E.block (far _ (by omega))) (fun q hq _ _ => far q hq) (h.rd.keep (fun q hq => far q (by omega)))
theorem WP.store (h : WP w g cs a b o n ss k wr) {j : Nat} (hj : j < cs.length) (u : Value) : WP w g (cs.set j u) a b o n ss k (wr.setCell ⟨w.heap.size, j, none⟩ u) := by
  have ho := h.ord
  have gs := gset (World.grownBy.refl wr (some (w.heap.size))) j u
  have h2 : WP w g (cs.set j u) a b o n ss k (wr.setCell ⟨w.heap.size, j, none⟩ u) := by
    have hE := h.E.set hj u
    refine ⟨hE, h.A.block (gs.block _ (by omega) (by simp)), ⟨h.st.ad, h.st.len, h.st.max, fun h0 => by simpa [World.setCell] using h.st.lt h0, fun i hi => (World.cell?_of_block (w := wr) (a := ⟨b, o + i, none⟩) (gs.block b (h.st.lt (by omega)) (by have := h.gb (by omega); simp; omega))).trans (h.st.cell i hi), h.st.sz⟩, h.rd.set (by dsimp only; omega) u, ⟨h.gr.os, h.gr.tape, h.gr.output, by simpa [World.setCell] using h.gr.size, fun q hq hne => (gs.block q (by have := h.gr.size; omega) (by simp; omega)).trans (h.gr.block q hq hne)⟩, h.gb, ho.1, by simpa [World.setCell] using ho.2⟩
  exact h2
end
/-- The answer, with the inputs as they came. -/
theorem WP.fin {w wr wf : World} {g k b o c : Nat} {B : Nat → Prop} {d : WD} {a : Option Addr} {P : WD → Prop} (hB : 0 < d.ss.length → B b) (h : WP w g [.int .i64 d.nu, .int .i64 d.ep, .bool d.up, .int .i64 d.st, .int .i64 d.le, .int .i64 d.ta, .int .i64 d.co, .int .i64 d.lf, .slice a d.ss.length c, .string d.x, .int .i64 d.si] a b o d.ss.length d.ss k wr) (hg : wr.grownBy wf (some (w.heap.size + 1))) (hb : bndW d) (hP : P d) :
    RetWk (.returned (.agg #[.int .i64 d.nu, .int .i64 d.ep, .bool d.up, .int .i64 d.st, .int .i64 d.le, .int .i64 d.ta, .int .i64 d.co, .int .i64 d.lf, .slice a d.ss.length c, .string d.x, .int .i64 d.si])) B wf P ∧ RD wf g k ∧ w.grownBy wf (some g) := by
  have ho := h.ord
  refine ⟨⟨d, a, c, b, o, rfl, ⟨h.st.ad, rfl, h.st.max, fun h0 => Nat.lt_of_lt_of_le (h.st.lt h0) hg.size, fun j hj => (World.cell?_of_block (w := wr) (a := ⟨b, o + j, none⟩) (hg.block b (h.st.lt (by omega)) (by have := h.gb (by omega); simp; omega))).trans (h.st.cell j hj), h.st.sz⟩, hB, hb, hP⟩, h.rd.grown hg (fun q hq => by injection hq with hq; omega), ⟨hg.os.trans h.gr.os, hg.tape.trans h.gr.tape, hg.output.trans h.gr.output, Nat.le_trans h.gr.size hg.size, fun q hq hne => (hg.block q (by have := h.gr.size; omega) (by simp; omega)).trans (h.gr.block q hq hne)⟩⟩
/-- The answer, with inputs of its own. -/
theorem WP.fin2 {w wr wf : World} {g k b o n : Nat} {B : Nat → Prop} {cs : List Value} {a : Option Addr} {ss : List ByteArray} {d : WD} {a' : Option Addr} {c' : Nat} {P : WD → Prop} (hB : ∀ q, w.heap.size ≤ q → B q) (h : WP w g cs a b o n ss k wr) (ho : Own (w.heap.size + 2) wr 1 (.slice a' d.ss.length c') d.ss.length (d.ss.map Value.string)) (hg : wr.grownBy wf (some (w.heap.size + 1))) (hb : bndW d) (hP : P d) :
    RetWk (.returned (.agg #[.int .i64 d.nu, .int .i64 d.ep, .bool d.up, .int .i64 d.st, .int .i64 d.le, .int .i64 d.ta, .int .i64 d.co, .int .i64 d.lf, .slice a' d.ss.length c', .string d.x, .int .i64 d.si])) B wf P ∧ RD wf g k ∧ w.grownBy wf (some g) := by
  have hd := h.ord
  have hown := ho.grown hg (.inr (by intro e; have := ho.row_lo _ e; omega))
  refine ⟨?_, h.rd.grown hg (fun q hq => by injection hq with hq; omega), ⟨hg.os.trans h.gr.os, hg.tape.trans h.gr.tape, hg.output.trans h.gr.output, Nat.le_trans h.gr.size hg.size, fun q hq hne => (hg.block q (by have := h.gr.size; omega) (by simp; omega)).trans (h.gr.block q hq hne)⟩⟩
  have hm : ∀ s ∈ d.ss, s.size ≤ maxLen := fun s hs => by have := hb.s s hs; unfold maxLen; omega
  rcases hown with ⟨hv, hn, hx⟩ | ⟨gb, o', cap, hv, hc⟩
  · refine ⟨d, a', c', 0, 0, rfl, ⟨fun h0 => by omega, rfl, by omega, fun h0 => by omega, fun j hj => by omega, hm⟩, fun h0 => by omega, hb, hP⟩
  · injection hv with e1 e2 e3
    subst e1
    exact ⟨d, _, c', gb, o', rfl, StrsAt.ofOwn hc hm, fun _ => hB gb (by have := hc.lo; omega), hb, hP⟩
theorem run_bsI3 {ρ : Operand → Value} {o : Oper} {w : World} (x0 x1 x2 : Operand) (i0 i1 i2 : Int) (h : o.op = .buildSlice 35 3 #[(0, x0), (1, x1), (2, x2)]) (h0 : ρ x0 = .int .i64 i0) (h1 : ρ x1 = .int .i64 i1) (h2 : ρ x2 = .int .i64 i2) :
    (execOp ρ o).run Tryd.prog w = .ok (.value (.slice (some ⟨w.heap.size, 0, none⟩) 3 3)) (w.alloc (.cells #[.int .i64 i0, .int .i64 i1, .int .i64 i2] 3)) := by
  unfold execOp; rw [h]; simp [go_sem, h0, h1, h2]
theorem run_addIB {ρ : Operand → Value} {o : Oper} {w : World} (x y : Operand) (a b : Int) (h : o.op = .binOp .add 3 x y 3) (hx : ρ x = .int .i64 a) (hy : ρ y = .int .i64 b) (hz : -9000000 ≤ a + b ∧ a + b ≤ 9000000) : (execOp ρ o).run Tryd.prog w = .ok (.value (.int .i64 (a + b))) w := by
  have hw : IntKind.i64.wrap (a + b) = a + b := by rw [IntKind.wrap_i64]; omega
  unfold execOp; rw [h]; simp [go_sem, hx, hy]
  first | done | exact hw | (rw [hw]) | omega
def t3l (co : Int) (r : Nat) : Int := [(0 : Int), co, co + 1].getD r 0
theorem t3l_cell {u : World} {q r : Nat} {co : Int} (h : CF u q [.int .i64 0, .int .i64 co, .int .i64 (co + 1)]) (hr : r < 3) : u.cell? ⟨q, r, none⟩ = some (.int .i64 (t3l co r)) := by
  rcases (show r = 0 ∨ r = 1 ∨ r = 2 by omega) with rfl | rfl | rfl
  · exact (h 0 (by simp)).1
  · exact (h 1 (by simp)).1
  · exact (h 2 (by simp)).1
theorem t3l_rng {co : Int} {r : Nat} (h1 : -2000000 ≤ co) (h2 : co ≤ 1000) (hr : r < 3) : -2000000 ≤ t3l co r ∧ t3l co r ≤ 2000000 := by
  rcases (show r = 0 ∨ r = 1 ∨ r = 2 by omega) with rfl | rfl | rfl <;> simp [t3l] <;> omega

set_option maxHeartbeats 8000000 in
set_option maxRecDepth 100000 in
theorem l3Spoil_any (g k : Nat) (B : Nat → Prop) (d : WD) (a : Option Addr) (b o c : Nat) (w : World) (h : RD w g k) (hk : k ≤ 900000) (hS : StrsAt w a b o d.ss.length d.ss) (hgb : 0 < d.ss.length → g < b) (hBb : 0 < d.ss.length → B b) (hBw : ∀ q, w.heap.size ≤ q → B q) (hb : bndW d) (hs : bndS d) :
    Calls Tryd.prog 33 #[.pointer (some ⟨g, 0, none⟩), .agg #[.int .i64 d.nu, .int .i64 d.ep, .bool d.up, .int .i64 d.st, .int .i64 d.le, .int .i64 d.ta, .int .i64 d.co, .int .i64 d.lf, .slice a d.ss.length c, .string d.x, .int .i64 d.si]] w fun e w' => RetWk e B w' (fun _ => True) ∧ RD w' g (k + 10) ∧ w.grownBy w' (some g) := by
  obtain ⟨i0, hi, hz0, hz1, hz2⟩ := info_parts Tryd.info9
  have hgl := h.lt
  obtain ⟨hco, hsl, hxl⟩ := hs
  obtain ⟨b1, b2, b3, b4, b5, b6, b7, b8, b9, b10, b11⟩ := hb
  obtain ⟨W, hW⟩ : ∃ W, W = (w.alloc (.cells #[.int .i64 d.nu, .int .i64 d.ep, .bool d.up, .int .i64 d.st, .int .i64 d.le, .int .i64 d.ta, .int .i64 d.co, .int .i64 d.lf, .slice a d.ss.length c, .string d.x, .int .i64 d.si] 25)).alloc (.cells #[.int .i64 0, .int .i64 0, .bool false, .int .i64 0, .int .i64 0, .int .i64 0, .int .i64 0, .int .i64 0, .slice none 0 0, .string ⟨#[]⟩, .int .i64 0] 25) := ⟨_, rfl⟩
  have S0 : WP w g [.int .i64 d.nu, .int .i64 d.ep, .bool d.up, .int .i64 d.st, .int .i64 d.le, .int .i64 d.ta, .int .i64 d.co, .int .i64 d.lf, .slice a d.ss.length c, .string d.x, .int .i64 d.si] a b o d.ss.length d.ss k W := by
    have hBW : Below w.heap.size w W := by rw [hW]; exact ((Below.refl _ _).alloc (Nat.le_refl _) _).alloc (by simp) _
    refine ⟨?_, ?_, hS.below' hBW, h.below hBW, grownBy_below hBW, fun h0 => ⟨hgb h0, hS.lt h0⟩, hgl, by rw [hW]; simp⟩
    · rw [hW]; exact (CF.made w #[.int .i64 d.nu, .int .i64 d.ep, .bool d.up, .int .i64 d.st, .int .i64 d.le, .int .i64 d.ta, .int .i64 d.co, .int .i64 d.lf, .slice a d.ss.length c, .string d.x, .int .i64 d.si] 25).block (Below.heap_alloc _ _ _ (by simp))
    · rw [hW]
      have := CF.made (w.alloc (.cells #[.int .i64 d.nu, .int .i64 d.ep, .bool d.up, .int .i64 d.st, .int .i64 d.le, .int .i64 d.ta, .int .i64 d.co, .int .i64 d.lf, .slice a d.ss.length c, .string d.x, .int .i64 d.si] 25)) #[.int .i64 0, .int .i64 0, .bool false, .int .i64 0, .int .i64 0, .int .i64 0, .int .i64 0, .int .i64 0, .slice none 0 0, .string ⟨#[]⟩, .int .i64 0] 25
      rw [World.size_alloc] at this
      exact this
  have HW := hid hW
  have HGB := hid hBb
  have HBW := hid hBw
  clear hBb hBw
  clear hW h hS hgb
  go_enter Tryd.func33, Tryd.ntmps33
  go_wp2_with fail
  rw [← HW.out]
  clear HW
  refine (pick_any g 9 k _ S0.rd (by omega) (by omega) (by omega)).mono ?_
  rintro e w1 ⟨⟨r1, hr1, rfl⟩, hrd1, hg1⟩
  have S1 := S0.call hrd1 hg1
  clear hrd1 hg1 S0
  rcases (show r1 = 0 ∨ r1 = 1 ∨ r1 = 2 ∨ r1 = 3 ∨ r1 = 4 ∨ r1 = 5 ∨ r1 = 6 ∨ r1 = 7 ∨ r1 = 8 by omega) with rfl | rfl | rfl | rfl | rfl | rfl | rfl | rfl | rfl
  · go_wp2_with fail
    refine (pick_any g 11 (k + 1) _ S1.rd (by omega) (by omega) (by omega)).mono ?_
    rintro e w2 ⟨⟨r2, hr2, rfl⟩, hrd, hgg⟩
    have S2 := S1.call hrd hgg
    clear hrd hgg S1
    have z0 : w2.cell? ⟨w.heap.size, 0, none⟩ = some (.int .i64 d.nu) := (S2.E 0 (by simp)).1
    have f0 : w2.frozen? ⟨w.heap.size, 0, none⟩ = false := (S2.E 0 (by simp)).2
    have S3 := S2.store (j := 0) (by simp) (.int .i64 ((r2 : Int) - 1))
    simp only [List.set_cons_zero] at S3
    clear S2
    have y0 : (w2.setCell ⟨w.heap.size, 0, none⟩ (.int .i64 ((r2 : Int) - 1))).cell? ⟨w.heap.size, 0, none⟩ = some (.int .i64 ((r2 : Int) - 1)) := (S3.E 0 (by simp)).1
    have y1 : (w2.setCell ⟨w.heap.size, 0, none⟩ (.int .i64 ((r2 : Int) - 1))).cell? ⟨w.heap.size, 1, none⟩ = some (.int .i64 d.ep) := (S3.E 1 (by simp)).1
    have y2 : (w2.setCell ⟨w.heap.size, 0, none⟩ (.int .i64 ((r2 : Int) - 1))).cell? ⟨w.heap.size, 2, none⟩ = some (.bool d.up) := (S3.E 2 (by simp)).1
    have y3 : (w2.setCell ⟨w.heap.size, 0, none⟩ (.int .i64 ((r2 : Int) - 1))).cell? ⟨w.heap.size, 3, none⟩ = some (.int .i64 d.st) := (S3.E 3 (by simp)).1
    have y4 : (w2.setCell ⟨w.heap.size, 0, none⟩ (.int .i64 ((r2 : Int) - 1))).cell? ⟨w.heap.size, 4, none⟩ = some (.int .i64 d.le) := (S3.E 4 (by simp)).1
    have y5 : (w2.setCell ⟨w.heap.size, 0, none⟩ (.int .i64 ((r2 : Int) - 1))).cell? ⟨w.heap.size, 5, none⟩ = some (.int .i64 d.ta) := (S3.E 5 (by simp)).1
    have y6 : (w2.setCell ⟨w.heap.size, 0, none⟩ (.int .i64 ((r2 : Int) - 1))).cell? ⟨w.heap.size, 6, none⟩ = some (.int .i64 d.co) := (S3.E 6 (by simp)).1
    have y7 : (w2.setCell ⟨w.heap.size, 0, none⟩ (.int .i64 ((r2 : Int) - 1))).cell? ⟨w.heap.size, 7, none⟩ = some (.int .i64 d.lf) := (S3.E 7 (by simp)).1
    have y8 : (w2.setCell ⟨w.heap.size, 0, none⟩ (.int .i64 ((r2 : Int) - 1))).cell? ⟨w.heap.size, 8, none⟩ = some (.slice a d.ss.length c) := (S3.E 8 (by simp)).1
    have y9 : (w2.setCell ⟨w.heap.size, 0, none⟩ (.int .i64 ((r2 : Int) - 1))).cell? ⟨w.heap.size, 9, none⟩ = some (.string d.x) := (S3.E 9 (by simp)).1
    have y10 : (w2.setCell ⟨w.heap.size, 0, none⟩ (.int .i64 ((r2 : Int) - 1))).cell? ⟨w.heap.size, 10, none⟩ = some (.int .i64 d.si) := (S3.E 10 (by simp)).1
    have hA := S3.A
    have HS := hid S3
    clear S3
    obtain ⟨WF, hWF⟩ : ∃ V, V = (w2.setCell ⟨w.heap.size, 0, none⟩ (.int .i64 ((r2 : Int) - 1))) := ⟨_, rfl⟩
    rw [← hWF] at y0 y1 y2 y3 y4 y5 y6 y7 y8 y9 y10 hA HS
    have HWF := hid hWF
    clear hWF
    go_upto_region 19 with fail
    rw [← HWF.out]
    clear HWF
    go_wp2_with (refine wpList_store_cf rfl 25 (.tmp 4) (.tmp 82) rfl (w.heap.size + 1) [.int .i64 0, .int .i64 0, .bool false, .int .i64 0, .int .i64 0, .int .i64 0, .int .i64 0, .int .i64 0, .slice none 0 0, .string ⟨#[]⟩, .int .i64 0] [.int .i64 ((r2 : Int) - 1), .int .i64 d.ep, .bool d.up, .int .i64 d.st, .int .i64 d.le, .int .i64 d.ta, .int .i64 d.co, .int .i64 d.lf, .slice a d.ss.length c, .string d.x, .int .i64 d.si] rfl rfl hA rfl Tryd.sizeWk (oneWk _ _ _ _ _ _ _ _ _ _ _ _ _) ?_; intro w10 hc10 hg10)
    have k0 : w10.cell? ⟨w.heap.size + 1, 0, none⟩ = some (.int .i64 ((r2 : Int) - 1)) := (hc10 0 (by simp)).1
    have k1 : w10.cell? ⟨w.heap.size + 1, 1, none⟩ = some (.int .i64 d.ep) := (hc10 1 (by simp)).1
    have k2 : w10.cell? ⟨w.heap.size + 1, 2, none⟩ = some (.bool d.up) := (hc10 2 (by simp)).1
    have k3 : w10.cell? ⟨w.heap.size + 1, 3, none⟩ = some (.int .i64 d.st) := (hc10 3 (by simp)).1
    have k4 : w10.cell? ⟨w.heap.size + 1, 4, none⟩ = some (.int .i64 d.le) := (hc10 4 (by simp)).1
    have k5 : w10.cell? ⟨w.heap.size + 1, 5, none⟩ = some (.int .i64 d.ta) := (hc10 5 (by simp)).1
    have k6 : w10.cell? ⟨w.heap.size + 1, 6, none⟩ = some (.int .i64 d.co) := (hc10 6 (by simp)).1
    have k7 : w10.cell? ⟨w.heap.size + 1, 7, none⟩ = some (.int .i64 d.lf) := (hc10 7 (by simp)).1
    have k8 : w10.cell? ⟨w.heap.size + 1, 8, none⟩ = some (.slice a d.ss.length c) := (hc10 8 (by simp)).1
    have k9 : w10.cell? ⟨w.heap.size + 1, 9, none⟩ = some (.string d.x) := (hc10 9 (by simp)).1
    have k10 : w10.cell? ⟨w.heap.size + 1, 10, none⟩ = some (.int .i64 d.si) := (hc10 10 (by simp)).1
    have HF := WP.fin (d := (⟨((r2 : Int) - 1), d.ep, d.up, d.st, d.le, d.ta, d.co, d.lf, d.ss, d.x, d.si⟩ : WD)) (c := c) HGB.out HS.out hg10 ⟨by dsimp only; omega, b2, b3, b4, b5, b6, b7, b8, b9, b10, b11⟩ (P := fun _ => True) trivial
    exact bodyPost_ret (v := .agg #[.int .i64 ((r2 : Int) - 1), .int .i64 d.ep, .bool d.up, .int .i64 d.st, .int .i64 d.le, .int .i64 d.ta, .int .i64 d.co, .int .i64 d.lf, .slice a d.ss.length c, .string d.x, .int .i64 d.si]) (by simp [results, Tryd.results33, go_sem, k0, k1, k2, k3, k4, k5, k6, k7, k8, k9, k10]) rfl ⟨HF.1, HF.2.1.mono (by omega), HF.2.2⟩
  · have SA := S1.alloc (.cells #[.int .i64 0, .int .i64 300, .int .i64 301] 3)
    have cA := CF.made w1 #[.int .i64 0, .int .i64 300, .int .i64 301] 3
    obtain ⟨WA, hWA⟩ : ∃ V, V = w1.alloc (.cells #[.int .i64 0, .int .i64 300, .int .i64 301] 3) := ⟨_, rfl⟩
    have zA : w1.heap.size < WA.heap.size := by rw [hWA]; simp
    have hgA : g < w1.heap.size := S1.rd.lt
    rw [← hWA] at SA cA
    have HWA := hid hWA
    clear hWA S1
    go_wp2_with fail
    rw [← HWA.out]
    clear HWA
    refine (pick_any g 3 (k + 1) _ SA.rd (by omega) (by omega) (by omega)).mono ?_
    rintro e w2 ⟨⟨r2, hr2, rfl⟩, hrd2, hg2⟩
    have S2 := SA.call hrd2 hg2
    have c2 := cA.block (hg2.block _ zA (by simp; omega))
    obtain ⟨xx, hxx, hxc⟩ : ∃ xx : Int, (-2000000 ≤ xx ∧ xx ≤ 2000000) ∧ w2.cell? ⟨w1.heap.size, r2, none⟩ = some (.int .i64 xx) := by
      rcases (show r2 = 0 ∨ r2 = 1 ∨ r2 = 2 by omega) with rfl | rfl | rfl
      · exact ⟨0, by omega, (c2 0 (by simp)).1⟩
      · exact ⟨300, by omega, (c2 1 (by simp)).1⟩
      · exact ⟨301, by omega, (c2 2 (by simp)).1⟩
    have hr2' : (r2 : Int) < 3 := by omega
    clear hrd2 hg2 SA cA c2 zA
    have z1 : w2.cell? ⟨w.heap.size, 1, none⟩ = some (.int .i64 d.ep) := (S2.E 1 (by simp)).1
    have f1 : w2.frozen? ⟨w.heap.size, 1, none⟩ = false := (S2.E 1 (by simp)).2
    have S3 := S2.store (j := 1) (by simp) (.int .i64 xx)
    simp only [List.set_cons_zero, List.set_cons_succ] at S3
    clear S2
    have y0 : (w2.setCell ⟨w.heap.size, 1, none⟩ (.int .i64 xx)).cell? ⟨w.heap.size, 0, none⟩ = some (.int .i64 d.nu) := (S3.E 0 (by simp)).1
    have y1 : (w2.setCell ⟨w.heap.size, 1, none⟩ (.int .i64 xx)).cell? ⟨w.heap.size, 1, none⟩ = some (.int .i64 xx) := (S3.E 1 (by simp)).1
    have y2 : (w2.setCell ⟨w.heap.size, 1, none⟩ (.int .i64 xx)).cell? ⟨w.heap.size, 2, none⟩ = some (.bool d.up) := (S3.E 2 (by simp)).1
    have y3 : (w2.setCell ⟨w.heap.size, 1, none⟩ (.int .i64 xx)).cell? ⟨w.heap.size, 3, none⟩ = some (.int .i64 d.st) := (S3.E 3 (by simp)).1
    have y4 : (w2.setCell ⟨w.heap.size, 1, none⟩ (.int .i64 xx)).cell? ⟨w.heap.size, 4, none⟩ = some (.int .i64 d.le) := (S3.E 4 (by simp)).1
    have y5 : (w2.setCell ⟨w.heap.size, 1, none⟩ (.int .i64 xx)).cell? ⟨w.heap.size, 5, none⟩ = some (.int .i64 d.ta) := (S3.E 5 (by simp)).1
    have y6 : (w2.setCell ⟨w.heap.size, 1, none⟩ (.int .i64 xx)).cell? ⟨w.heap.size, 6, none⟩ = some (.int .i64 d.co) := (S3.E 6 (by simp)).1
    have y7 : (w2.setCell ⟨w.heap.size, 1, none⟩ (.int .i64 xx)).cell? ⟨w.heap.size, 7, none⟩ = some (.int .i64 d.lf) := (S3.E 7 (by simp)).1
    have y8 : (w2.setCell ⟨w.heap.size, 1, none⟩ (.int .i64 xx)).cell? ⟨w.heap.size, 8, none⟩ = some (.slice a d.ss.length c) := (S3.E 8 (by simp)).1
    have y9 : (w2.setCell ⟨w.heap.size, 1, none⟩ (.int .i64 xx)).cell? ⟨w.heap.size, 9, none⟩ = some (.string d.x) := (S3.E 9 (by simp)).1
    have y10 : (w2.setCell ⟨w.heap.size, 1, none⟩ (.int .i64 xx)).cell? ⟨w.heap.size, 10, none⟩ = some (.int .i64 d.si) := (S3.E 10 (by simp)).1
    have hA := S3.A
    have HS := hid S3
    clear S3
    obtain ⟨WF, hWF⟩ : ∃ V, V = (w2.setCell ⟨w.heap.size, 1, none⟩ (.int .i64 xx)) := ⟨_, rfl⟩
    rw [← hWF] at y0 y1 y2 y3 y4 y5 y6 y7 y8 y9 y10 hA HS
    have HWF := hid hWF
    clear hWF
    go_upto_region 19 with fail
    rw [← HWF.out]
    clear HWF
    go_wp2_with (refine wpList_store_cf rfl 25 (.tmp 4) (.tmp 82) rfl (w.heap.size + 1) [.int .i64 0, .int .i64 0, .bool false, .int .i64 0, .int .i64 0, .int .i64 0, .int .i64 0, .int .i64 0, .slice none 0 0, .string ⟨#[]⟩, .int .i64 0] [.int .i64 d.nu, .int .i64 xx, .bool d.up, .int .i64 d.st, .int .i64 d.le, .int .i64 d.ta, .int .i64 d.co, .int .i64 d.lf, .slice a d.ss.length c, .string d.x, .int .i64 d.si] rfl rfl hA rfl Tryd.sizeWk (oneWk _ _ _ _ _ _ _ _ _ _ _ _ _) ?_; intro w10 hc10 hg10)
    have k0 : w10.cell? ⟨w.heap.size + 1, 0, none⟩ = some (.int .i64 d.nu) := (hc10 0 (by simp)).1
    have k1 : w10.cell? ⟨w.heap.size + 1, 1, none⟩ = some (.int .i64 xx) := (hc10 1 (by simp)).1
    have k2 : w10.cell? ⟨w.heap.size + 1, 2, none⟩ = some (.bool d.up) := (hc10 2 (by simp)).1
    have k3 : w10.cell? ⟨w.heap.size + 1, 3, none⟩ = some (.int .i64 d.st) := (hc10 3 (by simp)).1
    have k4 : w10.cell? ⟨w.heap.size + 1, 4, none⟩ = some (.int .i64 d.le) := (hc10 4 (by simp)).1
    have k5 : w10.cell? ⟨w.heap.size + 1, 5, none⟩ = some (.int .i64 d.ta) := (hc10 5 (by simp)).1
    have k6 : w10.cell? ⟨w.heap.size + 1, 6, none⟩ = some (.int .i64 d.co) := (hc10 6 (by simp)).1
    have k7 : w10.cell? ⟨w.heap.size + 1, 7, none⟩ = some (.int .i64 d.lf) := (hc10 7 (by simp)).1
    have k8 : w10.cell? ⟨w.heap.size + 1, 8, none⟩ = some (.slice a d.ss.length c) := (hc10 8 (by simp)).1
    have k9 : w10.cell? ⟨w.heap.size + 1, 9, none⟩ = some (.string d.x) := (hc10 9 (by simp)).1
    have k10 : w10.cell? ⟨w.heap.size + 1, 10, none⟩ = some (.int .i64 d.si) := (hc10 10 (by simp)).1
    have HF := WP.fin (d := (⟨d.nu, xx, d.up, d.st, d.le, d.ta, d.co, d.lf, d.ss, d.x, d.si⟩ : WD)) (c := c) HGB.out HS.out hg10 ⟨b1, hxx, b3, b4, b5, b6, b7, b8, b9, b10, b11⟩ (P := fun _ => True) trivial
    exact bodyPost_ret (v := .agg #[.int .i64 d.nu, .int .i64 xx, .bool d.up, .int .i64 d.st, .int .i64 d.le, .int .i64 d.ta, .int .i64 d.co, .int .i64 d.lf, .slice a d.ss.length c, .string d.x, .int .i64 d.si]) (by simp [results, Tryd.results33, go_sem, k0, k1, k2, k3, k4, k5, k6, k7, k8, k9, k10]) rfl ⟨HF.1, HF.2.1.mono (by omega), HF.2.2⟩
  · have z2 : w1.cell? ⟨w.heap.size, 2, none⟩ = some (.bool d.up) := (S1.E 2 (by simp)).1
    have f2 : w1.frozen? ⟨w.heap.size, 2, none⟩ = false := (S1.E 2 (by simp)).2
    have S3 := S1.store (j := 2) (by simp) (.bool (!d.up))
    simp only [List.set_cons_zero, List.set_cons_succ] at S3
    clear S1
    have y0 : (w1.setCell ⟨w.heap.size, 2, none⟩ (.bool (!d.up))).cell? ⟨w.heap.size, 0, none⟩ = some (.int .i64 d.nu) := (S3.E 0 (by simp)).1
    have y1 : (w1.setCell ⟨w.heap.size, 2, none⟩ (.bool (!d.up))).cell? ⟨w.heap.size, 1, none⟩ = some (.int .i64 d.ep) := (S3.E 1 (by simp)).1
    have y2 : (w1.setCell ⟨w.heap.size, 2, none⟩ (.bool (!d.up))).cell? ⟨w.heap.size, 2, none⟩ = some (.bool (!d.up)) := (S3.E 2 (by simp)).1
    have y3 : (w1.setCell ⟨w.heap.size, 2, none⟩ (.bool (!d.up))).cell? ⟨w.heap.size, 3, none⟩ = some (.int .i64 d.st) := (S3.E 3 (by simp)).1
    have y4 : (w1.setCell ⟨w.heap.size, 2, none⟩ (.bool (!d.up))).cell? ⟨w.heap.size, 4, none⟩ = some (.int .i64 d.le) := (S3.E 4 (by simp)).1
    have y5 : (w1.setCell ⟨w.heap.size, 2, none⟩ (.bool (!d.up))).cell? ⟨w.heap.size, 5, none⟩ = some (.int .i64 d.ta) := (S3.E 5 (by simp)).1
    have y6 : (w1.setCell ⟨w.heap.size, 2, none⟩ (.bool (!d.up))).cell? ⟨w.heap.size, 6, none⟩ = some (.int .i64 d.co) := (S3.E 6 (by simp)).1
    have y7 : (w1.setCell ⟨w.heap.size, 2, none⟩ (.bool (!d.up))).cell? ⟨w.heap.size, 7, none⟩ = some (.int .i64 d.lf) := (S3.E 7 (by simp)).1
    have y8 : (w1.setCell ⟨w.heap.size, 2, none⟩ (.bool (!d.up))).cell? ⟨w.heap.size, 8, none⟩ = some (.slice a d.ss.length c) := (S3.E 8 (by simp)).1
    have y9 : (w1.setCell ⟨w.heap.size, 2, none⟩ (.bool (!d.up))).cell? ⟨w.heap.size, 9, none⟩ = some (.string d.x) := (S3.E 9 (by simp)).1
    have y10 : (w1.setCell ⟨w.heap.size, 2, none⟩ (.bool (!d.up))).cell? ⟨w.heap.size, 10, none⟩ = some (.int .i64 d.si) := (S3.E 10 (by simp)).1
    have hA := S3.A
    have HS := hid S3
    clear S3
    obtain ⟨WF, hWF⟩ : ∃ V, V = (w1.setCell ⟨w.heap.size, 2, none⟩ (.bool (!d.up))) := ⟨_, rfl⟩
    rw [← hWF] at y0 y1 y2 y3 y4 y5 y6 y7 y8 y9 y10 hA HS
    have HWF := hid hWF
    clear hWF
    go_upto_region 19 with fail
    rw [← HWF.out]
    clear HWF
    go_wp2_with (refine wpList_store_cf rfl 25 (.tmp 4) (.tmp 82) rfl (w.heap.size + 1) [.int .i64 0, .int .i64 0, .bool false, .int .i64 0, .int .i64 0, .int .i64 0, .int .i64 0, .int .i64 0, .slice none 0 0, .string ⟨#[]⟩, .int .i64 0] [.int .i64 d.nu, .int .i64 d.ep, .bool (!d.up), .int .i64 d.st, .int .i64 d.le, .int .i64 d.ta, .int .i64 d.co, .int .i64 d.lf, .slice a d.ss.length c, .string d.x, .int .i64 d.si] rfl rfl hA rfl Tryd.sizeWk (oneWk _ _ _ _ _ _ _ _ _ _ _ _ _) ?_; intro w10 hc10 hg10)
    have k0 : w10.cell? ⟨w.heap.size + 1, 0, none⟩ = some (.int .i64 d.nu) := (hc10 0 (by simp)).1
    have k1 : w10.cell? ⟨w.heap.size + 1, 1, none⟩ = some (.int .i64 d.ep) := (hc10 1 (by simp)).1
    have k2 : w10.cell? ⟨w.heap.size + 1, 2, none⟩ = some (.bool (!d.up)) := (hc10 2 (by simp)).1
    have k3 : w10.cell? ⟨w.heap.size + 1, 3, none⟩ = some (.int .i64 d.st) := (hc10 3 (by simp)).1
    have k4 : w10.cell? ⟨w.heap.size + 1, 4, none⟩ = some (.int .i64 d.le) := (hc10 4 (by simp)).1
    have k5 : w10.cell? ⟨w.heap.size + 1, 5, none⟩ = some (.int .i64 d.ta) := (hc10 5 (by simp)).1
    have k6 : w10.cell? ⟨w.heap.size + 1, 6, none⟩ = some (.int .i64 d.co) := (hc10 6 (by simp)).1
    have k7 : w10.cell? ⟨w.heap.size + 1, 7, none⟩ = some (.int .i64 d.lf) := (hc10 7 (by simp)).1
    have k8 : w10.cell? ⟨w.heap.size + 1, 8, none⟩ = some (.slice a d.ss.length c) := (hc10 8 (by simp)).1
    have k9 : w10.cell? ⟨w.heap.size + 1, 9, none⟩ = some (.string d.x) := (hc10 9 (by simp)).1
    have k10 : w10.cell? ⟨w.heap.size + 1, 10, none⟩ = some (.int .i64 d.si) := (hc10 10 (by simp)).1
    have HF := WP.fin (d := (⟨d.nu, d.ep, (!d.up), d.st, d.le, d.ta, d.co, d.lf, d.ss, d.x, d.si⟩ : WD)) (c := c) HGB.out HS.out hg10 ⟨b1, b2, b3, b4, b5, b6, b7, b8, b9, b10, b11⟩ (P := fun _ => True) trivial
    exact bodyPost_ret (v := .agg #[.int .i64 d.nu, .int .i64 d.ep, .bool (!d.up), .int .i64 d.st, .int .i64 d.le, .int .i64 d.ta, .int .i64 d.co, .int .i64 d.lf, .slice a d.ss.length c, .string d.x, .int .i64 d.si]) (by simp [results, Tryd.results33, go_sem, k0, k1, k2, k3, k4, k5, k6, k7, k8, k9, k10]) rfl ⟨HF.1, HF.2.1.mono (by omega), HF.2.2⟩
  · go_wp2_with fail
    refine (pick_any g 5 (k + 1) _ S1.rd (by omega) (by omega) (by omega)).mono ?_
    rintro e w2 ⟨⟨r2, hr2, rfl⟩, hrd, hgg⟩
    have S2 := S1.call hrd hgg
    clear hrd hgg S1
    have z3 : w2.cell? ⟨w.heap.size, 3, none⟩ = some (.int .i64 d.st) := (S2.E 3 (by simp)).1
    have f3 : w2.frozen? ⟨w.heap.size, 3, none⟩ = false := (S2.E 3 (by simp)).2
    have S3 := S2.store (j := 3) (by simp) (.int .i64 ((r2 : Int) - 1))
    simp only [List.set_cons_zero, List.set_cons_succ] at S3
    clear S2
    have y0 : (w2.setCell ⟨w.heap.size, 3, none⟩ (.int .i64 ((r2 : Int) - 1))).cell? ⟨w.heap.size, 0, none⟩ = some (.int .i64 d.nu) := (S3.E 0 (by simp)).1
    have y1 : (w2.setCell ⟨w.heap.size, 3, none⟩ (.int .i64 ((r2 : Int) - 1))).cell? ⟨w.heap.size, 1, none⟩ = some (.int .i64 d.ep) := (S3.E 1 (by simp)).1
    have y2 : (w2.setCell ⟨w.heap.size, 3, none⟩ (.int .i64 ((r2 : Int) - 1))).cell? ⟨w.heap.size, 2, none⟩ = some (.bool d.up) := (S3.E 2 (by simp)).1
    have y3 : (w2.setCell ⟨w.heap.size, 3, none⟩ (.int .i64 ((r2 : Int) - 1))).cell? ⟨w.heap.size, 3, none⟩ = some (.int .i64 ((r2 : Int) - 1)) := (S3.E 3 (by simp)).1
    have y4 : (w2.setCell ⟨w.heap.size, 3, none⟩ (.int .i64 ((r2 : Int) - 1))).cell? ⟨w.heap.size, 4, none⟩ = some (.int .i64 d.le) := (S3.E 4 (by simp)).1
    have y5 : (w2.setCell ⟨w.heap.size, 3, none⟩ (.int .i64 ((r2 : Int) - 1))).cell? ⟨w.heap.size, 5, none⟩ = some (.int .i64 d.ta) := (S3.E 5 (by simp)).1
    have y6 : (w2.setCell ⟨w.heap.size, 3, none⟩ (.int .i64 ((r2 : Int) - 1))).cell? ⟨w.heap.size, 6, none⟩ = some (.int .i64 d.co) := (S3.E 6 (by simp)).1
    have y7 : (w2.setCell ⟨w.heap.size, 3, none⟩ (.int .i64 ((r2 : Int) - 1))).cell? ⟨w.heap.size, 7, none⟩ = some (.int .i64 d.lf) := (S3.E 7 (by simp)).1
    have y8 : (w2.setCell ⟨w.heap.size, 3, none⟩ (.int .i64 ((r2 : Int) - 1))).cell? ⟨w.heap.size, 8, none⟩ = some (.slice a d.ss.length c) := (S3.E 8 (by simp)).1
    have y9 : (w2.setCell ⟨w.heap.size, 3, none⟩ (.int .i64 ((r2 : Int) - 1))).cell? ⟨w.heap.size, 9, none⟩ = some (.string d.x) := (S3.E 9 (by simp)).1
    have y10 : (w2.setCell ⟨w.heap.size, 3, none⟩ (.int .i64 ((r2 : Int) - 1))).cell? ⟨w.heap.size, 10, none⟩ = some (.int .i64 d.si) := (S3.E 10 (by simp)).1
    have hA := S3.A
    have HS := hid S3
    clear S3
    obtain ⟨WF, hWF⟩ : ∃ V, V = (w2.setCell ⟨w.heap.size, 3, none⟩ (.int .i64 ((r2 : Int) - 1))) := ⟨_, rfl⟩
    rw [← hWF] at y0 y1 y2 y3 y4 y5 y6 y7 y8 y9 y10 hA HS
    have HWF := hid hWF
    clear hWF
    go_upto_region 19 with fail
    rw [← HWF.out]
    clear HWF
    go_wp2_with (refine wpList_store_cf rfl 25 (.tmp 4) (.tmp 82) rfl (w.heap.size + 1) [.int .i64 0, .int .i64 0, .bool false, .int .i64 0, .int .i64 0, .int .i64 0, .int .i64 0, .int .i64 0, .slice none 0 0, .string ⟨#[]⟩, .int .i64 0] [.int .i64 d.nu, .int .i64 d.ep, .bool d.up, .int .i64 ((r2 : Int) - 1), .int .i64 d.le, .int .i64 d.ta, .int .i64 d.co, .int .i64 d.lf, .slice a d.ss.length c, .string d.x, .int .i64 d.si] rfl rfl hA rfl Tryd.sizeWk (oneWk _ _ _ _ _ _ _ _ _ _ _ _ _) ?_; intro w10 hc10 hg10)
    have k0 : w10.cell? ⟨w.heap.size + 1, 0, none⟩ = some (.int .i64 d.nu) := (hc10 0 (by simp)).1
    have k1 : w10.cell? ⟨w.heap.size + 1, 1, none⟩ = some (.int .i64 d.ep) := (hc10 1 (by simp)).1
    have k2 : w10.cell? ⟨w.heap.size + 1, 2, none⟩ = some (.bool d.up) := (hc10 2 (by simp)).1
    have k3 : w10.cell? ⟨w.heap.size + 1, 3, none⟩ = some (.int .i64 ((r2 : Int) - 1)) := (hc10 3 (by simp)).1
    have k4 : w10.cell? ⟨w.heap.size + 1, 4, none⟩ = some (.int .i64 d.le) := (hc10 4 (by simp)).1
    have k5 : w10.cell? ⟨w.heap.size + 1, 5, none⟩ = some (.int .i64 d.ta) := (hc10 5 (by simp)).1
    have k6 : w10.cell? ⟨w.heap.size + 1, 6, none⟩ = some (.int .i64 d.co) := (hc10 6 (by simp)).1
    have k7 : w10.cell? ⟨w.heap.size + 1, 7, none⟩ = some (.int .i64 d.lf) := (hc10 7 (by simp)).1
    have k8 : w10.cell? ⟨w.heap.size + 1, 8, none⟩ = some (.slice a d.ss.length c) := (hc10 8 (by simp)).1
    have k9 : w10.cell? ⟨w.heap.size + 1, 9, none⟩ = some (.string d.x) := (hc10 9 (by simp)).1
    have k10 : w10.cell? ⟨w.heap.size + 1, 10, none⟩ = some (.int .i64 d.si) := (hc10 10 (by simp)).1
    have HF := WP.fin (d := (⟨d.nu, d.ep, d.up, ((r2 : Int) - 1), d.le, d.ta, d.co, d.lf, d.ss, d.x, d.si⟩ : WD)) (c := c) HGB.out HS.out hg10 ⟨b1, b2, by dsimp only; omega, b4, b5, b6, b7, b8, b9, b10, b11⟩ (P := fun _ => True) trivial
    exact bodyPost_ret (v := .agg #[.int .i64 d.nu, .int .i64 d.ep, .bool d.up, .int .i64 ((r2 : Int) - 1), .int .i64 d.le, .int .i64 d.ta, .int .i64 d.co, .int .i64 d.lf, .slice a d.ss.length c, .string d.x, .int .i64 d.si]) (by simp [results, Tryd.results33, go_sem, k0, k1, k2, k3, k4, k5, k6, k7, k8, k9, k10]) rfl ⟨HF.1, HF.2.1.mono (by omega), HF.2.2⟩
  · go_upto_region 12 with fail
    refine wp_region_held (S := fun w' => w'.cell? ⟨w.heap.size, 6, none⟩ = some (.int .i64 d.co)) (by kernel_rfl) ?_
    change wpAnyH _ _ _ _ _ _ _ _ (World.drew _)
    have s0 := S1.drew
    obtain ⟨x0, hx0⟩ : ∃ U, U = w1.drew := ⟨_, rfl⟩
    rw [← hx0] at s0
    rw [← hx0]
    clear hx0 S1
    refine hTk (i := 0) (d := some 49) (v := .pointer (some ⟨w.heap.size, 6, none⟩)) (l' := (bt 12 1)) rfl (fun _ hc => by kernel_rfl) (s0.E 6 (by simp)).1 ?_
    refine hTk (i := 1) (d := some 50) (v := .int .i64 d.co) (l' := (bt 12 3)) rfl (fun _ hc => run_ldIn (.tmp 49) (by kernel_rfl) (by kernel_rfl) hc) (s0.E 6 (by simp)).1 ?_
    refine hTk (i := 2) (d := some 51) (v := .pointer (some ⟨w.heap.size, 6, none⟩)) (l' := (bt 12 7)) rfl (fun _ hc => by kernel_rfl) (s0.E 6 (by simp)).1 ?_
    refine hTk (i := 3) (d := some 52) (v := .int .i64 d.co) (l' := (bt 12 15)) rfl (fun _ hc => run_ldIn (.tmp 51) (by kernel_rfl) (by kernel_rfl) hc) (s0.E 6 (by simp)).1 ?_
    refine hTk (i := 4) (d := some 53) (v := .int .i64 (d.co + 1)) (l' := (bt 12 31)) rfl (fun _ hc => run_addIB (.tmp 52) (.const (.int .i64 1)) d.co 1 (by kernel_rfl) (by kernel_rfl) (by kernel_rfl) (by omega)) (s0.E 6 (by simp)).1 ?_
    refine hTk (i := 6) (d := some 55) (v := .pointer (some ⟨g, 0, none⟩)) (l' := (bt 12 95)) rfl (fun _ hc => run_mvD (.tmp 0) (by kernel_rfl) (by kernel_rfl)) (s0.E 6 (by simp)).1 ?_
    refine hTwo (i := 5) (j := 7) (by kernel_rfl) (hVal (i := 5) (d := some 54) (v := .slice (some ⟨x0.heap.size, 0, none⟩) 3 3) (w' := x0.alloc (.cells #[.int .i64 0, .int .i64 d.co, .int .i64 (d.co + 1)] 3)) (l' := (bt 12 127)) rfl (by kernel_rfl) (by kernel_rfl) (by kernel_rfl) (run_bsI3 (.const (.int .i64 0)) (.tmp 50) (.tmp 53) 0 d.co (d.co + 1) (by kernel_rfl) (by kernel_rfl) (by kernel_rfl) (by kernel_rfl)) ((s0.alloc (.cells #[.int .i64 0, .int .i64 d.co, .int .i64 (d.co + 1)] 3)).E 6 (by simp)).1 ?_) (hCall (i := 7) (d := some 56) (f := 32) (args := #[.pointer (some ⟨g, 0, none⟩), .int .i64 3]) (l' := (bt 12 223)) (R := fun v w' => (∃ r : Nat, r < 3 ∧ v = .int .i64 r) ∧ RD w' g (k + 1 + 1) ∧ x0.grownBy w' (some g)) rfl (by kernel_rfl) (by kernel_rfl) (by kernel_rfl) (run_cl2 _ _ _ rfl (by kernel_rfl) (by kernel_rfl) rfl enter_pick) ((pick_any g 3 (k + 1) x0 s0.rd (by omega) (by omega) (by omega)).mono fun e w' ⟨⟨r, hr, he⟩, h1, h2⟩ => ⟨_, he, ⟨r, hr, rfl⟩, h1, h2⟩) ?_)
    · have s15 := s0.alloc (.cells #[.int .i64 0, .int .i64 d.co, .int .i64 (d.co + 1)] 3)
      have hq16 := CF.made x0 #[.int .i64 0, .int .i64 d.co, .int .i64 (d.co + 1)] 3
      have hq16z : x0.heap.size < (x0.alloc (.cells #[.int .i64 0, .int .i64 d.co, .int .i64 (d.co + 1)] 3)).heap.size := by simp
      have qlo : g < x0.heap.size := s0.rd.lt
      obtain ⟨qb, hqb⟩ : ∃ q, q = x0.heap.size := ⟨_, rfl⟩
      rw [← hqb] at hq16 hq16z qlo
      rw [← hqb]
      obtain ⟨xw14, hxw14⟩ : ∃ V, V = x0.alloc (.cells #[.int .i64 0, .int .i64 d.co, .int .i64 (d.co + 1)] 3) := ⟨_, rfl⟩
      rw [← hxw14] at s15 hq16 hq16z
      rw [← hxw14]
      clear hxw14 hqb s0
      refine hOne (by kernel_rfl) (hCall (i := 7) (d := some 56) (f := 32) (args := #[.pointer (some ⟨g, 0, none⟩), .int .i64 3]) (l' := (bt 12 255)) (R := fun v w' => (∃ r : Nat, r < 3 ∧ v = .int .i64 r) ∧ RD w' g (k + 1 + 1) ∧ xw14.grownBy w' (some g)) rfl (by kernel_rfl) (by kernel_rfl) (by kernel_rfl) (run_cl2 _ _ _ rfl (by kernel_rfl) (by kernel_rfl) rfl enter_pick) ((pick_any g 3 (k + 1) xw14 s15.rd (by omega) (by omega) (by omega)).mono fun e w' ⟨⟨r, hr, he⟩, h1, h2⟩ => ⟨_, he, ⟨r, hr, rfl⟩, h1, h2⟩) ?_)
      rintro _ xw17 ⟨⟨rr, hrr, rfl⟩, hrd, hgg⟩
      have s18 := s15.call hrd hgg
      have hq19 := hq16.block (hgg.block qb hq16z (by simp; omega))
      have hq19z : qb < xw17.heap.size := Nat.lt_of_lt_of_le hq16z hgg.size
      clear hrd hgg s15 hq16 hq16z
      refine ⟨(s18.E 6 (by simp)).1, ?_⟩
      refine hTk (i := 8) (d := some 57) (v := .pointer (some ⟨qb, rr, none⟩)) (l' := (bt 12 511)) rfl (fun _ hc => run_ixI (.tmp 54) (.tmp 56) qb 3 3 rr (by kernel_rfl) (by kernel_rfl) (by kernel_rfl) hrr) (s18.E 6 (by simp)).1 ?_
      refine hOne (by kernel_rfl) (hVal (i := 9) (d := some 58) (v := .int .i64 (t3l d.co rr)) (w' := xw17) (l' := (bt 12 1023)) rfl (by kernel_rfl) (by kernel_rfl) (by kernel_rfl) (run_ldIn (.tmp 57) (by kernel_rfl) (by kernel_rfl) (t3l_cell hq19 hrr)) (s18.E 6 (by simp)).1 ?_)
      refine hTk (i := 10) (d := some 59) (v := .pointer (some ⟨w.heap.size, 7, none⟩)) (l' := (bt 12 2047)) rfl (fun _ hc => by kernel_rfl) (s18.E 6 (by simp)).1 ?_
      have hc7 : xw17.cell? ⟨w.heap.size, 7, none⟩ = some (.int .i64 d.lf) := (s18.E 7 (by simp)).1
      have hf7 : xw17.frozen? ⟨w.heap.size, 7, none⟩ = false := (s18.E 7 (by simp)).2
      have sN := s18.store (j := 7) (by simp) (.int .i64 (t3l d.co rr))
      simp only [List.set_cons_zero, List.set_cons_succ] at sN
      have bN := (sN.E 6 (by simp)).1
      refine hOne (by kernel_rfl) (hSkip (i := 11) (w' := xw17.setCell ⟨w.heap.size, 7, none⟩ (.int .i64 (t3l d.co rr))) (l' := (bt 12 4095)) rfl (by kernel_rfl) (by kernel_rfl) (by kernel_rfl) (run_stIn (.tmp 59) (.tmp 58) _ (by kernel_rfl) (by kernel_rfl) (by kernel_rfl) hc7 hf7) bN ?_)
      obtain ⟨xw20, hxw20⟩ : ∃ V, V = xw17.setCell ⟨w.heap.size, 7, none⟩ (.int .i64 (t3l d.co rr)) := ⟨_, rfl⟩
      rw [← hxw20] at sN
      rw [← hxw20]
      clear hxw20 s18 bN hc7 hf7 hq19 hq19z
      refine wpAnyH_done (by kernel_rfl) ?_ _
      simp only [Act.put, List.setIfInBounds_toArray, List.set_cons_succ, List.set_cons_zero]
      have y0 : xw20.cell? ⟨w.heap.size, 0, none⟩ = some (.int .i64 d.nu) := (sN.E 0 (by simp)).1
      have y1 : xw20.cell? ⟨w.heap.size, 1, none⟩ = some (.int .i64 d.ep) := (sN.E 1 (by simp)).1
      have y2 : xw20.cell? ⟨w.heap.size, 2, none⟩ = some (.bool d.up) := (sN.E 2 (by simp)).1
      have y3 : xw20.cell? ⟨w.heap.size, 3, none⟩ = some (.int .i64 d.st) := (sN.E 3 (by simp)).1
      have y4 : xw20.cell? ⟨w.heap.size, 4, none⟩ = some (.int .i64 d.le) := (sN.E 4 (by simp)).1
      have y5 : xw20.cell? ⟨w.heap.size, 5, none⟩ = some (.int .i64 d.ta) := (sN.E 5 (by simp)).1
      have y6 : xw20.cell? ⟨w.heap.size, 6, none⟩ = some (.int .i64 d.co) := (sN.E 6 (by simp)).1
      have y7 : xw20.cell? ⟨w.heap.size, 7, none⟩ = some (.int .i64 (t3l d.co rr)) := (sN.E 7 (by simp)).1
      have y8 : xw20.cell? ⟨w.heap.size, 8, none⟩ = some (.slice a d.ss.length c) := (sN.E 8 (by simp)).1
      have y9 : xw20.cell? ⟨w.heap.size, 9, none⟩ = some (.string d.x) := (sN.E 9 (by simp)).1
      have y10 : xw20.cell? ⟨w.heap.size, 10, none⟩ = some (.int .i64 d.si) := (sN.E 10 (by simp)).1
      have hA := sN.A
      have HS := hid sN
      clear sN
      go_wp2_with (refine wpList_store_cf rfl 25 (.tmp 4) (.tmp 82) rfl (w.heap.size + 1) [.int .i64 0, .int .i64 0, .bool false, .int .i64 0, .int .i64 0, .int .i64 0, .int .i64 0, .int .i64 0, .slice none 0 0, .string ⟨#[]⟩, .int .i64 0] [.int .i64 d.nu, .int .i64 d.ep, .bool d.up, .int .i64 d.st, .int .i64 d.le, .int .i64 d.ta, .int .i64 d.co, .int .i64 (t3l d.co rr), .slice a d.ss.length c, .string d.x, .int .i64 d.si] rfl rfl hA rfl Tryd.sizeWk (oneWk _ _ _ _ _ _ _ _ _ _ _ _ _) ?_; intro w10 hc10 hg10)
      have k0 : w10.cell? ⟨w.heap.size + 1, 0, none⟩ = some (.int .i64 d.nu) := (hc10 0 (by simp)).1
      have k1 : w10.cell? ⟨w.heap.size + 1, 1, none⟩ = some (.int .i64 d.ep) := (hc10 1 (by simp)).1
      have k2 : w10.cell? ⟨w.heap.size + 1, 2, none⟩ = some (.bool d.up) := (hc10 2 (by simp)).1
      have k3 : w10.cell? ⟨w.heap.size + 1, 3, none⟩ = some (.int .i64 d.st) := (hc10 3 (by simp)).1
      have k4 : w10.cell? ⟨w.heap.size + 1, 4, none⟩ = some (.int .i64 d.le) := (hc10 4 (by simp)).1
      have k5 : w10.cell? ⟨w.heap.size + 1, 5, none⟩ = some (.int .i64 d.ta) := (hc10 5 (by simp)).1
      have k6 : w10.cell? ⟨w.heap.size + 1, 6, none⟩ = some (.int .i64 d.co) := (hc10 6 (by simp)).1
      have k7 : w10.cell? ⟨w.heap.size + 1, 7, none⟩ = some (.int .i64 (t3l d.co rr)) := (hc10 7 (by simp)).1
      have k8 : w10.cell? ⟨w.heap.size + 1, 8, none⟩ = some (.slice a d.ss.length c) := (hc10 8 (by simp)).1
      have k9 : w10.cell? ⟨w.heap.size + 1, 9, none⟩ = some (.string d.x) := (hc10 9 (by simp)).1
      have k10 : w10.cell? ⟨w.heap.size + 1, 10, none⟩ = some (.int .i64 d.si) := (hc10 10 (by simp)).1
      have HF := WP.fin (d := (⟨d.nu, d.ep, d.up, d.st, d.le, d.ta, d.co, (t3l d.co rr), d.ss, d.x, d.si⟩ : WD)) (c := c) HGB.out HS.out hg10 ⟨b1, b2, b3, b4, b5, b6, t3l_rng b6.1 hco hrr, b8, b9, b10, b11⟩ (P := fun _ => True) trivial
      exact bodyPost_ret (v := .agg #[.int .i64 d.nu, .int .i64 d.ep, .bool d.up, .int .i64 d.st, .int .i64 d.le, .int .i64 d.ta, .int .i64 d.co, .int .i64 (t3l d.co rr), .slice a d.ss.length c, .string d.x, .int .i64 d.si]) (by simp [results, Tryd.results33, go_sem, k0, k1, k2, k3, k4, k5, k6, k7, k8, k9, k10]) rfl ⟨HF.1, HF.2.1.mono (by omega), HF.2.2⟩
    · rintro _ xw21 ⟨⟨rr, hrr, rfl⟩, hrd, hgg⟩
      have s22 := s0.call hrd hgg
      clear hrd hgg s0
      refine ⟨(s22.E 6 (by simp)).1, ?_⟩
      refine hOne (by kernel_rfl) (hVal (i := 5) (d := some 54) (v := .slice (some ⟨xw21.heap.size, 0, none⟩) 3 3) (w' := xw21.alloc (.cells #[.int .i64 0, .int .i64 d.co, .int .i64 (d.co + 1)] 3)) (l' := (bt 12 255)) rfl (by kernel_rfl) (by kernel_rfl) (by kernel_rfl) (run_bsI3 (.const (.int .i64 0)) (.tmp 50) (.tmp 53) 0 d.co (d.co + 1) (by kernel_rfl) (by kernel_rfl) (by kernel_rfl) (by kernel_rfl)) ((s22.alloc (.cells #[.int .i64 0, .int .i64 d.co, .int .i64 (d.co + 1)] 3)).E 6 (by simp)).1 ?_)
      have s24 := s22.alloc (.cells #[.int .i64 0, .int .i64 d.co, .int .i64 (d.co + 1)] 3)
      have hq25 := CF.made xw21 #[.int .i64 0, .int .i64 d.co, .int .i64 (d.co + 1)] 3
      have hq25z : xw21.heap.size < (xw21.alloc (.cells #[.int .i64 0, .int .i64 d.co, .int .i64 (d.co + 1)] 3)).heap.size := by simp
      have qlo : g < xw21.heap.size := s22.rd.lt
      obtain ⟨qb, hqb⟩ : ∃ q, q = xw21.heap.size := ⟨_, rfl⟩
      rw [← hqb] at hq25 hq25z qlo
      rw [← hqb]
      obtain ⟨xw23, hxw23⟩ : ∃ V, V = xw21.alloc (.cells #[.int .i64 0, .int .i64 d.co, .int .i64 (d.co + 1)] 3) := ⟨_, rfl⟩
      rw [← hxw23] at s24 hq25 hq25z
      rw [← hxw23]
      clear hxw23 hqb s22
      refine hTk (i := 8) (d := some 57) (v := .pointer (some ⟨qb, rr, none⟩)) (l' := (bt 12 511)) rfl (fun _ hc => run_ixI (.tmp 54) (.tmp 56) qb 3 3 rr (by kernel_rfl) (by kernel_rfl) (by kernel_rfl) hrr) (s24.E 6 (by simp)).1 ?_
      refine hOne (by kernel_rfl) (hVal (i := 9) (d := some 58) (v := .int .i64 (t3l d.co rr)) (w' := xw23) (l' := (bt 12 1023)) rfl (by kernel_rfl) (by kernel_rfl) (by kernel_rfl) (run_ldIn (.tmp 57) (by kernel_rfl) (by kernel_rfl) (t3l_cell hq25 hrr)) (s24.E 6 (by simp)).1 ?_)
      refine hTk (i := 10) (d := some 59) (v := .pointer (some ⟨w.heap.size, 7, none⟩)) (l' := (bt 12 2047)) rfl (fun _ hc => by kernel_rfl) (s24.E 6 (by simp)).1 ?_
      have hc7 : xw23.cell? ⟨w.heap.size, 7, none⟩ = some (.int .i64 d.lf) := (s24.E 7 (by simp)).1
      have hf7 : xw23.frozen? ⟨w.heap.size, 7, none⟩ = false := (s24.E 7 (by simp)).2
      have sN := s24.store (j := 7) (by simp) (.int .i64 (t3l d.co rr))
      simp only [List.set_cons_zero, List.set_cons_succ] at sN
      have bN := (sN.E 6 (by simp)).1
      refine hOne (by kernel_rfl) (hSkip (i := 11) (w' := xw23.setCell ⟨w.heap.size, 7, none⟩ (.int .i64 (t3l d.co rr))) (l' := (bt 12 4095)) rfl (by kernel_rfl) (by kernel_rfl) (by kernel_rfl) (run_stIn (.tmp 59) (.tmp 58) _ (by kernel_rfl) (by kernel_rfl) (by kernel_rfl) hc7 hf7) bN ?_)
      obtain ⟨xw26, hxw26⟩ : ∃ V, V = xw23.setCell ⟨w.heap.size, 7, none⟩ (.int .i64 (t3l d.co rr)) := ⟨_, rfl⟩
      rw [← hxw26] at sN
      rw [← hxw26]
      clear hxw26 s24 bN hc7 hf7 hq25 hq25z
      refine wpAnyH_done (by kernel_rfl) ?_ _
      simp only [Act.put, List.setIfInBounds_toArray, List.set_cons_succ, List.set_cons_zero]
      have y0 : xw26.cell? ⟨w.heap.size, 0, none⟩ = some (.int .i64 d.nu) := (sN.E 0 (by simp)).1
      have y1 : xw26.cell? ⟨w.heap.size, 1, none⟩ = some (.int .i64 d.ep) := (sN.E 1 (by simp)).1
      have y2 : xw26.cell? ⟨w.heap.size, 2, none⟩ = some (.bool d.up) := (sN.E 2 (by simp)).1
      have y3 : xw26.cell? ⟨w.heap.size, 3, none⟩ = some (.int .i64 d.st) := (sN.E 3 (by simp)).1
      have y4 : xw26.cell? ⟨w.heap.size, 4, none⟩ = some (.int .i64 d.le) := (sN.E 4 (by simp)).1
      have y5 : xw26.cell? ⟨w.heap.size, 5, none⟩ = some (.int .i64 d.ta) := (sN.E 5 (by simp)).1
      have y6 : xw26.cell? ⟨w.heap.size, 6, none⟩ = some (.int .i64 d.co) := (sN.E 6 (by simp)).1
      have y7 : xw26.cell? ⟨w.heap.size, 7, none⟩ = some (.int .i64 (t3l d.co rr)) := (sN.E 7 (by simp)).1
      have y8 : xw26.cell? ⟨w.heap.size, 8, none⟩ = some (.slice a d.ss.length c) := (sN.E 8 (by simp)).1
      have y9 : xw26.cell? ⟨w.heap.size, 9, none⟩ = some (.string d.x) := (sN.E 9 (by simp)).1
      have y10 : xw26.cell? ⟨w.heap.size, 10, none⟩ = some (.int .i64 d.si) := (sN.E 10 (by simp)).1
      have hA := sN.A
      have HS := hid sN
      clear sN
      go_wp2_with (refine wpList_store_cf rfl 25 (.tmp 4) (.tmp 82) rfl (w.heap.size + 1) [.int .i64 0, .int .i64 0, .bool false, .int .i64 0, .int .i64 0, .int .i64 0, .int .i64 0, .int .i64 0, .slice none 0 0, .string ⟨#[]⟩, .int .i64 0] [.int .i64 d.nu, .int .i64 d.ep, .bool d.up, .int .i64 d.st, .int .i64 d.le, .int .i64 d.ta, .int .i64 d.co, .int .i64 (t3l d.co rr), .slice a d.ss.length c, .string d.x, .int .i64 d.si] rfl rfl hA rfl Tryd.sizeWk (oneWk _ _ _ _ _ _ _ _ _ _ _ _ _) ?_; intro w10 hc10 hg10)
      have k0 : w10.cell? ⟨w.heap.size + 1, 0, none⟩ = some (.int .i64 d.nu) := (hc10 0 (by simp)).1
      have k1 : w10.cell? ⟨w.heap.size + 1, 1, none⟩ = some (.int .i64 d.ep) := (hc10 1 (by simp)).1
      have k2 : w10.cell? ⟨w.heap.size + 1, 2, none⟩ = some (.bool d.up) := (hc10 2 (by simp)).1
      have k3 : w10.cell? ⟨w.heap.size + 1, 3, none⟩ = some (.int .i64 d.st) := (hc10 3 (by simp)).1
      have k4 : w10.cell? ⟨w.heap.size + 1, 4, none⟩ = some (.int .i64 d.le) := (hc10 4 (by simp)).1
      have k5 : w10.cell? ⟨w.heap.size + 1, 5, none⟩ = some (.int .i64 d.ta) := (hc10 5 (by simp)).1
      have k6 : w10.cell? ⟨w.heap.size + 1, 6, none⟩ = some (.int .i64 d.co) := (hc10 6 (by simp)).1
      have k7 : w10.cell? ⟨w.heap.size + 1, 7, none⟩ = some (.int .i64 (t3l d.co rr)) := (hc10 7 (by simp)).1
      have k8 : w10.cell? ⟨w.heap.size + 1, 8, none⟩ = some (.slice a d.ss.length c) := (hc10 8 (by simp)).1
      have k9 : w10.cell? ⟨w.heap.size + 1, 9, none⟩ = some (.string d.x) := (hc10 9 (by simp)).1
      have k10 : w10.cell? ⟨w.heap.size + 1, 10, none⟩ = some (.int .i64 d.si) := (hc10 10 (by simp)).1
      have HF := WP.fin (d := (⟨d.nu, d.ep, d.up, d.st, d.le, d.ta, d.co, (t3l d.co rr), d.ss, d.x, d.si⟩ : WD)) (c := c) HGB.out HS.out hg10 ⟨b1, b2, b3, b4, b5, b6, t3l_rng b6.1 hco hrr, b8, b9, b10, b11⟩ (P := fun _ => True) trivial
      exact bodyPost_ret (v := .agg #[.int .i64 d.nu, .int .i64 d.ep, .bool d.up, .int .i64 d.st, .int .i64 d.le, .int .i64 d.ta, .int .i64 d.co, .int .i64 (t3l d.co rr), .slice a d.ss.length c, .string d.x, .int .i64 d.si]) (by simp [results, Tryd.results33, go_sem, k0, k1, k2, k3, k4, k5, k6, k7, k8, k9, k10]) rfl ⟨HF.1, HF.2.1.mono (by omega), HF.2.2⟩
  · have SA := S1.alloc (.cells #[.int .i64 (-1), .int .i64 39, .int .i64 40] 3)
    have cA := CF.made w1 #[.int .i64 (-1), .int .i64 39, .int .i64 40] 3
    obtain ⟨WA, hWA⟩ : ∃ V, V = w1.alloc (.cells #[.int .i64 (-1), .int .i64 39, .int .i64 40] 3) := ⟨_, rfl⟩
    have zA : w1.heap.size < WA.heap.size := by rw [hWA]; simp
    have hgA : g < w1.heap.size := S1.rd.lt
    rw [← hWA] at SA cA
    have HWA := hid hWA
    clear hWA S1
    go_wp2_with fail
    rw [← HWA.out]
    clear HWA
    refine (pick_any g 3 (k + 1) _ SA.rd (by omega) (by omega) (by omega)).mono ?_
    rintro e w2 ⟨⟨r2, hr2, rfl⟩, hrd2, hg2⟩
    have S2 := SA.call hrd2 hg2
    have c2 := cA.block (hg2.block _ zA (by simp; omega))
    obtain ⟨xx, hxx, hxc⟩ : ∃ xx : Int, (-2000000 ≤ xx ∧ xx ≤ 2000000) ∧ w2.cell? ⟨w1.heap.size, r2, none⟩ = some (.int .i64 xx) := by
      rcases (show r2 = 0 ∨ r2 = 1 ∨ r2 = 2 by omega) with rfl | rfl | rfl
      · exact ⟨-1, by omega, (c2 0 (by simp)).1⟩
      · exact ⟨39, by omega, (c2 1 (by simp)).1⟩
      · exact ⟨40, by omega, (c2 2 (by simp)).1⟩
    have hr2' : (r2 : Int) < 3 := by omega
    clear hrd2 hg2 SA cA c2 zA
    have z5 : w2.cell? ⟨w.heap.size, 5, none⟩ = some (.int .i64 d.ta) := (S2.E 5 (by simp)).1
    have f5 : w2.frozen? ⟨w.heap.size, 5, none⟩ = false := (S2.E 5 (by simp)).2
    have S3 := S2.store (j := 5) (by simp) (.int .i64 xx)
    simp only [List.set_cons_zero, List.set_cons_succ] at S3
    clear S2
    have y0 : (w2.setCell ⟨w.heap.size, 5, none⟩ (.int .i64 xx)).cell? ⟨w.heap.size, 0, none⟩ = some (.int .i64 d.nu) := (S3.E 0 (by simp)).1
    have y1 : (w2.setCell ⟨w.heap.size, 5, none⟩ (.int .i64 xx)).cell? ⟨w.heap.size, 1, none⟩ = some (.int .i64 d.ep) := (S3.E 1 (by simp)).1
    have y2 : (w2.setCell ⟨w.heap.size, 5, none⟩ (.int .i64 xx)).cell? ⟨w.heap.size, 2, none⟩ = some (.bool d.up) := (S3.E 2 (by simp)).1
    have y3 : (w2.setCell ⟨w.heap.size, 5, none⟩ (.int .i64 xx)).cell? ⟨w.heap.size, 3, none⟩ = some (.int .i64 d.st) := (S3.E 3 (by simp)).1
    have y4 : (w2.setCell ⟨w.heap.size, 5, none⟩ (.int .i64 xx)).cell? ⟨w.heap.size, 4, none⟩ = some (.int .i64 d.le) := (S3.E 4 (by simp)).1
    have y5 : (w2.setCell ⟨w.heap.size, 5, none⟩ (.int .i64 xx)).cell? ⟨w.heap.size, 5, none⟩ = some (.int .i64 xx) := (S3.E 5 (by simp)).1
    have y6 : (w2.setCell ⟨w.heap.size, 5, none⟩ (.int .i64 xx)).cell? ⟨w.heap.size, 6, none⟩ = some (.int .i64 d.co) := (S3.E 6 (by simp)).1
    have y7 : (w2.setCell ⟨w.heap.size, 5, none⟩ (.int .i64 xx)).cell? ⟨w.heap.size, 7, none⟩ = some (.int .i64 d.lf) := (S3.E 7 (by simp)).1
    have y8 : (w2.setCell ⟨w.heap.size, 5, none⟩ (.int .i64 xx)).cell? ⟨w.heap.size, 8, none⟩ = some (.slice a d.ss.length c) := (S3.E 8 (by simp)).1
    have y9 : (w2.setCell ⟨w.heap.size, 5, none⟩ (.int .i64 xx)).cell? ⟨w.heap.size, 9, none⟩ = some (.string d.x) := (S3.E 9 (by simp)).1
    have y10 : (w2.setCell ⟨w.heap.size, 5, none⟩ (.int .i64 xx)).cell? ⟨w.heap.size, 10, none⟩ = some (.int .i64 d.si) := (S3.E 10 (by simp)).1
    have hA := S3.A
    have HS := hid S3
    clear S3
    obtain ⟨WF, hWF⟩ : ∃ V, V = (w2.setCell ⟨w.heap.size, 5, none⟩ (.int .i64 xx)) := ⟨_, rfl⟩
    rw [← hWF] at y0 y1 y2 y3 y4 y5 y6 y7 y8 y9 y10 hA HS
    have HWF := hid hWF
    clear hWF
    go_upto_region 19 with fail
    rw [← HWF.out]
    clear HWF
    go_wp2_with (refine wpList_store_cf rfl 25 (.tmp 4) (.tmp 82) rfl (w.heap.size + 1) [.int .i64 0, .int .i64 0, .bool false, .int .i64 0, .int .i64 0, .int .i64 0, .int .i64 0, .int .i64 0, .slice none 0 0, .string ⟨#[]⟩, .int .i64 0] [.int .i64 d.nu, .int .i64 d.ep, .bool d.up, .int .i64 d.st, .int .i64 d.le, .int .i64 xx, .int .i64 d.co, .int .i64 d.lf, .slice a d.ss.length c, .string d.x, .int .i64 d.si] rfl rfl hA rfl Tryd.sizeWk (oneWk _ _ _ _ _ _ _ _ _ _ _ _ _) ?_; intro w10 hc10 hg10)
    have k0 : w10.cell? ⟨w.heap.size + 1, 0, none⟩ = some (.int .i64 d.nu) := (hc10 0 (by simp)).1
    have k1 : w10.cell? ⟨w.heap.size + 1, 1, none⟩ = some (.int .i64 d.ep) := (hc10 1 (by simp)).1
    have k2 : w10.cell? ⟨w.heap.size + 1, 2, none⟩ = some (.bool d.up) := (hc10 2 (by simp)).1
    have k3 : w10.cell? ⟨w.heap.size + 1, 3, none⟩ = some (.int .i64 d.st) := (hc10 3 (by simp)).1
    have k4 : w10.cell? ⟨w.heap.size + 1, 4, none⟩ = some (.int .i64 d.le) := (hc10 4 (by simp)).1
    have k5 : w10.cell? ⟨w.heap.size + 1, 5, none⟩ = some (.int .i64 xx) := (hc10 5 (by simp)).1
    have k6 : w10.cell? ⟨w.heap.size + 1, 6, none⟩ = some (.int .i64 d.co) := (hc10 6 (by simp)).1
    have k7 : w10.cell? ⟨w.heap.size + 1, 7, none⟩ = some (.int .i64 d.lf) := (hc10 7 (by simp)).1
    have k8 : w10.cell? ⟨w.heap.size + 1, 8, none⟩ = some (.slice a d.ss.length c) := (hc10 8 (by simp)).1
    have k9 : w10.cell? ⟨w.heap.size + 1, 9, none⟩ = some (.string d.x) := (hc10 9 (by simp)).1
    have k10 : w10.cell? ⟨w.heap.size + 1, 10, none⟩ = some (.int .i64 d.si) := (hc10 10 (by simp)).1
    have HF := WP.fin (d := (⟨d.nu, d.ep, d.up, d.st, d.le, xx, d.co, d.lf, d.ss, d.x, d.si⟩ : WD)) (c := c) HGB.out HS.out hg10 ⟨b1, b2, b3, b4, hxx, b6, b7, b8, b9, b10, b11⟩ (P := fun _ => True) trivial
    exact bodyPost_ret (v := .agg #[.int .i64 d.nu, .int .i64 d.ep, .bool d.up, .int .i64 d.st, .int .i64 d.le, .int .i64 xx, .int .i64 d.co, .int .i64 d.lf, .slice a d.ss.length c, .string d.x, .int .i64 d.si]) (by simp [results, Tryd.results33, go_sem, k0, k1, k2, k3, k4, k5, k6, k7, k8, k9, k10]) rfl ⟨HF.1, HF.2.1.mono (by omega), HF.2.2⟩
  · have SA := S1.alloc (.cells #[.int .i64 (-1), .int .i64 1000000, .int .i64 1000001] 3)
    have cA := CF.made w1 #[.int .i64 (-1), .int .i64 1000000, .int .i64 1000001] 3
    obtain ⟨WA, hWA⟩ : ∃ V, V = w1.alloc (.cells #[.int .i64 (-1), .int .i64 1000000, .int .i64 1000001] 3) := ⟨_, rfl⟩
    have zA : w1.heap.size < WA.heap.size := by rw [hWA]; simp
    have hgA : g < w1.heap.size := S1.rd.lt
    rw [← hWA] at SA cA
    have HWA := hid hWA
    clear hWA S1
    go_wp2_with fail
    rw [← HWA.out]
    clear HWA
    refine (pick_any g 3 (k + 1) _ SA.rd (by omega) (by omega) (by omega)).mono ?_
    rintro e w2 ⟨⟨r2, hr2, rfl⟩, hrd2, hg2⟩
    have S2 := SA.call hrd2 hg2
    have c2 := cA.block (hg2.block _ zA (by simp; omega))
    obtain ⟨xx, hxx, hxc⟩ : ∃ xx : Int, (-2000000 ≤ xx ∧ xx ≤ 2000000) ∧ w2.cell? ⟨w1.heap.size, r2, none⟩ = some (.int .i64 xx) := by
      rcases (show r2 = 0 ∨ r2 = 1 ∨ r2 = 2 by omega) with rfl | rfl | rfl
      · exact ⟨-1, by omega, (c2 0 (by simp)).1⟩
      · exact ⟨1000000, by omega, (c2 1 (by simp)).1⟩
      · exact ⟨1000001, by omega, (c2 2 (by simp)).1⟩
    have hr2' : (r2 : Int) < 3 := by omega
    clear hrd2 hg2 SA cA c2 zA
    have z10 : w2.cell? ⟨w.heap.size, 10, none⟩ = some (.int .i64 d.si) := (S2.E 10 (by simp)).1
    have f10 : w2.frozen? ⟨w.heap.size, 10, none⟩ = false := (S2.E 10 (by simp)).2
    have S3 := S2.store (j := 10) (by simp) (.int .i64 xx)
    simp only [List.set_cons_zero, List.set_cons_succ] at S3
    clear S2
    have y0 : (w2.setCell ⟨w.heap.size, 10, none⟩ (.int .i64 xx)).cell? ⟨w.heap.size, 0, none⟩ = some (.int .i64 d.nu) := (S3.E 0 (by simp)).1
    have y1 : (w2.setCell ⟨w.heap.size, 10, none⟩ (.int .i64 xx)).cell? ⟨w.heap.size, 1, none⟩ = some (.int .i64 d.ep) := (S3.E 1 (by simp)).1
    have y2 : (w2.setCell ⟨w.heap.size, 10, none⟩ (.int .i64 xx)).cell? ⟨w.heap.size, 2, none⟩ = some (.bool d.up) := (S3.E 2 (by simp)).1
    have y3 : (w2.setCell ⟨w.heap.size, 10, none⟩ (.int .i64 xx)).cell? ⟨w.heap.size, 3, none⟩ = some (.int .i64 d.st) := (S3.E 3 (by simp)).1
    have y4 : (w2.setCell ⟨w.heap.size, 10, none⟩ (.int .i64 xx)).cell? ⟨w.heap.size, 4, none⟩ = some (.int .i64 d.le) := (S3.E 4 (by simp)).1
    have y5 : (w2.setCell ⟨w.heap.size, 10, none⟩ (.int .i64 xx)).cell? ⟨w.heap.size, 5, none⟩ = some (.int .i64 d.ta) := (S3.E 5 (by simp)).1
    have y6 : (w2.setCell ⟨w.heap.size, 10, none⟩ (.int .i64 xx)).cell? ⟨w.heap.size, 6, none⟩ = some (.int .i64 d.co) := (S3.E 6 (by simp)).1
    have y7 : (w2.setCell ⟨w.heap.size, 10, none⟩ (.int .i64 xx)).cell? ⟨w.heap.size, 7, none⟩ = some (.int .i64 d.lf) := (S3.E 7 (by simp)).1
    have y8 : (w2.setCell ⟨w.heap.size, 10, none⟩ (.int .i64 xx)).cell? ⟨w.heap.size, 8, none⟩ = some (.slice a d.ss.length c) := (S3.E 8 (by simp)).1
    have y9 : (w2.setCell ⟨w.heap.size, 10, none⟩ (.int .i64 xx)).cell? ⟨w.heap.size, 9, none⟩ = some (.string d.x) := (S3.E 9 (by simp)).1
    have y10 : (w2.setCell ⟨w.heap.size, 10, none⟩ (.int .i64 xx)).cell? ⟨w.heap.size, 10, none⟩ = some (.int .i64 xx) := (S3.E 10 (by simp)).1
    have hA := S3.A
    have HS := hid S3
    clear S3
    obtain ⟨WF, hWF⟩ : ∃ V, V = (w2.setCell ⟨w.heap.size, 10, none⟩ (.int .i64 xx)) := ⟨_, rfl⟩
    rw [← hWF] at y0 y1 y2 y3 y4 y5 y6 y7 y8 y9 y10 hA HS
    have HWF := hid hWF
    clear hWF
    go_upto_region 19 with fail
    rw [← HWF.out]
    clear HWF
    go_wp2_with (refine wpList_store_cf rfl 25 (.tmp 4) (.tmp 82) rfl (w.heap.size + 1) [.int .i64 0, .int .i64 0, .bool false, .int .i64 0, .int .i64 0, .int .i64 0, .int .i64 0, .int .i64 0, .slice none 0 0, .string ⟨#[]⟩, .int .i64 0] [.int .i64 d.nu, .int .i64 d.ep, .bool d.up, .int .i64 d.st, .int .i64 d.le, .int .i64 d.ta, .int .i64 d.co, .int .i64 d.lf, .slice a d.ss.length c, .string d.x, .int .i64 xx] rfl rfl hA rfl Tryd.sizeWk (oneWk _ _ _ _ _ _ _ _ _ _ _ _ _) ?_; intro w10 hc10 hg10)
    have k0 : w10.cell? ⟨w.heap.size + 1, 0, none⟩ = some (.int .i64 d.nu) := (hc10 0 (by simp)).1
    have k1 : w10.cell? ⟨w.heap.size + 1, 1, none⟩ = some (.int .i64 d.ep) := (hc10 1 (by simp)).1
    have k2 : w10.cell? ⟨w.heap.size + 1, 2, none⟩ = some (.bool d.up) := (hc10 2 (by simp)).1
    have k3 : w10.cell? ⟨w.heap.size + 1, 3, none⟩ = some (.int .i64 d.st) := (hc10 3 (by simp)).1
    have k4 : w10.cell? ⟨w.heap.size + 1, 4, none⟩ = some (.int .i64 d.le) := (hc10 4 (by simp)).1
    have k5 : w10.cell? ⟨w.heap.size + 1, 5, none⟩ = some (.int .i64 d.ta) := (hc10 5 (by simp)).1
    have k6 : w10.cell? ⟨w.heap.size + 1, 6, none⟩ = some (.int .i64 d.co) := (hc10 6 (by simp)).1
    have k7 : w10.cell? ⟨w.heap.size + 1, 7, none⟩ = some (.int .i64 d.lf) := (hc10 7 (by simp)).1
    have k8 : w10.cell? ⟨w.heap.size + 1, 8, none⟩ = some (.slice a d.ss.length c) := (hc10 8 (by simp)).1
    have k9 : w10.cell? ⟨w.heap.size + 1, 9, none⟩ = some (.string d.x) := (hc10 9 (by simp)).1
    have k10 : w10.cell? ⟨w.heap.size + 1, 10, none⟩ = some (.int .i64 xx) := (hc10 10 (by simp)).1
    have HF := WP.fin (d := (⟨d.nu, d.ep, d.up, d.st, d.le, d.ta, d.co, d.lf, d.ss, d.x, xx⟩ : WD)) (c := c) HGB.out HS.out hg10 ⟨b1, b2, b3, b4, b5, b6, b7, hxx, b9, b10, b11⟩ (P := fun _ => True) trivial
    exact bodyPost_ret (v := .agg #[.int .i64 d.nu, .int .i64 d.ep, .bool d.up, .int .i64 d.st, .int .i64 d.le, .int .i64 d.ta, .int .i64 d.co, .int .i64 d.lf, .slice a d.ss.length c, .string d.x, .int .i64 xx]) (by simp [results, Tryd.results33, go_sem, k0, k1, k2, k3, k4, k5, k6, k7, k8, k9, k10]) rfl ⟨HF.1, HF.2.1.mono (by omega), HF.2.2⟩
  · have hcat : ¬ 9223372036854775807 < d.x.size + 1 := by omega
    obtain ⟨xx, hxx⟩ : ∃ xx, xx = d.x ++ (⟨#[120]⟩ : ByteArray) := ⟨_, rfl⟩
    have hxs : xx.size ≤ 100 := by rw [hxx, ByteArray.size_append]; have : (⟨#[120]⟩ : ByteArray).size = 1 := rfl; omega
    have HXX := hid hxx
    clear hxx
    have z9 : w1.cell? ⟨w.heap.size, 9, none⟩ = some (.string d.x) := (S1.E 9 (by simp)).1
    have f9 : w1.frozen? ⟨w.heap.size, 9, none⟩ = false := (S1.E 9 (by simp)).2
    have S3 := S1.store (j := 9) (by simp) (.string xx)
    simp only [List.set_cons_zero, List.set_cons_succ] at S3
    clear S1
    have y0 : (w1.setCell ⟨w.heap.size, 9, none⟩ (.string xx)).cell? ⟨w.heap.size, 0, none⟩ = some (.int .i64 d.nu) := (S3.E 0 (by simp)).1
    have y1 : (w1.setCell ⟨w.heap.size, 9, none⟩ (.string xx)).cell? ⟨w.heap.size, 1, none⟩ = some (.int .i64 d.ep) := (S3.E 1 (by simp)).1
    have y2 : (w1.setCell ⟨w.heap.size, 9, none⟩ (.string xx)).cell? ⟨w.heap.size, 2, none⟩ = some (.bool d.up) := (S3.E 2 (by simp)).1
    have y3 : (w1.setCell ⟨w.heap.size, 9, none⟩ (.string xx)).cell? ⟨w.heap.size, 3, none⟩ = some (.int .i64 d.st) := (S3.E 3 (by simp)).1
    have y4 : (w1.setCell ⟨w.heap.size, 9, none⟩ (.string xx)).cell? ⟨w.heap.size, 4, none⟩ = some (.int .i64 d.le) := (S3.E 4 (by simp)).1
    have y5 : (w1.setCell ⟨w.heap.size, 9, none⟩ (.string xx)).cell? ⟨w.heap.size, 5, none⟩ = some (.int .i64 d.ta) := (S3.E 5 (by simp)).1
    have y6 : (w1.setCell ⟨w.heap.size, 9, none⟩ (.string xx)).cell? ⟨w.heap.size, 6, none⟩ = some (.int .i64 d.co) := (S3.E 6 (by simp)).1
    have y7 : (w1.setCell ⟨w.heap.size, 9, none⟩ (.string xx)).cell? ⟨w.heap.size, 7, none⟩ = some (.int .i64 d.lf) := (S3.E 7 (by simp)).1
    have y8 : (w1.setCell ⟨w.heap.size, 9, none⟩ (.string xx)).cell? ⟨w.heap.size, 8, none⟩ = some (.slice a d.ss.length c) := (S3.E 8 (by simp)).1
    have y9 : (w1.setCell ⟨w.heap.size, 9, none⟩ (.string xx)).cell? ⟨w.heap.size, 9, none⟩ = some (.string xx) := (S3.E 9 (by simp)).1
    have y10 : (w1.setCell ⟨w.heap.size, 9, none⟩ (.string xx)).cell? ⟨w.heap.size, 10, none⟩ = some (.int .i64 d.si) := (S3.E 10 (by simp)).1
    have hA := S3.A
    have HS := hid S3
    clear S3
    obtain ⟨WF, hWF⟩ : ∃ V, V = (w1.setCell ⟨w.heap.size, 9, none⟩ (.string xx)) := ⟨_, rfl⟩
    rw [← hWF] at y0 y1 y2 y3 y4 y5 y6 y7 y8 y9 y10 hA HS
    have HWF := hid hWF
    clear hWF
    go_upto_region 19 with fail
    rw [← HXX.out, ← HWF.out]
    clear HWF
    go_wp2_with (refine wpList_store_cf rfl 25 (.tmp 4) (.tmp 82) rfl (w.heap.size + 1) [.int .i64 0, .int .i64 0, .bool false, .int .i64 0, .int .i64 0, .int .i64 0, .int .i64 0, .int .i64 0, .slice none 0 0, .string ⟨#[]⟩, .int .i64 0] [.int .i64 d.nu, .int .i64 d.ep, .bool d.up, .int .i64 d.st, .int .i64 d.le, .int .i64 d.ta, .int .i64 d.co, .int .i64 d.lf, .slice a d.ss.length c, .string xx, .int .i64 d.si] rfl rfl hA rfl Tryd.sizeWk (oneWk _ _ _ _ _ _ _ _ _ _ _ _ _) ?_; intro w10 hc10 hg10)
    have k0 : w10.cell? ⟨w.heap.size + 1, 0, none⟩ = some (.int .i64 d.nu) := (hc10 0 (by simp)).1
    have k1 : w10.cell? ⟨w.heap.size + 1, 1, none⟩ = some (.int .i64 d.ep) := (hc10 1 (by simp)).1
    have k2 : w10.cell? ⟨w.heap.size + 1, 2, none⟩ = some (.bool d.up) := (hc10 2 (by simp)).1
    have k3 : w10.cell? ⟨w.heap.size + 1, 3, none⟩ = some (.int .i64 d.st) := (hc10 3 (by simp)).1
    have k4 : w10.cell? ⟨w.heap.size + 1, 4, none⟩ = some (.int .i64 d.le) := (hc10 4 (by simp)).1
    have k5 : w10.cell? ⟨w.heap.size + 1, 5, none⟩ = some (.int .i64 d.ta) := (hc10 5 (by simp)).1
    have k6 : w10.cell? ⟨w.heap.size + 1, 6, none⟩ = some (.int .i64 d.co) := (hc10 6 (by simp)).1
    have k7 : w10.cell? ⟨w.heap.size + 1, 7, none⟩ = some (.int .i64 d.lf) := (hc10 7 (by simp)).1
    have k8 : w10.cell? ⟨w.heap.size + 1, 8, none⟩ = some (.slice a d.ss.length c) := (hc10 8 (by simp)).1
    have k9 : w10.cell? ⟨w.heap.size + 1, 9, none⟩ = some (.string xx) := (hc10 9 (by simp)).1
    have k10 : w10.cell? ⟨w.heap.size + 1, 10, none⟩ = some (.int .i64 d.si) := (hc10 10 (by simp)).1
    have HF := WP.fin (d := (⟨d.nu, d.ep, d.up, d.st, d.le, d.ta, d.co, d.lf, d.ss, xx, d.si⟩ : WD)) (c := c) HGB.out HS.out hg10 ⟨b1, b2, b3, b4, b5, b6, b7, b8, b9, b10, hxs⟩ (P := fun _ => True) trivial
    exact bodyPost_ret (v := .agg #[.int .i64 d.nu, .int .i64 d.ep, .bool d.up, .int .i64 d.st, .int .i64 d.le, .int .i64 d.ta, .int .i64 d.co, .int .i64 d.lf, .slice a d.ss.length c, .string xx, .int .i64 d.si]) (by simp [results, Tryd.results33, go_sem, k0, k1, k2, k3, k4, k5, k6, k7, k8, k9, k10]) rfl ⟨HF.1, HF.2.1.mono (by omega), HF.2.2⟩
  · have SA := S1.alloc (.cells #[] 9)
    have own0 : Own (w.heap.size + 2) (w1.alloc (.cells #[] 9)) 1 (.slice (some ⟨w1.heap.size, 0, none⟩) 0 0) 0 [] :=
      .inr ⟨_, 0, 0, rfl, OwnC.made w1 (w.heap.size + 2) 9 1 0 0 #[] 0 S1.ord.2 (Nat.le_refl _) (Nat.zero_le _) rfl (Nat.le_refl _) [] rfl (0, 0) (.inl rfl)⟩
    have hsrc := SA.st.srcQ c
    have c8 : (w1.alloc (.cells #[] 9)).cell? ⟨w.heap.size, 8, none⟩ = some (.slice a d.ss.length c) := (SA.E 8 (by simp)).1
    obtain ⟨WA, hWA⟩ : ∃ V, V = w1.alloc (.cells #[] 9) := ⟨_, rfl⟩
    have h1z := S1.ord.2
    rw [← hWA] at SA own0 hsrc
    have HWA := hid hWA
    have zA := SA.ord.2
    clear hWA S1
    go_wp2_with (at_builtin; rw [← HWA.out]; refine wpList_append_c _ rfl _ _ 23 23 rfl (w.heap.size + 2) 9 i0 (.string ⟨#[]⟩) 1 16 Tryd.underlying23 hi hz0 hz1 hz2 rfl _ 0 _ rfl own0 _ d.ss.length _ rfl hsrc (by unfold maxLen; omega) (by omega) zA ?_; intro v1 w2 ho1 hg1 hbk1; rw [Nat.zero_add, List.nil_append] at ho1; obtain ⟨a1, c1, rfl⟩ := ho1.slc)
    have S2 := SA.grown hg1 (fun q hq => own0.row_lo q hq)
    clear SA own0 hsrc HWA c8 zA hg1 hbk1
    go_wp2_with fail
    refine (l1Bytes_any g (k + 1) _ S2.rd (by omega)).mono ?_
    rintro e w3 ⟨⟨yy, rfl, hyy⟩, hrd3, hg3⟩
    have S3 := S2.call hrd3 hg3
    have ho3 := ho1.grown hg3 (.inr (by intro e; have := ho1.row_lo _ e; omega))
    clear hrd3 hg3 S2 ho1
    have SB := S3.alloc (.cells #[.string ⟨#[120]⟩, .string yy] 9)
    have cB := CF.made w3 #[.string ⟨#[120]⟩, .string yy] 9
    have hoB := ho3.alloc (.cells #[.string ⟨#[120]⟩, .string yy] 9)
    obtain ⟨WB, hWB⟩ : ∃ V, V = w3.alloc (.cells #[.string ⟨#[120]⟩, .string yy] 9) := ⟨_, rfl⟩
    have zB : w3.heap.size < WB.heap.size := by rw [hWB]; simp
    have hgB : g < w3.heap.size := S3.rd.lt
    rw [← hWB] at SB cB hoB
    have HWB := hid hWB
    clear hWB S3 ho3
    go_wp2_with fail
    rw [← HWB.out]
    clear HWB
    refine (pick_any g 2 (k + 2) _ SB.rd (by omega) (by omega) (by omega)).mono ?_
    rintro e w5 ⟨⟨r5, hr5, rfl⟩, hrd5, hg5⟩
    have S5 := SB.call hrd5 hg5
    have ho5 := hoB.grown hg5 (.inr (by intro e; have := hoB.row_lo _ e; omega))
    have c5 := cB.block (hg5.block _ zB (by simp; omega))
    obtain ⟨xx, hxx, hxc⟩ : ∃ xx : ByteArray, xx.size ≤ 100 ∧ w5.cell? ⟨w3.heap.size, r5, none⟩ = some (.string xx) := by
      rcases (show r5 = 0 ∨ r5 = 1 by omega) with rfl | rfl
      · exact ⟨_, by decide, (c5 0 (by simp)).1⟩
      · exact ⟨_, by omega, (c5 1 (by simp)).1⟩
    have hr5' : (r5 : Int) < 2 := by omega
    clear hrd5 hg5 SB hoB cB c5 zB
    have z5 := S5.ord.2
    have SC := S5.alloc (.cells #[.string xx] 9)
    have hoC := ho5.alloc (.cells #[.string xx] 9)
    have src1 : Src Tryd.prog 1 23 (.slice (some ⟨w5.heap.size, 0, none⟩) 1 1) 1 [.string xx] (w5.alloc (.cells #[.string xx] 9)) :=
      Own.src (B := 0) (.inr ⟨_, 0, 1, rfl, OwnC.made w5 0 9 1 1 1 _ 1 (by omega) (Nat.le_refl _) (by unfold maxLen; omega) rfl (Nat.le_refl _) _ rfl _ (.inl rfl)⟩) Tryd.underlying23 (by simp; rfl)
    obtain ⟨WC, hWC⟩ : ∃ V, V = w5.alloc (.cells #[.string xx] 9) := ⟨_, rfl⟩
    rw [← hWC] at SC hoC src1
    have HWC := hid hWC
    have zC := SC.ord.2
    have xC : WC.cell? ⟨w.heap.size, 8, none⟩ = some (.slice a d.ss.length c) := (SC.E 8 (by simp)).1
    obtain ⟨L, hL⟩ : ∃ L, L = d.ss ++ [xx] := ⟨_, rfl⟩
    have hLl : L.length = d.ss.length + 1 := by rw [hL]; simp
    have hLz : ∀ s ∈ L, s.size ≤ 100 := fun s hs => by
      rw [hL] at hs
      rcases List.mem_append.1 hs with hs | hs
      · exact b10 s hs
      · rw [List.mem_singleton.1 hs]; exact hxx
    have hLm : L.map Value.string = d.ss.map Value.string ++ [.string xx] := by rw [hL]; simp
    have HLL := hid hLl
    have HLM := hid hLm
    clear hWC S5 ho5 hL hLl hLm
    go_upto_region 19 with (at_builtin; rw [← HWC.out]; refine wpList_append_c _ rfl _ _ 23 23 rfl (w.heap.size + 2) 9 i0 (.string ⟨#[]⟩) 1 16 Tryd.underlying23 hi hz0 hz1 hz2 rfl _ d.ss.length _ rfl hoC _ 1 _ rfl src1 (by unfold maxLen; omega) (by omega) zC ?_; intro v7 w7 ho7 hg7 hbk7; obtain ⟨a7, c7, rfl⟩ := ho7.slc; rw [← HLL.out, ← HLM.out] at ho7; rw [← HLL.out]; have S7 := SC.grown hg7 (fun q hq => hoC.row_lo q hq); have z8 : w7.cell? ⟨w.heap.size, 8, none⟩ = some (.slice a d.ss.length c) := (S7.E 8 (by simp)).1; have f8 : w7.frozen? ⟨w.heap.size, 8, none⟩ = false := (S7.E 8 (by simp)).2)
    have S8 := S7.store (j := 8) (by simp) (.slice a7 L.length c7)
    simp only [List.set_cons_zero, List.set_cons_succ] at S8
    have HOW := hid (ho7.grown (gset (World.grownBy.refl w7 (some (w.heap.size))) 8 (.slice a7 L.length c7)) (.inr (by intro e; have := ho7.row_lo _ e; omega)))
    clear S7 SC hoC src1 HWC zC xC ho7 hg7 hbk7 hxc z5
    have y0 : (w7.setCell ⟨w.heap.size, 8, none⟩ (.slice a7 L.length c7)).cell? ⟨w.heap.size, 0, none⟩ = some (.int .i64 d.nu) := (S8.E 0 (by simp)).1
    have y1 : (w7.setCell ⟨w.heap.size, 8, none⟩ (.slice a7 L.length c7)).cell? ⟨w.heap.size, 1, none⟩ = some (.int .i64 d.ep) := (S8.E 1 (by simp)).1
    have y2 : (w7.setCell ⟨w.heap.size, 8, none⟩ (.slice a7 L.length c7)).cell? ⟨w.heap.size, 2, none⟩ = some (.bool d.up) := (S8.E 2 (by simp)).1
    have y3 : (w7.setCell ⟨w.heap.size, 8, none⟩ (.slice a7 L.length c7)).cell? ⟨w.heap.size, 3, none⟩ = some (.int .i64 d.st) := (S8.E 3 (by simp)).1
    have y4 : (w7.setCell ⟨w.heap.size, 8, none⟩ (.slice a7 L.length c7)).cell? ⟨w.heap.size, 4, none⟩ = some (.int .i64 d.le) := (S8.E 4 (by simp)).1
    have y5 : (w7.setCell ⟨w.heap.size, 8, none⟩ (.slice a7 L.length c7)).cell? ⟨w.heap.size, 5, none⟩ = some (.int .i64 d.ta) := (S8.E 5 (by simp)).1
    have y6 : (w7.setCell ⟨w.heap.size, 8, none⟩ (.slice a7 L.length c7)).cell? ⟨w.heap.size, 6, none⟩ = some (.int .i64 d.co) := (S8.E 6 (by simp)).1
    have y7 : (w7.setCell ⟨w.heap.size, 8, none⟩ (.slice a7 L.length c7)).cell? ⟨w.heap.size, 7, none⟩ = some (.int .i64 d.lf) := (S8.E 7 (by simp)).1
    have y8 : (w7.setCell ⟨w.heap.size, 8, none⟩ (.slice a7 L.length c7)).cell? ⟨w.heap.size, 8, none⟩ = some (.slice a7 L.length c7) := (S8.E 8 (by simp)).1
    have y9 : (w7.setCell ⟨w.heap.size, 8, none⟩ (.slice a7 L.length c7)).cell? ⟨w.heap.size, 9, none⟩ = some (.string d.x) := (S8.E 9 (by simp)).1
    have y10 : (w7.setCell ⟨w.heap.size, 8, none⟩ (.slice a7 L.length c7)).cell? ⟨w.heap.size, 10, none⟩ = some (.int .i64 d.si) := (S8.E 10 (by simp)).1
    have hA := S8.A
    have HS := hid S8
    clear S8
    obtain ⟨WF, hWF⟩ : ∃ V, V = (w7.setCell ⟨w.heap.size, 8, none⟩ (.slice a7 L.length c7)) := ⟨_, rfl⟩
    rw [← hWF] at y0 y1 y2 y3 y4 y5 y6 y7 y8 y9 y10 hA HS HOW
    have HWF := hid hWF
    clear hWF
    go_upto_region 19 with fail
    rw [← HWF.out]
    clear HWF
    go_wp2_with (refine wpList_store_cf rfl 25 (.tmp 4) (.tmp 82) rfl (w.heap.size + 1) [.int .i64 0, .int .i64 0, .bool false, .int .i64 0, .int .i64 0, .int .i64 0, .int .i64 0, .int .i64 0, .slice none 0 0, .string ⟨#[]⟩, .int .i64 0] [.int .i64 d.nu, .int .i64 d.ep, .bool d.up, .int .i64 d.st, .int .i64 d.le, .int .i64 d.ta, .int .i64 d.co, .int .i64 d.lf, .slice a7 L.length c7, .string d.x, .int .i64 d.si] rfl rfl hA rfl Tryd.sizeWk (oneWk _ _ _ _ _ _ _ _ _ _ _ _ _) ?_; intro w10 hc10 hg10)
    have k0 : w10.cell? ⟨w.heap.size + 1, 0, none⟩ = some (.int .i64 d.nu) := (hc10 0 (by simp)).1
    have k1 : w10.cell? ⟨w.heap.size + 1, 1, none⟩ = some (.int .i64 d.ep) := (hc10 1 (by simp)).1
    have k2 : w10.cell? ⟨w.heap.size + 1, 2, none⟩ = some (.bool d.up) := (hc10 2 (by simp)).1
    have k3 : w10.cell? ⟨w.heap.size + 1, 3, none⟩ = some (.int .i64 d.st) := (hc10 3 (by simp)).1
    have k4 : w10.cell? ⟨w.heap.size + 1, 4, none⟩ = some (.int .i64 d.le) := (hc10 4 (by simp)).1
    have k5 : w10.cell? ⟨w.heap.size + 1, 5, none⟩ = some (.int .i64 d.ta) := (hc10 5 (by simp)).1
    have k6 : w10.cell? ⟨w.heap.size + 1, 6, none⟩ = some (.int .i64 d.co) := (hc10 6 (by simp)).1
    have k7 : w10.cell? ⟨w.heap.size + 1, 7, none⟩ = some (.int .i64 d.lf) := (hc10 7 (by simp)).1
    have k8 : w10.cell? ⟨w.heap.size + 1, 8, none⟩ = some (.slice a7 L.length c7) := (hc10 8 (by simp)).1
    have k9 : w10.cell? ⟨w.heap.size + 1, 9, none⟩ = some (.string d.x) := (hc10 9 (by simp)).1
    have k10 : w10.cell? ⟨w.heap.size + 1, 10, none⟩ = some (.int .i64 d.si) := (hc10 10 (by simp)).1
    have HF := WP.fin2 (d := (⟨d.nu, d.ep, d.up, d.st, d.le, d.ta, d.co, d.lf, L, d.x, d.si⟩ : WD)) (P := fun _ => True) HBW.out HS.out HOW.out hg10 ⟨b1, b2, b3, b4, b5, b6, b7, b8, by have := HLL.out; show L.length ≤ 100; omega, hLz, b11⟩ trivial
    exact bodyPost_ret (v := .agg #[.int .i64 d.nu, .int .i64 d.ep, .bool d.up, .int .i64 d.st, .int .i64 d.le, .int .i64 d.ta, .int .i64 d.co, .int .i64 d.lf, .slice a7 L.length c7, .string d.x, .int .i64 d.si]) (by simp [results, Tryd.results33, go_sem, k0, k1, k2, k3, k4, k5, k6, k7, k8, k9, k10]) rfl ⟨HF.1, HF.2.1.mono (by omega), HF.2.2⟩
end Go.Proofs.YtimpfhfgcmipgaaDoor
