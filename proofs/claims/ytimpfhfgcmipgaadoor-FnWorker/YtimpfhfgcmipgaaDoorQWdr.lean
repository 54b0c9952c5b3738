
import Derived.Test.YtimpfhfgcmipgaaDoorQDso
import Derived.Test.YtimpfhfgcmipgaaDoorQLwb
import Derived.Deep.DeepCutAuto
namespace Go.Proofs.YtimpfhfgcmipgaaDoor
open Go.RowKit

theorem Tryd.sizeWk : (Tryd.prog.info? 25).map (·.size) = some 11 := by kernel_rfl
theorem enter_l1Byt (v1 : Value) (w : World) : Sem.run Tryd.prog (callFunc 45 #[v1]) w = .ok (.enter 45 #[v1]) w := by kernel_rfl
theorem oneWk (nu ep : Int) (up : Bool) (st le ta co lf : Int) (a : Option Addr) (n c : Nat) (x : ByteArray) (si : Int) : ∀ v ∈ [Value.int .i64 nu, .int .i64 ep, .bool up, .int .i64 st, .int .i64 le, .int .i64 ta, .int .i64 co, .int .i64 lf, .slice a n c, .string x, .int .i64 si], v.oneCell' = true := by
  intro v hv
  simp only [List.mem_cons, List.not_mem_nil, or_false] at hv
  rcases hv with rfl | rfl | rfl | rfl | rfl | rfl | rfl | rfl | rfl | rfl | rfl <;> rfl
/-- Small enough; a lease that no offer of FnWorker's is below. -/
structure bndW (d : WD) : Prop where
  i1 : -2000000 ≤ d.nu ∧ d.nu ≤ 2000000
  i2 : -2000000 ≤ d.ep ∧ d.ep ≤ 2000000
  i3 : -2000000 ≤ d.st ∧ d.st ≤ 2000000
  i4 : 0 ≤ d.le ∧ d.le ≤ 1000001
  i5 : -2000000 ≤ d.ta ∧ d.ta ≤ 2000000
  i6 : -2000000 ≤ d.co ∧ d.co ≤ 2000000
  i7 : -2000000 ≤ d.lf ∧ d.lf ≤ 2000000
  i8 : -2000000 ≤ d.si ∧ d.si ≤ 2000000
  n : d.ss.length ≤ 100
  s : ∀ s ∈ d.ss, s.size ≤ 100
  x : d.x.size ≤ 100
def bndS (d : WD) : Prop := d.co ≤ 1000 ∧ d.ss.length ≤ 50 ∧ d.x.size ≤ 50
/-- A worker whose inputs lie in a block of which B holds. -/
def RetWk (e : Ending) (B : Nat → Prop) (w' : World) (P : WD → Prop) : Prop := ∃ (d : WD) (a : Option Addr) (c b o : Nat), e = .returned (.agg #[.int .i64 d.nu, .int .i64 d.ep, .bool d.up, .int .i64 d.st, .int .i64 d.le, .int .i64 d.ta, .int .i64 d.co, .int .i64 d.lf, .slice a d.ss.length c, .string d.x, .int .i64 d.si]) ∧ StrsAt w' a b o d.ss.length d.ss ∧ (0 < d.ss.length → B b) ∧ bndW d ∧ P d
/-- Amid the draw of a worker: the plan's box, the answer's box, the worker's box Q, its inputs v. -/
structure WS (w : World) (g Q : Nat) (pv : Value) (cs : List Value) (v : Value) (L : List ByteArray) (k : Nat) (wr : World) : Prop where
  P : CF wr w.heap.size [pv]
  A : CF wr (w.heap.size + 1) [.int .i64 0, .int .i64 0, .bool false, .int .i64 0, .int .i64 0, .int .i64 0, .int .i64 0, .int .i64 0, .slice none 0 0, .string ⟨#[]⟩, .int .i64 0]
  E : CF wr Q cs
  own : Own (Q + 1) wr 1 v L.length (L.map Value.string)
  sz : ∀ s ∈ L, s.size ≤ 100
  rd : RD wr g k
  gr : w.grownBy wr (some g)
  ord : g < w.heap.size ∧ w.heap.size + 1 < Q ∧ Q < wr.heap.size
section
variable {w wr w' : World} {g Q k k' : Nat} {pv v v' : Value} {cs : List Value} {L : List ByteArray}
theorem WS.call (h : WS w g Q pv cs v L k wr) (hr : RD w' g k') (hg : wr.grownBy w' (some g)) : WS w g Q pv cs v L k' w' :=
  have ho := h.ord
  ⟨h.P.block (hg.block _ (by omega) (by simp; omega)), h.A.block (hg.block _ (by omega) (by simp; omega)), h.E.block (hg.block _ (by omega) (by simp; omega)), h.own.grown hg (.inr (by intro e; have := h.own.row_lo _ e; omega)), h.sz, hr, grownBy_trans h.gr hg, ho.1, ho.2.1, Nat.lt_of_lt_of_le ho.2.2 hg.size⟩
theorem WS.below (h : WS w g Q pv cs v L k wr) (hb : Below wr.heap.size wr w') : WS w g Q pv cs v L k w' :=
  have ho := h.ord
  ⟨h.P.block (hb.block _ (by omega)), h.A.block (hb.block _ (by omega)), h.E.block (hb.block _ (by omega)), h.own.below hb (Nat.le_refl _), h.sz, h.rd.below hb, grownBy_trans h.gr (grownBy_below hb), ho.1, ho.2.1, Nat.lt_of_lt_of_le ho.2.2 hb.size⟩
theorem WS.alloc (h : WS w g Q pv cs v L k wr) (ob : Obj) : WS w g Q pv cs v L k (wr.alloc ob) := h.below ((Below.refl _ _).alloc (Nat.le_refl _) _)
theorem WS.drew (h : WS w g Q pv cs v L k wr) : WS w g Q pv cs v L k wr.drew := h.below (Below.refl _ _).drew
theorem WS.more (h : WS w g Q pv cs v L k wr) (hk : k ≤ k') : WS w g Q pv cs v L k' wr := ⟨h.P, h.A, h.E, h.own, h.sz, h.rd.mono hk, h.gr, h.ord⟩
theorem WS.store (h : WS w g Q pv cs v L k wr) {j : Nat} (hj : j < cs.length) (u : Value) : WS w g Q pv (cs.set j u) v L k (wr.setCell ⟨Q, j, none⟩ u) :=
  have ho := h.ord
  have gs := gset (World.grownBy.refl wr (some Q)) j u
  ⟨h.P.block (gs.block _ (by omega) (by simp; omega)), h.A.block (gs.block _ (by omega) (by simp; omega)), h.E.set hj u, h.own.grown gs (.inr (by intro e; have := h.own.row_lo _ e; omega)), h.sz, h.rd.set (by dsimp only; omega) u, ⟨h.gr.os, h.gr.tape, h.gr.output, by simpa [World.setCell] using h.gr.size, fun q hq hne => (gs.block q (by have := h.gr.size; omega) (by simp; omega)).trans (h.gr.block q hq hne)⟩, ho.1, ho.2.1, by simpa [World.setCell] using ho.2.2⟩
/-- One input more. -/
theorem WS.app {x : ByteArray} (h : WS w g Q pv cs v L k wr) (hx : x.size ≤ 100) (ho : Own (Q + 1) w' 1 v' (L.length + 1) (L.map Value.string ++ [.string x])) (hg : wr.grownBy w' v.ownBlock) : WS w g Q pv cs v' (L ++ [x]) k w' :=
  have hd := h.ord
  have far : ∀ q, q < wr.heap.size → q ≤ Q → w'.heap[q]? = wr.heap[q]? := fun q h1 h2 => hg.block q h1 (fun e => by have := h.own.row_lo q e.symm; omega)
  ⟨h.P.block (far _ (by omega) (by omega)), h.A.block (far _ (by omega) (by omega)), h.E.block (far _ (by omega) (by omega)), by rw [List.length_append, List.map_append]; exact ho, fun s hs => by
    rcases List.mem_append.1 hs with hs | hs
    · exact h.sz s hs
    · rw [List.mem_singleton.1 hs]; exact hx, h.rd.keep (fun q hq => far q (by omega) (by omega)), ⟨hg.os.trans h.gr.os, hg.tape.trans h.gr.tape, hg.output.trans h.gr.output, Nat.le_trans h.gr.size hg.size, fun q hq hne => (far q (by have := h.gr.size; omega) (by omega)).trans (h.gr.block q hq hne)⟩, hd.1, hd.2.1, Nat.lt_of_lt_of_le hd.2.2 hg.size⟩
end
section
variable {ρ : Operand → Value} {o : Oper} {w : World}
theorem run_ldLs {p : Addr} {v : Value} (x : Operand) (h : o.op = .load 23 x) (hx : ρ x = .pointer (some p)) (hc : w.cell? p = some v) : (execOp ρ o).run Tryd.prog w = .ok (.value v) w := by
  unfold execOp; rw [h]; simp [go_sem, hx, hc]
theorem run_bsL1 (x0 : Operand) (s : ByteArray) (h : o.op = .buildSlice 23 1 #[(0, x0)]) (h0 : ρ x0 = .string s) : (execOp ρ o).run Tryd.prog w = .ok (.value (.slice (some ⟨w.heap.size, 0, none⟩) 1 1)) (w.alloc (.cells #[.string s] 9)) := by
  unfold execOp; rw [h]; simp [go_sem, h0]
theorem run_stLs {p : Addr} {v0 : Value} (x y : Operand) (a : Option Addr) (n c : Nat) (h : o.op = .store 23 x y) (hx : ρ x = .pointer (some p)) (hy : ρ y = .slice a n c) (hc : w.cell? p = some v0) (hf : w.frozen? p = false) : (execOp ρ o).run Tryd.prog w = .ok .skip (w.setCell p (.slice a n c)) := by
  unfold execOp; rw [h]; simp [go_sem, hx, hy, hc, hf]
end
/-- The answer. -/
theorem WS.fin {w wr wf : World} {g Q k : Nat} {pv : Value} {d : WD} {a : Option Addr} {c : Nat} (h : WS w g Q pv [.int .i64 d.nu, .int .i64 d.ep, .bool d.up, .int .i64 d.st, .int .i64 d.le, .int .i64 d.ta, .int .i64 d.co, .int .i64 d.lf, .slice a d.ss.length c, .string d.x, .int .i64 d.si] (.slice a d.ss.length c) d.ss k wr) (hg : wr.grownBy wf (some (w.heap.size + 1))) {P : WD → Prop} (hb : bndW d) (hP : P d) :
    RetWk (.returned (.agg #[.int .i64 d.nu, .int .i64 d.ep, .bool d.up, .int .i64 d.st, .int .i64 d.le, .int .i64 d.ta, .int .i64 d.co, .int .i64 d.lf, .slice a d.ss.length c, .string d.x, .int .i64 d.si])) (fun q => w.heap.size < q) wf P ∧ RD wf g k ∧ w.grownBy wf (some g) := by
  have ho := h.ord
  have hown := h.own.grown hg (.inr (by intro e; have := h.own.row_lo _ e; omega))
  have hlo := hown.row_lo
  refine ⟨?_, h.rd.grown hg (fun q hq => by injection hq with hq; omega), ⟨hg.os.trans h.gr.os, hg.tape.trans h.gr.tape, hg.output.trans h.gr.output, Nat.le_trans h.gr.size hg.size, fun q hq hne => (hg.block q (by have := h.gr.size; omega) (by simp; omega)).trans (h.gr.block q hq hne)⟩⟩
  have hm : ∀ s ∈ d.ss, s.size ≤ maxLen := fun s hs => by have := hb.s s hs; unfold maxLen; omega
  rcases hown with ⟨hv, hn, hx⟩ | ⟨gb, o, cap, hv, hc⟩
  · have hss : d.ss = [] := by simpa using hx
    refine ⟨d, a, c, 0, 0, rfl, ⟨fun h0 => by omega, rfl, by omega, fun h0 => by omega, fun j hj => by omega, hm⟩, fun h0 => by omega, hb, hP⟩
  · injection hv with e1 e2 e3
    subst e1
    exact ⟨d, _, c, gb, o, rfl, StrsAt.ofOwn hc hm, fun _ => by have := hc.lo; show w.heap.size < gb; omega, hb, hP⟩

set_option maxHeartbeats 8000000 in
set_option maxRecDepth 100000 in
theorem l3Draw_any (g k : Nat) (pa : Option Addr) (pn pc : Nat) (w : World) (h : RD w g k) (hk : k ≤ 900000) (h1 : 1 ≤ pn) (h40 : pn ≤ 64) :
    Calls Tryd.prog 31 #[.pointer (some ⟨g, 0, none⟩), .agg #[.slice pa pn pc]] w fun e w' => RetWk e (fun q => w.heap.size < q) w' bndS ∧ RD w' g (k + 30) ∧ w.grownBy w' (some g) := by
  obtain ⟨i0, hi, hz0, hz1, hz2⟩ := info_parts Tryd.info9
  have hgl := h.lt
  obtain ⟨W, hW⟩ : ∃ W, W = (w.alloc (.cells #[.slice pa pn pc] 28)).alloc (.cells #[.int .i64 0, .int .i64 0, .bool false, .int .i64 0, .int .i64 0, .int .i64 0, .int .i64 0, .int .i64 0, .slice none 0 0, .string ⟨#[]⟩, .int .i64 0] 25) := ⟨_, rfl⟩
  have hBW : Below w.heap.size w W := by rw [hW]; exact ((Below.refl _ _).alloc (Nat.le_refl _) _).alloc (by simp) _
  have hzW : W.heap.size = w.heap.size + 2 := by rw [hW]; simp
  have hP : CF W w.heap.size [.slice pa pn pc] := by rw [hW]; exact (CF.made w #[.slice pa pn pc] 28).block (Below.heap_alloc _ _ _ (by simp))
  have hA : CF W (w.heap.size + 1) [.int .i64 0, .int .i64 0, .bool false, .int .i64 0, .int .i64 0, .int .i64 0, .int .i64 0, .int .i64 0, .slice none 0 0, .string ⟨#[]⟩, .int .i64 0] := by
    rw [hW]
    have := CF.made (w.alloc (.cells #[.slice pa pn pc] 28)) #[.int .i64 0, .int .i64 0, .bool false, .int .i64 0, .int .i64 0, .int .i64 0, .int .i64 0, .int .i64 0, .slice none 0 0, .string ⟨#[]⟩, .int .i64 0] 25
    rw [World.size_alloc] at this
    exact this
  have hrd0 := h.below hBW
  have HW := hid hW
  clear hW h
  go_enter Tryd.func31, Tryd.ntmps31
  go_wp2_with fail
  rw [← HW.out]
  clear HW
  refine (pick_any g 3 k _ hrd0 (by omega) (by omega) (by omega)).mono ?_
  rintro e w1 ⟨⟨r1, hr1, rfl⟩, hrd1, hg1⟩
  go_wp2_with fail
  refine (pick_any g 3 (k + 1) _ hrd1 (by omega) (by omega) (by omega)).mono ?_
  rintro e w2 ⟨⟨r2, hr2, rfl⟩, hrd2, hg2⟩
  go_wp2_with fail
  refine (pick_any g 8 (k + 2) _ hrd2 (by omega) (by omega) (by omega)).mono ?_
  rintro e w3 ⟨⟨r3, hr3, rfl⟩, hrd3, hg3⟩
  have hgA := grownBy_trans (grownBy_trans hg1 hg2) hg3
  have hP3 := hP.block (hgA.block _ (by omega) (by simp; omega))
  have hA3 := hA.block (hgA.block _ (by omega) (by simp; omega))
  have hgr3 := grownBy_trans (grownBy_below (r := some g) hBW) hgA
  have hz3 := hgA.size
  clear hrd0 hrd1 hrd2 hg1 hg2 hg3 hgA hP hA hBW
  have mk : ∀ up : Bool, WS w g w3.heap.size (.slice pa pn pc) [.int .i64 (1 + (r1 : Int)), .int .i64 (1 + (r2 : Int)), .bool up, .int .i64 0, .int .i64 0, .int .i64 0, .int .i64 0, .int .i64 0, .slice none 0 0, .string ⟨#[]⟩, .int .i64 0] (.slice none 0 0) [] (k + 3) (w3.alloc (.cells #[.int .i64 (1 + (r1 : Int)), .int .i64 (1 + (r2 : Int)), .bool up, .int .i64 0, .int .i64 0, .int .i64 0, .int .i64 0, .int .i64 0, .slice none 0 0, .string ⟨#[]⟩, .int .i64 0] 25)) := fun up => by
    have ba : Below w3.heap.size w3 (w3.alloc (.cells #[.int .i64 (1 + (r1 : Int)), .int .i64 (1 + (r2 : Int)), .bool up, .int .i64 0, .int .i64 0, .int .i64 0, .int .i64 0, .int .i64 0, .slice none 0 0, .string ⟨#[]⟩, .int .i64 0] 25)) := (Below.refl _ _).alloc (Nat.le_refl _) _
    exact ⟨hP3.block (ba.block _ (by omega)), hA3.block (ba.block _ (by omega)), CF.made w3 #[.int .i64 (1 + (r1 : Int)), .int .i64 (1 + (r2 : Int)), .bool up, .int .i64 0, .int .i64 0, .int .i64 0, .int .i64 0, .int .i64 0, .slice none 0 0, .string ⟨#[]⟩, .int .i64 0] 25, Own.nil _ _ _, fun s hs => (by cases hs), hrd3.below ba, grownBy_trans hgr3 (grownBy_below ba), hgl, by omega, by simp⟩
  have HMK := hid mk
  clear mk hP3 hA3 hgr3 hrd3 hzW
  by_cases hup : r3 = 0
  · have hup0 : ¬ 0 < r3 := by omega
    have hupb : decide (0 < r3) = false := decide_eq_false hup0
    have HUP := hid hup
    clear hup
    have S0 := HMK.out false
    obtain ⟨Q, hQ⟩ : ∃ q, q = w3.heap.size := ⟨_, rfl⟩
    rw [← hQ] at S0
    have HQ := hid hQ
    clear hQ HMK hz3
    obtain ⟨W4, hW4⟩ : ∃ V, V = (w3.alloc (.cells #[.int .i64 (1 + (r1 : Int)), .int .i64 (1 + (r2 : Int)), .bool false, .int .i64 0, .int .i64 0, .int .i64 0, .int .i64 0, .int .i64 0, .slice none 0 0, .string ⟨#[]⟩, .int .i64 0] 25)) := ⟨_, rfl⟩
    rw [← hW4] at S0
    have HW4 := hid hW4
    clear hW4
    go_upto_region 2 with fail
    rw [← HW4.out, ← HQ.out]
    clear HW4
    have y0 : W4.cell? ⟨Q, 0, none⟩ = some (.int .i64 (1 + (r1 : Int))) := (S0.E 0 (by simp)).1
    have y1 : W4.cell? ⟨Q, 1, none⟩ = some (.int .i64 (1 + (r2 : Int))) := (S0.E 1 (by simp)).1
    have y2 : W4.cell? ⟨Q, 2, none⟩ = some (.bool false) := (S0.E 2 (by simp)).1
    have y3 : W4.cell? ⟨Q, 3, none⟩ = some (.int .i64 0) := (S0.E 3 (by simp)).1
    have y4 : W4.cell? ⟨Q, 4, none⟩ = some (.int .i64 0) := (S0.E 4 (by simp)).1
    have y5 : W4.cell? ⟨Q, 5, none⟩ = some (.int .i64 0) := (S0.E 5 (by simp)).1
    have y6 : W4.cell? ⟨Q, 6, none⟩ = some (.int .i64 0) := (S0.E 6 (by simp)).1
    have y7 : W4.cell? ⟨Q, 7, none⟩ = some (.int .i64 0) := (S0.E 7 (by simp)).1
    have y8 : W4.cell? ⟨Q, 8, none⟩ = some (.slice none 0 0) := (S0.E 8 (by simp)).1
    have y9 : W4.cell? ⟨Q, 9, none⟩ = some (.string ⟨#[]⟩) := (S0.E 9 (by simp)).1
    have y10 : W4.cell? ⟨Q, 10, none⟩ = some (.int .i64 0) := (S0.E 10 (by simp)).1
    have hA := S0.A
    have HS := hid S0
    clear S0
    go_wp2_with (refine wpList_store_cf rfl 25 (.tmp 4) (.tmp 21) rfl (w.heap.size + 1) [.int .i64 0, .int .i64 0, .bool false, .int .i64 0, .int .i64 0, .int .i64 0, .int .i64 0, .int .i64 0, .slice none 0 0, .string ⟨#[]⟩, .int .i64 0] [.int .i64 (1 + (r1 : Int)), .int .i64 (1 + (r2 : Int)), .bool false, .int .i64 0, .int .i64 0, .int .i64 0, .int .i64 0, .int .i64 0, .slice none 0 0, .string ⟨#[]⟩, .int .i64 0] rfl rfl hA rfl Tryd.sizeWk (oneWk _ _ _ _ _ _ _ _ _ _ _ _ _) ?_; intro w10 hc10 hg10)
    have k0 : w10.cell? ⟨w.heap.size + 1, 0, none⟩ = some (.int .i64 (1 + (r1 : Int))) := (hc10 0 (by simp)).1
    have k1 : w10.cell? ⟨w.heap.size + 1, 1, none⟩ = some (.int .i64 (1 + (r2 : Int))) := (hc10 1 (by simp)).1
    have k2 : w10.cell? ⟨w.heap.size + 1, 2, none⟩ = some (.bool false) := (hc10 2 (by simp)).1
    have k3 : w10.cell? ⟨w.heap.size + 1, 3, none⟩ = some (.int .i64 0) := (hc10 3 (by simp)).1
    have k4 : w10.cell? ⟨w.heap.size + 1, 4, none⟩ = some (.int .i64 0) := (hc10 4 (by simp)).1
    have k5 : w10.cell? ⟨w.heap.size + 1, 5, none⟩ = some (.int .i64 0) := (hc10 5 (by simp)).1
    have k6 : w10.cell? ⟨w.heap.size + 1, 6, none⟩ = some (.int .i64 0) := (hc10 6 (by simp)).1
    have k7 : w10.cell? ⟨w.heap.size + 1, 7, none⟩ = some (.int .i64 0) := (hc10 7 (by simp)).1
    have k8 : w10.cell? ⟨w.heap.size + 1, 8, none⟩ = some (.slice none 0 0) := (hc10 8 (by simp)).1
    have k9 : w10.cell? ⟨w.heap.size + 1, 9, none⟩ = some (.string ⟨#[]⟩) := (hc10 9 (by simp)).1
    have k10 : w10.cell? ⟨w.heap.size + 1, 10, none⟩ = some (.int .i64 0) := (hc10 10 (by simp)).1
    have HF := HS.out.fin (d := (⟨(1 + (r1 : Int)), (1 + (r2 : Int)), false, 0, 0, 0, 0, 0, [], ⟨#[]⟩, 0⟩ : WD)) hg10 ⟨by dsimp only; omega, by dsimp only; omega, by dsimp only; omega, by dsimp only; omega, by dsimp only; omega, by dsimp only; omega, by dsimp only; omega, by dsimp only; omega, by simp, by simp, by dsimp only; first | omega | decide⟩ (P := bndS) ⟨by dsimp only; omega, by simp, by dsimp only; first | omega | decide⟩
    exact bodyPost_ret (v := .agg #[.int .i64 (1 + (r1 : Int)), .int .i64 (1 + (r2 : Int)), .bool false, .int .i64 0, .int .i64 0, .int .i64 0, .int .i64 0, .int .i64 0, .slice none 0 0, .string ⟨#[]⟩, .int .i64 0]) (by simp [results, Tryd.results31, go_sem, k0, k1, k2, k3, k4, k5, k6, k7, k8, k9, k10]) rfl ⟨HF.1, HF.2.1.mono (by omega), HF.2.2⟩
  · have hup0 : 0 < r3 := by omega
    have hupb : decide (0 < r3) = true := decide_eq_true hup0
    have S0 := HMK.out true
    obtain ⟨Q, hQ⟩ : ∃ q, q = w3.heap.size := ⟨_, rfl⟩
    rw [← hQ] at S0
    have HQ := hid hQ
    clear hQ HMK hz3
    obtain ⟨W4, hW4⟩ : ∃ V, V = (w3.alloc (.cells #[.int .i64 (1 + (r1 : Int)), .int .i64 (1 + (r2 : Int)), .bool true, .int .i64 0, .int .i64 0, .int .i64 0, .int .i64 0, .int .i64 0, .slice none 0 0, .string ⟨#[]⟩, .int .i64 0] 25)) := ⟨_, rfl⟩
    rw [← hW4] at S0
    have HW4 := hid hW4
    clear hW4
    go_upto_region 2 with fail
    rw [← HW4.out, ← HQ.out]
    clear HW4
    have cu2 : W4.cell? ⟨Q, 2, none⟩ = some (.bool true) := (S0.E 2 (by simp)).1
    go_wp2_with fail
    refine (pick_any g 6 (k + 3) _ S0.rd (by omega) (by omega) (by omega)).mono ?_
    rintro e w5 ⟨⟨r4, hr4, rfl⟩, hrd, hgg⟩
    have S1 := S0.call hrd hgg
    clear hrd hgg S0
    clear cu2
    have z10 : w5.cell? ⟨Q, 10, none⟩ = some (.int .i64 0) := (S1.E 10 (by simp)).1
    have f10 : w5.frozen? ⟨Q, 10, none⟩ = false := (S1.E 10 (by simp)).2
    have S2 := S1.store (j := 10) (by simp) (.int .i64 (r4 : Nat))
    simp only [List.set_cons_zero, List.set_cons_succ] at S2
    clear S1
    obtain ⟨w6, hw6⟩ : ∃ V, V = w5.setCell ⟨Q, 10, none⟩ (.int .i64 (r4 : Nat)) := ⟨_, rfl⟩
    rw [← hw6] at S2
    have Hw6 := hid hw6
    clear hw6
    go_upto_region 5 with fail
    rw [← Hw6.out]
    clear Hw6 z10 f10
    go_wp2_with fail
    refine (pick_any g 3 (k + 4) _ S2.rd (by omega) (by omega) (by omega)).mono ?_
    rintro e w7 ⟨⟨r5, hr5, rfl⟩, hrd, hgg⟩
    have S3 := S2.call hrd hgg
    clear hrd hgg S2
    by_cases h50 : r5 = 0
    · subst h50
      have y0 : w7.cell? ⟨Q, 0, none⟩ = some (.int .i64 (1 + (r1 : Int))) := (S3.E 0 (by simp)).1
      have y1 : w7.cell? ⟨Q, 1, none⟩ = some (.int .i64 (1 + (r2 : Int))) := (S3.E 1 (by simp)).1
      have y2 : w7.cell? ⟨Q, 2, none⟩ = some (.bool true) := (S3.E 2 (by simp)).1
      have y3 : w7.cell? ⟨Q, 3, none⟩ = some (.int .i64 0) := (S3.E 3 (by simp)).1
      have y4 : w7.cell? ⟨Q, 4, none⟩ = some (.int .i64 0) := (S3.E 4 (by simp)).1
      have y5 : w7.cell? ⟨Q, 5, none⟩ = some (.int .i64 0) := (S3.E 5 (by simp)).1
      have y6 : w7.cell? ⟨Q, 6, none⟩ = some (.int .i64 0) := (S3.E 6 (by simp)).1
      have y7 : w7.cell? ⟨Q, 7, none⟩ = some (.int .i64 0) := (S3.E 7 (by simp)).1
      have y8 : w7.cell? ⟨Q, 8, none⟩ = some (.slice none 0 0) := (S3.E 8 (by simp)).1
      have y9 : w7.cell? ⟨Q, 9, none⟩ = some (.string ⟨#[]⟩) := (S3.E 9 (by simp)).1
      have y10 : w7.cell? ⟨Q, 10, none⟩ = some (.int .i64 (r4 : Nat)) := (S3.E 10 (by simp)).1
      have hA := S3.A
      have HS := hid S3
      clear S3
      go_wp2_with (refine wpList_store_cf rfl 25 (.tmp 4) (.tmp 29) rfl (w.heap.size + 1) [.int .i64 0, .int .i64 0, .bool false, .int .i64 0, .int .i64 0, .int .i64 0, .int .i64 0, .int .i64 0, .slice none 0 0, .string ⟨#[]⟩, .int .i64 0] [.int .i64 (1 + (r1 : Int)), .int .i64 (1 + (r2 : Int)), .bool true, .int .i64 0, .int .i64 0, .int .i64 0, .int .i64 0, .int .i64 0, .slice none 0 0, .string ⟨#[]⟩, .int .i64 (r4 : Nat)] rfl rfl hA rfl Tryd.sizeWk (oneWk _ _ _ _ _ _ _ _ _ _ _ _ _) ?_; intro w10 hc10 hg10)
      have k0 : w10.cell? ⟨w.heap.size + 1, 0, none⟩ = some (.int .i64 (1 + (r1 : Int))) := (hc10 0 (by simp)).1
      have k1 : w10.cell? ⟨w.heap.size + 1, 1, none⟩ = some (.int .i64 (1 + (r2 : Int))) := (hc10 1 (by simp)).1
      have k2 : w10.cell? ⟨w.heap.size + 1, 2, none⟩ = some (.bool true) := (hc10 2 (by simp)).1
      have k3 : w10.cell? ⟨w.heap.size + 1, 3, none⟩ = some (.int .i64 0) := (hc10 3 (by simp)).1
      have k4 : w10.cell? ⟨w.heap.size + 1, 4, none⟩ = some (.int .i64 0) := (hc10 4 (by simp)).1
      have k5 : w10.cell? ⟨w.heap.size + 1, 5, none⟩ = some (.int .i64 0) := (hc10 5 (by simp)).1
      have k6 : w10.cell? ⟨w.heap.size + 1, 6, none⟩ = some (.int .i64 0) := (hc10 6 (by simp)).1
      have k7 : w10.cell? ⟨w.heap.size + 1, 7, none⟩ = some (.int .i64 0) := (hc10 7 (by simp)).1
      have k8 : w10.cell? ⟨w.heap.size + 1, 8, none⟩ = some (.slice none 0 0) := (hc10 8 (by simp)).1
      have k9 : w10.cell? ⟨w.heap.size + 1, 9, none⟩ = some (.string ⟨#[]⟩) := (hc10 9 (by simp)).1
      have k10 : w10.cell? ⟨w.heap.size + 1, 10, none⟩ = some (.int .i64 (r4 : Nat)) := (hc10 10 (by simp)).1
      have HF := HS.out.fin (d := (⟨(1 + (r1 : Int)), (1 + (r2 : Int)), true, 0, 0, 0, 0, 0, [], ⟨#[]⟩, (r4 : Nat)⟩ : WD)) hg10 ⟨by dsimp only; omega, by dsimp only; omega, by dsimp only; omega, by dsimp only; omega, by dsimp only; omega, by dsimp only; omega, by dsimp only; omega, by dsimp only; omega, by simp, by simp, by dsimp only; first | omega | decide⟩ (P := bndS) ⟨by dsimp only; omega, by simp, by dsimp only; first | omega | decide⟩
      exact bodyPost_ret (v := .agg #[.int .i64 (1 + (r1 : Int)), .int .i64 (1 + (r2 : Int)), .bool true, .int .i64 0, .int .i64 0, .int .i64 0, .int .i64 0, .int .i64 0, .slice none 0 0, .string ⟨#[]⟩, .int .i64 (r4 : Nat)]) (by simp [results, Tryd.results31, go_sem, k0, k1, k2, k3, k4, k5, k6, k7, k8, k9, k10]) rfl ⟨HF.1, HF.2.1.mono (by omega), HF.2.2⟩
    · have h50' : ¬ (r5 : Int) = 0 := by omega
      have h50b : (((r5 : Nat) : Int) == 0) = false := by simp; omega
      have z3 : w7.cell? ⟨Q, 3, none⟩ = some (.int .i64 0) := (S3.E 3 (by simp)).1
      have f3 : w7.frozen? ⟨Q, 3, none⟩ = false := (S3.E 3 (by simp)).2
      have S4 := S3.store (j := 3) (by simp) (.int .i64 (r5 : Nat))
      simp only [List.set_cons_zero, List.set_cons_succ] at S4
      clear S3
      obtain ⟨w8, hw8⟩ : ∃ V, V = w7.setCell ⟨Q, 3, none⟩ (.int .i64 (r5 : Nat)) := ⟨_, rfl⟩
      rw [← hw8] at S4
      have Hw8 := hid hw8
      clear hw8
      go_upto_region 9 with fail
      rw [← Hw8.out]
      clear Hw8 z3 f3
      have SA := S4.alloc (.cells #[.int .i64 1, .int .i64 2, .int .i64 5, .int .i64 1000001] 3)
      have cA := CF.made w8 #[.int .i64 1, .int .i64 2, .int .i64 5, .int .i64 1000001] 3
      obtain ⟨WA, hWA⟩ : ∃ V, V = w8.alloc (.cells #[.int .i64 1, .int .i64 2, .int .i64 5, .int .i64 1000001] 3) := ⟨_, rfl⟩
      have zA : w8.heap.size < WA.heap.size := by rw [hWA]; simp
      have hgA : g < w8.heap.size := S4.rd.lt
      have hQA : Q < w8.heap.size := S4.ord.2.2
      rw [← hWA] at SA cA
      have HWA := hid hWA
      clear hWA S4
      go_wp2_with fail
      rw [← HWA.out]
      clear HWA
      refine (pick_any g 4 (k + 5) _ SA.rd (by omega) (by omega) (by omega)).mono ?_
      rintro e w9 ⟨⟨r9, hr9, rfl⟩, hrd9, hg9⟩
      have S5 := SA.call hrd9 hg9
      have c9 := cA.block (hg9.block _ zA (by simp; omega))
      obtain ⟨xx, hxx, hxc⟩ : ∃ xx : Int, (0 ≤ xx ∧ xx ≤ 1000001) ∧ w9.cell? ⟨w8.heap.size, r9, none⟩ = some (.int .i64 xx) := by
        rcases (show r9 = 0 ∨ r9 = 1 ∨ r9 = 2 ∨ r9 = 3 by omega) with rfl | rfl | rfl | rfl
        · exact ⟨1, by omega, (c9 0 (by simp)).1⟩
        · exact ⟨2, by omega, (c9 1 (by simp)).1⟩
        · exact ⟨5, by omega, (c9 2 (by simp)).1⟩
        · exact ⟨1000001, by omega, (c9 3 (by simp)).1⟩
      have hr9' : (r9 : Int) < 4 := by omega
      clear hrd9 hg9 SA cA c9 zA
      have z4 : w9.cell? ⟨Q, 4, none⟩ = some (.int .i64 0) := (S5.E 4 (by simp)).1
      have f4 : w9.frozen? ⟨Q, 4, none⟩ = false := (S5.E 4 (by simp)).2
      have S6 := S5.store (j := 4) (by simp) (.int .i64 xx)
      simp only [List.set_cons_zero, List.set_cons_succ] at S6
      clear S5
      obtain ⟨wA, hwA⟩ : ∃ V, V = w9.setCell ⟨Q, 4, none⟩ (.int .i64 xx) := ⟨_, rfl⟩
      rw [← hwA] at S6
      have HwA := hid hwA
      clear hwA
      go_upto_region 10 with fail
      rw [← HwA.out]
      clear HwA z4 f4 hxc
      have p0 : wA.cell? ⟨w.heap.size, 0, none⟩ = some (.slice pa pn pc) := (S6.P 0 (by simp)).1
      go_wp2_with fail
      refine (pick_any g pn (k + 6) _ S6.rd (by omega) (by omega) (by omega)).mono ?_
      rintro e wB ⟨⟨r6, hr6, rfl⟩, hrd, hgg⟩
      have S7 := S6.call hrd hgg
      clear hrd hgg S6
      clear p0
      have z5 : wB.cell? ⟨Q, 5, none⟩ = some (.int .i64 0) := (S7.E 5 (by simp)).1
      have f5 : wB.frozen? ⟨Q, 5, none⟩ = false := (S7.E 5 (by simp)).2
      have S8 := S7.store (j := 5) (by simp) (.int .i64 (r6 : Nat))
      simp only [List.set_cons_zero, List.set_cons_succ] at S8
      clear S7
      obtain ⟨wC, hwC⟩ : ∃ V, V = wB.setCell ⟨Q, 5, none⟩ (.int .i64 (r6 : Nat)) := ⟨_, rfl⟩
      rw [← hwC] at S8
      have HwC := hid hwC
      clear hwC
      go_upto_region 11 with fail
      rw [← HwC.out]
      clear HwC z5 f5
      by_cases h52 : r5 = 2
      · subst h52
        go_wp2_with fail
        refine (l1Bytes_any g (k + 7) _ S8.rd (by omega)).mono ?_
        rintro e wD ⟨⟨yy, rfl, hyy⟩, hrdD, hgD⟩
        have S9 := S8.call hrdD hgD
        clear hrdD hgD S8
        have z9 : wD.cell? ⟨Q, 9, none⟩ = some (.string ⟨#[]⟩) := (S9.E 9 (by simp)).1
        have f9 : wD.frozen? ⟨Q, 9, none⟩ = false := (S9.E 9 (by simp)).2
        have S10 := S9.store (j := 9) (by simp) (.string yy)
        simp only [List.set_cons_zero, List.set_cons_succ] at S10
        clear S9
        have y0 : (wD.setCell ⟨Q, 9, none⟩ (.string yy)).cell? ⟨Q, 0, none⟩ = some (.int .i64 (1 + (r1 : Int))) := (S10.E 0 (by simp)).1
        have y1 : (wD.setCell ⟨Q, 9, none⟩ (.string yy)).cell? ⟨Q, 1, none⟩ = some (.int .i64 (1 + (r2 : Int))) := (S10.E 1 (by simp)).1
        have y2 : (wD.setCell ⟨Q, 9, none⟩ (.string yy)).cell? ⟨Q, 2, none⟩ = some (.bool true) := (S10.E 2 (by simp)).1
        have y3 : (wD.setCell ⟨Q, 9, none⟩ (.string yy)).cell? ⟨Q, 3, none⟩ = some (.int .i64 ((2 : Nat) : Int)) := (S10.E 3 (by simp)).1
        have y4 : (wD.setCell ⟨Q, 9, none⟩ (.string yy)).cell? ⟨Q, 4, none⟩ = some (.int .i64 xx) := (S10.E 4 (by simp)).1
        have y5 : (wD.setCell ⟨Q, 9, none⟩ (.string yy)).cell? ⟨Q, 5, none⟩ = some (.int .i64 (r6 : Nat)) := (S10.E 5 (by simp)).1
        have y6 : (wD.setCell ⟨Q, 9, none⟩ (.string yy)).cell? ⟨Q, 6, none⟩ = some (.int .i64 0) := (S10.E 6 (by simp)).1
        have y7 : (wD.setCell ⟨Q, 9, none⟩ (.string yy)).cell? ⟨Q, 7, none⟩ = some (.int .i64 0) := (S10.E 7 (by simp)).1
        have y8 : (wD.setCell ⟨Q, 9, none⟩ (.string yy)).cell? ⟨Q, 8, none⟩ = some (.slice none 0 0) := (S10.E 8 (by simp)).1
        have y9 : (wD.setCell ⟨Q, 9, none⟩ (.string yy)).cell? ⟨Q, 9, none⟩ = some (.string yy) := (S10.E 9 (by simp)).1
        have y10 : (wD.setCell ⟨Q, 9, none⟩ (.string yy)).cell? ⟨Q, 10, none⟩ = some (.int .i64 (r4 : Nat)) := (S10.E 10 (by simp)).1
        have hA := S10.A
        have HS := hid S10
        clear S10
        obtain ⟨WF, hWF⟩ : ∃ V, V = (wD.setCell ⟨Q, 9, none⟩ (.string yy)) := ⟨_, rfl⟩
        rw [← hWF] at y0 y1 y2 y3 y4 y5 y6 y7 y8 y9 y10 hA HS
        have HWF := hid hWF
        clear hWF
        go_upto_region 13 with fail
        rw [← HWF.out]
        clear HWF
        go_wp2_with (refine wpList_store_cf rfl 25 (.tmp 4) (.tmp 49) rfl (w.heap.size + 1) [.int .i64 0, .int .i64 0, .bool false, .int .i64 0, .int .i64 0, .int .i64 0, .int .i64 0, .int .i64 0, .slice none 0 0, .string ⟨#[]⟩, .int .i64 0] [.int .i64 (1 + (r1 : Int)), .int .i64 (1 + (r2 : Int)), .bool true, .int .i64 ((2 : Nat) : Int), .int .i64 xx, .int .i64 (r6 : Nat), .int .i64 0, .int .i64 0, .slice none 0 0, .string yy, .int .i64 (r4 : Nat)] rfl rfl hA rfl Tryd.sizeWk (oneWk _ _ _ _ _ _ _ _ _ _ _ _ _) ?_; intro w10 hc10 hg10)
        have k0 : w10.cell? ⟨w.heap.size + 1, 0, none⟩ = some (.int .i64 (1 + (r1 : Int))) := (hc10 0 (by simp)).1
        have k1 : w10.cell? ⟨w.heap.size + 1, 1, none⟩ = some (.int .i64 (1 + (r2 : Int))) := (hc10 1 (by simp)).1
        have k2 : w10.cell? ⟨w.heap.size + 1, 2, none⟩ = some (.bool true) := (hc10 2 (by simp)).1
        have k3 : w10.cell? ⟨w.heap.size + 1, 3, none⟩ = some (.int .i64 ((2 : Nat) : Int)) := (hc10 3 (by simp)).1
        have k4 : w10.cell? ⟨w.heap.size + 1, 4, none⟩ = some (.int .i64 xx) := (hc10 4 (by simp)).1
        have k5 : w10.cell? ⟨w.heap.size + 1, 5, none⟩ = some (.int .i64 (r6 : Nat)) := (hc10 5 (by simp)).1
        have k6 : w10.cell? ⟨w.heap.size + 1, 6, none⟩ = some (.int .i64 0) := (hc10 6 (by simp)).1
        have k7 : w10.cell? ⟨w.heap.size + 1, 7, none⟩ = some (.int .i64 0) := (hc10 7 (by simp)).1
        have k8 : w10.cell? ⟨w.heap.size + 1, 8, none⟩ = some (.slice none 0 0) := (hc10 8 (by simp)).1
        have k9 : w10.cell? ⟨w.heap.size + 1, 9, none⟩ = some (.string yy) := (hc10 9 (by simp)).1
        have k10 : w10.cell? ⟨w.heap.size + 1, 10, none⟩ = some (.int .i64 (r4 : Nat)) := (hc10 10 (by simp)).1
        have HF := HS.out.fin (d := (⟨(1 + (r1 : Int)), (1 + (r2 : Int)), true, ((2 : Nat) : Int), xx, (r6 : Nat), 0, 0, [], yy, (r4 : Nat)⟩ : WD)) hg10 ⟨by dsimp only; omega, by dsimp only; omega, by dsimp only; omega, by dsimp only; omega, by dsimp only; omega, by dsimp only; omega, by dsimp only; omega, by dsimp only; omega, by simp, by simp, by dsimp only; first | omega | decide⟩ (P := bndS) ⟨by dsimp only; omega, by simp, by dsimp only; first | omega | decide⟩
        exact bodyPost_ret (v := .agg #[.int .i64 (1 + (r1 : Int)), .int .i64 (1 + (r2 : Int)), .bool true, .int .i64 ((2 : Nat) : Int), .int .i64 xx, .int .i64 (r6 : Nat), .int .i64 0, .int .i64 0, .slice none 0 0, .string yy, .int .i64 (r4 : Nat)]) (by simp [results, Tryd.results31, go_sem, k0, k1, k2, k3, k4, k5, k6, k7, k8, k9, k10]) rfl ⟨HF.1, HF.2.1.mono (by omega), HF.2.2⟩
      · have h52' : ¬ (r5 : Int) = 2 := by omega
        have h52b : (((r5 : Nat) : Int) == 2) = false := by simp; omega
        go_wp2_with fail
        refine (pick_any g 6 (k + 7) _ S8.rd (by omega) (by omega) (by omega)).mono ?_
        rintro e wD ⟨⟨r7, hr7, rfl⟩, hrd, hgg⟩
        have S9 := S8.call hrd hgg
        clear hrd hgg S8
        have z6 : wD.cell? ⟨Q, 6, none⟩ = some (.int .i64 0) := (S9.E 6 (by simp)).1
        have f6 : wD.frozen? ⟨Q, 6, none⟩ = false := (S9.E 6 (by simp)).2
        have S10 := S9.store (j := 6) (by simp) (.int .i64 (1 + (r7 : Int)))
        simp only [List.set_cons_zero, List.set_cons_succ] at S10
        clear S9
        obtain ⟨wE, hwE⟩ : ∃ V, V = wD.setCell ⟨Q, 6, none⟩ (.int .i64 (1 + (r7 : Int))) := ⟨_, rfl⟩
        rw [← hwE] at S10
        have HwE := hid hwE
        clear hwE
        go_upto_region 15 with fail
        rw [← HwE.out]
        clear HwE z6 f6
        have c6 : wE.cell? ⟨Q, 6, none⟩ = some (.int .i64 (1 + (r7 : Int))) := (S10.E 6 (by simp)).1
        go_wp2_with fail
        rw [show (1 + (r7 : Int)) = ((1 + r7 : Nat) : Int) by omega]
        refine (pick_any g (1 + r7) (k + 8) _ S10.rd (by omega) (by omega) (by omega)).mono ?_
        rintro e wF ⟨⟨r8, hr8, rfl⟩, hrd, hgg⟩
        have S11 := S10.call hrd hgg
        clear hrd hgg S10 c6
        have z7 : wF.cell? ⟨Q, 7, none⟩ = some (.int .i64 0) := (S11.E 7 (by simp)).1
        have f7 : wF.frozen? ⟨Q, 7, none⟩ = false := (S11.E 7 (by simp)).2
        have S12 := S11.store (j := 7) (by simp) (.int .i64 (1 + (r8 : Int)))
        simp only [List.set_cons_zero, List.set_cons_succ] at S12
        clear S11
        obtain ⟨wG, hwG⟩ : ∃ V, V = wF.setCell ⟨Q, 7, none⟩ (.int .i64 (1 + (r8 : Int))) := ⟨_, rfl⟩
        rw [← hwG] at S12
        have HwG := hid hwG
        clear hwG
        go_upto_region 16 with fail
        rw [← HwG.out]
        clear HwG z7 f7
        go_wp2_with fail
        refine (pick_any g 3 (k + 9) _ S12.rd (by omega) (by omega) (by omega)).mono ?_
        rintro e wH ⟨⟨rn, hrn, rfl⟩, hrd, hgg⟩
        have S13 := S12.call hrd hgg
        clear hrd hgg S12
        have HS13 := hid S13
        clear S13
        go_wp2
        go_loopw [7] (fun x wr => ∃ j : Nat, j ≤ 2 ∧ x = .int .i64 j ∧ ∃ (va : Option Addr) (vc : Nat) (L : List ByteArray), L.length + j ≤ 2 ∧ WS w g Q (.slice pa pn pc) [.int .i64 (1 + (r1 : Int)), .int .i64 (1 + (r2 : Int)), .bool true, .int .i64 (r5 : Nat), .int .i64 xx, .int .i64 (r6 : Nat), .int .i64 (1 + (r7 : Int)), .int .i64 (1 + (r8 : Int)), .slice va L.length vc, .string ⟨#[]⟩, .int .i64 (r4 : Nat)] (.slice va L.length vc) L (k + 12 - j) wr) (fun x _ => (intOf x).toNat)
        case atStart => exact ⟨rn, by omega, rfl, none, 0, [], by simp; omega, HS13.out.more (by omega)⟩
        case round =>
          clear HS13
          obtain ⟨j, hj, rfl, va, vc, L, hLj, SL⟩ := hrel
          by_cases hj0 : 0 < j
          · have hj0' : (j : Int) > 0 := by omega
            go_upto_region 19 with fail
            refine wp_region_held (S := fun _ => True) (by kernel_rfl) ?_
            change wpAnyH _ _ _ _ _ _ _ _ (World.drew _)
            have s0 := SL.drew
            obtain ⟨x0, hx0⟩ : ∃ U, U = wr.drew := ⟨_, rfl⟩
            rw [← hx0] at s0
            rw [← hx0]
            clear hx0 SL
            refine hTk (i := 0) (d := some 66) (v := .pointer (some ⟨Q, 8, none⟩)) (l' := (bt 8 1)) rfl (fun _ hc => by kernel_rfl) trivial ?_
            refine hTk (i := 2) (d := some 68) (v := .pointer (some ⟨g, 0, none⟩)) (l' := (bt 8 5)) rfl (fun _ hc => run_mvD (.tmp 0) (by kernel_rfl) (by kernel_rfl)) trivial ?_
            refine hTwo (i := 1) (j := 3) (by kernel_rfl) (hVal (i := 1) (d := some 67) (v := .slice va L.length vc) (w' := x0) (l' := (bt 8 7)) rfl (by kernel_rfl) (by kernel_rfl) (by kernel_rfl) (run_ldLs (.tmp 66) (by kernel_rfl) (by kernel_rfl) (s0.E 8 (by simp)).1) trivial ?_) (hCall (i := 3) (d := some 69) (f := 45) (args := #[.pointer (some ⟨g, 0, none⟩)]) (l' := (bt 8 13)) (R := fun v w' => (∃ y : ByteArray, v = .string y ∧ y.size = 8) ∧ RD w' g (k + 12 - j + 1) ∧ x0.grownBy w' (some g)) rfl (by kernel_rfl) (by kernel_rfl) (by kernel_rfl) (run_cl1 _ _ rfl (by kernel_rfl) rfl enter_l1Byt) ((l1Bytes_any g (k + 12 - j) x0 s0.rd (by omega)).mono fun e w' ⟨⟨y, he, hy⟩, h1, h2⟩ => ⟨_, he, ⟨y, rfl, hy⟩, h1, h2⟩) ?_)
            · refine hOne (by kernel_rfl) (hCall (i := 3) (d := some 69) (f := 45) (args := #[.pointer (some ⟨g, 0, none⟩)]) (l' := (bt 8 15)) (R := fun v w' => (∃ y : ByteArray, v = .string y ∧ y.size = 8) ∧ RD w' g (k + 12 - j + 1) ∧ x0.grownBy w' (some g)) rfl (by kernel_rfl) (by kernel_rfl) (by kernel_rfl) (run_cl1 _ _ rfl (by kernel_rfl) rfl enter_l1Byt) ((l1Bytes_any g (k + 12 - j) x0 s0.rd (by omega)).mono fun e w' ⟨⟨y, he, hy⟩, h1, h2⟩ => ⟨_, he, ⟨y, rfl, hy⟩, h1, h2⟩) ?_)
              rintro _ xw1 ⟨⟨yy, rfl, hyy⟩, hrd, hgg⟩
              have s2 := s0.call hrd hgg
              clear hrd hgg s0
              refine ⟨trivial, ?_⟩
              refine hOne (by kernel_rfl) (hVal (i := 4) (d := some 70) (v := .slice (some ⟨xw1.heap.size, 0, none⟩) 1 1) (w' := xw1.alloc (.cells #[.string yy] 9)) (l' := (bt 8 31)) rfl (by kernel_rfl) (by kernel_rfl) (by kernel_rfl) (run_bsL1 (.tmp 69) yy (by kernel_rfl) (by kernel_rfl)) trivial ?_)
              have s4 := s2.alloc (.cells #[.string yy] 9)
              have src1 : Src Tryd.prog 1 23 (.slice (some ⟨xw1.heap.size, 0, none⟩) 1 1) 1 [.string yy] (xw1.alloc (.cells #[.string yy] 9)) :=
                Own.src (B := 0) (.inr ⟨_, 0, 1, rfl, OwnC.made xw1 0 9 1 1 1 _ 1 (by omega) (Nat.le_refl _) (by unfold maxLen; omega) rfl (Nat.le_refl _) _ rfl _ (.inl rfl)⟩) Tryd.underlying23 (by simp; rfl)
              obtain ⟨qs, hqs⟩ : ∃ q, q = xw1.heap.size := ⟨_, rfl⟩
              rw [← hqs] at src1
              rw [← hqs]
              obtain ⟨xw3, hxw3⟩ : ∃ V, V = xw1.alloc (.cells #[.string yy] 9) := ⟨_, rfl⟩
              rw [← hxw3] at s4 src1
              rw [← hxw3]
              clear hxw3 hqs s2
              obtain ⟨v', aW, hap, ho', hg', -⟩ := run_append_c (P := Tryd.prog) xw3 (Q + 1) 23 23 23 9 i0 (.string ⟨#[]⟩) 1 16 Tryd.underlying23 hi hz0 hz1 hz2 rfl _ _ _ s4.own _ 1 _ src1 (by unfold maxLen; omega) (by omega) (by have := s4.ord; omega)
              obtain ⟨a9, c9, rfl⟩ := ho'.slc
              have sE := s4.app (x := yy) (by omega) ho' hg'
              have sF := sE.store (j := 8) (by simp) (.slice a9 (L.length + 1) c9)
              simp only [List.set_cons_zero, List.set_cons_succ] at sF
              have hc8 : aW.cell? ⟨Q, 8, none⟩ = some (.slice va L.length vc) := (sE.E 8 (by simp)).1
              have hf8 : aW.frozen? ⟨Q, 8, none⟩ = false := (sE.E 8 (by simp)).2
              refine hOne (by kernel_rfl) (hVal (i := 5) (d := some 71) (v := .slice a9 (L.length + 1) c9) (w' := aW) (l' := (bt 8 63)) rfl (by kernel_rfl) (by kernel_rfl) (by kernel_rfl) (run_appT (.tmp 67) (.tmp 70) 23 23 23 (by kernel_rfl) (by kernel_rfl) (by kernel_rfl) (by kernel_rfl) hap) trivial ?_)
              clear hap s4 src1 sE ho' hg'
              refine hTk (i := 6) (d := some 72) (v := .pointer (some ⟨Q, 8, none⟩)) (l' := (bt 8 127)) rfl (fun _ hc => by kernel_rfl) trivial ?_
              refine hOne (by kernel_rfl) (hSkip (i := 7) (w' := aW.setCell ⟨Q, 8, none⟩ (.slice a9 (L.length + 1) c9)) (l' := (bt 8 255)) rfl (by kernel_rfl) (by kernel_rfl) (by kernel_rfl) (run_stLs (.tmp 72) (.tmp 71) a9 (L.length + 1) c9 (by kernel_rfl) (by kernel_rfl) (by kernel_rfl) hc8 hf8) trivial ?_)
              obtain ⟨xw5, hxw5⟩ : ∃ V, V = aW.setCell ⟨Q, 8, none⟩ (.slice a9 (L.length + 1) c9) := ⟨_, rfl⟩
              rw [← hxw5] at sF
              rw [← hxw5]
              clear hxw5 hc8 hf8
              refine wpAnyH_done (by kernel_rfl) ?_ _
              have HSF := hid sF
              clear sF
              go_wp2
              go_roundw
              case rel => exact ⟨j - 1, by omega, by go_num, a9, c9, L ++ [yy], by rw [List.length_append, List.length_singleton]; omega, by rw [List.length_append, List.length_singleton]; exact HSF.out.more (by omega)⟩
              case measure => simp [intOf]; omega
            · rintro _ xw6 ⟨⟨yy, rfl, hyy⟩, hrd, hgg⟩
              have s7 := s0.call hrd hgg
              clear hrd hgg s0
              refine ⟨trivial, ?_⟩
              refine hTwo (i := 1) (j := 4) (by kernel_rfl) (hVal (i := 1) (d := some 67) (v := .slice va L.length vc) (w' := xw6) (l' := (bt 8 15)) rfl (by kernel_rfl) (by kernel_rfl) (by kernel_rfl) (run_ldLs (.tmp 66) (by kernel_rfl) (by kernel_rfl) (s7.E 8 (by simp)).1) trivial ?_) (hVal (i := 4) (d := some 70) (v := .slice (some ⟨xw6.heap.size, 0, none⟩) 1 1) (w' := xw6.alloc (.cells #[.string yy] 9)) (l' := (bt 8 29)) rfl (by kernel_rfl) (by kernel_rfl) (by kernel_rfl) (run_bsL1 (.tmp 69) yy (by kernel_rfl) (by kernel_rfl)) trivial ?_)
              · refine hOne (by kernel_rfl) (hVal (i := 4) (d := some 70) (v := .slice (some ⟨xw6.heap.size, 0, none⟩) 1 1) (w' := xw6.alloc (.cells #[.string yy] 9)) (l' := (bt 8 31)) rfl (by kernel_rfl) (by kernel_rfl) (by kernel_rfl) (run_bsL1 (.tmp 69) yy (by kernel_rfl) (by kernel_rfl)) trivial ?_)
                have s9 := s7.alloc (.cells #[.string yy] 9)
                have src1 : Src Tryd.prog 1 23 (.slice (some ⟨xw6.heap.size, 0, none⟩) 1 1) 1 [.string yy] (xw6.alloc (.cells #[.string yy] 9)) :=
                  Own.src (B := 0) (.inr ⟨_, 0, 1, rfl, OwnC.made xw6 0 9 1 1 1 _ 1 (by omega) (Nat.le_refl _) (by unfold maxLen; omega) rfl (Nat.le_refl _) _ rfl _ (.inl rfl)⟩) Tryd.underlying23 (by simp; rfl)
                obtain ⟨qs, hqs⟩ : ∃ q, q = xw6.heap.size := ⟨_, rfl⟩
                rw [← hqs] at src1
                rw [← hqs]
                obtain ⟨xw8, hxw8⟩ : ∃ V, V = xw6.alloc (.cells #[.string yy] 9) := ⟨_, rfl⟩
                rw [← hxw8] at s9 src1
                rw [← hxw8]
                clear hxw8 hqs s7
                obtain ⟨v', aW, hap, ho', hg', -⟩ := run_append_c (P := Tryd.prog) xw8 (Q + 1) 23 23 23 9 i0 (.string ⟨#[]⟩) 1 16 Tryd.underlying23 hi hz0 hz1 hz2 rfl _ _ _ s9.own _ 1 _ src1 (by unfold maxLen; omega) (by omega) (by have := s9.ord; omega)
                obtain ⟨a9, c9, rfl⟩ := ho'.slc
                have sE := s9.app (x := yy) (by omega) ho' hg'
                have sF := sE.store (j := 8) (by simp) (.slice a9 (L.length + 1) c9)
                simp only [List.set_cons_zero, List.set_cons_succ] at sF
                have hc8 : aW.cell? ⟨Q, 8, none⟩ = some (.slice va L.length vc) := (sE.E 8 (by simp)).1
                have hf8 : aW.frozen? ⟨Q, 8, none⟩ = false := (sE.E 8 (by simp)).2
                refine hOne (by kernel_rfl) (hVal (i := 5) (d := some 71) (v := .slice a9 (L.length + 1) c9) (w' := aW) (l' := (bt 8 63)) rfl (by kernel_rfl) (by kernel_rfl) (by kernel_rfl) (run_appT (.tmp 67) (.tmp 70) 23 23 23 (by kernel_rfl) (by kernel_rfl) (by kernel_rfl) (by kernel_rfl) hap) trivial ?_)
                clear hap s9 src1 sE ho' hg'
                refine hTk (i := 6) (d := some 72) (v := .pointer (some ⟨Q, 8, none⟩)) (l' := (bt 8 127)) rfl (fun _ hc => by kernel_rfl) trivial ?_
                refine hOne (by kernel_rfl) (hSkip (i := 7) (w' := aW.setCell ⟨Q, 8, none⟩ (.slice a9 (L.length + 1) c9)) (l' := (bt 8 255)) rfl (by kernel_rfl) (by kernel_rfl) (by kernel_rfl) (run_stLs (.tmp 72) (.tmp 71) a9 (L.length + 1) c9 (by kernel_rfl) (by kernel_rfl) (by kernel_rfl) hc8 hf8) trivial ?_)
                obtain ⟨xw10, hxw10⟩ : ∃ V, V = aW.setCell ⟨Q, 8, none⟩ (.slice a9 (L.length + 1) c9) := ⟨_, rfl⟩
                rw [← hxw10] at sF
                rw [← hxw10]
                clear hxw10 hc8 hf8
                refine wpAnyH_done (by kernel_rfl) ?_ _
                have HSF := hid sF
                clear sF
                go_wp2
                go_roundw
                case rel => exact ⟨j - 1, by omega, by go_num, a9, c9, L ++ [yy], by rw [List.length_append, List.length_singleton]; omega, by rw [List.length_append, List.length_singleton]; exact HSF.out.more (by omega)⟩
                case measure => simp [intOf]; omega
              · have s12 := s7.alloc (.cells #[.string yy] 9)
                have src1 : Src Tryd.prog 1 23 (.slice (some ⟨xw6.heap.size, 0, none⟩) 1 1) 1 [.string yy] (xw6.alloc (.cells #[.string yy] 9)) :=
                  Own.src (B := 0) (.inr ⟨_, 0, 1, rfl, OwnC.made xw6 0 9 1 1 1 _ 1 (by omega) (Nat.le_refl _) (by unfold maxLen; omega) rfl (Nat.le_refl _) _ rfl _ (.inl rfl)⟩) Tryd.underlying23 (by simp; rfl)
                obtain ⟨qs, hqs⟩ : ∃ q, q = xw6.heap.size := ⟨_, rfl⟩
                rw [← hqs] at src1
                rw [← hqs]
                obtain ⟨xw11, hxw11⟩ : ∃ V, V = xw6.alloc (.cells #[.string yy] 9) := ⟨_, rfl⟩
                rw [← hxw11] at s12 src1
                rw [← hxw11]
                clear hxw11 hqs s7
                refine hOne (by kernel_rfl) (hVal (i := 1) (d := some 67) (v := .slice va L.length vc) (w' := xw11) (l' := (bt 8 31)) rfl (by kernel_rfl) (by kernel_rfl) (by kernel_rfl) (run_ldLs (.tmp 66) (by kernel_rfl) (by kernel_rfl) (s12.E 8 (by simp)).1) trivial ?_)
                obtain ⟨v', aW, hap, ho', hg', -⟩ := run_append_c (P := Tryd.prog) xw11 (Q + 1) 23 23 23 9 i0 (.string ⟨#[]⟩) 1 16 Tryd.underlying23 hi hz0 hz1 hz2 rfl _ _ _ s12.own _ 1 _ src1 (by unfold maxLen; omega) (by omega) (by have := s12.ord; omega)
                obtain ⟨a9, c9, rfl⟩ := ho'.slc
                have sE := s12.app (x := yy) (by omega) ho' hg'
                have sF := sE.store (j := 8) (by simp) (.slice a9 (L.length + 1) c9)
                simp only [List.set_cons_zero, List.set_cons_succ] at sF
                have hc8 : aW.cell? ⟨Q, 8, none⟩ = some (.slice va L.length vc) := (sE.E 8 (by simp)).1
                have hf8 : aW.frozen? ⟨Q, 8, none⟩ = false := (sE.E 8 (by simp)).2
                refine hOne (by kernel_rfl) (hVal (i := 5) (d := some 71) (v := .slice a9 (L.length + 1) c9) (w' := aW) (l' := (bt 8 63)) rfl (by kernel_rfl) (by kernel_rfl) (by kernel_rfl) (run_appT (.tmp 67) (.tmp 70) 23 23 23 (by kernel_rfl) (by kernel_rfl) (by kernel_rfl) (by kernel_rfl) hap) trivial ?_)
                clear hap s12 src1 sE ho' hg'
                refine hTk (i := 6) (d := some 72) (v := .pointer (some ⟨Q, 8, none⟩)) (l' := (bt 8 127)) rfl (fun _ hc => by kernel_rfl) trivial ?_
                refine hOne (by kernel_rfl) (hSkip (i := 7) (w' := aW.setCell ⟨Q, 8, none⟩ (.slice a9 (L.length + 1) c9)) (l' := (bt 8 255)) rfl (by kernel_rfl) (by kernel_rfl) (by kernel_rfl) (run_stLs (.tmp 72) (.tmp 71) a9 (L.length + 1) c9 (by kernel_rfl) (by kernel_rfl) (by kernel_rfl) hc8 hf8) trivial ?_)
                obtain ⟨xw13, hxw13⟩ : ∃ V, V = aW.setCell ⟨Q, 8, none⟩ (.slice a9 (L.length + 1) c9) := ⟨_, rfl⟩
                rw [← hxw13] at sF
                rw [← hxw13]
                clear hxw13 hc8 hf8
                refine wpAnyH_done (by kernel_rfl) ?_ _
                have HSF := hid sF
                clear sF
                go_wp2
                go_roundw
                case rel => exact ⟨j - 1, by omega, by go_num, a9, c9, L ++ [yy], by rw [List.length_append, List.length_singleton]; omega, by rw [List.length_append, List.length_singleton]; exact HSF.out.more (by omega)⟩
                case measure => simp [intOf]; omega
          · have hj0' : ¬ (j : Int) > 0 := by omega
            have y0 : wr.cell? ⟨Q, 0, none⟩ = some (.int .i64 (1 + (r1 : Int))) := (SL.E 0 (by simp)).1
            have y1 : wr.cell? ⟨Q, 1, none⟩ = some (.int .i64 (1 + (r2 : Int))) := (SL.E 1 (by simp)).1
            have y2 : wr.cell? ⟨Q, 2, none⟩ = some (.bool true) := (SL.E 2 (by simp)).1
            have y3 : wr.cell? ⟨Q, 3, none⟩ = some (.int .i64 (r5 : Nat)) := (SL.E 3 (by simp)).1
            have y4 : wr.cell? ⟨Q, 4, none⟩ = some (.int .i64 xx) := (SL.E 4 (by simp)).1
            have y5 : wr.cell? ⟨Q, 5, none⟩ = some (.int .i64 (r6 : Nat)) := (SL.E 5 (by simp)).1
            have y6 : wr.cell? ⟨Q, 6, none⟩ = some (.int .i64 (1 + (r7 : Int))) := (SL.E 6 (by simp)).1
            have y7 : wr.cell? ⟨Q, 7, none⟩ = some (.int .i64 (1 + (r8 : Int))) := (SL.E 7 (by simp)).1
            have y8 : wr.cell? ⟨Q, 8, none⟩ = some (.slice va L.length vc) := (SL.E 8 (by simp)).1
            have y9 : wr.cell? ⟨Q, 9, none⟩ = some (.string ⟨#[]⟩) := (SL.E 9 (by simp)).1
            have y10 : wr.cell? ⟨Q, 10, none⟩ = some (.int .i64 (r4 : Nat)) := (SL.E 10 (by simp)).1
            have hA := SL.A
            have HS := hid SL
            clear SL
            go_wp2_with (refine wpList_store_cf rfl 25 (.tmp 4) (.tmp 73) rfl (w.heap.size + 1) [.int .i64 0, .int .i64 0, .bool false, .int .i64 0, .int .i64 0, .int .i64 0, .int .i64 0, .int .i64 0, .slice none 0 0, .string ⟨#[]⟩, .int .i64 0] [.int .i64 (1 + (r1 : Int)), .int .i64 (1 + (r2 : Int)), .bool true, .int .i64 (r5 : Nat), .int .i64 xx, .int .i64 (r6 : Nat), .int .i64 (1 + (r7 : Int)), .int .i64 (1 + (r8 : Int)), .slice va L.length vc, .string ⟨#[]⟩, .int .i64 (r4 : Nat)] rfl rfl hA rfl Tryd.sizeWk (oneWk _ _ _ _ _ _ _ _ _ _ _ _ _) ?_; intro w10 hc10 hg10)
            have k0 : w10.cell? ⟨w.heap.size + 1, 0, none⟩ = some (.int .i64 (1 + (r1 : Int))) := (hc10 0 (by simp)).1
            have k1 : w10.cell? ⟨w.heap.size + 1, 1, none⟩ = some (.int .i64 (1 + (r2 : Int))) := (hc10 1 (by simp)).1
            have k2 : w10.cell? ⟨w.heap.size + 1, 2, none⟩ = some (.bool true) := (hc10 2 (by simp)).1
            have k3 : w10.cell? ⟨w.heap.size + 1, 3, none⟩ = some (.int .i64 (r5 : Nat)) := (hc10 3 (by simp)).1
            have k4 : w10.cell? ⟨w.heap.size + 1, 4, none⟩ = some (.int .i64 xx) := (hc10 4 (by simp)).1
            have k5 : w10.cell? ⟨w.heap.size + 1, 5, none⟩ = some (.int .i64 (r6 : Nat)) := (hc10 5 (by simp)).1
            have k6 : w10.cell? ⟨w.heap.size + 1, 6, none⟩ = some (.int .i64 (1 + (r7 : Int))) := (hc10 6 (by simp)).1
            have k7 : w10.cell? ⟨w.heap.size + 1, 7, none⟩ = some (.int .i64 (1 + (r8 : Int))) := (hc10 7 (by simp)).1
            have k8 : w10.cell? ⟨w.heap.size + 1, 8, none⟩ = some (.slice va L.length vc) := (hc10 8 (by simp)).1
            have k9 : w10.cell? ⟨w.heap.size + 1, 9, none⟩ = some (.string ⟨#[]⟩) := (hc10 9 (by simp)).1
            have k10 : w10.cell? ⟨w.heap.size + 1, 10, none⟩ = some (.int .i64 (r4 : Nat)) := (hc10 10 (by simp)).1
            have HF := HS.out.fin (d := (⟨(1 + (r1 : Int)), (1 + (r2 : Int)), true, (r5 : Nat), xx, (r6 : Nat), (1 + (r7 : Int)), (1 + (r8 : Int)), L, ⟨#[]⟩, (r4 : Nat)⟩ : WD)) hg10 ⟨by dsimp only; omega, by dsimp only; omega, by dsimp only; omega, hxx, by dsimp only; omega, by dsimp only; omega, by dsimp only; omega, by dsimp only; omega, by show L.length ≤ 100; omega, HS.out.sz, by dsimp only; decide⟩ (P := bndS) ⟨by dsimp only; omega, by show L.length ≤ 50; omega, by dsimp only; first | omega | decide⟩
            exact bodyPost_ret (v := .agg #[.int .i64 (1 + (r1 : Int)), .int .i64 (1 + (r2 : Int)), .bool true, .int .i64 (r5 : Nat), .int .i64 xx, .int .i64 (r6 : Nat), .int .i64 (1 + (r7 : Int)), .int .i64 (1 + (r8 : Int)), .slice va L.length vc, .string ⟨#[]⟩, .int .i64 (r4 : Nat)]) (by simp [results, Tryd.results31, go_sem, k0, k1, k2, k3, k4, k5, k6, k7, k8, k9, k10]) rfl ⟨HF.1, HF.2.1.mono (by omega), HF.2.2⟩
end Go.Proofs.YtimpfhfgcmipgaaDoor
