
/-
  spec.DrawReplay.
-/
import Derived.Test.YtdjcfeiaembckaaEhi
import Derived.Test.YtdjcfeiaembckaaDcp
import Derived.Deep.DeepCutAuto
namespace Go.Proofs.Ytdjcfeiaembckaa
open Go.RowKit

set_option maxHeartbeats 1000000 in
theorem pick_0 (g k : Nat) (w : World) (h : RD w g k) (hk : k ≤ 1000000) :
    Calls Try.prog 23 #[.pointer (some ⟨g, 0, none⟩), .int .i64 0] w fun e w' => e = .returned (.int .i64 0) ∧ RD w' g (k + 1) ∧ w.grownBy w' (some g) := by
  obtain ⟨b, o, n, c, p, ad, c0, c1, f1, hby, hn, hp, hbg⟩ := h
  obtain ⟨W, hW⟩ : ∃ W, W = w.setCell ⟨g, 1, none⟩ (.int .i64 ((p : Int) + 1)) := ⟨_, rfl⟩
  have hgW : w.grownBy W (some g) := by rw [hW]; exact gset (World.grownBy.refl _ _) 1 _
  have d0 : W.cell? ⟨g, 0, none⟩ = some (.slice ad n c) := by rw [hW, World.cell?_setCell_other _ _ _ _ (by simp)]; exact c0
  have d1 : W.cell? ⟨g, 1, none⟩ = some (.int .i64 ((p : Int) + 1)) := by rw [hW]; exact World.cell?_setCell_same _ _ _ c1
  have hbW : BytesAt W ad b o n := ⟨hby.1, fun j hj => by
    obtain ⟨v, hv, hc⟩ := hby.2 j hj
    exact ⟨v, hv, by rw [hW, World.cell?_setCell_other _ _ _ _ (by intro e; injection e with e1; have := hbg (by omega); omega)]; exact hc⟩⟩
  have hfin : RD W g (k + 1) := ⟨b, o, n, c, p + 1, ad, d0, by rw [d1]; rfl, by rw [hW, World.frozen?_setCell]; exact f1, hbW, hn, by omega, hbg⟩
  have HF := hid hfin
  have HWW := hid hW
  clear hW hfin hby hbW
  go_enter Try.func23, Try.ntmps23
  go_upto_region 2 with fail
  rw [← HWW.out]
  go_wp2
  go_ret
  exact ⟨rfl, HF.out, hgW⟩
theorem pick_all (g m k : Nat) (w : World) (h : RD w g k) (hk : k ≤ 1000000) (hm : m ≤ 1000000) :
    Calls Try.prog 23 #[.pointer (some ⟨g, 0, none⟩), .int .i64 m] w fun e w' => (∃ r : Nat, (0 < m → r < m) ∧ e = .returned (.int .i64 r)) ∧ RD w' g (k + 1) ∧ w.grownBy w' (some g) := by
  by_cases h0 : m = 0
  · subst h0
    refine (pick_0 g k w h hk).mono ?_
    rintro e w' ⟨rfl, h1, h2⟩
    exact ⟨⟨0, fun h => by omega, rfl⟩, h1, h2⟩
  · refine (pick_any g m k w h hk (by omega) hm).mono ?_
    rintro e w' ⟨⟨r, hr, rfl⟩, h1, h2⟩
    exact ⟨⟨r, fun _ => hr, rfl⟩, h1, h2⟩
/-- Amid DrawReplay: the plan's box Q, the list v in blocks from BL on. -/
structure DR (w : World) (Q g BL : Nat) (pv : Value) (ts : List TaskD) (vs : List Value) (v : Value) (L : List ByteArray) (k : Nat) (wr : World) : Prop where
  A : CF wr w.heap.size [.slice none 0 0]
  P : CF wr Q [pv]
  pl : PlanO wr (g + 1) pv ts vs
  d1 : Dn pv.ownBlock (some Q)
  d2 : ∀ j, j < ts.length → Dn (vs.getD j nilV).ownBlock (some Q)
  hi1 : ∀ q, pv.ownBlock = some q → q < BL
  hi2 : ∀ j, j < ts.length → ∀ q, (vs.getD j nilV).ownBlock = some q → q < BL
  own : Own BL wr 1 v L.length (L.map Value.string)
  sz : ∀ s ∈ L, s.size ≤ 400
  rd : RD wr g k
  B : Below w.heap.size w wr
  ord : w.heap.size < g ∧ g < Q ∧ Q < BL ∧ BL ≤ wr.heap.size
section
variable {w wr w' : World} {Q g BL k k' : Nat} {pv v v' : Value} {ts : List TaskD} {vs : List Value} {L L' : List ByteArray}
/-- Blocks ahead of BL but g stay; the list is told anew. -/
theorem DR.upd (h : DR w Q g BL pv ts vs v L k wr) (hos : w'.os = wr.os) (htp : w'.tape = wr.tape) (hop : w'.output = wr.output) (hz : wr.heap.size ≤ w'.heap.size) (hb : ∀ q, q < BL → q ≠ g → w'.heap[q]? = wr.heap[q]?) (hr : RD w' g k') (ho : Own BL w' 1 v' L'.length (L'.map Value.string)) (hs : ∀ s ∈ L', s.size ≤ 400) : DR w Q g BL pv ts vs v' L' k' w' :=
  have hd := h.ord
  ⟨h.A.block (hb _ (by omega) (by omega)), h.P.block (hb _ (by omega) (by omega)), ⟨h.pl.len, h.pl.row.blkP (fun q hq => hb q (h.hi1 q hq) (by have := h.pl.row.row_lo q hq; omega)), fun j hj => (h.pl.dep j hj).blkP (fun q hq => hb q (h.hi2 j hj q hq) (by have := (h.pl.dep j hj).row_lo q hq; omega)), h.pl.dr, h.pl.dd⟩, h.d1, h.d2, h.hi1, h.hi2, ho, hs, hr, ⟨hos.trans h.B.os, htp.trans h.B.tape, hop.trans h.B.output, Nat.le_trans h.B.size hz, fun q hq => (hb q (by omega) (by omega)).trans (h.B.block q hq)⟩, ⟨hd.1, hd.2.1, hd.2.2.1, Nat.le_trans hd.2.2.2 hz⟩⟩
theorem DR.call (h : DR w Q g BL pv ts vs v L k wr) (hr : RD w' g k') (hg : wr.grownBy w' (some g)) : DR w Q g BL pv ts vs v L k' w' :=
  have hd := h.ord
  h.upd hg.os hg.tape hg.output hg.size (fun q hq hne => hg.block q (by omega) (by simp; omega)) hr (h.own.grown hg (.inr (by intro e; have := h.own.row_lo _ e; omega))) h.sz
theorem DR.below (h : DR w Q g BL pv ts vs v L k wr) (hb : Below wr.heap.size wr w') : DR w Q g BL pv ts vs v L k w' :=
  have hd := h.ord
  h.upd hb.os hb.tape hb.output hb.size (fun q hq _ => hb.block q (by omega)) (h.rd.below hb) (h.own.below hb (Nat.le_refl _)) h.sz
theorem DR.alloc (h : DR w Q g BL pv ts vs v L k wr) (ob : Obj) : DR w Q g BL pv ts vs v L k (wr.alloc ob) := h.below ((Below.refl _ _).alloc (Nat.le_refl _) _)
theorem DR.drew (h : DR w Q g BL pv ts vs v L k wr) : DR w Q g BL pv ts vs v L k wr.drew := h.below (Below.refl _ _).drew
theorem DR.more (h : DR w Q g BL pv ts vs v L k wr) (hk : k ≤ k') : DR w Q g BL pv ts vs v L k' wr := ⟨h.A, h.P, h.pl, h.d1, h.d2, h.hi1, h.hi2, h.own, h.sz, h.rd.mono hk, h.B, h.ord⟩
/-- Only the list's block, or new ones, were written. -/
theorem DR.list (h : DR w Q g BL pv ts vs v L k wr) {row : Option Nat} (hg : wr.grownBy w' row) (hrow : ∀ q, row = some q → BL ≤ q) (ho : Own BL w' 1 v' L'.length (L'.map Value.string)) (hs : ∀ s ∈ L', s.size ≤ 400) : DR w Q g BL pv ts vs v' L' k w' :=
  have hd := h.ord
  h.upd hg.os hg.tape hg.output hg.size (fun q hq _ => hg.block q (by omega) (fun e => by have := hrow q e.symm; omega)) (h.rd.grown hg (fun q hq => by have := hrow q hq; omega)) ho hs
theorem DR.app {x : ByteArray} (h : DR w Q g BL pv ts vs v L k wr) (hx : x.size ≤ 400) (ho : Own BL w' 1 v' (L.length + 1) (L.map Value.string ++ [.string x])) (hg : wr.grownBy w' v.ownBlock) : DR w Q g BL pv ts vs v' (L ++ [x]) k w' :=
  h.list hg (fun q hq => h.own.row_lo q hq) (by rw [List.length_append, List.map_append]; exact ho) (fun s hs => by
    rcases List.mem_append.1 hs with hs | hs
    · exact h.sz s hs
    · rw [List.mem_singleton.1 hs]; exact hx)
theorem DR.src1 (h : DR w Q g BL pv ts vs v L k wr) (x : ByteArray) : Src Try.prog 1 27 (.slice (some ⟨wr.heap.size, 0, none⟩) 1 1) 1 [.string x] (wr.alloc (.cells #[.string x] 9)) :=
  Own.src (B := BL) (.inr ⟨_, 0, 1, rfl, OwnC.made wr BL 9 1 1 1 _ 1 h.ord.2.2.2 (Nat.le_refl _) (by unfold maxLen; omega) rfl (Nat.le_refl _) _ rfl _ (.inl rfl)⟩) Try.underlying27 (by simp; rfl)
theorem DR.cell {va : Option Addr} {vc i : Nat} (h : DR w Q g BL pv ts vs (.slice va L.length vc) L k wr) (hi : i < L.length) : ∃ vb vo x, va = some ⟨vb, vo, none⟩ ∧ BL ≤ vb ∧ x ∈ L ∧ wr.cell? ⟨vb, vo + i, none⟩ = some (.string x) ∧ wr.frozen? ⟨vb, vo + i, none⟩ = false ∧ ∀ y : ByteArray, y.size ≤ 400 → DR w Q g BL pv ts vs (.slice va L.length vc) (L.set i y) k (wr.setCell ⟨vb, vo + i, none⟩ (.string y)) := by
  rcases h.own with ⟨_, h0, _⟩ | ⟨vb, vo, cap, hv, hc⟩
  · omega
  · injection hv with e1 _ e3
    subst e1 e3
    obtain ⟨u, hu, hcell⟩ := hc.cellSome (j := i) (by omega)
    rw [List.getElem?_map, List.getElem?_eq_getElem hi] at hu
    injection hu with hu
    subst hu
    refine ⟨vb, vo, L[i], rfl, hc.lo, List.getElem_mem _, hcell, hc.notFrozen (by omega), fun y hy => ?_⟩
    have gs := gset (World.grownBy.refl wr (some vb)) (vo + i) (.string y)
    refine h.list gs (fun q hq => by injection hq with hq; have := hc.lo; omega) (.inr ⟨vb, vo, vc, by rw [List.length_set], ?_⟩) (fun s hs => ?_)
    · rw [List.length_set, List.map_set]
      exact hc.setCell (j := i) (by omega) (.string y)
    · rcases List.mem_or_eq_of_mem_set hs with hs | rfl
      · exact h.sz s hs
      · exact hy
end
def lenOf : Value → Nat
  | .slice _ n _ => n
  | _ => 0
section
variable {ρ : Operand → Value} {o : Oper} {w : World}
theorem run_asD {v : Value} (x : Operand) (h : o.op = .assign x) (hx : ρ x = v) : (execOp ρ o).run Try.prog w = .ok (.value v) w := by
  unfold execOp; rw [h]; simp [go_sem, hx]
theorem run_bsL0 (h : o.op = .buildSlice 27 0 #[]) : (execOp ρ o).run Try.prog w = .ok (.value (.slice (some ⟨w.heap.size, 0, none⟩) 0 0)) (w.alloc (.cells #[] 9)) := by
  unfold execOp; rw [h]; simp [go_sem]
theorem run_slL (x y : Operand) (b oo n c m : Nat) (h : o.op = .slice 27 x none (some y) none) (hx : ρ x = .slice (some ⟨b, oo, none⟩) n c) (hy : ρ y = .int .i64 (m : Nat)) (hm : m ≤ c) : (execOp ρ o).run Try.prog w = .ok (.value (.slice (some ⟨b, oo, none⟩) m c)) w := by
  have hm' : (m : Int) ≤ (c : Int) := by omega
  unfold execOp; rw [h]; simp [go_sem, hx, hy, hm']
theorem run_slH (x y : Operand) (b oo n c m po : Nat) (z : Int) (h : o.op = .slice 27 x (some y) none none) (hx : ρ x = .slice (some ⟨b, oo, none⟩) n c) (hy : ρ y = .int .i64 z) (hz : z = (m : Nat)) (hm : m ≤ n) (hpo : po = if c = m then oo else oo + m) : (execOp ρ o).run Try.prog w = .ok (.value (.slice (some ⟨b, po, none⟩) (n - m) (c - m))) w := by
  subst hz
  subst hpo
  have hm' : (m : Int) ≤ (n : Int) := by omega
  by_cases e : c = m
  · unfold execOp; rw [h]; simp [go_sem, hx, hy, hm', e]
  · unfold execOp; rw [h]; simp [go_sem, hx, hy, hm', e]
end
/-- All but one of a list, in a list of its own. -/
theorem DR.cut1 {w u : World} {Q g BL k kk vc : Nat} {va : Option Addr} {pv : Value} {ts : List TaskD} {vs : List Value} {L : List ByteArray} {vb vo po : Nat} (h : DR w Q g BL pv ts vs (.slice va L.length vc) L k u) (hk : kk < L.length) (hL : L.length ≤ 1048576) (hva : va = some ⟨vb, vo, none⟩) (hpo : po = if vc = kk + 1 then vo else vo + (kk + 1)) (hvc : L.length ≤ vc) :
    ∃ aa ac u1, (Builtin.append_ #[27, 27] 27 #[.slice (some ⟨u.heap.size, 0, none⟩) 0 0, .slice (some ⟨vb, vo, none⟩) kk vc]).run Try.prog (u.alloc (.cells #[] 9)) = .ok (.slice aa kk ac) u1 ∧
    ∃ ab ae u2, (Builtin.append_ #[27, 27] 27 #[.slice aa kk ac, .slice (some ⟨vb, po, none⟩) (L.length - (kk + 1)) (vc - (kk + 1))]).run Try.prog u1 = .ok (.slice ab (kk + (L.length - (kk + 1))) ae) u2 ∧ DR w Q g BL pv ts vs (.slice ab (kk + (L.length - (kk + 1))) ae) (L.take kk ++ L.drop (kk + 1)) k u2 := by
  obtain ⟨i0, hi, hz0, hz1, hz2⟩ := info_parts Try.info9
  subst hva
  have hord := h.ord
  obtain ⟨hc, _⟩ := h.own.toC
  have ob : Below u.heap.size u (u.alloc (.cells #[] 9)) := (Below.refl _ _).alloc (Nat.le_refl _) _
  have own0 : Own BL (u.alloc (.cells #[] 9)) 1 (.slice (some ⟨u.heap.size, 0, none⟩) 0 0) 0 [] :=
    .inr ⟨_, 0, 0, rfl, OwnC.made u BL 9 1 0 0 #[] 0 hord.2.2.2 (Nat.le_refl _) (Nat.zero_le _) rfl (Nat.le_refl _) [] rfl (0, 0) (.inl rfl)⟩
  have hcA := hc.block (ob.block vb hc.hi)
  have hcell : ∀ (W : World), OwnC BL W 1 vb vo vc L.length (L.map Value.string) → ∀ j, j < L.length → W.cell? ⟨vb, vo + j, none⟩ = some (.string (L.getD j ByteArray.empty)) := fun W hW j hj => by
    rw [hW.holds j (by omega), List.getElem?_map, List.getElem?_eq_getElem hj]
    simp [List.getD, List.getElem?_eq_getElem hj]
  have hone : ∀ (M : List ByteArray), ∀ u ∈ M.map Value.string, u.oneCell' = true := fun M u hu => by obtain ⟨y, _, rfl⟩ := List.mem_map.1 hu; rfl
  have src1 : Src Try.prog 1 27 (.slice (some ⟨vb, vo, none⟩) kk vc) kk ((L.take kk).map Value.string) (u.alloc (.cells #[] 9)) := by
    refine Src.ofSlice _ Try.underlying27 ⟨vb, vo, none⟩ kk vc _ (by simp; omega) (fun j x hx => ?_) (hone _)
    have hj : j < kk := by have := (List.getElem?_eq_some_iff.1 hx).1; simp at this; omega
    rw [Addr.add_lit, hcell _ hcA j (by omega)]
    rw [List.getElem?_map, List.getElem?_take_of_lt hj, List.getElem?_eq_getElem (by omega)] at hx
    simp only [Option.map_some, Option.some.injEq] at hx
    rw [← hx]
    simp [List.getD, List.getElem?_eq_getElem (show j < L.length by omega)]
  obtain ⟨v1, u1, hr1, ho1, hg1, hbk1⟩ := run_append_c (P := Try.prog) (u.alloc (.cells #[] 9)) BL 27 27 27 9 i0 (.string ⟨#[]⟩) 1 16 Try.underlying27 hi hz0 hz1 hz2 rfl _ 0 _ own0 _ kk _ src1 (by have := hc.le; have := hc.max; omega) (by omega) (by have := ob.size; omega)
  rw [Nat.zero_add, List.nil_append] at ho1
  obtain ⟨aa, ac, rfl⟩ := ho1.slc
  have hrow0 : (Value.slice (some ⟨u.heap.size, 0, none⟩) 0 0).ownBlock = some u.heap.size := rfl
  rw [hrow0] at hg1 hbk1
  have zA : (u.alloc (.cells #[] 9)).heap.size = u.heap.size + 1 := by simp
  have hvl := hc.hi
  have hc1 := hcA.block (hg1.block vb (by omega) (by simp; omega))
  have src2 : Src Try.prog 1 27 (.slice (some ⟨vb, po, none⟩) (L.length - (kk + 1)) (vc - (kk + 1))) (L.length - (kk + 1)) ((L.drop (kk + 1)).map Value.string) u1 := by
    refine Src.ofSlice _ Try.underlying27 ⟨vb, po, none⟩ (L.length - (kk + 1)) _ _ (by simp) (fun j x hx => ?_) (hone _)
    have hj : j < L.length - (kk + 1) := by have := (List.getElem?_eq_some_iff.1 hx).1; simp at this; omega
    rw [if_neg (by omega)] at hpo
    rw [Addr.add_lit]
    show u1.cell? ⟨vb, po + j, none⟩ = _
    rw [hpo, show vo + (kk + 1) + j = vo + (kk + 1 + j) by omega, hcell _ hc1 (kk + 1 + j) (by omega)]
    rw [List.getElem?_map, List.getElem?_drop, List.getElem?_eq_getElem (by omega)] at hx
    simp only [Option.map_some, Option.some.injEq] at hx
    rw [← hx]
    simp [List.getD, List.getElem?_eq_getElem (show kk + 1 + j < L.length by omega)]
  have hz1' := hg1.size
  obtain ⟨v2, u2, hr2, ho2, hg2, hbk2⟩ := run_append_c (P := Try.prog) u1 BL 27 27 27 9 i0 (.string ⟨#[]⟩) 1 16 Try.underlying27 hi hz0 hz1 hz2 rfl _ kk _ ho1 _ (L.length - (kk + 1)) _ src2 (by have := hc.le; have := hc.max; omega) (by omega) (by omega)
  obtain ⟨ab, ae, rfl⟩ := ho2.slc
  refine ⟨aa, ac, u1, hr1, ab, ae, u2, hr2, ?_⟩
  have D1 := (h.below ob).list (L' := L.take kk) hg1 (fun q hq => by injection hq with hq; omega) (by rw [List.length_take, Nat.min_eq_left (by omega)]; exact ho1) (fun s hs => h.sz s (List.mem_of_mem_take hs))
  refine D1.list (L' := L.take kk ++ L.drop (kk + 1)) hg2 (fun q hq => ho1.row_lo q hq) ?_ (fun s hs => ?_)
  · rw [List.length_append, List.length_take, List.length_drop, Nat.min_eq_left (by omega), List.map_append]; exact ho2
  · rcases List.mem_append.1 hs with hs | hs
    · exact h.sz s (List.mem_of_mem_take hs)
    · exact h.sz s (List.mem_of_mem_drop hs)
def RetRp (e : Ending) (w' : World) : Prop := ∃ a b o m c ts a1 b1 o1 n1 c1 L, e = .returned (.tuple #[.agg #[.slice a m c], .slice a1 n1 c1]) ∧ TasksAt w' a b o m ts ∧ StrsAt w' a1 b1 o1 n1 L ∧ n1 ≤ 1048576

set_option maxHeartbeats 16000000 in
set_option maxRecDepth 100000 in
theorem drawReplay_any (ad : Option Addr) (b o n cc : Nat) (w : World) (h : BytesAt w ad b o n) (hb : 0 < n → b < w.heap.size) (hcc : n ≤ cc) (hn : n ≤ 1048576) :
    Calls Try.prog 17 #[.slice ad n cc] w fun e' w' => RetRp e' w' ∧ Below w.heap.size w w' := by
  obtain ⟨i0, hi, hz0, hz1, hz2⟩ := info_parts Try.info9
  obtain ⟨W, hW⟩ : ∃ W, W = w.alloc (.cells #[.slice none 0 0] 25) := ⟨_, rfl⟩
  have hBW : Below w.heap.size w W := by rw [hW]; exact (Below.refl _ _).alloc (Nat.le_refl _) _
  have hR : CF W w.heap.size [.slice none 0 0] := by rw [hW]; exact CF.made w #[.slice none 0 0] 25
  have hz : W.heap.size = w.heap.size + 1 := by rw [hW]; simp
  have hWb : BytesAt W ad b o n := ⟨h.1, fun j hj => by
    obtain ⟨v, hv, hc⟩ := h.2 j hj
    exact ⟨v, hv, keepB hBW hc⟩⟩
  have HW := hid hW
  clear hW h
  go_enter Try.func17, Try.ntmps17
  go_wp2_with fail
  rw [← HW.out]
  clear HW
  refine (l1Open_any ad b o n cc _ hWb (fun h0 => by have := hb h0; omega) hcc hn).mono ?_
  rintro e w1 ⟨rfl, hrd1, hb1⟩
  obtain ⟨g, hg⟩ : ∃ g, g = W.heap.size := ⟨_, rfl⟩
  rw [← hg] at hrd1
  rw [← hg]
  have hR1 := hR.block (hb1.block _ (by omega))
  have hB1 := hBW.trans (hb1.mono hBW.size)
  have hgl : w.heap.size < g := by omega
  clear hb1 hBW hR hWb hg hz
  go_wp2_with fail
  refine (l1Draw_any g 0 _ hrd1 (by omega)).mono ?_
  rintro e w2 ⟨⟨pv, ts, vs, rfl, hpl, hsm, hsd, h1, h40⟩, hrd2, hg2⟩
  have hz1' := hrd1.lt
  obtain ⟨pa, pc, rfl⟩ := hpl.row.slc
  have hR2 := hR1.block (hg2.block _ (by omega) (by simp; omega))
  have hB2 := below_grown hB1 hg2 hB1.size (fun q hq => by injection hq with hq; omega)
  have hz2' := hg2.size
  obtain ⟨W2, hW2⟩ : ∃ V, V = w2.alloc (.cells #[.slice pa ts.length pc] 25) := ⟨_, rfl⟩
  have ba : Below w2.heap.size w2 W2 := by rw [hW2]; exact (Below.refl _ _).alloc (Nat.le_refl _) _
  obtain ⟨Q, hQ⟩ : ∃ q, q = w2.heap.size := ⟨_, rfl⟩
  have cP : CF W2 Q [.slice pa ts.length pc] := by rw [hW2, hQ]; exact CF.made w2 #[.slice pa ts.length pc] 25
  have zP : Q + 1 = W2.heap.size := by rw [hW2, hQ]; simp
  have hR3 := hR2.block (ba.block _ (by omega))
  have hB3 := hB2.trans (ba.mono hB2.size)
  have hrd3 := hrd2.below ba
  have hpl3 := (hpl.below ba).mono (show g + 1 ≤ w1.heap.size by omega)
  have hd1 : Dn (Value.slice pa ts.length pc).ownBlock (some Q) := Dn.later (m := Q) (fun q hq => by rw [hQ]; exact hpl.row.row_hi q hq) (fun q hq => by injection hq with hq; omega)
  have hd2 : ∀ j, j < ts.length → Dn (vs.getD j nilV).ownBlock (some Q) := fun j hj => Dn.later (m := Q) (fun q hq => by rw [hQ]; exact (hpl.dep j hj).row_hi q hq) (fun q hq => by injection hq with hq; omega)
  have hi1 : ∀ q, (Value.slice pa ts.length pc).ownBlock = some q → q < Q := fun q hq => by rw [hQ]; exact hpl.row.row_hi q hq
  have hi2 : ∀ j, j < ts.length → ∀ q, (vs.getD j nilV).ownBlock = some q → q < Q := fun j hj q hq => by rw [hQ]; exact (hpl.dep j hj).row_hi q hq
  have hgQ : g < Q := by omega
  have HW2 := hid hW2
  have HQ := hid hQ
  clear hW2 hpl hrd2 hg2 hR2 hR1 hB2 hB1 ba hrd1 hQ hz1' hz2'
  go_upto_region 3 with fail
  rw [← HW2.out, ← HQ.out]
  clear HW2 HQ
  have p3 : W2.cell? ⟨Q, 0, none⟩ = some (.slice pa ts.length pc) := (cP 0 (by simp)).1
  obtain ⟨a', b', o', c', he, hT⟩ := hpl3.tasks hsm.fit (by unfold maxLen; omega)
  cases he
  go_wp2_with fail
  refine (l4History_any g _ pa b' o' ts.length pc ts _ hrd3 (by omega) hT).mono ?_
  rintro e w3 ⟨⟨v, L, rfl, hov, hsz, hLl⟩, hrd4, hg4⟩
  obtain ⟨va, vc, rfl⟩ := hov.slc
  have S3 : DR w Q g (Q + 1) (.slice pa ts.length pc) ts vs (.slice va L.length vc) L 5200 w3 := by
    have hz4 := hg4.size
    refine ⟨hR3.block (hg4.block _ (by omega) (by simp; omega)), cP.block (hg4.block _ (by omega) (by simp; omega)), hpl3.grownNew hg4 (fun x h1 _ => by omega), hd1, hd2, fun q hq => by have := hi1 q hq; omega, fun j hj q hq => by have := hi2 j hj q hq; omega, by rw [zP]; exact hov, fun s hs => by have := hsz s hs; omega, hrd4.mono (by omega), below_grown hB3 hg4 hB3.size (fun q hq => by injection hq with hq; omega), hgl, hgQ, by omega, by omega⟩
  clear p3 hT hov hrd4 hg4 hR3 cP hpl3 hB3 hrd3 zP hd1 hd2 hi1 hi2
  go_wp2_with fail
  refine (pick_all g L.length 5200 _ S3.rd (by omega) (by omega)).mono ?_
  rintro e w4 ⟨⟨kk, hkk, rfl⟩, hrd4, hg4⟩
  have S4 := S3.call hrd4 hg4
  clear hrd4 hg4 S3
  have HSM := hid hsm
  have HSD := hid hsd
  have HSZ := hid hsz
  clear hsm hsd hsz
  go_upto_region 5 with fail
  go_cut [26] (fun cv wx => ∃ bb : Bool, cv = .bool bb ∧ (bb = true → 0 < L.length) ∧ DR w Q g (Q + 1) (.slice pa ts.length pc) ts vs (.slice va L.length vc) L 5202 wx)
  case first =>
    by_cases hl0 : 0 < L.length
    · have hl0' : ((L.length : Int) > 0) := by omega
      have hl0b : decide ((L.length : Int) > 0) = true := decide_eq_true hl0'
      go_wp2_with fail
      refine (pick_any g 3 5201 _ S4.rd (by omega) (by omega) (by omega)).mono ?_
      rintro e w5 ⟨⟨r5, hr5, rfl⟩, hrd5, hg5⟩
      have S5 := S4.call hrd5 hg5
      clear hrd5 hg5 S4
      have HS5 := hid S5
      clear S5
      go_wp2
      go_meet
      case rel => exact ⟨_, rfl, fun _ => hl0, HS5.out⟩
    · have hl0' : ¬ ((L.length : Int) > 0) := by omega
      have hl0b : decide ((L.length : Int) > 0) = false := decide_eq_false hl0'
      have HS5 := hid S4
      clear S4
      go_wp2
      go_meet
      case rel => exact ⟨false, rfl, (fun h => by cases h), HS5.out.more (by omega)⟩
  case rest =>
    obtain ⟨bb, rfl, hbb, S5⟩ := hcut
    obtain ⟨w5, rfl⟩ : ∃ V, V = wc := ⟨_, rfl⟩
    go_upto_if 26 with fail
    go_cut [6] (fun lv wx => ∃ (va' : Option Addr) (vc' : Nat) (L' : List ByteArray), lv = .slice va' L'.length vc' ∧ L'.length ≤ 101 ∧ DR w Q g (Q + 1) (.slice pa ts.length pc) ts vs (.slice va' L'.length vc') L' 5300 wx)
    case first =>
      cases bb with
      | false =>
        have HS5 := hid S5
        clear S5
        go_wp2
        go_meet
        case rel => exact ⟨va, vc, L, rfl, by omega, HS5.out.more (by omega)⟩
      | true =>
        have hl0 := hbb rfl
        have hkl := hkk hl0
        clear hbb
        go_wp2_with fail
        refine (pick_any g 4 5202 _ S5.rd (by omega) (by omega) (by omega)).mono ?_
        rintro e w6 ⟨⟨r6, hr6, rfl⟩, hrd6, hg6⟩
        have S6 := S5.call hrd6 hg6
        clear hrd6 hg6 S5
        have hkl' : (kk : Int) < (L.length : Int) := by omega
        rcases (show r6 = 0 ∨ r6 = 1 ∨ r6 = 2 ∨ r6 = 3 by omega) with rfl | rfl | rfl | rfl
        · obtain ⟨vb, vo, x, rfl, hvb, hxm, hcx, hfx, hput⟩ := S6.cell hkl
          have hx := HSZ.out x hxm
          clear hput hfx hxm
          go_wp2_with fail
          refine (l1Bend_any g 5203 x _ S6.rd (by omega) (by omega)).mono ?_
          rintro e w7 ⟨⟨y, rfl, hy⟩, hrd7, hg7⟩
          have S7 := S6.call hrd7 hg7
          clear hrd7 hg7 S6 hcx
          obtain ⟨vb2, vo2, x2, he2, _, _, hcx, hfx, hput⟩ := S7.cell hkl
          injection he2 with he2
          injection he2 with e1 e2
          subst e1 e2
          have HS8 := hid (hput y (by omega))
          clear hput S7
          go_wp2
          go_meet
          case rel => exact ⟨_, vc, L.set kk y, by rw [List.length_set], by rw [List.length_set]; omega, by rw [List.length_set]; exact HS8.out.more (by omega)⟩
        · go_upto_region 11 with fail
          obtain ⟨vb, vo, x, rfl, hvb, -, -, -, -⟩ := S6.cell hkl
          refine wp_region_held (S := fun _ => True) (by kernel_rfl) ?_
          change wpAnyH _ _ _ _ _ _ _ _ (World.drew _)
          have s0 := S6.drew
          obtain ⟨x0, hx0⟩ : ∃ U, U = w6.drew := ⟨_, rfl⟩
          rw [← hx0] at s0
          rw [← hx0]
          clear hx0 S6
          have hvc : L.length ≤ vc := by
            rcases s0.own with ⟨hv, _, _⟩ | ⟨_, _, cap, hv, hc⟩
            · cases hv
            · injection hv with _ _ e; have := hc.le; omega
          obtain ⟨po, hpo⟩ : ∃ po, po = (if vc = kk + 1 then vo else vo + (kk + 1)) := ⟨_, rfl⟩
          have HPO := hid hpo
          clear hpo
          refine hTake (i := 1) (d := some 49) (v := (.slice (some ⟨vb, vo, none⟩) L.length vc)) (l' := #[false, true, false, false, false, false, false, false, false, false, false]) rfl (by kernel_rfl) (by kernel_rfl) (by kernel_rfl) (by kernel_rfl) (fun _ _ _ h => h) (by kernel_rfl) (fun _ hc => run_mvD (.tmp 6) (by kernel_rfl) (by kernel_rfl)) trivial (by kernel_rfl) ?_
          refine hTake (i := 2) (d := some 50) (v := .int .i64 (kk : Nat)) (l' := #[false, true, true, false, false, false, false, false, false, false, false]) rfl (by kernel_rfl) (by kernel_rfl) (by kernel_rfl) (by kernel_rfl) (fun _ _ _ h => h) (by kernel_rfl) (fun _ hc => run_mvD (.tmp 7) (by kernel_rfl) (by kernel_rfl)) trivial (by kernel_rfl) ?_
          refine hTake (i := 3) (d := some 51) (v := .slice (some ⟨vb, vo, none⟩) kk vc) (l' := #[false, true, true, true, false, false, false, false, false, false, false]) rfl (by kernel_rfl) (by kernel_rfl) (by kernel_rfl) (by kernel_rfl) (fun _ _ _ h => h) (by kernel_rfl) (fun _ hc => run_slL (.tmp 49) (.tmp 50) vb vo L.length vc kk (by kernel_rfl) (by kernel_rfl) (by kernel_rfl) (by omega)) trivial (by kernel_rfl) ?_
          refine hTake (i := 5) (d := some 53) (v := (.slice (some ⟨vb, vo, none⟩) L.length vc)) (l' := #[false, true, true, true, false, true, false, false, false, false, false]) rfl (by kernel_rfl) (by kernel_rfl) (by kernel_rfl) (by kernel_rfl) (fun _ _ _ h => h) (by kernel_rfl) (fun _ hc => run_mvD (.tmp 6) (by kernel_rfl) (by kernel_rfl)) trivial (by kernel_rfl) ?_
          refine hTake (i := 6) (d := some 54) (v := .int .i64 (kk : Nat)) (l' := #[false, true, true, true, false, true, true, false, false, false, false]) rfl (by kernel_rfl) (by kernel_rfl) (by kernel_rfl) (by kernel_rfl) (fun _ _ _ h => h) (by kernel_rfl) (fun _ hc => run_mvD (.tmp 7) (by kernel_rfl) (by kernel_rfl)) trivial (by kernel_rfl) ?_
          refine hTake (i := 7) (d := some 55) (v := .int .i64 ((kk : Int) + 1)) (l' := #[false, true, true, true, false, true, true, true, false, false, false]) rfl (by kernel_rfl) (by kernel_rfl) (by kernel_rfl) (by kernel_rfl) (fun _ _ _ h => h) (by kernel_rfl) (fun _ hc => run_addII (.tmp 54) (.const (.int .i64 1)) (kk : Int) 1 (by kernel_rfl) (by kernel_rfl) (by kernel_rfl) (by omega)) trivial (by kernel_rfl) ?_
          refine hTake (i := 8) (d := some 56) (v := .slice (some ⟨vb, po, none⟩) (L.length - (kk + 1)) (vc - (kk + 1))) (l' := #[false, true, true, true, false, true, true, true, true, false, false]) rfl (by kernel_rfl) (by kernel_rfl) (by kernel_rfl) (by kernel_rfl) (fun _ _ _ h => h) (by kernel_rfl) (fun _ hc => run_slH (.tmp 53) (.tmp 55) vb vo L.length vc (kk + 1) po ((kk : Int) + 1) (by kernel_rfl) (by kernel_rfl) (by kernel_rfl) (by omega) (by omega) HPO.out) trivial (by kernel_rfl) ?_
          refine hOne (by kernel_rfl) (hVal (i := 0) (d := some 48) (v := .slice (some ⟨x0.heap.size, 0, none⟩) 0 0) (w' := x0.alloc (.cells #[] 9)) (l' := #[true, true, true, true, false, true, true, true, true, false, false]) rfl (by kernel_rfl) (by kernel_rfl) (by kernel_rfl) (run_bsL0 (by kernel_rfl)) trivial ?_)
          obtain ⟨aa, ac, u1, hap1, ab, ae, u2, hap2, sE⟩ := s0.cut1 (va := some ⟨vb, vo, none⟩) (vc := vc) (po := po) hkl (by omega) rfl (by rw [HPO.out]) hvc
          clear s0
          refine hOne (by kernel_rfl) (hVal (i := 4) (d := some 52) (v := .slice aa kk ac) (w' := u1) (l' := #[true, true, true, true, true, true, true, true, true, false, false]) rfl (by kernel_rfl) (by kernel_rfl) (by kernel_rfl) (run_appT (.tmp 48) (.tmp 51) 27 27 27 (by kernel_rfl) (by kernel_rfl) (by kernel_rfl) (by kernel_rfl) hap1) trivial ?_)
          refine hOne (by kernel_rfl) (hVal (i := 9) (d := some 57) (v := .slice ab (kk + (L.length - (kk + 1))) ae) (w' := u2) (l' := #[true, true, true, true, true, true, true, true, true, true, false]) rfl (by kernel_rfl) (by kernel_rfl) (by kernel_rfl) (run_appT (.tmp 52) (.tmp 56) 27 27 27 (by kernel_rfl) (by kernel_rfl) (by kernel_rfl) (by kernel_rfl) hap2) trivial ?_)
          refine hOne (by kernel_rfl) (hVal (i := 10) (d := some 6) (v := .slice ab (kk + (L.length - (kk + 1))) ae) (w' := u2) (l' := #[true, true, true, true, true, true, true, true, true, true, true]) rfl (by kernel_rfl) (by kernel_rfl) (by kernel_rfl) (run_asD (.tmp 57) (by kernel_rfl) (by kernel_rfl)) trivial ?_)
          refine wpAnyH_done (by kernel_rfl) ?_ _
          have hlc : (L.take kk ++ L.drop (kk + 1)).length = kk + (L.length - (kk + 1)) := by simp; omega
          have HSE := hid sE
          have HLC := hid hlc
          clear sE hap1 hap2 hlc
          go_wp2
          simp only [Act.put, List.setIfInBounds_toArray, List.set_cons_succ, List.set_cons_zero]
          go_meet
          case rel => exact ⟨ab, ae, L.take kk ++ L.drop (kk + 1), by rw [HLC.out], by rw [HLC.out]; omega, by rw [HLC.out]; exact HSE.out.more (by omega)⟩
        · obtain ⟨vb, vo, x, rfl, hvb, hxm, hcx, -, -⟩ := S6.cell hkl
          have hx := HSZ.out x hxm
          have zc := World.block_lt_of_cell? _ _ hcx
          have SA := S6.alloc (.cells #[.string x] 9)
          have src := S6.src1 x
          obtain ⟨WA1, hWA1⟩ : ∃ V, V = w6.alloc (.cells #[.string x] 9) := ⟨_, rfl⟩
          rw [← hWA1] at SA src
          have HWA1 := hid hWA1
          have zA := SA.ord.2.2.2
          clear hWA1 S6
          go_wp2_with (at_builtin; rw [← HWA1.out]; refine wpList_append_c _ rfl _ _ 27 27 rfl (Q + 1) 9 i0 (.string ⟨#[]⟩) 1 16 Try.underlying27 hi hz0 hz1 hz2 rfl _ L.length _ rfl SA.own _ 1 _ rfl src (by unfold maxLen; omega) (by omega) zA ?_; intro v' w7 ho' hg' hbk'; obtain ⟨aw7, cw7, rfl⟩ := ho'.slc)
          have S7 := SA.app (x := x) (by omega) ho' hg'
          clear SA src HWA1 zA ho' hg' hbk'
          have HS7 := hid S7
          clear S7
          go_wp2
          go_meet
          case rel => exact ⟨aw7, cw7, L ++ [x], by simp, by simp; omega, by rw [List.length_append, List.length_singleton]; exact HS7.out.more (by omega)⟩
        · go_wp2_with fail
          refine (l4Draw_any g 5203 _ S6.rd (by omega)).mono ?_
          rintro e w7 ⟨⟨k7, e7, d7, x7, rfl, -, -, -, -⟩, hrd7, hg7⟩
          have S7 := S6.call hrd7 hg7
          clear hrd7 hg7 S6
          go_wp2_with fail
          refine (specEnt_any k7 e7 d7 x7 _).mono ?_
          rintro e w8 ⟨⟨s8, rfl, hs8⟩, hb8⟩
          have S8 := S7.below hb8
          have hs8' := hs8.tiny
          clear hb8 hs8 S7
          have SA := S8.alloc (.cells #[.string s8] 9)
          have src := S8.src1 s8
          obtain ⟨WA2, hWA2⟩ : ∃ V, V = w8.alloc (.cells #[.string s8] 9) := ⟨_, rfl⟩
          rw [← hWA2] at SA src
          have HWA2 := hid hWA2
          have zA := SA.ord.2.2.2
          clear hWA2 S8
          go_wp2_with (at_builtin; rw [← HWA2.out]; refine wpList_append_c _ rfl _ _ 27 27 rfl (Q + 1) 9 i0 (.string ⟨#[]⟩) 1 16 Try.underlying27 hi hz0 hz1 hz2 rfl _ L.length _ rfl SA.own _ 1 _ rfl src (by unfold maxLen; omega) (by omega) zA ?_; intro v' w9 ho' hg' hbk'; obtain ⟨aw9, cw9, rfl⟩ := ho'.slc)
          have S9 := SA.app (x := s8) (by omega) ho' hg'
          clear SA src HWA2 zA ho' hg' hbk'
          have HS9 := hid S9
          clear S9
          go_wp2
          go_meet
          case rel => exact ⟨aw9, cw9, L ++ [s8], by simp, by simp; omega, by rw [List.length_append, List.length_singleton]; exact HS9.out.more (by omega)⟩
    case rest =>
      clear S5 hbb hkk
      obtain ⟨va, vc, L, rfl, hLl, S⟩ := hcut
      go_wp2_with fail
      refine (pick_any g 40 5300 _ S.rd (by omega) (by omega) (by omega)).mono ?_
      rintro e w6 ⟨⟨r6, hr6, rfl⟩, hrd6, hg6⟩
      have S6 := S.call hrd6 hg6
      clear hrd6 hg6 S
      go_upto_if 69 with fail
      go_cut [6] (fun lv wx => ∃ (va' : Option Addr) (vc' : Nat) (L' : List ByteArray), lv = .slice va' L'.length vc' ∧ L'.length ≤ 400 ∧ DR w Q g (Q + 1) (.slice pa ts.length pc) ts vs (.slice va' L'.length vc') L' 5301 wx)
      case first =>
        by_cases h60 : r6 = 0
        · subst h60
          have HS6 := hid S6
          clear S6
          go_wp2
          go_loopw [6] (fun lv wr => ∃ (va' : Option Addr) (vc' : Nat) (L' : List ByteArray), lv = .slice va' L'.length vc' ∧ L'.length ≤ 311 ∧ DR w Q g (Q + 1) (.slice pa ts.length pc) ts vs (.slice va' L'.length vc') L' 5301 wr) (fun lv _ => 400 - lenOf lv)
          case atStart => exact ⟨va, vc, L, rfl, by omega, HS6.out⟩
          case round =>
            clear HS6
            obtain ⟨va', vc', L', rfl, hl', SL⟩ := hrel
            by_cases hlt : L'.length ≤ 310
            · have hlt' : (L'.length : Int) ≤ 310 := by omega
              have SA := SL.alloc (.cells #[.string ⟨#[120]⟩] 9)
              have src := SL.src1 ⟨#[120]⟩
              obtain ⟨WA3, hWA3⟩ : ∃ V, V = wr.alloc (.cells #[.string ⟨#[120]⟩] 9) := ⟨_, rfl⟩
              rw [← hWA3] at SA src
              have HWA3 := hid hWA3
              have zA := SA.ord.2.2.2
              clear hWA3 SL
              go_wp2_with (at_builtin; rw [← HWA3.out]; refine wpList_append_c _ rfl _ _ 27 27 rfl (Q + 1) 9 i0 (.string ⟨#[]⟩) 1 16 Try.underlying27 hi hz0 hz1 hz2 rfl _ L'.length _ rfl SA.own _ 1 _ rfl src (by unfold maxLen; omega) (by omega) zA ?_; intro v' w7 ho' hg' hbk'; obtain ⟨aw7, cw7, rfl⟩ := ho'.slc)
              have S7 := SA.app (x := ⟨#[120]⟩) (by decide) ho' hg'
              clear SA src HWA3 zA ho' hg' hbk'
              have HS7 := hid S7
              clear S7
              go_wp2
              go_roundw
              case rel =>
                (repeat apply Exists.intro)
                refine ⟨?_, rfl⟩
                exact ⟨aw7, cw7, L' ++ [⟨#[120]⟩], by simp, by simp; omega, by rw [List.length_append, List.length_singleton]; exact HS7.out⟩
              case measure => simp [lenOf]; omega
            · have hlt' : ¬ (L'.length : Int) ≤ 310 := by omega
              have HSL := hid SL
              clear SL
              go_wp2
              go_meet
              case rel => exact ⟨va', vc', L', rfl, by omega, HSL.out⟩
        · have h60' : ¬ (r6 : Int) = 0 := by omega
          have h60b : (((r6 : Nat) : Int) == 0) = false := by simp; omega
          have HS6 := hid S6
          clear S6
          go_wp2
          go_meet
          case rel => exact ⟨va, vc, L, rfl, by omega, HS6.out⟩
      case rest =>
        clear S6
        obtain ⟨va, vc, L, rfl, hLl, S⟩ := hcut
        go_wp2_with fail
        refine (pick_any g 12 5301 _ S.rd (by omega) (by omega) (by omega)).mono ?_
        rintro e w8 ⟨⟨r8, hr8, rfl⟩, hrd8, hg8⟩
        have S8 := S.call hrd8 hg8
        clear hrd8 hg8 S
        by_cases h80 : r8 = 0
        · subst h80
          have p8 := (S8.P 0 (by simp)).1
          obtain ⟨a', b', o', c', he, hT⟩ := S8.pl.tasks HSM.out.fit (by unfold maxLen; omega)
          cases he
          go_wp2_with fail
          refine (l1Spoil_any g _ pa b' o' pc ts _ S8.rd (by omega) hT HSM.out h1 h40 (fun j hj => (HSD.out j hj).2) (fun j hj => (HSD.out j hj).1)).mono ?_
          rintro e w9 ⟨⟨v5, ts5, vs5, rfl, hpl5, hsm5, hl5⟩, hrd9, hg9⟩
          obtain ⟨va5, vc5, rfl⟩ := hpl5.row.slc
          have hord := S8.ord
          have cA := S8.A.block (hg9.block _ (by omega) (by simp; omega))
          have cP := S8.P.block (hg9.block _ (by omega) (by simp; omega))
          have ho9 := S8.own.grown hg9 (.inr (by intro e; have := S8.own.row_lo _ e; omega))
          have hB9 := below_grown S8.B hg9 S8.B.size (fun q hq => by injection hq with hq; omega)
          have z9 := hg9.size
          have hz8 := S8.sz
          have p9 := (cP 0 (by simp)).1
          have pf9 := (cP 0 (by simp)).2
          clear hrd9 hg9 hT p8
          have gs := gset (World.grownBy.refl w9 (some Q)) 0 (.slice va5 ts5.length vc5)
          have cA2 := cA.block (gs.block _ (by omega) (by simp; omega))
          have cP2 := cP.set (j := 0) (by simp) (.slice va5 ts5.length vc5)
          have ho2 := ho9.grown gs (.inr (by intro e; have := ho9.row_lo _ e; omega))
          have hpl2 := hpl5.grownNew gs (fun x h1 _ => by omega)
          have hB2 := below_grown hB9 gs hB9.size (fun q hq => by injection hq with hq; omega)
          have z2 := gs.size
          obtain ⟨wf, hwf⟩ : ∃ V, V = w9.setCell ⟨Q, 0, none⟩ (.slice va5 ts5.length vc5) := ⟨_, rfl⟩
          rw [← hwf] at cA2 cP2 ho2 hpl2 hB2 z2
          have HWF := hid hwf
          clear hwf gs cA cP hpl5 hB9 S8 ho9
          go_upto_region 19 with fail
          rw [← HWF.out]
          clear HWF p9 pf9
          have q0 : wf.cell? ⟨Q, 0, none⟩ = some (.slice va5 ts5.length vc5) := (cP2 0 (by simp)).1
          have k0 : wf.cell? ⟨w.heap.size, 0, none⟩ = some (.slice none 0 0) := (cA2 0 (by simp)).1
          have f0 : wf.frozen? ⟨w.heap.size, 0, none⟩ = false := (cA2 0 (by simp)).2
          have gz := gset (World.grownBy.refl wf (some w.heap.size)) 0 (.slice va5 ts5.length vc5)
          have HF : Hid (RetRp (.returned (.tuple #[.agg #[.slice va5 ts5.length vc5], .slice va L.length vc])) (wf.setCell ⟨w.heap.size, 0, none⟩ (.slice va5 ts5.length vc5)) ∧ Below w.heap.size w (wf.setCell ⟨w.heap.size, 0, none⟩ (.slice va5 ts5.length vc5))) := by
            obtain ⟨a6, b6, o6, c6, he6, hT6⟩ := (hpl2.grownNew gz (fun x h1 _ => by omega)).tasks hsm5.fit (by unfold maxLen; omega)
            cases he6
            obtain ⟨b7, o7, hS7⟩ := StrsAt.ofOwn' (ho2.grown gz (.inr (by intro e; have := ho2.row_lo _ e; omega))) (fun s hs => by have := hz8 s hs; unfold maxLen; omega)
            exact ⟨⟨_, b6, o6, _, _, ts5, va, b7, o7, L.length, vc, L, rfl, hT6, hS7, by omega⟩, below_grown hB2 gz hB2.size (fun q hq => by injection hq with hq; omega)⟩
          clear gz cA2 hpl2 ho2 hB2
          go_wp2
          exact bodyPost_ret (v := .tuple #[.agg #[.slice va5 ts5.length vc5], .slice va L.length vc]) (by simp [results, Try.results17, go_sem, k0]) rfl HF.out
        · have h80' : ¬ (r8 : Int) = 0 := by omega
          have h80b : (((r8 : Nat) : Int) == 0) = false := by simp; omega
          have hord := S8.ord
          have cA2 := S8.A
          have ho2 := S8.own
          have hpl2 := S8.pl
          have hB2 := S8.B
          have hz8 := S8.sz
          have q0 : w8.cell? ⟨Q, 0, none⟩ = some (.slice pa ts.length pc) := (S8.P 0 (by simp)).1
          clear S8
          obtain ⟨wf, rfl⟩ : ∃ V, V = w8 := ⟨_, rfl⟩
          have hsm5 := HSM.out
          have z9 : wf.heap.size ≤ wf.heap.size := Nat.le_refl _
          have k0 : wf.cell? ⟨w.heap.size, 0, none⟩ = some (.slice none 0 0) := (cA2 0 (by simp)).1
          have f0 : wf.frozen? ⟨w.heap.size, 0, none⟩ = false := (cA2 0 (by simp)).2
          have gz := gset (World.grownBy.refl wf (some w.heap.size)) 0 (.slice pa ts.length pc)
          have HF : Hid (RetRp (.returned (.tuple #[.agg #[.slice pa ts.length pc], .slice va L.length vc])) (wf.setCell ⟨w.heap.size, 0, none⟩ (.slice pa ts.length pc)) ∧ Below w.heap.size w (wf.setCell ⟨w.heap.size, 0, none⟩ (.slice pa ts.length pc))) := by
            obtain ⟨a6, b6, o6, c6, he6, hT6⟩ := (hpl2.grownNew gz (fun x h1 _ => by omega)).tasks hsm5.fit (by unfold maxLen; omega)
            cases he6
            obtain ⟨b7, o7, hS7⟩ := StrsAt.ofOwn' (ho2.grown gz (.inr (by intro e; have := ho2.row_lo _ e; omega))) (fun s hs => by have := hz8 s hs; unfold maxLen; omega)
            exact ⟨⟨_, b6, o6, _, _, ts, va, b7, o7, L.length, vc, L, rfl, hT6, hS7, by omega⟩, below_grown hB2 gz hB2.size (fun q hq => by injection hq with hq; omega)⟩
          clear gz cA2 hpl2 ho2 hB2
          go_wp2
          exact bodyPost_ret (v := .tuple #[.agg #[.slice pa ts.length pc], .slice va L.length vc]) (by simp [results, Try.results17, go_sem, k0]) rfl HF.out
end Go.Proofs.Ytdjcfeiaembckaa
