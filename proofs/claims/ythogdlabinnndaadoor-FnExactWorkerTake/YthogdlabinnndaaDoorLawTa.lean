
/-
  The law FnExactWorkerTake's walk, begun.
-/
import Derived.Test.YthogdlabinnndaaDoorTa1
import Derived.Deep.DeepCutAuto
namespace Go.Proofs.YthogdlabinnndaaDoor
open Go.RowKit
theorem Tryd.sizeLW : (Tryd.prog.info? 24).map (·.size) = some 11 := by kernel_rfl
theorem Tryd.sizeLP : (Tryd.prog.info? 27).map (·.size) = some 1 := by kernel_rfl
theorem enter_toW (v1 : Value) (w : World) : Sem.run Tryd.prog (callFunc 8 #[v1]) w = .ok (.enter 8 #[v1]) w := by kernel_rfl
theorem enter_toP (v1 : Value) (w : World) : Sem.run Tryd.prog (callFunc 9 #[v1]) w = .ok (.enter 9 #[v1]) w := by kernel_rfl
theorem run_cl3 {ρ : Operand → Value} {o : Oper} {w : World} {f : FuncId} {v1 v2 v3 : Value} (x y z : Operand) (ts : Array TypeId) (h : o.op = .call { callee := .value (.func f), args := #[x, y, z], argTypes := ts }) (hx : ρ x = v1) (hy : ρ y = v2) (hz : ρ z = v3) (hf : ρ (.func f) = .func (.func f) #[] #[]) (he : ∀ (v1 v2 v3 : Value) (w : World), Sem.run Tryd.prog (callFunc f #[v1, v2, v3]) w = .ok (.enter f #[v1, v2, v3]) w) : (execOp ρ o).run Tryd.prog w = .ok (.enter f #[v1, v2, v3]) w := by
  unfold execOp
  rw [h]
  simp [go_sem, hx, hy, hz, hf, he]
theorem Tryd.sizeLM : (Tryd.prog.info? 29).map (·.size) = some 8 := by kernel_rfl
theorem enter_toM (v1 : Value) (w : World) : Sem.run Tryd.prog (callFunc 10 #[v1]) w = .ok (.enter 10 #[v1]) w := by kernel_rfl
theorem enter_sTake (v1 v2 v3 : Value) (w : World) : Sem.run Tryd.prog (callFunc 7 #[v1, v2, v3]) w = .ok (.enter 7 #[v1, v2, v3]) w := by kernel_rfl
theorem enter_iTake (v1 v2 v3 : Value) (w : World) : Sem.run Tryd.prog (callFunc 11 #[v1, v2, v3]) w = .ok (.enter 11 #[v1, v2, v3]) w := by kernel_rfl
theorem run_alA {ρ : Operand → Value} {o : Oper} {w : World} (h : o.op = .alloc 36) : (execOp ρ o).run Tryd.prog w = .ok (.value (.pointer (some ⟨w.heap.size, 0, none⟩))) (w.alloc (.cells #[.int .i64 0, .int .i64 0, .bool false, .int .i64 0, .int .i64 0, .int .i64 0, .int .i64 0, .int .i64 0, .slice none 0 0, .string ⟨#[]⟩, .int .i64 0, .slice none 0 0] 36)) := by
  unfold execOp
  rw [h]
  simp [go_sem]

theorem ne_of {x y : Option Nat} (h : ∀ q, x = some q → y = some q → False) : x = none ∨ x ≠ y := by
  cases hx : x with
  | none => exact .inl rfl
  | some q => exact .inr (fun hh => h q hx hh.symm)
theorem Shape.blocks {g H n : Nat} {w w' : World} (h : Shape g H n w) (hgH : g < H) (hb : ∀ q, g ≤ q → q < H → w'.heap[q]? = w.heap[q]?) : Shape g H n w' where
  s0 := fun j hj => by obtain ⟨s, hs⟩ := h.s0 j hj; exact ⟨s, (World.cell?_of_block (w := w) (a := ⟨g, j * 3, none⟩) (hb g (Nat.le_refl _) hgH)).trans hs⟩
  s1 := fun j hj => by obtain ⟨s, hs⟩ := h.s1 j hj; exact ⟨s, (World.cell?_of_block (w := w) (a := ⟨g, j * 3 + 1, none⟩) (hb g (Nat.le_refl _) hgH)).trans hs⟩
  s2 := fun j hj => by
    obtain ⟨b', n', h0, h1, h2, h3, h4⟩ := h.s2 j hj
    refine ⟨b', n', (World.cell?_of_block (w := w) (a := ⟨g, j * 3 + 2, none⟩) (hb g (Nat.le_refl _) hgH)).trans h0, h1, h2, h3, fun i hi => ?_⟩
    obtain ⟨⟨y, hy⟩, hf⟩ := h4 i hi
    exact ⟨⟨y, (World.cell?_of_block (w := w) (a := ⟨b', i, none⟩) (hb b' (by omega) h2)).trans hy⟩, (World.frozen?_of_block (w := w) (a := ⟨b', i, none⟩) (hb b' (by omega) h2)).trans hf⟩
  fr := fun j hj => (World.frozen?_of_block (w := w) (a := ⟨g, j, none⟩) (hb g (Nat.le_refl _) hgH)).trans (h.fr j hj)
theorem CF.lt {w : World} {p : Nat} {v : Value} {vs : List Value} (h : CF w p (v :: vs)) : p < w.heap.size := World.block_lt_of_cell? w ⟨p, 0, none⟩ (h 0 (by simp)).1
theorem CF.belowS {w w' : World} {p : Nat} {v : Value} {vs : List Value} (h : CF w p (v :: vs)) (hb : Below w.heap.size w w') : CF w' p (v :: vs) := h.block (hb.block p h.lt)
theorem CF.grownS {w w' : World} {p : Nat} {v : Value} {vs : List Value} {row : Option Nat} (h : CF w p (v :: vs)) (hg : w.grownBy w' row) (hr : some p ≠ row) : CF w' p (v :: vs) := h.block (hg.block p h.lt hr)
theorem CF.midS {w w' : World} {p g H : Nat} {v : Value} {vs : List Value} (h : CF w p (v :: vs)) (hM : Mid g H w w') (hr : p < g ∨ H ≤ p) : CF w' p (v :: vs) := h.block (hM.block p h.lt hr)
theorem Own.midR {B : Nat} {w w' : World} {size : Nat} {v : Value} {n : Nat} {xs : List Value} {g H : Nat} (h : Own B w size v n xs) (hM : Mid g H w w') (hr : ∀ q, v.ownBlock = some q → q < g ∨ H ≤ q) : Own B w' size v n xs := by
  rcases h with h | ⟨k, o, cap, rfl, hc⟩
  · exact .inl h
  · exact .inr ⟨k, o, cap, rfl, hc.block (hM.block k hc.hi (hr k rfl))⟩

set_option maxHeartbeats 16000000 in
set_option maxRecDepth 100000 in
theorem fnExactWorkerTake_walk (nu ep : Int) (up : Bool) (st le ta co lf : Int) (x : ByteArray) (si : Int) (a : Option Addr) (b o n c : Nat) (ss : List ByteArray) (pa : Option Addr) (pb po pn pc : Nat) (ts : List TaskD) (k f t e l dd : Int) (y : ByteArray) (ma : Option Addr) (mb mo mn mc : Nat) (ms : List ByteArray) (w : World) (h : StrsAt w a b o n ss) (hx : x.size ≤ maxLen) (hp : TasksAt w pa pb po pn ts) (hm : StrsAt w ma mb mo mn ms) (hy : y.size ≤ maxLen) (hTab : Tab w) :
    Calls Tryd.prog 3 #[.agg #[.int .i64 nu, .int .i64 ep, .bool up, .int .i64 st, .int .i64 le, .int .i64 ta, .int .i64 co, .int .i64 lf, .slice a n c, .string x, .int .i64 si], .agg #[.slice pa pn pc], .agg #[.int .i64 k, .int .i64 f, .int .i64 t, .int .i64 e, .int .i64 l, .int .i64 dd, .string y, .slice ma mn mc]] w fun e' w' => e' = .returned (.bool true) ∧ Below w.heap.size w w' := by
  obtain ⟨W, hW⟩ : ∃ W, W = ((w.alloc (.cells #[.int .i64 nu, .int .i64 ep, .bool up, .int .i64 st, .int .i64 le, .int .i64 ta, .int .i64 co, .int .i64 lf, .slice a n c, .string x, .int .i64 si] 24)).alloc (.cells #[.slice pa pn pc] 27)).alloc (.cells #[.int .i64 k, .int .i64 f, .int .i64 t, .int .i64 e, .int .i64 l, .int .i64 dd, .string y, .slice ma mn mc] 29) := ⟨_, rfl⟩
  have hBW : Below w.heap.size w W := by rw [hW]; exact (((Below.refl _ _).alloc (Nat.le_refl _) _).alloc (by simp) _).alloc (by simp; omega) _
  have hsW : W.heap.size = w.heap.size + 3 := by rw [hW]; simp
  have hPW : CF W (w.heap.size) [.int .i64 nu, .int .i64 ep, .bool up, .int .i64 st, .int .i64 le, .int .i64 ta, .int .i64 co, .int .i64 lf, .slice a n c, .string x, .int .i64 si] := by rw [hW]; exact ((CF.made w #[.int .i64 nu, .int .i64 ep, .bool up, .int .i64 st, .int .i64 le, .int .i64 ta, .int .i64 co, .int .i64 lf, .slice a n c, .string x, .int .i64 si] 24).block (Below.heap_alloc _ _ _ (by simp))).block (Below.heap_alloc _ _ _ (by simp; omega))
  have hPP : CF W (w.heap.size + 1) [.slice pa pn pc] := by
    rw [hW]
    have := CF.made (w.alloc (.cells #[.int .i64 nu, .int .i64 ep, .bool up, .int .i64 st, .int .i64 le, .int .i64 ta, .int .i64 co, .int .i64 lf, .slice a n c, .string x, .int .i64 si] 24)) #[.slice pa pn pc] 27
    rw [World.size_alloc] at this
    exact this.block (Below.heap_alloc _ _ _ (by simp))
  have hPM : CF W (w.heap.size + 2) [.int .i64 k, .int .i64 f, .int .i64 t, .int .i64 e, .int .i64 l, .int .i64 dd, .string y, .slice ma mn mc] := by
    rw [hW]
    have := CF.made ((w.alloc (.cells #[.int .i64 nu, .int .i64 ep, .bool up, .int .i64 st, .int .i64 le, .int .i64 ta, .int .i64 co, .int .i64 lf, .slice a n c, .string x, .int .i64 si] 24)).alloc (.cells #[.slice pa pn pc] 27)) #[.int .i64 k, .int .i64 f, .int .i64 t, .int .i64 e, .int .i64 l, .int .i64 dd, .string y, .slice ma mn mc] 29
    rw [World.size_alloc, World.size_alloc] at this
    exact this
  have HW := hid hW
  clear hW
  go_enter Tryd.func3, Tryd.ntmps3
  go_wp2_with fail
  rw [← HW.out]
  clear HW
  refine (szWorker_any nu ep up st le ta co lf x si a b o n c ss _ (h.below' hBW) hx).mono ?_
  rintro e' w1 ⟨⟨r, rfl, hr⟩, hb1⟩
  have hPW1 := hPW.block (hb1.block (w.heap.size) (by omega))
  have hPP1 := hPP.block (hb1.block (w.heap.size + 1) (by omega))
  have hPM1 := hPM.block (hb1.block (w.heap.size + 2) (by omega))
  have hBw1 := hBW.trans (hb1.mono hBW.size)
  have hl1 : w.heap.size + 2 < w1.heap.size := by have := hb1.size; omega
  clear hPW hPP hPM hb1 hBW hsW
  rcases hr with rfl | ⟨hr0, hr1, hs, hx1⟩
  · go_wp2
    go_ret
    exact ⟨rfl, hBw1⟩
  have hnn : n ≤ 1048576 := by omega
  clear hx1 hs
  have kp : w1.cell? ⟨w.heap.size + 1, 0, none⟩ = some (.slice pa pn pc) := (hPP1 0 (by simp)).1
  have hr0' : ¬ r < 0 := by omega
  go_wp2_with fail
  refine (szPlan_any pa pb po pn pc ts r _ hr0 hr1 (hp.below' hBw1)).mono ?_
  rintro e' w2 ⟨⟨r2, rfl, hr2⟩, hb2⟩
  have hPW2 := hPW1.block (hb2.block (w.heap.size) (by omega))
  have hPP2 := hPP1.block (hb2.block (w.heap.size + 1) (by omega))
  have hPM2 := hPM1.block (hb2.block (w.heap.size + 2) (by omega))
  have hBw2 := hBw1.trans (hb2.mono hBw1.size)
  have hl2 : w.heap.size + 2 < w2.heap.size := Nat.lt_of_lt_of_le hl1 hb2.size
  clear kp hPW1 hPP1 hPM1 hb2 hBw1 hl1 hr0'
  rcases hr2 with rfl | ⟨hr2, hr3⟩
  · go_wp2
    go_ret
    exact ⟨rfl, hBw2⟩
  have hpn : pn + tssz ts ≤ 1048576 := by omega
  have hr3' : ¬ r2 < 0 := by omega
  have hr2b : r2 ≤ 1048576 := by omega
  clear hr2
  have mq0 : w2.cell? ⟨w.heap.size + 2, 0, none⟩ = some (.int .i64 k) := (hPM2 0 (by simp)).1
  have mq1 : w2.cell? ⟨w.heap.size + 2, 1, none⟩ = some (.int .i64 f) := (hPM2 1 (by simp)).1
  have mq2 : w2.cell? ⟨w.heap.size + 2, 2, none⟩ = some (.int .i64 t) := (hPM2 2 (by simp)).1
  have mq3 : w2.cell? ⟨w.heap.size + 2, 3, none⟩ = some (.int .i64 e) := (hPM2 3 (by simp)).1
  have mq4 : w2.cell? ⟨w.heap.size + 2, 4, none⟩ = some (.int .i64 l) := (hPM2 4 (by simp)).1
  have mq5 : w2.cell? ⟨w.heap.size + 2, 5, none⟩ = some (.int .i64 dd) := (hPM2 5 (by simp)).1
  have mq6 : w2.cell? ⟨w.heap.size + 2, 6, none⟩ = some (.string y) := (hPM2 6 (by simp)).1
  have mq7 : w2.cell? ⟨w.heap.size + 2, 7, none⟩ = some (.slice ma mn mc) := (hPM2 7 (by simp)).1
  go_wp2_with fail
  refine (szMessageL_any k f t e l dd y ma mb mo mn mc ms r2 _ hr3 hr2b (hm.below' hBw2) hy).mono ?_
  rintro e' w3 ⟨⟨r3, rfl, hr5⟩, hb3⟩
  have hPW := hPW2.block (hb3.block (w.heap.size) (by omega))
  have hPP := hPP2.block (hb3.block (w.heap.size + 1) (by omega))
  have hPM := hPM2.block (hb3.block (w.heap.size + 2) (by omega))
  have hBw3 := hBw2.trans (hb3.mono hBw2.size)
  have hlp : w.heap.size + 2 < w3.heap.size := Nat.lt_of_lt_of_le hl2 hb3.size
  clear mq0 mq1 mq2 mq3 mq4 mq5 mq6 mq7 hPW2 hPP2 hPM2 hb3 hBw2 hl2 hr3' hr2b hr3 hr0 hr1
  rcases hr5 with rfl | ⟨hr5, hs5, -⟩
  · go_wp2
    go_ret
    exact ⟨rfl, hBw3⟩
  have hmn : mn ≤ 1048576 := by omega
  have hr5' : ¬ r3 < 0 := by omega
  clear hs5
  go_upto_region 11 with fail
  clear hr5 hr5'
  go_cut [8] (fun sv wx => ∃ (p : Nat) (nu1 ep1 : Int) (up1 : Bool) (st1 le1 ta1 co1 lf1 : Int) (ss1 : List ByteArray) (x1 : ByteArray) (si1 : Int) (q1 : Option OM) (aw : Option Addr) (cw : Nat) (vw : Value), sv = .pointer (some ⟨p, 0, none⟩) ∧ CF wx p [.int .i64 nu1, .int .i64 ep1, .bool up1, .int .i64 st1, .int .i64 le1, .int .i64 ta1, .int .i64 co1, .int .i64 lf1, .slice aw ss1.length cw, .string x1, .int .i64 si1, vw] ∧ takeR2 (⟨nu, ep, up, st, le, ta, co, lf, ss, x, si⟩ : WD) ts k f t e l dd y ms (⟨nu1, ep1, up1, st1, le1, ta1, co1, lf1, ss1, x1, si1⟩, q1) ∧ Own w3.heap.size wx 1 (.slice aw ss1.length cw) ss1.length (ss1.map Value.string) ∧ Own w3.heap.size wx 8 vw (outN q1) (outL q1) ∧ ((Value.slice aw ss1.length cw).ownBlock = none ∨ (Value.slice aw ss1.length cw).ownBlock ≠ vw.ownBlock) ∧ w3.heap.size ≤ p ∧ CF wx (w.heap.size) [.int .i64 nu, .int .i64 ep, .bool up, .int .i64 st, .int .i64 le, .int .i64 ta, .int .i64 co, .int .i64 lf, .slice a n c, .string x, .int .i64 si] ∧ CF wx (w.heap.size + 1) [.slice pa pn pc] ∧ CF wx (w.heap.size + 2) [.int .i64 k, .int .i64 f, .int .i64 t, .int .i64 e, .int .i64 l, .int .i64 dd, .string y, .slice ma mn mc] ∧ Below w.heap.size w wx ∧ Below w3.heap.size w3 wx)
  case first =>
    refine wp_region_held (S := fun w' => CF w' (w.heap.size) [.int .i64 nu, .int .i64 ep, .bool up, .int .i64 st, .int .i64 le, .int .i64 ta, .int .i64 co, .int .i64 lf, .slice a n c, .string x, .int .i64 si] ∧ CF w' (w.heap.size + 1) [.slice pa pn pc] ∧ CF w' (w.heap.size + 2) [.int .i64 k, .int .i64 f, .int .i64 t, .int .i64 e, .int .i64 l, .int .i64 dd, .string y, .slice ma mn mc]) (by kernel_rfl) ?_
    change wpAnyH _ _ _ _ _ _ _ _ (World.drew _)
    have hPWd : CF w3.drew (w.heap.size) [.int .i64 nu, .int .i64 ep, .bool up, .int .i64 st, .int .i64 le, .int .i64 ta, .int .i64 co, .int .i64 lf, .slice a n c, .string x, .int .i64 si] := hPW
    have hPPd : CF w3.drew (w.heap.size + 1) [.slice pa pn pc] := hPP
    have hPMd : CF w3.drew (w.heap.size + 2) [.int .i64 k, .int .i64 f, .int .i64 t, .int .i64 e, .int .i64 l, .int .i64 dd, .string y, .slice ma mn mc] := hPM
    have hBd := hBw3.drew
    have hzd : w3.heap.size ≤ w3.drew.heap.size := Nat.le_refl _
    have hDd : Below w3.heap.size w3 w3.drew := (Below.refl _ _).drew
    have hlW : w.heap.size + 2 < w3.drew.heap.size := hlp
    obtain ⟨u0, hu0⟩ : ∃ u0, u0 = w3.drew := ⟨_, rfl⟩
    rw [← hu0] at hPWd hPPd hPMd hBd hzd hlW hDd
    rw [← hu0]
    clear hu0
    refine hTake (i := 0) (d := some 32) (v := .agg #[.int .i64 nu, .int .i64 ep, .bool up, .int .i64 st, .int .i64 le, .int .i64 ta, .int .i64 co, .int .i64 lf, .slice a n c, .string x, .int .i64 si]) (l' := #[true, false, false, false, false, false, false, false, false]) rfl (by kernel_rfl) (by kernel_rfl) (by kernel_rfl) (by kernel_rfl) (fun _ _ _ h => h) (by kernel_rfl) (fun _ hc => run_ldT 24 _ [.int .i64 nu, .int .i64 ep, .bool up, .int .i64 st, .int .i64 le, .int .i64 ta, .int .i64 co, .int .i64 lf, .slice a n c, .string x, .int .i64 si] (.tmp 3) (by kernel_rfl) (by kernel_rfl) hc.1 Tryd.underlying24 rfl Tryd.sizeLW) ⟨hPWd, hPPd, hPMd⟩ (by kernel_rfl) ?_
    refine hTake (i := 2) (d := some 34) (v := .agg #[.slice pa pn pc]) (l' := #[true, false, true, false, false, false, false, false, false]) rfl (by kernel_rfl) (by kernel_rfl) (by kernel_rfl) (by kernel_rfl) (fun _ _ _ h => h) (by kernel_rfl) (fun _ hc => run_ldT 27 _ [.slice pa pn pc] (.tmp 4) (by kernel_rfl) (by kernel_rfl) hc.2.1 Tryd.underlying27 rfl Tryd.sizeLP) ⟨hPWd, hPPd, hPMd⟩ (by kernel_rfl) ?_
    refine hTake (i := 4) (d := some 36) (v := .agg #[.int .i64 k, .int .i64 f, .int .i64 t, .int .i64 e, .int .i64 l, .int .i64 dd, .string y, .slice ma mn mc]) (l' := #[true, false, true, false, true, false, false, false, false]) rfl (by kernel_rfl) (by kernel_rfl) (by kernel_rfl) (by kernel_rfl) (fun _ _ _ h => h) (by kernel_rfl) (fun _ hc => run_ldT 29 _ [.int .i64 k, .int .i64 f, .int .i64 t, .int .i64 e, .int .i64 l, .int .i64 dd, .string y, .slice ma mn mc] (.tmp 5) (by kernel_rfl) (by kernel_rfl) hc.2.2 Tryd.underlying29 rfl Tryd.sizeLM) ⟨hPWd, hPPd, hPMd⟩ (by kernel_rfl) ?_
    have hPWu0 := hPWd
    have hPPu0 := hPPd
    have hPMu0 := hPMd
    have hBu0 := hBd
    have hzu0 := hzd
    have hlu0 := hlW
    have hDu0 := hDd
    refine hTwo (i := 1) (j := 7) (by kernel_rfl) (hCall (i := 1) (d := some 33) (f := 8) (args := #[.agg #[.int .i64 nu, .int .i64 ep, .bool up, .int .i64 st, .int .i64 le, .int .i64 ta, .int .i64 co, .int .i64 lf, .slice a n c, .string x, .int .i64 si]]) (l' := #[true, true, true, false, true, false, false, false, false]) (R := fun v w' => ∃ g, v = .agg #[.int .i64 nu, .int .i64 ep, .bool up, .int .i64 st, .int .i64 le, .int .i64 ta, .int .i64 co, .int .i64 lf, .slice (some ⟨g, 0, none⟩) n n, .string x, .int .i64 si] ∧ OwnC u0.heap.size w' 1 g 0 n n (ss.map Value.string) ∧ Below u0.heap.size u0 w') rfl (by kernel_rfl) (by kernel_rfl) (by kernel_rfl) (run_cl1 _ _ rfl (by kernel_rfl) rfl enter_toW) ((toWorker_any nu ep up st le ta co lf x si a b o n c ss _ (h.below' hBu0) hnn).mono fun _ _ ⟨⟨g, he, ho⟩, hb⟩ => ⟨_, he, g, rfl, ho, hb⟩) ?_) (hVal (i := 7) (d := some 8) (v := .pointer (some ⟨u0.heap.size, 0, none⟩)) (w' := u0.alloc (.cells #[.int .i64 0, .int .i64 0, .bool false, .int .i64 0, .int .i64 0, .int .i64 0, .int .i64 0, .int .i64 0, .slice none 0 0, .string ⟨#[]⟩, .int .i64 0, .slice none 0 0] 36)) (l' := #[true, false, true, false, true, false, false, true, false]) rfl (by kernel_rfl) (by kernel_rfl) (by kernel_rfl) (run_alA (by kernel_rfl)) ⟨hPWu0.block (Below.heap_alloc u0 _ (w.heap.size) (by omega)), hPPu0.block (Below.heap_alloc u0 _ (w.heap.size + 1) (by omega)), hPMu0.block (Below.heap_alloc u0 _ (w.heap.size + 2) (by omega))⟩ ?_)
    · rintro _ u1 ⟨g2, rfl, ho2, hbu1⟩
      have hPWu1 := hPWu0.block (hbu1.block (w.heap.size) (by omega))
      have hPPu1 := hPPu0.block (hbu1.block (w.heap.size + 1) (by omega))
      have hPMu1 := hPMu0.block (hbu1.block (w.heap.size + 2) (by omega))
      have hBu1 := hBu0.trans (hbu1.mono hBu0.size)
      have hzu1 : w3.heap.size ≤ u1.heap.size := Nat.le_trans hzu0 hbu1.size
      have hlu1 : w.heap.size + 2 < u1.heap.size := Nat.lt_of_lt_of_le hlu0 hbu1.size
      have hDu1 := hDu0.trans (hbu1.mono hzu0)
      have h2su1 := StrsAt.ofOwn ho2 h.sz
      clear ho2
      refine ⟨⟨hPWu1, hPPu1, hPMu1⟩, ?_⟩
      refine hTwo (i := 3) (j := 7) (by kernel_rfl) (hCall (i := 3) (d := some 35) (f := 9) (args := #[.agg #[.slice pa pn pc]]) (l' := #[true, true, true, true, true, false, false, false, false]) (R := fun v w' => ∃ g, v = .agg #[.slice (some ⟨g, 0, none⟩) pn pn] ∧ TasksAt w' (some ⟨g, 0, none⟩) g 0 pn ts ∧ Below u1.heap.size u1 w') rfl (by kernel_rfl) (by kernel_rfl) (by kernel_rfl) (run_cl1 _ _ rfl (by kernel_rfl) rfl enter_toP) ((toPlan_any pa pb po pn pc ts _ (hp.below' hBu1) hpn).mono fun _ _ ⟨g, xs, he, _, _, ht, hb⟩ => ⟨_, he, g, rfl, ht, hb⟩) ?_) (hVal (i := 7) (d := some 8) (v := .pointer (some ⟨u1.heap.size, 0, none⟩)) (w' := u1.alloc (.cells #[.int .i64 0, .int .i64 0, .bool false, .int .i64 0, .int .i64 0, .int .i64 0, .int .i64 0, .int .i64 0, .slice none 0 0, .string ⟨#[]⟩, .int .i64 0, .slice none 0 0] 36)) (l' := #[true, true, true, false, true, false, false, true, false]) rfl (by kernel_rfl) (by kernel_rfl) (by kernel_rfl) (run_alA (by kernel_rfl)) ⟨hPWu1.block (Below.heap_alloc u1 _ (w.heap.size) (by omega)), hPPu1.block (Below.heap_alloc u1 _ (w.heap.size + 1) (by omega)), hPMu1.block (Below.heap_alloc u1 _ (w.heap.size + 2) (by omega))⟩ ?_)
      · rintro _ u2 ⟨g3, rfl, ht3, hbu2⟩
        have hPWu2 := hPWu1.block (hbu2.block (w.heap.size) (by omega))
        have hPPu2 := hPPu1.block (hbu2.block (w.heap.size + 1) (by omega))
        have hPMu2 := hPMu1.block (hbu2.block (w.heap.size + 2) (by omega))
        have hBu2 := hBu1.trans (hbu2.mono hBu1.size)
        have hzu2 : w3.heap.size ≤ u2.heap.size := Nat.le_trans hzu1 hbu2.size
        have hlu2 : w.heap.size + 2 < u2.heap.size := Nat.lt_of_lt_of_le hlu1 hbu2.size
        have hDu2 := hDu1.trans (hbu2.mono hzu1)
        have h2su2 := h2su1.below' hbu2
        have ht3u2 := ht3
        refine ⟨⟨hPWu2, hPPu2, hPMu2⟩, ?_⟩
        refine hTwo (i := 5) (j := 7) (by kernel_rfl) (hCall (i := 5) (d := some 37) (f := 10) (args := #[.agg #[.int .i64 k, .int .i64 f, .int .i64 t, .int .i64 e, .int .i64 l, .int .i64 dd, .string y, .slice ma mn mc]]) (l' := #[true, true, true, true, true, true, false, false, false]) (R := fun v w' => ∃ g, v = .agg #[.int .i64 k, .int .i64 f, .int .i64 t, .int .i64 e, .int .i64 l, .int .i64 dd, .string y, .slice (some ⟨g, 0, none⟩) mn mn] ∧ OwnC u2.heap.size w' 1 g 0 mn mn (ms.map Value.string) ∧ Below u2.heap.size u2 w') rfl (by kernel_rfl) (by kernel_rfl) (by kernel_rfl) (run_cl1 _ _ rfl (by kernel_rfl) rfl enter_toM) ((toMessage_any k f t e l dd y ma mb mo mn mc ms _ (hm.below' hBu2) hmn).mono fun _ _ ⟨⟨g, he, ho⟩, hb⟩ => ⟨_, he, g, rfl, ho, hb⟩) ?_) (hVal (i := 7) (d := some 8) (v := .pointer (some ⟨u2.heap.size, 0, none⟩)) (w' := u2.alloc (.cells #[.int .i64 0, .int .i64 0, .bool false, .int .i64 0, .int .i64 0, .int .i64 0, .int .i64 0, .int .i64 0, .slice none 0 0, .string ⟨#[]⟩, .int .i64 0, .slice none 0 0] 36)) (l' := #[true, true, true, true, true, false, false, true, false]) rfl (by kernel_rfl) (by kernel_rfl) (by kernel_rfl) (run_alA (by kernel_rfl)) ⟨hPWu2.block (Below.heap_alloc u2 _ (w.heap.size) (by omega)), hPPu2.block (Below.heap_alloc u2 _ (w.heap.size + 1) (by omega)), hPMu2.block (Below.heap_alloc u2 _ (w.heap.size + 2) (by omega))⟩ ?_)
        · rintro _ u3 ⟨g7, rfl, ho7, hbu3⟩
          have hPWu3 := hPWu2.block (hbu3.block (w.heap.size) (by omega))
          have hPPu3 := hPPu2.block (hbu3.block (w.heap.size + 1) (by omega))
          have hPMu3 := hPMu2.block (hbu3.block (w.heap.size + 2) (by omega))
          have hBu3 := hBu2.trans (hbu3.mono hBu2.size)
          have hzu3 : w3.heap.size ≤ u3.heap.size := Nat.le_trans hzu2 hbu3.size
          have hlu3 : w.heap.size + 2 < u3.heap.size := Nat.lt_of_lt_of_le hlu2 hbu3.size
          have hDu3 := hDu2.trans (hbu3.mono hzu2)
          have h2su3 := h2su2.below' hbu3
          have ht3u3 := ht3u2.below' hbu3
          have h7su3 := StrsAt.ofOwn ho7 hm.sz
          clear ho7
          refine ⟨⟨hPWu3, hPPu3, hPMu3⟩, ?_⟩
          refine hTwo (i := 6) (j := 7) (by kernel_rfl) (hCall (i := 6) (d := some 38) (f := 7) (args := #[.agg #[.int .i64 nu, .int .i64 ep, .bool up, .int .i64 st, .int .i64 le, .int .i64 ta, .int .i64 co, .int .i64 lf, .slice (some ⟨g2, 0, none⟩) n n, .string x, .int .i64 si], .agg #[.slice (some ⟨g3, 0, none⟩) pn pn], .agg #[.int .i64 k, .int .i64 f, .int .i64 t, .int .i64 e, .int .i64 l, .int .i64 dd, .string y, .slice (some ⟨g7, 0, none⟩) mn mn]]) (l' := #[true, true, true, true, true, true, true, false, false]) (R := fun v w' => RetA (.returned v) u3.heap.size w' (takeR2 (⟨nu, ep, up, st, le, ta, co, lf, ss, x, si⟩ : WD) ts k f t e l dd y ms) ∧ Below u3.heap.size u3 w') rfl (by kernel_rfl) (by kernel_rfl) (by kernel_rfl) (run_cl3 _ _ _ _ rfl (by kernel_rfl) (by kernel_rfl) (by kernel_rfl) rfl enter_sTake) ((sTakeN_any nu ep up st le ta co lf _ g2 0 n n ss x si _ g3 0 pn pn ts k f t e l dd y _ g7 0 mn mn ms _ h2su3 ht3u3 h7su3 hnn hmn).mono fun e _ ⟨he, hb⟩ => by obtain ⟨d, q, a, c, v, rfl, h1⟩ := he; exact ⟨_, rfl, ⟨d, q, a, c, v, rfl, h1⟩, hb⟩) ?_) (hVal (i := 7) (d := some 8) (v := .pointer (some ⟨u3.heap.size, 0, none⟩)) (w' := u3.alloc (.cells #[.int .i64 0, .int .i64 0, .bool false, .int .i64 0, .int .i64 0, .int .i64 0, .int .i64 0, .int .i64 0, .slice none 0 0, .string ⟨#[]⟩, .int .i64 0, .slice none 0 0] 36)) (l' := #[true, true, true, true, true, true, false, true, false]) rfl (by kernel_rfl) (by kernel_rfl) (by kernel_rfl) (run_alA (by kernel_rfl)) ⟨hPWu3.block (Below.heap_alloc u3 _ (w.heap.size) (by omega)), hPPu3.block (Below.heap_alloc u3 _ (w.heap.size + 1) (by omega)), hPMu3.block (Below.heap_alloc u3 _ (w.heap.size + 2) (by omega))⟩ ?_)
          · rintro _ u4 ⟨hret, hbu4⟩
            have hPWu4 := hPWu3.block (hbu4.block (w.heap.size) (by omega))
            have hPPu4 := hPPu3.block (hbu4.block (w.heap.size + 1) (by omega))
            have hPMu4 := hPMu3.block (hbu4.block (w.heap.size + 2) (by omega))
            have hBu4 := hBu3.trans (hbu4.mono hBu3.size)
            have hzu4 : w3.heap.size ≤ u4.heap.size := Nat.le_trans hzu3 hbu4.size
            have hlu4 : w.heap.size + 2 < u4.heap.size := Nat.lt_of_lt_of_le hlu3 hbu4.size
            have hDu4 := hDu3.trans (hbu4.mono hzu3)
            have h2su4 := h2su3.below' hbu4
            have ht3u4 := ht3u3.below' hbu4
            have h7su4 := h7su3.below' hbu4
            refine ⟨⟨hPWu4, hPPu4, hPMu4⟩, ?_⟩
            obtain ⟨⟨nu1, ep1, up1, st1, le1, ta1, co1, lf1, ss1, x1, si1⟩, q1, aw, cw, vw, hev, hoL, hoV, hdis, hF⟩ := hret
            simp only [Ending.returned.injEq] at hev
            subst hev
            dsimp only at hoL hdis
            obtain ⟨va, vc, rfl⟩ := hoV.slc
            have hloL := hoL.row_lo
            have hhiL := hoL.row_hi
            have hloV := hoV.row_lo
            have hhiV := hoV.row_hi
            have hoL := hoL.mono' hzu3
            have hoV := hoV.mono' hzu3
            refine hOne (by kernel_rfl) (hVal (i := 7) (d := some 8) (v := .pointer (some ⟨u4.heap.size, 0, none⟩)) (w' := u4.alloc (.cells #[.int .i64 0, .int .i64 0, .bool false, .int .i64 0, .int .i64 0, .int .i64 0, .int .i64 0, .int .i64 0, .slice none 0 0, .string ⟨#[]⟩, .int .i64 0, .slice none 0 0] 36)) (l' := #[true, true, true, true, true, true, true, true, false]) rfl (by kernel_rfl) (by kernel_rfl) (by kernel_rfl) (run_alA (by kernel_rfl)) ⟨hPWu4.block (Below.heap_alloc u4 _ (w.heap.size) (by omega)), hPPu4.block (Below.heap_alloc u4 _ (w.heap.size + 1) (by omega)), hPMu4.block (Below.heap_alloc u4 _ (w.heap.size + 2) (by omega))⟩ ?_)
            have hPWu5 := hPWu4.block (Below.heap_alloc u4 (.cells zA.toArray 36) (w.heap.size) (by omega))
            have hPPu5 := hPPu4.block (Below.heap_alloc u4 (.cells zA.toArray 36) (w.heap.size + 1) (by omega))
            have hPMu5 := hPMu4.block (Below.heap_alloc u4 (.cells zA.toArray 36) (w.heap.size + 2) (by omega))
            have hBu5 := hBu4.alloc hBu4.size (.cells zA.toArray 36)
            have hDu5 := hDu4.alloc hDu4.size (.cells zA.toArray 36)
            have hbbu5 : Below u4.heap.size u4 (u4.alloc (.cells zA.toArray 36)) := (Below.refl _ _).alloc (Nat.le_refl _) _
            have hAu5 := CF.made u4 zA.toArray 36
            have h2su5 := h2su4.below' hbbu5
            have ht3u5 := ht3u4.below' hbbu5
            have h7su5 := h7su4.below' hbbu5
            have hoL := hoL.alloc (.cells zA.toArray 36)
            have hoV := hoV.alloc (.cells zA.toArray 36)
            have hszu5 : (u4.alloc (.cells zA.toArray 36)).heap.size = u4.heap.size + 1 := by simp
            obtain ⟨pA, hpA⟩ : ∃ pA, pA = u4.heap.size := ⟨_, rfl⟩
            rw [← hpA] at hAu5 hszu5
            rw [← hpA]
            obtain ⟨u5, hu5⟩ : ∃ u5, u5 = u4.alloc (.cells zA.toArray 36) := ⟨_, rfl⟩
            rw [← hu5] at hPWu5 hPPu5 hPMu5 hBu5 hDu5 hbbu5 hAu5 hszu5 h2su5 ht3u5 h7su5 hoL hoV
            have eu5 : (.alloc u4 (.cells #[.int .i64 0, .int .i64 0, .bool false, .int .i64 0, .int .i64 0, .int .i64 0, .int .i64 0, .int .i64 0, .slice none 0 0, .string ⟨#[]⟩, .int .i64 0, .slice none 0 0] 36) : World) = u5 := hu5.symm
            rw [eu5]
            clear hu5 eu5
            have hzu5 : w3.heap.size ≤ u5.heap.size := Nat.le_trans hzu4 hbbu5.size
            have hlu5 : w.heap.size + 2 < u5.heap.size := Nat.lt_of_lt_of_le hlu4 hbbu5.size
            have hAlu5 : pA < u5.heap.size := by omega
            have hAb : w3.heap.size ≤ pA := by omega
            have HPA := hid hpA
            clear hpA
            obtain ⟨uz, huz⟩ : ∃ uz, uz = u5.setCells pA 0 [.int .i64 nu1, .int .i64 ep1, .bool up1, .int .i64 st1, .int .i64 le1, .int .i64 ta1, .int .i64 co1, .int .i64 lf1, .slice aw ss1.length cw, .string x1, .int .i64 si1, .slice va (outN q1) vc] := ⟨_, rfl⟩
            have hcz : CF uz pA [.int .i64 nu1, .int .i64 ep1, .bool up1, .int .i64 st1, .int .i64 le1, .int .i64 ta1, .int .i64 co1, .int .i64 lf1, .slice aw ss1.length cw, .string x1, .int .i64 si1, .slice va (outN q1) vc] := by rw [huz]; exact hAu5.stored rfl
            have hgz : u5.grownBy uz (some pA) := by rw [huz]; exact grown_setCells _ _ _ _ _ (World.grownBy.refl _ _)
            have hPWz := hPWu5.block (hgz.block (w.heap.size) (by omega) (by simp; omega))
            have hPPz := hPPu5.block (hgz.block (w.heap.size + 1) (by omega) (by simp; omega))
            have hPMz := hPMu5.block (hgz.block (w.heap.size + 2) (by omega) (by simp; omega))
            have hBz := below_grown hBu5 hgz (by omega) (fun k hk => by simp at hk; omega)
            have hLz := hoL.grown hgz (.inr (by intro hh; have := hloL _ hh; have := hhiL _ hh; have := HPA.out; omega))
            have hVz := hoV.grown hgz (.inr (by intro hh; have := hloV _ hh; have := hhiV _ hh; have := HPA.out; omega))
            have hzz := below_grown hDu5 hgz (by omega) (fun k hk => by simp at hk; omega)
            refine hOne (by kernel_rfl) (hSkip (i := 8) (w' := uz) (l' := #[true, true, true, true, true, true, true, true, true]) rfl (by kernel_rfl) (by kernel_rfl) (by kernel_rfl) (by rw [huz]; exact run_stT 36 zA [.int .i64 nu1, .int .i64 ep1, .bool up1, .int .i64 st1, .int .i64 le1, .int .i64 ta1, .int .i64 co1, .int .i64 lf1, .slice aw ss1.length cw, .string x1, .int .i64 si1, .slice va (outN q1) vc] (.tmp 8) (.tmp 38) (by kernel_rfl) (by kernel_rfl) (by kernel_rfl) hAu5 rfl Tryd.sizeAc (one12 _ _ _ _ _ _ _ _ _ _ _ _ _ _ _ _)) ⟨hPWz, hPPz, hPMz⟩ ?_)
            refine wpAnyH_done (by kernel_rfl) ?_ _
            have HR := hid (show ∃ (p : Nat) (nu1 ep1 : Int) (up1 : Bool) (st1 le1 ta1 co1 lf1 : Int) (ss1 : List ByteArray) (x1 : ByteArray) (si1 : Int) (q1 : Option OM) (aw : Option Addr) (cw : Nat) (vw : Value), (.pointer (some ⟨pA, 0, none⟩) : Value) = .pointer (some ⟨p, 0, none⟩) ∧ CF uz p [.int .i64 nu1, .int .i64 ep1, .bool up1, .int .i64 st1, .int .i64 le1, .int .i64 ta1, .int .i64 co1, .int .i64 lf1, .slice aw ss1.length cw, .string x1, .int .i64 si1, vw] ∧ takeR2 (⟨nu, ep, up, st, le, ta, co, lf, ss, x, si⟩ : WD) ts k f t e l dd y ms (⟨nu1, ep1, up1, st1, le1, ta1, co1, lf1, ss1, x1, si1⟩, q1) ∧ Own w3.heap.size uz 1 (.slice aw ss1.length cw) ss1.length (ss1.map Value.string) ∧ Own w3.heap.size uz 8 vw (outN q1) (outL q1) ∧ ((Value.slice aw ss1.length cw).ownBlock = none ∨ (Value.slice aw ss1.length cw).ownBlock ≠ vw.ownBlock) ∧ w3.heap.size ≤ p ∧ CF uz (w.heap.size) [.int .i64 nu, .int .i64 ep, .bool up, .int .i64 st, .int .i64 le, .int .i64 ta, .int .i64 co, .int .i64 lf, .slice a n c, .string x, .int .i64 si] ∧ CF uz (w.heap.size + 1) [.slice pa pn pc] ∧ CF uz (w.heap.size + 2) [.int .i64 k, .int .i64 f, .int .i64 t, .int .i64 e, .int .i64 l, .int .i64 dd, .string y, .slice ma mn mc] ∧ Below w.heap.size w uz ∧ Below w3.heap.size w3 uz from ⟨pA, nu1, ep1, up1, st1, le1, ta1, co1, lf1, ss1, x1, si1, q1, aw, cw, .slice va (outN q1) vc, rfl, hcz, hF, hLz, hVz, hdis, hAb, hPWz, hPPz, hPMz, hBz, hzz⟩)
            clear hcz hF hLz hVz hdis hPWz hPPz hPMz hBz hzz huz hgz hoL hoV hloL hhiL hloV hhiV
            go_wp2_with fail
            go_meet
            case rel => exact HR.out
          · have hPWu6 := hPWu3.block (Below.heap_alloc u3 (.cells zA.toArray 36) (w.heap.size) (by omega))
            have hPPu6 := hPPu3.block (Below.heap_alloc u3 (.cells zA.toArray 36) (w.heap.size + 1) (by omega))
            have hPMu6 := hPMu3.block (Below.heap_alloc u3 (.cells zA.toArray 36) (w.heap.size + 2) (by omega))
            have hBu6 := hBu3.alloc hBu3.size (.cells zA.toArray 36)
            have hDu6 := hDu3.alloc hDu3.size (.cells zA.toArray 36)
            have hbbu6 : Below u3.heap.size u3 (u3.alloc (.cells zA.toArray 36)) := (Below.refl _ _).alloc (Nat.le_refl _) _
            have hAu6 := CF.made u3 zA.toArray 36
            have h2su6 := h2su3.below' hbbu6
            have ht3u6 := ht3u3.below' hbbu6
            have h7su6 := h7su3.below' hbbu6
            have hszu6 : (u3.alloc (.cells zA.toArray 36)).heap.size = u3.heap.size + 1 := by simp
            obtain ⟨pA, hpA⟩ : ∃ pA, pA = u3.heap.size := ⟨_, rfl⟩
            rw [← hpA] at hAu6 hszu6
            rw [← hpA]
            obtain ⟨u6, hu6⟩ : ∃ u6, u6 = u3.alloc (.cells zA.toArray 36) := ⟨_, rfl⟩
            rw [← hu6] at hPWu6 hPPu6 hPMu6 hBu6 hDu6 hbbu6 hAu6 hszu6 h2su6 ht3u6 h7su6
            have eu6 : (.alloc u3 (.cells #[.int .i64 0, .int .i64 0, .bool false, .int .i64 0, .int .i64 0, .int .i64 0, .int .i64 0, .int .i64 0, .slice none 0 0, .string ⟨#[]⟩, .int .i64 0, .slice none 0 0] 36) : World) = u6 := hu6.symm
            rw [eu6]
            clear hu6 eu6
            have hzu6 : w3.heap.size ≤ u6.heap.size := Nat.le_trans hzu3 hbbu6.size
            have hlu6 : w.heap.size + 2 < u6.heap.size := Nat.lt_of_lt_of_le hlu3 hbbu6.size
            have hAlu6 : pA < u6.heap.size := by omega
            have hAb : w3.heap.size ≤ pA := by omega
            have HPA := hid hpA
            clear hpA
            refine hOne (by kernel_rfl) (hCall (i := 6) (d := some 38) (f := 7) (args := #[.agg #[.int .i64 nu, .int .i64 ep, .bool up, .int .i64 st, .int .i64 le, .int .i64 ta, .int .i64 co, .int .i64 lf, .slice (some ⟨g2, 0, none⟩) n n, .string x, .int .i64 si], .agg #[.slice (some ⟨g3, 0, none⟩) pn pn], .agg #[.int .i64 k, .int .i64 f, .int .i64 t, .int .i64 e, .int .i64 l, .int .i64 dd, .string y, .slice (some ⟨g7, 0, none⟩) mn mn]]) (l' := #[true, true, true, true, true, true, true, true, false]) (R := fun v w' => RetA (.returned v) u6.heap.size w' (takeR2 (⟨nu, ep, up, st, le, ta, co, lf, ss, x, si⟩ : WD) ts k f t e l dd y ms) ∧ Below u6.heap.size u6 w') rfl (by kernel_rfl) (by kernel_rfl) (by kernel_rfl) (run_cl3 _ _ _ _ rfl (by kernel_rfl) (by kernel_rfl) (by kernel_rfl) rfl enter_sTake) ((sTakeN_any nu ep up st le ta co lf _ g2 0 n n ss x si _ g3 0 pn pn ts k f t e l dd y _ g7 0 mn mn ms _ h2su6 ht3u6 h7su6 hnn hmn).mono fun e _ ⟨he, hb⟩ => by obtain ⟨d, q, a, c, v, rfl, h1⟩ := he; exact ⟨_, rfl, ⟨d, q, a, c, v, rfl, h1⟩, hb⟩) ?_)
            rintro _ u7 ⟨hret, hbu7⟩
            have hPWu7 := hPWu6.block (hbu7.block (w.heap.size) (by omega))
            have hPPu7 := hPPu6.block (hbu7.block (w.heap.size + 1) (by omega))
            have hPMu7 := hPMu6.block (hbu7.block (w.heap.size + 2) (by omega))
            have hBu7 := hBu6.trans (hbu7.mono hBu6.size)
            have hzu7 : w3.heap.size ≤ u7.heap.size := Nat.le_trans hzu6 hbu7.size
            have hlu7 : w.heap.size + 2 < u7.heap.size := Nat.lt_of_lt_of_le hlu6 hbu7.size
            have hDu7 := hDu6.trans (hbu7.mono hzu6)
            have h2su7 := h2su6.below' hbu7
            have ht3u7 := ht3u6.below' hbu7
            have h7su7 := h7su6.below' hbu7
            have hAu7 := hAu6.block (hbu7.block pA (by omega))
            have hAlu7 : pA < u7.heap.size := Nat.lt_of_lt_of_le hAlu6 hbu7.size
            refine ⟨⟨hPWu7, hPPu7, hPMu7⟩, ?_⟩
            obtain ⟨⟨nu1, ep1, up1, st1, le1, ta1, co1, lf1, ss1, x1, si1⟩, q1, aw, cw, vw, hev, hoL, hoV, hdis, hF⟩ := hret
            simp only [Ending.returned.injEq] at hev
            subst hev
            dsimp only at hoL hdis
            obtain ⟨va, vc, rfl⟩ := hoV.slc
            have hloL := hoL.row_lo
            have hhiL := hoL.row_hi
            have hloV := hoV.row_lo
            have hhiV := hoV.row_hi
            have hoL := hoL.mono' hzu6
            have hoV := hoV.mono' hzu6
            obtain ⟨uz, huz⟩ : ∃ uz, uz = u7.setCells pA 0 [.int .i64 nu1, .int .i64 ep1, .bool up1, .int .i64 st1, .int .i64 le1, .int .i64 ta1, .int .i64 co1, .int .i64 lf1, .slice aw ss1.length cw, .string x1, .int .i64 si1, .slice va (outN q1) vc] := ⟨_, rfl⟩
            have hcz : CF uz pA [.int .i64 nu1, .int .i64 ep1, .bool up1, .int .i64 st1, .int .i64 le1, .int .i64 ta1, .int .i64 co1, .int .i64 lf1, .slice aw ss1.length cw, .string x1, .int .i64 si1, .slice va (outN q1) vc] := by rw [huz]; exact hAu7.stored rfl
            have hgz : u7.grownBy uz (some pA) := by rw [huz]; exact grown_setCells _ _ _ _ _ (World.grownBy.refl _ _)
            have hPWz := hPWu7.block (hgz.block (w.heap.size) (by omega) (by simp; omega))
            have hPPz := hPPu7.block (hgz.block (w.heap.size + 1) (by omega) (by simp; omega))
            have hPMz := hPMu7.block (hgz.block (w.heap.size + 2) (by omega) (by simp; omega))
            have hBz := below_grown hBu7 hgz (by omega) (fun k hk => by simp at hk; omega)
            have hLz := hoL.grown hgz (.inr (by intro hh; have := hloL _ hh; have := hhiL _ hh; have := HPA.out; omega))
            have hVz := hoV.grown hgz (.inr (by intro hh; have := hloV _ hh; have := hhiV _ hh; have := HPA.out; omega))
            have hzz := below_grown hDu7 hgz (by omega) (fun k hk => by simp at hk; omega)
            refine hOne (by kernel_rfl) (hSkip (i := 8) (w' := uz) (l' := #[true, true, true, true, true, true, true, true, true]) rfl (by kernel_rfl) (by kernel_rfl) (by kernel_rfl) (by rw [huz]; exact run_stT 36 zA [.int .i64 nu1, .int .i64 ep1, .bool up1, .int .i64 st1, .int .i64 le1, .int .i64 ta1, .int .i64 co1, .int .i64 lf1, .slice aw ss1.length cw, .string x1, .int .i64 si1, .slice va (outN q1) vc] (.tmp 8) (.tmp 38) (by kernel_rfl) (by kernel_rfl) (by kernel_rfl) hAu7 rfl Tryd.sizeAc (one12 _ _ _ _ _ _ _ _ _ _ _ _ _ _ _ _)) ⟨hPWz, hPPz, hPMz⟩ ?_)
            refine wpAnyH_done (by kernel_rfl) ?_ _
            have HR := hid (show ∃ (p : Nat) (nu1 ep1 : Int) (up1 : Bool) (st1 le1 ta1 co1 lf1 : Int) (ss1 : List ByteArray) (x1 : ByteArray) (si1 : Int) (q1 : Option OM) (aw : Option Addr) (cw : Nat) (vw : Value), (.pointer (some ⟨pA, 0, none⟩) : Value) = .pointer (some ⟨p, 0, none⟩) ∧ CF uz p [.int .i64 nu1, .int .i64 ep1, .bool up1, .int .i64 st1, .int .i64 le1, .int .i64 ta1, .int .i64 co1, .int .i64 lf1, .slice aw ss1.length cw, .string x1, .int .i64 si1, vw] ∧ takeR2 (⟨nu, ep, up, st, le, ta, co, lf, ss, x, si⟩ : WD) ts k f t e l dd y ms (⟨nu1, ep1, up1, st1, le1, ta1, co1, lf1, ss1, x1, si1⟩, q1) ∧ Own w3.heap.size uz 1 (.slice aw ss1.length cw) ss1.length (ss1.map Value.string) ∧ Own w3.heap.size uz 8 vw (outN q1) (outL q1) ∧ ((Value.slice aw ss1.length cw).ownBlock = none ∨ (Value.slice aw ss1.length cw).ownBlock ≠ vw.ownBlock) ∧ w3.heap.size ≤ p ∧ CF uz (w.heap.size) [.int .i64 nu, .int .i64 ep, .bool up, .int .i64 st, .int .i64 le, .int .i64 ta, .int .i64 co, .int .i64 lf, .slice a n c, .string x, .int .i64 si] ∧ CF uz (w.heap.size + 1) [.slice pa pn pc] ∧ CF uz (w.heap.size + 2) [.int .i64 k, .int .i64 f, .int .i64 t, .int .i64 e, .int .i64 l, .int .i64 dd, .string y, .slice ma mn mc] ∧ Below w.heap.size w uz ∧ Below w3.heap.size w3 uz from ⟨pA, nu1, ep1, up1, st1, le1, ta1, co1, lf1, ss1, x1, si1, q1, aw, cw, .slice va (outN q1) vc, rfl, hcz, hF, hLz, hVz, hdis, hAb, hPWz, hPPz, hPMz, hBz, hzz⟩)
            clear hcz hF hLz hVz hdis hPWz hPPz hPMz hBz hzz huz hgz hoL hoV hloL hhiL hloV hhiV
            go_wp2_with fail
            go_meet
            case rel => exact HR.out
        · have hPWu8 := hPWu2.block (Below.heap_alloc u2 (.cells zA.toArray 36) (w.heap.size) (by omega))
          have hPPu8 := hPPu2.block (Below.heap_alloc u2 (.cells zA.toArray 36) (w.heap.size + 1) (by omega))
          have hPMu8 := hPMu2.block (Below.heap_alloc u2 (.cells zA.toArray 36) (w.heap.size + 2) (by omega))
          have hBu8 := hBu2.alloc hBu2.size (.cells zA.toArray 36)
          have hDu8 := hDu2.alloc hDu2.size (.cells zA.toArray 36)
          have hbbu8 : Below u2.heap.size u2 (u2.alloc (.cells zA.toArray 36)) := (Below.refl _ _).alloc (Nat.le_refl _) _
          have hAu8 := CF.made u2 zA.toArray 36
          have h2su8 := h2su2.below' hbbu8
          have ht3u8 := ht3u2.below' hbbu8
          have hszu8 : (u2.alloc (.cells zA.toArray 36)).heap.size = u2.heap.size + 1 := by simp
          obtain ⟨pA, hpA⟩ : ∃ pA, pA = u2.heap.size := ⟨_, rfl⟩
          rw [← hpA] at hAu8 hszu8
          rw [← hpA]
          obtain ⟨u8, hu8⟩ : ∃ u8, u8 = u2.alloc (.cells zA.toArray 36) := ⟨_, rfl⟩
          rw [← hu8] at hPWu8 hPPu8 hPMu8 hBu8 hDu8 hbbu8 hAu8 hszu8 h2su8 ht3u8
          have eu8 : (.alloc u2 (.cells #[.int .i64 0, .int .i64 0, .bool false, .int .i64 0, .int .i64 0, .int .i64 0, .int .i64 0, .int .i64 0, .slice none 0 0, .string ⟨#[]⟩, .int .i64 0, .slice none 0 0] 36) : World) = u8 := hu8.symm
          rw [eu8]
          clear hu8 eu8
          have hzu8 : w3.heap.size ≤ u8.heap.size := Nat.le_trans hzu2 hbbu8.size
          have hlu8 : w.heap.size + 2 < u8.heap.size := Nat.lt_of_lt_of_le hlu2 hbbu8.size
          have hAlu8 : pA < u8.heap.size := by omega
          have hAb : w3.heap.size ≤ pA := by omega
          have HPA := hid hpA
          clear hpA
          refine hOne (by kernel_rfl) (hCall (i := 5) (d := some 37) (f := 10) (args := #[.agg #[.int .i64 k, .int .i64 f, .int .i64 t, .int .i64 e, .int .i64 l, .int .i64 dd, .string y, .slice ma mn mc]]) (l' := #[true, true, true, true, true, true, false, true, false]) (R := fun v w' => ∃ g, v = .agg #[.int .i64 k, .int .i64 f, .int .i64 t, .int .i64 e, .int .i64 l, .int .i64 dd, .string y, .slice (some ⟨g, 0, none⟩) mn mn] ∧ OwnC u8.heap.size w' 1 g 0 mn mn (ms.map Value.string) ∧ Below u8.heap.size u8 w') rfl (by kernel_rfl) (by kernel_rfl) (by kernel_rfl) (run_cl1 _ _ rfl (by kernel_rfl) rfl enter_toM) ((toMessage_any k f t e l dd y ma mb mo mn mc ms _ (hm.below' hBu8) hmn).mono fun _ _ ⟨⟨g, he, ho⟩, hb⟩ => ⟨_, he, g, rfl, ho, hb⟩) ?_)
          rintro _ u9 ⟨g7, rfl, ho7, hbu9⟩
          have hPWu9 := hPWu8.block (hbu9.block (w.heap.size) (by omega))
          have hPPu9 := hPPu8.block (hbu9.block (w.heap.size + 1) (by omega))
          have hPMu9 := hPMu8.block (hbu9.block (w.heap.size + 2) (by omega))
          have hBu9 := hBu8.trans (hbu9.mono hBu8.size)
          have hzu9 : w3.heap.size ≤ u9.heap.size := Nat.le_trans hzu8 hbu9.size
          have hlu9 : w.heap.size + 2 < u9.heap.size := Nat.lt_of_lt_of_le hlu8 hbu9.size
          have hDu9 := hDu8.trans (hbu9.mono hzu8)
          have h2su9 := h2su8.below' hbu9
          have ht3u9 := ht3u8.below' hbu9
          have h7su9 := StrsAt.ofOwn ho7 hm.sz
          clear ho7
          have hAu9 := hAu8.block (hbu9.block pA (by omega))
          have hAlu9 : pA < u9.heap.size := Nat.lt_of_lt_of_le hAlu8 hbu9.size
          refine ⟨⟨hPWu9, hPPu9, hPMu9⟩, ?_⟩
          refine hOne (by kernel_rfl) (hCall (i := 6) (d := some 38) (f := 7) (args := #[.agg #[.int .i64 nu, .int .i64 ep, .bool up, .int .i64 st, .int .i64 le, .int .i64 ta, .int .i64 co, .int .i64 lf, .slice (some ⟨g2, 0, none⟩) n n, .string x, .int .i64 si], .agg #[.slice (some ⟨g3, 0, none⟩) pn pn], .agg #[.int .i64 k, .int .i64 f, .int .i64 t, .int .i64 e, .int .i64 l, .int .i64 dd, .string y, .slice (some ⟨g7, 0, none⟩) mn mn]]) (l' := #[true, true, true, true, true, true, true, true, false]) (R := fun v w' => RetA (.returned v) u9.heap.size w' (takeR2 (⟨nu, ep, up, st, le, ta, co, lf, ss, x, si⟩ : WD) ts k f t e l dd y ms) ∧ Below u9.heap.size u9 w') rfl (by kernel_rfl) (by kernel_rfl) (by kernel_rfl) (run_cl3 _ _ _ _ rfl (by kernel_rfl) (by kernel_rfl) (by kernel_rfl) rfl enter_sTake) ((sTakeN_any nu ep up st le ta co lf _ g2 0 n n ss x si _ g3 0 pn pn ts k f t e l dd y _ g7 0 mn mn ms _ h2su9 ht3u9 h7su9 hnn hmn).mono fun e _ ⟨he, hb⟩ => by obtain ⟨d, q, a, c, v, rfl, h1⟩ := he; exact ⟨_, rfl, ⟨d, q, a, c, v, rfl, h1⟩, hb⟩) ?_)
          rintro _ u10 ⟨hret, hbu10⟩
          have hPWu10 := hPWu9.block (hbu10.block (w.heap.size) (by omega))
          have hPPu10 := hPPu9.block (hbu10.block (w.heap.size + 1) (by omega))
          have hPMu10 := hPMu9.block (hbu10.block (w.heap.size + 2) (by omega))
          have hBu10 := hBu9.trans (hbu10.mono hBu9.size)
          have hzu10 : w3.heap.size ≤ u10.heap.size := Nat.le_trans hzu9 hbu10.size
          have hlu10 : w.heap.size + 2 < u10.heap.size := Nat.lt_of_lt_of_le hlu9 hbu10.size
          have hDu10 := hDu9.trans (hbu10.mono hzu9)
          have h2su10 := h2su9.below' hbu10
          have ht3u10 := ht3u9.below' hbu10
          have h7su10 := h7su9.below' hbu10
          have hAu10 := hAu9.block (hbu10.block pA (by omega))
          have hAlu10 : pA < u10.heap.size := Nat.lt_of_lt_of_le hAlu9 hbu10.size
          refine ⟨⟨hPWu10, hPPu10, hPMu10⟩, ?_⟩
          obtain ⟨⟨nu1, ep1, up1, st1, le1, ta1, co1, lf1, ss1, x1, si1⟩, q1, aw, cw, vw, hev, hoL, hoV, hdis, hF⟩ := hret
          simp only [Ending.returned.injEq] at hev
          subst hev
          dsimp only at hoL hdis
          obtain ⟨va, vc, rfl⟩ := hoV.slc
          have hloL := hoL.row_lo
          have hhiL := hoL.row_hi
          have hloV := hoV.row_lo
          have hhiV := hoV.row_hi
          have hoL := hoL.mono' hzu9
          have hoV := hoV.mono' hzu9
          obtain ⟨uz, huz⟩ : ∃ uz, uz = u10.setCells pA 0 [.int .i64 nu1, .int .i64 ep1, .bool up1, .int .i64 st1, .int .i64 le1, .int .i64 ta1, .int .i64 co1, .int .i64 lf1, .slice aw ss1.length cw, .string x1, .int .i64 si1, .slice va (outN q1) vc] := ⟨_, rfl⟩
          have hcz : CF uz pA [.int .i64 nu1, .int .i64 ep1, .bool up1, .int .i64 st1, .int .i64 le1, .int .i64 ta1, .int .i64 co1, .int .i64 lf1, .slice aw ss1.length cw, .string x1, .int .i64 si1, .slice va (outN q1) vc] := by rw [huz]; exact hAu10.stored rfl
          have hgz : u10.grownBy uz (some pA) := by rw [huz]; exact grown_setCells _ _ _ _ _ (World.grownBy.refl _ _)
          have hPWz := hPWu10.block (hgz.block (w.heap.size) (by omega) (by simp; omega))
          have hPPz := hPPu10.block (hgz.block (w.heap.size + 1) (by omega) (by simp; omega))
          have hPMz := hPMu10.block (hgz.block (w.heap.size + 2) (by omega) (by simp; omega))
          have hBz := below_grown hBu10 hgz (by omega) (fun k hk => by simp at hk; omega)
          have hLz := hoL.grown hgz (.inr (by intro hh; have := hloL _ hh; have := hhiL _ hh; have := HPA.out; omega))
          have hVz := hoV.grown hgz (.inr (by intro hh; have := hloV _ hh; have := hhiV _ hh; have := HPA.out; omega))
          have hzz := below_grown hDu10 hgz (by omega) (fun k hk => by simp at hk; omega)
          refine hOne (by kernel_rfl) (hSkip (i := 8) (w' := uz) (l' := #[true, true, true, true, true, true, true, true, true]) rfl (by kernel_rfl) (by kernel_rfl) (by kernel_rfl) (by rw [huz]; exact run_stT 36 zA [.int .i64 nu1, .int .i64 ep1, .bool up1, .int .i64 st1, .int .i64 le1, .int .i64 ta1, .int .i64 co1, .int .i64 lf1, .slice aw ss1.length cw, .string x1, .int .i64 si1, .slice va (outN q1) vc] (.tmp 8) (.tmp 38) (by kernel_rfl) (by kernel_rfl) (by kernel_rfl) hAu10 rfl Tryd.sizeAc (one12 _ _ _ _ _ _ _ _ _ _ _ _ _ _ _ _)) ⟨hPWz, hPPz, hPMz⟩ ?_)
          refine wpAnyH_done (by kernel_rfl) ?_ _
          have HR := hid (show ∃ (p : Nat) (nu1 ep1 : Int) (up1 : Bool) (st1 le1 ta1 co1 lf1 : Int) (ss1 : List ByteArray) (x1 : ByteArray) (si1 : Int) (q1 : Option OM) (aw : Option Addr) (cw : Nat) (vw : Value), (.pointer (some ⟨pA, 0, none⟩) : Value) = .pointer (some ⟨p, 0, none⟩) ∧ CF uz p [.int .i64 nu1, .int .i64 ep1, .bool up1, .int .i64 st1, .int .i64 le1, .int .i64 ta1, .int .i64 co1, .int .i64 lf1, .slice aw ss1.length cw, .string x1, .int .i64 si1, vw] ∧ takeR2 (⟨nu, ep, up, st, le, ta, co, lf, ss, x, si⟩ : WD) ts k f t e l dd y ms (⟨nu1, ep1, up1, st1, le1, ta1, co1, lf1, ss1, x1, si1⟩, q1) ∧ Own w3.heap.size uz 1 (.slice aw ss1.length cw) ss1.length (ss1.map Value.string) ∧ Own w3.heap.size uz 8 vw (outN q1) (outL q1) ∧ ((Value.slice aw ss1.length cw).ownBlock = none ∨ (Value.slice aw ss1.length cw).ownBlock ≠ vw.ownBlock) ∧ w3.heap.size ≤ p ∧ CF uz (w.heap.size) [.int .i64 nu, .int .i64 ep, .bool up, .int .i64 st, .int .i64 le, .int .i64 ta, .int .i64 co, .int .i64 lf, .slice a n c, .string x, .int .i64 si] ∧ CF uz (w.heap.size + 1) [.slice pa pn pc] ∧ CF uz (w.heap.size + 2) [.int .i64 k, .int .i64 f, .int .i64 t, .int .i64 e, .int .i64 l, .int .i64 dd, .string y, .slice ma mn mc] ∧ Below w.heap.size w uz ∧ Below w3.heap.size w3 uz from ⟨pA, nu1, ep1, up1, st1, le1, ta1, co1, lf1, ss1, x1, si1, q1, aw, cw, .slice va (outN q1) vc, rfl, hcz, hF, hLz, hVz, hdis, hAb, hPWz, hPPz, hPMz, hBz, hzz⟩)
          clear hcz hF hLz hVz hdis hPWz hPPz hPMz hBz hzz huz hgz hoL hoV hloL hhiL hloV hhiV
          go_wp2_with fail
          go_meet
          case rel => exact HR.out
      · have hPWu11 := hPWu1.block (Below.heap_alloc u1 (.cells zA.toArray 36) (w.heap.size) (by omega))
        have hPPu11 := hPPu1.block (Below.heap_alloc u1 (.cells zA.toArray 36) (w.heap.size + 1) (by omega))
        have hPMu11 := hPMu1.block (Below.heap_alloc u1 (.cells zA.toArray 36) (w.heap.size + 2) (by omega))
        have hBu11 := hBu1.alloc hBu1.size (.cells zA.toArray 36)
        have hDu11 := hDu1.alloc hDu1.size (.cells zA.toArray 36)
        have hbbu11 : Below u1.heap.size u1 (u1.alloc (.cells zA.toArray 36)) := (Below.refl _ _).alloc (Nat.le_refl _) _
        have hAu11 := CF.made u1 zA.toArray 36
        have h2su11 := h2su1.below' hbbu11
        have hszu11 : (u1.alloc (.cells zA.toArray 36)).heap.size = u1.heap.size + 1 := by simp
        obtain ⟨pA, hpA⟩ : ∃ pA, pA = u1.heap.size := ⟨_, rfl⟩
        rw [← hpA] at hAu11 hszu11
        rw [← hpA]
        obtain ⟨u11, hu11⟩ : ∃ u11, u11 = u1.alloc (.cells zA.toArray 36) := ⟨_, rfl⟩
        rw [← hu11] at hPWu11 hPPu11 hPMu11 hBu11 hDu11 hbbu11 hAu11 hszu11 h2su11
        have eu11 : (.alloc u1 (.cells #[.int .i64 0, .int .i64 0, .bool false, .int .i64 0, .int .i64 0, .int .i64 0, .int .i64 0, .int .i64 0, .slice none 0 0, .string ⟨#[]⟩, .int .i64 0, .slice none 0 0] 36) : World) = u11 := hu11.symm
        rw [eu11]
        clear hu11 eu11
        have hzu11 : w3.heap.size ≤ u11.heap.size := Nat.le_trans hzu1 hbbu11.size
        have hlu11 : w.heap.size + 2 < u11.heap.size := Nat.lt_of_lt_of_le hlu1 hbbu11.size
        have hAlu11 : pA < u11.heap.size := by omega
        have hAb : w3.heap.size ≤ pA := by omega
        have HPA := hid hpA
        clear hpA
        refine hOne (by kernel_rfl) (hCall (i := 3) (d := some 35) (f := 9) (args := #[.agg #[.slice pa pn pc]]) (l' := #[true, true, true, true, true, false, false, true, false]) (R := fun v w' => ∃ g, v = .agg #[.slice (some ⟨g, 0, none⟩) pn pn] ∧ TasksAt w' (some ⟨g, 0, none⟩) g 0 pn ts ∧ Below u11.heap.size u11 w') rfl (by kernel_rfl) (by kernel_rfl) (by kernel_rfl) (run_cl1 _ _ rfl (by kernel_rfl) rfl enter_toP) ((toPlan_any pa pb po pn pc ts _ (hp.below' hBu11) hpn).mono fun _ _ ⟨g, xs, he, _, _, ht, hb⟩ => ⟨_, he, g, rfl, ht, hb⟩) ?_)
        rintro _ u12 ⟨g3, rfl, ht3, hbu12⟩
        have hPWu12 := hPWu11.block (hbu12.block (w.heap.size) (by omega))
        have hPPu12 := hPPu11.block (hbu12.block (w.heap.size + 1) (by omega))
        have hPMu12 := hPMu11.block (hbu12.block (w.heap.size + 2) (by omega))
        have hBu12 := hBu11.trans (hbu12.mono hBu11.size)
        have hzu12 : w3.heap.size ≤ u12.heap.size := Nat.le_trans hzu11 hbu12.size
        have hlu12 : w.heap.size + 2 < u12.heap.size := Nat.lt_of_lt_of_le hlu11 hbu12.size
        have hDu12 := hDu11.trans (hbu12.mono hzu11)
        have h2su12 := h2su11.below' hbu12
        have ht3u12 := ht3
        have hAu12 := hAu11.block (hbu12.block pA (by omega))
        have hAlu12 : pA < u12.heap.size := Nat.lt_of_lt_of_le hAlu11 hbu12.size
        refine ⟨⟨hPWu12, hPPu12, hPMu12⟩, ?_⟩
        refine hOne (by kernel_rfl) (hCall (i := 5) (d := some 37) (f := 10) (args := #[.agg #[.int .i64 k, .int .i64 f, .int .i64 t, .int .i64 e, .int .i64 l, .int .i64 dd, .string y, .slice ma mn mc]]) (l' := #[true, true, true, true, true, true, false, true, false]) (R := fun v w' => ∃ g, v = .agg #[.int .i64 k, .int .i64 f, .int .i64 t, .int .i64 e, .int .i64 l, .int .i64 dd, .string y, .slice (some ⟨g, 0, none⟩) mn mn] ∧ OwnC u12.heap.size w' 1 g 0 mn mn (ms.map Value.string) ∧ Below u12.heap.size u12 w') rfl (by kernel_rfl) (by kernel_rfl) (by kernel_rfl) (run_cl1 _ _ rfl (by kernel_rfl) rfl enter_toM) ((toMessage_any k f t e l dd y ma mb mo mn mc ms _ (hm.below' hBu12) hmn).mono fun _ _ ⟨⟨g, he, ho⟩, hb⟩ => ⟨_, he, g, rfl, ho, hb⟩) ?_)
        rintro _ u13 ⟨g7, rfl, ho7, hbu13⟩
        have hPWu13 := hPWu12.block (hbu13.block (w.heap.size) (by omega))
        have hPPu13 := hPPu12.block (hbu13.block (w.heap.size + 1) (by omega))
        have hPMu13 := hPMu12.block (hbu13.block (w.heap.size + 2) (by omega))
        have hBu13 := hBu12.trans (hbu13.mono hBu12.size)
        have hzu13 : w3.heap.size ≤ u13.heap.size := Nat.le_trans hzu12 hbu13.size
        have hlu13 : w.heap.size + 2 < u13.heap.size := Nat.lt_of_lt_of_le hlu12 hbu13.size
        have hDu13 := hDu12.trans (hbu13.mono hzu12)
        have h2su13 := h2su12.below' hbu13
        have ht3u13 := ht3u12.below' hbu13
        have h7su13 := StrsAt.ofOwn ho7 hm.sz
        clear ho7
        have hAu13 := hAu12.block (hbu13.block pA (by omega))
        have hAlu13 : pA < u13.heap.size := Nat.lt_of_lt_of_le hAlu12 hbu13.size
        refine ⟨⟨hPWu13, hPPu13, hPMu13⟩, ?_⟩
        refine hOne (by kernel_rfl) (hCall (i := 6) (d := some 38) (f := 7) (args := #[.agg #[.int .i64 nu, .int .i64 ep, .bool up, .int .i64 st, .int .i64 le, .int .i64 ta, .int .i64 co, .int .i64 lf, .slice (some ⟨g2, 0, none⟩) n n, .string x, .int .i64 si], .agg #[.slice (some ⟨g3, 0, none⟩) pn pn], .agg #[.int .i64 k, .int .i64 f, .int .i64 t, .int .i64 e, .int .i64 l, .int .i64 dd, .string y, .slice (some ⟨g7, 0, none⟩) mn mn]]) (l' := #[true, true, true, true, true, true, true, true, false]) (R := fun v w' => RetA (.returned v) u13.heap.size w' (takeR2 (⟨nu, ep, up, st, le, ta, co, lf, ss, x, si⟩ : WD) ts k f t e l dd y ms) ∧ Below u13.heap.size u13 w') rfl (by kernel_rfl) (by kernel_rfl) (by kernel_rfl) (run_cl3 _ _ _ _ rfl (by kernel_rfl) (by kernel_rfl) (by kernel_rfl) rfl enter_sTake) ((sTakeN_any nu ep up st le ta co lf _ g2 0 n n ss x si _ g3 0 pn pn ts k f t e l dd y _ g7 0 mn mn ms _ h2su13 ht3u13 h7su13 hnn hmn).mono fun e _ ⟨he, hb⟩ => by obtain ⟨d, q, a, c, v, rfl, h1⟩ := he; exact ⟨_, rfl, ⟨d, q, a, c, v, rfl, h1⟩, hb⟩) ?_)
        rintro _ u14 ⟨hret, hbu14⟩
        have hPWu14 := hPWu13.block (hbu14.block (w.heap.size) (by omega))
        have hPPu14 := hPPu13.block (hbu14.block (w.heap.size + 1) (by omega))
        have hPMu14 := hPMu13.block (hbu14.block (w.heap.size + 2) (by omega))
        have hBu14 := hBu13.trans (hbu14.mono hBu13.size)
        have hzu14 : w3.heap.size ≤ u14.heap.size := Nat.le_trans hzu13 hbu14.size
        have hlu14 : w.heap.size + 2 < u14.heap.size := Nat.lt_of_lt_of_le hlu13 hbu14.size
        have hDu14 := hDu13.trans (hbu14.mono hzu13)
        have h2su14 := h2su13.below' hbu14
        have ht3u14 := ht3u13.below' hbu14
        have h7su14 := h7su13.below' hbu14
        have hAu14 := hAu13.block (hbu14.block pA (by omega))
        have hAlu14 : pA < u14.heap.size := Nat.lt_of_lt_of_le hAlu13 hbu14.size
        refine ⟨⟨hPWu14, hPPu14, hPMu14⟩, ?_⟩
        obtain ⟨⟨nu1, ep1, up1, st1, le1, ta1, co1, lf1, ss1, x1, si1⟩, q1, aw, cw, vw, hev, hoL, hoV, hdis, hF⟩ := hret
        simp only [Ending.returned.injEq] at hev
        subst hev
        dsimp only at hoL hdis
        obtain ⟨va, vc, rfl⟩ := hoV.slc
        have hloL := hoL.row_lo
        have hhiL := hoL.row_hi
        have hloV := hoV.row_lo
        have hhiV := hoV.row_hi
        have hoL := hoL.mono' hzu13
        have hoV := hoV.mono' hzu13
        obtain ⟨uz, huz⟩ : ∃ uz, uz = u14.setCells pA 0 [.int .i64 nu1, .int .i64 ep1, .bool up1, .int .i64 st1, .int .i64 le1, .int .i64 ta1, .int .i64 co1, .int .i64 lf1, .slice aw ss1.length cw, .string x1, .int .i64 si1, .slice va (outN q1) vc] := ⟨_, rfl⟩
        have hcz : CF uz pA [.int .i64 nu1, .int .i64 ep1, .bool up1, .int .i64 st1, .int .i64 le1, .int .i64 ta1, .int .i64 co1, .int .i64 lf1, .slice aw ss1.length cw, .string x1, .int .i64 si1, .slice va (outN q1) vc] := by rw [huz]; exact hAu14.stored rfl
        have hgz : u14.grownBy uz (some pA) := by rw [huz]; exact grown_setCells _ _ _ _ _ (World.grownBy.refl _ _)
        have hPWz := hPWu14.block (hgz.block (w.heap.size) (by omega) (by simp; omega))
        have hPPz := hPPu14.block (hgz.block (w.heap.size + 1) (by omega) (by simp; omega))
        have hPMz := hPMu14.block (hgz.block (w.heap.size + 2) (by omega) (by simp; omega))
        have hBz := below_grown hBu14 hgz (by omega) (fun k hk => by simp at hk; omega)
        have hLz := hoL.grown hgz (.inr (by intro hh; have := hloL _ hh; have := hhiL _ hh; have := HPA.out; omega))
        have hVz := hoV.grown hgz (.inr (by intro hh; have := hloV _ hh; have := hhiV _ hh; have := HPA.out; omega))
        have hzz := below_grown hDu14 hgz (by omega) (fun k hk => by simp at hk; omega)
        refine hOne (by kernel_rfl) (hSkip (i := 8) (w' := uz) (l' := #[true, true, true, true, true, true, true, true, true]) rfl (by kernel_rfl) (by kernel_rfl) (by kernel_rfl) (by rw [huz]; exact run_stT 36 zA [.int .i64 nu1, .int .i64 ep1, .bool up1, .int .i64 st1, .int .i64 le1, .int .i64 ta1, .int .i64 co1, .int .i64 lf1, .slice aw ss1.length cw, .string x1, .int .i64 si1, .slice va (outN q1) vc] (.tmp 8) (.tmp 38) (by kernel_rfl) (by kernel_rfl) (by kernel_rfl) hAu14 rfl Tryd.sizeAc (one12 _ _ _ _ _ _ _ _ _ _ _ _ _ _ _ _)) ⟨hPWz, hPPz, hPMz⟩ ?_)
        refine wpAnyH_done (by kernel_rfl) ?_ _
        have HR := hid (show ∃ (p : Nat) (nu1 ep1 : Int) (up1 : Bool) (st1 le1 ta1 co1 lf1 : Int) (ss1 : List ByteArray) (x1 : ByteArray) (si1 : Int) (q1 : Option OM) (aw : Option Addr) (cw : Nat) (vw : Value), (.pointer (some ⟨pA, 0, none⟩) : Value) = .pointer (some ⟨p, 0, none⟩) ∧ CF uz p [.int .i64 nu1, .int .i64 ep1, .bool up1, .int .i64 st1, .int .i64 le1, .int .i64 ta1, .int .i64 co1, .int .i64 lf1, .slice aw ss1.length cw, .string x1, .int .i64 si1, vw] ∧ takeR2 (⟨nu, ep, up, st, le, ta, co, lf, ss, x, si⟩ : WD) ts k f t e l dd y ms (⟨nu1, ep1, up1, st1, le1, ta1, co1, lf1, ss1, x1, si1⟩, q1) ∧ Own w3.heap.size uz 1 (.slice aw ss1.length cw) ss1.length (ss1.map Value.string) ∧ Own w3.heap.size uz 8 vw (outN q1) (outL q1) ∧ ((Value.slice aw ss1.length cw).ownBlock = none ∨ (Value.slice aw ss1.length cw).ownBlock ≠ vw.ownBlock) ∧ w3.heap.size ≤ p ∧ CF uz (w.heap.size) [.int .i64 nu, .int .i64 ep, .bool up, .int .i64 st, .int .i64 le, .int .i64 ta, .int .i64 co, .int .i64 lf, .slice a n c, .string x, .int .i64 si] ∧ CF uz (w.heap.size + 1) [.slice pa pn pc] ∧ CF uz (w.heap.size + 2) [.int .i64 k, .int .i64 f, .int .i64 t, .int .i64 e, .int .i64 l, .int .i64 dd, .string y, .slice ma mn mc] ∧ Below w.heap.size w uz ∧ Below w3.heap.size w3 uz from ⟨pA, nu1, ep1, up1, st1, le1, ta1, co1, lf1, ss1, x1, si1, q1, aw, cw, .slice va (outN q1) vc, rfl, hcz, hF, hLz, hVz, hdis, hAb, hPWz, hPPz, hPMz, hBz, hzz⟩)
        clear hcz hF hLz hVz hdis hPWz hPPz hPMz hBz hzz huz hgz hoL hoV hloL hhiL hloV hhiV
        go_wp2_with fail
        go_meet
        case rel => exact HR.out
    · have hPWu15 := hPWu0.block (Below.heap_alloc u0 (.cells zA.toArray 36) (w.heap.size) (by omega))
      have hPPu15 := hPPu0.block (Below.heap_alloc u0 (.cells zA.toArray 36) (w.heap.size + 1) (by omega))
      have hPMu15 := hPMu0.block (Below.heap_alloc u0 (.cells zA.toArray 36) (w.heap.size + 2) (by omega))
      have hBu15 := hBu0.alloc hBu0.size (.cells zA.toArray 36)
      have hDu15 := hDu0.alloc hDu0.size (.cells zA.toArray 36)
      have hbbu15 : Below u0.heap.size u0 (u0.alloc (.cells zA.toArray 36)) := (Below.refl _ _).alloc (Nat.le_refl _) _
      have hAu15 := CF.made u0 zA.toArray 36
      have hszu15 : (u0.alloc (.cells zA.toArray 36)).heap.size = u0.heap.size + 1 := by simp
      obtain ⟨pA, hpA⟩ : ∃ pA, pA = u0.heap.size := ⟨_, rfl⟩
      rw [← hpA] at hAu15 hszu15
      rw [← hpA]
      obtain ⟨u15, hu15⟩ : ∃ u15, u15 = u0.alloc (.cells zA.toArray 36) := ⟨_, rfl⟩
      rw [← hu15] at hPWu15 hPPu15 hPMu15 hBu15 hDu15 hbbu15 hAu15 hszu15
      have eu15 : (.alloc u0 (.cells #[.int .i64 0, .int .i64 0, .bool false, .int .i64 0, .int .i64 0, .int .i64 0, .int .i64 0, .int .i64 0, .slice none 0 0, .string ⟨#[]⟩, .int .i64 0, .slice none 0 0] 36) : World) = u15 := hu15.symm
      rw [eu15]
      clear hu15 eu15
      have hzu15 : w3.heap.size ≤ u15.heap.size := Nat.le_trans hzu0 hbbu15.size
      have hlu15 : w.heap.size + 2 < u15.heap.size := Nat.lt_of_lt_of_le hlu0 hbbu15.size
      have hAlu15 : pA < u15.heap.size := by omega
      have hAb : w3.heap.size ≤ pA := by omega
      have HPA := hid hpA
      clear hpA
      refine hOne (by kernel_rfl) (hCall (i := 1) (d := some 33) (f := 8) (args := #[.agg #[.int .i64 nu, .int .i64 ep, .bool up, .int .i64 st, .int .i64 le, .int .i64 ta, .int .i64 co, .int .i64 lf, .slice a n c, .string x, .int .i64 si]]) (l' := #[true, true, true, false, true, false, false, true, false]) (R := fun v w' => ∃ g, v = .agg #[.int .i64 nu, .int .i64 ep, .bool up, .int .i64 st, .int .i64 le, .int .i64 ta, .int .i64 co, .int .i64 lf, .slice (some ⟨g, 0, none⟩) n n, .string x, .int .i64 si] ∧ OwnC u15.heap.size w' 1 g 0 n n (ss.map Value.string) ∧ Below u15.heap.size u15 w') rfl (by kernel_rfl) (by kernel_rfl) (by kernel_rfl) (run_cl1 _ _ rfl (by kernel_rfl) rfl enter_toW) ((toWorker_any nu ep up st le ta co lf x si a b o n c ss _ (h.below' hBu15) hnn).mono fun _ _ ⟨⟨g, he, ho⟩, hb⟩ => ⟨_, he, g, rfl, ho, hb⟩) ?_)
      rintro _ u16 ⟨g2, rfl, ho2, hbu16⟩
      have hPWu16 := hPWu15.block (hbu16.block (w.heap.size) (by omega))
      have hPPu16 := hPPu15.block (hbu16.block (w.heap.size + 1) (by omega))
      have hPMu16 := hPMu15.block (hbu16.block (w.heap.size + 2) (by omega))
      have hBu16 := hBu15.trans (hbu16.mono hBu15.size)
      have hzu16 : w3.heap.size ≤ u16.heap.size := Nat.le_trans hzu15 hbu16.size
      have hlu16 : w.heap.size + 2 < u16.heap.size := Nat.lt_of_lt_of_le hlu15 hbu16.size
      have hDu16 := hDu15.trans (hbu16.mono hzu15)
      have h2su16 := StrsAt.ofOwn ho2 h.sz
      clear ho2
      have hAu16 := hAu15.block (hbu16.block pA (by omega))
      have hAlu16 : pA < u16.heap.size := Nat.lt_of_lt_of_le hAlu15 hbu16.size
      refine ⟨⟨hPWu16, hPPu16, hPMu16⟩, ?_⟩
      refine hOne (by kernel_rfl) (hCall (i := 3) (d := some 35) (f := 9) (args := #[.agg #[.slice pa pn pc]]) (l' := #[true, true, true, true, true, false, false, true, false]) (R := fun v w' => ∃ g, v = .agg #[.slice (some ⟨g, 0, none⟩) pn pn] ∧ TasksAt w' (some ⟨g, 0, none⟩) g 0 pn ts ∧ Below u16.heap.size u16 w') rfl (by kernel_rfl) (by kernel_rfl) (by kernel_rfl) (run_cl1 _ _ rfl (by kernel_rfl) rfl enter_toP) ((toPlan_any pa pb po pn pc ts _ (hp.below' hBu16) hpn).mono fun _ _ ⟨g, xs, he, _, _, ht, hb⟩ => ⟨_, he, g, rfl, ht, hb⟩) ?_)
      rintro _ u17 ⟨g3, rfl, ht3, hbu17⟩
      have hPWu17 := hPWu16.block (hbu17.block (w.heap.size) (by omega))
      have hPPu17 := hPPu16.block (hbu17.block (w.heap.size + 1) (by omega))
      have hPMu17 := hPMu16.block (hbu17.block (w.heap.size + 2) (by omega))
      have hBu17 := hBu16.trans (hbu17.mono hBu16.size)
      have hzu17 : w3.heap.size ≤ u17.heap.size := Nat.le_trans hzu16 hbu17.size
      have hlu17 : w.heap.size + 2 < u17.heap.size := Nat.lt_of_lt_of_le hlu16 hbu17.size
      have hDu17 := hDu16.trans (hbu17.mono hzu16)
      have h2su17 := h2su16.below' hbu17
      have ht3u17 := ht3
      have hAu17 := hAu16.block (hbu17.block pA (by omega))
      have hAlu17 : pA < u17.heap.size := Nat.lt_of_lt_of_le hAlu16 hbu17.size
      refine ⟨⟨hPWu17, hPPu17, hPMu17⟩, ?_⟩
      refine hOne (by kernel_rfl) (hCall (i := 5) (d := some 37) (f := 10) (args := #[.agg #[.int .i64 k, .int .i64 f, .int .i64 t, .int .i64 e, .int .i64 l, .int .i64 dd, .string y, .slice ma mn mc]]) (l' := #[true, true, true, true, true, true, false, true, false]) (R := fun v w' => ∃ g, v = .agg #[.int .i64 k, .int .i64 f, .int .i64 t, .int .i64 e, .int .i64 l, .int .i64 dd, .string y, .slice (some ⟨g, 0, none⟩) mn mn] ∧ OwnC u17.heap.size w' 1 g 0 mn mn (ms.map Value.string) ∧ Below u17.heap.size u17 w') rfl (by kernel_rfl) (by kernel_rfl) (by kernel_rfl) (run_cl1 _ _ rfl (by kernel_rfl) rfl enter_toM) ((toMessage_any k f t e l dd y ma mb mo mn mc ms _ (hm.below' hBu17) hmn).mono fun _ _ ⟨⟨g, he, ho⟩, hb⟩ => ⟨_, he, g, rfl, ho, hb⟩) ?_)
      rintro _ u18 ⟨g7, rfl, ho7, hbu18⟩
      have hPWu18 := hPWu17.block (hbu18.block (w.heap.size) (by omega))
      have hPPu18 := hPPu17.block (hbu18.block (w.heap.size + 1) (by omega))
      have hPMu18 := hPMu17.block (hbu18.block (w.heap.size + 2) (by omega))
      have hBu18 := hBu17.trans (hbu18.mono hBu17.size)
      have hzu18 : w3.heap.size ≤ u18.heap.size := Nat.le_trans hzu17 hbu18.size
      have hlu18 : w.heap.size + 2 < u18.heap.size := Nat.lt_of_lt_of_le hlu17 hbu18.size
      have hDu18 := hDu17.trans (hbu18.mono hzu17)
      have h2su18 := h2su17.below' hbu18
      have ht3u18 := ht3u17.below' hbu18
      have h7su18 := StrsAt.ofOwn ho7 hm.sz
      clear ho7
      have hAu18 := hAu17.block (hbu18.block pA (by omega))
      have hAlu18 : pA < u18.heap.size := Nat.lt_of_lt_of_le hAlu17 hbu18.size
      refine ⟨⟨hPWu18, hPPu18, hPMu18⟩, ?_⟩
      refine hOne (by kernel_rfl) (hCall (i := 6) (d := some 38) (f := 7) (args := #[.agg #[.int .i64 nu, .int .i64 ep, .bool up, .int .i64 st, .int .i64 le, .int .i64 ta, .int .i64 co, .int .i64 lf, .slice (some ⟨g2, 0, none⟩) n n, .string x, .int .i64 si], .agg #[.slice (some ⟨g3, 0, none⟩) pn pn], .agg #[.int .i64 k, .int .i64 f, .int .i64 t, .int .i64 e, .int .i64 l, .int .i64 dd, .string y, .slice (some ⟨g7, 0, none⟩) mn mn]]) (l' := #[true, true, true, true, true, true, true, true, false]) (R := fun v w' => RetA (.returned v) u18.heap.size w' (takeR2 (⟨nu, ep, up, st, le, ta, co, lf, ss, x, si⟩ : WD) ts k f t e l dd y ms) ∧ Below u18.heap.size u18 w') rfl (by kernel_rfl) (by kernel_rfl) (by kernel_rfl) (run_cl3 _ _ _ _ rfl (by kernel_rfl) (by kernel_rfl) (by kernel_rfl) rfl enter_sTake) ((sTakeN_any nu ep up st le ta co lf _ g2 0 n n ss x si _ g3 0 pn pn ts k f t e l dd y _ g7 0 mn mn ms _ h2su18 ht3u18 h7su18 hnn hmn).mono fun e _ ⟨he, hb⟩ => by obtain ⟨d, q, a, c, v, rfl, h1⟩ := he; exact ⟨_, rfl, ⟨d, q, a, c, v, rfl, h1⟩, hb⟩) ?_)
      rintro _ u19 ⟨hret, hbu19⟩
      have hPWu19 := hPWu18.block (hbu19.block (w.heap.size) (by omega))
      have hPPu19 := hPPu18.block (hbu19.block (w.heap.size + 1) (by omega))
      have hPMu19 := hPMu18.block (hbu19.block (w.heap.size + 2) (by omega))
      have hBu19 := hBu18.trans (hbu19.mono hBu18.size)
      have hzu19 : w3.heap.size ≤ u19.heap.size := Nat.le_trans hzu18 hbu19.size
      have hlu19 : w.heap.size + 2 < u19.heap.size := Nat.lt_of_lt_of_le hlu18 hbu19.size
      have hDu19 := hDu18.trans (hbu19.mono hzu18)
      have h2su19 := h2su18.below' hbu19
      have ht3u19 := ht3u18.below' hbu19
      have h7su19 := h7su18.below' hbu19
      have hAu19 := hAu18.block (hbu19.block pA (by omega))
      have hAlu19 : pA < u19.heap.size := Nat.lt_of_lt_of_le hAlu18 hbu19.size
      refine ⟨⟨hPWu19, hPPu19, hPMu19⟩, ?_⟩
      obtain ⟨⟨nu1, ep1, up1, st1, le1, ta1, co1, lf1, ss1, x1, si1⟩, q1, aw, cw, vw, hev, hoL, hoV, hdis, hF⟩ := hret
      simp only [Ending.returned.injEq] at hev
      subst hev
      dsimp only at hoL hdis
      obtain ⟨va, vc, rfl⟩ := hoV.slc
      have hloL := hoL.row_lo
      have hhiL := hoL.row_hi
      have hloV := hoV.row_lo
      have hhiV := hoV.row_hi
      have hoL := hoL.mono' hzu18
      have hoV := hoV.mono' hzu18
      obtain ⟨uz, huz⟩ : ∃ uz, uz = u19.setCells pA 0 [.int .i64 nu1, .int .i64 ep1, .bool up1, .int .i64 st1, .int .i64 le1, .int .i64 ta1, .int .i64 co1, .int .i64 lf1, .slice aw ss1.length cw, .string x1, .int .i64 si1, .slice va (outN q1) vc] := ⟨_, rfl⟩
      have hcz : CF uz pA [.int .i64 nu1, .int .i64 ep1, .bool up1, .int .i64 st1, .int .i64 le1, .int .i64 ta1, .int .i64 co1, .int .i64 lf1, .slice aw ss1.length cw, .string x1, .int .i64 si1, .slice va (outN q1) vc] := by rw [huz]; exact hAu19.stored rfl
      have hgz : u19.grownBy uz (some pA) := by rw [huz]; exact grown_setCells _ _ _ _ _ (World.grownBy.refl _ _)
      have hPWz := hPWu19.block (hgz.block (w.heap.size) (by omega) (by simp; omega))
      have hPPz := hPPu19.block (hgz.block (w.heap.size + 1) (by omega) (by simp; omega))
      have hPMz := hPMu19.block (hgz.block (w.heap.size + 2) (by omega) (by simp; omega))
      have hBz := below_grown hBu19 hgz (by omega) (fun k hk => by simp at hk; omega)
      have hLz := hoL.grown hgz (.inr (by intro hh; have := hloL _ hh; have := hhiL _ hh; have := HPA.out; omega))
      have hVz := hoV.grown hgz (.inr (by intro hh; have := hloV _ hh; have := hhiV _ hh; have := HPA.out; omega))
      have hzz := below_grown hDu19 hgz (by omega) (fun k hk => by simp at hk; omega)
      refine hOne (by kernel_rfl) (hSkip (i := 8) (w' := uz) (l' := #[true, true, true, true, true, true, true, true, true]) rfl (by kernel_rfl) (by kernel_rfl) (by kernel_rfl) (by rw [huz]; exact run_stT 36 zA [.int .i64 nu1, .int .i64 ep1, .bool up1, .int .i64 st1, .int .i64 le1, .int .i64 ta1, .int .i64 co1, .int .i64 lf1, .slice aw ss1.length cw, .string x1, .int .i64 si1, .slice va (outN q1) vc] (.tmp 8) (.tmp 38) (by kernel_rfl) (by kernel_rfl) (by kernel_rfl) hAu19 rfl Tryd.sizeAc (one12 _ _ _ _ _ _ _ _ _ _ _ _ _ _ _ _)) ⟨hPWz, hPPz, hPMz⟩ ?_)
      refine wpAnyH_done (by kernel_rfl) ?_ _
      have HR := hid (show ∃ (p : Nat) (nu1 ep1 : Int) (up1 : Bool) (st1 le1 ta1 co1 lf1 : Int) (ss1 : List ByteArray) (x1 : ByteArray) (si1 : Int) (q1 : Option OM) (aw : Option Addr) (cw : Nat) (vw : Value), (.pointer (some ⟨pA, 0, none⟩) : Value) = .pointer (some ⟨p, 0, none⟩) ∧ CF uz p [.int .i64 nu1, .int .i64 ep1, .bool up1, .int .i64 st1, .int .i64 le1, .int .i64 ta1, .int .i64 co1, .int .i64 lf1, .slice aw ss1.length cw, .string x1, .int .i64 si1, vw] ∧ takeR2 (⟨nu, ep, up, st, le, ta, co, lf, ss, x, si⟩ : WD) ts k f t e l dd y ms (⟨nu1, ep1, up1, st1, le1, ta1, co1, lf1, ss1, x1, si1⟩, q1) ∧ Own w3.heap.size uz 1 (.slice aw ss1.length cw) ss1.length (ss1.map Value.string) ∧ Own w3.heap.size uz 8 vw (outN q1) (outL q1) ∧ ((Value.slice aw ss1.length cw).ownBlock = none ∨ (Value.slice aw ss1.length cw).ownBlock ≠ vw.ownBlock) ∧ w3.heap.size ≤ p ∧ CF uz (w.heap.size) [.int .i64 nu, .int .i64 ep, .bool up, .int .i64 st, .int .i64 le, .int .i64 ta, .int .i64 co, .int .i64 lf, .slice a n c, .string x, .int .i64 si] ∧ CF uz (w.heap.size + 1) [.slice pa pn pc] ∧ CF uz (w.heap.size + 2) [.int .i64 k, .int .i64 f, .int .i64 t, .int .i64 e, .int .i64 l, .int .i64 dd, .string y, .slice ma mn mc] ∧ Below w.heap.size w uz ∧ Below w3.heap.size w3 uz from ⟨pA, nu1, ep1, up1, st1, le1, ta1, co1, lf1, ss1, x1, si1, q1, aw, cw, .slice va (outN q1) vc, rfl, hcz, hF, hLz, hVz, hdis, hAb, hPWz, hPPz, hPMz, hBz, hzz⟩)
      clear hcz hF hLz hVz hdis hPWz hPPz hPMz hBz hzz huz hgz hoL hoV hloL hhiL hloV hhiV
      go_wp2_with fail
      go_meet
      case rel => exact HR.out
  case rest =>
    obtain ⟨wo, rfl⟩ : ∃ wo, wo = wc := ⟨_, rfl⟩
    obtain ⟨p, nu1, ep1, up1, st1, le1, ta1, co1, lf1, ss1, x1, si1, q1, aw, cw, vw, rfl, hX, hF, hoL, hoV, hdis, hpb, hPW, hPP, hPM, hBwo, hzc⟩ := hcut
    obtain ⟨va, vc, rfl⟩ := hoV.slc
    obtain ⟨hn8, hsz⟩ := hF.small
    dsimp only at hn8 hsz
    have HF := hid hF
    have HSZ := hid hsz
    obtain ⟨bs, os, hSs, hbs⟩ := hoL.strsB hsz
    have ST := hid hSs
    have hbs1 := hid (fun h0 : 0 < ss1.length => hSs.lt h0)
    have OV := hid hoV
    have hhV := hid hoV.row_hi
    have PW := hid hPW
    have PP := hid hPP
    have PM := hid hPM
    have MW := hid hX
    have hxl := hid hX.lt
    have hpl := hid hPM.lt
    clear hX hF hoL hoV hdis hPW hPP hPM hSs hbs hsz hpb hzc
    have c0 : wo.cell? ⟨w.heap.size, 0, none⟩ = some (.int .i64 nu) := (PW.out 0 (by simp)).1
    have c1 : wo.cell? ⟨w.heap.size, 1, none⟩ = some (.int .i64 ep) := (PW.out 1 (by simp)).1
    have c2 : wo.cell? ⟨w.heap.size, 2, none⟩ = some (.bool up) := (PW.out 2 (by simp)).1
    have c3 : wo.cell? ⟨w.heap.size, 3, none⟩ = some (.int .i64 st) := (PW.out 3 (by simp)).1
    have c4 : wo.cell? ⟨w.heap.size, 4, none⟩ = some (.int .i64 le) := (PW.out 4 (by simp)).1
    have c5 : wo.cell? ⟨w.heap.size, 5, none⟩ = some (.int .i64 ta) := (PW.out 5 (by simp)).1
    have c6 : wo.cell? ⟨w.heap.size, 6, none⟩ = some (.int .i64 co) := (PW.out 6 (by simp)).1
    have c7 : wo.cell? ⟨w.heap.size, 7, none⟩ = some (.int .i64 lf) := (PW.out 7 (by simp)).1
    have c8 : wo.cell? ⟨w.heap.size, 8, none⟩ = some (.slice a n c) := (PW.out 8 (by simp)).1
    have c9 : wo.cell? ⟨w.heap.size, 9, none⟩ = some (.string x) := (PW.out 9 (by simp)).1
    have c10 : wo.cell? ⟨w.heap.size, 10, none⟩ = some (.int .i64 si) := (PW.out 10 (by simp)).1
    go_wp2_with fail
    refine (toWorker_any nu ep up st le ta co lf x si a b o n c ss _ (h.below' hBwo) hnn).mono ?_
    rintro e' w4 ⟨⟨g4, rfl, ho4⟩, hb4⟩
    have hg4 := hid ho4.lo
    have hg4' := hid ho4.hi
    have OX := hid (show Own _ w4 1 (.slice (some ⟨g4, 0, none⟩) n n) n (ss.map Value.string) from .inr ⟨g4, 0, n, rfl, ho4⟩)
    have h4s := hid (StrsAt.ofOwn ho4 h.sz)
    clear ho4
    clear c0 c1 c2 c3 c4 c5 c6 c7 c8 c9 c10
    have hBw4 := hBwo.trans (hb4.mono hBwo.size)
    have zw4 := hid (hb4.size)
    have PW_w4 := hid (PW.out.belowS hb4)
    clear PW
    have PP_w4 := hid (PP.out.belowS hb4)
    clear PP
    have PM_w4 := hid (PM.out.belowS hb4)
    clear PM
    have MW_w4 := hid (MW.out.belowS hb4)
    clear MW
    have ST_w4 := hid (ST.out.below' hb4)
    clear ST
    have OV_w4 := hid (OV.out.below hb4 (Nat.le_refl _))
    clear OV
    clear hb4 hBwo
    obtain ⟨W4, hW4⟩ : ∃ W4, W4 = w4.alloc (.cells #[.int .i64 nu, .int .i64 ep, .bool up, .int .i64 st, .int .i64 le, .int .i64 ta, .int .i64 co, .int .i64 lf, .slice (some ⟨g4, 0, none⟩) n n, .string x, .int .i64 si] 33) := ⟨_, rfl⟩
    have hbaW4 : Below w4.heap.size w4 W4 := by rw [hW4]; exact (Below.refl _ _).alloc (Nat.le_refl _) _
    have qW4 := hid (show W4.heap.size = w4.heap.size + 1 by rw [hW4]; simp)
    have MX := hid (show CF W4 w4.heap.size [.int .i64 nu, .int .i64 ep, .bool up, .int .i64 st, .int .i64 le, .int .i64 ta, .int .i64 co, .int .i64 lf, .slice (some ⟨g4, 0, none⟩) n n, .string x, .int .i64 si] by rw [hW4]; exact CF.made w4 #[.int .i64 nu, .int .i64 ep, .bool up, .int .i64 st, .int .i64 le, .int .i64 ta, .int .i64 co, .int .i64 lf, .slice (some ⟨g4, 0, none⟩) n n, .string x, .int .i64 si] 33)
    have HW4 := hid hW4
    clear hW4
    have hBW4 := hBw4.trans (hbaW4.mono hBw4.size)
    have zW4 := hid (hbaW4.size)
    have PW_W4 := hid (PW_w4.out.belowS hbaW4)
    clear PW_w4
    have PP_W4 := hid (PP_w4.out.belowS hbaW4)
    clear PP_w4
    have PM_W4 := hid (PM_w4.out.belowS hbaW4)
    clear PM_w4
    have MW_W4 := hid (MW_w4.out.belowS hbaW4)
    clear MW_w4
    have ST_W4 := hid (ST_w4.out.below' hbaW4)
    clear ST_w4
    have OV_W4 := hid (OV_w4.out.below hbaW4 (Nat.le_refl _))
    clear OV_w4
    have OX_W4 := hid (OX.out.below hbaW4 (Nat.le_refl _))
    clear OX
    have h4s_W4 := hid (h4s.out.below' hbaW4)
    clear h4s
    clear hbaW4 hBw4
    go_upto_region 13 with fail
    rw [← HW4.out]
    clear HW4
    have c0 : W4.cell? ⟨w.heap.size + 1, 0, none⟩ = some (.slice pa pn pc) := (PP_W4.out 0 (by simp)).1
    go_wp2_with fail
    refine (toPlan_any pa pb po pn pc ts _ (hp.below' hBW4) hpn).mono ?_
    rintro e' w5 ⟨g5, xs5, rfl, ho5, hbu5, ht5, hb5⟩
    have hg5 := hid ho5.lo
    have hg5' := hid ho5.hi
    have h5t := hid ht5
    have SH := hid (hbu5.shape ho5 hp.len (by omega))
    clear ho5 hbu5 ht5
    clear c0
    have hBw5 := hBW4.trans (hb5.mono hBW4.size)
    have zw5 := hid (hb5.size)
    have PW_w5 := hid (PW_W4.out.belowS hb5)
    clear PW_W4
    have PP_w5 := hid (PP_W4.out.belowS hb5)
    clear PP_W4
    have PM_w5 := hid (PM_W4.out.belowS hb5)
    clear PM_W4
    have MW_w5 := hid (MW_W4.out.belowS hb5)
    clear MW_W4
    have ST_w5 := hid (ST_W4.out.below' hb5)
    clear ST_W4
    have OV_w5 := hid (OV_W4.out.below hb5 (Nat.le_refl _))
    clear OV_W4
    have OX_w5 := hid (OX_W4.out.below hb5 (Nat.le_refl _))
    clear OX_W4
    have h4s_w5 := hid (h4s_W4.out.below' hb5)
    clear h4s_W4
    have MX_w5 := hid (MX.out.belowS hb5)
    clear MX
    clear hb5 hBW4
    obtain ⟨W5, hW5⟩ : ∃ W5, W5 = w5.alloc (.cells #[.slice (some ⟨g5, 0, none⟩) pn pn] 41) := ⟨_, rfl⟩
    have hbaW5 : Below w5.heap.size w5 W5 := by rw [hW5]; exact (Below.refl _ _).alloc (Nat.le_refl _) _
    have qW5 := hid (show W5.heap.size = w5.heap.size + 1 by rw [hW5]; simp)
    have MP := hid (show CF W5 w5.heap.size [.slice (some ⟨g5, 0, none⟩) pn pn] by rw [hW5]; exact CF.made w5 #[.slice (some ⟨g5, 0, none⟩) pn pn] 41)
    have HW5 := hid hW5
    clear hW5
    have hBW5 := hBw5.trans (hbaW5.mono hBw5.size)
    have zW5 := hid (hbaW5.size)
    have PW_W5 := hid (PW_w5.out.belowS hbaW5)
    clear PW_w5
    have PP_W5 := hid (PP_w5.out.belowS hbaW5)
    clear PP_w5
    have PM_W5 := hid (PM_w5.out.belowS hbaW5)
    clear PM_w5
    have MW_W5 := hid (MW_w5.out.belowS hbaW5)
    clear MW_w5
    have ST_W5 := hid (ST_w5.out.below' hbaW5)
    clear ST_w5
    have OV_W5 := hid (OV_w5.out.below hbaW5 (Nat.le_refl _))
    clear OV_w5
    have OX_W5 := hid (OX_w5.out.below hbaW5 (Nat.le_refl _))
    clear OX_w5
    have h4s_W5 := hid (h4s_w5.out.below' hbaW5)
    clear h4s_w5
    have MX_W5 := hid (MX_w5.out.belowS hbaW5)
    clear MX_w5
    have h5t_W5 := hid (h5t.out.below' hbaW5)
    clear h5t
    have SH_W5 := hid (SH.out.below hbaW5)
    clear SH
    clear hbaW5 hBw5
    go_upto_region 14 with fail
    rw [← HW5.out]
    clear HW5
    have c0 : W5.cell? ⟨w.heap.size + 2, 0, none⟩ = some (.int .i64 k) := (PM_W5.out 0 (by simp)).1
    have c1 : W5.cell? ⟨w.heap.size + 2, 1, none⟩ = some (.int .i64 f) := (PM_W5.out 1 (by simp)).1
    have c2 : W5.cell? ⟨w.heap.size + 2, 2, none⟩ = some (.int .i64 t) := (PM_W5.out 2 (by simp)).1
    have c3 : W5.cell? ⟨w.heap.size + 2, 3, none⟩ = some (.int .i64 e) := (PM_W5.out 3 (by simp)).1
    have c4 : W5.cell? ⟨w.heap.size + 2, 4, none⟩ = some (.int .i64 l) := (PM_W5.out 4 (by simp)).1
    have c5 : W5.cell? ⟨w.heap.size + 2, 5, none⟩ = some (.int .i64 dd) := (PM_W5.out 5 (by simp)).1
    have c6 : W5.cell? ⟨w.heap.size + 2, 6, none⟩ = some (.string y) := (PM_W5.out 6 (by simp)).1
    have c7 : W5.cell? ⟨w.heap.size + 2, 7, none⟩ = some (.slice ma mn mc) := (PM_W5.out 7 (by simp)).1
    go_wp2_with fail
    refine (toMessage_any k f t e l dd y ma mb mo mn mc ms _ (hm.below' hBW5) hmn).mono ?_
    rintro e' w5b ⟨⟨gm, rfl, hom⟩, hb5b⟩
    have hgm := hid hom.lo
    have hgm' := hid hom.hi
    have OM_ := hid (show Own _ w5b 1 (.slice (some ⟨gm, 0, none⟩) mn mn) mn (ms.map Value.string) from .inr ⟨gm, 0, mn, rfl, hom⟩)
    have hms := hid (StrsAt.ofOwn hom hm.sz)
    clear hom
    clear c0 c1 c2 c3 c4 c5 c6 c7
    have hBw5b := hBW5.trans (hb5b.mono hBW5.size)
    have zw5b := hid (hb5b.size)
    have PW_w5b := hid (PW_W5.out.belowS hb5b)
    clear PW_W5
    have PP_w5b := hid (PP_W5.out.belowS hb5b)
    clear PP_W5
    have PM_w5b := hid (PM_W5.out.belowS hb5b)
    clear PM_W5
    have MW_w5b := hid (MW_W5.out.belowS hb5b)
    clear MW_W5
    have ST_w5b := hid (ST_W5.out.below' hb5b)
    clear ST_W5
    have OV_w5b := hid (OV_W5.out.below hb5b (Nat.le_refl _))
    clear OV_W5
    have OX_w5b := hid (OX_W5.out.below hb5b (Nat.le_refl _))
    clear OX_W5
    have h4s_w5b := hid (h4s_W5.out.below' hb5b)
    clear h4s_W5
    have MX_w5b := hid (MX_W5.out.belowS hb5b)
    clear MX_W5
    have h5t_w5b := hid (h5t_W5.out.below' hb5b)
    clear h5t_W5
    have SH_w5b := hid (SH_W5.out.below hb5b)
    clear SH_W5
    have MP_w5b := hid (MP.out.belowS hb5b)
    clear MP
    clear hb5b hBW5
    obtain ⟨W5b, hW5b⟩ : ∃ W5b, W5b = w5b.alloc (.cells #[.int .i64 k, .int .i64 f, .int .i64 t, .int .i64 e, .int .i64 l, .int .i64 dd, .string y, .slice (some ⟨gm, 0, none⟩) mn mn] 43) := ⟨_, rfl⟩
    have hbaW5b : Below w5b.heap.size w5b W5b := by rw [hW5b]; exact (Below.refl _ _).alloc (Nat.le_refl _) _
    have qW5b := hid (show W5b.heap.size = w5b.heap.size + 1 by rw [hW5b]; simp)
    have MM := hid (show CF W5b w5b.heap.size [.int .i64 k, .int .i64 f, .int .i64 t, .int .i64 e, .int .i64 l, .int .i64 dd, .string y, .slice (some ⟨gm, 0, none⟩) mn mn] by rw [hW5b]; exact CF.made w5b #[.int .i64 k, .int .i64 f, .int .i64 t, .int .i64 e, .int .i64 l, .int .i64 dd, .string y, .slice (some ⟨gm, 0, none⟩) mn mn] 43)
    have HW5b := hid hW5b
    clear hW5b
    have hBW5b := hBw5b.trans (hbaW5b.mono hBw5b.size)
    have zW5b := hid (hbaW5b.size)
    have PW_W5b := hid (PW_w5b.out.belowS hbaW5b)
    clear PW_w5b
    have PP_W5b := hid (PP_w5b.out.belowS hbaW5b)
    clear PP_w5b
    have PM_W5b := hid (PM_w5b.out.belowS hbaW5b)
    clear PM_w5b
    have MW_W5b := hid (MW_w5b.out.belowS hbaW5b)
    clear MW_w5b
    have ST_W5b := hid (ST_w5b.out.below' hbaW5b)
    clear ST_w5b
    have OV_W5b := hid (OV_w5b.out.below hbaW5b (Nat.le_refl _))
    clear OV_w5b
    have OX_W5b := hid (OX_w5b.out.below hbaW5b (Nat.le_refl _))
    clear OX_w5b
    have h4s_W5b := hid (h4s_w5b.out.below' hbaW5b)
    clear h4s_w5b
    have MX_W5b := hid (MX_w5b.out.belowS hbaW5b)
    clear MX_w5b
    have h5t_W5b := hid (h5t_w5b.out.below' hbaW5b)
    clear h5t_w5b
    have SH_W5b := hid (SH_w5b.out.below hbaW5b)
    clear SH_w5b
    have MP_W5b := hid (MP_w5b.out.belowS hbaW5b)
    clear MP_w5b
    have OM__W5b := hid (OM_.out.below hbaW5b (Nat.le_refl _))
    clear OM_
    have hms_W5b := hid (hms.out.below' hbaW5b)
    clear hms
    clear hbaW5b hBw5b
    go_upto_region 15 with fail
    rw [← HW5b.out]
    clear HW5b
    have kq0 : W5b.cell? ⟨w4.heap.size, 0, none⟩ = some (.int .i64 nu) := (MX_W5b.out 0 (by simp)).1
    have kq1 : W5b.cell? ⟨w4.heap.size, 1, none⟩ = some (.int .i64 ep) := (MX_W5b.out 1 (by simp)).1
    have kq2 : W5b.cell? ⟨w4.heap.size, 2, none⟩ = some (.bool up) := (MX_W5b.out 2 (by simp)).1
    have kq3 : W5b.cell? ⟨w4.heap.size, 3, none⟩ = some (.int .i64 st) := (MX_W5b.out 3 (by simp)).1
    have kq4 : W5b.cell? ⟨w4.heap.size, 4, none⟩ = some (.int .i64 le) := (MX_W5b.out 4 (by simp)).1
    have kq5 : W5b.cell? ⟨w4.heap.size, 5, none⟩ = some (.int .i64 ta) := (MX_W5b.out 5 (by simp)).1
    have kq6 : W5b.cell? ⟨w4.heap.size, 6, none⟩ = some (.int .i64 co) := (MX_W5b.out 6 (by simp)).1
    have kq7 : W5b.cell? ⟨w4.heap.size, 7, none⟩ = some (.int .i64 lf) := (MX_W5b.out 7 (by simp)).1
    have kq8 : W5b.cell? ⟨w4.heap.size, 8, none⟩ = some (.slice (some ⟨g4, 0, none⟩) n n) := (MX_W5b.out 8 (by simp)).1
    have kq9 : W5b.cell? ⟨w4.heap.size, 9, none⟩ = some (.string x) := (MX_W5b.out 9 (by simp)).1
    have kq10 : W5b.cell? ⟨w4.heap.size, 10, none⟩ = some (.int .i64 si) := (MX_W5b.out 10 (by simp)).1
    have c0 : W5b.cell? ⟨w5.heap.size, 0, none⟩ = some (.slice (some ⟨g5, 0, none⟩) pn pn) := (MP_W5b.out 0 (by simp)).1
    have mq0 : W5b.cell? ⟨w5b.heap.size, 0, none⟩ = some (.int .i64 k) := (MM.out 0 (by simp)).1
    have mq1 : W5b.cell? ⟨w5b.heap.size, 1, none⟩ = some (.int .i64 f) := (MM.out 1 (by simp)).1
    have mq2 : W5b.cell? ⟨w5b.heap.size, 2, none⟩ = some (.int .i64 t) := (MM.out 2 (by simp)).1
    have mq3 : W5b.cell? ⟨w5b.heap.size, 3, none⟩ = some (.int .i64 e) := (MM.out 3 (by simp)).1
    have mq4 : W5b.cell? ⟨w5b.heap.size, 4, none⟩ = some (.int .i64 l) := (MM.out 4 (by simp)).1
    have mq5 : W5b.cell? ⟨w5b.heap.size, 5, none⟩ = some (.int .i64 dd) := (MM.out 5 (by simp)).1
    have mq6 : W5b.cell? ⟨w5b.heap.size, 6, none⟩ = some (.string y) := (MM.out 6 (by simp)).1
    have mq7 : W5b.cell? ⟨w5b.heap.size, 7, none⟩ = some (.slice (some ⟨gm, 0, none⟩) mn mn) := (MM.out 7 (by simp)).1
    go_wp2_with fail
    refine (iTakeN_any nu ep up st le ta co lf _ g4 0 n n ss x si _ g5 0 pn pn ts k f t e l dd y _ gm 0 mn mn ms _ h4s_W5b.out h5t_W5b.out hms_W5b.out hnn hmn (hTab.below' hBW5b)).mono ?_
    rintro e' w6 ⟨⟨⟨nu2, ep2, up2, st2, le2, ta2, co2, lf2, ss2, x2, si2⟩, q2, ai, ci, vi, he, hoi, hov, hdi, hF2⟩, hb6⟩
    have hu := HF.out.uniq hF2
    simp only [Prod.mk.injEq, WD.mk.injEq] at hu
    obtain ⟨⟨rfl, rfl, rfl, rfl, rfl, rfl, rfl, rfl, rfl, rfl, rfl⟩, rfl⟩ := hu
    subst he
    obtain ⟨vai, vci, rfl⟩ := hov.slc
    dsimp only at hoi hdi
    have hloi := hid hoi.row_lo
    have hhii := hid hoi.row_hi
    have hlov := hid hov.row_lo
    have hhiv := hid hov.row_hi
    have HDI := hid hdi
    have OG := hid hoi
    have OH := hid hov
    clear hoi hov hdi hF2
    clear kq0 kq1 kq2 kq3 kq4 kq5 kq6 kq7 kq8 kq9 kq10
    clear c0
    clear mq0 mq1 mq2 mq3 mq4 mq5 mq6 mq7
    have hBw6 := hBW5b.trans (hb6.mono hBW5b.size)
    have zw6 := hid (hb6.size)
    have PW_w6 := hid (PW_W5b.out.belowS hb6)
    clear PW_W5b
    have PP_w6 := hid (PP_W5b.out.belowS hb6)
    clear PP_W5b
    have PM_w6 := hid (PM_W5b.out.belowS hb6)
    clear PM_W5b
    have MW_w6 := hid (MW_W5b.out.belowS hb6)
    clear MW_W5b
    have ST_w6 := hid (ST_W5b.out.below' hb6)
    clear ST_W5b
    have OV_w6 := hid (OV_W5b.out.below hb6 (Nat.le_refl _))
    clear OV_W5b
    have OX_w6 := hid (OX_W5b.out.below hb6 (Nat.le_refl _))
    clear OX_W5b
    have h4s_w6 := hid (h4s_W5b.out.below' hb6)
    clear h4s_W5b
    have MX_w6 := hid (MX_W5b.out.belowS hb6)
    clear MX_W5b
    have h5t_w6 := hid (h5t_W5b.out.below' hb6)
    clear h5t_W5b
    have SH_w6 := hid (SH_W5b.out.below hb6)
    clear SH_W5b
    have MP_w6 := hid (MP_W5b.out.belowS hb6)
    clear MP_W5b
    have OM__w6 := hid (OM__W5b.out.below hb6 (Nat.le_refl _))
    clear OM__W5b
    have hms_w6 := hid (hms_W5b.out.below' hb6)
    clear hms_W5b
    have MM_w6 := hid (MM.out.belowS hb6)
    clear MM
    clear hb6 hBW5b
    obtain ⟨W6, hW6⟩ : ∃ W6, W6 = w6.alloc (.cells #[.int .i64 nu1, .int .i64 ep1, .bool up1, .int .i64 st1, .int .i64 le1, .int .i64 ta1, .int .i64 co1, .int .i64 lf1, .slice ai ss1.length ci, .string x1, .int .i64 si1, .slice vai (outN q1) vci] 36) := ⟨_, rfl⟩
    have hbaW6 : Below w6.heap.size w6 W6 := by rw [hW6]; exact (Below.refl _ _).alloc (Nat.le_refl _) _
    have qW6 := hid (show W6.heap.size = w6.heap.size + 1 by rw [hW6]; simp)
    have MG := hid (show CF W6 w6.heap.size [.int .i64 nu1, .int .i64 ep1, .bool up1, .int .i64 st1, .int .i64 le1, .int .i64 ta1, .int .i64 co1, .int .i64 lf1, .slice ai ss1.length ci, .string x1, .int .i64 si1, .slice vai (outN q1) vci] by rw [hW6]; exact CF.made w6 #[.int .i64 nu1, .int .i64 ep1, .bool up1, .int .i64 st1, .int .i64 le1, .int .i64 ta1, .int .i64 co1, .int .i64 lf1, .slice ai ss1.length ci, .string x1, .int .i64 si1, .slice vai (outN q1) vci] 36)
    have HW6 := hid hW6
    clear hW6
    have hBW6 := hBw6.trans (hbaW6.mono hBw6.size)
    have zW6 := hid (hbaW6.size)
    have PW_W6 := hid (PW_w6.out.belowS hbaW6)
    clear PW_w6
    have PP_W6 := hid (PP_w6.out.belowS hbaW6)
    clear PP_w6
    have PM_W6 := hid (PM_w6.out.belowS hbaW6)
    clear PM_w6
    have MW_W6 := hid (MW_w6.out.belowS hbaW6)
    clear MW_w6
    have ST_W6 := hid (ST_w6.out.below' hbaW6)
    clear ST_w6
    have OV_W6 := hid (OV_w6.out.below hbaW6 (Nat.le_refl _))
    clear OV_w6
    have OX_W6 := hid (OX_w6.out.below hbaW6 (Nat.le_refl _))
    clear OX_w6
    have h4s_W6 := hid (h4s_w6.out.below' hbaW6)
    clear h4s_w6
    have MX_W6 := hid (MX_w6.out.belowS hbaW6)
    clear MX_w6
    have h5t_W6 := hid (h5t_w6.out.below' hbaW6)
    clear h5t_w6
    have SH_W6 := hid (SH_w6.out.below hbaW6)
    clear SH_w6
    have MP_W6 := hid (MP_w6.out.belowS hbaW6)
    clear MP_w6
    have OM__W6 := hid (OM__w6.out.below hbaW6 (Nat.le_refl _))
    clear OM__w6
    have hms_W6 := hid (hms_w6.out.below' hbaW6)
    clear hms_w6
    have MM_W6 := hid (MM_w6.out.belowS hbaW6)
    clear MM_w6
    have OG_W6 := hid (OG.out.below hbaW6 (Nat.le_refl _))
    clear OG
    have OH_W6 := hid (OH.out.below hbaW6 (Nat.le_refl _))
    clear OH
    clear hbaW6 hBw6
    go_upto_region 16 with fail
    rw [← HW6.out]
    clear HW6
    have c0 : W6.cell? ⟨w6.heap.size, 0, none⟩ = some (.int .i64 nu1) := (MG.out 0 (by simp)).1
    have c1 : W6.cell? ⟨w6.heap.size, 1, none⟩ = some (.int .i64 ep1) := (MG.out 1 (by simp)).1
    have c2 : W6.cell? ⟨w6.heap.size, 2, none⟩ = some (.bool up1) := (MG.out 2 (by simp)).1
    have c3 : W6.cell? ⟨w6.heap.size, 3, none⟩ = some (.int .i64 st1) := (MG.out 3 (by simp)).1
    have c4 : W6.cell? ⟨w6.heap.size, 4, none⟩ = some (.int .i64 le1) := (MG.out 4 (by simp)).1
    have c5 : W6.cell? ⟨w6.heap.size, 5, none⟩ = some (.int .i64 ta1) := (MG.out 5 (by simp)).1
    have c6 : W6.cell? ⟨w6.heap.size, 6, none⟩ = some (.int .i64 co1) := (MG.out 6 (by simp)).1
    have c7 : W6.cell? ⟨w6.heap.size, 7, none⟩ = some (.int .i64 lf1) := (MG.out 7 (by simp)).1
    have c8 : W6.cell? ⟨w6.heap.size, 8, none⟩ = some (.slice ai ss1.length ci) := (MG.out 8 (by simp)).1
    have c9 : W6.cell? ⟨w6.heap.size, 9, none⟩ = some (.string x1) := (MG.out 9 (by simp)).1
    have c10 : W6.cell? ⟨w6.heap.size, 10, none⟩ = some (.int .i64 si1) := (MG.out 10 (by simp)).1
    have c11 : W6.cell? ⟨w6.heap.size, 11, none⟩ = some (.slice vai (outN q1) vci) := (MG.out 11 (by simp)).1
    have kq0 : W6.cell? ⟨p, 0, none⟩ = some (.int .i64 nu1) := (MW_W6.out 0 (by simp)).1
    have kq1 : W6.cell? ⟨p, 1, none⟩ = some (.int .i64 ep1) := (MW_W6.out 1 (by simp)).1
    have kq2 : W6.cell? ⟨p, 2, none⟩ = some (.bool up1) := (MW_W6.out 2 (by simp)).1
    have kq3 : W6.cell? ⟨p, 3, none⟩ = some (.int .i64 st1) := (MW_W6.out 3 (by simp)).1
    have kq4 : W6.cell? ⟨p, 4, none⟩ = some (.int .i64 le1) := (MW_W6.out 4 (by simp)).1
    have kq5 : W6.cell? ⟨p, 5, none⟩ = some (.int .i64 ta1) := (MW_W6.out 5 (by simp)).1
    have kq6 : W6.cell? ⟨p, 6, none⟩ = some (.int .i64 co1) := (MW_W6.out 6 (by simp)).1
    have kq7 : W6.cell? ⟨p, 7, none⟩ = some (.int .i64 lf1) := (MW_W6.out 7 (by simp)).1
    have kq8 : W6.cell? ⟨p, 8, none⟩ = some (.slice aw ss1.length cw) := (MW_W6.out 8 (by simp)).1
    have kq9 : W6.cell? ⟨p, 9, none⟩ = some (.string x1) := (MW_W6.out 9 (by simp)).1
    have kq10 : W6.cell? ⟨p, 10, none⟩ = some (.int .i64 si1) := (MW_W6.out 10 (by simp)).1
    have kq11 : W6.cell? ⟨p, 11, none⟩ = some (.slice va (outN q1) vc) := (MW_W6.out 11 (by simp)).1
    obtain ⟨bi, oi, hSi, hbi⟩ := OG_W6.out.strsB HSZ.out
    go_wp2_with fail
    refine (eqActed_any nu1 ep1 up1 st1 le1 ta1 co1 lf1 x1 si1 ai aw bi oi ss1.length ci bs os cw ss1 q1 _ _ _ _ _ hSi ST_W6.out OH_W6.out OV_W6.out).mono ?_
    rintro e' w7 ⟨rfl, hb⟩
    clear hSi hbi bi oi
    clear c0 c1 c2 c3 c4 c5 c6 c7 c8 c9 c10 c11
    clear kq0 kq1 kq2 kq3 kq4 kq5 kq6 kq7 kq8 kq9 kq10 kq11
    have hBw7 := hBW6.trans (hb.mono hBW6.size)
    have zw7 := hid (hb.size)
    have PW_w7 := hid (PW_W6.out.belowS hb)
    clear PW_W6
    have PP_w7 := hid (PP_W6.out.belowS hb)
    clear PP_W6
    have PM_w7 := hid (PM_W6.out.belowS hb)
    clear PM_W6
    have MW_w7 := hid (MW_W6.out.belowS hb)
    clear MW_W6
    have ST_w7 := hid (ST_W6.out.below' hb)
    clear ST_W6
    have OV_w7 := hid (OV_W6.out.below hb (Nat.le_refl _))
    clear OV_W6
    have OX_w7 := hid (OX_W6.out.below hb (Nat.le_refl _))
    clear OX_W6
    have h4s_w7 := hid (h4s_W6.out.below' hb)
    clear h4s_W6
    have MX_w7 := hid (MX_W6.out.belowS hb)
    clear MX_W6
    have h5t_w7 := hid (h5t_W6.out.below' hb)
    clear h5t_W6
    have SH_w7 := hid (SH_W6.out.below hb)
    clear SH_W6
    have MP_w7 := hid (MP_W6.out.belowS hb)
    clear MP_W6
    have OM__w7 := hid (OM__W6.out.below hb (Nat.le_refl _))
    clear OM__W6
    have hms_w7 := hid (hms_W6.out.below' hb)
    clear hms_W6
    have MM_w7 := hid (MM_W6.out.belowS hb)
    clear MM_W6
    have OG_w7 := hid (OG_W6.out.below hb (Nat.le_refl _))
    clear OG_W6
    have OH_w7 := hid (OH_W6.out.below hb (Nat.le_refl _))
    clear OH_W6
    have MG_w7 := hid (MG.out.belowS hb)
    clear MG
    clear hb hBW6
    have c0 : w7.cell? ⟨w.heap.size, 0, none⟩ = some (.int .i64 nu) := (PW_w7.out 0 (by simp)).1
    have c1 : w7.cell? ⟨w.heap.size, 1, none⟩ = some (.int .i64 ep) := (PW_w7.out 1 (by simp)).1
    have c2 : w7.cell? ⟨w.heap.size, 2, none⟩ = some (.bool up) := (PW_w7.out 2 (by simp)).1
    have c3 : w7.cell? ⟨w.heap.size, 3, none⟩ = some (.int .i64 st) := (PW_w7.out 3 (by simp)).1
    have c4 : w7.cell? ⟨w.heap.size, 4, none⟩ = some (.int .i64 le) := (PW_w7.out 4 (by simp)).1
    have c5 : w7.cell? ⟨w.heap.size, 5, none⟩ = some (.int .i64 ta) := (PW_w7.out 5 (by simp)).1
    have c6 : w7.cell? ⟨w.heap.size, 6, none⟩ = some (.int .i64 co) := (PW_w7.out 6 (by simp)).1
    have c7 : w7.cell? ⟨w.heap.size, 7, none⟩ = some (.int .i64 lf) := (PW_w7.out 7 (by simp)).1
    have c8 : w7.cell? ⟨w.heap.size, 8, none⟩ = some (.slice a n c) := (PW_w7.out 8 (by simp)).1
    have c9 : w7.cell? ⟨w.heap.size, 9, none⟩ = some (.string x) := (PW_w7.out 9 (by simp)).1
    have c10 : w7.cell? ⟨w.heap.size, 10, none⟩ = some (.int .i64 si) := (PW_w7.out 10 (by simp)).1
    have kq0 : w7.cell? ⟨w4.heap.size, 0, none⟩ = some (.int .i64 nu) := (MX_w7.out 0 (by simp)).1
    have kq1 : w7.cell? ⟨w4.heap.size, 1, none⟩ = some (.int .i64 ep) := (MX_w7.out 1 (by simp)).1
    have kq2 : w7.cell? ⟨w4.heap.size, 2, none⟩ = some (.bool up) := (MX_w7.out 2 (by simp)).1
    have kq3 : w7.cell? ⟨w4.heap.size, 3, none⟩ = some (.int .i64 st) := (MX_w7.out 3 (by simp)).1
    have kq4 : w7.cell? ⟨w4.heap.size, 4, none⟩ = some (.int .i64 le) := (MX_w7.out 4 (by simp)).1
    have kq5 : w7.cell? ⟨w4.heap.size, 5, none⟩ = some (.int .i64 ta) := (MX_w7.out 5 (by simp)).1
    have kq6 : w7.cell? ⟨w4.heap.size, 6, none⟩ = some (.int .i64 co) := (MX_w7.out 6 (by simp)).1
    have kq7 : w7.cell? ⟨w4.heap.size, 7, none⟩ = some (.int .i64 lf) := (MX_w7.out 7 (by simp)).1
    have kq8 : w7.cell? ⟨w4.heap.size, 8, none⟩ = some (.slice (some ⟨g4, 0, none⟩) n n) := (MX_w7.out 8 (by simp)).1
    have kq9 : w7.cell? ⟨w4.heap.size, 9, none⟩ = some (.string x) := (MX_w7.out 9 (by simp)).1
    have kq10 : w7.cell? ⟨w4.heap.size, 10, none⟩ = some (.int .i64 si) := (MX_w7.out 10 (by simp)).1
    go_wp2
    have hBd := hBw7.drew
    have hd6 := h.below' hBd
    have hdp6 := hp.below' hBd
    have hdm6 := hm.below' hBd
    have PWd := hid (show CF w7.drew (w.heap.size) [.int .i64 nu, .int .i64 ep, .bool up, .int .i64 st, .int .i64 le, .int .i64 ta, .int .i64 co, .int .i64 lf, .slice a n c, .string x, .int .i64 si] from PW_w7.out)
    clear PW_w7
    have PPd := hid (show CF w7.drew (w.heap.size + 1) [.slice pa pn pc] from PP_w7.out)
    clear PP_w7
    have PMd := hid (show CF w7.drew (w.heap.size + 2) [.int .i64 k, .int .i64 f, .int .i64 t, .int .i64 e, .int .i64 l, .int .i64 dd, .string y, .slice ma mn mc] from PM_w7.out)
    clear PM_w7
    have MWd := hid (show CF w7.drew (p) [.int .i64 nu1, .int .i64 ep1, .bool up1, .int .i64 st1, .int .i64 le1, .int .i64 ta1, .int .i64 co1, .int .i64 lf1, .slice aw ss1.length cw, .string x1, .int .i64 si1, .slice va (outN q1) vc] from MW_w7.out)
    clear MW_w7
    have STd := hid (ST_w7.out.drew)
    clear ST_w7
    have OVd := hid (OV_w7.out.drewW)
    clear OV_w7
    have OXd := hid (OX_w7.out.drewW)
    clear OX_w7
    have h4sd := hid (h4s_w7.out.drew)
    clear h4s_w7
    have MXd := hid (show CF w7.drew (w4.heap.size) [.int .i64 nu, .int .i64 ep, .bool up, .int .i64 st, .int .i64 le, .int .i64 ta, .int .i64 co, .int .i64 lf, .slice (some ⟨g4, 0, none⟩) n n, .string x, .int .i64 si] from MX_w7.out)
    clear MX_w7
    have h5td := hid (h5t_w7.out.below' (Below.refl _ _).drew)
    clear h5t_w7
    have SHd := hid (SH_w7.out.below (Below.refl _ _).drew)
    clear SH_w7
    have MPd := hid (show CF w7.drew (w5.heap.size) [.slice (some ⟨g5, 0, none⟩) pn pn] from MP_w7.out)
    clear MP_w7
    have OM_d := hid (OM__w7.out.drewW)
    clear OM__w7
    have hmsd := hid (hms_w7.out.drew)
    clear hms_w7
    have MMd := hid (show CF w7.drew (w5b.heap.size) [.int .i64 k, .int .i64 f, .int .i64 t, .int .i64 e, .int .i64 l, .int .i64 dd, .string y, .slice (some ⟨gm, 0, none⟩) mn mn] from MM_w7.out)
    clear MM_w7
    have OGd := hid (OG_w7.out.drewW)
    clear OG_w7
    have OHd := hid (OH_w7.out.drewW)
    clear OH_w7
    have MGd := hid (show CF w7.drew (w6.heap.size) [.int .i64 nu1, .int .i64 ep1, .bool up1, .int .i64 st1, .int .i64 le1, .int .i64 ta1, .int .i64 co1, .int .i64 lf1, .slice ai ss1.length ci, .string x1, .int .i64 si1, .slice vai (outN q1) vci] from MG_w7.out)
    clear MG_w7
    go_region_held3 (fun w' => w'.cell? ⟨w.heap.size, 0, none⟩ = some (.int .i64 nu) ∧ w'.cell? ⟨w.heap.size, 1, none⟩ = some (.int .i64 ep) ∧ w'.cell? ⟨w.heap.size, 2, none⟩ = some (.bool up) ∧ w'.cell? ⟨w.heap.size, 3, none⟩ = some (.int .i64 st) ∧ w'.cell? ⟨w.heap.size, 4, none⟩ = some (.int .i64 le) ∧ w'.cell? ⟨w.heap.size, 5, none⟩ = some (.int .i64 ta) ∧ w'.cell? ⟨w.heap.size, 6, none⟩ = some (.int .i64 co) ∧ w'.cell? ⟨w.heap.size, 7, none⟩ = some (.int .i64 lf) ∧ w'.cell? ⟨w.heap.size, 8, none⟩ = some (.slice a n c) ∧ w'.cell? ⟨w.heap.size, 9, none⟩ = some (.string x) ∧ w'.cell? ⟨w.heap.size, 10, none⟩ = some (.int .i64 si) ∧ w'.cell? ⟨w4.heap.size, 0, none⟩ = some (.int .i64 nu) ∧ w'.cell? ⟨w4.heap.size, 1, none⟩ = some (.int .i64 ep) ∧ w'.cell? ⟨w4.heap.size, 2, none⟩ = some (.bool up) ∧ w'.cell? ⟨w4.heap.size, 3, none⟩ = some (.int .i64 st) ∧ w'.cell? ⟨w4.heap.size, 4, none⟩ = some (.int .i64 le) ∧ w'.cell? ⟨w4.heap.size, 5, none⟩ = some (.int .i64 ta) ∧ w'.cell? ⟨w4.heap.size, 6, none⟩ = some (.int .i64 co) ∧ w'.cell? ⟨w4.heap.size, 7, none⟩ = some (.int .i64 lf) ∧ w'.cell? ⟨w4.heap.size, 8, none⟩ = some (.slice (some ⟨g4, 0, none⟩) n n) ∧ w'.cell? ⟨w4.heap.size, 9, none⟩ = some (.string x) ∧ w'.cell? ⟨w4.heap.size, 10, none⟩ = some (.int .i64 si)) (first | (simp [go_sem, *]; done) | assumption)
      (first
        | (go_at_call 8; refine (toWorker_any nu ep up st le ta co lf x si a b o n c ss _ hd6 hnn).mono ?_; rintro e' w8 ⟨⟨g8, rfl, ho8⟩, hb7⟩; have h8s := StrsAt.ofOwn ho8 h.sz; have y0 := keepC hb7 c0; have y1 := keepC hb7 c1; have y2 := keepC hb7 c2; have y3 := keepC hb7 c3; have y4 := keepC hb7 c4; have y5 := keepC hb7 c5; have y6 := keepC hb7 c6; have y7 := keepC hb7 c7; have y8 := keepC hb7 c8; have y9 := keepC hb7 c9; have y10 := keepC hb7 c10; have t0 := keepC hb7 kq0; have t1 := keepC hb7 kq1; have t2 := keepC hb7 kq2; have t3 := keepC hb7 kq3; have t4 := keepC hb7 kq4; have t5 := keepC hb7 kq5; have t6 := keepC hb7 kq6; have t7 := keepC hb7 kq7; have t8 := keepC hb7 kq8; have t9 := keepC hb7 kq9; have t10 := keepC hb7 kq10; have hB7 := hBd.trans (hb7.mono hBd.size); have zw8 := hid (show w7.heap.size ≤ w8.heap.size from hb7.size); have PWe := hid (PWd.out.belowS hb7); have PPe := hid (PPd.out.belowS hb7); have PMe := hid (PMd.out.belowS hb7); have MWe := hid (MWd.out.belowS hb7); have STe := hid (STd.out.below' hb7); have OVe := hid (OVd.out.below hb7 (Nat.le_refl _)); have OXe := hid (OXd.out.below hb7 (Nat.le_refl _)); have h4se := hid (h4sd.out.below' hb7); have MXe := hid (MXd.out.belowS hb7); have h5te := hid (h5td.out.below' hb7); have SHe := hid (SHd.out.below hb7); have MPe := hid (MPd.out.belowS hb7); have OM_e := hid (OM_d.out.below hb7 (Nat.le_refl _)); have hmse := hid (hmsd.out.below' hb7); have MMe := hid (MMd.out.belowS hb7); have OGe := hid (OGd.out.below hb7 (Nat.le_refl _)); have OHe := hid (OHd.out.below hb7 (Nat.le_refl _)); have MGe := hid (MGd.out.belowS hb7))
        | (go_at_call 13; refine (eqWorker_any nu ep up st le ta co lf x si _ _ g4 0 n n g8 0 n ss _ h4se.out h8s).mono ?_; rintro e' w9 ⟨rfl, hb8⟩; have y0a := keepB hb8 y0; have y1a := keepB hb8 y1; have y2a := keepB hb8 y2; have y3a := keepB hb8 y3; have y4a := keepB hb8 y4; have y5a := keepB hb8 y5; have y6a := keepB hb8 y6; have y7a := keepB hb8 y7; have y8a := keepB hb8 y8; have y9a := keepB hb8 y9; have y10a := keepB hb8 y10; have t0a := keepB hb8 t0; have t1a := keepB hb8 t1; have t2a := keepB hb8 t2; have t3a := keepB hb8 t3; have t4a := keepB hb8 t4; have t5a := keepB hb8 t5; have t6a := keepB hb8 t6; have t7a := keepB hb8 t7; have t8a := keepB hb8 t8; have t9a := keepB hb8 t9; have t10a := keepB hb8 t10; have hBw9 := hB7.trans (hb8.mono hB7.size); have zw9 := hid hb8.size; have PWf := hid (PWe.out.belowS hb8); have PPf := hid (PPe.out.belowS hb8); have PMf := hid (PMe.out.belowS hb8); have MWf := hid (MWe.out.belowS hb8); have STf := hid (STe.out.below' hb8); have OVf := hid (OVe.out.below hb8 (Nat.le_refl _)); have OXf := hid (OXe.out.below hb8 (Nat.le_refl _)); have h4sf := hid (h4se.out.below' hb8); have MXf := hid (MXe.out.belowS hb8); have h5tf := hid (h5te.out.below' hb8); have SHf := hid (SHe.out.below hb8); have MPf := hid (MPe.out.belowS hb8); have OM_f := hid (OM_e.out.below hb8 (Nat.le_refl _)); have hmsf := hid (hmse.out.below' hb8); have MMf := hid (MMe.out.belowS hb8); have OGf := hid (OGe.out.below hb8 (Nat.le_refl _)); have OHf := hid (OHe.out.below hb8 (Nat.le_refl _)); have MGf := hid (MGe.out.belowS hb8)))
    clear c0 y0 y0a c1 y1 y1a c2 y2 y2a c3 y3 y3a c4 y4 y4a c5 y5 y5a c6 y6 y6a c7 y7 y7a c8 y8 y8a c9 y9 y9a c10 y10 y10a kq0 t0 t0a kq1 t1 t1a kq2 t2 t2a kq3 t3 t3a kq4 t4 t4a kq5 t5 t5a kq6 t6 t6a kq7 t7 t7a kq8 t8 t8a kq9 t9 t9a kq10 t10 t10a
    clear PWd PWe PPd PPe PMd PMe MWd MWe STd STe OVd OVe OXd OXe h4sd h4se MXd MXe h5td h5te SHd SHe MPd MPe OM_d OM_e hmsd hmse MMd MMe OGd OGe OHd OHe MGd MGe hB7 hBd hd6 hdp6 hdm6 hb7 hb8 hBw7 h8s ho8
    have PW_w9 := PWf
    clear PWf
    have PP_w9 := PPf
    clear PPf
    have PM_w9 := PMf
    clear PMf
    have MW_w9 := MWf
    clear MWf
    have ST_w9 := STf
    clear STf
    have OV_w9 := OVf
    clear OVf
    have OX_w9 := OXf
    clear OXf
    have h4s_w9 := h4sf
    clear h4sf
    have MX_w9 := MXf
    clear MXf
    have h5t_w9 := h5tf
    clear h5tf
    have SH_w9 := SHf
    clear SHf
    have MP_w9 := MPf
    clear MPf
    have OM__w9 := OM_f
    clear OM_f
    have hms_w9 := hmsf
    clear hmsf
    have MM_w9 := MMf
    clear MMf
    have OG_w9 := OGf
    clear OGf
    have OH_w9 := OHf
    clear OHf
    have MG_w9 := MGf
    clear MGf
    have c0 : w9.cell? ⟨w.heap.size + 1, 0, none⟩ = some (.slice pa pn pc) := (PP_w9.out 0 (by simp)).1
    have kq0 : w9.cell? ⟨w5.heap.size, 0, none⟩ = some (.slice (some ⟨g5, 0, none⟩) pn pn) := (MP_w9.out 0 (by simp)).1
    go_wp2
    have hBd := hBw9.drew
    have hd6 := h.below' hBd
    have hdp6 := hp.below' hBd
    have hdm6 := hm.below' hBd
    have PWd := hid (show CF w9.drew (w.heap.size) [.int .i64 nu, .int .i64 ep, .bool up, .int .i64 st, .int .i64 le, .int .i64 ta, .int .i64 co, .int .i64 lf, .slice a n c, .string x, .int .i64 si] from PW_w9.out)
    clear PW_w9
    have PPd := hid (show CF w9.drew (w.heap.size + 1) [.slice pa pn pc] from PP_w9.out)
    clear PP_w9
    have PMd := hid (show CF w9.drew (w.heap.size + 2) [.int .i64 k, .int .i64 f, .int .i64 t, .int .i64 e, .int .i64 l, .int .i64 dd, .string y, .slice ma mn mc] from PM_w9.out)
    clear PM_w9
    have MWd := hid (show CF w9.drew (p) [.int .i64 nu1, .int .i64 ep1, .bool up1, .int .i64 st1, .int .i64 le1, .int .i64 ta1, .int .i64 co1, .int .i64 lf1, .slice aw ss1.length cw, .string x1, .int .i64 si1, .slice va (outN q1) vc] from MW_w9.out)
    clear MW_w9
    have STd := hid (ST_w9.out.drew)
    clear ST_w9
    have OVd := hid (OV_w9.out.drewW)
    clear OV_w9
    have OXd := hid (OX_w9.out.drewW)
    clear OX_w9
    have h4sd := hid (h4s_w9.out.drew)
    clear h4s_w9
    have MXd := hid (show CF w9.drew (w4.heap.size) [.int .i64 nu, .int .i64 ep, .bool up, .int .i64 st, .int .i64 le, .int .i64 ta, .int .i64 co, .int .i64 lf, .slice (some ⟨g4, 0, none⟩) n n, .string x, .int .i64 si] from MX_w9.out)
    clear MX_w9
    have h5td := hid (h5t_w9.out.below' (Below.refl _ _).drew)
    clear h5t_w9
    have SHd := hid (SH_w9.out.below (Below.refl _ _).drew)
    clear SH_w9
    have MPd := hid (show CF w9.drew (w5.heap.size) [.slice (some ⟨g5, 0, none⟩) pn pn] from MP_w9.out)
    clear MP_w9
    have OM_d := hid (OM__w9.out.drewW)
    clear OM__w9
    have hmsd := hid (hms_w9.out.drew)
    clear hms_w9
    have MMd := hid (show CF w9.drew (w5b.heap.size) [.int .i64 k, .int .i64 f, .int .i64 t, .int .i64 e, .int .i64 l, .int .i64 dd, .string y, .slice (some ⟨gm, 0, none⟩) mn mn] from MM_w9.out)
    clear MM_w9
    have OGd := hid (OG_w9.out.drewW)
    clear OG_w9
    have OHd := hid (OH_w9.out.drewW)
    clear OH_w9
    have MGd := hid (show CF w9.drew (w6.heap.size) [.int .i64 nu1, .int .i64 ep1, .bool up1, .int .i64 st1, .int .i64 le1, .int .i64 ta1, .int .i64 co1, .int .i64 lf1, .slice ai ss1.length ci, .string x1, .int .i64 si1, .slice vai (outN q1) vci] from MG_w9.out)
    clear MG_w9
    go_region_held3 (fun w' => w'.cell? ⟨w.heap.size + 1, 0, none⟩ = some (.slice pa pn pc) ∧ w'.cell? ⟨w5.heap.size, 0, none⟩ = some (.slice (some ⟨g5, 0, none⟩) pn pn)) (first | (simp [go_sem, *]; done) | assumption)
      (first
        | (go_at_call 9; refine (toPlan_any pa pb po pn pc ts _ hdp6 hpn).mono ?_; rintro e' w10 ⟨g10, xs10, rfl, ho10, hbu10, ht10, hb7⟩; have y0 := keepC hb7 c0; have t0 := keepC hb7 kq0; have hB7 := hBd.trans (hb7.mono hBd.size); have zw10 := hid (show w9.heap.size ≤ w10.heap.size from hb7.size); have PWe := hid (PWd.out.belowS hb7); have PPe := hid (PPd.out.belowS hb7); have PMe := hid (PMd.out.belowS hb7); have MWe := hid (MWd.out.belowS hb7); have STe := hid (STd.out.below' hb7); have OVe := hid (OVd.out.below hb7 (Nat.le_refl _)); have OXe := hid (OXd.out.below hb7 (Nat.le_refl _)); have h4se := hid (h4sd.out.below' hb7); have MXe := hid (MXd.out.belowS hb7); have h5te := hid (h5td.out.below' hb7); have SHe := hid (SHd.out.below hb7); have MPe := hid (MPd.out.belowS hb7); have OM_e := hid (OM_d.out.below hb7 (Nat.le_refl _)); have hmse := hid (hmsd.out.below' hb7); have MMe := hid (MMd.out.belowS hb7); have OGe := hid (OGd.out.below hb7 (Nat.le_refl _)); have OHe := hid (OHd.out.below hb7 (Nat.le_refl _)); have MGe := hid (MGd.out.belowS hb7))
        | (go_at_call 14; refine (eqPlan_any _ _ g5 0 pn pn g10 0 pn ts _ h5te.out ht10).mono ?_; rintro e' w11 ⟨rfl, hb8⟩; have y0a := keepB hb8 y0; have t0a := keepB hb8 t0; have hBw11 := hB7.trans (hb8.mono hB7.size); have zw11 := hid hb8.size; have PWf := hid (PWe.out.belowS hb8); have PPf := hid (PPe.out.belowS hb8); have PMf := hid (PMe.out.belowS hb8); have MWf := hid (MWe.out.belowS hb8); have STf := hid (STe.out.below' hb8); have OVf := hid (OVe.out.below hb8 (Nat.le_refl _)); have OXf := hid (OXe.out.below hb8 (Nat.le_refl _)); have h4sf := hid (h4se.out.below' hb8); have MXf := hid (MXe.out.belowS hb8); have h5tf := hid (h5te.out.below' hb8); have SHf := hid (SHe.out.below hb8); have MPf := hid (MPe.out.belowS hb8); have OM_f := hid (OM_e.out.below hb8 (Nat.le_refl _)); have hmsf := hid (hmse.out.below' hb8); have MMf := hid (MMe.out.belowS hb8); have OGf := hid (OGe.out.below hb8 (Nat.le_refl _)); have OHf := hid (OHe.out.below hb8 (Nat.le_refl _)); have MGf := hid (MGe.out.belowS hb8)))
    clear c0 y0 y0a kq0 t0 t0a
    clear PWd PWe PPd PPe PMd PMe MWd MWe STd STe OVd OVe OXd OXe h4sd h4se MXd MXe h5td h5te SHd SHe MPd MPe OM_d OM_e hmsd hmse MMd MMe OGd OGe OHd OHe MGd MGe hB7 hBd hd6 hdp6 hdm6 hb7 hb8 hBw9 ho10 hbu10 ht10
    have PW_w11 := PWf
    clear PWf
    have PP_w11 := PPf
    clear PPf
    have PM_w11 := PMf
    clear PMf
    have MW_w11 := MWf
    clear MWf
    have ST_w11 := STf
    clear STf
    have OV_w11 := OVf
    clear OVf
    have OX_w11 := OXf
    clear OXf
    have h4s_w11 := h4sf
    clear h4sf
    have MX_w11 := MXf
    clear MXf
    have h5t_w11 := h5tf
    clear h5tf
    have SH_w11 := SHf
    clear SHf
    have MP_w11 := MPf
    clear MPf
    have OM__w11 := OM_f
    clear OM_f
    have hms_w11 := hmsf
    clear hmsf
    have MM_w11 := MMf
    clear MMf
    have OG_w11 := OGf
    clear OGf
    have OH_w11 := OHf
    clear OHf
    have MG_w11 := MGf
    clear MGf
    have c0 : w11.cell? ⟨w.heap.size + 2, 0, none⟩ = some (.int .i64 k) := (PM_w11.out 0 (by simp)).1
    have c1 : w11.cell? ⟨w.heap.size + 2, 1, none⟩ = some (.int .i64 f) := (PM_w11.out 1 (by simp)).1
    have c2 : w11.cell? ⟨w.heap.size + 2, 2, none⟩ = some (.int .i64 t) := (PM_w11.out 2 (by simp)).1
    have c3 : w11.cell? ⟨w.heap.size + 2, 3, none⟩ = some (.int .i64 e) := (PM_w11.out 3 (by simp)).1
    have c4 : w11.cell? ⟨w.heap.size + 2, 4, none⟩ = some (.int .i64 l) := (PM_w11.out 4 (by simp)).1
    have c5 : w11.cell? ⟨w.heap.size + 2, 5, none⟩ = some (.int .i64 dd) := (PM_w11.out 5 (by simp)).1
    have c6 : w11.cell? ⟨w.heap.size + 2, 6, none⟩ = some (.string y) := (PM_w11.out 6 (by simp)).1
    have c7 : w11.cell? ⟨w.heap.size + 2, 7, none⟩ = some (.slice ma mn mc) := (PM_w11.out 7 (by simp)).1
    have kq0 : w11.cell? ⟨w5b.heap.size, 0, none⟩ = some (.int .i64 k) := (MM_w11.out 0 (by simp)).1
    have kq1 : w11.cell? ⟨w5b.heap.size, 1, none⟩ = some (.int .i64 f) := (MM_w11.out 1 (by simp)).1
    have kq2 : w11.cell? ⟨w5b.heap.size, 2, none⟩ = some (.int .i64 t) := (MM_w11.out 2 (by simp)).1
    have kq3 : w11.cell? ⟨w5b.heap.size, 3, none⟩ = some (.int .i64 e) := (MM_w11.out 3 (by simp)).1
    have kq4 : w11.cell? ⟨w5b.heap.size, 4, none⟩ = some (.int .i64 l) := (MM_w11.out 4 (by simp)).1
    have kq5 : w11.cell? ⟨w5b.heap.size, 5, none⟩ = some (.int .i64 dd) := (MM_w11.out 5 (by simp)).1
    have kq6 : w11.cell? ⟨w5b.heap.size, 6, none⟩ = some (.string y) := (MM_w11.out 6 (by simp)).1
    have kq7 : w11.cell? ⟨w5b.heap.size, 7, none⟩ = some (.slice (some ⟨gm, 0, none⟩) mn mn) := (MM_w11.out 7 (by simp)).1
    go_wp2
    have hBd := hBw11.drew
    have hd6 := h.below' hBd
    have hdp6 := hp.below' hBd
    have hdm6 := hm.below' hBd
    have PWd := hid (show CF w11.drew (w.heap.size) [.int .i64 nu, .int .i64 ep, .bool up, .int .i64 st, .int .i64 le, .int .i64 ta, .int .i64 co, .int .i64 lf, .slice a n c, .string x, .int .i64 si] from PW_w11.out)
    clear PW_w11
    have PPd := hid (show CF w11.drew (w.heap.size + 1) [.slice pa pn pc] from PP_w11.out)
    clear PP_w11
    have PMd := hid (show CF w11.drew (w.heap.size + 2) [.int .i64 k, .int .i64 f, .int .i64 t, .int .i64 e, .int .i64 l, .int .i64 dd, .string y, .slice ma mn mc] from PM_w11.out)
    clear PM_w11
    have MWd := hid (show CF w11.drew (p) [.int .i64 nu1, .int .i64 ep1, .bool up1, .int .i64 st1, .int .i64 le1, .int .i64 ta1, .int .i64 co1, .int .i64 lf1, .slice aw ss1.length cw, .string x1, .int .i64 si1, .slice va (outN q1) vc] from MW_w11.out)
    clear MW_w11
    have STd := hid (ST_w11.out.drew)
    clear ST_w11
    have OVd := hid (OV_w11.out.drewW)
    clear OV_w11
    have OXd := hid (OX_w11.out.drewW)
    clear OX_w11
    have h4sd := hid (h4s_w11.out.drew)
    clear h4s_w11
    have MXd := hid (show CF w11.drew (w4.heap.size) [.int .i64 nu, .int .i64 ep, .bool up, .int .i64 st, .int .i64 le, .int .i64 ta, .int .i64 co, .int .i64 lf, .slice (some ⟨g4, 0, none⟩) n n, .string x, .int .i64 si] from MX_w11.out)
    clear MX_w11
    have h5td := hid (h5t_w11.out.below' (Below.refl _ _).drew)
    clear h5t_w11
    have SHd := hid (SH_w11.out.below (Below.refl _ _).drew)
    clear SH_w11
    have MPd := hid (show CF w11.drew (w5.heap.size) [.slice (some ⟨g5, 0, none⟩) pn pn] from MP_w11.out)
    clear MP_w11
    have OM_d := hid (OM__w11.out.drewW)
    clear OM__w11
    have hmsd := hid (hms_w11.out.drew)
    clear hms_w11
    have MMd := hid (show CF w11.drew (w5b.heap.size) [.int .i64 k, .int .i64 f, .int .i64 t, .int .i64 e, .int .i64 l, .int .i64 dd, .string y, .slice (some ⟨gm, 0, none⟩) mn mn] from MM_w11.out)
    clear MM_w11
    have OGd := hid (OG_w11.out.drewW)
    clear OG_w11
    have OHd := hid (OH_w11.out.drewW)
    clear OH_w11
    have MGd := hid (show CF w11.drew (w6.heap.size) [.int .i64 nu1, .int .i64 ep1, .bool up1, .int .i64 st1, .int .i64 le1, .int .i64 ta1, .int .i64 co1, .int .i64 lf1, .slice ai ss1.length ci, .string x1, .int .i64 si1, .slice vai (outN q1) vci] from MG_w11.out)
    clear MG_w11
    go_region_held3 (fun w' => w'.cell? ⟨w.heap.size + 2, 0, none⟩ = some (.int .i64 k) ∧ w'.cell? ⟨w.heap.size + 2, 1, none⟩ = some (.int .i64 f) ∧ w'.cell? ⟨w.heap.size + 2, 2, none⟩ = some (.int .i64 t) ∧ w'.cell? ⟨w.heap.size + 2, 3, none⟩ = some (.int .i64 e) ∧ w'.cell? ⟨w.heap.size + 2, 4, none⟩ = some (.int .i64 l) ∧ w'.cell? ⟨w.heap.size + 2, 5, none⟩ = some (.int .i64 dd) ∧ w'.cell? ⟨w.heap.size + 2, 6, none⟩ = some (.string y) ∧ w'.cell? ⟨w.heap.size + 2, 7, none⟩ = some (.slice ma mn mc) ∧ w'.cell? ⟨w5b.heap.size, 0, none⟩ = some (.int .i64 k) ∧ w'.cell? ⟨w5b.heap.size, 1, none⟩ = some (.int .i64 f) ∧ w'.cell? ⟨w5b.heap.size, 2, none⟩ = some (.int .i64 t) ∧ w'.cell? ⟨w5b.heap.size, 3, none⟩ = some (.int .i64 e) ∧ w'.cell? ⟨w5b.heap.size, 4, none⟩ = some (.int .i64 l) ∧ w'.cell? ⟨w5b.heap.size, 5, none⟩ = some (.int .i64 dd) ∧ w'.cell? ⟨w5b.heap.size, 6, none⟩ = some (.string y) ∧ w'.cell? ⟨w5b.heap.size, 7, none⟩ = some (.slice (some ⟨gm, 0, none⟩) mn mn)) (first | (simp [go_sem, *]; done) | assumption)
      (first
        | (go_at_call 10; refine (toMessage_any k f t e l dd y ma mb mo mn mc ms _ hdm6 hmn).mono ?_; rintro e' w11a ⟨⟨g11, rfl, ho11⟩, hb7⟩; have h11s := StrsAt.ofOwn ho11 hm.sz; have y0 := keepC hb7 c0; have y1 := keepC hb7 c1; have y2 := keepC hb7 c2; have y3 := keepC hb7 c3; have y4 := keepC hb7 c4; have y5 := keepC hb7 c5; have y6 := keepC hb7 c6; have y7 := keepC hb7 c7; have t0 := keepC hb7 kq0; have t1 := keepC hb7 kq1; have t2 := keepC hb7 kq2; have t3 := keepC hb7 kq3; have t4 := keepC hb7 kq4; have t5 := keepC hb7 kq5; have t6 := keepC hb7 kq6; have t7 := keepC hb7 kq7; have hB7 := hBd.trans (hb7.mono hBd.size); have zw11a := hid (show w11.heap.size ≤ w11a.heap.size from hb7.size); have PWe := hid (PWd.out.belowS hb7); have PPe := hid (PPd.out.belowS hb7); have PMe := hid (PMd.out.belowS hb7); have MWe := hid (MWd.out.belowS hb7); have STe := hid (STd.out.below' hb7); have OVe := hid (OVd.out.below hb7 (Nat.le_refl _)); have OXe := hid (OXd.out.below hb7 (Nat.le_refl _)); have h4se := hid (h4sd.out.below' hb7); have MXe := hid (MXd.out.belowS hb7); have h5te := hid (h5td.out.below' hb7); have SHe := hid (SHd.out.below hb7); have MPe := hid (MPd.out.belowS hb7); have OM_e := hid (OM_d.out.below hb7 (Nat.le_refl _)); have hmse := hid (hmsd.out.below' hb7); have MMe := hid (MMd.out.belowS hb7); have OGe := hid (OGd.out.below hb7 (Nat.le_refl _)); have OHe := hid (OHd.out.below hb7 (Nat.le_refl _)); have MGe := hid (MGd.out.belowS hb7))
        | (go_at_call 15; refine (eqMessage_any k f t e l dd y _ _ gm 0 mn mn g11 0 mn ms _ hmse.out h11s).mono ?_; rintro e' w11b ⟨rfl, hb8⟩; have y0a := keepB hb8 y0; have y1a := keepB hb8 y1; have y2a := keepB hb8 y2; have y3a := keepB hb8 y3; have y4a := keepB hb8 y4; have y5a := keepB hb8 y5; have y6a := keepB hb8 y6; have y7a := keepB hb8 y7; have t0a := keepB hb8 t0; have t1a := keepB hb8 t1; have t2a := keepB hb8 t2; have t3a := keepB hb8 t3; have t4a := keepB hb8 t4; have t5a := keepB hb8 t5; have t6a := keepB hb8 t6; have t7a := keepB hb8 t7; have hBw11b := hB7.trans (hb8.mono hB7.size); have zw11b := hid hb8.size; have PWf := hid (PWe.out.belowS hb8); have PPf := hid (PPe.out.belowS hb8); have PMf := hid (PMe.out.belowS hb8); have MWf := hid (MWe.out.belowS hb8); have STf := hid (STe.out.below' hb8); have OVf := hid (OVe.out.below hb8 (Nat.le_refl _)); have OXf := hid (OXe.out.below hb8 (Nat.le_refl _)); have h4sf := hid (h4se.out.below' hb8); have MXf := hid (MXe.out.belowS hb8); have h5tf := hid (h5te.out.below' hb8); have SHf := hid (SHe.out.below hb8); have MPf := hid (MPe.out.belowS hb8); have OM_f := hid (OM_e.out.below hb8 (Nat.le_refl _)); have hmsf := hid (hmse.out.below' hb8); have MMf := hid (MMe.out.belowS hb8); have OGf := hid (OGe.out.below hb8 (Nat.le_refl _)); have OHf := hid (OHe.out.below hb8 (Nat.le_refl _)); have MGf := hid (MGe.out.belowS hb8)))
    clear c0 y0 y0a c1 y1 y1a c2 y2 y2a c3 y3 y3a c4 y4 y4a c5 y5 y5a c6 y6 y6a c7 y7 y7a kq0 t0 t0a kq1 t1 t1a kq2 t2 t2a kq3 t3 t3a kq4 t4 t4a kq5 t5 t5a kq6 t6 t6a kq7 t7 t7a
    clear PWd PWe PPd PPe PMd PMe MWd MWe STd STe OVd OVe OXd OXe h4sd h4se MXd MXe h5td h5te SHd SHe MPd MPe OM_d OM_e hmsd hmse MMd MMe OGd OGe OHd OHe MGd MGe hB7 hBd hd6 hdp6 hdm6 hb7 hb8 hBw11 h11s ho11
    have PW_w11b := PWf
    clear PWf
    have PP_w11b := PPf
    clear PPf
    have PM_w11b := PMf
    clear PMf
    have MW_w11b := MWf
    clear MWf
    have ST_w11b := STf
    clear STf
    have OV_w11b := OVf
    clear OVf
    have OX_w11b := OXf
    clear OXf
    have h4s_w11b := h4sf
    clear h4sf
    have MX_w11b := MXf
    clear MXf
    have h5t_w11b := h5tf
    clear h5tf
    have SH_w11b := SHf
    clear SHf
    have MP_w11b := MPf
    clear MPf
    have OM__w11b := OM_f
    clear OM_f
    have hms_w11b := hmsf
    clear hmsf
    have MM_w11b := MMf
    clear MMf
    have OG_w11b := OGf
    clear OGf
    have OH_w11b := OHf
    clear OHf
    have MG_w11b := MGf
    clear MGf
    have kq0 : w11b.cell? ⟨w4.heap.size, 0, none⟩ = some (.int .i64 nu) := (MX_w11b.out 0 (by simp)).1
    have kq1 : w11b.cell? ⟨w4.heap.size, 1, none⟩ = some (.int .i64 ep) := (MX_w11b.out 1 (by simp)).1
    have kq2 : w11b.cell? ⟨w4.heap.size, 2, none⟩ = some (.bool up) := (MX_w11b.out 2 (by simp)).1
    have kq3 : w11b.cell? ⟨w4.heap.size, 3, none⟩ = some (.int .i64 st) := (MX_w11b.out 3 (by simp)).1
    have kq4 : w11b.cell? ⟨w4.heap.size, 4, none⟩ = some (.int .i64 le) := (MX_w11b.out 4 (by simp)).1
    have kq5 : w11b.cell? ⟨w4.heap.size, 5, none⟩ = some (.int .i64 ta) := (MX_w11b.out 5 (by simp)).1
    have kq6 : w11b.cell? ⟨w4.heap.size, 6, none⟩ = some (.int .i64 co) := (MX_w11b.out 6 (by simp)).1
    have kq7 : w11b.cell? ⟨w4.heap.size, 7, none⟩ = some (.int .i64 lf) := (MX_w11b.out 7 (by simp)).1
    have kq8 : w11b.cell? ⟨w4.heap.size, 8, none⟩ = some (.slice (some ⟨g4, 0, none⟩) n n) := (MX_w11b.out 8 (by simp)).1
    have kq9 : w11b.cell? ⟨w4.heap.size, 9, none⟩ = some (.string x) := (MX_w11b.out 9 (by simp)).1
    have kq10 : w11b.cell? ⟨w4.heap.size, 10, none⟩ = some (.int .i64 si) := (MX_w11b.out 10 (by simp)).1
    go_wp2_with fail
    refine (markWorker_own nu ep up st le ta co lf x si _ n n _ _ _ hnn OX_w11b.out).mono ?_
    rintro e' w12 ⟨rfl, ho12, hg12⟩
    clear kq0 kq1 kq2 kq3 kq4 kq5 kq6 kq7 kq8 kq9 kq10
    clear OX_w11b h4s_w11b MX_w11b h5t_w11b hms_w11b ho12
    have hrm := hid (show ∀ q, (Value.slice (some ⟨gm, 0, none⟩) mn mn).ownBlock = some q → q = gm from fun q hq => by injection hq with hq; exact hq.symm)
    have hrow : (Value.slice (some ⟨g4, 0, none⟩) n n).ownBlock = some g4 := rfl
    rw [hrow] at hg12
    clear hrow
    have PW_w12 := hid (PW_w11b.out.grownS hg12 (by simp only [ne_eq, Option.some.injEq]; have := hxl.out; have := hpl.out; have := hg4.out; have := hg4'.out; have := zw4.out; have := qW4.out; have := zW4.out; have := hg5.out; have := hg5'.out; have := zw5.out; have := qW5.out; have := zW5.out; have := hgm.out; have := hgm'.out; have := zw5b.out; have := qW5b.out; have := zW5b.out; have := zw6.out; have := qW6.out; have := zW6.out; have := zw7.out; have := zw8.out; have := zw9.out; have := zw10.out; have := zw11.out; have := zw11a.out; have := zw11b.out; omega))
    clear PW_w11b
    have PP_w12 := hid (PP_w11b.out.grownS hg12 (by simp only [ne_eq, Option.some.injEq]; have := hxl.out; have := hpl.out; have := hg4.out; have := hg4'.out; have := zw4.out; have := qW4.out; have := zW4.out; have := hg5.out; have := hg5'.out; have := zw5.out; have := qW5.out; have := zW5.out; have := hgm.out; have := hgm'.out; have := zw5b.out; have := qW5b.out; have := zW5b.out; have := zw6.out; have := qW6.out; have := zW6.out; have := zw7.out; have := zw8.out; have := zw9.out; have := zw10.out; have := zw11.out; have := zw11a.out; have := zw11b.out; omega))
    clear PP_w11b
    have PM_w12 := hid (PM_w11b.out.grownS hg12 (by simp only [ne_eq, Option.some.injEq]; have := hxl.out; have := hpl.out; have := hg4.out; have := hg4'.out; have := zw4.out; have := qW4.out; have := zW4.out; have := hg5.out; have := hg5'.out; have := zw5.out; have := qW5.out; have := zW5.out; have := hgm.out; have := hgm'.out; have := zw5b.out; have := qW5b.out; have := zW5b.out; have := zw6.out; have := qW6.out; have := zW6.out; have := zw7.out; have := zw8.out; have := zw9.out; have := zw10.out; have := zw11.out; have := zw11a.out; have := zw11b.out; omega))
    clear PM_w11b
    have MW_w12 := hid (MW_w11b.out.grownS hg12 (by simp only [ne_eq, Option.some.injEq]; have := hxl.out; have := hpl.out; have := hg4.out; have := hg4'.out; have := zw4.out; have := qW4.out; have := zW4.out; have := hg5.out; have := hg5'.out; have := zw5.out; have := qW5.out; have := zW5.out; have := hgm.out; have := hgm'.out; have := zw5b.out; have := qW5b.out; have := zW5b.out; have := zw6.out; have := qW6.out; have := zW6.out; have := zw7.out; have := zw8.out; have := zw9.out; have := zw10.out; have := zw11.out; have := zw11a.out; have := zw11b.out; omega))
    clear MW_w11b
    have ST_w12 := hid (ST_w11b.out.grownR hg12 (fun h0 => by have := hbs1.out h0; simp only [ne_eq, Option.some.injEq]; have := hxl.out; have := hpl.out; have := hg4.out; have := hg4'.out; have := zw4.out; have := qW4.out; have := zW4.out; have := hg5.out; have := hg5'.out; have := zw5.out; have := qW5.out; have := zW5.out; have := hgm.out; have := hgm'.out; have := zw5b.out; have := qW5b.out; have := zW5b.out; have := zw6.out; have := qW6.out; have := zW6.out; have := zw7.out; have := zw8.out; have := zw9.out; have := zw10.out; have := zw11.out; have := zw11a.out; have := zw11b.out; omega))
    clear ST_w11b
    have OV_w12 := hid (OV_w11b.out.grown hg12 (.inr (by intro hh; have := hhV.out _ hh; have := hxl.out; have := hpl.out; have := hg4.out; have := hg4'.out; have := zw4.out; have := qW4.out; have := zW4.out; have := hg5.out; have := hg5'.out; have := zw5.out; have := qW5.out; have := zW5.out; have := hgm.out; have := hgm'.out; have := zw5b.out; have := qW5b.out; have := zW5b.out; have := zw6.out; have := qW6.out; have := zW6.out; have := zw7.out; have := zw8.out; have := zw9.out; have := zw10.out; have := zw11.out; have := zw11a.out; have := zw11b.out; omega)))
    clear OV_w11b
    have SH_w12 := hid (SH_w11b.out.blocks hg5'.out (fun q h1 h2 => hg12.block q (by have := hxl.out; have := hpl.out; have := hg4.out; have := hg4'.out; have := zw4.out; have := qW4.out; have := zW4.out; have := hg5.out; have := hg5'.out; have := zw5.out; have := qW5.out; have := zW5.out; have := hgm.out; have := hgm'.out; have := zw5b.out; have := qW5b.out; have := zW5b.out; have := zw6.out; have := qW6.out; have := zW6.out; have := zw7.out; have := zw8.out; have := zw9.out; have := zw10.out; have := zw11.out; have := zw11a.out; have := zw11b.out; omega) (by simp only [ne_eq, Option.some.injEq]; have := hxl.out; have := hpl.out; have := hg4.out; have := hg4'.out; have := zw4.out; have := qW4.out; have := zW4.out; have := hg5.out; have := hg5'.out; have := zw5.out; have := qW5.out; have := zW5.out; have := hgm.out; have := hgm'.out; have := zw5b.out; have := qW5b.out; have := zW5b.out; have := zw6.out; have := qW6.out; have := zW6.out; have := zw7.out; have := zw8.out; have := zw9.out; have := zw10.out; have := zw11.out; have := zw11a.out; have := zw11b.out; omega)))
    clear SH_w11b
    have MP_w12 := hid (MP_w11b.out.grownS hg12 (by simp only [ne_eq, Option.some.injEq]; have := hxl.out; have := hpl.out; have := hg4.out; have := hg4'.out; have := zw4.out; have := qW4.out; have := zW4.out; have := hg5.out; have := hg5'.out; have := zw5.out; have := qW5.out; have := zW5.out; have := hgm.out; have := hgm'.out; have := zw5b.out; have := qW5b.out; have := zW5b.out; have := zw6.out; have := qW6.out; have := zW6.out; have := zw7.out; have := zw8.out; have := zw9.out; have := zw10.out; have := zw11.out; have := zw11a.out; have := zw11b.out; omega))
    clear MP_w11b
    have OM__w12 := hid (OM__w11b.out.grown hg12 (.inr (by intro hh; have := hrm.out _ hh; have := hxl.out; have := hpl.out; have := hg4.out; have := hg4'.out; have := zw4.out; have := qW4.out; have := zW4.out; have := hg5.out; have := hg5'.out; have := zw5.out; have := qW5.out; have := zW5.out; have := hgm.out; have := hgm'.out; have := zw5b.out; have := qW5b.out; have := zW5b.out; have := zw6.out; have := qW6.out; have := zW6.out; have := zw7.out; have := zw8.out; have := zw9.out; have := zw10.out; have := zw11.out; have := zw11a.out; have := zw11b.out; omega)))
    clear OM__w11b
    have MM_w12 := hid (MM_w11b.out.grownS hg12 (by simp only [ne_eq, Option.some.injEq]; have := hxl.out; have := hpl.out; have := hg4.out; have := hg4'.out; have := zw4.out; have := qW4.out; have := zW4.out; have := hg5.out; have := hg5'.out; have := zw5.out; have := qW5.out; have := zW5.out; have := hgm.out; have := hgm'.out; have := zw5b.out; have := qW5b.out; have := zW5b.out; have := zw6.out; have := qW6.out; have := zW6.out; have := zw7.out; have := zw8.out; have := zw9.out; have := zw10.out; have := zw11.out; have := zw11a.out; have := zw11b.out; omega))
    clear MM_w11b
    have OG_w12 := hid (OG_w11b.out.grown hg12 (.inr (by intro hh; have := hloi.out _ hh; have := hxl.out; have := hpl.out; have := hg4.out; have := hg4'.out; have := zw4.out; have := qW4.out; have := zW4.out; have := hg5.out; have := hg5'.out; have := zw5.out; have := qW5.out; have := zW5.out; have := hgm.out; have := hgm'.out; have := zw5b.out; have := qW5b.out; have := zW5b.out; have := zw6.out; have := qW6.out; have := zW6.out; have := zw7.out; have := zw8.out; have := zw9.out; have := zw10.out; have := zw11.out; have := zw11a.out; have := zw11b.out; omega)))
    clear OG_w11b
    have OH_w12 := hid (OH_w11b.out.grown hg12 (.inr (by intro hh; have := hlov.out _ hh; have := hxl.out; have := hpl.out; have := hg4.out; have := hg4'.out; have := zw4.out; have := qW4.out; have := zW4.out; have := hg5.out; have := hg5'.out; have := zw5.out; have := qW5.out; have := zW5.out; have := hgm.out; have := hgm'.out; have := zw5b.out; have := qW5b.out; have := zW5b.out; have := zw6.out; have := qW6.out; have := zW6.out; have := zw7.out; have := zw8.out; have := zw9.out; have := zw10.out; have := zw11.out; have := zw11a.out; have := zw11b.out; omega)))
    clear OH_w11b
    have MG_w12 := hid (MG_w11b.out.grownS hg12 (by simp only [ne_eq, Option.some.injEq]; have := hxl.out; have := hpl.out; have := hg4.out; have := hg4'.out; have := zw4.out; have := qW4.out; have := zW4.out; have := hg5.out; have := hg5'.out; have := zw5.out; have := qW5.out; have := zW5.out; have := hgm.out; have := hgm'.out; have := zw5b.out; have := qW5b.out; have := zW5b.out; have := zw6.out; have := qW6.out; have := zW6.out; have := zw7.out; have := zw8.out; have := zw9.out; have := zw10.out; have := zw11.out; have := zw11a.out; have := zw11b.out; omega))
    clear MG_w11b
    have zw12 := hid hg12.size
    have hBw12 := hBw11b.grown hg12 hBw11b.size (fun q hq => by simp only [Option.some.injEq] at hq; have := hxl.out; have := hpl.out; have := hg4.out; have := hg4'.out; have := zw4.out; have := qW4.out; have := zW4.out; have := hg5.out; have := hg5'.out; have := zw5.out; have := qW5.out; have := zW5.out; have := hgm.out; have := hgm'.out; have := zw5b.out; have := qW5b.out; have := zW5b.out; have := zw6.out; have := qW6.out; have := zW6.out; have := zw7.out; have := zw8.out; have := zw9.out; have := zw10.out; have := zw11.out; have := zw11a.out; have := zw11b.out; omega)
    clear hg12 hBw11b
    have c0 : w12.cell? ⟨w5.heap.size, 0, none⟩ = some (.slice (some ⟨g5, 0, none⟩) pn pn) := (MP_w12.out 0 (by simp)).1
    go_wp2_with fail
    rw [show (1 + (n : Int)) = ((1 + n : Nat) : Int) by omega]
    refine (markPlan_any g5 w5.heap.size pn pn (1 + n) _ (by omega) (by omega) (by omega) hg5'.out SH_w12.out).mono ?_
    rintro e' w13 ⟨⟨rk, rfl, hrk⟩, hM⟩
    clear c0
    clear SH_w12 MP_w12
    have PW_w13 := hid (PW_w12.out.midS hM (by have := hxl.out; have := hpl.out; have := hg4.out; have := hg4'.out; have := zw4.out; have := qW4.out; have := zW4.out; have := hg5.out; have := hg5'.out; have := zw5.out; have := qW5.out; have := zW5.out; have := hgm.out; have := hgm'.out; have := zw5b.out; have := qW5b.out; have := zW5b.out; have := zw6.out; have := qW6.out; have := zW6.out; have := zw7.out; have := zw8.out; have := zw9.out; have := zw10.out; have := zw11.out; have := zw11a.out; have := zw11b.out; have := zw12.out; omega))
    clear PW_w12
    have PP_w13 := hid (PP_w12.out.midS hM (by have := hxl.out; have := hpl.out; have := hg4.out; have := hg4'.out; have := zw4.out; have := qW4.out; have := zW4.out; have := hg5.out; have := hg5'.out; have := zw5.out; have := qW5.out; have := zW5.out; have := hgm.out; have := hgm'.out; have := zw5b.out; have := qW5b.out; have := zW5b.out; have := zw6.out; have := qW6.out; have := zW6.out; have := zw7.out; have := zw8.out; have := zw9.out; have := zw10.out; have := zw11.out; have := zw11a.out; have := zw11b.out; have := zw12.out; omega))
    clear PP_w12
    have PM_w13 := hid (PM_w12.out.midS hM (by have := hxl.out; have := hpl.out; have := hg4.out; have := hg4'.out; have := zw4.out; have := qW4.out; have := zW4.out; have := hg5.out; have := hg5'.out; have := zw5.out; have := qW5.out; have := zW5.out; have := hgm.out; have := hgm'.out; have := zw5b.out; have := qW5b.out; have := zW5b.out; have := zw6.out; have := qW6.out; have := zW6.out; have := zw7.out; have := zw8.out; have := zw9.out; have := zw10.out; have := zw11.out; have := zw11a.out; have := zw11b.out; have := zw12.out; omega))
    clear PM_w12
    have MW_w13 := hid (MW_w12.out.midS hM (by have := hxl.out; have := hpl.out; have := hg4.out; have := hg4'.out; have := zw4.out; have := qW4.out; have := zW4.out; have := hg5.out; have := hg5'.out; have := zw5.out; have := qW5.out; have := zW5.out; have := hgm.out; have := hgm'.out; have := zw5b.out; have := qW5b.out; have := zW5b.out; have := zw6.out; have := qW6.out; have := zW6.out; have := zw7.out; have := zw8.out; have := zw9.out; have := zw10.out; have := zw11.out; have := zw11a.out; have := zw11b.out; have := zw12.out; omega))
    clear MW_w12
    have ST_w13 := hid (ST_w12.out.mid hM (fun h0 => .inl (by have := hbs1.out h0; have := hxl.out; have := hpl.out; have := hg4.out; have := hg4'.out; have := zw4.out; have := qW4.out; have := zW4.out; have := hg5.out; have := hg5'.out; have := zw5.out; have := qW5.out; have := zW5.out; have := hgm.out; have := hgm'.out; have := zw5b.out; have := qW5b.out; have := zW5b.out; have := zw6.out; have := qW6.out; have := zW6.out; have := zw7.out; have := zw8.out; have := zw9.out; have := zw10.out; have := zw11.out; have := zw11a.out; have := zw11b.out; have := zw12.out; omega)))
    clear ST_w12
    have OV_w13 := hid (OV_w12.out.midR hM (fun q hq => by have := hhV.out _ hq; have := hxl.out; have := hpl.out; have := hg4.out; have := hg4'.out; have := zw4.out; have := qW4.out; have := zW4.out; have := hg5.out; have := hg5'.out; have := zw5.out; have := qW5.out; have := zW5.out; have := hgm.out; have := hgm'.out; have := zw5b.out; have := qW5b.out; have := zW5b.out; have := zw6.out; have := qW6.out; have := zW6.out; have := zw7.out; have := zw8.out; have := zw9.out; have := zw10.out; have := zw11.out; have := zw11a.out; have := zw11b.out; have := zw12.out; omega))
    clear OV_w12
    have OM__w13 := hid (OM__w12.out.midR hM (fun q hq => by have := hrm.out _ hq; have := hxl.out; have := hpl.out; have := hg4.out; have := hg4'.out; have := zw4.out; have := qW4.out; have := zW4.out; have := hg5.out; have := hg5'.out; have := zw5.out; have := qW5.out; have := zW5.out; have := hgm.out; have := hgm'.out; have := zw5b.out; have := qW5b.out; have := zW5b.out; have := zw6.out; have := qW6.out; have := zW6.out; have := zw7.out; have := zw8.out; have := zw9.out; have := zw10.out; have := zw11.out; have := zw11a.out; have := zw11b.out; have := zw12.out; omega))
    clear OM__w12
    have MM_w13 := hid (MM_w12.out.midS hM (by have := hxl.out; have := hpl.out; have := hg4.out; have := hg4'.out; have := zw4.out; have := qW4.out; have := zW4.out; have := hg5.out; have := hg5'.out; have := zw5.out; have := qW5.out; have := zW5.out; have := hgm.out; have := hgm'.out; have := zw5b.out; have := qW5b.out; have := zW5b.out; have := zw6.out; have := qW6.out; have := zW6.out; have := zw7.out; have := zw8.out; have := zw9.out; have := zw10.out; have := zw11.out; have := zw11a.out; have := zw11b.out; have := zw12.out; omega))
    clear MM_w12
    have OG_w13 := hid (OG_w12.out.midR hM (fun q hq => by have := hloi.out _ hq; have := hxl.out; have := hpl.out; have := hg4.out; have := hg4'.out; have := zw4.out; have := qW4.out; have := zW4.out; have := hg5.out; have := hg5'.out; have := zw5.out; have := qW5.out; have := zW5.out; have := hgm.out; have := hgm'.out; have := zw5b.out; have := qW5b.out; have := zW5b.out; have := zw6.out; have := qW6.out; have := zW6.out; have := zw7.out; have := zw8.out; have := zw9.out; have := zw10.out; have := zw11.out; have := zw11a.out; have := zw11b.out; have := zw12.out; omega))
    clear OG_w12
    have OH_w13 := hid (OH_w12.out.midR hM (fun q hq => by have := hlov.out _ hq; have := hxl.out; have := hpl.out; have := hg4.out; have := hg4'.out; have := zw4.out; have := qW4.out; have := zW4.out; have := hg5.out; have := hg5'.out; have := zw5.out; have := qW5.out; have := zW5.out; have := hgm.out; have := hgm'.out; have := zw5b.out; have := qW5b.out; have := zW5b.out; have := zw6.out; have := qW6.out; have := zW6.out; have := zw7.out; have := zw8.out; have := zw9.out; have := zw10.out; have := zw11.out; have := zw11a.out; have := zw11b.out; have := zw12.out; omega))
    clear OH_w12
    have MG_w13 := hid (MG_w12.out.midS hM (by have := hxl.out; have := hpl.out; have := hg4.out; have := hg4'.out; have := zw4.out; have := qW4.out; have := zW4.out; have := hg5.out; have := hg5'.out; have := zw5.out; have := qW5.out; have := zW5.out; have := hgm.out; have := hgm'.out; have := zw5b.out; have := qW5b.out; have := zW5b.out; have := zw6.out; have := qW6.out; have := zW6.out; have := zw7.out; have := zw8.out; have := zw9.out; have := zw10.out; have := zw11.out; have := zw11a.out; have := zw11b.out; have := zw12.out; omega))
    clear MG_w12
    have zw13 := hid hM.size
    have hBw13 := Mid.below hBw12 hM (by have := hxl.out; have := hpl.out; have := hg4.out; have := hg4'.out; have := zw4.out; have := qW4.out; have := zW4.out; have := hg5.out; have := hg5'.out; have := zw5.out; have := qW5.out; have := zW5.out; have := hgm.out; have := hgm'.out; have := zw5b.out; have := qW5b.out; have := zW5b.out; have := zw6.out; have := qW6.out; have := zW6.out; have := zw7.out; have := zw8.out; have := zw9.out; have := zw10.out; have := zw11.out; have := zw11a.out; have := zw11b.out; have := zw12.out; omega) hBw12.size
    clear hM hBw12
    have c0 : w13.cell? ⟨w5b.heap.size, 0, none⟩ = some (.int .i64 k) := (MM_w13.out 0 (by simp)).1
    have c1 : w13.cell? ⟨w5b.heap.size, 1, none⟩ = some (.int .i64 f) := (MM_w13.out 1 (by simp)).1
    have c2 : w13.cell? ⟨w5b.heap.size, 2, none⟩ = some (.int .i64 t) := (MM_w13.out 2 (by simp)).1
    have c3 : w13.cell? ⟨w5b.heap.size, 3, none⟩ = some (.int .i64 e) := (MM_w13.out 3 (by simp)).1
    have c4 : w13.cell? ⟨w5b.heap.size, 4, none⟩ = some (.int .i64 l) := (MM_w13.out 4 (by simp)).1
    have c5 : w13.cell? ⟨w5b.heap.size, 5, none⟩ = some (.int .i64 dd) := (MM_w13.out 5 (by simp)).1
    have c6 : w13.cell? ⟨w5b.heap.size, 6, none⟩ = some (.string y) := (MM_w13.out 6 (by simp)).1
    have c7 : w13.cell? ⟨w5b.heap.size, 7, none⟩ = some (.slice (some ⟨gm, 0, none⟩) mn mn) := (MM_w13.out 7 (by simp)).1
    obtain ⟨km, hkm⟩ : ∃ km : Nat, rk = (km : Int) := ⟨rk.toNat, by omega⟩
    have hkm0 : 0 < km := by omega
    have hkm1 : km ≤ 2199023255552 := by omega
    subst hkm
    clear hrk
    go_wp2_with fail
    refine (markMessageK_own k f t e l dd y _ mn mn km _ _ _ hkm0 hkm1 hmn OM__w13.out).mono ?_
    rintro e' w13b ⟨⟨rk, rfl, hrk⟩, hgm13⟩
    clear c0 c1 c2 c3 c4 c5 c6 c7
    clear OM__w13 MM_w13 hkm0 hkm1
    have hrow : (Value.slice (some ⟨gm, 0, none⟩) mn mn).ownBlock = some gm := rfl
    rw [hrow] at hgm13
    clear hrow
    have PW_w13b := hid (PW_w13.out.grownS hgm13 (by simp only [ne_eq, Option.some.injEq]; have := hxl.out; have := hpl.out; have := hg4.out; have := hg4'.out; have := zw4.out; have := qW4.out; have := zW4.out; have := hg5.out; have := hg5'.out; have := zw5.out; have := qW5.out; have := zW5.out; have := hgm.out; have := hgm'.out; have := zw5b.out; have := qW5b.out; have := zW5b.out; have := zw6.out; have := qW6.out; have := zW6.out; have := zw7.out; have := zw8.out; have := zw9.out; have := zw10.out; have := zw11.out; have := zw11a.out; have := zw11b.out; have := zw12.out; have := zw13.out; omega))
    clear PW_w13
    have PP_w13b := hid (PP_w13.out.grownS hgm13 (by simp only [ne_eq, Option.some.injEq]; have := hxl.out; have := hpl.out; have := hg4.out; have := hg4'.out; have := zw4.out; have := qW4.out; have := zW4.out; have := hg5.out; have := hg5'.out; have := zw5.out; have := qW5.out; have := zW5.out; have := hgm.out; have := hgm'.out; have := zw5b.out; have := qW5b.out; have := zW5b.out; have := zw6.out; have := qW6.out; have := zW6.out; have := zw7.out; have := zw8.out; have := zw9.out; have := zw10.out; have := zw11.out; have := zw11a.out; have := zw11b.out; have := zw12.out; have := zw13.out; omega))
    clear PP_w13
    have PM_w13b := hid (PM_w13.out.grownS hgm13 (by simp only [ne_eq, Option.some.injEq]; have := hxl.out; have := hpl.out; have := hg4.out; have := hg4'.out; have := zw4.out; have := qW4.out; have := zW4.out; have := hg5.out; have := hg5'.out; have := zw5.out; have := qW5.out; have := zW5.out; have := hgm.out; have := hgm'.out; have := zw5b.out; have := qW5b.out; have := zW5b.out; have := zw6.out; have := qW6.out; have := zW6.out; have := zw7.out; have := zw8.out; have := zw9.out; have := zw10.out; have := zw11.out; have := zw11a.out; have := zw11b.out; have := zw12.out; have := zw13.out; omega))
    clear PM_w13
    have MW_w13b := hid (MW_w13.out.grownS hgm13 (by simp only [ne_eq, Option.some.injEq]; have := hxl.out; have := hpl.out; have := hg4.out; have := hg4'.out; have := zw4.out; have := qW4.out; have := zW4.out; have := hg5.out; have := hg5'.out; have := zw5.out; have := qW5.out; have := zW5.out; have := hgm.out; have := hgm'.out; have := zw5b.out; have := qW5b.out; have := zW5b.out; have := zw6.out; have := qW6.out; have := zW6.out; have := zw7.out; have := zw8.out; have := zw9.out; have := zw10.out; have := zw11.out; have := zw11a.out; have := zw11b.out; have := zw12.out; have := zw13.out; omega))
    clear MW_w13
    have ST_w13b := hid (ST_w13.out.grownR hgm13 (fun h0 => by have := hbs1.out h0; simp only [ne_eq, Option.some.injEq]; have := hxl.out; have := hpl.out; have := hg4.out; have := hg4'.out; have := zw4.out; have := qW4.out; have := zW4.out; have := hg5.out; have := hg5'.out; have := zw5.out; have := qW5.out; have := zW5.out; have := hgm.out; have := hgm'.out; have := zw5b.out; have := qW5b.out; have := zW5b.out; have := zw6.out; have := qW6.out; have := zW6.out; have := zw7.out; have := zw8.out; have := zw9.out; have := zw10.out; have := zw11.out; have := zw11a.out; have := zw11b.out; have := zw12.out; have := zw13.out; omega))
    clear ST_w13
    have OV_w13b := hid (OV_w13.out.grown hgm13 (.inr (by intro hh; have := hhV.out _ hh; have := hxl.out; have := hpl.out; have := hg4.out; have := hg4'.out; have := zw4.out; have := qW4.out; have := zW4.out; have := hg5.out; have := hg5'.out; have := zw5.out; have := qW5.out; have := zW5.out; have := hgm.out; have := hgm'.out; have := zw5b.out; have := qW5b.out; have := zW5b.out; have := zw6.out; have := qW6.out; have := zW6.out; have := zw7.out; have := zw8.out; have := zw9.out; have := zw10.out; have := zw11.out; have := zw11a.out; have := zw11b.out; have := zw12.out; have := zw13.out; omega)))
    clear OV_w13
    have OG_w13b := hid (OG_w13.out.grown hgm13 (.inr (by intro hh; have := hloi.out _ hh; have := hxl.out; have := hpl.out; have := hg4.out; have := hg4'.out; have := zw4.out; have := qW4.out; have := zW4.out; have := hg5.out; have := hg5'.out; have := zw5.out; have := qW5.out; have := zW5.out; have := hgm.out; have := hgm'.out; have := zw5b.out; have := qW5b.out; have := zW5b.out; have := zw6.out; have := qW6.out; have := zW6.out; have := zw7.out; have := zw8.out; have := zw9.out; have := zw10.out; have := zw11.out; have := zw11a.out; have := zw11b.out; have := zw12.out; have := zw13.out; omega)))
    clear OG_w13
    have OH_w13b := hid (OH_w13.out.grown hgm13 (.inr (by intro hh; have := hlov.out _ hh; have := hxl.out; have := hpl.out; have := hg4.out; have := hg4'.out; have := zw4.out; have := qW4.out; have := zW4.out; have := hg5.out; have := hg5'.out; have := zw5.out; have := qW5.out; have := zW5.out; have := hgm.out; have := hgm'.out; have := zw5b.out; have := qW5b.out; have := zW5b.out; have := zw6.out; have := qW6.out; have := zW6.out; have := zw7.out; have := zw8.out; have := zw9.out; have := zw10.out; have := zw11.out; have := zw11a.out; have := zw11b.out; have := zw12.out; have := zw13.out; omega)))
    clear OH_w13
    have MG_w13b := hid (MG_w13.out.grownS hgm13 (by simp only [ne_eq, Option.some.injEq]; have := hxl.out; have := hpl.out; have := hg4.out; have := hg4'.out; have := zw4.out; have := qW4.out; have := zW4.out; have := hg5.out; have := hg5'.out; have := zw5.out; have := qW5.out; have := zW5.out; have := hgm.out; have := hgm'.out; have := zw5b.out; have := qW5b.out; have := zW5b.out; have := zw6.out; have := qW6.out; have := zW6.out; have := zw7.out; have := zw8.out; have := zw9.out; have := zw10.out; have := zw11.out; have := zw11a.out; have := zw11b.out; have := zw12.out; have := zw13.out; omega))
    clear MG_w13
    have zw13b := hid hgm13.size
    have hBw13b := hBw13.grown hgm13 hBw13.size (fun q hq => by simp only [Option.some.injEq] at hq; have := hxl.out; have := hpl.out; have := hg4.out; have := hg4'.out; have := zw4.out; have := qW4.out; have := zW4.out; have := hg5.out; have := hg5'.out; have := zw5.out; have := qW5.out; have := zW5.out; have := hgm.out; have := hgm'.out; have := zw5b.out; have := qW5b.out; have := zW5b.out; have := zw6.out; have := qW6.out; have := zW6.out; have := zw7.out; have := zw8.out; have := zw9.out; have := zw10.out; have := zw11.out; have := zw11a.out; have := zw11b.out; have := zw12.out; have := zw13.out; omega)
    clear hgm13 hBw13
    have hrk' : ¬ rk < 0 := by omega
    clear hrk
    have c0 : w13b.cell? ⟨w6.heap.size, 0, none⟩ = some (.int .i64 nu1) := (MG_w13b.out 0 (by simp)).1
    have c1 : w13b.cell? ⟨w6.heap.size, 1, none⟩ = some (.int .i64 ep1) := (MG_w13b.out 1 (by simp)).1
    have c2 : w13b.cell? ⟨w6.heap.size, 2, none⟩ = some (.bool up1) := (MG_w13b.out 2 (by simp)).1
    have c3 : w13b.cell? ⟨w6.heap.size, 3, none⟩ = some (.int .i64 st1) := (MG_w13b.out 3 (by simp)).1
    have c4 : w13b.cell? ⟨w6.heap.size, 4, none⟩ = some (.int .i64 le1) := (MG_w13b.out 4 (by simp)).1
    have c5 : w13b.cell? ⟨w6.heap.size, 5, none⟩ = some (.int .i64 ta1) := (MG_w13b.out 5 (by simp)).1
    have c6 : w13b.cell? ⟨w6.heap.size, 6, none⟩ = some (.int .i64 co1) := (MG_w13b.out 6 (by simp)).1
    have c7 : w13b.cell? ⟨w6.heap.size, 7, none⟩ = some (.int .i64 lf1) := (MG_w13b.out 7 (by simp)).1
    have c8 : w13b.cell? ⟨w6.heap.size, 8, none⟩ = some (.slice ai ss1.length ci) := (MG_w13b.out 8 (by simp)).1
    have c9 : w13b.cell? ⟨w6.heap.size, 9, none⟩ = some (.string x1) := (MG_w13b.out 9 (by simp)).1
    have c10 : w13b.cell? ⟨w6.heap.size, 10, none⟩ = some (.int .i64 si1) := (MG_w13b.out 10 (by simp)).1
    have c11 : w13b.cell? ⟨w6.heap.size, 11, none⟩ = some (.slice vai (outN q1) vci) := (MG_w13b.out 11 (by simp)).1
    have kq0 : w13b.cell? ⟨p, 0, none⟩ = some (.int .i64 nu1) := (MW_w13b.out 0 (by simp)).1
    have kq1 : w13b.cell? ⟨p, 1, none⟩ = some (.int .i64 ep1) := (MW_w13b.out 1 (by simp)).1
    have kq2 : w13b.cell? ⟨p, 2, none⟩ = some (.bool up1) := (MW_w13b.out 2 (by simp)).1
    have kq3 : w13b.cell? ⟨p, 3, none⟩ = some (.int .i64 st1) := (MW_w13b.out 3 (by simp)).1
    have kq4 : w13b.cell? ⟨p, 4, none⟩ = some (.int .i64 le1) := (MW_w13b.out 4 (by simp)).1
    have kq5 : w13b.cell? ⟨p, 5, none⟩ = some (.int .i64 ta1) := (MW_w13b.out 5 (by simp)).1
    have kq6 : w13b.cell? ⟨p, 6, none⟩ = some (.int .i64 co1) := (MW_w13b.out 6 (by simp)).1
    have kq7 : w13b.cell? ⟨p, 7, none⟩ = some (.int .i64 lf1) := (MW_w13b.out 7 (by simp)).1
    have kq8 : w13b.cell? ⟨p, 8, none⟩ = some (.slice aw ss1.length cw) := (MW_w13b.out 8 (by simp)).1
    have kq9 : w13b.cell? ⟨p, 9, none⟩ = some (.string x1) := (MW_w13b.out 9 (by simp)).1
    have kq10 : w13b.cell? ⟨p, 10, none⟩ = some (.int .i64 si1) := (MW_w13b.out 10 (by simp)).1
    have kq11 : w13b.cell? ⟨p, 11, none⟩ = some (.slice va (outN q1) vc) := (MW_w13b.out 11 (by simp)).1
    obtain ⟨bi, oi, hSi, hbi⟩ := OG_w13b.out.strsB HSZ.out
    go_wp2_with fail
    refine (eqActed_any nu1 ep1 up1 st1 le1 ta1 co1 lf1 x1 si1 ai aw bi oi ss1.length ci bs os cw ss1 q1 _ _ _ _ _ hSi ST_w13b.out OH_w13b.out OV_w13b.out).mono ?_
    rintro e' w14 ⟨rfl, hb⟩
    clear hSi hbi bi oi
    clear c0 c1 c2 c3 c4 c5 c6 c7 c8 c9 c10 c11
    clear kq0 kq1 kq2 kq3 kq4 kq5 kq6 kq7 kq8 kq9 kq10 kq11
    have hBw14 := hBw13b.trans (hb.mono hBw13b.size)
    have zw14 := hid (hb.size)
    have PW_w14 := hid (PW_w13b.out.belowS hb)
    clear PW_w13b
    have PP_w14 := hid (PP_w13b.out.belowS hb)
    clear PP_w13b
    have PM_w14 := hid (PM_w13b.out.belowS hb)
    clear PM_w13b
    have MW_w14 := hid (MW_w13b.out.belowS hb)
    clear MW_w13b
    have ST_w14 := hid (ST_w13b.out.below' hb)
    clear ST_w13b
    have OV_w14 := hid (OV_w13b.out.below hb (Nat.le_refl _))
    clear OV_w13b
    have OG_w14 := hid (OG_w13b.out.below hb (Nat.le_refl _))
    clear OG_w13b
    have OH_w14 := hid (OH_w13b.out.below hb (Nat.le_refl _))
    clear OH_w13b
    have MG_w14 := hid (MG_w13b.out.belowS hb)
    clear MG_w13b
    clear hb hBw13b
    have c0 : w14.cell? ⟨w6.heap.size, 0, none⟩ = some (.int .i64 nu1) := (MG_w14.out 0 (by simp)).1
    have c1 : w14.cell? ⟨w6.heap.size, 1, none⟩ = some (.int .i64 ep1) := (MG_w14.out 1 (by simp)).1
    have c2 : w14.cell? ⟨w6.heap.size, 2, none⟩ = some (.bool up1) := (MG_w14.out 2 (by simp)).1
    have c3 : w14.cell? ⟨w6.heap.size, 3, none⟩ = some (.int .i64 st1) := (MG_w14.out 3 (by simp)).1
    have c4 : w14.cell? ⟨w6.heap.size, 4, none⟩ = some (.int .i64 le1) := (MG_w14.out 4 (by simp)).1
    have c5 : w14.cell? ⟨w6.heap.size, 5, none⟩ = some (.int .i64 ta1) := (MG_w14.out 5 (by simp)).1
    have c6 : w14.cell? ⟨w6.heap.size, 6, none⟩ = some (.int .i64 co1) := (MG_w14.out 6 (by simp)).1
    have c7 : w14.cell? ⟨w6.heap.size, 7, none⟩ = some (.int .i64 lf1) := (MG_w14.out 7 (by simp)).1
    have c8 : w14.cell? ⟨w6.heap.size, 8, none⟩ = some (.slice ai ss1.length ci) := (MG_w14.out 8 (by simp)).1
    have c9 : w14.cell? ⟨w6.heap.size, 9, none⟩ = some (.string x1) := (MG_w14.out 9 (by simp)).1
    have c10 : w14.cell? ⟨w6.heap.size, 10, none⟩ = some (.int .i64 si1) := (MG_w14.out 10 (by simp)).1
    have c11 : w14.cell? ⟨w6.heap.size, 11, none⟩ = some (.slice vai (outN q1) vci) := (MG_w14.out 11 (by simp)).1
    go_wp2_with fail
    clear hrk'
    refine (markActed_any nu1 ep1 up1 st1 le1 ta1 co1 lf1 x1 si1 ai ss1.length ci _ q1 _ _ _ _ (by omega) OG_w14.out OH_w14.out HDI.out).mono ?_
    rintro e' w15 ⟨rfl, ho15, hm15, w15a, hga, hgb⟩
    clear c0 c1 c2 c3 c4 c5 c6 c7 c8 c9 c10 c11
    clear OG_w14 OH_w14
    have PW_w15 := hid ((PW_w14.out.grownS hga (fun hh => by have := hloi.out _ hh.symm; have := hhii.out _ hh.symm; have := hxl.out; have := hpl.out; have := hg4.out; have := hg4'.out; have := zw4.out; have := qW4.out; have := zW4.out; have := hg5.out; have := hg5'.out; have := zw5.out; have := qW5.out; have := zW5.out; have := hgm.out; have := hgm'.out; have := zw5b.out; have := qW5b.out; have := zW5b.out; have := zw6.out; have := qW6.out; have := zW6.out; have := zw7.out; have := zw8.out; have := zw9.out; have := zw10.out; have := zw11.out; have := zw11a.out; have := zw11b.out; have := zw12.out; have := zw13.out; have := zw13b.out; have := zw14.out; omega)).grownS hgb (fun hh => by have := hlov.out _ hh.symm; have := hhiv.out _ hh.symm; have := hxl.out; have := hpl.out; have := hg4.out; have := hg4'.out; have := zw4.out; have := qW4.out; have := zW4.out; have := hg5.out; have := hg5'.out; have := zw5.out; have := qW5.out; have := zW5.out; have := hgm.out; have := hgm'.out; have := zw5b.out; have := qW5b.out; have := zW5b.out; have := zw6.out; have := qW6.out; have := zW6.out; have := zw7.out; have := zw8.out; have := zw9.out; have := zw10.out; have := zw11.out; have := zw11a.out; have := zw11b.out; have := zw12.out; have := zw13.out; have := zw13b.out; have := zw14.out; omega))
    clear PW_w14
    have PP_w15 := hid ((PP_w14.out.grownS hga (fun hh => by have := hloi.out _ hh.symm; have := hhii.out _ hh.symm; have := hxl.out; have := hpl.out; have := hg4.out; have := hg4'.out; have := zw4.out; have := qW4.out; have := zW4.out; have := hg5.out; have := hg5'.out; have := zw5.out; have := qW5.out; have := zW5.out; have := hgm.out; have := hgm'.out; have := zw5b.out; have := qW5b.out; have := zW5b.out; have := zw6.out; have := qW6.out; have := zW6.out; have := zw7.out; have := zw8.out; have := zw9.out; have := zw10.out; have := zw11.out; have := zw11a.out; have := zw11b.out; have := zw12.out; have := zw13.out; have := zw13b.out; have := zw14.out; omega)).grownS hgb (fun hh => by have := hlov.out _ hh.symm; have := hhiv.out _ hh.symm; have := hxl.out; have := hpl.out; have := hg4.out; have := hg4'.out; have := zw4.out; have := qW4.out; have := zW4.out; have := hg5.out; have := hg5'.out; have := zw5.out; have := qW5.out; have := zW5.out; have := hgm.out; have := hgm'.out; have := zw5b.out; have := qW5b.out; have := zW5b.out; have := zw6.out; have := qW6.out; have := zW6.out; have := zw7.out; have := zw8.out; have := zw9.out; have := zw10.out; have := zw11.out; have := zw11a.out; have := zw11b.out; have := zw12.out; have := zw13.out; have := zw13b.out; have := zw14.out; omega))
    clear PP_w14
    have PM_w15 := hid ((PM_w14.out.grownS hga (fun hh => by have := hloi.out _ hh.symm; have := hhii.out _ hh.symm; have := hxl.out; have := hpl.out; have := hg4.out; have := hg4'.out; have := zw4.out; have := qW4.out; have := zW4.out; have := hg5.out; have := hg5'.out; have := zw5.out; have := qW5.out; have := zW5.out; have := hgm.out; have := hgm'.out; have := zw5b.out; have := qW5b.out; have := zW5b.out; have := zw6.out; have := qW6.out; have := zW6.out; have := zw7.out; have := zw8.out; have := zw9.out; have := zw10.out; have := zw11.out; have := zw11a.out; have := zw11b.out; have := zw12.out; have := zw13.out; have := zw13b.out; have := zw14.out; omega)).grownS hgb (fun hh => by have := hlov.out _ hh.symm; have := hhiv.out _ hh.symm; have := hxl.out; have := hpl.out; have := hg4.out; have := hg4'.out; have := zw4.out; have := qW4.out; have := zW4.out; have := hg5.out; have := hg5'.out; have := zw5.out; have := qW5.out; have := zW5.out; have := hgm.out; have := hgm'.out; have := zw5b.out; have := qW5b.out; have := zW5b.out; have := zw6.out; have := qW6.out; have := zW6.out; have := zw7.out; have := zw8.out; have := zw9.out; have := zw10.out; have := zw11.out; have := zw11a.out; have := zw11b.out; have := zw12.out; have := zw13.out; have := zw13b.out; have := zw14.out; omega))
    clear PM_w14
    have MW_w15 := hid ((MW_w14.out.grownS hga (fun hh => by have := hloi.out _ hh.symm; have := hhii.out _ hh.symm; have := hxl.out; have := hpl.out; have := hg4.out; have := hg4'.out; have := zw4.out; have := qW4.out; have := zW4.out; have := hg5.out; have := hg5'.out; have := zw5.out; have := qW5.out; have := zW5.out; have := hgm.out; have := hgm'.out; have := zw5b.out; have := qW5b.out; have := zW5b.out; have := zw6.out; have := qW6.out; have := zW6.out; have := zw7.out; have := zw8.out; have := zw9.out; have := zw10.out; have := zw11.out; have := zw11a.out; have := zw11b.out; have := zw12.out; have := zw13.out; have := zw13b.out; have := zw14.out; omega)).grownS hgb (fun hh => by have := hlov.out _ hh.symm; have := hhiv.out _ hh.symm; have := hxl.out; have := hpl.out; have := hg4.out; have := hg4'.out; have := zw4.out; have := qW4.out; have := zW4.out; have := hg5.out; have := hg5'.out; have := zw5.out; have := qW5.out; have := zW5.out; have := hgm.out; have := hgm'.out; have := zw5b.out; have := qW5b.out; have := zW5b.out; have := zw6.out; have := qW6.out; have := zW6.out; have := zw7.out; have := zw8.out; have := zw9.out; have := zw10.out; have := zw11.out; have := zw11a.out; have := zw11b.out; have := zw12.out; have := zw13.out; have := zw13b.out; have := zw14.out; omega))
    clear MW_w14
    have ST_w15 := hid ((ST_w14.out.grownR hga (fun h0 hh => by have := hbs1.out h0; have := hloi.out _ hh.symm; have := hxl.out; have := hpl.out; have := hg4.out; have := hg4'.out; have := zw4.out; have := qW4.out; have := zW4.out; have := hg5.out; have := hg5'.out; have := zw5.out; have := qW5.out; have := zW5.out; have := hgm.out; have := hgm'.out; have := zw5b.out; have := qW5b.out; have := zW5b.out; have := zw6.out; have := qW6.out; have := zW6.out; have := zw7.out; have := zw8.out; have := zw9.out; have := zw10.out; have := zw11.out; have := zw11a.out; have := zw11b.out; have := zw12.out; have := zw13.out; have := zw13b.out; have := zw14.out; omega)).grownR hgb (fun h0 hh => by have := hbs1.out h0; have := hlov.out _ hh.symm; have := hxl.out; have := hpl.out; have := hg4.out; have := hg4'.out; have := zw4.out; have := qW4.out; have := zW4.out; have := hg5.out; have := hg5'.out; have := zw5.out; have := qW5.out; have := zW5.out; have := hgm.out; have := hgm'.out; have := zw5b.out; have := qW5b.out; have := zW5b.out; have := zw6.out; have := qW6.out; have := zW6.out; have := zw7.out; have := zw8.out; have := zw9.out; have := zw10.out; have := zw11.out; have := zw11a.out; have := zw11b.out; have := zw12.out; have := zw13.out; have := zw13b.out; have := zw14.out; omega))
    clear ST_w14
    have OV_w15 := hid ((OV_w14.out.grown hga (ne_of (fun q h1 h2 => by have := hhV.out _ h1; have := hloi.out _ h2; have := hxl.out; have := hpl.out; have := hg4.out; have := hg4'.out; have := zw4.out; have := qW4.out; have := zW4.out; have := hg5.out; have := hg5'.out; have := zw5.out; have := qW5.out; have := zW5.out; have := hgm.out; have := hgm'.out; have := zw5b.out; have := qW5b.out; have := zW5b.out; have := zw6.out; have := qW6.out; have := zW6.out; have := zw7.out; have := zw8.out; have := zw9.out; have := zw10.out; have := zw11.out; have := zw11a.out; have := zw11b.out; have := zw12.out; have := zw13.out; have := zw13b.out; have := zw14.out; omega))).grown hgb (ne_of (fun q h1 h2 => by have := hhV.out _ h1; have := hlov.out _ h2; have := hxl.out; have := hpl.out; have := hg4.out; have := hg4'.out; have := zw4.out; have := qW4.out; have := zW4.out; have := hg5.out; have := hg5'.out; have := zw5.out; have := qW5.out; have := zW5.out; have := hgm.out; have := hgm'.out; have := zw5b.out; have := qW5b.out; have := zW5b.out; have := zw6.out; have := qW6.out; have := zW6.out; have := zw7.out; have := zw8.out; have := zw9.out; have := zw10.out; have := zw11.out; have := zw11a.out; have := zw11b.out; have := zw12.out; have := zw13.out; have := zw13b.out; have := zw14.out; omega)))
    clear OV_w14
    have MG_w15 := hid ((MG_w14.out.grownS hga (fun hh => by have := hloi.out _ hh.symm; have := hhii.out _ hh.symm; have := hxl.out; have := hpl.out; have := hg4.out; have := hg4'.out; have := zw4.out; have := qW4.out; have := zW4.out; have := hg5.out; have := hg5'.out; have := zw5.out; have := qW5.out; have := zW5.out; have := hgm.out; have := hgm'.out; have := zw5b.out; have := qW5b.out; have := zW5b.out; have := zw6.out; have := qW6.out; have := zW6.out; have := zw7.out; have := zw8.out; have := zw9.out; have := zw10.out; have := zw11.out; have := zw11a.out; have := zw11b.out; have := zw12.out; have := zw13.out; have := zw13b.out; have := zw14.out; omega)).grownS hgb (fun hh => by have := hlov.out _ hh.symm; have := hhiv.out _ hh.symm; have := hxl.out; have := hpl.out; have := hg4.out; have := hg4'.out; have := zw4.out; have := qW4.out; have := zW4.out; have := hg5.out; have := hg5'.out; have := zw5.out; have := qW5.out; have := zW5.out; have := hgm.out; have := hgm'.out; have := zw5b.out; have := qW5b.out; have := zW5b.out; have := zw6.out; have := qW6.out; have := zW6.out; have := zw7.out; have := zw8.out; have := zw9.out; have := zw10.out; have := zw11.out; have := zw11a.out; have := zw11b.out; have := zw12.out; have := zw13.out; have := zw13b.out; have := zw14.out; omega))
    clear MG_w14
    have zw15 := hid (Nat.le_trans hga.size hgb.size)
    have hBw15 := (hBw14.grown hga hBw14.size (fun q hq => by have := hloi.out _ hq; have := hxl.out; have := hpl.out; have := hg4.out; have := hg4'.out; have := zw4.out; have := qW4.out; have := zW4.out; have := hg5.out; have := hg5'.out; have := zw5.out; have := qW5.out; have := zW5.out; have := hgm.out; have := hgm'.out; have := zw5b.out; have := qW5b.out; have := zW5b.out; have := zw6.out; have := qW6.out; have := zW6.out; have := zw7.out; have := zw8.out; have := zw9.out; have := zw10.out; have := zw11.out; have := zw11a.out; have := zw11b.out; have := zw12.out; have := zw13.out; have := zw13b.out; have := zw14.out; omega)).grown hgb (Nat.le_trans hBw14.size hga.size) (fun q hq => by have := hlov.out _ hq; have := hxl.out; have := hpl.out; have := hg4.out; have := hg4'.out; have := zw4.out; have := qW4.out; have := zW4.out; have := hg5.out; have := hg5'.out; have := zw5.out; have := qW5.out; have := zW5.out; have := hgm.out; have := hgm'.out; have := zw5b.out; have := qW5b.out; have := zW5b.out; have := zw6.out; have := qW6.out; have := zW6.out; have := zw7.out; have := zw8.out; have := zw9.out; have := zw10.out; have := zw11.out; have := zw11a.out; have := zw11b.out; have := zw12.out; have := zw13.out; have := zw13b.out; have := zw14.out; omega)
    clear hga hgb hBw14
    obtain ⟨bm, om, hSm, _⟩ := ho15.strsB (mks_sizes ss1.length (by omega))
    have SM := hid hSm
    have MK := hid hm15
    clear hSm ho15 hm15
    have hn1 : ss1.length ≤ 1048576 := by omega
    have hpk : ¬ (1 + (ss1.length : Int) + 7 * (outN q1 : Nat)) < 0 := by omega
    have c0 : w15.cell? ⟨w6.heap.size, 0, none⟩ = some (.int .i64 nu1) := (MG_w15.out 0 (by simp)).1
    have c1 : w15.cell? ⟨w6.heap.size, 1, none⟩ = some (.int .i64 ep1) := (MG_w15.out 1 (by simp)).1
    have c2 : w15.cell? ⟨w6.heap.size, 2, none⟩ = some (.bool up1) := (MG_w15.out 2 (by simp)).1
    have c3 : w15.cell? ⟨w6.heap.size, 3, none⟩ = some (.int .i64 st1) := (MG_w15.out 3 (by simp)).1
    have c4 : w15.cell? ⟨w6.heap.size, 4, none⟩ = some (.int .i64 le1) := (MG_w15.out 4 (by simp)).1
    have c5 : w15.cell? ⟨w6.heap.size, 5, none⟩ = some (.int .i64 ta1) := (MG_w15.out 5 (by simp)).1
    have c6 : w15.cell? ⟨w6.heap.size, 6, none⟩ = some (.int .i64 co1) := (MG_w15.out 6 (by simp)).1
    have c7 : w15.cell? ⟨w6.heap.size, 7, none⟩ = some (.int .i64 lf1) := (MG_w15.out 7 (by simp)).1
    have c8 : w15.cell? ⟨w6.heap.size, 8, none⟩ = some (.slice ai ss1.length ci) := (MG_w15.out 8 (by simp)).1
    have c9 : w15.cell? ⟨w6.heap.size, 9, none⟩ = some (.string x1) := (MG_w15.out 9 (by simp)).1
    have c10 : w15.cell? ⟨w6.heap.size, 10, none⟩ = some (.int .i64 si1) := (MG_w15.out 10 (by simp)).1
    have c11 : w15.cell? ⟨w6.heap.size, 11, none⟩ = some (.slice vai (outN q1) vci) := (MG_w15.out 11 (by simp)).1
    go_wp2_with fail
    refine (heldActed_any nu1 ep1 up1 st1 le1 ta1 co1 lf1 x1 si1 ai bm om ss1.length ci q1 _ _ hn1 SM.out MK.out ⟨_, _, rfl⟩).mono ?_
    rintro e' w16 ⟨rfl, hb⟩
    clear c0 c1 c2 c3 c4 c5 c6 c7 c8 c9 c10 c11
    have hBw16 := hBw15.trans (hb.mono hBw15.size)
    have zw16 := hid (hb.size)
    have PW_w16 := hid (PW_w15.out.belowS hb)
    clear PW_w15
    have PP_w16 := hid (PP_w15.out.belowS hb)
    clear PP_w15
    have PM_w16 := hid (PM_w15.out.belowS hb)
    clear PM_w15
    have MW_w16 := hid (MW_w15.out.belowS hb)
    clear MW_w15
    have ST_w16 := hid (ST_w15.out.below' hb)
    clear ST_w15
    have OV_w16 := hid (OV_w15.out.below hb (Nat.le_refl _))
    clear OV_w15
    have MG_w16 := hid (MG_w15.out.belowS hb)
    clear MG_w15
    have SM_w16 := hid (SM.out.below' hb)
    clear SM
    have MK_w16 := hid (MK.out.block hb)
    clear MK
    clear hb hBw15
    go_upto_region 38 with fail
    have hPW := PW_w16.out
    have hPP := PP_w16.out
    have hPM := PM_w16.out
    have hlp : w.heap.size + 2 < w16.heap.size := hPM.lt
    clear PW_w16 PP_w16 PM_w16
    go_cut [16] (fun sv wx => ∃ (p : Nat) (nu1 ep1 : Int) (up1 : Bool) (st1 le1 ta1 co1 lf1 : Int) (ss1 : List ByteArray) (x1 : ByteArray) (si1 : Int) (q1 : Option OM) (aw : Option Addr) (cw : Nat) (vw : Value), sv = .pointer (some ⟨p, 0, none⟩) ∧ CF wx p [.int .i64 nu1, .int .i64 ep1, .bool up1, .int .i64 st1, .int .i64 le1, .int .i64 ta1, .int .i64 co1, .int .i64 lf1, .slice aw ss1.length cw, .string x1, .int .i64 si1, vw] ∧ takeR2 (⟨nu, ep, up, st, le, ta, co, lf, ss, x, si⟩ : WD) ts k f t e l dd y ms (⟨nu1, ep1, up1, st1, le1, ta1, co1, lf1, ss1, x1, si1⟩, q1) ∧ Own w16.heap.size wx 1 (.slice aw ss1.length cw) ss1.length (ss1.map Value.string) ∧ Own w16.heap.size wx 8 vw (outN q1) (outL q1) ∧ ((Value.slice aw ss1.length cw).ownBlock = none ∨ (Value.slice aw ss1.length cw).ownBlock ≠ vw.ownBlock) ∧ w16.heap.size ≤ p ∧ CF wx (w.heap.size) [.int .i64 nu, .int .i64 ep, .bool up, .int .i64 st, .int .i64 le, .int .i64 ta, .int .i64 co, .int .i64 lf, .slice a n c, .string x, .int .i64 si] ∧ CF wx (w.heap.size + 1) [.slice pa pn pc] ∧ CF wx (w.heap.size + 2) [.int .i64 k, .int .i64 f, .int .i64 t, .int .i64 e, .int .i64 l, .int .i64 dd, .string y, .slice ma mn mc] ∧ Below w.heap.size w wx ∧ Below w16.heap.size w16 wx)
    case first =>
      refine wp_region_held (S := fun w' => CF w' (w.heap.size) [.int .i64 nu, .int .i64 ep, .bool up, .int .i64 st, .int .i64 le, .int .i64 ta, .int .i64 co, .int .i64 lf, .slice a n c, .string x, .int .i64 si] ∧ CF w' (w.heap.size + 1) [.slice pa pn pc] ∧ CF w' (w.heap.size + 2) [.int .i64 k, .int .i64 f, .int .i64 t, .int .i64 e, .int .i64 l, .int .i64 dd, .string y, .slice ma mn mc]) (by kernel_rfl) ?_
      change wpAnyH _ _ _ _ _ _ _ _ (World.drew _)
      have hPWd : CF w16.drew (w.heap.size) [.int .i64 nu, .int .i64 ep, .bool up, .int .i64 st, .int .i64 le, .int .i64 ta, .int .i64 co, .int .i64 lf, .slice a n c, .string x, .int .i64 si] := hPW
      have hPPd : CF w16.drew (w.heap.size + 1) [.slice pa pn pc] := hPP
      have hPMd : CF w16.drew (w.heap.size + 2) [.int .i64 k, .int .i64 f, .int .i64 t, .int .i64 e, .int .i64 l, .int .i64 dd, .string y, .slice ma mn mc] := hPM
      have hBd := hBw16.drew
      have hzd : w16.heap.size ≤ w16.drew.heap.size := Nat.le_refl _
      have hDd : Below w16.heap.size w16 w16.drew := (Below.refl _ _).drew
      have hlW : w.heap.size + 2 < w16.drew.heap.size := hlp
      obtain ⟨u0, hu0⟩ : ∃ u0, u0 = w16.drew := ⟨_, rfl⟩
      rw [← hu0] at hPWd hPPd hPMd hBd hzd hlW hDd
      rw [← hu0]
      clear hu0
      refine hTake (i := 0) (d := some 96) (v := .agg #[.int .i64 nu, .int .i64 ep, .bool up, .int .i64 st, .int .i64 le, .int .i64 ta, .int .i64 co, .int .i64 lf, .slice a n c, .string x, .int .i64 si]) (l' := #[true, false, false, false, false, false, false, false, false]) rfl (by kernel_rfl) (by kernel_rfl) (by kernel_rfl) (by kernel_rfl) (fun _ _ _ h => h) (by kernel_rfl) (fun _ hc => run_ldT 24 _ [.int .i64 nu, .int .i64 ep, .bool up, .int .i64 st, .int .i64 le, .int .i64 ta, .int .i64 co, .int .i64 lf, .slice a n c, .string x, .int .i64 si] (.tmp 3) (by kernel_rfl) (by kernel_rfl) hc.1 Tryd.underlying24 rfl Tryd.sizeLW) ⟨hPWd, hPPd, hPMd⟩ (by kernel_rfl) ?_
      refine hTake (i := 2) (d := some 98) (v := .agg #[.slice pa pn pc]) (l' := #[true, false, true, false, false, false, false, false, false]) rfl (by kernel_rfl) (by kernel_rfl) (by kernel_rfl) (by kernel_rfl) (fun _ _ _ h => h) (by kernel_rfl) (fun _ hc => run_ldT 27 _ [.slice pa pn pc] (.tmp 4) (by kernel_rfl) (by kernel_rfl) hc.2.1 Tryd.underlying27 rfl Tryd.sizeLP) ⟨hPWd, hPPd, hPMd⟩ (by kernel_rfl) ?_
      refine hTake (i := 4) (d := some 100) (v := .agg #[.int .i64 k, .int .i64 f, .int .i64 t, .int .i64 e, .int .i64 l, .int .i64 dd, .string y, .slice ma mn mc]) (l' := #[true, false, true, false, true, false, false, false, false]) rfl (by kernel_rfl) (by kernel_rfl) (by kernel_rfl) (by kernel_rfl) (fun _ _ _ h => h) (by kernel_rfl) (fun _ hc => run_ldT 29 _ [.int .i64 k, .int .i64 f, .int .i64 t, .int .i64 e, .int .i64 l, .int .i64 dd, .string y, .slice ma mn mc] (.tmp 5) (by kernel_rfl) (by kernel_rfl) hc.2.2 Tryd.underlying29 rfl Tryd.sizeLM) ⟨hPWd, hPPd, hPMd⟩ (by kernel_rfl) ?_
      have hPWu0 := hPWd
      have hPPu0 := hPPd
      have hPMu0 := hPMd
      have hBu0 := hBd
      have hzu0 := hzd
      have hlu0 := hlW
      have hDu0 := hDd
      refine hTwo (i := 1) (j := 7) (by kernel_rfl) (hCall (i := 1) (d := some 97) (f := 8) (args := #[.agg #[.int .i64 nu, .int .i64 ep, .bool up, .int .i64 st, .int .i64 le, .int .i64 ta, .int .i64 co, .int .i64 lf, .slice a n c, .string x, .int .i64 si]]) (l' := #[true, true, true, false, true, false, false, false, false]) (R := fun v w' => ∃ g, v = .agg #[.int .i64 nu, .int .i64 ep, .bool up, .int .i64 st, .int .i64 le, .int .i64 ta, .int .i64 co, .int .i64 lf, .slice (some ⟨g, 0, none⟩) n n, .string x, .int .i64 si] ∧ OwnC u0.heap.size w' 1 g 0 n n (ss.map Value.string) ∧ Below u0.heap.size u0 w') rfl (by kernel_rfl) (by kernel_rfl) (by kernel_rfl) (run_cl1 _ _ rfl (by kernel_rfl) rfl enter_toW) ((toWorker_any nu ep up st le ta co lf x si a b o n c ss _ (h.below' hBu0) hnn).mono fun _ _ ⟨⟨g, he, ho⟩, hb⟩ => ⟨_, he, g, rfl, ho, hb⟩) ?_) (hVal (i := 7) (d := some 16) (v := .pointer (some ⟨u0.heap.size, 0, none⟩)) (w' := u0.alloc (.cells #[.int .i64 0, .int .i64 0, .bool false, .int .i64 0, .int .i64 0, .int .i64 0, .int .i64 0, .int .i64 0, .slice none 0 0, .string ⟨#[]⟩, .int .i64 0, .slice none 0 0] 36)) (l' := #[true, false, true, false, true, false, false, true, false]) rfl (by kernel_rfl) (by kernel_rfl) (by kernel_rfl) (run_alA (by kernel_rfl)) ⟨hPWu0.block (Below.heap_alloc u0 _ (w.heap.size) (by omega)), hPPu0.block (Below.heap_alloc u0 _ (w.heap.size + 1) (by omega)), hPMu0.block (Below.heap_alloc u0 _ (w.heap.size + 2) (by omega))⟩ ?_)
      · rintro _ u1 ⟨g2, rfl, ho2, hbu1⟩
        have hPWu1 := hPWu0.block (hbu1.block (w.heap.size) (by omega))
        have hPPu1 := hPPu0.block (hbu1.block (w.heap.size + 1) (by omega))
        have hPMu1 := hPMu0.block (hbu1.block (w.heap.size + 2) (by omega))
        have hBu1 := hBu0.trans (hbu1.mono hBu0.size)
        have hzu1 : w16.heap.size ≤ u1.heap.size := Nat.le_trans hzu0 hbu1.size
        have hlu1 : w.heap.size + 2 < u1.heap.size := Nat.lt_of_lt_of_le hlu0 hbu1.size
        have hDu1 := hDu0.trans (hbu1.mono hzu0)
        have h2su1 := StrsAt.ofOwn ho2 h.sz
        clear ho2
        refine ⟨⟨hPWu1, hPPu1, hPMu1⟩, ?_⟩
        refine hTwo (i := 3) (j := 7) (by kernel_rfl) (hCall (i := 3) (d := some 99) (f := 9) (args := #[.agg #[.slice pa pn pc]]) (l' := #[true, true, true, true, true, false, false, false, false]) (R := fun v w' => ∃ g, v = .agg #[.slice (some ⟨g, 0, none⟩) pn pn] ∧ TasksAt w' (some ⟨g, 0, none⟩) g 0 pn ts ∧ Below u1.heap.size u1 w') rfl (by kernel_rfl) (by kernel_rfl) (by kernel_rfl) (run_cl1 _ _ rfl (by kernel_rfl) rfl enter_toP) ((toPlan_any pa pb po pn pc ts _ (hp.below' hBu1) hpn).mono fun _ _ ⟨g, xs, he, _, _, ht, hb⟩ => ⟨_, he, g, rfl, ht, hb⟩) ?_) (hVal (i := 7) (d := some 16) (v := .pointer (some ⟨u1.heap.size, 0, none⟩)) (w' := u1.alloc (.cells #[.int .i64 0, .int .i64 0, .bool false, .int .i64 0, .int .i64 0, .int .i64 0, .int .i64 0, .int .i64 0, .slice none 0 0, .string ⟨#[]⟩, .int .i64 0, .slice none 0 0] 36)) (l' := #[true, true, true, false, true, false, false, true, false]) rfl (by kernel_rfl) (by kernel_rfl) (by kernel_rfl) (run_alA (by kernel_rfl)) ⟨hPWu1.block (Below.heap_alloc u1 _ (w.heap.size) (by omega)), hPPu1.block (Below.heap_alloc u1 _ (w.heap.size + 1) (by omega)), hPMu1.block (Below.heap_alloc u1 _ (w.heap.size + 2) (by omega))⟩ ?_)
        · rintro _ u2 ⟨g3, rfl, ht3, hbu2⟩
          have hPWu2 := hPWu1.block (hbu2.block (w.heap.size) (by omega))
          have hPPu2 := hPPu1.block (hbu2.block (w.heap.size + 1) (by omega))
          have hPMu2 := hPMu1.block (hbu2.block (w.heap.size + 2) (by omega))
          have hBu2 := hBu1.trans (hbu2.mono hBu1.size)
          have hzu2 : w16.heap.size ≤ u2.heap.size := Nat.le_trans hzu1 hbu2.size
          have hlu2 : w.heap.size + 2 < u2.heap.size := Nat.lt_of_lt_of_le hlu1 hbu2.size
          have hDu2 := hDu1.trans (hbu2.mono hzu1)
          have h2su2 := h2su1.below' hbu2
          have ht3u2 := ht3
          refine ⟨⟨hPWu2, hPPu2, hPMu2⟩, ?_⟩
          refine hTwo (i := 5) (j := 7) (by kernel_rfl) (hCall (i := 5) (d := some 101) (f := 10) (args := #[.agg #[.int .i64 k, .int .i64 f, .int .i64 t, .int .i64 e, .int .i64 l, .int .i64 dd, .string y, .slice ma mn mc]]) (l' := #[true, true, true, true, true, true, false, false, false]) (R := fun v w' => ∃ g, v = .agg #[.int .i64 k, .int .i64 f, .int .i64 t, .int .i64 e, .int .i64 l, .int .i64 dd, .string y, .slice (some ⟨g, 0, none⟩) mn mn] ∧ OwnC u2.heap.size w' 1 g 0 mn mn (ms.map Value.string) ∧ Below u2.heap.size u2 w') rfl (by kernel_rfl) (by kernel_rfl) (by kernel_rfl) (run_cl1 _ _ rfl (by kernel_rfl) rfl enter_toM) ((toMessage_any k f t e l dd y ma mb mo mn mc ms _ (hm.below' hBu2) hmn).mono fun _ _ ⟨⟨g, he, ho⟩, hb⟩ => ⟨_, he, g, rfl, ho, hb⟩) ?_) (hVal (i := 7) (d := some 16) (v := .pointer (some ⟨u2.heap.size, 0, none⟩)) (w' := u2.alloc (.cells #[.int .i64 0, .int .i64 0, .bool false, .int .i64 0, .int .i64 0, .int .i64 0, .int .i64 0, .int .i64 0, .slice none 0 0, .string ⟨#[]⟩, .int .i64 0, .slice none 0 0] 36)) (l' := #[true, true, true, true, true, false, false, true, false]) rfl (by kernel_rfl) (by kernel_rfl) (by kernel_rfl) (run_alA (by kernel_rfl)) ⟨hPWu2.block (Below.heap_alloc u2 _ (w.heap.size) (by omega)), hPPu2.block (Below.heap_alloc u2 _ (w.heap.size + 1) (by omega)), hPMu2.block (Below.heap_alloc u2 _ (w.heap.size + 2) (by omega))⟩ ?_)
          · rintro _ u3 ⟨g7, rfl, ho7, hbu3⟩
            have hPWu3 := hPWu2.block (hbu3.block (w.heap.size) (by omega))
            have hPPu3 := hPPu2.block (hbu3.block (w.heap.size + 1) (by omega))
            have hPMu3 := hPMu2.block (hbu3.block (w.heap.size + 2) (by omega))
            have hBu3 := hBu2.trans (hbu3.mono hBu2.size)
            have hzu3 : w16.heap.size ≤ u3.heap.size := Nat.le_trans hzu2 hbu3.size
            have hlu3 : w.heap.size + 2 < u3.heap.size := Nat.lt_of_lt_of_le hlu2 hbu3.size
            have hDu3 := hDu2.trans (hbu3.mono hzu2)
            have h2su3 := h2su2.below' hbu3
            have ht3u3 := ht3u2.below' hbu3
            have h7su3 := StrsAt.ofOwn ho7 hm.sz
            clear ho7
            refine ⟨⟨hPWu3, hPPu3, hPMu3⟩, ?_⟩
            refine hTwo (i := 6) (j := 7) (by kernel_rfl) (hCall (i := 6) (d := some 102) (f := 11) (args := #[.agg #[.int .i64 nu, .int .i64 ep, .bool up, .int .i64 st, .int .i64 le, .int .i64 ta, .int .i64 co, .int .i64 lf, .slice (some ⟨g2, 0, none⟩) n n, .string x, .int .i64 si], .agg #[.slice (some ⟨g3, 0, none⟩) pn pn], .agg #[.int .i64 k, .int .i64 f, .int .i64 t, .int .i64 e, .int .i64 l, .int .i64 dd, .string y, .slice (some ⟨g7, 0, none⟩) mn mn]]) (l' := #[true, true, true, true, true, true, true, false, false]) (R := fun v w' => RetA (.returned v) u3.heap.size w' (takeR2 (⟨nu, ep, up, st, le, ta, co, lf, ss, x, si⟩ : WD) ts k f t e l dd y ms) ∧ Below u3.heap.size u3 w') rfl (by kernel_rfl) (by kernel_rfl) (by kernel_rfl) (run_cl3 _ _ _ _ rfl (by kernel_rfl) (by kernel_rfl) (by kernel_rfl) rfl enter_iTake) ((iTakeN_any nu ep up st le ta co lf _ g2 0 n n ss x si _ g3 0 pn pn ts k f t e l dd y _ g7 0 mn mn ms _ h2su3 ht3u3 h7su3 hnn hmn (hTab.below' hBu3)).mono fun e _ ⟨he, hb⟩ => by obtain ⟨d, q, a, c, v, rfl, h1⟩ := he; exact ⟨_, rfl, ⟨d, q, a, c, v, rfl, h1⟩, hb⟩) ?_) (hVal (i := 7) (d := some 16) (v := .pointer (some ⟨u3.heap.size, 0, none⟩)) (w' := u3.alloc (.cells #[.int .i64 0, .int .i64 0, .bool false, .int .i64 0, .int .i64 0, .int .i64 0, .int .i64 0, .int .i64 0, .slice none 0 0, .string ⟨#[]⟩, .int .i64 0, .slice none 0 0] 36)) (l' := #[true, true, true, true, true, true, false, true, false]) rfl (by kernel_rfl) (by kernel_rfl) (by kernel_rfl) (run_alA (by kernel_rfl)) ⟨hPWu3.block (Below.heap_alloc u3 _ (w.heap.size) (by omega)), hPPu3.block (Below.heap_alloc u3 _ (w.heap.size + 1) (by omega)), hPMu3.block (Below.heap_alloc u3 _ (w.heap.size + 2) (by omega))⟩ ?_)
            · rintro _ u4 ⟨hret, hbu4⟩
              have hPWu4 := hPWu3.block (hbu4.block (w.heap.size) (by omega))
              have hPPu4 := hPPu3.block (hbu4.block (w.heap.size + 1) (by omega))
              have hPMu4 := hPMu3.block (hbu4.block (w.heap.size + 2) (by omega))
              have hBu4 := hBu3.trans (hbu4.mono hBu3.size)
              have hzu4 : w16.heap.size ≤ u4.heap.size := Nat.le_trans hzu3 hbu4.size
              have hlu4 : w.heap.size + 2 < u4.heap.size := Nat.lt_of_lt_of_le hlu3 hbu4.size
              have hDu4 := hDu3.trans (hbu4.mono hzu3)
              have h2su4 := h2su3.below' hbu4
              have ht3u4 := ht3u3.below' hbu4
              have h7su4 := h7su3.below' hbu4
              refine ⟨⟨hPWu4, hPPu4, hPMu4⟩, ?_⟩
              obtain ⟨⟨nu1, ep1, up1, st1, le1, ta1, co1, lf1, ss1, x1, si1⟩, q1, aw, cw, vw, hev, hoL, hoV, hdis, hF⟩ := hret
              simp only [Ending.returned.injEq] at hev
              subst hev
              dsimp only at hoL hdis
              obtain ⟨va, vc, rfl⟩ := hoV.slc
              have hloL := hoL.row_lo
              have hhiL := hoL.row_hi
              have hloV := hoV.row_lo
              have hhiV := hoV.row_hi
              have hoL := hoL.mono' hzu3
              have hoV := hoV.mono' hzu3
              refine hOne (by kernel_rfl) (hVal (i := 7) (d := some 16) (v := .pointer (some ⟨u4.heap.size, 0, none⟩)) (w' := u4.alloc (.cells #[.int .i64 0, .int .i64 0, .bool false, .int .i64 0, .int .i64 0, .int .i64 0, .int .i64 0, .int .i64 0, .slice none 0 0, .string ⟨#[]⟩, .int .i64 0, .slice none 0 0] 36)) (l' := #[true, true, true, true, true, true, true, true, false]) rfl (by kernel_rfl) (by kernel_rfl) (by kernel_rfl) (run_alA (by kernel_rfl)) ⟨hPWu4.block (Below.heap_alloc u4 _ (w.heap.size) (by omega)), hPPu4.block (Below.heap_alloc u4 _ (w.heap.size + 1) (by omega)), hPMu4.block (Below.heap_alloc u4 _ (w.heap.size + 2) (by omega))⟩ ?_)
              have hPWu5 := hPWu4.block (Below.heap_alloc u4 (.cells zA.toArray 36) (w.heap.size) (by omega))
              have hPPu5 := hPPu4.block (Below.heap_alloc u4 (.cells zA.toArray 36) (w.heap.size + 1) (by omega))
              have hPMu5 := hPMu4.block (Below.heap_alloc u4 (.cells zA.toArray 36) (w.heap.size + 2) (by omega))
              have hBu5 := hBu4.alloc hBu4.size (.cells zA.toArray 36)
              have hDu5 := hDu4.alloc hDu4.size (.cells zA.toArray 36)
              have hbbu5 : Below u4.heap.size u4 (u4.alloc (.cells zA.toArray 36)) := (Below.refl _ _).alloc (Nat.le_refl _) _
              have hAu5 := CF.made u4 zA.toArray 36
              have h2su5 := h2su4.below' hbbu5
              have ht3u5 := ht3u4.below' hbbu5
              have h7su5 := h7su4.below' hbbu5
              have hoL := hoL.alloc (.cells zA.toArray 36)
              have hoV := hoV.alloc (.cells zA.toArray 36)
              have hszu5 : (u4.alloc (.cells zA.toArray 36)).heap.size = u4.heap.size + 1 := by simp
              obtain ⟨pA, hpA⟩ : ∃ pA, pA = u4.heap.size := ⟨_, rfl⟩
              rw [← hpA] at hAu5 hszu5
              rw [← hpA]
              obtain ⟨u5, hu5⟩ : ∃ u5, u5 = u4.alloc (.cells zA.toArray 36) := ⟨_, rfl⟩
              rw [← hu5] at hPWu5 hPPu5 hPMu5 hBu5 hDu5 hbbu5 hAu5 hszu5 h2su5 ht3u5 h7su5 hoL hoV
              have eu5 : (.alloc u4 (.cells #[.int .i64 0, .int .i64 0, .bool false, .int .i64 0, .int .i64 0, .int .i64 0, .int .i64 0, .int .i64 0, .slice none 0 0, .string ⟨#[]⟩, .int .i64 0, .slice none 0 0] 36) : World) = u5 := hu5.symm
              rw [eu5]
              clear hu5 eu5
              have hzu5 : w16.heap.size ≤ u5.heap.size := Nat.le_trans hzu4 hbbu5.size
              have hlu5 : w.heap.size + 2 < u5.heap.size := Nat.lt_of_lt_of_le hlu4 hbbu5.size
              have hAlu5 : pA < u5.heap.size := by omega
              have hAb : w16.heap.size ≤ pA := by omega
              have HPA := hid hpA
              clear hpA
              obtain ⟨uz, huz⟩ : ∃ uz, uz = u5.setCells pA 0 [.int .i64 nu1, .int .i64 ep1, .bool up1, .int .i64 st1, .int .i64 le1, .int .i64 ta1, .int .i64 co1, .int .i64 lf1, .slice aw ss1.length cw, .string x1, .int .i64 si1, .slice va (outN q1) vc] := ⟨_, rfl⟩
              have hcz : CF uz pA [.int .i64 nu1, .int .i64 ep1, .bool up1, .int .i64 st1, .int .i64 le1, .int .i64 ta1, .int .i64 co1, .int .i64 lf1, .slice aw ss1.length cw, .string x1, .int .i64 si1, .slice va (outN q1) vc] := by rw [huz]; exact hAu5.stored rfl
              have hgz : u5.grownBy uz (some pA) := by rw [huz]; exact grown_setCells _ _ _ _ _ (World.grownBy.refl _ _)
              have hPWz := hPWu5.block (hgz.block (w.heap.size) (by omega) (by simp; omega))
              have hPPz := hPPu5.block (hgz.block (w.heap.size + 1) (by omega) (by simp; omega))
              have hPMz := hPMu5.block (hgz.block (w.heap.size + 2) (by omega) (by simp; omega))
              have hBz := below_grown hBu5 hgz (by omega) (fun k hk => by simp at hk; omega)
              have hLz := hoL.grown hgz (.inr (by intro hh; have := hloL _ hh; have := hhiL _ hh; have := HPA.out; omega))
              have hVz := hoV.grown hgz (.inr (by intro hh; have := hloV _ hh; have := hhiV _ hh; have := HPA.out; omega))
              have hzz := below_grown hDu5 hgz (by omega) (fun k hk => by simp at hk; omega)
              refine hOne (by kernel_rfl) (hSkip (i := 8) (w' := uz) (l' := #[true, true, true, true, true, true, true, true, true]) rfl (by kernel_rfl) (by kernel_rfl) (by kernel_rfl) (by rw [huz]; exact run_stT 36 zA [.int .i64 nu1, .int .i64 ep1, .bool up1, .int .i64 st1, .int .i64 le1, .int .i64 ta1, .int .i64 co1, .int .i64 lf1, .slice aw ss1.length cw, .string x1, .int .i64 si1, .slice va (outN q1) vc] (.tmp 16) (.tmp 102) (by kernel_rfl) (by kernel_rfl) (by kernel_rfl) hAu5 rfl Tryd.sizeAc (one12 _ _ _ _ _ _ _ _ _ _ _ _ _ _ _ _)) ⟨hPWz, hPPz, hPMz⟩ ?_)
              refine wpAnyH_done (by kernel_rfl) ?_ _
              have HR := hid (show ∃ (p : Nat) (nu1 ep1 : Int) (up1 : Bool) (st1 le1 ta1 co1 lf1 : Int) (ss1 : List ByteArray) (x1 : ByteArray) (si1 : Int) (q1 : Option OM) (aw : Option Addr) (cw : Nat) (vw : Value), (.pointer (some ⟨pA, 0, none⟩) : Value) = .pointer (some ⟨p, 0, none⟩) ∧ CF uz p [.int .i64 nu1, .int .i64 ep1, .bool up1, .int .i64 st1, .int .i64 le1, .int .i64 ta1, .int .i64 co1, .int .i64 lf1, .slice aw ss1.length cw, .string x1, .int .i64 si1, vw] ∧ takeR2 (⟨nu, ep, up, st, le, ta, co, lf, ss, x, si⟩ : WD) ts k f t e l dd y ms (⟨nu1, ep1, up1, st1, le1, ta1, co1, lf1, ss1, x1, si1⟩, q1) ∧ Own w16.heap.size uz 1 (.slice aw ss1.length cw) ss1.length (ss1.map Value.string) ∧ Own w16.heap.size uz 8 vw (outN q1) (outL q1) ∧ ((Value.slice aw ss1.length cw).ownBlock = none ∨ (Value.slice aw ss1.length cw).ownBlock ≠ vw.ownBlock) ∧ w16.heap.size ≤ p ∧ CF uz (w.heap.size) [.int .i64 nu, .int .i64 ep, .bool up, .int .i64 st, .int .i64 le, .int .i64 ta, .int .i64 co, .int .i64 lf, .slice a n c, .string x, .int .i64 si] ∧ CF uz (w.heap.size + 1) [.slice pa pn pc] ∧ CF uz (w.heap.size + 2) [.int .i64 k, .int .i64 f, .int .i64 t, .int .i64 e, .int .i64 l, .int .i64 dd, .string y, .slice ma mn mc] ∧ Below w.heap.size w uz ∧ Below w16.heap.size w16 uz from ⟨pA, nu1, ep1, up1, st1, le1, ta1, co1, lf1, ss1, x1, si1, q1, aw, cw, .slice va (outN q1) vc, rfl, hcz, hF, hLz, hVz, hdis, hAb, hPWz, hPPz, hPMz, hBz, hzz⟩)
              clear hcz hF hLz hVz hdis hPWz hPPz hPMz hBz hzz huz hgz hoL hoV hloL hhiL hloV hhiV
              go_wp2_with fail
              go_meet
              case rel => exact HR.out
            · have hPWu6 := hPWu3.block (Below.heap_alloc u3 (.cells zA.toArray 36) (w.heap.size) (by omega))
              have hPPu6 := hPPu3.block (Below.heap_alloc u3 (.cells zA.toArray 36) (w.heap.size + 1) (by omega))
              have hPMu6 := hPMu3.block (Below.heap_alloc u3 (.cells zA.toArray 36) (w.heap.size + 2) (by omega))
              have hBu6 := hBu3.alloc hBu3.size (.cells zA.toArray 36)
              have hDu6 := hDu3.alloc hDu3.size (.cells zA.toArray 36)
              have hbbu6 : Below u3.heap.size u3 (u3.alloc (.cells zA.toArray 36)) := (Below.refl _ _).alloc (Nat.le_refl _) _
              have hAu6 := CF.made u3 zA.toArray 36
              have h2su6 := h2su3.below' hbbu6
              have ht3u6 := ht3u3.below' hbbu6
              have h7su6 := h7su3.below' hbbu6
              have hszu6 : (u3.alloc (.cells zA.toArray 36)).heap.size = u3.heap.size + 1 := by simp
              obtain ⟨pA, hpA⟩ : ∃ pA, pA = u3.heap.size := ⟨_, rfl⟩
              rw [← hpA] at hAu6 hszu6
              rw [← hpA]
              obtain ⟨u6, hu6⟩ : ∃ u6, u6 = u3.alloc (.cells zA.toArray 36) := ⟨_, rfl⟩
              rw [← hu6] at hPWu6 hPPu6 hPMu6 hBu6 hDu6 hbbu6 hAu6 hszu6 h2su6 ht3u6 h7su6
              have eu6 : (.alloc u3 (.cells #[.int .i64 0, .int .i64 0, .bool false, .int .i64 0, .int .i64 0, .int .i64 0, .int .i64 0, .int .i64 0, .slice none 0 0, .string ⟨#[]⟩, .int .i64 0, .slice none 0 0] 36) : World) = u6 := hu6.symm
              rw [eu6]
              clear hu6 eu6
              have hzu6 : w16.heap.size ≤ u6.heap.size := Nat.le_trans hzu3 hbbu6.size
              have hlu6 : w.heap.size + 2 < u6.heap.size := Nat.lt_of_lt_of_le hlu3 hbbu6.size
              have hAlu6 : pA < u6.heap.size := by omega
              have hAb : w16.heap.size ≤ pA := by omega
              have HPA := hid hpA
              clear hpA
              refine hOne (by kernel_rfl) (hCall (i := 6) (d := some 102) (f := 11) (args := #[.agg #[.int .i64 nu, .int .i64 ep, .bool up, .int .i64 st, .int .i64 le, .int .i64 ta, .int .i64 co, .int .i64 lf, .slice (some ⟨g2, 0, none⟩) n n, .string x, .int .i64 si], .agg #[.slice (some ⟨g3, 0, none⟩) pn pn], .agg #[.int .i64 k, .int .i64 f, .int .i64 t, .int .i64 e, .int .i64 l, .int .i64 dd, .string y, .slice (some ⟨g7, 0, none⟩) mn mn]]) (l' := #[true, true, true, true, true, true, true, true, false]) (R := fun v w' => RetA (.returned v) u6.heap.size w' (takeR2 (⟨nu, ep, up, st, le, ta, co, lf, ss, x, si⟩ : WD) ts k f t e l dd y ms) ∧ Below u6.heap.size u6 w') rfl (by kernel_rfl) (by kernel_rfl) (by kernel_rfl) (run_cl3 _ _ _ _ rfl (by kernel_rfl) (by kernel_rfl) (by kernel_rfl) rfl enter_iTake) ((iTakeN_any nu ep up st le ta co lf _ g2 0 n n ss x si _ g3 0 pn pn ts k f t e l dd y _ g7 0 mn mn ms _ h2su6 ht3u6 h7su6 hnn hmn (hTab.below' hBu6)).mono fun e _ ⟨he, hb⟩ => by obtain ⟨d, q, a, c, v, rfl, h1⟩ := he; exact ⟨_, rfl, ⟨d, q, a, c, v, rfl, h1⟩, hb⟩) ?_)
              rintro _ u7 ⟨hret, hbu7⟩
              have hPWu7 := hPWu6.block (hbu7.block (w.heap.size) (by omega))
              have hPPu7 := hPPu6.block (hbu7.block (w.heap.size + 1) (by omega))
              have hPMu7 := hPMu6.block (hbu7.block (w.heap.size + 2) (by omega))
              have hBu7 := hBu6.trans (hbu7.mono hBu6.size)
              have hzu7 : w16.heap.size ≤ u7.heap.size := Nat.le_trans hzu6 hbu7.size
              have hlu7 : w.heap.size + 2 < u7.heap.size := Nat.lt_of_lt_of_le hlu6 hbu7.size
              have hDu7 := hDu6.trans (hbu7.mono hzu6)
              have h2su7 := h2su6.below' hbu7
              have ht3u7 := ht3u6.below' hbu7
              have h7su7 := h7su6.below' hbu7
              have hAu7 := hAu6.block (hbu7.block pA (by omega))
              have hAlu7 : pA < u7.heap.size := Nat.lt_of_lt_of_le hAlu6 hbu7.size
              refine ⟨⟨hPWu7, hPPu7, hPMu7⟩, ?_⟩
              obtain ⟨⟨nu1, ep1, up1, st1, le1, ta1, co1, lf1, ss1, x1, si1⟩, q1, aw, cw, vw, hev, hoL, hoV, hdis, hF⟩ := hret
              simp only [Ending.returned.injEq] at hev
              subst hev
              dsimp only at hoL hdis
              obtain ⟨va, vc, rfl⟩ := hoV.slc
              have hloL := hoL.row_lo
              have hhiL := hoL.row_hi
              have hloV := hoV.row_lo
              have hhiV := hoV.row_hi
              have hoL := hoL.mono' hzu6
              have hoV := hoV.mono' hzu6
              obtain ⟨uz, huz⟩ : ∃ uz, uz = u7.setCells pA 0 [.int .i64 nu1, .int .i64 ep1, .bool up1, .int .i64 st1, .int .i64 le1, .int .i64 ta1, .int .i64 co1, .int .i64 lf1, .slice aw ss1.length cw, .string x1, .int .i64 si1, .slice va (outN q1) vc] := ⟨_, rfl⟩
              have hcz : CF uz pA [.int .i64 nu1, .int .i64 ep1, .bool up1, .int .i64 st1, .int .i64 le1, .int .i64 ta1, .int .i64 co1, .int .i64 lf1, .slice aw ss1.length cw, .string x1, .int .i64 si1, .slice va (outN q1) vc] := by rw [huz]; exact hAu7.stored rfl
              have hgz : u7.grownBy uz (some pA) := by rw [huz]; exact grown_setCells _ _ _ _ _ (World.grownBy.refl _ _)
              have hPWz := hPWu7.block (hgz.block (w.heap.size) (by omega) (by simp; omega))
              have hPPz := hPPu7.block (hgz.block (w.heap.size + 1) (by omega) (by simp; omega))
              have hPMz := hPMu7.block (hgz.block (w.heap.size + 2) (by omega) (by simp; omega))
              have hBz := below_grown hBu7 hgz (by omega) (fun k hk => by simp at hk; omega)
              have hLz := hoL.grown hgz (.inr (by intro hh; have := hloL _ hh; have := hhiL _ hh; have := HPA.out; omega))
              have hVz := hoV.grown hgz (.inr (by intro hh; have := hloV _ hh; have := hhiV _ hh; have := HPA.out; omega))
              have hzz := below_grown hDu7 hgz (by omega) (fun k hk => by simp at hk; omega)
              refine hOne (by kernel_rfl) (hSkip (i := 8) (w' := uz) (l' := #[true, true, true, true, true, true, true, true, true]) rfl (by kernel_rfl) (by kernel_rfl) (by kernel_rfl) (by rw [huz]; exact run_stT 36 zA [.int .i64 nu1, .int .i64 ep1, .bool up1, .int .i64 st1, .int .i64 le1, .int .i64 ta1, .int .i64 co1, .int .i64 lf1, .slice aw ss1.length cw, .string x1, .int .i64 si1, .slice va (outN q1) vc] (.tmp 16) (.tmp 102) (by kernel_rfl) (by kernel_rfl) (by kernel_rfl) hAu7 rfl Tryd.sizeAc (one12 _ _ _ _ _ _ _ _ _ _ _ _ _ _ _ _)) ⟨hPWz, hPPz, hPMz⟩ ?_)
              refine wpAnyH_done (by kernel_rfl) ?_ _
              have HR := hid (show ∃ (p : Nat) (nu1 ep1 : Int) (up1 : Bool) (st1 le1 ta1 co1 lf1 : Int) (ss1 : List ByteArray) (x1 : ByteArray) (si1 : Int) (q1 : Option OM) (aw : Option Addr) (cw : Nat) (vw : Value), (.pointer (some ⟨pA, 0, none⟩) : Value) = .pointer (some ⟨p, 0, none⟩) ∧ CF uz p [.int .i64 nu1, .int .i64 ep1, .bool up1, .int .i64 st1, .int .i64 le1, .int .i64 ta1, .int .i64 co1, .int .i64 lf1, .slice aw ss1.length cw, .string x1, .int .i64 si1, vw] ∧ takeR2 (⟨nu, ep, up, st, le, ta, co, lf, ss, x, si⟩ : WD) ts k f t e l dd y ms (⟨nu1, ep1, up1, st1, le1, ta1, co1, lf1, ss1, x1, si1⟩, q1) ∧ Own w16.heap.size uz 1 (.slice aw ss1.length cw) ss1.length (ss1.map Value.string) ∧ Own w16.heap.size uz 8 vw (outN q1) (outL q1) ∧ ((Value.slice aw ss1.length cw).ownBlock = none ∨ (Value.slice aw ss1.length cw).ownBlock ≠ vw.ownBlock) ∧ w16.heap.size ≤ p ∧ CF uz (w.heap.size) [.int .i64 nu, .int .i64 ep, .bool up, .int .i64 st, .int .i64 le, .int .i64 ta, .int .i64 co, .int .i64 lf, .slice a n c, .string x, .int .i64 si] ∧ CF uz (w.heap.size + 1) [.slice pa pn pc] ∧ CF uz (w.heap.size + 2) [.int .i64 k, .int .i64 f, .int .i64 t, .int .i64 e, .int .i64 l, .int .i64 dd, .string y, .slice ma mn mc] ∧ Below w.heap.size w uz ∧ Below w16.heap.size w16 uz from ⟨pA, nu1, ep1, up1, st1, le1, ta1, co1, lf1, ss1, x1, si1, q1, aw, cw, .slice va (outN q1) vc, rfl, hcz, hF, hLz, hVz, hdis, hAb, hPWz, hPPz, hPMz, hBz, hzz⟩)
              clear hcz hF hLz hVz hdis hPWz hPPz hPMz hBz hzz huz hgz hoL hoV hloL hhiL hloV hhiV
              go_wp2_with fail
              go_meet
              case rel => exact HR.out
          · have hPWu8 := hPWu2.block (Below.heap_alloc u2 (.cells zA.toArray 36) (w.heap.size) (by omega))
            have hPPu8 := hPPu2.block (Below.heap_alloc u2 (.cells zA.toArray 36) (w.heap.size + 1) (by omega))
            have hPMu8 := hPMu2.block (Below.heap_alloc u2 (.cells zA.toArray 36) (w.heap.size + 2) (by omega))
            have hBu8 := hBu2.alloc hBu2.size (.cells zA.toArray 36)
            have hDu8 := hDu2.alloc hDu2.size (.cells zA.toArray 36)
            have hbbu8 : Below u2.heap.size u2 (u2.alloc (.cells zA.toArray 36)) := (Below.refl _ _).alloc (Nat.le_refl _) _
            have hAu8 := CF.made u2 zA.toArray 36
            have h2su8 := h2su2.below' hbbu8
            have ht3u8 := ht3u2.below' hbbu8
            have hszu8 : (u2.alloc (.cells zA.toArray 36)).heap.size = u2.heap.size + 1 := by simp
            obtain ⟨pA, hpA⟩ : ∃ pA, pA = u2.heap.size := ⟨_, rfl⟩
            rw [← hpA] at hAu8 hszu8
            rw [← hpA]
            obtain ⟨u8, hu8⟩ : ∃ u8, u8 = u2.alloc (.cells zA.toArray 36) := ⟨_, rfl⟩
            rw [← hu8] at hPWu8 hPPu8 hPMu8 hBu8 hDu8 hbbu8 hAu8 hszu8 h2su8 ht3u8
            have eu8 : (.alloc u2 (.cells #[.int .i64 0, .int .i64 0, .bool false, .int .i64 0, .int .i64 0, .int .i64 0, .int .i64 0, .int .i64 0, .slice none 0 0, .string ⟨#[]⟩, .int .i64 0, .slice none 0 0] 36) : World) = u8 := hu8.symm
            rw [eu8]
            clear hu8 eu8
            have hzu8 : w16.heap.size ≤ u8.heap.size := Nat.le_trans hzu2 hbbu8.size
            have hlu8 : w.heap.size + 2 < u8.heap.size := Nat.lt_of_lt_of_le hlu2 hbbu8.size
            have hAlu8 : pA < u8.heap.size := by omega
            have hAb : w16.heap.size ≤ pA := by omega
            have HPA := hid hpA
            clear hpA
            refine hOne (by kernel_rfl) (hCall (i := 5) (d := some 101) (f := 10) (args := #[.agg #[.int .i64 k, .int .i64 f, .int .i64 t, .int .i64 e, .int .i64 l, .int .i64 dd, .string y, .slice ma mn mc]]) (l' := #[true, true, true, true, true, true, false, true, false]) (R := fun v w' => ∃ g, v = .agg #[.int .i64 k, .int .i64 f, .int .i64 t, .int .i64 e, .int .i64 l, .int .i64 dd, .string y, .slice (some ⟨g, 0, none⟩) mn mn] ∧ OwnC u8.heap.size w' 1 g 0 mn mn (ms.map Value.string) ∧ Below u8.heap.size u8 w') rfl (by kernel_rfl) (by kernel_rfl) (by kernel_rfl) (run_cl1 _ _ rfl (by kernel_rfl) rfl enter_toM) ((toMessage_any k f t e l dd y ma mb mo mn mc ms _ (hm.below' hBu8) hmn).mono fun _ _ ⟨⟨g, he, ho⟩, hb⟩ => ⟨_, he, g, rfl, ho, hb⟩) ?_)
            rintro _ u9 ⟨g7, rfl, ho7, hbu9⟩
            have hPWu9 := hPWu8.block (hbu9.block (w.heap.size) (by omega))
            have hPPu9 := hPPu8.block (hbu9.block (w.heap.size + 1) (by omega))
            have hPMu9 := hPMu8.block (hbu9.block (w.heap.size + 2) (by omega))
            have hBu9 := hBu8.trans (hbu9.mono hBu8.size)
            have hzu9 : w16.heap.size ≤ u9.heap.size := Nat.le_trans hzu8 hbu9.size
            have hlu9 : w.heap.size + 2 < u9.heap.size := Nat.lt_of_lt_of_le hlu8 hbu9.size
            have hDu9 := hDu8.trans (hbu9.mono hzu8)
            have h2su9 := h2su8.below' hbu9
            have ht3u9 := ht3u8.below' hbu9
            have h7su9 := StrsAt.ofOwn ho7 hm.sz
            clear ho7
            have hAu9 := hAu8.block (hbu9.block pA (by omega))
            have hAlu9 : pA < u9.heap.size := Nat.lt_of_lt_of_le hAlu8 hbu9.size
            refine ⟨⟨hPWu9, hPPu9, hPMu9⟩, ?_⟩
            refine hOne (by kernel_rfl) (hCall (i := 6) (d := some 102) (f := 11) (args := #[.agg #[.int .i64 nu, .int .i64 ep, .bool up, .int .i64 st, .int .i64 le, .int .i64 ta, .int .i64 co, .int .i64 lf, .slice (some ⟨g2, 0, none⟩) n n, .string x, .int .i64 si], .agg #[.slice (some ⟨g3, 0, none⟩) pn pn], .agg #[.int .i64 k, .int .i64 f, .int .i64 t, .int .i64 e, .int .i64 l, .int .i64 dd, .string y, .slice (some ⟨g7, 0, none⟩) mn mn]]) (l' := #[true, true, true, true, true, true, true, true, false]) (R := fun v w' => RetA (.returned v) u9.heap.size w' (takeR2 (⟨nu, ep, up, st, le, ta, co, lf, ss, x, si⟩ : WD) ts k f t e l dd y ms) ∧ Below u9.heap.size u9 w') rfl (by kernel_rfl) (by kernel_rfl) (by kernel_rfl) (run_cl3 _ _ _ _ rfl (by kernel_rfl) (by kernel_rfl) (by kernel_rfl) rfl enter_iTake) ((iTakeN_any nu ep up st le ta co lf _ g2 0 n n ss x si _ g3 0 pn pn ts k f t e l dd y _ g7 0 mn mn ms _ h2su9 ht3u9 h7su9 hnn hmn (hTab.below' hBu9)).mono fun e _ ⟨he, hb⟩ => by obtain ⟨d, q, a, c, v, rfl, h1⟩ := he; exact ⟨_, rfl, ⟨d, q, a, c, v, rfl, h1⟩, hb⟩) ?_)
            rintro _ u10 ⟨hret, hbu10⟩
            have hPWu10 := hPWu9.block (hbu10.block (w.heap.size) (by omega))
            have hPPu10 := hPPu9.block (hbu10.block (w.heap.size + 1) (by omega))
            have hPMu10 := hPMu9.block (hbu10.block (w.heap.size + 2) (by omega))
            have hBu10 := hBu9.trans (hbu10.mono hBu9.size)
            have hzu10 : w16.heap.size ≤ u10.heap.size := Nat.le_trans hzu9 hbu10.size
            have hlu10 : w.heap.size + 2 < u10.heap.size := Nat.lt_of_lt_of_le hlu9 hbu10.size
            have hDu10 := hDu9.trans (hbu10.mono hzu9)
            have h2su10 := h2su9.below' hbu10
            have ht3u10 := ht3u9.below' hbu10
            have h7su10 := h7su9.below' hbu10
            have hAu10 := hAu9.block (hbu10.block pA (by omega))
            have hAlu10 : pA < u10.heap.size := Nat.lt_of_lt_of_le hAlu9 hbu10.size
            refine ⟨⟨hPWu10, hPPu10, hPMu10⟩, ?_⟩
            obtain ⟨⟨nu1, ep1, up1, st1, le1, ta1, co1, lf1, ss1, x1, si1⟩, q1, aw, cw, vw, hev, hoL, hoV, hdis, hF⟩ := hret
            simp only [Ending.returned.injEq] at hev
            subst hev
            dsimp only at hoL hdis
            obtain ⟨va, vc, rfl⟩ := hoV.slc
            have hloL := hoL.row_lo
            have hhiL := hoL.row_hi
            have hloV := hoV.row_lo
            have hhiV := hoV.row_hi
            have hoL := hoL.mono' hzu9
            have hoV := hoV.mono' hzu9
            obtain ⟨uz, huz⟩ : ∃ uz, uz = u10.setCells pA 0 [.int .i64 nu1, .int .i64 ep1, .bool up1, .int .i64 st1, .int .i64 le1, .int .i64 ta1, .int .i64 co1, .int .i64 lf1, .slice aw ss1.length cw, .string x1, .int .i64 si1, .slice va (outN q1) vc] := ⟨_, rfl⟩
            have hcz : CF uz pA [.int .i64 nu1, .int .i64 ep1, .bool up1, .int .i64 st1, .int .i64 le1, .int .i64 ta1, .int .i64 co1, .int .i64 lf1, .slice aw ss1.length cw, .string x1, .int .i64 si1, .slice va (outN q1) vc] := by rw [huz]; exact hAu10.stored rfl
            have hgz : u10.grownBy uz (some pA) := by rw [huz]; exact grown_setCells _ _ _ _ _ (World.grownBy.refl _ _)
            have hPWz := hPWu10.block (hgz.block (w.heap.size) (by omega) (by simp; omega))
            have hPPz := hPPu10.block (hgz.block (w.heap.size + 1) (by omega) (by simp; omega))
            have hPMz := hPMu10.block (hgz.block (w.heap.size + 2) (by omega) (by simp; omega))
            have hBz := below_grown hBu10 hgz (by omega) (fun k hk => by simp at hk; omega)
            have hLz := hoL.grown hgz (.inr (by intro hh; have := hloL _ hh; have := hhiL _ hh; have := HPA.out; omega))
            have hVz := hoV.grown hgz (.inr (by intro hh; have := hloV _ hh; have := hhiV _ hh; have := HPA.out; omega))
            have hzz := below_grown hDu10 hgz (by omega) (fun k hk => by simp at hk; omega)
            refine hOne (by kernel_rfl) (hSkip (i := 8) (w' := uz) (l' := #[true, true, true, true, true, true, true, true, true]) rfl (by kernel_rfl) (by kernel_rfl) (by kernel_rfl) (by rw [huz]; exact run_stT 36 zA [.int .i64 nu1, .int .i64 ep1, .bool up1, .int .i64 st1, .int .i64 le1, .int .i64 ta1, .int .i64 co1, .int .i64 lf1, .slice aw ss1.length cw, .string x1, .int .i64 si1, .slice va (outN q1) vc] (.tmp 16) (.tmp 102) (by kernel_rfl) (by kernel_rfl) (by kernel_rfl) hAu10 rfl Tryd.sizeAc (one12 _ _ _ _ _ _ _ _ _ _ _ _ _ _ _ _)) ⟨hPWz, hPPz, hPMz⟩ ?_)
            refine wpAnyH_done (by kernel_rfl) ?_ _
            have HR := hid (show ∃ (p : Nat) (nu1 ep1 : Int) (up1 : Bool) (st1 le1 ta1 co1 lf1 : Int) (ss1 : List ByteArray) (x1 : ByteArray) (si1 : Int) (q1 : Option OM) (aw : Option Addr) (cw : Nat) (vw : Value), (.pointer (some ⟨pA, 0, none⟩) : Value) = .pointer (some ⟨p, 0, none⟩) ∧ CF uz p [.int .i64 nu1, .int .i64 ep1, .bool up1, .int .i64 st1, .int .i64 le1, .int .i64 ta1, .int .i64 co1, .int .i64 lf1, .slice aw ss1.length cw, .string x1, .int .i64 si1, vw] ∧ takeR2 (⟨nu, ep, up, st, le, ta, co, lf, ss, x, si⟩ : WD) ts k f t e l dd y ms (⟨nu1, ep1, up1, st1, le1, ta1, co1, lf1, ss1, x1, si1⟩, q1) ∧ Own w16.heap.size uz 1 (.slice aw ss1.length cw) ss1.length (ss1.map Value.string) ∧ Own w16.heap.size uz 8 vw (outN q1) (outL q1) ∧ ((Value.slice aw ss1.length cw).ownBlock = none ∨ (Value.slice aw ss1.length cw).ownBlock ≠ vw.ownBlock) ∧ w16.heap.size ≤ p ∧ CF uz (w.heap.size) [.int .i64 nu, .int .i64 ep, .bool up, .int .i64 st, .int .i64 le, .int .i64 ta, .int .i64 co, .int .i64 lf, .slice a n c, .string x, .int .i64 si] ∧ CF uz (w.heap.size + 1) [.slice pa pn pc] ∧ CF uz (w.heap.size + 2) [.int .i64 k, .int .i64 f, .int .i64 t, .int .i64 e, .int .i64 l, .int .i64 dd, .string y, .slice ma mn mc] ∧ Below w.heap.size w uz ∧ Below w16.heap.size w16 uz from ⟨pA, nu1, ep1, up1, st1, le1, ta1, co1, lf1, ss1, x1, si1, q1, aw, cw, .slice va (outN q1) vc, rfl, hcz, hF, hLz, hVz, hdis, hAb, hPWz, hPPz, hPMz, hBz, hzz⟩)
            clear hcz hF hLz hVz hdis hPWz hPPz hPMz hBz hzz huz hgz hoL hoV hloL hhiL hloV hhiV
            go_wp2_with fail
            go_meet
            case rel => exact HR.out
        · have hPWu11 := hPWu1.block (Below.heap_alloc u1 (.cells zA.toArray 36) (w.heap.size) (by omega))
          have hPPu11 := hPPu1.block (Below.heap_alloc u1 (.cells zA.toArray 36) (w.heap.size + 1) (by omega))
          have hPMu11 := hPMu1.block (Below.heap_alloc u1 (.cells zA.toArray 36) (w.heap.size + 2) (by omega))
          have hBu11 := hBu1.alloc hBu1.size (.cells zA.toArray 36)
          have hDu11 := hDu1.alloc hDu1.size (.cells zA.toArray 36)
          have hbbu11 : Below u1.heap.size u1 (u1.alloc (.cells zA.toArray 36)) := (Below.refl _ _).alloc (Nat.le_refl _) _
          have hAu11 := CF.made u1 zA.toArray 36
          have h2su11 := h2su1.below' hbbu11
          have hszu11 : (u1.alloc (.cells zA.toArray 36)).heap.size = u1.heap.size + 1 := by simp
          obtain ⟨pA, hpA⟩ : ∃ pA, pA = u1.heap.size := ⟨_, rfl⟩
          rw [← hpA] at hAu11 hszu11
          rw [← hpA]
          obtain ⟨u11, hu11⟩ : ∃ u11, u11 = u1.alloc (.cells zA.toArray 36) := ⟨_, rfl⟩
          rw [← hu11] at hPWu11 hPPu11 hPMu11 hBu11 hDu11 hbbu11 hAu11 hszu11 h2su11
          have eu11 : (.alloc u1 (.cells #[.int .i64 0, .int .i64 0, .bool false, .int .i64 0, .int .i64 0, .int .i64 0, .int .i64 0, .int .i64 0, .slice none 0 0, .string ⟨#[]⟩, .int .i64 0, .slice none 0 0] 36) : World) = u11 := hu11.symm
          rw [eu11]
          clear hu11 eu11
          have hzu11 : w16.heap.size ≤ u11.heap.size := Nat.le_trans hzu1 hbbu11.size
          have hlu11 : w.heap.size + 2 < u11.heap.size := Nat.lt_of_lt_of_le hlu1 hbbu11.size
          have hAlu11 : pA < u11.heap.size := by omega
          have hAb : w16.heap.size ≤ pA := by omega
          have HPA := hid hpA
          clear hpA
          refine hOne (by kernel_rfl) (hCall (i := 3) (d := some 99) (f := 9) (args := #[.agg #[.slice pa pn pc]]) (l' := #[true, true, true, true, true, false, false, true, false]) (R := fun v w' => ∃ g, v = .agg #[.slice (some ⟨g, 0, none⟩) pn pn] ∧ TasksAt w' (some ⟨g, 0, none⟩) g 0 pn ts ∧ Below u11.heap.size u11 w') rfl (by kernel_rfl) (by kernel_rfl) (by kernel_rfl) (run_cl1 _ _ rfl (by kernel_rfl) rfl enter_toP) ((toPlan_any pa pb po pn pc ts _ (hp.below' hBu11) hpn).mono fun _ _ ⟨g, xs, he, _, _, ht, hb⟩ => ⟨_, he, g, rfl, ht, hb⟩) ?_)
          rintro _ u12 ⟨g3, rfl, ht3, hbu12⟩
          have hPWu12 := hPWu11.block (hbu12.block (w.heap.size) (by omega))
          have hPPu12 := hPPu11.block (hbu12.block (w.heap.size + 1) (by omega))
          have hPMu12 := hPMu11.block (hbu12.block (w.heap.size + 2) (by omega))
          have hBu12 := hBu11.trans (hbu12.mono hBu11.size)
          have hzu12 : w16.heap.size ≤ u12.heap.size := Nat.le_trans hzu11 hbu12.size
          have hlu12 : w.heap.size + 2 < u12.heap.size := Nat.lt_of_lt_of_le hlu11 hbu12.size
          have hDu12 := hDu11.trans (hbu12.mono hzu11)
          have h2su12 := h2su11.below' hbu12
          have ht3u12 := ht3
          have hAu12 := hAu11.block (hbu12.block pA (by omega))
          have hAlu12 : pA < u12.heap.size := Nat.lt_of_lt_of_le hAlu11 hbu12.size
          refine ⟨⟨hPWu12, hPPu12, hPMu12⟩, ?_⟩
          refine hOne (by kernel_rfl) (hCall (i := 5) (d := some 101) (f := 10) (args := #[.agg #[.int .i64 k, .int .i64 f, .int .i64 t, .int .i64 e, .int .i64 l, .int .i64 dd, .string y, .slice ma mn mc]]) (l' := #[true, true, true, true, true, true, false, true, false]) (R := fun v w' => ∃ g, v = .agg #[.int .i64 k, .int .i64 f, .int .i64 t, .int .i64 e, .int .i64 l, .int .i64 dd, .string y, .slice (some ⟨g, 0, none⟩) mn mn] ∧ OwnC u12.heap.size w' 1 g 0 mn mn (ms.map Value.string) ∧ Below u12.heap.size u12 w') rfl (by kernel_rfl) (by kernel_rfl) (by kernel_rfl) (run_cl1 _ _ rfl (by kernel_rfl) rfl enter_toM) ((toMessage_any k f t e l dd y ma mb mo mn mc ms _ (hm.below' hBu12) hmn).mono fun _ _ ⟨⟨g, he, ho⟩, hb⟩ => ⟨_, he, g, rfl, ho, hb⟩) ?_)
          rintro _ u13 ⟨g7, rfl, ho7, hbu13⟩
          have hPWu13 := hPWu12.block (hbu13.block (w.heap.size) (by omega))
          have hPPu13 := hPPu12.block (hbu13.block (w.heap.size + 1) (by omega))
          have hPMu13 := hPMu12.block (hbu13.block (w.heap.size + 2) (by omega))
          have hBu13 := hBu12.trans (hbu13.mono hBu12.size)
          have hzu13 : w16.heap.size ≤ u13.heap.size := Nat.le_trans hzu12 hbu13.size
          have hlu13 : w.heap.size + 2 < u13.heap.size := Nat.lt_of_lt_of_le hlu12 hbu13.size
          have hDu13 := hDu12.trans (hbu13.mono hzu12)
          have h2su13 := h2su12.below' hbu13
          have ht3u13 := ht3u12.below' hbu13
          have h7su13 := StrsAt.ofOwn ho7 hm.sz
          clear ho7
          have hAu13 := hAu12.block (hbu13.block pA (by omega))
          have hAlu13 : pA < u13.heap.size := Nat.lt_of_lt_of_le hAlu12 hbu13.size
          refine ⟨⟨hPWu13, hPPu13, hPMu13⟩, ?_⟩
          refine hOne (by kernel_rfl) (hCall (i := 6) (d := some 102) (f := 11) (args := #[.agg #[.int .i64 nu, .int .i64 ep, .bool up, .int .i64 st, .int .i64 le, .int .i64 ta, .int .i64 co, .int .i64 lf, .slice (some ⟨g2, 0, none⟩) n n, .string x, .int .i64 si], .agg #[.slice (some ⟨g3, 0, none⟩) pn pn], .agg #[.int .i64 k, .int .i64 f, .int .i64 t, .int .i64 e, .int .i64 l, .int .i64 dd, .string y, .slice (some ⟨g7, 0, none⟩) mn mn]]) (l' := #[true, true, true, true, true, true, true, true, false]) (R := fun v w' => RetA (.returned v) u13.heap.size w' (takeR2 (⟨nu, ep, up, st, le, ta, co, lf, ss, x, si⟩ : WD) ts k f t e l dd y ms) ∧ Below u13.heap.size u13 w') rfl (by kernel_rfl) (by kernel_rfl) (by kernel_rfl) (run_cl3 _ _ _ _ rfl (by kernel_rfl) (by kernel_rfl) (by kernel_rfl) rfl enter_iTake) ((iTakeN_any nu ep up st le ta co lf _ g2 0 n n ss x si _ g3 0 pn pn ts k f t e l dd y _ g7 0 mn mn ms _ h2su13 ht3u13 h7su13 hnn hmn (hTab.below' hBu13)).mono fun e _ ⟨he, hb⟩ => by obtain ⟨d, q, a, c, v, rfl, h1⟩ := he; exact ⟨_, rfl, ⟨d, q, a, c, v, rfl, h1⟩, hb⟩) ?_)
          rintro _ u14 ⟨hret, hbu14⟩
          have hPWu14 := hPWu13.block (hbu14.block (w.heap.size) (by omega))
          have hPPu14 := hPPu13.block (hbu14.block (w.heap.size + 1) (by omega))
          have hPMu14 := hPMu13.block (hbu14.block (w.heap.size + 2) (by omega))
          have hBu14 := hBu13.trans (hbu14.mono hBu13.size)
          have hzu14 : w16.heap.size ≤ u14.heap.size := Nat.le_trans hzu13 hbu14.size
          have hlu14 : w.heap.size + 2 < u14.heap.size := Nat.lt_of_lt_of_le hlu13 hbu14.size
          have hDu14 := hDu13.trans (hbu14.mono hzu13)
          have h2su14 := h2su13.below' hbu14
          have ht3u14 := ht3u13.below' hbu14
          have h7su14 := h7su13.below' hbu14
          have hAu14 := hAu13.block (hbu14.block pA (by omega))
          have hAlu14 : pA < u14.heap.size := Nat.lt_of_lt_of_le hAlu13 hbu14.size
          refine ⟨⟨hPWu14, hPPu14, hPMu14⟩, ?_⟩
          obtain ⟨⟨nu1, ep1, up1, st1, le1, ta1, co1, lf1, ss1, x1, si1⟩, q1, aw, cw, vw, hev, hoL, hoV, hdis, hF⟩ := hret
          simp only [Ending.returned.injEq] at hev
          subst hev
          dsimp only at hoL hdis
          obtain ⟨va, vc, rfl⟩ := hoV.slc
          have hloL := hoL.row_lo
          have hhiL := hoL.row_hi
          have hloV := hoV.row_lo
          have hhiV := hoV.row_hi
          have hoL := hoL.mono' hzu13
          have hoV := hoV.mono' hzu13
          obtain ⟨uz, huz⟩ : ∃ uz, uz = u14.setCells pA 0 [.int .i64 nu1, .int .i64 ep1, .bool up1, .int .i64 st1, .int .i64 le1, .int .i64 ta1, .int .i64 co1, .int .i64 lf1, .slice aw ss1.length cw, .string x1, .int .i64 si1, .slice va (outN q1) vc] := ⟨_, rfl⟩
          have hcz : CF uz pA [.int .i64 nu1, .int .i64 ep1, .bool up1, .int .i64 st1, .int .i64 le1, .int .i64 ta1, .int .i64 co1, .int .i64 lf1, .slice aw ss1.length cw, .string x1, .int .i64 si1, .slice va (outN q1) vc] := by rw [huz]; exact hAu14.stored rfl
          have hgz : u14.grownBy uz (some pA) := by rw [huz]; exact grown_setCells _ _ _ _ _ (World.grownBy.refl _ _)
          have hPWz := hPWu14.block (hgz.block (w.heap.size) (by omega) (by simp; omega))
          have hPPz := hPPu14.block (hgz.block (w.heap.size + 1) (by omega) (by simp; omega))
          have hPMz := hPMu14.block (hgz.block (w.heap.size + 2) (by omega) (by simp; omega))
          have hBz := below_grown hBu14 hgz (by omega) (fun k hk => by simp at hk; omega)
          have hLz := hoL.grown hgz (.inr (by intro hh; have := hloL _ hh; have := hhiL _ hh; have := HPA.out; omega))
          have hVz := hoV.grown hgz (.inr (by intro hh; have := hloV _ hh; have := hhiV _ hh; have := HPA.out; omega))
          have hzz := below_grown hDu14 hgz (by omega) (fun k hk => by simp at hk; omega)
          refine hOne (by kernel_rfl) (hSkip (i := 8) (w' := uz) (l' := #[true, true, true, true, true, true, true, true, true]) rfl (by kernel_rfl) (by kernel_rfl) (by kernel_rfl) (by rw [huz]; exact run_stT 36 zA [.int .i64 nu1, .int .i64 ep1, .bool up1, .int .i64 st1, .int .i64 le1, .int .i64 ta1, .int .i64 co1, .int .i64 lf1, .slice aw ss1.length cw, .string x1, .int .i64 si1, .slice va (outN q1) vc] (.tmp 16) (.tmp 102) (by kernel_rfl) (by kernel_rfl) (by kernel_rfl) hAu14 rfl Tryd.sizeAc (one12 _ _ _ _ _ _ _ _ _ _ _ _ _ _ _ _)) ⟨hPWz, hPPz, hPMz⟩ ?_)
          refine wpAnyH_done (by kernel_rfl) ?_ _
          have HR := hid (show ∃ (p : Nat) (nu1 ep1 : Int) (up1 : Bool) (st1 le1 ta1 co1 lf1 : Int) (ss1 : List ByteArray) (x1 : ByteArray) (si1 : Int) (q1 : Option OM) (aw : Option Addr) (cw : Nat) (vw : Value), (.pointer (some ⟨pA, 0, none⟩) : Value) = .pointer (some ⟨p, 0, none⟩) ∧ CF uz p [.int .i64 nu1, .int .i64 ep1, .bool up1, .int .i64 st1, .int .i64 le1, .int .i64 ta1, .int .i64 co1, .int .i64 lf1, .slice aw ss1.length cw, .string x1, .int .i64 si1, vw] ∧ takeR2 (⟨nu, ep, up, st, le, ta, co, lf, ss, x, si⟩ : WD) ts k f t e l dd y ms (⟨nu1, ep1, up1, st1, le1, ta1, co1, lf1, ss1, x1, si1⟩, q1) ∧ Own w16.heap.size uz 1 (.slice aw ss1.length cw) ss1.length (ss1.map Value.string) ∧ Own w16.heap.size uz 8 vw (outN q1) (outL q1) ∧ ((Value.slice aw ss1.length cw).ownBlock = none ∨ (Value.slice aw ss1.length cw).ownBlock ≠ vw.ownBlock) ∧ w16.heap.size ≤ p ∧ CF uz (w.heap.size) [.int .i64 nu, .int .i64 ep, .bool up, .int .i64 st, .int .i64 le, .int .i64 ta, .int .i64 co, .int .i64 lf, .slice a n c, .string x, .int .i64 si] ∧ CF uz (w.heap.size + 1) [.slice pa pn pc] ∧ CF uz (w.heap.size + 2) [.int .i64 k, .int .i64 f, .int .i64 t, .int .i64 e, .int .i64 l, .int .i64 dd, .string y, .slice ma mn mc] ∧ Below w.heap.size w uz ∧ Below w16.heap.size w16 uz from ⟨pA, nu1, ep1, up1, st1, le1, ta1, co1, lf1, ss1, x1, si1, q1, aw, cw, .slice va (outN q1) vc, rfl, hcz, hF, hLz, hVz, hdis, hAb, hPWz, hPPz, hPMz, hBz, hzz⟩)
          clear hcz hF hLz hVz hdis hPWz hPPz hPMz hBz hzz huz hgz hoL hoV hloL hhiL hloV hhiV
          go_wp2_with fail
          go_meet
          case rel => exact HR.out
      · have hPWu15 := hPWu0.block (Below.heap_alloc u0 (.cells zA.toArray 36) (w.heap.size) (by omega))
        have hPPu15 := hPPu0.block (Below.heap_alloc u0 (.cells zA.toArray 36) (w.heap.size + 1) (by omega))
        have hPMu15 := hPMu0.block (Below.heap_alloc u0 (.cells zA.toArray 36) (w.heap.size + 2) (by omega))
        have hBu15 := hBu0.alloc hBu0.size (.cells zA.toArray 36)
        have hDu15 := hDu0.alloc hDu0.size (.cells zA.toArray 36)
        have hbbu15 : Below u0.heap.size u0 (u0.alloc (.cells zA.toArray 36)) := (Below.refl _ _).alloc (Nat.le_refl _) _
        have hAu15 := CF.made u0 zA.toArray 36
        have hszu15 : (u0.alloc (.cells zA.toArray 36)).heap.size = u0.heap.size + 1 := by simp
        obtain ⟨pA, hpA⟩ : ∃ pA, pA = u0.heap.size := ⟨_, rfl⟩
        rw [← hpA] at hAu15 hszu15
        rw [← hpA]
        obtain ⟨u15, hu15⟩ : ∃ u15, u15 = u0.alloc (.cells zA.toArray 36) := ⟨_, rfl⟩
        rw [← hu15] at hPWu15 hPPu15 hPMu15 hBu15 hDu15 hbbu15 hAu15 hszu15
        have eu15 : (.alloc u0 (.cells #[.int .i64 0, .int .i64 0, .bool false, .int .i64 0, .int .i64 0, .int .i64 0, .int .i64 0, .int .i64 0, .slice none 0 0, .string ⟨#[]⟩, .int .i64 0, .slice none 0 0] 36) : World) = u15 := hu15.symm
        rw [eu15]
        clear hu15 eu15
        have hzu15 : w16.heap.size ≤ u15.heap.size := Nat.le_trans hzu0 hbbu15.size
        have hlu15 : w.heap.size + 2 < u15.heap.size := Nat.lt_of_lt_of_le hlu0 hbbu15.size
        have hAlu15 : pA < u15.heap.size := by omega
        have hAb : w16.heap.size ≤ pA := by omega
        have HPA := hid hpA
        clear hpA
        refine hOne (by kernel_rfl) (hCall (i := 1) (d := some 97) (f := 8) (args := #[.agg #[.int .i64 nu, .int .i64 ep, .bool up, .int .i64 st, .int .i64 le, .int .i64 ta, .int .i64 co, .int .i64 lf, .slice a n c, .string x, .int .i64 si]]) (l' := #[true, true, true, false, true, false, false, true, false]) (R := fun v w' => ∃ g, v = .agg #[.int .i64 nu, .int .i64 ep, .bool up, .int .i64 st, .int .i64 le, .int .i64 ta, .int .i64 co, .int .i64 lf, .slice (some ⟨g, 0, none⟩) n n, .string x, .int .i64 si] ∧ OwnC u15.heap.size w' 1 g 0 n n (ss.map Value.string) ∧ Below u15.heap.size u15 w') rfl (by kernel_rfl) (by kernel_rfl) (by kernel_rfl) (run_cl1 _ _ rfl (by kernel_rfl) rfl enter_toW) ((toWorker_any nu ep up st le ta co lf x si a b o n c ss _ (h.below' hBu15) hnn).mono fun _ _ ⟨⟨g, he, ho⟩, hb⟩ => ⟨_, he, g, rfl, ho, hb⟩) ?_)
        rintro _ u16 ⟨g2, rfl, ho2, hbu16⟩
        have hPWu16 := hPWu15.block (hbu16.block (w.heap.size) (by omega))
        have hPPu16 := hPPu15.block (hbu16.block (w.heap.size + 1) (by omega))
        have hPMu16 := hPMu15.block (hbu16.block (w.heap.size + 2) (by omega))
        have hBu16 := hBu15.trans (hbu16.mono hBu15.size)
        have hzu16 : w16.heap.size ≤ u16.heap.size := Nat.le_trans hzu15 hbu16.size
        have hlu16 : w.heap.size + 2 < u16.heap.size := Nat.lt_of_lt_of_le hlu15 hbu16.size
        have hDu16 := hDu15.trans (hbu16.mono hzu15)
        have h2su16 := StrsAt.ofOwn ho2 h.sz
        clear ho2
        have hAu16 := hAu15.block (hbu16.block pA (by omega))
        have hAlu16 : pA < u16.heap.size := Nat.lt_of_lt_of_le hAlu15 hbu16.size
        refine ⟨⟨hPWu16, hPPu16, hPMu16⟩, ?_⟩
        refine hOne (by kernel_rfl) (hCall (i := 3) (d := some 99) (f := 9) (args := #[.agg #[.slice pa pn pc]]) (l' := #[true, true, true, true, true, false, false, true, false]) (R := fun v w' => ∃ g, v = .agg #[.slice (some ⟨g, 0, none⟩) pn pn] ∧ TasksAt w' (some ⟨g, 0, none⟩) g 0 pn ts ∧ Below u16.heap.size u16 w') rfl (by kernel_rfl) (by kernel_rfl) (by kernel_rfl) (run_cl1 _ _ rfl (by kernel_rfl) rfl enter_toP) ((toPlan_any pa pb po pn pc ts _ (hp.below' hBu16) hpn).mono fun _ _ ⟨g, xs, he, _, _, ht, hb⟩ => ⟨_, he, g, rfl, ht, hb⟩) ?_)
        rintro _ u17 ⟨g3, rfl, ht3, hbu17⟩
        have hPWu17 := hPWu16.block (hbu17.block (w.heap.size) (by omega))
        have hPPu17 := hPPu16.block (hbu17.block (w.heap.size + 1) (by omega))
        have hPMu17 := hPMu16.block (hbu17.block (w.heap.size + 2) (by omega))
        have hBu17 := hBu16.trans (hbu17.mono hBu16.size)
        have hzu17 : w16.heap.size ≤ u17.heap.size := Nat.le_trans hzu16 hbu17.size
        have hlu17 : w.heap.size + 2 < u17.heap.size := Nat.lt_of_lt_of_le hlu16 hbu17.size
        have hDu17 := hDu16.trans (hbu17.mono hzu16)
        have h2su17 := h2su16.below' hbu17
        have ht3u17 := ht3
        have hAu17 := hAu16.block (hbu17.block pA (by omega))
        have hAlu17 : pA < u17.heap.size := Nat.lt_of_lt_of_le hAlu16 hbu17.size
        refine ⟨⟨hPWu17, hPPu17, hPMu17⟩, ?_⟩
        refine hOne (by kernel_rfl) (hCall (i := 5) (d := some 101) (f := 10) (args := #[.agg #[.int .i64 k, .int .i64 f, .int .i64 t, .int .i64 e, .int .i64 l, .int .i64 dd, .string y, .slice ma mn mc]]) (l' := #[true, true, true, true, true, true, false, true, false]) (R := fun v w' => ∃ g, v = .agg #[.int .i64 k, .int .i64 f, .int .i64 t, .int .i64 e, .int .i64 l, .int .i64 dd, .string y, .slice (some ⟨g, 0, none⟩) mn mn] ∧ OwnC u17.heap.size w' 1 g 0 mn mn (ms.map Value.string) ∧ Below u17.heap.size u17 w') rfl (by kernel_rfl) (by kernel_rfl) (by kernel_rfl) (run_cl1 _ _ rfl (by kernel_rfl) rfl enter_toM) ((toMessage_any k f t e l dd y ma mb mo mn mc ms _ (hm.below' hBu17) hmn).mono fun _ _ ⟨⟨g, he, ho⟩, hb⟩ => ⟨_, he, g, rfl, ho, hb⟩) ?_)
        rintro _ u18 ⟨g7, rfl, ho7, hbu18⟩
        have hPWu18 := hPWu17.block (hbu18.block (w.heap.size) (by omega))
        have hPPu18 := hPPu17.block (hbu18.block (w.heap.size + 1) (by omega))
        have hPMu18 := hPMu17.block (hbu18.block (w.heap.size + 2) (by omega))
        have hBu18 := hBu17.trans (hbu18.mono hBu17.size)
        have hzu18 : w16.heap.size ≤ u18.heap.size := Nat.le_trans hzu17 hbu18.size
        have hlu18 : w.heap.size + 2 < u18.heap.size := Nat.lt_of_lt_of_le hlu17 hbu18.size
        have hDu18 := hDu17.trans (hbu18.mono hzu17)
        have h2su18 := h2su17.below' hbu18
        have ht3u18 := ht3u17.below' hbu18
        have h7su18 := StrsAt.ofOwn ho7 hm.sz
        clear ho7
        have hAu18 := hAu17.block (hbu18.block pA (by omega))
        have hAlu18 : pA < u18.heap.size := Nat.lt_of_lt_of_le hAlu17 hbu18.size
        refine ⟨⟨hPWu18, hPPu18, hPMu18⟩, ?_⟩
        refine hOne (by kernel_rfl) (hCall (i := 6) (d := some 102) (f := 11) (args := #[.agg #[.int .i64 nu, .int .i64 ep, .bool up, .int .i64 st, .int .i64 le, .int .i64 ta, .int .i64 co, .int .i64 lf, .slice (some ⟨g2, 0, none⟩) n n, .string x, .int .i64 si], .agg #[.slice (some ⟨g3, 0, none⟩) pn pn], .agg #[.int .i64 k, .int .i64 f, .int .i64 t, .int .i64 e, .int .i64 l, .int .i64 dd, .string y, .slice (some ⟨g7, 0, none⟩) mn mn]]) (l' := #[true, true, true, true, true, true, true, true, false]) (R := fun v w' => RetA (.returned v) u18.heap.size w' (takeR2 (⟨nu, ep, up, st, le, ta, co, lf, ss, x, si⟩ : WD) ts k f t e l dd y ms) ∧ Below u18.heap.size u18 w') rfl (by kernel_rfl) (by kernel_rfl) (by kernel_rfl) (run_cl3 _ _ _ _ rfl (by kernel_rfl) (by kernel_rfl) (by kernel_rfl) rfl enter_iTake) ((iTakeN_any nu ep up st le ta co lf _ g2 0 n n ss x si _ g3 0 pn pn ts k f t e l dd y _ g7 0 mn mn ms _ h2su18 ht3u18 h7su18 hnn hmn (hTab.below' hBu18)).mono fun e _ ⟨he, hb⟩ => by obtain ⟨d, q, a, c, v, rfl, h1⟩ := he; exact ⟨_, rfl, ⟨d, q, a, c, v, rfl, h1⟩, hb⟩) ?_)
        rintro _ u19 ⟨hret, hbu19⟩
        have hPWu19 := hPWu18.block (hbu19.block (w.heap.size) (by omega))
        have hPPu19 := hPPu18.block (hbu19.block (w.heap.size + 1) (by omega))
        have hPMu19 := hPMu18.block (hbu19.block (w.heap.size + 2) (by omega))
        have hBu19 := hBu18.trans (hbu19.mono hBu18.size)
        have hzu19 : w16.heap.size ≤ u19.heap.size := Nat.le_trans hzu18 hbu19.size
        have hlu19 : w.heap.size + 2 < u19.heap.size := Nat.lt_of_lt_of_le hlu18 hbu19.size
        have hDu19 := hDu18.trans (hbu19.mono hzu18)
        have h2su19 := h2su18.below' hbu19
        have ht3u19 := ht3u18.below' hbu19
        have h7su19 := h7su18.below' hbu19
        have hAu19 := hAu18.block (hbu19.block pA (by omega))
        have hAlu19 : pA < u19.heap.size := Nat.lt_of_lt_of_le hAlu18 hbu19.size
        refine ⟨⟨hPWu19, hPPu19, hPMu19⟩, ?_⟩
        obtain ⟨⟨nu1, ep1, up1, st1, le1, ta1, co1, lf1, ss1, x1, si1⟩, q1, aw, cw, vw, hev, hoL, hoV, hdis, hF⟩ := hret
        simp only [Ending.returned.injEq] at hev
        subst hev
        dsimp only at hoL hdis
        obtain ⟨va, vc, rfl⟩ := hoV.slc
        have hloL := hoL.row_lo
        have hhiL := hoL.row_hi
        have hloV := hoV.row_lo
        have hhiV := hoV.row_hi
        have hoL := hoL.mono' hzu18
        have hoV := hoV.mono' hzu18
        obtain ⟨uz, huz⟩ : ∃ uz, uz = u19.setCells pA 0 [.int .i64 nu1, .int .i64 ep1, .bool up1, .int .i64 st1, .int .i64 le1, .int .i64 ta1, .int .i64 co1, .int .i64 lf1, .slice aw ss1.length cw, .string x1, .int .i64 si1, .slice va (outN q1) vc] := ⟨_, rfl⟩
        have hcz : CF uz pA [.int .i64 nu1, .int .i64 ep1, .bool up1, .int .i64 st1, .int .i64 le1, .int .i64 ta1, .int .i64 co1, .int .i64 lf1, .slice aw ss1.length cw, .string x1, .int .i64 si1, .slice va (outN q1) vc] := by rw [huz]; exact hAu19.stored rfl
        have hgz : u19.grownBy uz (some pA) := by rw [huz]; exact grown_setCells _ _ _ _ _ (World.grownBy.refl _ _)
        have hPWz := hPWu19.block (hgz.block (w.heap.size) (by omega) (by simp; omega))
        have hPPz := hPPu19.block (hgz.block (w.heap.size + 1) (by omega) (by simp; omega))
        have hPMz := hPMu19.block (hgz.block (w.heap.size + 2) (by omega) (by simp; omega))
        have hBz := below_grown hBu19 hgz (by omega) (fun k hk => by simp at hk; omega)
        have hLz := hoL.grown hgz (.inr (by intro hh; have := hloL _ hh; have := hhiL _ hh; have := HPA.out; omega))
        have hVz := hoV.grown hgz (.inr (by intro hh; have := hloV _ hh; have := hhiV _ hh; have := HPA.out; omega))
        have hzz := below_grown hDu19 hgz (by omega) (fun k hk => by simp at hk; omega)
        refine hOne (by kernel_rfl) (hSkip (i := 8) (w' := uz) (l' := #[true, true, true, true, true, true, true, true, true]) rfl (by kernel_rfl) (by kernel_rfl) (by kernel_rfl) (by rw [huz]; exact run_stT 36 zA [.int .i64 nu1, .int .i64 ep1, .bool up1, .int .i64 st1, .int .i64 le1, .int .i64 ta1, .int .i64 co1, .int .i64 lf1, .slice aw ss1.length cw, .string x1, .int .i64 si1, .slice va (outN q1) vc] (.tmp 16) (.tmp 102) (by kernel_rfl) (by kernel_rfl) (by kernel_rfl) hAu19 rfl Tryd.sizeAc (one12 _ _ _ _ _ _ _ _ _ _ _ _ _ _ _ _)) ⟨hPWz, hPPz, hPMz⟩ ?_)
        refine wpAnyH_done (by kernel_rfl) ?_ _
        have HR := hid (show ∃ (p : Nat) (nu1 ep1 : Int) (up1 : Bool) (st1 le1 ta1 co1 lf1 : Int) (ss1 : List ByteArray) (x1 : ByteArray) (si1 : Int) (q1 : Option OM) (aw : Option Addr) (cw : Nat) (vw : Value), (.pointer (some ⟨pA, 0, none⟩) : Value) = .pointer (some ⟨p, 0, none⟩) ∧ CF uz p [.int .i64 nu1, .int .i64 ep1, .bool up1, .int .i64 st1, .int .i64 le1, .int .i64 ta1, .int .i64 co1, .int .i64 lf1, .slice aw ss1.length cw, .string x1, .int .i64 si1, vw] ∧ takeR2 (⟨nu, ep, up, st, le, ta, co, lf, ss, x, si⟩ : WD) ts k f t e l dd y ms (⟨nu1, ep1, up1, st1, le1, ta1, co1, lf1, ss1, x1, si1⟩, q1) ∧ Own w16.heap.size uz 1 (.slice aw ss1.length cw) ss1.length (ss1.map Value.string) ∧ Own w16.heap.size uz 8 vw (outN q1) (outL q1) ∧ ((Value.slice aw ss1.length cw).ownBlock = none ∨ (Value.slice aw ss1.length cw).ownBlock ≠ vw.ownBlock) ∧ w16.heap.size ≤ p ∧ CF uz (w.heap.size) [.int .i64 nu, .int .i64 ep, .bool up, .int .i64 st, .int .i64 le, .int .i64 ta, .int .i64 co, .int .i64 lf, .slice a n c, .string x, .int .i64 si] ∧ CF uz (w.heap.size + 1) [.slice pa pn pc] ∧ CF uz (w.heap.size + 2) [.int .i64 k, .int .i64 f, .int .i64 t, .int .i64 e, .int .i64 l, .int .i64 dd, .string y, .slice ma mn mc] ∧ Below w.heap.size w uz ∧ Below w16.heap.size w16 uz from ⟨pA, nu1, ep1, up1, st1, le1, ta1, co1, lf1, ss1, x1, si1, q1, aw, cw, .slice va (outN q1) vc, rfl, hcz, hF, hLz, hVz, hdis, hAb, hPWz, hPPz, hPMz, hBz, hzz⟩)
        clear hcz hF hLz hVz hdis hPWz hPPz hPMz hBz hzz huz hgz hoL hoV hloL hhiL hloV hhiV
        go_wp2_with fail
        go_meet
        case rel => exact HR.out

    case rest =>
      obtain ⟨p2, nu2, ep2, up2, st2, le2, ta2, co2, lf2, ss2, x2, si2, q2, ah, ch, vh, rfl, hX, hF2, hoL, hoV, hdis, hpb, hPW2, hPP2, hPM2, hBwd, hbd⟩ := hcut
      have hu := HF.out.uniq hF2
      simp only [Prod.mk.injEq, WD.mk.injEq] at hu
      obtain ⟨⟨rfl, rfl, rfl, rfl, rfl, rfl, rfl, rfl, rfl, rfl, rfl⟩, rfl⟩ := hu
      
      obtain ⟨vah, vch, rfl⟩ := hoV.slc
      have OL2 := hid hoL
      have OV2 := hid hoV
      have MH := hid hX
      clear hX hF2 hoL hoV hdis hpb hPW2 hPP2 hPM2 hBwd
      have hBwc := hBw16.trans (hbd.mono hBw16.size)
      have zwc := hid (hbd.size)
      have MW_wc := hid (MW_w16.out.belowS hbd)
      clear MW_w16
      have ST_wc := hid (ST_w16.out.below' hbd)
      clear ST_w16
      have OV_wc := hid (OV_w16.out.below hbd (Nat.le_refl _))
      clear OV_w16
      have MG_wc := hid (MG_w16.out.belowS hbd)
      clear MG_w16
      have SM_wc := hid (SM_w16.out.below' hbd)
      clear SM_w16
      have MK_wc := hid (MK_w16.out.block hbd)
      clear MK_w16
      clear hbd hBw16
      have c0 : wc.cell? ⟨p2, 0, none⟩ = some (.int .i64 nu1) := (MH.out 0 (by simp)).1
      have c1 : wc.cell? ⟨p2, 1, none⟩ = some (.int .i64 ep1) := (MH.out 1 (by simp)).1
      have c2 : wc.cell? ⟨p2, 2, none⟩ = some (.bool up1) := (MH.out 2 (by simp)).1
      have c3 : wc.cell? ⟨p2, 3, none⟩ = some (.int .i64 st1) := (MH.out 3 (by simp)).1
      have c4 : wc.cell? ⟨p2, 4, none⟩ = some (.int .i64 le1) := (MH.out 4 (by simp)).1
      have c5 : wc.cell? ⟨p2, 5, none⟩ = some (.int .i64 ta1) := (MH.out 5 (by simp)).1
      have c6 : wc.cell? ⟨p2, 6, none⟩ = some (.int .i64 co1) := (MH.out 6 (by simp)).1
      have c7 : wc.cell? ⟨p2, 7, none⟩ = some (.int .i64 lf1) := (MH.out 7 (by simp)).1
      have c8 : wc.cell? ⟨p2, 8, none⟩ = some (.slice ah ss1.length ch) := (MH.out 8 (by simp)).1
      have c9 : wc.cell? ⟨p2, 9, none⟩ = some (.string x1) := (MH.out 9 (by simp)).1
      have c10 : wc.cell? ⟨p2, 10, none⟩ = some (.int .i64 si1) := (MH.out 10 (by simp)).1
      have c11 : wc.cell? ⟨p2, 11, none⟩ = some (.slice vah (outN q1) vch) := (MH.out 11 (by simp)).1
      have kq0 : wc.cell? ⟨p, 0, none⟩ = some (.int .i64 nu1) := (MW_wc.out 0 (by simp)).1
      have kq1 : wc.cell? ⟨p, 1, none⟩ = some (.int .i64 ep1) := (MW_wc.out 1 (by simp)).1
      have kq2 : wc.cell? ⟨p, 2, none⟩ = some (.bool up1) := (MW_wc.out 2 (by simp)).1
      have kq3 : wc.cell? ⟨p, 3, none⟩ = some (.int .i64 st1) := (MW_wc.out 3 (by simp)).1
      have kq4 : wc.cell? ⟨p, 4, none⟩ = some (.int .i64 le1) := (MW_wc.out 4 (by simp)).1
      have kq5 : wc.cell? ⟨p, 5, none⟩ = some (.int .i64 ta1) := (MW_wc.out 5 (by simp)).1
      have kq6 : wc.cell? ⟨p, 6, none⟩ = some (.int .i64 co1) := (MW_wc.out 6 (by simp)).1
      have kq7 : wc.cell? ⟨p, 7, none⟩ = some (.int .i64 lf1) := (MW_wc.out 7 (by simp)).1
      have kq8 : wc.cell? ⟨p, 8, none⟩ = some (.slice aw ss1.length cw) := (MW_wc.out 8 (by simp)).1
      have kq9 : wc.cell? ⟨p, 9, none⟩ = some (.string x1) := (MW_wc.out 9 (by simp)).1
      have kq10 : wc.cell? ⟨p, 10, none⟩ = some (.int .i64 si1) := (MW_wc.out 10 (by simp)).1
      have kq11 : wc.cell? ⟨p, 11, none⟩ = some (.slice va (outN q1) vc) := (MW_wc.out 11 (by simp)).1
      obtain ⟨bi, oi, hSi, hbi⟩ := OL2.out.strsB HSZ.out
      go_wp2_with fail
      refine (eqActed_any nu1 ep1 up1 st1 le1 ta1 co1 lf1 x1 si1 ah aw bi oi ss1.length ch bs os cw ss1 q1 _ _ _ _ _ hSi ST_wc.out OV2.out OV_wc.out).mono ?_
      rintro e' w18 ⟨rfl, hb⟩
      clear hSi hbi bi oi
      clear c0 c1 c2 c3 c4 c5 c6 c7 c8 c9 c10 c11
      clear kq0 kq1 kq2 kq3 kq4 kq5 kq6 kq7 kq8 kq9 kq10 kq11
      have hBw18 := hBwc.trans (hb.mono hBwc.size)
      have zw18 := hid (hb.size)
      have MW_w18 := hid (MW_wc.out.belowS hb)
      clear MW_wc
      have ST_w18 := hid (ST_wc.out.below' hb)
      clear ST_wc
      have OV_w18 := hid (OV_wc.out.below hb (Nat.le_refl _))
      clear OV_wc
      have MG_w18 := hid (MG_wc.out.belowS hb)
      clear MG_wc
      have SM_w18 := hid (SM_wc.out.below' hb)
      clear SM_wc
      have MK_w18 := hid (MK_wc.out.block hb)
      clear MK_wc
      have OL2_w18 := hid (OL2.out.below hb (Nat.le_refl _))
      clear OL2
      have OV2_w18 := hid (OV2.out.below hb (Nat.le_refl _))
      clear OV2
      have MH_w18 := hid (MH.out.belowS hb)
      clear MH
      clear hb hBwc
      have c0 : w18.cell? ⟨w6.heap.size, 0, none⟩ = some (.int .i64 nu1) := (MG_w18.out 0 (by simp)).1
      have c1 : w18.cell? ⟨w6.heap.size, 1, none⟩ = some (.int .i64 ep1) := (MG_w18.out 1 (by simp)).1
      have c2 : w18.cell? ⟨w6.heap.size, 2, none⟩ = some (.bool up1) := (MG_w18.out 2 (by simp)).1
      have c3 : w18.cell? ⟨w6.heap.size, 3, none⟩ = some (.int .i64 st1) := (MG_w18.out 3 (by simp)).1
      have c4 : w18.cell? ⟨w6.heap.size, 4, none⟩ = some (.int .i64 le1) := (MG_w18.out 4 (by simp)).1
      have c5 : w18.cell? ⟨w6.heap.size, 5, none⟩ = some (.int .i64 ta1) := (MG_w18.out 5 (by simp)).1
      have c6 : w18.cell? ⟨w6.heap.size, 6, none⟩ = some (.int .i64 co1) := (MG_w18.out 6 (by simp)).1
      have c7 : w18.cell? ⟨w6.heap.size, 7, none⟩ = some (.int .i64 lf1) := (MG_w18.out 7 (by simp)).1
      have c8 : w18.cell? ⟨w6.heap.size, 8, none⟩ = some (.slice ai ss1.length ci) := (MG_w18.out 8 (by simp)).1
      have c9 : w18.cell? ⟨w6.heap.size, 9, none⟩ = some (.string x1) := (MG_w18.out 9 (by simp)).1
      have c10 : w18.cell? ⟨w6.heap.size, 10, none⟩ = some (.int .i64 si1) := (MG_w18.out 10 (by simp)).1
      have c11 : w18.cell? ⟨w6.heap.size, 11, none⟩ = some (.slice vai (outN q1) vci) := (MG_w18.out 11 (by simp)).1
      go_wp2_with fail
      refine (heldActed_any nu1 ep1 up1 st1 le1 ta1 co1 lf1 x1 si1 ai bm om ss1.length ci q1 _ _ hn1 SM_w18.out MK_w18.out ⟨_, _, rfl⟩).mono ?_
      rintro e' w19 ⟨rfl, hb⟩
      clear c0 c1 c2 c3 c4 c5 c6 c7 c8 c9 c10 c11
      have hBw19 := hBw18.trans (hb.mono hBw18.size)
      have zw19 := hid (hb.size)
      have MW_w19 := hid (MW_w18.out.belowS hb)
      clear MW_w18
      have ST_w19 := hid (ST_w18.out.below' hb)
      clear ST_w18
      have OV_w19 := hid (OV_w18.out.below hb (Nat.le_refl _))
      clear OV_w18
      have MG_w19 := hid (MG_w18.out.belowS hb)
      clear MG_w18
      have SM_w19 := hid (SM_w18.out.below' hb)
      clear SM_w18
      have MK_w19 := hid (MK_w18.out.block hb)
      clear MK_w18
      have OL2_w19 := hid (OL2_w18.out.below hb (Nat.le_refl _))
      clear OL2_w18
      have OV2_w19 := hid (OV2_w18.out.below hb (Nat.le_refl _))
      clear OV2_w18
      have MH_w19 := hid (MH_w18.out.belowS hb)
      clear MH_w18
      clear hb hBw18
      go_wp2
      go_ret
      exact ⟨rfl, hBw19⟩
end Go.Proofs.YthogdlabinnndaaDoor
