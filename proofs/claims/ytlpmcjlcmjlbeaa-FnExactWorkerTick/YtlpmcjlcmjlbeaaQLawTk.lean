import Derived.Test.YtlpmcjlcmjlbeaaQTks
import Derived.Test.YtlpmcjlcmjlbeaaQTki
import Derived.Test.YtlpmcjlcmjlbeaaQLwv
import Derived.Test.YtlpmcjlcmjlbeaaQMid
namespace Go.Proofs.Ytlpmcjlcmjlbeaa
open Go.RowKit
theorem Try.sizeLW : (Try.prog.info? 24).map (·.size) = some 11 := by kernel_rfl
theorem Try.sizeLP : (Try.prog.info? 35).map (·.size) = some 1 := by kernel_rfl
theorem enter_toW (v1 : Value) (w : World) : Sem.run Try.prog (callFunc 9 #[v1]) w = .ok (.enter 9 #[v1]) w := by kernel_rfl
theorem enter_toP (v1 : Value) (w : World) : Sem.run Try.prog (callFunc 20 #[v1]) w = .ok (.enter 20 #[v1]) w := by kernel_rfl
theorem enter_sTick (v1 v2 : Value) (w : World) : Sem.run Try.prog (callFunc 19 #[v1, v2]) w = .ok (.enter 19 #[v1, v2]) w := by kernel_rfl
theorem enter_iTick (v1 v2 : Value) (w : World) : Sem.run Try.prog (callFunc 21 #[v1, v2]) w = .ok (.enter 21 #[v1, v2]) w := by kernel_rfl
theorem run_alA {ρ : Operand → Value} {o : Oper} {w : World} (h : o.op = .alloc 39) : (execOp ρ o).run Try.prog w = .ok (.value (.pointer (some ⟨w.heap.size, 0, none⟩))) (w.alloc (.cells #[.int .i64 0, .int .i64 0, .bool false, .int .i64 0, .int .i64 0, .int .i64 0, .int .i64 0, .int .i64 0, .slice none 0 0, .string ⟨#[]⟩, .int .i64 0, .slice none 0 0] 39)) := by
  unfold execOp
  rw [h]
  simp [go_sem]

theorem ne_of {x y : Option Nat} (h : ∀ q, x = some q → y = some q → False) : x = none ∨ x ≠ y := by
  cases hx : x with
  | none => exact .inl rfl
  | some q => exact .inr (fun hh => h q hx hh.symm)
theorem Shape.blocks {g H n : Nat} {w w' : World} (h : Shape g H n w) (hgH : g < H) (hb : ∀ q, g ≤ q → q < H → w'.heap[q]? = w.heap[q]?) : Shape g H n w' where
  s0 := fun j hj => by obtain ⟨s, hs⟩ := h.s0 j hj; exact ⟨s, (World.cell?_of_block (w := w) (a := ⟨g, j * 3, none⟩) (hb g (Nat.le_refl _) hgH)).trans hs⟩
  s1 := fun j hj => by obtain ⟨s, hs⟩ := h.s1 j hj; exact ⟨s, (World.cell?_of_block (w := w) (a := ⟨g, j * 3 + 1, none⟩) (hb g (Nat.le_refl _) hgH)).trans hs⟩
  s2 := fun j hj => by
    obtain ⟨b', n', h0, h1, h2, h3, h4⟩ := h.s2 j hj
    refine ⟨b', n', (World.cell?_of_block (w := w) (a := ⟨g, j * 3 + 2, none⟩) (hb g (Nat.le_refl _) hgH)).trans h0, h1, h2, h3, fun i hi => ?_⟩
    obtain ⟨⟨y, hy⟩, hf⟩ := h4 i hi
    exact ⟨⟨y, (World.cell?_of_block (w := w) (a := ⟨b', i, none⟩) (hb b' (by omega) h2)).trans hy⟩, (World.frozen?_of_block (w := w) (a := ⟨b', i, none⟩) (hb b' (by omega) h2)).trans hf⟩
  fr := fun j hj => (World.frozen?_of_block (w := w) (a := ⟨g, j, none⟩) (hb g (Nat.le_refl _) hgH)).trans (h.fr j hj)
theorem CF.lt {w : World} {p : Nat} {v : Value} {vs : List Value} (h : CF w p (v :: vs)) : p < w.heap.size := World.block_lt_of_cell? w ⟨p, 0, none⟩ (h 0 (by simp)).1
theorem CF.belowS {w w' : World} {p : Nat} {v : Value} {vs : List Value} (h : CF w p (v :: vs)) (hb : Below w.heap.size w w') : CF w' p (v :: vs) := h.block (hb.block p h.lt)
theorem CF.grownS {w w' : World} {p : Nat} {v : Value} {vs : List Value} {row : Option Nat} (h : CF w p (v :: vs)) (hg : w.grownBy w' row) (hr : some p ≠ row) : CF w' p (v :: vs) := h.block (hg.block p h.lt hr)
theorem CF.midS {w w' : World} {p g H : Nat} {v : Value} {vs : List Value} (h : CF w p (v :: vs)) (hM : Mid g H w w') (hr : p < g ∨ H ≤ p) : CF w' p (v :: vs) := h.block (hM.block p h.lt hr)
theorem Own.midR {B : Nat} {w w' : World} {size : Nat} {v : Value} {n : Nat} {xs : List Value} {g H : Nat} (h : Own B w size v n xs) (hM : Mid g H w w') (hr : ∀ q, v.ownBlock = some q → q < g ∨ H ≤ q) : Own B w' size v n xs := by
  rcases h with h | ⟨k, o, cap, rfl, hc⟩
  · exact .inl h
  · exact .inr ⟨k, o, cap, rfl, hc.block (hM.block k hc.hi (hr k rfl))⟩

set_option maxHeartbeats 16000000 in
set_option maxRecDepth 100000 in
theorem fnExactWorkerTick_walk (nu ep : Int) (up : Bool) (st le ta co lf : Int) (x : ByteArray) (si : Int) (a : Option Addr) (b o n c : Nat) (ss : List ByteArray) (pa : Option Addr) (pb po pn pc : Nat) (ts : List TaskD) (w : World) (h : StrsAt w a b o n ss) (hx : x.size ≤ maxLen) (hp : TasksAt w pa pb po pn ts) :
    Calls Try.prog 6 #[.agg #[.int .i64 nu, .int .i64 ep, .bool up, .int .i64 st, .int .i64 le, .int .i64 ta, .int .i64 co, .int .i64 lf, .slice a n c, .string x, .int .i64 si], .agg #[.slice pa pn pc]] w fun e' w' => e' = .returned (.bool true) ∧ Below w.heap.size w w' := by
  obtain ⟨W, hW⟩ : ∃ W, W = (w.alloc (.cells #[.int .i64 nu, .int .i64 ep, .bool up, .int .i64 st, .int .i64 le, .int .i64 ta, .int .i64 co, .int .i64 lf, .slice a n c, .string x, .int .i64 si] 24)).alloc (.cells #[.slice pa pn pc] 35) := ⟨_, rfl⟩
  have hBW : Below w.heap.size w W := by rw [hW]; exact ((Below.refl _ _).alloc (Nat.le_refl _) _).alloc (by simp) _
  have hsW : W.heap.size = w.heap.size + 2 := by rw [hW]; simp
  have hPW : CF W (w.heap.size) [.int .i64 nu, .int .i64 ep, .bool up, .int .i64 st, .int .i64 le, .int .i64 ta, .int .i64 co, .int .i64 lf, .slice a n c, .string x, .int .i64 si] := by rw [hW]; exact (CF.made w #[.int .i64 nu, .int .i64 ep, .bool up, .int .i64 st, .int .i64 le, .int .i64 ta, .int .i64 co, .int .i64 lf, .slice a n c, .string x, .int .i64 si] 24).block (Below.heap_alloc _ _ _ (by simp))
  have hPP : CF W (w.heap.size + 1) [.slice pa pn pc] := by
    rw [hW]
    have := CF.made (w.alloc (.cells #[.int .i64 nu, .int .i64 ep, .bool up, .int .i64 st, .int .i64 le, .int .i64 ta, .int .i64 co, .int .i64 lf, .slice a n c, .string x, .int .i64 si] 24)) #[.slice pa pn pc] 35
    simpa using this
  have HW := hid hW
  clear hW
  go_enter Try.func6, Try.ntmps6
  go_wp2_with fail
  rw [← HW.out]
  clear HW
  refine (szWorker_any nu ep up st le ta co lf x si a b o n c ss _ (h.below' hBW) hx).mono ?_
  rintro e' w1 ⟨⟨r, rfl, hr⟩, hb1⟩
  have hPW1 := hPW.block (hb1.block (w.heap.size) (by omega))
  have hPP1 := hPP.block (hb1.block (w.heap.size + 1) (by omega))
  have hBw1 := hBW.trans (hb1.mono hBW.size)
  have hl1 : w.heap.size + 1 < w1.heap.size := by have := hb1.size; omega
  clear hPW hPP hb1 hBW hsW
  rcases hr with rfl | ⟨hr0, hr1, hs, hx1⟩
  · go_wp2
    go_ret
    exact ⟨rfl, hBw1⟩
  have hnn : n ≤ 1048576 := by omega
  clear hx1 hs
  have kp : w1.cell? ⟨w.heap.size + 1, 0, none⟩ = some (.slice pa pn pc) := (hPP1 0 (by simp)).1
  have hr0' : ¬ r < 0 := by omega
  go_wp2_with fail
  refine (szPlan_any pa pb po pn pc ts r _ hr0 hr1 (hp.below' hBw1)).mono ?_
  rintro e' w2 ⟨⟨r2, rfl, hr2⟩, hb2⟩
  have hPW := hPW1.block (hb2.block (w.heap.size) (by omega))
  have hPP := hPP1.block (hb2.block (w.heap.size + 1) (by omega))
  have hBw2 := hBw1.trans (hb2.mono hBw1.size)
  have hlp : w.heap.size + 1 < w2.heap.size := Nat.lt_of_lt_of_le hl1 hb2.size
  clear kp hPW1 hPP1 hb2 hBw1 hl1 hr0'
  rcases hr2 with rfl | ⟨hr2, hr3⟩
  · go_wp2
    go_ret
    exact ⟨rfl, hBw2⟩
  have hpn : pn + tssz ts ≤ 1048576 := by omega
  have hr3' : ¬ r2 < 0 := by omega
  clear hr2 hr0 hr1
  go_upto_region 8 with fail
  clear hr3 hr3'
  go_cut [6] (fun sv wx => ∃ (p : Nat) (nu1 ep1 : Int) (up1 : Bool) (st1 le1 ta1 co1 lf1 : Int) (ss1 : List ByteArray) (x1 : ByteArray) (si1 : Int) (q1 : Option OM) (aw : Option Addr) (cw : Nat) (vw : Value), sv = .pointer (some ⟨p, 0, none⟩) ∧ CF wx p [.int .i64 nu1, .int .i64 ep1, .bool up1, .int .i64 st1, .int .i64 le1, .int .i64 ta1, .int .i64 co1, .int .i64 lf1, .slice aw ss1.length cw, .string x1, .int .i64 si1, vw] ∧ tickR (⟨nu, ep, up, st, le, ta, co, lf, ss, x, si⟩ : WD) ts (⟨nu1, ep1, up1, st1, le1, ta1, co1, lf1, ss1, x1, si1⟩, q1) ∧ Own w2.heap.size wx 1 (.slice aw ss1.length cw) ss1.length (ss1.map Value.string) ∧ Own w2.heap.size wx 8 vw (outN q1) (outL q1) ∧ ((Value.slice aw ss1.length cw).ownBlock = none ∨ (Value.slice aw ss1.length cw).ownBlock ≠ vw.ownBlock) ∧ w2.heap.size ≤ p ∧ CF wx (w.heap.size) [.int .i64 nu, .int .i64 ep, .bool up, .int .i64 st, .int .i64 le, .int .i64 ta, .int .i64 co, .int .i64 lf, .slice a n c, .string x, .int .i64 si] ∧ CF wx (w.heap.size + 1) [.slice pa pn pc] ∧ Below w.heap.size w wx ∧ Below w2.heap.size w2 wx)
  case first =>
    refine wp_region_held (S := fun w' => CF w' (w.heap.size) [.int .i64 nu, .int .i64 ep, .bool up, .int .i64 st, .int .i64 le, .int .i64 ta, .int .i64 co, .int .i64 lf, .slice a n c, .string x, .int .i64 si] ∧ CF w' (w.heap.size + 1) [.slice pa pn pc]) (by kernel_rfl) ?_
    change wpAnyH _ _ _ _ _ _ _ _ (World.drew _)
    have hPWd : CF w2.drew (w.heap.size) [.int .i64 nu, .int .i64 ep, .bool up, .int .i64 st, .int .i64 le, .int .i64 ta, .int .i64 co, .int .i64 lf, .slice a n c, .string x, .int .i64 si] := hPW
    have hPPd : CF w2.drew (w.heap.size + 1) [.slice pa pn pc] := hPP
    have hBd := hBw2.drew
    have hzd : w2.heap.size ≤ w2.drew.heap.size := Nat.le_refl _
    have hDd : Below w2.heap.size w2 w2.drew := (Below.refl _ _).drew
    have hlW : w.heap.size + 1 < w2.drew.heap.size := hlp
    obtain ⟨u0, hu0⟩ : ∃ u0, u0 = w2.drew := ⟨_, rfl⟩
    rw [← hu0] at hPWd hPPd hBd hzd hlW hDd
    rw [← hu0]
    clear hu0
    refine hTake (i := 0) (d := some 24) (v := .agg #[.int .i64 nu, .int .i64 ep, .bool up, .int .i64 st, .int .i64 le, .int .i64 ta, .int .i64 co, .int .i64 lf, .slice a n c, .string x, .int .i64 si]) (l' := #[true, false, false, false, false, false, false]) rfl (by kernel_rfl) (by kernel_rfl) (by kernel_rfl) (by kernel_rfl) (fun _ _ _ h => h) (by kernel_rfl) (fun _ hc => run_ldT 24 _ [.int .i64 nu, .int .i64 ep, .bool up, .int .i64 st, .int .i64 le, .int .i64 ta, .int .i64 co, .int .i64 lf, .slice a n c, .string x, .int .i64 si] (.tmp 2) (by kernel_rfl) (by kernel_rfl) hc.1 Try.underlying24 rfl Try.sizeLW) ⟨hPWd, hPPd⟩ (by kernel_rfl) ?_
    refine hTake (i := 2) (d := some 26) (v := .agg #[.slice pa pn pc]) (l' := #[true, false, true, false, false, false, false]) rfl (by kernel_rfl) (by kernel_rfl) (by kernel_rfl) (by kernel_rfl) (fun _ _ _ h => h) (by kernel_rfl) (fun _ hc => run_ldT 35 _ [.slice pa pn pc] (.tmp 3) (by kernel_rfl) (by kernel_rfl) hc.2 Try.underlying35 rfl Try.sizeLP) ⟨hPWd, hPPd⟩ (by kernel_rfl) ?_
    have hPWu0 := hPWd
    have hPPu0 := hPPd
    have hBu0 := hBd
    have hzu0 := hzd
    have hlu0 := hlW
    have hDu0 := hDd
    refine hTwo (i := 1) (j := 5) (by kernel_rfl) (hCall (i := 1) (d := some 25) (f := 9) (args := #[.agg #[.int .i64 nu, .int .i64 ep, .bool up, .int .i64 st, .int .i64 le, .int .i64 ta, .int .i64 co, .int .i64 lf, .slice a n c, .string x, .int .i64 si]]) (l' := #[true, true, true, false, false, false, false]) (R := fun v w' => ∃ g, v = .agg #[.int .i64 nu, .int .i64 ep, .bool up, .int .i64 st, .int .i64 le, .int .i64 ta, .int .i64 co, .int .i64 lf, .slice (some ⟨g, 0, none⟩) n n, .string x, .int .i64 si] ∧ OwnC u0.heap.size w' 1 g 0 n n (ss.map Value.string) ∧ Below u0.heap.size u0 w') rfl (by kernel_rfl) (by kernel_rfl) (by kernel_rfl) (run_cl1 _ _ rfl (by kernel_rfl) rfl enter_toW) ((toWorker_any nu ep up st le ta co lf x si a b o n c ss _ (h.below' hBu0) hnn).mono fun _ _ ⟨⟨g, he, ho⟩, hb⟩ => ⟨_, he, g, rfl, ho, hb⟩) ?_) (hVal (i := 5) (d := some 6) (v := .pointer (some ⟨u0.heap.size, 0, none⟩)) (w' := u0.alloc (.cells #[.int .i64 0, .int .i64 0, .bool false, .int .i64 0, .int .i64 0, .int .i64 0, .int .i64 0, .int .i64 0, .slice none 0 0, .string ⟨#[]⟩, .int .i64 0, .slice none 0 0] 39)) (l' := #[true, false, true, false, false, true, false]) rfl (by kernel_rfl) (by kernel_rfl) (by kernel_rfl) (run_alA (by kernel_rfl)) ⟨hPWu0.block (Below.heap_alloc u0 _ (w.heap.size) (by omega)), hPPu0.block (Below.heap_alloc u0 _ (w.heap.size + 1) (by omega))⟩ ?_)
    · rintro _ u1 ⟨g2, rfl, ho2, hbu1⟩
      have hPWu1 := hPWu0.block (hbu1.block (w.heap.size) (by omega))
      have hPPu1 := hPPu0.block (hbu1.block (w.heap.size + 1) (by omega))
      have hBu1 := hBu0.trans (hbu1.mono hBu0.size)
      have hzu1 : w2.heap.size ≤ u1.heap.size := Nat.le_trans hzu0 hbu1.size
      have hlu1 : w.heap.size + 1 < u1.heap.size := Nat.lt_of_lt_of_le hlu0 hbu1.size
      have hDu1 := hDu0.trans (hbu1.mono hzu0)
      have h2su1 := StrsAt.ofOwn ho2 h.sz
      clear ho2
      refine ⟨⟨hPWu1, hPPu1⟩, ?_⟩
      refine hTwo (i := 3) (j := 5) (by kernel_rfl) (hCall (i := 3) (d := some 27) (f := 20) (args := #[.agg #[.slice pa pn pc]]) (l' := #[true, true, true, true, false, false, false]) (R := fun v w' => ∃ g, v = .agg #[.slice (some ⟨g, 0, none⟩) pn pn] ∧ TasksAt w' (some ⟨g, 0, none⟩) g 0 pn ts ∧ Below u1.heap.size u1 w') rfl (by kernel_rfl) (by kernel_rfl) (by kernel_rfl) (run_cl1 _ _ rfl (by kernel_rfl) rfl enter_toP) ((toPlan_any pa pb po pn pc ts _ (hp.below' hBu1) hpn).mono fun _ _ ⟨g, xs, he, _, _, ht, hb⟩ => ⟨_, he, g, rfl, ht, hb⟩) ?_) (hVal (i := 5) (d := some 6) (v := .pointer (some ⟨u1.heap.size, 0, none⟩)) (w' := u1.alloc (.cells #[.int .i64 0, .int .i64 0, .bool false, .int .i64 0, .int .i64 0, .int .i64 0, .int .i64 0, .int .i64 0, .slice none 0 0, .string ⟨#[]⟩, .int .i64 0, .slice none 0 0] 39)) (l' := #[true, true, true, false, false, true, false]) rfl (by kernel_rfl) (by kernel_rfl) (by kernel_rfl) (run_alA (by kernel_rfl)) ⟨hPWu1.block (Below.heap_alloc u1 _ (w.heap.size) (by omega)), hPPu1.block (Below.heap_alloc u1 _ (w.heap.size + 1) (by omega))⟩ ?_)
      · rintro _ u2 ⟨g3, rfl, ht3, hbu2⟩
        have hPWu2 := hPWu1.block (hbu2.block (w.heap.size) (by omega))
        have hPPu2 := hPPu1.block (hbu2.block (w.heap.size + 1) (by omega))
        have hBu2 := hBu1.trans (hbu2.mono hBu1.size)
        have hzu2 : w2.heap.size ≤ u2.heap.size := Nat.le_trans hzu1 hbu2.size
        have hlu2 : w.heap.size + 1 < u2.heap.size := Nat.lt_of_lt_of_le hlu1 hbu2.size
        have hDu2 := hDu1.trans (hbu2.mono hzu1)
        have h2su2 := h2su1.below' hbu2
        have ht3u2 := ht3
        refine ⟨⟨hPWu2, hPPu2⟩, ?_⟩
        refine hTwo (i := 4) (j := 5) (by kernel_rfl) (hCall (i := 4) (d := some 28) (f := 19) (args := #[.agg #[.int .i64 nu, .int .i64 ep, .bool up, .int .i64 st, .int .i64 le, .int .i64 ta, .int .i64 co, .int .i64 lf, .slice (some ⟨g2, 0, none⟩) n n, .string x, .int .i64 si], .agg #[.slice (some ⟨g3, 0, none⟩) pn pn]]) (l' := #[true, true, true, true, true, false, false]) (R := fun v w' => RetA (.returned v) u2.heap.size w' (tickR (⟨nu, ep, up, st, le, ta, co, lf, ss, x, si⟩ : WD) ts) ∧ Below u2.heap.size u2 w') rfl (by kernel_rfl) (by kernel_rfl) (by kernel_rfl) (run_cl2 _ _ _ rfl (by kernel_rfl) (by kernel_rfl) rfl enter_sTick) ((sTick_any nu ep up st le ta co lf _ g2 0 n n ss x si _ g3 0 pn pn ts _ h2su2 ht3u2).mono fun e _ ⟨he, hb⟩ => by obtain ⟨d, q, a, c, v, rfl, h1⟩ := he; exact ⟨_, rfl, ⟨d, q, a, c, v, rfl, h1⟩, hb⟩) ?_) (hVal (i := 5) (d := some 6) (v := .pointer (some ⟨u2.heap.size, 0, none⟩)) (w' := u2.alloc (.cells #[.int .i64 0, .int .i64 0, .bool false, .int .i64 0, .int .i64 0, .int .i64 0, .int .i64 0, .int .i64 0, .slice none 0 0, .string ⟨#[]⟩, .int .i64 0, .slice none 0 0] 39)) (l' := #[true, true, true, true, false, true, false]) rfl (by kernel_rfl) (by kernel_rfl) (by kernel_rfl) (run_alA (by kernel_rfl)) ⟨hPWu2.block (Below.heap_alloc u2 _ (w.heap.size) (by omega)), hPPu2.block (Below.heap_alloc u2 _ (w.heap.size + 1) (by omega))⟩ ?_)
        · rintro _ u3 ⟨hret, hbu3⟩
          have hPWu3 := hPWu2.block (hbu3.block (w.heap.size) (by omega))
          have hPPu3 := hPPu2.block (hbu3.block (w.heap.size + 1) (by omega))
          have hBu3 := hBu2.trans (hbu3.mono hBu2.size)
          have hzu3 : w2.heap.size ≤ u3.heap.size := Nat.le_trans hzu2 hbu3.size
          have hlu3 : w.heap.size + 1 < u3.heap.size := Nat.lt_of_lt_of_le hlu2 hbu3.size
          have hDu3 := hDu2.trans (hbu3.mono hzu2)
          have h2su3 := h2su2.below' hbu3
          have ht3u3 := ht3u2.below' hbu3
          refine ⟨⟨hPWu3, hPPu3⟩, ?_⟩
          obtain ⟨⟨nu1, ep1, up1, st1, le1, ta1, co1, lf1, ss1, x1, si1⟩, q1, aw, cw, vw, hev, hoL, hoV, hdis, hF⟩ := hret
          simp only [Ending.returned.injEq] at hev
          subst hev
          dsimp only at hoL hdis
          obtain ⟨va, vc, rfl⟩ := hoV.slc
          have hloL := hoL.row_lo
          have hhiL := hoL.row_hi
          have hloV := hoV.row_lo
          have hhiV := hoV.row_hi
          have hoL := hoL.mono' hzu2
          have hoV := hoV.mono' hzu2
          refine hOne (by kernel_rfl) (hVal (i := 5) (d := some 6) (v := .pointer (some ⟨u3.heap.size, 0, none⟩)) (w' := u3.alloc (.cells #[.int .i64 0, .int .i64 0, .bool false, .int .i64 0, .int .i64 0, .int .i64 0, .int .i64 0, .int .i64 0, .slice none 0 0, .string ⟨#[]⟩, .int .i64 0, .slice none 0 0] 39)) (l' := #[true, true, true, true, true, true, false]) rfl (by kernel_rfl) (by kernel_rfl) (by kernel_rfl) (run_alA (by kernel_rfl)) ⟨hPWu3.block (Below.heap_alloc u3 _ (w.heap.size) (by omega)), hPPu3.block (Below.heap_alloc u3 _ (w.heap.size + 1) (by omega))⟩ ?_)
          have hPWu4 := hPWu3.block (Below.heap_alloc u3 (.cells zA.toArray 39) (w.heap.size) (by omega))
          have hPPu4 := hPPu3.block (Below.heap_alloc u3 (.cells zA.toArray 39) (w.heap.size + 1) (by omega))
          have hBu4 := hBu3.alloc hBu3.size (.cells zA.toArray 39)
          have hDu4 := hDu3.alloc hDu3.size (.cells zA.toArray 39)
          have hbbu4 : Below u3.heap.size u3 (u3.alloc (.cells zA.toArray 39)) := (Below.refl _ _).alloc (Nat.le_refl _) _
          have hAu4 := CF.made u3 zA.toArray 39
          have h2su4 := h2su3.below' hbbu4
          have ht3u4 := ht3u3.below' hbbu4
          have hoL := hoL.alloc (.cells zA.toArray 39)
          have hoV := hoV.alloc (.cells zA.toArray 39)
          have hszu4 : (u3.alloc (.cells zA.toArray 39)).heap.size = u3.heap.size + 1 := by simp
          obtain ⟨pA, hpA⟩ : ∃ pA, pA = u3.heap.size := ⟨_, rfl⟩
          rw [← hpA] at hAu4 hszu4
          rw [← hpA]
          obtain ⟨u4, hu4⟩ : ∃ u4, u4 = u3.alloc (.cells zA.toArray 39) := ⟨_, rfl⟩
          rw [← hu4] at hPWu4 hPPu4 hBu4 hDu4 hbbu4 hAu4 hszu4 h2su4 ht3u4 hoL hoV
          have eu4 : (.alloc u3 (.cells #[.int .i64 0, .int .i64 0, .bool false, .int .i64 0, .int .i64 0, .int .i64 0, .int .i64 0, .int .i64 0, .slice none 0 0, .string ⟨#[]⟩, .int .i64 0, .slice none 0 0] 39) : World) = u4 := hu4.symm
          rw [eu4]
          clear hu4 eu4
          have hzu4 : w2.heap.size ≤ u4.heap.size := Nat.le_trans hzu3 hbbu4.size
          have hlu4 : w.heap.size + 1 < u4.heap.size := Nat.lt_of_lt_of_le hlu3 hbbu4.size
          have hAlu4 : pA < u4.heap.size := by omega
          have hAb : w2.heap.size ≤ pA := by omega
          have HPA := hid hpA
          clear hpA
          obtain ⟨uz, huz⟩ : ∃ uz, uz = u4.setCells pA 0 [.int .i64 nu1, .int .i64 ep1, .bool up1, .int .i64 st1, .int .i64 le1, .int .i64 ta1, .int .i64 co1, .int .i64 lf1, .slice aw ss1.length cw, .string x1, .int .i64 si1, .slice va (outN q1) vc] := ⟨_, rfl⟩
          have hcz : CF uz pA [.int .i64 nu1, .int .i64 ep1, .bool up1, .int .i64 st1, .int .i64 le1, .int .i64 ta1, .int .i64 co1, .int .i64 lf1, .slice aw ss1.length cw, .string x1, .int .i64 si1, .slice va (outN q1) vc] := by rw [huz]; exact hAu4.stored rfl
          have hgz : u4.grownBy uz (some pA) := by rw [huz]; exact grown_setCells _ _ _ _ _ (World.grownBy.refl _ _)
          have hPWz := hPWu4.block (hgz.block (w.heap.size) (by omega) (by simp; omega))
          have hPPz := hPPu4.block (hgz.block (w.heap.size + 1) (by omega) (by simp; omega))
          have hBz := below_grown hBu4 hgz (by omega) (fun k hk => by simp at hk; omega)
          have hLz := hoL.grown hgz (.inr (by intro hh; have := hloL _ hh; have := hhiL _ hh; have := HPA.out; omega))
          have hVz := hoV.grown hgz (.inr (by intro hh; have := hloV _ hh; have := hhiV _ hh; have := HPA.out; omega))
          have hzz := below_grown hDu4 hgz (by omega) (fun k hk => by simp at hk; omega)
          refine hOne (by kernel_rfl) (hSkip (i := 6) (w' := uz) (l' := #[true, true, true, true, true, true, true]) rfl (by kernel_rfl) (by kernel_rfl) (by kernel_rfl) (by rw [huz]; exact run_stT 39 zA [.int .i64 nu1, .int .i64 ep1, .bool up1, .int .i64 st1, .int .i64 le1, .int .i64 ta1, .int .i64 co1, .int .i64 lf1, .slice aw ss1.length cw, .string x1, .int .i64 si1, .slice va (outN q1) vc] (.tmp 6) (.tmp 28) (by kernel_rfl) (by kernel_rfl) (by kernel_rfl) hAu4 rfl Try.sizeAc (one12 _ _ _ _ _ _ _ _ _ _ _ _ _ _ _ _)) ⟨hPWz, hPPz⟩ ?_)
          refine wpAnyH_done (by kernel_rfl) ?_ _
          have HR := hid (show ∃ (p : Nat) (nu1 ep1 : Int) (up1 : Bool) (st1 le1 ta1 co1 lf1 : Int) (ss1 : List ByteArray) (x1 : ByteArray) (si1 : Int) (q1 : Option OM) (aw : Option Addr) (cw : Nat) (vw : Value), (.pointer (some ⟨pA, 0, none⟩) : Value) = .pointer (some ⟨p, 0, none⟩) ∧ CF uz p [.int .i64 nu1, .int .i64 ep1, .bool up1, .int .i64 st1, .int .i64 le1, .int .i64 ta1, .int .i64 co1, .int .i64 lf1, .slice aw ss1.length cw, .string x1, .int .i64 si1, vw] ∧ tickR (⟨nu, ep, up, st, le, ta, co, lf, ss, x, si⟩ : WD) ts (⟨nu1, ep1, up1, st1, le1, ta1, co1, lf1, ss1, x1, si1⟩, q1) ∧ Own w2.heap.size uz 1 (.slice aw ss1.length cw) ss1.length (ss1.map Value.string) ∧ Own w2.heap.size uz 8 vw (outN q1) (outL q1) ∧ ((Value.slice aw ss1.length cw).ownBlock = none ∨ (Value.slice aw ss1.length cw).ownBlock ≠ vw.ownBlock) ∧ w2.heap.size ≤ p ∧ CF uz (w.heap.size) [.int .i64 nu, .int .i64 ep, .bool up, .int .i64 st, .int .i64 le, .int .i64 ta, .int .i64 co, .int .i64 lf, .slice a n c, .string x, .int .i64 si] ∧ CF uz (w.heap.size + 1) [.slice pa pn pc] ∧ Below w.heap.size w uz ∧ Below w2.heap.size w2 uz from ⟨pA, nu1, ep1, up1, st1, le1, ta1, co1, lf1, ss1, x1, si1, q1, aw, cw, .slice va (outN q1) vc, rfl, hcz, hF, hLz, hVz, hdis, hAb, hPWz, hPPz, hBz, hzz⟩)
          clear hcz hF hLz hVz hdis hPWz hPPz hBz hzz huz hgz hoL hoV hloL hhiL hloV hhiV
          go_wp2_with fail
          go_meet
          case rel => exact HR.out
        · have hPWu5 := hPWu2.block (Below.heap_alloc u2 (.cells zA.toArray 39) (w.heap.size) (by omega))
          have hPPu5 := hPPu2.block (Below.heap_alloc u2 (.cells zA.toArray 39) (w.heap.size + 1) (by omega))
          have hBu5 := hBu2.alloc hBu2.size (.cells zA.toArray 39)
          have hDu5 := hDu2.alloc hDu2.size (.cells zA.toArray 39)
          have hbbu5 : Below u2.heap.size u2 (u2.alloc (.cells zA.toArray 39)) := (Below.refl _ _).alloc (Nat.le_refl _) _
          have hAu5 := CF.made u2 zA.toArray 39
          have h2su5 := h2su2.below' hbbu5
          have ht3u5 := ht3u2.below' hbbu5
          have hszu5 : (u2.alloc (.cells zA.toArray 39)).heap.size = u2.heap.size + 1 := by simp
          obtain ⟨pA, hpA⟩ : ∃ pA, pA = u2.heap.size := ⟨_, rfl⟩
          rw [← hpA] at hAu5 hszu5
          rw [← hpA]
          obtain ⟨u5, hu5⟩ : ∃ u5, u5 = u2.alloc (.cells zA.toArray 39) := ⟨_, rfl⟩
          rw [← hu5] at hPWu5 hPPu5 hBu5 hDu5 hbbu5 hAu5 hszu5 h2su5 ht3u5
          have eu5 : (.alloc u2 (.cells #[.int .i64 0, .int .i64 0, .bool false, .int .i64 0, .int .i64 0, .int .i64 0, .int .i64 0, .int .i64 0, .slice none 0 0, .string ⟨#[]⟩, .int .i64 0, .slice none 0 0] 39) : World) = u5 := hu5.symm
          rw [eu5]
          clear hu5 eu5
          have hzu5 : w2.heap.size ≤ u5.heap.size := Nat.le_trans hzu2 hbbu5.size
          have hlu5 : w.heap.size + 1 < u5.heap.size := Nat.lt_of_lt_of_le hlu2 hbbu5.size
          have hAlu5 : pA < u5.heap.size := by omega
          have hAb : w2.heap.size ≤ pA := by omega
          have HPA := hid hpA
          clear hpA
          refine hOne (by kernel_rfl) (hCall (i := 4) (d := some 28) (f := 19) (args := #[.agg #[.int .i64 nu, .int .i64 ep, .bool up, .int .i64 st, .int .i64 le, .int .i64 ta, .int .i64 co, .int .i64 lf, .slice (some ⟨g2, 0, none⟩) n n, .string x, .int .i64 si], .agg #[.slice (some ⟨g3, 0, none⟩) pn pn]]) (l' := #[true, true, true, true, true, true, false]) (R := fun v w' => RetA (.returned v) u5.heap.size w' (tickR (⟨nu, ep, up, st, le, ta, co, lf, ss, x, si⟩ : WD) ts) ∧ Below u5.heap.size u5 w') rfl (by kernel_rfl) (by kernel_rfl) (by kernel_rfl) (run_cl2 _ _ _ rfl (by kernel_rfl) (by kernel_rfl) rfl enter_sTick) ((sTick_any nu ep up st le ta co lf _ g2 0 n n ss x si _ g3 0 pn pn ts _ h2su5 ht3u5).mono fun e _ ⟨he, hb⟩ => by obtain ⟨d, q, a, c, v, rfl, h1⟩ := he; exact ⟨_, rfl, ⟨d, q, a, c, v, rfl, h1⟩, hb⟩) ?_)
          rintro _ u6 ⟨hret, hbu6⟩
          have hPWu6 := hPWu5.block (hbu6.block (w.heap.size) (by omega))
          have hPPu6 := hPPu5.block (hbu6.block (w.heap.size + 1) (by omega))
          have hBu6 := hBu5.trans (hbu6.mono hBu5.size)
          have hzu6 : w2.heap.size ≤ u6.heap.size := Nat.le_trans hzu5 hbu6.size
          have hlu6 : w.heap.size + 1 < u6.heap.size := Nat.lt_of_lt_of_le hlu5 hbu6.size
          have hDu6 := hDu5.trans (hbu6.mono hzu5)
          have h2su6 := h2su5.below' hbu6
          have ht3u6 := ht3u5.below' hbu6
          have hAu6 := hAu5.block (hbu6.block pA (by omega))
          have hAlu6 : pA < u6.heap.size := Nat.lt_of_lt_of_le hAlu5 hbu6.size
          refine ⟨⟨hPWu6, hPPu6⟩, ?_⟩
          obtain ⟨⟨nu1, ep1, up1, st1, le1, ta1, co1, lf1, ss1, x1, si1⟩, q1, aw, cw, vw, hev, hoL, hoV, hdis, hF⟩ := hret
          simp only [Ending.returned.injEq] at hev
          subst hev
          dsimp only at hoL hdis
          obtain ⟨va, vc, rfl⟩ := hoV.slc
          have hloL := hoL.row_lo
          have hhiL := hoL.row_hi
          have hloV := hoV.row_lo
          have hhiV := hoV.row_hi
          have hoL := hoL.mono' hzu5
          have hoV := hoV.mono' hzu5
          obtain ⟨uz, huz⟩ : ∃ uz, uz = u6.setCells pA 0 [.int .i64 nu1, .int .i64 ep1, .bool up1, .int .i64 st1, .int .i64 le1, .int .i64 ta1, .int .i64 co1, .int .i64 lf1, .slice aw ss1.length cw, .string x1, .int .i64 si1, .slice va (outN q1) vc] := ⟨_, rfl⟩
          have hcz : CF uz pA [.int .i64 nu1, .int .i64 ep1, .bool up1, .int .i64 st1, .int .i64 le1, .int .i64 ta1, .int .i64 co1, .int .i64 lf1, .slice aw ss1.length cw, .string x1, .int .i64 si1, .slice va (outN q1) vc] := by rw [huz]; exact hAu6.stored rfl
          have hgz : u6.grownBy uz (some pA) := by rw [huz]; exact grown_setCells _ _ _ _ _ (World.grownBy.refl _ _)
          have hPWz := hPWu6.block (hgz.block (w.heap.size) (by omega) (by simp; omega))
          have hPPz := hPPu6.block (hgz.block (w.heap.size + 1) (by omega) (by simp; omega))
          have hBz := below_grown hBu6 hgz (by omega) (fun k hk => by simp at hk; omega)
          have hLz := hoL.grown hgz (.inr (by intro hh; have := hloL _ hh; have := hhiL _ hh; have := HPA.out; omega))
          have hVz := hoV.grown hgz (.inr (by intro hh; have := hloV _ hh; have := hhiV _ hh; have := HPA.out; omega))
          have hzz := below_grown hDu6 hgz (by omega) (fun k hk => by simp at hk; omega)
          refine hOne (by kernel_rfl) (hSkip (i := 6) (w' := uz) (l' := #[true, true, true, true, true, true, true]) rfl (by kernel_rfl) (by kernel_rfl) (by kernel_rfl) (by rw [huz]; exact run_stT 39 zA [.int .i64 nu1, .int .i64 ep1, .bool up1, .int .i64 st1, .int .i64 le1, .int .i64 ta1, .int .i64 co1, .int .i64 lf1, .slice aw ss1.length cw, .string x1, .int .i64 si1, .slice va (outN q1) vc] (.tmp 6) (.tmp 28) (by kernel_rfl) (by kernel_rfl) (by kernel_rfl) hAu6 rfl Try.sizeAc (one12 _ _ _ _ _ _ _ _ _ _ _ _ _ _ _ _)) ⟨hPWz, hPPz⟩ ?_)
          refine wpAnyH_done (by kernel_rfl) ?_ _
          have HR := hid (show ∃ (p : Nat) (nu1 ep1 : Int) (up1 : Bool) (st1 le1 ta1 co1 lf1 : Int) (ss1 : List ByteArray) (x1 : ByteArray) (si1 : Int) (q1 : Option OM) (aw : Option Addr) (cw : Nat) (vw : Value), (.pointer (some ⟨pA, 0, none⟩) : Value) = .pointer (some ⟨p, 0, none⟩) ∧ CF uz p [.int .i64 nu1, .int .i64 ep1, .bool up1, .int .i64 st1, .int .i64 le1, .int .i64 ta1, .int .i64 co1, .int .i64 lf1, .slice aw ss1.length cw, .string x1, .int .i64 si1, vw] ∧ tickR (⟨nu, ep, up, st, le, ta, co, lf, ss, x, si⟩ : WD) ts (⟨nu1, ep1, up1, st1, le1, ta1, co1, lf1, ss1, x1, si1⟩, q1) ∧ Own w2.heap.size uz 1 (.slice aw ss1.length cw) ss1.length (ss1.map Value.string) ∧ Own w2.heap.size uz 8 vw (outN q1) (outL q1) ∧ ((Value.slice aw ss1.length cw).ownBlock = none ∨ (Value.slice aw ss1.length cw).ownBlock ≠ vw.ownBlock) ∧ w2.heap.size ≤ p ∧ CF uz (w.heap.size) [.int .i64 nu, .int .i64 ep, .bool up, .int .i64 st, .int .i64 le, .int .i64 ta, .int .i64 co, .int .i64 lf, .slice a n c, .string x, .int .i64 si] ∧ CF uz (w.heap.size + 1) [.slice pa pn pc] ∧ Below w.heap.size w uz ∧ Below w2.heap.size w2 uz from ⟨pA, nu1, ep1, up1, st1, le1, ta1, co1, lf1, ss1, x1, si1, q1, aw, cw, .slice va (outN q1) vc, rfl, hcz, hF, hLz, hVz, hdis, hAb, hPWz, hPPz, hBz, hzz⟩)
          clear hcz hF hLz hVz hdis hPWz hPPz hBz hzz huz hgz hoL hoV hloL hhiL hloV hhiV
          go_wp2_with fail
          go_meet
          case rel => exact HR.out
      · have hPWu7 := hPWu1.block (Below.heap_alloc u1 (.cells zA.toArray 39) (w.heap.size) (by omega))
        have hPPu7 := hPPu1.block (Below.heap_alloc u1 (.cells zA.toArray 39) (w.heap.size + 1) (by omega))
        have hBu7 := hBu1.alloc hBu1.size (.cells zA.toArray 39)
        have hDu7 := hDu1.alloc hDu1.size (.cells zA.toArray 39)
        have hbbu7 : Below u1.heap.size u1 (u1.alloc (.cells zA.toArray 39)) := (Below.refl _ _).alloc (Nat.le_refl _) _
        have hAu7 := CF.made u1 zA.toArray 39
        have h2su7 := h2su1.below' hbbu7
        have hszu7 : (u1.alloc (.cells zA.toArray 39)).heap.size = u1.heap.size + 1 := by simp
        obtain ⟨pA, hpA⟩ : ∃ pA, pA = u1.heap.size := ⟨_, rfl⟩
        rw [← hpA] at hAu7 hszu7
        rw [← hpA]
        obtain ⟨u7, hu7⟩ : ∃ u7, u7 = u1.alloc (.cells zA.toArray 39) := ⟨_, rfl⟩
        rw [← hu7] at hPWu7 hPPu7 hBu7 hDu7 hbbu7 hAu7 hszu7 h2su7
        have eu7 : (.alloc u1 (.cells #[.int .i64 0, .int .i64 0, .bool false, .int .i64 0, .int .i64 0, .int .i64 0, .int .i64 0, .int .i64 0, .slice none 0 0, .string ⟨#[]⟩, .int .i64 0, .slice none 0 0] 39) : World) = u7 := hu7.symm
        rw [eu7]
        clear hu7 eu7
        have hzu7 : w2.heap.size ≤ u7.heap.size := Nat.le_trans hzu1 hbbu7.size
        have hlu7 : w.heap.size + 1 < u7.heap.size := Nat.lt_of_lt_of_le hlu1 hbbu7.size
        have hAlu7 : pA < u7.heap.size := by omega
        have hAb : w2.heap.size ≤ pA := by omega
        have HPA := hid hpA
        clear hpA
        refine hOne (by kernel_rfl) (hCall (i := 3) (d := some 27) (f := 20) (args := #[.agg #[.slice pa pn pc]]) (l' := #[true, true, true, true, false, true, false]) (R := fun v w' => ∃ g, v = .agg #[.slice (some ⟨g, 0, none⟩) pn pn] ∧ TasksAt w' (some ⟨g, 0, none⟩) g 0 pn ts ∧ Below u7.heap.size u7 w') rfl (by kernel_rfl) (by kernel_rfl) (by kernel_rfl) (run_cl1 _ _ rfl (by kernel_rfl) rfl enter_toP) ((toPlan_any pa pb po pn pc ts _ (hp.below' hBu7) hpn).mono fun _ _ ⟨g, xs, he, _, _, ht, hb⟩ => ⟨_, he, g, rfl, ht, hb⟩) ?_)
        rintro _ u8 ⟨g3, rfl, ht3, hbu8⟩
        have hPWu8 := hPWu7.block (hbu8.block (w.heap.size) (by omega))
        have hPPu8 := hPPu7.block (hbu8.block (w.heap.size + 1) (by omega))
        have hBu8 := hBu7.trans (hbu8.mono hBu7.size)
        have hzu8 : w2.heap.size ≤ u8.heap.size := Nat.le_trans hzu7 hbu8.size
        have hlu8 : w.heap.size + 1 < u8.heap.size := Nat.lt_of_lt_of_le hlu7 hbu8.size
        have hDu8 := hDu7.trans (hbu8.mono hzu7)
        have h2su8 := h2su7.below' hbu8
        have ht3u8 := ht3
        have hAu8 := hAu7.block (hbu8.block pA (by omega))
        have hAlu8 : pA < u8.heap.size := Nat.lt_of_lt_of_le hAlu7 hbu8.size
        refine ⟨⟨hPWu8, hPPu8⟩, ?_⟩
        refine hOne (by kernel_rfl) (hCall (i := 4) (d := some 28) (f := 19) (args := #[.agg #[.int .i64 nu, .int .i64 ep, .bool up, .int .i64 st, .int .i64 le, .int .i64 ta, .int .i64 co, .int .i64 lf, .slice (some ⟨g2, 0, none⟩) n n, .string x, .int .i64 si], .agg #[.slice (some ⟨g3, 0, none⟩) pn pn]]) (l' := #[true, true, true, true, true, true, false]) (R := fun v w' => RetA (.returned v) u8.heap.size w' (tickR (⟨nu, ep, up, st, le, ta, co, lf, ss, x, si⟩ : WD) ts) ∧ Below u8.heap.size u8 w') rfl (by kernel_rfl) (by kernel_rfl) (by kernel_rfl) (run_cl2 _ _ _ rfl (by kernel_rfl) (by kernel_rfl) rfl enter_sTick) ((sTick_any nu ep up st le ta co lf _ g2 0 n n ss x si _ g3 0 pn pn ts _ h2su8 ht3u8).mono fun e _ ⟨he, hb⟩ => by obtain ⟨d, q, a, c, v, rfl, h1⟩ := he; exact ⟨_, rfl, ⟨d, q, a, c, v, rfl, h1⟩, hb⟩) ?_)
        rintro _ u9 ⟨hret, hbu9⟩
        have hPWu9 := hPWu8.block (hbu9.block (w.heap.size) (by omega))
        have hPPu9 := hPPu8.block (hbu9.block (w.heap.size + 1) (by omega))
        have hBu9 := hBu8.trans (hbu9.mono hBu8.size)
        have hzu9 : w2.heap.size ≤ u9.heap.size := Nat.le_trans hzu8 hbu9.size
        have hlu9 : w.heap.size + 1 < u9.heap.size := Nat.lt_of_lt_of_le hlu8 hbu9.size
        have hDu9 := hDu8.trans (hbu9.mono hzu8)
        have h2su9 := h2su8.below' hbu9
        have ht3u9 := ht3u8.below' hbu9
        have hAu9 := hAu8.block (hbu9.block pA (by omega))
        have hAlu9 : pA < u9.heap.size := Nat.lt_of_lt_of_le hAlu8 hbu9.size
        refine ⟨⟨hPWu9, hPPu9⟩, ?_⟩
        obtain ⟨⟨nu1, ep1, up1, st1, le1, ta1, co1, lf1, ss1, x1, si1⟩, q1, aw, cw, vw, hev, hoL, hoV, hdis, hF⟩ := hret
        simp only [Ending.returned.injEq] at hev
        subst hev
        dsimp only at hoL hdis
        obtain ⟨va, vc, rfl⟩ := hoV.slc
        have hloL := hoL.row_lo
        have hhiL := hoL.row_hi
        have hloV := hoV.row_lo
        have hhiV := hoV.row_hi
        have hoL := hoL.mono' hzu8
        have hoV := hoV.mono' hzu8
        obtain ⟨uz, huz⟩ : ∃ uz, uz = u9.setCells pA 0 [.int .i64 nu1, .int .i64 ep1, .bool up1, .int .i64 st1, .int .i64 le1, .int .i64 ta1, .int .i64 co1, .int .i64 lf1, .slice aw ss1.length cw, .string x1, .int .i64 si1, .slice va (outN q1) vc] := ⟨_, rfl⟩
        have hcz : CF uz pA [.int .i64 nu1, .int .i64 ep1, .bool up1, .int .i64 st1, .int .i64 le1, .int .i64 ta1, .int .i64 co1, .int .i64 lf1, .slice aw ss1.length cw, .string x1, .int .i64 si1, .slice va (outN q1) vc] := by rw [huz]; exact hAu9.stored rfl
        have hgz : u9.grownBy uz (some pA) := by rw [huz]; exact grown_setCells _ _ _ _ _ (World.grownBy.refl _ _)
        have hPWz := hPWu9.block (hgz.block (w.heap.size) (by omega) (by simp; omega))
        have hPPz := hPPu9.block (hgz.block (w.heap.size + 1) (by omega) (by simp; omega))
        have hBz := below_grown hBu9 hgz (by omega) (fun k hk => by simp at hk; omega)
        have hLz := hoL.grown hgz (.inr (by intro hh; have := hloL _ hh; have := hhiL _ hh; have := HPA.out; omega))
        have hVz := hoV.grown hgz (.inr (by intro hh; have := hloV _ hh; have := hhiV _ hh; have := HPA.out; omega))
        have hzz := below_grown hDu9 hgz (by omega) (fun k hk => by simp at hk; omega)
        refine hOne (by kernel_rfl) (hSkip (i := 6) (w' := uz) (l' := #[true, true, true, true, true, true, true]) rfl (by kernel_rfl) (by kernel_rfl) (by kernel_rfl) (by rw [huz]; exact run_stT 39 zA [.int .i64 nu1, .int .i64 ep1, .bool up1, .int .i64 st1, .int .i64 le1, .int .i64 ta1, .int .i64 co1, .int .i64 lf1, .slice aw ss1.length cw, .string x1, .int .i64 si1, .slice va (outN q1) vc] (.tmp 6) (.tmp 28) (by kernel_rfl) (by kernel_rfl) (by kernel_rfl) hAu9 rfl Try.sizeAc (one12 _ _ _ _ _ _ _ _ _ _ _ _ _ _ _ _)) ⟨hPWz, hPPz⟩ ?_)
        refine wpAnyH_done (by kernel_rfl) ?_ _
        have HR := hid (show ∃ (p : Nat) (nu1 ep1 : Int) (up1 : Bool) (st1 le1 ta1 co1 lf1 : Int) (ss1 : List ByteArray) (x1 : ByteArray) (si1 : Int) (q1 : Option OM) (aw : Option Addr) (cw : Nat) (vw : Value), (.pointer (some ⟨pA, 0, none⟩) : Value) = .pointer (some ⟨p, 0, none⟩) ∧ CF uz p [.int .i64 nu1, .int .i64 ep1, .bool up1, .int .i64 st1, .int .i64 le1, .int .i64 ta1, .int .i64 co1, .int .i64 lf1, .slice aw ss1.length cw, .string x1, .int .i64 si1, vw] ∧ tickR (⟨nu, ep, up, st, le, ta, co, lf, ss, x, si⟩ : WD) ts (⟨nu1, ep1, up1, st1, le1, ta1, co1, lf1, ss1, x1, si1⟩, q1) ∧ Own w2.heap.size uz 1 (.slice aw ss1.length cw) ss1.length (ss1.map Value.string) ∧ Own w2.heap.size uz 8 vw (outN q1) (outL q1) ∧ ((Value.slice aw ss1.length cw).ownBlock = none ∨ (Value.slice aw ss1.length cw).ownBlock ≠ vw.ownBlock) ∧ w2.heap.size ≤ p ∧ CF uz (w.heap.size) [.int .i64 nu, .int .i64 ep, .bool up, .int .i64 st, .int .i64 le, .int .i64 ta, .int .i64 co, .int .i64 lf, .slice a n c, .string x, .int .i64 si] ∧ CF uz (w.heap.size + 1) [.slice pa pn pc] ∧ Below w.heap.size w uz ∧ Below w2.heap.size w2 uz from ⟨pA, nu1, ep1, up1, st1, le1, ta1, co1, lf1, ss1, x1, si1, q1, aw, cw, .slice va (outN q1) vc, rfl, hcz, hF, hLz, hVz, hdis, hAb, hPWz, hPPz, hBz, hzz⟩)
        clear hcz hF hLz hVz hdis hPWz hPPz hBz hzz huz hgz hoL hoV hloL hhiL hloV hhiV
        go_wp2_with fail
        go_meet
        case rel => exact HR.out
    · have hPWu10 := hPWu0.block (Below.heap_alloc u0 (.cells zA.toArray 39) (w.heap.size) (by omega))
      have hPPu10 := hPPu0.block (Below.heap_alloc u0 (.cells zA.toArray 39) (w.heap.size + 1) (by omega))
      have hBu10 := hBu0.alloc hBu0.size (.cells zA.toArray 39)
      have hDu10 := hDu0.alloc hDu0.size (.cells zA.toArray 39)
      have hbbu10 : Below u0.heap.size u0 (u0.alloc (.cells zA.toArray 39)) := (Below.refl _ _).alloc (Nat.le_refl _) _
      have hAu10 := CF.made u0 zA.toArray 39
      have hszu10 : (u0.alloc (.cells zA.toArray 39)).heap.size = u0.heap.size + 1 := by simp
      obtain ⟨pA, hpA⟩ : ∃ pA, pA = u0.heap.size := ⟨_, rfl⟩
      rw [← hpA] at hAu10 hszu10
      rw [← hpA]
      obtain ⟨u10, hu10⟩ : ∃ u10, u10 = u0.alloc (.cells zA.toArray 39) := ⟨_, rfl⟩
      rw [← hu10] at hPWu10 hPPu10 hBu10 hDu10 hbbu10 hAu10 hszu10
      have eu10 : (.alloc u0 (.cells #[.int .i64 0, .int .i64 0, .bool false, .int .i64 0, .int .i64 0, .int .i64 0, .int .i64 0, .int .i64 0, .slice none 0 0, .string ⟨#[]⟩, .int .i64 0, .slice none 0 0] 39) : World) = u10 := hu10.symm
      rw [eu10]
      clear hu10 eu10
      have hzu10 : w2.heap.size ≤ u10.heap.size := Nat.le_trans hzu0 hbbu10.size
      have hlu10 : w.heap.size + 1 < u10.heap.size := Nat.lt_of_lt_of_le hlu0 hbbu10.size
      have hAlu10 : pA < u10.heap.size := by omega
      have hAb : w2.heap.size ≤ pA := by omega
      have HPA := hid hpA
      clear hpA
      refine hOne (by kernel_rfl) (hCall (i := 1) (d := some 25) (f := 9) (args := #[.agg #[.int .i64 nu, .int .i64 ep, .bool up, .int .i64 st, .int .i64 le, .int .i64 ta, .int .i64 co, .int .i64 lf, .slice a n c, .string x, .int .i64 si]]) (l' := #[true, true, true, false, false, true, false]) (R := fun v w' => ∃ g, v = .agg #[.int .i64 nu, .int .i64 ep, .bool up, .int .i64 st, .int .i64 le, .int .i64 ta, .int .i64 co, .int .i64 lf, .slice (some ⟨g, 0, none⟩) n n, .string x, .int .i64 si] ∧ OwnC u10.heap.size w' 1 g 0 n n (ss.map Value.string) ∧ Below u10.heap.size u10 w') rfl (by kernel_rfl) (by kernel_rfl) (by kernel_rfl) (run_cl1 _ _ rfl (by kernel_rfl) rfl enter_toW) ((toWorker_any nu ep up st le ta co lf x si a b o n c ss _ (h.below' hBu10) hnn).mono fun _ _ ⟨⟨g, he, ho⟩, hb⟩ => ⟨_, he, g, rfl, ho, hb⟩) ?_)
      rintro _ u11 ⟨g2, rfl, ho2, hbu11⟩
      have hPWu11 := hPWu10.block (hbu11.block (w.heap.size) (by omega))
      have hPPu11 := hPPu10.block (hbu11.block (w.heap.size + 1) (by omega))
      have hBu11 := hBu10.trans (hbu11.mono hBu10.size)
      have hzu11 : w2.heap.size ≤ u11.heap.size := Nat.le_trans hzu10 hbu11.size
      have hlu11 : w.heap.size + 1 < u11.heap.size := Nat.lt_of_lt_of_le hlu10 hbu11.size
      have hDu11 := hDu10.trans (hbu11.mono hzu10)
      have h2su11 := StrsAt.ofOwn ho2 h.sz
      clear ho2
      have hAu11 := hAu10.block (hbu11.block pA (by omega))
      have hAlu11 : pA < u11.heap.size := Nat.lt_of_lt_of_le hAlu10 hbu11.size
      refine ⟨⟨hPWu11, hPPu11⟩, ?_⟩
      refine hOne (by kernel_rfl) (hCall (i := 3) (d := some 27) (f := 20) (args := #[.agg #[.slice pa pn pc]]) (l' := #[true, true, true, true, false, true, false]) (R := fun v w' => ∃ g, v = .agg #[.slice (some ⟨g, 0, none⟩) pn pn] ∧ TasksAt w' (some ⟨g, 0, none⟩) g 0 pn ts ∧ Below u11.heap.size u11 w') rfl (by kernel_rfl) (by kernel_rfl) (by kernel_rfl) (run_cl1 _ _ rfl (by kernel_rfl) rfl enter_toP) ((toPlan_any pa pb po pn pc ts _ (hp.below' hBu11) hpn).mono fun _ _ ⟨g, xs, he, _, _, ht, hb⟩ => ⟨_, he, g, rfl, ht, hb⟩) ?_)
      rintro _ u12 ⟨g3, rfl, ht3, hbu12⟩
      have hPWu12 := hPWu11.block (hbu12.block (w.heap.size) (by omega))
      have hPPu12 := hPPu11.block (hbu12.block (w.heap.size + 1) (by omega))
      have hBu12 := hBu11.trans (hbu12.mono hBu11.size)
      have hzu12 : w2.heap.size ≤ u12.heap.size := Nat.le_trans hzu11 hbu12.size
      have hlu12 : w.heap.size + 1 < u12.heap.size := Nat.lt_of_lt_of_le hlu11 hbu12.size
      have hDu12 := hDu11.trans (hbu12.mono hzu11)
      have h2su12 := h2su11.below' hbu12
      have ht3u12 := ht3
      have hAu12 := hAu11.block (hbu12.block pA (by omega))
      have hAlu12 : pA < u12.heap.size := Nat.lt_of_lt_of_le hAlu11 hbu12.size
      refine ⟨⟨hPWu12, hPPu12⟩, ?_⟩
      refine hOne (by kernel_rfl) (hCall (i := 4) (d := some 28) (f := 19) (args := #[.agg #[.int .i64 nu, .int .i64 ep, .bool up, .int .i64 st, .int .i64 le, .int .i64 ta, .int .i64 co, .int .i64 lf, .slice (some ⟨g2, 0, none⟩) n n, .string x, .int .i64 si], .agg #[.slice (some ⟨g3, 0, none⟩) pn pn]]) (l' := #[true, true, true, true, true, true, false]) (R := fun v w' => RetA (.returned v) u12.heap.size w' (tickR (⟨nu, ep, up, st, le, ta, co, lf, ss, x, si⟩ : WD) ts) ∧ Below u12.heap.size u12 w') rfl (by kernel_rfl) (by kernel_rfl) (by kernel_rfl) (run_cl2 _ _ _ rfl (by kernel_rfl) (by kernel_rfl) rfl enter_sTick) ((sTick_any nu ep up st le ta co lf _ g2 0 n n ss x si _ g3 0 pn pn ts _ h2su12 ht3u12).mono fun e _ ⟨he, hb⟩ => by obtain ⟨d, q, a, c, v, rfl, h1⟩ := he; exact ⟨_, rfl, ⟨d, q, a, c, v, rfl, h1⟩, hb⟩) ?_)
      rintro _ u13 ⟨hret, hbu13⟩
      have hPWu13 := hPWu12.block (hbu13.block (w.heap.size) (by omega))
      have hPPu13 := hPPu12.block (hbu13.block (w.heap.size + 1) (by omega))
      have hBu13 := hBu12.trans (hbu13.mono hBu12.size)
      have hzu13 : w2.heap.size ≤ u13.heap.size := Nat.le_trans hzu12 hbu13.size
      have hlu13 : w.heap.size + 1 < u13.heap.size := Nat.lt_of_lt_of_le hlu12 hbu13.size
      have hDu13 := hDu12.trans (hbu13.mono hzu12)
      have h2su13 := h2su12.below' hbu13
      have ht3u13 := ht3u12.below' hbu13
      have hAu13 := hAu12.block (hbu13.block pA (by omega))
      have hAlu13 : pA < u13.heap.size := Nat.lt_of_lt_of_le hAlu12 hbu13.size
      refine ⟨⟨hPWu13, hPPu13⟩, ?_⟩
      obtain ⟨⟨nu1, ep1, up1, st1, le1, ta1, co1, lf1, ss1, x1, si1⟩, q1, aw, cw, vw, hev, hoL, hoV, hdis, hF⟩ := hret
      simp only [Ending.returned.injEq] at hev
      subst hev
      dsimp only at hoL hdis
      obtain ⟨va, vc, rfl⟩ := hoV.slc
      have hloL := hoL.row_lo
      have hhiL := hoL.row_hi
      have hloV := hoV.row_lo
      have hhiV := hoV.row_hi
      have hoL := hoL.mono' hzu12
      have hoV := hoV.mono' hzu12
      obtain ⟨uz, huz⟩ : ∃ uz, uz = u13.setCells pA 0 [.int .i64 nu1, .int .i64 ep1, .bool up1, .int .i64 st1, .int .i64 le1, .int .i64 ta1, .int .i64 co1, .int .i64 lf1, .slice aw ss1.length cw, .string x1, .int .i64 si1, .slice va (outN q1) vc] := ⟨_, rfl⟩
      have hcz : CF uz pA [.int .i64 nu1, .int .i64 ep1, .bool up1, .int .i64 st1, .int .i64 le1, .int .i64 ta1, .int .i64 co1, .int .i64 lf1, .slice aw ss1.length cw, .string x1, .int .i64 si1, .slice va (outN q1) vc] := by rw [huz]; exact hAu13.stored rfl
      have hgz : u13.grownBy uz (some pA) := by rw [huz]; exact grown_setCells _ _ _ _ _ (World.grownBy.refl _ _)
      have hPWz := hPWu13.block (hgz.block (w.heap.size) (by omega) (by simp; omega))
      have hPPz := hPPu13.block (hgz.block (w.heap.size + 1) (by omega) (by simp; omega))
      have hBz := below_grown hBu13 hgz (by omega) (fun k hk => by simp at hk; omega)
      have hLz := hoL.grown hgz (.inr (by intro hh; have := hloL _ hh; have := hhiL _ hh; have := HPA.out; omega))
      have hVz := hoV.grown hgz (.inr (by intro hh; have := hloV _ hh; have := hhiV _ hh; have := HPA.out; omega))
      have hzz := below_grown hDu13 hgz (by omega) (fun k hk => by simp at hk; omega)
      refine hOne (by kernel_rfl) (hSkip (i := 6) (w' := uz) (l' := #[true, true, true, true, true, true, true]) rfl (by kernel_rfl) (by kernel_rfl) (by kernel_rfl) (by rw [huz]; exact run_stT 39 zA [.int .i64 nu1, .int .i64 ep1, .bool up1, .int .i64 st1, .int .i64 le1, .int .i64 ta1, .int .i64 co1, .int .i64 lf1, .slice aw ss1.length cw, .string x1, .int .i64 si1, .slice va (outN q1) vc] (.tmp 6) (.tmp 28) (by kernel_rfl) (by kernel_rfl) (by kernel_rfl) hAu13 rfl Try.sizeAc (one12 _ _ _ _ _ _ _ _ _ _ _ _ _ _ _ _)) ⟨hPWz, hPPz⟩ ?_)
      refine wpAnyH_done (by kernel_rfl) ?_ _
      have HR := hid (show ∃ (p : Nat) (nu1 ep1 : Int) (up1 : Bool) (st1 le1 ta1 co1 lf1 : Int) (ss1 : List ByteArray) (x1 : ByteArray) (si1 : Int) (q1 : Option OM) (aw : Option Addr) (cw : Nat) (vw : Value), (.pointer (some ⟨pA, 0, none⟩) : Value) = .pointer (some ⟨p, 0, none⟩) ∧ CF uz p [.int .i64 nu1, .int .i64 ep1, .bool up1, .int .i64 st1, .int .i64 le1, .int .i64 ta1, .int .i64 co1, .int .i64 lf1, .slice aw ss1.length cw, .string x1, .int .i64 si1, vw] ∧ tickR (⟨nu, ep, up, st, le, ta, co, lf, ss, x, si⟩ : WD) ts (⟨nu1, ep1, up1, st1, le1, ta1, co1, lf1, ss1, x1, si1⟩, q1) ∧ Own w2.heap.size uz 1 (.slice aw ss1.length cw) ss1.length (ss1.map Value.string) ∧ Own w2.heap.size uz 8 vw (outN q1) (outL q1) ∧ ((Value.slice aw ss1.length cw).ownBlock = none ∨ (Value.slice aw ss1.length cw).ownBlock ≠ vw.ownBlock) ∧ w2.heap.size ≤ p ∧ CF uz (w.heap.size) [.int .i64 nu, .int .i64 ep, .bool up, .int .i64 st, .int .i64 le, .int .i64 ta, .int .i64 co, .int .i64 lf, .slice a n c, .string x, .int .i64 si] ∧ CF uz (w.heap.size + 1) [.slice pa pn pc] ∧ Below w.heap.size w uz ∧ Below w2.heap.size w2 uz from ⟨pA, nu1, ep1, up1, st1, le1, ta1, co1, lf1, ss1, x1, si1, q1, aw, cw, .slice va (outN q1) vc, rfl, hcz, hF, hLz, hVz, hdis, hAb, hPWz, hPPz, hBz, hzz⟩)
      clear hcz hF hLz hVz hdis hPWz hPPz hBz hzz huz hgz hoL hoV hloL hhiL hloV hhiV
      go_wp2_with fail
      go_meet
      case rel => exact HR.out
  case rest =>
    obtain ⟨wo, rfl⟩ : ∃ wo, wo = wc := ⟨_, rfl⟩
    obtain ⟨p, nu1, ep1, up1, st1, le1, ta1, co1, lf1, ss1, x1, si1, q1, aw, cw, vw, rfl, hX, hF, hoL, hoV, hdis, hpb, hPW, hPP, hBwo, hzc⟩ := hcut
    obtain ⟨va, vc, rfl⟩ := hoV.slc
    obtain ⟨hn8, hsz⟩ := hF.small
    dsimp only at hn8 hsz
    have HF := hid hF
    have HSZ := hid hsz
    obtain ⟨bs, os, hSs, hbs⟩ := hoL.strsB hsz
    have ST := hid hSs
    have hbs1 := hid (fun h0 : 0 < ss1.length => hSs.lt h0)
    have OV := hid hoV
    have hhV := hid hoV.row_hi
    have PW := hid hPW
    have PP := hid hPP
    have MW := hid hX
    have hxl := hid hX.lt
    have hpl := hid hPP.lt
    clear hX hF hoL hoV hdis hPW hPP hSs hbs hsz hpb hzc
    have c0 : wo.cell? ⟨w.heap.size, 0, none⟩ = some (.int .i64 nu) := (PW.out 0 (by simp)).1
    have c1 : wo.cell? ⟨w.heap.size, 1, none⟩ = some (.int .i64 ep) := (PW.out 1 (by simp)).1
    have c2 : wo.cell? ⟨w.heap.size, 2, none⟩ = some (.bool up) := (PW.out 2 (by simp)).1
    have c3 : wo.cell? ⟨w.heap.size, 3, none⟩ = some (.int .i64 st) := (PW.out 3 (by simp)).1
    have c4 : wo.cell? ⟨w.heap.size, 4, none⟩ = some (.int .i64 le) := (PW.out 4 (by simp)).1
    have c5 : wo.cell? ⟨w.heap.size, 5, none⟩ = some (.int .i64 ta) := (PW.out 5 (by simp)).1
    have c6 : wo.cell? ⟨w.heap.size, 6, none⟩ = some (.int .i64 co) := (PW.out 6 (by simp)).1
    have c7 : wo.cell? ⟨w.heap.size, 7, none⟩ = some (.int .i64 lf) := (PW.out 7 (by simp)).1
    have c8 : wo.cell? ⟨w.heap.size, 8, none⟩ = some (.slice a n c) := (PW.out 8 (by simp)).1
    have c9 : wo.cell? ⟨w.heap.size, 9, none⟩ = some (.string x) := (PW.out 9 (by simp)).1
    have c10 : wo.cell? ⟨w.heap.size, 10, none⟩ = some (.int .i64 si) := (PW.out 10 (by simp)).1
    go_wp2_with fail
    refine (toWorker_any nu ep up st le ta co lf x si a b o n c ss _ (h.below' hBwo) hnn).mono ?_
    rintro e' w4 ⟨⟨g4, rfl, ho4⟩, hb4⟩
    have hg4 := hid ho4.lo
    have hg4' := hid ho4.hi
    have OX := hid (show Own _ w4 1 (.slice (some ⟨g4, 0, none⟩) n n) n (ss.map Value.string) from .inr ⟨g4, 0, n, rfl, ho4⟩)
    have h4s := hid (StrsAt.ofOwn ho4 h.sz)
    clear ho4
    clear c0 c1 c2 c3 c4 c5 c6 c7 c8 c9 c10
    have hBw4 := hBwo.trans (hb4.mono hBwo.size)
    have zw4 := hid (hb4.size)
    have PW_w4 := hid (PW.out.belowS hb4)
    clear PW
    have PP_w4 := hid (PP.out.belowS hb4)
    clear PP
    have MW_w4 := hid (MW.out.belowS hb4)
    clear MW
    have ST_w4 := hid (ST.out.below' hb4)
    clear ST
    have OV_w4 := hid (OV.out.below hb4 (Nat.le_refl _))
    clear OV
    clear hb4 hBwo
    obtain ⟨W4, hW4⟩ : ∃ W4, W4 = w4.alloc (.cells #[.int .i64 nu, .int .i64 ep, .bool up, .int .i64 st, .int .i64 le, .int .i64 ta, .int .i64 co, .int .i64 lf, .slice (some ⟨g4, 0, none⟩) n n, .string x, .int .i64 si] 27) := ⟨_, rfl⟩
    have hbaW4 : Below w4.heap.size w4 W4 := by rw [hW4]; exact (Below.refl _ _).alloc (Nat.le_refl _) _
    have qW4 := hid (show W4.heap.size = w4.heap.size + 1 by rw [hW4]; simp)
    have MX := hid (show CF W4 w4.heap.size [.int .i64 nu, .int .i64 ep, .bool up, .int .i64 st, .int .i64 le, .int .i64 ta, .int .i64 co, .int .i64 lf, .slice (some ⟨g4, 0, none⟩) n n, .string x, .int .i64 si] by rw [hW4]; exact CF.made w4 #[.int .i64 nu, .int .i64 ep, .bool up, .int .i64 st, .int .i64 le, .int .i64 ta, .int .i64 co, .int .i64 lf, .slice (some ⟨g4, 0, none⟩) n n, .string x, .int .i64 si] 27)
    have HW4 := hid hW4
    clear hW4
    have hBW4 := hBw4.trans (hbaW4.mono hBw4.size)
    have zW4 := hid (hbaW4.size)
    have PW_W4 := hid (PW_w4.out.belowS hbaW4)
    clear PW_w4
    have PP_W4 := hid (PP_w4.out.belowS hbaW4)
    clear PP_w4
    have MW_W4 := hid (MW_w4.out.belowS hbaW4)
    clear MW_w4
    have ST_W4 := hid (ST_w4.out.below' hbaW4)
    clear ST_w4
    have OV_W4 := hid (OV_w4.out.below hbaW4 (Nat.le_refl _))
    clear OV_w4
    have OX_W4 := hid (OX.out.below hbaW4 (Nat.le_refl _))
    clear OX
    have h4s_W4 := hid (h4s.out.below' hbaW4)
    clear h4s
    clear hbaW4 hBw4
    go_upto_region 10 with fail
    rw [← HW4.out]
    clear HW4
    have c0 : W4.cell? ⟨w.heap.size + 1, 0, none⟩ = some (.slice pa pn pc) := (PP_W4.out 0 (by simp)).1
    go_wp2_with fail
    refine (toPlan_any pa pb po pn pc ts _ (hp.below' hBW4) hpn).mono ?_
    rintro e' w5 ⟨g5, xs5, rfl, ho5, hbu5, ht5, hb5⟩
    have hg5 := hid ho5.lo
    have hg5' := hid ho5.hi
    have h5t := hid ht5
    have SH := hid (hbu5.shape ho5 hp.len (by omega))
    clear ho5 hbu5 ht5
    clear c0
    have hBw5 := hBW4.trans (hb5.mono hBW4.size)
    have zw5 := hid (hb5.size)
    have PW_w5 := hid (PW_W4.out.belowS hb5)
    clear PW_W4
    have PP_w5 := hid (PP_W4.out.belowS hb5)
    clear PP_W4
    have MW_w5 := hid (MW_W4.out.belowS hb5)
    clear MW_W4
    have ST_w5 := hid (ST_W4.out.below' hb5)
    clear ST_W4
    have OV_w5 := hid (OV_W4.out.below hb5 (Nat.le_refl _))
    clear OV_W4
    have OX_w5 := hid (OX_W4.out.below hb5 (Nat.le_refl _))
    clear OX_W4
    have h4s_w5 := hid (h4s_W4.out.below' hb5)
    clear h4s_W4
    have MX_w5 := hid (MX.out.belowS hb5)
    clear MX
    clear hb5 hBW4
    obtain ⟨W5, hW5⟩ : ∃ W5, W5 = w5.alloc (.cells #[.slice (some ⟨g5, 0, none⟩) pn pn] 43) := ⟨_, rfl⟩
    have hbaW5 : Below w5.heap.size w5 W5 := by rw [hW5]; exact (Below.refl _ _).alloc (Nat.le_refl _) _
    have qW5 := hid (show W5.heap.size = w5.heap.size + 1 by rw [hW5]; simp)
    have MP := hid (show CF W5 w5.heap.size [.slice (some ⟨g5, 0, none⟩) pn pn] by rw [hW5]; exact CF.made w5 #[.slice (some ⟨g5, 0, none⟩) pn pn] 43)
    have HW5 := hid hW5
    clear hW5
    have hBW5 := hBw5.trans (hbaW5.mono hBw5.size)
    have zW5 := hid (hbaW5.size)
    have PW_W5 := hid (PW_w5.out.belowS hbaW5)
    clear PW_w5
    have PP_W5 := hid (PP_w5.out.belowS hbaW5)
    clear PP_w5
    have MW_W5 := hid (MW_w5.out.belowS hbaW5)
    clear MW_w5
    have ST_W5 := hid (ST_w5.out.below' hbaW5)
    clear ST_w5
    have OV_W5 := hid (OV_w5.out.below hbaW5 (Nat.le_refl _))
    clear OV_w5
    have OX_W5 := hid (OX_w5.out.below hbaW5 (Nat.le_refl _))
    clear OX_w5
    have h4s_W5 := hid (h4s_w5.out.below' hbaW5)
    clear h4s_w5
    have MX_W5 := hid (MX_w5.out.belowS hbaW5)
    clear MX_w5
    have h5t_W5 := hid (h5t.out.below' hbaW5)
    clear h5t
    have SH_W5 := hid (SH.out.below hbaW5)
    clear SH
    clear hbaW5 hBw5
    go_upto_region 11 with fail
    rw [← HW5.out]
    clear HW5
    have kq0 : W5.cell? ⟨w4.heap.size, 0, none⟩ = some (.int .i64 nu) := (MX_W5.out 0 (by simp)).1
    have kq1 : W5.cell? ⟨w4.heap.size, 1, none⟩ = some (.int .i64 ep) := (MX_W5.out 1 (by simp)).1
    have kq2 : W5.cell? ⟨w4.heap.size, 2, none⟩ = some (.bool up) := (MX_W5.out 2 (by simp)).1
    have kq3 : W5.cell? ⟨w4.heap.size, 3, none⟩ = some (.int .i64 st) := (MX_W5.out 3 (by simp)).1
    have kq4 : W5.cell? ⟨w4.heap.size, 4, none⟩ = some (.int .i64 le) := (MX_W5.out 4 (by simp)).1
    have kq5 : W5.cell? ⟨w4.heap.size, 5, none⟩ = some (.int .i64 ta) := (MX_W5.out 5 (by simp)).1
    have kq6 : W5.cell? ⟨w4.heap.size, 6, none⟩ = some (.int .i64 co) := (MX_W5.out 6 (by simp)).1
    have kq7 : W5.cell? ⟨w4.heap.size, 7, none⟩ = some (.int .i64 lf) := (MX_W5.out 7 (by simp)).1
    have kq8 : W5.cell? ⟨w4.heap.size, 8, none⟩ = some (.slice (some ⟨g4, 0, none⟩) n n) := (MX_W5.out 8 (by simp)).1
    have kq9 : W5.cell? ⟨w4.heap.size, 9, none⟩ = some (.string x) := (MX_W5.out 9 (by simp)).1
    have kq10 : W5.cell? ⟨w4.heap.size, 10, none⟩ = some (.int .i64 si) := (MX_W5.out 10 (by simp)).1
    have c0 : W5.cell? ⟨w5.heap.size, 0, none⟩ = some (.slice (some ⟨g5, 0, none⟩) pn pn) := (MP.out 0 (by simp)).1
    go_wp2_with fail
    refine (iTick_any nu ep up st le ta co lf _ g4 0 n n ss x si _ g5 0 pn pn ts _ h4s_W5.out h5t_W5.out).mono ?_
    rintro e' w6 ⟨⟨⟨nu2, ep2, up2, st2, le2, ta2, co2, lf2, ss2, x2, si2⟩, q2, ai, ci, vi, he, hoi, hov, hdi, hF2⟩, hb6⟩
    have hu := HF.out.uniq hF2
    simp only [Prod.mk.injEq, WD.mk.injEq] at hu
    obtain ⟨⟨rfl, rfl, rfl, rfl, rfl, rfl, rfl, rfl, rfl, rfl, rfl⟩, rfl⟩ := hu
    subst he
    obtain ⟨vai, vci, rfl⟩ := hov.slc
    dsimp only at hoi hdi
    have hloi := hid hoi.row_lo
    have hhii := hid hoi.row_hi
    have hlov := hid hov.row_lo
    have hhiv := hid hov.row_hi
    have HDI := hid hdi
    have OG := hid hoi
    have OH := hid hov
    clear hoi hov hdi hF2
    clear kq0 kq1 kq2 kq3 kq4 kq5 kq6 kq7 kq8 kq9 kq10
    clear c0
    have hBw6 := hBW5.trans (hb6.mono hBW5.size)
    have zw6 := hid (hb6.size)
    have PW_w6 := hid (PW_W5.out.belowS hb6)
    clear PW_W5
    have PP_w6 := hid (PP_W5.out.belowS hb6)
    clear PP_W5
    have MW_w6 := hid (MW_W5.out.belowS hb6)
    clear MW_W5
    have ST_w6 := hid (ST_W5.out.below' hb6)
    clear ST_W5
    have OV_w6 := hid (OV_W5.out.below hb6 (Nat.le_refl _))
    clear OV_W5
    have OX_w6 := hid (OX_W5.out.below hb6 (Nat.le_refl _))
    clear OX_W5
    have h4s_w6 := hid (h4s_W5.out.below' hb6)
    clear h4s_W5
    have MX_w6 := hid (MX_W5.out.belowS hb6)
    clear MX_W5
    have h5t_w6 := hid (h5t_W5.out.below' hb6)
    clear h5t_W5
    have SH_w6 := hid (SH_W5.out.below hb6)
    clear SH_W5
    have MP_w6 := hid (MP.out.belowS hb6)
    clear MP
    clear hb6 hBW5
    obtain ⟨W6, hW6⟩ : ∃ W6, W6 = w6.alloc (.cells #[.int .i64 nu1, .int .i64 ep1, .bool up1, .int .i64 st1, .int .i64 le1, .int .i64 ta1, .int .i64 co1, .int .i64 lf1, .slice ai ss1.length ci, .string x1, .int .i64 si1, .slice vai (outN q1) vci] 39) := ⟨_, rfl⟩
    have hbaW6 : Below w6.heap.size w6 W6 := by rw [hW6]; exact (Below.refl _ _).alloc (Nat.le_refl _) _
    have qW6 := hid (show W6.heap.size = w6.heap.size + 1 by rw [hW6]; simp)
    have MG := hid (show CF W6 w6.heap.size [.int .i64 nu1, .int .i64 ep1, .bool up1, .int .i64 st1, .int .i64 le1, .int .i64 ta1, .int .i64 co1, .int .i64 lf1, .slice ai ss1.length ci, .string x1, .int .i64 si1, .slice vai (outN q1) vci] by rw [hW6]; exact CF.made w6 #[.int .i64 nu1, .int .i64 ep1, .bool up1, .int .i64 st1, .int .i64 le1, .int .i64 ta1, .int .i64 co1, .int .i64 lf1, .slice ai ss1.length ci, .string x1, .int .i64 si1, .slice vai (outN q1) vci] 39)
    have HW6 := hid hW6
    clear hW6
    have hBW6 := hBw6.trans (hbaW6.mono hBw6.size)
    have zW6 := hid (hbaW6.size)
    have PW_W6 := hid (PW_w6.out.belowS hbaW6)
    clear PW_w6
    have PP_W6 := hid (PP_w6.out.belowS hbaW6)
    clear PP_w6
    have MW_W6 := hid (MW_w6.out.belowS hbaW6)
    clear MW_w6
    have ST_W6 := hid (ST_w6.out.below' hbaW6)
    clear ST_w6
    have OV_W6 := hid (OV_w6.out.below hbaW6 (Nat.le_refl _))
    clear OV_w6
    have OX_W6 := hid (OX_w6.out.below hbaW6 (Nat.le_refl _))
    clear OX_w6
    have h4s_W6 := hid (h4s_w6.out.below' hbaW6)
    clear h4s_w6
    have MX_W6 := hid (MX_w6.out.belowS hbaW6)
    clear MX_w6
    have h5t_W6 := hid (h5t_w6.out.below' hbaW6)
    clear h5t_w6
    have SH_W6 := hid (SH_w6.out.below hbaW6)
    clear SH_w6
    have MP_W6 := hid (MP_w6.out.belowS hbaW6)
    clear MP_w6
    have OG_W6 := hid (OG.out.below hbaW6 (Nat.le_refl _))
    clear OG
    have OH_W6 := hid (OH.out.below hbaW6 (Nat.le_refl _))
    clear OH
    clear hbaW6 hBw6
    go_upto_region 12 with fail
    rw [← HW6.out]
    clear HW6
    have c0 : W6.cell? ⟨w6.heap.size, 0, none⟩ = some (.int .i64 nu1) := (MG.out 0 (by simp)).1
    have c1 : W6.cell? ⟨w6.heap.size, 1, none⟩ = some (.int .i64 ep1) := (MG.out 1 (by simp)).1
    have c2 : W6.cell? ⟨w6.heap.size, 2, none⟩ = some (.bool up1) := (MG.out 2 (by simp)).1
    have c3 : W6.cell? ⟨w6.heap.size, 3, none⟩ = some (.int .i64 st1) := (MG.out 3 (by simp)).1
    have c4 : W6.cell? ⟨w6.heap.size, 4, none⟩ = some (.int .i64 le1) := (MG.out 4 (by simp)).1
    have c5 : W6.cell? ⟨w6.heap.size, 5, none⟩ = some (.int .i64 ta1) := (MG.out 5 (by simp)).1
    have c6 : W6.cell? ⟨w6.heap.size, 6, none⟩ = some (.int .i64 co1) := (MG.out 6 (by simp)).1
    have c7 : W6.cell? ⟨w6.heap.size, 7, none⟩ = some (.int .i64 lf1) := (MG.out 7 (by simp)).1
    have c8 : W6.cell? ⟨w6.heap.size, 8, none⟩ = some (.slice ai ss1.length ci) := (MG.out 8 (by simp)).1
    have c9 : W6.cell? ⟨w6.heap.size, 9, none⟩ = some (.string x1) := (MG.out 9 (by simp)).1
    have c10 : W6.cell? ⟨w6.heap.size, 10, none⟩ = some (.int .i64 si1) := (MG.out 10 (by simp)).1
    have c11 : W6.cell? ⟨w6.heap.size, 11, none⟩ = some (.slice vai (outN q1) vci) := (MG.out 11 (by simp)).1
    have kq0 : W6.cell? ⟨p, 0, none⟩ = some (.int .i64 nu1) := (MW_W6.out 0 (by simp)).1
    have kq1 : W6.cell? ⟨p, 1, none⟩ = some (.int .i64 ep1) := (MW_W6.out 1 (by simp)).1
    have kq2 : W6.cell? ⟨p, 2, none⟩ = some (.bool up1) := (MW_W6.out 2 (by simp)).1
    have kq3 : W6.cell? ⟨p, 3, none⟩ = some (.int .i64 st1) := (MW_W6.out 3 (by simp)).1
    have kq4 : W6.cell? ⟨p, 4, none⟩ = some (.int .i64 le1) := (MW_W6.out 4 (by simp)).1
    have kq5 : W6.cell? ⟨p, 5, none⟩ = some (.int .i64 ta1) := (MW_W6.out 5 (by simp)).1
    have kq6 : W6.cell? ⟨p, 6, none⟩ = some (.int .i64 co1) := (MW_W6.out 6 (by simp)).1
    have kq7 : W6.cell? ⟨p, 7, none⟩ = some (.int .i64 lf1) := (MW_W6.out 7 (by simp)).1
    have kq8 : W6.cell? ⟨p, 8, none⟩ = some (.slice aw ss1.length cw) := (MW_W6.out 8 (by simp)).1
    have kq9 : W6.cell? ⟨p, 9, none⟩ = some (.string x1) := (MW_W6.out 9 (by simp)).1
    have kq10 : W6.cell? ⟨p, 10, none⟩ = some (.int .i64 si1) := (MW_W6.out 10 (by simp)).1
    have kq11 : W6.cell? ⟨p, 11, none⟩ = some (.slice va (outN q1) vc) := (MW_W6.out 11 (by simp)).1
    obtain ⟨bi, oi, hSi, hbi⟩ := OG_W6.out.strsB HSZ.out
    go_wp2_with fail
    refine (eqActed_any nu1 ep1 up1 st1 le1 ta1 co1 lf1 x1 si1 ai aw bi oi ss1.length ci bs os cw ss1 q1 _ _ _ _ _ hSi ST_W6.out OH_W6.out OV_W6.out).mono ?_
    rintro e' w7 ⟨rfl, hb⟩
    clear hSi hbi bi oi
    clear c0 c1 c2 c3 c4 c5 c6 c7 c8 c9 c10 c11
    clear kq0 kq1 kq2 kq3 kq4 kq5 kq6 kq7 kq8 kq9 kq10 kq11
    have hBw7 := hBW6.trans (hb.mono hBW6.size)
    have zw7 := hid (hb.size)
    have PW_w7 := hid (PW_W6.out.belowS hb)
    clear PW_W6
    have PP_w7 := hid (PP_W6.out.belowS hb)
    clear PP_W6
    have MW_w7 := hid (MW_W6.out.belowS hb)
    clear MW_W6
    have ST_w7 := hid (ST_W6.out.below' hb)
    clear ST_W6
    have OV_w7 := hid (OV_W6.out.below hb (Nat.le_refl _))
    clear OV_W6
    have OX_w7 := hid (OX_W6.out.below hb (Nat.le_refl _))
    clear OX_W6
    have h4s_w7 := hid (h4s_W6.out.below' hb)
    clear h4s_W6
    have MX_w7 := hid (MX_W6.out.belowS hb)
    clear MX_W6
    have h5t_w7 := hid (h5t_W6.out.below' hb)
    clear h5t_W6
    have SH_w7 := hid (SH_W6.out.below hb)
    clear SH_W6
    have MP_w7 := hid (MP_W6.out.belowS hb)
    clear MP_W6
    have OG_w7 := hid (OG_W6.out.below hb (Nat.le_refl _))
    clear OG_W6
    have OH_w7 := hid (OH_W6.out.below hb (Nat.le_refl _))
    clear OH_W6
    have MG_w7 := hid (MG.out.belowS hb)
    clear MG
    clear hb hBW6
    have c0 : w7.cell? ⟨w.heap.size, 0, none⟩ = some (.int .i64 nu) := (PW_w7.out 0 (by simp)).1
    have c1 : w7.cell? ⟨w.heap.size, 1, none⟩ = some (.int .i64 ep) := (PW_w7.out 1 (by simp)).1
    have c2 : w7.cell? ⟨w.heap.size, 2, none⟩ = some (.bool up) := (PW_w7.out 2 (by simp)).1
    have c3 : w7.cell? ⟨w.heap.size, 3, none⟩ = some (.int .i64 st) := (PW_w7.out 3 (by simp)).1
    have c4 : w7.cell? ⟨w.heap.size, 4, none⟩ = some (.int .i64 le) := (PW_w7.out 4 (by simp)).1
    have c5 : w7.cell? ⟨w.heap.size, 5, none⟩ = some (.int .i64 ta) := (PW_w7.out 5 (by simp)).1
    have c6 : w7.cell? ⟨w.heap.size, 6, none⟩ = some (.int .i64 co) := (PW_w7.out 6 (by simp)).1
    have c7 : w7.cell? ⟨w.heap.size, 7, none⟩ = some (.int .i64 lf) := (PW_w7.out 7 (by simp)).1
    have c8 : w7.cell? ⟨w.heap.size, 8, none⟩ = some (.slice a n c) := (PW_w7.out 8 (by simp)).1
    have c9 : w7.cell? ⟨w.heap.size, 9, none⟩ = some (.string x) := (PW_w7.out 9 (by simp)).1
    have c10 : w7.cell? ⟨w.heap.size, 10, none⟩ = some (.int .i64 si) := (PW_w7.out 10 (by simp)).1
    have kq0 : w7.cell? ⟨w4.heap.size, 0, none⟩ = some (.int .i64 nu) := (MX_w7.out 0 (by simp)).1
    have kq1 : w7.cell? ⟨w4.heap.size, 1, none⟩ = some (.int .i64 ep) := (MX_w7.out 1 (by simp)).1
    have kq2 : w7.cell? ⟨w4.heap.size, 2, none⟩ = some (.bool up) := (MX_w7.out 2 (by simp)).1
    have kq3 : w7.cell? ⟨w4.heap.size, 3, none⟩ = some (.int .i64 st) := (MX_w7.out 3 (by simp)).1
    have kq4 : w7.cell? ⟨w4.heap.size, 4, none⟩ = some (.int .i64 le) := (MX_w7.out 4 (by simp)).1
    have kq5 : w7.cell? ⟨w4.heap.size, 5, none⟩ = some (.int .i64 ta) := (MX_w7.out 5 (by simp)).1
    have kq6 : w7.cell? ⟨w4.heap.size, 6, none⟩ = some (.int .i64 co) := (MX_w7.out 6 (by simp)).1
    have kq7 : w7.cell? ⟨w4.heap.size, 7, none⟩ = some (.int .i64 lf) := (MX_w7.out 7 (by simp)).1
    have kq8 : w7.cell? ⟨w4.heap.size, 8, none⟩ = some (.slice (some ⟨g4, 0, none⟩) n n) := (MX_w7.out 8 (by simp)).1
    have kq9 : w7.cell? ⟨w4.heap.size, 9, none⟩ = some (.string x) := (MX_w7.out 9 (by simp)).1
    have kq10 : w7.cell? ⟨w4.heap.size, 10, none⟩ = some (.int .i64 si) := (MX_w7.out 10 (by simp)).1
    go_wp2
    have hBd := hBw7.drew
    have hd6 := h.below' hBd
    have hdp6 := hp.below' hBd
    have PWd := hid (show CF w7.drew (w.heap.size) [.int .i64 nu, .int .i64 ep, .bool up, .int .i64 st, .int .i64 le, .int .i64 ta, .int .i64 co, .int .i64 lf, .slice a n c, .string x, .int .i64 si] from PW_w7.out)
    clear PW_w7
    have PPd := hid (show CF w7.drew (w.heap.size + 1) [.slice pa pn pc] from PP_w7.out)
    clear PP_w7
    have MWd := hid (show CF w7.drew (p) [.int .i64 nu1, .int .i64 ep1, .bool up1, .int .i64 st1, .int .i64 le1, .int .i64 ta1, .int .i64 co1, .int .i64 lf1, .slice aw ss1.length cw, .string x1, .int .i64 si1, .slice va (outN q1) vc] from MW_w7.out)
    clear MW_w7
    have STd := hid (ST_w7.out.drew)
    clear ST_w7
    have OVd := hid (OV_w7.out.drewW)
    clear OV_w7
    have OXd := hid (OX_w7.out.drewW)
    clear OX_w7
    have h4sd := hid (h4s_w7.out.drew)
    clear h4s_w7
    have MXd := hid (show CF w7.drew (w4.heap.size) [.int .i64 nu, .int .i64 ep, .bool up, .int .i64 st, .int .i64 le, .int .i64 ta, .int .i64 co, .int .i64 lf, .slice (some ⟨g4, 0, none⟩) n n, .string x, .int .i64 si] from MX_w7.out)
    clear MX_w7
    have h5td := hid (h5t_w7.out.below' (Below.refl _ _).drew)
    clear h5t_w7
    have SHd := hid (SH_w7.out.below (Below.refl _ _).drew)
    clear SH_w7
    have MPd := hid (show CF w7.drew (w5.heap.size) [.slice (some ⟨g5, 0, none⟩) pn pn] from MP_w7.out)
    clear MP_w7
    have OGd := hid (OG_w7.out.drewW)
    clear OG_w7
    have OHd := hid (OH_w7.out.drewW)
    clear OH_w7
    have MGd := hid (show CF w7.drew (w6.heap.size) [.int .i64 nu1, .int .i64 ep1, .bool up1, .int .i64 st1, .int .i64 le1, .int .i64 ta1, .int .i64 co1, .int .i64 lf1, .slice ai ss1.length ci, .string x1, .int .i64 si1, .slice vai (outN q1) vci] from MG_w7.out)
    clear MG_w7
    go_region_held3 (fun w' => w'.cell? ⟨w.heap.size, 0, none⟩ = some (.int .i64 nu) ∧ w'.cell? ⟨w.heap.size, 1, none⟩ = some (.int .i64 ep) ∧ w'.cell? ⟨w.heap.size, 2, none⟩ = some (.bool up) ∧ w'.cell? ⟨w.heap.size, 3, none⟩ = some (.int .i64 st) ∧ w'.cell? ⟨w.heap.size, 4, none⟩ = some (.int .i64 le) ∧ w'.cell? ⟨w.heap.size, 5, none⟩ = some (.int .i64 ta) ∧ w'.cell? ⟨w.heap.size, 6, none⟩ = some (.int .i64 co) ∧ w'.cell? ⟨w.heap.size, 7, none⟩ = some (.int .i64 lf) ∧ w'.cell? ⟨w.heap.size, 8, none⟩ = some (.slice a n c) ∧ w'.cell? ⟨w.heap.size, 9, none⟩ = some (.string x) ∧ w'.cell? ⟨w.heap.size, 10, none⟩ = some (.int .i64 si) ∧ w'.cell? ⟨w4.heap.size, 0, none⟩ = some (.int .i64 nu) ∧ w'.cell? ⟨w4.heap.size, 1, none⟩ = some (.int .i64 ep) ∧ w'.cell? ⟨w4.heap.size, 2, none⟩ = some (.bool up) ∧ w'.cell? ⟨w4.heap.size, 3, none⟩ = some (.int .i64 st) ∧ w'.cell? ⟨w4.heap.size, 4, none⟩ = some (.int .i64 le) ∧ w'.cell? ⟨w4.heap.size, 5, none⟩ = some (.int .i64 ta) ∧ w'.cell? ⟨w4.heap.size, 6, none⟩ = some (.int .i64 co) ∧ w'.cell? ⟨w4.heap.size, 7, none⟩ = some (.int .i64 lf) ∧ w'.cell? ⟨w4.heap.size, 8, none⟩ = some (.slice (some ⟨g4, 0, none⟩) n n) ∧ w'.cell? ⟨w4.heap.size, 9, none⟩ = some (.string x) ∧ w'.cell? ⟨w4.heap.size, 10, none⟩ = some (.int .i64 si)) (first | (simp [go_sem, *]; done) | assumption)
      (first
        | (go_at_call 9; refine (toWorker_any nu ep up st le ta co lf x si a b o n c ss _ hd6 hnn).mono ?_; rintro e' w8 ⟨⟨g8, rfl, ho8⟩, hb7⟩; have h8s := StrsAt.ofOwn ho8 h.sz; have y0 := keepC hb7 c0; have y1 := keepC hb7 c1; have y2 := keepC hb7 c2; have y3 := keepC hb7 c3; have y4 := keepC hb7 c4; have y5 := keepC hb7 c5; have y6 := keepC hb7 c6; have y7 := keepC hb7 c7; have y8 := keepC hb7 c8; have y9 := keepC hb7 c9; have y10 := keepC hb7 c10; have t0 := keepC hb7 kq0; have t1 := keepC hb7 kq1; have t2 := keepC hb7 kq2; have t3 := keepC hb7 kq3; have t4 := keepC hb7 kq4; have t5 := keepC hb7 kq5; have t6 := keepC hb7 kq6; have t7 := keepC hb7 kq7; have t8 := keepC hb7 kq8; have t9 := keepC hb7 kq9; have t10 := keepC hb7 kq10; have hB7 := hBd.trans (hb7.mono hBd.size); have zw8 := hid (show w7.heap.size ≤ w8.heap.size from hb7.size); have PWe := hid (PWd.out.belowS hb7); have PPe := hid (PPd.out.belowS hb7); have MWe := hid (MWd.out.belowS hb7); have STe := hid (STd.out.below' hb7); have OVe := hid (OVd.out.below hb7 (Nat.le_refl _)); have OXe := hid (OXd.out.below hb7 (Nat.le_refl _)); have h4se := hid (h4sd.out.below' hb7); have MXe := hid (MXd.out.belowS hb7); have h5te := hid (h5td.out.below' hb7); have SHe := hid (SHd.out.below hb7); have MPe := hid (MPd.out.belowS hb7); have OGe := hid (OGd.out.below hb7 (Nat.le_refl _)); have OHe := hid (OHd.out.below hb7 (Nat.le_refl _)); have MGe := hid (MGd.out.belowS hb7))
        | (go_at_call 11; refine (eqWorker_any nu ep up st le ta co lf x si _ _ g4 0 n n g8 0 n ss _ h4se.out h8s).mono ?_; rintro e' w9 ⟨rfl, hb8⟩; have y0a := keepB hb8 y0; have y1a := keepB hb8 y1; have y2a := keepB hb8 y2; have y3a := keepB hb8 y3; have y4a := keepB hb8 y4; have y5a := keepB hb8 y5; have y6a := keepB hb8 y6; have y7a := keepB hb8 y7; have y8a := keepB hb8 y8; have y9a := keepB hb8 y9; have y10a := keepB hb8 y10; have t0a := keepB hb8 t0; have t1a := keepB hb8 t1; have t2a := keepB hb8 t2; have t3a := keepB hb8 t3; have t4a := keepB hb8 t4; have t5a := keepB hb8 t5; have t6a := keepB hb8 t6; have t7a := keepB hb8 t7; have t8a := keepB hb8 t8; have t9a := keepB hb8 t9; have t10a := keepB hb8 t10; have hBw9 := hB7.trans (hb8.mono hB7.size); have zw9 := hid hb8.size; have PWf := hid (PWe.out.belowS hb8); have PPf := hid (PPe.out.belowS hb8); have MWf := hid (MWe.out.belowS hb8); have STf := hid (STe.out.below' hb8); have OVf := hid (OVe.out.below hb8 (Nat.le_refl _)); have OXf := hid (OXe.out.below hb8 (Nat.le_refl _)); have h4sf := hid (h4se.out.below' hb8); have MXf := hid (MXe.out.belowS hb8); have h5tf := hid (h5te.out.below' hb8); have SHf := hid (SHe.out.below hb8); have MPf := hid (MPe.out.belowS hb8); have OGf := hid (OGe.out.below hb8 (Nat.le_refl _)); have OHf := hid (OHe.out.below hb8 (Nat.le_refl _)); have MGf := hid (MGe.out.belowS hb8)))
    clear c0 y0 y0a c1 y1 y1a c2 y2 y2a c3 y3 y3a c4 y4 y4a c5 y5 y5a c6 y6 y6a c7 y7 y7a c8 y8 y8a c9 y9 y9a c10 y10 y10a kq0 t0 t0a kq1 t1 t1a kq2 t2 t2a kq3 t3 t3a kq4 t4 t4a kq5 t5 t5a kq6 t6 t6a kq7 t7 t7a kq8 t8 t8a kq9 t9 t9a kq10 t10 t10a
    clear PWd PWe PPd PPe MWd MWe STd STe OVd OVe OXd OXe h4sd h4se MXd MXe h5td h5te SHd SHe MPd MPe OGd OGe OHd OHe MGd MGe hB7 hBd hd6 hdp6 hb7 hb8 hBw7 h8s ho8
    have PW_w9 := PWf
    clear PWf
    have PP_w9 := PPf
    clear PPf
    have MW_w9 := MWf
    clear MWf
    have ST_w9 := STf
    clear STf
    have OV_w9 := OVf
    clear OVf
    have OX_w9 := OXf
    clear OXf
    have h4s_w9 := h4sf
    clear h4sf
    have MX_w9 := MXf
    clear MXf
    have h5t_w9 := h5tf
    clear h5tf
    have SH_w9 := SHf
    clear SHf
    have MP_w9 := MPf
    clear MPf
    have OG_w9 := OGf
    clear OGf
    have OH_w9 := OHf
    clear OHf
    have MG_w9 := MGf
    clear MGf
    have c0 : w9.cell? ⟨w.heap.size + 1, 0, none⟩ = some (.slice pa pn pc) := (PP_w9.out 0 (by simp)).1
    have kq0 : w9.cell? ⟨w5.heap.size, 0, none⟩ = some (.slice (some ⟨g5, 0, none⟩) pn pn) := (MP_w9.out 0 (by simp)).1
    go_wp2
    have hBd := hBw9.drew
    have hd6 := h.below' hBd
    have hdp6 := hp.below' hBd
    have PWd := hid (show CF w9.drew (w.heap.size) [.int .i64 nu, .int .i64 ep, .bool up, .int .i64 st, .int .i64 le, .int .i64 ta, .int .i64 co, .int .i64 lf, .slice a n c, .string x, .int .i64 si] from PW_w9.out)
    clear PW_w9
    have PPd := hid (show CF w9.drew (w.heap.size + 1) [.slice pa pn pc] from PP_w9.out)
    clear PP_w9
    have MWd := hid (show CF w9.drew (p) [.int .i64 nu1, .int .i64 ep1, .bool up1, .int .i64 st1, .int .i64 le1, .int .i64 ta1, .int .i64 co1, .int .i64 lf1, .slice aw ss1.length cw, .string x1, .int .i64 si1, .slice va (outN q1) vc] from MW_w9.out)
    clear MW_w9
    have STd := hid (ST_w9.out.drew)
    clear ST_w9
    have OVd := hid (OV_w9.out.drewW)
    clear OV_w9
    have OXd := hid (OX_w9.out.drewW)
    clear OX_w9
    have h4sd := hid (h4s_w9.out.drew)
    clear h4s_w9
    have MXd := hid (show CF w9.drew (w4.heap.size) [.int .i64 nu, .int .i64 ep, .bool up, .int .i64 st, .int .i64 le, .int .i64 ta, .int .i64 co, .int .i64 lf, .slice (some ⟨g4, 0, none⟩) n n, .string x, .int .i64 si] from MX_w9.out)
    clear MX_w9
    have h5td := hid (h5t_w9.out.below' (Below.refl _ _).drew)
    clear h5t_w9
    have SHd := hid (SH_w9.out.below (Below.refl _ _).drew)
    clear SH_w9
    have MPd := hid (show CF w9.drew (w5.heap.size) [.slice (some ⟨g5, 0, none⟩) pn pn] from MP_w9.out)
    clear MP_w9
    have OGd := hid (OG_w9.out.drewW)
    clear OG_w9
    have OHd := hid (OH_w9.out.drewW)
    clear OH_w9
    have MGd := hid (show CF w9.drew (w6.heap.size) [.int .i64 nu1, .int .i64 ep1, .bool up1, .int .i64 st1, .int .i64 le1, .int .i64 ta1, .int .i64 co1, .int .i64 lf1, .slice ai ss1.length ci, .string x1, .int .i64 si1, .slice vai (outN q1) vci] from MG_w9.out)
    clear MG_w9
    go_region_held3 (fun w' => w'.cell? ⟨w.heap.size + 1, 0, none⟩ = some (.slice pa pn pc) ∧ w'.cell? ⟨w5.heap.size, 0, none⟩ = some (.slice (some ⟨g5, 0, none⟩) pn pn)) (first | (simp [go_sem, *]; done) | assumption)
      (first
        | (go_at_call 20; refine (toPlan_any pa pb po pn pc ts _ hdp6 hpn).mono ?_; rintro e' w10 ⟨g10, xs10, rfl, ho10, hbu10, ht10, hb7⟩; have y0 := keepC hb7 c0; have t0 := keepC hb7 kq0; have hB7 := hBd.trans (hb7.mono hBd.size); have zw10 := hid (show w9.heap.size ≤ w10.heap.size from hb7.size); have PWe := hid (PWd.out.belowS hb7); have PPe := hid (PPd.out.belowS hb7); have MWe := hid (MWd.out.belowS hb7); have STe := hid (STd.out.below' hb7); have OVe := hid (OVd.out.below hb7 (Nat.le_refl _)); have OXe := hid (OXd.out.below hb7 (Nat.le_refl _)); have h4se := hid (h4sd.out.below' hb7); have MXe := hid (MXd.out.belowS hb7); have h5te := hid (h5td.out.below' hb7); have SHe := hid (SHd.out.below hb7); have MPe := hid (MPd.out.belowS hb7); have OGe := hid (OGd.out.below hb7 (Nat.le_refl _)); have OHe := hid (OHd.out.below hb7 (Nat.le_refl _)); have MGe := hid (MGd.out.belowS hb7))
        | (go_at_call 23; refine (eqPlan_any _ _ g5 0 pn pn g10 0 pn ts _ h5te.out ht10).mono ?_; rintro e' w11 ⟨rfl, hb8⟩; have y0a := keepB hb8 y0; have t0a := keepB hb8 t0; have hBw11 := hB7.trans (hb8.mono hB7.size); have zw11 := hid hb8.size; have PWf := hid (PWe.out.belowS hb8); have PPf := hid (PPe.out.belowS hb8); have MWf := hid (MWe.out.belowS hb8); have STf := hid (STe.out.below' hb8); have OVf := hid (OVe.out.below hb8 (Nat.le_refl _)); have OXf := hid (OXe.out.below hb8 (Nat.le_refl _)); have h4sf := hid (h4se.out.below' hb8); have MXf := hid (MXe.out.belowS hb8); have h5tf := hid (h5te.out.below' hb8); have SHf := hid (SHe.out.below hb8); have MPf := hid (MPe.out.belowS hb8); have OGf := hid (OGe.out.below hb8 (Nat.le_refl _)); have OHf := hid (OHe.out.below hb8 (Nat.le_refl _)); have MGf := hid (MGe.out.belowS hb8)))
    clear c0 y0 y0a kq0 t0 t0a
    clear PWd PWe PPd PPe MWd MWe STd STe OVd OVe OXd OXe h4sd h4se MXd MXe h5td h5te SHd SHe MPd MPe OGd OGe OHd OHe MGd MGe hB7 hBd hd6 hdp6 hb7 hb8 hBw9 ho10 hbu10 ht10
    have PW_w11 := PWf
    clear PWf
    have PP_w11 := PPf
    clear PPf
    have MW_w11 := MWf
    clear MWf
    have ST_w11 := STf
    clear STf
    have OV_w11 := OVf
    clear OVf
    have OX_w11 := OXf
    clear OXf
    have h4s_w11 := h4sf
    clear h4sf
    have MX_w11 := MXf
    clear MXf
    have h5t_w11 := h5tf
    clear h5tf
    have SH_w11 := SHf
    clear SHf
    have MP_w11 := MPf
    clear MPf
    have OG_w11 := OGf
    clear OGf
    have OH_w11 := OHf
    clear OHf
    have MG_w11 := MGf
    clear MGf
    have kq0 : w11.cell? ⟨w4.heap.size, 0, none⟩ = some (.int .i64 nu) := (MX_w11.out 0 (by simp)).1
    have kq1 : w11.cell? ⟨w4.heap.size, 1, none⟩ = some (.int .i64 ep) := (MX_w11.out 1 (by simp)).1
    have kq2 : w11.cell? ⟨w4.heap.size, 2, none⟩ = some (.bool up) := (MX_w11.out 2 (by simp)).1
    have kq3 : w11.cell? ⟨w4.heap.size, 3, none⟩ = some (.int .i64 st) := (MX_w11.out 3 (by simp)).1
    have kq4 : w11.cell? ⟨w4.heap.size, 4, none⟩ = some (.int .i64 le) := (MX_w11.out 4 (by simp)).1
    have kq5 : w11.cell? ⟨w4.heap.size, 5, none⟩ = some (.int .i64 ta) := (MX_w11.out 5 (by simp)).1
    have kq6 : w11.cell? ⟨w4.heap.size, 6, none⟩ = some (.int .i64 co) := (MX_w11.out 6 (by simp)).1
    have kq7 : w11.cell? ⟨w4.heap.size, 7, none⟩ = some (.int .i64 lf) := (MX_w11.out 7 (by simp)).1
    have kq8 : w11.cell? ⟨w4.heap.size, 8, none⟩ = some (.slice (some ⟨g4, 0, none⟩) n n) := (MX_w11.out 8 (by simp)).1
    have kq9 : w11.cell? ⟨w4.heap.size, 9, none⟩ = some (.string x) := (MX_w11.out 9 (by simp)).1
    have kq10 : w11.cell? ⟨w4.heap.size, 10, none⟩ = some (.int .i64 si) := (MX_w11.out 10 (by simp)).1
    go_wp2_with fail
    refine (markWorker_own nu ep up st le ta co lf x si _ n n _ _ _ hnn OX_w11.out).mono ?_
    rintro e' w12 ⟨rfl, ho12, hg12⟩
    clear kq0 kq1 kq2 kq3 kq4 kq5 kq6 kq7 kq8 kq9 kq10
    clear OX_w11 h4s_w11 MX_w11 h5t_w11 ho12
    have hrow : (Value.slice (some ⟨g4, 0, none⟩) n n).ownBlock = some g4 := rfl
    rw [hrow] at hg12
    clear hrow
    have PW_w12 := hid (PW_w11.out.grownS hg12 (by simp only [ne_eq, Option.some.injEq]; have := hxl.out; have := hpl.out; have := hg4.out; have := hg4'.out; have := zw4.out; have := qW4.out; have := zW4.out; have := hg5.out; have := hg5'.out; have := zw5.out; have := qW5.out; have := zW5.out; have := zw6.out; have := qW6.out; have := zW6.out; have := zw7.out; have := zw8.out; have := zw9.out; have := zw10.out; have := zw11.out; omega))
    clear PW_w11
    have PP_w12 := hid (PP_w11.out.grownS hg12 (by simp only [ne_eq, Option.some.injEq]; have := hxl.out; have := hpl.out; have := hg4.out; have := hg4'.out; have := zw4.out; have := qW4.out; have := zW4.out; have := hg5.out; have := hg5'.out; have := zw5.out; have := qW5.out; have := zW5.out; have := zw6.out; have := qW6.out; have := zW6.out; have := zw7.out; have := zw8.out; have := zw9.out; have := zw10.out; have := zw11.out; omega))
    clear PP_w11
    have MW_w12 := hid (MW_w11.out.grownS hg12 (by simp only [ne_eq, Option.some.injEq]; have := hxl.out; have := hpl.out; have := hg4.out; have := hg4'.out; have := zw4.out; have := qW4.out; have := zW4.out; have := hg5.out; have := hg5'.out; have := zw5.out; have := qW5.out; have := zW5.out; have := zw6.out; have := qW6.out; have := zW6.out; have := zw7.out; have := zw8.out; have := zw9.out; have := zw10.out; have := zw11.out; omega))
    clear MW_w11
    have ST_w12 := hid (ST_w11.out.grownR hg12 (fun h0 => by have := hbs1.out h0; simp only [ne_eq, Option.some.injEq]; have := hxl.out; have := hpl.out; have := hg4.out; have := hg4'.out; have := zw4.out; have := qW4.out; have := zW4.out; have := hg5.out; have := hg5'.out; have := zw5.out; have := qW5.out; have := zW5.out; have := zw6.out; have := qW6.out; have := zW6.out; have := zw7.out; have := zw8.out; have := zw9.out; have := zw10.out; have := zw11.out; omega))
    clear ST_w11
    have OV_w12 := hid (OV_w11.out.grown hg12 (.inr (by intro hh; have := hhV.out _ hh; have := hxl.out; have := hpl.out; have := hg4.out; have := hg4'.out; have := zw4.out; have := qW4.out; have := zW4.out; have := hg5.out; have := hg5'.out; have := zw5.out; have := qW5.out; have := zW5.out; have := zw6.out; have := qW6.out; have := zW6.out; have := zw7.out; have := zw8.out; have := zw9.out; have := zw10.out; have := zw11.out; omega)))
    clear OV_w11
    have SH_w12 := hid (SH_w11.out.blocks hg5'.out (fun q h1 h2 => hg12.block q (by have := hxl.out; have := hpl.out; have := hg4.out; have := hg4'.out; have := zw4.out; have := qW4.out; have := zW4.out; have := hg5.out; have := hg5'.out; have := zw5.out; have := qW5.out; have := zW5.out; have := zw6.out; have := qW6.out; have := zW6.out; have := zw7.out; have := zw8.out; have := zw9.out; have := zw10.out; have := zw11.out; omega) (by simp only [ne_eq, Option.some.injEq]; have := hxl.out; have := hpl.out; have := hg4.out; have := hg4'.out; have := zw4.out; have := qW4.out; have := zW4.out; have := hg5.out; have := hg5'.out; have := zw5.out; have := qW5.out; have := zW5.out; have := zw6.out; have := qW6.out; have := zW6.out; have := zw7.out; have := zw8.out; have := zw9.out; have := zw10.out; have := zw11.out; omega)))
    clear SH_w11
    have MP_w12 := hid (MP_w11.out.grownS hg12 (by simp only [ne_eq, Option.some.injEq]; have := hxl.out; have := hpl.out; have := hg4.out; have := hg4'.out; have := zw4.out; have := qW4.out; have := zW4.out; have := hg5.out; have := hg5'.out; have := zw5.out; have := qW5.out; have := zW5.out; have := zw6.out; have := qW6.out; have := zW6.out; have := zw7.out; have := zw8.out; have := zw9.out; have := zw10.out; have := zw11.out; omega))
    clear MP_w11
    have OG_w12 := hid (OG_w11.out.grown hg12 (.inr (by intro hh; have := hloi.out _ hh; have := hxl.out; have := hpl.out; have := hg4.out; have := hg4'.out; have := zw4.out; have := qW4.out; have := zW4.out; have := hg5.out; have := hg5'.out; have := zw5.out; have := qW5.out; have := zW5.out; have := zw6.out; have := qW6.out; have := zW6.out; have := zw7.out; have := zw8.out; have := zw9.out; have := zw10.out; have := zw11.out; omega)))
    clear OG_w11
    have OH_w12 := hid (OH_w11.out.grown hg12 (.inr (by intro hh; have := hlov.out _ hh; have := hxl.out; have := hpl.out; have := hg4.out; have := hg4'.out; have := zw4.out; have := qW4.out; have := zW4.out; have := hg5.out; have := hg5'.out; have := zw5.out; have := qW5.out; have := zW5.out; have := zw6.out; have := qW6.out; have := zW6.out; have := zw7.out; have := zw8.out; have := zw9.out; have := zw10.out; have := zw11.out; omega)))
    clear OH_w11
    have MG_w12 := hid (MG_w11.out.grownS hg12 (by simp only [ne_eq, Option.some.injEq]; have := hxl.out; have := hpl.out; have := hg4.out; have := hg4'.out; have := zw4.out; have := qW4.out; have := zW4.out; have := hg5.out; have := hg5'.out; have := zw5.out; have := qW5.out; have := zW5.out; have := zw6.out; have := qW6.out; have := zW6.out; have := zw7.out; have := zw8.out; have := zw9.out; have := zw10.out; have := zw11.out; omega))
    clear MG_w11
    have zw12 := hid hg12.size
    have hBw12 := hBw11.grown hg12 hBw11.size (fun q hq => by simp only [Option.some.injEq] at hq; have := hxl.out; have := hpl.out; have := hg4.out; have := hg4'.out; have := zw4.out; have := qW4.out; have := zW4.out; have := hg5.out; have := hg5'.out; have := zw5.out; have := qW5.out; have := zW5.out; have := zw6.out; have := qW6.out; have := zW6.out; have := zw7.out; have := zw8.out; have := zw9.out; have := zw10.out; have := zw11.out; omega)
    clear hg12 hBw11
    have c0 : w12.cell? ⟨w5.heap.size, 0, none⟩ = some (.slice (some ⟨g5, 0, none⟩) pn pn) := (MP_w12.out 0 (by simp)).1
    go_wp2_with fail
    rw [show (1 + (n : Int)) = ((1 + n : Nat) : Int) by omega]
    refine (markPlan_any g5 w5.heap.size pn pn (1 + n) _ (by omega) (by omega) (by omega) hg5'.out SH_w12.out).mono ?_
    rintro e' w13 ⟨⟨rk, rfl, hrk⟩, hM⟩
    clear c0
    clear SH_w12 MP_w12
    have PW_w13 := hid (PW_w12.out.midS hM (by have := hxl.out; have := hpl.out; have := hg4.out; have := hg4'.out; have := zw4.out; have := qW4.out; have := zW4.out; have := hg5.out; have := hg5'.out; have := zw5.out; have := qW5.out; have := zW5.out; have := zw6.out; have := qW6.out; have := zW6.out; have := zw7.out; have := zw8.out; have := zw9.out; have := zw10.out; have := zw11.out; have := zw12.out; omega))
    clear PW_w12
    have PP_w13 := hid (PP_w12.out.midS hM (by have := hxl.out; have := hpl.out; have := hg4.out; have := hg4'.out; have := zw4.out; have := qW4.out; have := zW4.out; have := hg5.out; have := hg5'.out; have := zw5.out; have := qW5.out; have := zW5.out; have := zw6.out; have := qW6.out; have := zW6.out; have := zw7.out; have := zw8.out; have := zw9.out; have := zw10.out; have := zw11.out; have := zw12.out; omega))
    clear PP_w12
    have MW_w13 := hid (MW_w12.out.midS hM (by have := hxl.out; have := hpl.out; have := hg4.out; have := hg4'.out; have := zw4.out; have := qW4.out; have := zW4.out; have := hg5.out; have := hg5'.out; have := zw5.out; have := qW5.out; have := zW5.out; have := zw6.out; have := qW6.out; have := zW6.out; have := zw7.out; have := zw8.out; have := zw9.out; have := zw10.out; have := zw11.out; have := zw12.out; omega))
    clear MW_w12
    have ST_w13 := hid (ST_w12.out.mid hM (fun h0 => .inl (by have := hbs1.out h0; have := hxl.out; have := hpl.out; have := hg4.out; have := hg4'.out; have := zw4.out; have := qW4.out; have := zW4.out; have := hg5.out; have := hg5'.out; have := zw5.out; have := qW5.out; have := zW5.out; have := zw6.out; have := qW6.out; have := zW6.out; have := zw7.out; have := zw8.out; have := zw9.out; have := zw10.out; have := zw11.out; have := zw12.out; omega)))
    clear ST_w12
    have OV_w13 := hid (OV_w12.out.midR hM (fun q hq => by have := hhV.out _ hq; have := hxl.out; have := hpl.out; have := hg4.out; have := hg4'.out; have := zw4.out; have := qW4.out; have := zW4.out; have := hg5.out; have := hg5'.out; have := zw5.out; have := qW5.out; have := zW5.out; have := zw6.out; have := qW6.out; have := zW6.out; have := zw7.out; have := zw8.out; have := zw9.out; have := zw10.out; have := zw11.out; have := zw12.out; omega))
    clear OV_w12
    have OG_w13 := hid (OG_w12.out.midR hM (fun q hq => by have := hloi.out _ hq; have := hxl.out; have := hpl.out; have := hg4.out; have := hg4'.out; have := zw4.out; have := qW4.out; have := zW4.out; have := hg5.out; have := hg5'.out; have := zw5.out; have := qW5.out; have := zW5.out; have := zw6.out; have := qW6.out; have := zW6.out; have := zw7.out; have := zw8.out; have := zw9.out; have := zw10.out; have := zw11.out; have := zw12.out; omega))
    clear OG_w12
    have OH_w13 := hid (OH_w12.out.midR hM (fun q hq => by have := hlov.out _ hq; have := hxl.out; have := hpl.out; have := hg4.out; have := hg4'.out; have := zw4.out; have := qW4.out; have := zW4.out; have := hg5.out; have := hg5'.out; have := zw5.out; have := qW5.out; have := zW5.out; have := zw6.out; have := qW6.out; have := zW6.out; have := zw7.out; have := zw8.out; have := zw9.out; have := zw10.out; have := zw11.out; have := zw12.out; omega))
    clear OH_w12
    have MG_w13 := hid (MG_w12.out.midS hM (by have := hxl.out; have := hpl.out; have := hg4.out; have := hg4'.out; have := zw4.out; have := qW4.out; have := zW4.out; have := hg5.out; have := hg5'.out; have := zw5.out; have := qW5.out; have := zW5.out; have := zw6.out; have := qW6.out; have := zW6.out; have := zw7.out; have := zw8.out; have := zw9.out; have := zw10.out; have := zw11.out; have := zw12.out; omega))
    clear MG_w12
    have zw13 := hid hM.size
    have hBw13 := Mid.below hBw12 hM (by have := hxl.out; have := hpl.out; have := hg4.out; have := hg4'.out; have := zw4.out; have := qW4.out; have := zW4.out; have := hg5.out; have := hg5'.out; have := zw5.out; have := qW5.out; have := zW5.out; have := zw6.out; have := qW6.out; have := zW6.out; have := zw7.out; have := zw8.out; have := zw9.out; have := zw10.out; have := zw11.out; have := zw12.out; omega) hBw12.size
    clear hM hBw12
    have hrk' : ¬ rk < 0 := by omega
    clear hrk
    have c0 : w13.cell? ⟨w6.heap.size, 0, none⟩ = some (.int .i64 nu1) := (MG_w13.out 0 (by simp)).1
    have c1 : w13.cell? ⟨w6.heap.size, 1, none⟩ = some (.int .i64 ep1) := (MG_w13.out 1 (by simp)).1
    have c2 : w13.cell? ⟨w6.heap.size, 2, none⟩ = some (.bool up1) := (MG_w13.out 2 (by simp)).1
    have c3 : w13.cell? ⟨w6.heap.size, 3, none⟩ = some (.int .i64 st1) := (MG_w13.out 3 (by simp)).1
    have c4 : w13.cell? ⟨w6.heap.size, 4, none⟩ = some (.int .i64 le1) := (MG_w13.out 4 (by simp)).1
    have c5 : w13.cell? ⟨w6.heap.size, 5, none⟩ = some (.int .i64 ta1) := (MG_w13.out 5 (by simp)).1
    have c6 : w13.cell? ⟨w6.heap.size, 6, none⟩ = some (.int .i64 co1) := (MG_w13.out 6 (by simp)).1
    have c7 : w13.cell? ⟨w6.heap.size, 7, none⟩ = some (.int .i64 lf1) := (MG_w13.out 7 (by simp)).1
    have c8 : w13.cell? ⟨w6.heap.size, 8, none⟩ = some (.slice ai ss1.length ci) := (MG_w13.out 8 (by simp)).1
    have c9 : w13.cell? ⟨w6.heap.size, 9, none⟩ = some (.string x1) := (MG_w13.out 9 (by simp)).1
    have c10 : w13.cell? ⟨w6.heap.size, 10, none⟩ = some (.int .i64 si1) := (MG_w13.out 10 (by simp)).1
    have c11 : w13.cell? ⟨w6.heap.size, 11, none⟩ = some (.slice vai (outN q1) vci) := (MG_w13.out 11 (by simp)).1
    have kq0 : w13.cell? ⟨p, 0, none⟩ = some (.int .i64 nu1) := (MW_w13.out 0 (by simp)).1
    have kq1 : w13.cell? ⟨p, 1, none⟩ = some (.int .i64 ep1) := (MW_w13.out 1 (by simp)).1
    have kq2 : w13.cell? ⟨p, 2, none⟩ = some (.bool up1) := (MW_w13.out 2 (by simp)).1
    have kq3 : w13.cell? ⟨p, 3, none⟩ = some (.int .i64 st1) := (MW_w13.out 3 (by simp)).1
    have kq4 : w13.cell? ⟨p, 4, none⟩ = some (.int .i64 le1) := (MW_w13.out 4 (by simp)).1
    have kq5 : w13.cell? ⟨p, 5, none⟩ = some (.int .i64 ta1) := (MW_w13.out 5 (by simp)).1
    have kq6 : w13.cell? ⟨p, 6, none⟩ = some (.int .i64 co1) := (MW_w13.out 6 (by simp)).1
    have kq7 : w13.cell? ⟨p, 7, none⟩ = some (.int .i64 lf1) := (MW_w13.out 7 (by simp)).1
    have kq8 : w13.cell? ⟨p, 8, none⟩ = some (.slice aw ss1.length cw) := (MW_w13.out 8 (by simp)).1
    have kq9 : w13.cell? ⟨p, 9, none⟩ = some (.string x1) := (MW_w13.out 9 (by simp)).1
    have kq10 : w13.cell? ⟨p, 10, none⟩ = some (.int .i64 si1) := (MW_w13.out 10 (by simp)).1
    have kq11 : w13.cell? ⟨p, 11, none⟩ = some (.slice va (outN q1) vc) := (MW_w13.out 11 (by simp)).1
    obtain ⟨bi, oi, hSi, hbi⟩ := OG_w13.out.strsB HSZ.out
    go_wp2_with fail
    refine (eqActed_any nu1 ep1 up1 st1 le1 ta1 co1 lf1 x1 si1 ai aw bi oi ss1.length ci bs os cw ss1 q1 _ _ _ _ _ hSi ST_w13.out OH_w13.out OV_w13.out).mono ?_
    rintro e' w14 ⟨rfl, hb⟩
    clear hSi hbi bi oi
    clear c0 c1 c2 c3 c4 c5 c6 c7 c8 c9 c10 c11
    clear kq0 kq1 kq2 kq3 kq4 kq5 kq6 kq7 kq8 kq9 kq10 kq11
    have hBw14 := hBw13.trans (hb.mono hBw13.size)
    have zw14 := hid (hb.size)
    have PW_w14 := hid (PW_w13.out.belowS hb)
    clear PW_w13
    have PP_w14 := hid (PP_w13.out.belowS hb)
    clear PP_w13
    have MW_w14 := hid (MW_w13.out.belowS hb)
    clear MW_w13
    have ST_w14 := hid (ST_w13.out.below' hb)
    clear ST_w13
    have OV_w14 := hid (OV_w13.out.below hb (Nat.le_refl _))
    clear OV_w13
    have OG_w14 := hid (OG_w13.out.below hb (Nat.le_refl _))
    clear OG_w13
    have OH_w14 := hid (OH_w13.out.below hb (Nat.le_refl _))
    clear OH_w13
    have MG_w14 := hid (MG_w13.out.belowS hb)
    clear MG_w13
    clear hb hBw13
    have c0 : w14.cell? ⟨w6.heap.size, 0, none⟩ = some (.int .i64 nu1) := (MG_w14.out 0 (by simp)).1
    have c1 : w14.cell? ⟨w6.heap.size, 1, none⟩ = some (.int .i64 ep1) := (MG_w14.out 1 (by simp)).1
    have c2 : w14.cell? ⟨w6.heap.size, 2, none⟩ = some (.bool up1) := (MG_w14.out 2 (by simp)).1
    have c3 : w14.cell? ⟨w6.heap.size, 3, none⟩ = some (.int .i64 st1) := (MG_w14.out 3 (by simp)).1
    have c4 : w14.cell? ⟨w6.heap.size, 4, none⟩ = some (.int .i64 le1) := (MG_w14.out 4 (by simp)).1
    have c5 : w14.cell? ⟨w6.heap.size, 5, none⟩ = some (.int .i64 ta1) := (MG_w14.out 5 (by simp)).1
    have c6 : w14.cell? ⟨w6.heap.size, 6, none⟩ = some (.int .i64 co1) := (MG_w14.out 6 (by simp)).1
    have c7 : w14.cell? ⟨w6.heap.size, 7, none⟩ = some (.int .i64 lf1) := (MG_w14.out 7 (by simp)).1
    have c8 : w14.cell? ⟨w6.heap.size, 8, none⟩ = some (.slice ai ss1.length ci) := (MG_w14.out 8 (by simp)).1
    have c9 : w14.cell? ⟨w6.heap.size, 9, none⟩ = some (.string x1) := (MG_w14.out 9 (by simp)).1
    have c10 : w14.cell? ⟨w6.heap.size, 10, none⟩ = some (.int .i64 si1) := (MG_w14.out 10 (by simp)).1
    have c11 : w14.cell? ⟨w6.heap.size, 11, none⟩ = some (.slice vai (outN q1) vci) := (MG_w14.out 11 (by simp)).1
    go_wp2_with fail
    clear hrk'
    refine (markActed_any nu1 ep1 up1 st1 le1 ta1 co1 lf1 x1 si1 ai ss1.length ci _ q1 _ _ _ _ (by omega) OG_w14.out OH_w14.out HDI.out).mono ?_
    rintro e' w15 ⟨rfl, ho15, hm15, w15a, hga, hgb⟩
    clear c0 c1 c2 c3 c4 c5 c6 c7 c8 c9 c10 c11
    clear OG_w14 OH_w14
    have PW_w15 := hid ((PW_w14.out.grownS hga (fun hh => by have := hloi.out _ hh.symm; have := hhii.out _ hh.symm; have := hxl.out; have := hpl.out; have := hg4.out; have := hg4'.out; have := zw4.out; have := qW4.out; have := zW4.out; have := hg5.out; have := hg5'.out; have := zw5.out; have := qW5.out; have := zW5.out; have := zw6.out; have := qW6.out; have := zW6.out; have := zw7.out; have := zw8.out; have := zw9.out; have := zw10.out; have := zw11.out; have := zw12.out; have := zw13.out; have := zw14.out; omega)).grownS hgb (fun hh => by have := hlov.out _ hh.symm; have := hhiv.out _ hh.symm; have := hxl.out; have := hpl.out; have := hg4.out; have := hg4'.out; have := zw4.out; have := qW4.out; have := zW4.out; have := hg5.out; have := hg5'.out; have := zw5.out; have := qW5.out; have := zW5.out; have := zw6.out; have := qW6.out; have := zW6.out; have := zw7.out; have := zw8.out; have := zw9.out; have := zw10.out; have := zw11.out; have := zw12.out; have := zw13.out; have := zw14.out; omega))
    clear PW_w14
    have PP_w15 := hid ((PP_w14.out.grownS hga (fun hh => by have := hloi.out _ hh.symm; have := hhii.out _ hh.symm; have := hxl.out; have := hpl.out; have := hg4.out; have := hg4'.out; have := zw4.out; have := qW4.out; have := zW4.out; have := hg5.out; have := hg5'.out; have := zw5.out; have := qW5.out; have := zW5.out; have := zw6.out; have := qW6.out; have := zW6.out; have := zw7.out; have := zw8.out; have := zw9.out; have := zw10.out; have := zw11.out; have := zw12.out; have := zw13.out; have := zw14.out; omega)).grownS hgb (fun hh => by have := hlov.out _ hh.symm; have := hhiv.out _ hh.symm; have := hxl.out; have := hpl.out; have := hg4.out; have := hg4'.out; have := zw4.out; have := qW4.out; have := zW4.out; have := hg5.out; have := hg5'.out; have := zw5.out; have := qW5.out; have := zW5.out; have := zw6.out; have := qW6.out; have := zW6.out; have := zw7.out; have := zw8.out; have := zw9.out; have := zw10.out; have := zw11.out; have := zw12.out; have := zw13.out; have := zw14.out; omega))
    clear PP_w14
    have MW_w15 := hid ((MW_w14.out.grownS hga (fun hh => by have := hloi.out _ hh.symm; have := hhii.out _ hh.symm; have := hxl.out; have := hpl.out; have := hg4.out; have := hg4'.out; have := zw4.out; have := qW4.out; have := zW4.out; have := hg5.out; have := hg5'.out; have := zw5.out; have := qW5.out; have := zW5.out; have := zw6.out; have := qW6.out; have := zW6.out; have := zw7.out; have := zw8.out; have := zw9.out; have := zw10.out; have := zw11.out; have := zw12.out; have := zw13.out; have := zw14.out; omega)).grownS hgb (fun hh => by have := hlov.out _ hh.symm; have := hhiv.out _ hh.symm; have := hxl.out; have := hpl.out; have := hg4.out; have := hg4'.out; have := zw4.out; have := qW4.out; have := zW4.out; have := hg5.out; have := hg5'.out; have := zw5.out; have := qW5.out; have := zW5.out; have := zw6.out; have := qW6.out; have := zW6.out; have := zw7.out; have := zw8.out; have := zw9.out; have := zw10.out; have := zw11.out; have := zw12.out; have := zw13.out; have := zw14.out; omega))
    clear MW_w14
    have ST_w15 := hid ((ST_w14.out.grownR hga (fun h0 hh => by have := hbs1.out h0; have := hloi.out _ hh.symm; have := hxl.out; have := hpl.out; have := hg4.out; have := hg4'.out; have := zw4.out; have := qW4.out; have := zW4.out; have := hg5.out; have := hg5'.out; have := zw5.out; have := qW5.out; have := zW5.out; have := zw6.out; have := qW6.out; have := zW6.out; have := zw7.out; have := zw8.out; have := zw9.out; have := zw10.out; have := zw11.out; have := zw12.out; have := zw13.out; have := zw14.out; omega)).grownR hgb (fun h0 hh => by have := hbs1.out h0; have := hlov.out _ hh.symm; have := hxl.out; have := hpl.out; have := hg4.out; have := hg4'.out; have := zw4.out; have := qW4.out; have := zW4.out; have := hg5.out; have := hg5'.out; have := zw5.out; have := qW5.out; have := zW5.out; have := zw6.out; have := qW6.out; have := zW6.out; have := zw7.out; have := zw8.out; have := zw9.out; have := zw10.out; have := zw11.out; have := zw12.out; have := zw13.out; have := zw14.out; omega))
    clear ST_w14
    have OV_w15 := hid ((OV_w14.out.grown hga (ne_of (fun q h1 h2 => by have := hhV.out _ h1; have := hloi.out _ h2; have := hxl.out; have := hpl.out; have := hg4.out; have := hg4'.out; have := zw4.out; have := qW4.out; have := zW4.out; have := hg5.out; have := hg5'.out; have := zw5.out; have := qW5.out; have := zW5.out; have := zw6.out; have := qW6.out; have := zW6.out; have := zw7.out; have := zw8.out; have := zw9.out; have := zw10.out; have := zw11.out; have := zw12.out; have := zw13.out; have := zw14.out; omega))).grown hgb (ne_of (fun q h1 h2 => by have := hhV.out _ h1; have := hlov.out _ h2; have := hxl.out; have := hpl.out; have := hg4.out; have := hg4'.out; have := zw4.out; have := qW4.out; have := zW4.out; have := hg5.out; have := hg5'.out; have := zw5.out; have := qW5.out; have := zW5.out; have := zw6.out; have := qW6.out; have := zW6.out; have := zw7.out; have := zw8.out; have := zw9.out; have := zw10.out; have := zw11.out; have := zw12.out; have := zw13.out; have := zw14.out; omega)))
    clear OV_w14
    have MG_w15 := hid ((MG_w14.out.grownS hga (fun hh => by have := hloi.out _ hh.symm; have := hhii.out _ hh.symm; have := hxl.out; have := hpl.out; have := hg4.out; have := hg4'.out; have := zw4.out; have := qW4.out; have := zW4.out; have := hg5.out; have := hg5'.out; have := zw5.out; have := qW5.out; have := zW5.out; have := zw6.out; have := qW6.out; have := zW6.out; have := zw7.out; have := zw8.out; have := zw9.out; have := zw10.out; have := zw11.out; have := zw12.out; have := zw13.out; have := zw14.out; omega)).grownS hgb (fun hh => by have := hlov.out _ hh.symm; have := hhiv.out _ hh.symm; have := hxl.out; have := hpl.out; have := hg4.out; have := hg4'.out; have := zw4.out; have := qW4.out; have := zW4.out; have := hg5.out; have := hg5'.out; have := zw5.out; have := qW5.out; have := zW5.out; have := zw6.out; have := qW6.out; have := zW6.out; have := zw7.out; have := zw8.out; have := zw9.out; have := zw10.out; have := zw11.out; have := zw12.out; have := zw13.out; have := zw14.out; omega))
    clear MG_w14
    have zw15 := hid (Nat.le_trans hga.size hgb.size)
    have hBw15 := (hBw14.grown hga hBw14.size (fun q hq => by have := hloi.out _ hq; have := hxl.out; have := hpl.out; have := hg4.out; have := hg4'.out; have := zw4.out; have := qW4.out; have := zW4.out; have := hg5.out; have := hg5'.out; have := zw5.out; have := qW5.out; have := zW5.out; have := zw6.out; have := qW6.out; have := zW6.out; have := zw7.out; have := zw8.out; have := zw9.out; have := zw10.out; have := zw11.out; have := zw12.out; have := zw13.out; have := zw14.out; omega)).grown hgb (Nat.le_trans hBw14.size hga.size) (fun q hq => by have := hlov.out _ hq; have := hxl.out; have := hpl.out; have := hg4.out; have := hg4'.out; have := zw4.out; have := qW4.out; have := zW4.out; have := hg5.out; have := hg5'.out; have := zw5.out; have := qW5.out; have := zW5.out; have := zw6.out; have := qW6.out; have := zW6.out; have := zw7.out; have := zw8.out; have := zw9.out; have := zw10.out; have := zw11.out; have := zw12.out; have := zw13.out; have := zw14.out; omega)
    clear hga hgb hBw14
    obtain ⟨bm, om, hSm, _⟩ := ho15.strsB (mks_sizes ss1.length (by omega))
    have SM := hid hSm
    have MK := hid hm15
    clear hSm ho15 hm15
    have hn1 : ss1.length ≤ 1048576 := by omega
    have hpk : ¬ (1 + (ss1.length : Int) + 7 * (outN q1 : Nat)) < 0 := by omega
    have c0 : w15.cell? ⟨w6.heap.size, 0, none⟩ = some (.int .i64 nu1) := (MG_w15.out 0 (by simp)).1
    have c1 : w15.cell? ⟨w6.heap.size, 1, none⟩ = some (.int .i64 ep1) := (MG_w15.out 1 (by simp)).1
    have c2 : w15.cell? ⟨w6.heap.size, 2, none⟩ = some (.bool up1) := (MG_w15.out 2 (by simp)).1
    have c3 : w15.cell? ⟨w6.heap.size, 3, none⟩ = some (.int .i64 st1) := (MG_w15.out 3 (by simp)).1
    have c4 : w15.cell? ⟨w6.heap.size, 4, none⟩ = some (.int .i64 le1) := (MG_w15.out 4 (by simp)).1
    have c5 : w15.cell? ⟨w6.heap.size, 5, none⟩ = some (.int .i64 ta1) := (MG_w15.out 5 (by simp)).1
    have c6 : w15.cell? ⟨w6.heap.size, 6, none⟩ = some (.int .i64 co1) := (MG_w15.out 6 (by simp)).1
    have c7 : w15.cell? ⟨w6.heap.size, 7, none⟩ = some (.int .i64 lf1) := (MG_w15.out 7 (by simp)).1
    have c8 : w15.cell? ⟨w6.heap.size, 8, none⟩ = some (.slice ai ss1.length ci) := (MG_w15.out 8 (by simp)).1
    have c9 : w15.cell? ⟨w6.heap.size, 9, none⟩ = some (.string x1) := (MG_w15.out 9 (by simp)).1
    have c10 : w15.cell? ⟨w6.heap.size, 10, none⟩ = some (.int .i64 si1) := (MG_w15.out 10 (by simp)).1
    have c11 : w15.cell? ⟨w6.heap.size, 11, none⟩ = some (.slice vai (outN q1) vci) := (MG_w15.out 11 (by simp)).1
    go_wp2_with fail
    refine (heldActed_any nu1 ep1 up1 st1 le1 ta1 co1 lf1 x1 si1 ai bm om ss1.length ci q1 _ _ hn1 SM.out MK.out ⟨_, _, rfl⟩).mono ?_
    rintro e' w16 ⟨rfl, hb⟩
    clear c0 c1 c2 c3 c4 c5 c6 c7 c8 c9 c10 c11
    have hBw16 := hBw15.trans (hb.mono hBw15.size)
    have zw16 := hid (hb.size)
    have PW_w16 := hid (PW_w15.out.belowS hb)
    clear PW_w15
    have PP_w16 := hid (PP_w15.out.belowS hb)
    clear PP_w15
    have MW_w16 := hid (MW_w15.out.belowS hb)
    clear MW_w15
    have ST_w16 := hid (ST_w15.out.below' hb)
    clear ST_w15
    have OV_w16 := hid (OV_w15.out.below hb (Nat.le_refl _))
    clear OV_w15
    have MG_w16 := hid (MG_w15.out.belowS hb)
    clear MG_w15
    have SM_w16 := hid (SM.out.below' hb)
    clear SM
    have MK_w16 := hid (MK.out.block hb)
    clear MK
    clear hb hBw15
    go_upto_region 31 with fail
    have hPW := PW_w16.out
    have hPP := PP_w16.out
    have hlp : w.heap.size + 1 < w16.heap.size := hPP.lt
    clear PW_w16 PP_w16
    go_cut [13] (fun sv wx => ∃ (p : Nat) (nu1 ep1 : Int) (up1 : Bool) (st1 le1 ta1 co1 lf1 : Int) (ss1 : List ByteArray) (x1 : ByteArray) (si1 : Int) (q1 : Option OM) (aw : Option Addr) (cw : Nat) (vw : Value), sv = .pointer (some ⟨p, 0, none⟩) ∧ CF wx p [.int .i64 nu1, .int .i64 ep1, .bool up1, .int .i64 st1, .int .i64 le1, .int .i64 ta1, .int .i64 co1, .int .i64 lf1, .slice aw ss1.length cw, .string x1, .int .i64 si1, vw] ∧ tickR (⟨nu, ep, up, st, le, ta, co, lf, ss, x, si⟩ : WD) ts (⟨nu1, ep1, up1, st1, le1, ta1, co1, lf1, ss1, x1, si1⟩, q1) ∧ Own w16.heap.size wx 1 (.slice aw ss1.length cw) ss1.length (ss1.map Value.string) ∧ Own w16.heap.size wx 8 vw (outN q1) (outL q1) ∧ ((Value.slice aw ss1.length cw).ownBlock = none ∨ (Value.slice aw ss1.length cw).ownBlock ≠ vw.ownBlock) ∧ w16.heap.size ≤ p ∧ CF wx (w.heap.size) [.int .i64 nu, .int .i64 ep, .bool up, .int .i64 st, .int .i64 le, .int .i64 ta, .int .i64 co, .int .i64 lf, .slice a n c, .string x, .int .i64 si] ∧ CF wx (w.heap.size + 1) [.slice pa pn pc] ∧ Below w.heap.size w wx ∧ Below w16.heap.size w16 wx)
    case first =>
      refine wp_region_held (S := fun w' => CF w' (w.heap.size) [.int .i64 nu, .int .i64 ep, .bool up, .int .i64 st, .int .i64 le, .int .i64 ta, .int .i64 co, .int .i64 lf, .slice a n c, .string x, .int .i64 si] ∧ CF w' (w.heap.size + 1) [.slice pa pn pc]) (by kernel_rfl) ?_
      change wpAnyH _ _ _ _ _ _ _ _ (World.drew _)
      have hPWd : CF w16.drew (w.heap.size) [.int .i64 nu, .int .i64 ep, .bool up, .int .i64 st, .int .i64 le, .int .i64 ta, .int .i64 co, .int .i64 lf, .slice a n c, .string x, .int .i64 si] := hPW
      have hPPd : CF w16.drew (w.heap.size + 1) [.slice pa pn pc] := hPP
      have hBd := hBw16.drew
      have hzd : w16.heap.size ≤ w16.drew.heap.size := Nat.le_refl _
      have hDd : Below w16.heap.size w16 w16.drew := (Below.refl _ _).drew
      have hlW : w.heap.size + 1 < w16.drew.heap.size := hlp
      obtain ⟨u0, hu0⟩ : ∃ u0, u0 = w16.drew := ⟨_, rfl⟩
      rw [← hu0] at hPWd hPPd hBd hzd hlW hDd
      rw [← hu0]
      clear hu0
      refine hTake (i := 0) (d := some 75) (v := .agg #[.int .i64 nu, .int .i64 ep, .bool up, .int .i64 st, .int .i64 le, .int .i64 ta, .int .i64 co, .int .i64 lf, .slice a n c, .string x, .int .i64 si]) (l' := #[true, false, false, false, false, false, false]) rfl (by kernel_rfl) (by kernel_rfl) (by kernel_rfl) (by kernel_rfl) (fun _ _ _ h => h) (by kernel_rfl) (fun _ hc => run_ldT 24 _ [.int .i64 nu, .int .i64 ep, .bool up, .int .i64 st, .int .i64 le, .int .i64 ta, .int .i64 co, .int .i64 lf, .slice a n c, .string x, .int .i64 si] (.tmp 2) (by kernel_rfl) (by kernel_rfl) hc.1 Try.underlying24 rfl Try.sizeLW) ⟨hPWd, hPPd⟩ (by kernel_rfl) ?_
      refine hTake (i := 2) (d := some 77) (v := .agg #[.slice pa pn pc]) (l' := #[true, false, true, false, false, false, false]) rfl (by kernel_rfl) (by kernel_rfl) (by kernel_rfl) (by kernel_rfl) (fun _ _ _ h => h) (by kernel_rfl) (fun _ hc => run_ldT 35 _ [.slice pa pn pc] (.tmp 3) (by kernel_rfl) (by kernel_rfl) hc.2 Try.underlying35 rfl Try.sizeLP) ⟨hPWd, hPPd⟩ (by kernel_rfl) ?_
      have hPWu0 := hPWd
      have hPPu0 := hPPd
      have hBu0 := hBd
      have hzu0 := hzd
      have hlu0 := hlW
      have hDu0 := hDd
      refine hTwo (i := 1) (j := 5) (by kernel_rfl) (hCall (i := 1) (d := some 76) (f := 9) (args := #[.agg #[.int .i64 nu, .int .i64 ep, .bool up, .int .i64 st, .int .i64 le, .int .i64 ta, .int .i64 co, .int .i64 lf, .slice a n c, .string x, .int .i64 si]]) (l' := #[true, true, true, false, false, false, false]) (R := fun v w' => ∃ g, v = .agg #[.int .i64 nu, .int .i64 ep, .bool up, .int .i64 st, .int .i64 le, .int .i64 ta, .int .i64 co, .int .i64 lf, .slice (some ⟨g, 0, none⟩) n n, .string x, .int .i64 si] ∧ OwnC u0.heap.size w' 1 g 0 n n (ss.map Value.string) ∧ Below u0.heap.size u0 w') rfl (by kernel_rfl) (by kernel_rfl) (by kernel_rfl) (run_cl1 _ _ rfl (by kernel_rfl) rfl enter_toW) ((toWorker_any nu ep up st le ta co lf x si a b o n c ss _ (h.below' hBu0) hnn).mono fun _ _ ⟨⟨g, he, ho⟩, hb⟩ => ⟨_, he, g, rfl, ho, hb⟩) ?_) (hVal (i := 5) (d := some 13) (v := .pointer (some ⟨u0.heap.size, 0, none⟩)) (w' := u0.alloc (.cells #[.int .i64 0, .int .i64 0, .bool false, .int .i64 0, .int .i64 0, .int .i64 0, .int .i64 0, .int .i64 0, .slice none 0 0, .string ⟨#[]⟩, .int .i64 0, .slice none 0 0] 39)) (l' := #[true, false, true, false, false, true, false]) rfl (by kernel_rfl) (by kernel_rfl) (by kernel_rfl) (run_alA (by kernel_rfl)) ⟨hPWu0.block (Below.heap_alloc u0 _ (w.heap.size) (by omega)), hPPu0.block (Below.heap_alloc u0 _ (w.heap.size + 1) (by omega))⟩ ?_)
      · rintro _ u1 ⟨g2, rfl, ho2, hbu1⟩
        have hPWu1 := hPWu0.block (hbu1.block (w.heap.size) (by omega))
        have hPPu1 := hPPu0.block (hbu1.block (w.heap.size + 1) (by omega))
        have hBu1 := hBu0.trans (hbu1.mono hBu0.size)
        have hzu1 : w16.heap.size ≤ u1.heap.size := Nat.le_trans hzu0 hbu1.size
        have hlu1 : w.heap.size + 1 < u1.heap.size := Nat.lt_of_lt_of_le hlu0 hbu1.size
        have hDu1 := hDu0.trans (hbu1.mono hzu0)
        have h2su1 := StrsAt.ofOwn ho2 h.sz
        clear ho2
        refine ⟨⟨hPWu1, hPPu1⟩, ?_⟩
        refine hTwo (i := 3) (j := 5) (by kernel_rfl) (hCall (i := 3) (d := some 78) (f := 20) (args := #[.agg #[.slice pa pn pc]]) (l' := #[true, true, true, true, false, false, false]) (R := fun v w' => ∃ g, v = .agg #[.slice (some ⟨g, 0, none⟩) pn pn] ∧ TasksAt w' (some ⟨g, 0, none⟩) g 0 pn ts ∧ Below u1.heap.size u1 w') rfl (by kernel_rfl) (by kernel_rfl) (by kernel_rfl) (run_cl1 _ _ rfl (by kernel_rfl) rfl enter_toP) ((toPlan_any pa pb po pn pc ts _ (hp.below' hBu1) hpn).mono fun _ _ ⟨g, xs, he, _, _, ht, hb⟩ => ⟨_, he, g, rfl, ht, hb⟩) ?_) (hVal (i := 5) (d := some 13) (v := .pointer (some ⟨u1.heap.size, 0, none⟩)) (w' := u1.alloc (.cells #[.int .i64 0, .int .i64 0, .bool false, .int .i64 0, .int .i64 0, .int .i64 0, .int .i64 0, .int .i64 0, .slice none 0 0, .string ⟨#[]⟩, .int .i64 0, .slice none 0 0] 39)) (l' := #[true, true, true, false, false, true, false]) rfl (by kernel_rfl) (by kernel_rfl) (by kernel_rfl) (run_alA (by kernel_rfl)) ⟨hPWu1.block (Below.heap_alloc u1 _ (w.heap.size) (by omega)), hPPu1.block (Below.heap_alloc u1 _ (w.heap.size + 1) (by omega))⟩ ?_)
        · rintro _ u2 ⟨g3, rfl, ht3, hbu2⟩
          have hPWu2 := hPWu1.block (hbu2.block (w.heap.size) (by omega))
          have hPPu2 := hPPu1.block (hbu2.block (w.heap.size + 1) (by omega))
          have hBu2 := hBu1.trans (hbu2.mono hBu1.size)
          have hzu2 : w16.heap.size ≤ u2.heap.size := Nat.le_trans hzu1 hbu2.size
          have hlu2 : w.heap.size + 1 < u2.heap.size := Nat.lt_of_lt_of_le hlu1 hbu2.size
          have hDu2 := hDu1.trans (hbu2.mono hzu1)
          have h2su2 := h2su1.below' hbu2
          have ht3u2 := ht3
          refine ⟨⟨hPWu2, hPPu2⟩, ?_⟩
          refine hTwo (i := 4) (j := 5) (by kernel_rfl) (hCall (i := 4) (d := some 79) (f := 21) (args := #[.agg #[.int .i64 nu, .int .i64 ep, .bool up, .int .i64 st, .int .i64 le, .int .i64 ta, .int .i64 co, .int .i64 lf, .slice (some ⟨g2, 0, none⟩) n n, .string x, .int .i64 si], .agg #[.slice (some ⟨g3, 0, none⟩) pn pn]]) (l' := #[true, true, true, true, true, false, false]) (R := fun v w' => RetA (.returned v) u2.heap.size w' (tickR (⟨nu, ep, up, st, le, ta, co, lf, ss, x, si⟩ : WD) ts) ∧ Below u2.heap.size u2 w') rfl (by kernel_rfl) (by kernel_rfl) (by kernel_rfl) (run_cl2 _ _ _ rfl (by kernel_rfl) (by kernel_rfl) rfl enter_iTick) ((iTick_any nu ep up st le ta co lf _ g2 0 n n ss x si _ g3 0 pn pn ts _ h2su2 ht3u2).mono fun e _ ⟨he, hb⟩ => by obtain ⟨d, q, a, c, v, rfl, h1⟩ := he; exact ⟨_, rfl, ⟨d, q, a, c, v, rfl, h1⟩, hb⟩) ?_) (hVal (i := 5) (d := some 13) (v := .pointer (some ⟨u2.heap.size, 0, none⟩)) (w' := u2.alloc (.cells #[.int .i64 0, .int .i64 0, .bool false, .int .i64 0, .int .i64 0, .int .i64 0, .int .i64 0, .int .i64 0, .slice none 0 0, .string ⟨#[]⟩, .int .i64 0, .slice none 0 0] 39)) (l' := #[true, true, true, true, false, true, false]) rfl (by kernel_rfl) (by kernel_rfl) (by kernel_rfl) (run_alA (by kernel_rfl)) ⟨hPWu2.block (Below.heap_alloc u2 _ (w.heap.size) (by omega)), hPPu2.block (Below.heap_alloc u2 _ (w.heap.size + 1) (by omega))⟩ ?_)
          · rintro _ u3 ⟨hret, hbu3⟩
            have hPWu3 := hPWu2.block (hbu3.block (w.heap.size) (by omega))
            have hPPu3 := hPPu2.block (hbu3.block (w.heap.size + 1) (by omega))
            have hBu3 := hBu2.trans (hbu3.mono hBu2.size)
            have hzu3 : w16.heap.size ≤ u3.heap.size := Nat.le_trans hzu2 hbu3.size
            have hlu3 : w.heap.size + 1 < u3.heap.size := Nat.lt_of_lt_of_le hlu2 hbu3.size
            have hDu3 := hDu2.trans (hbu3.mono hzu2)
            have h2su3 := h2su2.below' hbu3
            have ht3u3 := ht3u2.below' hbu3
            refine ⟨⟨hPWu3, hPPu3⟩, ?_⟩
            obtain ⟨⟨nu1, ep1, up1, st1, le1, ta1, co1, lf1, ss1, x1, si1⟩, q1, aw, cw, vw, hev, hoL, hoV, hdis, hF⟩ := hret
            simp only [Ending.returned.injEq] at hev
            subst hev
            dsimp only at hoL hdis
            obtain ⟨va, vc, rfl⟩ := hoV.slc
            have hloL := hoL.row_lo
            have hhiL := hoL.row_hi
            have hloV := hoV.row_lo
            have hhiV := hoV.row_hi
            have hoL := hoL.mono' hzu2
            have hoV := hoV.mono' hzu2
            refine hOne (by kernel_rfl) (hVal (i := 5) (d := some 13) (v := .pointer (some ⟨u3.heap.size, 0, none⟩)) (w' := u3.alloc (.cells #[.int .i64 0, .int .i64 0, .bool false, .int .i64 0, .int .i64 0, .int .i64 0, .int .i64 0, .int .i64 0, .slice none 0 0, .string ⟨#[]⟩, .int .i64 0, .slice none 0 0] 39)) (l' := #[true, true, true, true, true, true, false]) rfl (by kernel_rfl) (by kernel_rfl) (by kernel_rfl) (run_alA (by kernel_rfl)) ⟨hPWu3.block (Below.heap_alloc u3 _ (w.heap.size) (by omega)), hPPu3.block (Below.heap_alloc u3 _ (w.heap.size + 1) (by omega))⟩ ?_)
            have hPWu4 := hPWu3.block (Below.heap_alloc u3 (.cells zA.toArray 39) (w.heap.size) (by omega))
            have hPPu4 := hPPu3.block (Below.heap_alloc u3 (.cells zA.toArray 39) (w.heap.size + 1) (by omega))
            have hBu4 := hBu3.alloc hBu3.size (.cells zA.toArray 39)
            have hDu4 := hDu3.alloc hDu3.size (.cells zA.toArray 39)
            have hbbu4 : Below u3.heap.size u3 (u3.alloc (.cells zA.toArray 39)) := (Below.refl _ _).alloc (Nat.le_refl _) _
            have hAu4 := CF.made u3 zA.toArray 39
            have h2su4 := h2su3.below' hbbu4
            have ht3u4 := ht3u3.below' hbbu4
            have hoL := hoL.alloc (.cells zA.toArray 39)
            have hoV := hoV.alloc (.cells zA.toArray 39)
            have hszu4 : (u3.alloc (.cells zA.toArray 39)).heap.size = u3.heap.size + 1 := by simp
            obtain ⟨pA, hpA⟩ : ∃ pA, pA = u3.heap.size := ⟨_, rfl⟩
            rw [← hpA] at hAu4 hszu4
            rw [← hpA]
            obtain ⟨u4, hu4⟩ : ∃ u4, u4 = u3.alloc (.cells zA.toArray 39) := ⟨_, rfl⟩
            rw [← hu4] at hPWu4 hPPu4 hBu4 hDu4 hbbu4 hAu4 hszu4 h2su4 ht3u4 hoL hoV
            have eu4 : (.alloc u3 (.cells #[.int .i64 0, .int .i64 0, .bool false, .int .i64 0, .int .i64 0, .int .i64 0, .int .i64 0, .int .i64 0, .slice none 0 0, .string ⟨#[]⟩, .int .i64 0, .slice none 0 0] 39) : World) = u4 := hu4.symm
            rw [eu4]
            clear hu4 eu4
            have hzu4 : w16.heap.size ≤ u4.heap.size := Nat.le_trans hzu3 hbbu4.size
            have hlu4 : w.heap.size + 1 < u4.heap.size := Nat.lt_of_lt_of_le hlu3 hbbu4.size
            have hAlu4 : pA < u4.heap.size := by omega
            have hAb : w16.heap.size ≤ pA := by omega
            have HPA := hid hpA
            clear hpA
            obtain ⟨uz, huz⟩ : ∃ uz, uz = u4.setCells pA 0 [.int .i64 nu1, .int .i64 ep1, .bool up1, .int .i64 st1, .int .i64 le1, .int .i64 ta1, .int .i64 co1, .int .i64 lf1, .slice aw ss1.length cw, .string x1, .int .i64 si1, .slice va (outN q1) vc] := ⟨_, rfl⟩
            have hcz : CF uz pA [.int .i64 nu1, .int .i64 ep1, .bool up1, .int .i64 st1, .int .i64 le1, .int .i64 ta1, .int .i64 co1, .int .i64 lf1, .slice aw ss1.length cw, .string x1, .int .i64 si1, .slice va (outN q1) vc] := by rw [huz]; exact hAu4.stored rfl
            have hgz : u4.grownBy uz (some pA) := by rw [huz]; exact grown_setCells _ _ _ _ _ (World.grownBy.refl _ _)
            have hPWz := hPWu4.block (hgz.block (w.heap.size) (by omega) (by simp; omega))
            have hPPz := hPPu4.block (hgz.block (w.heap.size + 1) (by omega) (by simp; omega))
            have hBz := below_grown hBu4 hgz (by omega) (fun k hk => by simp at hk; omega)
            have hLz := hoL.grown hgz (.inr (by intro hh; have := hloL _ hh; have := hhiL _ hh; have := HPA.out; omega))
            have hVz := hoV.grown hgz (.inr (by intro hh; have := hloV _ hh; have := hhiV _ hh; have := HPA.out; omega))
            have hzz := below_grown hDu4 hgz (by omega) (fun k hk => by simp at hk; omega)
            refine hOne (by kernel_rfl) (hSkip (i := 6) (w' := uz) (l' := #[true, true, true, true, true, true, true]) rfl (by kernel_rfl) (by kernel_rfl) (by kernel_rfl) (by rw [huz]; exact run_stT 39 zA [.int .i64 nu1, .int .i64 ep1, .bool up1, .int .i64 st1, .int .i64 le1, .int .i64 ta1, .int .i64 co1, .int .i64 lf1, .slice aw ss1.length cw, .string x1, .int .i64 si1, .slice va (outN q1) vc] (.tmp 13) (.tmp 79) (by kernel_rfl) (by kernel_rfl) (by kernel_rfl) hAu4 rfl Try.sizeAc (one12 _ _ _ _ _ _ _ _ _ _ _ _ _ _ _ _)) ⟨hPWz, hPPz⟩ ?_)
            refine wpAnyH_done (by kernel_rfl) ?_ _
            have HR := hid (show ∃ (p : Nat) (nu1 ep1 : Int) (up1 : Bool) (st1 le1 ta1 co1 lf1 : Int) (ss1 : List ByteArray) (x1 : ByteArray) (si1 : Int) (q1 : Option OM) (aw : Option Addr) (cw : Nat) (vw : Value), (.pointer (some ⟨pA, 0, none⟩) : Value) = .pointer (some ⟨p, 0, none⟩) ∧ CF uz p [.int .i64 nu1, .int .i64 ep1, .bool up1, .int .i64 st1, .int .i64 le1, .int .i64 ta1, .int .i64 co1, .int .i64 lf1, .slice aw ss1.length cw, .string x1, .int .i64 si1, vw] ∧ tickR (⟨nu, ep, up, st, le, ta, co, lf, ss, x, si⟩ : WD) ts (⟨nu1, ep1, up1, st1, le1, ta1, co1, lf1, ss1, x1, si1⟩, q1) ∧ Own w16.heap.size uz 1 (.slice aw ss1.length cw) ss1.length (ss1.map Value.string) ∧ Own w16.heap.size uz 8 vw (outN q1) (outL q1) ∧ ((Value.slice aw ss1.length cw).ownBlock = none ∨ (Value.slice aw ss1.length cw).ownBlock ≠ vw.ownBlock) ∧ w16.heap.size ≤ p ∧ CF uz (w.heap.size) [.int .i64 nu, .int .i64 ep, .bool up, .int .i64 st, .int .i64 le, .int .i64 ta, .int .i64 co, .int .i64 lf, .slice a n c, .string x, .int .i64 si] ∧ CF uz (w.heap.size + 1) [.slice pa pn pc] ∧ Below w.heap.size w uz ∧ Below w16.heap.size w16 uz from ⟨pA, nu1, ep1, up1, st1, le1, ta1, co1, lf1, ss1, x1, si1, q1, aw, cw, .slice va (outN q1) vc, rfl, hcz, hF, hLz, hVz, hdis, hAb, hPWz, hPPz, hBz, hzz⟩)
            clear hcz hF hLz hVz hdis hPWz hPPz hBz hzz huz hgz hoL hoV hloL hhiL hloV hhiV
            go_wp2_with fail
            go_meet
            case rel => exact HR.out
          · have hPWu5 := hPWu2.block (Below.heap_alloc u2 (.cells zA.toArray 39) (w.heap.size) (by omega))
            have hPPu5 := hPPu2.block (Below.heap_alloc u2 (.cells zA.toArray 39) (w.heap.size + 1) (by omega))
            have hBu5 := hBu2.alloc hBu2.size (.cells zA.toArray 39)
            have hDu5 := hDu2.alloc hDu2.size (.cells zA.toArray 39)
            have hbbu5 : Below u2.heap.size u2 (u2.alloc (.cells zA.toArray 39)) := (Below.refl _ _).alloc (Nat.le_refl _) _
            have hAu5 := CF.made u2 zA.toArray 39
            have h2su5 := h2su2.below' hbbu5
            have ht3u5 := ht3u2.below' hbbu5
            have hszu5 : (u2.alloc (.cells zA.toArray 39)).heap.size = u2.heap.size + 1 := by simp
            obtain ⟨pA, hpA⟩ : ∃ pA, pA = u2.heap.size := ⟨_, rfl⟩
            rw [← hpA] at hAu5 hszu5
            rw [← hpA]
            obtain ⟨u5, hu5⟩ : ∃ u5, u5 = u2.alloc (.cells zA.toArray 39) := ⟨_, rfl⟩
            rw [← hu5] at hPWu5 hPPu5 hBu5 hDu5 hbbu5 hAu5 hszu5 h2su5 ht3u5
            have eu5 : (.alloc u2 (.cells #[.int .i64 0, .int .i64 0, .bool false, .int .i64 0, .int .i64 0, .int .i64 0, .int .i64 0, .int .i64 0, .slice none 0 0, .string ⟨#[]⟩, .int .i64 0, .slice none 0 0] 39) : World) = u5 := hu5.symm
            rw [eu5]
            clear hu5 eu5
            have hzu5 : w16.heap.size ≤ u5.heap.size := Nat.le_trans hzu2 hbbu5.size
            have hlu5 : w.heap.size + 1 < u5.heap.size := Nat.lt_of_lt_of_le hlu2 hbbu5.size
            have hAlu5 : pA < u5.heap.size := by omega
            have hAb : w16.heap.size ≤ pA := by omega
            have HPA := hid hpA
            clear hpA
            refine hOne (by kernel_rfl) (hCall (i := 4) (d := some 79) (f := 21) (args := #[.agg #[.int .i64 nu, .int .i64 ep, .bool up, .int .i64 st, .int .i64 le, .int .i64 ta, .int .i64 co, .int .i64 lf, .slice (some ⟨g2, 0, none⟩) n n, .string x, .int .i64 si], .agg #[.slice (some ⟨g3, 0, none⟩) pn pn]]) (l' := #[true, true, true, true, true, true, false]) (R := fun v w' => RetA (.returned v) u5.heap.size w' (tickR (⟨nu, ep, up, st, le, ta, co, lf, ss, x, si⟩ : WD) ts) ∧ Below u5.heap.size u5 w') rfl (by kernel_rfl) (by kernel_rfl) (by kernel_rfl) (run_cl2 _ _ _ rfl (by kernel_rfl) (by kernel_rfl) rfl enter_iTick) ((iTick_any nu ep up st le ta co lf _ g2 0 n n ss x si _ g3 0 pn pn ts _ h2su5 ht3u5).mono fun e _ ⟨he, hb⟩ => by obtain ⟨d, q, a, c, v, rfl, h1⟩ := he; exact ⟨_, rfl, ⟨d, q, a, c, v, rfl, h1⟩, hb⟩) ?_)
            rintro _ u6 ⟨hret, hbu6⟩
            have hPWu6 := hPWu5.block (hbu6.block (w.heap.size) (by omega))
            have hPPu6 := hPPu5.block (hbu6.block (w.heap.size + 1) (by omega))
            have hBu6 := hBu5.trans (hbu6.mono hBu5.size)
            have hzu6 : w16.heap.size ≤ u6.heap.size := Nat.le_trans hzu5 hbu6.size
            have hlu6 : w.heap.size + 1 < u6.heap.size := Nat.lt_of_lt_of_le hlu5 hbu6.size
            have hDu6 := hDu5.trans (hbu6.mono hzu5)
            have h2su6 := h2su5.below' hbu6
            have ht3u6 := ht3u5.below' hbu6
            have hAu6 := hAu5.block (hbu6.block pA (by omega))
            have hAlu6 : pA < u6.heap.size := Nat.lt_of_lt_of_le hAlu5 hbu6.size
            refine ⟨⟨hPWu6, hPPu6⟩, ?_⟩
            obtain ⟨⟨nu1, ep1, up1, st1, le1, ta1, co1, lf1, ss1, x1, si1⟩, q1, aw, cw, vw, hev, hoL, hoV, hdis, hF⟩ := hret
            simp only [Ending.returned.injEq] at hev
            subst hev
            dsimp only at hoL hdis
            obtain ⟨va, vc, rfl⟩ := hoV.slc
            have hloL := hoL.row_lo
            have hhiL := hoL.row_hi
            have hloV := hoV.row_lo
            have hhiV := hoV.row_hi
            have hoL := hoL.mono' hzu5
            have hoV := hoV.mono' hzu5
            obtain ⟨uz, huz⟩ : ∃ uz, uz = u6.setCells pA 0 [.int .i64 nu1, .int .i64 ep1, .bool up1, .int .i64 st1, .int .i64 le1, .int .i64 ta1, .int .i64 co1, .int .i64 lf1, .slice aw ss1.length cw, .string x1, .int .i64 si1, .slice va (outN q1) vc] := ⟨_, rfl⟩
            have hcz : CF uz pA [.int .i64 nu1, .int .i64 ep1, .bool up1, .int .i64 st1, .int .i64 le1, .int .i64 ta1, .int .i64 co1, .int .i64 lf1, .slice aw ss1.length cw, .string x1, .int .i64 si1, .slice va (outN q1) vc] := by rw [huz]; exact hAu6.stored rfl
            have hgz : u6.grownBy uz (some pA) := by rw [huz]; exact grown_setCells _ _ _ _ _ (World.grownBy.refl _ _)
            have hPWz := hPWu6.block (hgz.block (w.heap.size) (by omega) (by simp; omega))
            have hPPz := hPPu6.block (hgz.block (w.heap.size + 1) (by omega) (by simp; omega))
            have hBz := below_grown hBu6 hgz (by omega) (fun k hk => by simp at hk; omega)
            have hLz := hoL.grown hgz (.inr (by intro hh; have := hloL _ hh; have := hhiL _ hh; have := HPA.out; omega))
            have hVz := hoV.grown hgz (.inr (by intro hh; have := hloV _ hh; have := hhiV _ hh; have := HPA.out; omega))
            have hzz := below_grown hDu6 hgz (by omega) (fun k hk => by simp at hk; omega)
            refine hOne (by kernel_rfl) (hSkip (i := 6) (w' := uz) (l' := #[true, true, true, true, true, true, true]) rfl (by kernel_rfl) (by kernel_rfl) (by kernel_rfl) (by rw [huz]; exact run_stT 39 zA [.int .i64 nu1, .int .i64 ep1, .bool up1, .int .i64 st1, .int .i64 le1, .int .i64 ta1, .int .i64 co1, .int .i64 lf1, .slice aw ss1.length cw, .string x1, .int .i64 si1, .slice va (outN q1) vc] (.tmp 13) (.tmp 79) (by kernel_rfl) (by kernel_rfl) (by kernel_rfl) hAu6 rfl Try.sizeAc (one12 _ _ _ _ _ _ _ _ _ _ _ _ _ _ _ _)) ⟨hPWz, hPPz⟩ ?_)
            refine wpAnyH_done (by kernel_rfl) ?_ _
            have HR := hid (show ∃ (p : Nat) (nu1 ep1 : Int) (up1 : Bool) (st1 le1 ta1 co1 lf1 : Int) (ss1 : List ByteArray) (x1 : ByteArray) (si1 : Int) (q1 : Option OM) (aw : Option Addr) (cw : Nat) (vw : Value), (.pointer (some ⟨pA, 0, none⟩) : Value) = .pointer (some ⟨p, 0, none⟩) ∧ CF uz p [.int .i64 nu1, .int .i64 ep1, .bool up1, .int .i64 st1, .int .i64 le1, .int .i64 ta1, .int .i64 co1, .int .i64 lf1, .slice aw ss1.length cw, .string x1, .int .i64 si1, vw] ∧ tickR (⟨nu, ep, up, st, le, ta, co, lf, ss, x, si⟩ : WD) ts (⟨nu1, ep1, up1, st1, le1, ta1, co1, lf1, ss1, x1, si1⟩, q1) ∧ Own w16.heap.size uz 1 (.slice aw ss1.length cw) ss1.length (ss1.map Value.string) ∧ Own w16.heap.size uz 8 vw (outN q1) (outL q1) ∧ ((Value.slice aw ss1.length cw).ownBlock = none ∨ (Value.slice aw ss1.length cw).ownBlock ≠ vw.ownBlock) ∧ w16.heap.size ≤ p ∧ CF uz (w.heap.size) [.int .i64 nu, .int .i64 ep, .bool up, .int .i64 st, .int .i64 le, .int .i64 ta, .int .i64 co, .int .i64 lf, .slice a n c, .string x, .int .i64 si] ∧ CF uz (w.heap.size + 1) [.slice pa pn pc] ∧ Below w.heap.size w uz ∧ Below w16.heap.size w16 uz from ⟨pA, nu1, ep1, up1, st1, le1, ta1, co1, lf1, ss1, x1, si1, q1, aw, cw, .slice va (outN q1) vc, rfl, hcz, hF, hLz, hVz, hdis, hAb, hPWz, hPPz, hBz, hzz⟩)
            clear hcz hF hLz hVz hdis hPWz hPPz hBz hzz huz hgz hoL hoV hloL hhiL hloV hhiV
            go_wp2_with fail
            go_meet
            case rel => exact HR.out
        · have hPWu7 := hPWu1.block (Below.heap_alloc u1 (.cells zA.toArray 39) (w.heap.size) (by omega))
          have hPPu7 := hPPu1.block (Below.heap_alloc u1 (.cells zA.toArray 39) (w.heap.size + 1) (by omega))
          have hBu7 := hBu1.alloc hBu1.size (.cells zA.toArray 39)
          have hDu7 := hDu1.alloc hDu1.size (.cells zA.toArray 39)
          have hbbu7 : Below u1.heap.size u1 (u1.alloc (.cells zA.toArray 39)) := (Below.refl _ _).alloc (Nat.le_refl _) _
          have hAu7 := CF.made u1 zA.toArray 39
          have h2su7 := h2su1.below' hbbu7
          have hszu7 : (u1.alloc (.cells zA.toArray 39)).heap.size = u1.heap.size + 1 := by simp
          obtain ⟨pA, hpA⟩ : ∃ pA, pA = u1.heap.size := ⟨_, rfl⟩
          rw [← hpA] at hAu7 hszu7
          rw [← hpA]
          obtain ⟨u7, hu7⟩ : ∃ u7, u7 = u1.alloc (.cells zA.toArray 39) := ⟨_, rfl⟩
          rw [← hu7] at hPWu7 hPPu7 hBu7 hDu7 hbbu7 hAu7 hszu7 h2su7
          have eu7 : (.alloc u1 (.cells #[.int .i64 0, .int .i64 0, .bool false, .int .i64 0, .int .i64 0, .int .i64 0, .int .i64 0, .int .i64 0, .slice none 0 0, .string ⟨#[]⟩, .int .i64 0, .slice none 0 0] 39) : World) = u7 := hu7.symm
          rw [eu7]
          clear hu7 eu7
          have hzu7 : w16.heap.size ≤ u7.heap.size := Nat.le_trans hzu1 hbbu7.size
          have hlu7 : w.heap.size + 1 < u7.heap.size := Nat.lt_of_lt_of_le hlu1 hbbu7.size
          have hAlu7 : pA < u7.heap.size := by omega
          have hAb : w16.heap.size ≤ pA := by omega
          have HPA := hid hpA
          clear hpA
          refine hOne (by kernel_rfl) (hCall (i := 3) (d := some 78) (f := 20) (args := #[.agg #[.slice pa pn pc]]) (l' := #[true, true, true, true, false, true, false]) (R := fun v w' => ∃ g, v = .agg #[.slice (some ⟨g, 0, none⟩) pn pn] ∧ TasksAt w' (some ⟨g, 0, none⟩) g 0 pn ts ∧ Below u7.heap.size u7 w') rfl (by kernel_rfl) (by kernel_rfl) (by kernel_rfl) (run_cl1 _ _ rfl (by kernel_rfl) rfl enter_toP) ((toPlan_any pa pb po pn pc ts _ (hp.below' hBu7) hpn).mono fun _ _ ⟨g, xs, he, _, _, ht, hb⟩ => ⟨_, he, g, rfl, ht, hb⟩) ?_)
          rintro _ u8 ⟨g3, rfl, ht3, hbu8⟩
          have hPWu8 := hPWu7.block (hbu8.block (w.heap.size) (by omega))
          have hPPu8 := hPPu7.block (hbu8.block (w.heap.size + 1) (by omega))
          have hBu8 := hBu7.trans (hbu8.mono hBu7.size)
          have hzu8 : w16.heap.size ≤ u8.heap.size := Nat.le_trans hzu7 hbu8.size
          have hlu8 : w.heap.size + 1 < u8.heap.size := Nat.lt_of_lt_of_le hlu7 hbu8.size
          have hDu8 := hDu7.trans (hbu8.mono hzu7)
          have h2su8 := h2su7.below' hbu8
          have ht3u8 := ht3
          have hAu8 := hAu7.block (hbu8.block pA (by omega))
          have hAlu8 : pA < u8.heap.size := Nat.lt_of_lt_of_le hAlu7 hbu8.size
          refine ⟨⟨hPWu8, hPPu8⟩, ?_⟩
          refine hOne (by kernel_rfl) (hCall (i := 4) (d := some 79) (f := 21) (args := #[.agg #[.int .i64 nu, .int .i64 ep, .bool up, .int .i64 st, .int .i64 le, .int .i64 ta, .int .i64 co, .int .i64 lf, .slice (some ⟨g2, 0, none⟩) n n, .string x, .int .i64 si], .agg #[.slice (some ⟨g3, 0, none⟩) pn pn]]) (l' := #[true, true, true, true, true, true, false]) (R := fun v w' => RetA (.returned v) u8.heap.size w' (tickR (⟨nu, ep, up, st, le, ta, co, lf, ss, x, si⟩ : WD) ts) ∧ Below u8.heap.size u8 w') rfl (by kernel_rfl) (by kernel_rfl) (by kernel_rfl) (run_cl2 _ _ _ rfl (by kernel_rfl) (by kernel_rfl) rfl enter_iTick) ((iTick_any nu ep up st le ta co lf _ g2 0 n n ss x si _ g3 0 pn pn ts _ h2su8 ht3u8).mono fun e _ ⟨he, hb⟩ => by obtain ⟨d, q, a, c, v, rfl, h1⟩ := he; exact ⟨_, rfl, ⟨d, q, a, c, v, rfl, h1⟩, hb⟩) ?_)
          rintro _ u9 ⟨hret, hbu9⟩
          have hPWu9 := hPWu8.block (hbu9.block (w.heap.size) (by omega))
          have hPPu9 := hPPu8.block (hbu9.block (w.heap.size + 1) (by omega))
          have hBu9 := hBu8.trans (hbu9.mono hBu8.size)
          have hzu9 : w16.heap.size ≤ u9.heap.size := Nat.le_trans hzu8 hbu9.size
          have hlu9 : w.heap.size + 1 < u9.heap.size := Nat.lt_of_lt_of_le hlu8 hbu9.size
          have hDu9 := hDu8.trans (hbu9.mono hzu8)
          have h2su9 := h2su8.below' hbu9
          have ht3u9 := ht3u8.below' hbu9
          have hAu9 := hAu8.block (hbu9.block pA (by omega))
          have hAlu9 : pA < u9.heap.size := Nat.lt_of_lt_of_le hAlu8 hbu9.size
          refine ⟨⟨hPWu9, hPPu9⟩, ?_⟩
          obtain ⟨⟨nu1, ep1, up1, st1, le1, ta1, co1, lf1, ss1, x1, si1⟩, q1, aw, cw, vw, hev, hoL, hoV, hdis, hF⟩ := hret
          simp only [Ending.returned.injEq] at hev
          subst hev
          dsimp only at hoL hdis
          obtain ⟨va, vc, rfl⟩ := hoV.slc
          have hloL := hoL.row_lo
          have hhiL := hoL.row_hi
          have hloV := hoV.row_lo
          have hhiV := hoV.row_hi
          have hoL := hoL.mono' hzu8
          have hoV := hoV.mono' hzu8
          obtain ⟨uz, huz⟩ : ∃ uz, uz = u9.setCells pA 0 [.int .i64 nu1, .int .i64 ep1, .bool up1, .int .i64 st1, .int .i64 le1, .int .i64 ta1, .int .i64 co1, .int .i64 lf1, .slice aw ss1.length cw, .string x1, .int .i64 si1, .slice va (outN q1) vc] := ⟨_, rfl⟩
          have hcz : CF uz pA [.int .i64 nu1, .int .i64 ep1, .bool up1, .int .i64 st1, .int .i64 le1, .int .i64 ta1, .int .i64 co1, .int .i64 lf1, .slice aw ss1.length cw, .string x1, .int .i64 si1, .slice va (outN q1) vc] := by rw [huz]; exact hAu9.stored rfl
          have hgz : u9.grownBy uz (some pA) := by rw [huz]; exact grown_setCells _ _ _ _ _ (World.grownBy.refl _ _)
          have hPWz := hPWu9.block (hgz.block (w.heap.size) (by omega) (by simp; omega))
          have hPPz := hPPu9.block (hgz.block (w.heap.size + 1) (by omega) (by simp; omega))
          have hBz := below_grown hBu9 hgz (by omega) (fun k hk => by simp at hk; omega)
          have hLz := hoL.grown hgz (.inr (by intro hh; have := hloL _ hh; have := hhiL _ hh; have := HPA.out; omega))
          have hVz := hoV.grown hgz (.inr (by intro hh; have := hloV _ hh; have := hhiV _ hh; have := HPA.out; omega))
          have hzz := below_grown hDu9 hgz (by omega) (fun k hk => by simp at hk; omega)
          refine hOne (by kernel_rfl) (hSkip (i := 6) (w' := uz) (l' := #[true, true, true, true, true, true, true]) rfl (by kernel_rfl) (by kernel_rfl) (by kernel_rfl) (by rw [huz]; exact run_stT 39 zA [.int .i64 nu1, .int .i64 ep1, .bool up1, .int .i64 st1, .int .i64 le1, .int .i64 ta1, .int .i64 co1, .int .i64 lf1, .slice aw ss1.length cw, .string x1, .int .i64 si1, .slice va (outN q1) vc] (.tmp 13) (.tmp 79) (by kernel_rfl) (by kernel_rfl) (by kernel_rfl) hAu9 rfl Try.sizeAc (one12 _ _ _ _ _ _ _ _ _ _ _ _ _ _ _ _)) ⟨hPWz, hPPz⟩ ?_)
          refine wpAnyH_done (by kernel_rfl) ?_ _
          have HR := hid (show ∃ (p : Nat) (nu1 ep1 : Int) (up1 : Bool) (st1 le1 ta1 co1 lf1 : Int) (ss1 : List ByteArray) (x1 : ByteArray) (si1 : Int) (q1 : Option OM) (aw : Option Addr) (cw : Nat) (vw : Value), (.pointer (some ⟨pA, 0, none⟩) : Value) = .pointer (some ⟨p, 0, none⟩) ∧ CF uz p [.int .i64 nu1, .int .i64 ep1, .bool up1, .int .i64 st1, .int .i64 le1, .int .i64 ta1, .int .i64 co1, .int .i64 lf1, .slice aw ss1.length cw, .string x1, .int .i64 si1, vw] ∧ tickR (⟨nu, ep, up, st, le, ta, co, lf, ss, x, si⟩ : WD) ts (⟨nu1, ep1, up1, st1, le1, ta1, co1, lf1, ss1, x1, si1⟩, q1) ∧ Own w16.heap.size uz 1 (.slice aw ss1.length cw) ss1.length (ss1.map Value.string) ∧ Own w16.heap.size uz 8 vw (outN q1) (outL q1) ∧ ((Value.slice aw ss1.length cw).ownBlock = none ∨ (Value.slice aw ss1.length cw).ownBlock ≠ vw.ownBlock) ∧ w16.heap.size ≤ p ∧ CF uz (w.heap.size) [.int .i64 nu, .int .i64 ep, .bool up, .int .i64 st, .int .i64 le, .int .i64 ta, .int .i64 co, .int .i64 lf, .slice a n c, .string x, .int .i64 si] ∧ CF uz (w.heap.size + 1) [.slice pa pn pc] ∧ Below w.heap.size w uz ∧ Below w16.heap.size w16 uz from ⟨pA, nu1, ep1, up1, st1, le1, ta1, co1, lf1, ss1, x1, si1, q1, aw, cw, .slice va (outN q1) vc, rfl, hcz, hF, hLz, hVz, hdis, hAb, hPWz, hPPz, hBz, hzz⟩)
          clear hcz hF hLz hVz hdis hPWz hPPz hBz hzz huz hgz hoL hoV hloL hhiL hloV hhiV
          go_wp2_with fail
          go_meet
          case rel => exact HR.out
      · have hPWu10 := hPWu0.block (Below.heap_alloc u0 (.cells zA.toArray 39) (w.heap.size) (by omega))
        have hPPu10 := hPPu0.block (Below.heap_alloc u0 (.cells zA.toArray 39) (w.heap.size + 1) (by omega))
        have hBu10 := hBu0.alloc hBu0.size (.cells zA.toArray 39)
        have hDu10 := hDu0.alloc hDu0.size (.cells zA.toArray 39)
        have hbbu10 : Below u0.heap.size u0 (u0.alloc (.cells zA.toArray 39)) := (Below.refl _ _).alloc (Nat.le_refl _) _
        have hAu10 := CF.made u0 zA.toArray 39
        have hszu10 : (u0.alloc (.cells zA.toArray 39)).heap.size = u0.heap.size + 1 := by simp
        obtain ⟨pA, hpA⟩ : ∃ pA, pA = u0.heap.size := ⟨_, rfl⟩
        rw [← hpA] at hAu10 hszu10
        rw [← hpA]
        obtain ⟨u10, hu10⟩ : ∃ u10, u10 = u0.alloc (.cells zA.toArray 39) := ⟨_, rfl⟩
        rw [← hu10] at hPWu10 hPPu10 hBu10 hDu10 hbbu10 hAu10 hszu10
        have eu10 : (.alloc u0 (.cells #[.int .i64 0, .int .i64 0, .bool false, .int .i64 0, .int .i64 0, .int .i64 0, .int .i64 0, .int .i64 0, .slice none 0 0, .string ⟨#[]⟩, .int .i64 0, .slice none 0 0] 39) : World) = u10 := hu10.symm
        rw [eu10]
        clear hu10 eu10
        have hzu10 : w16.heap.size ≤ u10.heap.size := Nat.le_trans hzu0 hbbu10.size
        have hlu10 : w.heap.size + 1 < u10.heap.size := Nat.lt_of_lt_of_le hlu0 hbbu10.size
        have hAlu10 : pA < u10.heap.size := by omega
        have hAb : w16.heap.size ≤ pA := by omega
        have HPA := hid hpA
        clear hpA
        refine hOne (by kernel_rfl) (hCall (i := 1) (d := some 76) (f := 9) (args := #[.agg #[.int .i64 nu, .int .i64 ep, .bool up, .int .i64 st, .int .i64 le, .int .i64 ta, .int .i64 co, .int .i64 lf, .slice a n c, .string x, .int .i64 si]]) (l' := #[true, true, true, false, false, true, false]) (R := fun v w' => ∃ g, v = .agg #[.int .i64 nu, .int .i64 ep, .bool up, .int .i64 st, .int .i64 le, .int .i64 ta, .int .i64 co, .int .i64 lf, .slice (some ⟨g, 0, none⟩) n n, .string x, .int .i64 si] ∧ OwnC u10.heap.size w' 1 g 0 n n (ss.map Value.string) ∧ Below u10.heap.size u10 w') rfl (by kernel_rfl) (by kernel_rfl) (by kernel_rfl) (run_cl1 _ _ rfl (by kernel_rfl) rfl enter_toW) ((toWorker_any nu ep up st le ta co lf x si a b o n c ss _ (h.below' hBu10) hnn).mono fun _ _ ⟨⟨g, he, ho⟩, hb⟩ => ⟨_, he, g, rfl, ho, hb⟩) ?_)
        rintro _ u11 ⟨g2, rfl, ho2, hbu11⟩
        have hPWu11 := hPWu10.block (hbu11.block (w.heap.size) (by omega))
        have hPPu11 := hPPu10.block (hbu11.block (w.heap.size + 1) (by omega))
        have hBu11 := hBu10.trans (hbu11.mono hBu10.size)
        have hzu11 : w16.heap.size ≤ u11.heap.size := Nat.le_trans hzu10 hbu11.size
        have hlu11 : w.heap.size + 1 < u11.heap.size := Nat.lt_of_lt_of_le hlu10 hbu11.size
        have hDu11 := hDu10.trans (hbu11.mono hzu10)
        have h2su11 := StrsAt.ofOwn ho2 h.sz
        clear ho2
        have hAu11 := hAu10.block (hbu11.block pA (by omega))
        have hAlu11 : pA < u11.heap.size := Nat.lt_of_lt_of_le hAlu10 hbu11.size
        refine ⟨⟨hPWu11, hPPu11⟩, ?_⟩
        refine hOne (by kernel_rfl) (hCall (i := 3) (d := some 78) (f := 20) (args := #[.agg #[.slice pa pn pc]]) (l' := #[true, true, true, true, false, true, false]) (R := fun v w' => ∃ g, v = .agg #[.slice (some ⟨g, 0, none⟩) pn pn] ∧ TasksAt w' (some ⟨g, 0, none⟩) g 0 pn ts ∧ Below u11.heap.size u11 w') rfl (by kernel_rfl) (by kernel_rfl) (by kernel_rfl) (run_cl1 _ _ rfl (by kernel_rfl) rfl enter_toP) ((toPlan_any pa pb po pn pc ts _ (hp.below' hBu11) hpn).mono fun _ _ ⟨g, xs, he, _, _, ht, hb⟩ => ⟨_, he, g, rfl, ht, hb⟩) ?_)
        rintro _ u12 ⟨g3, rfl, ht3, hbu12⟩
        have hPWu12 := hPWu11.block (hbu12.block (w.heap.size) (by omega))
        have hPPu12 := hPPu11.block (hbu12.block (w.heap.size + 1) (by omega))
        have hBu12 := hBu11.trans (hbu12.mono hBu11.size)
        have hzu12 : w16.heap.size ≤ u12.heap.size := Nat.le_trans hzu11 hbu12.size
        have hlu12 : w.heap.size + 1 < u12.heap.size := Nat.lt_of_lt_of_le hlu11 hbu12.size
        have hDu12 := hDu11.trans (hbu12.mono hzu11)
        have h2su12 := h2su11.below' hbu12
        have ht3u12 := ht3
        have hAu12 := hAu11.block (hbu12.block pA (by omega))
        have hAlu12 : pA < u12.heap.size := Nat.lt_of_lt_of_le hAlu11 hbu12.size
        refine ⟨⟨hPWu12, hPPu12⟩, ?_⟩
        refine hOne (by kernel_rfl) (hCall (i := 4) (d := some 79) (f := 21) (args := #[.agg #[.int .i64 nu, .int .i64 ep, .bool up, .int .i64 st, .int .i64 le, .int .i64 ta, .int .i64 co, .int .i64 lf, .slice (some ⟨g2, 0, none⟩) n n, .string x, .int .i64 si], .agg #[.slice (some ⟨g3, 0, none⟩) pn pn]]) (l' := #[true, true, true, true, true, true, false]) (R := fun v w' => RetA (.returned v) u12.heap.size w' (tickR (⟨nu, ep, up, st, le, ta, co, lf, ss, x, si⟩ : WD) ts) ∧ Below u12.heap.size u12 w') rfl (by kernel_rfl) (by kernel_rfl) (by kernel_rfl) (run_cl2 _ _ _ rfl (by kernel_rfl) (by kernel_rfl) rfl enter_iTick) ((iTick_any nu ep up st le ta co lf _ g2 0 n n ss x si _ g3 0 pn pn ts _ h2su12 ht3u12).mono fun e _ ⟨he, hb⟩ => by obtain ⟨d, q, a, c, v, rfl, h1⟩ := he; exact ⟨_, rfl, ⟨d, q, a, c, v, rfl, h1⟩, hb⟩) ?_)
        rintro _ u13 ⟨hret, hbu13⟩
        have hPWu13 := hPWu12.block (hbu13.block (w.heap.size) (by omega))
        have hPPu13 := hPPu12.block (hbu13.block (w.heap.size + 1) (by omega))
        have hBu13 := hBu12.trans (hbu13.mono hBu12.size)
        have hzu13 : w16.heap.size ≤ u13.heap.size := Nat.le_trans hzu12 hbu13.size
        have hlu13 : w.heap.size + 1 < u13.heap.size := Nat.lt_of_lt_of_le hlu12 hbu13.size
        have hDu13 := hDu12.trans (hbu13.mono hzu12)
        have h2su13 := h2su12.below' hbu13
        have ht3u13 := ht3u12.below' hbu13
        have hAu13 := hAu12.block (hbu13.block pA (by omega))
        have hAlu13 : pA < u13.heap.size := Nat.lt_of_lt_of_le hAlu12 hbu13.size
        refine ⟨⟨hPWu13, hPPu13⟩, ?_⟩
        obtain ⟨⟨nu1, ep1, up1, st1, le1, ta1, co1, lf1, ss1, x1, si1⟩, q1, aw, cw, vw, hev, hoL, hoV, hdis, hF⟩ := hret
        simp only [Ending.returned.injEq] at hev
        subst hev
        dsimp only at hoL hdis
        obtain ⟨va, vc, rfl⟩ := hoV.slc
        have hloL := hoL.row_lo
        have hhiL := hoL.row_hi
        have hloV := hoV.row_lo
        have hhiV := hoV.row_hi
        have hoL := hoL.mono' hzu12
        have hoV := hoV.mono' hzu12
        obtain ⟨uz, huz⟩ : ∃ uz, uz = u13.setCells pA 0 [.int .i64 nu1, .int .i64 ep1, .bool up1, .int .i64 st1, .int .i64 le1, .int .i64 ta1, .int .i64 co1, .int .i64 lf1, .slice aw ss1.length cw, .string x1, .int .i64 si1, .slice va (outN q1) vc] := ⟨_, rfl⟩
        have hcz : CF uz pA [.int .i64 nu1, .int .i64 ep1, .bool up1, .int .i64 st1, .int .i64 le1, .int .i64 ta1, .int .i64 co1, .int .i64 lf1, .slice aw ss1.length cw, .string x1, .int .i64 si1, .slice va (outN q1) vc] := by rw [huz]; exact hAu13.stored rfl
        have hgz : u13.grownBy uz (some pA) := by rw [huz]; exact grown_setCells _ _ _ _ _ (World.grownBy.refl _ _)
        have hPWz := hPWu13.block (hgz.block (w.heap.size) (by omega) (by simp; omega))
        have hPPz := hPPu13.block (hgz.block (w.heap.size + 1) (by omega) (by simp; omega))
        have hBz := below_grown hBu13 hgz (by omega) (fun k hk => by simp at hk; omega)
        have hLz := hoL.grown hgz (.inr (by intro hh; have := hloL _ hh; have := hhiL _ hh; have := HPA.out; omega))
        have hVz := hoV.grown hgz (.inr (by intro hh; have := hloV _ hh; have := hhiV _ hh; have := HPA.out; omega))
        have hzz := below_grown hDu13 hgz (by omega) (fun k hk => by simp at hk; omega)
        refine hOne (by kernel_rfl) (hSkip (i := 6) (w' := uz) (l' := #[true, true, true, true, true, true, true]) rfl (by kernel_rfl) (by kernel_rfl) (by kernel_rfl) (by rw [huz]; exact run_stT 39 zA [.int .i64 nu1, .int .i64 ep1, .bool up1, .int .i64 st1, .int .i64 le1, .int .i64 ta1, .int .i64 co1, .int .i64 lf1, .slice aw ss1.length cw, .string x1, .int .i64 si1, .slice va (outN q1) vc] (.tmp 13) (.tmp 79) (by kernel_rfl) (by kernel_rfl) (by kernel_rfl) hAu13 rfl Try.sizeAc (one12 _ _ _ _ _ _ _ _ _ _ _ _ _ _ _ _)) ⟨hPWz, hPPz⟩ ?_)
        refine wpAnyH_done (by kernel_rfl) ?_ _
        have HR := hid (show ∃ (p : Nat) (nu1 ep1 : Int) (up1 : Bool) (st1 le1 ta1 co1 lf1 : Int) (ss1 : List ByteArray) (x1 : ByteArray) (si1 : Int) (q1 : Option OM) (aw : Option Addr) (cw : Nat) (vw : Value), (.pointer (some ⟨pA, 0, none⟩) : Value) = .pointer (some ⟨p, 0, none⟩) ∧ CF uz p [.int .i64 nu1, .int .i64 ep1, .bool up1, .int .i64 st1, .int .i64 le1, .int .i64 ta1, .int .i64 co1, .int .i64 lf1, .slice aw ss1.length cw, .string x1, .int .i64 si1, vw] ∧ tickR (⟨nu, ep, up, st, le, ta, co, lf, ss, x, si⟩ : WD) ts (⟨nu1, ep1, up1, st1, le1, ta1, co1, lf1, ss1, x1, si1⟩, q1) ∧ Own w16.heap.size uz 1 (.slice aw ss1.length cw) ss1.length (ss1.map Value.string) ∧ Own w16.heap.size uz 8 vw (outN q1) (outL q1) ∧ ((Value.slice aw ss1.length cw).ownBlock = none ∨ (Value.slice aw ss1.length cw).ownBlock ≠ vw.ownBlock) ∧ w16.heap.size ≤ p ∧ CF uz (w.heap.size) [.int .i64 nu, .int .i64 ep, .bool up, .int .i64 st, .int .i64 le, .int .i64 ta, .int .i64 co, .int .i64 lf, .slice a n c, .string x, .int .i64 si] ∧ CF uz (w.heap.size + 1) [.slice pa pn pc] ∧ Below w.heap.size w uz ∧ Below w16.heap.size w16 uz from ⟨pA, nu1, ep1, up1, st1, le1, ta1, co1, lf1, ss1, x1, si1, q1, aw, cw, .slice va (outN q1) vc, rfl, hcz, hF, hLz, hVz, hdis, hAb, hPWz, hPPz, hBz, hzz⟩)
        clear hcz hF hLz hVz hdis hPWz hPPz hBz hzz huz hgz hoL hoV hloL hhiL hloV hhiV
        go_wp2_with fail
        go_meet
        case rel => exact HR.out

    case rest =>
      obtain ⟨p2, nu2, ep2, up2, st2, le2, ta2, co2, lf2, ss2, x2, si2, q2, ah, ch, vh, rfl, hX, hF2, hoL, hoV, hdis, hpb, hPW2, hPP2, hBwd, hbd⟩ := hcut
      have hu := HF.out.uniq hF2
      simp only [Prod.mk.injEq, WD.mk.injEq] at hu
      obtain ⟨⟨rfl, rfl, rfl, rfl, rfl, rfl, rfl, rfl, rfl, rfl, rfl⟩, rfl⟩ := hu
      
      obtain ⟨vah, vch, rfl⟩ := hoV.slc
      have OL2 := hid hoL
      have OV2 := hid hoV
      have MH := hid hX
      clear hX hF2 hoL hoV hdis hpb hPW2 hPP2 hBwd
      have hBwc := hBw16.trans (hbd.mono hBw16.size)
      have zwc := hid (hbd.size)
      have MW_wc := hid (MW_w16.out.belowS hbd)
      clear MW_w16
      have ST_wc := hid (ST_w16.out.below' hbd)
      clear ST_w16
      have OV_wc := hid (OV_w16.out.below hbd (Nat.le_refl _))
      clear OV_w16
      have MG_wc := hid (MG_w16.out.belowS hbd)
      clear MG_w16
      have SM_wc := hid (SM_w16.out.below' hbd)
      clear SM_w16
      have MK_wc := hid (MK_w16.out.block hbd)
      clear MK_w16
      clear hbd hBw16
      have c0 : wc.cell? ⟨p2, 0, none⟩ = some (.int .i64 nu1) := (MH.out 0 (by simp)).1
      have c1 : wc.cell? ⟨p2, 1, none⟩ = some (.int .i64 ep1) := (MH.out 1 (by simp)).1
      have c2 : wc.cell? ⟨p2, 2, none⟩ = some (.bool up1) := (MH.out 2 (by simp)).1
      have c3 : wc.cell? ⟨p2, 3, none⟩ = some (.int .i64 st1) := (MH.out 3 (by simp)).1
      have c4 : wc.cell? ⟨p2, 4, none⟩ = some (.int .i64 le1) := (MH.out 4 (by simp)).1
      have c5 : wc.cell? ⟨p2, 5, none⟩ = some (.int .i64 ta1) := (MH.out 5 (by simp)).1
      have c6 : wc.cell? ⟨p2, 6, none⟩ = some (.int .i64 co1) := (MH.out 6 (by simp)).1
      have c7 : wc.cell? ⟨p2, 7, none⟩ = some (.int .i64 lf1) := (MH.out 7 (by simp)).1
      have c8 : wc.cell? ⟨p2, 8, none⟩ = some (.slice ah ss1.length ch) := (MH.out 8 (by simp)).1
      have c9 : wc.cell? ⟨p2, 9, none⟩ = some (.string x1) := (MH.out 9 (by simp)).1
      have c10 : wc.cell? ⟨p2, 10, none⟩ = some (.int .i64 si1) := (MH.out 10 (by simp)).1
      have c11 : wc.cell? ⟨p2, 11, none⟩ = some (.slice vah (outN q1) vch) := (MH.out 11 (by simp)).1
      have kq0 : wc.cell? ⟨p, 0, none⟩ = some (.int .i64 nu1) := (MW_wc.out 0 (by simp)).1
      have kq1 : wc.cell? ⟨p, 1, none⟩ = some (.int .i64 ep1) := (MW_wc.out 1 (by simp)).1
      have kq2 : wc.cell? ⟨p, 2, none⟩ = some (.bool up1) := (MW_wc.out 2 (by simp)).1
      have kq3 : wc.cell? ⟨p, 3, none⟩ = some (.int .i64 st1) := (MW_wc.out 3 (by simp)).1
      have kq4 : wc.cell? ⟨p, 4, none⟩ = some (.int .i64 le1) := (MW_wc.out 4 (by simp)).1
      have kq5 : wc.cell? ⟨p, 5, none⟩ = some (.int .i64 ta1) := (MW_wc.out 5 (by simp)).1
      have kq6 : wc.cell? ⟨p, 6, none⟩ = some (.int .i64 co1) := (MW_wc.out 6 (by simp)).1
      have kq7 : wc.cell? ⟨p, 7, none⟩ = some (.int .i64 lf1) := (MW_wc.out 7 (by simp)).1
      have kq8 : wc.cell? ⟨p, 8, none⟩ = some (.slice aw ss1.length cw) := (MW_wc.out 8 (by simp)).1
      have kq9 : wc.cell? ⟨p, 9, none⟩ = some (.string x1) := (MW_wc.out 9 (by simp)).1
      have kq10 : wc.cell? ⟨p, 10, none⟩ = some (.int .i64 si1) := (MW_wc.out 10 (by simp)).1
      have kq11 : wc.cell? ⟨p, 11, none⟩ = some (.slice va (outN q1) vc) := (MW_wc.out 11 (by simp)).1
      obtain ⟨bi, oi, hSi, hbi⟩ := OL2.out.strsB HSZ.out
      go_wp2_with fail
      refine (eqActed_any nu1 ep1 up1 st1 le1 ta1 co1 lf1 x1 si1 ah aw bi oi ss1.length ch bs os cw ss1 q1 _ _ _ _ _ hSi ST_wc.out OV2.out OV_wc.out).mono ?_
      rintro e' w18 ⟨rfl, hb⟩
      clear hSi hbi bi oi
      clear c0 c1 c2 c3 c4 c5 c6 c7 c8 c9 c10 c11
      clear kq0 kq1 kq2 kq3 kq4 kq5 kq6 kq7 kq8 kq9 kq10 kq11
      have hBw18 := hBwc.trans (hb.mono hBwc.size)
      have zw18 := hid (hb.size)
      have MW_w18 := hid (MW_wc.out.belowS hb)
      clear MW_wc
      have ST_w18 := hid (ST_wc.out.below' hb)
      clear ST_wc
      have OV_w18 := hid (OV_wc.out.below hb (Nat.le_refl _))
      clear OV_wc
      have MG_w18 := hid (MG_wc.out.belowS hb)
      clear MG_wc
      have SM_w18 := hid (SM_wc.out.below' hb)
      clear SM_wc
      have MK_w18 := hid (MK_wc.out.block hb)
      clear MK_wc
      have OL2_w18 := hid (OL2.out.below hb (Nat.le_refl _))
      clear OL2
      have OV2_w18 := hid (OV2.out.below hb (Nat.le_refl _))
      clear OV2
      have MH_w18 := hid (MH.out.belowS hb)
      clear MH
      clear hb hBwc
      have c0 : w18.cell? ⟨w6.heap.size, 0, none⟩ = some (.int .i64 nu1) := (MG_w18.out 0 (by simp)).1
      have c1 : w18.cell? ⟨w6.heap.size, 1, none⟩ = some (.int .i64 ep1) := (MG_w18.out 1 (by simp)).1
      have c2 : w18.cell? ⟨w6.heap.size, 2, none⟩ = some (.bool up1) := (MG_w18.out 2 (by simp)).1
      have c3 : w18.cell? ⟨w6.heap.size, 3, none⟩ = some (.int .i64 st1) := (MG_w18.out 3 (by simp)).1
      have c4 : w18.cell? ⟨w6.heap.size, 4, none⟩ = some (.int .i64 le1) := (MG_w18.out 4 (by simp)).1
      have c5 : w18.cell? ⟨w6.heap.size, 5, none⟩ = some (.int .i64 ta1) := (MG_w18.out 5 (by simp)).1
      have c6 : w18.cell? ⟨w6.heap.size, 6, none⟩ = some (.int .i64 co1) := (MG_w18.out 6 (by simp)).1
      have c7 : w18.cell? ⟨w6.heap.size, 7, none⟩ = some (.int .i64 lf1) := (MG_w18.out 7 (by simp)).1
      have c8 : w18.cell? ⟨w6.heap.size, 8, none⟩ = some (.slice ai ss1.length ci) := (MG_w18.out 8 (by simp)).1
      have c9 : w18.cell? ⟨w6.heap.size, 9, none⟩ = some (.string x1) := (MG_w18.out 9 (by simp)).1
      have c10 : w18.cell? ⟨w6.heap.size, 10, none⟩ = some (.int .i64 si1) := (MG_w18.out 10 (by simp)).1
      have c11 : w18.cell? ⟨w6.heap.size, 11, none⟩ = some (.slice vai (outN q1) vci) := (MG_w18.out 11 (by simp)).1
      go_wp2_with fail
      refine (heldActed_any nu1 ep1 up1 st1 le1 ta1 co1 lf1 x1 si1 ai bm om ss1.length ci q1 _ _ hn1 SM_w18.out MK_w18.out ⟨_, _, rfl⟩).mono ?_
      rintro e' w19 ⟨rfl, hb⟩
      clear c0 c1 c2 c3 c4 c5 c6 c7 c8 c9 c10 c11
      have hBw19 := hBw18.trans (hb.mono hBw18.size)
      have zw19 := hid (hb.size)
      have MW_w19 := hid (MW_w18.out.belowS hb)
      clear MW_w18
      have ST_w19 := hid (ST_w18.out.below' hb)
      clear ST_w18
      have OV_w19 := hid (OV_w18.out.below hb (Nat.le_refl _))
      clear OV_w18
      have MG_w19 := hid (MG_w18.out.belowS hb)
      clear MG_w18
      have SM_w19 := hid (SM_w18.out.below' hb)
      clear SM_w18
      have MK_w19 := hid (MK_w18.out.block hb)
      clear MK_w18
      have OL2_w19 := hid (OL2_w18.out.below hb (Nat.le_refl _))
      clear OL2_w18
      have OV2_w19 := hid (OV2_w18.out.below hb (Nat.le_refl _))
      clear OV2_w18
      have MH_w19 := hid (MH_w18.out.belowS hb)
      clear MH_w18
      clear hb hBw18
      go_wp2
      go_ret
      exact ⟨rfl, hBw19⟩
end Go.Proofs.Ytlpmcjlcmjlbeaa
