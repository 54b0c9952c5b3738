import Derived.Test.YtbfamabkbkpmpaaGreatQBoo
namespace Go.Proofs.YtbfamabkbkpmpaaGreat
open Go.RowKit

theorem BD.story {d : BD} {ts : List TaskD} {c E : Int} {R : List ByteArray} (h : d.ok ts) (hs : StoryIs ts (d.L1 ++ d.L2) c E R) : c = 0 ∧ (∀ s ∈ R, s.size ≤ 8) ∧ R.length = ts.length ∧ 0 ≤ E ∧ E ≤ 300 := by
  obtain ⟨hc, _, _, E', Q, hr, _⟩ := h
  rcases hs with ⟨hs, _⟩ | ⟨_, hs⟩
  · exact absurd hc hs
  · rcases hs with ⟨hs, _⟩ | ⟨hs, h0⟩
    · rw [hs] at hr; cases hr
    · have h1 := rep_ok _ (st0_ok ts.length) hs
      have h2 := rep_300 _ (by simp [st0]) hs
      exact ⟨h0, h1.2.2.2, h1.2.2.1, h1.1, h2⟩
theorem BD.told2 {d : BD} {ts : List TaskD} {c E : Int} {R : List ByteArray} (h : d.ok ts) (hu : d.up = false) (hs : StoryIs ts (d.L1 ++ d.L2) c E R) : Go.Proofs.YtbfamabkbkpmpaaGreat.told d ts E R := by
  obtain ⟨E', R', ht⟩ := BD.told h hu
  have e2 : d.L2 = [] := by rw [BD.dn h hu]
  rcases hs with ⟨hs, _⟩ | ⟨_, hs⟩
  · exact absurd h.1 hs
  · rw [e2, List.append_nil] at hs
    rcases hs with ⟨hs, _⟩ | ⟨hs, h0⟩
    · have h5 := ht.1; rw [hs] at h5; cases h5
    · have e := ht.1.symm.trans hs
      cases e
      exact ht
/-- What stays while a coordinator rises: the argument's box, the plan's, the answer's. -/
structure RiSt (w0 : World) (pa : Option Addr) (pn pc : Nat) (cs : List Value) (wx : World) : Prop where
  P : CF wx w0.heap.size cs
  L : CF wx (w0.heap.size + 1) [.slice pa pn pc]
  R : CF wx (w0.heap.size + 2) zB
  B : Below w0.heap.size w0 wx
  z : w0.heap.size + 3 ≤ wx.heap.size
theorem RiSt.below {w0 : World} {pa : Option Addr} {pn pc : Nat} {cs : List Value} {wx wy : World} (h : RiSt w0 pa pn pc cs wx) (hb : Below wx.heap.size wx wy) : RiSt w0 pa pn pc cs wy :=
  ⟨h.P.block (hb.block _ (by have := h.z; omega)), h.L.block (hb.block _ (by have := h.z; omega)), h.R.block (hb.block _ (by have := h.z; omega)), h.B.trans (hb.mono h.B.size), Nat.le_trans h.z hb.size⟩
theorem RiSt.alloc {w0 : World} {pa : Option Addr} {pn pc : Nat} {cs : List Value} {wx : World} (h : RiSt w0 pa pn pc cs wx) (ob : Obj) : RiSt w0 pa pn pc cs (wx.alloc ob) :=
  h.below ((Below.refl _ _).alloc (Nat.le_refl _) _)
theorem RiSt.drew {w0 : World} {pa : Option Addr} {pn pc : Nat} {cs : List Value} {wx : World} (h : RiSt w0 pa pn pc cs wx) : RiSt w0 pa pn pc cs wx.drew :=
  ⟨h.P, h.L, h.R, h.B.drew, h.z⟩
theorem RiSt.grown {w0 : World} {pa : Option Addr} {pn pc : Nat} {cs : List Value} {wx wy : World} {row : Option Nat} (h : RiSt w0 pa pn pc cs wx) (hg : wx.grownBy wy row) (hr : ∀ q, row = some q → w0.heap.size + 3 ≤ q) : RiSt w0 pa pn pc cs wy :=
  ⟨h.P.block (hg.block _ (by have := h.z; omega) (fun e => by have := hr _ e.symm; omega)), h.L.block (hg.block _ (by have := h.z; omega) (fun e => by have := hr _ e.symm; omega)), h.R.block (hg.block _ (by have := h.z; omega) (fun e => by have := hr _ e.symm; omega)), below_grown h.B hg h.B.size (fun q hq => by have := hr q hq; omega), Nat.le_trans h.z hg.size⟩
theorem RiSt.set {w0 : World} {pa : Option Addr} {pn pc : Nat} {cs : List Value} {wx : World} (h : RiSt w0 pa pn pc cs wx) (j : Nat) (hj : j < cs.length) (u : Value) : RiSt w0 pa pn pc (cs.set j u) (wx.setCell ⟨w0.heap.size, j, none⟩ u) :=
  ⟨h.P.set hj u, h.L.block (Below.heap_setCell wx (⟨w0.heap.size, j, none⟩ : Addr) u (w0.heap.size + 1) (by dsimp only; omega)), h.R.block (Below.heap_setCell wx (⟨w0.heap.size, j, none⟩ : Addr) u (w0.heap.size + 2) (by dsimp only; omega)), h.B.setCell (p := ⟨w0.heap.size, j, none⟩) (by dsimp only; omega) u, by have := h.z; simpa [World.setCell] using this⟩
theorem Dj.later {x y : Option Nat} {m : Nat} (hx : ∀ q, x = some q → q < m) (hy : ∀ q, y = some q → m ≤ q) : Dj x y := by
  cases x with
  | none => exact .inl rfl
  | some q => exact .inr (fun e => by have h5 := hx q rfl; have h6 := hy q e.symm; omega)
theorem Own.setLow {B : Nat} {w : World} {size : Nat} {v : Value} {n : Nat} {xs : List Value} (h : Own B w size v n xs) {q j : Nat} (hq : q < B) (u : Value) : Own B (w.setCell ⟨q, j, none⟩ u) size v n xs :=
  h.grown (gset (World.grownBy.refl w (some q)) j u) (.inr (by intro hh; have := h.row_lo _ hh; omega))
theorem run_bsS {ρ : Operand → Value} {o : Oper} {w : World} (x : Operand) (s : ByteArray) (h : o.op = .buildSlice 22 1 #[(0, x)]) (hx : ρ x = .string s) :
    (execOp ρ o).run Tryz.prog w = .ok (.value (.slice (some ⟨w.heap.size, 0, none⟩) 1 1)) (w.alloc (.cells #[.string s] 9)) := by
  unfold execOp
  rw [h]
  simp [go_sem, hx]
theorem run_bEn {ρ : Operand → Value} {o : Oper} {w : World} (x : Operand) (e : Int) (h : o.op = .build 80 #[(0, .const (.int .i64 1)), (1, x)]) (hk : ρ (.const (.int .i64 1)) = .int .i64 1) (hx : ρ x = .int .i64 e) :
    (execOp ρ o).run Tryz.prog w = .ok (.value (.agg #[.int .i64 1, .int .i64 e, .int .i64 0, .string ⟨#[]⟩])) w := by
  unfold execOp
  rw [h]
  simp [go_sem, hx, hk]
theorem run_stS {ρ : Operand → Value} {o : Oper} {w : World} {p : Addr} {a : Option Addr} {n c : Nat} {v0 : Value} (x y : Operand) (h : o.op = .store 22 x y) (hx : ρ x = .pointer (some p)) (hy : ρ y = .slice a n c) (hc : w.cell? p = some v0) (hf : w.frozen? p = false) :
    (execOp ρ o).run Tryz.prog w = .ok .skip (w.setCell p (.slice a n c)) := by
  unfold execOp
  rw [h]
  simp [go_sem, hx, hy, hc, hf]
theorem enter_iFE (v1 : Value) (w : World) : Sem.run Tryz.prog (callFunc 39 #[v1]) w = .ok (.enter 39 #[v1]) w := by kernel_rfl

set_option maxHeartbeats 4000000 in
set_option maxRecDepth 100000 in
theorem iRiseB_any (d : BD) (h : BH) (pa : Option Addr) (pb po pn pc : Nat) (ts : List TaskD) (w : World) (hM : BossM w d h) (hT : TasksAt w pa pb po pn ts) (hs : d.small) :
    Calls Tryz.prog 10 #[.agg #[.int .i64 d.wk, .bool d.up, .int .i64 d.now, .int .i64 d.sn, .int .i64 d.ep, .int .i64 d.gv, .slice h.a1 d.L1.length h.c1, .slice h.a2 d.L2.length h.c2, .slice h.ar d.R.length h.cr, .slice h.aj d.J.length h.cj, .slice h.az d.S.length h.cs, .slice h.ao d.O.length h.co], .agg #[.slice pa pn pc]] w fun e w' => (∃ d', RetBs e w.heap.size w' d' ∧ riseR2 d ts d') ∧ Below w.heap.size w w' := by
  obtain ⟨i0, hi0, hz00, hz01, hz02⟩ := info_parts Tryz.infoSt
  obtain ⟨i3, hi3, hz30, hz31, hz32⟩ := info_parts Tryz.infoJb
  obtain ⟨i4, hi4, hz40, hz41, hz42⟩ := info_parts Tryz.infoSe
  obtain ⟨W, hW⟩ : ∃ W, W = ((w.alloc (.cells #[.int .i64 d.wk, .bool d.up, .int .i64 d.now, .int .i64 d.sn, .int .i64 d.ep, .int .i64 d.gv, .slice h.a1 d.L1.length h.c1, .slice h.a2 d.L2.length h.c2, .slice h.ar d.R.length h.cr, .slice h.aj d.J.length h.cj, .slice h.az d.S.length h.cs, .slice h.ao d.O.length h.co] 40)).alloc (.cells #[.slice pa pn pc] 45)).alloc (.cells #[.int .i64 0, .bool false, .int .i64 0, .int .i64 0, .int .i64 0, .int .i64 0, .slice none 0 0, .slice none 0 0, .slice none 0 0, .slice none 0 0, .slice none 0 0, .slice none 0 0] 40) := ⟨_, rfl⟩
  have B0 : Below w.heap.size w W := by rw [hW]; exact (((Below.refl _ _).alloc (Nat.le_refl _) _).alloc (by simp) _).alloc (by simp; omega) _
  have z0 : w.heap.size + 3 ≤ W.heap.size := by rw [hW]; simp
  have P0 : CF W w.heap.size [.int .i64 d.wk, .bool d.up, .int .i64 d.now, .int .i64 d.sn, .int .i64 d.ep, .int .i64 d.gv, .slice h.a1 d.L1.length h.c1, .slice h.a2 d.L2.length h.c2, .slice h.ar d.R.length h.cr, .slice h.aj d.J.length h.cj, .slice h.az d.S.length h.cs, .slice h.ao d.O.length h.co] := by
    rw [hW]; exact ((CF.made w #[.int .i64 d.wk, .bool d.up, .int .i64 d.now, .int .i64 d.sn, .int .i64 d.ep, .int .i64 d.gv, .slice h.a1 d.L1.length h.c1, .slice h.a2 d.L2.length h.c2, .slice h.ar d.R.length h.cr, .slice h.aj d.J.length h.cj, .slice h.az d.S.length h.cs, .slice h.ao d.O.length h.co] 40).block (Below.heap_alloc _ _ _ (by simp))).block (Below.heap_alloc _ _ _ (by simp; omega))
  have L0 : CF W (w.heap.size + 1) [.slice pa pn pc] := by
    rw [hW]
    have := (CF.made (w.alloc (.cells #[.int .i64 d.wk, .bool d.up, .int .i64 d.now, .int .i64 d.sn, .int .i64 d.ep, .int .i64 d.gv, .slice h.a1 d.L1.length h.c1, .slice h.a2 d.L2.length h.c2, .slice h.ar d.R.length h.cr, .slice h.aj d.J.length h.cj, .slice h.az d.S.length h.cs, .slice h.ao d.O.length h.co] 40)) #[.slice pa pn pc] 45).block (Below.heap_alloc ((w.alloc (.cells #[.int .i64 d.wk, .bool d.up, .int .i64 d.now, .int .i64 d.sn, .int .i64 d.ep, .int .i64 d.gv, .slice h.a1 d.L1.length h.c1, .slice h.a2 d.L2.length h.c2, .slice h.ar d.R.length h.cr, .slice h.aj d.J.length h.cj, .slice h.az d.S.length h.cs, .slice h.ao d.O.length h.co] 40)).alloc (.cells #[.slice pa pn pc] 45)) (.cells #[.int .i64 0, .bool false, .int .i64 0, .int .i64 0, .int .i64 0, .int .i64 0, .slice none 0 0, .slice none 0 0, .slice none 0 0, .slice none 0 0, .slice none 0 0, .slice none 0 0] 40) _ (by simp))
    simpa using this
  have R0 : CF W (w.heap.size + 2) zB := by
    rw [hW]
    have := CF.made ((w.alloc (.cells #[.int .i64 d.wk, .bool d.up, .int .i64 d.now, .int .i64 d.sn, .int .i64 d.ep, .int .i64 d.gv, .slice h.a1 d.L1.length h.c1, .slice h.a2 d.L2.length h.c2, .slice h.ar d.R.length h.cr, .slice h.aj d.J.length h.cj, .slice h.az d.S.length h.cs, .slice h.ao d.O.length h.co] 40)).alloc (.cells #[.slice pa pn pc] 45)) #[.int .i64 0, .bool false, .int .i64 0, .int .i64 0, .int .i64 0, .int .i64 0, .slice none 0 0, .slice none 0 0, .slice none 0 0, .slice none 0 0, .slice none 0 0, .slice none 0 0] 40
    simpa [zB] using this
  have hV0 : BossV w d [.int .i64 d.wk, .bool d.up, .int .i64 d.now, .int .i64 d.sn, .int .i64 d.ep, .int .i64 d.gv, .slice h.a1 d.L1.length h.c1, .slice h.a2 d.L2.length h.c2, .slice h.ar d.R.length h.cr, .slice h.aj d.J.length h.cj, .slice h.az d.S.length h.cs, .slice h.ao d.O.length h.co] := ⟨h, rfl, hM⟩
  have hV := hid (hV0.below' B0)
  have hs' := hid hs
  clear hV0 hs
  have HW := hid hW
  clear hW
  go_enter Tryz.func10, Tryz.ntmps10
  go_upto_region 1 with fail
  rw [← HW.out]
  clear HW
  have y0 : W.cell? ⟨w.heap.size, 0, none⟩ = some (.int .i64 d.wk) := (P0 0 (by simp)).1
  have y1 : W.cell? ⟨w.heap.size, 1, none⟩ = some (.bool d.up) := (P0 1 (by simp)).1
  have y2 : W.cell? ⟨w.heap.size, 2, none⟩ = some (.int .i64 d.now) := (P0 2 (by simp)).1
  have y3 : W.cell? ⟨w.heap.size, 3, none⟩ = some (.int .i64 d.sn) := (P0 3 (by simp)).1
  have y4 : W.cell? ⟨w.heap.size, 4, none⟩ = some (.int .i64 d.ep) := (P0 4 (by simp)).1
  have y5 : W.cell? ⟨w.heap.size, 5, none⟩ = some (.int .i64 d.gv) := (P0 5 (by simp)).1
  have y6 : W.cell? ⟨w.heap.size, 6, none⟩ = some (.slice h.a1 d.L1.length h.c1) := (P0 6 (by simp)).1
  have y7 : W.cell? ⟨w.heap.size, 7, none⟩ = some (.slice h.a2 d.L2.length h.c2) := (P0 7 (by simp)).1
  have y8 : W.cell? ⟨w.heap.size, 8, none⟩ = some (.slice h.ar d.R.length h.cr) := (P0 8 (by simp)).1
  have y9 : W.cell? ⟨w.heap.size, 9, none⟩ = some (.slice h.aj d.J.length h.cj) := (P0 9 (by simp)).1
  have y10 : W.cell? ⟨w.heap.size, 10, none⟩ = some (.slice h.az d.S.length h.cs) := (P0 10 (by simp)).1
  have y11 : W.cell? ⟨w.heap.size, 11, none⟩ = some (.slice h.ao d.O.length h.co) := (P0 11 (by simp)).1
  have kp : W.cell? ⟨w.heap.size + 1, 0, none⟩ = some (.slice pa pn pc) := (L0 0 (by simp)).1
  go_wp2_with fail
  refine (iValBV_any d _ _ _ _ _ _ _ _ _ _ _ _ pa pb po pn pc ts _ hV.out (hT.below' B0) hs'.out).mono ?_
  rintro e w1 ⟨⟨r, rfl, hr⟩, hb1⟩
  clear y0 y1 y2 y3 y4 y5 y6 y7 y8 y9 y10 y11 kp
  have L1 := L0.block (hb1.block (w.heap.size + 1) (by omega))
  have P1 := P0.block (hb1.block w.heap.size (by omega))
  have R1 := R0.block (hb1.block (w.heap.size + 2) (by omega))
  have B1 := B0.trans (hb1.mono B0.size)
  have z1 : w.heap.size + 3 ≤ w1.heap.size := by have := hb1.size; omega
  have HR := hid hr
  clear hr hb1 P0 R0 B0 z0 L0
  cases r with
  | false =>
    have HN : Hid (¬ d.ok ts) := fun hh => by have := HR.out.2 hh; cases this
    go_upto_region 2 with fail
    go_wp2_with (refine wpList_store_cf rfl 40 (.tmp 4) (.tmp 10) rfl (w.heap.size + 2) zB [.int .i64 0, .bool false, .int .i64 0, .int .i64 0, .int .i64 0, .int .i64 0, .slice none 0 0, .slice none 0 0, .slice none 0 0, .slice none 0 0, .slice none 0 0, .slice none 0 0] rfl rfl R1 rfl Tryz.sizeBo (one12b _ _ _ _ _ _ _ _ _ _ _ _ _ _ _ _ _ _ _ _ _ _ _ _) ?_; intro w10 hc10 hg10)
    have k0 : w10.cell? ⟨w.heap.size + 2, 0, none⟩ = some (.int .i64 0) := (hc10 0 (by simp)).1
    have k1 : w10.cell? ⟨w.heap.size + 2, 1, none⟩ = some (.bool false) := (hc10 1 (by simp)).1
    have k2 : w10.cell? ⟨w.heap.size + 2, 2, none⟩ = some (.int .i64 0) := (hc10 2 (by simp)).1
    have k3 : w10.cell? ⟨w.heap.size + 2, 3, none⟩ = some (.int .i64 0) := (hc10 3 (by simp)).1
    have k4 : w10.cell? ⟨w.heap.size + 2, 4, none⟩ = some (.int .i64 0) := (hc10 4 (by simp)).1
    have k5 : w10.cell? ⟨w.heap.size + 2, 5, none⟩ = some (.int .i64 0) := (hc10 5 (by simp)).1
    have k6 : w10.cell? ⟨w.heap.size + 2, 6, none⟩ = some (.slice none 0 0) := (hc10 6 (by simp)).1
    have k7 : w10.cell? ⟨w.heap.size + 2, 7, none⟩ = some (.slice none 0 0) := (hc10 7 (by simp)).1
    have k8 : w10.cell? ⟨w.heap.size + 2, 8, none⟩ = some (.slice none 0 0) := (hc10 8 (by simp)).1
    have k9 : w10.cell? ⟨w.heap.size + 2, 9, none⟩ = some (.slice none 0 0) := (hc10 9 (by simp)).1
    have k10 : w10.cell? ⟨w.heap.size + 2, 10, none⟩ = some (.slice none 0 0) := (hc10 10 (by simp)).1
    have k11 : w10.cell? ⟨w.heap.size + 2, 11, none⟩ = some (.slice none 0 0) := (hc10 11 (by simp)).1
    exact bodyPost_ret (v := .agg #[.int .i64 0, .bool false, .int .i64 0, .int .i64 0, .int .i64 0, .int .i64 0, .slice none 0 0, .slice none 0 0, .slice none 0 0, .slice none 0 0, .slice none 0 0, .slice none 0 0]) (by simp [results, Tryz.results10, go_sem, k0, k1, k2, k3, k4, k5, k6, k7, k8, k9, k10, k11]) rfl ⟨⟨zBD, ⟨_, rfl, zBO _ _⟩, .inr ⟨HN.out, rfl⟩⟩, below_grown B1 hg10 (by omega) (fun q hq => by simp at hq; omega)⟩
  | true =>
    have HV : Hid (d.ok ts) := HR.out.1 rfl
    have hsm := hs'.out
    unfold BD.small at hsm
    obtain ⟨⟨b1, o1, h1⟩, ⟨b2, o2, h2⟩, ⟨b3, o3, h3⟩, ⟨b4, o4, h4⟩, ⟨b5, o5, h5⟩, ⟨b6, o6, h6⟩⟩ := hM
    have y0 : w1.cell? ⟨w.heap.size, 0, none⟩ = some (.int .i64 d.wk) := (P1 0 (by simp)).1
    have y1 : w1.cell? ⟨w.heap.size, 1, none⟩ = some (.bool d.up) := (P1 1 (by simp)).1
    have y2 : w1.cell? ⟨w.heap.size, 2, none⟩ = some (.int .i64 d.now) := (P1 2 (by simp)).1
    have y3 : w1.cell? ⟨w.heap.size, 3, none⟩ = some (.int .i64 d.sn) := (P1 3 (by simp)).1
    have y4 : w1.cell? ⟨w.heap.size, 4, none⟩ = some (.int .i64 d.ep) := (P1 4 (by simp)).1
    have y5 : w1.cell? ⟨w.heap.size, 5, none⟩ = some (.int .i64 d.gv) := (P1 5 (by simp)).1
    have y6 : w1.cell? ⟨w.heap.size, 6, none⟩ = some (.slice h.a1 d.L1.length h.c1) := (P1 6 (by simp)).1
    have y7 : w1.cell? ⟨w.heap.size, 7, none⟩ = some (.slice h.a2 d.L2.length h.c2) := (P1 7 (by simp)).1
    have y8 : w1.cell? ⟨w.heap.size, 8, none⟩ = some (.slice h.ar d.R.length h.cr) := (P1 8 (by simp)).1
    have y9 : w1.cell? ⟨w.heap.size, 9, none⟩ = some (.slice h.aj d.J.length h.cj) := (P1 9 (by simp)).1
    have y10 : w1.cell? ⟨w.heap.size, 10, none⟩ = some (.slice h.az d.S.length h.cs) := (P1 10 (by simp)).1
    have y11 : w1.cell? ⟨w.heap.size, 11, none⟩ = some (.slice h.ao d.O.length h.co) := (P1 11 (by simp)).1
    go_upto_region 4 with (first | (go_at_call 36; refine (copyBoss_any d.wk d.up d.now d.sn d.ep d.gv h.a1 h.a2 h.ar h.aj h.az h.ao b1 o1 _ h.c1 b2 o2 _ h.c2 b3 o3 _ h.cr b4 o4 _ h.cj b5 o5 _ h.cs b6 o6 _ h.co d.L1 d.L2 d.R d.J d.S d.O _ (h1.below' B1) (h2.below' B1) (h3.below' B1) (h4.below' B1) (h5.below' B1) (h6.below' B1) (by omega) (by omega) (by omega) (by omega) (by omega) (by omega)).mono ?_; rintro e w2 ⟨a0_, c0_, a1_, c1_, a2_, c2_, a3_, c3_, a4_, c4_, a5_, c5_, rfl, ⟨q0, q1, q2, q3, q4, q5⟩, hdis, hb2⟩; have P2 := P1.block (hb2.block w.heap.size (by omega)); have L2 := L1.block (hb2.block (w.heap.size + 1) (by omega)); have R2 := R1.block (hb2.block (w.heap.size + 2) (by omega)); have B2 := B1.trans (hb2.mono B1.size); have z2 : w.heap.size + 3 ≤ w2.heap.size := (by have := hb2.size; omega)) | (refine wpList_store_cf rfl 40 (.tmp 2) (.tmp 12) rfl w.heap.size [.int .i64 d.wk, .bool d.up, .int .i64 d.now, .int .i64 d.sn, .int .i64 d.ep, .int .i64 d.gv, .slice h.a1 d.L1.length h.c1, .slice h.a2 d.L2.length h.c2, .slice h.ar d.R.length h.cr, .slice h.aj d.J.length h.cj, .slice h.az d.S.length h.cs, .slice h.ao d.O.length h.co] [.int .i64 d.wk, .bool d.up, .int .i64 d.now, .int .i64 d.sn, .int .i64 d.ep, .int .i64 d.gv, .slice a0_ d.L1.length c0_, .slice a1_ d.L2.length c1_, .slice a2_ d.R.length c2_, .slice a3_ d.J.length c3_, .slice a4_ d.S.length c4_, .slice a5_ d.O.length c5_] rfl rfl P2 rfl Tryz.sizeBo (one12b _ _ _ _ _ _ _ _ _ _ _ _ _ _ _ _ _ _ _ _ _ _ _ _) ?_; intro w3 P3 hg3))
    have L3 := L2.block (hg3.block (w.heap.size + 1) (by omega) (by intro hh; injection hh with hh; omega))
    have R3 := R2.block (hg3.block (w.heap.size + 2) (by omega) (by intro hh; injection hh with hh; omega))
    have B3 := below_grown B2 hg3 (by omega) (fun q hq => by simp at hq; omega)
    have z3 : w.heap.size + 3 ≤ w3.heap.size := Nat.le_trans z2 hg3.size
    have S3 : RiSt w pa pn pc [.int .i64 d.wk, .bool d.up, .int .i64 d.now, .int .i64 d.sn, .int .i64 d.ep, .int .i64 d.gv, .slice a0_ d.L1.length c0_, .slice a1_ d.L2.length c1_, .slice a2_ d.R.length c2_, .slice a3_ d.J.length c3_, .slice a4_ d.S.length c4_, .slice a5_ d.O.length c5_] w3 := ⟨P3, L3, R3, B3, z3⟩
    have q03 := (q0.grown hg3 (.inr (by intro hh; have := q0.row_lo _ hh; omega))).mono' z1
    have q13 := (q1.grown hg3 (.inr (by intro hh; have := q1.row_lo _ hh; omega))).mono' z1
    have q23 := (q2.grown hg3 (.inr (by intro hh; have := q2.row_lo _ hh; omega))).mono' z1
    have q33 := (q3.grown hg3 (.inr (by intro hh; have := q3.row_lo _ hh; omega))).mono' z1
    have q43 := (q4.grown hg3 (.inr (by intro hh; have := q4.row_lo _ hh; omega))).mono' z1
    have q53 := (q5.grown hg3 (.inr (by intro hh; have := q5.row_lo _ hh; omega))).mono' z1
    have HDIS := hid hdis
    clear y0 y1 y2 y3 y4 y5 y6 y7 y8 y9 y10 y11 hdis hb2 P2 L2 R2 B2 z2 hg3 q0 q1 q2 q3 q4 q5 P1 L1 R1 B1 P3 L3 R3 B3 z3 z1
    have kp : w3.cell? ⟨w.heap.size + 1, 0, none⟩ = some (.slice pa pn pc) := (S3.L 0 (by simp)).1
    have y6 : w3.cell? ⟨w.heap.size, 6, none⟩ = some (.slice a0_ d.L1.length c0_) := (S3.P 6 (by simp)).1
    have y7 : w3.cell? ⟨w.heap.size, 7, none⟩ = some (.slice a1_ d.L2.length c1_) := (S3.P 7 (by simp)).1
    obtain ⟨b7, o7, hs7, _⟩ := q03.statB h1.sz
    obtain ⟨b8, o8, hs8, _⟩ := q13.statB h2.sz
    go_wp2_with fail
    refine (storyOf_any pa pb po pn pc ts a0_ a1_ b7 o7 _ c0_ b8 o8 _ c1_ d.L1 d.L2 _ (hT.below' S3.B) hs7 hs8 (by omega) (by omega)).mono ?_
    rintro e w4 ⟨⟨cc, E, R, v, rfl, hst, hoR⟩, hb4⟩
    obtain ⟨rfl, hR8, hRl, hE0, hE1⟩ := BD.story HV.out hst
    clear hRl
    obtain ⟨aR, cR, rfl⟩ := hoR.slc
    have S4 := S3.below hb4
    have q04 := q03.below hb4 (Nat.le_refl _)
    have q14 := q13.below hb4 (Nat.le_refl _)
    have q24 := q23.below hb4 (Nat.le_refl _)
    have q34 := q33.below hb4 (Nat.le_refl _)
    have q44 := q43.below hb4 (Nat.le_refl _)
    have q54 := q53.below hb4 (Nat.le_refl _)
    have hoR4 := hoR.mono' S3.z
    have hRlo := hoR.row_lo
    have DR0 : Hid (Dj (Value.slice a0_ d.L1.length c0_).ownBlock (Value.slice aR R.length cR).ownBlock) := Dj.later q03.row_hi hRlo
    have DR1 : Hid (Dj (Value.slice a1_ d.L2.length c1_).ownBlock (Value.slice aR R.length cR).ownBlock) := Dj.later q13.row_hi hRlo
    have DR2 : Hid (Dj (Value.slice a2_ d.R.length c2_).ownBlock (Value.slice aR R.length cR).ownBlock) := Dj.later q23.row_hi hRlo
    have DR3 : Hid (Dj (Value.slice a3_ d.J.length c3_).ownBlock (Value.slice aR R.length cR).ownBlock) := Dj.later q33.row_hi hRlo
    have DR4 : Hid (Dj (Value.slice a4_ d.S.length c4_).ownBlock (Value.slice aR R.length cR).ownBlock) := Dj.later q43.row_hi hRlo
    have DR5 : Hid (Dj (Value.slice a5_ d.O.length c5_).ownBlock (Value.slice aR R.length cR).ownBlock) := Dj.later q53.row_hi hRlo
    have HA0 := hid q04.row_hi
    clear kp y6 y7 hs7 hs8 hb4 S3 hoR hRlo q03 q13 q23 q33 q43 q53
    obtain ⟨W4, hW4⟩ : ∃ W4, W4 = w4.alloc (.cells #[.int .i64 0, .int .i64 E, .slice aR R.length cR] 75) := ⟨_, rfl⟩
    have S5 : RiSt w pa pn pc [.int .i64 d.wk, .bool d.up, .int .i64 d.now, .int .i64 d.sn, .int .i64 d.ep, .int .i64 d.gv, .slice a0_ d.L1.length c0_, .slice a1_ d.L2.length c1_, .slice a2_ d.R.length c2_, .slice a3_ d.J.length c3_, .slice a4_ d.S.length c4_, .slice a5_ d.O.length c5_] W4 := by rw [hW4]; exact S4.alloc _
    have T5 : CF W4 w4.heap.size [.int .i64 0, .int .i64 E, .slice aR R.length cR] := by rw [hW4]; exact CF.made w4 #[.int .i64 0, .int .i64 E, .slice aR R.length cR] 75
    have t5 : w.heap.size + 3 ≤ w4.heap.size ∧ w4.heap.size < W4.heap.size := ⟨S4.z, by rw [hW4]; simp⟩
    have q05 : Own (w.heap.size + 3) W4 1 (.slice a0_ d.L1.length c0_) d.L1.length (d.L1.map Value.string) := by rw [hW4]; exact q04.alloc _
    have q15 : Own (w.heap.size + 3) W4 1 (.slice a1_ d.L2.length c1_) d.L2.length (d.L2.map Value.string) := by rw [hW4]; exact q14.alloc _
    have q25 : Own (w.heap.size + 3) W4 1 (.slice a2_ d.R.length c2_) d.R.length (d.R.map Value.string) := by rw [hW4]; exact q24.alloc _
    have q35 : Own (w.heap.size + 3) W4 3 (.slice a3_ d.J.length c3_) d.J.length (c3 d.J) := by rw [hW4]; exact q34.alloc _
    have q45 : Own (w.heap.size + 3) W4 2 (.slice a4_ d.S.length c4_) d.S.length (c2 d.S) := by rw [hW4]; exact q44.alloc _
    have q55 : Own (w.heap.size + 3) W4 3 (.slice a5_ d.O.length c5_) d.O.length (c3 d.O) := by rw [hW4]; exact q54.alloc _
    have hoR5 : Own (w.heap.size + 3) W4 1 (.slice aR R.length cR) R.length (R.map Value.string) := by rw [hW4]; exact hoR4.alloc _
    have HW4 := hid hW4
    have HST := hid hst
    clear hW4 S4 hoR4 hst q04 q14 q24 q34 q44 q54
    go_upto_region 5 with fail
    rw [← HW4.out]
    clear HW4
    have y1 : W4.cell? ⟨w.heap.size, 1, none⟩ = some (.bool d.up) := (S5.P 1 (by simp)).1
    cases hup : d.up with
    | true =>
      rw [hup] at y1
      have HUP := hid hup
      clear hup
      go_upto_region 6 with fail
      clear y1
      have y0 : W4.cell? ⟨w.heap.size, 0, none⟩ = some (.int .i64 d.wk) := (S5.P 0 (by simp)).1
      have y1 : W4.cell? ⟨w.heap.size, 1, none⟩ = some (.bool d.up) := (S5.P 1 (by simp)).1
      have y2 : W4.cell? ⟨w.heap.size, 2, none⟩ = some (.int .i64 d.now) := (S5.P 2 (by simp)).1
      have y3 : W4.cell? ⟨w.heap.size, 3, none⟩ = some (.int .i64 d.sn) := (S5.P 3 (by simp)).1
      have y4 : W4.cell? ⟨w.heap.size, 4, none⟩ = some (.int .i64 d.ep) := (S5.P 4 (by simp)).1
      have y5 : W4.cell? ⟨w.heap.size, 5, none⟩ = some (.int .i64 d.gv) := (S5.P 5 (by simp)).1
      have y6 : W4.cell? ⟨w.heap.size, 6, none⟩ = some (.slice a0_ d.L1.length c0_) := (S5.P 6 (by simp)).1
      have y7 : W4.cell? ⟨w.heap.size, 7, none⟩ = some (.slice a1_ d.L2.length c1_) := (S5.P 7 (by simp)).1
      have y8 : W4.cell? ⟨w.heap.size, 8, none⟩ = some (.slice a2_ d.R.length c2_) := (S5.P 8 (by simp)).1
      have y9 : W4.cell? ⟨w.heap.size, 9, none⟩ = some (.slice a3_ d.J.length c3_) := (S5.P 9 (by simp)).1
      have y10 : W4.cell? ⟨w.heap.size, 10, none⟩ = some (.slice a4_ d.S.length c4_) := (S5.P 10 (by simp)).1
      have y11 : W4.cell? ⟨w.heap.size, 11, none⟩ = some (.slice a5_ d.O.length c5_) := (S5.P 11 (by simp)).1
      go_wp2_with (refine wpList_store_cf rfl 40 (.tmp 4) (.tmp 30) rfl (w.heap.size + 2) zB [.int .i64 d.wk, .bool d.up, .int .i64 d.now, .int .i64 d.sn, .int .i64 d.ep, .int .i64 d.gv, .slice a0_ d.L1.length c0_, .slice a1_ d.L2.length c1_, .slice a2_ d.R.length c2_, .slice a3_ d.J.length c3_, .slice a4_ d.S.length c4_, .slice a5_ d.O.length c5_] rfl rfl S5.R rfl Tryz.sizeBo (one12b _ _ _ _ _ _ _ _ _ _ _ _ _ _ _ _ _ _ _ _ _ _ _ _) ?_; intro w10 hc10 hg10)
      clear y0 y1 y2 y3 y4 y5 y6 y7 y8 y9 y10 y11
      have k0 : w10.cell? ⟨w.heap.size + 2, 0, none⟩ = some (.int .i64 d.wk) := (hc10 0 (by simp)).1
      have k1 : w10.cell? ⟨w.heap.size + 2, 1, none⟩ = some (.bool d.up) := (hc10 1 (by simp)).1
      have k2 : w10.cell? ⟨w.heap.size + 2, 2, none⟩ = some (.int .i64 d.now) := (hc10 2 (by simp)).1
      have k3 : w10.cell? ⟨w.heap.size + 2, 3, none⟩ = some (.int .i64 d.sn) := (hc10 3 (by simp)).1
      have k4 : w10.cell? ⟨w.heap.size + 2, 4, none⟩ = some (.int .i64 d.ep) := (hc10 4 (by simp)).1
      have k5 : w10.cell? ⟨w.heap.size + 2, 5, none⟩ = some (.int .i64 d.gv) := (hc10 5 (by simp)).1
      have k6 : w10.cell? ⟨w.heap.size + 2, 6, none⟩ = some (.slice a0_ d.L1.length c0_) := (hc10 6 (by simp)).1
      have k7 : w10.cell? ⟨w.heap.size + 2, 7, none⟩ = some (.slice a1_ d.L2.length c1_) := (hc10 7 (by simp)).1
      have k8 : w10.cell? ⟨w.heap.size + 2, 8, none⟩ = some (.slice a2_ d.R.length c2_) := (hc10 8 (by simp)).1
      have k9 : w10.cell? ⟨w.heap.size + 2, 9, none⟩ = some (.slice a3_ d.J.length c3_) := (hc10 9 (by simp)).1
      have k10 : w10.cell? ⟨w.heap.size + 2, 10, none⟩ = some (.slice a4_ d.S.length c4_) := (hc10 10 (by simp)).1
      have k11 : w10.cell? ⟨w.heap.size + 2, 11, none⟩ = some (.slice a5_ d.O.length c5_) := (hc10 11 (by simp)).1
      refine bodyPost_ret (v := .agg #[.int .i64 d.wk, .bool d.up, .int .i64 d.now, .int .i64 d.sn, .int .i64 d.ep, .int .i64 d.gv, .slice a0_ d.L1.length c0_, .slice a1_ d.L2.length c1_, .slice a2_ d.R.length c2_, .slice a3_ d.J.length c3_, .slice a4_ d.S.length c4_, .slice a5_ d.O.length c5_]) (by simp [results, Tryz.results10, go_sem, k0, k1, k2, k3, k4, k5, k6, k7, k8, k9, k10, k11]) rfl ⟨⟨d, ⟨⟨a0_, a1_, a2_, a3_, a4_, a5_, c0_, c1_, c2_, c3_, c4_, c5_⟩, rfl, ⟨(q05.grown hg10 (.inr (by intro hh; have := q05.row_lo _ hh; omega))).mono' (by omega), (q15.grown hg10 (.inr (by intro hh; have := q15.row_lo _ hh; omega))).mono' (by omega), (q25.grown hg10 (.inr (by intro hh; have := q25.row_lo _ hh; omega))).mono' (by omega), (q35.grown hg10 (.inr (by intro hh; have := q35.row_lo _ hh; omega))).mono' (by omega), (q45.grown hg10 (.inr (by intro hh; have := q45.row_lo _ hh; omega))).mono' (by omega), (q55.grown hg10 (.inr (by intro hh; have := q55.row_lo _ hh; omega))).mono' (by omega), HDIS.out⟩⟩, .inl ⟨HV.out, .inl ⟨HUP.out, rfl⟩⟩⟩, below_grown S5.B hg10 (by have := S5.z; omega) (fun q hq => by simp at hq; omega)⟩
    | false =>
      rw [hup] at y1
      have HT : Hid (told d ts E R) := BD.told2 HV.out hup HST.out
      have HUP := hid hup
      clear hup HST
      have y6 : W4.cell? ⟨w.heap.size, 6, none⟩ = some (.slice a0_ d.L1.length c0_) := (S5.P 6 (by simp)).1
      have y7 : W4.cell? ⟨w.heap.size, 7, none⟩ = some (.slice a1_ d.L2.length c1_) := (S5.P 7 (by simp)).1
      go_wp2_with fail
      refine (size_any a0_ a1_ d.L1.length c0_ d.L2.length c1_ _ (by omega) (by omega)).mono ?_
      rintro e w5 ⟨rfl, hb5⟩
      have S6 := S5.below hb5
      have T6 := T5.block (hb5.block _ t5.2)
      have t6 : w.heap.size + 3 ≤ w4.heap.size ∧ w4.heap.size < w5.heap.size := ⟨t5.1, Nat.lt_of_lt_of_le t5.2 hb5.size⟩
      have q06 := q05.below hb5 (Nat.le_refl _)
      have q16 := q15.below hb5 (Nat.le_refl _)
      have q26 := q25.below hb5 (Nat.le_refl _)
      have q36 := q35.below hb5 (Nat.le_refl _)
      have q46 := q45.below hb5 (Nat.le_refl _)
      have q56 := q55.below hb5 (Nat.le_refl _)
      have hoR6 := hoR5.below hb5 (Nat.le_refl _)
      have HL2 := hid (show d.L2.length = 0 by rw [BD.dn HV.out HUP.out]; rfl)
      clear y1 y6 y7 hb5 S5 T5 t5 hoR5 q05 q15 q25 q35 q45 q55
      by_cases c1 : ((d.L1.length + d.L2.length : Nat) : Int) = 310
      · have HC1 := hid (show 310 ≤ d.L1.length by have h5 := HL2.out; omega)
        go_upto_region 6 with fail
        clear c1
        have y0 : w5.cell? ⟨w.heap.size, 0, none⟩ = some (.int .i64 d.wk) := (S6.P 0 (by simp)).1
        have y1 : w5.cell? ⟨w.heap.size, 1, none⟩ = some (.bool d.up) := (S6.P 1 (by simp)).1
        have y2 : w5.cell? ⟨w.heap.size, 2, none⟩ = some (.int .i64 d.now) := (S6.P 2 (by simp)).1
        have y3 : w5.cell? ⟨w.heap.size, 3, none⟩ = some (.int .i64 d.sn) := (S6.P 3 (by simp)).1
        have y4 : w5.cell? ⟨w.heap.size, 4, none⟩ = some (.int .i64 d.ep) := (S6.P 4 (by simp)).1
        have y5 : w5.cell? ⟨w.heap.size, 5, none⟩ = some (.int .i64 d.gv) := (S6.P 5 (by simp)).1
        have y6 : w5.cell? ⟨w.heap.size, 6, none⟩ = some (.slice a0_ d.L1.length c0_) := (S6.P 6 (by simp)).1
        have y7 : w5.cell? ⟨w.heap.size, 7, none⟩ = some (.slice a1_ d.L2.length c1_) := (S6.P 7 (by simp)).1
        have y8 : w5.cell? ⟨w.heap.size, 8, none⟩ = some (.slice a2_ d.R.length c2_) := (S6.P 8 (by simp)).1
        have y9 : w5.cell? ⟨w.heap.size, 9, none⟩ = some (.slice a3_ d.J.length c3_) := (S6.P 9 (by simp)).1
        have y10 : w5.cell? ⟨w.heap.size, 10, none⟩ = some (.slice a4_ d.S.length c4_) := (S6.P 10 (by simp)).1
        have y11 : w5.cell? ⟨w.heap.size, 11, none⟩ = some (.slice a5_ d.O.length c5_) := (S6.P 11 (by simp)).1
        go_wp2_with (refine wpList_store_cf rfl 40 (.tmp 4) (.tmp 30) rfl (w.heap.size + 2) zB [.int .i64 d.wk, .bool d.up, .int .i64 d.now, .int .i64 d.sn, .int .i64 d.ep, .int .i64 d.gv, .slice a0_ d.L1.length c0_, .slice a1_ d.L2.length c1_, .slice a2_ d.R.length c2_, .slice a3_ d.J.length c3_, .slice a4_ d.S.length c4_, .slice a5_ d.O.length c5_] rfl rfl S6.R rfl Tryz.sizeBo (one12b _ _ _ _ _ _ _ _ _ _ _ _ _ _ _ _ _ _ _ _ _ _ _ _) ?_; intro w10 hc10 hg10)
        clear y0 y1 y2 y3 y4 y5 y6 y7 y8 y9 y10 y11
        have k0 : w10.cell? ⟨w.heap.size + 2, 0, none⟩ = some (.int .i64 d.wk) := (hc10 0 (by simp)).1
        have k1 : w10.cell? ⟨w.heap.size + 2, 1, none⟩ = some (.bool d.up) := (hc10 1 (by simp)).1
        have k2 : w10.cell? ⟨w.heap.size + 2, 2, none⟩ = some (.int .i64 d.now) := (hc10 2 (by simp)).1
        have k3 : w10.cell? ⟨w.heap.size + 2, 3, none⟩ = some (.int .i64 d.sn) := (hc10 3 (by simp)).1
        have k4 : w10.cell? ⟨w.heap.size + 2, 4, none⟩ = some (.int .i64 d.ep) := (hc10 4 (by simp)).1
        have k5 : w10.cell? ⟨w.heap.size + 2, 5, none⟩ = some (.int .i64 d.gv) := (hc10 5 (by simp)).1
        have k6 : w10.cell? ⟨w.heap.size + 2, 6, none⟩ = some (.slice a0_ d.L1.length c0_) := (hc10 6 (by simp)).1
        have k7 : w10.cell? ⟨w.heap.size + 2, 7, none⟩ = some (.slice a1_ d.L2.length c1_) := (hc10 7 (by simp)).1
        have k8 : w10.cell? ⟨w.heap.size + 2, 8, none⟩ = some (.slice a2_ d.R.length c2_) := (hc10 8 (by simp)).1
        have k9 : w10.cell? ⟨w.heap.size + 2, 9, none⟩ = some (.slice a3_ d.J.length c3_) := (hc10 9 (by simp)).1
        have k10 : w10.cell? ⟨w.heap.size + 2, 10, none⟩ = some (.slice a4_ d.S.length c4_) := (hc10 10 (by simp)).1
        have k11 : w10.cell? ⟨w.heap.size + 2, 11, none⟩ = some (.slice a5_ d.O.length c5_) := (hc10 11 (by simp)).1
        refine bodyPost_ret (v := .agg #[.int .i64 d.wk, .bool d.up, .int .i64 d.now, .int .i64 d.sn, .int .i64 d.ep, .int .i64 d.gv, .slice a0_ d.L1.length c0_, .slice a1_ d.L2.length c1_, .slice a2_ d.R.length c2_, .slice a3_ d.J.length c3_, .slice a4_ d.S.length c4_, .slice a5_ d.O.length c5_]) (by simp [results, Tryz.results10, go_sem, k0, k1, k2, k3, k4, k5, k6, k7, k8, k9, k10, k11]) rfl ⟨⟨d, ⟨⟨a0_, a1_, a2_, a3_, a4_, a5_, c0_, c1_, c2_, c3_, c4_, c5_⟩, rfl, ⟨(q06.grown hg10 (.inr (by intro hh; have := q06.row_lo _ hh; omega))).mono' (by omega), (q16.grown hg10 (.inr (by intro hh; have := q16.row_lo _ hh; omega))).mono' (by omega), (q26.grown hg10 (.inr (by intro hh; have := q26.row_lo _ hh; omega))).mono' (by omega), (q36.grown hg10 (.inr (by intro hh; have := q36.row_lo _ hh; omega))).mono' (by omega), (q46.grown hg10 (.inr (by intro hh; have := q46.row_lo _ hh; omega))).mono' (by omega), (q56.grown hg10 (.inr (by intro hh; have := q56.row_lo _ hh; omega))).mono' (by omega), HDIS.out⟩⟩, .inl ⟨HV.out, .inr ⟨HUP.out, E, R, HT.out, .inl ⟨.inl HC1.out, rfl⟩⟩⟩⟩, below_grown S6.B hg10 (by have := S6.z; omega) (fun q hq => by simp at hq; omega)⟩
      · have y1 : w5.cell? ⟨w4.heap.size, 1, none⟩ = some (.int .i64 E) := (T6 1 (by simp)).1
        by_cases c2 : E = 300
        · have HC2 := hid (show 300 ≤ E by omega)
          subst c2
          go_upto_region 6 with fail
          clear c1 y1
          have y0 : w5.cell? ⟨w.heap.size, 0, none⟩ = some (.int .i64 d.wk) := (S6.P 0 (by simp)).1
          have y1 : w5.cell? ⟨w.heap.size, 1, none⟩ = some (.bool d.up) := (S6.P 1 (by simp)).1
          have y2 : w5.cell? ⟨w.heap.size, 2, none⟩ = some (.int .i64 d.now) := (S6.P 2 (by simp)).1
          have y3 : w5.cell? ⟨w.heap.size, 3, none⟩ = some (.int .i64 d.sn) := (S6.P 3 (by simp)).1
          have y4 : w5.cell? ⟨w.heap.size, 4, none⟩ = some (.int .i64 d.ep) := (S6.P 4 (by simp)).1
          have y5 : w5.cell? ⟨w.heap.size, 5, none⟩ = some (.int .i64 d.gv) := (S6.P 5 (by simp)).1
          have y6 : w5.cell? ⟨w.heap.size, 6, none⟩ = some (.slice a0_ d.L1.length c0_) := (S6.P 6 (by simp)).1
          have y7 : w5.cell? ⟨w.heap.size, 7, none⟩ = some (.slice a1_ d.L2.length c1_) := (S6.P 7 (by simp)).1
          have y8 : w5.cell? ⟨w.heap.size, 8, none⟩ = some (.slice a2_ d.R.length c2_) := (S6.P 8 (by simp)).1
          have y9 : w5.cell? ⟨w.heap.size, 9, none⟩ = some (.slice a3_ d.J.length c3_) := (S6.P 9 (by simp)).1
          have y10 : w5.cell? ⟨w.heap.size, 10, none⟩ = some (.slice a4_ d.S.length c4_) := (S6.P 10 (by simp)).1
          have y11 : w5.cell? ⟨w.heap.size, 11, none⟩ = some (.slice a5_ d.O.length c5_) := (S6.P 11 (by simp)).1
          go_wp2_with (refine wpList_store_cf rfl 40 (.tmp 4) (.tmp 30) rfl (w.heap.size + 2) zB [.int .i64 d.wk, .bool d.up, .int .i64 d.now, .int .i64 d.sn, .int .i64 d.ep, .int .i64 d.gv, .slice a0_ d.L1.length c0_, .slice a1_ d.L2.length c1_, .slice a2_ d.R.length c2_, .slice a3_ d.J.length c3_, .slice a4_ d.S.length c4_, .slice a5_ d.O.length c5_] rfl rfl S6.R rfl Tryz.sizeBo (one12b _ _ _ _ _ _ _ _ _ _ _ _ _ _ _ _ _ _ _ _ _ _ _ _) ?_; intro w10 hc10 hg10)
          clear y0 y1 y2 y3 y4 y5 y6 y7 y8 y9 y10 y11
          have k0 : w10.cell? ⟨w.heap.size + 2, 0, none⟩ = some (.int .i64 d.wk) := (hc10 0 (by simp)).1
          have k1 : w10.cell? ⟨w.heap.size + 2, 1, none⟩ = some (.bool d.up) := (hc10 1 (by simp)).1
          have k2 : w10.cell? ⟨w.heap.size + 2, 2, none⟩ = some (.int .i64 d.now) := (hc10 2 (by simp)).1
          have k3 : w10.cell? ⟨w.heap.size + 2, 3, none⟩ = some (.int .i64 d.sn) := (hc10 3 (by simp)).1
          have k4 : w10.cell? ⟨w.heap.size + 2, 4, none⟩ = some (.int .i64 d.ep) := (hc10 4 (by simp)).1
          have k5 : w10.cell? ⟨w.heap.size + 2, 5, none⟩ = some (.int .i64 d.gv) := (hc10 5 (by simp)).1
          have k6 : w10.cell? ⟨w.heap.size + 2, 6, none⟩ = some (.slice a0_ d.L1.length c0_) := (hc10 6 (by simp)).1
          have k7 : w10.cell? ⟨w.heap.size + 2, 7, none⟩ = some (.slice a1_ d.L2.length c1_) := (hc10 7 (by simp)).1
          have k8 : w10.cell? ⟨w.heap.size + 2, 8, none⟩ = some (.slice a2_ d.R.length c2_) := (hc10 8 (by simp)).1
          have k9 : w10.cell? ⟨w.heap.size + 2, 9, none⟩ = some (.slice a3_ d.J.length c3_) := (hc10 9 (by simp)).1
          have k10 : w10.cell? ⟨w.heap.size + 2, 10, none⟩ = some (.slice a4_ d.S.length c4_) := (hc10 10 (by simp)).1
          have k11 : w10.cell? ⟨w.heap.size + 2, 11, none⟩ = some (.slice a5_ d.O.length c5_) := (hc10 11 (by simp)).1
          refine bodyPost_ret (v := .agg #[.int .i64 d.wk, .bool d.up, .int .i64 d.now, .int .i64 d.sn, .int .i64 d.ep, .int .i64 d.gv, .slice a0_ d.L1.length c0_, .slice a1_ d.L2.length c1_, .slice a2_ d.R.length c2_, .slice a3_ d.J.length c3_, .slice a4_ d.S.length c4_, .slice a5_ d.O.length c5_]) (by simp [results, Tryz.results10, go_sem, k0, k1, k2, k3, k4, k5, k6, k7, k8, k9, k10, k11]) rfl ⟨⟨d, ⟨⟨a0_, a1_, a2_, a3_, a4_, a5_, c0_, c1_, c2_, c3_, c4_, c5_⟩, rfl, ⟨(q06.grown hg10 (.inr (by intro hh; have := q06.row_lo _ hh; omega))).mono' (by omega), (q16.grown hg10 (.inr (by intro hh; have := q16.row_lo _ hh; omega))).mono' (by omega), (q26.grown hg10 (.inr (by intro hh; have := q26.row_lo _ hh; omega))).mono' (by omega), (q36.grown hg10 (.inr (by intro hh; have := q36.row_lo _ hh; omega))).mono' (by omega), (q46.grown hg10 (.inr (by intro hh; have := q46.row_lo _ hh; omega))).mono' (by omega), (q56.grown hg10 (.inr (by intro hh; have := q56.row_lo _ hh; omega))).mono' (by omega), HDIS.out⟩⟩, .inl ⟨HV.out, .inr ⟨HUP.out, 300, R, HT.out, .inl ⟨.inr HC2.out, rfl⟩⟩⟩⟩, below_grown S6.B hg10 (by have := S6.z; omega) (fun q hq => by simp at hq; omega)⟩
        · have HLT := hid (show d.L1.length < 310 by have h5 := HT.out.2.1; have h6 := HL2.out; omega)
          have HE := hid (show E < 300 by omega)
          have y1' : w5.cell? ⟨w.heap.size, 1, none⟩ = some (.bool d.up) := (S6.P 1 (by simp)).1
          have f1' : w5.frozen? ⟨w.heap.size, 1, none⟩ = false := (S6.P 1 (by simp)).2
          have c1b : (((d.L1.length + d.L2.length : Nat) : Int) == 310) = false := beq_eq_false_iff_ne.2 c1
          have c2b : (E == 300) = false := beq_eq_false_iff_ne.2 c2
          go_upto_region 8 with fail
          clear c1 c2 c1b c2b y1 y1' f1'
          obtain ⟨w7, hw7⟩ : ∃ V, V = w5.setCell ⟨w.heap.size, 1, none⟩ (.bool true) := ⟨_, rfl⟩
          have S7 : RiSt w pa pn pc [.int .i64 d.wk, .bool true, .int .i64 d.now, .int .i64 d.sn, .int .i64 d.ep, .int .i64 d.gv, .slice a0_ d.L1.length c0_, .slice a1_ d.L2.length c1_, .slice a2_ d.R.length c2_, .slice a3_ d.J.length c3_, .slice a4_ d.S.length c4_, .slice a5_ d.O.length c5_] w7 := by rw [hw7]; exact S6.set 1 (by simp) (.bool true)
          have T7 : CF w7 w4.heap.size [.int .i64 0, .int .i64 E, .slice aR R.length cR] := by rw [hw7]; exact T6.block (Below.heap_setCell w5 (⟨w.heap.size, 1, none⟩ : Addr) _ w4.heap.size (by dsimp only; omega))
          have q07 := q06.setLow (j := 1) (show w.heap.size < w.heap.size + 3 by omega) (.bool true)
          rw [← hw7] at q07
          have q17 := q16.setLow (j := 1) (show w.heap.size < w.heap.size + 3 by omega) (.bool true)
          rw [← hw7] at q17
          have q27 := q26.setLow (j := 1) (show w.heap.size < w.heap.size + 3 by omega) (.bool true)
          rw [← hw7] at q27
          have q37 := q36.setLow (j := 1) (show w.heap.size < w.heap.size + 3 by omega) (.bool true)
          rw [← hw7] at q37
          have q47 := q46.setLow (j := 1) (show w.heap.size < w.heap.size + 3 by omega) (.bool true)
          rw [← hw7] at q47
          have q57 := q56.setLow (j := 1) (show w.heap.size < w.heap.size + 3 by omega) (.bool true)
          rw [← hw7] at q57
          have hoR7 := hoR6.setLow (j := 1) (show w.heap.size < w.heap.size + 3 by omega) (.bool true)
          rw [← hw7] at hoR7
          rw [← hw7]
          have hzw7 : w7.heap.size = w5.heap.size := by rw [hw7]; simp [World.setCell]
          clear hw7
          clear S6 T6 q06 q16 q26 q36 q46 q56 hoR6
          have y4 : w7.cell? ⟨w.heap.size, 4, none⟩ = some (.int .i64 d.ep) := (S7.P 4 (by simp)).1
          have f4 : w7.frozen? ⟨w.heap.size, 4, none⟩ = false := (S7.P 4 (by simp)).2
          have e1 : w7.cell? ⟨w4.heap.size, 1, none⟩ = some (.int .i64 E) := (T7 1 (by simp)).1
          go_upto_region 9 with fail
          clear y4 f4 e1
          obtain ⟨w8, hw8⟩ : ∃ V, V = w7.setCell ⟨w.heap.size, 4, none⟩ (.int .i64 (E + 1)) := ⟨_, rfl⟩
          have S8 : RiSt w pa pn pc [.int .i64 d.wk, .bool true, .int .i64 d.now, .int .i64 d.sn, .int .i64 (E + 1), .int .i64 d.gv, .slice a0_ d.L1.length c0_, .slice a1_ d.L2.length c1_, .slice a2_ d.R.length c2_, .slice a3_ d.J.length c3_, .slice a4_ d.S.length c4_, .slice a5_ d.O.length c5_] w8 := by rw [hw8]; exact S7.set 4 (by simp) (.int .i64 (E + 1))
          have T8 : CF w8 w4.heap.size [.int .i64 0, .int .i64 E, .slice aR R.length cR] := by rw [hw8]; exact T7.block (Below.heap_setCell w7 (⟨w.heap.size, 4, none⟩ : Addr) _ w4.heap.size (by dsimp only; omega))
          have q08 := q07.setLow (j := 4) (show w.heap.size < w.heap.size + 3 by omega) (.int .i64 (E + 1))
          rw [← hw8] at q08
          have q18 := q17.setLow (j := 4) (show w.heap.size < w.heap.size + 3 by omega) (.int .i64 (E + 1))
          rw [← hw8] at q18
          have q28 := q27.setLow (j := 4) (show w.heap.size < w.heap.size + 3 by omega) (.int .i64 (E + 1))
          rw [← hw8] at q28
          have q38 := q37.setLow (j := 4) (show w.heap.size < w.heap.size + 3 by omega) (.int .i64 (E + 1))
          rw [← hw8] at q38
          have q48 := q47.setLow (j := 4) (show w.heap.size < w.heap.size + 3 by omega) (.int .i64 (E + 1))
          rw [← hw8] at q48
          have q58 := q57.setLow (j := 4) (show w.heap.size < w.heap.size + 3 by omega) (.int .i64 (E + 1))
          rw [← hw8] at q58
          have hoR8 := hoR7.setLow (j := 4) (show w.heap.size < w.heap.size + 3 by omega) (.int .i64 (E + 1))
          rw [← hw8] at hoR8
          rw [← hw8]
          have hzw8 : w8.heap.size = w7.heap.size := by rw [hw8]; simp [World.setCell]
          clear hw8
          clear S7 T7 q07 q17 q27 q37 q47 q57 hoR7
          have HD := hid (BD.dn HV.out HUP.out)
          have hwk := HT.out.2.2.2.2.2.2.2.2
          have HPL := hid hT.len
          have hp40 : pn ≤ 40 := by rw [← HPL.out]; exact HT.out.2.2.2.2.2.2.2.1
          obtain ⟨U, hU⟩ : ∃ U, U = w8.drew := ⟨_, rfl⟩
          have SU : RiSt w pa pn pc [.int .i64 d.wk, .bool true, .int .i64 d.now, .int .i64 d.sn, .int .i64 (E + 1), .int .i64 d.gv, .slice a0_ d.L1.length c0_, .slice a1_ d.L2.length c1_, .slice a2_ d.R.length c2_, .slice a3_ d.J.length c3_, .slice a4_ d.S.length c4_, .slice a5_ d.O.length c5_] U := by rw [hU]; exact S8.drew
          have TU : CF U w4.heap.size [.int .i64 0, .int .i64 E, .slice aR R.length cR] := by rw [hU]; exact T8
          have tU : w.heap.size + 3 ≤ w4.heap.size ∧ w4.heap.size < U.heap.size := by rw [hU]; exact ⟨t6.1, by have h5 := t6.2; show _ < w8.heap.size; omega⟩
          have q0U := q08.drewB
          rw [← hU] at q0U
          have q1U := q18.drewB
          rw [← hU] at q1U
          have q2U := q28.drewB
          rw [← hU] at q2U
          have q3U := q38.drewB
          rw [← hU] at q3U
          have q4U := q48.drewB
          rw [← hU] at q4U
          have q5U := q58.drewB
          rw [← hU] at q5U
          have hoRU := hoR8.drewB
          rw [← hU] at hoRU
          clear S8 T8 t6 q08 q18 q28 q38 q48 q58 hoR8
          have hd := HDIS.out
          simp only [List.pairwise_cons, List.mem_cons, List.not_mem_nil, or_false, forall_eq_or_imp, forall_eq, List.Pairwise.nil, and_true, false_implies, implies_true] at hd
          obtain ⟨⟨D01, D02, D03, D04, D05⟩, ⟨D12, D13, D14, D15⟩, _⟩ := hd
          have E15 := hid D15
          have D01 := hid D01
          have D05 := hid D05
          clear D02 D03 D04 D12 D13 D14 D15 DR2 DR3 DR4 HDIS q2U q3U q4U 
          rw [hU] at SU TU tU q0U q1U q5U hoRU
          clear hU
          go_cut [4] (fun sv wx => ∃ (a' : Option Addr) (c' : Nat), sv = .pointer (some ⟨w.heap.size + 2, 0, none⟩) ∧ RiSt w pa pn pc [.int .i64 d.wk, .bool true, .int .i64 d.now, .int .i64 d.sn, .int .i64 (E + 1), .int .i64 d.gv, .slice a' (d.L1.length + 1) c', .slice a1_ d.L2.length c1_, .slice a2_ d.R.length c2_, .slice a3_ d.J.length c3_, .slice a4_ d.S.length c4_, .slice a5_ d.O.length c5_] wx ∧ CF wx w4.heap.size [.int .i64 0, .int .i64 E, .slice aR R.length cR] ∧ w4.heap.size < wx.heap.size ∧ Own (w.heap.size + 3) wx 1 (.slice a' (d.L1.length + 1) c') (d.L1.length + 1) ((d.L1 ++ [entS 1 (E + 1) 0 ⟨#[]⟩]).map Value.string) ∧ Own (w.heap.size + 3) wx 1 (.slice a1_ d.L2.length c1_) d.L2.length (d.L2.map Value.string) ∧ Own (w.heap.size + 3) wx 3 (.slice a5_ d.O.length c5_) d.O.length (c3 d.O) ∧ Own (w.heap.size + 3) wx 1 (.slice aR R.length cR) R.length (R.map Value.string) ∧ Dj (Value.slice a' (d.L1.length + 1) c').ownBlock (Value.slice a1_ d.L2.length c1_).ownBlock ∧ Dj (Value.slice a' (d.L1.length + 1) c').ownBlock (Value.slice a5_ d.O.length c5_).ownBlock ∧ Dj (Value.slice a' (d.L1.length + 1) c').ownBlock (Value.slice aR R.length cR).ownBlock)
          case first =>
            refine wp_region_held (S := fun w' => w'.cell? ⟨w.heap.size, 4, none⟩ = some (.int .i64 (E + 1))) (by kernel_rfl) ?_
            change wpAnyH _ _ _ _ _ _ _ _ (World.drew _)
            obtain ⟨U, hU⟩ : ∃ U, U = w8.drew := ⟨_, rfl⟩
            rw [← hU] at SU TU tU q0U q1U q5U hoRU
            rw [← hU]
            clear hU
            have cU := (SU.P 4 (by simp)).1
            refine hTake (i := 0) (d := some 36) (v := .pointer (some ⟨w.heap.size, 6, none⟩)) (l' := #[true, false, false, false, false, false, false, false, false, false, false, false]) rfl (by kernel_rfl) (by kernel_rfl) (by kernel_rfl) (by kernel_rfl) (fun _ _ _ h => h) (by kernel_rfl) (fun _ hc => by kernel_rfl) cU (by kernel_rfl) ?_
            refine hTake (i := 1) (d := some 37) (v := .pointer (some ⟨w.heap.size, 6, none⟩)) (l' := #[true, true, false, false, false, false, false, false, false, false, false, false]) rfl (by kernel_rfl) (by kernel_rfl) (by kernel_rfl) (by kernel_rfl) (fun _ _ _ h => h) (by kernel_rfl) (fun _ hc => by kernel_rfl) cU (by kernel_rfl) ?_
            refine hTake (i := 3) (d := some 39) (v := .pointer (some ⟨w.heap.size, 4, none⟩)) (l' := #[true, true, false, true, false, false, false, false, false, false, false, false]) rfl (by kernel_rfl) (by kernel_rfl) (by kernel_rfl) (by kernel_rfl) (fun _ _ _ h => h) (by kernel_rfl) (fun _ hc => by kernel_rfl) cU (by kernel_rfl) ?_
            refine hTake (i := 4) (d := some 40) (v := .int .i64 (E + 1)) (l' := #[true, true, false, true, true, false, false, false, false, false, false, false]) rfl (by kernel_rfl) (by kernel_rfl) (by kernel_rfl) (by kernel_rfl) (fun _ _ _ h => h) (by kernel_rfl) (fun _ hc => run_ldI (.tmp 39) (by kernel_rfl) (by kernel_rfl) hc) cU (by kernel_rfl) ?_
            refine hTake (i := 5) (d := some 41) (v := .agg #[.int .i64 1, .int .i64 (E + 1), .int .i64 0, .string ⟨#[]⟩]) (l' := #[true, true, false, true, true, true, false, false, false, false, false, false]) rfl (by kernel_rfl) (by kernel_rfl) (by kernel_rfl) (by kernel_rfl) (fun _ _ _ h => h) (by kernel_rfl) (fun _ hc => run_bEn (.tmp 40) (E + 1) (by kernel_rfl) (by kernel_rfl) (by kernel_rfl)) cU (by kernel_rfl) ?_
            refine hTwo (i := 2) (j := 6) (by kernel_rfl) (hVal (i := 2) (d := some 38) (v := .slice a0_ d.L1.length c0_) (w' := U) (l' := #[true, true, true, true, true, true, false, false, false, false, false, false]) rfl (by kernel_rfl) (by kernel_rfl) (by kernel_rfl) (run_ldss (.tmp 37) (by kernel_rfl) (by kernel_rfl) (SU.P 6 (by simp)).1) cU ?_) (hCall (i := 6) (d := some 42) (f := 39) (args := #[.agg #[.int .i64 1, .int .i64 (E + 1), .int .i64 0, .string ⟨#[]⟩]]) (l' := #[true, true, false, true, true, true, true, false, false, false, false, false]) (R := fun v w' => v = .string (entS 1 (E + 1) 0 ⟨#[]⟩) ∧ Below U.heap.size U w') rfl (by kernel_rfl) (by kernel_rfl) (by kernel_rfl) (run_cl1 _ _ rfl (by kernel_rfl) rfl enter_iFE) ((implEnt_any 1 (E + 1) 0 ⟨#[]⟩ _).mono fun _ _ ⟨⟨r, he, hi⟩, hb⟩ => ⟨_, he, by rw [hi.new hE0 HE.out], hb⟩) ?_)
            · refine hOne (by kernel_rfl) (hCall (i := 6) (d := some 42) (f := 39) (args := #[.agg #[.int .i64 1, .int .i64 (E + 1), .int .i64 0, .string ⟨#[]⟩]]) (l' := #[true, true, true, true, true, true, true, false, false, false, false, false]) (R := fun v w' => v = .string (entS 1 (E + 1) 0 ⟨#[]⟩) ∧ Below U.heap.size U w') rfl (by kernel_rfl) (by kernel_rfl) (by kernel_rfl) (run_cl1 _ _ rfl (by kernel_rfl) rfl enter_iFE) ((implEnt_any 1 (E + 1) 0 ⟨#[]⟩ _).mono fun _ _ ⟨⟨r, he, hi⟩, hb⟩ => ⟨_, he, by rw [hi.new hE0 HE.out], hb⟩) ?_)
              rintro _ u1 ⟨rfl, hbu1⟩
              have S1 := SU.below hbu1
              have T1 := TU.block (hbu1.block _ tU.2)
              have t1 : w.heap.size + 3 ≤ w4.heap.size ∧ w4.heap.size < u1.heap.size := ⟨tU.1, Nat.lt_of_lt_of_le tU.2 hbu1.size⟩
              have cu1 := (S1.P 4 (by simp)).1
              have q01 := q0U.below hbu1 (Nat.le_refl _)
              have q11 := q1U.below hbu1 (Nat.le_refl _)
              have q51 := q5U.below hbu1 (Nat.le_refl _)
              have hoR1 := hoRU.below hbu1 (Nat.le_refl _)
              refine ⟨cu1, ?_⟩
              clear hbu1 SU TU tU q0U q1U q5U hoRU
              obtain ⟨u2, hu2⟩ : ∃ V, V = u1.alloc (.cells #[.string (entS 1 (E + 1) 0 ⟨#[]⟩)] 9) := ⟨_, rfl⟩
              have S2 : RiSt w pa pn pc [.int .i64 d.wk, .bool true, .int .i64 d.now, .int .i64 d.sn, .int .i64 (E + 1), .int .i64 d.gv, .slice a0_ d.L1.length c0_, .slice a1_ d.L2.length c1_, .slice a2_ d.R.length c2_, .slice a3_ d.J.length c3_, .slice a4_ d.S.length c4_, .slice a5_ d.O.length c5_] u2 := by rw [hu2]; exact S1.alloc _
              have T2 : CF u2 w4.heap.size [.int .i64 0, .int .i64 E, .slice aR R.length cR] := by rw [hu2]; exact T1.block (Below.heap_alloc _ _ _ t1.2)
              have t2 : w.heap.size + 3 ≤ w4.heap.size ∧ w4.heap.size < u2.heap.size := ⟨t1.1, by rw [hu2]; simp; omega⟩
              have ownE : Own (w.heap.size + 3) u2 1 (.slice (some ⟨u1.heap.size, 0, none⟩) 1 1) 1 [.string (entS 1 (E + 1) 0 ⟨#[]⟩)] := by
                rw [hu2]; exact .inr ⟨_, 0, 1, rfl, OwnC.made u1 (w.heap.size + 3) 9 1 1 1 _ 1 S1.z (Nat.le_refl _) (by unfold maxLen; omega) rfl (Nat.le_refl _) _ rfl _ (.inl rfl)⟩
              have srcE : Src Tryz.prog 1 22 _ 1 _ u2 := ownE.src Tryz.underlying22 (by simp; rfl)
              have q02 := q01.alloc (.cells #[.string (entS 1 (E + 1) 0 ⟨#[]⟩)] 9)
              rw [← hu2] at q02
              have q12 := q11.alloc (.cells #[.string (entS 1 (E + 1) 0 ⟨#[]⟩)] 9)
              rw [← hu2] at q12
              have q52 := q51.alloc (.cells #[.string (entS 1 (E + 1) 0 ⟨#[]⟩)] 9)
              rw [← hu2] at q52
              have hoR2 := hoR1.alloc (.cells #[.string (entS 1 (E + 1) 0 ⟨#[]⟩)] 9)
              rw [← hu2] at hoR2
              obtain ⟨v3, u3, hr3, ho3, hg3, hbk3⟩ := run_append_c (P := Tryz.prog) u2 (w.heap.size + 3) 22 22 22 9 i0 (.string ⟨#[]⟩) 1 16 Tryz.underlying22 hi0 hz00 hz01 hz02 rfl _ d.L1.length _ q02 _ 1 _ srcE (by unfold maxLen; omega) (by omega) S2.z
              obtain ⟨a', c', rfl⟩ := ho3.slc
              have hrow := q02.row_lo
              have S3 := S2.grown hg3 hrow
              have T3 := T2.block (hg3.block _ t2.2 (fun e => by have h5 := HA0.out _ e.symm; omega))
              have t3 : w.heap.size + 3 ≤ w4.heap.size ∧ w4.heap.size < u3.heap.size := ⟨t2.1, Nat.lt_of_lt_of_le t2.2 hg3.size⟩
              have q13 := q12.grown hg3 D01.out.symm
              have q53 := q52.grown hg3 D05.out.symm
              have hoR3 := hoR2.grown hg3 DR0.out.symm
              have E01 : Dj (Value.slice a' (d.L1.length + 1) c').ownBlock (Value.slice a1_ d.L2.length c1_).ownBlock := by
                rcases hbk3 with h5 | h5
                · rw [h5]; exact D01.out
                · exact (Dj.new q12.row_hi (.inr h5)).symm
              have E05 : Dj (Value.slice a' (d.L1.length + 1) c').ownBlock (Value.slice a5_ d.O.length c5_).ownBlock := by
                rcases hbk3 with h5 | h5
                · rw [h5]; exact D05.out
                · exact (Dj.new q52.row_hi (.inr h5)).symm
              have E02 : Dj (Value.slice a' (d.L1.length + 1) c').ownBlock (Value.slice aR R.length cR).ownBlock := by
                rcases hbk3 with h5 | h5
                · rw [h5]; exact DR0.out
                · exact (Dj.new hoR2.row_hi (.inr h5)).symm
              have y6 : u3.cell? ⟨w.heap.size, 6, none⟩ = some (.slice a0_ d.L1.length c0_) := (S3.P 6 (by simp)).1
              have f6 : u3.frozen? ⟨w.heap.size, 6, none⟩ = false := (S3.P 6 (by simp)).2
              obtain ⟨u4, hu4⟩ : ∃ V, V = u3.setCell ⟨w.heap.size, 6, none⟩ (.slice a' (d.L1.length + 1) c') := ⟨_, rfl⟩
              have S4 : RiSt w pa pn pc [.int .i64 d.wk, .bool true, .int .i64 d.now, .int .i64 d.sn, .int .i64 (E + 1), .int .i64 d.gv, .slice a' (d.L1.length + 1) c', .slice a1_ d.L2.length c1_, .slice a2_ d.R.length c2_, .slice a3_ d.J.length c3_, .slice a4_ d.S.length c4_, .slice a5_ d.O.length c5_] u4 := by rw [hu4]; exact S3.set 6 (by simp) _
              have T4 : CF u4 w4.heap.size [.int .i64 0, .int .i64 E, .slice aR R.length cR] := by rw [hu4]; exact T3.block (Below.heap_setCell u3 (⟨w.heap.size, 6, none⟩ : Addr) _ w4.heap.size (by dsimp only; omega))
              have t4 : w4.heap.size < u4.heap.size := by have h5 := t3.2; rw [hu4]; simpa [World.setCell] using h5
              have ho4 := ho3.setLow (j := 6) (show w.heap.size < w.heap.size + 3 by omega) (.slice a' (d.L1.length + 1) c')
              have ho4' : Own (w.heap.size + 3) u4 1 (.slice a' (d.L1.length + 1) c') (d.L1.length + 1) ((d.L1 ++ [entS 1 (E + 1) 0 ⟨#[]⟩]).map Value.string) := by rw [hu4, List.map_append]; exact ho4
              have q14 := q13.setLow (j := 6) (show w.heap.size < w.heap.size + 3 by omega) (.slice a' (d.L1.length + 1) c')
              rw [← hu4] at q14
              have q54 := q53.setLow (j := 6) (show w.heap.size < w.heap.size + 3 by omega) (.slice a' (d.L1.length + 1) c')
              rw [← hu4] at q54
              have hoR4 := hoR3.setLow (j := 6) (show w.heap.size < w.heap.size + 3 by omega) (.slice a' (d.L1.length + 1) c')
              rw [← hu4] at hoR4
              have HR := hid (show (∃ (a' : Option Addr) (c' : Nat), (.pointer (some ⟨w.heap.size + 2, 0, none⟩) : Value) = .pointer (some ⟨w.heap.size + 2, 0, none⟩) ∧ RiSt w pa pn pc [.int .i64 d.wk, .bool true, .int .i64 d.now, .int .i64 d.sn, .int .i64 (E + 1), .int .i64 d.gv, .slice a' (d.L1.length + 1) c', .slice a1_ d.L2.length c1_, .slice a2_ d.R.length c2_, .slice a3_ d.J.length c3_, .slice a4_ d.S.length c4_, .slice a5_ d.O.length c5_] u4 ∧ CF u4 w4.heap.size [.int .i64 0, .int .i64 E, .slice aR R.length cR] ∧ w4.heap.size < u4.heap.size ∧ Own (w.heap.size + 3) u4 1 (.slice a' (d.L1.length + 1) c') (d.L1.length + 1) ((d.L1 ++ [entS 1 (E + 1) 0 ⟨#[]⟩]).map Value.string) ∧ Own (w.heap.size + 3) u4 1 (.slice a1_ d.L2.length c1_) d.L2.length (d.L2.map Value.string) ∧ Own (w.heap.size + 3) u4 3 (.slice a5_ d.O.length c5_) d.O.length (c3 d.O) ∧ Own (w.heap.size + 3) u4 1 (.slice aR R.length cR) R.length (R.map Value.string) ∧ Dj (Value.slice a' (d.L1.length + 1) c').ownBlock (Value.slice a1_ d.L2.length c1_).ownBlock ∧ Dj (Value.slice a' (d.L1.length + 1) c').ownBlock (Value.slice a5_ d.O.length c5_).ownBlock ∧ Dj (Value.slice a' (d.L1.length + 1) c').ownBlock (Value.slice aR R.length cR).ownBlock) from ⟨a', c', rfl, S4, T4, t4, ho4', q14, q54, hoR4, E01, E05, E02⟩)
              have c2 := (S2.P 4 (by simp)).1
              have l1 := (S1.P 6 (by simp)).1
              have l2 := (S2.P 6 (by simp)).1
              have c3 := (S3.P 4 (by simp)).1
              have c4 := (S4.P 4 (by simp)).1
              clear S1 S2 S3 S4 T1 T2 T3 T4 t1 t2 t3 t4 ownE srcE q11 q12 q51 q52 q01 q02 hoR1 hoR2 hg3 hrow E01 E05 E02 q13 q14 q53 q54 hoR3 hoR4 ho4 ho4' ho3 hbk3
              refine hOne (by kernel_rfl) (hVal (i := 7) (d := some 43) (v := .slice (some ⟨u1.heap.size, 0, none⟩) 1 1) (w' := u2) (l' := #[true, true, true, true, true, true, true, true, false, false, false, false]) rfl (by kernel_rfl) (by kernel_rfl) (by kernel_rfl) (by rw [hu2]; exact run_bsS (.tmp 42) _ (by kernel_rfl) (by kernel_rfl)) c2 ?_)
              refine hOne (by kernel_rfl) (hVal (i := 8) (d := some 44) (v := .slice a' (d.L1.length + 1) c') (w' := u3) (l' := #[true, true, true, true, true, true, true, true, true, false, false, false]) rfl (by kernel_rfl) (by kernel_rfl) (by kernel_rfl) (run_app (.tmp 38) (.tmp 43) 22 22 (by kernel_rfl) (by kernel_rfl) (by kernel_rfl) (by kernel_rfl) hr3) c3 ?_)
              refine hTake (i := 9) (d := some 45) (v := .pointer (some ⟨w.heap.size, 6, none⟩)) (l' := #[true, true, true, true, true, true, true, true, true, true, false, false]) rfl (by kernel_rfl) (by kernel_rfl) (by kernel_rfl) (by kernel_rfl) (fun _ _ _ h => h) (by kernel_rfl) (fun _ hc => by kernel_rfl) c3 (by kernel_rfl) ?_
              refine hTake (i := 10) (d := some 46) (v := .pointer (some ⟨w.heap.size, 6, none⟩)) (l' := #[true, true, true, true, true, true, true, true, true, true, true, false]) rfl (by kernel_rfl) (by kernel_rfl) (by kernel_rfl) (by kernel_rfl) (fun _ _ _ h => h) (by kernel_rfl) (fun _ hc => by kernel_rfl) c3 (by kernel_rfl) ?_
              refine hOne (by kernel_rfl) (hSkip (i := 11) (w' := u4) (l' := #[true, true, true, true, true, true, true, true, true, true, true, true]) rfl (by kernel_rfl) (by kernel_rfl) (by kernel_rfl) (by rw [hu4]; exact run_stS (.tmp 46) (.tmp 44) (by kernel_rfl) (by kernel_rfl) (by kernel_rfl) y6 f6) c4 ?_)
              refine wpAnyH_done (by kernel_rfl) ?_ _
              clear hu4 hu2 hr3 y6 f6 c2 c3 c4 l1 l2
              go_wp2_with fail
              go_meet
              case rel =>
                obtain ⟨a', c', -, hh⟩ := HR.out
                exact ⟨a', c', rfl, hh⟩
            · rintro _ u1 ⟨rfl, hbu1⟩
              have S1 := SU.below hbu1
              have T1 := TU.block (hbu1.block _ tU.2)
              have t1 : w.heap.size + 3 ≤ w4.heap.size ∧ w4.heap.size < u1.heap.size := ⟨tU.1, Nat.lt_of_lt_of_le tU.2 hbu1.size⟩
              have cu1 := (S1.P 4 (by simp)).1
              have q01 := q0U.below hbu1 (Nat.le_refl _)
              have q11 := q1U.below hbu1 (Nat.le_refl _)
              have q51 := q5U.below hbu1 (Nat.le_refl _)
              have hoR1 := hoRU.below hbu1 (Nat.le_refl _)
              refine ⟨cu1, ?_⟩
              clear hbu1 SU TU tU q0U q1U q5U hoRU
              obtain ⟨u2, hu2⟩ : ∃ V, V = u1.alloc (.cells #[.string (entS 1 (E + 1) 0 ⟨#[]⟩)] 9) := ⟨_, rfl⟩
              have S2 : RiSt w pa pn pc [.int .i64 d.wk, .bool true, .int .i64 d.now, .int .i64 d.sn, .int .i64 (E + 1), .int .i64 d.gv, .slice a0_ d.L1.length c0_, .slice a1_ d.L2.length c1_, .slice a2_ d.R.length c2_, .slice a3_ d.J.length c3_, .slice a4_ d.S.length c4_, .slice a5_ d.O.length c5_] u2 := by rw [hu2]; exact S1.alloc _
              have T2 : CF u2 w4.heap.size [.int .i64 0, .int .i64 E, .slice aR R.length cR] := by rw [hu2]; exact T1.block (Below.heap_alloc _ _ _ t1.2)
              have t2 : w.heap.size + 3 ≤ w4.heap.size ∧ w4.heap.size < u2.heap.size := ⟨t1.1, by rw [hu2]; simp; omega⟩
              have ownE : Own (w.heap.size + 3) u2 1 (.slice (some ⟨u1.heap.size, 0, none⟩) 1 1) 1 [.string (entS 1 (E + 1) 0 ⟨#[]⟩)] := by
                rw [hu2]; exact .inr ⟨_, 0, 1, rfl, OwnC.made u1 (w.heap.size + 3) 9 1 1 1 _ 1 S1.z (Nat.le_refl _) (by unfold maxLen; omega) rfl (Nat.le_refl _) _ rfl _ (.inl rfl)⟩
              have srcE : Src Tryz.prog 1 22 _ 1 _ u2 := ownE.src Tryz.underlying22 (by simp; rfl)
              have q02 := q01.alloc (.cells #[.string (entS 1 (E + 1) 0 ⟨#[]⟩)] 9)
              rw [← hu2] at q02
              have q12 := q11.alloc (.cells #[.string (entS 1 (E + 1) 0 ⟨#[]⟩)] 9)
              rw [← hu2] at q12
              have q52 := q51.alloc (.cells #[.string (entS 1 (E + 1) 0 ⟨#[]⟩)] 9)
              rw [← hu2] at q52
              have hoR2 := hoR1.alloc (.cells #[.string (entS 1 (E + 1) 0 ⟨#[]⟩)] 9)
              rw [← hu2] at hoR2
              obtain ⟨v3, u3, hr3, ho3, hg3, hbk3⟩ := run_append_c (P := Tryz.prog) u2 (w.heap.size + 3) 22 22 22 9 i0 (.string ⟨#[]⟩) 1 16 Tryz.underlying22 hi0 hz00 hz01 hz02 rfl _ d.L1.length _ q02 _ 1 _ srcE (by unfold maxLen; omega) (by omega) S2.z
              obtain ⟨a', c', rfl⟩ := ho3.slc
              have hrow := q02.row_lo
              have S3 := S2.grown hg3 hrow
              have T3 := T2.block (hg3.block _ t2.2 (fun e => by have h5 := HA0.out _ e.symm; omega))
              have t3 : w.heap.size + 3 ≤ w4.heap.size ∧ w4.heap.size < u3.heap.size := ⟨t2.1, Nat.lt_of_lt_of_le t2.2 hg3.size⟩
              have q13 := q12.grown hg3 D01.out.symm
              have q53 := q52.grown hg3 D05.out.symm
              have hoR3 := hoR2.grown hg3 DR0.out.symm
              have E01 : Dj (Value.slice a' (d.L1.length + 1) c').ownBlock (Value.slice a1_ d.L2.length c1_).ownBlock := by
                rcases hbk3 with h5 | h5
                · rw [h5]; exact D01.out
                · exact (Dj.new q12.row_hi (.inr h5)).symm
              have E05 : Dj (Value.slice a' (d.L1.length + 1) c').ownBlock (Value.slice a5_ d.O.length c5_).ownBlock := by
                rcases hbk3 with h5 | h5
                · rw [h5]; exact D05.out
                · exact (Dj.new q52.row_hi (.inr h5)).symm
              have E02 : Dj (Value.slice a' (d.L1.length + 1) c').ownBlock (Value.slice aR R.length cR).ownBlock := by
                rcases hbk3 with h5 | h5
                · rw [h5]; exact DR0.out
                · exact (Dj.new hoR2.row_hi (.inr h5)).symm
              have y6 : u3.cell? ⟨w.heap.size, 6, none⟩ = some (.slice a0_ d.L1.length c0_) := (S3.P 6 (by simp)).1
              have f6 : u3.frozen? ⟨w.heap.size, 6, none⟩ = false := (S3.P 6 (by simp)).2
              obtain ⟨u4, hu4⟩ : ∃ V, V = u3.setCell ⟨w.heap.size, 6, none⟩ (.slice a' (d.L1.length + 1) c') := ⟨_, rfl⟩
              have S4 : RiSt w pa pn pc [.int .i64 d.wk, .bool true, .int .i64 d.now, .int .i64 d.sn, .int .i64 (E + 1), .int .i64 d.gv, .slice a' (d.L1.length + 1) c', .slice a1_ d.L2.length c1_, .slice a2_ d.R.length c2_, .slice a3_ d.J.length c3_, .slice a4_ d.S.length c4_, .slice a5_ d.O.length c5_] u4 := by rw [hu4]; exact S3.set 6 (by simp) _
              have T4 : CF u4 w4.heap.size [.int .i64 0, .int .i64 E, .slice aR R.length cR] := by rw [hu4]; exact T3.block (Below.heap_setCell u3 (⟨w.heap.size, 6, none⟩ : Addr) _ w4.heap.size (by dsimp only; omega))
              have t4 : w4.heap.size < u4.heap.size := by have h5 := t3.2; rw [hu4]; simpa [World.setCell] using h5
              have ho4 := ho3.setLow (j := 6) (show w.heap.size < w.heap.size + 3 by omega) (.slice a' (d.L1.length + 1) c')
              have ho4' : Own (w.heap.size + 3) u4 1 (.slice a' (d.L1.length + 1) c') (d.L1.length + 1) ((d.L1 ++ [entS 1 (E + 1) 0 ⟨#[]⟩]).map Value.string) := by rw [hu4, List.map_append]; exact ho4
              have q14 := q13.setLow (j := 6) (show w.heap.size < w.heap.size + 3 by omega) (.slice a' (d.L1.length + 1) c')
              rw [← hu4] at q14
              have q54 := q53.setLow (j := 6) (show w.heap.size < w.heap.size + 3 by omega) (.slice a' (d.L1.length + 1) c')
              rw [← hu4] at q54
              have hoR4 := hoR3.setLow (j := 6) (show w.heap.size < w.heap.size + 3 by omega) (.slice a' (d.L1.length + 1) c')
              rw [← hu4] at hoR4
              have HR := hid (show (∃ (a' : Option Addr) (c' : Nat), (.pointer (some ⟨w.heap.size + 2, 0, none⟩) : Value) = .pointer (some ⟨w.heap.size + 2, 0, none⟩) ∧ RiSt w pa pn pc [.int .i64 d.wk, .bool true, .int .i64 d.now, .int .i64 d.sn, .int .i64 (E + 1), .int .i64 d.gv, .slice a' (d.L1.length + 1) c', .slice a1_ d.L2.length c1_, .slice a2_ d.R.length c2_, .slice a3_ d.J.length c3_, .slice a4_ d.S.length c4_, .slice a5_ d.O.length c5_] u4 ∧ CF u4 w4.heap.size [.int .i64 0, .int .i64 E, .slice aR R.length cR] ∧ w4.heap.size < u4.heap.size ∧ Own (w.heap.size + 3) u4 1 (.slice a' (d.L1.length + 1) c') (d.L1.length + 1) ((d.L1 ++ [entS 1 (E + 1) 0 ⟨#[]⟩]).map Value.string) ∧ Own (w.heap.size + 3) u4 1 (.slice a1_ d.L2.length c1_) d.L2.length (d.L2.map Value.string) ∧ Own (w.heap.size + 3) u4 3 (.slice a5_ d.O.length c5_) d.O.length (c3 d.O) ∧ Own (w.heap.size + 3) u4 1 (.slice aR R.length cR) R.length (R.map Value.string) ∧ Dj (Value.slice a' (d.L1.length + 1) c').ownBlock (Value.slice a1_ d.L2.length c1_).ownBlock ∧ Dj (Value.slice a' (d.L1.length + 1) c').ownBlock (Value.slice a5_ d.O.length c5_).ownBlock ∧ Dj (Value.slice a' (d.L1.length + 1) c').ownBlock (Value.slice aR R.length cR).ownBlock) from ⟨a', c', rfl, S4, T4, t4, ho4', q14, q54, hoR4, E01, E05, E02⟩)
              have c2 := (S2.P 4 (by simp)).1
              have l1 := (S1.P 6 (by simp)).1
              have l2 := (S2.P 6 (by simp)).1
              have c3 := (S3.P 4 (by simp)).1
              have c4 := (S4.P 4 (by simp)).1
              clear S1 S2 S3 S4 T1 T2 T3 T4 t1 t2 t3 t4 ownE srcE q11 q12 q51 q52 q01 q02 hoR1 hoR2 hg3 hrow E01 E05 E02 q13 q14 q53 q54 hoR3 hoR4 ho4 ho4' ho3 hbk3
              refine hTwo (i := 2) (j := 7) (by kernel_rfl) (hVal (i := 2) (d := some 38) (v := .slice a0_ d.L1.length c0_) (w' := u1) (l' := #[true, true, true, true, true, true, true, false, false, false, false, false]) rfl (by kernel_rfl) (by kernel_rfl) (by kernel_rfl) (run_ldss (.tmp 37) (by kernel_rfl) (by kernel_rfl) l1) cu1 ?_) (hVal (i := 7) (d := some 43) (v := .slice (some ⟨u1.heap.size, 0, none⟩) 1 1) (w' := u2) (l' := #[true, true, false, true, true, true, true, true, false, false, false, false]) rfl (by kernel_rfl) (by kernel_rfl) (by kernel_rfl) (by rw [hu2]; exact run_bsS (.tmp 42) _ (by kernel_rfl) (by kernel_rfl)) c2 ?_)
              · refine hOne (by kernel_rfl) (hVal (i := 7) (d := some 43) (v := .slice (some ⟨u1.heap.size, 0, none⟩) 1 1) (w' := u2) (l' := #[true, true, true, true, true, true, true, true, false, false, false, false]) rfl (by kernel_rfl) (by kernel_rfl) (by kernel_rfl) (by rw [hu2]; exact run_bsS (.tmp 42) _ (by kernel_rfl) (by kernel_rfl)) c2 ?_)
                refine hOne (by kernel_rfl) (hVal (i := 8) (d := some 44) (v := .slice a' (d.L1.length + 1) c') (w' := u3) (l' := #[true, true, true, true, true, true, true, true, true, false, false, false]) rfl (by kernel_rfl) (by kernel_rfl) (by kernel_rfl) (run_app (.tmp 38) (.tmp 43) 22 22 (by kernel_rfl) (by kernel_rfl) (by kernel_rfl) (by kernel_rfl) hr3) c3 ?_)
                refine hTake (i := 9) (d := some 45) (v := .pointer (some ⟨w.heap.size, 6, none⟩)) (l' := #[true, true, true, true, true, true, true, true, true, true, false, false]) rfl (by kernel_rfl) (by kernel_rfl) (by kernel_rfl) (by kernel_rfl) (fun _ _ _ h => h) (by kernel_rfl) (fun _ hc => by kernel_rfl) c3 (by kernel_rfl) ?_
                refine hTake (i := 10) (d := some 46) (v := .pointer (some ⟨w.heap.size, 6, none⟩)) (l' := #[true, true, true, true, true, true, true, true, true, true, true, false]) rfl (by kernel_rfl) (by kernel_rfl) (by kernel_rfl) (by kernel_rfl) (fun _ _ _ h => h) (by kernel_rfl) (fun _ hc => by kernel_rfl) c3 (by kernel_rfl) ?_
                refine hOne (by kernel_rfl) (hSkip (i := 11) (w' := u4) (l' := #[true, true, true, true, true, true, true, true, true, true, true, true]) rfl (by kernel_rfl) (by kernel_rfl) (by kernel_rfl) (by rw [hu4]; exact run_stS (.tmp 46) (.tmp 44) (by kernel_rfl) (by kernel_rfl) (by kernel_rfl) y6 f6) c4 ?_)
                refine wpAnyH_done (by kernel_rfl) ?_ _
                clear hu4 hu2 hr3 y6 f6 c2 c3 c4 l1 l2
                go_wp2_with fail
                go_meet
                case rel =>
                  obtain ⟨a', c', -, hh⟩ := HR.out
                  exact ⟨a', c', rfl, hh⟩
              · refine hOne (by kernel_rfl) (hVal (i := 2) (d := some 38) (v := .slice a0_ d.L1.length c0_) (w' := u2) (l' := #[true, true, true, true, true, true, true, true, false, false, false, false]) rfl (by kernel_rfl) (by kernel_rfl) (by kernel_rfl) (run_ldss (.tmp 37) (by kernel_rfl) (by kernel_rfl) l2) c2 ?_)
                refine hOne (by kernel_rfl) (hVal (i := 8) (d := some 44) (v := .slice a' (d.L1.length + 1) c') (w' := u3) (l' := #[true, true, true, true, true, true, true, true, true, false, false, false]) rfl (by kernel_rfl) (by kernel_rfl) (by kernel_rfl) (run_app (.tmp 38) (.tmp 43) 22 22 (by kernel_rfl) (by kernel_rfl) (by kernel_rfl) (by kernel_rfl) hr3) c3 ?_)
                refine hTake (i := 9) (d := some 45) (v := .pointer (some ⟨w.heap.size, 6, none⟩)) (l' := #[true, true, true, true, true, true, true, true, true, true, false, false]) rfl (by kernel_rfl) (by kernel_rfl) (by kernel_rfl) (by kernel_rfl) (fun _ _ _ h => h) (by kernel_rfl) (fun _ hc => by kernel_rfl) c3 (by kernel_rfl) ?_
                refine hTake (i := 10) (d := some 46) (v := .pointer (some ⟨w.heap.size, 6, none⟩)) (l' := #[true, true, true, true, true, true, true, true, true, true, true, false]) rfl (by kernel_rfl) (by kernel_rfl) (by kernel_rfl) (by kernel_rfl) (fun _ _ _ h => h) (by kernel_rfl) (fun _ hc => by kernel_rfl) c3 (by kernel_rfl) ?_
                refine hOne (by kernel_rfl) (hSkip (i := 11) (w' := u4) (l' := #[true, true, true, true, true, true, true, true, true, true, true, true]) rfl (by kernel_rfl) (by kernel_rfl) (by kernel_rfl) (by rw [hu4]; exact run_stS (.tmp 46) (.tmp 44) (by kernel_rfl) (by kernel_rfl) (by kernel_rfl) y6 f6) c4 ?_)
                refine wpAnyH_done (by kernel_rfl) ?_ _
                clear hu4 hu2 hr3 y6 f6 c2 c3 c4 l1 l2
                go_wp2_with fail
                go_meet
                case rel =>
                  obtain ⟨a', c', -, hh⟩ := HR.out
                  exact ⟨a', c', rfl, hh⟩
          case rest =>
            obtain ⟨a', c', rfl, S4, T4, t4, ho4, q14, q54, hoR4, E01, E05, E02⟩ := hcut
            have E01 := hid E01
            have E05 := hid E05
            have E02 := hid E02
            clear SU TU tU q0U q1U q5U hoRU D01 D05
            obtain ⟨x4, rfl⟩ : ∃ x4, x4 = wc := ⟨_, rfl⟩
            have y8 : x4.cell? ⟨w.heap.size, 8, none⟩ = some (.slice a2_ d.R.length c2_) := (S4.P 8 (by simp)).1
            have f8 : x4.frozen? ⟨w.heap.size, 8, none⟩ = false := (S4.P 8 (by simp)).2
            have e2 : x4.cell? ⟨w4.heap.size, 2, none⟩ = some (.slice aR R.length cR) := (T4 2 (by simp)).1
            go_upto_region 11 with fail
            clear y8 f8 e2
            obtain ⟨x5, hx5⟩ : ∃ V, V = x4.setCell ⟨w.heap.size, 8, none⟩ (.slice aR R.length cR) := ⟨_, rfl⟩
            have S5 : RiSt w pa pn pc [.int .i64 d.wk, .bool true, .int .i64 d.now, .int .i64 d.sn, .int .i64 (E + 1), .int .i64 d.gv, .slice a' (d.L1.length + 1) c', .slice a1_ d.L2.length c1_, .slice aR R.length cR, .slice a3_ d.J.length c3_, .slice a4_ d.S.length c4_, .slice a5_ d.O.length c5_] x5 := by rw [hx5]; exact S4.set 8 (by simp) _
            have ho5 := ho4.setLow (j := 8) (show w.heap.size < w.heap.size + 3 by omega) (.slice aR R.length cR)
            rw [← hx5] at ho5
            have q15 := q14.setLow (j := 8) (show w.heap.size < w.heap.size + 3 by omega) (.slice aR R.length cR)
            rw [← hx5] at q15
            have q55 := q54.setLow (j := 8) (show w.heap.size < w.heap.size + 3 by omega) (.slice aR R.length cR)
            rw [← hx5] at q55
            have hoR5 := hoR4.setLow (j := 8) (show w.heap.size < w.heap.size + 3 by omega) (.slice aR R.length cR)
            rw [← hx5] at hoR5
            rw [← hx5]
            clear hx5 S4 T4 t4 ho4 q14 q54 hoR4
            have kp : x5.cell? ⟨w.heap.size + 1, 0, none⟩ = some (.slice pa pn pc) := (S5.L 0 (by simp)).1
            go_upto_region 12 with (refine wpList_make_c _ rfl _ _ 36 rfl (w.heap.size + 3) 113 i3 (.agg #[.int .i64 0, .int .i64 0, .int .i64 0]) 3 24 Tryz.underlying36 hi3 hz30 hz31 hz32 .i64 .i64 pn pn pn rfl rfl rfl rfl (by omega) (by unfold maxLen; omega) S5.z ?_; intro x6 hownJ hgJ; have S6 := S5.grown hgJ (fun q hq => by cases hq); have y9 : x6.cell? ⟨w.heap.size, 9, none⟩ = some (.slice a3_ d.J.length c3_) := (S6.P 9 (by simp)).1; have f9 : x6.frozen? ⟨w.heap.size, 9, none⟩ = false := (S6.P 9 (by simp)).2)
            clear y9 f9 kp
            rw [made3] at hownJ
            have hoJ6 : Own (w.heap.size + 3) x6 3 (.slice (some ⟨x5.heap.size, 0, none⟩) pn pn) pn (c3 (List.replicate pn (0, 0, 0))) := .inr ⟨_, 0, pn, rfl, hownJ⟩
            have ho6 := ho5.blk (fun q hq => hgJ.block q (ho5.row_hi q hq) (fun e => by cases e))
            have q16 := q15.blk (fun q hq => hgJ.block q (q15.row_hi q hq) (fun e => by cases e))
            have q56 := q55.blk (fun q hq => hgJ.block q (q55.row_hi q hq) (fun e => by cases e))
            have hoR6 := hoR5.blk (fun q hq => hgJ.block q (hoR5.row_hi q hq) (fun e => by cases e))
            have J0 : Hid (Dj (Value.slice a' (d.L1.length + 1) c').ownBlock (some x5.heap.size)) := Dj.new ho5.row_hi (.inr rfl)
            have J1 : Hid (Dj (Value.slice a1_ d.L2.length c1_).ownBlock (some x5.heap.size)) := Dj.new q15.row_hi (.inr rfl)
            have J2 : Hid (Dj (Value.slice aR R.length cR).ownBlock (some x5.heap.size)) := Dj.new hoR5.row_hi (.inr rfl)
            have J5 : Hid (Dj (Value.slice a5_ d.O.length c5_).ownBlock (some x5.heap.size)) := Dj.new q55.row_hi (.inr rfl)
            clear hownJ hgJ ho5 q15 q55 hoR5 S5
            obtain ⟨x7, hx7⟩ : ∃ V, V = x6.setCell ⟨w.heap.size, 9, none⟩ (.slice (some ⟨x5.heap.size, 0, none⟩) pn pn) := ⟨_, rfl⟩
            have S7 : RiSt w pa pn pc [.int .i64 d.wk, .bool true, .int .i64 d.now, .int .i64 d.sn, .int .i64 (E + 1), .int .i64 d.gv, .slice a' (d.L1.length + 1) c', .slice a1_ d.L2.length c1_, .slice aR R.length cR, .slice (some ⟨x5.heap.size, 0, none⟩) pn pn, .slice a4_ d.S.length c4_, .slice a5_ d.O.length c5_] x7 := by rw [hx7]; exact S6.set 9 (by simp) _
            have ho7 := ho6.setLow (j := 9) (show w.heap.size < w.heap.size + 3 by omega) (.slice (some ⟨x5.heap.size, 0, none⟩) pn pn)
            rw [← hx7] at ho7
            have q17 := q16.setLow (j := 9) (show w.heap.size < w.heap.size + 3 by omega) (.slice (some ⟨x5.heap.size, 0, none⟩) pn pn)
            rw [← hx7] at q17
            have q57 := q56.setLow (j := 9) (show w.heap.size < w.heap.size + 3 by omega) (.slice (some ⟨x5.heap.size, 0, none⟩) pn pn)
            rw [← hx7] at q57
            have hoR7 := hoR6.setLow (j := 9) (show w.heap.size < w.heap.size + 3 by omega) (.slice (some ⟨x5.heap.size, 0, none⟩) pn pn)
            rw [← hx7] at hoR7
            have hoJ7 := hoJ6.setLow (j := 9) (show w.heap.size < w.heap.size + 3 by omega) (.slice (some ⟨x5.heap.size, 0, none⟩) pn pn)
            rw [← hx7] at hoJ7
            rw [← hx7]
            clear hx7 S6 ho6 q16 q56 hoR6 hoJ6
            have y0 : x7.cell? ⟨w.heap.size, 0, none⟩ = some (.int .i64 d.wk) := (S7.P 0 (by simp)).1
            obtain ⟨nw, hnw⟩ : ∃ nw : Nat, nw = d.wk.toNat := ⟨_, rfl⟩
            have HNW := hid (show d.wk = (nw : Int) by omega)
            have hnw8 : nw ≤ 8 := by omega
            have HNW0 := hid hnw
            clear hnw
            go_upto_region 13 with (refine wpList_make_c _ rfl _ _ 37 rfl (w.heap.size + 3) 108 i4 (.agg #[.bool false, .int .i64 0]) 2 16 Tryz.underlying37 hi4 hz40 hz41 hz42 .i64 .i64 d.wk d.wk nw rfl rfl HNW.out HNW.out (by omega) (by unfold maxLen; omega) S7.z ?_; intro x8 hownS hgS; have S8 := S7.grown hgS (fun q hq => by cases hq); have y10 : x8.cell? ⟨w.heap.size, 10, none⟩ = some (.slice a4_ d.S.length c4_) := (S8.P 10 (by simp)).1; have f10 : x8.frozen? ⟨w.heap.size, 10, none⟩ = false := (S8.P 10 (by simp)).2)
            clear y10 f10 y0
            rw [made2] at hownS
            have hoS8 : Own (w.heap.size + 3) x8 2 (.slice (some ⟨x7.heap.size, 0, none⟩) nw nw) nw (c2 (List.replicate nw (false, 0))) := .inr ⟨_, 0, nw, rfl, hownS⟩
            have ho8 := ho7.blk (fun q hq => hgS.block q (ho7.row_hi q hq) (fun e => by cases e))
            have q18 := q17.blk (fun q hq => hgS.block q (q17.row_hi q hq) (fun e => by cases e))
            have q58 := q57.blk (fun q hq => hgS.block q (q57.row_hi q hq) (fun e => by cases e))
            have hoR8 := hoR7.blk (fun q hq => hgS.block q (hoR7.row_hi q hq) (fun e => by cases e))
            have hoJ8 := hoJ7.blk (fun q hq => hgS.block q (hoJ7.row_hi q hq) (fun e => by cases e))
            have K0 : Hid (Dj (Value.slice a' (d.L1.length + 1) c').ownBlock (some x7.heap.size)) := Dj.new ho7.row_hi (.inr rfl)
            have K1 : Hid (Dj (Value.slice a1_ d.L2.length c1_).ownBlock (some x7.heap.size)) := Dj.new q17.row_hi (.inr rfl)
            have K2 : Hid (Dj (Value.slice aR R.length cR).ownBlock (some x7.heap.size)) := Dj.new hoR7.row_hi (.inr rfl)
            have K3 : Hid (Dj (Value.slice (some ⟨x5.heap.size, 0, none⟩) pn pn).ownBlock (some x7.heap.size)) := Dj.new hoJ7.row_hi (.inr rfl)
            have K5 : Hid (Dj (Value.slice a5_ d.O.length c5_).ownBlock (some x7.heap.size)) := Dj.new q57.row_hi (.inr rfl)
            clear hownS hgS ho7 q17 q57 hoR7 hoJ7 S7
            obtain ⟨x9, hx9⟩ : ∃ V, V = x8.setCell ⟨w.heap.size, 10, none⟩ (.slice (some ⟨x7.heap.size, 0, none⟩) nw nw) := ⟨_, rfl⟩
            have S9 : RiSt w pa pn pc [.int .i64 d.wk, .bool true, .int .i64 d.now, .int .i64 d.sn, .int .i64 (E + 1), .int .i64 d.gv, .slice a' (d.L1.length + 1) c', .slice a1_ d.L2.length c1_, .slice aR R.length cR, .slice (some ⟨x5.heap.size, 0, none⟩) pn pn, .slice (some ⟨x7.heap.size, 0, none⟩) nw nw, .slice a5_ d.O.length c5_] x9 := by rw [hx9]; exact S8.set 10 (by simp) _
            have ho9 := ho8.setLow (j := 10) (show w.heap.size < w.heap.size + 3 by omega) (.slice (some ⟨x7.heap.size, 0, none⟩) nw nw)
            rw [← hx9] at ho9
            have q19 := q18.setLow (j := 10) (show w.heap.size < w.heap.size + 3 by omega) (.slice (some ⟨x7.heap.size, 0, none⟩) nw nw)
            rw [← hx9] at q19
            have q59 := q58.setLow (j := 10) (show w.heap.size < w.heap.size + 3 by omega) (.slice (some ⟨x7.heap.size, 0, none⟩) nw nw)
            rw [← hx9] at q59
            have hoR9 := hoR8.setLow (j := 10) (show w.heap.size < w.heap.size + 3 by omega) (.slice (some ⟨x7.heap.size, 0, none⟩) nw nw)
            rw [← hx9] at hoR9
            have hoJ9 := hoJ8.setLow (j := 10) (show w.heap.size < w.heap.size + 3 by omega) (.slice (some ⟨x7.heap.size, 0, none⟩) nw nw)
            rw [← hx9] at hoJ9
            have hoS9 := hoS8.setLow (j := 10) (show w.heap.size < w.heap.size + 3 by omega) (.slice (some ⟨x7.heap.size, 0, none⟩) nw nw)
            rw [← hx9] at hoS9
            rw [← hx9]
            clear hx9 S8 ho8 q18 q58 hoR8 hoJ8 hoS8
            have y0 : x9.cell? ⟨w.heap.size, 0, none⟩ = some (.int .i64 d.wk) := (S9.P 0 (by simp)).1
            have y1 : x9.cell? ⟨w.heap.size, 1, none⟩ = some (.bool true) := (S9.P 1 (by simp)).1
            have y2 : x9.cell? ⟨w.heap.size, 2, none⟩ = some (.int .i64 d.now) := (S9.P 2 (by simp)).1
            have y3 : x9.cell? ⟨w.heap.size, 3, none⟩ = some (.int .i64 d.sn) := (S9.P 3 (by simp)).1
            have y4 : x9.cell? ⟨w.heap.size, 4, none⟩ = some (.int .i64 (E + 1)) := (S9.P 4 (by simp)).1
            have y5 : x9.cell? ⟨w.heap.size, 5, none⟩ = some (.int .i64 d.gv) := (S9.P 5 (by simp)).1
            have y6 : x9.cell? ⟨w.heap.size, 6, none⟩ = some (.slice a' (d.L1.length + 1) c') := (S9.P 6 (by simp)).1
            have y7 : x9.cell? ⟨w.heap.size, 7, none⟩ = some (.slice a1_ d.L2.length c1_) := (S9.P 7 (by simp)).1
            have y8 : x9.cell? ⟨w.heap.size, 8, none⟩ = some (.slice aR R.length cR) := (S9.P 8 (by simp)).1
            have y9 : x9.cell? ⟨w.heap.size, 9, none⟩ = some (.slice (some ⟨x5.heap.size, 0, none⟩) pn pn) := (S9.P 9 (by simp)).1
            have y10 : x9.cell? ⟨w.heap.size, 10, none⟩ = some (.slice (some ⟨x7.heap.size, 0, none⟩) nw nw) := (S9.P 10 (by simp)).1
            have y11 : x9.cell? ⟨w.heap.size, 11, none⟩ = some (.slice a5_ d.O.length c5_) := (S9.P 11 (by simp)).1
            go_wp2_with (refine wpList_store_cf rfl 40 (.tmp 4) (.tmp 59) rfl (w.heap.size + 2) zB [.int .i64 d.wk, .bool true, .int .i64 d.now, .int .i64 d.sn, .int .i64 (E + 1), .int .i64 d.gv, .slice a' (d.L1.length + 1) c', .slice a1_ d.L2.length c1_, .slice aR R.length cR, .slice (some ⟨x5.heap.size, 0, none⟩) pn pn, .slice (some ⟨x7.heap.size, 0, none⟩) nw nw, .slice a5_ d.O.length c5_] rfl rfl S9.R rfl Tryz.sizeBo (one12b _ _ _ _ _ _ _ _ _ _ _ _ _ _ _ _ _ _ _ _ _ _ _ _) ?_; intro w10 hc10 hg10)
            clear y0 y1 y2 y3 y4 y5 y6 y7 y8 y9 y10 y11
            have esn : d.sn = 0 := by rw [HD.out]
            have egv : d.gv = 0 := by rw [HD.out]
            have eL2 : d.L2 = [] := by rw [HD.out]
            have eO : d.O = [] := by rw [HD.out]
            have b0' := (ho9.grown hg10 (.inr (by intro hh; have := ho9.row_lo _ hh; omega))).mono' (show w.heap.size ≤ w.heap.size + 3 by omega)
            have b1' := (q19.grown hg10 (.inr (by intro hh; have := q19.row_lo _ hh; omega))).mono' (show w.heap.size ≤ w.heap.size + 3 by omega)
            have b2' := (hoR9.grown hg10 (.inr (by intro hh; have := hoR9.row_lo _ hh; omega))).mono' (show w.heap.size ≤ w.heap.size + 3 by omega)
            have b3' := (hoJ9.grown hg10 (.inr (by intro hh; have := hoJ9.row_lo _ hh; omega))).mono' (show w.heap.size ≤ w.heap.size + 3 by omega)
            have b4' := (hoS9.grown hg10 (.inr (by intro hh; have := hoS9.row_lo _ hh; omega))).mono' (show w.heap.size ≤ w.heap.size + 3 by omega)
            have b5' := (q59.grown hg10 (.inr (by intro hh; have := q59.row_lo _ hh; omega))).mono' (show w.heap.size ≤ w.heap.size + 3 by omega)
            have HO : Hid (BossO w10 w.heap.size (riseB d E R ts.length) ⟨a', a1_, aR, some ⟨x5.heap.size, 0, none⟩, some ⟨x7.heap.size, 0, none⟩, a5_, c', c1_, cR, pn, nw, c5_⟩) := by
              refine ⟨?_, ?_, ?_, ?_, ?_, ?_, ?_⟩
              · simp only [riseB, List.length_append, List.length_cons, List.length_nil]; exact b0'
              · rw [eL2] at b1'; exact b1'
              · exact b2'
              · simp only [riseB, List.length_replicate]; rw [HPL.out]; exact b3'
              · simp only [riseB, List.length_replicate]; rw [← HNW0.out]; exact b4'
              · rw [eO] at b5'; exact b5'
              · simp only [riseB, List.length_append, List.length_cons, List.length_nil, List.length_replicate, List.pairwise_cons, List.mem_cons, List.not_mem_nil, or_false, forall_eq_or_imp, forall_eq, List.Pairwise.nil, and_true, false_implies, implies_true]
                have f1 := E01.out; have f5 := E05.out; have g1 := J1.out; have g5 := J5.out; have m1 := K1.out; have m5 := K5.out; have r1 := DR1.out; have r5 := DR5.out; have x15 := E15.out
                rw [eL2] at f1 g1 m1 r1 x15
                rw [eO] at f5 g5 m5 r5 x15
                refine ⟨⟨f1, E02.out, J0.out, K0.out, f5⟩, ⟨r1, g1, m1, x15⟩, ⟨J2.out, K2.out, r5.symm⟩, ⟨?_, ?_⟩, ?_⟩
                · exact K3.out
                · exact g5.symm
                · exact m5.symm
            have k0 : w10.cell? ⟨w.heap.size + 2, 0, none⟩ = some (.int .i64 d.wk) := (hc10 0 (by simp)).1
            have k1 : w10.cell? ⟨w.heap.size + 2, 1, none⟩ = some (.bool true) := (hc10 1 (by simp)).1
            have k2 : w10.cell? ⟨w.heap.size + 2, 2, none⟩ = some (.int .i64 d.now) := (hc10 2 (by simp)).1
            have k3 : w10.cell? ⟨w.heap.size + 2, 3, none⟩ = some (.int .i64 d.sn) := (hc10 3 (by simp)).1
            have k4 : w10.cell? ⟨w.heap.size + 2, 4, none⟩ = some (.int .i64 (E + 1)) := (hc10 4 (by simp)).1
            have k5 : w10.cell? ⟨w.heap.size + 2, 5, none⟩ = some (.int .i64 d.gv) := (hc10 5 (by simp)).1
            have k6 : w10.cell? ⟨w.heap.size + 2, 6, none⟩ = some (.slice a' (d.L1.length + 1) c') := (hc10 6 (by simp)).1
            have k7 : w10.cell? ⟨w.heap.size + 2, 7, none⟩ = some (.slice a1_ d.L2.length c1_) := (hc10 7 (by simp)).1
            have k8 : w10.cell? ⟨w.heap.size + 2, 8, none⟩ = some (.slice aR R.length cR) := (hc10 8 (by simp)).1
            have k9 : w10.cell? ⟨w.heap.size + 2, 9, none⟩ = some (.slice (some ⟨x5.heap.size, 0, none⟩) pn pn) := (hc10 9 (by simp)).1
            have k10 : w10.cell? ⟨w.heap.size + 2, 10, none⟩ = some (.slice (some ⟨x7.heap.size, 0, none⟩) nw nw) := (hc10 10 (by simp)).1
            have k11 : w10.cell? ⟨w.heap.size + 2, 11, none⟩ = some (.slice a5_ d.O.length c5_) := (hc10 11 (by simp)).1
            refine bodyPost_ret (v := .agg #[.int .i64 d.wk, .bool true, .int .i64 d.now, .int .i64 d.sn, .int .i64 (E + 1), .int .i64 d.gv, .slice a' (d.L1.length + 1) c', .slice a1_ d.L2.length c1_, .slice aR R.length cR, .slice (some ⟨x5.heap.size, 0, none⟩) pn pn, .slice (some ⟨x7.heap.size, 0, none⟩) nw nw, .slice a5_ d.O.length c5_]) (by simp [results, Tryz.results10, go_sem, k0, k1, k2, k3, k4, k5, k6, k7, k8, k9, k10, k11]) rfl ⟨⟨riseB d E R ts.length, ⟨_, ?_, HO.out⟩, .inl ⟨HV.out, .inr ⟨HUP.out, E, R, HT.out, .inr ⟨⟨HLT.out, HE.out⟩, rfl⟩⟩⟩⟩, below_grown S9.B hg10 (by have := S9.z; omega) (fun q hq => by simp at hq; omega)⟩
            simp only [bvs, riseB, List.length_append, List.length_cons, List.length_nil, List.length_replicate, esn, egv, eL2, eO, HPL.out, ← HNW0.out]

end Go.Proofs.YtbfamabkbkpmpaaGreat
