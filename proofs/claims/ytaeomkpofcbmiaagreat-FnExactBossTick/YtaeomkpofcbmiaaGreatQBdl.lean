import Derived.Test.YtaeomkpofcbmiaaGreatQBel
namespace Go.Proofs.YtaeomkpofcbmiaaGreat
open Go.RowKit

theorem Tryz.sizeMgB : (Tryz.prog.info? 71).map (·.size) = some 8 := by kernel_rfl
theorem run_ldMsB {ρ : Operand → Value} {o : Oper} {w : World} {p : Addr} {v : Value} (x : Operand) (h : o.op = .load 41 x) (hx : ρ x = .pointer (some p)) (hc : w.cell? p = some v) : (execOp ρ o).run Tryz.prog w = .ok (.value v) w := by
  unfold execOp; rw [h]; simp [go_sem, hx, hc]
theorem run_stMsB {ρ : Operand → Value} {o : Oper} {w : World} {p : Addr} {v0 : Value} (x y : Operand) (a : Option Addr) (n c : Nat) (h : o.op = .store 41 x y) (hx : ρ x = .pointer (some p)) (hy : ρ y = .slice a n c) (hc : w.cell? p = some v0) (hf : w.frozen? p = false) : (execOp ρ o).run Tryz.prog w = .ok .skip (w.setCell p (.slice a n c)) := by
  unfold execOp; rw [h]; simp [go_sem, hx, hy, hc, hf]
theorem run_bsM {ρ : Operand → Value} {o : Oper} {w : World} (y : Operand) (kd fm tw ep le ta : Int) (x : ByteArray) (ua : Option Addr) (un uc : Nat) (h : o.op = .buildSlice 41 1 #[(0, y)]) (hx : ρ y = .agg #[.int .i64 kd, .int .i64 fm, .int .i64 tw, .int .i64 ep, .int .i64 le, .int .i64 ta, .string x, .slice ua un uc]) :
    (execOp ρ o).run Tryz.prog w = .ok (.value (.slice (some ⟨w.heap.size, 0, none⟩) 1 1)) (w.alloc (.cells #[.int .i64 kd, .int .i64 fm, .int .i64 tw, .int .i64 ep, .int .i64 le, .int .i64 ta, .string x, .slice ua un uc] 71)) := by
  unfold execOp; rw [h]; simp [go_sem, hx]
/-- A block behind all is written. -/
theorem DkS.far {w0 wK wr w' : World} {B Qm Qd Qp : Nat} {d : BD} {h : BH} {ts : List TaskD} {pa : Option Addr} {pc : Nat} {now sn : Int} {nb : Nat} {st : HSt} {v : Value} {vs : List Value} {row : Option Nat} (s : DkS w0 wK B Qm Qd Qp d h ts pa pc now sn nb st v vs wr) (hg : wr.grownBy w' row) (h1 : ∀ q, row = some q → Qm ≤ q) (h2 : Dn v.ownBlock row) (h3 : ∀ j, j < st.M.length → Dn (vs.getD j nilV).ownBlock row) : DkS w0 wK B Qm Qd Qp d h ts pa pc now sn nb st v vs w' := by
  have hq := s.q
  have hz := s.H.sz
  have hbs := s.H.bs
  obtain ⟨n, X, hn, hX⟩ := s.mp
  have ne : ∀ p, p < Qm → some p ≠ row := fun p hp e => by have := h1 p e.symm; omega
  exact ⟨s.H.farR hg (fun q e => by have := h1 q e; omega) (fun r hr q e hh => by have := s.H.lo r hr q e; have := h1 q hh; omega) h2 h3, s.D.block (hg.block _ (by omega) (ne _ hq.2.2.2.1)), ⟨n, X, hn, hX.kept hg (ne _ hq.2.2.2.2)⟩, s.q, s.nr, s.vm, fun q g1 g2 g3 g4 => (hg.block q (by omega) (ne _ g1)).trans (s.fx q g1 g2 g3 g4)⟩
/-- One message more. -/
theorem DkS.snoc {w0 wK wr w9 : World} {B Qm Qd Qp : Nat} {d : BD} {h : BH} {ts : List TaskD} {pa : Option Addr} {pc : Nat} {now sn : Int} {nb : Nat} {st : HSt} {v : Value} {vs : List Value} {t : MgD} {u : Value} {a9 : Option Addr} {c9 : Nat} {ob : Obj} (s : DkS w0 wK B Qm Qd Qp d h ts pa pc now sn nb st v vs wr) (hu : Own Qm wr 1 u t.ss.length (t.ss.map Value.string)) (hud : Dn u.ownBlock v.ownBlock) (hdu : ∀ j, j < st.M.length → Dn (vs.getD j nilV).ownBlock u.ownBlock)
    (ho : Own Qm w9 8 (.slice a9 (st.M.length + 1) c9) (st.M.length + 1) (rowM st.M vs ++ mcell t u)) (hg : (wr.alloc ob).grownBy w9 v.ownBlock) (hbk : (Value.slice a9 (st.M.length + 1) c9).ownBlock = v.ownBlock ∨ (Value.slice a9 (st.M.length + 1) c9).ownBlock = some (wr.alloc ob).heap.size) :
    DkS w0 wK B Qm Qd Qp d h ts pa pc now sn nb ⟨st.gv, st.J, st.S, st.M ++ [t]⟩ (.slice a9 (st.M.length + 1) c9) (vs ++ [u]) (w9.setCell ⟨Qd, 14, none⟩ (.slice a9 (st.M.length + 1) c9)) := by
  have hq := s.q
  have hz := s.H.sz
  have hlo := s.H.ms.row.row_lo
  obtain ⟨n, X, hn, hX⟩ := s.mp
  have hbA : Below wr.heap.size wr (wr.alloc ob) := (Below.refl _ _).alloc (Nat.le_refl _) _
  have hzA : (wr.alloc ob).heap.size = wr.heap.size + 1 := by simp
  have gs := gset (World.grownBy.refl w9 (some Qd)) 14 (.slice a9 (st.M.length + 1) c9)
  have ne : ∀ p, p < Qm → some p ≠ v.ownBlock := fun p hp e => by have := hlo p e.symm; omega
  have hH := s.H.snoc (t := t) hu hud hdu ho hg hbk
  exact ⟨hH.farLo gs hq.2.1 hq.2.2.2.1 (fun r hr => (s.nr r hr).2), ((s.D.block (hbA.block _ (by omega))).block (hg.block _ (by omega) (ne _ hq.2.2.2.1))).set (j := 14) (by simp) _, ⟨n, X, hn, ((hX.alloc ob).kept hg (ne _ hq.2.2.2.2)).kept gs (fun e => by injection e with e; omega)⟩, s.q, s.nr, ⟨a9, c9, by rw [List.length_append, List.length_singleton]⟩, fun q g1 g2 g3 g4 => ((gs.block q (by have := hg.size; omega) (fun e => by injection e with e; exact g2 e)).trans (hg.block q (by omega) (ne _ g1))).trans ((hbA.block q (by omega)).trans (s.fx q g1 g2 g3 g4))⟩
set_option maxHeartbeats 4000000 in
set_option maxRecDepth 100000 in
theorem send_any (w0 wK : World) (B Qm Qd Qp : Nat) (d : BD) (h : BH) (ts : List TaskD) (pa : Option Addr) (pc : Nat) (now sn : Int) (nb : Nat) (st : HSt) (v : Value) (vs : List Value) (kd fm tw e0 le ta : Int) (x : ByteArray) (ua : Option Addr) (uc : Nat) (ss : List ByteArray) (w : World) (s : DkS w0 wK B Qm Qd Qp d h ts pa pc now sn nb st v vs w) (hu : Own Qm w 1 (.slice ua ss.length uc) ss.length (ss.map Value.string)) (hud : Dn (Value.slice ua ss.length uc).ownBlock v.ownBlock) (hdu : ∀ j, j < st.M.length → Dn (vs.getD j nilV).ownBlock (Value.slice ua ss.length uc).ownBlock) (hml : st.M.length ≤ 3000) :
    Calls Tryz.prog 106 #[.pointer (some ⟨Qd, 0, none⟩), .agg #[.int .i64 kd, .int .i64 fm, .int .i64 tw, .int .i64 e0, .int .i64 le, .int .i64 ta, .string x, .slice ua ss.length uc]] w fun e w' => e = .returned (.tuple #[]) ∧ ∃ v', DkS w0 wK B Qm Qd Qp d h ts pa pc now sn nb ⟨st.gv, st.J, st.S, st.M ++ [⟨kd, fm, tw, d.ep, le, ta, x, ss⟩]⟩ v' (vs ++ [.slice ua ss.length uc]) w' := by
  obtain ⟨iM, hiM, hM0, hM1, hM2⟩ := info_parts Tryz.infoMs
  obtain ⟨va, vc, rfl⟩ := s.vm
  have hz := s.H.sz
  have hq := s.q
  obtain ⟨W, hW⟩ : ∃ V, V = w.alloc (.cells #[.int .i64 kd, .int .i64 fm, .int .i64 tw, .int .i64 e0, .int .i64 le, .int .i64 ta, .string x, .slice ua ss.length uc] 71) := ⟨_, rfl⟩
  obtain ⟨Qx, hQx⟩ : ∃ q, q = w.heap.size := ⟨_, rfl⟩
  have hbW : Below w.heap.size w W := by rw [hW]; exact (Below.refl _ _).alloc (Nat.le_refl _) _
  have cW : CF W Qx [.int .i64 kd, .int .i64 fm, .int .i64 tw, .int .i64 e0, .int .i64 le, .int .i64 ta, .string x, .slice ua ss.length uc] := by rw [hW, hQx]; exact CF.made w #[.int .i64 kd, .int .i64 fm, .int .i64 tw, .int .i64 e0, .int .i64 le, .int .i64 ta, .string x, .slice ua ss.length uc] 71
  have sW := s.below hbW
  have huW := hu.below hbW (Nat.le_refl _)
  have dv : Dn (Value.slice va st.M.length vc).ownBlock (some Qx) := Dn.later (m := Qx) (by rw [hQx]; exact s.H.ms.row.row_hi) (fun q e => by injection e with e; omega)
  have dvs : ∀ j, j < st.M.length → Dn (vs.getD j nilV).ownBlock (some Qx) := fun j hj => Dn.later (m := Qx) (by rw [hQx]; exact (s.H.ms.dep j hj).row_hi) (fun q e => by injection e with e; omega)
  have du : Dn (Value.slice ua ss.length uc).ownBlock (some Qx) := Dn.later (m := Qx) (by rw [hQx]; exact hu.row_hi) (fun q e => by injection e with e; omega)
  have hQm : Qm ≤ Qx := by omega
  have lW : Qx < W.heap.size := by rw [hW, hQx]; simp
  have HW := hid hW
  have HQ := hid hQx
  clear hW hQx hbW s hu
  go_enter Tryz.func106, Tryz.ntmps106
  go_upto_region 1 with fail
  rw [← HW.out, ← HQ.out]
  clear HW HQ
  have y4 : W.cell? ⟨Qd, 4, none⟩ = some (.int .i64 d.ep) := (sW.D 4 (by simp)).1
  have m3 : W.cell? ⟨Qx, 3, none⟩ = some (.int .i64 e0) := (cW 3 (by simp)).1
  have f3 : W.frozen? ⟨Qx, 3, none⟩ = false := (cW 3 (by simp)).2
  go_upto_region 2 with fail
  obtain ⟨W1, hW1⟩ : ∃ V, V = W.setCell ⟨Qx, 3, none⟩ (.int .i64 d.ep) := ⟨_, rfl⟩
  have g1 : W.grownBy W1 (some Qx) := by rw [hW1]; exact gset (World.grownBy.refl W _) 3 _
  have c1 : CF W1 Qx [.int .i64 kd, .int .i64 fm, .int .i64 tw, .int .i64 d.ep, .int .i64 le, .int .i64 ta, .string x, .slice ua ss.length uc] := by rw [hW1]; exact cW.set (j := 3) (by simp) _
  have s1 := sW.far g1 (fun q e => by injection e with e; omega) dv dvs
  have hu1 := huW.grown g1 du
  have z1 := g1.size
  rw [← hW1]
  clear hW1 g1 cW sW huW y4 m3 f3
  refine wp_region_held (S := fun w' => CF w' Qx [.int .i64 kd, .int .i64 fm, .int .i64 tw, .int .i64 d.ep, .int .i64 le, .int .i64 ta, .string x, .slice ua ss.length uc]) (by kernel_rfl) ?_
  change wpAnyH _ _ _ _ _ _ _ _ (World.drew _)
  have hbd : Below W1.heap.size W1 W1.drew := (Below.refl _ _).drew
  have s0 := s1.below hbd
  have hS0 : CF W1.drew Qx [.int .i64 kd, .int .i64 fm, .int .i64 tw, .int .i64 d.ep, .int .i64 le, .int .i64 ta, .string x, .slice ua ss.length uc] := c1
  have hu0 := hu1.below hbd (Nat.le_refl _)
  have l0 : Qx < W1.drew.heap.size := Nat.lt_of_lt_of_le (by omega) hbd.size
  obtain ⟨x0, hx0⟩ : ∃ U, U = W1.drew := ⟨_, rfl⟩
  rw [← hx0] at s0 hS0 hu0 l0
  rw [← hx0]
  clear hx0 s1 c1 hu1 hbd z1 lW
  refine hTk (i := 0) (d := some 10) (v := .pointer (some ⟨Qd, 0, none⟩)) (l' := (bt 11 1)) rfl (fun _ hc => run_mvF (.tmp 0) (by kernel_rfl) (by kernel_rfl)) hS0 ?_
  refine hTk (i := 1) (d := some 11) (v := .pointer (some ⟨Qd, 0, none⟩)) (l' := (bt 11 3)) rfl (fun _ hc => run_mvF (.tmp 0) (by kernel_rfl) (by kernel_rfl)) hS0 ?_
  refine hTk (i := 2) (d := some 12) (v := .pointer (some ⟨Qd, 0, none⟩)) (l' := (bt 11 7)) rfl (fun _ hc => run_nc (.tmp 11) (by kernel_rfl) (by kernel_rfl)) hS0 ?_
  refine hTk (i := 3) (d := some 13) (v := .pointer (some ⟨Qd, 14, none⟩)) (l' := (bt 11 15)) rfl (fun _ hc => run_faD3 (.tmp 12) (by kernel_rfl) (by kernel_rfl)) hS0 ?_
  refine hTk (i := 5) (d := some 15) (v := .agg #[.int .i64 kd, .int .i64 fm, .int .i64 tw, .int .i64 d.ep, .int .i64 le, .int .i64 ta, .string x, .slice ua ss.length uc]) (l' := (bt 11 47)) rfl (fun _ hc => run_ldT 71 _ [.int .i64 kd, .int .i64 fm, .int .i64 tw, .int .i64 d.ep, .int .i64 le, .int .i64 ta, .string x, .slice ua ss.length uc] (.tmp 3) (by kernel_rfl) (by kernel_rfl) hc Tryz.underlying71 rfl Tryz.sizeMgB) hS0 ?_
  have hz0 := s0.H.sz
  have hbA : Below x0.heap.size x0 (x0.alloc (.cells #[.int .i64 kd, .int .i64 fm, .int .i64 tw, .int .i64 d.ep, .int .i64 le, .int .i64 ta, .string x, .slice ua ss.length uc] 71)) := (Below.refl _ _).alloc (Nat.le_refl _) _
  have own1 : Own Qm (x0.alloc (.cells #[.int .i64 kd, .int .i64 fm, .int .i64 tw, .int .i64 d.ep, .int .i64 le, .int .i64 ta, .string x, .slice ua ss.length uc] 71)) 8 (.slice (some ⟨x0.heap.size, 0, none⟩) 1 1) 1 [.int .i64 kd, .int .i64 fm, .int .i64 tw, .int .i64 d.ep, .int .i64 le, .int .i64 ta, .string x, .slice ua ss.length uc] :=
    .inr ⟨_, 0, 1, rfl, OwnC.made x0 Qm 71 8 1 1 _ 8 (by omega) (Nat.le_refl _) (by unfold maxLen; omega) rfl (Nat.le_refl _) _ rfl _ (.inl rfl)⟩
  have src1 : Src Tryz.prog 8 41 _ 1 _ (x0.alloc (.cells #[.int .i64 kd, .int .i64 fm, .int .i64 tw, .int .i64 d.ep, .int .i64 le, .int .i64 ta, .string x, .slice ua ss.length uc] 71)) := own1.src Tryz.underlying41 (one8 _ _ _ _ _ _ _ _ _ _)
  obtain ⟨v9, w9, hrun, ho9, hg9, hbk9⟩ := run_append_c (P := Tryz.prog) (x0.alloc (.cells #[.int .i64 kd, .int .i64 fm, .int .i64 tw, .int .i64 d.ep, .int .i64 le, .int .i64 ta, .string x, .slice ua ss.length uc] 71)) Qm 41 41 41 71 iM (.agg #[.int .i64 0, .int .i64 0, .int .i64 0, .int .i64 0, .int .i64 0, .int .i64 0, .string ⟨#[]⟩, .slice none 0 0]) 8 88 Tryz.underlying41 hiM hM0 hM1 hM2 rfl _ st.M.length _ (s0.H.ms.row.below hbA (Nat.le_refl _)) _ 1 _ src1 (by unfold maxLen; omega) (by omega) (by simp; omega)
  obtain ⟨a9, c9, rfl⟩ := ho9.slc
  have sF := s0.snoc (t := ⟨kd, fm, tw, d.ep, le, ta, x, ss⟩) hu0 hud hdu ho9 hg9 hbk9
  have hne : some Qd ≠ (Value.slice va st.M.length vc).ownBlock := fun e => by have := s0.H.ms.row.row_lo Qd e.symm; omega
  have hnx : some Qx ≠ (Value.slice va st.M.length vc).ownBlock := fun e => by
    rcases dv with h | h
    · rw [h] at e; cases e
    · exact h e.symm
  have zA : (x0.alloc (.cells #[.int .i64 kd, .int .i64 fm, .int .i64 tw, .int .i64 d.ep, .int .i64 le, .int .i64 ta, .string x, .slice ua ss.length uc] 71)).heap.size = x0.heap.size + 1 := by simp
  have hD9 := (s0.D.block (hbA.block _ (by omega))).block (hg9.block _ (by omega) hne)
  have hSA := hS0.block (hbA.block _ l0)
  have hS9 := hSA.block (hg9.block _ (by omega) hnx)
  have gs := gset (World.grownBy.refl w9 (some Qd)) 14 (.slice a9 (st.M.length + 1) c9)
  have hSF := hS9.block (gs.block _ (by have := hg9.size; omega) (fun e => by injection e with e; omega))
  have m14 : x0.cell? ⟨Qd, 14, none⟩ = some (.slice va st.M.length vc) := (s0.D 14 (by simp)).1
  have m14A := keepB hbA m14
  clear gs hne hnx hbk9 own1 src1
  obtain ⟨xA, hxA⟩ : ∃ V, V = x0.alloc (.cells #[.int .i64 kd, .int .i64 fm, .int .i64 tw, .int .i64 d.ep, .int .i64 le, .int .i64 ta, .string x, .slice ua ss.length uc] 71) := ⟨_, rfl⟩
  rw [← hxA] at hbA hrun hg9 hSA m14A zA
  have HXA := hid hxA
  clear hxA
  refine hTwo (i := 4) (j := 6) (by kernel_rfl) (hVal (i := 4) (d := some 14) (v := .slice va st.M.length vc) (w' := x0) (l' := (bt 11 63)) rfl (by kernel_rfl) (by kernel_rfl) (by kernel_rfl) (run_ldMsB (.tmp 13) (by kernel_rfl) (by kernel_rfl) m14) hS0 ?_) (hVal (i := 6) (d := some 16) (v := .slice (some ⟨x0.heap.size, 0, none⟩) 1 1) (w' := xA) (l' := (bt 11 111)) rfl (by kernel_rfl) (by kernel_rfl) (by kernel_rfl) (by rw [HXA.out]; exact run_bsM (.tmp 15) kd fm tw d.ep le ta x ua ss.length uc (by kernel_rfl) (by kernel_rfl)) hSA ?_)
  · refine hOne (i := 6) (by kernel_rfl) (hVal (i := 6) (d := some 16) (v := .slice (some ⟨x0.heap.size, 0, none⟩) 1 1) (w' := xA) (l' := (bt 11 127)) rfl (by kernel_rfl) (by kernel_rfl) (by kernel_rfl) (by rw [HXA.out]; exact run_bsM (.tmp 15) kd fm tw d.ep le ta x ua ss.length uc (by kernel_rfl) (by kernel_rfl)) hSA ?_)
    refine hOne (i := 7) (by kernel_rfl) (hVal (i := 7) (d := some 17) (v := .slice a9 (st.M.length + 1) c9) (w' := w9) (l' := (bt 11 255)) rfl (by kernel_rfl) (by kernel_rfl) (by kernel_rfl) (run_appB (.tmp 14) (.tmp 16) 41 41 41 (by kernel_rfl) (by kernel_rfl) (by kernel_rfl) (by kernel_rfl) hrun) hS9 ?_)
    refine hTk (i := 8) (d := some 18) (v := .pointer (some ⟨Qd, 0, none⟩)) (l' := (bt 11 511)) rfl (fun _ hc => run_nc (.tmp 10) (by kernel_rfl) (by kernel_rfl)) hS9 ?_
    refine hTk (i := 9) (d := some 19) (v := .pointer (some ⟨Qd, 14, none⟩)) (l' := (bt 11 1023)) rfl (fun _ hc => run_faD3 (.tmp 18) (by kernel_rfl) (by kernel_rfl)) hS9 ?_
    refine hOne (i := 10) (by kernel_rfl) (hSkip (i := 10) (w' := w9.setCell ⟨Qd, 14, none⟩ (.slice a9 (st.M.length + 1) c9)) (l' := (bt 11 2047)) rfl (by kernel_rfl) (by kernel_rfl) (by kernel_rfl) (run_stMsB (.tmp 19) (.tmp 17) a9 (st.M.length + 1) c9 (by kernel_rfl) (by kernel_rfl) (by kernel_rfl) (hD9 14 (by simp)).1 (hD9 14 (by simp)).2) hSF ?_)
    refine wpAnyH_done (by kernel_rfl) ?_ _
    have HF := hid sF
    clear sF hS9 hSA hS0 hD9 hrun ho9 hg9 hSF s0
    go_simp
    go_wp2_with fail
    go_end0
    exact ⟨rfl, _, HF.out⟩
  · refine hOne (i := 4) (by kernel_rfl) (hVal (i := 4) (d := some 14) (v := .slice va st.M.length vc) (w' := xA) (l' := (bt 11 127)) rfl (by kernel_rfl) (by kernel_rfl) (by kernel_rfl) (run_ldMsB (.tmp 13) (by kernel_rfl) (by kernel_rfl) m14A) hSA ?_)
    refine hOne (i := 7) (by kernel_rfl) (hVal (i := 7) (d := some 17) (v := .slice a9 (st.M.length + 1) c9) (w' := w9) (l' := (bt 11 255)) rfl (by kernel_rfl) (by kernel_rfl) (by kernel_rfl) (run_appB (.tmp 14) (.tmp 16) 41 41 41 (by kernel_rfl) (by kernel_rfl) (by kernel_rfl) (by kernel_rfl) hrun) hS9 ?_)
    refine hTk (i := 8) (d := some 18) (v := .pointer (some ⟨Qd, 0, none⟩)) (l' := (bt 11 511)) rfl (fun _ hc => run_nc (.tmp 10) (by kernel_rfl) (by kernel_rfl)) hS9 ?_
    refine hTk (i := 9) (d := some 19) (v := .pointer (some ⟨Qd, 14, none⟩)) (l' := (bt 11 1023)) rfl (fun _ hc => run_faD3 (.tmp 18) (by kernel_rfl) (by kernel_rfl)) hS9 ?_
    refine hOne (i := 10) (by kernel_rfl) (hSkip (i := 10) (w' := w9.setCell ⟨Qd, 14, none⟩ (.slice a9 (st.M.length + 1) c9)) (l' := (bt 11 2047)) rfl (by kernel_rfl) (by kernel_rfl) (by kernel_rfl) (run_stMsB (.tmp 19) (.tmp 17) a9 (st.M.length + 1) c9 (by kernel_rfl) (by kernel_rfl) (by kernel_rfl) (hD9 14 (by simp)).1 (hD9 14 (by simp)).2) hSF ?_)
    refine wpAnyH_done (by kernel_rfl) ?_ _
    have HF := hid sF
    clear sF hS9 hSA hS0 hD9 hrun ho9 hg9 hSF s0
    go_simp
    go_wp2_with fail
    go_end0
    exact ⟨rfl, _, HF.out⟩
end Go.Proofs.YtaeomkpofcbmiaaGreat

namespace Go.Proofs.YtaeomkpofcbmiaaGreat
open Go.RowKit

theorem Tryz.sizeJbB : (Tryz.prog.info? 66).map (·.size) = some 3 := by kernel_rfl
theorem run_stJ {ρ : Operand → Value} {o : Oper} {w : World} {p q : Nat} (l k u : Int) (x y : Operand) (h : o.op = .store 66 x y) (hx : ρ x = .pointer (some ⟨p, q, none⟩)) (hy : ρ y = .agg #[.int .i64 l, .int .i64 k, .int .i64 u]) (ht : w.there p q 3) :
    (execOp ρ o).run Tryz.prog w = .ok .skip (w.setCells p q [.int .i64 l, .int .i64 k, .int .i64 u]) := by
  have hi' : (Tryz.prog.info? 66).map (·.size) = some (#[Value.int .i64 l, .int .i64 k, .int .i64 u] : Array Value).size := Tryz.sizeJbB
  have h1 : (#[Value.int .i64 l, .int .i64 k, .int .i64 u] : Array Value).all (·.oneCell') = true := by kernel_rfl
  unfold execOp
  rw [h]
  simp only [hx, hy, Instr.storeAt, Instr.sureAddr, Sem.run_bind, Sem.run_pure, Result.andThen_ok, run_storeVar_mid w p q 66 #[.int .i64 l, .int .i64 k, .int .i64 u] ht hi' h1]
theorem run_muB {ρ : Operand → Value} {o : Oper} {w w' : World} {m a b : Value} (x y z : Operand) (t : TypeId) (ho : o.op = .mapUpdate t x y z) (hx : ρ x = m) (hy : ρ y = a) (hz : ρ z = b) (hr : (Instr.mapUpdate t m a b).run Tryz.prog w = .ok () w') : (execOp ρ o).run Tryz.prog w = .ok .skip w' := by
  unfold execOp
  simp [ho, hx, hy, hz, hr, Result.andThen]
theorem Grew.ofBelow {rows : List (Option Nat)} {w w' : World} (hb : Below w.heap.size w w') : Grew rows w w' := ⟨hb.size, fun q hq _ => hb.block q hq, hb.os, hb.tape, hb.output⟩
set_option maxHeartbeats 4000000 in
set_option maxRecDepth 100000 in
theorem startJob_any (w0 wK : World) (B Qm Qd Qp : Nat) (d : BD) (h : BH) (ts : List TaskD) (pa : Option Addr) (pc : Nat) (now sn : Int) (nb : Nat) (st : HSt) (v : Value) (vs : List Value) (i : Nat) (l k u : Int) (w : World) (s : DkS w0 wK B Qm Qd Qp d h ts pa pc now sn nb st v vs w) (hi : i < d.J.length) (hn : d.J.length ≤ 1048576) (hI : I64 l) (hnb : nb < maxLen) :
    Calls Tryz.prog 115 #[.pointer (some ⟨Qd, 0, none⟩), .int .i64 (i : Nat), .agg #[.int .i64 l, .int .i64 k, .int .i64 u]] w fun e w' => e = .returned (.tuple #[]) ∧ DkS w0 wK B Qm Qd Qp d h ts pa pc now sn (nb + 1) ⟨st.gv, st.J.set i (l, k, u), st.S, st.M⟩ v vs w' ∧ Grew [rowJ d h, some Qp] w w' := by
  have hiJ : i < st.J.length := by have := s.H.lj.1; omega
  have hz := s.H.sz
  have hq := s.q
  obtain ⟨W, hW⟩ : ∃ V, V = w.alloc (.cells #[.int .i64 l, .int .i64 k, .int .i64 u] 66) := ⟨_, rfl⟩
  obtain ⟨Qx, hQx⟩ : ∃ q, q = w.heap.size := ⟨_, rfl⟩
  have hbW : Below w.heap.size w W := by rw [hW]; exact (Below.refl _ _).alloc (Nat.le_refl _) _
  have cW : CF W Qx [.int .i64 l, .int .i64 k, .int .i64 u] := by rw [hW, hQx]; exact CF.made w #[.int .i64 l, .int .i64 k, .int .i64 u] 66
  have sW := s.below hbW
  have G0 : Grew [rowJ d h, some Qp] w W := Grew.ofBelow hbW
  have hQm : Qm ≤ Qx := by omega
  have lW : Qx < W.heap.size := by rw [hW, hQx]; simp
  have HW := hid hW
  have HQ := hid hQx
  clear hW hQx hbW s
  go_enter Tryz.func115, Tryz.ntmps115
  go_upto_region 1 with fail
  rw [← HW.out, ← HQ.out]
  clear HW HQ
  have hbd : Below W.heap.size W W.drew := (Below.refl _ _).drew
  have s0 := sW.below hbd
  have G1 := G0.step (Grew.ofBelow (rows := []) hbd) (by simp)
  have c0 : CF W.drew Qx [.int .i64 l, .int .i64 k, .int .i64 u] := cW
  have l0 : Qx < W.drew.heap.size := Nat.lt_of_lt_of_le lW hbd.size
  obtain ⟨bj, oj, cj, hje, hth, hset⟩ := s0.H.bo.o3.set3 (i := i) hiJ
  have hje1 : h.aj = some ⟨bj, oj, none⟩ := by injection hje with e1 e2 e3
  have hrj : rowJ d h = some bj := by unfold rowJ; rw [hje1]; rfl
  have hbj := s0.H.lo _ (rowJ_mem d h) bj hrj
  have hnr := s0.nr _ (rowJ_mem d h)
  rw [hrj] at hnr
  refine wp_region_held (S := fun w' => w'.cell? ⟨Qd, 9, none⟩ = some (.slice (some ⟨bj, oj, none⟩) d.J.length h.cj) ∧ CF w' Qx [.int .i64 l, .int .i64 k, .int .i64 u]) (by kernel_rfl) ?_
  change wpAnyH _ _ _ _ _ _ _ _ (World.drew _)
  have hS0 : W.drew.cell? ⟨Qd, 9, none⟩ = some (.slice (some ⟨bj, oj, none⟩) d.J.length h.cj) ∧ CF W.drew Qx [.int .i64 l, .int .i64 k, .int .i64 u] := ⟨by rw [← hje1]; exact (s0.D 9 (by simp)).1, c0⟩
  obtain ⟨x0, hx0⟩ : ∃ U, U = W.drew := ⟨_, rfl⟩
  rw [← hx0] at s0 hS0 c0 l0 hth G1
  have hset1 := hset ((l, k, u) : Tr)
  rw [← hx0] at hset1
  rw [← hx0]
  clear hx0 sW cW hbd lW hset
  refine hTk (i := 0) (d := some 6) (v := .pointer (some ⟨Qd, 0, none⟩)) (l' := (bt 9 1)) rfl (fun _ hc => run_mvF (.tmp 0) (by kernel_rfl) (by kernel_rfl)) hS0 ?_
  refine hTk (i := 1) (d := some 7) (v := .pointer (some ⟨Qd, 0, none⟩)) (l' := (bt 9 3)) rfl (fun _ hc => run_nc (.tmp 6) (by kernel_rfl) (by kernel_rfl)) hS0 ?_
  refine hTk (i := 2) (d := some 8) (v := .pointer (some ⟨Qd, 0, none⟩)) (l' := (bt 9 7)) rfl (fun _ hc => run_faD0 (.tmp 7) (by kernel_rfl) (by kernel_rfl)) hS0 ?_
  refine hTk (i := 3) (d := some 9) (v := .pointer (some ⟨Qd, 9, none⟩)) (l' := (bt 9 15)) rfl (fun _ hc => run_faB8 (.tmp 8) (by kernel_rfl) (by kernel_rfl)) hS0 ?_
  refine hTk (i := 4) (d := some 10) (v := (.slice (some ⟨bj, oj, none⟩) d.J.length h.cj)) (l' := (bt 9 31)) rfl (fun _ hc => run_ldJsB (.tmp 9) (by kernel_rfl) (by kernel_rfl) hc.1) hS0 ?_
  refine hTk (i := 5) (d := some 11) (v := .int .i64 (i : Nat)) (l' := (bt 9 63)) rfl (fun _ hc => run_mvF (.tmp 1) (by kernel_rfl) (by kernel_rfl)) hS0 ?_
  refine hTk (i := 6) (d := some 12) (v := .agg #[.int .i64 l, .int .i64 k, .int .i64 u]) (l' := (bt 9 127)) rfl (fun _ hc => run_ldT 66 _ [.int .i64 l, .int .i64 k, .int .i64 u] (.tmp 5) (by kernel_rfl) (by kernel_rfl) hc.2 Tryz.underlying66 rfl Tryz.sizeJbB) hS0 ?_
  refine hTk (i := 7) (d := some 13) (v := .pointer (some ⟨bj, oj + i * 3, none⟩)) (l' := (bt 9 255)) rfl (fun _ hc => run_ixJ (.tmp 10) (.tmp 11) bj oj d.J.length h.cj i (by kernel_rfl) (by kernel_rfl) (by kernel_rfl) hi) hS0 ?_
  obtain ⟨x1, hx1⟩ : ∃ V, V = x0.setCells bj (oj + i * 3) [.int .i64 l, .int .i64 k, .int .i64 u] := ⟨_, rfl⟩
  have g1 : x0.grownBy x1 (some bj) := by rw [hx1]; exact grown_setCells _ _ _ _ _ (World.grownBy.refl _ _)
  have G2 := G1.step (Grew.of g1) (by rw [hrj]; simp)
  have e : (d.at st).J.length = d.J.length := s0.H.lj.1
  rw [e] at hset1
  have s1 := s0.setJ (J := st.J.set i (l, k, u)) (by rw [List.length_set]; exact s0.H.lj.1) hrj g1 (by rw [hx1]; exact hset1)
  have hS1 : x1.cell? ⟨Qd, 9, none⟩ = some (.slice (some ⟨bj, oj, none⟩) d.J.length h.cj) ∧ CF x1 Qx [.int .i64 l, .int .i64 k, .int .i64 u] := ⟨by rw [← hje1]; exact (s1.D 9 (by simp)).1, c0.block (g1.block _ l0 (fun e => by injection e with e; omega))⟩
  refine hOne (i := 8) (by kernel_rfl) (hSkip (i := 8) (w' := x1) (l' := (bt 9 511)) rfl (by kernel_rfl) (by kernel_rfl) (by kernel_rfl) (by rw [hx1]; exact run_stJ l k u (.tmp 13) (.tmp 12) (by kernel_rfl) (by kernel_rfl) (by kernel_rfl) hth) hS1 ?_)
  refine wpAnyH_done (by kernel_rfl) ?_ _
  have l1 : Qx < x1.heap.size := Nat.lt_of_lt_of_le l0 g1.size
  have c1 := hS1.2
  clear hS0 hS1 s0 c0 l0 hset1 hth hx1 g1 hje hje1 hrj hnr e
  go_simp
  go_upto_region 2 with fail
  have hbd : Below x1.heap.size x1 x1.drew := (Below.refl _ _).drew
  have s2 := s1.below hbd
  have G3 := G2.step (Grew.ofBelow (rows := []) hbd) (by simp)
  have c2 : CF x1.drew Qx [.int .i64 l, .int .i64 k, .int .i64 u] := c1
  have l2 : Qx < x1.drew.heap.size := Nat.lt_of_lt_of_le l1 hbd.size
  refine wp_region_held (S := fun w' => w'.cell? ⟨Qd, 13, none⟩ = some (.map (some Qp)) ∧ CF w' Qx [.int .i64 l, .int .i64 k, .int .i64 u]) (by kernel_rfl) ?_
  change wpAnyH _ _ _ _ _ _ _ _ (World.drew _)
  have hT0 : x1.drew.cell? ⟨Qd, 13, none⟩ = some (.map (some Qp)) ∧ CF x1.drew Qx [.int .i64 l, .int .i64 k, .int .i64 u] := ⟨(s2.D 13 (by simp)).1, c2⟩
  obtain ⟨x2, hx2⟩ : ∃ U, U = x1.drew := ⟨_, rfl⟩
  rw [← hx2] at s2 hT0 c2 l2 G3
  rw [← hx2]
  clear hx2 s1 c1 hbd l1
  refine hTk (i := 0) (d := some 14) (v := .pointer (some ⟨Qd, 0, none⟩)) (l' := (bt 8 1)) rfl (fun _ hc => run_mvF (.tmp 0) (by kernel_rfl) (by kernel_rfl)) hT0 ?_
  refine hTk (i := 1) (d := some 15) (v := .pointer (some ⟨Qd, 0, none⟩)) (l' := (bt 8 3)) rfl (fun _ hc => run_nc (.tmp 14) (by kernel_rfl) (by kernel_rfl)) hT0 ?_
  refine hTk (i := 2) (d := some 16) (v := .pointer (some ⟨Qd, 13, none⟩)) (l' := (bt 8 7)) rfl (fun _ hc => run_faD2 (.tmp 15) (by kernel_rfl) (by kernel_rfl)) hT0 ?_
  refine hTk (i := 3) (d := some 17) (v := .map (some Qp)) (l' := (bt 8 15)) rfl (fun _ hc => run_ldMp (.tmp 16) (by kernel_rfl) (by kernel_rfl) hc.1) hT0 ?_
  refine hTk (i := 4) (d := some 18) (v := .pointer (some ⟨Qx, 0, none⟩)) (l' := (bt 8 31)) rfl (fun _ hc => run_faJ0 (.tmp 5) (by kernel_rfl) (by kernel_rfl)) hT0 ?_
  refine hTk (i := 5) (d := some 19) (v := .int .i64 l) (l' := (bt 8 63)) rfl (fun _ hc => run_ldInB (.tmp 18) (by kernel_rfl) (by kernel_rfl) (hc.2 0 (by simp)).1) hT0 ?_
  refine hTk (i := 6) (d := some 20) (v := .int .i64 (i : Nat)) (l' := (bt 8 127)) rfl (fun _ hc => run_mvF (.tmp 1) (by kernel_rfl) (by kernel_rfl)) hT0 ?_
  obtain ⟨n, X, hnn, hX⟩ := s2.mp
  have hwf : (Lit.int .i64 l).wf = true := WalkArith.wf_i64 hI
  have hkey := Maps.keyOf_int_mk (P := Tryz.prog) Tryz.underlying3 hwf
  obtain ⟨x3, hrun, hown, g3⟩ := hX.update mapLawI Tryz.underlying119 (by omega) hkey (plainElem_int (a := ((i : Nat) : Int)) Tryz.underlying3 (WalkArith.wf_i64 (by constructor <;> omega)))
  have s3 : DkS w0 wK B Qm Qd Qp d h ts pa pc now sn (nb + 1) ⟨st.gv, st.J.set i (l, k, u), st.S, st.M⟩ v vs x3 := DkS.map ⟨s2.H, s2.D, ⟨n, X, by omega, hX⟩, s2.q, s2.nr, s2.vm, s2.fx⟩ g3 ⟨n + 1, _, by omega, hown⟩
  have hT3 : x3.cell? ⟨Qd, 13, none⟩ = some (.map (some Qp)) ∧ CF x3 Qx [.int .i64 l, .int .i64 k, .int .i64 u] := ⟨(s3.D 13 (by simp)).1, c2.block (g3.block _ l2 (fun e => by injection e with e; omega))⟩
  refine hOne (i := 7) (by kernel_rfl) (hSkip (i := 7) (w' := x3) (l' := (bt 8 255)) rfl (by kernel_rfl) (by kernel_rfl) (by kernel_rfl) (run_muB (.tmp 17) (.tmp 19) (.tmp 20) 119 (by kernel_rfl) (by kernel_rfl) (by kernel_rfl) (by kernel_rfl) hrun) hT3 ?_)
  refine wpAnyH_done (by kernel_rfl) ?_ _
  have HF := hid (And.intro s3 (G3.step (Grew.of g3) (by simp)))
  clear G0 G1 G2 G3
  clear s3 hT3 hT0 s2 c2 l2 hX hrun hown g3 hkey hwf
  go_simp
  go_wp2_with fail
  go_end0
  exact ⟨rfl, HF.out⟩
end Go.Proofs.YtaeomkpofcbmiaaGreat

namespace Go.Proofs.YtaeomkpofcbmiaaGreat
open Go.RowKit

/-- The number of leases is written. -/
theorem DkS.setGv {w0 wK wr : World} {B Qm Qd Qp : Nat} {d : BD} {h : BH} {ts : List TaskD} {pa : Option Addr} {pc : Nat} {now sn : Int} {nb : Nat} {st : HSt} {v : Value} {vs : List Value} (s : DkS w0 wK B Qm Qd Qp d h ts pa pc now sn nb st v vs wr) (g : Int) : DkS w0 wK B Qm Qd Qp d h ts pa pc now sn nb ⟨g, st.J, st.S, st.M⟩ v vs (wr.setCell ⟨Qd, 5, none⟩ (.int .i64 g)) := by
  have hq := s.q
  have gs := gset (World.grownBy.refl wr (some Qd)) 5 (.int .i64 g)
  obtain ⟨n, X, hn, hX⟩ := s.mp
  have hH := s.H.farLo gs hq.2.1 hq.2.2.2.1 (fun r hr => (s.nr r hr).2)
  exact ⟨⟨⟨hH.bo.o0, hH.bo.o1, hH.bo.o2, hH.bo.o3, hH.bo.o4, hH.bo.o5, hH.bo.dis⟩, hH.ms, hH.hb, hH.lj, hH.lo, hH.sz, hH.bs⟩, s.D.set (j := 5) (by simp) _, ⟨n, X, hn, hX.kept gs (fun e => by injection e with e; omega)⟩, s.q, s.nr, s.vm, fun q g1 g2 g3 g4 => (gs.block q (by have := s.H.sz; omega) (fun e => by injection e with e; exact g2 e)).trans (s.fx q g1 g2 g3 g4)⟩
theorem DkS.setNow {w0 wK wr : World} {B Qm Qd Qp : Nat} {d : BD} {h : BH} {ts : List TaskD} {pa : Option Addr} {pc : Nat} {now sn : Int} {nb : Nat} {st : HSt} {v : Value} {vs : List Value} (s : DkS w0 wK B Qm Qd Qp d h ts pa pc now sn nb st v vs wr) (g : Int) : DkS w0 wK B Qm Qd Qp d h ts pa pc g sn nb st v vs (wr.setCell ⟨Qd, 2, none⟩ (.int .i64 g)) := by
  have hq := s.q
  have gs := gset (World.grownBy.refl wr (some Qd)) 2 (.int .i64 g)
  obtain ⟨n, X, hn, hX⟩ := s.mp
  exact ⟨s.H.farLo gs hq.2.1 hq.2.2.2.1 (fun r hr => (s.nr r hr).2), s.D.set (j := 2) (by simp) _, ⟨n, X, hn, hX.kept gs (fun e => by injection e with e; omega)⟩, s.q, s.nr, s.vm, fun q g1 g2 g3 g4 => (gs.block q (by have := s.H.sz; omega) (fun e => by injection e with e; exact g2 e)).trans (s.fx q g1 g2 g3 g4)⟩
theorem DkS.setSn {w0 wK wr : World} {B Qm Qd Qp : Nat} {d : BD} {h : BH} {ts : List TaskD} {pa : Option Addr} {pc : Nat} {now sn : Int} {nb : Nat} {st : HSt} {v : Value} {vs : List Value} (s : DkS w0 wK B Qm Qd Qp d h ts pa pc now sn nb st v vs wr) (g : Int) : DkS w0 wK B Qm Qd Qp d h ts pa pc now g nb st v vs (wr.setCell ⟨Qd, 3, none⟩ (.int .i64 g)) := by
  have hq := s.q
  have gs := gset (World.grownBy.refl wr (some Qd)) 3 (.int .i64 g)
  obtain ⟨n, X, hn, hX⟩ := s.mp
  exact ⟨s.H.farLo gs hq.2.1 hq.2.2.2.1 (fun r hr => (s.nr r hr).2), s.D.set (j := 3) (by simp) _, ⟨n, X, hn, hX.kept gs (fun e => by injection e with e; omega)⟩, s.q, s.nr, s.vm, fun q g1 g2 g3 g4 => (gs.block q (by have := s.H.sz; omega) (fun e => by injection e with e; exact g2 e)).trans (s.fx q g1 g2 g3 g4)⟩
/-- A seat is written. -/
theorem DkS.setS {w0 wK wr w' : World} {B Qm Qd Qp : Nat} {d : BD} {h : BH} {ts : List TaskD} {pa : Option Addr} {pc : Nat} {now sn : Int} {nb : Nat} {st : HSt} {v : Value} {vs : List Value} {S : List (Bool × Int)} {bz : Nat} (s : DkS w0 wK B Qm Qd Qp d h ts pa pc now sn nb st v vs wr) (hl : S.length = d.S.length) (hr : rowS d h = some bz) (hg : wr.grownBy w' (some bz)) (hJ : Own B w' 2 (.slice h.az d.S.length h.cs) d.S.length (c2 S)) : DkS w0 wK B Qm Qd Qp d h ts pa pc now sn nb ⟨st.gv, st.J, S, st.M⟩ v vs w' := by
  have hq := s.q
  have hz := s.H.sz
  obtain ⟨n, X, hn, hX⟩ := s.mp
  have h1 := s.nr _ (rowS_mem d h)
  rw [hr] at h1
  exact ⟨s.H.setS hl (by rw [hr]; exact hg) hJ, s.D.block (hg.block _ (by omega) (fun e => h1.2 e.symm)), ⟨n, X, hn, hX.kept hg (fun e => h1.1 e.symm)⟩, s.q, s.nr, s.vm, fun q g1 g2 g3 g4 => (hg.block q (by omega) (fun e => g4 _ (rowS_mem d h) (by rw [hr]; exact e.symm))).trans (s.fx q g1 g2 g3 g4)⟩
/-- What is sent is taken out of the box. -/
theorem DkS.over {w0 wK wr : World} {B Qm Qd Qp : Nat} {d : BD} {h : BH} {ts : List TaskD} {pa : Option Addr} {pc : Nat} {now sn : Int} {nb : Nat} {st : HSt} {v : Value} {vs : List Value} (s : DkS w0 wK B Qm Qd Qp d h ts pa pc now sn nb st v vs wr) : HdI w0 B Qm d h st v vs (wr.setCell ⟨Qd, 14, none⟩ (.slice none 0 0)) := by
  have hq := s.q
  exact s.H.farLo (gset (World.grownBy.refl wr (some Qd)) 14 (.slice none 0 0)) hq.2.1 hq.2.2.2.1 (fun r hr => (s.nr r hr).2)
set_option maxRecDepth 100000 in
theorem handOver_any (w0 wK : World) (B Qm Qd Qp : Nat) (d : BD) (h : BH) (ts : List TaskD) (pa : Option Addr) (pc : Nat) (now sn : Int) (nb : Nat) (st : HSt) (v : Value) (vs : List Value) (w : World) (s : DkS w0 wK B Qm Qd Qp d h ts pa pc now sn nb st v vs w) :
    Calls Tryz.prog 78 #[.pointer (some ⟨Qd, 0, none⟩)] w fun e w' => e = .returned v ∧ w' = w.setCell ⟨Qd, 14, none⟩ (.slice none 0 0) := by
  obtain ⟨va, vc, rfl⟩ := s.vm
  have y14 : w.cell? ⟨Qd, 14, none⟩ = some (.slice va st.M.length vc) := (s.D 14 (by simp)).1
  have f14 : w.frozen? ⟨Qd, 14, none⟩ = false := (s.D 14 (by simp)).2
  go_enter Tryz.func78, Tryz.ntmps78
  go_wp2
  go_ret
  exact ⟨rfl, rfl⟩
end Go.Proofs.YtaeomkpofcbmiaaGreat
