import Derived.Test.YtjjapohngbagpaaGreatQBcp
namespace Go.Proofs.YtjjapohngbagpaaGreat
open Go.RowKit

theorem run_sl {ρ : Operand → Value} {o : Oper} {w : World} (x y : Operand) (g off n c k : Nat) (hk : k ≤ c) (h : o.op = .slice 25 x none (some y) none) (hx : ρ x = .slice (some ⟨g, off, none⟩) n c) (hy : ρ y = .int .i64 (k : Nat)) : (execOp ρ o).run Tryz.prog w = .ok (.value (.slice (some ⟨g, off, none⟩) k c)) w := by
  unfold execOp
  rw [h]
  have hk' : (k : Int) ≤ (c : Int) := by omega
  simp [go_sem, hx, hy, hk']
theorem run_sl0 {ρ : Operand → Value} {o : Oper} {w : World} (x y : Operand) (h : o.op = .slice 25 x none (some y) none) (hx : ρ x = .slice none 0 0) (hy : ρ y = .int .i64 0) : (execOp ρ o).run Tryz.prog w = .ok (.value (.slice none 0 0)) w := by
  unfold execOp
  rw [h]
  simp [go_sem, hx, hy]
/-- A coordinator whose lists a call owns. -/
structure BossO (w : World) (B : Nat) (d : BD) (h : BH) : Prop where
  o0 : Own B w 1 (.slice h.a1 d.L1.length h.c1) d.L1.length (d.L1.map Value.string)
  o1 : Own B w 1 (.slice h.a2 d.L2.length h.c2) d.L2.length (d.L2.map Value.string)
  o2 : Own B w 1 (.slice h.ar d.R.length h.cr) d.R.length (d.R.map Value.string)
  o3 : Own B w 3 (.slice h.aj d.J.length h.cj) d.J.length (c3 d.J)
  o4 : Own B w 2 (.slice h.az d.S.length h.cs) d.S.length (c2 d.S)
  o5 : Own B w 3 (.slice h.ao d.O.length h.co) d.O.length (c3 d.O)
  dis : List.Pairwise Dj [(Value.slice h.a1 d.L1.length h.c1).ownBlock, (Value.slice h.a2 d.L2.length h.c2).ownBlock, (Value.slice h.ar d.R.length h.cr).ownBlock, (Value.slice h.aj d.J.length h.cj).ownBlock, (Value.slice h.az d.S.length h.cs).ownBlock, (Value.slice h.ao d.O.length h.co).ownBlock]
def RetBs (e : Ending) (B : Nat) (w' : World) (d : BD) : Prop := ∃ h, e = .returned (.agg (bvs d h).toArray) ∧ BossO w' B d h
def keptN (keep : Int) (n : Nat) : Nat := (min (max keep 0) n).toNat
theorem keptN_le (keep : Int) (n : Nat) : keptN keep n ≤ n := by unfold keptN; omega
def fallB (d : BD) (keep : Int) : BD := ⟨d.wk, false, d.now, 0, 0, 0, d.L1 ++ d.L2.take (keptN keep d.L2.length), [], [], [], [], []⟩
def zBD : BD := ⟨0, false, 0, 0, 0, 0, [], [], [], [], [], []⟩
def fallR2 (d : BD) (ts : List TaskD) (keep : Int) (d' : BD) : Prop := d.ok ts ∧ d' = fallB d keep ∨ ¬ d.ok ts ∧ d' = zBD
theorem Dj.none_l (y : Option Nat) : Dj none y := .inl rfl
theorem zBO (w : World) (B : Nat) : BossO w B zBD ⟨none, none, none, none, none, none, 0, 0, 0, 0, 0, 0⟩ := by
  refine ⟨Own.nil _ _ _, Own.nil _ _ _, Own.nil _ _ _, Own.nil _ _ _, Own.nil _ _ _, Own.nil _ _ _, ?_⟩
  simp [Value.ownBlock, Dj.none_l]
theorem oneBO (w : World) (B : Nat) (wk now : Int) (L : List ByteArray) (a : Option Addr) (c : Nat) (ho : Own B w 1 (.slice a L.length c) L.length (L.map Value.string)) : BossO w B ⟨wk, false, now, 0, 0, 0, L, [], [], [], [], []⟩ ⟨a, none, none, none, none, none, c, 0, 0, 0, 0, 0⟩ := by
  refine ⟨ho, Own.nil _ _ _, Own.nil _ _ _, Own.nil _ _ _, Own.nil _ _ _, Own.nil _ _ _, ?_⟩
  simp only [List.pairwise_cons, List.mem_cons, List.not_mem_nil, or_false, forall_eq_or_imp, forall_eq, List.Pairwise.nil, and_true, false_implies, implies_true]
  have h0 : ∀ x, Dj x (Value.slice none 0 0).ownBlock := fun x => by
    cases x with
    | none => exact .inl rfl
    | some q => exact .inr (by simp [Value.ownBlock])
  exact ⟨⟨h0 _, h0 _, h0 _, h0 _, h0 _⟩, ⟨h0 _, h0 _, h0 _, h0 _⟩, ⟨h0 _, h0 _, h0 _⟩, ⟨h0 _, h0 _⟩, h0 _⟩
theorem StrsAt.takeP {w : World} {a : Option Addr} {b o n : Nat} {ss : List ByteArray} (h : StrsAt w a b o n ss) (k : Nat) (hk : k ≤ n) : StrsAt w a b o k (ss.take k) :=
  ⟨fun h0 => h.ad (by omega), by rw [List.length_take, h.len]; omega, Nat.le_trans hk h.max, fun h0 => h.lt (by omega), fun j hj => by rw [h.cell j (by omega)]; simp [List.getD, hj], fun s hs => h.sz s (List.mem_of_mem_take hs)⟩

theorem Own.drewB {B : Nat} {w : World} {size : Nat} {v : Value} {n : Nat} {xs : List Value} (h : Own B w size v n xs) : Own B w.drew size v n xs := by
  rcases h with h | ⟨g, o, cap, hv, hc⟩
  · exact .inl h
  · exact .inr ⟨g, o, cap, hv, hc.block rfl⟩
theorem run_ldI {ρ : Operand → Value} {o : Oper} {w : World} {p : Addr} {v : Value} (x : Operand) (h : o.op = .load 3 x) (hx : ρ x = .pointer (some p)) (hc : w.cell? p = some v) : (execOp ρ o).run Tryz.prog w = .ok (.value v) w := by
  unfold execOp
  rw [h]
  simp [go_sem, hx, hc]
theorem run_b42 {ρ : Operand → Value} {o : Oper} {w : World} {a : Option Addr} {n c : Nat} (x : Operand) (h : o.op = .build 42 #[(0, x)]) (hx : ρ x = .slice a n c) : (execOp ρ o).run Tryz.prog w = .ok (.value (.agg #[.slice a n c, .slice none 0 0])) w := by
  unfold execOp
  rw [h]
  simp [go_sem, hx]
theorem run_b47 {ρ : Operand → Value} {o : Oper} {w : World} {a : Option Addr} {n c : Nat} {k m : Int} (x y z : Operand) (h : o.op = .build 47 #[(0, x), (2, y), (6, z)]) (hx : ρ x = .int .i64 k) (hy : ρ y = .int .i64 m) (hz : ρ z = .agg #[.slice a n c, .slice none 0 0]) : (execOp ρ o).run Tryz.prog w = .ok (.value (.agg #[.int .i64 k, .bool false, .int .i64 m, .int .i64 0, .int .i64 0, .int .i64 0, .slice a n c, .slice none 0 0, .slice none 0 0, .slice none 0 0, .slice none 0 0, .slice none 0 0])) w := by
  unfold execOp
  rw [h]
  simp [go_sem, hx, hy, hz]

set_option maxHeartbeats 4000000 in
set_option maxRecDepth 100000 in
theorem iFallB_any (d : BD) (h : BH) (pa : Option Addr) (pb po pn pc : Nat) (ts : List TaskD) (keep : Int) (w : World) (hM : BossM w d h) (hT : TasksAt w pa pb po pn ts) (hs : d.small) :
    Calls Tryz.prog 29 #[.agg #[.int .i64 d.wk, .bool d.up, .int .i64 d.now, .int .i64 d.sn, .int .i64 d.ep, .int .i64 d.gv, .slice h.a1 d.L1.length h.c1, .slice h.a2 d.L2.length h.c2, .slice h.ar d.R.length h.cr, .slice h.aj d.J.length h.cj, .slice h.az d.S.length h.cs, .slice h.ao d.O.length h.co], .agg #[.slice pa pn pc], .int .i64 keep] w fun e w' => (∃ d', RetBs e w.heap.size w' d' ∧ fallR2 d ts keep d') ∧ Below w.heap.size w w' := by
  obtain ⟨i0, hi0, hz00, hz01, hz02⟩ := info_parts Tryz.infoSt
  obtain ⟨W, hW⟩ : ∃ W, W = ((w.alloc (.cells #[.int .i64 d.wk, .bool d.up, .int .i64 d.now, .int .i64 d.sn, .int .i64 d.ep, .int .i64 d.gv, .slice h.a1 d.L1.length h.c1, .slice h.a2 d.L2.length h.c2, .slice h.ar d.R.length h.cr, .slice h.aj d.J.length h.cj, .slice h.az d.S.length h.cs, .slice h.ao d.O.length h.co] 47)).alloc (.cells #[.slice pa pn pc] 41)).alloc (.cells #[.int .i64 0, .bool false, .int .i64 0, .int .i64 0, .int .i64 0, .int .i64 0, .slice none 0 0, .slice none 0 0, .slice none 0 0, .slice none 0 0, .slice none 0 0, .slice none 0 0] 47) := ⟨_, rfl⟩
  have B0 : Below w.heap.size w W := by rw [hW]; exact (((Below.refl _ _).alloc (Nat.le_refl _) _).alloc (by simp) _).alloc (by simp; omega) _
  have z0 : w.heap.size + 3 ≤ W.heap.size := by rw [hW]; simp
  have P0 : CF W w.heap.size [.int .i64 d.wk, .bool d.up, .int .i64 d.now, .int .i64 d.sn, .int .i64 d.ep, .int .i64 d.gv, .slice h.a1 d.L1.length h.c1, .slice h.a2 d.L2.length h.c2, .slice h.ar d.R.length h.cr, .slice h.aj d.J.length h.cj, .slice h.az d.S.length h.cs, .slice h.ao d.O.length h.co] := by
    rw [hW]; exact ((CF.made w #[.int .i64 d.wk, .bool d.up, .int .i64 d.now, .int .i64 d.sn, .int .i64 d.ep, .int .i64 d.gv, .slice h.a1 d.L1.length h.c1, .slice h.a2 d.L2.length h.c2, .slice h.ar d.R.length h.cr, .slice h.aj d.J.length h.cj, .slice h.az d.S.length h.cs, .slice h.ao d.O.length h.co] 47).block (Below.heap_alloc _ _ _ (by simp))).block (Below.heap_alloc _ _ _ (by simp; omega))
  have L0 : CF W (w.heap.size + 1) [.slice pa pn pc] := by
    rw [hW]
    have := (CF.made (w.alloc (.cells #[.int .i64 d.wk, .bool d.up, .int .i64 d.now, .int .i64 d.sn, .int .i64 d.ep, .int .i64 d.gv, .slice h.a1 d.L1.length h.c1, .slice h.a2 d.L2.length h.c2, .slice h.ar d.R.length h.cr, .slice h.aj d.J.length h.cj, .slice h.az d.S.length h.cs, .slice h.ao d.O.length h.co] 47)) #[.slice pa pn pc] 41).block (Below.heap_alloc ((w.alloc (.cells #[.int .i64 d.wk, .bool d.up, .int .i64 d.now, .int .i64 d.sn, .int .i64 d.ep, .int .i64 d.gv, .slice h.a1 d.L1.length h.c1, .slice h.a2 d.L2.length h.c2, .slice h.ar d.R.length h.cr, .slice h.aj d.J.length h.cj, .slice h.az d.S.length h.cs, .slice h.ao d.O.length h.co] 47)).alloc (.cells #[.slice pa pn pc] 41)) (.cells #[.int .i64 0, .bool false, .int .i64 0, .int .i64 0, .int .i64 0, .int .i64 0, .slice none 0 0, .slice none 0 0, .slice none 0 0, .slice none 0 0, .slice none 0 0, .slice none 0 0] 47) _ (by simp))
    simpa using this
  have R0 : CF W (w.heap.size + 2) zB := by
    rw [hW]
    have := CF.made ((w.alloc (.cells #[.int .i64 d.wk, .bool d.up, .int .i64 d.now, .int .i64 d.sn, .int .i64 d.ep, .int .i64 d.gv, .slice h.a1 d.L1.length h.c1, .slice h.a2 d.L2.length h.c2, .slice h.ar d.R.length h.cr, .slice h.aj d.J.length h.cj, .slice h.az d.S.length h.cs, .slice h.ao d.O.length h.co] 47)).alloc (.cells #[.slice pa pn pc] 41)) #[.int .i64 0, .bool false, .int .i64 0, .int .i64 0, .int .i64 0, .int .i64 0, .slice none 0 0, .slice none 0 0, .slice none 0 0, .slice none 0 0, .slice none 0 0, .slice none 0 0] 47
    simpa [zB] using this
  have hV0 : BossV w d [.int .i64 d.wk, .bool d.up, .int .i64 d.now, .int .i64 d.sn, .int .i64 d.ep, .int .i64 d.gv, .slice h.a1 d.L1.length h.c1, .slice h.a2 d.L2.length h.c2, .slice h.ar d.R.length h.cr, .slice h.aj d.J.length h.cj, .slice h.az d.S.length h.cs, .slice h.ao d.O.length h.co] := ⟨h, rfl, hM⟩
  have hV := hid (hV0.below' B0)
  have hs' := hid hs
  clear hV0 hs
  have HW := hid hW
  clear hW
  go_enter Tryz.func29, Tryz.ntmps29
  go_upto_region 1 with fail
  rw [← HW.out]
  clear HW
  have y0 : W.cell? ⟨w.heap.size, 0, none⟩ = some (.int .i64 d.wk) := (P0 0 (by simp)).1
  have y1 : W.cell? ⟨w.heap.size, 1, none⟩ = some (.bool d.up) := (P0 1 (by simp)).1
  have y2 : W.cell? ⟨w.heap.size, 2, none⟩ = some (.int .i64 d.now) := (P0 2 (by simp)).1
  have y3 : W.cell? ⟨w.heap.size, 3, none⟩ = some (.int .i64 d.sn) := (P0 3 (by simp)).1
  have y4 : W.cell? ⟨w.heap.size, 4, none⟩ = some (.int .i64 d.ep) := (P0 4 (by simp)).1
  have y5 : W.cell? ⟨w.heap.size, 5, none⟩ = some (.int .i64 d.gv) := (P0 5 (by simp)).1
  have y6 : W.cell? ⟨w.heap.size, 6, none⟩ = some (.slice h.a1 d.L1.length h.c1) := (P0 6 (by simp)).1
  have y7 : W.cell? ⟨w.heap.size, 7, none⟩ = some (.slice h.a2 d.L2.length h.c2) := (P0 7 (by simp)).1
  have y8 : W.cell? ⟨w.heap.size, 8, none⟩ = some (.slice h.ar d.R.length h.cr) := (P0 8 (by simp)).1
  have y9 : W.cell? ⟨w.heap.size, 9, none⟩ = some (.slice h.aj d.J.length h.cj) := (P0 9 (by simp)).1
  have y10 : W.cell? ⟨w.heap.size, 10, none⟩ = some (.slice h.az d.S.length h.cs) := (P0 10 (by simp)).1
  have y11 : W.cell? ⟨w.heap.size, 11, none⟩ = some (.slice h.ao d.O.length h.co) := (P0 11 (by simp)).1
  have kp : W.cell? ⟨w.heap.size + 1, 0, none⟩ = some (.slice pa pn pc) := (L0 0 (by simp)).1
  go_wp2_with fail
  refine (iValBV_any d _ _ _ _ _ _ _ _ _ _ _ _ pa pb po pn pc ts _ hV.out (hT.below' B0) hs'.out).mono ?_
  rintro e w1 ⟨⟨r, rfl, hr⟩, hb1⟩
  clear y0 y1 y2 y3 y4 y5 y6 y7 y8 y9 y10 y11 kp
  have P1 := P0.block (hb1.block w.heap.size (by omega))
  have R1 := R0.block (hb1.block (w.heap.size + 2) (by omega))
  have B1 := B0.trans (hb1.mono B0.size)
  have z1 : w.heap.size + 3 ≤ w1.heap.size := by have := hb1.size; omega
  have HR := hid hr
  clear hr hb1 P0 R0 B0 z0 L0
  cases r with
  | false =>
    have HN : Hid (¬ d.ok ts) := fun hh => by have := HR.out.2 hh; cases this
    go_upto_region 2 with fail
    go_wp2_with (refine wpList_store_cf rfl 47 (.tmp 6) (.tmp 12) rfl (w.heap.size + 2) zB [.int .i64 0, .bool false, .int .i64 0, .int .i64 0, .int .i64 0, .int .i64 0, .slice none 0 0, .slice none 0 0, .slice none 0 0, .slice none 0 0, .slice none 0 0, .slice none 0 0] rfl rfl R1 rfl Tryz.sizeBo (one12b _ _ _ _ _ _ _ _ _ _ _ _ _ _ _ _ _ _ _ _ _ _ _ _) ?_; intro w10 hc10 hg10)
    have k0 : w10.cell? ⟨w.heap.size + 2, 0, none⟩ = some (.int .i64 0) := (hc10 0 (by simp)).1
    have k1 : w10.cell? ⟨w.heap.size + 2, 1, none⟩ = some (.bool false) := (hc10 1 (by simp)).1
    have k2 : w10.cell? ⟨w.heap.size + 2, 2, none⟩ = some (.int .i64 0) := (hc10 2 (by simp)).1
    have k3 : w10.cell? ⟨w.heap.size + 2, 3, none⟩ = some (.int .i64 0) := (hc10 3 (by simp)).1
    have k4 : w10.cell? ⟨w.heap.size + 2, 4, none⟩ = some (.int .i64 0) := (hc10 4 (by simp)).1
    have k5 : w10.cell? ⟨w.heap.size + 2, 5, none⟩ = some (.int .i64 0) := (hc10 5 (by simp)).1
    have k6 : w10.cell? ⟨w.heap.size + 2, 6, none⟩ = some (.slice none 0 0) := (hc10 6 (by simp)).1
    have k7 : w10.cell? ⟨w.heap.size + 2, 7, none⟩ = some (.slice none 0 0) := (hc10 7 (by simp)).1
    have k8 : w10.cell? ⟨w.heap.size + 2, 8, none⟩ = some (.slice none 0 0) := (hc10 8 (by simp)).1
    have k9 : w10.cell? ⟨w.heap.size + 2, 9, none⟩ = some (.slice none 0 0) := (hc10 9 (by simp)).1
    have k10 : w10.cell? ⟨w.heap.size + 2, 10, none⟩ = some (.slice none 0 0) := (hc10 10 (by simp)).1
    have k11 : w10.cell? ⟨w.heap.size + 2, 11, none⟩ = some (.slice none 0 0) := (hc10 11 (by simp)).1
    exact bodyPost_ret (v := .agg #[.int .i64 0, .bool false, .int .i64 0, .int .i64 0, .int .i64 0, .int .i64 0, .slice none 0 0, .slice none 0 0, .slice none 0 0, .slice none 0 0, .slice none 0 0, .slice none 0 0]) (by simp [results, Tryz.results29, go_sem, k0, k1, k2, k3, k4, k5, k6, k7, k8, k9, k10, k11]) rfl ⟨⟨zBD, ⟨_, rfl, zBO _ _⟩, .inr ⟨HN.out, rfl⟩⟩, below_grown B1 hg10 (by omega) (fun q hq => by simp at hq; omega)⟩
  | true =>
    have HV : Hid (d.ok ts) := HR.out.1 rfl
    have y7 : w1.cell? ⟨w.heap.size, 7, none⟩ = some (.slice h.a2 d.L2.length h.c2) := (P1 7 (by simp)).1
    go_upto_region 4 with fail
    clear y7
    obtain ⟨K, hK⟩ : ∃ K, K = keptN keep d.L2.length := ⟨_, rfl⟩
    have e7 : min (max keep 0) (d.L2.length : Int) = (K : Nat) := by rw [hK]; unfold keptN; omega
    have hKl : K ≤ d.L2.length := by rw [hK]; exact keptN_le _ _
    rw [e7]
    have HK := hid hK
    clear e7 hK
    have hsm := hs'.out
    unfold BD.small at hsm
    obtain ⟨⟨b1, o1, h1⟩, ⟨b2, o2, h2⟩, ⟨b3, o3, h3⟩, ⟨b4, o4, h4⟩, ⟨b5, o5, h5⟩, ⟨b6, o6, h6⟩⟩ := hM
    have y0 : w1.cell? ⟨w.heap.size, 0, none⟩ = some (.int .i64 d.wk) := (P1 0 (by simp)).1
    have y1 : w1.cell? ⟨w.heap.size, 1, none⟩ = some (.bool d.up) := (P1 1 (by simp)).1
    have y2 : w1.cell? ⟨w.heap.size, 2, none⟩ = some (.int .i64 d.now) := (P1 2 (by simp)).1
    have y3 : w1.cell? ⟨w.heap.size, 3, none⟩ = some (.int .i64 d.sn) := (P1 3 (by simp)).1
    have y4 : w1.cell? ⟨w.heap.size, 4, none⟩ = some (.int .i64 d.ep) := (P1 4 (by simp)).1
    have y5 : w1.cell? ⟨w.heap.size, 5, none⟩ = some (.int .i64 d.gv) := (P1 5 (by simp)).1
    have y6 : w1.cell? ⟨w.heap.size, 6, none⟩ = some (.slice h.a1 d.L1.length h.c1) := (P1 6 (by simp)).1
    have y7 : w1.cell? ⟨w.heap.size, 7, none⟩ = some (.slice h.a2 d.L2.length h.c2) := (P1 7 (by simp)).1
    have y8 : w1.cell? ⟨w.heap.size, 8, none⟩ = some (.slice h.ar d.R.length h.cr) := (P1 8 (by simp)).1
    have y9 : w1.cell? ⟨w.heap.size, 9, none⟩ = some (.slice h.aj d.J.length h.cj) := (P1 9 (by simp)).1
    have y10 : w1.cell? ⟨w.heap.size, 10, none⟩ = some (.slice h.az d.S.length h.cs) := (P1 10 (by simp)).1
    have y11 : w1.cell? ⟨w.heap.size, 11, none⟩ = some (.slice h.ao d.O.length h.co) := (P1 11 (by simp)).1
    go_upto_region 5 with (first | (go_at_call 79; refine (copyBoss_any d.wk d.up d.now d.sn d.ep d.gv h.a1 h.a2 h.ar h.aj h.az h.ao b1 o1 _ h.c1 b2 o2 _ h.c2 b3 o3 _ h.cr b4 o4 _ h.cj b5 o5 _ h.cs b6 o6 _ h.co d.L1 d.L2 d.R d.J d.S d.O _ (h1.below' B1) (h2.below' B1) (h3.below' B1) (h4.below' B1) (h5.below' B1) (h6.below' B1) (by omega) (by omega) (by omega) (by omega) (by omega) (by omega)).mono ?_; rintro e w2 ⟨a0_, c0_, a1_, c1_, a2_, c2_, a3_, c3_, a4_, c4_, a5_, c5_, rfl, ⟨q0, q1, _, _, _, _⟩, hdis, hb2⟩; have P2 := P1.block (hb2.block w.heap.size (by omega)); have R2 := R1.block (hb2.block (w.heap.size + 2) (by omega)); have B2 := B1.trans (hb2.mono B1.size); have z2 : w.heap.size + 3 ≤ w2.heap.size := (by have := hb2.size; omega)) | (refine wpList_store_cf rfl 47 (.tmp 3) (.tmp 21) rfl w.heap.size [.int .i64 d.wk, .bool d.up, .int .i64 d.now, .int .i64 d.sn, .int .i64 d.ep, .int .i64 d.gv, .slice h.a1 d.L1.length h.c1, .slice h.a2 d.L2.length h.c2, .slice h.ar d.R.length h.cr, .slice h.aj d.J.length h.cj, .slice h.az d.S.length h.cs, .slice h.ao d.O.length h.co] [.int .i64 d.wk, .bool d.up, .int .i64 d.now, .int .i64 d.sn, .int .i64 d.ep, .int .i64 d.gv, .slice a0_ d.L1.length c0_, .slice a1_ d.L2.length c1_, .slice a2_ d.R.length c2_, .slice a3_ d.J.length c3_, .slice a4_ d.S.length c4_, .slice a5_ d.O.length c5_] rfl rfl P2 rfl Tryz.sizeBo (one12b _ _ _ _ _ _ _ _ _ _ _ _ _ _ _ _ _ _ _ _ _ _ _ _) ?_; intro w3 P3 hg3))
    have R3 := R2.block (hg3.block (w.heap.size + 2) (by omega) (by intro hh; injection hh with hh; omega))
    have B3 := below_grown B2 hg3 (by omega) (fun q hq => by simp at hq; omega)
    have z3 : w.heap.size + 3 ≤ w3.heap.size := Nat.le_trans z2 hg3.size
    have q03 := (q0.grown hg3 (.inr (by intro hh; have := q0.row_lo _ hh; omega))).mono' z1
    have q13 := (q1.grown hg3 (.inr (by intro hh; have := q1.row_lo _ hh; omega))).mono' z1
    clear y0 y1 y2 y3 y4 y5 y6 y7 y8 y9 y10 y11 hdis hb2 P2 R2 B2 z2 hg3 q0 q1 P1 R1 B1
    obtain ⟨U, hU⟩ : ∃ U, U = w3.drew := ⟨_, rfl⟩
    have Pd : CF U w.heap.size [.int .i64 d.wk, .bool d.up, .int .i64 d.now, .int .i64 d.sn, .int .i64 d.ep, .int .i64 d.gv, .slice a0_ d.L1.length c0_, .slice a1_ d.L2.length c1_, .slice a2_ d.R.length c2_, .slice a3_ d.J.length c3_, .slice a4_ d.S.length c4_, .slice a5_ d.O.length c5_] := by rw [hU]; exact P3
    have Rd : CF U (w.heap.size + 2) zB := by rw [hU]; exact R3
    have Bd : Below w.heap.size w U := by rw [hU]; exact B3.drew
    have zd : w.heap.size + 3 ≤ U.heap.size := by rw [hU]; exact z3
    have q0d : Own (w.heap.size + 3) U 1 (.slice a0_ d.L1.length c0_) d.L1.length (d.L1.map Value.string) := by rw [hU]; exact q03.drewB
    have q1d : Own (w.heap.size + 3) U 1 (.slice a1_ d.L2.length c1_) d.L2.length (d.L2.map Value.string) := by rw [hU]; exact q13.drewB
    obtain ⟨bs, os, hst, _⟩ := q1d.statB h2.sz
    have hsl : ∃ xv, (∀ (ρ : Operand → Value) (o : Oper) (w : World) (x y : Operand), o.op = .slice 25 x none (some y) none → ρ x = .slice a1_ d.L2.length c1_ → ρ y = .int .i64 (K : Nat) → (execOp ρ o).run Tryz.prog w = .ok (.value xv) w) ∧ Src Tryz.prog 1 25 xv K ((d.L2.take K).map Value.string) U := by
      rcases q1d with ⟨hv, hn, _⟩ | ⟨g, og, cap, hv, hc⟩
      · injection hv with e1 e2 e3
        have hK0 : K = 0 := by omega
        refine ⟨.slice a1_ K 0, fun ρ o w x y ho hx hy => ?_, (hst.takeP K hKl).srcS 0⟩
        subst hK0
        rw [e1]
        refine run_sl0 x y ho ?_ hy
        rw [hx, e1, e2, e3]
      · injection hv with e1 _ e3
        refine ⟨.slice a1_ K cap, fun ρ o w x y ho hx hy => ?_, (hst.takeP K hKl).srcS cap⟩
        rw [e1]
        refine run_sl x y g og d.L2.length cap K (Nat.le_trans hKl hc.le) ho ?_ hy
        rw [hx, e1, e3]
    obtain ⟨xv, hsl, hsrc⟩ := hsl
    obtain ⟨v1, w4, hr1, ho4, hg4, _⟩ := run_append_c (P := Tryz.prog) U (w.heap.size + 3) 25 25 25 9 i0 (.string ⟨#[]⟩) 1 16 Tryz.underlying25 hi0 hz00 hz01 hz02 rfl _ d.L1.length _ q0d _ K _ hsrc (by unfold maxLen; omega) (by omega) zd
    rw [← List.map_append] at ho4
    obtain ⟨a', c', rfl⟩ := ho4.slc
    have hrow := q0d.row_lo
    have P4 := Pd.block (hg4.block w.heap.size (by omega) (fun e => by have := hrow _ e.symm; omega))
    have R4 := Rd.block (hg4.block (w.heap.size + 2) (by omega) (fun e => by have := hrow _ e.symm; omega))
    have B4 := below_grown Bd hg4 (by omega) (fun q hq => by have := hrow q hq; omega)
    have z4 : w.heap.size + 3 ≤ w4.heap.size := Nat.le_trans zd hg4.size
    obtain ⟨w5, hw5⟩ : ∃ w5, w5 = w4.setCells (w.heap.size + 2) 0 [.int .i64 d.wk, .bool false, .int .i64 d.now, .int .i64 0, .int .i64 0, .int .i64 0, .slice a' (d.L1.length + K) c', .slice none 0 0, .slice none 0 0, .slice none 0 0, .slice none 0 0, .slice none 0 0] := ⟨_, rfl⟩
    have P5f : w4.grownBy w5 (some (w.heap.size + 2)) := by rw [hw5]; exact grown_setCells _ _ _ _ _ (World.grownBy.refl _ _)
    have hc5 : CF w5 (w.heap.size + 2) [.int .i64 d.wk, .bool false, .int .i64 d.now, .int .i64 0, .int .i64 0, .int .i64 0, .slice a' (d.L1.length + K) c', .slice none 0 0, .slice none 0 0, .slice none 0 0, .slice none 0 0, .slice none 0 0] := by rw [hw5]; exact R4.stored rfl
    have P5 := P4.block (P5f.block w.heap.size (by omega) (by intro hh; injection hh with hh; omega))
    have ho5 := ho4.grown P5f (.inr (by intro hh; have := ho4.row_lo _ hh; omega))
    have B5 := below_grown B4 P5f (by omega) (fun q hq => by simp at hq; omega)
    have HO : Hid (BossO w5 w.heap.size (fallB d keep) ⟨a', none, none, none, none, none, c', 0, 0, 0, 0, 0⟩) := by
      have hl : (d.L1 ++ d.L2.take K).length = d.L1.length + K := by rw [List.length_append, List.length_take]; omega
      have := oneBO w5 w.heap.size d.wk d.now (d.L1 ++ d.L2.take K) a' c' (by rw [hl]; exact ho5.mono' (by omega))
      rw [HK.out] at this
      exact this
    have HB5 := hid B5
    have HL : Hid (d.L1.length + K = (fallB d keep).L1.length) := by show _ = (d.L1 ++ d.L2.take (keptN keep d.L2.length)).length; rw [← HK.out, List.length_append, List.length_take]; show _ = _; omega
    clear hst hsrc ho4 ho5 hg4 hrow Bd q0d q1d q03 q13 B3 P3 R3 z3 Rd B4 B5 P5f h1 h2 h3 h4 h5 h6 hsm hKl HK hT
    refine wp_region_held (S := fun w' => CF w' w.heap.size [.int .i64 d.wk, .bool d.up, .int .i64 d.now, .int .i64 d.sn, .int .i64 d.ep, .int .i64 d.gv, .slice a0_ d.L1.length c0_, .slice a1_ d.L2.length c1_, .slice a2_ d.R.length c2_, .slice a3_ d.J.length c3_, .slice a4_ d.S.length c4_, .slice a5_ d.O.length c5_]) (by kernel_rfl) ?_
    change wpAnyH _ _ _ _ _ _ _ _ (World.drew _)
    rw [← hU]
    clear hU
    refine hTake (i := 0) (d := some 22) (v := .pointer (some ⟨w.heap.size, 0, none⟩)) (l' := #[true, false, false, false, false, false, false, false, false, false, false, false, false, false, false, false]) rfl (by kernel_rfl) (by kernel_rfl) (by kernel_rfl) (by kernel_rfl) (fun _ _ _ h => h) (by kernel_rfl) (fun _ hc => by kernel_rfl) Pd (by kernel_rfl) ?_
    refine hTake (i := 1) (d := some 23) (v := .int .i64 d.wk) (l' := #[true, true, false, false, false, false, false, false, false, false, false, false, false, false, false, false]) rfl (by kernel_rfl) (by kernel_rfl) (by kernel_rfl) (by kernel_rfl) (fun _ _ _ h => h) (by kernel_rfl) (fun _ hc => run_ldI (.tmp 22) (by kernel_rfl) (by kernel_rfl) (hc 0 (by simp)).1) Pd (by kernel_rfl) ?_
    refine hTake (i := 2) (d := some 24) (v := .pointer (some ⟨w.heap.size, 2, none⟩)) (l' := #[true, true, true, false, false, false, false, false, false, false, false, false, false, false, false, false]) rfl (by kernel_rfl) (by kernel_rfl) (by kernel_rfl) (by kernel_rfl) (fun _ _ _ h => h) (by kernel_rfl) (fun _ hc => by kernel_rfl) Pd (by kernel_rfl) ?_
    refine hTake (i := 3) (d := some 25) (v := .int .i64 d.now) (l' := #[true, true, true, true, false, false, false, false, false, false, false, false, false, false, false, false]) rfl (by kernel_rfl) (by kernel_rfl) (by kernel_rfl) (by kernel_rfl) (fun _ _ _ h => h) (by kernel_rfl) (fun _ hc => run_ldI (.tmp 24) (by kernel_rfl) (by kernel_rfl) (hc 2 (by simp)).1) Pd (by kernel_rfl) ?_
    refine hTake (i := 4) (d := some 26) (v := .pointer (some ⟨w.heap.size, 6, none⟩)) (l' := #[true, true, true, true, true, false, false, false, false, false, false, false, false, false, false, false]) rfl (by kernel_rfl) (by kernel_rfl) (by kernel_rfl) (by kernel_rfl) (fun _ _ _ h => h) (by kernel_rfl) (fun _ hc => by kernel_rfl) Pd (by kernel_rfl) ?_
    refine hTake (i := 5) (d := some 27) (v := .pointer (some ⟨w.heap.size, 6, none⟩)) (l' := #[true, true, true, true, true, true, false, false, false, false, false, false, false, false, false, false]) rfl (by kernel_rfl) (by kernel_rfl) (by kernel_rfl) (by kernel_rfl) (fun _ _ _ h => h) (by kernel_rfl) (fun _ hc => by kernel_rfl) Pd (by kernel_rfl) ?_
    refine hTake (i := 6) (d := some 28) (v := .slice a0_ d.L1.length c0_) (l' := #[true, true, true, true, true, true, true, false, false, false, false, false, false, false, false, false]) rfl (by kernel_rfl) (by kernel_rfl) (by kernel_rfl) (by kernel_rfl) (fun _ _ _ h => h) (by kernel_rfl) (fun _ hc => run_ldss (.tmp 27) (by kernel_rfl) (by kernel_rfl) (hc 6 (by simp)).1) Pd (by kernel_rfl) ?_
    refine hTake (i := 7) (d := some 29) (v := .pointer (some ⟨w.heap.size, 6, none⟩)) (l' := #[true, true, true, true, true, true, true, true, false, false, false, false, false, false, false, false]) rfl (by kernel_rfl) (by kernel_rfl) (by kernel_rfl) (by kernel_rfl) (fun _ _ _ h => h) (by kernel_rfl) (fun _ hc => by kernel_rfl) Pd (by kernel_rfl) ?_
    refine hTake (i := 8) (d := some 30) (v := .pointer (some ⟨w.heap.size, 7, none⟩)) (l' := #[true, true, true, true, true, true, true, true, true, false, false, false, false, false, false, false]) rfl (by kernel_rfl) (by kernel_rfl) (by kernel_rfl) (by kernel_rfl) (fun _ _ _ h => h) (by kernel_rfl) (fun _ hc => by kernel_rfl) Pd (by kernel_rfl) ?_
    refine hTake (i := 9) (d := some 31) (v := .slice a1_ d.L2.length c1_) (l' := #[true, true, true, true, true, true, true, true, true, true, false, false, false, false, false, false]) rfl (by kernel_rfl) (by kernel_rfl) (by kernel_rfl) (by kernel_rfl) (fun _ _ _ h => h) (by kernel_rfl) (fun _ hc => run_ldss (.tmp 30) (by kernel_rfl) (by kernel_rfl) (hc 7 (by simp)).1) Pd (by kernel_rfl) ?_
    refine hTake (i := 10) (d := some 32) (v := .int .i64 (K : Nat)) (l' := #[true, true, true, true, true, true, true, true, true, true, true, false, false, false, false, false]) rfl (by kernel_rfl) (by kernel_rfl) (by kernel_rfl) (by kernel_rfl) (fun _ _ _ h => h) (by kernel_rfl) (fun _ hc => by kernel_rfl) Pd (by kernel_rfl) ?_
    refine hTake (i := 11) (d := some 33) (v := xv) (l' := #[true, true, true, true, true, true, true, true, true, true, true, true, false, false, false, false]) rfl (by kernel_rfl) (by kernel_rfl) (by kernel_rfl) (by kernel_rfl) (fun _ _ _ h => h) (by kernel_rfl) (fun _ hc => hsl _ _ _ (.tmp 31) (.tmp 32) (by kernel_rfl) (by kernel_rfl) (by kernel_rfl)) Pd (by kernel_rfl) ?_
    refine hOne (i := 12) (by kernel_rfl) (hVal (i := 12) (d := some 34) (v := .slice a' (d.L1.length + K) c') (w' := w4) (l' := #[true, true, true, true, true, true, true, true, true, true, true, true, true, false, false, false]) rfl (by kernel_rfl) (by kernel_rfl) (by kernel_rfl) (run_app (.tmp 28) (.tmp 33) 25 25 (by kernel_rfl) (by kernel_rfl) (by kernel_rfl) (by kernel_rfl) hr1) P4 ?_)
    refine hTake (i := 13) (d := some 35) (v := .agg #[.slice a' (d.L1.length + K) c', .slice none 0 0]) (l' := #[true, true, true, true, true, true, true, true, true, true, true, true, true, true, false, false]) rfl (by kernel_rfl) (by kernel_rfl) (by kernel_rfl) (by kernel_rfl) (fun _ _ _ h => h) (by kernel_rfl) (fun _ hc => run_b42 (.tmp 34) (by kernel_rfl) (by kernel_rfl)) P4 (by kernel_rfl) ?_
    refine hTake (i := 14) (d := some 36) (v := .agg #[.int .i64 d.wk, .bool false, .int .i64 d.now, .int .i64 0, .int .i64 0, .int .i64 0, .slice a' (d.L1.length + K) c', .slice none 0 0, .slice none 0 0, .slice none 0 0, .slice none 0 0, .slice none 0 0]) (l' := #[true, true, true, true, true, true, true, true, true, true, true, true, true, true, true, false]) rfl (by kernel_rfl) (by kernel_rfl) (by kernel_rfl) (by kernel_rfl) (fun _ _ _ h => h) (by kernel_rfl) (fun _ hc => run_b47 (.tmp 23) (.tmp 25) (.tmp 35) (by kernel_rfl) (by kernel_rfl) (by kernel_rfl) (by kernel_rfl)) P4 (by kernel_rfl) ?_
    refine hOne (i := 15) (by kernel_rfl) (hSkip (i := 15) (w' := w5) (l' := #[true, true, true, true, true, true, true, true, true, true, true, true, true, true, true, true]) rfl (by kernel_rfl) (by kernel_rfl) (by kernel_rfl) (by rw [hw5]; exact run_stT 47 zB [.int .i64 d.wk, .bool false, .int .i64 d.now, .int .i64 0, .int .i64 0, .int .i64 0, .slice a' (d.L1.length + K) c', .slice none 0 0, .slice none 0 0, .slice none 0 0, .slice none 0 0, .slice none 0 0] (.tmp 6) (.tmp 36) (by kernel_rfl) (by kernel_rfl) (by kernel_rfl) R4 rfl Tryz.sizeBo (one12b _ _ _ _ _ _ _ _ _ _ _ _ _ _ _ _ _ _ _ _ _ _ _ _)) P5 ?_)
    have k0 : w5.cell? ⟨w.heap.size + 2, 0, none⟩ = some (.int .i64 d.wk) := (hc5 0 (by simp)).1
    have k1 : w5.cell? ⟨w.heap.size + 2, 1, none⟩ = some (.bool false) := (hc5 1 (by simp)).1
    have k2 : w5.cell? ⟨w.heap.size + 2, 2, none⟩ = some (.int .i64 d.now) := (hc5 2 (by simp)).1
    have k3 : w5.cell? ⟨w.heap.size + 2, 3, none⟩ = some (.int .i64 0) := (hc5 3 (by simp)).1
    have k4 : w5.cell? ⟨w.heap.size + 2, 4, none⟩ = some (.int .i64 0) := (hc5 4 (by simp)).1
    have k5 : w5.cell? ⟨w.heap.size + 2, 5, none⟩ = some (.int .i64 0) := (hc5 5 (by simp)).1
    have k6 : w5.cell? ⟨w.heap.size + 2, 6, none⟩ = some (.slice a' (d.L1.length + K) c') := (hc5 6 (by simp)).1
    have k7 : w5.cell? ⟨w.heap.size + 2, 7, none⟩ = some (.slice none 0 0) := (hc5 7 (by simp)).1
    have k8 : w5.cell? ⟨w.heap.size + 2, 8, none⟩ = some (.slice none 0 0) := (hc5 8 (by simp)).1
    have k9 : w5.cell? ⟨w.heap.size + 2, 9, none⟩ = some (.slice none 0 0) := (hc5 9 (by simp)).1
    have k10 : w5.cell? ⟨w.heap.size + 2, 10, none⟩ = some (.slice none 0 0) := (hc5 10 (by simp)).1
    have k11 : w5.cell? ⟨w.heap.size + 2, 11, none⟩ = some (.slice none 0 0) := (hc5 11 (by simp)).1
    refine wpAnyH_done (by kernel_rfl) ?_ _
    go_wp2
    refine bodyPost_ret (v := .agg #[.int .i64 d.wk, .bool false, .int .i64 d.now, .int .i64 0, .int .i64 0, .int .i64 0, .slice a' (d.L1.length + K) c', .slice none 0 0, .slice none 0 0, .slice none 0 0, .slice none 0 0, .slice none 0 0]) (by simp [results, Tryz.results29, go_sem, k0, k1, k2, k3, k4, k5, k6, k7, k8, k9, k10, k11]) rfl ⟨⟨fallB d keep, ⟨_, ?_, HO.out⟩, .inl ⟨HV.out, rfl⟩⟩, HB5.out⟩
    rw [HL.out]; rfl

end Go.Proofs.YtjjapohngbagpaaGreat
