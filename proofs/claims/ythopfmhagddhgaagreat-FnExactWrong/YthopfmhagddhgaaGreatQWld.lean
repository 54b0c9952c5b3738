import Derived.Test.YthopfmhagddhgaaGreatQWlb
import Derived.Test.YthopfmhagddhgaaGreatQWlc
namespace Go.Proofs.YthopfmhagddhgaaGreat
open Go.RowKit

theorem setCells_other (p q : Nat) (hq : q ≠ p) : ∀ (vs : List Value) (o : Nat) (w : World), (w.setCells p o vs).heap[q]? = w.heap[q]?
  | [], _, _ => rfl
  | v :: r, o, w => by rw [World.setCells, setCells_other p q hq r (o + 1)]; exact Below.heap_setCell _ _ _ _ hq
theorem Built.blkO {w w' : World} {g : Nat} {xs : List Value} {k : Nat} {ts : List TaskD} {p : Nat} (h : Built w g xs k ts) (hb : ∀ q, q ≠ p → w'.heap[q]? = w.heap[q]?) (hp : p ≤ g) : Built w' g xs k ts := fun j hj => by
  obtain ⟨h0, h1, hr, b', n', h2, h3⟩ := h j hj
  exact ⟨h0, h1, hr, b', n', h2, h3.block (hb _ (by have := h3.lo; omega))⟩

/-- What szWorld lets by. -/
def WSm (pn : Nat) (ts : List TaskD) (key : ByteArray) (d : BD) (wn : Nat) (Ws : List WkD) (fn : Nat) (fg : ByteArray) : Prop := pn + tssz ts ≤ 1048576 ∧ d.small ∧ wn ≤ 1048576 ∧ smallWr Ws ∧ fn ≤ 1048576 ∧ key.size ≤ 1048576 ∧ fg.size ≤ 1048576

set_option maxHeartbeats 4000000 in
set_option maxRecDepth 100000 in
theorem szWorld_any (pa : Option Addr) (pb po pn pq : Nat) (ts : List TaskD) (key : ByteArray) (d : BD) (v0 v1 v2 v3 v4 v5 v6 v7 v8 v9 v10 v11 : Value) (wa : Option Addr) (wb wo wn wc : Nat) (Ws : List WkD) (fa : Option Addr) (fb fo fn fc : Nat) (Fl : List Pc) (fg : ByteArray) (w : World) (hT : TasksAt w pa pb po pn ts) (hV : BossV w d [v0, v1, v2, v3, v4, v5, v6, v7, v8, v9, v10, v11]) (hW : WrAt w wa wb wo wn Ws) (hF : PcAt w fa fb fo fn Fl) (hk : key.size ≤ maxLen) (hg : fg.size ≤ maxLen) :
    Calls Tryz.prog 7 #[.agg #[.slice pa pn pq, .string key, v0, v1, v2, v3, v4, v5, v6, v7, v8, v9, v10, v11, .slice wa wn wc, .slice fa fn fc, .string fg], .int .i64 1048576] w fun e w' => (∃ r, e = .returned (.int .i64 r) ∧ (r = -1 ∨ 0 ≤ r ∧ WSm pn ts key d wn Ws fn fg)) ∧ Below w.heap.size w w' := by
  unfold maxLen at hk hg
  obtain ⟨W, hWd⟩ : ∃ W, W = w.alloc (.cells #[.slice pa pn pq, .string key, v0, v1, v2, v3, v4, v5, v6, v7, v8, v9, v10, v11, .slice wa wn wc, .slice fa fn fc, .string fg] 36) := ⟨_, rfl⟩
  have B0 : Below w.heap.size w W := by rw [hWd]; exact (Below.refl _ _).alloc (Nat.le_refl _) _
  have M0 : MC W w.heap.size [.slice pa pn pq, .string key, v0, v1, v2, v3, v4, v5, v6, v7, v8, v9, v10, v11, .slice wa wn wc, .slice fa fn fc, .string fg] := by rw [hWd]; exact MC.made w _ _
  have l0 : w.heap.size < W.heap.size := by rw [hWd]; simp
  have z0 : W.cell? ⟨w.heap.size, 0, none⟩ = some (.slice pa pn pq) := M0 0 (by simp)
  go_enter Tryz.func7, Tryz.ntmps7
  go_upto_region 1 with fail
  rw [← hWd]
  clear hWd
  go_wp2_with fail
  refine (szPlan_any pa pb po pn pq ts 1048576 _ (by omega) (by omega) (hT.below' B0)).mono ?_
  rintro e y1 ⟨⟨r1, rfl, hr⟩, hb1⟩
  have B1 := B0.trans (hb1.mono B0.size)
  have M1 := M0.below hb1 l0
  have l1 := Nat.lt_of_lt_of_le l0 hb1.size
  clear B0 M0 l0 hb1 z0
  rcases hr with rfl | ⟨hr, hr0⟩
  · go_wp2
    go_ret
    exact ⟨⟨_, rfl, .inl rfl⟩, B1⟩
  have H1 := hid (show pn + tssz ts ≤ 1048576 by omega)
  have hr1 : r1 ≤ 1048576 := by omega
  clear hr
  have z1 : y1.cell? ⟨w.heap.size, 1, none⟩ = some (.string key) := M1 1 (by simp)
  have z2 : y1.cell? ⟨w.heap.size, 2, none⟩ = some (v0) := M1 2 (by simp)
  have z3 : y1.cell? ⟨w.heap.size, 3, none⟩ = some (v1) := M1 3 (by simp)
  have z4 : y1.cell? ⟨w.heap.size, 4, none⟩ = some (v2) := M1 4 (by simp)
  have z5 : y1.cell? ⟨w.heap.size, 5, none⟩ = some (v3) := M1 5 (by simp)
  have z6 : y1.cell? ⟨w.heap.size, 6, none⟩ = some (v4) := M1 6 (by simp)
  have z7 : y1.cell? ⟨w.heap.size, 7, none⟩ = some (v5) := M1 7 (by simp)
  have z8 : y1.cell? ⟨w.heap.size, 8, none⟩ = some (v6) := M1 8 (by simp)
  have z9 : y1.cell? ⟨w.heap.size, 9, none⟩ = some (v7) := M1 9 (by simp)
  have z10 : y1.cell? ⟨w.heap.size, 10, none⟩ = some (v8) := M1 10 (by simp)
  have z11 : y1.cell? ⟨w.heap.size, 11, none⟩ = some (v9) := M1 11 (by simp)
  have z12 : y1.cell? ⟨w.heap.size, 12, none⟩ = some (v10) := M1 12 (by simp)
  have z13 : y1.cell? ⟨w.heap.size, 13, none⟩ = some (v11) := M1 13 (by simp)
  by_cases hk1 : r1 - key.size < 0
  · go_wp2
    go_ret
    exact ⟨⟨_, rfl, .inl rfl⟩, B1⟩
  have H2 := hid (show key.size ≤ 1048576 by omega)
  have HC := hid (szBossV_any d v0 v1 v2 v3 v4 v5 v6 v7 v8 v9 v10 v11 (r1 - key.size) y1 (by omega) (by omega) (hV.below' B1))
  go_wp2_with fail
  refine HC.out.mono ?_
  rintro e y2 ⟨⟨r2, rfl, hr⟩, hb2⟩
  have B2 := B1.trans (hb2.mono B1.size)
  have M2 := M1.below hb2 l1
  have l2 := Nat.lt_of_lt_of_le l1 hb2.size
  clear B1 M1 l1 hb2 HC z1 z2 z3 z4 z5 z6 z7 z8 z9 z10 z11 z12 z13
  rcases hr with rfl | ⟨hr20, hr21, hr22⟩
  · go_wp2
    go_ret
    exact ⟨⟨_, rfl, .inl rfl⟩, B2⟩
  have H3 := hid hr22
  have hr23 : r2 ≤ 1048576 := by omega
  clear hr22 hr21 hk1 hr0 hr1
  have z14 : y2.cell? ⟨w.heap.size, 14, none⟩ = some (.slice wa wn wc) := M2 14 (by simp)
  go_wp2_with fail
  refine (szWorkerS_any wa wb wo wn wc Ws r2 _ hr20 hr23 (hW.below' B2)).mono ?_
  rintro e y3 ⟨⟨r3, rfl, hr⟩, hb3⟩
  have B3 := B2.trans (hb3.mono B2.size)
  have M3 := M2.below hb3 l2
  have l3 := Nat.lt_of_lt_of_le l2 hb3.size
  clear B2 M2 l2 hb3 z14
  rcases hr with rfl | ⟨hr30, hr31, hr32, hr33⟩
  · go_wp2
    go_ret
    exact ⟨⟨_, rfl, .inl rfl⟩, B3⟩
  have H4 := hid (And.intro hr32 hr33)
  have hr34 : r3 ≤ 1048576 := by omega
  clear hr32 hr33 hr31 hr20 hr23
  have z15 : y3.cell? ⟨w.heap.size, 15, none⟩ = some (.slice fa fn fc) := M3 15 (by simp)
  go_wp2_with fail
  refine (szParcelS_any fa fb fo fn fc Fl r3 _ hr30 hr34 (hF.below' B3)).mono ?_
  rintro e y4 ⟨⟨r4, rfl, hr⟩, hb4⟩
  have B4 := B3.trans (hb4.mono B3.size)
  have M4 := M3.below hb4 l3
  clear B3 M3 l3 hb4 z15
  rcases hr with rfl | ⟨hr40, hr41, hr42⟩
  · go_wp2
    go_ret
    exact ⟨⟨_, rfl, .inl rfl⟩, B4⟩
  have H5 := hid hr42
  have hr43 : r4 ≤ 1048576 := by omega
  clear hr42 hr41 hr30 hr34
  have z16 : y4.cell? ⟨w.heap.size, 16, none⟩ = some (.string fg) := M4 16 (by simp)
  by_cases hg1 : r4 - fg.size < 0
  · go_wp2
    go_ret
    exact ⟨⟨_, rfl, .inl rfl⟩, B4⟩
  have H6 := hid (show fg.size ≤ 1048576 by omega)
  go_wp2
  go_ret
  exact ⟨⟨_, rfl, .inr ⟨by omega, H1.out, H3.out, H4.out.1, H4.out.2, H5.out, H2.out, H6.out⟩⟩, B4⟩

/-- A world of its own memory. -/
def WAns (w' : World) (B : Nat) (vs : List Value) (pn : Nat) (ts : List TaskD) (key : ByteArray) (d : BD) (wn : Nat) (Ws : List WkD) (fn : Nat) (Fl : List Pc) (fg : ByteArray) : Prop :=
  ∃ gp gw gf u0 u1 u2 u3 u4 u5 u6 u7 u8 u9 u10 u11, vs = [.slice (some ⟨gp, 0, none⟩) pn pn, .string key, u0, u1, u2, u3, u4, u5, u6, u7, u8, u9, u10, u11, .slice (some ⟨gw, 0, none⟩) wn wn, .slice (some ⟨gf, 0, none⟩) fn fn, .string fg] ∧ TasksAt w' (some ⟨gp, 0, none⟩) gp 0 pn ts ∧ BossV w' d [u0, u1, u2, u3, u4, u5, u6, u7, u8, u9, u10, u11] ∧ WrAt w' (some ⟨gw, 0, none⟩) gw 0 wn Ws ∧ PcAt w' (some ⟨gf, 0, none⟩) gf 0 fn Fl ∧ B ≤ gp ∧ B ≤ gw ∧ B ≤ gf

set_option maxHeartbeats 4000000 in
set_option maxRecDepth 100000 in
theorem toWorld_any (pa : Option Addr) (pb po pn pq : Nat) (ts : List TaskD) (key : ByteArray) (d : BD) (v0 v1 v2 v3 v4 v5 v6 v7 v8 v9 v10 v11 : Value) (wa : Option Addr) (wb wo wn wc : Nat) (Ws : List WkD) (fa : Option Addr) (fb fo fn fc : Nat) (Fl : List Pc) (fg : ByteArray) (w : World) (hT : TasksAt w pa pb po pn ts) (hV : BossV w d [v0, v1, v2, v3, v4, v5, v6, v7, v8, v9, v10, v11]) (hW : WrAt w wa wb wo wn Ws) (hF : PcAt w fa fb fo fn Fl) (hs : WSm pn ts key d wn Ws fn fg) :
    Calls Tryz.prog 9 #[.agg #[.slice pa pn pq, .string key, v0, v1, v2, v3, v4, v5, v6, v7, v8, v9, v10, v11, .slice wa wn wc, .slice fa fn fc, .string fg]] w fun e w' => (∃ vs, e = .returned (.agg vs.toArray) ∧ WAns w' w.heap.size vs pn ts key d wn Ws fn Fl fg) ∧ Below w.heap.size w w' := by
  obtain ⟨hs1, hs2, hs3, hs4, hs5, hs6, hs7⟩ := hs
  have HK := hid hF.ok
  obtain ⟨W, hWd⟩ : ∃ W, W = ((w.alloc (.cells #[.slice pa pn pq, .string key, v0, v1, v2, v3, v4, v5, v6, v7, v8, v9, v10, v11, .slice wa wn wc, .slice fa fn fc, .string fg] 36)).alloc (.cells #[.slice none 0 0, .string ⟨#[]⟩, .int .i64 0, .bool false, .int .i64 0, .int .i64 0, .int .i64 0, .int .i64 0, .slice none 0 0, .slice none 0 0, .slice none 0 0, .slice none 0 0, .slice none 0 0, .slice none 0 0, .slice none 0 0, .slice none 0 0, .string ⟨#[]⟩] 51)).alloc (.cells #[.slice none 0 0, .string ⟨#[]⟩, .int .i64 0, .bool false, .int .i64 0, .int .i64 0, .int .i64 0, .int .i64 0, .slice none 0 0, .slice none 0 0, .slice none 0 0, .slice none 0 0, .slice none 0 0, .slice none 0 0, .slice none 0 0, .slice none 0 0, .string ⟨#[]⟩] 51) := ⟨_, rfl⟩
  have B_0 : Below w.heap.size w W := by rw [hWd]; exact (((Below.refl _ _).alloc (Nat.le_refl _) _).alloc (by simp) _).alloc (by simp; omega) _
  have l_0 : w.heap.size + 1 + 1 < W.heap.size := by rw [hWd]; simp
  have A_0 : MC W w.heap.size [.slice pa pn pq, .string key, v0, v1, v2, v3, v4, v5, v6, v7, v8, v9, v10, v11, .slice wa wn wc, .slice fa fn fc, .string fg] := by rw [hWd]; exact ((MC.made w #[.slice pa pn pq, .string key, v0, v1, v2, v3, v4, v5, v6, v7, v8, v9, v10, v11, .slice wa wn wc, .slice fa fn fc, .string fg] 36).block (Below.heap_alloc _ _ _ (by simp))).block (Below.heap_alloc _ _ _ (by simp; omega))
  have R_0 : CF W (w.heap.size + 1) [.slice none 0 0, .string ⟨#[]⟩, .int .i64 0, .bool false, .int .i64 0, .int .i64 0, .int .i64 0, .int .i64 0, .slice none 0 0, .slice none 0 0, .slice none 0 0, .slice none 0 0, .slice none 0 0, .slice none 0 0, .slice none 0 0, .slice none 0 0, .string ⟨#[]⟩] := by
    rw [hWd]
    have := CF.made (w.alloc (.cells #[.slice pa pn pq, .string key, v0, v1, v2, v3, v4, v5, v6, v7, v8, v9, v10, v11, .slice wa wn wc, .slice fa fn fc, .string fg] 36)) #[.slice none 0 0, .string ⟨#[]⟩, .int .i64 0, .bool false, .int .i64 0, .int .i64 0, .int .i64 0, .int .i64 0, .slice none 0 0, .slice none 0 0, .slice none 0 0, .slice none 0 0, .slice none 0 0, .slice none 0 0, .slice none 0 0, .slice none 0 0, .string ⟨#[]⟩] 51
    rw [World.size_alloc] at this
    exact this.block (Below.heap_alloc _ _ _ (by simp))
  have O_0 : CF W (w.heap.size + 1 + 1) [.slice none 0 0, .string ⟨#[]⟩, .int .i64 0, .bool false, .int .i64 0, .int .i64 0, .int .i64 0, .int .i64 0, .slice none 0 0, .slice none 0 0, .slice none 0 0, .slice none 0 0, .slice none 0 0, .slice none 0 0, .slice none 0 0, .slice none 0 0, .string ⟨#[]⟩] := by
    rw [hWd]
    have := CF.made ((w.alloc (.cells #[.slice pa pn pq, .string key, v0, v1, v2, v3, v4, v5, v6, v7, v8, v9, v10, v11, .slice wa wn wc, .slice fa fn fc, .string fg] 36)).alloc (.cells #[.slice none 0 0, .string ⟨#[]⟩, .int .i64 0, .bool false, .int .i64 0, .int .i64 0, .int .i64 0, .int .i64 0, .slice none 0 0, .slice none 0 0, .slice none 0 0, .slice none 0 0, .slice none 0 0, .slice none 0 0, .slice none 0 0, .slice none 0 0, .string ⟨#[]⟩] 51)) #[.slice none 0 0, .string ⟨#[]⟩, .int .i64 0, .bool false, .int .i64 0, .int .i64 0, .int .i64 0, .int .i64 0, .slice none 0 0, .slice none 0 0, .slice none 0 0, .slice none 0 0, .slice none 0 0, .slice none 0 0, .slice none 0 0, .slice none 0 0, .string ⟨#[]⟩] 51
    simp only [World.size_alloc] at this
    exact this
  obtain ⟨pA, hpA⟩ : ∃ q, q = w.heap.size := ⟨_, rfl⟩
  obtain ⟨pR, hpR⟩ : ∃ q, q = w.heap.size + 1 := ⟨_, rfl⟩
  obtain ⟨pO, hpO⟩ : ∃ q, q = w.heap.size + 1 + 1 := ⟨_, rfl⟩
  go_enter Tryz.func9, Tryz.ntmps9
  go_upto_region 2 with fail
  rw [← hWd]
  rw [← hpA] at A_0
  rw [← hpR] at R_0
  rw [← hpO] at O_0 l_0
  rw [← hpO, ← hpR, ← hpA]
  have HP := hid (And.intro hpA (And.intro hpR hpO))
  have hAO : pA < pO := by omega
  have hRO : pR < pO := by omega
  have hwA : w.heap.size ≤ pA := by omega
  have hwR : w.heap.size ≤ pR := by omega
  have hwO : w.heap.size ≤ pO := by omega
  have hARn : pA ≠ pR := by omega
  clear hWd hpA hpR hpO
  have z0 : W.cell? ⟨pA, 0, none⟩ = some (.slice pa pn pq) := A_0 0 (by simp)
  go_wp2_with fail
  refine (toPlan_any pa pb po pn pq ts _ (hT.below' B_0) hs1).mono ?_
  rintro e x1 ⟨gp, xp, rfl, GPn, BPn, _, hb1⟩
  have hgp : pO < gp := by have := GPn.lo; omega
  clear z0
  have B_1 := B_0.trans (hb1.mono B_0.size)
  have A_1 := A_0.below hb1 (by omega)
  have R_1 := R_0.block (hb1.block _ (by omega))
  have O_1 := O_0.block (hb1.block _ (by omega))
  have l_1 : pO < x1.heap.size := by have := hb1.size; omega
  clear B_0 A_0 R_0 O_0
  have GP_1 := GPn.mono (show pO + 1 ≤ W.heap.size by omega)
  have BP_1 := BPn
  clear GPn BPn hb1 l_0
  have q0 := (O_1 0 (by simp)).1
  have f0 := (O_1 0 (by simp)).2
  simp only [List.getElem?_cons_zero] at q0
  obtain ⟨V1, hV1⟩ : ∃ V, V = x1.setCell ⟨pO, 0, none⟩ (.slice (some ⟨gp, 0, none⟩) pn pn) := ⟨_, rfl⟩
  have O_2 : CF V1 pO [.slice (some ⟨gp, 0, none⟩) pn pn, .string ⟨#[]⟩, .int .i64 0, .bool false, .int .i64 0, .int .i64 0, .int .i64 0, .int .i64 0, .slice none 0 0, .slice none 0 0, .slice none 0 0, .slice none 0 0, .slice none 0 0, .slice none 0 0, .slice none 0 0, .slice none 0 0, .string ⟨#[]⟩] := by rw [hV1]; exact (O_1.set (j := 0) (by simp) (.slice (some ⟨gp, 0, none⟩) pn pn))
  have hkV1 : ∀ q, q ≠ pO → V1.heap[q]? = x1.heap[q]? := fun q hq => by rw [hV1]; exact Below.heap_setCell _ _ _ _ hq
  have hzV1 : V1.heap.size = x1.heap.size := by rw [hV1]; simp [World.setCell]
  have A_2 := A_1.block (hkV1 pA (by omega))
  have R_2 := R_1.block (hkV1 pR (by omega))
  have B_2 : Below w.heap.size w V1 := by rw [hV1]; exact B_1.setCell (by exact hwO) _
  have l_2 : pO < V1.heap.size := by omega
  have GP_2 := GP_1.block (hkV1 _ (by have := GP_1.lo; omega))
  have BP_2 := by have := BP_1.setCell (p := ⟨pO, 0, none⟩) (by show pO ≤ _; omega) (.slice (some ⟨gp, 0, none⟩) pn pn); rw [← hV1] at this; exact this
  go_upto_region 3 with fail
  rw [← hV1]
  clear hV1 q0 f0 A_1 R_1 B_1 l_1 O_1 GP_1 BP_1
  have z1 : V1.cell? ⟨pA, 1, none⟩ = some (.string key) := A_2 1 (by simp)
  have q1 := (O_2 1 (by simp)).1
  have f1 := (O_2 1 (by simp)).2
  simp only [List.getElem?_cons_zero, List.getElem?_cons_succ] at q1
  obtain ⟨V2, hV2⟩ : ∃ V, V = V1.setCell ⟨pO, 1, none⟩ (.string key) := ⟨_, rfl⟩
  have O_3 : CF V2 pO [.slice (some ⟨gp, 0, none⟩) pn pn, .string key, .int .i64 0, .bool false, .int .i64 0, .int .i64 0, .int .i64 0, .int .i64 0, .slice none 0 0, .slice none 0 0, .slice none 0 0, .slice none 0 0, .slice none 0 0, .slice none 0 0, .slice none 0 0, .slice none 0 0, .string ⟨#[]⟩] := by rw [hV2]; exact (O_2.set (j := 1) (by simp) (.string key))
  have hkV2 : ∀ q, q ≠ pO → V2.heap[q]? = V1.heap[q]? := fun q hq => by rw [hV2]; exact Below.heap_setCell _ _ _ _ hq
  have hzV2 : V2.heap.size = V1.heap.size := by rw [hV2]; simp [World.setCell]
  have A_3 := A_2.block (hkV2 pA (by omega))
  have R_3 := R_2.block (hkV2 pR (by omega))
  have B_3 : Below w.heap.size w V2 := by rw [hV2]; exact B_2.setCell (by exact hwO) _
  have l_3 : pO < V2.heap.size := by omega
  have GP_3 := GP_2.block (hkV2 _ (by have := GP_2.lo; omega))
  have BP_3 := by have := BP_2.setCell (p := ⟨pO, 1, none⟩) (by show pO ≤ _; omega) (.string key); rw [← hV2] at this; exact this
  go_upto_region 4 with fail
  rw [← hV2]
  clear hV2 q1 f1 A_2 R_2 B_2 l_2 O_2 GP_2 BP_2
  clear z1
  have hV2O : pO < V2.heap.size := l_3
  have z2 : V2.cell? ⟨pA, 2, none⟩ = some (v0) := A_3 2 (by simp)
  have z3 : V2.cell? ⟨pA, 3, none⟩ = some (v1) := A_3 3 (by simp)
  have z4 : V2.cell? ⟨pA, 4, none⟩ = some (v2) := A_3 4 (by simp)
  have z5 : V2.cell? ⟨pA, 5, none⟩ = some (v3) := A_3 5 (by simp)
  have z6 : V2.cell? ⟨pA, 6, none⟩ = some (v4) := A_3 6 (by simp)
  have z7 : V2.cell? ⟨pA, 7, none⟩ = some (v5) := A_3 7 (by simp)
  have z8 : V2.cell? ⟨pA, 8, none⟩ = some (v6) := A_3 8 (by simp)
  have z9 : V2.cell? ⟨pA, 9, none⟩ = some (v7) := A_3 9 (by simp)
  have z10 : V2.cell? ⟨pA, 10, none⟩ = some (v8) := A_3 10 (by simp)
  have z11 : V2.cell? ⟨pA, 11, none⟩ = some (v9) := A_3 11 (by simp)
  have z12 : V2.cell? ⟨pA, 12, none⟩ = some (v10) := A_3 12 (by simp)
  have z13 : V2.cell? ⟨pA, 13, none⟩ = some (v11) := A_3 13 (by simp)
  have HC := hid (toBossV_any d v0 v1 v2 v3 v4 v5 v6 v7 v8 v9 v10 v11 V2 (hV.below' B_3) hs2)
  go_wp2_with fail
  refine HC.out.mono ?_
  rintro e x3 ⟨⟨u0, u1, u2, u3, u4, u5, u6, u7, u8, u9, u10, u11, rfl, BAn⟩, hb3⟩
  have h1u := BAn.v.one
  clear z2 z3 z4 z5 z6 z7 z8 z9 z10 z11 z12 z13
  have B_4 := B_3.trans (hb3.mono B_3.size)
  have A_4 := A_3.below hb3 (by omega)
  have R_4 := R_3.block (hb3.block _ (by omega))
  have O_4 := O_3.block (hb3.block _ (by omega))
  have l_4 : pO < x3.heap.size := by have := hb3.size; omega
  have GP_4 := GP_3.below hb3 GP_3.hi
  have BP_4 := BP_3.below hb3
  clear B_3 A_3 R_3 O_3 l_3 GP_3 BP_3
  have BA_4 := (BAn : BossA x3 V2.heap.size d _)
  clear BAn hb3 HC
  obtain ⟨V3, hV3⟩ : ∃ V, V = x3.setCells pO 2 [u0, u1, u2, u3, u4, u5, u6, u7, u8, u9, u10, u11] := ⟨_, rfl⟩
  have O_5 : CF V3 pO [.slice (some ⟨gp, 0, none⟩) pn pn, .string key, u0, u1, u2, u3, u4, u5, u6, u7, u8, u9, u10, u11, .slice none 0 0, .slice none 0 0, .string ⟨#[]⟩] := by rw [hV3]; exact ((((((((((((O_4.set (j := 2) (by simp) (u0)).set (j := 3) (by simp) (u1)).set (j := 4) (by simp) (u2)).set (j := 5) (by simp) (u3)).set (j := 6) (by simp) (u4)).set (j := 7) (by simp) (u5)).set (j := 8) (by simp) (u6)).set (j := 9) (by simp) (u7)).set (j := 10) (by simp) (u8)).set (j := 11) (by simp) (u9)).set (j := 12) (by simp) (u10)).set (j := 13) (by simp) (u11))
  have hkV3 : ∀ q, q ≠ pO → V3.heap[q]? = x3.heap[q]? := fun q hq => by rw [hV3]; exact setCells_other pO q hq _ _ _
  have hzV3 : V3.heap.size = x3.heap.size := by rw [hV3]; exact size_setCells' _ _ _ _
  have A_5 := A_4.block (hkV3 pA (by omega))
  have R_5 := R_4.block (hkV3 pR (by omega))
  have B_5 : Below w.heap.size w V3 := by rw [hV3]; exact B_4.grown (grown_setCells pO _ _ _ _ (World.grownBy.refl _ _)) B_4.size (fun q hq => by injection hq with hq; omega)
  have l_5 : pO < V3.heap.size := by omega
  have GP_5 := GP_4.block (hkV3 _ (by have := GP_4.lo; omega))
  have BP_5 := by have := BP_4.blkO hkV3 (by omega); exact this
  have BA_5 := BA_4.blk (by omega) (fun q hq _ => hkV3 q (by omega))
  go_upto_region 5 with (refine wpList_store_atWr rfl 47 _ _ rfl pO 2 [u0, u1, u2, u3, u4, u5, u6, u7, u8, u9, u10, u11] rfl rfl (fun i hi => by have := O_4 (2 + i) (by simp at hi ⊢; omega); exact ⟨by rw [this.1]; simp at hi ⊢; omega, this.2⟩) (by kernel_rfl) h1u ?_; rw [← hV3])
  clear hV3 A_4 R_4 B_4 l_4 O_4 GP_4 BP_4 BA_4
  have z14 : V3.cell? ⟨pA, 14, none⟩ = some (.slice wa wn wc) := A_5 14 (by simp)
  go_wp2_with fail
  refine (toWorkerS_any wa wb wo wn wc Ws _ (hW.below' B_5) hs3 hs4).mono ?_
  rintro e x5 ⟨gw, xw, rfl, GWn, BWn, hWn, hb5⟩
  have hgw : pO < gw := by have := GWn.lo; omega
  have HWx := hid (And.intro hWn.len (And.intro hWn.rng (And.intro hWn.i64 hWn.cn)))
  clear z14
  have B_6 := B_5.trans (hb5.mono B_5.size)
  have A_6 := A_5.below hb5 (by omega)
  have R_6 := R_5.block (hb5.block _ (by omega))
  have O_6 := O_5.block (hb5.block _ (by omega))
  have l_6 : pO < x5.heap.size := by have := hb5.size; omega
  have GP_6 := GP_5.below hb5 GP_5.hi
  have BP_6 := BP_5.below hb5
  have BA_6 := BA_5.below hb5
  clear B_5 A_5 R_5 O_5 l_5 GP_5 BP_5 BA_5
  have GW_6 := GWn
  have BW_6 := BWn
  clear GWn BWn hb5 hWn
  have q14 := (O_6 14 (by simp)).1
  have f14 := (O_6 14 (by simp)).2
  simp only [List.getElem?_cons_zero, List.getElem?_cons_succ] at q14
  obtain ⟨V4, hV4⟩ : ∃ V, V = x5.setCell ⟨pO, 14, none⟩ (.slice (some ⟨gw, 0, none⟩) wn wn) := ⟨_, rfl⟩
  have O_7 : CF V4 pO [.slice (some ⟨gp, 0, none⟩) pn pn, .string key, u0, u1, u2, u3, u4, u5, u6, u7, u8, u9, u10, u11, .slice (some ⟨gw, 0, none⟩) wn wn, .slice none 0 0, .string ⟨#[]⟩] := by rw [hV4]; exact (O_6.set (j := 14) (by simp) (.slice (some ⟨gw, 0, none⟩) wn wn))
  have hkV4 : ∀ q, q ≠ pO → V4.heap[q]? = x5.heap[q]? := fun q hq => by rw [hV4]; exact Below.heap_setCell _ _ _ _ hq
  have hzV4 : V4.heap.size = x5.heap.size := by rw [hV4]; simp [World.setCell]
  have A_7 := A_6.block (hkV4 pA (by omega))
  have R_7 := R_6.block (hkV4 pR (by omega))
  have B_7 : Below w.heap.size w V4 := by rw [hV4]; exact B_6.setCell (by exact hwO) _
  have l_7 : pO < V4.heap.size := by omega
  have GP_7 := GP_6.block (hkV4 _ (by have := GP_6.lo; omega))
  have BP_7 := by have := BP_6.setCell (p := ⟨pO, 14, none⟩) (by show pO ≤ _; omega) (.slice (some ⟨gw, 0, none⟩) wn wn); rw [← hV4] at this; exact this
  have BA_7 := BA_6.blk (by omega) (fun q hq _ => hkV4 q (by omega))
  have GW_7 := GW_6.block (hkV4 _ (by have := GW_6.lo; omega))
  have BW_7 := by have := BW_6.setCell (p := ⟨pO, 14, none⟩) (by show pO ≤ _; omega) (.slice (some ⟨gw, 0, none⟩) wn wn); rw [← hV4] at this; exact this
  go_upto_region 6 with fail
  rw [← hV4]
  clear hV4 q14 f14 A_6 R_6 B_6 l_6 O_6 GP_6 BP_6 BA_6 GW_6 BW_6
  have z15 : V4.cell? ⟨pA, 15, none⟩ = some (.slice fa fn fc) := A_7 15 (by simp)
  go_wp2_with fail
  refine (toParcelS_any fa fb fo fn fc Fl _ (hF.below' B_7) hs5).mono ?_
  rintro e x7 ⟨gf, rfl, GFn, hb7⟩
  have hgf : pO < gf := by have := GFn.lo; omega
  clear z15
  have B_8 := B_7.trans (hb7.mono B_7.size)
  have A_8 := A_7.below hb7 (by omega)
  have R_8 := R_7.block (hb7.block _ (by omega))
  have O_8 := O_7.block (hb7.block _ (by omega))
  have l_8 : pO < x7.heap.size := by have := hb7.size; omega
  have GP_8 := GP_7.below hb7 GP_7.hi
  have BP_8 := BP_7.below hb7
  have BA_8 := BA_7.below hb7
  have GW_8 := GW_7.below hb7 GW_7.hi
  have BW_8 := BW_7.below hb7
  clear B_7 A_7 R_7 O_7 l_7 GP_7 BP_7 BA_7 GW_7 BW_7
  have GF_8 := GFn
  clear GFn hb7
  have q15 := (O_8 15 (by simp)).1
  have f15 := (O_8 15 (by simp)).2
  simp only [List.getElem?_cons_zero, List.getElem?_cons_succ] at q15
  obtain ⟨V5, hV5⟩ : ∃ V, V = x7.setCell ⟨pO, 15, none⟩ (.slice (some ⟨gf, 0, none⟩) fn fn) := ⟨_, rfl⟩
  have O_9 : CF V5 pO [.slice (some ⟨gp, 0, none⟩) pn pn, .string key, u0, u1, u2, u3, u4, u5, u6, u7, u8, u9, u10, u11, .slice (some ⟨gw, 0, none⟩) wn wn, .slice (some ⟨gf, 0, none⟩) fn fn, .string ⟨#[]⟩] := by rw [hV5]; exact (O_8.set (j := 15) (by simp) (.slice (some ⟨gf, 0, none⟩) fn fn))
  have hkV5 : ∀ q, q ≠ pO → V5.heap[q]? = x7.heap[q]? := fun q hq => by rw [hV5]; exact Below.heap_setCell _ _ _ _ hq
  have hzV5 : V5.heap.size = x7.heap.size := by rw [hV5]; simp [World.setCell]
  have A_9 := A_8.block (hkV5 pA (by omega))
  have R_9 := R_8.block (hkV5 pR (by omega))
  have B_9 : Below w.heap.size w V5 := by rw [hV5]; exact B_8.setCell (by exact hwO) _
  have l_9 : pO < V5.heap.size := by omega
  have GP_9 := GP_8.block (hkV5 _ (by have := GP_8.lo; omega))
  have BP_9 := by have := BP_8.setCell (p := ⟨pO, 15, none⟩) (by show pO ≤ _; omega) (.slice (some ⟨gf, 0, none⟩) fn fn); rw [← hV5] at this; exact this
  have BA_9 := BA_8.blk (by omega) (fun q hq _ => hkV5 q (by omega))
  have GW_9 := GW_8.block (hkV5 _ (by have := GW_8.lo; omega))
  have BW_9 := by have := BW_8.setCell (p := ⟨pO, 15, none⟩) (by show pO ≤ _; omega) (.slice (some ⟨gf, 0, none⟩) fn fn); rw [← hV5] at this; exact this
  have GF_9 := GF_8.block (hkV5 _ (by have := GF_8.lo; omega))
  go_upto_region 7 with fail
  rw [← hV5]
  clear hV5 q15 f15 A_8 R_8 B_8 l_8 O_8 GP_8 BP_8 BA_8 GW_8 BW_8 GF_8
  have z16 : V5.cell? ⟨pA, 16, none⟩ = some (.string fg) := A_9 16 (by simp)
  have q16 := (O_9 16 (by simp)).1
  have f16 := (O_9 16 (by simp)).2
  simp only [List.getElem?_cons_zero, List.getElem?_cons_succ] at q16
  obtain ⟨V6, hV6⟩ : ∃ V, V = V5.setCell ⟨pO, 16, none⟩ (.string fg) := ⟨_, rfl⟩
  have O_10 : CF V6 pO [.slice (some ⟨gp, 0, none⟩) pn pn, .string key, u0, u1, u2, u3, u4, u5, u6, u7, u8, u9, u10, u11, .slice (some ⟨gw, 0, none⟩) wn wn, .slice (some ⟨gf, 0, none⟩) fn fn, .string fg] := by rw [hV6]; exact (O_9.set (j := 16) (by simp) (.string fg))
  have hkV6 : ∀ q, q ≠ pO → V6.heap[q]? = V5.heap[q]? := fun q hq => by rw [hV6]; exact Below.heap_setCell _ _ _ _ hq
  have hzV6 : V6.heap.size = V5.heap.size := by rw [hV6]; simp [World.setCell]
  have A_10 := A_9.block (hkV6 pA (by omega))
  have R_10 := R_9.block (hkV6 pR (by omega))
  have B_10 : Below w.heap.size w V6 := by rw [hV6]; exact B_9.setCell (by exact hwO) _
  have l_10 : pO < V6.heap.size := by omega
  have GP_10 := GP_9.block (hkV6 _ (by have := GP_9.lo; omega))
  have BP_10 := by have := BP_9.setCell (p := ⟨pO, 16, none⟩) (by show pO ≤ _; omega) (.string fg); rw [← hV6] at this; exact this
  have BA_10 := BA_9.blk (by omega) (fun q hq _ => hkV6 q (by omega))
  have GW_10 := GW_9.block (hkV6 _ (by have := GW_9.lo; omega))
  have BW_10 := by have := BW_9.setCell (p := ⟨pO, 16, none⟩) (by show pO ≤ _; omega) (.string fg); rw [← hV6] at this; exact this
  have GF_10 := GF_9.block (hkV6 _ (by have := GF_9.lo; omega))
  go_upto_region 8 with fail
  rw [← hV6]
  clear hV6 q16 f16 A_9 R_9 B_9 l_9 O_9 GP_9 BP_9 BA_9 GW_9 BW_9 GF_9
  clear z16
  have y0 := (O_10 0 (by simp)).1
  have y1 := (O_10 1 (by simp)).1
  have y2 := (O_10 2 (by simp)).1
  have y3 := (O_10 3 (by simp)).1
  have y4 := (O_10 4 (by simp)).1
  have y5 := (O_10 5 (by simp)).1
  have y6 := (O_10 6 (by simp)).1
  have y7 := (O_10 7 (by simp)).1
  have y8 := (O_10 8 (by simp)).1
  have y9 := (O_10 9 (by simp)).1
  have y10 := (O_10 10 (by simp)).1
  have y11 := (O_10 11 (by simp)).1
  have y12 := (O_10 12 (by simp)).1
  have y13 := (O_10 13 (by simp)).1
  have y14 := (O_10 14 (by simp)).1
  have y15 := (O_10 15 (by simp)).1
  have y16 := (O_10 16 (by simp)).1
  simp only [List.getElem?_cons_zero, List.getElem?_cons_succ] at y0 y1 y2 y3 y4 y5 y6 y7 y8 y9 y10 y11 y12 y13 y14 y15 y16
  have h1r : ∀ v ∈ [.slice (some ⟨gp, 0, none⟩) pn pn, .string key, u0, u1, u2, u3, u4, u5, u6, u7, u8, u9, u10, u11, .slice (some ⟨gw, 0, none⟩) wn wn, .slice (some ⟨gf, 0, none⟩) fn fn, .string fg], Value.oneCell' v = true := by
    intro v hv
    simp only [List.mem_cons, List.not_mem_nil, or_false] at hv
    have h1u' := fun v hv => h1u v hv
    simp only [List.mem_cons, List.not_mem_nil, or_false] at h1u'
    rcases hv with rfl | rfl | hv | hv | hv | hv | hv | hv | hv | hv | hv | hv | hv | hv | rfl | rfl | rfl
    · rfl
    · rfl
    all_goals first
      | exact h1u' v (by simp [hv])
      | rfl
  have HZ := hid O_10
  clear O_10 A_10 l_10
  go_wp2_with (refine wpList_store_cf rfl 51 _ _ rfl pR [.slice none 0 0, .string ⟨#[]⟩, .int .i64 0, .bool false, .int .i64 0, .int .i64 0, .int .i64 0, .int .i64 0, .slice none 0 0, .slice none 0 0, .slice none 0 0, .slice none 0 0, .slice none 0 0, .slice none 0 0, .slice none 0 0, .slice none 0 0, .string ⟨#[]⟩] [.slice (some ⟨gp, 0, none⟩) pn pn, .string key, u0, u1, u2, u3, u4, u5, u6, u7, u8, u9, u10, u11, .slice (some ⟨gw, 0, none⟩) wn wn, .slice (some ⟨gf, 0, none⟩) fn fn, .string fg] rfl rfl R_10 rfl (by kernel_rfl) h1r ?_; intro w9 hcf9 hg9)
  clear y0 y1 y2 y3 y4 y5 y6 y7 y8 y9 y10 y11 y12 y13 y14 y15 y16
  have t0 : w9.cell? ⟨pR, 0, none⟩ = some (.slice (some ⟨gp, 0, none⟩) pn pn) := (hcf9 0 (by simp)).1
  have t1 : w9.cell? ⟨pR, 1, none⟩ = some (.string key) := (hcf9 1 (by simp)).1
  have t2 : w9.cell? ⟨pR, 2, none⟩ = some (u0) := (hcf9 2 (by simp)).1
  have t3 : w9.cell? ⟨pR, 3, none⟩ = some (u1) := (hcf9 3 (by simp)).1
  have t4 : w9.cell? ⟨pR, 4, none⟩ = some (u2) := (hcf9 4 (by simp)).1
  have t5 : w9.cell? ⟨pR, 5, none⟩ = some (u3) := (hcf9 5 (by simp)).1
  have t6 : w9.cell? ⟨pR, 6, none⟩ = some (u4) := (hcf9 6 (by simp)).1
  have t7 : w9.cell? ⟨pR, 7, none⟩ = some (u5) := (hcf9 7 (by simp)).1
  have t8 : w9.cell? ⟨pR, 8, none⟩ = some (u6) := (hcf9 8 (by simp)).1
  have t9 : w9.cell? ⟨pR, 9, none⟩ = some (u7) := (hcf9 9 (by simp)).1
  have t10 : w9.cell? ⟨pR, 10, none⟩ = some (u8) := (hcf9 10 (by simp)).1
  have t11 : w9.cell? ⟨pR, 11, none⟩ = some (u9) := (hcf9 11 (by simp)).1
  have t12 : w9.cell? ⟨pR, 12, none⟩ = some (u10) := (hcf9 12 (by simp)).1
  have t13 : w9.cell? ⟨pR, 13, none⟩ = some (u11) := (hcf9 13 (by simp)).1
  have t14 : w9.cell? ⟨pR, 14, none⟩ = some (.slice (some ⟨gw, 0, none⟩) wn wn) := (hcf9 14 (by simp)).1
  have t15 : w9.cell? ⟨pR, 15, none⟩ = some (.slice (some ⟨gf, 0, none⟩) fn fn) := (hcf9 15 (by simp)).1
  have t16 : w9.cell? ⟨pR, 16, none⟩ = some (.string fg) := (hcf9 16 (by simp)).1
  have hk9 : ∀ q, q ≠ pR → q < V6.heap.size → w9.heap[q]? = V6.heap[q]? := fun q hq hl => hg9.block q hl (by simpa using hq)
  have B9 := B_10.grown hg9 B_10.size (fun q hq => by injection hq with hq; omega)
  have GP9 := GP_10.block (hk9 _ (by omega) GP_10.hi)
  have GW9 := GW_10.block (hk9 _ (by omega) GW_10.hi)
  have GF9 := GF_10.block (hk9 _ (by omega) GF_10.hi)
  have BP9 : Built w9 gp xp pn ts := fun j hj => by
    obtain ⟨e0, e1, er, b', n', e2, e3⟩ := BP_10 j hj
    exact ⟨e0, e1, er, b', n', e2, e3.block (hk9 _ (by have := e3.lo; omega) e3.hi)⟩
  have BW9 : BuiltWr w9 gw xw wn Ws := fun j hj => by
    obtain ⟨e0, e1, e2, e3, e4, e5, e6, e7, e8, e9, b', en, eo⟩ := BW_10 j hj
    exact ⟨e0, e1, e2, e3, e4, e5, e6, e7, e8, e9, b', en, eo.block (hk9 _ (by have := eo.lo; omega) eo.hi)⟩
  have BA9 := BA_10.blk hg9.size (fun q hq hl => hk9 q (by omega) hl)
  obtain ⟨hl1, hl2, hl3, hl4⟩ := HWx.out
  have HA : WAns w9 w.heap.size [.slice (some ⟨gp, 0, none⟩) pn pn, .string key, u0, u1, u2, u3, u4, u5, u6, u7, u8, u9, u10, u11, .slice (some ⟨gw, 0, none⟩) wn wn, .slice (some ⟨gf, 0, none⟩) fn fn, .string fg] pn ts key d wn Ws fn Fl fg := by
    refine ⟨gp, gw, gf, u0, u1, u2, u3, u4, u5, u6, u7, u8, u9, u10, u11, rfl, BP9.tasksAt GP9 hT.len hT.okn, BA9.v, BW9.at GW9 hl1 hl2 (fun j hj => ?_) hl3, PcAt.ofOwn GF9 HK.out, by omega, by omega, by omega⟩
    obtain ⟨_, _, _, _, _, hst⟩ := hl4 j hj
    exact hst.sz
  refine bodyPost_ret (v := .agg #[.slice (some ⟨gp, 0, none⟩) pn pn, .string key, u0, u1, u2, u3, u4, u5, u6, u7, u8, u9, u10, u11, .slice (some ⟨gw, 0, none⟩) wn wn, .slice (some ⟨gf, 0, none⟩) fn fn, .string fg]) (by simp [results, Tryz.results9, go_sem, t0, t1, t2, t3, t4, t5, t6, t7, t8, t9, t10, t11, t12, t13, t14, t15, t16]) rfl ⟨⟨_, rfl, HA⟩, B9⟩

end Go.Proofs.YthopfmhagddhgaaGreat
