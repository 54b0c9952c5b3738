import Derived.Test.YtbfamabkbkpmpaaGreatQBon
namespace Go.Proofs.YtbfamabkbkpmpaaGreat
open Go.RowKit

theorem mks_sizesK (k n : Nat) (hk : k ≤ 1000000000) (hn : n ≤ 1048576) : ∀ s ∈ mks k n, s.size ≤ maxLen := by
  intro s hs
  obtain ⟨j, hj, rfl⟩ := List.mem_iff_getElem.1 hs
  rw [mks_length] at hj
  have := mks_get k hj
  simp only [List.getD, List.getElem?_eq_getElem (show j < (mks k n).length by rw [mks_length]; exact hj), Option.getD_some] at this
  rw [this]
  have hl := lp_length (k + j) (k + j) []
  show (109 :: lp (k + j) (k + j) []).toArray.size ≤ maxLen
  simp only [List.size_toArray, List.length_cons] at hl ⊢
  simp at hl
  unfold maxLen; omega
def mkB (d : BD) : BD := ⟨d.wk, d.up, d.now, d.sn, d.ep, d.gv, mks 1 d.L1.length, mks (1 + d.L1.length) d.L2.length, mks (1 + d.L1.length + d.L2.length) d.R.length, mk3 (1 + d.L1.length + d.L2.length + d.R.length) d.J.length, mk2 (1 + d.L1.length + d.L2.length + d.R.length + d.J.length * 3) d.S.length, mk3 (1 + d.L1.length + d.L2.length + d.R.length + d.J.length * 3 + d.S.length * 2) d.O.length⟩
def totB (d : BD) : Nat := 1 + d.L1.length + d.L2.length + d.R.length + d.J.length * 3 + d.S.length * 2 + d.O.length * 3
theorem mkB_fits {d : BD} (hs : d.small) : (mkB d).fits := by
  unfold BD.small at hs
  exact ⟨mks_sizesK _ _ (by omega) (by omega), mks_sizesK _ _ (by omega) (by omega), mks_sizesK _ _ (by omega) (by omega), mk3_ok _ _ (by omega) (by omega), mk2_ok _ _ (by omega) (by omega), mk3_ok _ _ (by omega) (by omega)⟩
theorem bvs_mkB (d : BD) (h : BH) : bvs (mkB d) h = bvs d h := by simp [bvs, mkB, mks_length, mk3_length, mk2_length]
theorem markBossO_any (d : BD) (h : BH) (B : Nat) (w : World) (hO : BossO w B d h) (hs : d.small) :
    Calls Tryz.prog 13 #[.agg (bvs d h).toArray, .int .i64 1] w fun e w' => e = .returned (.int .i64 (totB d : Nat)) ∧ BossO w' B (mkB d) h ∧ Grew (rowsB d h) w w' := by
  unfold BD.small at hs
  refine (markBoss_own d.wk d.up d.now d.sn d.ep d.gv h.a1 d.L1.length h.c1 _ h.a2 d.L2.length h.c2 _ h.ar d.R.length h.cr _ h.aj d.J.length h.cj _ h.az d.S.length h.cs _ h.ao d.O.length h.co _ 1 _ _ _ _ _ _ B w rfl rfl rfl rfl rfl rfl (by omega) (by omega) (by omega) (by omega) (by omega) (by omega) (by omega) (by omega) hO.o0 hO.o1 hO.o2 hO.o3 hO.o4 hO.o5 hO.dis).mono ?_
  rintro e w' ⟨rfl, ⟨q0, q1, q2, q3, q4, q5⟩, hg⟩
  have hd := hO.dis
  refine ⟨rfl, ⟨?_, ?_, ?_, ?_, ?_, ?_, ?_⟩, hg⟩
  · simp only [mkB, mks_length]; exact q0
  · simp only [mkB, mks_length]; exact q1
  · simp only [mkB, mks_length]; exact q2
  · simp only [mkB, mk3_length]; exact q3
  · simp only [mkB, mk2_length]; exact q4
  · simp only [mkB, mk3_length]; exact q5
  · simp only [mkB, mks_length, mk3_length, mk2_length]; exact hd
theorem heldBossO_any (d : BD) (h : BH) (B : Nat) (w : World) (hO : BossO w B (mkB d) h) (hs : d.small) :
    Calls Tryz.prog 15 #[.agg (bvs d h).toArray, .int .i64 1] w fun e w' => e = .returned (.int .i64 (totB d : Nat)) ∧ Below w.heap.size w w' := by
  obtain ⟨⟨b1, o1, h1⟩, ⟨b2, o2, h2⟩, ⟨b3, o3, h3⟩, ⟨b4, o4, h4⟩, ⟨b5, o5, h5⟩, ⟨b6, o6, h6⟩⟩ := hO.m (mkB_fits hs)
  unfold BD.small at hs
  simp only [mkB, mks_length, mk3_length, mk2_length] at h1 h2 h3 h4 h5 h6
  exact heldBoss_any d.wk d.up d.now d.sn d.ep d.gv h.a1 b1 o1 d.L1.length h.c1 h.a2 b2 o2 d.L2.length h.c2 h.ar b3 o3 d.R.length h.cr h.aj b4 o4 d.J.length h.cj h.az b5 o5 d.S.length h.cs h.ao b6 o6 d.O.length h.co 1 _ _ _ _ _ _ w rfl rfl rfl rfl rfl rfl (by omega) (by omega) (by omega) (by omega) (by omega) (by omega) (by omega) (by omega) h1 h2 h3 h4 h5 h6
theorem eqBossO_any (d : BD) (h h' : BH) (w : World) (hM : BossM w d h) (hM' : BossM w d h') :
    Calls Tryz.prog 11 #[.agg (bvs d h).toArray, .agg (bvs d h').toArray] w fun e w' => e = .returned (.bool true) ∧ Below w.heap.size w w' :=
  eqBossV_any d _ _ _ _ _ _ _ _ _ _ _ _ _ _ _ _ _ _ _ _ _ _ _ _ w ⟨h, rfl, hM⟩ ⟨h', rfl, hM'⟩
theorem szBossO_any (d : BD) (h : BH) (left : Int) (w : World) (hl0 : 0 ≤ left) (hl1 : left ≤ 1048576) (hM : BossM w d h) :
    Calls Tryz.prog 5 #[.agg (bvs d h).toArray, .int .i64 left] w fun e w' => (∃ r, e = .returned (.int .i64 r) ∧ (r = -1 ∨ 0 ≤ r ∧ r ≤ left ∧ d.small)) ∧ Below w.heap.size w w' :=
  szBossV_any d _ _ _ _ _ _ _ _ _ _ _ _ left w hl0 hl1 ⟨h, rfl, hM⟩
end Go.Proofs.YtbfamabkbkpmpaaGreat
