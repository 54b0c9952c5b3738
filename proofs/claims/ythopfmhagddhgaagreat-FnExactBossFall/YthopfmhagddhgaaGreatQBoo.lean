import Derived.Test.YthopfmhagddhgaaGreatQBfs
namespace Go.Proofs.YthopfmhagddhgaaGreat
open Go.RowKit

theorem OwnC.eq3 {B : Nat} {w : World} {g cap n : Nat} {xs : List Value} {J : List Tr} (h : OwnC B w 3 g 0 cap n xs) (hJ : T3At w (some ⟨g, 0, none⟩) g 0 n J) : xs = c3 J := by
  have hl := hJ.len
  refine c3_of (by rw [h.len, hl]) (fun j hj => ⟨?_, ?_, ?_⟩)
  · rw [← h.holds (j * 3) (by omega), Nat.zero_add]
    have := hJ.c0 j (by omega)
    rw [Nat.zero_add] at this
    exact this
  · rw [← h.holds (j * 3 + 1) (by omega), Nat.zero_add]
    have := hJ.c1 j (by omega)
    rw [Nat.zero_add] at this
    exact this
  · rw [← h.holds (j * 3 + 2) (by omega), Nat.zero_add]
    have := hJ.c2 j (by omega)
    rw [Nat.zero_add] at this
    exact this
theorem OwnC.eq2 {B : Nat} {w : World} {g cap n : Nat} {xs : List Value} {J : List (Bool × Int)} (h : OwnC B w 2 g 0 cap n xs) (hJ : T2At w (some ⟨g, 0, none⟩) g 0 n J) : xs = c2 J := by
  have hl := hJ.len
  refine c2_of (by rw [h.len, hl]) (fun j hj => ⟨?_, ?_⟩)
  · rw [← h.holds (j * 2) (by omega), Nat.zero_add]
    have := hJ.c0 j (by omega)
    rw [Nat.zero_add] at this
    exact this
  · rw [← h.holds (j * 2 + 1) (by omega), Nat.zero_add]
    have := hJ.c1 j (by omega)
    rw [Nat.zero_add] at this
    exact this
/-- What a coordinator's lists hold fits. -/
structure BD.fits (d : BD) : Prop where
  s1 : ∀ s ∈ d.L1, s.size ≤ maxLen
  s2 : ∀ s ∈ d.L2, s.size ≤ maxLen
  s3 : ∀ s ∈ d.R, s.size ≤ maxLen
  k3 : Ok3 d.J
  k2 : Ok2 d.S
  k4 : Ok3 d.O
theorem BossM.fits {w : World} {d : BD} {h : BH} (hM : BossM w d h) : d.fits := by
  obtain ⟨⟨b1, o1, h1⟩, ⟨b2, o2, h2⟩, ⟨b3, o3, h3⟩, ⟨b4, o4, h4⟩, ⟨b5, o5, h5⟩, ⟨b6, o6, h6⟩⟩ := hM
  exact ⟨h1.sz, h2.sz, h3.sz, h4.rng, h5.rng, h6.rng⟩
theorem BossO.m {w : World} {B : Nat} {d : BD} {h : BH} (hO : BossO w B d h) (hf : d.fits) : BossM w d h := by
  obtain ⟨b1, o1, h1, _⟩ := hO.o0.statB hf.s1
  obtain ⟨b2, o2, h2, _⟩ := hO.o1.statB hf.s2
  obtain ⟨b3, o3, h3, _⟩ := hO.o2.statB hf.s3
  obtain ⟨b4, o4, h4, _⟩ := hO.o3.t3At hf.k3
  obtain ⟨b5, o5, h5, _⟩ := hO.o4.t2At hf.k2
  obtain ⟨b6, o6, h6, _⟩ := hO.o5.t3At hf.k4
  exact ⟨⟨b1, o1, h1⟩, ⟨b2, o2, h2⟩, ⟨b3, o3, h3⟩, ⟨b4, o4, h4⟩, ⟨b5, o5, h5⟩, ⟨b6, o6, h6⟩⟩
/-- The blocks of a coordinator's lists. -/
def rowsB (d : BD) (h : BH) : List (Option Nat) := [(Value.slice h.a1 d.L1.length h.c1).ownBlock, (Value.slice h.a2 d.L2.length h.c2).ownBlock, (Value.slice h.ar d.R.length h.cr).ownBlock, (Value.slice h.aj d.J.length h.cj).ownBlock, (Value.slice h.az d.S.length h.cs).ownBlock, (Value.slice h.ao d.O.length h.co).ownBlock]
theorem BossO.lo {w : World} {B : Nat} {d : BD} {h : BH} (hO : BossO w B d h) : ∀ r ∈ rowsB d h, ∀ q, r = some q → B ≤ q ∧ q < w.heap.size := by
  intro r hr q hq
  simp only [rowsB, List.mem_cons, List.not_mem_nil, or_false] at hr
  rcases hr with rfl | rfl | rfl | rfl | rfl | rfl
  · exact ⟨hO.o0.row_lo q hq, hO.o0.row_hi q hq⟩
  · exact ⟨hO.o1.row_lo q hq, hO.o1.row_hi q hq⟩
  · exact ⟨hO.o2.row_lo q hq, hO.o2.row_hi q hq⟩
  · exact ⟨hO.o3.row_lo q hq, hO.o3.row_hi q hq⟩
  · exact ⟨hO.o4.row_lo q hq, hO.o4.row_hi q hq⟩
  · exact ⟨hO.o5.row_lo q hq, hO.o5.row_hi q hq⟩
theorem Own.blk {B : Nat} {w w' : World} {size : Nat} {v : Value} {n : Nat} {xs : List Value} (h : Own B w size v n xs) (hb : ∀ q, v.ownBlock = some q → w'.heap[q]? = w.heap[q]?) : Own B w' size v n xs := by
  rcases h with h | ⟨g, o, cap, rfl, hc⟩
  · exact .inl h
  · exact .inr ⟨g, o, cap, rfl, hc.block (hb g rfl)⟩
/-- Blocks that stay keep the coordinator. -/
theorem BossO.blk {w w' : World} {B : Nat} {d : BD} {h : BH} (hO : BossO w B d h) (hb : ∀ r ∈ rowsB d h, ∀ q, r = some q → w'.heap[q]? = w.heap[q]?) : BossO w' B d h :=
  ⟨hO.o0.blk (hb _ (by simp [rowsB])), hO.o1.blk (hb _ (by simp [rowsB])), hO.o2.blk (hb _ (by simp [rowsB])), hO.o3.blk (hb _ (by simp [rowsB])), hO.o4.blk (hb _ (by simp [rowsB])), hO.o5.blk (hb _ (by simp [rowsB])), hO.dis⟩
theorem BossO.below {w w' : World} {B : Nat} {d : BD} {h : BH} (hO : BossO w B d h) (hb : Below w.heap.size w w') : BossO w' B d h :=
  hO.blk (fun r hr q hq => hb.block q (hO.lo r hr q hq).2)
theorem BossO.mono {w : World} {B B' : Nat} {d : BD} {h : BH} (hO : BossO w B d h) (hB : B' ≤ B) : BossO w B' d h :=
  ⟨hO.o0.mono' hB, hO.o1.mono' hB, hO.o2.mono' hB, hO.o3.mono' hB, hO.o4.mono' hB, hO.o5.mono' hB, hO.dis⟩
theorem BossO.grew {w w' : World} {B : Nat} {d : BD} {h : BH} {rows : List (Option Nat)} (hO : BossO w B d h) (hg : Grew rows w w') (hd : ∀ r ∈ rows, ∀ q, r = some q → ∀ r' ∈ rowsB d h, r' ≠ some q) : BossO w' B d h :=
  hO.blk (fun r hr q hq => hg.2 q (hO.lo r hr q hq).2 (fun r' hr' e => hd r' hr' q e r hr hq))
theorem fallR2.uniq {d : BD} {ts : List TaskD} {keep : Int} {a b : BD} (h : fallR2 d ts keep a) (h' : fallR2 d ts keep b) : a = b := by
  rcases h with ⟨h, rfl⟩ | ⟨h, rfl⟩ <;> rcases h' with ⟨h', rfl⟩ | ⟨h', rfl⟩ <;> first | rfl | exact absurd h h' | exact absurd h' h
theorem fallR2.fits {d : BD} {ts : List TaskD} {keep : Int} {a : BD} (h : fallR2 d ts keep a) (hf : d.fits) : a.fits := by
  rcases h with ⟨_, rfl⟩ | ⟨_, rfl⟩
  · refine ⟨fun s hs => ?_, fun s hs => absurd hs (by simp [fallB]), fun s hs => absurd hs (by simp [fallB]), fun j hj => absurd hj (by simp [fallB]), fun j hj => absurd hj (by simp [fallB]), fun j hj => absurd hj (by simp [fallB])⟩
    simp only [fallB, List.mem_append] at hs
    rcases hs with hs | hs
    · exact hf.s1 s hs
    · exact hf.s2 s (List.mem_of_mem_take hs)
  · exact ⟨fun s hs => absurd hs (by simp [zBD]), fun s hs => absurd hs (by simp [zBD]), fun s hs => absurd hs (by simp [zBD]), fun j hj => absurd hj (by simp [zBD]), fun j hj => absurd hj (by simp [zBD]), fun j hj => absurd hj (by simp [zBD])⟩
theorem fallR2.small {d : BD} {ts : List TaskD} {keep : Int} {a : BD} (h : fallR2 d ts keep a) (hs : d.small) : a.small := by
  unfold BD.small at hs ⊢
  rcases h with ⟨_, rfl⟩ | ⟨_, rfl⟩
  · simp only [fallB, List.length_append, List.length_take, List.length_nil]; omega
  · simp [zBD]
/-- A copy of the law's coordinator, with its lists. -/
theorem toBossO_any (d : BD) (h : BH) (w : World) (hM : BossM w d h) (hs : d.small) :
    Calls Tryz.prog 19 #[.agg (bvs d h).toArray] w fun e w' => (∃ h' g2, e = .returned (.agg (bvs d h').toArray) ∧ BossO w' w.heap.size d h' ∧ h'.a2 = some ⟨g2, 0, none⟩ ∧ d.L2.length ≤ h'.c2) ∧ Below w.heap.size w w' := by
  unfold BD.small at hs
  obtain ⟨⟨b1, o1, h1⟩, ⟨b2, o2, h2⟩, ⟨b3, o3, h3⟩, ⟨b4, o4, h4⟩, ⟨b5, o5, h5⟩, ⟨b6, o6, h6⟩⟩ := hM
  refine (toBoss_any d.wk d.up d.now d.sn d.ep d.gv h.a1 h.a2 h.ar h.aj h.az h.ao d.L1.length h.c1 d.L2.length h.c2 d.R.length h.cr d.J.length h.cj d.S.length h.cs d.O.length h.co b1 o1 b2 o2 b3 o3 b4 o4 b5 o5 b6 o6 d.L1 d.L2 d.R d.J d.S d.O w h1 h2 h3 h4 h5 h6 (by omega) (by omega) (by omega) (by omega) (by omega) (by omega)).mono ?_
  rintro e w' ⟨⟨g1, g2, gr, gj, gs, go, xj, xs, xo, rfl, p1, p2, p3, ⟨p4, t4⟩, ⟨p5, t5⟩, ⟨p6, t6⟩, n1, n2, n3, n4, n5, n6⟩, hb⟩
  rw [p4.eq3 t4] at p4
  rw [p5.eq2 t5] at p5
  rw [p6.eq3 t6] at p6
  refine ⟨⟨⟨some ⟨g1, 0, none⟩, some ⟨g2, 0, none⟩, some ⟨gr, 0, none⟩, some ⟨gj, 0, none⟩, some ⟨gs, 0, none⟩, some ⟨go, 0, none⟩, d.L1.length, d.L2.length, d.R.length, d.J.length, d.S.length, d.O.length⟩, g2, rfl, ⟨.inr ⟨g1, 0, _, rfl, p1⟩, .inr ⟨g2, 0, _, rfl, p2⟩, .inr ⟨gr, 0, _, rfl, p3⟩, .inr ⟨gj, 0, _, rfl, p4⟩, .inr ⟨gs, 0, _, rfl, p5⟩, .inr ⟨go, 0, _, rfl, p6⟩, ?_⟩, rfl, Nat.le_refl _⟩, hb⟩
  simp only [List.pairwise_cons, List.mem_cons, List.not_mem_nil, or_false, forall_eq_or_imp, forall_eq, List.Pairwise.nil, and_true, false_implies, implies_true]
  have D : ∀ (x y n c n' c' : Nat), x ≠ y → Dj (Value.slice (some ⟨x, 0, none⟩) n c).ownBlock (Value.slice (some ⟨y, 0, none⟩) n' c').ownBlock := fun x y _ _ _ _ hxy => .inr (by simp [Value.ownBlock]; exact hxy)
  exact ⟨⟨D _ _ _ _ _ _ n1, D _ _ _ _ _ _ (by omega), D _ _ _ _ _ _ (by omega), D _ _ _ _ _ _ (by omega), D _ _ _ _ _ _ (by omega)⟩, ⟨D _ _ _ _ _ _ (by omega), D _ _ _ _ _ _ (by omega), D _ _ _ _ _ _ (by omega), D _ _ _ _ _ _ (by omega)⟩, ⟨D _ _ _ _ _ _ (by omega), D _ _ _ _ _ _ (by omega), D _ _ _ _ _ _ (by omega)⟩, ⟨D _ _ _ _ _ _ (by omega), D _ _ _ _ _ _ (by omega)⟩, D _ _ _ _ _ _ (by omega)⟩
end Go.Proofs.YthopfmhagddhgaaGreat

namespace Go.Proofs.YthopfmhagddhgaaGreat
open Go.RowKit

theorem mks_sizesK (k n : Nat) (hk : k ≤ 1000000000) (hn : n ≤ 1048576) : ∀ s ∈ mks k n, s.size ≤ maxLen := by
  intro s hs
  obtain ⟨j, hj, rfl⟩ := List.mem_iff_getElem.1 hs
  rw [mks_length] at hj
  have := mks_get k hj
  simp only [List.getD, List.getElem?_eq_getElem (show j < (mks k n).length by rw [mks_length]; exact hj), Option.getD_some] at this
  rw [this]
  have hl := lp_length (k + j) (k + j) []
  show (109 :: lp (k + j) (k + j) []).toArray.size ≤ maxLen
  simp only [List.size_toArray, List.length_cons] at hl ⊢
  simp at hl
  unfold maxLen; omega
def mkB (d : BD) : BD := ⟨d.wk, d.up, d.now, d.sn, d.ep, d.gv, mks 1 d.L1.length, mks (1 + d.L1.length) d.L2.length, mks (1 + d.L1.length + d.L2.length) d.R.length, mk3 (1 + d.L1.length + d.L2.length + d.R.length) d.J.length, mk2 (1 + d.L1.length + d.L2.length + d.R.length + d.J.length * 3) d.S.length, mk3 (1 + d.L1.length + d.L2.length + d.R.length + d.J.length * 3 + d.S.length * 2) d.O.length⟩
def totB (d : BD) : Nat := 1 + d.L1.length + d.L2.length + d.R.length + d.J.length * 3 + d.S.length * 2 + d.O.length * 3
theorem mkB_fits {d : BD} (hs : d.small) : (mkB d).fits := by
  unfold BD.small at hs
  exact ⟨mks_sizesK _ _ (by omega) (by omega), mks_sizesK _ _ (by omega) (by omega), mks_sizesK _ _ (by omega) (by omega), mk3_ok _ _ (by omega) (by omega), mk2_ok _ _ (by omega) (by omega), mk3_ok _ _ (by omega) (by omega)⟩
theorem bvs_mkB (d : BD) (h : BH) : bvs (mkB d) h = bvs d h := by simp [bvs, mkB, mks_length, mk3_length, mk2_length]
theorem markBossO_any (d : BD) (h : BH) (B : Nat) (w : World) (hO : BossO w B d h) (hs : d.small) :
    Calls Tryz.prog 24 #[.agg (bvs d h).toArray, .int .i64 1] w fun e w' => e = .returned (.int .i64 (totB d : Nat)) ∧ BossO w' B (mkB d) h ∧ Grew (rowsB d h) w w' := by
  unfold BD.small at hs
  refine (markBoss_own d.wk d.up d.now d.sn d.ep d.gv h.a1 d.L1.length h.c1 _ h.a2 d.L2.length h.c2 _ h.ar d.R.length h.cr _ h.aj d.J.length h.cj _ h.az d.S.length h.cs _ h.ao d.O.length h.co _ 1 _ _ _ _ _ _ B w rfl rfl rfl rfl rfl rfl (by omega) (by omega) (by omega) (by omega) (by omega) (by omega) (by omega) (by omega) hO.o0 hO.o1 hO.o2 hO.o3 hO.o4 hO.o5 hO.dis).mono ?_
  rintro e w' ⟨rfl, ⟨q0, q1, q2, q3, q4, q5⟩, hg⟩
  have hd := hO.dis
  refine ⟨rfl, ⟨?_, ?_, ?_, ?_, ?_, ?_, ?_⟩, hg⟩
  · simp only [mkB, mks_length]; exact q0
  · simp only [mkB, mks_length]; exact q1
  · simp only [mkB, mks_length]; exact q2
  · simp only [mkB, mk3_length]; exact q3
  · simp only [mkB, mk2_length]; exact q4
  · simp only [mkB, mk3_length]; exact q5
  · simp only [mkB, mks_length, mk3_length, mk2_length]; exact hd
theorem heldBossO_any (d : BD) (h : BH) (B : Nat) (w : World) (hO : BossO w B (mkB d) h) (hs : d.small) :
    Calls Tryz.prog 26 #[.agg (bvs d h).toArray, .int .i64 1] w fun e w' => e = .returned (.int .i64 (totB d : Nat)) ∧ Below w.heap.size w w' := by
  obtain ⟨⟨b1, o1, h1⟩, ⟨b2, o2, h2⟩, ⟨b3, o3, h3⟩, ⟨b4, o4, h4⟩, ⟨b5, o5, h5⟩, ⟨b6, o6, h6⟩⟩ := hO.m (mkB_fits hs)
  unfold BD.small at hs
  simp only [mkB, mks_length, mk3_length, mk2_length] at h1 h2 h3 h4 h5 h6
  exact heldBoss_any d.wk d.up d.now d.sn d.ep d.gv h.a1 b1 o1 d.L1.length h.c1 h.a2 b2 o2 d.L2.length h.c2 h.ar b3 o3 d.R.length h.cr h.aj b4 o4 d.J.length h.cj h.az b5 o5 d.S.length h.cs h.ao b6 o6 d.O.length h.co 1 _ _ _ _ _ _ w rfl rfl rfl rfl rfl rfl (by omega) (by omega) (by omega) (by omega) (by omega) (by omega) (by omega) (by omega) h1 h2 h3 h4 h5 h6
theorem eqBossO_any (d : BD) (h h' : BH) (w : World) (hM : BossM w d h) (hM' : BossM w d h') :
    Calls Tryz.prog 22 #[.agg (bvs d h).toArray, .agg (bvs d h').toArray] w fun e w' => e = .returned (.bool true) ∧ Below w.heap.size w w' :=
  eqBossV_any d _ _ _ _ _ _ _ _ _ _ _ _ _ _ _ _ _ _ _ _ _ _ _ _ w ⟨h, rfl, hM⟩ ⟨h', rfl, hM'⟩
theorem szBossO_any (d : BD) (h : BH) (left : Int) (w : World) (hl0 : 0 ≤ left) (hl1 : left ≤ 1048576) (hM : BossM w d h) :
    Calls Tryz.prog 16 #[.agg (bvs d h).toArray, .int .i64 left] w fun e w' => (∃ r, e = .returned (.int .i64 r) ∧ (r = -1 ∨ 0 ≤ r ∧ r ≤ left ∧ d.small)) ∧ Below w.heap.size w w' :=
  szBossV_any d _ _ _ _ _ _ _ _ _ _ _ _ left w hl0 hl1 ⟨h, rfl, hM⟩
end Go.Proofs.YthopfmhagddhgaaGreat
