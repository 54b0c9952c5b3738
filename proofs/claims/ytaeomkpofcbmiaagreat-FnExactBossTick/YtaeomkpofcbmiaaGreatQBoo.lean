import Derived.Test.YtaeomkpofcbmiaaGreatQBfs
namespace Go.Proofs.YtaeomkpofcbmiaaGreat
open Go.RowKit

theorem OwnC.eq3 {B : Nat} {w : World} {g cap n : Nat} {xs : List Value} {J : List Tr} (h : OwnC B w 3 g 0 cap n xs) (hJ : T3At w (some ⟨g, 0, none⟩) g 0 n J) : xs = c3 J := by
  have hl := hJ.len
  refine c3_of (by rw [h.len, hl]) (fun j hj => ⟨?_, ?_, ?_⟩)
  · rw [← h.holds (j * 3) (by omega), Nat.zero_add]
    have := hJ.c0 j (by omega)
    rw [Nat.zero_add] at this
    exact this
  · rw [← h.holds (j * 3 + 1) (by omega), Nat.zero_add]
    have := hJ.c1 j (by omega)
    rw [Nat.zero_add] at this
    exact this
  · rw [← h.holds (j * 3 + 2) (by omega), Nat.zero_add]
    have := hJ.c2 j (by omega)
    rw [Nat.zero_add] at this
    exact this
theorem OwnC.eq2 {B : Nat} {w : World} {g cap n : Nat} {xs : List Value} {J : List (Bool × Int)} (h : OwnC B w 2 g 0 cap n xs) (hJ : T2At w (some ⟨g, 0, none⟩) g 0 n J) : xs = c2 J := by
  have hl := hJ.len
  refine c2_of (by rw [h.len, hl]) (fun j hj => ⟨?_, ?_⟩)
  · rw [← h.holds (j * 2) (by omega), Nat.zero_add]
    have := hJ.c0 j (by omega)
    rw [Nat.zero_add] at this
    exact this
  · rw [← h.holds (j * 2 + 1) (by omega), Nat.zero_add]
    have := hJ.c1 j (by omega)
    rw [Nat.zero_add] at this
    exact this
/-- What a coordinator's lists hold fits. -/
structure BD.fits (d : BD) : Prop where
  s1 : ∀ s ∈ d.L1, s.size ≤ maxLen
  s2 : ∀ s ∈ d.L2, s.size ≤ maxLen
  s3 : ∀ s ∈ d.R, s.size ≤ maxLen
  k3 : Ok3 d.J
  k2 : Ok2 d.S
  k4 : Ok3 d.O
theorem BossM.fits {w : World} {d : BD} {h : BH} (hM : BossM w d h) : d.fits := by
  obtain ⟨⟨b1, o1, h1⟩, ⟨b2, o2, h2⟩, ⟨b3, o3, h3⟩, ⟨b4, o4, h4⟩, ⟨b5, o5, h5⟩, ⟨b6, o6, h6⟩⟩ := hM
  exact ⟨h1.sz, h2.sz, h3.sz, h4.rng, h5.rng, h6.rng⟩
theorem BossO.m {w : World} {B : Nat} {d : BD} {h : BH} (hO : BossO w B d h) (hf : d.fits) : BossM w d h := by
  obtain ⟨b1, o1, h1, _⟩ := hO.o0.statB hf.s1
  obtain ⟨b2, o2, h2, _⟩ := hO.o1.statB hf.s2
  obtain ⟨b3, o3, h3, _⟩ := hO.o2.statB hf.s3
  obtain ⟨b4, o4, h4, _⟩ := hO.o3.t3At hf.k3
  obtain ⟨b5, o5, h5, _⟩ := hO.o4.t2At hf.k2
  obtain ⟨b6, o6, h6, _⟩ := hO.o5.t3At hf.k4
  exact ⟨⟨b1, o1, h1⟩, ⟨b2, o2, h2⟩, ⟨b3, o3, h3⟩, ⟨b4, o4, h4⟩, ⟨b5, o5, h5⟩, ⟨b6, o6, h6⟩⟩
/-- The blocks of a coordinator's lists. -/
def rowsB (d : BD) (h : BH) : List (Option Nat) := [(Value.slice h.a1 d.L1.length h.c1).ownBlock, (Value.slice h.a2 d.L2.length h.c2).ownBlock, (Value.slice h.ar d.R.length h.cr).ownBlock, (Value.slice h.aj d.J.length h.cj).ownBlock, (Value.slice h.az d.S.length h.cs).ownBlock, (Value.slice h.ao d.O.length h.co).ownBlock]
theorem BossO.lo {w : World} {B : Nat} {d : BD} {h : BH} (hO : BossO w B d h) : ∀ r ∈ rowsB d h, ∀ q, r = some q → B ≤ q ∧ q < w.heap.size := by
  intro r hr q hq
  simp only [rowsB, List.mem_cons, List.not_mem_nil, or_false] at hr
  rcases hr with rfl | rfl | rfl | rfl | rfl | rfl
  · exact ⟨hO.o0.row_lo q hq, hO.o0.row_hi q hq⟩
  · exact ⟨hO.o1.row_lo q hq, hO.o1.row_hi q hq⟩
  · exact ⟨hO.o2.row_lo q hq, hO.o2.row_hi q hq⟩
  · exact ⟨hO.o3.row_lo q hq, hO.o3.row_hi q hq⟩
  · exact ⟨hO.o4.row_lo q hq, hO.o4.row_hi q hq⟩
  · exact ⟨hO.o5.row_lo q hq, hO.o5.row_hi q hq⟩
theorem Own.blk {B : Nat} {w w' : World} {size : Nat} {v : Value} {n : Nat} {xs : List Value} (h : Own B w size v n xs) (hb : ∀ q, v.ownBlock = some q → w'.heap[q]? = w.heap[q]?) : Own B w' size v n xs := by
  rcases h with h | ⟨g, o, cap, rfl, hc⟩
  · exact .inl h
  · exact .inr ⟨g, o, cap, rfl, hc.block (hb g rfl)⟩
/-- Blocks that stay keep the coordinator. -/
theorem BossO.blk {w w' : World} {B : Nat} {d : BD} {h : BH} (hO : BossO w B d h) (hb : ∀ r ∈ rowsB d h, ∀ q, r = some q → w'.heap[q]? = w.heap[q]?) : BossO w' B d h :=
  ⟨hO.o0.blk (hb _ (by simp [rowsB])), hO.o1.blk (hb _ (by simp [rowsB])), hO.o2.blk (hb _ (by simp [rowsB])), hO.o3.blk (hb _ (by simp [rowsB])), hO.o4.blk (hb _ (by simp [rowsB])), hO.o5.blk (hb _ (by simp [rowsB])), hO.dis⟩
theorem BossO.below {w w' : World} {B : Nat} {d : BD} {h : BH} (hO : BossO w B d h) (hb : Below w.heap.size w w') : BossO w' B d h :=
  hO.blk (fun r hr q hq => hb.block q (hO.lo r hr q hq).2)
theorem BossO.mono {w : World} {B B' : Nat} {d : BD} {h : BH} (hO : BossO w B d h) (hB : B' ≤ B) : BossO w B' d h :=
  ⟨hO.o0.mono' hB, hO.o1.mono' hB, hO.o2.mono' hB, hO.o3.mono' hB, hO.o4.mono' hB, hO.o5.mono' hB, hO.dis⟩
theorem BossO.grew {w w' : World} {B : Nat} {d : BD} {h : BH} {rows : List (Option Nat)} (hO : BossO w B d h) (hg : Grew rows w w') (hd : ∀ r ∈ rows, ∀ q, r = some q → ∀ r' ∈ rowsB d h, r' ≠ some q) : BossO w' B d h :=
  hO.blk (fun r hr q hq => hg.2 q (hO.lo r hr q hq).2 (fun r' hr' e => hd r' hr' q e r hr hq))
theorem fallR2.uniq {d : BD} {ts : List TaskD} {keep : Int} {a b : BD} (h : fallR2 d ts keep a) (h' : fallR2 d ts keep b) : a = b := by
  rcases h with ⟨h, rfl⟩ | ⟨h, rfl⟩ <;> rcases h' with ⟨h', rfl⟩ | ⟨h', rfl⟩ <;> first | rfl | exact absurd h h' | exact absurd h' h
theorem fallR2.fits {d : BD} {ts : List TaskD} {keep : Int} {a : BD} (h : fallR2 d ts keep a) (hf : d.fits) : a.fits := by
  rcases h with ⟨_, rfl⟩ | ⟨_, rfl⟩
  · refine ⟨fun s hs => ?_, fun s hs => absurd hs (by simp [fallB]), fun s hs => absurd hs (by simp [fallB]), fun j hj => absurd hj (by simp [fallB]), fun j hj => absurd hj (by simp [fallB]), fun j hj => absurd hj (by simp [fallB])⟩
    simp only [fallB, List.mem_append] at hs
    rcases hs with hs | hs
    · exact hf.s1 s hs
    · exact hf.s2 s (List.mem_of_mem_take hs)
  · exact ⟨fun s hs => absurd hs (by simp [zBD]), fun s hs => absurd hs (by simp [zBD]), fun s hs => absurd hs (by simp [zBD]), fun j hj => absurd hj (by simp [zBD]), fun j hj => absurd hj (by simp [zBD]), fun j hj => absurd hj (by simp [zBD])⟩
theorem fallR2.small {d : BD} {ts : List TaskD} {keep : Int} {a : BD} (h : fallR2 d ts keep a) (hs : d.small) : a.small := by
  unfold BD.small at hs ⊢
  rcases h with ⟨_, rfl⟩ | ⟨_, rfl⟩
  · simp only [fallB, List.length_append, List.length_take, List.length_nil]; omega
  · simp [zBD]
/-- A copy of the law's coordinator, with its lists. -/
theorem toBossO_any (d : BD) (h : BH) (w : World) (hM : BossM w d h) (hs : d.small) :
    Calls Tryz.prog 7 #[.agg (bvs d h).toArray] w fun e w' => (∃ h' g2, e = .returned (.agg (bvs d h').toArray) ∧ BossO w' w.heap.size d h' ∧ h'.a2 = some ⟨g2, 0, none⟩ ∧ d.L2.length ≤ h'.c2) ∧ Below w.heap.size w w' := by
  unfold BD.small at hs
  obtain ⟨⟨b1, o1, h1⟩, ⟨b2, o2, h2⟩, ⟨b3, o3, h3⟩, ⟨b4, o4, h4⟩, ⟨b5, o5, h5⟩, ⟨b6, o6, h6⟩⟩ := hM
  refine (toBoss_any d.wk d.up d.now d.sn d.ep d.gv h.a1 h.a2 h.ar h.aj h.az h.ao d.L1.length h.c1 d.L2.length h.c2 d.R.length h.cr d.J.length h.cj d.S.length h.cs d.O.length h.co b1 o1 b2 o2 b3 o3 b4 o4 b5 o5 b6 o6 d.L1 d.L2 d.R d.J d.S d.O w h1 h2 h3 h4 h5 h6 (by omega) (by omega) (by omega) (by omega) (by omega) (by omega)).mono ?_
  rintro e w' ⟨⟨g1, g2, gr, gj, gs, go, xj, xs, xo, rfl, p1, p2, p3, ⟨p4, t4⟩, ⟨p5, t5⟩, ⟨p6, t6⟩, n1, n2, n3, n4, n5, n6⟩, hb⟩
  rw [p4.eq3 t4] at p4
  rw [p5.eq2 t5] at p5
  rw [p6.eq3 t6] at p6
  refine ⟨⟨⟨some ⟨g1, 0, none⟩, some ⟨g2, 0, none⟩, some ⟨gr, 0, none⟩, some ⟨gj, 0, none⟩, some ⟨gs, 0, none⟩, some ⟨go, 0, none⟩, d.L1.length, d.L2.length, d.R.length, d.J.length, d.S.length, d.O.length⟩, g2, rfl, ⟨.inr ⟨g1, 0, _, rfl, p1⟩, .inr ⟨g2, 0, _, rfl, p2⟩, .inr ⟨gr, 0, _, rfl, p3⟩, .inr ⟨gj, 0, _, rfl, p4⟩, .inr ⟨gs, 0, _, rfl, p5⟩, .inr ⟨go, 0, _, rfl, p6⟩, ?_⟩, rfl, Nat.le_refl _⟩, hb⟩
  simp only [List.pairwise_cons, List.mem_cons, List.not_mem_nil, or_false, forall_eq_or_imp, forall_eq, List.Pairwise.nil, and_true, false_implies, implies_true]
  have D : ∀ (x y n c n' c' : Nat), x ≠ y → Dj (Value.slice (some ⟨x, 0, none⟩) n c).ownBlock (Value.slice (some ⟨y, 0, none⟩) n' c').ownBlock := fun x y _ _ _ _ hxy => .inr (by simp [Value.ownBlock]; exact hxy)
  exact ⟨⟨D _ _ _ _ _ _ n1, D _ _ _ _ _ _ (by omega), D _ _ _ _ _ _ (by omega), D _ _ _ _ _ _ (by omega), D _ _ _ _ _ _ (by omega)⟩, ⟨D _ _ _ _ _ _ (by omega), D _ _ _ _ _ _ (by omega), D _ _ _ _ _ _ (by omega), D _ _ _ _ _ _ (by omega)⟩, ⟨D _ _ _ _ _ _ (by omega), D _ _ _ _ _ _ (by omega), D _ _ _ _ _ _ (by omega)⟩, ⟨D _ _ _ _ _ _ (by omega), D _ _ _ _ _ _ (by omega)⟩, D _ _ _ _ _ _ (by omega)⟩
end Go.Proofs.YtaeomkpofcbmiaaGreat

namespace Go.Proofs.YtaeomkpofcbmiaaGreat
open Go.RowKit

theorem mks_sizesK (k n : Nat) (hk : k ≤ 1000000000) (hn : n ≤ 1048576) : ∀ s ∈ mks k n, s.size ≤ maxLen := by
  intro s hs
  obtain ⟨j, hj, rfl⟩ := List.mem_iff_getElem.1 hs
  rw [mks_length] at hj
  have := mks_get k hj
  simp only [List.getD, List.getElem?_eq_getElem (show j < (mks k n).length by rw [mks_length]; exact hj), Option.getD_some] at this
  rw [this]
  have hl := lp_length (k + j) (k + j) []
  show (109 :: lp (k + j) (k + j) []).toArray.size ≤ maxLen
  simp only [List.size_toArray, List.length_cons] at hl ⊢
  simp at hl
  unfold maxLen; omega
def mkB (d : BD) : BD := ⟨d.wk, d.up, d.now, d.sn, d.ep, d.gv, mks 1 d.L1.length, mks (1 + d.L1.length) d.L2.length, mks (1 + d.L1.length + d.L2.length) d.R.length, mk3 (1 + d.L1.length + d.L2.length + d.R.length) d.J.length, mk2 (1 + d.L1.length + d.L2.length + d.R.length + d.J.length * 3) d.S.length, mk3 (1 + d.L1.length + d.L2.length + d.R.length + d.J.length * 3 + d.S.length * 2) d.O.length⟩
def totB (d : BD) : Nat := 1 + d.L1.length + d.L2.length + d.R.length + d.J.length * 3 + d.S.length * 2 + d.O.length * 3
theorem mkB_fits {d : BD} (hs : d.small) : (mkB d).fits := by
  unfold BD.small at hs
  exact ⟨mks_sizesK _ _ (by omega) (by omega), mks_sizesK _ _ (by omega) (by omega), mks_sizesK _ _ (by omega) (by omega), mk3_ok _ _ (by omega) (by omega), mk2_ok _ _ (by omega) (by omega), mk3_ok _ _ (by omega) (by omega)⟩
theorem bvs_mkB (d : BD) (h : BH) : bvs (mkB d) h = bvs d h := by simp [bvs, mkB, mks_length, mk3_length, mk2_length]
theorem markBossO_any (d : BD) (h : BH) (B : Nat) (w : World) (hO : BossO w B d h) (hs : d.small) :
    Calls Tryz.prog 13 #[.agg (bvs d h).toArray, .int .i64 1] w fun e w' => e = .returned (.int .i64 (totB d : Nat)) ∧ BossO w' B (mkB d) h ∧ Grew (rowsB d h) w w' := by
  unfold BD.small at hs
  refine (markBoss_own d.wk d.up d.now d.sn d.ep d.gv h.a1 d.L1.length h.c1 _ h.a2 d.L2.length h.c2 _ h.ar d.R.length h.cr _ h.aj d.J.length h.cj _ h.az d.S.length h.cs _ h.ao d.O.length h.co _ 1 _ _ _ _ _ _ B w rfl rfl rfl rfl rfl rfl (by omega) (by omega) (by omega) (by omega) (by omega) (by omega) (by omega) (by omega) hO.o0 hO.o1 hO.o2 hO.o3 hO.o4 hO.o5 hO.dis).mono ?_
  rintro e w' ⟨rfl, ⟨q0, q1, q2, q3, q4, q5⟩, hg⟩
  have hd := hO.dis
  refine ⟨rfl, ⟨?_, ?_, ?_, ?_, ?_, ?_, ?_⟩, hg⟩
  · simp only [mkB, mks_length]; exact q0
  · simp only [mkB, mks_length]; exact q1
  · simp only [mkB, mks_length]; exact q2
  · simp only [mkB, mk3_length]; exact q3
  · simp only [mkB, mk2_length]; exact q4
  · simp only [mkB, mk3_length]; exact q5
  · simp only [mkB, mks_length, mk3_length, mk2_length]; exact hd
theorem heldBossO_any (d : BD) (h : BH) (B : Nat) (w : World) (hO : BossO w B (mkB d) h) (hs : d.small) :
    Calls Tryz.prog 51 #[.agg (bvs d h).toArray, .int .i64 1] w fun e w' => e = .returned (.int .i64 (totB d : Nat)) ∧ Below w.heap.size w w' := by
  obtain ⟨⟨b1, o1, h1⟩, ⟨b2, o2, h2⟩, ⟨b3, o3, h3⟩, ⟨b4, o4, h4⟩, ⟨b5, o5, h5⟩, ⟨b6, o6, h6⟩⟩ := hO.m (mkB_fits hs)
  unfold BD.small at hs
  simp only [mkB, mks_length, mk3_length, mk2_length] at h1 h2 h3 h4 h5 h6
  exact heldBoss_any d.wk d.up d.now d.sn d.ep d.gv h.a1 b1 o1 d.L1.length h.c1 h.a2 b2 o2 d.L2.length h.c2 h.ar b3 o3 d.R.length h.cr h.aj b4 o4 d.J.length h.cj h.az b5 o5 d.S.length h.cs h.ao b6 o6 d.O.length h.co 1 _ _ _ _ _ _ w rfl rfl rfl rfl rfl rfl (by omega) (by omega) (by omega) (by omega) (by omega) (by omega) (by omega) (by omega) h1 h2 h3 h4 h5 h6
theorem eqBossO_any (d : BD) (h h' : BH) (w : World) (hM : BossM w d h) (hM' : BossM w d h') :
    Calls Tryz.prog 11 #[.agg (bvs d h).toArray, .agg (bvs d h').toArray] w fun e w' => e = .returned (.bool true) ∧ Below w.heap.size w w' :=
  eqBossV_any d _ _ _ _ _ _ _ _ _ _ _ _ _ _ _ _ _ _ _ _ _ _ _ _ w ⟨h, rfl, hM⟩ ⟨h', rfl, hM'⟩
theorem szBossO_any (d : BD) (h : BH) (left : Int) (w : World) (hl0 : 0 ≤ left) (hl1 : left ≤ 1048576) (hM : BossM w d h) :
    Calls Tryz.prog 4 #[.agg (bvs d h).toArray, .int .i64 left] w fun e w' => (∃ r, e = .returned (.int .i64 r) ∧ (r = -1 ∨ 0 ≤ r ∧ r ≤ left ∧ d.small)) ∧ Below w.heap.size w w' :=
  szBossV_any d _ _ _ _ _ _ _ _ _ _ _ _ left w hl0 hl1 ⟨h, rfl, hM⟩
end Go.Proofs.YtaeomkpofcbmiaaGreat

namespace Go.Proofs.YtaeomkpofcbmiaaGreat
open Go.RowKit

theorem BD.dn {d : BD} {ts : List TaskD} (h : d.ok ts) (hu : d.up = false) : d = ⟨d.wk, false, d.now, 0, 0, 0, d.L1, [], [], [], [], []⟩ := by
  obtain ⟨wk, up, now, sn, ep, gv, L1, L2, R, J, S, O⟩ := d
  dsimp only at hu
  subst hu
  have hd := vB_dn h
  unfold isDown at hd
  dsimp only at hd
  obtain ⟨h1, rfl, rfl, rfl, h2, h3, h4, h5⟩ := hd
  have e1 := List.eq_nil_of_length_eq_zero (by omega : L2.length = 0)
  have e2 := List.eq_nil_of_length_eq_zero (by omega : R.length = 0)
  have e3 := List.eq_nil_of_length_eq_zero (by omega : J.length = 0)
  have e4 := List.eq_nil_of_length_eq_zero (by omega : S.length = 0)
  have e5 := List.eq_nil_of_length_eq_zero (by omega : O.length = 0)
  subst e1; subst e2; subst e3; subst e4; subst e5
  rfl
theorem step1_300 {ts : List TaskD} {st st' : St} {k e d : Int} {x : ByteArray} (he : e ≤ 300) (h : st.1 ≤ 300) (hs : step1 ts st (k, e, d, x) = some st') : st'.1 ≤ 300 := by
  unfold step1 at hs
  dsimp only at hs
  split at hs
  · split at hs
    · cases hs; exact he
    · cases hs
  · split at hs
    · cases hs; exact h
    · cases hs
theorem stepR_300 {ts : List TaskD} {st st' : St} {s : ByteArray} (h : st.1 ≤ 300) (hs : stepR ts st s = some st') : st'.1 ≤ 300 := by
  unfold stepR at hs
  cases he : evE s with
  | none => rw [he] at hs; cases hs
  | some q =>
    obtain ⟨k, e, d, x⟩ := q
    rw [he] at hs
    exact step1_300 (vE_rng (evE_good he).1).2.1 h hs
theorem rep_300 {ts : List TaskD} (l : List ByteArray) {st st' : St} (h : st.1 ≤ 300) (hs : rep ts l st = some st') : st'.1 ≤ 300 := by
  induction l generalizing st with
  | nil => cases hs; exact h
  | cons s l ih =>
    unfold rep at hs
    cases h1 : stepR ts st s with
    | none => rw [h1] at hs; cases hs
    | some st1 => rw [h1] at hs; exact ih (stepR_300 h h1) hs
/-- What the log of a coordinator that is down tells. -/
def told (d : BD) (ts : List TaskD) (E : Int) (R : List ByteArray) : Prop := rep ts d.L1 (st0 ts.length) = some (E, R) ∧ d.L1.length ≤ 310 ∧ 0 ≤ E ∧ E ≤ 300 ∧ R.length = ts.length ∧ (∀ s ∈ R, s.size ≤ 8) ∧ 1 ≤ ts.length ∧ ts.length ≤ 40 ∧ 1 ≤ d.wk ∧ d.wk ≤ 8
theorem code_len {ts : List TaskD} (h : Code ts 0) : 1 ≤ ts.length ∧ ts.length ≤ 40 := by
  rcases h with ⟨h, _⟩ | ⟨h, _⟩
  · cases h
  · omega
theorem BD.told {d : BD} {ts : List TaskD} (h : d.ok ts) (hu : d.up = false) : ∃ E R, told d ts E R := by
  have e := BD.dn h hu
  obtain ⟨⟨hc, hl⟩, hw, _, E, R, hr, _⟩ := h
  have e2 : d.L2 = [] := by rw [e]
  rw [e2, List.append_nil] at hr hl
  have h1 := rep_ok d.L1 (st0_ok ts.length) hr
  have h2 := rep_300 d.L1 (by simp [st0]) hr
  have h3 := code_len hc
  exact ⟨E, R, hr, hl, h1.1, h2, h1.2.2.1, h1.2.2.2, h3.1, h3.2, hw.1, hw.2⟩
def riseB (d : BD) (E : Int) (R : List ByteArray) (n : Nat) : BD := ⟨d.wk, true, d.now, 0, E + 1, 0, d.L1 ++ [entS 1 (E + 1) 0 ⟨#[]⟩], [], R, List.replicate n (0, 0, 0), List.replicate d.wk.toNat (false, 0), []⟩
def riseK (d : BD) (ts : List TaskD) (d' : BD) : Prop := (d.up = true ∧ d' = d) ∨ (d.up = false ∧ ∃ E R, told d ts E R ∧ (((310 ≤ d.L1.length ∨ 300 ≤ E) ∧ d' = d) ∨ ((d.L1.length < 310 ∧ E < 300) ∧ d' = riseB d E R ts.length)))
def riseR2 (d : BD) (ts : List TaskD) (d' : BD) : Prop := (d.ok ts ∧ riseK d ts d') ∨ (¬ d.ok ts ∧ d' = zBD)
theorem riseK.uniq {d : BD} {ts : List TaskD} {a b : BD} (h : riseK d ts a) (h' : riseK d ts b) : a = b := by
  rcases h with ⟨h, rfl⟩ | ⟨h, E, R, hr, hk⟩ <;> rcases h' with ⟨h', rfl⟩ | ⟨h', E', R', hr', hk'⟩
  · rfl
  · rw [h] at h'; cases h'
  · rw [h] at h'; cases h'
  · have e := hr.1.symm.trans hr'.1
    cases e
    rcases hk with ⟨hk, rfl⟩ | ⟨hk, rfl⟩ <;> rcases hk' with ⟨hk', rfl⟩ | ⟨hk', rfl⟩
    · rfl
    · omega
    · omega
    · rfl
theorem riseR2.uniq {d : BD} {ts : List TaskD} {a b : BD} (h : riseR2 d ts a) (h' : riseR2 d ts b) : a = b := by
  rcases h with ⟨h, hk⟩ | ⟨h, rfl⟩ <;> rcases h' with ⟨h', hk'⟩ | ⟨h', rfl⟩
  · exact hk.uniq hk'
  · exact absurd h h'
  · exact absurd h' h
  · rfl
theorem ent_small (k e d : Int) (x : ByteArray) (hx : x.size ≤ 8) : (entS k e d x).size ≤ maxLen := by
  have h : (entS k e d x).size = (entL k e d x).length := by simp [entS, ByteArray.size]
  rw [h, entL_length]
  unfold maxLen
  omega
theorem riseB_fits {d : BD} {ts : List TaskD} {E : Int} {R : List ByteArray} (ht : told d ts E R) (hf : d.fits) : (riseB d E R ts.length).fits := by
  refine ⟨fun s hs => ?_, fun s hs => absurd hs (by simp [riseB]), fun s hs => ?_, fun j hj => ?_, fun j hj => ?_, fun j hj => absurd hj (by simp [riseB])⟩
  · simp only [riseB, List.mem_append, List.mem_singleton] at hs
    rcases hs with hs | rfl
    · exact hf.s1 s hs
    · exact ent_small _ _ _ _ (by decide)
  · have := ht.2.2.2.2.2.1 s hs
    unfold maxLen
    omega
  · simp only [riseB, List.length_replicate] at hj
    simp [riseB, t3, List.getD, hj, I64]
  · simp only [riseB, List.length_replicate] at hj
    simp [riseB, t2, List.getD, hj, I64]
theorem riseR2.fits {d : BD} {ts : List TaskD} {a : BD} (h : riseR2 d ts a) (hf : d.fits) : a.fits := by
  rcases h with ⟨_, h⟩ | ⟨_, rfl⟩
  · rcases h with ⟨_, rfl⟩ | ⟨_, E, R, ht, h⟩
    · exact hf
    · rcases h with ⟨_, rfl⟩ | ⟨_, rfl⟩
      · exact hf
      · exact riseB_fits ht hf
  · exact ⟨fun s hs => absurd hs (by simp [zBD]), fun s hs => absurd hs (by simp [zBD]), fun s hs => absurd hs (by simp [zBD]), fun j hj => absurd hj (by simp [zBD]), fun j hj => absurd hj (by simp [zBD]), fun j hj => absurd hj (by simp [zBD])⟩
theorem riseB_small {d : BD} {ts : List TaskD} {E : Int} {R : List ByteArray} (ht : told d ts E R) : (riseB d E R ts.length).small := by
  obtain ⟨_, h1, _, _, h2, _, _, h3, _, h4⟩ := ht
  unfold BD.small
  simp only [riseB, List.length_append, List.length_cons, List.length_nil, List.length_replicate]
  omega
theorem riseR2.small {d : BD} {ts : List TaskD} {a : BD} (h : riseR2 d ts a) (hs : d.small) : a.small := by
  rcases h with ⟨_, h⟩ | ⟨_, rfl⟩
  · rcases h with ⟨_, rfl⟩ | ⟨_, E, R, ht, h⟩
    · exact hs
    · rcases h with ⟨_, rfl⟩ | ⟨_, rfl⟩
      · exact hs
      · exact riseB_small ht
  · simp [BD.small, zBD]
theorem vE_new {E : Int} (h0 : 0 ≤ E) (h1 : E < 300) : vE 1 (E + 1) 0 (⟨#[]⟩ : ByteArray).size := .inl ⟨rfl, by omega, by omega, rfl, rfl⟩
theorem IsEnt.new {E : Int} {r : ByteArray} (h : IsEnt 1 (E + 1) 0 ⟨#[]⟩ r) (h0 : 0 ≤ E) (h1 : E < 300) : r = entS 1 (E + 1) 0 ⟨#[]⟩ := by
  rcases h with ⟨_, h⟩ | ⟨h, _⟩
  · exact h
  · exact absurd (vE_new h0 h1) h
theorem made3 (n : Nat) : (madeCells (Value.agg #[.int .i64 0, .int .i64 0, .int .i64 0]).cells (n * 3)).toList = c3 (List.replicate n (0, 0, 0)) := by
  refine c3_of (by simp [madeCells]) (fun j hj => ?_)
  have hj' : j < n := by simpa using hj
  have e0 : j * 3 % 3 = 0 := by omega
  have e1 : (j * 3 + 1) % 3 = 1 := by omega
  have e2 : (j * 3 + 2) % 3 = 2 := by omega
  have l0 : j * 3 < n * 3 := by omega
  have l1 : j * 3 + 1 < n * 3 := by omega
  have l2 : j * 3 + 2 < n * 3 := by omega
  refine ⟨?_, ?_, ?_⟩ <;> simp [madeCells, t3, List.getD, Value.cells, hj', e1, e2, l0, l1, l2]
theorem made2 (n : Nat) : (madeCells (Value.agg #[.bool false, .int .i64 0]).cells (n * 2)).toList = c2 (List.replicate n (false, 0)) := by
  refine c2_of (by simp [madeCells]) (fun j hj => ?_)
  have hj' : j < n := by simpa using hj
  have e0 : j * 2 % 2 = 0 := by omega
  have e1 : (j * 2 + 1) % 2 = 1 := by omega
  have l0 : j * 2 < n * 2 := by omega
  have l1 : j * 2 + 1 < n * 2 := by omega
  refine ⟨?_, ?_⟩ <;> simp [madeCells, t2, List.getD, Value.cells, hj', e1, l0, l1]
theorem c3_snoc (J : List Tr) (x y z : Int) : c3 J ++ [.int .i64 x, .int .i64 y, .int .i64 z] = c3 (J ++ [(x, y, z)]) := by simp [c3]
theorem c2_snoc (J : List (Bool × Int)) (x : Bool) (y : Int) : c2 J ++ [.bool x, .int .i64 y] = c2 (J ++ [(x, y)]) := by simp [c2]
end Go.Proofs.YtaeomkpofcbmiaaGreat
