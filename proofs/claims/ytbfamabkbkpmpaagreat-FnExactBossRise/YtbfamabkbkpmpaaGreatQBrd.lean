import Derived.Test.YtbfamabkbkpmpaaGreatQBon
namespace Go.Proofs.YtbfamabkbkpmpaaGreat
open Go.RowKit

theorem BD.dn {d : BD} {ts : List TaskD} (h : d.ok ts) (hu : d.up = false) : d = ⟨d.wk, false, d.now, 0, 0, 0, d.L1, [], [], [], [], []⟩ := by
  obtain ⟨wk, up, now, sn, ep, gv, L1, L2, R, J, S, O⟩ := d
  dsimp only at hu
  subst hu
  have hd := vB_dn h
  unfold isDown at hd
  dsimp only at hd
  obtain ⟨h1, rfl, rfl, rfl, h2, h3, h4, h5⟩ := hd
  have e1 := List.eq_nil_of_length_eq_zero (by omega : L2.length = 0)
  have e2 := List.eq_nil_of_length_eq_zero (by omega : R.length = 0)
  have e3 := List.eq_nil_of_length_eq_zero (by omega : J.length = 0)
  have e4 := List.eq_nil_of_length_eq_zero (by omega : S.length = 0)
  have e5 := List.eq_nil_of_length_eq_zero (by omega : O.length = 0)
  subst e1; subst e2; subst e3; subst e4; subst e5
  rfl
theorem step1_300 {ts : List TaskD} {st st' : St} {k e d : Int} {x : ByteArray} (he : e ≤ 300) (h : st.1 ≤ 300) (hs : step1 ts st (k, e, d, x) = some st') : st'.1 ≤ 300 := by
  unfold step1 at hs
  dsimp only at hs
  split at hs
  · split at hs
    · cases hs; exact he
    · cases hs
  · split at hs
    · cases hs; exact h
    · cases hs
theorem stepR_300 {ts : List TaskD} {st st' : St} {s : ByteArray} (h : st.1 ≤ 300) (hs : stepR ts st s = some st') : st'.1 ≤ 300 := by
  unfold stepR at hs
  cases he : evE s with
  | none => rw [he] at hs; cases hs
  | some q =>
    obtain ⟨k, e, d, x⟩ := q
    rw [he] at hs
    exact step1_300 (vE_rng (evE_good he).1).2.1 h hs
theorem rep_300 {ts : List TaskD} (l : List ByteArray) {st st' : St} (h : st.1 ≤ 300) (hs : rep ts l st = some st') : st'.1 ≤ 300 := by
  induction l generalizing st with
  | nil => cases hs; exact h
  | cons s l ih =>
    unfold rep at hs
    cases h1 : stepR ts st s with
    | none => rw [h1] at hs; cases hs
    | some st1 => rw [h1] at hs; exact ih (stepR_300 h h1) hs
/-- What the log of a coordinator that is down tells. -/
def told (d : BD) (ts : List TaskD) (E : Int) (R : List ByteArray) : Prop := rep ts d.L1 (st0 ts.length) = some (E, R) ∧ d.L1.length ≤ 310 ∧ 0 ≤ E ∧ E ≤ 300 ∧ R.length = ts.length ∧ (∀ s ∈ R, s.size ≤ 8) ∧ 1 ≤ ts.length ∧ ts.length ≤ 40 ∧ 1 ≤ d.wk ∧ d.wk ≤ 8
theorem code_len {ts : List TaskD} (h : Code ts 0) : 1 ≤ ts.length ∧ ts.length ≤ 40 := by
  rcases h with ⟨h, _⟩ | ⟨h, _⟩
  · cases h
  · omega
theorem BD.told {d : BD} {ts : List TaskD} (h : d.ok ts) (hu : d.up = false) : ∃ E R, told d ts E R := by
  have e := BD.dn h hu
  obtain ⟨⟨hc, hl⟩, hw, _, E, R, hr, _⟩ := h
  have e2 : d.L2 = [] := by rw [e]
  rw [e2, List.append_nil] at hr hl
  have h1 := rep_ok d.L1 (st0_ok ts.length) hr
  have h2 := rep_300 d.L1 (by simp [st0]) hr
  have h3 := code_len hc
  exact ⟨E, R, hr, hl, h1.1, h2, h1.2.2.1, h1.2.2.2, h3.1, h3.2, hw.1, hw.2⟩
def riseB (d : BD) (E : Int) (R : List ByteArray) (n : Nat) : BD := ⟨d.wk, true, d.now, 0, E + 1, 0, d.L1 ++ [entS 1 (E + 1) 0 ⟨#[]⟩], [], R, List.replicate n (0, 0, 0), List.replicate d.wk.toNat (false, 0), []⟩
def riseK (d : BD) (ts : List TaskD) (d' : BD) : Prop := (d.up = true ∧ d' = d) ∨ (d.up = false ∧ ∃ E R, told d ts E R ∧ (((310 ≤ d.L1.length ∨ 300 ≤ E) ∧ d' = d) ∨ ((d.L1.length < 310 ∧ E < 300) ∧ d' = riseB d E R ts.length)))
def riseR2 (d : BD) (ts : List TaskD) (d' : BD) : Prop := (d.ok ts ∧ riseK d ts d') ∨ (¬ d.ok ts ∧ d' = zBD)
theorem riseK.uniq {d : BD} {ts : List TaskD} {a b : BD} (h : riseK d ts a) (h' : riseK d ts b) : a = b := by
  rcases h with ⟨h, rfl⟩ | ⟨h, E, R, hr, hk⟩ <;> rcases h' with ⟨h', rfl⟩ | ⟨h', E', R', hr', hk'⟩
  · rfl
  · rw [h] at h'; cases h'
  · rw [h] at h'; cases h'
  · have e := hr.1.symm.trans hr'.1
    cases e
    rcases hk with ⟨hk, rfl⟩ | ⟨hk, rfl⟩ <;> rcases hk' with ⟨hk', rfl⟩ | ⟨hk', rfl⟩
    · rfl
    · omega
    · omega
    · rfl
theorem riseR2.uniq {d : BD} {ts : List TaskD} {a b : BD} (h : riseR2 d ts a) (h' : riseR2 d ts b) : a = b := by
  rcases h with ⟨h, hk⟩ | ⟨h, rfl⟩ <;> rcases h' with ⟨h', hk'⟩ | ⟨h', rfl⟩
  · exact hk.uniq hk'
  · exact absurd h h'
  · exact absurd h' h
  · rfl
theorem ent_small (k e d : Int) (x : ByteArray) (hx : x.size ≤ 8) : (entS k e d x).size ≤ maxLen := by
  have h : (entS k e d x).size = (entL k e d x).length := by simp [entS, ByteArray.size]
  rw [h, entL_length]
  unfold maxLen
  omega
theorem riseB_fits {d : BD} {ts : List TaskD} {E : Int} {R : List ByteArray} (ht : told d ts E R) (hf : d.fits) : (riseB d E R ts.length).fits := by
  refine ⟨fun s hs => ?_, fun s hs => absurd hs (by simp [riseB]), fun s hs => ?_, fun j hj => ?_, fun j hj => ?_, fun j hj => absurd hj (by simp [riseB])⟩
  · simp only [riseB, List.mem_append, List.mem_singleton] at hs
    rcases hs with hs | rfl
    · exact hf.s1 s hs
    · exact ent_small _ _ _ _ (by decide)
  · have := ht.2.2.2.2.2.1 s hs
    unfold maxLen
    omega
  · simp only [riseB, List.length_replicate] at hj
    simp [riseB, t3, List.getD, hj, I64]
  · simp only [riseB, List.length_replicate] at hj
    simp [riseB, t2, List.getD, hj, I64]
theorem riseR2.fits {d : BD} {ts : List TaskD} {a : BD} (h : riseR2 d ts a) (hf : d.fits) : a.fits := by
  rcases h with ⟨_, h⟩ | ⟨_, rfl⟩
  · rcases h with ⟨_, rfl⟩ | ⟨_, E, R, ht, h⟩
    · exact hf
    · rcases h with ⟨_, rfl⟩ | ⟨_, rfl⟩
      · exact hf
      · exact riseB_fits ht hf
  · exact ⟨fun s hs => absurd hs (by simp [zBD]), fun s hs => absurd hs (by simp [zBD]), fun s hs => absurd hs (by simp [zBD]), fun j hj => absurd hj (by simp [zBD]), fun j hj => absurd hj (by simp [zBD]), fun j hj => absurd hj (by simp [zBD])⟩
theorem riseB_small {d : BD} {ts : List TaskD} {E : Int} {R : List ByteArray} (ht : told d ts E R) : (riseB d E R ts.length).small := by
  obtain ⟨_, h1, _, _, h2, _, _, h3, _, h4⟩ := ht
  unfold BD.small
  simp only [riseB, List.length_append, List.length_cons, List.length_nil, List.length_replicate]
  omega
theorem riseR2.small {d : BD} {ts : List TaskD} {a : BD} (h : riseR2 d ts a) (hs : d.small) : a.small := by
  rcases h with ⟨_, h⟩ | ⟨_, rfl⟩
  · rcases h with ⟨_, rfl⟩ | ⟨_, E, R, ht, h⟩
    · exact hs
    · rcases h with ⟨_, rfl⟩ | ⟨_, rfl⟩
      · exact hs
      · exact riseB_small ht
  · simp [BD.small, zBD]
theorem vE_new {E : Int} (h0 : 0 ≤ E) (h1 : E < 300) : vE 1 (E + 1) 0 (⟨#[]⟩ : ByteArray).size := .inl ⟨rfl, by omega, by omega, rfl, rfl⟩
theorem IsEnt.new {E : Int} {r : ByteArray} (h : IsEnt 1 (E + 1) 0 ⟨#[]⟩ r) (h0 : 0 ≤ E) (h1 : E < 300) : r = entS 1 (E + 1) 0 ⟨#[]⟩ := by
  rcases h with ⟨_, h⟩ | ⟨h, _⟩
  · exact h
  · exact absurd (vE_new h0 h1) h
theorem made3 (n : Nat) : (madeCells (Value.agg #[.int .i64 0, .int .i64 0, .int .i64 0]).cells (n * 3)).toList = c3 (List.replicate n (0, 0, 0)) := by
  refine c3_of (by simp [madeCells]) (fun j hj => ?_)
  have hj' : j < n := by simpa using hj
  have e0 : j * 3 % 3 = 0 := by omega
  have e1 : (j * 3 + 1) % 3 = 1 := by omega
  have e2 : (j * 3 + 2) % 3 = 2 := by omega
  have l0 : j * 3 < n * 3 := by omega
  have l1 : j * 3 + 1 < n * 3 := by omega
  have l2 : j * 3 + 2 < n * 3 := by omega
  refine ⟨?_, ?_, ?_⟩ <;> simp [madeCells, t3, List.getD, Value.cells, hj', e1, e2, l0, l1, l2]
theorem made2 (n : Nat) : (madeCells (Value.agg #[.bool false, .int .i64 0]).cells (n * 2)).toList = c2 (List.replicate n (false, 0)) := by
  refine c2_of (by simp [madeCells]) (fun j hj => ?_)
  have hj' : j < n := by simpa using hj
  have e0 : j * 2 % 2 = 0 := by omega
  have e1 : (j * 2 + 1) % 2 = 1 := by omega
  have l0 : j * 2 < n * 2 := by omega
  have l1 : j * 2 + 1 < n * 2 := by omega
  refine ⟨?_, ?_⟩ <;> simp [madeCells, t2, List.getD, Value.cells, hj', e1, l0, l1]
theorem c3_snoc (J : List Tr) (x y z : Int) : c3 J ++ [.int .i64 x, .int .i64 y, .int .i64 z] = c3 (J ++ [(x, y, z)]) := by simp [c3]
theorem c2_snoc (J : List (Bool × Int)) (x : Bool) (y : Int) : c2 J ++ [.bool x, .int .i64 y] = c2 (J ++ [(x, y)]) := by simp [c2]
end Go.Proofs.YtbfamabkbkpmpaaGreat
