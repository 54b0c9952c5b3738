import Derived.Test.YtaeomkpofcbmiaaGreatQPow
import Derived.Test.YtaeomkpofcbmiaaGreatQRms
import Derived.Test.YtaeomkpofcbmiaaGreatQBoo
namespace Go.Proofs.YtaeomkpofcbmiaaGreat
open Go.RowKit

theorem flat8 (f : Nat → List Value) (hf : ∀ j, (f j).length = 8) (n : Nat) : ((List.range n).flatMap f).length = n * 8 := by
  induction n with
  | zero => rfl
  | succ n ih => rw [List.range_succ, List.flatMap_append, List.length_append, ih]; simp [hf]; omega
theorem flat8_get (f : Nat → List Value) (hf : ∀ j, (f j).length = 8) (n j r : Nat) (hj : j < n) (hr : r < 8) : ((List.range n).flatMap f)[j * 8 + r]? = (f j)[r]? := by
  induction n with
  | zero => omega
  | succ n ih =>
    rw [List.range_succ, List.flatMap_append]
    have hl := flat8 f hf n
    by_cases h : j < n
    · rw [List.getElem?_append_left (by omega)]; exact ih h
    · obtain rfl : j = n := by omega
      rw [List.getElem?_append_right (by omega), hl, show j * 8 + r - j * 8 = r by omega]
      simp
/-- The cells of a row of messages with these lists. -/
def mcell (m : MgD) (v : Value) : List Value := [.int .i64 m.kd, .int .i64 m.fm, .int .i64 m.tw, .int .i64 m.ep, .int .i64 m.le, .int .i64 m.ta, .string m.x, v]
def rowM (ts : List MgD) (vs : List Value) : List Value := (List.range ts.length).flatMap fun j => mcell (ts.getD j dMgD) (vs.getD j nilV)
theorem rowM_length (ts : List MgD) (vs : List Value) : (rowM ts vs).length = ts.length * 8 := flat8 _ (fun _ => rfl) _
theorem rowM_get (ts : List MgD) (vs : List Value) (j r : Nat) (hj : j < ts.length) (hr : r < 8) : (rowM ts vs)[j * 8 + r]? = (mcell (ts.getD j dMgD) (vs.getD j nilV))[r]? := flat8_get _ (fun _ => rfl) _ j r hj hr
theorem ext8 {xs ys : List Value} {n : Nat} (hx : xs.length = n * 8) (hy : ys.length = n * 8) (h : ∀ j r, j < n → r < 8 → xs[j * 8 + r]? = ys[j * 8 + r]?) : xs = ys := by
  refine List.ext_getElem? fun i => ?_
  by_cases hi : i < n * 8
  · have := h (i / 8) (i % 8) (by omega) (by omega)
    rwa [show i / 8 * 8 + i % 8 = i by omega] at this
  · rw [List.getElem?_eq_none (by omega), List.getElem?_eq_none (by omega)]
theorem rowM_snoc (ts : List MgD) (vs : List Value) (t : MgD) (v : Value) (hl : vs.length = ts.length) : rowM (ts ++ [t]) (vs ++ [v]) = rowM ts vs ++ mcell t v := by
  refine ext8 (n := ts.length + 1) (by simp [rowM_length]) (by simp [rowM_length, mcell]; omega) fun j r hj hr => ?_
  rw [rowM_get _ _ _ _ (by simp; omega) hr]
  by_cases e : j < ts.length
  · rw [List.getElem?_append_left (by rw [rowM_length]; omega), rowM_get _ _ _ _ e hr]
    simp [List.getD, List.getElem?_append_left e, List.getElem?_append_left (show j < vs.length by omega)]
  · obtain rfl : j = ts.length := by omega
    rw [List.getElem?_append_right (by rw [rowM_length]; omega), rowM_length, show ts.length * 8 + r - ts.length * 8 = r by omega]
    have g3 : (ts ++ [t]).getD ts.length dMgD = t := by simp [List.getD]
    have g4 : (vs ++ [v]).getD ts.length nilV = v := by rw [← hl]; simp [List.getD]
    rw [g3, g4]
/-- A list of messages of a call's own. -/
structure MsO (w : World) (B : Nat) (v : Value) (ts : List MgD) (vs : List Value) : Prop where
  len : vs.length = ts.length
  row : Own B w 8 v ts.length (rowM ts vs)
  dep : ∀ j, j < ts.length → Own B w 1 (vs.getD j nilV) (ts.getD j dMgD).ss.length ((ts.getD j dMgD).ss.map Value.string)
  dr : ∀ j, j < ts.length → Dn (vs.getD j nilV).ownBlock v.ownBlock
  dd : ∀ i j, i < j → j < ts.length → Dn (vs.getD i nilV).ownBlock (vs.getD j nilV).ownBlock
theorem MsO.nil (w : World) (B : Nat) : MsO w B nilV [] [] := ⟨rfl, Own.nil _ _ _, fun j hj => absurd hj (by simp), fun j hj => absurd hj (by simp), fun i j _ hj => absurd hj (by simp)⟩
/-- Blocks that stay keep the list. -/
theorem MsO.blk {w w' : World} {B : Nat} {v : Value} {ts : List MgD} {vs : List Value} (h : MsO w B v ts vs) (hb : ∀ q, B ≤ q → q < w.heap.size → w'.heap[q]? = w.heap[q]?) : MsO w' B v ts vs :=
  ⟨h.len, h.row.blkP (fun q hq => hb q (h.row.row_lo q hq) (h.row.row_hi q hq)), fun j hj => (h.dep j hj).blkP (fun q hq => hb q ((h.dep j hj).row_lo q hq) ((h.dep j hj).row_hi q hq)), h.dr, h.dd⟩
theorem MsO.below {w w' : World} {B : Nat} {v : Value} {ts : List MgD} {vs : List Value} (h : MsO w B v ts vs) (hb : Below w.heap.size w w') : MsO w' B v ts vs := h.blk (fun q _ hq => hb.block q hq)
theorem MsO.grown {w w' : World} {B : Nat} {v : Value} {ts : List MgD} {vs : List Value} {row : Option Nat} (h : MsO w B v ts vs) (hg : w.grownBy w' row) (h1 : Dn v.ownBlock row) (h2 : ∀ j, j < ts.length → Dn (vs.getD j nilV).ownBlock row) : MsO w' B v ts vs :=
  ⟨h.len, h.row.grown hg h1, fun j hj => (h.dep j hj).grown hg (h2 j hj), h.dr, h.dd⟩
theorem MsO.mono {w : World} {B B' : Nat} {v : Value} {ts : List MgD} {vs : List Value} (h : MsO w B v ts vs) (hB : B' ≤ B) : MsO w B' v ts vs :=
  ⟨h.len, h.row.mono' hB, fun j hj => (h.dep j hj).mono' hB, h.dr, h.dd⟩
/-- One more message: the row has grown, its list is new. -/
theorem MsO.snoc {w : World} {B : Nat} {v' : Value} {ts : List MgD} {vs : List Value} {t : MgD} {u : Value} (hl : vs.length = ts.length) (hdep : ∀ j, j < ts.length → Own B w 1 (vs.getD j nilV) (ts.getD j dMgD).ss.length ((ts.getD j dMgD).ss.map Value.string)) (hdd : ∀ i j, i < j → j < ts.length → Dn (vs.getD i nilV).ownBlock (vs.getD j nilV).ownBlock)
    (hrow : Own B w 8 v' (ts.length + 1) (rowM ts vs ++ mcell t u)) (hu : Own B w 1 u t.ss.length (t.ss.map Value.string))
    (h1 : ∀ j, j < ts.length → Dn (vs.getD j nilV).ownBlock v'.ownBlock) (h2 : Dn u.ownBlock v'.ownBlock) (h3 : ∀ j, j < ts.length → Dn (vs.getD j nilV).ownBlock u.ownBlock) : MsO w B v' (ts ++ [t]) (vs ++ [u]) := by
  have g1 : ∀ j, j < ts.length → (ts ++ [t]).getD j dMgD = ts.getD j dMgD := fun j hj => by simp [List.getD, List.getElem?_append_left hj]
  have g2 : ∀ j, j < ts.length → (vs ++ [u]).getD j nilV = vs.getD j nilV := fun j hj => by simp [List.getD, List.getElem?_append_left (show j < vs.length by rw [hl]; exact hj)]
  have g3 : (ts ++ [t]).getD ts.length dMgD = t := by simp [List.getD]
  have g4 : (vs ++ [u]).getD ts.length nilV = u := by rw [← hl]; simp [List.getD]
  refine ⟨by simp [hl], ?_, fun j hj => ?_, fun j hj => ?_, fun i j hij hj => ?_⟩
  · rw [rowM_snoc _ _ _ _ hl, List.length_append, List.length_singleton]; exact hrow
  · rw [List.length_append, List.length_singleton] at hj
    by_cases e : j < ts.length
    · rw [g1 j e, g2 j e]; exact hdep j e
    · obtain rfl : j = ts.length := by omega
      rw [g3, g4]; exact hu
  · rw [List.length_append, List.length_singleton] at hj
    by_cases e : j < ts.length
    · rw [g2 j e]; exact h1 j e
    · obtain rfl : j = ts.length := by omega
      rw [g4]; exact h2
  · rw [List.length_append, List.length_singleton] at hj
    by_cases e : j < ts.length
    · rw [g2 j e, g2 i (by omega)]; exact hdd i j hij e
    · obtain rfl : j = ts.length := by omega
      rw [g4, g2 i (by omega)]; exact h3 i hij
/-- What the messages hold fits. -/
def fitM (M : List MgD) : Prop := ∀ j, j < M.length → (gMs M j).x.size ≤ maxLen ∧ (I64 (gMs M j).kd ∧ I64 (gMs M j).fm ∧ I64 (gMs M j).tw ∧ I64 (gMs M j).ep ∧ I64 (gMs M j).le ∧ I64 (gMs M j).ta) ∧ ∀ s ∈ (gMs M j).ss, s.size ≤ maxLen
theorem Own.strM {B : Nat} {w : World} {v : Value} {ss : List ByteArray} (h : Own B w 1 v ss.length (ss.map Value.string)) (hz : ∀ s ∈ ss, s.size ≤ maxLen) : ∃ a b o c, v = .slice a ss.length c ∧ StrsAt w a b o ss.length ss := by
  rcases h with ⟨rfl, hn, hx⟩ | ⟨g, o, cap, rfl, hc⟩
  · have : ss = [] := by simpa using hx
    subst this
    exact ⟨none, 0, 0, 0, rfl, fun h => absurd h (by simp), rfl, Nat.zero_le _, fun h => absurd h (by simp), fun j hj => absurd hj (by simp), by simp⟩
  · exact ⟨_, g, o, cap, rfl, StrsAt.ofOwn hc hz⟩
theorem MsO.at {w : World} {B : Nat} {v : Value} {M : List MgD} {vs : List Value} (h : MsO w B v M vs) (hf : fitM M) (hm : M.length ≤ maxLen) : ∃ a b o c, v = .slice a M.length c ∧ MsAt w a b o M.length M := by
  have hrow := h.row
  rcases hrow with ⟨hv, hn, _⟩ | ⟨g, o, cap, hv, hc⟩
  · have : M = [] := List.length_eq_zero_iff.1 hn
    subst this
    exact ⟨none, 0, 0, 0, hv, fun h => absurd h (by simp), rfl, hm, fun h => absurd h (by simp), fun j hj => absurd hj (by simp), fun j hj => absurd hj (by simp), fun j hj => absurd hj (by simp), fun j hj => absurd hj (by simp), fun j hj => absurd hj (by simp), fun j hj => absurd hj (by simp), fun j hj => absurd hj (by simp), fun j hj => absurd hj (by simp), fun j hj => absurd hj (by simp), fun j hj => absurd hj (by simp)⟩
  · have hol : ∀ j r, j < M.length → r < 8 → w.cell? ⟨g, o + (j * 8 + r), none⟩ = (mcell (gMs M j) (vs.getD j nilV))[r]? := fun j r hj hr => by
      rw [hc.holds (j * 8 + r) (by omega)]; exact rowM_get M vs j r hj hr
    refine ⟨_, g, o, cap, hv, fun _ => rfl, rfl, hm, fun _ => hc.hi, fun j hj => hol j 0 hj (by omega), fun j hj => ?_, fun j hj => ?_, fun j hj => ?_, fun j hj => ?_, fun j hj => ?_, fun j hj => ?_, fun j hj => ?_, fun j hj => (hf j hj).1, fun j hj => (hf j hj).2.1⟩
    · rw [Nat.add_assoc]; exact hol j 1 hj (by omega)
    · rw [Nat.add_assoc]; exact hol j 2 hj (by omega)
    · rw [Nat.add_assoc]; exact hol j 3 hj (by omega)
    · rw [Nat.add_assoc]; exact hol j 4 hj (by omega)
    · rw [Nat.add_assoc]; exact hol j 5 hj (by omega)
    · rw [Nat.add_assoc]; exact hol j 6 hj (by omega)
    · obtain ⟨a', b', o', c', he, hi⟩ := (h.dep j hj).strM (hf j hj).2.2
      refine ⟨a', b', o', c', ?_, hi⟩
      rw [Nat.add_assoc, hol j 7 hj (by omega), he]; rfl
end Go.Proofs.YtaeomkpofcbmiaaGreat

namespace Go.Proofs.YtaeomkpofcbmiaaGreat
open Go.RowKit

/-- While tasks are handed out: leases given, jobs, seats, what is sent. -/
structure HSt where
  gv : Int
  J : List Tr
  S : List (Bool × Int)
  M : List MgD
/-- The first free seat. -/
def ffr (S : List (Bool × Int)) : Option Nat := S.findIdx? (fun s => s.1)
theorem ffr_some {S : List (Bool × Int)} {k : Nat} (hk : k < S.length) (h1 : (S.getD k (false, 0)).1 = true) (h0 : ∀ j, j < k → (S.getD j (false, 0)).1 = false) : ffr S = some k := by
  unfold ffr
  rw [List.findIdx?_eq_some_iff_getElem]
  refine ⟨hk, ?_, fun j hj => ?_⟩
  · simpa [List.getD, List.getElem?_eq_getElem hk] using h1
  · have := h0 j hj
    simpa [List.getD, List.getElem?_eq_getElem (show j < S.length by omega)] using this
theorem ffr_none {S : List (Bool × Int)} (h0 : ∀ j, j < S.length → (S.getD j (false, 0)).1 = false) : ffr S = none := by
  unfold ffr
  rw [List.findIdx?_eq_none_iff]
  intro x hx
  obtain ⟨j, hj, rfl⟩ := List.mem_iff_getElem.1 hx
  have := h0 j hj
  simpa [List.getD, List.getElem?_eq_getElem hj] using this
theorem ffr_lt {S : List (Bool × Int)} {k : Nat} (h : ffr S = some k) : k < S.length := by
  unfold ffr at h
  rw [List.findIdx?_eq_some_iff_getElem] at h
  exact h.1
/-- What a task's inputs are. -/
def insOf (R : List ByteArray) (ds : List Int) : List ByteArray := ds.map fun x => rs R x.toNat
def leaseI (ep gv : Int) : Int := (ep - 1) * 1000000 + gv
open Classical in
/-- Task i is handed out, if it can be. -/
noncomputable def handS (ep now : Int) (R : List ByteArray) (ts : List TaskD) (st : HSt) (i : Nat) : HSt :=
  match ffr st.S with
  | none => st
  | some k =>
    if st.gv < 1000000 ∧ dueOk ts R i ∧ (t3 st.J i).1 = 0 then
      ⟨st.gv + 1, st.J.set i (leaseI ep (st.gv + 1), (k : Int) + 1, now + 12), st.S.set k (false, (st.S.getD k (false, 0)).2),
       st.M ++ [⟨1, 0, (k : Int) + 1, ep, leaseI ep (st.gv + 1), i, ⟨#[]⟩, insOf R (ts.getD i dT).deps⟩]⟩
    else st
theorem handS_none {ep now : Int} {R : List ByteArray} {ts : List TaskD} {st : HSt} {i : Nat} (h : ffr st.S = none) : handS ep now R ts st i = st := by
  unfold handS; rw [h]
theorem handS_not {ep now : Int} {R : List ByteArray} {ts : List TaskD} {st : HSt} {i : Nat} (h : ¬ (st.gv < 1000000 ∧ dueOk ts R i ∧ (t3 st.J i).1 = 0)) : handS ep now R ts st i = st := by
  unfold handS
  cases ffr st.S with
  | none => rfl
  | some k => simp only; rw [if_neg h]
theorem handS_yes {ep now : Int} {R : List ByteArray} {ts : List TaskD} {st : HSt} {i k : Nat} (hk : ffr st.S = some k) (h : st.gv < 1000000 ∧ dueOk ts R i ∧ (t3 st.J i).1 = 0) : handS ep now R ts st i =
      ⟨st.gv + 1, st.J.set i (leaseI ep (st.gv + 1), (k : Int) + 1, now + 12), st.S.set k (false, (st.S.getD k (false, 0)).2),
       st.M ++ [⟨1, 0, (k : Int) + 1, ep, leaseI ep (st.gv + 1), i, ⟨#[]⟩, insOf R (ts.getD i dT).deps⟩]⟩ := by
  unfold handS; rw [hk]; simp only; rw [if_pos h]
/-- The first n tasks are gone through. -/
noncomputable def handN (ep now : Int) (R : List ByteArray) (ts : List TaskD) (st : HSt) : Nat → HSt
  | 0 => st
  | n + 1 => handS ep now R ts (handN ep now R ts st n) n
theorem handN_stuck {ep now : Int} {R : List ByteArray} {ts : List TaskD} {st : HSt} {n : Nat} (h : ffr (handN ep now R ts st n).S = none ∨ ¬ (handN ep now R ts st n).gv < 1000000) (m : Nat) : handN ep now R ts st (n + m) = handN ep now R ts st n := by
  induction m with
  | zero => rfl
  | succ m ih =>
    show handS ep now R ts (handN ep now R ts st (n + m)) (n + m) = _
    rw [ih]
    rcases h with h | h
    · exact handS_none h
    · exact handS_not (fun hh => h hh.1)
theorem handS_lenJ (ep now : Int) (R : List ByteArray) (ts : List TaskD) (st : HSt) (i : Nat) : (handS ep now R ts st i).J.length = st.J.length ∧ (handS ep now R ts st i).S.length = st.S.length := by
  unfold handS
  cases ffr st.S with
  | none => exact ⟨rfl, rfl⟩
  | some k =>
    simp only
    split
    · simp
    · exact ⟨rfl, rfl⟩
theorem handN_len (ep now : Int) (R : List ByteArray) (ts : List TaskD) (st : HSt) (n : Nat) : (handN ep now R ts st n).J.length = st.J.length ∧ (handN ep now R ts st n).S.length = st.S.length := by
  induction n with
  | zero => exact ⟨rfl, rfl⟩
  | succ n ih =>
    have := handS_lenJ ep now R ts (handN ep now R ts st n) n
    exact ⟨this.1.trans ih.1, this.2.trans ih.2⟩
/-- Leases that end. -/
def endJ (now : Int) (j : Tr) : Tr := if j.1 ≠ 0 ∧ j.2.2 ≤ now then (0, 0, 0) else j
def thx (ep : Int) (o : Tr) : MgD := ⟨4, 0, o.1, ep, o.2.1, 0, ⟨#[]⟩, []⟩
/-- What a tick gives. -/
noncomputable def tickB (d : BD) (ts : List TaskD) : BD × List MgD :=
  if ¬ d.now < 1000000 then (d, [])
  else if d.up = false then (⟨d.wk, d.up, d.now + 1, d.sn, d.ep, d.gv, d.L1, d.L2, d.R, d.J, d.S, d.O⟩, [])
  else
    if d.sn + 1 < 2 then
      (⟨d.wk, d.up, d.now + 1, d.sn + 1, d.ep, (handN d.ep (d.now + 1) d.R ts ⟨d.gv, d.J.map (endJ (d.now + 1)), d.S, []⟩ ts.length).gv, d.L1, d.L2, d.R, (handN d.ep (d.now + 1) d.R ts ⟨d.gv, d.J.map (endJ (d.now + 1)), d.S, []⟩ ts.length).J, (handN d.ep (d.now + 1) d.R ts ⟨d.gv, d.J.map (endJ (d.now + 1)), d.S, []⟩ ts.length).S, d.O⟩,
       (handN d.ep (d.now + 1) d.R ts ⟨d.gv, d.J.map (endJ (d.now + 1)), d.S, []⟩ ts.length).M)
    else
      (⟨d.wk, d.up, d.now + 1, 0, d.ep, (handN d.ep (d.now + 1) d.R ts ⟨d.gv, d.J.map (endJ (d.now + 1)), d.S, []⟩ ts.length).gv, d.L1 ++ d.L2, [], d.R, (handN d.ep (d.now + 1) d.R ts ⟨d.gv, d.J.map (endJ (d.now + 1)), d.S, []⟩ ts.length).J, (handN d.ep (d.now + 1) d.R ts ⟨d.gv, d.J.map (endJ (d.now + 1)), d.S, []⟩ ts.length).S, []⟩,
       (handN d.ep (d.now + 1) d.R ts ⟨d.gv, d.J.map (endJ (d.now + 1)), d.S, []⟩ ts.length).M ++ d.O.map (thx d.ep))
def tickBR (d : BD) (ts : List TaskD) (r : BD × List MgD) : Prop := d.ok ts ∧ r = tickB d ts ∨ ¬ d.ok ts ∧ r = (zBD, [])
theorem tickBR.uniq {d : BD} {ts : List TaskD} {r r' : BD × List MgD} (h : tickBR d ts r) (h' : tickBR d ts r') : r = r' := by
  rcases h with ⟨h, rfl⟩ | ⟨h, rfl⟩ <;> rcases h' with ⟨h', rfl⟩ | ⟨h', rfl⟩ <;> first | rfl | exact absurd h h' | exact absurd h' h
/-- A coordinator with what it sends, of a call's own. -/
structure LedO (w : World) (B : Nat) (d : BD) (h : BH) (v : Value) (M : List MgD) (vs : List Value) : Prop where
  bo : BossO w B d h
  ms : MsO w B v M vs
  dr : ∀ r ∈ rowsB d h, Dj r v.ownBlock
  dv : ∀ r ∈ rowsB d h, ∀ j, j < M.length → Dj r (vs.getD j nilV).ownBlock
def RetLd (e : Ending) (B : Nat) (w' : World) (F : BD × List MgD → Prop) : Prop := ∃ d h v M vs, e = .returned (.agg (bvs d h ++ [v]).toArray) ∧ LedO w' B d h v M vs ∧ F (d, M)
end Go.Proofs.YtaeomkpofcbmiaaGreat
