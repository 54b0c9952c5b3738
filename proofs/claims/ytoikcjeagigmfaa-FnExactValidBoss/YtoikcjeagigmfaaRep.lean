
/-
  What entries tell: the data; impl.isDue, spec.l4Deps.
-/
import Derived.Test.YtoikcjeagigmfaaERs
import Derived.Test.YtoikcjeagigmfaaSChk
namespace Go.Proofs.Ytoikcjeagigmfaa
open Go.RowKit

/-- A result, the empty text where there is none. -/
def rs (R : List ByteArray) (j : Nat) : ByteArray := R.getD j ByteArray.empty
/-- The first k of the numbers have results. -/
def depsIn (R : List ByteArray) (ds : List Int) (k : Nat) : Prop := ∀ j, j < k → ¬ (rs R (ds.getD j 0).toNat).size = 0
def depsHave (ts : List TaskD) (R : List ByteArray) (d : Nat) : Prop := depsIn R (ts.getD d dT).deps (ts.getD d dT).deps.length
def dueOk (ts : List TaskD) (R : List ByteArray) (d : Nat) : Prop := (rs R d).size = 0 ∧ depsHave ts R d

theorem dep_rng {ts : List TaskD} {n d j : Nat} (h : allDeps ts n) (hd : d < n) (hj : j < (ts.getD d dT).deps.length) : ∃ q : Nat, (ts.getD d dT).deps.getD j 0 = (q : Int) ∧ q < n := by
  obtain ⟨h0, h1, _⟩ := (h d hd).2 j hj
  exact ⟨((ts.getD d dT).deps.getD j 0).toNat, by omega, by omega⟩

set_option maxHeartbeats 1000000 in
set_option maxRecDepth 100000 in
theorem l4Deps_any (a : Option Addr) (b o n c : Nat) (ts : List TaskD) (ar : Option Addr) (br or' cr : Nat) (R : List ByteArray) (d : Nat) (w : World) (h : TasksAt w a b o n ts) (hR : StrsAt w ar br or' n R) (hd : d < n) (hA : allDeps ts n) :
    Calls Try.prog 42 #[.agg #[.slice a n c], .slice ar n cr, .int .i64 d] w fun e w' => RetB e (depsHave ts R d) ∧ Below w.heap.size w w' := by
  have hmax := h.max
  unfold maxLen at hmax
  have hb0 : Below w.heap.size w (w.alloc (.cells #[.slice a n c] 44)) := (Below.refl _ _).alloc (Nat.le_refl _) _
  obtain rfl := h.ad (by omega)
  obtain rfl := hR.ad (by omega)
  have hl := h.lt (by omega)
  have hlr := hR.lt (by omega)
  obtain ⟨t, a', b', o', n', c', ht, hc0, hc1, hc2, hi, _, _⟩ := h.get hd
  have HT := hid ht
  clear ht hc0 hc1
  have hd' : (d : Int) < (n : Int) := by omega
  have hm' := hi.max
  unfold maxLen at hm'
  go_enter Try.func42, Try.ntmps42
  go_wp2
  go_loopw [8] (fun i wr => ∃ k : Nat, k ≤ n' ∧ i = .int .i64 k ∧ depsIn R t.deps k ∧ wr = w.alloc (.cells #[.slice (some ⟨b, o, none⟩) n c] 44)) (fun i _ => n' - (intOf i).toNat)
  case atStart => exact ⟨0, Nat.zero_le _, rfl, fun j hj => absurd hj (by omega), rfl⟩
  case round =>
    obtain ⟨k, hk, rfl, hok, rfl⟩ := hrel
    by_cases hlt : k < n'
    · obtain rfl := hi.ad (by omega)
      have hbl := hi.lt (by omega)
      obtain ⟨q, hq, hqn⟩ := dep_rng hA hd (j := k) (by rw [← HT.out, hi.len]; exact hlt)
      rw [← HT.out] at hq
      have hck : w.cell? ⟨b', o' + k, none⟩ = some (.int .i64 (q : Int)) := by rw [← hq]; exact hi.cell k hlt
      have hcr := hR.cell q hqn
      obtain ⟨s, hs⟩ : ∃ s, s = R.getD q ByteArray.empty := ⟨_, rfl⟩
      rw [← hs] at hcr
      have HS : Hid (rs R (t.deps.getD k 0).toNat = s) := by rw [hq, hs]; rfl
      clear hs hq
      have hlt' : (k : Int) < (n' : Int) := by omega
      have hqn' : (q : Int) < (n : Int) := by omega
      by_cases h0 : s.size = 0
      · have h0' := empty_t h0
        have H0 := hid h0
        clear h0
        go_wp2
        go_ret
        refine ⟨RetB.f fun hh => ?_, hb0⟩
        have := hh k (by rw [← HT.out, hi.len]; exact hlt)
        rw [← HT.out, HS.out] at this
        exact this H0.out
      · have h0' := empty_f h0
        have H0 := hid h0
        clear h0
        go_wp2
        go_roundw
        case rel =>
          refine ⟨k + 1, by omega, by go_num, fun j hj => ?_, by first | trivial | rfl⟩
          by_cases e : j = k
          · subst e; rw [HS.out]; exact H0.out
          · exact hok j (by omega)
        case measure => simp [intOf]; omega
    · obtain rfl : k = n' := by omega
      go_wp2
      go_ret
      exact ⟨RetB.t (by unfold depsHave; rw [← HT.out, hi.len]; exact hok), hb0⟩

set_option maxHeartbeats 1000000 in
set_option maxRecDepth 100000 in
theorem isDue_any (a : Option Addr) (b o n c : Nat) (ts : List TaskD) (ar : Option Addr) (br or' cr : Nat) (R : List ByteArray) (d : Nat) (w : World) (h : TasksAt w a b o n ts) (hR : StrsAt w ar br or' n R) (hd : d < n) (hA : allDeps ts n) :
    Calls Try.prog 90 #[.agg #[.slice a n c], .slice ar n cr, .int .i64 d] w fun e w' => RetB e (dueOk ts R d) ∧ Below w.heap.size w w' := by
  have hmax := h.max
  unfold maxLen at hmax
  have hb0 : Below w.heap.size w (w.alloc (.cells #[.slice a n c] 44)) := (Below.refl _ _).alloc (Nat.le_refl _) _
  obtain rfl := h.ad (by omega)
  obtain rfl := hR.ad (by omega)
  have hl := h.lt (by omega)
  have hlr := hR.lt (by omega)
  obtain ⟨t, a', b', o', n', c', ht, hc0, hc1, hc2, hi, _, _⟩ := h.get hd
  have HT := hid ht
  clear ht hc0 hc1
  have hd' : (d : Int) < (n : Int) := by omega
  have hm' := hi.max
  unfold maxLen at hm'
  have hcd := hR.cell d hd
  obtain ⟨x, hx⟩ : ∃ x, x = R.getD d ByteArray.empty := ⟨_, rfl⟩
  rw [← hx] at hcd
  have HX : Hid (rs R d = x) := by rw [hx]; rfl
  clear hx
  by_cases hz : x.size = 0
  · have hz' := empty_t hz
    have HZ := hid hz
    clear hz
    go_enter Try.func90, Try.ntmps90
    go_wp2
    go_loopw [21] (fun i wr => ∃ k : Nat, k ≤ n' ∧ i = .int .i64 k ∧ depsIn R t.deps k ∧ wr = w.alloc (.cells #[.slice (some ⟨b, o, none⟩) n c] 44)) (fun i _ => n' - (intOf i).toNat)
    case atStart => exact ⟨0, Nat.zero_le _, rfl, fun j hj => absurd hj (by omega), rfl⟩
    case round =>
      obtain ⟨k, hk, rfl, hok, rfl⟩ := hrel
      by_cases hlt : k < n'
      · obtain rfl := hi.ad (by omega)
        have hbl := hi.lt (by omega)
        obtain ⟨q, hq, hqn⟩ := dep_rng hA hd (j := k) (by rw [← HT.out, hi.len]; exact hlt)
        rw [← HT.out] at hq
        have hck : w.cell? ⟨b', o' + k, none⟩ = some (.int .i64 (q : Int)) := by rw [← hq]; exact hi.cell k hlt
        have hcr := hR.cell q hqn
        obtain ⟨s, hs⟩ : ∃ s, s = R.getD q ByteArray.empty := ⟨_, rfl⟩
        rw [← hs] at hcr
        have HS : Hid (rs R (t.deps.getD k 0).toNat = s) := by rw [hq, hs]; rfl
        clear hs hq
        have hlt' : (k : Int) < (n' : Int) := by omega
        have hqn' : (q : Int) < (n : Int) := by omega
        by_cases h0 : s.size = 0
        · have h0' := empty_t h0
          have H0 := hid h0
          clear h0
          go_wp2
          go_ret
          refine ⟨RetB.f fun hh => ?_, hb0⟩
          have := hh.2 k (by rw [← HT.out, hi.len]; exact hlt)
          rw [← HT.out, HS.out] at this
          exact this H0.out
        · have h0' := empty_f h0
          have H0 := hid h0
          clear h0
          go_wp2
          go_roundw
          case rel =>
            refine ⟨k + 1, by omega, by go_num, fun j hj => ?_, by first | trivial | rfl⟩
            by_cases e : j = k
            · subst e; rw [HS.out]; exact H0.out
            · exact hok j (by omega)
          case measure => simp [intOf]; omega
      · obtain rfl : k = n' := by omega
        go_wp2
        go_ret
        exact ⟨RetB.t ⟨by rw [HX.out]; exact HZ.out, by unfold depsHave; rw [← HT.out, hi.len]; exact hok⟩, hb0⟩
  · have hz' := empty_f hz
    have HZ := hid hz
    clear hz
    go_enter Try.func90, Try.ntmps90
    go_wp2
    go_ret
    exact ⟨RetB.f fun hh => HZ.out (by rw [← HX.out]; exact hh.1), hb0⟩

/-! ### the entries, told -/
open Classical in
/-- What ReadEntry reads. -/
noncomputable def evE (s : ByteArray) : Option (Int × Int × Int × ByteArray) :=
  if h : ∃ q : Int × Int × Int × ByteArray, GoodE s q.1 q.2.1 q.2.2.1 q.2.2.2 then some (Classical.choose h) else none
theorem evE_some {s : ByteArray} {k e d : Int} {x : ByteArray} (h : GoodE s k e d x) : evE s = some (k, e, d, x) := by
  have hex : ∃ q : Int × Int × Int × ByteArray, GoodE s q.1 q.2.1 q.2.2.1 q.2.2.2 := ⟨(k, e, d, x), h⟩
  unfold evE
  rw [dif_pos hex]
  obtain ⟨h1, h2, h3, h4⟩ := (Classical.choose_spec hex).uniq h
  congr 1
  exact Prod.ext h1 (Prod.ext h2 (Prod.ext h3 h4))
theorem evE_none {s : ByteArray} (h : NoE s) : evE s = none := by
  unfold evE
  rw [dif_neg]
  rintro ⟨q, hq⟩
  exact h ⟨_, _, _, _, hq⟩
theorem evE_good {s : ByteArray} {k e d : Int} {x : ByteArray} (h : evE s = some (k, e, d, x)) : GoodE s k e d x := by
  by_cases hn : NoE s
  · rw [evE_none hn] at h; cases h
  · obtain ⟨k', e', d', x', hg⟩ := Classical.not_not.1 hn
    rw [evE_some hg] at h
    cases h
    exact hg
abbrev St := Int × List ByteArray
open Classical in
noncomputable def step1 (ts : List TaskD) (st : St) (q : Int × Int × Int × ByteArray) : Option St :=
  if q.1 = 1 then (if q.2.1 = st.1 + 1 then some (q.2.1, st.2) else none)
  else if q.2.1 = st.1 ∧ q.2.2.1 < ts.length ∧ dueOk ts st.2 q.2.2.1.toNat then some (st.1, st.2.set q.2.2.1.toNat q.2.2.2) else none
noncomputable def stepR (ts : List TaskD) (st : St) (s : ByteArray) : Option St := (evE s).bind (step1 ts st)
noncomputable def rep (ts : List TaskD) : List ByteArray → St → Option St
  | [], st => some st
  | s :: r, st => (stepR ts st s).bind (rep ts r)
theorem rep_append (ts : List TaskD) (l r : List ByteArray) (st : St) : rep ts (l ++ r) st = (rep ts l st).bind (rep ts r) := by
  induction l generalizing st with
  | nil => rfl
  | cons s l ih =>
    simp only [List.cons_append, rep]
    cases stepR ts st s with
    | none => rfl
    | some st' => exact ih st'
theorem rep_snoc (ts : List TaskD) (l : List ByteArray) (s : ByteArray) (st : St) : rep ts (l ++ [s]) st = (rep ts l st).bind (fun st' => stepR ts st' s) := by
  rw [rep_append]
  cases rep ts l st with
  | none => rfl
  | some st' => simp [rep]
theorem rep_none {ts : List TaskD} {l r : List ByteArray} {st : St} (h : rep ts l st = none) : rep ts (l ++ r) st = none := by rw [rep_append, h]; rfl
/-- Numbers stay small, results as many as tasks, texts of eight bytes. -/
def StOk (n m : Nat) (st : St) : Prop := 0 ≤ st.1 ∧ st.1 ≤ m ∧ st.2.length = n ∧ ∀ s ∈ st.2, s.size ≤ 8
theorem step1_ok {ts : List TaskD} {n m : Nat} {st st' : St} {k e d : Int} {x : ByteArray} (hx : x.size ≤ 8) (h : StOk n m st) (hs : step1 ts st (k, e, d, x) = some st') : StOk n (m + 1) st' := by
  obtain ⟨h0, h1, h2, h3⟩ := h
  unfold step1 at hs
  dsimp only at hs
  split at hs
  · split at hs
    · cases hs
      exact ⟨by dsimp only; omega, by dsimp only; omega, h2, h3⟩
    · cases hs
  · split at hs
    · cases hs
      refine ⟨h0, by dsimp only; omega, by simpa using h2, fun s hs => ?_⟩
      rcases List.mem_or_eq_of_mem_set hs with h | h
      · exact h3 s h
      · rw [h]; exact hx
    · cases hs
theorem stepR_ok {ts : List TaskD} {n m : Nat} {st st' : St} {s : ByteArray} (h : StOk n m st) (hs : stepR ts st s = some st') : StOk n (m + 1) st' := by
  unfold stepR at hs
  cases he : evE s with
  | none => rw [he] at hs; cases hs
  | some q =>
    obtain ⟨k, e, d, x⟩ := q
    rw [he] at hs
    exact step1_ok (vE_rng (evE_good he).1).2.2.2.2 h hs
def st0 (n : Nat) : St := (0, List.replicate n ⟨#[]⟩)
theorem st0_ok (n : Nat) : StOk n 0 (st0 n) := ⟨by simp [st0], by simp [st0], by simp [st0], fun s hs => by
  have := List.eq_of_mem_replicate hs
  subst this
  decide⟩
theorem rep_ok {ts : List TaskD} {n : Nat} (l : List ByteArray) {m : Nat} {st st' : St} (h : StOk n m st) (hs : rep ts l st = some st') : StOk n (m + l.length) st' := by
  induction l generalizing st m with
  | nil => cases hs; exact h
  | cons s l ih =>
    unfold rep at hs
    cases h1 : stepR ts st s with
    | none => rw [h1] at hs; cases hs
    | some st1 =>
      rw [h1] at hs
      have := ih (stepR_ok h h1) hs
      rw [List.length_cons, show m + (l.length + 1) = m + 1 + l.length by omega]
      exact this
/-- A story. -/
def StoryIs (ts : List TaskD) (L : List ByteArray) (c E : Int) (R : List ByteArray) : Prop :=
  (¬ (Code ts 0 ∧ L.length ≤ 310) ∧ c = 1 ∧ E = 0 ∧ R = []) ∨ ((Code ts 0 ∧ L.length ≤ 310) ∧ ((rep ts L (st0 ts.length) = none ∧ c = 2 ∧ E = 0 ∧ R = []) ∨ (rep ts L (st0 ts.length) = some (E, R) ∧ c = 0)))
theorem StoryIs.uniq {ts : List TaskD} {L : List ByteArray} {c E c' E' : Int} {R R' : List ByteArray} (h : StoryIs ts L c E R) (h' : StoryIs ts L c' E' R') : c = c' ∧ E = E' ∧ R = R' := by
  rcases h with ⟨h, rfl, rfl, rfl⟩ | ⟨h, h1⟩ <;> rcases h' with ⟨h', rfl, rfl, rfl⟩ | ⟨h', h1'⟩
  · exact ⟨rfl, rfl, rfl⟩
  · exact absurd h' h
  · exact absurd h h'
  · rcases h1 with ⟨h1, rfl, rfl, rfl⟩ | ⟨h1, rfl⟩ <;> rcases h1' with ⟨h1', rfl, rfl, rfl⟩ | ⟨h1', rfl⟩
    · exact ⟨rfl, rfl, rfl⟩
    · rw [h1] at h1'; cases h1'
    · rw [h1] at h1'; cases h1'
    · rw [h1] at h1'; cases h1'
      exact ⟨rfl, rfl, rfl⟩
/-- What Replay answers. -/
def RetS (e' : Ending) (w w' : World) (ts : List TaskD) (L : List ByteArray) : Prop :=
  ∃ (c E : Int) (R : List ByteArray) (v : Value), e' = .returned (.agg #[.int .i64 c, .int .i64 E, v]) ∧ StoryIs ts L c E R ∧ Own w.heap.size w' 1 v R.length (R.map Value.string)
end Go.Proofs.Ytoikcjeagigmfaa
