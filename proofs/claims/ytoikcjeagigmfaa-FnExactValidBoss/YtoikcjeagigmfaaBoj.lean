
/-
  impl: slices.Equal, leaseOf, jobHolds, tasksByLease, jobsHold.
-/
import Derived.Test.YtoikcjeagigmfaaBos
import Derived.Maps.OwnSet
import Derived.Maps.OwnOps
namespace Go.Proofs.Ytoikcjeagigmfaa
open Go.RowKit Go.Maps

theorem strs_ext {ss ss' : List ByteArray} (hl : ss.length = ss'.length) (h : ∀ j, j < ss.length → ss.getD j ByteArray.empty = ss'.getD j ByteArray.empty) : ss = ss' := by
  refine List.ext_getElem hl fun j h1 h2 => ?_
  have := h j h1
  simpa [List.getD, List.getElem?_eq_getElem h1, List.getElem?_eq_getElem h2] using this

set_option maxHeartbeats 1000000 in
theorem equal_any (a a' : Option Addr) (b o n c b' o' n' c' : Nat) (ss ss' : List ByteArray) (w : World) (h : StrsAt w a b o n ss) (h' : StrsAt w a' b' o' n' ss') :
    Calls Try.prog 63 #[.slice a n c, .slice a' n' c'] w fun e w' => RetB e (ss = ss') ∧ Below w.heap.size w w' := by
  have hmax := h.max
  unfold maxLen at hmax
  by_cases hn : n = n'
  · subst hn
    go_enter Try.func63, Try.ntmps63
    go_wp2
    go_loopw [13] (fun i wr => ∃ k : Nat, k ≤ n ∧ i = .int .i64 k ∧ (∀ j, j < k → ss.getD j ByteArray.empty = ss'.getD j ByteArray.empty) ∧ Below w.heap.size w wr) (fun i _ => n - (intOf i).toNat)
    case atStart => exact ⟨0, Nat.zero_le _, rfl, fun j hj => absurd hj (by omega), Below.refl _ _⟩
    case round =>
      obtain ⟨k, hk, rfl, hok, hb⟩ := hrel
      by_cases hlt : k < n
      · obtain rfl := h.ad (by omega)
        obtain rfl := h'.ad (by omega)
        have hc := (h.below' hb).cell k hlt
        have hc' := (h'.below' hb).cell k hlt
        obtain ⟨s, hs⟩ : ∃ s, s = ss.getD k ByteArray.empty := ⟨_, rfl⟩
        obtain ⟨t, ht⟩ : ∃ t, t = ss'.getD k ByteArray.empty := ⟨_, rfl⟩
        rw [← hs] at hc
        rw [← ht] at hc'
        have HS := hid hs
        have HT := hid ht
        clear hs ht
        have hlt' : (k : Int) < (n : Int) := by omega
        by_cases hst : s = t
        · subst hst
          go_wp2
          go_quiet (fail)
          go_wp2
          go_roundw
          case rel =>
            refine ⟨k + 1, by omega, by go_num, fun j hj => ?_, below_drewN hb _⟩
            by_cases e : j = k
            · subst e; rw [← HS.out, ← HT.out]
            · exact hok j (by omega)
          case measure => simp [intOf]; omega
        · have hst' := str_ne hst
          have HN := hid hst
          clear hst
          go_wp2
          go_quiet (fail)
          go_wp2
          go_ret
          refine ⟨RetB.f fun hh => HN.out ?_, below_drewN hb _⟩
          rw [HS.out, HT.out, hh]
      · obtain rfl : k = n := by omega
        go_wp2
        go_ret
        exact ⟨RetB.t (strs_ext (by rw [h.len, h'.len]) (by rw [h.len]; exact hok)), hb⟩
  · have hn' : ((n : Int) == (n' : Int)) = false := by simp; omega
    have hn2 : ¬ ((n : Int) = (n' : Int)) := by omega
    go_enter Try.func63, Try.ntmps63
    go_wp2
    go_ret
    exact ⟨RetB.f fun hh => hn (by rw [← h.len, ← h'.len, hh]), Below.refl _ _⟩

theorem leaseOf_any (ep g : Int) (w : World) (h0 : 0 ≤ ep) (h1 : ep ≤ 100000) (h2 : 0 ≤ g) (h3 : g ≤ 1000000) :
    Calls Try.prog 104 #[.int .i64 ep, .int .i64 g] w fun e w' => e = .returned (.int .i64 ((ep - 1) * 1000000 + g)) ∧ w' = w := by
  go_enter Try.func104, Try.ntmps104
  go_wp2
  go_ret
  exact ⟨ret_int (by omega), rfl⟩

set_option maxHeartbeats 1000000 in
set_option maxRecDepth 100000 in
theorem jobHolds_any (wk : Int) (up : Bool) (now sn ep gv : Int) (a1 a2 ar aj az ao : Option Addr) (n1 c1 n2 c2 nr cr nj cj ns cs no co : Nat) (x0 x1 x2 : Int) (w : World) (he0 : 1 ≤ ep) (he1 : ep ≤ 100000) (hg0 : 0 ≤ gv) (hg1 : gv ≤ 1000000) (hn0 : 0 ≤ now) (hn1 : now ≤ 1000000) :
    Calls Try.prog 89 #[.agg #[.int .i64 x0, .int .i64 x1, .int .i64 x2], .agg #[.int .i64 wk, .bool up, .int .i64 now, .int .i64 sn, .int .i64 ep, .int .i64 gv, .slice a1 n1 c1, .slice a2 n2 c2, .slice ar nr cr, .slice aj nj cj, .slice az ns cs, .slice ao no co]] w fun e w' => RetB e (jobIn wk now ep gv (x0, x1, x2)) ∧ Below w.heap.size w w' := by
  have hb0 : Below w.heap.size w ((w.alloc (.cells #[.int .i64 x0, .int .i64 x1, .int .i64 x2] 141)).alloc (.cells #[.int .i64 wk, .bool up, .int .i64 now, .int .i64 sn, .int .i64 ep, .int .i64 gv, .slice a1 n1 c1, .slice a2 n2 c2, .slice ar nr cr, .slice aj nj cj, .slice az ns cs, .slice ao no co] 67)) := ((Below.refl _ _).alloc (Nat.le_refl _) _).alloc (by simp) _
  have hsum : (ep - 1) * 1000000 + 1 + gv - 1 = (ep - 1) * 1000000 + gv := by omega
  obtain ⟨ba, hba⟩ : ∃ ba, ba = (ep - 1) * 1000000 := ⟨_, rfl⟩
  have hba0 : 0 ≤ ba := by omega
  have hba1 : ba ≤ 100000000000 := by omega
  have hL : ∀ w : World, Calls Try.prog 104 #[.int .i64 ep, .int .i64 1] w fun e w' => e = .returned (.int .i64 (ba + 1)) ∧ w' = w := fun w => by rw [hba]; exact leaseOf_any ep 1 w (by omega) he1 (by omega) (by omega)
  have HBA := hid hba
  have HLL := hid hL
  clear hba hsum hL
  cases hA : inB x0 (ba + 1) (ba + 1 + gv - 1) with
  | false =>
    have HA := hid (inB_f hA)
    go_enter Try.func89, Try.ntmps89
    go_wp2_with (first | (go_at_call 104; refine (HLL.out _).mono ?_; rintro e w1 ⟨rfl, rfl⟩) | (go_at_call 61; refine (within_any _ _ _ _).mono ?_; rintro e w1 ⟨rfl, rfl⟩))
    go_ret
    exact ⟨RetB.f fun hh => HA.out (by have h1 := hh.1; have h2 := hh.2.1; dsimp only at h1 h2; rw [← HBA.out] at h1 h2; exact ⟨h1, by omega⟩), hb0⟩
  | true =>
    have HA := hid (inB_t hA)
    cases hB : inB x1 1 wk with
    | false =>
      have HB := hid (inB_f hB)
      go_enter Try.func89, Try.ntmps89
      go_wp2_with (first | (go_at_call 104; refine (HLL.out _).mono ?_; rintro e w1 ⟨rfl, rfl⟩) | (go_at_call 61; refine (within_any _ _ _ _).mono ?_; rintro e w1 ⟨rfl, rfl⟩))
      go_ret
      exact ⟨RetB.f fun hh => HB.out ⟨hh.2.2.1, hh.2.2.2.1⟩, hb0⟩
    | true =>
      have HB := hid (inB_t hB)
      cases hC : inB x2 (now + 1) (now + 12) with
      | false =>
        have HC := hid (inB_f hC)
        go_enter Try.func89, Try.ntmps89
        go_wp2_with (first | (go_at_call 104; refine (HLL.out _).mono ?_; rintro e w1 ⟨rfl, rfl⟩) | (go_at_call 61; refine (within_any _ _ _ _).mono ?_; rintro e w1 ⟨rfl, rfl⟩))
        go_ret
        exact ⟨RetB.f fun hh => HC.out hh.2.2.2.2, hb0⟩
      | true =>
        have HC := hid (inB_t hC)
        go_enter Try.func89, Try.ntmps89
        go_wp2_with (first | (go_at_call 104; refine (HLL.out _).mono ?_; rintro e w1 ⟨rfl, rfl⟩) | (go_at_call 61; refine (within_any _ _ _ _).mono ?_; rintro e w1 ⟨rfl, rfl⟩))
        go_ret
        exact ⟨RetB.t (by have h1 := HA.out; exact ⟨by dsimp only; rw [← HBA.out]; exact h1.1, by dsimp only; rw [← HBA.out]; omega, HB.out.1, HB.out.2, HC.out.1, HC.out.2⟩), hb0⟩

/-- The last job with a lease. -/
def lastI (J : List Tr) : Nat → Int → Nat
  | 0, _ => 0
  | k + 1, l => if (t3 J k).1 = l ∧ ¬ l = 0 then k else lastI J k l
theorem last_ge {J : List Tr} {k i : Nat} (hi : i < k) (h0 : ¬ (t3 J i).1 = 0) : i ≤ lastI J k (t3 J i).1 ∧ lastI J k (t3 J i).1 < k ∧ (t3 J (lastI J k (t3 J i).1)).1 = (t3 J i).1 := by
  induction k with
  | zero => omega
  | succ k ih =>
    unfold lastI
    by_cases hk : (t3 J k).1 = (t3 J i).1 ∧ ¬ (t3 J i).1 = 0
    · rw [if_pos hk]
      exact ⟨by omega, by omega, hk.1⟩
    · rw [if_neg hk]
      have hik : i < k := by
        rcases Nat.lt_or_ge i k with h | h
        · exact h
        · obtain rfl : i = k := by omega
          exact absurd ⟨rfl, h0⟩ hk
      obtain ⟨h1, h2, h3⟩ := ih hik
      exact ⟨h1, by omega, h3⟩
def LastD (D : DataW Unit) (J : List Tr) (k : Nat) : Prop := IsMap D ∧ ∀ l : Int, D.atKey (.int .i64 l) (.lit (.int .i64 0)) = .lit (.int .i64 (lastI J k l))
theorem lastD_nil (J : List Tr) : LastD (.map []) J 0 := ⟨⟨_, rfl⟩, fun _ => rfl⟩
theorem isKeyI (l : Int) : WideAt.IsKeyLit (.int .i64 l) := by trivial
theorem LastD.put {D : DataW Unit} {J : List Tr} {k : Nat} {x0 : Int} (h : LastD D J k) (hx : (t3 J k).1 = x0) (h0 : ¬ x0 = 0) : LastD (D.put (.int .i64 x0) (.lit (.int .i64 k))) J (k + 1) := by
  refine ⟨isMap_put D h.1 _ _, fun l => ?_⟩
  unfold lastI
  by_cases e : l = x0
  · subst e
    rw [atKey_put_same h.1 (isKeyI _), if_pos ⟨hx, h0⟩]
  · rw [atKey_put_other (by simpa using e), h.2, if_neg (fun hh => e (by rw [← hh.1, hx]))]
theorem LastD.skip {D : DataW Unit} {J : List Tr} {k : Nat} (h : LastD D J k) (h0 : (t3 J k).1 = 0) : LastD D J (k + 1) := by
  refine ⟨h.1, fun l => ?_⟩
  unfold lastI
  rw [if_neg (fun hh => hh.2 (by rw [← hh.1, h0]))]
  exact h.2 l
theorem ownsMap_mono {P : Program} {w : World} {t : TypeId} {R : Value → Option (DataW Unit × List MemPlace)} {b n m : Nat} {D : DataW Unit} (h : w.ownsMap P t R b n D) (hm : n ≤ m) : w.ownsMap P t R b m D := by
  obtain ⟨es, clock, h1, h2, h3, h4⟩ := h
  exact ⟨es, clock, h1, h2, Nat.le_trans h3 hm, h4⟩
theorem mapLawI : Keyed Try.prog 3 := Maps.int_keyed Try.underlying3

set_option maxHeartbeats 1000000 in
set_option maxRecDepth 100000 in
theorem byLease_any (a : Option Addr) (b o n c : Nat) (J : List Tr) (w : World) (h : T3At w a b o n J) (hn : n ≤ 1048576) :
    Calls Try.prog 88 #[.slice a n c] w fun e w' => ∃ D : DataW Unit, e = .returned (.map (some w.heap.size)) ∧ w'.ownsMap Try.prog 3 (plainElem Try.prog 3) w.heap.size n D ∧ LastD D J n ∧ Below w.heap.size w w' := by
  have hmm := @run_makeMap Try.prog
  go_enter Try.func88, Try.ntmps88
  go_wp2
  go_loopw [9] (fun i wr => ∃ k : Nat, k ≤ n ∧ i = .int .i64 k ∧ (∃ D : DataW Unit, wr.ownsMap Try.prog 3 (plainElem Try.prog 3) w.heap.size k D ∧ LastD D J k) ∧ Below w.heap.size w wr) (fun i _ => n - (intOf i).toNat)
  case atStart => exact ⟨0, Nat.zero_le _, rfl, ⟨_, World.ownsMap_made _ _ _ _, lastD_nil J⟩, (Below.refl _ _).alloc (Nat.le_refl _) _⟩
  case round =>
    obtain ⟨k, hk, rfl, ⟨D, hown, hlast⟩, hb⟩ := hrel
    by_cases hlt : k < n
    · obtain rfl := h.ad (by omega)
      have hc0 := (h.below' hb).c0 k hlt
      have hc1 := (h.below' hb).c1 k hlt
      have hc2 := (h.below' hb).c2 k hlt
      obtain ⟨hr0, _, _⟩ := h.rng k hlt
      obtain ⟨⟨x0, x1, x2⟩, hx⟩ : ∃ x, x = t3 J k := ⟨_, rfl⟩
      rw [← hx] at hc0 hc1 hc2 hr0
      dsimp only at hc0 hc1 hc2 hr0
      have HX := hid hx
      clear hx
      have hlt' : (k : Int) < (n : Int) := by omega
      obtain ⟨V, hV⟩ : ∃ V, V = wr.alloc (.cells #[.int .i64 x0, .int .i64 x1, .int .i64 x2] 141) := ⟨_, rfl⟩
      have hbV : Below w.heap.size w V := by rw [hV]; exact hb.alloc hb.size _
      have hownV : V.ownsMap Try.prog 3 (plainElem Try.prog 3) w.heap.size k D := by rw [hV]; exact hown.alloc _
      have hmV : MC V wr.heap.size [.int .i64 x0, .int .i64 x1, .int .i64 x2] := by rw [hV]; exact MC.made wr _ _
      have y0 : V.cell? ⟨wr.heap.size, 0, none⟩ = some (.int .i64 x0) := hmV 0 (by simp)
      have hml := hownV.lt
      clear hmV hown
      go_upto_region 5 with fail
      rw [← hV]
      clear hV
      by_cases hz : x0 = 0
      · have hz' : (x0 == 0) = true := by simpa using hz
        have HZ := hid hz
        clear hz
        go_wp2
        go_roundw
        case rel => exact ⟨k + 1, by omega, by go_num, ⟨D, ownsMap_mono hownV (by omega), hlast.skip (by rw [← HX.out]; exact HZ.out)⟩, hbV⟩
        case measure => simp [intOf]; omega
      · have hz' : (x0 == 0) = false := by simpa using hz
        have HZ := hid hz
        have hwf : (Lit.int .i64 x0).wf = true := WalkArith.wf_i64 hr0
        have hkey := Maps.keyOf_int_mk (P := Try.prog) Try.underlying3 hwf
        go_wp2_with (at_mapUpdate; refine wpList_mapUpdate_own _ rfl _ _ _ 148 rfl 3 3 mapLawI Try.underlying148 _ w.heap.size k D rfl hownV (by unfold maxLen; omega) _ _ _ rfl rfl hkey _ [] (plainElem_int Try.underlying3 (WalkArith.wf_i64 (by omega))) ?_; intro w1 hown1 hgrow1)
        have hb1 : Below w.heap.size w w1 := hbV.grown hgrow1 (by have := hbV.size; omega) (by intro k hk; cases hk; exact Nat.le_refl _)
        clear hgrow1 hownV
        go_wp2
        go_roundw
        case rel => exact ⟨k + 1, by omega, by go_num, ⟨_, hown1, hlast.put (by rw [← HX.out]) HZ.out⟩, hb1⟩
        case measure => simp [intOf]; omega
    · obtain rfl : k = n := by omega
      go_wp2
      go_ret
      exact ⟨D, rfl, hown, hlast, hb⟩
end Go.Proofs.Ytoikcjeagigmfaa
