import Derived.Test.YthopfmhagddhgaaGreatQBos
import Derived.Maps.OwnSet
import Derived.Maps.OwnOps
namespace Go.Proofs.YthopfmhagddhgaaGreat
open Go.RowKit Go.Maps

theorem strs_ext {ss ss' : List ByteArray} (hl : ss.length = ss'.length) (h : ∀ j, j < ss.length → ss.getD j ByteArray.empty = ss'.getD j ByteArray.empty) : ss = ss' := by
  refine List.ext_getElem hl fun j h1 h2 => ?_
  have := h j h1
  simpa [List.getD, List.getElem?_eq_getElem h1, List.getElem?_eq_getElem h2] using this

set_option maxHeartbeats 1000000 in
theorem equal_any (a a' : Option Addr) (b o n c b' o' n' c' : Nat) (ss ss' : List ByteArray) (w : World) (h : StrsAt w a b o n ss) (h' : StrsAt w a' b' o' n' ss') :
    Calls Tryz.prog 87 #[.slice a n c, .slice a' n' c'] w fun e w' => RetB e (ss = ss') ∧ Below w.heap.size w w' := by
  have hmax := h.max
  unfold maxLen at hmax
  by_cases hn : n = n'
  · subst hn
    go_enter Tryz.func87, Tryz.ntmps87
    go_wp2
    go_loopw [13] (fun i wr => ∃ k : Nat, k ≤ n ∧ i = .int .i64 k ∧ (∀ j, j < k → ss.getD j ByteArray.empty = ss'.getD j ByteArray.empty) ∧ Below w.heap.size w wr) (fun i _ => n - (intOf i).toNat)
    case atStart => exact ⟨0, Nat.zero_le _, rfl, fun j hj => absurd hj (by omega), Below.refl _ _⟩
    case round =>
      obtain ⟨k, hk, rfl, hok, hb⟩ := hrel
      by_cases hlt : k < n
      · obtain rfl := h.ad (by omega)
        obtain rfl := h'.ad (by omega)
        have hc := (h.below' hb).cell k hlt
        have hc' := (h'.below' hb).cell k hlt
        obtain ⟨s, hs⟩ : ∃ s, s = ss.getD k ByteArray.empty := ⟨_, rfl⟩
        obtain ⟨t, ht⟩ : ∃ t, t = ss'.getD k ByteArray.empty := ⟨_, rfl⟩
        rw [← hs] at hc
        rw [← ht] at hc'
        have HS := hid hs
        have HT := hid ht
        clear hs ht
        have hlt' : (k : Int) < (n : Int) := by omega
        by_cases hst : s = t
        · subst hst
          go_wp2
          go_quiet (fail)
          go_wp2
          go_roundw
          case rel =>
            refine ⟨k + 1, by omega, by go_num, fun j hj => ?_, below_drewN hb _⟩
            by_cases e : j = k
            · subst e; rw [← HS.out, ← HT.out]
            · exact hok j (by omega)
          case measure => simp [intOf]; omega
        · have hst' := str_ne hst
          have HN := hid hst
          clear hst
          go_wp2
          go_quiet (fail)
          go_wp2
          go_ret
          refine ⟨RetB.f fun hh => HN.out ?_, below_drewN hb _⟩
          rw [HS.out, HT.out, hh]
      · obtain rfl : k = n := by omega
        go_wp2
        go_ret
        exact ⟨RetB.t (strs_ext (by rw [h.len, h'.len]) (by rw [h.len]; exact hok)), hb⟩
  · have hn' : ((n : Int) == (n' : Int)) = false := by simp; omega
    have hn2 : ¬ ((n : Int) = (n' : Int)) := by omega
    go_enter Tryz.func87, Tryz.ntmps87
    go_wp2
    go_ret
    exact ⟨RetB.f fun hh => hn (by rw [← h.len, ← h'.len, hh]), Below.refl _ _⟩

theorem leaseOf_any (ep g : Int) (w : World) (h0 : 0 ≤ ep) (h1 : ep ≤ 100000) (h2 : 0 ≤ g) (h3 : g ≤ 1000000) :
    Calls Tryz.prog 135 #[.int .i64 ep, .int .i64 g] w fun e w' => e = .returned (.int .i64 ((ep - 1) * 1000000 + g)) ∧ w' = w := by
  go_enter Tryz.func135, Tryz.ntmps135
  go_wp2
  go_ret
  exact ⟨ret_int (by omega), rfl⟩

set_option maxHeartbeats 1000000 in
set_option maxRecDepth 100000 in
theorem jobHolds_any (wk : Int) (up : Bool) (now sn ep gv : Int) (a1 a2 ar aj az ao : Option Addr) (n1 c1 n2 c2 nr cr nj cj ns cs no co : Nat) (x0 x1 x2 : Int) (w : World) (he0 : 1 ≤ ep) (he1 : ep ≤ 100000) (hg0 : 0 ≤ gv) (hg1 : gv ≤ 1000000) (hn0 : 0 ≤ now) (hn1 : now ≤ 1000000) :
    Calls Tryz.prog 116 #[.agg #[.int .i64 x0, .int .i64 x1, .int .i64 x2], .agg #[.int .i64 wk, .bool up, .int .i64 now, .int .i64 sn, .int .i64 ep, .int .i64 gv, .slice a1 n1 c1, .slice a2 n2 c2, .slice ar nr cr, .slice aj nj cj, .slice az ns cs, .slice ao no co]] w fun e w' => RetB e (jobIn wk now ep gv (x0, x1, x2)) ∧ Below w.heap.size w w' := by
  have hb0 : Below w.heap.size w ((w.alloc (.cells #[.int .i64 x0, .int .i64 x1, .int .i64 x2] 153)).alloc (.cells #[.int .i64 wk, .bool up, .int .i64 now, .int .i64 sn, .int .i64 ep, .int .i64 gv, .slice a1 n1 c1, .slice a2 n2 c2, .slice ar nr cr, .slice aj nj cj, .slice az ns cs, .slice ao no co] 47)) := ((Below.refl _ _).alloc (Nat.le_refl _) _).alloc (by simp) _
  have hsum : (ep - 1) * 1000000 + 1 + gv - 1 = (ep - 1) * 1000000 + gv := by omega
  obtain ⟨ba, hba⟩ : ∃ ba, ba = (ep - 1) * 1000000 := ⟨_, rfl⟩
  have hba0 : 0 ≤ ba := by omega
  have hba1 : ba ≤ 100000000000 := by omega
  have hL : ∀ w : World, Calls Tryz.prog 135 #[.int .i64 ep, .int .i64 1] w fun e w' => e = .returned (.int .i64 (ba + 1)) ∧ w' = w := fun w => by rw [hba]; exact leaseOf_any ep 1 w (by omega) he1 (by omega) (by omega)
  have HBA := hid hba
  have HLL := hid hL
  clear hba hsum hL
  cases hA : inB x0 (ba + 1) (ba + 1 + gv - 1) with
  | false =>
    have HA := hid (inB_f hA)
    go_enter Tryz.func116, Tryz.ntmps116
    go_wp2_with (first | (go_at_call 135; refine (HLL.out _).mono ?_; rintro e w1 ⟨rfl, rfl⟩) | (go_at_call 85; refine (within_any _ _ _ _).mono ?_; rintro e w1 ⟨rfl, rfl⟩))
    go_ret
    exact ⟨RetB.f fun hh => HA.out (by have h1 := hh.1; have h2 := hh.2.1; dsimp only at h1 h2; rw [← HBA.out] at h1 h2; exact ⟨h1, by omega⟩), hb0⟩
  | true =>
    have HA := hid (inB_t hA)
    cases hB : inB x1 1 wk with
    | false =>
      have HB := hid (inB_f hB)
      go_enter Tryz.func116, Tryz.ntmps116
      go_wp2_with (first | (go_at_call 135; refine (HLL.out _).mono ?_; rintro e w1 ⟨rfl, rfl⟩) | (go_at_call 85; refine (within_any _ _ _ _).mono ?_; rintro e w1 ⟨rfl, rfl⟩))
      go_ret
      exact ⟨RetB.f fun hh => HB.out ⟨hh.2.2.1, hh.2.2.2.1⟩, hb0⟩
    | true =>
      have HB := hid (inB_t hB)
      cases hC : inB x2 (now + 1) (now + 12) with
      | false =>
        have HC := hid (inB_f hC)
        go_enter Tryz.func116, Tryz.ntmps116
        go_wp2_with (first | (go_at_call 135; refine (HLL.out _).mono ?_; rintro e w1 ⟨rfl, rfl⟩) | (go_at_call 85; refine (within_any _ _ _ _).mono ?_; rintro e w1 ⟨rfl, rfl⟩))
        go_ret
        exact ⟨RetB.f fun hh => HC.out hh.2.2.2.2, hb0⟩
      | true =>
        have HC := hid (inB_t hC)
        go_enter Tryz.func116, Tryz.ntmps116
        go_wp2_with (first | (go_at_call 135; refine (HLL.out _).mono ?_; rintro e w1 ⟨rfl, rfl⟩) | (go_at_call 85; refine (within_any _ _ _ _).mono ?_; rintro e w1 ⟨rfl, rfl⟩))
        go_ret
        exact ⟨RetB.t (by have h1 := HA.out; exact ⟨by dsimp only; rw [← HBA.out]; exact h1.1, by dsimp only; rw [← HBA.out]; omega, HB.out.1, HB.out.2, HC.out.1, HC.out.2⟩), hb0⟩

/-- The last job with a lease. -/
def lastI (J : List Tr) : Nat → Int → Nat
  | 0, _ => 0
  | k + 1, l => if (t3 J k).1 = l ∧ ¬ l = 0 then k else lastI J k l
theorem last_ge {J : List Tr} {k i : Nat} (hi : i < k) (h0 : ¬ (t3 J i).1 = 0) : i ≤ lastI J k (t3 J i).1 ∧ lastI J k (t3 J i).1 < k ∧ (t3 J (lastI J k (t3 J i).1)).1 = (t3 J i).1 := by
  induction k with
  | zero => omega
  | succ k ih =>
    unfold lastI
    by_cases hk : (t3 J k).1 = (t3 J i).1 ∧ ¬ (t3 J i).1 = 0
    · rw [if_pos hk]
      exact ⟨by omega, by omega, hk.1⟩
    · rw [if_neg hk]
      have hik : i < k := by
        rcases Nat.lt_or_ge i k with h | h
        · exact h
        · obtain rfl : i = k := by omega
          exact absurd ⟨rfl, h0⟩ hk
      obtain ⟨h1, h2, h3⟩ := ih hik
      exact ⟨h1, by omega, h3⟩
def LastD (D : DataW Unit) (J : List Tr) (k : Nat) : Prop := IsMap D ∧ ∀ l : Int, D.atKey (.int .i64 l) (.lit (.int .i64 0)) = .lit (.int .i64 (lastI J k l))
theorem lastD_nil (J : List Tr) : LastD (.map []) J 0 := ⟨⟨_, rfl⟩, fun _ => rfl⟩
theorem isKeyI (l : Int) : WideAt.IsKeyLit (.int .i64 l) := by trivial
theorem LastD.put {D : DataW Unit} {J : List Tr} {k : Nat} {x0 : Int} (h : LastD D J k) (hx : (t3 J k).1 = x0) (h0 : ¬ x0 = 0) : LastD (D.put (.int .i64 x0) (.lit (.int .i64 k))) J (k + 1) := by
  refine ⟨isMap_put D h.1 _ _, fun l => ?_⟩
  unfold lastI
  by_cases e : l = x0
  · subst e
    rw [atKey_put_same h.1 (isKeyI _), if_pos ⟨hx, h0⟩]
  · rw [atKey_put_other (by simpa using e), h.2, if_neg (fun hh => e (by rw [← hh.1, hx]))]
theorem LastD.skip {D : DataW Unit} {J : List Tr} {k : Nat} (h : LastD D J k) (h0 : (t3 J k).1 = 0) : LastD D J (k + 1) := by
  refine ⟨h.1, fun l => ?_⟩
  unfold lastI
  rw [if_neg (fun hh => hh.2 (by rw [← hh.1, h0]))]
  exact h.2 l
theorem ownsMap_mono {P : Program} {w : World} {t : TypeId} {R : Value → Option (DataW Unit × List MemPlace)} {b n m : Nat} {D : DataW Unit} (h : w.ownsMap P t R b n D) (hm : n ≤ m) : w.ownsMap P t R b m D := by
  obtain ⟨es, clock, h1, h2, h3, h4⟩ := h
  exact ⟨es, clock, h1, h2, Nat.le_trans h3 hm, h4⟩
theorem mapLawI : Keyed Tryz.prog 3 := Maps.int_keyed Tryz.underlying3

set_option maxHeartbeats 1000000 in
set_option maxRecDepth 100000 in
theorem byLease_any (a : Option Addr) (b o n c : Nat) (J : List Tr) (w : World) (h : T3At w a b o n J) (hn : n ≤ 1048576) :
    Calls Tryz.prog 115 #[.slice a n c] w fun e w' => ∃ D : DataW Unit, e = .returned (.map (some w.heap.size)) ∧ w'.ownsMap Tryz.prog 3 (plainElem Tryz.prog 3) w.heap.size n D ∧ LastD D J n ∧ Below w.heap.size w w' := by
  have hmm := @run_makeMap Tryz.prog
  go_enter Tryz.func115, Tryz.ntmps115
  go_wp2
  go_loopw [9] (fun i wr => ∃ k : Nat, k ≤ n ∧ i = .int .i64 k ∧ (∃ D : DataW Unit, wr.ownsMap Tryz.prog 3 (plainElem Tryz.prog 3) w.heap.size k D ∧ LastD D J k) ∧ Below w.heap.size w wr) (fun i _ => n - (intOf i).toNat)
  case atStart => exact ⟨0, Nat.zero_le _, rfl, ⟨_, World.ownsMap_made _ _ _ _, lastD_nil J⟩, (Below.refl _ _).alloc (Nat.le_refl _) _⟩
  case round =>
    obtain ⟨k, hk, rfl, ⟨D, hown, hlast⟩, hb⟩ := hrel
    by_cases hlt : k < n
    · obtain rfl := h.ad (by omega)
      have hc0 := (h.below' hb).c0 k hlt
      have hc1 := (h.below' hb).c1 k hlt
      have hc2 := (h.below' hb).c2 k hlt
      obtain ⟨hr0, _, _⟩ := h.rng k hlt
      obtain ⟨⟨x0, x1, x2⟩, hx⟩ : ∃ x, x = t3 J k := ⟨_, rfl⟩
      rw [← hx] at hc0 hc1 hc2 hr0
      dsimp only at hc0 hc1 hc2 hr0
      have HX := hid hx
      clear hx
      have hlt' : (k : Int) < (n : Int) := by omega
      obtain ⟨V, hV⟩ : ∃ V, V = wr.alloc (.cells #[.int .i64 x0, .int .i64 x1, .int .i64 x2] 153) := ⟨_, rfl⟩
      have hbV : Below w.heap.size w V := by rw [hV]; exact hb.alloc hb.size _
      have hownV : V.ownsMap Tryz.prog 3 (plainElem Tryz.prog 3) w.heap.size k D := by rw [hV]; exact hown.alloc _
      have hmV : MC V wr.heap.size [.int .i64 x0, .int .i64 x1, .int .i64 x2] := by rw [hV]; exact MC.made wr _ _
      have y0 : V.cell? ⟨wr.heap.size, 0, none⟩ = some (.int .i64 x0) := hmV 0 (by simp)
      have hml := hownV.lt
      clear hmV hown
      go_upto_region 5 with fail
      rw [← hV]
      clear hV
      by_cases hz : x0 = 0
      · have hz' : (x0 == 0) = true := by simpa using hz
        have HZ := hid hz
        clear hz
        go_wp2
        go_roundw
        case rel => exact ⟨k + 1, by omega, by go_num, ⟨D, ownsMap_mono hownV (by omega), hlast.skip (by rw [← HX.out]; exact HZ.out)⟩, hbV⟩
        case measure => simp [intOf]; omega
      · have hz' : (x0 == 0) = false := by simpa using hz
        have HZ := hid hz
        have hwf : (Lit.int .i64 x0).wf = true := WalkArith.wf_i64 hr0
        have hkey := Maps.keyOf_int_mk (P := Tryz.prog) Tryz.underlying3 hwf
        go_wp2_with (at_mapUpdate; refine wpList_mapUpdate_own _ rfl _ _ _ 167 rfl 3 3 mapLawI Tryz.underlying167 _ w.heap.size k D rfl hownV (by unfold maxLen; omega) _ _ _ rfl rfl hkey _ [] (plainElem_int Tryz.underlying3 (WalkArith.wf_i64 (by omega))) ?_; intro w1 hown1 hgrow1)
        have hb1 : Below w.heap.size w w1 := hbV.grown hgrow1 (by have := hbV.size; omega) (by intro k hk; cases hk; exact Nat.le_refl _)
        clear hgrow1 hownV
        go_wp2
        go_roundw
        case rel => exact ⟨k + 1, by omega, by go_num, ⟨_, hown1, hlast.put (by rw [← HX.out]) HZ.out⟩, hb1⟩
        case measure => simp [intOf]; omega
    · obtain rfl : k = n := by omega
      go_wp2
      go_ret
      exact ⟨D, rfl, hown, hlast, hb⟩
end Go.Proofs.YthopfmhagddhgaaGreat

namespace Go.Proofs.YthopfmhagddhgaaGreat
open Go.RowKit Go.Maps

/-- A job among all. -/
def jobOk (ts : List TaskD) (R : List ByteArray) (wk now ep gv : Int) (J : List Tr) (i : Nat) (far : Nat → Prop) : Prop :=
  t3 J i = (0, 0, 0) ∨ (jobIn wk now ep gv (t3 J i) ∧ (∀ i', far i' → i' < J.length → ¬ (t3 J i').1 = (t3 J i).1) ∧ dueOk ts R i)
def jobsAll (ts : List TaskD) (R : List ByteArray) (wk now ep gv : Int) (J : List Tr) : Prop := ∀ i, i < J.length → jobOk ts R wk now ep gv J i (fun i' => i' ≠ i)
def jobsUp (ts : List TaskD) (R : List ByteArray) (wk now ep gv : Int) (J : List Tr) (k : Nat) : Prop := ∀ i, i < k → jobOk ts R wk now ep gv J i (fun i' => i < i')
def jobsDn (ts : List TaskD) (R : List ByteArray) (wk now ep gv : Int) (J : List Tr) (k : Nat) : Prop := ∀ i, i < k → jobOk ts R wk now ep gv J i (fun i' => i' < i)
theorem jobIn_ne {wk now ep gv : Int} {x : Tr} (h : jobIn wk now ep gv x) (he : 1 ≤ ep) : ¬ x.1 = 0 := by have := h.1; omega
theorem jobsUp.all {ts : List TaskD} {R : List ByteArray} {wk now ep gv : Int} {J : List Tr} (h : jobsUp ts R wk now ep gv J J.length) (he : 1 ≤ ep) : jobsAll ts R wk now ep gv J := fun i hi => by
  rcases h i hi with h0 | ⟨h1, h2, h3⟩
  · exact .inl h0
  · refine .inr ⟨h1, fun i' hne hi' he' => ?_, h3⟩
    rcases Nat.lt_or_gt_of_ne hne with hlt | hgt
    · rcases h i' hi' with g0 | ⟨_, g2, _⟩
      · rw [g0] at he'; exact jobIn_ne h1 he he'.symm
      · exact g2 i hlt hi he'.symm
    · exact h2 i' hgt hi' he'
theorem jobsDn.all {ts : List TaskD} {R : List ByteArray} {wk now ep gv : Int} {J : List Tr} (h : jobsDn ts R wk now ep gv J J.length) (he : 1 ≤ ep) : jobsAll ts R wk now ep gv J := fun i hi => by
  rcases h i hi with h0 | ⟨h1, h2, h3⟩
  · exact .inl h0
  · refine .inr ⟨h1, fun i' hne hi' he' => ?_, h3⟩
    rcases Nat.lt_or_gt_of_ne hne with hlt | hgt
    · exact h2 i' hlt hi' he'
    · rcases h i' hi' with g0 | ⟨_, g2, _⟩
      · rw [g0] at he'; exact jobIn_ne h1 he he'.symm
      · exact g2 i hgt hi he'.symm

theorem ownsMap_block {P : Program} {w w' : World} {t : TypeId} {R : Value → Option (DataW Unit × List MemPlace)} {b n : Nat} {D : DataW Unit} (h : w.ownsMap P t R b n D) (hb : w'.heap[b]? = w.heap[b]?) : w'.ownsMap P t R b n D := by
  obtain ⟨es, clock, h1, h2, h3, h4⟩ := h
  exact ⟨es, clock, hb.trans h1, h2, h3, h4⟩
/-- A look-up that is asked for, of a map that the call owns. -/
theorem wpList_lookup_g {P : Program} (w : World) {ops : Array Oper} {rest : List Oper} {o : Oper} {a : Act} {Q : Exit → Act → World → Prop}
    (hw : Region.wanted o (yielded ops a.tmps) = true) (m x : Operand) (t : TypeId) (hop : o.op = Op.lookup t m x false)
    (k e : TypeId) (q : IntKind) (K : Keyed P k) (ht : P.underlying t = some (.map k e)) (he : P.underlying e = some (.int q)) (hz : (zeroValue e).run P w = .ok (.int q 0) w) (b n : Nat) (D : DataW Unit)
    (hm : a.eval m = .map (some b)) (hown : w.ownsMap P k (plainElem P e) b n D) (key : Value) (kl : Lit) (hx : a.eval x = key) (hkey : keyOf P k key = some kl)
    (hK : ∀ c : Int, D.atKey kl (.lit (.int q 0)) = .lit (.int q c) → (Lit.int q c).wf = true → wpList P ops Q rest (a.put o.dst (.int q c)) w) :
    wpList P ops Q (o :: rest) a w := by
  refine wpList_step fun K' hK' => ?_
  rw [if_pos hw]
  obtain ⟨c, hrun, hat, hwc⟩ := hown.lookup_int K ht he hz hkey
  unfold Oper.wp
  simp [execOp, hop, hm, hx, hrun, Result.andThen]
  exact hK' _ _ (hK c hat hwc)

set_option maxHeartbeats 2000000 in
set_option maxRecDepth 100000 in
theorem jobsHold_any (wk : Int) (up : Bool) (now sn ep gv : Int) (a1 a2 ar aj az ao : Option Addr) (n1 c1 n2 c2 nr cr nj cj ns cs no co : Nat) (pa : Option Addr) (pb po pc : Nat) (ts : List TaskD) (bj oj br or' : Nat) (J : List Tr) (R : List ByteArray) (w : World) (hJ : T3At w aj bj oj nj J) (hR : StrsAt w ar br or' nr R) (hT : TasksAt w pa pb po nr ts)
    (hA : allDeps ts nr) (hnj : nj ≤ 1048576) (he0 : 1 ≤ ep) (he1 : ep ≤ 100000) (hg0 : 0 ≤ gv) (hg1 : gv ≤ 1000000) (hn0 : 0 ≤ now) (hn1 : now ≤ 1000000) :
    Calls Tryz.prog 88 #[.agg #[.int .i64 wk, .bool up, .int .i64 now, .int .i64 sn, .int .i64 ep, .int .i64 gv, .slice a1 n1 c1, .slice a2 n2 c2, .slice ar nr cr, .slice aj nj cj, .slice az ns cs, .slice ao no co], .agg #[.slice pa nr pc]] w fun e w' => RetB e (nj = nr ∧ jobsAll ts R wk now ep gv J) ∧ Below w.heap.size w w' := by
  obtain ⟨W, hW⟩ : ∃ W, W = (w.alloc (.cells #[.int .i64 wk, .bool up, .int .i64 now, .int .i64 sn, .int .i64 ep, .int .i64 gv, .slice a1 n1 c1, .slice a2 n2 c2, .slice ar nr cr, .slice aj nj cj, .slice az ns cs, .slice ao no co] 47)).alloc (.cells #[.slice pa nr pc] 41) := ⟨_, rfl⟩
  have hbW : Below w.heap.size w W := by rw [hW]; exact ((Below.refl _ _).alloc (Nat.le_refl _) _).alloc (by simp) _
  have hsW : W.heap.size = w.heap.size + 2 := by rw [hW]; simp
  have hq : CF W w.heap.size [.int .i64 wk, .bool up, .int .i64 now, .int .i64 sn, .int .i64 ep, .int .i64 gv, .slice a1 n1 c1, .slice a2 n2 c2, .slice ar nr cr, .slice aj nj cj, .slice az ns cs, .slice ao no co] ∧ CF W (w.heap.size + 1) [.slice pa nr pc] := by
    have x1 := CF.made w #[.int .i64 wk, .bool up, .int .i64 now, .int .i64 sn, .int .i64 ep, .int .i64 gv, .slice a1 n1 c1, .slice a2 n2 c2, .slice ar nr cr, .slice aj nj cj, .slice az ns cs, .slice ao no co] 47
    have x3 := CF.made (w.alloc (.cells #[.int .i64 wk, .bool up, .int .i64 now, .int .i64 sn, .int .i64 ep, .int .i64 gv, .slice a1 n1 c1, .slice a2 n2 c2, .slice ar nr cr, .slice aj nj cj, .slice az ns cs, .slice ao no co] 47)) #[.slice pa nr pc] 41
    rw [World.size_alloc] at x3
    rw [hW]; exact ⟨x1.block (Below.heap_alloc _ _ _ (by simp)), x3⟩
  have hmax := hT.max
  unfold maxLen at hmax
  have HJL := hid hJ.len
  by_cases hn : nj = nr
  · subst hn
    have z9 : W.cell? ⟨w.heap.size, 9, none⟩ = some (.slice aj nj cj) := (hq.1 9 (by simp)).1
    have zp : W.cell? ⟨w.heap.size + 1, 0, none⟩ = some (.slice pa nj pc) := (hq.2 0 (by simp)).1
    go_enter Tryz.func88, Tryz.ntmps88
    go_upto_region 1 with fail
    rw [← hW]
    clear hW
    go_wp2_with fail
    refine (byLease_any aj bj oj nj cj J _ (hJ.below' hbW) hnj).mono ?_
    rintro e w1 ⟨D, rfl, hown, hlast, hb1⟩
    rw [hsW] at hown
    rw [hsW]
    have z9' := keepB hb1 z9
    have HLAST := hid hlast
    clear hlast z9 zp
    go_wp2
    go_loopw [21] (fun i wr => ∃ k : Nat, k ≤ nj ∧ i = .int .i64 k ∧ jobsUp ts R wk now ep gv J k ∧ wr.ownsMap Tryz.prog 3 (plainElem Tryz.prog 3) (w.heap.size + 2) nj D ∧ Below W.heap.size W wr) (fun i _ => nj - (intOf i).toNat)
    case atStart => exact ⟨0, Nat.zero_le _, rfl, fun j hj => absurd hj (by omega), hown, hb1⟩
    case round =>
      clear hown hb1 z9'
      obtain ⟨k, hk, rfl, hok, hown, hb⟩ := hrel
      have hB := hbW.trans (hb.mono (by omega))
      by_cases hlt : k < nj
      · obtain rfl := hJ.ad (by omega)
        have hc0 := (hJ.below' hB).c0 k hlt
        have hc1 := (hJ.below' hB).c1 k hlt
        have hc2 := (hJ.below' hB).c2 k hlt
        obtain ⟨hr0, _, _⟩ := hJ.rng k hlt
        obtain ⟨⟨x0, x1, x2⟩, hx⟩ : ∃ x, x = t3 J k := ⟨_, rfl⟩
        rw [← hx] at hc0 hc1 hc2 hr0
        dsimp only at hc0 hc1 hc2 hr0
        have HX := hid hx
        clear hx
        have hlt' : (k : Int) < (nj : Int) := by omega
        obtain ⟨V, hV⟩ : ∃ V, V = wr.alloc (.cells #[.int .i64 x0, .int .i64 x1, .int .i64 x2] 153) := ⟨_, rfl⟩
        have hbV1 : Below wr.heap.size wr V := by rw [hV]; exact (Below.refl _ _).alloc (Nat.le_refl _) _
        have hbV : Below W.heap.size W V := hb.trans (hbV1.mono hb.size)
        have hBV := hbW.trans (hbV.mono (by omega))
        have hownV : V.ownsMap Tryz.prog 3 (plainElem Tryz.prog 3) (w.heap.size + 2) nj D := by rw [hV]; exact hown.alloc _
        have hmV : MC V wr.heap.size [.int .i64 x0, .int .i64 x1, .int .i64 x2] := by rw [hV]; exact MC.made wr _ _
        have hlV : wr.heap.size < V.heap.size := by rw [hV]; simp
        have y0 : V.cell? ⟨wr.heap.size, 0, none⟩ = some (.int .i64 x0) := hmV 0 (by simp)
        have y1 : V.cell? ⟨wr.heap.size, 1, none⟩ = some (.int .i64 x1) := hmV 1 (by simp)
        have y2 : V.cell? ⟨wr.heap.size, 2, none⟩ = some (.int .i64 x2) := hmV 2 (by simp)
        clear hmV hown
        go_upto_region 7 with fail
        rw [← hV]
        clear hV
        by_cases hz : x0 = 0 ∧ x1 = 0 ∧ x2 = 0
        · obtain ⟨rfl, rfl, rfl⟩ := hz
          go_wp2
          go_roundw
          case rel =>
            refine ⟨k + 1, by omega, by go_num, fun j hj => ?_, hownV, hbV⟩
            by_cases e : j = k
            · subst e; exact .inl HX.out.symm
            · exact hok j (by omega)
          case measure => simp [intOf]; omega
        · have HZ := hid hz
          have b0 : V.cell? ⟨w.heap.size, 0, none⟩ = some (.int .i64 wk) := keepB hbV (hq.1 0 (by simp)).1
          have b1 : V.cell? ⟨w.heap.size, 1, none⟩ = some (.bool up) := keepB hbV (hq.1 1 (by simp)).1
          have b2 : V.cell? ⟨w.heap.size, 2, none⟩ = some (.int .i64 now) := keepB hbV (hq.1 2 (by simp)).1
          have b3 : V.cell? ⟨w.heap.size, 3, none⟩ = some (.int .i64 sn) := keepB hbV (hq.1 3 (by simp)).1
          have b4 : V.cell? ⟨w.heap.size, 4, none⟩ = some (.int .i64 ep) := keepB hbV (hq.1 4 (by simp)).1
          have b5 : V.cell? ⟨w.heap.size, 5, none⟩ = some (.int .i64 gv) := keepB hbV (hq.1 5 (by simp)).1
          have b6 : V.cell? ⟨w.heap.size, 6, none⟩ = some (.slice a1 n1 c1) := keepB hbV (hq.1 6 (by simp)).1
          have b7 : V.cell? ⟨w.heap.size, 7, none⟩ = some (.slice a2 n2 c2) := keepB hbV (hq.1 7 (by simp)).1
          have b8 : V.cell? ⟨w.heap.size, 8, none⟩ = some (.slice ar nj cr) := keepB hbV (hq.1 8 (by simp)).1
          have b9 : V.cell? ⟨w.heap.size, 9, none⟩ = some (.slice (some ⟨bj, oj, none⟩) nj cj) := keepB hbV (hq.1 9 (by simp)).1
          have b10 : V.cell? ⟨w.heap.size, 10, none⟩ = some (.slice az ns cs) := keepB hbV (hq.1 10 (by simp)).1
          have b11 : V.cell? ⟨w.heap.size, 11, none⟩ = some (.slice ao no co) := keepB hbV (hq.1 11 (by simp)).1
          have bp : V.cell? ⟨w.heap.size + 1, 0, none⟩ = some (.slice pa nj pc) := keepB hbV (hq.2 0 (by simp)).1
          by_cases hz0 : x0 = 0
          · subst hz0
            by_cases hz1 : x1 = 0
            · subst hz1
              have hz2 : ¬ x2 = 0 := fun h => hz ⟨rfl, rfl, h⟩
              clear hz
              go_wp2_with fail
              refine (jobHolds_any wk up now sn ep gv a1 a2 ar (some ⟨bj, oj, none⟩) az ao n1 c1 n2 c2 nj cr nj cj ns cs no co 0 0 x2 _ he0 he1 hg0 hg1 hn0 hn1).mono ?_
              rintro e V1 ⟨⟨r, rfl, hr⟩, hb1⟩
              have hb1V : Below W.heap.size W V1 := hbV.trans (hb1.mono hbV.size)
              have hB1 := hbW.trans (hb1V.mono (by omega))
              clear b0 b1 b2 b3 b4 b5 b6 b7 b8 b9 b10 b11 bp
              cases r with
              | false =>
                have HN := hid (show ¬ jobsAll ts R wk now ep gv J from fun hh => by
                  rcases hh k (by rw [HJL.out]; exact hlt) with h0 | ⟨h1, _⟩
                  · exact HZ.out (by rw [← HX.out] at h0; simpa using h0)
                  · rw [← HX.out] at h1; have := hr.2 h1; cases this)
                clear hr
                go_wp2
                go_ret
                exact ⟨RetB.f fun hh => HN.out hh.2, hB1⟩
              | true =>
                exact absurd rfl (jobIn_ne (hr.1 rfl) he0)
            · clear hz
              go_wp2_with fail
              refine (jobHolds_any wk up now sn ep gv a1 a2 ar (some ⟨bj, oj, none⟩) az ao n1 c1 n2 c2 nj cr nj cj ns cs no co 0 x1 x2 _ he0 he1 hg0 hg1 hn0 hn1).mono ?_
              rintro e V1 ⟨⟨r, rfl, hr⟩, hb1⟩
              have hb1V : Below W.heap.size W V1 := hbV.trans (hb1.mono hbV.size)
              have hB1 := hbW.trans (hb1V.mono (by omega))
              clear b0 b1 b2 b3 b4 b5 b6 b7 b8 b9 b10 b11 bp
              cases r with
              | false =>
                have HN := hid (show ¬ jobsAll ts R wk now ep gv J from fun hh => by
                  rcases hh k (by rw [HJL.out]; exact hlt) with h0 | ⟨h1, _⟩
                  · exact HZ.out (by rw [← HX.out] at h0; simpa using h0)
                  · rw [← HX.out] at h1; have := hr.2 h1; cases this)
                clear hr
                go_wp2
                go_ret
                exact ⟨RetB.f fun hh => HN.out hh.2, hB1⟩
              | true =>
                exact absurd rfl (jobIn_ne (hr.1 rfl) he0)
          · clear hz
            have hz := hz0
            clear hz0
            go_wp2_with fail
            refine (jobHolds_any wk up now sn ep gv a1 a2 ar (some ⟨bj, oj, none⟩) az ao n1 c1 n2 c2 nj cr nj cj ns cs no co x0 x1 x2 _ he0 he1 hg0 hg1 hn0 hn1).mono ?_
            rintro e V1 ⟨⟨r, rfl, hr⟩, hb1⟩
            have hb1V : Below W.heap.size W V1 := hbV.trans (hb1.mono hbV.size)
            have hB1 := hbW.trans (hb1V.mono (by omega))
            clear b0 b1 b2 b3 b4 b5 b6 b7 b8 b9 b10 b11 bp
            cases r with
            | false =>
              have HN := hid (show ¬ jobsAll ts R wk now ep gv J from fun hh => by
                rcases hh k (by rw [HJL.out]; exact hlt) with h0 | ⟨h1, _⟩
                · exact HZ.out (by rw [← HX.out] at h0; simpa using h0)
                · rw [← HX.out] at h1; have := hr.2 h1; cases this)
              clear hr
              go_wp2
              go_ret
              exact ⟨RetB.f fun hh => HN.out hh.2, hB1⟩
            | true =>
              have HIN := hid (hr.1 rfl)
              clear hr
              have y0' : V1.cell? ⟨wr.heap.size, 0, none⟩ = some (.int .i64 x0) := keepB hb1 y0
              have bp' : V1.cell? ⟨w.heap.size + 1, 0, none⟩ = some (.slice pa nj pc) := keepB hb1V (hq.2 0 (by simp)).1
              have b8' : V1.cell? ⟨w.heap.size, 8, none⟩ = some (.slice ar nj cr) := keepB hb1V (hq.1 8 (by simp)).1
              have hml := hownV.lt
              have hown1 : V1.ownsMap Tryz.prog 3 (plainElem Tryz.prog 3) (w.heap.size + 2) nj D := ownsMap_block hownV (hb1.block _ hml)
              have hkey := Maps.keyOf_int_mk (P := Tryz.prog) Tryz.underlying3 (WalkArith.wf_i64 hr0)
              have hstr := hR.below' hB1
              have htas := hT.below' hB1
              go_wp2_with (at_lookup; refine wpList_lookup_g _ rfl _ _ 167 rfl 3 3 .i64 mapLawI Tryz.underlying167 Tryz.underlying3 (zeroI _) (w.heap.size + 2) nj D rfl hown1 _ _ rfl hkey ?_; intro cl hat hwc; have hcl : cl = (lastI J nj x0 : Int) := (by have h9 := (HLAST.out).2 x0; rw [h9] at hat; simpa using hat.symm); clear hat hwc; obtain ⟨li, hli⟩ : ∃ li, li = lastI J nj x0 := ⟨_, rfl⟩; rw [← hli] at hcl; have HLI := hid hli; clear hli; subst hcl; have hgl := last_ge (J := J) (k := nj) (i := k) hlt (by rw [← HX.out]; exact hz); rw [← HX.out] at hgl; dsimp only at hgl; rw [← HLI.out] at hgl; have HGL := hid hgl; clear hgl)
              · have hlk : li = k := by omega
                have HLK := hid hlk
                clear hlk
                refine (isDue_any pa pb po nj pc ts _ br or' cr R k _ htas hstr hlt hA).mono ?_
                rintro e V2 ⟨⟨r2, rfl, hr2⟩, hb2⟩
                have hb2V : Below W.heap.size W V2 := hb1V.trans (hb2.mono hb1V.size)
                have hB2 := hbW.trans (hb2V.mono (by omega))
                have hown2 := ownsMap_block hown1 (hb2.block _ hown1.lt)
                cases r2 with
                | false =>
                  have HN := hid (show ¬ jobsAll ts R wk now ep gv J from fun hh => by
                    rcases hh k (by rw [HJL.out]; exact hlt) with h0 | ⟨_, _, h3⟩
                    · exact HZ.out (by rw [← HX.out] at h0; simpa using h0)
                    · have := hr2.2 h3; cases this)
                  clear hr2 hstr htas
                  go_wp2
                  go_ret
                  exact ⟨RetB.f fun hh => HN.out hh.2, hB2⟩
                | true =>
                  have HDU := hid (hr2.1 rfl)
                  clear hr2 hstr htas
                  go_wp2
                  go_roundw
                  case rel =>
                    refine ⟨k + 1, by omega, by go_num, fun j hj => ?_, hown2, hb2V⟩
                    by_cases e : j = k
                    · subst e
                      refine .inr ⟨by rw [← HX.out]; exact HIN.out, fun i' hi1 hi2 he => ?_, HDU.out⟩
                      have h9 := last_ge (J := J) (k := nj) (i := i') (by rw [HJL.out] at hi2; exact hi2) (by rw [he, ← HX.out]; exact jobIn_ne HIN.out he0)
                      rw [he, ← HX.out] at h9
                      dsimp only at h9
                      rw [← HLI.out, HLK.out] at h9
                      omega
                    · exact hok j (by omega)
                  case measure => simp [intOf]; omega
              · have hlk : ¬ li = k := by omega
                have HN := hid (show ¬ jobsAll ts R wk now ep gv J from fun hh => by
                  rcases hh k (by rw [HJL.out]; exact hlt) with h0 | ⟨_, h2, _⟩
                  · exact HZ.out (by rw [← HX.out] at h0; simpa using h0)
                  · exact h2 li hlk (by rw [HJL.out]; exact HGL.out.2.1) (by rw [← HX.out]; exact HGL.out.2.2))
                go_ret
                exact ⟨RetB.f fun hh => HN.out hh.2, hB1⟩
      · obtain rfl : k = nj := by omega
        go_wp2
        go_ret
        exact ⟨RetB.t ⟨trivial, jobsUp.all (by rw [HJL.out]; exact hok) he0⟩, hB⟩
  · have hn' : ((nj : Int) == (nr : Int)) = false := by simp; omega
    have hn2 : ¬ ((nj : Int) = (nr : Int)) := by omega
    go_enter Tryz.func88, Tryz.ntmps88
    go_wp2
    go_ret
    exact ⟨RetB.f fun hh => hn hh.1, by rw [← hW]; exact hbW⟩
end Go.Proofs.YthopfmhagddhgaaGreat
