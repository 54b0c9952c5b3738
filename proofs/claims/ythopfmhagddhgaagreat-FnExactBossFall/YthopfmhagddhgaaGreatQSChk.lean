import Derived.Test.YthopfmhagddhgaaGreatQNam
import Derived.Test.YthopfmhagddhgaaGreatQERs
namespace Go.Proofs.YthopfmhagddhgaaGreat
open Go.RowKit

/-- What every round reads: the box, and the tasks. -/
theorem boxed {w wr : World} {a : Option Addr} {b o n c : Nat} {ts : List TaskD} (h : TasksAt w a b o n ts) (hb : Below (w.heap.size + 1) (w.alloc (.cells #[.slice a n c] 41)) wr) :
    wr.cell? ⟨w.heap.size, 0, none⟩ = some (.slice a n c) ∧ TasksAt wr a b o n ts ∧ Below w.heap.size w wr := by
  have hb0 : Below w.heap.size w (w.alloc (.cells #[.slice a n c] 41)) := (Below.refl _ _).alloc (Nat.le_refl _) _
  have hb1 := hb0.trans (hb.mono (by omega))
  exact ⟨(hb.cell (p := ⟨w.heap.size, 0, none⟩) (by simp)).trans (by simp), h.below' hb1, hb1⟩

theorem not_names {ts : List TaskD} {k n : Nat} (hk : k < n) (h : ¬ nameOk (nm ts k) ∨ ∃ j, j < k ∧ nm ts j = nm ts k) : ¬ namesOk ts n := fun hh => by
  rcases h with h | ⟨j, hj, h⟩
  · exact h (hh k hk).1
  · exact (hh k hk).2 j hj h

theorem beq_names {s t : ByteArray} (h : s ≠ t) : (s.toList == t.toList) = false := by
  rw [beq_eq_false_iff_ne]
  intro e
  rw [ByteArray.toList_eq, ByteArray.toList_eq] at e
  exact h (bytes_ext e)

set_option maxHeartbeats 4000000 in
theorem specCheckPlan_any (a : Option Addr) (b o n c : Nat) (ts : List TaskD) (w : World) (h : TasksAt w a b o n ts) :
    Calls Tryz.prog 29 #[.agg #[.slice a n c]] w fun e w' => RetC e ts ∧ Below w.heap.size w w' := by
  have hmax := h.max
  unfold maxLen at hmax
  have hb0 : Below w.heap.size w (w.alloc (.cells #[.slice a n c] 41)) := (Below.refl _ _).alloc (Nat.le_refl _) _
  have HL : Hid (ts.length = n) := h.len
  by_cases h1 : n < 1
  · go_enter Tryz.func29, Tryz.ntmps29
    go_wp2
    go_ret
    exact ⟨RetC.mk (.inl ⟨rfl, by rw [HL.out]; omega⟩), hb0⟩
  by_cases h2 : 40 < n
  · go_enter Tryz.func29, Tryz.ntmps29
    go_wp2
    go_ret
    exact ⟨RetC.mk (.inl ⟨rfl, by rw [HL.out]; omega⟩), hb0⟩
  have hin : Hid (1 ≤ ts.length ∧ ts.length ≤ 40) := by show 1 ≤ ts.length ∧ ts.length ≤ 40; rw [HL.out]; omega
  obtain rfl := h.ad (by omega)
  go_enter Tryz.func29, Tryz.ntmps29
  go_wp2
  go_loopw [4] (fun i wr => ∃ k : Nat, k ≤ n ∧ i = .int .i64 k ∧ namesOk ts k ∧ Below (w.heap.size + 1) (w.alloc (.cells #[.slice (some ⟨b, o, none⟩) n c] 41)) wr) (fun i _ => n - (intOf i).toNat)
  case atStart => exact ⟨0, Nat.zero_le _, rfl, fun j hj => absurd hj (by omega), Below.refl _ _⟩
  case round =>
    obtain ⟨k, hk, rfl, hok, hb⟩ := hrel
    by_cases hlt : k < n
    · obtain ⟨hbox, hat, hbw⟩ := boxed h hb
      obtain ⟨t, a', b', o', n', c', ht, hc0, hc1, hc2, hi', hsz, hr1, hr2⟩ := hat.get hlt
      have hlt' : (k : Int) < (n : Int) := by omega
      have HT : Hid (t = ts.getD k dT) := ht
      clear ht hat hi' hc1 hc2
      go_wp2_with fail
      refine (l1NameOk_any t.name _ hsz).mono ?_
      rintro e w1 ⟨⟨r, rfl, hr⟩, hw1⟩
      have HR : Hid _ := hr
      clear hr
      rw [hw1]
      clear hw1 w1
      cases r
      · go_wp2
        go_ret
        exact ⟨RetC.mk (.inr ⟨hin.out, .inl ⟨rfl, by rw [HL.out]; exact not_names hlt (.inl fun hh => absurd (HR.out.2 (by rw [HT.out]; exact hh)) (by simp))⟩⟩), hbw⟩
      go_wp2
      go_loopw [5] (fun x wr2 => ∃ m : Nat, m ≤ k ∧ x = .int .i64 m ∧ (∀ j, j < m → nm ts j ≠ nm ts k) ∧ Below (w.heap.size + 1) (w.alloc (.cells #[.slice (some ⟨b, o, none⟩) n c] 41)) wr2) (fun x _ => k - (intOf x).toNat)
      case atStart => exact ⟨0, Nat.zero_le _, rfl, fun j hj => absurd hj (by omega), hb⟩
      case round =>
        obtain ⟨m, hm, rfl, hne, hbm⟩ := hrel
        by_cases hlm : m < k
        · obtain ⟨hbox2, hat2, hbw2⟩ := boxed h hbm
          obtain ⟨t2, a2, b2, o2, n2, c2, ht2, hd0, _, _, _, _, _, _⟩ := hat2.get (show m < n by omega)
          obtain ⟨t3, a3, b3, o3, n3, c3, ht3, he0, _, _, _, _, _, _⟩ := hat2.get hlt
          have hlm' : (m : Int) < (k : Int) := by omega
          have hmn' : (m : Int) < (n : Int) := by omega
          have HT2 : Hid (t2.name = nm ts m) := by show t2.name = nm ts m; rw [nm, ht2]
          have HT3 : Hid (t3.name = nm ts k) := by show t3.name = nm ts k; rw [nm, ht3]
          clear ht2 ht3 hat2
          by_cases e : t2.name = t3.name
          · rw [e] at hd0
            have HE : Hid _ := e
            clear e
            go_wp2
            go_quiet (fail)
            go_wp2
            go_ret
            exact ⟨RetC.mk (.inr ⟨hin.out, .inl ⟨rfl, by rw [HL.out]; exact not_names hlt (.inr ⟨m, hlm, by rw [← HT2.out, ← HT3.out]; exact HE.out⟩)⟩⟩), below_drewN hbw2 _⟩
          · have hbq := beq_names e
            go_wp2
            go_quiet (fail)
            go_wp2
            go_roundw
            case rel =>
              refine ⟨m + 1, by omega, by go_num, fun j hj => ?_, below_drewN hbm _⟩
              by_cases ej : j = m
              · subst ej; rw [← HT2.out, ← HT3.out]; exact e
              · exact hne j (by omega)
            case measure => simp [intOf]; omega
        · obtain rfl : m = k := by omega
          go_wp2
          go_roundw
          case rel =>
            refine ⟨m + 1, by omega, by go_num, fun j hj => ?_, hbm⟩
            by_cases ej : j = m
            · subst ej; exact ⟨by rw [nm, ← HT.out]; exact HR.out.1 (by simp), hne⟩
            · exact hok j (by omega)
          case measure => simp [intOf]; omega
    · obtain rfl : k = n := by omega
      have HN : Hid (namesOk ts ts.length) := by show namesOk ts ts.length; rw [HL.out]; exact hok
      clear hok
      go_wp2
      go_loopw [6] (fun i wr => ∃ m : Nat, m ≤ k ∧ i = .int .i64 m ∧ costsOk ts m ∧ Below (w.heap.size + 1) (w.alloc (.cells #[.slice (some ⟨b, o, none⟩) k c] 41)) wr) (fun i _ => k - (intOf i).toNat)
      case atStart => exact ⟨0, Nat.zero_le _, rfl, fun j hj => absurd hj (by omega), hb⟩
      case round =>
        obtain ⟨m, hm, rfl, hok, hbm⟩ := hrel
        obtain ⟨hbox, hat, hbw⟩ := boxed h hbm
        by_cases hlt2 : m < k
        · obtain ⟨t, a', b', o', n', c', ht, hc0, hc1, hc2, hi', hsz, hr1, hr2⟩ := hat.get hlt2
          have hlt' : (m : Int) < (k : Int) := by omega
          have HT : Hid (t = ts.getD m dT) := ht
          clear ht hat hi' hc0 hc2
          by_cases g1 : t.cost < 1
          · go_wp2
            go_ret
            refine ⟨RetC.mk (.inr ⟨hin.out, .inr ⟨HN.out, .inl ⟨rfl, ?_⟩⟩⟩), hbw⟩
            rw [HL.out]; intro hh; have := (hh m hlt2).1; rw [← HT.out] at this; omega
          by_cases g2 : 20 < t.cost
          · go_wp2
            go_ret
            refine ⟨RetC.mk (.inr ⟨hin.out, .inr ⟨HN.out, .inl ⟨rfl, ?_⟩⟩⟩), hbw⟩
            rw [HL.out]; intro hh; have := (hh m hlt2).2; rw [← HT.out] at this; omega
          · go_wp2
            go_roundw
            case rel =>
              refine ⟨m + 1, by omega, by go_num, fun j hj => ?_, hbm⟩
              by_cases ej : j = m
              · subst ej; rw [← HT.out]; exact ⟨by omega, by omega⟩
              · exact hok j (by omega)
            case measure => simp [intOf]; omega
        · obtain rfl : m = k := by omega
          have HC : Hid (costsOk ts ts.length) := by show costsOk ts ts.length; rw [HL.out]; exact hok
          clear hok hbox hat hbw
          go_wp2
          go_loopw [7] (fun i wr => ∃ k : Nat, k ≤ m ∧ i = .int .i64 k ∧ allDeps ts k ∧ Below (w.heap.size + 1) (w.alloc (.cells #[.slice (some ⟨b, o, none⟩) m c] 41)) wr) (fun i _ => m - (intOf i).toNat)
          case atStart => exact ⟨0, Nat.zero_le _, rfl, fun j hj => absurd hj (by omega), hbm⟩
          case round =>
            obtain ⟨k, hk, rfl, hok, hbk⟩ := hrel
            obtain ⟨hbox, hat, hbw⟩ := boxed h hbk
            by_cases hlt3 : k < m
            · obtain ⟨t, a', b', o', n', c', ht, hc0, hc1, hc2, hi', hsz, hr1, hr2⟩ := hat.get hlt3
              have hlt' : (k : Int) < (m : Int) := by omega
              have HT : Hid (t = ts.getD k dT) := ht
              have hmx := hi'.max
              unfold maxLen at hmx
              clear ht hat hc0 hc1
              by_cases g1 : 8 < n'
              · go_wp2
                go_ret
                refine ⟨RetC.mk (.inr ⟨hin.out, .inr ⟨HN.out, .inr ⟨HC.out, .inl ⟨rfl, ?_⟩⟩⟩⟩), hbw⟩
                rw [HL.out]; intro hh; have := (hh k hlt3).1; rw [← HT.out, hi'.len] at this; omega
              go_wp2
              go_loopw [9] (fun x wr2 => ∃ j : Nat, j ≤ n' ∧ x = .int .i64 j ∧ asc k t.deps j ∧ Below (w.heap.size + 1) (w.alloc (.cells #[.slice (some ⟨b, o, none⟩) m c] 41)) wr2 ∧ Below wr.heap.size wr wr2) (fun x _ => n' - (intOf x).toNat)
              case atStart => exact ⟨0, Nat.zero_le _, rfl, fun j hj => absurd hj (by omega), hbk, Below.refl _ _⟩
              case round =>
                obtain ⟨j, hj, rfl, hasc, hbj, hbr⟩ := hrel
                obtain ⟨hbox2, _, hbw2⟩ := boxed h hbj
                by_cases hlt4 : j < n'
                · obtain rfl := hi'.ad (by omega)
                  have hir := hi'.below' hbr
                  have hd := hir.cell j hlt4
                  have hj' : (j : Int) < (n' : Int) := by omega
                  have hbad : ∀ d : Int, d = t.deps.getD j 0 → (d < 0 ∨ (k : Int) ≤ d ∨ (0 < j ∧ d ≤ t.deps.getD (j - 1) 0)) → ¬ allDeps ts m := fun d hd hor hh => by
                    have := (hh k hlt3).2 j (by rw [← HT.out, hi'.len]; exact hlt4)
                    rw [← HT.out, ← hd] at this
                    rcases hor with h | h | ⟨h, h'⟩
                    · omega
                    · omega
                    · have := this.2.2 h; omega
                  have HB : Hid _ := hbad
                  clear hbad
                  obtain ⟨d, hdd⟩ : ∃ d, d = t.deps.getD j 0 := ⟨_, rfl⟩
                  rw [← hdd] at hd
                  have HD : Hid (d = t.deps.getD j 0) := hdd
                  clear hdd
                  by_cases q1 : d < 0
                  · have q1' : decide (d < 0) = true := by simpa using q1
                    go_wp2
                    go_quiet (fail)
                    go_wp2
                    go_ret
                    exact ⟨RetC.mk (.inr ⟨hin.out, .inr ⟨HN.out, .inr ⟨HC.out, .inl ⟨rfl, by rw [HL.out]; exact HB.out d HD.out (.inl q1)⟩⟩⟩⟩), below_drewN hbw2 _⟩
                  have q1' : decide (d < 0) = false := by simpa using q1
                  by_cases q2 : (k : Int) ≤ d
                  · have q2' : decide ((k : Int) ≤ d) = true := by simpa using q2
                    go_wp2
                    go_quiet (fail)
                    go_wp2
                    go_ret
                    exact ⟨RetC.mk (.inr ⟨hin.out, .inr ⟨HN.out, .inr ⟨HC.out, .inl ⟨rfl, by rw [HL.out]; exact HB.out d HD.out (.inr (.inl q2))⟩⟩⟩⟩), below_drewN hbw2 _⟩
                  have q2' : decide ((k : Int) ≤ d) = false := by simpa using q2
                  have hnext : (0 < j → t.deps.getD (j - 1) 0 < d) → asc k t.deps (j + 1) := fun hgt x hx => by
                    by_cases ex : x = j
                    · subst ex; rw [← HD.out]; exact ⟨by omega, by omega, hgt⟩
                    · exact hasc x (by omega)
                  have HX : Hid _ := hnext
                  clear hnext
                  by_cases q3 : j = 0
                  · subst q3
                    simp only [Nat.add_zero] at hd
                    go_wp2
                    go_quiet (fail)
                    go_wp2
                    go_roundw
                    case rel => exact ⟨0 + 1, by omega, by go_num, HX.out (fun h => absurd h (by omega)), below_drewN hbj _, below_drewN hbr _⟩
                    case measure => simp [intOf]; omega
                  obtain ⟨j, rfl⟩ : ∃ x, j = x + 1 := ⟨j - 1, by omega⟩
                  have he := hir.cell j (by omega)
                  obtain ⟨d2, hdd2⟩ : ∃ d2, d2 = t.deps.getD j 0 := ⟨_, rfl⟩
                  rw [← hdd2] at he
                  have HD2 : Hid (d2 = t.deps.getD j 0) := hdd2
                  clear hdd2
                  have hjn : (j : Int) < (n' : Int) := by omega
                  by_cases q4 : d ≤ d2
                  · have q4' : decide (d ≤ d2) = true := by simpa using q4
                    go_wp2
                    go_quiet (fail)
                    go_wp2
                    go_ret
                    exact ⟨RetC.mk (.inr ⟨hin.out, .inr ⟨HN.out, .inr ⟨HC.out, .inl ⟨rfl, by rw [HL.out]; exact HB.out d HD.out (.inr (.inr ⟨by omega, by rw [show j + 1 - 1 = j by omega, ← HD2.out]; exact q4⟩))⟩⟩⟩⟩), below_drewN hbw2 _⟩
                  · have q4' : decide (d ≤ d2) = false := by simpa using q4
                    go_wp2
                    go_quiet (fail)
                    go_wp2
                    go_roundw
                    case rel => exact ⟨j + 1 + 1, by omega, by go_num, HX.out (fun _ => by rw [show j + 1 - 1 = j by omega, ← HD2.out]; omega), below_drewN hbj _, below_drewN hbr _⟩
                    case measure => simp [intOf]; omega
                · obtain rfl : j = n' := by omega
                  go_wp2
                  go_roundw
                  case rel =>
                    refine ⟨k + 1, by omega, by go_num, fun x hx => ?_, hbj⟩
                    by_cases ex : x = k
                    · subst ex; rw [← HT.out]; exact ⟨by rw [hi'.len]; omega, by rw [hi'.len]; exact hasc⟩
                    · exact hok x (by omega)
                  case measure => simp [intOf]; omega
            · obtain rfl : k = m := by omega
              have HD : Hid (allDeps ts ts.length) := by show allDeps ts ts.length; rw [HL.out]; exact hok
              go_wp2
              go_ret
              exact ⟨RetC.mk (.inr ⟨hin.out, .inr ⟨HN.out, .inr ⟨HC.out, .inr ⟨HD.out, rfl⟩⟩⟩⟩), hbw⟩
end Go.Proofs.YthopfmhagddhgaaGreat

namespace Go.Proofs.YthopfmhagddhgaaGreat
open Go.RowKit

/-- A result, the empty text where there is none. -/
def rs (R : List ByteArray) (j : Nat) : ByteArray := R.getD j ByteArray.empty
/-- The first k of the numbers have results. -/
def depsIn (R : List ByteArray) (ds : List Int) (k : Nat) : Prop := ∀ j, j < k → ¬ (rs R (ds.getD j 0).toNat).size = 0
def depsHave (ts : List TaskD) (R : List ByteArray) (d : Nat) : Prop := depsIn R (ts.getD d dT).deps (ts.getD d dT).deps.length
def dueOk (ts : List TaskD) (R : List ByteArray) (d : Nat) : Prop := (rs R d).size = 0 ∧ depsHave ts R d

theorem dep_rng {ts : List TaskD} {n d j : Nat} (h : allDeps ts n) (hd : d < n) (hj : j < (ts.getD d dT).deps.length) : ∃ q : Nat, (ts.getD d dT).deps.getD j 0 = (q : Int) ∧ q < n := by
  obtain ⟨h0, h1, _⟩ := (h d hd).2 j hj
  exact ⟨((ts.getD d dT).deps.getD j 0).toNat, by omega, by omega⟩

set_option maxHeartbeats 1000000 in
set_option maxRecDepth 100000 in
theorem l4Deps_any (a : Option Addr) (b o n c : Nat) (ts : List TaskD) (ar : Option Addr) (br or' cr : Nat) (R : List ByteArray) (d : Nat) (w : World) (h : TasksAt w a b o n ts) (hR : StrsAt w ar br or' n R) (hd : d < n) (hA : allDeps ts n) :
    Calls Tryz.prog 97 #[.agg #[.slice a n c], .slice ar n cr, .int .i64 d] w fun e w' => RetB e (depsHave ts R d) ∧ Below w.heap.size w w' := by
  have hmax := h.max
  unfold maxLen at hmax
  have hb0 : Below w.heap.size w (w.alloc (.cells #[.slice a n c] 41)) := (Below.refl _ _).alloc (Nat.le_refl _) _
  obtain rfl := h.ad (by omega)
  obtain rfl := hR.ad (by omega)
  have hl := h.lt (by omega)
  have hlr := hR.lt (by omega)
  obtain ⟨t, a', b', o', n', c', ht, hc0, hc1, hc2, hi, _, _⟩ := h.get hd
  have HT := hid ht
  clear ht hc0 hc1
  have hd' : (d : Int) < (n : Int) := by omega
  have hm' := hi.max
  unfold maxLen at hm'
  go_enter Tryz.func97, Tryz.ntmps97
  go_wp2
  go_loopw [8] (fun i wr => ∃ k : Nat, k ≤ n' ∧ i = .int .i64 k ∧ depsIn R t.deps k ∧ wr = w.alloc (.cells #[.slice (some ⟨b, o, none⟩) n c] 41)) (fun i _ => n' - (intOf i).toNat)
  case atStart => exact ⟨0, Nat.zero_le _, rfl, fun j hj => absurd hj (by omega), rfl⟩
  case round =>
    obtain ⟨k, hk, rfl, hok, rfl⟩ := hrel
    by_cases hlt : k < n'
    · obtain rfl := hi.ad (by omega)
      have hbl := hi.lt (by omega)
      obtain ⟨q, hq, hqn⟩ := dep_rng hA hd (j := k) (by rw [← HT.out, hi.len]; exact hlt)
      rw [← HT.out] at hq
      have hck : w.cell? ⟨b', o' + k, none⟩ = some (.int .i64 (q : Int)) := by rw [← hq]; exact hi.cell k hlt
      have hcr := hR.cell q hqn
      obtain ⟨s, hs⟩ : ∃ s, s = R.getD q ByteArray.empty := ⟨_, rfl⟩
      rw [← hs] at hcr
      have HS : Hid (rs R (t.deps.getD k 0).toNat = s) := by rw [hq, hs]; rfl
      clear hs hq
      have hlt' : (k : Int) < (n' : Int) := by omega
      have hqn' : (q : Int) < (n : Int) := by omega
      by_cases h0 : s.size = 0
      · have h0' := empty_t h0
        have H0 := hid h0
        clear h0
        go_wp2
        go_ret
        refine ⟨RetB.f fun hh => ?_, hb0⟩
        have := hh k (by rw [← HT.out, hi.len]; exact hlt)
        rw [← HT.out, HS.out] at this
        exact this H0.out
      · have h0' := empty_f h0
        have H0 := hid h0
        clear h0
        go_wp2
        go_roundw
        case rel =>
          refine ⟨k + 1, by omega, by go_num, fun j hj => ?_, by first | trivial | rfl⟩
          by_cases e : j = k
          · subst e; rw [HS.out]; exact H0.out
          · exact hok j (by omega)
        case measure => simp [intOf]; omega
    · obtain rfl : k = n' := by omega
      go_wp2
      go_ret
      exact ⟨RetB.t (by unfold depsHave; rw [← HT.out, hi.len]; exact hok), hb0⟩

set_option maxHeartbeats 1000000 in
set_option maxRecDepth 100000 in
theorem isDue_any (a : Option Addr) (b o n c : Nat) (ts : List TaskD) (ar : Option Addr) (br or' cr : Nat) (R : List ByteArray) (d : Nat) (w : World) (h : TasksAt w a b o n ts) (hR : StrsAt w ar br or' n R) (hd : d < n) (hA : allDeps ts n) :
    Calls Tryz.prog 117 #[.agg #[.slice a n c], .slice ar n cr, .int .i64 d] w fun e w' => RetB e (dueOk ts R d) ∧ Below w.heap.size w w' := by
  have hmax := h.max
  unfold maxLen at hmax
  have hb0 : Below w.heap.size w (w.alloc (.cells #[.slice a n c] 41)) := (Below.refl _ _).alloc (Nat.le_refl _) _
  obtain rfl := h.ad (by omega)
  obtain rfl := hR.ad (by omega)
  have hl := h.lt (by omega)
  have hlr := hR.lt (by omega)
  obtain ⟨t, a', b', o', n', c', ht, hc0, hc1, hc2, hi, _, _⟩ := h.get hd
  have HT := hid ht
  clear ht hc0 hc1
  have hd' : (d : Int) < (n : Int) := by omega
  have hm' := hi.max
  unfold maxLen at hm'
  have hcd := hR.cell d hd
  obtain ⟨x, hx⟩ : ∃ x, x = R.getD d ByteArray.empty := ⟨_, rfl⟩
  rw [← hx] at hcd
  have HX : Hid (rs R d = x) := by rw [hx]; rfl
  clear hx
  by_cases hz : x.size = 0
  · have hz' := empty_t hz
    have HZ := hid hz
    clear hz
    go_enter Tryz.func117, Tryz.ntmps117
    go_wp2
    go_loopw [21] (fun i wr => ∃ k : Nat, k ≤ n' ∧ i = .int .i64 k ∧ depsIn R t.deps k ∧ wr = w.alloc (.cells #[.slice (some ⟨b, o, none⟩) n c] 41)) (fun i _ => n' - (intOf i).toNat)
    case atStart => exact ⟨0, Nat.zero_le _, rfl, fun j hj => absurd hj (by omega), rfl⟩
    case round =>
      obtain ⟨k, hk, rfl, hok, rfl⟩ := hrel
      by_cases hlt : k < n'
      · obtain rfl := hi.ad (by omega)
        have hbl := hi.lt (by omega)
        obtain ⟨q, hq, hqn⟩ := dep_rng hA hd (j := k) (by rw [← HT.out, hi.len]; exact hlt)
        rw [← HT.out] at hq
        have hck : w.cell? ⟨b', o' + k, none⟩ = some (.int .i64 (q : Int)) := by rw [← hq]; exact hi.cell k hlt
        have hcr := hR.cell q hqn
        obtain ⟨s, hs⟩ : ∃ s, s = R.getD q ByteArray.empty := ⟨_, rfl⟩
        rw [← hs] at hcr
        have HS : Hid (rs R (t.deps.getD k 0).toNat = s) := by rw [hq, hs]; rfl
        clear hs hq
        have hlt' : (k : Int) < (n' : Int) := by omega
        have hqn' : (q : Int) < (n : Int) := by omega
        by_cases h0 : s.size = 0
        · have h0' := empty_t h0
          have H0 := hid h0
          clear h0
          go_wp2
          go_ret
          refine ⟨RetB.f fun hh => ?_, hb0⟩
          have := hh.2 k (by rw [← HT.out, hi.len]; exact hlt)
          rw [← HT.out, HS.out] at this
          exact this H0.out
        · have h0' := empty_f h0
          have H0 := hid h0
          clear h0
          go_wp2
          go_roundw
          case rel =>
            refine ⟨k + 1, by omega, by go_num, fun j hj => ?_, by first | trivial | rfl⟩
            by_cases e : j = k
            · subst e; rw [HS.out]; exact H0.out
            · exact hok j (by omega)
          case measure => simp [intOf]; omega
      · obtain rfl : k = n' := by omega
        go_wp2
        go_ret
        exact ⟨RetB.t ⟨by rw [HX.out]; exact HZ.out, by unfold depsHave; rw [← HT.out, hi.len]; exact hok⟩, hb0⟩
  · have hz' := empty_f hz
    have HZ := hid hz
    clear hz
    go_enter Tryz.func117, Tryz.ntmps117
    go_wp2
    go_ret
    exact ⟨RetB.f fun hh => HZ.out (by rw [← HX.out]; exact hh.1), hb0⟩

/-! ### the entries, told -/
open Classical in
/-- What ReadEntry reads. -/
noncomputable def evE (s : ByteArray) : Option (Int × Int × Int × ByteArray) :=
  if h : ∃ q : Int × Int × Int × ByteArray, GoodE s q.1 q.2.1 q.2.2.1 q.2.2.2 then some (Classical.choose h) else none
theorem evE_some {s : ByteArray} {k e d : Int} {x : ByteArray} (h : GoodE s k e d x) : evE s = some (k, e, d, x) := by
  have hex : ∃ q : Int × Int × Int × ByteArray, GoodE s q.1 q.2.1 q.2.2.1 q.2.2.2 := ⟨(k, e, d, x), h⟩
  unfold evE
  rw [dif_pos hex]
  obtain ⟨h1, h2, h3, h4⟩ := (Classical.choose_spec hex).uniq h
  congr 1
  exact Prod.ext h1 (Prod.ext h2 (Prod.ext h3 h4))
theorem evE_none {s : ByteArray} (h : NoE s) : evE s = none := by
  unfold evE
  rw [dif_neg]
  rintro ⟨q, hq⟩
  exact h ⟨_, _, _, _, hq⟩
theorem evE_good {s : ByteArray} {k e d : Int} {x : ByteArray} (h : evE s = some (k, e, d, x)) : GoodE s k e d x := by
  by_cases hn : NoE s
  · rw [evE_none hn] at h; cases h
  · obtain ⟨k', e', d', x', hg⟩ := Classical.not_not.1 hn
    rw [evE_some hg] at h
    cases h
    exact hg
abbrev St := Int × List ByteArray
open Classical in
noncomputable def step1 (ts : List TaskD) (st : St) (q : Int × Int × Int × ByteArray) : Option St :=
  if q.1 = 1 then (if q.2.1 = st.1 + 1 then some (q.2.1, st.2) else none)
  else if q.2.1 = st.1 ∧ q.2.2.1 < ts.length ∧ dueOk ts st.2 q.2.2.1.toNat then some (st.1, st.2.set q.2.2.1.toNat q.2.2.2) else none
noncomputable def stepR (ts : List TaskD) (st : St) (s : ByteArray) : Option St := (evE s).bind (step1 ts st)
noncomputable def rep (ts : List TaskD) : List ByteArray → St → Option St
  | [], st => some st
  | s :: r, st => (stepR ts st s).bind (rep ts r)
theorem rep_append (ts : List TaskD) (l r : List ByteArray) (st : St) : rep ts (l ++ r) st = (rep ts l st).bind (rep ts r) := by
  induction l generalizing st with
  | nil => rfl
  | cons s l ih =>
    simp only [List.cons_append, rep]
    cases stepR ts st s with
    | none => rfl
    | some st' => exact ih st'
theorem rep_snoc (ts : List TaskD) (l : List ByteArray) (s : ByteArray) (st : St) : rep ts (l ++ [s]) st = (rep ts l st).bind (fun st' => stepR ts st' s) := by
  rw [rep_append]
  cases rep ts l st with
  | none => rfl
  | some st' => simp [rep]
theorem rep_none {ts : List TaskD} {l r : List ByteArray} {st : St} (h : rep ts l st = none) : rep ts (l ++ r) st = none := by rw [rep_append, h]; rfl
/-- Numbers stay small, results as many as tasks, texts of eight bytes. -/
def StOk (n m : Nat) (st : St) : Prop := 0 ≤ st.1 ∧ st.1 ≤ m ∧ st.2.length = n ∧ ∀ s ∈ st.2, s.size ≤ 8
theorem step1_ok {ts : List TaskD} {n m : Nat} {st st' : St} {k e d : Int} {x : ByteArray} (hx : x.size ≤ 8) (h : StOk n m st) (hs : step1 ts st (k, e, d, x) = some st') : StOk n (m + 1) st' := by
  obtain ⟨h0, h1, h2, h3⟩ := h
  unfold step1 at hs
  dsimp only at hs
  split at hs
  · split at hs
    · cases hs
      exact ⟨by dsimp only; omega, by dsimp only; omega, h2, h3⟩
    · cases hs
  · split at hs
    · cases hs
      refine ⟨h0, by dsimp only; omega, by simpa using h2, fun s hs => ?_⟩
      rcases List.mem_or_eq_of_mem_set hs with h | h
      · exact h3 s h
      · rw [h]; exact hx
    · cases hs
theorem stepR_ok {ts : List TaskD} {n m : Nat} {st st' : St} {s : ByteArray} (h : StOk n m st) (hs : stepR ts st s = some st') : StOk n (m + 1) st' := by
  unfold stepR at hs
  cases he : evE s with
  | none => rw [he] at hs; cases hs
  | some q =>
    obtain ⟨k, e, d, x⟩ := q
    rw [he] at hs
    exact step1_ok (vE_rng (evE_good he).1).2.2.2.2 h hs
def st0 (n : Nat) : St := (0, List.replicate n ⟨#[]⟩)
theorem st0_ok (n : Nat) : StOk n 0 (st0 n) := ⟨by simp [st0], by simp [st0], by simp [st0], fun s hs => by
  have := List.eq_of_mem_replicate hs
  subst this
  decide⟩
theorem rep_ok {ts : List TaskD} {n : Nat} (l : List ByteArray) {m : Nat} {st st' : St} (h : StOk n m st) (hs : rep ts l st = some st') : StOk n (m + l.length) st' := by
  induction l generalizing st m with
  | nil => cases hs; exact h
  | cons s l ih =>
    unfold rep at hs
    cases h1 : stepR ts st s with
    | none => rw [h1] at hs; cases hs
    | some st1 =>
      rw [h1] at hs
      have := ih (stepR_ok h h1) hs
      rw [List.length_cons, show m + (l.length + 1) = m + 1 + l.length by omega]
      exact this
/-- A story. -/
def StoryIs (ts : List TaskD) (L : List ByteArray) (c E : Int) (R : List ByteArray) : Prop :=
  (¬ (Code ts 0 ∧ L.length ≤ 310) ∧ c = 1 ∧ E = 0 ∧ R = []) ∨ ((Code ts 0 ∧ L.length ≤ 310) ∧ ((rep ts L (st0 ts.length) = none ∧ c = 2 ∧ E = 0 ∧ R = []) ∨ (rep ts L (st0 ts.length) = some (E, R) ∧ c = 0)))
theorem StoryIs.uniq {ts : List TaskD} {L : List ByteArray} {c E c' E' : Int} {R R' : List ByteArray} (h : StoryIs ts L c E R) (h' : StoryIs ts L c' E' R') : c = c' ∧ E = E' ∧ R = R' := by
  rcases h with ⟨h, rfl, rfl, rfl⟩ | ⟨h, h1⟩ <;> rcases h' with ⟨h', rfl, rfl, rfl⟩ | ⟨h', h1'⟩
  · exact ⟨rfl, rfl, rfl⟩
  · exact absurd h' h
  · exact absurd h h'
  · rcases h1 with ⟨h1, rfl, rfl, rfl⟩ | ⟨h1, rfl⟩ <;> rcases h1' with ⟨h1', rfl, rfl, rfl⟩ | ⟨h1', rfl⟩
    · exact ⟨rfl, rfl, rfl⟩
    · rw [h1] at h1'; cases h1'
    · rw [h1] at h1'; cases h1'
    · rw [h1] at h1'; cases h1'
      exact ⟨rfl, rfl, rfl⟩
/-- What Replay answers. -/
def RetS (e' : Ending) (w w' : World) (ts : List TaskD) (L : List ByteArray) : Prop :=
  ∃ (c E : Int) (R : List ByteArray) (v : Value), e' = .returned (.agg #[.int .i64 c, .int .i64 E, v]) ∧ StoryIs ts L c E R ∧ Own w.heap.size w' 1 v R.length (R.map Value.string)
end Go.Proofs.YthopfmhagddhgaaGreat
