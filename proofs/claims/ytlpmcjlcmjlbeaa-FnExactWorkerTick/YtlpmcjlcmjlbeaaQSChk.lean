import Derived.Test.YtlpmcjlcmjlbeaaQNam
namespace Go.Proofs.Ytlpmcjlcmjlbeaa
open Go.RowKit

/-- What every round reads: the box, and the tasks. -/
theorem boxed {w wr : World} {a : Option Addr} {b o n c : Nat} {ts : List TaskD} (h : TasksAt w a b o n ts) (hb : Below (w.heap.size + 1) (w.alloc (.cells #[.slice a n c] 43)) wr) :
    wr.cell? ⟨w.heap.size, 0, none⟩ = some (.slice a n c) ∧ TasksAt wr a b o n ts ∧ Below w.heap.size w wr := by
  have hb0 : Below w.heap.size w (w.alloc (.cells #[.slice a n c] 43)) := (Below.refl _ _).alloc (Nat.le_refl _) _
  have hb1 := hb0.trans (hb.mono (by omega))
  exact ⟨(hb.cell (p := ⟨w.heap.size, 0, none⟩) (by simp)).trans (by simp), h.below' hb1, hb1⟩

theorem not_names {ts : List TaskD} {k n : Nat} (hk : k < n) (h : ¬ nameOk (nm ts k) ∨ ∃ j, j < k ∧ nm ts j = nm ts k) : ¬ namesOk ts n := fun hh => by
  rcases h with h | ⟨j, hj, h⟩
  · exact h (hh k hk).1
  · exact (hh k hk).2 j hj h

theorem beq_names {s t : ByteArray} (h : s ≠ t) : (s.toList == t.toList) = false := by
  rw [beq_eq_false_iff_ne]
  intro e
  rw [ByteArray.toList_eq, ByteArray.toList_eq] at e
  exact h (bytes_ext e)

set_option maxHeartbeats 4000000 in
theorem specCheckPlan_any (a : Option Addr) (b o n c : Nat) (ts : List TaskD) (w : World) (h : TasksAt w a b o n ts) :
    Calls Try.prog 46 #[.agg #[.slice a n c]] w fun e w' => RetC e ts ∧ Below w.heap.size w w' := by
  have hmax := h.max
  unfold maxLen at hmax
  have hb0 : Below w.heap.size w (w.alloc (.cells #[.slice a n c] 43)) := (Below.refl _ _).alloc (Nat.le_refl _) _
  have HL : Hid (ts.length = n) := h.len
  by_cases h1 : n < 1
  · go_enter Try.func46, Try.ntmps46
    go_wp2
    go_ret
    exact ⟨RetC.mk (.inl ⟨rfl, by rw [HL.out]; omega⟩), hb0⟩
  by_cases h2 : 40 < n
  · go_enter Try.func46, Try.ntmps46
    go_wp2
    go_ret
    exact ⟨RetC.mk (.inl ⟨rfl, by rw [HL.out]; omega⟩), hb0⟩
  have hin : Hid (1 ≤ ts.length ∧ ts.length ≤ 40) := by show 1 ≤ ts.length ∧ ts.length ≤ 40; rw [HL.out]; omega
  obtain rfl := h.ad (by omega)
  go_enter Try.func46, Try.ntmps46
  go_wp2
  go_loopw [4] (fun i wr => ∃ k : Nat, k ≤ n ∧ i = .int .i64 k ∧ namesOk ts k ∧ Below (w.heap.size + 1) (w.alloc (.cells #[.slice (some ⟨b, o, none⟩) n c] 43)) wr) (fun i _ => n - (intOf i).toNat)
  case atStart => exact ⟨0, Nat.zero_le _, rfl, fun j hj => absurd hj (by omega), Below.refl _ _⟩
  case round =>
    obtain ⟨k, hk, rfl, hok, hb⟩ := hrel
    by_cases hlt : k < n
    · obtain ⟨hbox, hat, hbw⟩ := boxed h hb
      obtain ⟨t, a', b', o', n', c', ht, hc0, hc1, hc2, hi', hsz, hr1, hr2⟩ := hat.get hlt
      have hlt' : (k : Int) < (n : Int) := by omega
      have HT : Hid (t = ts.getD k dT) := ht
      clear ht hat hi' hc1 hc2
      go_wp2_with fail
      refine (l1NameOk_any t.name _ hsz).mono ?_
      rintro e w1 ⟨⟨r, rfl, hr⟩, hw1⟩
      have HR : Hid _ := hr
      clear hr
      rw [hw1]
      clear hw1 w1
      cases r
      · go_wp2
        go_ret
        exact ⟨RetC.mk (.inr ⟨hin.out, .inl ⟨rfl, by rw [HL.out]; exact not_names hlt (.inl fun hh => absurd (HR.out.2 (by rw [HT.out]; exact hh)) (by simp))⟩⟩), hbw⟩
      go_wp2
      go_loopw [5] (fun x wr2 => ∃ m : Nat, m ≤ k ∧ x = .int .i64 m ∧ (∀ j, j < m → nm ts j ≠ nm ts k) ∧ Below (w.heap.size + 1) (w.alloc (.cells #[.slice (some ⟨b, o, none⟩) n c] 43)) wr2) (fun x _ => k - (intOf x).toNat)
      case atStart => exact ⟨0, Nat.zero_le _, rfl, fun j hj => absurd hj (by omega), hb⟩
      case round =>
        obtain ⟨m, hm, rfl, hne, hbm⟩ := hrel
        by_cases hlm : m < k
        · obtain ⟨hbox2, hat2, hbw2⟩ := boxed h hbm
          obtain ⟨t2, a2, b2, o2, n2, c2, ht2, hd0, _, _, _, _, _, _⟩ := hat2.get (show m < n by omega)
          obtain ⟨t3, a3, b3, o3, n3, c3, ht3, he0, _, _, _, _, _, _⟩ := hat2.get hlt
          have hlm' : (m : Int) < (k : Int) := by omega
          have hmn' : (m : Int) < (n : Int) := by omega
          have HT2 : Hid (t2.name = nm ts m) := by show t2.name = nm ts m; rw [nm, ht2]
          have HT3 : Hid (t3.name = nm ts k) := by show t3.name = nm ts k; rw [nm, ht3]
          clear ht2 ht3 hat2
          by_cases e : t2.name = t3.name
          · rw [e] at hd0
            have HE : Hid _ := e
            clear e
            go_wp2
            go_quiet (fail)
            go_wp2
            go_ret
            exact ⟨RetC.mk (.inr ⟨hin.out, .inl ⟨rfl, by rw [HL.out]; exact not_names hlt (.inr ⟨m, hlm, by rw [← HT2.out, ← HT3.out]; exact HE.out⟩)⟩⟩), below_drewN hbw2 _⟩
          · have hbq := beq_names e
            go_wp2
            go_quiet (fail)
            go_wp2
            go_roundw
            case rel =>
              refine ⟨m + 1, by omega, by go_num, fun j hj => ?_, below_drewN hbm _⟩
              by_cases ej : j = m
              · subst ej; rw [← HT2.out, ← HT3.out]; exact e
              · exact hne j (by omega)
            case measure => simp [intOf]; omega
        · obtain rfl : m = k := by omega
          go_wp2
          go_roundw
          case rel =>
            refine ⟨m + 1, by omega, by go_num, fun j hj => ?_, hbm⟩
            by_cases ej : j = m
            · subst ej; exact ⟨by rw [nm, ← HT.out]; exact HR.out.1 (by simp), hne⟩
            · exact hok j (by omega)
          case measure => simp [intOf]; omega
    · obtain rfl : k = n := by omega
      have HN : Hid (namesOk ts ts.length) := by show namesOk ts ts.length; rw [HL.out]; exact hok
      clear hok
      go_wp2
      go_loopw [6] (fun i wr => ∃ m : Nat, m ≤ k ∧ i = .int .i64 m ∧ costsOk ts m ∧ Below (w.heap.size + 1) (w.alloc (.cells #[.slice (some ⟨b, o, none⟩) k c] 43)) wr) (fun i _ => k - (intOf i).toNat)
      case atStart => exact ⟨0, Nat.zero_le _, rfl, fun j hj => absurd hj (by omega), hb⟩
      case round =>
        obtain ⟨m, hm, rfl, hok, hbm⟩ := hrel
        obtain ⟨hbox, hat, hbw⟩ := boxed h hbm
        by_cases hlt2 : m < k
        · obtain ⟨t, a', b', o', n', c', ht, hc0, hc1, hc2, hi', hsz, hr1, hr2⟩ := hat.get hlt2
          have hlt' : (m : Int) < (k : Int) := by omega
          have HT : Hid (t = ts.getD m dT) := ht
          clear ht hat hi' hc0 hc2
          by_cases g1 : t.cost < 1
          · go_wp2
            go_ret
            refine ⟨RetC.mk (.inr ⟨hin.out, .inr ⟨HN.out, .inl ⟨rfl, ?_⟩⟩⟩), hbw⟩
            rw [HL.out]; intro hh; have := (hh m hlt2).1; rw [← HT.out] at this; omega
          by_cases g2 : 20 < t.cost
          · go_wp2
            go_ret
            refine ⟨RetC.mk (.inr ⟨hin.out, .inr ⟨HN.out, .inl ⟨rfl, ?_⟩⟩⟩), hbw⟩
            rw [HL.out]; intro hh; have := (hh m hlt2).2; rw [← HT.out] at this; omega
          · go_wp2
            go_roundw
            case rel =>
              refine ⟨m + 1, by omega, by go_num, fun j hj => ?_, hbm⟩
              by_cases ej : j = m
              · subst ej; rw [← HT.out]; exact ⟨by omega, by omega⟩
              · exact hok j (by omega)
            case measure => simp [intOf]; omega
        · obtain rfl : m = k := by omega
          have HC : Hid (costsOk ts ts.length) := by show costsOk ts ts.length; rw [HL.out]; exact hok
          clear hok hbox hat hbw
          go_wp2
          go_loopw [7] (fun i wr => ∃ k : Nat, k ≤ m ∧ i = .int .i64 k ∧ allDeps ts k ∧ Below (w.heap.size + 1) (w.alloc (.cells #[.slice (some ⟨b, o, none⟩) m c] 43)) wr) (fun i _ => m - (intOf i).toNat)
          case atStart => exact ⟨0, Nat.zero_le _, rfl, fun j hj => absurd hj (by omega), hbm⟩
          case round =>
            obtain ⟨k, hk, rfl, hok, hbk⟩ := hrel
            obtain ⟨hbox, hat, hbw⟩ := boxed h hbk
            by_cases hlt3 : k < m
            · obtain ⟨t, a', b', o', n', c', ht, hc0, hc1, hc2, hi', hsz, hr1, hr2⟩ := hat.get hlt3
              have hlt' : (k : Int) < (m : Int) := by omega
              have HT : Hid (t = ts.getD k dT) := ht
              have hmx := hi'.max
              unfold maxLen at hmx
              clear ht hat hc0 hc1
              by_cases g1 : 8 < n'
              · go_wp2
                go_ret
                refine ⟨RetC.mk (.inr ⟨hin.out, .inr ⟨HN.out, .inr ⟨HC.out, .inl ⟨rfl, ?_⟩⟩⟩⟩), hbw⟩
                rw [HL.out]; intro hh; have := (hh k hlt3).1; rw [← HT.out, hi'.len] at this; omega
              go_wp2
              go_loopw [9] (fun x wr2 => ∃ j : Nat, j ≤ n' ∧ x = .int .i64 j ∧ asc k t.deps j ∧ Below (w.heap.size + 1) (w.alloc (.cells #[.slice (some ⟨b, o, none⟩) m c] 43)) wr2 ∧ Below wr.heap.size wr wr2) (fun x _ => n' - (intOf x).toNat)
              case atStart => exact ⟨0, Nat.zero_le _, rfl, fun j hj => absurd hj (by omega), hbk, Below.refl _ _⟩
              case round =>
                obtain ⟨j, hj, rfl, hasc, hbj, hbr⟩ := hrel
                obtain ⟨hbox2, _, hbw2⟩ := boxed h hbj
                by_cases hlt4 : j < n'
                · obtain rfl := hi'.ad (by omega)
                  have hir := hi'.below' hbr
                  have hd := hir.cell j hlt4
                  have hj' : (j : Int) < (n' : Int) := by omega
                  have hbad : ∀ d : Int, d = t.deps.getD j 0 → (d < 0 ∨ (k : Int) ≤ d ∨ (0 < j ∧ d ≤ t.deps.getD (j - 1) 0)) → ¬ allDeps ts m := fun d hd hor hh => by
                    have := (hh k hlt3).2 j (by rw [← HT.out, hi'.len]; exact hlt4)
                    rw [← HT.out, ← hd] at this
                    rcases hor with h | h | ⟨h, h'⟩
                    · omega
                    · omega
                    · have := this.2.2 h; omega
                  have HB : Hid _ := hbad
                  clear hbad
                  obtain ⟨d, hdd⟩ : ∃ d, d = t.deps.getD j 0 := ⟨_, rfl⟩
                  rw [← hdd] at hd
                  have HD : Hid (d = t.deps.getD j 0) := hdd
                  clear hdd
                  by_cases q1 : d < 0
                  · have q1' : decide (d < 0) = true := by simpa using q1
                    go_wp2
                    go_quiet (fail)
                    go_wp2
                    go_ret
                    exact ⟨RetC.mk (.inr ⟨hin.out, .inr ⟨HN.out, .inr ⟨HC.out, .inl ⟨rfl, by rw [HL.out]; exact HB.out d HD.out (.inl q1)⟩⟩⟩⟩), below_drewN hbw2 _⟩
                  have q1' : decide (d < 0) = false := by simpa using q1
                  by_cases q2 : (k : Int) ≤ d
                  · have q2' : decide ((k : Int) ≤ d) = true := by simpa using q2
                    go_wp2
                    go_quiet (fail)
                    go_wp2
                    go_ret
                    exact ⟨RetC.mk (.inr ⟨hin.out, .inr ⟨HN.out, .inr ⟨HC.out, .inl ⟨rfl, by rw [HL.out]; exact HB.out d HD.out (.inr (.inl q2))⟩⟩⟩⟩), below_drewN hbw2 _⟩
                  have q2' : decide ((k : Int) ≤ d) = false := by simpa using q2
                  have hnext : (0 < j → t.deps.getD (j - 1) 0 < d) → asc k t.deps (j + 1) := fun hgt x hx => by
                    by_cases ex : x = j
                    · subst ex; rw [← HD.out]; exact ⟨by omega, by omega, hgt⟩
                    · exact hasc x (by omega)
                  have HX : Hid _ := hnext
                  clear hnext
                  by_cases q3 : j = 0
                  · subst q3
                    simp only [Nat.add_zero] at hd
                    go_wp2
                    go_quiet (fail)
                    go_wp2
                    go_roundw
                    case rel => exact ⟨0 + 1, by omega, by go_num, HX.out (fun h => absurd h (by omega)), below_drewN hbj _, below_drewN hbr _⟩
                    case measure => simp [intOf]; omega
                  obtain ⟨j, rfl⟩ : ∃ x, j = x + 1 := ⟨j - 1, by omega⟩
                  have he := hir.cell j (by omega)
                  obtain ⟨d2, hdd2⟩ : ∃ d2, d2 = t.deps.getD j 0 := ⟨_, rfl⟩
                  rw [← hdd2] at he
                  have HD2 : Hid (d2 = t.deps.getD j 0) := hdd2
                  clear hdd2
                  have hjn : (j : Int) < (n' : Int) := by omega
                  by_cases q4 : d ≤ d2
                  · have q4' : decide (d ≤ d2) = true := by simpa using q4
                    go_wp2
                    go_quiet (fail)
                    go_wp2
                    go_ret
                    exact ⟨RetC.mk (.inr ⟨hin.out, .inr ⟨HN.out, .inr ⟨HC.out, .inl ⟨rfl, by rw [HL.out]; exact HB.out d HD.out (.inr (.inr ⟨by omega, by rw [show j + 1 - 1 = j by omega, ← HD2.out]; exact q4⟩))⟩⟩⟩⟩), below_drewN hbw2 _⟩
                  · have q4' : decide (d ≤ d2) = false := by simpa using q4
                    go_wp2
                    go_quiet (fail)
                    go_wp2
                    go_roundw
                    case rel => exact ⟨j + 1 + 1, by omega, by go_num, HX.out (fun _ => by rw [show j + 1 - 1 = j by omega, ← HD2.out]; omega), below_drewN hbj _, below_drewN hbr _⟩
                    case measure => simp [intOf]; omega
                · obtain rfl : j = n' := by omega
                  go_wp2
                  go_roundw
                  case rel =>
                    refine ⟨k + 1, by omega, by go_num, fun x hx => ?_, hbj⟩
                    by_cases ex : x = k
                    · subst ex; rw [← HT.out]; exact ⟨by rw [hi'.len]; omega, by rw [hi'.len]; exact hasc⟩
                    · exact hok x (by omega)
                  case measure => simp [intOf]; omega
            · obtain rfl : k = m := by omega
              have HD : Hid (allDeps ts ts.length) := by show allDeps ts ts.length; rw [HL.out]; exact hok
              go_wp2
              go_ret
              exact ⟨RetC.mk (.inr ⟨hin.out, .inr ⟨HN.out, .inr ⟨HC.out, .inr ⟨HD.out, rfl⟩⟩⟩⟩), hbw⟩
end Go.Proofs.Ytlpmcjlcmjlbeaa
