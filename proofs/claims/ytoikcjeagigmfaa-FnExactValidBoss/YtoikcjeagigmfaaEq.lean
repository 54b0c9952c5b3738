
/-
  laws.eqIntS, eqTask, eqTaskS, eqPlan: two readings of the same.
-/
import Derived.Test.YtoikcjeagigmfaaTo
namespace Go.Proofs.Ytoikcjeagigmfaa
open Go.RowKit



set_option maxHeartbeats 400000 in
theorem eqIntS_any (a a' : Option Addr) (b o n c b' o' c' : Nat) (ns : List Int) (w : World) (h : IntsAt w a b o n ns) (h' : IntsAt w a' b' o' n ns) :
    Calls Try.prog 103 #[.slice a n c, .slice a' n c'] w fun e w' => e = .returned (.bool true) ∧ Below w.heap.size w w' := by
  have hmax := h.max
  unfold maxLen at hmax
  go_enter Try.func103, Try.ntmps103
  go_wp2
  go_loopw [5] (fun i wr => ∃ k : Nat, k ≤ n ∧ i = .int .i64 k ∧ Below w.heap.size w wr) (fun i _ => n - (intOf i).toNat)
  case atStart => exact ⟨0, Nat.zero_le _, rfl, Below.refl _ _⟩
  case round =>
    obtain ⟨k, hk, rfl, hb⟩ := hrel
    by_cases hlt : k < n
    · obtain rfl := h.ad (by omega)
      obtain rfl := h'.ad (by omega)
      have hbl := h.lt (by omega)
      have hbl' := h'.lt (by omega)
      have hc : wr.cell? ⟨b, o + k, none⟩ = some (.int .i64 (ns.getD k 0)) := (hb.cell (by exact hbl)).trans (h.cell k hlt)
      have hc' : wr.cell? ⟨b', o' + k, none⟩ = some (.int .i64 (ns.getD k 0)) := (hb.cell (by exact hbl')).trans (h'.cell k hlt)
      obtain ⟨s, hs'⟩ : ∃ s, s = ns.getD k 0 := ⟨_, rfl⟩
      rw [← hs'] at hc hc'
      clear hs'
      have hlt' : (k : Int) < (n : Int) := by omega
      go_wp2
      go_quiet (fail)
      go_wp2
      go_roundw
      case rel => exact ⟨k + 1, by omega, by go_num, below_drewN hb _⟩
      case measure => simp [intOf]; omega
    · go_wp2
      go_ret
      exact ⟨rfl, hb⟩

set_option maxHeartbeats 400000 in
theorem eqTask_any (s : ByteArray) (x : Int) (a a' : Option Addr) (b o n c b' o' c' : Nat) (ns : List Int) (w : World) (h : IntsAt w a b o n ns) (h' : IntsAt w a' b' o' n ns) :
    Calls Try.prog 83 #[.agg #[.string s, .int .i64 x, .slice a n c], .agg #[.string s, .int .i64 x, .slice a' n c']] w fun e w' => e = .returned (.bool true) ∧ Below w.heap.size w w' := by
  have hb0 : Below w.heap.size w ((w.alloc (.cells #[.string s, .int .i64 x, .slice a n c] 131)).alloc (.cells #[.string s, .int .i64 x, .slice a' n c'] 131)) :=
    ((Below.refl _ _).alloc (Nat.le_refl _) _).alloc (by simp) _
  go_enter Try.func83, Try.ntmps83
  go_wp2_with fail
  refine (eqIntS_any a a' b o n c b' o' c' ns _ (h.below' hb0) (h'.below' hb0)).mono ?_
  rintro e w1 ⟨rfl, hb1⟩
  have hb := hb0.trans (hb1.mono (by simp; omega))
  go_wp2
  go_ret
  exact ⟨rfl, hb⟩

set_option maxHeartbeats 1000000 in
theorem eqTaskS_any (a a' : Option Addr) (b o n c b' o' c' : Nat) (ts : List TaskD) (w : World) (h : TasksAt w a b o n ts) (h' : TasksAt w a' b' o' n ts) :
    Calls Try.prog 45 #[.slice a n c, .slice a' n c'] w fun e w' => e = .returned (.bool true) ∧ Below w.heap.size w w' := by
  have hmax := h.max
  unfold maxLen at hmax
  go_enter Try.func45, Try.ntmps45
  go_wp2
  go_loopw [5] (fun i wr => ∃ k : Nat, k ≤ n ∧ i = .int .i64 k ∧ Below w.heap.size w wr) (fun i _ => n - (intOf i).toNat)
  case atStart => exact ⟨0, Nat.zero_le _, rfl, Below.refl _ _⟩
  case round =>
    obtain ⟨k, hk, rfl, hb⟩ := hrel
    by_cases hlt : k < n
    · obtain rfl := h.ad (by omega)
      obtain rfl := h'.ad (by omega)
      obtain ⟨t, a1, b1, o1, n1, c1, ht, hc0, hc1, hc2, hi, _, _⟩ := (h.below' hb).get hlt
      obtain ⟨t', a2, b2, o2, n2, c2, ht', hd0, hd1, hd2, hi', _, _⟩ := (h'.below' hb).get hlt
      obtain rfl : t' = t := by rw [ht, ht']
      have e12 : n2 = n1 := by rw [← hi.len, ← hi'.len]
      subst e12
      clear ht ht'
      have hlt' : (k : Int) < (n : Int) := by omega
      have hbb : Below w.heap.size w wr.drew := hb.drew
      have hiD : IntsAt wr.drew a1 b1 o1 n2 t'.deps := hi.below' (Below.refl _ _).drew
      have hiD' : IntsAt wr.drew a2 b2 o2 n2 t'.deps := hi'.below' (Below.refl _ _).drew
      go_wp2
      go_region_held3 (fun w' => w'.cell? ⟨b, o + k * 3, none⟩ = some (.string t'.name) ∧ w'.cell? ⟨b, o + k * 3 + 1, none⟩ = some (.int .i64 t'.cost) ∧ w'.cell? ⟨b, o + k * 3 + 2, none⟩ = some (.slice a1 n2 c1) ∧ w'.cell? ⟨b', o' + k * 3, none⟩ = some (.string t'.name) ∧ w'.cell? ⟨b', o' + k * 3 + 1, none⟩ = some (.int .i64 t'.cost) ∧ w'.cell? ⟨b', o' + k * 3 + 2, none⟩ = some (.slice a2 n2 c2)) (first | (simp [go_sem, *]; done) | assumption)
        (first
          | (go_at_call 83; refine (eqTask_any t'.name t'.cost a1 a2 b1 o1 n2 c1 b2 o2 c2 t'.deps _ hiD hiD').mono ?_; rintro e w1 ⟨rfl, hb1⟩; have q0 := keepC hb1 hc0; have q1 := keepC hb1 hc1; have q2 := keepC hb1 hc2; have r0 := keepC hb1 hd0; have r1 := keepC hb1 hd1; have r2 := keepC hb1 hd2))
      go_wp2
      go_roundw
      case rel => exact ⟨k + 1, by omega, by go_num, hbb.trans (hb1.mono hbb.size)⟩
      case measure => simp [intOf]; omega
    · go_wp2
      go_ret
      exact ⟨rfl, hb⟩

set_option maxHeartbeats 400000 in
theorem eqPlan_any (a a' : Option Addr) (b o n c b' o' c' : Nat) (ts : List TaskD) (w : World) (h : TasksAt w a b o n ts) (h' : TasksAt w a' b' o' n ts) :
    Calls Try.prog 21 #[.agg #[.slice a n c], .agg #[.slice a' n c']] w fun e w' => e = .returned (.bool true) ∧ Below w.heap.size w w' := by
  have hb0 : Below w.heap.size w ((w.alloc (.cells #[.slice a n c] 44)).alloc (.cells #[.slice a' n c'] 44)) :=
    ((Below.refl _ _).alloc (Nat.le_refl _) _).alloc (by simp) _
  go_enter Try.func21, Try.ntmps21
  go_wp2_with fail
  refine (eqTaskS_any a a' b o n c b' o' c' ts _ (h.below' hb0) (h'.below' hb0)).mono ?_
  rintro e w1 ⟨rfl, hb1⟩
  have hb := hb0.trans (hb1.mono (by simp; omega))
  go_wp2
  go_ret
  exact ⟨rfl, hb⟩
end Go.Proofs.Ytoikcjeagigmfaa
