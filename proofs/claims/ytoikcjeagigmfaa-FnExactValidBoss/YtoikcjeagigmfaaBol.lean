
/-
  laws.szJobS, szSeatS, szOwedS; toJob(S), toSeat(S), toOwed(S); eqJob(S), eqSeat(S), eqOwed(S).
-/
import Derived.Test.YtoikcjeagigmfaaBos
import Derived.Test.YtoikcjeagigmfaaEq
namespace Go.Proofs.Ytoikcjeagigmfaa
open Go.RowKit

set_option maxHeartbeats 400000 in
theorem szJobS_any (a : Option Addr) (n c : Nat) (left : Int) (w : World) (hl0 : 0 ≤ left) (hl1 : left ≤ 1048576) (hn : n ≤ maxLen) :
    Calls Try.prog 50 #[.slice a n c, .int .i64 left] w fun e w' => (∃ r, e = .returned (.int .i64 r) ∧ (r = -1 ∨ r = left - n ∧ 0 ≤ r)) ∧ w' = w := by
  unfold maxLen at hn
  by_cases h1 : left - n < 0
  · go_enter Try.func50, Try.ntmps50
    go_wp2
    go_ret
    exact ⟨⟨_, rfl, .inl rfl⟩, rfl⟩
  · go_enter Try.func50, Try.ntmps50
    go_wp2
    go_ret
    exact ⟨⟨_, rfl, .inr ⟨rfl, by omega⟩⟩, rfl⟩

theorem Try.infoJob : (Try.prog.info? 141).map (fun i => (i.zero, i.size, i.bytes)) = some (some (.agg #[.int .i64 0, .int .i64 0, .int .i64 0]), 3, 24) := by kernel_rfl

set_option maxHeartbeats 400000 in
set_option maxRecDepth 100000 in
theorem toJob_any (x0 : Int) (x1 : Int) (x2 : Int) (w : World) :
    Calls Try.prog 85 #[.agg #[.int .i64 x0, .int .i64 x1, .int .i64 x2]] w fun e w' => e = .returned (.agg #[.int .i64 x0, .int .i64 x1, .int .i64 x2]) ∧ Below w.heap.size w w' := by
  go_enter Try.func85, Try.ntmps85
  go_wp2
  refine bodyPost_ret (v := .agg #[.int .i64 x0, .int .i64 x1, .int .i64 x2]) (by simp [results, Try.results85, go_sem]) rfl ⟨rfl, ?_⟩
  repeat (first | exact Below.refl _ _ | refine Below.setCell ?_ (by first | exact Nat.le_refl _ | (dsimp only; omega) | (simp; done) | (simp; omega)) _ | refine Below.alloc ?_ (by first | (simp; done) | (simp; omega)) _)

set_option maxHeartbeats 1000000 in
set_option maxRecDepth 100000 in
theorem toJobS_any (a : Option Addr) (b o n c : Nat) (J : List Tr) (w : World) (h : T3At w a b o n J) (hn : n ≤ 1048576) :
    Calls Try.prog 58 #[.slice a n c] w fun e w' => ∃ g xs, e = .returned (.slice (some ⟨g, 0, none⟩) n n) ∧ OwnC w.heap.size w' 3 g 0 n n xs ∧ T3At w' (some ⟨g, 0, none⟩) g 0 n J ∧ Below w.heap.size w w' := by
  obtain ⟨i0, hi, hz0, hz1, hz2⟩ := info_parts Try.infoJob
  go_enter Try.func58, Try.ntmps58
  go_wp2_with (refine wpList_make_c _ rfl _ _ 63 rfl w.heap.size 141 i0 (.agg #[.int .i64 0, .int .i64 0, .int .i64 0]) 3 24 Try.underlying63 hi hz0 hz1 hz2 .i64 .i64 n n n rfl rfl rfl rfl (by omega) (by unfold maxLen; omega) (Nat.le_refl _) ?_; intro w1 hown hgr)
  go_loopw [4] (fun i wr => ∃ k : Nat, k ≤ n ∧ i = .int .i64 k ∧ (∃ xs, OwnC w.heap.size wr 3 w.heap.size 0 n n xs ∧ ∀ j, j < k → xs[j * 3]? = some (.int .i64 (t3 J j).1) ∧ xs[j * 3 + 1]? = some (.int .i64 (t3 J j).2.1) ∧ xs[j * 3 + 2]? = some (.int .i64 (t3 J j).2.2)) ∧ Below w.heap.size w wr) (fun i _ => n - (intOf i).toNat)
  case atStart => exact ⟨0, Nat.zero_le _, rfl, ⟨_, hown, fun j hj => absurd hj (by omega)⟩, (Below.refl _ _).grown hgr (Nat.le_refl _) (by simp)⟩
  case round =>
    obtain ⟨k, hk, rfl, ⟨xs, ho, hbu⟩, hb⟩ := hrel
    by_cases hlt : k < n
    · obtain rfl := h.ad (by omega)
      have hc0 := (h.below' hb).c0 k hlt
      have hc1 := (h.below' hb).c1 k hlt
      have hc2 := (h.below' hb).c2 k hlt
      obtain ⟨⟨x0, x1, x2⟩, hx⟩ : ∃ x, x = t3 J k := ⟨_, rfl⟩
      rw [← hx] at hc0 hc1 hc2
      dsimp only at hc0 hc1 hc2
      have HX := hid hx
      clear hx
      have hlt' : (k : Int) < (n : Int) := by omega
      go_wp2_with fail
      refine (toJob_any x0 x1 x2 _).mono ?_
      rintro e w2 ⟨rfl, hb2⟩
      have ho2 := ho.below hb2 ho.hi
      have hhi := ho.hi
      have hb' := hb.trans (hb2.mono hb.size)
      obtain ⟨u0, _, hq0⟩ := ho2.cellSome (j := k * 3) (by omega)
      obtain ⟨u1, _, hq1⟩ := ho2.cellSome (j := k * 3 + 1) (by omega)
      obtain ⟨u2, _, hq2⟩ := ho2.cellSome (j := k * 3 + 2) (by omega)
      have hf0 := ho2.notFrozen (j := k * 3) (by omega)
      have hf1 := ho2.notFrozen (j := k * 3 + 1) (by omega)
      have hf2 := ho2.notFrozen (j := k * 3 + 2) (by omega)
      have hlen : k * 3 + 2 < xs.length := by rw [ho2.len]; omega
      have ho' := (((ho2.setCell (j := k * 3) (by omega) (.int .i64 x0)).setCell (j := k * 3 + 1) (by omega) (.int .i64 x1)).setCell (j := k * 3 + 2) (by omega) (.int .i64 x2))
      have hb3 := (((hb'.setCell (p := ⟨w.heap.size, k * 3, none⟩) (Nat.le_refl _) (.int .i64 x0)).setCell (p := ⟨w.heap.size, k * 3 + 1, none⟩) (Nat.le_refl _) (.int .i64 x1)).setCell (p := ⟨w.heap.size, k * 3 + 2, none⟩) (Nat.le_refl _) (.int .i64 x2))
      simp only [Nat.zero_add] at hq0 hq1 hq2 hf0 hf1 hf2 ho'
      have HBU := hid hbu
      have HLEN := hid hlen
      clear ho2 ho hb2 hb' hbu hlen
      go_wp2
      go_roundw
      case rel =>
        refine ⟨k + 1, by omega, by go_num, ⟨_, ho', fun j hj => ?_⟩, hb3⟩
        have hl := HLEN.out
        by_cases e : j = k
        · subst e
          rw [← HX.out]
          exact ⟨by simp [List.getElem?_set]; omega, by simp [List.getElem?_set]; omega, by simp [List.getElem?_set]; omega⟩
        · obtain ⟨g0, g1, g2⟩ := HBU.out j (by omega)
          exact ⟨by rw [List.getElem?_set_ne (by omega), List.getElem?_set_ne (by omega), List.getElem?_set_ne (by omega)]; exact g0, by rw [List.getElem?_set_ne (by omega), List.getElem?_set_ne (by omega), List.getElem?_set_ne (by omega)]; exact g1, by rw [List.getElem?_set_ne (by omega), List.getElem?_set_ne (by omega), List.getElem?_set_ne (by omega)]; exact g2⟩
      case measure => simp [intOf]; omega
    · obtain rfl : k = n := by omega
      go_wp2
      go_ret
      refine ⟨_, xs, rfl, ho, ⟨fun _ => rfl, h.len, by unfold maxLen; omega, fun _ => ho.hi, fun j hj => ?c0, fun j hj => ?c1, fun j hj => ?c2, h.rng⟩, hb⟩
      case c0 => have h9 := ho.holds (j * 3) (by omega); rw [(hbu j hj).1] at h9; simpa [Nat.add_assoc] using h9
      case c1 => have h9 := ho.holds (j * 3 + 1) (by omega); rw [(hbu j hj).2.1] at h9; simpa [Nat.add_assoc] using h9
      case c2 => have h9 := ho.holds (j * 3 + 2) (by omega); rw [(hbu j hj).2.2] at h9; simpa [Nat.add_assoc] using h9

set_option maxHeartbeats 400000 in
set_option maxRecDepth 100000 in
theorem eqJob_any (x0 : Int) (x1 : Int) (x2 : Int) (w : World) :
    Calls Try.prog 92 #[.agg #[.int .i64 x0, .int .i64 x1, .int .i64 x2], .agg #[.int .i64 x0, .int .i64 x1, .int .i64 x2]] w fun e w' => e = .returned (.bool true) ∧ Below w.heap.size w w' := by
  go_enter Try.func92, Try.ntmps92
  go_wp2
  go_ret
  exact ⟨rfl, ((Below.refl _ _).alloc (Nat.le_refl _) _).alloc (by simp) _⟩

set_option maxHeartbeats 1000000 in
theorem eqJobS_any (a a' : Option Addr) (b o n c b' o' c' : Nat) (J : List Tr) (w : World) (h : T3At w a b o n J) (h' : T3At w a' b' o' n J) :
    Calls Try.prog 68 #[.slice a n c, .slice a' n c'] w fun e w' => e = .returned (.bool true) ∧ Below w.heap.size w w' := by
  have hmax := h.max
  unfold maxLen at hmax
  go_enter Try.func68, Try.ntmps68
  go_wp2
  go_loopw [5] (fun i wr => ∃ k : Nat, k ≤ n ∧ i = .int .i64 k ∧ Below w.heap.size w wr) (fun i _ => n - (intOf i).toNat)
  case atStart => exact ⟨0, Nat.zero_le _, rfl, Below.refl _ _⟩
  case round =>
    obtain ⟨k, hk, rfl, hb⟩ := hrel
    by_cases hlt : k < n
    · obtain rfl := h.ad (by omega)
      obtain rfl := h'.ad (by omega)
      have hc0 := (h.below' hb).c0 k hlt
      have hd0 := (h'.below' hb).c0 k hlt
      have hc1 := (h.below' hb).c1 k hlt
      have hd1 := (h'.below' hb).c1 k hlt
      have hc2 := (h.below' hb).c2 k hlt
      have hd2 := (h'.below' hb).c2 k hlt
      obtain ⟨⟨x0, x1, x2⟩, hx⟩ : ∃ x, x = t3 J k := ⟨_, rfl⟩
      rw [← hx] at hc0 hd0 hc1 hd1 hc2 hd2
      dsimp only at hc0 hd0 hc1 hd1 hc2 hd2
      clear hx
      have hlt' : (k : Int) < (n : Int) := by omega
      have hbb : Below w.heap.size w wr.drew := hb.drew
      go_wp2
      go_region_held3 (fun w' => w'.cell? ⟨b, o + k * 3, none⟩ = some (.int .i64 x0) ∧ w'.cell? ⟨b, o + k * 3 + 1, none⟩ = some (.int .i64 x1) ∧ w'.cell? ⟨b, o + k * 3 + 2, none⟩ = some (.int .i64 x2) ∧ w'.cell? ⟨b', o' + k * 3, none⟩ = some (.int .i64 x0) ∧ w'.cell? ⟨b', o' + k * 3 + 1, none⟩ = some (.int .i64 x1) ∧ w'.cell? ⟨b', o' + k * 3 + 2, none⟩ = some (.int .i64 x2)) (first | (simp [go_sem, *]; done) | assumption)
        (first
          | (go_at_call 92; refine (eqJob_any x0 x1 x2 _).mono ?_; rintro e w1 ⟨rfl, hb1⟩; have q0 := keepC hb1 hc0; have r0 := keepC hb1 hd0; have q1 := keepC hb1 hc1; have r1 := keepC hb1 hd1; have q2 := keepC hb1 hc2; have r2 := keepC hb1 hd2))
      go_wp2
      go_roundw
      case rel => exact ⟨k + 1, by omega, by go_num, hbb.trans (hb1.mono hbb.size)⟩
      case measure => simp [intOf]; omega
    · go_wp2
      go_ret
      exact ⟨rfl, hb⟩

set_option maxHeartbeats 400000 in
theorem szOwedS_any (a : Option Addr) (n c : Nat) (left : Int) (w : World) (hl0 : 0 ≤ left) (hl1 : left ≤ 1048576) (hn : n ≤ maxLen) :
    Calls Try.prog 52 #[.slice a n c, .int .i64 left] w fun e w' => (∃ r, e = .returned (.int .i64 r) ∧ (r = -1 ∨ r = left - n ∧ 0 ≤ r)) ∧ w' = w := by
  unfold maxLen at hn
  by_cases h1 : left - n < 0
  · go_enter Try.func52, Try.ntmps52
    go_wp2
    go_ret
    exact ⟨⟨_, rfl, .inl rfl⟩, rfl⟩
  · go_enter Try.func52, Try.ntmps52
    go_wp2
    go_ret
    exact ⟨⟨_, rfl, .inr ⟨rfl, by omega⟩⟩, rfl⟩

theorem Try.infoOwed : (Try.prog.info? 105).map (fun i => (i.zero, i.size, i.bytes)) = some (some (.agg #[.int .i64 0, .int .i64 0, .int .i64 0]), 3, 24) := by kernel_rfl

set_option maxHeartbeats 400000 in
set_option maxRecDepth 100000 in
theorem toOwed_any (x0 : Int) (x1 : Int) (x2 : Int) (w : World) :
    Calls Try.prog 87 #[.agg #[.int .i64 x0, .int .i64 x1, .int .i64 x2]] w fun e w' => e = .returned (.agg #[.int .i64 x0, .int .i64 x1, .int .i64 x2]) ∧ Below w.heap.size w w' := by
  go_enter Try.func87, Try.ntmps87
  go_wp2
  refine bodyPost_ret (v := .agg #[.int .i64 x0, .int .i64 x1, .int .i64 x2]) (by simp [results, Try.results87, go_sem]) rfl ⟨rfl, ?_⟩
  repeat (first | exact Below.refl _ _ | refine Below.setCell ?_ (by first | exact Nat.le_refl _ | (dsimp only; omega) | (simp; done) | (simp; omega)) _ | refine Below.alloc ?_ (by first | (simp; done) | (simp; omega)) _)

set_option maxHeartbeats 1000000 in
set_option maxRecDepth 100000 in
theorem toOwedS_any (a : Option Addr) (b o n c : Nat) (J : List Tr) (w : World) (h : T3At w a b o n J) (hn : n ≤ 1048576) :
    Calls Try.prog 60 #[.slice a n c] w fun e w' => ∃ g xs, e = .returned (.slice (some ⟨g, 0, none⟩) n n) ∧ OwnC w.heap.size w' 3 g 0 n n xs ∧ T3At w' (some ⟨g, 0, none⟩) g 0 n J ∧ Below w.heap.size w w' := by
  obtain ⟨i0, hi, hz0, hz1, hz2⟩ := info_parts Try.infoOwed
  go_enter Try.func60, Try.ntmps60
  go_wp2_with (refine wpList_make_c _ rfl _ _ 65 rfl w.heap.size 105 i0 (.agg #[.int .i64 0, .int .i64 0, .int .i64 0]) 3 24 Try.underlying65 hi hz0 hz1 hz2 .i64 .i64 n n n rfl rfl rfl rfl (by omega) (by unfold maxLen; omega) (Nat.le_refl _) ?_; intro w1 hown hgr)
  go_loopw [4] (fun i wr => ∃ k : Nat, k ≤ n ∧ i = .int .i64 k ∧ (∃ xs, OwnC w.heap.size wr 3 w.heap.size 0 n n xs ∧ ∀ j, j < k → xs[j * 3]? = some (.int .i64 (t3 J j).1) ∧ xs[j * 3 + 1]? = some (.int .i64 (t3 J j).2.1) ∧ xs[j * 3 + 2]? = some (.int .i64 (t3 J j).2.2)) ∧ Below w.heap.size w wr) (fun i _ => n - (intOf i).toNat)
  case atStart => exact ⟨0, Nat.zero_le _, rfl, ⟨_, hown, fun j hj => absurd hj (by omega)⟩, (Below.refl _ _).grown hgr (Nat.le_refl _) (by simp)⟩
  case round =>
    obtain ⟨k, hk, rfl, ⟨xs, ho, hbu⟩, hb⟩ := hrel
    by_cases hlt : k < n
    · obtain rfl := h.ad (by omega)
      have hc0 := (h.below' hb).c0 k hlt
      have hc1 := (h.below' hb).c1 k hlt
      have hc2 := (h.below' hb).c2 k hlt
      obtain ⟨⟨x0, x1, x2⟩, hx⟩ : ∃ x, x = t3 J k := ⟨_, rfl⟩
      rw [← hx] at hc0 hc1 hc2
      dsimp only at hc0 hc1 hc2
      have HX := hid hx
      clear hx
      have hlt' : (k : Int) < (n : Int) := by omega
      go_wp2_with fail
      refine (toOwed_any x0 x1 x2 _).mono ?_
      rintro e w2 ⟨rfl, hb2⟩
      have ho2 := ho.below hb2 ho.hi
      have hhi := ho.hi
      have hb' := hb.trans (hb2.mono hb.size)
      obtain ⟨u0, _, hq0⟩ := ho2.cellSome (j := k * 3) (by omega)
      obtain ⟨u1, _, hq1⟩ := ho2.cellSome (j := k * 3 + 1) (by omega)
      obtain ⟨u2, _, hq2⟩ := ho2.cellSome (j := k * 3 + 2) (by omega)
      have hf0 := ho2.notFrozen (j := k * 3) (by omega)
      have hf1 := ho2.notFrozen (j := k * 3 + 1) (by omega)
      have hf2 := ho2.notFrozen (j := k * 3 + 2) (by omega)
      have hlen : k * 3 + 2 < xs.length := by rw [ho2.len]; omega
      have ho' := (((ho2.setCell (j := k * 3) (by omega) (.int .i64 x0)).setCell (j := k * 3 + 1) (by omega) (.int .i64 x1)).setCell (j := k * 3 + 2) (by omega) (.int .i64 x2))
      have hb3 := (((hb'.setCell (p := ⟨w.heap.size, k * 3, none⟩) (Nat.le_refl _) (.int .i64 x0)).setCell (p := ⟨w.heap.size, k * 3 + 1, none⟩) (Nat.le_refl _) (.int .i64 x1)).setCell (p := ⟨w.heap.size, k * 3 + 2, none⟩) (Nat.le_refl _) (.int .i64 x2))
      simp only [Nat.zero_add] at hq0 hq1 hq2 hf0 hf1 hf2 ho'
      have HBU := hid hbu
      have HLEN := hid hlen
      clear ho2 ho hb2 hb' hbu hlen
      go_wp2
      go_roundw
      case rel =>
        refine ⟨k + 1, by omega, by go_num, ⟨_, ho', fun j hj => ?_⟩, hb3⟩
        have hl := HLEN.out
        by_cases e : j = k
        · subst e
          rw [← HX.out]
          exact ⟨by simp [List.getElem?_set]; omega, by simp [List.getElem?_set]; omega, by simp [List.getElem?_set]; omega⟩
        · obtain ⟨g0, g1, g2⟩ := HBU.out j (by omega)
          exact ⟨by rw [List.getElem?_set_ne (by omega), List.getElem?_set_ne (by omega), List.getElem?_set_ne (by omega)]; exact g0, by rw [List.getElem?_set_ne (by omega), List.getElem?_set_ne (by omega), List.getElem?_set_ne (by omega)]; exact g1, by rw [List.getElem?_set_ne (by omega), List.getElem?_set_ne (by omega), List.getElem?_set_ne (by omega)]; exact g2⟩
      case measure => simp [intOf]; omega
    · obtain rfl : k = n := by omega
      go_wp2
      go_ret
      refine ⟨_, xs, rfl, ho, ⟨fun _ => rfl, h.len, by unfold maxLen; omega, fun _ => ho.hi, fun j hj => ?c0, fun j hj => ?c1, fun j hj => ?c2, h.rng⟩, hb⟩
      case c0 => have h9 := ho.holds (j * 3) (by omega); rw [(hbu j hj).1] at h9; simpa [Nat.add_assoc] using h9
      case c1 => have h9 := ho.holds (j * 3 + 1) (by omega); rw [(hbu j hj).2.1] at h9; simpa [Nat.add_assoc] using h9
      case c2 => have h9 := ho.holds (j * 3 + 2) (by omega); rw [(hbu j hj).2.2] at h9; simpa [Nat.add_assoc] using h9

set_option maxHeartbeats 400000 in
set_option maxRecDepth 100000 in
theorem eqOwed_any (x0 : Int) (x1 : Int) (x2 : Int) (w : World) :
    Calls Try.prog 94 #[.agg #[.int .i64 x0, .int .i64 x1, .int .i64 x2], .agg #[.int .i64 x0, .int .i64 x1, .int .i64 x2]] w fun e w' => e = .returned (.bool true) ∧ Below w.heap.size w w' := by
  go_enter Try.func94, Try.ntmps94
  go_wp2
  go_ret
  exact ⟨rfl, ((Below.refl _ _).alloc (Nat.le_refl _) _).alloc (by simp) _⟩

set_option maxHeartbeats 1000000 in
theorem eqOwedS_any (a a' : Option Addr) (b o n c b' o' c' : Nat) (J : List Tr) (w : World) (h : T3At w a b o n J) (h' : T3At w a' b' o' n J) :
    Calls Try.prog 70 #[.slice a n c, .slice a' n c'] w fun e w' => e = .returned (.bool true) ∧ Below w.heap.size w w' := by
  have hmax := h.max
  unfold maxLen at hmax
  go_enter Try.func70, Try.ntmps70
  go_wp2
  go_loopw [5] (fun i wr => ∃ k : Nat, k ≤ n ∧ i = .int .i64 k ∧ Below w.heap.size w wr) (fun i _ => n - (intOf i).toNat)
  case atStart => exact ⟨0, Nat.zero_le _, rfl, Below.refl _ _⟩
  case round =>
    obtain ⟨k, hk, rfl, hb⟩ := hrel
    by_cases hlt : k < n
    · obtain rfl := h.ad (by omega)
      obtain rfl := h'.ad (by omega)
      have hc0 := (h.below' hb).c0 k hlt
      have hd0 := (h'.below' hb).c0 k hlt
      have hc1 := (h.below' hb).c1 k hlt
      have hd1 := (h'.below' hb).c1 k hlt
      have hc2 := (h.below' hb).c2 k hlt
      have hd2 := (h'.below' hb).c2 k hlt
      obtain ⟨⟨x0, x1, x2⟩, hx⟩ : ∃ x, x = t3 J k := ⟨_, rfl⟩
      rw [← hx] at hc0 hd0 hc1 hd1 hc2 hd2
      dsimp only at hc0 hd0 hc1 hd1 hc2 hd2
      clear hx
      have hlt' : (k : Int) < (n : Int) := by omega
      have hbb : Below w.heap.size w wr.drew := hb.drew
      go_wp2
      go_region_held3 (fun w' => w'.cell? ⟨b, o + k * 3, none⟩ = some (.int .i64 x0) ∧ w'.cell? ⟨b, o + k * 3 + 1, none⟩ = some (.int .i64 x1) ∧ w'.cell? ⟨b, o + k * 3 + 2, none⟩ = some (.int .i64 x2) ∧ w'.cell? ⟨b', o' + k * 3, none⟩ = some (.int .i64 x0) ∧ w'.cell? ⟨b', o' + k * 3 + 1, none⟩ = some (.int .i64 x1) ∧ w'.cell? ⟨b', o' + k * 3 + 2, none⟩ = some (.int .i64 x2)) (first | (simp [go_sem, *]; done) | assumption)
        (first
          | (go_at_call 94; refine (eqOwed_any x0 x1 x2 _).mono ?_; rintro e w1 ⟨rfl, hb1⟩; have q0 := keepC hb1 hc0; have r0 := keepC hb1 hd0; have q1 := keepC hb1 hc1; have r1 := keepC hb1 hd1; have q2 := keepC hb1 hc2; have r2 := keepC hb1 hd2))
      go_wp2
      go_roundw
      case rel => exact ⟨k + 1, by omega, by go_num, hbb.trans (hb1.mono hbb.size)⟩
      case measure => simp [intOf]; omega
    · go_wp2
      go_ret
      exact ⟨rfl, hb⟩

set_option maxHeartbeats 400000 in
theorem szSeatS_any (a : Option Addr) (n c : Nat) (left : Int) (w : World) (hl0 : 0 ≤ left) (hl1 : left ≤ 1048576) (hn : n ≤ maxLen) :
    Calls Try.prog 51 #[.slice a n c, .int .i64 left] w fun e w' => (∃ r, e = .returned (.int .i64 r) ∧ (r = -1 ∨ r = left - n ∧ 0 ≤ r)) ∧ w' = w := by
  unfold maxLen at hn
  by_cases h1 : left - n < 0
  · go_enter Try.func51, Try.ntmps51
    go_wp2
    go_ret
    exact ⟨⟨_, rfl, .inl rfl⟩, rfl⟩
  · go_enter Try.func51, Try.ntmps51
    go_wp2
    go_ret
    exact ⟨⟨_, rfl, .inr ⟨rfl, by omega⟩⟩, rfl⟩

theorem Try.infoSeat : (Try.prog.info? 103).map (fun i => (i.zero, i.size, i.bytes)) = some (some (.agg #[.bool false, .int .i64 0]), 2, 16) := by kernel_rfl

set_option maxHeartbeats 400000 in
set_option maxRecDepth 100000 in
theorem toSeat_any (x0 : Bool) (x1 : Int) (w : World) :
    Calls Try.prog 86 #[.agg #[.bool x0, .int .i64 x1]] w fun e w' => e = .returned (.agg #[.bool x0, .int .i64 x1]) ∧ Below w.heap.size w w' := by
  go_enter Try.func86, Try.ntmps86
  go_wp2
  refine bodyPost_ret (v := .agg #[.bool x0, .int .i64 x1]) (by simp [results, Try.results86, go_sem]) rfl ⟨rfl, ?_⟩
  repeat (first | exact Below.refl _ _ | refine Below.setCell ?_ (by first | exact Nat.le_refl _ | (dsimp only; omega) | (simp; done) | (simp; omega)) _ | refine Below.alloc ?_ (by first | (simp; done) | (simp; omega)) _)

set_option maxHeartbeats 1000000 in
set_option maxRecDepth 100000 in
theorem toSeatS_any (a : Option Addr) (b o n c : Nat) (J : List (Bool × Int)) (w : World) (h : T2At w a b o n J) (hn : n ≤ 1048576) :
    Calls Try.prog 59 #[.slice a n c] w fun e w' => ∃ g xs, e = .returned (.slice (some ⟨g, 0, none⟩) n n) ∧ OwnC w.heap.size w' 2 g 0 n n xs ∧ T2At w' (some ⟨g, 0, none⟩) g 0 n J ∧ Below w.heap.size w w' := by
  obtain ⟨i0, hi, hz0, hz1, hz2⟩ := info_parts Try.infoSeat
  go_enter Try.func59, Try.ntmps59
  go_wp2_with (refine wpList_make_c _ rfl _ _ 64 rfl w.heap.size 103 i0 (.agg #[.bool false, .int .i64 0]) 2 16 Try.underlying64 hi hz0 hz1 hz2 .i64 .i64 n n n rfl rfl rfl rfl (by omega) (by unfold maxLen; omega) (Nat.le_refl _) ?_; intro w1 hown hgr)
  go_loopw [4] (fun i wr => ∃ k : Nat, k ≤ n ∧ i = .int .i64 k ∧ (∃ xs, OwnC w.heap.size wr 2 w.heap.size 0 n n xs ∧ ∀ j, j < k → xs[j * 2]? = some (.bool (t2 J j).1) ∧ xs[j * 2 + 1]? = some (.int .i64 (t2 J j).2)) ∧ Below w.heap.size w wr) (fun i _ => n - (intOf i).toNat)
  case atStart => exact ⟨0, Nat.zero_le _, rfl, ⟨_, hown, fun j hj => absurd hj (by omega)⟩, (Below.refl _ _).grown hgr (Nat.le_refl _) (by simp)⟩
  case round =>
    obtain ⟨k, hk, rfl, ⟨xs, ho, hbu⟩, hb⟩ := hrel
    by_cases hlt : k < n
    · obtain rfl := h.ad (by omega)
      have hc0 := (h.below' hb).c0 k hlt
      have hc1 := (h.below' hb).c1 k hlt
      obtain ⟨⟨x0, x1⟩, hx⟩ : ∃ x, x = t2 J k := ⟨_, rfl⟩
      rw [← hx] at hc0 hc1
      dsimp only at hc0 hc1
      have HX := hid hx
      clear hx
      have hlt' : (k : Int) < (n : Int) := by omega
      go_wp2_with fail
      refine (toSeat_any x0 x1 _).mono ?_
      rintro e w2 ⟨rfl, hb2⟩
      have ho2 := ho.below hb2 ho.hi
      have hhi := ho.hi
      have hb' := hb.trans (hb2.mono hb.size)
      obtain ⟨u0, _, hq0⟩ := ho2.cellSome (j := k * 2) (by omega)
      obtain ⟨u1, _, hq1⟩ := ho2.cellSome (j := k * 2 + 1) (by omega)
      have hf0 := ho2.notFrozen (j := k * 2) (by omega)
      have hf1 := ho2.notFrozen (j := k * 2 + 1) (by omega)
      have hlen : k * 2 + 1 < xs.length := by rw [ho2.len]; omega
      have ho' := ((ho2.setCell (j := k * 2) (by omega) (.bool x0)).setCell (j := k * 2 + 1) (by omega) (.int .i64 x1))
      have hb3 := ((hb'.setCell (p := ⟨w.heap.size, k * 2, none⟩) (Nat.le_refl _) (.bool x0)).setCell (p := ⟨w.heap.size, k * 2 + 1, none⟩) (Nat.le_refl _) (.int .i64 x1))
      simp only [Nat.zero_add] at hq0 hq1 hf0 hf1 ho'
      have HBU := hid hbu
      have HLEN := hid hlen
      clear ho2 ho hb2 hb' hbu hlen
      go_wp2
      go_roundw
      case rel =>
        refine ⟨k + 1, by omega, by go_num, ⟨_, ho', fun j hj => ?_⟩, hb3⟩
        have hl := HLEN.out
        by_cases e : j = k
        · subst e
          rw [← HX.out]
          exact ⟨by simp [List.getElem?_set]; omega, by simp [List.getElem?_set]; omega⟩
        · obtain ⟨g0, g1⟩ := HBU.out j (by omega)
          exact ⟨by rw [List.getElem?_set_ne (by omega), List.getElem?_set_ne (by omega)]; exact g0, by rw [List.getElem?_set_ne (by omega), List.getElem?_set_ne (by omega)]; exact g1⟩
      case measure => simp [intOf]; omega
    · obtain rfl : k = n := by omega
      go_wp2
      go_ret
      refine ⟨_, xs, rfl, ho, ⟨fun _ => rfl, h.len, by unfold maxLen; omega, fun _ => ho.hi, fun j hj => ?c0, fun j hj => ?c1, h.rng⟩, hb⟩
      case c0 => have h9 := ho.holds (j * 2) (by omega); rw [(hbu j hj).1] at h9; simpa [Nat.add_assoc] using h9
      case c1 => have h9 := ho.holds (j * 2 + 1) (by omega); rw [(hbu j hj).2] at h9; simpa [Nat.add_assoc] using h9

set_option maxHeartbeats 400000 in
set_option maxRecDepth 100000 in
theorem eqSeat_any (x0 : Bool) (x1 : Int) (w : World) :
    Calls Try.prog 93 #[.agg #[.bool x0, .int .i64 x1], .agg #[.bool x0, .int .i64 x1]] w fun e w' => e = .returned (.bool true) ∧ Below w.heap.size w w' := by
  go_enter Try.func93, Try.ntmps93
  go_wp2
  go_ret
  exact ⟨rfl, ((Below.refl _ _).alloc (Nat.le_refl _) _).alloc (by simp) _⟩

set_option maxHeartbeats 1000000 in
theorem eqSeatS_any (a a' : Option Addr) (b o n c b' o' c' : Nat) (J : List (Bool × Int)) (w : World) (h : T2At w a b o n J) (h' : T2At w a' b' o' n J) :
    Calls Try.prog 69 #[.slice a n c, .slice a' n c'] w fun e w' => e = .returned (.bool true) ∧ Below w.heap.size w w' := by
  have hmax := h.max
  unfold maxLen at hmax
  go_enter Try.func69, Try.ntmps69
  go_wp2
  go_loopw [5] (fun i wr => ∃ k : Nat, k ≤ n ∧ i = .int .i64 k ∧ Below w.heap.size w wr) (fun i _ => n - (intOf i).toNat)
  case atStart => exact ⟨0, Nat.zero_le _, rfl, Below.refl _ _⟩
  case round =>
    obtain ⟨k, hk, rfl, hb⟩ := hrel
    by_cases hlt : k < n
    · obtain rfl := h.ad (by omega)
      obtain rfl := h'.ad (by omega)
      have hc0 := (h.below' hb).c0 k hlt
      have hd0 := (h'.below' hb).c0 k hlt
      have hc1 := (h.below' hb).c1 k hlt
      have hd1 := (h'.below' hb).c1 k hlt
      obtain ⟨⟨x0, x1⟩, hx⟩ : ∃ x, x = t2 J k := ⟨_, rfl⟩
      rw [← hx] at hc0 hd0 hc1 hd1
      dsimp only at hc0 hd0 hc1 hd1
      clear hx
      have hlt' : (k : Int) < (n : Int) := by omega
      have hbb : Below w.heap.size w wr.drew := hb.drew
      go_wp2
      go_region_held3 (fun w' => w'.cell? ⟨b, o + k * 2, none⟩ = some (.bool x0) ∧ w'.cell? ⟨b, o + k * 2 + 1, none⟩ = some (.int .i64 x1) ∧ w'.cell? ⟨b', o' + k * 2, none⟩ = some (.bool x0) ∧ w'.cell? ⟨b', o' + k * 2 + 1, none⟩ = some (.int .i64 x1)) (first | (simp [go_sem, *]; done) | assumption)
        (first
          | (go_at_call 93; refine (eqSeat_any x0 x1 _).mono ?_; rintro e w1 ⟨rfl, hb1⟩; have q0 := keepC hb1 hc0; have r0 := keepC hb1 hd0; have q1 := keepC hb1 hc1; have r1 := keepC hb1 hd1))
      go_wp2
      go_roundw
      case rel => exact ⟨k + 1, by omega, by go_num, hbb.trans (hb1.mono hbb.size)⟩
      case measure => simp [intOf]; omega
    · go_wp2
      go_ret
      exact ⟨rfl, hb⟩

end Go.Proofs.Ytoikcjeagigmfaa
