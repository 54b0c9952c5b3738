import Derived.Test.YthopfmhagddhgaaGreatQWls
import Derived.Test.YthopfmhagddhgaaGreatQWpr
namespace Go.Proofs.YthopfmhagddhgaaGreat
open Go.RowKit

/-- Each text says something. -/
def allFull (R : List ByteArray) (k : Nat) : Prop := ∀ j, j < k → ¬ (R.getD j ByteArray.empty).size = 0
theorem allFull.succ {R : List ByteArray} {k : Nat} (h : allFull R k) (h1 : ¬ (R.getD k ByteArray.empty).size = 0) : allFull R (k + 1) := fun j hj => by
  by_cases e : j = k
  · subst e; exact h1
  · exact h j (by omega)
theorem fe0 {s : ByteArray} (h : s.size = 0) : s = ⟨#[]⟩ := by
  obtain ⟨d⟩ := s
  have : d.size = 0 := h
  rw [Array.eq_empty_of_size_eq_zero this]
theorem fn0 {s : ByteArray} (h : ¬ s.size = 0) : s.toList.isEmpty = false ∧ (([] : List UInt8) == s.toList) = false := by
  cases hh : s.toList with
  | cons y r => exact ⟨rfl, rfl⟩
  | nil =>
    refine absurd ?_ h
    have : s.data.toList = [] := by rw [← ByteArray.toList_eq]; exact hh
    show s.data.size = 0
    rw [← Array.length_toList, this]; rfl
set_option maxHeartbeats 1000000 in
theorem index0_any (a : Option Addr) (b o n c : Nat) (R : List ByteArray) (w : World) (h : StrsAt w a b o n R) (hn : n ≤ 1048576) :
    Calls Tryz.prog 94 #[.slice a n c, .string ⟨#[]⟩] w fun e w' => (∃ r : Int, e = .returned (.int .i64 r) ∧ ((r = -1 ∧ allFull R n) ∨ (0 ≤ r ∧ ¬ allFull R n))) ∧ w' = w := by
  go_enter Tryz.func94, Tryz.ntmps94
  go_wp2
  go_loop [8] (fun i => ∃ k : Nat, k ≤ n ∧ i = .int .i64 k ∧ allFull R k) (fun i => n - (intOf i).toNat)
  case atStart => exact ⟨0, Nat.zero_le _, rfl, fun j hj => absurd hj (by omega)⟩
  case round =>
    obtain ⟨k, hk, rfl, hok⟩ := hrel
    by_cases hlt : k < n
    · obtain rfl := h.ad (by omega)
      have hc := h.cell k hlt
      obtain ⟨s, hs⟩ : ∃ s, s = R.getD k ByteArray.empty := ⟨_, rfl⟩
      rw [← hs] at hc
      have hlt' : (k : Int) < (n : Int) := by omega
      by_cases h0 : s.size = 0
      · have HN := hid (show ¬ allFull R n from fun hh => hh k hlt (by rw [← hs]; exact h0))
        obtain rfl := fe0 h0
        clear hs hok h0
        go_wp2
        go_ret
        exact ⟨⟨_, rfl, .inr ⟨by omega, HN.out⟩⟩, rfl⟩
      · have HQ := hid (hok.succ (by rw [← hs]; exact h0))
        obtain ⟨e1, e2⟩ := fn0 h0
        clear hs hok h0
        go_wp2
        go_round
        case rel => exact ⟨k + 1, by omega, by go_num, HQ.out⟩
        case measure => simp [intOf]; omega
    · obtain rfl : k = n := by omega
      have HQ := hid hok
      clear hok
      go_wp2
      go_ret
      exact ⟨⟨_, rfl, .inl ⟨rfl, HQ.out⟩⟩, rfl⟩

set_option maxHeartbeats 1000000 in
theorem contains0_any (a : Option Addr) (b o n c : Nat) (R : List ByteArray) (w : World) (h : StrsAt w a b o n R) (hn : n ≤ 1048576) :
    Calls Tryz.prog 40 #[.slice a n c, .string ⟨#[]⟩] w fun e w' => RetB e (¬ allFull R n) ∧ w' = w := by
  go_enter Tryz.func40, Tryz.ntmps40
  go_wp2_with fail
  refine (index0_any a b o n c R _ h hn).mono ?_
  rintro e w1 ⟨⟨r, rfl, hr⟩, hw1⟩
  rw [hw1]
  clear hw1
  rcases hr with ⟨rfl, hr⟩ | ⟨hr0, hr⟩
  · have HQ := hid hr
    clear hr
    go_wp2
    go_ret
    exact ⟨RetB.f (fun hh => hh HQ.out), rfl⟩
  · obtain ⟨q, rfl⟩ : ∃ q : Nat, r = q := ⟨r.toNat, by omega⟩
    have HQ := hid hr
    clear hr
    go_wp2
    go_ret
    exact ⟨RetB.t HQ.out, rfl⟩

/-- A finished world. -/
def finP (ts : List TaskD) (key : ByteArray) (d : BD) (wn : Nat) (Ws : List WkD) (fn : Nat) (Fl : List Pc) : Prop := vWo ts key d wn Ws fn Fl ∧ d.up = true ∧ allFull d.R d.R.length

set_option maxHeartbeats 4000000 in
set_option maxRecDepth 100000 in
theorem iFin_any (pa : Option Addr) (pb po pn pq : Nat) (ts : List TaskD) (key : ByteArray) (d : BD) (v0 v1 v2 v3 v4 v5 v6 v7 v8 v9 v10 v11 : Value) (wa : Option Addr) (wb wo wn wc : Nat) (Ws : List WkD) (fa : Option Addr) (fb fo fn fc : Nat) (Fl : List Pc) (fg : ByteArray) (w : World) (hT : TasksAt w pa pb po pn ts) (hV : BossV w d [v0, v1, v2, v3, v4, v5, v6, v7, v8, v9, v10, v11]) (hW : WrAt w wa wb wo wn Ws) (hF : PcAt w fa fb fo fn Fl) (hs2 : d.small) (hs3 : wn ≤ 1048576) (hs5 : fn ≤ 1048576) (hk : key.size ≤ 1048576) :
    Calls Tryz.prog 13 #[.agg #[.slice pa pn pq, .string key, v0, v1, v2, v3, v4, v5, v6, v7, v8, v9, v10, v11, .slice wa wn wc, .slice fa fn fc, .string fg]] w fun e w' => RetB e (finP ts key d wn Ws fn Fl) ∧ Below w.heap.size w w' := by
  have hRn : d.R.length ≤ 1048576 := by have := hs2; unfold BD.small at this; omega
  obtain ⟨hh, hv2, hMM⟩ := hV
  have hv : v1 = .bool d.up ∧ v8 = .slice hh.ar d.R.length hh.cr := by simp only [bvs, List.cons.injEq] at hv2; exact ⟨hv2.2.1, hv2.2.2.2.2.2.2.2.2.1⟩
  have hV : BossV w d [v0, v1, v2, v3, v4, v5, v6, v7, v8, v9, v10, v11] := ⟨hh, hv2, hMM⟩
  obtain ⟨ar, har⟩ : ∃ a, a = hh.ar := ⟨_, rfl⟩
  obtain ⟨cr, hcr⟩ : ∃ a, a = hh.cr := ⟨_, rfl⟩
  obtain ⟨_, _, ⟨br, oR, hR⟩, _⟩ := hMM
  rw [← har] at hR
  rw [← har, ← hcr] at hv
  obtain ⟨e1, e8⟩ := hv
  clear hv2 har hcr
  subst e1 e8
  obtain ⟨W, hWd⟩ : ∃ W, W = w.alloc (.cells #[.slice pa pn pq, .string key, v0, .bool d.up, v2, v3, v4, v5, v6, v7, .slice ar d.R.length cr, v9, v10, v11, .slice wa wn wc, .slice fa fn fc, .string fg] 51) := ⟨_, rfl⟩
  have B_0 : Below w.heap.size w W := by rw [hWd]; exact (Below.refl _ _).alloc (Nat.le_refl _) _
  have A_0 : CF W w.heap.size [.slice pa pn pq, .string key, v0, .bool d.up, v2, v3, v4, v5, v6, v7, .slice ar d.R.length cr, v9, v10, v11, .slice wa wn wc, .slice fa fn fc, .string fg] := by rw [hWd]; exact CF.made w _ _
  have l_0 : w.heap.size < W.heap.size := by rw [hWd]; simp
  obtain ⟨pA, hpA⟩ : ∃ q, q = w.heap.size := ⟨_, rfl⟩
  rw [← hpA] at A_0 l_0
  have HC := hid (iValW_any pa pb po pn pq ts key d v0 (.bool d.up) v2 v3 v4 v5 v6 v7 (.slice ar d.R.length cr) v9 v10 v11 wa wb wo wn wc Ws fa fb fo fn fc Fl fg W (hT.below' B_0) (hV.below' B_0) (hW.below' B_0) (hF.below' B_0) hs2 hs3 hs5 hk)
  go_enter Tryz.func13, Tryz.ntmps13
  go_upto_region 1 with fail
  rw [← hWd, ← hpA]
  clear hWd hpA
  go_wp2_with (first | (refine wpList_load_cf rfl 51 _ rfl pA [.slice pa pn pq, .string key, v0, .bool d.up, v2, v3, v4, v5, v6, v7, .slice ar d.R.length cr, v9, v10, v11, .slice wa wn wc, .slice fa fn fc, .string fg] _ rfl A_0 Tryz.underlying51 rfl (by kernel_rfl) ?_))
  refine HC.out.mono ?_
  rintro e x1 ⟨⟨r1, rfl, hr1⟩, hb⟩
  have B_1 := B_0.trans (hb.mono B_0.size)
  have A_1 := A_0.block (hb.block _ l_0)
  have z3 : x1.cell? ⟨pA, 3, none⟩ = some (.bool d.up) := (A_1 3 (by simp)).1
  have z10 : x1.cell? ⟨pA, 10, none⟩ = some (.slice ar d.R.length cr) := (A_1 10 (by simp)).1
  have HRa := hid (hR.below' B_1)
  clear hb A_1 A_0 B_0 l_0 HC hT hV hW hF hR
  cases r1 with
  | false =>
    have HN := hid (show ¬ finP ts key d wn Ws fn Fl from fun hh => absurd (hr1.2 hh.1) (by simp))
    clear hr1
    go_wp2
    go_ret
    exact ⟨RetB.f HN.out, B_1⟩
  | true =>
    have H1 := hid (hr1.1 rfl)
    clear hr1
    cases hup : d.up with
    | false =>
      rw [hup] at z3
      have HN := hid (show ¬ finP ts key d wn Ws fn Fl from fun hh => absurd (hup.symm.trans hh.2.1) (by simp))
      clear hup
      go_wp2
      go_ret
      exact ⟨RetB.f HN.out, B_1⟩
    | true =>
      rw [hup] at z3
      have HU := hid hup
      clear hup
      go_wp2_with fail
      refine (contains0_any ar br oR d.R.length cr d.R _ HRa.out hRn).mono ?_
      rintro e x2 ⟨⟨r2, rfl, hr2⟩, hx2⟩
      rw [hx2]
      clear hx2
      cases r2 with
      | true =>
        have HN := hid (show ¬ finP ts key d wn Ws fn Fl from fun hh => (hr2.1 rfl) hh.2.2)
        clear hr2
        go_wp2
        go_ret
        exact ⟨RetB.f HN.out, B_1⟩
      | false =>
        have HQ := hid (show finP ts key d wn Ws fn Fl from ⟨H1.out, HU.out, Classical.byContradiction fun hh => absurd (hr2.2 hh) (by simp)⟩)
        clear hr2
        go_wp2
        go_ret
        exact ⟨RetB.t HQ.out, B_1⟩

set_option maxHeartbeats 4000000 in
set_option maxRecDepth 100000 in
theorem sFin_any (pa : Option Addr) (pb po pn pq : Nat) (ts : List TaskD) (key : ByteArray) (d : BD) (v0 v1 v2 v3 v4 v5 v6 v7 v8 v9 v10 v11 : Value) (wa : Option Addr) (wb wo wn wc : Nat) (Ws : List WkD) (fa : Option Addr) (fb fo fn fc : Nat) (Fl : List Pc) (fg : ByteArray) (w : World) (hT : TasksAt w pa pb po pn ts) (hV : BossV w d [v0, v1, v2, v3, v4, v5, v6, v7, v8, v9, v10, v11]) (hW : WrAt w wa wb wo wn Ws) (hF : PcAt w fa fb fo fn Fl) (hs2 : d.small) (hs3 : wn ≤ 1048576) (hs5 : fn ≤ 1048576) (hk : key.size ≤ 1048576) :
    Calls Tryz.prog 12 #[.agg #[.slice pa pn pq, .string key, v0, v1, v2, v3, v4, v5, v6, v7, v8, v9, v10, v11, .slice wa wn wc, .slice fa fn fc, .string fg]] w fun e w' => RetB e (finP ts key d wn Ws fn Fl) ∧ Below w.heap.size w w' := by
  have hRn : d.R.length ≤ 1048576 := by have := hs2; unfold BD.small at this; omega
  obtain ⟨hh, hv2, hMM⟩ := hV
  have hv : v1 = .bool d.up ∧ v8 = .slice hh.ar d.R.length hh.cr := by simp only [bvs, List.cons.injEq] at hv2; exact ⟨hv2.2.1, hv2.2.2.2.2.2.2.2.2.1⟩
  have hV : BossV w d [v0, v1, v2, v3, v4, v5, v6, v7, v8, v9, v10, v11] := ⟨hh, hv2, hMM⟩
  obtain ⟨ar, har⟩ : ∃ a, a = hh.ar := ⟨_, rfl⟩
  obtain ⟨cr, hcr⟩ : ∃ a, a = hh.cr := ⟨_, rfl⟩
  obtain ⟨_, _, ⟨br, oR, hR⟩, _⟩ := hMM
  rw [← har] at hR
  rw [← har, ← hcr] at hv
  obtain ⟨e1, e8⟩ := hv
  clear hv2 har hcr
  subst e1 e8
  obtain ⟨W, hWd⟩ : ∃ W, W = w.alloc (.cells #[.slice pa pn pq, .string key, v0, .bool d.up, v2, v3, v4, v5, v6, v7, .slice ar d.R.length cr, v9, v10, v11, .slice wa wn wc, .slice fa fn fc, .string fg] 51) := ⟨_, rfl⟩
  have B_0 : Below w.heap.size w W := by rw [hWd]; exact (Below.refl _ _).alloc (Nat.le_refl _) _
  have A_0 : CF W w.heap.size [.slice pa pn pq, .string key, v0, .bool d.up, v2, v3, v4, v5, v6, v7, .slice ar d.R.length cr, v9, v10, v11, .slice wa wn wc, .slice fa fn fc, .string fg] := by rw [hWd]; exact CF.made w _ _
  have l_0 : w.heap.size < W.heap.size := by rw [hWd]; simp
  obtain ⟨pA, hpA⟩ : ∃ q, q = w.heap.size := ⟨_, rfl⟩
  rw [← hpA] at A_0 l_0
  have HC := hid (sValW_any pa pb po pn pq ts key d v0 (.bool d.up) v2 v3 v4 v5 v6 v7 (.slice ar d.R.length cr) v9 v10 v11 wa wb wo wn wc Ws fa fb fo fn fc Fl fg W (hT.below' B_0) (hV.below' B_0) (hW.below' B_0) (hF.below' B_0) hs2 hs3 hs5 hk)
  go_enter Tryz.func12, Tryz.ntmps12
  go_upto_region 1 with fail
  rw [← hWd, ← hpA]
  clear hWd hpA
  go_wp2_with (first | (refine wpList_load_cf rfl 51 _ rfl pA [.slice pa pn pq, .string key, v0, .bool d.up, v2, v3, v4, v5, v6, v7, .slice ar d.R.length cr, v9, v10, v11, .slice wa wn wc, .slice fa fn fc, .string fg] _ rfl A_0 Tryz.underlying51 rfl (by kernel_rfl) ?_))
  refine HC.out.mono ?_
  rintro e x1 ⟨⟨r1, rfl, hr1⟩, hb⟩
  have B_1 := B_0.trans (hb.mono B_0.size)
  have A_1 := A_0.block (hb.block _ l_0)
  have z3 : x1.cell? ⟨pA, 3, none⟩ = some (.bool d.up) := (A_1 3 (by simp)).1
  have z10 : x1.cell? ⟨pA, 10, none⟩ = some (.slice ar d.R.length cr) := (A_1 10 (by simp)).1
  have hR1 := hR.below' B_1
  clear hb A_1 A_0 B_0 l_0 HC hT hV hW hF hR
  cases r1 with
  | false =>
    have HN := hid (show ¬ finP ts key d wn Ws fn Fl from fun hh => absurd (hr1.2 hh.1) (by simp))
    clear hr1
    go_wp2
    go_ret
    exact ⟨RetB.f HN.out, B_1⟩
  | true =>
    have H1 := hid (hr1.1 rfl)
    clear hr1
    cases hup : d.up with
    | false =>
      rw [hup] at z3
      have HN := hid (show ¬ finP ts key d wn Ws fn Fl from fun hh => absurd (hup.symm.trans hh.2.1) (by simp))
      clear hup
      go_wp2
      go_ret
      exact ⟨RetB.f HN.out, B_1⟩
    | true =>
      rw [hup] at z3
      have HU := hid hup
      clear hup
      go_wp2
      go_loop [3] (fun i => ∃ k : Nat, k ≤ d.R.length ∧ i = .int .i64 k ∧ allFull d.R k) (fun i => d.R.length - (intOf i).toNat)
      case atStart => exact ⟨0, Nat.zero_le _, rfl, fun j hj => absurd hj (by omega)⟩
      case round =>
        obtain ⟨k, hk2, rfl, hok⟩ := hrel
        by_cases hlt : k < d.R.length
        · obtain rfl := hR1.ad (by omega)
          have hc := hR1.cell k hlt
          obtain ⟨s, hs⟩ : ∃ s, s = d.R.getD k ByteArray.empty := ⟨_, rfl⟩
          rw [← hs] at hc
          have hlt' : (k : Int) < (d.R.length : Int) := by omega
          by_cases h0 : s.size = 0
          · have HN := hid (show ¬ finP ts key d wn Ws fn Fl from fun hh => hh.2.2 k hlt (by rw [← hs]; exact h0))
            obtain rfl := fe0 h0
            clear hs hok h0
            go_wp2
            go_ret
            exact ⟨RetB.f HN.out, B_1⟩
          · have HQ := hid (hok.succ (by rw [← hs]; exact h0))
            obtain ⟨e1, e2⟩ := fn0 h0
            clear hs hok h0
            go_wp2
            go_round
            case rel => exact ⟨k + 1, by omega, by go_num, HQ.out⟩
            case measure => simp [intOf]; omega
        · have hkk : k = d.R.length := by omega
          have hok' : allFull d.R d.R.length := hkk ▸ hok
          have HQ := hid (show finP ts key d wn Ws fn Fl from ⟨H1.out, HU.out, hok'⟩)
          clear hok' hkk
          have hge : ¬ (k : Int) < (d.R.length : Int) := by omega
          clear hok
          go_wp2
          go_ret
          exact ⟨RetB.t HQ.out, B_1⟩
end Go.Proofs.YthopfmhagddhgaaGreat
