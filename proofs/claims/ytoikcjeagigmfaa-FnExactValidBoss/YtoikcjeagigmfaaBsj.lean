
/-
  spec.l5JobsOk.
-/
import Derived.Test.YtoikcjeagigmfaaBok
namespace Go.Proofs.Ytoikcjeagigmfaa
open Go.RowKit

set_option maxHeartbeats 4000000 in
set_option maxRecDepth 100000 in
theorem l5JobsOk_any (wk : Int) (up : Bool) (now sn ep gv : Int) (a1 a2 ar aj az ao : Option Addr) (n1 c1 n2 c2 nr cr cj ns cs no co : Nat) (pa : Option Addr) (pb po pc : Nat) (ts : List TaskD) (bj oj br or' : Nat) (J : List Tr) (R : List ByteArray) (w : World) (hJ : T3At w aj bj oj nr J) (hR : StrsAt w ar br or' nr R) (hT : TasksAt w pa pb po nr ts)
    (hA : allDeps ts nr) (he0 : 1 ≤ ep) (he1 : ep ≤ 100000) (hg0 : 0 ≤ gv) (hg1 : gv ≤ 1000000) (hn0 : 0 ≤ now) (hn1 : now ≤ 1000000) :
    Calls Try.prog 56 #[.agg #[.int .i64 wk, .bool up, .int .i64 now, .int .i64 sn, .int .i64 ep, .int .i64 gv, .slice a1 n1 c1, .slice a2 n2 c2, .slice ar nr cr, .slice aj nr cj, .slice az ns cs, .slice ao no co], .agg #[.slice pa nr pc]] w fun e w' => RetB e (jobsAll ts R wk now ep gv J) ∧ Below w.heap.size w w' := by
  obtain ⟨W, hW⟩ : ∃ W, W = (w.alloc (.cells #[.int .i64 wk, .bool up, .int .i64 now, .int .i64 sn, .int .i64 ep, .int .i64 gv, .slice a1 n1 c1, .slice a2 n2 c2, .slice ar nr cr, .slice aj nr cj, .slice az ns cs, .slice ao no co] 67)).alloc (.cells #[.slice pa nr pc] 44) := ⟨_, rfl⟩
  have hbW : Below w.heap.size w W := by rw [hW]; exact ((Below.refl _ _).alloc (Nat.le_refl _) _).alloc (by simp) _
  have hsW : W.heap.size = w.heap.size + 2 := by rw [hW]; simp
  have hq : MC W w.heap.size [.int .i64 wk, .bool up, .int .i64 now, .int .i64 sn, .int .i64 ep, .int .i64 gv, .slice a1 n1 c1, .slice a2 n2 c2, .slice ar nr cr, .slice aj nr cj, .slice az ns cs, .slice ao no co] ∧ MC W (w.heap.size + 1) [.slice pa nr pc] := by
    have x1 := MC.made w #[.int .i64 wk, .bool up, .int .i64 now, .int .i64 sn, .int .i64 ep, .int .i64 gv, .slice a1 n1 c1, .slice a2 n2 c2, .slice ar nr cr, .slice aj nr cj, .slice az ns cs, .slice ao no co] 67
    have x3 := MC.made (w.alloc (.cells #[.int .i64 wk, .bool up, .int .i64 now, .int .i64 sn, .int .i64 ep, .int .i64 gv, .slice a1 n1 c1, .slice a2 n2 c2, .slice ar nr cr, .slice aj nr cj, .slice az ns cs, .slice ao no co] 67)) #[.slice pa nr pc] 44
    rw [World.size_alloc] at x3
    rw [hW]; exact ⟨x1.block (Below.heap_alloc _ _ _ (by simp)), x3⟩
  have hmax := hT.max
  unfold maxLen at hmax
  have HJL := hid hJ.len
  have z4 : W.cell? ⟨w.heap.size, 4, none⟩ = some (.int .i64 ep) := hq.1 4 (by simp)
  go_enter Try.func56, Try.ntmps56
  go_upto_region 1 with fail
  rw [← hW]
  clear hW
  go_upto_region 2 with fail
  clear z4
  obtain ⟨ba, hba⟩ : ∃ ba, ba = (ep - 1) * 1000000 := ⟨_, rfl⟩
  rw [← hba]
  have hba0 : 0 ≤ ba := by omega
  have hba1 : ba ≤ 100000000000 := by omega
  have HBA := hid hba
  clear hba
  go_wp2
  go_loopw [6] (fun i wr => ∃ k : Nat, k ≤ nr ∧ i = .int .i64 k ∧ jobsDn ts R wk now ep gv J k ∧ Below W.heap.size W wr) (fun i _ => nr - (intOf i).toNat)
  case atStart => exact ⟨0, Nat.zero_le _, rfl, fun j hj => absurd hj (by omega), Below.refl _ _⟩
  case round =>
    obtain ⟨k, hk, rfl, hok, hb⟩ := hrel
    have hB := hbW.trans (hb.mono (by omega))
    have z9 : wr.cell? ⟨w.heap.size, 9, none⟩ = some (.slice aj nr cj) := keepB hb (hq.1 9 (by simp))
    by_cases hlt : k < nr
    · obtain rfl := hJ.ad (by omega)
      have hc0 := (hJ.below' hB).c0 k hlt
      have hc1 := (hJ.below' hB).c1 k hlt
      have hc2 := (hJ.below' hB).c2 k hlt
      obtain ⟨⟨x0, x1, x2⟩, hx⟩ : ∃ x, x = t3 J k := ⟨_, rfl⟩
      rw [← hx] at hc0 hc1 hc2
      dsimp only at hc0 hc1 hc2
      have HX := hid hx
      clear hx
      have hlt' : (k : Int) < (nr : Int) := by omega
      obtain ⟨V, hV⟩ : ∃ V, V = wr.alloc (.cells #[.int .i64 x0, .int .i64 x1, .int .i64 x2] 141) := ⟨_, rfl⟩
      have hbV1 : Below wr.heap.size wr V := by rw [hV]; exact (Below.refl _ _).alloc (Nat.le_refl _) _
      have hbV : Below W.heap.size W V := hb.trans (hbV1.mono hb.size)
      have hBV := hbW.trans (hbV.mono (by omega))
      have hmV : MC V wr.heap.size [.int .i64 x0, .int .i64 x1, .int .i64 x2] := by rw [hV]; exact MC.made wr _ _
      have hlV : wr.heap.size < V.heap.size := by rw [hV]; simp
      have y0 : V.cell? ⟨wr.heap.size, 0, none⟩ = some (.int .i64 x0) := hmV 0 (by simp)
      have y1 : V.cell? ⟨wr.heap.size, 1, none⟩ = some (.int .i64 x1) := hmV 1 (by simp)
      have y2 : V.cell? ⟨wr.heap.size, 2, none⟩ = some (.int .i64 x2) := hmV 2 (by simp)
      clear hmV
      go_upto_region 6 with fail
      rw [← hV]
      clear hV z9 hc0 hc1 hc2
      obtain ⟨jb, hjb⟩ : ∃ jb, jb = wr.heap.size := ⟨_, rfl⟩
      rw [← hjb] at y0 y1 y2 hlV
      rw [← hjb]
      clear hjb
      by_cases hz0 : x0 = 0
      · subst hz0
        by_cases hz1 : x1 = 0
        · subst hz1
          by_cases hz2 : x2 = 0
          · subst hz2
            go_wp2
            go_roundw
            case rel =>
              refine ⟨k + 1, by omega, by go_num, fun j hj => ?_, hbV⟩
              by_cases e : j = k
              · subst e; exact .inl HX.out.symm
              · exact hok j (by omega)
            case measure => simp [intOf]; omega
          · have HN := hid (show ¬ jobsAll ts R wk now ep gv J from fun hh => by
              rcases hh k (by rw [HJL.out]; exact hlt) with h0 | ⟨h1, _⟩
              · rw [← HX.out] at h0; exact hz2 (by simpa using h0)
              · rw [← HX.out] at h1; exact jobIn_ne h1 he0 rfl)
            go_wp2
            go_ret
            exact ⟨RetB.f HN.out, hBV⟩
        · have HN := hid (show ¬ jobsAll ts R wk now ep gv J from fun hh => by
            rcases hh k (by rw [HJL.out]; exact hlt) with h0 | ⟨h1, _⟩
            · rw [← HX.out] at h0; exact hz1 (by have := congrArg (fun t : Tr => t.2.1) h0; simpa using this)
            · rw [← HX.out] at h1; exact jobIn_ne h1 he0 rfl)
          go_wp2
          go_ret
          exact ⟨RetB.f HN.out, hBV⟩
      · have HZ := hid hz0
        have HNO : Hid (∀ P : Prop, (jobIn wk now ep gv (x0, x1, x2) → (∀ i', ¬ i' = k → i' < nr → ¬ (t3 J i').1 = x0) → dueOk ts R k → P) → jobsAll ts R wk now ep gv J → P) := fun P hP hh => by
          rcases hh k (by rw [HJL.out]; exact hlt) with h0 | ⟨h1, h2, h3⟩
          · rw [← HX.out] at h0; exact absurd (by have := congrArg (fun t : Tr => t.1) h0; simpa using this) HZ.out
          · rw [← HX.out] at h1
            exact hP h1 (fun i' a b => by have := h2 i' a (by rw [HJL.out]; exact b); rw [← HX.out] at this; exact this) h3
        have b0 : V.cell? ⟨w.heap.size, 0, none⟩ = some (.int .i64 wk) := keepB hbV (hq.1 0 (by simp))
        have b2 : V.cell? ⟨w.heap.size, 2, none⟩ = some (.int .i64 now) := keepB hbV (hq.1 2 (by simp))
        have b5 : V.cell? ⟨w.heap.size, 5, none⟩ = some (.int .i64 gv) := keepB hbV (hq.1 5 (by simp))
        have b8 : V.cell? ⟨w.heap.size, 8, none⟩ = some (.slice ar nr cr) := keepB hbV (hq.1 8 (by simp))
        have b9 : V.cell? ⟨w.heap.size, 9, none⟩ = some (.slice (some ⟨bj, oj, none⟩) nr cj) := keepB hbV (hq.1 9 (by simp))
        have bp : V.cell? ⟨w.heap.size + 1, 0, none⟩ = some (.slice pa nr pc) := keepB hbV (hq.2 0 (by simp))
        cases hA0 : inB x0 (ba + 1) (ba + gv) with
        | false =>
          have HN := hid (show ¬ jobsAll ts R wk now ep gv J from HNO.out False fun h1 _ _ => inB_f hA0 (by rw [HBA.out]; exact ⟨h1.1, h1.2.1⟩))
          go_wp2_with (first | (go_at_call 53; refine (l2In_any _ _ _ _).mono ?_; rintro e w9 ⟨rfl, rfl⟩))
          go_ret
          exact ⟨RetB.f HN.out, hBV⟩
        | true =>
          have HA0 := hid (inB_t hA0)
          cases hB0 : inB x1 1 wk with
          | false =>
            have HN := hid (show ¬ jobsAll ts R wk now ep gv J from HNO.out False fun h1 _ _ => inB_f hB0 ⟨h1.2.2.1, h1.2.2.2.1⟩)
            go_wp2_with (first | (go_at_call 53; refine (l2In_any _ _ _ _).mono ?_; rintro e w9 ⟨rfl, rfl⟩))
            go_ret
            exact ⟨RetB.f HN.out, hBV⟩
          | true =>
            have HB0 := hid (inB_t hB0)
            cases hC0 : inB x2 (now + 1) (now + 12) with
            | false =>
              have HN := hid (show ¬ jobsAll ts R wk now ep gv J from HNO.out False fun h1 _ _ => inB_f hC0 h1.2.2.2.2)
              go_wp2_with (first | (go_at_call 53; refine (l2In_any _ _ _ _).mono ?_; rintro e w9 ⟨rfl, rfl⟩))
              go_ret
              exact ⟨RetB.f HN.out, hBV⟩
            | true =>
              have HC0 := hid (inB_t hC0)
              obtain rfl := hR.ad (by omega)
              have hcr := (hR.below' hBV).cell k hlt
              obtain ⟨s, hs⟩ : ∃ s, s = R.getD k ByteArray.empty := ⟨_, rfl⟩
              rw [← hs] at hcr
              have HS : Hid (rs R k = s) := by rw [hs]; rfl
              clear hs
              by_cases hz : s.size = 0
              · have hz' := empty_t hz
                have HZZ := hid hz
                clear hz
                have htas := hT.below' hBV
                have hstr := hR.below' hBV
                go_wp2_with (first | (go_at_call 53; refine (l2In_any _ _ _ _).mono ?_; rintro e w9 ⟨rfl, rfl⟩))
                refine (l4Deps_any pa pb po nr pc ts _ br or' cr R k _ htas hstr hlt hA).mono ?_
                rintro e V1 ⟨⟨r, rfl, hr⟩, hb1⟩
                have hb1V : Below W.heap.size W V1 := hbV.trans (hb1.mono hbV.size)
                have hB1 := hbW.trans (hb1V.mono (by omega))
                have hs1 := hb1.size
                have y0' := keepB hb1 y0
                clear b0 b2 b5 b8 b9 bp hcr htas hstr y0 y1 y2
                cases r with
                | false =>
                  have HN := hid (show ¬ jobsAll ts R wk now ep gv J from HNO.out False fun _ _ h3 => by have := hr.2 h3.2; cases this)
                  clear hr
                  go_wp2
                  go_ret
                  exact ⟨RetB.f HN.out, hB1⟩
                | true =>
                  have HDU := hid (show dueOk ts R k from ⟨by rw [HS.out]; exact HZZ.out, hr.1 rfl⟩)
                  clear hr
                  go_wp2
                  go_loopw [8] (fun i wr' => ∃ m : Nat, m ≤ k ∧ i = .int .i64 m ∧ (∀ i', i' < m → ¬ (t3 J i').1 = x0) ∧ Below V1.heap.size V1 wr') (fun i _ => k - (intOf i).toNat)
                  case atStart => exact ⟨0, Nat.zero_le _, rfl, fun j hj => absurd hj (by omega), Below.refl _ _⟩
                  case round =>
                    obtain ⟨m, hm, rfl, hfar, hbm⟩ := hrel
                    have hbmW : Below W.heap.size W wr := hb1V.trans (hbm.mono hb1V.size)
                    have hBm := hbW.trans (hbmW.mono (by omega))
                    by_cases hml : m < k
                    · have z9 : wr.cell? ⟨w.heap.size, 9, none⟩ = some (.slice (some ⟨bj, oj, none⟩) nr cj) := keepB hbmW (hq.1 9 (by simp))
                      have yj : wr.cell? ⟨jb, 0, none⟩ = some (.int .i64 x0) := keepB hbm y0'
                      have hcm := (hJ.below' hBm).c0 m (by omega)
                      obtain ⟨xm, hxm⟩ : ∃ xm, xm = (t3 J m).1 := ⟨_, rfl⟩
                      rw [← hxm] at hcm
                      have HXM := hid hxm
                      clear hxm
                      have hml' : (m : Int) < (k : Int) := by omega
                      have hmr : (m : Int) < (nr : Int) := by omega
                      by_cases heq : xm = x0
                      · have HN := hid (show ¬ jobsAll ts R wk now ep gv J from HNO.out False fun _ h2 _ => h2 m (by omega) (by omega) (by rw [← HXM.out]; exact heq))
                        have heq' : (xm == x0) = true := by simpa using heq
                        clear heq
                        go_wp2
                        go_quiet (fail)
                        go_wp2
                        go_ret
                        exact ⟨RetB.f HN.out, below_drewN hBm _⟩
                      · have heq' : (xm == x0) = false := by simpa using heq
                        have HEQ := hid heq
                        clear heq
                        go_wp2
                        go_quiet (fail)
                        go_wp2
                        go_roundw
                        case rel =>
                          refine ⟨m + 1, by omega, by go_num, fun i' hi' => ?_, below_drewN hbm _⟩
                          by_cases e : i' = m
                          · subst e; rw [← HXM.out]; exact HEQ.out
                          · exact hfar i' (by omega)
                        case measure => simp [intOf]; omega
                    · obtain rfl : m = k := by omega
                      go_wp2
                      go_roundw
                      case rel =>
                        refine ⟨m + 1, by omega, by go_num, fun j hj => ?_, hbmW⟩
                        by_cases e : j = m
                        · subst e
                          have hin : jobIn wk now ep gv (t3 J j) := by
                            rw [← HX.out]
                            have h1 := HA0.out
                            rw [HBA.out] at h1
                            exact ⟨h1.1, h1.2, HB0.out.1, HB0.out.2, HC0.out.1, HC0.out.2⟩
                          exact .inr ⟨hin, fun i' a _ he => hfar i' a (by rw [he, ← HX.out]), HDU.out⟩
                        · exact hok j (by omega)
                      case measure => simp [intOf]; omega
              · have hz' := empty_f hz
                have HN := hid (show ¬ jobsAll ts R wk now ep gv J from HNO.out False fun _ _ h3 => hz (by rw [← HS.out]; exact h3.1))
                clear hz
                go_wp2_with (first | (go_at_call 53; refine (l2In_any _ _ _ _).mono ?_; rintro e w9 ⟨rfl, rfl⟩))
                go_ret
                exact ⟨RetB.f HN.out, hBV⟩
    · obtain rfl : k = nr := by omega
      go_wp2
      go_ret
      exact ⟨RetB.t (jobsDn.all (by rw [HJL.out]; exact hok) he0), hB⟩
end Go.Proofs.Ytoikcjeagigmfaa
