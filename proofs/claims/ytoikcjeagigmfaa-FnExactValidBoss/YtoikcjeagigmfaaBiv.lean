
/-
  A valid coordinator; impl.ValidBoss.
-/
import Derived.Test.YtoikcjeagigmfaaBok
import Derived.Test.YtoikcjeagigmfaaRIm
namespace Go.Proofs.Ytoikcjeagigmfaa
open Go.RowKit

/-- What is valid. -/
def vB (ts : List TaskD) (wk : Int) (up : Bool) (now sn ep gv : Int) (L1 L2 R : List ByteArray) (J : List Tr) (S : List (Bool × Int)) (O : List Tr) : Prop :=
  (Code ts 0 ∧ (L1 ++ L2).length ≤ 310) ∧ (1 ≤ wk ∧ wk ≤ 8) ∧ (0 ≤ now ∧ now ≤ 1000000) ∧ ∃ E Q, rep ts (L1 ++ L2) (st0 ts.length) = some (E, Q) ∧
    ((up = false ∧ isDown sn ep gv L2.length R.length J.length S.length O.length) ∨
     (up = true ∧ ep = E ∧ 1 ≤ ep ∧ R = Q ∧ (0 ≤ sn ∧ sn ≤ 1) ∧ (0 ≤ gv ∧ gv ≤ 1000000) ∧ (J.length = ts.length ∧ jobsAll ts R wk now ep gv J) ∧ ((S.length : Int) = wk ∧ seatsOk S S.length) ∧ (O.length ≤ 2000 ∧ owedOk wk R O O.length)))
theorem vB_up {ts : List TaskD} {wk now sn ep gv E : Int} {L1 L2 R Q : List ByteArray} {J : List Tr} {S : List (Bool × Int)} {O : List Tr} (h : vB ts wk true now sn ep gv L1 L2 R J S O) (hr : rep ts (L1 ++ L2) (st0 ts.length) = some (E, Q)) :
    ep = E ∧ 1 ≤ ep ∧ R = Q ∧ (0 ≤ sn ∧ sn ≤ 1) ∧ (0 ≤ gv ∧ gv ≤ 1000000) ∧ (J.length = ts.length ∧ jobsAll ts R wk now ep gv J) ∧ ((S.length : Int) = wk ∧ seatsOk S S.length) ∧ (O.length ≤ 2000 ∧ owedOk wk R O O.length) := by
  obtain ⟨_, _, _, E', Q', hr', h⟩ := h
  rw [hr] at hr'
  cases hr'
  rcases h with ⟨h, _⟩ | ⟨_, h⟩
  · cases h
  · exact h
theorem vB_dn {ts : List TaskD} {wk now sn ep gv : Int} {L1 L2 R : List ByteArray} {J : List Tr} {S : List (Bool × Int)} {O : List Tr} (h : vB ts wk false now sn ep gv L1 L2 R J S O) : isDown sn ep gv L2.length R.length J.length S.length O.length := by
  obtain ⟨_, _, _, E', Q', _, h⟩ := h
  rcases h with ⟨_, h⟩ | ⟨h, _⟩
  · exact h
  · cases h
theorem Own.statB {B : Nat} {w : World} {a : Option Addr} {n c : Nat} {ss : List ByteArray} (h : Own B w 1 (.slice a n c) n (ss.map Value.string)) (hz : ∀ s ∈ ss, s.size ≤ maxLen) : ∃ b o, StrsAt w a b o n ss ∧ (0 < n → B ≤ b) := by
  rcases h with ⟨hv, rfl, hx⟩ | ⟨g, o, cap, hv, hc⟩
  · injection hv with h1 _ _
    have : ss = [] := by simpa using hx
    subst this
    exact ⟨0, 0, ⟨fun h => absurd h (by omega), rfl, Nat.zero_le _, fun h => absurd h (by omega), fun j hj => absurd hj (by omega), by simp⟩, fun h => absurd h (by omega)⟩
  · injection hv with h1 _ _
    subst h1
    exact ⟨g, o, StrsAt.ofOwn hc hz, fun _ => hc.lo⟩
theorem StoryIs.zero {ts : List TaskD} {L : List ByteArray} {E : Int} {R : List ByteArray} (h : StoryIs ts L 0 E R) : (Code ts 0 ∧ L.length ≤ 310) ∧ rep ts L (st0 ts.length) = some (E, R) := by
  rcases h with ⟨_, h, _⟩ | ⟨h1, ⟨_, h, _⟩ | ⟨h2, _⟩⟩
  · cases h
  · cases h
  · exact ⟨h1, h2⟩
theorem StoryIs.nonzero {ts : List TaskD} {L : List ByteArray} {c E : Int} {R : List ByteArray} (h : StoryIs ts L c E R) (hc : ¬ c = 0) : ¬ ((Code ts 0 ∧ L.length ≤ 310) ∧ ∃ E Q, rep ts L (st0 ts.length) = some (E, Q)) := by
  rintro ⟨hh, E', Q', hr⟩
  rcases h with ⟨h, _⟩ | ⟨_, ⟨h, _⟩ | ⟨_, h⟩⟩
  · exact h hh
  · rw [h] at hr; cases hr
  · exact hc h

set_option maxHeartbeats 4000000 in
set_option maxRecDepth 100000 in
theorem iValB_any (wk : Int) (up : Bool) (now sn ep gv : Int) (a1 a2 ar aj az ao : Option Addr) (n1 c1 n2 c2 nr cr nj cj ns cs no co : Nat) (bl1 ol1 bl2 ol2 br or' bj oj bs os' bo oo : Nat) (L1 L2 R : List ByteArray) (J : List Tr) (S : List (Bool × Int)) (O : List Tr) (pa : Option Addr) (pb po pn pc : Nat) (ts : List TaskD) (w : World) (h1 : StrsAt w a1 bl1 ol1 n1 L1) (h2 : StrsAt w a2 bl2 ol2 n2 L2) (hR : StrsAt w ar br or' nr R) (hJ : T3At w aj bj oj nj J) (hS : T2At w az bs os' ns S) (hO : T3At w ao bo oo no O) (hT : TasksAt w pa pb po pn ts) (hm1 : n1 ≤ 1048576) (hm2 : n2 ≤ 1048576) (hmj : nj ≤ 1048576) :
    Calls Try.prog 30 #[.agg #[.int .i64 wk, .bool up, .int .i64 now, .int .i64 sn, .int .i64 ep, .int .i64 gv, .slice a1 n1 c1, .slice a2 n2 c2, .slice ar nr cr, .slice aj nj cj, .slice az ns cs, .slice ao no co], .agg #[.slice pa pn pc]] w fun e w' => RetB e (vB ts wk up now sn ep gv L1 L2 R J S O) ∧ Below w.heap.size w w' := by
  obtain ⟨W, hW⟩ : ∃ W, W = (w.alloc (.cells #[.int .i64 wk, .bool up, .int .i64 now, .int .i64 sn, .int .i64 ep, .int .i64 gv, .slice a1 n1 c1, .slice a2 n2 c2, .slice ar nr cr, .slice aj nj cj, .slice az ns cs, .slice ao no co] 67)).alloc (.cells #[.slice pa pn pc] 44) := ⟨_, rfl⟩
  have hbW : Below w.heap.size w W := by rw [hW]; exact ((Below.refl _ _).alloc (Nat.le_refl _) _).alloc (by simp) _
  have hsW : W.heap.size = w.heap.size + 2 := by rw [hW]; simp
  have hq : MC W w.heap.size [.int .i64 wk, .bool up, .int .i64 now, .int .i64 sn, .int .i64 ep, .int .i64 gv, .slice a1 n1 c1, .slice a2 n2 c2, .slice ar nr cr, .slice aj nj cj, .slice az ns cs, .slice ao no co] ∧ MC W (w.heap.size + 1) [.slice pa pn pc] := by
    have x1 := MC.made w #[.int .i64 wk, .bool up, .int .i64 now, .int .i64 sn, .int .i64 ep, .int .i64 gv, .slice a1 n1 c1, .slice a2 n2 c2, .slice ar nr cr, .slice aj nj cj, .slice az ns cs, .slice ao no co] 67
    have x3 := MC.made (w.alloc (.cells #[.int .i64 wk, .bool up, .int .i64 now, .int .i64 sn, .int .i64 ep, .int .i64 gv, .slice a1 n1 c1, .slice a2 n2 c2, .slice ar nr cr, .slice aj nj cj, .slice az ns cs, .slice ao no co] 67)) #[.slice pa pn pc] 44
    rw [World.size_alloc] at x3
    rw [hW]; exact ⟨x1.block (Below.heap_alloc _ _ _ (by simp)), x3⟩
  have z6 : W.cell? ⟨w.heap.size, 6, none⟩ = some (.slice a1 n1 c1) := hq.1 6 (by simp)
  have z7 : W.cell? ⟨w.heap.size, 7, none⟩ = some (.slice a2 n2 c2) := hq.1 7 (by simp)
  have zp : W.cell? ⟨w.heap.size + 1, 0, none⟩ = some (.slice pa pn pc) := hq.2 0 (by simp)
  have HN1 := hid h1.len
  have HN2 := hid h2.len
  have HNR := hid hR.len
  have HNJ := hid hJ.len
  have HNS := hid hS.len
  have HNO := hid hO.len
  have HNT := hid hT.len
  go_enter Try.func30, Try.ntmps30
  go_upto_region 1 with fail
  rw [← hW]
  clear hW
  go_wp2_with fail
  refine (storyOf_any pa pb po pn pc ts a1 a2 bl1 ol1 n1 c1 bl2 ol2 n2 c2 L1 L2 _ (hT.below' hbW) (h1.below' hbW) (h2.below' hbW) hm1 hm2).mono ?_
  rintro e w1 ⟨⟨cc, E, Q, v, rfl, hst, hown⟩, hb1⟩
  obtain ⟨av, cv, rfl⟩ := hown.slc
  obtain ⟨V, hV⟩ : ∃ V, V = w1.alloc (.cells #[.int .i64 cc, .int .i64 E, .slice av Q.length cv] 40) := ⟨_, rfl⟩
  have hbV1 : Below w1.heap.size w1 V := by rw [hV]; exact (Below.refl _ _).alloc (Nat.le_refl _) _
  have hbV : Below W.heap.size W V := hb1.trans (hbV1.mono hb1.size)
  have hBV := hbW.trans (hbV.mono (by omega))
  have hmS : MC V w1.heap.size [.int .i64 cc, .int .i64 E, .slice av Q.length cv] := by rw [hV]; exact MC.made w1 _ _
  have hlS : w1.heap.size < V.heap.size := by rw [hV]; simp
  have hmB := MC.below hq.1 hbV (by omega)
  have hmP := MC.below hq.2 hbV (by omega)
  have hsV := hbV.size
  have hownV := hown.below hbV1 (Nat.le_refl _)
  clear z6 z7 zp hq hown
  have s0 : V.cell? ⟨w1.heap.size, 0, none⟩ = some (.int .i64 cc) := hmS 0 (by simp)
  have s1 : V.cell? ⟨w1.heap.size, 1, none⟩ = some (.int .i64 E) := hmS 1 (by simp)
  have s2 : V.cell? ⟨w1.heap.size, 2, none⟩ = some (.slice av Q.length cv) := hmS 2 (by simp)
  have b0 : V.cell? ⟨w.heap.size, 0, none⟩ = some (.int .i64 wk) := hmB 0 (by simp)
  have b1 : V.cell? ⟨w.heap.size, 1, none⟩ = some (.bool up) := hmB 1 (by simp)
  have b2 : V.cell? ⟨w.heap.size, 2, none⟩ = some (.int .i64 now) := hmB 2 (by simp)
  have b3 : V.cell? ⟨w.heap.size, 3, none⟩ = some (.int .i64 sn) := hmB 3 (by simp)
  have b4 : V.cell? ⟨w.heap.size, 4, none⟩ = some (.int .i64 ep) := hmB 4 (by simp)
  have b5 : V.cell? ⟨w.heap.size, 5, none⟩ = some (.int .i64 gv) := hmB 5 (by simp)
  have b6 : V.cell? ⟨w.heap.size, 6, none⟩ = some (.slice a1 n1 c1) := hmB 6 (by simp)
  have b7 : V.cell? ⟨w.heap.size, 7, none⟩ = some (.slice a2 n2 c2) := hmB 7 (by simp)
  have b8 : V.cell? ⟨w.heap.size, 8, none⟩ = some (.slice ar nr cr) := hmB 8 (by simp)
  have b9 : V.cell? ⟨w.heap.size, 9, none⟩ = some (.slice aj nj cj) := hmB 9 (by simp)
  have b10 : V.cell? ⟨w.heap.size, 10, none⟩ = some (.slice az ns cs) := hmB 10 (by simp)
  have b11 : V.cell? ⟨w.heap.size, 11, none⟩ = some (.slice ao no co) := hmB 11 (by simp)
  have bp : V.cell? ⟨w.heap.size + 1, 0, none⟩ = some (.slice pa pn pc) := hmP 0 (by simp)
  go_upto_region 2 with fail
  rw [← hV]
  clear hV
  by_cases hcc : cc = 0
  · subst hcc
    obtain ⟨hcl, hrep⟩ := hst.zero
    have hcode := hcl.1
    have hA : allDeps ts pn := HNT.out ▸ deps_of_code hcode
    have hsto := rep_ok _ (st0_ok ts.length) hrep
    have hE0 : 0 ≤ E := hsto.1
    have hE1 : E ≤ 100000 := by have h9 := hsto.2.1; have := hcl.2; dsimp only at h9; omega
    have hQz : ∀ s ∈ Q, s.size ≤ maxLen := fun s hs => by have := hsto.2.2.2 s hs; unfold maxLen; omega
    have HQL := hid (show Q.length = pn by have := hsto.2.2.1; dsimp only at this; rw [this, HNT.out])
    have HCL := hid hcl
    have HREP := hid hrep
    clear hst hcl hrep hcode hsto
    cases hwk : inB wk 1 8 with
    | false =>
      have HWK := hid (inB_f hwk)
      go_wp2_with (go_at_call 61; refine (within_any _ _ _ _).mono ?_; rintro e w9 ⟨rfl, rfl⟩)
      go_ret
      exact ⟨RetB.f fun hh => HWK.out hh.2.1, hBV⟩
    | true =>
      have HWK := hid (inB_t hwk)
      cases hnw : inB now 0 1000000 with
      | false =>
        have HNW := hid (inB_f hnw)
        go_wp2_with (go_at_call 61; refine (within_any _ _ _ _).mono ?_; rintro e w9 ⟨rfl, rfl⟩)
        go_ret
        exact ⟨RetB.f fun hh => HNW.out hh.2.2.1, hBV⟩
      | true =>
        have HNW := hid (inB_t hnw)
        cases up with
        | false =>
          go_wp2_with (first | (go_at_call 62; refine (downHolds_any wk false now sn ep gv a1 a2 ar aj az ao n1 c1 n2 c2 nr cr nj cj ns cs no co _).mono ?_; rintro e V1 ⟨⟨r, rfl, hr⟩, hb9⟩) | (go_at_call 61; refine (within_any _ _ _ _).mono ?_; rintro e w9 ⟨rfl, rfl⟩))
          have HR := hid hr
          clear hr
          go_ret
          refine ⟨⟨r, rfl, ⟨fun h => ?_, fun h => ?_⟩⟩, hBV.trans (hb9.mono hBV.size)⟩
          · refine ⟨HCL.out, HWK.out, HNW.out, E, Q, HREP.out, .inl ⟨rfl, ?_⟩⟩
            rw [HN2.out, HNR.out, HNJ.out, HNS.out, HNO.out]
            exact HR.out.1 h
          · have := vB_dn h
            rw [HN2.out, HNR.out, HNJ.out, HNS.out, HNO.out] at this
            exact HR.out.2 this
        | true =>
          go_upto_region 6 with (go_at_call 61; refine (within_any _ _ _ _).mono ?_; rintro e w9 ⟨rfl, rfl⟩)
          by_cases g1 : ep = E
          · subst g1
            by_cases g2 : 1 ≤ ep
            · obtain ⟨bq, oq, hQs, _⟩ := hownV.statB hQz
              go_wp2_with fail
              refine (equal_any _ _ br or' nr cr bq oq Q.length cv R Q _ (hR.below' hBV) hQs).mono ?_
              rintro e V1 ⟨⟨r, rfl, hr⟩, hbx⟩
              have hb1V : Below W.heap.size W V1 := hbV.trans (hbx.mono hbV.size)
              have hB1 := hbW.trans (hb1V.mono (by omega))
              have hmB1 := MC.below hmB hbx (by omega)
              have hmP1 := MC.below hmP hbx (by omega)
              have hs1V := hbx.size
              clear b0 b1 b2 b3 b4 b5 b6 b7 b8 b9 b10 b11 bp s0 s1 s2 hmB hmP hmS hQs
              cases r with
              | false =>
                have HN := hid (show ¬ (vB ts wk true now sn ep gv L1 L2 R J S O) from fun hh => by have := hr.2 (vB_up hh HREP.out).2.2.1; cases this)
                clear hr
                go_wp2
                go_ret
                exact ⟨RetB.f HN.out, hB1⟩
              | true =>
                have HRQ := hid (hr.1 rfl)
                clear hr
                have b0 : V1.cell? ⟨w.heap.size, 0, none⟩ = some (.int .i64 wk) := hmB1 0 (by simp)
                have b1 : V1.cell? ⟨w.heap.size, 1, none⟩ = some (.bool true) := hmB1 1 (by simp)
                have b2 : V1.cell? ⟨w.heap.size, 2, none⟩ = some (.int .i64 now) := hmB1 2 (by simp)
                have b3 : V1.cell? ⟨w.heap.size, 3, none⟩ = some (.int .i64 sn) := hmB1 3 (by simp)
                have b4 : V1.cell? ⟨w.heap.size, 4, none⟩ = some (.int .i64 ep) := hmB1 4 (by simp)
                have b5 : V1.cell? ⟨w.heap.size, 5, none⟩ = some (.int .i64 gv) := hmB1 5 (by simp)
                have b6 : V1.cell? ⟨w.heap.size, 6, none⟩ = some (.slice a1 n1 c1) := hmB1 6 (by simp)
                have b7 : V1.cell? ⟨w.heap.size, 7, none⟩ = some (.slice a2 n2 c2) := hmB1 7 (by simp)
                have b8 : V1.cell? ⟨w.heap.size, 8, none⟩ = some (.slice ar nr cr) := hmB1 8 (by simp)
                have b9 : V1.cell? ⟨w.heap.size, 9, none⟩ = some (.slice aj nj cj) := hmB1 9 (by simp)
                have b10 : V1.cell? ⟨w.heap.size, 10, none⟩ = some (.slice az ns cs) := hmB1 10 (by simp)
                have b11 : V1.cell? ⟨w.heap.size, 11, none⟩ = some (.slice ao no co) := hmB1 11 (by simp)
                have bp : V1.cell? ⟨w.heap.size + 1, 0, none⟩ = some (.slice pa pn pc) := hmP1 0 (by simp)
                have hnr : nr = pn := by rw [← HNR.out, HRQ.out, HQL.out]
                subst hnr
                cases hsn : inB sn 0 1 with
                | false =>
                  have HN := hid (show ¬ (vB ts wk true now sn ep gv L1 L2 R J S O) from fun hh => inB_f hsn (vB_up hh HREP.out).2.2.2.1)
                  go_wp2_with (go_at_call 61; refine (within_any _ _ _ _).mono ?_; rintro e w9 ⟨rfl, rfl⟩)
                  go_ret
                  exact ⟨RetB.f HN.out, hB1⟩
                | true =>
                  have HSN := hid (inB_t hsn)
                  cases hgv : inB gv 0 1000000 with
                  | false =>
                    have HN := hid (show ¬ (vB ts wk true now sn ep gv L1 L2 R J S O) from fun hh => inB_f hgv (vB_up hh HREP.out).2.2.2.2.1)
                    go_wp2_with (go_at_call 61; refine (within_any _ _ _ _).mono ?_; rintro e w9 ⟨rfl, rfl⟩)
                    go_ret
                    exact ⟨RetB.f HN.out, hB1⟩
                  | true =>
                    have HGV := hid (inB_t hgv)
                    go_wp2_with (go_at_call 61; refine (within_any _ _ _ _).mono ?_; rintro e w9 ⟨rfl, rfl⟩)
                    refine (jobsHold_any wk true now sn ep gv a1 a2 ar aj az ao n1 c1 n2 c2 nr cr nj cj ns cs no co pa pb po pc ts bj oj br or' J R _ (hJ.below' hB1) (hR.below' hB1) (hT.below' hB1) hA hmj g2 (by omega) HGV.out.1 HGV.out.2 HNW.out.1 HNW.out.2).mono ?_
                    rintro e V2 ⟨⟨r2, rfl, hr2⟩, hb2⟩
                    have hB2 := hB1.trans (hb2.mono hB1.size)
                    have hmB2 := MC.below hmB1 hb2 (by omega)
                    have hs2 := hb2.size
                    clear b0 b1 b2 b3 b4 b5 b6 b7 b8 b9 b10 b11 bp hmP1
                    cases r2 with
                    | false =>
                      have HN := hid (show ¬ (vB ts wk true now sn ep gv L1 L2 R J S O) from fun hh => by
                        have h9 := (vB_up hh HREP.out).2.2.2.2.2.1
                        rw [HNJ.out, HNT.out] at h9
                        have := hr2.2 h9; cases this)
                      clear hr2
                      go_wp2
                      go_ret
                      exact ⟨RetB.f HN.out, hB2⟩
                    | true =>
                      have HJJ := hid (hr2.1 rfl)
                      clear hr2
                      have b0 : V2.cell? ⟨w.heap.size, 0, none⟩ = some (.int .i64 wk) := hmB2 0 (by simp)
                      have b1 : V2.cell? ⟨w.heap.size, 1, none⟩ = some (.bool true) := hmB2 1 (by simp)
                      have b2 : V2.cell? ⟨w.heap.size, 2, none⟩ = some (.int .i64 now) := hmB2 2 (by simp)
                      have b3 : V2.cell? ⟨w.heap.size, 3, none⟩ = some (.int .i64 sn) := hmB2 3 (by simp)
                      have b4 : V2.cell? ⟨w.heap.size, 4, none⟩ = some (.int .i64 ep) := hmB2 4 (by simp)
                      have b5 : V2.cell? ⟨w.heap.size, 5, none⟩ = some (.int .i64 gv) := hmB2 5 (by simp)
                      have b6 : V2.cell? ⟨w.heap.size, 6, none⟩ = some (.slice a1 n1 c1) := hmB2 6 (by simp)
                      have b7 : V2.cell? ⟨w.heap.size, 7, none⟩ = some (.slice a2 n2 c2) := hmB2 7 (by simp)
                      have b8 : V2.cell? ⟨w.heap.size, 8, none⟩ = some (.slice ar nr cr) := hmB2 8 (by simp)
                      have b9 : V2.cell? ⟨w.heap.size, 9, none⟩ = some (.slice aj nj cj) := hmB2 9 (by simp)
                      have b10 : V2.cell? ⟨w.heap.size, 10, none⟩ = some (.slice az ns cs) := hmB2 10 (by simp)
                      have b11 : V2.cell? ⟨w.heap.size, 11, none⟩ = some (.slice ao no co) := hmB2 11 (by simp)
                      go_wp2_with fail
                      refine (seatsHold_any wk true now sn ep gv a1 a2 ar aj az ao n1 c1 n2 c2 nr cr nj cj ns cs no co bs os' S _ (hS.below' hB2)).mono ?_
                      rintro e V3 ⟨⟨r3, rfl, hr3⟩, hb3⟩
                      have hB3 := hB2.trans (hb3.mono hB2.size)
                      have hmB3 := MC.below hmB2 hb3 (by omega)
                      clear b0 b1 b2 b3 b4 b5 b6 b7 b8 b9 b10 b11
                      cases r3 with
                      | false =>
                        have HN := hid (show ¬ (vB ts wk true now sn ep gv L1 L2 R J S O) from fun hh => by
                          have h9 := (vB_up hh HREP.out).2.2.2.2.2.2.1
                          rw [HNS.out] at h9
                          have := hr3.2 h9; cases this)
                        clear hr3
                        go_wp2
                        go_ret
                        exact ⟨RetB.f HN.out, hB3⟩
                      | true =>
                        have HSS := hid (hr3.1 rfl)
                        clear hr3
                        have b0 : V3.cell? ⟨w.heap.size, 0, none⟩ = some (.int .i64 wk) := hmB3 0 (by simp)
                        have b1 : V3.cell? ⟨w.heap.size, 1, none⟩ = some (.bool true) := hmB3 1 (by simp)
                        have b2 : V3.cell? ⟨w.heap.size, 2, none⟩ = some (.int .i64 now) := hmB3 2 (by simp)
                        have b3 : V3.cell? ⟨w.heap.size, 3, none⟩ = some (.int .i64 sn) := hmB3 3 (by simp)
                        have b4 : V3.cell? ⟨w.heap.size, 4, none⟩ = some (.int .i64 ep) := hmB3 4 (by simp)
                        have b5 : V3.cell? ⟨w.heap.size, 5, none⟩ = some (.int .i64 gv) := hmB3 5 (by simp)
                        have b6 : V3.cell? ⟨w.heap.size, 6, none⟩ = some (.slice a1 n1 c1) := hmB3 6 (by simp)
                        have b7 : V3.cell? ⟨w.heap.size, 7, none⟩ = some (.slice a2 n2 c2) := hmB3 7 (by simp)
                        have b8 : V3.cell? ⟨w.heap.size, 8, none⟩ = some (.slice ar nr cr) := hmB3 8 (by simp)
                        have b9 : V3.cell? ⟨w.heap.size, 9, none⟩ = some (.slice aj nj cj) := hmB3 9 (by simp)
                        have b10 : V3.cell? ⟨w.heap.size, 10, none⟩ = some (.slice az ns cs) := hmB3 10 (by simp)
                        have b11 : V3.cell? ⟨w.heap.size, 11, none⟩ = some (.slice ao no co) := hmB3 11 (by simp)
                        go_wp2_with fail
                        refine (owedHolds_any wk true now sn ep gv a1 a2 ar aj az ao n1 c1 n2 c2 nr cr nj cj ns cs no co bo oo br or' O R _ (hO.below' hB3) (hR.below' hB3)).mono ?_
                        rintro e V4 ⟨⟨r4, rfl, hr4⟩, hb4⟩
                        have hB4 := hB3.trans (hb4.mono hB3.size)
                        have HR4 := hid hr4
                        clear hr4 b0 b1 b2 b3 b4 b5 b6 b7 b8 b9 b10 b11
                        go_wp2
                        go_ret
                        refine ⟨⟨r4, rfl, ⟨fun h => ?_, fun h => ?_⟩⟩, hB4⟩
                        · refine ⟨HCL.out, HWK.out, HNW.out, ep, Q, HREP.out, .inr ⟨rfl, rfl, g2, HRQ.out, HSN.out, HGV.out, ?_, ?_, ?_⟩⟩
                          · rw [HNJ.out, HNT.out]; exact HJJ.out
                          · rw [HNS.out]; exact HSS.out
                          · rw [HNO.out]; exact HR4.out.1 h
                        · have h9 := (vB_up h HREP.out).2.2.2.2.2.2.2
                          rw [HNO.out] at h9
                          exact HR4.out.2 h9
            · have HN := hid (show ¬ (vB ts wk true now sn ep gv L1 L2 R J S O) from fun hh => g2 (vB_up hh HREP.out).2.1)
              go_wp2
              go_ret
              exact ⟨RetB.f HN.out, hBV⟩
          · have g1' : (ep == E) = false := by simpa using g1
            have HN := hid (show ¬ (vB ts wk true now sn ep gv L1 L2 R J S O) from fun hh => g1 (vB_up hh HREP.out).1)
            clear g1
            go_wp2
            go_ret
            exact ⟨RetB.f HN.out, hBV⟩
  · have hcc' : (cc == 0) = false := by simpa using hcc
    have HN := hid (show ¬ (vB ts wk up now sn ep gv L1 L2 R J S O) from fun hh => hst.nonzero hcc ⟨hh.1, by obtain ⟨_, _, _, E', Q', h9, _⟩ := hh; exact ⟨E', Q', h9⟩⟩)
    clear hst
    go_wp2
    go_ret
    exact ⟨RetB.f HN.out, hBV⟩
end Go.Proofs.Ytoikcjeagigmfaa
