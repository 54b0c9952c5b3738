import Derived.Test.YthopfmhagddhgaaGreatQBok
import Derived.Test.YthopfmhagddhgaaGreatQRIm
import Derived.Test.YthopfmhagddhgaaGreatQRGo2
namespace Go.Proofs.YthopfmhagddhgaaGreat
open Go.RowKit

/-- What is valid. -/
def vB (ts : List TaskD) (wk : Int) (up : Bool) (now sn ep gv : Int) (L1 L2 R : List ByteArray) (J : List Tr) (S : List (Bool × Int)) (O : List Tr) : Prop :=
  (Code ts 0 ∧ (L1 ++ L2).length ≤ 310) ∧ (1 ≤ wk ∧ wk ≤ 8) ∧ (0 ≤ now ∧ now ≤ 1000000) ∧ ∃ E Q, rep ts (L1 ++ L2) (st0 ts.length) = some (E, Q) ∧
    ((up = false ∧ isDown sn ep gv L2.length R.length J.length S.length O.length) ∨
     (up = true ∧ ep = E ∧ 1 ≤ ep ∧ R = Q ∧ (0 ≤ sn ∧ sn ≤ 1) ∧ (0 ≤ gv ∧ gv ≤ 1000000) ∧ (J.length = ts.length ∧ jobsAll ts R wk now ep gv J) ∧ ((S.length : Int) = wk ∧ seatsOk S S.length) ∧ (O.length ≤ 2000 ∧ owedOk wk R O O.length)))
theorem vB_up {ts : List TaskD} {wk now sn ep gv E : Int} {L1 L2 R Q : List ByteArray} {J : List Tr} {S : List (Bool × Int)} {O : List Tr} (h : vB ts wk true now sn ep gv L1 L2 R J S O) (hr : rep ts (L1 ++ L2) (st0 ts.length) = some (E, Q)) :
    ep = E ∧ 1 ≤ ep ∧ R = Q ∧ (0 ≤ sn ∧ sn ≤ 1) ∧ (0 ≤ gv ∧ gv ≤ 1000000) ∧ (J.length = ts.length ∧ jobsAll ts R wk now ep gv J) ∧ ((S.length : Int) = wk ∧ seatsOk S S.length) ∧ (O.length ≤ 2000 ∧ owedOk wk R O O.length) := by
  obtain ⟨_, _, _, E', Q', hr', h⟩ := h
  rw [hr] at hr'
  cases hr'
  rcases h with ⟨h, _⟩ | ⟨_, h⟩
  · cases h
  · exact h
theorem vB_dn {ts : List TaskD} {wk now sn ep gv : Int} {L1 L2 R : List ByteArray} {J : List Tr} {S : List (Bool × Int)} {O : List Tr} (h : vB ts wk false now sn ep gv L1 L2 R J S O) : isDown sn ep gv L2.length R.length J.length S.length O.length := by
  obtain ⟨_, _, _, E', Q', _, h⟩ := h
  rcases h with ⟨_, h⟩ | ⟨h, _⟩
  · exact h
  · cases h
theorem Own.statB {B : Nat} {w : World} {a : Option Addr} {n c : Nat} {ss : List ByteArray} (h : Own B w 1 (.slice a n c) n (ss.map Value.string)) (hz : ∀ s ∈ ss, s.size ≤ maxLen) : ∃ b o, StrsAt w a b o n ss ∧ (0 < n → B ≤ b) := by
  rcases h with ⟨hv, rfl, hx⟩ | ⟨g, o, cap, hv, hc⟩
  · injection hv with h1 _ _
    have : ss = [] := by simpa using hx
    subst this
    exact ⟨0, 0, ⟨fun h => absurd h (by omega), rfl, Nat.zero_le _, fun h => absurd h (by omega), fun j hj => absurd hj (by omega), by simp⟩, fun h => absurd h (by omega)⟩
  · injection hv with h1 _ _
    subst h1
    exact ⟨g, o, StrsAt.ofOwn hc hz, fun _ => hc.lo⟩
theorem StoryIs.zero {ts : List TaskD} {L : List ByteArray} {E : Int} {R : List ByteArray} (h : StoryIs ts L 0 E R) : (Code ts 0 ∧ L.length ≤ 310) ∧ rep ts L (st0 ts.length) = some (E, R) := by
  rcases h with ⟨_, h, _⟩ | ⟨h1, ⟨_, h, _⟩ | ⟨h2, _⟩⟩
  · cases h
  · cases h
  · exact ⟨h1, h2⟩
theorem StoryIs.nonzero {ts : List TaskD} {L : List ByteArray} {c E : Int} {R : List ByteArray} (h : StoryIs ts L c E R) (hc : ¬ c = 0) : ¬ ((Code ts 0 ∧ L.length ≤ 310) ∧ ∃ E Q, rep ts L (st0 ts.length) = some (E, Q)) := by
  rintro ⟨hh, E', Q', hr⟩
  rcases h with ⟨h, _⟩ | ⟨_, ⟨h, _⟩ | ⟨_, h⟩⟩
  · exact h hh
  · rw [h] at hr; cases hr
  · exact hc h

set_option maxHeartbeats 4000000 in
set_option maxRecDepth 100000 in
theorem iValB_any (wk : Int) (up : Bool) (now sn ep gv : Int) (a1 a2 ar aj az ao : Option Addr) (n1 c1 n2 c2 nr cr nj cj ns cs no co : Nat) (bl1 ol1 bl2 ol2 br or' bj oj bs os' bo oo : Nat) (L1 L2 R : List ByteArray) (J : List Tr) (S : List (Bool × Int)) (O : List Tr) (pa : Option Addr) (pb po pn pc : Nat) (ts : List TaskD) (w : World) (h1 : StrsAt w a1 bl1 ol1 n1 L1) (h2 : StrsAt w a2 bl2 ol2 n2 L2) (hR : StrsAt w ar br or' nr R) (hJ : T3At w aj bj oj nj J) (hS : T2At w az bs os' ns S) (hO : T3At w ao bo oo no O) (hT : TasksAt w pa pb po pn ts) (hm1 : n1 ≤ 1048576) (hm2 : n2 ≤ 1048576) (hmj : nj ≤ 1048576) :
    Calls Tryz.prog 35 #[.agg #[.int .i64 wk, .bool up, .int .i64 now, .int .i64 sn, .int .i64 ep, .int .i64 gv, .slice a1 n1 c1, .slice a2 n2 c2, .slice ar nr cr, .slice aj nj cj, .slice az ns cs, .slice ao no co], .agg #[.slice pa pn pc]] w fun e w' => RetB e (vB ts wk up now sn ep gv L1 L2 R J S O) ∧ Below w.heap.size w w' := by
  obtain ⟨W, hW⟩ : ∃ W, W = (w.alloc (.cells #[.int .i64 wk, .bool up, .int .i64 now, .int .i64 sn, .int .i64 ep, .int .i64 gv, .slice a1 n1 c1, .slice a2 n2 c2, .slice ar nr cr, .slice aj nj cj, .slice az ns cs, .slice ao no co] 47)).alloc (.cells #[.slice pa pn pc] 41) := ⟨_, rfl⟩
  have hbW : Below w.heap.size w W := by rw [hW]; exact ((Below.refl _ _).alloc (Nat.le_refl _) _).alloc (by simp) _
  have hsW : W.heap.size = w.heap.size + 2 := by rw [hW]; simp
  have hq : MC W w.heap.size [.int .i64 wk, .bool up, .int .i64 now, .int .i64 sn, .int .i64 ep, .int .i64 gv, .slice a1 n1 c1, .slice a2 n2 c2, .slice ar nr cr, .slice aj nj cj, .slice az ns cs, .slice ao no co] ∧ MC W (w.heap.size + 1) [.slice pa pn pc] := by
    have x1 := MC.made w #[.int .i64 wk, .bool up, .int .i64 now, .int .i64 sn, .int .i64 ep, .int .i64 gv, .slice a1 n1 c1, .slice a2 n2 c2, .slice ar nr cr, .slice aj nj cj, .slice az ns cs, .slice ao no co] 47
    have x3 := MC.made (w.alloc (.cells #[.int .i64 wk, .bool up, .int .i64 now, .int .i64 sn, .int .i64 ep, .int .i64 gv, .slice a1 n1 c1, .slice a2 n2 c2, .slice ar nr cr, .slice aj nj cj, .slice az ns cs, .slice ao no co] 47)) #[.slice pa pn pc] 41
    rw [World.size_alloc] at x3
    rw [hW]; exact ⟨x1.block (Below.heap_alloc _ _ _ (by simp)), x3⟩
  have z6 : W.cell? ⟨w.heap.size, 6, none⟩ = some (.slice a1 n1 c1) := hq.1 6 (by simp)
  have z7 : W.cell? ⟨w.heap.size, 7, none⟩ = some (.slice a2 n2 c2) := hq.1 7 (by simp)
  have zp : W.cell? ⟨w.heap.size + 1, 0, none⟩ = some (.slice pa pn pc) := hq.2 0 (by simp)
  have HN1 := hid h1.len
  have HN2 := hid h2.len
  have HNR := hid hR.len
  have HNJ := hid hJ.len
  have HNS := hid hS.len
  have HNO := hid hO.len
  have HNT := hid hT.len
  go_enter Tryz.func35, Tryz.ntmps35
  go_upto_region 1 with fail
  rw [← hW]
  clear hW
  go_wp2_with fail
  refine (storyOf_any pa pb po pn pc ts a1 a2 bl1 ol1 n1 c1 bl2 ol2 n2 c2 L1 L2 _ (hT.below' hbW) (h1.below' hbW) (h2.below' hbW) hm1 hm2).mono ?_
  rintro e w1 ⟨⟨cc, E, Q, v, rfl, hst, hown⟩, hb1⟩
  obtain ⟨av, cv, rfl⟩ := hown.slc
  obtain ⟨V, hV⟩ : ∃ V, V = w1.alloc (.cells #[.int .i64 cc, .int .i64 E, .slice av Q.length cv] 85) := ⟨_, rfl⟩
  have hbV1 : Below w1.heap.size w1 V := by rw [hV]; exact (Below.refl _ _).alloc (Nat.le_refl _) _
  have hbV : Below W.heap.size W V := hb1.trans (hbV1.mono hb1.size)
  have hBV := hbW.trans (hbV.mono (by omega))
  have hmS : MC V w1.heap.size [.int .i64 cc, .int .i64 E, .slice av Q.length cv] := by rw [hV]; exact MC.made w1 _ _
  have hlS : w1.heap.size < V.heap.size := by rw [hV]; simp
  have hmB := MC.below hq.1 hbV (by omega)
  have hmP := MC.below hq.2 hbV (by omega)
  have hsV := hbV.size
  have hownV := hown.below hbV1 (Nat.le_refl _)
  clear z6 z7 zp hq hown
  have s0 : V.cell? ⟨w1.heap.size, 0, none⟩ = some (.int .i64 cc) := hmS 0 (by simp)
  have s1 : V.cell? ⟨w1.heap.size, 1, none⟩ = some (.int .i64 E) := hmS 1 (by simp)
  have s2 : V.cell? ⟨w1.heap.size, 2, none⟩ = some (.slice av Q.length cv) := hmS 2 (by simp)
  have b0 : V.cell? ⟨w.heap.size, 0, none⟩ = some (.int .i64 wk) := hmB 0 (by simp)
  have b1 : V.cell? ⟨w.heap.size, 1, none⟩ = some (.bool up) := hmB 1 (by simp)
  have b2 : V.cell? ⟨w.heap.size, 2, none⟩ = some (.int .i64 now) := hmB 2 (by simp)
  have b3 : V.cell? ⟨w.heap.size, 3, none⟩ = some (.int .i64 sn) := hmB 3 (by simp)
  have b4 : V.cell? ⟨w.heap.size, 4, none⟩ = some (.int .i64 ep) := hmB 4 (by simp)
  have b5 : V.cell? ⟨w.heap.size, 5, none⟩ = some (.int .i64 gv) := hmB 5 (by simp)
  have b6 : V.cell? ⟨w.heap.size, 6, none⟩ = some (.slice a1 n1 c1) := hmB 6 (by simp)
  have b7 : V.cell? ⟨w.heap.size, 7, none⟩ = some (.slice a2 n2 c2) := hmB 7 (by simp)
  have b8 : V.cell? ⟨w.heap.size, 8, none⟩ = some (.slice ar nr cr) := hmB 8 (by simp)
  have b9 : V.cell? ⟨w.heap.size, 9, none⟩ = some (.slice aj nj cj) := hmB 9 (by simp)
  have b10 : V.cell? ⟨w.heap.size, 10, none⟩ = some (.slice az ns cs) := hmB 10 (by simp)
  have b11 : V.cell? ⟨w.heap.size, 11, none⟩ = some (.slice ao no co) := hmB 11 (by simp)
  have bp : V.cell? ⟨w.heap.size + 1, 0, none⟩ = some (.slice pa pn pc) := hmP 0 (by simp)
  go_upto_region 2 with fail
  rw [← hV]
  clear hV
  by_cases hcc : cc = 0
  · subst hcc
    obtain ⟨hcl, hrep⟩ := hst.zero
    have hcode := hcl.1
    have hA : allDeps ts pn := HNT.out ▸ deps_of_code hcode
    have hsto := rep_ok _ (st0_ok ts.length) hrep
    have hE0 : 0 ≤ E := hsto.1
    have hE1 : E ≤ 100000 := by have h9 := hsto.2.1; have := hcl.2; dsimp only at h9; omega
    have hQz : ∀ s ∈ Q, s.size ≤ maxLen := fun s hs => by have := hsto.2.2.2 s hs; unfold maxLen; omega
    have HQL := hid (show Q.length = pn by have := hsto.2.2.1; dsimp only at this; rw [this, HNT.out])
    have HCL := hid hcl
    have HREP := hid hrep
    clear hst hcl hrep hcode hsto
    cases hwk : inB wk 1 8 with
    | false =>
      have HWK := hid (inB_f hwk)
      go_wp2_with (go_at_call 85; refine (within_any _ _ _ _).mono ?_; rintro e w9 ⟨rfl, rfl⟩)
      go_ret
      exact ⟨RetB.f fun hh => HWK.out hh.2.1, hBV⟩
    | true =>
      have HWK := hid (inB_t hwk)
      cases hnw : inB now 0 1000000 with
      | false =>
        have HNW := hid (inB_f hnw)
        go_wp2_with (go_at_call 85; refine (within_any _ _ _ _).mono ?_; rintro e w9 ⟨rfl, rfl⟩)
        go_ret
        exact ⟨RetB.f fun hh => HNW.out hh.2.2.1, hBV⟩
      | true =>
        have HNW := hid (inB_t hnw)
        cases up with
        | false =>
          go_wp2_with (first | (go_at_call 86; refine (downHolds_any wk false now sn ep gv a1 a2 ar aj az ao n1 c1 n2 c2 nr cr nj cj ns cs no co _).mono ?_; rintro e V1 ⟨⟨r, rfl, hr⟩, hb9⟩) | (go_at_call 85; refine (within_any _ _ _ _).mono ?_; rintro e w9 ⟨rfl, rfl⟩))
          have HR := hid hr
          clear hr
          go_ret
          refine ⟨⟨r, rfl, ⟨fun h => ?_, fun h => ?_⟩⟩, hBV.trans (hb9.mono hBV.size)⟩
          · refine ⟨HCL.out, HWK.out, HNW.out, E, Q, HREP.out, .inl ⟨rfl, ?_⟩⟩
            rw [HN2.out, HNR.out, HNJ.out, HNS.out, HNO.out]
            exact HR.out.1 h
          · have := vB_dn h
            rw [HN2.out, HNR.out, HNJ.out, HNS.out, HNO.out] at this
            exact HR.out.2 this
        | true =>
          go_upto_region 6 with (go_at_call 85; refine (within_any _ _ _ _).mono ?_; rintro e w9 ⟨rfl, rfl⟩)
          by_cases g1 : ep = E
          · subst g1
            by_cases g2 : 1 ≤ ep
            · obtain ⟨bq, oq, hQs, _⟩ := hownV.statB hQz
              go_wp2_with fail
              refine (equal_any _ _ br or' nr cr bq oq Q.length cv R Q _ (hR.below' hBV) hQs).mono ?_
              rintro e V1 ⟨⟨r, rfl, hr⟩, hbx⟩
              have hb1V : Below W.heap.size W V1 := hbV.trans (hbx.mono hbV.size)
              have hB1 := hbW.trans (hb1V.mono (by omega))
              have hmB1 := MC.below hmB hbx (by omega)
              have hmP1 := MC.below hmP hbx (by omega)
              have hs1V := hbx.size
              clear b0 b1 b2 b3 b4 b5 b6 b7 b8 b9 b10 b11 bp s0 s1 s2 hmB hmP hmS hQs
              cases r with
              | false =>
                have HN := hid (show ¬ (vB ts wk true now sn ep gv L1 L2 R J S O) from fun hh => by have := hr.2 (vB_up hh HREP.out).2.2.1; cases this)
                clear hr
                go_wp2
                go_ret
                exact ⟨RetB.f HN.out, hB1⟩
              | true =>
                have HRQ := hid (hr.1 rfl)
                clear hr
                have b0 : V1.cell? ⟨w.heap.size, 0, none⟩ = some (.int .i64 wk) := hmB1 0 (by simp)
                have b1 : V1.cell? ⟨w.heap.size, 1, none⟩ = some (.bool true) := hmB1 1 (by simp)
                have b2 : V1.cell? ⟨w.heap.size, 2, none⟩ = some (.int .i64 now) := hmB1 2 (by simp)
                have b3 : V1.cell? ⟨w.heap.size, 3, none⟩ = some (.int .i64 sn) := hmB1 3 (by simp)
                have b4 : V1.cell? ⟨w.heap.size, 4, none⟩ = some (.int .i64 ep) := hmB1 4 (by simp)
                have b5 : V1.cell? ⟨w.heap.size, 5, none⟩ = some (.int .i64 gv) := hmB1 5 (by simp)
                have b6 : V1.cell? ⟨w.heap.size, 6, none⟩ = some (.slice a1 n1 c1) := hmB1 6 (by simp)
                have b7 : V1.cell? ⟨w.heap.size, 7, none⟩ = some (.slice a2 n2 c2) := hmB1 7 (by simp)
                have b8 : V1.cell? ⟨w.heap.size, 8, none⟩ = some (.slice ar nr cr) := hmB1 8 (by simp)
                have b9 : V1.cell? ⟨w.heap.size, 9, none⟩ = some (.slice aj nj cj) := hmB1 9 (by simp)
                have b10 : V1.cell? ⟨w.heap.size, 10, none⟩ = some (.slice az ns cs) := hmB1 10 (by simp)
                have b11 : V1.cell? ⟨w.heap.size, 11, none⟩ = some (.slice ao no co) := hmB1 11 (by simp)
                have bp : V1.cell? ⟨w.heap.size + 1, 0, none⟩ = some (.slice pa pn pc) := hmP1 0 (by simp)
                have hnr : nr = pn := by rw [← HNR.out, HRQ.out, HQL.out]
                subst hnr
                cases hsn : inB sn 0 1 with
                | false =>
                  have HN := hid (show ¬ (vB ts wk true now sn ep gv L1 L2 R J S O) from fun hh => inB_f hsn (vB_up hh HREP.out).2.2.2.1)
                  go_wp2_with (go_at_call 85; refine (within_any _ _ _ _).mono ?_; rintro e w9 ⟨rfl, rfl⟩)
                  go_ret
                  exact ⟨RetB.f HN.out, hB1⟩
                | true =>
                  have HSN := hid (inB_t hsn)
                  cases hgv : inB gv 0 1000000 with
                  | false =>
                    have HN := hid (show ¬ (vB ts wk true now sn ep gv L1 L2 R J S O) from fun hh => inB_f hgv (vB_up hh HREP.out).2.2.2.2.1)
                    go_wp2_with (go_at_call 85; refine (within_any _ _ _ _).mono ?_; rintro e w9 ⟨rfl, rfl⟩)
                    go_ret
                    exact ⟨RetB.f HN.out, hB1⟩
                  | true =>
                    have HGV := hid (inB_t hgv)
                    go_wp2_with (go_at_call 85; refine (within_any _ _ _ _).mono ?_; rintro e w9 ⟨rfl, rfl⟩)
                    refine (jobsHold_any wk true now sn ep gv a1 a2 ar aj az ao n1 c1 n2 c2 nr cr nj cj ns cs no co pa pb po pc ts bj oj br or' J R _ (hJ.below' hB1) (hR.below' hB1) (hT.below' hB1) hA hmj g2 (by omega) HGV.out.1 HGV.out.2 HNW.out.1 HNW.out.2).mono ?_
                    rintro e V2 ⟨⟨r2, rfl, hr2⟩, hb2⟩
                    have hB2 := hB1.trans (hb2.mono hB1.size)
                    have hmB2 := MC.below hmB1 hb2 (by omega)
                    have hs2 := hb2.size
                    clear b0 b1 b2 b3 b4 b5 b6 b7 b8 b9 b10 b11 bp hmP1
                    cases r2 with
                    | false =>
                      have HN := hid (show ¬ (vB ts wk true now sn ep gv L1 L2 R J S O) from fun hh => by
                        have h9 := (vB_up hh HREP.out).2.2.2.2.2.1
                        rw [HNJ.out, HNT.out] at h9
                        have := hr2.2 h9; cases this)
                      clear hr2
                      go_wp2
                      go_ret
                      exact ⟨RetB.f HN.out, hB2⟩
                    | true =>
                      have HJJ := hid (hr2.1 rfl)
                      clear hr2
                      have b0 : V2.cell? ⟨w.heap.size, 0, none⟩ = some (.int .i64 wk) := hmB2 0 (by simp)
                      have b1 : V2.cell? ⟨w.heap.size, 1, none⟩ = some (.bool true) := hmB2 1 (by simp)
                      have b2 : V2.cell? ⟨w.heap.size, 2, none⟩ = some (.int .i64 now) := hmB2 2 (by simp)
                      have b3 : V2.cell? ⟨w.heap.size, 3, none⟩ = some (.int .i64 sn) := hmB2 3 (by simp)
                      have b4 : V2.cell? ⟨w.heap.size, 4, none⟩ = some (.int .i64 ep) := hmB2 4 (by simp)
                      have b5 : V2.cell? ⟨w.heap.size, 5, none⟩ = some (.int .i64 gv) := hmB2 5 (by simp)
                      have b6 : V2.cell? ⟨w.heap.size, 6, none⟩ = some (.slice a1 n1 c1) := hmB2 6 (by simp)
                      have b7 : V2.cell? ⟨w.heap.size, 7, none⟩ = some (.slice a2 n2 c2) := hmB2 7 (by simp)
                      have b8 : V2.cell? ⟨w.heap.size, 8, none⟩ = some (.slice ar nr cr) := hmB2 8 (by simp)
                      have b9 : V2.cell? ⟨w.heap.size, 9, none⟩ = some (.slice aj nj cj) := hmB2 9 (by simp)
                      have b10 : V2.cell? ⟨w.heap.size, 10, none⟩ = some (.slice az ns cs) := hmB2 10 (by simp)
                      have b11 : V2.cell? ⟨w.heap.size, 11, none⟩ = some (.slice ao no co) := hmB2 11 (by simp)
                      go_wp2_with fail
                      refine (seatsHold_any wk true now sn ep gv a1 a2 ar aj az ao n1 c1 n2 c2 nr cr nj cj ns cs no co bs os' S _ (hS.below' hB2)).mono ?_
                      rintro e V3 ⟨⟨r3, rfl, hr3⟩, hb3⟩
                      have hB3 := hB2.trans (hb3.mono hB2.size)
                      have hmB3 := MC.below hmB2 hb3 (by omega)
                      clear b0 b1 b2 b3 b4 b5 b6 b7 b8 b9 b10 b11
                      cases r3 with
                      | false =>
                        have HN := hid (show ¬ (vB ts wk true now sn ep gv L1 L2 R J S O) from fun hh => by
                          have h9 := (vB_up hh HREP.out).2.2.2.2.2.2.1
                          rw [HNS.out] at h9
                          have := hr3.2 h9; cases this)
                        clear hr3
                        go_wp2
                        go_ret
                        exact ⟨RetB.f HN.out, hB3⟩
                      | true =>
                        have HSS := hid (hr3.1 rfl)
                        clear hr3
                        have b0 : V3.cell? ⟨w.heap.size, 0, none⟩ = some (.int .i64 wk) := hmB3 0 (by simp)
                        have b1 : V3.cell? ⟨w.heap.size, 1, none⟩ = some (.bool true) := hmB3 1 (by simp)
                        have b2 : V3.cell? ⟨w.heap.size, 2, none⟩ = some (.int .i64 now) := hmB3 2 (by simp)
                        have b3 : V3.cell? ⟨w.heap.size, 3, none⟩ = some (.int .i64 sn) := hmB3 3 (by simp)
                        have b4 : V3.cell? ⟨w.heap.size, 4, none⟩ = some (.int .i64 ep) := hmB3 4 (by simp)
                        have b5 : V3.cell? ⟨w.heap.size, 5, none⟩ = some (.int .i64 gv) := hmB3 5 (by simp)
                        have b6 : V3.cell? ⟨w.heap.size, 6, none⟩ = some (.slice a1 n1 c1) := hmB3 6 (by simp)
                        have b7 : V3.cell? ⟨w.heap.size, 7, none⟩ = some (.slice a2 n2 c2) := hmB3 7 (by simp)
                        have b8 : V3.cell? ⟨w.heap.size, 8, none⟩ = some (.slice ar nr cr) := hmB3 8 (by simp)
                        have b9 : V3.cell? ⟨w.heap.size, 9, none⟩ = some (.slice aj nj cj) := hmB3 9 (by simp)
                        have b10 : V3.cell? ⟨w.heap.size, 10, none⟩ = some (.slice az ns cs) := hmB3 10 (by simp)
                        have b11 : V3.cell? ⟨w.heap.size, 11, none⟩ = some (.slice ao no co) := hmB3 11 (by simp)
                        go_wp2_with fail
                        refine (owedHolds_any wk true now sn ep gv a1 a2 ar aj az ao n1 c1 n2 c2 nr cr nj cj ns cs no co bo oo br or' O R _ (hO.below' hB3) (hR.below' hB3)).mono ?_
                        rintro e V4 ⟨⟨r4, rfl, hr4⟩, hb4⟩
                        have hB4 := hB3.trans (hb4.mono hB3.size)
                        have HR4 := hid hr4
                        clear hr4 b0 b1 b2 b3 b4 b5 b6 b7 b8 b9 b10 b11
                        go_wp2
                        go_ret
                        refine ⟨⟨r4, rfl, ⟨fun h => ?_, fun h => ?_⟩⟩, hB4⟩
                        · refine ⟨HCL.out, HWK.out, HNW.out, ep, Q, HREP.out, .inr ⟨rfl, rfl, g2, HRQ.out, HSN.out, HGV.out, ?_, ?_, ?_⟩⟩
                          · rw [HNJ.out, HNT.out]; exact HJJ.out
                          · rw [HNS.out]; exact HSS.out
                          · rw [HNO.out]; exact HR4.out.1 h
                        · have h9 := (vB_up h HREP.out).2.2.2.2.2.2.2
                          rw [HNO.out] at h9
                          exact HR4.out.2 h9
            · have HN := hid (show ¬ (vB ts wk true now sn ep gv L1 L2 R J S O) from fun hh => g2 (vB_up hh HREP.out).2.1)
              go_wp2
              go_ret
              exact ⟨RetB.f HN.out, hBV⟩
          · have g1' : (ep == E) = false := by simpa using g1
            have HN := hid (show ¬ (vB ts wk true now sn ep gv L1 L2 R J S O) from fun hh => g1 (vB_up hh HREP.out).1)
            clear g1
            go_wp2
            go_ret
            exact ⟨RetB.f HN.out, hBV⟩
  · have hcc' : (cc == 0) = false := by simpa using hcc
    have HN := hid (show ¬ (vB ts wk up now sn ep gv L1 L2 R J S O) from fun hh => hst.nonzero hcc ⟨hh.1, by obtain ⟨_, _, _, E', Q', h9, _⟩ := hh; exact ⟨E', Q', h9⟩⟩)
    clear hst
    go_wp2
    go_ret
    exact ⟨RetB.f HN.out, hBV⟩
end Go.Proofs.YthopfmhagddhgaaGreat

namespace Go.Proofs.YthopfmhagddhgaaGreat
open Go.RowKit

set_option maxHeartbeats 4000000 in
set_option maxRecDepth 100000 in
theorem l5JobsOk_any (wk : Int) (up : Bool) (now sn ep gv : Int) (a1 a2 ar aj az ao : Option Addr) (n1 c1 n2 c2 nr cr cj ns cs no co : Nat) (pa : Option Addr) (pb po pc : Nat) (ts : List TaskD) (bj oj br or' : Nat) (J : List Tr) (R : List ByteArray) (w : World) (hJ : T3At w aj bj oj nr J) (hR : StrsAt w ar br or' nr R) (hT : TasksAt w pa pb po nr ts)
    (hA : allDeps ts nr) (he0 : 1 ≤ ep) (he1 : ep ≤ 100000) (hg0 : 0 ≤ gv) (hg1 : gv ≤ 1000000) (hn0 : 0 ≤ now) (hn1 : now ≤ 1000000) :
    Calls Tryz.prog 82 #[.agg #[.int .i64 wk, .bool up, .int .i64 now, .int .i64 sn, .int .i64 ep, .int .i64 gv, .slice a1 n1 c1, .slice a2 n2 c2, .slice ar nr cr, .slice aj nr cj, .slice az ns cs, .slice ao no co], .agg #[.slice pa nr pc]] w fun e w' => RetB e (jobsAll ts R wk now ep gv J) ∧ Below w.heap.size w w' := by
  obtain ⟨W, hW⟩ : ∃ W, W = (w.alloc (.cells #[.int .i64 wk, .bool up, .int .i64 now, .int .i64 sn, .int .i64 ep, .int .i64 gv, .slice a1 n1 c1, .slice a2 n2 c2, .slice ar nr cr, .slice aj nr cj, .slice az ns cs, .slice ao no co] 47)).alloc (.cells #[.slice pa nr pc] 41) := ⟨_, rfl⟩
  have hbW : Below w.heap.size w W := by rw [hW]; exact ((Below.refl _ _).alloc (Nat.le_refl _) _).alloc (by simp) _
  have hsW : W.heap.size = w.heap.size + 2 := by rw [hW]; simp
  have hq : MC W w.heap.size [.int .i64 wk, .bool up, .int .i64 now, .int .i64 sn, .int .i64 ep, .int .i64 gv, .slice a1 n1 c1, .slice a2 n2 c2, .slice ar nr cr, .slice aj nr cj, .slice az ns cs, .slice ao no co] ∧ MC W (w.heap.size + 1) [.slice pa nr pc] := by
    have x1 := MC.made w #[.int .i64 wk, .bool up, .int .i64 now, .int .i64 sn, .int .i64 ep, .int .i64 gv, .slice a1 n1 c1, .slice a2 n2 c2, .slice ar nr cr, .slice aj nr cj, .slice az ns cs, .slice ao no co] 47
    have x3 := MC.made (w.alloc (.cells #[.int .i64 wk, .bool up, .int .i64 now, .int .i64 sn, .int .i64 ep, .int .i64 gv, .slice a1 n1 c1, .slice a2 n2 c2, .slice ar nr cr, .slice aj nr cj, .slice az ns cs, .slice ao no co] 47)) #[.slice pa nr pc] 41
    rw [World.size_alloc] at x3
    rw [hW]; exact ⟨x1.block (Below.heap_alloc _ _ _ (by simp)), x3⟩
  have hmax := hT.max
  unfold maxLen at hmax
  have HJL := hid hJ.len
  have z4 : W.cell? ⟨w.heap.size, 4, none⟩ = some (.int .i64 ep) := hq.1 4 (by simp)
  go_enter Tryz.func82, Tryz.ntmps82
  go_upto_region 1 with fail
  rw [← hW]
  clear hW
  go_upto_region 2 with fail
  clear z4
  obtain ⟨ba, hba⟩ : ∃ ba, ba = (ep - 1) * 1000000 := ⟨_, rfl⟩
  rw [← hba]
  have hba0 : 0 ≤ ba := by omega
  have hba1 : ba ≤ 100000000000 := by omega
  have HBA := hid hba
  clear hba
  go_wp2
  go_loopw [6] (fun i wr => ∃ k : Nat, k ≤ nr ∧ i = .int .i64 k ∧ jobsDn ts R wk now ep gv J k ∧ Below W.heap.size W wr) (fun i _ => nr - (intOf i).toNat)
  case atStart => exact ⟨0, Nat.zero_le _, rfl, fun j hj => absurd hj (by omega), Below.refl _ _⟩
  case round =>
    obtain ⟨k, hk, rfl, hok, hb⟩ := hrel
    have hB := hbW.trans (hb.mono (by omega))
    have z9 : wr.cell? ⟨w.heap.size, 9, none⟩ = some (.slice aj nr cj) := keepB hb (hq.1 9 (by simp))
    by_cases hlt : k < nr
    · obtain rfl := hJ.ad (by omega)
      have hc0 := (hJ.below' hB).c0 k hlt
      have hc1 := (hJ.below' hB).c1 k hlt
      have hc2 := (hJ.below' hB).c2 k hlt
      obtain ⟨⟨x0, x1, x2⟩, hx⟩ : ∃ x, x = t3 J k := ⟨_, rfl⟩
      rw [← hx] at hc0 hc1 hc2
      dsimp only at hc0 hc1 hc2
      have HX := hid hx
      clear hx
      have hlt' : (k : Int) < (nr : Int) := by omega
      obtain ⟨V, hV⟩ : ∃ V, V = wr.alloc (.cells #[.int .i64 x0, .int .i64 x1, .int .i64 x2] 153) := ⟨_, rfl⟩
      have hbV1 : Below wr.heap.size wr V := by rw [hV]; exact (Below.refl _ _).alloc (Nat.le_refl _) _
      have hbV : Below W.heap.size W V := hb.trans (hbV1.mono hb.size)
      have hBV := hbW.trans (hbV.mono (by omega))
      have hmV : MC V wr.heap.size [.int .i64 x0, .int .i64 x1, .int .i64 x2] := by rw [hV]; exact MC.made wr _ _
      have hlV : wr.heap.size < V.heap.size := by rw [hV]; simp
      have y0 : V.cell? ⟨wr.heap.size, 0, none⟩ = some (.int .i64 x0) := hmV 0 (by simp)
      have y1 : V.cell? ⟨wr.heap.size, 1, none⟩ = some (.int .i64 x1) := hmV 1 (by simp)
      have y2 : V.cell? ⟨wr.heap.size, 2, none⟩ = some (.int .i64 x2) := hmV 2 (by simp)
      clear hmV
      go_upto_region 6 with fail
      rw [← hV]
      clear hV z9 hc0 hc1 hc2
      obtain ⟨jb, hjb⟩ : ∃ jb, jb = wr.heap.size := ⟨_, rfl⟩
      rw [← hjb] at y0 y1 y2 hlV
      rw [← hjb]
      clear hjb
      by_cases hz0 : x0 = 0
      · subst hz0
        by_cases hz1 : x1 = 0
        · subst hz1
          by_cases hz2 : x2 = 0
          · subst hz2
            go_wp2
            go_roundw
            case rel =>
              refine ⟨k + 1, by omega, by go_num, fun j hj => ?_, hbV⟩
              by_cases e : j = k
              · subst e; exact .inl HX.out.symm
              · exact hok j (by omega)
            case measure => simp [intOf]; omega
          · have HN := hid (show ¬ jobsAll ts R wk now ep gv J from fun hh => by
              rcases hh k (by rw [HJL.out]; exact hlt) with h0 | ⟨h1, _⟩
              · rw [← HX.out] at h0; exact hz2 (by simpa using h0)
              · rw [← HX.out] at h1; exact jobIn_ne h1 he0 rfl)
            go_wp2
            go_ret
            exact ⟨RetB.f HN.out, hBV⟩
        · have HN := hid (show ¬ jobsAll ts R wk now ep gv J from fun hh => by
            rcases hh k (by rw [HJL.out]; exact hlt) with h0 | ⟨h1, _⟩
            · rw [← HX.out] at h0; exact hz1 (by have := congrArg (fun t : Tr => t.2.1) h0; simpa using this)
            · rw [← HX.out] at h1; exact jobIn_ne h1 he0 rfl)
          go_wp2
          go_ret
          exact ⟨RetB.f HN.out, hBV⟩
      · have HZ := hid hz0
        have HNO : Hid (∀ P : Prop, (jobIn wk now ep gv (x0, x1, x2) → (∀ i', ¬ i' = k → i' < nr → ¬ (t3 J i').1 = x0) → dueOk ts R k → P) → jobsAll ts R wk now ep gv J → P) := fun P hP hh => by
          rcases hh k (by rw [HJL.out]; exact hlt) with h0 | ⟨h1, h2, h3⟩
          · rw [← HX.out] at h0; exact absurd (by have := congrArg (fun t : Tr => t.1) h0; simpa using this) HZ.out
          · rw [← HX.out] at h1
            exact hP h1 (fun i' a b => by have := h2 i' a (by rw [HJL.out]; exact b); rw [← HX.out] at this; exact this) h3
        have b0 : V.cell? ⟨w.heap.size, 0, none⟩ = some (.int .i64 wk) := keepB hbV (hq.1 0 (by simp))
        have b2 : V.cell? ⟨w.heap.size, 2, none⟩ = some (.int .i64 now) := keepB hbV (hq.1 2 (by simp))
        have b5 : V.cell? ⟨w.heap.size, 5, none⟩ = some (.int .i64 gv) := keepB hbV (hq.1 5 (by simp))
        have b8 : V.cell? ⟨w.heap.size, 8, none⟩ = some (.slice ar nr cr) := keepB hbV (hq.1 8 (by simp))
        have b9 : V.cell? ⟨w.heap.size, 9, none⟩ = some (.slice (some ⟨bj, oj, none⟩) nr cj) := keepB hbV (hq.1 9 (by simp))
        have bp : V.cell? ⟨w.heap.size + 1, 0, none⟩ = some (.slice pa nr pc) := keepB hbV (hq.2 0 (by simp))
        cases hA0 : inB x0 (ba + 1) (ba + gv) with
        | false =>
          have HN := hid (show ¬ jobsAll ts R wk now ep gv J from HNO.out False fun h1 _ _ => inB_f hA0 (by rw [HBA.out]; exact ⟨h1.1, h1.2.1⟩))
          go_wp2_with (first | (go_at_call 30; refine (l2In_any _ _ _ _).mono ?_; rintro e w9 ⟨rfl, rfl⟩))
          go_ret
          exact ⟨RetB.f HN.out, hBV⟩
        | true =>
          have HA0 := hid (inB_t hA0)
          cases hB0 : inB x1 1 wk with
          | false =>
            have HN := hid (show ¬ jobsAll ts R wk now ep gv J from HNO.out False fun h1 _ _ => inB_f hB0 ⟨h1.2.2.1, h1.2.2.2.1⟩)
            go_wp2_with (first | (go_at_call 30; refine (l2In_any _ _ _ _).mono ?_; rintro e w9 ⟨rfl, rfl⟩))
            go_ret
            exact ⟨RetB.f HN.out, hBV⟩
          | true =>
            have HB0 := hid (inB_t hB0)
            cases hC0 : inB x2 (now + 1) (now + 12) with
            | false =>
              have HN := hid (show ¬ jobsAll ts R wk now ep gv J from HNO.out False fun h1 _ _ => inB_f hC0 h1.2.2.2.2)
              go_wp2_with (first | (go_at_call 30; refine (l2In_any _ _ _ _).mono ?_; rintro e w9 ⟨rfl, rfl⟩))
              go_ret
              exact ⟨RetB.f HN.out, hBV⟩
            | true =>
              have HC0 := hid (inB_t hC0)
              obtain rfl := hR.ad (by omega)
              have hcr := (hR.below' hBV).cell k hlt
              obtain ⟨s, hs⟩ : ∃ s, s = R.getD k ByteArray.empty := ⟨_, rfl⟩
              rw [← hs] at hcr
              have HS : Hid (rs R k = s) := by rw [hs]; rfl
              clear hs
              by_cases hz : s.size = 0
              · have hz' := empty_t hz
                have HZZ := hid hz
                clear hz
                have htas := hT.below' hBV
                have hstr := hR.below' hBV
                go_wp2_with (first | (go_at_call 30; refine (l2In_any _ _ _ _).mono ?_; rintro e w9 ⟨rfl, rfl⟩))
                refine (l4Deps_any pa pb po nr pc ts _ br or' cr R k _ htas hstr hlt hA).mono ?_
                rintro e V1 ⟨⟨r, rfl, hr⟩, hb1⟩
                have hb1V : Below W.heap.size W V1 := hbV.trans (hb1.mono hbV.size)
                have hB1 := hbW.trans (hb1V.mono (by omega))
                have hs1 := hb1.size
                have y0' := keepB hb1 y0
                clear b0 b2 b5 b8 b9 bp hcr htas hstr y0 y1 y2
                cases r with
                | false =>
                  have HN := hid (show ¬ jobsAll ts R wk now ep gv J from HNO.out False fun _ _ h3 => by have := hr.2 h3.2; cases this)
                  clear hr
                  go_wp2
                  go_ret
                  exact ⟨RetB.f HN.out, hB1⟩
                | true =>
                  have HDU := hid (show dueOk ts R k from ⟨by rw [HS.out]; exact HZZ.out, hr.1 rfl⟩)
                  clear hr
                  go_wp2
                  go_loopw [8] (fun i wr' => ∃ m : Nat, m ≤ k ∧ i = .int .i64 m ∧ (∀ i', i' < m → ¬ (t3 J i').1 = x0) ∧ Below V1.heap.size V1 wr') (fun i _ => k - (intOf i).toNat)
                  case atStart => exact ⟨0, Nat.zero_le _, rfl, fun j hj => absurd hj (by omega), Below.refl _ _⟩
                  case round =>
                    obtain ⟨m, hm, rfl, hfar, hbm⟩ := hrel
                    have hbmW : Below W.heap.size W wr := hb1V.trans (hbm.mono hb1V.size)
                    have hBm := hbW.trans (hbmW.mono (by omega))
                    by_cases hml : m < k
                    · have z9 : wr.cell? ⟨w.heap.size, 9, none⟩ = some (.slice (some ⟨bj, oj, none⟩) nr cj) := keepB hbmW (hq.1 9 (by simp))
                      have yj : wr.cell? ⟨jb, 0, none⟩ = some (.int .i64 x0) := keepB hbm y0'
                      have hcm := (hJ.below' hBm).c0 m (by omega)
                      obtain ⟨xm, hxm⟩ : ∃ xm, xm = (t3 J m).1 := ⟨_, rfl⟩
                      rw [← hxm] at hcm
                      have HXM := hid hxm
                      clear hxm
                      have hml' : (m : Int) < (k : Int) := by omega
                      have hmr : (m : Int) < (nr : Int) := by omega
                      by_cases heq : xm = x0
                      · have HN := hid (show ¬ jobsAll ts R wk now ep gv J from HNO.out False fun _ h2 _ => h2 m (by omega) (by omega) (by rw [← HXM.out]; exact heq))
                        have heq' : (xm == x0) = true := by simpa using heq
                        clear heq
                        go_wp2
                        go_quiet (fail)
                        go_wp2
                        go_ret
                        exact ⟨RetB.f HN.out, below_drewN hBm _⟩
                      · have heq' : (xm == x0) = false := by simpa using heq
                        have HEQ := hid heq
                        clear heq
                        go_wp2
                        go_quiet (fail)
                        go_wp2
                        go_roundw
                        case rel =>
                          refine ⟨m + 1, by omega, by go_num, fun i' hi' => ?_, below_drewN hbm _⟩
                          by_cases e : i' = m
                          · subst e; rw [← HXM.out]; exact HEQ.out
                          · exact hfar i' (by omega)
                        case measure => simp [intOf]; omega
                    · obtain rfl : m = k := by omega
                      go_wp2
                      go_roundw
                      case rel =>
                        refine ⟨m + 1, by omega, by go_num, fun j hj => ?_, hbmW⟩
                        by_cases e : j = m
                        · subst e
                          have hin : jobIn wk now ep gv (t3 J j) := by
                            rw [← HX.out]
                            have h1 := HA0.out
                            rw [HBA.out] at h1
                            exact ⟨h1.1, h1.2, HB0.out.1, HB0.out.2, HC0.out.1, HC0.out.2⟩
                          exact .inr ⟨hin, fun i' a _ he => hfar i' a (by rw [he, ← HX.out]), HDU.out⟩
                        · exact hok j (by omega)
                      case measure => simp [intOf]; omega
              · have hz' := empty_f hz
                have HN := hid (show ¬ jobsAll ts R wk now ep gv J from HNO.out False fun _ _ h3 => hz (by rw [← HS.out]; exact h3.1))
                clear hz
                go_wp2_with (first | (go_at_call 30; refine (l2In_any _ _ _ _).mono ?_; rintro e w9 ⟨rfl, rfl⟩))
                go_ret
                exact ⟨RetB.f HN.out, hBV⟩
    · obtain rfl : k = nr := by omega
      go_wp2
      go_ret
      exact ⟨RetB.t (jobsDn.all (by rw [HJL.out]; exact hok) he0), hB⟩
end Go.Proofs.YthopfmhagddhgaaGreat

namespace Go.Proofs.YthopfmhagddhgaaGreat
open Go.RowKit

theorem StrsAt.srcS {w : World} {a : Option Addr} {b o n : Nat} {ss : List ByteArray} (h : StrsAt w a b o n ss) (c : Nat) : Src Tryz.prog 1 25 (.slice a n c) n (ss.map Value.string) w := by
  have h1 : ∀ u ∈ ss.map Value.string, u.oneCell' = true := fun u hu => by obtain ⟨y, _, rfl⟩ := List.mem_map.1 hu; rfl
  cases a with
  | none =>
    have h0 : n = 0 := Nat.eq_zero_of_not_pos fun hh => by have := h.ad hh; cases this
    subst h0
    have : ss = [] := List.eq_nil_of_length_eq_zero h.len
    subst this
    exact Src.ofNil w Tryz.underlying25 c
  | some y =>
    refine Src.ofSlice w Tryz.underlying25 y n c (ss.map Value.string) (by simp [h.len]) (fun j u hu => ?_) h1
    have hj : j < n := by have := (List.getElem?_eq_some_iff.1 hu).1; simp [h.len] at this; exact this
    have hy := h.ad (by omega)
    injection hy with hy
    subst hy
    rw [Addr.add_lit, h.cell j hj]
    rw [← hu]; simp [List.getD, h.len, hj]

theorem run_bs0 {ρ : Operand → Value} {o : Oper} {w : World} (h : o.op = .buildSlice 25 0 #[]) : (execOp ρ o).run Tryz.prog w = .ok (.value (.slice (some ⟨w.heap.size, 0, none⟩) 0 0)) (w.alloc (.cells #[] 9)) := by
  unfold execOp
  rw [h]
  simp [go_sem]
theorem run_app {ρ : Operand → Value} {o : Oper} {w w' : World} {v x v' : Value} (s y : Operand) (t tx : TypeId) (ho : o.op = .call { callee := .builtin .append, args := #[s, y], argTypes := #[t, tx] }) (hv : ρ s = v) (hx : ρ y = x) (hty : o.type = 25) (hr : (Builtin.append_ #[t, tx] 25 #[v, x]).run Tryz.prog w = .ok v' w') : (execOp ρ o).run Tryz.prog w = .ok (.value v') w' := by
  unfold execOp
  simp [ho, resolve, invoke, builtin, hv, hx, hty, hr, Result.andThen]
theorem run_asg {ρ : Operand → Value} {o : Oper} {w : World} {v : Value} (x : Operand) (h : o.op = .assign x) (hx : ρ x = v) : (execOp ρ o).run Tryz.prog w = .ok (.value v) w := by
  unfold execOp
  rw [h]
  simp [go_sem, hx]

set_option maxHeartbeats 2000000 in
set_option maxRecDepth 100000 in
theorem l4All_any (a1 a2 : Option Addr) (b1 o1 n1 c1 b2 o2 n2 c2 : Nat) (L1 L2 : List ByteArray) (w : World) (h1 : StrsAt w a1 b1 o1 n1 L1) (h2 : StrsAt w a2 b2 o2 n2 L2) (hm1 : n1 ≤ 1048576) (hm2 : n2 ≤ 1048576) :
    Calls Tryz.prog 43 #[.agg #[.slice a1 n1 c1, .slice a2 n2 c2]] w fun e w' => (∃ v, e = .returned v ∧ Own w.heap.size w' 1 v (n1 + n2) ((L1 ++ L2).map Value.string)) ∧ Below w.heap.size w w' := by
  obtain ⟨i0, hi, hz0, hz1, hz2⟩ := info_parts Tryz.info9
  obtain ⟨W, hW⟩ : ∃ W, W = w.alloc (.cells #[.slice a1 n1 c1, .slice a2 n2 c2] 42) := ⟨_, rfl⟩
  have hbW : Below w.heap.size w W := by rw [hW]; exact (Below.refl _ _).alloc (Nat.le_refl _) _
  have hsW : W.heap.size = w.heap.size + 1 := by rw [hW]; simp
  have hMC : MC W w.heap.size [.slice a1 n1 c1, .slice a2 n2 c2] := by rw [hW]; exact MC.made w _ _
  have k0 : W.cell? ⟨w.heap.size, 0, none⟩ = some (.slice a1 n1 c1) := hMC 0 (by simp)
  have k1 : W.cell? ⟨w.heap.size, 1, none⟩ = some (.slice a2 n2 c2) := hMC 1 (by simp)
  have hK : W.drew.cell? ⟨w.heap.size, 0, none⟩ = some (.slice a1 n1 c1) ∧ W.drew.cell? ⟨w.heap.size, 1, none⟩ = some (.slice a2 n2 c2) := ⟨k0, k1⟩
  obtain ⟨U, hU⟩ : ∃ U, U = W.drew.alloc (.cells #[] 9) := ⟨_, rfl⟩
  have hown0 : Own (w.heap.size + 1) U 1 (.slice (some ⟨W.heap.size, 0, none⟩) 0 0) 0 [] := by
    rw [hU]
    exact .inr ⟨_, 0, 0, rfl, OwnC.made W.drew (w.heap.size + 1) 9 1 0 0 _ 0 (by show _ ≤ W.heap.size; omega) (Nat.le_refl _) (by unfold maxLen; omega) rfl (Nat.le_refl _) _ rfl _ (.inl rfl)⟩
  have hbU : Below w.heap.size w U := by rw [hU]; exact hbW.drew.alloc hbW.size _
  have hsU : U.heap.size = w.heap.size + 2 := by rw [hU]; show (World.alloc _ _).heap.size = _; rw [World.size_alloc]; show W.heap.size + 1 = _; omega
  have hKU : U.cell? ⟨w.heap.size, 0, none⟩ = some (.slice a1 n1 c1) ∧ U.cell? ⟨w.heap.size, 1, none⟩ = some (.slice a2 n2 c2) := by
    rw [hU]
    exact ⟨(World.cell?_alloc_lt W.drew _ ⟨w.heap.size, 0, none⟩ (by show w.heap.size < W.heap.size; omega)).trans k0, (World.cell?_alloc_lt W.drew _ ⟨w.heap.size, 1, none⟩ (by show w.heap.size < W.heap.size; omega)).trans k1⟩
  obtain ⟨v1, w1, hr1, hown1, hg1, _⟩ := run_append_c (P := Tryz.prog) U (w.heap.size + 1) 25 25 25 9 i0 (.string ⟨#[]⟩) 1 16 Tryz.underlying25 hi hz0 hz1 hz2 rfl _ 0 _ hown0 _ n1 _ ((h1.below' hbU).srcS c1) (by unfold maxLen; omega) (by omega) (by omega)
  rw [Nat.zero_add, List.nil_append] at hown1
  have hrow := hown0.row_lo
  have hb1 := hbU.grown hg1 (by omega) (fun q hq => by have := hrow q hq; omega)
  have hK1 : w1.cell? ⟨w.heap.size, 0, none⟩ = some (.slice a1 n1 c1) ∧ w1.cell? ⟨w.heap.size, 1, none⟩ = some (.slice a2 n2 c2) := ⟨hg1.cell hKU.1 (fun e => absurd (hrow _ e.symm) (by show ¬ _ ≤ w.heap.size; omega)), hg1.cell hKU.2 (fun e => absurd (hrow _ e.symm) (by show ¬ _ ≤ w.heap.size; omega))⟩
  have hs1 := hg1.size
  obtain ⟨v2, w2, hr2, hown2, hg2, _⟩ := run_append_c (P := Tryz.prog) w1 (w.heap.size + 1) 25 25 25 9 i0 (.string ⟨#[]⟩) 1 16 Tryz.underlying25 hi hz0 hz1 hz2 rfl _ n1 _ hown1 _ n2 _ ((h2.below' hb1).srcS c2) (by unfold maxLen; omega) (by omega) (by omega)
  have hrow1 := hown1.row_lo
  have hb2 := hb1.grown hg2 (by omega) (fun q hq => by have := hrow1 q hq; omega)
  have hK2 : w2.cell? ⟨w.heap.size, 0, none⟩ = some (.slice a1 n1 c1) ∧ w2.cell? ⟨w.heap.size, 1, none⟩ = some (.slice a2 n2 c2) := ⟨hg2.cell hK1.1 (fun e => absurd (hrow1 _ e.symm) (by show ¬ _ ≤ w.heap.size; omega)), hg2.cell hK1.2 (fun e => absurd (hrow1 _ e.symm) (by show ¬ _ ≤ w.heap.size; omega))⟩
  have HO := hid (show Own w.heap.size w2 1 v2 (n1 + n2) ((L1 ++ L2).map Value.string) by rw [List.map_append]; exact hown2.mono' (by omega))
  clear hown0 hown1 hown2 hg1 hg2 hrow hrow1 hMC k0 k1
  go_enter Tryz.func43, Tryz.ntmps43
  go_upto_region 1 with fail
  rw [← hW]
  clear hW
  refine wp_region_held (S := fun w' => w'.cell? ⟨w.heap.size, 0, none⟩ = some (.slice a1 n1 c1) ∧ w'.cell? ⟨w.heap.size, 1, none⟩ = some (.slice a2 n2 c2)) (by kernel_rfl) ?_
  change wpAnyH _ _ _ _ _ _ _ _ (World.drew _)
  refine hTake (i := 1) (d := some 4) (v := .pointer (some ⟨w.heap.size, 0, none⟩)) (l' := #[false, true, false, false, false, false, false, false]) rfl (by kernel_rfl) (by kernel_rfl) (by kernel_rfl) (by kernel_rfl) (fun _ _ _ h => h) (by kernel_rfl) (fun _ hc => by kernel_rfl) hK (by kernel_rfl) ?_
  refine hTake (i := 2) (d := some 5) (v := .slice a1 n1 c1) (l' := #[false, true, true, false, false, false, false, false]) rfl (by kernel_rfl) (by kernel_rfl) (by kernel_rfl) (by kernel_rfl) (fun _ _ _ h => h) (by kernel_rfl) (fun _ hc => run_ldss (.tmp 4) (by kernel_rfl) (by kernel_rfl) hc.1) hK (by kernel_rfl) ?_
  refine hTake (i := 4) (d := some 7) (v := .pointer (some ⟨w.heap.size, 1, none⟩)) (l' := #[false, true, true, false, true, false, false, false]) rfl (by kernel_rfl) (by kernel_rfl) (by kernel_rfl) (by kernel_rfl) (fun _ _ _ h => h) (by kernel_rfl) (fun _ hc => by kernel_rfl) hK (by kernel_rfl) ?_
  refine hTake (i := 5) (d := some 8) (v := .slice a2 n2 c2) (l' := #[false, true, true, false, true, true, false, false]) rfl (by kernel_rfl) (by kernel_rfl) (by kernel_rfl) (by kernel_rfl) (fun _ _ _ h => h) (by kernel_rfl) (fun _ hc => run_ldss (.tmp 7) (by kernel_rfl) (by kernel_rfl) hc.2) hK (by kernel_rfl) ?_
  refine hOne (i := 0) (by kernel_rfl) (hVal (i := 0) (d := some 3) (v := .slice (some ⟨W.heap.size, 0, none⟩) 0 0) (w' := U) (l' := #[true, true, true, false, true, true, false, false]) rfl (by kernel_rfl) (by kernel_rfl) (by kernel_rfl) (by rw [hU]; exact run_bs0 (by kernel_rfl)) hKU ?_)
  refine hOne (i := 3) (by kernel_rfl) (hVal (i := 3) (d := some 6) (v := v1) (w' := w1) (l' := #[true, true, true, true, true, true, false, false]) rfl (by kernel_rfl) (by kernel_rfl) (by kernel_rfl) (run_app (.tmp 3) (.tmp 5) 25 25 (by kernel_rfl) (by kernel_rfl) (by kernel_rfl) (by kernel_rfl) hr1) hK1 ?_)
  refine hOne (i := 6) (by kernel_rfl) (hVal (i := 6) (d := some 9) (v := v2) (w' := w2) (l' := #[true, true, true, true, true, true, true, false]) rfl (by kernel_rfl) (by kernel_rfl) (by kernel_rfl) (run_app (.tmp 6) (.tmp 8) 25 25 (by kernel_rfl) (by kernel_rfl) (by kernel_rfl) (by kernel_rfl) hr2) hK2 ?_)
  refine hOne (i := 7) (by kernel_rfl) (hVal (i := 7) (d := some 2) (v := v2) (w' := w2) (l' := #[true, true, true, true, true, true, true, true]) rfl (by kernel_rfl) (by kernel_rfl) (by kernel_rfl) (run_asg (.tmp 9) (by kernel_rfl) (by kernel_rfl)) hK2 ?_)
  refine wpAnyH_done (by kernel_rfl) ?_ _
  go_simp
  go_wp2
  go_ret
  exact ⟨⟨_, rfl, HO.out⟩, hb2⟩
end Go.Proofs.YthopfmhagddhgaaGreat
