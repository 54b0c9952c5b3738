import Derived.Test.YthopfmhagddhgaaGreatQWlb
import Derived.Test.YthopfmhagddhgaaGreatQWlc
import Derived.Test.YthopfmhagddhgaaGreatQSChk
import Derived.Test.YthopfmhagddhgaaGreatQWki
namespace Go.Proofs.YthopfmhagddhgaaGreat
open Go.RowKit

/-- A valid world. -/
def vWo (ts : List TaskD) (key : ByteArray) (d : BD) (wn : Nat) (Ws : List WkD) (fn : Nat) (Fl : List Pc) : Prop :=
  key.size ≤ 30 ∧ (wn : Int) = d.wk ∧ d.ok ts ∧ crewK Ws wn ∧ (fn ≤ 2000 ∧ flK Fl fn)

set_option maxHeartbeats 4000000 in
set_option maxRecDepth 100000 in
theorem iValW_any (pa : Option Addr) (pb po pn pq : Nat) (ts : List TaskD) (key : ByteArray) (d : BD) (v0 v1 v2 v3 v4 v5 v6 v7 v8 v9 v10 v11 : Value) (wa : Option Addr) (wb wo wn wc : Nat) (Ws : List WkD) (fa : Option Addr) (fb fo fn fc : Nat) (Fl : List Pc) (fg : ByteArray) (w : World) (hT : TasksAt w pa pb po pn ts) (hV : BossV w d [v0, v1, v2, v3, v4, v5, v6, v7, v8, v9, v10, v11]) (hW : WrAt w wa wb wo wn Ws) (hF : PcAt w fa fb fo fn Fl) (hs2 : d.small) (hs3 : wn ≤ 1048576) (hs5 : fn ≤ 1048576) (hk : key.size ≤ 1048576) :
    Calls Tryz.prog 10 #[.agg #[.slice pa pn pq, .string key, v0, v1, v2, v3, v4, v5, v6, v7, v8, v9, v10, v11, .slice wa wn wc, .slice fa fn fc, .string fg]] w fun e w' => RetB e (vWo ts key d wn Ws fn Fl) ∧ Below w.heap.size w w' := by
  obtain ⟨W, hWd⟩ : ∃ W, W = w.alloc (.cells #[.slice pa pn pq, .string key, v0, v1, v2, v3, v4, v5, v6, v7, v8, v9, v10, v11, .slice wa wn wc, .slice fa fn fc, .string fg] 51) := ⟨_, rfl⟩
  have B_0 : Below w.heap.size w W := by rw [hWd]; exact (Below.refl _ _).alloc (Nat.le_refl _) _
  have A_0 : MC W w.heap.size [.slice pa pn pq, .string key, v0, v1, v2, v3, v4, v5, v6, v7, v8, v9, v10, v11, .slice wa wn wc, .slice fa fn fc, .string fg] := by rw [hWd]; exact MC.made w _ _
  have l_0 : w.heap.size < W.heap.size := by rw [hWd]; simp
  obtain ⟨pA, hpA⟩ : ∃ q, q = w.heap.size := ⟨_, rfl⟩
  have hk0 : (key.size : Int) ≤ 1048576 := by omega
  have hw0 : (wn : Int) ≤ 1048576 := by omega
  obtain ⟨hh, hv2, _⟩ := hV
  have hwk : v0 = .int .i64 d.wk := by simp only [bvs, List.cons.injEq] at hv2; exact hv2.1
  have hV : BossV w d [v0, v1, v2, v3, v4, v5, v6, v7, v8, v9, v10, v11] := ⟨hh, hv2, by assumption⟩
  clear hv2
  subst hwk
  by_cases hky : key.size ≤ 30
  · have hky' : (key.size : Int) ≤ 30 := by omega
    by_cases hwn : (wn : Int) = d.wk
    · have hwn' : ((wn : Int) == d.wk) = true := by simpa using hwn
      have HB := hid (iValBV_any d (.int .i64 d.wk) v1 v2 v3 v4 v5 v6 v7 v8 v9 v10 v11 pa pb po pn pq ts W (hV.below' B_0) (hT.below' B_0) hs2)
      have HWN := hid hwn
      clear hwn
      rw [← hpA] at A_0 l_0
      have z0 : W.cell? ⟨pA, 0, none⟩ = some (.slice pa pn pq) := A_0 0 (by simp)
      have z1 : W.cell? ⟨pA, 1, none⟩ = some (.string key) := A_0 1 (by simp)
      have z2 : W.cell? ⟨pA, 2, none⟩ = some (.int .i64 d.wk) := A_0 2 (by simp)
      have z3 : W.cell? ⟨pA, 3, none⟩ = some (v1) := A_0 3 (by simp)
      have z4 : W.cell? ⟨pA, 4, none⟩ = some (v2) := A_0 4 (by simp)
      have z5 : W.cell? ⟨pA, 5, none⟩ = some (v3) := A_0 5 (by simp)
      have z6 : W.cell? ⟨pA, 6, none⟩ = some (v4) := A_0 6 (by simp)
      have z7 : W.cell? ⟨pA, 7, none⟩ = some (v5) := A_0 7 (by simp)
      have z8 : W.cell? ⟨pA, 8, none⟩ = some (v6) := A_0 8 (by simp)
      have z9 : W.cell? ⟨pA, 9, none⟩ = some (v7) := A_0 9 (by simp)
      have z10 : W.cell? ⟨pA, 10, none⟩ = some (v8) := A_0 10 (by simp)
      have z11 : W.cell? ⟨pA, 11, none⟩ = some (v9) := A_0 11 (by simp)
      have z12 : W.cell? ⟨pA, 12, none⟩ = some (v10) := A_0 12 (by simp)
      have z13 : W.cell? ⟨pA, 13, none⟩ = some (v11) := A_0 13 (by simp)
      have z14 : W.cell? ⟨pA, 14, none⟩ = some (.slice wa wn wc) := A_0 14 (by simp)
      have z15 : W.cell? ⟨pA, 15, none⟩ = some (.slice fa fn fc) := A_0 15 (by simp)
      go_enter Tryz.func10, Tryz.ntmps10
      go_upto_region 1 with fail
      rw [← hWd, ← hpA]
      clear hWd hpA
      go_wp2_with fail
      refine HB.out.mono ?_
      rintro e x1 ⟨⟨r1, rfl, hr1⟩, hb1⟩
      have B_1 := B_0.trans (hb1.mono B_0.size)
      have k14 := keepB hb1 z14
      have k15 := keepB hb1 z15
      clear B_0 HB z0 z1 z2 z3 z4 z5 z6 z7 z8 z9 z10 z11 z12 z13 z14 z15
      cases r1 with
      | false =>
        have HN := hid (show ¬ vWo ts key d wn Ws fn Fl from fun hh => absurd (hr1.2 hh.2.2.1) (by simp))
        clear hr1
        go_wp2
        go_ret
        exact ⟨RetB.f HN.out, B_1⟩
      | true =>
        have H1 := hid (hr1.1 rfl)
        have HC := hid (crewHolds_any wa wb wo wn wc Ws x1 (hW.below' B_1) hs3)
        clear hr1
        go_wp2_with fail
        refine HC.out.mono ?_
        rintro e x2 ⟨⟨r2, rfl, hr2⟩, hb2⟩
        have B_2 := B_1.trans (hb2.mono B_1.size)
        have m15 := keepB hb2 k15
        clear B_1 HC k14 k15 hb2
        cases r2 with
        | false =>
          have HN := hid (show ¬ vWo ts key d wn Ws fn Fl from fun hh => absurd (hr2.2 hh.2.2.2.1) (by simp))
          clear hr2
          go_wp2
          go_ret
          exact ⟨RetB.f HN.out, B_2⟩
        | true =>
          have H2 := hid (hr2.1 rfl)
          have HF := hid (flightHolds_any fa fb fo fn fc Fl x2 (hF.below' B_2) hs5)
          clear hr2
          go_wp2_with fail
          refine HF.out.mono ?_
          rintro e x3 ⟨⟨r3, rfl, hr3⟩, hb3⟩
          have B_3 := B_2.trans (hb3.mono B_2.size)
          clear B_2 HF m15 hb3
          cases r3 with
          | false =>
            have HN := hid (show ¬ vWo ts key d wn Ws fn Fl from fun hh => absurd (hr3.2 hh.2.2.2.2) (by simp))
            clear hr3
            go_wp2
            go_ret
            exact ⟨RetB.f HN.out, B_3⟩
          | true =>
            have HQ := hid (show vWo ts key d wn Ws fn Fl from ⟨hky, HWN.out, H1.out, H2.out, hr3.1 rfl⟩)
            clear hr3
            go_wp2
            go_ret
            exact ⟨RetB.t HQ.out, B_3⟩
    · have hwn' : ((wn : Int) == d.wk) = false := by simpa using hwn
      have HN := hid (show ¬ vWo ts key d wn Ws fn Fl from fun hh => hwn hh.2.1)
      rw [← hpA] at A_0 l_0
      have z1 : W.cell? ⟨pA, 1, none⟩ = some (.string key) := A_0 1 (by simp)
      have z2 : W.cell? ⟨pA, 2, none⟩ = some (.int .i64 d.wk) := A_0 2 (by simp)
      have z14 : W.cell? ⟨pA, 14, none⟩ = some (.slice wa wn wc) := A_0 14 (by simp)
      go_enter Tryz.func10, Tryz.ntmps10
      go_upto_region 1 with fail
      rw [← hWd, ← hpA]
      clear hWd hpA
      go_wp2
      go_ret
      exact ⟨RetB.f HN.out, B_0⟩
  · have hky' : ¬ (key.size : Int) ≤ 30 := by omega
    have HN := hid (show ¬ vWo ts key d wn Ws fn Fl from fun hh => hky hh.1)
    rw [← hpA] at A_0 l_0
    have z1 : W.cell? ⟨pA, 1, none⟩ = some (.string key) := A_0 1 (by simp)
    go_enter Tryz.func10, Tryz.ntmps10
    go_upto_region 1 with fail
    rw [← hWd, ← hpA]
    clear hWd hpA
    go_wp2
    go_ret
    exact ⟨RetB.f HN.out, B_0⟩
end Go.Proofs.YthopfmhagddhgaaGreat
