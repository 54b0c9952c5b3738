import Derived.Test.YthopfmhagddhgaaGreatQWlv
namespace Go.Proofs.YthopfmhagddhgaaGreat
open Go.RowKit

theorem BD.ok.code {d : BD} {ts : List TaskD} (h : d.ok ts) : Code ts 0 := h.1.1
theorem BD.ok.wk {d : BD} {ts : List TaskD} (h : d.ok ts) : 1 ≤ d.wk ∧ d.wk ≤ 8 := h.2.1

set_option maxHeartbeats 4000000 in
set_option maxRecDepth 100000 in
theorem sValW_any (pa : Option Addr) (pb po pn pq : Nat) (ts : List TaskD) (key : ByteArray) (d : BD) (v0 v1 v2 v3 v4 v5 v6 v7 v8 v9 v10 v11 : Value) (wa : Option Addr) (wb wo wn wc : Nat) (Ws : List WkD) (fa : Option Addr) (fb fo fn fc : Nat) (Fl : List Pc) (fg : ByteArray) (w : World) (hT : TasksAt w pa pb po pn ts) (hV : BossV w d [v0, v1, v2, v3, v4, v5, v6, v7, v8, v9, v10, v11]) (hW : WrAt w wa wb wo wn Ws) (hF : PcAt w fa fb fo fn Fl) (hs2 : d.small) (hs3 : wn ≤ 1048576) (hs5 : fn ≤ 1048576) (hk : key.size ≤ 1048576) :
    Calls Tryz.prog 8 #[.agg #[.slice pa pn pq, .string key, v0, v1, v2, v3, v4, v5, v6, v7, v8, v9, v10, v11, .slice wa wn wc, .slice fa fn fc, .string fg]] w fun e w' => RetB e (vWo ts key d wn Ws fn Fl) ∧ Below w.heap.size w w' := by
  obtain ⟨W, hWd⟩ : ∃ W, W = w.alloc (.cells #[.slice pa pn pq, .string key, v0, v1, v2, v3, v4, v5, v6, v7, v8, v9, v10, v11, .slice wa wn wc, .slice fa fn fc, .string fg] 51) := ⟨_, rfl⟩
  have B_0 : Below w.heap.size w W := by rw [hWd]; exact (Below.refl _ _).alloc (Nat.le_refl _) _
  have A_0 : MC W w.heap.size [.slice pa pn pq, .string key, v0, v1, v2, v3, v4, v5, v6, v7, v8, v9, v10, v11, .slice wa wn wc, .slice fa fn fc, .string fg] := by rw [hWd]; exact MC.made w _ _
  have l_0 : w.heap.size < W.heap.size := by rw [hWd]; simp
  obtain ⟨pA, hpA⟩ : ∃ q, q = w.heap.size := ⟨_, rfl⟩
  have hk0 : (key.size : Int) ≤ 1048576 := by omega
  have hw0 : (wn : Int) ≤ 1048576 := by omega
  have hf0 : (fn : Int) ≤ 1048576 := by omega
  obtain ⟨hh, hv2, _⟩ := hV
  have hwk : v0 = .int .i64 d.wk := by simp only [bvs, List.cons.injEq] at hv2; exact hv2.1
  have hV : BossV w d [v0, v1, v2, v3, v4, v5, v6, v7, v8, v9, v10, v11] := ⟨hh, hv2, by assumption⟩
  clear hv2
  subst hwk
  rw [← hpA] at A_0 l_0
  have z0 : W.cell? ⟨pA, 0, none⟩ = some (.slice pa pn pq) := A_0 0 (by simp)
  have HC := hid (specCheckPlan_any pa pb po pn pq ts W (hT.below' B_0))
  go_enter Tryz.func8, Tryz.ntmps8
  go_upto_region 1 with fail
  rw [← hWd, ← hpA]
  clear hWd hpA
  go_wp2_with fail
  refine HC.out.mono ?_
  rintro e x1 ⟨⟨c, rfl, hcode⟩, hb1⟩
  have B_1 := B_0.trans (hb1.mono B_0.size)
  have A_1 := A_0.below hb1 l_0
  have l_1 := Nat.lt_of_lt_of_le l_0 hb1.size
  clear B_0 HC z0 hb1 A_0 l_0
  by_cases hc0 : c = 0
  case neg =>
    have HN := hid (show ¬ vWo ts key d wn Ws fn Fl from fun hh => hc0 (hcode.one hh.2.2.1.code))
    have hc0' : (c == 0) = false := by simpa using hc0
    clear hcode
    go_wp2
    go_ret
    exact ⟨RetB.f HN.out, B_1⟩
  subst hc0
  clear hcode
  have z1 : x1.cell? ⟨pA, 1, none⟩ = some (.string key) := A_1 1 (by simp)
  have z14 : x1.cell? ⟨pA, 14, none⟩ = some (.slice wa wn wc) := A_1 14 (by simp)
  have z15 : x1.cell? ⟨pA, 15, none⟩ = some (.slice fa fn fc) := A_1 15 (by simp)
  by_cases hky : key.size ≤ 30
  case neg =>
    have hky' : (30 : Int) < (key.size : Int) := by omega
    have HN := hid (show ¬ vWo ts key d wn Ws fn Fl from fun hh => hky hh.1)
    go_wp2
    go_ret
    exact ⟨RetB.f HN.out, B_1⟩
  have hky' : ¬ (30 : Int) < (key.size : Int) := by omega
  have HKY := hid hky
  clear hky
  go_wp2_with fail
  refine (l2In_any _ _ _ _).mono ?_
  rintro e x9 ⟨rfl, hx9⟩
  rw [hx9]
  clear hx9
  cases hI : inB (wn : Int) 1 8 with
  | false =>
    have HN := hid (show ¬ vWo ts key d wn Ws fn Fl from fun hh => inB_f hI (by have := hh.2.2.1.wk; have := hh.2.1; omega))
    go_wp2
    go_ret
    exact ⟨RetB.f HN.out, B_1⟩
  | true =>
    clear hI
    by_cases hfl : fn ≤ 2000
    case neg =>
      have hfl' : (2000 : Int) < (fn : Int) := by omega
      have HN := hid (show ¬ vWo ts key d wn Ws fn Fl from fun hh => hfl hh.2.2.2.2.1)
      go_wp2
      go_ret
      exact ⟨RetB.f HN.out, B_1⟩
    have hfl' : ¬ (2000 : Int) < (fn : Int) := by omega
    have HFL := hid hfl
    clear hfl
    go_wp2
    go_loopw [3] (fun i wr => ∃ k : Nat, k ≤ wn ∧ i = .int .i64 k ∧ crewK Ws k ∧ Below x1.heap.size x1 wr) (fun i _ => wn - (intOf i).toNat)
    case atStart => exact ⟨0, Nat.zero_le _, rfl, fun j hj => absurd hj (by omega), Below.refl _ _⟩
    case round =>
      obtain ⟨k, hkn, rfl, hok, hb⟩ := hrel
      clear z1 z14 z15
      have B_2 := B_1.trans (hb.mono B_1.size)
      have A_2 := A_1.below hb l_1
      have l_2 := Nat.lt_of_lt_of_le l_1 hb.size
      have z14 : wr.cell? ⟨pA, 14, none⟩ = some (.slice wa wn wc) := A_2 14 (by simp)
      have hwt := hW.below' B_2
      by_cases hlt : k < wn
      · obtain rfl := hW.ad (by omega)
        have hc0 := hwt.c0 k hlt
        have hc1 := hwt.c1 k hlt
        have hc2 := hwt.c2 k hlt
        have hc3 := hwt.c3 k hlt
        have hc4 := hwt.c4 k hlt
        have hc5 := hwt.c5 k hlt
        have hc6 := hwt.c6 k hlt
        have hc7 := hwt.c7 k hlt
        have hc9 := hwt.c9 k hlt
        have hc10 := hwt.c10 k hlt
        obtain ⟨a3, b3, o3, c3, hc8, hst⟩ := hwt.cn k hlt
        obtain ⟨⟨nu, ep, up, st, le, ta, co, lf, ss, x, si⟩, hx⟩ : ∃ x, x = gWr Ws k := ⟨_, rfl⟩
        rw [← hx] at hc0 hc1 hc2 hc3 hc4 hc5 hc6 hc7 hc8 hc9 hc10 hst
        dsimp only at hc0 hc1 hc2 hc3 hc4 hc5 hc6 hc7 hc8 hc9 hc10 hst
        have hlt' : (k : Int) < (wn : Int) := by omega
        have HX := hid hx
        have HOK := hid hok
        clear hx hok hwt
        have HV := hid (sVal_any nu ep up st le ta co lf a3 b3 o3 ss.length c3 ss x si wr hst)
        clear hst
        go_wp2_with fail
        refine HV.out.mono ?_
        rintro e' x3 ⟨⟨rv, rfl, hrv⟩, hb3⟩
        have hb4 := hb.trans (hb3.mono hb.size)
        have B_4 := B_1.trans (hb4.mono B_1.size)
        have q0 := keepB hb3 hc0
        have q14 := keepB hb3 z14
        clear hb3 hc0 hc1 hc2 hc3 hc4 hc5 hc6 hc7 hc8 hc9 hc10 HV z14 A_2 l_2 B_2
        cases rv with
        | false =>
          have HN := hid (show ¬ vWo ts key d wn Ws fn Fl from fun hh => by have := (hh.2.2.2.1 k hlt).1; rw [← HX.out] at this; exact absurd (hrv.2 this) (by simp))
          clear hrv
          go_wp2
          go_ret
          exact ⟨RetB.f HN.out, B_4⟩
        | true =>
          have HR := hid (hrv.1 rfl)
          clear hrv
          by_cases hnu : nu = (k : Int) + 1
          · have HQ := hid (HOK.out.succ (by rw [← HX.out]; exact ⟨HR.out, hnu⟩))
            subst hnu
            clear HX HOK HR
            go_wp2
            go_roundw
            case rel => exact ⟨k + 1, by omega, by go_num, HQ.out, hb4⟩
            case measure => simp [intOf]; omega
          · have HN := hid (show ¬ vWo ts key d wn Ws fn Fl from fun hh => by have := (hh.2.2.2.1 k hlt).2; rw [← HX.out] at this; exact hnu this)
            have hnu' : (nu == (k : Int) + 1) = false := by simpa using hnu
            clear HX HOK HR
            go_wp2
            go_ret
            exact ⟨RetB.f HN.out, B_4⟩
      · obtain rfl : k = wn := by omega
        have HCR := hid hok
        clear hok hwt
        obtain ⟨x4, hx4⟩ : ∃ x4, x4 = wr := ⟨_, rfl⟩
        rw [← hx4] at B_2 A_2 l_2 z14 ⊢
        clear hx4 hb B_1 A_1 l_1
        have z15 : x4.cell? ⟨pA, 15, none⟩ = some (.slice fa fn fc) := A_2 15 (by simp)
        go_wp2
        go_loopw [4] (fun i wr => ∃ q : Nat, q ≤ fn ∧ i = .int .i64 q ∧ flK Fl q ∧ Below x4.heap.size x4 wr) (fun i _ => fn - (intOf i).toNat)
        case atStart => exact ⟨0, Nat.zero_le _, rfl, fun j hj => absurd hj (by omega), Below.refl _ _⟩
        case round =>
          obtain ⟨q, hqn, rfl, hok, hb⟩ := hrel
          clear z14 z15
          have B_3 := B_2.trans (hb.mono B_2.size)
          have A_3 := A_2.below hb l_2
          have l_3 := Nat.lt_of_lt_of_le l_2 hb.size
          have z15 : wr.cell? ⟨pA, 15, none⟩ = some (.slice fa fn fc) := A_3 15 (by simp)
          by_cases hlt : q < fn
          · obtain rfl := hF.ad (by omega)
            have hc0 := (hF.below' B_3).c0 q hlt
            have hc1 := (hF.below' B_3).c1 q hlt
            have hc2 := (hF.below' B_3).c2 q hlt
            obtain ⟨_, g1, g2⟩ := hF.rng q hlt
            obtain ⟨⟨x0, s1, s2⟩, hx⟩ : ∃ x, x = pc Fl q := ⟨_, rfl⟩
            rw [← hx] at hc0 hc1 hc2 g1 g2
            dsimp only at hc0 hc1 hc2 g1 g2
            unfold maxLen at g1 g2
            have HX := hid hx
            have HOK := hid hok
            clear hx hok
            have hlt' : (q : Int) < (fn : Int) := by omega
            have hb5 : Below x4.heap.size x4 (wr.alloc (.cells #[.int .i64 x0, .string s1, .string s2] 74)) := hb.alloc hb.size _
            have B_5 := B_2.trans (hb5.mono B_2.size)
            go_wp2_with fail
            refine (l2In_any _ _ _ _).mono ?_
            rintro e x9 ⟨rfl, hx9⟩
            rw [hx9]
            clear hx9 A_3 l_3 B_3 z15
            cases hE : inB x0 0 8 with
            | false =>
              have HN := hid (show ¬ vWo ts key d k Ws fn Fl from fun hh => inB_f hE (by have := (hh.2.2.2.2.2 q hlt).1; rw [← HX.out] at this; exact this))
              clear HX HOK
              go_wp2
              go_ret
              exact ⟨RetB.f HN.out, B_5⟩
            | true =>
              have HI := hid (inB_t hE)
              by_cases h5 : s1.size ≤ 500
              · have h5' : ¬ (500 : Int) < (s1.size : Int) := by omega
                by_cases h6 : s2.size ≤ 500
                · have h6' : ¬ (500 : Int) < (s2.size : Int) := by omega
                  have HQ := hid (HOK.out.succ (by rw [← HX.out]; exact ⟨HI.out, h5, h6⟩))
                  clear HX HOK HI hE
                  go_wp2
                  go_roundw
                  case rel => exact ⟨q + 1, by omega, by go_num, HQ.out, hb5⟩
                  case measure => simp [intOf]; omega
                · have h6' : (500 : Int) < (s2.size : Int) := by omega
                  have HN := hid (show ¬ vWo ts key d k Ws fn Fl from fun hh => h6 (by have := (hh.2.2.2.2.2 q hlt).2.2; rw [← HX.out] at this; exact this))
                  clear HX HOK HI hE
                  go_wp2
                  go_ret
                  exact ⟨RetB.f HN.out, B_5⟩
              · have h5' : (500 : Int) < (s1.size : Int) := by omega
                have HN := hid (show ¬ vWo ts key d k Ws fn Fl from fun hh => h5 (by have := (hh.2.2.2.2.2 q hlt).2.1; rw [← HX.out] at this; exact this))
                clear HX HOK HI hE
                go_wp2
                go_ret
                exact ⟨RetB.f HN.out, B_5⟩
          · obtain rfl : q = fn := by omega
            have HFK := hid hok
            clear hok
            have z0 : wr.cell? ⟨pA, 0, none⟩ = some (.slice pa pn pq) := A_3 0 (by simp)
            have z1 : wr.cell? ⟨pA, 1, none⟩ = some (.string key) := A_3 1 (by simp)
            have z2 : wr.cell? ⟨pA, 2, none⟩ = some (.int .i64 d.wk) := A_3 2 (by simp)
            have z3 : wr.cell? ⟨pA, 3, none⟩ = some (v1) := A_3 3 (by simp)
            have z4 : wr.cell? ⟨pA, 4, none⟩ = some (v2) := A_3 4 (by simp)
            have z5 : wr.cell? ⟨pA, 5, none⟩ = some (v3) := A_3 5 (by simp)
            have z6 : wr.cell? ⟨pA, 6, none⟩ = some (v4) := A_3 6 (by simp)
            have z7 : wr.cell? ⟨pA, 7, none⟩ = some (v5) := A_3 7 (by simp)
            have z8 : wr.cell? ⟨pA, 8, none⟩ = some (v6) := A_3 8 (by simp)
            have z9 : wr.cell? ⟨pA, 9, none⟩ = some (v7) := A_3 9 (by simp)
            have z10 : wr.cell? ⟨pA, 10, none⟩ = some (v8) := A_3 10 (by simp)
            have z11 : wr.cell? ⟨pA, 11, none⟩ = some (v9) := A_3 11 (by simp)
            have z12 : wr.cell? ⟨pA, 12, none⟩ = some (v10) := A_3 12 (by simp)
            have z13 : wr.cell? ⟨pA, 13, none⟩ = some (v11) := A_3 13 (by simp)
            have z14 : wr.cell? ⟨pA, 14, none⟩ = some (.slice wa k wc) := A_3 14 (by simp)
            by_cases hwn : d.wk = (k : Int)
            · have hwn' : (d.wk == (k : Int)) = true := by simpa using hwn
              have HB := hid (sValBV_any d (.int .i64 d.wk) v1 v2 v3 v4 v5 v6 v7 v8 v9 v10 v11 pa pb po pn pq ts wr (hV.below' B_3) (hT.below' B_3) hs2)
              have HWN := hid hwn
              clear hwn
              go_wp2_with fail
              refine HB.out.mono ?_
              rintro e x5 ⟨⟨r5, rfl, hr5⟩, hb5⟩
              have B_5 := B_3.trans (hb5.mono B_3.size)
              clear HB hb5 z0 z1 z2 z3 z4 z5 z6 z7 z8 z9 z10 z11 z12 z13 z14
              cases r5 with
              | false =>
                have HN := hid (show ¬ vWo ts key d k Ws q Fl from fun hh => absurd (hr5.2 hh.2.2.1) (by simp)) 
                clear hr5
                go_wp2
                go_ret
                exact ⟨RetB.f HN.out, B_5⟩
              | true =>
                have HQ := hid (show vWo ts key d k Ws q Fl from ⟨HKY.out, HWN.out.symm, hr5.1 rfl, HCR.out, HFL.out, HFK.out⟩)
                clear hr5
                go_wp2
                go_ret
                exact ⟨RetB.t HQ.out, B_5⟩
            · have hwn' : (d.wk == (k : Int)) = false := by simpa using hwn
              have HN := hid (show ¬ vWo ts key d k Ws q Fl from fun hh => hwn hh.2.1.symm)
              go_wp2
              go_ret
              exact ⟨RetB.f HN.out, B_3⟩
end Go.Proofs.YthopfmhagddhgaaGreat
