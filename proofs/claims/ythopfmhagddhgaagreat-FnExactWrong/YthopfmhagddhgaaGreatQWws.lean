import Derived.Test.YthopfmhagddhgaaGreatQWwg
import Derived.Test.YthopfmhagddhgaaGreatQBsj
import Derived.Test.YthopfmhagddhgaaGreatQRSp
namespace Go.Proofs.YthopfmhagddhgaaGreat
open Go.RowKit

set_option maxHeartbeats 4000000 in
set_option maxRecDepth 100000 in
theorem sWrg_any (pa : Option Addr) (pb po pn pq : Nat) (ts : List TaskD) (key : ByteArray) (d : BD) (v0 v1 v2 v3 v4 v5 v6 v7 v8 v9 v10 v11 : Value) (wa : Option Addr) (wb wo wn wc : Nat) (Ws : List WkD) (fa : Option Addr) (fb fo fn fc : Nat) (Fl : List Pc) (fg : ByteArray) (w : World) (hT : TasksAt w pa pb po pn ts) (hV : BossV w d [v0, v1, v2, v3, v4, v5, v6, v7, v8, v9, v10, v11]) (hW : WrAt w wa wb wo wn Ws) (hF : PcAt w fa fb fo fn Fl) (hs2 : d.small) (hs3 : wn ≤ 1048576) (hs5 : fn ≤ 1048576) (hk : key.size ≤ 1048576) :
    Calls Tryz.prog 14 #[.agg #[.slice pa pn pq, .string key, v0, v1, v2, v3, v4, v5, v6, v7, v8, v9, v10, v11, .slice wa wn wc, .slice fa fn fc, .string fg]] w fun e w' => RetW e (wrg ts key d wn Ws fn Fl) ∧ Below w.heap.size w w' := by
  have hLn : d.L1.length ≤ 1048576 ∧ d.L2.length ≤ 1048576 ∧ d.L1.length + d.L2.length ≤ 1048576 := by have := hs2; unfold BD.small at this; exact ⟨by omega, by omega, by omega⟩
  obtain ⟨hh, hv2, hMM⟩ := hV
  have hv : v6 = .slice hh.a1 d.L1.length hh.c1 ∧ v7 = .slice hh.a2 d.L2.length hh.c2 := by simp only [bvs, List.cons.injEq] at hv2; exact ⟨hv2.2.2.2.2.2.2.1, hv2.2.2.2.2.2.2.2.1⟩
  have hV : BossV w d [v0, v1, v2, v3, v4, v5, v6, v7, v8, v9, v10, v11] := ⟨hh, hv2, hMM⟩
  obtain ⟨l1, hl1⟩ : ∃ a, a = hh.a1 := ⟨_, rfl⟩
  obtain ⟨m1, hm1⟩ : ∃ a, a = hh.c1 := ⟨_, rfl⟩
  obtain ⟨l2, hl2⟩ : ∃ a, a = hh.a2 := ⟨_, rfl⟩
  obtain ⟨m2, hm2⟩ : ∃ a, a = hh.c2 := ⟨_, rfl⟩
  obtain ⟨⟨b1, o1, h1⟩, ⟨b2, o2, h2⟩, _⟩ := hMM
  rw [← hl1] at h1
  rw [← hl2] at h2
  rw [← hl1, ← hm1, ← hl2, ← hm2] at hv
  obtain ⟨e1, e8⟩ := hv
  clear hv2 hl1 hm1 hl2 hm2
  subst e1 e8
  obtain ⟨W, hWd⟩ : ∃ W, W = w.alloc (.cells #[.slice pa pn pq, .string key, v0, v1, v2, v3, v4, v5, .slice l1 d.L1.length m1, .slice l2 d.L2.length m2, v8, v9, v10, v11, .slice wa wn wc, .slice fa fn fc, .string fg] 51) := ⟨_, rfl⟩
  have B_0 : Below w.heap.size w W := by rw [hWd]; exact (Below.refl _ _).alloc (Nat.le_refl _) _
  have A_0 : CF W w.heap.size [.slice pa pn pq, .string key, v0, v1, v2, v3, v4, v5, .slice l1 d.L1.length m1, .slice l2 d.L2.length m2, v8, v9, v10, v11, .slice wa wn wc, .slice fa fn fc, .string fg] := by rw [hWd]; exact CF.made w _ _
  have l_0 : w.heap.size < W.heap.size := by rw [hWd]; simp
  obtain ⟨pA, hpA⟩ : ∃ q, q = w.heap.size := ⟨_, rfl⟩
  rw [← hpA] at A_0 l_0
  have HC := hid (sValW_any pa pb po pn pq ts key d v0 v1 v2 v3 v4 v5 (.slice l1 d.L1.length m1) (.slice l2 d.L2.length m2) v8 v9 v10 v11 wa wb wo wn wc Ws fa fb fo fn fc Fl fg W (hT.below' B_0) (hV.below' B_0) (hW.below' B_0) (hF.below' B_0) hs2 hs3 hs5 hk)
  go_enter Tryz.func14, Tryz.ntmps14
  go_upto_region 1 with fail
  rw [← hWd, ← hpA]
  clear hWd hpA
  go_wp2_with (first | (refine wpList_load_cf rfl 51 _ rfl pA [.slice pa pn pq, .string key, v0, v1, v2, v3, v4, v5, .slice l1 d.L1.length m1, .slice l2 d.L2.length m2, v8, v9, v10, v11, .slice wa wn wc, .slice fa fn fc, .string fg] _ rfl A_0 Tryz.underlying51 rfl (by kernel_rfl) ?_))
  refine HC.out.mono ?_
  rintro e x1 ⟨⟨r1, rfl, hr1⟩, hb⟩
  have B_1 := B_0.trans (hb.mono B_0.size)
  have A_1 := A_0.block (hb.block _ l_0)
  have l_1 := Nat.lt_of_lt_of_le l_0 hb.size
  clear hb A_0 B_0 l_0 HC hV hW hF
  cases r1 with
  | false =>
    have HN := hid (show wrg ts key d wn Ws fn Fl (-1) from .inl ⟨fun hh => absurd (hr1.2 hh) (by simp), rfl⟩)
    clear hr1
    go_wp2
    go_ret
    exact ⟨⟨_, rfl, HN.out⟩, B_1⟩
  | true =>
    have HV := hid (hr1.1 rfl)
    clear hr1
    have z0 : x1.cell? ⟨pA, 0, none⟩ = some (.slice pa pn pq) := (A_1 0 (by simp)).1
    have HT := hid (specTruth_any pa pb po pn pq ts x1 (hT.below' B_1))
    go_wp2_with fail
    refine HT.out.mono ?_
    rintro e x2 ⟨⟨v3, m, ss, rfl, htr, hot⟩, hb⟩
    obtain rfl := htr.of HV.out.2.2.1.code
    obtain ⟨at3, ct3, rfl⟩ := hot.slc
    obtain rfl : m = ts.length := by have := hot.len; rw [List.length_map, trs_length] at this; omega
    obtain ⟨bt, ot, RT, _⟩ := hot.statB (trs_szK ts _)
    have B_2 := B_1.trans (hb.mono B_1.size)
    have A_2 := A_1.block (hb.block _ l_1)
    clear hb A_1 B_1 l_1 HT htr hot z0
    have z0 : x2.cell? ⟨pA, 0, none⟩ = some (.slice pa pn pq) := (A_2 0 (by simp)).1
    have z8 : x2.cell? ⟨pA, 8, none⟩ = some (.slice l1 d.L1.length m1) := (A_2 8 (by simp)).1
    have z9 : x2.cell? ⟨pA, 9, none⟩ = some (.slice l2 d.L2.length m2) := (A_2 9 (by simp)).1
    have hfld : ∀ (a b : Int) (p : Option Addr) (n c : Nat) (w : World), (Instr.field 85 (.agg #[.int .i64 a, .int .i64 b, .slice p n c]) 2).run Tryz.prog w = .ok (.slice p n c) w := fun _ _ _ _ _ _ => by kernel_rfl
    have HL := hid (l4All_any l1 l2 b1 o1 d.L1.length m1 b2 o2 d.L2.length m2 d.L1 d.L2 x2.drew (h1.below' B_2.drew) (h2.below' B_2.drew) hLn.1 hLn.2.1)
    have hT2 := hT.below' B_2.drew
    have hz12 : ∀ s ∈ d.L1 ++ d.L2, s.size ≤ maxLen := fun s hs => by
      rcases List.mem_append.1 hs with hs | hs
      · exact h1.sz s hs
      · exact h2.sz s hs
    have HLn := hid hLn.2.2
    have hLl : (d.L1 ++ d.L2).length = d.L1.length + d.L2.length := List.length_append
    clear hT h1 h2 A_2 hLn
    have HZ := hid hz12
    have HLL := hid hLl
    clear hz12 hLl
    go_upto_region 4 with fail
    go_region_held3 (fun w' => w'.cell? ⟨pA, 0, none⟩ = some (.slice pa pn pq) ∧ w'.cell? ⟨pA, 8, none⟩ = some (.slice l1 d.L1.length m1) ∧ w'.cell? ⟨pA, 9, none⟩ = some (.slice l2 d.L2.length m2)) (first | (simp [go_sem, *]; done) | assumption)
      (first
        | (go_at_call 43; refine HL.out.mono ?_; rintro e x3 ⟨⟨va, rfl, hoa⟩, hb3⟩; obtain ⟨aa, ca, rfl⟩ := hoa.slc; have y0 := keepC hb3 z0; have y8 := keepC hb3 z8; have y9 := keepC hb3 z9; obtain ⟨ba, oa, RA, _⟩ := hoa.statB HZ.out; have hT3 := hT2.below' hb3)
        | (go_at_call 42; refine (specReplay_any pa pb po pn pq ts aa ba oa (d.L1.length + d.L2.length) ca (d.L1 ++ d.L2) _ hT3 RA HLn.out).mono ?_; rintro e x4 ⟨⟨c, E, Q, vq, rfl, hst, hov⟩, hb4⟩; obtain ⟨ag, cg, rfl⟩ := hov.slc; have w0 := keepB hb4 y0; have w8 := keepB hb4 y8; have w9 := keepB hb4 y9))
    have hb24 : Below x2.heap.size x2 x4 := ((Below.refl _ _).drew.trans hb3).trans (hb4.mono hb3.size)
    obtain ⟨hrep, hQl, hQs, h40⟩ := HV.out.2.2.1.story hst
    have HREP := hid hrep
    obtain ⟨bg, og, RQ, _⟩ := hov.statB hQs
    have B_4 := B_2.trans (hb24.mono B_2.size)
    have RT4 := RT.below' hb24
    rw [hQl] at RQ
    clear hb24 hb3 hb4 z0 z8 z9 y0 y8 y9 w0 w8 w9 hst hrep hov hQs hoa RA hT2 hT3 HL RT B_2
    obtain ⟨T, hTT⟩ : ∃ T, T = trs ts ts.length := ⟨_, rfl⟩
    rw [← hTT] at RT4
    have HR : Hid (∀ r : Int, ((r = -1 ∧ noBad Q T ts.length) ∨ ∃ j : Nat, r = j ∧ j < ts.length ∧ noBad Q T j ∧ badAt Q T j) → wrg ts key d wn Ws fn Fl r) := fun r hh => .inr ⟨HV.out, E, Q, HREP.out, by rw [hTT] at hh; exact hh⟩
    clear hTT HREP HV
    have hQl' : Q.length = ts.length := hQl
    obtain ⟨n, hn⟩ : ∃ n, n = ts.length := ⟨_, rfl⟩
    rw [hQl, ← hn]
    rw [← hn] at RT4 RQ h40 HR
    clear hn hQl hQl'
    go_wp2
    go_loopw [5] (fun i wr => ∃ k : Nat, k ≤ n ∧ i = .int .i64 k ∧ noBad Q T k ∧ Below x4.heap.size x4 wr) (fun i _ => n - (intOf i).toNat)
    case atStart => exact ⟨0, Nat.zero_le _, rfl, fun j hj => absurd hj (by omega), Below.refl _ _⟩
    case round =>
      obtain ⟨k, hk2, rfl, hok, hb⟩ := hrel
      have B_5 := B_4.trans (hb.mono B_4.size)
      by_cases hlt : k < n
      · have hc := (RQ.below' hb).cell k hlt
        have ht := (RT4.below' hb).cell k hlt
        obtain rfl := RQ.ad (by omega)
        obtain rfl := RT4.ad (by omega)
        obtain ⟨s, hs⟩ : ∃ s, s = Q.getD k ByteArray.empty := ⟨_, rfl⟩
        obtain ⟨u, hu⟩ : ∃ s, s = T.getD k ByteArray.empty := ⟨_, rfl⟩
        rw [← hs] at hc
        rw [← hu] at ht
        have hlt' : (k : Int) < (n : Int) := by omega
        have hbd : Below x4.heap.size x4 wr.drew := hb.drew
        by_cases h0 : s.size = 0
        · have HQ := hid (hok.succ (fun hh => hh.1 (by rw [← hs]; exact h0)))
          obtain rfl := fe0 h0
          clear hs hu hok h0
          go_upto_region 8 with fail
          go_quiet (fail)
          go_wp2
          go_roundw
          case rel => exact ⟨k + 1, by omega, by go_num, HQ.out, below_drewN hb _⟩
          case measure => simp [intOf]; omega
        · obtain ⟨e1, e2⟩ := fn0 h0
          by_cases h5 : s = u
          · have HQ := hid (hok.succ (fun hh => hh.2 (by rw [← hs, ← hu]; exact h5)))
            subst h5
            clear hs hu hok h0
            go_upto_region 8 with fail
            go_region_held3 (fun w' => w'.cell? ⟨bg, og + k, none⟩ = some (.string s) ∧ w'.cell? ⟨bt, ot + k, none⟩ = some (.string s)) (first | (simp [go_sem, *]; done) | assumption) (fail)
            go_wp2
            go_roundw
            case rel => exact ⟨k + 1, by omega, by go_num, HQ.out, hbd⟩
            case measure => simp [intOf]; omega
          · have h5' := sne0 h5
            have HQ := hid (HR.out k (.inr ⟨k, rfl, hlt, hok, by rw [← hs]; exact h0, by rw [← hs, ← hu]; exact h5⟩))
            have B_6 := B_4.trans (hbd.mono B_4.size)
            clear hs hu hok h0 h5
            go_upto_region 8 with fail
            go_region_held3 (fun w' => w'.cell? ⟨bg, og + k, none⟩ = some (.string s) ∧ w'.cell? ⟨bt, ot + k, none⟩ = some (.string u)) (first | (simp [go_sem, *]; done) | assumption) (fail)
            go_wp2
            go_ret
            exact ⟨⟨_, rfl, HQ.out⟩, B_6⟩
      · have hkk : k = n := by omega
        have HQ := hid (HR.out (-1) (.inl ⟨rfl, hkk ▸ hok⟩))
        have hge : ¬ (k : Int) < (n : Int) := by omega
        clear hok hkk
        go_wp2
        go_ret
        exact ⟨⟨_, rfl, HQ.out⟩, B_5⟩
end Go.Proofs.YthopfmhagddhgaaGreat
