import Derived.Test.YthopfmhagddhgaaGreatQWls
import Derived.Test.YthopfmhagddhgaaGreatQWfi
import Derived.Test.YthopfmhagddhgaaGreatQTru2
namespace Go.Proofs.YthopfmhagddhgaaGreat
open Go.RowKit

/-- The result of task j is there and is not its truth. -/
def badAt (R T : List ByteArray) (j : Nat) : Prop := ¬ (R.getD j ByteArray.empty).size = 0 ∧ ¬ R.getD j ByteArray.empty = T.getD j ByteArray.empty
def noBad (R T : List ByteArray) (k : Nat) : Prop := ∀ j, j < k → ¬ badAt R T j
theorem noBad.succ {R T : List ByteArray} {k : Nat} (h : noBad R T k) (h1 : ¬ badAt R T k) : noBad R T (k + 1) := fun j hj => by
  by_cases e : j = k
  · subst e; exact h1
  · exact h j (by omega)
/-- What Wrong answers. -/
def wrg (ts : List TaskD) (key : ByteArray) (d : BD) (wn : Nat) (Ws : List WkD) (fn : Nat) (Fl : List Pc) (r : Int) : Prop :=
  (¬ vWo ts key d wn Ws fn Fl ∧ r = -1) ∨ (vWo ts key d wn Ws fn Fl ∧ ∃ E Q, rep ts (d.L1 ++ d.L2) (st0 ts.length) = some (E, Q) ∧ ((r = -1 ∧ noBad Q (trs ts ts.length) ts.length) ∨ ∃ j : Nat, r = j ∧ j < ts.length ∧ noBad Q (trs ts ts.length) j ∧ badAt Q (trs ts ts.length) j))
theorem wrg.one {ts : List TaskD} {key : ByteArray} {d : BD} {wn : Nat} {Ws : List WkD} {fn : Nat} {Fl : List Pc} {r r' : Int} (h : wrg ts key d wn Ws fn Fl r) (h' : wrg ts key d wn Ws fn Fl r') : r = r' := by
  rcases h with ⟨hn, rfl⟩ | ⟨hv, E, Q, hr, h⟩ <;> rcases h' with ⟨hn', rfl⟩ | ⟨hv', E', Q', hr', h'⟩
  · rfl
  · exact absurd hv' hn
  · exact absurd hv hn'
  · rw [hr] at hr'
    cases hr'
    rcases h with ⟨rfl, h⟩ | ⟨j, rfl, hj, h, hb⟩ <;> rcases h' with ⟨rfl, h'⟩ | ⟨j', rfl, hj', h', hb'⟩
    · rfl
    · exact absurd hb' (h j' hj')
    · exact absurd hb (h' j hj)
    · rcases Nat.lt_trichotomy j j' with hlt | rfl | hlt
      · exact absurd hb (h' j hlt)
      · rfl
      · exact absurd hb' (h j' hlt)
def RetW (e : Ending) (p : Int → Prop) : Prop := ∃ r : Int, e = .returned (.int .i64 r) ∧ p r
theorem trs_szK (ts : List TaskD) (k : Nat) : ∀ s ∈ trs ts k, s.size ≤ maxLen := by
  induction k with
  | zero => intro s hs; simp [trs] at hs
  | succ k ih =>
    intro s hs
    rw [trs, List.mem_append, List.mem_singleton] at hs
    rcases hs with hs | rfl
    · exact ih s hs
    · rw [valS_size]; unfold maxLen; omega
theorem sne0 {r s : ByteArray} (h : ¬ r = s) : (r.toList == s.toList) = false := beq_false_of_ne (fun hh => h (by
  obtain ⟨a⟩ := r
  obtain ⟨b⟩ := s
  rw [ByteArray.toList_eq, ByteArray.toList_eq] at hh
  have : a = b := Array.toList_inj.1 hh
  rw [this]))

/-- What is valid has its story. -/
theorem BD.ok.story {d : BD} {ts : List TaskD} (h : d.ok ts) {c E : Int} {R : List ByteArray} (hs : StoryIs ts (d.L1 ++ d.L2) c E R) : rep ts (d.L1 ++ d.L2) (st0 ts.length) = some (E, R) ∧ R.length = ts.length ∧ (∀ s ∈ R, s.size ≤ maxLen) ∧ ts.length ≤ 40 := by
  obtain ⟨h1, _, _, E', Q', hr, _⟩ := h
  rcases hs with ⟨hn, _⟩ | ⟨_, ⟨hn, _⟩ | ⟨hy, _⟩⟩
  · exact absurd h1 hn
  · rw [hr] at hn; cases hn
  · have hk := rep_ok _ (st0_ok ts.length) hy
    exact ⟨hy, hk.2.2.1, fun s hs => by have := hk.2.2.2 s hs; unfold maxLen; omega, (code0 h1.1).1.2⟩
theorem TruS.of {ts : List TaskD} {ss : List ByteArray} (h : TruS ts ss) (hc : Code ts 0) : ss = trs ts ts.length := by
  rcases h with ⟨_, h⟩ | ⟨h, _⟩
  · exact h
  · exact absurd hc h

set_option maxHeartbeats 4000000 in
set_option maxRecDepth 100000 in
theorem iWrg_any (pa : Option Addr) (pb po pn pq : Nat) (ts : List TaskD) (key : ByteArray) (d : BD) (v0 v1 v2 v3 v4 v5 v6 v7 v8 v9 v10 v11 : Value) (wa : Option Addr) (wb wo wn wc : Nat) (Ws : List WkD) (fa : Option Addr) (fb fo fn fc : Nat) (Fl : List Pc) (fg : ByteArray) (w : World) (hT : TasksAt w pa pb po pn ts) (hV : BossV w d [v0, v1, v2, v3, v4, v5, v6, v7, v8, v9, v10, v11]) (hW : WrAt w wa wb wo wn Ws) (hF : PcAt w fa fb fo fn Fl) (hs2 : d.small) (hs3 : wn ≤ 1048576) (hs5 : fn ≤ 1048576) (hk : key.size ≤ 1048576) :
    Calls Tryz.prog 15 #[.agg #[.slice pa pn pq, .string key, v0, v1, v2, v3, v4, v5, v6, v7, v8, v9, v10, v11, .slice wa wn wc, .slice fa fn fc, .string fg]] w fun e w' => RetW e (wrg ts key d wn Ws fn Fl) ∧ Below w.heap.size w w' := by
  have hLn : d.L1.length ≤ 1048576 ∧ d.L2.length ≤ 1048576 := by have := hs2; unfold BD.small at this; exact ⟨by omega, by omega⟩
  obtain ⟨hh, hv2, hMM⟩ := hV
  have hv : v6 = .slice hh.a1 d.L1.length hh.c1 ∧ v7 = .slice hh.a2 d.L2.length hh.c2 := by simp only [bvs, List.cons.injEq] at hv2; exact ⟨hv2.2.2.2.2.2.2.1, hv2.2.2.2.2.2.2.2.1⟩
  have hV : BossV w d [v0, v1, v2, v3, v4, v5, v6, v7, v8, v9, v10, v11] := ⟨hh, hv2, hMM⟩
  obtain ⟨l1, hl1⟩ : ∃ a, a = hh.a1 := ⟨_, rfl⟩
  obtain ⟨m1, hm1⟩ : ∃ a, a = hh.c1 := ⟨_, rfl⟩
  obtain ⟨l2, hl2⟩ : ∃ a, a = hh.a2 := ⟨_, rfl⟩
  obtain ⟨m2, hm2⟩ : ∃ a, a = hh.c2 := ⟨_, rfl⟩
  obtain ⟨⟨b1, o1, h1⟩, ⟨b2, o2, h2⟩, _⟩ := hMM
  rw [← hl1] at h1
  rw [← hl2] at h2
  rw [← hl1, ← hm1, ← hl2, ← hm2] at hv
  obtain ⟨e1, e8⟩ := hv
  clear hv2 hl1 hm1 hl2 hm2
  subst e1 e8
  obtain ⟨W, hWd⟩ : ∃ W, W = w.alloc (.cells #[.slice pa pn pq, .string key, v0, v1, v2, v3, v4, v5, .slice l1 d.L1.length m1, .slice l2 d.L2.length m2, v8, v9, v10, v11, .slice wa wn wc, .slice fa fn fc, .string fg] 51) := ⟨_, rfl⟩
  have B_0 : Below w.heap.size w W := by rw [hWd]; exact (Below.refl _ _).alloc (Nat.le_refl _) _
  have A_0 : CF W w.heap.size [.slice pa pn pq, .string key, v0, v1, v2, v3, v4, v5, .slice l1 d.L1.length m1, .slice l2 d.L2.length m2, v8, v9, v10, v11, .slice wa wn wc, .slice fa fn fc, .string fg] := by rw [hWd]; exact CF.made w _ _
  have l_0 : w.heap.size < W.heap.size := by rw [hWd]; simp
  obtain ⟨pA, hpA⟩ : ∃ q, q = w.heap.size := ⟨_, rfl⟩
  rw [← hpA] at A_0 l_0
  have HC := hid (iValW_any pa pb po pn pq ts key d v0 v1 v2 v3 v4 v5 (.slice l1 d.L1.length m1) (.slice l2 d.L2.length m2) v8 v9 v10 v11 wa wb wo wn wc Ws fa fb fo fn fc Fl fg W (hT.below' B_0) (hV.below' B_0) (hW.below' B_0) (hF.below' B_0) hs2 hs3 hs5 hk)
  go_enter Tryz.func15, Tryz.ntmps15
  go_upto_region 1 with fail
  rw [← hWd, ← hpA]
  clear hWd hpA
  go_wp2_with (first | (refine wpList_load_cf rfl 51 _ rfl pA [.slice pa pn pq, .string key, v0, v1, v2, v3, v4, v5, .slice l1 d.L1.length m1, .slice l2 d.L2.length m2, v8, v9, v10, v11, .slice wa wn wc, .slice fa fn fc, .string fg] _ rfl A_0 Tryz.underlying51 rfl (by kernel_rfl) ?_))
  refine HC.out.mono ?_
  rintro e x1 ⟨⟨r1, rfl, hr1⟩, hb⟩
  have B_1 := B_0.trans (hb.mono B_0.size)
  have A_1 := A_0.block (hb.block _ l_0)
  have l_1 := Nat.lt_of_lt_of_le l_0 hb.size
  clear hb A_0 B_0 l_0 HC hV hW hF
  cases r1 with
  | false =>
    have HN := hid (show wrg ts key d wn Ws fn Fl (-1) from .inl ⟨fun hh => absurd (hr1.2 hh) (by simp), rfl⟩)
    clear hr1
    go_wp2
    go_ret
    exact ⟨⟨_, rfl, HN.out⟩, B_1⟩
  | true =>
    have HV := hid (hr1.1 rfl)
    clear hr1
    have z0 : x1.cell? ⟨pA, 0, none⟩ = some (.slice pa pn pq) := (A_1 0 (by simp)).1
    have z8 : x1.cell? ⟨pA, 8, none⟩ = some (.slice l1 d.L1.length m1) := (A_1 8 (by simp)).1
    have z9 : x1.cell? ⟨pA, 9, none⟩ = some (.slice l2 d.L2.length m2) := (A_1 9 (by simp)).1
    have HS := hid (storyOf_any pa pb po pn pq ts l1 l2 b1 o1 d.L1.length m1 b2 o2 d.L2.length m2 d.L1 d.L2 x1 (hT.below' B_1) (h1.below' B_1) (h2.below' B_1) hLn.1 hLn.2)
    go_wp2_with fail
    refine HS.out.mono ?_
    rintro e x2 ⟨⟨c, E, Q, v, rfl, hst, hov⟩, hb⟩
    obtain ⟨hrep, hQl, hQs, h40⟩ := HV.out.2.2.1.story hst
    have HREP := hid hrep
    obtain ⟨ag, cg, rfl⟩ := hov.slc
    obtain ⟨bg, og, RQ, _⟩ := hov.statB hQs
    have B_2 := B_1.trans (hb.mono B_1.size)
    have A_2 := A_1.block (hb.block _ l_1)
    clear hb A_1 B_1 l_1 HS hst hrep hov z0 z8 z9 hQs
    have z0 : x2.cell? ⟨pA, 0, none⟩ = some (.slice pa pn pq) := (A_2 0 (by simp)).1
    have hfld : ∀ (a b : Int) (p : Option Addr) (n c : Nat) (w : World), (Instr.field 85 (.agg #[.int .i64 a, .int .i64 b, .slice p n c]) 2).run Tryz.prog w = .ok (.slice p n c) w := fun _ _ _ _ _ _ => by kernel_rfl
    have HT := hid (implTruth_any pa pb po pn pq ts x2 (hT.below' B_2))
    go_wp2_with fail
    refine HT.out.mono ?_
    rintro e x3 ⟨⟨v3, m, ss, rfl, htr, hot⟩, hb⟩
    obtain rfl := htr.of HV.out.2.2.1.code
    obtain ⟨at3, ct3, rfl⟩ := hot.slc
    obtain rfl : m = ts.length := by have := hot.len; rw [List.length_map, trs_length] at this; omega
    obtain ⟨bt, ot, RT, _⟩ := hot.statB (trs_szK ts _)
    have B_3 := B_2.trans (hb.mono B_2.size)
    have RQ3 := RQ.below' hb
    rw [hQl] at RQ3
    clear hb A_2 B_2 HT htr hot z0 RQ hT h1 h2
    obtain ⟨T, hTT⟩ : ∃ T, T = trs ts ts.length := ⟨_, rfl⟩
    rw [← hTT] at RT
    have HR : Hid (∀ r : Int, ((r = -1 ∧ noBad Q T ts.length) ∨ ∃ j : Nat, r = j ∧ j < ts.length ∧ noBad Q T j ∧ badAt Q T j) → wrg ts key d wn Ws fn Fl r) := fun r hh => .inr ⟨HV.out, E, Q, HREP.out, by rw [hTT] at hh; exact hh⟩
    clear hTT HREP HV
    obtain ⟨n, hn⟩ : ∃ n, n = ts.length := ⟨_, rfl⟩
    rw [← hn] at RT RQ3 h40 hQl HR
    have hQn : (Q.length : Int) = n := by omega
    have HQL := hid hQl
    rw [← hn]
    clear hn hQl
    go_wp2
    go_loop [20] (fun i => ∃ k : Nat, k ≤ n ∧ i = .int .i64 k ∧ noBad Q T k) (fun i => n - (intOf i).toNat)
    case atStart => exact ⟨0, Nat.zero_le _, rfl, fun j hj => absurd hj (by omega)⟩
    case round =>
      obtain ⟨k, hk2, rfl, hok⟩ := hrel
      by_cases hlt : k < n
      · obtain rfl := RQ3.ad (by omega)
        obtain rfl := RT.ad (by omega)
        have hc := RQ3.cell k hlt
        have ht := RT.cell k hlt
        obtain ⟨s, hs⟩ : ∃ s, s = Q.getD k ByteArray.empty := ⟨_, rfl⟩
        obtain ⟨u, hu⟩ : ∃ s, s = T.getD k ByteArray.empty := ⟨_, rfl⟩
        rw [← hs] at hc
        rw [← hu] at ht
        have hlt' : (k : Int) < (n : Int) := by omega
        by_cases h0 : s.size = 0
        · have HQ := hid (hok.succ (fun hh => hh.1 (by rw [← hs]; exact h0)))
          obtain rfl := fe0 h0
          clear hs hu hok h0
          go_wp2
          go_round
          case rel => exact ⟨k + 1, by omega, by go_num, HQ.out⟩
          case measure => simp [intOf]; omega
        · obtain ⟨e1, e2⟩ := fn0 h0
          by_cases h5 : s = u
          · have HQ := hid (hok.succ (fun hh => hh.2 (by rw [← hs, ← hu]; exact h5)))
            subst h5
            clear hs hu hok h0
            go_wp2
            go_round
            case rel => exact ⟨k + 1, by omega, by go_num, HQ.out⟩
            case measure => simp [intOf]; omega
          · have h5' := sne0 h5
            have HQ := hid (HR.out k (.inr ⟨k, rfl, hlt, hok, by rw [← hs]; exact h0, by rw [← hs, ← hu]; exact h5⟩))
            clear hs hu hok h0 h5
            go_wp2
            go_ret
            exact ⟨⟨_, rfl, HQ.out⟩, B_3⟩
      · have hkk : k = n := by omega
        have HQ := hid (HR.out (-1) (.inl ⟨rfl, hkk ▸ hok⟩))
        have hge : ¬ (k : Int) < (n : Int) := by omega
        clear hok hkk
        go_wp2
        go_ret
        exact ⟨⟨_, rfl, HQ.out⟩, B_3⟩
end Go.Proofs.YthopfmhagddhgaaGreat
