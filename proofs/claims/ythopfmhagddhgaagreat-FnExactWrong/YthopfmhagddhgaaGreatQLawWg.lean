import Derived.Test.YthopfmhagddhgaaGreatQWws
import Derived.Test.YthopfmhagddhgaaGreatQWpr
namespace Go.Proofs.YthopfmhagddhgaaGreat
open Go.RowKit

set_option maxHeartbeats 4000000 in
set_option maxRecDepth 100000 in
theorem fnExactWrong_walk (pa : Option Addr) (pb po pn pq : Nat) (ts : List TaskD) (key : ByteArray) (d : BD) (v0 v1 v2 v3 v4 v5 v6 v7 v8 v9 v10 v11 : Value) (wa : Option Addr) (wb wo wn wc : Nat) (Ws : List WkD) (fa : Option Addr) (fb fo fn fc : Nat) (Fl : List Pc) (fg : ByteArray) (w : World) (hT : TasksAt w pa pb po pn ts) (hV : BossV w d [v0, v1, v2, v3, v4, v5, v6, v7, v8, v9, v10, v11]) (hW : WrAt w wa wb wo wn Ws) (hF : PcAt w fa fb fo fn Fl) (hk : key.size ≤ maxLen) (hg : fg.size ≤ maxLen) :
    Calls Tryz.prog 5 #[.agg #[.slice pa pn pq, .string key, v0, v1, v2, v3, v4, v5, v6, v7, v8, v9, v10, v11, .slice wa wn wc, .slice fa fn fc, .string fg]] w fun e w' => e = .returned (.bool true) ∧ Below w.heap.size w w' := by
  obtain ⟨W, hWd⟩ : ∃ W, W = w.alloc (.cells #[.slice pa pn pq, .string key, v0, v1, v2, v3, v4, v5, v6, v7, v8, v9, v10, v11, .slice wa wn wc, .slice fa fn fc, .string fg] 36) := ⟨_, rfl⟩
  have B_0 : Below w.heap.size w W := by rw [hWd]; exact (Below.refl _ _).alloc (Nat.le_refl _) _
  have A_0 : CF W w.heap.size [.slice pa pn pq, .string key, v0, v1, v2, v3, v4, v5, v6, v7, v8, v9, v10, v11, .slice wa wn wc, .slice fa fn fc, .string fg] := by rw [hWd]; exact CF.made w _ _
  have l_0 : w.heap.size < W.heap.size := by rw [hWd]; simp
  obtain ⟨pA, hpA⟩ : ∃ q, q = w.heap.size := ⟨_, rfl⟩
  rw [← hpA] at A_0 l_0
  have HC := hid (szWorld_any pa pb po pn pq ts key d v0 v1 v2 v3 v4 v5 v6 v7 v8 v9 v10 v11 wa wb wo wn wc Ws fa fb fo fn fc Fl fg W (hT.below' B_0) (hV.below' B_0) (hW.below' B_0) (hF.below' B_0) hk hg)
  go_enter Tryz.func5, Tryz.ntmps5
  go_upto_region 1 with fail
  rw [← hWd, ← hpA]
  clear hWd hpA
  go_wp2_with (first | (refine wpList_load_cf rfl 36 _ rfl pA [.slice pa pn pq, .string key, v0, v1, v2, v3, v4, v5, v6, v7, v8, v9, v10, v11, .slice wa wn wc, .slice fa fn fc, .string fg] _ rfl A_0 Tryz.underlying36 rfl (by kernel_rfl) ?_))
  refine HC.out.mono ?_
  rintro e x1 ⟨⟨r, rfl, hr⟩, hb⟩
  have B_1 := B_0.trans (hb.mono B_0.size)
  have A_1 := A_0.block (hb.block _ l_0)
  have l_1 := Nat.lt_of_lt_of_le l_0 hb.size
  clear B_0 A_0 l_0 hb HC
  rcases hr with rfl | ⟨hr0, hsm⟩
  · go_wp2
    go_ret
    exact ⟨rfl, B_1⟩
  have HS := hid hsm
  clear hsm
  have HC := hid (toWorld_any pa pb po pn pq ts key d v0 v1 v2 v3 v4 v5 v6 v7 v8 v9 v10 v11 wa wb wo wn wc Ws fa fb fo fn fc Fl fg x1 (hT.below' B_1) (hV.below' B_1) (hW.below' B_1) (hF.below' B_1) HS.out)
  go_wp2_with (first | (refine wpList_load_cf rfl 36 _ rfl pA [.slice pa pn pq, .string key, v0, v1, v2, v3, v4, v5, v6, v7, v8, v9, v10, v11, .slice wa wn wc, .slice fa fn fc, .string fg] _ rfl A_1 Tryz.underlying36 rfl (by kernel_rfl) ?_))
  refine HC.out.mono ?_
  rintro e x2 ⟨⟨vs, rfl, han⟩, hb⟩
  obtain ⟨gp1, gw1, gf1, a0, a1, a2, a3, a4, a5, a6, a7, a8, a9, a10, a11, rfl, T1, V1, W1, F1, _⟩ := han
  have B_2 := B_1.trans (hb.mono B_1.size)
  have A_2 := A_1.block (hb.block _ l_1)
  have l_2 := Nat.lt_of_lt_of_le l_1 hb.size
  clear B_1 A_1 l_1 hb HC
  have HC := hid (sWrg_any (some ⟨gp1, 0, none⟩) gp1 0 pn pn ts key d a0 a1 a2 a3 a4 a5 a6 a7 a8 a9 a10 a11 (some ⟨gw1, 0, none⟩) gw1 0 wn wn Ws (some ⟨gf1, 0, none⟩) gf1 0 fn fn Fl fg x2 T1 V1 W1 F1 HS.out.2.1 HS.out.2.2.1 HS.out.2.2.2.2.1 HS.out.2.2.2.2.2.1)
  clear T1 V1 W1 F1
  go_wp2_with fail
  refine HC.out.mono ?_
  rintro e x3 ⟨⟨r1, rfl, hr1⟩, hb⟩
  have B_3 := B_2.trans (hb.mono B_2.size)
  have A_3 := A_2.block (hb.block _ l_2)
  have l_3 := Nat.lt_of_lt_of_le l_2 hb.size
  clear B_2 A_2 l_2 hb HC
  have HR1 := hid hr1
  clear hr1
  have HC := hid (toWorld_any pa pb po pn pq ts key d v0 v1 v2 v3 v4 v5 v6 v7 v8 v9 v10 v11 wa wb wo wn wc Ws fa fb fo fn fc Fl fg x3 (hT.below' B_3) (hV.below' B_3) (hW.below' B_3) (hF.below' B_3) HS.out)
  go_wp2_with (first | (refine wpList_load_cf rfl 36 _ rfl pA [.slice pa pn pq, .string key, v0, v1, v2, v3, v4, v5, v6, v7, v8, v9, v10, v11, .slice wa wn wc, .slice fa fn fc, .string fg] _ rfl A_3 Tryz.underlying36 rfl (by kernel_rfl) ?_))
  refine HC.out.mono ?_
  rintro e x4 ⟨⟨vs, rfl, han⟩, hb⟩
  obtain ⟨gp2, gw2, gf2, b0, b1, b2, b3, b4, b5, b6, b7, b8, b9, b10, b11, rfl, T2, V2, W2, F2, _⟩ := han
  have B_4 := B_3.trans (hb.mono B_3.size)
  have A_4 := A_3.block (hb.block _ l_3)
  have l_4 := Nat.lt_of_lt_of_le l_3 hb.size
  clear B_3 A_3 l_3 hb HC
  have h1v := V2.one
  have h1r : ∀ v ∈ [.slice (some ⟨gp2, 0, none⟩) pn pn, .string key, b0, b1, b2, b3, b4, b5, b6, b7, b8, b9, b10, b11, .slice (some ⟨gw2, 0, none⟩) wn wn, .slice (some ⟨gf2, 0, none⟩) fn fn, .string fg], Value.oneCell' v = true := by
    intro v hv
    simp only [List.mem_cons, List.not_mem_nil, or_false] at hv
    have h1u' := fun v hv => h1v v hv
    simp only [List.mem_cons, List.not_mem_nil, or_false] at h1u'
    rcases hv with rfl | rfl | hv | hv | hv | hv | hv | hv | hv | hv | hv | hv | hv | hv | rfl | rfl | rfl
    · rfl
    · rfl
    all_goals first
      | exact h1u' v (by simp [hv])
      | rfl
  have hcz : CF (x4.alloc (.cells #[.slice none 0 0, .string ⟨#[]⟩, .int .i64 0, .bool false, .int .i64 0, .int .i64 0, .int .i64 0, .int .i64 0, .slice none 0 0, .slice none 0 0, .slice none 0 0, .slice none 0 0, .slice none 0 0, .slice none 0 0, .slice none 0 0, .slice none 0 0, .string ⟨#[]⟩] 51)) x4.heap.size [.slice none 0 0, .string ⟨#[]⟩, .int .i64 0, .bool false, .int .i64 0, .int .i64 0, .int .i64 0, .int .i64 0, .slice none 0 0, .slice none 0 0, .slice none 0 0, .slice none 0 0, .slice none 0 0, .slice none 0 0, .slice none 0 0, .slice none 0 0, .string ⟨#[]⟩] := CF.made x4 _ _
  clear h1v
  go_upto_region 7 with (refine wpList_store_cf rfl 51 _ _ rfl x4.heap.size [.slice none 0 0, .string ⟨#[]⟩, .int .i64 0, .bool false, .int .i64 0, .int .i64 0, .int .i64 0, .int .i64 0, .slice none 0 0, .slice none 0 0, .slice none 0 0, .slice none 0 0, .slice none 0 0, .slice none 0 0, .slice none 0 0, .slice none 0 0, .string ⟨#[]⟩] [.slice (some ⟨gp2, 0, none⟩) pn pn, .string key, b0, b1, b2, b3, b4, b5, b6, b7, b8, b9, b10, b11, .slice (some ⟨gw2, 0, none⟩) wn wn, .slice (some ⟨gf2, 0, none⟩) fn fn, .string fg] rfl rfl hcz rfl (by kernel_rfl) h1r ?_; intro x5 X_5 hg5)
  have hb5 : Below x4.heap.size x4 x5 := ((Below.refl _ _).alloc (Nat.le_refl _) _).grown hg5 (by simp) (fun q hq => by injection hq with hq; omega)
  have m_5 : x4.heap.size < x5.heap.size := by have := hg5.size; simp at this; omega
  have B_5 := B_4.trans (hb5.mono B_4.size)
  have A_5 := A_4.block (hb5.block _ l_4)
  have l_5 := Nat.lt_of_lt_of_le l_4 hb5.size
  have T5 := T2.below' hb5
  have V5 := V2.below' hb5
  have W5 := W2.below' hb5
  have F5 := F2.below' hb5
  obtain ⟨pX, hpX⟩ : ∃ q, q = x4.heap.size := ⟨_, rfl⟩
  rw [← hpX] at X_5 m_5
  rw [← hpX]
  clear hpX hb5 hg5 hcz h1r B_4 A_4 l_4 T2 V2 W2 F2
  have HC := hid (iWrg_any (some ⟨gp2, 0, none⟩) gp2 0 pn pn ts key d b0 b1 b2 b3 b4 b5 b6 b7 b8 b9 b10 b11 (some ⟨gw2, 0, none⟩) gw2 0 wn wn Ws (some ⟨gf2, 0, none⟩) gf2 0 fn fn Fl fg x5 T5 V5 W5 F5 HS.out.2.1 HS.out.2.2.1 HS.out.2.2.2.2.1 HS.out.2.2.2.2.2.1)
  go_wp2_with (first | (refine wpList_load_cf rfl 51 _ rfl pX [.slice (some ⟨gp2, 0, none⟩) pn pn, .string key, b0, b1, b2, b3, b4, b5, b6, b7, b8, b9, b10, b11, .slice (some ⟨gw2, 0, none⟩) wn wn, .slice (some ⟨gf2, 0, none⟩) fn fn, .string fg] _ rfl X_5 Tryz.underlying51 rfl (by kernel_rfl) ?_))
  refine HC.out.mono ?_
  rintro e x6 ⟨⟨r2, rfl, hr2⟩, hb⟩
  have B_6 := B_5.trans (hb.mono B_5.size)
  have A_6 := A_5.block (hb.block _ l_5)
  have X_6 := X_5.block (hb.block _ m_5)
  have l_6 := Nat.lt_of_lt_of_le l_5 hb.size
  have m_6 := Nat.lt_of_lt_of_le m_5 hb.size
  have T6 := T5.below' hb
  have V6 := V5.below' hb
  have W6 := W5.below' hb
  have F6 := F5.below' hb
  clear B_5 A_5 X_5 l_5 m_5 T5 V5 W5 F5 hb HC
  obtain rfl : r2 = r1 := hr2.one HR1.out
  clear hr2 HR1
  have hrr : (r2 != r2) = false := by simp
  have hS0 : CF x6.drew pX [.slice (some ⟨gp2, 0, none⟩) pn pn, .string key, b0, b1, b2, b3, b4, b5, b6, b7, b8, b9, b10, b11, .slice (some ⟨gw2, 0, none⟩) wn wn, .slice (some ⟨gf2, 0, none⟩) fn fn, .string fg] ∧ CF x6.drew pA [.slice pa pn pq, .string key, v0, v1, v2, v3, v4, v5, v6, v7, v8, v9, v10, v11, .slice wa wn wc, .slice fa fn fc, .string fg] := ⟨X_6, A_6⟩
  have HT : Hid (Calls Tryz.prog 9 #[.agg #[.slice pa pn pq, .string key, v0, v1, v2, v3, v4, v5, v6, v7, v8, v9, v10, v11, .slice wa wn wc, .slice fa fn fc, .string fg]] x6.drew fun e w' => ∃ v, e = .returned v ∧ ((∃ vs, v = .agg vs.toArray ∧ WAns w' x6.drew.heap.size vs pn ts key d wn Ws fn Fl fg) ∧ Below x6.drew.heap.size x6.drew w')) := by
    refine (toWorld_any pa pb po pn pq ts key d v0 v1 v2 v3 v4 v5 v6 v7 v8 v9 v10 v11 wa wb wo wn wc Ws fa fb fo fn fc Fl fg x6.drew (hT.below' B_6.drew) (hV.below' B_6.drew) (hW.below' B_6.drew) (hF.below' B_6.drew) HS.out).mono ?_
    rintro e w' ⟨⟨vs, rfl, han⟩, hb⟩
    exact ⟨_, rfl, ⟨vs, rfl, han⟩, hb⟩
  go_upto_region 10 with fail
  refine wp_region_held (S := fun w' => CF w' pX [.slice (some ⟨gp2, 0, none⟩) pn pn, .string key, b0, b1, b2, b3, b4, b5, b6, b7, b8, b9, b10, b11, .slice (some ⟨gw2, 0, none⟩) wn wn, .slice (some ⟨gf2, 0, none⟩) fn fn, .string fg] ∧ CF w' pA [.slice pa pn pq, .string key, v0, v1, v2, v3, v4, v5, v6, v7, v8, v9, v10, v11, .slice wa wn wc, .slice fa fn fc, .string fg]) (by kernel_rfl) ?_
  change wpAnyH _ _ _ _ _ _ _ _ (World.drew _)
  refine hTake (i := 0) (d := some 22) (v := .agg #[.slice (some ⟨gp2, 0, none⟩) pn pn, .string key, b0, b1, b2, b3, b4, b5, b6, b7, b8, b9, b10, b11, .slice (some ⟨gw2, 0, none⟩) wn wn, .slice (some ⟨gf2, 0, none⟩) fn fn, .string fg]) (l' := #[true, false, false, false, false]) rfl (by kernel_rfl) (by kernel_rfl) (by kernel_rfl) (by kernel_rfl) (fun _ _ _ h => h) (by kernel_rfl) (fun _ hc => run_ldT 51 _ _ (.tmp 5) (by kernel_rfl) (by kernel_rfl) hc.1 Tryz.underlying51 rfl (by kernel_rfl)) hS0 (by kernel_rfl) ?_
  refine hTake (i := 1) (d := some 23) (v := .agg #[.slice pa pn pq, .string key, v0, v1, v2, v3, v4, v5, v6, v7, v8, v9, v10, v11, .slice wa wn wc, .slice fa fn fc, .string fg]) (l' := #[true, true, false, false, false]) rfl (by kernel_rfl) (by kernel_rfl) (by kernel_rfl) (by kernel_rfl) (fun _ _ _ h => h) (by kernel_rfl) (fun _ hc => run_ldT 36 _ _ (.tmp 1) (by kernel_rfl) (by kernel_rfl) hc.2 Tryz.underlying36 rfl (by kernel_rfl)) hS0 (by kernel_rfl) ?_
  generalize hq : Act.put _ _ _ = aa
  refine hOne (i := 2) (by kernel_rfl) ?_
  refine (hCall (i := 2) (d := some 24) (f := 9) (args := #[.agg #[.slice pa pn pq, .string key, v0, v1, v2, v3, v4, v5, v6, v7, v8, v9, v10, v11, .slice wa wn wc, .slice fa fn fc, .string fg]]) (l' := #[true, true, true, false, false]) (R := fun v w' => (∃ vs, v = .agg vs.toArray ∧ WAns w' x6.drew.heap.size vs pn ts key d wn Ws fn Fl fg) ∧ Below x6.drew.heap.size x6.drew w') rfl (by kernel_rfl) (by subst hq; kernel_rfl) (by kernel_rfl) (run_cl1 (.tmp 23) #[36] (by kernel_rfl) (by subst hq; kernel_rfl) (by kernel_rfl) enter_toW) HT.out ?_)
  subst hq
  rintro v x7 ⟨⟨vs, rfl, han⟩, hb7⟩
  obtain ⟨gp3, gw3, gf3, e0, e1, e2, e3, e4, e5, e6, e7, e8, e9, e10, e11, rfl, T3, V3, W3, F3, _⟩ := han
  have B_7 := B_6.drew.trans (hb7.mono B_6.drew.size)
  have X_7 := hS0.1.block (hb7.block _ m_6)
  have A_7 := hS0.2.block (hb7.block _ l_6)
  have m_7 : pX < x7.heap.size := Nat.lt_of_lt_of_le m_6 hb7.size
  have l_7 : pA < x7.heap.size := Nat.lt_of_lt_of_le l_6 hb7.size
  have T7 := (T6.below' (Below.refl _ _).drew).below' hb7
  have V7 := (V6.below' (Below.refl _ _).drew).below' hb7
  have W7 := (W6.below' (Below.refl _ _).drew).below' hb7
  have F7 := (F6.below' (Below.refl _ _).drew).below' hb7
  refine ⟨⟨X_7, A_7⟩, ?_⟩
  have HE : Hid (Calls Tryz.prog 11 #[.agg #[.slice (some ⟨gp2, 0, none⟩) pn pn, .string key, b0, b1, b2, b3, b4, b5, b6, b7, b8, b9, b10, b11, .slice (some ⟨gw2, 0, none⟩) wn wn, .slice (some ⟨gf2, 0, none⟩) fn fn, .string fg], .agg #[.slice (some ⟨gp3, 0, none⟩) pn pn, .string key, e0, e1, e2, e3, e4, e5, e6, e7, e8, e9, e10, e11, .slice (some ⟨gw3, 0, none⟩) wn wn, .slice (some ⟨gf3, 0, none⟩) fn fn, .string fg]] x7 fun e w' => ∃ v, e = .returned v ∧ (v = .bool true ∧ Below x7.heap.size x7 w')) := by
    refine (eqWorld_any (some ⟨gp2, 0, none⟩) gp2 0 pn pn ts key d b0 b1 b2 b3 b4 b5 b6 b7 b8 b9 b10 b11 (some ⟨gw2, 0, none⟩) gw2 0 wn wn Ws (some ⟨gf2, 0, none⟩) gf2 0 fn fn Fl fg (some ⟨gp3, 0, none⟩) gp3 0 pn e0 e1 e2 e3 e4 e5 e6 e7 e8 e9 e10 e11 (some ⟨gw3, 0, none⟩) gw3 0 wn (some ⟨gf3, 0, none⟩) gf3 0 fn x7 T7 V7 W7 F7 T3 V3 W3 F3).mono ?_
    rintro e w' ⟨rfl, hb⟩
    exact ⟨_, rfl, rfl, hb⟩
  generalize hq : Act.put _ _ _ = aa
  refine hOne (i := 3) (by kernel_rfl) ?_
  refine (hCall (i := 3) (d := some 25) (f := 11) (args := #[.agg #[.slice (some ⟨gp2, 0, none⟩) pn pn, .string key, b0, b1, b2, b3, b4, b5, b6, b7, b8, b9, b10, b11, .slice (some ⟨gw2, 0, none⟩) wn wn, .slice (some ⟨gf2, 0, none⟩) fn fn, .string fg], .agg #[.slice (some ⟨gp3, 0, none⟩) pn pn, .string key, e0, e1, e2, e3, e4, e5, e6, e7, e8, e9, e10, e11, .slice (some ⟨gw3, 0, none⟩) wn wn, .slice (some ⟨gf3, 0, none⟩) fn fn, .string fg]]) (l' := #[true, true, true, true, false]) (R := fun v w' => v = .bool true ∧ Below x7.heap.size x7 w') rfl (by kernel_rfl) (by subst hq; kernel_rfl) (by kernel_rfl) (run_cl2 (.tmp 22) (.tmp 24) #[51, 51] (by kernel_rfl) (by subst hq; kernel_rfl) (by subst hq; kernel_rfl) (by kernel_rfl) enter_eqW) HE.out ?_)
  subst hq
  rintro v x8 ⟨rfl, hb8⟩
  have B_8 := B_7.trans (hb8.mono B_7.size)
  have hS8 : CF x8 pX [.slice (some ⟨gp2, 0, none⟩) pn pn, .string key, b0, b1, b2, b3, b4, b5, b6, b7, b8, b9, b10, b11, .slice (some ⟨gw2, 0, none⟩) wn wn, .slice (some ⟨gf2, 0, none⟩) fn fn, .string fg] ∧ CF x8 pA [.slice pa pn pq, .string key, v0, v1, v2, v3, v4, v5, v6, v7, v8, v9, v10, v11, .slice wa wn wc, .slice fa fn fc, .string fg] := ⟨X_7.block (hb8.block _ m_7), A_7.block (hb8.block _ l_7)⟩
  refine ⟨hS8, ?_⟩
  refine hOne (i := 4) (by kernel_rfl) ?_
  refine hVal (i := 4) (d := some 26) (v := .bool false) (w' := x8) (l' := #[true, true, true, true, true]) rfl (by kernel_rfl) (by kernel_rfl) (by kernel_rfl) (by rw [run_notW (.tmp 25) true (by kernel_rfl) (by kernel_rfl)]; rfl) hS8 ?_
  refine wpAnyH_done (by kernel_rfl) ?_ _
  clear T7 V7 W7 F7 T3 V3 W3 F3 T6 V6 W6 F6 HT HE hS8 hS0 X_7 A_7 X_6 A_6
  go_simp
  go_wp2
  go_ret
  exact ⟨rfl, B_8⟩

end Go.Proofs.YthopfmhagddhgaaGreat
