
/-
  The law FnExactValidBoss's walk.
-/
import Derived.Test.YtoikcjeagigmfaaBoq
import Derived.Test.YtoikcjeagigmfaaBor
import Derived.Test.YtoikcjeagigmfaaBiv
import Derived.Test.YtoikcjeagigmfaaBsv
import Derived.Test.YtoikcjeagigmfaaTo
namespace Go.Proofs.Ytoikcjeagigmfaa
open Go.RowKit

set_option maxHeartbeats 8000000 in
set_option maxRecDepth 100000 in
theorem fnExactValidBoss_walk (wk : Int) (up : Bool) (now sn ep gv : Int) (a1 a2 ar aj az ao : Option Addr) (n1 c1 n2 c2 nr cr nj cj ns cs no co : Nat) (bl1 ol1 bl2 ol2 br or' bj oj bs os' bo oo : Nat) (L1 L2 R : List ByteArray) (J : List Tr) (S : List (Bool × Int)) (O : List Tr) (pa : Option Addr) (pb po pn pc : Nat) (ts : List TaskD) (w : World) (h1 : StrsAt w a1 bl1 ol1 n1 L1) (h2 : StrsAt w a2 bl2 ol2 n2 L2) (hR : StrsAt w ar br or' nr R) (hJ : T3At w aj bj oj nj J) (hS : T2At w az bs os' ns S) (hO : T3At w ao bo oo no O) (hT : TasksAt w pa pb po pn ts) :
    Calls Try.prog 6 #[.agg #[.int .i64 wk, .bool up, .int .i64 now, .int .i64 sn, .int .i64 ep, .int .i64 gv, .slice a1 n1 c1, .slice a2 n2 c2, .slice ar nr cr, .slice aj nj cj, .slice az ns cs, .slice ao no co], .agg #[.slice pa pn pc]] w fun e w' => e = .returned (.bool true) ∧ Below w.heap.size w w' := by
  obtain ⟨v0, hv0⟩ : ∃ v0, v0 = (w.alloc (.cells #[.int .i64 wk, .bool up, .int .i64 now, .int .i64 sn, .int .i64 ep, .int .i64 gv, .slice a1 n1 c1, .slice a2 n2 c2, .slice ar nr cr, .slice aj nj cj, .slice az ns cs, .slice ao no co] 59)).alloc (.cells #[.slice pa pn pc] 35) := ⟨_, rfl⟩
  have B_0 : Below w.heap.size w v0 := by rw [hv0]; exact ((Below.refl _ _).alloc (Nat.le_refl _) _).alloc (by simp) _
  have A_0 : MC v0 w.heap.size [.int .i64 wk, .bool up, .int .i64 now, .int .i64 sn, .int .i64 ep, .int .i64 gv, .slice a1 n1 c1, .slice a2 n2 c2, .slice ar nr cr, .slice aj nj cj, .slice az ns cs, .slice ao no co] := by rw [hv0]; exact (MC.made w #[.int .i64 wk, .bool up, .int .i64 now, .int .i64 sn, .int .i64 ep, .int .i64 gv, .slice a1 n1 c1, .slice a2 n2 c2, .slice ar nr cr, .slice aj nj cj, .slice az ns cs, .slice ao no co] 59).block (Below.heap_alloc _ _ _ (by simp))
  have P_0 : MC v0 (w.heap.size + 1) [.slice pa pn pc] := by
    have := MC.made (w.alloc (.cells #[.int .i64 wk, .bool up, .int .i64 now, .int .i64 sn, .int .i64 ep, .int .i64 gv, .slice a1 n1 c1, .slice a2 n2 c2, .slice ar nr cr, .slice aj nj cj, .slice az ns cs, .slice ao no co] 59)) #[.slice pa pn pc] 35
    rw [World.size_alloc] at this
    rw [hv0]; exact this
  have lP_0 : w.heap.size + 1 < v0.heap.size := by rw [hv0]; simp
  have lA_0 : w.heap.size < v0.heap.size := by omega
  go_enter Try.func6, Try.ntmps6
  go_wp2_with fail
  rw [← hv0]
  clear hv0
  refine (szBoss_any wk up now sn ep gv a1 a2 ar aj az ao n1 c1 n2 c2 nr cr nj cj ns cs no co bl1 ol1 bl2 ol2 br or' bj oj bs os' bo oo L1 L2 R J S O _ (h1.below' B_0) (h2.below' B_0) (hR.below' B_0) (hJ.below' B_0) (hS.below' B_0) (hO.below' B_0)).mono ?_
  rintro e v1 ⟨⟨r, rfl, hr⟩, hb1⟩
  have B_1 := B_0.trans (hb1.mono B_0.size)
  have A_1 := MC.below A_0 hb1 lA_0
  have lA_1 := Nat.lt_of_lt_of_le lA_0 hb1.size
  have P_1 := MC.below P_0 hb1 lP_0
  have lP_1 := Nat.lt_of_lt_of_le lP_0 hb1.size
  clear B_0 A_0 lA_0 P_0 lP_0
  rcases hr with rfl | ⟨hr0, hr1, hsum⟩
  · go_wp2
    go_ret
    exact ⟨rfl, B_1⟩
  have hn1 : n1 ≤ 1048576 := by omega
  have hn2 : n2 ≤ 1048576 := by omega
  have hn12 : n1 + n2 ≤ 1048576 := by omega
  have hnr : nr ≤ 1048576 := by omega
  have hnj : nj ≤ 1048576 := by omega
  have hns : ns ≤ 1048576 := by omega
  have hno : no ≤ 1048576 := by omega
  clear hsum
  have Pc0 : v1.cell? ⟨w.heap.size + 1, 0, none⟩ = some (.slice pa pn pc) := P_1 0 (by simp)
  go_wp2_with fail
  refine (szPlan_any pa pb po pn pc ts r _ hr0 hr1 (hT.below' B_1)).mono ?_
  rintro e v2 ⟨⟨r2, rfl, hr2⟩, hb2⟩
  clear Pc0
  have B_2 := B_1.trans (hb2.mono B_1.size)
  have A_2 := MC.below A_1 hb2 lA_1
  have lA_2 := Nat.lt_of_lt_of_le lA_1 hb2.size
  have P_2 := MC.below P_1 hb2 lP_1
  have lP_2 := Nat.lt_of_lt_of_le lP_1 hb2.size
  clear B_1 A_1 lA_1 P_1 lP_1
  rcases hr2 with rfl | ⟨hr2, hr20⟩
  · go_wp2
    go_ret
    exact ⟨rfl, B_2⟩
  have hs : pn + tssz ts ≤ 1048576 := by omega
  clear hr2
  have bd := B_2.drew
  have qa0 : v2.cell? ⟨w.heap.size, 0, none⟩ = some (.int .i64 wk) := A_2 0 (by simp)
  have qa1 : v2.cell? ⟨w.heap.size, 1, none⟩ = some (.bool up) := A_2 1 (by simp)
  have qa2 : v2.cell? ⟨w.heap.size, 2, none⟩ = some (.int .i64 now) := A_2 2 (by simp)
  have qa3 : v2.cell? ⟨w.heap.size, 3, none⟩ = some (.int .i64 sn) := A_2 3 (by simp)
  have qa4 : v2.cell? ⟨w.heap.size, 4, none⟩ = some (.int .i64 ep) := A_2 4 (by simp)
  have qa5 : v2.cell? ⟨w.heap.size, 5, none⟩ = some (.int .i64 gv) := A_2 5 (by simp)
  have qa6 : v2.cell? ⟨w.heap.size, 6, none⟩ = some (.slice a1 n1 c1) := A_2 6 (by simp)
  have qa7 : v2.cell? ⟨w.heap.size, 7, none⟩ = some (.slice a2 n2 c2) := A_2 7 (by simp)
  have qa8 : v2.cell? ⟨w.heap.size, 8, none⟩ = some (.slice ar nr cr) := A_2 8 (by simp)
  have qa9 : v2.cell? ⟨w.heap.size, 9, none⟩ = some (.slice aj nj cj) := A_2 9 (by simp)
  have qa10 : v2.cell? ⟨w.heap.size, 10, none⟩ = some (.slice az ns cs) := A_2 10 (by simp)
  have qa11 : v2.cell? ⟨w.heap.size, 11, none⟩ = some (.slice ao no co) := A_2 11 (by simp)
  have qp : v2.cell? ⟨w.heap.size + 1, 0, none⟩ = some (.slice pa pn pc) := P_2 0 (by simp)
  go_upto_region 8 with fail
  go_region_held3 (fun w' => w'.cell? ⟨w.heap.size, 0, none⟩ = some (.int .i64 wk) ∧ w'.cell? ⟨w.heap.size, 1, none⟩ = some (.bool up) ∧ w'.cell? ⟨w.heap.size, 2, none⟩ = some (.int .i64 now) ∧ w'.cell? ⟨w.heap.size, 3, none⟩ = some (.int .i64 sn) ∧ w'.cell? ⟨w.heap.size, 4, none⟩ = some (.int .i64 ep) ∧ w'.cell? ⟨w.heap.size, 5, none⟩ = some (.int .i64 gv) ∧ w'.cell? ⟨w.heap.size, 6, none⟩ = some (.slice a1 n1 c1) ∧ w'.cell? ⟨w.heap.size, 7, none⟩ = some (.slice a2 n2 c2) ∧ w'.cell? ⟨w.heap.size, 8, none⟩ = some (.slice ar nr cr) ∧ w'.cell? ⟨w.heap.size, 9, none⟩ = some (.slice aj nj cj) ∧ w'.cell? ⟨w.heap.size, 10, none⟩ = some (.slice az ns cs) ∧ w'.cell? ⟨w.heap.size, 11, none⟩ = some (.slice ao no co) ∧ w'.cell? ⟨w.heap.size + 1, 0, none⟩ = some (.slice pa pn pc)) (first | (simp [go_sem, *]; done) | assumption)
    (first
      | (go_at_call 29; refine (toBoss_any wk up now sn ep gv a1 a2 ar aj az ao n1 c1 n2 c2 nr cr nj cj ns cs no co bl1 ol1 bl2 ol2 br or' bj oj bs os' bo oo L1 L2 R J S O _ (h1.below' bd) (h2.below' bd) (hR.below' bd) (hJ.below' bd) (hS.below' bd) (hO.below' bd) hn1 hn2 hnr hnj hns hno).mono ?_; rintro e v3 ⟨⟨g1a, g2a, gra, gja, gsa, goa, xja, xsa, xoa, rfl, y1a, y2a, yra, ⟨_, yja⟩, ⟨_, ysa⟩, ⟨_, yoa⟩, _⟩, hb3⟩; have qa0_0 := keepC hb3 qa0; have qa1_0 := keepC hb3 qa1; have qa2_0 := keepC hb3 qa2; have qa3_0 := keepC hb3 qa3; have qa4_0 := keepC hb3 qa4; have qa5_0 := keepC hb3 qa5; have qa6_0 := keepC hb3 qa6; have qa7_0 := keepC hb3 qa7; have qa8_0 := keepC hb3 qa8; have qa9_0 := keepC hb3 qa9; have qa10_0 := keepC hb3 qa10; have qa11_0 := keepC hb3 qa11; have qp_0 := keepC hb3 qp; have y1a := StrsAt.ofOwn y1a h1.sz; have y2a := StrsAt.ofOwn y2a h2.sz; have yra := StrsAt.ofOwn yra hR.sz; have bd3 := bd.trans (hb3.mono bd.size))
      | (go_at_call 17; refine (toPlan_any pa pb po pn pc ts _ (hT.below' bd3) hs).mono ?_; rintro e v4 ⟨gp, xp, rfl, _, _, tp, hb4⟩; have qa0_1 := keepB hb4 qa0_0; have qa1_1 := keepB hb4 qa1_0; have qa2_1 := keepB hb4 qa2_0; have qa3_1 := keepB hb4 qa3_0; have qa4_1 := keepB hb4 qa4_0; have qa5_1 := keepB hb4 qa5_0; have qa6_1 := keepB hb4 qa6_0; have qa7_1 := keepB hb4 qa7_0; have qa8_1 := keepB hb4 qa8_0; have qa9_1 := keepB hb4 qa9_0; have qa10_1 := keepB hb4 qa10_0; have qa11_1 := keepB hb4 qa11_0; have qp_1 := keepB hb4 qp_0; have y1a := y1a.below' hb4; have y2a := y2a.below' hb4; have yra := yra.below' hb4; have yja := yja.below' hb4; have ysa := ysa.below' hb4; have yoa := yoa.below' hb4)
      | (go_at_call 28; refine (sValB_any wk up now sn ep gv (some ⟨g1a, 0, none⟩) (some ⟨g2a, 0, none⟩) (some ⟨gra, 0, none⟩) (some ⟨gja, 0, none⟩) (some ⟨gsa, 0, none⟩) (some ⟨goa, 0, none⟩) n1 n1 n2 n2 nr nr nj nj ns ns no no g1a 0 g2a 0 gra 0 gja 0 gsa 0 goa 0 L1 L2 R J S O (some ⟨gp, 0, none⟩) gp 0 pn pn ts _ y1a y2a yra yja ysa yoa tp hn1 hn2 hn12 hnr hnj hns hno).mono ?_; rintro e v5 ⟨⟨x, rfl, hx⟩, hb5⟩; have qa0_2 := keepB hb5 qa0_1; have qa1_2 := keepB hb5 qa1_1; have qa2_2 := keepB hb5 qa2_1; have qa3_2 := keepB hb5 qa3_1; have qa4_2 := keepB hb5 qa4_1; have qa5_2 := keepB hb5 qa5_1; have qa6_2 := keepB hb5 qa6_1; have qa7_2 := keepB hb5 qa7_1; have qa8_2 := keepB hb5 qa8_1; have qa9_2 := keepB hb5 qa9_1; have qa10_2 := keepB hb5 qa10_1; have qa11_2 := keepB hb5 qa11_1; have qp_2 := keepB hb5 qp_1))
  have hb25 : Below v2.heap.size v2 v5 := (((Below.refl _ _).drew.trans hb3).trans (hb4.mono hb3.size)).trans (hb5.mono (Nat.le_trans hb3.size hb4.size))
  have HX := hid hx
  clear hx hb3 hb4 hb5 bd bd3 tp y1a y2a yra yja ysa yoa qa0 qa0_0 qa0_1 qa0_2 qa1 qa1_0 qa1_1 qa1_2 qa2 qa2_0 qa2_1 qa2_2 qa3 qa3_0 qa3_1 qa3_2 qa4 qa4_0 qa4_1 qa4_2 qa5 qa5_0 qa5_1 qa5_2 qa6 qa6_0 qa6_1 qa6_2 qa7 qa7_0 qa7_1 qa7_2 qa8 qa8_0 qa8_1 qa8_2 qa9 qa9_0 qa9_1 qa9_2 qa10 qa10_0 qa10_1 qa10_2 qa11 qa11_0 qa11_1 qa11_2 qp qp_0 qp_1 qp_2
  have B_3 := B_2.trans (hb25.mono B_2.size)
  have A_3 := MC.below A_2 hb25 lA_2
  have lA_3 := Nat.lt_of_lt_of_le lA_2 hb25.size
  have P_3 := MC.below P_2 hb25 lP_2
  have lP_3 := Nat.lt_of_lt_of_le lP_2 hb25.size
  clear B_2 A_2 lA_2 P_2 lP_2
  have Ac0 : v5.cell? ⟨w.heap.size, 0, none⟩ = some (.int .i64 wk) := A_3 0 (by simp)
  have Ac1 : v5.cell? ⟨w.heap.size, 1, none⟩ = some (.bool up) := A_3 1 (by simp)
  have Ac2 : v5.cell? ⟨w.heap.size, 2, none⟩ = some (.int .i64 now) := A_3 2 (by simp)
  have Ac3 : v5.cell? ⟨w.heap.size, 3, none⟩ = some (.int .i64 sn) := A_3 3 (by simp)
  have Ac4 : v5.cell? ⟨w.heap.size, 4, none⟩ = some (.int .i64 ep) := A_3 4 (by simp)
  have Ac5 : v5.cell? ⟨w.heap.size, 5, none⟩ = some (.int .i64 gv) := A_3 5 (by simp)
  have Ac6 : v5.cell? ⟨w.heap.size, 6, none⟩ = some (.slice a1 n1 c1) := A_3 6 (by simp)
  have Ac7 : v5.cell? ⟨w.heap.size, 7, none⟩ = some (.slice a2 n2 c2) := A_3 7 (by simp)
  have Ac8 : v5.cell? ⟨w.heap.size, 8, none⟩ = some (.slice ar nr cr) := A_3 8 (by simp)
  have Ac9 : v5.cell? ⟨w.heap.size, 9, none⟩ = some (.slice aj nj cj) := A_3 9 (by simp)
  have Ac10 : v5.cell? ⟨w.heap.size, 10, none⟩ = some (.slice az ns cs) := A_3 10 (by simp)
  have Ac11 : v5.cell? ⟨w.heap.size, 11, none⟩ = some (.slice ao no co) := A_3 11 (by simp)
  go_wp2_with fail
  refine (toBoss_any wk up now sn ep gv a1 a2 ar aj az ao n1 c1 n2 c2 nr cr nj cj ns cs no co bl1 ol1 bl2 ol2 br or' bj oj bs os' bo oo L1 L2 R J S O _ (h1.below' B_3) (h2.below' B_3) (hR.below' B_3) (hJ.below' B_3) (hS.below' B_3) (hO.below' B_3) hn1 hn2 hnr hnj hns hno).mono ?_
  rintro e v6 ⟨⟨g1b, g2b, grb, gjb, gsb, gob, xjb, xsb, xob, rfl, y1b, y2b, yrb, ⟨_, yjb⟩, ⟨_, ysb⟩, ⟨_, yob⟩, _⟩, hb6⟩
  have y1b := StrsAt.ofOwn y1b h1.sz
  have y2b := StrsAt.ofOwn y2b h2.sz
  have yrb := StrsAt.ofOwn yrb hR.sz
  have B_4 := B_3.trans (hb6.mono B_3.size)
  have A_4 := MC.below A_3 hb6 lA_3
  have lA_4 := Nat.lt_of_lt_of_le lA_3 hb6.size
  have P_4 := MC.below P_3 hb6 lP_3
  have lP_4 := Nat.lt_of_lt_of_le lP_3 hb6.size
  clear B_3 A_3 lA_3 P_3 lP_3
  clear Ac0 Ac1 Ac2 Ac3 Ac4 Ac5 Ac6 Ac7 Ac8 Ac9 Ac10 Ac11
  have Zy1_4 := y1b
  clear y1b
  have Zy2_4 := y2b
  clear y2b
  have Zyr_4 := yrb
  clear yrb
  have Zyj_4 := yjb
  clear yjb
  have Zys_4 := ysb
  clear ysb
  have Zyo_4 := yob
  clear yob
  obtain ⟨v7, hv7⟩ : ∃ v7, v7 = v6.alloc (.cells #[.int .i64 wk, .bool up, .int .i64 now, .int .i64 sn, .int .i64 ep, .int .i64 gv, .slice (some ⟨g1b, 0, none⟩) n1 n1, .slice (some ⟨g2b, 0, none⟩) n2 n2, .slice (some ⟨grb, 0, none⟩) nr nr, .slice (some ⟨gjb, 0, none⟩) nj nj, .slice (some ⟨gsb, 0, none⟩) ns ns, .slice (some ⟨gob, 0, none⟩) no no] 67) := ⟨_, rfl⟩
  have hbv7 : Below v6.heap.size v6 v7 := by rw [hv7]; exact (Below.refl _ _).alloc (Nat.le_refl _) _
  have hmv7 : MC v7 v6.heap.size [.int .i64 wk, .bool up, .int .i64 now, .int .i64 sn, .int .i64 ep, .int .i64 gv, .slice (some ⟨g1b, 0, none⟩) n1 n1, .slice (some ⟨g2b, 0, none⟩) n2 n2, .slice (some ⟨grb, 0, none⟩) nr nr, .slice (some ⟨gjb, 0, none⟩) nj nj, .slice (some ⟨gsb, 0, none⟩) ns ns, .slice (some ⟨gob, 0, none⟩) no no] := by rw [hv7]; exact MC.made v6 _ _
  have hlv7 : v6.heap.size < v7.heap.size := by rw [hv7]; simp
  go_upto_region 10 with fail
  rw [← hv7]
  clear hv7
  obtain ⟨q7, hq7⟩ : ∃ q7, q7 = v6.heap.size := ⟨_, rfl⟩
  rw [← hq7] at hmv7 hlv7
  rw [← hq7]
  have HIDq7 := hid hq7
  have hleq7 : v6.heap.size ≤ q7 := Nat.le_of_eq hq7.symm
  clear hq7
  have B_5 := B_4.trans (hbv7.mono B_4.size)
  have A_5 := MC.below A_4 hbv7 lA_4
  have lA_5 := Nat.lt_of_lt_of_le lA_4 hbv7.size
  have P_5 := MC.below P_4 hbv7 lP_4
  have lP_5 := Nat.lt_of_lt_of_le lP_4 hbv7.size
  have Zy1_5 := Zy1_4.below' hbv7
  have Zy2_5 := Zy2_4.below' hbv7
  have Zyr_5 := Zyr_4.below' hbv7
  have Zyj_5 := Zyj_4.below' hbv7
  have Zys_5 := Zys_4.below' hbv7
  have Zyo_5 := Zyo_4.below' hbv7
  clear B_4 A_4 lA_4 P_4 lP_4 Zy1_4 Zy2_4 Zyr_4 Zyj_4 Zys_4 Zyo_4
  have X0_5 := hmv7
  have lX0_5 := hlv7
  clear hmv7 hlv7 hbv7
  have Pc0 : v7.cell? ⟨w.heap.size + 1, 0, none⟩ = some (.slice pa pn pc) := P_5 0 (by simp)
  go_wp2_with fail
  refine (toPlan_any pa pb po pn pc ts _ (hT.below' B_5) hs).mono ?_
  rintro e v8 ⟨gq, xq, rfl, _, _, tq, hb8⟩
  have B_6 := B_5.trans (hb8.mono B_5.size)
  have A_6 := MC.below A_5 hb8 lA_5
  have lA_6 := Nat.lt_of_lt_of_le lA_5 hb8.size
  have P_6 := MC.below P_5 hb8 lP_5
  have lP_6 := Nat.lt_of_lt_of_le lP_5 hb8.size
  have Zy1_6 := Zy1_5.below' hb8
  have Zy2_6 := Zy2_5.below' hb8
  have Zyr_6 := Zyr_5.below' hb8
  have Zyj_6 := Zyj_5.below' hb8
  have Zys_6 := Zys_5.below' hb8
  have Zyo_6 := Zyo_5.below' hb8
  have X0_6 := MC.below X0_5 hb8 lX0_5
  have lX0_6 := Nat.lt_of_lt_of_le lX0_5 hb8.size
  clear B_5 A_5 lA_5 P_5 lP_5 Zy1_5 Zy2_5 Zyr_5 Zyj_5 Zys_5 Zyo_5 X0_5 lX0_5
  clear Pc0
  have TQ_6 := tq
  clear tq
  obtain ⟨v9, hv9⟩ : ∃ v9, v9 = v8.alloc (.cells #[.slice (some ⟨gq, 0, none⟩) pn pn] 44) := ⟨_, rfl⟩
  have hbv9 : Below v8.heap.size v8 v9 := by rw [hv9]; exact (Below.refl _ _).alloc (Nat.le_refl _) _
  have hmv9 : MC v9 v8.heap.size [.slice (some ⟨gq, 0, none⟩) pn pn] := by rw [hv9]; exact MC.made v8 _ _
  have hlv9 : v8.heap.size < v9.heap.size := by rw [hv9]; simp
  go_upto_region 11 with fail
  rw [← hv9]
  clear hv9
  obtain ⟨q8, hq8⟩ : ∃ q8, q8 = v8.heap.size := ⟨_, rfl⟩
  rw [← hq8] at hmv9 hlv9
  rw [← hq8]
  have HIDq8 := hid hq8
  have hleq8 : v8.heap.size ≤ q8 := Nat.le_of_eq hq8.symm
  clear hq8
  have B_7 := B_6.trans (hbv9.mono B_6.size)
  have A_7 := MC.below A_6 hbv9 lA_6
  have lA_7 := Nat.lt_of_lt_of_le lA_6 hbv9.size
  have P_7 := MC.below P_6 hbv9 lP_6
  have lP_7 := Nat.lt_of_lt_of_le lP_6 hbv9.size
  have Zy1_7 := Zy1_6.below' hbv9
  have Zy2_7 := Zy2_6.below' hbv9
  have Zyr_7 := Zyr_6.below' hbv9
  have Zyj_7 := Zyj_6.below' hbv9
  have Zys_7 := Zys_6.below' hbv9
  have Zyo_7 := Zyo_6.below' hbv9
  have X0_7 := MC.below X0_6 hbv9 lX0_6
  have lX0_7 := Nat.lt_of_lt_of_le lX0_6 hbv9.size
  have TQ_7 := TQ_6.below' hbv9
  clear B_6 A_6 lA_6 P_6 lP_6 Zy1_6 Zy2_6 Zyr_6 Zyj_6 Zys_6 Zyo_6 X0_6 lX0_6 TQ_6
  have X1_7 := hmv9
  have lX1_7 := hlv9
  clear hmv9 hlv9 hbv9
  have X0c0 : v9.cell? ⟨q7, 0, none⟩ = some (.int .i64 wk) := X0_7 0 (by simp)
  have X0c1 : v9.cell? ⟨q7, 1, none⟩ = some (.bool up) := X0_7 1 (by simp)
  have X0c2 : v9.cell? ⟨q7, 2, none⟩ = some (.int .i64 now) := X0_7 2 (by simp)
  have X0c3 : v9.cell? ⟨q7, 3, none⟩ = some (.int .i64 sn) := X0_7 3 (by simp)
  have X0c4 : v9.cell? ⟨q7, 4, none⟩ = some (.int .i64 ep) := X0_7 4 (by simp)
  have X0c5 : v9.cell? ⟨q7, 5, none⟩ = some (.int .i64 gv) := X0_7 5 (by simp)
  have X0c6 : v9.cell? ⟨q7, 6, none⟩ = some (.slice (some ⟨g1b, 0, none⟩) n1 n1) := X0_7 6 (by simp)
  have X0c7 : v9.cell? ⟨q7, 7, none⟩ = some (.slice (some ⟨g2b, 0, none⟩) n2 n2) := X0_7 7 (by simp)
  have X0c8 : v9.cell? ⟨q7, 8, none⟩ = some (.slice (some ⟨grb, 0, none⟩) nr nr) := X0_7 8 (by simp)
  have X0c9 : v9.cell? ⟨q7, 9, none⟩ = some (.slice (some ⟨gjb, 0, none⟩) nj nj) := X0_7 9 (by simp)
  have X0c10 : v9.cell? ⟨q7, 10, none⟩ = some (.slice (some ⟨gsb, 0, none⟩) ns ns) := X0_7 10 (by simp)
  have X0c11 : v9.cell? ⟨q7, 11, none⟩ = some (.slice (some ⟨gob, 0, none⟩) no no) := X0_7 11 (by simp)
  have X1c0 : v9.cell? ⟨q8, 0, none⟩ = some (.slice (some ⟨gq, 0, none⟩) pn pn) := X1_7 0 (by simp)
  go_wp2_with fail
  refine (iValB_any wk up now sn ep gv (some ⟨g1b, 0, none⟩) (some ⟨g2b, 0, none⟩) (some ⟨grb, 0, none⟩) (some ⟨gjb, 0, none⟩) (some ⟨gsb, 0, none⟩) (some ⟨gob, 0, none⟩) n1 n1 n2 n2 nr nr nj nj ns ns no no g1b 0 g2b 0 grb 0 gjb 0 gsb 0 gob 0 L1 L2 R J S O (some ⟨gq, 0, none⟩) gq 0 pn pn ts _ Zy1_7 Zy2_7 Zyr_7 Zyj_7 Zys_7 Zyo_7 TQ_7 hn1 hn2 hnj).mono ?_
  rintro e v10 ⟨⟨x2, rfl, hx2⟩, hb10⟩
  have B_8 := B_7.trans (hb10.mono B_7.size)
  have A_8 := MC.below A_7 hb10 lA_7
  have lA_8 := Nat.lt_of_lt_of_le lA_7 hb10.size
  have P_8 := MC.below P_7 hb10 lP_7
  have lP_8 := Nat.lt_of_lt_of_le lP_7 hb10.size
  have Zy1_8 := Zy1_7.below' hb10
  have Zy2_8 := Zy2_7.below' hb10
  have Zyr_8 := Zyr_7.below' hb10
  have Zyj_8 := Zyj_7.below' hb10
  have Zys_8 := Zys_7.below' hb10
  have Zyo_8 := Zyo_7.below' hb10
  have X0_8 := MC.below X0_7 hb10 lX0_7
  have lX0_8 := Nat.lt_of_lt_of_le lX0_7 hb10.size
  have TQ_8 := TQ_7.below' hb10
  have X1_8 := MC.below X1_7 hb10 lX1_7
  have lX1_8 := Nat.lt_of_lt_of_le lX1_7 hb10.size
  clear B_7 A_7 lA_7 P_7 lP_7 Zy1_7 Zy2_7 Zyr_7 Zyj_7 Zys_7 Zyo_7 X0_7 lX0_7 TQ_7 X1_7 lX1_7
  clear X0c0 X0c1 X0c2 X0c3 X0c4 X0c5 X0c6 X0c7 X0c8 X0c9 X0c10 X0c11 X1c0
  obtain rfl : x2 = x := by
    have := HX.out
    cases x <;> cases x2 <;> simp_all
  clear HX hx2
  have bd := B_8.drew
  have dy1 := Zy1_8.below' (Below.refl _ _).drew
  have dy2 := Zy2_8.below' (Below.refl _ _).drew
  have dyr := Zyr_8.below' (Below.refl _ _).drew
  have dyj := Zyj_8.below' (Below.refl _ _).drew
  have dys := Zys_8.below' (Below.refl _ _).drew
  have dyo := Zyo_8.below' (Below.refl _ _).drew
  cases x2
  all_goals
    have qx0 : v10.cell? ⟨q7, 0, none⟩ = some (.int .i64 wk) := X0_8 0 (by simp)
    have qx1 : v10.cell? ⟨q7, 1, none⟩ = some (.bool up) := X0_8 1 (by simp)
    have qx2 : v10.cell? ⟨q7, 2, none⟩ = some (.int .i64 now) := X0_8 2 (by simp)
    have qx3 : v10.cell? ⟨q7, 3, none⟩ = some (.int .i64 sn) := X0_8 3 (by simp)
    have qx4 : v10.cell? ⟨q7, 4, none⟩ = some (.int .i64 ep) := X0_8 4 (by simp)
    have qx5 : v10.cell? ⟨q7, 5, none⟩ = some (.int .i64 gv) := X0_8 5 (by simp)
    have qx6 : v10.cell? ⟨q7, 6, none⟩ = some (.slice (some ⟨g1b, 0, none⟩) n1 n1) := X0_8 6 (by simp)
    have qx7 : v10.cell? ⟨q7, 7, none⟩ = some (.slice (some ⟨g2b, 0, none⟩) n2 n2) := X0_8 7 (by simp)
    have qx8 : v10.cell? ⟨q7, 8, none⟩ = some (.slice (some ⟨grb, 0, none⟩) nr nr) := X0_8 8 (by simp)
    have qx9 : v10.cell? ⟨q7, 9, none⟩ = some (.slice (some ⟨gjb, 0, none⟩) nj nj) := X0_8 9 (by simp)
    have qx10 : v10.cell? ⟨q7, 10, none⟩ = some (.slice (some ⟨gsb, 0, none⟩) ns ns) := X0_8 10 (by simp)
    have qx11 : v10.cell? ⟨q7, 11, none⟩ = some (.slice (some ⟨gob, 0, none⟩) no no) := X0_8 11 (by simp)
    have qa0 : v10.cell? ⟨w.heap.size, 0, none⟩ = some (.int .i64 wk) := A_8 0 (by simp)
    have qa1 : v10.cell? ⟨w.heap.size, 1, none⟩ = some (.bool up) := A_8 1 (by simp)
    have qa2 : v10.cell? ⟨w.heap.size, 2, none⟩ = some (.int .i64 now) := A_8 2 (by simp)
    have qa3 : v10.cell? ⟨w.heap.size, 3, none⟩ = some (.int .i64 sn) := A_8 3 (by simp)
    have qa4 : v10.cell? ⟨w.heap.size, 4, none⟩ = some (.int .i64 ep) := A_8 4 (by simp)
    have qa5 : v10.cell? ⟨w.heap.size, 5, none⟩ = some (.int .i64 gv) := A_8 5 (by simp)
    have qa6 : v10.cell? ⟨w.heap.size, 6, none⟩ = some (.slice a1 n1 c1) := A_8 6 (by simp)
    have qa7 : v10.cell? ⟨w.heap.size, 7, none⟩ = some (.slice a2 n2 c2) := A_8 7 (by simp)
    have qa8 : v10.cell? ⟨w.heap.size, 8, none⟩ = some (.slice ar nr cr) := A_8 8 (by simp)
    have qa9 : v10.cell? ⟨w.heap.size, 9, none⟩ = some (.slice aj nj cj) := A_8 9 (by simp)
    have qa10 : v10.cell? ⟨w.heap.size, 10, none⟩ = some (.slice az ns cs) := A_8 10 (by simp)
    have qa11 : v10.cell? ⟨w.heap.size, 11, none⟩ = some (.slice ao no co) := A_8 11 (by simp)
    go_upto_region 14 with fail
    go_region_held3 (fun w' => w'.cell? ⟨q7, 0, none⟩ = some (.int .i64 wk) ∧ w'.cell? ⟨q7, 1, none⟩ = some (.bool up) ∧ w'.cell? ⟨q7, 2, none⟩ = some (.int .i64 now) ∧ w'.cell? ⟨q7, 3, none⟩ = some (.int .i64 sn) ∧ w'.cell? ⟨q7, 4, none⟩ = some (.int .i64 ep) ∧ w'.cell? ⟨q7, 5, none⟩ = some (.int .i64 gv) ∧ w'.cell? ⟨q7, 6, none⟩ = some (.slice (some ⟨g1b, 0, none⟩) n1 n1) ∧ w'.cell? ⟨q7, 7, none⟩ = some (.slice (some ⟨g2b, 0, none⟩) n2 n2) ∧ w'.cell? ⟨q7, 8, none⟩ = some (.slice (some ⟨grb, 0, none⟩) nr nr) ∧ w'.cell? ⟨q7, 9, none⟩ = some (.slice (some ⟨gjb, 0, none⟩) nj nj) ∧ w'.cell? ⟨q7, 10, none⟩ = some (.slice (some ⟨gsb, 0, none⟩) ns ns) ∧ w'.cell? ⟨q7, 11, none⟩ = some (.slice (some ⟨gob, 0, none⟩) no no) ∧ w'.cell? ⟨w.heap.size, 0, none⟩ = some (.int .i64 wk) ∧ w'.cell? ⟨w.heap.size, 1, none⟩ = some (.bool up) ∧ w'.cell? ⟨w.heap.size, 2, none⟩ = some (.int .i64 now) ∧ w'.cell? ⟨w.heap.size, 3, none⟩ = some (.int .i64 sn) ∧ w'.cell? ⟨w.heap.size, 4, none⟩ = some (.int .i64 ep) ∧ w'.cell? ⟨w.heap.size, 5, none⟩ = some (.int .i64 gv) ∧ w'.cell? ⟨w.heap.size, 6, none⟩ = some (.slice a1 n1 c1) ∧ w'.cell? ⟨w.heap.size, 7, none⟩ = some (.slice a2 n2 c2) ∧ w'.cell? ⟨w.heap.size, 8, none⟩ = some (.slice ar nr cr) ∧ w'.cell? ⟨w.heap.size, 9, none⟩ = some (.slice aj nj cj) ∧ w'.cell? ⟨w.heap.size, 10, none⟩ = some (.slice az ns cs) ∧ w'.cell? ⟨w.heap.size, 11, none⟩ = some (.slice ao no co)) (first | (simp [go_sem, *]; done) | assumption)
      (first
        | (go_at_call 29; refine (toBoss_any wk up now sn ep gv a1 a2 ar aj az ao n1 c1 n2 c2 nr cr nj cj ns cs no co bl1 ol1 bl2 ol2 br or' bj oj bs os' bo oo L1 L2 R J S O _ (h1.below' bd) (h2.below' bd) (hR.below' bd) (hJ.below' bd) (hS.below' bd) (hO.below' bd) hn1 hn2 hnr hnj hns hno).mono ?_; rintro e v11 ⟨⟨g1c, g2c, grc, gjc, gsc, goc, xjc, xsc, xoc, rfl, y1c, y2c, yrc, ⟨_, yjc⟩, ⟨_, ysc⟩, ⟨_, yoc⟩, _⟩, hb11⟩; have qx0_0 := keepC hb11 qx0; have qx1_0 := keepC hb11 qx1; have qx2_0 := keepC hb11 qx2; have qx3_0 := keepC hb11 qx3; have qx4_0 := keepC hb11 qx4; have qx5_0 := keepC hb11 qx5; have qx6_0 := keepC hb11 qx6; have qx7_0 := keepC hb11 qx7; have qx8_0 := keepC hb11 qx8; have qx9_0 := keepC hb11 qx9; have qx10_0 := keepC hb11 qx10; have qx11_0 := keepC hb11 qx11; have qa0_0 := keepC hb11 qa0; have qa1_0 := keepC hb11 qa1; have qa2_0 := keepC hb11 qa2; have qa3_0 := keepC hb11 qa3; have qa4_0 := keepC hb11 qa4; have qa5_0 := keepC hb11 qa5; have qa6_0 := keepC hb11 qa6; have qa7_0 := keepC hb11 qa7; have qa8_0 := keepC hb11 qa8; have qa9_0 := keepC hb11 qa9; have qa10_0 := keepC hb11 qa10; have qa11_0 := keepC hb11 qa11; have y1c := StrsAt.ofOwn y1c h1.sz; have y2c := StrsAt.ofOwn y2c h2.sz; have yrc := StrsAt.ofOwn yrc hR.sz; have dy1 := dy1.below' hb11; have dy2 := dy2.below' hb11; have dyr := dyr.below' hb11; have dyj := dyj.below' hb11; have dys := dys.below' hb11; have dyo := dyo.below' hb11)
        | (go_at_call 31; refine (eqBoss_any wk up now sn ep gv (some ⟨g1b, 0, none⟩) (some ⟨g2b, 0, none⟩) (some ⟨grb, 0, none⟩) (some ⟨gjb, 0, none⟩) (some ⟨gsb, 0, none⟩) (some ⟨gob, 0, none⟩) n1 n1 n2 n2 nr nr nj nj ns ns no no g1b 0 g2b 0 grb 0 gjb 0 gsb 0 gob 0 L1 L2 R J S O (some ⟨g1c, 0, none⟩) (some ⟨g2c, 0, none⟩) (some ⟨grc, 0, none⟩) (some ⟨gjc, 0, none⟩) (some ⟨gsc, 0, none⟩) (some ⟨goc, 0, none⟩) n1 n2 nr nj ns no g1c 0 g2c 0 grc 0 gjc 0 gsc 0 goc 0 _ dy1 dy2 dyr dyj dys dyo y1c y2c yrc yjc ysc yoc).mono ?_; rintro e v12 ⟨rfl, hb12⟩; have qx0_1 := keepB hb12 qx0_0; have qx1_1 := keepB hb12 qx1_0; have qx2_1 := keepB hb12 qx2_0; have qx3_1 := keepB hb12 qx3_0; have qx4_1 := keepB hb12 qx4_0; have qx5_1 := keepB hb12 qx5_0; have qx6_1 := keepB hb12 qx6_0; have qx7_1 := keepB hb12 qx7_0; have qx8_1 := keepB hb12 qx8_0; have qx9_1 := keepB hb12 qx9_0; have qx10_1 := keepB hb12 qx10_0; have qx11_1 := keepB hb12 qx11_0; have qa0_1 := keepB hb12 qa0_0; have qa1_1 := keepB hb12 qa1_0; have qa2_1 := keepB hb12 qa2_0; have qa3_1 := keepB hb12 qa3_0; have qa4_1 := keepB hb12 qa4_0; have qa5_1 := keepB hb12 qa5_0; have qa6_1 := keepB hb12 qa6_0; have qa7_1 := keepB hb12 qa7_0; have qa8_1 := keepB hb12 qa8_0; have qa9_1 := keepB hb12 qa9_0; have qa10_1 := keepB hb12 qa10_0; have qa11_1 := keepB hb12 qa11_0))
    have hb1012 : Below v10.heap.size v10 v12 := ((Below.refl _ _).drew.trans hb11).trans (hb12.mono hb11.size)
    clear hb11 hb12 bd y1c y2c yrc yjc ysc yoc dy1 dy2 dyr dyj dys dyo qx0 qx0_0 qx0_1 qx1 qx1_0 qx1_1 qx2 qx2_0 qx2_1 qx3 qx3_0 qx3_1 qx4 qx4_0 qx4_1 qx5 qx5_0 qx5_1 qx6 qx6_0 qx6_1 qx7 qx7_0 qx7_1 qx8 qx8_0 qx8_1 qx9 qx9_0 qx9_1 qx10 qx10_0 qx10_1 qx11 qx11_0 qx11_1 qa0 qa0_0 qa0_1 qa1 qa1_0 qa1_1 qa2 qa2_0 qa2_1 qa3 qa3_0 qa3_1 qa4 qa4_0 qa4_1 qa5 qa5_0 qa5_1 qa6 qa6_0 qa6_1 qa7 qa7_0 qa7_1 qa8 qa8_0 qa8_1 qa9 qa9_0 qa9_1 qa10 qa10_0 qa10_1 qa11 qa11_0 qa11_1
    have B_9 := B_8.trans (hb1012.mono B_8.size)
    have A_9 := MC.below A_8 hb1012 lA_8
    have lA_9 := Nat.lt_of_lt_of_le lA_8 hb1012.size
    have P_9 := MC.below P_8 hb1012 lP_8
    have lP_9 := Nat.lt_of_lt_of_le lP_8 hb1012.size
    have Zy1_9 := Zy1_8.below' hb1012
    have Zy2_9 := Zy2_8.below' hb1012
    have Zyr_9 := Zyr_8.below' hb1012
    have Zyj_9 := Zyj_8.below' hb1012
    have Zys_9 := Zys_8.below' hb1012
    have Zyo_9 := Zyo_8.below' hb1012
    have X0_9 := MC.below X0_8 hb1012 lX0_8
    have lX0_9 := Nat.lt_of_lt_of_le lX0_8 hb1012.size
    have TQ_9 := TQ_8.below' hb1012
    have X1_9 := MC.below X1_8 hb1012 lX1_8
    have lX1_9 := Nat.lt_of_lt_of_le lX1_8 hb1012.size
    clear B_8 A_8 lA_8 P_8 lP_8 Zy1_8 Zy2_8 Zyr_8 Zyj_8 Zys_8 Zyo_8 X0_8 lX0_8 TQ_8 X1_8 lX1_8
    have bd := B_9.drew
    have tqd := TQ_9.below' (Below.refl _ _).drew
    have qx : v12.cell? ⟨q8, 0, none⟩ = some (.slice (some ⟨gq, 0, none⟩) pn pn) := X1_9 0 (by simp)
    have qp : v12.cell? ⟨w.heap.size + 1, 0, none⟩ = some (.slice pa pn pc) := P_9 0 (by simp)
    go_upto_region 16 with fail
    go_region_held3 (fun w' => w'.cell? ⟨q8, 0, none⟩ = some (.slice (some ⟨gq, 0, none⟩) pn pn) ∧ w'.cell? ⟨w.heap.size + 1, 0, none⟩ = some (.slice pa pn pc)) (first | (simp [go_sem, *]; done) | assumption)
      (first
        | (go_at_call 17; refine (toPlan_any pa pb po pn pc ts _ (hT.below' bd) hs).mono ?_; rintro e v13 ⟨gu, xu, rfl, _, _, tu, hb13⟩; have qx_0 := keepC hb13 qx; have qp_0 := keepC hb13 qp; have tqd := tqd.below' hb13)
        | (go_at_call 21; refine (eqPlan_any _ _ gq 0 pn pn gu 0 pn ts _ tqd tu).mono ?_; rintro e v14 ⟨rfl, hb14⟩; have qx_1 := keepB hb14 qx_0; have qp_1 := keepB hb14 qp_0))
    have hb1214 : Below v12.heap.size v12 v14 := ((Below.refl _ _).drew.trans hb13).trans (hb14.mono hb13.size)
    clear hb13 hb14
    go_wp2
    go_ret
    exact ⟨rfl, B_9.trans (hb1214.mono B_9.size)⟩
end Go.Proofs.Ytoikcjeagigmfaa
