import Derived.Test.YtaeomkpofcbmiaaGreatQBol
namespace Go.Proofs.YtaeomkpofcbmiaaGreat
open Go.RowKit

set_option maxHeartbeats 1000000 in
theorem szLog_any (a1 a2 : Option Addr) (b1 o1 n1 c1 b2 o2 n2 c2 : Nat) (L1 L2 : List ByteArray) (left : Int) (w : World) (hl0 : 0 ≤ left) (hl1 : left ≤ 1048576) (h1 : StrsAt w a1 b1 o1 n1 L1) (h2 : StrsAt w a2 b2 o2 n2 L2) :
    Calls Tryz.prog 17 #[.agg #[.slice a1 n1 c1, .slice a2 n2 c2], .int .i64 left] w fun e w' => (∃ r, e = .returned (.int .i64 r) ∧ (r = -1 ∨ r = left - (n1 + tot L1) - (n2 + tot L2) ∧ 0 ≤ r)) ∧ Below w.heap.size w w' := by
  obtain ⟨W, hW⟩ : ∃ W, W = w.alloc (.cells #[.slice a1 n1 c1, .slice a2 n2 c2] 24) := ⟨_, rfl⟩
  have hbW : Below w.heap.size w W := by rw [hW]; exact (Below.refl _ _).alloc (Nat.le_refl _) _
  have z1 : W.cell? ⟨w.heap.size, 1, none⟩ = some (.slice a2 n2 c2) := by rw [hW]; exact MC.made w #[.slice a1 n1 c1, .slice a2 n2 c2] 24 1 (by simp)
  go_enter Tryz.func17, Tryz.ntmps17
  go_wp2_with fail
  rw [← hW]
  refine (szStringS_any a1 b1 o1 n1 c1 L1 left _ hl0 hl1 (h1.below' hbW)).mono ?_
  rintro e w' ⟨⟨r, rfl, hr⟩, rfl⟩
  clear hW
  rcases hr with rfl | ⟨hr, hr0⟩
  · go_wp2
    go_ret
    exact ⟨⟨_, rfl, .inl rfl⟩, hbW⟩
  · have hr1 : r ≤ 1048576 := by omega
    have HR := hid hr
    clear hr
    go_wp2_with fail
    refine (szStringS_any a2 b2 o2 n2 c2 L2 r _ hr0 hr1 (h2.below' hbW)).mono ?_
    rintro e w' ⟨⟨r2, rfl, hr2⟩, rfl⟩
    rcases hr2 with rfl | ⟨hr2, hr20⟩
    · go_wp2
      go_ret
      exact ⟨⟨_, rfl, .inl rfl⟩, hbW⟩
    · have HR2 := hid hr2
      clear hr2
      go_wp2
      go_ret
      exact ⟨⟨_, rfl, .inr ⟨by rw [HR2.out, HR.out], hr20⟩⟩, hbW⟩

set_option maxHeartbeats 1000000 in
theorem eqLog_any (a1 a2 a1' a2' : Option Addr) (b1 o1 n1 c1 b2 o2 n2 c2 b1' o1' c1' b2' o2' c2' : Nat) (L1 L2 : List ByteArray) (w : World) (h1 : StrsAt w a1 b1 o1 n1 L1) (h2 : StrsAt w a2 b2 o2 n2 L2) (h1' : StrsAt w a1' b1' o1' n1 L1) (h2' : StrsAt w a2' b2' o2' n2 L2) :
    Calls Tryz.prog 38 #[.agg #[.slice a1 n1 c1, .slice a2 n2 c2], .agg #[.slice a1' n1 c1', .slice a2' n2 c2']] w fun e w' => e = .returned (.bool true) ∧ Below w.heap.size w w' := by
  obtain ⟨W, hW⟩ : ∃ W, W = (w.alloc (.cells #[.slice a1 n1 c1, .slice a2 n2 c2] 35)).alloc (.cells #[.slice a1' n1 c1', .slice a2' n2 c2'] 35) := ⟨_, rfl⟩
  have hb0 : Below w.heap.size w W := by rw [hW]; exact ((Below.refl _ _).alloc (Nat.le_refl _) _).alloc (by simp) _
  have c1' : W.cell? ⟨w.heap.size, 1, none⟩ = some (.slice a2 n2 c2) := by rw [hW]; simp [go_sem]
  have d1' : W.cell? ⟨w.heap.size + 1, 1, none⟩ = some (.slice a2' n2 c2') := by rw [hW]; simp [go_sem]
  have hsz : w.heap.size + 1 < W.heap.size := by rw [hW]; simp
  go_enter Tryz.func38, Tryz.ntmps38
  go_wp2_with fail
  rw [← hW]
  refine (eqStringS_any a1 a1' b1 o1 n1 c1 b1' o1' _ L1 _ (h1.below' hb0) (h1'.below' hb0)).mono ?_
  rintro e' w1 ⟨rfl, hb1⟩
  clear hW
  have k1 := keepB hb1 c1'
  have k2 := keepB hb1 d1'
  have hb := hb0.trans (hb1.mono hb0.size)
  clear hb1 hb0 c1' d1'
  go_wp2_with fail
  refine (eqStringS_any a2 a2' b2 o2 n2 c2 b2' o2' _ L2 _ (h2.below' hb) (h2'.below' hb)).mono ?_
  rintro e' w2 ⟨rfl, hb2⟩
  have hb' := hb.trans (hb2.mono hb.size)
  clear hb2 hb
  go_wp2
  go_ret
  exact ⟨rfl, hb'⟩

set_option maxHeartbeats 2000000 in
set_option maxRecDepth 100000 in
theorem szBoss_any (wk : Int) (up : Bool) (now sn ep gv : Int) (a1 a2 ar aj az ao : Option Addr) (n1 c1 n2 c2 nr cr nj cj ns cs no co : Nat) (bl1 ol1 bl2 ol2 br or' bj oj bs os' bo oo : Nat) (L1 L2 R : List ByteArray) (J : List Tr) (S : List (Bool × Int)) (O : List Tr) (w : World) (h1 : StrsAt w a1 bl1 ol1 n1 L1) (h2 : StrsAt w a2 bl2 ol2 n2 L2) (hR : StrsAt w ar br or' nr R) (hJ : T3At w aj bj oj nj J) (hS : T2At w az bs os' ns S) (hO : T3At w ao bo oo no O) :
    Calls Tryz.prog 4 #[.agg #[.int .i64 wk, .bool up, .int .i64 now, .int .i64 sn, .int .i64 ep, .int .i64 gv, .slice a1 n1 c1, .slice a2 n2 c2, .slice ar nr cr, .slice aj nj cj, .slice az ns cs, .slice ao no co], .int .i64 1048576] w fun e w' => (∃ r, e = .returned (.int .i64 r) ∧ (r = -1 ∨ 0 ≤ r ∧ r ≤ 1048576 ∧ n1 + n2 + nr + nj + ns + no ≤ 1048576)) ∧ Below w.heap.size w w' := by
  obtain ⟨W, hW⟩ : ∃ W, W = w.alloc (.cells #[.int .i64 wk, .bool up, .int .i64 now, .int .i64 sn, .int .i64 ep, .int .i64 gv, .slice a1 n1 c1, .slice a2 n2 c2, .slice ar nr cr, .slice aj nj cj, .slice az ns cs, .slice ao no co] 29) := ⟨_, rfl⟩
  have hbW : Below w.heap.size w W := by rw [hW]; exact (Below.refl _ _).alloc (Nat.le_refl _) _
  have hq : MC W w.heap.size [.int .i64 wk, .bool up, .int .i64 now, .int .i64 sn, .int .i64 ep, .int .i64 gv, .slice a1 n1 c1, .slice a2 n2 c2, .slice ar nr cr, .slice aj nj cj, .slice az ns cs, .slice ao no co] := by rw [hW]; exact MC.made w _ _
  have hlW : w.heap.size < W.heap.size := by rw [hW]; simp
  go_enter Tryz.func4, Tryz.ntmps4
  go_wp2_with fail
  rw [← hW]
  refine (szLog_any a1 a2 bl1 ol1 n1 c1 bl2 ol2 n2 c2 L1 L2 1048576 _ (by omega) (by omega) (h1.below' hbW) (h2.below' hbW)).mono ?_
  rintro e w1 ⟨⟨r, rfl, hr⟩, hb1⟩
  clear hW
  have hb := hbW.trans (hb1.mono hbW.size)
  have z8 : w1.cell? ⟨w.heap.size, 8, none⟩ = some (.slice ar nr cr) := keepB hb1 (hq 8 (by simp))
  have z9 : w1.cell? ⟨w.heap.size, 9, none⟩ = some (.slice aj nj cj) := keepB hb1 (hq 9 (by simp))
  have z10 : w1.cell? ⟨w.heap.size, 10, none⟩ = some (.slice az ns cs) := keepB hb1 (hq 10 (by simp))
  have z11 : w1.cell? ⟨w.heap.size, 11, none⟩ = some (.slice ao no co) := keepB hb1 (hq 11 (by simp))
  have HX : Hid (nj ≤ maxLen ∧ ns ≤ maxLen ∧ no ≤ maxLen) := ⟨hJ.max, hS.max, hO.max⟩
  have HRa := hid (hR.below' hb)
  clear hbW hq hlW hb1 h1 h2 hR hJ hS hO
  rcases hr with rfl | ⟨hr, hr0⟩
  · go_wp2
    go_ret
    exact ⟨⟨_, rfl, .inl rfl⟩, hb⟩
  have hr1 : r ≤ 1048576 := by omega
  have H1 : Hid ((n1 : Int) + n2 ≤ 1048576 - r) := hid (by omega)
  clear hr
  go_wp2_with fail
  refine (szStringS_any ar br or' nr cr R r _ hr0 hr1 HRa.out).mono ?_
  rintro e w' ⟨⟨r2, rfl, hr2⟩, rfl⟩
  rcases hr2 with rfl | ⟨hr2, hr20⟩
  · go_wp2
    go_ret
    exact ⟨⟨_, rfl, .inl rfl⟩, hb⟩
  have hr21 : r2 ≤ 1048576 := by omega
  have H2 : Hid ((n1 : Int) + n2 + nr ≤ 1048576 - r2) := hid (by have := H1.out; omega)
  clear hr2 hr0 hr1 H1 HRa
  go_wp2_with fail
  refine (szJobS_any aj nj cj r2 _ hr20 hr21 HX.out.1).mono ?_
  rintro e w' ⟨⟨r3, rfl, hr3⟩, rfl⟩
  rcases hr3 with rfl | ⟨hr3, hr30⟩
  · go_wp2
    go_ret
    exact ⟨⟨_, rfl, .inl rfl⟩, hb⟩
  have hr31 : r3 ≤ 1048576 := by omega
  have H3 : Hid ((n1 : Int) + n2 + nr + nj ≤ 1048576 - r3) := hid (by have := H2.out; omega)
  clear hr3 hr20 hr21 H2
  go_wp2_with fail
  refine (szSeatS_any az ns cs r3 _ hr30 hr31 HX.out.2.1).mono ?_
  rintro e w' ⟨⟨r4, rfl, hr4⟩, rfl⟩
  rcases hr4 with rfl | ⟨hr4, hr40⟩
  · go_wp2
    go_ret
    exact ⟨⟨_, rfl, .inl rfl⟩, hb⟩
  have hr41 : r4 ≤ 1048576 := by omega
  have H4 : Hid ((n1 : Int) + n2 + nr + nj + ns ≤ 1048576 - r4) := hid (by have := H3.out; omega)
  clear hr4 hr30 hr31 H3
  go_wp2_with fail
  refine (szOwedS_any ao no co r4 _ hr40 hr41 HX.out.2.2).mono ?_
  rintro e w' ⟨⟨r5, rfl, hr5⟩, rfl⟩
  rcases hr5 with rfl | ⟨hr5, hr50⟩
  · go_wp2
    go_ret
    exact ⟨⟨_, rfl, .inl rfl⟩, hb⟩
  have hr51 : r5 ≤ 1048576 := by omega
  have H5 : Hid ((n1 : Int) + n2 + nr + nj + ns + no ≤ 1048576 - r5) := hid (by have := H4.out; omega)
  clear hr5 hr40 hr41 H4
  go_wp2
  go_ret
  exact ⟨⟨_, rfl, .inr ⟨hr50, hr51, by have := H5.out; omega⟩⟩, hb⟩

end Go.Proofs.YtaeomkpofcbmiaaGreat

namespace Go.Proofs.YtaeomkpofcbmiaaGreat
open Go.RowKit

set_option maxHeartbeats 4000000 in
set_option maxRecDepth 100000 in
theorem eqBoss_any (wk : Int) (up : Bool) (now sn ep gv : Int) (a1 a2 ar aj az ao : Option Addr) (n1 c1 n2 c2 nr cr nj cj ns cs no co : Nat) (bl1 ol1 bl2 ol2 br or' bj oj bs os' bo oo : Nat) (L1 L2 R : List ByteArray) (J : List Tr) (S : List (Bool × Int)) (O : List Tr) (a1' a2' ar' aj' az' ao' : Option Addr) (c1' c2' cr' cj' cs' co' : Nat) (dl1 pl1 dl2 pl2 dr pr dj pj ds ps do' po : Nat) (w : World) (h1 : StrsAt w a1 bl1 ol1 n1 L1) (h2 : StrsAt w a2 bl2 ol2 n2 L2) (hR : StrsAt w ar br or' nr R) (hJ : T3At w aj bj oj nj J) (hS : T2At w az bs os' ns S) (hO : T3At w ao bo oo no O) (h1' : StrsAt w a1' dl1 pl1 n1 L1) (h2' : StrsAt w a2' dl2 pl2 n2 L2) (hR' : StrsAt w ar' dr pr nr R) (hJ' : T3At w aj' dj pj nj J) (hS' : T2At w az' ds ps ns S) (hO' : T3At w ao' do' po no O) :
    Calls Tryz.prog 11 #[.agg #[.int .i64 wk, .bool up, .int .i64 now, .int .i64 sn, .int .i64 ep, .int .i64 gv, .slice a1 n1 c1, .slice a2 n2 c2, .slice ar nr cr, .slice aj nj cj, .slice az ns cs, .slice ao no co], .agg #[.int .i64 wk, .bool up, .int .i64 now, .int .i64 sn, .int .i64 ep, .int .i64 gv, .slice a1' n1 c1', .slice a2' n2 c2', .slice ar' nr cr', .slice aj' nj cj', .slice az' ns cs', .slice ao' no co']] w fun e w' => e = .returned (.bool true) ∧ Below w.heap.size w w' := by
  obtain ⟨W, hW⟩ : ∃ W, W = (w.alloc (.cells #[.int .i64 wk, .bool up, .int .i64 now, .int .i64 sn, .int .i64 ep, .int .i64 gv, .slice a1 n1 c1, .slice a2 n2 c2, .slice ar nr cr, .slice aj nj cj, .slice az ns cs, .slice ao no co] 40)).alloc (.cells #[.int .i64 wk, .bool up, .int .i64 now, .int .i64 sn, .int .i64 ep, .int .i64 gv, .slice a1' n1 c1', .slice a2' n2 c2', .slice ar' nr cr', .slice aj' nj cj', .slice az' ns cs', .slice ao' no co'] 40) := ⟨_, rfl⟩
  have B_0 : Below w.heap.size w W := by rw [hW]; exact ((Below.refl _ _).alloc (Nat.le_refl _) _).alloc (by simp) _
  have hs_0 : w.heap.size + 1 < W.heap.size := by rw [hW]; simp
  have A_0 : MC W w.heap.size [.int .i64 wk, .bool up, .int .i64 now, .int .i64 sn, .int .i64 ep, .int .i64 gv, .slice a1 n1 c1, .slice a2 n2 c2, .slice ar nr cr, .slice aj nj cj, .slice az ns cs, .slice ao no co] := by rw [hW]; exact (MC.made w #[.int .i64 wk, .bool up, .int .i64 now, .int .i64 sn, .int .i64 ep, .int .i64 gv, .slice a1 n1 c1, .slice a2 n2 c2, .slice ar nr cr, .slice aj nj cj, .slice az ns cs, .slice ao no co] 40).block (Below.heap_alloc _ _ _ (by simp))
  have D_0 : MC W (w.heap.size + 1) [.int .i64 wk, .bool up, .int .i64 now, .int .i64 sn, .int .i64 ep, .int .i64 gv, .slice a1' n1 c1', .slice a2' n2 c2', .slice ar' nr cr', .slice aj' nj cj', .slice az' ns cs', .slice ao' no co'] := by
    have := MC.made (w.alloc (.cells #[.int .i64 wk, .bool up, .int .i64 now, .int .i64 sn, .int .i64 ep, .int .i64 gv, .slice a1 n1 c1, .slice a2 n2 c2, .slice ar nr cr, .slice aj nj cj, .slice az ns cs, .slice ao no co] 40)) #[.int .i64 wk, .bool up, .int .i64 now, .int .i64 sn, .int .i64 ep, .int .i64 gv, .slice a1' n1 c1', .slice a2' n2 c2', .slice ar' nr cr', .slice aj' nj cj', .slice az' ns cs', .slice ao' no co'] 40
    rw [World.size_alloc] at this
    rw [hW]; exact this
  cases up
  all_goals
    go_enter Tryz.func11, Tryz.ntmps11
    go_wp2_with fail
    rw [← hW]
    clear hW
    refine (eqLog_any a1 a2 a1' a2' bl1 ol1 n1 c1 bl2 ol2 n2 c2 dl1 pl1 c1' dl2 pl2 c2' L1 L2 _ (h1.below' B_0) (h2.below' B_0) (h1'.below' B_0) (h2'.below' B_0)).mono ?_
    rintro e' w1 ⟨rfl, hb⟩
    have hl := hb.size
    have A_1 := A_0.below hb (by omega)
    have D_1 := D_0.below hb (by omega)
    have B_1 := B_0.trans (hb.mono B_0.size)
    have hs_1 : w.heap.size + 1 < w1.heap.size := by omega
    clear A_0 D_0 B_0 hs_0 hb hl
    have z := A_1 8 (by simp)
    have y := D_1 8 (by simp)
    simp only [List.getElem?_cons_zero, List.getElem?_cons_succ] at z y
    go_wp2_with fail
    clear z y
    refine (eqStringS_any ar ar' br or' nr cr dr pr cr' R _ (hR.below' B_1) (hR'.below' B_1)).mono ?_
    rintro e' w2 ⟨rfl, hb⟩
    have hl := hb.size
    have A_2 := A_1.below hb (by omega)
    have D_2 := D_1.below hb (by omega)
    have B_2 := B_1.trans (hb.mono B_1.size)
    have hs_2 : w.heap.size + 1 < w2.heap.size := by omega
    clear A_1 D_1 B_1 hs_1 hb hl
    have z := A_2 9 (by simp)
    have y := D_2 9 (by simp)
    simp only [List.getElem?_cons_zero, List.getElem?_cons_succ] at z y
    go_wp2_with fail
    clear z y
    refine (eqJobS_any aj aj' bj oj nj cj dj pj cj' J _ (hJ.below' B_2) (hJ'.below' B_2)).mono ?_
    rintro e' w3 ⟨rfl, hb⟩
    have hl := hb.size
    have A_3 := A_2.below hb (by omega)
    have D_3 := D_2.below hb (by omega)
    have B_3 := B_2.trans (hb.mono B_2.size)
    have hs_3 : w.heap.size + 1 < w3.heap.size := by omega
    clear A_2 D_2 B_2 hs_2 hb hl
    have z := A_3 10 (by simp)
    have y := D_3 10 (by simp)
    simp only [List.getElem?_cons_zero, List.getElem?_cons_succ] at z y
    go_wp2_with fail
    clear z y
    refine (eqSeatS_any az az' bs os' ns cs ds ps cs' S _ (hS.below' B_3) (hS'.below' B_3)).mono ?_
    rintro e' w4 ⟨rfl, hb⟩
    have hl := hb.size
    have A_4 := A_3.below hb (by omega)
    have D_4 := D_3.below hb (by omega)
    have B_4 := B_3.trans (hb.mono B_3.size)
    have hs_4 : w.heap.size + 1 < w4.heap.size := by omega
    clear A_3 D_3 B_3 hs_3 hb hl
    have z := A_4 11 (by simp)
    have y := D_4 11 (by simp)
    simp only [List.getElem?_cons_zero, List.getElem?_cons_succ] at z y
    go_wp2_with fail
    clear z y
    refine (eqOwedS_any ao ao' bo oo no co do' po co' O _ (hO.below' B_4) (hO'.below' B_4)).mono ?_
    rintro e' w5 ⟨rfl, hb⟩
    have hl := hb.size
    have A_5 := A_4.below hb (by omega)
    have D_5 := D_4.below hb (by omega)
    have B_5 := B_4.trans (hb.mono B_4.size)
    have hs_5 : w.heap.size + 1 < w5.heap.size := by omega
    clear A_4 D_4 B_4 hs_4 hb hl
    go_wp2
    go_ret
    exact ⟨rfl, B_5⟩

end Go.Proofs.YtaeomkpofcbmiaaGreat
