
/-
  laws.eqBoss.
-/
import Derived.Test.YtoikcjeagigmfaaBom
namespace Go.Proofs.Ytoikcjeagigmfaa
open Go.RowKit

set_option maxHeartbeats 4000000 in
set_option maxRecDepth 100000 in
theorem eqBoss_any (wk : Int) (up : Bool) (now sn ep gv : Int) (a1 a2 ar aj az ao : Option Addr) (n1 c1 n2 c2 nr cr nj cj ns cs no co : Nat) (bl1 ol1 bl2 ol2 br or' bj oj bs os' bo oo : Nat) (L1 L2 R : List ByteArray) (J : List Tr) (S : List (Bool × Int)) (O : List Tr) (a1' a2' ar' aj' az' ao' : Option Addr) (c1' c2' cr' cj' cs' co' : Nat) (dl1 pl1 dl2 pl2 dr pr dj pj ds ps do' po : Nat) (w : World) (h1 : StrsAt w a1 bl1 ol1 n1 L1) (h2 : StrsAt w a2 bl2 ol2 n2 L2) (hR : StrsAt w ar br or' nr R) (hJ : T3At w aj bj oj nj J) (hS : T2At w az bs os' ns S) (hO : T3At w ao bo oo no O) (h1' : StrsAt w a1' dl1 pl1 n1 L1) (h2' : StrsAt w a2' dl2 pl2 n2 L2) (hR' : StrsAt w ar' dr pr nr R) (hJ' : T3At w aj' dj pj nj J) (hS' : T2At w az' ds ps ns S) (hO' : T3At w ao' do' po no O) :
    Calls Try.prog 31 #[.agg #[.int .i64 wk, .bool up, .int .i64 now, .int .i64 sn, .int .i64 ep, .int .i64 gv, .slice a1 n1 c1, .slice a2 n2 c2, .slice ar nr cr, .slice aj nj cj, .slice az ns cs, .slice ao no co], .agg #[.int .i64 wk, .bool up, .int .i64 now, .int .i64 sn, .int .i64 ep, .int .i64 gv, .slice a1' n1 c1', .slice a2' n2 c2', .slice ar' nr cr', .slice aj' nj cj', .slice az' ns cs', .slice ao' no co']] w fun e w' => e = .returned (.bool true) ∧ Below w.heap.size w w' := by
  obtain ⟨W, hW⟩ : ∃ W, W = (w.alloc (.cells #[.int .i64 wk, .bool up, .int .i64 now, .int .i64 sn, .int .i64 ep, .int .i64 gv, .slice a1 n1 c1, .slice a2 n2 c2, .slice ar nr cr, .slice aj nj cj, .slice az ns cs, .slice ao no co] 67)).alloc (.cells #[.int .i64 wk, .bool up, .int .i64 now, .int .i64 sn, .int .i64 ep, .int .i64 gv, .slice a1' n1 c1', .slice a2' n2 c2', .slice ar' nr cr', .slice aj' nj cj', .slice az' ns cs', .slice ao' no co'] 67) := ⟨_, rfl⟩
  have B_0 : Below w.heap.size w W := by rw [hW]; exact ((Below.refl _ _).alloc (Nat.le_refl _) _).alloc (by simp) _
  have hs_0 : w.heap.size + 1 < W.heap.size := by rw [hW]; simp
  have A_0 : MC W w.heap.size [.int .i64 wk, .bool up, .int .i64 now, .int .i64 sn, .int .i64 ep, .int .i64 gv, .slice a1 n1 c1, .slice a2 n2 c2, .slice ar nr cr, .slice aj nj cj, .slice az ns cs, .slice ao no co] := by rw [hW]; exact (MC.made w #[.int .i64 wk, .bool up, .int .i64 now, .int .i64 sn, .int .i64 ep, .int .i64 gv, .slice a1 n1 c1, .slice a2 n2 c2, .slice ar nr cr, .slice aj nj cj, .slice az ns cs, .slice ao no co] 67).block (Below.heap_alloc _ _ _ (by simp))
  have D_0 : MC W (w.heap.size + 1) [.int .i64 wk, .bool up, .int .i64 now, .int .i64 sn, .int .i64 ep, .int .i64 gv, .slice a1' n1 c1', .slice a2' n2 c2', .slice ar' nr cr', .slice aj' nj cj', .slice az' ns cs', .slice ao' no co'] := by
    have := MC.made (w.alloc (.cells #[.int .i64 wk, .bool up, .int .i64 now, .int .i64 sn, .int .i64 ep, .int .i64 gv, .slice a1 n1 c1, .slice a2 n2 c2, .slice ar nr cr, .slice aj nj cj, .slice az ns cs, .slice ao no co] 67)) #[.int .i64 wk, .bool up, .int .i64 now, .int .i64 sn, .int .i64 ep, .int .i64 gv, .slice a1' n1 c1', .slice a2' n2 c2', .slice ar' nr cr', .slice aj' nj cj', .slice az' ns cs', .slice ao' no co'] 67
    rw [World.size_alloc] at this
    rw [hW]; exact this
  cases up
  all_goals
    go_enter Try.func31, Try.ntmps31
    go_wp2_with fail
    rw [← hW]
    clear hW
    refine (eqLog_any a1 a2 a1' a2' bl1 ol1 n1 c1 bl2 ol2 n2 c2 dl1 pl1 c1' dl2 pl2 c2' L1 L2 _ (h1.below' B_0) (h2.below' B_0) (h1'.below' B_0) (h2'.below' B_0)).mono ?_
    rintro e' w1 ⟨rfl, hb⟩
    have hl := hb.size
    have A_1 := A_0.below hb (by omega)
    have D_1 := D_0.below hb (by omega)
    have B_1 := B_0.trans (hb.mono B_0.size)
    have hs_1 : w.heap.size + 1 < w1.heap.size := by omega
    clear A_0 D_0 B_0 hs_0 hb hl
    have z := A_1 8 (by simp)
    have y := D_1 8 (by simp)
    simp only [List.getElem?_cons_zero, List.getElem?_cons_succ] at z y
    go_wp2_with fail
    clear z y
    refine (eqStringS_any ar ar' br or' nr cr dr pr cr' R _ (hR.below' B_1) (hR'.below' B_1)).mono ?_
    rintro e' w2 ⟨rfl, hb⟩
    have hl := hb.size
    have A_2 := A_1.below hb (by omega)
    have D_2 := D_1.below hb (by omega)
    have B_2 := B_1.trans (hb.mono B_1.size)
    have hs_2 : w.heap.size + 1 < w2.heap.size := by omega
    clear A_1 D_1 B_1 hs_1 hb hl
    have z := A_2 9 (by simp)
    have y := D_2 9 (by simp)
    simp only [List.getElem?_cons_zero, List.getElem?_cons_succ] at z y
    go_wp2_with fail
    clear z y
    refine (eqJobS_any aj aj' bj oj nj cj dj pj cj' J _ (hJ.below' B_2) (hJ'.below' B_2)).mono ?_
    rintro e' w3 ⟨rfl, hb⟩
    have hl := hb.size
    have A_3 := A_2.below hb (by omega)
    have D_3 := D_2.below hb (by omega)
    have B_3 := B_2.trans (hb.mono B_2.size)
    have hs_3 : w.heap.size + 1 < w3.heap.size := by omega
    clear A_2 D_2 B_2 hs_2 hb hl
    have z := A_3 10 (by simp)
    have y := D_3 10 (by simp)
    simp only [List.getElem?_cons_zero, List.getElem?_cons_succ] at z y
    go_wp2_with fail
    clear z y
    refine (eqSeatS_any az az' bs os' ns cs ds ps cs' S _ (hS.below' B_3) (hS'.below' B_3)).mono ?_
    rintro e' w4 ⟨rfl, hb⟩
    have hl := hb.size
    have A_4 := A_3.below hb (by omega)
    have D_4 := D_3.below hb (by omega)
    have B_4 := B_3.trans (hb.mono B_3.size)
    have hs_4 : w.heap.size + 1 < w4.heap.size := by omega
    clear A_3 D_3 B_3 hs_3 hb hl
    have z := A_4 11 (by simp)
    have y := D_4 11 (by simp)
    simp only [List.getElem?_cons_zero, List.getElem?_cons_succ] at z y
    go_wp2_with fail
    clear z y
    refine (eqOwedS_any ao ao' bo oo no co do' po co' O _ (hO.below' B_4) (hO'.below' B_4)).mono ?_
    rintro e' w5 ⟨rfl, hb⟩
    have hl := hb.size
    have A_5 := A_4.below hb (by omega)
    have D_5 := D_4.below hb (by omega)
    have B_5 := B_4.trans (hb.mono B_4.size)
    have hs_5 : w.heap.size + 1 < w5.heap.size := by omega
    clear A_4 D_4 B_4 hs_4 hb hl
    go_wp2
    go_ret
    exact ⟨rfl, B_5⟩

end Go.Proofs.Ytoikcjeagigmfaa
