import Derived.Test.YthopfmhagddhgaaGreatQWlb
import Derived.Test.YthopfmhagddhgaaGreatQWlc
namespace Go.Proofs.YthopfmhagddhgaaGreat
open Go.RowKit

set_option maxHeartbeats 4000000 in
set_option maxRecDepth 100000 in
theorem eqWorld_any (pa : Option Addr) (pb po pn pq : Nat) (ts : List TaskD) (key : ByteArray) (d : BD) (v0 v1 v2 v3 v4 v5 v6 v7 v8 v9 v10 v11 : Value) (wa : Option Addr) (wb wo wn wc : Nat) (Ws : List WkD) (fa : Option Addr) (fb fo fn fc : Nat) (Fl : List Pc) (fg : ByteArray) (pa' : Option Addr) (pb' po' pq' : Nat) (u0 u1 u2 u3 u4 u5 u6 u7 u8 u9 u10 u11 : Value) (wa' : Option Addr) (wb' wo' wc' : Nat) (fa' : Option Addr) (fb' fo' fc' : Nat) (w : World) (hT : TasksAt w pa pb po pn ts) (hV : BossV w d [v0, v1, v2, v3, v4, v5, v6, v7, v8, v9, v10, v11]) (hW : WrAt w wa wb wo wn Ws) (hF : PcAt w fa fb fo fn Fl) (hT' : TasksAt w pa' pb' po' pn ts) (hV' : BossV w d [u0, u1, u2, u3, u4, u5, u6, u7, u8, u9, u10, u11]) (hW' : WrAt w wa' wb' wo' wn Ws) (hF' : PcAt w fa' fb' fo' fn Fl) :
    Calls Tryz.prog 11 #[.agg #[.slice pa pn pq, .string key, v0, v1, v2, v3, v4, v5, v6, v7, v8, v9, v10, v11, .slice wa wn wc, .slice fa fn fc, .string fg], .agg #[.slice pa' pn pq', .string key, u0, u1, u2, u3, u4, u5, u6, u7, u8, u9, u10, u11, .slice wa' wn wc', .slice fa' fn fc', .string fg]] w fun e w' => e = .returned (.bool true) ∧ Below w.heap.size w w' := by
  obtain ⟨W, hWd⟩ : ∃ W, W = (w.alloc (.cells #[.slice pa pn pq, .string key, v0, v1, v2, v3, v4, v5, v6, v7, v8, v9, v10, v11, .slice wa wn wc, .slice fa fn fc, .string fg] 51)).alloc (.cells #[.slice pa' pn pq', .string key, u0, u1, u2, u3, u4, u5, u6, u7, u8, u9, u10, u11, .slice wa' wn wc', .slice fa' fn fc', .string fg] 51) := ⟨_, rfl⟩
  have B_0 : Below w.heap.size w W := by rw [hWd]; exact ((Below.refl _ _).alloc (Nat.le_refl _) _).alloc (by simp) _
  have l_0 : w.heap.size + 1 < W.heap.size := by rw [hWd]; simp
  have A_0 : MC W w.heap.size [.slice pa pn pq, .string key, v0, v1, v2, v3, v4, v5, v6, v7, v8, v9, v10, v11, .slice wa wn wc, .slice fa fn fc, .string fg] := by rw [hWd]; exact (MC.made w #[.slice pa pn pq, .string key, v0, v1, v2, v3, v4, v5, v6, v7, v8, v9, v10, v11, .slice wa wn wc, .slice fa fn fc, .string fg] 51).block (Below.heap_alloc _ _ _ (by simp))
  have D_0 : MC W (w.heap.size + 1) [.slice pa' pn pq', .string key, u0, u1, u2, u3, u4, u5, u6, u7, u8, u9, u10, u11, .slice wa' wn wc', .slice fa' fn fc', .string fg] := by
    have := MC.made (w.alloc (.cells #[.slice pa pn pq, .string key, v0, v1, v2, v3, v4, v5, v6, v7, v8, v9, v10, v11, .slice wa wn wc, .slice fa fn fc, .string fg] 51)) #[.slice pa' pn pq', .string key, u0, u1, u2, u3, u4, u5, u6, u7, u8, u9, u10, u11, .slice wa' wn wc', .slice fa' fn fc', .string fg] 51
    rw [World.size_alloc] at this
    rw [hWd]; exact this
  obtain ⟨pA, hpA⟩ : ∃ q, q = w.heap.size := ⟨_, rfl⟩
  obtain ⟨pD, hpD⟩ : ∃ q, q = w.heap.size + 1 := ⟨_, rfl⟩
  go_enter Tryz.func11, Tryz.ntmps11
  go_upto_region 1 with fail
  rw [← hWd]
  rw [← hpA] at A_0
  rw [← hpD] at D_0 l_0
  rw [← hpD, ← hpA]
  have hAD : pA < pD := by omega
  clear hWd hpA hpD
  have z0 : W.cell? ⟨pA, 0, none⟩ = some (.slice pa pn pq) := A_0 0 (by simp)
  have y0 : W.cell? ⟨pD, 0, none⟩ = some (.slice pa' pn pq') := D_0 0 (by simp)
  have HC := hid (eqPlan_any pa pa' pb po pn pq pb' po' pq' ts W (hT.below' B_0) (hT'.below' B_0))
  go_wp2_with fail
  refine HC.out.mono ?_
  rintro e x1 ⟨rfl, hb⟩
  have B_1 := B_0.trans (hb.mono B_0.size)
  have A_1 := A_0.below hb (by omega)
  have D_1 := D_0.below hb (by omega)
  have l_1 : pD < x1.heap.size := by have := hb.size; omega
  clear B_0 A_0 D_0 l_0 hb HC z0 y0
  have z1 : x1.cell? ⟨pA, 1, none⟩ = some (.string key) := A_1 1 (by simp)
  have y1 : x1.cell? ⟨pD, 1, none⟩ = some (.string key) := D_1 1 (by simp)
  have z2 : x1.cell? ⟨pA, 2, none⟩ = some (v0) := A_1 2 (by simp)
  have y2 : x1.cell? ⟨pD, 2, none⟩ = some (u0) := D_1 2 (by simp)
  have z3 : x1.cell? ⟨pA, 3, none⟩ = some (v1) := A_1 3 (by simp)
  have y3 : x1.cell? ⟨pD, 3, none⟩ = some (u1) := D_1 3 (by simp)
  have z4 : x1.cell? ⟨pA, 4, none⟩ = some (v2) := A_1 4 (by simp)
  have y4 : x1.cell? ⟨pD, 4, none⟩ = some (u2) := D_1 4 (by simp)
  have z5 : x1.cell? ⟨pA, 5, none⟩ = some (v3) := A_1 5 (by simp)
  have y5 : x1.cell? ⟨pD, 5, none⟩ = some (u3) := D_1 5 (by simp)
  have z6 : x1.cell? ⟨pA, 6, none⟩ = some (v4) := A_1 6 (by simp)
  have y6 : x1.cell? ⟨pD, 6, none⟩ = some (u4) := D_1 6 (by simp)
  have z7 : x1.cell? ⟨pA, 7, none⟩ = some (v5) := A_1 7 (by simp)
  have y7 : x1.cell? ⟨pD, 7, none⟩ = some (u5) := D_1 7 (by simp)
  have z8 : x1.cell? ⟨pA, 8, none⟩ = some (v6) := A_1 8 (by simp)
  have y8 : x1.cell? ⟨pD, 8, none⟩ = some (u6) := D_1 8 (by simp)
  have z9 : x1.cell? ⟨pA, 9, none⟩ = some (v7) := A_1 9 (by simp)
  have y9 : x1.cell? ⟨pD, 9, none⟩ = some (u7) := D_1 9 (by simp)
  have z10 : x1.cell? ⟨pA, 10, none⟩ = some (v8) := A_1 10 (by simp)
  have y10 : x1.cell? ⟨pD, 10, none⟩ = some (u8) := D_1 10 (by simp)
  have z11 : x1.cell? ⟨pA, 11, none⟩ = some (v9) := A_1 11 (by simp)
  have y11 : x1.cell? ⟨pD, 11, none⟩ = some (u9) := D_1 11 (by simp)
  have z12 : x1.cell? ⟨pA, 12, none⟩ = some (v10) := A_1 12 (by simp)
  have y12 : x1.cell? ⟨pD, 12, none⟩ = some (u10) := D_1 12 (by simp)
  have z13 : x1.cell? ⟨pA, 13, none⟩ = some (v11) := A_1 13 (by simp)
  have y13 : x1.cell? ⟨pD, 13, none⟩ = some (u11) := D_1 13 (by simp)
  have HC := hid (eqBossV_any d v0 v1 v2 v3 v4 v5 v6 v7 v8 v9 v10 v11 u0 u1 u2 u3 u4 u5 u6 u7 u8 u9 u10 u11 x1 (hV.below' B_1) (hV'.below' B_1))
  go_wp2_with fail
  refine HC.out.mono ?_
  rintro e x2 ⟨rfl, hb⟩
  have B_2 := B_1.trans (hb.mono B_1.size)
  have A_2 := A_1.below hb (by omega)
  have D_2 := D_1.below hb (by omega)
  have l_2 : pD < x2.heap.size := by have := hb.size; omega
  clear B_1 A_1 D_1 l_1 hb HC z1 y1 z2 y2 z3 y3 z4 y4 z5 y5 z6 y6 z7 y7 z8 y8 z9 y9 z10 y10 z11 y11 z12 y12 z13 y13
  have z14 : x2.cell? ⟨pA, 14, none⟩ = some (.slice wa wn wc) := A_2 14 (by simp)
  have y14 : x2.cell? ⟨pD, 14, none⟩ = some (.slice wa' wn wc') := D_2 14 (by simp)
  have HC := hid (eqWorkerS_any wa wa' wb wo wn wc wb' wo' wc' Ws x2 (hW.below' B_2) (hW'.below' B_2))
  go_wp2_with fail
  refine HC.out.mono ?_
  rintro e x3 ⟨rfl, hb⟩
  have B_3 := B_2.trans (hb.mono B_2.size)
  have A_3 := A_2.below hb (by omega)
  have D_3 := D_2.below hb (by omega)
  have l_3 : pD < x3.heap.size := by have := hb.size; omega
  clear B_2 A_2 D_2 l_2 hb HC z14 y14
  have z15 : x3.cell? ⟨pA, 15, none⟩ = some (.slice fa fn fc) := A_3 15 (by simp)
  have y15 : x3.cell? ⟨pD, 15, none⟩ = some (.slice fa' fn fc') := D_3 15 (by simp)
  have HC := hid (eqParcelS_any fa fa' fb fo fn fc fb' fo' fc' Fl x3 (hF.below' B_3) (hF'.below' B_3))
  go_wp2_with fail
  refine HC.out.mono ?_
  rintro e x4 ⟨rfl, hb⟩
  have B_4 := B_3.trans (hb.mono B_3.size)
  have A_4 := A_3.below hb (by omega)
  have D_4 := D_3.below hb (by omega)
  have l_4 : pD < x4.heap.size := by have := hb.size; omega
  clear B_3 A_3 D_3 l_3 hb HC z15 y15
  have z16 : x4.cell? ⟨pA, 16, none⟩ = some (.string fg) := A_4 16 (by simp)
  have y16 : x4.cell? ⟨pD, 16, none⟩ = some (.string fg) := D_4 16 (by simp)
  go_wp2
  go_ret
  exact ⟨rfl, B_4⟩
end Go.Proofs.YthopfmhagddhgaaGreat
