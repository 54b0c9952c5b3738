
/-
  laws.szLog, szBoss; toLog, toBoss; eqLog, eqBoss.
-/
import Derived.Test.YtoikcjeagigmfaaBol
namespace Go.Proofs.Ytoikcjeagigmfaa
open Go.RowKit

set_option maxHeartbeats 1000000 in
theorem szLog_any (a1 a2 : Option Addr) (b1 o1 n1 c1 b2 o2 n2 c2 : Nat) (L1 L2 : List ByteArray) (left : Int) (w : World) (hl0 : 0 ≤ left) (hl1 : left ≤ 1048576) (h1 : StrsAt w a1 b1 o1 n1 L1) (h2 : StrsAt w a2 b2 o2 n2 L2) :
    Calls Try.prog 49 #[.agg #[.slice a1 n1 c1, .slice a2 n2 c2], .int .i64 left] w fun e w' => (∃ r, e = .returned (.int .i64 r) ∧ (r = -1 ∨ r = left - (n1 + tot L1) - (n2 + tot L2) ∧ 0 ≤ r)) ∧ Below w.heap.size w w' := by
  obtain ⟨W, hW⟩ : ∃ W, W = w.alloc (.cells #[.slice a1 n1 c1, .slice a2 n2 c2] 54) := ⟨_, rfl⟩
  have hbW : Below w.heap.size w W := by rw [hW]; exact (Below.refl _ _).alloc (Nat.le_refl _) _
  have z1 : W.cell? ⟨w.heap.size, 1, none⟩ = some (.slice a2 n2 c2) := by rw [hW]; exact MC.made w #[.slice a1 n1 c1, .slice a2 n2 c2] 54 1 (by simp)
  go_enter Try.func49, Try.ntmps49
  go_wp2_with fail
  rw [← hW]
  refine (szStringS_any a1 b1 o1 n1 c1 L1 left _ hl0 hl1 (h1.below' hbW)).mono ?_
  rintro e w' ⟨⟨r, rfl, hr⟩, rfl⟩
  clear hW
  rcases hr with rfl | ⟨hr, hr0⟩
  · go_wp2
    go_ret
    exact ⟨⟨_, rfl, .inl rfl⟩, hbW⟩
  · have hr1 : r ≤ 1048576 := by omega
    have HR := hid hr
    clear hr
    go_wp2_with fail
    refine (szStringS_any a2 b2 o2 n2 c2 L2 r _ hr0 hr1 (h2.below' hbW)).mono ?_
    rintro e w' ⟨⟨r2, rfl, hr2⟩, rfl⟩
    rcases hr2 with rfl | ⟨hr2, hr20⟩
    · go_wp2
      go_ret
      exact ⟨⟨_, rfl, .inl rfl⟩, hbW⟩
    · have HR2 := hid hr2
      clear hr2
      go_wp2
      go_ret
      exact ⟨⟨_, rfl, .inr ⟨by rw [HR2.out, HR.out], hr20⟩⟩, hbW⟩

set_option maxHeartbeats 1000000 in
theorem eqLog_any (a1 a2 a1' a2' : Option Addr) (b1 o1 n1 c1 b2 o2 n2 c2 b1' o1' c1' b2' o2' c2' : Nat) (L1 L2 : List ByteArray) (w : World) (h1 : StrsAt w a1 b1 o1 n1 L1) (h2 : StrsAt w a2 b2 o2 n2 L2) (h1' : StrsAt w a1' b1' o1' n1 L1) (h2' : StrsAt w a2' b2' o2' n2 L2) :
    Calls Try.prog 67 #[.agg #[.slice a1 n1 c1, .slice a2 n2 c2], .agg #[.slice a1' n1 c1', .slice a2' n2 c2']] w fun e w' => e = .returned (.bool true) ∧ Below w.heap.size w w' := by
  obtain ⟨W, hW⟩ : ∃ W, W = (w.alloc (.cells #[.slice a1 n1 c1, .slice a2 n2 c2] 62)).alloc (.cells #[.slice a1' n1 c1', .slice a2' n2 c2'] 62) := ⟨_, rfl⟩
  have hb0 : Below w.heap.size w W := by rw [hW]; exact ((Below.refl _ _).alloc (Nat.le_refl _) _).alloc (by simp) _
  have c1' : W.cell? ⟨w.heap.size, 1, none⟩ = some (.slice a2 n2 c2) := by rw [hW]; simp [go_sem]
  have d1' : W.cell? ⟨w.heap.size + 1, 1, none⟩ = some (.slice a2' n2 c2') := by rw [hW]; simp [go_sem]
  have hsz : w.heap.size + 1 < W.heap.size := by rw [hW]; simp
  go_enter Try.func67, Try.ntmps67
  go_wp2_with fail
  rw [← hW]
  refine (eqStringS_any a1 a1' b1 o1 n1 c1 b1' o1' _ L1 _ (h1.below' hb0) (h1'.below' hb0)).mono ?_
  rintro e' w1 ⟨rfl, hb1⟩
  clear hW
  have k1 := keepB hb1 c1'
  have k2 := keepB hb1 d1'
  have hb := hb0.trans (hb1.mono hb0.size)
  clear hb1 hb0 c1' d1'
  go_wp2_with fail
  refine (eqStringS_any a2 a2' b2 o2 n2 c2 b2' o2' _ L2 _ (h2.below' hb) (h2'.below' hb)).mono ?_
  rintro e' w2 ⟨rfl, hb2⟩
  have hb' := hb.trans (hb2.mono hb.size)
  clear hb2 hb
  go_wp2
  go_ret
  exact ⟨rfl, hb'⟩

set_option maxHeartbeats 2000000 in
set_option maxRecDepth 100000 in
theorem szBoss_any (wk : Int) (up : Bool) (now sn ep gv : Int) (a1 a2 ar aj az ao : Option Addr) (n1 c1 n2 c2 nr cr nj cj ns cs no co : Nat) (bl1 ol1 bl2 ol2 br or' bj oj bs os' bo oo : Nat) (L1 L2 R : List ByteArray) (J : List Tr) (S : List (Bool × Int)) (O : List Tr) (w : World) (h1 : StrsAt w a1 bl1 ol1 n1 L1) (h2 : StrsAt w a2 bl2 ol2 n2 L2) (hR : StrsAt w ar br or' nr R) (hJ : T3At w aj bj oj nj J) (hS : T2At w az bs os' ns S) (hO : T3At w ao bo oo no O) :
    Calls Try.prog 27 #[.agg #[.int .i64 wk, .bool up, .int .i64 now, .int .i64 sn, .int .i64 ep, .int .i64 gv, .slice a1 n1 c1, .slice a2 n2 c2, .slice ar nr cr, .slice aj nj cj, .slice az ns cs, .slice ao no co], .int .i64 1048576] w fun e w' => (∃ r, e = .returned (.int .i64 r) ∧ (r = -1 ∨ 0 ≤ r ∧ r ≤ 1048576 ∧ n1 + n2 + nr + nj + ns + no ≤ 1048576)) ∧ Below w.heap.size w w' := by
  obtain ⟨W, hW⟩ : ∃ W, W = w.alloc (.cells #[.int .i64 wk, .bool up, .int .i64 now, .int .i64 sn, .int .i64 ep, .int .i64 gv, .slice a1 n1 c1, .slice a2 n2 c2, .slice ar nr cr, .slice aj nj cj, .slice az ns cs, .slice ao no co] 59) := ⟨_, rfl⟩
  have hbW : Below w.heap.size w W := by rw [hW]; exact (Below.refl _ _).alloc (Nat.le_refl _) _
  have hq : MC W w.heap.size [.int .i64 wk, .bool up, .int .i64 now, .int .i64 sn, .int .i64 ep, .int .i64 gv, .slice a1 n1 c1, .slice a2 n2 c2, .slice ar nr cr, .slice aj nj cj, .slice az ns cs, .slice ao no co] := by rw [hW]; exact MC.made w _ _
  have hlW : w.heap.size < W.heap.size := by rw [hW]; simp
  go_enter Try.func27, Try.ntmps27
  go_wp2_with fail
  rw [← hW]
  refine (szLog_any a1 a2 bl1 ol1 n1 c1 bl2 ol2 n2 c2 L1 L2 1048576 _ (by omega) (by omega) (h1.below' hbW) (h2.below' hbW)).mono ?_
  rintro e w1 ⟨⟨r, rfl, hr⟩, hb1⟩
  clear hW
  have hb := hbW.trans (hb1.mono hbW.size)
  have z8 : w1.cell? ⟨w.heap.size, 8, none⟩ = some (.slice ar nr cr) := keepB hb1 (hq 8 (by simp))
  have z9 : w1.cell? ⟨w.heap.size, 9, none⟩ = some (.slice aj nj cj) := keepB hb1 (hq 9 (by simp))
  have z10 : w1.cell? ⟨w.heap.size, 10, none⟩ = some (.slice az ns cs) := keepB hb1 (hq 10 (by simp))
  have z11 : w1.cell? ⟨w.heap.size, 11, none⟩ = some (.slice ao no co) := keepB hb1 (hq 11 (by simp))
  have HX : Hid (nj ≤ maxLen ∧ ns ≤ maxLen ∧ no ≤ maxLen) := ⟨hJ.max, hS.max, hO.max⟩
  have HRa := hid (hR.below' hb)
  clear hbW hq hlW hb1 h1 h2 hR hJ hS hO
  rcases hr with rfl | ⟨hr, hr0⟩
  · go_wp2
    go_ret
    exact ⟨⟨_, rfl, .inl rfl⟩, hb⟩
  have hr1 : r ≤ 1048576 := by omega
  have H1 : Hid ((n1 : Int) + n2 ≤ 1048576 - r) := hid (by omega)
  clear hr
  go_wp2_with fail
  refine (szStringS_any ar br or' nr cr R r _ hr0 hr1 HRa.out).mono ?_
  rintro e w' ⟨⟨r2, rfl, hr2⟩, rfl⟩
  rcases hr2 with rfl | ⟨hr2, hr20⟩
  · go_wp2
    go_ret
    exact ⟨⟨_, rfl, .inl rfl⟩, hb⟩
  have hr21 : r2 ≤ 1048576 := by omega
  have H2 : Hid ((n1 : Int) + n2 + nr ≤ 1048576 - r2) := hid (by have := H1.out; omega)
  clear hr2 hr0 hr1 H1 HRa
  go_wp2_with fail
  refine (szJobS_any aj nj cj r2 _ hr20 hr21 HX.out.1).mono ?_
  rintro e w' ⟨⟨r3, rfl, hr3⟩, rfl⟩
  rcases hr3 with rfl | ⟨hr3, hr30⟩
  · go_wp2
    go_ret
    exact ⟨⟨_, rfl, .inl rfl⟩, hb⟩
  have hr31 : r3 ≤ 1048576 := by omega
  have H3 : Hid ((n1 : Int) + n2 + nr + nj ≤ 1048576 - r3) := hid (by have := H2.out; omega)
  clear hr3 hr20 hr21 H2
  go_wp2_with fail
  refine (szSeatS_any az ns cs r3 _ hr30 hr31 HX.out.2.1).mono ?_
  rintro e w' ⟨⟨r4, rfl, hr4⟩, rfl⟩
  rcases hr4 with rfl | ⟨hr4, hr40⟩
  · go_wp2
    go_ret
    exact ⟨⟨_, rfl, .inl rfl⟩, hb⟩
  have hr41 : r4 ≤ 1048576 := by omega
  have H4 : Hid ((n1 : Int) + n2 + nr + nj + ns ≤ 1048576 - r4) := hid (by have := H3.out; omega)
  clear hr4 hr30 hr31 H3
  go_wp2_with fail
  refine (szOwedS_any ao no co r4 _ hr40 hr41 HX.out.2.2).mono ?_
  rintro e w' ⟨⟨r5, rfl, hr5⟩, rfl⟩
  rcases hr5 with rfl | ⟨hr5, hr50⟩
  · go_wp2
    go_ret
    exact ⟨⟨_, rfl, .inl rfl⟩, hb⟩
  have hr51 : r5 ≤ 1048576 := by omega
  have H5 : Hid ((n1 : Int) + n2 + nr + nj + ns + no ≤ 1048576 - r5) := hid (by have := H4.out; omega)
  clear hr5 hr40 hr41 H4
  go_wp2
  go_ret
  exact ⟨⟨_, rfl, .inr ⟨hr50, hr51, by have := H5.out; omega⟩⟩, hb⟩

end Go.Proofs.Ytoikcjeagigmfaa
