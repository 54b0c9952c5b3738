import Derived.Test.YthopfmhagddhgaaGreatQBos
namespace Go.Proofs.YthopfmhagddhgaaGreat
open Go.RowKit

set_option maxHeartbeats 1000000 in
theorem szLog_any (a1 a2 : Option Addr) (b1 o1 n1 c1 b2 o2 n2 c2 : Nat) (L1 L2 : List ByteArray) (left : Int) (w : World) (hl0 : 0 ≤ left) (hl1 : left ≤ 1048576) (h1 : StrsAt w a1 b1 o1 n1 L1) (h2 : StrsAt w a2 b2 o2 n2 L2) :
    Calls Tryz.prog 46 #[.agg #[.slice a1 n1 c1, .slice a2 n2 c2], .int .i64 left] w fun e w' => (∃ r, e = .returned (.int .i64 r) ∧ (r = -1 ∨ r = left - (n1 + tot L1) - (n2 + tot L2) ∧ 0 ≤ r)) ∧ Below w.heap.size w w' := by
  obtain ⟨W, hW⟩ : ∃ W, W = w.alloc (.cells #[.slice a1 n1 c1, .slice a2 n2 c2] 27) := ⟨_, rfl⟩
  have hbW : Below w.heap.size w W := by rw [hW]; exact (Below.refl _ _).alloc (Nat.le_refl _) _
  have z1 : W.cell? ⟨w.heap.size, 1, none⟩ = some (.slice a2 n2 c2) := by rw [hW]; exact MC.made w #[.slice a1 n1 c1, .slice a2 n2 c2] 27 1 (by simp)
  go_enter Tryz.func46, Tryz.ntmps46
  go_wp2_with fail
  rw [← hW]
  refine (szStringS_any a1 b1 o1 n1 c1 L1 left _ hl0 hl1 (h1.below' hbW)).mono ?_
  rintro e w' ⟨⟨r, rfl, hr⟩, rfl⟩
  clear hW
  rcases hr with rfl | ⟨hr, hr0⟩
  · go_wp2
    go_ret
    exact ⟨⟨_, rfl, .inl rfl⟩, hbW⟩
  · have hr1 : r ≤ 1048576 := by omega
    have HR := hid hr
    clear hr
    go_wp2_with fail
    refine (szStringS_any a2 b2 o2 n2 c2 L2 r _ hr0 hr1 (h2.below' hbW)).mono ?_
    rintro e w' ⟨⟨r2, rfl, hr2⟩, rfl⟩
    rcases hr2 with rfl | ⟨hr2, hr20⟩
    · go_wp2
      go_ret
      exact ⟨⟨_, rfl, .inl rfl⟩, hbW⟩
    · have HR2 := hid hr2
      clear hr2
      go_wp2
      go_ret
      exact ⟨⟨_, rfl, .inr ⟨by rw [HR2.out, HR.out], hr20⟩⟩, hbW⟩

set_option maxHeartbeats 1000000 in
theorem eqLog_any (a1 a2 a1' a2' : Option Addr) (b1 o1 n1 c1 b2 o2 n2 c2 b1' o1' c1' b2' o2' c2' : Nat) (L1 L2 : List ByteArray) (w : World) (h1 : StrsAt w a1 b1 o1 n1 L1) (h2 : StrsAt w a2 b2 o2 n2 L2) (h1' : StrsAt w a1' b1' o1' n1 L1) (h2' : StrsAt w a2' b2' o2' n2 L2) :
    Calls Tryz.prog 60 #[.agg #[.slice a1 n1 c1, .slice a2 n2 c2], .agg #[.slice a1' n1 c1', .slice a2' n2 c2']] w fun e w' => e = .returned (.bool true) ∧ Below w.heap.size w w' := by
  obtain ⟨W, hW⟩ : ∃ W, W = (w.alloc (.cells #[.slice a1 n1 c1, .slice a2 n2 c2] 42)).alloc (.cells #[.slice a1' n1 c1', .slice a2' n2 c2'] 42) := ⟨_, rfl⟩
  have hb0 : Below w.heap.size w W := by rw [hW]; exact ((Below.refl _ _).alloc (Nat.le_refl _) _).alloc (by simp) _
  have c1' : W.cell? ⟨w.heap.size, 1, none⟩ = some (.slice a2 n2 c2) := by rw [hW]; simp [go_sem]
  have d1' : W.cell? ⟨w.heap.size + 1, 1, none⟩ = some (.slice a2' n2 c2') := by rw [hW]; simp [go_sem]
  have hsz : w.heap.size + 1 < W.heap.size := by rw [hW]; simp
  go_enter Tryz.func60, Tryz.ntmps60
  go_wp2_with fail
  rw [← hW]
  refine (eqStringS_any a1 a1' b1 o1 n1 c1 b1' o1' _ L1 _ (h1.below' hb0) (h1'.below' hb0)).mono ?_
  rintro e' w1 ⟨rfl, hb1⟩
  clear hW
  have k1 := keepB hb1 c1'
  have k2 := keepB hb1 d1'
  have hb := hb0.trans (hb1.mono hb0.size)
  clear hb1 hb0 c1' d1'
  go_wp2_with fail
  refine (eqStringS_any a2 a2' b2 o2 n2 c2 b2' o2' _ L2 _ (h2.below' hb) (h2'.below' hb)).mono ?_
  rintro e' w2 ⟨rfl, hb2⟩
  have hb' := hb.trans (hb2.mono hb.size)
  clear hb2 hb
  go_wp2
  go_ret
  exact ⟨rfl, hb'⟩

set_option maxHeartbeats 2000000 in
set_option maxRecDepth 100000 in
theorem szBoss_any (wk : Int) (up : Bool) (now sn ep gv : Int) (a1 a2 ar aj az ao : Option Addr) (n1 c1 n2 c2 nr cr nj cj ns cs no co : Nat) (bl1 ol1 bl2 ol2 br or' bj oj bs os' bo oo : Nat) (L1 L2 R : List ByteArray) (J : List Tr) (S : List (Bool × Int)) (O : List Tr) (w : World) (h1 : StrsAt w a1 bl1 ol1 n1 L1) (h2 : StrsAt w a2 bl2 ol2 n2 L2) (hR : StrsAt w ar br or' nr R) (hJ : T3At w aj bj oj nj J) (hS : T2At w az bs os' ns S) (hO : T3At w ao bo oo no O) :
    Calls Tryz.prog 16 #[.agg #[.int .i64 wk, .bool up, .int .i64 now, .int .i64 sn, .int .i64 ep, .int .i64 gv, .slice a1 n1 c1, .slice a2 n2 c2, .slice ar nr cr, .slice aj nj cj, .slice az ns cs, .slice ao no co], .int .i64 1048576] w fun e w' => (∃ r, e = .returned (.int .i64 r) ∧ (r = -1 ∨ 0 ≤ r ∧ r ≤ 1048576 ∧ n1 + n2 + nr + nj + ns + no ≤ 1048576)) ∧ Below w.heap.size w w' := by
  obtain ⟨W, hW⟩ : ∃ W, W = w.alloc (.cells #[.int .i64 wk, .bool up, .int .i64 now, .int .i64 sn, .int .i64 ep, .int .i64 gv, .slice a1 n1 c1, .slice a2 n2 c2, .slice ar nr cr, .slice aj nj cj, .slice az ns cs, .slice ao no co] 32) := ⟨_, rfl⟩
  have hbW : Below w.heap.size w W := by rw [hW]; exact (Below.refl _ _).alloc (Nat.le_refl _) _
  have hq : MC W w.heap.size [.int .i64 wk, .bool up, .int .i64 now, .int .i64 sn, .int .i64 ep, .int .i64 gv, .slice a1 n1 c1, .slice a2 n2 c2, .slice ar nr cr, .slice aj nj cj, .slice az ns cs, .slice ao no co] := by rw [hW]; exact MC.made w _ _
  have hlW : w.heap.size < W.heap.size := by rw [hW]; simp
  go_enter Tryz.func16, Tryz.ntmps16
  go_wp2_with fail
  rw [← hW]
  refine (szLog_any a1 a2 bl1 ol1 n1 c1 bl2 ol2 n2 c2 L1 L2 1048576 _ (by omega) (by omega) (h1.below' hbW) (h2.below' hbW)).mono ?_
  rintro e w1 ⟨⟨r, rfl, hr⟩, hb1⟩
  clear hW
  have hb := hbW.trans (hb1.mono hbW.size)
  have z8 : w1.cell? ⟨w.heap.size, 8, none⟩ = some (.slice ar nr cr) := keepB hb1 (hq 8 (by simp))
  have z9 : w1.cell? ⟨w.heap.size, 9, none⟩ = some (.slice aj nj cj) := keepB hb1 (hq 9 (by simp))
  have z10 : w1.cell? ⟨w.heap.size, 10, none⟩ = some (.slice az ns cs) := keepB hb1 (hq 10 (by simp))
  have z11 : w1.cell? ⟨w.heap.size, 11, none⟩ = some (.slice ao no co) := keepB hb1 (hq 11 (by simp))
  have HX : Hid (nj ≤ maxLen ∧ ns ≤ maxLen ∧ no ≤ maxLen) := ⟨hJ.max, hS.max, hO.max⟩
  have HRa := hid (hR.below' hb)
  clear hbW hq hlW hb1 h1 h2 hR hJ hS hO
  rcases hr with rfl | ⟨hr, hr0⟩
  · go_wp2
    go_ret
    exact ⟨⟨_, rfl, .inl rfl⟩, hb⟩
  have hr1 : r ≤ 1048576 := by omega
  have H1 : Hid ((n1 : Int) + n2 ≤ 1048576 - r) := hid (by omega)
  clear hr
  go_wp2_with fail
  refine (szStringS_any ar br or' nr cr R r _ hr0 hr1 HRa.out).mono ?_
  rintro e w' ⟨⟨r2, rfl, hr2⟩, rfl⟩
  rcases hr2 with rfl | ⟨hr2, hr20⟩
  · go_wp2
    go_ret
    exact ⟨⟨_, rfl, .inl rfl⟩, hb⟩
  have hr21 : r2 ≤ 1048576 := by omega
  have H2 : Hid ((n1 : Int) + n2 + nr ≤ 1048576 - r2) := hid (by have := H1.out; omega)
  clear hr2 hr0 hr1 H1 HRa
  go_wp2_with fail
  refine (szJobS_any aj nj cj r2 _ hr20 hr21 HX.out.1).mono ?_
  rintro e w' ⟨⟨r3, rfl, hr3⟩, rfl⟩
  rcases hr3 with rfl | ⟨hr3, hr30⟩
  · go_wp2
    go_ret
    exact ⟨⟨_, rfl, .inl rfl⟩, hb⟩
  have hr31 : r3 ≤ 1048576 := by omega
  have H3 : Hid ((n1 : Int) + n2 + nr + nj ≤ 1048576 - r3) := hid (by have := H2.out; omega)
  clear hr3 hr20 hr21 H2
  go_wp2_with fail
  refine (szSeatS_any az ns cs r3 _ hr30 hr31 HX.out.2.1).mono ?_
  rintro e w' ⟨⟨r4, rfl, hr4⟩, rfl⟩
  rcases hr4 with rfl | ⟨hr4, hr40⟩
  · go_wp2
    go_ret
    exact ⟨⟨_, rfl, .inl rfl⟩, hb⟩
  have hr41 : r4 ≤ 1048576 := by omega
  have H4 : Hid ((n1 : Int) + n2 + nr + nj + ns ≤ 1048576 - r4) := hid (by have := H3.out; omega)
  clear hr4 hr30 hr31 H3
  go_wp2_with fail
  refine (szOwedS_any ao no co r4 _ hr40 hr41 HX.out.2.2).mono ?_
  rintro e w' ⟨⟨r5, rfl, hr5⟩, rfl⟩
  rcases hr5 with rfl | ⟨hr5, hr50⟩
  · go_wp2
    go_ret
    exact ⟨⟨_, rfl, .inl rfl⟩, hb⟩
  have hr51 : r5 ≤ 1048576 := by omega
  have H5 : Hid ((n1 : Int) + n2 + nr + nj + ns + no ≤ 1048576 - r5) := hid (by have := H4.out; omega)
  clear hr5 hr40 hr41 H4
  go_wp2
  go_ret
  exact ⟨⟨_, rfl, .inr ⟨hr50, hr51, by have := H5.out; omega⟩⟩, hb⟩

end Go.Proofs.YthopfmhagddhgaaGreat

namespace Go.Proofs.YthopfmhagddhgaaGreat
open Go.RowKit

theorem OwnC.at0 {B : Nat} {w : World} {p n : Nat} {vs : List Value} (h : OwnC B w 1 p 0 n n vs) (j : Nat) (hj : j < n) : w.cell? ⟨p, j, none⟩ = vs[j]? := by
  have := h.holds j (by omega)
  rwa [Nat.zero_add] at this
theorem OwnC.fr0 {B : Nat} {w : World} {p n : Nat} {vs : List Value} (h : OwnC B w 1 p 0 n n vs) (j : Nat) (hj : j < n) : w.frozen? ⟨p, j, none⟩ = false := by
  have := (h.there j (by omega)).2
  rwa [Nat.zero_add] at this
theorem OwnC.put {B : Nat} {w : World} {p n : Nat} {vs : List Value} (h : OwnC B w 1 p 0 n n vs) (j : Nat) (hj : j < n) (v : Value) : OwnC B (w.setCell ⟨p, j, none⟩ v) 1 p 0 n n (vs.set j v) := by
  have := h.setCell (j := j) (by omega) v
  rwa [Nat.zero_add] at this
theorem MC.other {w : World} {p : Nat} {vs : List Value} (h : MC w p vs) {q : Addr} (hp : p ≠ q.block) (u : Value) : MC (w.setCell q u) p vs := h.block (Below.heap_setCell _ _ _ _ hp)
theorem T3At.other {w : World} {a : Option Addr} {b o n : Nat} {J : List Tr} (h : T3At w a b o n J) {q : Addr} (hp : b ≠ q.block) (u : Value) : T3At (w.setCell q u) a b o n J :=
  have e := Below.heap_setCell w q u b hp
  ⟨h.ad, h.len, h.max, fun hn => by simpa [World.setCell] using h.lt hn, fun j hj => (World.cell?_of_block (w := w) e).trans (h.c0 j hj), fun j hj => (World.cell?_of_block (w := w) e).trans (h.c1 j hj), fun j hj => (World.cell?_of_block (w := w) e).trans (h.c2 j hj), h.rng⟩
theorem T2At.other {w : World} {a : Option Addr} {b o n : Nat} {J : List (Bool × Int)} (h : T2At w a b o n J) {q : Addr} (hp : b ≠ q.block) (u : Value) : T2At (w.setCell q u) a b o n J :=
  have e := Below.heap_setCell w q u b hp
  ⟨h.ad, h.len, h.max, fun hn => by simpa [World.setCell] using h.lt hn, fun j hj => (World.cell?_of_block (w := w) e).trans (h.c0 j hj), fun j hj => (World.cell?_of_block (w := w) e).trans (h.c1 j hj), h.rng⟩

set_option maxHeartbeats 2000000 in
set_option maxRecDepth 100000 in
theorem toLog_any (a1 a2 : Option Addr) (b1 o1 n1 c1 b2 o2 n2 c2 : Nat) (L1 L2 : List ByteArray) (w : World) (h1 : StrsAt w a1 b1 o1 n1 L1) (h2 : StrsAt w a2 b2 o2 n2 L2) (hn1 : n1 ≤ 1048576) (hn2 : n2 ≤ 1048576) :
    Calls Tryz.prog 53 #[.agg #[.slice a1 n1 c1, .slice a2 n2 c2]] w fun e w' => (∃ g1 g2, e = .returned (.agg #[.slice (some ⟨g1, 0, none⟩) n1 n1, .slice (some ⟨g2, 0, none⟩) n2 n2]) ∧ OwnC w.heap.size w' 1 g1 0 n1 n1 (L1.map Value.string) ∧ OwnC w.heap.size w' 1 g2 0 n2 n2 (L2.map Value.string) ∧ g1 ≠ g2) ∧ Below w.heap.size w w' := by
  obtain ⟨W, hW⟩ : ∃ W, W = ((w.alloc (.cells #[.slice a1 n1 c1, .slice a2 n2 c2] 27)).alloc (.cells #[.slice none 0 0, .slice none 0 0] 42)).alloc (.cells #[.slice none 0 0, .slice none 0 0] 42) := ⟨_, rfl⟩
  have hb0 : Below w.heap.size w W := by rw [hW]; exact (((Below.refl _ _).alloc (Nat.le_refl _) _).alloc (by simp) _).alloc (by simp; omega) _
  have hs0 : W.heap.size = w.heap.size + 1 + 1 + 1 := by rw [hW]; simp
  have A0 : MC W w.heap.size [.slice a1 n1 c1, .slice a2 n2 c2] := by rw [hW]; exact ((MC.made w #[.slice a1 n1 c1, .slice a2 n2 c2] 27).block (Below.heap_alloc _ _ _ (by simp))).block (Below.heap_alloc _ _ _ (by simp; omega))
  have R0 : OwnC w.heap.size W 1 (w.heap.size + 1) 0 2 2 [.slice none 0 0, .slice none 0 0] := by
    rw [hW]
    have := OwnC.made (w.alloc (.cells #[.slice a1 n1 c1, .slice a2 n2 c2] 27)) w.heap.size 42 1 2 2 #[.slice none 0 0, .slice none 0 0] 2 (by simp) (by omega) (by unfold maxLen; omega) (by simp) (by simp) [.slice none 0 0, .slice none 0 0] (by simp) (0, 0) (.inl rfl)
    rw [World.size_alloc] at this
    exact this.block (Below.heap_alloc _ _ _ (by simp))
  have O0 : OwnC w.heap.size W 1 (w.heap.size + 1 + 1) 0 2 2 [.slice none 0 0, .slice none 0 0] := by
    rw [hW]
    have := OwnC.made ((w.alloc (.cells #[.slice a1 n1 c1, .slice a2 n2 c2] 27)).alloc (.cells #[.slice none 0 0, .slice none 0 0] 42)) w.heap.size 42 1 2 2 #[.slice none 0 0, .slice none 0 0] 2 (by simp; omega) (by omega) (by unfold maxLen; omega) (by simp) (by simp) [.slice none 0 0, .slice none 0 0] (by simp) (0, 0) (.inl rfl)
    simp only [World.size_alloc] at this
    exact this
  go_enter Tryz.func53, Tryz.ntmps53
  go_wp2_with fail
  rw [← hW]
  clear hW
  refine (toStringS_any a1 b1 o1 n1 c1 L1 _ (h1.below' hb0) hn1).mono ?_
  rintro e' w1 ⟨g1, rfl, G1, hb1⟩
  have hl1 := hb1.size
  have hg1 := G1.lo
  have A1 := A0.below hb1 (by omega)
  have R1 := R0.below hb1 (by omega)
  have O1 := O0.below hb1 (by omega)
  have B1 := hb0.trans (hb1.mono hb0.size)
  have G1' := G1.mono (Nat.le_trans (by omega) (Nat.le_of_eq hs0.symm) : w.heap.size ≤ W.heap.size)
  clear A0 R0 O0 hb1 hb0 G1
  have q0 := O1.at0 0 (by omega)
  have f0 := O1.fr0 0 (by omega)
  have z1 := A1 1 (by simp)
  simp only [List.getElem?_cons_zero, List.getElem?_cons_succ] at q0 z1
  obtain ⟨V1, hV1⟩ : ∃ V, V = w1.setCell ⟨w.heap.size + 1 + 1, 0, none⟩ (.slice (some ⟨g1, 0, none⟩) n1 n1) := ⟨_, rfl⟩
  go_wp2_with fail
  rw [← hV1]
  have O2 : OwnC w.heap.size V1 1 (w.heap.size + 1 + 1) 0 2 2 [.slice (some ⟨g1, 0, none⟩) n1 n1, .slice none 0 0] := by rw [hV1]; exact O1.put 0 (by omega) _
  have R2 : OwnC w.heap.size V1 1 (w.heap.size + 1) 0 2 2 [.slice none 0 0, .slice none 0 0] := by rw [hV1]; exact R1.setOther (by simp) _
  have G2 : OwnC w.heap.size V1 1 g1 0 n1 n1 (L1.map Value.string) := by rw [hV1]; exact G1'.setOther (by simp; omega) _
  have B2 : Below w.heap.size w V1 := by rw [hV1]; exact B1.setCell (by simp; omega) _
  have hl2 : V1.heap.size = w1.heap.size := by rw [hV1]; simp [World.setCell]
  clear hV1 O1 R1 G1' B1 q0 f0 z1 A1
  refine (toStringS_any a2 b2 o2 n2 c2 L2 _ (h2.below' B2) hn2).mono ?_
  rintro e' w2 ⟨g2, rfl, G3, hb2⟩
  have hl3 := hb2.size
  have hg3 := G3.lo
  have hgh := G2.hi
  have R3 := R2.below hb2 (by omega)
  have O3 := O2.below hb2 (by omega)
  have G4 := G2.below hb2 G2.hi
  have B3 := B2.trans (hb2.mono B2.size)
  have G5 := G3.mono (B2.size)
  clear R2 O2 G2 B2 G3 hb2
  have q0 := O3.at0 0 (by omega)
  have q1 := O3.at0 1 (by omega)
  have f1 := O3.fr0 1 (by omega)
  have r0 := R3.at0 0 (by omega)
  have r1 := R3.at0 1 (by omega)
  have k0 := R3.fr0 0 (by omega)
  have k1 := R3.fr0 1 (by omega)
  simp only [List.getElem?_cons_zero, List.getElem?_cons_succ] at q0 q1 r0 r1
  go_wp2
  refine bodyPost_ret (v := .agg #[.slice (some ⟨g1, 0, none⟩) n1 n1, .slice (some ⟨g2, 0, none⟩) n2 n2]) (by simp [results, Tryz.results53, go_sem, *]) rfl ⟨⟨g1, g2, rfl, ?_, ?_, by omega⟩, ?_⟩
  · repeat (first | with_reducible exact G4 | refine OwnC.setOther ?_ (by dsimp only; omega) _)
  · repeat (first | with_reducible exact G5 | refine OwnC.setOther ?_ (by dsimp only; omega) _)
  · repeat (first | with_reducible exact B3 | refine Below.setCell ?_ (by dsimp only; omega) _)

set_option maxHeartbeats 4000000 in
set_option maxRecDepth 100000 in
theorem toBoss_any (wk : Int) (up : Bool) (now sn ep gv : Int) (a1 a2 ar aj az ao : Option Addr) (n1 c1 n2 c2 nr cr nj cj ns cs no co : Nat) (bl1 ol1 bl2 ol2 br or' bj oj bs os' bo oo : Nat) (L1 L2 R : List ByteArray) (J : List Tr) (S : List (Bool × Int)) (O : List Tr) (w : World) (h1 : StrsAt w a1 bl1 ol1 n1 L1) (h2 : StrsAt w a2 bl2 ol2 n2 L2) (hR : StrsAt w ar br or' nr R) (hJ : T3At w aj bj oj nj J) (hS : T2At w az bs os' ns S) (hO : T3At w ao bo oo no O) (hn1 : n1 ≤ 1048576) (hn2 : n2 ≤ 1048576) (hnr : nr ≤ 1048576) (hnj : nj ≤ 1048576) (hns : ns ≤ 1048576) (hno : no ≤ 1048576) :
    Calls Tryz.prog 19 #[.agg #[.int .i64 wk, .bool up, .int .i64 now, .int .i64 sn, .int .i64 ep, .int .i64 gv, .slice a1 n1 c1, .slice a2 n2 c2, .slice ar nr cr, .slice aj nj cj, .slice az ns cs, .slice ao no co]] w fun e w' => (∃ g1 g2 gr gj gs go xj xs xo, e = .returned (.agg #[.int .i64 wk, .bool up, .int .i64 now, .int .i64 sn, .int .i64 ep, .int .i64 gv, .slice (some ⟨g1, 0, none⟩) n1 n1, .slice (some ⟨g2, 0, none⟩) n2 n2, .slice (some ⟨gr, 0, none⟩) nr nr, .slice (some ⟨gj, 0, none⟩) nj nj, .slice (some ⟨gs, 0, none⟩) ns ns, .slice (some ⟨go, 0, none⟩) no no]) ∧ OwnC w.heap.size w' 1 g1 0 n1 n1 (L1.map Value.string) ∧ OwnC w.heap.size w' 1 g2 0 n2 n2 (L2.map Value.string) ∧ OwnC w.heap.size w' 1 gr 0 nr nr (R.map Value.string) ∧ (OwnC w.heap.size w' 3 gj 0 nj nj xj ∧ T3At w' (some ⟨gj, 0, none⟩) gj 0 nj J) ∧ (OwnC w.heap.size w' 2 gs 0 ns ns xs ∧ T2At w' (some ⟨gs, 0, none⟩) gs 0 ns S) ∧ (OwnC w.heap.size w' 3 go 0 no no xo ∧ T3At w' (some ⟨go, 0, none⟩) go 0 no O) ∧ g1 ≠ g2 ∧ g1 < gr ∧ g2 < gr ∧ gr < gj ∧ gj < gs ∧ gs < go) ∧ Below w.heap.size w w' := by
  obtain ⟨W, hW⟩ : ∃ W, W = ((w.alloc (.cells #[.int .i64 wk, .bool up, .int .i64 now, .int .i64 sn, .int .i64 ep, .int .i64 gv, .slice a1 n1 c1, .slice a2 n2 c2, .slice ar nr cr, .slice aj nj cj, .slice az ns cs, .slice ao no co] 32)).alloc (.cells #[.int .i64 0, .bool false, .int .i64 0, .int .i64 0, .int .i64 0, .int .i64 0, .slice none 0 0, .slice none 0 0, .slice none 0 0, .slice none 0 0, .slice none 0 0, .slice none 0 0] 47)).alloc (.cells #[.int .i64 wk, .bool up, .int .i64 now, .int .i64 sn, .int .i64 ep, .int .i64 gv, .slice none 0 0, .slice none 0 0, .slice none 0 0, .slice none 0 0, .slice none 0 0, .slice none 0 0] 47) := ⟨_, rfl⟩
  have B_0 : Below w.heap.size w W := by rw [hW]; exact (((Below.refl _ _).alloc (Nat.le_refl _) _).alloc (by simp) _).alloc (by simp; omega) _
  have hs_0 : w.heap.size + 1 + 1 < W.heap.size := by rw [hW]; simp
  have A_0 : MC W w.heap.size [.int .i64 wk, .bool up, .int .i64 now, .int .i64 sn, .int .i64 ep, .int .i64 gv, .slice a1 n1 c1, .slice a2 n2 c2, .slice ar nr cr, .slice aj nj cj, .slice az ns cs, .slice ao no co] := by rw [hW]; exact ((MC.made w #[.int .i64 wk, .bool up, .int .i64 now, .int .i64 sn, .int .i64 ep, .int .i64 gv, .slice a1 n1 c1, .slice a2 n2 c2, .slice ar nr cr, .slice aj nj cj, .slice az ns cs, .slice ao no co] 32).block (Below.heap_alloc _ _ _ (by simp))).block (Below.heap_alloc _ _ _ (by simp; omega))
  have R_0 : OwnC w.heap.size W 1 (w.heap.size + 1) 0 12 12 [.int .i64 0, .bool false, .int .i64 0, .int .i64 0, .int .i64 0, .int .i64 0, .slice none 0 0, .slice none 0 0, .slice none 0 0, .slice none 0 0, .slice none 0 0, .slice none 0 0] := by
    rw [hW]
    have := OwnC.made (w.alloc (.cells #[.int .i64 wk, .bool up, .int .i64 now, .int .i64 sn, .int .i64 ep, .int .i64 gv, .slice a1 n1 c1, .slice a2 n2 c2, .slice ar nr cr, .slice aj nj cj, .slice az ns cs, .slice ao no co] 32)) w.heap.size 47 1 12 12 #[.int .i64 0, .bool false, .int .i64 0, .int .i64 0, .int .i64 0, .int .i64 0, .slice none 0 0, .slice none 0 0, .slice none 0 0, .slice none 0 0, .slice none 0 0, .slice none 0 0] 12 (by simp) (by omega) (by unfold maxLen; omega) (by simp) (by simp) [.int .i64 0, .bool false, .int .i64 0, .int .i64 0, .int .i64 0, .int .i64 0, .slice none 0 0, .slice none 0 0, .slice none 0 0, .slice none 0 0, .slice none 0 0, .slice none 0 0] (by simp) (0, 0) (.inl rfl)
    rw [World.size_alloc] at this
    exact this.block (Below.heap_alloc _ _ _ (by simp))
  have O_0 : OwnC w.heap.size W 1 (w.heap.size + 1 + 1) 0 12 12 [.int .i64 wk, .bool up, .int .i64 now, .int .i64 sn, .int .i64 ep, .int .i64 gv, .slice none 0 0, .slice none 0 0, .slice none 0 0, .slice none 0 0, .slice none 0 0, .slice none 0 0] := by
    rw [hW]
    have := OwnC.made ((w.alloc (.cells #[.int .i64 wk, .bool up, .int .i64 now, .int .i64 sn, .int .i64 ep, .int .i64 gv, .slice a1 n1 c1, .slice a2 n2 c2, .slice ar nr cr, .slice aj nj cj, .slice az ns cs, .slice ao no co] 32)).alloc (.cells #[.int .i64 0, .bool false, .int .i64 0, .int .i64 0, .int .i64 0, .int .i64 0, .slice none 0 0, .slice none 0 0, .slice none 0 0, .slice none 0 0, .slice none 0 0, .slice none 0 0] 47)) w.heap.size 47 1 12 12 #[.int .i64 wk, .bool up, .int .i64 now, .int .i64 sn, .int .i64 ep, .int .i64 gv, .slice none 0 0, .slice none 0 0, .slice none 0 0, .slice none 0 0, .slice none 0 0, .slice none 0 0] 12 (by simp; omega) (by omega) (by unfold maxLen; omega) (by simp) (by simp) [.int .i64 wk, .bool up, .int .i64 now, .int .i64 sn, .int .i64 ep, .int .i64 gv, .slice none 0 0, .slice none 0 0, .slice none 0 0, .slice none 0 0, .slice none 0 0, .slice none 0 0] (by simp) (0, 0) (.inl rfl)
    simp only [World.size_alloc] at this
    exact this
  go_enter Tryz.func19, Tryz.ntmps19
  go_wp2_with fail
  rw [← hW]
  clear hW
  refine (toLog_any a1 a2 bl1 ol1 n1 c1 bl2 ol2 n2 c2 L1 L2 _ (h1.below' B_0) (h2.below' B_0) hn1 hn2).mono ?_
  rintro e' w1 ⟨⟨g1, g2, rfl, G1n, G2n, hne⟩, hb⟩
  have hl_1 := hb.size
  have A_1 := A_0.below hb (by omega)
  have R_1 := R_0.below hb (by omega)
  have O_1 := O_0.below hb (by omega)
  have B_1 := B_0.trans (hb.mono B_0.size)
  have hs_1 : w.heap.size + 1 + 1 < w1.heap.size := by omega
  have G1_1 := G1n.mono B_0.size
  have log1 : w.heap.size + 1 + 1 < g1 := by have := G1n.lo; omega
  have G2_1 := G2n.mono B_0.size
  have log2 : w.heap.size + 1 + 1 < g2 := by have := G2n.lo; omega
  clear hs_0 A_0 R_0 O_0 hb hl_1 G1n G2n B_0
  have q6 := O_1.at0 6 (by omega)
  have f6 := O_1.fr0 6 (by omega)
  have q7 := O_1.at0 7 (by omega)
  have f7 := O_1.fr0 7 (by omega)
  have z8 := A_1 8 (by simp)
  simp only [List.getElem?_cons_zero, List.getElem?_cons_succ] at q6 q7 z8
  obtain ⟨V1, hV1⟩ : ∃ V, V = (w1.setCell ⟨w.heap.size + 1 + 1, 6, none⟩ (.slice (some ⟨g1, 0, none⟩) n1 n1)).setCell ⟨w.heap.size + 1 + 1, 7, none⟩ (.slice (some ⟨g2, 0, none⟩) n2 n2) := ⟨_, rfl⟩
  go_wp2_with fail
  rw [← hV1]
  have O_2 : OwnC w.heap.size V1 1 (w.heap.size + 1 + 1) 0 12 12 [.int .i64 wk, .bool up, .int .i64 now, .int .i64 sn, .int .i64 ep, .int .i64 gv, .slice (some ⟨g1, 0, none⟩) n1 n1, .slice (some ⟨g2, 0, none⟩) n2 n2, .slice none 0 0, .slice none 0 0, .slice none 0 0, .slice none 0 0] := by rw [hV1]; exact ((O_1.put 6 (by omega) _).put 7 (by omega) _)
  have R_2 : OwnC w.heap.size V1 1 (w.heap.size + 1) 0 12 12 [.int .i64 0, .bool false, .int .i64 0, .int .i64 0, .int .i64 0, .int .i64 0, .slice none 0 0, .slice none 0 0, .slice none 0 0, .slice none 0 0, .slice none 0 0, .slice none 0 0] := by rw [hV1]; exact ((R_1.setOther (by dsimp only; omega) _).setOther (by dsimp only; omega) _)
  have A_2 : MC V1 w.heap.size [.int .i64 wk, .bool up, .int .i64 now, .int .i64 sn, .int .i64 ep, .int .i64 gv, .slice a1 n1 c1, .slice a2 n2 c2, .slice ar nr cr, .slice aj nj cj, .slice az ns cs, .slice ao no co] := by rw [hV1]; exact ((A_1.other (by dsimp only; omega) _).other (by dsimp only; omega) _)
  have B_2 : Below w.heap.size w V1 := by rw [hV1]; exact ((B_1.setCell (by dsimp only; omega) _).setCell (by dsimp only; omega) _)
  have hs_2 : w.heap.size + 1 + 1 < V1.heap.size := by rw [hV1]; simpa [World.setCell] using hs_1
  have G1_2 : OwnC w.heap.size V1 1 g1 0 n1 n1 (L1.map Value.string) := by rw [hV1]; exact ((G1_1.setOther (by dsimp only; omega) _).setOther (by dsimp only; omega) _)
  have G2_2 : OwnC w.heap.size V1 1 g2 0 n2 n2 (L2.map Value.string) := by rw [hV1]; exact ((G2_1.setOther (by dsimp only; omega) _).setOther (by dsimp only; omega) _)
  clear hV1 O_1 R_1 A_1 B_1 hs_1 G1_1 G2_1 q6 q7 z8 f6 f7
  refine (toStringS_any ar br or' nr cr R _ (hR.below' B_2) hnr).mono ?_
  rintro e' w2 ⟨gr, rfl, Grn, hb⟩
  have hl_3 := hb.size
  have A_3 := A_2.below hb (by omega)
  have R_3 := R_2.below hb (by omega)
  have O_3 := O_2.below hb (by omega)
  have B_3 := B_2.trans (hb.mono B_2.size)
  have hs_3 : w.heap.size + 1 + 1 < w2.heap.size := by omega
  have G1_3 := G1_2.below hb G1_2.hi
  have G2_3 := G2_2.below hb G2_2.hi
  have Gr_3 := Grn.mono B_2.size
  have logr : w.heap.size + 1 + 1 < gr := by have := Grn.lo; omega
  have ltg1gr : g1 < gr := by have := Grn.lo; have := G1_2.hi; omega
  have ltg2gr : g2 < gr := by have := Grn.lo; have := G2_2.hi; omega
  clear hs_2 A_2 R_2 O_2 hb hl_3 Grn G1_2 G2_2 B_2
  have q8 := O_3.at0 8 (by omega)
  have f8 := O_3.fr0 8 (by omega)
  have z9 := A_3 9 (by simp)
  simp only [List.getElem?_cons_zero, List.getElem?_cons_succ] at q8 z9
  obtain ⟨V2, hV2⟩ : ∃ V, V = w2.setCell ⟨w.heap.size + 1 + 1, 8, none⟩ (.slice (some ⟨gr, 0, none⟩) nr nr) := ⟨_, rfl⟩
  go_wp2_with fail
  rw [← hV2]
  have O_4 : OwnC w.heap.size V2 1 (w.heap.size + 1 + 1) 0 12 12 [.int .i64 wk, .bool up, .int .i64 now, .int .i64 sn, .int .i64 ep, .int .i64 gv, .slice (some ⟨g1, 0, none⟩) n1 n1, .slice (some ⟨g2, 0, none⟩) n2 n2, .slice (some ⟨gr, 0, none⟩) nr nr, .slice none 0 0, .slice none 0 0, .slice none 0 0] := by rw [hV2]; exact (O_3.put 8 (by omega) _)
  have R_4 : OwnC w.heap.size V2 1 (w.heap.size + 1) 0 12 12 [.int .i64 0, .bool false, .int .i64 0, .int .i64 0, .int .i64 0, .int .i64 0, .slice none 0 0, .slice none 0 0, .slice none 0 0, .slice none 0 0, .slice none 0 0, .slice none 0 0] := by rw [hV2]; exact (R_3.setOther (by dsimp only; omega) _)
  have A_4 : MC V2 w.heap.size [.int .i64 wk, .bool up, .int .i64 now, .int .i64 sn, .int .i64 ep, .int .i64 gv, .slice a1 n1 c1, .slice a2 n2 c2, .slice ar nr cr, .slice aj nj cj, .slice az ns cs, .slice ao no co] := by rw [hV2]; exact (A_3.other (by dsimp only; omega) _)
  have B_4 : Below w.heap.size w V2 := by rw [hV2]; exact (B_3.setCell (by dsimp only; omega) _)
  have hs_4 : w.heap.size + 1 + 1 < V2.heap.size := by rw [hV2]; simpa [World.setCell] using hs_3
  have G1_4 : OwnC w.heap.size V2 1 g1 0 n1 n1 (L1.map Value.string) := by rw [hV2]; exact (G1_3.setOther (by dsimp only; omega) _)
  have G2_4 : OwnC w.heap.size V2 1 g2 0 n2 n2 (L2.map Value.string) := by rw [hV2]; exact (G2_3.setOther (by dsimp only; omega) _)
  have Gr_4 : OwnC w.heap.size V2 1 gr 0 nr nr (R.map Value.string) := by rw [hV2]; exact (Gr_3.setOther (by dsimp only; omega) _)
  clear hV2 O_3 R_3 A_3 B_3 hs_3 G1_3 G2_3 Gr_3 q8 z9 f8
  refine (toJobS_any aj bj oj nj cj J _ (hJ.below' B_4) hnj).mono ?_
  rintro e' w3 ⟨gj, xj, rfl, Gjn, Tjn, hb⟩
  have hl_5 := hb.size
  have A_5 := A_4.below hb (by omega)
  have R_5 := R_4.below hb (by omega)
  have O_5 := O_4.below hb (by omega)
  have B_5 := B_4.trans (hb.mono B_4.size)
  have hs_5 : w.heap.size + 1 + 1 < w3.heap.size := by omega
  have G1_5 := G1_4.below hb G1_4.hi
  have G2_5 := G2_4.below hb G2_4.hi
  have Gr_5 := Gr_4.below hb Gr_4.hi
  have Gj_5 := Gjn.mono B_4.size
  have logj : w.heap.size + 1 + 1 < gj := by have := Gjn.lo; omega
  have ltg2gj : g2 < gj := by have := Gjn.lo; have := G2_4.hi; omega
  have ltgrgj : gr < gj := by have := Gjn.lo; have := Gr_4.hi; omega
  have Tj_5 := Tjn
  clear hs_4 A_4 R_4 O_4 hb hl_5 Gjn Tjn G1_4 G2_4 Gr_4 B_4
  have q9 := O_5.at0 9 (by omega)
  have f9 := O_5.fr0 9 (by omega)
  have z10 := A_5 10 (by simp)
  simp only [List.getElem?_cons_zero, List.getElem?_cons_succ] at q9 z10
  obtain ⟨V3, hV3⟩ : ∃ V, V = w3.setCell ⟨w.heap.size + 1 + 1, 9, none⟩ (.slice (some ⟨gj, 0, none⟩) nj nj) := ⟨_, rfl⟩
  go_wp2_with fail
  rw [← hV3]
  have O_6 : OwnC w.heap.size V3 1 (w.heap.size + 1 + 1) 0 12 12 [.int .i64 wk, .bool up, .int .i64 now, .int .i64 sn, .int .i64 ep, .int .i64 gv, .slice (some ⟨g1, 0, none⟩) n1 n1, .slice (some ⟨g2, 0, none⟩) n2 n2, .slice (some ⟨gr, 0, none⟩) nr nr, .slice (some ⟨gj, 0, none⟩) nj nj, .slice none 0 0, .slice none 0 0] := by rw [hV3]; exact (O_5.put 9 (by omega) _)
  have R_6 : OwnC w.heap.size V3 1 (w.heap.size + 1) 0 12 12 [.int .i64 0, .bool false, .int .i64 0, .int .i64 0, .int .i64 0, .int .i64 0, .slice none 0 0, .slice none 0 0, .slice none 0 0, .slice none 0 0, .slice none 0 0, .slice none 0 0] := by rw [hV3]; exact (R_5.setOther (by dsimp only; omega) _)
  have A_6 : MC V3 w.heap.size [.int .i64 wk, .bool up, .int .i64 now, .int .i64 sn, .int .i64 ep, .int .i64 gv, .slice a1 n1 c1, .slice a2 n2 c2, .slice ar nr cr, .slice aj nj cj, .slice az ns cs, .slice ao no co] := by rw [hV3]; exact (A_5.other (by dsimp only; omega) _)
  have B_6 : Below w.heap.size w V3 := by rw [hV3]; exact (B_5.setCell (by dsimp only; omega) _)
  have hs_6 : w.heap.size + 1 + 1 < V3.heap.size := by rw [hV3]; simpa [World.setCell] using hs_5
  have G1_6 : OwnC w.heap.size V3 1 g1 0 n1 n1 (L1.map Value.string) := by rw [hV3]; exact (G1_5.setOther (by dsimp only; omega) _)
  have G2_6 : OwnC w.heap.size V3 1 g2 0 n2 n2 (L2.map Value.string) := by rw [hV3]; exact (G2_5.setOther (by dsimp only; omega) _)
  have Gr_6 : OwnC w.heap.size V3 1 gr 0 nr nr (R.map Value.string) := by rw [hV3]; exact (Gr_5.setOther (by dsimp only; omega) _)
  have Gj_6 : OwnC w.heap.size V3 3 gj 0 nj nj (xj) := by rw [hV3]; exact (Gj_5.setOther (by dsimp only; omega) _)
  have Tj_6 : T3At V3 (some ⟨gj, 0, none⟩) gj 0 nj J := by rw [hV3]; exact (Tj_5.other (by dsimp only; omega) _)
  clear hV3 O_5 R_5 A_5 B_5 hs_5 G1_5 G2_5 Gr_5 Gj_5 Tj_5 q9 z10 f9
  refine (toSeatS_any az bs os' ns cs S _ (hS.below' B_6) hns).mono ?_
  rintro e' w4 ⟨gs, xs, rfl, Gsn, Tsn, hb⟩
  have hl_7 := hb.size
  have A_7 := A_6.below hb (by omega)
  have R_7 := R_6.below hb (by omega)
  have O_7 := O_6.below hb (by omega)
  have B_7 := B_6.trans (hb.mono B_6.size)
  have hs_7 : w.heap.size + 1 + 1 < w4.heap.size := by omega
  have G1_7 := G1_6.below hb G1_6.hi
  have G2_7 := G2_6.below hb G2_6.hi
  have Gr_7 := Gr_6.below hb Gr_6.hi
  have Gj_7 := Gj_6.below hb Gj_6.hi
  have Tj_7 := Tj_6.below' hb
  have Gs_7 := Gsn.mono B_6.size
  have logs : w.heap.size + 1 + 1 < gs := by have := Gsn.lo; omega
  have ltgrgs : gr < gs := by have := Gsn.lo; have := Gr_6.hi; omega
  have ltgjgs : gj < gs := by have := Gsn.lo; have := Gj_6.hi; omega
  have Ts_7 := Tsn
  clear hs_6 A_6 R_6 O_6 hb hl_7 Gsn Tsn G1_6 G2_6 Gr_6 Gj_6 Tj_6 B_6
  have q10 := O_7.at0 10 (by omega)
  have f10 := O_7.fr0 10 (by omega)
  have z11 := A_7 11 (by simp)
  simp only [List.getElem?_cons_zero, List.getElem?_cons_succ] at q10 z11
  obtain ⟨V4, hV4⟩ : ∃ V, V = w4.setCell ⟨w.heap.size + 1 + 1, 10, none⟩ (.slice (some ⟨gs, 0, none⟩) ns ns) := ⟨_, rfl⟩
  go_wp2_with fail
  rw [← hV4]
  have O_8 : OwnC w.heap.size V4 1 (w.heap.size + 1 + 1) 0 12 12 [.int .i64 wk, .bool up, .int .i64 now, .int .i64 sn, .int .i64 ep, .int .i64 gv, .slice (some ⟨g1, 0, none⟩) n1 n1, .slice (some ⟨g2, 0, none⟩) n2 n2, .slice (some ⟨gr, 0, none⟩) nr nr, .slice (some ⟨gj, 0, none⟩) nj nj, .slice (some ⟨gs, 0, none⟩) ns ns, .slice none 0 0] := by rw [hV4]; exact (O_7.put 10 (by omega) _)
  have R_8 : OwnC w.heap.size V4 1 (w.heap.size + 1) 0 12 12 [.int .i64 0, .bool false, .int .i64 0, .int .i64 0, .int .i64 0, .int .i64 0, .slice none 0 0, .slice none 0 0, .slice none 0 0, .slice none 0 0, .slice none 0 0, .slice none 0 0] := by rw [hV4]; exact (R_7.setOther (by dsimp only; omega) _)
  have A_8 : MC V4 w.heap.size [.int .i64 wk, .bool up, .int .i64 now, .int .i64 sn, .int .i64 ep, .int .i64 gv, .slice a1 n1 c1, .slice a2 n2 c2, .slice ar nr cr, .slice aj nj cj, .slice az ns cs, .slice ao no co] := by rw [hV4]; exact (A_7.other (by dsimp only; omega) _)
  have B_8 : Below w.heap.size w V4 := by rw [hV4]; exact (B_7.setCell (by dsimp only; omega) _)
  have hs_8 : w.heap.size + 1 + 1 < V4.heap.size := by rw [hV4]; simpa [World.setCell] using hs_7
  have G1_8 : OwnC w.heap.size V4 1 g1 0 n1 n1 (L1.map Value.string) := by rw [hV4]; exact (G1_7.setOther (by dsimp only; omega) _)
  have G2_8 : OwnC w.heap.size V4 1 g2 0 n2 n2 (L2.map Value.string) := by rw [hV4]; exact (G2_7.setOther (by dsimp only; omega) _)
  have Gr_8 : OwnC w.heap.size V4 1 gr 0 nr nr (R.map Value.string) := by rw [hV4]; exact (Gr_7.setOther (by dsimp only; omega) _)
  have Gj_8 : OwnC w.heap.size V4 3 gj 0 nj nj (xj) := by rw [hV4]; exact (Gj_7.setOther (by dsimp only; omega) _)
  have Gs_8 : OwnC w.heap.size V4 2 gs 0 ns ns (xs) := by rw [hV4]; exact (Gs_7.setOther (by dsimp only; omega) _)
  have Tj_8 : T3At V4 (some ⟨gj, 0, none⟩) gj 0 nj J := by rw [hV4]; exact (Tj_7.other (by dsimp only; omega) _)
  have Ts_8 : T2At V4 (some ⟨gs, 0, none⟩) gs 0 ns S := by rw [hV4]; exact (Ts_7.other (by dsimp only; omega) _)
  clear hV4 O_7 R_7 A_7 B_7 hs_7 G1_7 G2_7 Gr_7 Gj_7 Gs_7 Tj_7 Ts_7 q10 z11 f10
  refine (toOwedS_any ao bo oo no co O _ (hO.below' B_8) hno).mono ?_
  rintro e' w5 ⟨go, xo, rfl, Gon, Ton, hb⟩
  have hl_9 := hb.size
  have A_9 := A_8.below hb (by omega)
  have R_9 := R_8.below hb (by omega)
  have O_9 := O_8.below hb (by omega)
  have B_9 := B_8.trans (hb.mono B_8.size)
  have hs_9 : w.heap.size + 1 + 1 < w5.heap.size := by omega
  have G1_9 := G1_8.below hb G1_8.hi
  have G2_9 := G2_8.below hb G2_8.hi
  have Gr_9 := Gr_8.below hb Gr_8.hi
  have Gj_9 := Gj_8.below hb Gj_8.hi
  have Gs_9 := Gs_8.below hb Gs_8.hi
  have Tj_9 := Tj_8.below' hb
  have Ts_9 := Ts_8.below' hb
  have Go_9 := Gon.mono B_8.size
  have logo : w.heap.size + 1 + 1 < go := by have := Gon.lo; omega
  have ltgjgo : gj < go := by have := Gon.lo; have := Gj_8.hi; omega
  have ltgsgo : gs < go := by have := Gon.lo; have := Gs_8.hi; omega
  have To_9 := Ton
  clear hs_8 A_8 R_8 O_8 hb hl_9 Gon Ton G1_8 G2_8 Gr_8 Gj_8 Gs_8 Tj_8 Ts_8 B_8
  have q0 := O_9.at0 0 (by omega)
  have r0 := R_9.at0 0 (by omega)
  have k0 := R_9.fr0 0 (by omega)
  have q1 := O_9.at0 1 (by omega)
  have r1 := R_9.at0 1 (by omega)
  have k1 := R_9.fr0 1 (by omega)
  have q2 := O_9.at0 2 (by omega)
  have r2 := R_9.at0 2 (by omega)
  have k2 := R_9.fr0 2 (by omega)
  have q3 := O_9.at0 3 (by omega)
  have r3 := R_9.at0 3 (by omega)
  have k3 := R_9.fr0 3 (by omega)
  have q4 := O_9.at0 4 (by omega)
  have r4 := R_9.at0 4 (by omega)
  have k4 := R_9.fr0 4 (by omega)
  have q5 := O_9.at0 5 (by omega)
  have r5 := R_9.at0 5 (by omega)
  have k5 := R_9.fr0 5 (by omega)
  have q6 := O_9.at0 6 (by omega)
  have r6 := R_9.at0 6 (by omega)
  have k6 := R_9.fr0 6 (by omega)
  have q7 := O_9.at0 7 (by omega)
  have r7 := R_9.at0 7 (by omega)
  have k7 := R_9.fr0 7 (by omega)
  have q8 := O_9.at0 8 (by omega)
  have r8 := R_9.at0 8 (by omega)
  have k8 := R_9.fr0 8 (by omega)
  have q9 := O_9.at0 9 (by omega)
  have r9 := R_9.at0 9 (by omega)
  have k9 := R_9.fr0 9 (by omega)
  have q10 := O_9.at0 10 (by omega)
  have r10 := R_9.at0 10 (by omega)
  have k10 := R_9.fr0 10 (by omega)
  have q11 := O_9.at0 11 (by omega)
  have r11 := R_9.at0 11 (by omega)
  have k11 := R_9.fr0 11 (by omega)
  have f11 := O_9.fr0 11 (by omega)
  simp only [List.getElem?_cons_zero, List.getElem?_cons_succ] at q0 r0 q1 r1 q2 r2 q3 r3 q4 r4 q5 r5 q6 r6 q7 r7 q8 r8 q9 r9 q10 r10 q11 r11
  clear A_9 R_9 O_9
  go_wp2
  refine bodyPost_ret (v := .agg #[.int .i64 wk, .bool up, .int .i64 now, .int .i64 sn, .int .i64 ep, .int .i64 gv, .slice (some ⟨g1, 0, none⟩) n1 n1, .slice (some ⟨g2, 0, none⟩) n2 n2, .slice (some ⟨gr, 0, none⟩) nr nr, .slice (some ⟨gj, 0, none⟩) nj nj, .slice (some ⟨gs, 0, none⟩) ns ns, .slice (some ⟨go, 0, none⟩) no no]) (by simp [results, Tryz.results19, go_sem, *]) rfl ⟨⟨g1, g2, gr, gj, gs, go, xj, xs, xo, rfl, ?_, ?_, ?_, ⟨?_, ?_⟩, ⟨?_, ?_⟩, ⟨?_, ?_⟩, hne, ltg1gr, ltg2gr, ltgrgj, ltgjgs, ltgsgo⟩, ?_⟩
  · repeat (first | with_reducible exact G1_9 | refine OwnC.setOther ?_ (by dsimp only; omega) _)
  · repeat (first | with_reducible exact G2_9 | refine OwnC.setOther ?_ (by dsimp only; omega) _)
  · repeat (first | with_reducible exact Gr_9 | refine OwnC.setOther ?_ (by dsimp only; omega) _)
  · repeat (first | with_reducible exact Gj_9 | refine OwnC.setOther ?_ (by dsimp only; omega) _)
  · repeat (first | with_reducible exact Tj_9 | refine T3At.other ?_ (by dsimp only; omega) _)
  · repeat (first | with_reducible exact Gs_9 | refine OwnC.setOther ?_ (by dsimp only; omega) _)
  · repeat (first | with_reducible exact Ts_9 | refine T2At.other ?_ (by dsimp only; omega) _)
  · repeat (first | with_reducible exact Go_9 | refine OwnC.setOther ?_ (by dsimp only; omega) _)
  · repeat (first | with_reducible exact To_9 | refine T3At.other ?_ (by dsimp only; omega) _)
  · repeat (first | with_reducible exact B_9 | refine Below.setCell ?_ (by dsimp only; omega) _)

end Go.Proofs.YthopfmhagddhgaaGreat

namespace Go.Proofs.YthopfmhagddhgaaGreat
open Go.RowKit

set_option maxHeartbeats 4000000 in
set_option maxRecDepth 100000 in
theorem eqBoss_any (wk : Int) (up : Bool) (now sn ep gv : Int) (a1 a2 ar aj az ao : Option Addr) (n1 c1 n2 c2 nr cr nj cj ns cs no co : Nat) (bl1 ol1 bl2 ol2 br or' bj oj bs os' bo oo : Nat) (L1 L2 R : List ByteArray) (J : List Tr) (S : List (Bool × Int)) (O : List Tr) (a1' a2' ar' aj' az' ao' : Option Addr) (c1' c2' cr' cj' cs' co' : Nat) (dl1 pl1 dl2 pl2 dr pr dj pj ds ps do' po : Nat) (w : World) (h1 : StrsAt w a1 bl1 ol1 n1 L1) (h2 : StrsAt w a2 bl2 ol2 n2 L2) (hR : StrsAt w ar br or' nr R) (hJ : T3At w aj bj oj nj J) (hS : T2At w az bs os' ns S) (hO : T3At w ao bo oo no O) (h1' : StrsAt w a1' dl1 pl1 n1 L1) (h2' : StrsAt w a2' dl2 pl2 n2 L2) (hR' : StrsAt w ar' dr pr nr R) (hJ' : T3At w aj' dj pj nj J) (hS' : T2At w az' ds ps ns S) (hO' : T3At w ao' do' po no O) :
    Calls Tryz.prog 22 #[.agg #[.int .i64 wk, .bool up, .int .i64 now, .int .i64 sn, .int .i64 ep, .int .i64 gv, .slice a1 n1 c1, .slice a2 n2 c2, .slice ar nr cr, .slice aj nj cj, .slice az ns cs, .slice ao no co], .agg #[.int .i64 wk, .bool up, .int .i64 now, .int .i64 sn, .int .i64 ep, .int .i64 gv, .slice a1' n1 c1', .slice a2' n2 c2', .slice ar' nr cr', .slice aj' nj cj', .slice az' ns cs', .slice ao' no co']] w fun e w' => e = .returned (.bool true) ∧ Below w.heap.size w w' := by
  obtain ⟨W, hW⟩ : ∃ W, W = (w.alloc (.cells #[.int .i64 wk, .bool up, .int .i64 now, .int .i64 sn, .int .i64 ep, .int .i64 gv, .slice a1 n1 c1, .slice a2 n2 c2, .slice ar nr cr, .slice aj nj cj, .slice az ns cs, .slice ao no co] 47)).alloc (.cells #[.int .i64 wk, .bool up, .int .i64 now, .int .i64 sn, .int .i64 ep, .int .i64 gv, .slice a1' n1 c1', .slice a2' n2 c2', .slice ar' nr cr', .slice aj' nj cj', .slice az' ns cs', .slice ao' no co'] 47) := ⟨_, rfl⟩
  have B_0 : Below w.heap.size w W := by rw [hW]; exact ((Below.refl _ _).alloc (Nat.le_refl _) _).alloc (by simp) _
  have hs_0 : w.heap.size + 1 < W.heap.size := by rw [hW]; simp
  have A_0 : MC W w.heap.size [.int .i64 wk, .bool up, .int .i64 now, .int .i64 sn, .int .i64 ep, .int .i64 gv, .slice a1 n1 c1, .slice a2 n2 c2, .slice ar nr cr, .slice aj nj cj, .slice az ns cs, .slice ao no co] := by rw [hW]; exact (MC.made w #[.int .i64 wk, .bool up, .int .i64 now, .int .i64 sn, .int .i64 ep, .int .i64 gv, .slice a1 n1 c1, .slice a2 n2 c2, .slice ar nr cr, .slice aj nj cj, .slice az ns cs, .slice ao no co] 47).block (Below.heap_alloc _ _ _ (by simp))
  have D_0 : MC W (w.heap.size + 1) [.int .i64 wk, .bool up, .int .i64 now, .int .i64 sn, .int .i64 ep, .int .i64 gv, .slice a1' n1 c1', .slice a2' n2 c2', .slice ar' nr cr', .slice aj' nj cj', .slice az' ns cs', .slice ao' no co'] := by
    have := MC.made (w.alloc (.cells #[.int .i64 wk, .bool up, .int .i64 now, .int .i64 sn, .int .i64 ep, .int .i64 gv, .slice a1 n1 c1, .slice a2 n2 c2, .slice ar nr cr, .slice aj nj cj, .slice az ns cs, .slice ao no co] 47)) #[.int .i64 wk, .bool up, .int .i64 now, .int .i64 sn, .int .i64 ep, .int .i64 gv, .slice a1' n1 c1', .slice a2' n2 c2', .slice ar' nr cr', .slice aj' nj cj', .slice az' ns cs', .slice ao' no co'] 47
    rw [World.size_alloc] at this
    rw [hW]; exact this
  cases up
  all_goals
    go_enter Tryz.func22, Tryz.ntmps22
    go_wp2_with fail
    rw [← hW]
    clear hW
    refine (eqLog_any a1 a2 a1' a2' bl1 ol1 n1 c1 bl2 ol2 n2 c2 dl1 pl1 c1' dl2 pl2 c2' L1 L2 _ (h1.below' B_0) (h2.below' B_0) (h1'.below' B_0) (h2'.below' B_0)).mono ?_
    rintro e' w1 ⟨rfl, hb⟩
    have hl := hb.size
    have A_1 := A_0.below hb (by omega)
    have D_1 := D_0.below hb (by omega)
    have B_1 := B_0.trans (hb.mono B_0.size)
    have hs_1 : w.heap.size + 1 < w1.heap.size := by omega
    clear A_0 D_0 B_0 hs_0 hb hl
    have z := A_1 8 (by simp)
    have y := D_1 8 (by simp)
    simp only [List.getElem?_cons_zero, List.getElem?_cons_succ] at z y
    go_wp2_with fail
    clear z y
    refine (eqStringS_any ar ar' br or' nr cr dr pr cr' R _ (hR.below' B_1) (hR'.below' B_1)).mono ?_
    rintro e' w2 ⟨rfl, hb⟩
    have hl := hb.size
    have A_2 := A_1.below hb (by omega)
    have D_2 := D_1.below hb (by omega)
    have B_2 := B_1.trans (hb.mono B_1.size)
    have hs_2 : w.heap.size + 1 < w2.heap.size := by omega
    clear A_1 D_1 B_1 hs_1 hb hl
    have z := A_2 9 (by simp)
    have y := D_2 9 (by simp)
    simp only [List.getElem?_cons_zero, List.getElem?_cons_succ] at z y
    go_wp2_with fail
    clear z y
    refine (eqJobS_any aj aj' bj oj nj cj dj pj cj' J _ (hJ.below' B_2) (hJ'.below' B_2)).mono ?_
    rintro e' w3 ⟨rfl, hb⟩
    have hl := hb.size
    have A_3 := A_2.below hb (by omega)
    have D_3 := D_2.below hb (by omega)
    have B_3 := B_2.trans (hb.mono B_2.size)
    have hs_3 : w.heap.size + 1 < w3.heap.size := by omega
    clear A_2 D_2 B_2 hs_2 hb hl
    have z := A_3 10 (by simp)
    have y := D_3 10 (by simp)
    simp only [List.getElem?_cons_zero, List.getElem?_cons_succ] at z y
    go_wp2_with fail
    clear z y
    refine (eqSeatS_any az az' bs os' ns cs ds ps cs' S _ (hS.below' B_3) (hS'.below' B_3)).mono ?_
    rintro e' w4 ⟨rfl, hb⟩
    have hl := hb.size
    have A_4 := A_3.below hb (by omega)
    have D_4 := D_3.below hb (by omega)
    have B_4 := B_3.trans (hb.mono B_3.size)
    have hs_4 : w.heap.size + 1 < w4.heap.size := by omega
    clear A_3 D_3 B_3 hs_3 hb hl
    have z := A_4 11 (by simp)
    have y := D_4 11 (by simp)
    simp only [List.getElem?_cons_zero, List.getElem?_cons_succ] at z y
    go_wp2_with fail
    clear z y
    refine (eqOwedS_any ao ao' bo oo no co do' po co' O _ (hO.below' B_4) (hO'.below' B_4)).mono ?_
    rintro e' w5 ⟨rfl, hb⟩
    have hl := hb.size
    have A_5 := A_4.below hb (by omega)
    have D_5 := D_4.below hb (by omega)
    have B_5 := B_4.trans (hb.mono B_4.size)
    have hs_5 : w.heap.size + 1 < w5.heap.size := by omega
    clear A_4 D_4 B_4 hs_4 hb hl
    go_wp2
    go_ret
    exact ⟨rfl, B_5⟩

end Go.Proofs.YthopfmhagddhgaaGreat
