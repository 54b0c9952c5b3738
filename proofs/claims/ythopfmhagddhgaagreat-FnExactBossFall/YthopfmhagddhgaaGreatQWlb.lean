import Derived.Test.YthopfmhagddhgaaGreatQBoq
import Derived.Test.YthopfmhagddhgaaGreatQBsv
import Derived.Test.YthopfmhagddhgaaGreatQBsj
namespace Go.Proofs.YthopfmhagddhgaaGreat
open Go.RowKit

set_option maxHeartbeats 2000000 in
set_option maxRecDepth 100000 in
theorem szBossL_any (wk : Int) (up : Bool) (now sn ep gv : Int) (a1 a2 ar aj az ao : Option Addr) (n1 c1 n2 c2 nr cr nj cj ns cs no co : Nat) (bl1 ol1 bl2 ol2 br or' bj oj bs os' bo oo : Nat) (L1 L2 R : List ByteArray) (J : List Tr) (S : List (Bool × Int)) (O : List Tr) (left : Int) (w : World) (hl0 : 0 ≤ left) (hl1 : left ≤ 1048576) (h1 : StrsAt w a1 bl1 ol1 n1 L1) (h2 : StrsAt w a2 bl2 ol2 n2 L2) (hR : StrsAt w ar br or' nr R) (hJ : T3At w aj bj oj nj J) (hS : T2At w az bs os' ns S) (hO : T3At w ao bo oo no O) :
    Calls Tryz.prog 16 #[.agg #[.int .i64 wk, .bool up, .int .i64 now, .int .i64 sn, .int .i64 ep, .int .i64 gv, .slice a1 n1 c1, .slice a2 n2 c2, .slice ar nr cr, .slice aj nj cj, .slice az ns cs, .slice ao no co], .int .i64 left] w fun e w' => (∃ r, e = .returned (.int .i64 r) ∧ (r = -1 ∨ 0 ≤ r ∧ r ≤ left ∧ n1 + n2 + nr + nj + ns + no ≤ 1048576)) ∧ Below w.heap.size w w' := by
  obtain ⟨W, hW⟩ : ∃ W, W = w.alloc (.cells #[.int .i64 wk, .bool up, .int .i64 now, .int .i64 sn, .int .i64 ep, .int .i64 gv, .slice a1 n1 c1, .slice a2 n2 c2, .slice ar nr cr, .slice aj nj cj, .slice az ns cs, .slice ao no co] 32) := ⟨_, rfl⟩
  have hbW : Below w.heap.size w W := by rw [hW]; exact (Below.refl _ _).alloc (Nat.le_refl _) _
  have hq : MC W w.heap.size [.int .i64 wk, .bool up, .int .i64 now, .int .i64 sn, .int .i64 ep, .int .i64 gv, .slice a1 n1 c1, .slice a2 n2 c2, .slice ar nr cr, .slice aj nj cj, .slice az ns cs, .slice ao no co] := by rw [hW]; exact MC.made w _ _
  have hlW : w.heap.size < W.heap.size := by rw [hW]; simp
  go_enter Tryz.func16, Tryz.ntmps16
  go_wp2_with fail
  rw [← hW]
  refine (szLog_any a1 a2 bl1 ol1 n1 c1 bl2 ol2 n2 c2 L1 L2 left _ hl0 hl1 (h1.below' hbW) (h2.below' hbW)).mono ?_
  rintro e w1 ⟨⟨r, rfl, hr⟩, hb1⟩
  clear hW
  have hb := hbW.trans (hb1.mono hbW.size)
  have z8 : w1.cell? ⟨w.heap.size, 8, none⟩ = some (.slice ar nr cr) := keepB hb1 (hq 8 (by simp))
  have z9 : w1.cell? ⟨w.heap.size, 9, none⟩ = some (.slice aj nj cj) := keepB hb1 (hq 9 (by simp))
  have z10 : w1.cell? ⟨w.heap.size, 10, none⟩ = some (.slice az ns cs) := keepB hb1 (hq 10 (by simp))
  have z11 : w1.cell? ⟨w.heap.size, 11, none⟩ = some (.slice ao no co) := keepB hb1 (hq 11 (by simp))
  have HX : Hid (nj ≤ maxLen ∧ ns ≤ maxLen ∧ no ≤ maxLen) := ⟨hJ.max, hS.max, hO.max⟩
  have HRa := hid (hR.below' hb)
  clear hbW hq hlW hb1 h1 h2 hR hJ hS hO
  rcases hr with rfl | ⟨hr, hr0⟩
  · go_wp2
    go_ret
    exact ⟨⟨_, rfl, .inl rfl⟩, hb⟩
  have hr1 : r ≤ 1048576 := by omega
  have H1 : Hid ((n1 : Int) + n2 ≤ left - r) := hid (by omega)
  clear hr
  go_wp2_with fail
  refine (szStringS_any ar br or' nr cr R r _ hr0 hr1 HRa.out).mono ?_
  rintro e w' ⟨⟨r2, rfl, hr2⟩, rfl⟩
  rcases hr2 with rfl | ⟨hr2, hr20⟩
  · go_wp2
    go_ret
    exact ⟨⟨_, rfl, .inl rfl⟩, hb⟩
  have hr21 : r2 ≤ 1048576 := by omega
  have H2 : Hid ((n1 : Int) + n2 + nr ≤ left - r2) := hid (by have := H1.out; omega)
  clear hr2 hr0 hr1 H1 HRa
  go_wp2_with fail
  refine (szJobS_any aj nj cj r2 _ hr20 hr21 HX.out.1).mono ?_
  rintro e w' ⟨⟨r3, rfl, hr3⟩, rfl⟩
  rcases hr3 with rfl | ⟨hr3, hr30⟩
  · go_wp2
    go_ret
    exact ⟨⟨_, rfl, .inl rfl⟩, hb⟩
  have hr31 : r3 ≤ 1048576 := by omega
  have H3 : Hid ((n1 : Int) + n2 + nr + nj ≤ left - r3) := hid (by have := H2.out; omega)
  clear hr3 hr20 hr21 H2
  go_wp2_with fail
  refine (szSeatS_any az ns cs r3 _ hr30 hr31 HX.out.2.1).mono ?_
  rintro e w' ⟨⟨r4, rfl, hr4⟩, rfl⟩
  rcases hr4 with rfl | ⟨hr4, hr40⟩
  · go_wp2
    go_ret
    exact ⟨⟨_, rfl, .inl rfl⟩, hb⟩
  have hr41 : r4 ≤ 1048576 := by omega
  have H4 : Hid ((n1 : Int) + n2 + nr + nj + ns ≤ left - r4) := hid (by have := H3.out; omega)
  clear hr4 hr30 hr31 H3
  go_wp2_with fail
  refine (szOwedS_any ao no co r4 _ hr40 hr41 HX.out.2.2).mono ?_
  rintro e w' ⟨⟨r5, rfl, hr5⟩, rfl⟩
  rcases hr5 with rfl | ⟨hr5, hr50⟩
  · go_wp2
    go_ret
    exact ⟨⟨_, rfl, .inl rfl⟩, hb⟩
  have hr51 : r5 ≤ 1048576 := by omega
  have H5 : Hid ((n1 : Int) + n2 + nr + nj + ns + no ≤ left - r5) := hid (by have := H4.out; omega)
  clear hr5 hr40 hr41 H4
  go_wp2
  go_ret
  exact ⟨⟨_, rfl, .inr ⟨hr50, by have := H5.out; omega, by have := H5.out; omega⟩⟩, hb⟩


structure BD where
  wk : Int
  up : Bool
  now : Int
  sn : Int
  ep : Int
  gv : Int
  L1 : List ByteArray
  L2 : List ByteArray
  R : List ByteArray
  J : List Tr
  S : List (Bool × Int)
  O : List Tr
/-- Where the lists lie. -/
structure BH where
  a1 : Option Addr
  a2 : Option Addr
  ar : Option Addr
  aj : Option Addr
  az : Option Addr
  ao : Option Addr
  c1 : Nat
  c2 : Nat
  cr : Nat
  cj : Nat
  cs : Nat
  co : Nat
def bvs (d : BD) (h : BH) : List Value := [.int .i64 d.wk, .bool d.up, .int .i64 d.now, .int .i64 d.sn, .int .i64 d.ep, .int .i64 d.gv, .slice h.a1 d.L1.length h.c1, .slice h.a2 d.L2.length h.c2, .slice h.ar d.R.length h.cr, .slice h.aj d.J.length h.cj, .slice h.az d.S.length h.cs, .slice h.ao d.O.length h.co]
def BossM (w : World) (d : BD) (h : BH) : Prop := (∃ b o, StrsAt w h.a1 b o d.L1.length d.L1) ∧ (∃ b o, StrsAt w h.a2 b o d.L2.length d.L2) ∧ (∃ b o, StrsAt w h.ar b o d.R.length d.R) ∧ (∃ b o, T3At w h.aj b o d.J.length d.J) ∧ (∃ b o, T2At w h.az b o d.S.length d.S) ∧ (∃ b o, T3At w h.ao b o d.O.length d.O)
theorem BossM.below' {w w' : World} {d : BD} {h : BH} (hM : BossM w d h) (hb : Below w.heap.size w w') : BossM w' d h := by
  obtain ⟨⟨b1, o1, h1⟩, ⟨b2, o2, h2⟩, ⟨b3, o3, h3⟩, ⟨b4, o4, h4⟩, ⟨b5, o5, h5⟩, ⟨b6, o6, h6⟩⟩ := hM
  exact ⟨⟨b1, o1, h1.below' hb⟩, ⟨b2, o2, h2.below' hb⟩, ⟨b3, o3, h3.below' hb⟩, ⟨b4, o4, h4.below' hb⟩, ⟨b5, o5, h5.below' hb⟩, ⟨b6, o6, h6.below' hb⟩⟩
/-- These twelve cells are that coordinator. -/
def BossV (w : World) (d : BD) (vs : List Value) : Prop := ∃ h, vs = bvs d h ∧ BossM w d h
theorem BossV.below' {w w' : World} {d : BD} {vs : List Value} (hV : BossV w d vs) (hb : Below w.heap.size w w') : BossV w' d vs := by
  obtain ⟨h, e, hM⟩ := hV
  exact ⟨h, e, hM.below' hb⟩
theorem BossV.one {w : World} {d : BD} {vs : List Value} (hV : BossV w d vs) : ∀ v ∈ vs, v.oneCell' = true := by
  obtain ⟨h, rfl, _⟩ := hV
  intro v hv
  simp only [bvs, List.mem_cons, List.not_mem_nil, or_false] at hv
  rcases hv with rfl | rfl | rfl | rfl | rfl | rfl | rfl | rfl | rfl | rfl | rfl | rfl <;> rfl
theorem StrsAt.blk {w w' : World} {a : Option Addr} {b o n : Nat} {ss : List ByteArray} (h : StrsAt w a b o n ss) (hs : w.heap.size ≤ w'.heap.size) (hb : 0 < n → w'.heap[b]? = w.heap[b]?) : StrsAt w' a b o n ss :=
  ⟨h.ad, h.len, h.max, fun hn => Nat.lt_of_lt_of_le (h.lt hn) hs, fun j hj => (World.cell?_of_block (w := w) (hb (by omega))).trans (h.cell j hj), h.sz⟩
theorem T3At.blk {w w' : World} {a : Option Addr} {b o n : Nat} {J : List Tr} (h : T3At w a b o n J) (hs : w.heap.size ≤ w'.heap.size) (hb : 0 < n → w'.heap[b]? = w.heap[b]?) : T3At w' a b o n J :=
  ⟨h.ad, h.len, h.max, fun hn => Nat.lt_of_lt_of_le (h.lt hn) hs, fun j hj => (World.cell?_of_block (w := w) (hb (by omega))).trans (h.c0 j hj), fun j hj => (World.cell?_of_block (w := w) (hb (by omega))).trans (h.c1 j hj), fun j hj => (World.cell?_of_block (w := w) (hb (by omega))).trans (h.c2 j hj), h.rng⟩
theorem T2At.blk {w w' : World} {a : Option Addr} {b o n : Nat} {J : List (Bool × Int)} (h : T2At w a b o n J) (hs : w.heap.size ≤ w'.heap.size) (hb : 0 < n → w'.heap[b]? = w.heap[b]?) : T2At w' a b o n J :=
  ⟨h.ad, h.len, h.max, fun hn => Nat.lt_of_lt_of_le (h.lt hn) hs, fun j hj => (World.cell?_of_block (w := w) (hb (by omega))).trans (h.c0 j hj), fun j hj => (World.cell?_of_block (w := w) (hb (by omega))).trans (h.c1 j hj), h.rng⟩
/-- .. its lists from block B on. -/
def BossA (w : World) (B : Nat) (d : BD) (vs : List Value) : Prop := ∃ h, vs = bvs d h ∧ (∃ b o, StrsAt w h.a1 b o d.L1.length d.L1 ∧ B ≤ b) ∧ (∃ b o, StrsAt w h.a2 b o d.L2.length d.L2 ∧ B ≤ b) ∧ (∃ b o, StrsAt w h.ar b o d.R.length d.R ∧ B ≤ b) ∧ (∃ b o, T3At w h.aj b o d.J.length d.J ∧ B ≤ b) ∧ (∃ b o, T2At w h.az b o d.S.length d.S ∧ B ≤ b) ∧ (∃ b o, T3At w h.ao b o d.O.length d.O ∧ B ≤ b)
theorem BossA.v {w : World} {B : Nat} {d : BD} {vs : List Value} (h : BossA w B d vs) : BossV w d vs := by
  obtain ⟨h, e, ⟨b1, o1, h1, _⟩, ⟨b2, o2, h2, _⟩, ⟨b3, o3, h3, _⟩, ⟨b4, o4, h4, _⟩, ⟨b5, o5, h5, _⟩, ⟨b6, o6, h6, _⟩⟩ := h
  exact ⟨h, e, ⟨b1, o1, h1⟩, ⟨b2, o2, h2⟩, ⟨b3, o3, h3⟩, ⟨b4, o4, h4⟩, ⟨b5, o5, h5⟩, ⟨b6, o6, h6⟩⟩
theorem BossA.blk {w w' : World} {B : Nat} {d : BD} {vs : List Value} (h : BossA w B d vs) (hs : w.heap.size ≤ w'.heap.size) (hb : ∀ q, B ≤ q → q < w.heap.size → w'.heap[q]? = w.heap[q]?) : BossA w' B d vs := by
  obtain ⟨h, e, ⟨b1, o1, h1, k1⟩, ⟨b2, o2, h2, k2⟩, ⟨b3, o3, h3, k3⟩, ⟨b4, o4, h4, k4⟩, ⟨b5, o5, h5, k5⟩, ⟨b6, o6, h6, k6⟩⟩ := h
  exact ⟨h, e, ⟨b1, o1, h1.blk hs (fun hn => hb _ k1 (h1.lt hn)), k1⟩, ⟨b2, o2, h2.blk hs (fun hn => hb _ k2 (h2.lt hn)), k2⟩, ⟨b3, o3, h3.blk hs (fun hn => hb _ k3 (h3.lt hn)), k3⟩, ⟨b4, o4, h4.blk hs (fun hn => hb _ k4 (h4.lt hn)), k4⟩, ⟨b5, o5, h5.blk hs (fun hn => hb _ k5 (h5.lt hn)), k5⟩, ⟨b6, o6, h6.blk hs (fun hn => hb _ k6 (h6.lt hn)), k6⟩⟩
theorem BossA.below {w w' : World} {B : Nat} {d : BD} {vs : List Value} (h : BossA w B d vs) (hb : Below w.heap.size w w') : BossA w' B d vs := h.blk hb.size (fun q _ hq => hb.block q hq)
def BD.small (d : BD) : Prop := d.L1.length + d.L2.length + d.R.length + d.J.length + d.S.length + d.O.length ≤ 1048576
def BD.ok (d : BD) (ts : List TaskD) : Prop := vB ts d.wk d.up d.now d.sn d.ep d.gv d.L1 d.L2 d.R d.J d.S d.O

theorem szBossV_any (d : BD) (v0 v1 v2 v3 v4 v5 v6 v7 v8 v9 v10 v11 : Value) (left : Int) (w : World) (hl0 : 0 ≤ left) (hl1 : left ≤ 1048576) (hV : BossV w d [v0, v1, v2, v3, v4, v5, v6, v7, v8, v9, v10, v11]) :
    Calls Tryz.prog 16 #[.agg #[v0, v1, v2, v3, v4, v5, v6, v7, v8, v9, v10, v11], .int .i64 left] w fun e w' => (∃ r, e = .returned (.int .i64 r) ∧ (r = -1 ∨ 0 ≤ r ∧ r ≤ left ∧ d.small)) ∧ Below w.heap.size w w' := by
  obtain ⟨h, e, ⟨b1, o1, h1⟩, ⟨b2, o2, h2⟩, ⟨b3, o3, h3⟩, ⟨b4, o4, h4⟩, ⟨b5, o5, h5⟩, ⟨b6, o6, h6⟩⟩ := hV
  simp only [bvs, List.cons.injEq, and_true] at e
  obtain ⟨rfl, rfl, rfl, rfl, rfl, rfl, rfl, rfl, rfl, rfl, rfl, rfl⟩ := e
  exact szBossL_any d.wk d.up d.now d.sn d.ep d.gv h.a1 h.a2 h.ar h.aj h.az h.ao d.L1.length h.c1 d.L2.length h.c2 d.R.length h.cr d.J.length h.cj d.S.length h.cs d.O.length h.co b1 o1 b2 o2 b3 o3 b4 o4 b5 o5 b6 o6 d.L1 d.L2 d.R d.J d.S d.O left w hl0 hl1 h1 h2 h3 h4 h5 h6
theorem toBossV_any (d : BD) (v0 v1 v2 v3 v4 v5 v6 v7 v8 v9 v10 v11 : Value) (w : World) (hV : BossV w d [v0, v1, v2, v3, v4, v5, v6, v7, v8, v9, v10, v11]) (hs : d.small) :
    Calls Tryz.prog 19 #[.agg #[v0, v1, v2, v3, v4, v5, v6, v7, v8, v9, v10, v11]] w fun e w' => (∃ u0 u1 u2 u3 u4 u5 u6 u7 u8 u9 u10 u11, e = .returned (.agg #[u0, u1, u2, u3, u4, u5, u6, u7, u8, u9, u10, u11]) ∧ BossA w' w.heap.size d [u0, u1, u2, u3, u4, u5, u6, u7, u8, u9, u10, u11]) ∧ Below w.heap.size w w' := by
  unfold BD.small at hs
  obtain ⟨h, e, ⟨b1, o1, h1⟩, ⟨b2, o2, h2⟩, ⟨b3, o3, h3⟩, ⟨b4, o4, h4⟩, ⟨b5, o5, h5⟩, ⟨b6, o6, h6⟩⟩ := hV
  simp only [bvs, List.cons.injEq, and_true] at e
  obtain ⟨rfl, rfl, rfl, rfl, rfl, rfl, rfl, rfl, rfl, rfl, rfl, rfl⟩ := e
  have z1 := h1.sz
  have z2 := h2.sz
  have z3 := h3.sz
  refine (toBoss_any d.wk d.up d.now d.sn d.ep d.gv h.a1 h.a2 h.ar h.aj h.az h.ao d.L1.length h.c1 d.L2.length h.c2 d.R.length h.cr d.J.length h.cj d.S.length h.cs d.O.length h.co b1 o1 b2 o2 b3 o3 b4 o4 b5 o5 b6 o6 d.L1 d.L2 d.R d.J d.S d.O w h1 h2 h3 h4 h5 h6 (by omega) (by omega) (by omega) (by omega) (by omega) (by omega)).mono ?_
  rintro e w' ⟨⟨g1, g2, gr, gj, gs, go, xj, xs, xo, rfl, G1, G2, G3, ⟨K4, G4⟩, ⟨K5, G5⟩, ⟨K6, G6⟩, _⟩, hb⟩
  refine ⟨⟨_, _, _, _, _, _, _, _, _, _, _, _, rfl, ⟨some ⟨g1, 0, none⟩, some ⟨g2, 0, none⟩, some ⟨gr, 0, none⟩, some ⟨gj, 0, none⟩, some ⟨gs, 0, none⟩, some ⟨go, 0, none⟩, d.L1.length, d.L2.length, d.R.length, d.J.length, d.S.length, d.O.length⟩, rfl, ⟨_, _, StrsAt.ofOwn G1 z1, G1.lo⟩, ⟨_, _, StrsAt.ofOwn G2 z2, G2.lo⟩, ⟨_, _, StrsAt.ofOwn G3 z3, G3.lo⟩, ⟨_, _, G4, K4.lo⟩, ⟨_, _, G5, K5.lo⟩, ⟨_, _, G6, K6.lo⟩⟩, hb⟩
theorem eqBossV_any (d : BD) (v0 v1 v2 v3 v4 v5 v6 v7 v8 v9 v10 v11 : Value) (u0 u1 u2 u3 u4 u5 u6 u7 u8 u9 u10 u11 : Value) (w : World) (hV : BossV w d [v0, v1, v2, v3, v4, v5, v6, v7, v8, v9, v10, v11]) (hU : BossV w d [u0, u1, u2, u3, u4, u5, u6, u7, u8, u9, u10, u11]) :
    Calls Tryz.prog 22 #[.agg #[v0, v1, v2, v3, v4, v5, v6, v7, v8, v9, v10, v11], .agg #[u0, u1, u2, u3, u4, u5, u6, u7, u8, u9, u10, u11]] w fun e w' => e = .returned (.bool true) ∧ Below w.heap.size w w' := by
  obtain ⟨h, e, ⟨b1, o1, h1⟩, ⟨b2, o2, h2⟩, ⟨b3, o3, h3⟩, ⟨b4, o4, h4⟩, ⟨b5, o5, h5⟩, ⟨b6, o6, h6⟩⟩ := hV
  simp only [bvs, List.cons.injEq, and_true] at e
  obtain ⟨rfl, rfl, rfl, rfl, rfl, rfl, rfl, rfl, rfl, rfl, rfl, rfl⟩ := e
  obtain ⟨k, e, ⟨p1, q1, k1⟩, ⟨p2, q2, k2⟩, ⟨p3, q3, k3⟩, ⟨p4, q4, k4⟩, ⟨p5, q5, k5⟩, ⟨p6, q6, k6⟩⟩ := hU
  simp only [bvs, List.cons.injEq, and_true] at e
  obtain ⟨rfl, rfl, rfl, rfl, rfl, rfl, rfl, rfl, rfl, rfl, rfl, rfl⟩ := e
  exact eqBoss_any d.wk d.up d.now d.sn d.ep d.gv h.a1 h.a2 h.ar h.aj h.az h.ao d.L1.length h.c1 d.L2.length h.c2 d.R.length h.cr d.J.length h.cj d.S.length h.cs d.O.length h.co b1 o1 b2 o2 b3 o3 b4 o4 b5 o5 b6 o6 d.L1 d.L2 d.R d.J d.S d.O k.a1 k.a2 k.ar k.aj k.az k.ao k.c1 k.c2 k.cr k.cj k.cs k.co p1 q1 p2 q2 p3 q3 p4 q4 p5 q5 p6 q6 w h1 h2 h3 h4 h5 h6 k1 k2 k3 k4 k5 k6
theorem iValBV_any (d : BD) (v0 v1 v2 v3 v4 v5 v6 v7 v8 v9 v10 v11 : Value) (pa : Option Addr) (pb po pn pc : Nat) (ts : List TaskD) (w : World) (hV : BossV w d [v0, v1, v2, v3, v4, v5, v6, v7, v8, v9, v10, v11]) (hT : TasksAt w pa pb po pn ts) (hs : d.small) :
    Calls Tryz.prog 35 #[.agg #[v0, v1, v2, v3, v4, v5, v6, v7, v8, v9, v10, v11], .agg #[.slice pa pn pc]] w fun e w' => RetB e (d.ok ts) ∧ Below w.heap.size w w' := by
  unfold BD.small at hs
  obtain ⟨h, e, ⟨b1, o1, h1⟩, ⟨b2, o2, h2⟩, ⟨b3, o3, h3⟩, ⟨b4, o4, h4⟩, ⟨b5, o5, h5⟩, ⟨b6, o6, h6⟩⟩ := hV
  simp only [bvs, List.cons.injEq, and_true] at e
  obtain ⟨rfl, rfl, rfl, rfl, rfl, rfl, rfl, rfl, rfl, rfl, rfl, rfl⟩ := e
  exact iValB_any d.wk d.up d.now d.sn d.ep d.gv h.a1 h.a2 h.ar h.aj h.az h.ao d.L1.length h.c1 d.L2.length h.c2 d.R.length h.cr d.J.length h.cj d.S.length h.cs d.O.length h.co b1 o1 b2 o2 b3 o3 b4 o4 b5 o5 b6 o6 d.L1 d.L2 d.R d.J d.S d.O pa pb po pn pc ts w h1 h2 h3 h4 h5 h6 hT (by omega) (by omega) (by omega)
theorem sValBV_any (d : BD) (v0 v1 v2 v3 v4 v5 v6 v7 v8 v9 v10 v11 : Value) (pa : Option Addr) (pb po pn pc : Nat) (ts : List TaskD) (w : World) (hV : BossV w d [v0, v1, v2, v3, v4, v5, v6, v7, v8, v9, v10, v11]) (hT : TasksAt w pa pb po pn ts) (hs : d.small) :
    Calls Tryz.prog 32 #[.agg #[v0, v1, v2, v3, v4, v5, v6, v7, v8, v9, v10, v11], .agg #[.slice pa pn pc]] w fun e w' => RetB e (d.ok ts) ∧ Below w.heap.size w w' := by
  unfold BD.small at hs
  obtain ⟨h, e, ⟨b1, o1, h1⟩, ⟨b2, o2, h2⟩, ⟨b3, o3, h3⟩, ⟨b4, o4, h4⟩, ⟨b5, o5, h5⟩, ⟨b6, o6, h6⟩⟩ := hV
  simp only [bvs, List.cons.injEq, and_true] at e
  obtain ⟨rfl, rfl, rfl, rfl, rfl, rfl, rfl, rfl, rfl, rfl, rfl, rfl⟩ := e
  exact sValB_any d.wk d.up d.now d.sn d.ep d.gv h.a1 h.a2 h.ar h.aj h.az h.ao d.L1.length h.c1 d.L2.length h.c2 d.R.length h.cr d.J.length h.cj d.S.length h.cs d.O.length h.co b1 o1 b2 o2 b3 o3 b4 o4 b5 o5 b6 o6 d.L1 d.L2 d.R d.J d.S d.O pa pb po pn pc ts w h1 h2 h3 h4 h5 h6 hT (by omega) (by omega) (by omega) (by omega) (by omega) (by omega) (by omega)
end Go.Proofs.YthopfmhagddhgaaGreat
