
/-
  laws.eqStory, markStory, heldStory; the law FnExactReplay's walk.
-/
import Derived.Test.YtoikcjeagigmfaaRSp
import Derived.Test.YtoikcjeagigmfaaMid
namespace Go.Proofs.Ytoikcjeagigmfaa
open Go.RowKit

theorem Own.stat {B : Nat} {w : World} {a : Option Addr} {n c : Nat} {ss : List ByteArray} (h : Own B w 1 (.slice a n c) n (ss.map Value.string)) (hz : ∀ s ∈ ss, s.size ≤ maxLen) : ∃ b o, StrsAt w a b o n ss ∧ (0 < n → B ≤ b) := by
  rcases h with ⟨hv, rfl, hx⟩ | ⟨g, o, cap, hv, hc⟩
  · injection hv with h1 _ _
    have : ss = [] := by simpa using hx
    subst this
    exact ⟨0, 0, ⟨fun h => absurd h (by omega), rfl, Nat.zero_le _, fun h => absurd h (by omega), fun j hj => absurd hj (by omega), by simp⟩, fun h => absurd h (by omega)⟩
  · injection hv with h1 _ _
    subst h1
    exact ⟨g, o, StrsAt.ofOwn hc hz, fun _ => hc.lo⟩
theorem MC.grownBy {w w' : World} {p : Nat} {vs : List Value} {r : Option Nat} (h : MC w p vs) (hg : w.grownBy w' r) (hp : p < w.heap.size) (hr : ∀ k, r = some k → p ≠ k) : MC w' p vs := h.block (hg.block p hp (fun e => hr p e.symm rfl))
theorem MC.midB {w w' : World} {p g H : Nat} {vs : List Value} (h : MC w p vs) (hM : Mid g H w w') (hp : p < w.heap.size) (hr : p < g ∨ H ≤ p) : MC w' p vs := h.block (hM.block p hp hr)
theorem StrsAt.grownO {w w' : World} {a : Option Addr} {b o n : Nat} {ss : List ByteArray} {r : Option Nat} (h : StrsAt w a b o n ss) (hg : w.grownBy w' r) (hr : 0 < n → ∀ k, r = some k → b ≠ k) : StrsAt w' a b o n ss :=
  ⟨h.ad, h.len, h.max, fun hn => Nat.lt_of_lt_of_le (h.lt hn) hg.size, fun j hj => (World.cell?_of_block (w := w) (hg.block b (h.lt (by omega)) (fun e => hr (by omega) b e.symm rfl))).trans (h.cell j hj), h.sz⟩

set_option maxHeartbeats 1000000 in
theorem eqStory_any (k e : Int) (a a' : Option Addr) (b o n c b' o' c' : Nat) (ss : List ByteArray) (w : World) (h : StrsAt w a b o n ss) (h' : StrsAt w a' b' o' n ss) :
    Calls Try.prog 20 #[.agg #[.int .i64 k, .int .i64 e, .slice a n c], .agg #[.int .i64 k, .int .i64 e, .slice a' n c']] w fun e w' => e = .returned (.bool true) ∧ Below w.heap.size w w' := by
  obtain ⟨W, hW⟩ : ∃ W, W = (w.alloc (.cells #[.int .i64 k, .int .i64 e, .slice a n c] 40)).alloc (.cells #[.int .i64 k, .int .i64 e, .slice a' n c'] 40) := ⟨_, rfl⟩
  have hb0 : Below w.heap.size w W := by rw [hW]; exact ((Below.refl _ _).alloc (Nat.le_refl _) _).alloc (by simp) _
  go_enter Try.func20, Try.ntmps20
  go_wp2_with fail
  rw [← hW]
  refine (eqStringS_any a a' b o n c b' o' c' ss _ (h.below' hb0) (h'.below' hb0)).mono ?_
  rintro e' w1 ⟨rfl, hb1⟩
  clear hW
  have hb := hb0.trans (hb1.mono hb0.size)
  go_wp2
  go_ret
  exact ⟨rfl, hb⟩

set_option maxHeartbeats 1000000 in
theorem markStory_any (cc e : Int) (a : Option Addr) (n c : Nat) (B : Nat) (xs : List Value) (w : World) (hn : n ≤ 1048576) (h : Own B w 1 (.slice a n c) n xs) :
    Calls Try.prog 25 #[.agg #[.int .i64 cc, .int .i64 e, .slice a n c], .int .i64 1] w fun e w' => e = .returned (.int .i64 (1 + (n : Int))) ∧ Own B w' 1 (.slice a n c) n ((mks 1 n).map Value.string) ∧ w.grownBy w' (Value.slice a n c).ownBlock := by
  obtain ⟨W, hW⟩ : ∃ W, W = w.alloc (.cells #[.int .i64 cc, .int .i64 e, .slice a n c] 40) := ⟨_, rfl⟩
  have hg0 : w.grownBy W (Value.slice a n c).ownBlock := by rw [hW]; exact World.grownBy_alloc w _ _
  have ho : Own B W 1 (.slice a n c) n xs := by rw [hW]; exact h.alloc _
  have hct := markStringS_own2 a n c 1 B xs W (by omega) (by omega) hn ho
  rw [show ((1 : Nat) : Int) = 1 from rfl] at hct
  have HT := hid hct
  clear hct
  go_enter Try.func25, Try.ntmps25
  go_wp2_with fail
  rw [← hW]
  refine HT.out.mono ?_
  rintro e' w1 ⟨rfl, ho1, hg1⟩
  clear hW
  go_wp2
  go_ret
  exact ⟨rfl, ho1, grownBy_trans hg0 hg1⟩

set_option maxHeartbeats 1000000 in
theorem heldStory_any (cc e : Int) (a : Option Addr) (b o n c : Nat) (w : World) (hn : n ≤ 1048576) (h : StrsAt w a b o n (mks 1 n)) :
    Calls Try.prog 26 #[.agg #[.int .i64 cc, .int .i64 e, .slice a n c], .int .i64 1] w fun e w' => e = .returned (.int .i64 (1 + (n : Int))) ∧ Below w.heap.size w w' := by
  obtain ⟨W, hW⟩ : ∃ W, W = w.alloc (.cells #[.int .i64 cc, .int .i64 e, .slice a n c] 40) := ⟨_, rfl⟩
  have hb0 : Below w.heap.size w W := by rw [hW]; exact (Below.refl _ _).alloc (Nat.le_refl _) _
  have hct := heldStringS_any a b o n c 1 W (by omega) (by omega) hn (h.below' hb0)
  rw [show ((1 : Nat) : Int) = 1 from rfl] at hct
  have HT := hid hct
  clear hct
  have hn' : (n : Int) ≤ 1048576 := by omega
  go_enter Try.func26, Try.ntmps26
  go_wp2_with fail
  rw [← hW]
  refine HT.out.mono ?_
  rintro e' w1 ⟨rfl, hb1⟩
  clear hW
  have hb := hb0.trans (hb1.mono hb0.size)
  go_wp2
  go_ret
  exact ⟨rfl, hb⟩

theorem StoryIs.sizes {ts : List TaskD} {L : List ByteArray} {c E : Int} {R : List ByteArray} (h : StoryIs ts L c E R) (hn : ts.length ≤ 1048576) : R.length ≤ 1048576 ∧ ∀ s ∈ R, s.size ≤ maxLen := by
  rcases h with ⟨_, _, _, rfl⟩ | ⟨_, ⟨_, _, _, rfl⟩ | ⟨h, _⟩⟩
  · exact ⟨by simp, by simp⟩
  · exact ⟨by simp, by simp⟩
  · have := rep_ok _ (st0_ok ts.length) h
    exact ⟨by rw [this.2.2.1]; exact hn, fun s hs => by have := this.2.2.2 s hs; unfold maxLen; omega⟩

set_option maxHeartbeats 4000000 in
set_option maxRecDepth 100000 in
theorem fnExactReplay_walk (a : Option Addr) (b o n c : Nat) (ts : List TaskD) (a1 : Option Addr) (b1 o1 n1 c1 : Nat) (L : List ByteArray) (w : World) (h : TasksAt w a b o n ts) (h1 : StrsAt w a1 b1 o1 n1 L) :
    Calls Try.prog 5 #[.agg #[.slice a n c], .slice a1 n1 c1] w fun e w' => e = .returned (.bool true) ∧ Below w.heap.size w w' := by
  have HL : Hid (ts.length = n) := h.len
  obtain ⟨v0, hv0⟩ : ∃ v0, v0 = w.alloc (.cells #[.slice a n c] 35) := ⟨_, rfl⟩
  have B_0 : Below w.heap.size w v0 := by rw [hv0]; exact (Below.refl _ _).alloc (Nat.le_refl _) _
  have P_0 : MC v0 w.heap.size [.slice a n c] := by rw [hv0]; exact MC.made w _ _
  have lP_0 : w.heap.size < v0.heap.size := by rw [hv0]; simp
  go_enter Try.func5, Try.ntmps5
  go_wp2_with fail
  rw [← hv0]
  refine (szPlan_any a b o n c ts 1048576 _ (by omega) (by omega) (h.below' B_0)).mono ?_
  rintro e v1 ⟨⟨r, rfl, hr⟩, hb1⟩
  clear hv0
  have B_1 := B_0.trans (hb1.mono B_0.size)
  have P_1 := MC.below P_0 hb1 lP_0
  have lP_1 := Nat.lt_of_lt_of_le lP_0 hb1.size
  clear B_0 P_0 lP_0
  rcases hr with rfl | ⟨hr, hr0⟩
  · go_wp2
    go_ret
    exact ⟨rfl, B_1⟩
  have hs : n + tssz ts ≤ 1048576 := by omega
  have hr1 : r ≤ 1048576 := by omega
  clear hr
  go_wp2_with fail
  refine (szStringS_any a1 b1 o1 n1 c1 L r _ hr0 hr1 (h1.below' B_1)).mono ?_
  rintro e v2 ⟨⟨r2, rfl, hr2⟩, hv2⟩
  subst hv2
  rcases hr2 with rfl | ⟨hr2, hr20⟩
  · go_wp2
    go_ret
    exact ⟨rfl, B_1⟩
  have hs1 : n1 ≤ 1048576 := by omega
  clear hr2
  have Pc0 : v2.cell? ⟨w.heap.size, 0, none⟩ = some (.slice a n c) := P_1 0 (by simp)
  go_wp2_with fail
  refine (toPlan_any a b o n c ts _ (h.below' B_1) hs).mono ?_
  rintro e v3 ⟨g2, xs2, rfl, _, _, ht2, hb2⟩
  have B_2 := B_1.trans (hb2.mono B_1.size)
  have P_2 := MC.below P_1 hb2 lP_1
  have lP_2 := Nat.lt_of_lt_of_le lP_1 hb2.size
  clear B_1 P_1 lP_1
  clear Pc0
  have T2_2 := ht2
  clear ht2
  go_wp2_with fail
  refine (toStringS_any a1 b1 o1 n1 c1 L _ (h1.below' B_2) hs1).mono ?_
  rintro e v4 ⟨g3, rfl, ho3, hb3⟩
  have B_3 := B_2.trans (hb3.mono B_2.size)
  have P_3 := MC.below P_2 hb3 lP_2
  have lP_3 := Nat.lt_of_lt_of_le lP_2 hb3.size
  have T2_3 := T2_2.below' hb3
  clear B_2 P_2 lP_2 T2_2
  have S3_3 := StrsAt.ofOwn ho3 h1.sz
  clear ho3
  go_wp2_with fail
  refine (specReplay_any _ g2 0 n n ts _ g3 0 n1 n1 L _ T2_3 S3_3 hs1).mono ?_
  rintro e v5 ⟨⟨cc, E, R, vs, rfl, hst, hos⟩, hb4⟩
  have B_4 := B_3.trans (hb4.mono B_3.size)
  have P_4 := MC.below P_3 hb4 lP_3
  have lP_4 := Nat.lt_of_lt_of_le lP_3 hb4.size
  have T2_4 := T2_3.below' hb4
  have S3_4 := S3_3.below' hb4
  clear B_3 P_3 lP_3 T2_3 S3_3
  obtain ⟨hRn, hRz⟩ := hst.sizes (by rw [HL.out]; omega)
  have HST := hid hst
  clear hst
  obtain ⟨az, cs, rfl⟩ := hos.slc
  obtain ⟨bs, os, hss, _⟩ := hos.stat hRz
  have hbs5 := hss.lt
  clear hos
  have RS_4 := hss
  clear hss
  have hwv5 := lP_4
  obtain ⟨v6, hv6⟩ : ∃ v6, v6 = v5.alloc (.cells #[.int .i64 cc, .int .i64 E, .slice az R.length cs] 40) := ⟨_, rfl⟩
  have hbv6 : Below v5.heap.size v5 v6 := by rw [hv6]; exact (Below.refl _ _).alloc (Nat.le_refl _) _
  have hmv6 : MC v6 v5.heap.size [.int .i64 cc, .int .i64 E, .slice az R.length cs] := by rw [hv6]; exact MC.made v5 _ _
  have hlv6 : v5.heap.size < v6.heap.size := by rw [hv6]; simp
  go_upto_region 9 with fail
  rw [← hv6]
  clear hv6
  obtain ⟨q6, hq6⟩ : ∃ q6, q6 = v5.heap.size := ⟨_, rfl⟩
  rw [← hq6] at hmv6 hlv6
  rw [← hq6]
  have HIDq6 := hid hq6
  have hleq6 : v5.heap.size ≤ q6 := Nat.le_of_eq hq6.symm
  clear hq6
  have B_5 := B_4.trans (hbv6.mono B_4.size)
  have P_5 := MC.below P_4 hbv6 lP_4
  have lP_5 := Nat.lt_of_lt_of_le lP_4 hbv6.size
  have RS_5 := RS_4.below' hbv6
  clear B_4 P_4 lP_4 RS_4
  have W0_5 := hmv6
  have lW0_5 := hlv6
  clear hmv6 hlv6 hbv6
  rw [← HIDq6.out] at hbs5
  have Pc0 : v6.cell? ⟨w.heap.size, 0, none⟩ = some (.slice a n c) := P_5 0 (by simp)
  have hv6 : v6.heap.size = q6 + 1 ∨ q6 < v6.heap.size := .inr lW0_5
  clear hv6
  have hq6v : q6 < v6.heap.size := lW0_5
  go_wp2_with fail
  refine (toPlan_any a b o n c ts _ (h.below' B_5) hs).mono ?_
  rintro e v7 ⟨g4, xs4, rfl, ho4, hbu4, ht4, hb7⟩
  have hsh4 := hbu4.shape ho4 HL.out (by omega)
  have hg4lo := ho4.lo
  have hg4hi := ho4.hi
  clear ho4 hbu4
  have B_6 := B_5.trans (hb7.mono B_5.size)
  have P_6 := MC.below P_5 hb7 lP_5
  have lP_6 := Nat.lt_of_lt_of_le lP_5 hb7.size
  have RS_6 := RS_5.below' hb7
  have W0_6 := MC.below W0_5 hb7 lW0_5
  have lW0_6 := Nat.lt_of_lt_of_le lW0_5 hb7.size
  clear B_5 P_5 lP_5 RS_5 W0_5 lW0_5
  clear Pc0
  have T4_6 := ht4
  have SH_6 := hsh4
  clear ht4 hsh4
  obtain ⟨H7, hH7⟩ : ∃ H7, H7 = v7.heap.size := ⟨_, rfl⟩
  rw [← hH7] at hg4hi SH_6
  have hH7l : H7 ≤ v7.heap.size := Nat.le_of_eq hH7
  clear hH7
  obtain ⟨v8, hv8⟩ : ∃ v8, v8 = v7.alloc (.cells #[.slice (some ⟨g4, 0, none⟩) n n] 44) := ⟨_, rfl⟩
  have hbv8 : Below v7.heap.size v7 v8 := by rw [hv8]; exact (Below.refl _ _).alloc (Nat.le_refl _) _
  have hmv8 : MC v8 v7.heap.size [.slice (some ⟨g4, 0, none⟩) n n] := by rw [hv8]; exact MC.made v7 _ _
  have hlv8 : v7.heap.size < v8.heap.size := by rw [hv8]; simp
  go_upto_region 10 with fail
  rw [← hv8]
  clear hv8
  obtain ⟨q7, hq7⟩ : ∃ q7, q7 = v7.heap.size := ⟨_, rfl⟩
  rw [← hq7] at hmv8 hlv8
  rw [← hq7]
  have HIDq7 := hid hq7
  have hleq7 : v7.heap.size ≤ q7 := Nat.le_of_eq hq7.symm
  clear hq7
  have B_7 := B_6.trans (hbv8.mono B_6.size)
  have P_7 := MC.below P_6 hbv8 lP_6
  have lP_7 := Nat.lt_of_lt_of_le lP_6 hbv8.size
  have RS_7 := RS_6.below' hbv8
  have W0_7 := MC.below W0_6 hbv8 lW0_6
  have lW0_7 := Nat.lt_of_lt_of_le lW0_6 hbv8.size
  have T4_7 := T4_6.below' hbv8
  have SH_7 := SH_6.below hbv8
  clear B_6 P_6 lP_6 RS_6 W0_6 lW0_6 T4_6 SH_6
  have X0_7 := hmv8
  have lX0_7 := hlv8
  clear hmv8 hlv8 hbv8
  have hq7v : q7 < v8.heap.size := lX0_7
  go_wp2_with fail
  refine (toStringS_any a1 b1 o1 n1 c1 L _ (h1.below' B_7) hs1).mono ?_
  rintro e v9 ⟨g5, rfl, ho5, hb9⟩
  have hg5lo := ho5.lo
  have hg5hi := ho5.hi
  have B_8 := B_7.trans (hb9.mono B_7.size)
  have P_8 := MC.below P_7 hb9 lP_7
  have lP_8 := Nat.lt_of_lt_of_le lP_7 hb9.size
  have RS_8 := RS_7.below' hb9
  have W0_8 := MC.below W0_7 hb9 lW0_7
  have lW0_8 := Nat.lt_of_lt_of_le lW0_7 hb9.size
  have T4_8 := T4_7.below' hb9
  have SH_8 := SH_7.below hb9
  have X0_8 := MC.below X0_7 hb9 lX0_7
  have lX0_8 := Nat.lt_of_lt_of_le lX0_7 hb9.size
  clear B_7 P_7 lP_7 RS_7 W0_7 lW0_7 T4_7 SH_7 X0_7 lX0_7
  have O5_8 := ho5
  clear ho5
  have X0c0 : v9.cell? ⟨q7, 0, none⟩ = some (.slice (some ⟨g4, 0, none⟩) n n) := X0_8 0 (by simp)
  obtain ⟨H9, hH9⟩ : ∃ H9, H9 = v9.heap.size := ⟨_, rfl⟩
  rw [← hH9] at hg5hi
  have HH9 := hid hH9
  have hH9l : H9 ≤ v9.heap.size := Nat.le_of_eq hH9
  clear hH9
  go_wp2_with fail
  refine (implReplay_any _ g4 0 n n ts _ g5 0 n1 n1 L _ T4_8 (StrsAt.ofOwn O5_8 h1.sz) hs1).mono ?_
  rintro e v10 ⟨⟨cc2, E2, R2, vg, rfl, hst2, hog⟩, hb10⟩
  have hs910 := hb10.size
  have B_9 := B_8.trans (hb10.mono B_8.size)
  have P_9 := MC.below P_8 hb10 lP_8
  have lP_9 := Nat.lt_of_lt_of_le lP_8 hb10.size
  have RS_9 := RS_8.below' hb10
  have W0_9 := MC.below W0_8 hb10 lW0_8
  have lW0_9 := Nat.lt_of_lt_of_le lW0_8 hb10.size
  have T4_9 := T4_8.below' hb10
  have SH_9 := SH_8.below hb10
  have X0_9 := MC.below X0_8 hb10 lX0_8
  have lX0_9 := Nat.lt_of_lt_of_le lX0_8 hb10.size
  have O5_9 := O5_8.below hb10 O5_8.hi
  clear B_8 P_8 lP_8 RS_8 W0_8 lW0_8 T4_8 SH_8 X0_8 lX0_8 O5_8
  clear X0c0
  obtain ⟨e1, e2, e3⟩ := hst2.uniq HST.out
  subst e1 e2 e3
  clear hst2
  obtain ⟨ag, cg, rfl⟩ := hog.slc
  rw [← HH9.out] at hog
  have hogh := hog.row_hi
  have hogl := hog.row_lo
  have G_9 := hog
  clear hog
  obtain ⟨v11, hv11⟩ : ∃ v11, v11 = v10.alloc (.cells #[.int .i64 cc2, .int .i64 E2, .slice ag R2.length cg] 40) := ⟨_, rfl⟩
  have hbv11 : Below v10.heap.size v10 v11 := by rw [hv11]; exact (Below.refl _ _).alloc (Nat.le_refl _) _
  have hmv11 : MC v11 v10.heap.size [.int .i64 cc2, .int .i64 E2, .slice ag R2.length cg] := by rw [hv11]; exact MC.made v10 _ _
  have hlv11 : v10.heap.size < v11.heap.size := by rw [hv11]; simp
  go_upto_region 12 with fail
  rw [← hv11]
  clear hv11
  obtain ⟨q9, hq9⟩ : ∃ q9, q9 = v10.heap.size := ⟨_, rfl⟩
  rw [← hq9] at hmv11 hlv11
  rw [← hq9]
  have HIDq9 := hid hq9
  have hleq9 : v10.heap.size ≤ q9 := Nat.le_of_eq hq9.symm
  clear hq9
  have B_10 := B_9.trans (hbv11.mono B_9.size)
  have P_10 := MC.below P_9 hbv11 lP_9
  have lP_10 := Nat.lt_of_lt_of_le lP_9 hbv11.size
  have RS_10 := RS_9.below' hbv11
  have W0_10 := MC.below W0_9 hbv11 lW0_9
  have lW0_10 := Nat.lt_of_lt_of_le lW0_9 hbv11.size
  have T4_10 := T4_9.below' hbv11
  have SH_10 := SH_9.below hbv11
  have X0_10 := MC.below X0_9 hbv11 lX0_9
  have lX0_10 := Nat.lt_of_lt_of_le lX0_9 hbv11.size
  have O5_10 := O5_9.below hbv11 O5_9.hi
  have G_10 := G_9.below hbv11 (Nat.le_refl _)
  clear B_9 P_9 lP_9 RS_9 W0_9 lW0_9 T4_9 SH_9 X0_9 lX0_9 O5_9 G_9
  have GB_10 := hmv11
  have lGB_10 := hlv11
  clear hmv11 hlv11 hbv11
  rw [← HIDq9.out] at hogh
  have hq9v : q9 < v11.heap.size := lGB_10
  have GBc0 : v11.cell? ⟨q9, 0, none⟩ = some (.int .i64 cc2) := GB_10 0 (by simp)
  have GBc1 : v11.cell? ⟨q9, 1, none⟩ = some (.int .i64 E2) := GB_10 1 (by simp)
  have GBc2 : v11.cell? ⟨q9, 2, none⟩ = some (.slice ag R2.length cg) := GB_10 2 (by simp)
  have W0c0 : v11.cell? ⟨q6, 0, none⟩ = some (.int .i64 cc2) := W0_10 0 (by simp)
  have W0c1 : v11.cell? ⟨q6, 1, none⟩ = some (.int .i64 E2) := W0_10 1 (by simp)
  have W0c2 : v11.cell? ⟨q6, 2, none⟩ = some (.slice az R2.length cs) := W0_10 2 (by simp)
  obtain ⟨bg, og, hgs, _⟩ := G_10.stat hRz
  go_wp2_with fail
  refine (eqStory_any cc2 E2 ag az bg og R2.length cg bs os cs R2 _ hgs RS_10).mono ?_
  rintro e v12 ⟨rfl, hb12⟩
  have B_11 := B_10.trans (hb12.mono B_10.size)
  have P_11 := MC.below P_10 hb12 lP_10
  have lP_11 := Nat.lt_of_lt_of_le lP_10 hb12.size
  have RS_11 := RS_10.below' hb12
  have W0_11 := MC.below W0_10 hb12 lW0_10
  have lW0_11 := Nat.lt_of_lt_of_le lW0_10 hb12.size
  have T4_11 := T4_10.below' hb12
  have SH_11 := SH_10.below hb12
  have X0_11 := MC.below X0_10 hb12 lX0_10
  have lX0_11 := Nat.lt_of_lt_of_le lX0_10 hb12.size
  have O5_11 := O5_10.below hb12 O5_10.hi
  have G_11 := G_10.below hb12 (Nat.le_refl _)
  have GB_11 := MC.below GB_10 hb12 lGB_10
  have lGB_11 := Nat.lt_of_lt_of_le lGB_10 hb12.size
  clear B_10 P_10 lP_10 RS_10 W0_10 lW0_10 T4_10 SH_10 X0_10 lX0_10 O5_10 G_10 GB_10 lGB_10
  clear GBc0 GBc1 GBc2 W0c0 W0c1 W0c2 hgs
  have q1P : v12.cell? ⟨w.heap.size, 0, none⟩ = some (.slice a n c) := P_11 0 (by simp)
  have q1X : v12.cell? ⟨q7, 0, none⟩ = some (.slice (some ⟨g4, 0, none⟩) n n) := X0_11 0 (by simp)
  have hT12 := h.below' B_11.drew
  have ht12 := T4_11.below' (Below.refl _ _).drew
  go_upto_region 14 with fail
  go_region_held3 (fun w' => w'.cell? ⟨w.heap.size, 0, none⟩ = some (.slice a n c) ∧ w'.cell? ⟨q7, 0, none⟩ = some (.slice (some ⟨g4, 0, none⟩) n n)) (first | (simp [go_sem, *]; done) | assumption)
    (first
      | (go_at_call 17; refine (toPlan_any a b o n c ts _ hT12 hs).mono ?_; rintro e v13 ⟨g7, xs7, rfl, _, _, ht7, hb13⟩; have hq13 := keepC hb13 q1P; have hx13 := keepC hb13 q1X; have ht13 := ht12.below' hb13)
      | (go_at_call 21; refine (eqPlan_any _ _ g4 0 n n g7 0 n ts _ ht13 ht7).mono ?_; rintro e v14 ⟨rfl, hb14⟩; have hq14 := keepB hb14 hq13; have hx14 := keepB hb14 hx13))
  have hb1214 : Below v12.heap.size v12 v14 := ((Below.refl _ _).drew.trans hb13).trans (hb14.mono hb13.size)
  clear hb13 hb14 hq13 hx13 hq14 hx14 ht13 ht7 hT12 ht12 q1P q1X
  have B_12 := B_11.trans (hb1214.mono B_11.size)
  have P_12 := MC.below P_11 hb1214 lP_11
  have lP_12 := Nat.lt_of_lt_of_le lP_11 hb1214.size
  have RS_12 := RS_11.below' hb1214
  have W0_12 := MC.below W0_11 hb1214 lW0_11
  have lW0_12 := Nat.lt_of_lt_of_le lW0_11 hb1214.size
  have SH_12 := SH_11.below hb1214
  have X0_12 := MC.below X0_11 hb1214 lX0_11
  have lX0_12 := Nat.lt_of_lt_of_le lX0_11 hb1214.size
  have O5_12 := O5_11.below hb1214 O5_11.hi
  have G_12 := G_11.below hb1214 (Nat.le_refl _)
  have GB_12 := MC.below GB_11 hb1214 lGB_11
  have lGB_12 := Nat.lt_of_lt_of_le lGB_11 hb1214.size
  clear B_11 P_11 lP_11 RS_11 W0_11 lW0_11 SH_11 X0_11 lX0_11 O5_11 G_11 GB_11 lGB_11
  go_wp2_with fail
  refine (toStringS_any a1 b1 o1 n1 c1 L _ (h1.below' B_12) hs1).mono ?_
  rintro e v15 ⟨g8, rfl, ho8, hb15⟩
  have B_13 := B_12.trans (hb15.mono B_12.size)
  have P_13 := MC.below P_12 hb15 lP_12
  have lP_13 := Nat.lt_of_lt_of_le lP_12 hb15.size
  have RS_13 := RS_12.below' hb15
  have W0_13 := MC.below W0_12 hb15 lW0_12
  have lW0_13 := Nat.lt_of_lt_of_le lW0_12 hb15.size
  have SH_13 := SH_12.below hb15
  have X0_13 := MC.below X0_12 hb15 lX0_12
  have lX0_13 := Nat.lt_of_lt_of_le lX0_12 hb15.size
  have O5_13 := O5_12.below hb15 O5_12.hi
  have G_13 := G_12.below hb15 (Nat.le_refl _)
  have GB_13 := MC.below GB_12 hb15 lGB_12
  have lGB_13 := Nat.lt_of_lt_of_le lGB_12 hb15.size
  clear B_12 P_12 lP_12 RS_12 W0_12 lW0_12 SH_12 X0_12 lX0_12 O5_12 G_12 GB_12 lGB_12
  go_wp2_with fail
  refine (eqStringS_any _ _ g5 0 n1 n1 g8 0 n1 L _ (StrsAt.ofOwn O5_13 h1.sz) (StrsAt.ofOwn ho8 h1.sz)).mono ?_
  rintro e v16 ⟨rfl, hb16⟩
  have B_14 := B_13.trans (hb16.mono B_13.size)
  have P_14 := MC.below P_13 hb16 lP_13
  have lP_14 := Nat.lt_of_lt_of_le lP_13 hb16.size
  have RS_14 := RS_13.below' hb16
  have W0_14 := MC.below W0_13 hb16 lW0_13
  have lW0_14 := Nat.lt_of_lt_of_le lW0_13 hb16.size
  have SH_14 := SH_13.below hb16
  have X0_14 := MC.below X0_13 hb16 lX0_13
  have lX0_14 := Nat.lt_of_lt_of_le lX0_13 hb16.size
  have O5_14 := O5_13.below hb16 O5_13.hi
  have G_14 := G_13.below hb16 (Nat.le_refl _)
  have GB_14 := MC.below GB_13 hb16 lGB_13
  have lGB_14 := Nat.lt_of_lt_of_le lGB_13 hb16.size
  clear B_13 P_13 lP_13 RS_13 W0_13 lW0_13 SH_13 X0_13 lX0_13 O5_13 G_13 GB_13 lGB_13
  clear ho8
  have X0c0 : v16.cell? ⟨q7, 0, none⟩ = some (.slice (some ⟨g4, 0, none⟩) n n) := X0_14 0 (by simp)
  go_wp2_with fail
  refine (markPlan_any g4 H7 n n 1 _ (by omega) (by omega) (by omega) hg4hi SH_14).mono ?_
  rintro e v17 ⟨⟨rk, rfl, hrk⟩, hM⟩
  clear X0c0
  have P_15 := MC.midB P_14 hM lP_14 (.inl (by omega))
  have lP_15 := Nat.lt_of_lt_of_le lP_14 hM.size
  have W0_15 := MC.midB W0_14 hM lW0_14 (.inl (by omega))
  have lW0_15 := Nat.lt_of_lt_of_le lW0_14 hM.size
  have GB_15 := MC.midB GB_14 hM lGB_14 (.inr (by omega))
  have lGB_15 := Nat.lt_of_lt_of_le lGB_14 hM.size
  have RS_15 := RS_14.mid hM (fun hp => .inl (by have := hbs5 hp; omega))
  have G_15 := G_14.mid hM (by omega)
  have O5_15 := O5_14.block (hM.block _ O5_14.hi (.inr (by omega)))
  have B_15 := Mid.below B_14 hM (by omega) B_14.size
  clear P_14 lP_14 W0_14 lW0_14 GB_14 lGB_14 RS_14 G_14 O5_14 B_14 X0_14 lX0_14 SH_14 hM
  obtain ⟨kk, rfl⟩ : ∃ kk : Nat, rk = kk := ⟨rk.toNat, by omega⟩
  go_wp2_with fail
  refine (markStringS_any g5 0 n1 n1 n1 kk _ _ _ (by omega) (by omega) hs1 O5_15).mono ?_
  rintro e v18 ⟨rfl, _, hg18⟩
  have P_16 := MC.grownBy P_15 hg18 lP_15 (fun q hq => by simp at hq; omega)
  have lP_16 := Nat.lt_of_lt_of_le lP_15 hg18.size
  have W0_16 := MC.grownBy W0_15 hg18 lW0_15 (fun q hq => by simp at hq; omega)
  have lW0_16 := Nat.lt_of_lt_of_le lW0_15 hg18.size
  have GB_16 := MC.grownBy GB_15 hg18 lGB_15 (fun q hq => by simp at hq; omega)
  have lGB_16 := Nat.lt_of_lt_of_le lGB_15 hg18.size
  have RS_16 := RS_15.grownO hg18 (fun hp q hq => by have := hbs5 hp; simp at hq; omega)
  have G_16 := G_15.grown hg18 (.inr (by intro hh; have := hogl _ hh; omega))
  have B_16 := B_15.grown hg18 B_15.size (fun q hq => by simp at hq; omega)
  clear P_15 lP_15 W0_15 lW0_15 GB_15 lGB_15 RS_15 G_15 O5_15 B_15 hg18
  have hrk' : ¬ ((kk : Int) + n1) < 0 := by omega
  have GBc0 : v18.cell? ⟨q9, 0, none⟩ = some (.int .i64 cc2) := GB_16 0 (by simp)
  have GBc1 : v18.cell? ⟨q9, 1, none⟩ = some (.int .i64 E2) := GB_16 1 (by simp)
  have GBc2 : v18.cell? ⟨q9, 2, none⟩ = some (.slice ag R2.length cg) := GB_16 2 (by simp)
  have W0c0 : v18.cell? ⟨q6, 0, none⟩ = some (.int .i64 cc2) := W0_16 0 (by simp)
  have W0c1 : v18.cell? ⟨q6, 1, none⟩ = some (.int .i64 E2) := W0_16 1 (by simp)
  have W0c2 : v18.cell? ⟨q6, 2, none⟩ = some (.slice az R2.length cs) := W0_16 2 (by simp)
  obtain ⟨bg, og, hgs, _⟩ := G_16.stat hRz
  go_wp2_with fail
  refine (eqStory_any cc2 E2 ag az bg og R2.length cg bs os cs R2 _ hgs RS_16).mono ?_
  rintro e v19 ⟨rfl, hb19⟩
  have B_17 := B_16.trans (hb19.mono B_16.size)
  have P_17 := MC.below P_16 hb19 lP_16
  have lP_17 := Nat.lt_of_lt_of_le lP_16 hb19.size
  have RS_17 := RS_16.below' hb19
  have W0_17 := MC.below W0_16 hb19 lW0_16
  have lW0_17 := Nat.lt_of_lt_of_le lW0_16 hb19.size
  have G_17 := G_16.below hb19 (Nat.le_refl _)
  have GB_17 := MC.below GB_16 hb19 lGB_16
  have lGB_17 := Nat.lt_of_lt_of_le lGB_16 hb19.size
  clear B_16 P_16 lP_16 RS_16 W0_16 lW0_16 G_16 GB_16 lGB_16
  clear GBc0 GBc1 GBc2 W0c0 W0c1 W0c2 hgs
  clear hrk'
  have GBc0 : v19.cell? ⟨q9, 0, none⟩ = some (.int .i64 cc2) := GB_17 0 (by simp)
  have GBc1 : v19.cell? ⟨q9, 1, none⟩ = some (.int .i64 E2) := GB_17 1 (by simp)
  have GBc2 : v19.cell? ⟨q9, 2, none⟩ = some (.slice ag R2.length cg) := GB_17 2 (by simp)
  go_wp2_with fail
  refine (markStory_any cc2 E2 ag R2.length cg _ _ _ hRn G_17).mono ?_
  rintro e v20 ⟨rfl, hgm, hg20⟩
  clear GBc0 GBc1 GBc2
  have P_18 := MC.grownBy P_17 hg20 lP_17 (fun q hq => by have := hogl _ hq; omega)
  have lP_18 := Nat.lt_of_lt_of_le lP_17 hg20.size
  have W0_18 := MC.grownBy W0_17 hg20 lW0_17 (fun q hq => by have := hogl _ hq; omega)
  have lW0_18 := Nat.lt_of_lt_of_le lW0_17 hg20.size
  have GB_18 := MC.grownBy GB_17 hg20 lGB_17 (fun q hq => by have := hogh _ hq; omega)
  have lGB_18 := Nat.lt_of_lt_of_le lGB_17 hg20.size
  have RS_18 := RS_17.grownO hg20 (fun hp q hq => by have := hbs5 hp; have := hogl _ hq; omega)
  have B_18 := B_17.grown hg20 B_17.size (fun q hq => by have := hogl _ hq; omega)
  obtain ⟨bm, om, hms, _⟩ := hgm.stat (mks_sizes R2.length hRn)
  have GM_18 := hms
  clear P_17 lP_17 W0_17 lW0_17 GB_17 lGB_17 RS_17 G_17 B_17 hg20 hgm hms
  have hmg0 : (R2.length : Int) ≤ 1048576 := by omega
  have GBc0 : v20.cell? ⟨q9, 0, none⟩ = some (.int .i64 cc2) := GB_18 0 (by simp)
  have GBc1 : v20.cell? ⟨q9, 1, none⟩ = some (.int .i64 E2) := GB_18 1 (by simp)
  have GBc2 : v20.cell? ⟨q9, 2, none⟩ = some (.slice ag R2.length cg) := GB_18 2 (by simp)
  go_wp2_with fail
  refine (heldStory_any cc2 E2 ag bm om R2.length cg _ hRn GM_18).mono ?_
  rintro e v21 ⟨rfl, hb21⟩
  have B_19 := B_18.trans (hb21.mono B_18.size)
  have P_19 := MC.below P_18 hb21 lP_18
  have lP_19 := Nat.lt_of_lt_of_le lP_18 hb21.size
  have RS_19 := RS_18.below' hb21
  have W0_19 := MC.below W0_18 hb21 lW0_18
  have lW0_19 := Nat.lt_of_lt_of_le lW0_18 hb21.size
  have GB_19 := MC.below GB_18 hb21 lGB_18
  have lGB_19 := Nat.lt_of_lt_of_le lGB_18 hb21.size
  have GM_19 := GM_18.below' hb21
  clear B_18 P_18 lP_18 RS_18 W0_18 lW0_18 GB_18 lGB_18 GM_18
  clear GBc0 GBc1 GBc2
  have Pc0 : v21.cell? ⟨w.heap.size, 0, none⟩ = some (.slice a n c) := P_19 0 (by simp)
  go_wp2_with fail
  refine (toPlan_any a b o n c ts _ (h.below' B_19) hs).mono ?_
  rintro e v22 ⟨g9, xs9, rfl, _, _, ht9, hb22⟩
  have B_20 := B_19.trans (hb22.mono B_19.size)
  have P_20 := MC.below P_19 hb22 lP_19
  have lP_20 := Nat.lt_of_lt_of_le lP_19 hb22.size
  have RS_20 := RS_19.below' hb22
  have W0_20 := MC.below W0_19 hb22 lW0_19
  have lW0_20 := Nat.lt_of_lt_of_le lW0_19 hb22.size
  have GB_20 := MC.below GB_19 hb22 lGB_19
  have lGB_20 := Nat.lt_of_lt_of_le lGB_19 hb22.size
  have GM_20 := GM_19.below' hb22
  clear B_19 P_19 lP_19 RS_19 W0_19 lW0_19 GB_19 lGB_19 GM_19
  clear Pc0
  have T9_20 := ht9
  clear ht9
  go_wp2_with fail
  refine (toStringS_any a1 b1 o1 n1 c1 L _ (h1.below' B_20) hs1).mono ?_
  rintro e v23 ⟨g10, rfl, ho10, hb23⟩
  have B_21 := B_20.trans (hb23.mono B_20.size)
  have P_21 := MC.below P_20 hb23 lP_20
  have lP_21 := Nat.lt_of_lt_of_le lP_20 hb23.size
  have RS_21 := RS_20.below' hb23
  have W0_21 := MC.below W0_20 hb23 lW0_20
  have lW0_21 := Nat.lt_of_lt_of_le lW0_20 hb23.size
  have GB_21 := MC.below GB_20 hb23 lGB_20
  have lGB_21 := Nat.lt_of_lt_of_le lGB_20 hb23.size
  have GM_21 := GM_20.below' hb23
  have T9_21 := T9_20.below' hb23
  clear B_20 P_20 lP_20 RS_20 W0_20 lW0_20 GB_20 lGB_20 GM_20 T9_20
  have S10_21 := StrsAt.ofOwn ho10 h1.sz
  clear ho10
  go_wp2_with fail
  refine (implReplay_any _ g9 0 n n ts _ g10 0 n1 n1 L _ T9_21 S10_21 hs1).mono ?_
  rintro e v24 ⟨⟨cc3, E3, R3, vh, rfl, hst3, hoh⟩, hb24⟩
  have B_22 := B_21.trans (hb24.mono B_21.size)
  have P_22 := MC.below P_21 hb24 lP_21
  have lP_22 := Nat.lt_of_lt_of_le lP_21 hb24.size
  have RS_22 := RS_21.below' hb24
  have W0_22 := MC.below W0_21 hb24 lW0_21
  have lW0_22 := Nat.lt_of_lt_of_le lW0_21 hb24.size
  have GB_22 := MC.below GB_21 hb24 lGB_21
  have lGB_22 := Nat.lt_of_lt_of_le lGB_21 hb24.size
  have GM_22 := GM_21.below' hb24
  have T9_22 := T9_21.below' hb24
  have S10_22 := S10_21.below' hb24
  clear B_21 P_21 lP_21 RS_21 W0_21 lW0_21 GB_21 lGB_21 GM_21 T9_21 S10_21
  obtain ⟨e1, e2, e3⟩ := hst3.uniq HST.out
  subst e1 e2 e3
  clear hst3
  obtain ⟨ah, ch, rfl⟩ := hoh.slc
  have HO_22 := hoh
  clear hoh
  obtain ⟨v25, hv25⟩ : ∃ v25, v25 = v24.alloc (.cells #[.int .i64 cc3, .int .i64 E3, .slice ah R3.length ch] 40) := ⟨_, rfl⟩
  have hbv25 : Below v24.heap.size v24 v25 := by rw [hv25]; exact (Below.refl _ _).alloc (Nat.le_refl _) _
  have hmv25 : MC v25 v24.heap.size [.int .i64 cc3, .int .i64 E3, .slice ah R3.length ch] := by rw [hv25]; exact MC.made v24 _ _
  have hlv25 : v24.heap.size < v25.heap.size := by rw [hv25]; simp
  go_upto_region 32 with fail
  rw [← hv25]
  clear hv25
  obtain ⟨q24, hq24⟩ : ∃ q24, q24 = v24.heap.size := ⟨_, rfl⟩
  rw [← hq24] at hmv25 hlv25
  rw [← hq24]
  have HIDq24 := hid hq24
  have hleq24 : v24.heap.size ≤ q24 := Nat.le_of_eq hq24.symm
  clear hq24
  have B_23 := B_22.trans (hbv25.mono B_22.size)
  have P_23 := MC.below P_22 hbv25 lP_22
  have lP_23 := Nat.lt_of_lt_of_le lP_22 hbv25.size
  have RS_23 := RS_22.below' hbv25
  have W0_23 := MC.below W0_22 hbv25 lW0_22
  have lW0_23 := Nat.lt_of_lt_of_le lW0_22 hbv25.size
  have GB_23 := MC.below GB_22 hbv25 lGB_22
  have lGB_23 := Nat.lt_of_lt_of_le lGB_22 hbv25.size
  have GM_23 := GM_22.below' hbv25
  have HO_23 := HO_22.below hbv25 (Nat.le_refl _)
  clear B_22 P_22 lP_22 RS_22 W0_22 lW0_22 GB_22 lGB_22 GM_22 HO_22
  have HB_23 := hmv25
  have lHB_23 := hlv25
  clear hmv25 hlv25 hbv25
  have HBc0 : v25.cell? ⟨q24, 0, none⟩ = some (.int .i64 cc3) := HB_23 0 (by simp)
  have HBc1 : v25.cell? ⟨q24, 1, none⟩ = some (.int .i64 E3) := HB_23 1 (by simp)
  have HBc2 : v25.cell? ⟨q24, 2, none⟩ = some (.slice ah R3.length ch) := HB_23 2 (by simp)
  have W0c0 : v25.cell? ⟨q6, 0, none⟩ = some (.int .i64 cc3) := W0_23 0 (by simp)
  have W0c1 : v25.cell? ⟨q6, 1, none⟩ = some (.int .i64 E3) := W0_23 1 (by simp)
  have W0c2 : v25.cell? ⟨q6, 2, none⟩ = some (.slice az R3.length cs) := W0_23 2 (by simp)
  obtain ⟨bg, og, hgs, _⟩ := HO_23.stat hRz
  go_wp2_with fail
  refine (eqStory_any cc3 E3 ah az bg og R3.length ch bs os cs R3 _ hgs RS_23).mono ?_
  rintro e v26 ⟨rfl, hb26⟩
  have B_24 := B_23.trans (hb26.mono B_23.size)
  have P_24 := MC.below P_23 hb26 lP_23
  have lP_24 := Nat.lt_of_lt_of_le lP_23 hb26.size
  have RS_24 := RS_23.below' hb26
  have W0_24 := MC.below W0_23 hb26 lW0_23
  have lW0_24 := Nat.lt_of_lt_of_le lW0_23 hb26.size
  have GB_24 := MC.below GB_23 hb26 lGB_23
  have lGB_24 := Nat.lt_of_lt_of_le lGB_23 hb26.size
  have GM_24 := GM_23.below' hb26
  have HO_24 := HO_23.below hb26 (Nat.le_refl _)
  have HB_24 := MC.below HB_23 hb26 lHB_23
  have lHB_24 := Nat.lt_of_lt_of_le lHB_23 hb26.size
  clear B_23 P_23 lP_23 RS_23 W0_23 lW0_23 GB_23 lGB_23 GM_23 HO_23 HB_23 lHB_23
  clear HBc0 HBc1 HBc2 W0c0 W0c1 W0c2 hgs
  have GBc0 : v26.cell? ⟨q9, 0, none⟩ = some (.int .i64 cc3) := GB_24 0 (by simp)
  have GBc1 : v26.cell? ⟨q9, 1, none⟩ = some (.int .i64 E3) := GB_24 1 (by simp)
  have GBc2 : v26.cell? ⟨q9, 2, none⟩ = some (.slice ag R3.length cg) := GB_24 2 (by simp)
  go_wp2_with fail
  refine (heldStory_any cc3 E3 ag bm om R3.length cg _ hRn GM_24).mono ?_
  rintro e v27 ⟨rfl, hb27⟩
  have B_25 := B_24.trans (hb27.mono B_24.size)
  have P_25 := MC.below P_24 hb27 lP_24
  have lP_25 := Nat.lt_of_lt_of_le lP_24 hb27.size
  have RS_25 := RS_24.below' hb27
  have W0_25 := MC.below W0_24 hb27 lW0_24
  have lW0_25 := Nat.lt_of_lt_of_le lW0_24 hb27.size
  have GB_25 := MC.below GB_24 hb27 lGB_24
  have lGB_25 := Nat.lt_of_lt_of_le lGB_24 hb27.size
  have GM_25 := GM_24.below' hb27
  have HO_25 := HO_24.below hb27 (Nat.le_refl _)
  have HB_25 := MC.below HB_24 hb27 lHB_24
  have lHB_25 := Nat.lt_of_lt_of_le lHB_24 hb27.size
  clear B_24 P_24 lP_24 RS_24 W0_24 lW0_24 GB_24 lGB_24 GM_24 HO_24 HB_24 lHB_24
  clear GBc0 GBc1 GBc2
  go_wp2
  go_ret
  exact ⟨rfl, B_25⟩
end Go.Proofs.Ytoikcjeagigmfaa
