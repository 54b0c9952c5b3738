import Derived.Test.YtbfamabkbkpmpaaGreatQNwh
import Derived.Test.YtbfamabkbkpmpaaGreatQBoo
import Derived.Test.YtbfamabkbkpmpaaGreatQPmt
import Derived.Test.YtbfamabkbkpmpaaGreatQPmw
import Derived.Test.YtbfamabkbkpmpaaGreatQWle
namespace Go.Proofs.YtbfamabkbkpmpaaGreat
open Go.RowKit

/-! ### a coordinator's marks from any number on -/
def totK (k : Nat) (d : BD) : Nat := k + d.L1.length + d.L2.length + d.R.length + d.J.length * 3 + d.S.length * 2 + d.O.length * 3
def mkBK (k : Nat) (d : BD) : BD := ⟨d.wk, d.up, d.now, d.sn, d.ep, d.gv, mks k d.L1.length, mks (k + d.L1.length) d.L2.length, mks (k + d.L1.length + d.L2.length) d.R.length, mk3 (k + d.L1.length + d.L2.length + d.R.length) d.J.length, mk2 (k + d.L1.length + d.L2.length + d.R.length + d.J.length * 3) d.S.length, mk3 (k + d.L1.length + d.L2.length + d.R.length + d.J.length * 3 + d.S.length * 2) d.O.length⟩
theorem mkBK_fits {k : Nat} {d : BD} (hk : k ≤ 100000000) (hs : d.small) : (mkBK k d).fits := by
  unfold BD.small at hs
  exact ⟨mks_sizesK _ _ (by omega) (by omega), mks_sizesK _ _ (by omega) (by omega), mks_sizesK _ _ (by omega) (by omega), mk3_ok _ _ (by omega) (by omega), mk2_ok _ _ (by omega) (by omega), mk3_ok _ _ (by omega) (by omega)⟩
theorem rowsB_mkBK (k : Nat) (d : BD) (h : BH) : rowsB (mkBK k d) h = rowsB d h := by simp [rowsB, mkBK, mks_length, mk3_length, mk2_length]
theorem markBossK_any (k : Nat) (d : BD) (h : BH) (B : Nat) (w : World) (hk0 : 0 < k) (hkm : k ≤ 100000000) (hO : BossO w B d h) (hs : d.small) :
    Calls Tryz.prog 13 #[.agg (bvs d h).toArray, .int .i64 (k : Nat)] w fun e w' => e = .returned (.int .i64 (totK k d : Nat)) ∧ BossO w' B (mkBK k d) h ∧ Grew (rowsB d h) w w' := by
  unfold BD.small at hs
  refine (markBoss_own d.wk d.up d.now d.sn d.ep d.gv h.a1 d.L1.length h.c1 _ h.a2 d.L2.length h.c2 _ h.ar d.R.length h.cr _ h.aj d.J.length h.cj _ h.az d.S.length h.cs _ h.ao d.O.length h.co _ k _ _ _ _ _ _ B w rfl rfl rfl rfl rfl rfl (by omega) (by omega) (by omega) (by omega) (by omega) (by omega) (by omega) (by omega) hO.o0 hO.o1 hO.o2 hO.o3 hO.o4 hO.o5 hO.dis).mono ?_
  rintro e w' ⟨rfl, ⟨q0, q1, q2, q3, q4, q5⟩, hg⟩
  have hd := hO.dis
  refine ⟨rfl, ⟨?_, ?_, ?_, ?_, ?_, ?_, ?_⟩, hg⟩
  · simp only [mkBK, mks_length]; exact q0
  · simp only [mkBK, mks_length]; exact q1
  · simp only [mkBK, mks_length]; exact q2
  · simp only [mkBK, mk3_length]; exact q3
  · simp only [mkBK, mk2_length]; exact q4
  · simp only [mkBK, mk3_length]; exact q5
  · simp only [mkBK, mks_length, mk3_length, mk2_length]; exact hd
theorem heldBossK_any (k : Nat) (d : BD) (h : BH) (B : Nat) (w : World) (hk0 : 0 < k) (hkm : k ≤ 100000000) (hO : BossO w B (mkBK k d) h) (hs : d.small) :
    Calls Tryz.prog 15 #[.agg (bvs d h).toArray, .int .i64 (k : Nat)] w fun e w' => e = .returned (.int .i64 (totK k d : Nat)) ∧ Below w.heap.size w w' := by
  obtain ⟨⟨b1, o1, h1⟩, ⟨b2, o2, h2⟩, ⟨b3, o3, h3⟩, ⟨b4, o4, h4⟩, ⟨b5, o5, h5⟩, ⟨b6, o6, h6⟩⟩ := hO.m (mkBK_fits hkm hs)
  unfold BD.small at hs
  simp only [mkBK, mks_length, mk3_length, mk2_length] at h1 h2 h3 h4 h5 h6
  exact heldBoss_any d.wk d.up d.now d.sn d.ep d.gv h.a1 b1 o1 d.L1.length h.c1 h.a2 b2 o2 d.L2.length h.c2 h.ar b3 o3 d.R.length h.cr h.aj b4 o4 d.J.length h.cj h.az b5 o5 d.S.length h.cs h.ao b6 o6 d.O.length h.co k _ _ _ _ _ _ w rfl rfl rfl rfl rfl rfl (by omega) (by omega) (by omega) (by omega) (by omega) (by omega) (by omega) (by omega) h1 h2 h3 h4 h5 h6

/-! ### what is small enough -/
structure okD (ts : List TaskD) (bd : BD) (n : Nat) : Prop where
  l : ts.length ≤ 1048576
  s : tssz ts ≤ 1048576
  f : fitT ts
  b : bd.small
  g : bd.fits
  w : n ≤ 8
theorem told_new {key : ByteArray} {wk : Int} {ts : List TaskD} (h : okW ts key wk) : told (newD wk) ts 0 (List.replicate ts.length ⟨#[]⟩) := by
  have hl := code_len h.1
  exact ⟨rfl, by simp [newD], by omega, by omega, by simp, fun s hs => by rw [(List.mem_replicate.1 hs).2]; decide, hl.1, hl.2, h.2.1.1, h.2.1.2⟩
theorem zBD_fits : zBD.fits := ⟨fun s hs => absurd hs (by simp [zBD]), fun s hs => absurd hs (by simp [zBD]), fun s hs => absurd hs (by simp [zBD]), fun j hj => absurd hj (by simp [zBD]), fun j hj => absurd hj (by simp [zBD]), fun j hj => absurd hj (by simp [zBD])⟩
theorem newD_fits (wk : Int) : (newD wk).fits := ⟨fun s hs => absurd hs (by simp [newD]), fun s hs => absurd hs (by simp [newD]), fun s hs => absurd hs (by simp [newD]), fun j hj => absurd hj (by simp [newD]), fun j hj => absurd hj (by simp [newD]), fun j hj => absurd hj (by simp [newD])⟩
theorem newR.good {ts ts' : List TaskD} {key key' : ByteArray} {wk : Int} {bd : BD} {n : Nat} (h : newR ts key wk ts' key' bd n) (h1 : ts.length + tssz ts ≤ 1048576) (hf : fitT ts) : okD ts' bd n := by
  rcases h with ⟨h, rfl, rfl, rfl, rfl⟩ | ⟨_, rfl, rfl, rfl, rfl⟩
  · exact ⟨by omega, by omega, hf, riseB_small (told_new h), riseB_fits (told_new h) (newD_fits wk), by have := h.2.1; omega⟩
  · exact ⟨by simp, by simp [tssz], fun j hj => absurd hj (by simp), by simp [BD.small, zBD], zBD_fits, by omega⟩
theorem Own.slice {B : Nat} {w : World} {size : Nat} {v : Value} {n : Nat} {xs : List Value} (h : Own B w size v n xs) : ∃ a c, v = .slice a n c := by
  rcases h with ⟨rfl, rfl, _⟩ | ⟨g, o, cap, rfl, _⟩
  · exact ⟨_, _, rfl⟩
  · exact ⟨_, _, rfl⟩
theorem WoO.below {w w' : World} {B : Nat} {ts : List TaskD} {vP : Value} {vs : List Value} {bd : BD} {bh : BH} {n : Nat} {vW : Value} (h : WoO w B ts vP vs bd bh n vW) (hb : Below w.heap.size w w') : WoO w' B ts vP vs bd bh n vW :=
  ⟨h.pl.below hb, h.bo.below hb, h.cr.below hb (Nat.le_refl _), h.d1, h.d2, h.d3⟩
def rowsW (vP : Value) (ts : List TaskD) (vs : List Value) (bd : BD) (bh : BH) (vW : Value) : List (Option Nat) := rowsP vP ts vs ++ (rowsB bd bh ++ [vW.ownBlock])
theorem WoO.lo {w : World} {B : Nat} {ts : List TaskD} {vP : Value} {vs : List Value} {bd : BD} {bh : BH} {n : Nat} {vW : Value} (h : WoO w B ts vP vs bd bh n vW) : ∀ r ∈ rowsW vP ts vs bd bh vW, ∀ q, r = some q → B ≤ q ∧ q < w.heap.size := fun r hr q hq => by
  rcases List.mem_append.1 hr with hr | hr
  · exact h.pl.lo r hr q hq
  · rcases List.mem_append.1 hr with hr | hr
    · exact h.bo.lo r hr q hq
    · obtain rfl := List.mem_singleton.1 hr
      exact ⟨h.cr.row_lo q hq, h.cr.row_hi q hq⟩
theorem WoO.blk {w w' : World} {B : Nat} {ts : List TaskD} {vP : Value} {vs : List Value} {bd : BD} {bh : BH} {n : Nat} {vW : Value} (h : WoO w B ts vP vs bd bh n vW) (hb : ∀ r ∈ rowsW vP ts vs bd bh vW, ∀ q, r = some q → w'.heap[q]? = w.heap[q]?) : WoO w' B ts vP vs bd bh n vW :=
  ⟨⟨h.pl.len, h.pl.row.blkP (fun q hq => hb _ (List.mem_append_left _ (rowsP_v vP ts vs)) q hq), fun j hj => (h.pl.dep j hj).blkP (fun q hq => hb _ (List.mem_append_left _ (rowsP_d vP ts vs hj)) q hq), h.pl.dr, h.pl.dd⟩,
   h.bo.blk (fun r hr q hq => hb r (List.mem_append_right _ (List.mem_append_left _ hr)) q hq), h.cr.blkP (fun q hq => hb _ (List.mem_append_right _ (List.mem_append_right _ (List.mem_singleton.2 rfl))) q hq), h.d1, h.d2, h.d3⟩
theorem PcAt.nil0 (w : World) : PcAt w none 0 0 0 [] := ⟨fun h => absurd h (by omega), rfl, Nat.zero_le _, fun h => absurd h (by omega), fun j hj => absurd hj (by omega), fun j hj => absurd hj (by omega), fun j hj => absurd hj (by omega), fun j hj => absurd hj (by omega)⟩
theorem eqWorldO_any (ts : List TaskD) (key : ByteArray) (bd : BD) (n : Nat) (vP : Value) (vs : List Value) (bh : BH) (vW vP' : Value) (vs' : List Value) (bh' : BH) (vW' : Value) (B B' : Nat) (w : World) (hO : WoO w B ts vP vs bd bh n vW) (hO' : WoO w B' ts vP' vs' bd bh' n vW') (hg : okD ts bd n) :
    Calls Tryz.prog 18 #[.agg (wvs vP key bd bh vW).toArray, .agg (wvs vP' key bd bh' vW').toArray] w fun e w' => e = .returned (.bool true) ∧ Below w.heap.size w w' := by
  obtain ⟨a, b, o, c, rfl, hT⟩ := hO.pl.tasks hg.f (by have := hg.l; unfold maxLen; omega)
  obtain ⟨a', b', o', c', rfl, hT'⟩ := hO'.pl.tasks hg.f (by have := hg.l; unfold maxLen; omega)
  obtain ⟨wa, wc, rfl⟩ := hO.cr.slice
  obtain ⟨wa', wc', rfl⟩ := hO'.cr.slice
  obtain ⟨wb, wo, hW⟩ := hO.cr.wrAt (by have := hg.w; omega)
  obtain ⟨wb', wo', hW'⟩ := hO'.cr.wrAt (by have := hg.w; omega)
  exact eqWorld_any a b o ts.length c ts key bd _ _ _ _ _ _ _ _ _ _ _ _ wa wb wo n wc (crewD n) none 0 0 0 0 [] ⟨#[]⟩ a' b' o' c' _ _ _ _ _ _ _ _ _ _ _ _ wa' wb' wo' wc' none 0 0 0 w hT ⟨bh, rfl, hO.bo.m hg.g⟩ hW (PcAt.nil0 w) hT' ⟨bh', rfl, hO'.bo.m hg.g⟩ hW' (PcAt.nil0 w)

/-! ### marks of a world -/
def K1 (ts : List TaskD) : Nat := kAt 1 ts ts.length
def K2 (ts : List TaskD) (bd : BD) : Nat := totK (K1 ts) bd
def totW (ts : List TaskD) (bd : BD) (n : Nat) : Nat := K2 ts bd + n * 10
structure WoM (w : World) (B : Nat) (ts : List TaskD) (vP : Value) (vs : List Value) (bd : BD) (bh : BH) (n : Nat) (vW : Value) : Prop where
  pl : PlanO w B vP (mkTs 1 ts ts.length) vs
  bo : BossO w B (mkBK (K1 ts) bd) bh
  cr : Own B w 11 vW n (crewM (K2 ts bd) n)
theorem WoM.below {w w' : World} {B : Nat} {ts : List TaskD} {vP : Value} {vs : List Value} {bd : BD} {bh : BH} {n : Nat} {vW : Value} (h : WoM w B ts vP vs bd bh n vW) (hb : Below w.heap.size w w') : WoM w' B ts vP vs bd bh n vW :=
  ⟨h.pl.below hb, h.bo.below hb, h.cr.below hb (Nat.le_refl _)⟩
theorem K1_rng {ts : List TaskD} (h1 : ts.length ≤ 1048576) (h2 : tssz ts ≤ 1048576) : 0 < K1 ts ∧ K1 ts ≤ 3145729 := by
  have := kAt_max 1 ts (i := ts.length) (Nat.le_refl _)
  unfold K1
  omega
theorem K2_rng {ts : List TaskD} {bd : BD} (h1 : ts.length ≤ 1048576) (h2 : tssz ts ≤ 1048576) (h3 : bd.small) : 0 < K2 ts bd ∧ K2 ts bd ≤ 6291457 := by
  have := K1_rng h1 h2
  unfold BD.small at h3
  unfold K2 totK
  omega
theorem mkTs_rows (v : Value) (k i : Nat) (ts : List TaskD) (vs : List Value) : rowsP v (mkTs k ts i) vs = rowsP v ts vs := by simp [rowsP, mkTs_length]
theorem dn_ne {r r' : Option Nat} (h : Dn r r') {q : Nat} (e : r' = some q) : r ≠ some q := by
  rcases h with h | h
  · rw [h]; simp
  · rw [← e]; exact h
set_option maxHeartbeats 4000000 in
set_option maxRecDepth 100000 in
theorem markWorldO_any (ts : List TaskD) (key : ByteArray) (bd : BD) (n : Nat) (vP : Value) (vs : List Value) (bh : BH) (vW : Value) (B : Nat) (w : World) (hO : WoO w B ts vP vs bd bh n vW) (hg : okD ts bd n) :
    Calls Tryz.prog 19 #[.agg #[vP, .string key, .int .i64 bd.wk, .bool bd.up, .int .i64 bd.now, .int .i64 bd.sn, .int .i64 bd.ep, .int .i64 bd.gv, .slice bh.a1 bd.L1.length bh.c1, .slice bh.a2 bd.L2.length bh.c2, .slice bh.ar bd.R.length bh.cr, .slice bh.aj bd.J.length bh.cj, .slice bh.az bd.S.length bh.cs, .slice bh.ao bd.O.length bh.co, vW, .slice none 0 0, .string ⟨#[]⟩], .int .i64 1] w fun e w' => e = .returned (.int .i64 (totW ts bd n : Nat)) ∧ WoM w' B ts vP vs bd bh n vW ∧ Grew (rowsW vP ts vs bd bh vW) w w' := by
  have k1 := K1_rng hg.l hg.s
  have k2 := K2_rng hg.l hg.s hg.b
  have HK1 : Hid (∀ w1, PlanO w1 B vP ts vs → Calls Tryz.prog 14 #[.agg #[vP], .int .i64 1] w1 fun e w' => e = .returned (.int .i64 (K1 ts : Nat)) ∧ PlanO w' B vP (mkTs 1 ts ts.length) vs ∧ Grew (rowsP vP ts vs) w1 w') := fun w1 h1 => markPlan_own vP 1 B ts vs w1 (by omega) (by omega) hg.l hg.s h1
  have HK2 : Hid (∀ w1, BossO w1 B bd bh → Calls Tryz.prog 13 #[.agg #[.int .i64 bd.wk, .bool bd.up, .int .i64 bd.now, .int .i64 bd.sn, .int .i64 bd.ep, .int .i64 bd.gv, .slice bh.a1 bd.L1.length bh.c1, .slice bh.a2 bd.L2.length bh.c2, .slice bh.ar bd.R.length bh.cr, .slice bh.aj bd.J.length bh.cj, .slice bh.az bd.S.length bh.cs, .slice bh.ao bd.O.length bh.co], .int .i64 (K1 ts : Nat)] w1 fun e w' => e = .returned (.int .i64 (K2 ts bd : Nat)) ∧ BossO w' B (mkBK (K1 ts) bd) bh ∧ Grew (rowsB bd bh) w1 w') := fun w1 h1 => markBossK_any (K1 ts) bd bh B w1 (by omega) (by omega) h1 hg.b
  have HK3 : Hid (∀ w1, Own B w1 11 vW n (crewC n) → Calls Tryz.prog 65 #[vW, .int .i64 (K2 ts bd : Nat)] w1 fun e w' => e = .returned (.int .i64 (totW ts bd n : Nat)) ∧ Own B w' 11 vW n (crewM (K2 ts bd) n) ∧ w1.grownBy w' vW.ownBlock) := fun w1 h1 => markWorkerS_own vW n (K2 ts bd) B w1 (by omega) (by omega) (by have := hg.w; omega) h1
  have HLO := hid hO.lo
  have HD1 := hid hO.d1
  have HD2 := hid hO.d2
  have HD3 := hid hO.d3
  clear k1 k2 hg
  obtain ⟨W, hW⟩ : ∃ W, W = w.alloc (.cells #[vP, .string key, .int .i64 bd.wk, .bool bd.up, .int .i64 bd.now, .int .i64 bd.sn, .int .i64 bd.ep, .int .i64 bd.gv, .slice bh.a1 bd.L1.length bh.c1, .slice bh.a2 bd.L2.length bh.c2, .slice bh.ar bd.R.length bh.cr, .slice bh.aj bd.J.length bh.cj, .slice bh.az bd.S.length bh.cs, .slice bh.ao bd.O.length bh.co, vW, .slice none 0 0, .string ⟨#[]⟩] 55) := ⟨_, rfl⟩
  have hb0 : Below w.heap.size w W := by rw [hW]; exact (Below.refl _ _).alloc (Nat.le_refl _) _
  have P0 : CF W w.heap.size [vP, .string key, .int .i64 bd.wk, .bool bd.up, .int .i64 bd.now, .int .i64 bd.sn, .int .i64 bd.ep, .int .i64 bd.gv, .slice bh.a1 bd.L1.length bh.c1, .slice bh.a2 bd.L2.length bh.c2, .slice bh.ar bd.R.length bh.cr, .slice bh.aj bd.J.length bh.cj, .slice bh.az bd.S.length bh.cs, .slice bh.ao bd.O.length bh.co, vW, .slice none 0 0, .string ⟨#[]⟩] := by rw [hW]; exact CF.made w #[vP, .string key, .int .i64 bd.wk, .bool bd.up, .int .i64 bd.now, .int .i64 bd.sn, .int .i64 bd.ep, .int .i64 bd.gv, .slice bh.a1 bd.L1.length bh.c1, .slice bh.a2 bd.L2.length bh.c2, .slice bh.ar bd.R.length bh.cr, .slice bh.aj bd.J.length bh.cj, .slice bh.az bd.S.length bh.cs, .slice bh.ao bd.O.length bh.co, vW, .slice none 0 0, .string ⟨#[]⟩] 55
  have z0 : w.heap.size < W.heap.size := by rw [hW]; simp
  have pl0 := hid (hO.pl.below hb0)
  have bo0 := hid (hO.bo.below hb0)
  have cr0 := hid (hO.cr.below hb0 (Nat.le_refl _))
  have G0 : Hid (Grew (rowsW vP ts vs bd bh vW) w W) := Grew.bw hb0
  have HW := hid hW
  clear hW hO hb0
  obtain ⟨p, hp⟩ : ∃ p, p = w.heap.size := ⟨_, rfl⟩
  rw [← hp] at P0 z0
  have HP : Hid (∀ r ∈ rowsW vP ts vs bd bh vW, r ≠ some p) := fun r hr e => by have := HLO.out r hr p e; omega
  go_enter Tryz.func19, Tryz.ntmps19
  go_upto_region 1 with fail
  rw [← HW.out, ← hp]
  clear HW
  have HPP := hid hp
  clear hp
  have y0 : W.cell? ⟨p, 0, none⟩ = some vP := (P0 0 (by simp)).1
  go_upto_region 2 with (go_at_call 14; refine (HK1.out _ pl0.out).mono ?_; rintro e w1 ⟨rfl, pl1', g1⟩)
  have P1 := P0.block (g1.2 p z0 (fun r hr => HP.out r (List.mem_append_left _ hr)))
  have z1 : p < w1.heap.size := Nat.lt_of_lt_of_le z0 g1.1
  have pl1 := hid pl1'
  have bo1 := hid (bo0.out.grew g1 (fun r hr q hq r' hr' => by
    rcases rowsP_of hr with rfl | ⟨j, hj, rfl⟩
    · exact dn_ne (HD1.out r' hr').1.symm hq
    · exact dn_ne ((HD1.out r' hr').2 j hj).symm hq))
  have cr1 := hid (cr0.out.grew g1 (fun r hr => by
    rcases rowsP_of hr with rfl | ⟨j, hj, rfl⟩
    · exact HD2.out.1.symm
    · exact (HD2.out.2 j hj).symm))
  have G1 := hid (G0.out.step g1 (fun r hr => List.mem_append_left _ hr))
  clear P0 z0 pl0 bo0 cr0 G0 g1 y0 pl1'
  have y2 : w1.cell? ⟨p, 2, none⟩ = some (.int .i64 bd.wk) := (P1 2 (by simp)).1
  have y3 : w1.cell? ⟨p, 3, none⟩ = some (.bool bd.up) := (P1 3 (by simp)).1
  have y4 : w1.cell? ⟨p, 4, none⟩ = some (.int .i64 bd.now) := (P1 4 (by simp)).1
  have y5 : w1.cell? ⟨p, 5, none⟩ = some (.int .i64 bd.sn) := (P1 5 (by simp)).1
  have y6 : w1.cell? ⟨p, 6, none⟩ = some (.int .i64 bd.ep) := (P1 6 (by simp)).1
  have y7 : w1.cell? ⟨p, 7, none⟩ = some (.int .i64 bd.gv) := (P1 7 (by simp)).1
  have y8 : w1.cell? ⟨p, 8, none⟩ = some (.slice bh.a1 bd.L1.length bh.c1) := (P1 8 (by simp)).1
  have y9 : w1.cell? ⟨p, 9, none⟩ = some (.slice bh.a2 bd.L2.length bh.c2) := (P1 9 (by simp)).1
  have y10 : w1.cell? ⟨p, 10, none⟩ = some (.slice bh.ar bd.R.length bh.cr) := (P1 10 (by simp)).1
  have y11 : w1.cell? ⟨p, 11, none⟩ = some (.slice bh.aj bd.J.length bh.cj) := (P1 11 (by simp)).1
  have y12 : w1.cell? ⟨p, 12, none⟩ = some (.slice bh.az bd.S.length bh.cs) := (P1 12 (by simp)).1
  have y13 : w1.cell? ⟨p, 13, none⟩ = some (.slice bh.ao bd.O.length bh.co) := (P1 13 (by simp)).1
  go_upto_region 3 with (go_at_call 13; refine (HK2.out _ bo1.out).mono ?_; rintro e w2 ⟨rfl, bo2', g2⟩)
  have P2 := P1.block (g2.2 p z1 (fun r hr => HP.out r (List.mem_append_right _ (List.mem_append_left _ hr))))
  have z2 : p < w2.heap.size := Nat.lt_of_lt_of_le z1 g2.1
  have bo2 := hid bo2'
  have pl2 := hid (pl1.out.grew g2 (fun r hr q hq r' hr' => by
    rw [mkTs_rows] at hr'
    rcases rowsP_of hr' with rfl | ⟨j, hj, rfl⟩
    · exact dn_ne (HD1.out r hr).1 hq
    · exact dn_ne ((HD1.out r hr).2 j hj) hq))
  have cr2 := hid (cr1.out.grew g2 (fun r hr => (HD3.out r hr).symm))
  have G2 := hid (G1.out.step g2 (fun r hr => List.mem_append_right _ (List.mem_append_left _ hr)))
  clear P1 z1 pl1 bo1 cr1 G1 g2 bo2' y2 y3 y4 y5 y6 y7 y8 y9 y10 y11 y12 y13
  have y14 : w2.cell? ⟨p, 14, none⟩ = some vW := (P2 14 (by simp)).1
  go_upto_region 4 with (go_at_call 65; refine (HK3.out _ cr2.out).mono ?_; rintro e w3 ⟨rfl, cr3', g3⟩)
  have hg3 := Grew.of g3
  have P3 := P2.block (hg3.2 p z2 (fun r hr => HP.out r (List.mem_append_right _ (List.mem_append_right _ hr))))
  have pl3 := hid (pl2.out.grew hg3 (fun r hr q hq r' hr' => by
    obtain rfl := List.mem_singleton.1 hr
    rw [mkTs_rows] at hr'
    rcases rowsP_of hr' with rfl | ⟨j, hj, rfl⟩
    · exact dn_ne HD2.out.1 hq
    · exact dn_ne (HD2.out.2 j hj) hq))
  have bo3 := hid (bo2.out.grew hg3 (fun r hr q hq r' hr' => by
    obtain rfl := List.mem_singleton.1 hr
    rw [rowsB_mkBK] at hr'
    exact dn_ne (HD3.out r' hr') hq))
  have cr3 := hid cr3'
  have G3 := hid (G2.out.step hg3 (fun r hr => List.mem_append_right _ (List.mem_append_right _ hr)))
  clear P2 z2 pl2 bo2 cr2 G2 g3 hg3 cr3' y14
  have y15 : w3.cell? ⟨p, 15, none⟩ = some (.slice none 0 0) := (P3 15 (by simp)).1
  go_wp2_with fail
  refine (markParcelS_nil (totW ts bd n) _).mono ?_
  rintro e w4 ⟨rfl, rfl⟩
  go_wp2
  go_ret
  exact ⟨rfl, ⟨pl3.out, bo3.out, cr3.out⟩, G3.out⟩
set_option maxHeartbeats 4000000 in
set_option maxRecDepth 100000 in
theorem heldWorldO_any (ts : List TaskD) (key : ByteArray) (bd : BD) (n : Nat) (vP : Value) (vs : List Value) (bh : BH) (vW : Value) (B : Nat) (w : World) (hO : WoM w B ts vP vs bd bh n vW) (hg : okD ts bd n) :
    Calls Tryz.prog 20 #[.agg #[vP, .string key, .int .i64 bd.wk, .bool bd.up, .int .i64 bd.now, .int .i64 bd.sn, .int .i64 bd.ep, .int .i64 bd.gv, .slice bh.a1 bd.L1.length bh.c1, .slice bh.a2 bd.L2.length bh.c2, .slice bh.ar bd.R.length bh.cr, .slice bh.aj bd.J.length bh.cj, .slice bh.az bd.S.length bh.cs, .slice bh.ao bd.O.length bh.co, vW, .slice none 0 0, .string ⟨#[]⟩], .int .i64 1] w fun e w' => e = .returned (.int .i64 (totW ts bd n : Nat)) ∧ Below w.heap.size w w' := by
  have k1 := K1_rng hg.l hg.s
  have k2 := K2_rng hg.l hg.s hg.b
  have HK1 : Hid (∀ w1, Below w.heap.size w w1 → Calls Tryz.prog 67 #[.agg #[vP], .int .i64 1] w1 fun e w' => e = .returned (.int .i64 (K1 ts : Nat)) ∧ Below w1.heap.size w1 w') := fun w1 h1 => heldPlan_own vP 1 B ts vs w1 (by omega) (by omega) hg.l hg.s (hO.pl.below h1)
  have HK2 : Hid (∀ w1, Below w.heap.size w w1 → Calls Tryz.prog 15 #[.agg #[.int .i64 bd.wk, .bool bd.up, .int .i64 bd.now, .int .i64 bd.sn, .int .i64 bd.ep, .int .i64 bd.gv, .slice bh.a1 bd.L1.length bh.c1, .slice bh.a2 bd.L2.length bh.c2, .slice bh.ar bd.R.length bh.cr, .slice bh.aj bd.J.length bh.cj, .slice bh.az bd.S.length bh.cs, .slice bh.ao bd.O.length bh.co], .int .i64 (K1 ts : Nat)] w1 fun e w' => e = .returned (.int .i64 (K2 ts bd : Nat)) ∧ Below w1.heap.size w1 w') := fun w1 h1 => heldBossK_any (K1 ts) bd bh B w1 (by omega) (by omega) (hO.bo.below h1) hg.b
  have HK3 : Hid (∀ w1, Below w.heap.size w w1 → Calls Tryz.prog 68 #[vW, .int .i64 (K2 ts bd : Nat)] w1 fun e w' => e = .returned (.int .i64 (totW ts bd n : Nat)) ∧ Below w1.heap.size w1 w') := fun w1 h1 => heldWorkerS_own vW n (K2 ts bd) B w1 (by omega) (by omega) (by have := hg.w; omega) (hO.cr.below h1 (Nat.le_refl _))
  have n1 : ¬ ((K1 ts : Nat) : Int) < 0 := by omega
  have n2 : ¬ ((K2 ts bd : Nat) : Int) < 0 := by omega
  have n3 : ¬ ((totW ts bd n : Nat) : Int) < 0 := by omega
  clear k1 k2 hg hO
  obtain ⟨W, hW⟩ : ∃ W, W = w.alloc (.cells #[vP, .string key, .int .i64 bd.wk, .bool bd.up, .int .i64 bd.now, .int .i64 bd.sn, .int .i64 bd.ep, .int .i64 bd.gv, .slice bh.a1 bd.L1.length bh.c1, .slice bh.a2 bd.L2.length bh.c2, .slice bh.ar bd.R.length bh.cr, .slice bh.aj bd.J.length bh.cj, .slice bh.az bd.S.length bh.cs, .slice bh.ao bd.O.length bh.co, vW, .slice none 0 0, .string ⟨#[]⟩] 55) := ⟨_, rfl⟩
  have B0 : Below w.heap.size w W := by rw [hW]; exact (Below.refl _ _).alloc (Nat.le_refl _) _
  have P0 : CF W w.heap.size [vP, .string key, .int .i64 bd.wk, .bool bd.up, .int .i64 bd.now, .int .i64 bd.sn, .int .i64 bd.ep, .int .i64 bd.gv, .slice bh.a1 bd.L1.length bh.c1, .slice bh.a2 bd.L2.length bh.c2, .slice bh.ar bd.R.length bh.cr, .slice bh.aj bd.J.length bh.cj, .slice bh.az bd.S.length bh.cs, .slice bh.ao bd.O.length bh.co, vW, .slice none 0 0, .string ⟨#[]⟩] := by rw [hW]; exact CF.made w #[vP, .string key, .int .i64 bd.wk, .bool bd.up, .int .i64 bd.now, .int .i64 bd.sn, .int .i64 bd.ep, .int .i64 bd.gv, .slice bh.a1 bd.L1.length bh.c1, .slice bh.a2 bd.L2.length bh.c2, .slice bh.ar bd.R.length bh.cr, .slice bh.aj bd.J.length bh.cj, .slice bh.az bd.S.length bh.cs, .slice bh.ao bd.O.length bh.co, vW, .slice none 0 0, .string ⟨#[]⟩] 55
  have z0 : w.heap.size < W.heap.size := by rw [hW]; simp
  have HW := hid hW
  clear hW
  obtain ⟨p, hp⟩ : ∃ p, p = w.heap.size := ⟨_, rfl⟩
  rw [← hp] at P0 z0
  go_enter Tryz.func20, Tryz.ntmps20
  go_upto_region 1 with fail
  rw [← HW.out, ← hp]
  clear HW
  have HPP := hid hp
  clear hp
  have y0 : W.cell? ⟨p, 0, none⟩ = some (vP) := (P0 0 (by simp)).1
  go_upto_region 4 with (go_at_call 67; refine (HK1.out _ B0).mono ?_; rintro e w1 ⟨rfl, hb1⟩)
  have P1 := P0.block (hb1.block p z0)
  have z1 : p < w1.heap.size := Nat.lt_of_lt_of_le z0 hb1.size
  have B1 := B0.trans (hb1.mono B0.size)
  clear P0 z0 B0 hb1 y0
  have y2 : w1.cell? ⟨p, 2, none⟩ = some (.int .i64 bd.wk) := (P1 2 (by simp)).1
  have y3 : w1.cell? ⟨p, 3, none⟩ = some (.bool bd.up) := (P1 3 (by simp)).1
  have y4 : w1.cell? ⟨p, 4, none⟩ = some (.int .i64 bd.now) := (P1 4 (by simp)).1
  have y5 : w1.cell? ⟨p, 5, none⟩ = some (.int .i64 bd.sn) := (P1 5 (by simp)).1
  have y6 : w1.cell? ⟨p, 6, none⟩ = some (.int .i64 bd.ep) := (P1 6 (by simp)).1
  have y7 : w1.cell? ⟨p, 7, none⟩ = some (.int .i64 bd.gv) := (P1 7 (by simp)).1
  have y8 : w1.cell? ⟨p, 8, none⟩ = some (.slice bh.a1 bd.L1.length bh.c1) := (P1 8 (by simp)).1
  have y9 : w1.cell? ⟨p, 9, none⟩ = some (.slice bh.a2 bd.L2.length bh.c2) := (P1 9 (by simp)).1
  have y10 : w1.cell? ⟨p, 10, none⟩ = some (.slice bh.ar bd.R.length bh.cr) := (P1 10 (by simp)).1
  have y11 : w1.cell? ⟨p, 11, none⟩ = some (.slice bh.aj bd.J.length bh.cj) := (P1 11 (by simp)).1
  have y12 : w1.cell? ⟨p, 12, none⟩ = some (.slice bh.az bd.S.length bh.cs) := (P1 12 (by simp)).1
  have y13 : w1.cell? ⟨p, 13, none⟩ = some (.slice bh.ao bd.O.length bh.co) := (P1 13 (by simp)).1
  go_upto_region 7 with (go_at_call 15; refine (HK2.out _ B1).mono ?_; rintro e w2 ⟨rfl, hb2⟩)
  have P2 := P1.block (hb2.block p z1)
  have z2 : p < w2.heap.size := Nat.lt_of_lt_of_le z1 hb2.size
  have B2 := B1.trans (hb2.mono B1.size)
  clear P1 z1 B1 hb2 y2 y3 y4 y5 y6 y7 y8 y9 y10 y11 y12 y13
  have y14 : w2.cell? ⟨p, 14, none⟩ = some (vW) := (P2 14 (by simp)).1
  go_upto_region 10 with (go_at_call 68; refine (HK3.out _ B2).mono ?_; rintro e w3 ⟨rfl, hb3⟩)
  have P3 := P2.block (hb3.block p z2)
  have z3 : p < w3.heap.size := Nat.lt_of_lt_of_le z2 hb3.size
  have B3 := B2.trans (hb3.mono B2.size)
  clear P2 z2 B2 hb3 y14
  have y15 : w3.cell? ⟨p, 15, none⟩ = some (.slice none 0 0) := (P3 15 (by simp)).1
  go_wp2_with fail
  refine (heldParcelS_nil (totW ts bd n) _).mono ?_
  rintro e w4 ⟨rfl, rfl⟩
  go_wp2
  go_ret
  exact ⟨rfl, B3⟩
end Go.Proofs.YtbfamabkbkpmpaaGreat
