import Derived.Test.YtbfamabkbkpmpaaGreatQNwh
namespace Go.Proofs.YtbfamabkbkpmpaaGreat
open Go.RowKit

/-- The boxes: the plan's, the answer's. -/
structure NwSt (w : World) (a : Option Addr) (n c : Nat) (wr : World) : Prop where
  P : CF wr w.heap.size [.slice a n c]
  R : CF wr (w.heap.size + 1) zWv
  B : Below w.heap.size w wr
  z : w.heap.size + 2 ≤ wr.heap.size
theorem NwSt.below {w : World} {a : Option Addr} {n c : Nat} {wr wx : World} (h : NwSt w a n c wr) (hb : Below wr.heap.size wr wx) : NwSt w a n c wx :=
  ⟨h.P.block (hb.block _ (by have := h.z; omega)), h.R.block (hb.block _ (by have := h.z; omega)), h.B.trans (hb.mono h.B.size), Nat.le_trans h.z hb.size⟩
theorem NwSt.drew {w : World} {a : Option Addr} {n c : Nat} {wr : World} (h : NwSt w a n c wr) : NwSt w a n c wr.drew := ⟨h.P, h.R, h.B.drew, h.z⟩
theorem NwSt.grown {w : World} {a : Option Addr} {n c : Nat} {wr wx : World} {row : Option Nat} (h : NwSt w a n c wr) (hg : wr.grownBy wx row) (hr : ∀ q, row = some q → w.heap.size + 2 ≤ q) : NwSt w a n c wx :=
  ⟨h.P.block (hg.block _ (by have := h.z; omega) (fun e => by have := hr _ e.symm; omega)), h.R.block (hg.block _ (by have := h.z; omega) (fun e => by have := hr _ e.symm; omega)), below_grown h.B hg h.B.size (fun q hq => by have := hr q hq; omega), Nat.le_trans h.z hg.size⟩
/-- The blocks of a plan. -/
def PlanQ (vP : Value) (ts : List TaskD) (vs : List Value) (P : Nat → Prop) : Prop := (∀ q, vP.ownBlock = some q → P q) ∧ ∀ i, i < ts.length → ∀ q, (vs.getD i nilV).ownBlock = some q → P q
theorem PlanO.q {w : World} {B : Nat} {v : Value} {ts : List TaskD} {vs : List Value} (h : PlanO w B v ts vs) : PlanQ v ts vs (fun q => B ≤ q ∧ q < w.heap.size) :=
  ⟨fun q hq => ⟨h.row.row_lo q hq, h.row.row_hi q hq⟩, fun i hi q hq => ⟨(h.dep i hi).row_lo q hq, (h.dep i hi).row_hi q hq⟩⟩
theorem PlanQ.imp {vP : Value} {ts : List TaskD} {vs : List Value} {P Q : Nat → Prop} (h : PlanQ vP ts vs P) (hi : ∀ q, P q → Q q) : PlanQ vP ts vs Q := ⟨fun q hq => hi q (h.1 q hq), fun i h1 q hq => hi q (h.2 i h1 q hq)⟩
theorem PlanO.byQ {w w' : World} {B : Nat} {v : Value} {ts : List TaskD} {vs : List Value} (h : PlanO w B v ts vs) (hq : PlanQ v ts vs (fun q => w'.heap[q]? = w.heap[q]?)) : PlanO w' B v ts vs :=
  ⟨h.len, h.row.blkP hq.1, fun i hi => (h.dep i hi).blkP (hq.2 i hi), h.dr, h.dd⟩
def BossQ (bd : BD) (bh : BH) (P : Nat → Prop) : Prop := ∀ r ∈ rowsB bd bh, ∀ q, r = some q → P q
/-- Amid the making: the world's box at X, its parts. -/
structure NwM (w : World) (a : Option Addr) (n c : Nat) (ts : List TaskD) (key : ByteArray) (bd : BD) (X : Nat) (vP : Value) (vs : List Value) (bh : BH) (m : Nat) (vW : Value) (wr : World) : Prop where
  S : NwSt w a n c wr
  X0 : w.heap.size + 2 ≤ X ∧ X < wr.heap.size
  box : CF wr X (wvs vP key bd bh vW)
  pl : PlanO wr (w.heap.size + 2) vP ts vs
  bo : BossO wr (w.heap.size + 2) bd bh
  pq : PlanQ vP ts vs (fun q => q ≠ X)
  bq : BossQ bd bh (fun q => q ≠ X)
  cr : Own (w.heap.size + 2) wr 11 vW m (crewC m)
  cx : ∀ q, vW.ownBlock = some q → q ≠ X
  d1 : ∀ r ∈ rowsB bd bh, Dn vP.ownBlock r ∧ ∀ i, i < ts.length → Dn (vs.getD i nilV).ownBlock r
  d2 : Dn vP.ownBlock vW.ownBlock ∧ ∀ i, i < ts.length → Dn (vs.getD i nilV).ownBlock vW.ownBlock
  d3 : ∀ r ∈ rowsB bd bh, Dn r vW.ownBlock

set_option maxHeartbeats 8000000 in
set_option maxRecDepth 100000 in
theorem iNew_any (a : Option Addr) (b o n c : Nat) (ts : List TaskD) (key : ByteArray) (wk : Int) (w : World) (h : TasksAt w a b o n ts) (hn : n + tssz ts ≤ 1048576) (hky : key.size ≤ 1048576) :
    Calls Tryz.prog 17 #[.agg #[.slice a n c], .string key, .int .i64 wk] w fun e w' => RetWo e w.heap.size w' (newR ts key wk) ∧ Below w.heap.size w w' := by
  obtain ⟨iW, hiW, hW0, hW1, hW2⟩ := info_parts Tryz.infoWr
  obtain ⟨W, hW⟩ : ∃ W, W = (w.alloc (.cells #[.slice a n c] 45)).alloc (.cells #[.slice none 0 0, .string ⟨#[]⟩, .int .i64 0, .bool false, .int .i64 0, .int .i64 0, .int .i64 0, .int .i64 0, .slice none 0 0, .slice none 0 0, .slice none 0 0, .slice none 0 0, .slice none 0 0, .slice none 0 0, .slice none 0 0, .slice none 0 0, .string ⟨#[]⟩] 55) := ⟨_, rfl⟩
  have S0 : NwSt w a n c W := by
    refine ⟨?_, ?_, ?_, by rw [hW]; simp⟩
    · rw [hW]; exact (CF.made w #[.slice a n c] 45).block (Below.heap_alloc _ _ _ (by simp))
    · rw [hW]
      have := CF.made (w.alloc (.cells #[.slice a n c] 45)) #[.slice none 0 0, .string ⟨#[]⟩, .int .i64 0, .bool false, .int .i64 0, .int .i64 0, .int .i64 0, .int .i64 0, .slice none 0 0, .slice none 0 0, .slice none 0 0, .slice none 0 0, .slice none 0 0, .slice none 0 0, .slice none 0 0, .slice none 0 0, .string ⟨#[]⟩] 55
      rw [World.size_alloc] at this
      exact this
    · rw [hW]; exact ((Below.refl _ _).alloc (Nat.le_refl _) _).alloc (by simp) _
  have HW := hid hW
  have HL := hid h.len
  have HZ : Hid (∀ wx, NwSt w a n c wx → ∀ wy, wx.grownBy wy (some (w.heap.size + 1)) → ¬ okW ts key wk → RetWo (.returned (.agg #[.slice none 0 0, .string ⟨#[]⟩, .int .i64 0, .bool false, .int .i64 0, .int .i64 0, .int .i64 0, .int .i64 0, .slice none 0 0, .slice none 0 0, .slice none 0 0, .slice none 0 0, .slice none 0 0, .slice none 0 0, .slice none 0 0, .slice none 0 0, .string ⟨#[]⟩])) w.heap.size wy (newR ts key wk) ∧ Below w.heap.size w wy) := hid fun wx Sx wy hg hno =>
    ⟨⟨[], ⟨#[]⟩, zBD, 0, nilV, [], nilH, nilV, rfl, zWoO _ _, .inr ⟨hno, rfl, rfl, rfl, rfl⟩⟩, below_grown Sx.B hg Sx.B.size (fun q hq => by injection hq with hq; omega)⟩
  clear hW
  go_enter Tryz.func17, Tryz.ntmps17
  go_upto_region 1 with fail
  rw [← HW.out]
  clear HW
  have y0 : W.cell? ⟨w.heap.size, 0, none⟩ = some (.slice a n c) := (S0.P 0 (by simp)).1
  go_wp2_with fail
  refine (implCheckPlan_any a b o n c ts _ (h.below' S0.B)).mono ?_
  rintro e w1 ⟨⟨cc, rfl, hcc⟩, hb1⟩
  have S1 := S0.below hb1
  clear y0 hb1 S0
  by_cases c0 : cc = 0
  case neg =>
    have c0b : (cc == 0) = false := beq_eq_false_iff_ne.2 c0
    have HN := hid (show ¬ okW ts key wk from fun hh => c0 (hcc.one hh.1))
    clear hcc
    have R1 : CF w1 (w.heap.size + 1) zWv := S1.R
    go_upto_region 2 with fail
    go_wp2_with (refine wpList_store_cf rfl 55 (.tmp 6) (.tmp 22) rfl (w.heap.size + 1) zWv [.slice none 0 0, .string ⟨#[]⟩, .int .i64 0, .bool false, .int .i64 0, .int .i64 0, .int .i64 0, .int .i64 0, .slice none 0 0, .slice none 0 0, .slice none 0 0, .slice none 0 0, .slice none 0 0, .slice none 0 0, .slice none 0 0, .slice none 0 0, .string ⟨#[]⟩] rfl rfl R1 rfl Tryz.sizeWo zWv_one ?_; intro w10 hc10 hg10)
    exact bodyPost_ret (v := .agg #[.slice none 0 0, .string ⟨#[]⟩, .int .i64 0, .bool false, .int .i64 0, .int .i64 0, .int .i64 0, .int .i64 0, .slice none 0 0, .slice none 0 0, .slice none 0 0, .slice none 0 0, .slice none 0 0, .slice none 0 0, .slice none 0 0, .slice none 0 0, .string ⟨#[]⟩]) (results_cf 55 _ 6 Tryz.results17 rfl hc10 Tryz.underlying55 rfl Tryz.sizeWo) rfl (HZ.out _ S1 _ hg10 HN.out)
  subst c0
  have HC := hid hcc
  clear hcc
  go_wp2_with fail
  refine (within_any wk 1 8 _).mono ?_
  rintro e w2 ⟨rfl, rfl⟩
  by_cases c1 : inB wk 1 8 = true
  case neg =>
    have c1b : inB wk 1 8 = false := by simpa using c1
    have HN := hid (show ¬ okW ts key wk from fun hh => c1 (by unfold inB; simp; exact hh.2.1))
    clear c1
    have R1 : CF w2 (w.heap.size + 1) zWv := S1.R
    go_upto_region 2 with fail
    go_wp2_with (refine wpList_store_cf rfl 55 (.tmp 6) (.tmp 22) rfl (w.heap.size + 1) zWv [.slice none 0 0, .string ⟨#[]⟩, .int .i64 0, .bool false, .int .i64 0, .int .i64 0, .int .i64 0, .int .i64 0, .slice none 0 0, .slice none 0 0, .slice none 0 0, .slice none 0 0, .slice none 0 0, .slice none 0 0, .slice none 0 0, .slice none 0 0, .string ⟨#[]⟩] rfl rfl R1 rfl Tryz.sizeWo zWv_one ?_; intro w10 hc10 hg10)
    exact bodyPost_ret (v := .agg #[.slice none 0 0, .string ⟨#[]⟩, .int .i64 0, .bool false, .int .i64 0, .int .i64 0, .int .i64 0, .int .i64 0, .slice none 0 0, .slice none 0 0, .slice none 0 0, .slice none 0 0, .slice none 0 0, .slice none 0 0, .slice none 0 0, .slice none 0 0, .string ⟨#[]⟩]) (results_cf 55 _ 6 Tryz.results17 rfl hc10 Tryz.underlying55 rfl Tryz.sizeWo) rfl (HZ.out _ S1 _ hg10 HN.out)
  have hwk : 1 ≤ wk ∧ wk ≤ 8 := by unfold inB at c1; simpa using c1
  by_cases c2 : (30 : Int) < (key.size : Int)
  case pos =>
    have HN := hid (show ¬ okW ts key wk from fun hh => by have := hh.2.2; omega)
    have R1 : CF w2 (w.heap.size + 1) zWv := S1.R
    go_upto_region 2 with fail
    go_wp2_with (refine wpList_store_cf rfl 55 (.tmp 6) (.tmp 22) rfl (w.heap.size + 1) zWv [.slice none 0 0, .string ⟨#[]⟩, .int .i64 0, .bool false, .int .i64 0, .int .i64 0, .int .i64 0, .int .i64 0, .slice none 0 0, .slice none 0 0, .slice none 0 0, .slice none 0 0, .slice none 0 0, .slice none 0 0, .slice none 0 0, .slice none 0 0, .string ⟨#[]⟩] rfl rfl R1 rfl Tryz.sizeWo zWv_one ?_; intro w10 hc10 hg10)
    exact bodyPost_ret (v := .agg #[.slice none 0 0, .string ⟨#[]⟩, .int .i64 0, .bool false, .int .i64 0, .int .i64 0, .int .i64 0, .int .i64 0, .slice none 0 0, .slice none 0 0, .slice none 0 0, .slice none 0 0, .slice none 0 0, .slice none 0 0, .slice none 0 0, .slice none 0 0, .string ⟨#[]⟩]) (results_cf 55 _ 6 Tryz.results17 rfl hc10 Tryz.underlying55 rfl Tryz.sizeWo) rfl (HZ.out _ S1 _ hg10 HN.out)
  have c2b : decide ((30 : Int) < (key.size : Int)) = false := decide_eq_false c2
  have HOK := hid (show okW ts key wk from ⟨HC.out, hwk, by omega⟩)
  have HDO := hid (newD_ok HC.out hwk.1 hwk.2)
  go_upto_region 3 with fail
  clear c1 c2 c2b HZ
  obtain ⟨nw, hnw⟩ : ∃ nw : Nat, nw = wk.toNat := ⟨_, rfl⟩
  have HNW := hid (show wk = (nw : Int) by omega)
  have HNW0 := hid hnw
  have hnw8 : nw ≤ 8 := by omega
  clear hnw
  refine wp_region_held (S := fun w' => CF w' w.heap.size [.slice a n c]) (by kernel_rfl) ?_
  change wpAnyH _ _ _ _ _ _ _ _ (World.drew _)
  obtain ⟨r0, hr0⟩ : ∃ U, U = w2.drew := ⟨_, rfl⟩
  have Sr0 : NwSt w a n c r0 := by rw [hr0]; exact S1.drew
  rw [← hr0]
  clear hr0 S1
  refine hTake (i := 0) (d := some 23) (v := .agg #[.slice a n c]) (l' := #[true, false, false, false, false, false, false, false, false, false]) rfl (by kernel_rfl) (by kernel_rfl) (by kernel_rfl) (by kernel_rfl) (fun _ _ _ h => h) (by kernel_rfl) (fun _ hc => run_ldPn (.tmp 3) (by kernel_rfl) (by kernel_rfl) (hc 0 (by simp)).1) Sr0.P (by kernel_rfl) ?_
  refine hTake (i := 2) (d := some 25) (v := .string key) (l' := #[true, false, true, false, false, false, false, false, false, false]) rfl (by kernel_rfl) (by kernel_rfl) (by kernel_rfl) (by kernel_rfl) (fun _ _ _ h => h) (by kernel_rfl) (fun _ hc => run_mvN (.tmp 1) (by kernel_rfl) (by kernel_rfl)) Sr0.P (by kernel_rfl) ?_
  refine hTake (i := 3) (d := some 26) (v := .int .i64 wk) (l' := #[true, false, true, true, false, false, false, false, false, false]) rfl (by kernel_rfl) (by kernel_rfl) (by kernel_rfl) (by kernel_rfl) (fun _ _ _ h => h) (by kernel_rfl) (fun _ hc => run_mvN (.tmp 2) (by kernel_rfl) (by kernel_rfl)) Sr0.P (by kernel_rfl) ?_
  refine hTake (i := 4) (d := some 27) (v := .agg #[.int .i64 wk, .bool false, .int .i64 0, .int .i64 0, .int .i64 0, .int .i64 0, .slice none 0 0, .slice none 0 0, .slice none 0 0, .slice none 0 0, .slice none 0 0, .slice none 0 0]) (l' := #[true, false, true, true, true, false, false, false, false, false]) rfl (by kernel_rfl) (by kernel_rfl) (by kernel_rfl) (by kernel_rfl) (fun _ _ _ h => h) (by kernel_rfl) (fun _ hc => run_bBo (.tmp 26) (by kernel_rfl) (by kernel_rfl)) Sr0.P (by kernel_rfl) ?_
  refine hTake (i := 5) (d := some 28) (v := .agg #[.slice a n c]) (l' := #[true, false, true, true, true, true, false, false, false, false]) rfl (by kernel_rfl) (by kernel_rfl) (by kernel_rfl) (by kernel_rfl) (fun _ _ _ h => h) (by kernel_rfl) (fun _ hc => run_ldPn (.tmp 3) (by kernel_rfl) (by kernel_rfl) (hc 0 (by simp)).1) Sr0.P (by kernel_rfl) ?_
  obtain ⟨r1, hr1⟩ : ∃ V, V = r0.alloc (.cells #[.slice none 0 0, .string ⟨#[]⟩, .int .i64 0, .bool false, .int .i64 0, .int .i64 0, .int .i64 0, .int .i64 0, .slice none 0 0, .slice none 0 0, .slice none 0 0, .slice none 0 0, .slice none 0 0, .slice none 0 0, .slice none 0 0, .slice none 0 0, .string ⟨#[]⟩] 55) := ⟨_, rfl⟩
  have hbr1 : Below r0.heap.size r0 r1 := by rw [hr1]; exact (Below.refl _ _).alloc (Nat.le_refl _) _
  have Sr1 := Sr0.below hbr1
  have zr1 : r1.heap.size = r0.heap.size + 1 := by rw [hr1]; simp
  refine hTwo (i := 1) (j := 8) (by kernel_rfl) (hCall (i := 1) (d := some 24) (f := 62) (args := #[.agg #[.slice a n c]]) (l' := #[true, true, true, true, true, true, false, false, false, false]) (R := fun v w' => ∃ va vc vs, v = .agg #[.slice va ts.length vc] ∧ PlanO w' r0.heap.size (.slice va ts.length vc) ts vs ∧ Below r0.heap.size r0 w') rfl (by kernel_rfl) (by kernel_rfl) (by kernel_rfl) (run_cl1 _ _ rfl (by kernel_rfl) rfl enter_iCp) ((copyPlan_any a b o n c ts _ (h.below' Sr0.B) hn).mono fun _ _ ⟨⟨v, vs, he, hp⟩, hb⟩ => by obtain ⟨va, vc, rfl⟩ := hp.row.slc; exact ⟨_, he, va, vc, vs, rfl, hp, hb⟩) ?_) (hVal (i := 8) (d := some 7) (v := .pointer (some ⟨r0.heap.size, 0, none⟩)) (w' := r1) (l' := #[true, false, true, true, true, true, false, false, true, false]) rfl (by kernel_rfl) (by kernel_rfl) (by kernel_rfl) (by rw [hr1]; exact run_alW (by kernel_rfl)) Sr1.P ?_)
  · rintro _ r2 ⟨va, vc, vs, rfl, hpl, hbr2⟩
    have Sr2 := Sr0.below hbr2
    have zr2 : r0.heap.size ≤ r2.heap.size := hbr2.size
    have plr2 := hpl
    have pq := hid (hpl.q)
    clear hpl
    clear hbr2
    refine ⟨Sr2.P, ?_⟩
    obtain ⟨r3, hr3⟩ : ∃ V, V = r2.alloc (.cells #[.slice none 0 0, .string ⟨#[]⟩, .int .i64 0, .bool false, .int .i64 0, .int .i64 0, .int .i64 0, .int .i64 0, .slice none 0 0, .slice none 0 0, .slice none 0 0, .slice none 0 0, .slice none 0 0, .slice none 0 0, .slice none 0 0, .slice none 0 0, .string ⟨#[]⟩] 55) := ⟨_, rfl⟩
    have hbr3 : Below r2.heap.size r2 r3 := by rw [hr3]; exact (Below.refl _ _).alloc (Nat.le_refl _) _
    have Sr3 := Sr2.below hbr3
    have zr3 : r3.heap.size = r2.heap.size + 1 := by rw [hr3]; simp
    have plr3 := plr2.below hbr3
    refine hTwo (i := 6) (j := 8) (by kernel_rfl) (hCall (i := 6) (d := some 29) (f := 10) (args := #[.agg #[.int .i64 wk, .bool false, .int .i64 0, .int .i64 0, .int .i64 0, .int .i64 0, .slice none 0 0, .slice none 0 0, .slice none 0 0, .slice none 0 0, .slice none 0 0, .slice none 0 0], .agg #[.slice a n c]]) (l' := #[true, true, true, true, true, true, true, false, false, false]) (R := fun v w' => ∃ bh, v = .agg (bvs (worldB wk ts.length) bh).toArray ∧ BossO w' r2.heap.size (worldB wk ts.length) bh ∧ Below r2.heap.size r2 w') rfl (by kernel_rfl) (by kernel_rfl) (by kernel_rfl) (run_cl2 _ _ _ rfl (by kernel_rfl) (by kernel_rfl) rfl enter_iRi) ((iRiseB_any (newD wk) nilH a b o n c ts _ (newD_M _ wk) (h.below' Sr2.B) (newD_small wk)).mono fun _ _ ⟨⟨d', ⟨bh, he, ho⟩, hr⟩, hb⟩ => by rcases hr with ⟨_, hr⟩ | ⟨hr, _⟩; exact (by have e := rise_new hr; subst e; exact ⟨_, he, bh, rfl, ho, hb⟩); exact absurd HDO.out hr) ?_) (hVal (i := 8) (d := some 7) (v := .pointer (some ⟨r2.heap.size, 0, none⟩)) (w' := r3) (l' := #[true, true, true, true, true, true, false, false, true, false]) rfl (by kernel_rfl) (by kernel_rfl) (by kernel_rfl) (by rw [hr3]; exact run_alW (by kernel_rfl)) Sr3.P ?_)
    · rintro v29 r4 ⟨bh, hv29, hbo, hbr4⟩
      have Sr4 := Sr2.below hbr4
      have zr4 : r2.heap.size ≤ r4.heap.size := hbr4.size
      have plr4 := plr2.below hbr4
      have bor4 := hbo
      have bq := hid (hbo.lo)
      have HV29 := hid hv29
      clear hbo hv29
      clear hbr4
      refine ⟨Sr4.P, ?_⟩
      obtain ⟨V30, hV30⟩ : ∃ V : Value, V = .agg (wvs (.slice va ts.length vc) key (worldB wk ts.length) bh (.slice none 0 0)).toArray := ⟨_, rfl⟩
      have HV30 := hid hV30
      clear hV30
      refine hTake (i := 7) (d := some 30) (v := V30) (l' := #[true, true, true, true, true, true, true, true, false, false]) rfl (by kernel_rfl) (by kernel_rfl) (by kernel_rfl) (by kernel_rfl) (fun _ _ _ h => h) (by kernel_rfl) (fun _ hc => by rw [HV30.out]; exact run_bWo (.tmp 24) (.tmp 25) (.tmp 29) va ts.length vc key (worldB wk ts.length) bh (by kernel_rfl) (by kernel_rfl) (by kernel_rfl) (Eq.trans (b := v29) (by kernel_rfl) HV29.out)) Sr4.P (by kernel_rfl) ?_
      obtain ⟨r5, hr5⟩ : ∃ V, V = r4.alloc (.cells #[.slice none 0 0, .string ⟨#[]⟩, .int .i64 0, .bool false, .int .i64 0, .int .i64 0, .int .i64 0, .int .i64 0, .slice none 0 0, .slice none 0 0, .slice none 0 0, .slice none 0 0, .slice none 0 0, .slice none 0 0, .slice none 0 0, .slice none 0 0, .string ⟨#[]⟩] 55) := ⟨_, rfl⟩
      have hbr5 : Below r4.heap.size r4 r5 := by rw [hr5]; exact (Below.refl _ _).alloc (Nat.le_refl _) _
      have Sr5 := Sr4.below hbr5
      have zr5 : r5.heap.size = r4.heap.size + 1 := by rw [hr5]; simp
      have plr5 := plr4.below hbr5
      have bor5 := bor4.below hbr5
      refine hOne (by kernel_rfl) (hVal (i := 8) (d := some 7) (v := .pointer (some ⟨r4.heap.size, 0, none⟩)) (w' := r5) (l' := #[true, true, true, true, true, true, true, true, true, false]) rfl (by kernel_rfl) (by kernel_rfl) (by kernel_rfl) (by rw [hr5]; exact run_alW (by kernel_rfl)) Sr5.P ?_)
      obtain ⟨XX, hXX⟩ : ∃ X : Nat, X = r4.heap.size := ⟨_, rfl⟩
      have Ar5 : CF r5 XX zWv := by rw [hr5, hXX]; exact CF.made r4 #[.slice none 0 0, .string ⟨#[]⟩, .int .i64 0, .bool false, .int .i64 0, .int .i64 0, .int .i64 0, .int .i64 0, .slice none 0 0, .slice none 0 0, .slice none 0 0, .slice none 0 0, .slice none 0 0, .slice none 0 0, .slice none 0 0, .slice none 0 0, .string ⟨#[]⟩] 55
      have zAr5 : XX < r5.heap.size := by omega
      rw [← hXX]
      clear hr5 hbr5
      obtain ⟨uz, huz⟩ : ∃ V, V = r5.setCells XX 0 (wvs (.slice va ts.length vc) key (worldB wk ts.length) bh nilV) := ⟨_, rfl⟩
      have gz : r5.grownBy uz (some XX) := by rw [huz]; exact grown_setCells _ _ _ _ _ (World.grownBy.refl _ _)
      have Sz := Sr5.grown gz (fun q hq => by injection hq with hq; have := Sr0.z; omega)
      have pne : PlanQ (.slice va ts.length vc) ts vs (fun q => q ≠ XX) := pq.out.imp (fun q hq => by omega)
      have bne : BossQ (worldB wk ts.length) bh (fun q => q ≠ XX) := fun r hr q hq => by have h5 := bq.out r hr q hq; omega
      have HR := hid (show NwM w a n c ts key (worldB wk ts.length) XX (.slice va ts.length vc) vs bh 0 nilV uz from {
        S := Sz
        X0 := ⟨by have := Sr0.z; omega, Nat.lt_of_lt_of_le zAr5 gz.size⟩
        box := by rw [huz]; exact Ar5.stored (by rw [wvs_length]; rfl)
        pl := (plr5.byQ ⟨fun q hq => gz.block q (plr5.row.row_hi q hq) (by simp; exact pne.1 q hq), fun i hi q hq => gz.block q ((plr5.dep i hi).row_hi q hq) (by simp; exact pne.2 i hi q hq)⟩).mono (by have := Sr0.z; omega)
        bo := (bor5.blk (fun r hr q hq => gz.block q (bor5.lo r hr q hq).2 (by simp; exact bne r hr q hq))).mono (by have := Sr0.z; omega)
        pq := pne
        bq := bne
        cr := Own.nil _ _ _
        cx := fun q hq => by cases hq
        d1 := fun r hr => ⟨Dn.later (m := r2.heap.size) (fun q hq => by have h5 := pq.out.1 q hq; omega) (fun q hq => by have h5 := bq.out r hr q hq; omega), fun i hi => Dn.later (m := r2.heap.size) (fun q hq => by have h5 := pq.out.2 i hi q hq; omega) (fun q hq => by have h5 := bq.out r hr q hq; omega)⟩
        d2 := ⟨Dn.symm (.inl rfl), fun i hi => Dn.symm (.inl rfl)⟩
        d3 := fun r hr => Dn.symm (.inl rfl) })
      refine hOne (by kernel_rfl) (hSkip (i := 9) (w' := uz) (l' := #[true, true, true, true, true, true, true, true, true, true]) rfl (by kernel_rfl) (by kernel_rfl) (by kernel_rfl) (by rw [huz]; exact run_stT 55 zWv (wvs (.slice va ts.length vc) key (worldB wk ts.length) bh (.slice none 0 0)) (.tmp 7) (.tmp 30) (by kernel_rfl) (by kernel_rfl) (Eq.trans (b := V30) (by kernel_rfl) HV30.out) Ar5 (by rw [wvs_length]; rfl) (by rw [wvs_length]; exact Tryz.sizeWo) (wvs_one _ _ _ _ _ _ _ _ _)) Sz.P ?_)
      refine wpAnyH_done (by kernel_rfl) ?_ _
      clear huz gz Sz pne bne
      try clear HV30
      try clear HV29
      try clear zAr5
      try clear Ar5
      try clear bor5
      try clear plr5
      try clear zr5
      try clear Sr5
      try clear zAr4
      try clear Ar4
      try clear bor4
      try clear plr4
      try clear zr4
      try clear Sr4
      try clear zAr3
      try clear Ar3
      try clear bor3
      try clear plr3
      try clear zr3
      try clear Sr3
      try clear zAr2
      try clear Ar2
      try clear bor2
      try clear plr2
      try clear zr2
      try clear Sr2
      try clear zAr1
      try clear Ar1
      try clear bor1
      try clear plr1
      try clear zr1
      try clear Sr1
      try clear zAr0
      try clear Ar0
      try clear bor0
      try clear plr0
      try clear zr0
      try clear Sr0
      try clear bq
      try clear pq
      try clear hXX
      try clear HDO
      try clear HC
      try clear HL
      try clear h
      try clear hn
      try clear hky
      go_wp2
      go_loopw [32] (fun i wr => ∃ k : Nat, k ≤ nw ∧ i = .int .i64 k ∧ ∃ vW, NwM w a n c ts key (worldB wk ts.length) XX (.slice va ts.length vc) vs bh k vW wr) (fun i _ => nw - (intOf i).toNat)
      case atStart => exact ⟨0, Nat.zero_le _, rfl, nilV, HR.out⟩
      case round =>
        clear HR
        obtain ⟨k, hk, rfl, vW, S⟩ := hrel
        by_cases hlt : k < nw
        · have hlt' : (k : Int) < wk := by rw [HNW.out]; omega
          obtain ⟨aW, cW, hvw⟩ := S.cr.slc
          subst hvw
          have y14 : wr.cell? ⟨XX, 14, none⟩ = some (.slice aW k cW) := (S.box 14 (by rw [wvs_length]; omega)).1
          have hX := S.X0
          obtain ⟨U, hU⟩ : ∃ U, U = wr.alloc (.cells #[.int .i64 ((k : Int) + 1), .int .i64 1, .bool true, .int .i64 0, .int .i64 0, .int .i64 0, .int .i64 0, .int .i64 0, .slice none 0 0, .string ⟨#[]⟩, .int .i64 3] 96) := ⟨_, rfl⟩
          have bU : Below wr.heap.size wr U := by rw [hU]; exact (Below.refl _ _).alloc (Nat.le_refl _) _
          have zU : U.heap.size = wr.heap.size + 1 := by rw [hU]; simp
          have own1 : Own (w.heap.size + 2) U 11 (.slice (some ⟨wr.heap.size, 0, none⟩) 1 1) 1 (wcell k) := by
            rw [hU]; exact .inr ⟨_, 0, 1, rfl, OwnC.made wr (w.heap.size + 2) 96 11 1 1 _ 11 (by omega) (Nat.le_refl _) (by unfold maxLen; omega) rfl (Nat.le_refl _) _ rfl _ (.inl rfl)⟩
          have src1 : Src Tryz.prog 11 52 _ 1 _ U := own1.src Tryz.underlying52 (by intro x hx; simp only [wcell, List.mem_cons, List.not_mem_nil, or_false] at hx; rcases hx with rfl | rfl | rfl | rfl | rfl | rfl | rfl | rfl | rfl | rfl | rfl <;> rfl)
          have crU := S.cr.below bU (Nat.le_refl _)
          have boxU := S.box.block (bU.block XX hX.2)
          have hrow := S.cr.row_lo
          have HS := hid S
          clear S
          go_wp2_with (at_builtin; rw [← hU]; refine wpList_append_c _ rfl _ _ 52 52 rfl (w.heap.size + 2) 96 iW (.agg #[.int .i64 0, .int .i64 0, .bool false, .int .i64 0, .int .i64 0, .int .i64 0, .int .i64 0, .int .i64 0, .slice none 0 0, .string ⟨#[]⟩, .int .i64 0]) 11 112 Tryz.underlying52 hiW hW0 hW1 hW2 rfl _ k _ rfl crU _ 1 _ rfl src1 (by unfold maxLen; omega) (by omega) (by omega) ?_; intro v' w6 hown' hgrow hblk; have box6 := boxU.block (hgrow.block XX (by omega) (fun e => HS.out.cx _ e.symm rfl)); have k14 : w6.cell? ⟨XX, 14, none⟩ = some (.slice aW k cW) := (box6 14 (by rw [wvs_length]; omega)).1; have f14 : w6.frozen? ⟨XX, 14, none⟩ = false := (box6 14 (by rw [wvs_length]; omega)).2; obtain ⟨aW', cW', rfl⟩ := hown'.slc)
          clear k14 f14 y14
          have gs := gset (World.grownBy.refl w6 (some XX)) 14 (.slice aW' (k + 1) cW')
          have hS := HS.out
          have zg := hgrow.size
          have cx' : ∀ q, (Value.slice aW' (k + 1) cW').ownBlock = some q → q ≠ XX := fun q hq => by
            rcases hblk with h5 | h5
            · rw [h5] at hq; exact hS.cx q hq
            · rw [h5] at hq; injection hq with hq; omega
          have ne : ∀ x : Option Nat, (∀ q, x = some q → q ≠ XX) → Dn x (some XX) := fun x hx => by
            cases x with
            | none => exact .inl rfl
            | some q => exact .inr (by simp; exact hx q rfl)
          go_roundw
          case rel =>
            refine ⟨k + 1, by omega, by go_num, .slice aW' (k + 1) cW', ?_⟩
            exact {
              S := ((hS.S.below bU).grown hgrow (fun q hq => hrow q hq)).grown gs (fun q hq => by injection hq with hq; omega)
              X0 := ⟨hX.1, by have := gs.size; omega⟩
              box := box6.set (j := 14) (by rw [wvs_length]; omega) (.slice aW' (k + 1) cW')
              pl := ((hS.pl.below bU).grown hgrow hS.d2.1 hS.d2.2).grown gs (ne _ hS.pq.1) (fun i hi => ne _ (hS.pq.2 i hi))
              bo := ((hS.bo.below bU).blk (fun r hr q hq => hgrow.block q (by have := (hS.bo.lo r hr q hq).2; omega) (fun e => by
                rcases hS.d3 r hr with h5 | h5
                · rw [h5] at hq; cases hq
                · exact h5 (hq.trans e)))).blk (fun r hr q hq => gs.block q (by have := (hS.bo.lo r hr q hq).2; omega) (by simp; exact hS.bq r hr q hq))
              pq := hS.pq
              bq := hS.bq
              cr := by rw [crewC_snoc]; exact hown'.grown gs (ne _ cx')
              cx := cx'
              d1 := hS.d1
              d2 := by
                rcases hblk with h5 | h5
                · rw [h5]; exact hS.d2
                · have hq := hS.pl.q
                  exact ⟨Dn.later (fun q h1 => (hq.1 q h1).2) (fun q h1 => by rw [h5] at h1; injection h1 with h1; omega), fun i hi => Dn.later (fun q h1 => (hq.2 i hi q h1).2) (fun q h1 => by rw [h5] at h1; injection h1 with h1; omega)⟩
              d3 := fun r hr => by
                rcases hblk with h5 | h5
                · rw [h5]; exact hS.d3 r hr
                · exact Dn.later (fun q h1 => (hS.bo.lo r hr q h1).2) (fun q h1 => by rw [h5] at h1; injection h1 with h1; omega) }
          case measure => simp [intOf]; omega
        · obtain rfl : k = nw := by omega
          have hlt' : ¬ ((k : Int) < wk) := by rw [HNW.out]; omega
          obtain ⟨aW, cW, hvw⟩ := S.cr.slc
          subst hvw
          have BX : CF wr XX (wvs (.slice va ts.length vc) key (worldB wk ts.length) bh (.slice aW k cW)) := S.box
          obtain ⟨cs, hcs⟩ : ∃ cs, cs = wvs (.slice va ts.length vc) key (worldB wk ts.length) bh (.slice aW k cW) := ⟨_, rfl⟩
          rw [← hcs] at BX
          have HCS := hid hcs
          have hcl : cs.length = 17 := by rw [hcs]; exact wvs_length _ _ _ _ _
          have HCL := hid hcl
          have hcsz : (Tryz.prog.info? 55).map (·.size) = some cs.length := by rw [hcl]; exact Tryz.sizeWo
          have HSZ := hid hcsz
          clear hcs hcl hcsz
          have R1 : CF wr (w.heap.size + 1) zWv := S.S.R
          have ONE := hid (show ∀ v ∈ cs, v.oneCell' = true by rw [HCS.out]; exact wvs_one va ts.length vc key (worldB wk ts.length) bh aW k cW)
          have HS := hid S
          clear S
          go_wp2_with (first | (refine wpList_load_cfN rfl 55 _ rfl XX cs _ rfl BX Tryz.underlying55 rfl HSZ.out ?_) | (refine wpList_store_cf rfl 55 (.tmp 6) (.tmp 44) rfl (w.heap.size + 1) zWv cs rfl rfl R1 HCL.out.symm HSZ.out ONE.out ?_; intro w10 hc10 hg10))
          have hS := HS.out
          have hz := hS.S.z
          have keep : ∀ q, w.heap.size + 2 ≤ q → q < wr.heap.size → w10.heap[q]? = wr.heap[q]? := fun q h1 h2 => hg10.block q h2 (by simp; omega)
          exact bodyPost_ret (v := .agg cs.toArray) (results_cf 55 _ 6 Tryz.results17 rfl hc10 Tryz.underlying55 rfl HSZ.out) rfl ⟨⟨ts, key, (worldB wk ts.length), k, .slice va ts.length vc, vs, bh, .slice aW k cW, by rw [HCS.out], {
            pl := (hS.pl.blk keep).mono (by omega)
            bo := (hS.bo.blk (fun r hr q hq => keep q (hS.bo.lo r hr q hq).1 (hS.bo.lo r hr q hq).2)).mono (by omega)
            cr := (hS.cr.blkP (fun q hq => keep q (hS.cr.row_lo q hq) (hS.cr.row_hi q hq))).mono' (by omega)
            d1 := hS.d1
            d2 := hS.d2
            d3 := hS.d3 }, .inl ⟨HOK.out, rfl, rfl, rfl, HNW0.out⟩⟩, below_grown hS.S.B hg10 hS.S.B.size (fun q hq => by injection hq with hq; omega)⟩
    · obtain ⟨XX, hXX⟩ : ∃ X : Nat, X = r2.heap.size := ⟨_, rfl⟩
      have Ar3 : CF r3 XX zWv := by rw [hr3, hXX]; exact CF.made r2 #[.slice none 0 0, .string ⟨#[]⟩, .int .i64 0, .bool false, .int .i64 0, .int .i64 0, .int .i64 0, .int .i64 0, .slice none 0 0, .slice none 0 0, .slice none 0 0, .slice none 0 0, .slice none 0 0, .slice none 0 0, .slice none 0 0, .slice none 0 0, .string ⟨#[]⟩] 55
      have zAr3 : XX < r3.heap.size := by omega
      rw [← hXX]
      clear hr3 hbr3
      refine hOne (by kernel_rfl) (hCall (i := 6) (d := some 29) (f := 10) (args := #[.agg #[.int .i64 wk, .bool false, .int .i64 0, .int .i64 0, .int .i64 0, .int .i64 0, .slice none 0 0, .slice none 0 0, .slice none 0 0, .slice none 0 0, .slice none 0 0, .slice none 0 0], .agg #[.slice a n c]]) (l' := #[true, true, true, true, true, true, true, false, true, false]) (R := fun v w' => ∃ bh, v = .agg (bvs (worldB wk ts.length) bh).toArray ∧ BossO w' r3.heap.size (worldB wk ts.length) bh ∧ Below r3.heap.size r3 w') rfl (by kernel_rfl) (by kernel_rfl) (by kernel_rfl) (run_cl2 _ _ _ rfl (by kernel_rfl) (by kernel_rfl) rfl enter_iRi) ((iRiseB_any (newD wk) nilH a b o n c ts _ (newD_M _ wk) (h.below' Sr3.B) (newD_small wk)).mono fun _ _ ⟨⟨d', ⟨bh, he, ho⟩, hr⟩, hb⟩ => by rcases hr with ⟨_, hr⟩ | ⟨hr, _⟩; exact (by have e := rise_new hr; subst e; exact ⟨_, he, bh, rfl, ho, hb⟩); exact absurd HDO.out hr) ?_)
      rintro v29 r6 ⟨bh, hv29, hbo, hbr6⟩
      have Sr6 := Sr3.below hbr6
      have zr6 : r3.heap.size ≤ r6.heap.size := hbr6.size
      have plr6 := plr3.below hbr6
      have bor6 := hbo
      have bq := hid (hbo.lo)
      have HV29 := hid hv29
      clear hbo hv29
      have Ar6 := Ar3.block (hbr6.block XX (by omega))
      have zAr6 : XX < r6.heap.size := by omega
      clear hbr6
      refine ⟨Sr6.P, ?_⟩
      obtain ⟨V30, hV30⟩ : ∃ V : Value, V = .agg (wvs (.slice va ts.length vc) key (worldB wk ts.length) bh (.slice none 0 0)).toArray := ⟨_, rfl⟩
      have HV30 := hid hV30
      clear hV30
      refine hTake (i := 7) (d := some 30) (v := V30) (l' := #[true, true, true, true, true, true, true, true, true, false]) rfl (by kernel_rfl) (by kernel_rfl) (by kernel_rfl) (by kernel_rfl) (fun _ _ _ h => h) (by kernel_rfl) (fun _ hc => by rw [HV30.out]; exact run_bWo (.tmp 24) (.tmp 25) (.tmp 29) va ts.length vc key (worldB wk ts.length) bh (by kernel_rfl) (by kernel_rfl) (by kernel_rfl) (Eq.trans (b := v29) (by kernel_rfl) HV29.out)) Sr6.P (by kernel_rfl) ?_
      obtain ⟨uz, huz⟩ : ∃ V, V = r6.setCells XX 0 (wvs (.slice va ts.length vc) key (worldB wk ts.length) bh nilV) := ⟨_, rfl⟩
      have gz : r6.grownBy uz (some XX) := by rw [huz]; exact grown_setCells _ _ _ _ _ (World.grownBy.refl _ _)
      have Sz := Sr6.grown gz (fun q hq => by injection hq with hq; have := Sr0.z; omega)
      have pne : PlanQ (.slice va ts.length vc) ts vs (fun q => q ≠ XX) := pq.out.imp (fun q hq => by omega)
      have bne : BossQ (worldB wk ts.length) bh (fun q => q ≠ XX) := fun r hr q hq => by have h5 := bq.out r hr q hq; omega
      have HR := hid (show NwM w a n c ts key (worldB wk ts.length) XX (.slice va ts.length vc) vs bh 0 nilV uz from {
        S := Sz
        X0 := ⟨by have := Sr0.z; omega, Nat.lt_of_lt_of_le zAr6 gz.size⟩
        box := by rw [huz]; exact Ar6.stored (by rw [wvs_length]; rfl)
        pl := (plr6.byQ ⟨fun q hq => gz.block q (plr6.row.row_hi q hq) (by simp; exact pne.1 q hq), fun i hi q hq => gz.block q ((plr6.dep i hi).row_hi q hq) (by simp; exact pne.2 i hi q hq)⟩).mono (by have := Sr0.z; omega)
        bo := (bor6.blk (fun r hr q hq => gz.block q (bor6.lo r hr q hq).2 (by simp; exact bne r hr q hq))).mono (by have := Sr0.z; omega)
        pq := pne
        bq := bne
        cr := Own.nil _ _ _
        cx := fun q hq => by cases hq
        d1 := fun r hr => ⟨Dn.later (m := r3.heap.size) (fun q hq => by have h5 := pq.out.1 q hq; omega) (fun q hq => by have h5 := bq.out r hr q hq; omega), fun i hi => Dn.later (m := r3.heap.size) (fun q hq => by have h5 := pq.out.2 i hi q hq; omega) (fun q hq => by have h5 := bq.out r hr q hq; omega)⟩
        d2 := ⟨Dn.symm (.inl rfl), fun i hi => Dn.symm (.inl rfl)⟩
        d3 := fun r hr => Dn.symm (.inl rfl) })
      refine hOne (by kernel_rfl) (hSkip (i := 9) (w' := uz) (l' := #[true, true, true, true, true, true, true, true, true, true]) rfl (by kernel_rfl) (by kernel_rfl) (by kernel_rfl) (by rw [huz]; exact run_stT 55 zWv (wvs (.slice va ts.length vc) key (worldB wk ts.length) bh (.slice none 0 0)) (.tmp 7) (.tmp 30) (by kernel_rfl) (by kernel_rfl) (Eq.trans (b := V30) (by kernel_rfl) HV30.out) Ar6 (by rw [wvs_length]; rfl) (by rw [wvs_length]; exact Tryz.sizeWo) (wvs_one _ _ _ _ _ _ _ _ _)) Sz.P ?_)
      refine wpAnyH_done (by kernel_rfl) ?_ _
      clear huz gz Sz pne bne
      try clear HV30
      try clear HV29
      try clear zAr6
      try clear Ar6
      try clear bor6
      try clear plr6
      try clear zr6
      try clear Sr6
      try clear zAr5
      try clear Ar5
      try clear bor5
      try clear plr5
      try clear zr5
      try clear Sr5
      try clear zAr4
      try clear Ar4
      try clear bor4
      try clear plr4
      try clear zr4
      try clear Sr4
      try clear zAr3
      try clear Ar3
      try clear bor3
      try clear plr3
      try clear zr3
      try clear Sr3
      try clear zAr2
      try clear Ar2
      try clear bor2
      try clear plr2
      try clear zr2
      try clear Sr2
      try clear zAr1
      try clear Ar1
      try clear bor1
      try clear plr1
      try clear zr1
      try clear Sr1
      try clear zAr0
      try clear Ar0
      try clear bor0
      try clear plr0
      try clear zr0
      try clear Sr0
      try clear bq
      try clear pq
      try clear hXX
      try clear HDO
      try clear HC
      try clear HL
      try clear h
      try clear hn
      try clear hky
      go_wp2
      go_loopw [32] (fun i wr => ∃ k : Nat, k ≤ nw ∧ i = .int .i64 k ∧ ∃ vW, NwM w a n c ts key (worldB wk ts.length) XX (.slice va ts.length vc) vs bh k vW wr) (fun i _ => nw - (intOf i).toNat)
      case atStart => exact ⟨0, Nat.zero_le _, rfl, nilV, HR.out⟩
      case round =>
        clear HR
        obtain ⟨k, hk, rfl, vW, S⟩ := hrel
        by_cases hlt : k < nw
        · have hlt' : (k : Int) < wk := by rw [HNW.out]; omega
          obtain ⟨aW, cW, hvw⟩ := S.cr.slc
          subst hvw
          have y14 : wr.cell? ⟨XX, 14, none⟩ = some (.slice aW k cW) := (S.box 14 (by rw [wvs_length]; omega)).1
          have hX := S.X0
          obtain ⟨U, hU⟩ : ∃ U, U = wr.alloc (.cells #[.int .i64 ((k : Int) + 1), .int .i64 1, .bool true, .int .i64 0, .int .i64 0, .int .i64 0, .int .i64 0, .int .i64 0, .slice none 0 0, .string ⟨#[]⟩, .int .i64 3] 96) := ⟨_, rfl⟩
          have bU : Below wr.heap.size wr U := by rw [hU]; exact (Below.refl _ _).alloc (Nat.le_refl _) _
          have zU : U.heap.size = wr.heap.size + 1 := by rw [hU]; simp
          have own1 : Own (w.heap.size + 2) U 11 (.slice (some ⟨wr.heap.size, 0, none⟩) 1 1) 1 (wcell k) := by
            rw [hU]; exact .inr ⟨_, 0, 1, rfl, OwnC.made wr (w.heap.size + 2) 96 11 1 1 _ 11 (by omega) (Nat.le_refl _) (by unfold maxLen; omega) rfl (Nat.le_refl _) _ rfl _ (.inl rfl)⟩
          have src1 : Src Tryz.prog 11 52 _ 1 _ U := own1.src Tryz.underlying52 (by intro x hx; simp only [wcell, List.mem_cons, List.not_mem_nil, or_false] at hx; rcases hx with rfl | rfl | rfl | rfl | rfl | rfl | rfl | rfl | rfl | rfl | rfl <;> rfl)
          have crU := S.cr.below bU (Nat.le_refl _)
          have boxU := S.box.block (bU.block XX hX.2)
          have hrow := S.cr.row_lo
          have HS := hid S
          clear S
          go_wp2_with (at_builtin; rw [← hU]; refine wpList_append_c _ rfl _ _ 52 52 rfl (w.heap.size + 2) 96 iW (.agg #[.int .i64 0, .int .i64 0, .bool false, .int .i64 0, .int .i64 0, .int .i64 0, .int .i64 0, .int .i64 0, .slice none 0 0, .string ⟨#[]⟩, .int .i64 0]) 11 112 Tryz.underlying52 hiW hW0 hW1 hW2 rfl _ k _ rfl crU _ 1 _ rfl src1 (by unfold maxLen; omega) (by omega) (by omega) ?_; intro v' w6 hown' hgrow hblk; have box6 := boxU.block (hgrow.block XX (by omega) (fun e => HS.out.cx _ e.symm rfl)); have k14 : w6.cell? ⟨XX, 14, none⟩ = some (.slice aW k cW) := (box6 14 (by rw [wvs_length]; omega)).1; have f14 : w6.frozen? ⟨XX, 14, none⟩ = false := (box6 14 (by rw [wvs_length]; omega)).2; obtain ⟨aW', cW', rfl⟩ := hown'.slc)
          clear k14 f14 y14
          have gs := gset (World.grownBy.refl w6 (some XX)) 14 (.slice aW' (k + 1) cW')
          have hS := HS.out
          have zg := hgrow.size
          have cx' : ∀ q, (Value.slice aW' (k + 1) cW').ownBlock = some q → q ≠ XX := fun q hq => by
            rcases hblk with h5 | h5
            · rw [h5] at hq; exact hS.cx q hq
            · rw [h5] at hq; injection hq with hq; omega
          have ne : ∀ x : Option Nat, (∀ q, x = some q → q ≠ XX) → Dn x (some XX) := fun x hx => by
            cases x with
            | none => exact .inl rfl
            | some q => exact .inr (by simp; exact hx q rfl)
          go_roundw
          case rel =>
            refine ⟨k + 1, by omega, by go_num, .slice aW' (k + 1) cW', ?_⟩
            exact {
              S := ((hS.S.below bU).grown hgrow (fun q hq => hrow q hq)).grown gs (fun q hq => by injection hq with hq; omega)
              X0 := ⟨hX.1, by have := gs.size; omega⟩
              box := box6.set (j := 14) (by rw [wvs_length]; omega) (.slice aW' (k + 1) cW')
              pl := ((hS.pl.below bU).grown hgrow hS.d2.1 hS.d2.2).grown gs (ne _ hS.pq.1) (fun i hi => ne _ (hS.pq.2 i hi))
              bo := ((hS.bo.below bU).blk (fun r hr q hq => hgrow.block q (by have := (hS.bo.lo r hr q hq).2; omega) (fun e => by
                rcases hS.d3 r hr with h5 | h5
                · rw [h5] at hq; cases hq
                · exact h5 (hq.trans e)))).blk (fun r hr q hq => gs.block q (by have := (hS.bo.lo r hr q hq).2; omega) (by simp; exact hS.bq r hr q hq))
              pq := hS.pq
              bq := hS.bq
              cr := by rw [crewC_snoc]; exact hown'.grown gs (ne _ cx')
              cx := cx'
              d1 := hS.d1
              d2 := by
                rcases hblk with h5 | h5
                · rw [h5]; exact hS.d2
                · have hq := hS.pl.q
                  exact ⟨Dn.later (fun q h1 => (hq.1 q h1).2) (fun q h1 => by rw [h5] at h1; injection h1 with h1; omega), fun i hi => Dn.later (fun q h1 => (hq.2 i hi q h1).2) (fun q h1 => by rw [h5] at h1; injection h1 with h1; omega)⟩
              d3 := fun r hr => by
                rcases hblk with h5 | h5
                · rw [h5]; exact hS.d3 r hr
                · exact Dn.later (fun q h1 => (hS.bo.lo r hr q h1).2) (fun q h1 => by rw [h5] at h1; injection h1 with h1; omega) }
          case measure => simp [intOf]; omega
        · obtain rfl : k = nw := by omega
          have hlt' : ¬ ((k : Int) < wk) := by rw [HNW.out]; omega
          obtain ⟨aW, cW, hvw⟩ := S.cr.slc
          subst hvw
          have BX : CF wr XX (wvs (.slice va ts.length vc) key (worldB wk ts.length) bh (.slice aW k cW)) := S.box
          obtain ⟨cs, hcs⟩ : ∃ cs, cs = wvs (.slice va ts.length vc) key (worldB wk ts.length) bh (.slice aW k cW) := ⟨_, rfl⟩
          rw [← hcs] at BX
          have HCS := hid hcs
          have hcl : cs.length = 17 := by rw [hcs]; exact wvs_length _ _ _ _ _
          have HCL := hid hcl
          have hcsz : (Tryz.prog.info? 55).map (·.size) = some cs.length := by rw [hcl]; exact Tryz.sizeWo
          have HSZ := hid hcsz
          clear hcs hcl hcsz
          have R1 : CF wr (w.heap.size + 1) zWv := S.S.R
          have ONE := hid (show ∀ v ∈ cs, v.oneCell' = true by rw [HCS.out]; exact wvs_one va ts.length vc key (worldB wk ts.length) bh aW k cW)
          have HS := hid S
          clear S
          go_wp2_with (first | (refine wpList_load_cfN rfl 55 _ rfl XX cs _ rfl BX Tryz.underlying55 rfl HSZ.out ?_) | (refine wpList_store_cf rfl 55 (.tmp 6) (.tmp 44) rfl (w.heap.size + 1) zWv cs rfl rfl R1 HCL.out.symm HSZ.out ONE.out ?_; intro w10 hc10 hg10))
          have hS := HS.out
          have hz := hS.S.z
          have keep : ∀ q, w.heap.size + 2 ≤ q → q < wr.heap.size → w10.heap[q]? = wr.heap[q]? := fun q h1 h2 => hg10.block q h2 (by simp; omega)
          exact bodyPost_ret (v := .agg cs.toArray) (results_cf 55 _ 6 Tryz.results17 rfl hc10 Tryz.underlying55 rfl HSZ.out) rfl ⟨⟨ts, key, (worldB wk ts.length), k, .slice va ts.length vc, vs, bh, .slice aW k cW, by rw [HCS.out], {
            pl := (hS.pl.blk keep).mono (by omega)
            bo := (hS.bo.blk (fun r hr q hq => keep q (hS.bo.lo r hr q hq).1 (hS.bo.lo r hr q hq).2)).mono (by omega)
            cr := (hS.cr.blkP (fun q hq => keep q (hS.cr.row_lo q hq) (hS.cr.row_hi q hq))).mono' (by omega)
            d1 := hS.d1
            d2 := hS.d2
            d3 := hS.d3 }, .inl ⟨HOK.out, rfl, rfl, rfl, HNW0.out⟩⟩, below_grown hS.S.B hg10 hS.S.B.size (fun q hq => by injection hq with hq; omega)⟩
  · obtain ⟨XX, hXX⟩ : ∃ X : Nat, X = r0.heap.size := ⟨_, rfl⟩
    have Ar1 : CF r1 XX zWv := by rw [hr1, hXX]; exact CF.made r0 #[.slice none 0 0, .string ⟨#[]⟩, .int .i64 0, .bool false, .int .i64 0, .int .i64 0, .int .i64 0, .int .i64 0, .slice none 0 0, .slice none 0 0, .slice none 0 0, .slice none 0 0, .slice none 0 0, .slice none 0 0, .slice none 0 0, .slice none 0 0, .string ⟨#[]⟩] 55
    have zAr1 : XX < r1.heap.size := by omega
    rw [← hXX]
    clear hr1 hbr1
    refine hOne (by kernel_rfl) (hCall (i := 1) (d := some 24) (f := 62) (args := #[.agg #[.slice a n c]]) (l' := #[true, true, true, true, true, true, false, false, true, false]) (R := fun v w' => ∃ va vc vs, v = .agg #[.slice va ts.length vc] ∧ PlanO w' r1.heap.size (.slice va ts.length vc) ts vs ∧ Below r1.heap.size r1 w') rfl (by kernel_rfl) (by kernel_rfl) (by kernel_rfl) (run_cl1 _ _ rfl (by kernel_rfl) rfl enter_iCp) ((copyPlan_any a b o n c ts _ (h.below' Sr1.B) hn).mono fun _ _ ⟨⟨v, vs, he, hp⟩, hb⟩ => by obtain ⟨va, vc, rfl⟩ := hp.row.slc; exact ⟨_, he, va, vc, vs, rfl, hp, hb⟩) ?_)
    rintro _ r7 ⟨va, vc, vs, rfl, hpl, hbr7⟩
    have Sr7 := Sr1.below hbr7
    have zr7 : r1.heap.size ≤ r7.heap.size := hbr7.size
    have plr7 := hpl
    have pq := hid (hpl.q)
    clear hpl
    have Ar7 := Ar1.block (hbr7.block XX (by omega))
    have zAr7 : XX < r7.heap.size := by omega
    clear hbr7
    refine ⟨Sr7.P, ?_⟩
    refine hOne (by kernel_rfl) (hCall (i := 6) (d := some 29) (f := 10) (args := #[.agg #[.int .i64 wk, .bool false, .int .i64 0, .int .i64 0, .int .i64 0, .int .i64 0, .slice none 0 0, .slice none 0 0, .slice none 0 0, .slice none 0 0, .slice none 0 0, .slice none 0 0], .agg #[.slice a n c]]) (l' := #[true, true, true, true, true, true, true, false, true, false]) (R := fun v w' => ∃ bh, v = .agg (bvs (worldB wk ts.length) bh).toArray ∧ BossO w' r7.heap.size (worldB wk ts.length) bh ∧ Below r7.heap.size r7 w') rfl (by kernel_rfl) (by kernel_rfl) (by kernel_rfl) (run_cl2 _ _ _ rfl (by kernel_rfl) (by kernel_rfl) rfl enter_iRi) ((iRiseB_any (newD wk) nilH a b o n c ts _ (newD_M _ wk) (h.below' Sr7.B) (newD_small wk)).mono fun _ _ ⟨⟨d', ⟨bh, he, ho⟩, hr⟩, hb⟩ => by rcases hr with ⟨_, hr⟩ | ⟨hr, _⟩; exact (by have e := rise_new hr; subst e; exact ⟨_, he, bh, rfl, ho, hb⟩); exact absurd HDO.out hr) ?_)
    rintro v29 r8 ⟨bh, hv29, hbo, hbr8⟩
    have Sr8 := Sr7.below hbr8
    have zr8 : r7.heap.size ≤ r8.heap.size := hbr8.size
    have plr8 := plr7.below hbr8
    have bor8 := hbo
    have bq := hid (hbo.lo)
    have HV29 := hid hv29
    clear hbo hv29
    have Ar8 := Ar7.block (hbr8.block XX (by omega))
    have zAr8 : XX < r8.heap.size := by omega
    clear hbr8
    refine ⟨Sr8.P, ?_⟩
    obtain ⟨V30, hV30⟩ : ∃ V : Value, V = .agg (wvs (.slice va ts.length vc) key (worldB wk ts.length) bh (.slice none 0 0)).toArray := ⟨_, rfl⟩
    have HV30 := hid hV30
    clear hV30
    refine hTake (i := 7) (d := some 30) (v := V30) (l' := #[true, true, true, true, true, true, true, true, true, false]) rfl (by kernel_rfl) (by kernel_rfl) (by kernel_rfl) (by kernel_rfl) (fun _ _ _ h => h) (by kernel_rfl) (fun _ hc => by rw [HV30.out]; exact run_bWo (.tmp 24) (.tmp 25) (.tmp 29) va ts.length vc key (worldB wk ts.length) bh (by kernel_rfl) (by kernel_rfl) (by kernel_rfl) (Eq.trans (b := v29) (by kernel_rfl) HV29.out)) Sr8.P (by kernel_rfl) ?_
    obtain ⟨uz, huz⟩ : ∃ V, V = r8.setCells XX 0 (wvs (.slice va ts.length vc) key (worldB wk ts.length) bh nilV) := ⟨_, rfl⟩
    have gz : r8.grownBy uz (some XX) := by rw [huz]; exact grown_setCells _ _ _ _ _ (World.grownBy.refl _ _)
    have Sz := Sr8.grown gz (fun q hq => by injection hq with hq; have := Sr0.z; omega)
    have pne : PlanQ (.slice va ts.length vc) ts vs (fun q => q ≠ XX) := pq.out.imp (fun q hq => by omega)
    have bne : BossQ (worldB wk ts.length) bh (fun q => q ≠ XX) := fun r hr q hq => by have h5 := bq.out r hr q hq; omega
    have HR := hid (show NwM w a n c ts key (worldB wk ts.length) XX (.slice va ts.length vc) vs bh 0 nilV uz from {
      S := Sz
      X0 := ⟨by have := Sr0.z; omega, Nat.lt_of_lt_of_le zAr8 gz.size⟩
      box := by rw [huz]; exact Ar8.stored (by rw [wvs_length]; rfl)
      pl := (plr8.byQ ⟨fun q hq => gz.block q (plr8.row.row_hi q hq) (by simp; exact pne.1 q hq), fun i hi q hq => gz.block q ((plr8.dep i hi).row_hi q hq) (by simp; exact pne.2 i hi q hq)⟩).mono (by have := Sr0.z; omega)
      bo := (bor8.blk (fun r hr q hq => gz.block q (bor8.lo r hr q hq).2 (by simp; exact bne r hr q hq))).mono (by have := Sr0.z; omega)
      pq := pne
      bq := bne
      cr := Own.nil _ _ _
      cx := fun q hq => by cases hq
      d1 := fun r hr => ⟨Dn.later (m := r7.heap.size) (fun q hq => by have h5 := pq.out.1 q hq; omega) (fun q hq => by have h5 := bq.out r hr q hq; omega), fun i hi => Dn.later (m := r7.heap.size) (fun q hq => by have h5 := pq.out.2 i hi q hq; omega) (fun q hq => by have h5 := bq.out r hr q hq; omega)⟩
      d2 := ⟨Dn.symm (.inl rfl), fun i hi => Dn.symm (.inl rfl)⟩
      d3 := fun r hr => Dn.symm (.inl rfl) })
    refine hOne (by kernel_rfl) (hSkip (i := 9) (w' := uz) (l' := #[true, true, true, true, true, true, true, true, true, true]) rfl (by kernel_rfl) (by kernel_rfl) (by kernel_rfl) (by rw [huz]; exact run_stT 55 zWv (wvs (.slice va ts.length vc) key (worldB wk ts.length) bh (.slice none 0 0)) (.tmp 7) (.tmp 30) (by kernel_rfl) (by kernel_rfl) (Eq.trans (b := V30) (by kernel_rfl) HV30.out) Ar8 (by rw [wvs_length]; rfl) (by rw [wvs_length]; exact Tryz.sizeWo) (wvs_one _ _ _ _ _ _ _ _ _)) Sz.P ?_)
    refine wpAnyH_done (by kernel_rfl) ?_ _
    clear huz gz Sz pne bne
    try clear HV30
    try clear HV29
    try clear zAr8
    try clear Ar8
    try clear bor8
    try clear plr8
    try clear zr8
    try clear Sr8
    try clear zAr7
    try clear Ar7
    try clear bor7
    try clear plr7
    try clear zr7
    try clear Sr7
    try clear zAr6
    try clear Ar6
    try clear bor6
    try clear plr6
    try clear zr6
    try clear Sr6
    try clear zAr5
    try clear Ar5
    try clear bor5
    try clear plr5
    try clear zr5
    try clear Sr5
    try clear zAr4
    try clear Ar4
    try clear bor4
    try clear plr4
    try clear zr4
    try clear Sr4
    try clear zAr3
    try clear Ar3
    try clear bor3
    try clear plr3
    try clear zr3
    try clear Sr3
    try clear zAr2
    try clear Ar2
    try clear bor2
    try clear plr2
    try clear zr2
    try clear Sr2
    try clear zAr1
    try clear Ar1
    try clear bor1
    try clear plr1
    try clear zr1
    try clear Sr1
    try clear zAr0
    try clear Ar0
    try clear bor0
    try clear plr0
    try clear zr0
    try clear Sr0
    try clear bq
    try clear pq
    try clear hXX
    try clear HDO
    try clear HC
    try clear HL
    try clear h
    try clear hn
    try clear hky
    go_wp2
    go_loopw [32] (fun i wr => ∃ k : Nat, k ≤ nw ∧ i = .int .i64 k ∧ ∃ vW, NwM w a n c ts key (worldB wk ts.length) XX (.slice va ts.length vc) vs bh k vW wr) (fun i _ => nw - (intOf i).toNat)
    case atStart => exact ⟨0, Nat.zero_le _, rfl, nilV, HR.out⟩
    case round =>
      clear HR
      obtain ⟨k, hk, rfl, vW, S⟩ := hrel
      by_cases hlt : k < nw
      · have hlt' : (k : Int) < wk := by rw [HNW.out]; omega
        obtain ⟨aW, cW, hvw⟩ := S.cr.slc
        subst hvw
        have y14 : wr.cell? ⟨XX, 14, none⟩ = some (.slice aW k cW) := (S.box 14 (by rw [wvs_length]; omega)).1
        have hX := S.X0
        obtain ⟨U, hU⟩ : ∃ U, U = wr.alloc (.cells #[.int .i64 ((k : Int) + 1), .int .i64 1, .bool true, .int .i64 0, .int .i64 0, .int .i64 0, .int .i64 0, .int .i64 0, .slice none 0 0, .string ⟨#[]⟩, .int .i64 3] 96) := ⟨_, rfl⟩
        have bU : Below wr.heap.size wr U := by rw [hU]; exact (Below.refl _ _).alloc (Nat.le_refl _) _
        have zU : U.heap.size = wr.heap.size + 1 := by rw [hU]; simp
        have own1 : Own (w.heap.size + 2) U 11 (.slice (some ⟨wr.heap.size, 0, none⟩) 1 1) 1 (wcell k) := by
          rw [hU]; exact .inr ⟨_, 0, 1, rfl, OwnC.made wr (w.heap.size + 2) 96 11 1 1 _ 11 (by omega) (Nat.le_refl _) (by unfold maxLen; omega) rfl (Nat.le_refl _) _ rfl _ (.inl rfl)⟩
        have src1 : Src Tryz.prog 11 52 _ 1 _ U := own1.src Tryz.underlying52 (by intro x hx; simp only [wcell, List.mem_cons, List.not_mem_nil, or_false] at hx; rcases hx with rfl | rfl | rfl | rfl | rfl | rfl | rfl | rfl | rfl | rfl | rfl <;> rfl)
        have crU := S.cr.below bU (Nat.le_refl _)
        have boxU := S.box.block (bU.block XX hX.2)
        have hrow := S.cr.row_lo
        have HS := hid S
        clear S
        go_wp2_with (at_builtin; rw [← hU]; refine wpList_append_c _ rfl _ _ 52 52 rfl (w.heap.size + 2) 96 iW (.agg #[.int .i64 0, .int .i64 0, .bool false, .int .i64 0, .int .i64 0, .int .i64 0, .int .i64 0, .int .i64 0, .slice none 0 0, .string ⟨#[]⟩, .int .i64 0]) 11 112 Tryz.underlying52 hiW hW0 hW1 hW2 rfl _ k _ rfl crU _ 1 _ rfl src1 (by unfold maxLen; omega) (by omega) (by omega) ?_; intro v' w6 hown' hgrow hblk; have box6 := boxU.block (hgrow.block XX (by omega) (fun e => HS.out.cx _ e.symm rfl)); have k14 : w6.cell? ⟨XX, 14, none⟩ = some (.slice aW k cW) := (box6 14 (by rw [wvs_length]; omega)).1; have f14 : w6.frozen? ⟨XX, 14, none⟩ = false := (box6 14 (by rw [wvs_length]; omega)).2; obtain ⟨aW', cW', rfl⟩ := hown'.slc)
        clear k14 f14 y14
        have gs := gset (World.grownBy.refl w6 (some XX)) 14 (.slice aW' (k + 1) cW')
        have hS := HS.out
        have zg := hgrow.size
        have cx' : ∀ q, (Value.slice aW' (k + 1) cW').ownBlock = some q → q ≠ XX := fun q hq => by
          rcases hblk with h5 | h5
          · rw [h5] at hq; exact hS.cx q hq
          · rw [h5] at hq; injection hq with hq; omega
        have ne : ∀ x : Option Nat, (∀ q, x = some q → q ≠ XX) → Dn x (some XX) := fun x hx => by
          cases x with
          | none => exact .inl rfl
          | some q => exact .inr (by simp; exact hx q rfl)
        go_roundw
        case rel =>
          refine ⟨k + 1, by omega, by go_num, .slice aW' (k + 1) cW', ?_⟩
          exact {
            S := ((hS.S.below bU).grown hgrow (fun q hq => hrow q hq)).grown gs (fun q hq => by injection hq with hq; omega)
            X0 := ⟨hX.1, by have := gs.size; omega⟩
            box := box6.set (j := 14) (by rw [wvs_length]; omega) (.slice aW' (k + 1) cW')
            pl := ((hS.pl.below bU).grown hgrow hS.d2.1 hS.d2.2).grown gs (ne _ hS.pq.1) (fun i hi => ne _ (hS.pq.2 i hi))
            bo := ((hS.bo.below bU).blk (fun r hr q hq => hgrow.block q (by have := (hS.bo.lo r hr q hq).2; omega) (fun e => by
              rcases hS.d3 r hr with h5 | h5
              · rw [h5] at hq; cases hq
              · exact h5 (hq.trans e)))).blk (fun r hr q hq => gs.block q (by have := (hS.bo.lo r hr q hq).2; omega) (by simp; exact hS.bq r hr q hq))
            pq := hS.pq
            bq := hS.bq
            cr := by rw [crewC_snoc]; exact hown'.grown gs (ne _ cx')
            cx := cx'
            d1 := hS.d1
            d2 := by
              rcases hblk with h5 | h5
              · rw [h5]; exact hS.d2
              · have hq := hS.pl.q
                exact ⟨Dn.later (fun q h1 => (hq.1 q h1).2) (fun q h1 => by rw [h5] at h1; injection h1 with h1; omega), fun i hi => Dn.later (fun q h1 => (hq.2 i hi q h1).2) (fun q h1 => by rw [h5] at h1; injection h1 with h1; omega)⟩
            d3 := fun r hr => by
              rcases hblk with h5 | h5
              · rw [h5]; exact hS.d3 r hr
              · exact Dn.later (fun q h1 => (hS.bo.lo r hr q h1).2) (fun q h1 => by rw [h5] at h1; injection h1 with h1; omega) }
        case measure => simp [intOf]; omega
      · obtain rfl : k = nw := by omega
        have hlt' : ¬ ((k : Int) < wk) := by rw [HNW.out]; omega
        obtain ⟨aW, cW, hvw⟩ := S.cr.slc
        subst hvw
        have BX : CF wr XX (wvs (.slice va ts.length vc) key (worldB wk ts.length) bh (.slice aW k cW)) := S.box
        obtain ⟨cs, hcs⟩ : ∃ cs, cs = wvs (.slice va ts.length vc) key (worldB wk ts.length) bh (.slice aW k cW) := ⟨_, rfl⟩
        rw [← hcs] at BX
        have HCS := hid hcs
        have hcl : cs.length = 17 := by rw [hcs]; exact wvs_length _ _ _ _ _
        have HCL := hid hcl
        have hcsz : (Tryz.prog.info? 55).map (·.size) = some cs.length := by rw [hcl]; exact Tryz.sizeWo
        have HSZ := hid hcsz
        clear hcs hcl hcsz
        have R1 : CF wr (w.heap.size + 1) zWv := S.S.R
        have ONE := hid (show ∀ v ∈ cs, v.oneCell' = true by rw [HCS.out]; exact wvs_one va ts.length vc key (worldB wk ts.length) bh aW k cW)
        have HS := hid S
        clear S
        go_wp2_with (first | (refine wpList_load_cfN rfl 55 _ rfl XX cs _ rfl BX Tryz.underlying55 rfl HSZ.out ?_) | (refine wpList_store_cf rfl 55 (.tmp 6) (.tmp 44) rfl (w.heap.size + 1) zWv cs rfl rfl R1 HCL.out.symm HSZ.out ONE.out ?_; intro w10 hc10 hg10))
        have hS := HS.out
        have hz := hS.S.z
        have keep : ∀ q, w.heap.size + 2 ≤ q → q < wr.heap.size → w10.heap[q]? = wr.heap[q]? := fun q h1 h2 => hg10.block q h2 (by simp; omega)
        exact bodyPost_ret (v := .agg cs.toArray) (results_cf 55 _ 6 Tryz.results17 rfl hc10 Tryz.underlying55 rfl HSZ.out) rfl ⟨⟨ts, key, (worldB wk ts.length), k, .slice va ts.length vc, vs, bh, .slice aW k cW, by rw [HCS.out], {
          pl := (hS.pl.blk keep).mono (by omega)
          bo := (hS.bo.blk (fun r hr q hq => keep q (hS.bo.lo r hr q hq).1 (hS.bo.lo r hr q hq).2)).mono (by omega)
          cr := (hS.cr.blkP (fun q hq => keep q (hS.cr.row_lo q hq) (hS.cr.row_hi q hq))).mono' (by omega)
          d1 := hS.d1
          d2 := hS.d2
          d3 := hS.d3 }, .inl ⟨HOK.out, rfl, rfl, rfl, HNW0.out⟩⟩, below_grown hS.S.B hg10 hS.S.B.size (fun q hq => by injection hq with hq; omega)⟩
end Go.Proofs.YtbfamabkbkpmpaaGreat
