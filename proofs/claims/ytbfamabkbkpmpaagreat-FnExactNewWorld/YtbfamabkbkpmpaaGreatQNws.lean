import Derived.Test.YtbfamabkbkpmpaaGreatQNwh
import Derived.Test.YtbfamabkbkpmpaaGreatQNwi
namespace Go.Proofs.YtbfamabkbkpmpaaGreat
open Go.RowKit

theorem CF.storedIn {w : World} {p : Nat} {pre old post vs : List Value} (h : CF w p (pre ++ old ++ post)) (hl : old.length = vs.length) : CF (w.setCells p pre.length vs) p (pre ++ vs ++ post) := fun j hj => by
  have hlen : (pre ++ vs ++ post).length = (pre ++ old ++ post).length := by simp [hl]
  have hj' : j < (pre ++ old ++ post).length := by rw [← hlen]; exact hj
  obtain ⟨h1, h2⟩ := h j hj'
  refine ⟨?_, by rw [World.frozen?_setCells]; exact h2⟩
  by_cases a1 : j < pre.length
  · rw [World.cell?_setCells_out p vs pre.length w ⟨p, j, none⟩ (fun _ _ => .inl a1), h1]
    rw [List.getElem?_append_left (by rw [List.length_append]; omega), List.getElem?_append_left a1, List.getElem?_append_left (by rw [List.length_append]; omega), List.getElem?_append_left a1]
  · by_cases a2 : j < pre.length + vs.length
    · have hin := World.cell?_setCells_in p vs pre.length w (fun i hi => by
        obtain ⟨h3, _⟩ := h (pre.length + i) (by simp; omega)
        rw [h3, List.getElem?_eq_getElem (by simp; omega)]; rfl) (j - pre.length) (by omega)
      rw [show pre.length + (j - pre.length) = j by omega] at hin
      rw [hin, List.getElem?_append_left (by rw [List.length_append]; omega), List.getElem?_append_right (by omega), List.getElem?_eq_getElem (by omega)]
    · rw [World.cell?_setCells_out p vs pre.length w ⟨p, j, none⟩ (fun _ _ => .inr (by show pre.length + vs.length ≤ j; omega)), h1]
      rw [List.getElem?_append_right (by rw [List.length_append]; omega), List.getElem?_append_right (by rw [List.length_append]; omega)]
      simp [hl]
theorem wpList_store_in {P : Program} {ops : Array Oper} {rest : List Oper} {op : Oper} {a : Act} {w : World} {Q : Exit → Act → World → Prop} (hgd : op.guard = none) (ty : TypeId) (x y : Operand) (ho : op.op = .store ty x y)
    (p o : Nat) (pre old post vs : List Value) (hp : pre.length = o) (hx : a.eval x = .pointer (some ⟨p, o, none⟩)) (hy : a.eval y = .agg vs.toArray) (hc : CF w p (pre ++ old ++ post)) (hl : old.length = vs.length) (hi : (P.info? ty).map (·.size) = some vs.length) (h1 : ∀ v ∈ vs, v.oneCell' = true)
    (hK : ∀ W', CF W' p (pre ++ vs ++ post) → w.grownBy W' (some p) → wpList P ops Q rest (a.put op.dst undef) W') : wpList P ops Q (op :: rest) a w := by
  subst hp
  refine wpList_store_mid hgd ty x y ho p pre.length vs.toArray hx hy (fun i hi => ?_) (by simpa using hi) (all_oneCell_toArray h1) ?_
  · have hi' : i < old.length := by simpa [hl] using hi
    obtain ⟨h1, h2⟩ := hc (pre.length + i) (by simp; omega)
    exact ⟨by rw [h1, List.getElem?_eq_getElem (by simp; omega)]; rfl, h2⟩
  · exact hK _ (hc.storedIn hl) (grown_setCells p vs pre.length w w (World.grownBy.refl _ _))
end Go.Proofs.YtbfamabkbkpmpaaGreat

namespace Go.Proofs.YtbfamabkbkpmpaaGreat
open Go.RowKit

set_option maxHeartbeats 8000000 in
set_option maxRecDepth 100000 in
theorem sNew_any (a : Option Addr) (b o n c : Nat) (ts : List TaskD) (key : ByteArray) (wk : Int) (w : World) (h : TasksAt w a b o n ts) (hn : n + tssz ts ≤ 1048576) (hky : key.size ≤ 1048576) :
    Calls Tryz.prog 16 #[.agg #[.slice a n c], .string key, .int .i64 wk] w fun e w' => RetWo e w.heap.size w' (newR ts key wk) ∧ Below w.heap.size w w' := by
  obtain ⟨iW, hiW, hW0, hW1, hW2⟩ := info_parts Tryz.infoWr
  obtain ⟨W, hW⟩ : ∃ W, W = (w.alloc (.cells #[.slice a n c] 45)).alloc (.cells #[.slice none 0 0, .string ⟨#[]⟩, .int .i64 0, .bool false, .int .i64 0, .int .i64 0, .int .i64 0, .int .i64 0, .slice none 0 0, .slice none 0 0, .slice none 0 0, .slice none 0 0, .slice none 0 0, .slice none 0 0, .slice none 0 0, .slice none 0 0, .string ⟨#[]⟩] 55) := ⟨_, rfl⟩
  have S0 : NwSt w a n c W := by
    refine ⟨?_, ?_, ?_, by rw [hW]; simp⟩
    · rw [hW]; exact (CF.made w #[.slice a n c] 45).block (Below.heap_alloc _ _ _ (by simp))
    · rw [hW]
      have := CF.made (w.alloc (.cells #[.slice a n c] 45)) #[.slice none 0 0, .string ⟨#[]⟩, .int .i64 0, .bool false, .int .i64 0, .int .i64 0, .int .i64 0, .int .i64 0, .slice none 0 0, .slice none 0 0, .slice none 0 0, .slice none 0 0, .slice none 0 0, .slice none 0 0, .slice none 0 0, .slice none 0 0, .string ⟨#[]⟩] 55
      rw [World.size_alloc] at this
      exact this
    · rw [hW]; exact ((Below.refl _ _).alloc (Nat.le_refl _) _).alloc (by simp) _
  have HW := hid hW
  have HL := hid h.len
  have HZ : Hid (∀ wx, NwSt w a n c wx → ∀ wy, wx.grownBy wy (some (w.heap.size + 1)) → ¬ okW ts key wk → RetWo (.returned (.agg #[.slice none 0 0, .string ⟨#[]⟩, .int .i64 0, .bool false, .int .i64 0, .int .i64 0, .int .i64 0, .int .i64 0, .slice none 0 0, .slice none 0 0, .slice none 0 0, .slice none 0 0, .slice none 0 0, .slice none 0 0, .slice none 0 0, .slice none 0 0, .string ⟨#[]⟩])) w.heap.size wy (newR ts key wk) ∧ Below w.heap.size w wy) := hid fun wx Sx wy hg hno =>
    ⟨⟨[], ⟨#[]⟩, zBD, 0, nilV, [], nilH, nilV, rfl, zWoO _ _, .inr ⟨hno, rfl, rfl, rfl, rfl⟩⟩, below_grown Sx.B hg Sx.B.size (fun q hq => by injection hq with hq; omega)⟩
  clear hW
  go_enter Tryz.func16, Tryz.ntmps16
  go_upto_region 1 with fail
  rw [← HW.out]
  clear HW
  have y0 : W.cell? ⟨w.heap.size, 0, none⟩ = some (.slice a n c) := (S0.P 0 (by simp)).1
  go_wp2_with fail
  refine (specCheckPlan_any a b o n c ts _ (h.below' S0.B)).mono ?_
  rintro e w1 ⟨⟨cc, rfl, hcc⟩, hb1⟩
  have S1 := S0.below hb1
  clear y0 hb1 S0
  by_cases c0 : cc = 0
  case neg =>
    have c0b : (cc == 0) = false := beq_eq_false_iff_ne.2 c0
    have HN := hid (show ¬ okW ts key wk from fun hh => c0 (hcc.one hh.1))
    clear hcc
    have R1 : CF w1 (w.heap.size + 1) zWv := S1.R
    go_upto_region 2 with fail
    go_wp2_with (refine wpList_store_cf rfl 55 (.tmp 6) (.tmp 22) rfl (w.heap.size + 1) zWv [.slice none 0 0, .string ⟨#[]⟩, .int .i64 0, .bool false, .int .i64 0, .int .i64 0, .int .i64 0, .int .i64 0, .slice none 0 0, .slice none 0 0, .slice none 0 0, .slice none 0 0, .slice none 0 0, .slice none 0 0, .slice none 0 0, .slice none 0 0, .string ⟨#[]⟩] rfl rfl R1 rfl Tryz.sizeWo zWv_one ?_; intro w10 hc10 hg10)
    exact bodyPost_ret (v := .agg #[.slice none 0 0, .string ⟨#[]⟩, .int .i64 0, .bool false, .int .i64 0, .int .i64 0, .int .i64 0, .int .i64 0, .slice none 0 0, .slice none 0 0, .slice none 0 0, .slice none 0 0, .slice none 0 0, .slice none 0 0, .slice none 0 0, .slice none 0 0, .string ⟨#[]⟩]) (results_cf 55 _ 6 Tryz.results16 rfl hc10 Tryz.underlying55 rfl Tryz.sizeWo) rfl (HZ.out _ S1 _ hg10 HN.out)
  subst c0
  have HC := hid hcc
  clear hcc
  go_wp2_with fail
  refine (l2In_any wk 1 8 _).mono ?_
  rintro e w2 ⟨rfl, rfl⟩
  by_cases c1 : inB wk 1 8 = true
  case neg =>
    have c1b : inB wk 1 8 = false := by simpa using c1
    have HN := hid (show ¬ okW ts key wk from fun hh => c1 (by unfold inB; simp; exact hh.2.1))
    clear c1
    have R1 : CF w2 (w.heap.size + 1) zWv := S1.R
    go_upto_region 2 with fail
    go_wp2_with (refine wpList_store_cf rfl 55 (.tmp 6) (.tmp 22) rfl (w.heap.size + 1) zWv [.slice none 0 0, .string ⟨#[]⟩, .int .i64 0, .bool false, .int .i64 0, .int .i64 0, .int .i64 0, .int .i64 0, .slice none 0 0, .slice none 0 0, .slice none 0 0, .slice none 0 0, .slice none 0 0, .slice none 0 0, .slice none 0 0, .slice none 0 0, .string ⟨#[]⟩] rfl rfl R1 rfl Tryz.sizeWo zWv_one ?_; intro w10 hc10 hg10)
    exact bodyPost_ret (v := .agg #[.slice none 0 0, .string ⟨#[]⟩, .int .i64 0, .bool false, .int .i64 0, .int .i64 0, .int .i64 0, .int .i64 0, .slice none 0 0, .slice none 0 0, .slice none 0 0, .slice none 0 0, .slice none 0 0, .slice none 0 0, .slice none 0 0, .slice none 0 0, .string ⟨#[]⟩]) (results_cf 55 _ 6 Tryz.results16 rfl hc10 Tryz.underlying55 rfl Tryz.sizeWo) rfl (HZ.out _ S1 _ hg10 HN.out)
  have hwk : 1 ≤ wk ∧ wk ≤ 8 := by unfold inB at c1; simpa using c1
  by_cases c2 : (30 : Int) < (key.size : Int)
  case pos =>
    have HN := hid (show ¬ okW ts key wk from fun hh => by have := hh.2.2; omega)
    have R1 : CF w2 (w.heap.size + 1) zWv := S1.R
    go_upto_region 2 with fail
    go_wp2_with (refine wpList_store_cf rfl 55 (.tmp 6) (.tmp 22) rfl (w.heap.size + 1) zWv [.slice none 0 0, .string ⟨#[]⟩, .int .i64 0, .bool false, .int .i64 0, .int .i64 0, .int .i64 0, .int .i64 0, .slice none 0 0, .slice none 0 0, .slice none 0 0, .slice none 0 0, .slice none 0 0, .slice none 0 0, .slice none 0 0, .slice none 0 0, .string ⟨#[]⟩] rfl rfl R1 rfl Tryz.sizeWo zWv_one ?_; intro w10 hc10 hg10)
    exact bodyPost_ret (v := .agg #[.slice none 0 0, .string ⟨#[]⟩, .int .i64 0, .bool false, .int .i64 0, .int .i64 0, .int .i64 0, .int .i64 0, .slice none 0 0, .slice none 0 0, .slice none 0 0, .slice none 0 0, .slice none 0 0, .slice none 0 0, .slice none 0 0, .slice none 0 0, .string ⟨#[]⟩]) (results_cf 55 _ 6 Tryz.results16 rfl hc10 Tryz.underlying55 rfl Tryz.sizeWo) rfl (HZ.out _ S1 _ hg10 HN.out)
  have c2b : decide ((30 : Int) < (key.size : Int)) = false := decide_eq_false c2
  have HOK := hid (show okW ts key wk from ⟨HC.out, hwk, by omega⟩)
  have HDO := hid (newD_ok HC.out hwk.1 hwk.2)
  go_upto_region 3 with fail
  clear c1 c2 c2b HZ
  obtain ⟨nw, hnw⟩ : ∃ nw : Nat, nw = wk.toNat := ⟨_, rfl⟩
  have HNW := hid (show wk = (nw : Int) by omega)
  have HNW0 := hid hnw
  have hnw8 : nw ≤ 8 := by omega
  clear hnw
  have y0 : w2.cell? ⟨w.heap.size, 0, none⟩ = some (.slice a n c) := (S1.P 0 (by simp)).1
  go_wp2_with fail
  refine (l1Plan_any a b o n c ts _ (h.below' S1.B) hn).mono ?_
  rintro e w3 ⟨⟨v, vs, rfl, hpl⟩, hb3⟩
  obtain ⟨va, vc, rfl⟩ := hpl.row.slc
  have S3 := S1.below hb3
  have pq := hid hpl.q
  have z3 : w2.heap.size ≤ w3.heap.size := hb3.size
  have z2 := S1.z
  clear y0 hb3 S1
  obtain ⟨XX, hXX⟩ : ∃ X : Nat, X = w3.heap.size := ⟨_, rfl⟩
  obtain ⟨W4, hW4⟩ : ∃ V, V = w3.alloc (.cells #[.slice va ts.length vc, .string key, .int .i64 0, .bool false, .int .i64 0, .int .i64 0, .int .i64 0, .int .i64 0, .slice none 0 0, .slice none 0 0, .slice none 0 0, .slice none 0 0, .slice none 0 0, .slice none 0 0, .slice none 0 0, .slice none 0 0, .string ⟨#[]⟩] 55) := ⟨_, rfl⟩
  have b4 : Below w3.heap.size w3 W4 := by rw [hW4]; exact (Below.refl _ _).alloc (Nat.le_refl _) _
  have S4 := S3.below b4
  have pl4 := hpl.below b4
  have box4 : CF W4 XX [.slice va ts.length vc, .string key, .int .i64 0, .bool false, .int .i64 0, .int .i64 0, .int .i64 0, .int .i64 0, .slice none 0 0, .slice none 0 0, .slice none 0 0, .slice none 0 0, .slice none 0 0, .slice none 0 0, .slice none 0 0, .slice none 0 0, .string ⟨#[]⟩] := by rw [hW4, hXX]; exact CF.made w3 #[.slice va ts.length vc, .string key, .int .i64 0, .bool false, .int .i64 0, .int .i64 0, .int .i64 0, .int .i64 0, .slice none 0 0, .slice none 0 0, .slice none 0 0, .slice none 0 0, .slice none 0 0, .slice none 0 0, .slice none 0 0, .slice none 0 0, .string ⟨#[]⟩] 55
  have z4 : W4.heap.size = XX + 1 := by rw [hW4, hXX]; simp
  have HX := hid hXX
  have HW4 := hid hW4
  clear hW4 hXX S3 hpl b4
  go_upto_region 4 with fail
  rw [← HW4.out, ← HX.out]
  clear HW4
  have y0 : W4.cell? ⟨w.heap.size, 0, none⟩ = some (.slice a n c) := (S4.P 0 (by simp)).1
  go_wp2_with fail
  refine (l5Rise_any (newD wk) nilH a b o n c ts _ HDO.out (newD_M _ wk) (h.below' S4.B) (newD_small wk)).mono ?_
  rintro e w5 ⟨⟨d', ⟨bh, he, hbo⟩, hr⟩, hb5⟩
  have e5 := rise_new hr
  subst e5
  subst he
  have S5 := S4.below hb5
  have pl5 := pl4.below hb5
  have box5 : CF w5 XX ([.slice va ts.length vc, .string key] ++ [.int .i64 0, .bool false, .int .i64 0, .int .i64 0, .int .i64 0, .int .i64 0, .slice none 0 0, .slice none 0 0, .slice none 0 0, .slice none 0 0, .slice none 0 0, .slice none 0 0] ++ [.slice none 0 0, .slice none 0 0, .string ⟨#[]⟩]) := box4.block (hb5.block XX (by omega))
  have bq := hid hbo.lo
  have z5 : W4.heap.size ≤ w5.heap.size := hb5.size
  have HBO := hid hbo
  have HPL := hid pl5
  clear y0 S4 pl4 box4 hb5 hr hbo pl5
  go_upto_region 5 with (refine wpList_store_in rfl 40 _ _ rfl XX 2 [.slice va ts.length vc, .string key] [.int .i64 0, .bool false, .int .i64 0, .int .i64 0, .int .i64 0, .int .i64 0, .slice none 0 0, .slice none 0 0, .slice none 0 0, .slice none 0 0, .slice none 0 0, .slice none 0 0] [.slice none 0 0, .slice none 0 0, .string ⟨#[]⟩] (bvs (worldB wk ts.length) bh) rfl rfl rfl box5 rfl Tryz.sizeBo (bvs_one2 _ _) ?_; intro w6 hc6 hg6)
  have hX3 := HX.out
  have pne : PlanQ (.slice va ts.length vc) ts vs (fun q => q ≠ XX) := pq.out.imp (fun q hq => by omega)
  have bne : BossQ (worldB wk ts.length) bh (fun q => q ≠ XX) := fun r hr q hq => by have h5 := bq.out r hr q hq; omega
  have HR := hid (show NwM w a n c ts key (worldB wk ts.length) XX (.slice va ts.length vc) vs bh 0 nilV w6 from {
    S := S5.grown hg6 (fun q hq => by injection hq with hq; omega)
    X0 := ⟨by omega, by have := hg6.size; omega⟩
    box := hc6
    pl := (HPL.out.byQ ⟨fun q hq => hg6.block q (HPL.out.row.row_hi q hq) (by simp; exact pne.1 q hq), fun i hi q hq => hg6.block q ((HPL.out.dep i hi).row_hi q hq) (by simp; exact pne.2 i hi q hq)⟩).mono (by omega)
    bo := (HBO.out.blk (fun r hr q hq => hg6.block q (HBO.out.lo r hr q hq).2 (by simp; exact bne r hr q hq))).mono (by omega)
    pq := pne
    bq := bne
    cr := Own.nil _ _ _
    cx := fun q hq => by cases hq
    d1 := fun r hr => ⟨Dn.later (m := XX) (fun q hq => by have h5 := pq.out.1 q hq; omega) (fun q hq => by have h5 := bq.out r hr q hq; omega), fun i hi => Dn.later (m := XX) (fun q hq => by have h5 := pq.out.2 i hi q hq; omega) (fun q hq => by have h5 := bq.out r hr q hq; omega)⟩
    d2 := ⟨Dn.symm (.inl rfl), fun i hi => Dn.symm (.inl rfl)⟩
    d3 := fun r hr => Dn.symm (.inl rfl) })
  clear hc6 hg6 pne bne HPL HBO pq bq box5 S5 z2 z3 z4 z5 hX3 HX HDO HC h hn hky HL
  go_wp2
  go_loopw [8] (fun i wr => ∃ k : Nat, k ≤ nw ∧ i = .int .i64 ((k : Int) + 1) ∧ ∃ vW, NwM w a n c ts key (worldB wk ts.length) XX (.slice va ts.length vc) vs bh k vW wr) (fun i _ => nw + 1 - (intOf i).toNat)
  case atStart => exact ⟨0, Nat.zero_le _, rfl, nilV, HR.out⟩
  case round =>
    clear HR
    obtain ⟨k, hk, rfl, vW, S⟩ := hrel
    by_cases hlt : k < nw
    · have hlt' : (k : Int) + 1 ≤ wk := by rw [HNW.out]; omega
      obtain ⟨aW, cW, hvw⟩ := S.cr.slc
      subst hvw
      have y14 : wr.cell? ⟨XX, 14, none⟩ = some (.slice aW k cW) := (S.box 14 (by rw [wvs_length]; omega)).1
      have hX := S.X0
      obtain ⟨U, hU⟩ : ∃ U, U = wr.alloc (.cells #[.int .i64 ((k : Int) + 1), .int .i64 1, .bool true, .int .i64 0, .int .i64 0, .int .i64 0, .int .i64 0, .int .i64 0, .slice none 0 0, .string ⟨#[]⟩, .int .i64 3] 96) := ⟨_, rfl⟩
      have bU : Below wr.heap.size wr U := by rw [hU]; exact (Below.refl _ _).alloc (Nat.le_refl _) _
      have zU : U.heap.size = wr.heap.size + 1 := by rw [hU]; simp
      have own1 : Own (w.heap.size + 2) U 11 (.slice (some ⟨wr.heap.size, 0, none⟩) 1 1) 1 (wcell k) := by
        rw [hU]; exact .inr ⟨_, 0, 1, rfl, OwnC.made wr (w.heap.size + 2) 96 11 1 1 _ 11 (by omega) (Nat.le_refl _) (by unfold maxLen; omega) rfl (Nat.le_refl _) _ rfl _ (.inl rfl)⟩
      have src1 : Src Tryz.prog 11 52 _ 1 _ U := own1.src Tryz.underlying52 (by intro x hx; simp only [wcell, List.mem_cons, List.not_mem_nil, or_false] at hx; rcases hx with rfl | rfl | rfl | rfl | rfl | rfl | rfl | rfl | rfl | rfl | rfl <;> rfl)
      have crU := S.cr.below bU (Nat.le_refl _)
      have boxU := S.box.block (bU.block XX hX.2)
      have hrow := S.cr.row_lo
      have HS := hid S
      clear S
      go_wp2_with (at_builtin; rw [← hU]; refine wpList_append_c _ rfl _ _ 52 52 rfl (w.heap.size + 2) 96 iW (.agg #[.int .i64 0, .int .i64 0, .bool false, .int .i64 0, .int .i64 0, .int .i64 0, .int .i64 0, .int .i64 0, .slice none 0 0, .string ⟨#[]⟩, .int .i64 0]) 11 112 Tryz.underlying52 hiW hW0 hW1 hW2 rfl _ k _ rfl crU _ 1 _ rfl src1 (by unfold maxLen; omega) (by omega) (by omega) ?_; intro v' w6 hown' hgrow hblk; have box6 := boxU.block (hgrow.block XX (by omega) (fun e => HS.out.cx _ e.symm rfl)); have k14 : w6.cell? ⟨XX, 14, none⟩ = some (.slice aW k cW) := (box6 14 (by rw [wvs_length]; omega)).1; have f14 : w6.frozen? ⟨XX, 14, none⟩ = false := (box6 14 (by rw [wvs_length]; omega)).2; obtain ⟨aW', cW', rfl⟩ := hown'.slc)
      clear k14 f14 y14
      have gs := gset (World.grownBy.refl w6 (some XX)) 14 (.slice aW' (k + 1) cW')
      have hS := HS.out
      have zg := hgrow.size
      have cx' : ∀ q, (Value.slice aW' (k + 1) cW').ownBlock = some q → q ≠ XX := fun q hq => by
        rcases hblk with h5 | h5
        · rw [h5] at hq; exact hS.cx q hq
        · rw [h5] at hq; injection hq with hq; omega
      have ne : ∀ x : Option Nat, (∀ q, x = some q → q ≠ XX) → Dn x (some XX) := fun x hx => by
        cases x with
        | none => exact .inl rfl
        | some q => exact .inr (by simp; exact hx q rfl)
      go_roundw
      case rel =>
        refine ⟨k + 1, by omega, by first | go_num | (simp; omega) | simp, .slice aW' (k + 1) cW', ?_⟩
        exact {
          S := ((hS.S.below bU).grown hgrow (fun q hq => hrow q hq)).grown gs (fun q hq => by injection hq with hq; omega)
          X0 := ⟨hX.1, by have := gs.size; omega⟩
          box := box6.set (j := 14) (by rw [wvs_length]; omega) (.slice aW' (k + 1) cW')
          pl := ((hS.pl.below bU).grown hgrow hS.d2.1 hS.d2.2).grown gs (ne _ hS.pq.1) (fun i hi => ne _ (hS.pq.2 i hi))
          bo := ((hS.bo.below bU).blk (fun r hr q hq => hgrow.block q (by have := (hS.bo.lo r hr q hq).2; omega) (fun e => by
            rcases hS.d3 r hr with h5 | h5
            · rw [h5] at hq; cases hq
            · exact h5 (hq.trans e)))).blk (fun r hr q hq => gs.block q (by have := (hS.bo.lo r hr q hq).2; omega) (by simp; exact hS.bq r hr q hq))
          pq := hS.pq
          bq := hS.bq
          cr := by rw [crewC_snoc]; exact hown'.grown gs (ne _ cx')
          cx := cx'
          d1 := hS.d1
          d2 := by
            rcases hblk with h5 | h5
            · rw [h5]; exact hS.d2
            · have hq := hS.pl.q
              exact ⟨Dn.later (fun q h1 => (hq.1 q h1).2) (fun q h1 => by rw [h5] at h1; injection h1 with h1; omega), fun i hi => Dn.later (fun q h1 => (hq.2 i hi q h1).2) (fun q h1 => by rw [h5] at h1; injection h1 with h1; omega)⟩
          d3 := fun r hr => by
            rcases hblk with h5 | h5
            · rw [h5]; exact hS.d3 r hr
            · exact Dn.later (fun q h1 => (hS.bo.lo r hr q h1).2) (fun q h1 => by rw [h5] at h1; injection h1 with h1; omega) }
      case measure => simp [intOf]; omega
    · obtain rfl : k = nw := by omega
      have hlt' : ¬ ((k : Int) + 1 ≤ wk) := by rw [HNW.out]; omega
      obtain ⟨aW, cW, hvw⟩ := S.cr.slc
      subst hvw
      have BX : CF wr XX (wvs (.slice va ts.length vc) key (worldB wk ts.length) bh (.slice aW k cW)) := S.box
      obtain ⟨cs, hcs⟩ : ∃ cs, cs = wvs (.slice va ts.length vc) key (worldB wk ts.length) bh (.slice aW k cW) := ⟨_, rfl⟩
      rw [← hcs] at BX
      have HCS := hid hcs
      have hcl : cs.length = 17 := by rw [hcs]; exact wvs_length _ _ _ _ _
      have HCL := hid hcl
      have hcsz : (Tryz.prog.info? 55).map (·.size) = some cs.length := by rw [hcl]; exact Tryz.sizeWo
      have HSZ := hid hcsz
      clear hcs hcl hcsz
      have R1 : CF wr (w.heap.size + 1) zWv := S.S.R
      have ONE := hid (show ∀ v ∈ cs, v.oneCell' = true by rw [HCS.out]; exact wvs_one va ts.length vc key (worldB wk ts.length) bh aW k cW)
      have HS := hid S
      clear S
      go_wp2_with (first | (refine wpList_load_cfN rfl 55 _ rfl XX cs _ rfl BX Tryz.underlying55 rfl HSZ.out ?_) | (refine wpList_store_cf rfl 55 (.tmp 6) (.tmp 44) rfl (w.heap.size + 1) zWv cs rfl rfl R1 HCL.out.symm HSZ.out ONE.out ?_; intro w10 hc10 hg10))
      have hS := HS.out
      have hz := hS.S.z
      have keep : ∀ q, w.heap.size + 2 ≤ q → q < wr.heap.size → w10.heap[q]? = wr.heap[q]? := fun q h1 h2 => hg10.block q h2 (by simp; omega)
      exact bodyPost_ret (v := .agg cs.toArray) (results_cf 55 _ 6 Tryz.results16 rfl hc10 Tryz.underlying55 rfl HSZ.out) rfl ⟨⟨ts, key, (worldB wk ts.length), k, .slice va ts.length vc, vs, bh, .slice aW k cW, by rw [HCS.out], {
        pl := (hS.pl.blk keep).mono (by omega)
        bo := (hS.bo.blk (fun r hr q hq => keep q (hS.bo.lo r hr q hq).1 (hS.bo.lo r hr q hq).2)).mono (by omega)
        cr := (hS.cr.blkP (fun q hq => keep q (hS.cr.row_lo q hq) (hS.cr.row_hi q hq))).mono' (by omega)
        d1 := hS.d1
        d2 := hS.d2
        d3 := hS.d3 }, .inl ⟨HOK.out, rfl, rfl, rfl, HNW0.out⟩⟩, below_grown hS.S.B hg10 hS.S.B.size (fun q hq => by injection hq with hq; omega)⟩
end Go.Proofs.YtbfamabkbkpmpaaGreat
