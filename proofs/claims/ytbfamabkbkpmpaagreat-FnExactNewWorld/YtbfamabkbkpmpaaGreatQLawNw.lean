import Derived.Test.YtbfamabkbkpmpaaGreatQNwm
import Derived.Test.YtbfamabkbkpmpaaGreatQNws
import Derived.Test.YtbfamabkbkpmpaaGreatQMid
import Derived.Deep.DeepCutAuto
namespace Go.Proofs.YtbfamabkbkpmpaaGreat
open Go.RowKit
theorem Shape.blocks {g H n : Nat} {w w' : World} (h : Shape g H n w) (hgH : g < H) (hb : ∀ q, g ≤ q → q < H → w'.heap[q]? = w.heap[q]?) : Shape g H n w' where
  s0 := fun j hj => by obtain ⟨s, hs⟩ := h.s0 j hj; exact ⟨s, (World.cell?_of_block (w := w) (a := ⟨g, j * 3, none⟩) (hb g (Nat.le_refl _) hgH)).trans hs⟩
  s1 := fun j hj => by obtain ⟨s, hs⟩ := h.s1 j hj; exact ⟨s, (World.cell?_of_block (w := w) (a := ⟨g, j * 3 + 1, none⟩) (hb g (Nat.le_refl _) hgH)).trans hs⟩
  s2 := fun j hj => by
    obtain ⟨b', n', h0, h1, h2, h3, h4⟩ := h.s2 j hj
    refine ⟨b', n', (World.cell?_of_block (w := w) (a := ⟨g, j * 3 + 2, none⟩) (hb g (Nat.le_refl _) hgH)).trans h0, h1, h2, h3, fun i hi => ?_⟩
    obtain ⟨⟨y, hy⟩, hf⟩ := h4 i hi
    exact ⟨⟨y, (World.cell?_of_block (w := w) (a := ⟨b', i, none⟩) (hb b' (by omega) h2)).trans hy⟩, (World.frozen?_of_block (w := w) (a := ⟨b', i, none⟩) (hb b' (by omega) h2)).trans hf⟩
  fr := fun j hj => (World.frozen?_of_block (w := w) (a := ⟨g, j, none⟩) (hb g (Nat.le_refl _) hgH)).trans (h.fr j hj)
theorem CF.lt {w : World} {p : Nat} {v : Value} {vs : List Value} (h : CF w p (v :: vs)) : p < w.heap.size := World.block_lt_of_cell? w ⟨p, 0, none⟩ (h 0 (by simp)).1
theorem CF.belowS {w w' : World} {p : Nat} {v : Value} {vs : List Value} (h : CF w p (v :: vs)) (hb : Below w.heap.size w w') : CF w' p (v :: vs) := h.block (hb.block p h.lt)
theorem CF.grownS {w w' : World} {p : Nat} {v : Value} {vs : List Value} {row : Option Nat} (h : CF w p (v :: vs)) (hg : w.grownBy w' row) (hr : some p ≠ row) : CF w' p (v :: vs) := h.block (hg.block p h.lt hr)
theorem CF.midS {w w' : World} {p g H : Nat} {v : Value} {vs : List Value} (h : CF w p (v :: vs)) (hM : Mid g H w w') (hr : p < g ∨ H ≤ p) : CF w' p (v :: vs) := h.block (hM.block p h.lt hr)
theorem Own.midR {B : Nat} {w w' : World} {size : Nat} {v : Value} {n : Nat} {xs : List Value} {g H : Nat} (h : Own B w size v n xs) (hM : Mid g H w w') (hr : ∀ q, v.ownBlock = some q → q < g ∨ H ≤ q) : Own B w' size v n xs := by
  rcases h with h | ⟨k, o, cap, rfl, hc⟩
  · exact .inl h
  · exact .inr ⟨k, o, cap, rfl, hc.block (hM.block k hc.hi (hr k rfl))⟩

theorem CF.ltC {w : World} {p : Nat} {cs : List Value} (h : CF w p cs) (hl : cs.length = 17) : p < w.heap.size := by
  have h0 : 0 < cs.length := by omega
  have h1 := (h 0 h0).1
  rw [List.getElem?_eq_getElem h0] at h1
  exact World.block_lt_of_cell? w ⟨p, 0, none⟩ h1
theorem CF.belowC {w w' : World} {p : Nat} {cs : List Value} (h : CF w p cs) (hl : cs.length = 17) (hb : Below w.heap.size w w') : CF w' p cs := h.block (hb.block p (h.ltC hl))
theorem wpList_load_cfG {ops : Array Oper} {rest : List Oper} {op : Oper} {a : Act} {w : World} {Q : Exit → Act → World → Prop} (hwt : Region.wanted op (yielded ops a.tmps) = true) (ty : TypeId) (x : Operand) (ho : op.op = .load ty x)
    (p : Nat) (cs : List Value) (D : TypeDesc) (hx : a.eval x = .pointer (some ⟨p, 0, none⟩)) (hc : CF w p cs) (hu : Tryz.prog.underlying ty = some D) (hd : D.isRow = true) (hi : (Tryz.prog.info? ty).map (·.size) = some cs.length)
    (hK : wpList Tryz.prog ops Q rest (a.put op.dst (.agg cs.toArray)) w) : wpList Tryz.prog ops Q (op :: rest) a w := by
  refine wpList_step fun K hK' => ?_
  rw [if_pos hwt]
  unfold Oper.wp
  rw [run_ldT ty D cs x ho hx hc hu hd hi]
  exact hK' _ _ hK
theorem Below.made {w w' : World} {ob : Obj} (hg : (w.alloc ob).grownBy w' (some w.heap.size)) : Below w.heap.size w w' :=
  below_grown ((Below.refl _ _).alloc (Nat.le_refl _) ob) hg (by simp) (fun q hq => by injection hq with hq; omega)

set_option maxHeartbeats 16000000 in
set_option maxRecDepth 100000 in
theorem fnExactNewWorld_walk (pa : Option Addr) (pb po pn pc : Nat) (ts : List TaskD) (key : ByteArray) (wk : Int) (w : World) (hp : TasksAt w pa pb po pn ts) (hkz : key.size ≤ maxLen) :
    Calls Tryz.prog 4 #[.agg #[.slice pa pn pc], .string key, .int .i64 wk] w fun e' w' => e' = .returned (.bool true) ∧ Below w.heap.size w w' := by
  unfold maxLen at hkz
  obtain ⟨W, hW⟩ : ∃ W, W = w.alloc (.cells #[.slice pa pn pc] 32) := ⟨_, rfl⟩
  have hBW : Below w.heap.size w W := by rw [hW]; exact (Below.refl _ _).alloc (Nat.le_refl _) _
  have hsW : W.heap.size = w.heap.size + 1 := by rw [hW]; simp
  have hPP : CF W (w.heap.size) [.slice pa pn pc] := by rw [hW]; exact CF.made w #[.slice pa pn pc] 32
  have hfit := hid hp.fit
  have HL := hid hp.len
  have HW := hid hW
  clear hW
  go_enter Tryz.func4, Tryz.ntmps4
  go_upto_region 1 with fail
  rw [← HW.out]
  clear HW
  by_cases hky : key.size ≤ 1048576
  case neg =>
    have hky' : ((key.size : Int) > 1048576) := by omega
    go_wp2
    go_ret
    exact ⟨rfl, hBW⟩
  have hky' : ¬ ((key.size : Int) > 1048576) := by omega
  have c0 : W.cell? ⟨w.heap.size, 0, none⟩ = some (.slice pa pn pc) := (hPP 0 (by simp)).1
  go_wp2_with fail
  refine (szPlan_any pa pb po pn pc ts 1048576 _ (by omega) (by omega) (hp.below' hBW)).mono ?_
  rintro e' w1 ⟨⟨r, rfl, hr⟩, hb1⟩
  have hPP1 := hPP.block (hb1.block (w.heap.size) (by omega))
  have hBw1 := hBW.trans (hb1.mono hBW.size)
  have hl1 : w.heap.size < w1.heap.size := by have := hb1.size; omega
  clear hPP hb1 hBW hsW c0 hky'
  rcases hr with rfl | ⟨hr, hr0⟩
  · go_wp2
    go_ret
    exact ⟨rfl, hBw1⟩
  have hpn : pn + tssz ts ≤ 1048576 := by omega
  have hr' : ¬ r < 0 := by omega
  clear hr hr0
  go_upto_region 7 with fail
  clear hr'
  have PP := hid hPP1
  clear hPP1
  have hplB := hid hl1
  clear hl1
  have c0 : w1.cell? ⟨w.heap.size, 0, none⟩ = some (.slice pa pn pc) := (PP.out 0 (by simp)).1
  go_wp2_with fail
  refine (toPlan_any pa pb po pn pc ts _ (hp.below' hBw1) hpn).mono ?_
  rintro e' w2 ⟨g2, xsg2, rfl, hog2, hbug2, htg2, hbg2⟩
  have hTg2 := hid htg2
  clear hog2 hbug2 htg2
  clear c0
  have hBw2 := hBw1.trans (hbg2.mono hBw1.size)
  have zw2 := hid (hbg2.size)
  have PP_w2 := hid (PP.out.belowS hbg2)
  clear PP
  clear hbg2 hBw1
  go_wp2_with fail
  refine (sNew_any _ g2 0 pn pn ts key wk _ hTg2.out hpn hky).mono ?_
  rintro e' w3 ⟨⟨ts0, key0, bd0, n0, vP0, vs0, bh0, vW0, he, hO0, hF0⟩, hbw3⟩
  obtain ⟨pa0, pc0, rfl⟩ := hO0.pl.row.slice
  obtain ⟨wa0, wc0, rfl⟩ := hO0.cr.slice
  obtain ⟨cs0, hcs0⟩ : ∃ cs, cs = wvs (.slice pa0 ts0.length pc0) key0 bd0 bh0 (.slice wa0 n0 wc0) := ⟨_, rfl⟩
  rw [← hcs0] at he
  subst he
  have HCL0 : Hid (cs0.length = 17) := by rw [hcs0]; exact wvs_length _ _ _ _ _
  have HSZ0 : Hid ((Tryz.prog.info? 55).map (·.size) = some cs0.length) := by rw [HCL0.out]; exact Tryz.sizeWo
  have ONE0 : Hid (∀ v ∈ cs0, v.oneCell' = true) := by rw [hcs0]; exact wvs_one _ _ _ _ _ _ _ _ _
  have HCS0 := hid hcs0
  clear hcs0
  have HF := hid hF0
  have HG := hid (hF0.good (by rw [HL.out]; exact hpn) hfit.out)
  clear hF0
  have O0 := hid hO0
  have lo0 := hid hO0.lo
  have lb0 := hid hbw3.size
  clear hO0
  clear hTg2
  have hBw3 := hBw2.trans (hbw3.mono hBw2.size)
  have zw3 := hid (hbw3.size)
  have PP_w3 := hid (PP_w2.out.belowS hbw3)
  clear PP_w2
  clear hbw3 hBw2
  have MK0 := hid (CF.made w3 zWv.toArray 55)
  go_upto_region 8 with (refine wpList_store_cf rfl 55 (.tmp 8) (.tmp 27) rfl w3.heap.size zWv cs0 rfl rfl MK0.out HCL0.out.symm HSZ0.out ONE0.out ?_; intro w4 hcw4 hgw4)
  have hbw4 := Below.made hgw4
  have M0 := hid hcw4
  clear hcw4 hgw4 MK0
  obtain ⟨p0, hp0⟩ : ∃ q, q = w3.heap.size := ⟨_, rfl⟩
  rw [← hp0] at M0
  rw [← hp0]
  have HP0 := hid hp0
  clear hp0
  have ml0 := hid (M0.out.ltC HCL0.out)
  have hBw4 := hBw3.trans (hbw4.mono hBw3.size)
  have zw4 := hid (hbw4.size)
  have PP_w4 := hid (PP_w3.out.belowS hbw4)
  clear PP_w3
  have O0_w4 := hid (O0.out.below hbw4)
  clear O0
  clear hbw4 hBw3
  have c0 : w4.cell? ⟨w.heap.size, 0, none⟩ = some (.slice pa pn pc) := (PP_w4.out 0 (by simp)).1
  go_wp2_with fail
  refine (toPlan_any pa pb po pn pc ts _ (hp.below' hBw4) hpn).mono ?_
  rintro e' w5 ⟨g5, xsg5, rfl, hog5, hbug5, htg5, hbg5⟩
  have hg5l := hid hog5.lo
  have hg5h := hid hog5.hi
  have SH := hid (hbug5.shape hog5 hp.len (by omega))
  have hTg5 := hid htg5
  clear hog5 hbug5 htg5
  clear c0
  have hBw5 := hBw4.trans (hbg5.mono hBw4.size)
  have zw5 := hid (hbg5.size)
  have PP_w5 := hid (PP_w4.out.belowS hbg5)
  clear PP_w4
  have O0_w5 := hid (O0_w4.out.below hbg5)
  clear O0_w4
  have M0_w5 := hid (M0.out.belowC HCL0.out hbg5)
  clear M0
  clear hbg5 hBw4
  obtain ⟨W5, hW5⟩ : ∃ W5, W5 = w5.alloc (.cells #[.slice (some ⟨g5, 0, none⟩) pn pn] 45) := ⟨_, rfl⟩
  have hbaW5 : Below w5.heap.size w5 W5 := by rw [hW5]; exact (Below.refl _ _).alloc (Nat.le_refl _) _
  have qW5 := hid (show W5.heap.size = w5.heap.size + 1 by rw [hW5]; simp)
  have MP := hid (show CF W5 w5.heap.size [.slice (some ⟨g5, 0, none⟩) pn pn] by rw [hW5]; exact CF.made w5 #[.slice (some ⟨g5, 0, none⟩) pn pn] 45)
  have HW5 := hid hW5
  clear hW5
  have hBW5 := hBw5.trans (hbaW5.mono hBw5.size)
  have zW5 := hid (hbaW5.size)
  have PP_W5 := hid (PP_w5.out.belowS hbaW5)
  clear PP_w5
  have O0_W5 := hid (O0_w5.out.below hbaW5)
  clear O0_w5
  have M0_W5 := hid (M0_w5.out.belowC HCL0.out hbaW5)
  clear M0_w5
  have hTg5_W5 := hid (hTg5.out.below' hbaW5)
  clear hTg5
  have SH_W5 := hid (SH.out.below hbaW5)
  clear SH
  clear hbaW5 hBw5
  go_upto_region 9 with fail
  rw [← HW5.out]
  clear HW5
  have c0 : W5.cell? ⟨w5.heap.size, 0, none⟩ = some (.slice (some ⟨g5, 0, none⟩) pn pn) := (MP.out 0 (by simp)).1
  go_wp2_with fail
  refine (iNew_any _ g5 0 pn pn ts key wk _ hTg5_W5.out hpn hky).mono ?_
  rintro e' w6 ⟨⟨ts1, key1, bd1, n1, vP1, vs1, bh1, vW1, he, hO1, hF1⟩, hbw6⟩
  obtain ⟨rfl, rfl, rfl, rfl⟩ := HF.out.uniq hF1
  clear hF1
  obtain ⟨pa1, pc1, rfl⟩ := hO1.pl.row.slice
  obtain ⟨wa1, wc1, rfl⟩ := hO1.cr.slice
  obtain ⟨cs1, hcs1⟩ : ∃ cs, cs = wvs (.slice pa1 ts0.length pc1) key0 bd0 bh1 (.slice wa1 n0 wc1) := ⟨_, rfl⟩
  rw [← hcs1] at he
  subst he
  have HCL1 : Hid (cs1.length = 17) := by rw [hcs1]; exact wvs_length _ _ _ _ _
  have HSZ1 : Hid ((Tryz.prog.info? 55).map (·.size) = some cs1.length) := by rw [HCL1.out]; exact Tryz.sizeWo
  have ONE1 : Hid (∀ v ∈ cs1, v.oneCell' = true) := by rw [hcs1]; exact wvs_one _ _ _ _ _ _ _ _ _
  have HCS1 := hid hcs1
  clear hcs1
  have O1 := hid hO1
  have lo1 := hid hO1.lo
  have lb1 := hid hbw6.size
  clear hO1
  have hBw6 := hBW5.trans (hbw6.mono hBW5.size)
  have zw6 := hid (hbw6.size)
  have PP_w6 := hid (PP_W5.out.belowS hbw6)
  clear PP_W5
  have O0_w6 := hid (O0_W5.out.below hbw6)
  clear O0_W5
  have M0_w6 := hid (M0_W5.out.belowC HCL0.out hbw6)
  clear M0_W5
  have hTg5_w6 := hid (hTg5_W5.out.below' hbw6)
  clear hTg5_W5
  have SH_w6 := hid (SH_W5.out.below hbw6)
  clear SH_W5
  have MP_w6 := hid (MP.out.belowS hbw6)
  clear MP
  clear hbw6 hBW5
  have MK1 := hid (CF.made w6 zWv.toArray 55)
  go_upto_region 10 with (refine wpList_store_cf rfl 55 (.tmp 10) (.tmp 33) rfl w6.heap.size zWv cs1 rfl rfl MK1.out HCL1.out.symm HSZ1.out ONE1.out ?_; intro w7 hcw7 hgw7)
  have hbw7 := Below.made hgw7
  have M1 := hid hcw7
  clear hcw7 hgw7 MK1
  obtain ⟨p1, hp1⟩ : ∃ q, q = w6.heap.size := ⟨_, rfl⟩
  rw [← hp1] at M1
  rw [← hp1]
  have HP1 := hid hp1
  clear hp1
  have ml1 := hid (M1.out.ltC HCL1.out)
  have hBw7 := hBw6.trans (hbw7.mono hBw6.size)
  have zw7 := hid (hbw7.size)
  have PP_w7 := hid (PP_w6.out.belowS hbw7)
  clear PP_w6
  have O0_w7 := hid (O0_w6.out.below hbw7)
  clear O0_w6
  have M0_w7 := hid (M0_w6.out.belowC HCL0.out hbw7)
  clear M0_w6
  have hTg5_w7 := hid (hTg5_w6.out.below' hbw7)
  clear hTg5_w6
  have SH_w7 := hid (SH_w6.out.below hbw7)
  clear SH_w6
  have MP_w7 := hid (MP_w6.out.belowS hbw7)
  clear MP_w6
  have O1_w7 := hid (O1.out.below hbw7)
  clear O1
  clear hbw7 hBw6
  clear c0
  have HE : Hid (Calls Tryz.prog 18 #[.agg cs1.toArray, .agg cs0.toArray] w7 fun e w' => e = .returned (.bool true) ∧ Below w7.heap.size w7 w') := by
    rw [HCS1.out, HCS0.out]; exact eqWorldO_any ts0 key0 bd0 n0 _ _ bh1 _ _ _ bh0 _ _ _ _ O1_w7.out O0_w7.out HG.out
  go_wp2_with (first | (refine wpList_load_cfG rfl 55 _ rfl p1 cs1 _ rfl M1.out Tryz.underlying55 rfl HSZ1.out ?_) | (refine wpList_load_cfG rfl 55 _ rfl p0 cs0 _ rfl M0_w7.out Tryz.underlying55 rfl HSZ0.out ?_))
  refine HE.out.mono ?_
  rintro e' w8 ⟨rfl, hb⟩
  clear HE
  have hBw8 := hBw7.trans (hb.mono hBw7.size)
  have zw8 := hid (hb.size)
  have PP_w8 := hid (PP_w7.out.belowS hb)
  clear PP_w7
  have O0_w8 := hid (O0_w7.out.below hb)
  clear O0_w7
  have M0_w8 := hid (M0_w7.out.belowC HCL0.out hb)
  clear M0_w7
  have hTg5_w8 := hid (hTg5_w7.out.below' hb)
  clear hTg5_w7
  have SH_w8 := hid (SH_w7.out.below hb)
  clear SH_w7
  have MP_w8 := hid (MP_w7.out.belowS hb)
  clear MP_w7
  have O1_w8 := hid (O1_w7.out.below hb)
  clear O1_w7
  have M1_w8 := hid (M1.out.belowC HCL1.out hb)
  clear M1
  clear hb hBw7
  have c0 : w8.cell? ⟨w.heap.size, 0, none⟩ = some (.slice pa pn pc) := (PP_w8.out 0 (by simp)).1
  have kq0 : w8.cell? ⟨w5.heap.size, 0, none⟩ = some (.slice (some ⟨g5, 0, none⟩) pn pn) := (MP_w8.out 0 (by simp)).1
  go_wp2
  have hBd := hBw8.drew
  have hdp6 := hp.below' hBd
  have PPd := hid (show CF w8.drew (w.heap.size) [.slice pa pn pc] from PP_w8.out)
  clear PP_w8
  have O0d := hid (O0_w8.out.below (Below.refl _ _).drew)
  clear O0_w8
  have M0d := hid (show CF w8.drew (p0) cs0 from M0_w8.out)
  clear M0_w8
  have hTg5d := hid (hTg5_w8.out.below' (Below.refl _ _).drew)
  clear hTg5_w8
  have SHd := hid (SH_w8.out.below (Below.refl _ _).drew)
  clear SH_w8
  have MPd := hid (show CF w8.drew (w5.heap.size) [.slice (some ⟨g5, 0, none⟩) pn pn] from MP_w8.out)
  clear MP_w8
  have O1d := hid (O1_w8.out.below (Below.refl _ _).drew)
  clear O1_w8
  have M1d := hid (show CF w8.drew (p1) cs1 from M1_w8.out)
  clear M1_w8
  go_region_held3 (fun w' => w'.cell? ⟨w.heap.size, 0, none⟩ = some (.slice pa pn pc) ∧ w'.cell? ⟨w5.heap.size, 0, none⟩ = some (.slice (some ⟨g5, 0, none⟩) pn pn)) (first | (simp [go_sem, *]; done) | assumption)
    (first
      | (go_at_call 9; refine (toPlan_any pa pb po pn pc ts _ hdp6 hpn).mono ?_; rintro e' w10 ⟨g10, xs10, rfl, ho10, hbu10, ht10, hb7⟩; have y0 := keepC hb7 c0; have t0 := keepC hb7 kq0; have hB7 := hBd.trans (hb7.mono hBd.size); have zw10 := hid (show w8.heap.size ≤ w10.heap.size from hb7.size); have PPe := hid (PPd.out.belowS hb7); have O0e := hid (O0d.out.below hb7); have M0e := hid (M0d.out.belowC HCL0.out hb7); have hTg5e := hid (hTg5d.out.below' hb7); have SHe := hid (SHd.out.below hb7); have MPe := hid (MPd.out.belowS hb7); have O1e := hid (O1d.out.below hb7); have M1e := hid (M1d.out.belowC HCL1.out hb7))
      | (go_at_call 12; refine (eqPlan_any _ _ g5 0 pn pn g10 0 pn ts _ hTg5e.out ht10).mono ?_; rintro e' w11 ⟨rfl, hb8⟩; have y0a := keepB hb8 y0; have t0a := keepB hb8 t0; have hBw11 := hB7.trans (hb8.mono hB7.size); have zw11 := hid hb8.size; have PPf := hid (PPe.out.belowS hb8); have O0f := hid (O0e.out.below hb8); have M0f := hid (M0e.out.belowC HCL0.out hb8); have hTg5f := hid (hTg5e.out.below' hb8); have SHf := hid (SHe.out.below hb8); have MPf := hid (MPe.out.belowS hb8); have O1f := hid (O1e.out.below hb8); have M1f := hid (M1e.out.belowC HCL1.out hb8)))
  clear c0 y0 y0a kq0 t0 t0a
  clear PPd PPe O0d O0e M0d M0e hTg5d hTg5e SHd SHe MPd MPe O1d O1e M1d M1e hB7 hBd hdp6 hb7 hb8 hBw8 ho10 hbu10 ht10
  have PP_w11 := PPf
  clear PPf
  have O0_w11 := O0f
  clear O0f
  have M0_w11 := M0f
  clear M0f
  have hTg5_w11 := hTg5f
  clear hTg5f
  have SH_w11 := SHf
  clear SHf
  have MP_w11 := MPf
  clear MPf
  have O1_w11 := O1f
  clear O1f
  have M1_w11 := M1f
  clear M1f
  have c0 : w11.cell? ⟨w5.heap.size, 0, none⟩ = some (.slice (some ⟨g5, 0, none⟩) pn pn) := (MP_w11.out 0 (by simp)).1
  go_wp2_with fail
  refine (markPlan_any g5 w5.heap.size pn pn 1 _ (by omega) (by omega) (by omega) hg5h.out SH_w11.out).mono ?_
  rintro e' w13 ⟨⟨rk, rfl, hrk⟩, hM13⟩
  clear c0
  clear SH_w11 MP_w11 hTg5_w11
  have PP_w13 := hid (PP_w11.out.midS hM13 (by have := hplB.out; have := zw2.out; have := lb0.out; have := zw3.out; have := HP0.out; have := ml0.out; have := zw4.out; have := hg5l.out; have := hg5h.out; have := zw5.out; have := qW5.out; have := zW5.out; have := lb1.out; have := zw6.out; have := HP1.out; have := ml1.out; have := zw7.out; have := zw8.out; have := zw10.out; have := zw11.out; omega))
  clear PP_w11
  have O0_w13 := hid (O0_w11.out.blk (fun r hr q hq => hM13.block q (O0_w11.out.lo r hr q hq).2 (by have h6 := lo0.out r hr q hq; have := hplB.out; have := zw2.out; have := lb0.out; have := zw3.out; have := HP0.out; have := ml0.out; have := zw4.out; have := hg5l.out; have := hg5h.out; have := zw5.out; have := qW5.out; have := zW5.out; have := lb1.out; have := zw6.out; have := HP1.out; have := ml1.out; have := zw7.out; have := zw8.out; have := zw10.out; have := zw11.out; omega)))
  clear O0_w11
  have M0_w13 := hid (M0_w11.out.block (hM13.block p0 (M0_w11.out.ltC HCL0.out) (by have := hplB.out; have := zw2.out; have := lb0.out; have := zw3.out; have := HP0.out; have := ml0.out; have := zw4.out; have := hg5l.out; have := hg5h.out; have := zw5.out; have := qW5.out; have := zW5.out; have := lb1.out; have := zw6.out; have := HP1.out; have := ml1.out; have := zw7.out; have := zw8.out; have := zw10.out; have := zw11.out; omega)))
  clear M0_w11
  have O1_w13 := hid (O1_w11.out.blk (fun r hr q hq => hM13.block q (O1_w11.out.lo r hr q hq).2 (by have h6 := lo1.out r hr q hq; have := hplB.out; have := zw2.out; have := lb0.out; have := zw3.out; have := HP0.out; have := ml0.out; have := zw4.out; have := hg5l.out; have := hg5h.out; have := zw5.out; have := qW5.out; have := zW5.out; have := lb1.out; have := zw6.out; have := HP1.out; have := ml1.out; have := zw7.out; have := zw8.out; have := zw10.out; have := zw11.out; omega)))
  clear O1_w11
  have M1_w13 := hid (M1_w11.out.block (hM13.block p1 (M1_w11.out.ltC HCL1.out) (by have := hplB.out; have := zw2.out; have := lb0.out; have := zw3.out; have := HP0.out; have := ml0.out; have := zw4.out; have := hg5l.out; have := hg5h.out; have := zw5.out; have := qW5.out; have := zW5.out; have := lb1.out; have := zw6.out; have := HP1.out; have := ml1.out; have := zw7.out; have := zw8.out; have := zw10.out; have := zw11.out; omega)))
  clear M1_w11
  have zw13 := hid hM13.size
  have hBw13 := Mid.below hBw11 hM13 (by have := hplB.out; have := zw2.out; have := lb0.out; have := zw3.out; have := HP0.out; have := ml0.out; have := zw4.out; have := hg5l.out; have := hg5h.out; have := zw5.out; have := qW5.out; have := zW5.out; have := lb1.out; have := zw6.out; have := HP1.out; have := ml1.out; have := zw7.out; have := zw8.out; have := zw10.out; have := zw11.out; omega) hBw11.size
  clear hM13 hBw11
  have hrk' : ¬ rk < 0 := by omega
  have hdec : decide (rk < 0) = false := decide_eq_false hrk'
  clear hrk
  have HE : Hid (Calls Tryz.prog 18 #[.agg cs1.toArray, .agg cs0.toArray] w13 fun e w' => e = .returned (.bool true) ∧ Below w13.heap.size w13 w') := by
    rw [HCS1.out, HCS0.out]; exact eqWorldO_any ts0 key0 bd0 n0 _ _ bh1 _ _ _ bh0 _ _ _ _ O1_w13.out O0_w13.out HG.out
  go_wp2_with (first | (refine wpList_load_cfG (by first | rfl | (rw [hdec]; rfl)) 55 _ rfl p1 cs1 _ rfl M1_w13.out Tryz.underlying55 rfl HSZ1.out ?_) | (refine wpList_load_cfG (by first | rfl | (rw [hdec]; rfl)) 55 _ rfl p0 cs0 _ rfl M0_w13.out Tryz.underlying55 rfl HSZ0.out ?_))
  refine HE.out.mono ?_
  rintro e' w14 ⟨rfl, hb⟩
  clear HE
  have hBw14 := hBw13.trans (hb.mono hBw13.size)
  have zw14 := hid (hb.size)
  have PP_w14 := hid (PP_w13.out.belowS hb)
  clear PP_w13
  have O0_w14 := hid (O0_w13.out.below hb)
  clear O0_w13
  have M0_w14 := hid (M0_w13.out.belowC HCL0.out hb)
  clear M0_w13
  have O1_w14 := hid (O1_w13.out.below hb)
  clear O1_w13
  have M1_w14 := hid (M1_w13.out.belowC HCL1.out hb)
  clear M1_w13
  clear hb hBw13
  clear hrk' hdec
  have HMW : Hid (Calls Tryz.prog 19 #[.agg cs1.toArray, .int .i64 1] w14 fun e w' => e = .returned (.int .i64 (totW ts0 bd0 n0 : Nat)) ∧ WoM w' W5.heap.size ts0 (.slice pa1 ts0.length pc1) vs1 bd0 bh1 n0 (.slice wa1 n0 wc1) ∧ Grew (rowsW (.slice pa1 ts0.length pc1) ts0 vs1 bd0 bh1 (.slice wa1 n0 wc1)) w14 w') := by
    rw [HCS1.out]; exact markWorldO_any ts0 key0 bd0 n0 _ vs1 bh1 _ _ _ O1_w14.out HG.out
  go_wp2_with (first | (refine wpList_load_cfG rfl 55 _ rfl p1 cs1 _ rfl M1_w14.out Tryz.underlying55 rfl HSZ1.out ?_))
  refine HMW.out.mono ?_
  rintro e' w15 ⟨rfl, ho15, hg15⟩
  clear HMW
  clear O1_w14
  have PP_w15 := hid (PP_w14.out.block (hg15.block _ PP_w14.out.lt (fun r hr e => by have h5 := lo1.out r hr _ e; have := hplB.out; have := zw2.out; have := lb0.out; have := zw3.out; have := HP0.out; have := ml0.out; have := zw4.out; have := hg5l.out; have := hg5h.out; have := zw5.out; have := qW5.out; have := zW5.out; have := lb1.out; have := zw6.out; have := HP1.out; have := ml1.out; have := zw7.out; have := zw8.out; have := zw10.out; have := zw11.out; have := zw13.out; have := zw14.out; omega)))
  clear PP_w14
  have O0_w15 := hid (O0_w14.out.blk (fun r hr q hq => hg15.block q (O0_w14.out.lo r hr q hq).2 (fun r' hr' e => by have h5 := lo1.out r' hr' q e; have h6 := lo0.out r hr q hq; have := hplB.out; have := zw2.out; have := lb0.out; have := zw3.out; have := HP0.out; have := ml0.out; have := zw4.out; have := hg5l.out; have := hg5h.out; have := zw5.out; have := qW5.out; have := zW5.out; have := lb1.out; have := zw6.out; have := HP1.out; have := ml1.out; have := zw7.out; have := zw8.out; have := zw10.out; have := zw11.out; have := zw13.out; have := zw14.out; omega)))
  clear O0_w14
  have M0_w15 := hid (M0_w14.out.block (hg15.block _ (M0_w14.out.ltC HCL0.out) (fun r hr e => by have h5 := lo1.out r hr _ e; have := hplB.out; have := zw2.out; have := lb0.out; have := zw3.out; have := HP0.out; have := ml0.out; have := zw4.out; have := hg5l.out; have := hg5h.out; have := zw5.out; have := qW5.out; have := zW5.out; have := lb1.out; have := zw6.out; have := HP1.out; have := ml1.out; have := zw7.out; have := zw8.out; have := zw10.out; have := zw11.out; have := zw13.out; have := zw14.out; omega)))
  clear M0_w14
  have M1_w15 := hid (M1_w14.out.block (hg15.block _ (M1_w14.out.ltC HCL1.out) (fun r hr e => by have h5 := lo1.out r hr _ e; have := hplB.out; have := zw2.out; have := lb0.out; have := zw3.out; have := HP0.out; have := ml0.out; have := zw4.out; have := hg5l.out; have := hg5h.out; have := zw5.out; have := qW5.out; have := zW5.out; have := lb1.out; have := zw6.out; have := HP1.out; have := ml1.out; have := zw7.out; have := zw8.out; have := zw10.out; have := zw11.out; have := zw13.out; have := zw14.out; omega)))
  clear M1_w14
  have hBw15 := Grew.below hBw14 hg15 hBw14.size (fun r hr q hq => by have h5 := lo1.out r hr q hq; have := hplB.out; have := zw2.out; have := lb0.out; have := zw3.out; have := HP0.out; have := ml0.out; have := zw4.out; have := hg5l.out; have := hg5h.out; have := zw5.out; have := qW5.out; have := zW5.out; have := lb1.out; have := zw6.out; have := HP1.out; have := ml1.out; have := zw7.out; have := zw8.out; have := zw10.out; have := zw11.out; have := zw13.out; have := zw14.out; omega)
  have zw15 := hid hg15.size
  clear hg15 hBw14
  have MK := hid ho15
  clear ho15
  have hpk : ¬ ((totW ts0 bd0 n0 : Nat) : Int) < 0 := by omega
  have HH : Hid (Calls Tryz.prog 20 #[.agg cs1.toArray, .int .i64 1] w15 fun e w' => e = .returned (.int .i64 (totW ts0 bd0 n0 : Nat)) ∧ Below w15.heap.size w15 w') := by
    rw [HCS1.out]; exact heldWorldO_any ts0 key0 bd0 n0 _ vs1 bh1 _ _ _ MK.out HG.out
  go_wp2_with (first | (refine wpList_load_cfG rfl 55 _ rfl p1 cs1 _ rfl M1_w15.out Tryz.underlying55 rfl HSZ1.out ?_))
  refine HH.out.mono ?_
  rintro e' w16 ⟨rfl, hb⟩
  clear HH
  have hBw16 := hBw15.trans (hb.mono hBw15.size)
  have zw16 := hid (hb.size)
  have PP_w16 := hid (PP_w15.out.belowS hb)
  clear PP_w15
  have O0_w16 := hid (O0_w15.out.below hb)
  clear O0_w15
  have M0_w16 := hid (M0_w15.out.belowC HCL0.out hb)
  clear M0_w15
  have M1_w16 := hid (M1_w15.out.belowC HCL1.out hb)
  clear M1_w15
  have MK_w16 := hid (MK.out.below hb)
  clear MK
  clear hb hBw15
  have c0 : w16.cell? ⟨w.heap.size, 0, none⟩ = some (.slice pa pn pc) := (PP_w16.out 0 (by simp)).1
  go_wp2_with fail
  refine (toPlan_any pa pb po pn pc ts _ (hp.below' hBw16) hpn).mono ?_
  rintro e' w17 ⟨g17, xsg17, rfl, hog17, hbug17, htg17, hbg17⟩
  have hTg17 := hid htg17
  clear hog17 hbug17 htg17
  clear c0
  have hBw17 := hBw16.trans (hbg17.mono hBw16.size)
  have zw17 := hid (hbg17.size)
  have PP_w17 := hid (PP_w16.out.belowS hbg17)
  clear PP_w16
  have O0_w17 := hid (O0_w16.out.below hbg17)
  clear O0_w16
  have M0_w17 := hid (M0_w16.out.belowC HCL0.out hbg17)
  clear M0_w16
  have M1_w17 := hid (M1_w16.out.belowC HCL1.out hbg17)
  clear M1_w16
  have MK_w17 := hid (MK_w16.out.below hbg17)
  clear MK_w16
  clear hbg17 hBw16
  go_wp2_with fail
  refine (iNew_any _ g17 0 pn pn ts key wk _ hTg17.out hpn hky).mono ?_
  rintro e' w18 ⟨⟨ts2, key2, bd2, n2, vP2, vs2, bh2, vW2, he, hO2, hF2⟩, hbw18⟩
  obtain ⟨rfl, rfl, rfl, rfl⟩ := HF.out.uniq hF2
  clear hF2
  obtain ⟨pa2, pc2, rfl⟩ := hO2.pl.row.slice
  obtain ⟨wa2, wc2, rfl⟩ := hO2.cr.slice
  obtain ⟨cs2, hcs2⟩ : ∃ cs, cs = wvs (.slice pa2 ts0.length pc2) key0 bd0 bh2 (.slice wa2 n0 wc2) := ⟨_, rfl⟩
  rw [← hcs2] at he
  subst he
  have HCL2 : Hid (cs2.length = 17) := by rw [hcs2]; exact wvs_length _ _ _ _ _
  have HSZ2 : Hid ((Tryz.prog.info? 55).map (·.size) = some cs2.length) := by rw [HCL2.out]; exact Tryz.sizeWo
  have ONE2 : Hid (∀ v ∈ cs2, v.oneCell' = true) := by rw [hcs2]; exact wvs_one _ _ _ _ _ _ _ _ _
  have HCS2 := hid hcs2
  clear hcs2
  have O2 := hid hO2
  have lo2 := hid hO2.lo
  have lb2 := hid hbw18.size
  clear hO2
  clear hTg17
  have hBw18 := hBw17.trans (hbw18.mono hBw17.size)
  have zw18 := hid (hbw18.size)
  have PP_w18 := hid (PP_w17.out.belowS hbw18)
  clear PP_w17
  have O0_w18 := hid (O0_w17.out.below hbw18)
  clear O0_w17
  have M0_w18 := hid (M0_w17.out.belowC HCL0.out hbw18)
  clear M0_w17
  have M1_w18 := hid (M1_w17.out.belowC HCL1.out hbw18)
  clear M1_w17
  have MK_w18 := hid (MK_w17.out.below hbw18)
  clear MK_w17
  clear hbw18 hBw17
  have MK2 := hid (CF.made w18 zWv.toArray 55)
  go_upto_region 27 with (refine wpList_store_cf rfl 55 (.tmp 14) (.tmp 69) rfl w18.heap.size zWv cs2 rfl rfl MK2.out HCL2.out.symm HSZ2.out ONE2.out ?_; intro w19 hcw19 hgw19)
  have hbw19 := Below.made hgw19
  have M2 := hid hcw19
  clear hcw19 hgw19 MK2
  obtain ⟨p2, hp2⟩ : ∃ q, q = w18.heap.size := ⟨_, rfl⟩
  rw [← hp2] at M2
  rw [← hp2]
  have HP2 := hid hp2
  clear hp2
  have ml2 := hid (M2.out.ltC HCL2.out)
  have hBw19 := hBw18.trans (hbw19.mono hBw18.size)
  have zw19 := hid (hbw19.size)
  have PP_w19 := hid (PP_w18.out.belowS hbw19)
  clear PP_w18
  have O0_w19 := hid (O0_w18.out.below hbw19)
  clear O0_w18
  have M0_w19 := hid (M0_w18.out.belowC HCL0.out hbw19)
  clear M0_w18
  have M1_w19 := hid (M1_w18.out.belowC HCL1.out hbw19)
  clear M1_w18
  have MK_w19 := hid (MK_w18.out.below hbw19)
  clear MK_w18
  have O2_w19 := hid (O2.out.below hbw19)
  clear O2
  clear hbw19 hBw18
  have HE : Hid (Calls Tryz.prog 18 #[.agg cs2.toArray, .agg cs0.toArray] w19 fun e w' => e = .returned (.bool true) ∧ Below w19.heap.size w19 w') := by
    rw [HCS2.out, HCS0.out]; exact eqWorldO_any ts0 key0 bd0 n0 _ _ bh2 _ _ _ bh0 _ _ _ _ O2_w19.out O0_w19.out HG.out
  go_wp2_with (first | (refine wpList_load_cfG rfl 55 _ rfl p2 cs2 _ rfl M2.out Tryz.underlying55 rfl HSZ2.out ?_) | (refine wpList_load_cfG rfl 55 _ rfl p0 cs0 _ rfl M0_w19.out Tryz.underlying55 rfl HSZ0.out ?_))
  refine HE.out.mono ?_
  rintro e' w20 ⟨rfl, hb⟩
  clear HE
  have hBw20 := hBw19.trans (hb.mono hBw19.size)
  have zw20 := hid (hb.size)
  have PP_w20 := hid (PP_w19.out.belowS hb)
  clear PP_w19
  have O0_w20 := hid (O0_w19.out.below hb)
  clear O0_w19
  have M0_w20 := hid (M0_w19.out.belowC HCL0.out hb)
  clear M0_w19
  have M1_w20 := hid (M1_w19.out.belowC HCL1.out hb)
  clear M1_w19
  have MK_w20 := hid (MK_w19.out.below hb)
  clear MK_w19
  have O2_w20 := hid (O2_w19.out.below hb)
  clear O2_w19
  have M2_w20 := hid (M2.out.belowC HCL2.out hb)
  clear M2
  clear hb hBw19
  have HH : Hid (Calls Tryz.prog 20 #[.agg cs1.toArray, .int .i64 1] w20 fun e w' => e = .returned (.int .i64 (totW ts0 bd0 n0 : Nat)) ∧ Below w20.heap.size w20 w') := by
    rw [HCS1.out]; exact heldWorldO_any ts0 key0 bd0 n0 _ vs1 bh1 _ _ _ MK_w20.out HG.out
  go_wp2_with (first | (refine wpList_load_cfG rfl 55 _ rfl p1 cs1 _ rfl M1_w20.out Tryz.underlying55 rfl HSZ1.out ?_))
  refine HH.out.mono ?_
  rintro e' w21 ⟨rfl, hb⟩
  clear HH
  have hBw21 := hBw20.trans (hb.mono hBw20.size)
  have zw21 := hid (hb.size)
  have PP_w21 := hid (PP_w20.out.belowS hb)
  clear PP_w20
  have O0_w21 := hid (O0_w20.out.below hb)
  clear O0_w20
  have M0_w21 := hid (M0_w20.out.belowC HCL0.out hb)
  clear M0_w20
  have M1_w21 := hid (M1_w20.out.belowC HCL1.out hb)
  clear M1_w20
  have MK_w21 := hid (MK_w20.out.below hb)
  clear MK_w20
  have O2_w21 := hid (O2_w20.out.below hb)
  clear O2_w20
  have M2_w21 := hid (M2_w20.out.belowC HCL2.out hb)
  clear M2_w20
  clear hb hBw20
  go_wp2
  go_ret
  exact ⟨rfl, hBw21⟩
end Go.Proofs.YtbfamabkbkpmpaaGreat
