
/-
  The law FnExactWorkerRise's walk.
-/
import Derived.Test.YtlpmcjlcmjlbeaaWra
import Derived.Test.YtlpmcjlcmjlbeaaWri
namespace Go.Proofs.Ytlpmcjlcmjlbeaa
open Go.RowKit

set_option maxHeartbeats 8000000 in
set_option maxRecDepth 100000 in
theorem fnExactWorkerRise_walk (nu ep : Int) (up : Bool) (st le ta co lf : Int) (x : ByteArray) (si : Int) (a : Option Addr) (b o n c : Nat) (ss : List ByteArray) (w : World) (h : StrsAt w a b o n ss) (hx : x.size ≤ maxLen) :
    Calls Try.prog 5 #[.agg #[.int .i64 nu, .int .i64 ep, .bool up, .int .i64 st, .int .i64 le, .int .i64 ta, .int .i64 co, .int .i64 lf, .slice a n c, .string x, .int .i64 si]] w fun e' w' => e' = .returned (.bool true) ∧ Below w.heap.size w w' := by
  have hBw : Below w.heap.size w w := Below.refl _ _
  obtain ⟨W, hW⟩ : ∃ W, W = w.alloc (.cells #[.int .i64 nu, .int .i64 ep, .bool up, .int .i64 st, .int .i64 le, .int .i64 ta, .int .i64 co, .int .i64 lf, .slice a n c, .string x, .int .i64 si] 24) := ⟨_, rfl⟩
  have hbaW : Below w.heap.size w W := by rw [hW]; exact (Below.refl _ _).alloc (Nat.le_refl _) _
  have qW := hid (show W.heap.size = w.heap.size + 1 by rw [hW]; simp)
  have MA := hid (show MC W w.heap.size [.int .i64 nu, .int .i64 ep, .bool up, .int .i64 st, .int .i64 le, .int .i64 ta, .int .i64 co, .int .i64 lf, .slice a n c, .string x, .int .i64 si] by rw [hW]; exact MC.made w _ _)
  have HW := hid hW
  clear hW
  have hBW := hBw.trans (hbaW.mono hBw.size)
  have zW := hid (hbaW.size)
  clear hbaW
  go_enter Try.func5, Try.ntmps5
  go_wp2_with fail
  rw [← HW.out]
  clear HW
  refine (szWorker_any nu ep up st le ta co lf x si a b o n c ss _ (h.below' hBW) hx).mono ?_
  rintro e' w1 ⟨⟨r, rfl, hr⟩, hb1⟩
  have hBw1 := hBW.trans (hb1.mono hBW.size)
  have zw1 := hid (hb1.size)
  have MA_w1 := hid (MA.out.belowS hb1)
  clear MA
  clear hb1 hBW
  rcases hr with rfl | ⟨hr0, hr1, hs, hx1⟩
  · go_wp2
    go_ret
    exact ⟨rfl, hBw1⟩
  have hnn : n ≤ 1048576 := by omega
  clear hx1
  have c0 : w1.cell? ⟨w.heap.size, 0, none⟩ = some (.int .i64 nu) := MA_w1.out 0 (by simp)
  have c1 : w1.cell? ⟨w.heap.size, 1, none⟩ = some (.int .i64 ep) := MA_w1.out 1 (by simp)
  have c2 : w1.cell? ⟨w.heap.size, 2, none⟩ = some (.bool up) := MA_w1.out 2 (by simp)
  have c3 : w1.cell? ⟨w.heap.size, 3, none⟩ = some (.int .i64 st) := MA_w1.out 3 (by simp)
  have c4 : w1.cell? ⟨w.heap.size, 4, none⟩ = some (.int .i64 le) := MA_w1.out 4 (by simp)
  have c5 : w1.cell? ⟨w.heap.size, 5, none⟩ = some (.int .i64 ta) := MA_w1.out 5 (by simp)
  have c6 : w1.cell? ⟨w.heap.size, 6, none⟩ = some (.int .i64 co) := MA_w1.out 6 (by simp)
  have c7 : w1.cell? ⟨w.heap.size, 7, none⟩ = some (.int .i64 lf) := MA_w1.out 7 (by simp)
  have c8 : w1.cell? ⟨w.heap.size, 8, none⟩ = some (.slice a n c) := MA_w1.out 8 (by simp)
  have c9 : w1.cell? ⟨w.heap.size, 9, none⟩ = some (.string x) := MA_w1.out 9 (by simp)
  have c10 : w1.cell? ⟨w.heap.size, 10, none⟩ = some (.int .i64 si) := MA_w1.out 10 (by simp)
  go_wp2_with fail
  refine (toWorker_any nu ep up st le ta co lf x si a b o n c ss _ (h.below' hBw1) hnn).mono ?_
  rintro e' w2 ⟨⟨g2, rfl, ho2⟩, hb2⟩
  have h2s := hid (StrsAt.ofOwn ho2 h.sz)
  clear ho2
  clear c0 c1 c2 c3 c4 c5 c6 c7 c8 c9 c10
  have hBw2 := hBw1.trans (hb2.mono hBw1.size)
  have zw2 := hid (hb2.size)
  have MA_w2 := hid (MA_w1.out.belowS hb2)
  clear MA_w1
  clear hb2 hBw1
  go_wp2_with fail
  refine (sRise_any nu ep up st le ta co lf _ g2 0 n n ss x si _ h2s.out).mono ?_
  rintro e' w3 ⟨⟨⟨nu1, ep1, up1, st1, le1, ta1, co1, lf1, ss1, x1, si1⟩, aw, cs, he, hos, hF⟩, hb3⟩
  simp only [WD.v] at he
  subst he
  have HF := hid hF
  obtain ⟨hn8, hsz⟩ := hF.small
  dsimp only at hn8 hsz hos
  have HSZ := hid hsz
  clear hF hsz h2s
  obtain ⟨bs, os, hSs, hbs⟩ := hos.strsB HSZ.out
  have ST := hid hSs
  have hbs1 := hid (fun h0 : 0 < ss1.length => hSs.lt h0)
  clear hSs hos hbs
  have hBw3 := hBw2.trans (hb3.mono hBw2.size)
  have zw3 := hid (hb3.size)
  have MA_w3 := hid (MA_w2.out.belowS hb3)
  clear MA_w2
  clear hb3 hBw2
  obtain ⟨W3, hW3⟩ : ∃ W3, W3 = w3.alloc (.cells #[.int .i64 nu1, .int .i64 ep1, .bool up1, .int .i64 st1, .int .i64 le1, .int .i64 ta1, .int .i64 co1, .int .i64 lf1, .slice aw ss1.length cs, .string x1, .int .i64 si1] 27) := ⟨_, rfl⟩
  have hbaW3 : Below w3.heap.size w3 W3 := by rw [hW3]; exact (Below.refl _ _).alloc (Nat.le_refl _) _
  have qW3 := hid (show W3.heap.size = w3.heap.size + 1 by rw [hW3]; simp)
  have MW := hid (show MC W3 w3.heap.size [.int .i64 nu1, .int .i64 ep1, .bool up1, .int .i64 st1, .int .i64 le1, .int .i64 ta1, .int .i64 co1, .int .i64 lf1, .slice aw ss1.length cs, .string x1, .int .i64 si1] by rw [hW3]; exact MC.made w3 _ _)
  have HW3 := hid hW3
  clear hW3
  have hBW3 := hBw3.trans (hbaW3.mono hBw3.size)
  have zW3 := hid (hbaW3.size)
  have MA_W3 := hid (MA_w3.out.belowS hbaW3)
  clear MA_w3
  have ST_W3 := hid (ST.out.below' hbaW3)
  clear ST
  clear hbaW3 hBw3
  go_upto_region 6 with fail
  rw [← HW3.out]
  clear HW3
  have c0 : W3.cell? ⟨w.heap.size, 0, none⟩ = some (.int .i64 nu) := MA_W3.out 0 (by simp)
  have c1 : W3.cell? ⟨w.heap.size, 1, none⟩ = some (.int .i64 ep) := MA_W3.out 1 (by simp)
  have c2 : W3.cell? ⟨w.heap.size, 2, none⟩ = some (.bool up) := MA_W3.out 2 (by simp)
  have c3 : W3.cell? ⟨w.heap.size, 3, none⟩ = some (.int .i64 st) := MA_W3.out 3 (by simp)
  have c4 : W3.cell? ⟨w.heap.size, 4, none⟩ = some (.int .i64 le) := MA_W3.out 4 (by simp)
  have c5 : W3.cell? ⟨w.heap.size, 5, none⟩ = some (.int .i64 ta) := MA_W3.out 5 (by simp)
  have c6 : W3.cell? ⟨w.heap.size, 6, none⟩ = some (.int .i64 co) := MA_W3.out 6 (by simp)
  have c7 : W3.cell? ⟨w.heap.size, 7, none⟩ = some (.int .i64 lf) := MA_W3.out 7 (by simp)
  have c8 : W3.cell? ⟨w.heap.size, 8, none⟩ = some (.slice a n c) := MA_W3.out 8 (by simp)
  have c9 : W3.cell? ⟨w.heap.size, 9, none⟩ = some (.string x) := MA_W3.out 9 (by simp)
  have c10 : W3.cell? ⟨w.heap.size, 10, none⟩ = some (.int .i64 si) := MA_W3.out 10 (by simp)
  go_wp2_with fail
  refine (toWorker_any nu ep up st le ta co lf x si a b o n c ss _ (h.below' hBW3) hnn).mono ?_
  rintro e' w4 ⟨⟨g4, rfl, ho4⟩, hb4⟩
  have hg4 := hid ho4.lo
  have hg4' := hid ho4.hi
  have OX := hid (show Own _ w4 1 (.slice (some ⟨g4, 0, none⟩) n n) n (ss.map Value.string) from .inr ⟨g4, 0, n, rfl, ho4⟩)
  have h4s := hid (StrsAt.ofOwn ho4 h.sz)
  clear ho4
  clear c0 c1 c2 c3 c4 c5 c6 c7 c8 c9 c10
  have hBw4 := hBW3.trans (hb4.mono hBW3.size)
  have zw4 := hid (hb4.size)
  have MA_w4 := hid (MA_W3.out.belowS hb4)
  clear MA_W3
  have ST_w4 := hid (ST_W3.out.below' hb4)
  clear ST_W3
  have MW_w4 := hid (MW.out.belowS hb4)
  clear MW
  clear hb4 hBW3
  obtain ⟨W4, hW4⟩ : ∃ W4, W4 = w4.alloc (.cells #[.int .i64 nu, .int .i64 ep, .bool up, .int .i64 st, .int .i64 le, .int .i64 ta, .int .i64 co, .int .i64 lf, .slice (some ⟨g4, 0, none⟩) n n, .string x, .int .i64 si] 27) := ⟨_, rfl⟩
  have hbaW4 : Below w4.heap.size w4 W4 := by rw [hW4]; exact (Below.refl _ _).alloc (Nat.le_refl _) _
  have qW4 := hid (show W4.heap.size = w4.heap.size + 1 by rw [hW4]; simp)
  have MX := hid (show MC W4 w4.heap.size [.int .i64 nu, .int .i64 ep, .bool up, .int .i64 st, .int .i64 le, .int .i64 ta, .int .i64 co, .int .i64 lf, .slice (some ⟨g4, 0, none⟩) n n, .string x, .int .i64 si] by rw [hW4]; exact MC.made w4 _ _)
  have HW4 := hid hW4
  clear hW4
  have hBW4 := hBw4.trans (hbaW4.mono hBw4.size)
  have zW4 := hid (hbaW4.size)
  have MA_W4 := hid (MA_w4.out.belowS hbaW4)
  clear MA_w4
  have ST_W4 := hid (ST_w4.out.below' hbaW4)
  clear ST_w4
  have MW_W4 := hid (MW_w4.out.belowS hbaW4)
  clear MW_w4
  have OX_W4 := hid (OX.out.below hbaW4 (Nat.le_refl _))
  clear OX
  have h4s_W4 := hid (h4s.out.below' hbaW4)
  clear h4s
  clear hbaW4 hBw4
  go_upto_region 7 with fail
  rw [← HW4.out]
  clear HW4
  have q0 : W4.cell? ⟨w4.heap.size, 0, none⟩ = some (.int .i64 nu) := MX.out 0 (by simp)
  have q1 : W4.cell? ⟨w4.heap.size, 1, none⟩ = some (.int .i64 ep) := MX.out 1 (by simp)
  have q2 : W4.cell? ⟨w4.heap.size, 2, none⟩ = some (.bool up) := MX.out 2 (by simp)
  have q3 : W4.cell? ⟨w4.heap.size, 3, none⟩ = some (.int .i64 st) := MX.out 3 (by simp)
  have q4 : W4.cell? ⟨w4.heap.size, 4, none⟩ = some (.int .i64 le) := MX.out 4 (by simp)
  have q5 : W4.cell? ⟨w4.heap.size, 5, none⟩ = some (.int .i64 ta) := MX.out 5 (by simp)
  have q6 : W4.cell? ⟨w4.heap.size, 6, none⟩ = some (.int .i64 co) := MX.out 6 (by simp)
  have q7 : W4.cell? ⟨w4.heap.size, 7, none⟩ = some (.int .i64 lf) := MX.out 7 (by simp)
  have q8 : W4.cell? ⟨w4.heap.size, 8, none⟩ = some (.slice (some ⟨g4, 0, none⟩) n n) := MX.out 8 (by simp)
  have q9 : W4.cell? ⟨w4.heap.size, 9, none⟩ = some (.string x) := MX.out 9 (by simp)
  have q10 : W4.cell? ⟨w4.heap.size, 10, none⟩ = some (.int .i64 si) := MX.out 10 (by simp)
  go_wp2_with fail
  refine (iRise_any nu ep up st le ta co lf _ g4 0 n n ss x si _ h4s_W4.out).mono ?_
  rintro e' w5 ⟨⟨⟨nu2, ep2, up2, st2, le2, ta2, co2, lf2, ss2, x2, si2⟩, ai, ci, he, hoi, hF⟩, hb5⟩
  have hu := HF.out.uniq hF
  simp only [WD.mk.injEq] at hu
  obtain ⟨rfl, rfl, rfl, rfl, rfl, rfl, rfl, rfl, rfl, rfl, rfl⟩ := hu
  simp only [WD.v] at he
  subst he
  dsimp only at hoi
  have hloi := hid hoi.row_lo
  have hhii := hid hoi.row_hi
  have OG := hid hoi
  clear hoi hF
  clear q0 q1 q2 q3 q4 q5 q6 q7 q8 q9 q10
  have hBw5 := hBW4.trans (hb5.mono hBW4.size)
  have zw5 := hid (hb5.size)
  have MA_w5 := hid (MA_W4.out.belowS hb5)
  clear MA_W4
  have ST_w5 := hid (ST_W4.out.below' hb5)
  clear ST_W4
  have MW_w5 := hid (MW_W4.out.belowS hb5)
  clear MW_W4
  have OX_w5 := hid (OX_W4.out.below hb5 (Nat.le_refl _))
  clear OX_W4
  have h4s_w5 := hid (h4s_W4.out.below' hb5)
  clear h4s_W4
  have MX_w5 := hid (MX.out.belowS hb5)
  clear MX
  clear hb5 hBW4
  obtain ⟨W5, hW5⟩ : ∃ W5, W5 = w5.alloc (.cells #[.int .i64 nu1, .int .i64 ep1, .bool up1, .int .i64 st1, .int .i64 le1, .int .i64 ta1, .int .i64 co1, .int .i64 lf1, .slice ai ss1.length ci, .string x1, .int .i64 si1] 27) := ⟨_, rfl⟩
  have hbaW5 : Below w5.heap.size w5 W5 := by rw [hW5]; exact (Below.refl _ _).alloc (Nat.le_refl _) _
  have qW5 := hid (show W5.heap.size = w5.heap.size + 1 by rw [hW5]; simp)
  have MG := hid (show MC W5 w5.heap.size [.int .i64 nu1, .int .i64 ep1, .bool up1, .int .i64 st1, .int .i64 le1, .int .i64 ta1, .int .i64 co1, .int .i64 lf1, .slice ai ss1.length ci, .string x1, .int .i64 si1] by rw [hW5]; exact MC.made w5 _ _)
  have HW5 := hid hW5
  clear hW5
  have hBW5 := hBw5.trans (hbaW5.mono hBw5.size)
  have zW5 := hid (hbaW5.size)
  have MA_W5 := hid (MA_w5.out.belowS hbaW5)
  clear MA_w5
  have ST_W5 := hid (ST_w5.out.below' hbaW5)
  clear ST_w5
  have MW_W5 := hid (MW_w5.out.belowS hbaW5)
  clear MW_w5
  have OX_W5 := hid (OX_w5.out.below hbaW5 (Nat.le_refl _))
  clear OX_w5
  have h4s_W5 := hid (h4s_w5.out.below' hbaW5)
  clear h4s_w5
  have MX_W5 := hid (MX_w5.out.belowS hbaW5)
  clear MX_w5
  have OG_W5 := hid (OG.out.below hbaW5 (Nat.le_refl _))
  clear OG
  clear hbaW5 hBw5
  go_upto_region 8 with fail
  rw [← HW5.out]
  clear HW5
  have c0 : W5.cell? ⟨w5.heap.size, 0, none⟩ = some (.int .i64 nu1) := MG.out 0 (by simp)
  have c1 : W5.cell? ⟨w5.heap.size, 1, none⟩ = some (.int .i64 ep1) := MG.out 1 (by simp)
  have c2 : W5.cell? ⟨w5.heap.size, 2, none⟩ = some (.bool up1) := MG.out 2 (by simp)
  have c3 : W5.cell? ⟨w5.heap.size, 3, none⟩ = some (.int .i64 st1) := MG.out 3 (by simp)
  have c4 : W5.cell? ⟨w5.heap.size, 4, none⟩ = some (.int .i64 le1) := MG.out 4 (by simp)
  have c5 : W5.cell? ⟨w5.heap.size, 5, none⟩ = some (.int .i64 ta1) := MG.out 5 (by simp)
  have c6 : W5.cell? ⟨w5.heap.size, 6, none⟩ = some (.int .i64 co1) := MG.out 6 (by simp)
  have c7 : W5.cell? ⟨w5.heap.size, 7, none⟩ = some (.int .i64 lf1) := MG.out 7 (by simp)
  have c8 : W5.cell? ⟨w5.heap.size, 8, none⟩ = some (.slice ai ss1.length ci) := MG.out 8 (by simp)
  have c9 : W5.cell? ⟨w5.heap.size, 9, none⟩ = some (.string x1) := MG.out 9 (by simp)
  have c10 : W5.cell? ⟨w5.heap.size, 10, none⟩ = some (.int .i64 si1) := MG.out 10 (by simp)
  have q0 : W5.cell? ⟨w3.heap.size, 0, none⟩ = some (.int .i64 nu1) := MW_W5.out 0 (by simp)
  have q1 : W5.cell? ⟨w3.heap.size, 1, none⟩ = some (.int .i64 ep1) := MW_W5.out 1 (by simp)
  have q2 : W5.cell? ⟨w3.heap.size, 2, none⟩ = some (.bool up1) := MW_W5.out 2 (by simp)
  have q3 : W5.cell? ⟨w3.heap.size, 3, none⟩ = some (.int .i64 st1) := MW_W5.out 3 (by simp)
  have q4 : W5.cell? ⟨w3.heap.size, 4, none⟩ = some (.int .i64 le1) := MW_W5.out 4 (by simp)
  have q5 : W5.cell? ⟨w3.heap.size, 5, none⟩ = some (.int .i64 ta1) := MW_W5.out 5 (by simp)
  have q6 : W5.cell? ⟨w3.heap.size, 6, none⟩ = some (.int .i64 co1) := MW_W5.out 6 (by simp)
  have q7 : W5.cell? ⟨w3.heap.size, 7, none⟩ = some (.int .i64 lf1) := MW_W5.out 7 (by simp)
  have q8 : W5.cell? ⟨w3.heap.size, 8, none⟩ = some (.slice aw ss1.length cs) := MW_W5.out 8 (by simp)
  have q9 : W5.cell? ⟨w3.heap.size, 9, none⟩ = some (.string x1) := MW_W5.out 9 (by simp)
  have q10 : W5.cell? ⟨w3.heap.size, 10, none⟩ = some (.int .i64 si1) := MW_W5.out 10 (by simp)
  obtain ⟨bi, oi, hSi, hbi⟩ := OG_W5.out.strsB HSZ.out
  go_wp2_with fail
  refine (eqWorker_any nu1 ep1 up1 st1 le1 ta1 co1 lf1 x1 si1 ai aw bi oi ss1.length ci bs os cs ss1 _ hSi ST_W5.out).mono ?_
  rintro e' w6 ⟨rfl, hb⟩
  clear hSi hbi bi oi
  clear c0 c1 c2 c3 c4 c5 c6 c7 c8 c9 c10 q0 q1 q2 q3 q4 q5 q6 q7 q8 q9 q10
  have hBw6 := hBW5.trans (hb.mono hBW5.size)
  have zw6 := hid (hb.size)
  have MA_w6 := hid (MA_W5.out.belowS hb)
  clear MA_W5
  have ST_w6 := hid (ST_W5.out.below' hb)
  clear ST_W5
  have MW_w6 := hid (MW_W5.out.belowS hb)
  clear MW_W5
  have OX_w6 := hid (OX_W5.out.below hb (Nat.le_refl _))
  clear OX_W5
  have h4s_w6 := hid (h4s_W5.out.below' hb)
  clear h4s_W5
  have MX_w6 := hid (MX_W5.out.belowS hb)
  clear MX_W5
  have OG_w6 := hid (OG_W5.out.below hb (Nat.le_refl _))
  clear OG_W5
  have MG_w6 := hid (MG.out.belowS hb)
  clear MG
  clear hb hBW5
  have c0 : w6.cell? ⟨w.heap.size, 0, none⟩ = some (.int .i64 nu) := MA_w6.out 0 (by simp)
  have c1 : w6.cell? ⟨w.heap.size, 1, none⟩ = some (.int .i64 ep) := MA_w6.out 1 (by simp)
  have c2 : w6.cell? ⟨w.heap.size, 2, none⟩ = some (.bool up) := MA_w6.out 2 (by simp)
  have c3 : w6.cell? ⟨w.heap.size, 3, none⟩ = some (.int .i64 st) := MA_w6.out 3 (by simp)
  have c4 : w6.cell? ⟨w.heap.size, 4, none⟩ = some (.int .i64 le) := MA_w6.out 4 (by simp)
  have c5 : w6.cell? ⟨w.heap.size, 5, none⟩ = some (.int .i64 ta) := MA_w6.out 5 (by simp)
  have c6 : w6.cell? ⟨w.heap.size, 6, none⟩ = some (.int .i64 co) := MA_w6.out 6 (by simp)
  have c7 : w6.cell? ⟨w.heap.size, 7, none⟩ = some (.int .i64 lf) := MA_w6.out 7 (by simp)
  have c8 : w6.cell? ⟨w.heap.size, 8, none⟩ = some (.slice a n c) := MA_w6.out 8 (by simp)
  have c9 : w6.cell? ⟨w.heap.size, 9, none⟩ = some (.string x) := MA_w6.out 9 (by simp)
  have c10 : w6.cell? ⟨w.heap.size, 10, none⟩ = some (.int .i64 si) := MA_w6.out 10 (by simp)
  have q0 : w6.cell? ⟨w4.heap.size, 0, none⟩ = some (.int .i64 nu) := MX_w6.out 0 (by simp)
  have q1 : w6.cell? ⟨w4.heap.size, 1, none⟩ = some (.int .i64 ep) := MX_w6.out 1 (by simp)
  have q2 : w6.cell? ⟨w4.heap.size, 2, none⟩ = some (.bool up) := MX_w6.out 2 (by simp)
  have q3 : w6.cell? ⟨w4.heap.size, 3, none⟩ = some (.int .i64 st) := MX_w6.out 3 (by simp)
  have q4 : w6.cell? ⟨w4.heap.size, 4, none⟩ = some (.int .i64 le) := MX_w6.out 4 (by simp)
  have q5 : w6.cell? ⟨w4.heap.size, 5, none⟩ = some (.int .i64 ta) := MX_w6.out 5 (by simp)
  have q6 : w6.cell? ⟨w4.heap.size, 6, none⟩ = some (.int .i64 co) := MX_w6.out 6 (by simp)
  have q7 : w6.cell? ⟨w4.heap.size, 7, none⟩ = some (.int .i64 lf) := MX_w6.out 7 (by simp)
  have q8 : w6.cell? ⟨w4.heap.size, 8, none⟩ = some (.slice (some ⟨g4, 0, none⟩) n n) := MX_w6.out 8 (by simp)
  have q9 : w6.cell? ⟨w4.heap.size, 9, none⟩ = some (.string x) := MX_w6.out 9 (by simp)
  have q10 : w6.cell? ⟨w4.heap.size, 10, none⟩ = some (.int .i64 si) := MX_w6.out 10 (by simp)
  go_wp2
  have hBd := hBw6.drew
  have h6d := h.below' hBd
  have MAd := hid (show MC w6.drew w.heap.size [.int .i64 nu, .int .i64 ep, .bool up, .int .i64 st, .int .i64 le, .int .i64 ta, .int .i64 co, .int .i64 lf, .slice a n c, .string x, .int .i64 si] from MA_w6.out)
  clear MA_w6
  have STd := hid (ST_w6.out.drew)
  clear ST_w6
  have MWd := hid (show MC w6.drew w3.heap.size [.int .i64 nu1, .int .i64 ep1, .bool up1, .int .i64 st1, .int .i64 le1, .int .i64 ta1, .int .i64 co1, .int .i64 lf1, .slice aw ss1.length cs, .string x1, .int .i64 si1] from MW_w6.out)
  clear MW_w6
  have OXd := hid (OX_w6.out.drewW)
  clear OX_w6
  have h4sd := hid (h4s_w6.out.drew)
  clear h4s_w6
  have MXd := hid (show MC w6.drew w4.heap.size [.int .i64 nu, .int .i64 ep, .bool up, .int .i64 st, .int .i64 le, .int .i64 ta, .int .i64 co, .int .i64 lf, .slice (some ⟨g4, 0, none⟩) n n, .string x, .int .i64 si] from MX_w6.out)
  clear MX_w6
  have OGd := hid (OG_w6.out.drewW)
  clear OG_w6
  have MGd := hid (show MC w6.drew w5.heap.size [.int .i64 nu1, .int .i64 ep1, .bool up1, .int .i64 st1, .int .i64 le1, .int .i64 ta1, .int .i64 co1, .int .i64 lf1, .slice ai ss1.length ci, .string x1, .int .i64 si1] from MG_w6.out)
  clear MG_w6
  go_region_held3 (fun w' => w'.cell? ⟨w.heap.size, 0, none⟩ = some (.int .i64 nu) ∧ w'.cell? ⟨w.heap.size, 1, none⟩ = some (.int .i64 ep) ∧ w'.cell? ⟨w.heap.size, 2, none⟩ = some (.bool up) ∧ w'.cell? ⟨w.heap.size, 3, none⟩ = some (.int .i64 st) ∧ w'.cell? ⟨w.heap.size, 4, none⟩ = some (.int .i64 le) ∧ w'.cell? ⟨w.heap.size, 5, none⟩ = some (.int .i64 ta) ∧ w'.cell? ⟨w.heap.size, 6, none⟩ = some (.int .i64 co) ∧ w'.cell? ⟨w.heap.size, 7, none⟩ = some (.int .i64 lf) ∧ w'.cell? ⟨w.heap.size, 8, none⟩ = some (.slice a n c) ∧ w'.cell? ⟨w.heap.size, 9, none⟩ = some (.string x) ∧ w'.cell? ⟨w.heap.size, 10, none⟩ = some (.int .i64 si) ∧ w'.cell? ⟨w4.heap.size, 0, none⟩ = some (.int .i64 nu) ∧ w'.cell? ⟨w4.heap.size, 1, none⟩ = some (.int .i64 ep) ∧ w'.cell? ⟨w4.heap.size, 2, none⟩ = some (.bool up) ∧ w'.cell? ⟨w4.heap.size, 3, none⟩ = some (.int .i64 st) ∧ w'.cell? ⟨w4.heap.size, 4, none⟩ = some (.int .i64 le) ∧ w'.cell? ⟨w4.heap.size, 5, none⟩ = some (.int .i64 ta) ∧ w'.cell? ⟨w4.heap.size, 6, none⟩ = some (.int .i64 co) ∧ w'.cell? ⟨w4.heap.size, 7, none⟩ = some (.int .i64 lf) ∧ w'.cell? ⟨w4.heap.size, 8, none⟩ = some (.slice (some ⟨g4, 0, none⟩) n n) ∧ w'.cell? ⟨w4.heap.size, 9, none⟩ = some (.string x) ∧ w'.cell? ⟨w4.heap.size, 10, none⟩ = some (.int .i64 si)) (first | (simp [go_sem, *]; done) | assumption)
    (first
      | (go_at_call 9; refine (toWorker_any nu ep up st le ta co lf x si a b o n c ss _ h6d hnn).mono ?_; rintro e' w7 ⟨⟨g7, rfl, ho7⟩, hb7⟩; have y0 := keepC hb7 c0; have t0 := keepC hb7 q0; have y1 := keepC hb7 c1; have t1 := keepC hb7 q1; have y2 := keepC hb7 c2; have t2 := keepC hb7 q2; have y3 := keepC hb7 c3; have t3 := keepC hb7 q3; have y4 := keepC hb7 c4; have t4 := keepC hb7 q4; have y5 := keepC hb7 c5; have t5 := keepC hb7 q5; have y6 := keepC hb7 c6; have t6 := keepC hb7 q6; have y7 := keepC hb7 c7; have t7 := keepC hb7 q7; have y8 := keepC hb7 c8; have t8 := keepC hb7 q8; have y9 := keepC hb7 c9; have t9 := keepC hb7 q9; have y10 := keepC hb7 c10; have t10 := keepC hb7 q10; have hB7 := hBd.trans (hb7.mono hBd.size); have h7s := StrsAt.ofOwn ho7 h.sz; have zw7 := hid (show w6.heap.size ≤ w7.heap.size from hb7.size); have MAe := hid (MAd.out.belowS hb7); have STe := hid (STd.out.below' hb7); have MWe := hid (MWd.out.belowS hb7); have OXe := hid (OXd.out.below hb7 (Nat.le_refl _)); have h4se := hid (h4sd.out.below' hb7); have MXe := hid (MXd.out.belowS hb7); have OGe := hid (OGd.out.below hb7 (Nat.le_refl _)); have MGe := hid (MGd.out.belowS hb7))
      | (go_at_call 11; refine (eqWorker_any nu ep up st le ta co lf x si _ _ g4 0 n n g7 0 n ss _ h4se.out h7s).mono ?_; rintro e' w8 ⟨rfl, hb8⟩; have y0a := keepB hb8 y0; have t0a := keepB hb8 t0; have y1a := keepB hb8 y1; have t1a := keepB hb8 t1; have y2a := keepB hb8 y2; have t2a := keepB hb8 t2; have y3a := keepB hb8 y3; have t3a := keepB hb8 t3; have y4a := keepB hb8 y4; have t4a := keepB hb8 t4; have y5a := keepB hb8 y5; have t5a := keepB hb8 t5; have y6a := keepB hb8 y6; have t6a := keepB hb8 t6; have y7a := keepB hb8 y7; have t7a := keepB hb8 t7; have y8a := keepB hb8 y8; have t8a := keepB hb8 t8; have y9a := keepB hb8 y9; have t9a := keepB hb8 t9; have y10a := keepB hb8 y10; have t10a := keepB hb8 t10; have hBw8 := hB7.trans (hb8.mono hB7.size); have zw8 := hid hb8.size; have MAf := hid (MAe.out.belowS hb8); have STf := hid (STe.out.below' hb8); have MWf := hid (MWe.out.belowS hb8); have OXf := hid (OXe.out.below hb8 (Nat.le_refl _)); have h4sf := hid (h4se.out.below' hb8); have MXf := hid (MXe.out.belowS hb8); have OGf := hid (OGe.out.below hb8 (Nat.le_refl _)); have MGf := hid (MGe.out.belowS hb8)))
  clear c0 q0 y0 t0 y0a t0a c1 q1 y1 t1 y1a t1a c2 q2 y2 t2 y2a t2a c3 q3 y3 t3 y3a t3a c4 q4 y4 t4 y4a t4a c5 q5 y5 t5 y5a t5a c6 q6 y6 t6 y6a t6a c7 q7 y7 t7 y7a t7a c8 q8 y8 t8 y8a t8a c9 q9 y9 t9 y9a t9a c10 q10 y10 t10 y10a t10a
  clear MAd MAe STd STe MWd MWe OXd OXe h4sd h4se MXd MXe OGd OGe MGd MGe hB7 hBd h6d h7s ho7 hb7 hb8
  have q0 : w8.cell? ⟨w4.heap.size, 0, none⟩ = some (.int .i64 nu) := MXf.out 0 (by simp)
  have q1 : w8.cell? ⟨w4.heap.size, 1, none⟩ = some (.int .i64 ep) := MXf.out 1 (by simp)
  have q2 : w8.cell? ⟨w4.heap.size, 2, none⟩ = some (.bool up) := MXf.out 2 (by simp)
  have q3 : w8.cell? ⟨w4.heap.size, 3, none⟩ = some (.int .i64 st) := MXf.out 3 (by simp)
  have q4 : w8.cell? ⟨w4.heap.size, 4, none⟩ = some (.int .i64 le) := MXf.out 4 (by simp)
  have q5 : w8.cell? ⟨w4.heap.size, 5, none⟩ = some (.int .i64 ta) := MXf.out 5 (by simp)
  have q6 : w8.cell? ⟨w4.heap.size, 6, none⟩ = some (.int .i64 co) := MXf.out 6 (by simp)
  have q7 : w8.cell? ⟨w4.heap.size, 7, none⟩ = some (.int .i64 lf) := MXf.out 7 (by simp)
  have q8 : w8.cell? ⟨w4.heap.size, 8, none⟩ = some (.slice (some ⟨g4, 0, none⟩) n n) := MXf.out 8 (by simp)
  have q9 : w8.cell? ⟨w4.heap.size, 9, none⟩ = some (.string x) := MXf.out 9 (by simp)
  have q10 : w8.cell? ⟨w4.heap.size, 10, none⟩ = some (.int .i64 si) := MXf.out 10 (by simp)
  go_wp2_with fail
  refine (markWorker_own nu ep up st le ta co lf x si _ n n _ _ _ hnn OXf.out).mono ?_
  rintro e' w9 ⟨rfl, ho9, hg9⟩
  clear OXf
  clear h4sf
  skip
  clear q0 q1 q2 q3 q4 q5 q6 q7 q8 q9 q10
  clear MXf ho9
  have hrow9 : (Value.slice (some ⟨g4, 0, none⟩) n n).ownBlock = some g4 := rfl
  rw [hrow9] at hg9
  clear hrow9
  have zw9 := hid (hg9.size)
  have MA_w9 := hid (MAf.out.grown hg9 (by simp only [ne_eq, Option.some.injEq]; have := qW.out; have := zW.out; have := zw1.out; have := zw2.out; have := zw3.out; have := qW3.out; have := zW3.out; have := hg4.out; have := hg4'.out; have := zw4.out; have := qW4.out; have := zW4.out; have := zw5.out; have := qW5.out; have := zW5.out; have := zw6.out; have := zw7.out; have := zw8.out; omega))
  clear MAf
  have ST_w9 := hid (STf.out.grownR hg9 (fun h0 => by have := hbs1.out h0; simp only [ne_eq, Option.some.injEq]; have := qW.out; have := zW.out; have := zw1.out; have := zw2.out; have := zw3.out; have := qW3.out; have := zW3.out; have := hg4.out; have := hg4'.out; have := zw4.out; have := qW4.out; have := zW4.out; have := zw5.out; have := qW5.out; have := zW5.out; have := zw6.out; have := zw7.out; have := zw8.out; omega))
  clear STf
  have MW_w9 := hid (MWf.out.grown hg9 (by simp only [ne_eq, Option.some.injEq]; have := qW.out; have := zW.out; have := zw1.out; have := zw2.out; have := zw3.out; have := qW3.out; have := zW3.out; have := hg4.out; have := hg4'.out; have := zw4.out; have := qW4.out; have := zW4.out; have := zw5.out; have := qW5.out; have := zW5.out; have := zw6.out; have := zw7.out; have := zw8.out; omega))
  clear MWf
  have MG_w9 := hid (MGf.out.grown hg9 (by simp only [ne_eq, Option.some.injEq]; have := qW.out; have := zW.out; have := zw1.out; have := zw2.out; have := zw3.out; have := qW3.out; have := zW3.out; have := hg4.out; have := hg4'.out; have := zw4.out; have := qW4.out; have := zW4.out; have := zw5.out; have := qW5.out; have := zW5.out; have := zw6.out; have := zw7.out; have := zw8.out; omega))
  clear MGf
  have OG_w9 := hid (OGf.out.grown hg9 (.inr (by intro hh; have := hloi.out _ hh; have := qW.out; have := zW.out; have := zw1.out; have := zw2.out; have := zw3.out; have := qW3.out; have := zW3.out; have := hg4.out; have := hg4'.out; have := zw4.out; have := qW4.out; have := zW4.out; have := zw5.out; have := qW5.out; have := zW5.out; have := zw6.out; have := zw7.out; have := zw8.out; omega)))
  clear OGf
  have hBw9 := hBw8.grown hg9 hBw8.size (fun q hq => by simp only [Option.some.injEq] at hq; have := qW.out; have := zW.out; have := zw1.out; have := zw2.out; have := zw3.out; have := qW3.out; have := zW3.out; have := hg4.out; have := hg4'.out; have := zw4.out; have := qW4.out; have := zW4.out; have := zw5.out; have := qW5.out; have := zW5.out; have := zw6.out; have := zw7.out; have := zw8.out; omega)
  clear hg9 hBw8
  have hp9 : ¬ (1 + (n : Int)) < 0 := by omega
  have c0 : w9.cell? ⟨w5.heap.size, 0, none⟩ = some (.int .i64 nu1) := MG_w9.out 0 (by simp)
  have c1 : w9.cell? ⟨w5.heap.size, 1, none⟩ = some (.int .i64 ep1) := MG_w9.out 1 (by simp)
  have c2 : w9.cell? ⟨w5.heap.size, 2, none⟩ = some (.bool up1) := MG_w9.out 2 (by simp)
  have c3 : w9.cell? ⟨w5.heap.size, 3, none⟩ = some (.int .i64 st1) := MG_w9.out 3 (by simp)
  have c4 : w9.cell? ⟨w5.heap.size, 4, none⟩ = some (.int .i64 le1) := MG_w9.out 4 (by simp)
  have c5 : w9.cell? ⟨w5.heap.size, 5, none⟩ = some (.int .i64 ta1) := MG_w9.out 5 (by simp)
  have c6 : w9.cell? ⟨w5.heap.size, 6, none⟩ = some (.int .i64 co1) := MG_w9.out 6 (by simp)
  have c7 : w9.cell? ⟨w5.heap.size, 7, none⟩ = some (.int .i64 lf1) := MG_w9.out 7 (by simp)
  have c8 : w9.cell? ⟨w5.heap.size, 8, none⟩ = some (.slice ai ss1.length ci) := MG_w9.out 8 (by simp)
  have c9 : w9.cell? ⟨w5.heap.size, 9, none⟩ = some (.string x1) := MG_w9.out 9 (by simp)
  have c10 : w9.cell? ⟨w5.heap.size, 10, none⟩ = some (.int .i64 si1) := MG_w9.out 10 (by simp)
  have q0 : w9.cell? ⟨w3.heap.size, 0, none⟩ = some (.int .i64 nu1) := MW_w9.out 0 (by simp)
  have q1 : w9.cell? ⟨w3.heap.size, 1, none⟩ = some (.int .i64 ep1) := MW_w9.out 1 (by simp)
  have q2 : w9.cell? ⟨w3.heap.size, 2, none⟩ = some (.bool up1) := MW_w9.out 2 (by simp)
  have q3 : w9.cell? ⟨w3.heap.size, 3, none⟩ = some (.int .i64 st1) := MW_w9.out 3 (by simp)
  have q4 : w9.cell? ⟨w3.heap.size, 4, none⟩ = some (.int .i64 le1) := MW_w9.out 4 (by simp)
  have q5 : w9.cell? ⟨w3.heap.size, 5, none⟩ = some (.int .i64 ta1) := MW_w9.out 5 (by simp)
  have q6 : w9.cell? ⟨w3.heap.size, 6, none⟩ = some (.int .i64 co1) := MW_w9.out 6 (by simp)
  have q7 : w9.cell? ⟨w3.heap.size, 7, none⟩ = some (.int .i64 lf1) := MW_w9.out 7 (by simp)
  have q8 : w9.cell? ⟨w3.heap.size, 8, none⟩ = some (.slice aw ss1.length cs) := MW_w9.out 8 (by simp)
  have q9 : w9.cell? ⟨w3.heap.size, 9, none⟩ = some (.string x1) := MW_w9.out 9 (by simp)
  have q10 : w9.cell? ⟨w3.heap.size, 10, none⟩ = some (.int .i64 si1) := MW_w9.out 10 (by simp)
  obtain ⟨bi, oi, hSi, hbi⟩ := OG_w9.out.strsB HSZ.out
  go_wp2_with fail
  refine (eqWorker_any nu1 ep1 up1 st1 le1 ta1 co1 lf1 x1 si1 ai aw bi oi ss1.length ci bs os cs ss1 _ hSi ST_w9.out).mono ?_
  rintro e' w10 ⟨rfl, hb⟩
  clear hSi hbi bi oi
  clear c0 c1 c2 c3 c4 c5 c6 c7 c8 c9 c10 q0 q1 q2 q3 q4 q5 q6 q7 q8 q9 q10
  have hBw10 := hBw9.trans (hb.mono hBw9.size)
  have zw10 := hid (hb.size)
  have MA_w10 := hid (MA_w9.out.belowS hb)
  clear MA_w9
  have ST_w10 := hid (ST_w9.out.below' hb)
  clear ST_w9
  have MW_w10 := hid (MW_w9.out.belowS hb)
  clear MW_w9
  have MG_w10 := hid (MG_w9.out.belowS hb)
  clear MG_w9
  have OG_w10 := hid (OG_w9.out.below hb (Nat.le_refl _))
  clear OG_w9
  clear hb hBw9
  clear hp9
  have c0 : w10.cell? ⟨w5.heap.size, 0, none⟩ = some (.int .i64 nu1) := MG_w10.out 0 (by simp)
  have c1 : w10.cell? ⟨w5.heap.size, 1, none⟩ = some (.int .i64 ep1) := MG_w10.out 1 (by simp)
  have c2 : w10.cell? ⟨w5.heap.size, 2, none⟩ = some (.bool up1) := MG_w10.out 2 (by simp)
  have c3 : w10.cell? ⟨w5.heap.size, 3, none⟩ = some (.int .i64 st1) := MG_w10.out 3 (by simp)
  have c4 : w10.cell? ⟨w5.heap.size, 4, none⟩ = some (.int .i64 le1) := MG_w10.out 4 (by simp)
  have c5 : w10.cell? ⟨w5.heap.size, 5, none⟩ = some (.int .i64 ta1) := MG_w10.out 5 (by simp)
  have c6 : w10.cell? ⟨w5.heap.size, 6, none⟩ = some (.int .i64 co1) := MG_w10.out 6 (by simp)
  have c7 : w10.cell? ⟨w5.heap.size, 7, none⟩ = some (.int .i64 lf1) := MG_w10.out 7 (by simp)
  have c8 : w10.cell? ⟨w5.heap.size, 8, none⟩ = some (.slice ai ss1.length ci) := MG_w10.out 8 (by simp)
  have c9 : w10.cell? ⟨w5.heap.size, 9, none⟩ = some (.string x1) := MG_w10.out 9 (by simp)
  have c10 : w10.cell? ⟨w5.heap.size, 10, none⟩ = some (.int .i64 si1) := MG_w10.out 10 (by simp)
  go_wp2_with fail
  refine (markWorker_own nu1 ep1 up1 st1 le1 ta1 co1 lf1 x1 si1 ai ss1.length ci _ _ _ (by omega) OG_w10.out).mono ?_
  rintro e' w11 ⟨rfl, ho11, hg11⟩
  clear c0 c1 c2 c3 c4 c5 c6 c7 c8 c9 c10
  clear OG_w10
  have zw11 := hid (hg11.size)
  have MA_w11 := hid (MA_w10.out.grown hg11 (fun hh => by have := hloi.out _ hh.symm; have := qW.out; have := zW.out; have := zw1.out; have := zw2.out; have := zw3.out; have := qW3.out; have := zW3.out; have := hg4.out; have := hg4'.out; have := zw4.out; have := qW4.out; have := zW4.out; have := zw5.out; have := qW5.out; have := zW5.out; have := zw6.out; have := zw7.out; have := zw8.out; have := zw9.out; have := zw10.out; omega))
  clear MA_w10
  have ST_w11 := hid (ST_w10.out.grownR hg11 (fun h0 hh => by have := hbs1.out h0; have := hloi.out _ hh.symm; have := qW.out; have := zW.out; have := zw1.out; have := zw2.out; have := zw3.out; have := qW3.out; have := zW3.out; have := hg4.out; have := hg4'.out; have := zw4.out; have := qW4.out; have := zW4.out; have := zw5.out; have := qW5.out; have := zW5.out; have := zw6.out; have := zw7.out; have := zw8.out; have := zw9.out; have := zw10.out; omega))
  clear ST_w10
  have MW_w11 := hid (MW_w10.out.grown hg11 (fun hh => by have := hloi.out _ hh.symm; have := qW.out; have := zW.out; have := zw1.out; have := zw2.out; have := zw3.out; have := qW3.out; have := zW3.out; have := hg4.out; have := hg4'.out; have := zw4.out; have := qW4.out; have := zW4.out; have := zw5.out; have := qW5.out; have := zW5.out; have := zw6.out; have := zw7.out; have := zw8.out; have := zw9.out; have := zw10.out; omega))
  clear MW_w10
  have MG_w11 := hid (MG_w10.out.grown hg11 (fun hh => by have := hhii.out _ hh.symm; have := qW.out; have := zW.out; have := zw1.out; have := zw2.out; have := zw3.out; have := qW3.out; have := zW3.out; have := hg4.out; have := hg4'.out; have := zw4.out; have := qW4.out; have := zW4.out; have := zw5.out; have := qW5.out; have := zW5.out; have := zw6.out; have := zw7.out; have := zw8.out; have := zw9.out; have := zw10.out; omega))
  clear MG_w10
  have hBw11 := hBw10.grown hg11 hBw10.size (fun q hq => by have := hloi.out _ hq; have := qW.out; have := zW.out; have := zw1.out; have := zw2.out; have := zw3.out; have := qW3.out; have := zW3.out; have := hg4.out; have := hg4'.out; have := zw4.out; have := qW4.out; have := zW4.out; have := zw5.out; have := qW5.out; have := zW5.out; have := zw6.out; have := zw7.out; have := zw8.out; have := zw9.out; have := zw10.out; omega)
  clear hg11 hBw10
  obtain ⟨bm, om, hSm, _⟩ := ho11.strsB (mks_sizes ss1.length (by omega))
  have SM := hid hSm
  clear hSm ho11
  have c0 : w11.cell? ⟨w5.heap.size, 0, none⟩ = some (.int .i64 nu1) := MG_w11.out 0 (by simp)
  have c1 : w11.cell? ⟨w5.heap.size, 1, none⟩ = some (.int .i64 ep1) := MG_w11.out 1 (by simp)
  have c2 : w11.cell? ⟨w5.heap.size, 2, none⟩ = some (.bool up1) := MG_w11.out 2 (by simp)
  have c3 : w11.cell? ⟨w5.heap.size, 3, none⟩ = some (.int .i64 st1) := MG_w11.out 3 (by simp)
  have c4 : w11.cell? ⟨w5.heap.size, 4, none⟩ = some (.int .i64 le1) := MG_w11.out 4 (by simp)
  have c5 : w11.cell? ⟨w5.heap.size, 5, none⟩ = some (.int .i64 ta1) := MG_w11.out 5 (by simp)
  have c6 : w11.cell? ⟨w5.heap.size, 6, none⟩ = some (.int .i64 co1) := MG_w11.out 6 (by simp)
  have c7 : w11.cell? ⟨w5.heap.size, 7, none⟩ = some (.int .i64 lf1) := MG_w11.out 7 (by simp)
  have c8 : w11.cell? ⟨w5.heap.size, 8, none⟩ = some (.slice ai ss1.length ci) := MG_w11.out 8 (by simp)
  have c9 : w11.cell? ⟨w5.heap.size, 9, none⟩ = some (.string x1) := MG_w11.out 9 (by simp)
  have c10 : w11.cell? ⟨w5.heap.size, 10, none⟩ = some (.int .i64 si1) := MG_w11.out 10 (by simp)
  have hn1 : ss1.length ≤ 1048576 := by omega
  go_wp2_with fail
  refine (heldWorker_any nu1 ep1 up1 st1 le1 ta1 co1 lf1 x1 si1 ai bm om ss1.length ci _ hn1 SM.out).mono ?_
  rintro e' w12 ⟨rfl, hb12⟩
  clear c0 c1 c2 c3 c4 c5 c6 c7 c8 c9 c10
  have hBw12 := hBw11.trans (hb12.mono hBw11.size)
  have zw12 := hid (hb12.size)
  have MA_w12 := hid (MA_w11.out.belowS hb12)
  clear MA_w11
  have ST_w12 := hid (ST_w11.out.below' hb12)
  clear ST_w11
  have MW_w12 := hid (MW_w11.out.belowS hb12)
  clear MW_w11
  have MG_w12 := hid (MG_w11.out.belowS hb12)
  clear MG_w11
  have SM_w12 := hid (SM.out.below' hb12)
  clear SM
  clear hb12 hBw11
  have hp : ¬ (1 + (ss1.length : Int)) < 0 := by omega
  have c0 : w12.cell? ⟨w.heap.size, 0, none⟩ = some (.int .i64 nu) := MA_w12.out 0 (by simp)
  have c1 : w12.cell? ⟨w.heap.size, 1, none⟩ = some (.int .i64 ep) := MA_w12.out 1 (by simp)
  have c2 : w12.cell? ⟨w.heap.size, 2, none⟩ = some (.bool up) := MA_w12.out 2 (by simp)
  have c3 : w12.cell? ⟨w.heap.size, 3, none⟩ = some (.int .i64 st) := MA_w12.out 3 (by simp)
  have c4 : w12.cell? ⟨w.heap.size, 4, none⟩ = some (.int .i64 le) := MA_w12.out 4 (by simp)
  have c5 : w12.cell? ⟨w.heap.size, 5, none⟩ = some (.int .i64 ta) := MA_w12.out 5 (by simp)
  have c6 : w12.cell? ⟨w.heap.size, 6, none⟩ = some (.int .i64 co) := MA_w12.out 6 (by simp)
  have c7 : w12.cell? ⟨w.heap.size, 7, none⟩ = some (.int .i64 lf) := MA_w12.out 7 (by simp)
  have c8 : w12.cell? ⟨w.heap.size, 8, none⟩ = some (.slice a n c) := MA_w12.out 8 (by simp)
  have c9 : w12.cell? ⟨w.heap.size, 9, none⟩ = some (.string x) := MA_w12.out 9 (by simp)
  have c10 : w12.cell? ⟨w.heap.size, 10, none⟩ = some (.int .i64 si) := MA_w12.out 10 (by simp)
  go_wp2_with fail
  refine (toWorker_any nu ep up st le ta co lf x si a b o n c ss _ (h.below' hBw12) hnn).mono ?_
  rintro e' w13 ⟨⟨g13, rfl, ho13⟩, hb13⟩
  have h13s := hid (StrsAt.ofOwn ho13 h.sz)
  clear ho13
  clear c0 c1 c2 c3 c4 c5 c6 c7 c8 c9 c10
  have hBw13 := hBw12.trans (hb13.mono hBw12.size)
  have zw13 := hid (hb13.size)
  have MA_w13 := hid (MA_w12.out.belowS hb13)
  clear MA_w12
  have ST_w13 := hid (ST_w12.out.below' hb13)
  clear ST_w12
  have MW_w13 := hid (MW_w12.out.belowS hb13)
  clear MW_w12
  have MG_w13 := hid (MG_w12.out.belowS hb13)
  clear MG_w12
  have SM_w13 := hid (SM_w12.out.below' hb13)
  clear SM_w12
  clear hb13 hBw12
  go_wp2_with fail
  refine (iRise_any nu ep up st le ta co lf _ g13 0 n n ss x si _ h13s.out).mono ?_
  rintro e' w14 ⟨⟨⟨nu2, ep2, up2, st2, le2, ta2, co2, lf2, ss2, x2, si2⟩, ah, ch, he, hoh, hF⟩, hb14⟩
  have hu := HF.out.uniq hF
  simp only [WD.mk.injEq] at hu
  obtain ⟨rfl, rfl, rfl, rfl, rfl, rfl, rfl, rfl, rfl, rfl, rfl⟩ := hu
  simp only [WD.v] at he
  subst he
  dsimp only at hoh
  have OH := hid hoh
  clear hoh hF h13s
  have hBw14 := hBw13.trans (hb14.mono hBw13.size)
  have zw14 := hid (hb14.size)
  have MA_w14 := hid (MA_w13.out.belowS hb14)
  clear MA_w13
  have ST_w14 := hid (ST_w13.out.below' hb14)
  clear ST_w13
  have MW_w14 := hid (MW_w13.out.belowS hb14)
  clear MW_w13
  have MG_w14 := hid (MG_w13.out.belowS hb14)
  clear MG_w13
  have SM_w14 := hid (SM_w13.out.below' hb14)
  clear SM_w13
  clear hb14 hBw13
  obtain ⟨W14, hW14⟩ : ∃ W14, W14 = w14.alloc (.cells #[.int .i64 nu1, .int .i64 ep1, .bool up1, .int .i64 st1, .int .i64 le1, .int .i64 ta1, .int .i64 co1, .int .i64 lf1, .slice ah ss1.length ch, .string x1, .int .i64 si1] 27) := ⟨_, rfl⟩
  have hbaW14 : Below w14.heap.size w14 W14 := by rw [hW14]; exact (Below.refl _ _).alloc (Nat.le_refl _) _
  have qW14 := hid (show W14.heap.size = w14.heap.size + 1 by rw [hW14]; simp)
  have MH := hid (show MC W14 w14.heap.size [.int .i64 nu1, .int .i64 ep1, .bool up1, .int .i64 st1, .int .i64 le1, .int .i64 ta1, .int .i64 co1, .int .i64 lf1, .slice ah ss1.length ch, .string x1, .int .i64 si1] by rw [hW14]; exact MC.made w14 _ _)
  have HW14 := hid hW14
  clear hW14
  have hBW14 := hBw14.trans (hbaW14.mono hBw14.size)
  have zW14 := hid (hbaW14.size)
  have MA_W14 := hid (MA_w14.out.belowS hbaW14)
  clear MA_w14
  have ST_W14 := hid (ST_w14.out.below' hbaW14)
  clear ST_w14
  have MW_W14 := hid (MW_w14.out.belowS hbaW14)
  clear MW_w14
  have MG_W14 := hid (MG_w14.out.belowS hbaW14)
  clear MG_w14
  have SM_W14 := hid (SM_w14.out.below' hbaW14)
  clear SM_w14
  have OH_W14 := hid (OH.out.below hbaW14 (Nat.le_refl _))
  clear OH
  clear hbaW14 hBw14
  go_upto_region 25 with fail
  rw [← HW14.out]
  clear HW14
  have c0 : W14.cell? ⟨w14.heap.size, 0, none⟩ = some (.int .i64 nu1) := MH.out 0 (by simp)
  have c1 : W14.cell? ⟨w14.heap.size, 1, none⟩ = some (.int .i64 ep1) := MH.out 1 (by simp)
  have c2 : W14.cell? ⟨w14.heap.size, 2, none⟩ = some (.bool up1) := MH.out 2 (by simp)
  have c3 : W14.cell? ⟨w14.heap.size, 3, none⟩ = some (.int .i64 st1) := MH.out 3 (by simp)
  have c4 : W14.cell? ⟨w14.heap.size, 4, none⟩ = some (.int .i64 le1) := MH.out 4 (by simp)
  have c5 : W14.cell? ⟨w14.heap.size, 5, none⟩ = some (.int .i64 ta1) := MH.out 5 (by simp)
  have c6 : W14.cell? ⟨w14.heap.size, 6, none⟩ = some (.int .i64 co1) := MH.out 6 (by simp)
  have c7 : W14.cell? ⟨w14.heap.size, 7, none⟩ = some (.int .i64 lf1) := MH.out 7 (by simp)
  have c8 : W14.cell? ⟨w14.heap.size, 8, none⟩ = some (.slice ah ss1.length ch) := MH.out 8 (by simp)
  have c9 : W14.cell? ⟨w14.heap.size, 9, none⟩ = some (.string x1) := MH.out 9 (by simp)
  have c10 : W14.cell? ⟨w14.heap.size, 10, none⟩ = some (.int .i64 si1) := MH.out 10 (by simp)
  have q0 : W14.cell? ⟨w3.heap.size, 0, none⟩ = some (.int .i64 nu1) := MW_W14.out 0 (by simp)
  have q1 : W14.cell? ⟨w3.heap.size, 1, none⟩ = some (.int .i64 ep1) := MW_W14.out 1 (by simp)
  have q2 : W14.cell? ⟨w3.heap.size, 2, none⟩ = some (.bool up1) := MW_W14.out 2 (by simp)
  have q3 : W14.cell? ⟨w3.heap.size, 3, none⟩ = some (.int .i64 st1) := MW_W14.out 3 (by simp)
  have q4 : W14.cell? ⟨w3.heap.size, 4, none⟩ = some (.int .i64 le1) := MW_W14.out 4 (by simp)
  have q5 : W14.cell? ⟨w3.heap.size, 5, none⟩ = some (.int .i64 ta1) := MW_W14.out 5 (by simp)
  have q6 : W14.cell? ⟨w3.heap.size, 6, none⟩ = some (.int .i64 co1) := MW_W14.out 6 (by simp)
  have q7 : W14.cell? ⟨w3.heap.size, 7, none⟩ = some (.int .i64 lf1) := MW_W14.out 7 (by simp)
  have q8 : W14.cell? ⟨w3.heap.size, 8, none⟩ = some (.slice aw ss1.length cs) := MW_W14.out 8 (by simp)
  have q9 : W14.cell? ⟨w3.heap.size, 9, none⟩ = some (.string x1) := MW_W14.out 9 (by simp)
  have q10 : W14.cell? ⟨w3.heap.size, 10, none⟩ = some (.int .i64 si1) := MW_W14.out 10 (by simp)
  obtain ⟨bi, oi, hSi, hbi⟩ := OH_W14.out.strsB HSZ.out
  go_wp2_with fail
  refine (eqWorker_any nu1 ep1 up1 st1 le1 ta1 co1 lf1 x1 si1 ah aw bi oi ss1.length ch bs os cs ss1 _ hSi ST_W14.out).mono ?_
  rintro e' w15 ⟨rfl, hb15⟩
  clear hSi hbi bi oi
  clear c0 c1 c2 c3 c4 c5 c6 c7 c8 c9 c10 q0 q1 q2 q3 q4 q5 q6 q7 q8 q9 q10
  have hBw15 := hBW14.trans (hb15.mono hBW14.size)
  have zw15 := hid (hb15.size)
  have MA_w15 := hid (MA_W14.out.belowS hb15)
  clear MA_W14
  have ST_w15 := hid (ST_W14.out.below' hb15)
  clear ST_W14
  have MW_w15 := hid (MW_W14.out.belowS hb15)
  clear MW_W14
  have MG_w15 := hid (MG_W14.out.belowS hb15)
  clear MG_W14
  have SM_w15 := hid (SM_W14.out.below' hb15)
  clear SM_W14
  have OH_w15 := hid (OH_W14.out.below hb15 (Nat.le_refl _))
  clear OH_W14
  have MH_w15 := hid (MH.out.belowS hb15)
  clear MH
  clear hb15 hBW14
  have c0 : w15.cell? ⟨w5.heap.size, 0, none⟩ = some (.int .i64 nu1) := MG_w15.out 0 (by simp)
  have c1 : w15.cell? ⟨w5.heap.size, 1, none⟩ = some (.int .i64 ep1) := MG_w15.out 1 (by simp)
  have c2 : w15.cell? ⟨w5.heap.size, 2, none⟩ = some (.bool up1) := MG_w15.out 2 (by simp)
  have c3 : w15.cell? ⟨w5.heap.size, 3, none⟩ = some (.int .i64 st1) := MG_w15.out 3 (by simp)
  have c4 : w15.cell? ⟨w5.heap.size, 4, none⟩ = some (.int .i64 le1) := MG_w15.out 4 (by simp)
  have c5 : w15.cell? ⟨w5.heap.size, 5, none⟩ = some (.int .i64 ta1) := MG_w15.out 5 (by simp)
  have c6 : w15.cell? ⟨w5.heap.size, 6, none⟩ = some (.int .i64 co1) := MG_w15.out 6 (by simp)
  have c7 : w15.cell? ⟨w5.heap.size, 7, none⟩ = some (.int .i64 lf1) := MG_w15.out 7 (by simp)
  have c8 : w15.cell? ⟨w5.heap.size, 8, none⟩ = some (.slice ai ss1.length ci) := MG_w15.out 8 (by simp)
  have c9 : w15.cell? ⟨w5.heap.size, 9, none⟩ = some (.string x1) := MG_w15.out 9 (by simp)
  have c10 : w15.cell? ⟨w5.heap.size, 10, none⟩ = some (.int .i64 si1) := MG_w15.out 10 (by simp)
  go_wp2_with fail
  refine (heldWorker_any nu1 ep1 up1 st1 le1 ta1 co1 lf1 x1 si1 ai bm om ss1.length ci _ hn1 SM_w15.out).mono ?_
  rintro e' w16 ⟨rfl, hb16⟩
  clear c0 c1 c2 c3 c4 c5 c6 c7 c8 c9 c10
  have hBw16 := hBw15.trans (hb16.mono hBw15.size)
  have zw16 := hid (hb16.size)
  have MA_w16 := hid (MA_w15.out.belowS hb16)
  clear MA_w15
  have ST_w16 := hid (ST_w15.out.below' hb16)
  clear ST_w15
  have MW_w16 := hid (MW_w15.out.belowS hb16)
  clear MW_w15
  have MG_w16 := hid (MG_w15.out.belowS hb16)
  clear MG_w15
  have SM_w16 := hid (SM_w15.out.below' hb16)
  clear SM_w15
  have OH_w16 := hid (OH_w15.out.below hb16 (Nat.le_refl _))
  clear OH_w15
  have MH_w16 := hid (MH_w15.out.belowS hb16)
  clear MH_w15
  clear hb16 hBw15
  go_wp2
  go_ret
  exact ⟨rfl, hBw16⟩
end Go.Proofs.Ytlpmcjlcmjlbeaa
