
/-
  The walks of FnExactDouble, FnExactLose, FnExactBend.
-/
import Derived.Test.YtfocmmiajcamiaaNic
namespace Go.Proofs.Ytfocmmiajcamiaa
open Go.RowKit

theorem PcOk.append {A B : List Pc} (hA : PcOk A) (hB : PcOk B) : PcOk (A ++ B) := fun j hj => by
  rw [List.length_append] at hj
  by_cases e : j < A.length
  · rw [show pc (A ++ B) j = pc A j by simp only [pc, List.getD]; rw [List.getElem?_append_left e]]
    exact hA j e
  · rw [show pc (A ++ B) j = pc B (j - A.length) by simp only [pc, List.getD]; rw [List.getElem?_append_right (by omega)]]
    exact hB _ (by omega)
theorem PcOk.take {A : List Pc} (hA : PcOk A) (k : Nat) : PcOk (A.take k) := fun j hj => by
  rw [List.length_take] at hj
  rw [show pc (A.take k) j = pc A j by simp only [pc, List.getD]; rw [List.getElem?_take, if_pos (by omega)]]
  exact hA j (by omega)
theorem PcOk.drop {A : List Pc} (hA : PcOk A) (k : Nat) : PcOk (A.drop k) := fun j hj => by
  rw [List.length_drop] at hj
  rw [show pc (A.drop k) j = pc A (k + j) by simp only [pc, List.getD]; rw [List.getElem?_drop]]
  exact hA _ (by omega)
theorem PcOk.one {A : List Pc} (hA : PcOk A) {j : Nat} (hj : j < A.length) : PcOk [pc A j] := fun i hi => by
  obtain rfl : i = 0 := by simpa using hi
  exact hA j hj
theorem dblP_ok {P : List Pc} (k : Int) (h : PcOk P) (hl : P.length ≤ 1048576) : PcOk (dblP P k) ∧ (dblP P k).length ≤ 1048576 := by
  unfold dblP
  split
  · rename_i hE
    have := thereB_t hE
    split
    · exact ⟨h.append (h.one (by omega)), by rw [List.length_append, List.length_singleton]; omega⟩
    · exact ⟨h, hl⟩
  · exact ⟨h, hl⟩
theorem losP_ok {P : List Pc} (k : Int) (h : PcOk P) (hl : P.length ≤ 1048576) : PcOk (losP P k) ∧ (losP P k).length ≤ 1048576 := by
  unfold losP
  split
  · exact ⟨(h.take _).append (h.drop _), by rw [List.length_append, List.length_take, List.length_drop]; omega⟩
  · exact ⟨h, hl⟩
theorem bndP_ok {P : List Pc} (k place mask : Int) (h : PcOk P) (hl : P.length ≤ 1048576) : PcOk (bndP P k place mask) ∧ (bndP P k place mask).length ≤ 1048576 := by
  refine ⟨?_, by rw [bndP_length]; exact hl⟩
  intro j hj
  rw [bndP_length] at hj
  unfold bndP
  split
  · rw [pc_set _ _ _ _ hj]
    split
    · rename_i e
      rw [← e]
      exact ⟨(h j hj).1, (h j hj).2.1, by rw [bendS_size]; exact (h j hj).2.2⟩
    · exact h j hj
  · exact h j hj

set_option maxHeartbeats 4000000 in
set_option maxRecDepth 100000 in
theorem fnExactDouble_walk (a : Option Addr) (b o n c : Nat) (P : List Pc) (k : Int) (w : World) (h : PcAt w a b o n P) :
    Calls Try.prog 3 #[.slice a n c, .int .i64 k] w fun e w' => e = .returned (.bool true) ∧ Below w.heap.size w w' := by
  have HL : Hid (P.length = n) := h.len
  have HK : Hid (PcOk P) := h.ok
  go_enter Try.func3, Try.ntmps3
  go_wp2_with fail
  refine (szParcelS_any a b o n c P 1048576 _ (by omega) (by omega) h).mono ?_
  rintro e v1 ⟨⟨r, rfl, hr⟩, B1⟩
  rcases hr with rfl | ⟨hr0, hr1, hn⟩
  · go_wp2
    go_ret
    exact ⟨rfl, B1⟩
  obtain ⟨QK, QL⟩ := dblP_ok k HK.out (by rw [HL.out]; exact hn)
  obtain ⟨Q, hQ⟩ : ∃ Q, Q = dblP P k := ⟨_, rfl⟩
  rw [← hQ] at QK QL
  have HQ := hid hQ
  clear hQ
  go_wp2_with fail
  refine (toParcelS_any a b o n c P _ (h.below' B1) hn).mono ?_
  rintro e v2 ⟨g2, rfl, ho2, hb2⟩
  have B2 := B1.trans (hb2.mono B1.size)
  have hp2 := PcAt.ofOwn ho2 HK.out
  clear B1 hb2 ho2
  go_wp2_with fail
  refine (specDouble_any _ g2 0 n n P k _ hp2 hn).mono ?_
  rintro e v3 ⟨⟨vs, rfl, hos⟩, hb3⟩
  rw [← HQ.out] at hos
  have B3 := B2.trans (hb3.mono B2.size)
  have hz3 := B3.size
  obtain ⟨az, cs, rfl⟩ := hos.slc
  obtain ⟨bs, os, S3, _⟩ := hos.pcAt QK
  have hsl := S3.lt
  clear hos hb3 hp2 B2
  go_wp2_with fail
  refine (toParcelS_any a b o n c P _ (h.below' B3) hn).mono ?_
  rintro e v4 ⟨g4, rfl, O4, hb4⟩
  have B4 := B3.trans (hb4.mono B3.size)
  have S4 := S3.below' hb4
  have hg4l := O4.lo
  have hg4h := O4.hi
  clear S3 hb4 B3
  go_wp2_with fail
  refine (implDouble_any _ g4 0 n n P k _ (PcAt.ofOwn O4 HK.out) hn).mono ?_
  rintro e v5 ⟨⟨vg, rfl, hog⟩, hb5⟩
  rw [← HQ.out] at hog
  have B5 := B4.trans (hb5.mono B4.size)
  have S5 := S4.below' hb5
  have O5 := O4.below hb5 O4.hi
  obtain ⟨ag, cg, rfl⟩ := hog.slc
  have hgl := hog.row_lo
  have hgh := hog.row_hi
  clear S4 O4 hb5 B4
  obtain ⟨bg, og, G5, _⟩ := hog.pcAt QK
  go_wp2_with fail
  refine (eqParcelS_any ag az bg og Q.length cg bs os cs Q _ G5 S5).mono ?_
  rintro e v6 ⟨rfl, hb6⟩
  have B6 := B5.trans (hb6.mono B5.size)
  have S6 := S5.below' hb6
  have O6 := O5.below hb6 O5.hi
  have W6 := hog.below hb6 (Nat.le_refl _)
  clear S5 O5 hog G5 hb6 B5
  go_wp2_with fail
  refine (toParcelS_any a b o n c P _ (h.below' B6) hn).mono ?_
  rintro e v7 ⟨g7, rfl, O7', hb7⟩
  have B7 := B6.trans (hb7.mono B6.size)
  have S7 := S6.below' hb7
  have O7 := O6.below hb7 O6.hi
  have W7 := W6.below hb7 (Nat.le_refl _)
  clear S6 O6 W6 hb7 B6
  go_wp2_with fail
  refine (eqParcelS_any _ _ g4 0 n n g7 0 n P _ (PcAt.ofOwn O7 HK.out) (PcAt.ofOwn O7' HK.out)).mono ?_
  rintro e v8 ⟨rfl, hb8⟩
  have B8 := B7.trans (hb8.mono B7.size)
  have S8 := S7.below' hb8
  have O8 := O7.below hb8 O7.hi
  have W8 := W7.below hb8 (Nat.le_refl _)
  clear S7 O7 W7 hb8 B7 O7'
  have hm1 := markParcelS_any g4 0 n n n 1 _ _ v8 (by omega) (by omega) hn O8
  rw [show ((1 : Nat) : Int) = 1 from rfl] at hm1
  have HM1 := hid hm1
  clear hm1
  go_wp2_with fail
  refine HM1.out.mono ?_
  rintro e v9 ⟨rfl, _, hg9⟩
  have B9 := B8.grown hg9 B8.size (fun q hq => by injection hq with hq; omega)
  have S9 := S8.grown hg9 (fun hp => by have := hsl hp; simp; omega)
  have W9 := W8.grown hg9 (.inr (by intro hh; have := hgl _ hh; omega))
  have hk9 : ¬ (1 : Int) + n * 3 < 0 := by omega
  clear S8 W8 hg9 B8 O8 HM1
  obtain ⟨b9, o9, G9, _⟩ := W9.pcAt QK
  go_wp2_with fail
  refine (eqParcelS_any ag az b9 o9 Q.length cg bs os cs Q _ G9 S9).mono ?_
  rintro e v10 ⟨rfl, hb10⟩
  have B10 := B9.trans (hb10.mono B9.size)
  have S10 := S9.below' hb10
  have W10 := W9.below hb10 (Nat.le_refl _)
  clear S9 W9 G9 hb10 B9 hk9
  have hm2 := markParcelS_own ag Q.length cg 1 _ _ v10 (by omega) (by omega) QL W10
  rw [show ((1 : Nat) : Int) = 1 from rfl] at hm2
  have HM2 := hid hm2
  clear hm2
  go_wp2_with fail
  refine HM2.out.mono ?_
  rintro e v11 ⟨rfl, W11, hg11⟩
  have B11 := B10.grown hg11 B10.size (fun q hq => by have := hgl _ hq; omega)
  have S11 := S10.grown hg11 (fun hp e => by have := hsl hp; have := hgl _ e.symm; omega)
  obtain ⟨b11, o11, G11, _⟩ := W11.pcAt (mkP_ok 1 Q.length (by omega) QL)
  clear S10 W10 W11 hg11 B10 HM2
  have hh1 := heldParcelS_any ag b11 o11 Q.length cg 1 v11 (by omega) (by omega) QL G11
  rw [show ((1 : Nat) : Int) = 1 from rfl] at hh1
  have HH1 := hid hh1
  clear hh1
  have hQL : (Q.length : Int) ≤ 1048576 := by omega
  go_wp2_with fail
  refine HH1.out.mono ?_
  rintro e v12 ⟨rfl, hb12⟩
  have B12 := B11.trans (hb12.mono B11.size)
  have S12 := S11.below' hb12
  have G12 := G11.below' hb12
  clear S11 G11 hb12 B11 HH1
  go_wp2_with fail
  refine (toParcelS_any a b o n c P _ (h.below' B12) hn).mono ?_
  rintro e v13 ⟨g13, rfl, O13, hb13⟩
  have B13 := B12.trans (hb13.mono B12.size)
  have S13 := S12.below' hb13
  have G13 := G12.below' hb13
  clear S12 G12 hb13 B12
  go_wp2_with fail
  refine (implDouble_any _ g13 0 n n P k _ (PcAt.ofOwn O13 HK.out) hn).mono ?_
  rintro e v14 ⟨⟨vh, rfl, hoh⟩, hb14⟩
  rw [← HQ.out] at hoh
  have B14 := B13.trans (hb14.mono B13.size)
  have S14 := S13.below' hb14
  have G14 := G13.below' hb14
  obtain ⟨ah, ch, rfl⟩ := hoh.slc
  obtain ⟨bh, oh, H14, _⟩ := hoh.pcAt QK
  clear S13 G13 O13 hoh hb14 B13
  go_wp2_with fail
  refine (eqParcelS_any ah az bh oh Q.length ch bs os cs Q _ H14 S14).mono ?_
  rintro e v15 ⟨rfl, hb15⟩
  have B15 := B14.trans (hb15.mono B14.size)
  have G15 := G14.below' hb15
  clear S14 G14 H14 hb15 B14
  have hh2 := heldParcelS_any ag b11 o11 Q.length cg 1 v15 (by omega) (by omega) QL G15
  rw [show ((1 : Nat) : Int) = 1 from rfl] at hh2
  have HH2 := hid hh2
  clear hh2
  go_wp2_with fail
  refine HH2.out.mono ?_
  rintro e v16 ⟨rfl, hb16⟩
  have B16 := B15.trans (hb16.mono B15.size)
  clear G15 hb16 B15 HH2
  go_wp2
  go_ret
  exact ⟨rfl, B16⟩

set_option maxHeartbeats 4000000 in
set_option maxRecDepth 100000 in
theorem fnExactLose_walk (a : Option Addr) (b o n c : Nat) (P : List Pc) (k : Int) (w : World) (h : PcAt w a b o n P) :
    Calls Try.prog 4 #[.slice a n c, .int .i64 k] w fun e w' => e = .returned (.bool true) ∧ Below w.heap.size w w' := by
  have HL : Hid (P.length = n) := h.len
  have HK : Hid (PcOk P) := h.ok
  go_enter Try.func4, Try.ntmps4
  go_wp2_with fail
  refine (szParcelS_any a b o n c P 1048576 _ (by omega) (by omega) h).mono ?_
  rintro e v1 ⟨⟨r, rfl, hr⟩, B1⟩
  rcases hr with rfl | ⟨hr0, hr1, hn⟩
  · go_wp2
    go_ret
    exact ⟨rfl, B1⟩
  obtain ⟨QK, QL⟩ := losP_ok k HK.out (by rw [HL.out]; exact hn)
  obtain ⟨Q, hQ⟩ : ∃ Q, Q = losP P k := ⟨_, rfl⟩
  rw [← hQ] at QK QL
  have HQ := hid hQ
  clear hQ
  go_wp2_with fail
  refine (toParcelS_any a b o n c P _ (h.below' B1) hn).mono ?_
  rintro e v2 ⟨g2, rfl, ho2, hb2⟩
  have B2 := B1.trans (hb2.mono B1.size)
  have hp2 := PcAt.ofOwn ho2 HK.out
  clear B1 hb2 ho2
  go_wp2_with fail
  refine (specLose_any _ g2 0 n n P k _ hp2 hn (Nat.le_refl _)).mono ?_
  rintro e v3 ⟨⟨vs, rfl, hos⟩, hb3⟩
  rw [← HQ.out] at hos
  have B3 := B2.trans (hb3.mono B2.size)
  have hz3 := B3.size
  obtain ⟨az, cs, rfl⟩ := hos.slc
  obtain ⟨bs, os, S3, _⟩ := hos.pcAt QK
  have hsl := S3.lt
  clear hos hb3 hp2 B2
  go_wp2_with fail
  refine (toParcelS_any a b o n c P _ (h.below' B3) hn).mono ?_
  rintro e v4 ⟨g4, rfl, O4, hb4⟩
  have B4 := B3.trans (hb4.mono B3.size)
  have S4 := S3.below' hb4
  have hg4l := O4.lo
  have hg4h := O4.hi
  clear S3 hb4 B3
  go_wp2_with fail
  refine (implLose_any _ g4 0 n n P k _ (PcAt.ofOwn O4 HK.out) hn).mono ?_
  rintro e v5 ⟨⟨vg, rfl, hog⟩, hb5⟩
  rw [← HQ.out] at hog
  have B5 := B4.trans (hb5.mono B4.size)
  have S5 := S4.below' hb5
  have O5 := O4.below hb5 O4.hi
  obtain ⟨ag, cg, rfl⟩ := hog.slc
  have hgl := hog.row_lo
  have hgh := hog.row_hi
  clear S4 O4 hb5 B4
  obtain ⟨bg, og, G5, _⟩ := hog.pcAt QK
  go_wp2_with fail
  refine (eqParcelS_any ag az bg og Q.length cg bs os cs Q _ G5 S5).mono ?_
  rintro e v6 ⟨rfl, hb6⟩
  have B6 := B5.trans (hb6.mono B5.size)
  have S6 := S5.below' hb6
  have O6 := O5.below hb6 O5.hi
  have W6 := hog.below hb6 (Nat.le_refl _)
  clear S5 O5 hog G5 hb6 B5
  go_wp2_with fail
  refine (toParcelS_any a b o n c P _ (h.below' B6) hn).mono ?_
  rintro e v7 ⟨g7, rfl, O7', hb7⟩
  have B7 := B6.trans (hb7.mono B6.size)
  have S7 := S6.below' hb7
  have O7 := O6.below hb7 O6.hi
  have W7 := W6.below hb7 (Nat.le_refl _)
  clear S6 O6 W6 hb7 B6
  go_wp2_with fail
  refine (eqParcelS_any _ _ g4 0 n n g7 0 n P _ (PcAt.ofOwn O7 HK.out) (PcAt.ofOwn O7' HK.out)).mono ?_
  rintro e v8 ⟨rfl, hb8⟩
  have B8 := B7.trans (hb8.mono B7.size)
  have S8 := S7.below' hb8
  have O8 := O7.below hb8 O7.hi
  have W8 := W7.below hb8 (Nat.le_refl _)
  clear S7 O7 W7 hb8 B7 O7'
  have hm1 := markParcelS_any g4 0 n n n 1 _ _ v8 (by omega) (by omega) hn O8
  rw [show ((1 : Nat) : Int) = 1 from rfl] at hm1
  have HM1 := hid hm1
  clear hm1
  go_wp2_with fail
  refine HM1.out.mono ?_
  rintro e v9 ⟨rfl, _, hg9⟩
  have B9 := B8.grown hg9 B8.size (fun q hq => by injection hq with hq; omega)
  have S9 := S8.grown hg9 (fun hp => by have := hsl hp; simp; omega)
  have W9 := W8.grown hg9 (.inr (by intro hh; have := hgl _ hh; omega))
  have hk9 : ¬ (1 : Int) + n * 3 < 0 := by omega
  clear S8 W8 hg9 B8 O8 HM1
  obtain ⟨b9, o9, G9, _⟩ := W9.pcAt QK
  go_wp2_with fail
  refine (eqParcelS_any ag az b9 o9 Q.length cg bs os cs Q _ G9 S9).mono ?_
  rintro e v10 ⟨rfl, hb10⟩
  have B10 := B9.trans (hb10.mono B9.size)
  have S10 := S9.below' hb10
  have W10 := W9.below hb10 (Nat.le_refl _)
  clear S9 W9 G9 hb10 B9 hk9
  have hm2 := markParcelS_own ag Q.length cg 1 _ _ v10 (by omega) (by omega) QL W10
  rw [show ((1 : Nat) : Int) = 1 from rfl] at hm2
  have HM2 := hid hm2
  clear hm2
  go_wp2_with fail
  refine HM2.out.mono ?_
  rintro e v11 ⟨rfl, W11, hg11⟩
  have B11 := B10.grown hg11 B10.size (fun q hq => by have := hgl _ hq; omega)
  have S11 := S10.grown hg11 (fun hp e => by have := hsl hp; have := hgl _ e.symm; omega)
  obtain ⟨b11, o11, G11, _⟩ := W11.pcAt (mkP_ok 1 Q.length (by omega) QL)
  clear S10 W10 W11 hg11 B10 HM2
  have hh1 := heldParcelS_any ag b11 o11 Q.length cg 1 v11 (by omega) (by omega) QL G11
  rw [show ((1 : Nat) : Int) = 1 from rfl] at hh1
  have HH1 := hid hh1
  clear hh1
  have hQL : (Q.length : Int) ≤ 1048576 := by omega
  go_wp2_with fail
  refine HH1.out.mono ?_
  rintro e v12 ⟨rfl, hb12⟩
  have B12 := B11.trans (hb12.mono B11.size)
  have S12 := S11.below' hb12
  have G12 := G11.below' hb12
  clear S11 G11 hb12 B11 HH1
  go_wp2_with fail
  refine (toParcelS_any a b o n c P _ (h.below' B12) hn).mono ?_
  rintro e v13 ⟨g13, rfl, O13, hb13⟩
  have B13 := B12.trans (hb13.mono B12.size)
  have S13 := S12.below' hb13
  have G13 := G12.below' hb13
  clear S12 G12 hb13 B12
  go_wp2_with fail
  refine (implLose_any _ g13 0 n n P k _ (PcAt.ofOwn O13 HK.out) hn).mono ?_
  rintro e v14 ⟨⟨vh, rfl, hoh⟩, hb14⟩
  rw [← HQ.out] at hoh
  have B14 := B13.trans (hb14.mono B13.size)
  have S14 := S13.below' hb14
  have G14 := G13.below' hb14
  obtain ⟨ah, ch, rfl⟩ := hoh.slc
  obtain ⟨bh, oh, H14, _⟩ := hoh.pcAt QK
  clear S13 G13 O13 hoh hb14 B13
  go_wp2_with fail
  refine (eqParcelS_any ah az bh oh Q.length ch bs os cs Q _ H14 S14).mono ?_
  rintro e v15 ⟨rfl, hb15⟩
  have B15 := B14.trans (hb15.mono B14.size)
  have G15 := G14.below' hb15
  clear S14 G14 H14 hb15 B14
  have hh2 := heldParcelS_any ag b11 o11 Q.length cg 1 v15 (by omega) (by omega) QL G15
  rw [show ((1 : Nat) : Int) = 1 from rfl] at hh2
  have HH2 := hid hh2
  clear hh2
  go_wp2_with fail
  refine HH2.out.mono ?_
  rintro e v16 ⟨rfl, hb16⟩
  have B16 := B15.trans (hb16.mono B15.size)
  clear G15 hb16 B15 HH2
  go_wp2
  go_ret
  exact ⟨rfl, B16⟩

set_option maxHeartbeats 4000000 in
set_option maxRecDepth 100000 in
theorem fnExactBend_walk (a : Option Addr) (b o n c : Nat) (P : List Pc) (k place mask : Int) (w : World) (h : PcAt w a b o n P) :
    Calls Try.prog 5 #[.slice a n c, .int .i64 k, .int .i64 place, .int .i64 mask] w fun e w' => e = .returned (.bool true) ∧ Below w.heap.size w w' := by
  have HL : Hid (P.length = n) := h.len
  have HK : Hid (PcOk P) := h.ok
  go_enter Try.func5, Try.ntmps5
  go_wp2_with fail
  refine (szParcelS_any a b o n c P 1048576 _ (by omega) (by omega) h).mono ?_
  rintro e v1 ⟨⟨r, rfl, hr⟩, B1⟩
  rcases hr with rfl | ⟨hr0, hr1, hn⟩
  · go_wp2
    go_ret
    exact ⟨rfl, B1⟩
  obtain ⟨QK, QL⟩ := bndP_ok k place mask HK.out (by rw [HL.out]; exact hn)
  obtain ⟨Q, hQ⟩ : ∃ Q, Q = bndP P k place mask := ⟨_, rfl⟩
  rw [← hQ] at QK QL
  have HQ := hid hQ
  clear hQ
  go_wp2_with fail
  refine (toParcelS_any a b o n c P _ (h.below' B1) hn).mono ?_
  rintro e v2 ⟨g2, rfl, ho2, hb2⟩
  have B2 := B1.trans (hb2.mono B1.size)
  have hp2 := PcAt.ofOwn ho2 HK.out
  clear B1 hb2 ho2
  go_wp2_with fail
  refine (specBend_any _ g2 0 n n P k place mask _ hp2 hn).mono ?_
  rintro e v3 ⟨⟨vs, rfl, hos⟩, hb3⟩
  rw [← HQ.out] at hos
  have B3 := B2.trans (hb3.mono B2.size)
  have hz3 := B3.size
  obtain ⟨az, cs, rfl⟩ := hos.slc
  obtain ⟨bs, os, S3, _⟩ := hos.pcAt QK
  have hsl := S3.lt
  clear hos hb3 hp2 B2
  go_wp2_with fail
  refine (toParcelS_any a b o n c P _ (h.below' B3) hn).mono ?_
  rintro e v4 ⟨g4, rfl, O4, hb4⟩
  have B4 := B3.trans (hb4.mono B3.size)
  have S4 := S3.below' hb4
  have hg4l := O4.lo
  have hg4h := O4.hi
  clear S3 hb4 B3
  go_wp2_with fail
  refine (implBend_any _ g4 0 n n P k place mask _ (PcAt.ofOwn O4 HK.out) hn).mono ?_
  rintro e v5 ⟨⟨vg, rfl, hog⟩, hb5⟩
  rw [← HQ.out] at hog
  have B5 := B4.trans (hb5.mono B4.size)
  have S5 := S4.below' hb5
  have O5 := O4.below hb5 O4.hi
  obtain ⟨ag, cg, rfl⟩ := hog.slc
  have hgl := hog.row_lo
  have hgh := hog.row_hi
  clear S4 O4 hb5 B4
  obtain ⟨bg, og, G5, _⟩ := hog.pcAt QK
  go_wp2_with fail
  refine (eqParcelS_any ag az bg og Q.length cg bs os cs Q _ G5 S5).mono ?_
  rintro e v6 ⟨rfl, hb6⟩
  have B6 := B5.trans (hb6.mono B5.size)
  have S6 := S5.below' hb6
  have O6 := O5.below hb6 O5.hi
  have W6 := hog.below hb6 (Nat.le_refl _)
  clear S5 O5 hog G5 hb6 B5
  go_wp2_with fail
  refine (toParcelS_any a b o n c P _ (h.below' B6) hn).mono ?_
  rintro e v7 ⟨g7, rfl, O7', hb7⟩
  have B7 := B6.trans (hb7.mono B6.size)
  have S7 := S6.below' hb7
  have O7 := O6.below hb7 O6.hi
  have W7 := W6.below hb7 (Nat.le_refl _)
  clear S6 O6 W6 hb7 B6
  go_wp2_with fail
  refine (eqParcelS_any _ _ g4 0 n n g7 0 n P _ (PcAt.ofOwn O7 HK.out) (PcAt.ofOwn O7' HK.out)).mono ?_
  rintro e v8 ⟨rfl, hb8⟩
  have B8 := B7.trans (hb8.mono B7.size)
  have S8 := S7.below' hb8
  have O8 := O7.below hb8 O7.hi
  have W8 := W7.below hb8 (Nat.le_refl _)
  clear S7 O7 W7 hb8 B7 O7'
  have hm1 := markParcelS_any g4 0 n n n 1 _ _ v8 (by omega) (by omega) hn O8
  rw [show ((1 : Nat) : Int) = 1 from rfl] at hm1
  have HM1 := hid hm1
  clear hm1
  go_wp2_with fail
  refine HM1.out.mono ?_
  rintro e v9 ⟨rfl, _, hg9⟩
  have B9 := B8.grown hg9 B8.size (fun q hq => by injection hq with hq; omega)
  have S9 := S8.grown hg9 (fun hp => by have := hsl hp; simp; omega)
  have W9 := W8.grown hg9 (.inr (by intro hh; have := hgl _ hh; omega))
  have hk9 : ¬ (1 : Int) + n * 3 < 0 := by omega
  clear S8 W8 hg9 B8 O8 HM1
  obtain ⟨b9, o9, G9, _⟩ := W9.pcAt QK
  go_wp2_with fail
  refine (eqParcelS_any ag az b9 o9 Q.length cg bs os cs Q _ G9 S9).mono ?_
  rintro e v10 ⟨rfl, hb10⟩
  have B10 := B9.trans (hb10.mono B9.size)
  have S10 := S9.below' hb10
  have W10 := W9.below hb10 (Nat.le_refl _)
  clear S9 W9 G9 hb10 B9 hk9
  have hm2 := markParcelS_own ag Q.length cg 1 _ _ v10 (by omega) (by omega) QL W10
  rw [show ((1 : Nat) : Int) = 1 from rfl] at hm2
  have HM2 := hid hm2
  clear hm2
  go_wp2_with fail
  refine HM2.out.mono ?_
  rintro e v11 ⟨rfl, W11, hg11⟩
  have B11 := B10.grown hg11 B10.size (fun q hq => by have := hgl _ hq; omega)
  have S11 := S10.grown hg11 (fun hp e => by have := hsl hp; have := hgl _ e.symm; omega)
  obtain ⟨b11, o11, G11, _⟩ := W11.pcAt (mkP_ok 1 Q.length (by omega) QL)
  clear S10 W10 W11 hg11 B10 HM2
  have hh1 := heldParcelS_any ag b11 o11 Q.length cg 1 v11 (by omega) (by omega) QL G11
  rw [show ((1 : Nat) : Int) = 1 from rfl] at hh1
  have HH1 := hid hh1
  clear hh1
  have hQL : (Q.length : Int) ≤ 1048576 := by omega
  go_wp2_with fail
  refine HH1.out.mono ?_
  rintro e v12 ⟨rfl, hb12⟩
  have B12 := B11.trans (hb12.mono B11.size)
  have S12 := S11.below' hb12
  have G12 := G11.below' hb12
  clear S11 G11 hb12 B11 HH1
  go_wp2_with fail
  refine (toParcelS_any a b o n c P _ (h.below' B12) hn).mono ?_
  rintro e v13 ⟨g13, rfl, O13, hb13⟩
  have B13 := B12.trans (hb13.mono B12.size)
  have S13 := S12.below' hb13
  have G13 := G12.below' hb13
  clear S12 G12 hb13 B12
  go_wp2_with fail
  refine (implBend_any _ g13 0 n n P k place mask _ (PcAt.ofOwn O13 HK.out) hn).mono ?_
  rintro e v14 ⟨⟨vh, rfl, hoh⟩, hb14⟩
  rw [← HQ.out] at hoh
  have B14 := B13.trans (hb14.mono B13.size)
  have S14 := S13.below' hb14
  have G14 := G13.below' hb14
  obtain ⟨ah, ch, rfl⟩ := hoh.slc
  obtain ⟨bh, oh, H14, _⟩ := hoh.pcAt QK
  clear S13 G13 O13 hoh hb14 B13
  go_wp2_with fail
  refine (eqParcelS_any ah az bh oh Q.length ch bs os cs Q _ H14 S14).mono ?_
  rintro e v15 ⟨rfl, hb15⟩
  have B15 := B14.trans (hb15.mono B14.size)
  have G15 := G14.below' hb15
  clear S14 G14 H14 hb15 B14
  have hh2 := heldParcelS_any ag b11 o11 Q.length cg 1 v15 (by omega) (by omega) QL G15
  rw [show ((1 : Nat) : Int) = 1 from rfl] at hh2
  have HH2 := hid hh2
  clear hh2
  go_wp2_with fail
  refine HH2.out.mono ?_
  rintro e v16 ⟨rfl, hb16⟩
  have B16 := B15.trans (hb16.mono B15.size)
  clear G15 hb16 B15 HH2
  go_wp2
  go_ret
  exact ⟨rfl, B16⟩

end Go.Proofs.Ytfocmmiajcamiaa
