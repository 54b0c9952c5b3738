
/-
  laws.wList, wMessage; FnMessages.
-/
import Derived.Test.YtlgmkmegkojgbaaDoorDrr
import Derived.Test.YtlgmkmegkojgbaaDoorLawRead2
namespace Go.Proofs.YtlgmkmegkojgbaaDoor
open Go.RowKit

set_option maxHeartbeats 1000000 in
theorem wList_any (a a' : Option Addr) (b o n c b' o' c' : Nat) (ss : List ByteArray) (w : World) (h : StrsAt w a b o n ss) (h' : StrsAt w a' b' o' n ss) :
    Calls Tryd.prog 53 #[.slice a n c, .slice a' n c'] w fun e w' => e = .returned (.bool true) ∧ Below w.heap.size w w' := by
  have hmax := h.max
  unfold maxLen at hmax
  go_enter Tryd.func53, Tryd.ntmps53
  go_wp2
  go_loopw [5] (fun i wr => ∃ k : Nat, k ≤ n ∧ i = .int .i64 k ∧ Below w.heap.size w wr) (fun i _ => n - (intOf i).toNat)
  case atStart => exact ⟨0, Nat.zero_le _, rfl, Below.refl _ _⟩
  case round =>
    obtain ⟨k, hk, rfl, hb⟩ := hrel
    by_cases hlt : k < n
    · obtain rfl := h.ad (by omega)
      obtain rfl := h'.ad (by omega)
      have hbl := h.lt (by omega)
      have hbl' := h'.lt (by omega)
      have hc : wr.cell? ⟨b, o + k, none⟩ = some (.string (ss.getD k ByteArray.empty)) := (hb.cell (by exact hbl)).trans (h.cell k hlt)
      have hc' : wr.cell? ⟨b', o' + k, none⟩ = some (.string (ss.getD k ByteArray.empty)) := (hb.cell (by exact hbl')).trans (h'.cell k hlt)
      obtain ⟨s, hs'⟩ : ∃ s, s = ss.getD k ByteArray.empty := ⟨_, rfl⟩
      rw [← hs'] at hc hc'
      clear hs'
      have hlt' : (k : Int) < (n : Int) := by omega
      go_wp2
      go_quiet (fail)
      go_wp2
      go_roundw
      case rel => exact ⟨k + 1, by omega, by go_num, below_drewN hb _⟩
      case measure => simp [intOf]; omega
    · go_wp2
      go_ret
      exact ⟨rfl, hb⟩

set_option maxHeartbeats 1000000 in
set_option maxRecDepth 100000 in
theorem wMessage_any (k f t e l d : Int) (x : ByteArray) (a a' : Option Addr) (b o n c b' o' c' : Nat) (ss : List ByteArray) (w : World) (h : StrsAt w a b o n ss) (h' : StrsAt w a' b' o' n ss) :
    Calls Tryd.prog 18 #[.agg #[.int .i64 k, .int .i64 f, .int .i64 t, .int .i64 e, .int .i64 l, .int .i64 d, .string x, .slice a n c], .agg #[.int .i64 k, .int .i64 f, .int .i64 t, .int .i64 e, .int .i64 l, .int .i64 d, .string x, .slice a' n c']] w fun e w' => e = .returned (.bool true) ∧ Below w.heap.size w w' := by
  obtain ⟨W, hW⟩ : ∃ W, W = (w.alloc (.cells #[.int .i64 k, .int .i64 f, .int .i64 t, .int .i64 e, .int .i64 l, .int .i64 d, .string x, .slice a n c] 27)).alloc (.cells #[.int .i64 k, .int .i64 f, .int .i64 t, .int .i64 e, .int .i64 l, .int .i64 d, .string x, .slice a' n c'] 27) := ⟨_, rfl⟩
  have hb0 : Below w.heap.size w W := by rw [hW]; exact ((Below.refl _ _).alloc (Nat.le_refl _) _).alloc (by simp) _
  go_enter Tryd.func18, Tryd.ntmps18
  go_wp2_with fail
  rw [← hW]
  refine (wList_any a a' b o n c b' o' c' ss _ (h.below' hb0) (h'.below' hb0)).mono ?_
  rintro e' w1 ⟨rfl, hb1⟩
  clear hW
  have hb := hb0.trans (hb1.mono hb0.size)
  go_wp2
  go_ret
  exact ⟨rfl, hb⟩

theorem bytes_below {w w' : World} {C : Nat} {ad : Option Addr} {b o n : Nat} (h : BytesAt w ad b o n) (hb : 0 < n → b < w.heap.size) (hB : Below C w w') (hC : w.heap.size ≤ C := by exact Nat.le_refl _) : BytesAt w' ad b o n :=
  ⟨h.1, fun j hj => by obtain ⟨v, hv, hc⟩ := h.2 j hj; exact ⟨v, hv, (hB.cell (p := ⟨b, o + j, none⟩) (Nat.lt_of_lt_of_le (hb (by omega)) hC)).trans hc⟩⟩

set_option maxHeartbeats 8000000 in
set_option maxRecDepth 100000 in
theorem fnMessages_walk (ad : Option Addr) (b o n cc : Nat) (w : World) (hT : Tab w) (hE : ErrT w) (hby : BytesAt w ad b o n) (hb : 0 < n → b < w.heap.size) (hcc : n ≤ cc) (hnm : n ≤ maxLen) :
    Calls Tryd.prog 5 #[.slice ad n cc] w fun e' w' => e' = .returned (.bool true) ∧ Below w.heap.size w w' := by
  unfold maxLen at hnm
  have hE1 := hE.pos
  by_cases h20 : 1048576 < n
  · have h20' : (1048576 : Int) < (n : Int) := by omega
    go_enter Tryd.func5, Tryd.ntmps5
    go_wp2
    go_ret
    exact ⟨rfl, Below.refl _ _⟩
  have h20' : ¬ (1048576 : Int) < (n : Int) := by omega
  go_enter Tryd.func5, Tryd.ntmps5
  go_wp2_with fail
  refine (drawForm_any ad b o n cc _ hby hb hcc (by omega)).mono ?_
  rintro e1 w1 ⟨⟨v, key, rfl, hkey, hv⟩, hB1⟩
  obtain ⟨a0, a1, a2, a3, a4, a5, ax, ass, aa, ac, rfl, hx, hl12, hs8, _, ho⟩ := hv
  obtain ⟨W1, hW1⟩ : ∃ W, W = w1.alloc (.cells #[.int .i64 a0, .int .i64 a1, .int .i64 a2, .int .i64 a3, .int .i64 a4, .int .i64 a5, .string ax, .slice aa ass.length ac] 27) := ⟨_, rfl⟩
  have hb11 : Below w1.heap.size w1 W1 := by rw [hW1]; exact (Below.refl _ _).alloc (Nat.le_refl _) _
  have hs1 : w1.heap.size < W1.heap.size := by rw [hW1]; simp
  have HM1 := hid (show MC W1 w1.heap.size [.int .i64 a0, .int .i64 a1, .int .i64 a2, .int .i64 a3, .int .i64 a4, .int .i64 a5, .string ax, .slice aa ass.length ac] by rw [hW1]; exact MC.made w1 _ _)
  have hBW1 := hB1.trans (hb11.mono hB1.size)
  have HO1 := hid (ho.below hb11 (Nat.le_refl _))
  have hsz : ∀ s ∈ ass, s.size ≤ maxLen := fun s hs => Nat.le_trans (hs8 s hs) (by decide)
  have HSZ := hid hsz
  have hkm : key.size ≤ maxLen := by unfold maxLen; omega
  have HW1 := hid hW1
  clear hW1 ho hs8 hsz
  go_upto_region 4 with fail
  rw [← HW1.out]
  clear HW1
  have p0 : W1.cell? ⟨w1.heap.size, 0, none⟩ = some (.int .i64 a0) := HM1.out 0 (by simp)
  have p1 : W1.cell? ⟨w1.heap.size, 1, none⟩ = some (.int .i64 a1) := HM1.out 1 (by simp)
  have p2 : W1.cell? ⟨w1.heap.size, 2, none⟩ = some (.int .i64 a2) := HM1.out 2 (by simp)
  have p3 : W1.cell? ⟨w1.heap.size, 3, none⟩ = some (.int .i64 a3) := HM1.out 3 (by simp)
  have p4 : W1.cell? ⟨w1.heap.size, 4, none⟩ = some (.int .i64 a4) := HM1.out 4 (by simp)
  have p5 : W1.cell? ⟨w1.heap.size, 5, none⟩ = some (.int .i64 a5) := HM1.out 5 (by simp)
  have p6 : W1.cell? ⟨w1.heap.size, 6, none⟩ = some (.string ax) := HM1.out 6 (by simp)
  have p7 : W1.cell? ⟨w1.heap.size, 7, none⟩ = some (.slice aa ass.length ac) := HM1.out 7 (by simp)
  obtain ⟨bb1, oo1, hSt1⟩ := HO1.out.strs HSZ.out
  go_wp2_with fail
  refine (implForm_any a0 a1 a2 a3 a4 a5 ax aa bb1 oo1 ass.length ac ass key _ (hT.below hBW1 hT.pos) hSt1 hkm).mono ?_
  rintro e2 w2 ⟨⟨s, rfl, hf1⟩, hb2⟩
  have hB2 := hBW1.trans (hb2.mono hBW1.size)
  have HF := hid hf1
  have HM2 := hid (HM1.out.below hb2 hs1)
  have HO2 := hid (HO1.out.below hb2 (Nat.le_refl _))
  have hs2 : w1.heap.size < w2.heap.size := Nat.lt_of_lt_of_le hs1 hb2.size
  have hSt2 := hSt1.below' hb2
  clear hf1 hSt1 hb2 HM1 HO1
  clear p0 p1 p2 p3 p4 p5 p6 p7
  have p0 : w2.cell? ⟨w1.heap.size, 0, none⟩ = some (.int .i64 a0) := HM2.out 0 (by simp)
  have p1 : w2.cell? ⟨w1.heap.size, 1, none⟩ = some (.int .i64 a1) := HM2.out 1 (by simp)
  have p2 : w2.cell? ⟨w1.heap.size, 2, none⟩ = some (.int .i64 a2) := HM2.out 2 (by simp)
  have p3 : w2.cell? ⟨w1.heap.size, 3, none⟩ = some (.int .i64 a3) := HM2.out 3 (by simp)
  have p4 : w2.cell? ⟨w1.heap.size, 4, none⟩ = some (.int .i64 a4) := HM2.out 4 (by simp)
  have p5 : w2.cell? ⟨w1.heap.size, 5, none⟩ = some (.int .i64 a5) := HM2.out 5 (by simp)
  have p6 : w2.cell? ⟨w1.heap.size, 6, none⟩ = some (.string ax) := HM2.out 6 (by simp)
  have p7 : w2.cell? ⟨w1.heap.size, 7, none⟩ = some (.slice aa ass.length ac) := HM2.out 7 (by simp)
  go_wp2_with fail
  refine (specForm_any a0 a1 a2 a3 a4 a5 ax aa bb1 oo1 ass.length ac ass key _ hSt2 hkm).mono ?_
  rintro e3 w3 ⟨⟨s', rfl, hf2⟩, hb3⟩
  obtain rfl := HF.out.uniq hf2
  have hB3 := hB2.trans (hb3.mono hB2.size)
  have HM3 := hid (HM2.out.below hb3 hs2)
  have HO3 := hid (HO2.out.below hb3 (Nat.le_refl _))
  have hs3 : w1.heap.size < w3.heap.size := Nat.lt_of_lt_of_le hs2 hb3.size
  have hsz2 := form_size HF.out
  clear hf2 hSt2 hb3 HM2 HO2
  clear p0 p1 p2 p3 p4 p5 p6 p7
  by_cases h0 : s = ⟨#[]⟩
  · subst h0
    go_wp2_with fail
    refine (drawRead_any ad b o n cc _ (bytes_below hby hb hB3) (fun h0 => by have := hb h0; have := hB3.size; omega) hcc (by omega)).mono ?_
    rintro e20 w20 ⟨⟨t, kk, rfl, htz, hkz⟩, hb20⟩
    have hB20 := hB3.trans (hb20.mono hB3.size)
    have htm : t.size ≤ maxLen := by unfold maxLen; omega
    have hkm2 : kk.size ≤ maxLen := by unfold maxLen; omega
    go_wp2_with fail
    refine (implRead_any t kk _ (hT.below hB20 hT.pos) (hE.below hB20 hE1) hkm2 htm).mono ?_
    rintro e21 w21 ⟨hret, hb21⟩
    obtain ⟨c0, c1, c2, c3, c4, c5, cx, css, ca, cc2, cr, rfl, hcres, hco⟩ := hret.view
    have hB21 := hB20.trans (hb21.mono hB20.size)
    have HCR := hid hcres
    obtain ⟨hc8, hcz⟩ := hcres.small
    have HCZ := hid hcz
    obtain ⟨W21, hW21⟩ : ∃ W, W = w21.alloc (.cells #[.int .i64 c0, .int .i64 c1, .int .i64 c2, .int .i64 c3, .int .i64 c4, .int .i64 c5, .string cx, .slice ca css.length cc2] 27) := ⟨_, rfl⟩
    have hb21a : Below w21.heap.size w21 W21 := by rw [hW21]; exact (Below.refl _ _).alloc (Nat.le_refl _) _
    have hs21 : w21.heap.size < W21.heap.size := by rw [hW21]; simp
    have HM21 := hid (show MC W21 w21.heap.size [.int .i64 c0, .int .i64 c1, .int .i64 c2, .int .i64 c3, .int .i64 c4, .int .i64 c5, .string cx, .slice ca css.length cc2] by rw [hW21]; exact MC.made w21 _ _)
    have hBW21 := hB21.trans (hb21a.mono hB21.size)
    have HO21 := hid (hco.below hb21a (Nat.le_refl _))
    have HW21 := hid hW21
    clear hret hcres hcz hco hW21 hb20 hb21 hb21a
    go_wp2_with fail
    rw [← HW21.out]
    clear HW21
    refine (specRead_any t kk _ hkm2 (by omega)).mono ?_
    rintro e22 w22 ⟨hret, hb22⟩
    obtain ⟨d0, d1, d2, d3, d4, d5, dx, dss, da, dc2, dr, rfl, hdres, hdo⟩ := hret.view
    obtain ⟨rfl, rfl, rfl, rfl, rfl, rfl, rfl, rfl, rfl⟩ := HCR.out.uniq hdres
    have hB22 := hBW21.trans (hb22.mono hBW21.size)
    have hs22 : w21.heap.size < w22.heap.size := Nat.lt_of_lt_of_le hs21 hb22.size
    obtain ⟨W22, hW22⟩ : ∃ W, W = w22.alloc (.cells #[.int .i64 c0, .int .i64 c1, .int .i64 c2, .int .i64 c3, .int .i64 c4, .int .i64 c5, .string cx, .slice da css.length dc2] 27) := ⟨_, rfl⟩
    have hb22a : Below w22.heap.size w22 W22 := by rw [hW22]; exact (Below.refl _ _).alloc (Nat.le_refl _) _
    have HM22 := hid ((HM21.out.below hb22 hs21).below hb22a hs22)
    have HO22 := hid ((HO21.out.below hb22 (Nat.le_refl _)).below hb22a (Nat.le_refl _))
    have hBW22 := hB22.trans (hb22a.mono hB22.size)
    have HW22 := hid hW22
    clear hret hdres hdo hW22 HM21 HO21 hb22 hb22a
    go_upto_region 18 with fail
    rw [← HW22.out]
    clear HW22
    cases cr with
    | false =>
      go_wp2
      go_ret
      exact ⟨rfl, hBW22⟩
    | true =>
      have p0 : W22.cell? ⟨w21.heap.size, 0, none⟩ = some (.int .i64 c0) := HM22.out 0 (by simp)
      have p1 : W22.cell? ⟨w21.heap.size, 1, none⟩ = some (.int .i64 c1) := HM22.out 1 (by simp)
      have p2 : W22.cell? ⟨w21.heap.size, 2, none⟩ = some (.int .i64 c2) := HM22.out 2 (by simp)
      have p3 : W22.cell? ⟨w21.heap.size, 3, none⟩ = some (.int .i64 c3) := HM22.out 3 (by simp)
      have p4 : W22.cell? ⟨w21.heap.size, 4, none⟩ = some (.int .i64 c4) := HM22.out 4 (by simp)
      have p5 : W22.cell? ⟨w21.heap.size, 5, none⟩ = some (.int .i64 c5) := HM22.out 5 (by simp)
      have p6 : W22.cell? ⟨w21.heap.size, 6, none⟩ = some (.string cx) := HM22.out 6 (by simp)
      have p7 : W22.cell? ⟨w21.heap.size, 7, none⟩ = some (.slice ca css.length cc2) := HM22.out 7 (by simp)
      have hgood : Good t kk c0 c1 c2 c3 c4 c5 cx css := by rcases HCR.out with ⟨_, h⟩ | ⟨h, _⟩; exact h; cases h
      have HG := hid hgood
      clear hgood
      obtain ⟨bb3, oo3, hSt3⟩ := HO22.out.strs HCZ.out
      go_wp2_with fail
      refine (implForm_any c0 c1 c2 c3 c4 c5 cx ca bb3 oo3 css.length cc2 css kk _ (hT.below hBW22 hT.pos) hSt3 hkm2).mono ?_
      rintro e23 w23 ⟨⟨fr, rfl, hfr⟩, hb23⟩
      have hB23 := hBW22.trans (hb23.mono hBW22.size)
      obtain rfl : fr = t := hfr.uniq (.inl HG.out)
      clear p0 p1 p2 p3 p4 p5 p6 p7
      go_wp2
      go_ret
      exact ⟨rfl, hB23⟩
  · have hne : (s.toList == (⟨#[]⟩ : ByteArray).toList) = false := beq_false_of_ne (fun hh => h0 (ba_eq (by rw [← ByteArray.toList_eq, ← ByteArray.toList_eq]; exact hh)))
    have hgood : Good s key a0 a1 a2 a3 a4 a5 ax ass := by
      rcases HF.out with h | ⟨_, h⟩
      · exact h
      · exact absurd h h0
    have HRA := hid (show Res s key a0 a1 a2 a3 a4 a5 ax ass true from .inl ⟨rfl, hgood⟩)
    have hsm : s.size ≤ maxLen := by unfold maxLen; omega
    have hs0 : ¬ s.size = 0 := fun hz => h0 (ba_eq (by have : s.data.toList.length = 0 := by { rw [Array.length_toList]; exact hz }; rw [List.eq_nil_of_length_eq_zero this]))
    have hie := empty_f hs0
    have HS0 := hid h0
    clear hgood h0
    go_wp2_with fail
    refine (implRead_any s key _ (hT.below hB3 hT.pos) (hE.below hB3 hE1) hkm hsm).mono ?_
    rintro e4 w4 ⟨hret, hb4⟩
    obtain ⟨x0, x1, x2, x3, x4, x5, xx, xss, xa, xc, xr, rfl, hxres, hxo⟩ := hret.view
    obtain ⟨rfl, rfl, rfl, rfl, rfl, rfl, rfl, rfl, rfl⟩ := HRA.out.uniq hxres
    have hB4 := hB3.trans (hb4.mono hB3.size)
    have hs4 : w1.heap.size < w4.heap.size := Nat.lt_of_lt_of_le hs3 hb4.size
    obtain ⟨W4, hW4⟩ : ∃ W, W = w4.alloc (.cells #[.int .i64 a0, .int .i64 a1, .int .i64 a2, .int .i64 a3, .int .i64 a4, .int .i64 a5, .string ax, .slice xa ass.length xc] 27) := ⟨_, rfl⟩
    have hb44 : Below w4.heap.size w4 W4 := by rw [hW4]; exact (Below.refl _ _).alloc (Nat.le_refl _) _
    have HM4x := hid (show MC W4 w4.heap.size [.int .i64 a0, .int .i64 a1, .int .i64 a2, .int .i64 a3, .int .i64 a4, .int .i64 a5, .string ax, .slice xa ass.length xc] by rw [hW4]; exact MC.made w4 _ _)
    have HM4 := hid ((HM3.out.below hb4 hs3).below hb44 hs4)
    have HO4 := hid ((HO3.out.below hb4 (Nat.le_refl _)).below hb44 (Nat.le_refl _))
    have HO4x := hid (hxo.below hb44 (Nat.le_refl _))
    have hBW4 := hB4.trans (hb44.mono hB4.size)
    have HW4 := hid hW4
    clear hret hxres hxo hW4 hb4 hb44 HM3 HO3
    go_upto_region 9 with fail
    rw [← HW4.out]
    clear HW4
    have p0 : W4.cell? ⟨w1.heap.size, 0, none⟩ = some (.int .i64 a0) := HM4.out 0 (by simp)
    have p1 : W4.cell? ⟨w1.heap.size, 1, none⟩ = some (.int .i64 a1) := HM4.out 1 (by simp)
    have p2 : W4.cell? ⟨w1.heap.size, 2, none⟩ = some (.int .i64 a2) := HM4.out 2 (by simp)
    have p3 : W4.cell? ⟨w1.heap.size, 3, none⟩ = some (.int .i64 a3) := HM4.out 3 (by simp)
    have p4 : W4.cell? ⟨w1.heap.size, 4, none⟩ = some (.int .i64 a4) := HM4.out 4 (by simp)
    have p5 : W4.cell? ⟨w1.heap.size, 5, none⟩ = some (.int .i64 a5) := HM4.out 5 (by simp)
    have p6 : W4.cell? ⟨w1.heap.size, 6, none⟩ = some (.string ax) := HM4.out 6 (by simp)
    have p7 : W4.cell? ⟨w1.heap.size, 7, none⟩ = some (.slice aa ass.length ac) := HM4.out 7 (by simp)
    have q0 : W4.cell? ⟨w4.heap.size, 0, none⟩ = some (.int .i64 a0) := HM4x.out 0 (by simp)
    have q1 : W4.cell? ⟨w4.heap.size, 1, none⟩ = some (.int .i64 a1) := HM4x.out 1 (by simp)
    have q2 : W4.cell? ⟨w4.heap.size, 2, none⟩ = some (.int .i64 a2) := HM4x.out 2 (by simp)
    have q3 : W4.cell? ⟨w4.heap.size, 3, none⟩ = some (.int .i64 a3) := HM4x.out 3 (by simp)
    have q4 : W4.cell? ⟨w4.heap.size, 4, none⟩ = some (.int .i64 a4) := HM4x.out 4 (by simp)
    have q5 : W4.cell? ⟨w4.heap.size, 5, none⟩ = some (.int .i64 a5) := HM4x.out 5 (by simp)
    have q6 : W4.cell? ⟨w4.heap.size, 6, none⟩ = some (.string ax) := HM4x.out 6 (by simp)
    have q7 : W4.cell? ⟨w4.heap.size, 7, none⟩ = some (.slice xa ass.length xc) := HM4x.out 7 (by simp)
    obtain ⟨bb4, oo4, hSt4⟩ := HO4.out.strs HSZ.out
    obtain ⟨bb5, oo5, hSt5⟩ := HO4x.out.strs HSZ.out
    go_wp2_with fail
    refine (wMessage_any a0 a1 a2 a3 a4 a5 ax xa aa bb5 oo5 ass.length xc bb4 oo4 ac ass _ hSt5 hSt4).mono ?_
    rintro e5 w5 ⟨rfl, hb5⟩
    have hB5 := hBW4.trans (hb5.mono hBW4.size)
    have hzk : (key ++ ⟨#[122]⟩ : ByteArray).size = key.size + 1 := by rw [ByteArray.size_append]; rfl
    obtain ⟨kz, hkz⟩ : ∃ kz, kz = (key ++ ⟨#[122]⟩ : ByteArray) := ⟨_, rfl⟩
    have hkzm : kz.size ≤ maxLen := by rw [hkz, hzk]; unfold maxLen; omega
    have HKZ := hid hkz
    have hn1 : ¬ 9223372036854775807 < key.size + 1 := by omega
    clear hkz hzk hSt4 hSt5 HM4 HM4x HO4 HO4x hb5
    clear p0 p1 p2 p3 p4 p5 p6 p7 q0 q1 q2 q3 q4 q5 q6 q7
    go_wp2_with fail
    rw [← HKZ.out]
    refine (implRead_any s kz _ (hT.below hB5 hT.pos) (hE.below hB5 hE1) hkzm hsm).mono ?_
    rintro e6 w6 ⟨hret, hb6⟩
    obtain ⟨y0, y1, y2, y3, y4, y5, yx, yss, ya, yc, yr, rfl, hyres, hyo⟩ := hret.view
    have hB6 := hB5.trans (hb6.mono hB5.size)
    have HYR := hid hyres
    obtain ⟨hy8, hyz⟩ := hyres.small
    have HYZ := hid hyz
    obtain ⟨W6, hW6⟩ : ∃ W, W = w6.alloc (.cells #[.int .i64 y0, .int .i64 y1, .int .i64 y2, .int .i64 y3, .int .i64 y4, .int .i64 y5, .string yx, .slice ya yss.length yc] 27) := ⟨_, rfl⟩
    have hb66 : Below w6.heap.size w6 W6 := by rw [hW6]; exact (Below.refl _ _).alloc (Nat.le_refl _) _
    have hs6 : w6.heap.size < W6.heap.size := by rw [hW6]; simp
    have HM6 := hid (show MC W6 w6.heap.size [.int .i64 y0, .int .i64 y1, .int .i64 y2, .int .i64 y3, .int .i64 y4, .int .i64 y5, .string yx, .slice ya yss.length yc] by rw [hW6]; exact MC.made w6 _ _)
    have hBW6 := hB6.trans (hb66.mono hB6.size)
    have HO6 := hid (hyo.below hb66 (Nat.le_refl _))
    have HW6 := hid hW6
    clear hret hyres hyz hyo hW6 hb6 hb66
    go_wp2_with fail
    rw [← HW6.out]
    rw [← HKZ.out]
    clear HW6
    refine (specRead_any s kz _ hkzm (by omega)).mono ?_
    rintro e7 w7 ⟨hret, hb7⟩
    obtain ⟨z0, z1, z2, z3, z4, z5, zx, zss, za, zc, zr, rfl, hzres, hzo⟩ := hret.view
    obtain ⟨rfl, rfl, rfl, rfl, rfl, rfl, rfl, rfl, rfl⟩ := HYR.out.uniq hzres
    have hB7 := hBW6.trans (hb7.mono hBW6.size)
    have hs7 : w6.heap.size < w7.heap.size := Nat.lt_of_lt_of_le hs6 hb7.size
    obtain ⟨W7, hW7⟩ : ∃ W, W = w7.alloc (.cells #[.int .i64 y0, .int .i64 y1, .int .i64 y2, .int .i64 y3, .int .i64 y4, .int .i64 y5, .string yx, .slice za yss.length zc] 27) := ⟨_, rfl⟩
    have hb77 : Below w7.heap.size w7 W7 := by rw [hW7]; exact (Below.refl _ _).alloc (Nat.le_refl _) _
    have HM7z := hid (show MC W7 w7.heap.size [.int .i64 y0, .int .i64 y1, .int .i64 y2, .int .i64 y3, .int .i64 y4, .int .i64 y5, .string yx, .slice za yss.length zc] by rw [hW7]; exact MC.made w7 _ _)
    have HM7 := hid ((HM6.out.below hb7 hs6).below hb77 hs7)
    have HO7 := hid ((HO6.out.below hb7 (Nat.le_refl _)).below hb77 (Nat.le_refl _))
    have HO7z := hid (hzo.below hb77 (Nat.le_refl _))
    have hBW7 := hB7.trans (hb77.mono hB7.size)
    have HW7 := hid hW7
    clear hret hzres hzo hW7 hb7 hb77 HM6 HO6
    go_upto_region 13 with fail
    rw [← HW7.out]
    clear HW7 HKZ
    have p0 : W7.cell? ⟨w6.heap.size, 0, none⟩ = some (.int .i64 y0) := HM7.out 0 (by simp)
    have p1 : W7.cell? ⟨w6.heap.size, 1, none⟩ = some (.int .i64 y1) := HM7.out 1 (by simp)
    have p2 : W7.cell? ⟨w6.heap.size, 2, none⟩ = some (.int .i64 y2) := HM7.out 2 (by simp)
    have p3 : W7.cell? ⟨w6.heap.size, 3, none⟩ = some (.int .i64 y3) := HM7.out 3 (by simp)
    have p4 : W7.cell? ⟨w6.heap.size, 4, none⟩ = some (.int .i64 y4) := HM7.out 4 (by simp)
    have p5 : W7.cell? ⟨w6.heap.size, 5, none⟩ = some (.int .i64 y5) := HM7.out 5 (by simp)
    have p6 : W7.cell? ⟨w6.heap.size, 6, none⟩ = some (.string yx) := HM7.out 6 (by simp)
    have p7 : W7.cell? ⟨w6.heap.size, 7, none⟩ = some (.slice ya yss.length yc) := HM7.out 7 (by simp)
    have q0 : W7.cell? ⟨w7.heap.size, 0, none⟩ = some (.int .i64 y0) := HM7z.out 0 (by simp)
    have q1 : W7.cell? ⟨w7.heap.size, 1, none⟩ = some (.int .i64 y1) := HM7z.out 1 (by simp)
    have q2 : W7.cell? ⟨w7.heap.size, 2, none⟩ = some (.int .i64 y2) := HM7z.out 2 (by simp)
    have q3 : W7.cell? ⟨w7.heap.size, 3, none⟩ = some (.int .i64 y3) := HM7z.out 3 (by simp)
    have q4 : W7.cell? ⟨w7.heap.size, 4, none⟩ = some (.int .i64 y4) := HM7z.out 4 (by simp)
    have q5 : W7.cell? ⟨w7.heap.size, 5, none⟩ = some (.int .i64 y5) := HM7z.out 5 (by simp)
    have q6 : W7.cell? ⟨w7.heap.size, 6, none⟩ = some (.string yx) := HM7z.out 6 (by simp)
    have q7 : W7.cell? ⟨w7.heap.size, 7, none⟩ = some (.slice za yss.length zc) := HM7z.out 7 (by simp)
    obtain ⟨bb7, oo7, hSt7⟩ := HO7.out.strs HYZ.out
    obtain ⟨bb8, oo8, hSt8⟩ := HO7z.out.strs HYZ.out
    go_wp2_with fail
    refine (wMessage_any y0 y1 y2 y3 y4 y5 yx ya za bb7 oo7 yss.length yc bb8 oo8 zc yss _ hSt7 hSt8).mono ?_
    rintro e8 w8 ⟨rfl, hb8⟩
    have hB8 := hBW7.trans (hb8.mono hBW7.size)
    clear hSt7 hSt8 HM7 HM7z HO7 HO7z hb8
    clear p0 p1 p2 p3 p4 p5 p6 p7 q0 q1 q2 q3 q4 q5 q6 q7
    go_wp2_with fail
    refine (drawRead_any ad b o n cc _ (bytes_below hby hb hB8) (fun h0 => by have := hb h0; have := hB8.size; omega) hcc (by omega)).mono ?_
    rintro e20 w20 ⟨⟨t, kk, rfl, htz, hkz⟩, hb20⟩
    have hB20 := hB8.trans (hb20.mono hB8.size)
    have htm : t.size ≤ maxLen := by unfold maxLen; omega
    have hkm2 : kk.size ≤ maxLen := by unfold maxLen; omega
    go_wp2_with fail
    refine (implRead_any t kk _ (hT.below hB20 hT.pos) (hE.below hB20 hE1) hkm2 htm).mono ?_
    rintro e21 w21 ⟨hret, hb21⟩
    obtain ⟨c0, c1, c2, c3, c4, c5, cx, css, ca, cc2, cr, rfl, hcres, hco⟩ := hret.view
    have hB21 := hB20.trans (hb21.mono hB20.size)
    have HCR := hid hcres
    obtain ⟨hc8, hcz⟩ := hcres.small
    have HCZ := hid hcz
    obtain ⟨W21, hW21⟩ : ∃ W, W = w21.alloc (.cells #[.int .i64 c0, .int .i64 c1, .int .i64 c2, .int .i64 c3, .int .i64 c4, .int .i64 c5, .string cx, .slice ca css.length cc2] 27) := ⟨_, rfl⟩
    have hb21a : Below w21.heap.size w21 W21 := by rw [hW21]; exact (Below.refl _ _).alloc (Nat.le_refl _) _
    have hs21 : w21.heap.size < W21.heap.size := by rw [hW21]; simp
    have HM21 := hid (show MC W21 w21.heap.size [.int .i64 c0, .int .i64 c1, .int .i64 c2, .int .i64 c3, .int .i64 c4, .int .i64 c5, .string cx, .slice ca css.length cc2] by rw [hW21]; exact MC.made w21 _ _)
    have hBW21 := hB21.trans (hb21a.mono hB21.size)
    have HO21 := hid (hco.below hb21a (Nat.le_refl _))
    have HW21 := hid hW21
    clear hret hcres hcz hco hW21 hb20 hb21 hb21a
    go_wp2_with fail
    rw [← HW21.out]
    clear HW21
    refine (specRead_any t kk _ hkm2 (by omega)).mono ?_
    rintro e22 w22 ⟨hret, hb22⟩
    obtain ⟨d0, d1, d2, d3, d4, d5, dx, dss, da, dc2, dr, rfl, hdres, hdo⟩ := hret.view
    obtain ⟨rfl, rfl, rfl, rfl, rfl, rfl, rfl, rfl, rfl⟩ := HCR.out.uniq hdres
    have hB22 := hBW21.trans (hb22.mono hBW21.size)
    have hs22 : w21.heap.size < w22.heap.size := Nat.lt_of_lt_of_le hs21 hb22.size
    obtain ⟨W22, hW22⟩ : ∃ W, W = w22.alloc (.cells #[.int .i64 c0, .int .i64 c1, .int .i64 c2, .int .i64 c3, .int .i64 c4, .int .i64 c5, .string cx, .slice da css.length dc2] 27) := ⟨_, rfl⟩
    have hb22a : Below w22.heap.size w22 W22 := by rw [hW22]; exact (Below.refl _ _).alloc (Nat.le_refl _) _
    have HM22 := hid ((HM21.out.below hb22 hs21).below hb22a hs22)
    have HO22 := hid ((HO21.out.below hb22 (Nat.le_refl _)).below hb22a (Nat.le_refl _))
    have hBW22 := hB22.trans (hb22a.mono hB22.size)
    have HW22 := hid hW22
    clear hret hdres hdo hW22 HM21 HO21 hb22 hb22a
    go_upto_region 18 with fail
    rw [← HW22.out]
    clear HW22
    cases cr with
    | false =>
      go_wp2
      go_ret
      exact ⟨rfl, hBW22⟩
    | true =>
      have p0 : W22.cell? ⟨w21.heap.size, 0, none⟩ = some (.int .i64 c0) := HM22.out 0 (by simp)
      have p1 : W22.cell? ⟨w21.heap.size, 1, none⟩ = some (.int .i64 c1) := HM22.out 1 (by simp)
      have p2 : W22.cell? ⟨w21.heap.size, 2, none⟩ = some (.int .i64 c2) := HM22.out 2 (by simp)
      have p3 : W22.cell? ⟨w21.heap.size, 3, none⟩ = some (.int .i64 c3) := HM22.out 3 (by simp)
      have p4 : W22.cell? ⟨w21.heap.size, 4, none⟩ = some (.int .i64 c4) := HM22.out 4 (by simp)
      have p5 : W22.cell? ⟨w21.heap.size, 5, none⟩ = some (.int .i64 c5) := HM22.out 5 (by simp)
      have p6 : W22.cell? ⟨w21.heap.size, 6, none⟩ = some (.string cx) := HM22.out 6 (by simp)
      have p7 : W22.cell? ⟨w21.heap.size, 7, none⟩ = some (.slice ca css.length cc2) := HM22.out 7 (by simp)
      have hgood : Good t kk c0 c1 c2 c3 c4 c5 cx css := by rcases HCR.out with ⟨_, h⟩ | ⟨h, _⟩; exact h; cases h
      have HG := hid hgood
      clear hgood
      obtain ⟨bb3, oo3, hSt3⟩ := HO22.out.strs HCZ.out
      go_wp2_with fail
      refine (implForm_any c0 c1 c2 c3 c4 c5 cx ca bb3 oo3 css.length cc2 css kk _ (hT.below hBW22 hT.pos) hSt3 hkm2).mono ?_
      rintro e23 w23 ⟨⟨fr, rfl, hfr⟩, hb23⟩
      have hB23 := hBW22.trans (hb23.mono hBW22.size)
      obtain rfl : fr = t := hfr.uniq (.inl HG.out)
      clear p0 p1 p2 p3 p4 p5 p6 p7
      go_wp2
      go_ret
      exact ⟨rfl, hB23⟩
end Go.Proofs.YtlgmkmegkojgbaaDoor
