
/-
  FnPlan, but for the draw of the plan.
-/
import Derived.Test.YtdjcfeiaembckaaLawTru
import Derived.Deep.DeepCutAuto
namespace Go.Proofs.Ytdjcfeiaembckaa
open Go.RowKit

structure Kept (p : Prop) : Prop where
  out : p
theorem hidp {p : Prop} (h : p) : Kept p := ⟨h⟩

set_option maxHeartbeats 4000000 in
set_option maxRecDepth 100000 in
theorem fnPlan_of (ad : Option Addr) (n cc : Nat) (w : World) (hn : n ≤ maxLen)
    (hdraw : n ≤ 1048576 → Calls Try.prog 5 #[.slice ad n cc] w fun e' w' => (∃ a b o m c ts, e' = .returned (.agg #[.slice a m c]) ∧ TasksAt w' a b o m ts) ∧ Below w.heap.size w w') :
    Calls Try.prog 3 #[.slice ad n cc] w fun e' w' => e' = .returned (.bool true) ∧ Below w.heap.size w w' := by
  unfold maxLen at hn
  obtain ⟨i0, hi, hz0, hz1, hz2⟩ := info_parts Try.info9
  by_cases h20 : 1048576 < n
  · have h20' : (1048576 : Int) < (n : Int) := by omega
    go_enter Try.func3, Try.ntmps3
    go_wp2
    go_ret
    exact ⟨rfl, Below.refl _ _⟩
  have h20' : ¬ (1048576 : Int) < (n : Int) := by omega
  have HD0 : Kept (Calls Try.prog 5 #[.slice ad n cc] w fun e' w' => (∃ a b o m c ts, e' = .returned (.agg #[.slice a m c]) ∧ TasksAt w' a b o m ts) ∧ Below w.heap.size w w') := ⟨hdraw (by omega)⟩
  clear hdraw
  go_enter Try.func3, Try.ntmps3
  go_wp2_with fail
  refine HD0.out.mono ?_
  rintro e1 w1 ⟨⟨a, b, o, m, c, ts, rfl, h1⟩, hB1⟩
  obtain ⟨W1, hW1⟩ : ∃ W, W = w1.alloc (.cells #[.slice a m c] 25) := ⟨_, rfl⟩
  have hb11 : Below w1.heap.size w1 W1 := by rw [hW1]; exact (Below.refl _ _).alloc (Nat.le_refl _) _
  have hq1 : W1.cell? ⟨w1.heap.size, 0, none⟩ = some (.slice a m c) := by rw [hW1]; simp
  have hBW1 := hB1.trans (hb11.mono hB1.size)
  have h1W := h1.below' hb11
  have HW1 := hidp (hW1)
  clear hW1 h1 hb11 HD0
  go_upto_region 4 with fail
  rw [← HW1.out]
  clear HW1
  go_wp2_with fail
  refine (implTruth_any a b o m c ts _ h1W).mono ?_
  rintro e2 w2 ⟨⟨v, mm, ss, rfl, htr, ho2⟩, hb2⟩
  obtain ⟨ta, tc, rfl, _⟩ := ho2.shape
  have hB2 := hBW1.trans (hb2.mono hBW1.size)
  have hB2d := hB2.drew
  have hq2 := keepB hb2 hq1
  have h2d := (h1W.below' hb2).below' (Below.refl _ _).drew
  have ho2d := ho2.below (Below.refl w2.heap.size w2).drew (Nat.le_refl _)
  have HTR := hidp (htr)
  clear htr hb2 h1W hq1 ho2
  go_wp2
  go_region_held3 (fun w' => w'.cell? ⟨w1.heap.size, 0, none⟩ = some (.slice a m c)) (first | (simp [go_sem, *]; done) | assumption)
    (first
      | (go_at_call 7; refine (implCheckPlan_any a b o m c ts _ h2d).mono ?_; rintro e3 w3 ⟨⟨c3, rfl, hc3⟩, hb3⟩; have hq3 := keepC hb3 hq2; have hB3 := hB2d.trans (hb3.mono hB2d.size); have h3 := h2d.below' hb3; have ho3 := ho2d.below hb3 (Nat.le_refl _); have HC3 := hidp (hc3); clear hc3)
      | (go_at_call 8; refine (specCheckPlan_any a b o m c ts _ h3).mono ?_; rintro e4 w4 ⟨⟨c4, rfl, hc4⟩, hb4⟩; obtain rfl : c4 = c3 := hc4.one HC3.out; have hq4 := keepB hb4 hq3; have hB4 := hB3.trans (hb4.mono hB3.size); have h4 := h3.below' hb4; have ho4 := ho3.below hb4 (Nat.le_refl _); clear hc4))
  clear hb3 hb4 hq3 h3 ho3 hB3 hq2 h2d ho2d hB2d hB2
  go_wp2_with fail
  refine (specCheckPlan_any a b o m c ts _ h4).mono ?_
  rintro e5 w5 ⟨⟨c5, rfl, hc5⟩, hb5⟩
  obtain rfl : c5 = c4 := hc5.one HC3.out
  have hB5 := hB4.trans (hb5.mono hB4.size)
  have hq5 := keepB hb5 hq4
  have h5 := h4.below' hb5
  have ho5 := ho4.below hb5 (Nat.le_refl _)
  have hsz := (TruS.sizes HTR.out).2
  obtain ⟨tb, tof, hst⟩ := StrsAt.ofOwn' ho5 hsz
  clear hc5 hb5 hq4 h4 ho4 hB4 ho5 hsz
  by_cases hz : c5 = 0
  · subst hz
    obtain ⟨hlen, hnames, _, hdeps⟩ := code0 HC3.out
    have hss : ss = trs ts ts.length := by
      rcases HTR.out with ⟨_, h⟩ | ⟨h, _⟩
      · exact h
      · exact absurd HC3.out h
    rw [h5.len] at hlen hdeps hnames hss
    subst hss
    obtain rfl : mm = m := by have := hst.len; rw [trs_length] at this; omega
    obtain rfl := hst.ad (by omega)
    obtain rfl := h5.ad (by omega)
    have HDEPS := hidp hdeps
    have HNAMES := hidp hnames
    have HST := hidp hst
    have H5 := hidp h5
    clear hdeps hnames hst h5 HTR HC3
    go_wp2
    go_loopw [5] (fun x wr => ∃ k : Nat, k ≤ mm ∧ x = .int .i64 k ∧ Below w5.heap.size w5 wr) (fun x _ => mm - (intOf x).toNat)
    case atStart => exact ⟨0, Nat.zero_le _, rfl, Below.refl _ _⟩
    case round =>
      obtain ⟨wo, rfl⟩ : ∃ wo, wo = wr := ⟨_, rfl⟩
      obtain ⟨k, hk, rfl, hb⟩ := hrel
      by_cases hlt : k < mm
      · have hq := keepB hb hq5
        have hT := H5.out.below' hb
        have hS := HST.out.below' hb
        have hdeps := HDEPS.out
        obtain ⟨t, a', b', o', n', c', ht, z0, z1, z2, hi', hsz, _⟩ := hT.get hlt
        have hdk := hdeps k hlt
        have hd8 := dv_eight hdeps hlt
        have hnm := (HNAMES.out k hlt).1
        have hval : tv ts k = valS t.name (dv ts t.deps) := by rw [tv_eq hdeps hlt, nm, dps, ← ht]; rfl
        rw [dps, ← ht] at hd8
        rw [nm, ← ht] at hnm
        rw [← ht] at hdk
        have hns : t.name.size ≤ 30 := hnm.2.2
        have hn8 : n' ≤ 8 := by have := hdk.1; rw [hi'.len] at this; exact this
        have HD := hidp hdk
        have HV := hidp hval
        have H8 := hidp hd8
        have hck : wo.cell? ⟨tb, tof + k, none⟩ = some (.string (tv ts k)) := by have := hS.cell k hlt; rwa [trs_get ts hlt] at this
        have HS2 := hidp hS
        clear hdk hval hd8 hnm ht hT hS hdeps
        have hlt' : (k : Int) < (mm : Int) := by omega
        have hin0 : Own wo.heap.size (wo.alloc (.cells #[] 9)) 1 (.slice (some ⟨wo.heap.size, 0, none⟩) 0 0) 0 [] :=
          .inr ⟨_, 0, 0, rfl, OwnC.made wo wo.heap.size 9 1 0 0 #[] 0 (Nat.le_refl _) (Nat.le_refl _) (Nat.zero_le _) rfl (Nat.le_refl _) [] rfl (0, 0) (.inl rfl)⟩
        go_wp2
        go_loopw [6, 7] (fun iv x wx => ∃ j : Nat, j ≤ n' ∧ x = .int .i64 j ∧ Own wo.heap.size wx 1 iv j (((dv ts t.deps).take j).map Value.string) ∧ Below wo.heap.size wo wx) (fun _ x _ => n' - (intOf x).toNat)
        case atStart => exact ⟨0, Nat.zero_le _, rfl, by simpa using hin0, (Below.refl _ _).alloc (Nat.le_refl _) _⟩
        case round =>
          obtain ⟨j, hj, rfl, hin, hbx⟩ := hrel
          have y0 := keepB hbx z0
          have y2 := keepB hbx z2
          have yq := keepB hbx hq
          have yk := keepB hbx hck
          have hxs := hbx.size
          by_cases hlj : j < n'
          · obtain rfl := hi'.ad (by omega)
            have hcd2 := (hi'.below' hbx).cell j hlj
            have hok := HD.out.2 j (by rw [hi'.len]; exact hlj)
            obtain ⟨d, hdd⟩ : ∃ d, d = t.deps.getD j 0 := ⟨_, rfl⟩
            rw [← hdd] at hcd2 hok
            obtain ⟨md, rfl⟩ : ∃ md : Nat, d = (md : Int) := ⟨d.toNat, by omega⟩
            have hmk : md < k := by omega
            have hcell : wr.cell? ⟨tb, tof + md, none⟩ = some (.string (tv ts md)) := by
              have := (HS2.out.below' hbx).cell md (by omega)
              rwa [trs_get ts (show md < mm by omega)] at this
            have hsn := takeD_snoc ts (by rw [hi'.len]; exact hlj) hdd
            have HS := hidp hsn
            clear hsn hdd hok
            have hj' : (j : Int) < (n' : Int) := by omega
            have hm' : (md : Int) < (mm : Int) := by omega
            have hown1 : Own wo.heap.size (wr.alloc (.cells #[.string (tv ts md)] 9)) 1 (.slice (some ⟨wr.heap.size, 0, none⟩) 1 1) 1 [.string (tv ts md)] :=
              .inr ⟨_, 0, 1, rfl, OwnC.made wr wo.heap.size 9 1 1 1 _ 1 hxs (Nat.le_refl _) (by unfold maxLen; omega) rfl (Nat.le_refl _) _ rfl _ (.inl rfl)⟩
            have hsrc : Src Try.prog 1 27 _ 1 _ (wr.alloc (.cells #[.string (tv ts md)] 9)) := hown1.src Try.underlying27 (by simp; rfl)
            have hinA := hin.alloc (.cells #[.string (tv ts md)] 9)
            have hbA : Below wo.heap.size wo (wr.alloc (.cells #[.string (tv ts md)] 9)) := hbx.alloc hxs _
            have hrow := hin.row_lo
            clear hown1 hin
            go_wp2_with (at_builtin; refine wpList_append_c _ rfl _ _ 27 27 rfl wo.heap.size 9 i0 (.string ⟨#[]⟩) 1 16 Try.underlying27 hi hz0 hz1 hz2 rfl _ j _ rfl hinA _ 1 _ rfl hsrc (by unfold maxLen; omega) (by omega) (by simp; omega) ?_; intro v' w7 hown' hgrow hblk)
            have hb7 := hbA.grown hgrow (by simp; omega) hrow
            clear hinA hsrc hgrow hbA hrow hblk
            go_wp2
            go_roundw
            case rel => exact ⟨j + 1, by omega, by go_num, by rw [HS.out, List.map_append]; exact hown', hb7⟩
            case measure => simp [intOf]; omega
          · obtain rfl : j = n' := by omega
            rw [List.take_of_length_le (by rw [dv_length, hi'.len]; omega)] at hin
            obtain ⟨ai, ci, hiv, _⟩ := hin.shape
            rw [hiv] at hin ⊢
            obtain ⟨gi, oi, hsv⟩ := StrsAt.ofOwn' hin (fun s hs => by rw [H8.out s hs]; unfold maxLen; omega)
            have htot : tot (dv ts t.deps) = 8 * j := by rw [tot_eight H8.out, dv_length, hi'.len]
            have hsvd := hsv.drew
            have hbxd := hbx.drew
            have hnm2 : t.name.size ≤ maxLen := by unfold maxLen; omega
            have HV1 := hidp (fun w' => implValue_any t.name ai gi oi j ci (dv ts t.deps) w' hnm2)
            have HV2 := hidp (fun w' hh => specValue_any t.name ai gi oi j ci (dv ts t.deps) w' (by omega) hh (by omega))
            rw [← HV.out] at HV1 HV2
            clear htot hin hsv HD H8
            go_wp2
            go_region_held3 (fun w' => w'.cell? ⟨w1.heap.size, 0, none⟩ = some (.slice (some ⟨b, o, none⟩) mm c) ∧ w'.cell? ⟨b, o + k * 3, none⟩ = some (.string t.name) ∧ w'.cell? ⟨tb, tof + k, none⟩ = some (.string (tv ts k))) (first | (simp [go_sem, *]; done) | assumption)
              (first
                | (go_at_call 9; refine (HV1.out _ hsvd).mono ?_; rintro e8 w8 ⟨rfl, hb8⟩; have p0 := keepC hb8 y0; have pq := keepC hb8 yq; have pk := keepC hb8 yk; have hB8 := hbxd.trans (hb8.mono hbxd.size); have hs8 := hsvd.below' hb8)
                | (go_at_call 10; refine (HV2.out _ hs8).mono ?_; rintro e9 w9 ⟨rfl, hb9⟩; have r0 := keepB hb9 p0; have rq := keepB hb9 pq; have rk := keepB hb9 pk; have hB9 := hB8.trans (hb9.mono hB8.size)))
            go_wp2
            go_roundw
            case rel => exact ⟨k + 1, by omega, by go_num, hb.trans (hB9.mono hb.size)⟩
            case measure => simp [intOf]; omega
      · have hlt' : ¬ (k : Int) < (mm : Int) := by omega
        go_wp2
        go_ret
        exact ⟨rfl, hB5.trans (hb.mono hB5.size)⟩
  · have hss : ss = [] := by
      rcases HTR.out with ⟨h, _⟩ | ⟨_, h⟩
      · exact absurd (HC3.out.one h) hz
      · exact h
    obtain rfl : mm = 0 := by have := hst.len; rw [hss] at this; simpa using this.symm
    clear hss
    go_wp2
    go_ret
    exact ⟨rfl, hB5⟩
end Go.Proofs.Ytdjcfeiaembckaa
