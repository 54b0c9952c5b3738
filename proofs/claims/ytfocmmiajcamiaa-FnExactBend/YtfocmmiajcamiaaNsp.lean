
/-
  spec.l6Copy, l6There, Double, Lose, Bend.
-/
import Derived.Test.YtfocmmiajcamiaaNim
namespace Go.Proofs.Ytfocmmiajcamiaa
open Go.RowKit

theorem Try.under_pcs : Try.prog.underlying 24 = some (.slice 37) := Try.underlying24
set_option maxHeartbeats 1000000 in
set_option maxRecDepth 100000 in
theorem l6Copy_any (a : Option Addr) (b o n c : Nat) (P : List Pc) (w : World) (h : PcAt w a b o n P) (hn : n ≤ 1048576) :
    Calls Try.prog 18 #[.slice a n c] w fun e w' => RetP e w.heap.size w' P ∧ Below w.heap.size w w' := by
  obtain ⟨i0, hi, hz0, hz1, hz2⟩ := info_parts Try.infoPc
  have hl := h.len
  have hbU : Below w.heap.size w (w.alloc (.cells #[] 37)) := (Below.refl _ _).alloc (Nat.le_refl _) _
  have hown0 : Own w.heap.size (w.alloc (.cells #[] 37)) 3 (.slice (some ⟨w.heap.size, 0, none⟩) 0 0) 0 [] :=
    .inr ⟨_, 0, 0, rfl, OwnC.made w w.heap.size 37 3 0 0 _ 0 (Nat.le_refl _) (Nat.le_refl _) (by unfold maxLen; omega) rfl (Nat.le_refl _) _ rfl _ (.inl rfl)⟩
  have hsrc := (h.below' hbU).src 24 37 Try.underlying24 c
  have hrow := hown0.row_lo
  go_enter Try.func18, Try.ntmps18
  go_wp2_with (refine wpList_append_c _ rfl _ _ 24 24 rfl w.heap.size 37 i0 _ 3 40 Try.underlying24 hi hz0 hz1 hz2 rfl (.slice (some ⟨w.heap.size, 0, none⟩) 0 0) 0 [] rfl hown0 (.slice a n c) n (pcs P) rfl hsrc (by unfold maxLen; omega) (by omega) (by simp) ?_; intro v' w1 hown hgr hob)
  rw [Nat.zero_add, List.nil_append] at hown
  go_ret
  exact ⟨⟨_, rfl, by rw [hl]; exact hown⟩, hbU.grown hgr (by simp) hrow⟩

theorem thereB_true {n : Nat} {k : Int} (h : n ≤ 2000 ∧ 0 ≤ k ∧ k < n) : thereB n k = true := by simp [thereB, h.1, h.2.1, h.2.2]
theorem thereB_false {n : Nat} {k : Int} (h : ¬ (n ≤ 2000 ∧ 0 ≤ k ∧ k < n)) : thereB n k = false := by
  cases hE : thereB n k with
  | true => exact absurd (thereB_t hE) h
  | false => rfl
set_option maxHeartbeats 400000 in
theorem l6There_any (a : Option Addr) (n c : Nat) (k : Int) (w : World) (hn : n ≤ 1048576) :
    Calls Try.prog 19 #[.slice a n c, .int .i64 k] w fun e w' => e = .returned (.bool (thereB n k)) ∧ w' = w := by
  have hn' : (n : Int) ≤ 1048576 := by omega
  by_cases h1 : (n : Int) ≤ 2000
  · by_cases h2 : 0 ≤ k
    · by_cases h3 : k < (n : Int)
      · have HE := hid (thereB_true ⟨by omega, h2, h3⟩)
        go_enter Try.func19, Try.ntmps19
        go_wp2
        go_ret
        exact ⟨by rw [HE.out]; rfl, rfl⟩
      · have HE := hid (thereB_false (n := n) (k := k) (by omega))
        go_enter Try.func19, Try.ntmps19
        go_wp2
        go_ret
        exact ⟨by rw [HE.out]; rfl, rfl⟩
    · have HE := hid (thereB_false (n := n) (k := k) (by omega))
      go_enter Try.func19, Try.ntmps19
      go_wp2
      go_ret
      exact ⟨by rw [HE.out]; rfl, rfl⟩
  · have HE := hid (thereB_false (n := n) (k := k) (by omega))
    go_enter Try.func19, Try.ntmps19
    go_wp2
    go_ret
    exact ⟨by rw [HE.out]; rfl, rfl⟩

set_option maxHeartbeats 1000000 in
set_option maxRecDepth 100000 in
theorem specDouble_any (a : Option Addr) (b o n c : Nat) (P : List Pc) (k : Int) (w : World) (h : PcAt w a b o n P) (hn : n ≤ 1048576) :
    Calls Try.prog 7 #[.slice a n c, .int .i64 k] w fun e w' => RetP e w.heap.size w' (dblP P k) ∧ Below w.heap.size w w' := by
  obtain ⟨i0, hi, hz0, hz1, hz2⟩ := info_parts Try.infoPc
  have hl := h.len
  have hn' : (n : Int) ≤ 1048576 := by omega
  go_enter Try.func7, Try.ntmps7
  go_wp2_with fail
  refine (l6Copy_any a b o n c P w h hn).mono ?_
  rintro e w1 ⟨⟨v, rfl, hown⟩, hb1⟩
  rw [hl] at hown
  obtain ⟨a1, c1, rfl⟩ := hown.slc
  go_wp2_with fail
  refine (l6There_any a n c k _ hn).mono ?_
  rintro e w2 ⟨rfl, hw2⟩
  rw [hw2]
  clear hw2
  cases hE : thereB n k with
  | false =>
    have HR : RetP (.returned (.slice a1 n c1)) w.heap.size w1 (dblP P k) := ⟨_, rfl, by unfold dblP; rw [hl, hE, if_neg (by simp), hl]; exact hown⟩
    clear hE hown hl hi hz0 hz1 hz2 h
    go_wp2
    go_ret
    exact ⟨HR, hb1⟩
  | true =>
    by_cases h1 : n < 2000
    · obtain ⟨_, h2, h3⟩ := thereB_t hE
      obtain ⟨j, rfl⟩ : ∃ j : Nat, k = j := ⟨k.toNat, by omega⟩
      have hj : j < n := by omega
      obtain rfl := h.ad (by omega)
      have h' := h.below' hb1
      have hc0 := h'.c0 j hj
      have hc1 := h'.c1 j hj
      have hc2 := h'.c2 j hj
      obtain ⟨⟨x0, x1, x2⟩, hx⟩ : ∃ x, x = pc P j := ⟨_, rfl⟩
      rw [← hx] at hc0 hc1 hc2
      dsimp only at hc0 hc1 hc2
      have hlt' : (j : Int) < (n : Int) := by omega
      have h1' : (n : Int) < 2000 := by omega
      have hownU : Own w.heap.size (w1.alloc (.cells #[.int .i64 x0, .string x1, .string x2] 37)) 3 (.slice a1 n c1) n (pcs P) := hown.alloc _
      have hsrc : Src Try.prog 3 24 (.slice (some ⟨w1.heap.size, 0, none⟩) 1 1) 1 (pcs [(x0, x1, x2)]) (w1.alloc (.cells #[.int .i64 x0, .string x1, .string x2] 37)) := by
        have hcf : CF (w1.alloc (.cells #[.int .i64 x0, .string x1, .string x2] 37)) w1.heap.size [.int .i64 x0, .string x1, .string x2] := CF.made w1 _ _
        refine Src.ofSlice _ Try.underlying24 ⟨w1.heap.size, 0, none⟩ 1 1 _ rfl (fun j u hu => ?_) (pcs_one _)
        rw [Addr.add_lit, Nat.zero_add]
        exact (hcf j (by have := (List.getElem?_eq_some_iff.1 hu).1; simpa [pcs, pcl] using this)).1.trans hu
      have hbU : Below w.heap.size w (w1.alloc (.cells #[.int .i64 x0, .string x1, .string x2] 37)) := hb1.alloc hb1.size _
      have hsU : w.heap.size ≤ (w1.alloc (.cells #[.int .i64 x0, .string x1, .string x2] 37)).heap.size := hbU.size
      have hrow := hown.row_lo
      have HE : Hid (dblP P (j : Int) = P ++ [(x0, x1, x2)]) := by
        show dblP P (j : Int) = _
        unfold dblP
        rw [hl, hE, if_pos rfl, if_pos h1, Int.toNat_natCast, ← hx]
      clear hE hx h h'
      go_wp2_with (refine wpList_append_c _ rfl _ _ 24 24 rfl w.heap.size 37 i0 _ 3 40 Try.underlying24 hi hz0 hz1 hz2 rfl (.slice a1 n c1) n (pcs P) rfl hownU (.slice (some ⟨w1.heap.size, 0, none⟩) 1 1) 1 (pcs [(x0, x1, x2)]) rfl hsrc (by unfold maxLen; omega) (by omega) hsU ?_; intro v' w3 hown3 hgr hob)
      go_ret
      refine ⟨⟨_, rfl, ?_⟩, hbU.grown hgr hsU hrow⟩
      rw [HE.out, List.length_append, hl, pcs_append]
      exact hown3
    · have h1' : ¬ (n : Int) < 2000 := by omega
      have HR : RetP (.returned (.slice a1 n c1)) w.heap.size w1 (dblP P k) := ⟨_, rfl, by unfold dblP; rw [hl, hE, if_pos rfl, if_neg h1, hl]; exact hown⟩
      clear hE hown hl hi hz0 hz1 hz2 h
      go_wp2
      go_ret
      exact ⟨HR, hb1⟩

theorem run_addL {ρ : Operand → Value} {o : Oper} {w : World} (x y : Operand) (c m : Int) (h : o.op = .binOp .add 3 x y 3) (hx : ρ x = .int .i64 c) (hy : ρ y = .int .i64 m) (h0 : -1099511627776 ≤ c + m) (h1 : c + m ≤ 1099511627776) :
    (execOp ρ o).run Try.prog w = .ok (.value (.int .i64 (c + m))) w := by
  unfold execOp
  rw [h]
  have hw : IntKind.i64.wrap (c + m) = c + m := by rw [IntKind.wrap_i64]; omega
  simp [go_sem, hx, hy, hw]
theorem run_bs0P {ρ : Operand → Value} {o : Oper} {w : World} (h : o.op = .buildSlice 24 0 #[]) : (execOp ρ o).run Try.prog w = .ok (.value (.slice (some ⟨w.heap.size, 0, none⟩) 0 0)) (w.alloc (.cells #[] 37)) := by
  unfold execOp
  rw [h]
  simp [go_sem]

set_option maxHeartbeats 2000000 in
set_option maxRecDepth 100000 in
theorem specLose_any (a : Option Addr) (b o n c : Nat) (P : List Pc) (k : Int) (w : World) (h : PcAt w a b o n P) (hn : n ≤ 1048576) (hnc : n ≤ c) :
    Calls Try.prog 13 #[.slice a n c, .int .i64 k] w fun e w' => RetP e w.heap.size w' (losP P k) ∧ Below w.heap.size w w' := by
  obtain ⟨i0, hi, hz0, hz1, hz2⟩ := info_parts Try.infoPc
  have hl := h.len
  have hn' : (n : Int) ≤ 1048576 := by omega
  cases hE : thereB n k with
  | false =>
    have HE := hid hE
    have HL : Hid (losP P k = P) := by
      show losP P k = P
      unfold losP
      rw [hl, hE, if_neg (by simp)]
    clear hE
    go_enter Try.func13, Try.ntmps13
    go_wp2_with fail
    refine (l6There_any a n c k _ hn).mono ?_
    rintro e w2 ⟨rfl, hw2⟩
    rw [hw2, HE.out]
    clear hw2
    go_wp2_with fail
    refine (l6Copy_any a b o n c P w h hn).mono ?_
    rintro e w1 ⟨⟨v, rfl, hown⟩, hb1⟩
    go_wp2
    go_ret
    exact ⟨⟨_, rfl, by rw [HL.out]; exact hown⟩, hb1⟩
  | true =>
    obtain ⟨h1, h2, h3⟩ := thereB_t hE
    obtain ⟨j, rfl⟩ : ∃ j : Nat, k = j := ⟨k.toNat, by omega⟩
    have hj : j < n := by omega
    obtain rfl := h.ad (by omega)
    obtain ⟨U, hU⟩ : ∃ U, U = w.drew.alloc (.cells #[] 37) := ⟨_, rfl⟩
    have hbU : Below w.heap.size w U := by rw [hU]; exact (Below.refl _ _).drew.alloc (Nat.le_refl _) _
    have hown0 : Own w.heap.size U 3 (.slice (some ⟨w.heap.size, 0, none⟩) 0 0) 0 [] := by
      rw [hU]
      exact .inr ⟨_, 0, 0, rfl, OwnC.made w.drew w.heap.size 37 3 0 0 _ 0 (Nat.le_refl _) (Nat.le_refl _) (by unfold maxLen; omega) rfl (Nat.le_refl _) _ rfl _ (.inl rfl)⟩
    have hs0 := (h.below' hbU).srcFrom 24 37 Try.underlying24 0 j c (by omega)
    rw [Nat.zero_mul, Nat.add_zero, List.drop_zero] at hs0
    obtain ⟨v1, w1, hr1, hown1, hg1, _⟩ := run_append_c (P := Try.prog) U w.heap.size 24 24 24 37 i0 _ 3 40 Try.underlying24 hi hz0 hz1 hz2 rfl _ 0 _ hown0 _ j _ hs0 (by unfold maxLen; omega) (by omega) hbU.size
    rw [Nat.zero_add, List.nil_append] at hown1
    have hb1 := hbU.grown hg1 hbU.size hown0.row_lo
    obtain ⟨aa, haa⟩ : ∃ aa : Addr, aa = (if c = j + 1 then (⟨b, o, none⟩ : Addr) else ⟨b, o + (j + 1) * 3, none⟩) := ⟨_, rfl⟩
    have hs1 : Src Try.prog 3 24 (.slice (some aa) (n - (j + 1)) (c - (j + 1))) (n - (j + 1)) (pcs (P.drop (j + 1))) w1 := by
      by_cases e : c = j + 1
      · rw [show n - (j + 1) = 0 by omega, show P.drop (j + 1) = [] from List.drop_of_length_le (by omega)]
        exact Src.ofSlice w1 Try.underlying24 aa 0 _ [] rfl (fun j u hu => by simp at hu) (by simp)
      · have := (h.below' hb1).srcFrom 24 37 Try.underlying24 (j + 1) (n - (j + 1)) (c - (j + 1)) (by omega)
        rw [haa, if_neg e]
        rwa [List.take_of_length_le (by rw [List.length_drop]; omega)] at this
    obtain ⟨v2, w2, hr2, hown2, hg2, _⟩ := run_append_c (P := Try.prog) w1 w.heap.size 24 24 24 37 i0 _ 3 40 Try.underlying24 hi hz0 hz1 hz2 rfl _ j _ hown1 _ (n - (j + 1)) _ hs1 (by unfold maxLen; omega) (by omega) hb1.size
    have hb2 := hb1.grown hg2 hb1.size hown1.row_lo
    have HR : RetP (.returned v2) w.heap.size w2 (losP P (j : Int)) := by
      refine ⟨_, rfl, ?_⟩
      unfold losP
      rw [hl, hE, if_pos rfl, Int.toNat_natCast, List.length_append, List.length_take, List.length_drop, hl, pcs_append, show min j n = j by omega]
      exact hown2
    have hel : Try.prog.elem 24 = 37 := by kernel_rfl
    have hsz : ∀ w : World, (sizeOf 37).run Try.prog w = .ok 3 w := fun w => by simp [sizeOf, typeInfo, hi, hz1]
    have hsl1 : ∀ w : World, (Instr.slice 24 (.slice (some ⟨b, o, none⟩) n c) none (some (.int .i64 j)) none).run Try.prog w = .ok (.slice (some ⟨b, o, none⟩) j c) w := fun w => by
      rw [run_slice_h w 24 _ n c Try.underlying24 .i64 j (by omega) (by omega), hel, hsz]
      simp [sliced, Addr.add_lit]
    have hsl2 : ∀ w : World, (Instr.slice 24 (.slice (some ⟨b, o, none⟩) n c) (some (.int .i64 ((j : Int) + 1))) none none).run Try.prog w = .ok (.slice (some aa) (n - (j + 1)) (c - (j + 1))) w := fun w => by
      rw [run_slice_l w 24 _ n c Try.underlying24 .i64 (j + 1) (by omega) (by omega), hel, hsz]
      rw [Result.andThen_ok, show ((j : Int) + 1).toNat = j + 1 by omega, haa, sliced]
      by_cases e : c = j + 1
      · rw [if_pos e, if_pos e]
      · rw [if_neg e, if_neg e]; simp [Addr.add_lit]
    have HE := hid hE
    have hj9 : (j : Int) ≤ 2000 := by omega
    clear hE h hl hi hz0 hz1 hz2 haa hs0 hs1 hown0 hown1 hown2 hg1 hg2 hel hsz hb1 hbU
    go_enter Try.func13, Try.ntmps13
    go_wp2_with fail
    refine (l6There_any _ n c j _ hn).mono ?_
    rintro e w9 ⟨rfl, hw9⟩
    rw [hw9, HE.out]
    clear hw9
    go_upto_region 3 with fail
    refine wp_region_held (S := fun _ => True) (by kernel_rfl) ?_
    change wpAnyH _ _ _ _ _ _ _ _ (World.drew _)
    refine hTake (i := 1) (d := some 12) (v := .slice (some ⟨b, o, none⟩) n c) (l' := #[false, true, false, false, false, false, false, false, false, false, false]) rfl (by kernel_rfl) (by kernel_rfl) (by kernel_rfl) (by kernel_rfl) (fun _ _ _ h => h) (by kernel_rfl) (fun _ hc => by kernel_rfl) trivial (by kernel_rfl) ?_
    refine hTake (i := 2) (d := some 13) (v := .int .i64 j) (l' := #[false, true, true, false, false, false, false, false, false, false, false]) rfl (by kernel_rfl) (by kernel_rfl) (by kernel_rfl) (by kernel_rfl) (fun _ _ _ h => h) (by kernel_rfl) (fun _ hc => by kernel_rfl) trivial (by kernel_rfl) ?_
    refine hTake (i := 3) (d := some 14) (v := .slice (some ⟨b, o, none⟩) j c) (l' := #[false, true, true, true, false, false, false, false, false, false, false]) rfl (by kernel_rfl) (by kernel_rfl) (by kernel_rfl) (by kernel_rfl) (fun _ _ _ h => h) (by kernel_rfl) (fun _ hc => run_slc 24 (.tmp 12) none (some (.tmp 13)) none (by kernel_rfl) (by kernel_rfl) (by kernel_rfl) (by kernel_rfl) (by kernel_rfl) (by kernel_rfl) (hsl1 _)) trivial (by kernel_rfl) ?_
    refine hTake (i := 5) (d := some 16) (v := .slice (some ⟨b, o, none⟩) n c) (l' := #[false, true, true, true, false, true, false, false, false, false, false]) rfl (by kernel_rfl) (by kernel_rfl) (by kernel_rfl) (by kernel_rfl) (fun _ _ _ h => h) (by kernel_rfl) (fun _ hc => by kernel_rfl) trivial (by kernel_rfl) ?_
    refine hTake (i := 6) (d := some 17) (v := .int .i64 j) (l' := #[false, true, true, true, false, true, true, false, false, false, false]) rfl (by kernel_rfl) (by kernel_rfl) (by kernel_rfl) (by kernel_rfl) (fun _ _ _ h => h) (by kernel_rfl) (fun _ hc => by kernel_rfl) trivial (by kernel_rfl) ?_
    refine hTake (i := 7) (d := some 18) (v := .int .i64 ((j : Int) + 1)) (l' := #[false, true, true, true, false, true, true, true, false, false, false]) rfl (by kernel_rfl) (by kernel_rfl) (by kernel_rfl) (by kernel_rfl) (fun _ _ _ h => h) (by kernel_rfl) (fun _ hc => run_addL (.tmp 17) (.const (.int .i64 1)) j 1 (by kernel_rfl) (by kernel_rfl) (by kernel_rfl) (by omega) (by omega)) trivial (by kernel_rfl) ?_
    refine hTake (i := 8) (d := some 19) (v := .slice (some aa) (n - (j + 1)) (c - (j + 1))) (l' := #[false, true, true, true, false, true, true, true, true, false, false]) rfl (by kernel_rfl) (by kernel_rfl) (by kernel_rfl) (by kernel_rfl) (fun _ _ _ h => h) (by kernel_rfl) (fun _ hc => run_slc 24 (.tmp 16) (some (.tmp 18)) none none (by kernel_rfl) (by kernel_rfl) (by kernel_rfl) (by kernel_rfl) (by kernel_rfl) (by kernel_rfl) (hsl2 _)) trivial (by kernel_rfl) ?_
    refine hOne (i := 0) (by kernel_rfl) ?_
    refine hVal (i := 0) (d := some 11) (v := .slice (some ⟨w.heap.size, 0, none⟩) 0 0) (w' := U) (l' := #[true, true, true, true, false, true, true, true, true, false, false]) rfl (by kernel_rfl) (by kernel_rfl) (by kernel_rfl) (by rw [hU]; exact run_bs0P (by kernel_rfl)) trivial ?_
    refine hOne (i := 4) (by kernel_rfl) ?_
    refine hVal (i := 4) (d := some 15) (v := v1) (w' := w1) (l' := #[true, true, true, true, true, true, true, true, true, false, false]) rfl (by kernel_rfl) (by kernel_rfl) (by kernel_rfl) (run_appL (.tmp 11) (.tmp 14) 24 24 24 (by kernel_rfl) (by kernel_rfl) (by kernel_rfl) (by kernel_rfl) hr1) trivial ?_
    refine hOne (i := 9) (by kernel_rfl) ?_
    refine hVal (i := 9) (d := some 20) (v := v2) (w' := w2) (l' := #[true, true, true, true, true, true, true, true, true, true, false]) rfl (by kernel_rfl) (by kernel_rfl) (by kernel_rfl) (run_appL (.tmp 15) (.tmp 19) 24 24 24 (by kernel_rfl) (by kernel_rfl) (by kernel_rfl) (by kernel_rfl) hr2) trivial ?_
    refine hOne (i := 10) (by kernel_rfl) ?_
    refine hVal (i := 10) (d := some 4) (v := v2) (w' := w2) (l' := #[true, true, true, true, true, true, true, true, true, true, true]) rfl (by kernel_rfl) (by kernel_rfl) (by kernel_rfl) (run_asgL (.tmp 20) (by kernel_rfl) (by kernel_rfl)) trivial ?_
    refine wpAnyH_done (by kernel_rfl) ?_ _
    go_simp
    go_wp2
    go_ret
    exact ⟨HR, hb2⟩
end Go.Proofs.Ytfocmmiajcamiaa
