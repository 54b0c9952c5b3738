
/-
  spec.l4History: entries of a drawn plan.
-/
import Derived.Test.YtdjcfeiaembckaaEds
import Derived.Test.YtdjcfeiaembckaaLawTru
import Derived.Deep.DeepCutAuto
namespace Go.Proofs.Ytdjcfeiaembckaa
open Go.RowKit

theorem IsEnt.tiny {k e d : Int} {x r : ByteArray} (h : IsEnt k e d x r) : r.size ≤ 12 := by
  rcases h with ⟨hv, rfl⟩ | ⟨_, rfl⟩
  · have h : (entS k e d x).size = (entL k e d x).length := by simp [entS, ByteArray.size]
    rw [h, entL_length]
    rcases hv with hv | hv <;> omega
  · decide
/-- Amid a draw of a list of texts: the list v, another list tv beside it. -/
structure LS (w : World) (g B : Nat) (v : Value) (L : List ByteArray) (tv : Value) (ss : List ByteArray) (k : Nat) (wr : World) : Prop where
  own : Own B wr 1 v L.length (L.map Value.string)
  tow : Own B wr 1 tv ss.length (ss.map Value.string)
  dj : Dn tv.ownBlock v.ownBlock
  sz : ∀ s ∈ L, s.size ≤ 300
  rd : RD wr g k
  gr : w.grownBy wr (some g)
  gl : g < w.heap.size
  lo : w.heap.size ≤ B
  z : B ≤ wr.heap.size
section
variable {w wr w' : World} {g B k k' : Nat} {v tv : Value} {L ss : List ByteArray}
theorem LS.below (h : LS w g B v L tv ss k wr) (hb : Below wr.heap.size wr w') : LS w g B v L tv ss k w' :=
  ⟨h.own.below hb (Nat.le_refl _), h.tow.below hb (Nat.le_refl _), h.dj, h.sz, h.rd.below hb, grownBy_trans h.gr (grownBy_below hb), h.gl, h.lo, Nat.le_trans h.z hb.size⟩
theorem LS.alloc (h : LS w g B v L tv ss k wr) (ob : Obj) : LS w g B v L tv ss k (wr.alloc ob) := h.below ((Below.refl _ _).alloc (Nat.le_refl _) _)
theorem LS.drew (h : LS w g B v L tv ss k wr) : LS w g B v L tv ss k wr.drew := h.below (Below.refl _ _).drew
theorem LS.call (h : LS w g B v L tv ss k wr) (hr : RD w' g k') (hg : wr.grownBy w' (some g)) : LS w g B v L tv ss k' w' :=
  have hgl := h.gl
  have hlo := h.lo
  ⟨h.own.grown hg (.inr (by intro e; have := h.own.row_lo _ e; omega)), h.tow.grown hg (.inr (by intro e; have := h.tow.row_lo _ e; omega)), h.dj, h.sz, hr, grownBy_trans h.gr hg, hgl, hlo, Nat.le_trans h.z hg.size⟩
theorem LS.more (h : LS w g B v L tv ss k wr) (hk : k ≤ k') : LS w g B v L tv ss k' wr := ⟨h.own, h.tow, h.dj, h.sz, h.rd.mono hk, h.gr, h.gl, h.lo, h.z⟩
/-- One text more. -/
theorem LS.app {v' : Value} {x : ByteArray} (h : LS w g B v L tv ss k wr) (hx : x.size ≤ 300) (ho : Own B w' 1 v' (L.length + 1) (L.map Value.string ++ [.string x])) (hg : wr.grownBy w' v.ownBlock) (hbk : v'.ownBlock = v.ownBlock ∨ v'.ownBlock = some wr.heap.size) : LS w g B v' (L ++ [x]) tv ss k w' := by
  have hgl := h.gl
  have hlo := h.lo
  have hz := h.z
  refine ⟨by rw [List.length_append, List.map_append]; exact ho, h.tow.grown hg h.dj, ?_, fun s hs => ?_, h.rd.grown hg (fun q hq => by have := h.own.row_lo q hq; omega), ⟨hg.os.trans h.gr.os, hg.tape.trans h.gr.tape, hg.output.trans h.gr.output, Nat.le_trans h.gr.size hg.size, fun q hq hne => (hg.block q (Nat.lt_of_lt_of_le hq h.gr.size) (fun e => by have := h.own.row_lo q e.symm; omega)).trans (h.gr.block q hq hne)⟩, hgl, hlo, Nat.le_trans hz hg.size⟩
  · rcases hbk with e | e
    · rw [e]; exact h.dj
    · exact Dn.later h.tow.row_hi (fun q hq => by rw [e] at hq; injection hq with hq; omega)
  · rcases List.mem_append.1 hs with hs | hs
    · exact h.sz s hs
    · rw [List.mem_singleton.1 hs]; exact hx
theorem LS.src1 (h : LS w g B v L tv ss k wr) (x : ByteArray) : Src Try.prog 1 27 (.slice (some ⟨wr.heap.size, 0, none⟩) 1 1) 1 [.string x] (wr.alloc (.cells #[.string x] 9)) :=
  Own.src (B := B) (.inr ⟨_, 0, 1, rfl, OwnC.made wr B 9 1 1 1 _ 1 h.z (Nat.le_refl _) (by unfold maxLen; omega) rfl (Nat.le_refl _) _ rfl _ (.inl rfl)⟩) Try.underlying27 (by simp; rfl)
end
theorem TruS.len {ts : List TaskD} {ss : List ByteArray} (h : TruS ts ss) : ss.length ≤ 40 := by
  rcases h with ⟨h, rfl⟩ | ⟨_, rfl⟩
  · rw [trs_length]
    rcases h with ⟨h, _⟩ | ⟨h, _⟩
    · cases h
    · omega
  · simp
def RetL (e : Ending) (B : Nat) (w' : World) (z n : Nat) : Prop := ∃ (v : Value) (L : List ByteArray), e = .returned v ∧ Own B w' 1 v L.length (L.map Value.string) ∧ (∀ s ∈ L, s.size ≤ z) ∧ L.length ≤ n

set_option maxHeartbeats 8000000 in
set_option maxRecDepth 100000 in
theorem l4History_any (g k : Nat) (a : Option Addr) (b o n c : Nat) (ts : List TaskD) (w : World) (h : RD w g k) (hk : k ≤ 900000) (hT : TasksAt w a b o n ts) :
    Calls Try.prog 43 #[.pointer (some ⟨g, 0, none⟩), .agg #[.slice a n c]] w fun e w' => RetL e w.heap.size w' 300 100 ∧ RD w' g (k + 200) ∧ w.grownBy w' (some g) := by
  obtain ⟨i0, hi, hz0, hz1, hz2⟩ := info_parts Try.info9
  have hgl := h.lt
  obtain ⟨W, hW⟩ : ∃ W, W = (w.alloc (.cells #[.slice a n c] 25)).alloc (.cells #[] 9) := ⟨_, rfl⟩
  have hBW : Below w.heap.size w W := by rw [hW]; exact ((Below.refl _ _).alloc (Nat.le_refl _) _).alloc (by simp) _
  have hzW : W.heap.size = w.heap.size + 2 := by rw [hW]; simp
  have hP : W.cell? ⟨w.heap.size, 0, none⟩ = some (.slice a n c) := by
    rw [hW]; exact (((CF.made w #[.slice a n c] 25).block (Below.heap_alloc _ _ _ (by simp))) 0 (by simp)).1
  have own0 : Own (w.heap.size + 1) W 1 (.slice (some ⟨w.heap.size + 1, 0, none⟩) 0 0) 0 [] := by
    have h0 := OwnC.made (w.alloc (.cells #[.slice a n c] 25)) (w.heap.size + 1) 9 1 0 0 #[] 0 (by simp) (Nat.le_refl _) (Nat.zero_le _) rfl (Nat.le_refl _) [] rfl (0, 0) (.inl rfl)
    rw [World.size_alloc] at h0
    rw [hW]; exact .inr ⟨_, 0, 0, rfl, h0⟩
  have HW := hid hW
  clear hW
  go_enter Try.func43, Try.ntmps43
  go_upto_region 2 with fail
  rw [← HW.out]
  clear HW
  go_wp2_with fail
  refine (specTruth_any a b o n c ts _ (hT.below' hBW)).mono ?_
  rintro e w1 ⟨⟨tv, m, ss, rfl, htr, ho1⟩, hb1⟩
  obtain rfl : m = ss.length := by
    rcases ho1 with ⟨_, rfl, hx⟩ | ⟨_, _, _, _, hc⟩
    · have : ss = [] := by simpa using hx
      subst this; rfl
    · have := hc.len; simp at this; omega
  have hm40 := htr.len
  have HTZ := hid (TruS.sizes htr).2
  obtain ⟨ta, tc, rfl⟩ := ho1.slc
  have S0 : LS w g (w.heap.size + 1) (.slice (some ⟨w.heap.size + 1, 0, none⟩) 0 0) [] (.slice ta ss.length tc) ss k w1 := by
    have hB1 := hBW.trans (hb1.mono hBW.size)
    have hz1' := hb1.size
    refine ⟨own0.below hb1 (Nat.le_refl _), ho1.mono' (by omega), Dn.symm (Dn.later (m := W.heap.size) (fun q hq => ?_) ho1.row_lo), fun s hs => (by cases hs), h.below hB1, grownBy_below hB1, hgl, by omega, by omega⟩
    have : w.heap.size + 1 = q := by simpa [Value.ownBlock] using hq
    omega
  have HS0 := hid S0
  clear S0 own0 ho1 hb1 hBW hP htr hT h hzW
  go_wp2
  go_loopw [5, 7, 8] (fun ov ev x wr => ∃ i : Nat, i ≤ ss.length ∧ x = .int .i64 i ∧ ∃ (ep : Nat) (va : Option Addr) (vc : Nat) (L : List ByteArray), ev = .int .i64 ep ∧ ep ≤ i ∧ ov = .slice va L.length vc ∧ L.length ≤ 2 * i ∧ LS w g (w.heap.size + 1) (.slice va L.length vc) L (.slice ta ss.length tc) ss (k + 2 * i) wr) (fun _ _ x _ => ss.length - (intOf x).toNat)
  case atStart => exact ⟨0, Nat.zero_le _, rfl, 0, _, _, [], rfl, Nat.le_refl _, rfl, by simp, HS0.out⟩
  case round =>
    clear HS0
    obtain ⟨i, hil, rfl, ep, va, vc, L, rfl, hep, rfl, hLl, S⟩ := hrel
    by_cases hlt : i < ss.length
    · have hlt' : (i : Int) < (ss.length : Int) := by omega
      by_cases he0 : ep = 0
      · have he0b : (((ep : Nat) : Int) == 0) = true := by simp; omega
        have HE0 := hid he0
        clear he0
        go_wp2_with fail
        refine (specEnt_any 1 ((ep : Int) + 1) 0 ⟨#[]⟩ _).mono ?_
        rintro e w2 ⟨⟨s2, rfl, hs2⟩, hb2⟩
        have S2 := S.below hb2
        have hs2' := hs2.tiny
        clear hb2 hs2 S
        have SA := S2.alloc (.cells #[.string s2] 9)
        have src := S2.src1 s2
        obtain ⟨WA1, hWA1⟩ : ∃ V, V = w2.alloc (.cells #[.string s2] 9) := ⟨_, rfl⟩
        rw [← hWA1] at SA src
        have HWA1 := hid hWA1
        have zA := SA.z
        clear hWA1 S2
        go_wp2_with (at_builtin; rw [← HWA1.out]; refine wpList_append_c _ rfl _ _ 27 27 rfl (w.heap.size + 1) 9 i0 (.string ⟨#[]⟩) 1 16 Try.underlying27 hi hz0 hz1 hz2 rfl _ L.length _ rfl SA.own _ 1 _ rfl src (by unfold maxLen; omega) (by omega) zA ?_; intro v' w3 ho' hg' hbk'; obtain ⟨aw3, cw3, rfl⟩ := ho'.slc)
        have S3 := SA.app (x := s2) (by omega) ho' hg' hbk'
        clear SA src HWA1 zA ho' hg' hbk'
        have hl3 : (L ++ [s2]).length = L.length + 1 := by simp
        go_wp2_with fail
        refine (pick_any g 4 (k + 2 * i) _ S3.rd (by omega) (by omega) (by omega)).mono ?_
        rintro e w4 ⟨⟨r4, hr4, rfl⟩, hrd4, hg4⟩
        have S4 := S3.call hrd4 hg4
        clear hrd4 hg4 S3
        by_cases h40 : r4 = 0
        · subst h40
          have HF := hid (show RetL (.returned (.slice aw3 (L.length + 1) cw3)) w.heap.size w4 300 100 ∧ RD w4 g (k + 200) ∧ w.grownBy w4 (some g) from ⟨⟨_, L ++ [s2], rfl, S4.own.mono' (by omega), S4.sz, by rw [hl3]; omega⟩, S4.rd.mono (by omega), S4.gr⟩)
          clear S4
          go_wp2
          go_ret
          exact HF.out
        · have h40' : ¬ (r4 : Int) = 0 := by omega
          obtain ⟨tb, tof, hst⟩ := StrsAt.ofOwn' S4.tow HTZ.out
          obtain rfl := hst.ad (by omega)
          have hck := hst.cell i hlt
          obtain ⟨ti, hti⟩ : ∃ ti, ti = ss.getD i ByteArray.empty := ⟨_, rfl⟩
          rw [← hti] at hck
          clear hti hst
          go_wp2_with fail
          refine (specEnt_any 2 (((ep : Int) + 1)) (i : Nat) ti _).mono ?_
          rintro e w5 ⟨⟨s5, rfl, hs5⟩, hb5⟩
          have S5 := S4.below hb5
          have hs5' := hs5.tiny
          clear hb5 hs5 S4 hck
          have SA := S5.alloc (.cells #[.string s5] 9)
          have src := S5.src1 s5
          obtain ⟨WA2, hWA2⟩ : ∃ V, V = w5.alloc (.cells #[.string s5] 9) := ⟨_, rfl⟩
          rw [← hWA2] at SA src
          have HWA2 := hid hWA2
          have zA := SA.z
          clear hWA2 S5
          go_wp2_with (at_builtin; rw [← HWA2.out]; refine wpList_append_c _ rfl _ _ 27 27 rfl (w.heap.size + 1) 9 i0 (.string ⟨#[]⟩) 1 16 Try.underlying27 hi hz0 hz1 hz2 rfl _ (L ++ [s2]).length _ rfl SA.own _ 1 _ rfl src (by unfold maxLen; omega) (by omega) zA ?_; intro v' w6 ho' hg' hbk'; obtain ⟨aw6, cw6, rfl⟩ := ho'.slc)
          have S6 := SA.app (x := s5) (by omega) ho' hg' hbk'
          clear SA src HWA2 zA ho' hg' hbk'
          have HS6 := hid S6
          clear S6
          go_wp2
          go_roundw
          case rel => exact ⟨i + 1, by omega, by go_num, ep + 1, aw6, cw6, (L ++ [s2]) ++ [s5], by first | rfl | go_num, by omega, by simp, by rw [List.length_append, List.length_singleton]; rw [hl3]; omega, by rw [List.length_append, List.length_singleton]; exact HS6.out.more (by omega)⟩
          case measure => simp [intOf]; omega
      · have he0' : ¬ (ep : Int) = 0 := by omega
        have he0b : (((ep : Nat) : Int) == 0) = false := by simp; omega
        go_wp2_with fail
        refine (pick_any g 4 (k + 2 * i) _ S.rd (by omega) (by omega) (by omega)).mono ?_
        rintro e w1' ⟨⟨r1, hr1, rfl⟩, hrd1, hg1⟩
        have S1 := S.call hrd1 hg1
        clear hrd1 hg1 S
        by_cases h10 : r1 = 0
        · subst h10
          go_wp2_with fail
          refine (specEnt_any 1 ((ep : Int) + 1) 0 ⟨#[]⟩ _).mono ?_
          rintro e w2 ⟨⟨s2, rfl, hs2⟩, hb2⟩
          have S2 := S1.below hb2
          have hs2' := hs2.tiny
          clear hb2 hs2 S1
          have SA := S2.alloc (.cells #[.string s2] 9)
          have src := S2.src1 s2
          obtain ⟨WA3, hWA3⟩ : ∃ V, V = w2.alloc (.cells #[.string s2] 9) := ⟨_, rfl⟩
          rw [← hWA3] at SA src
          have HWA3 := hid hWA3
          have zA := SA.z
          clear hWA3 S2
          go_wp2_with (at_builtin; rw [← HWA3.out]; refine wpList_append_c _ rfl _ _ 27 27 rfl (w.heap.size + 1) 9 i0 (.string ⟨#[]⟩) 1 16 Try.underlying27 hi hz0 hz1 hz2 rfl _ L.length _ rfl SA.own _ 1 _ rfl src (by unfold maxLen; omega) (by omega) zA ?_; intro v' w3 ho' hg' hbk'; obtain ⟨aw3, cw3, rfl⟩ := ho'.slc)
          have S3 := SA.app (x := s2) (by omega) ho' hg' hbk'
          clear SA src HWA3 zA ho' hg' hbk'
          have hl3 : (L ++ [s2]).length = L.length + 1 := by simp
          go_wp2_with fail
          refine (pick_any g 4 (k + 2 * i + 1) _ S3.rd (by omega) (by omega) (by omega)).mono ?_
          rintro e w4 ⟨⟨r4, hr4, rfl⟩, hrd4, hg4⟩
          have S4 := S3.call hrd4 hg4
          clear hrd4 hg4 S3
          by_cases h40 : r4 = 0
          · subst h40
            have HF := hid (show RetL (.returned (.slice aw3 (L.length + 1) cw3)) w.heap.size w4 300 100 ∧ RD w4 g (k + 200) ∧ w.grownBy w4 (some g) from ⟨⟨_, L ++ [s2], rfl, S4.own.mono' (by omega), S4.sz, by rw [hl3]; omega⟩, S4.rd.mono (by omega), S4.gr⟩)
            clear S4
            go_wp2
            go_ret
            exact HF.out
          · have h40' : ¬ (r4 : Int) = 0 := by omega
            obtain ⟨tb, tof, hst⟩ := StrsAt.ofOwn' S4.tow HTZ.out
            obtain rfl := hst.ad (by omega)
            have hck := hst.cell i hlt
            obtain ⟨ti, hti⟩ : ∃ ti, ti = ss.getD i ByteArray.empty := ⟨_, rfl⟩
            rw [← hti] at hck
            clear hti hst
            go_wp2_with fail
            refine (specEnt_any 2 (((ep : Int) + 1)) (i : Nat) ti _).mono ?_
            rintro e w5 ⟨⟨s5, rfl, hs5⟩, hb5⟩
            have S5 := S4.below hb5
            have hs5' := hs5.tiny
            clear hb5 hs5 S4 hck
            have SA := S5.alloc (.cells #[.string s5] 9)
            have src := S5.src1 s5
            obtain ⟨WA4, hWA4⟩ : ∃ V, V = w5.alloc (.cells #[.string s5] 9) := ⟨_, rfl⟩
            rw [← hWA4] at SA src
            have HWA4 := hid hWA4
            have zA := SA.z
            clear hWA4 S5
            go_wp2_with (at_builtin; rw [← HWA4.out]; refine wpList_append_c _ rfl _ _ 27 27 rfl (w.heap.size + 1) 9 i0 (.string ⟨#[]⟩) 1 16 Try.underlying27 hi hz0 hz1 hz2 rfl _ (L ++ [s2]).length _ rfl SA.own _ 1 _ rfl src (by unfold maxLen; omega) (by omega) zA ?_; intro v' w6 ho' hg' hbk'; obtain ⟨aw6, cw6, rfl⟩ := ho'.slc)
            have S6 := SA.app (x := s5) (by omega) ho' hg' hbk'
            clear SA src HWA4 zA ho' hg' hbk'
            have HS6 := hid S6
            clear S6
            go_wp2
            go_roundw
            case rel => exact ⟨i + 1, by omega, by go_num, ep + 1, aw6, cw6, (L ++ [s2]) ++ [s5], by first | rfl | go_num, by omega, by simp, by rw [List.length_append, List.length_singleton]; rw [hl3]; omega, by rw [List.length_append, List.length_singleton]; exact HS6.out.more (by omega)⟩
            case measure => simp [intOf]; omega
        · have h10' : ¬ (r1 : Int) = 0 := by omega
          have h10b : (((r1 : Nat) : Int) == 0) = false := by simp; omega
          go_wp2_with fail
          refine (pick_any g 4 (k + 2 * i + 1) _ S1.rd (by omega) (by omega) (by omega)).mono ?_
          rintro e w4 ⟨⟨r4, hr4, rfl⟩, hrd4, hg4⟩
          have S4 := S1.call hrd4 hg4
          clear hrd4 hg4 S1
          by_cases h40 : r4 = 0
          · subst h40
            have HF := hid (show RetL (.returned (.slice va (L.length) vc)) w.heap.size w4 300 100 ∧ RD w4 g (k + 200) ∧ w.grownBy w4 (some g) from ⟨⟨_, L, rfl, S4.own.mono' (by omega), S4.sz, by omega⟩, S4.rd.mono (by omega), S4.gr⟩)
            clear S4
            go_wp2
            go_ret
            exact HF.out
          · have h40' : ¬ (r4 : Int) = 0 := by omega
            obtain ⟨tb, tof, hst⟩ := StrsAt.ofOwn' S4.tow HTZ.out
            obtain rfl := hst.ad (by omega)
            have hck := hst.cell i hlt
            obtain ⟨ti, hti⟩ : ∃ ti, ti = ss.getD i ByteArray.empty := ⟨_, rfl⟩
            rw [← hti] at hck
            clear hti hst
            go_wp2_with fail
            refine (specEnt_any 2 ((ep : Nat)) (i : Nat) ti _).mono ?_
            rintro e w5 ⟨⟨s5, rfl, hs5⟩, hb5⟩
            have S5 := S4.below hb5
            have hs5' := hs5.tiny
            clear hb5 hs5 S4 hck
            have SA := S5.alloc (.cells #[.string s5] 9)
            have src := S5.src1 s5
            obtain ⟨WA5, hWA5⟩ : ∃ V, V = w5.alloc (.cells #[.string s5] 9) := ⟨_, rfl⟩
            rw [← hWA5] at SA src
            have HWA5 := hid hWA5
            have zA := SA.z
            clear hWA5 S5
            go_wp2_with (at_builtin; rw [← HWA5.out]; refine wpList_append_c _ rfl _ _ 27 27 rfl (w.heap.size + 1) 9 i0 (.string ⟨#[]⟩) 1 16 Try.underlying27 hi hz0 hz1 hz2 rfl _ (L).length _ rfl SA.own _ 1 _ rfl src (by unfold maxLen; omega) (by omega) zA ?_; intro v' w6 ho' hg' hbk'; obtain ⟨aw6, cw6, rfl⟩ := ho'.slc)
            have S6 := SA.app (x := s5) (by omega) ho' hg' hbk'
            clear SA src HWA5 zA ho' hg' hbk'
            have HS6 := hid S6
            clear S6
            go_wp2
            go_roundw
            case rel => exact ⟨i + 1, by omega, by go_num, ep, aw6, cw6, (L) ++ [s5], by first | rfl | go_num, by omega, by simp, by rw [List.length_append, List.length_singleton]; omega, by rw [List.length_append, List.length_singleton]; exact HS6.out.more (by omega)⟩
            case measure => simp [intOf]; omega
    · have HF := hid (show RetL (.returned (.slice va L.length vc)) w.heap.size wr 300 100 ∧ RD wr g (k + 200) ∧ w.grownBy wr (some g) from ⟨⟨_, L, rfl, S.own.mono' (by omega), S.sz, by omega⟩, S.rd.mono (by omega), S.gr⟩)
      have hlt' : ¬ (i : Int) < (ss.length : Int) := by omega
      clear S
      go_wp2
      go_ret
      exact HF.out
end Go.Proofs.Ytdjcfeiaembckaa
