
/-
  spec.l4Draw, DrawFormEntry, DrawReadEntry.
-/
import Derived.Test.YtdjcfeiaembckaaDso
import Derived.Test.YtdjcfeiaembckaaDrb
import Derived.Test.YtdjcfeiaembckaaEnf
import Derived.Deep.DeepCutAuto
namespace Go.Proofs.Ytdjcfeiaembckaa
open Go.RowKit

theorem Try.sizeEn : (Try.prog.info? 36).map (·.size) = some 4 := by kernel_rfl
theorem enter_l1Bytes (v1 : Value) (w : World) : Sem.run Try.prog (callFunc 51 #[v1]) w = .ok (.enter 51 #[v1]) w := by kernel_rfl
theorem run_bEn {ρ : Operand → Value} {o : Oper} {w : World} (x0 x1 x2 x3 : Operand) (i0 i1 i2 : Int) (s : ByteArray) (h : o.op = .build 36 #[(0, x0), (1, x1), (2, x2), (3, x3)]) (h0 : ρ x0 = .int .i64 i0) (h1 : ρ x1 = .int .i64 i1) (h2 : ρ x2 = .int .i64 i2) (h3 : ρ x3 = .string s) :
    (execOp ρ o).run Try.prog w = .ok (.value (.agg #[.int .i64 i0, .int .i64 i1, .int .i64 i2, .string s])) w := by
  unfold execOp; rw [h]; simp [go_sem, h0, h1, h2, h3]
theorem oneEn (k e d : Int) (x : ByteArray) : ∀ v ∈ [Value.int .i64 k, .int .i64 e, .int .i64 d, .string x], v.oneCell' = true := by
  intro v hv
  simp only [List.mem_cons, List.not_mem_nil, or_false] at hv
  rcases hv with rfl | rfl | rfl | rfl <;> rfl
/-- Amid a draw: a box at X, the reader in g. -/
structure ES (w : World) (g X : Nat) (cs : List Value) (k : Nat) (wr : World) : Prop where
  R : CF wr X cs
  rd : RD wr g k
  gr : w.grownBy wr (some g)
  z : X < wr.heap.size
  gl : g < w.heap.size
  lo : w.heap.size ≤ X
section
variable {w wr w' : World} {g X k k' : Nat} {cs : List Value}
theorem ES.below (h : ES w g X cs k wr) (hb : Below wr.heap.size wr w') : ES w g X cs k w' :=
  have hz := h.z
  have hl := h.lo
  have hg := h.gl
  ⟨h.R.block (hb.block _ hz), h.rd.below hb, grownBy_trans h.gr (grownBy_below hb), Nat.lt_of_lt_of_le hz hb.size, hg, hl⟩
theorem ES.drew (h : ES w g X cs k wr) : ES w g X cs k wr.drew := h.below (Below.refl _ _).drew
theorem ES.alloc (h : ES w g X cs k wr) (ob : Obj) : ES w g X cs k (wr.alloc ob) := h.below ((Below.refl _ _).alloc (Nat.le_refl _) _)
theorem ES.call (h : ES w g X cs k wr) (hr : RD w' g k') (hg : wr.grownBy w' (some g)) : ES w g X cs k' w' :=
  have hgl := h.gl
  have hz := h.z
  have hl := h.lo
  ⟨h.R.block (hg.block _ hz (by simp; omega)), hr, grownBy_trans h.gr hg, Nat.lt_of_lt_of_le hz hg.size, hgl, hl⟩
theorem ES.put (h : ES w g X cs k wr) {vs : List Value} (hl : cs.length = vs.length) : ES w g X vs k (wr.setCells X 0 vs) :=
  have hg := grown_setCells X vs 0 wr wr (World.grownBy.refl _ _)
  have hgl := h.gl
  have hz := h.z
  have hlo := h.lo
  ⟨h.R.stored hl, h.rd.grown hg (fun q hq => by injection hq with hq; omega), ⟨hg.os.trans h.gr.os, hg.tape.trans h.gr.tape, hg.output.trans h.gr.output, Nat.le_trans h.gr.size hg.size, fun q hq hne => (hg.block q (Nat.lt_of_lt_of_le hq h.gr.size) (by simp; omega)).trans (h.gr.block q hq hne)⟩, Nat.lt_of_lt_of_le hz hg.size, hgl, hlo⟩
theorem ES.more (h : ES w g X cs k wr) (hk : k ≤ k') : ES w g X cs k' wr := ⟨h.R, h.rd.mono hk, h.gr, h.z, h.gl, h.lo⟩
end
def y4 (r : Nat) : Int := [(0 : Int), 1, 2, 39].getD r 0
theorem y4_cell {u : World} {q r : Nat} (h : CF u q [.int .i64 0, .int .i64 1, .int .i64 2, .int .i64 39]) (hr : r < 4) : u.cell? ⟨q, r, none⟩ = some (.int .i64 (y4 r)) := by
  rcases (show r = 0 ∨ r = 1 ∨ r = 2 ∨ r = 3 by omega) with rfl | rfl | rfl | rfl
  · exact (h 0 (by simp)).1
  · exact (h 1 (by simp)).1
  · exact (h 2 (by simp)).1
  · exact (h 3 (by simp)).1
theorem y4_rng {r : Nat} (hr : r < 4) : -1000 ≤ y4 r ∧ y4 r ≤ 1000 := by
  rcases (show r = 0 ∨ r = 1 ∨ r = 2 ∨ r = 3 by omega) with rfl | rfl | rfl | rfl <;> simp [y4]
theorem IsEnt.small {k e d : Int} {x r : ByteArray} (h : IsEnt k e d x r) (_hx : x.size ≤ 110) : r.size ≤ 120 := by
  rcases h with ⟨_, rfl⟩ | ⟨_, rfl⟩
  · have h : (entS k e d x).size = (entL k e d x).length := by simp [entS, ByteArray.size]
    rw [h, entL_length]; omega
  · decide
def RetEn (e' : Ending) (z : Nat) : Prop := ∃ (kk ee dd : Int) (x : ByteArray), e' = .returned (.agg #[.int .i64 kk, .int .i64 ee, .int .i64 dd, .string x]) ∧ (-1000 ≤ kk ∧ kk ≤ 1000) ∧ (-1000 ≤ ee ∧ ee ≤ 1000) ∧ (-1000 ≤ dd ∧ dd ≤ 1000) ∧ x.size ≤ z

set_option maxHeartbeats 4000000 in
set_option maxRecDepth 100000 in
theorem l4Draw_any (g k : Nat) (w : World) (h : RD w g k) (hk : k ≤ 900000) :
    Calls Try.prog 33 #[.pointer (some ⟨g, 0, none⟩)] w fun e w' => RetEn e 100 ∧ RD w' g (k + 10) ∧ w.grownBy w' (some g) := by
  have hgl := h.lt
  obtain ⟨W, hW⟩ : ∃ W, W = w.alloc (.cells #[.int .i64 0, .int .i64 0, .int .i64 0, .string ⟨#[]⟩] 36) := ⟨_, rfl⟩
  have S0 : ES w g w.heap.size [.int .i64 0, .int .i64 0, .int .i64 0, .string ⟨#[]⟩] k W := by
    rw [hW]
    exact ⟨CF.made w #[.int .i64 0, .int .i64 0, .int .i64 0, .string ⟨#[]⟩] _, h.keep (fun q hq => Below.heap_alloc _ _ _ (by omega)), galloc (World.grownBy.refl _ _) _, by simp, hgl, Nat.le_refl _⟩
  have HW := hid hW
  clear hW h
  go_enter Try.func33, Try.ntmps33
  go_wp2_with fail
  rw [← HW.out]
  clear HW
  refine (pick_any g 3 k _ S0.rd (by omega) (by omega) (by omega)).mono ?_
  rintro e w1 ⟨⟨r1, hr1, rfl⟩, hrd1, hg1⟩
  have S1 := S0.call hrd1 hg1
  clear hrd1 hg1 S0
  by_cases h0 : r1 = 0
  · subst h0
    obtain ⟨WA, hWA⟩ : ∃ V, V = w1.alloc (.cells #[.int .i64 1, .int .i64 2, .int .i64 256, .int .i64 300] 3) := ⟨_, rfl⟩
    have SA : ES w g w.heap.size [.int .i64 0, .int .i64 0, .int .i64 0, .string ⟨#[]⟩] (k + 1) WA := by rw [hWA]; exact S1.alloc _
    have cA : CF WA w1.heap.size [.int .i64 1, .int .i64 2, .int .i64 256, .int .i64 300] := by rw [hWA]; exact CF.made w1 #[.int .i64 1, .int .i64 2, .int .i64 256, .int .i64 300] 3
    have zA : w1.heap.size < WA.heap.size := by rw [hWA]; simp
    have hgA : g < w1.heap.size := by have := S1.gr.size; omega
    have HWA := hid hWA
    clear hWA S1
    go_wp2_with fail
    rw [← HWA.out]
    clear HWA
    refine (pick_any g 4 (k + 1) _ SA.rd (by omega) (by omega) (by omega)).mono ?_
    rintro e w2 ⟨⟨r2, hr2, rfl⟩, hrd2, hg2⟩
    have S2 := SA.call hrd2 hg2
    have c2 := cA.block (hg2.block _ zA (by simp; omega))
    clear hrd2 hg2 SA cA
    obtain ⟨xx, hxx, hxc⟩ : ∃ xx : Int, (-1000 ≤ xx ∧ xx ≤ 1000) ∧ w2.cell? ⟨w1.heap.size, r2, none⟩ = some (.int .i64 xx) := by
      rcases (show r2 = 0 ∨ r2 = 1 ∨ r2 = 2 ∨ r2 = 3 by omega) with rfl | rfl | rfl | rfl
      · exact ⟨1, by omega, (c2 0 (by simp)).1⟩
      · exact ⟨2, by omega, (c2 1 (by simp)).1⟩
      · exact ⟨256, by omega, (c2 2 (by simp)).1⟩
      · exact ⟨300, by omega, (c2 3 (by simp)).1⟩
    have hr2' : (r2 : Int) < 4 := by omega
    have R2 := S2.R
    have HX := hid hxx
    clear c2 zA hxx
    go_wp2_with (refine wpList_store_cf rfl 36 (.tmp 2) (.tmp 11) rfl w.heap.size [.int .i64 0, .int .i64 0, .int .i64 0, .string ⟨#[]⟩] [.int .i64 1, .int .i64 xx, .int .i64 0, .string ⟨#[]⟩] rfl rfl R2 rfl Try.sizeEn (oneEn _ _ _ _) ?_; intro w10 hc10 hg10)
    have k0 : w10.cell? ⟨w.heap.size, 0, none⟩ = some (.int .i64 1) := (hc10 0 (by simp)).1
    have k1 : w10.cell? ⟨w.heap.size, 1, none⟩ = some (.int .i64 xx) := (hc10 1 (by simp)).1
    have k2 : w10.cell? ⟨w.heap.size, 2, none⟩ = some (.int .i64 0) := (hc10 2 (by simp)).1
    have k3 : w10.cell? ⟨w.heap.size, 3, none⟩ = some (.string ⟨#[]⟩) := (hc10 3 (by simp)).1
    exact bodyPost_ret (v := .agg #[.int .i64 1, .int .i64 xx, .int .i64 0, .string ⟨#[]⟩]) (by simp [results, Try.results33, go_sem, k0, k1, k2, k3]) rfl
      ⟨⟨_, _, _, _, rfl, by omega, HX.out, by omega, by decide⟩, (S2.rd.grown hg10 (fun q hq => by injection hq with hq; omega)).mono (by omega), ⟨hg10.os.trans S2.gr.os, hg10.tape.trans S2.gr.tape, hg10.output.trans S2.gr.output, Nat.le_trans S2.gr.size hg10.size, fun q hq hne => (hg10.block q (Nat.lt_of_lt_of_le hq S2.gr.size) (by simp; omega)).trans (S2.gr.block q hq hne)⟩⟩
  · have h0' : ¬ (r1 : Int) = 0 := by omega
    go_upto_region 3 with fail
    refine wp_region_held (S := fun _ => True) (by kernel_rfl) ?_
    change wpAnyH _ _ _ _ _ _ _ _ (World.drew _)
    have s0 := S1.drew
    obtain ⟨x0, hx0⟩ : ∃ U, U = w1.drew := ⟨_, rfl⟩
    rw [← hx0] at s0
    rw [← hx0]
    clear hx0 S1
    refine hTake (i := 0) (d := some 12) (v := .pointer (some ⟨g, 0, none⟩)) (l' := #[true, false, false, false, false, false, false, false, false, false, false, false]) rfl (by kernel_rfl) (by kernel_rfl) (by kernel_rfl) (by kernel_rfl) (fun _ _ _ h => h) (by kernel_rfl) (fun _ hc => run_mvD (.tmp 0) (by kernel_rfl) (by kernel_rfl)) trivial (by kernel_rfl) ?_
    refine hTake (i := 4) (d := some 16) (v := .pointer (some ⟨g, 0, none⟩)) (l' := #[true, false, false, false, true, false, false, false, false, false, false, false]) rfl (by kernel_rfl) (by kernel_rfl) (by kernel_rfl) (by kernel_rfl) (fun _ _ _ h => h) (by kernel_rfl) (fun _ hc => run_mvD (.tmp 0) (by kernel_rfl) (by kernel_rfl)) trivial (by kernel_rfl) ?_
    refine hTake (i := 8) (d := some 20) (v := .pointer (some ⟨g, 0, none⟩)) (l' := #[true, false, false, false, true, false, false, false, true, false, false, false]) rfl (by kernel_rfl) (by kernel_rfl) (by kernel_rfl) (by kernel_rfl) (fun _ _ _ h => h) (by kernel_rfl) (fun _ hc => run_mvD (.tmp 0) (by kernel_rfl) (by kernel_rfl)) trivial (by kernel_rfl) ?_
    refine hTwo (i := 1) (j := 3) (by kernel_rfl) (hCall (i := 1) (d := some 13) (f := 23) (args := #[.pointer (some ⟨g, 0, none⟩), .int .i64 3]) (l' := #[true, true, false, false, true, false, false, false, true, false, false, false]) (R := fun v w' => (∃ r : Nat, r < 3 ∧ v = .int .i64 r) ∧ RD w' g (k + 1 + 1) ∧ x0.grownBy w' (some g)) rfl (by kernel_rfl) (by kernel_rfl) (by kernel_rfl) (run_cl2 _ _ _ rfl (by kernel_rfl) (by kernel_rfl) rfl enter_pick) ((pick_any g 3 (k + 1) x0 s0.rd (by omega) (by omega) (by omega)).mono fun e w' ⟨⟨r, hr, he⟩, h1, h2⟩ => ⟨_, he, ⟨r, hr, rfl⟩, h1, h2⟩) ?_) (hVal (i := 3) (d := some 15) (v := .slice (some ⟨x0.heap.size, 0, none⟩) 4 4) (w' := x0.alloc (.cells #[.int .i64 0, .int .i64 1, .int .i64 2, .int .i64 39] 3)) (l' := #[true, false, false, true, true, false, false, false, true, false, false, false]) rfl (by kernel_rfl) (by kernel_rfl) (by kernel_rfl) (run_bsI4 (.const (.int .i64 0)) (.const (.int .i64 1)) (.const (.int .i64 2)) (.const (.int .i64 39)) 0 1 2 39 (by kernel_rfl) (by kernel_rfl) (by kernel_rfl) (by kernel_rfl) (by kernel_rfl)) trivial ?_)
    · rintro _ xw1 ⟨⟨r3, hr3, rfl⟩, hrd, hgg⟩
      have s2 := s0.call hrd hgg
      clear hrd hgg s0
      refine ⟨trivial, ?_⟩
      refine hTake (i := 2) (d := some 14) (v := .int .i64 (1 + (r3 : Int))) (l' := #[true, true, true, false, true, false, false, false, true, false, false, false]) rfl (by kernel_rfl) (by kernel_rfl) (by kernel_rfl) (by kernel_rfl) (fun _ _ _ h => h) (by kernel_rfl) (fun _ hc => run_addII (.const (.int .i64 1)) (.tmp 13) 1 (r3 : Int) (by kernel_rfl) (by kernel_rfl) (by kernel_rfl) (by omega)) trivial (by kernel_rfl) ?_
      refine hTwo (i := 3) (j := 5) (by kernel_rfl) (hVal (i := 3) (d := some 15) (v := .slice (some ⟨xw1.heap.size, 0, none⟩) 4 4) (w' := xw1.alloc (.cells #[.int .i64 0, .int .i64 1, .int .i64 2, .int .i64 39] 3)) (l' := #[true, true, true, true, true, false, false, false, true, false, false, false]) rfl (by kernel_rfl) (by kernel_rfl) (by kernel_rfl) (run_bsI4 (.const (.int .i64 0)) (.const (.int .i64 1)) (.const (.int .i64 2)) (.const (.int .i64 39)) 0 1 2 39 (by kernel_rfl) (by kernel_rfl) (by kernel_rfl) (by kernel_rfl) (by kernel_rfl)) trivial ?_) (hCall (i := 5) (d := some 17) (f := 23) (args := #[.pointer (some ⟨g, 0, none⟩), .int .i64 4]) (l' := #[true, true, true, false, true, true, false, false, true, false, false, false]) (R := fun v w' => (∃ r : Nat, r < 4 ∧ v = .int .i64 r) ∧ RD w' g (k + 2 + 1) ∧ xw1.grownBy w' (some g)) rfl (by kernel_rfl) (by kernel_rfl) (by kernel_rfl) (run_cl2 _ _ _ rfl (by kernel_rfl) (by kernel_rfl) rfl enter_pick) ((pick_any g 4 (k + 2) xw1 s2.rd (by omega) (by omega) (by omega)).mono fun e w' ⟨⟨r, hr, he⟩, h1, h2⟩ => ⟨_, he, ⟨r, hr, rfl⟩, h1, h2⟩) ?_)
      · have s4 := s2.alloc (.cells #[.int .i64 0, .int .i64 1, .int .i64 2, .int .i64 39] 3)
        have hq5 := CF.made xw1 #[.int .i64 0, .int .i64 1, .int .i64 2, .int .i64 39] 3
        have hq5z : xw1.heap.size < (xw1.alloc (.cells #[.int .i64 0, .int .i64 1, .int .i64 2, .int .i64 39] 3)).heap.size := by simp
        have qlo : w.heap.size < xw1.heap.size := by have := s2.z; have := s2.lo; omega
        obtain ⟨qb, hqb⟩ : ∃ q, q = xw1.heap.size := ⟨_, rfl⟩
        rw [← hqb] at hq5 hq5z qlo
        rw [← hqb]
        obtain ⟨xw3, hxw3⟩ : ∃ V, V = xw1.alloc (.cells #[.int .i64 0, .int .i64 1, .int .i64 2, .int .i64 39] 3) := ⟨_, rfl⟩
        rw [← hxw3] at s4 hq5 hq5z
        rw [← hxw3]
        clear hxw3 hqb s2
        refine hOne (by kernel_rfl) (hCall (i := 5) (d := some 17) (f := 23) (args := #[.pointer (some ⟨g, 0, none⟩), .int .i64 4]) (l' := #[true, true, true, true, true, true, false, false, true, false, false, false]) (R := fun v w' => (∃ r : Nat, r < 4 ∧ v = .int .i64 r) ∧ RD w' g (k + 2 + 1) ∧ xw3.grownBy w' (some g)) rfl (by kernel_rfl) (by kernel_rfl) (by kernel_rfl) (run_cl2 _ _ _ rfl (by kernel_rfl) (by kernel_rfl) rfl enter_pick) ((pick_any g 4 (k + 2) xw3 s4.rd (by omega) (by omega) (by omega)).mono fun e w' ⟨⟨r, hr, he⟩, h1, h2⟩ => ⟨_, he, ⟨r, hr, rfl⟩, h1, h2⟩) ?_)
        rintro _ xw6 ⟨⟨r4, hr4, rfl⟩, hrd, hgg⟩
        have s7 := s4.call hrd hgg
        have hq8 := hq5.block (hgg.block qb (by have := hq5z; omega) (by simp; have := s4.gl; have := qlo; omega))
        have hq8z : qb < xw6.heap.size := by have := hgg.size; have := hq5z; omega
        clear hrd hgg s4 hq5 hq5z
        refine ⟨trivial, ?_⟩
        refine hTake (i := 6) (d := some 18) (v := .pointer (some ⟨qb, r4, none⟩)) (l' := #[true, true, true, true, true, true, true, false, true, false, false, false]) rfl (by kernel_rfl) (by kernel_rfl) (by kernel_rfl) (by kernel_rfl) (fun _ _ _ h => h) (by kernel_rfl) (fun _ hc => run_ixI (.tmp 15) (.tmp 17) qb 4 4 r4 (by kernel_rfl) (by kernel_rfl) (by kernel_rfl) hr4) trivial (by kernel_rfl) ?_
        refine hTwo (i := 7) (j := 9) (by kernel_rfl) (hVal (i := 7) (d := some 19) (v := .int .i64 (y4 r4)) (w' := xw6) (l' := #[true, true, true, true, true, true, true, true, true, false, false, false]) rfl (by kernel_rfl) (by kernel_rfl) (by kernel_rfl) (run_ldIn (.tmp 18) (by kernel_rfl) (by kernel_rfl) (y4_cell hq8 hr4)) trivial ?_) (hCall (i := 9) (d := some 21) (f := 51) (args := #[.pointer (some ⟨g, 0, none⟩)]) (l' := #[true, true, true, true, true, true, true, false, true, true, false, false]) (R := fun v w' => (∃ y : ByteArray, v = .string y ∧ y.size = 8) ∧ RD w' g (k + 3 + 1) ∧ xw6.grownBy w' (some g)) rfl (by kernel_rfl) (by kernel_rfl) (by kernel_rfl) (run_cl1 _ _ rfl (by kernel_rfl) rfl enter_l1Bytes) ((l1Bytes_any g (k + 3) xw6 s7.rd (by omega)).mono fun e w' ⟨⟨y, he, hy⟩, h1, h2⟩ => ⟨_, he, ⟨y, rfl, hy⟩, h1, h2⟩) ?_)
        · refine hOne (by kernel_rfl) (hCall (i := 9) (d := some 21) (f := 51) (args := #[.pointer (some ⟨g, 0, none⟩)]) (l' := #[true, true, true, true, true, true, true, true, true, true, false, false]) (R := fun v w' => (∃ y : ByteArray, v = .string y ∧ y.size = 8) ∧ RD w' g (k + 3 + 1) ∧ xw6.grownBy w' (some g)) rfl (by kernel_rfl) (by kernel_rfl) (by kernel_rfl) (run_cl1 _ _ rfl (by kernel_rfl) rfl enter_l1Bytes) ((l1Bytes_any g (k + 3) xw6 s7.rd (by omega)).mono fun e w' ⟨⟨y, he, hy⟩, h1, h2⟩ => ⟨_, he, ⟨y, rfl, hy⟩, h1, h2⟩) ?_)
          rintro _ xw9 ⟨⟨yy, rfl, hyy⟩, hrd, hgg⟩
          have s10 := s7.call hrd hgg
          have hq11 := hq8.block (hgg.block qb (by have := hq8z; omega) (by simp; have := s7.gl; have := qlo; omega))
          have hq11z : qb < xw9.heap.size := by have := hgg.size; have := hq8z; omega
          clear hrd hgg s7 hq8 hq8z
          refine ⟨trivial, ?_⟩
          refine hTake (i := 10) (d := some 22) (v := .agg #[.int .i64 2, .int .i64 (1 + (r3 : Int)), .int .i64 (y4 r4), .string yy]) (l' := #[true, true, true, true, true, true, true, true, true, true, true, false]) rfl (by kernel_rfl) (by kernel_rfl) (by kernel_rfl) (by kernel_rfl) (fun _ _ _ h => h) (by kernel_rfl) (fun _ hc => run_bEn (.const (.int .i64 2)) (.tmp 14) (.tmp 19) (.tmp 21) 2 (1 + (r3 : Int)) (y4 r4) yy (by kernel_rfl) (by kernel_rfl) (by kernel_rfl) (by kernel_rfl) (by kernel_rfl)) trivial (by kernel_rfl) ?_
          have hcX := s10.R
          have sN := s10.put (vs := [.int .i64 2, .int .i64 (1 + (r3 : Int)), .int .i64 (y4 r4), .string yy]) rfl
          refine hOne (by kernel_rfl) (hSkip (i := 11) (w' := xw9.setCells w.heap.size 0 [.int .i64 2, .int .i64 (1 + (r3 : Int)), .int .i64 (y4 r4), .string yy]) (l' := #[true, true, true, true, true, true, true, true, true, true, true, true]) rfl (by kernel_rfl) (by kernel_rfl) (by kernel_rfl) (run_stT 36 [.int .i64 0, .int .i64 0, .int .i64 0, .string ⟨#[]⟩] [.int .i64 2, .int .i64 (1 + (r3 : Int)), .int .i64 (y4 r4), .string yy] (.tmp 2) (.tmp 22) (by kernel_rfl) (by kernel_rfl) (by kernel_rfl) hcX rfl Try.sizeEn (oneEn _ _ _ _)) trivial ?_)
          obtain ⟨xw12, hxw12⟩ : ∃ V, V = xw9.setCells w.heap.size 0 [.int .i64 2, .int .i64 (1 + (r3 : Int)), .int .i64 (y4 r4), .string yy] := ⟨_, rfl⟩
          rw [← hxw12] at sN
          rw [← hxw12]
          clear hxw12 s10 hcX
          refine wpAnyH_done (by kernel_rfl) ?_ _
          have k0 : xw12.cell? ⟨w.heap.size, 0, none⟩ = some (.int .i64 2) := (sN.R 0 (by simp)).1
          have k1 : xw12.cell? ⟨w.heap.size, 1, none⟩ = some (.int .i64 (1 + (r3 : Int))) := (sN.R 1 (by simp)).1
          have k2 : xw12.cell? ⟨w.heap.size, 2, none⟩ = some (.int .i64 (y4 r4)) := (sN.R 2 (by simp)).1
          have k3 : xw12.cell? ⟨w.heap.size, 3, none⟩ = some (.string yy) := (sN.R 3 (by simp)).1
          have HS := hid (And.intro (sN.rd.mono (show _ ≤ k + 10 by omega)) sN.gr)
          have HY := hid (show RetEn (.returned (.agg #[.int .i64 2, .int .i64 (1 + (r3 : Int)), .int .i64 (y4 r4), .string yy])) 100 from ⟨_, _, _, _, rfl, by omega, by omega, y4_rng hr4, by omega⟩)
          clear sN
          go_wp2
          exact bodyPost_ret (v := .agg #[.int .i64 2, .int .i64 (1 + (r3 : Int)), .int .i64 (y4 r4), .string yy]) (by simp [results, Try.results33, go_sem, k0, k1, k2, k3]) rfl ⟨HY.out, HS.out⟩
        · rintro _ xw13 ⟨⟨yy, rfl, hyy⟩, hrd, hgg⟩
          have s14 := s7.call hrd hgg
          have hq15 := hq8.block (hgg.block qb (by have := hq8z; omega) (by simp; have := s7.gl; have := qlo; omega))
          have hq15z : qb < xw13.heap.size := by have := hgg.size; have := hq8z; omega
          clear hrd hgg s7 hq8 hq8z
          refine ⟨trivial, ?_⟩
          refine hOne (by kernel_rfl) (hVal (i := 7) (d := some 19) (v := .int .i64 (y4 r4)) (w' := xw13) (l' := #[true, true, true, true, true, true, true, true, true, true, false, false]) rfl (by kernel_rfl) (by kernel_rfl) (by kernel_rfl) (run_ldIn (.tmp 18) (by kernel_rfl) (by kernel_rfl) (y4_cell hq15 hr4)) trivial ?_)
          refine hTake (i := 10) (d := some 22) (v := .agg #[.int .i64 2, .int .i64 (1 + (r3 : Int)), .int .i64 (y4 r4), .string yy]) (l' := #[true, true, true, true, true, true, true, true, true, true, true, false]) rfl (by kernel_rfl) (by kernel_rfl) (by kernel_rfl) (by kernel_rfl) (fun _ _ _ h => h) (by kernel_rfl) (fun _ hc => run_bEn (.const (.int .i64 2)) (.tmp 14) (.tmp 19) (.tmp 21) 2 (1 + (r3 : Int)) (y4 r4) yy (by kernel_rfl) (by kernel_rfl) (by kernel_rfl) (by kernel_rfl) (by kernel_rfl)) trivial (by kernel_rfl) ?_
          have hcX := s14.R
          have sN := s14.put (vs := [.int .i64 2, .int .i64 (1 + (r3 : Int)), .int .i64 (y4 r4), .string yy]) rfl
          refine hOne (by kernel_rfl) (hSkip (i := 11) (w' := xw13.setCells w.heap.size 0 [.int .i64 2, .int .i64 (1 + (r3 : Int)), .int .i64 (y4 r4), .string yy]) (l' := #[true, true, true, true, true, true, true, true, true, true, true, true]) rfl (by kernel_rfl) (by kernel_rfl) (by kernel_rfl) (run_stT 36 [.int .i64 0, .int .i64 0, .int .i64 0, .string ⟨#[]⟩] [.int .i64 2, .int .i64 (1 + (r3 : Int)), .int .i64 (y4 r4), .string yy] (.tmp 2) (.tmp 22) (by kernel_rfl) (by kernel_rfl) (by kernel_rfl) hcX rfl Try.sizeEn (oneEn _ _ _ _)) trivial ?_)
          obtain ⟨xw16, hxw16⟩ : ∃ V, V = xw13.setCells w.heap.size 0 [.int .i64 2, .int .i64 (1 + (r3 : Int)), .int .i64 (y4 r4), .string yy] := ⟨_, rfl⟩
          rw [← hxw16] at sN
          rw [← hxw16]
          clear hxw16 s14 hcX
          refine wpAnyH_done (by kernel_rfl) ?_ _
          have k0 : xw16.cell? ⟨w.heap.size, 0, none⟩ = some (.int .i64 2) := (sN.R 0 (by simp)).1
          have k1 : xw16.cell? ⟨w.heap.size, 1, none⟩ = some (.int .i64 (1 + (r3 : Int))) := (sN.R 1 (by simp)).1
          have k2 : xw16.cell? ⟨w.heap.size, 2, none⟩ = some (.int .i64 (y4 r4)) := (sN.R 2 (by simp)).1
          have k3 : xw16.cell? ⟨w.heap.size, 3, none⟩ = some (.string yy) := (sN.R 3 (by simp)).1
          have HS := hid (And.intro (sN.rd.mono (show _ ≤ k + 10 by omega)) sN.gr)
          have HY := hid (show RetEn (.returned (.agg #[.int .i64 2, .int .i64 (1 + (r3 : Int)), .int .i64 (y4 r4), .string yy])) 100 from ⟨_, _, _, _, rfl, by omega, by omega, y4_rng hr4, by omega⟩)
          clear sN
          go_wp2
          exact bodyPost_ret (v := .agg #[.int .i64 2, .int .i64 (1 + (r3 : Int)), .int .i64 (y4 r4), .string yy]) (by simp [results, Try.results33, go_sem, k0, k1, k2, k3]) rfl ⟨HY.out, HS.out⟩
      · rintro _ xw17 ⟨⟨r4, hr4, rfl⟩, hrd, hgg⟩
        have s18 := s2.call hrd hgg
        clear hrd hgg s2
        refine ⟨trivial, ?_⟩
        refine hTwo (i := 3) (j := 9) (by kernel_rfl) (hVal (i := 3) (d := some 15) (v := .slice (some ⟨xw17.heap.size, 0, none⟩) 4 4) (w' := xw17.alloc (.cells #[.int .i64 0, .int .i64 1, .int .i64 2, .int .i64 39] 3)) (l' := #[true, true, true, true, true, true, false, false, true, false, false, false]) rfl (by kernel_rfl) (by kernel_rfl) (by kernel_rfl) (run_bsI4 (.const (.int .i64 0)) (.const (.int .i64 1)) (.const (.int .i64 2)) (.const (.int .i64 39)) 0 1 2 39 (by kernel_rfl) (by kernel_rfl) (by kernel_rfl) (by kernel_rfl) (by kernel_rfl)) trivial ?_) (hCall (i := 9) (d := some 21) (f := 51) (args := #[.pointer (some ⟨g, 0, none⟩)]) (l' := #[true, true, true, false, true, true, false, false, true, true, false, false]) (R := fun v w' => (∃ y : ByteArray, v = .string y ∧ y.size = 8) ∧ RD w' g (k + 3 + 1) ∧ xw17.grownBy w' (some g)) rfl (by kernel_rfl) (by kernel_rfl) (by kernel_rfl) (run_cl1 _ _ rfl (by kernel_rfl) rfl enter_l1Bytes) ((l1Bytes_any g (k + 3) xw17 s18.rd (by omega)).mono fun e w' ⟨⟨y, he, hy⟩, h1, h2⟩ => ⟨_, he, ⟨y, rfl, hy⟩, h1, h2⟩) ?_)
        · have s20 := s18.alloc (.cells #[.int .i64 0, .int .i64 1, .int .i64 2, .int .i64 39] 3)
          have hq21 := CF.made xw17 #[.int .i64 0, .int .i64 1, .int .i64 2, .int .i64 39] 3
          have hq21z : xw17.heap.size < (xw17.alloc (.cells #[.int .i64 0, .int .i64 1, .int .i64 2, .int .i64 39] 3)).heap.size := by simp
          have qlo : w.heap.size < xw17.heap.size := by have := s18.z; have := s18.lo; omega
          obtain ⟨qb, hqb⟩ : ∃ q, q = xw17.heap.size := ⟨_, rfl⟩
          rw [← hqb] at hq21 hq21z qlo
          rw [← hqb]
          obtain ⟨xw19, hxw19⟩ : ∃ V, V = xw17.alloc (.cells #[.int .i64 0, .int .i64 1, .int .i64 2, .int .i64 39] 3) := ⟨_, rfl⟩
          rw [← hxw19] at s20 hq21 hq21z
          rw [← hxw19]
          clear hxw19 hqb s18
          refine hTake (i := 6) (d := some 18) (v := .pointer (some ⟨qb, r4, none⟩)) (l' := #[true, true, true, true, true, true, true, false, true, false, false, false]) rfl (by kernel_rfl) (by kernel_rfl) (by kernel_rfl) (by kernel_rfl) (fun _ _ _ h => h) (by kernel_rfl) (fun _ hc => run_ixI (.tmp 15) (.tmp 17) qb 4 4 r4 (by kernel_rfl) (by kernel_rfl) (by kernel_rfl) hr4) trivial (by kernel_rfl) ?_
          refine hTwo (i := 7) (j := 9) (by kernel_rfl) (hVal (i := 7) (d := some 19) (v := .int .i64 (y4 r4)) (w' := xw19) (l' := #[true, true, true, true, true, true, true, true, true, false, false, false]) rfl (by kernel_rfl) (by kernel_rfl) (by kernel_rfl) (run_ldIn (.tmp 18) (by kernel_rfl) (by kernel_rfl) (y4_cell hq21 hr4)) trivial ?_) (hCall (i := 9) (d := some 21) (f := 51) (args := #[.pointer (some ⟨g, 0, none⟩)]) (l' := #[true, true, true, true, true, true, true, false, true, true, false, false]) (R := fun v w' => (∃ y : ByteArray, v = .string y ∧ y.size = 8) ∧ RD w' g (k + 3 + 1) ∧ xw19.grownBy w' (some g)) rfl (by kernel_rfl) (by kernel_rfl) (by kernel_rfl) (run_cl1 _ _ rfl (by kernel_rfl) rfl enter_l1Bytes) ((l1Bytes_any g (k + 3) xw19 s20.rd (by omega)).mono fun e w' ⟨⟨y, he, hy⟩, h1, h2⟩ => ⟨_, he, ⟨y, rfl, hy⟩, h1, h2⟩) ?_)
          · refine hOne (by kernel_rfl) (hCall (i := 9) (d := some 21) (f := 51) (args := #[.pointer (some ⟨g, 0, none⟩)]) (l' := #[true, true, true, true, true, true, true, true, true, true, false, false]) (R := fun v w' => (∃ y : ByteArray, v = .string y ∧ y.size = 8) ∧ RD w' g (k + 3 + 1) ∧ xw19.grownBy w' (some g)) rfl (by kernel_rfl) (by kernel_rfl) (by kernel_rfl) (run_cl1 _ _ rfl (by kernel_rfl) rfl enter_l1Bytes) ((l1Bytes_any g (k + 3) xw19 s20.rd (by omega)).mono fun e w' ⟨⟨y, he, hy⟩, h1, h2⟩ => ⟨_, he, ⟨y, rfl, hy⟩, h1, h2⟩) ?_)
            rintro _ xw22 ⟨⟨yy, rfl, hyy⟩, hrd, hgg⟩
            have s23 := s20.call hrd hgg
            have hq24 := hq21.block (hgg.block qb (by have := hq21z; omega) (by simp; have := s20.gl; have := qlo; omega))
            have hq24z : qb < xw22.heap.size := by have := hgg.size; have := hq21z; omega
            clear hrd hgg s20 hq21 hq21z
            refine ⟨trivial, ?_⟩
            refine hTake (i := 10) (d := some 22) (v := .agg #[.int .i64 2, .int .i64 (1 + (r3 : Int)), .int .i64 (y4 r4), .string yy]) (l' := #[true, true, true, true, true, true, true, true, true, true, true, false]) rfl (by kernel_rfl) (by kernel_rfl) (by kernel_rfl) (by kernel_rfl) (fun _ _ _ h => h) (by kernel_rfl) (fun _ hc => run_bEn (.const (.int .i64 2)) (.tmp 14) (.tmp 19) (.tmp 21) 2 (1 + (r3 : Int)) (y4 r4) yy (by kernel_rfl) (by kernel_rfl) (by kernel_rfl) (by kernel_rfl) (by kernel_rfl)) trivial (by kernel_rfl) ?_
            have hcX := s23.R
            have sN := s23.put (vs := [.int .i64 2, .int .i64 (1 + (r3 : Int)), .int .i64 (y4 r4), .string yy]) rfl
            refine hOne (by kernel_rfl) (hSkip (i := 11) (w' := xw22.setCells w.heap.size 0 [.int .i64 2, .int .i64 (1 + (r3 : Int)), .int .i64 (y4 r4), .string yy]) (l' := #[true, true, true, true, true, true, true, true, true, true, true, true]) rfl (by kernel_rfl) (by kernel_rfl) (by kernel_rfl) (run_stT 36 [.int .i64 0, .int .i64 0, .int .i64 0, .string ⟨#[]⟩] [.int .i64 2, .int .i64 (1 + (r3 : Int)), .int .i64 (y4 r4), .string yy] (.tmp 2) (.tmp 22) (by kernel_rfl) (by kernel_rfl) (by kernel_rfl) hcX rfl Try.sizeEn (oneEn _ _ _ _)) trivial ?_)
            obtain ⟨xw25, hxw25⟩ : ∃ V, V = xw22.setCells w.heap.size 0 [.int .i64 2, .int .i64 (1 + (r3 : Int)), .int .i64 (y4 r4), .string yy] := ⟨_, rfl⟩
            rw [← hxw25] at sN
            rw [← hxw25]
            clear hxw25 s23 hcX
            refine wpAnyH_done (by kernel_rfl) ?_ _
            have k0 : xw25.cell? ⟨w.heap.size, 0, none⟩ = some (.int .i64 2) := (sN.R 0 (by simp)).1
            have k1 : xw25.cell? ⟨w.heap.size, 1, none⟩ = some (.int .i64 (1 + (r3 : Int))) := (sN.R 1 (by simp)).1
            have k2 : xw25.cell? ⟨w.heap.size, 2, none⟩ = some (.int .i64 (y4 r4)) := (sN.R 2 (by simp)).1
            have k3 : xw25.cell? ⟨w.heap.size, 3, none⟩ = some (.string yy) := (sN.R 3 (by simp)).1
            have HS := hid (And.intro (sN.rd.mono (show _ ≤ k + 10 by omega)) sN.gr)
            have HY := hid (show RetEn (.returned (.agg #[.int .i64 2, .int .i64 (1 + (r3 : Int)), .int .i64 (y4 r4), .string yy])) 100 from ⟨_, _, _, _, rfl, by omega, by omega, y4_rng hr4, by omega⟩)
            clear sN
            go_wp2
            exact bodyPost_ret (v := .agg #[.int .i64 2, .int .i64 (1 + (r3 : Int)), .int .i64 (y4 r4), .string yy]) (by simp [results, Try.results33, go_sem, k0, k1, k2, k3]) rfl ⟨HY.out, HS.out⟩
          · rintro _ xw26 ⟨⟨yy, rfl, hyy⟩, hrd, hgg⟩
            have s27 := s20.call hrd hgg
            have hq28 := hq21.block (hgg.block qb (by have := hq21z; omega) (by simp; have := s20.gl; have := qlo; omega))
            have hq28z : qb < xw26.heap.size := by have := hgg.size; have := hq21z; omega
            clear hrd hgg s20 hq21 hq21z
            refine ⟨trivial, ?_⟩
            refine hOne (by kernel_rfl) (hVal (i := 7) (d := some 19) (v := .int .i64 (y4 r4)) (w' := xw26) (l' := #[true, true, true, true, true, true, true, true, true, true, false, false]) rfl (by kernel_rfl) (by kernel_rfl) (by kernel_rfl) (run_ldIn (.tmp 18) (by kernel_rfl) (by kernel_rfl) (y4_cell hq28 hr4)) trivial ?_)
            refine hTake (i := 10) (d := some 22) (v := .agg #[.int .i64 2, .int .i64 (1 + (r3 : Int)), .int .i64 (y4 r4), .string yy]) (l' := #[true, true, true, true, true, true, true, true, true, true, true, false]) rfl (by kernel_rfl) (by kernel_rfl) (by kernel_rfl) (by kernel_rfl) (fun _ _ _ h => h) (by kernel_rfl) (fun _ hc => run_bEn (.const (.int .i64 2)) (.tmp 14) (.tmp 19) (.tmp 21) 2 (1 + (r3 : Int)) (y4 r4) yy (by kernel_rfl) (by kernel_rfl) (by kernel_rfl) (by kernel_rfl) (by kernel_rfl)) trivial (by kernel_rfl) ?_
            have hcX := s27.R
            have sN := s27.put (vs := [.int .i64 2, .int .i64 (1 + (r3 : Int)), .int .i64 (y4 r4), .string yy]) rfl
            refine hOne (by kernel_rfl) (hSkip (i := 11) (w' := xw26.setCells w.heap.size 0 [.int .i64 2, .int .i64 (1 + (r3 : Int)), .int .i64 (y4 r4), .string yy]) (l' := #[true, true, true, true, true, true, true, true, true, true, true, true]) rfl (by kernel_rfl) (by kernel_rfl) (by kernel_rfl) (run_stT 36 [.int .i64 0, .int .i64 0, .int .i64 0, .string ⟨#[]⟩] [.int .i64 2, .int .i64 (1 + (r3 : Int)), .int .i64 (y4 r4), .string yy] (.tmp 2) (.tmp 22) (by kernel_rfl) (by kernel_rfl) (by kernel_rfl) hcX rfl Try.sizeEn (oneEn _ _ _ _)) trivial ?_)
            obtain ⟨xw29, hxw29⟩ : ∃ V, V = xw26.setCells w.heap.size 0 [.int .i64 2, .int .i64 (1 + (r3 : Int)), .int .i64 (y4 r4), .string yy] := ⟨_, rfl⟩
            rw [← hxw29] at sN
            rw [← hxw29]
            clear hxw29 s27 hcX
            refine wpAnyH_done (by kernel_rfl) ?_ _
            have k0 : xw29.cell? ⟨w.heap.size, 0, none⟩ = some (.int .i64 2) := (sN.R 0 (by simp)).1
            have k1 : xw29.cell? ⟨w.heap.size, 1, none⟩ = some (.int .i64 (1 + (r3 : Int))) := (sN.R 1 (by simp)).1
            have k2 : xw29.cell? ⟨w.heap.size, 2, none⟩ = some (.int .i64 (y4 r4)) := (sN.R 2 (by simp)).1
            have k3 : xw29.cell? ⟨w.heap.size, 3, none⟩ = some (.string yy) := (sN.R 3 (by simp)).1
            have HS := hid (And.intro (sN.rd.mono (show _ ≤ k + 10 by omega)) sN.gr)
            have HY := hid (show RetEn (.returned (.agg #[.int .i64 2, .int .i64 (1 + (r3 : Int)), .int .i64 (y4 r4), .string yy])) 100 from ⟨_, _, _, _, rfl, by omega, by omega, y4_rng hr4, by omega⟩)
            clear sN
            go_wp2
            exact bodyPost_ret (v := .agg #[.int .i64 2, .int .i64 (1 + (r3 : Int)), .int .i64 (y4 r4), .string yy]) (by simp [results, Try.results33, go_sem, k0, k1, k2, k3]) rfl ⟨HY.out, HS.out⟩
        · rintro _ xw30 ⟨⟨yy, rfl, hyy⟩, hrd, hgg⟩
          have s31 := s18.call hrd hgg
          clear hrd hgg s18
          refine ⟨trivial, ?_⟩
          refine hOne (by kernel_rfl) (hVal (i := 3) (d := some 15) (v := .slice (some ⟨xw30.heap.size, 0, none⟩) 4 4) (w' := xw30.alloc (.cells #[.int .i64 0, .int .i64 1, .int .i64 2, .int .i64 39] 3)) (l' := #[true, true, true, true, true, true, false, false, true, true, false, false]) rfl (by kernel_rfl) (by kernel_rfl) (by kernel_rfl) (run_bsI4 (.const (.int .i64 0)) (.const (.int .i64 1)) (.const (.int .i64 2)) (.const (.int .i64 39)) 0 1 2 39 (by kernel_rfl) (by kernel_rfl) (by kernel_rfl) (by kernel_rfl) (by kernel_rfl)) trivial ?_)
          have s33 := s31.alloc (.cells #[.int .i64 0, .int .i64 1, .int .i64 2, .int .i64 39] 3)
          have hq34 := CF.made xw30 #[.int .i64 0, .int .i64 1, .int .i64 2, .int .i64 39] 3
          have hq34z : xw30.heap.size < (xw30.alloc (.cells #[.int .i64 0, .int .i64 1, .int .i64 2, .int .i64 39] 3)).heap.size := by simp
          have qlo : w.heap.size < xw30.heap.size := by have := s31.z; have := s31.lo; omega
          obtain ⟨qb, hqb⟩ : ∃ q, q = xw30.heap.size := ⟨_, rfl⟩
          rw [← hqb] at hq34 hq34z qlo
          rw [← hqb]
          obtain ⟨xw32, hxw32⟩ : ∃ V, V = xw30.alloc (.cells #[.int .i64 0, .int .i64 1, .int .i64 2, .int .i64 39] 3) := ⟨_, rfl⟩
          rw [← hxw32] at s33 hq34 hq34z
          rw [← hxw32]
          clear hxw32 hqb s31
          refine hTake (i := 6) (d := some 18) (v := .pointer (some ⟨qb, r4, none⟩)) (l' := #[true, true, true, true, true, true, true, false, true, true, false, false]) rfl (by kernel_rfl) (by kernel_rfl) (by kernel_rfl) (by kernel_rfl) (fun _ _ _ h => h) (by kernel_rfl) (fun _ hc => run_ixI (.tmp 15) (.tmp 17) qb 4 4 r4 (by kernel_rfl) (by kernel_rfl) (by kernel_rfl) hr4) trivial (by kernel_rfl) ?_
          refine hOne (by kernel_rfl) (hVal (i := 7) (d := some 19) (v := .int .i64 (y4 r4)) (w' := xw32) (l' := #[true, true, true, true, true, true, true, true, true, true, false, false]) rfl (by kernel_rfl) (by kernel_rfl) (by kernel_rfl) (run_ldIn (.tmp 18) (by kernel_rfl) (by kernel_rfl) (y4_cell hq34 hr4)) trivial ?_)
          refine hTake (i := 10) (d := some 22) (v := .agg #[.int .i64 2, .int .i64 (1 + (r3 : Int)), .int .i64 (y4 r4), .string yy]) (l' := #[true, true, true, true, true, true, true, true, true, true, true, false]) rfl (by kernel_rfl) (by kernel_rfl) (by kernel_rfl) (by kernel_rfl) (fun _ _ _ h => h) (by kernel_rfl) (fun _ hc => run_bEn (.const (.int .i64 2)) (.tmp 14) (.tmp 19) (.tmp 21) 2 (1 + (r3 : Int)) (y4 r4) yy (by kernel_rfl) (by kernel_rfl) (by kernel_rfl) (by kernel_rfl) (by kernel_rfl)) trivial (by kernel_rfl) ?_
          have hcX := s33.R
          have sN := s33.put (vs := [.int .i64 2, .int .i64 (1 + (r3 : Int)), .int .i64 (y4 r4), .string yy]) rfl
          refine hOne (by kernel_rfl) (hSkip (i := 11) (w' := xw32.setCells w.heap.size 0 [.int .i64 2, .int .i64 (1 + (r3 : Int)), .int .i64 (y4 r4), .string yy]) (l' := #[true, true, true, true, true, true, true, true, true, true, true, true]) rfl (by kernel_rfl) (by kernel_rfl) (by kernel_rfl) (run_stT 36 [.int .i64 0, .int .i64 0, .int .i64 0, .string ⟨#[]⟩] [.int .i64 2, .int .i64 (1 + (r3 : Int)), .int .i64 (y4 r4), .string yy] (.tmp 2) (.tmp 22) (by kernel_rfl) (by kernel_rfl) (by kernel_rfl) hcX rfl Try.sizeEn (oneEn _ _ _ _)) trivial ?_)
          obtain ⟨xw35, hxw35⟩ : ∃ V, V = xw32.setCells w.heap.size 0 [.int .i64 2, .int .i64 (1 + (r3 : Int)), .int .i64 (y4 r4), .string yy] := ⟨_, rfl⟩
          rw [← hxw35] at sN
          rw [← hxw35]
          clear hxw35 s33 hcX
          refine wpAnyH_done (by kernel_rfl) ?_ _
          have k0 : xw35.cell? ⟨w.heap.size, 0, none⟩ = some (.int .i64 2) := (sN.R 0 (by simp)).1
          have k1 : xw35.cell? ⟨w.heap.size, 1, none⟩ = some (.int .i64 (1 + (r3 : Int))) := (sN.R 1 (by simp)).1
          have k2 : xw35.cell? ⟨w.heap.size, 2, none⟩ = some (.int .i64 (y4 r4)) := (sN.R 2 (by simp)).1
          have k3 : xw35.cell? ⟨w.heap.size, 3, none⟩ = some (.string yy) := (sN.R 3 (by simp)).1
          have HS := hid (And.intro (sN.rd.mono (show _ ≤ k + 10 by omega)) sN.gr)
          have HY := hid (show RetEn (.returned (.agg #[.int .i64 2, .int .i64 (1 + (r3 : Int)), .int .i64 (y4 r4), .string yy])) 100 from ⟨_, _, _, _, rfl, by omega, by omega, y4_rng hr4, by omega⟩)
          clear sN
          go_wp2
          exact bodyPost_ret (v := .agg #[.int .i64 2, .int .i64 (1 + (r3 : Int)), .int .i64 (y4 r4), .string yy]) (by simp [results, Try.results33, go_sem, k0, k1, k2, k3]) rfl ⟨HY.out, HS.out⟩
    · have s37 := s0.alloc (.cells #[.int .i64 0, .int .i64 1, .int .i64 2, .int .i64 39] 3)
      have hq38 := CF.made x0 #[.int .i64 0, .int .i64 1, .int .i64 2, .int .i64 39] 3
      have hq38z : x0.heap.size < (x0.alloc (.cells #[.int .i64 0, .int .i64 1, .int .i64 2, .int .i64 39] 3)).heap.size := by simp
      have qlo : w.heap.size < x0.heap.size := by have := s0.z; have := s0.lo; omega
      obtain ⟨qb, hqb⟩ : ∃ q, q = x0.heap.size := ⟨_, rfl⟩
      rw [← hqb] at hq38 hq38z qlo
      rw [← hqb]
      obtain ⟨xw36, hxw36⟩ : ∃ V, V = x0.alloc (.cells #[.int .i64 0, .int .i64 1, .int .i64 2, .int .i64 39] 3) := ⟨_, rfl⟩
      rw [← hxw36] at s37 hq38 hq38z
      rw [← hxw36]
      clear hxw36 hqb s0
      refine hOne (by kernel_rfl) (hCall (i := 1) (d := some 13) (f := 23) (args := #[.pointer (some ⟨g, 0, none⟩), .int .i64 3]) (l' := #[true, true, false, true, true, false, false, false, true, false, false, false]) (R := fun v w' => (∃ r : Nat, r < 3 ∧ v = .int .i64 r) ∧ RD w' g (k + 1 + 1) ∧ xw36.grownBy w' (some g)) rfl (by kernel_rfl) (by kernel_rfl) (by kernel_rfl) (run_cl2 _ _ _ rfl (by kernel_rfl) (by kernel_rfl) rfl enter_pick) ((pick_any g 3 (k + 1) xw36 s37.rd (by omega) (by omega) (by omega)).mono fun e w' ⟨⟨r, hr, he⟩, h1, h2⟩ => ⟨_, he, ⟨r, hr, rfl⟩, h1, h2⟩) ?_)
      rintro _ xw39 ⟨⟨r3, hr3, rfl⟩, hrd, hgg⟩
      have s40 := s37.call hrd hgg
      have hq41 := hq38.block (hgg.block qb (by have := hq38z; omega) (by simp; have := s37.gl; have := qlo; omega))
      have hq41z : qb < xw39.heap.size := by have := hgg.size; have := hq38z; omega
      clear hrd hgg s37 hq38 hq38z
      refine ⟨trivial, ?_⟩
      refine hTake (i := 2) (d := some 14) (v := .int .i64 (1 + (r3 : Int))) (l' := #[true, true, true, true, true, false, false, false, true, false, false, false]) rfl (by kernel_rfl) (by kernel_rfl) (by kernel_rfl) (by kernel_rfl) (fun _ _ _ h => h) (by kernel_rfl) (fun _ hc => run_addII (.const (.int .i64 1)) (.tmp 13) 1 (r3 : Int) (by kernel_rfl) (by kernel_rfl) (by kernel_rfl) (by omega)) trivial (by kernel_rfl) ?_
      refine hOne (by kernel_rfl) (hCall (i := 5) (d := some 17) (f := 23) (args := #[.pointer (some ⟨g, 0, none⟩), .int .i64 4]) (l' := #[true, true, true, true, true, true, false, false, true, false, false, false]) (R := fun v w' => (∃ r : Nat, r < 4 ∧ v = .int .i64 r) ∧ RD w' g (k + 2 + 1) ∧ xw39.grownBy w' (some g)) rfl (by kernel_rfl) (by kernel_rfl) (by kernel_rfl) (run_cl2 _ _ _ rfl (by kernel_rfl) (by kernel_rfl) rfl enter_pick) ((pick_any g 4 (k + 2) xw39 s40.rd (by omega) (by omega) (by omega)).mono fun e w' ⟨⟨r, hr, he⟩, h1, h2⟩ => ⟨_, he, ⟨r, hr, rfl⟩, h1, h2⟩) ?_)
      rintro _ xw42 ⟨⟨r4, hr4, rfl⟩, hrd, hgg⟩
      have s43 := s40.call hrd hgg
      have hq44 := hq41.block (hgg.block qb (by have := hq41z; omega) (by simp; have := s40.gl; have := qlo; omega))
      have hq44z : qb < xw42.heap.size := by have := hgg.size; have := hq41z; omega
      clear hrd hgg s40 hq41 hq41z
      refine ⟨trivial, ?_⟩
      refine hTake (i := 6) (d := some 18) (v := .pointer (some ⟨qb, r4, none⟩)) (l' := #[true, true, true, true, true, true, true, false, true, false, false, false]) rfl (by kernel_rfl) (by kernel_rfl) (by kernel_rfl) (by kernel_rfl) (fun _ _ _ h => h) (by kernel_rfl) (fun _ hc => run_ixI (.tmp 15) (.tmp 17) qb 4 4 r4 (by kernel_rfl) (by kernel_rfl) (by kernel_rfl) hr4) trivial (by kernel_rfl) ?_
      refine hTwo (i := 7) (j := 9) (by kernel_rfl) (hVal (i := 7) (d := some 19) (v := .int .i64 (y4 r4)) (w' := xw42) (l' := #[true, true, true, true, true, true, true, true, true, false, false, false]) rfl (by kernel_rfl) (by kernel_rfl) (by kernel_rfl) (run_ldIn (.tmp 18) (by kernel_rfl) (by kernel_rfl) (y4_cell hq44 hr4)) trivial ?_) (hCall (i := 9) (d := some 21) (f := 51) (args := #[.pointer (some ⟨g, 0, none⟩)]) (l' := #[true, true, true, true, true, true, true, false, true, true, false, false]) (R := fun v w' => (∃ y : ByteArray, v = .string y ∧ y.size = 8) ∧ RD w' g (k + 3 + 1) ∧ xw42.grownBy w' (some g)) rfl (by kernel_rfl) (by kernel_rfl) (by kernel_rfl) (run_cl1 _ _ rfl (by kernel_rfl) rfl enter_l1Bytes) ((l1Bytes_any g (k + 3) xw42 s43.rd (by omega)).mono fun e w' ⟨⟨y, he, hy⟩, h1, h2⟩ => ⟨_, he, ⟨y, rfl, hy⟩, h1, h2⟩) ?_)
      · refine hOne (by kernel_rfl) (hCall (i := 9) (d := some 21) (f := 51) (args := #[.pointer (some ⟨g, 0, none⟩)]) (l' := #[true, true, true, true, true, true, true, true, true, true, false, false]) (R := fun v w' => (∃ y : ByteArray, v = .string y ∧ y.size = 8) ∧ RD w' g (k + 3 + 1) ∧ xw42.grownBy w' (some g)) rfl (by kernel_rfl) (by kernel_rfl) (by kernel_rfl) (run_cl1 _ _ rfl (by kernel_rfl) rfl enter_l1Bytes) ((l1Bytes_any g (k + 3) xw42 s43.rd (by omega)).mono fun e w' ⟨⟨y, he, hy⟩, h1, h2⟩ => ⟨_, he, ⟨y, rfl, hy⟩, h1, h2⟩) ?_)
        rintro _ xw45 ⟨⟨yy, rfl, hyy⟩, hrd, hgg⟩
        have s46 := s43.call hrd hgg
        have hq47 := hq44.block (hgg.block qb (by have := hq44z; omega) (by simp; have := s43.gl; have := qlo; omega))
        have hq47z : qb < xw45.heap.size := by have := hgg.size; have := hq44z; omega
        clear hrd hgg s43 hq44 hq44z
        refine ⟨trivial, ?_⟩
        refine hTake (i := 10) (d := some 22) (v := .agg #[.int .i64 2, .int .i64 (1 + (r3 : Int)), .int .i64 (y4 r4), .string yy]) (l' := #[true, true, true, true, true, true, true, true, true, true, true, false]) rfl (by kernel_rfl) (by kernel_rfl) (by kernel_rfl) (by kernel_rfl) (fun _ _ _ h => h) (by kernel_rfl) (fun _ hc => run_bEn (.const (.int .i64 2)) (.tmp 14) (.tmp 19) (.tmp 21) 2 (1 + (r3 : Int)) (y4 r4) yy (by kernel_rfl) (by kernel_rfl) (by kernel_rfl) (by kernel_rfl) (by kernel_rfl)) trivial (by kernel_rfl) ?_
        have hcX := s46.R
        have sN := s46.put (vs := [.int .i64 2, .int .i64 (1 + (r3 : Int)), .int .i64 (y4 r4), .string yy]) rfl
        refine hOne (by kernel_rfl) (hSkip (i := 11) (w' := xw45.setCells w.heap.size 0 [.int .i64 2, .int .i64 (1 + (r3 : Int)), .int .i64 (y4 r4), .string yy]) (l' := #[true, true, true, true, true, true, true, true, true, true, true, true]) rfl (by kernel_rfl) (by kernel_rfl) (by kernel_rfl) (run_stT 36 [.int .i64 0, .int .i64 0, .int .i64 0, .string ⟨#[]⟩] [.int .i64 2, .int .i64 (1 + (r3 : Int)), .int .i64 (y4 r4), .string yy] (.tmp 2) (.tmp 22) (by kernel_rfl) (by kernel_rfl) (by kernel_rfl) hcX rfl Try.sizeEn (oneEn _ _ _ _)) trivial ?_)
        obtain ⟨xw48, hxw48⟩ : ∃ V, V = xw45.setCells w.heap.size 0 [.int .i64 2, .int .i64 (1 + (r3 : Int)), .int .i64 (y4 r4), .string yy] := ⟨_, rfl⟩
        rw [← hxw48] at sN
        rw [← hxw48]
        clear hxw48 s46 hcX
        refine wpAnyH_done (by kernel_rfl) ?_ _
        have k0 : xw48.cell? ⟨w.heap.size, 0, none⟩ = some (.int .i64 2) := (sN.R 0 (by simp)).1
        have k1 : xw48.cell? ⟨w.heap.size, 1, none⟩ = some (.int .i64 (1 + (r3 : Int))) := (sN.R 1 (by simp)).1
        have k2 : xw48.cell? ⟨w.heap.size, 2, none⟩ = some (.int .i64 (y4 r4)) := (sN.R 2 (by simp)).1
        have k3 : xw48.cell? ⟨w.heap.size, 3, none⟩ = some (.string yy) := (sN.R 3 (by simp)).1
        have HS := hid (And.intro (sN.rd.mono (show _ ≤ k + 10 by omega)) sN.gr)
        have HY := hid (show RetEn (.returned (.agg #[.int .i64 2, .int .i64 (1 + (r3 : Int)), .int .i64 (y4 r4), .string yy])) 100 from ⟨_, _, _, _, rfl, by omega, by omega, y4_rng hr4, by omega⟩)
        clear sN
        go_wp2
        exact bodyPost_ret (v := .agg #[.int .i64 2, .int .i64 (1 + (r3 : Int)), .int .i64 (y4 r4), .string yy]) (by simp [results, Try.results33, go_sem, k0, k1, k2, k3]) rfl ⟨HY.out, HS.out⟩
      · rintro _ xw49 ⟨⟨yy, rfl, hyy⟩, hrd, hgg⟩
        have s50 := s43.call hrd hgg
        have hq51 := hq44.block (hgg.block qb (by have := hq44z; omega) (by simp; have := s43.gl; have := qlo; omega))
        have hq51z : qb < xw49.heap.size := by have := hgg.size; have := hq44z; omega
        clear hrd hgg s43 hq44 hq44z
        refine ⟨trivial, ?_⟩
        refine hOne (by kernel_rfl) (hVal (i := 7) (d := some 19) (v := .int .i64 (y4 r4)) (w' := xw49) (l' := #[true, true, true, true, true, true, true, true, true, true, false, false]) rfl (by kernel_rfl) (by kernel_rfl) (by kernel_rfl) (run_ldIn (.tmp 18) (by kernel_rfl) (by kernel_rfl) (y4_cell hq51 hr4)) trivial ?_)
        refine hTake (i := 10) (d := some 22) (v := .agg #[.int .i64 2, .int .i64 (1 + (r3 : Int)), .int .i64 (y4 r4), .string yy]) (l' := #[true, true, true, true, true, true, true, true, true, true, true, false]) rfl (by kernel_rfl) (by kernel_rfl) (by kernel_rfl) (by kernel_rfl) (fun _ _ _ h => h) (by kernel_rfl) (fun _ hc => run_bEn (.const (.int .i64 2)) (.tmp 14) (.tmp 19) (.tmp 21) 2 (1 + (r3 : Int)) (y4 r4) yy (by kernel_rfl) (by kernel_rfl) (by kernel_rfl) (by kernel_rfl) (by kernel_rfl)) trivial (by kernel_rfl) ?_
        have hcX := s50.R
        have sN := s50.put (vs := [.int .i64 2, .int .i64 (1 + (r3 : Int)), .int .i64 (y4 r4), .string yy]) rfl
        refine hOne (by kernel_rfl) (hSkip (i := 11) (w' := xw49.setCells w.heap.size 0 [.int .i64 2, .int .i64 (1 + (r3 : Int)), .int .i64 (y4 r4), .string yy]) (l' := #[true, true, true, true, true, true, true, true, true, true, true, true]) rfl (by kernel_rfl) (by kernel_rfl) (by kernel_rfl) (run_stT 36 [.int .i64 0, .int .i64 0, .int .i64 0, .string ⟨#[]⟩] [.int .i64 2, .int .i64 (1 + (r3 : Int)), .int .i64 (y4 r4), .string yy] (.tmp 2) (.tmp 22) (by kernel_rfl) (by kernel_rfl) (by kernel_rfl) hcX rfl Try.sizeEn (oneEn _ _ _ _)) trivial ?_)
        obtain ⟨xw52, hxw52⟩ : ∃ V, V = xw49.setCells w.heap.size 0 [.int .i64 2, .int .i64 (1 + (r3 : Int)), .int .i64 (y4 r4), .string yy] := ⟨_, rfl⟩
        rw [← hxw52] at sN
        rw [← hxw52]
        clear hxw52 s50 hcX
        refine wpAnyH_done (by kernel_rfl) ?_ _
        have k0 : xw52.cell? ⟨w.heap.size, 0, none⟩ = some (.int .i64 2) := (sN.R 0 (by simp)).1
        have k1 : xw52.cell? ⟨w.heap.size, 1, none⟩ = some (.int .i64 (1 + (r3 : Int))) := (sN.R 1 (by simp)).1
        have k2 : xw52.cell? ⟨w.heap.size, 2, none⟩ = some (.int .i64 (y4 r4)) := (sN.R 2 (by simp)).1
        have k3 : xw52.cell? ⟨w.heap.size, 3, none⟩ = some (.string yy) := (sN.R 3 (by simp)).1
        have HS := hid (And.intro (sN.rd.mono (show _ ≤ k + 10 by omega)) sN.gr)
        have HY := hid (show RetEn (.returned (.agg #[.int .i64 2, .int .i64 (1 + (r3 : Int)), .int .i64 (y4 r4), .string yy])) 100 from ⟨_, _, _, _, rfl, by omega, by omega, y4_rng hr4, by omega⟩)
        clear sN
        go_wp2
        exact bodyPost_ret (v := .agg #[.int .i64 2, .int .i64 (1 + (r3 : Int)), .int .i64 (y4 r4), .string yy]) (by simp [results, Try.results33, go_sem, k0, k1, k2, k3]) rfl ⟨HY.out, HS.out⟩

/-- Amid DrawFormEntry: the answer's box X, the entry's box Q. -/
structure DF (w : World) (X Q g : Nat) (cs : List Value) (k : Nat) (wr : World) : Prop where
  A : CF wr X [.int .i64 0, .int .i64 0, .int .i64 0, .string ⟨#[]⟩]
  E : CF wr Q cs
  rd : RD wr g k
  B : Below w.heap.size w wr
  o : w.heap.size ≤ X ∧ X < g ∧ g < Q ∧ Q < wr.heap.size
section
variable {w wr w' : World} {g X Q k k' : Nat} {cs : List Value}
theorem DF.call (h : DF w X Q g cs k wr) (hr : RD w' g k') (hg : wr.grownBy w' (some g)) : DF w X Q g cs k' w' :=
  have ho := h.o
  ⟨h.A.block (hg.block _ (by omega) (by simp; omega)), h.E.block (hg.block _ (by omega) (by simp; omega)), hr, below_grown h.B hg h.B.size (fun q hq => by injection hq with hq; omega), ⟨ho.1, ho.2.1, ho.2.2.1, Nat.lt_of_lt_of_le ho.2.2.2 hg.size⟩⟩
theorem DF.alloc (h : DF w X Q g cs k wr) (ob : Obj) : DF w X Q g cs k (wr.alloc ob) :=
  have ho := h.o
  have hb : Below wr.heap.size wr (wr.alloc ob) := (Below.refl _ _).alloc (Nat.le_refl _) _
  ⟨h.A.block (hb.block _ (by omega)), h.E.block (hb.block _ (by omega)), h.rd.below hb, h.B.trans (hb.mono h.B.size), ⟨ho.1, ho.2.1, ho.2.2.1, Nat.lt_of_lt_of_le ho.2.2.2 hb.size⟩⟩
theorem DF.store (h : DF w X Q g cs k wr) {j : Nat} (hj : j < cs.length) (u : Value) : DF w X Q g (cs.set j u) k (wr.setCell ⟨Q, j, none⟩ u) :=
  have ho := h.o
  have gs := gset (World.grownBy.refl wr (some Q)) j u
  ⟨h.A.block (gs.block _ (by omega) (by simp; omega)), h.E.set hj u, h.rd.set (by dsimp only; omega) u, below_grown h.B gs h.B.size (fun q hq => by injection hq with hq; omega), ⟨ho.1, ho.2.1, ho.2.2.1, Nat.lt_of_lt_of_le ho.2.2.2 gs.size⟩⟩
end

set_option maxHeartbeats 4000000 in
set_option maxRecDepth 100000 in
theorem drawFormEntry_any (ad : Option Addr) (b o n cc : Nat) (w : World) (h : BytesAt w ad b o n) (hb : 0 < n → b < w.heap.size) (hcc : n ≤ cc) (hn : n ≤ 1048576) :
    Calls Try.prog 11 #[.slice ad n cc] w fun e' w' => RetEn e' 110 ∧ Below w.heap.size w w' := by
  obtain ⟨W, hW⟩ : ∃ W, W = w.alloc (.cells #[.int .i64 0, .int .i64 0, .int .i64 0, .string ⟨#[]⟩] 36) := ⟨_, rfl⟩
  have hBW : Below w.heap.size w W := by rw [hW]; exact (Below.refl _ _).alloc (Nat.le_refl _) _
  have hR : CF W w.heap.size [.int .i64 0, .int .i64 0, .int .i64 0, .string ⟨#[]⟩] := by rw [hW]; exact CF.made w #[.int .i64 0, .int .i64 0, .int .i64 0, .string ⟨#[]⟩] 36
  have hz : W.heap.size = w.heap.size + 1 := by rw [hW]; simp
  have hWb : BytesAt W ad b o n := ⟨h.1, fun j hj => by
    obtain ⟨v, hv, hc⟩ := h.2 j hj
    exact ⟨v, hv, keepB hBW hc⟩⟩
  have HW := hid hW
  clear hW h
  go_enter Try.func11, Try.ntmps11
  go_wp2_with fail
  rw [← HW.out]
  clear HW
  refine (l1Open_any ad b o n cc _ hWb (fun h0 => by have := hb h0; omega) hcc hn).mono ?_
  rintro e w1 ⟨rfl, hrd1, hb1⟩
  obtain ⟨g, hg⟩ : ∃ g, g = W.heap.size := ⟨_, rfl⟩
  rw [← hg] at hrd1
  rw [← hg]
  have hR1 := hR.block (hb1.block _ (by omega))
  have hB1 := hBW.trans (hb1.mono hBW.size)
  have hgl : w.heap.size < g := by omega
  clear hb1 hBW hR hWb hg hz
  go_wp2_with fail
  refine (l4Draw_any g 0 _ hrd1 (by omega)).mono ?_
  rintro e w2 ⟨⟨kk, ee, dd, x, rfl, hkk, hee, hdd, hx⟩, hrd2, hg2⟩
  have hz1 := hrd1.lt
  have hz2 := hg2.size
  obtain ⟨W2, hW2⟩ : ∃ V, V = w2.alloc (.cells #[.int .i64 kk, .int .i64 ee, .int .i64 dd, .string x] 36) := ⟨_, rfl⟩
  have S2 : DF w w.heap.size w2.heap.size g [.int .i64 kk, .int .i64 ee, .int .i64 dd, .string x] 10 W2 := by
    have hB2 := below_grown hB1 hg2 hB1.size (fun q hq => by injection hq with hq; omega)
    have ba : Below w2.heap.size w2 W2 := by rw [hW2]; exact (Below.refl _ _).alloc (Nat.le_refl _) _
    refine ⟨(hR1.block (hg2.block _ (by omega) (by simp; omega))).block (ba.block _ (by omega)), by rw [hW2]; exact CF.made w2 #[.int .i64 kk, .int .i64 ee, .int .i64 dd, .string x] 36, hrd2.below ba, hB2.trans (ba.mono hB2.size), Nat.le_refl _, hgl, by omega, by rw [hW2]; simp⟩
  obtain ⟨Q, hQ⟩ : ∃ q, q = w2.heap.size := ⟨_, rfl⟩
  rw [← hQ] at S2
  have HW2 := hid hW2
  have HQ := hid hQ
  clear hW2 hQ hrd1 hrd2 hg2 hR1 hB1 hz1 hz2
  go_upto_region 3 with fail
  rw [← HW2.out, ← HQ.out]
  clear HW2 HQ
  go_wp2_with fail
  refine (pick_any g 3 10 _ S2.rd (by omega) (by omega) (by omega)).mono ?_
  rintro e w3 ⟨⟨r3, hr3, rfl⟩, hrd3, hg3⟩
  have S3 := S2.call hrd3 hg3
  clear hrd3 hg3 S2
  by_cases h3 : r3 = 0
  · subst h3
    go_wp2_with fail
    refine (pick_any g 4 11 _ S3.rd (by omega) (by omega) (by omega)).mono ?_
    rintro e w4 ⟨⟨r4, hr4, rfl⟩, hrd4, hg4⟩
    have S4 := S3.call hrd4 hg4
    clear hrd4 hg4 S3
    rcases (show r4 = 0 ∨ r4 = 1 ∨ r4 = 2 ∨ r4 = 3 by omega) with rfl | rfl | rfl | rfl
    · go_wp2_with fail
      refine (pick_any g 5 12 _ S4.rd (by omega) (by omega) (by omega)).mono ?_
      rintro e w5 ⟨⟨r5, hr5, rfl⟩, hrd5, hg5⟩
      have S5 := S4.call hrd5 hg5
      clear hrd5 hg5 S4
      have z0 : w5.cell? ⟨Q, 0, none⟩ = some (.int .i64 kk) := (S5.E 0 (by simp)).1
      have f0 : w5.frozen? ⟨Q, 0, none⟩ = false := (S5.E 0 (by simp)).2
      have S6 := S5.store (j := 0) (by simp) (.int .i64 ((r5 : Int) - 1))
      simp only [List.set_cons_zero] at S6
      clear S5
      have y0 : (w5.setCell ⟨Q, 0, none⟩ (.int .i64 ((r5 : Int) - 1))).cell? ⟨Q, 0, none⟩ = some (.int .i64 ((r5 : Int) - 1)) := (S6.E 0 (by simp)).1
      have y1 : (w5.setCell ⟨Q, 0, none⟩ (.int .i64 ((r5 : Int) - 1))).cell? ⟨Q, 1, none⟩ = some (.int .i64 ee) := (S6.E 1 (by simp)).1
      have y2 : (w5.setCell ⟨Q, 0, none⟩ (.int .i64 ((r5 : Int) - 1))).cell? ⟨Q, 2, none⟩ = some (.int .i64 dd) := (S6.E 2 (by simp)).1
      have y3 : (w5.setCell ⟨Q, 0, none⟩ (.int .i64 ((r5 : Int) - 1))).cell? ⟨Q, 3, none⟩ = some (.string x) := (S6.E 3 (by simp)).1
      have hA := S6.A
      have HB := hid S6.B
      have HO := hid S6.o
      clear S6
      obtain ⟨WF, hWF⟩ : ∃ V, V = (w5.setCell ⟨Q, 0, none⟩ (.int .i64 ((r5 : Int) - 1))) := ⟨_, rfl⟩
      rw [← hWF] at y0 y1 y2 y3 hA HB HO
      have HWF := hid hWF
      clear hWF
      go_upto_region 13 with fail
      rw [← HWF.out]
      clear HWF
      go_wp2_with (refine wpList_store_cf rfl 36 (.tmp 2) (.tmp 41) rfl w.heap.size [.int .i64 0, .int .i64 0, .int .i64 0, .string ⟨#[]⟩] [.int .i64 ((r5 : Int) - 1), .int .i64 ee, .int .i64 dd, .string x] rfl rfl hA rfl Try.sizeEn (oneEn _ _ _ _) ?_; intro w10 hc10 hg10)
      have k0 : w10.cell? ⟨w.heap.size, 0, none⟩ = some (.int .i64 ((r5 : Int) - 1)) := (hc10 0 (by simp)).1
      have k1 : w10.cell? ⟨w.heap.size, 1, none⟩ = some (.int .i64 ee) := (hc10 1 (by simp)).1
      have k2 : w10.cell? ⟨w.heap.size, 2, none⟩ = some (.int .i64 dd) := (hc10 2 (by simp)).1
      have k3 : w10.cell? ⟨w.heap.size, 3, none⟩ = some (.string x) := (hc10 3 (by simp)).1
      exact bodyPost_ret (v := .agg #[.int .i64 ((r5 : Int) - 1), .int .i64 ee, .int .i64 dd, .string x]) (by simp [results, Try.results11, go_sem, k0, k1, k2, k3]) rfl ⟨⟨_, _, _, _, rfl, by omega, hee, hdd, by omega⟩, below_grown HB.out hg10 HB.out.size (fun q hq => by injection hq with hq; omega)⟩
    · have SA := S4.alloc (.cells #[.int .i64 0, .int .i64 (-1), .int .i64 301] 3)
      have cA := CF.made w4 #[.int .i64 0, .int .i64 (-1), .int .i64 301] 3
      obtain ⟨WA, hWA⟩ : ∃ V, V = w4.alloc (.cells #[.int .i64 0, .int .i64 (-1), .int .i64 301] 3) := ⟨_, rfl⟩
      have zA : w4.heap.size < WA.heap.size := by rw [hWA]; simp
      have hgA : g < w4.heap.size := S4.rd.lt
      rw [← hWA] at SA cA
      have HWA := hid hWA
      clear hWA S4
      go_wp2_with fail
      rw [← HWA.out]
      clear HWA
      refine (pick_any g 3 12 _ SA.rd (by omega) (by omega) (by omega)).mono ?_
      rintro e w5 ⟨⟨r5, hr5, rfl⟩, hrd5, hg5⟩
      have S5 := SA.call hrd5 hg5
      have c5 := cA.block (hg5.block _ zA (by simp; omega))
      obtain ⟨xx, hxx, hxc⟩ : ∃ xx : Int, (-1000 ≤ xx ∧ xx ≤ 1000) ∧ w5.cell? ⟨w4.heap.size, r5, none⟩ = some (.int .i64 xx) := by
        rcases (show r5 = 0 ∨ r5 = 1 ∨ r5 = 2 by omega) with rfl | rfl | rfl
        · exact ⟨0, by omega, (c5 0 (by simp)).1⟩
        · exact ⟨-1, by omega, (c5 1 (by simp)).1⟩
        · exact ⟨301, by omega, (c5 2 (by simp)).1⟩
      have hr5' : (r5 : Int) < 3 := by omega
      have z0 : w5.cell? ⟨Q, 1, none⟩ = some (.int .i64 ee) := (S5.E 1 (by simp)).1
      have f0 : w5.frozen? ⟨Q, 1, none⟩ = false := (S5.E 1 (by simp)).2
      have S6 := S5.store (j := 1) (by simp) (.int .i64 xx)
      simp only [List.set_cons_zero, List.set_cons_succ] at S6
      clear S5 SA cA hrd5 hg5 c5 zA hgA
      have y0 : (w5.setCell ⟨Q, 1, none⟩ (.int .i64 xx)).cell? ⟨Q, 0, none⟩ = some (.int .i64 kk) := (S6.E 0 (by simp)).1
      have y1 : (w5.setCell ⟨Q, 1, none⟩ (.int .i64 xx)).cell? ⟨Q, 1, none⟩ = some (.int .i64 xx) := (S6.E 1 (by simp)).1
      have y2 : (w5.setCell ⟨Q, 1, none⟩ (.int .i64 xx)).cell? ⟨Q, 2, none⟩ = some (.int .i64 dd) := (S6.E 2 (by simp)).1
      have y3 : (w5.setCell ⟨Q, 1, none⟩ (.int .i64 xx)).cell? ⟨Q, 3, none⟩ = some (.string x) := (S6.E 3 (by simp)).1
      have hA := S6.A
      have HB := hid S6.B
      have HO := hid S6.o
      clear S6
      obtain ⟨WF, hWF⟩ : ∃ V, V = (w5.setCell ⟨Q, 1, none⟩ (.int .i64 xx)) := ⟨_, rfl⟩
      rw [← hWF] at y0 y1 y2 y3 hA HB HO
      have HWF := hid hWF
      clear hWF
      go_upto_region 13 with fail
      rw [← HWF.out]
      clear HWF
      go_wp2_with (refine wpList_store_cf rfl 36 (.tmp 2) (.tmp 41) rfl w.heap.size [.int .i64 0, .int .i64 0, .int .i64 0, .string ⟨#[]⟩] [.int .i64 kk, .int .i64 xx, .int .i64 dd, .string x] rfl rfl hA rfl Try.sizeEn (oneEn _ _ _ _) ?_; intro w10 hc10 hg10)
      have k0 : w10.cell? ⟨w.heap.size, 0, none⟩ = some (.int .i64 kk) := (hc10 0 (by simp)).1
      have k1 : w10.cell? ⟨w.heap.size, 1, none⟩ = some (.int .i64 xx) := (hc10 1 (by simp)).1
      have k2 : w10.cell? ⟨w.heap.size, 2, none⟩ = some (.int .i64 dd) := (hc10 2 (by simp)).1
      have k3 : w10.cell? ⟨w.heap.size, 3, none⟩ = some (.string x) := (hc10 3 (by simp)).1
      exact bodyPost_ret (v := .agg #[.int .i64 kk, .int .i64 xx, .int .i64 dd, .string x]) (by simp [results, Try.results11, go_sem, k0, k1, k2, k3]) rfl ⟨⟨_, _, _, _, rfl, hkk, hxx, hdd, by omega⟩, below_grown HB.out hg10 HB.out.size (fun q hq => by injection hq with hq; omega)⟩
    · have SA := S4.alloc (.cells #[.int .i64 (-1), .int .i64 40, .int .i64 1] 3)
      have cA := CF.made w4 #[.int .i64 (-1), .int .i64 40, .int .i64 1] 3
      obtain ⟨WA, hWA⟩ : ∃ V, V = w4.alloc (.cells #[.int .i64 (-1), .int .i64 40, .int .i64 1] 3) := ⟨_, rfl⟩
      have zA : w4.heap.size < WA.heap.size := by rw [hWA]; simp
      have hgA : g < w4.heap.size := S4.rd.lt
      rw [← hWA] at SA cA
      have HWA := hid hWA
      clear hWA S4
      go_wp2_with fail
      rw [← HWA.out]
      clear HWA
      refine (pick_any g 3 12 _ SA.rd (by omega) (by omega) (by omega)).mono ?_
      rintro e w5 ⟨⟨r5, hr5, rfl⟩, hrd5, hg5⟩
      have S5 := SA.call hrd5 hg5
      have c5 := cA.block (hg5.block _ zA (by simp; omega))
      obtain ⟨xx, hxx, hxc⟩ : ∃ xx : Int, (-1000 ≤ xx ∧ xx ≤ 1000) ∧ w5.cell? ⟨w4.heap.size, r5, none⟩ = some (.int .i64 xx) := by
        rcases (show r5 = 0 ∨ r5 = 1 ∨ r5 = 2 by omega) with rfl | rfl | rfl
        · exact ⟨-1, by omega, (c5 0 (by simp)).1⟩
        · exact ⟨40, by omega, (c5 1 (by simp)).1⟩
        · exact ⟨1, by omega, (c5 2 (by simp)).1⟩
      have hr5' : (r5 : Int) < 3 := by omega
      have z0 : w5.cell? ⟨Q, 2, none⟩ = some (.int .i64 dd) := (S5.E 2 (by simp)).1
      have f0 : w5.frozen? ⟨Q, 2, none⟩ = false := (S5.E 2 (by simp)).2
      have S6 := S5.store (j := 2) (by simp) (.int .i64 xx)
      simp only [List.set_cons_zero, List.set_cons_succ] at S6
      clear S5 SA cA hrd5 hg5 c5 zA hgA
      have y0 : (w5.setCell ⟨Q, 2, none⟩ (.int .i64 xx)).cell? ⟨Q, 0, none⟩ = some (.int .i64 kk) := (S6.E 0 (by simp)).1
      have y1 : (w5.setCell ⟨Q, 2, none⟩ (.int .i64 xx)).cell? ⟨Q, 1, none⟩ = some (.int .i64 ee) := (S6.E 1 (by simp)).1
      have y2 : (w5.setCell ⟨Q, 2, none⟩ (.int .i64 xx)).cell? ⟨Q, 2, none⟩ = some (.int .i64 xx) := (S6.E 2 (by simp)).1
      have y3 : (w5.setCell ⟨Q, 2, none⟩ (.int .i64 xx)).cell? ⟨Q, 3, none⟩ = some (.string x) := (S6.E 3 (by simp)).1
      have hA := S6.A
      have HB := hid S6.B
      have HO := hid S6.o
      clear S6
      obtain ⟨WF, hWF⟩ : ∃ V, V = (w5.setCell ⟨Q, 2, none⟩ (.int .i64 xx)) := ⟨_, rfl⟩
      rw [← hWF] at y0 y1 y2 y3 hA HB HO
      have HWF := hid hWF
      clear hWF
      go_upto_region 13 with fail
      rw [← HWF.out]
      clear HWF
      go_wp2_with (refine wpList_store_cf rfl 36 (.tmp 2) (.tmp 41) rfl w.heap.size [.int .i64 0, .int .i64 0, .int .i64 0, .string ⟨#[]⟩] [.int .i64 kk, .int .i64 ee, .int .i64 xx, .string x] rfl rfl hA rfl Try.sizeEn (oneEn _ _ _ _) ?_; intro w10 hc10 hg10)
      have k0 : w10.cell? ⟨w.heap.size, 0, none⟩ = some (.int .i64 kk) := (hc10 0 (by simp)).1
      have k1 : w10.cell? ⟨w.heap.size, 1, none⟩ = some (.int .i64 ee) := (hc10 1 (by simp)).1
      have k2 : w10.cell? ⟨w.heap.size, 2, none⟩ = some (.int .i64 xx) := (hc10 2 (by simp)).1
      have k3 : w10.cell? ⟨w.heap.size, 3, none⟩ = some (.string x) := (hc10 3 (by simp)).1
      exact bodyPost_ret (v := .agg #[.int .i64 kk, .int .i64 ee, .int .i64 xx, .string x]) (by simp [results, Try.results11, go_sem, k0, k1, k2, k3]) rfl ⟨⟨_, _, _, _, rfl, hkk, hee, hxx, by omega⟩, below_grown HB.out hg10 HB.out.size (fun q hq => by injection hq with hq; omega)⟩
    · have z3 : w4.cell? ⟨Q, 3, none⟩ = some (.string x) := (S4.E 3 (by simp)).1
      have f3 : w4.frozen? ⟨Q, 3, none⟩ = false := (S4.E 3 (by simp)).2
      have hcat : ¬ 9223372036854775807 < x.size + 1 := by omega
      obtain ⟨xx, hxx⟩ : ∃ xx, xx = x ++ (⟨#[120]⟩ : ByteArray) := ⟨_, rfl⟩
      have hxs : xx.size ≤ 101 := by rw [hxx, ByteArray.size_append]; have : (⟨#[120]⟩ : ByteArray).size = 1 := rfl; omega
      have S6 := S4.store (j := 3) (by simp) (.string xx)
      simp only [List.set_cons_zero, List.set_cons_succ] at S6
      clear S4
      have HXX := hid hxx
      clear hxx
      have y0 : (w4.setCell ⟨Q, 3, none⟩ (.string xx)).cell? ⟨Q, 0, none⟩ = some (.int .i64 kk) := (S6.E 0 (by simp)).1
      have y1 : (w4.setCell ⟨Q, 3, none⟩ (.string xx)).cell? ⟨Q, 1, none⟩ = some (.int .i64 ee) := (S6.E 1 (by simp)).1
      have y2 : (w4.setCell ⟨Q, 3, none⟩ (.string xx)).cell? ⟨Q, 2, none⟩ = some (.int .i64 dd) := (S6.E 2 (by simp)).1
      have y3 : (w4.setCell ⟨Q, 3, none⟩ (.string xx)).cell? ⟨Q, 3, none⟩ = some (.string xx) := (S6.E 3 (by simp)).1
      have hA := S6.A
      have HB := hid S6.B
      have HO := hid S6.o
      clear S6
      obtain ⟨WF, hWF⟩ : ∃ V, V = (w4.setCell ⟨Q, 3, none⟩ (.string xx)) := ⟨_, rfl⟩
      rw [← hWF] at y0 y1 y2 y3 hA HB HO
      have HWF := hid hWF
      clear hWF
      go_upto_region 13 with fail
      rw [← HXX.out, ← HWF.out]
      clear HWF
      go_wp2_with (refine wpList_store_cf rfl 36 (.tmp 2) (.tmp 41) rfl w.heap.size [.int .i64 0, .int .i64 0, .int .i64 0, .string ⟨#[]⟩] [.int .i64 kk, .int .i64 ee, .int .i64 dd, .string xx] rfl rfl hA rfl Try.sizeEn (oneEn _ _ _ _) ?_; intro w10 hc10 hg10)
      have k0 : w10.cell? ⟨w.heap.size, 0, none⟩ = some (.int .i64 kk) := (hc10 0 (by simp)).1
      have k1 : w10.cell? ⟨w.heap.size, 1, none⟩ = some (.int .i64 ee) := (hc10 1 (by simp)).1
      have k2 : w10.cell? ⟨w.heap.size, 2, none⟩ = some (.int .i64 dd) := (hc10 2 (by simp)).1
      have k3 : w10.cell? ⟨w.heap.size, 3, none⟩ = some (.string xx) := (hc10 3 (by simp)).1
      exact bodyPost_ret (v := .agg #[.int .i64 kk, .int .i64 ee, .int .i64 dd, .string xx]) (by simp [results, Try.results11, go_sem, k0, k1, k2, k3]) rfl ⟨⟨_, _, _, _, rfl, hkk, hee, hdd, by omega⟩, below_grown HB.out hg10 HB.out.size (fun q hq => by injection hq with hq; omega)⟩
  · have h3' : (r3 : Int) > 0 := by omega
    have y0 : w3.cell? ⟨Q, 0, none⟩ = some (.int .i64 kk) := (S3.E 0 (by simp)).1
    have y1 : w3.cell? ⟨Q, 1, none⟩ = some (.int .i64 ee) := (S3.E 1 (by simp)).1
    have y2 : w3.cell? ⟨Q, 2, none⟩ = some (.int .i64 dd) := (S3.E 2 (by simp)).1
    have y3 : w3.cell? ⟨Q, 3, none⟩ = some (.string x) := (S3.E 3 (by simp)).1
    have hA := S3.A
    have HB := hid S3.B
    have HO := hid S3.o
    clear S3
    go_wp2_with (refine wpList_store_cf rfl 36 (.tmp 2) (.tmp 12) rfl w.heap.size [.int .i64 0, .int .i64 0, .int .i64 0, .string ⟨#[]⟩] [.int .i64 kk, .int .i64 ee, .int .i64 dd, .string x] rfl rfl hA rfl Try.sizeEn (oneEn _ _ _ _) ?_; intro w10 hc10 hg10)
    have k0 : w10.cell? ⟨w.heap.size, 0, none⟩ = some (.int .i64 kk) := (hc10 0 (by simp)).1
    have k1 : w10.cell? ⟨w.heap.size, 1, none⟩ = some (.int .i64 ee) := (hc10 1 (by simp)).1
    have k2 : w10.cell? ⟨w.heap.size, 2, none⟩ = some (.int .i64 dd) := (hc10 2 (by simp)).1
    have k3 : w10.cell? ⟨w.heap.size, 3, none⟩ = some (.string x) := (hc10 3 (by simp)).1
    exact bodyPost_ret (v := .agg #[.int .i64 kk, .int .i64 ee, .int .i64 dd, .string x]) (by simp [results, Try.results11, go_sem, k0, k1, k2, k3]) rfl ⟨⟨_, _, _, _, rfl, hkk, hee, hdd, by omega⟩, below_grown HB.out hg10 HB.out.size (fun q hq => by injection hq with hq; omega)⟩

set_option maxHeartbeats 2000000 in
set_option maxRecDepth 100000 in
theorem drawReadEntry_any (ad : Option Addr) (b o n cc : Nat) (w : World) (h : BytesAt w ad b o n) (hb : 0 < n → b < w.heap.size) (hcc : n ≤ cc) (hn : n ≤ 1048576) :
    Calls Try.prog 15 #[.slice ad n cc] w fun e' w' => SomeText e' 200 ∧ Below w.heap.size w w' := by
  go_enter Try.func15, Try.ntmps15
  go_wp2_with fail
  refine (l1Open_any ad b o n cc _ h hb hcc hn).mono ?_
  rintro e w1 ⟨rfl, hrd1, hb1⟩
  obtain ⟨g, hg⟩ : ∃ g, g = w.heap.size := ⟨_, rfl⟩
  rw [← hg] at hrd1
  rw [← hg]
  have HG := hid hg
  clear hg
  go_wp2_with fail
  refine (l4Draw_any g 0 _ hrd1 (by omega)).mono ?_
  rintro e w2 ⟨⟨kk, ee, dd, x, rfl, hkk, hee, hdd, hx⟩, hrd2, hg2⟩
  go_wp2_with fail
  refine (specEnt_any kk ee dd x _).mono ?_
  rintro e w3 ⟨⟨s, rfl, hs⟩, hb3⟩
  have hss := hs.small (by omega)
  have hrd3 := hrd2.below hb3
  have hB3 : Below w.heap.size w w3 := by
    have h1 := below_grown hb1 hg2 hb1.size (fun q hq => by injection hq with hq; have := HG.out; omega)
    exact h1.trans (hb3.mono h1.size)
  clear hb3 hrd2 hg2 hb1 hrd1 hs
  go_wp2_with fail
  refine (pick_any g 2 10 _ hrd3 (by omega) (by omega) (by omega)).mono ?_
  rintro e w4 ⟨⟨r4, hr4, rfl⟩, hrd4, hg4⟩
  have hB4 := below_grown hB3 hg4 hB3.size (fun q hq => by injection hq with hq; have := HG.out; omega)
  clear hg4 hrd3 hB3
  by_cases h0 : r4 = 0
  · subst h0
    go_wp2_with fail
    refine (l1Bend_any g 11 s _ hrd4 (by omega) (by omega)).mono ?_
    rintro e w5 ⟨⟨t, rfl, ht⟩, hrd5, hg5⟩
    have hB5 := below_grown hB4 hg5 hB4.size (fun q hq => by injection hq with hq; have := HG.out; omega)
    go_wp2
    go_ret
    exact ⟨⟨t, rfl, by omega⟩, hB5⟩
  · have h0' : ¬ (r4 : Int) = 0 := by omega
    go_wp2
    go_ret
    exact ⟨⟨s, rfl, by omega⟩, hB4⟩
end Go.Proofs.Ytdjcfeiaembckaa
