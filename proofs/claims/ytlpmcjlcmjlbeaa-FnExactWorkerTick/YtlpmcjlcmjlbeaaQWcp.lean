import Derived.Test.YtlpmcjlcmjlbeaaQWst
import Derived.Test.YtlpmcjlcmjlbeaaQCel
namespace Go.Proofs.Ytlpmcjlcmjlbeaa
open Go.RowKit

theorem StrsAt.src {w : World} {a : Option Addr} {b o n : Nat} {ss : List ByteArray} (h : StrsAt w a b o n ss) (c : Nat) : Src Try.prog 1 22 (.slice a n c) n (ss.map Value.string) w := by
  have h1 : ∀ u ∈ ss.map Value.string, u.oneCell' = true := fun u hu => by obtain ⟨y, _, rfl⟩ := List.mem_map.1 hu; rfl
  cases a with
  | none =>
    have h0 : n = 0 := Nat.eq_zero_of_not_pos fun hh => by have := h.ad hh; cases this
    subst h0
    have : ss = [] := List.eq_nil_of_length_eq_zero h.len
    subst this
    exact Src.ofNil w Try.underlying22 c
  | some y =>
    refine Src.ofSlice w Try.underlying22 y n c (ss.map Value.string) (by simp [h.len]) (fun j u hu => ?_) h1
    have hj : j < n := by have := (List.getElem?_eq_some_iff.1 hu).1; simp [h.len] at this; exact this
    have hy := h.ad (by omega)
    injection hy with hy
    subst hy
    rw [Addr.add_lit, h.cell j hj]
    rw [← hu]; simp [List.getD, h.len, hj]
theorem one11 (nu ep : Int) (up : Bool) (st le ta co lf : Int) (a : Option Addr) (n c : Nat) (x : ByteArray) (si : Int) : ∀ v ∈ [Value.int .i64 nu, .int .i64 ep, .bool up, .int .i64 st, .int .i64 le, .int .i64 ta, .int .i64 co, .int .i64 lf, .slice a n c, .string x, .int .i64 si], v.oneCell' = true := by
  intro v hv
  simp only [List.mem_cons, List.not_mem_nil, or_false] at hv
  rcases hv with rfl | rfl | rfl | rfl | rfl | rfl | rfl | rfl | rfl | rfl | rfl <;> rfl
theorem Try.sizeWk : (Try.prog.info? 27).map (·.size) = some 11 := by kernel_rfl
def zW : List Value := [.int .i64 0, .int .i64 0, .bool false, .int .i64 0, .int .i64 0, .int .i64 0, .int .i64 0, .int .i64 0, .slice none 0 0, .string ⟨#[]⟩, .int .i64 0]
theorem gbelow {B : Nat} {w w1 w2 : World} {row : Option Nat} (h : Below B w w1) (hg : w1.grownBy w2 row) (hB : B ≤ w1.heap.size) (hr : ∀ k, row = some k → B ≤ k) : Below B w w2 := below_grown h hg hB hr

set_option maxHeartbeats 4000000 in
set_option maxRecDepth 100000 in
theorem l3Copy_any (nu ep : Int) (up : Bool) (st le ta co lf : Int) (a : Option Addr) (b o n c : Nat) (ss : List ByteArray) (x : ByteArray) (si : Int) (w : World) (h : StrsAt w a b o n ss) (hn : n ≤ 1048576) :
    Calls Try.prog 43 #[.agg #[.int .i64 nu, .int .i64 ep, .bool up, .int .i64 st, .int .i64 le, .int .i64 ta, .int .i64 co, .int .i64 lf, .slice a n c, .string x, .int .i64 si]] w fun e w' => ∃ a1 c1, e = .returned (.agg #[.int .i64 nu, .int .i64 ep, .bool up, .int .i64 st, .int .i64 le, .int .i64 ta, .int .i64 co, .int .i64 lf, .slice a1 n c1, .string x, .int .i64 si]) ∧ Own w.heap.size w' 1 (.slice a1 n c1) n (ss.map Value.string) ∧ Below w.heap.size w w' := by
  obtain ⟨i0, hi, hz0, hz1, hz2⟩ := info_parts Try.info9
  obtain ⟨W, hW⟩ : ∃ W, W = (w.alloc (.cells #[.int .i64 nu, .int .i64 ep, .bool up, .int .i64 st, .int .i64 le, .int .i64 ta, .int .i64 co, .int .i64 lf, .slice a n c, .string x, .int .i64 si] 27)).alloc (.cells zW.toArray 27) := ⟨_, rfl⟩
  have hbW : Below w.heap.size w W := by rw [hW]; exact ((Below.refl _ _).alloc (Nat.le_refl _) _).alloc (by simp) _
  have hsW : W.heap.size = w.heap.size + 2 := by rw [hW]; simp
  have hP : CF W w.heap.size [.int .i64 nu, .int .i64 ep, .bool up, .int .i64 st, .int .i64 le, .int .i64 ta, .int .i64 co, .int .i64 lf, .slice a n c, .string x, .int .i64 si] := by
    rw [hW]; exact (CF.made w #[.int .i64 nu, .int .i64 ep, .bool up, .int .i64 st, .int .i64 le, .int .i64 ta, .int .i64 co, .int .i64 lf, .slice a n c, .string x, .int .i64 si] 27).block (Below.heap_alloc _ _ _ (by simp))
  have hR : CF W (w.heap.size + 1) zW := by
    rw [hW]
    have := CF.made (w.alloc (.cells #[.int .i64 nu, .int .i64 ep, .bool up, .int .i64 st, .int .i64 le, .int .i64 ta, .int .i64 co, .int .i64 lf, .slice a n c, .string x, .int .i64 si] 27)) zW.toArray 27
    simpa using this
  have hown0 : Own (w.heap.size + 2) (W.alloc (.cells #[] 9)) 1 (.slice (some ⟨W.heap.size, 0, none⟩) 0 0) 0 [] :=
    .inr ⟨_, 0, 0, rfl, OwnC.made W (w.heap.size + 2) 9 1 0 0 _ 0 (by omega) (Nat.le_refl _) (by unfold maxLen; omega) rfl (Nat.le_refl _) _ rfl _ (.inl rfl)⟩
  have hbE : Below w.heap.size w (W.alloc (.cells #[] 9)) := hbW.alloc hbW.size _
  have hsrc : Src Try.prog 1 22 (.slice a n c) n (ss.map Value.string) (W.alloc (.cells #[] 9)) := (h.below' hbE).src c
  have hPE : CF (W.alloc (.cells #[] 9)) w.heap.size [.int .i64 nu, .int .i64 ep, .bool up, .int .i64 st, .int .i64 le, .int .i64 ta, .int .i64 co, .int .i64 lf, .slice a n c, .string x, .int .i64 si] := hP.block (Below.heap_alloc _ _ _ (by omega))
  have hRE : CF (W.alloc (.cells #[] 9)) (w.heap.size + 1) zW := hR.block (Below.heap_alloc _ _ _ (by omega))
  have c8 : W.cell? ⟨w.heap.size, 8, none⟩ = some (.slice a n c) := (hP 8 (by simp)).1
  have c8a : (W.alloc (.cells #[] 9)).cell? ⟨w.heap.size, 8, none⟩ = some (.slice a n c) := (hPE 8 (by simp)).1
  have hsE : (W.alloc (.cells #[] 9)).heap.size = w.heap.size + 3 := by simp [hsW]
  have hleE : w.heap.size + 2 ≤ (W.alloc (.cells #[] 9)).heap.size := by omega
  simp only [zW] at hW
  have HW := hid hW
  have HsW := hid hsW
  have HsE := hid hsE
  clear hW hsW hsE
  go_enter Try.func43, Try.ntmps43
  go_upto_region 1 with fail
  rw [← HW.out]
  clear HW
  go_upto_region 2 with (at_builtin; refine wpList_append_c _ rfl _ _ 22 22 rfl (w.heap.size + 2) 9 i0 (.string ⟨#[]⟩) 1 16 Try.underlying22 hi hz0 hz1 hz2 rfl _ 0 _ rfl hown0 _ n _ rfl hsrc (by unfold maxLen; omega) (by omega) hleE ?_; intro v1 w1 ho1 hg1 hbk1; rw [Nat.zero_add, List.nil_append] at ho1; obtain ⟨a1, c1, rfl⟩ := ho1.slc; have hrow : ∀ q, (Value.slice (some ⟨W.heap.size, 0, none⟩) 0 0).ownBlock = some q → w.heap.size + 2 ≤ q := (fun q hq => hown0.row_lo q hq); have hP1 := hPE.block (hg1.block w.heap.size (by have := HsE.out; omega) (fun e => by have := hrow _ e.symm; omega)); have hR1 := hRE.block (hg1.block (w.heap.size + 1) (by have := HsE.out; omega) (fun e => by have := hrow _ e.symm; omega)); have hb1 := below_grown hbE hg1 (by omega) (fun q hq => by have := hrow q hq; omega); have hz1' := hg1.size; have c81 : w1.cell? ⟨w.heap.size, 8, none⟩ = some (.slice a n c) := (hP1 8 (by simp)).1; have f81 : w1.frozen? ⟨w.heap.size, 8, none⟩ = false := (hP1 8 (by simp)).2)
  have hP2 := hP1.set (j := 8) (by simp) (.slice a1 n c1)
  simp only [List.set_cons_zero, List.set_cons_succ] at hP2
  have hR2 := hR1.block (Below.heap_setCell w1 (⟨w.heap.size, 8, none⟩ : Addr) (.slice a1 n c1) (w.heap.size + 1) (by dsimp only; omega))
  have hb2 := hb1.setCell (p := ⟨w.heap.size, 8, none⟩) (by dsimp only; omega) (.slice a1 n c1)
  have ho2 := ho1.grown (gset (World.grownBy.refl w1 (some w.heap.size)) 8 (.slice a1 n c1)) (.inr (by intro hh; have := ho1.row_lo _ hh; omega))
  obtain ⟨WF, hWF⟩ : ∃ WF, WF = w1.setCell ⟨w.heap.size, 8, none⟩ (.slice a1 n c1) := ⟨_, rfl⟩
  rw [← hWF] at hP2 hR2 hb2 ho2
  rw [← hWF]
  have hzF : w.heap.size + 1 < WF.heap.size := by rw [hWF]; have := HsE.out; simp [World.setCell]; omega
  have y0 : WF.cell? ⟨w.heap.size, 0, none⟩ = some (.int .i64 nu) := (hP2 0 (by simp)).1
  have y1 : WF.cell? ⟨w.heap.size, 1, none⟩ = some (.int .i64 ep) := (hP2 1 (by simp)).1
  have y2 : WF.cell? ⟨w.heap.size, 2, none⟩ = some (.bool up) := (hP2 2 (by simp)).1
  have y3 : WF.cell? ⟨w.heap.size, 3, none⟩ = some (.int .i64 st) := (hP2 3 (by simp)).1
  have y4 : WF.cell? ⟨w.heap.size, 4, none⟩ = some (.int .i64 le) := (hP2 4 (by simp)).1
  have y5 : WF.cell? ⟨w.heap.size, 5, none⟩ = some (.int .i64 ta) := (hP2 5 (by simp)).1
  have y6 : WF.cell? ⟨w.heap.size, 6, none⟩ = some (.int .i64 co) := (hP2 6 (by simp)).1
  have y7 : WF.cell? ⟨w.heap.size, 7, none⟩ = some (.int .i64 lf) := (hP2 7 (by simp)).1
  have y8 : WF.cell? ⟨w.heap.size, 8, none⟩ = some (.slice a1 n c1) := (hP2 8 (by simp)).1
  have y9 : WF.cell? ⟨w.heap.size, 9, none⟩ = some (.string x) := (hP2 9 (by simp)).1
  have y10 : WF.cell? ⟨w.heap.size, 10, none⟩ = some (.int .i64 si) := (hP2 10 (by simp)).1
  clear hWF hP hR hPE hRE hown0 hsrc c8 c8a c81 f81 hP1 hR1 hb1 ho1 hbk1 hg1 hbE hbW HsW HsE hleE hz1' hrow
  go_wp2_with (refine wpList_store_cf rfl 27 (.tmp 2) (.tmp 8) rfl (w.heap.size + 1) zW [.int .i64 nu, .int .i64 ep, .bool up, .int .i64 st, .int .i64 le, .int .i64 ta, .int .i64 co, .int .i64 lf, .slice a1 n c1, .string x, .int .i64 si] rfl rfl hR2 rfl Try.sizeWk (one11 _ _ _ _ _ _ _ _ _ _ _ _ _) ?_; intro w10 hc10 hg10)
  have kk0 : w10.cell? ⟨w.heap.size + 1, 0, none⟩ = some (.int .i64 nu) := (hc10 0 (by simp)).1
  have kk1 : w10.cell? ⟨w.heap.size + 1, 1, none⟩ = some (.int .i64 ep) := (hc10 1 (by simp)).1
  have kk2 : w10.cell? ⟨w.heap.size + 1, 2, none⟩ = some (.bool up) := (hc10 2 (by simp)).1
  have kk3 : w10.cell? ⟨w.heap.size + 1, 3, none⟩ = some (.int .i64 st) := (hc10 3 (by simp)).1
  have kk4 : w10.cell? ⟨w.heap.size + 1, 4, none⟩ = some (.int .i64 le) := (hc10 4 (by simp)).1
  have kk5 : w10.cell? ⟨w.heap.size + 1, 5, none⟩ = some (.int .i64 ta) := (hc10 5 (by simp)).1
  have kk6 : w10.cell? ⟨w.heap.size + 1, 6, none⟩ = some (.int .i64 co) := (hc10 6 (by simp)).1
  have kk7 : w10.cell? ⟨w.heap.size + 1, 7, none⟩ = some (.int .i64 lf) := (hc10 7 (by simp)).1
  have kk8 : w10.cell? ⟨w.heap.size + 1, 8, none⟩ = some (.slice a1 n c1) := (hc10 8 (by simp)).1
  have kk9 : w10.cell? ⟨w.heap.size + 1, 9, none⟩ = some (.string x) := (hc10 9 (by simp)).1
  have kk10 : w10.cell? ⟨w.heap.size + 1, 10, none⟩ = some (.int .i64 si) := (hc10 10 (by simp)).1
  refine bodyPost_ret (v := .agg #[.int .i64 nu, .int .i64 ep, .bool up, .int .i64 st, .int .i64 le, .int .i64 ta, .int .i64 co, .int .i64 lf, .slice a1 n c1, .string x, .int .i64 si]) (by simp [results, Try.results43, go_sem, kk0, kk1, kk2, kk3, kk4, kk5, kk6, kk7, kk8, kk9, kk10]) rfl ⟨a1, c1, rfl, ?_, ?_⟩
  · exact (ho2.grown hg10 (.inr (by intro hh; have := ho2.row_lo _ hh; omega))).mono' (by omega)
  · exact below_grown hb2 hg10 (by omega) (fun q hq => by simp at hq; omega)
end Go.Proofs.Ytlpmcjlcmjlbeaa
