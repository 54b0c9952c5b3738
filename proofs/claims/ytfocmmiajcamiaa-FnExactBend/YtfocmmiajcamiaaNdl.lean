
/-
  slices.Delete of one parcel.
-/
import Derived.Test.YtfocmmiajcamiaaNls
namespace Go.Proofs.Ytfocmmiajcamiaa
open Go.RowKit

theorem OwnC.front {B : Nat} {w : World} {size g o cap n k : Nat} {xs : List Value} (h : OwnC B w size g o cap n xs) (hk : k ≤ n) : OwnC B w size g o cap k (xs.take (k * size)) where
  lo := h.lo
  hi := h.hi
  le := Nat.le_trans hk h.le
  max := h.max
  len := by rw [List.length_take, h.len]; exact Nat.min_eq_left (Nat.mul_le_mul_right _ hk)
  holds := fun j hj => by
    rw [List.getElem?_take, if_pos hj]
    exact h.holds j (Nat.lt_of_lt_of_le hj (Nat.mul_le_mul_right _ hk))
  there := h.there
theorem OwnC.setBehind {B : Nat} {w : World} {size g o cap n : Nat} {xs : List Value} (h : OwnC B w size g o cap n xs) (o' : Nat) (ho : o + n * size ≤ o') (vs : List Value) : OwnC B (w.setCells g o' vs) size g o cap n xs where
  lo := h.lo
  hi := by rw [size_setCells']; exact h.hi
  le := h.le
  max := h.max
  len := h.len
  holds := fun j hj => by
    rw [World.cell?_setCells_out g vs _ w _ (fun _ _ => .inl (by simp; omega))]
    exact h.holds j hj
  there := fun j hj => ⟨isSome_setCells' g vs _ w _ (h.there j hj).1, by rw [World.frozen?_setCells]; exact (h.there j hj).2⟩

theorem run_clear_pc (w : World) (b o c : Nat) (hc : ∀ j, j < 3 → (w.cell? ⟨b, o + j, none⟩).isSome = true) (hf : ∀ j, j < 3 → w.frozen? ⟨b, o + j, none⟩ = false) (ty : TypeId) :
    (Builtin.clear_ #[39] ty #[.slice (some ⟨b, o, none⟩) 1 c]).run Try.prog w = .ok (.tuple #[]) (w.setCells b o [.int .i64 0, .string ⟨#[]⟩, .string ⟨#[]⟩]) := by
  obtain ⟨i0, hi, hz0, hz1, hz2⟩ := info_parts Try.infoPc
  have hv : ∀ w : World, (zeroValue 37).run Try.prog w = .ok (.agg #[.int .i64 0, .string ⟨#[]⟩, .string ⟨#[]⟩]) w := fun w => by simp [zeroValue, typeInfo, hi, hz0]
  have hzc : (Builtin.zeroCells (Value.agg #[.int .i64 0, .string ⟨#[]⟩, .string ⟨#[]⟩]).cells 1).toList = [.int .i64 0, .string ⟨#[]⟩, .string ⟨#[]⟩] := by kernel_rfl
  have hst := run_storeCells_cells (P := Try.prog) b o [.int .i64 0, .string ⟨#[]⟩, .string ⟨#[]⟩] 0 w (by simpa using hc) (by simpa using hf) (by
    intro v hv'
    simp only [List.mem_cons, List.not_mem_nil, or_false] at hv'
    rcases hv' with rfl | rfl | rfl <;> rfl)
  simp only [Nat.add_zero] at hst
  simp [Builtin.clear_, run_underlying Try.underlying39, hv, hzc, hst]

theorem run_slc {ρ : Operand → Value} {o : Oper} {w : World} {v xv : Value} {lv hv mv : Option Value} (T : TypeId) (x : Operand) (lo hi mx : Option Operand) (hu : Try.prog.underlying T = some (.slice (Try.prog.elem T))) (h : o.op = .slice T x lo hi mx) (hx : ρ x = xv) (hl : lo.map ρ = lv) (hh : hi.map ρ = hv) (hm : mx.map ρ = mv) (hr : (Instr.slice T xv lv hv mv).run Try.prog w = .ok v w) : (execOp ρ o).run Try.prog w = .ok (.value v) w := by
  subst hx; subst hl; subst hh; subst hm
  unfold execOp
  simp only [h, Sem.run_bind, run_sliceAt_slice w T _ _ _ _ hu, hr, Result.andThen_ok, Sem.run_pure]
theorem run_asgL {ρ : Operand → Value} {o : Oper} {w : World} {v : Value} (x : Operand) (h : o.op = .assign x) (hx : ρ x = v) : (execOp ρ o).run Try.prog w = .ok (.value v) w := by
  unfold execOp
  rw [h]
  simp [go_sem, hx]

set_option maxHeartbeats 2000000 in
set_option maxRecDepth 100000 in
theorem delete_any (B : Nat) (g o c n k : Nat) (P : List Pc) (w : World) (h : OwnC B w 3 g o c n (pcs P)) (hl : P.length = n) (hk : k < n) (hn : n ≤ 1048577) :
    Calls Try.prog 31 #[.slice (some ⟨g, o, none⟩) n c, .int .i64 k, .int .i64 ((k : Int) + 1)] w fun e w' => e = .returned (.slice (some ⟨g, o, none⟩) (n - 1) c) ∧ OwnC B w' 3 g o c (n - 1) (pcs (P.take k ++ P.drop (k + 1))) ∧ w.grownBy w' (some g) := by
  obtain ⟨i0, hi, hz0, hz1, hz2⟩ := info_parts Try.infoPc
  have hcap := h.le
  have hcm := h.max
  unfold maxLen at hcm
  have hfr := h.front (k := k) (by omega)
  rw [pcs_take] at hfr
  have hat : PcAt w (some ⟨g, o, none⟩) g o n P → True := fun _ => trivial
  clear hat
  -- what is appended
  obtain ⟨aa, haa⟩ : ∃ aa : Addr, aa = (if c = k + 1 then (⟨g, o, none⟩ : Addr) else ⟨g, o + (k + 1) * 3, none⟩) := ⟨_, rfl⟩
  have hcell : ∀ j u, (pcs P)[j]? = some u → w.cell? ⟨g, o + j, none⟩ = some u := fun j u hu => (h.holds j (by rw [← h.len]; exact (List.getElem?_eq_some_iff.1 hu).1)).trans hu
  have hsrc : Src Try.prog 3 39 (.slice (some aa) (n - (k + 1)) (c - (k + 1))) (n - (k + 1)) (pcs (P.drop (k + 1))) w.drew := by
    refine Src.ofSlice w.drew Try.underlying39 aa _ _ _ (by rw [pcs_length, List.length_drop, hl]) (fun j u hu => ?_) (pcs_one _)
    have hj : j < (n - (k + 1)) * 3 := by have := (List.getElem?_eq_some_iff.1 hu).1; rw [pcs_length, List.length_drop, hl] at this; exact this
    rw [haa, if_neg (by omega), Addr.add_lit]
    rw [← pcs_drop, List.getElem?_drop] at hu
    show w.cell? _ = _
    rw [Nat.add_assoc]
    exact hcell _ _ hu
  have hfrD : OwnC B w.drew 3 g o c k (pcs (P.take k)) := hfr.block rfl
  obtain ⟨v2, w2, hr2, hown2, hg2, hob2⟩ := run_append_c (P := Try.prog) w.drew B 39 39 39 37 i0 _ 3 40 Try.underlying39 hi hz0 hz1 hz2 rfl (.slice (some ⟨g, o, none⟩) k c) k _ (.inr ⟨g, o, c, rfl, hfrD⟩) _ (n - (k + 1)) _ hsrc (by unfold maxLen; omega) (by omega) (by have := h.lo; have := h.hi; show _ ≤ w.heap.size; omega)
  have hroom := run_append_room_src (P := Try.prog) w.drew 39 39 39 37 i0 Try.underlying39 hi g o k c (.slice (some aa) (n - (k + 1)) (c - (k + 1))) (n - (k + 1)) (pcs (P.drop (k + 1))) (by rw [hz1]; exact hsrc) (by omega)
    (fun j hj => by rw [hz1, Nat.add_assoc]; rw [pcs_length, List.length_drop, hl] at hj; exact (hfrD.there (k * 3 + j) (by omega)).1) (fun j hj => by rw [hz1, Nat.add_assoc]; rw [pcs_length, List.length_drop, hl] at hj; exact (hfrD.there (k * 3 + j) (by omega)).2)
  rw [hr2] at hroom
  injection hroom with hv2 hw2
  rw [show k + (n - (k + 1)) = n - 1 by omega] at hv2 hown2
  subst hv2
  rw [← pcs_append] at hown2
  have ho2 : OwnC B w2 3 g o c (n - 1) (pcs (P.take k ++ P.drop (k + 1))) := by
    rcases hown2 with ⟨hv, _, _⟩ | ⟨g', o', cap', hv, hc⟩
    · cases hv
    · injection hv with h1 _ h3
      injection h1 with h1
      injection h1 with h1 h2 _
      subst h1; subst h2; subst h3
      exact hc
  have hclr := run_clear_pc w2 g (o + (n - 1) * 3) (c - (n - 1)) (fun j hj => by rw [Nat.add_assoc]; exact (ho2.there ((n - 1) * 3 + j) (by omega)).1) (fun j hj => by rw [Nat.add_assoc]; exact (ho2.there ((n - 1) * 3 + j) (by omega)).2)
  have ho3 := ho2.setBehind (o + (n - 1) * 3) (Nat.le_refl _) [.int .i64 0, .string ⟨#[]⟩, .string ⟨#[]⟩]
  have hg3 : w.grownBy (w2.setCells g (o + (n - 1) * 3) [.int .i64 0, .string ⟨#[]⟩, .string ⟨#[]⟩]) (some g) :=
    grown_setCells g _ _ _ _ (grownBy_trans (⟨rfl, rfl, rfl, Nat.le_refl _, fun _ _ _ => rfl⟩ : w.grownBy w.drew (some g)) hg2)
  obtain ⟨w3, hw3⟩ : ∃ w3, w3 = w2.setCells g (o + (n - 1) * 3) [.int .i64 0, .string ⟨#[]⟩, .string ⟨#[]⟩] := ⟨_, rfl⟩
  rw [← hw3] at hclr ho3 hg3
  have HQ := hid (And.intro ho3 hg3)
  have hel : Try.prog.elem 39 = 37 := by kernel_rfl
  have hsz : ∀ w : World, (sizeOf 37).run Try.prog w = .ok 3 w := fun w => by simp [sizeOf, typeInfo, hi, hz1]
  have hsl : ∀ w : World, (Instr.slice 39 (.slice (some ⟨g, o, none⟩) n c) (some (.int .i64 k)) (some (.int .i64 ((k : Int) + 1))) (some (.int .i64 n))).run Try.prog w = .ok (sliced (some ⟨g, o, none⟩) k (k + 1) n 3) w := fun w => by
    rw [run_slice_lhm w 39 _ n c Try.underlying39 .i64 .i64 .i64 k (k + 1) n (by omega) (by omega) (by omega) (by omega), hel, hsz]
    rw [Result.andThen_ok, show ((k : Int) + 1).toNat = k + 1 by omega]; rfl
  have hs1 : ∀ w : World, (Instr.slice 39 (.slice (some ⟨g, o, none⟩) n c) none (some (.int .i64 k)) none).run Try.prog w = .ok (.slice (some ⟨g, o, none⟩) k c) w := fun w => by
    rw [run_slice_h w 39 _ n c Try.underlying39 .i64 k (by omega) (by omega), hel, hsz]
    simp [sliced, Addr.add_lit]
  have hs2 : ∀ w : World, (Instr.slice 39 (.slice (some ⟨g, o, none⟩) n c) (some (.int .i64 ((k : Int) + 1))) none none).run Try.prog w = .ok (.slice (some aa) (n - (k + 1)) (c - (k + 1))) w := fun w => by
    rw [run_slice_l w 39 _ n c Try.underlying39 .i64 (k + 1) (by omega) (by omega), hel, hsz]
    rw [Result.andThen_ok, show ((k : Int) + 1).toNat = k + 1 by omega, haa, sliced]
    by_cases e : c = k + 1
    · rw [if_pos e, if_pos e]
    · rw [if_neg e, if_neg e]; simp [Addr.add_lit]
  have hs3 : ∀ w : World, (Instr.slice 39 (.slice (some ⟨g, o, none⟩) (n - 1) c) (some (.int .i64 ((n - 1 : Nat) : Int))) (some (.int .i64 n)) none).run Try.prog w = .ok (.slice (some ⟨g, o + (n - 1) * 3, none⟩) 1 (c - (n - 1))) w := fun w => by
    rw [run_slice_lh w 39 _ (n - 1) c Try.underlying39 .i64 .i64 ((n - 1 : Nat) : Int) n (by omega) (by omega) (by omega), hel, hsz]
    rw [Result.andThen_ok, Int.toNat_natCast, Int.toNat_natCast, sliced, if_neg (by omega), show n - (n - 1) = 1 by omega]
    simp [Addr.add_lit]
  have hkk : ((k : Int) == (k : Int) + 1) = false := by simp; omega
  clear h hcap hcm hfr haa hcell hsrc hfrD hown2 hg2 hob2 hw2 ho2 ho3 hg3 hw3 hel hsz hi hz0 hz1 hz2 hl
  go_enter Try.func31, Try.ntmps31
  go_upto_region 5 with fail
  refine wp_region_held (S := fun _ => True) (by kernel_rfl) ?_
  change wpAnyH _ _ _ _ _ _ _ _ (World.drew _)
  refine hTake (i := 0) (d := some 20) (v := .slice (some ⟨g, o, none⟩) n c) (l' := #[true, false, false, false, false, false, false, false]) rfl (by kernel_rfl) (by kernel_rfl) (by kernel_rfl) (by kernel_rfl) (fun _ _ _ h => h) (by kernel_rfl) (fun _ hc => by kernel_rfl) trivial (by kernel_rfl) ?_
  refine hTake (i := 1) (d := some 21) (v := .int .i64 k) (l' := #[true, true, false, false, false, false, false, false]) rfl (by kernel_rfl) (by kernel_rfl) (by kernel_rfl) (by kernel_rfl) (fun _ _ _ h => h) (by kernel_rfl) (fun _ hc => by kernel_rfl) trivial (by kernel_rfl) ?_
  refine hTake (i := 2) (d := some 22) (v := .slice (some ⟨g, o, none⟩) k c) (l' := #[true, true, true, false, false, false, false, false]) rfl (by kernel_rfl) (by kernel_rfl) (by kernel_rfl) (by kernel_rfl) (fun _ _ _ h => h) (by kernel_rfl) (fun _ hc => run_slc 39 (.tmp 20) none (some (.tmp 21)) none (by kernel_rfl) (by kernel_rfl) (by kernel_rfl) (by kernel_rfl) (by kernel_rfl) (by kernel_rfl) (hs1 _)) trivial (by kernel_rfl) ?_
  refine hTake (i := 3) (d := some 23) (v := .slice (some ⟨g, o, none⟩) n c) (l' := #[true, true, true, true, false, false, false, false]) rfl (by kernel_rfl) (by kernel_rfl) (by kernel_rfl) (by kernel_rfl) (fun _ _ _ h => h) (by kernel_rfl) (fun _ hc => by kernel_rfl) trivial (by kernel_rfl) ?_
  refine hTake (i := 4) (d := some 24) (v := .int .i64 ((k : Int) + 1)) (l' := #[true, true, true, true, true, false, false, false]) rfl (by kernel_rfl) (by kernel_rfl) (by kernel_rfl) (by kernel_rfl) (fun _ _ _ h => h) (by kernel_rfl) (fun _ hc => by kernel_rfl) trivial (by kernel_rfl) ?_
  refine hTake (i := 5) (d := some 25) (v := .slice (some aa) (n - (k + 1)) (c - (k + 1))) (l' := #[true, true, true, true, true, true, false, false]) rfl (by kernel_rfl) (by kernel_rfl) (by kernel_rfl) (by kernel_rfl) (fun _ _ _ h => h) (by kernel_rfl) (fun _ hc => run_slc 39 (.tmp 23) (some (.tmp 24)) none none (by kernel_rfl) (by kernel_rfl) (by kernel_rfl) (by kernel_rfl) (by kernel_rfl) (by kernel_rfl) (hs2 _)) trivial (by kernel_rfl) ?_
  refine hOne (i := 6) (by kernel_rfl) ?_
  refine hVal (i := 6) (d := some 26) (v := .slice (some ⟨g, o, none⟩) (n - 1) c) (w' := w2) (l' := #[true, true, true, true, true, true, true, false]) rfl (by kernel_rfl) (by kernel_rfl) (by kernel_rfl) (run_appL (.tmp 22) (.tmp 25) 39 39 39 (by kernel_rfl) (by kernel_rfl) (by kernel_rfl) (by kernel_rfl) hr2) trivial ?_
  refine hOne (i := 7) (by kernel_rfl) ?_
  refine hVal (i := 7) (d := some 0) (v := .slice (some ⟨g, o, none⟩) (n - 1) c) (w' := w2) (l' := #[true, true, true, true, true, true, true, true]) rfl (by kernel_rfl) (by kernel_rfl) (by kernel_rfl) (run_asgL (.tmp 26) (by kernel_rfl) (by kernel_rfl)) trivial ?_
  refine wpAnyH_done (by kernel_rfl) ?_ _
  go_simp
  go_upto_region 6 with fail
  go_wp2
  go_ret
  exact ⟨rfl, HQ.out⟩
end Go.Proofs.Ytfocmmiajcamiaa
