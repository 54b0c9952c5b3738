
/-
  slices.Delete of one parcel.
-/
import Derived.Test.YtlgmkmegkojgbaaDoorNls
namespace Go.Proofs.YtlgmkmegkojgbaaDoor
open Go.RowKit

theorem OwnC.front {B : Nat} {w : World} {size g o cap n k : Nat} {xs : List Value} (h : OwnC B w size g o cap n xs) (hk : k ≤ n) : OwnC B w size g o cap k (xs.take (k * size)) where
  lo := h.lo
  hi := h.hi
  le := Nat.le_trans hk h.le
  max := h.max
  len := by rw [List.length_take, h.len]; exact Nat.min_eq_left (Nat.mul_le_mul_right _ hk)
  holds := fun j hj => by
    rw [List.getElem?_take, if_pos hj]
    exact h.holds j (Nat.lt_of_lt_of_le hj (Nat.mul_le_mul_right _ hk))
  there := h.there
theorem OwnC.setBehind {B : Nat} {w : World} {size g o cap n : Nat} {xs : List Value} (h : OwnC B w size g o cap n xs) (o' : Nat) (ho : o + n * size ≤ o') (vs : List Value) : OwnC B (w.setCells g o' vs) size g o cap n xs where
  lo := h.lo
  hi := by rw [size_setCells']; exact h.hi
  le := h.le
  max := h.max
  len := h.len
  holds := fun j hj => by
    rw [World.cell?_setCells_out g vs _ w _ (fun _ _ => .inl (by simp; omega))]
    exact h.holds j hj
  there := fun j hj => ⟨isSome_setCells' g vs _ w _ (h.there j hj).1, by rw [World.frozen?_setCells]; exact (h.there j hj).2⟩

theorem run_clear_pc (w : World) (b o c : Nat) (hc : ∀ j, j < 3 → (w.cell? ⟨b, o + j, none⟩).isSome = true) (hf : ∀ j, j < 3 → w.frozen? ⟨b, o + j, none⟩ = false) (ty : TypeId) :
    (Builtin.clear_ #[84] ty #[.slice (some ⟨b, o, none⟩) 1 c]).run Tryd.prog w = .ok (.tuple #[]) (w.setCells b o [.int .i64 0, .string ⟨#[]⟩, .string ⟨#[]⟩]) := by
  obtain ⟨i0, hi, hz0, hz1, hz2⟩ := info_parts Tryd.infoPc
  have hv : ∀ w : World, (zeroValue 45).run Tryd.prog w = .ok (.agg #[.int .i64 0, .string ⟨#[]⟩, .string ⟨#[]⟩]) w := fun w => by simp [zeroValue, typeInfo, hi, hz0]
  have hzc : (Builtin.zeroCells (Value.agg #[.int .i64 0, .string ⟨#[]⟩, .string ⟨#[]⟩]).cells 1).toList = [.int .i64 0, .string ⟨#[]⟩, .string ⟨#[]⟩] := by kernel_rfl
  have hst := run_storeCells_cells (P := Tryd.prog) b o [.int .i64 0, .string ⟨#[]⟩, .string ⟨#[]⟩] 0 w (by simpa using hc) (by simpa using hf) (by
    intro v hv'
    simp only [List.mem_cons, List.not_mem_nil, or_false] at hv'
    rcases hv' with rfl | rfl | rfl <;> rfl)
  simp only [Nat.add_zero] at hst
  simp [Builtin.clear_, run_underlying Tryd.underlying84, hv, hzc, hst]

theorem run_slc {ρ : Operand → Value} {o : Oper} {w : World} {v xv : Value} {lv hv mv : Option Value} (T : TypeId) (x : Operand) (lo hi mx : Option Operand) (hu : Tryd.prog.underlying T = some (.slice (Tryd.prog.elem T))) (h : o.op = .slice T x lo hi mx) (hx : ρ x = xv) (hl : lo.map ρ = lv) (hh : hi.map ρ = hv) (hm : mx.map ρ = mv) (hr : (Instr.slice T xv lv hv mv).run Tryd.prog w = .ok v w) : (execOp ρ o).run Tryd.prog w = .ok (.value v) w := by
  subst hx; subst hl; subst hh; subst hm
  unfold execOp
  simp only [h, Sem.run_bind, run_sliceAt_slice w T _ _ _ _ hu, hr, Result.andThen_ok, Sem.run_pure]
theorem run_asgL {ρ : Operand → Value} {o : Oper} {w : World} {v : Value} (x : Operand) (h : o.op = .assign x) (hx : ρ x = v) : (execOp ρ o).run Tryd.prog w = .ok (.value v) w := by
  unfold execOp
  rw [h]
  simp [go_sem, hx]

end Go.Proofs.YtlgmkmegkojgbaaDoor
