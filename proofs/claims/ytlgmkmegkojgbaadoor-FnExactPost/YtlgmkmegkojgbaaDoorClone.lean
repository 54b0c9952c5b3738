
/-
  strings.Clone.
-/
import Derived.Test.YtlgmkmegkojgbaaDoorMsgV0
import Derived.Lib.UnsafeStr
import Derived.Lib.BufferWrite
import Derived.Lib.SlBuf
namespace Go.Proofs.YtlgmkmegkojgbaaDoor
open Go.RowKit

/-- 'make([]T, n)', for the walk, the world written out. -/
theorem wpList_make_lit {P : Program} (w : World) {ops : Array Oper} {rest : List Oper} {o : Oper} {a : Act} {Q : Exit → Act → World → Prop}
    (hg : o.guard = none) (l c : Operand) (t : TypeId) (hop : o.op = Op.makeSlice t l c)
    (e : TypeId) (i : TypeInfo) (z : Value) (size bytes : Nat) (h1 : P.underlying t = some (.slice e)) (h2 : P.info? e = some i) (h3 : i.zero = some z) (h4 : i.size = size) (h5 : i.bytes = bytes)
    (kl kc : IntKind) (L C : Int) (n : Nat) (hl : a.eval l = .int kl L) (hc : a.eval c = .int kc C) (hL : L = (n : Int)) (hC : C = (n : Int)) (b2 : bytes * n ≤ 281474976710656) (b3 : n ≤ maxLen)
    (hK : wpList P ops Q rest (a.put o.dst (.slice (some ⟨w.heap.size, 0, none⟩) n n)) (w.alloc (.cells (madeCells z.cells (n * size)) e))) :
    wpList P ops Q (o :: rest) a w := by
  subst h4; subst h5; subst hL; subst hC
  refine wpList_plain hg fun K hK' => ?_
  have hb3 : (n : Int) ≤ 9223372036854775807 := by have := b3; simp only [maxLen] at this; omega
  have hb2 : (i.bytes : Int) * (n : Int) ≤ 281474976710656 := by
    have h : ((i.bytes * n : Nat) : Int) ≤ 281474976710656 := by omega
    rwa [Int.natCast_mul] at h
  have hrun := run_make (P := P) w t e i z h1 h2 h3 kl kc n n (by omega) (Int.le_refl _) hb2 hb3
  simp only [Int.toNat_natCast] at hrun
  unfold Oper.wp
  simp [execOp, hop, hl, hc, hrun, Result.andThen]
  exact hK' _ _ hK

theorem Tryd.cellsByte2 : Tryd.prog.cellsOf 5 = 1 := by kernel_rfl
theorem Tryd.sizeByte : (Tryd.prog.info? 5).map (·.size) = some 1 := by kernel_rfl

set_option maxHeartbeats 1000000 in
set_option maxRecDepth 100000 in
theorem sclone_any (s : ByteArray) (w : World) (hs : s.size ≤ 1000) (h0 : s.size ≠ 0) :
    Calls Tryd.prog 94 #[.string s] w fun e w' => e = .returned (.string s) ∧ Below w.heap.size w w' := by
  have h0' : ((s.size : Int) == 0) = false := beq_false_of_ne (by omega)
  obtain ⟨i0, hi, hz0, hz1, hz2⟩ := info_parts Tryd.info5
  obtain ⟨W, hW⟩ : ∃ W, W = w.alloc (.cells (madeCells (Value.int .u8 0).cells (s.size * 1)) 5) := ⟨_, rfl⟩
  have hgW : W.heap[w.heap.size]? = some (.cells (madeCells (Value.int .u8 0).cells (s.size * 1)) 5 (0, 0)) := by rw [hW]; exact heap_alloc_new w _
  have hsz : (madeCells (Value.int .u8 0).cells (s.size * 1)).size = s.size := by simp [madeCells]
  have hcp := Lib.run_copy_row_string (P := Tryd.prog) W 35 9 3 5 w.heap.size 0 s.size s.size s _ _ Tryd.underlying35 Tryd.sizeByte hgW (Nat.le_refl _) (by rw [hsz]; omega)
  have hds : s.data.toList.length = s.size := by rw [Array.length_toList]; rfl
  have hrow : ((madeCells (Value.int .u8 0).cells (s.size * 1)).toList.take 0 ++ Lib.byteCells s.data.toList ++ (madeCells (Value.int .u8 0).cells (s.size * 1)).toList.drop (0 + s.size)).toArray = (Lib.byteCells s.data.toList).toArray := by
    rw [List.drop_of_length_le (by simp [madeCells])]; simp
  rw [hrow] at hcp
  obtain ⟨W2, hW2⟩ : ∃ W2, W2 = W.setRow w.heap.size (Lib.byteCells s.data.toList).toArray := ⟨_, rfl⟩
  have hgW2 : W2.heap[w.heap.size]? = some (.cells (Lib.byteCells s.data.toList).toArray 5 (0, 0)) := by
    rw [hW2]; simp [World.setRow, Array.getElem?_modify, hgW]
  have hb2 : Below w.heap.size w W2 := by
    have hb : Below w.heap.size w W := by rw [hW]; exact (Below.refl _ _).alloc (Nat.le_refl _) _
    refine hb.trans ?_
    rw [hW2]
    refine ⟨rfl, rfl, rfl, by simp [World.setRow], fun k hk => ?_⟩
    simp only [World.setRow, Array.getElem?_modify]
    rw [if_neg (by omega)]
  rw [← hW2] at hcp
  have hUS : (Builtin.unsafeString_ #[135, 3] 9 #[.pointer (some ⟨w.heap.size, 0, none⟩), .int .i64 s.size]).run Tryd.prog W2 = .ok (.string s) (W2.freeze ⟨w.heap.size, 0, none⟩ s.size) := by
    have := Lib.run_unsafeString_row (P := Tryd.prog) W2 135 3 9 5 Tryd.underlying135 Tryd.cellsByte2 w.heap.size s.size (by simp [World.shape?, hgW2, Lib.byteCells_length, hds]) s.data.toList (by intro hh; rw [hh] at hds; simp at hds; omega) (by omega) (by omega) (fun j x hx => by
      rw [Addr.add_lit, Nat.zero_add, Lib.cell_of_heap hgW2]
      simp [Lib.byteCells, hx])
    rw [hds] at this
    simpa using this
  have hbf : Below w.heap.size w (W2.freeze ⟨w.heap.size, 0, none⟩ s.size) := Lib.below_freeze hb2 (p := ⟨w.heap.size, 0, none⟩) (Nat.le_refl _) _
  have hpos : 0 < s.size := by omega
  clear hW2 hgW hgW2 hds hrow hsz hb2
  have HW := hid hW
  clear hW
  go_enter Tryd.func94, Tryd.ntmps94
  go_wp2_with (refine wpList_make_lit _ rfl _ _ 35 rfl 5 i0 (.int .u8 0) 1 1 Tryd.underlying35 hi hz0 hz1 hz2 .i64 .i64 s.size s.size s.size rfl rfl rfl rfl (by omega) (by unfold maxLen; omega) ?_; rw [← HW.out])
  go_wp2_with (at_builtin; refine Lib.wpList_copy_run _ rfl _ _ 35 9 rfl _ _ rfl rfl hcp ?_)
  go_ret
  exact ⟨rfl, hbf⟩

theorem clone_any (s : ByteArray) (w : World) (hs : s.size ≤ 1000) (h0 : s.size ≠ 0) :
    Calls Tryd.prog 93 #[.string s] w fun e w' => e = .returned (.string s) ∧ Below w.heap.size w w' := by
  go_enter Tryd.func93, Tryd.ntmps93
  go_wp2_with fail
  refine (sclone_any s _ hs h0).mono ?_
  rintro e w' ⟨rfl, hb⟩
  go_wp2
  go_ret
  exact ⟨rfl, hb⟩
end Go.Proofs.YtlgmkmegkojgbaaDoor
