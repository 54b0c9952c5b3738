import Derived.Test.YthopfmhagddhgaaGreatQCel
import Derived.Lib.UnsafeStr
import Derived.Lib.BufferWrite
import Derived.Lib.SlBuf
import Derived.Test.YthopfmhagddhgaaGreatQEnf
namespace Go.Proofs.YthopfmhagddhgaaGreat
open Go.RowKit

/-- 'make([]T, n)', for the walk, the world written out. -/
theorem wpList_make_lit {P : Program} (w : World) {ops : Array Oper} {rest : List Oper} {o : Oper} {a : Act} {Q : Exit → Act → World → Prop}
    (hg : o.guard = none) (l c : Operand) (t : TypeId) (hop : o.op = Op.makeSlice t l c)
    (e : TypeId) (i : TypeInfo) (z : Value) (size bytes : Nat) (h1 : P.underlying t = some (.slice e)) (h2 : P.info? e = some i) (h3 : i.zero = some z) (h4 : i.size = size) (h5 : i.bytes = bytes)
    (kl kc : IntKind) (L C : Int) (n : Nat) (hl : a.eval l = .int kl L) (hc : a.eval c = .int kc C) (hL : L = (n : Int)) (hC : C = (n : Int)) (b2 : bytes * n ≤ 281474976710656) (b3 : n ≤ maxLen)
    (hK : wpList P ops Q rest (a.put o.dst (.slice (some ⟨w.heap.size, 0, none⟩) n n)) (w.alloc (.cells (madeCells z.cells (n * size)) e))) :
    wpList P ops Q (o :: rest) a w := by
  subst h4; subst h5; subst hL; subst hC
  refine wpList_plain hg fun K hK' => ?_
  have hb3 : (n : Int) ≤ 9223372036854775807 := by have := b3; simp only [maxLen] at this; omega
  have hb2 : (i.bytes : Int) * (n : Int) ≤ 281474976710656 := by
    have h : ((i.bytes * n : Nat) : Int) ≤ 281474976710656 := by omega
    rwa [Int.natCast_mul] at h
  have hrun := run_make (P := P) w t e i z h1 h2 h3 kl kc n n (by omega) (Int.le_refl _) hb2 hb3
  simp only [Int.toNat_natCast] at hrun
  unfold Oper.wp
  simp [execOp, hop, hl, hc, hrun, Result.andThen]
  exact hK' _ _ hK

theorem Tryz.cellsByte2 : Tryz.prog.cellsOf 5 = 1 := by kernel_rfl
theorem Tryz.sizeByte : (Tryz.prog.info? 5).map (·.size) = some 1 := by kernel_rfl

set_option maxHeartbeats 1000000 in
set_option maxRecDepth 100000 in
theorem sclone_any (s : ByteArray) (w : World) (hs : s.size ≤ 1000) (h0 : s.size ≠ 0) :
    Calls Tryz.prog 146 #[.string s] w fun e w' => e = .returned (.string s) ∧ Below w.heap.size w w' := by
  have h0' : ((s.size : Int) == 0) = false := beq_false_of_ne (by omega)
  obtain ⟨i0, hi, hz0, hz1, hz2⟩ := info_parts Tryz.info5
  obtain ⟨W, hW⟩ : ∃ W, W = w.alloc (.cells (madeCells (Value.int .u8 0).cells (s.size * 1)) 5) := ⟨_, rfl⟩
  have hgW : W.heap[w.heap.size]? = some (.cells (madeCells (Value.int .u8 0).cells (s.size * 1)) 5 (0, 0)) := by rw [hW]; exact heap_alloc_new w _
  have hsz : (madeCells (Value.int .u8 0).cells (s.size * 1)).size = s.size := by simp [madeCells]
  have hcp := Lib.run_copy_row_string (P := Tryz.prog) W 180 9 3 5 w.heap.size 0 s.size s.size s _ _ Tryz.underlying180 Tryz.sizeByte hgW (Nat.le_refl _) (by rw [hsz]; omega)
  have hds : s.data.toList.length = s.size := by rw [Array.length_toList]; rfl
  have hrow : ((madeCells (Value.int .u8 0).cells (s.size * 1)).toList.take 0 ++ Lib.byteCells s.data.toList ++ (madeCells (Value.int .u8 0).cells (s.size * 1)).toList.drop (0 + s.size)).toArray = (Lib.byteCells s.data.toList).toArray := by
    rw [List.drop_of_length_le (by simp [madeCells])]; simp
  rw [hrow] at hcp
  obtain ⟨W2, hW2⟩ : ∃ W2, W2 = W.setRow w.heap.size (Lib.byteCells s.data.toList).toArray := ⟨_, rfl⟩
  have hgW2 : W2.heap[w.heap.size]? = some (.cells (Lib.byteCells s.data.toList).toArray 5 (0, 0)) := by
    rw [hW2]; simp [World.setRow, Array.getElem?_modify, hgW]
  have hb2 : Below w.heap.size w W2 := by
    have hb : Below w.heap.size w W := by rw [hW]; exact (Below.refl _ _).alloc (Nat.le_refl _) _
    refine hb.trans ?_
    rw [hW2]
    refine ⟨rfl, rfl, rfl, by simp [World.setRow], fun k hk => ?_⟩
    simp only [World.setRow, Array.getElem?_modify]
    rw [if_neg (by omega)]
  rw [← hW2] at hcp
  have hUS : (Builtin.unsafeString_ #[215, 3] 9 #[.pointer (some ⟨w.heap.size, 0, none⟩), .int .i64 s.size]).run Tryz.prog W2 = .ok (.string s) (W2.freeze ⟨w.heap.size, 0, none⟩ s.size) := by
    have := Lib.run_unsafeString_row (P := Tryz.prog) W2 215 3 9 5 Tryz.underlying215 Tryz.cellsByte2 w.heap.size s.size (by simp [World.shape?, hgW2, Lib.byteCells_length, hds]) s.data.toList (by intro hh; rw [hh] at hds; simp at hds; omega) (by omega) (by omega) (fun j x hx => by
      rw [Addr.add_lit, Nat.zero_add, Lib.cell_of_heap hgW2]
      simp [Lib.byteCells, hx])
    rw [hds] at this
    simpa using this
  have hbf : Below w.heap.size w (W2.freeze ⟨w.heap.size, 0, none⟩ s.size) := Lib.below_freeze hb2 (p := ⟨w.heap.size, 0, none⟩) (Nat.le_refl _) _
  have hpos : 0 < s.size := by omega
  clear hW2 hgW hgW2 hds hrow hsz hb2
  have HW := hid hW
  clear hW
  go_enter Tryz.func146, Tryz.ntmps146
  go_wp2_with (refine wpList_make_lit _ rfl _ _ 180 rfl 5 i0 (.int .u8 0) 1 1 Tryz.underlying180 hi hz0 hz1 hz2 .i64 .i64 s.size s.size s.size rfl rfl rfl rfl (by omega) (by unfold maxLen; omega) ?_; rw [← HW.out])
  go_wp2_with (at_builtin; refine Lib.wpList_copy_run _ rfl _ _ 180 9 rfl _ _ rfl rfl hcp ?_)
  go_ret
  exact ⟨rfl, hbf⟩

theorem clone_any (s : ByteArray) (w : World) (hs : s.size ≤ 1000) (h0 : s.size ≠ 0) :
    Calls Tryz.prog 145 #[.string s] w fun e w' => e = .returned (.string s) ∧ Below w.heap.size w w' := by
  go_enter Tryz.func145, Tryz.ntmps145
  go_wp2_with fail
  refine (sclone_any s _ hs h0).mono ?_
  rintro e w' ⟨rfl, hb⟩
  go_wp2
  go_ret
  exact ⟨rfl, hb⟩
end Go.Proofs.YthopfmhagddhgaaGreat

namespace Go.Proofs.YthopfmhagddhgaaGreat
open Go.RowKit

/-- A reader in block b, with no fault yet; with one. -/
structure RdOk (w : World) (b : Nat) (rest : ByteArray) : Prop where
  c0 : w.cell? ⟨b, 0, none⟩ = some (.string rest)
  c1 : w.cell? ⟨b, 1, none⟩ = some .nilIface
  f0 : w.frozen? ⟨b, 0, none⟩ = false
  f1 : w.frozen? ⟨b, 1, none⟩ = false
structure RdBad (w : World) (b : Nat) (e : Addr) (rest : ByteArray) : Prop where
  c0 : w.cell? ⟨b, 0, none⟩ = some (.string rest)
  c1 : w.cell? ⟨b, 1, none⟩ = some (.iface 212 (.pointer (some e)))
  f0 : w.frozen? ⟨b, 0, none⟩ = false
  f1 : w.frozen? ⟨b, 1, none⟩ = false

theorem grown_below {w w' : World} (h : Below w.heap.size w w') (row : Option Nat) : w.grownBy w' row := ⟨h.os, h.tape, h.output, h.size, fun k hk _ => h.block k hk⟩

set_option maxHeartbeats 1000000 in
set_option maxRecDepth 100000 in
theorem text_ok (b sz : Nat) (rest : ByteArray) (w : World) (h : RdOk w b rest) (hsz : sz ≤ rest.size) (h1 : 0 < sz) (h8 : sz ≤ 8) :
    Calls Tryz.prog 140 #[.pointer (some ⟨b, 0, none⟩), .int .i64 sz] w fun e w' => e = .returned (.string (rest.extract 0 sz)) ∧ RdOk w' b (rest.extract sz rest.size) ∧ w.grownBy w' (some b) := by
  obtain ⟨c0, c1, f0, f1⟩ := h
  go_enter Tryz.func140, Tryz.ntmps140
  have hx : (rest.extract 0 sz).size = sz := by rw [ByteArray.size_extract]; omega
  have hblt : b < w.heap.size := World.block_lt_of_cell? _ _ c0
  go_wp2_with fail
  refine (clone_any _ _ (by omega) (by omega)).mono ?_
  rintro e w1 ⟨rfl, hb1⟩
  have d0 : w1.cell? ⟨b, 0, none⟩ = some (.string rest) := (hb1.cell (p := ⟨b, 0, none⟩) hblt).trans c0
  have d1 : w1.cell? ⟨b, 1, none⟩ = some .nilIface := (hb1.cell (p := ⟨b, 1, none⟩) hblt).trans c1
  have g0 : w1.frozen? ⟨b, 0, none⟩ = false := (hb1.frozen (p := ⟨b, 0, none⟩) hblt).trans f0
  have g1 : w1.frozen? ⟨b, 1, none⟩ = false := (hb1.frozen (p := ⟨b, 1, none⟩) hblt).trans f1
  go_wp2
  go_ret
  refine ⟨rfl, ⟨?_, ?_, ?_, ?_⟩, ?_⟩
  · rw [World.cell?_setCell_same _ _ _ d0]
  · rw [World.cell?_setCell_other _ _ _ _ (by intro hh; injection hh with _ h2 _; omega)]; exact d1
  · rw [World.frozen?_setCell]; exact g0
  · rw [World.frozen?_setCell]; exact g1
  · exact gset (grown_below hb1 _) 0 _

set_option maxHeartbeats 1000000 in
set_option maxRecDepth 100000 in
theorem text_short (b sz : Nat) (rest : ByteArray) (w : World) (h : RdOk w b rest) (hsz : rest.size < sz) :
    Calls Tryz.prog 140 #[.pointer (some ⟨b, 0, none⟩), .int .i64 sz] w fun e w' => e = .returned (.string ⟨#[]⟩) ∧ (∃ a, RdBad w' b a rest) ∧ w.grownBy w' (some b) := by
  obtain ⟨c0, c1, f0, f1⟩ := h
  have hblt : b < w.heap.size := World.block_lt_of_cell? _ _ c0
  go_enter Tryz.func140, Tryz.ntmps140
  go_wp2
  go_ret
  refine ⟨rfl, ⟨⟨w.heap.size, 0, none⟩, ⟨?_, ?_, ?_, ?_⟩⟩, ?_⟩
  · rw [World.cell?_alloc_lt _ _ ⟨b, 0, none⟩ (by simpa using hblt), World.cell?_setCell_other _ _ _ _ (by intro hh; injection hh with _ h2 _; omega)]; exact c0
  · rw [World.cell?_alloc_lt _ _ ⟨b, 1, none⟩ (by simpa using hblt), World.cell?_setCell_same _ _ _ c1]
  · rw [World.frozen?_alloc_old _ _ ⟨b, 0, none⟩ (by simp; omega), World.frozen?_setCell]; exact f0
  · rw [World.frozen?_alloc_old _ _ ⟨b, 1, none⟩ (by simp; omega), World.frozen?_setCell]; exact f1
  · exact galloc (gset (World.grownBy.refl w (some b)) 1 _) _

set_option maxHeartbeats 1000000 in
set_option maxRecDepth 100000 in
theorem text_bad (b sz : Nat) (a : Addr) (rest : ByteArray) (w : World) (h : RdBad w b a rest) :
    Calls Tryz.prog 140 #[.pointer (some ⟨b, 0, none⟩), .int .i64 sz] w fun e w' => e = .returned (.string ⟨#[]⟩) ∧ RdBad w' b a rest ∧ w.grownBy w' (some b) := by
  obtain ⟨c0, c1, f0, f1⟩ := h
  go_enter Tryz.func140, Tryz.ntmps140
  go_wp2
  go_ret
  exact ⟨rfl, ⟨c0, c1, f0, f1⟩, World.grownBy.refl _ _⟩

def beV (l : List UInt8) : Int := l.foldl (fun n b => n * 256 + (b.toNat : Int)) 0
theorem beV_snoc (l : List UInt8) (b : UInt8) : beV (l ++ [b]) = beV l * 256 + (b.toNat : Int) := by simp [beV]

theorem beV_bound (l : List UInt8) : 0 ≤ beV l ∧ beV l < 256 ^ l.length := by
  have key : ∀ (l : List UInt8) (n : Int) (m : Nat), 0 ≤ n → n < 256 ^ m → 0 ≤ l.foldl (fun n b => n * 256 + (b.toNat : Int)) n ∧ l.foldl (fun n b => n * 256 + (b.toNat : Int)) n < 256 ^ (m + l.length) := by
    intro l
    induction l with
    | nil => intro n m h0 h1; exact ⟨h0, by simpa using h1⟩
    | cons b r ih =>
      intro n m h0 h1
      have hb : b.toNat < 256 := b.toNat_lt
      have := ih (n * 256 + (b.toNat : Int)) (m + 1) (by omega) (by rw [Int.pow_succ]; omega)
      simpa [Nat.add_assoc, Nat.add_comm 1] using this
  have := key l 0 0 (by omega) (by simp)
  rw [Nat.zero_add] at this
  exact this
theorem bits_or_byte (n : Int) (b : UInt8) (h0 : 0 ≤ n) (h1 : n < 16777216) : bits BinOp.or IntKind.i64 (n * 256) (wrap64 (b.toNat : Int)) = n * 256 + (b.toNat : Int) := by
  have hb : b.toNat < 256 := b.toNat_lt
  obtain ⟨m, rfl⟩ : ∃ m : Nat, n = m := ⟨n.toNat, by omega⟩
  have hw : wrap64 (b.toNat : Int) = (b.toNat : Int) := by unfold wrap64; omega
  rw [hw, show (m : Int) * 256 = ((m * 256 : Nat) : Int) by omega]
  have e1 : (BitVec.ofInt 64 ((m * 256 : Nat) : Int)).toNat = m * 256 := by
    rw [BitVec.ofInt_natCast, BitVec.toNat_ofNat]; exact Nat.mod_eq_of_lt (by omega)
  have e2 : (BitVec.ofInt 64 (b.toNat : Int)).toNat = b.toNat := by
    rw [BitVec.ofInt_natCast, BitVec.toNat_ofNat]; exact Nat.mod_eq_of_lt (by omega)
  show IntKind.i64.wrap ((BitVec.ofInt 64 ((m * 256 : Nat) : Int) ||| BitVec.ofInt 64 (b.toNat : Int)).toNat : Int) = _
  rw [BitVec.toNat_or, e1, e2]
  have e3 : m * 256 ||| b.toNat = m * 256 + b.toNat := by
    have := Nat.two_pow_add_eq_or_of_lt (i := 8) (b := b.toNat) (by omega) m
    rw [Nat.mul_comm]; simpa using this.symm
  rw [e3, IntKind.wrap_i64]
  omega

set_option maxHeartbeats 1000000 in
set_option maxRecDepth 100000 in
theorem number_ok (b sz : Nat) (rest : ByteArray) (w : World) (h : RdOk w b rest) (hsz : sz ≤ rest.size) (h1 : 0 < sz) (h4 : sz ≤ 4) :
    Calls Tryz.prog 139 #[.pointer (some ⟨b, 0, none⟩), .int .i64 sz] w fun e w' => e = .returned (.int .i64 (beV (rest.extract 0 sz).data.toList)) ∧ RdOk w' b (rest.extract sz rest.size) ∧ w.grownBy w' (some b) := by
  have hx : (rest.extract 0 sz).size = sz := by rw [ByteArray.size_extract]; omega
  go_enter Tryz.func139, Tryz.ntmps139
  go_wp2_with fail
  refine (text_ok b sz rest _ h hsz h1 (by omega)).mono ?_
  rintro e w1 ⟨rfl, hr, hb⟩
  obtain ⟨s, hs⟩ : ∃ s, s = rest.extract 0 sz := ⟨_, rfl⟩
  rw [← hs] at hx ⊢
  have HSX := hid hs
  clear hs
  go_wp2
  go_loop [5, 7] (fun v i => ∃ k : Nat, k ≤ sz ∧ i = .int .i64 k ∧ ∃ n : Int, v = .int .i64 n ∧ n = beV (s.data.toList.take k)) (fun _ i => sz - (intOf i).toNat)
  case atStart => exact ⟨0, Nat.zero_le _, rfl, 0, rfl, rfl⟩
  case round =>
    obtain ⟨k, hk, rfl, n, rfl, hn⟩ := hrel
    have hbd := beV_bound (s.data.toList.take k)
    rw [← hn] at hbd
    have HN := hid hn
    clear hn
    by_cases hlt : k < sz
    · have hlk : (s.data.toList.take k).length ≤ 3 := by rw [List.length_take]; omega
      have hn0 := hbd.1
      have hn1 : n < 16777216 := by
        refine Int.lt_of_lt_of_le hbd.2 ?_
        have h3 : ∀ j : Nat, j ≤ 3 → (256 : Int) ^ j ≤ 16777216 := fun j hj => by
          rcases (show j = 0 ∨ j = 1 ∨ j = 2 ∨ j = 3 by omega) with rfl | rfl | rfl | rfl <;> decide
        exact h3 _ hlk
      have hks : k < s.size := by omega
      have HS : Hid (beV (s.data.toList.take (k + 1)) = beV (s.data.toList.take k) * 256 + (s[k].toNat : Int)) := by rw [take_snoc s k hks]; exact beV_snoc _ _
      clear hbd hlk
      go_wp2
      go_round
      case rel => exact ⟨k + 1, by omega, by go_num, _, rfl, by rw [bits_or_byte _ _ hn0 hn1, HS.out, ← HN.out]⟩
      case measure => simp [intOf]; omega
    · obtain rfl : k = sz := by omega
      go_wp2
      go_ret
      exact ⟨ret_int (by rw [HN.out, List.take_of_length_le (by rw [Array.length_toList]; exact Nat.le_of_eq hx), HSX.out]; simp), hr, hb⟩

set_option maxHeartbeats 1000000 in
set_option maxRecDepth 100000 in
theorem number_short (b sz : Nat) (rest : ByteArray) (w : World) (h : RdOk w b rest) (hsz : rest.size < sz) :
    Calls Tryz.prog 139 #[.pointer (some ⟨b, 0, none⟩), .int .i64 sz] w fun e w' => e = .returned (.int .i64 0) ∧ (∃ a, RdBad w' b a rest) ∧ w.grownBy w' (some b) := by
  go_enter Tryz.func139, Tryz.ntmps139
  go_wp2_with fail
  refine (text_short b sz rest _ h hsz).mono ?_
  rintro e w1 ⟨rfl, hr, hb⟩
  have hr' := hid hr
  clear hr
  go_wp2
  go_loop [5, 7] (fun v i => v = .int .i64 0 ∧ i = .int .i64 0) (fun _ _ => 0)
  case atStart => exact ⟨rfl, rfl⟩
  case round =>
    obtain ⟨rfl, rfl⟩ := hrel
    go_wp2
    go_ret
    exact ⟨rfl, hr'.out, hb⟩

set_option maxHeartbeats 1000000 in
set_option maxRecDepth 100000 in
theorem number_bad (b sz : Nat) (a : Addr) (rest : ByteArray) (w : World) (h : RdBad w b a rest) :
    Calls Tryz.prog 139 #[.pointer (some ⟨b, 0, none⟩), .int .i64 sz] w fun e w' => e = .returned (.int .i64 0) ∧ RdBad w' b a rest ∧ w.grownBy w' (some b) := by
  go_enter Tryz.func139, Tryz.ntmps139
  go_wp2_with fail
  refine (text_bad b sz a rest _ h).mono ?_
  rintro e w1 ⟨rfl, hr, hb⟩
  go_wp2
  go_loop [5, 7] (fun v i => v = .int .i64 0 ∧ i = .int .i64 0) (fun _ _ => 0)
  case atStart => exact ⟨rfl, rfl⟩
  case round =>
    obtain ⟨rfl, rfl⟩ := hrel
    go_wp2
    go_ret
    exact ⟨rfl, hr, hb⟩

set_option maxHeartbeats 1000000 in
set_option maxRecDepth 100000 in
theorem end_ok (b : Nat) (rest : ByteArray) (w : World) (h : RdOk w b rest) (h0 : rest.size = 0) :
    Calls Tryz.prog 141 #[.pointer (some ⟨b, 0, none⟩)] w fun e w' => e = .returned .nilIface ∧ w.grownBy w' (some b) := by
  obtain ⟨c0, c1, f0, f1⟩ := h
  have he := empty_t h0
  go_enter Tryz.func141, Tryz.ntmps141
  go_wp2
  go_ret
  exact ⟨rfl, World.grownBy.refl _ _⟩

set_option maxHeartbeats 1000000 in
set_option maxRecDepth 100000 in
theorem end_long (b : Nat) (rest : ByteArray) (w : World) (h : RdOk w b rest) (h0 : ¬ rest.size = 0) :
    Calls Tryz.prog 141 #[.pointer (some ⟨b, 0, none⟩)] w fun e w' => (∃ a, e = .returned (.iface 212 (.pointer (some a)))) ∧ w.grownBy w' (some b) := by
  obtain ⟨c0, c1, f0, f1⟩ := h
  have he := empty_f h0
  have hblt : b < w.heap.size := World.block_lt_of_cell? _ _ c0
  go_enter Tryz.func141, Tryz.ntmps141
  go_wp2
  go_ret
  exact ⟨⟨_, rfl⟩, galloc (gset (World.grownBy.refl w (some b)) 1 _) _⟩

set_option maxHeartbeats 1000000 in
set_option maxRecDepth 100000 in
theorem end_bad (b : Nat) (a : Addr) (rest : ByteArray) (w : World) (h : RdBad w b a rest) :
    Calls Tryz.prog 141 #[.pointer (some ⟨b, 0, none⟩)] w fun e w' => e = .returned (.iface 212 (.pointer (some a))) ∧ w.grownBy w' (some b) := by
  obtain ⟨c0, c1, f0, f1⟩ := h
  go_enter Tryz.func141, Tryz.ntmps141
  go_wp2
  go_ret
  exact ⟨rfl, World.grownBy.refl _ _⟩

/-! ### by lists -/
def RdL (w : World) (b : Nat) (l : List UInt8) : Prop := ∃ rest : ByteArray, rest.data.toList = l ∧ RdOk w b rest
theorem ext_list (s : ByteArray) (i j : Nat) : (s.extract i j).data.toList = (s.data.toList.take j).drop i := by simp [List.drop_take, ByteArray.data_extract]
theorem RdL.block {w w' : World} {b : Nat} {l : List UInt8} (h : RdL w b l) (hb : w'.heap[b]? = w.heap[b]?) : RdL w' b l := by
  obtain ⟨rest, hl, c0, c1, f0, f1⟩ := h
  exact ⟨rest, hl, (World.cell?_of_block (w := w) (a := ⟨b, 0, none⟩) hb).trans c0, (World.cell?_of_block (w := w) (a := ⟨b, 1, none⟩) hb).trans c1, (World.frozen?_of_block (w := w) (a := ⟨b, 0, none⟩) hb).trans f0, (World.frozen?_of_block (w := w) (a := ⟨b, 1, none⟩) hb).trans f1⟩
theorem RdL.lt {w : World} {b : Nat} {l : List UInt8} (h : RdL w b l) : b < w.heap.size := by
  obtain ⟨rest, hl, c0, _⟩ := h
  exact World.block_lt_of_cell? _ _ c0
/-- A reader with a fault. -/
def RdX (w : World) (b : Nat) : Prop := ∃ a rest, RdBad w b a rest
theorem RdX.block {w w' : World} {b : Nat} (h : RdX w b) (hb : w'.heap[b]? = w.heap[b]?) : RdX w' b := by
  obtain ⟨a, rest, c0, c1, f0, f1⟩ := h
  exact ⟨a, rest, (World.cell?_of_block (w := w) (a := ⟨b, 0, none⟩) hb).trans c0, (World.cell?_of_block (w := w) (a := ⟨b, 1, none⟩) hb).trans c1, (World.frozen?_of_block (w := w) (a := ⟨b, 0, none⟩) hb).trans f0, (World.frozen?_of_block (w := w) (a := ⟨b, 1, none⟩) hb).trans f1⟩
theorem RdX.lt {w : World} {b : Nat} (h : RdX w b) : b < w.heap.size := by
  obtain ⟨a, rest, c0, _⟩ := h
  exact World.block_lt_of_cell? _ _ c0

theorem number_L (b sz : Nat) (l : List UInt8) (w : World) (h : RdL w b l) (hsz : sz ≤ l.length) (h1 : 0 < sz) (h4 : sz ≤ 4) :
    Calls Tryz.prog 139 #[.pointer (some ⟨b, 0, none⟩), .int .i64 sz] w fun e w' => e = .returned (.int .i64 (beV (l.take sz))) ∧ RdL w' b (l.drop sz) ∧ w.grownBy w' (some b) := by
  obtain ⟨rest, hl, h⟩ := h
  have hrs : rest.size = l.length := by rw [← hl, Array.length_toList]; rfl
  refine (number_ok b sz rest w h (by omega) h1 h4).mono ?_
  rintro e w' ⟨rfl, hr, hg⟩
  refine ⟨ret_int (by rw [ext_list, hl]; simp), ⟨_, ?_, hr⟩, hg⟩
  rw [ext_list, hl, hrs, List.take_length]
theorem text_L (b sz : Nat) (l : List UInt8) (w : World) (h : RdL w b l) (hsz : sz ≤ l.length) (h1 : 0 < sz) (h8 : sz ≤ 8) :
    Calls Tryz.prog 140 #[.pointer (some ⟨b, 0, none⟩), .int .i64 sz] w fun e w' => e = .returned (.string ⟨(l.take sz).toArray⟩) ∧ RdL w' b (l.drop sz) ∧ w.grownBy w' (some b) := by
  obtain ⟨rest, hl, h⟩ := h
  have hrs : rest.size = l.length := by rw [← hl, Array.length_toList]; rfl
  refine (text_ok b sz rest w h (by omega) h1 h8).mono ?_
  rintro e w' ⟨rfl, hr, hg⟩
  refine ⟨ret_str ?_, ⟨_, ?_, hr⟩, hg⟩
  · rw [← hl]
    have := ext_list rest 0 sz
    rw [List.drop_zero] at this
    rw [← this]
  · rw [ext_list, hl, hrs, List.take_length]
theorem text_S (b sz : Nat) (l : List UInt8) (w : World) (h : RdL w b l) (hsz : l.length < sz) :
    Calls Tryz.prog 140 #[.pointer (some ⟨b, 0, none⟩), .int .i64 sz] w fun e w' => e = .returned (.string ⟨#[]⟩) ∧ RdX w' b ∧ w.grownBy w' (some b) := by
  obtain ⟨rest, hl, h⟩ := h
  have hrs : rest.size = l.length := by rw [← hl, Array.length_toList]; rfl
  refine (text_short b sz rest w h (by omega)).mono ?_
  rintro e w' ⟨rfl, ⟨a, hr⟩, hg⟩
  exact ⟨rfl, ⟨a, rest, hr⟩, hg⟩
theorem text_X (b sz : Nat) (w : World) (h : RdX w b) :
    Calls Tryz.prog 140 #[.pointer (some ⟨b, 0, none⟩), .int .i64 sz] w fun e w' => e = .returned (.string ⟨#[]⟩) ∧ RdX w' b ∧ w.grownBy w' (some b) := by
  obtain ⟨a, rest, h⟩ := h
  refine (text_bad b sz a rest w h).mono ?_
  rintro e w' ⟨rfl, hr, hg⟩
  exact ⟨rfl, ⟨a, rest, hr⟩, hg⟩

/-- Where the bytes may not be enough: N bytes in all, c of them asked for. -/
def RdQ (w : World) (b N c : Nat) : Prop := (∃ l, RdL w b l ∧ l.length + c = N) ∨ RdX w b
theorem RdQ.block {w w' : World} {b N c : Nat} (h : RdQ w b N c) (hb : w'.heap[b]? = w.heap[b]?) : RdQ w' b N c := by
  rcases h with ⟨l, h, hc⟩ | h
  · exact .inl ⟨l, h.block hb, hc⟩
  · exact .inr (h.block hb)
theorem RdQ.lt {w : World} {b N c : Nat} (h : RdQ w b N c) : b < w.heap.size := by
  rcases h with ⟨l, h, hc⟩ | h
  · exact h.lt
  · exact h.lt
theorem number_Q (b sz N c : Nat) (w : World) (h : RdQ w b N c) (h1 : 0 < sz) (h4 : sz ≤ 4) :
    Calls Tryz.prog 139 #[.pointer (some ⟨b, 0, none⟩), .int .i64 sz] w fun e w' => (∃ n, e = .returned (.int .i64 n) ∧ (N < c + sz → n = 0)) ∧ RdQ w' b N (c + sz) ∧ w.grownBy w' (some b) := by
  rcases h with ⟨l, h, hc⟩ | ⟨a, rest, h⟩
  · by_cases hsz : sz ≤ l.length
    · refine (number_L b sz l w h hsz h1 h4).mono ?_
      rintro e w' ⟨rfl, hr, hg⟩
      exact ⟨⟨_, rfl, fun hh => by omega⟩, .inl ⟨_, hr, by rw [List.length_drop]; omega⟩, hg⟩
    · obtain ⟨rest, hl, h⟩ := h
      have hrs : rest.size = l.length := by rw [← hl, Array.length_toList]; rfl
      refine (number_short b sz rest w h (by omega)).mono ?_
      rintro e w' ⟨rfl, ⟨a, hr⟩, hg⟩
      exact ⟨⟨_, rfl, fun _ => rfl⟩, .inr ⟨a, rest, hr⟩, hg⟩
  · refine (number_bad b sz a rest w h).mono ?_
    rintro e w' ⟨rfl, hr, hg⟩
    exact ⟨⟨_, rfl, fun _ => rfl⟩, .inr ⟨a, rest, hr⟩, hg⟩
end Go.Proofs.YthopfmhagddhgaaGreat

namespace Go.Proofs.YthopfmhagddhgaaGreat
open Go.RowKit

/-- A reader's state: what is left, and whether all is well. -/
abbrev RQ := List UInt8 × Bool
def rdOk (sz : Nat) (q : RQ) : Bool := q.2 && decide (sz ≤ q.1.length)
def rdN (sz : Nat) (q : RQ) : Int := if rdOk sz q = true then beV (q.1.take sz) else 0
def rdT (sz : Nat) (q : RQ) : ByteArray := if rdOk sz q = true then ⟨(q.1.take sz).toArray⟩ else ⟨#[]⟩
def rdA (sz : Nat) (q : RQ) : RQ := if rdOk sz q = true then (q.1.drop sz, true) else (q.1, false)
def RdU (w : World) (b : Nat) (q : RQ) : Prop := (q.2 = true ∧ RdL w b q.1) ∨ (q.2 = false ∧ RdX w b)
theorem RdU.block {w w' : World} {b : Nat} {q : RQ} (h : RdU w b q) (hb : w'.heap[b]? = w.heap[b]?) : RdU w' b q := by
  rcases h with ⟨h, h'⟩ | ⟨h, h'⟩
  · exact .inl ⟨h, h'.block hb⟩
  · exact .inr ⟨h, h'.block hb⟩
theorem RdU.store {w : World} {P j : Nat} {q : RQ} {u : Value} (h : RdU w (P + 1) q) : RdU (w.setCell ⟨P + 1 + 1, j, none⟩ u) (P + 1) q := h.block (Below.heap_setCell _ _ _ _ (by dsimp only; omega))
theorem number_U (b sz : Nat) (q : RQ) (w : World) (h : RdU w b q) (h1 : 0 < sz) (h4 : sz ≤ 4) :
    Calls Tryz.prog 139 #[.pointer (some ⟨b, 0, none⟩), .int .i64 sz] w fun e w' => e = .returned (.int .i64 (rdN sz q)) ∧ RdU w' b (rdA sz q) ∧ w.grownBy w' (some b) := by
  obtain ⟨l, r⟩ := q
  rcases h with ⟨hr, h⟩ | ⟨hr, a, rest, h⟩
  · dsimp only at hr h
    subst hr
    by_cases hsz : sz ≤ l.length
    · refine (number_L b sz l w h hsz h1 h4).mono ?_
      rintro e w' ⟨rfl, hr, hg⟩
      exact ⟨by simp [rdN, rdOk, hsz], by simp [rdA, rdOk, hsz]; exact .inl ⟨rfl, hr⟩, hg⟩
    · obtain ⟨rest, hl, h⟩ := h
      have hrs : rest.size = l.length := by rw [← hl, Array.length_toList]; rfl
      refine (number_short b sz rest w h (by omega)).mono ?_
      rintro e w' ⟨rfl, ⟨a, hr⟩, hg⟩
      exact ⟨by simp [rdN, rdOk, hsz], by simp [rdA, rdOk, hsz]; exact .inr ⟨rfl, a, rest, hr⟩, hg⟩
  · dsimp only at hr
    subst hr
    refine (number_bad b sz a rest w h).mono ?_
    rintro e w' ⟨rfl, hr, hg⟩
    exact ⟨by simp [rdN, rdOk], by simp [rdA, rdOk]; exact .inr ⟨rfl, a, rest, hr⟩, hg⟩
theorem text_U (b sz : Nat) (q : RQ) (w : World) (h : RdU w b q) (h1 : 0 < sz) (h8 : sz ≤ 8) :
    Calls Tryz.prog 140 #[.pointer (some ⟨b, 0, none⟩), .int .i64 sz] w fun e w' => e = .returned (.string (rdT sz q)) ∧ RdU w' b (rdA sz q) ∧ w.grownBy w' (some b) := by
  obtain ⟨l, r⟩ := q
  rcases h with ⟨hr, h⟩ | ⟨hr, h⟩
  · dsimp only at hr h
    subst hr
    by_cases hsz : sz ≤ l.length
    · refine (text_L b sz l w h hsz h1 h8).mono ?_
      rintro e w' ⟨rfl, hr, hg⟩
      exact ⟨by simp [rdT, rdOk, hsz], by simp [rdA, rdOk, hsz]; exact .inl ⟨rfl, hr⟩, hg⟩
    · refine (text_S b sz l w h (by omega)).mono ?_
      rintro e w' ⟨rfl, hr, hg⟩
      exact ⟨by simp [rdT, rdOk, hsz], by simp [rdA, rdOk, hsz]; exact .inr ⟨rfl, hr⟩, hg⟩
  · dsimp only at hr h
    subst hr
    refine (text_X b sz w h).mono ?_
    rintro e w' ⟨rfl, hr, hg⟩
    exact ⟨by simp [rdT, rdOk], by simp [rdA, rdOk]; exact .inr ⟨rfl, hr⟩, hg⟩
theorem end_U (b : Nat) (q : RQ) (w : World) (h : RdU w b q) :
    Calls Tryz.prog 141 #[.pointer (some ⟨b, 0, none⟩)] w fun e w' => ((q = ([], true) ∧ e = .returned .nilIface) ∨ (¬ q = ([], true) ∧ ∃ a, e = .returned (.iface 212 (.pointer (some a))))) ∧ w.grownBy w' (some b) := by
  obtain ⟨l, r⟩ := q
  rcases h with ⟨hr, rest, hl, h⟩ | ⟨hr, a, rest, h⟩
  · dsimp only at hr hl
    subst hr
    have hrs : rest.size = l.length := by rw [← hl, Array.length_toList]; rfl
    by_cases h0 : rest.size = 0
    · refine (end_ok b rest w h h0).mono ?_
      rintro e w' ⟨rfl, hg⟩
      exact ⟨.inl ⟨by rw [List.eq_nil_of_length_eq_zero (l := l) (by omega)], rfl⟩, hg⟩
    · refine (end_long b rest w h h0).mono ?_
      rintro e w' ⟨⟨a, rfl⟩, hg⟩
      exact ⟨.inr ⟨fun hh => (by injection hh with hh _; rw [hh] at hrs; exact h0 hrs), a, rfl⟩, hg⟩
  · dsimp only at hr
    subst hr
    refine (end_bad b a rest w h).mono ?_
    rintro e w' ⟨rfl, hg⟩
    exact ⟨.inr ⟨fun hh => (by injection hh with _ hh; cases hh), a, rfl⟩, hg⟩

theorem rdA_t {sz : Nat} {q : RQ} {l : List UInt8} (h : rdA sz q = (l, true)) : ∃ l0, q = (l0, true) ∧ sz ≤ l0.length ∧ l = l0.drop sz ∧ rdN sz q = beV (l0.take sz) ∧ rdT sz q = ⟨(l0.take sz).toArray⟩ := by
  obtain ⟨l0, r⟩ := q
  unfold rdA at h
  by_cases hok : rdOk sz (l0, r) = true
  · rw [if_pos hok] at h
    unfold rdOk at hok
    simp only [Bool.and_eq_true, decide_eq_true_eq] at hok
    obtain ⟨rfl, hsz⟩ := hok
    injection h with h1 _
    exact ⟨l0, rfl, hsz, h1.symm, by simp [rdN, rdOk, hsz], by simp [rdT, rdOk, hsz]⟩
  · rw [if_neg hok] at h
    injection h with _ h2; cases h2
theorem rdA_mk {sz : Nat} {l : List UInt8} (h : sz ≤ l.length) : rdA sz (l, true) = (l.drop sz, true) ∧ rdN sz (l, true) = beV (l.take sz) ∧ rdT sz (l, true) = ⟨(l.take sz).toArray⟩ := by
  simp [rdA, rdN, rdT, rdOk, h]

def nX (b c : UInt8) : Int := (b.toNat : Int) * 256 + (c.toNat : Int)
theorem u8_bkE (b : UInt8) : UInt8.ofNat (((b.toNat : Int) % 256).toNat) = b := by
  have : b.toNat < 256 := b.toNat_lt
  rw [show ((b.toNat : Int) % 256).toNat = b.toNat by omega, UInt8.ofNat_toNat]
theorem ent_mk (b0 b1 b2 b3 : UInt8) (R : List UInt8) (x : ByteArray) (hx : x.data.toList = R) : entL (b0.toNat : Int) (nX b1 b2) (b3.toNat : Int) x = b0 :: b1 :: b2 :: b3 :: R := by
  have h1 : b1.toNat < 256 := b1.toNat_lt
  have h2 : b2.toNat < 256 := b2.toNat_lt
  have e1 : nX b1 b2 / 256 % 256 = (b1.toNat : Int) % 256 := by unfold nX; omega
  have e2 : nX b1 b2 % 256 = (b2.toNat : Int) % 256 := by unfold nX; omega
  unfold entL toB entN
  rw [e1, e2, hx]
  simp only [List.map_cons, List.map_nil, u8_bkE]
  rfl
theorem ent_says {k e d : Int} {x : ByteArray} {b0 b1 b2 b3 : UInt8} {R : List UInt8} (hv : vE k e d x.size) (h : entL k e d x = b0 :: b1 :: b2 :: b3 :: R) : k = b0.toNat ∧ e = nX b1 b2 ∧ d = b3.toNat ∧ x.data.toList = R := by
  have key : ∀ (z : Int) (b : UInt8), 0 ≤ z → z < 256 → UInt8.ofNat z.toNat = b → z = b.toNat := fun z b h0 h1 he => by
    rw [← he, UInt8.toNat_ofNat_of_lt' (by simp [UInt8.size]; omega)]; omega
  unfold entL toB entN at h
  simp only [List.map_cons, List.map_nil, List.cons_append, List.nil_append, List.cons.injEq] at h
  obtain ⟨h0, h1, h2, h3, hR⟩ := h
  have h0 := key _ _ (by omega) (by omega) h0
  have h1 := key _ _ (by omega) (by omega) h1
  have h2 := key _ _ (by omega) (by omega) h2
  have h3 := key _ _ (by omega) (by omega) h3
  unfold vE at hv
  unfold nX
  exact ⟨by omega, by omega, by omega, hR⟩

/-- The text of an entry. -/
def GoodE (s : ByteArray) (k e d : Int) (x : ByteArray) : Prop := vE k e d x.size ∧ s = entS k e d x
def NoE (s : ByteArray) : Prop := ¬ ∃ (k e d : Int) (x : ByteArray), GoodE s k e d x
theorem GoodE.list {s : ByteArray} {k e d : Int} {x : ByteArray} (h : GoodE s k e d x) : entL k e d x = s.data.toList := by rw [h.2]; simp [entS]
theorem GoodE.mk' {s : ByteArray} {k e d : Int} {x : ByteArray} (hv : vE k e d x.size) (h : entL k e d x = s.data.toList) : GoodE s k e d x := ⟨hv, ba_ext (by rw [← h]; simp [entS])⟩
theorem split4 (L : List UInt8) (h : 4 ≤ L.length) : ∃ b0 b1 b2 b3 R, L = b0 :: b1 :: b2 :: b3 :: R := by
  match L, h with
  | b0 :: b1 :: b2 :: b3 :: R, _ => exact ⟨b0, b1, b2, b3, R, rfl⟩
theorem GoodE.split {s : ByteArray} {k e d : Int} {x : ByteArray} (h : GoodE s k e d x) : ∃ b0 b1 b2 b3, s.data.toList = b0 :: b1 :: b2 :: b3 :: x.data.toList ∧ k = b0.toNat ∧ e = nX b1 b2 ∧ d = b3.toNat := by
  have hl := h.list
  obtain ⟨b0, b1, b2, b3, R, hL⟩ := split4 s.data.toList (by rw [← hl, entL_length]; omega)
  rw [hL] at hl
  obtain ⟨h0, h1, h2, h3⟩ := ent_says h.1 hl
  exact ⟨b0, b1, b2, b3, by rw [hL, h3], h0, h1, h2⟩
theorem GoodE.uniq {s : ByteArray} {k e d k' e' d' : Int} {x x' : ByteArray} (h : GoodE s k e d x) (h' : GoodE s k' e' d' x') : k = k' ∧ e = e' ∧ d = d' ∧ x = x' := by
  obtain ⟨b0, b1, b2, b3, hL, rfl, rfl, rfl⟩ := h.split
  obtain ⟨c0, c1, c2, c3, hL', rfl, rfl, rfl⟩ := h'.split
  rw [hL] at hL'
  injection hL' with e0 hL'; injection hL' with e1 hL'; injection hL' with e2 hL'; injection hL' with e3 hL'
  subst e0 e1 e2 e3
  exact ⟨rfl, rfl, rfl, ba_ext hL'⟩

/-- The reader's way through an entry's text. -/
def q0 (s : ByteArray) : RQ := (s.data.toList, true)
def q1 (s : ByteArray) : RQ := rdA 1 (q0 s)
def q2 (s : ByteArray) : RQ := rdA 2 (q1 s)
def q3 (s : ByteArray) : RQ := rdA 1 (q2 s)
def n0 (s : ByteArray) : Int := rdN 1 (q0 s)
def n1 (s : ByteArray) : Int := rdN 2 (q1 s)
def n2 (s : ByteArray) : Int := rdN 1 (q2 s)
theorem rd_four {s : ByteArray} {b0 b1 b2 b3 : UInt8} {R : List UInt8} (h : s.data.toList = b0 :: b1 :: b2 :: b3 :: R) : n0 s = b0.toNat ∧ n1 s = nX b1 b2 ∧ n2 s = b3.toNat ∧ q3 s = (R, true) := by
  have h0 : q0 s = (b0 :: b1 :: b2 :: b3 :: R, true) := by rw [q0, h]
  obtain ⟨a1, v1, _⟩ := rdA_mk (sz := 1) (l := b0 :: b1 :: b2 :: b3 :: R) (by simp)
  obtain ⟨a2, v2, _⟩ := rdA_mk (sz := 2) (l := b1 :: b2 :: b3 :: R) (by simp)
  obtain ⟨a3, v3, _⟩ := rdA_mk (sz := 1) (l := b3 :: R) (by simp)
  have h1 : q1 s = (b1 :: b2 :: b3 :: R, true) := by rw [q1, h0, a1]; rfl
  have h2 : q2 s = (b3 :: R, true) := by rw [q2, h1, a2]; rfl
  have h3 : q3 s = (R, true) := by rw [q3, h2, a3]; rfl
  refine ⟨?_, ?_, ?_, h3⟩
  · rw [n0, h0, v1]; simp [beV]
  · rw [n1, h1, v2]; simp [beV, nX]
  · rw [n2, h2, v3]; simp [beV]
theorem rd_back {s : ByteArray} {R : List UInt8} (h : q3 s = (R, true)) : ∃ b0 b1 b2 b3, s.data.toList = b0 :: b1 :: b2 :: b3 :: R ∧ n0 s = b0.toNat ∧ n1 s = nX b1 b2 ∧ n2 s = b3.toNat := by
  obtain ⟨l2, h2, g2, r2, _⟩ := rdA_t (q := q2 s) h
  obtain ⟨l1, h1, g1, r1, _⟩ := rdA_t (q := q1 s) h2
  obtain ⟨l0, h0, g0, r0, _⟩ := rdA_t (q := q0 s) h1
  subst r0
  subst r1
  have hl : l0 = s.data.toList := by unfold q0 at h0; injection h0 with h0 _; exact h0.symm
  simp only [List.length_drop] at g1 g2
  obtain ⟨b0, b1, b2, b3, R', hL⟩ := split4 s.data.toList (by rw [← hl]; omega)
  obtain ⟨v0, v1, v2, v3⟩ := rd_four hL
  rw [h] at v3
  injection v3 with v3 _
  subst v3
  exact ⟨b0, b1, b2, b3, hL, v0, v1, v2⟩
theorem rd_good {s : ByteArray} {k e d : Int} {x : ByteArray} (h : GoodE s k e d x) : n0 s = k ∧ n1 s = e ∧ n2 s = d ∧ q3 s = (x.data.toList, true) := by
  obtain ⟨b0, b1, b2, b3, hL, rfl, rfl, rfl⟩ := h.split
  exact rd_four hL
/-- Kind 2. -/
theorem two_good {s : ByteArray} (h : rdA 8 (q3 s) = ([], true)) (hv : vE (n0 s) (n1 s) (n2 s) (rdT 8 (q3 s)).size) : GoodE s (n0 s) (n1 s) (n2 s) (rdT 8 (q3 s)) := by
  obtain ⟨R, hR, g8, hd, _, hT⟩ := rdA_t h
  obtain ⟨b0, b1, b2, b3, hL, e0, e1, e2⟩ := rd_back hR
  refine GoodE.mk' hv ?_
  rw [hT, e0, e1, e2, hL]
  refine ent_mk b0 b1 b2 b3 R _ ?_
  have : R.length ≤ 8 := by have := congrArg List.length hd; rw [List.length_drop] at this; simp at this; omega
  simp [List.take_of_length_le this]
theorem two_no {s : ByteArray} (hk : n0 s = 2) (h : ¬ (rdA 8 (q3 s) = ([], true) ∧ vE (n0 s) (n1 s) (n2 s) (rdT 8 (q3 s)).size)) : NoE s := by
  rintro ⟨k, e, d, x, hg⟩
  obtain ⟨e0, e1, e2, e3⟩ := rd_good hg
  have hz : x.size = 8 := by have := hg.1; unfold vE at this; omega
  have hl : x.data.toList.length = 8 := by rw [Array.length_toList]; exact hz
  obtain ⟨a, _, b⟩ := rdA_mk (sz := 8) (l := x.data.toList) (by omega)
  have hx : (⟨(x.data.toList.take 8).toArray⟩ : ByteArray) = x := ba_ext (by simp [List.take_of_length_le (Nat.le_of_eq hl)])
  refine h ⟨?_, ?_⟩
  · rw [e3, a, List.drop_of_length_le (by omega)]
  · rw [e0, e1, e2, e3, b, hx]; exact hg.1
/-- Another kind. -/
theorem one_good {s : ByteArray} (h : q3 s = ([], true)) (hv : vE (n0 s) (n1 s) (n2 s) (⟨#[]⟩ : ByteArray).size) : GoodE s (n0 s) (n1 s) (n2 s) ⟨#[]⟩ := by
  obtain ⟨b0, b1, b2, b3, hL, e0, e1, e2⟩ := rd_back h
  refine GoodE.mk' hv ?_
  rw [e0, e1, e2, hL]
  exact ent_mk b0 b1 b2 b3 [] _ rfl
theorem one_no {s : ByteArray} (hk : ¬ n0 s = 2) (h : ¬ (q3 s = ([], true) ∧ vE (n0 s) (n1 s) (n2 s) (⟨#[]⟩ : ByteArray).size)) : NoE s := by
  rintro ⟨k, e, d, x, hg⟩
  obtain ⟨e0, e1, e2, e3⟩ := rd_good hg
  have hz : x.size = 0 := by have := hg.1; unfold vE at this; omega
  have hx : x = ⟨#[]⟩ := ba_ext (by rw [List.eq_nil_of_length_eq_zero (l := x.data.toList) (by rw [Array.length_toList]; exact hz)])
  subst hx
  exact h ⟨e3, by rw [e0, e1, e2]; exact hg.1⟩
/-- What ReadEntry answers. -/
def RetE (e' : Ending) (s : ByteArray) : Prop :=
  (e' = .returned (.tuple #[.agg #[.int .i64 0, .int .i64 0, .int .i64 0, .string ⟨#[]⟩], .bool false]) ∧ NoE s) ∨
  (∃ (k e d : Int) (x : ByteArray), e' = .returned (.tuple #[.agg #[.int .i64 k, .int .i64 e, .int .i64 d, .string x], .bool true]) ∧ GoodE s k e d x)
end Go.Proofs.YthopfmhagddhgaaGreat
