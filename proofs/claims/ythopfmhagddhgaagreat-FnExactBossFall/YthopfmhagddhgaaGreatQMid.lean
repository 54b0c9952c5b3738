import Derived.Test.YthopfmhagddhgaaGreatQMark
import Derived.Test.YthopfmhagddhgaaGreatQEq
namespace Go.Proofs.YthopfmhagddhgaaGreat
open Go.RowKit

/-- Only blocks from g on, ahead of H, may have been written. -/
structure Mid (g H : Nat) (w w' : World) : Prop where
  os : w'.os = w.os
  tape : w'.tape = w.tape
  output : w'.output = w.output
  size : w.heap.size ≤ w'.heap.size
  block : ∀ k, k < w.heap.size → (k < g ∨ H ≤ k) → w'.heap[k]? = w.heap[k]?
theorem Mid.refl (g H : Nat) (w : World) : Mid g H w w := ⟨rfl, rfl, rfl, Nat.le_refl _, fun _ _ _ => rfl⟩
theorem Mid.trans {g H : Nat} {a b c : World} (h : Mid g H a b) (k : Mid g H b c) : Mid g H a c :=
  ⟨k.os.trans h.os, k.tape.trans h.tape, k.output.trans h.output, Nat.le_trans h.size k.size, fun i hi hr => (k.block i (Nat.lt_of_lt_of_le hi h.size) hr).trans (h.block i hi hr)⟩
theorem Mid.of {g H : Nat} {a b : World} (h : Below a.heap.size a b) : Mid g H a b := ⟨h.os, h.tape, h.output, h.size, fun i hi _ => h.block i hi⟩
theorem Mid.setCell {g H : Nat} {a b : World} (h : Mid g H a b) {p : Addr} (h1 : g ≤ p.block) (h2 : p.block < H) (u : Value) : Mid g H a (b.setCell p u) :=
  ⟨h.os, h.tape, h.output, by simpa [World.setCell] using h.size, fun i hi hr => by rw [Below.heap_setCell _ _ _ _ (by omega)]; exact h.block i hi hr⟩

/-- A row of numbers that may be written. -/
def IRow (w : World) (b n : Nat) : Prop := ∀ i, i < n → (∃ x, w.cell? ⟨b, i, none⟩ = some (.int .i64 x)) ∧ w.frozen? ⟨b, i, none⟩ = false
theorem IRow.set {w : World} {b n : Nat} (h : IRow w b n) (p : Addr) (x : Int) : IRow (w.setCell p (.int .i64 x)) b n := fun i hi => by
  obtain ⟨⟨y, hy⟩, hf⟩ := h i hi
  refine ⟨?_, by rw [World.frozen?_setCell]; exact hf⟩
  by_cases e : p = ⟨b, i, none⟩
  · subst e; exact ⟨x, World.cell?_setCell_same _ _ _ hy⟩
  · exact ⟨y, by rw [World.cell?_setCell_other _ _ _ _ e]; exact hy⟩
theorem IRow.far {w : World} {b n : Nat} (h : IRow w b n) {p : Addr} (hp : b ≠ p.block) (u : Value) : IRow (w.setCell p u) b n := fun i hi => by
  obtain ⟨⟨y, hy⟩, hf⟩ := h i hi
  exact ⟨⟨y, by rw [World.cell?_setCell_other _ _ _ _ (by intro e; rw [e] at hp; exact hp rfl)]; exact hy⟩, by rw [World.frozen?_setCell]; exact hf⟩
theorem IRow.below {w w' : World} {b n : Nat} (h : IRow w b n) (hb : Below w.heap.size w w') : IRow w' b n := fun i hi => by
  obtain ⟨⟨y, hy⟩, hf⟩ := h i hi
  exact ⟨⟨y, keepB hb hy⟩, (hb.frozen (p := ⟨b, i, none⟩) (World.block_lt_of_cell? _ _ hy)).trans hf⟩

/-- A list of tasks that may be written: the row in block g, the lists behind it and ahead of H. -/
structure Shape (g H n : Nat) (w : World) : Prop where
  s0 : ∀ j, j < n → ∃ s, w.cell? ⟨g, j * 3, none⟩ = some (.string s)
  s1 : ∀ j, j < n → ∃ x, w.cell? ⟨g, j * 3 + 1, none⟩ = some (.int .i64 x)
  s2 : ∀ j, j < n → ∃ b' n', w.cell? ⟨g, j * 3 + 2, none⟩ = some (.slice (some ⟨b', 0, none⟩) n' n') ∧ g < b' ∧ b' < H ∧ n' ≤ 1048576 ∧ IRow w b' n'
  fr : ∀ j, j < n * 3 → w.frozen? ⟨g, j, none⟩ = false
theorem Shape.below {g H n : Nat} {w w' : World} (h : Shape g H n w) (hb : Below w.heap.size w w') : Shape g H n w' where
  s0 := fun j hj => by obtain ⟨s, hs⟩ := h.s0 j hj; exact ⟨s, keepB hb hs⟩
  s1 := fun j hj => by obtain ⟨s, hs⟩ := h.s1 j hj; exact ⟨s, keepB hb hs⟩
  s2 := fun j hj => by obtain ⟨b', n', h0, h1, h2, h3, h4⟩ := h.s2 j hj; exact ⟨b', n', keepB hb h0, h1, h2, h3, h4.below hb⟩
  fr := fun j hj => by
    obtain ⟨s, hs⟩ := h.s0 (j / 3) (by omega)
    have := World.block_lt_of_cell? _ _ hs
    exact (hb.frozen (p := ⟨g, j, none⟩) this).trans (h.fr j hj)
theorem Shape.set0 {g H n k : Nat} {w : World} (h : Shape g H n w) (s : ByteArray) : Shape g H n (w.setCell ⟨g, k * 3, none⟩ (.string s)) where
  s0 := fun j hj => by
    obtain ⟨x, hx⟩ := h.s0 j hj
    by_cases e : k * 3 = j * 3
    · rw [e]; exact ⟨s, World.cell?_setCell_same _ _ _ hx⟩
    · exact ⟨x, by rw [World.cell?_setCell_other _ _ _ _ (by intro e'; injection e' with _ e2; exact e e2)]; exact hx⟩
  s1 := fun j hj => by obtain ⟨x, hx⟩ := h.s1 j hj; exact ⟨x, by rw [World.cell?_setCell_other _ _ _ _ (by intro e'; injection e' with _ e2; omega)]; exact hx⟩
  s2 := fun j hj => by
    obtain ⟨b', n', h0, h1, h2, h3, h4⟩ := h.s2 j hj
    exact ⟨b', n', by rw [World.cell?_setCell_other _ _ _ _ (by intro e'; injection e' with _ e2; omega)]; exact h0, h1, h2, h3, h4.far (by show b' ≠ g; omega) _⟩
  fr := fun j hj => by rw [World.frozen?_setCell]; exact h.fr j hj
theorem Shape.set1 {g H n k : Nat} {w : World} (h : Shape g H n w) (x : Int) : Shape g H n (w.setCell ⟨g, k * 3 + 1, none⟩ (.int .i64 x)) where
  s0 := fun j hj => by obtain ⟨s, hs⟩ := h.s0 j hj; exact ⟨s, by rw [World.cell?_setCell_other _ _ _ _ (by intro e'; injection e' with _ e2; omega)]; exact hs⟩
  s1 := fun j hj => by
    obtain ⟨y, hy⟩ := h.s1 j hj
    by_cases e : k * 3 + 1 = j * 3 + 1
    · rw [e]; exact ⟨x, World.cell?_setCell_same _ _ _ hy⟩
    · exact ⟨y, by rw [World.cell?_setCell_other _ _ _ _ (by intro e'; injection e' with _ e2; exact e e2)]; exact hy⟩
  s2 := fun j hj => by
    obtain ⟨b', n', h0, h1, h2, h3, h4⟩ := h.s2 j hj
    exact ⟨b', n', by rw [World.cell?_setCell_other _ _ _ _ (by intro e'; injection e' with _ e2; omega)]; exact h0, h1, h2, h3, h4.far (by show b' ≠ g; omega) _⟩
  fr := fun j hj => by rw [World.frozen?_setCell]; exact h.fr j hj
theorem Shape.setI {g H n : Nat} {w : World} (h : Shape g H n w) {p : Addr} (hp : g < p.block) (x : Int) : Shape g H n (w.setCell p (.int .i64 x)) where
  s0 := fun j hj => by obtain ⟨s, hs⟩ := h.s0 j hj; exact ⟨s, by rw [World.cell?_setCell_other _ _ _ _ (by intro e; rw [e] at hp; exact absurd hp (by simp))]; exact hs⟩
  s1 := fun j hj => by obtain ⟨s, hs⟩ := h.s1 j hj; exact ⟨s, by rw [World.cell?_setCell_other _ _ _ _ (by intro e; rw [e] at hp; exact absurd hp (by simp))]; exact hs⟩
  s2 := fun j hj => by
    obtain ⟨b', n', h0, h1, h2, h3, h4⟩ := h.s2 j hj
    exact ⟨b', n', by rw [World.cell?_setCell_other _ _ _ _ (by intro e; rw [e] at hp; exact absurd hp (by simp))]; exact h0, h1, h2, h3, h4.set p x⟩
  fr := fun j hj => by rw [World.frozen?_setCell]; exact h.fr j hj

set_option maxHeartbeats 1000000 in
theorem markIntS_any (b g H n m c k : Nat) (w : World) (hk : k ≤ 2199023255552) (hm : m ≤ 1048576) (h1 : g < b) (h2 : b < H) (hr : IRow w b m) (hS : Shape g H n w) :
    Calls Tryz.prog 114 #[.slice (some ⟨b, 0, none⟩) m c, .int .i64 k] w fun e w' => e = .returned (.int .i64 ((k : Int) + m)) ∧ Shape g H n w' ∧ Mid g H w w' := by
  go_enter Tryz.func114, Tryz.ntmps114
  go_wp2
  go_loopw [1, 5] (fun kv x wr => ∃ i : Nat, i ≤ m ∧ x = .int .i64 i ∧ kv = .int .i64 ((k : Int) + i) ∧ IRow wr b m ∧ Shape g H n wr ∧ Mid g H w wr) (fun _ x _ => m - (intOf x).toNat)
  case atStart => exact ⟨0, Nat.zero_le _, rfl, by simp, hr, hS, Mid.refl _ _ _⟩
  case round =>
    obtain ⟨i, hi, rfl, rfl, hr', hS', hM⟩ := hrel
    by_cases hlt : i < m
    · have hlt' : (i : Int) < (m : Int) := by omega
      obtain ⟨⟨y, hy⟩, hf⟩ := hr' i hlt
      have r2 := hr'.set ⟨b, i, none⟩ ((k : Int) + i)
      have s2 := hS'.setI (p := ⟨b, i, none⟩) h1 ((k : Int) + i)
      have m2 := hM.setCell (p := ⟨b, i, none⟩) (by show g ≤ b; omega) h2 (.int .i64 ((k : Int) + i))
      clear hr' hS' hM
      go_wp2
      go_roundw
      case rel => exact ⟨i + 1, by omega, by go_num, by go_num, r2, s2, m2⟩
      case measure => simp [intOf]; omega
    · obtain rfl : i = m := by omega
      go_wp2
      go_ret
      exact ⟨rfl, hS', hM⟩

set_option maxHeartbeats 1000000 in
theorem markTaskS_any (g H n c kk : Nat) (w : World) (hk0 : 0 < kk) (hk1 : kk ≤ 4194304) (hn : n ≤ 1048576) (hgH : g < H) (hS : Shape g H n w) :
    Calls Tryz.prog 71 #[.slice (some ⟨g, 0, none⟩) n c, .int .i64 (kk : Int)] w fun e w' => (∃ r : Int, e = .returned (.int .i64 r) ∧ 0 < r ∧ r ≤ 1099517919232) ∧ Mid g H w w' := by
  go_enter Tryz.func71, Tryz.ntmps71
  go_wp2
  go_loopw [1, 5] (fun kv x wr => ∃ i : Nat, i ≤ n ∧ x = .int .i64 i ∧ (∃ r : Nat, kv = .int .i64 r ∧ 0 < r ∧ r ≤ kk + i * 1048578) ∧ Shape g H n wr ∧ Mid g H w wr) (fun _ x _ => n - (intOf x).toNat)
  case atStart => exact ⟨0, Nat.zero_le _, rfl, ⟨kk, rfl, hk0, by omega⟩, hS, Mid.refl _ _ _⟩
  case round =>
    obtain ⟨i, hi, rfl, ⟨r, rfl, hr0, hr1⟩, hS', hM⟩ := hrel
    have hr2 : r ≤ 1099517919232 := by have : i * 1048578 ≤ 1048576 * 1048578 := Nat.mul_le_mul_right _ (by omega); omega
    have HR : Hid (r ≤ kk + i * 1048578) := hr1
    clear hr1
    by_cases hlt : i < n
    · have hlt' : (i : Int) < (n : Int) := by omega
      go_wp2_with fail
      refine (markText_any r _ hr0 (by omega)).mono ?_
      rintro e w1 ⟨rfl, hb1⟩
      have hS1 := hS'.below hb1
      have hM1 := hM.trans (Mid.of hb1)
      obtain ⟨s0, hq0⟩ := hS1.s0 i hlt
      have hf0 := hS1.fr (i * 3) (by omega)
      have hS2 := hS1.set0 (k := i) (mtx r)
      have hM2 := hM1.setCell (p := ⟨g, i * 3, none⟩) (Nat.le_refl _) hgH (.string (mtx r))
      obtain ⟨x0, hq1⟩ := hS2.s1 i hlt
      have hf1 := hS2.fr (i * 3 + 1) (by omega)
      have hS3 := hS2.set1 (k := i) ((r : Int) + 1)
      have hM3 := hM2.setCell (p := ⟨g, i * 3 + 1, none⟩) (Nat.le_refl _) hgH (.int .i64 ((r : Int) + 1))
      obtain ⟨b', n', hq2, hgb, hbH, hn', hir⟩ := hS3.s2 i hlt
      clear hS' hS1 hS2 hM hM1 hM2 hb1
      go_wp2_with fail
      rw [show ((r : Int) + 1 + 1) = ((r + 2 : Nat) : Int) by omega]
      refine (markIntS_any b' g H n n' n' (r + 2) _ (by omega) hn' hgb hbH hir hS3).mono ?_
      rintro e w4 ⟨rfl, hS4, hM4⟩
      have hM5 := hM3.trans hM4
      clear hM3 hM4 hir hq2 hq1 hq0 hS3
      go_wp2
      go_roundw
      case rel =>
        refine ⟨i + 1, by omega, by go_num, ⟨r + 2 + n', by go_num, by omega, ?_⟩, hS4, hM5⟩
        have := HR.out; omega
      case measure => simp [intOf]; omega
    · go_wp2
      go_ret
      exact ⟨⟨_, rfl, by omega, by omega⟩, hM⟩

set_option maxHeartbeats 1000000 in
theorem markPlan_any (g H n c kk : Nat) (w : World) (hk0 : 0 < kk) (hk1 : kk ≤ 4194304) (hn : n ≤ 1048576) (hgH : g < H) (hS : Shape g H n w) :
    Calls Tryz.prog 25 #[.agg #[.slice (some ⟨g, 0, none⟩) n c], .int .i64 (kk : Int)] w fun e w' => (∃ r : Int, e = .returned (.int .i64 r) ∧ 0 < r ∧ r ≤ 1099517919232) ∧ Mid g H w w' := by
  have hb0 : Below w.heap.size w (w.alloc (.cells #[.slice (some ⟨g, 0, none⟩) n c] 41)) := (Below.refl _ _).alloc (Nat.le_refl _) _
  go_enter Tryz.func25, Tryz.ntmps25
  go_wp2_with fail
  refine (markTaskS_any g H n c kk _ hk0 hk1 hn hgH (hS.below hb0)).mono ?_
  rintro e w1 ⟨⟨r, rfl, hr⟩, hM⟩
  have hM1 := (Mid.of (g := g) (H := H) hb0).trans hM
  go_wp2
  go_ret
  exact ⟨⟨r, rfl, hr⟩, hM1⟩

/-- A plan that toPlan has made may be marked. -/
theorem Built.shape {B : Nat} {w : World} {g n : Nat} {xs : List Value} {ts : List TaskD} (h : Built w g xs n ts) (ho : OwnC B w 3 g 0 n n xs) (hl : ts.length = n) (hs : tssz ts ≤ 1048576) : Shape g w.heap.size n w where
  s0 := fun j hj => ⟨_, by have := ho.holds (j * 3) (by omega); rw [Nat.zero_add] at this; exact this.trans (h j hj).1⟩
  s1 := fun j hj => ⟨_, by have := ho.holds (j * 3 + 1) (by omega); rw [Nat.zero_add] at this; exact this.trans (h j hj).2.1⟩
  s2 := fun j hj => by
    obtain ⟨_, _, hr, b', n', h2, h3⟩ := h j hj
    refine ⟨b', n', ?_, by have := h3.lo; omega, h3.hi, ?_, fun i hi => ⟨?_, ?_⟩⟩
    · have := ho.holds (j * 3 + 2) (by omega); rw [Nat.zero_add] at this; exact this.trans h2
    · have hlen := h3.len
      have := tsz_le (show j < ts.length by omega)
      simp only [tsz] at this
      rw [List.length_map] at hlen
      omega
    · obtain ⟨u, hu, hc⟩ := h3.cellSome (j := i) (by omega)
      rw [List.getElem?_map] at hu
      rw [Nat.zero_add] at hc
      cases hx : (ts.getD j dT).deps[i]? with
      | none => rw [hx] at hu; cases hu
      | some x => rw [hx] at hu; cases hu; exact ⟨x, hc⟩
    · have := h3.notFrozen (j := i) (by omega); rw [Nat.zero_add] at this; exact this
  fr := fun j hj => by have := ho.notFrozen (j := j) (by omega); rw [Nat.zero_add] at this; exact this

/-- Texts that lie outside what was written. -/
theorem StrsAt.mid {w w' : World} {a : Option Addr} {b o n : Nat} {ss : List ByteArray} {g H : Nat} (h : StrsAt w a b o n ss) (hM : Mid g H w w') (hb : 0 < n → b < g ∨ H ≤ b) : StrsAt w' a b o n ss :=
  ⟨h.ad, h.len, h.max, fun hn => Nat.lt_of_lt_of_le (h.lt hn) hM.size, fun j hj => (World.cell?_of_block (w := w) (a := ⟨b, o + j, none⟩) (hM.block b (h.lt (by omega)) (hb (by omega)))).trans (h.cell j hj), h.sz⟩
theorem StrsAt.grown {w w' : World} {a : Option Addr} {b o n : Nat} {ss : List ByteArray} {g : Nat} (h : StrsAt w a b o n ss) (hg : w.grownBy w' (some g)) (hb : 0 < n → b ≠ g) : StrsAt w' a b o n ss :=
  ⟨h.ad, h.len, h.max, fun hn => Nat.lt_of_lt_of_le (h.lt hn) hg.size, fun j hj => (World.cell?_of_block (w := w) (a := ⟨b, o + j, none⟩) (hg.block b (h.lt (by omega)) (by simpa using hb (by omega)))).trans (h.cell j hj), h.sz⟩
theorem Mid.below {g H C : Nat} {w0 w w' : World} (h : Below C w0 w) (hM : Mid g H w w') (hC : C ≤ g) (hs : C ≤ w.heap.size) : Below C w0 w' :=
  h.trans ⟨hM.os, hM.tape, hM.output, hM.size, fun k hk => hM.block k (by omega) (.inl (by omega))⟩
theorem Own.mid {B : Nat} {w w' : World} {size : Nat} {v : Value} {n : Nat} {xs : List Value} {g H : Nat} (h : Own B w size v n xs) (hM : Mid g H w w') (hB : H ≤ B) : Own B w' size v n xs := by
  rcases h with h | ⟨g', o, cap, hv, hc⟩
  · exact .inl h
  · exact .inr ⟨g', o, cap, hv, hc.block (hM.block g' hc.hi (.inr (Nat.le_trans hB hc.lo)))⟩
theorem keepM {g H : Nat} {W w1 : World} (hM : Mid g H W w1) {p : Addr} {v : Value} (h : W.cell? p = some v) (hp : p.block < g ∨ H ≤ p.block) : w1.cell? p = some v :=
  (World.cell?_of_block (w := W) (hM.block p.block (World.block_lt_of_cell? W p h) hp)).trans h
end Go.Proofs.YthopfmhagddhgaaGreat
