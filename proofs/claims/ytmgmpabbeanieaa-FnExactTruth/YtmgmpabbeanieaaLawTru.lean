/-
  laws.markIntS, markTaskS, markPlan; THE ROW of FnExactTruth, proved.
-/
import Derived.Test.YtmgmpabbeanieaaMark
import Derived.Test.YtmgmpabbeanieaaRowPlan
namespace Go.Proofs.Ytmgmpabbeanieaa
open Go.ChangeShapes Go.WideShapes Go.ChangeAt Go.RowKit
open Go.ChangeMaps (open_string shut_string)

/-- Only blocks from g on, ahead of H, may have been written. -/
structure Mid (g H : Nat) (w w' : World) : Prop where
  os : w'.os = w.os
  tape : w'.tape = w.tape
  output : w'.output = w.output
  size : w.heap.size ≤ w'.heap.size
  block : ∀ k, k < w.heap.size → (k < g ∨ H ≤ k) → w'.heap[k]? = w.heap[k]?
theorem Mid.refl (g H : Nat) (w : World) : Mid g H w w := ⟨rfl, rfl, rfl, Nat.le_refl _, fun _ _ _ => rfl⟩
theorem Mid.trans {g H : Nat} {a b c : World} (h : Mid g H a b) (k : Mid g H b c) : Mid g H a c :=
  ⟨k.os.trans h.os, k.tape.trans h.tape, k.output.trans h.output, Nat.le_trans h.size k.size, fun i hi hr => (k.block i (Nat.lt_of_lt_of_le hi h.size) hr).trans (h.block i hi hr)⟩
theorem Mid.of {g H : Nat} {a b : World} (h : Below a.heap.size a b) : Mid g H a b := ⟨h.os, h.tape, h.output, h.size, fun i hi _ => h.block i hi⟩
theorem Mid.setCell {g H : Nat} {a b : World} (h : Mid g H a b) {p : Addr} (h1 : g ≤ p.block) (h2 : p.block < H) (u : Value) : Mid g H a (b.setCell p u) :=
  ⟨h.os, h.tape, h.output, by simpa [World.setCell] using h.size, fun i hi hr => by rw [Below.heap_setCell _ _ _ _ (by omega)]; exact h.block i hi hr⟩

/-- A row of numbers that may be written. -/
def IRow (w : World) (b n : Nat) : Prop := ∀ i, i < n → (∃ x, w.cell? ⟨b, i, none⟩ = some (.int .i64 x)) ∧ w.frozen? ⟨b, i, none⟩ = false
theorem IRow.set {w : World} {b n : Nat} (h : IRow w b n) (p : Addr) (x : Int) : IRow (w.setCell p (.int .i64 x)) b n := fun i hi => by
  obtain ⟨⟨y, hy⟩, hf⟩ := h i hi
  refine ⟨?_, by rw [World.frozen?_setCell]; exact hf⟩
  by_cases e : p = ⟨b, i, none⟩
  · subst e; exact ⟨x, World.cell?_setCell_same _ _ _ hy⟩
  · exact ⟨y, by rw [World.cell?_setCell_other _ _ _ _ e]; exact hy⟩
theorem IRow.far {w : World} {b n : Nat} (h : IRow w b n) {p : Addr} (hp : b ≠ p.block) (u : Value) : IRow (w.setCell p u) b n := fun i hi => by
  obtain ⟨⟨y, hy⟩, hf⟩ := h i hi
  exact ⟨⟨y, by rw [World.cell?_setCell_other _ _ _ _ (by intro e; rw [e] at hp; exact hp rfl)]; exact hy⟩, by rw [World.frozen?_setCell]; exact hf⟩
theorem IRow.below {w w' : World} {b n : Nat} (h : IRow w b n) (hb : Below w.heap.size w w') : IRow w' b n := fun i hi => by
  obtain ⟨⟨y, hy⟩, hf⟩ := h i hi
  exact ⟨⟨y, keepB hb hy⟩, (hb.frozen (p := ⟨b, i, none⟩) (World.block_lt_of_cell? _ _ hy)).trans hf⟩

/-- A list of tasks that may be written: the row in block g, the lists behind it and ahead of H. -/
structure Shape (g H n : Nat) (w : World) : Prop where
  s0 : ∀ j, j < n → ∃ s, w.cell? ⟨g, j * 3, none⟩ = some (.string s)
  s1 : ∀ j, j < n → ∃ x, w.cell? ⟨g, j * 3 + 1, none⟩ = some (.int .i64 x)
  s2 : ∀ j, j < n → ∃ b' n', w.cell? ⟨g, j * 3 + 2, none⟩ = some (.slice (some ⟨b', 0, none⟩) n' n') ∧ g < b' ∧ b' < H ∧ n' ≤ 1048576 ∧ IRow w b' n'
  fr : ∀ j, j < n * 3 → w.frozen? ⟨g, j, none⟩ = false
theorem Shape.below {g H n : Nat} {w w' : World} (h : Shape g H n w) (hb : Below w.heap.size w w') : Shape g H n w' where
  s0 := fun j hj => by obtain ⟨s, hs⟩ := h.s0 j hj; exact ⟨s, keepB hb hs⟩
  s1 := fun j hj => by obtain ⟨s, hs⟩ := h.s1 j hj; exact ⟨s, keepB hb hs⟩
  s2 := fun j hj => by obtain ⟨b', n', h0, h1, h2, h3, h4⟩ := h.s2 j hj; exact ⟨b', n', keepB hb h0, h1, h2, h3, h4.below hb⟩
  fr := fun j hj => by
    obtain ⟨s, hs⟩ := h.s0 (j / 3) (by omega)
    have := World.block_lt_of_cell? _ _ hs
    exact (hb.frozen (p := ⟨g, j, none⟩) this).trans (h.fr j hj)
theorem Shape.set0 {g H n k : Nat} {w : World} (h : Shape g H n w) (s : ByteArray) : Shape g H n (w.setCell ⟨g, k * 3, none⟩ (.string s)) where
  s0 := fun j hj => by
    obtain ⟨x, hx⟩ := h.s0 j hj
    by_cases e : k * 3 = j * 3
    · rw [e]; exact ⟨s, World.cell?_setCell_same _ _ _ hx⟩
    · exact ⟨x, by rw [World.cell?_setCell_other _ _ _ _ (by intro e'; injection e' with _ e2; exact e e2)]; exact hx⟩
  s1 := fun j hj => by obtain ⟨x, hx⟩ := h.s1 j hj; exact ⟨x, by rw [World.cell?_setCell_other _ _ _ _ (by intro e'; injection e' with _ e2; omega)]; exact hx⟩
  s2 := fun j hj => by
    obtain ⟨b', n', h0, h1, h2, h3, h4⟩ := h.s2 j hj
    exact ⟨b', n', by rw [World.cell?_setCell_other _ _ _ _ (by intro e'; injection e' with _ e2; omega)]; exact h0, h1, h2, h3, h4.far (by show b' ≠ g; omega) _⟩
  fr := fun j hj => by rw [World.frozen?_setCell]; exact h.fr j hj
theorem Shape.set1 {g H n k : Nat} {w : World} (h : Shape g H n w) (x : Int) : Shape g H n (w.setCell ⟨g, k * 3 + 1, none⟩ (.int .i64 x)) where
  s0 := fun j hj => by obtain ⟨s, hs⟩ := h.s0 j hj; exact ⟨s, by rw [World.cell?_setCell_other _ _ _ _ (by intro e'; injection e' with _ e2; omega)]; exact hs⟩
  s1 := fun j hj => by
    obtain ⟨y, hy⟩ := h.s1 j hj
    by_cases e : k * 3 + 1 = j * 3 + 1
    · rw [e]; exact ⟨x, World.cell?_setCell_same _ _ _ hy⟩
    · exact ⟨y, by rw [World.cell?_setCell_other _ _ _ _ (by intro e'; injection e' with _ e2; exact e e2)]; exact hy⟩
  s2 := fun j hj => by
    obtain ⟨b', n', h0, h1, h2, h3, h4⟩ := h.s2 j hj
    exact ⟨b', n', by rw [World.cell?_setCell_other _ _ _ _ (by intro e'; injection e' with _ e2; omega)]; exact h0, h1, h2, h3, h4.far (by show b' ≠ g; omega) _⟩
  fr := fun j hj => by rw [World.frozen?_setCell]; exact h.fr j hj
theorem Shape.setI {g H n : Nat} {w : World} (h : Shape g H n w) {p : Addr} (hp : g < p.block) (x : Int) : Shape g H n (w.setCell p (.int .i64 x)) where
  s0 := fun j hj => by obtain ⟨s, hs⟩ := h.s0 j hj; exact ⟨s, by rw [World.cell?_setCell_other _ _ _ _ (by intro e; rw [e] at hp; exact absurd hp (by simp))]; exact hs⟩
  s1 := fun j hj => by obtain ⟨s, hs⟩ := h.s1 j hj; exact ⟨s, by rw [World.cell?_setCell_other _ _ _ _ (by intro e; rw [e] at hp; exact absurd hp (by simp))]; exact hs⟩
  s2 := fun j hj => by
    obtain ⟨b', n', h0, h1, h2, h3, h4⟩ := h.s2 j hj
    exact ⟨b', n', by rw [World.cell?_setCell_other _ _ _ _ (by intro e; rw [e] at hp; exact absurd hp (by simp))]; exact h0, h1, h2, h3, h4.set p x⟩
  fr := fun j hj => by rw [World.frozen?_setCell]; exact h.fr j hj

set_option maxHeartbeats 1000000 in
theorem markIntS_any (b g H n m c k : Nat) (w : World) (hk : k ≤ 2199023255552) (hm : m ≤ 1048576) (h1 : g < b) (h2 : b < H) (hr : IRow w b m) (hS : Shape g H n w) :
    Calls Try.prog 48 #[.slice (some ⟨b, 0, none⟩) m c, .int .i64 k] w fun e w' => e = .returned (.int .i64 ((k : Int) + m)) ∧ Shape g H n w' ∧ Mid g H w w' := by
  go_enter Try.func48, Try.ntmps48
  go_wp2
  go_loopw [1, 5] (fun kv x wr => ∃ i : Nat, i ≤ m ∧ x = .int .i64 i ∧ kv = .int .i64 ((k : Int) + i) ∧ IRow wr b m ∧ Shape g H n wr ∧ Mid g H w wr) (fun _ x _ => m - (intOf x).toNat)
  case atStart => exact ⟨0, Nat.zero_le _, rfl, by simp, hr, hS, Mid.refl _ _ _⟩
  case round =>
    obtain ⟨i, hi, rfl, rfl, hr', hS', hM⟩ := hrel
    by_cases hlt : i < m
    · have hlt' : (i : Int) < (m : Int) := by omega
      obtain ⟨⟨y, hy⟩, hf⟩ := hr' i hlt
      have r2 := hr'.set ⟨b, i, none⟩ ((k : Int) + i)
      have s2 := hS'.setI (p := ⟨b, i, none⟩) h1 ((k : Int) + i)
      have m2 := hM.setCell (p := ⟨b, i, none⟩) (by show g ≤ b; omega) h2 (.int .i64 ((k : Int) + i))
      clear hr' hS' hM
      go_wp2
      go_roundw
      case rel => exact ⟨i + 1, by omega, by go_num, by go_num, r2, s2, m2⟩
      case measure => simp [intOf]; omega
    · obtain rfl : i = m := by omega
      go_wp2
      go_ret
      exact ⟨rfl, hS', hM⟩

set_option maxHeartbeats 1000000 in
theorem markTaskS_any (g H n c : Nat) (w : World) (hn : n ≤ 1048576) (hgH : g < H) (hS : Shape g H n w) :
    Calls Try.prog 38 #[.slice (some ⟨g, 0, none⟩) n c, .int .i64 1] w fun e w' => (∃ r : Int, e = .returned (.int .i64 r) ∧ 0 ≤ r) ∧ Mid g H w w' := by
  go_enter Try.func38, Try.ntmps38
  go_wp2
  go_loopw [1, 5] (fun kv x wr => ∃ i : Nat, i ≤ n ∧ x = .int .i64 i ∧ (∃ r : Nat, kv = .int .i64 r ∧ 0 < r ∧ r ≤ 1 + i * 1048578) ∧ Shape g H n wr ∧ Mid g H w wr) (fun _ x _ => n - (intOf x).toNat)
  case atStart => exact ⟨0, Nat.zero_le _, rfl, ⟨1, rfl, by omega, by omega⟩, hS, Mid.refl _ _ _⟩
  case round =>
    obtain ⟨i, hi, rfl, ⟨r, rfl, hr0, hr1⟩, hS', hM⟩ := hrel
    have hr2 : r ≤ 1099513724929 := by have : i * 1048578 ≤ 1048576 * 1048578 := Nat.mul_le_mul_right _ (by omega); omega
    have HR : Hid (r ≤ 1 + i * 1048578) := hr1
    clear hr1
    by_cases hlt : i < n
    · have hlt' : (i : Int) < (n : Int) := by omega
      go_wp2_with fail
      refine (markText_any r _ hr0 (by omega)).mono ?_
      rintro e w1 ⟨rfl, hb1⟩
      have hS1 := hS'.below hb1
      have hM1 := hM.trans (Mid.of hb1)
      obtain ⟨s0, hq0⟩ := hS1.s0 i hlt
      have hf0 := hS1.fr (i * 3) (by omega)
      have hS2 := hS1.set0 (k := i) (mtx r)
      have hM2 := hM1.setCell (p := ⟨g, i * 3, none⟩) (Nat.le_refl _) hgH (.string (mtx r))
      obtain ⟨x0, hq1⟩ := hS2.s1 i hlt
      have hf1 := hS2.fr (i * 3 + 1) (by omega)
      have hS3 := hS2.set1 (k := i) ((r : Int) + 1)
      have hM3 := hM2.setCell (p := ⟨g, i * 3 + 1, none⟩) (Nat.le_refl _) hgH (.int .i64 ((r : Int) + 1))
      obtain ⟨b', n', hq2, hgb, hbH, hn', hir⟩ := hS3.s2 i hlt
      clear hS' hS1 hS2 hM hM1 hM2 hb1
      go_wp2_with fail
      rw [show ((r : Int) + 1 + 1) = ((r + 2 : Nat) : Int) by omega]
      refine (markIntS_any b' g H n n' n' (r + 2) _ (by omega) hn' hgb hbH hir hS3).mono ?_
      rintro e w4 ⟨rfl, hS4, hM4⟩
      have hM5 := hM3.trans hM4
      clear hM3 hM4 hir hq2 hq1 hq0 hS3
      go_wp2
      go_roundw
      case rel =>
        refine ⟨i + 1, by omega, by go_num, ⟨r + 2 + n', by go_num, by omega, ?_⟩, hS4, hM5⟩
        have := HR.out; omega
      case measure => simp [intOf]; omega
    · go_wp2
      go_ret
      exact ⟨⟨_, rfl, by omega⟩, hM⟩

set_option maxHeartbeats 1000000 in
theorem markPlan_any (g H n c : Nat) (w : World) (hn : n ≤ 1048576) (hgH : g < H) (hS : Shape g H n w) :
    Calls Try.prog 20 #[.agg #[.slice (some ⟨g, 0, none⟩) n c], .int .i64 1] w fun e w' => (∃ r : Int, e = .returned (.int .i64 r) ∧ 0 ≤ r) ∧ Mid g H w w' := by
  have hb0 : Below w.heap.size w (w.alloc (.cells #[.slice (some ⟨g, 0, none⟩) n c] 35)) := (Below.refl _ _).alloc (Nat.le_refl _) _
  go_enter Try.func20, Try.ntmps20
  go_wp2_with fail
  refine (markTaskS_any g H n c _ hn hgH (hS.below hb0)).mono ?_
  rintro e w1 ⟨⟨r, rfl, hr⟩, hM⟩
  have hM1 := (Mid.of (g := g) (H := H) hb0).trans hM
  go_wp2
  go_ret
  exact ⟨⟨r, rfl, hr⟩, hM1⟩

/-- A plan that toPlan has made may be marked. -/
theorem Built.shape {B : Nat} {w : World} {g n : Nat} {xs : List Value} {ts : List TaskD} (h : Built w g xs n ts) (ho : OwnC B w 3 g 0 n n xs) (hl : ts.length = n) (hs : tssz ts ≤ 1048576) : Shape g w.heap.size n w where
  s0 := fun j hj => ⟨_, by have := ho.holds (j * 3) (by omega); rw [Nat.zero_add] at this; exact this.trans (h j hj).1⟩
  s1 := fun j hj => ⟨_, by have := ho.holds (j * 3 + 1) (by omega); rw [Nat.zero_add] at this; exact this.trans (h j hj).2.1⟩
  s2 := fun j hj => by
    obtain ⟨_, _, hr, b', n', h2, h3⟩ := h j hj
    refine ⟨b', n', ?_, by have := h3.lo; omega, h3.hi, ?_, fun i hi => ⟨?_, ?_⟩⟩
    · have := ho.holds (j * 3 + 2) (by omega); rw [Nat.zero_add] at this; exact this.trans h2
    · have hlen := h3.len
      have := tsz_le (show j < ts.length by omega)
      simp only [tsz] at this
      rw [List.length_map] at hlen
      omega
    · obtain ⟨u, hu, hc⟩ := h3.cellSome (j := i) (by omega)
      rw [List.getElem?_map] at hu
      rw [Nat.zero_add] at hc
      cases hx : (ts.getD j dT).deps[i]? with
      | none => rw [hx] at hu; cases hu
      | some x => rw [hx] at hu; cases hu; exact ⟨x, hc⟩
    · have := h3.notFrozen (j := i) (by omega); rw [Nat.zero_add] at this; exact this
  fr := fun j hj => by have := ho.notFrozen (j := j) (by omega); rw [Nat.zero_add] at this; exact this

/-- Texts that lie outside what was written. -/
theorem StrsAt.mid {w w' : World} {a : Option Addr} {b o n : Nat} {ss : List ByteArray} {g H : Nat} (h : StrsAt w a b o n ss) (hM : Mid g H w w') (hb : 0 < n → b < g ∨ H ≤ b) : StrsAt w' a b o n ss :=
  ⟨h.ad, h.len, h.max, fun hn => Nat.lt_of_lt_of_le (h.lt hn) hM.size, fun j hj => (World.cell?_of_block (w := w) (a := ⟨b, o + j, none⟩) (hM.block b (h.lt (by omega)) (hb (by omega)))).trans (h.cell j hj), h.sz⟩
theorem StrsAt.grown {w w' : World} {a : Option Addr} {b o n : Nat} {ss : List ByteArray} {g : Nat} (h : StrsAt w a b o n ss) (hg : w.grownBy w' (some g)) (hb : 0 < n → b ≠ g) : StrsAt w' a b o n ss :=
  ⟨h.ad, h.len, h.max, fun hn => Nat.lt_of_lt_of_le (h.lt hn) hg.size, fun j hj => (World.cell?_of_block (w := w) (a := ⟨b, o + j, none⟩) (hg.block b (h.lt (by omega)) (by simpa using hb (by omega)))).trans (h.cell j hj), h.sz⟩
theorem Mid.below {g H C : Nat} {w0 w w' : World} (h : Below C w0 w) (hM : Mid g H w w') (hC : C ≤ g) (hs : C ≤ w.heap.size) : Below C w0 w' :=
  h.trans ⟨hM.os, hM.tape, hM.output, hM.size, fun k hk => hM.block k (by omega) (.inl (by omega))⟩
theorem TruS.sizes {ts : List TaskD} {ss : List ByteArray} (h : TruS ts ss) : ss.length ≤ 40 ∧ ∀ s ∈ ss, s.size ≤ maxLen := by
  rcases h with ⟨hc, rfl⟩ | ⟨_, rfl⟩
  · obtain ⟨hl, _, _, hd⟩ := code0 hc
    refine ⟨by rw [trs_length]; exact hl.2, fun s hs => ?_⟩
    obtain ⟨j, hj, rfl⟩ := List.mem_iff_getElem.1 hs
    rw [trs_length] at hj
    have := trs_get ts hj
    simp only [List.getD, List.getElem?_eq_getElem (show j < (trs ts ts.length).length by rw [trs_length]; exact hj), Option.getD_some] at this
    rw [this, tv_size hd hj]; unfold maxLen; omega
  · exact ⟨by simp, by simp⟩

theorem Own.mid {B : Nat} {w w' : World} {size : Nat} {v : Value} {n : Nat} {xs : List Value} {g H : Nat} (h : Own B w size v n xs) (hM : Mid g H w w') (hB : H ≤ B) : Own B w' size v n xs := by
  rcases h with h | ⟨g', o, cap, hv, hc⟩
  · exact .inl h
  · exact .inr ⟨g', o, cap, hv, hc.block (hM.block g' hc.hi (.inr (Nat.le_trans hB hc.lo)))⟩
theorem keepM {g H : Nat} {W w1 : World} (hM : Mid g H W w1) {p : Addr} {v : Value} (h : W.cell? p = some v) (hp : p.block < g ∨ H ≤ p.block) : w1.cell? p = some v :=
  (World.cell?_of_block (w := W) (hM.block p.block (World.block_lt_of_cell? W p h) hp)).trans h
theorem lp_length (f : Nat) : ∀ (k : Nat) (acc : List UInt8), (lp f k acc).length ≤ acc.length + f := by
  induction f with
  | zero => intro k acc; simp [lp]
  | succ f ih =>
    intro k acc
    rw [lp]
    split
    · omega
    · have := ih (k / 10) (UInt8.ofNat (48 + k % 10) :: acc); rw [List.length_cons] at this; omega
theorem mks_sizes (n : Nat) (hn : n ≤ 1048576) : ∀ s ∈ mks 1 n, s.size ≤ maxLen := by
  intro s hs
  obtain ⟨j, hj, rfl⟩ := List.mem_iff_getElem.1 hs
  rw [mks_length] at hj
  have := mks_get 1 hj
  simp only [List.getD, List.getElem?_eq_getElem (show j < (mks 1 n).length by rw [mks_length]; exact hj), Option.getD_some] at this
  rw [this]
  have hl := lp_length (1 + j) (1 + j) []
  show (109 :: lp (1 + j) (1 + j) []).toArray.size ≤ maxLen
  simp only [List.size_toArray, List.length_cons] at hl ⊢
  simp at hl
  unfold maxLen; omega

set_option maxHeartbeats 4000000 in
theorem fnExactTruth_walk (a : Option Addr) (b o n c : Nat) (ts : List TaskD) (w : World) (h : TasksAt w a b o n ts) :
    Calls Try.prog 6 #[.agg #[.slice a n c]] w fun e w' => e = .returned (.bool true) ∧ Below w.heap.size w w' := by
  have hb0 : Below w.heap.size w (w.alloc (.cells #[.slice a n c] 30)) := (Below.refl _ _).alloc (Nat.le_refl _) _
  have hq0 : (w.alloc (.cells #[.slice a n c] 30)).cell? ⟨w.heap.size, 0, none⟩ = some (.slice a n c) := by simp
  have HL : Hid (ts.length = n) := h.len
  go_enter Try.func6, Try.ntmps6
  go_wp2_with fail
  refine (szPlan_any a b o n c ts 1048576 _ (by omega) (by omega) (h.below' hb0)).mono ?_
  rintro e w1 ⟨⟨r, rfl, hr⟩, hb1⟩
  have hB1 := hb0.trans (hb1.mono hb0.size)
  have hq1 := keepB hb1 hq0
  rcases hr with rfl | ⟨hr, hr0⟩
  · go_wp2
    go_ret
    exact ⟨rfl, hB1⟩
  have hs : n + tssz ts ≤ 1048576 := by omega
  clear hr
  go_wp2_with fail
  refine (toPlan_any a b o n c ts _ (h.below' hB1) hs).mono ?_
  rintro e w2 ⟨g2, xs2, rfl, _, _, ht2, hb2⟩
  have hB2 := hB1.trans (hb2.mono hB1.size)
  have hq2 := keepB hb2 hq1
  go_wp2_with fail
  refine (specTruth_any _ g2 0 n n ts _ ht2).mono ?_
  rintro e w3 ⟨⟨vs, ms, ss, rfl, htru, hsp⟩, hb3⟩
  have hB3 := hB2.trans (hb3.mono hB2.size)
  have hq3 := keepB hb3 hq2
  obtain ⟨hm40, hszs⟩ := htru.sizes
  have hml : ss.length = ms := by have := hsp.len; simpa using this
  obtain ⟨az, cs, rfl, _⟩ := hsp.shape
  obtain ⟨bs, os, hss⟩ := StrsAt.ofOwn' hsp hszs
  go_wp2_with fail
  refine (toPlan_any a b o n c ts _ (h.below' hB3) hs).mono ?_
  rintro e w4 ⟨g4, xs4, rfl, ho4, hbu4, ht4, hb4⟩
  have hB4 := hB3.trans (hb4.mono hB3.size)
  have hq4 := keepB hb4 hq3
  have hsh4 := hbu4.shape ho4 HL.out (by omega)
  have hg4lo := ho4.lo
  have hg4hi := ho4.hi
  have hss4 := hss.below' hb4
  have hb4' : Below w4.heap.size w4 (w4.alloc (.cells #[.slice (some ⟨g4, 0, none⟩) n n] 35)) := (Below.refl _ _).alloc (Nat.le_refl _) _
  have hB4' := hB4.trans (hb4'.mono hB4.size)
  have hq4' := keepB hb4' hq4
  have hx4 : (w4.alloc (.cells #[.slice (some ⟨g4, 0, none⟩) n n] 35)).cell? ⟨w4.heap.size, 0, none⟩ = some (.slice (some ⟨g4, 0, none⟩) n n) := by simp
  have ht4' := ht4.below' hb4'
  have hsh4' := hsh4.below hb4'
  have hss4' := hss4.below' hb4'
  have hslt := hss.lt
  go_wp2_with fail
  refine (implTruth_any _ g4 0 n n ts _ ht4').mono ?_
  rintro e w5 ⟨⟨vg, mg, sg, rfl, htru5, hgo⟩, hb5⟩
  obtain rfl : sg = ss := htru5.one htru
  have hmg : mg = ms := by have := hgo.len; simp at this; omega
  subst hmg
  have hB5 := hB4'.trans (hb5.mono hB4'.size)
  have hq5 := keepB hb5 hq4'
  have hx5 := keepB hb5 hx4
  have ht5 := ht4'.below' hb5
  have hsh5 := hsh4'.below hb5
  have hss5 := hss4'.below' hb5
  obtain ⟨ag, cg, rfl, _⟩ := hgo.shape
  obtain ⟨bg, og, hgs5⟩ := StrsAt.ofOwn' hgo hszs
  go_wp2_with fail
  refine (eqStringS_any _ _ bg og mg cg bs os cs sg _ hgs5 hss5).mono ?_
  rintro e w6 ⟨rfl, hb6⟩
  have hB6 := hB5.trans (hb6.mono hB5.size)
  have hq6 := keepB hb6 hq5
  have hx6 := keepB hb6 hx5
  have ht6 := (ht5.below' hb6).below' (Below.refl _ _).drew
  have hT6 := h.below' hB6.drew
  have hB6d := hB6.drew
  have hsh6 := hsh5.below hb6
  have hss6 := hss5.below' hb6
  have hgs6 := hgs5.below' hb6
  have hgo6 := hgo.below hb6 (Nat.le_refl _)
  simp only [World.size_alloc] at hgo6
  have hgw : w.heap.size < g4 := by have := World.block_lt_of_cell? _ _ hq3; simp at this; omega
  clear hq0 hq1 hq2 hq3 hq4 hq4' hx4 hb0 hb1 hb2 hb3 hb4 hb4' hb5 hb6 ht2 ht4 ht4' ht5 hB1 hB2 hB3 hB4 hB4' hB5 hss hss4 hss4' hss5 hsh4 hsh4' hsh5 hgs5 hgo hsp hbu4 ho4 hx5 hq5
  go_wp2
  go_region_held3 (fun w' => w'.cell? ⟨w.heap.size, 0, none⟩ = some (.slice a n c) ∧ w'.cell? ⟨w4.heap.size, 0, none⟩ = some (.slice (some ⟨g4, 0, none⟩) n n)) (first | (simp [go_sem, *]; done) | assumption)
    (first
      | (go_at_call 14; refine (toPlan_any a b o n c ts _ hT6 hs).mono ?_; rintro e w7 ⟨g7, xs7, rfl, _, _, ht7, hb7⟩; have hq7 := keepC hb7 hq6; have hx7 := keepC hb7 hx6; have hB7 := hB6d.trans (hb7.mono hB6d.size); have ht67 := ht6.below' hb7)
      | (go_at_call 16; refine (eqPlan_any _ _ g4 0 n n g7 0 n ts _ ht67 ht7).mono ?_; rintro e w8 ⟨rfl, hb8⟩; have hq8 := keepB hb8 hq7; have hx8 := keepB hb8 hx7; have hB8 := hB7.trans (hb8.mono hB7.size)))
  have hb68 : Below w6.heap.size w6 w8 := ((Below.refl _ _).drew.trans hb7).trans (hb8.mono hb7.size)
  have hsh8 := hsh6.below hb68
  have hss8 := hss6.below' hb68
  have hgo8 := hgo6.below hb68 (Nat.le_refl _)
  clear hsh6 hss6 hgo6 hgs6 hq6 hx6 hq7 hx7 hB6 hB6d hB7 ht6 hT6 ht7 ht67 hb7 hb8 hb68
  go_wp2_with fail
  refine (markPlan_any g4 w4.heap.size n n _ (by omega) hg4hi hsh8).mono ?_
  rintro e w9 ⟨⟨rk, rfl, hrk⟩, hM9⟩
  have hq9 := keepM hM9 hq8 (.inl hgw)
  have hB9 := Mid.below hB8 hM9 (by omega) hB8.size
  have hss9 := hss8.mid hM9 (fun hp => .inl (by have := hslt hp; omega))
  have hgo9 := hgo8.mid hM9 (by omega)
  obtain ⟨b9, o9, hgs9⟩ := StrsAt.ofOwn' hgo9 hszs
  clear hsh8 hss8 hgo8 hq8 hx8 hB8 hM9
  have hrk' : ¬ rk < 0 := by omega
  go_wp2_with fail
  refine (eqStringS_any _ _ b9 o9 mg cg bs os cs sg _ hgs9 hss9).mono ?_
  rintro e w10 ⟨rfl, hb10⟩
  have hq10 := keepB hb10 hq9
  have hB10 := hB9.trans (hb10.mono hB9.size)
  have hss10 := hss9.below' hb10
  have hgo10 := hgo9.below hb10 (Nat.le_refl _)
  clear hss9 hgo9 hgs9 hq9 hB9 hb10
  go_wp2_with fail
  have hct := markStringS_own ag mg cg 1 _ _ w10 (by omega) (by omega) (by omega) hgo10
  rw [show ((1 : Nat) : Int) = 1 from rfl] at hct
  refine hct.mono ?_
  clear hct
  rintro e w11 ⟨rfl, hgo11, hsz11, hb11⟩
  have hq11 : w11.cell? ⟨w.heap.size, 0, none⟩ = some (.slice a n c) := (hb11.cell (p := ⟨w.heap.size, 0, none⟩) (by show w.heap.size < w4.heap.size + 1; omega)).trans hq10
  have hB11 : Below w.heap.size w w11 := hB10.trans (hb11.mono (by omega))
  have hss11 := hss10.below hb11 (fun hp => by have := hslt hp; omega)
  obtain ⟨b11, o11, hgs11⟩ := StrsAt.ofOwn' hgo11 (mks_sizes mg (by omega))
  clear hss10 hgo10 hq10 hB10 hb11
  have hmg0 : (mg : Int) ≤ 40 := by omega
  have hheld : ∀ (w' : World), StrsAt w' ag b11 o11 mg (mks 1 mg) → Calls Try.prog 22 #[.slice ag mg cg, .int .i64 1] w' fun e w'' => e = .returned (.int .i64 (1 + (mg : Int))) ∧ Below w'.heap.size w' w'' := fun w' hw' => heldStringS_any ag b11 o11 mg cg 1 w' (by omega) (by omega) (by omega) hw'
  have HH : Hid _ := hheld
  clear hheld
  go_wp2_with fail
  refine (HH.out _ hgs11).mono ?_
  rintro e w12 ⟨rfl, hb12⟩
  have hq12 := keepB hb12 hq11
  have hB12 := hB11.trans (hb12.mono hB11.size)
  have hss12 := hss11.below' hb12
  have hgs12 := hgs11.below' hb12
  clear hss11 hgs11 hq11 hB11 hb12 hgo11
  go_wp2_with fail
  refine (toPlan_any a b o n c ts _ (h.below' hB12) hs).mono ?_
  rintro e w13 ⟨g13, xs13, rfl, _, _, ht13, hb13⟩
  have hB13 := hB12.trans (hb13.mono hB12.size)
  have hss13 := hss12.below' hb13
  have hgs13 := hgs12.below' hb13
  clear hss12 hgs12 hq12 hB12 hb13
  go_wp2_with fail
  refine (implTruth_any _ g13 0 n n ts _ ht13).mono ?_
  rintro e w14 ⟨⟨vh, mh, sh, rfl, htruh, hho⟩, hb14⟩
  obtain rfl : sh = sg := htruh.one htru
  have hmh : mh = mg := by have := hho.len; simp at this; omega
  subst hmh
  have hB14 := hB13.trans (hb14.mono hB13.size)
  have hss14 := hss13.below' hb14
  have hgs14 := hgs13.below' hb14
  obtain ⟨ah, ch, rfl, _⟩ := hho.shape
  obtain ⟨bh, oh, hhs14⟩ := StrsAt.ofOwn' hho hszs
  clear hss13 hgs13 hB13 hb14 ht13 hho
  go_wp2_with fail
  refine (eqStringS_any _ _ bh oh mh ch bs os cs sh _ hhs14 hss14).mono ?_
  rintro e w15 ⟨rfl, hb15⟩
  have hB15 := hB14.trans (hb15.mono hB14.size)
  have hgs15 := hgs14.below' hb15
  clear hss14 hgs14 hhs14 hB14 hb15
  go_wp2_with fail
  refine (HH.out _ hgs15).mono ?_
  rintro e w16 ⟨rfl, hb16⟩
  have hB16 := hB15.trans (hb16.mono hB15.size)
  go_wp2
  go_ret
  exact ⟨rfl, hB16⟩

set_option maxRecDepth 100000 in
theorem fnExactTruth_lifted (os : Os) (started : os.Started) (H : Type) (enc : TypeId × Value → H) :
    ReturnsInHanded {} Try.checked os 6 .any (Rows.fnExactTruthSpec.pre6 enc Try.prog Try.f6 Rows.fnExactTruthRow.domain false) (Rows.fnExactTruthSpec.post enc Try.prog Try.f6 false true false false) := by
  refine returnsInHanded_of_change (C := Try.checked) Try.own started (by kernel_rfl) Try.func6
    (ChangeSpec.witness6 (enc := enc) (C := Try.checked) false ⟨#[], #[.agg #[.slice none 0 0]], []⟩ 8 (by kernel_rfl) (by kernel_rfl) (by kernel_rfl) (by kernel_rfl)) ?_
  intro W base args ds gs before hval0 hW hcnd _
  have hval : ∀ (j : Nat) t v, Try.f6.params[j]? = some t → args[j]? = some v → Value.okWide Try.prog W .any base t v := hval0
  have hW' := hW
  obtain ⟨p, q, hA0, hV, rfl, hfz, hnd⟩ := hW
  have hA : DataW.TrodAll enc Try.prog W 0 (fun _ => true) true Try.f6.params.toList args.toList ds p := hA0
  rw [Try.params6] at hA hval
  obtain ⟨v0, vs0, d0, ds0, p0, q0, hargs, rfl, rfl, h0, r0⟩ := trodAll_cons hA
  obtain ⟨rfl, rfl, rfl⟩ := trodAll_nil r0
  obtain rfl : args = #[v0] := by cases args; simp_all
  obtain ⟨rfl, rfl⟩ := trodVars_none hV
  have k0 := h0
  have lt0 : ∀ x ∈ p0, x.block < W.heap.size := by obtain ⟨m, hm⟩ := k0; exact DataW.trod_lt m _ _ _ hm
  obtain ⟨fuel, hf⟩ := h0
  obtain ⟨a, b, o, n, c, ts, rfl, hat⟩ := planAt_of (okWide_struct Try.underlying30 (hval 0 30 v0 rfl rfl)) hf
  clear hA0 hval0
  refine (fnExactTruth_walk a b o n c ts W hat).mono fun e W' ⟨he, bel⟩ => ?_
  subst he
  exact ⟨_, rfl, _, _, _, [], _, [], hW', trodAll_mk1 (shut_bool Try.underlying4 _), (trodAll_cons_mk (Below.trod Try.laidOut (by kernel_rfl) (of_decide_eq_true (by kernel_rfl)) k0 bel lt0) trodAll_mk0), rfl, bel.frame _, fun h => by cases h⟩

theorem fnExactTruth_holds : Rows.FnExactTruthSaid :=
  OpenClaim.holds_of_wide 6 Try.f6 rfl rfl rfl rfl rfl rfl rfl ⟨rfl, rfl, rfl, rfl, rfl⟩ rfl rfl rfl rfl rfl (by kernel_rfl) Try.func6 (by kernel_rfl)
    (of_decide_eq_true (by kernel_rfl)) (by unfold Func.isWrapper; first | (rw [if_pos (by decide +kernel)]; kernel_rfl) | (rw [if_neg (by decide +kernel)]; exact ⟨rfl, rfl⟩))
    (fun os started H enc _ => fnExactTruth_lifted os started H enc)
#print axioms fnExactTruth_holds
end Go.Proofs.Ytmgmpabbeanieaa
