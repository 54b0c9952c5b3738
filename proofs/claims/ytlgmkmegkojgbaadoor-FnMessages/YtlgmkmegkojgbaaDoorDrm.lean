
/-
  spec.l2Draw.
-/
import Derived.Test.YtlgmkmegkojgbaaDoorDrw
namespace Go.Proofs.YtlgmkmegkojgbaaDoor
open Go.RowKit

/-- Amid a draw of a message: the message so far in block Q, the answer's box in block P, the reader in block g. -/
structure DM (w0 : World) (g P Q : Nat) (vs : List Value) (k : Nat) (w : World) : Prop where
  m : CF w Q vs
  bx : CF w P zM
  rd : RD w g k
  gr : w0.grownBy w (some g)
  h0 : w0.heap.size ≤ P
  hq : w0.heap.size ≤ Q
  h1 : g < w0.heap.size
  h2 : P ≠ Q
  h3 : Q < w.heap.size
  h4 : P < w.heap.size
section
variable {w0 w w' : World} {g P Q k k' : Nat} {vs : List Value}
theorem DM.call (h : DM w0 g P Q vs k w) (hg : w.grownBy w' (some g)) (hr : RD w' g k') : DM w0 g P Q vs k' w' :=
  have := h.h0; have := h.h1; have := h.hq; have := h.h3; have := h.h4
  ⟨h.m.block (hg.block _ (by omega) (by simp; omega)), h.bx.block (hg.block _ (by omega) (by simp; omega)), hr, grownBy_trans h.gr hg, h.h0, h.hq, h.h1, h.h2, Nat.lt_of_lt_of_le h.h3 hg.size, Nat.lt_of_lt_of_le h.h4 hg.size⟩
theorem DM.store (h : DM w0 g P Q vs k w) {j : Nat} (hj : j < vs.length) (u : Value) : DM w0 g P Q (vs.set j u) k (w.setCell ⟨Q, j, none⟩ u) :=
  have := h.h0; have := h.h1; have := h.hq; have := h.h2; have := h.h3
  ⟨h.m.set hj u, h.bx.block (Below.heap_setCell _ _ _ _ (by dsimp only; omega)), h.rd.set (by dsimp only; omega) u, ⟨h.gr.os, h.gr.tape, h.gr.output, by simpa [World.setCell] using h.gr.size, fun q hq hne => by rw [Below.heap_setCell _ _ _ _ (by dsimp only; omega)]; exact h.gr.block q hq hne⟩, h.h0, h.hq, h.h1, h.h2, by simpa [World.setCell] using h.h3, by simpa [World.setCell] using h.h4⟩
theorem DM.grown (h : DM w0 g P Q vs k w) {row : Option Nat} (hg : w.grownBy w' row) (hr : ∀ q, row = some q → P < q ∧ Q < q) : DM w0 g P Q vs k w' :=
  have := h.h0; have := h.h1; have := h.hq; have := h.h3; have := h.h4
  ⟨h.m.block (hg.block _ (by omega) (fun e => by have := hr _ e.symm; omega)), h.bx.block (hg.block _ (by omega) (fun e => by have := hr _ e.symm; omega)), h.rd.grown hg (fun q hq => by have := hr q hq; omega),
    ⟨hg.os.trans h.gr.os, hg.tape.trans h.gr.tape, hg.output.trans h.gr.output, Nat.le_trans h.gr.size hg.size, fun q hq hne => (hg.block q (Nat.lt_of_lt_of_le hq h.gr.size) (fun e => by have := hr q e.symm; omega)).trans (h.gr.block q hq hne)⟩, h.h0, h.hq, h.h1, h.h2, Nat.lt_of_lt_of_le h.h3 hg.size, Nat.lt_of_lt_of_le h.h4 hg.size⟩
theorem DM.alloc (h : DM w0 g P Q vs k w) (o : Obj) : DM w0 g P Q vs k (w.alloc o) := h.grown (World.grownBy_alloc w o none) (fun q hq => by cases hq)
theorem DM.drew (h : DM w0 g P Q vs k w) : DM w0 g P Q vs k w.drew := h.grown (row := none) ⟨rfl, rfl, rfl, Nat.le_refl _, fun _ _ _ => rfl⟩ (fun q hq => by cases hq)
theorem DM.set (h : DM w0 g P Q vs k w) {p : Addr} (hp : P < p.block ∧ Q < p.block) (u : Value) : DM w0 g P Q vs k (w.setCell p u) := h.grown (row := some p.block) ⟨rfl, rfl, rfl, by simp [World.setCell], fun q _ hne => Below.heap_setCell _ _ _ _ (by intro e; exact hne (by rw [e]))⟩ (fun q hq => by simp at hq; omega)
end
theorem dm_start (w0 w1 w2 : World) (g k : Nat) (cs : Array Value) (T T' : TypeId) (hc : cs.toList = zM) (h1 : w1 = w0.alloc (.cells cs T)) (hg : w1.grownBy w2 (some g)) (hr : RD w2 g k) (hl : g < w0.heap.size) (vs : Array Value) :
    DM w0 g w0.heap.size w2.heap.size vs.toList k (w2.alloc (.cells vs T')) := by
  have hs : w1.heap.size = w0.heap.size + 1 := by rw [h1]; simp
  have hb := CF.made w0 cs T
  rw [hc, ← h1] at hb
  have hb2 := hb.block (hg.block w0.heap.size (by omega) (by simp; omega))
  have h12 := hg.size
  refine ⟨CF.made w2 vs T', hb2.block (Below.heap_alloc _ _ _ (by omega)), hr.keep (fun q hq => Below.heap_alloc _ _ _ (by omega)), galloc (grownBy_trans (by rw [h1]; exact galloc (World.grownBy.refl _ _) _) hg) _, Nat.le_refl _, by omega, hl, by omega, by simp, by simp; omega⟩

/-- A message of the caller's own. -/
def OwnMsg (B : Nat) (w : World) (v : Value) (ok : Bool) : Prop := ∃ (k f t e l d : Int) (x : ByteArray) (ss : List ByteArray) (a : Option Addr) (c : Nat),
  v = .agg #[.int .i64 k, .int .i64 f, .int .i64 t, .int .i64 e, .int .i64 l, .int .i64 d, .string x, .slice a ss.length c] ∧ x.size ≤ 8 ∧ ss.length ≤ 12 ∧ (∀ s ∈ ss, s.size ≤ 8) ∧ (ok = true → inOk ss ∧ 0 ≤ e ∧ e ≤ 300 ∧ 0 ≤ l ∧ l ≤ 300000000) ∧ Own B w 1 (.slice a ss.length c) ss.length (ss.map Value.string)
theorem lease_of (r : Nat) (h : r < 7) : ∃ v : Int, [Value.int .i64 1, .int .i64 2, .int .i64 3, .int .i64 256, .int .i64 1000000, .int .i64 1000001, .int .i64 300000000][r]? = some (.int .i64 v) ∧ 0 ≤ v ∧ v ≤ 300000000 := by
  rcases (show r = 0 ∨ r = 1 ∨ r = 2 ∨ r = 3 ∨ r = 4 ∨ r = 5 ∨ r = 6 by omega) with rfl | rfl | rfl | rfl | rfl | rfl | rfl <;> exact ⟨_, rfl, by omega, by omega⟩
/-- n texts of eight bytes. -/
def e8 (ss : List ByteArray) : Prop := ∀ s ∈ ss, s.size = 8
theorem e8.nil : e8 [] := fun s h => by cases h
theorem e8.ok {ss : List ByteArray} (h : e8 ss) (hl : ss.length ≤ 8) : inOk ss := ⟨hl, fun j hj => by
  simp only [List.getD, List.getElem?_eq_getElem hj, Option.getD_some]
  exact h _ (List.getElem_mem hj)⟩
theorem e8.snoc {ss : List ByteArray} {y : ByteArray} (h : e8 ss) (hy : y.size = 8) : e8 (ss ++ [y]) := fun s hs => by
  rcases List.mem_append.1 hs with hs | hs
  · exact h s hs
  · rw [List.mem_singleton.1 hs]; exact hy

theorem grownBy_box {w w1 w2 : World} {g : Nat} (h : w.grownBy w1 (some g)) (hg : w1.grownBy w2 (some w.heap.size)) : w.grownBy w2 (some g) :=
  ⟨hg.os.trans h.os, hg.tape.trans h.tape, hg.output.trans h.output, Nat.le_trans h.size hg.size, fun q hq hne => (hg.block q (Nat.lt_of_lt_of_le hq h.size) (by simp; omega)).trans (h.block q hq hne)⟩

set_option maxHeartbeats 4000000 in
set_option maxRecDepth 100000 in
theorem l2Draw_any (g k : Nat) (w : World) (h : RD w g k) (hk : k ≤ 900000) :
    Calls Tryd.prog 49 #[.pointer (some ⟨g, 0, none⟩)] w fun e' w' => (∃ v, e' = .returned v ∧ OwnMsg w.heap.size w' v true) ∧ RD w' g (k + 20) ∧ w.grownBy w' (some g) := by
  obtain ⟨i0, hi, hz0, hz1, hz2⟩ := info_parts Tryd.info9
  have hgl := h.lt
  obtain ⟨W, hW⟩ : ∃ W, W = w.alloc (.cells #[.int .i64 0, .int .i64 0, .int .i64 0, .int .i64 0, .int .i64 0, .int .i64 0, .string ⟨#[]⟩, .slice none 0 0] 27) := ⟨_, rfl⟩
  have hRW : RD W g k := by rw [hW]; exact h.keep (fun q hq => Below.heap_alloc _ _ _ (by omega))
  have HW := hid hW
  clear hW
  go_enter Tryd.func49, Tryd.ntmps49
  go_wp2_with fail
  rw [← HW.out]
  refine (pick_any g 5 k _ hRW (by omega) (by omega) (by omega)).mono ?_
  rintro e1 w1 ⟨⟨r, hq, rfl⟩, hr1, hg1⟩
  go_wp2_with fail
  refine (pick_any g 3 (k + 1) _ hr1 (by omega) (by omega) (by omega)).mono ?_
  rintro e2 w2 ⟨⟨r2, hq2, rfl⟩, hr2, hg2⟩
  have hst := fun (kd : Int) => dm_start w W w2 g (k + 1 + 1) _ 27 27 rfl HW.out (grownBy_trans hg1 hg2) hr2 hgl #[.int .i64 kd, .int .i64 0, .int .i64 0, .int .i64 (1 + (r2 : Int)), .int .i64 0, .int .i64 0, .string ⟨#[]⟩, .slice none 0 0]
  have HST := hid hst
  clear hst hr1 hg1 hr2 hg2 hRW h HW
  rcases (show r = 0 ∨ r = 1 ∨ r = 2 ∨ r = 3 ∨ r = 4 by omega) with rfl | rfl | rfl | rfl | rfl
  · have hD3 := HST.out 1
    obtain ⟨W3, hW3⟩ : ∃ W3, W3 = w2.alloc (.cells #[.int .i64 1, .int .i64 0, .int .i64 0, .int .i64 (1 + (r2 : Int)), .int .i64 0, .int .i64 0, .string ⟨#[]⟩, .slice none 0 0] 27) := ⟨_, rfl⟩
    rw [← hW3] at hD3
    have HW3 := hid hW3
    clear hW3 HST hq
    go_upto_region 2 with fail
    rw [← HW3.out]
    obtain ⟨Q, hQ⟩ : ∃ Q, Q = w2.heap.size := ⟨_, rfl⟩
    rw [← hQ] at hD3 ⊢
    clear hQ HW3
    have ck : W3.cell? ⟨Q, 0, none⟩ = some (.int .i64 1) := (hD3.m 0 (by simp)).1
    go_wp2_with fail
    refine (l2Uses_1 _).mono ?_
    rintro e' w' ⟨rfl, rfl⟩
    clear ck
    go_wp2_with fail
    refine (pick_any g 3 (k + 1 + 1) _ hD3.rd (by omega) (by omega) (by omega)).mono ?_
    rintro e4 w4 ⟨⟨r4, hq4, rfl⟩, hr4, hg4⟩
    have hC4 := hD3.call hg4 hr4
    clear hr4 hg4 hD3
    have c4 : w4.cell? ⟨Q, 2, none⟩ = some (.int .i64 0) := (hC4.m 2 (by simp)).1
    have f4 : w4.frozen? ⟨Q, 2, none⟩ = false := (hC4.m 2 (by simp)).2
    have hS4 := hC4.store (j := 2) (by simp) (.int .i64 (1 + (r4 : Int)))
    simp only [List.set_cons_zero, List.set_cons_succ] at hS4
    have hA := hS4.alloc (.cells #[.int .i64 1, .int .i64 2, .int .i64 3, .int .i64 256, .int .i64 1000000, .int .i64 1000001, .int .i64 300000000] 3)
    obtain ⟨WL, hWL⟩ : ∃ WL, WL = (w4.setCell ⟨Q, 2, none⟩ (.int .i64 (1 + (r4 : Int)))) := ⟨_, rfl⟩
    rw [← hWL] at hA
    have hWLs : WL.heap.size = w4.heap.size := by rw [hWL]; simp [World.setCell]
    have hT7 := CF.made WL #[.int .i64 1, .int .i64 2, .int .i64 3, .int .i64 256, .int .i64 1000000, .int .i64 1000001, .int .i64 300000000] 3
    obtain ⟨WA, hWA⟩ : ∃ WA, WA = WL.alloc (.cells #[.int .i64 1, .int .i64 2, .int .i64 3, .int .i64 256, .int .i64 1000000, .int .i64 1000001, .int .i64 300000000] 3) := ⟨_, rfl⟩
    have hsA : WL.heap.size < WA.heap.size := by rw [hWA]; simp
    rw [← hWA] at hA hT7
    have hgL : g < WL.heap.size := by have := hA.h1; have := hA.hq; have := hS4.h3; rw [← hWL] at this; omega
    have HWL := hid hWL
    have HWA := hid hWA
    clear hWL hWA hS4
    go_wp2_with fail
    rw [← HWL.out]
    rw [← HWA.out]
    refine (pick_any g 7 (k + 1 + 1 + 1) _ hA.rd (by omega) (by omega) (by omega)).mono ?_
    rintro e5 w5 ⟨⟨r5, hq5, rfl⟩, hr5, hg5⟩
    have hC5 := hA.call hg5 hr5
    obtain ⟨v7, hv7, hv70, hv71⟩ := lease_of r5 hq5
    have c7 : w5.cell? ⟨WL.heap.size, r5, none⟩ = some (.int .i64 v7) := ((hT7.block (hg5.block _ hsA (by simp; omega))) r5 (by simpa using hq5)).1.trans hv7
    rw [hWLs] at c7
    have hq5' : (r5 : Int) < 7 := by omega
    clear hT7 hA hr5 hg5 hv7 c4 f4 HWL HWA hWLs hsA hgL
    have c5 : w5.cell? ⟨Q, 4, none⟩ = some (.int .i64 0) := (hC5.m 4 (by simp)).1
    have f5 : w5.frozen? ⟨Q, 4, none⟩ = false := (hC5.m 4 (by simp)).2
    have hS5 := hC5.store (j := 4) (by simp) (.int .i64 v7)
    simp only [List.set_cons_zero, List.set_cons_succ] at hS5
    go_wp2_with fail
    refine (pick_any g 6 (k + 1 + 1 + 1 + 1) _ hS5.rd (by omega) (by omega) (by omega)).mono ?_
    rintro e6 w6 ⟨⟨r6, hq6, rfl⟩, hr6, hg6⟩
    have hC6 := hS5.call hg6 hr6
    clear hr6 hg6 hS5
    have c6 : w6.cell? ⟨Q, 5, none⟩ = some (.int .i64 0) := (hC6.m 5 (by simp)).1
    have f6 : w6.frozen? ⟨Q, 5, none⟩ = false := (hC6.m 5 (by simp)).2
    have hS6 := hC6.store (j := 5) (by simp) (.int .i64 (r6 : Int))
    simp only [List.set_cons_zero, List.set_cons_succ] at hS6
    go_wp2_with fail
    refine (pick_any g 3 (k + 1 + 1 + 1 + 1 + 1) _ hS6.rd (by omega) (by omega) (by omega)).mono ?_
    rintro e7 w7 ⟨⟨r8, hq8, rfl⟩, hr7, hg7⟩
    have hC7 := hS6.call hg7 hr7
    clear hr7 hg7 hS6
    have HS := hid hC7
    go_wp2
    go_loopw [10] (fun i wr => ∃ j : Nat, j ≤ r8 ∧ i = .int .i64 j ∧ ∃ v xs, xs.length + j = r8 ∧ e8 xs ∧ DM w g w.heap.size Q [.int .i64 1, .int .i64 0, .int .i64 (1 + (r4 : Int)), .int .i64 (1 + (r2 : Int)), .int .i64 v7, .int .i64 (r6 : Int), .string ⟨#[]⟩, v] (k + 1 + 1 + 1 + 1 + 1 + 1 + xs.length) wr ∧ Own (Q + 1) wr 1 v xs.length (xs.map Value.string)) (fun i _ => (intOf i).toNat)
    case atStart => exact ⟨r8, Nat.le_refl _, rfl, _, [], by simp, e8.nil, HS.out, Own.nil _ _ _⟩
    case round =>
      obtain ⟨j, hj, rfl, v, xs, hxl, hx8, hSj, ho⟩ := hrel
      have cv : wr.cell? ⟨Q, 7, none⟩ = some v := (hSj.m 7 (by simp)).1
      have fv : wr.frozen? ⟨Q, 7, none⟩ = false := (hSj.m 7 (by simp)).2
      by_cases hlt : 0 < j
      · have hlt' : (0 : Int) < (j : Int) := by omega
        have hSd := hSj.drew
        have cvd : wr.drew.cell? ⟨Q, 7, none⟩ = some v := cv
        have hod := ho.drewW
        have hsrc : ∀ (w1 : World) (y : ByteArray), Src Tryd.prog 1 22 (.slice (some ⟨w1.heap.size, 0, none⟩) 1 1) 1 [.string y] (w1.alloc (.cells #[.string y] 9)) := fun w1 y =>
          Own.src (B := 0) (.inr ⟨_, 0, 1, rfl, OwnC.made w1 0 9 1 1 1 _ 1 (by omega) (Nat.le_refl _) (by unfold maxLen; omega) rfl (Nat.le_refl _) _ rfl _ (.inl rfl)⟩) Tryd.underlying22 (by simp; rfl)
        have hQ := hSj.h3
        have hgQ : g < Q := by have := hSj.h1; have := hSj.hq; omega
        go_wp2
        go_region_law (first
            | (go_simp; go_at_call 79; refine (l1Bytes_any g _ _ hSd.rd (by omega)).mono ?_; rintro e' w1 ⟨⟨y, rfl, hy⟩, hr1, hg1⟩; have hS1 := hSd.call hg1 hr1; have hSa := hS1.alloc (.cells #[.string y] 9); have cv1 : (w1.alloc (.cells #[.string y] 9)).cell? ⟨Q, 7, none⟩ = some v := (hSa.m 7 (by simp)).1; have cv1' : w1.cell? ⟨Q, 7, none⟩ = some v := (hS1.m 7 (by simp)).1; have ho1 := (hod.grown hg1 (.inr (by intro hh; have := ho.row_lo _ hh; omega))).alloc (.cells #[.string y] 9); have hsrc1 := hsrc w1 y; have hlo1 := hS1.h3)
            | (refine step_append_c rfl (.tmp 58) (.tmp 61) 22 22 rfl (Q + 1) 9 i0 (.string ⟨#[]⟩) 1 16 Tryd.underlying22 hi hz0 hz1 hz2 rfl v xs.length _ rfl ho1 _ 1 [.string y] rfl hsrc1 (by unfold maxLen; omega) (by omega) (by simp; omega) ?_; intro v2 w2 ho2 hg2 hbk2; obtain ⟨a2, c2, rfl⟩ := ho2.slc; have hS2 := hSa.grown hg2 (fun q hq => by have := ho1.row_lo q hq; have := hSa.hq; have := hSa.h2; omega); have cv2 : w2.cell? ⟨Q, 7, none⟩ = some v := (hS2.m 7 (by simp)).1; have fv2 : w2.frozen? ⟨Q, 7, none⟩ = false := (hS2.m 7 (by simp)).2))
        all_goals
          have hS3 := hS2.store (j := 7) (by simp) (.slice a2 (xs.length + 1) c2)
          simp only [List.set_cons_zero, List.set_cons_succ] at hS3
          have ho3 := ho2.grown (gset (World.grownBy.refl w2 (some Q)) 7 (.slice a2 (xs.length + 1) c2)) (.inr (by intro hh; have := ho2.row_lo _ hh; omega))
          rw [show xs.map Value.string ++ [.string y] = (xs ++ [y]).map Value.string by simp] at ho3
          have hx8y := hx8.snoc hy
          clear hS1 hSa hS2 ho1 ho2 hsrc1 hg2 hbk2 cv cvd hSd hod hsrc ho hSj hg1 hr1 hx8
          go_wp2
          go_roundw
          case rel => exact ⟨j - 1, by omega, by go_num, _, xs ++ [y], by simp; omega, hx8y, by rw [List.length_append]; exact hS3, by rw [List.length_append]; exact ho3⟩
          case measure => simp [intOf]; omega
      · have hlt' : ¬ (0 : Int) < (j : Int) := by omega
        obtain ⟨a7, c7s, rfl⟩ := ho.slc
        have y0 : wr.cell? ⟨Q, 0, none⟩ = some (.int .i64 1) := (hSj.m 0 (by simp)).1
        have y1 : wr.cell? ⟨Q, 1, none⟩ = some (.int .i64 0) := (hSj.m 1 (by simp)).1
        have y2 : wr.cell? ⟨Q, 2, none⟩ = some (.int .i64 (1 + (r4 : Int))) := (hSj.m 2 (by simp)).1
        have y3 : wr.cell? ⟨Q, 3, none⟩ = some (.int .i64 (1 + (r2 : Int))) := (hSj.m 3 (by simp)).1
        have y4 : wr.cell? ⟨Q, 4, none⟩ = some (.int .i64 v7) := (hSj.m 4 (by simp)).1
        have y5 : wr.cell? ⟨Q, 5, none⟩ = some (.int .i64 (r6 : Int)) := (hSj.m 5 (by simp)).1
        have y6 : wr.cell? ⟨Q, 6, none⟩ = some (.string ⟨#[]⟩) := (hSj.m 6 (by simp)).1
        have y7 : wr.cell? ⟨Q, 7, none⟩ = some (.slice a7 xs.length c7s) := (hSj.m 7 (by simp)).1
        have hbx := hSj.bx
        clear cv fv
        go_wp2_with (refine wpList_store_cf rfl 27 (.tmp 2) (.tmp 64) rfl w.heap.size zM [.int .i64 1, .int .i64 0, .int .i64 (1 + (r4 : Int)), .int .i64 (1 + (r2 : Int)), .int .i64 v7, .int .i64 (r6 : Int), .string ⟨#[]⟩, .slice a7 xs.length c7s] rfl rfl hbx rfl Tryd.sizeMsg (one8 _ _ _ _ _ _ _ _ _ _) ?_; intro w10 hc10 hg10)
        have k0 : w10.cell? ⟨w.heap.size, 0, none⟩ = some (.int .i64 1) := (hc10 0 (by simp)).1
        have k1 : w10.cell? ⟨w.heap.size, 1, none⟩ = some (.int .i64 0) := (hc10 1 (by simp)).1
        have k2 : w10.cell? ⟨w.heap.size, 2, none⟩ = some (.int .i64 (1 + (r4 : Int))) := (hc10 2 (by simp)).1
        have k3 : w10.cell? ⟨w.heap.size, 3, none⟩ = some (.int .i64 (1 + (r2 : Int))) := (hc10 3 (by simp)).1
        have k4 : w10.cell? ⟨w.heap.size, 4, none⟩ = some (.int .i64 v7) := (hc10 4 (by simp)).1
        have k5 : w10.cell? ⟨w.heap.size, 5, none⟩ = some (.int .i64 (r6 : Int)) := (hc10 5 (by simp)).1
        have k6 : w10.cell? ⟨w.heap.size, 6, none⟩ = some (.string ⟨#[]⟩) := (hc10 6 (by simp)).1
        have k7 : w10.cell? ⟨w.heap.size, 7, none⟩ = some (.slice a7 xs.length c7s) := (hc10 7 (by simp)).1
        refine bodyPost_ret (v := .agg #[.int .i64 1, .int .i64 0, .int .i64 (1 + (r4 : Int)), .int .i64 (1 + (r2 : Int)), .int .i64 v7, .int .i64 (r6 : Int), .string ⟨#[]⟩, .slice a7 xs.length c7s]) (by simp [results, Tryd.results49, go_sem, k0, k1, k2, k3, k4, k5, k6, k7]) rfl ⟨⟨_, rfl, _, _, _, _, _, _, _, xs, _, _, rfl, by decide, by omega, fun s hs => Nat.le_of_eq (hx8 s hs), fun _ => ⟨hx8.ok (by omega), by omega, by omega, by omega, by omega⟩, ?_⟩, (hSj.rd.grown hg10 (fun q hq => by simp at hq; have := hSj.h1; omega)).mono (by omega), grownBy_box hSj.gr hg10⟩
        exact (ho.grown hg10 (.inr (by intro hh; have := ho.row_lo _ hh; have := hSj.hq; omega))).mono' (by have := hSj.hq; omega)
  · have hD3 := HST.out 2
    obtain ⟨W3, hW3⟩ : ∃ W3, W3 = w2.alloc (.cells #[.int .i64 2, .int .i64 0, .int .i64 0, .int .i64 (1 + (r2 : Int)), .int .i64 0, .int .i64 0, .string ⟨#[]⟩, .slice none 0 0] 27) := ⟨_, rfl⟩
    rw [← hW3] at hD3
    have HW3 := hid hW3
    clear hW3 HST hq
    go_upto_region 2 with fail
    rw [← HW3.out]
    obtain ⟨Q, hQ⟩ : ∃ Q, Q = w2.heap.size := ⟨_, rfl⟩
    rw [← hQ] at hD3 ⊢
    clear hQ HW3
    have ck : W3.cell? ⟨Q, 0, none⟩ = some (.int .i64 2) := (hD3.m 0 (by simp)).1
    go_wp2_with fail
    refine (l2Uses_2 _).mono ?_
    rintro e' w' ⟨rfl, rfl⟩
    clear ck
    go_wp2_with fail
    refine (pick_any g 3 (k + 1 + 1) _ hD3.rd (by omega) (by omega) (by omega)).mono ?_
    rintro e4 w4 ⟨⟨r4, hq4, rfl⟩, hr4, hg4⟩
    have hC4 := hD3.call hg4 hr4
    clear hr4 hg4 hD3
    have c4 : w4.cell? ⟨Q, 1, none⟩ = some (.int .i64 0) := (hC4.m 1 (by simp)).1
    have f4 : w4.frozen? ⟨Q, 1, none⟩ = false := (hC4.m 1 (by simp)).2
    have hS4 := hC4.store (j := 1) (by simp) (.int .i64 (1 + (r4 : Int)))
    simp only [List.set_cons_zero, List.set_cons_succ] at hS4
    have hA := hS4.alloc (.cells #[.int .i64 1, .int .i64 2, .int .i64 3, .int .i64 256, .int .i64 1000000, .int .i64 1000001, .int .i64 300000000] 3)
    obtain ⟨WL, hWL⟩ : ∃ WL, WL = (w4.setCell ⟨Q, 1, none⟩ (.int .i64 (1 + (r4 : Int)))) := ⟨_, rfl⟩
    rw [← hWL] at hA
    have hWLs : WL.heap.size = w4.heap.size := by rw [hWL]; simp [World.setCell]
    have hT7 := CF.made WL #[.int .i64 1, .int .i64 2, .int .i64 3, .int .i64 256, .int .i64 1000000, .int .i64 1000001, .int .i64 300000000] 3
    obtain ⟨WA, hWA⟩ : ∃ WA, WA = WL.alloc (.cells #[.int .i64 1, .int .i64 2, .int .i64 3, .int .i64 256, .int .i64 1000000, .int .i64 1000001, .int .i64 300000000] 3) := ⟨_, rfl⟩
    have hsA : WL.heap.size < WA.heap.size := by rw [hWA]; simp
    rw [← hWA] at hA hT7
    have hgL : g < WL.heap.size := by have := hA.h1; have := hA.hq; have := hS4.h3; rw [← hWL] at this; omega
    have HWL := hid hWL
    have HWA := hid hWA
    clear hWL hWA hS4
    go_wp2_with fail
    rw [← HWL.out]
    rw [← HWA.out]
    refine (pick_any g 7 (k + 1 + 1 + 1) _ hA.rd (by omega) (by omega) (by omega)).mono ?_
    rintro e5 w5 ⟨⟨r5, hq5, rfl⟩, hr5, hg5⟩
    have hC5 := hA.call hg5 hr5
    obtain ⟨v7, hv7, hv70, hv71⟩ := lease_of r5 hq5
    have c7 : w5.cell? ⟨WL.heap.size, r5, none⟩ = some (.int .i64 v7) := ((hT7.block (hg5.block _ hsA (by simp; omega))) r5 (by simpa using hq5)).1.trans hv7
    rw [hWLs] at c7
    have hq5' : (r5 : Int) < 7 := by omega
    clear hT7 hA hr5 hg5 hv7 c4 f4 HWL HWA hWLs hsA hgL
    have c5 : w5.cell? ⟨Q, 4, none⟩ = some (.int .i64 0) := (hC5.m 4 (by simp)).1
    have f5 : w5.frozen? ⟨Q, 4, none⟩ = false := (hC5.m 4 (by simp)).2
    have hS5 := hC5.store (j := 4) (by simp) (.int .i64 v7)
    simp only [List.set_cons_zero, List.set_cons_succ] at hS5
    have y0 : (w5.setCell ⟨Q, 4, none⟩ (.int .i64 v7)).cell? ⟨Q, 0, none⟩ = some (.int .i64 2) := (hS5.m 0 (by simp)).1
    have y1 : (w5.setCell ⟨Q, 4, none⟩ (.int .i64 v7)).cell? ⟨Q, 1, none⟩ = some (.int .i64 (1 + (r4 : Int))) := (hS5.m 1 (by simp)).1
    have y2 : (w5.setCell ⟨Q, 4, none⟩ (.int .i64 v7)).cell? ⟨Q, 2, none⟩ = some (.int .i64 0) := (hS5.m 2 (by simp)).1
    have y3 : (w5.setCell ⟨Q, 4, none⟩ (.int .i64 v7)).cell? ⟨Q, 3, none⟩ = some (.int .i64 (1 + (r2 : Int))) := (hS5.m 3 (by simp)).1
    have y4 : (w5.setCell ⟨Q, 4, none⟩ (.int .i64 v7)).cell? ⟨Q, 4, none⟩ = some (.int .i64 v7) := (hS5.m 4 (by simp)).1
    have y5 : (w5.setCell ⟨Q, 4, none⟩ (.int .i64 v7)).cell? ⟨Q, 5, none⟩ = some (.int .i64 0) := (hS5.m 5 (by simp)).1
    have y6 : (w5.setCell ⟨Q, 4, none⟩ (.int .i64 v7)).cell? ⟨Q, 6, none⟩ = some (.string ⟨#[]⟩) := (hS5.m 6 (by simp)).1
    have y7 : (w5.setCell ⟨Q, 4, none⟩ (.int .i64 v7)).cell? ⟨Q, 7, none⟩ = some (.slice none 0 0) := (hS5.m 7 (by simp)).1
    have hbx := hS5.bx
    obtain ⟨WF, hWF⟩ : ∃ WF, WF = (w5.setCell ⟨Q, 4, none⟩ (.int .i64 v7)) := ⟨_, rfl⟩
    rw [← hWF] at hS5 hbx y0 y1 y2 y3 y4 y5 y6 y7
    have HWF := hid hWF
    clear hWF
    go_upto_region 18 with fail
    rw [← HWF.out]
    go_wp2_with (refine wpList_store_cf rfl 27 (.tmp 2) (.tmp 64) rfl w.heap.size zM [.int .i64 2, .int .i64 (1 + (r4 : Int)), .int .i64 0, .int .i64 (1 + (r2 : Int)), .int .i64 v7, .int .i64 0, .string ⟨#[]⟩, .slice none 0 0] rfl rfl hbx rfl Tryd.sizeMsg (one8 _ _ _ _ _ _ _ _ _ _) ?_; intro w10 hc10 hg10)
    have k0 : w10.cell? ⟨w.heap.size, 0, none⟩ = some (.int .i64 2) := (hc10 0 (by simp)).1
    have k1 : w10.cell? ⟨w.heap.size, 1, none⟩ = some (.int .i64 (1 + (r4 : Int))) := (hc10 1 (by simp)).1
    have k2 : w10.cell? ⟨w.heap.size, 2, none⟩ = some (.int .i64 0) := (hc10 2 (by simp)).1
    have k3 : w10.cell? ⟨w.heap.size, 3, none⟩ = some (.int .i64 (1 + (r2 : Int))) := (hc10 3 (by simp)).1
    have k4 : w10.cell? ⟨w.heap.size, 4, none⟩ = some (.int .i64 v7) := (hc10 4 (by simp)).1
    have k5 : w10.cell? ⟨w.heap.size, 5, none⟩ = some (.int .i64 0) := (hc10 5 (by simp)).1
    have k6 : w10.cell? ⟨w.heap.size, 6, none⟩ = some (.string ⟨#[]⟩) := (hc10 6 (by simp)).1
    have k7 : w10.cell? ⟨w.heap.size, 7, none⟩ = some (.slice none 0 0) := (hc10 7 (by simp)).1
    exact bodyPost_ret (v := .agg #[.int .i64 2, .int .i64 (1 + (r4 : Int)), .int .i64 0, .int .i64 (1 + (r2 : Int)), .int .i64 v7, .int .i64 0, .string ⟨#[]⟩, .slice none 0 0]) (by simp [results, Tryd.results49, go_sem, k0, k1, k2, k3, k4, k5, k6, k7]) rfl ⟨⟨_, rfl, _, _, _, _, _, _, _, [], _, _, rfl, by decide, by simp, by simp, fun _ => ⟨⟨by simp, fun j hj => absurd hj (by simp)⟩, by omega, by omega, by omega, by omega⟩, Own.nil _ _ _⟩, (hS5.rd.grown hg10 (fun q hq => by simp at hq; have := hS5.h1; omega)).mono (by omega), grownBy_box hS5.gr hg10⟩
  · have hD3 := HST.out 3
    obtain ⟨W3, hW3⟩ : ∃ W3, W3 = w2.alloc (.cells #[.int .i64 3, .int .i64 0, .int .i64 0, .int .i64 (1 + (r2 : Int)), .int .i64 0, .int .i64 0, .string ⟨#[]⟩, .slice none 0 0] 27) := ⟨_, rfl⟩
    rw [← hW3] at hD3
    have HW3 := hid hW3
    clear hW3 HST hq
    go_upto_region 2 with fail
    rw [← HW3.out]
    obtain ⟨Q, hQ⟩ : ∃ Q, Q = w2.heap.size := ⟨_, rfl⟩
    rw [← hQ] at hD3 ⊢
    clear hQ HW3
    have ck : W3.cell? ⟨Q, 0, none⟩ = some (.int .i64 3) := (hD3.m 0 (by simp)).1
    go_wp2_with fail
    refine (l2Uses_3 _).mono ?_
    rintro e' w' ⟨rfl, rfl⟩
    clear ck
    go_wp2_with fail
    refine (pick_any g 3 (k + 1 + 1) _ hD3.rd (by omega) (by omega) (by omega)).mono ?_
    rintro e4 w4 ⟨⟨r4, hq4, rfl⟩, hr4, hg4⟩
    have hC4 := hD3.call hg4 hr4
    clear hr4 hg4 hD3
    have c4 : w4.cell? ⟨Q, 1, none⟩ = some (.int .i64 0) := (hC4.m 1 (by simp)).1
    have f4 : w4.frozen? ⟨Q, 1, none⟩ = false := (hC4.m 1 (by simp)).2
    have hS4 := hC4.store (j := 1) (by simp) (.int .i64 (1 + (r4 : Int)))
    simp only [List.set_cons_zero, List.set_cons_succ] at hS4
    have hA := hS4.alloc (.cells #[.int .i64 1, .int .i64 2, .int .i64 3, .int .i64 256, .int .i64 1000000, .int .i64 1000001, .int .i64 300000000] 3)
    obtain ⟨WL, hWL⟩ : ∃ WL, WL = (w4.setCell ⟨Q, 1, none⟩ (.int .i64 (1 + (r4 : Int)))) := ⟨_, rfl⟩
    rw [← hWL] at hA
    have hWLs : WL.heap.size = w4.heap.size := by rw [hWL]; simp [World.setCell]
    have hT7 := CF.made WL #[.int .i64 1, .int .i64 2, .int .i64 3, .int .i64 256, .int .i64 1000000, .int .i64 1000001, .int .i64 300000000] 3
    obtain ⟨WA, hWA⟩ : ∃ WA, WA = WL.alloc (.cells #[.int .i64 1, .int .i64 2, .int .i64 3, .int .i64 256, .int .i64 1000000, .int .i64 1000001, .int .i64 300000000] 3) := ⟨_, rfl⟩
    have hsA : WL.heap.size < WA.heap.size := by rw [hWA]; simp
    rw [← hWA] at hA hT7
    have hgL : g < WL.heap.size := by have := hA.h1; have := hA.hq; have := hS4.h3; rw [← hWL] at this; omega
    have HWL := hid hWL
    have HWA := hid hWA
    clear hWL hWA hS4
    go_wp2_with fail
    rw [← HWL.out]
    rw [← HWA.out]
    refine (pick_any g 7 (k + 1 + 1 + 1) _ hA.rd (by omega) (by omega) (by omega)).mono ?_
    rintro e5 w5 ⟨⟨r5, hq5, rfl⟩, hr5, hg5⟩
    have hC5 := hA.call hg5 hr5
    obtain ⟨v7, hv7, hv70, hv71⟩ := lease_of r5 hq5
    have c7 : w5.cell? ⟨WL.heap.size, r5, none⟩ = some (.int .i64 v7) := ((hT7.block (hg5.block _ hsA (by simp; omega))) r5 (by simpa using hq5)).1.trans hv7
    rw [hWLs] at c7
    have hq5' : (r5 : Int) < 7 := by omega
    clear hT7 hA hr5 hg5 hv7 c4 f4 HWL HWA hWLs hsA hgL
    have c5 : w5.cell? ⟨Q, 4, none⟩ = some (.int .i64 0) := (hC5.m 4 (by simp)).1
    have f5 : w5.frozen? ⟨Q, 4, none⟩ = false := (hC5.m 4 (by simp)).2
    have hS5 := hC5.store (j := 4) (by simp) (.int .i64 v7)
    simp only [List.set_cons_zero, List.set_cons_succ] at hS5
    go_wp2_with fail
    refine (pick_any g 6 (k + 1 + 1 + 1 + 1) _ hS5.rd (by omega) (by omega) (by omega)).mono ?_
    rintro e6 w6 ⟨⟨r6, hq6, rfl⟩, hr6, hg6⟩
    have hC6 := hS5.call hg6 hr6
    clear hr6 hg6 hS5
    have c6 : w6.cell? ⟨Q, 5, none⟩ = some (.int .i64 0) := (hC6.m 5 (by simp)).1
    have f6 : w6.frozen? ⟨Q, 5, none⟩ = false := (hC6.m 5 (by simp)).2
    have hS6 := hC6.store (j := 5) (by simp) (.int .i64 (r6 : Int))
    simp only [List.set_cons_zero, List.set_cons_succ] at hS6
    go_wp2_with fail
    refine (l1Bytes_any g (k + 1 + 1 + 1 + 1 + 1) _ hS6.rd (by omega)).mono ?_
    rintro e7 w7 ⟨⟨tz6, rfl, hy6⟩, hr7, hg7⟩
    have hC7 := hS6.call hg7 hr7
    clear hr7 hg7 hS6
    have c7 : w7.cell? ⟨Q, 6, none⟩ = some (.string ⟨#[]⟩) := (hC7.m 6 (by simp)).1
    have f7 : w7.frozen? ⟨Q, 6, none⟩ = false := (hC7.m 6 (by simp)).2
    have hS7 := hC7.store (j := 6) (by simp) (.string tz6)
    simp only [List.set_cons_zero, List.set_cons_succ] at hS7
    have y0 : (w7.setCell ⟨Q, 6, none⟩ (.string tz6)).cell? ⟨Q, 0, none⟩ = some (.int .i64 3) := (hS7.m 0 (by simp)).1
    have y1 : (w7.setCell ⟨Q, 6, none⟩ (.string tz6)).cell? ⟨Q, 1, none⟩ = some (.int .i64 (1 + (r4 : Int))) := (hS7.m 1 (by simp)).1
    have y2 : (w7.setCell ⟨Q, 6, none⟩ (.string tz6)).cell? ⟨Q, 2, none⟩ = some (.int .i64 0) := (hS7.m 2 (by simp)).1
    have y3 : (w7.setCell ⟨Q, 6, none⟩ (.string tz6)).cell? ⟨Q, 3, none⟩ = some (.int .i64 (1 + (r2 : Int))) := (hS7.m 3 (by simp)).1
    have y4 : (w7.setCell ⟨Q, 6, none⟩ (.string tz6)).cell? ⟨Q, 4, none⟩ = some (.int .i64 v7) := (hS7.m 4 (by simp)).1
    have y5 : (w7.setCell ⟨Q, 6, none⟩ (.string tz6)).cell? ⟨Q, 5, none⟩ = some (.int .i64 (r6 : Int)) := (hS7.m 5 (by simp)).1
    have y6 : (w7.setCell ⟨Q, 6, none⟩ (.string tz6)).cell? ⟨Q, 6, none⟩ = some (.string tz6) := (hS7.m 6 (by simp)).1
    have y7 : (w7.setCell ⟨Q, 6, none⟩ (.string tz6)).cell? ⟨Q, 7, none⟩ = some (.slice none 0 0) := (hS7.m 7 (by simp)).1
    have hbx := hS7.bx
    obtain ⟨WF, hWF⟩ : ∃ WF, WF = (w7.setCell ⟨Q, 6, none⟩ (.string tz6)) := ⟨_, rfl⟩
    rw [← hWF] at hS7 hbx y0 y1 y2 y3 y4 y5 y6 y7
    have HWF := hid hWF
    clear hWF
    go_upto_region 18 with fail
    rw [← HWF.out]
    go_wp2_with (refine wpList_store_cf rfl 27 (.tmp 2) (.tmp 64) rfl w.heap.size zM [.int .i64 3, .int .i64 (1 + (r4 : Int)), .int .i64 0, .int .i64 (1 + (r2 : Int)), .int .i64 v7, .int .i64 (r6 : Int), .string tz6, .slice none 0 0] rfl rfl hbx rfl Tryd.sizeMsg (one8 _ _ _ _ _ _ _ _ _ _) ?_; intro w10 hc10 hg10)
    have k0 : w10.cell? ⟨w.heap.size, 0, none⟩ = some (.int .i64 3) := (hc10 0 (by simp)).1
    have k1 : w10.cell? ⟨w.heap.size, 1, none⟩ = some (.int .i64 (1 + (r4 : Int))) := (hc10 1 (by simp)).1
    have k2 : w10.cell? ⟨w.heap.size, 2, none⟩ = some (.int .i64 0) := (hc10 2 (by simp)).1
    have k3 : w10.cell? ⟨w.heap.size, 3, none⟩ = some (.int .i64 (1 + (r2 : Int))) := (hc10 3 (by simp)).1
    have k4 : w10.cell? ⟨w.heap.size, 4, none⟩ = some (.int .i64 v7) := (hc10 4 (by simp)).1
    have k5 : w10.cell? ⟨w.heap.size, 5, none⟩ = some (.int .i64 (r6 : Int)) := (hc10 5 (by simp)).1
    have k6 : w10.cell? ⟨w.heap.size, 6, none⟩ = some (.string tz6) := (hc10 6 (by simp)).1
    have k7 : w10.cell? ⟨w.heap.size, 7, none⟩ = some (.slice none 0 0) := (hc10 7 (by simp)).1
    exact bodyPost_ret (v := .agg #[.int .i64 3, .int .i64 (1 + (r4 : Int)), .int .i64 0, .int .i64 (1 + (r2 : Int)), .int .i64 v7, .int .i64 (r6 : Int), .string tz6, .slice none 0 0]) (by simp [results, Tryd.results49, go_sem, k0, k1, k2, k3, k4, k5, k6, k7]) rfl ⟨⟨_, rfl, _, _, _, _, _, _, _, [], _, _, rfl, by omega, by simp, by simp, fun _ => ⟨⟨by simp, fun j hj => absurd hj (by simp)⟩, by omega, by omega, by omega, by omega⟩, Own.nil _ _ _⟩, (hS7.rd.grown hg10 (fun q hq => by simp at hq; have := hS7.h1; omega)).mono (by omega), grownBy_box hS7.gr hg10⟩
  · have hD3 := HST.out 4
    obtain ⟨W3, hW3⟩ : ∃ W3, W3 = w2.alloc (.cells #[.int .i64 4, .int .i64 0, .int .i64 0, .int .i64 (1 + (r2 : Int)), .int .i64 0, .int .i64 0, .string ⟨#[]⟩, .slice none 0 0] 27) := ⟨_, rfl⟩
    rw [← hW3] at hD3
    have HW3 := hid hW3
    clear hW3 HST hq
    go_upto_region 2 with fail
    rw [← HW3.out]
    obtain ⟨Q, hQ⟩ : ∃ Q, Q = w2.heap.size := ⟨_, rfl⟩
    rw [← hQ] at hD3 ⊢
    clear hQ HW3
    have ck : W3.cell? ⟨Q, 0, none⟩ = some (.int .i64 4) := (hD3.m 0 (by simp)).1
    go_wp2_with fail
    refine (l2Uses_4 _).mono ?_
    rintro e' w' ⟨rfl, rfl⟩
    clear ck
    go_wp2_with fail
    refine (pick_any g 3 (k + 1 + 1) _ hD3.rd (by omega) (by omega) (by omega)).mono ?_
    rintro e4 w4 ⟨⟨r4, hq4, rfl⟩, hr4, hg4⟩
    have hC4 := hD3.call hg4 hr4
    clear hr4 hg4 hD3
    have c4 : w4.cell? ⟨Q, 2, none⟩ = some (.int .i64 0) := (hC4.m 2 (by simp)).1
    have f4 : w4.frozen? ⟨Q, 2, none⟩ = false := (hC4.m 2 (by simp)).2
    have hS4 := hC4.store (j := 2) (by simp) (.int .i64 (1 + (r4 : Int)))
    simp only [List.set_cons_zero, List.set_cons_succ] at hS4
    have hA := hS4.alloc (.cells #[.int .i64 1, .int .i64 2, .int .i64 3, .int .i64 256, .int .i64 1000000, .int .i64 1000001, .int .i64 300000000] 3)
    obtain ⟨WL, hWL⟩ : ∃ WL, WL = (w4.setCell ⟨Q, 2, none⟩ (.int .i64 (1 + (r4 : Int)))) := ⟨_, rfl⟩
    rw [← hWL] at hA
    have hWLs : WL.heap.size = w4.heap.size := by rw [hWL]; simp [World.setCell]
    have hT7 := CF.made WL #[.int .i64 1, .int .i64 2, .int .i64 3, .int .i64 256, .int .i64 1000000, .int .i64 1000001, .int .i64 300000000] 3
    obtain ⟨WA, hWA⟩ : ∃ WA, WA = WL.alloc (.cells #[.int .i64 1, .int .i64 2, .int .i64 3, .int .i64 256, .int .i64 1000000, .int .i64 1000001, .int .i64 300000000] 3) := ⟨_, rfl⟩
    have hsA : WL.heap.size < WA.heap.size := by rw [hWA]; simp
    rw [← hWA] at hA hT7
    have hgL : g < WL.heap.size := by have := hA.h1; have := hA.hq; have := hS4.h3; rw [← hWL] at this; omega
    have HWL := hid hWL
    have HWA := hid hWA
    clear hWL hWA hS4
    go_wp2_with fail
    rw [← HWL.out]
    rw [← HWA.out]
    refine (pick_any g 7 (k + 1 + 1 + 1) _ hA.rd (by omega) (by omega) (by omega)).mono ?_
    rintro e5 w5 ⟨⟨r5, hq5, rfl⟩, hr5, hg5⟩
    have hC5 := hA.call hg5 hr5
    obtain ⟨v7, hv7, hv70, hv71⟩ := lease_of r5 hq5
    have c7 : w5.cell? ⟨WL.heap.size, r5, none⟩ = some (.int .i64 v7) := ((hT7.block (hg5.block _ hsA (by simp; omega))) r5 (by simpa using hq5)).1.trans hv7
    rw [hWLs] at c7
    have hq5' : (r5 : Int) < 7 := by omega
    clear hT7 hA hr5 hg5 hv7 c4 f4 HWL HWA hWLs hsA hgL
    have c5 : w5.cell? ⟨Q, 4, none⟩ = some (.int .i64 0) := (hC5.m 4 (by simp)).1
    have f5 : w5.frozen? ⟨Q, 4, none⟩ = false := (hC5.m 4 (by simp)).2
    have hS5 := hC5.store (j := 4) (by simp) (.int .i64 v7)
    simp only [List.set_cons_zero, List.set_cons_succ] at hS5
    have y0 : (w5.setCell ⟨Q, 4, none⟩ (.int .i64 v7)).cell? ⟨Q, 0, none⟩ = some (.int .i64 4) := (hS5.m 0 (by simp)).1
    have y1 : (w5.setCell ⟨Q, 4, none⟩ (.int .i64 v7)).cell? ⟨Q, 1, none⟩ = some (.int .i64 0) := (hS5.m 1 (by simp)).1
    have y2 : (w5.setCell ⟨Q, 4, none⟩ (.int .i64 v7)).cell? ⟨Q, 2, none⟩ = some (.int .i64 (1 + (r4 : Int))) := (hS5.m 2 (by simp)).1
    have y3 : (w5.setCell ⟨Q, 4, none⟩ (.int .i64 v7)).cell? ⟨Q, 3, none⟩ = some (.int .i64 (1 + (r2 : Int))) := (hS5.m 3 (by simp)).1
    have y4 : (w5.setCell ⟨Q, 4, none⟩ (.int .i64 v7)).cell? ⟨Q, 4, none⟩ = some (.int .i64 v7) := (hS5.m 4 (by simp)).1
    have y5 : (w5.setCell ⟨Q, 4, none⟩ (.int .i64 v7)).cell? ⟨Q, 5, none⟩ = some (.int .i64 0) := (hS5.m 5 (by simp)).1
    have y6 : (w5.setCell ⟨Q, 4, none⟩ (.int .i64 v7)).cell? ⟨Q, 6, none⟩ = some (.string ⟨#[]⟩) := (hS5.m 6 (by simp)).1
    have y7 : (w5.setCell ⟨Q, 4, none⟩ (.int .i64 v7)).cell? ⟨Q, 7, none⟩ = some (.slice none 0 0) := (hS5.m 7 (by simp)).1
    have hbx := hS5.bx
    obtain ⟨WF, hWF⟩ : ∃ WF, WF = (w5.setCell ⟨Q, 4, none⟩ (.int .i64 v7)) := ⟨_, rfl⟩
    rw [← hWF] at hS5 hbx y0 y1 y2 y3 y4 y5 y6 y7
    have HWF := hid hWF
    clear hWF
    go_upto_region 18 with fail
    rw [← HWF.out]
    go_wp2_with (refine wpList_store_cf rfl 27 (.tmp 2) (.tmp 64) rfl w.heap.size zM [.int .i64 4, .int .i64 0, .int .i64 (1 + (r4 : Int)), .int .i64 (1 + (r2 : Int)), .int .i64 v7, .int .i64 0, .string ⟨#[]⟩, .slice none 0 0] rfl rfl hbx rfl Tryd.sizeMsg (one8 _ _ _ _ _ _ _ _ _ _) ?_; intro w10 hc10 hg10)
    have k0 : w10.cell? ⟨w.heap.size, 0, none⟩ = some (.int .i64 4) := (hc10 0 (by simp)).1
    have k1 : w10.cell? ⟨w.heap.size, 1, none⟩ = some (.int .i64 0) := (hc10 1 (by simp)).1
    have k2 : w10.cell? ⟨w.heap.size, 2, none⟩ = some (.int .i64 (1 + (r4 : Int))) := (hc10 2 (by simp)).1
    have k3 : w10.cell? ⟨w.heap.size, 3, none⟩ = some (.int .i64 (1 + (r2 : Int))) := (hc10 3 (by simp)).1
    have k4 : w10.cell? ⟨w.heap.size, 4, none⟩ = some (.int .i64 v7) := (hc10 4 (by simp)).1
    have k5 : w10.cell? ⟨w.heap.size, 5, none⟩ = some (.int .i64 0) := (hc10 5 (by simp)).1
    have k6 : w10.cell? ⟨w.heap.size, 6, none⟩ = some (.string ⟨#[]⟩) := (hc10 6 (by simp)).1
    have k7 : w10.cell? ⟨w.heap.size, 7, none⟩ = some (.slice none 0 0) := (hc10 7 (by simp)).1
    exact bodyPost_ret (v := .agg #[.int .i64 4, .int .i64 0, .int .i64 (1 + (r4 : Int)), .int .i64 (1 + (r2 : Int)), .int .i64 v7, .int .i64 0, .string ⟨#[]⟩, .slice none 0 0]) (by simp [results, Tryd.results49, go_sem, k0, k1, k2, k3, k4, k5, k6, k7]) rfl ⟨⟨_, rfl, _, _, _, _, _, _, _, [], _, _, rfl, by decide, by simp, by simp, fun _ => ⟨⟨by simp, fun j hj => absurd hj (by simp)⟩, by omega, by omega, by omega, by omega⟩, Own.nil _ _ _⟩, (hS5.rd.grown hg10 (fun q hq => by simp at hq; have := hS5.h1; omega)).mono (by omega), grownBy_box hS5.gr hg10⟩
  · have hD3 := HST.out 5
    obtain ⟨W3, hW3⟩ : ∃ W3, W3 = w2.alloc (.cells #[.int .i64 5, .int .i64 0, .int .i64 0, .int .i64 (1 + (r2 : Int)), .int .i64 0, .int .i64 0, .string ⟨#[]⟩, .slice none 0 0] 27) := ⟨_, rfl⟩
    rw [← hW3] at hD3
    have HW3 := hid hW3
    clear hW3 HST hq
    go_upto_region 2 with fail
    rw [← HW3.out]
    obtain ⟨Q, hQ⟩ : ∃ Q, Q = w2.heap.size := ⟨_, rfl⟩
    rw [← hQ] at hD3 ⊢
    clear hQ HW3
    have ck : W3.cell? ⟨Q, 0, none⟩ = some (.int .i64 5) := (hD3.m 0 (by simp)).1
    go_wp2_with fail
    refine (l2Uses_5 _).mono ?_
    rintro e' w' ⟨rfl, rfl⟩
    clear ck
    go_wp2_with fail
    refine (pick_any g 3 (k + 1 + 1) _ hD3.rd (by omega) (by omega) (by omega)).mono ?_
    rintro e4 w4 ⟨⟨r4, hq4, rfl⟩, hr4, hg4⟩
    have hC4 := hD3.call hg4 hr4
    clear hr4 hg4 hD3
    have c4 : w4.cell? ⟨Q, 1, none⟩ = some (.int .i64 0) := (hC4.m 1 (by simp)).1
    have f4 : w4.frozen? ⟨Q, 1, none⟩ = false := (hC4.m 1 (by simp)).2
    have hS4 := hC4.store (j := 1) (by simp) (.int .i64 (1 + (r4 : Int)))
    simp only [List.set_cons_zero, List.set_cons_succ] at hS4
    have y0 : (w4.setCell ⟨Q, 1, none⟩ (.int .i64 (1 + (r4 : Int)))).cell? ⟨Q, 0, none⟩ = some (.int .i64 5) := (hS4.m 0 (by simp)).1
    have y1 : (w4.setCell ⟨Q, 1, none⟩ (.int .i64 (1 + (r4 : Int)))).cell? ⟨Q, 1, none⟩ = some (.int .i64 (1 + (r4 : Int))) := (hS4.m 1 (by simp)).1
    have y2 : (w4.setCell ⟨Q, 1, none⟩ (.int .i64 (1 + (r4 : Int)))).cell? ⟨Q, 2, none⟩ = some (.int .i64 0) := (hS4.m 2 (by simp)).1
    have y3 : (w4.setCell ⟨Q, 1, none⟩ (.int .i64 (1 + (r4 : Int)))).cell? ⟨Q, 3, none⟩ = some (.int .i64 (1 + (r2 : Int))) := (hS4.m 3 (by simp)).1
    have y4 : (w4.setCell ⟨Q, 1, none⟩ (.int .i64 (1 + (r4 : Int)))).cell? ⟨Q, 4, none⟩ = some (.int .i64 0) := (hS4.m 4 (by simp)).1
    have y5 : (w4.setCell ⟨Q, 1, none⟩ (.int .i64 (1 + (r4 : Int)))).cell? ⟨Q, 5, none⟩ = some (.int .i64 0) := (hS4.m 5 (by simp)).1
    have y6 : (w4.setCell ⟨Q, 1, none⟩ (.int .i64 (1 + (r4 : Int)))).cell? ⟨Q, 6, none⟩ = some (.string ⟨#[]⟩) := (hS4.m 6 (by simp)).1
    have y7 : (w4.setCell ⟨Q, 1, none⟩ (.int .i64 (1 + (r4 : Int)))).cell? ⟨Q, 7, none⟩ = some (.slice none 0 0) := (hS4.m 7 (by simp)).1
    have hbx := hS4.bx
    obtain ⟨WF, hWF⟩ : ∃ WF, WF = (w4.setCell ⟨Q, 1, none⟩ (.int .i64 (1 + (r4 : Int)))) := ⟨_, rfl⟩
    rw [← hWF] at hS4 hbx y0 y1 y2 y3 y4 y5 y6 y7
    have HWF := hid hWF
    clear hWF
    go_upto_region 18 with fail
    rw [← HWF.out]
    go_wp2_with (refine wpList_store_cf rfl 27 (.tmp 2) (.tmp 64) rfl w.heap.size zM [.int .i64 5, .int .i64 (1 + (r4 : Int)), .int .i64 0, .int .i64 (1 + (r2 : Int)), .int .i64 0, .int .i64 0, .string ⟨#[]⟩, .slice none 0 0] rfl rfl hbx rfl Tryd.sizeMsg (one8 _ _ _ _ _ _ _ _ _ _) ?_; intro w10 hc10 hg10)
    have k0 : w10.cell? ⟨w.heap.size, 0, none⟩ = some (.int .i64 5) := (hc10 0 (by simp)).1
    have k1 : w10.cell? ⟨w.heap.size, 1, none⟩ = some (.int .i64 (1 + (r4 : Int))) := (hc10 1 (by simp)).1
    have k2 : w10.cell? ⟨w.heap.size, 2, none⟩ = some (.int .i64 0) := (hc10 2 (by simp)).1
    have k3 : w10.cell? ⟨w.heap.size, 3, none⟩ = some (.int .i64 (1 + (r2 : Int))) := (hc10 3 (by simp)).1
    have k4 : w10.cell? ⟨w.heap.size, 4, none⟩ = some (.int .i64 0) := (hc10 4 (by simp)).1
    have k5 : w10.cell? ⟨w.heap.size, 5, none⟩ = some (.int .i64 0) := (hc10 5 (by simp)).1
    have k6 : w10.cell? ⟨w.heap.size, 6, none⟩ = some (.string ⟨#[]⟩) := (hc10 6 (by simp)).1
    have k7 : w10.cell? ⟨w.heap.size, 7, none⟩ = some (.slice none 0 0) := (hc10 7 (by simp)).1
    exact bodyPost_ret (v := .agg #[.int .i64 5, .int .i64 (1 + (r4 : Int)), .int .i64 0, .int .i64 (1 + (r2 : Int)), .int .i64 0, .int .i64 0, .string ⟨#[]⟩, .slice none 0 0]) (by simp [results, Tryd.results49, go_sem, k0, k1, k2, k3, k4, k5, k6, k7]) rfl ⟨⟨_, rfl, _, _, _, _, _, _, _, [], _, _, rfl, by decide, by simp, by simp, fun _ => ⟨⟨by simp, fun j hj => absurd hj (by simp)⟩, by omega, by omega, by omega, by omega⟩, Own.nil _ _ _⟩, (hS4.rd.grown hg10 (fun q hq => by simp at hq; have := hS4.h1; omega)).mono (by omega), grownBy_box hS4.gr hg10⟩
end Go.Proofs.YtlgmkmegkojgbaaDoor
