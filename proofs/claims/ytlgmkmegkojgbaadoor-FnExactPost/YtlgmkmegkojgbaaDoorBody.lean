
/-
  A message's body: impl.formBody.
-/
import Derived.Test.YtlgmkmegkojgbaaDoorTob
import Derived.Test.YtlgmkmegkojgbaaDoorMsgAll
import Derived.Test.YtlgmkmegkojgbaaDoorCel
namespace Go.Proofs.YtlgmkmegkojgbaaDoor
open Go.RowKit

/-- The bytes of a body. -/
def headN (k f t e l d : Int) (n : Nat) : List Int := [k % 256, f % 256, t % 256, e / 256 % 256, e % 256, l / 16777216 % 256, l / 65536 % 256, l / 256 % 256, l % 256, d % 256, (n : Int) % 256]
def catL (ss : List ByteArray) : List UInt8 := (ss.map fun s => s.data.toList).flatten
theorem catL_snoc (ss : List ByteArray) (s : ByteArray) : catL (ss ++ [s]) = catL ss ++ s.data.toList := by simp [catL]
theorem catL_length (ss : List ByteArray) : (catL ss).length = tot ss := by
  induction ss with
  | nil => rfl
  | cons s r ih => simp only [catL, tot, List.map_cons, List.flatten_cons, List.length_append, List.sum_cons] at ih ⊢; rw [ih]; rw [Array.length_toList]; rfl
def bodyL (k f t e l d : Int) (x : ByteArray) (ss : List ByteArray) : List UInt8 := toB (headN k f t e l d ss.length) ++ x.data.toList ++ catL ss
theorem headN_range (k f t e l d : Int) (n : Nat) : ∀ z ∈ headN k f t e l d n, 0 ≤ z ∧ z < 256 := by
  intro z hz
  simp only [headN, List.mem_cons, List.not_mem_nil, or_false] at hz
  rcases hz with rfl | rfl | rfl | rfl | rfl | rfl | rfl | rfl | rfl | rfl | rfl <;> omega
theorem tot_le {ss : List ByteArray} (h : inOk ss) : tot ss ≤ 64 := by
  obtain ⟨h1, h2⟩ := h
  have key : ∀ k, k ≤ ss.length → tot (ss.take k) = 8 * k := by
    intro k
    induction k with
    | zero => intro _; rfl
    | succ k ih => intro hk; rw [takeS_snoc (by omega), tot_snoc, ih (by omega), h2 k (by omega)]; omega
  have := key ss.length (Nat.le_refl _)
  rw [List.take_length] at this
  omega
theorem bodyL_length (k f t e l d : Int) (x : ByteArray) (ss : List ByteArray) : (bodyL k f t e l d x ss).length = 11 + x.size + tot ss := by
  simp only [bodyL, toB, headN, List.length_append, List.length_map, catL_length, List.length_cons, List.length_nil, Array.length_toList]
  rfl

set_option maxHeartbeats 4000000 in
set_option maxRecDepth 100000 in
theorem formBody_any (k f t e l d : Int) (x : ByteArray) (a : Option Addr) (b o n c : Nat) (ss : List ByteArray) (w : World) (h : StrsAt w a b o n ss) (hx : x.size ≤ 8) (hi : inOk ss) :
    Calls Tryd.prog 41 #[.agg #[.int .i64 k, .int .i64 f, .int .i64 t, .int .i64 e, .int .i64 l, .int .i64 d, .string x, .slice a n c]] w fun e' w' => e' = .returned (.string ⟨(bodyL k f t e l d x ss).toArray⟩) ∧ Below w.heap.size w w' := by
  obtain ⟨W, hW⟩ : ∃ W, W = (w.alloc (.cells #[.int .i64 k, .int .i64 f, .int .i64 t, .int .i64 e, .int .i64 l, .int .i64 d, .string x, .slice a n c] 27)).alloc (.cells #[.pointer none, .slice none 0 0] 106) := ⟨_, rfl⟩
  have hsW : W.heap.size = w.heap.size + 2 := by rw [hW]; simp
  have hbW : Below w.heap.size w W := by rw [hW]; exact ((Below.refl _ _).alloc (Nat.le_refl _) _).alloc (by simp) _
  have hIB : Lib.IsBuilder 106 5 (w.heap.size + 1) (w.heap.size + 1) [] W := by
    have := Lib.fresh_isBuilder 106 5 (w.alloc (.cells #[.int .i64 k, .int .i64 f, .int .i64 t, .int .i64 e, .int .i64 l, .int .i64 d, .string x, .slice a n c] 27))
    rw [hW]; simpa using this
  have hMC : MC W w.heap.size [.int .i64 k, .int .i64 f, .int .i64 t, .int .i64 e, .int .i64 l, .int .i64 d, .string x, .slice a n c] := by
    rw [hW]
    exact (MC.made w _ _).below ((Below.refl (w.heap.size + 1) _).alloc (by simp) _) (by omega)
  have hmax := h.max
  have hn8 : n ≤ 8 := by have := hi.1; rw [h.len] at this; exact this
  have HT : Hid (tot ss ≤ 64) := tot_le hi
  have HLn : Hid (ss.length = n) := h.len
  go_enter Tryd.func41, Tryd.ntmps41
  go_wp2_with fail
  rw [← hW]
  refine (number_1 (w.heap.size + 1) (w.heap.size + 1) _ _ _ hIB (by simp) (by omega)).mono ?_
  rintro e0 w1 ⟨rfl, hB1, hb1⟩
  have HM1 : Hid _ := hMC.below hb1 (by omega)
  have q1 : w1.cell? ⟨w.heap.size, 1, none⟩ = some (.int .i64 f) := HM1.out 1 (by simp)
  go_wp2_with fail
  refine (number_1 (w.heap.size + 1) (w.heap.size + 1) _ _ _ (.inr hB1) (by simp) (by have := hb1.size; omega)).mono ?_
  rintro e0 w2 ⟨rfl, hB2, hb2⟩
  replace hb2 := hb1.trans hb2
  have HM2 : Hid _ := hMC.below hb2 (by omega)
  have q2 : w2.cell? ⟨w.heap.size, 2, none⟩ = some (.int .i64 t) := HM2.out 2 (by simp)
  clear q1 HM1 hB1 hb1
  go_wp2_with fail
  refine (number_1 (w.heap.size + 1) (w.heap.size + 1) _ _ _ (.inr hB2) (by simp) (by have := hb2.size; omega)).mono ?_
  rintro e0 w3 ⟨rfl, hB3, hb3⟩
  replace hb3 := hb2.trans hb3
  have HM3 : Hid _ := hMC.below hb3 (by omega)
  have q3 : w3.cell? ⟨w.heap.size, 3, none⟩ = some (.int .i64 e) := HM3.out 3 (by simp)
  clear q2 HM2 hB2 hb2
  go_wp2_with fail
  refine (number_2 (w.heap.size + 1) (w.heap.size + 1) _ _ _ (.inr hB3) (by simp) (by have := hb3.size; omega)).mono ?_
  rintro e0 w4 ⟨rfl, hB4, hb4⟩
  replace hb4 := hb3.trans hb4
  have HM4 : Hid _ := hMC.below hb4 (by omega)
  have q4 : w4.cell? ⟨w.heap.size, 4, none⟩ = some (.int .i64 l) := HM4.out 4 (by simp)
  clear q3 HM3 hB3 hb3
  go_wp2_with fail
  refine (number_4 (w.heap.size + 1) (w.heap.size + 1) _ _ _ (.inr hB4) (by simp) (by have := hb4.size; omega)).mono ?_
  rintro e0 w5 ⟨rfl, hB5, hb5⟩
  replace hb5 := hb4.trans hb5
  have HM5 : Hid _ := hMC.below hb5 (by omega)
  have q5 : w5.cell? ⟨w.heap.size, 5, none⟩ = some (.int .i64 d) := HM5.out 5 (by simp)
  clear q4 HM4 hB4 hb4
  go_wp2_with fail
  refine (number_1 (w.heap.size + 1) (w.heap.size + 1) _ _ _ (.inr hB5) (by simp) (by have := hb5.size; omega)).mono ?_
  rintro e0 w6 ⟨rfl, hB6, hb6⟩
  replace hb6 := hb5.trans hb6
  have HM6 : Hid _ := hMC.below hb6 (by omega)
  have q6 : w6.cell? ⟨w.heap.size, 7, none⟩ = some (.slice a n c) := HM6.out 7 (by simp)
  clear q5 HM5 hB5 hb5
  go_wp2_with fail
  refine (number_1 (w.heap.size + 1) (w.heap.size + 1) _ _ _ (.inr hB6) (by simp) (by have := hb6.size; omega)).mono ?_
  rintro e0 w7 ⟨rfl, hB7, hb7⟩
  replace hb7 := hb6.trans hb7
  have HM7 : Hid _ := hMC.below hb7 (by omega)
  have q7 : w7.cell? ⟨w.heap.size, 6, none⟩ = some (.string x) := HM7.out 6 (by simp)
  clear q6 HM6 hB6 hb6
  go_wp2_with fail
  refine (writeString_any (w.heap.size + 1) (w.heap.size + 1) _ _ _ (.inr hB7) (by simp; omega) (by have := hb7.size; omega)).mono ?_
  rintro e0 w8 ⟨rfl, hB8, hb8⟩
  replace hb8 := hb7.trans hb8
  have HM8 : Hid _ := hMC.below hb8 (by omega)
  have q8 : w8.cell? ⟨w.heap.size, 7, none⟩ = some (.slice a n c) := HM8.out 7 (by simp)
  have hB8' : Lib.BuilderAt 106 5 (w.heap.size + 1) (w.heap.size + 1) (.pointer (some ⟨w.heap.size + 1, 0, none⟩)) (Lib.byteCells (toB (headN k f t e l d n) ++ x.data.toList)) w8 := by
    rw [Lib.byteCells_append, byteCells_toB _ (headN_range _ _ _ _ _ _ _), ← Lib.strCells_eq]
    simpa [headN] using hB8
  clear q7 HM7 hB7 hb7 hB8
  go_wp2
  go_loopw [35] (fun i wr => ∃ j : Nat, j ≤ n ∧ i = .int .i64 j ∧ Lib.BuilderAt 106 5 (w.heap.size + 1) (w.heap.size + 1) (.pointer (some ⟨w.heap.size + 1, 0, none⟩)) (Lib.byteCells (toB (headN k f t e l d n) ++ x.data.toList ++ catL (ss.take j))) wr ∧ Below (w.heap.size + 1) W wr) (fun i _ => n - (intOf i).toNat)
  case atStart => exact ⟨0, Nat.zero_le _, rfl, by simpa [catL] using hB8', hb8⟩
  case round =>
    obtain ⟨j, hj, rfl, hBj, hbj⟩ := hrel
    by_cases hlt : j < n
    · obtain rfl := h.ad (by omega)
      have hbl := h.lt (by omega)
      have hc : wr.cell? ⟨b, o + j, none⟩ = some (.string (ss.getD j ByteArray.empty)) := (hbj.cell (p := ⟨b, o + j, none⟩) (by show b < w.heap.size + 1; omega)).trans ((hbW.cell (p := ⟨b, o + j, none⟩) hbl).trans (h.cell j hlt))
      have h8 : (ss.getD j ByteArray.empty).size = 8 := hi.2 j (by rw [HLn.out]; exact hlt)
      have hT := tot_take_le ss j
      have hL : (Lib.byteCells (toB (headN k f t e l d n) ++ x.data.toList ++ catL (ss.take j))).length + (ss.getD j ByteArray.empty).size ≤ 140737488355328 := by
        rw [Lib.byteCells_length, h8]
        simp only [List.length_append, catL_length, toB, headN, List.length_map, List.length_cons, List.length_nil, Array.length_toList]
        have : x.data.size = x.size := rfl
        have := HT.out
        omega
      have hS : Lib.byteCells (toB (headN k f t e l d n) ++ x.data.toList ++ catL (ss.take (j + 1))) = Lib.byteCells (toB (headN k f t e l d n) ++ x.data.toList ++ catL (ss.take j)) ++ Lib.strCells (ss.getD j ByteArray.empty) := by
        rw [takeS_snoc (by rw [HLn.out]; exact hlt), catL_snoc, ← List.append_assoc, Lib.byteCells_append, Lib.strCells_eq]
      obtain ⟨s, hs⟩ : ∃ s, s = ss.getD j ByteArray.empty := ⟨_, rfl⟩
      rw [← hs] at hc hL hS
      have HS : Hid _ := hS
      have hsz := hbj.size
      clear hS hs h8 hT
      have hlt' : (j : Int) < (n : Int) := by omega
      go_wp2_with fail
      refine (writeString_any (w.heap.size + 1) (w.heap.size + 1) _ _ _ (.inr hBj) hL (by omega)).mono ?_
      rintro e0 w9 ⟨rfl, hB9, hb9⟩
      replace hb9 := hbj.trans hb9
      go_wp2
      go_roundw
      case rel => exact ⟨j + 1, by omega, by go_num, by rw [HS.out]; exact hB9, hb9⟩
      case measure => simp [intOf]; omega
    · obtain rfl : j = n := by omega
      rw [List.take_of_length_le (by rw [HLn.out]; omega), ← HLn.out] at hBj
      go_wp2_with fail
      refine (string_any (w.heap.size + 1) (w.heap.size + 1) (bodyL k f t e l d x ss) _ (.inr hBj) (by intro hh; have := bodyL_length k f t e l d x ss; rw [hh] at this; simp at this; omega)).mono ?_
      rintro e0 w9 ⟨rfl, hb9⟩
      go_wp2
      go_ret
      exact ⟨rfl, hbW.trans ((hbj.trans hb9).mono (by omega))⟩
end Go.Proofs.YtlgmkmegkojgbaaDoor
