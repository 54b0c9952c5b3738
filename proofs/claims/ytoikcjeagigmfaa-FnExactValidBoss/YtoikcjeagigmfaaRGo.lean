
/-
  impl's Story.goOn.
-/
import Derived.Test.YtoikcjeagigmfaaRep
import Derived.Deep.RegionHeld3
namespace Go.Proofs.Ytoikcjeagigmfaa
open Go.RowKit

/-- All but two blocks lie as they lay. -/
structure But (sb rb : Nat) (w w' : World) : Prop where
  os : w'.os = w.os
  tape : w'.tape = w.tape
  output : w'.output = w.output
  size : w.heap.size ≤ w'.heap.size
  block : ∀ k, k < w.heap.size → k ≠ sb → k ≠ rb → w'.heap[k]? = w.heap[k]?
theorem But.refl (sb rb : Nat) (w : World) : But sb rb w w := ⟨rfl, rfl, rfl, Nat.le_refl _, fun _ _ _ _ => rfl⟩
theorem But.trans {sb rb : Nat} {a b c : World} (h : But sb rb a b) (k : But sb rb b c) : But sb rb a c :=
  ⟨k.os.trans h.os, k.tape.trans h.tape, k.output.trans h.output, Nat.le_trans h.size k.size, fun i hi h1 h2 => (k.block i (Nat.lt_of_lt_of_le hi h.size) h1 h2).trans (h.block i hi h1 h2)⟩
theorem But.of {sb rb : Nat} {a b : World} (h : Below a.heap.size a b) : But sb rb a b := ⟨h.os, h.tape, h.output, h.size, fun i hi _ _ => h.block i hi⟩
theorem But.setS {sb rb : Nat} (w : World) (j : Nat) (u : Value) : But sb rb w (w.setCell ⟨sb, j, none⟩ u) :=
  ⟨rfl, rfl, rfl, by simp [World.setCell], fun k _ h1 _ => Below.heap_setCell _ _ _ _ h1⟩
theorem But.setR {sb rb : Nat} (w : World) (j : Nat) (u : Value) : But sb rb w (w.setCell ⟨rb, j, none⟩ u) :=
  ⟨rfl, rfl, rfl, by simp [World.setCell], fun k _ _ h1 => Below.heap_setCell _ _ _ _ h1⟩
theorem But.below {sb rb C : Nat} {w0 w w' : World} (h : Below C w0 w) (k : But sb rb w w') (h1 : C ≤ sb) (h2 : C ≤ rb) (hC : C ≤ w.heap.size) : Below C w0 w' :=
  h.trans ⟨k.os, k.tape, k.output, k.size, fun i hi => k.block i (by omega) (by omega) (by omega)⟩

/-- What goOn answers. -/
def RetG (B sb rb n : Nat) (ts : List TaskD) (st : St) (q : Int × Int × Int × ByteArray) (e' : Ending) (w' : World) : Prop :=
  ∃ r, e' = .returned (.bool r) ∧ (r = true → ∃ E' R', step1 ts st q = some (E', R') ∧ CF w' sb [.int .i64 0, .int .i64 E', .slice (some ⟨rb, 0, none⟩) n n] ∧ OwnC B w' 1 rb 0 n n (R'.map Value.string)) ∧ (r = false → step1 ts st q = none)

set_option maxHeartbeats 2000000 in
set_option maxRecDepth 100000 in
theorem goOn_1 (a : Option Addr) (n c : Nat) (ts : List TaskD) (B sb rb : Nat) (E : Int) (R : List ByteArray) (e d : Int) (x : ByteArray) (w : World)
    (hs : CF w sb [.int .i64 0, .int .i64 E, .slice (some ⟨rb, 0, none⟩) n n]) (hr : OwnC B w 1 rb 0 n n (R.map Value.string)) (hne : sb ≠ rb) (hE0 : 0 ≤ E) (hE1 : E ≤ 100000) :
    Calls Try.prog 82 #[.pointer (some ⟨sb, 0, none⟩), .agg #[.slice a n c], .agg #[.int .i64 1, .int .i64 e, .int .i64 d, .string x]] w fun e' w' =>
      RetG B sb rb n ts (E, R) (1, e, d, x) e' w' ∧ But sb rb w w' := by
  obtain ⟨W, hW⟩ : ∃ W, W = (w.alloc (.cells #[.slice a n c] 44)).alloc (.cells #[.int .i64 1, .int .i64 e, .int .i64 d, .string x] 26) := ⟨_, rfl⟩
  have hbW : Below w.heap.size w W := by rw [hW]; exact ((Below.refl _ _).alloc (Nat.le_refl _) _).alloc (by simp) _
  have hsl : sb < w.heap.size := World.block_lt_of_cell? _ _ (hs 0 (by simp)).1
  have hs1 : CF W sb [.int .i64 0, .int .i64 E, .slice (some ⟨rb, 0, none⟩) n n] := hs.block (hbW.block _ hsl)
  have hr1 := hr.below hbW hr.hi
  have hc1 : W.cell? ⟨sb, 1, none⟩ = some (.int .i64 E) := (hs1 1 (by simp)).1
  have hf1 := (hs1 1 (by simp)).2
  have hMC : MC W (w.heap.size + 1) [.int .i64 1, .int .i64 e, .int .i64 d, .string x] := by
    rw [hW]
    have := MC.made (w.alloc (.cells #[.slice a n c] 44)) #[.int .i64 1, .int .i64 e, .int .i64 d, .string x] 26
    rw [World.size_alloc] at this
    exact this
  have q0 : W.cell? ⟨w.heap.size + 1, 0, none⟩ = some (.int .i64 1) := hMC 0 (by simp)
  have q1 : W.cell? ⟨w.heap.size + 1, 1, none⟩ = some (.int .i64 e) := hMC 1 (by simp)
  have hsz : sb ≠ w.heap.size + 1 := by omega
  have HO := hid ((hs1.set (j := 1) (by simp) (.int .i64 (E + 1))))
  have HR := hid (hr1.setOther (p := ⟨sb, 1, none⟩) (fun h => hne h.symm) (.int .i64 (E + 1)))
  have hbut := (But.of (sb := sb) (rb := rb) hbW).trans (But.setS W 1 (.int .i64 (E + 1)))
  clear hMC hs1 hr1 hs hr
  go_enter Try.func82, Try.ntmps82
  go_upto_region 1 with fail
  rw [← hW]
  clear hW
  by_cases he : e = E + 1
  · have he' : (e == E + 1) = true := by simpa using he
    have GE := hid he
    clear he
    go_wp2
    go_quiet (fail)
    go_wp2
    go_ret
    refine ⟨⟨_, rfl, fun _ => ⟨E + 1, R, ?_, ?_, ?_⟩, fun hh => by cases hh⟩, ?_⟩
    · unfold step1; simp [GE.out]
    · exact (HO.out).block rfl
    · exact (HR.out).block rfl
    · exact hbut.trans ⟨rfl, rfl, rfl, Nat.le_refl _, fun _ _ _ _ => rfl⟩
  · have he' : (e == E + 1) = false := by simpa using he
    have GE := hid he
    clear he
    go_wp2
    go_quiet (fail)
    go_wp2
    go_ret
    refine ⟨⟨_, rfl, fun hh => (by cases hh), fun _ => ?_⟩, ?_⟩
    · unfold step1; simp [GE.out]
    · exact hbut.trans ⟨rfl, rfl, rfl, Nat.le_refl _, fun _ _ _ _ => rfl⟩
end Go.Proofs.Ytoikcjeagigmfaa
