
/-
  The law FnExactReadEntry's walk.
-/
import Derived.Test.YtoikcjeagigmfaaERs
import Derived.Test.YtoikcjeagigmfaaLawEn
namespace Go.Proofs.Ytoikcjeagigmfaa
open Go.RowKit

/-- The same answer. -/
theorem RetE.both {s : ByteArray} {a b : Ending} (ha : RetE a s) (hb : RetE b s) : ∃ (k e d : Int) (x : ByteArray) (r : Bool), a = .returned (.tuple #[.agg #[.int .i64 k, .int .i64 e, .int .i64 d, .string x], .bool r]) ∧ b = a := by
  rcases ha with ⟨rfl, hn⟩ | ⟨k, e, d, x, rfl, hg⟩ <;> rcases hb with ⟨rfl, hn'⟩ | ⟨k', e', d', x', rfl, hg'⟩
  · exact ⟨0, 0, 0, ⟨#[]⟩, false, rfl, rfl⟩
  · exact absurd ⟨_, _, _, _, hg'⟩ hn
  · exact absurd ⟨_, _, _, _, hg⟩ hn'
  · obtain ⟨rfl, rfl, rfl, rfl⟩ := hg.uniq hg'
    exact ⟨k, e, d, x, true, rfl, rfl⟩
def valE (s : ByteArray) (v : Value) : Prop := ∃ (k e d : Int) (x : ByteArray) (r : Bool), v = .tuple #[.agg #[.int .i64 k, .int .i64 e, .int .i64 d, .string x], .bool r] ∧ RetE (.returned v) s
theorem RetE.val {s : ByteArray} {a : Ending} (ha : RetE a s) : ∃ (k e d : Int) (x : ByteArray) (r : Bool), a = .returned (.tuple #[.agg #[.int .i64 k, .int .i64 e, .int .i64 d, .string x], .bool r]) ∧ RetE (.returned (.tuple #[.agg #[.int .i64 k, .int .i64 e, .int .i64 d, .string x], .bool r])) s := by
  obtain ⟨k, e, d, x, r, h, _⟩ := ha.both ha
  exact ⟨k, e, d, x, r, h, h ▸ ha⟩

set_option maxHeartbeats 1000000 in
set_option maxRecDepth 100000 in
theorem fnExactReadEntry_walk (s : ByteArray) (w : World) (hm : s.size ≤ maxLen) :
    Calls Try.prog 4 #[.string s] w fun e' w' => e' = .returned (.bool true) ∧ Below w.heap.size w w' := by
  have hm63 := hm
  unfold maxLen at hm63
  by_cases h1 : 1048576 < s.size
  · go_enter Try.func4, Try.ntmps4
    go_wp2
    go_ret
    exact ⟨rfl, Below.refl _ _⟩
  · go_enter Try.func4, Try.ntmps4
    go_wp2_with fail
    refine (specReadE_any s _ hm).mono ?_
    rintro e' w1 ⟨hr1, hb1⟩
    obtain ⟨k, e, d, x, r, rfl, hr1⟩ := hr1.val
    have HR := hid hr1
    clear hr1
    obtain ⟨V, hV⟩ : ∃ V, V = w1.alloc (.cells #[.int .i64 k, .int .i64 e, .int .i64 d, .string x] 26) := ⟨_, rfl⟩
    have hbV : Below w1.heap.size w1 V := by rw [hV]; exact (Below.refl _ _).alloc (Nat.le_refl _) _
    have hMC : MC V w1.heap.size [.int .i64 k, .int .i64 e, .int .i64 d, .string x] := by rw [hV]; exact MC.made w1 _ _
    have hlt : w1.heap.size < V.heap.size := World.block_lt_of_cell? V ⟨w1.heap.size, 0, none⟩ (hMC 0 (by simp))
    have HM := hid hMC
    clear hMC
    go_upto_region 4 with fail
    rw [← hV]
    clear hV
    go_wp2_with fail
    refine (implReadE_any s _).mono ?_
    rintro e' w2 ⟨hr2, hb2⟩
    obtain ⟨k', e2, d', x', r', he, heq⟩ := HR.out.both hr2
    rw [heq]
    clear HR hr2 heq he
    have hM2 := MC.below HM.out hb2 hlt
    have c0 : w2.cell? ⟨w1.heap.size, 0, none⟩ = some (.int .i64 k) := hM2 0 (by simp)
    have c1 : w2.cell? ⟨w1.heap.size, 1, none⟩ = some (.int .i64 e) := hM2 1 (by simp)
    have c2 : w2.cell? ⟨w1.heap.size, 2, none⟩ = some (.int .i64 d) := hM2 2 (by simp)
    have c3 : w2.cell? ⟨w1.heap.size, 3, none⟩ = some (.string x) := hM2 3 (by simp)
    have hl2 : w1.heap.size < w2.heap.size := Nat.lt_of_lt_of_le hlt hb2.size
    have hB2 : Below w.heap.size w w2 := hb1.trans ((hbV.trans (hb2.mono hbV.size)).mono hb1.size)
    clear hM2
    go_wp2_with fail
    refine (eqEntry_any k e d x _).mono ?_
    rintro e' w3 ⟨rfl, hb3⟩
    have hB3 : Below w.heap.size w w3 := (hB2.alloc hB2.size _).trans (hb3.mono (by rw [World.size_alloc]; have := hB2.size; omega))
    clear c0 c1 c2 c3
    go_wp2
    go_ret
    exact ⟨rfl, hB3⟩
end Go.Proofs.Ytoikcjeagigmfaa
