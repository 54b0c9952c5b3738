import Derived.Test.YthopfmhagddhgaaGreatQLawVal
import Derived.Test.YthopfmhagddhgaaGreatQWki
import Derived.Test.YthopfmhagddhgaaGreatQWkv
namespace Go.Proofs.YthopfmhagddhgaaGreat
open Go.RowKit

set_option maxHeartbeats 1000000 in
theorem szWorker_any (nu ep : Int) (up : Bool) (st le ta co lf : Int) (x : ByteArray) (si : Int) (a : Option Addr) (b o n c : Nat) (ss : List ByteArray) (w : World) (h : StrsAt w a b o n ss) (hx : x.size ≤ maxLen) :
    Calls Tryz.prog 77 #[.agg #[.int .i64 nu, .int .i64 ep, .bool up, .int .i64 st, .int .i64 le, .int .i64 ta, .int .i64 co, .int .i64 lf, .slice a n c, .string x, .int .i64 si], .int .i64 1048576] w fun e w' => (∃ r, e = .returned (.int .i64 r) ∧ (r = -1 ∨ 0 ≤ r ∧ r ≤ 1048576 ∧ n + tot ss ≤ 1048576 ∧ x.size ≤ 1048576)) ∧ Below w.heap.size w w' := by
  unfold maxLen at hx
  obtain ⟨W, hW⟩ : ∃ W, W = w.alloc (.cells #[.int .i64 nu, .int .i64 ep, .bool up, .int .i64 st, .int .i64 le, .int .i64 ta, .int .i64 co, .int .i64 lf, .slice a n c, .string x, .int .i64 si] 114) := ⟨_, rfl⟩
  have hbW : Below w.heap.size w W := by rw [hW]; exact (Below.refl _ _).alloc (Nat.le_refl _) _
  have hc : W.cell? ⟨w.heap.size, 9, none⟩ = some (.string x) := by rw [hW]; simp
  go_enter Tryz.func77, Tryz.ntmps77
  go_wp2_with fail
  rw [← hW]
  refine (szStringS_any a b o n c ss _ _ (by omega) (by omega) (h.below' hbW)).mono ?_
  rintro e w' ⟨⟨r, rfl, hr⟩, rfl⟩
  clear hW
  rcases hr with rfl | ⟨hr, hr0⟩
  · go_wp2
    go_ret
    exact ⟨⟨_, rfl, .inl rfl⟩, hbW⟩
  · have hs : n + tot ss ≤ 1048576 := by omega
    have hr1 : r ≤ 1048576 := by omega
    clear hr
    by_cases h1 : r - x.size < 0
    · go_wp2
      go_ret
      exact ⟨⟨_, rfl, .inl rfl⟩, hbW⟩
    · go_wp2
      go_ret
      exact ⟨⟨_, rfl, .inr ⟨by omega, by omega, hs, by omega⟩⟩, hbW⟩

set_option maxHeartbeats 1000000 in
theorem toWorker_any (nu ep : Int) (up : Bool) (st le ta co lf : Int) (x : ByteArray) (si : Int) (a : Option Addr) (b o n c : Nat) (ss : List ByteArray) (w : World) (h : StrsAt w a b o n ss) (hn : n ≤ 1048576) :
    Calls Tryz.prog 83 #[.agg #[.int .i64 nu, .int .i64 ep, .bool up, .int .i64 st, .int .i64 le, .int .i64 ta, .int .i64 co, .int .i64 lf, .slice a n c, .string x, .int .i64 si]] w fun e' w' => (∃ g, e' = .returned (.agg #[.int .i64 nu, .int .i64 ep, .bool up, .int .i64 st, .int .i64 le, .int .i64 ta, .int .i64 co, .int .i64 lf, .slice (some ⟨g, 0, none⟩) n n, .string x, .int .i64 si]) ∧ OwnC w.heap.size w' 1 g 0 n n (ss.map Value.string)) ∧ Below w.heap.size w w' := by
  have hb0 : Below w.heap.size w (((w.alloc (.cells #[.int .i64 nu, .int .i64 ep, .bool up, .int .i64 st, .int .i64 le, .int .i64 ta, .int .i64 co, .int .i64 lf, .slice a n c, .string x, .int .i64 si] 114)).alloc (.cells #[.int .i64 0, .int .i64 0, .bool false, .int .i64 0, .int .i64 0, .int .i64 0, .int .i64 0, .int .i64 0, .slice none 0 0, .string ⟨#[]⟩, .int .i64 0] 72)).alloc (.cells #[.int .i64 nu, .int .i64 ep, .bool up, .int .i64 st, .int .i64 le, .int .i64 ta, .int .i64 co, .int .i64 lf, .slice none 0 0, .string ⟨#[]⟩, .int .i64 0] 72)) :=
    (((Below.refl _ _).alloc (Nat.le_refl _) _).alloc (by simp) _).alloc (by simp; omega) _
  go_enter Tryz.func83, Tryz.ntmps83
  go_wp2_with fail
  refine (toStringS_any a b o n c ss _ (h.below' hb0) hn).mono ?_
  rintro e' w1 ⟨g, rfl, ho1, hb1⟩
  obtain ⟨hc, hf⟩ := bcell hb1
  have hz : w.heap.size + 1 + 1 < w1.heap.size := by have := hb1.size; simp at this; omega
  have hg := ho1.lo
  simp at hg
  have hi1 : OwnC w.heap.size w1 1 g 0 n n (ss.map Value.string) := ho1.mono (by simp; omega)
  have hb := hb0.trans (hb1.mono (by simp; omega))
  clear hb1 ho1 hb0
  go_wp2
  refine bodyPost_ret (v := .agg #[.int .i64 nu, .int .i64 ep, .bool up, .int .i64 st, .int .i64 le, .int .i64 ta, .int .i64 co, .int .i64 lf, .slice (some ⟨g, 0, none⟩) n n, .string x, .int .i64 si]) (by simp [results, Tryz.results83, go_sem, hc]) rfl ⟨⟨g, rfl, ?_⟩, ?_⟩
  · repeat (first | with_reducible exact hi1 | refine OwnC.setOther ?_ (by dsimp only; omega) _)
  · repeat (first | with_reducible exact hb | refine Below.setCell ?_ (by dsimp only; omega) _)

set_option maxHeartbeats 1000000 in
theorem eqWorker_any (nu ep : Int) (up : Bool) (st le ta co lf : Int) (x : ByteArray) (si : Int) (a a' : Option Addr) (b o n c b' o' c' : Nat) (ss : List ByteArray) (w : World) (h : StrsAt w a b o n ss) (h' : StrsAt w a' b' o' n ss) :
    Calls Tryz.prog 92 #[.agg #[.int .i64 nu, .int .i64 ep, .bool up, .int .i64 st, .int .i64 le, .int .i64 ta, .int .i64 co, .int .i64 lf, .slice a n c, .string x, .int .i64 si], .agg #[.int .i64 nu, .int .i64 ep, .bool up, .int .i64 st, .int .i64 le, .int .i64 ta, .int .i64 co, .int .i64 lf, .slice a' n c', .string x, .int .i64 si]] w fun e w' => e = .returned (.bool true) ∧ Below w.heap.size w w' := by
  obtain ⟨W, hW⟩ : ∃ W, W = (w.alloc (.cells #[.int .i64 nu, .int .i64 ep, .bool up, .int .i64 st, .int .i64 le, .int .i64 ta, .int .i64 co, .int .i64 lf, .slice a n c, .string x, .int .i64 si] 72)).alloc (.cells #[.int .i64 nu, .int .i64 ep, .bool up, .int .i64 st, .int .i64 le, .int .i64 ta, .int .i64 co, .int .i64 lf, .slice a' n c', .string x, .int .i64 si] 72) := ⟨_, rfl⟩
  have hb0 : Below w.heap.size w W := by rw [hW]; exact ((Below.refl _ _).alloc (Nat.le_refl _) _).alloc (by simp) _
  have c9 : W.cell? ⟨w.heap.size, 9, none⟩ = some (.string x) := by rw [hW]; simp [go_sem]
  have c10 : W.cell? ⟨w.heap.size, 10, none⟩ = some (.int .i64 si) := by rw [hW]; simp [go_sem]
  have d9 : W.cell? ⟨w.heap.size + 1, 9, none⟩ = some (.string x) := by rw [hW]; simp [go_sem]
  have d10 : W.cell? ⟨w.heap.size + 1, 10, none⟩ = some (.int .i64 si) := by rw [hW]; simp [go_sem]
  cases up
  all_goals
    go_enter Tryz.func92, Tryz.ntmps92
    go_wp2_with fail
    rw [← hW]
    refine (eqStringS_any a a' b o n c b' o' c' ss _ (h.below' hb0) (h'.below' hb0)).mono ?_
    rintro e' w1 ⟨rfl, hb1⟩
    have k9 := keepB hb1 c9
    have k10 := keepB hb1 c10
    have l9 := keepB hb1 d9
    have l10 := keepB hb1 d10
    clear hW c9 c10 d9 d10
    have hb := hb0.trans (hb1.mono hb0.size)
    go_wp2
    go_ret
    exact ⟨rfl, hb⟩
end Go.Proofs.YthopfmhagddhgaaGreat
