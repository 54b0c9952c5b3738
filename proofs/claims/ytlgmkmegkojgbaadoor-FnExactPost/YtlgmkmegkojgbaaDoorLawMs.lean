
/-
  laws.szMessage, toMessage, eqMessage.
-/
import Derived.Test.YtlgmkmegkojgbaaDoorLawVal
namespace Go.Proofs.YtlgmkmegkojgbaaDoor
open Go.RowKit

set_option maxHeartbeats 400000 in
theorem szMessage_any (k f t e l d : Int) (x : ByteArray) (a : Option Addr) (b o n c : Nat) (ss : List ByteArray) (w : World) (h : StrsAt w a b o n ss) (hx : x.size ≤ maxLen) :
    Calls Tryd.prog 8 #[.agg #[.int .i64 k, .int .i64 f, .int .i64 t, .int .i64 e, .int .i64 l, .int .i64 d, .string x, .slice a n c], .int .i64 1048576] w fun e w' => (∃ r, e = .returned (.int .i64 r) ∧ (r = -1 ∨ 0 ≤ r ∧ n + tot ss ≤ 1048576 ∧ x.size ≤ 1048576)) ∧ Below w.heap.size w w' := by
  unfold maxLen at hx
  obtain ⟨W, hW⟩ : ∃ W, W = w.alloc (.cells #[.int .i64 k, .int .i64 f, .int .i64 t, .int .i64 e, .int .i64 l, .int .i64 d, .string x, .slice a n c] 24) := ⟨_, rfl⟩
  have hbW : Below w.heap.size w W := by rw [hW]; exact (Below.refl _ _).alloc (Nat.le_refl _) _
  by_cases h1 : (1048576 : Int) - x.size < 0
  · go_enter Tryd.func8, Tryd.ntmps8
    go_wp2
    go_ret
    exact ⟨⟨_, rfl, .inl rfl⟩, by rw [hW] at hbW; exact hbW⟩
  · go_enter Tryd.func8, Tryd.ntmps8
    go_wp2_with fail
    rw [← hW]
    refine (szStringS_any a b o n c ss _ _ (by omega) (by omega) (h.below' hbW)).mono ?_
    rintro e w' ⟨⟨r, rfl, hr⟩, rfl⟩
    clear hW
    rcases hr with rfl | ⟨hr, hr0⟩
    · go_wp2
      go_ret
      exact ⟨⟨_, rfl, .inl rfl⟩, hbW⟩
    · have hs : n + tot ss ≤ 1048576 := by omega
      clear hr
      go_wp2
      go_ret
      exact ⟨⟨_, rfl, .inr ⟨hr0, hs, by omega⟩⟩, hbW⟩

set_option maxHeartbeats 400000 in
theorem toMessage_any (k f t e l d : Int) (x : ByteArray) (a : Option Addr) (b o n c : Nat) (ss : List ByteArray) (w : World) (h : StrsAt w a b o n ss) (hn : n ≤ 1048576) :
    Calls Tryd.prog 10 #[.agg #[.int .i64 k, .int .i64 f, .int .i64 t, .int .i64 e, .int .i64 l, .int .i64 d, .string x, .slice a n c]] w fun e' w' => (∃ g, e' = .returned (.agg #[.int .i64 k, .int .i64 f, .int .i64 t, .int .i64 e, .int .i64 l, .int .i64 d, .string x, .slice (some ⟨g, 0, none⟩) n n]) ∧ OwnC w.heap.size w' 1 g 0 n n (ss.map Value.string)) ∧ Below w.heap.size w w' := by
  have hb0 : Below w.heap.size w (((w.alloc (.cells #[.int .i64 k, .int .i64 f, .int .i64 t, .int .i64 e, .int .i64 l, .int .i64 d, .string x, .slice a n c] 24)).alloc (.cells #[.int .i64 0, .int .i64 0, .int .i64 0, .int .i64 0, .int .i64 0, .int .i64 0, .string ⟨#[]⟩, .slice none 0 0] 27)).alloc (.cells #[.int .i64 k, .int .i64 f, .int .i64 t, .int .i64 e, .int .i64 l, .int .i64 d, .string x, .slice none 0 0] 27)) :=
    (((Below.refl _ _).alloc (Nat.le_refl _) _).alloc (by simp) _).alloc (by simp; omega) _
  go_enter Tryd.func10, Tryd.ntmps10
  go_wp2_with fail
  refine (toStringS_any a b o n c ss _ (h.below' hb0) hn).mono ?_
  rintro e' w1 ⟨g, rfl, ho1, hb1⟩
  obtain ⟨hc, hf⟩ := bcell hb1
  have hz : w.heap.size + 1 + 1 < w1.heap.size := by have := hb1.size; simp at this; omega
  have hg := ho1.lo
  simp at hg
  have hi1 : OwnC w.heap.size w1 1 g 0 n n (ss.map Value.string) := ho1.mono (by simp; omega)
  have hb := hb0.trans (hb1.mono (by simp; omega))
  clear hb1 ho1 hb0
  go_wp2
  refine bodyPost_ret (v := .agg #[.int .i64 k, .int .i64 f, .int .i64 t, .int .i64 e, .int .i64 l, .int .i64 d, .string x, .slice (some ⟨g, 0, none⟩) n n]) (by simp [results, Tryd.results10, go_sem, hc]) rfl ⟨⟨g, rfl, ?_⟩, ?_⟩
  · repeat (first | with_reducible exact hi1 | refine OwnC.setOther ?_ (by dsimp only; omega) _)
  · repeat (first | with_reducible exact hb | refine Below.setCell ?_ (by dsimp only; omega) _)

set_option maxHeartbeats 1000000 in
theorem eqMessage_any (k f t e l d : Int) (x : ByteArray) (a a' : Option Addr) (b o n c b' o' c' : Nat) (ss : List ByteArray) (w : World) (h : StrsAt w a b o n ss) (h' : StrsAt w a' b' o' n ss) :
    Calls Tryd.prog 12 #[.agg #[.int .i64 k, .int .i64 f, .int .i64 t, .int .i64 e, .int .i64 l, .int .i64 d, .string x, .slice a n c], .agg #[.int .i64 k, .int .i64 f, .int .i64 t, .int .i64 e, .int .i64 l, .int .i64 d, .string x, .slice a' n c']] w fun e w' => e = .returned (.bool true) ∧ Below w.heap.size w w' := by
  obtain ⟨W, hW⟩ : ∃ W, W = (w.alloc (.cells #[.int .i64 k, .int .i64 f, .int .i64 t, .int .i64 e, .int .i64 l, .int .i64 d, .string x, .slice a n c] 27)).alloc (.cells #[.int .i64 k, .int .i64 f, .int .i64 t, .int .i64 e, .int .i64 l, .int .i64 d, .string x, .slice a' n c'] 27) := ⟨_, rfl⟩
  have hb0 : Below w.heap.size w W := by rw [hW]; exact ((Below.refl _ _).alloc (Nat.le_refl _) _).alloc (by simp) _
  go_enter Tryd.func12, Tryd.ntmps12
  go_wp2_with fail
  rw [← hW]
  refine (eqStringS_any a a' b o n c b' o' c' ss _ (h.below' hb0) (h'.below' hb0)).mono ?_
  rintro e' w1 ⟨rfl, hb1⟩
  clear hW
  have hb := hb0.trans (hb1.mono hb0.size)
  go_wp2
  go_ret
  exact ⟨rfl, hb⟩

end Go.Proofs.YtlgmkmegkojgbaaDoor
