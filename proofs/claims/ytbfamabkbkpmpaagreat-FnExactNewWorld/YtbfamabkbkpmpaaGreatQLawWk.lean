import Derived.Test.YtbfamabkbkpmpaaGreatQLawVal
import Derived.Test.YtbfamabkbkpmpaaGreatQWki
import Derived.Test.YtbfamabkbkpmpaaGreatQWkv
namespace Go.Proofs.YtbfamabkbkpmpaaGreat
open Go.RowKit

set_option maxHeartbeats 1000000 in
theorem eqWorker_any (nu ep : Int) (up : Bool) (st le ta co lf : Int) (x : ByteArray) (si : Int) (a a' : Option Addr) (b o n c b' o' c' : Nat) (ss : List ByteArray) (w : World) (h : StrsAt w a b o n ss) (h' : StrsAt w a' b' o' n ss) :
    Calls Tryz.prog 102 #[.agg #[.int .i64 nu, .int .i64 ep, .bool up, .int .i64 st, .int .i64 le, .int .i64 ta, .int .i64 co, .int .i64 lf, .slice a n c, .string x, .int .i64 si], .agg #[.int .i64 nu, .int .i64 ep, .bool up, .int .i64 st, .int .i64 le, .int .i64 ta, .int .i64 co, .int .i64 lf, .slice a' n c', .string x, .int .i64 si]] w fun e w' => e = .returned (.bool true) ∧ Below w.heap.size w w' := by
  obtain ⟨W, hW⟩ : ∃ W, W = (w.alloc (.cells #[.int .i64 nu, .int .i64 ep, .bool up, .int .i64 st, .int .i64 le, .int .i64 ta, .int .i64 co, .int .i64 lf, .slice a n c, .string x, .int .i64 si] 96)).alloc (.cells #[.int .i64 nu, .int .i64 ep, .bool up, .int .i64 st, .int .i64 le, .int .i64 ta, .int .i64 co, .int .i64 lf, .slice a' n c', .string x, .int .i64 si] 96) := ⟨_, rfl⟩
  have hb0 : Below w.heap.size w W := by rw [hW]; exact ((Below.refl _ _).alloc (Nat.le_refl _) _).alloc (by simp) _
  have c9 : W.cell? ⟨w.heap.size, 9, none⟩ = some (.string x) := by rw [hW]; simp [go_sem]
  have c10 : W.cell? ⟨w.heap.size, 10, none⟩ = some (.int .i64 si) := by rw [hW]; simp [go_sem]
  have d9 : W.cell? ⟨w.heap.size + 1, 9, none⟩ = some (.string x) := by rw [hW]; simp [go_sem]
  have d10 : W.cell? ⟨w.heap.size + 1, 10, none⟩ = some (.int .i64 si) := by rw [hW]; simp [go_sem]
  cases up
  all_goals
    go_enter Tryz.func102, Tryz.ntmps102
    go_wp2_with fail
    rw [← hW]
    refine (eqStringS_any a a' b o n c b' o' c' ss _ (h.below' hb0) (h'.below' hb0)).mono ?_
    rintro e' w1 ⟨rfl, hb1⟩
    have k9 := keepB hb1 c9
    have k10 := keepB hb1 c10
    have l9 := keepB hb1 d9
    have l10 := keepB hb1 d10
    clear hW c9 c10 d9 d10
    have hb := hb0.trans (hb1.mono hb0.size)
    go_wp2
    go_ret
    exact ⟨rfl, hb⟩
end Go.Proofs.YtbfamabkbkpmpaaGreat
