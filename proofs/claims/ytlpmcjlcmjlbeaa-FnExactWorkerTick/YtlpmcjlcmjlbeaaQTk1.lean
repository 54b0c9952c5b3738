import Derived.Test.YtlpmcjlcmjlbeaaQTk0
namespace Go.Proofs.Ytlpmcjlcmjlbeaa
open Go.RowKit

set_option maxHeartbeats 4000000 in
set_option maxRecDepth 100000 in
theorem workedOn_d (le ta co : Int) (a : Option Addr) (b o n c : Nat) (ss : List ByteArray) (pa : Option Addr) (pb po pn pc : Nat) (ts : List TaskD) (w : World) (h : StrsAt w a b o n ss) (hp : TasksAt w pa pb po pn ts) (hC : Code ts 0) (h0 : 0 ≤ ta) (h39 : ta ≤ 39) :
    Calls Try.prog 65 #[.iface 85 (.agg #[.int .i64 le, .int .i64 ta, .int .i64 co, .int .i64 1, .slice a n c]), .agg #[.slice pa pn pc]] w fun e w' => e = .returned (.tuple #[.iface 87 (.agg #[.int .i64 le, .int .i64 ta, .string (valS (tnm ts ta) ss)]), .bool true]) ∧ Below w.heap.size w w' := by
  obtain ⟨W, hW⟩ : ∃ W, W = (w.alloc (.cells #[.slice pa pn pc] 43)).alloc (.cells #[.int .i64 le, .int .i64 ta, .int .i64 co, .int .i64 0, .slice a n c] 85) := ⟨_, rfl⟩
  have hbW : Below w.heap.size w W := by rw [hW]; exact ((Below.refl _ _).alloc (Nat.le_refl _) _).alloc (by simp) _
  have k0 : W.cell? ⟨w.heap.size, 0, none⟩ = some (.slice pa pn pc) := by rw [hW]; simp [go_sem]
  have c0 : W.cell? ⟨w.heap.size + 1, 0, none⟩ = some (.int .i64 le) := by rw [hW]; simp [go_sem]
  have c1 : W.cell? ⟨w.heap.size + 1, 1, none⟩ = some (.int .i64 ta) := by rw [hW]; simp [go_sem]
  have c4 : W.cell? ⟨w.heap.size + 1, 4, none⟩ = some (.slice a n c) := by rw [hW]; simp [go_sem]
  have hbd := hbW.drew
  have hpd := hp.below' hbd
  have hd := h.below' hbd
  have hz : (tnm ts ta).size ≤ maxLen := by have := tnm_size hC ta h0; unfold maxLen; omega
  obtain ⟨nm, hnm⟩ : ∃ nm, nm = tnm ts ta := ⟨_, rfl⟩
  have HNM := hid hnm
  rw [← hnm] at hz ⊢
  have htn : ∀ w1 : World, TasksAt w1 pa pb po pn ts → Calls Try.prog 74 #[.agg #[.slice pa pn pc], .int .i64 ta] w1 fun e w' => e = .returned (.string nm) ∧ Below w1.heap.size w1 w' := fun w1 h1 => by rw [hnm]; exact taskName_any pa pb po pn pc ts ta w1 h1 h0 h39
  have HTN := hid htn
  have HW := hid hW
  clear hW hnm htn hC hbW
  have hta := as_b_b (w.alloc (.cells #[.slice pa pn pc] 43)) (.agg #[.int .i64 le, .int .i64 ta, .int .i64 co, .int .i64 1, .slice a n c])
  go_enter Try.func65, Try.ntmps65
  go_upto_region 7 with fail
  rw [← HW.out]
  clear HW
  go_region_held3 (fun w' => w'.cell? ⟨w.heap.size, 0, none⟩ = some (.slice pa pn pc) ∧ w'.cell? ⟨w.heap.size + 1, 0, none⟩ = some (.int .i64 le) ∧ w'.cell? ⟨w.heap.size + 1, 1, none⟩ = some (.int .i64 ta) ∧ w'.cell? ⟨w.heap.size + 1, 4, none⟩ = some (.slice a n c)) (first | (simp [go_sem, *]; done) | assumption)
    (first
      | (go_at_call 74; refine (HTN.out _ hpd).mono ?_; rintro e w1 ⟨rfl, hb1⟩; have y0 := keepC hb1 k0; have y1 := keepC hb1 c0; have y2 := keepC hb1 c1; have y3 := keepC hb1 c4; have hB1 := hbd.trans (hb1.mono hbd.size); have h1 := hd.below' hb1)
      | (go_at_call 73; refine (implValue_any nm a b o n c ss _ hz h1).mono ?_; rintro e w2 ⟨rfl, hb2⟩; have y0a := keepB hb2 y0; have y1a := keepB hb2 y1; have y2a := keepB hb2 y2; have y3a := keepB hb2 y3; have hB2 := hB1.trans (hb2.mono hB1.size)))
  go_wp2
  exact bodyPost_ret (v := .tuple #[.iface 87 (.agg #[.int .i64 le, .int .i64 ta, .string (valS nm ss)]), .bool true]) (by simp [results, Try.results65, go_sem]) rfl ⟨rfl, hB2⟩
end Go.Proofs.Ytlpmcjlcmjlbeaa
