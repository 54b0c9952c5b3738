
/-
  spec.WorkerTake.
-/
import Derived.Test.YthogdlabinnndaaDoorTa0
import Derived.Test.YthogdlabinnndaaDoorWcq
import Derived.Test.YthogdlabinnndaaDoorWkv
import Derived.Test.YthogdlabinnndaaDoorWks
import Derived.Test.YthogdlabinnndaaDoorSChk
import Derived.Test.YthogdlabinnndaaDoorWst
import Derived.Test.YthogdlabinnndaaDoorWcp
import Derived.Test.YthogdlabinnndaaDoorHld
namespace Go.Proofs.YthogdlabinnndaaDoor
open Go.RowKit


theorem dcost_nat (ts : List TaskD) (j : Nat) : dcost ts (j : Int) = (ts.getD j dT).cost := by unfold dcost; rw [Int.toNat_natCast]
theorem bsOwnT (w : World) (B : Nat) (h : B ≤ w.heap.size) : Own B (w.alloc (.cells #[] 9)) 1 (.slice (some ⟨w.heap.size, 0, none⟩) 0 0) 0 [] :=
  .inr ⟨_, 0, 0, rfl, OwnC.made w B 9 1 0 0 _ 0 h (Nat.le_refl _) (by unfold maxLen; omega) rfl (Nat.le_refl _) _ rfl _ (.inl rfl)⟩
theorem Own.drewB {B : Nat} {w : World} {size : Nat} {v : Value} {n : Nat} {xs : List Value} (h : Own B w size v n xs) : Own B w.drew size v n xs := by
  rcases h with h | ⟨g, o, cap, hv, hc⟩
  · exact .inl h
  · exact .inr ⟨g, o, cap, hv, hc.block rfl⟩

set_option maxHeartbeats 8000000 in
set_option maxRecDepth 100000 in
theorem sTake_any (d : WD) (a : Option Addr) (b o c : Nat) (pa : Option Addr) (pb po pn pc : Nat) (ts : List TaskD) (k f t e l dd : Int) (x : ByteArray) (ma : Option Addr) (mb mo mc : Nat) (ms : List ByteArray) (w : World) (h : StrsAt w a b o d.ss.length d.ss) (hp : TasksAt w pa pb po pn ts) (hm : StrsAt w ma mb mo ms.length ms) (hn : d.ss.length ≤ 1048576) (hmn : ms.length ≤ 1048576) :
    Calls Tryd.prog 7 #[.agg #[.int .i64 d.nu, .int .i64 d.ep, .bool d.up, .int .i64 d.st, .int .i64 d.le, .int .i64 d.ta, .int .i64 d.co, .int .i64 d.lf, .slice a d.ss.length c, .string d.x, .int .i64 d.si], .agg #[.slice pa pn pc], .agg #[.int .i64 k, .int .i64 f, .int .i64 t, .int .i64 e, .int .i64 l, .int .i64 dd, .string x, .slice ma ms.length mc]] w fun e' w' => RetT e' w.heap.size w' (takeR d ts k f t e l dd x ms) ∧ Below w.heap.size w w' := by
  obtain ⟨i0, hi0, hz00, hz01, hz02⟩ := info_parts Tryd.info9
  obtain ⟨W, hW⟩ : ∃ W, W = (((w.alloc (.cells #[.int .i64 d.nu, .int .i64 d.ep, .bool d.up, .int .i64 d.st, .int .i64 d.le, .int .i64 d.ta, .int .i64 d.co, .int .i64 d.lf, .slice a d.ss.length c, .string d.x, .int .i64 d.si] 33)).alloc (.cells #[.slice pa pn pc] 41)).alloc (.cells #[.int .i64 k, .int .i64 f, .int .i64 t, .int .i64 e, .int .i64 l, .int .i64 dd, .string x, .slice ma ms.length mc] 43)).alloc (.cells #[.int .i64 0, .int .i64 0, .bool false, .int .i64 0, .int .i64 0, .int .i64 0, .int .i64 0, .int .i64 0, .slice none 0 0, .string ⟨#[]⟩, .int .i64 0, .slice none 0 0] 36) := ⟨_, rfl⟩
  have B0 : Below w.heap.size w W := by rw [hW]; exact ((((Below.refl _ _).alloc (Nat.le_refl _) _).alloc (by simp) _).alloc (by simp <;> omega) _).alloc (by simp <;> omega) _
  have z0 : w.heap.size + 4 ≤ W.heap.size := by rw [hW]; simp
  have S0 : Bx w [[.int .i64 d.nu, .int .i64 d.ep, .bool d.up, .int .i64 d.st, .int .i64 d.le, .int .i64 d.ta, .int .i64 d.co, .int .i64 d.lf, .slice a d.ss.length c, .string d.x, .int .i64 d.si], [.slice pa pn pc], [.int .i64 k, .int .i64 f, .int .i64 t, .int .i64 e, .int .i64 l, .int .i64 dd, .string x, .slice ma ms.length mc], [.int .i64 0, .int .i64 0, .bool false, .int .i64 0, .int .i64 0, .int .i64 0, .int .i64 0, .int .i64 0, .slice none 0 0, .string ⟨#[]⟩, .int .i64 0, .slice none 0 0]] W := by
    refine ⟨fun i hi => ?_, B0, z0⟩
    have hi' : i < 4 := hi
    rw [hW]
    match i, hi' with
    | 0, _ => exact (((CF.made w #[.int .i64 d.nu, .int .i64 d.ep, .bool d.up, .int .i64 d.st, .int .i64 d.le, .int .i64 d.ta, .int .i64 d.co, .int .i64 d.lf, .slice a d.ss.length c, .string d.x, .int .i64 d.si] 33).block (Below.heap_alloc _ _ _ (by simp))).block (Below.heap_alloc _ _ _ (by simp <;> omega))).block (Below.heap_alloc _ _ _ (by simp <;> omega))
    | 1, _ =>
      have := CF.made (w.alloc (.cells #[.int .i64 d.nu, .int .i64 d.ep, .bool d.up, .int .i64 d.st, .int .i64 d.le, .int .i64 d.ta, .int .i64 d.co, .int .i64 d.lf, .slice a d.ss.length c, .string d.x, .int .i64 d.si] 33)) #[.slice pa pn pc] 41
      rw [World.size_alloc] at this
      exact (this.block (Below.heap_alloc _ _ _ (by simp))).block (Below.heap_alloc _ _ _ (by simp <;> omega))
    | 2, _ =>
      have := CF.made ((w.alloc (.cells #[.int .i64 d.nu, .int .i64 d.ep, .bool d.up, .int .i64 d.st, .int .i64 d.le, .int .i64 d.ta, .int .i64 d.co, .int .i64 d.lf, .slice a d.ss.length c, .string d.x, .int .i64 d.si] 33)).alloc (.cells #[.slice pa pn pc] 41)) #[.int .i64 k, .int .i64 f, .int .i64 t, .int .i64 e, .int .i64 l, .int .i64 dd, .string x, .slice ma ms.length mc] 43
      rw [World.size_alloc, World.size_alloc] at this
      exact this.block (Below.heap_alloc _ _ _ (by simp))
    | 3, _ =>
      have := CF.made (((w.alloc (.cells #[.int .i64 d.nu, .int .i64 d.ep, .bool d.up, .int .i64 d.st, .int .i64 d.le, .int .i64 d.ta, .int .i64 d.co, .int .i64 d.lf, .slice a d.ss.length c, .string d.x, .int .i64 d.si] 33)).alloc (.cells #[.slice pa pn pc] 41)).alloc (.cells #[.int .i64 k, .int .i64 f, .int .i64 t, .int .i64 e, .int .i64 l, .int .i64 dd, .string x, .slice ma ms.length mc] 43)) #[.int .i64 0, .int .i64 0, .bool false, .int .i64 0, .int .i64 0, .int .i64 0, .int .i64 0, .int .i64 0, .slice none 0 0, .string ⟨#[]⟩, .int .i64 0, .slice none 0 0] 36
      rw [World.size_alloc, World.size_alloc, World.size_alloc] at this
      exact this
  clear B0 z0
  have HW := hid hW
  clear hW
  have hml := hp.max
  unfold maxLen at hml
  go_enter Tryd.func7, Tryd.ntmps7
  go_upto_region 1 with fail
  rw [← HW.out]
  clear HW
  have y0 : W.cell? ⟨w.heap.size, 0, none⟩ = some (.int .i64 d.nu) := (S0.c 0 (by simp) 0 (by simp)).1
  have y1 : W.cell? ⟨w.heap.size, 1, none⟩ = some (.int .i64 d.ep) := (S0.c 0 (by simp) 1 (by simp)).1
  have y2 : W.cell? ⟨w.heap.size, 2, none⟩ = some (.bool d.up) := (S0.c 0 (by simp) 2 (by simp)).1
  have y3 : W.cell? ⟨w.heap.size, 3, none⟩ = some (.int .i64 d.st) := (S0.c 0 (by simp) 3 (by simp)).1
  have y4 : W.cell? ⟨w.heap.size, 4, none⟩ = some (.int .i64 d.le) := (S0.c 0 (by simp) 4 (by simp)).1
  have y5 : W.cell? ⟨w.heap.size, 5, none⟩ = some (.int .i64 d.ta) := (S0.c 0 (by simp) 5 (by simp)).1
  have y6 : W.cell? ⟨w.heap.size, 6, none⟩ = some (.int .i64 d.co) := (S0.c 0 (by simp) 6 (by simp)).1
  have y7 : W.cell? ⟨w.heap.size, 7, none⟩ = some (.int .i64 d.lf) := (S0.c 0 (by simp) 7 (by simp)).1
  have y8 : W.cell? ⟨w.heap.size, 8, none⟩ = some (.slice a d.ss.length c) := (S0.c 0 (by simp) 8 (by simp)).1
  have y9 : W.cell? ⟨w.heap.size, 9, none⟩ = some (.string d.x) := (S0.c 0 (by simp) 9 (by simp)).1
  have y10 : W.cell? ⟨w.heap.size, 10, none⟩ = some (.int .i64 d.si) := (S0.c 0 (by simp) 10 (by simp)).1
  go_wp2_with fail
  refine (sVal_any d.nu d.ep d.up d.st d.le d.ta d.co d.lf a b o d.ss.length c d.ss d.x d.si _ (h.below' S0.B)).mono ?_
  rintro e' w1 ⟨⟨r, rfl, hr⟩, hb1⟩
  have S1 := S0.below hb1
  clear y0 y1 y2 y3 y4 y5 y6 y7 y8 y9 y10
  clear hb1 S0
  have HR := hid hr
  clear hr
  have hbad : ∀ wx, Bx w [[.int .i64 d.nu, .int .i64 d.ep, .bool d.up, .int .i64 d.st, .int .i64 d.le, .int .i64 d.ta, .int .i64 d.co, .int .i64 d.lf, .slice a d.ss.length c, .string d.x, .int .i64 d.si], [.slice pa pn pc], [.int .i64 k, .int .i64 f, .int .i64 t, .int .i64 e, .int .i64 l, .int .i64 dd, .string x, .slice ma ms.length mc], [.int .i64 0, .int .i64 0, .bool false, .int .i64 0, .int .i64 0, .int .i64 0, .int .i64 0, .int .i64 0, .slice none 0 0, .string ⟨#[]⟩, .int .i64 0, .slice none 0 0]] wx → ∀ wy, CF wy (w.heap.size + 3) [.int .i64 0, .int .i64 0, .bool false, .int .i64 0, .int .i64 0, .int .i64 0, .int .i64 0, .int .i64 0, .slice none 0 0, .string ⟨#[]⟩, .int .i64 0, .slice none 0 0] → wx.grownBy wy (some (w.heap.size + 3)) → ¬ (d.ok ∧ Code ts 0) → RetT (.returned (.agg #[.int .i64 0, .int .i64 0, .bool false, .int .i64 0, .int .i64 0, .int .i64 0, .int .i64 0, .int .i64 0, .slice none 0 0, .string ⟨#[]⟩, .int .i64 0, .slice none 0 0])) w.heap.size wy (takeR d ts k f t e l dd x ms) ∧ Below w.heap.size w wy := fun wx Sx wy hc hg hno =>
    ⟨RetT.mk zWD none 0 (Own.nil _ _ _) (.inr ⟨hno, rfl⟩), below_grown Sx.B hg (by have := Sx.z; simp at this <;> omega) (fun q hq => by simp at hq; omega)⟩
  have HBAD := hid hbad
  clear hbad
  cases r with
  | false =>
    have HN := hid (show ¬ (d.ok ∧ Code ts 0) from fun hh => by have := HR.out.2 hh.1; cases this)
    have R1 : CF w1 (w.heap.size + 3) [.int .i64 0, .int .i64 0, .bool false, .int .i64 0, .int .i64 0, .int .i64 0, .int .i64 0, .int .i64 0, .slice none 0 0, .string ⟨#[]⟩, .int .i64 0, .slice none 0 0] := S1.c 3 (by simp)
    go_upto_region 2 with fail
    go_wp2_with (refine wpList_store_cf rfl 36 (.tmp 6) (.tmp 18) rfl (w.heap.size + 3) [.int .i64 0, .int .i64 0, .bool false, .int .i64 0, .int .i64 0, .int .i64 0, .int .i64 0, .int .i64 0, .slice none 0 0, .string ⟨#[]⟩, .int .i64 0, .slice none 0 0] [.int .i64 0, .int .i64 0, .bool false, .int .i64 0, .int .i64 0, .int .i64 0, .int .i64 0, .int .i64 0, .slice none 0 0, .string ⟨#[]⟩, .int .i64 0, .slice none 0 0] rfl rfl R1 rfl Tryd.sizeAc (one12 _ _ _ _ _ _ _ _ _ _ _ _ _ _ _ _) ?_; intro w10 hc10 hg10)
    have k0 : w10.cell? ⟨w.heap.size + 3, 0, none⟩ = some (.int .i64 0) := (hc10 0 (by simp)).1
    have k1 : w10.cell? ⟨w.heap.size + 3, 1, none⟩ = some (.int .i64 0) := (hc10 1 (by simp)).1
    have k2 : w10.cell? ⟨w.heap.size + 3, 2, none⟩ = some (.bool false) := (hc10 2 (by simp)).1
    have k3 : w10.cell? ⟨w.heap.size + 3, 3, none⟩ = some (.int .i64 0) := (hc10 3 (by simp)).1
    have k4 : w10.cell? ⟨w.heap.size + 3, 4, none⟩ = some (.int .i64 0) := (hc10 4 (by simp)).1
    have k5 : w10.cell? ⟨w.heap.size + 3, 5, none⟩ = some (.int .i64 0) := (hc10 5 (by simp)).1
    have k6 : w10.cell? ⟨w.heap.size + 3, 6, none⟩ = some (.int .i64 0) := (hc10 6 (by simp)).1
    have k7 : w10.cell? ⟨w.heap.size + 3, 7, none⟩ = some (.int .i64 0) := (hc10 7 (by simp)).1
    have k8 : w10.cell? ⟨w.heap.size + 3, 8, none⟩ = some (.slice none 0 0) := (hc10 8 (by simp)).1
    have k9 : w10.cell? ⟨w.heap.size + 3, 9, none⟩ = some (.string ⟨#[]⟩) := (hc10 9 (by simp)).1
    have k10 : w10.cell? ⟨w.heap.size + 3, 10, none⟩ = some (.int .i64 0) := (hc10 10 (by simp)).1
    have k11 : w10.cell? ⟨w.heap.size + 3, 11, none⟩ = some (.slice none 0 0) := (hc10 11 (by simp)).1
    exact bodyPost_ret (v := .agg #[.int .i64 0, .int .i64 0, .bool false, .int .i64 0, .int .i64 0, .int .i64 0, .int .i64 0, .int .i64 0, .slice none 0 0, .string ⟨#[]⟩, .int .i64 0, .slice none 0 0]) (by simp [results, Tryd.results7, go_sem, k0, k1, k2, k3, k4, k5, k6, k7, k8, k9, k10, k11]) rfl (HBAD.out _ S1 _ hc10 hg10 HN.out)
  | true =>
    have HOK := hid (show d.ok from HR.out.1 rfl)
    clear HR
    have yp : w1.cell? ⟨w.heap.size + 1, 0, none⟩ = some (.slice pa pn pc) := (S1.c 1 (by simp) 0 (by simp)).1
    go_wp2_with fail
    refine (specCheckPlan_any pa pb po pn pc ts _ (hp.below' S1.B)).mono ?_
    rintro e' w2 ⟨⟨cc, rfl, hcc⟩, hb2⟩
    have S2 := S1.below hb2
    clear yp hb2 S1
    by_cases c0 : cc = 0
    case neg =>
      have c0b : (cc == 0) = false := beq_eq_false_iff_ne.2 c0
      have HN := hid (bad_of (d := d) hcc c0)
      have R1 : CF w2 (w.heap.size + 3) [.int .i64 0, .int .i64 0, .bool false, .int .i64 0, .int .i64 0, .int .i64 0, .int .i64 0, .int .i64 0, .slice none 0 0, .string ⟨#[]⟩, .int .i64 0, .slice none 0 0] := S2.c 3 (by simp)
      clear hcc
      go_upto_region 2 with fail
      go_wp2_with (refine wpList_store_cf rfl 36 (.tmp 6) (.tmp 18) rfl (w.heap.size + 3) [.int .i64 0, .int .i64 0, .bool false, .int .i64 0, .int .i64 0, .int .i64 0, .int .i64 0, .int .i64 0, .slice none 0 0, .string ⟨#[]⟩, .int .i64 0, .slice none 0 0] [.int .i64 0, .int .i64 0, .bool false, .int .i64 0, .int .i64 0, .int .i64 0, .int .i64 0, .int .i64 0, .slice none 0 0, .string ⟨#[]⟩, .int .i64 0, .slice none 0 0] rfl rfl R1 rfl Tryd.sizeAc (one12 _ _ _ _ _ _ _ _ _ _ _ _ _ _ _ _) ?_; intro w10 hc10 hg10)
      have k0 : w10.cell? ⟨w.heap.size + 3, 0, none⟩ = some (.int .i64 0) := (hc10 0 (by simp)).1
      have k1 : w10.cell? ⟨w.heap.size + 3, 1, none⟩ = some (.int .i64 0) := (hc10 1 (by simp)).1
      have k2 : w10.cell? ⟨w.heap.size + 3, 2, none⟩ = some (.bool false) := (hc10 2 (by simp)).1
      have k3 : w10.cell? ⟨w.heap.size + 3, 3, none⟩ = some (.int .i64 0) := (hc10 3 (by simp)).1
      have k4 : w10.cell? ⟨w.heap.size + 3, 4, none⟩ = some (.int .i64 0) := (hc10 4 (by simp)).1
      have k5 : w10.cell? ⟨w.heap.size + 3, 5, none⟩ = some (.int .i64 0) := (hc10 5 (by simp)).1
      have k6 : w10.cell? ⟨w.heap.size + 3, 6, none⟩ = some (.int .i64 0) := (hc10 6 (by simp)).1
      have k7 : w10.cell? ⟨w.heap.size + 3, 7, none⟩ = some (.int .i64 0) := (hc10 7 (by simp)).1
      have k8 : w10.cell? ⟨w.heap.size + 3, 8, none⟩ = some (.slice none 0 0) := (hc10 8 (by simp)).1
      have k9 : w10.cell? ⟨w.heap.size + 3, 9, none⟩ = some (.string ⟨#[]⟩) := (hc10 9 (by simp)).1
      have k10 : w10.cell? ⟨w.heap.size + 3, 10, none⟩ = some (.int .i64 0) := (hc10 10 (by simp)).1
      have k11 : w10.cell? ⟨w.heap.size + 3, 11, none⟩ = some (.slice none 0 0) := (hc10 11 (by simp)).1
      exact bodyPost_ret (v := .agg #[.int .i64 0, .int .i64 0, .bool false, .int .i64 0, .int .i64 0, .int .i64 0, .int .i64 0, .int .i64 0, .slice none 0 0, .string ⟨#[]⟩, .int .i64 0, .slice none 0 0]) (by simp [results, Tryd.results7, go_sem, k0, k1, k2, k3, k4, k5, k6, k7, k8, k9, k10, k11]) rfl (HBAD.out _ S2 _ hc10 hg10 HN.out)
    subst c0
    have HC := hid hcc
    clear hcc HBAD
    have y0 : w2.cell? ⟨w.heap.size, 0, none⟩ = some (.int .i64 d.nu) := (S2.c 0 (by simp) 0 (by simp)).1
    have y1 : w2.cell? ⟨w.heap.size, 1, none⟩ = some (.int .i64 d.ep) := (S2.c 0 (by simp) 1 (by simp)).1
    have y2 : w2.cell? ⟨w.heap.size, 2, none⟩ = some (.bool d.up) := (S2.c 0 (by simp) 2 (by simp)).1
    have y3 : w2.cell? ⟨w.heap.size, 3, none⟩ = some (.int .i64 d.st) := (S2.c 0 (by simp) 3 (by simp)).1
    have y4 : w2.cell? ⟨w.heap.size, 4, none⟩ = some (.int .i64 d.le) := (S2.c 0 (by simp) 4 (by simp)).1
    have y5 : w2.cell? ⟨w.heap.size, 5, none⟩ = some (.int .i64 d.ta) := (S2.c 0 (by simp) 5 (by simp)).1
    have y6 : w2.cell? ⟨w.heap.size, 6, none⟩ = some (.int .i64 d.co) := (S2.c 0 (by simp) 6 (by simp)).1
    have y7 : w2.cell? ⟨w.heap.size, 7, none⟩ = some (.int .i64 d.lf) := (S2.c 0 (by simp) 7 (by simp)).1
    have y8 : w2.cell? ⟨w.heap.size, 8, none⟩ = some (.slice a d.ss.length c) := (S2.c 0 (by simp) 8 (by simp)).1
    have y9 : w2.cell? ⟨w.heap.size, 9, none⟩ = some (.string d.x) := (S2.c 0 (by simp) 9 (by simp)).1
    have y10 : w2.cell? ⟨w.heap.size, 10, none⟩ = some (.int .i64 d.si) := (S2.c 0 (by simp) 10 (by simp)).1
    go_wp2_with fail
    refine (l3Copy_any d.nu d.ep d.up d.st d.le d.ta d.co d.lf a b o d.ss.length c d.ss d.x d.si _ (h.below' S2.B) hn).mono ?_
    rintro e' w3 ⟨a1, c1, rfl, ho1, hb3⟩
    have S3 := S2.below hb3
    have q3 := ho1.mono' S2.z
    clear y0 y1 y2 y3 y4 y5 y6 y7 y8 y9 y10
    clear hb3 S2 ho1
    obtain ⟨X, hX⟩ : ∃ X : Nat, X = w3.heap.size := ⟨_, rfl⟩
    obtain ⟨W4, hW4⟩ : ∃ V, V = (w3.alloc (.cells #[.int .i64 d.nu, .int .i64 d.ep, .bool d.up, .int .i64 d.st, .int .i64 d.le, .int .i64 d.ta, .int .i64 d.co, .int .i64 d.lf, .slice a1 d.ss.length c1, .string d.x, .int .i64 d.si] 33)).alloc (.cells #[.int .i64 d.nu, .int .i64 d.ep, .bool d.up, .int .i64 d.st, .int .i64 d.le, .int .i64 d.ta, .int .i64 d.co, .int .i64 d.lf, .slice a1 d.ss.length c1, .string d.x, .int .i64 d.si, .slice none 0 0] 36) := ⟨_, rfl⟩
    have S4 := (S3.alloc (.cells #[.int .i64 d.nu, .int .i64 d.ep, .bool d.up, .int .i64 d.st, .int .i64 d.le, .int .i64 d.ta, .int .i64 d.co, .int .i64 d.lf, .slice a1 d.ss.length c1, .string d.x, .int .i64 d.si] 33)).alloc (.cells #[.int .i64 d.nu, .int .i64 d.ep, .bool d.up, .int .i64 d.st, .int .i64 d.le, .int .i64 d.ta, .int .i64 d.co, .int .i64 d.lf, .slice a1 d.ss.length c1, .string d.x, .int .i64 d.si, .slice none 0 0] 36)
    have q4 := (q3.alloc (.cells #[.int .i64 d.nu, .int .i64 d.ep, .bool d.up, .int .i64 d.st, .int .i64 d.le, .int .i64 d.ta, .int .i64 d.co, .int .i64 d.lf, .slice a1 d.ss.length c1, .string d.x, .int .i64 d.si] 33)).alloc (.cells #[.int .i64 d.nu, .int .i64 d.ep, .bool d.up, .int .i64 d.st, .int .i64 d.le, .int .i64 d.ta, .int .i64 d.co, .int .i64 d.lf, .slice a1 d.ss.length c1, .string d.x, .int .i64 d.si, .slice none 0 0] 36)
    have X4 : CF W4 X [.int .i64 d.nu, .int .i64 d.ep, .bool d.up, .int .i64 d.st, .int .i64 d.le, .int .i64 d.ta, .int .i64 d.co, .int .i64 d.lf, .slice a1 d.ss.length c1, .string d.x, .int .i64 d.si] := by rw [hW4, hX]; exact (CF.made w3 #[.int .i64 d.nu, .int .i64 d.ep, .bool d.up, .int .i64 d.st, .int .i64 d.le, .int .i64 d.ta, .int .i64 d.co, .int .i64 d.lf, .slice a1 d.ss.length c1, .string d.x, .int .i64 d.si] 33).block (Below.heap_alloc _ _ _ (by simp))
    have Y4 : CF W4 (X + 1) [.int .i64 d.nu, .int .i64 d.ep, .bool d.up, .int .i64 d.st, .int .i64 d.le, .int .i64 d.ta, .int .i64 d.co, .int .i64 d.lf, .slice a1 d.ss.length c1, .string d.x, .int .i64 d.si, .slice none 0 0] := by
      rw [hW4, hX]
      have := CF.made (w3.alloc (.cells #[.int .i64 d.nu, .int .i64 d.ep, .bool d.up, .int .i64 d.st, .int .i64 d.le, .int .i64 d.ta, .int .i64 d.co, .int .i64 d.lf, .slice a1 d.ss.length c1, .string d.x, .int .i64 d.si] 33)) #[.int .i64 d.nu, .int .i64 d.ep, .bool d.up, .int .i64 d.st, .int .i64 d.le, .int .i64 d.ta, .int .i64 d.co, .int .i64 d.lf, .slice a1 d.ss.length c1, .string d.x, .int .i64 d.si, .slice none 0 0] 36
      rw [World.size_alloc] at this
      exact this
    have x4 : w.heap.size + 4 ≤ X ∧ X + 1 < W4.heap.size := ⟨by rw [hX]; exact S3.z, by rw [hW4, hX]; simp⟩
    rw [← hW4] at S4 q4
    have HW4 := hid hW4
    have HX := hid hX
    clear hW4 hX S3 q3
    go_upto_region 5 with fail
    rw [← HW4.out, ← HX.out]
    clear HW4 HX
    have y2 : W4.cell? ⟨X, 2, none⟩ = some (.bool d.up) := (X4 2 (by simp)).1
    cases hup : d.up with
    | false =>
      rw [hup] at y2
      have HUP := hid hup
      clear hup
      go_upto_region 6 with fail
      clear y2
      have HNO := hid (show ¬ (hears d k f t e l dd x ms ∧ (gets d ts k l dd ms ∨ freed d k l)) from fun hh => by have := hh.1.1; rw [HUP.out] at this; cases this)
      have R1 : CF W4 (w.heap.size + 3) [.int .i64 0, .int .i64 0, .bool false, .int .i64 0, .int .i64 0, .int .i64 0, .int .i64 0, .int .i64 0, .slice none 0 0, .string ⟨#[]⟩, .int .i64 0, .slice none 0 0] := S4.c 3 (by simp)
      have b0 : W4.cell? ⟨X + 1, 0, none⟩ = some (.int .i64 d.nu) := (Y4 0 (by simp)).1
      have b1 : W4.cell? ⟨X + 1, 1, none⟩ = some (.int .i64 d.ep) := (Y4 1 (by simp)).1
      have b2 : W4.cell? ⟨X + 1, 2, none⟩ = some (.bool d.up) := (Y4 2 (by simp)).1
      have b3 : W4.cell? ⟨X + 1, 3, none⟩ = some (.int .i64 d.st) := (Y4 3 (by simp)).1
      have b4 : W4.cell? ⟨X + 1, 4, none⟩ = some (.int .i64 d.le) := (Y4 4 (by simp)).1
      have b5 : W4.cell? ⟨X + 1, 5, none⟩ = some (.int .i64 d.ta) := (Y4 5 (by simp)).1
      have b6 : W4.cell? ⟨X + 1, 6, none⟩ = some (.int .i64 d.co) := (Y4 6 (by simp)).1
      have b7 : W4.cell? ⟨X + 1, 7, none⟩ = some (.int .i64 d.lf) := (Y4 7 (by simp)).1
      have b8 : W4.cell? ⟨X + 1, 8, none⟩ = some (.slice a1 d.ss.length c1) := (Y4 8 (by simp)).1
      have b9 : W4.cell? ⟨X + 1, 9, none⟩ = some (.string d.x) := (Y4 9 (by simp)).1
      have b10 : W4.cell? ⟨X + 1, 10, none⟩ = some (.int .i64 d.si) := (Y4 10 (by simp)).1
      have b11 : W4.cell? ⟨X + 1, 11, none⟩ = some (.slice none 0 0) := (Y4 11 (by simp)).1
      go_wp2_with (refine wpList_store_cf rfl 36 (.tmp 6) (.tmp 38) rfl (w.heap.size + 3) [.int .i64 0, .int .i64 0, .bool false, .int .i64 0, .int .i64 0, .int .i64 0, .int .i64 0, .int .i64 0, .slice none 0 0, .string ⟨#[]⟩, .int .i64 0, .slice none 0 0] [.int .i64 d.nu, .int .i64 d.ep, .bool d.up, .int .i64 d.st, .int .i64 d.le, .int .i64 d.ta, .int .i64 d.co, .int .i64 d.lf, .slice a1 d.ss.length c1, .string d.x, .int .i64 d.si, .slice none 0 0] rfl rfl R1 rfl Tryd.sizeAc (one12 _ _ _ _ _ _ _ _ _ _ _ _ _ _ _ _) ?_; intro w10 hc10 hg10)
      clear b0 b1 b2 b3 b4 b5 b6 b7 b8 b9 b10 b11
      have k0 : w10.cell? ⟨w.heap.size + 3, 0, none⟩ = some (.int .i64 d.nu) := (hc10 0 (by simp)).1
      have k1 : w10.cell? ⟨w.heap.size + 3, 1, none⟩ = some (.int .i64 d.ep) := (hc10 1 (by simp)).1
      have k2 : w10.cell? ⟨w.heap.size + 3, 2, none⟩ = some (.bool d.up) := (hc10 2 (by simp)).1
      have k3 : w10.cell? ⟨w.heap.size + 3, 3, none⟩ = some (.int .i64 d.st) := (hc10 3 (by simp)).1
      have k4 : w10.cell? ⟨w.heap.size + 3, 4, none⟩ = some (.int .i64 d.le) := (hc10 4 (by simp)).1
      have k5 : w10.cell? ⟨w.heap.size + 3, 5, none⟩ = some (.int .i64 d.ta) := (hc10 5 (by simp)).1
      have k6 : w10.cell? ⟨w.heap.size + 3, 6, none⟩ = some (.int .i64 d.co) := (hc10 6 (by simp)).1
      have k7 : w10.cell? ⟨w.heap.size + 3, 7, none⟩ = some (.int .i64 d.lf) := (hc10 7 (by simp)).1
      have k8 : w10.cell? ⟨w.heap.size + 3, 8, none⟩ = some (.slice a1 d.ss.length c1) := (hc10 8 (by simp)).1
      have k9 : w10.cell? ⟨w.heap.size + 3, 9, none⟩ = some (.string d.x) := (hc10 9 (by simp)).1
      have k10 : w10.cell? ⟨w.heap.size + 3, 10, none⟩ = some (.int .i64 d.si) := (hc10 10 (by simp)).1
      have k11 : w10.cell? ⟨w.heap.size + 3, 11, none⟩ = some (.slice none 0 0) := (hc10 11 (by simp)).1
      exact bodyPost_ret (v := .agg #[.int .i64 d.nu, .int .i64 d.ep, .bool d.up, .int .i64 d.st, .int .i64 d.le, .int .i64 d.ta, .int .i64 d.co, .int .i64 d.lf, .slice a1 d.ss.length c1, .string d.x, .int .i64 d.si, .slice none 0 0]) (by simp [results, Tryd.results7, go_sem, k0, k1, k2, k3, k4, k5, k6, k7, k8, k9, k10, k11]) rfl ⟨RetT.mk d a1 c1 ((q4.grown hg10 (.inr (by intro hh; have := q4.row_lo _ hh; simp at this <;> omega))).mono' (by simp <;> omega)) (.inl ⟨HOK.out, HC.out, .inr (.inr ⟨HNO.out, rfl⟩)⟩), below_grown S4.B hg10 (by have := S4.z; simp at this <;> omega) (fun q hq => by simp at hq; omega)⟩
    | true =>
      rw [hup] at y2
      have HUP := hid hup
      clear hup
      have m0 : W4.cell? ⟨w.heap.size + 2, 0, none⟩ = some (.int .i64 k) := (S4.c 2 (by simp) 0 (by simp)).1
      have m1 : W4.cell? ⟨w.heap.size + 2, 1, none⟩ = some (.int .i64 f) := (S4.c 2 (by simp) 1 (by simp)).1
      have m2 : W4.cell? ⟨w.heap.size + 2, 2, none⟩ = some (.int .i64 t) := (S4.c 2 (by simp) 2 (by simp)).1
      have m3 : W4.cell? ⟨w.heap.size + 2, 3, none⟩ = some (.int .i64 e) := (S4.c 2 (by simp) 3 (by simp)).1
      have m4 : W4.cell? ⟨w.heap.size + 2, 4, none⟩ = some (.int .i64 l) := (S4.c 2 (by simp) 4 (by simp)).1
      have m5 : W4.cell? ⟨w.heap.size + 2, 5, none⟩ = some (.int .i64 dd) := (S4.c 2 (by simp) 5 (by simp)).1
      have m6 : W4.cell? ⟨w.heap.size + 2, 6, none⟩ = some (.string x) := (S4.c 2 (by simp) 6 (by simp)).1
      have m7 : W4.cell? ⟨w.heap.size + 2, 7, none⟩ = some (.slice ma ms.length mc) := (S4.c 2 (by simp) 7 (by simp)).1
      go_wp2_with fail
      refine (l2Ok_any k f t e l dd x ma mb mo ms.length mc ms _ (hm.below' S4.B)).mono ?_
      rintro e' w5 ⟨⟨r, rfl, hr⟩, hb5⟩
      have S5 := S4.below hb5
      have X5 := X4.block (hb5.block X (by omega))
      have Y5 := Y4.block (hb5.block (X + 1) (by omega))
      have x5 : w.heap.size + 4 ≤ X ∧ X + 1 < w5.heap.size := ⟨x4.1, Nat.lt_of_lt_of_le x4.2 hb5.size⟩
      have q5 := q4.below hb5 (Nat.le_refl _)
      clear m0 m1 m2 m3 m4 m5 m6 m7
      clear y2 hb5 S4 X4 Y4 x4 q4
      have HR := hid hr
      clear hr
      cases r with
      | false =>
        have HV := hid (show ¬ vM k f t e l dd x.size ms from fun hh => by have := HR.out.2 hh; cases this)
        go_upto_region 6 with fail
        have HNO := hid (show ¬ (hears d k f t e l dd x ms ∧ (gets d ts k l dd ms ∨ freed d k l)) from fun hh => HV.out hh.1.2.1)
        have R1 : CF w5 (w.heap.size + 3) [.int .i64 0, .int .i64 0, .bool false, .int .i64 0, .int .i64 0, .int .i64 0, .int .i64 0, .int .i64 0, .slice none 0 0, .string ⟨#[]⟩, .int .i64 0, .slice none 0 0] := S5.c 3 (by simp)
        have b0 : w5.cell? ⟨X + 1, 0, none⟩ = some (.int .i64 d.nu) := (Y5 0 (by simp)).1
        have b1 : w5.cell? ⟨X + 1, 1, none⟩ = some (.int .i64 d.ep) := (Y5 1 (by simp)).1
        have b2 : w5.cell? ⟨X + 1, 2, none⟩ = some (.bool d.up) := (Y5 2 (by simp)).1
        have b3 : w5.cell? ⟨X + 1, 3, none⟩ = some (.int .i64 d.st) := (Y5 3 (by simp)).1
        have b4 : w5.cell? ⟨X + 1, 4, none⟩ = some (.int .i64 d.le) := (Y5 4 (by simp)).1
        have b5 : w5.cell? ⟨X + 1, 5, none⟩ = some (.int .i64 d.ta) := (Y5 5 (by simp)).1
        have b6 : w5.cell? ⟨X + 1, 6, none⟩ = some (.int .i64 d.co) := (Y5 6 (by simp)).1
        have b7 : w5.cell? ⟨X + 1, 7, none⟩ = some (.int .i64 d.lf) := (Y5 7 (by simp)).1
        have b8 : w5.cell? ⟨X + 1, 8, none⟩ = some (.slice a1 d.ss.length c1) := (Y5 8 (by simp)).1
        have b9 : w5.cell? ⟨X + 1, 9, none⟩ = some (.string d.x) := (Y5 9 (by simp)).1
        have b10 : w5.cell? ⟨X + 1, 10, none⟩ = some (.int .i64 d.si) := (Y5 10 (by simp)).1
        have b11 : w5.cell? ⟨X + 1, 11, none⟩ = some (.slice none 0 0) := (Y5 11 (by simp)).1
        go_wp2_with (refine wpList_store_cf rfl 36 (.tmp 6) (.tmp 38) rfl (w.heap.size + 3) [.int .i64 0, .int .i64 0, .bool false, .int .i64 0, .int .i64 0, .int .i64 0, .int .i64 0, .int .i64 0, .slice none 0 0, .string ⟨#[]⟩, .int .i64 0, .slice none 0 0] [.int .i64 d.nu, .int .i64 d.ep, .bool d.up, .int .i64 d.st, .int .i64 d.le, .int .i64 d.ta, .int .i64 d.co, .int .i64 d.lf, .slice a1 d.ss.length c1, .string d.x, .int .i64 d.si, .slice none 0 0] rfl rfl R1 rfl Tryd.sizeAc (one12 _ _ _ _ _ _ _ _ _ _ _ _ _ _ _ _) ?_; intro w10 hc10 hg10)
        clear b0 b1 b2 b3 b4 b5 b6 b7 b8 b9 b10 b11
        have k0 : w10.cell? ⟨w.heap.size + 3, 0, none⟩ = some (.int .i64 d.nu) := (hc10 0 (by simp)).1
        have k1 : w10.cell? ⟨w.heap.size + 3, 1, none⟩ = some (.int .i64 d.ep) := (hc10 1 (by simp)).1
        have k2 : w10.cell? ⟨w.heap.size + 3, 2, none⟩ = some (.bool d.up) := (hc10 2 (by simp)).1
        have k3 : w10.cell? ⟨w.heap.size + 3, 3, none⟩ = some (.int .i64 d.st) := (hc10 3 (by simp)).1
        have k4 : w10.cell? ⟨w.heap.size + 3, 4, none⟩ = some (.int .i64 d.le) := (hc10 4 (by simp)).1
        have k5 : w10.cell? ⟨w.heap.size + 3, 5, none⟩ = some (.int .i64 d.ta) := (hc10 5 (by simp)).1
        have k6 : w10.cell? ⟨w.heap.size + 3, 6, none⟩ = some (.int .i64 d.co) := (hc10 6 (by simp)).1
        have k7 : w10.cell? ⟨w.heap.size + 3, 7, none⟩ = some (.int .i64 d.lf) := (hc10 7 (by simp)).1
        have k8 : w10.cell? ⟨w.heap.size + 3, 8, none⟩ = some (.slice a1 d.ss.length c1) := (hc10 8 (by simp)).1
        have k9 : w10.cell? ⟨w.heap.size + 3, 9, none⟩ = some (.string d.x) := (hc10 9 (by simp)).1
        have k10 : w10.cell? ⟨w.heap.size + 3, 10, none⟩ = some (.int .i64 d.si) := (hc10 10 (by simp)).1
        have k11 : w10.cell? ⟨w.heap.size + 3, 11, none⟩ = some (.slice none 0 0) := (hc10 11 (by simp)).1
        exact bodyPost_ret (v := .agg #[.int .i64 d.nu, .int .i64 d.ep, .bool d.up, .int .i64 d.st, .int .i64 d.le, .int .i64 d.ta, .int .i64 d.co, .int .i64 d.lf, .slice a1 d.ss.length c1, .string d.x, .int .i64 d.si, .slice none 0 0]) (by simp [results, Tryd.results7, go_sem, k0, k1, k2, k3, k4, k5, k6, k7, k8, k9, k10, k11]) rfl ⟨RetT.mk d a1 c1 ((q5.grown hg10 (.inr (by intro hh; have := q5.row_lo _ hh; simp at this <;> omega))).mono' (by simp <;> omega)) (.inl ⟨HOK.out, HC.out, .inr (.inr ⟨HNO.out, rfl⟩)⟩), below_grown S5.B hg10 (by have := S5.z; simp at this <;> omega) (fun q hq => by simp at hq; omega)⟩
      | true =>
        have HV := hid (show vM k f t e l dd x.size ms from HR.out.1 rfl)
        clear HR
        have m2 : w5.cell? ⟨w.heap.size + 2, 2, none⟩ = some (.int .i64 t) := (S5.c 2 (by simp) 2 (by simp)).1
        have b0 : w5.cell? ⟨X, 0, none⟩ = some (.int .i64 d.nu) := (X5 0 (by simp)).1
        by_cases ct : t = d.nu
        case neg =>
          have ctb : (t == d.nu) = false := beq_eq_false_iff_ne.2 ct
          have HT := hid ct
          go_upto_region 6 with fail
          clear m2 b0
          have HNO := hid (show ¬ (hears d k f t e l dd x ms ∧ (gets d ts k l dd ms ∨ freed d k l)) from fun hh => HT.out hh.1.2.2)
          have R1 : CF w5 (w.heap.size + 3) [.int .i64 0, .int .i64 0, .bool false, .int .i64 0, .int .i64 0, .int .i64 0, .int .i64 0, .int .i64 0, .slice none 0 0, .string ⟨#[]⟩, .int .i64 0, .slice none 0 0] := S5.c 3 (by simp)
          have b0 : w5.cell? ⟨X + 1, 0, none⟩ = some (.int .i64 d.nu) := (Y5 0 (by simp)).1
          have b1 : w5.cell? ⟨X + 1, 1, none⟩ = some (.int .i64 d.ep) := (Y5 1 (by simp)).1
          have b2 : w5.cell? ⟨X + 1, 2, none⟩ = some (.bool d.up) := (Y5 2 (by simp)).1
          have b3 : w5.cell? ⟨X + 1, 3, none⟩ = some (.int .i64 d.st) := (Y5 3 (by simp)).1
          have b4 : w5.cell? ⟨X + 1, 4, none⟩ = some (.int .i64 d.le) := (Y5 4 (by simp)).1
          have b5 : w5.cell? ⟨X + 1, 5, none⟩ = some (.int .i64 d.ta) := (Y5 5 (by simp)).1
          have b6 : w5.cell? ⟨X + 1, 6, none⟩ = some (.int .i64 d.co) := (Y5 6 (by simp)).1
          have b7 : w5.cell? ⟨X + 1, 7, none⟩ = some (.int .i64 d.lf) := (Y5 7 (by simp)).1
          have b8 : w5.cell? ⟨X + 1, 8, none⟩ = some (.slice a1 d.ss.length c1) := (Y5 8 (by simp)).1
          have b9 : w5.cell? ⟨X + 1, 9, none⟩ = some (.string d.x) := (Y5 9 (by simp)).1
          have b10 : w5.cell? ⟨X + 1, 10, none⟩ = some (.int .i64 d.si) := (Y5 10 (by simp)).1
          have b11 : w5.cell? ⟨X + 1, 11, none⟩ = some (.slice none 0 0) := (Y5 11 (by simp)).1
          go_wp2_with (refine wpList_store_cf rfl 36 (.tmp 6) (.tmp 38) rfl (w.heap.size + 3) [.int .i64 0, .int .i64 0, .bool false, .int .i64 0, .int .i64 0, .int .i64 0, .int .i64 0, .int .i64 0, .slice none 0 0, .string ⟨#[]⟩, .int .i64 0, .slice none 0 0] [.int .i64 d.nu, .int .i64 d.ep, .bool d.up, .int .i64 d.st, .int .i64 d.le, .int .i64 d.ta, .int .i64 d.co, .int .i64 d.lf, .slice a1 d.ss.length c1, .string d.x, .int .i64 d.si, .slice none 0 0] rfl rfl R1 rfl Tryd.sizeAc (one12 _ _ _ _ _ _ _ _ _ _ _ _ _ _ _ _) ?_; intro w10 hc10 hg10)
          clear b0 b1 b2 b3 b4 b5 b6 b7 b8 b9 b10 b11
          have k0 : w10.cell? ⟨w.heap.size + 3, 0, none⟩ = some (.int .i64 d.nu) := (hc10 0 (by simp)).1
          have k1 : w10.cell? ⟨w.heap.size + 3, 1, none⟩ = some (.int .i64 d.ep) := (hc10 1 (by simp)).1
          have k2 : w10.cell? ⟨w.heap.size + 3, 2, none⟩ = some (.bool d.up) := (hc10 2 (by simp)).1
          have k3 : w10.cell? ⟨w.heap.size + 3, 3, none⟩ = some (.int .i64 d.st) := (hc10 3 (by simp)).1
          have k4 : w10.cell? ⟨w.heap.size + 3, 4, none⟩ = some (.int .i64 d.le) := (hc10 4 (by simp)).1
          have k5 : w10.cell? ⟨w.heap.size + 3, 5, none⟩ = some (.int .i64 d.ta) := (hc10 5 (by simp)).1
          have k6 : w10.cell? ⟨w.heap.size + 3, 6, none⟩ = some (.int .i64 d.co) := (hc10 6 (by simp)).1
          have k7 : w10.cell? ⟨w.heap.size + 3, 7, none⟩ = some (.int .i64 d.lf) := (hc10 7 (by simp)).1
          have k8 : w10.cell? ⟨w.heap.size + 3, 8, none⟩ = some (.slice a1 d.ss.length c1) := (hc10 8 (by simp)).1
          have k9 : w10.cell? ⟨w.heap.size + 3, 9, none⟩ = some (.string d.x) := (hc10 9 (by simp)).1
          have k10 : w10.cell? ⟨w.heap.size + 3, 10, none⟩ = some (.int .i64 d.si) := (hc10 10 (by simp)).1
          have k11 : w10.cell? ⟨w.heap.size + 3, 11, none⟩ = some (.slice none 0 0) := (hc10 11 (by simp)).1
          exact bodyPost_ret (v := .agg #[.int .i64 d.nu, .int .i64 d.ep, .bool d.up, .int .i64 d.st, .int .i64 d.le, .int .i64 d.ta, .int .i64 d.co, .int .i64 d.lf, .slice a1 d.ss.length c1, .string d.x, .int .i64 d.si, .slice none 0 0]) (by simp [results, Tryd.results7, go_sem, k0, k1, k2, k3, k4, k5, k6, k7, k8, k9, k10, k11]) rfl ⟨RetT.mk d a1 c1 ((q5.grown hg10 (.inr (by intro hh; have := q5.row_lo _ hh; simp at this <;> omega))).mono' (by simp <;> omega)) (.inl ⟨HOK.out, HC.out, .inr (.inr ⟨HNO.out, rfl⟩)⟩), below_grown S5.B hg10 (by have := S5.z; simp at this <;> omega) (fun q hq => by simp at hq; omega)⟩
        have HT := hid ct
        have ctb : (t == d.nu) = true := beq_iff_eq.2 ct
        clear ct
        have m0 : w5.cell? ⟨w.heap.size + 2, 0, none⟩ = some (.int .i64 k) := (S5.c 2 (by simp) 0 (by simp)).1
        have m4 : w5.cell? ⟨w.heap.size + 2, 4, none⟩ = some (.int .i64 l) := (S5.c 2 (by simp) 4 (by simp)).1
        have b3 : w5.cell? ⟨X, 3, none⟩ = some (.int .i64 d.st) := (X5 3 (by simp)).1
        have b4 : w5.cell? ⟨X, 4, none⟩ = some (.int .i64 d.le) := (X5 4 (by simp)).1
        go_upto_region 7 with fail
        clear ctb m2 b0
        by_cases c4 : k = 4
        · subst c4
          by_cases c2 : d.st = 2
          · have c2b : (d.st == 2) = true := beq_iff_eq.2 c2
            by_cases cl : d.le = l
            · have clb : (d.le == l) = true := beq_iff_eq.2 cl
              have HF := hid (show freed d 4 l from ⟨rfl, c2, cl⟩)
              clear c2 cl
              go_upto_region 8 with fail
              clear c2b clb m0 m4 b3 b4
              have b0 : w5.cell? ⟨X, 0, none⟩ = some (.int .i64 d.nu) := (X5 0 (by simp)).1
              have b1 : w5.cell? ⟨X, 1, none⟩ = some (.int .i64 d.ep) := (X5 1 (by simp)).1
              have b2 : w5.cell? ⟨X, 2, none⟩ = some (.bool d.up) := (X5 2 (by simp)).1
              have b3 : w5.cell? ⟨X, 3, none⟩ = some (.int .i64 d.st) := (X5 3 (by simp)).1
              have b4 : w5.cell? ⟨X, 4, none⟩ = some (.int .i64 d.le) := (X5 4 (by simp)).1
              have b5 : w5.cell? ⟨X, 5, none⟩ = some (.int .i64 d.ta) := (X5 5 (by simp)).1
              have b6 : w5.cell? ⟨X, 6, none⟩ = some (.int .i64 d.co) := (X5 6 (by simp)).1
              have b7 : w5.cell? ⟨X, 7, none⟩ = some (.int .i64 d.lf) := (X5 7 (by simp)).1
              have b8 : w5.cell? ⟨X, 8, none⟩ = some (.slice a1 d.ss.length c1) := (X5 8 (by simp)).1
              have b9 : w5.cell? ⟨X, 9, none⟩ = some (.string d.x) := (X5 9 (by simp)).1
              have b10 : w5.cell? ⟨X, 10, none⟩ = some (.int .i64 d.si) := (X5 10 (by simp)).1
              go_wp2_with fail
              refine (l3Free_any _ _ _ _ _ _ _ _ _ _ _ _ _ 3 _).mono ?_
              rintro e' w6 ⟨rfl, hb6⟩
              have S6 := S5.below hb6
              have R1 : CF w6 (w.heap.size + 3) [.int .i64 0, .int .i64 0, .bool false, .int .i64 0, .int .i64 0, .int .i64 0, .int .i64 0, .int .i64 0, .slice none 0 0, .string ⟨#[]⟩, .int .i64 0, .slice none 0 0] := S6.c 3 (by simp)
              clear b0 b1 b2 b3 b4 b5 b6 b7 b8 b9 b10
              go_wp2_with (refine wpList_store_cf rfl 36 (.tmp 6) (.tmp 56) rfl (w.heap.size + 3) [.int .i64 0, .int .i64 0, .bool false, .int .i64 0, .int .i64 0, .int .i64 0, .int .i64 0, .int .i64 0, .slice none 0 0, .string ⟨#[]⟩, .int .i64 0, .slice none 0 0] [.int .i64 d.nu, .int .i64 d.ep, .bool d.up, .int .i64 0, .int .i64 0, .int .i64 0, .int .i64 0, .int .i64 0, .slice none 0 0, .string ⟨#[]⟩, .int .i64 3, .slice none 0 0] rfl rfl R1 rfl Tryd.sizeAc (one12 _ _ _ _ _ _ _ _ _ _ _ _ _ _ _ _) ?_; intro w10 hc10 hg10)
              have k0 : w10.cell? ⟨w.heap.size + 3, 0, none⟩ = some (.int .i64 d.nu) := (hc10 0 (by simp)).1
              have k1 : w10.cell? ⟨w.heap.size + 3, 1, none⟩ = some (.int .i64 d.ep) := (hc10 1 (by simp)).1
              have k2 : w10.cell? ⟨w.heap.size + 3, 2, none⟩ = some (.bool d.up) := (hc10 2 (by simp)).1
              have k3 : w10.cell? ⟨w.heap.size + 3, 3, none⟩ = some (.int .i64 0) := (hc10 3 (by simp)).1
              have k4 : w10.cell? ⟨w.heap.size + 3, 4, none⟩ = some (.int .i64 0) := (hc10 4 (by simp)).1
              have k5 : w10.cell? ⟨w.heap.size + 3, 5, none⟩ = some (.int .i64 0) := (hc10 5 (by simp)).1
              have k6 : w10.cell? ⟨w.heap.size + 3, 6, none⟩ = some (.int .i64 0) := (hc10 6 (by simp)).1
              have k7 : w10.cell? ⟨w.heap.size + 3, 7, none⟩ = some (.int .i64 0) := (hc10 7 (by simp)).1
              have k8 : w10.cell? ⟨w.heap.size + 3, 8, none⟩ = some (.slice none 0 0) := (hc10 8 (by simp)).1
              have k9 : w10.cell? ⟨w.heap.size + 3, 9, none⟩ = some (.string ⟨#[]⟩) := (hc10 9 (by simp)).1
              have k10 : w10.cell? ⟨w.heap.size + 3, 10, none⟩ = some (.int .i64 3) := (hc10 10 (by simp)).1
              have k11 : w10.cell? ⟨w.heap.size + 3, 11, none⟩ = some (.slice none 0 0) := (hc10 11 (by simp)).1
              exact bodyPost_ret (v := .agg #[.int .i64 d.nu, .int .i64 d.ep, .bool d.up, .int .i64 0, .int .i64 0, .int .i64 0, .int .i64 0, .int .i64 0, .slice none 0 0, .string ⟨#[]⟩, .int .i64 3, .slice none 0 0]) (by simp [results, Tryd.results7, go_sem, k0, k1, k2, k3, k4, k5, k6, k7, k8, k9, k10, k11]) rfl ⟨RetT.mk (freeD d) none 0 (Own.nil _ _ _) (.inl ⟨HOK.out, HC.out, .inr (.inl ⟨⟨HUP.out, HV.out, HT.out⟩, HF.out, rfl⟩)⟩), below_grown S6.B hg10 (by have := S6.z; simp at this <;> omega) (fun q hq => by simp at hq; omega)⟩
            · have clb : (d.le == l) = false := beq_eq_false_iff_ne.2 cl
              have HNF := hid (show ¬ freed d 4 l from fun hh => cl hh.2.2)
              clear c2 cl
              go_upto_region 9 with fail
              go_quiet (fail)
              go_upto_region 10 with fail
              obtain ⟨w6, hw6⟩ : ∃ V, V = w5.drewN nq := ⟨_, rfl⟩
              have hbq : Below w5.heap.size w5 w6 := by rw [hw6]; exact below_drewN (Below.refl _ _) _
              have S6 := S5.below hbq
              have X6 := X5.block (hbq.block X (by omega))
              have Y6 := Y5.block (hbq.block (X + 1) (by omega))
              have x6 : w.heap.size + 4 ≤ X ∧ X + 1 < w6.heap.size := ⟨x5.1, Nat.lt_of_lt_of_le x5.2 hbq.size⟩
              have q6 := q5.below hbq (Nat.le_refl _)
              rw [← hw6]
              clear hw6 hbq S5 X5 Y5 x5 q5
              clear c2b clb m0 m4 b3 b4
              have HNO := hid (show ¬ (hears d 4 f t e l dd x ms ∧ (gets d ts 4 l dd ms ∨ freed d 4 l)) from fun hh => hh.2.elim (fun g => by have := g.1; omega) HNF.out)
              have R1 : CF w6 (w.heap.size + 3) [.int .i64 0, .int .i64 0, .bool false, .int .i64 0, .int .i64 0, .int .i64 0, .int .i64 0, .int .i64 0, .slice none 0 0, .string ⟨#[]⟩, .int .i64 0, .slice none 0 0] := S6.c 3 (by simp)
              have b0 : w6.cell? ⟨X + 1, 0, none⟩ = some (.int .i64 d.nu) := (Y6 0 (by simp)).1
              have b1 : w6.cell? ⟨X + 1, 1, none⟩ = some (.int .i64 d.ep) := (Y6 1 (by simp)).1
              have b2 : w6.cell? ⟨X + 1, 2, none⟩ = some (.bool d.up) := (Y6 2 (by simp)).1
              have b3 : w6.cell? ⟨X + 1, 3, none⟩ = some (.int .i64 d.st) := (Y6 3 (by simp)).1
              have b4 : w6.cell? ⟨X + 1, 4, none⟩ = some (.int .i64 d.le) := (Y6 4 (by simp)).1
              have b5 : w6.cell? ⟨X + 1, 5, none⟩ = some (.int .i64 d.ta) := (Y6 5 (by simp)).1
              have b6 : w6.cell? ⟨X + 1, 6, none⟩ = some (.int .i64 d.co) := (Y6 6 (by simp)).1
              have b7 : w6.cell? ⟨X + 1, 7, none⟩ = some (.int .i64 d.lf) := (Y6 7 (by simp)).1
              have b8 : w6.cell? ⟨X + 1, 8, none⟩ = some (.slice a1 d.ss.length c1) := (Y6 8 (by simp)).1
              have b9 : w6.cell? ⟨X + 1, 9, none⟩ = some (.string d.x) := (Y6 9 (by simp)).1
              have b10 : w6.cell? ⟨X + 1, 10, none⟩ = some (.int .i64 d.si) := (Y6 10 (by simp)).1
              have b11 : w6.cell? ⟨X + 1, 11, none⟩ = some (.slice none 0 0) := (Y6 11 (by simp)).1
              go_wp2_with (refine wpList_store_cf rfl 36 (.tmp 6) (.tmp 82) rfl (w.heap.size + 3) [.int .i64 0, .int .i64 0, .bool false, .int .i64 0, .int .i64 0, .int .i64 0, .int .i64 0, .int .i64 0, .slice none 0 0, .string ⟨#[]⟩, .int .i64 0, .slice none 0 0] [.int .i64 d.nu, .int .i64 d.ep, .bool d.up, .int .i64 d.st, .int .i64 d.le, .int .i64 d.ta, .int .i64 d.co, .int .i64 d.lf, .slice a1 d.ss.length c1, .string d.x, .int .i64 d.si, .slice none 0 0] rfl rfl R1 rfl Tryd.sizeAc (one12 _ _ _ _ _ _ _ _ _ _ _ _ _ _ _ _) ?_; intro w10 hc10 hg10)
              clear b0 b1 b2 b3 b4 b5 b6 b7 b8 b9 b10 b11
              have k0 : w10.cell? ⟨w.heap.size + 3, 0, none⟩ = some (.int .i64 d.nu) := (hc10 0 (by simp)).1
              have k1 : w10.cell? ⟨w.heap.size + 3, 1, none⟩ = some (.int .i64 d.ep) := (hc10 1 (by simp)).1
              have k2 : w10.cell? ⟨w.heap.size + 3, 2, none⟩ = some (.bool d.up) := (hc10 2 (by simp)).1
              have k3 : w10.cell? ⟨w.heap.size + 3, 3, none⟩ = some (.int .i64 d.st) := (hc10 3 (by simp)).1
              have k4 : w10.cell? ⟨w.heap.size + 3, 4, none⟩ = some (.int .i64 d.le) := (hc10 4 (by simp)).1
              have k5 : w10.cell? ⟨w.heap.size + 3, 5, none⟩ = some (.int .i64 d.ta) := (hc10 5 (by simp)).1
              have k6 : w10.cell? ⟨w.heap.size + 3, 6, none⟩ = some (.int .i64 d.co) := (hc10 6 (by simp)).1
              have k7 : w10.cell? ⟨w.heap.size + 3, 7, none⟩ = some (.int .i64 d.lf) := (hc10 7 (by simp)).1
              have k8 : w10.cell? ⟨w.heap.size + 3, 8, none⟩ = some (.slice a1 d.ss.length c1) := (hc10 8 (by simp)).1
              have k9 : w10.cell? ⟨w.heap.size + 3, 9, none⟩ = some (.string d.x) := (hc10 9 (by simp)).1
              have k10 : w10.cell? ⟨w.heap.size + 3, 10, none⟩ = some (.int .i64 d.si) := (hc10 10 (by simp)).1
              have k11 : w10.cell? ⟨w.heap.size + 3, 11, none⟩ = some (.slice none 0 0) := (hc10 11 (by simp)).1
              exact bodyPost_ret (v := .agg #[.int .i64 d.nu, .int .i64 d.ep, .bool d.up, .int .i64 d.st, .int .i64 d.le, .int .i64 d.ta, .int .i64 d.co, .int .i64 d.lf, .slice a1 d.ss.length c1, .string d.x, .int .i64 d.si, .slice none 0 0]) (by simp [results, Tryd.results7, go_sem, k0, k1, k2, k3, k4, k5, k6, k7, k8, k9, k10, k11]) rfl ⟨RetT.mk d a1 c1 ((q6.grown hg10 (.inr (by intro hh; have := q6.row_lo _ hh; simp at this <;> omega))).mono' (by simp <;> omega)) (.inl ⟨HOK.out, HC.out, .inr (.inr ⟨HNO.out, rfl⟩)⟩), below_grown S6.B hg10 (by have := S6.z; simp at this <;> omega) (fun q hq => by simp at hq; omega)⟩
          · have c2b : (d.st == 2) = false := beq_eq_false_iff_ne.2 c2
            have HNF := hid (show ¬ freed d 4 l from fun hh => c2 hh.2.1)
            clear c2
            go_upto_region 9 with fail
            go_quiet (fail)
            go_upto_region 10 with fail
            obtain ⟨w6, hw6⟩ : ∃ V, V = w5.drewN nq := ⟨_, rfl⟩
            have hbq : Below w5.heap.size w5 w6 := by rw [hw6]; exact below_drewN (Below.refl _ _) _
            have S6 := S5.below hbq
            have X6 := X5.block (hbq.block X (by omega))
            have Y6 := Y5.block (hbq.block (X + 1) (by omega))
            have x6 : w.heap.size + 4 ≤ X ∧ X + 1 < w6.heap.size := ⟨x5.1, Nat.lt_of_lt_of_le x5.2 hbq.size⟩
            have q6 := q5.below hbq (Nat.le_refl _)
            rw [← hw6]
            clear hw6 hbq S5 X5 Y5 x5 q5
            clear c2b m0 m4 b3 b4
            have HNO := hid (show ¬ (hears d 4 f t e l dd x ms ∧ (gets d ts 4 l dd ms ∨ freed d 4 l)) from fun hh => hh.2.elim (fun g => by have := g.1; omega) HNF.out)
            have R1 : CF w6 (w.heap.size + 3) [.int .i64 0, .int .i64 0, .bool false, .int .i64 0, .int .i64 0, .int .i64 0, .int .i64 0, .int .i64 0, .slice none 0 0, .string ⟨#[]⟩, .int .i64 0, .slice none 0 0] := S6.c 3 (by simp)
            have b0 : w6.cell? ⟨X + 1, 0, none⟩ = some (.int .i64 d.nu) := (Y6 0 (by simp)).1
            have b1 : w6.cell? ⟨X + 1, 1, none⟩ = some (.int .i64 d.ep) := (Y6 1 (by simp)).1
            have b2 : w6.cell? ⟨X + 1, 2, none⟩ = some (.bool d.up) := (Y6 2 (by simp)).1
            have b3 : w6.cell? ⟨X + 1, 3, none⟩ = some (.int .i64 d.st) := (Y6 3 (by simp)).1
            have b4 : w6.cell? ⟨X + 1, 4, none⟩ = some (.int .i64 d.le) := (Y6 4 (by simp)).1
            have b5 : w6.cell? ⟨X + 1, 5, none⟩ = some (.int .i64 d.ta) := (Y6 5 (by simp)).1
            have b6 : w6.cell? ⟨X + 1, 6, none⟩ = some (.int .i64 d.co) := (Y6 6 (by simp)).1
            have b7 : w6.cell? ⟨X + 1, 7, none⟩ = some (.int .i64 d.lf) := (Y6 7 (by simp)).1
            have b8 : w6.cell? ⟨X + 1, 8, none⟩ = some (.slice a1 d.ss.length c1) := (Y6 8 (by simp)).1
            have b9 : w6.cell? ⟨X + 1, 9, none⟩ = some (.string d.x) := (Y6 9 (by simp)).1
            have b10 : w6.cell? ⟨X + 1, 10, none⟩ = some (.int .i64 d.si) := (Y6 10 (by simp)).1
            have b11 : w6.cell? ⟨X + 1, 11, none⟩ = some (.slice none 0 0) := (Y6 11 (by simp)).1
            go_wp2_with (refine wpList_store_cf rfl 36 (.tmp 6) (.tmp 82) rfl (w.heap.size + 3) [.int .i64 0, .int .i64 0, .bool false, .int .i64 0, .int .i64 0, .int .i64 0, .int .i64 0, .int .i64 0, .slice none 0 0, .string ⟨#[]⟩, .int .i64 0, .slice none 0 0] [.int .i64 d.nu, .int .i64 d.ep, .bool d.up, .int .i64 d.st, .int .i64 d.le, .int .i64 d.ta, .int .i64 d.co, .int .i64 d.lf, .slice a1 d.ss.length c1, .string d.x, .int .i64 d.si, .slice none 0 0] rfl rfl R1 rfl Tryd.sizeAc (one12 _ _ _ _ _ _ _ _ _ _ _ _ _ _ _ _) ?_; intro w10 hc10 hg10)
            clear b0 b1 b2 b3 b4 b5 b6 b7 b8 b9 b10 b11
            have k0 : w10.cell? ⟨w.heap.size + 3, 0, none⟩ = some (.int .i64 d.nu) := (hc10 0 (by simp)).1
            have k1 : w10.cell? ⟨w.heap.size + 3, 1, none⟩ = some (.int .i64 d.ep) := (hc10 1 (by simp)).1
            have k2 : w10.cell? ⟨w.heap.size + 3, 2, none⟩ = some (.bool d.up) := (hc10 2 (by simp)).1
            have k3 : w10.cell? ⟨w.heap.size + 3, 3, none⟩ = some (.int .i64 d.st) := (hc10 3 (by simp)).1
            have k4 : w10.cell? ⟨w.heap.size + 3, 4, none⟩ = some (.int .i64 d.le) := (hc10 4 (by simp)).1
            have k5 : w10.cell? ⟨w.heap.size + 3, 5, none⟩ = some (.int .i64 d.ta) := (hc10 5 (by simp)).1
            have k6 : w10.cell? ⟨w.heap.size + 3, 6, none⟩ = some (.int .i64 d.co) := (hc10 6 (by simp)).1
            have k7 : w10.cell? ⟨w.heap.size + 3, 7, none⟩ = some (.int .i64 d.lf) := (hc10 7 (by simp)).1
            have k8 : w10.cell? ⟨w.heap.size + 3, 8, none⟩ = some (.slice a1 d.ss.length c1) := (hc10 8 (by simp)).1
            have k9 : w10.cell? ⟨w.heap.size + 3, 9, none⟩ = some (.string d.x) := (hc10 9 (by simp)).1
            have k10 : w10.cell? ⟨w.heap.size + 3, 10, none⟩ = some (.int .i64 d.si) := (hc10 10 (by simp)).1
            have k11 : w10.cell? ⟨w.heap.size + 3, 11, none⟩ = some (.slice none 0 0) := (hc10 11 (by simp)).1
            exact bodyPost_ret (v := .agg #[.int .i64 d.nu, .int .i64 d.ep, .bool d.up, .int .i64 d.st, .int .i64 d.le, .int .i64 d.ta, .int .i64 d.co, .int .i64 d.lf, .slice a1 d.ss.length c1, .string d.x, .int .i64 d.si, .slice none 0 0]) (by simp [results, Tryd.results7, go_sem, k0, k1, k2, k3, k4, k5, k6, k7, k8, k9, k10, k11]) rfl ⟨RetT.mk d a1 c1 ((q6.grown hg10 (.inr (by intro hh; have := q6.row_lo _ hh; simp at this <;> omega))).mono' (by simp <;> omega)) (.inl ⟨HOK.out, HC.out, .inr (.inr ⟨HNO.out, rfl⟩)⟩), below_grown S6.B hg10 (by have := S6.z; simp at this <;> omega) (fun q hq => by simp at hq; omega)⟩
        have c4b : (k == 4) = false := beq_eq_false_iff_ne.2 c4
        have HNF := hid (show ¬ freed d k l from fun hh => c4 hh.1)
        clear c4
        by_cases c1' : k = 1
        case neg =>
          have c1b : (k == 1) = false := beq_eq_false_iff_ne.2 c1'
          have c1c : (k != 1) = true := by simp [c1']
          have HK := hid (show ¬ gets d ts k l dd ms from fun g => c1' g.1)
          go_upto_region 9 with fail
          go_quiet (fail)
          go_upto_region 10 with fail
          obtain ⟨w6, hw6⟩ : ∃ V, V = w5.drewN nq := ⟨_, rfl⟩
          have hbq : Below w5.heap.size w5 w6 := by rw [hw6]; exact below_drewN (Below.refl _ _) _
          have S6 := S5.below hbq
          have X6 := X5.block (hbq.block X (by omega))
          have Y6 := Y5.block (hbq.block (X + 1) (by omega))
          have x6 : w.heap.size + 4 ≤ X ∧ X + 1 < w6.heap.size := ⟨x5.1, Nat.lt_of_lt_of_le x5.2 hbq.size⟩
          have q6 := q5.below hbq (Nat.le_refl _)
          rw [← hw6]
          clear hw6 hbq S5 X5 Y5 x5 q5
          clear c1b c1c c1' c4b m0 m4 b3 b4
          have HNO := hid (show ¬ (hears d k f t e l dd x ms ∧ (gets d ts k l dd ms ∨ freed d k l)) from fun hh => hh.2.elim HK.out HNF.out)
          have R1 : CF w6 (w.heap.size + 3) [.int .i64 0, .int .i64 0, .bool false, .int .i64 0, .int .i64 0, .int .i64 0, .int .i64 0, .int .i64 0, .slice none 0 0, .string ⟨#[]⟩, .int .i64 0, .slice none 0 0] := S6.c 3 (by simp)
          have b0 : w6.cell? ⟨X + 1, 0, none⟩ = some (.int .i64 d.nu) := (Y6 0 (by simp)).1
          have b1 : w6.cell? ⟨X + 1, 1, none⟩ = some (.int .i64 d.ep) := (Y6 1 (by simp)).1
          have b2 : w6.cell? ⟨X + 1, 2, none⟩ = some (.bool d.up) := (Y6 2 (by simp)).1
          have b3 : w6.cell? ⟨X + 1, 3, none⟩ = some (.int .i64 d.st) := (Y6 3 (by simp)).1
          have b4 : w6.cell? ⟨X + 1, 4, none⟩ = some (.int .i64 d.le) := (Y6 4 (by simp)).1
          have b5 : w6.cell? ⟨X + 1, 5, none⟩ = some (.int .i64 d.ta) := (Y6 5 (by simp)).1
          have b6 : w6.cell? ⟨X + 1, 6, none⟩ = some (.int .i64 d.co) := (Y6 6 (by simp)).1
          have b7 : w6.cell? ⟨X + 1, 7, none⟩ = some (.int .i64 d.lf) := (Y6 7 (by simp)).1
          have b8 : w6.cell? ⟨X + 1, 8, none⟩ = some (.slice a1 d.ss.length c1) := (Y6 8 (by simp)).1
          have b9 : w6.cell? ⟨X + 1, 9, none⟩ = some (.string d.x) := (Y6 9 (by simp)).1
          have b10 : w6.cell? ⟨X + 1, 10, none⟩ = some (.int .i64 d.si) := (Y6 10 (by simp)).1
          have b11 : w6.cell? ⟨X + 1, 11, none⟩ = some (.slice none 0 0) := (Y6 11 (by simp)).1
          go_wp2_with (refine wpList_store_cf rfl 36 (.tmp 6) (.tmp 82) rfl (w.heap.size + 3) [.int .i64 0, .int .i64 0, .bool false, .int .i64 0, .int .i64 0, .int .i64 0, .int .i64 0, .int .i64 0, .slice none 0 0, .string ⟨#[]⟩, .int .i64 0, .slice none 0 0] [.int .i64 d.nu, .int .i64 d.ep, .bool d.up, .int .i64 d.st, .int .i64 d.le, .int .i64 d.ta, .int .i64 d.co, .int .i64 d.lf, .slice a1 d.ss.length c1, .string d.x, .int .i64 d.si, .slice none 0 0] rfl rfl R1 rfl Tryd.sizeAc (one12 _ _ _ _ _ _ _ _ _ _ _ _ _ _ _ _) ?_; intro w10 hc10 hg10)
          clear b0 b1 b2 b3 b4 b5 b6 b7 b8 b9 b10 b11
          have k0 : w10.cell? ⟨w.heap.size + 3, 0, none⟩ = some (.int .i64 d.nu) := (hc10 0 (by simp)).1
          have k1 : w10.cell? ⟨w.heap.size + 3, 1, none⟩ = some (.int .i64 d.ep) := (hc10 1 (by simp)).1
          have k2 : w10.cell? ⟨w.heap.size + 3, 2, none⟩ = some (.bool d.up) := (hc10 2 (by simp)).1
          have k3 : w10.cell? ⟨w.heap.size + 3, 3, none⟩ = some (.int .i64 d.st) := (hc10 3 (by simp)).1
          have k4 : w10.cell? ⟨w.heap.size + 3, 4, none⟩ = some (.int .i64 d.le) := (hc10 4 (by simp)).1
          have k5 : w10.cell? ⟨w.heap.size + 3, 5, none⟩ = some (.int .i64 d.ta) := (hc10 5 (by simp)).1
          have k6 : w10.cell? ⟨w.heap.size + 3, 6, none⟩ = some (.int .i64 d.co) := (hc10 6 (by simp)).1
          have k7 : w10.cell? ⟨w.heap.size + 3, 7, none⟩ = some (.int .i64 d.lf) := (hc10 7 (by simp)).1
          have k8 : w10.cell? ⟨w.heap.size + 3, 8, none⟩ = some (.slice a1 d.ss.length c1) := (hc10 8 (by simp)).1
          have k9 : w10.cell? ⟨w.heap.size + 3, 9, none⟩ = some (.string d.x) := (hc10 9 (by simp)).1
          have k10 : w10.cell? ⟨w.heap.size + 3, 10, none⟩ = some (.int .i64 d.si) := (hc10 10 (by simp)).1
          have k11 : w10.cell? ⟨w.heap.size + 3, 11, none⟩ = some (.slice none 0 0) := (hc10 11 (by simp)).1
          exact bodyPost_ret (v := .agg #[.int .i64 d.nu, .int .i64 d.ep, .bool d.up, .int .i64 d.st, .int .i64 d.le, .int .i64 d.ta, .int .i64 d.co, .int .i64 d.lf, .slice a1 d.ss.length c1, .string d.x, .int .i64 d.si, .slice none 0 0]) (by simp [results, Tryd.results7, go_sem, k0, k1, k2, k3, k4, k5, k6, k7, k8, k9, k10, k11]) rfl ⟨RetT.mk d a1 c1 ((q6.grown hg10 (.inr (by intro hh; have := q6.row_lo _ hh; simp at this <;> omega))).mono' (by simp <;> omega)) (.inl ⟨HOK.out, HC.out, .inr (.inr ⟨HNO.out, rfl⟩)⟩), below_grown S6.B hg10 (by have := S6.z; simp at this <;> omega) (fun q hq => by simp at hq; omega)⟩
        subst c1'
        have hd := vM_in HV.out rfl
        have hd0 := hd.2.1
        have hd1 := hd.2.2.1
        have HIN := hid hd.2.2.2
        clear hd
        have m5 : w5.cell? ⟨w.heap.size + 2, 5, none⟩ = some (.int .i64 dd) := (S5.c 2 (by simp) 5 (by simp)).1
        have m7 : w5.cell? ⟨w.heap.size + 2, 7, none⟩ = some (.slice ma ms.length mc) := (S5.c 2 (by simp) 7 (by simp)).1
        have yp : w5.cell? ⟨w.heap.size + 1, 0, none⟩ = some (.slice pa pn pc) := (S5.c 1 (by simp) 0 (by simp)).1
        have HPL := hid hp.len
        by_cases cp : dd < (pn : Int)
        case neg =>
          have cpb : decide ((pn : Int) ≤ dd) = true := decide_eq_true (by omega)
          have cp' : (pn : Int) ≤ dd := by omega
          have HG := hid (show ¬ gets d ts 1 l dd ms from fun hh => cp (by have := hh.2.1; rw [HPL.out] at this; exact this))
          go_upto_region 9 with fail
          go_quiet (fail)
          go_upto_region 10 with fail
          obtain ⟨w6, hw6⟩ : ∃ V, V = w5.drewN nq := ⟨_, rfl⟩
          have hbq : Below w5.heap.size w5 w6 := by rw [hw6]; exact below_drewN (Below.refl _ _) _
          have S6 := S5.below hbq
          have X6 := X5.block (hbq.block X (by omega))
          have Y6 := Y5.block (hbq.block (X + 1) (by omega))
          have x6 : w.heap.size + 4 ≤ X ∧ X + 1 < w6.heap.size := ⟨x5.1, Nat.lt_of_lt_of_le x5.2 hbq.size⟩
          have q6 := q5.below hbq (Nat.le_refl _)
          rw [← hw6]
          clear hw6 hbq S5 X5 Y5 x5 q5
          clear c4b m0 m4 b3 b4 m5 m7 yp cpb cp'
          have HNO := hid (show ¬ (hears d 1 f t e l dd x ms ∧ (gets d ts 1 l dd ms ∨ freed d 1 l)) from fun hh => hh.2.elim HG.out HNF.out)
          have R1 : CF w6 (w.heap.size + 3) [.int .i64 0, .int .i64 0, .bool false, .int .i64 0, .int .i64 0, .int .i64 0, .int .i64 0, .int .i64 0, .slice none 0 0, .string ⟨#[]⟩, .int .i64 0, .slice none 0 0] := S6.c 3 (by simp)
          have b0 : w6.cell? ⟨X + 1, 0, none⟩ = some (.int .i64 d.nu) := (Y6 0 (by simp)).1
          have b1 : w6.cell? ⟨X + 1, 1, none⟩ = some (.int .i64 d.ep) := (Y6 1 (by simp)).1
          have b2 : w6.cell? ⟨X + 1, 2, none⟩ = some (.bool d.up) := (Y6 2 (by simp)).1
          have b3 : w6.cell? ⟨X + 1, 3, none⟩ = some (.int .i64 d.st) := (Y6 3 (by simp)).1
          have b4 : w6.cell? ⟨X + 1, 4, none⟩ = some (.int .i64 d.le) := (Y6 4 (by simp)).1
          have b5 : w6.cell? ⟨X + 1, 5, none⟩ = some (.int .i64 d.ta) := (Y6 5 (by simp)).1
          have b6 : w6.cell? ⟨X + 1, 6, none⟩ = some (.int .i64 d.co) := (Y6 6 (by simp)).1
          have b7 : w6.cell? ⟨X + 1, 7, none⟩ = some (.int .i64 d.lf) := (Y6 7 (by simp)).1
          have b8 : w6.cell? ⟨X + 1, 8, none⟩ = some (.slice a1 d.ss.length c1) := (Y6 8 (by simp)).1
          have b9 : w6.cell? ⟨X + 1, 9, none⟩ = some (.string d.x) := (Y6 9 (by simp)).1
          have b10 : w6.cell? ⟨X + 1, 10, none⟩ = some (.int .i64 d.si) := (Y6 10 (by simp)).1
          have b11 : w6.cell? ⟨X + 1, 11, none⟩ = some (.slice none 0 0) := (Y6 11 (by simp)).1
          go_wp2_with (refine wpList_store_cf rfl 36 (.tmp 6) (.tmp 82) rfl (w.heap.size + 3) [.int .i64 0, .int .i64 0, .bool false, .int .i64 0, .int .i64 0, .int .i64 0, .int .i64 0, .int .i64 0, .slice none 0 0, .string ⟨#[]⟩, .int .i64 0, .slice none 0 0] [.int .i64 d.nu, .int .i64 d.ep, .bool d.up, .int .i64 d.st, .int .i64 d.le, .int .i64 d.ta, .int .i64 d.co, .int .i64 d.lf, .slice a1 d.ss.length c1, .string d.x, .int .i64 d.si, .slice none 0 0] rfl rfl R1 rfl Tryd.sizeAc (one12 _ _ _ _ _ _ _ _ _ _ _ _ _ _ _ _) ?_; intro w10 hc10 hg10)
          clear b0 b1 b2 b3 b4 b5 b6 b7 b8 b9 b10 b11
          have k0 : w10.cell? ⟨w.heap.size + 3, 0, none⟩ = some (.int .i64 d.nu) := (hc10 0 (by simp)).1
          have k1 : w10.cell? ⟨w.heap.size + 3, 1, none⟩ = some (.int .i64 d.ep) := (hc10 1 (by simp)).1
          have k2 : w10.cell? ⟨w.heap.size + 3, 2, none⟩ = some (.bool d.up) := (hc10 2 (by simp)).1
          have k3 : w10.cell? ⟨w.heap.size + 3, 3, none⟩ = some (.int .i64 d.st) := (hc10 3 (by simp)).1
          have k4 : w10.cell? ⟨w.heap.size + 3, 4, none⟩ = some (.int .i64 d.le) := (hc10 4 (by simp)).1
          have k5 : w10.cell? ⟨w.heap.size + 3, 5, none⟩ = some (.int .i64 d.ta) := (hc10 5 (by simp)).1
          have k6 : w10.cell? ⟨w.heap.size + 3, 6, none⟩ = some (.int .i64 d.co) := (hc10 6 (by simp)).1
          have k7 : w10.cell? ⟨w.heap.size + 3, 7, none⟩ = some (.int .i64 d.lf) := (hc10 7 (by simp)).1
          have k8 : w10.cell? ⟨w.heap.size + 3, 8, none⟩ = some (.slice a1 d.ss.length c1) := (hc10 8 (by simp)).1
          have k9 : w10.cell? ⟨w.heap.size + 3, 9, none⟩ = some (.string d.x) := (hc10 9 (by simp)).1
          have k10 : w10.cell? ⟨w.heap.size + 3, 10, none⟩ = some (.int .i64 d.si) := (hc10 10 (by simp)).1
          have k11 : w10.cell? ⟨w.heap.size + 3, 11, none⟩ = some (.slice none 0 0) := (hc10 11 (by simp)).1
          exact bodyPost_ret (v := .agg #[.int .i64 d.nu, .int .i64 d.ep, .bool d.up, .int .i64 d.st, .int .i64 d.le, .int .i64 d.ta, .int .i64 d.co, .int .i64 d.lf, .slice a1 d.ss.length c1, .string d.x, .int .i64 d.si, .slice none 0 0]) (by simp [results, Tryd.results7, go_sem, k0, k1, k2, k3, k4, k5, k6, k7, k8, k9, k10, k11]) rfl ⟨RetT.mk d a1 c1 ((q6.grown hg10 (.inr (by intro hh; have := q6.row_lo _ hh; simp at this <;> omega))).mono' (by simp <;> omega)) (.inl ⟨HOK.out, HC.out, .inr (.inr ⟨HNO.out, rfl⟩)⟩), below_grown S6.B hg10 (by have := S6.z; simp at this <;> omega) (fun q hq => by simp at hq; omega)⟩
        obtain ⟨jj, a', n', c', hjd, hj, hpa, hc1, hc2, hn'⟩ := (hp.below' S5.B).task hd0 cp
        subst hpa
        subst hjd
        have HN' := hid hn'
        clear hn'
        have cpb : decide ((pn : Int) ≤ (jj : Int)) = false := decide_eq_false (by omega)
        have cp' : ¬ (pn : Int) ≤ (jj : Int) := by omega
        by_cases cn : ms.length = n'
        case neg =>
          have cnb : ((ms.length : Int) == (n' : Int)) = false := by simp; omega
          have cn' : ¬ ((ms.length : Int) = (n' : Int)) := by omega
          have HG := hid (show ¬ gets d ts 1 l jj ms from fun hh => cn (hh.2.2.1.trans HN'.out.symm))
          clear cn
          go_upto_region 9 with fail
          go_quiet (fail)
          go_upto_region 10 with fail
          obtain ⟨w6, hw6⟩ : ∃ V, V = w5.drewN nq := ⟨_, rfl⟩
          have hbq : Below w5.heap.size w5 w6 := by rw [hw6]; exact below_drewN (Below.refl _ _) _
          have S6 := S5.below hbq
          have X6 := X5.block (hbq.block X (by omega))
          have Y6 := Y5.block (hbq.block (X + 1) (by omega))
          have x6 : w.heap.size + 4 ≤ X ∧ X + 1 < w6.heap.size := ⟨x5.1, Nat.lt_of_lt_of_le x5.2 hbq.size⟩
          have q6 := q5.below hbq (Nat.le_refl _)
          rw [← hw6]
          clear hw6 hbq S5 X5 Y5 x5 q5
          clear c4b m0 m4 b3 b4 m5 m7 yp cpb cp' cnb cn' hc1 hc2
          have HNO := hid (show ¬ (hears d 1 f t e l jj x ms ∧ (gets d ts 1 l jj ms ∨ freed d 1 l)) from fun hh => hh.2.elim HG.out HNF.out)
          have R1 : CF w6 (w.heap.size + 3) [.int .i64 0, .int .i64 0, .bool false, .int .i64 0, .int .i64 0, .int .i64 0, .int .i64 0, .int .i64 0, .slice none 0 0, .string ⟨#[]⟩, .int .i64 0, .slice none 0 0] := S6.c 3 (by simp)
          have b0 : w6.cell? ⟨X + 1, 0, none⟩ = some (.int .i64 d.nu) := (Y6 0 (by simp)).1
          have b1 : w6.cell? ⟨X + 1, 1, none⟩ = some (.int .i64 d.ep) := (Y6 1 (by simp)).1
          have b2 : w6.cell? ⟨X + 1, 2, none⟩ = some (.bool d.up) := (Y6 2 (by simp)).1
          have b3 : w6.cell? ⟨X + 1, 3, none⟩ = some (.int .i64 d.st) := (Y6 3 (by simp)).1
          have b4 : w6.cell? ⟨X + 1, 4, none⟩ = some (.int .i64 d.le) := (Y6 4 (by simp)).1
          have b5 : w6.cell? ⟨X + 1, 5, none⟩ = some (.int .i64 d.ta) := (Y6 5 (by simp)).1
          have b6 : w6.cell? ⟨X + 1, 6, none⟩ = some (.int .i64 d.co) := (Y6 6 (by simp)).1
          have b7 : w6.cell? ⟨X + 1, 7, none⟩ = some (.int .i64 d.lf) := (Y6 7 (by simp)).1
          have b8 : w6.cell? ⟨X + 1, 8, none⟩ = some (.slice a1 d.ss.length c1) := (Y6 8 (by simp)).1
          have b9 : w6.cell? ⟨X + 1, 9, none⟩ = some (.string d.x) := (Y6 9 (by simp)).1
          have b10 : w6.cell? ⟨X + 1, 10, none⟩ = some (.int .i64 d.si) := (Y6 10 (by simp)).1
          have b11 : w6.cell? ⟨X + 1, 11, none⟩ = some (.slice none 0 0) := (Y6 11 (by simp)).1
          go_wp2_with (refine wpList_store_cf rfl 36 (.tmp 6) (.tmp 82) rfl (w.heap.size + 3) [.int .i64 0, .int .i64 0, .bool false, .int .i64 0, .int .i64 0, .int .i64 0, .int .i64 0, .int .i64 0, .slice none 0 0, .string ⟨#[]⟩, .int .i64 0, .slice none 0 0] [.int .i64 d.nu, .int .i64 d.ep, .bool d.up, .int .i64 d.st, .int .i64 d.le, .int .i64 d.ta, .int .i64 d.co, .int .i64 d.lf, .slice a1 d.ss.length c1, .string d.x, .int .i64 d.si, .slice none 0 0] rfl rfl R1 rfl Tryd.sizeAc (one12 _ _ _ _ _ _ _ _ _ _ _ _ _ _ _ _) ?_; intro w10 hc10 hg10)
          clear b0 b1 b2 b3 b4 b5 b6 b7 b8 b9 b10 b11
          have k0 : w10.cell? ⟨w.heap.size + 3, 0, none⟩ = some (.int .i64 d.nu) := (hc10 0 (by simp)).1
          have k1 : w10.cell? ⟨w.heap.size + 3, 1, none⟩ = some (.int .i64 d.ep) := (hc10 1 (by simp)).1
          have k2 : w10.cell? ⟨w.heap.size + 3, 2, none⟩ = some (.bool d.up) := (hc10 2 (by simp)).1
          have k3 : w10.cell? ⟨w.heap.size + 3, 3, none⟩ = some (.int .i64 d.st) := (hc10 3 (by simp)).1
          have k4 : w10.cell? ⟨w.heap.size + 3, 4, none⟩ = some (.int .i64 d.le) := (hc10 4 (by simp)).1
          have k5 : w10.cell? ⟨w.heap.size + 3, 5, none⟩ = some (.int .i64 d.ta) := (hc10 5 (by simp)).1
          have k6 : w10.cell? ⟨w.heap.size + 3, 6, none⟩ = some (.int .i64 d.co) := (hc10 6 (by simp)).1
          have k7 : w10.cell? ⟨w.heap.size + 3, 7, none⟩ = some (.int .i64 d.lf) := (hc10 7 (by simp)).1
          have k8 : w10.cell? ⟨w.heap.size + 3, 8, none⟩ = some (.slice a1 d.ss.length c1) := (hc10 8 (by simp)).1
          have k9 : w10.cell? ⟨w.heap.size + 3, 9, none⟩ = some (.string d.x) := (hc10 9 (by simp)).1
          have k10 : w10.cell? ⟨w.heap.size + 3, 10, none⟩ = some (.int .i64 d.si) := (hc10 10 (by simp)).1
          have k11 : w10.cell? ⟨w.heap.size + 3, 11, none⟩ = some (.slice none 0 0) := (hc10 11 (by simp)).1
          exact bodyPost_ret (v := .agg #[.int .i64 d.nu, .int .i64 d.ep, .bool d.up, .int .i64 d.st, .int .i64 d.le, .int .i64 d.ta, .int .i64 d.co, .int .i64 d.lf, .slice a1 d.ss.length c1, .string d.x, .int .i64 d.si, .slice none 0 0]) (by simp [results, Tryd.results7, go_sem, k0, k1, k2, k3, k4, k5, k6, k7, k8, k9, k10, k11]) rfl ⟨RetT.mk d a1 c1 ((q6.grown hg10 (.inr (by intro hh; have := q6.row_lo _ hh; simp at this <;> omega))).mono' (by simp <;> omega)) (.inl ⟨HOK.out, HC.out, .inr (.inr ⟨HNO.out, rfl⟩)⟩), below_grown S6.B hg10 (by have := S6.z; simp at this <;> omega) (fun q hq => by simp at hq; omega)⟩
        subst cn
        have HN0 := HN'
        clear HN'
        have HGT := hid (show ∀ hh : d.st = 0 ∨ d.le < l, gets d ts 1 l jj ms from fun hh => ⟨rfl, by rw [HPL.out]; exact cp, HN0.out, hh⟩)
        go_upto_region 9 with fail
        go_quiet (fail)
        go_upto_region 11 with fail
        obtain ⟨w6, hw6⟩ : ∃ V, V = w5.drewN nq := ⟨_, rfl⟩
        have hbq : Below w5.heap.size w5 w6 := by rw [hw6]; exact below_drewN (Below.refl _ _) _
        have S6 := S5.below hbq
        have X6 := X5.block (hbq.block X (by omega))
        have Y6 := Y5.block (hbq.block (X + 1) (by omega))
        have x6 : w.heap.size + 4 ≤ X ∧ X + 1 < w6.heap.size := ⟨x5.1, Nat.lt_of_lt_of_le x5.2 hbq.size⟩
        have q6 := q5.below hbq (Nat.le_refl _)
        rw [← hw6]
        clear hw6 hbq S5 X5 Y5 x5 q5
        clear c4b m0 m4 b3 b4 m5 m7 yp cpb cp' hc1 hc2
        have b3 : w6.cell? ⟨X, 3, none⟩ = some (.int .i64 d.st) := (X6 3 (by simp)).1
        have b4 : w6.cell? ⟨X, 4, none⟩ = some (.int .i64 d.le) := (X6 4 (by simp)).1
        have m4 : w6.cell? ⟨w.heap.size + 2, 4, none⟩ = some (.int .i64 l) := (S6.c 2 (by simp) 4 (by simp)).1
        by_cases cs : d.st = 0
        · have csb : (d.st != 0) = false := by simp [cs]
          have HS := hid (show d.st = 0 ∨ d.le < l from .inl cs)
          clear cs
          go_upto_region 13 with fail
          clear csb b3 b4 m4
          have b0 : w6.cell? ⟨X, 0, none⟩ = some (.int .i64 d.nu) := (X6 0 (by simp)).1
          have b1 : w6.cell? ⟨X, 1, none⟩ = some (.int .i64 d.ep) := (X6 1 (by simp)).1
          have b2 : w6.cell? ⟨X, 2, none⟩ = some (.bool d.up) := (X6 2 (by simp)).1
          have b3 : w6.cell? ⟨X, 3, none⟩ = some (.int .i64 d.st) := (X6 3 (by simp)).1
          have b4 : w6.cell? ⟨X, 4, none⟩ = some (.int .i64 d.le) := (X6 4 (by simp)).1
          have b5 : w6.cell? ⟨X, 5, none⟩ = some (.int .i64 d.ta) := (X6 5 (by simp)).1
          have b6 : w6.cell? ⟨X, 6, none⟩ = some (.int .i64 d.co) := (X6 6 (by simp)).1
          have b7 : w6.cell? ⟨X, 7, none⟩ = some (.int .i64 d.lf) := (X6 7 (by simp)).1
          have b8 : w6.cell? ⟨X, 8, none⟩ = some (.slice a1 d.ss.length c1) := (X6 8 (by simp)).1
          have b9 : w6.cell? ⟨X, 9, none⟩ = some (.string d.x) := (X6 9 (by simp)).1
          have b10 : w6.cell? ⟨X, 10, none⟩ = some (.int .i64 d.si) := (X6 10 (by simp)).1
          go_wp2_with fail
          refine (l3Free_any _ _ _ _ _ _ _ _ _ _ _ _ _ 0 _).mono ?_
          rintro e' w7 ⟨rfl, hb7⟩
          have S7 := S6.below hb7
          clear b0 b1 b2 b3 b4 b5 b6 b7 b8 b9 b10 hb7 S6 X6 Y6 q6
          obtain ⟨ct, hct⟩ : ∃ ct, ct = dcost ts jj := ⟨_, rfl⟩
          have hc1 : w7.cell? ⟨pb, po + jj * 3 + 1, none⟩ = some (.int .i64 ct) := by rw [hct, dcost_nat]; exact (hp.below' S7.B).c1 jj hj
          have HCT := hid hct
          clear hct
          have m4 : w7.cell? ⟨w.heap.size + 2, 4, none⟩ = some (.int .i64 l) := (S7.c 2 (by simp) 4 (by simp)).1
          have m5 : w7.cell? ⟨w.heap.size + 2, 5, none⟩ = some (.int .i64 jj) := (S7.c 2 (by simp) 5 (by simp)).1
          have m7 : w7.cell? ⟨w.heap.size + 2, 7, none⟩ = some (.slice ma ms.length mc) := (S7.c 2 (by simp) 7 (by simp)).1
          have yp : w7.cell? ⟨w.heap.size + 1, 0, none⟩ = some (.slice (some ⟨pb, po, none⟩) pn pc) := (S7.c 1 (by simp) 0 (by simp)).1
          obtain ⟨ZB, hZB⟩ : ∃ ZB : Nat, ZB = w7.heap.size := ⟨_, rfl⟩
          obtain ⟨W8, hW8⟩ : ∃ V, V = w7.alloc (.cells #[.int .i64 d.nu, .int .i64 d.ep, .bool d.up, .int .i64 0, .int .i64 0, .int .i64 0, .int .i64 0, .int .i64 0, .slice none 0 0, .string ⟨#[]⟩, .int .i64 0] 33) := ⟨_, rfl⟩
          have S8 := S7.alloc (.cells #[.int .i64 d.nu, .int .i64 d.ep, .bool d.up, .int .i64 0, .int .i64 0, .int .i64 0, .int .i64 0, .int .i64 0, .slice none 0 0, .string ⟨#[]⟩, .int .i64 0] 33)
          rw [← hW8] at S8
          have Z8 : CF W8 ZB [.int .i64 d.nu, .int .i64 d.ep, .bool d.up, .int .i64 0, .int .i64 0, .int .i64 0, .int .i64 0, .int .i64 0, .slice none 0 0, .string ⟨#[]⟩, .int .i64 0] := by rw [hW8, hZB]; exact CF.made w7 #[.int .i64 d.nu, .int .i64 d.ep, .bool d.up, .int .i64 0, .int .i64 0, .int .i64 0, .int .i64 0, .int .i64 0, .slice none 0 0, .string ⟨#[]⟩, .int .i64 0] 33
          have z8 : w.heap.size + 4 ≤ ZB ∧ ZB < W8.heap.size := ⟨by rw [hZB]; exact S7.z, by rw [hW8, hZB]; simp⟩
          have HW8 := hid hW8
          have HZB := hid hZB
          clear hW8 hZB S7 m4 m5 m7 yp hc1
          go_upto_region 14 with fail
          rw [← HW8.out, ← HZB.out]
          clear HW8 HZB
          have zc : W8.cell? ⟨ZB, 3, none⟩ = some (.int .i64 0) := (Z8 3 (by simp)).1
          have zf : W8.frozen? ⟨ZB, 3, none⟩ = false := (Z8 3 (by simp)).2
          go_upto_region 15 with fail
          clear zc zf 
          obtain ⟨V8, hV8⟩ : ∃ V, V = W8.setCell ⟨ZB, 3, none⟩ (.int .i64 1) := ⟨_, rfl⟩
          have gs : W8.grownBy V8 (some ZB) := by rw [hV8]; exact gset (World.grownBy.refl W8 (some ZB)) 3 _
          have S8' := S8.grown gs (fun q hq => by injection hq with hq; simp <;> omega)
          have Z8' : CF V8 ZB [.int .i64 d.nu, .int .i64 d.ep, .bool d.up, .int .i64 1, .int .i64 0, .int .i64 0, .int .i64 0, .int .i64 0, .slice none 0 0, .string ⟨#[]⟩, .int .i64 0] := by rw [hV8]; exact Z8.set (j := 3) (by simp) _
          have z8' : w.heap.size + 4 ≤ ZB ∧ ZB < V8.heap.size := ⟨z8.1, Nat.lt_of_lt_of_le z8.2 gs.size⟩
          rw [← hV8]
          clear hV8 gs S8 Z8 z8
          obtain ⟨W8, rfl⟩ : ∃ W8, W8 = V8 := ⟨_, rfl⟩
          have S8 := S8'
          have Z8 := Z8'
          have z8 := z8'
          clear S8' Z8' z8'
          have m4 : W8.cell? ⟨w.heap.size + 2, 4, none⟩ = some (.int .i64 l) := (S8.c 2 (by simp) 4 (by simp)).1
          have zc : W8.cell? ⟨ZB, 4, none⟩ = some (.int .i64 0) := (Z8 4 (by simp)).1
          have zf : W8.frozen? ⟨ZB, 4, none⟩ = false := (Z8 4 (by simp)).2
          go_upto_region 16 with fail
          clear zc zf m4
          obtain ⟨V8, hV8⟩ : ∃ V, V = W8.setCell ⟨ZB, 4, none⟩ (.int .i64 l) := ⟨_, rfl⟩
          have gs : W8.grownBy V8 (some ZB) := by rw [hV8]; exact gset (World.grownBy.refl W8 (some ZB)) 4 _
          have S8' := S8.grown gs (fun q hq => by injection hq with hq; simp <;> omega)
          have Z8' : CF V8 ZB [.int .i64 d.nu, .int .i64 d.ep, .bool d.up, .int .i64 1, .int .i64 l, .int .i64 0, .int .i64 0, .int .i64 0, .slice none 0 0, .string ⟨#[]⟩, .int .i64 0] := by rw [hV8]; exact Z8.set (j := 4) (by simp) _
          have z8' : w.heap.size + 4 ≤ ZB ∧ ZB < V8.heap.size := ⟨z8.1, Nat.lt_of_lt_of_le z8.2 gs.size⟩
          rw [← hV8]
          clear hV8 gs S8 Z8 z8
          obtain ⟨W8, rfl⟩ : ∃ W8, W8 = V8 := ⟨_, rfl⟩
          have S8 := S8'
          have Z8 := Z8'
          have z8 := z8'
          clear S8' Z8' z8'
          have m5 : W8.cell? ⟨w.heap.size + 2, 5, none⟩ = some (.int .i64 jj) := (S8.c 2 (by simp) 5 (by simp)).1
          have zc : W8.cell? ⟨ZB, 5, none⟩ = some (.int .i64 0) := (Z8 5 (by simp)).1
          have zf : W8.frozen? ⟨ZB, 5, none⟩ = false := (Z8 5 (by simp)).2
          go_upto_region 17 with fail
          clear zc zf m5
          obtain ⟨V8, hV8⟩ : ∃ V, V = W8.setCell ⟨ZB, 5, none⟩ (.int .i64 jj) := ⟨_, rfl⟩
          have gs : W8.grownBy V8 (some ZB) := by rw [hV8]; exact gset (World.grownBy.refl W8 (some ZB)) 5 _
          have S8' := S8.grown gs (fun q hq => by injection hq with hq; simp <;> omega)
          have Z8' : CF V8 ZB [.int .i64 d.nu, .int .i64 d.ep, .bool d.up, .int .i64 1, .int .i64 l, .int .i64 jj, .int .i64 0, .int .i64 0, .slice none 0 0, .string ⟨#[]⟩, .int .i64 0] := by rw [hV8]; exact Z8.set (j := 5) (by simp) _
          have z8' : w.heap.size + 4 ≤ ZB ∧ ZB < V8.heap.size := ⟨z8.1, Nat.lt_of_lt_of_le z8.2 gs.size⟩
          rw [← hV8]
          clear hV8 gs S8 Z8 z8
          obtain ⟨W8, rfl⟩ : ∃ W8, W8 = V8 := ⟨_, rfl⟩
          have S8 := S8'
          have Z8 := Z8'
          have z8 := z8'
          clear S8' Z8' z8'
          have m5 : W8.cell? ⟨w.heap.size + 2, 5, none⟩ = some (.int .i64 jj) := (S8.c 2 (by simp) 5 (by simp)).1
          have yp : W8.cell? ⟨w.heap.size + 1, 0, none⟩ = some (.slice (some ⟨pb, po, none⟩) pn pc) := (S8.c 1 (by simp) 0 (by simp)).1
          have hc1 : W8.cell? ⟨pb, po + jj * 3 + 1, none⟩ = some (.int .i64 ct) := by rw [HCT.out, dcost_nat]; exact (hp.below' S8.B).c1 jj hj
          have zc : W8.cell? ⟨ZB, 6, none⟩ = some (.int .i64 0) := (Z8 6 (by simp)).1
          have zf : W8.frozen? ⟨ZB, 6, none⟩ = false := (Z8 6 (by simp)).2
          go_upto_region 18 with fail
          clear zc zf m5 yp hc1
          obtain ⟨V8, hV8⟩ : ∃ V, V = W8.setCell ⟨ZB, 6, none⟩ (.int .i64 ct) := ⟨_, rfl⟩
          have gs : W8.grownBy V8 (some ZB) := by rw [hV8]; exact gset (World.grownBy.refl W8 (some ZB)) 6 _
          have S8' := S8.grown gs (fun q hq => by injection hq with hq; simp <;> omega)
          have Z8' : CF V8 ZB [.int .i64 d.nu, .int .i64 d.ep, .bool d.up, .int .i64 1, .int .i64 l, .int .i64 jj, .int .i64 ct, .int .i64 0, .slice none 0 0, .string ⟨#[]⟩, .int .i64 0] := by rw [hV8]; exact Z8.set (j := 6) (by simp) _
          have z8' : w.heap.size + 4 ≤ ZB ∧ ZB < V8.heap.size := ⟨z8.1, Nat.lt_of_lt_of_le z8.2 gs.size⟩
          rw [← hV8]
          clear hV8 gs S8 Z8 z8
          obtain ⟨W8, rfl⟩ : ∃ W8, W8 = V8 := ⟨_, rfl⟩
          have S8 := S8'
          have Z8 := Z8'
          have z8 := z8'
          clear S8' Z8' z8'
          have z6 : W8.cell? ⟨ZB, 6, none⟩ = some (.int .i64 ct) := (Z8 6 (by simp)).1
          have zc : W8.cell? ⟨ZB, 7, none⟩ = some (.int .i64 0) := (Z8 7 (by simp)).1
          have zf : W8.frozen? ⟨ZB, 7, none⟩ = false := (Z8 7 (by simp)).2
          go_upto_region 19 with fail
          clear zc zf z6
          obtain ⟨V8, hV8⟩ : ∃ V, V = W8.setCell ⟨ZB, 7, none⟩ (.int .i64 ct) := ⟨_, rfl⟩
          have gs : W8.grownBy V8 (some ZB) := by rw [hV8]; exact gset (World.grownBy.refl W8 (some ZB)) 7 _
          have S8' := S8.grown gs (fun q hq => by injection hq with hq; simp <;> omega)
          have Z8' : CF V8 ZB [.int .i64 d.nu, .int .i64 d.ep, .bool d.up, .int .i64 1, .int .i64 l, .int .i64 jj, .int .i64 ct, .int .i64 ct, .slice none 0 0, .string ⟨#[]⟩, .int .i64 0] := by rw [hV8]; exact Z8.set (j := 7) (by simp) _
          have z8' : w.heap.size + 4 ≤ ZB ∧ ZB < V8.heap.size := ⟨z8.1, Nat.lt_of_lt_of_le z8.2 gs.size⟩
          rw [← hV8]
          clear hV8 gs S8 Z8 z8
          obtain ⟨W8, rfl⟩ : ∃ W8, W8 = V8 := ⟨_, rfl⟩
          have S8 := S8'
          have Z8 := Z8'
          have z8 := z8'
          clear S8' Z8' z8'
          have m7 : W8.cell? ⟨w.heap.size + 2, 7, none⟩ = some (.slice ma ms.length mc) := (S8.c 2 (by simp) 7 (by simp)).1
          obtain ⟨U, hU⟩ : ∃ U, U = W8.alloc (.cells #[] 9) := ⟨_, rfl⟩
          have SU := S8.alloc (.cells #[] 9)
          rw [← hU] at SU
          have ZU : CF U ZB [.int .i64 d.nu, .int .i64 d.ep, .bool d.up, .int .i64 1, .int .i64 l, .int .i64 jj, .int .i64 ct, .int .i64 ct, .slice none 0 0, .string ⟨#[]⟩, .int .i64 0] := by rw [hU]; exact Z8.block (Below.heap_alloc _ _ _ z8.2)
          have zU : ZB < U.heap.size := by rw [hU]; simp; omega
          have own0 : Own (ZB + 1) U 1 (.slice (some ⟨W8.heap.size, 0, none⟩) 0 0) 0 [] := by rw [hU]; exact bsOwnT W8 _ (by omega)
          have srcU : Src Tryd.prog 1 22 (.slice ma ms.length mc) ms.length (ms.map Value.string) U := (hm.below' SU.B).src mc
          have m7U : (W8.alloc (.cells #[] 9)).cell? ⟨w.heap.size + 2, 7, none⟩ = some (.slice ma ms.length mc) := by rw [← hU]; exact (SU.c 2 (by simp) 7 (by simp)).1
          have hrow := own0.row_lo
          go_upto_region 20 with (at_builtin; rw [← hU]; refine wpList_append_c _ rfl _ _ 22 22 rfl (ZB + 1) 9 i0 (.string ⟨#[]⟩) 1 16 Tryd.underlying22 hi0 hz00 hz01 hz02 rfl _ 0 _ rfl own0 _ ms.length _ rfl srcU (by unfold maxLen; omega) (by omega) (by omega) ?_; intro v9 w9 ho9 hg9 hbk9; rw [Nat.zero_add, List.nil_append] at ho9; obtain ⟨a2, c2, rfl⟩ := ho9.slc; have Z9 := ZU.block (hg9.block ZB zU (fun e => by have := hrow _ e.symm; omega)); have k8 : w9.cell? ⟨ZB, 8, none⟩ = some (.slice none 0 0) := (Z9 8 (by simp)).1; have f8 : w9.frozen? ⟨ZB, 8, none⟩ = false := (Z9 8 (by simp)).2)
          clear k8 f8 m7 m7U
          have S9 := SU.grown hg9 (fun q hq => by have := hrow q hq; simp; omega)
          obtain ⟨V9, hV9⟩ : ∃ V, V = w9.setCell ⟨ZB, 8, none⟩ (.slice a2 ms.length c2) := ⟨_, rfl⟩
          have gs : w9.grownBy V9 (some ZB) := by rw [hV9]; exact gset (World.grownBy.refl w9 (some ZB)) 8 _
          have S10 := S9.grown gs (fun q hq => by injection hq with hq; simp; omega)
          have Z10 : CF V9 ZB [.int .i64 d.nu, .int .i64 d.ep, .bool d.up, .int .i64 1, .int .i64 l, .int .i64 jj, .int .i64 ct, .int .i64 ct, .slice a2 ms.length c2, .string ⟨#[]⟩, .int .i64 0] := by rw [hV9]; exact Z9.set (j := 8) (by simp) _
          have ho10 := ho9.grown gs (.inr (by intro hh; have := ho9.row_lo _ hh; omega))
          rw [← hV9]
          clear hV9 gs S9 Z9 ho9 hg9 hbk9 SU ZU zU own0 srcU hrow S8 Z8
          have R1 : CF V9 (w.heap.size + 3) [.int .i64 0, .int .i64 0, .bool false, .int .i64 0, .int .i64 0, .int .i64 0, .int .i64 0, .int .i64 0, .slice none 0 0, .string ⟨#[]⟩, .int .i64 0, .slice none 0 0] := S10.c 3 (by simp)
          have b0 : V9.cell? ⟨ZB, 0, none⟩ = some (.int .i64 d.nu) := (Z10 0 (by simp)).1
          have b1 : V9.cell? ⟨ZB, 1, none⟩ = some (.int .i64 d.ep) := (Z10 1 (by simp)).1
          have b2 : V9.cell? ⟨ZB, 2, none⟩ = some (.bool d.up) := (Z10 2 (by simp)).1
          have b3 : V9.cell? ⟨ZB, 3, none⟩ = some (.int .i64 1) := (Z10 3 (by simp)).1
          have b4 : V9.cell? ⟨ZB, 4, none⟩ = some (.int .i64 l) := (Z10 4 (by simp)).1
          have b5 : V9.cell? ⟨ZB, 5, none⟩ = some (.int .i64 jj) := (Z10 5 (by simp)).1
          have b6 : V9.cell? ⟨ZB, 6, none⟩ = some (.int .i64 ct) := (Z10 6 (by simp)).1
          have b7 : V9.cell? ⟨ZB, 7, none⟩ = some (.int .i64 ct) := (Z10 7 (by simp)).1
          have b8 : V9.cell? ⟨ZB, 8, none⟩ = some (.slice a2 ms.length c2) := (Z10 8 (by simp)).1
          have b9 : V9.cell? ⟨ZB, 9, none⟩ = some (.string ⟨#[]⟩) := (Z10 9 (by simp)).1
          have b10 : V9.cell? ⟨ZB, 10, none⟩ = some (.int .i64 0) := (Z10 10 (by simp)).1
          go_wp2_with (refine wpList_store_cf rfl 36 (.tmp 6) (.tmp 120) rfl (w.heap.size + 3) [.int .i64 0, .int .i64 0, .bool false, .int .i64 0, .int .i64 0, .int .i64 0, .int .i64 0, .int .i64 0, .slice none 0 0, .string ⟨#[]⟩, .int .i64 0, .slice none 0 0] [.int .i64 d.nu, .int .i64 d.ep, .bool d.up, .int .i64 1, .int .i64 l, .int .i64 jj, .int .i64 ct, .int .i64 ct, .slice a2 ms.length c2, .string ⟨#[]⟩, .int .i64 0, .slice none 0 0] rfl rfl R1 rfl Tryd.sizeAc (one12 _ _ _ _ _ _ _ _ _ _ _ _ _ _ _ _) ?_; intro w10 hc10 hg10)
          clear b0 b1 b2 b3 b4 b5 b6 b7 b8 b9 b10
          have k0 : w10.cell? ⟨w.heap.size + 3, 0, none⟩ = some (.int .i64 d.nu) := (hc10 0 (by simp)).1
          have k1 : w10.cell? ⟨w.heap.size + 3, 1, none⟩ = some (.int .i64 d.ep) := (hc10 1 (by simp)).1
          have k2 : w10.cell? ⟨w.heap.size + 3, 2, none⟩ = some (.bool d.up) := (hc10 2 (by simp)).1
          have k3 : w10.cell? ⟨w.heap.size + 3, 3, none⟩ = some (.int .i64 1) := (hc10 3 (by simp)).1
          have k4 : w10.cell? ⟨w.heap.size + 3, 4, none⟩ = some (.int .i64 l) := (hc10 4 (by simp)).1
          have k5 : w10.cell? ⟨w.heap.size + 3, 5, none⟩ = some (.int .i64 jj) := (hc10 5 (by simp)).1
          have k6 : w10.cell? ⟨w.heap.size + 3, 6, none⟩ = some (.int .i64 ct) := (hc10 6 (by simp)).1
          have k7 : w10.cell? ⟨w.heap.size + 3, 7, none⟩ = some (.int .i64 ct) := (hc10 7 (by simp)).1
          have k8 : w10.cell? ⟨w.heap.size + 3, 8, none⟩ = some (.slice a2 ms.length c2) := (hc10 8 (by simp)).1
          have k9 : w10.cell? ⟨w.heap.size + 3, 9, none⟩ = some (.string ⟨#[]⟩) := (hc10 9 (by simp)).1
          have k10 : w10.cell? ⟨w.heap.size + 3, 10, none⟩ = some (.int .i64 0) := (hc10 10 (by simp)).1
          have k11 : w10.cell? ⟨w.heap.size + 3, 11, none⟩ = some (.slice none 0 0) := (hc10 11 (by simp)).1
          refine bodyPost_ret (v := .agg #[.int .i64 d.nu, .int .i64 d.ep, .bool d.up, .int .i64 1, .int .i64 l, .int .i64 jj, .int .i64 ct, .int .i64 ct, .slice a2 ms.length c2, .string ⟨#[]⟩, .int .i64 0, .slice none 0 0]) (by simp [results, Tryd.results7, go_sem, k0, k1, k2, k3, k4, k5, k6, k7, k8, k9, k10, k11]) rfl ⟨?_, below_grown S10.B hg10 (by have := S10.z; simp at this <;> omega) (fun q hq => by simp at hq; omega)⟩
          have := RetT.mk (B := w.heap.size) (w' := w10) (F := takeR d ts 1 f t e l jj x ms) (busyD d ts l jj ms) a2 c2 ((ho10.grown hg10 (.inr (by intro hh; have := ho10.row_lo _ hh; omega))).mono' (show w.heap.size ≤ ZB + 1 by omega)) (.inl ⟨HOK.out, HC.out, .inl ⟨⟨HUP.out, HV.out, HT.out⟩, HGT.out HS.out, rfl⟩⟩)
          rw [HCT.out]
          exact this
        · have csb : (d.st == 0) = false := beq_eq_false_iff_ne.2 cs
          by_cases cl : d.le < l
          · have clb : ¬ (l ≤ d.le) := by omega
            have clc : decide (l ≤ d.le) = false := decide_eq_false clb
            have csc : (d.st != 0) = true := by simp [cs]
            have HS := hid (show d.st = 0 ∨ d.le < l from .inr cl)
            clear cs cl
            go_upto_region 13 with fail
            clear csb clb clc csc b3 b4 m4
            have b0 : w6.cell? ⟨X, 0, none⟩ = some (.int .i64 d.nu) := (X6 0 (by simp)).1
            have b1 : w6.cell? ⟨X, 1, none⟩ = some (.int .i64 d.ep) := (X6 1 (by simp)).1
            have b2 : w6.cell? ⟨X, 2, none⟩ = some (.bool d.up) := (X6 2 (by simp)).1
            have b3 : w6.cell? ⟨X, 3, none⟩ = some (.int .i64 d.st) := (X6 3 (by simp)).1
            have b4 : w6.cell? ⟨X, 4, none⟩ = some (.int .i64 d.le) := (X6 4 (by simp)).1
            have b5 : w6.cell? ⟨X, 5, none⟩ = some (.int .i64 d.ta) := (X6 5 (by simp)).1
            have b6 : w6.cell? ⟨X, 6, none⟩ = some (.int .i64 d.co) := (X6 6 (by simp)).1
            have b7 : w6.cell? ⟨X, 7, none⟩ = some (.int .i64 d.lf) := (X6 7 (by simp)).1
            have b8 : w6.cell? ⟨X, 8, none⟩ = some (.slice a1 d.ss.length c1) := (X6 8 (by simp)).1
            have b9 : w6.cell? ⟨X, 9, none⟩ = some (.string d.x) := (X6 9 (by simp)).1
            have b10 : w6.cell? ⟨X, 10, none⟩ = some (.int .i64 d.si) := (X6 10 (by simp)).1
            go_wp2_with fail
            refine (l3Free_any _ _ _ _ _ _ _ _ _ _ _ _ _ 0 _).mono ?_
            rintro e' w7 ⟨rfl, hb7⟩
            have S7 := S6.below hb7
            clear b0 b1 b2 b3 b4 b5 b6 b7 b8 b9 b10 hb7 S6 X6 Y6 q6
            obtain ⟨ct, hct⟩ : ∃ ct, ct = dcost ts jj := ⟨_, rfl⟩
            have hc1 : w7.cell? ⟨pb, po + jj * 3 + 1, none⟩ = some (.int .i64 ct) := by rw [hct, dcost_nat]; exact (hp.below' S7.B).c1 jj hj
            have HCT := hid hct
            clear hct
            have m4 : w7.cell? ⟨w.heap.size + 2, 4, none⟩ = some (.int .i64 l) := (S7.c 2 (by simp) 4 (by simp)).1
            have m5 : w7.cell? ⟨w.heap.size + 2, 5, none⟩ = some (.int .i64 jj) := (S7.c 2 (by simp) 5 (by simp)).1
            have m7 : w7.cell? ⟨w.heap.size + 2, 7, none⟩ = some (.slice ma ms.length mc) := (S7.c 2 (by simp) 7 (by simp)).1
            have yp : w7.cell? ⟨w.heap.size + 1, 0, none⟩ = some (.slice (some ⟨pb, po, none⟩) pn pc) := (S7.c 1 (by simp) 0 (by simp)).1
            obtain ⟨ZB, hZB⟩ : ∃ ZB : Nat, ZB = w7.heap.size := ⟨_, rfl⟩
            obtain ⟨W8, hW8⟩ : ∃ V, V = w7.alloc (.cells #[.int .i64 d.nu, .int .i64 d.ep, .bool d.up, .int .i64 0, .int .i64 0, .int .i64 0, .int .i64 0, .int .i64 0, .slice none 0 0, .string ⟨#[]⟩, .int .i64 0] 33) := ⟨_, rfl⟩
            have S8 := S7.alloc (.cells #[.int .i64 d.nu, .int .i64 d.ep, .bool d.up, .int .i64 0, .int .i64 0, .int .i64 0, .int .i64 0, .int .i64 0, .slice none 0 0, .string ⟨#[]⟩, .int .i64 0] 33)
            rw [← hW8] at S8
            have Z8 : CF W8 ZB [.int .i64 d.nu, .int .i64 d.ep, .bool d.up, .int .i64 0, .int .i64 0, .int .i64 0, .int .i64 0, .int .i64 0, .slice none 0 0, .string ⟨#[]⟩, .int .i64 0] := by rw [hW8, hZB]; exact CF.made w7 #[.int .i64 d.nu, .int .i64 d.ep, .bool d.up, .int .i64 0, .int .i64 0, .int .i64 0, .int .i64 0, .int .i64 0, .slice none 0 0, .string ⟨#[]⟩, .int .i64 0] 33
            have z8 : w.heap.size + 4 ≤ ZB ∧ ZB < W8.heap.size := ⟨by rw [hZB]; exact S7.z, by rw [hW8, hZB]; simp⟩
            have HW8 := hid hW8
            have HZB := hid hZB
            clear hW8 hZB S7 m4 m5 m7 yp hc1
            go_upto_region 14 with fail
            rw [← HW8.out, ← HZB.out]
            clear HW8 HZB
            have zc : W8.cell? ⟨ZB, 3, none⟩ = some (.int .i64 0) := (Z8 3 (by simp)).1
            have zf : W8.frozen? ⟨ZB, 3, none⟩ = false := (Z8 3 (by simp)).2
            go_upto_region 15 with fail
            clear zc zf 
            obtain ⟨V8, hV8⟩ : ∃ V, V = W8.setCell ⟨ZB, 3, none⟩ (.int .i64 1) := ⟨_, rfl⟩
            have gs : W8.grownBy V8 (some ZB) := by rw [hV8]; exact gset (World.grownBy.refl W8 (some ZB)) 3 _
            have S8' := S8.grown gs (fun q hq => by injection hq with hq; simp <;> omega)
            have Z8' : CF V8 ZB [.int .i64 d.nu, .int .i64 d.ep, .bool d.up, .int .i64 1, .int .i64 0, .int .i64 0, .int .i64 0, .int .i64 0, .slice none 0 0, .string ⟨#[]⟩, .int .i64 0] := by rw [hV8]; exact Z8.set (j := 3) (by simp) _
            have z8' : w.heap.size + 4 ≤ ZB ∧ ZB < V8.heap.size := ⟨z8.1, Nat.lt_of_lt_of_le z8.2 gs.size⟩
            rw [← hV8]
            clear hV8 gs S8 Z8 z8
            obtain ⟨W8, rfl⟩ : ∃ W8, W8 = V8 := ⟨_, rfl⟩
            have S8 := S8'
            have Z8 := Z8'
            have z8 := z8'
            clear S8' Z8' z8'
            have m4 : W8.cell? ⟨w.heap.size + 2, 4, none⟩ = some (.int .i64 l) := (S8.c 2 (by simp) 4 (by simp)).1
            have zc : W8.cell? ⟨ZB, 4, none⟩ = some (.int .i64 0) := (Z8 4 (by simp)).1
            have zf : W8.frozen? ⟨ZB, 4, none⟩ = false := (Z8 4 (by simp)).2
            go_upto_region 16 with fail
            clear zc zf m4
            obtain ⟨V8, hV8⟩ : ∃ V, V = W8.setCell ⟨ZB, 4, none⟩ (.int .i64 l) := ⟨_, rfl⟩
            have gs : W8.grownBy V8 (some ZB) := by rw [hV8]; exact gset (World.grownBy.refl W8 (some ZB)) 4 _
            have S8' := S8.grown gs (fun q hq => by injection hq with hq; simp <;> omega)
            have Z8' : CF V8 ZB [.int .i64 d.nu, .int .i64 d.ep, .bool d.up, .int .i64 1, .int .i64 l, .int .i64 0, .int .i64 0, .int .i64 0, .slice none 0 0, .string ⟨#[]⟩, .int .i64 0] := by rw [hV8]; exact Z8.set (j := 4) (by simp) _
            have z8' : w.heap.size + 4 ≤ ZB ∧ ZB < V8.heap.size := ⟨z8.1, Nat.lt_of_lt_of_le z8.2 gs.size⟩
            rw [← hV8]
            clear hV8 gs S8 Z8 z8
            obtain ⟨W8, rfl⟩ : ∃ W8, W8 = V8 := ⟨_, rfl⟩
            have S8 := S8'
            have Z8 := Z8'
            have z8 := z8'
            clear S8' Z8' z8'
            have m5 : W8.cell? ⟨w.heap.size + 2, 5, none⟩ = some (.int .i64 jj) := (S8.c 2 (by simp) 5 (by simp)).1
            have zc : W8.cell? ⟨ZB, 5, none⟩ = some (.int .i64 0) := (Z8 5 (by simp)).1
            have zf : W8.frozen? ⟨ZB, 5, none⟩ = false := (Z8 5 (by simp)).2
            go_upto_region 17 with fail
            clear zc zf m5
            obtain ⟨V8, hV8⟩ : ∃ V, V = W8.setCell ⟨ZB, 5, none⟩ (.int .i64 jj) := ⟨_, rfl⟩
            have gs : W8.grownBy V8 (some ZB) := by rw [hV8]; exact gset (World.grownBy.refl W8 (some ZB)) 5 _
            have S8' := S8.grown gs (fun q hq => by injection hq with hq; simp <;> omega)
            have Z8' : CF V8 ZB [.int .i64 d.nu, .int .i64 d.ep, .bool d.up, .int .i64 1, .int .i64 l, .int .i64 jj, .int .i64 0, .int .i64 0, .slice none 0 0, .string ⟨#[]⟩, .int .i64 0] := by rw [hV8]; exact Z8.set (j := 5) (by simp) _
            have z8' : w.heap.size + 4 ≤ ZB ∧ ZB < V8.heap.size := ⟨z8.1, Nat.lt_of_lt_of_le z8.2 gs.size⟩
            rw [← hV8]
            clear hV8 gs S8 Z8 z8
            obtain ⟨W8, rfl⟩ : ∃ W8, W8 = V8 := ⟨_, rfl⟩
            have S8 := S8'
            have Z8 := Z8'
            have z8 := z8'
            clear S8' Z8' z8'
            have m5 : W8.cell? ⟨w.heap.size + 2, 5, none⟩ = some (.int .i64 jj) := (S8.c 2 (by simp) 5 (by simp)).1
            have yp : W8.cell? ⟨w.heap.size + 1, 0, none⟩ = some (.slice (some ⟨pb, po, none⟩) pn pc) := (S8.c 1 (by simp) 0 (by simp)).1
            have hc1 : W8.cell? ⟨pb, po + jj * 3 + 1, none⟩ = some (.int .i64 ct) := by rw [HCT.out, dcost_nat]; exact (hp.below' S8.B).c1 jj hj
            have zc : W8.cell? ⟨ZB, 6, none⟩ = some (.int .i64 0) := (Z8 6 (by simp)).1
            have zf : W8.frozen? ⟨ZB, 6, none⟩ = false := (Z8 6 (by simp)).2
            go_upto_region 18 with fail
            clear zc zf m5 yp hc1
            obtain ⟨V8, hV8⟩ : ∃ V, V = W8.setCell ⟨ZB, 6, none⟩ (.int .i64 ct) := ⟨_, rfl⟩
            have gs : W8.grownBy V8 (some ZB) := by rw [hV8]; exact gset (World.grownBy.refl W8 (some ZB)) 6 _
            have S8' := S8.grown gs (fun q hq => by injection hq with hq; simp <;> omega)
            have Z8' : CF V8 ZB [.int .i64 d.nu, .int .i64 d.ep, .bool d.up, .int .i64 1, .int .i64 l, .int .i64 jj, .int .i64 ct, .int .i64 0, .slice none 0 0, .string ⟨#[]⟩, .int .i64 0] := by rw [hV8]; exact Z8.set (j := 6) (by simp) _
            have z8' : w.heap.size + 4 ≤ ZB ∧ ZB < V8.heap.size := ⟨z8.1, Nat.lt_of_lt_of_le z8.2 gs.size⟩
            rw [← hV8]
            clear hV8 gs S8 Z8 z8
            obtain ⟨W8, rfl⟩ : ∃ W8, W8 = V8 := ⟨_, rfl⟩
            have S8 := S8'
            have Z8 := Z8'
            have z8 := z8'
            clear S8' Z8' z8'
            have z6 : W8.cell? ⟨ZB, 6, none⟩ = some (.int .i64 ct) := (Z8 6 (by simp)).1
            have zc : W8.cell? ⟨ZB, 7, none⟩ = some (.int .i64 0) := (Z8 7 (by simp)).1
            have zf : W8.frozen? ⟨ZB, 7, none⟩ = false := (Z8 7 (by simp)).2
            go_upto_region 19 with fail
            clear zc zf z6
            obtain ⟨V8, hV8⟩ : ∃ V, V = W8.setCell ⟨ZB, 7, none⟩ (.int .i64 ct) := ⟨_, rfl⟩
            have gs : W8.grownBy V8 (some ZB) := by rw [hV8]; exact gset (World.grownBy.refl W8 (some ZB)) 7 _
            have S8' := S8.grown gs (fun q hq => by injection hq with hq; simp <;> omega)
            have Z8' : CF V8 ZB [.int .i64 d.nu, .int .i64 d.ep, .bool d.up, .int .i64 1, .int .i64 l, .int .i64 jj, .int .i64 ct, .int .i64 ct, .slice none 0 0, .string ⟨#[]⟩, .int .i64 0] := by rw [hV8]; exact Z8.set (j := 7) (by simp) _
            have z8' : w.heap.size + 4 ≤ ZB ∧ ZB < V8.heap.size := ⟨z8.1, Nat.lt_of_lt_of_le z8.2 gs.size⟩
            rw [← hV8]
            clear hV8 gs S8 Z8 z8
            obtain ⟨W8, rfl⟩ : ∃ W8, W8 = V8 := ⟨_, rfl⟩
            have S8 := S8'
            have Z8 := Z8'
            have z8 := z8'
            clear S8' Z8' z8'
            have m7 : W8.cell? ⟨w.heap.size + 2, 7, none⟩ = some (.slice ma ms.length mc) := (S8.c 2 (by simp) 7 (by simp)).1
            obtain ⟨U, hU⟩ : ∃ U, U = W8.alloc (.cells #[] 9) := ⟨_, rfl⟩
            have SU := S8.alloc (.cells #[] 9)
            rw [← hU] at SU
            have ZU : CF U ZB [.int .i64 d.nu, .int .i64 d.ep, .bool d.up, .int .i64 1, .int .i64 l, .int .i64 jj, .int .i64 ct, .int .i64 ct, .slice none 0 0, .string ⟨#[]⟩, .int .i64 0] := by rw [hU]; exact Z8.block (Below.heap_alloc _ _ _ z8.2)
            have zU : ZB < U.heap.size := by rw [hU]; simp; omega
            have own0 : Own (ZB + 1) U 1 (.slice (some ⟨W8.heap.size, 0, none⟩) 0 0) 0 [] := by rw [hU]; exact bsOwnT W8 _ (by omega)
            have srcU : Src Tryd.prog 1 22 (.slice ma ms.length mc) ms.length (ms.map Value.string) U := (hm.below' SU.B).src mc
            have m7U : (W8.alloc (.cells #[] 9)).cell? ⟨w.heap.size + 2, 7, none⟩ = some (.slice ma ms.length mc) := by rw [← hU]; exact (SU.c 2 (by simp) 7 (by simp)).1
            have hrow := own0.row_lo
            go_upto_region 20 with (at_builtin; rw [← hU]; refine wpList_append_c _ rfl _ _ 22 22 rfl (ZB + 1) 9 i0 (.string ⟨#[]⟩) 1 16 Tryd.underlying22 hi0 hz00 hz01 hz02 rfl _ 0 _ rfl own0 _ ms.length _ rfl srcU (by unfold maxLen; omega) (by omega) (by omega) ?_; intro v9 w9 ho9 hg9 hbk9; rw [Nat.zero_add, List.nil_append] at ho9; obtain ⟨a2, c2, rfl⟩ := ho9.slc; have Z9 := ZU.block (hg9.block ZB zU (fun e => by have := hrow _ e.symm; omega)); have k8 : w9.cell? ⟨ZB, 8, none⟩ = some (.slice none 0 0) := (Z9 8 (by simp)).1; have f8 : w9.frozen? ⟨ZB, 8, none⟩ = false := (Z9 8 (by simp)).2)
            clear k8 f8 m7 m7U
            have S9 := SU.grown hg9 (fun q hq => by have := hrow q hq; simp; omega)
            obtain ⟨V9, hV9⟩ : ∃ V, V = w9.setCell ⟨ZB, 8, none⟩ (.slice a2 ms.length c2) := ⟨_, rfl⟩
            have gs : w9.grownBy V9 (some ZB) := by rw [hV9]; exact gset (World.grownBy.refl w9 (some ZB)) 8 _
            have S10 := S9.grown gs (fun q hq => by injection hq with hq; simp; omega)
            have Z10 : CF V9 ZB [.int .i64 d.nu, .int .i64 d.ep, .bool d.up, .int .i64 1, .int .i64 l, .int .i64 jj, .int .i64 ct, .int .i64 ct, .slice a2 ms.length c2, .string ⟨#[]⟩, .int .i64 0] := by rw [hV9]; exact Z9.set (j := 8) (by simp) _
            have ho10 := ho9.grown gs (.inr (by intro hh; have := ho9.row_lo _ hh; omega))
            rw [← hV9]
            clear hV9 gs S9 Z9 ho9 hg9 hbk9 SU ZU zU own0 srcU hrow S8 Z8
            have R1 : CF V9 (w.heap.size + 3) [.int .i64 0, .int .i64 0, .bool false, .int .i64 0, .int .i64 0, .int .i64 0, .int .i64 0, .int .i64 0, .slice none 0 0, .string ⟨#[]⟩, .int .i64 0, .slice none 0 0] := S10.c 3 (by simp)
            have b0 : V9.cell? ⟨ZB, 0, none⟩ = some (.int .i64 d.nu) := (Z10 0 (by simp)).1
            have b1 : V9.cell? ⟨ZB, 1, none⟩ = some (.int .i64 d.ep) := (Z10 1 (by simp)).1
            have b2 : V9.cell? ⟨ZB, 2, none⟩ = some (.bool d.up) := (Z10 2 (by simp)).1
            have b3 : V9.cell? ⟨ZB, 3, none⟩ = some (.int .i64 1) := (Z10 3 (by simp)).1
            have b4 : V9.cell? ⟨ZB, 4, none⟩ = some (.int .i64 l) := (Z10 4 (by simp)).1
            have b5 : V9.cell? ⟨ZB, 5, none⟩ = some (.int .i64 jj) := (Z10 5 (by simp)).1
            have b6 : V9.cell? ⟨ZB, 6, none⟩ = some (.int .i64 ct) := (Z10 6 (by simp)).1
            have b7 : V9.cell? ⟨ZB, 7, none⟩ = some (.int .i64 ct) := (Z10 7 (by simp)).1
            have b8 : V9.cell? ⟨ZB, 8, none⟩ = some (.slice a2 ms.length c2) := (Z10 8 (by simp)).1
            have b9 : V9.cell? ⟨ZB, 9, none⟩ = some (.string ⟨#[]⟩) := (Z10 9 (by simp)).1
            have b10 : V9.cell? ⟨ZB, 10, none⟩ = some (.int .i64 0) := (Z10 10 (by simp)).1
            go_wp2_with (refine wpList_store_cf rfl 36 (.tmp 6) (.tmp 120) rfl (w.heap.size + 3) [.int .i64 0, .int .i64 0, .bool false, .int .i64 0, .int .i64 0, .int .i64 0, .int .i64 0, .int .i64 0, .slice none 0 0, .string ⟨#[]⟩, .int .i64 0, .slice none 0 0] [.int .i64 d.nu, .int .i64 d.ep, .bool d.up, .int .i64 1, .int .i64 l, .int .i64 jj, .int .i64 ct, .int .i64 ct, .slice a2 ms.length c2, .string ⟨#[]⟩, .int .i64 0, .slice none 0 0] rfl rfl R1 rfl Tryd.sizeAc (one12 _ _ _ _ _ _ _ _ _ _ _ _ _ _ _ _) ?_; intro w10 hc10 hg10)
            clear b0 b1 b2 b3 b4 b5 b6 b7 b8 b9 b10
            have k0 : w10.cell? ⟨w.heap.size + 3, 0, none⟩ = some (.int .i64 d.nu) := (hc10 0 (by simp)).1
            have k1 : w10.cell? ⟨w.heap.size + 3, 1, none⟩ = some (.int .i64 d.ep) := (hc10 1 (by simp)).1
            have k2 : w10.cell? ⟨w.heap.size + 3, 2, none⟩ = some (.bool d.up) := (hc10 2 (by simp)).1
            have k3 : w10.cell? ⟨w.heap.size + 3, 3, none⟩ = some (.int .i64 1) := (hc10 3 (by simp)).1
            have k4 : w10.cell? ⟨w.heap.size + 3, 4, none⟩ = some (.int .i64 l) := (hc10 4 (by simp)).1
            have k5 : w10.cell? ⟨w.heap.size + 3, 5, none⟩ = some (.int .i64 jj) := (hc10 5 (by simp)).1
            have k6 : w10.cell? ⟨w.heap.size + 3, 6, none⟩ = some (.int .i64 ct) := (hc10 6 (by simp)).1
            have k7 : w10.cell? ⟨w.heap.size + 3, 7, none⟩ = some (.int .i64 ct) := (hc10 7 (by simp)).1
            have k8 : w10.cell? ⟨w.heap.size + 3, 8, none⟩ = some (.slice a2 ms.length c2) := (hc10 8 (by simp)).1
            have k9 : w10.cell? ⟨w.heap.size + 3, 9, none⟩ = some (.string ⟨#[]⟩) := (hc10 9 (by simp)).1
            have k10 : w10.cell? ⟨w.heap.size + 3, 10, none⟩ = some (.int .i64 0) := (hc10 10 (by simp)).1
            have k11 : w10.cell? ⟨w.heap.size + 3, 11, none⟩ = some (.slice none 0 0) := (hc10 11 (by simp)).1
            refine bodyPost_ret (v := .agg #[.int .i64 d.nu, .int .i64 d.ep, .bool d.up, .int .i64 1, .int .i64 l, .int .i64 jj, .int .i64 ct, .int .i64 ct, .slice a2 ms.length c2, .string ⟨#[]⟩, .int .i64 0, .slice none 0 0]) (by simp [results, Tryd.results7, go_sem, k0, k1, k2, k3, k4, k5, k6, k7, k8, k9, k10, k11]) rfl ⟨?_, below_grown S10.B hg10 (by have := S10.z; simp at this <;> omega) (fun q hq => by simp at hq; omega)⟩
            have := RetT.mk (B := w.heap.size) (w' := w10) (F := takeR d ts 1 f t e l jj x ms) (busyD d ts l jj ms) a2 c2 ((ho10.grown hg10 (.inr (by intro hh; have := ho10.row_lo _ hh; omega))).mono' (show w.heap.size ≤ ZB + 1 by omega)) (.inl ⟨HOK.out, HC.out, .inl ⟨⟨HUP.out, HV.out, HT.out⟩, HGT.out HS.out, rfl⟩⟩)
            rw [HCT.out]
            exact this
          · have clb : l ≤ d.le := by omega
            have clc : decide (l ≤ d.le) = true := decide_eq_true clb
            have csc : (d.st != 0) = true := by simp [cs]
            have HG := hid (show ¬ gets d ts 1 l jj ms from fun hh => hh.2.2.2.elim cs cl)
            clear cs cl
            go_upto_region 12 with fail
            clear csb clb clc csc b3 b4 m4
            have HNO := hid (show ¬ (hears d 1 f t e l jj x ms ∧ (gets d ts 1 l jj ms ∨ freed d 1 l)) from fun hh => hh.2.elim HG.out HNF.out)
            have R1 : CF w6 (w.heap.size + 3) [.int .i64 0, .int .i64 0, .bool false, .int .i64 0, .int .i64 0, .int .i64 0, .int .i64 0, .int .i64 0, .slice none 0 0, .string ⟨#[]⟩, .int .i64 0, .slice none 0 0] := S6.c 3 (by simp)
            have b0 : w6.cell? ⟨X + 1, 0, none⟩ = some (.int .i64 d.nu) := (Y6 0 (by simp)).1
            have b1 : w6.cell? ⟨X + 1, 1, none⟩ = some (.int .i64 d.ep) := (Y6 1 (by simp)).1
            have b2 : w6.cell? ⟨X + 1, 2, none⟩ = some (.bool d.up) := (Y6 2 (by simp)).1
            have b3 : w6.cell? ⟨X + 1, 3, none⟩ = some (.int .i64 d.st) := (Y6 3 (by simp)).1
            have b4 : w6.cell? ⟨X + 1, 4, none⟩ = some (.int .i64 d.le) := (Y6 4 (by simp)).1
            have b5 : w6.cell? ⟨X + 1, 5, none⟩ = some (.int .i64 d.ta) := (Y6 5 (by simp)).1
            have b6 : w6.cell? ⟨X + 1, 6, none⟩ = some (.int .i64 d.co) := (Y6 6 (by simp)).1
            have b7 : w6.cell? ⟨X + 1, 7, none⟩ = some (.int .i64 d.lf) := (Y6 7 (by simp)).1
            have b8 : w6.cell? ⟨X + 1, 8, none⟩ = some (.slice a1 d.ss.length c1) := (Y6 8 (by simp)).1
            have b9 : w6.cell? ⟨X + 1, 9, none⟩ = some (.string d.x) := (Y6 9 (by simp)).1
            have b10 : w6.cell? ⟨X + 1, 10, none⟩ = some (.int .i64 d.si) := (Y6 10 (by simp)).1
            have b11 : w6.cell? ⟨X + 1, 11, none⟩ = some (.slice none 0 0) := (Y6 11 (by simp)).1
            go_wp2_with (refine wpList_store_cf rfl 36 (.tmp 6) (.tmp 93) rfl (w.heap.size + 3) [.int .i64 0, .int .i64 0, .bool false, .int .i64 0, .int .i64 0, .int .i64 0, .int .i64 0, .int .i64 0, .slice none 0 0, .string ⟨#[]⟩, .int .i64 0, .slice none 0 0] [.int .i64 d.nu, .int .i64 d.ep, .bool d.up, .int .i64 d.st, .int .i64 d.le, .int .i64 d.ta, .int .i64 d.co, .int .i64 d.lf, .slice a1 d.ss.length c1, .string d.x, .int .i64 d.si, .slice none 0 0] rfl rfl R1 rfl Tryd.sizeAc (one12 _ _ _ _ _ _ _ _ _ _ _ _ _ _ _ _) ?_; intro w10 hc10 hg10)
            clear b0 b1 b2 b3 b4 b5 b6 b7 b8 b9 b10 b11
            have k0 : w10.cell? ⟨w.heap.size + 3, 0, none⟩ = some (.int .i64 d.nu) := (hc10 0 (by simp)).1
            have k1 : w10.cell? ⟨w.heap.size + 3, 1, none⟩ = some (.int .i64 d.ep) := (hc10 1 (by simp)).1
            have k2 : w10.cell? ⟨w.heap.size + 3, 2, none⟩ = some (.bool d.up) := (hc10 2 (by simp)).1
            have k3 : w10.cell? ⟨w.heap.size + 3, 3, none⟩ = some (.int .i64 d.st) := (hc10 3 (by simp)).1
            have k4 : w10.cell? ⟨w.heap.size + 3, 4, none⟩ = some (.int .i64 d.le) := (hc10 4 (by simp)).1
            have k5 : w10.cell? ⟨w.heap.size + 3, 5, none⟩ = some (.int .i64 d.ta) := (hc10 5 (by simp)).1
            have k6 : w10.cell? ⟨w.heap.size + 3, 6, none⟩ = some (.int .i64 d.co) := (hc10 6 (by simp)).1
            have k7 : w10.cell? ⟨w.heap.size + 3, 7, none⟩ = some (.int .i64 d.lf) := (hc10 7 (by simp)).1
            have k8 : w10.cell? ⟨w.heap.size + 3, 8, none⟩ = some (.slice a1 d.ss.length c1) := (hc10 8 (by simp)).1
            have k9 : w10.cell? ⟨w.heap.size + 3, 9, none⟩ = some (.string d.x) := (hc10 9 (by simp)).1
            have k10 : w10.cell? ⟨w.heap.size + 3, 10, none⟩ = some (.int .i64 d.si) := (hc10 10 (by simp)).1
            have k11 : w10.cell? ⟨w.heap.size + 3, 11, none⟩ = some (.slice none 0 0) := (hc10 11 (by simp)).1
            exact bodyPost_ret (v := .agg #[.int .i64 d.nu, .int .i64 d.ep, .bool d.up, .int .i64 d.st, .int .i64 d.le, .int .i64 d.ta, .int .i64 d.co, .int .i64 d.lf, .slice a1 d.ss.length c1, .string d.x, .int .i64 d.si, .slice none 0 0]) (by simp [results, Tryd.results7, go_sem, k0, k1, k2, k3, k4, k5, k6, k7, k8, k9, k10, k11]) rfl ⟨RetT.mk d a1 c1 ((q6.grown hg10 (.inr (by intro hh; have := q6.row_lo _ hh; simp at this <;> omega))).mono' (by simp <;> omega)) (.inl ⟨HOK.out, HC.out, .inr (.inr ⟨HNO.out, rfl⟩)⟩), below_grown S6.B hg10 (by have := S6.z; simp at this <;> omega) (fun q hq => by simp at hq; omega)⟩

end Go.Proofs.YthogdlabinnndaaDoor
