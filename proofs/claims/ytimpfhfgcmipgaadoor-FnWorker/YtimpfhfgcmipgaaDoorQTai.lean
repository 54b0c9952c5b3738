
import Derived.Test.YtimpfhfgcmipgaaDoorQTa0
import Derived.Test.YtimpfhfgcmipgaaDoorQWki
import Derived.Test.YtimpfhfgcmipgaaDoorQWcq
import Derived.Test.YtimpfhfgcmipgaaDoorQWkv
import Derived.Test.YtimpfhfgcmipgaaDoorQSChk
import Derived.Test.YtimpfhfgcmipgaaDoorQWst
import Derived.Test.YtimpfhfgcmipgaaDoorQWcp
import Derived.Test.YtimpfhfgcmipgaaDoorQHld
namespace Go.Proofs.YtimpfhfgcmipgaaDoor
open Go.RowKit

theorem WD.ok0 {d : WD} (h : d.ok) (hs : d.st = 0) : d = ⟨d.nu, d.ep, d.up, 0, 0, 0, 0, 0, [], ⟨#[]⟩, d.si⟩ := by
  obtain ⟨nu, ep, up, st, le, ta, co, lf, ss, x, si⟩ := d
  dsimp only at hs
  subst hs
  obtain ⟨_, rfl, rfl, rfl, rfl, h1, h2⟩ := (vW0 _ _ _ _ _ _ _ _ _ _).1 h
  have e1 := List.eq_nil_of_length_eq_zero h1
  have e2 := bytes0 h2
  subst e1
  dsimp only at e2
  subst e2
  rfl
theorem WD.ok1 {d : WD} (h : d.ok) (hs : d.st = 1) : d = ⟨d.nu, d.ep, d.up, 1, d.le, d.ta, d.co, d.lf, d.ss, ⟨#[]⟩, d.si⟩ := by
  obtain ⟨nu, ep, up, st, le, ta, co, lf, ss, x, si⟩ := d
  dsimp only at hs
  subst hs
  obtain ⟨_, _, _, _, _, _, _, _, _, h2, _⟩ := (vW1 _ _ _ _ _ _ _ _ _ _).1 h
  have e2 := bytes0 h2
  dsimp only at e2
  subst e2
  rfl
theorem WD.ok2 {d : WD} (h : d.ok) (hs : d.st = 2) : d = ⟨d.nu, d.ep, d.up, 2, d.le, d.ta, 0, 0, [], d.x, d.si⟩ := by
  obtain ⟨nu, ep, up, st, le, ta, co, lf, ss, x, si⟩ := d
  dsimp only at hs
  subst hs
  have hh := h.2.2.2.2.2.2.2
  dsimp only at hh
  rcases hh with hh | hh | hh
  · exact absurd hh.1 (by decide)
  · exact absurd hh.1 (by decide)
  · obtain ⟨_, _, _, _, _, _, rfl, rfl, h1⟩ := hh
    have e1 := List.eq_nil_of_length_eq_zero h1
    subst e1
    rfl

set_option maxHeartbeats 8000000 in
set_option maxRecDepth 100000 in
theorem taken_0 (d : WD) (a : Option Addr) (b o c : Nat) (pa : Option Addr) (pb po pn pc : Nat) (ts : List TaskD) (k f t e l dd : Int) (x : ByteArray) (ma : Option Addr) (mb mo mc : Nat) (ms : List ByteArray) (w : World) (_h : StrsAt w a b o d.ss.length d.ss) (hp : TasksAt w pa pb po pn ts) (hm : StrsAt w ma mb mo ms.length ms) (_hn : d.ss.length ≤ 1048576) (hmn : ms.length ≤ 1048576) (hTab : Tab w) (hok : d.ok) (hst : d.st = 0) :
    Calls Tryd.prog 26 #[.agg #[.int .i64 d.nu, .int .i64 d.ep, .bool d.up, .int .i64 d.st, .int .i64 d.le, .int .i64 d.ta, .int .i64 d.co, .int .i64 d.lf, .slice a d.ss.length c, .string d.x, .int .i64 d.si], .agg #[.slice pa pn pc], .agg #[.int .i64 k, .int .i64 f, .int .i64 t, .int .i64 e, .int .i64 l, .int .i64 dd, .string x, .slice ma ms.length mc]] w fun e' w' => RetW e' w.heap.size w' (takeK d ts k f t e l dd x ms) ∧ Below w.heap.size w w' := by
  obtain ⟨W, hW⟩ : ∃ W, W = (((w.alloc (.cells #[.int .i64 d.nu, .int .i64 d.ep, .bool d.up, .int .i64 d.st, .int .i64 d.le, .int .i64 d.ta, .int .i64 d.co, .int .i64 d.lf, .slice a d.ss.length c, .string d.x, .int .i64 d.si] 25)).alloc (.cells #[.slice pa pn pc] 28)).alloc (.cells #[.int .i64 k, .int .i64 f, .int .i64 t, .int .i64 e, .int .i64 l, .int .i64 dd, .string x, .slice ma ms.length mc] 34)).alloc (.cells #[.int .i64 0, .int .i64 0, .bool false, .int .i64 0, .int .i64 0, .int .i64 0, .int .i64 0, .int .i64 0, .slice none 0 0, .string ⟨#[]⟩, .int .i64 0] 25) := ⟨_, rfl⟩
  have B0 : Below w.heap.size w W := by rw [hW]; exact ((((Below.refl _ _).alloc (Nat.le_refl _) _).alloc (by simp) _).alloc (by simp <;> omega) _).alloc (by simp <;> omega) _
  have z0 : w.heap.size + 4 ≤ W.heap.size := by rw [hW]; simp
  have S0 : Bx w [[.int .i64 d.nu, .int .i64 d.ep, .bool d.up, .int .i64 d.st, .int .i64 d.le, .int .i64 d.ta, .int .i64 d.co, .int .i64 d.lf, .slice a d.ss.length c, .string d.x, .int .i64 d.si], [.slice pa pn pc], [.int .i64 k, .int .i64 f, .int .i64 t, .int .i64 e, .int .i64 l, .int .i64 dd, .string x, .slice ma ms.length mc], [.int .i64 0, .int .i64 0, .bool false, .int .i64 0, .int .i64 0, .int .i64 0, .int .i64 0, .int .i64 0, .slice none 0 0, .string ⟨#[]⟩, .int .i64 0]] W := by
    refine ⟨fun i hi => ?_, B0, z0⟩
    have hi' : i < 4 := hi
    rw [hW]
    match i, hi' with
    | 0, _ => exact (((CF.made w #[.int .i64 d.nu, .int .i64 d.ep, .bool d.up, .int .i64 d.st, .int .i64 d.le, .int .i64 d.ta, .int .i64 d.co, .int .i64 d.lf, .slice a d.ss.length c, .string d.x, .int .i64 d.si] 25).block (Below.heap_alloc _ _ _ (by simp))).block (Below.heap_alloc _ _ _ (by simp <;> omega))).block (Below.heap_alloc _ _ _ (by simp <;> omega))
    | 1, _ =>
      have := CF.made (w.alloc (.cells #[.int .i64 d.nu, .int .i64 d.ep, .bool d.up, .int .i64 d.st, .int .i64 d.le, .int .i64 d.ta, .int .i64 d.co, .int .i64 d.lf, .slice a d.ss.length c, .string d.x, .int .i64 d.si] 25)) #[.slice pa pn pc] 28
      rw [World.size_alloc] at this
      exact (this.block (Below.heap_alloc _ _ _ (by simp))).block (Below.heap_alloc _ _ _ (by simp <;> omega))
    | 2, _ =>
      have := CF.made ((w.alloc (.cells #[.int .i64 d.nu, .int .i64 d.ep, .bool d.up, .int .i64 d.st, .int .i64 d.le, .int .i64 d.ta, .int .i64 d.co, .int .i64 d.lf, .slice a d.ss.length c, .string d.x, .int .i64 d.si] 25)).alloc (.cells #[.slice pa pn pc] 28)) #[.int .i64 k, .int .i64 f, .int .i64 t, .int .i64 e, .int .i64 l, .int .i64 dd, .string x, .slice ma ms.length mc] 34
      rw [World.size_alloc, World.size_alloc] at this
      exact this.block (Below.heap_alloc _ _ _ (by simp))
    | 3, _ =>
      have := CF.made (((w.alloc (.cells #[.int .i64 d.nu, .int .i64 d.ep, .bool d.up, .int .i64 d.st, .int .i64 d.le, .int .i64 d.ta, .int .i64 d.co, .int .i64 d.lf, .slice a d.ss.length c, .string d.x, .int .i64 d.si] 25)).alloc (.cells #[.slice pa pn pc] 28)).alloc (.cells #[.int .i64 k, .int .i64 f, .int .i64 t, .int .i64 e, .int .i64 l, .int .i64 dd, .string x, .slice ma ms.length mc] 34)) #[.int .i64 0, .int .i64 0, .bool false, .int .i64 0, .int .i64 0, .int .i64 0, .int .i64 0, .int .i64 0, .slice none 0 0, .string ⟨#[]⟩, .int .i64 0] 25
      rw [World.size_alloc, World.size_alloc, World.size_alloc] at this
      exact this
  clear B0 z0
  have HW := hid hW
  clear hW
  have HOK := hid hok
  have HST := hid hst
  clear hok hst
  have hml := hp.max
  unfold maxLen at hml
  go_enter Tryd.func26, Tryd.ntmps26
  go_upto_region 1 with fail
  rw [← HW.out]
  clear HW
  have y0 : W.cell? ⟨w.heap.size, 0, none⟩ = some (.int .i64 d.nu) := (S0.c 0 (by simp) 0 (by simp)).1
  have y1 : W.cell? ⟨w.heap.size, 1, none⟩ = some (.int .i64 d.ep) := (S0.c 0 (by simp) 1 (by simp)).1
  have y2 : W.cell? ⟨w.heap.size, 2, none⟩ = some (.bool d.up) := (S0.c 0 (by simp) 2 (by simp)).1
  have y3 : W.cell? ⟨w.heap.size, 3, none⟩ = some (.int .i64 d.st) := (S0.c 0 (by simp) 3 (by simp)).1
  have y4 : W.cell? ⟨w.heap.size, 4, none⟩ = some (.int .i64 d.le) := (S0.c 0 (by simp) 4 (by simp)).1
  have y5 : W.cell? ⟨w.heap.size, 5, none⟩ = some (.int .i64 d.ta) := (S0.c 0 (by simp) 5 (by simp)).1
  have y6 : W.cell? ⟨w.heap.size, 6, none⟩ = some (.int .i64 d.co) := (S0.c 0 (by simp) 6 (by simp)).1
  have y7 : W.cell? ⟨w.heap.size, 7, none⟩ = some (.int .i64 d.lf) := (S0.c 0 (by simp) 7 (by simp)).1
  have y8 : W.cell? ⟨w.heap.size, 8, none⟩ = some (.slice a d.ss.length c) := (S0.c 0 (by simp) 8 (by simp)).1
  have y9 : W.cell? ⟨w.heap.size, 9, none⟩ = some (.string d.x) := (S0.c 0 (by simp) 9 (by simp)).1
  have y10 : W.cell? ⟨w.heap.size, 10, none⟩ = some (.int .i64 d.si) := (S0.c 0 (by simp) 10 (by simp)).1
  rw [HST.out] at y3
  go_wp2_with fail
  refine (stateOf_0 d.nu d.ep d.up d.le d.ta d.co d.lf a d.ss.length c d.x d.si _).mono ?_
  rintro e' w1 ⟨rfl, hw1⟩
  have S1 := S0.alloc (.cells #[.int .i64 d.nu, .int .i64 d.ep, .bool d.up, .int .i64 0, .int .i64 d.le, .int .i64 d.ta, .int .i64 d.co, .int .i64 d.lf, .slice a d.ss.length c, .string d.x, .int .i64 d.si] 25)
  rw [← hw1] at S1
  clear y0 y1 y2 y3 y4 y5 y6 y7 y8 y9 y10
  clear hw1 S0
  go_upto_region 2 with fail
  have y2 : w1.cell? ⟨w.heap.size, 2, none⟩ = some (.bool d.up) := (S1.c 0 (by simp) 2 (by simp)).1
  cases hup : d.up with
  | false =>
    rw [hup] at y2
    have HUP := hid hup
    clear hup
    go_upto_region 10 with fail
    clear y2
    have HNO := hid (show ¬ (hears d k f t e l dd x ms ∧ (gets d ts k l dd ms ∨ freed d k l)) from fun hh => by have := hh.1.1; rw [HUP.out] at this; cases this)
    have y0 : w1.cell? ⟨w.heap.size, 0, none⟩ = some (.int .i64 d.nu) := (S1.c 0 (by simp) 0 (by simp)).1
    have y1 : w1.cell? ⟨w.heap.size, 1, none⟩ = some (.int .i64 d.ep) := (S1.c 0 (by simp) 1 (by simp)).1
    have y2 : w1.cell? ⟨w.heap.size, 2, none⟩ = some (.bool d.up) := (S1.c 0 (by simp) 2 (by simp)).1
    have y3 : w1.cell? ⟨w.heap.size, 3, none⟩ = some (.int .i64 d.st) := (S1.c 0 (by simp) 3 (by simp)).1
    have y4 : w1.cell? ⟨w.heap.size, 4, none⟩ = some (.int .i64 d.le) := (S1.c 0 (by simp) 4 (by simp)).1
    have y5 : w1.cell? ⟨w.heap.size, 5, none⟩ = some (.int .i64 d.ta) := (S1.c 0 (by simp) 5 (by simp)).1
    have y6 : w1.cell? ⟨w.heap.size, 6, none⟩ = some (.int .i64 d.co) := (S1.c 0 (by simp) 6 (by simp)).1
    have y7 : w1.cell? ⟨w.heap.size, 7, none⟩ = some (.int .i64 d.lf) := (S1.c 0 (by simp) 7 (by simp)).1
    have y8 : w1.cell? ⟨w.heap.size, 8, none⟩ = some (.slice a d.ss.length c) := (S1.c 0 (by simp) 8 (by simp)).1
    have y9 : w1.cell? ⟨w.heap.size, 9, none⟩ = some (.string d.x) := (S1.c 0 (by simp) 9 (by simp)).1
    have y10 : w1.cell? ⟨w.heap.size, 10, none⟩ = some (.int .i64 d.si) := (S1.c 0 (by simp) 10 (by simp)).1
    go_wp2_with fail
    refine (inState_0 d.nu d.ep d.up d.st d.le d.ta d.co d.lf a d.ss.length c d.x d.si _).mono ?_
    rintro e' w8 ⟨rfl, hb8⟩
    have S8 := S1.below hb8
    have R8 : CF w8 (w.heap.size + 3) [.int .i64 0, .int .i64 0, .bool false, .int .i64 0, .int .i64 0, .int .i64 0, .int .i64 0, .int .i64 0, .slice none 0 0, .string ⟨#[]⟩, .int .i64 0] := S8.c 3 (by simp)
    clear y0 y1 y2 y3 y4 y5 y6 y7 y8 y9 y10
    go_wp2_with (refine wpList_store_cf rfl 25 (.tmp 6) (.tmp 72) rfl (w.heap.size + 3) [.int .i64 0, .int .i64 0, .bool false, .int .i64 0, .int .i64 0, .int .i64 0, .int .i64 0, .int .i64 0, .slice none 0 0, .string ⟨#[]⟩, .int .i64 0] [.int .i64 d.nu, .int .i64 d.ep, .bool d.up, .int .i64 0, .int .i64 0, .int .i64 0, .int .i64 0, .int .i64 0, .slice none 0 0, .string ⟨#[]⟩, .int .i64 d.si] rfl rfl R8 rfl Tryd.sizeWk (one11 _ _ _ _ _ _ _ _ _ _ _ _ _) ?_; intro w10 hc10 hg10)
    have k0 : w10.cell? ⟨w.heap.size + 3, 0, none⟩ = some (.int .i64 d.nu) := (hc10 0 (by simp)).1
    have k1 : w10.cell? ⟨w.heap.size + 3, 1, none⟩ = some (.int .i64 d.ep) := (hc10 1 (by simp)).1
    have k2 : w10.cell? ⟨w.heap.size + 3, 2, none⟩ = some (.bool d.up) := (hc10 2 (by simp)).1
    have k3 : w10.cell? ⟨w.heap.size + 3, 3, none⟩ = some (.int .i64 0) := (hc10 3 (by simp)).1
    have k4 : w10.cell? ⟨w.heap.size + 3, 4, none⟩ = some (.int .i64 0) := (hc10 4 (by simp)).1
    have k5 : w10.cell? ⟨w.heap.size + 3, 5, none⟩ = some (.int .i64 0) := (hc10 5 (by simp)).1
    have k6 : w10.cell? ⟨w.heap.size + 3, 6, none⟩ = some (.int .i64 0) := (hc10 6 (by simp)).1
    have k7 : w10.cell? ⟨w.heap.size + 3, 7, none⟩ = some (.int .i64 0) := (hc10 7 (by simp)).1
    have k8 : w10.cell? ⟨w.heap.size + 3, 8, none⟩ = some (.slice none 0 0) := (hc10 8 (by simp)).1
    have k9 : w10.cell? ⟨w.heap.size + 3, 9, none⟩ = some (.string ⟨#[]⟩) := (hc10 9 (by simp)).1
    have k10 : w10.cell? ⟨w.heap.size + 3, 10, none⟩ = some (.int .i64 d.si) := (hc10 10 (by simp)).1
    refine bodyPost_ret (v := .agg #[.int .i64 d.nu, .int .i64 d.ep, .bool d.up, .int .i64 0, .int .i64 0, .int .i64 0, .int .i64 0, .int .i64 0, .slice none 0 0, .string ⟨#[]⟩, .int .i64 d.si]) (by simp [results, Tryd.results26, go_sem, k0, k1, k2, k3, k4, k5, k6, k7, k8, k9, k10]) rfl ⟨?_, below_grown S8.B hg10 (by have := S8.z; simp at this <;> omega) (fun q hq => by simp at hq; omega)⟩
    exact ⟨⟨d.nu, d.ep, d.up, 0, 0, 0, 0, 0, [], ⟨#[]⟩, d.si⟩, none, 0, rfl, Own.nil _ _ _, .inr (.inr ⟨HNO.out, (WD.ok0 HOK.out HST.out).symm⟩)⟩
  | true =>
    rw [hup] at y2
    have HUP := hid hup
    clear hup
    have m0 : w1.cell? ⟨w.heap.size + 2, 0, none⟩ = some (.int .i64 k) := (S1.c 2 (by simp) 0 (by simp)).1
    have m1 : w1.cell? ⟨w.heap.size + 2, 1, none⟩ = some (.int .i64 f) := (S1.c 2 (by simp) 1 (by simp)).1
    have m2 : w1.cell? ⟨w.heap.size + 2, 2, none⟩ = some (.int .i64 t) := (S1.c 2 (by simp) 2 (by simp)).1
    have m3 : w1.cell? ⟨w.heap.size + 2, 3, none⟩ = some (.int .i64 e) := (S1.c 2 (by simp) 3 (by simp)).1
    have m4 : w1.cell? ⟨w.heap.size + 2, 4, none⟩ = some (.int .i64 l) := (S1.c 2 (by simp) 4 (by simp)).1
    have m5 : w1.cell? ⟨w.heap.size + 2, 5, none⟩ = some (.int .i64 dd) := (S1.c 2 (by simp) 5 (by simp)).1
    have m6 : w1.cell? ⟨w.heap.size + 2, 6, none⟩ = some (.string x) := (S1.c 2 (by simp) 6 (by simp)).1
    have m7 : w1.cell? ⟨w.heap.size + 2, 7, none⟩ = some (.slice ma ms.length mc) := (S1.c 2 (by simp) 7 (by simp)).1
    go_wp2_with fail
    refine (valid_any k f t e l dd x ma mb mo ms.length mc ms _ (hTab.below' S1.B) (hm.below' S1.B)).mono ?_
    rintro e' w2 ⟨⟨r, rfl, hr⟩, hb2⟩
    have S2 := S1.below hb2
    clear m0 m1 m2 m3 m4 m5 m6 m7
    clear y2 hb2 S1
    have HR := hid hr
    clear hr
    cases r with
    | false =>
      have HV := hid (show ¬ vM k f t e l dd x.size ms from fun hh => by have := HR.out.2 hh; cases this)
      go_upto_region 10 with fail
      have HNO := hid (show ¬ (hears d k f t e l dd x ms ∧ (gets d ts k l dd ms ∨ freed d k l)) from fun hh => HV.out hh.1.2.1)
      have y0 : w2.cell? ⟨w.heap.size, 0, none⟩ = some (.int .i64 d.nu) := (S2.c 0 (by simp) 0 (by simp)).1
      have y1 : w2.cell? ⟨w.heap.size, 1, none⟩ = some (.int .i64 d.ep) := (S2.c 0 (by simp) 1 (by simp)).1
      have y2 : w2.cell? ⟨w.heap.size, 2, none⟩ = some (.bool d.up) := (S2.c 0 (by simp) 2 (by simp)).1
      have y3 : w2.cell? ⟨w.heap.size, 3, none⟩ = some (.int .i64 d.st) := (S2.c 0 (by simp) 3 (by simp)).1
      have y4 : w2.cell? ⟨w.heap.size, 4, none⟩ = some (.int .i64 d.le) := (S2.c 0 (by simp) 4 (by simp)).1
      have y5 : w2.cell? ⟨w.heap.size, 5, none⟩ = some (.int .i64 d.ta) := (S2.c 0 (by simp) 5 (by simp)).1
      have y6 : w2.cell? ⟨w.heap.size, 6, none⟩ = some (.int .i64 d.co) := (S2.c 0 (by simp) 6 (by simp)).1
      have y7 : w2.cell? ⟨w.heap.size, 7, none⟩ = some (.int .i64 d.lf) := (S2.c 0 (by simp) 7 (by simp)).1
      have y8 : w2.cell? ⟨w.heap.size, 8, none⟩ = some (.slice a d.ss.length c) := (S2.c 0 (by simp) 8 (by simp)).1
      have y9 : w2.cell? ⟨w.heap.size, 9, none⟩ = some (.string d.x) := (S2.c 0 (by simp) 9 (by simp)).1
      have y10 : w2.cell? ⟨w.heap.size, 10, none⟩ = some (.int .i64 d.si) := (S2.c 0 (by simp) 10 (by simp)).1
      go_wp2_with fail
      refine (inState_0 d.nu d.ep d.up d.st d.le d.ta d.co d.lf a d.ss.length c d.x d.si _).mono ?_
      rintro e' w8 ⟨rfl, hb8⟩
      have S8 := S2.below hb8
      have R8 : CF w8 (w.heap.size + 3) [.int .i64 0, .int .i64 0, .bool false, .int .i64 0, .int .i64 0, .int .i64 0, .int .i64 0, .int .i64 0, .slice none 0 0, .string ⟨#[]⟩, .int .i64 0] := S8.c 3 (by simp)
      clear y0 y1 y2 y3 y4 y5 y6 y7 y8 y9 y10
      go_wp2_with (refine wpList_store_cf rfl 25 (.tmp 6) (.tmp 72) rfl (w.heap.size + 3) [.int .i64 0, .int .i64 0, .bool false, .int .i64 0, .int .i64 0, .int .i64 0, .int .i64 0, .int .i64 0, .slice none 0 0, .string ⟨#[]⟩, .int .i64 0] [.int .i64 d.nu, .int .i64 d.ep, .bool d.up, .int .i64 0, .int .i64 0, .int .i64 0, .int .i64 0, .int .i64 0, .slice none 0 0, .string ⟨#[]⟩, .int .i64 d.si] rfl rfl R8 rfl Tryd.sizeWk (one11 _ _ _ _ _ _ _ _ _ _ _ _ _) ?_; intro w10 hc10 hg10)
      have k0 : w10.cell? ⟨w.heap.size + 3, 0, none⟩ = some (.int .i64 d.nu) := (hc10 0 (by simp)).1
      have k1 : w10.cell? ⟨w.heap.size + 3, 1, none⟩ = some (.int .i64 d.ep) := (hc10 1 (by simp)).1
      have k2 : w10.cell? ⟨w.heap.size + 3, 2, none⟩ = some (.bool d.up) := (hc10 2 (by simp)).1
      have k3 : w10.cell? ⟨w.heap.size + 3, 3, none⟩ = some (.int .i64 0) := (hc10 3 (by simp)).1
      have k4 : w10.cell? ⟨w.heap.size + 3, 4, none⟩ = some (.int .i64 0) := (hc10 4 (by simp)).1
      have k5 : w10.cell? ⟨w.heap.size + 3, 5, none⟩ = some (.int .i64 0) := (hc10 5 (by simp)).1
      have k6 : w10.cell? ⟨w.heap.size + 3, 6, none⟩ = some (.int .i64 0) := (hc10 6 (by simp)).1
      have k7 : w10.cell? ⟨w.heap.size + 3, 7, none⟩ = some (.int .i64 0) := (hc10 7 (by simp)).1
      have k8 : w10.cell? ⟨w.heap.size + 3, 8, none⟩ = some (.slice none 0 0) := (hc10 8 (by simp)).1
      have k9 : w10.cell? ⟨w.heap.size + 3, 9, none⟩ = some (.string ⟨#[]⟩) := (hc10 9 (by simp)).1
      have k10 : w10.cell? ⟨w.heap.size + 3, 10, none⟩ = some (.int .i64 d.si) := (hc10 10 (by simp)).1
      refine bodyPost_ret (v := .agg #[.int .i64 d.nu, .int .i64 d.ep, .bool d.up, .int .i64 0, .int .i64 0, .int .i64 0, .int .i64 0, .int .i64 0, .slice none 0 0, .string ⟨#[]⟩, .int .i64 d.si]) (by simp [results, Tryd.results26, go_sem, k0, k1, k2, k3, k4, k5, k6, k7, k8, k9, k10]) rfl ⟨?_, below_grown S8.B hg10 (by have := S8.z; simp at this <;> omega) (fun q hq => by simp at hq; omega)⟩
      exact ⟨⟨d.nu, d.ep, d.up, 0, 0, 0, 0, 0, [], ⟨#[]⟩, d.si⟩, none, 0, rfl, Own.nil _ _ _, .inr (.inr ⟨HNO.out, (WD.ok0 HOK.out HST.out).symm⟩)⟩
    | true =>
      have HV := hid (show vM k f t e l dd x.size ms from HR.out.1 rfl)
      clear HR
      have m2 : w2.cell? ⟨w.heap.size + 2, 2, none⟩ = some (.int .i64 t) := (S2.c 2 (by simp) 2 (by simp)).1
      have y0 : w2.cell? ⟨w.heap.size, 0, none⟩ = some (.int .i64 d.nu) := (S2.c 0 (by simp) 0 (by simp)).1
      by_cases ct : t = d.nu
      case neg =>
        have ctb : (t == d.nu) = false := beq_eq_false_iff_ne.2 ct
        have HT := hid ct
        clear ct
        go_upto_region 10 with fail
        clear m2 y0 ctb
        have HNO := hid (show ¬ (hears d k f t e l dd x ms ∧ (gets d ts k l dd ms ∨ freed d k l)) from fun hh => HT.out hh.1.2.2)
        have y0 : w2.cell? ⟨w.heap.size, 0, none⟩ = some (.int .i64 d.nu) := (S2.c 0 (by simp) 0 (by simp)).1
        have y1 : w2.cell? ⟨w.heap.size, 1, none⟩ = some (.int .i64 d.ep) := (S2.c 0 (by simp) 1 (by simp)).1
        have y2 : w2.cell? ⟨w.heap.size, 2, none⟩ = some (.bool d.up) := (S2.c 0 (by simp) 2 (by simp)).1
        have y3 : w2.cell? ⟨w.heap.size, 3, none⟩ = some (.int .i64 d.st) := (S2.c 0 (by simp) 3 (by simp)).1
        have y4 : w2.cell? ⟨w.heap.size, 4, none⟩ = some (.int .i64 d.le) := (S2.c 0 (by simp) 4 (by simp)).1
        have y5 : w2.cell? ⟨w.heap.size, 5, none⟩ = some (.int .i64 d.ta) := (S2.c 0 (by simp) 5 (by simp)).1
        have y6 : w2.cell? ⟨w.heap.size, 6, none⟩ = some (.int .i64 d.co) := (S2.c 0 (by simp) 6 (by simp)).1
        have y7 : w2.cell? ⟨w.heap.size, 7, none⟩ = some (.int .i64 d.lf) := (S2.c 0 (by simp) 7 (by simp)).1
        have y8 : w2.cell? ⟨w.heap.size, 8, none⟩ = some (.slice a d.ss.length c) := (S2.c 0 (by simp) 8 (by simp)).1
        have y9 : w2.cell? ⟨w.heap.size, 9, none⟩ = some (.string d.x) := (S2.c 0 (by simp) 9 (by simp)).1
        have y10 : w2.cell? ⟨w.heap.size, 10, none⟩ = some (.int .i64 d.si) := (S2.c 0 (by simp) 10 (by simp)).1
        go_wp2_with fail
        refine (inState_0 d.nu d.ep d.up d.st d.le d.ta d.co d.lf a d.ss.length c d.x d.si _).mono ?_
        rintro e' w8 ⟨rfl, hb8⟩
        have S8 := S2.below hb8
        have R8 : CF w8 (w.heap.size + 3) [.int .i64 0, .int .i64 0, .bool false, .int .i64 0, .int .i64 0, .int .i64 0, .int .i64 0, .int .i64 0, .slice none 0 0, .string ⟨#[]⟩, .int .i64 0] := S8.c 3 (by simp)
        clear y0 y1 y2 y3 y4 y5 y6 y7 y8 y9 y10
        go_wp2_with (refine wpList_store_cf rfl 25 (.tmp 6) (.tmp 72) rfl (w.heap.size + 3) [.int .i64 0, .int .i64 0, .bool false, .int .i64 0, .int .i64 0, .int .i64 0, .int .i64 0, .int .i64 0, .slice none 0 0, .string ⟨#[]⟩, .int .i64 0] [.int .i64 d.nu, .int .i64 d.ep, .bool d.up, .int .i64 0, .int .i64 0, .int .i64 0, .int .i64 0, .int .i64 0, .slice none 0 0, .string ⟨#[]⟩, .int .i64 d.si] rfl rfl R8 rfl Tryd.sizeWk (one11 _ _ _ _ _ _ _ _ _ _ _ _ _) ?_; intro w10 hc10 hg10)
        have k0 : w10.cell? ⟨w.heap.size + 3, 0, none⟩ = some (.int .i64 d.nu) := (hc10 0 (by simp)).1
        have k1 : w10.cell? ⟨w.heap.size + 3, 1, none⟩ = some (.int .i64 d.ep) := (hc10 1 (by simp)).1
        have k2 : w10.cell? ⟨w.heap.size + 3, 2, none⟩ = some (.bool d.up) := (hc10 2 (by simp)).1
        have k3 : w10.cell? ⟨w.heap.size + 3, 3, none⟩ = some (.int .i64 0) := (hc10 3 (by simp)).1
        have k4 : w10.cell? ⟨w.heap.size + 3, 4, none⟩ = some (.int .i64 0) := (hc10 4 (by simp)).1
        have k5 : w10.cell? ⟨w.heap.size + 3, 5, none⟩ = some (.int .i64 0) := (hc10 5 (by simp)).1
        have k6 : w10.cell? ⟨w.heap.size + 3, 6, none⟩ = some (.int .i64 0) := (hc10 6 (by simp)).1
        have k7 : w10.cell? ⟨w.heap.size + 3, 7, none⟩ = some (.int .i64 0) := (hc10 7 (by simp)).1
        have k8 : w10.cell? ⟨w.heap.size + 3, 8, none⟩ = some (.slice none 0 0) := (hc10 8 (by simp)).1
        have k9 : w10.cell? ⟨w.heap.size + 3, 9, none⟩ = some (.string ⟨#[]⟩) := (hc10 9 (by simp)).1
        have k10 : w10.cell? ⟨w.heap.size + 3, 10, none⟩ = some (.int .i64 d.si) := (hc10 10 (by simp)).1
        refine bodyPost_ret (v := .agg #[.int .i64 d.nu, .int .i64 d.ep, .bool d.up, .int .i64 0, .int .i64 0, .int .i64 0, .int .i64 0, .int .i64 0, .slice none 0 0, .string ⟨#[]⟩, .int .i64 d.si]) (by simp [results, Tryd.results26, go_sem, k0, k1, k2, k3, k4, k5, k6, k7, k8, k9, k10]) rfl ⟨?_, below_grown S8.B hg10 (by have := S8.z; simp at this <;> omega) (fun q hq => by simp at hq; omega)⟩
        exact ⟨⟨d.nu, d.ep, d.up, 0, 0, 0, 0, 0, [], ⟨#[]⟩, d.si⟩, none, 0, rfl, Own.nil _ _ _, .inr (.inr ⟨HNO.out, (WD.ok0 HOK.out HST.out).symm⟩)⟩
      have HT := hid ct
      have ctb : (t == d.nu) = true := beq_iff_eq.2 ct
      clear ct
      go_upto_region 3 with fail
      clear m2 y0 ctb
      have m0 : w2.cell? ⟨w.heap.size + 2, 0, none⟩ = some (.int .i64 k) := (S2.c 2 (by simp) 0 (by simp)).1
      have m4 : w2.cell? ⟨w.heap.size + 2, 4, none⟩ = some (.int .i64 l) := (S2.c 2 (by simp) 4 (by simp)).1
      by_cases c1 : k = 1
      case neg =>
        have c1b : (k == 1) = false := beq_eq_false_iff_ne.2 c1
        have HG := hid (show ¬ gets d ts k l dd ms from fun hh => c1 hh.1)
        clear c1
        by_cases c4 : k = 4
        case neg =>
          have c4b : (k == 4) = false := beq_eq_false_iff_ne.2 c4
          have HF := hid (show ¬ freed d k l from fun hh => c4 hh.1)
          clear c4
          go_upto_region 10 with fail
          clear m0 m4 c1b c4b
          have HNO := hid (show ¬ (hears d k f t e l dd x ms ∧ (gets d ts k l dd ms ∨ freed d k l)) from fun hh => hh.2.elim HG.out HF.out)
          have y0 : w2.cell? ⟨w.heap.size, 0, none⟩ = some (.int .i64 d.nu) := (S2.c 0 (by simp) 0 (by simp)).1
          have y1 : w2.cell? ⟨w.heap.size, 1, none⟩ = some (.int .i64 d.ep) := (S2.c 0 (by simp) 1 (by simp)).1
          have y2 : w2.cell? ⟨w.heap.size, 2, none⟩ = some (.bool d.up) := (S2.c 0 (by simp) 2 (by simp)).1
          have y3 : w2.cell? ⟨w.heap.size, 3, none⟩ = some (.int .i64 d.st) := (S2.c 0 (by simp) 3 (by simp)).1
          have y4 : w2.cell? ⟨w.heap.size, 4, none⟩ = some (.int .i64 d.le) := (S2.c 0 (by simp) 4 (by simp)).1
          have y5 : w2.cell? ⟨w.heap.size, 5, none⟩ = some (.int .i64 d.ta) := (S2.c 0 (by simp) 5 (by simp)).1
          have y6 : w2.cell? ⟨w.heap.size, 6, none⟩ = some (.int .i64 d.co) := (S2.c 0 (by simp) 6 (by simp)).1
          have y7 : w2.cell? ⟨w.heap.size, 7, none⟩ = some (.int .i64 d.lf) := (S2.c 0 (by simp) 7 (by simp)).1
          have y8 : w2.cell? ⟨w.heap.size, 8, none⟩ = some (.slice a d.ss.length c) := (S2.c 0 (by simp) 8 (by simp)).1
          have y9 : w2.cell? ⟨w.heap.size, 9, none⟩ = some (.string d.x) := (S2.c 0 (by simp) 9 (by simp)).1
          have y10 : w2.cell? ⟨w.heap.size, 10, none⟩ = some (.int .i64 d.si) := (S2.c 0 (by simp) 10 (by simp)).1
          go_wp2_with fail
          refine (inState_0 d.nu d.ep d.up d.st d.le d.ta d.co d.lf a d.ss.length c d.x d.si _).mono ?_
          rintro e' w8 ⟨rfl, hb8⟩
          have S8 := S2.below hb8
          have R8 : CF w8 (w.heap.size + 3) [.int .i64 0, .int .i64 0, .bool false, .int .i64 0, .int .i64 0, .int .i64 0, .int .i64 0, .int .i64 0, .slice none 0 0, .string ⟨#[]⟩, .int .i64 0] := S8.c 3 (by simp)
          clear y0 y1 y2 y3 y4 y5 y6 y7 y8 y9 y10
          go_wp2_with (refine wpList_store_cf rfl 25 (.tmp 6) (.tmp 72) rfl (w.heap.size + 3) [.int .i64 0, .int .i64 0, .bool false, .int .i64 0, .int .i64 0, .int .i64 0, .int .i64 0, .int .i64 0, .slice none 0 0, .string ⟨#[]⟩, .int .i64 0] [.int .i64 d.nu, .int .i64 d.ep, .bool d.up, .int .i64 0, .int .i64 0, .int .i64 0, .int .i64 0, .int .i64 0, .slice none 0 0, .string ⟨#[]⟩, .int .i64 d.si] rfl rfl R8 rfl Tryd.sizeWk (one11 _ _ _ _ _ _ _ _ _ _ _ _ _) ?_; intro w10 hc10 hg10)
          have k0 : w10.cell? ⟨w.heap.size + 3, 0, none⟩ = some (.int .i64 d.nu) := (hc10 0 (by simp)).1
          have k1 : w10.cell? ⟨w.heap.size + 3, 1, none⟩ = some (.int .i64 d.ep) := (hc10 1 (by simp)).1
          have k2 : w10.cell? ⟨w.heap.size + 3, 2, none⟩ = some (.bool d.up) := (hc10 2 (by simp)).1
          have k3 : w10.cell? ⟨w.heap.size + 3, 3, none⟩ = some (.int .i64 0) := (hc10 3 (by simp)).1
          have k4 : w10.cell? ⟨w.heap.size + 3, 4, none⟩ = some (.int .i64 0) := (hc10 4 (by simp)).1
          have k5 : w10.cell? ⟨w.heap.size + 3, 5, none⟩ = some (.int .i64 0) := (hc10 5 (by simp)).1
          have k6 : w10.cell? ⟨w.heap.size + 3, 6, none⟩ = some (.int .i64 0) := (hc10 6 (by simp)).1
          have k7 : w10.cell? ⟨w.heap.size + 3, 7, none⟩ = some (.int .i64 0) := (hc10 7 (by simp)).1
          have k8 : w10.cell? ⟨w.heap.size + 3, 8, none⟩ = some (.slice none 0 0) := (hc10 8 (by simp)).1
          have k9 : w10.cell? ⟨w.heap.size + 3, 9, none⟩ = some (.string ⟨#[]⟩) := (hc10 9 (by simp)).1
          have k10 : w10.cell? ⟨w.heap.size + 3, 10, none⟩ = some (.int .i64 d.si) := (hc10 10 (by simp)).1
          refine bodyPost_ret (v := .agg #[.int .i64 d.nu, .int .i64 d.ep, .bool d.up, .int .i64 0, .int .i64 0, .int .i64 0, .int .i64 0, .int .i64 0, .slice none 0 0, .string ⟨#[]⟩, .int .i64 d.si]) (by simp [results, Tryd.results26, go_sem, k0, k1, k2, k3, k4, k5, k6, k7, k8, k9, k10]) rfl ⟨?_, below_grown S8.B hg10 (by have := S8.z; simp at this <;> omega) (fun q hq => by simp at hq; omega)⟩
          exact ⟨⟨d.nu, d.ep, d.up, 0, 0, 0, 0, 0, [], ⟨#[]⟩, d.si⟩, none, 0, rfl, Own.nil _ _ _, .inr (.inr ⟨HNO.out, (WD.ok0 HOK.out HST.out).symm⟩)⟩
        subst c4
        clear c1b
        go_wp2_with fail
        refine (waits_0 l _).mono ?_
        rintro e' w3 ⟨rfl, hb3⟩
        have S3 := S2.below hb3
        clear m0 m4 hb3 S2
        have HF := hid (show ¬ freed d 4 l from fun hh => by have h5 := hh.2.1; rw [HST.out] at h5; exact absurd h5 (by decide))
        go_upto_region 10 with fail
        have HNO := hid (show ¬ (hears d 4 f t e l dd x ms ∧ (gets d ts 4 l dd ms ∨ freed d 4 l)) from fun hh => hh.2.elim HG.out HF.out)
        have y0 : w3.cell? ⟨w.heap.size, 0, none⟩ = some (.int .i64 d.nu) := (S3.c 0 (by simp) 0 (by simp)).1
        have y1 : w3.cell? ⟨w.heap.size, 1, none⟩ = some (.int .i64 d.ep) := (S3.c 0 (by simp) 1 (by simp)).1
        have y2 : w3.cell? ⟨w.heap.size, 2, none⟩ = some (.bool d.up) := (S3.c 0 (by simp) 2 (by simp)).1
        have y3 : w3.cell? ⟨w.heap.size, 3, none⟩ = some (.int .i64 d.st) := (S3.c 0 (by simp) 3 (by simp)).1
        have y4 : w3.cell? ⟨w.heap.size, 4, none⟩ = some (.int .i64 d.le) := (S3.c 0 (by simp) 4 (by simp)).1
        have y5 : w3.cell? ⟨w.heap.size, 5, none⟩ = some (.int .i64 d.ta) := (S3.c 0 (by simp) 5 (by simp)).1
        have y6 : w3.cell? ⟨w.heap.size, 6, none⟩ = some (.int .i64 d.co) := (S3.c 0 (by simp) 6 (by simp)).1
        have y7 : w3.cell? ⟨w.heap.size, 7, none⟩ = some (.int .i64 d.lf) := (S3.c 0 (by simp) 7 (by simp)).1
        have y8 : w3.cell? ⟨w.heap.size, 8, none⟩ = some (.slice a d.ss.length c) := (S3.c 0 (by simp) 8 (by simp)).1
        have y9 : w3.cell? ⟨w.heap.size, 9, none⟩ = some (.string d.x) := (S3.c 0 (by simp) 9 (by simp)).1
        have y10 : w3.cell? ⟨w.heap.size, 10, none⟩ = some (.int .i64 d.si) := (S3.c 0 (by simp) 10 (by simp)).1
        go_wp2_with fail
        refine (inState_0 d.nu d.ep d.up d.st d.le d.ta d.co d.lf a d.ss.length c d.x d.si _).mono ?_
        rintro e' w8 ⟨rfl, hb8⟩
        have S8 := S3.below hb8
        have R8 : CF w8 (w.heap.size + 3) [.int .i64 0, .int .i64 0, .bool false, .int .i64 0, .int .i64 0, .int .i64 0, .int .i64 0, .int .i64 0, .slice none 0 0, .string ⟨#[]⟩, .int .i64 0] := S8.c 3 (by simp)
        clear y0 y1 y2 y3 y4 y5 y6 y7 y8 y9 y10
        go_wp2_with (refine wpList_store_cf rfl 25 (.tmp 6) (.tmp 72) rfl (w.heap.size + 3) [.int .i64 0, .int .i64 0, .bool false, .int .i64 0, .int .i64 0, .int .i64 0, .int .i64 0, .int .i64 0, .slice none 0 0, .string ⟨#[]⟩, .int .i64 0] [.int .i64 d.nu, .int .i64 d.ep, .bool d.up, .int .i64 0, .int .i64 0, .int .i64 0, .int .i64 0, .int .i64 0, .slice none 0 0, .string ⟨#[]⟩, .int .i64 d.si] rfl rfl R8 rfl Tryd.sizeWk (one11 _ _ _ _ _ _ _ _ _ _ _ _ _) ?_; intro w10 hc10 hg10)
        have k0 : w10.cell? ⟨w.heap.size + 3, 0, none⟩ = some (.int .i64 d.nu) := (hc10 0 (by simp)).1
        have k1 : w10.cell? ⟨w.heap.size + 3, 1, none⟩ = some (.int .i64 d.ep) := (hc10 1 (by simp)).1
        have k2 : w10.cell? ⟨w.heap.size + 3, 2, none⟩ = some (.bool d.up) := (hc10 2 (by simp)).1
        have k3 : w10.cell? ⟨w.heap.size + 3, 3, none⟩ = some (.int .i64 0) := (hc10 3 (by simp)).1
        have k4 : w10.cell? ⟨w.heap.size + 3, 4, none⟩ = some (.int .i64 0) := (hc10 4 (by simp)).1
        have k5 : w10.cell? ⟨w.heap.size + 3, 5, none⟩ = some (.int .i64 0) := (hc10 5 (by simp)).1
        have k6 : w10.cell? ⟨w.heap.size + 3, 6, none⟩ = some (.int .i64 0) := (hc10 6 (by simp)).1
        have k7 : w10.cell? ⟨w.heap.size + 3, 7, none⟩ = some (.int .i64 0) := (hc10 7 (by simp)).1
        have k8 : w10.cell? ⟨w.heap.size + 3, 8, none⟩ = some (.slice none 0 0) := (hc10 8 (by simp)).1
        have k9 : w10.cell? ⟨w.heap.size + 3, 9, none⟩ = some (.string ⟨#[]⟩) := (hc10 9 (by simp)).1
        have k10 : w10.cell? ⟨w.heap.size + 3, 10, none⟩ = some (.int .i64 d.si) := (hc10 10 (by simp)).1
        refine bodyPost_ret (v := .agg #[.int .i64 d.nu, .int .i64 d.ep, .bool d.up, .int .i64 0, .int .i64 0, .int .i64 0, .int .i64 0, .int .i64 0, .slice none 0 0, .string ⟨#[]⟩, .int .i64 d.si]) (by simp [results, Tryd.results26, go_sem, k0, k1, k2, k3, k4, k5, k6, k7, k8, k9, k10]) rfl ⟨?_, below_grown S8.B hg10 (by have := S8.z; simp at this <;> omega) (fun q hq => by simp at hq; omega)⟩
        exact ⟨⟨d.nu, d.ep, d.up, 0, 0, 0, 0, 0, [], ⟨#[]⟩, d.si⟩, none, 0, rfl, Own.nil _ _ _, .inr (.inr ⟨HNO.out, (WD.ok0 HOK.out HST.out).symm⟩)⟩
      subst c1
      have hd := vM_in HV.out rfl
      have hd0 := hd.2.1
      have hd1 := hd.2.2.1
      have HIN := hid hd.2.2.2
      clear hd
      have HPL := hid hp.len
      have HF := hid (show ¬ freed d 1 l from fun hh => absurd hh.1 (by decide))
      have m1 : w2.cell? ⟨w.heap.size + 2, 1, none⟩ = some (.int .i64 f) := (S2.c 2 (by simp) 1 (by simp)).1
      have m2 : w2.cell? ⟨w.heap.size + 2, 2, none⟩ = some (.int .i64 t) := (S2.c 2 (by simp) 2 (by simp)).1
      have m3 : w2.cell? ⟨w.heap.size + 2, 3, none⟩ = some (.int .i64 e) := (S2.c 2 (by simp) 3 (by simp)).1
      have m5 : w2.cell? ⟨w.heap.size + 2, 5, none⟩ = some (.int .i64 dd) := (S2.c 2 (by simp) 5 (by simp)).1
      have m6 : w2.cell? ⟨w.heap.size + 2, 6, none⟩ = some (.string x) := (S2.c 2 (by simp) 6 (by simp)).1
      have m7 : w2.cell? ⟨w.heap.size + 2, 7, none⟩ = some (.slice ma ms.length mc) := (S2.c 2 (by simp) 7 (by simp)).1
      have yp : w2.cell? ⟨w.heap.size + 1, 0, none⟩ = some (.slice pa pn pc) := (S2.c 1 (by simp) 0 (by simp)).1
      go_wp2_with fail
      refine (offerFits_any 1 f t e l dd x ma ms.length mc pa pb po pn pc ts _ (hp.below' S2.B) hd0 hd1).mono ?_
      rintro e' w3 ⟨⟨r, rfl, hr⟩, hb3⟩
      have S3 := S2.below hb3
      clear m0 m1 m2 m3 m4 m5 m6 m7
      clear yp hb3 S2
      have HR := hid hr
      clear hr
      cases r with
      | false =>
        have HG := hid (show ¬ gets d ts 1 l dd ms from fun hh => by have h5 := HR.out.2 ⟨by have := hh.2.1; rw [HPL.out] at this; exact this, hh.2.2.1⟩; cases h5)
        have m0 : w3.cell? ⟨w.heap.size + 2, 0, none⟩ = some (.int .i64 1) := (S3.c 2 (by simp) 0 (by simp)).1
        go_upto_region 10 with fail
        clear m0
        have HNO := hid (show ¬ (hears d 1 f t e l dd x ms ∧ (gets d ts 1 l dd ms ∨ freed d 1 l)) from fun hh => hh.2.elim HG.out HF.out)
        have y0 : w3.cell? ⟨w.heap.size, 0, none⟩ = some (.int .i64 d.nu) := (S3.c 0 (by simp) 0 (by simp)).1
        have y1 : w3.cell? ⟨w.heap.size, 1, none⟩ = some (.int .i64 d.ep) := (S3.c 0 (by simp) 1 (by simp)).1
        have y2 : w3.cell? ⟨w.heap.size, 2, none⟩ = some (.bool d.up) := (S3.c 0 (by simp) 2 (by simp)).1
        have y3 : w3.cell? ⟨w.heap.size, 3, none⟩ = some (.int .i64 d.st) := (S3.c 0 (by simp) 3 (by simp)).1
        have y4 : w3.cell? ⟨w.heap.size, 4, none⟩ = some (.int .i64 d.le) := (S3.c 0 (by simp) 4 (by simp)).1
        have y5 : w3.cell? ⟨w.heap.size, 5, none⟩ = some (.int .i64 d.ta) := (S3.c 0 (by simp) 5 (by simp)).1
        have y6 : w3.cell? ⟨w.heap.size, 6, none⟩ = some (.int .i64 d.co) := (S3.c 0 (by simp) 6 (by simp)).1
        have y7 : w3.cell? ⟨w.heap.size, 7, none⟩ = some (.int .i64 d.lf) := (S3.c 0 (by simp) 7 (by simp)).1
        have y8 : w3.cell? ⟨w.heap.size, 8, none⟩ = some (.slice a d.ss.length c) := (S3.c 0 (by simp) 8 (by simp)).1
        have y9 : w3.cell? ⟨w.heap.size, 9, none⟩ = some (.string d.x) := (S3.c 0 (by simp) 9 (by simp)).1
        have y10 : w3.cell? ⟨w.heap.size, 10, none⟩ = some (.int .i64 d.si) := (S3.c 0 (by simp) 10 (by simp)).1
        go_wp2_with fail
        refine (inState_0 d.nu d.ep d.up d.st d.le d.ta d.co d.lf a d.ss.length c d.x d.si _).mono ?_
        rintro e' w8 ⟨rfl, hb8⟩
        have S8 := S3.below hb8
        have R8 : CF w8 (w.heap.size + 3) [.int .i64 0, .int .i64 0, .bool false, .int .i64 0, .int .i64 0, .int .i64 0, .int .i64 0, .int .i64 0, .slice none 0 0, .string ⟨#[]⟩, .int .i64 0] := S8.c 3 (by simp)
        clear y0 y1 y2 y3 y4 y5 y6 y7 y8 y9 y10
        go_wp2_with (refine wpList_store_cf rfl 25 (.tmp 6) (.tmp 72) rfl (w.heap.size + 3) [.int .i64 0, .int .i64 0, .bool false, .int .i64 0, .int .i64 0, .int .i64 0, .int .i64 0, .int .i64 0, .slice none 0 0, .string ⟨#[]⟩, .int .i64 0] [.int .i64 d.nu, .int .i64 d.ep, .bool d.up, .int .i64 0, .int .i64 0, .int .i64 0, .int .i64 0, .int .i64 0, .slice none 0 0, .string ⟨#[]⟩, .int .i64 d.si] rfl rfl R8 rfl Tryd.sizeWk (one11 _ _ _ _ _ _ _ _ _ _ _ _ _) ?_; intro w10 hc10 hg10)
        have k0 : w10.cell? ⟨w.heap.size + 3, 0, none⟩ = some (.int .i64 d.nu) := (hc10 0 (by simp)).1
        have k1 : w10.cell? ⟨w.heap.size + 3, 1, none⟩ = some (.int .i64 d.ep) := (hc10 1 (by simp)).1
        have k2 : w10.cell? ⟨w.heap.size + 3, 2, none⟩ = some (.bool d.up) := (hc10 2 (by simp)).1
        have k3 : w10.cell? ⟨w.heap.size + 3, 3, none⟩ = some (.int .i64 0) := (hc10 3 (by simp)).1
        have k4 : w10.cell? ⟨w.heap.size + 3, 4, none⟩ = some (.int .i64 0) := (hc10 4 (by simp)).1
        have k5 : w10.cell? ⟨w.heap.size + 3, 5, none⟩ = some (.int .i64 0) := (hc10 5 (by simp)).1
        have k6 : w10.cell? ⟨w.heap.size + 3, 6, none⟩ = some (.int .i64 0) := (hc10 6 (by simp)).1
        have k7 : w10.cell? ⟨w.heap.size + 3, 7, none⟩ = some (.int .i64 0) := (hc10 7 (by simp)).1
        have k8 : w10.cell? ⟨w.heap.size + 3, 8, none⟩ = some (.slice none 0 0) := (hc10 8 (by simp)).1
        have k9 : w10.cell? ⟨w.heap.size + 3, 9, none⟩ = some (.string ⟨#[]⟩) := (hc10 9 (by simp)).1
        have k10 : w10.cell? ⟨w.heap.size + 3, 10, none⟩ = some (.int .i64 d.si) := (hc10 10 (by simp)).1
        refine bodyPost_ret (v := .agg #[.int .i64 d.nu, .int .i64 d.ep, .bool d.up, .int .i64 0, .int .i64 0, .int .i64 0, .int .i64 0, .int .i64 0, .slice none 0 0, .string ⟨#[]⟩, .int .i64 d.si]) (by simp [results, Tryd.results26, go_sem, k0, k1, k2, k3, k4, k5, k6, k7, k8, k9, k10]) rfl ⟨?_, below_grown S8.B hg10 (by have := S8.z; simp at this <;> omega) (fun q hq => by simp at hq; omega)⟩
        exact ⟨⟨d.nu, d.ep, d.up, 0, 0, 0, 0, 0, [], ⟨#[]⟩, d.si⟩, none, 0, rfl, Own.nil _ _ _, .inr (.inr ⟨HNO.out, (WD.ok0 HOK.out HST.out).symm⟩)⟩
      | true =>
        have HFIT := hid (HR.out.1 rfl)
        clear HR
        have m4 : w3.cell? ⟨w.heap.size + 2, 4, none⟩ = some (.int .i64 l) := (S3.c 2 (by simp) 4 (by simp)).1
        go_wp2_with fail
        refine (yields_0 l _).mono ?_
        rintro e' w4 ⟨rfl, hb4⟩
        have S4 := S3.below hb4
        clear m4 hb4 S3
        have HG := hid (show gets d ts 1 l dd ms from ⟨rfl, by rw [HPL.out]; exact HFIT.out.1, HFIT.out.2, .inl HST.out⟩)
        obtain ⟨jj, a', n', c', hjd, hj, hpa, hc1, -, -⟩ := (hp.below' S4.B).task hd0 HFIT.out.1
        subst hpa
        subst hjd
        obtain ⟨ct, hct⟩ : ∃ ct, ct = dcost ts jj := ⟨_, rfl⟩
        rw [← hct] at hc1
        have HCT := hid hct
        clear hct HFIT
        have m4 : w4.cell? ⟨w.heap.size + 2, 4, none⟩ = some (.int .i64 l) := (S4.c 2 (by simp) 4 (by simp)).1
        have m5 : w4.cell? ⟨w.heap.size + 2, 5, none⟩ = some (.int .i64 jj) := (S4.c 2 (by simp) 5 (by simp)).1
        have m7 : w4.cell? ⟨w.heap.size + 2, 7, none⟩ = some (.slice ma ms.length mc) := (S4.c 2 (by simp) 7 (by simp)).1
        have yp : w4.cell? ⟨w.heap.size + 1, 0, none⟩ = some (.slice (some ⟨pb, po, none⟩) pn pc) := (S4.c 1 (by simp) 0 (by simp)).1
        have y10 : w4.cell? ⟨w.heap.size, 10, none⟩ = some (.int .i64 d.si) := (S4.c 0 (by simp) 10 (by simp)).1
        have f10 : w4.frozen? ⟨w.heap.size, 10, none⟩ = false := (S4.c 0 (by simp) 10 (by simp)).2
        go_upto_region 10 with fail
        clear m4 m5 m7 yp y10 f10 hc1
        obtain ⟨w5, hw5⟩ : ∃ V, V = w4.setCell ⟨w.heap.size, 10, none⟩ (.int .i64 0) := ⟨_, rfl⟩
        have S5 := S4.set 0 10 (by simp) (by simp) (.int .i64 0)
        have ew : w4.setCell ⟨w.heap.size + 0, 10, none⟩ (.int .i64 0) = w5 := hw5.symm
        rw [ew] at S5
        rw [← hw5]
        clear hw5 ew S4
        have y0 : w5.cell? ⟨w.heap.size, 0, none⟩ = some (.int .i64 d.nu) := (S5.c 0 (by simp) 0 (by simp)).1
        have y1 : w5.cell? ⟨w.heap.size, 1, none⟩ = some (.int .i64 d.ep) := (S5.c 0 (by simp) 1 (by simp)).1
        have y2 : w5.cell? ⟨w.heap.size, 2, none⟩ = some (.bool d.up) := (S5.c 0 (by simp) 2 (by simp)).1
        have y3 : w5.cell? ⟨w.heap.size, 3, none⟩ = some (.int .i64 d.st) := (S5.c 0 (by simp) 3 (by simp)).1
        have y4 : w5.cell? ⟨w.heap.size, 4, none⟩ = some (.int .i64 d.le) := (S5.c 0 (by simp) 4 (by simp)).1
        have y5 : w5.cell? ⟨w.heap.size, 5, none⟩ = some (.int .i64 d.ta) := (S5.c 0 (by simp) 5 (by simp)).1
        have y6 : w5.cell? ⟨w.heap.size, 6, none⟩ = some (.int .i64 d.co) := (S5.c 0 (by simp) 6 (by simp)).1
        have y7 : w5.cell? ⟨w.heap.size, 7, none⟩ = some (.int .i64 d.lf) := (S5.c 0 (by simp) 7 (by simp)).1
        have y8 : w5.cell? ⟨w.heap.size, 8, none⟩ = some (.slice a d.ss.length c) := (S5.c 0 (by simp) 8 (by simp)).1
        have y9 : w5.cell? ⟨w.heap.size, 9, none⟩ = some (.string d.x) := (S5.c 0 (by simp) 9 (by simp)).1
        have y10 : w5.cell? ⟨w.heap.size, 10, none⟩ = some (.int .i64 0) := (S5.c 0 (by simp) 10 (by simp)).1
        go_wp2_with fail
        refine (inState_1 d.nu d.ep d.up d.st d.le d.ta d.co d.lf a d.ss.length c d.x 0 l jj ct ct ma mb mo ms.length mc ms _ (hm.below' S5.B) hmn).mono ?_
        rintro e' w8 ⟨a8, c8, rfl, ho8, hb8⟩
        have S8 := S5.below hb8
        have R8 : CF w8 (w.heap.size + 3) [.int .i64 0, .int .i64 0, .bool false, .int .i64 0, .int .i64 0, .int .i64 0, .int .i64 0, .int .i64 0, .slice none 0 0, .string ⟨#[]⟩, .int .i64 0] := S8.c 3 (by simp)
        clear y0 y1 y2 y3 y4 y5 y6 y7 y8 y9 y10
        go_wp2_with (refine wpList_store_cf rfl 25 (.tmp 6) (.tmp 72) rfl (w.heap.size + 3) [.int .i64 0, .int .i64 0, .bool false, .int .i64 0, .int .i64 0, .int .i64 0, .int .i64 0, .int .i64 0, .slice none 0 0, .string ⟨#[]⟩, .int .i64 0] [.int .i64 d.nu, .int .i64 d.ep, .bool d.up, .int .i64 1, .int .i64 l, .int .i64 jj, .int .i64 ct, .int .i64 ct, .slice a8 ms.length c8, .string ⟨#[]⟩, .int .i64 0] rfl rfl R8 rfl Tryd.sizeWk (one11 _ _ _ _ _ _ _ _ _ _ _ _ _) ?_; intro w10 hc10 hg10)
        have k0 : w10.cell? ⟨w.heap.size + 3, 0, none⟩ = some (.int .i64 d.nu) := (hc10 0 (by simp)).1
        have k1 : w10.cell? ⟨w.heap.size + 3, 1, none⟩ = some (.int .i64 d.ep) := (hc10 1 (by simp)).1
        have k2 : w10.cell? ⟨w.heap.size + 3, 2, none⟩ = some (.bool d.up) := (hc10 2 (by simp)).1
        have k3 : w10.cell? ⟨w.heap.size + 3, 3, none⟩ = some (.int .i64 1) := (hc10 3 (by simp)).1
        have k4 : w10.cell? ⟨w.heap.size + 3, 4, none⟩ = some (.int .i64 l) := (hc10 4 (by simp)).1
        have k5 : w10.cell? ⟨w.heap.size + 3, 5, none⟩ = some (.int .i64 jj) := (hc10 5 (by simp)).1
        have k6 : w10.cell? ⟨w.heap.size + 3, 6, none⟩ = some (.int .i64 ct) := (hc10 6 (by simp)).1
        have k7 : w10.cell? ⟨w.heap.size + 3, 7, none⟩ = some (.int .i64 ct) := (hc10 7 (by simp)).1
        have k8 : w10.cell? ⟨w.heap.size + 3, 8, none⟩ = some (.slice a8 ms.length c8) := (hc10 8 (by simp)).1
        have k9 : w10.cell? ⟨w.heap.size + 3, 9, none⟩ = some (.string ⟨#[]⟩) := (hc10 9 (by simp)).1
        have k10 : w10.cell? ⟨w.heap.size + 3, 10, none⟩ = some (.int .i64 0) := (hc10 10 (by simp)).1
        have zS := S5.z
        simp at zS
        have Q := (ho8.grown hg10 (.inr (by intro hh; have := ho8.row_lo _ hh; omega))).mono' (show w.heap.size ≤ w5.heap.size by omega)
        refine bodyPost_ret (v := .agg #[.int .i64 d.nu, .int .i64 d.ep, .bool d.up, .int .i64 1, .int .i64 l, .int .i64 jj, .int .i64 ct, .int .i64 ct, .slice a8 ms.length c8, .string ⟨#[]⟩, .int .i64 0]) (by simp [results, Tryd.results26, go_sem, k0, k1, k2, k3, k4, k5, k6, k7, k8, k9, k10]) rfl ⟨?_, below_grown S8.B hg10 (by have := S8.z; simp at this <;> omega) (fun q hq => by simp at hq; omega)⟩
        rw [HCT.out]
        exact ⟨busyD d ts l jj ms, a8, c8, rfl, Q, .inl ⟨⟨HUP.out, HV.out, HT.out⟩, HG.out, rfl⟩⟩

set_option maxHeartbeats 8000000 in
set_option maxRecDepth 100000 in
theorem taken_1 (d : WD) (a : Option Addr) (b o c : Nat) (pa : Option Addr) (pb po pn pc : Nat) (ts : List TaskD) (k f t e l dd : Int) (x : ByteArray) (ma : Option Addr) (mb mo mc : Nat) (ms : List ByteArray) (w : World) (h : StrsAt w a b o d.ss.length d.ss) (hp : TasksAt w pa pb po pn ts) (hm : StrsAt w ma mb mo ms.length ms) (hn : d.ss.length ≤ 1048576) (hmn : ms.length ≤ 1048576) (hTab : Tab w) (hok : d.ok) (hst : d.st = 1) :
    Calls Tryd.prog 26 #[.agg #[.int .i64 d.nu, .int .i64 d.ep, .bool d.up, .int .i64 d.st, .int .i64 d.le, .int .i64 d.ta, .int .i64 d.co, .int .i64 d.lf, .slice a d.ss.length c, .string d.x, .int .i64 d.si], .agg #[.slice pa pn pc], .agg #[.int .i64 k, .int .i64 f, .int .i64 t, .int .i64 e, .int .i64 l, .int .i64 dd, .string x, .slice ma ms.length mc]] w fun e' w' => RetW e' w.heap.size w' (takeK d ts k f t e l dd x ms) ∧ Below w.heap.size w w' := by
  obtain ⟨W, hW⟩ : ∃ W, W = (((w.alloc (.cells #[.int .i64 d.nu, .int .i64 d.ep, .bool d.up, .int .i64 d.st, .int .i64 d.le, .int .i64 d.ta, .int .i64 d.co, .int .i64 d.lf, .slice a d.ss.length c, .string d.x, .int .i64 d.si] 25)).alloc (.cells #[.slice pa pn pc] 28)).alloc (.cells #[.int .i64 k, .int .i64 f, .int .i64 t, .int .i64 e, .int .i64 l, .int .i64 dd, .string x, .slice ma ms.length mc] 34)).alloc (.cells #[.int .i64 0, .int .i64 0, .bool false, .int .i64 0, .int .i64 0, .int .i64 0, .int .i64 0, .int .i64 0, .slice none 0 0, .string ⟨#[]⟩, .int .i64 0] 25) := ⟨_, rfl⟩
  have B0 : Below w.heap.size w W := by rw [hW]; exact ((((Below.refl _ _).alloc (Nat.le_refl _) _).alloc (by simp) _).alloc (by simp <;> omega) _).alloc (by simp <;> omega) _
  have z0 : w.heap.size + 4 ≤ W.heap.size := by rw [hW]; simp
  have S0 : Bx w [[.int .i64 d.nu, .int .i64 d.ep, .bool d.up, .int .i64 d.st, .int .i64 d.le, .int .i64 d.ta, .int .i64 d.co, .int .i64 d.lf, .slice a d.ss.length c, .string d.x, .int .i64 d.si], [.slice pa pn pc], [.int .i64 k, .int .i64 f, .int .i64 t, .int .i64 e, .int .i64 l, .int .i64 dd, .string x, .slice ma ms.length mc], [.int .i64 0, .int .i64 0, .bool false, .int .i64 0, .int .i64 0, .int .i64 0, .int .i64 0, .int .i64 0, .slice none 0 0, .string ⟨#[]⟩, .int .i64 0]] W := by
    refine ⟨fun i hi => ?_, B0, z0⟩
    have hi' : i < 4 := hi
    rw [hW]
    match i, hi' with
    | 0, _ => exact (((CF.made w #[.int .i64 d.nu, .int .i64 d.ep, .bool d.up, .int .i64 d.st, .int .i64 d.le, .int .i64 d.ta, .int .i64 d.co, .int .i64 d.lf, .slice a d.ss.length c, .string d.x, .int .i64 d.si] 25).block (Below.heap_alloc _ _ _ (by simp))).block (Below.heap_alloc _ _ _ (by simp <;> omega))).block (Below.heap_alloc _ _ _ (by simp <;> omega))
    | 1, _ =>
      have := CF.made (w.alloc (.cells #[.int .i64 d.nu, .int .i64 d.ep, .bool d.up, .int .i64 d.st, .int .i64 d.le, .int .i64 d.ta, .int .i64 d.co, .int .i64 d.lf, .slice a d.ss.length c, .string d.x, .int .i64 d.si] 25)) #[.slice pa pn pc] 28
      rw [World.size_alloc] at this
      exact (this.block (Below.heap_alloc _ _ _ (by simp))).block (Below.heap_alloc _ _ _ (by simp <;> omega))
    | 2, _ =>
      have := CF.made ((w.alloc (.cells #[.int .i64 d.nu, .int .i64 d.ep, .bool d.up, .int .i64 d.st, .int .i64 d.le, .int .i64 d.ta, .int .i64 d.co, .int .i64 d.lf, .slice a d.ss.length c, .string d.x, .int .i64 d.si] 25)).alloc (.cells #[.slice pa pn pc] 28)) #[.int .i64 k, .int .i64 f, .int .i64 t, .int .i64 e, .int .i64 l, .int .i64 dd, .string x, .slice ma ms.length mc] 34
      rw [World.size_alloc, World.size_alloc] at this
      exact this.block (Below.heap_alloc _ _ _ (by simp))
    | 3, _ =>
      have := CF.made (((w.alloc (.cells #[.int .i64 d.nu, .int .i64 d.ep, .bool d.up, .int .i64 d.st, .int .i64 d.le, .int .i64 d.ta, .int .i64 d.co, .int .i64 d.lf, .slice a d.ss.length c, .string d.x, .int .i64 d.si] 25)).alloc (.cells #[.slice pa pn pc] 28)).alloc (.cells #[.int .i64 k, .int .i64 f, .int .i64 t, .int .i64 e, .int .i64 l, .int .i64 dd, .string x, .slice ma ms.length mc] 34)) #[.int .i64 0, .int .i64 0, .bool false, .int .i64 0, .int .i64 0, .int .i64 0, .int .i64 0, .int .i64 0, .slice none 0 0, .string ⟨#[]⟩, .int .i64 0] 25
      rw [World.size_alloc, World.size_alloc, World.size_alloc] at this
      exact this
  clear B0 z0
  have HW := hid hW
  clear hW
  have HOK := hid hok
  have HST := hid hst
  clear hok hst
  have hml := hp.max
  unfold maxLen at hml
  go_enter Tryd.func26, Tryd.ntmps26
  go_upto_region 1 with fail
  rw [← HW.out]
  clear HW
  have y0 : W.cell? ⟨w.heap.size, 0, none⟩ = some (.int .i64 d.nu) := (S0.c 0 (by simp) 0 (by simp)).1
  have y1 : W.cell? ⟨w.heap.size, 1, none⟩ = some (.int .i64 d.ep) := (S0.c 0 (by simp) 1 (by simp)).1
  have y2 : W.cell? ⟨w.heap.size, 2, none⟩ = some (.bool d.up) := (S0.c 0 (by simp) 2 (by simp)).1
  have y3 : W.cell? ⟨w.heap.size, 3, none⟩ = some (.int .i64 d.st) := (S0.c 0 (by simp) 3 (by simp)).1
  have y4 : W.cell? ⟨w.heap.size, 4, none⟩ = some (.int .i64 d.le) := (S0.c 0 (by simp) 4 (by simp)).1
  have y5 : W.cell? ⟨w.heap.size, 5, none⟩ = some (.int .i64 d.ta) := (S0.c 0 (by simp) 5 (by simp)).1
  have y6 : W.cell? ⟨w.heap.size, 6, none⟩ = some (.int .i64 d.co) := (S0.c 0 (by simp) 6 (by simp)).1
  have y7 : W.cell? ⟨w.heap.size, 7, none⟩ = some (.int .i64 d.lf) := (S0.c 0 (by simp) 7 (by simp)).1
  have y8 : W.cell? ⟨w.heap.size, 8, none⟩ = some (.slice a d.ss.length c) := (S0.c 0 (by simp) 8 (by simp)).1
  have y9 : W.cell? ⟨w.heap.size, 9, none⟩ = some (.string d.x) := (S0.c 0 (by simp) 9 (by simp)).1
  have y10 : W.cell? ⟨w.heap.size, 10, none⟩ = some (.int .i64 d.si) := (S0.c 0 (by simp) 10 (by simp)).1
  rw [HST.out] at y3
  go_wp2_with fail
  refine (stateOf_1 d.nu d.ep d.up d.le d.ta d.co d.lf a d.ss.length c d.x d.si _).mono ?_
  rintro e' w1 ⟨rfl, hw1⟩
  have S1 := S0.alloc (.cells #[.int .i64 d.nu, .int .i64 d.ep, .bool d.up, .int .i64 1, .int .i64 d.le, .int .i64 d.ta, .int .i64 d.co, .int .i64 d.lf, .slice a d.ss.length c, .string d.x, .int .i64 d.si] 25)
  rw [← hw1] at S1
  clear y0 y1 y2 y3 y4 y5 y6 y7 y8 y9 y10
  clear hw1 S0
  go_upto_region 2 with fail
  have y2 : w1.cell? ⟨w.heap.size, 2, none⟩ = some (.bool d.up) := (S1.c 0 (by simp) 2 (by simp)).1
  cases hup : d.up with
  | false =>
    rw [hup] at y2
    have HUP := hid hup
    clear hup
    go_upto_region 10 with fail
    clear y2
    have HNO := hid (show ¬ (hears d k f t e l dd x ms ∧ (gets d ts k l dd ms ∨ freed d k l)) from fun hh => by have := hh.1.1; rw [HUP.out] at this; cases this)
    have y0 : w1.cell? ⟨w.heap.size, 0, none⟩ = some (.int .i64 d.nu) := (S1.c 0 (by simp) 0 (by simp)).1
    have y1 : w1.cell? ⟨w.heap.size, 1, none⟩ = some (.int .i64 d.ep) := (S1.c 0 (by simp) 1 (by simp)).1
    have y2 : w1.cell? ⟨w.heap.size, 2, none⟩ = some (.bool d.up) := (S1.c 0 (by simp) 2 (by simp)).1
    have y3 : w1.cell? ⟨w.heap.size, 3, none⟩ = some (.int .i64 d.st) := (S1.c 0 (by simp) 3 (by simp)).1
    have y4 : w1.cell? ⟨w.heap.size, 4, none⟩ = some (.int .i64 d.le) := (S1.c 0 (by simp) 4 (by simp)).1
    have y5 : w1.cell? ⟨w.heap.size, 5, none⟩ = some (.int .i64 d.ta) := (S1.c 0 (by simp) 5 (by simp)).1
    have y6 : w1.cell? ⟨w.heap.size, 6, none⟩ = some (.int .i64 d.co) := (S1.c 0 (by simp) 6 (by simp)).1
    have y7 : w1.cell? ⟨w.heap.size, 7, none⟩ = some (.int .i64 d.lf) := (S1.c 0 (by simp) 7 (by simp)).1
    have y8 : w1.cell? ⟨w.heap.size, 8, none⟩ = some (.slice a d.ss.length c) := (S1.c 0 (by simp) 8 (by simp)).1
    have y9 : w1.cell? ⟨w.heap.size, 9, none⟩ = some (.string d.x) := (S1.c 0 (by simp) 9 (by simp)).1
    have y10 : w1.cell? ⟨w.heap.size, 10, none⟩ = some (.int .i64 d.si) := (S1.c 0 (by simp) 10 (by simp)).1
    go_wp2_with fail
    refine (inState_1 d.nu d.ep d.up d.st d.le d.ta d.co d.lf a d.ss.length c d.x d.si d.le d.ta d.co d.lf a b o d.ss.length c d.ss _ (h.below' S1.B) hn).mono ?_
    rintro e' w8 ⟨a8, c8, rfl, ho8, hb8⟩
    have S8 := S1.below hb8
    have R8 : CF w8 (w.heap.size + 3) [.int .i64 0, .int .i64 0, .bool false, .int .i64 0, .int .i64 0, .int .i64 0, .int .i64 0, .int .i64 0, .slice none 0 0, .string ⟨#[]⟩, .int .i64 0] := S8.c 3 (by simp)
    clear y0 y1 y2 y3 y4 y5 y6 y7 y8 y9 y10
    go_wp2_with (refine wpList_store_cf rfl 25 (.tmp 6) (.tmp 72) rfl (w.heap.size + 3) [.int .i64 0, .int .i64 0, .bool false, .int .i64 0, .int .i64 0, .int .i64 0, .int .i64 0, .int .i64 0, .slice none 0 0, .string ⟨#[]⟩, .int .i64 0] [.int .i64 d.nu, .int .i64 d.ep, .bool d.up, .int .i64 1, .int .i64 d.le, .int .i64 d.ta, .int .i64 d.co, .int .i64 d.lf, .slice a8 d.ss.length c8, .string ⟨#[]⟩, .int .i64 d.si] rfl rfl R8 rfl Tryd.sizeWk (one11 _ _ _ _ _ _ _ _ _ _ _ _ _) ?_; intro w10 hc10 hg10)
    have k0 : w10.cell? ⟨w.heap.size + 3, 0, none⟩ = some (.int .i64 d.nu) := (hc10 0 (by simp)).1
    have k1 : w10.cell? ⟨w.heap.size + 3, 1, none⟩ = some (.int .i64 d.ep) := (hc10 1 (by simp)).1
    have k2 : w10.cell? ⟨w.heap.size + 3, 2, none⟩ = some (.bool d.up) := (hc10 2 (by simp)).1
    have k3 : w10.cell? ⟨w.heap.size + 3, 3, none⟩ = some (.int .i64 1) := (hc10 3 (by simp)).1
    have k4 : w10.cell? ⟨w.heap.size + 3, 4, none⟩ = some (.int .i64 d.le) := (hc10 4 (by simp)).1
    have k5 : w10.cell? ⟨w.heap.size + 3, 5, none⟩ = some (.int .i64 d.ta) := (hc10 5 (by simp)).1
    have k6 : w10.cell? ⟨w.heap.size + 3, 6, none⟩ = some (.int .i64 d.co) := (hc10 6 (by simp)).1
    have k7 : w10.cell? ⟨w.heap.size + 3, 7, none⟩ = some (.int .i64 d.lf) := (hc10 7 (by simp)).1
    have k8 : w10.cell? ⟨w.heap.size + 3, 8, none⟩ = some (.slice a8 d.ss.length c8) := (hc10 8 (by simp)).1
    have k9 : w10.cell? ⟨w.heap.size + 3, 9, none⟩ = some (.string ⟨#[]⟩) := (hc10 9 (by simp)).1
    have k10 : w10.cell? ⟨w.heap.size + 3, 10, none⟩ = some (.int .i64 d.si) := (hc10 10 (by simp)).1
    have zS := S1.z
    simp at zS
    have Q := (ho8.grown hg10 (.inr (by intro hh; have := ho8.row_lo _ hh; omega))).mono' (show w.heap.size ≤ w1.heap.size by omega)
    refine bodyPost_ret (v := .agg #[.int .i64 d.nu, .int .i64 d.ep, .bool d.up, .int .i64 1, .int .i64 d.le, .int .i64 d.ta, .int .i64 d.co, .int .i64 d.lf, .slice a8 d.ss.length c8, .string ⟨#[]⟩, .int .i64 d.si]) (by simp [results, Tryd.results26, go_sem, k0, k1, k2, k3, k4, k5, k6, k7, k8, k9, k10]) rfl ⟨?_, below_grown S8.B hg10 (by have := S8.z; simp at this <;> omega) (fun q hq => by simp at hq; omega)⟩
    exact ⟨⟨d.nu, d.ep, d.up, 1, d.le, d.ta, d.co, d.lf, d.ss, ⟨#[]⟩, d.si⟩, a8, c8, rfl, Q, .inr (.inr ⟨HNO.out, (WD.ok1 HOK.out HST.out).symm⟩)⟩
  | true =>
    rw [hup] at y2
    have HUP := hid hup
    clear hup
    have m0 : w1.cell? ⟨w.heap.size + 2, 0, none⟩ = some (.int .i64 k) := (S1.c 2 (by simp) 0 (by simp)).1
    have m1 : w1.cell? ⟨w.heap.size + 2, 1, none⟩ = some (.int .i64 f) := (S1.c 2 (by simp) 1 (by simp)).1
    have m2 : w1.cell? ⟨w.heap.size + 2, 2, none⟩ = some (.int .i64 t) := (S1.c 2 (by simp) 2 (by simp)).1
    have m3 : w1.cell? ⟨w.heap.size + 2, 3, none⟩ = some (.int .i64 e) := (S1.c 2 (by simp) 3 (by simp)).1
    have m4 : w1.cell? ⟨w.heap.size + 2, 4, none⟩ = some (.int .i64 l) := (S1.c 2 (by simp) 4 (by simp)).1
    have m5 : w1.cell? ⟨w.heap.size + 2, 5, none⟩ = some (.int .i64 dd) := (S1.c 2 (by simp) 5 (by simp)).1
    have m6 : w1.cell? ⟨w.heap.size + 2, 6, none⟩ = some (.string x) := (S1.c 2 (by simp) 6 (by simp)).1
    have m7 : w1.cell? ⟨w.heap.size + 2, 7, none⟩ = some (.slice ma ms.length mc) := (S1.c 2 (by simp) 7 (by simp)).1
    go_wp2_with fail
    refine (valid_any k f t e l dd x ma mb mo ms.length mc ms _ (hTab.below' S1.B) (hm.below' S1.B)).mono ?_
    rintro e' w2 ⟨⟨r, rfl, hr⟩, hb2⟩
    have S2 := S1.below hb2
    clear m0 m1 m2 m3 m4 m5 m6 m7
    clear y2 hb2 S1
    have HR := hid hr
    clear hr
    cases r with
    | false =>
      have HV := hid (show ¬ vM k f t e l dd x.size ms from fun hh => by have := HR.out.2 hh; cases this)
      go_upto_region 10 with fail
      have HNO := hid (show ¬ (hears d k f t e l dd x ms ∧ (gets d ts k l dd ms ∨ freed d k l)) from fun hh => HV.out hh.1.2.1)
      have y0 : w2.cell? ⟨w.heap.size, 0, none⟩ = some (.int .i64 d.nu) := (S2.c 0 (by simp) 0 (by simp)).1
      have y1 : w2.cell? ⟨w.heap.size, 1, none⟩ = some (.int .i64 d.ep) := (S2.c 0 (by simp) 1 (by simp)).1
      have y2 : w2.cell? ⟨w.heap.size, 2, none⟩ = some (.bool d.up) := (S2.c 0 (by simp) 2 (by simp)).1
      have y3 : w2.cell? ⟨w.heap.size, 3, none⟩ = some (.int .i64 d.st) := (S2.c 0 (by simp) 3 (by simp)).1
      have y4 : w2.cell? ⟨w.heap.size, 4, none⟩ = some (.int .i64 d.le) := (S2.c 0 (by simp) 4 (by simp)).1
      have y5 : w2.cell? ⟨w.heap.size, 5, none⟩ = some (.int .i64 d.ta) := (S2.c 0 (by simp) 5 (by simp)).1
      have y6 : w2.cell? ⟨w.heap.size, 6, none⟩ = some (.int .i64 d.co) := (S2.c 0 (by simp) 6 (by simp)).1
      have y7 : w2.cell? ⟨w.heap.size, 7, none⟩ = some (.int .i64 d.lf) := (S2.c 0 (by simp) 7 (by simp)).1
      have y8 : w2.cell? ⟨w.heap.size, 8, none⟩ = some (.slice a d.ss.length c) := (S2.c 0 (by simp) 8 (by simp)).1
      have y9 : w2.cell? ⟨w.heap.size, 9, none⟩ = some (.string d.x) := (S2.c 0 (by simp) 9 (by simp)).1
      have y10 : w2.cell? ⟨w.heap.size, 10, none⟩ = some (.int .i64 d.si) := (S2.c 0 (by simp) 10 (by simp)).1
      go_wp2_with fail
      refine (inState_1 d.nu d.ep d.up d.st d.le d.ta d.co d.lf a d.ss.length c d.x d.si d.le d.ta d.co d.lf a b o d.ss.length c d.ss _ (h.below' S2.B) hn).mono ?_
      rintro e' w8 ⟨a8, c8, rfl, ho8, hb8⟩
      have S8 := S2.below hb8
      have R8 : CF w8 (w.heap.size + 3) [.int .i64 0, .int .i64 0, .bool false, .int .i64 0, .int .i64 0, .int .i64 0, .int .i64 0, .int .i64 0, .slice none 0 0, .string ⟨#[]⟩, .int .i64 0] := S8.c 3 (by simp)
      clear y0 y1 y2 y3 y4 y5 y6 y7 y8 y9 y10
      go_wp2_with (refine wpList_store_cf rfl 25 (.tmp 6) (.tmp 72) rfl (w.heap.size + 3) [.int .i64 0, .int .i64 0, .bool false, .int .i64 0, .int .i64 0, .int .i64 0, .int .i64 0, .int .i64 0, .slice none 0 0, .string ⟨#[]⟩, .int .i64 0] [.int .i64 d.nu, .int .i64 d.ep, .bool d.up, .int .i64 1, .int .i64 d.le, .int .i64 d.ta, .int .i64 d.co, .int .i64 d.lf, .slice a8 d.ss.length c8, .string ⟨#[]⟩, .int .i64 d.si] rfl rfl R8 rfl Tryd.sizeWk (one11 _ _ _ _ _ _ _ _ _ _ _ _ _) ?_; intro w10 hc10 hg10)
      have k0 : w10.cell? ⟨w.heap.size + 3, 0, none⟩ = some (.int .i64 d.nu) := (hc10 0 (by simp)).1
      have k1 : w10.cell? ⟨w.heap.size + 3, 1, none⟩ = some (.int .i64 d.ep) := (hc10 1 (by simp)).1
      have k2 : w10.cell? ⟨w.heap.size + 3, 2, none⟩ = some (.bool d.up) := (hc10 2 (by simp)).1
      have k3 : w10.cell? ⟨w.heap.size + 3, 3, none⟩ = some (.int .i64 1) := (hc10 3 (by simp)).1
      have k4 : w10.cell? ⟨w.heap.size + 3, 4, none⟩ = some (.int .i64 d.le) := (hc10 4 (by simp)).1
      have k5 : w10.cell? ⟨w.heap.size + 3, 5, none⟩ = some (.int .i64 d.ta) := (hc10 5 (by simp)).1
      have k6 : w10.cell? ⟨w.heap.size + 3, 6, none⟩ = some (.int .i64 d.co) := (hc10 6 (by simp)).1
      have k7 : w10.cell? ⟨w.heap.size + 3, 7, none⟩ = some (.int .i64 d.lf) := (hc10 7 (by simp)).1
      have k8 : w10.cell? ⟨w.heap.size + 3, 8, none⟩ = some (.slice a8 d.ss.length c8) := (hc10 8 (by simp)).1
      have k9 : w10.cell? ⟨w.heap.size + 3, 9, none⟩ = some (.string ⟨#[]⟩) := (hc10 9 (by simp)).1
      have k10 : w10.cell? ⟨w.heap.size + 3, 10, none⟩ = some (.int .i64 d.si) := (hc10 10 (by simp)).1
      have zS := S2.z
      simp at zS
      have Q := (ho8.grown hg10 (.inr (by intro hh; have := ho8.row_lo _ hh; omega))).mono' (show w.heap.size ≤ w2.heap.size by omega)
      refine bodyPost_ret (v := .agg #[.int .i64 d.nu, .int .i64 d.ep, .bool d.up, .int .i64 1, .int .i64 d.le, .int .i64 d.ta, .int .i64 d.co, .int .i64 d.lf, .slice a8 d.ss.length c8, .string ⟨#[]⟩, .int .i64 d.si]) (by simp [results, Tryd.results26, go_sem, k0, k1, k2, k3, k4, k5, k6, k7, k8, k9, k10]) rfl ⟨?_, below_grown S8.B hg10 (by have := S8.z; simp at this <;> omega) (fun q hq => by simp at hq; omega)⟩
      exact ⟨⟨d.nu, d.ep, d.up, 1, d.le, d.ta, d.co, d.lf, d.ss, ⟨#[]⟩, d.si⟩, a8, c8, rfl, Q, .inr (.inr ⟨HNO.out, (WD.ok1 HOK.out HST.out).symm⟩)⟩
    | true =>
      have HV := hid (show vM k f t e l dd x.size ms from HR.out.1 rfl)
      clear HR
      have m2 : w2.cell? ⟨w.heap.size + 2, 2, none⟩ = some (.int .i64 t) := (S2.c 2 (by simp) 2 (by simp)).1
      have y0 : w2.cell? ⟨w.heap.size, 0, none⟩ = some (.int .i64 d.nu) := (S2.c 0 (by simp) 0 (by simp)).1
      by_cases ct : t = d.nu
      case neg =>
        have ctb : (t == d.nu) = false := beq_eq_false_iff_ne.2 ct
        have HT := hid ct
        clear ct
        go_upto_region 10 with fail
        clear m2 y0 ctb
        have HNO := hid (show ¬ (hears d k f t e l dd x ms ∧ (gets d ts k l dd ms ∨ freed d k l)) from fun hh => HT.out hh.1.2.2)
        have y0 : w2.cell? ⟨w.heap.size, 0, none⟩ = some (.int .i64 d.nu) := (S2.c 0 (by simp) 0 (by simp)).1
        have y1 : w2.cell? ⟨w.heap.size, 1, none⟩ = some (.int .i64 d.ep) := (S2.c 0 (by simp) 1 (by simp)).1
        have y2 : w2.cell? ⟨w.heap.size, 2, none⟩ = some (.bool d.up) := (S2.c 0 (by simp) 2 (by simp)).1
        have y3 : w2.cell? ⟨w.heap.size, 3, none⟩ = some (.int .i64 d.st) := (S2.c 0 (by simp) 3 (by simp)).1
        have y4 : w2.cell? ⟨w.heap.size, 4, none⟩ = some (.int .i64 d.le) := (S2.c 0 (by simp) 4 (by simp)).1
        have y5 : w2.cell? ⟨w.heap.size, 5, none⟩ = some (.int .i64 d.ta) := (S2.c 0 (by simp) 5 (by simp)).1
        have y6 : w2.cell? ⟨w.heap.size, 6, none⟩ = some (.int .i64 d.co) := (S2.c 0 (by simp) 6 (by simp)).1
        have y7 : w2.cell? ⟨w.heap.size, 7, none⟩ = some (.int .i64 d.lf) := (S2.c 0 (by simp) 7 (by simp)).1
        have y8 : w2.cell? ⟨w.heap.size, 8, none⟩ = some (.slice a d.ss.length c) := (S2.c 0 (by simp) 8 (by simp)).1
        have y9 : w2.cell? ⟨w.heap.size, 9, none⟩ = some (.string d.x) := (S2.c 0 (by simp) 9 (by simp)).1
        have y10 : w2.cell? ⟨w.heap.size, 10, none⟩ = some (.int .i64 d.si) := (S2.c 0 (by simp) 10 (by simp)).1
        go_wp2_with fail
        refine (inState_1 d.nu d.ep d.up d.st d.le d.ta d.co d.lf a d.ss.length c d.x d.si d.le d.ta d.co d.lf a b o d.ss.length c d.ss _ (h.below' S2.B) hn).mono ?_
        rintro e' w8 ⟨a8, c8, rfl, ho8, hb8⟩
        have S8 := S2.below hb8
        have R8 : CF w8 (w.heap.size + 3) [.int .i64 0, .int .i64 0, .bool false, .int .i64 0, .int .i64 0, .int .i64 0, .int .i64 0, .int .i64 0, .slice none 0 0, .string ⟨#[]⟩, .int .i64 0] := S8.c 3 (by simp)
        clear y0 y1 y2 y3 y4 y5 y6 y7 y8 y9 y10
        go_wp2_with (refine wpList_store_cf rfl 25 (.tmp 6) (.tmp 72) rfl (w.heap.size + 3) [.int .i64 0, .int .i64 0, .bool false, .int .i64 0, .int .i64 0, .int .i64 0, .int .i64 0, .int .i64 0, .slice none 0 0, .string ⟨#[]⟩, .int .i64 0] [.int .i64 d.nu, .int .i64 d.ep, .bool d.up, .int .i64 1, .int .i64 d.le, .int .i64 d.ta, .int .i64 d.co, .int .i64 d.lf, .slice a8 d.ss.length c8, .string ⟨#[]⟩, .int .i64 d.si] rfl rfl R8 rfl Tryd.sizeWk (one11 _ _ _ _ _ _ _ _ _ _ _ _ _) ?_; intro w10 hc10 hg10)
        have k0 : w10.cell? ⟨w.heap.size + 3, 0, none⟩ = some (.int .i64 d.nu) := (hc10 0 (by simp)).1
        have k1 : w10.cell? ⟨w.heap.size + 3, 1, none⟩ = some (.int .i64 d.ep) := (hc10 1 (by simp)).1
        have k2 : w10.cell? ⟨w.heap.size + 3, 2, none⟩ = some (.bool d.up) := (hc10 2 (by simp)).1
        have k3 : w10.cell? ⟨w.heap.size + 3, 3, none⟩ = some (.int .i64 1) := (hc10 3 (by simp)).1
        have k4 : w10.cell? ⟨w.heap.size + 3, 4, none⟩ = some (.int .i64 d.le) := (hc10 4 (by simp)).1
        have k5 : w10.cell? ⟨w.heap.size + 3, 5, none⟩ = some (.int .i64 d.ta) := (hc10 5 (by simp)).1
        have k6 : w10.cell? ⟨w.heap.size + 3, 6, none⟩ = some (.int .i64 d.co) := (hc10 6 (by simp)).1
        have k7 : w10.cell? ⟨w.heap.size + 3, 7, none⟩ = some (.int .i64 d.lf) := (hc10 7 (by simp)).1
        have k8 : w10.cell? ⟨w.heap.size + 3, 8, none⟩ = some (.slice a8 d.ss.length c8) := (hc10 8 (by simp)).1
        have k9 : w10.cell? ⟨w.heap.size + 3, 9, none⟩ = some (.string ⟨#[]⟩) := (hc10 9 (by simp)).1
        have k10 : w10.cell? ⟨w.heap.size + 3, 10, none⟩ = some (.int .i64 d.si) := (hc10 10 (by simp)).1
        have zS := S2.z
        simp at zS
        have Q := (ho8.grown hg10 (.inr (by intro hh; have := ho8.row_lo _ hh; omega))).mono' (show w.heap.size ≤ w2.heap.size by omega)
        refine bodyPost_ret (v := .agg #[.int .i64 d.nu, .int .i64 d.ep, .bool d.up, .int .i64 1, .int .i64 d.le, .int .i64 d.ta, .int .i64 d.co, .int .i64 d.lf, .slice a8 d.ss.length c8, .string ⟨#[]⟩, .int .i64 d.si]) (by simp [results, Tryd.results26, go_sem, k0, k1, k2, k3, k4, k5, k6, k7, k8, k9, k10]) rfl ⟨?_, below_grown S8.B hg10 (by have := S8.z; simp at this <;> omega) (fun q hq => by simp at hq; omega)⟩
        exact ⟨⟨d.nu, d.ep, d.up, 1, d.le, d.ta, d.co, d.lf, d.ss, ⟨#[]⟩, d.si⟩, a8, c8, rfl, Q, .inr (.inr ⟨HNO.out, (WD.ok1 HOK.out HST.out).symm⟩)⟩
      have HT := hid ct
      have ctb : (t == d.nu) = true := beq_iff_eq.2 ct
      clear ct
      go_upto_region 3 with fail
      clear m2 y0 ctb
      have m0 : w2.cell? ⟨w.heap.size + 2, 0, none⟩ = some (.int .i64 k) := (S2.c 2 (by simp) 0 (by simp)).1
      have m4 : w2.cell? ⟨w.heap.size + 2, 4, none⟩ = some (.int .i64 l) := (S2.c 2 (by simp) 4 (by simp)).1
      by_cases c1 : k = 1
      case neg =>
        have c1b : (k == 1) = false := beq_eq_false_iff_ne.2 c1
        have HG := hid (show ¬ gets d ts k l dd ms from fun hh => c1 hh.1)
        clear c1
        by_cases c4 : k = 4
        case neg =>
          have c4b : (k == 4) = false := beq_eq_false_iff_ne.2 c4
          have HF := hid (show ¬ freed d k l from fun hh => c4 hh.1)
          clear c4
          go_upto_region 10 with fail
          clear m0 m4 c1b c4b
          have HNO := hid (show ¬ (hears d k f t e l dd x ms ∧ (gets d ts k l dd ms ∨ freed d k l)) from fun hh => hh.2.elim HG.out HF.out)
          have y0 : w2.cell? ⟨w.heap.size, 0, none⟩ = some (.int .i64 d.nu) := (S2.c 0 (by simp) 0 (by simp)).1
          have y1 : w2.cell? ⟨w.heap.size, 1, none⟩ = some (.int .i64 d.ep) := (S2.c 0 (by simp) 1 (by simp)).1
          have y2 : w2.cell? ⟨w.heap.size, 2, none⟩ = some (.bool d.up) := (S2.c 0 (by simp) 2 (by simp)).1
          have y3 : w2.cell? ⟨w.heap.size, 3, none⟩ = some (.int .i64 d.st) := (S2.c 0 (by simp) 3 (by simp)).1
          have y4 : w2.cell? ⟨w.heap.size, 4, none⟩ = some (.int .i64 d.le) := (S2.c 0 (by simp) 4 (by simp)).1
          have y5 : w2.cell? ⟨w.heap.size, 5, none⟩ = some (.int .i64 d.ta) := (S2.c 0 (by simp) 5 (by simp)).1
          have y6 : w2.cell? ⟨w.heap.size, 6, none⟩ = some (.int .i64 d.co) := (S2.c 0 (by simp) 6 (by simp)).1
          have y7 : w2.cell? ⟨w.heap.size, 7, none⟩ = some (.int .i64 d.lf) := (S2.c 0 (by simp) 7 (by simp)).1
          have y8 : w2.cell? ⟨w.heap.size, 8, none⟩ = some (.slice a d.ss.length c) := (S2.c 0 (by simp) 8 (by simp)).1
          have y9 : w2.cell? ⟨w.heap.size, 9, none⟩ = some (.string d.x) := (S2.c 0 (by simp) 9 (by simp)).1
          have y10 : w2.cell? ⟨w.heap.size, 10, none⟩ = some (.int .i64 d.si) := (S2.c 0 (by simp) 10 (by simp)).1
          go_wp2_with fail
          refine (inState_1 d.nu d.ep d.up d.st d.le d.ta d.co d.lf a d.ss.length c d.x d.si d.le d.ta d.co d.lf a b o d.ss.length c d.ss _ (h.below' S2.B) hn).mono ?_
          rintro e' w8 ⟨a8, c8, rfl, ho8, hb8⟩
          have S8 := S2.below hb8
          have R8 : CF w8 (w.heap.size + 3) [.int .i64 0, .int .i64 0, .bool false, .int .i64 0, .int .i64 0, .int .i64 0, .int .i64 0, .int .i64 0, .slice none 0 0, .string ⟨#[]⟩, .int .i64 0] := S8.c 3 (by simp)
          clear y0 y1 y2 y3 y4 y5 y6 y7 y8 y9 y10
          go_wp2_with (refine wpList_store_cf rfl 25 (.tmp 6) (.tmp 72) rfl (w.heap.size + 3) [.int .i64 0, .int .i64 0, .bool false, .int .i64 0, .int .i64 0, .int .i64 0, .int .i64 0, .int .i64 0, .slice none 0 0, .string ⟨#[]⟩, .int .i64 0] [.int .i64 d.nu, .int .i64 d.ep, .bool d.up, .int .i64 1, .int .i64 d.le, .int .i64 d.ta, .int .i64 d.co, .int .i64 d.lf, .slice a8 d.ss.length c8, .string ⟨#[]⟩, .int .i64 d.si] rfl rfl R8 rfl Tryd.sizeWk (one11 _ _ _ _ _ _ _ _ _ _ _ _ _) ?_; intro w10 hc10 hg10)
          have k0 : w10.cell? ⟨w.heap.size + 3, 0, none⟩ = some (.int .i64 d.nu) := (hc10 0 (by simp)).1
          have k1 : w10.cell? ⟨w.heap.size + 3, 1, none⟩ = some (.int .i64 d.ep) := (hc10 1 (by simp)).1
          have k2 : w10.cell? ⟨w.heap.size + 3, 2, none⟩ = some (.bool d.up) := (hc10 2 (by simp)).1
          have k3 : w10.cell? ⟨w.heap.size + 3, 3, none⟩ = some (.int .i64 1) := (hc10 3 (by simp)).1
          have k4 : w10.cell? ⟨w.heap.size + 3, 4, none⟩ = some (.int .i64 d.le) := (hc10 4 (by simp)).1
          have k5 : w10.cell? ⟨w.heap.size + 3, 5, none⟩ = some (.int .i64 d.ta) := (hc10 5 (by simp)).1
          have k6 : w10.cell? ⟨w.heap.size + 3, 6, none⟩ = some (.int .i64 d.co) := (hc10 6 (by simp)).1
          have k7 : w10.cell? ⟨w.heap.size + 3, 7, none⟩ = some (.int .i64 d.lf) := (hc10 7 (by simp)).1
          have k8 : w10.cell? ⟨w.heap.size + 3, 8, none⟩ = some (.slice a8 d.ss.length c8) := (hc10 8 (by simp)).1
          have k9 : w10.cell? ⟨w.heap.size + 3, 9, none⟩ = some (.string ⟨#[]⟩) := (hc10 9 (by simp)).1
          have k10 : w10.cell? ⟨w.heap.size + 3, 10, none⟩ = some (.int .i64 d.si) := (hc10 10 (by simp)).1
          have zS := S2.z
          simp at zS
          have Q := (ho8.grown hg10 (.inr (by intro hh; have := ho8.row_lo _ hh; omega))).mono' (show w.heap.size ≤ w2.heap.size by omega)
          refine bodyPost_ret (v := .agg #[.int .i64 d.nu, .int .i64 d.ep, .bool d.up, .int .i64 1, .int .i64 d.le, .int .i64 d.ta, .int .i64 d.co, .int .i64 d.lf, .slice a8 d.ss.length c8, .string ⟨#[]⟩, .int .i64 d.si]) (by simp [results, Tryd.results26, go_sem, k0, k1, k2, k3, k4, k5, k6, k7, k8, k9, k10]) rfl ⟨?_, below_grown S8.B hg10 (by have := S8.z; simp at this <;> omega) (fun q hq => by simp at hq; omega)⟩
          exact ⟨⟨d.nu, d.ep, d.up, 1, d.le, d.ta, d.co, d.lf, d.ss, ⟨#[]⟩, d.si⟩, a8, c8, rfl, Q, .inr (.inr ⟨HNO.out, (WD.ok1 HOK.out HST.out).symm⟩)⟩
        subst c4
        clear c1b
        go_wp2_with fail
        refine (waits_1 d.le d.ta d.co d.lf (.slice a d.ss.length c) l _).mono ?_
        rintro e' w3 ⟨rfl, hb3⟩
        have S3 := S2.below hb3
        clear m0 m4 hb3 S2
        have HF := hid (show ¬ freed d 4 l from fun hh => by have h5 := hh.2.1; rw [HST.out] at h5; exact absurd h5 (by decide))
        go_upto_region 10 with fail
        have HNO := hid (show ¬ (hears d 4 f t e l dd x ms ∧ (gets d ts 4 l dd ms ∨ freed d 4 l)) from fun hh => hh.2.elim HG.out HF.out)
        have y0 : w3.cell? ⟨w.heap.size, 0, none⟩ = some (.int .i64 d.nu) := (S3.c 0 (by simp) 0 (by simp)).1
        have y1 : w3.cell? ⟨w.heap.size, 1, none⟩ = some (.int .i64 d.ep) := (S3.c 0 (by simp) 1 (by simp)).1
        have y2 : w3.cell? ⟨w.heap.size, 2, none⟩ = some (.bool d.up) := (S3.c 0 (by simp) 2 (by simp)).1
        have y3 : w3.cell? ⟨w.heap.size, 3, none⟩ = some (.int .i64 d.st) := (S3.c 0 (by simp) 3 (by simp)).1
        have y4 : w3.cell? ⟨w.heap.size, 4, none⟩ = some (.int .i64 d.le) := (S3.c 0 (by simp) 4 (by simp)).1
        have y5 : w3.cell? ⟨w.heap.size, 5, none⟩ = some (.int .i64 d.ta) := (S3.c 0 (by simp) 5 (by simp)).1
        have y6 : w3.cell? ⟨w.heap.size, 6, none⟩ = some (.int .i64 d.co) := (S3.c 0 (by simp) 6 (by simp)).1
        have y7 : w3.cell? ⟨w.heap.size, 7, none⟩ = some (.int .i64 d.lf) := (S3.c 0 (by simp) 7 (by simp)).1
        have y8 : w3.cell? ⟨w.heap.size, 8, none⟩ = some (.slice a d.ss.length c) := (S3.c 0 (by simp) 8 (by simp)).1
        have y9 : w3.cell? ⟨w.heap.size, 9, none⟩ = some (.string d.x) := (S3.c 0 (by simp) 9 (by simp)).1
        have y10 : w3.cell? ⟨w.heap.size, 10, none⟩ = some (.int .i64 d.si) := (S3.c 0 (by simp) 10 (by simp)).1
        go_wp2_with fail
        refine (inState_1 d.nu d.ep d.up d.st d.le d.ta d.co d.lf a d.ss.length c d.x d.si d.le d.ta d.co d.lf a b o d.ss.length c d.ss _ (h.below' S3.B) hn).mono ?_
        rintro e' w8 ⟨a8, c8, rfl, ho8, hb8⟩
        have S8 := S3.below hb8
        have R8 : CF w8 (w.heap.size + 3) [.int .i64 0, .int .i64 0, .bool false, .int .i64 0, .int .i64 0, .int .i64 0, .int .i64 0, .int .i64 0, .slice none 0 0, .string ⟨#[]⟩, .int .i64 0] := S8.c 3 (by simp)
        clear y0 y1 y2 y3 y4 y5 y6 y7 y8 y9 y10
        go_wp2_with (refine wpList_store_cf rfl 25 (.tmp 6) (.tmp 72) rfl (w.heap.size + 3) [.int .i64 0, .int .i64 0, .bool false, .int .i64 0, .int .i64 0, .int .i64 0, .int .i64 0, .int .i64 0, .slice none 0 0, .string ⟨#[]⟩, .int .i64 0] [.int .i64 d.nu, .int .i64 d.ep, .bool d.up, .int .i64 1, .int .i64 d.le, .int .i64 d.ta, .int .i64 d.co, .int .i64 d.lf, .slice a8 d.ss.length c8, .string ⟨#[]⟩, .int .i64 d.si] rfl rfl R8 rfl Tryd.sizeWk (one11 _ _ _ _ _ _ _ _ _ _ _ _ _) ?_; intro w10 hc10 hg10)
        have k0 : w10.cell? ⟨w.heap.size + 3, 0, none⟩ = some (.int .i64 d.nu) := (hc10 0 (by simp)).1
        have k1 : w10.cell? ⟨w.heap.size + 3, 1, none⟩ = some (.int .i64 d.ep) := (hc10 1 (by simp)).1
        have k2 : w10.cell? ⟨w.heap.size + 3, 2, none⟩ = some (.bool d.up) := (hc10 2 (by simp)).1
        have k3 : w10.cell? ⟨w.heap.size + 3, 3, none⟩ = some (.int .i64 1) := (hc10 3 (by simp)).1
        have k4 : w10.cell? ⟨w.heap.size + 3, 4, none⟩ = some (.int .i64 d.le) := (hc10 4 (by simp)).1
        have k5 : w10.cell? ⟨w.heap.size + 3, 5, none⟩ = some (.int .i64 d.ta) := (hc10 5 (by simp)).1
        have k6 : w10.cell? ⟨w.heap.size + 3, 6, none⟩ = some (.int .i64 d.co) := (hc10 6 (by simp)).1
        have k7 : w10.cell? ⟨w.heap.size + 3, 7, none⟩ = some (.int .i64 d.lf) := (hc10 7 (by simp)).1
        have k8 : w10.cell? ⟨w.heap.size + 3, 8, none⟩ = some (.slice a8 d.ss.length c8) := (hc10 8 (by simp)).1
        have k9 : w10.cell? ⟨w.heap.size + 3, 9, none⟩ = some (.string ⟨#[]⟩) := (hc10 9 (by simp)).1
        have k10 : w10.cell? ⟨w.heap.size + 3, 10, none⟩ = some (.int .i64 d.si) := (hc10 10 (by simp)).1
        have zS := S3.z
        simp at zS
        have Q := (ho8.grown hg10 (.inr (by intro hh; have := ho8.row_lo _ hh; omega))).mono' (show w.heap.size ≤ w3.heap.size by omega)
        refine bodyPost_ret (v := .agg #[.int .i64 d.nu, .int .i64 d.ep, .bool d.up, .int .i64 1, .int .i64 d.le, .int .i64 d.ta, .int .i64 d.co, .int .i64 d.lf, .slice a8 d.ss.length c8, .string ⟨#[]⟩, .int .i64 d.si]) (by simp [results, Tryd.results26, go_sem, k0, k1, k2, k3, k4, k5, k6, k7, k8, k9, k10]) rfl ⟨?_, below_grown S8.B hg10 (by have := S8.z; simp at this <;> omega) (fun q hq => by simp at hq; omega)⟩
        exact ⟨⟨d.nu, d.ep, d.up, 1, d.le, d.ta, d.co, d.lf, d.ss, ⟨#[]⟩, d.si⟩, a8, c8, rfl, Q, .inr (.inr ⟨HNO.out, (WD.ok1 HOK.out HST.out).symm⟩)⟩
      subst c1
      have hd := vM_in HV.out rfl
      have hd0 := hd.2.1
      have hd1 := hd.2.2.1
      have HIN := hid hd.2.2.2
      clear hd
      have HPL := hid hp.len
      have HF := hid (show ¬ freed d 1 l from fun hh => absurd hh.1 (by decide))
      have m1 : w2.cell? ⟨w.heap.size + 2, 1, none⟩ = some (.int .i64 f) := (S2.c 2 (by simp) 1 (by simp)).1
      have m2 : w2.cell? ⟨w.heap.size + 2, 2, none⟩ = some (.int .i64 t) := (S2.c 2 (by simp) 2 (by simp)).1
      have m3 : w2.cell? ⟨w.heap.size + 2, 3, none⟩ = some (.int .i64 e) := (S2.c 2 (by simp) 3 (by simp)).1
      have m5 : w2.cell? ⟨w.heap.size + 2, 5, none⟩ = some (.int .i64 dd) := (S2.c 2 (by simp) 5 (by simp)).1
      have m6 : w2.cell? ⟨w.heap.size + 2, 6, none⟩ = some (.string x) := (S2.c 2 (by simp) 6 (by simp)).1
      have m7 : w2.cell? ⟨w.heap.size + 2, 7, none⟩ = some (.slice ma ms.length mc) := (S2.c 2 (by simp) 7 (by simp)).1
      have yp : w2.cell? ⟨w.heap.size + 1, 0, none⟩ = some (.slice pa pn pc) := (S2.c 1 (by simp) 0 (by simp)).1
      go_wp2_with fail
      refine (offerFits_any 1 f t e l dd x ma ms.length mc pa pb po pn pc ts _ (hp.below' S2.B) hd0 hd1).mono ?_
      rintro e' w3 ⟨⟨r, rfl, hr⟩, hb3⟩
      have S3 := S2.below hb3
      clear m0 m1 m2 m3 m4 m5 m6 m7
      clear yp hb3 S2
      have HR := hid hr
      clear hr
      cases r with
      | false =>
        have HG := hid (show ¬ gets d ts 1 l dd ms from fun hh => by have h5 := HR.out.2 ⟨by have := hh.2.1; rw [HPL.out] at this; exact this, hh.2.2.1⟩; cases h5)
        have m0 : w3.cell? ⟨w.heap.size + 2, 0, none⟩ = some (.int .i64 1) := (S3.c 2 (by simp) 0 (by simp)).1
        go_upto_region 10 with fail
        clear m0
        have HNO := hid (show ¬ (hears d 1 f t e l dd x ms ∧ (gets d ts 1 l dd ms ∨ freed d 1 l)) from fun hh => hh.2.elim HG.out HF.out)
        have y0 : w3.cell? ⟨w.heap.size, 0, none⟩ = some (.int .i64 d.nu) := (S3.c 0 (by simp) 0 (by simp)).1
        have y1 : w3.cell? ⟨w.heap.size, 1, none⟩ = some (.int .i64 d.ep) := (S3.c 0 (by simp) 1 (by simp)).1
        have y2 : w3.cell? ⟨w.heap.size, 2, none⟩ = some (.bool d.up) := (S3.c 0 (by simp) 2 (by simp)).1
        have y3 : w3.cell? ⟨w.heap.size, 3, none⟩ = some (.int .i64 d.st) := (S3.c 0 (by simp) 3 (by simp)).1
        have y4 : w3.cell? ⟨w.heap.size, 4, none⟩ = some (.int .i64 d.le) := (S3.c 0 (by simp) 4 (by simp)).1
        have y5 : w3.cell? ⟨w.heap.size, 5, none⟩ = some (.int .i64 d.ta) := (S3.c 0 (by simp) 5 (by simp)).1
        have y6 : w3.cell? ⟨w.heap.size, 6, none⟩ = some (.int .i64 d.co) := (S3.c 0 (by simp) 6 (by simp)).1
        have y7 : w3.cell? ⟨w.heap.size, 7, none⟩ = some (.int .i64 d.lf) := (S3.c 0 (by simp) 7 (by simp)).1
        have y8 : w3.cell? ⟨w.heap.size, 8, none⟩ = some (.slice a d.ss.length c) := (S3.c 0 (by simp) 8 (by simp)).1
        have y9 : w3.cell? ⟨w.heap.size, 9, none⟩ = some (.string d.x) := (S3.c 0 (by simp) 9 (by simp)).1
        have y10 : w3.cell? ⟨w.heap.size, 10, none⟩ = some (.int .i64 d.si) := (S3.c 0 (by simp) 10 (by simp)).1
        go_wp2_with fail
        refine (inState_1 d.nu d.ep d.up d.st d.le d.ta d.co d.lf a d.ss.length c d.x d.si d.le d.ta d.co d.lf a b o d.ss.length c d.ss _ (h.below' S3.B) hn).mono ?_
        rintro e' w8 ⟨a8, c8, rfl, ho8, hb8⟩
        have S8 := S3.below hb8
        have R8 : CF w8 (w.heap.size + 3) [.int .i64 0, .int .i64 0, .bool false, .int .i64 0, .int .i64 0, .int .i64 0, .int .i64 0, .int .i64 0, .slice none 0 0, .string ⟨#[]⟩, .int .i64 0] := S8.c 3 (by simp)
        clear y0 y1 y2 y3 y4 y5 y6 y7 y8 y9 y10
        go_wp2_with (refine wpList_store_cf rfl 25 (.tmp 6) (.tmp 72) rfl (w.heap.size + 3) [.int .i64 0, .int .i64 0, .bool false, .int .i64 0, .int .i64 0, .int .i64 0, .int .i64 0, .int .i64 0, .slice none 0 0, .string ⟨#[]⟩, .int .i64 0] [.int .i64 d.nu, .int .i64 d.ep, .bool d.up, .int .i64 1, .int .i64 d.le, .int .i64 d.ta, .int .i64 d.co, .int .i64 d.lf, .slice a8 d.ss.length c8, .string ⟨#[]⟩, .int .i64 d.si] rfl rfl R8 rfl Tryd.sizeWk (one11 _ _ _ _ _ _ _ _ _ _ _ _ _) ?_; intro w10 hc10 hg10)
        have k0 : w10.cell? ⟨w.heap.size + 3, 0, none⟩ = some (.int .i64 d.nu) := (hc10 0 (by simp)).1
        have k1 : w10.cell? ⟨w.heap.size + 3, 1, none⟩ = some (.int .i64 d.ep) := (hc10 1 (by simp)).1
        have k2 : w10.cell? ⟨w.heap.size + 3, 2, none⟩ = some (.bool d.up) := (hc10 2 (by simp)).1
        have k3 : w10.cell? ⟨w.heap.size + 3, 3, none⟩ = some (.int .i64 1) := (hc10 3 (by simp)).1
        have k4 : w10.cell? ⟨w.heap.size + 3, 4, none⟩ = some (.int .i64 d.le) := (hc10 4 (by simp)).1
        have k5 : w10.cell? ⟨w.heap.size + 3, 5, none⟩ = some (.int .i64 d.ta) := (hc10 5 (by simp)).1
        have k6 : w10.cell? ⟨w.heap.size + 3, 6, none⟩ = some (.int .i64 d.co) := (hc10 6 (by simp)).1
        have k7 : w10.cell? ⟨w.heap.size + 3, 7, none⟩ = some (.int .i64 d.lf) := (hc10 7 (by simp)).1
        have k8 : w10.cell? ⟨w.heap.size + 3, 8, none⟩ = some (.slice a8 d.ss.length c8) := (hc10 8 (by simp)).1
        have k9 : w10.cell? ⟨w.heap.size + 3, 9, none⟩ = some (.string ⟨#[]⟩) := (hc10 9 (by simp)).1
        have k10 : w10.cell? ⟨w.heap.size + 3, 10, none⟩ = some (.int .i64 d.si) := (hc10 10 (by simp)).1
        have zS := S3.z
        simp at zS
        have Q := (ho8.grown hg10 (.inr (by intro hh; have := ho8.row_lo _ hh; omega))).mono' (show w.heap.size ≤ w3.heap.size by omega)
        refine bodyPost_ret (v := .agg #[.int .i64 d.nu, .int .i64 d.ep, .bool d.up, .int .i64 1, .int .i64 d.le, .int .i64 d.ta, .int .i64 d.co, .int .i64 d.lf, .slice a8 d.ss.length c8, .string ⟨#[]⟩, .int .i64 d.si]) (by simp [results, Tryd.results26, go_sem, k0, k1, k2, k3, k4, k5, k6, k7, k8, k9, k10]) rfl ⟨?_, below_grown S8.B hg10 (by have := S8.z; simp at this <;> omega) (fun q hq => by simp at hq; omega)⟩
        exact ⟨⟨d.nu, d.ep, d.up, 1, d.le, d.ta, d.co, d.lf, d.ss, ⟨#[]⟩, d.si⟩, a8, c8, rfl, Q, .inr (.inr ⟨HNO.out, (WD.ok1 HOK.out HST.out).symm⟩)⟩
      | true =>
        have HFIT := hid (HR.out.1 rfl)
        clear HR
        have m4 : w3.cell? ⟨w.heap.size + 2, 4, none⟩ = some (.int .i64 l) := (S3.c 2 (by simp) 4 (by simp)).1
        go_wp2_with fail
        refine (yields_1 d.le d.ta d.co d.lf a d.ss.length c l _).mono ?_
        rintro e' w4 ⟨rfl, hb4⟩
        have S4 := S3.below hb4
        clear m4 hb4 S3
        by_cases cl : d.le < l
        case neg =>
          have clb : decide (d.le < l) = false := decide_eq_false cl
          have HG := hid (show ¬ gets d ts 1 l dd ms from fun hh => hh.2.2.2.elim (fun h5 => by rw [HST.out] at h5; exact absurd h5 (by decide)) cl)
          have m0 : w4.cell? ⟨w.heap.size + 2, 0, none⟩ = some (.int .i64 1) := (S4.c 2 (by simp) 0 (by simp)).1
          go_upto_region 10 with fail
          clear m0 clb
          have HNO := hid (show ¬ (hears d 1 f t e l dd x ms ∧ (gets d ts 1 l dd ms ∨ freed d 1 l)) from fun hh => hh.2.elim HG.out HF.out)
          have y0 : w4.cell? ⟨w.heap.size, 0, none⟩ = some (.int .i64 d.nu) := (S4.c 0 (by simp) 0 (by simp)).1
          have y1 : w4.cell? ⟨w.heap.size, 1, none⟩ = some (.int .i64 d.ep) := (S4.c 0 (by simp) 1 (by simp)).1
          have y2 : w4.cell? ⟨w.heap.size, 2, none⟩ = some (.bool d.up) := (S4.c 0 (by simp) 2 (by simp)).1
          have y3 : w4.cell? ⟨w.heap.size, 3, none⟩ = some (.int .i64 d.st) := (S4.c 0 (by simp) 3 (by simp)).1
          have y4 : w4.cell? ⟨w.heap.size, 4, none⟩ = some (.int .i64 d.le) := (S4.c 0 (by simp) 4 (by simp)).1
          have y5 : w4.cell? ⟨w.heap.size, 5, none⟩ = some (.int .i64 d.ta) := (S4.c 0 (by simp) 5 (by simp)).1
          have y6 : w4.cell? ⟨w.heap.size, 6, none⟩ = some (.int .i64 d.co) := (S4.c 0 (by simp) 6 (by simp)).1
          have y7 : w4.cell? ⟨w.heap.size, 7, none⟩ = some (.int .i64 d.lf) := (S4.c 0 (by simp) 7 (by simp)).1
          have y8 : w4.cell? ⟨w.heap.size, 8, none⟩ = some (.slice a d.ss.length c) := (S4.c 0 (by simp) 8 (by simp)).1
          have y9 : w4.cell? ⟨w.heap.size, 9, none⟩ = some (.string d.x) := (S4.c 0 (by simp) 9 (by simp)).1
          have y10 : w4.cell? ⟨w.heap.size, 10, none⟩ = some (.int .i64 d.si) := (S4.c 0 (by simp) 10 (by simp)).1
          go_wp2_with fail
          refine (inState_1 d.nu d.ep d.up d.st d.le d.ta d.co d.lf a d.ss.length c d.x d.si d.le d.ta d.co d.lf a b o d.ss.length c d.ss _ (h.below' S4.B) hn).mono ?_
          rintro e' w8 ⟨a8, c8, rfl, ho8, hb8⟩
          have S8 := S4.below hb8
          have R8 : CF w8 (w.heap.size + 3) [.int .i64 0, .int .i64 0, .bool false, .int .i64 0, .int .i64 0, .int .i64 0, .int .i64 0, .int .i64 0, .slice none 0 0, .string ⟨#[]⟩, .int .i64 0] := S8.c 3 (by simp)
          clear y0 y1 y2 y3 y4 y5 y6 y7 y8 y9 y10
          go_wp2_with (refine wpList_store_cf rfl 25 (.tmp 6) (.tmp 72) rfl (w.heap.size + 3) [.int .i64 0, .int .i64 0, .bool false, .int .i64 0, .int .i64 0, .int .i64 0, .int .i64 0, .int .i64 0, .slice none 0 0, .string ⟨#[]⟩, .int .i64 0] [.int .i64 d.nu, .int .i64 d.ep, .bool d.up, .int .i64 1, .int .i64 d.le, .int .i64 d.ta, .int .i64 d.co, .int .i64 d.lf, .slice a8 d.ss.length c8, .string ⟨#[]⟩, .int .i64 d.si] rfl rfl R8 rfl Tryd.sizeWk (one11 _ _ _ _ _ _ _ _ _ _ _ _ _) ?_; intro w10 hc10 hg10)
          have k0 : w10.cell? ⟨w.heap.size + 3, 0, none⟩ = some (.int .i64 d.nu) := (hc10 0 (by simp)).1
          have k1 : w10.cell? ⟨w.heap.size + 3, 1, none⟩ = some (.int .i64 d.ep) := (hc10 1 (by simp)).1
          have k2 : w10.cell? ⟨w.heap.size + 3, 2, none⟩ = some (.bool d.up) := (hc10 2 (by simp)).1
          have k3 : w10.cell? ⟨w.heap.size + 3, 3, none⟩ = some (.int .i64 1) := (hc10 3 (by simp)).1
          have k4 : w10.cell? ⟨w.heap.size + 3, 4, none⟩ = some (.int .i64 d.le) := (hc10 4 (by simp)).1
          have k5 : w10.cell? ⟨w.heap.size + 3, 5, none⟩ = some (.int .i64 d.ta) := (hc10 5 (by simp)).1
          have k6 : w10.cell? ⟨w.heap.size + 3, 6, none⟩ = some (.int .i64 d.co) := (hc10 6 (by simp)).1
          have k7 : w10.cell? ⟨w.heap.size + 3, 7, none⟩ = some (.int .i64 d.lf) := (hc10 7 (by simp)).1
          have k8 : w10.cell? ⟨w.heap.size + 3, 8, none⟩ = some (.slice a8 d.ss.length c8) := (hc10 8 (by simp)).1
          have k9 : w10.cell? ⟨w.heap.size + 3, 9, none⟩ = some (.string ⟨#[]⟩) := (hc10 9 (by simp)).1
          have k10 : w10.cell? ⟨w.heap.size + 3, 10, none⟩ = some (.int .i64 d.si) := (hc10 10 (by simp)).1
          have zS := S4.z
          simp at zS
          have Q := (ho8.grown hg10 (.inr (by intro hh; have := ho8.row_lo _ hh; omega))).mono' (show w.heap.size ≤ w4.heap.size by omega)
          refine bodyPost_ret (v := .agg #[.int .i64 d.nu, .int .i64 d.ep, .bool d.up, .int .i64 1, .int .i64 d.le, .int .i64 d.ta, .int .i64 d.co, .int .i64 d.lf, .slice a8 d.ss.length c8, .string ⟨#[]⟩, .int .i64 d.si]) (by simp [results, Tryd.results26, go_sem, k0, k1, k2, k3, k4, k5, k6, k7, k8, k9, k10]) rfl ⟨?_, below_grown S8.B hg10 (by have := S8.z; simp at this <;> omega) (fun q hq => by simp at hq; omega)⟩
          exact ⟨⟨d.nu, d.ep, d.up, 1, d.le, d.ta, d.co, d.lf, d.ss, ⟨#[]⟩, d.si⟩, a8, c8, rfl, Q, .inr (.inr ⟨HNO.out, (WD.ok1 HOK.out HST.out).symm⟩)⟩
        have clb : decide (d.le < l) = true := decide_eq_true cl
        have HG := hid (show gets d ts 1 l dd ms from ⟨rfl, by rw [HPL.out]; exact HFIT.out.1, HFIT.out.2, .inr cl⟩)
        obtain ⟨jj, a', n', c', hjd, hj, hpa, hc1, -, -⟩ := (hp.below' S4.B).task hd0 HFIT.out.1
        subst hpa
        subst hjd
        obtain ⟨ct, hct⟩ : ∃ ct, ct = dcost ts jj := ⟨_, rfl⟩
        rw [← hct] at hc1
        have HCT := hid hct
        clear hct HFIT
        have m4 : w4.cell? ⟨w.heap.size + 2, 4, none⟩ = some (.int .i64 l) := (S4.c 2 (by simp) 4 (by simp)).1
        have m5 : w4.cell? ⟨w.heap.size + 2, 5, none⟩ = some (.int .i64 jj) := (S4.c 2 (by simp) 5 (by simp)).1
        have m7 : w4.cell? ⟨w.heap.size + 2, 7, none⟩ = some (.slice ma ms.length mc) := (S4.c 2 (by simp) 7 (by simp)).1
        have yp : w4.cell? ⟨w.heap.size + 1, 0, none⟩ = some (.slice (some ⟨pb, po, none⟩) pn pc) := (S4.c 1 (by simp) 0 (by simp)).1
        have y10 : w4.cell? ⟨w.heap.size, 10, none⟩ = some (.int .i64 d.si) := (S4.c 0 (by simp) 10 (by simp)).1
        have f10 : w4.frozen? ⟨w.heap.size, 10, none⟩ = false := (S4.c 0 (by simp) 10 (by simp)).2
        go_upto_region 10 with fail
        clear m4 m5 m7 yp y10 f10 hc1 cl clb
        obtain ⟨w5, hw5⟩ : ∃ V, V = w4.setCell ⟨w.heap.size, 10, none⟩ (.int .i64 0) := ⟨_, rfl⟩
        have S5 := S4.set 0 10 (by simp) (by simp) (.int .i64 0)
        have ew : w4.setCell ⟨w.heap.size + 0, 10, none⟩ (.int .i64 0) = w5 := hw5.symm
        rw [ew] at S5
        rw [← hw5]
        clear hw5 ew S4
        have y0 : w5.cell? ⟨w.heap.size, 0, none⟩ = some (.int .i64 d.nu) := (S5.c 0 (by simp) 0 (by simp)).1
        have y1 : w5.cell? ⟨w.heap.size, 1, none⟩ = some (.int .i64 d.ep) := (S5.c 0 (by simp) 1 (by simp)).1
        have y2 : w5.cell? ⟨w.heap.size, 2, none⟩ = some (.bool d.up) := (S5.c 0 (by simp) 2 (by simp)).1
        have y3 : w5.cell? ⟨w.heap.size, 3, none⟩ = some (.int .i64 d.st) := (S5.c 0 (by simp) 3 (by simp)).1
        have y4 : w5.cell? ⟨w.heap.size, 4, none⟩ = some (.int .i64 d.le) := (S5.c 0 (by simp) 4 (by simp)).1
        have y5 : w5.cell? ⟨w.heap.size, 5, none⟩ = some (.int .i64 d.ta) := (S5.c 0 (by simp) 5 (by simp)).1
        have y6 : w5.cell? ⟨w.heap.size, 6, none⟩ = some (.int .i64 d.co) := (S5.c 0 (by simp) 6 (by simp)).1
        have y7 : w5.cell? ⟨w.heap.size, 7, none⟩ = some (.int .i64 d.lf) := (S5.c 0 (by simp) 7 (by simp)).1
        have y8 : w5.cell? ⟨w.heap.size, 8, none⟩ = some (.slice a d.ss.length c) := (S5.c 0 (by simp) 8 (by simp)).1
        have y9 : w5.cell? ⟨w.heap.size, 9, none⟩ = some (.string d.x) := (S5.c 0 (by simp) 9 (by simp)).1
        have y10 : w5.cell? ⟨w.heap.size, 10, none⟩ = some (.int .i64 0) := (S5.c 0 (by simp) 10 (by simp)).1
        go_wp2_with fail
        refine (inState_1 d.nu d.ep d.up d.st d.le d.ta d.co d.lf a d.ss.length c d.x 0 l jj ct ct ma mb mo ms.length mc ms _ (hm.below' S5.B) hmn).mono ?_
        rintro e' w8 ⟨a8, c8, rfl, ho8, hb8⟩
        have S8 := S5.below hb8
        have R8 : CF w8 (w.heap.size + 3) [.int .i64 0, .int .i64 0, .bool false, .int .i64 0, .int .i64 0, .int .i64 0, .int .i64 0, .int .i64 0, .slice none 0 0, .string ⟨#[]⟩, .int .i64 0] := S8.c 3 (by simp)
        clear y0 y1 y2 y3 y4 y5 y6 y7 y8 y9 y10
        go_wp2_with (refine wpList_store_cf rfl 25 (.tmp 6) (.tmp 72) rfl (w.heap.size + 3) [.int .i64 0, .int .i64 0, .bool false, .int .i64 0, .int .i64 0, .int .i64 0, .int .i64 0, .int .i64 0, .slice none 0 0, .string ⟨#[]⟩, .int .i64 0] [.int .i64 d.nu, .int .i64 d.ep, .bool d.up, .int .i64 1, .int .i64 l, .int .i64 jj, .int .i64 ct, .int .i64 ct, .slice a8 ms.length c8, .string ⟨#[]⟩, .int .i64 0] rfl rfl R8 rfl Tryd.sizeWk (one11 _ _ _ _ _ _ _ _ _ _ _ _ _) ?_; intro w10 hc10 hg10)
        have k0 : w10.cell? ⟨w.heap.size + 3, 0, none⟩ = some (.int .i64 d.nu) := (hc10 0 (by simp)).1
        have k1 : w10.cell? ⟨w.heap.size + 3, 1, none⟩ = some (.int .i64 d.ep) := (hc10 1 (by simp)).1
        have k2 : w10.cell? ⟨w.heap.size + 3, 2, none⟩ = some (.bool d.up) := (hc10 2 (by simp)).1
        have k3 : w10.cell? ⟨w.heap.size + 3, 3, none⟩ = some (.int .i64 1) := (hc10 3 (by simp)).1
        have k4 : w10.cell? ⟨w.heap.size + 3, 4, none⟩ = some (.int .i64 l) := (hc10 4 (by simp)).1
        have k5 : w10.cell? ⟨w.heap.size + 3, 5, none⟩ = some (.int .i64 jj) := (hc10 5 (by simp)).1
        have k6 : w10.cell? ⟨w.heap.size + 3, 6, none⟩ = some (.int .i64 ct) := (hc10 6 (by simp)).1
        have k7 : w10.cell? ⟨w.heap.size + 3, 7, none⟩ = some (.int .i64 ct) := (hc10 7 (by simp)).1
        have k8 : w10.cell? ⟨w.heap.size + 3, 8, none⟩ = some (.slice a8 ms.length c8) := (hc10 8 (by simp)).1
        have k9 : w10.cell? ⟨w.heap.size + 3, 9, none⟩ = some (.string ⟨#[]⟩) := (hc10 9 (by simp)).1
        have k10 : w10.cell? ⟨w.heap.size + 3, 10, none⟩ = some (.int .i64 0) := (hc10 10 (by simp)).1
        have zS := S5.z
        simp at zS
        have Q := (ho8.grown hg10 (.inr (by intro hh; have := ho8.row_lo _ hh; omega))).mono' (show w.heap.size ≤ w5.heap.size by omega)
        refine bodyPost_ret (v := .agg #[.int .i64 d.nu, .int .i64 d.ep, .bool d.up, .int .i64 1, .int .i64 l, .int .i64 jj, .int .i64 ct, .int .i64 ct, .slice a8 ms.length c8, .string ⟨#[]⟩, .int .i64 0]) (by simp [results, Tryd.results26, go_sem, k0, k1, k2, k3, k4, k5, k6, k7, k8, k9, k10]) rfl ⟨?_, below_grown S8.B hg10 (by have := S8.z; simp at this <;> omega) (fun q hq => by simp at hq; omega)⟩
        rw [HCT.out]
        exact ⟨busyD d ts l jj ms, a8, c8, rfl, Q, .inl ⟨⟨HUP.out, HV.out, HT.out⟩, HG.out, rfl⟩⟩

set_option maxHeartbeats 8000000 in
set_option maxRecDepth 100000 in
theorem taken_2 (d : WD) (a : Option Addr) (b o c : Nat) (pa : Option Addr) (pb po pn pc : Nat) (ts : List TaskD) (k f t e l dd : Int) (x : ByteArray) (ma : Option Addr) (mb mo mc : Nat) (ms : List ByteArray) (w : World) (_h : StrsAt w a b o d.ss.length d.ss) (hp : TasksAt w pa pb po pn ts) (hm : StrsAt w ma mb mo ms.length ms) (_hn : d.ss.length ≤ 1048576) (hmn : ms.length ≤ 1048576) (hTab : Tab w) (hok : d.ok) (hst : d.st = 2) :
    Calls Tryd.prog 26 #[.agg #[.int .i64 d.nu, .int .i64 d.ep, .bool d.up, .int .i64 d.st, .int .i64 d.le, .int .i64 d.ta, .int .i64 d.co, .int .i64 d.lf, .slice a d.ss.length c, .string d.x, .int .i64 d.si], .agg #[.slice pa pn pc], .agg #[.int .i64 k, .int .i64 f, .int .i64 t, .int .i64 e, .int .i64 l, .int .i64 dd, .string x, .slice ma ms.length mc]] w fun e' w' => RetW e' w.heap.size w' (takeK d ts k f t e l dd x ms) ∧ Below w.heap.size w w' := by
  obtain ⟨W, hW⟩ : ∃ W, W = (((w.alloc (.cells #[.int .i64 d.nu, .int .i64 d.ep, .bool d.up, .int .i64 d.st, .int .i64 d.le, .int .i64 d.ta, .int .i64 d.co, .int .i64 d.lf, .slice a d.ss.length c, .string d.x, .int .i64 d.si] 25)).alloc (.cells #[.slice pa pn pc] 28)).alloc (.cells #[.int .i64 k, .int .i64 f, .int .i64 t, .int .i64 e, .int .i64 l, .int .i64 dd, .string x, .slice ma ms.length mc] 34)).alloc (.cells #[.int .i64 0, .int .i64 0, .bool false, .int .i64 0, .int .i64 0, .int .i64 0, .int .i64 0, .int .i64 0, .slice none 0 0, .string ⟨#[]⟩, .int .i64 0] 25) := ⟨_, rfl⟩
  have B0 : Below w.heap.size w W := by rw [hW]; exact ((((Below.refl _ _).alloc (Nat.le_refl _) _).alloc (by simp) _).alloc (by simp <;> omega) _).alloc (by simp <;> omega) _
  have z0 : w.heap.size + 4 ≤ W.heap.size := by rw [hW]; simp
  have S0 : Bx w [[.int .i64 d.nu, .int .i64 d.ep, .bool d.up, .int .i64 d.st, .int .i64 d.le, .int .i64 d.ta, .int .i64 d.co, .int .i64 d.lf, .slice a d.ss.length c, .string d.x, .int .i64 d.si], [.slice pa pn pc], [.int .i64 k, .int .i64 f, .int .i64 t, .int .i64 e, .int .i64 l, .int .i64 dd, .string x, .slice ma ms.length mc], [.int .i64 0, .int .i64 0, .bool false, .int .i64 0, .int .i64 0, .int .i64 0, .int .i64 0, .int .i64 0, .slice none 0 0, .string ⟨#[]⟩, .int .i64 0]] W := by
    refine ⟨fun i hi => ?_, B0, z0⟩
    have hi' : i < 4 := hi
    rw [hW]
    match i, hi' with
    | 0, _ => exact (((CF.made w #[.int .i64 d.nu, .int .i64 d.ep, .bool d.up, .int .i64 d.st, .int .i64 d.le, .int .i64 d.ta, .int .i64 d.co, .int .i64 d.lf, .slice a d.ss.length c, .string d.x, .int .i64 d.si] 25).block (Below.heap_alloc _ _ _ (by simp))).block (Below.heap_alloc _ _ _ (by simp <;> omega))).block (Below.heap_alloc _ _ _ (by simp <;> omega))
    | 1, _ =>
      have := CF.made (w.alloc (.cells #[.int .i64 d.nu, .int .i64 d.ep, .bool d.up, .int .i64 d.st, .int .i64 d.le, .int .i64 d.ta, .int .i64 d.co, .int .i64 d.lf, .slice a d.ss.length c, .string d.x, .int .i64 d.si] 25)) #[.slice pa pn pc] 28
      rw [World.size_alloc] at this
      exact (this.block (Below.heap_alloc _ _ _ (by simp))).block (Below.heap_alloc _ _ _ (by simp <;> omega))
    | 2, _ =>
      have := CF.made ((w.alloc (.cells #[.int .i64 d.nu, .int .i64 d.ep, .bool d.up, .int .i64 d.st, .int .i64 d.le, .int .i64 d.ta, .int .i64 d.co, .int .i64 d.lf, .slice a d.ss.length c, .string d.x, .int .i64 d.si] 25)).alloc (.cells #[.slice pa pn pc] 28)) #[.int .i64 k, .int .i64 f, .int .i64 t, .int .i64 e, .int .i64 l, .int .i64 dd, .string x, .slice ma ms.length mc] 34
      rw [World.size_alloc, World.size_alloc] at this
      exact this.block (Below.heap_alloc _ _ _ (by simp))
    | 3, _ =>
      have := CF.made (((w.alloc (.cells #[.int .i64 d.nu, .int .i64 d.ep, .bool d.up, .int .i64 d.st, .int .i64 d.le, .int .i64 d.ta, .int .i64 d.co, .int .i64 d.lf, .slice a d.ss.length c, .string d.x, .int .i64 d.si] 25)).alloc (.cells #[.slice pa pn pc] 28)).alloc (.cells #[.int .i64 k, .int .i64 f, .int .i64 t, .int .i64 e, .int .i64 l, .int .i64 dd, .string x, .slice ma ms.length mc] 34)) #[.int .i64 0, .int .i64 0, .bool false, .int .i64 0, .int .i64 0, .int .i64 0, .int .i64 0, .int .i64 0, .slice none 0 0, .string ⟨#[]⟩, .int .i64 0] 25
      rw [World.size_alloc, World.size_alloc, World.size_alloc] at this
      exact this
  clear B0 z0
  have HW := hid hW
  clear hW
  have HOK := hid hok
  have HST := hid hst
  clear hok hst
  have hml := hp.max
  unfold maxLen at hml
  go_enter Tryd.func26, Tryd.ntmps26
  go_upto_region 1 with fail
  rw [← HW.out]
  clear HW
  have y0 : W.cell? ⟨w.heap.size, 0, none⟩ = some (.int .i64 d.nu) := (S0.c 0 (by simp) 0 (by simp)).1
  have y1 : W.cell? ⟨w.heap.size, 1, none⟩ = some (.int .i64 d.ep) := (S0.c 0 (by simp) 1 (by simp)).1
  have y2 : W.cell? ⟨w.heap.size, 2, none⟩ = some (.bool d.up) := (S0.c 0 (by simp) 2 (by simp)).1
  have y3 : W.cell? ⟨w.heap.size, 3, none⟩ = some (.int .i64 d.st) := (S0.c 0 (by simp) 3 (by simp)).1
  have y4 : W.cell? ⟨w.heap.size, 4, none⟩ = some (.int .i64 d.le) := (S0.c 0 (by simp) 4 (by simp)).1
  have y5 : W.cell? ⟨w.heap.size, 5, none⟩ = some (.int .i64 d.ta) := (S0.c 0 (by simp) 5 (by simp)).1
  have y6 : W.cell? ⟨w.heap.size, 6, none⟩ = some (.int .i64 d.co) := (S0.c 0 (by simp) 6 (by simp)).1
  have y7 : W.cell? ⟨w.heap.size, 7, none⟩ = some (.int .i64 d.lf) := (S0.c 0 (by simp) 7 (by simp)).1
  have y8 : W.cell? ⟨w.heap.size, 8, none⟩ = some (.slice a d.ss.length c) := (S0.c 0 (by simp) 8 (by simp)).1
  have y9 : W.cell? ⟨w.heap.size, 9, none⟩ = some (.string d.x) := (S0.c 0 (by simp) 9 (by simp)).1
  have y10 : W.cell? ⟨w.heap.size, 10, none⟩ = some (.int .i64 d.si) := (S0.c 0 (by simp) 10 (by simp)).1
  rw [HST.out] at y3
  go_wp2_with fail
  refine (stateOf_2 d.nu d.ep d.up d.le d.ta d.co d.lf a d.ss.length c d.x d.si _).mono ?_
  rintro e' w1 ⟨rfl, hw1⟩
  have S1 := S0.alloc (.cells #[.int .i64 d.nu, .int .i64 d.ep, .bool d.up, .int .i64 2, .int .i64 d.le, .int .i64 d.ta, .int .i64 d.co, .int .i64 d.lf, .slice a d.ss.length c, .string d.x, .int .i64 d.si] 25)
  rw [← hw1] at S1
  clear y0 y1 y2 y3 y4 y5 y6 y7 y8 y9 y10
  clear hw1 S0
  go_upto_region 2 with fail
  have y2 : w1.cell? ⟨w.heap.size, 2, none⟩ = some (.bool d.up) := (S1.c 0 (by simp) 2 (by simp)).1
  cases hup : d.up with
  | false =>
    rw [hup] at y2
    have HUP := hid hup
    clear hup
    go_upto_region 10 with fail
    clear y2
    have HNO := hid (show ¬ (hears d k f t e l dd x ms ∧ (gets d ts k l dd ms ∨ freed d k l)) from fun hh => by have := hh.1.1; rw [HUP.out] at this; cases this)
    have y0 : w1.cell? ⟨w.heap.size, 0, none⟩ = some (.int .i64 d.nu) := (S1.c 0 (by simp) 0 (by simp)).1
    have y1 : w1.cell? ⟨w.heap.size, 1, none⟩ = some (.int .i64 d.ep) := (S1.c 0 (by simp) 1 (by simp)).1
    have y2 : w1.cell? ⟨w.heap.size, 2, none⟩ = some (.bool d.up) := (S1.c 0 (by simp) 2 (by simp)).1
    have y3 : w1.cell? ⟨w.heap.size, 3, none⟩ = some (.int .i64 d.st) := (S1.c 0 (by simp) 3 (by simp)).1
    have y4 : w1.cell? ⟨w.heap.size, 4, none⟩ = some (.int .i64 d.le) := (S1.c 0 (by simp) 4 (by simp)).1
    have y5 : w1.cell? ⟨w.heap.size, 5, none⟩ = some (.int .i64 d.ta) := (S1.c 0 (by simp) 5 (by simp)).1
    have y6 : w1.cell? ⟨w.heap.size, 6, none⟩ = some (.int .i64 d.co) := (S1.c 0 (by simp) 6 (by simp)).1
    have y7 : w1.cell? ⟨w.heap.size, 7, none⟩ = some (.int .i64 d.lf) := (S1.c 0 (by simp) 7 (by simp)).1
    have y8 : w1.cell? ⟨w.heap.size, 8, none⟩ = some (.slice a d.ss.length c) := (S1.c 0 (by simp) 8 (by simp)).1
    have y9 : w1.cell? ⟨w.heap.size, 9, none⟩ = some (.string d.x) := (S1.c 0 (by simp) 9 (by simp)).1
    have y10 : w1.cell? ⟨w.heap.size, 10, none⟩ = some (.int .i64 d.si) := (S1.c 0 (by simp) 10 (by simp)).1
    go_wp2_with fail
    refine (inState_2 d.nu d.ep d.up d.st d.le d.ta d.co d.lf a d.ss.length c d.x d.si d.le d.ta d.x _).mono ?_
    rintro e' w8 ⟨rfl, hb8⟩
    have S8 := S1.below hb8
    have R8 : CF w8 (w.heap.size + 3) [.int .i64 0, .int .i64 0, .bool false, .int .i64 0, .int .i64 0, .int .i64 0, .int .i64 0, .int .i64 0, .slice none 0 0, .string ⟨#[]⟩, .int .i64 0] := S8.c 3 (by simp)
    clear y0 y1 y2 y3 y4 y5 y6 y7 y8 y9 y10
    go_wp2_with (refine wpList_store_cf rfl 25 (.tmp 6) (.tmp 72) rfl (w.heap.size + 3) [.int .i64 0, .int .i64 0, .bool false, .int .i64 0, .int .i64 0, .int .i64 0, .int .i64 0, .int .i64 0, .slice none 0 0, .string ⟨#[]⟩, .int .i64 0] [.int .i64 d.nu, .int .i64 d.ep, .bool d.up, .int .i64 2, .int .i64 d.le, .int .i64 d.ta, .int .i64 0, .int .i64 0, .slice none 0 0, .string d.x, .int .i64 d.si] rfl rfl R8 rfl Tryd.sizeWk (one11 _ _ _ _ _ _ _ _ _ _ _ _ _) ?_; intro w10 hc10 hg10)
    have k0 : w10.cell? ⟨w.heap.size + 3, 0, none⟩ = some (.int .i64 d.nu) := (hc10 0 (by simp)).1
    have k1 : w10.cell? ⟨w.heap.size + 3, 1, none⟩ = some (.int .i64 d.ep) := (hc10 1 (by simp)).1
    have k2 : w10.cell? ⟨w.heap.size + 3, 2, none⟩ = some (.bool d.up) := (hc10 2 (by simp)).1
    have k3 : w10.cell? ⟨w.heap.size + 3, 3, none⟩ = some (.int .i64 2) := (hc10 3 (by simp)).1
    have k4 : w10.cell? ⟨w.heap.size + 3, 4, none⟩ = some (.int .i64 d.le) := (hc10 4 (by simp)).1
    have k5 : w10.cell? ⟨w.heap.size + 3, 5, none⟩ = some (.int .i64 d.ta) := (hc10 5 (by simp)).1
    have k6 : w10.cell? ⟨w.heap.size + 3, 6, none⟩ = some (.int .i64 0) := (hc10 6 (by simp)).1
    have k7 : w10.cell? ⟨w.heap.size + 3, 7, none⟩ = some (.int .i64 0) := (hc10 7 (by simp)).1
    have k8 : w10.cell? ⟨w.heap.size + 3, 8, none⟩ = some (.slice none 0 0) := (hc10 8 (by simp)).1
    have k9 : w10.cell? ⟨w.heap.size + 3, 9, none⟩ = some (.string d.x) := (hc10 9 (by simp)).1
    have k10 : w10.cell? ⟨w.heap.size + 3, 10, none⟩ = some (.int .i64 d.si) := (hc10 10 (by simp)).1
    refine bodyPost_ret (v := .agg #[.int .i64 d.nu, .int .i64 d.ep, .bool d.up, .int .i64 2, .int .i64 d.le, .int .i64 d.ta, .int .i64 0, .int .i64 0, .slice none 0 0, .string d.x, .int .i64 d.si]) (by simp [results, Tryd.results26, go_sem, k0, k1, k2, k3, k4, k5, k6, k7, k8, k9, k10]) rfl ⟨?_, below_grown S8.B hg10 (by have := S8.z; simp at this <;> omega) (fun q hq => by simp at hq; omega)⟩
    exact ⟨⟨d.nu, d.ep, d.up, 2, d.le, d.ta, 0, 0, [], d.x, d.si⟩, none, 0, rfl, Own.nil _ _ _, .inr (.inr ⟨HNO.out, (WD.ok2 HOK.out HST.out).symm⟩)⟩
  | true =>
    rw [hup] at y2
    have HUP := hid hup
    clear hup
    have m0 : w1.cell? ⟨w.heap.size + 2, 0, none⟩ = some (.int .i64 k) := (S1.c 2 (by simp) 0 (by simp)).1
    have m1 : w1.cell? ⟨w.heap.size + 2, 1, none⟩ = some (.int .i64 f) := (S1.c 2 (by simp) 1 (by simp)).1
    have m2 : w1.cell? ⟨w.heap.size + 2, 2, none⟩ = some (.int .i64 t) := (S1.c 2 (by simp) 2 (by simp)).1
    have m3 : w1.cell? ⟨w.heap.size + 2, 3, none⟩ = some (.int .i64 e) := (S1.c 2 (by simp) 3 (by simp)).1
    have m4 : w1.cell? ⟨w.heap.size + 2, 4, none⟩ = some (.int .i64 l) := (S1.c 2 (by simp) 4 (by simp)).1
    have m5 : w1.cell? ⟨w.heap.size + 2, 5, none⟩ = some (.int .i64 dd) := (S1.c 2 (by simp) 5 (by simp)).1
    have m6 : w1.cell? ⟨w.heap.size + 2, 6, none⟩ = some (.string x) := (S1.c 2 (by simp) 6 (by simp)).1
    have m7 : w1.cell? ⟨w.heap.size + 2, 7, none⟩ = some (.slice ma ms.length mc) := (S1.c 2 (by simp) 7 (by simp)).1
    go_wp2_with fail
    refine (valid_any k f t e l dd x ma mb mo ms.length mc ms _ (hTab.below' S1.B) (hm.below' S1.B)).mono ?_
    rintro e' w2 ⟨⟨r, rfl, hr⟩, hb2⟩
    have S2 := S1.below hb2
    clear m0 m1 m2 m3 m4 m5 m6 m7
    clear y2 hb2 S1
    have HR := hid hr
    clear hr
    cases r with
    | false =>
      have HV := hid (show ¬ vM k f t e l dd x.size ms from fun hh => by have := HR.out.2 hh; cases this)
      go_upto_region 10 with fail
      have HNO := hid (show ¬ (hears d k f t e l dd x ms ∧ (gets d ts k l dd ms ∨ freed d k l)) from fun hh => HV.out hh.1.2.1)
      have y0 : w2.cell? ⟨w.heap.size, 0, none⟩ = some (.int .i64 d.nu) := (S2.c 0 (by simp) 0 (by simp)).1
      have y1 : w2.cell? ⟨w.heap.size, 1, none⟩ = some (.int .i64 d.ep) := (S2.c 0 (by simp) 1 (by simp)).1
      have y2 : w2.cell? ⟨w.heap.size, 2, none⟩ = some (.bool d.up) := (S2.c 0 (by simp) 2 (by simp)).1
      have y3 : w2.cell? ⟨w.heap.size, 3, none⟩ = some (.int .i64 d.st) := (S2.c 0 (by simp) 3 (by simp)).1
      have y4 : w2.cell? ⟨w.heap.size, 4, none⟩ = some (.int .i64 d.le) := (S2.c 0 (by simp) 4 (by simp)).1
      have y5 : w2.cell? ⟨w.heap.size, 5, none⟩ = some (.int .i64 d.ta) := (S2.c 0 (by simp) 5 (by simp)).1
      have y6 : w2.cell? ⟨w.heap.size, 6, none⟩ = some (.int .i64 d.co) := (S2.c 0 (by simp) 6 (by simp)).1
      have y7 : w2.cell? ⟨w.heap.size, 7, none⟩ = some (.int .i64 d.lf) := (S2.c 0 (by simp) 7 (by simp)).1
      have y8 : w2.cell? ⟨w.heap.size, 8, none⟩ = some (.slice a d.ss.length c) := (S2.c 0 (by simp) 8 (by simp)).1
      have y9 : w2.cell? ⟨w.heap.size, 9, none⟩ = some (.string d.x) := (S2.c 0 (by simp) 9 (by simp)).1
      have y10 : w2.cell? ⟨w.heap.size, 10, none⟩ = some (.int .i64 d.si) := (S2.c 0 (by simp) 10 (by simp)).1
      go_wp2_with fail
      refine (inState_2 d.nu d.ep d.up d.st d.le d.ta d.co d.lf a d.ss.length c d.x d.si d.le d.ta d.x _).mono ?_
      rintro e' w8 ⟨rfl, hb8⟩
      have S8 := S2.below hb8
      have R8 : CF w8 (w.heap.size + 3) [.int .i64 0, .int .i64 0, .bool false, .int .i64 0, .int .i64 0, .int .i64 0, .int .i64 0, .int .i64 0, .slice none 0 0, .string ⟨#[]⟩, .int .i64 0] := S8.c 3 (by simp)
      clear y0 y1 y2 y3 y4 y5 y6 y7 y8 y9 y10
      go_wp2_with (refine wpList_store_cf rfl 25 (.tmp 6) (.tmp 72) rfl (w.heap.size + 3) [.int .i64 0, .int .i64 0, .bool false, .int .i64 0, .int .i64 0, .int .i64 0, .int .i64 0, .int .i64 0, .slice none 0 0, .string ⟨#[]⟩, .int .i64 0] [.int .i64 d.nu, .int .i64 d.ep, .bool d.up, .int .i64 2, .int .i64 d.le, .int .i64 d.ta, .int .i64 0, .int .i64 0, .slice none 0 0, .string d.x, .int .i64 d.si] rfl rfl R8 rfl Tryd.sizeWk (one11 _ _ _ _ _ _ _ _ _ _ _ _ _) ?_; intro w10 hc10 hg10)
      have k0 : w10.cell? ⟨w.heap.size + 3, 0, none⟩ = some (.int .i64 d.nu) := (hc10 0 (by simp)).1
      have k1 : w10.cell? ⟨w.heap.size + 3, 1, none⟩ = some (.int .i64 d.ep) := (hc10 1 (by simp)).1
      have k2 : w10.cell? ⟨w.heap.size + 3, 2, none⟩ = some (.bool d.up) := (hc10 2 (by simp)).1
      have k3 : w10.cell? ⟨w.heap.size + 3, 3, none⟩ = some (.int .i64 2) := (hc10 3 (by simp)).1
      have k4 : w10.cell? ⟨w.heap.size + 3, 4, none⟩ = some (.int .i64 d.le) := (hc10 4 (by simp)).1
      have k5 : w10.cell? ⟨w.heap.size + 3, 5, none⟩ = some (.int .i64 d.ta) := (hc10 5 (by simp)).1
      have k6 : w10.cell? ⟨w.heap.size + 3, 6, none⟩ = some (.int .i64 0) := (hc10 6 (by simp)).1
      have k7 : w10.cell? ⟨w.heap.size + 3, 7, none⟩ = some (.int .i64 0) := (hc10 7 (by simp)).1
      have k8 : w10.cell? ⟨w.heap.size + 3, 8, none⟩ = some (.slice none 0 0) := (hc10 8 (by simp)).1
      have k9 : w10.cell? ⟨w.heap.size + 3, 9, none⟩ = some (.string d.x) := (hc10 9 (by simp)).1
      have k10 : w10.cell? ⟨w.heap.size + 3, 10, none⟩ = some (.int .i64 d.si) := (hc10 10 (by simp)).1
      refine bodyPost_ret (v := .agg #[.int .i64 d.nu, .int .i64 d.ep, .bool d.up, .int .i64 2, .int .i64 d.le, .int .i64 d.ta, .int .i64 0, .int .i64 0, .slice none 0 0, .string d.x, .int .i64 d.si]) (by simp [results, Tryd.results26, go_sem, k0, k1, k2, k3, k4, k5, k6, k7, k8, k9, k10]) rfl ⟨?_, below_grown S8.B hg10 (by have := S8.z; simp at this <;> omega) (fun q hq => by simp at hq; omega)⟩
      exact ⟨⟨d.nu, d.ep, d.up, 2, d.le, d.ta, 0, 0, [], d.x, d.si⟩, none, 0, rfl, Own.nil _ _ _, .inr (.inr ⟨HNO.out, (WD.ok2 HOK.out HST.out).symm⟩)⟩
    | true =>
      have HV := hid (show vM k f t e l dd x.size ms from HR.out.1 rfl)
      clear HR
      have m2 : w2.cell? ⟨w.heap.size + 2, 2, none⟩ = some (.int .i64 t) := (S2.c 2 (by simp) 2 (by simp)).1
      have y0 : w2.cell? ⟨w.heap.size, 0, none⟩ = some (.int .i64 d.nu) := (S2.c 0 (by simp) 0 (by simp)).1
      by_cases ct : t = d.nu
      case neg =>
        have ctb : (t == d.nu) = false := beq_eq_false_iff_ne.2 ct
        have HT := hid ct
        clear ct
        go_upto_region 10 with fail
        clear m2 y0 ctb
        have HNO := hid (show ¬ (hears d k f t e l dd x ms ∧ (gets d ts k l dd ms ∨ freed d k l)) from fun hh => HT.out hh.1.2.2)
        have y0 : w2.cell? ⟨w.heap.size, 0, none⟩ = some (.int .i64 d.nu) := (S2.c 0 (by simp) 0 (by simp)).1
        have y1 : w2.cell? ⟨w.heap.size, 1, none⟩ = some (.int .i64 d.ep) := (S2.c 0 (by simp) 1 (by simp)).1
        have y2 : w2.cell? ⟨w.heap.size, 2, none⟩ = some (.bool d.up) := (S2.c 0 (by simp) 2 (by simp)).1
        have y3 : w2.cell? ⟨w.heap.size, 3, none⟩ = some (.int .i64 d.st) := (S2.c 0 (by simp) 3 (by simp)).1
        have y4 : w2.cell? ⟨w.heap.size, 4, none⟩ = some (.int .i64 d.le) := (S2.c 0 (by simp) 4 (by simp)).1
        have y5 : w2.cell? ⟨w.heap.size, 5, none⟩ = some (.int .i64 d.ta) := (S2.c 0 (by simp) 5 (by simp)).1
        have y6 : w2.cell? ⟨w.heap.size, 6, none⟩ = some (.int .i64 d.co) := (S2.c 0 (by simp) 6 (by simp)).1
        have y7 : w2.cell? ⟨w.heap.size, 7, none⟩ = some (.int .i64 d.lf) := (S2.c 0 (by simp) 7 (by simp)).1
        have y8 : w2.cell? ⟨w.heap.size, 8, none⟩ = some (.slice a d.ss.length c) := (S2.c 0 (by simp) 8 (by simp)).1
        have y9 : w2.cell? ⟨w.heap.size, 9, none⟩ = some (.string d.x) := (S2.c 0 (by simp) 9 (by simp)).1
        have y10 : w2.cell? ⟨w.heap.size, 10, none⟩ = some (.int .i64 d.si) := (S2.c 0 (by simp) 10 (by simp)).1
        go_wp2_with fail
        refine (inState_2 d.nu d.ep d.up d.st d.le d.ta d.co d.lf a d.ss.length c d.x d.si d.le d.ta d.x _).mono ?_
        rintro e' w8 ⟨rfl, hb8⟩
        have S8 := S2.below hb8
        have R8 : CF w8 (w.heap.size + 3) [.int .i64 0, .int .i64 0, .bool false, .int .i64 0, .int .i64 0, .int .i64 0, .int .i64 0, .int .i64 0, .slice none 0 0, .string ⟨#[]⟩, .int .i64 0] := S8.c 3 (by simp)
        clear y0 y1 y2 y3 y4 y5 y6 y7 y8 y9 y10
        go_wp2_with (refine wpList_store_cf rfl 25 (.tmp 6) (.tmp 72) rfl (w.heap.size + 3) [.int .i64 0, .int .i64 0, .bool false, .int .i64 0, .int .i64 0, .int .i64 0, .int .i64 0, .int .i64 0, .slice none 0 0, .string ⟨#[]⟩, .int .i64 0] [.int .i64 d.nu, .int .i64 d.ep, .bool d.up, .int .i64 2, .int .i64 d.le, .int .i64 d.ta, .int .i64 0, .int .i64 0, .slice none 0 0, .string d.x, .int .i64 d.si] rfl rfl R8 rfl Tryd.sizeWk (one11 _ _ _ _ _ _ _ _ _ _ _ _ _) ?_; intro w10 hc10 hg10)
        have k0 : w10.cell? ⟨w.heap.size + 3, 0, none⟩ = some (.int .i64 d.nu) := (hc10 0 (by simp)).1
        have k1 : w10.cell? ⟨w.heap.size + 3, 1, none⟩ = some (.int .i64 d.ep) := (hc10 1 (by simp)).1
        have k2 : w10.cell? ⟨w.heap.size + 3, 2, none⟩ = some (.bool d.up) := (hc10 2 (by simp)).1
        have k3 : w10.cell? ⟨w.heap.size + 3, 3, none⟩ = some (.int .i64 2) := (hc10 3 (by simp)).1
        have k4 : w10.cell? ⟨w.heap.size + 3, 4, none⟩ = some (.int .i64 d.le) := (hc10 4 (by simp)).1
        have k5 : w10.cell? ⟨w.heap.size + 3, 5, none⟩ = some (.int .i64 d.ta) := (hc10 5 (by simp)).1
        have k6 : w10.cell? ⟨w.heap.size + 3, 6, none⟩ = some (.int .i64 0) := (hc10 6 (by simp)).1
        have k7 : w10.cell? ⟨w.heap.size + 3, 7, none⟩ = some (.int .i64 0) := (hc10 7 (by simp)).1
        have k8 : w10.cell? ⟨w.heap.size + 3, 8, none⟩ = some (.slice none 0 0) := (hc10 8 (by simp)).1
        have k9 : w10.cell? ⟨w.heap.size + 3, 9, none⟩ = some (.string d.x) := (hc10 9 (by simp)).1
        have k10 : w10.cell? ⟨w.heap.size + 3, 10, none⟩ = some (.int .i64 d.si) := (hc10 10 (by simp)).1
        refine bodyPost_ret (v := .agg #[.int .i64 d.nu, .int .i64 d.ep, .bool d.up, .int .i64 2, .int .i64 d.le, .int .i64 d.ta, .int .i64 0, .int .i64 0, .slice none 0 0, .string d.x, .int .i64 d.si]) (by simp [results, Tryd.results26, go_sem, k0, k1, k2, k3, k4, k5, k6, k7, k8, k9, k10]) rfl ⟨?_, below_grown S8.B hg10 (by have := S8.z; simp at this <;> omega) (fun q hq => by simp at hq; omega)⟩
        exact ⟨⟨d.nu, d.ep, d.up, 2, d.le, d.ta, 0, 0, [], d.x, d.si⟩, none, 0, rfl, Own.nil _ _ _, .inr (.inr ⟨HNO.out, (WD.ok2 HOK.out HST.out).symm⟩)⟩
      have HT := hid ct
      have ctb : (t == d.nu) = true := beq_iff_eq.2 ct
      clear ct
      go_upto_region 3 with fail
      clear m2 y0 ctb
      have m0 : w2.cell? ⟨w.heap.size + 2, 0, none⟩ = some (.int .i64 k) := (S2.c 2 (by simp) 0 (by simp)).1
      have m4 : w2.cell? ⟨w.heap.size + 2, 4, none⟩ = some (.int .i64 l) := (S2.c 2 (by simp) 4 (by simp)).1
      by_cases c1 : k = 1
      case neg =>
        have c1b : (k == 1) = false := beq_eq_false_iff_ne.2 c1
        have HG := hid (show ¬ gets d ts k l dd ms from fun hh => c1 hh.1)
        clear c1
        by_cases c4 : k = 4
        case neg =>
          have c4b : (k == 4) = false := beq_eq_false_iff_ne.2 c4
          have HF := hid (show ¬ freed d k l from fun hh => c4 hh.1)
          clear c4
          go_upto_region 10 with fail
          clear m0 m4 c1b c4b
          have HNO := hid (show ¬ (hears d k f t e l dd x ms ∧ (gets d ts k l dd ms ∨ freed d k l)) from fun hh => hh.2.elim HG.out HF.out)
          have y0 : w2.cell? ⟨w.heap.size, 0, none⟩ = some (.int .i64 d.nu) := (S2.c 0 (by simp) 0 (by simp)).1
          have y1 : w2.cell? ⟨w.heap.size, 1, none⟩ = some (.int .i64 d.ep) := (S2.c 0 (by simp) 1 (by simp)).1
          have y2 : w2.cell? ⟨w.heap.size, 2, none⟩ = some (.bool d.up) := (S2.c 0 (by simp) 2 (by simp)).1
          have y3 : w2.cell? ⟨w.heap.size, 3, none⟩ = some (.int .i64 d.st) := (S2.c 0 (by simp) 3 (by simp)).1
          have y4 : w2.cell? ⟨w.heap.size, 4, none⟩ = some (.int .i64 d.le) := (S2.c 0 (by simp) 4 (by simp)).1
          have y5 : w2.cell? ⟨w.heap.size, 5, none⟩ = some (.int .i64 d.ta) := (S2.c 0 (by simp) 5 (by simp)).1
          have y6 : w2.cell? ⟨w.heap.size, 6, none⟩ = some (.int .i64 d.co) := (S2.c 0 (by simp) 6 (by simp)).1
          have y7 : w2.cell? ⟨w.heap.size, 7, none⟩ = some (.int .i64 d.lf) := (S2.c 0 (by simp) 7 (by simp)).1
          have y8 : w2.cell? ⟨w.heap.size, 8, none⟩ = some (.slice a d.ss.length c) := (S2.c 0 (by simp) 8 (by simp)).1
          have y9 : w2.cell? ⟨w.heap.size, 9, none⟩ = some (.string d.x) := (S2.c 0 (by simp) 9 (by simp)).1
          have y10 : w2.cell? ⟨w.heap.size, 10, none⟩ = some (.int .i64 d.si) := (S2.c 0 (by simp) 10 (by simp)).1
          go_wp2_with fail
          refine (inState_2 d.nu d.ep d.up d.st d.le d.ta d.co d.lf a d.ss.length c d.x d.si d.le d.ta d.x _).mono ?_
          rintro e' w8 ⟨rfl, hb8⟩
          have S8 := S2.below hb8
          have R8 : CF w8 (w.heap.size + 3) [.int .i64 0, .int .i64 0, .bool false, .int .i64 0, .int .i64 0, .int .i64 0, .int .i64 0, .int .i64 0, .slice none 0 0, .string ⟨#[]⟩, .int .i64 0] := S8.c 3 (by simp)
          clear y0 y1 y2 y3 y4 y5 y6 y7 y8 y9 y10
          go_wp2_with (refine wpList_store_cf rfl 25 (.tmp 6) (.tmp 72) rfl (w.heap.size + 3) [.int .i64 0, .int .i64 0, .bool false, .int .i64 0, .int .i64 0, .int .i64 0, .int .i64 0, .int .i64 0, .slice none 0 0, .string ⟨#[]⟩, .int .i64 0] [.int .i64 d.nu, .int .i64 d.ep, .bool d.up, .int .i64 2, .int .i64 d.le, .int .i64 d.ta, .int .i64 0, .int .i64 0, .slice none 0 0, .string d.x, .int .i64 d.si] rfl rfl R8 rfl Tryd.sizeWk (one11 _ _ _ _ _ _ _ _ _ _ _ _ _) ?_; intro w10 hc10 hg10)
          have k0 : w10.cell? ⟨w.heap.size + 3, 0, none⟩ = some (.int .i64 d.nu) := (hc10 0 (by simp)).1
          have k1 : w10.cell? ⟨w.heap.size + 3, 1, none⟩ = some (.int .i64 d.ep) := (hc10 1 (by simp)).1
          have k2 : w10.cell? ⟨w.heap.size + 3, 2, none⟩ = some (.bool d.up) := (hc10 2 (by simp)).1
          have k3 : w10.cell? ⟨w.heap.size + 3, 3, none⟩ = some (.int .i64 2) := (hc10 3 (by simp)).1
          have k4 : w10.cell? ⟨w.heap.size + 3, 4, none⟩ = some (.int .i64 d.le) := (hc10 4 (by simp)).1
          have k5 : w10.cell? ⟨w.heap.size + 3, 5, none⟩ = some (.int .i64 d.ta) := (hc10 5 (by simp)).1
          have k6 : w10.cell? ⟨w.heap.size + 3, 6, none⟩ = some (.int .i64 0) := (hc10 6 (by simp)).1
          have k7 : w10.cell? ⟨w.heap.size + 3, 7, none⟩ = some (.int .i64 0) := (hc10 7 (by simp)).1
          have k8 : w10.cell? ⟨w.heap.size + 3, 8, none⟩ = some (.slice none 0 0) := (hc10 8 (by simp)).1
          have k9 : w10.cell? ⟨w.heap.size + 3, 9, none⟩ = some (.string d.x) := (hc10 9 (by simp)).1
          have k10 : w10.cell? ⟨w.heap.size + 3, 10, none⟩ = some (.int .i64 d.si) := (hc10 10 (by simp)).1
          refine bodyPost_ret (v := .agg #[.int .i64 d.nu, .int .i64 d.ep, .bool d.up, .int .i64 2, .int .i64 d.le, .int .i64 d.ta, .int .i64 0, .int .i64 0, .slice none 0 0, .string d.x, .int .i64 d.si]) (by simp [results, Tryd.results26, go_sem, k0, k1, k2, k3, k4, k5, k6, k7, k8, k9, k10]) rfl ⟨?_, below_grown S8.B hg10 (by have := S8.z; simp at this <;> omega) (fun q hq => by simp at hq; omega)⟩
          exact ⟨⟨d.nu, d.ep, d.up, 2, d.le, d.ta, 0, 0, [], d.x, d.si⟩, none, 0, rfl, Own.nil _ _ _, .inr (.inr ⟨HNO.out, (WD.ok2 HOK.out HST.out).symm⟩)⟩
        subst c4
        clear c1b
        go_wp2_with fail
        refine (waits_2 d.le d.ta d.x l _).mono ?_
        rintro e' w3 ⟨rfl, hb3⟩
        have S3 := S2.below hb3
        clear m0 m4 hb3 S2
        by_cases cl : d.le = l
        case neg =>
          have clb : (d.le == l) = false := beq_eq_false_iff_ne.2 cl
          have HF := hid (show ¬ freed d 4 l from fun hh => cl hh.2.2)
          clear cl
          go_upto_region 10 with fail
          clear clb
          have HNO := hid (show ¬ (hears d 4 f t e l dd x ms ∧ (gets d ts 4 l dd ms ∨ freed d 4 l)) from fun hh => hh.2.elim HG.out HF.out)
          have y0 : w3.cell? ⟨w.heap.size, 0, none⟩ = some (.int .i64 d.nu) := (S3.c 0 (by simp) 0 (by simp)).1
          have y1 : w3.cell? ⟨w.heap.size, 1, none⟩ = some (.int .i64 d.ep) := (S3.c 0 (by simp) 1 (by simp)).1
          have y2 : w3.cell? ⟨w.heap.size, 2, none⟩ = some (.bool d.up) := (S3.c 0 (by simp) 2 (by simp)).1
          have y3 : w3.cell? ⟨w.heap.size, 3, none⟩ = some (.int .i64 d.st) := (S3.c 0 (by simp) 3 (by simp)).1
          have y4 : w3.cell? ⟨w.heap.size, 4, none⟩ = some (.int .i64 d.le) := (S3.c 0 (by simp) 4 (by simp)).1
          have y5 : w3.cell? ⟨w.heap.size, 5, none⟩ = some (.int .i64 d.ta) := (S3.c 0 (by simp) 5 (by simp)).1
          have y6 : w3.cell? ⟨w.heap.size, 6, none⟩ = some (.int .i64 d.co) := (S3.c 0 (by simp) 6 (by simp)).1
          have y7 : w3.cell? ⟨w.heap.size, 7, none⟩ = some (.int .i64 d.lf) := (S3.c 0 (by simp) 7 (by simp)).1
          have y8 : w3.cell? ⟨w.heap.size, 8, none⟩ = some (.slice a d.ss.length c) := (S3.c 0 (by simp) 8 (by simp)).1
          have y9 : w3.cell? ⟨w.heap.size, 9, none⟩ = some (.string d.x) := (S3.c 0 (by simp) 9 (by simp)).1
          have y10 : w3.cell? ⟨w.heap.size, 10, none⟩ = some (.int .i64 d.si) := (S3.c 0 (by simp) 10 (by simp)).1
          go_wp2_with fail
          refine (inState_2 d.nu d.ep d.up d.st d.le d.ta d.co d.lf a d.ss.length c d.x d.si d.le d.ta d.x _).mono ?_
          rintro e' w8 ⟨rfl, hb8⟩
          have S8 := S3.below hb8
          have R8 : CF w8 (w.heap.size + 3) [.int .i64 0, .int .i64 0, .bool false, .int .i64 0, .int .i64 0, .int .i64 0, .int .i64 0, .int .i64 0, .slice none 0 0, .string ⟨#[]⟩, .int .i64 0] := S8.c 3 (by simp)
          clear y0 y1 y2 y3 y4 y5 y6 y7 y8 y9 y10
          go_wp2_with (refine wpList_store_cf rfl 25 (.tmp 6) (.tmp 72) rfl (w.heap.size + 3) [.int .i64 0, .int .i64 0, .bool false, .int .i64 0, .int .i64 0, .int .i64 0, .int .i64 0, .int .i64 0, .slice none 0 0, .string ⟨#[]⟩, .int .i64 0] [.int .i64 d.nu, .int .i64 d.ep, .bool d.up, .int .i64 2, .int .i64 d.le, .int .i64 d.ta, .int .i64 0, .int .i64 0, .slice none 0 0, .string d.x, .int .i64 d.si] rfl rfl R8 rfl Tryd.sizeWk (one11 _ _ _ _ _ _ _ _ _ _ _ _ _) ?_; intro w10 hc10 hg10)
          have k0 : w10.cell? ⟨w.heap.size + 3, 0, none⟩ = some (.int .i64 d.nu) := (hc10 0 (by simp)).1
          have k1 : w10.cell? ⟨w.heap.size + 3, 1, none⟩ = some (.int .i64 d.ep) := (hc10 1 (by simp)).1
          have k2 : w10.cell? ⟨w.heap.size + 3, 2, none⟩ = some (.bool d.up) := (hc10 2 (by simp)).1
          have k3 : w10.cell? ⟨w.heap.size + 3, 3, none⟩ = some (.int .i64 2) := (hc10 3 (by simp)).1
          have k4 : w10.cell? ⟨w.heap.size + 3, 4, none⟩ = some (.int .i64 d.le) := (hc10 4 (by simp)).1
          have k5 : w10.cell? ⟨w.heap.size + 3, 5, none⟩ = some (.int .i64 d.ta) := (hc10 5 (by simp)).1
          have k6 : w10.cell? ⟨w.heap.size + 3, 6, none⟩ = some (.int .i64 0) := (hc10 6 (by simp)).1
          have k7 : w10.cell? ⟨w.heap.size + 3, 7, none⟩ = some (.int .i64 0) := (hc10 7 (by simp)).1
          have k8 : w10.cell? ⟨w.heap.size + 3, 8, none⟩ = some (.slice none 0 0) := (hc10 8 (by simp)).1
          have k9 : w10.cell? ⟨w.heap.size + 3, 9, none⟩ = some (.string d.x) := (hc10 9 (by simp)).1
          have k10 : w10.cell? ⟨w.heap.size + 3, 10, none⟩ = some (.int .i64 d.si) := (hc10 10 (by simp)).1
          refine bodyPost_ret (v := .agg #[.int .i64 d.nu, .int .i64 d.ep, .bool d.up, .int .i64 2, .int .i64 d.le, .int .i64 d.ta, .int .i64 0, .int .i64 0, .slice none 0 0, .string d.x, .int .i64 d.si]) (by simp [results, Tryd.results26, go_sem, k0, k1, k2, k3, k4, k5, k6, k7, k8, k9, k10]) rfl ⟨?_, below_grown S8.B hg10 (by have := S8.z; simp at this <;> omega) (fun q hq => by simp at hq; omega)⟩
          exact ⟨⟨d.nu, d.ep, d.up, 2, d.le, d.ta, 0, 0, [], d.x, d.si⟩, none, 0, rfl, Own.nil _ _ _, .inr (.inr ⟨HNO.out, (WD.ok2 HOK.out HST.out).symm⟩)⟩
        have clb : (d.le == l) = true := beq_iff_eq.2 cl
        have HF := hid (show freed d 4 l from ⟨rfl, HST.out, cl⟩)
        clear cl
        have y10 : w3.cell? ⟨w.heap.size, 10, none⟩ = some (.int .i64 d.si) := (S3.c 0 (by simp) 10 (by simp)).1
        have f10 : w3.frozen? ⟨w.heap.size, 10, none⟩ = false := (S3.c 0 (by simp) 10 (by simp)).2
        go_upto_region 10 with fail
        clear clb y10 f10
        obtain ⟨w4, hw4⟩ : ∃ V, V = w3.setCell ⟨w.heap.size, 10, none⟩ (.int .i64 3) := ⟨_, rfl⟩
        have S4 := S3.set 0 10 (by simp) (by simp) (.int .i64 3)
        have ew : w3.setCell ⟨w.heap.size + 0, 10, none⟩ (.int .i64 3) = w4 := hw4.symm
        rw [ew] at S4
        rw [← hw4]
        clear hw4 ew S3
        have y0 : w4.cell? ⟨w.heap.size, 0, none⟩ = some (.int .i64 d.nu) := (S4.c 0 (by simp) 0 (by simp)).1
        have y1 : w4.cell? ⟨w.heap.size, 1, none⟩ = some (.int .i64 d.ep) := (S4.c 0 (by simp) 1 (by simp)).1
        have y2 : w4.cell? ⟨w.heap.size, 2, none⟩ = some (.bool d.up) := (S4.c 0 (by simp) 2 (by simp)).1
        have y3 : w4.cell? ⟨w.heap.size, 3, none⟩ = some (.int .i64 d.st) := (S4.c 0 (by simp) 3 (by simp)).1
        have y4 : w4.cell? ⟨w.heap.size, 4, none⟩ = some (.int .i64 d.le) := (S4.c 0 (by simp) 4 (by simp)).1
        have y5 : w4.cell? ⟨w.heap.size, 5, none⟩ = some (.int .i64 d.ta) := (S4.c 0 (by simp) 5 (by simp)).1
        have y6 : w4.cell? ⟨w.heap.size, 6, none⟩ = some (.int .i64 d.co) := (S4.c 0 (by simp) 6 (by simp)).1
        have y7 : w4.cell? ⟨w.heap.size, 7, none⟩ = some (.int .i64 d.lf) := (S4.c 0 (by simp) 7 (by simp)).1
        have y8 : w4.cell? ⟨w.heap.size, 8, none⟩ = some (.slice a d.ss.length c) := (S4.c 0 (by simp) 8 (by simp)).1
        have y9 : w4.cell? ⟨w.heap.size, 9, none⟩ = some (.string d.x) := (S4.c 0 (by simp) 9 (by simp)).1
        have y10 : w4.cell? ⟨w.heap.size, 10, none⟩ = some (.int .i64 3) := (S4.c 0 (by simp) 10 (by simp)).1
        go_wp2_with fail
        refine (inState_0 d.nu d.ep d.up d.st d.le d.ta d.co d.lf a d.ss.length c d.x 3 _).mono ?_
        rintro e' w8 ⟨rfl, hb8⟩
        have S8 := S4.below hb8
        have R8 : CF w8 (w.heap.size + 3) [.int .i64 0, .int .i64 0, .bool false, .int .i64 0, .int .i64 0, .int .i64 0, .int .i64 0, .int .i64 0, .slice none 0 0, .string ⟨#[]⟩, .int .i64 0] := S8.c 3 (by simp)
        clear y0 y1 y2 y3 y4 y5 y6 y7 y8 y9 y10
        go_wp2_with (refine wpList_store_cf rfl 25 (.tmp 6) (.tmp 72) rfl (w.heap.size + 3) [.int .i64 0, .int .i64 0, .bool false, .int .i64 0, .int .i64 0, .int .i64 0, .int .i64 0, .int .i64 0, .slice none 0 0, .string ⟨#[]⟩, .int .i64 0] [.int .i64 d.nu, .int .i64 d.ep, .bool d.up, .int .i64 0, .int .i64 0, .int .i64 0, .int .i64 0, .int .i64 0, .slice none 0 0, .string ⟨#[]⟩, .int .i64 3] rfl rfl R8 rfl Tryd.sizeWk (one11 _ _ _ _ _ _ _ _ _ _ _ _ _) ?_; intro w10 hc10 hg10)
        have k0 : w10.cell? ⟨w.heap.size + 3, 0, none⟩ = some (.int .i64 d.nu) := (hc10 0 (by simp)).1
        have k1 : w10.cell? ⟨w.heap.size + 3, 1, none⟩ = some (.int .i64 d.ep) := (hc10 1 (by simp)).1
        have k2 : w10.cell? ⟨w.heap.size + 3, 2, none⟩ = some (.bool d.up) := (hc10 2 (by simp)).1
        have k3 : w10.cell? ⟨w.heap.size + 3, 3, none⟩ = some (.int .i64 0) := (hc10 3 (by simp)).1
        have k4 : w10.cell? ⟨w.heap.size + 3, 4, none⟩ = some (.int .i64 0) := (hc10 4 (by simp)).1
        have k5 : w10.cell? ⟨w.heap.size + 3, 5, none⟩ = some (.int .i64 0) := (hc10 5 (by simp)).1
        have k6 : w10.cell? ⟨w.heap.size + 3, 6, none⟩ = some (.int .i64 0) := (hc10 6 (by simp)).1
        have k7 : w10.cell? ⟨w.heap.size + 3, 7, none⟩ = some (.int .i64 0) := (hc10 7 (by simp)).1
        have k8 : w10.cell? ⟨w.heap.size + 3, 8, none⟩ = some (.slice none 0 0) := (hc10 8 (by simp)).1
        have k9 : w10.cell? ⟨w.heap.size + 3, 9, none⟩ = some (.string ⟨#[]⟩) := (hc10 9 (by simp)).1
        have k10 : w10.cell? ⟨w.heap.size + 3, 10, none⟩ = some (.int .i64 3) := (hc10 10 (by simp)).1
        refine bodyPost_ret (v := .agg #[.int .i64 d.nu, .int .i64 d.ep, .bool d.up, .int .i64 0, .int .i64 0, .int .i64 0, .int .i64 0, .int .i64 0, .slice none 0 0, .string ⟨#[]⟩, .int .i64 3]) (by simp [results, Tryd.results26, go_sem, k0, k1, k2, k3, k4, k5, k6, k7, k8, k9, k10]) rfl ⟨?_, below_grown S8.B hg10 (by have := S8.z; simp at this <;> omega) (fun q hq => by simp at hq; omega)⟩
        exact ⟨freeD d, none, 0, rfl, Own.nil _ _ _, .inr (.inl ⟨⟨HUP.out, HV.out, HT.out⟩, HF.out, rfl⟩)⟩
      subst c1
      have hd := vM_in HV.out rfl
      have hd0 := hd.2.1
      have hd1 := hd.2.2.1
      have HIN := hid hd.2.2.2
      clear hd
      have HPL := hid hp.len
      have HF := hid (show ¬ freed d 1 l from fun hh => absurd hh.1 (by decide))
      have m1 : w2.cell? ⟨w.heap.size + 2, 1, none⟩ = some (.int .i64 f) := (S2.c 2 (by simp) 1 (by simp)).1
      have m2 : w2.cell? ⟨w.heap.size + 2, 2, none⟩ = some (.int .i64 t) := (S2.c 2 (by simp) 2 (by simp)).1
      have m3 : w2.cell? ⟨w.heap.size + 2, 3, none⟩ = some (.int .i64 e) := (S2.c 2 (by simp) 3 (by simp)).1
      have m5 : w2.cell? ⟨w.heap.size + 2, 5, none⟩ = some (.int .i64 dd) := (S2.c 2 (by simp) 5 (by simp)).1
      have m6 : w2.cell? ⟨w.heap.size + 2, 6, none⟩ = some (.string x) := (S2.c 2 (by simp) 6 (by simp)).1
      have m7 : w2.cell? ⟨w.heap.size + 2, 7, none⟩ = some (.slice ma ms.length mc) := (S2.c 2 (by simp) 7 (by simp)).1
      have yp : w2.cell? ⟨w.heap.size + 1, 0, none⟩ = some (.slice pa pn pc) := (S2.c 1 (by simp) 0 (by simp)).1
      go_wp2_with fail
      refine (offerFits_any 1 f t e l dd x ma ms.length mc pa pb po pn pc ts _ (hp.below' S2.B) hd0 hd1).mono ?_
      rintro e' w3 ⟨⟨r, rfl, hr⟩, hb3⟩
      have S3 := S2.below hb3
      clear m0 m1 m2 m3 m4 m5 m6 m7
      clear yp hb3 S2
      have HR := hid hr
      clear hr
      cases r with
      | false =>
        have HG := hid (show ¬ gets d ts 1 l dd ms from fun hh => by have h5 := HR.out.2 ⟨by have := hh.2.1; rw [HPL.out] at this; exact this, hh.2.2.1⟩; cases h5)
        have m0 : w3.cell? ⟨w.heap.size + 2, 0, none⟩ = some (.int .i64 1) := (S3.c 2 (by simp) 0 (by simp)).1
        go_upto_region 10 with fail
        clear m0
        have HNO := hid (show ¬ (hears d 1 f t e l dd x ms ∧ (gets d ts 1 l dd ms ∨ freed d 1 l)) from fun hh => hh.2.elim HG.out HF.out)
        have y0 : w3.cell? ⟨w.heap.size, 0, none⟩ = some (.int .i64 d.nu) := (S3.c 0 (by simp) 0 (by simp)).1
        have y1 : w3.cell? ⟨w.heap.size, 1, none⟩ = some (.int .i64 d.ep) := (S3.c 0 (by simp) 1 (by simp)).1
        have y2 : w3.cell? ⟨w.heap.size, 2, none⟩ = some (.bool d.up) := (S3.c 0 (by simp) 2 (by simp)).1
        have y3 : w3.cell? ⟨w.heap.size, 3, none⟩ = some (.int .i64 d.st) := (S3.c 0 (by simp) 3 (by simp)).1
        have y4 : w3.cell? ⟨w.heap.size, 4, none⟩ = some (.int .i64 d.le) := (S3.c 0 (by simp) 4 (by simp)).1
        have y5 : w3.cell? ⟨w.heap.size, 5, none⟩ = some (.int .i64 d.ta) := (S3.c 0 (by simp) 5 (by simp)).1
        have y6 : w3.cell? ⟨w.heap.size, 6, none⟩ = some (.int .i64 d.co) := (S3.c 0 (by simp) 6 (by simp)).1
        have y7 : w3.cell? ⟨w.heap.size, 7, none⟩ = some (.int .i64 d.lf) := (S3.c 0 (by simp) 7 (by simp)).1
        have y8 : w3.cell? ⟨w.heap.size, 8, none⟩ = some (.slice a d.ss.length c) := (S3.c 0 (by simp) 8 (by simp)).1
        have y9 : w3.cell? ⟨w.heap.size, 9, none⟩ = some (.string d.x) := (S3.c 0 (by simp) 9 (by simp)).1
        have y10 : w3.cell? ⟨w.heap.size, 10, none⟩ = some (.int .i64 d.si) := (S3.c 0 (by simp) 10 (by simp)).1
        go_wp2_with fail
        refine (inState_2 d.nu d.ep d.up d.st d.le d.ta d.co d.lf a d.ss.length c d.x d.si d.le d.ta d.x _).mono ?_
        rintro e' w8 ⟨rfl, hb8⟩
        have S8 := S3.below hb8
        have R8 : CF w8 (w.heap.size + 3) [.int .i64 0, .int .i64 0, .bool false, .int .i64 0, .int .i64 0, .int .i64 0, .int .i64 0, .int .i64 0, .slice none 0 0, .string ⟨#[]⟩, .int .i64 0] := S8.c 3 (by simp)
        clear y0 y1 y2 y3 y4 y5 y6 y7 y8 y9 y10
        go_wp2_with (refine wpList_store_cf rfl 25 (.tmp 6) (.tmp 72) rfl (w.heap.size + 3) [.int .i64 0, .int .i64 0, .bool false, .int .i64 0, .int .i64 0, .int .i64 0, .int .i64 0, .int .i64 0, .slice none 0 0, .string ⟨#[]⟩, .int .i64 0] [.int .i64 d.nu, .int .i64 d.ep, .bool d.up, .int .i64 2, .int .i64 d.le, .int .i64 d.ta, .int .i64 0, .int .i64 0, .slice none 0 0, .string d.x, .int .i64 d.si] rfl rfl R8 rfl Tryd.sizeWk (one11 _ _ _ _ _ _ _ _ _ _ _ _ _) ?_; intro w10 hc10 hg10)
        have k0 : w10.cell? ⟨w.heap.size + 3, 0, none⟩ = some (.int .i64 d.nu) := (hc10 0 (by simp)).1
        have k1 : w10.cell? ⟨w.heap.size + 3, 1, none⟩ = some (.int .i64 d.ep) := (hc10 1 (by simp)).1
        have k2 : w10.cell? ⟨w.heap.size + 3, 2, none⟩ = some (.bool d.up) := (hc10 2 (by simp)).1
        have k3 : w10.cell? ⟨w.heap.size + 3, 3, none⟩ = some (.int .i64 2) := (hc10 3 (by simp)).1
        have k4 : w10.cell? ⟨w.heap.size + 3, 4, none⟩ = some (.int .i64 d.le) := (hc10 4 (by simp)).1
        have k5 : w10.cell? ⟨w.heap.size + 3, 5, none⟩ = some (.int .i64 d.ta) := (hc10 5 (by simp)).1
        have k6 : w10.cell? ⟨w.heap.size + 3, 6, none⟩ = some (.int .i64 0) := (hc10 6 (by simp)).1
        have k7 : w10.cell? ⟨w.heap.size + 3, 7, none⟩ = some (.int .i64 0) := (hc10 7 (by simp)).1
        have k8 : w10.cell? ⟨w.heap.size + 3, 8, none⟩ = some (.slice none 0 0) := (hc10 8 (by simp)).1
        have k9 : w10.cell? ⟨w.heap.size + 3, 9, none⟩ = some (.string d.x) := (hc10 9 (by simp)).1
        have k10 : w10.cell? ⟨w.heap.size + 3, 10, none⟩ = some (.int .i64 d.si) := (hc10 10 (by simp)).1
        refine bodyPost_ret (v := .agg #[.int .i64 d.nu, .int .i64 d.ep, .bool d.up, .int .i64 2, .int .i64 d.le, .int .i64 d.ta, .int .i64 0, .int .i64 0, .slice none 0 0, .string d.x, .int .i64 d.si]) (by simp [results, Tryd.results26, go_sem, k0, k1, k2, k3, k4, k5, k6, k7, k8, k9, k10]) rfl ⟨?_, below_grown S8.B hg10 (by have := S8.z; simp at this <;> omega) (fun q hq => by simp at hq; omega)⟩
        exact ⟨⟨d.nu, d.ep, d.up, 2, d.le, d.ta, 0, 0, [], d.x, d.si⟩, none, 0, rfl, Own.nil _ _ _, .inr (.inr ⟨HNO.out, (WD.ok2 HOK.out HST.out).symm⟩)⟩
      | true =>
        have HFIT := hid (HR.out.1 rfl)
        clear HR
        have m4 : w3.cell? ⟨w.heap.size + 2, 4, none⟩ = some (.int .i64 l) := (S3.c 2 (by simp) 4 (by simp)).1
        go_wp2_with fail
        refine (yields_2 d.le d.ta d.x l _).mono ?_
        rintro e' w4 ⟨rfl, hb4⟩
        have S4 := S3.below hb4
        clear m4 hb4 S3
        by_cases cl : d.le < l
        case neg =>
          have clb : decide (d.le < l) = false := decide_eq_false cl
          have HG := hid (show ¬ gets d ts 1 l dd ms from fun hh => hh.2.2.2.elim (fun h5 => by rw [HST.out] at h5; exact absurd h5 (by decide)) cl)
          have m0 : w4.cell? ⟨w.heap.size + 2, 0, none⟩ = some (.int .i64 1) := (S4.c 2 (by simp) 0 (by simp)).1
          go_upto_region 10 with fail
          clear m0 clb
          have HNO := hid (show ¬ (hears d 1 f t e l dd x ms ∧ (gets d ts 1 l dd ms ∨ freed d 1 l)) from fun hh => hh.2.elim HG.out HF.out)
          have y0 : w4.cell? ⟨w.heap.size, 0, none⟩ = some (.int .i64 d.nu) := (S4.c 0 (by simp) 0 (by simp)).1
          have y1 : w4.cell? ⟨w.heap.size, 1, none⟩ = some (.int .i64 d.ep) := (S4.c 0 (by simp) 1 (by simp)).1
          have y2 : w4.cell? ⟨w.heap.size, 2, none⟩ = some (.bool d.up) := (S4.c 0 (by simp) 2 (by simp)).1
          have y3 : w4.cell? ⟨w.heap.size, 3, none⟩ = some (.int .i64 d.st) := (S4.c 0 (by simp) 3 (by simp)).1
          have y4 : w4.cell? ⟨w.heap.size, 4, none⟩ = some (.int .i64 d.le) := (S4.c 0 (by simp) 4 (by simp)).1
          have y5 : w4.cell? ⟨w.heap.size, 5, none⟩ = some (.int .i64 d.ta) := (S4.c 0 (by simp) 5 (by simp)).1
          have y6 : w4.cell? ⟨w.heap.size, 6, none⟩ = some (.int .i64 d.co) := (S4.c 0 (by simp) 6 (by simp)).1
          have y7 : w4.cell? ⟨w.heap.size, 7, none⟩ = some (.int .i64 d.lf) := (S4.c 0 (by simp) 7 (by simp)).1
          have y8 : w4.cell? ⟨w.heap.size, 8, none⟩ = some (.slice a d.ss.length c) := (S4.c 0 (by simp) 8 (by simp)).1
          have y9 : w4.cell? ⟨w.heap.size, 9, none⟩ = some (.string d.x) := (S4.c 0 (by simp) 9 (by simp)).1
          have y10 : w4.cell? ⟨w.heap.size, 10, none⟩ = some (.int .i64 d.si) := (S4.c 0 (by simp) 10 (by simp)).1
          go_wp2_with fail
          refine (inState_2 d.nu d.ep d.up d.st d.le d.ta d.co d.lf a d.ss.length c d.x d.si d.le d.ta d.x _).mono ?_
          rintro e' w8 ⟨rfl, hb8⟩
          have S8 := S4.below hb8
          have R8 : CF w8 (w.heap.size + 3) [.int .i64 0, .int .i64 0, .bool false, .int .i64 0, .int .i64 0, .int .i64 0, .int .i64 0, .int .i64 0, .slice none 0 0, .string ⟨#[]⟩, .int .i64 0] := S8.c 3 (by simp)
          clear y0 y1 y2 y3 y4 y5 y6 y7 y8 y9 y10
          go_wp2_with (refine wpList_store_cf rfl 25 (.tmp 6) (.tmp 72) rfl (w.heap.size + 3) [.int .i64 0, .int .i64 0, .bool false, .int .i64 0, .int .i64 0, .int .i64 0, .int .i64 0, .int .i64 0, .slice none 0 0, .string ⟨#[]⟩, .int .i64 0] [.int .i64 d.nu, .int .i64 d.ep, .bool d.up, .int .i64 2, .int .i64 d.le, .int .i64 d.ta, .int .i64 0, .int .i64 0, .slice none 0 0, .string d.x, .int .i64 d.si] rfl rfl R8 rfl Tryd.sizeWk (one11 _ _ _ _ _ _ _ _ _ _ _ _ _) ?_; intro w10 hc10 hg10)
          have k0 : w10.cell? ⟨w.heap.size + 3, 0, none⟩ = some (.int .i64 d.nu) := (hc10 0 (by simp)).1
          have k1 : w10.cell? ⟨w.heap.size + 3, 1, none⟩ = some (.int .i64 d.ep) := (hc10 1 (by simp)).1
          have k2 : w10.cell? ⟨w.heap.size + 3, 2, none⟩ = some (.bool d.up) := (hc10 2 (by simp)).1
          have k3 : w10.cell? ⟨w.heap.size + 3, 3, none⟩ = some (.int .i64 2) := (hc10 3 (by simp)).1
          have k4 : w10.cell? ⟨w.heap.size + 3, 4, none⟩ = some (.int .i64 d.le) := (hc10 4 (by simp)).1
          have k5 : w10.cell? ⟨w.heap.size + 3, 5, none⟩ = some (.int .i64 d.ta) := (hc10 5 (by simp)).1
          have k6 : w10.cell? ⟨w.heap.size + 3, 6, none⟩ = some (.int .i64 0) := (hc10 6 (by simp)).1
          have k7 : w10.cell? ⟨w.heap.size + 3, 7, none⟩ = some (.int .i64 0) := (hc10 7 (by simp)).1
          have k8 : w10.cell? ⟨w.heap.size + 3, 8, none⟩ = some (.slice none 0 0) := (hc10 8 (by simp)).1
          have k9 : w10.cell? ⟨w.heap.size + 3, 9, none⟩ = some (.string d.x) := (hc10 9 (by simp)).1
          have k10 : w10.cell? ⟨w.heap.size + 3, 10, none⟩ = some (.int .i64 d.si) := (hc10 10 (by simp)).1
          refine bodyPost_ret (v := .agg #[.int .i64 d.nu, .int .i64 d.ep, .bool d.up, .int .i64 2, .int .i64 d.le, .int .i64 d.ta, .int .i64 0, .int .i64 0, .slice none 0 0, .string d.x, .int .i64 d.si]) (by simp [results, Tryd.results26, go_sem, k0, k1, k2, k3, k4, k5, k6, k7, k8, k9, k10]) rfl ⟨?_, below_grown S8.B hg10 (by have := S8.z; simp at this <;> omega) (fun q hq => by simp at hq; omega)⟩
          exact ⟨⟨d.nu, d.ep, d.up, 2, d.le, d.ta, 0, 0, [], d.x, d.si⟩, none, 0, rfl, Own.nil _ _ _, .inr (.inr ⟨HNO.out, (WD.ok2 HOK.out HST.out).symm⟩)⟩
        have clb : decide (d.le < l) = true := decide_eq_true cl
        have HG := hid (show gets d ts 1 l dd ms from ⟨rfl, by rw [HPL.out]; exact HFIT.out.1, HFIT.out.2, .inr cl⟩)
        obtain ⟨jj, a', n', c', hjd, hj, hpa, hc1, -, -⟩ := (hp.below' S4.B).task hd0 HFIT.out.1
        subst hpa
        subst hjd
        obtain ⟨ct, hct⟩ : ∃ ct, ct = dcost ts jj := ⟨_, rfl⟩
        rw [← hct] at hc1
        have HCT := hid hct
        clear hct HFIT
        have m4 : w4.cell? ⟨w.heap.size + 2, 4, none⟩ = some (.int .i64 l) := (S4.c 2 (by simp) 4 (by simp)).1
        have m5 : w4.cell? ⟨w.heap.size + 2, 5, none⟩ = some (.int .i64 jj) := (S4.c 2 (by simp) 5 (by simp)).1
        have m7 : w4.cell? ⟨w.heap.size + 2, 7, none⟩ = some (.slice ma ms.length mc) := (S4.c 2 (by simp) 7 (by simp)).1
        have yp : w4.cell? ⟨w.heap.size + 1, 0, none⟩ = some (.slice (some ⟨pb, po, none⟩) pn pc) := (S4.c 1 (by simp) 0 (by simp)).1
        have y10 : w4.cell? ⟨w.heap.size, 10, none⟩ = some (.int .i64 d.si) := (S4.c 0 (by simp) 10 (by simp)).1
        have f10 : w4.frozen? ⟨w.heap.size, 10, none⟩ = false := (S4.c 0 (by simp) 10 (by simp)).2
        go_upto_region 10 with fail
        clear m4 m5 m7 yp y10 f10 hc1 cl clb
        obtain ⟨w5, hw5⟩ : ∃ V, V = w4.setCell ⟨w.heap.size, 10, none⟩ (.int .i64 0) := ⟨_, rfl⟩
        have S5 := S4.set 0 10 (by simp) (by simp) (.int .i64 0)
        have ew : w4.setCell ⟨w.heap.size + 0, 10, none⟩ (.int .i64 0) = w5 := hw5.symm
        rw [ew] at S5
        rw [← hw5]
        clear hw5 ew S4
        have y0 : w5.cell? ⟨w.heap.size, 0, none⟩ = some (.int .i64 d.nu) := (S5.c 0 (by simp) 0 (by simp)).1
        have y1 : w5.cell? ⟨w.heap.size, 1, none⟩ = some (.int .i64 d.ep) := (S5.c 0 (by simp) 1 (by simp)).1
        have y2 : w5.cell? ⟨w.heap.size, 2, none⟩ = some (.bool d.up) := (S5.c 0 (by simp) 2 (by simp)).1
        have y3 : w5.cell? ⟨w.heap.size, 3, none⟩ = some (.int .i64 d.st) := (S5.c 0 (by simp) 3 (by simp)).1
        have y4 : w5.cell? ⟨w.heap.size, 4, none⟩ = some (.int .i64 d.le) := (S5.c 0 (by simp) 4 (by simp)).1
        have y5 : w5.cell? ⟨w.heap.size, 5, none⟩ = some (.int .i64 d.ta) := (S5.c 0 (by simp) 5 (by simp)).1
        have y6 : w5.cell? ⟨w.heap.size, 6, none⟩ = some (.int .i64 d.co) := (S5.c 0 (by simp) 6 (by simp)).1
        have y7 : w5.cell? ⟨w.heap.size, 7, none⟩ = some (.int .i64 d.lf) := (S5.c 0 (by simp) 7 (by simp)).1
        have y8 : w5.cell? ⟨w.heap.size, 8, none⟩ = some (.slice a d.ss.length c) := (S5.c 0 (by simp) 8 (by simp)).1
        have y9 : w5.cell? ⟨w.heap.size, 9, none⟩ = some (.string d.x) := (S5.c 0 (by simp) 9 (by simp)).1
        have y10 : w5.cell? ⟨w.heap.size, 10, none⟩ = some (.int .i64 0) := (S5.c 0 (by simp) 10 (by simp)).1
        go_wp2_with fail
        refine (inState_1 d.nu d.ep d.up d.st d.le d.ta d.co d.lf a d.ss.length c d.x 0 l jj ct ct ma mb mo ms.length mc ms _ (hm.below' S5.B) hmn).mono ?_
        rintro e' w8 ⟨a8, c8, rfl, ho8, hb8⟩
        have S8 := S5.below hb8
        have R8 : CF w8 (w.heap.size + 3) [.int .i64 0, .int .i64 0, .bool false, .int .i64 0, .int .i64 0, .int .i64 0, .int .i64 0, .int .i64 0, .slice none 0 0, .string ⟨#[]⟩, .int .i64 0] := S8.c 3 (by simp)
        clear y0 y1 y2 y3 y4 y5 y6 y7 y8 y9 y10
        go_wp2_with (refine wpList_store_cf rfl 25 (.tmp 6) (.tmp 72) rfl (w.heap.size + 3) [.int .i64 0, .int .i64 0, .bool false, .int .i64 0, .int .i64 0, .int .i64 0, .int .i64 0, .int .i64 0, .slice none 0 0, .string ⟨#[]⟩, .int .i64 0] [.int .i64 d.nu, .int .i64 d.ep, .bool d.up, .int .i64 1, .int .i64 l, .int .i64 jj, .int .i64 ct, .int .i64 ct, .slice a8 ms.length c8, .string ⟨#[]⟩, .int .i64 0] rfl rfl R8 rfl Tryd.sizeWk (one11 _ _ _ _ _ _ _ _ _ _ _ _ _) ?_; intro w10 hc10 hg10)
        have k0 : w10.cell? ⟨w.heap.size + 3, 0, none⟩ = some (.int .i64 d.nu) := (hc10 0 (by simp)).1
        have k1 : w10.cell? ⟨w.heap.size + 3, 1, none⟩ = some (.int .i64 d.ep) := (hc10 1 (by simp)).1
        have k2 : w10.cell? ⟨w.heap.size + 3, 2, none⟩ = some (.bool d.up) := (hc10 2 (by simp)).1
        have k3 : w10.cell? ⟨w.heap.size + 3, 3, none⟩ = some (.int .i64 1) := (hc10 3 (by simp)).1
        have k4 : w10.cell? ⟨w.heap.size + 3, 4, none⟩ = some (.int .i64 l) := (hc10 4 (by simp)).1
        have k5 : w10.cell? ⟨w.heap.size + 3, 5, none⟩ = some (.int .i64 jj) := (hc10 5 (by simp)).1
        have k6 : w10.cell? ⟨w.heap.size + 3, 6, none⟩ = some (.int .i64 ct) := (hc10 6 (by simp)).1
        have k7 : w10.cell? ⟨w.heap.size + 3, 7, none⟩ = some (.int .i64 ct) := (hc10 7 (by simp)).1
        have k8 : w10.cell? ⟨w.heap.size + 3, 8, none⟩ = some (.slice a8 ms.length c8) := (hc10 8 (by simp)).1
        have k9 : w10.cell? ⟨w.heap.size + 3, 9, none⟩ = some (.string ⟨#[]⟩) := (hc10 9 (by simp)).1
        have k10 : w10.cell? ⟨w.heap.size + 3, 10, none⟩ = some (.int .i64 0) := (hc10 10 (by simp)).1
        have zS := S5.z
        simp at zS
        have Q := (ho8.grown hg10 (.inr (by intro hh; have := ho8.row_lo _ hh; omega))).mono' (show w.heap.size ≤ w5.heap.size by omega)
        refine bodyPost_ret (v := .agg #[.int .i64 d.nu, .int .i64 d.ep, .bool d.up, .int .i64 1, .int .i64 l, .int .i64 jj, .int .i64 ct, .int .i64 ct, .slice a8 ms.length c8, .string ⟨#[]⟩, .int .i64 0]) (by simp [results, Tryd.results26, go_sem, k0, k1, k2, k3, k4, k5, k6, k7, k8, k9, k10]) rfl ⟨?_, below_grown S8.B hg10 (by have := S8.z; simp at this <;> omega) (fun q hq => by simp at hq; omega)⟩
        rw [HCT.out]
        exact ⟨busyD d ts l jj ms, a8, c8, rfl, Q, .inl ⟨⟨HUP.out, HV.out, HT.out⟩, HG.out, rfl⟩⟩

set_option maxHeartbeats 8000000 in
set_option maxRecDepth 100000 in
theorem iTake_any (d : WD) (a : Option Addr) (b o c : Nat) (pa : Option Addr) (pb po pn pc : Nat) (ts : List TaskD) (k f t e l dd : Int) (x : ByteArray) (ma : Option Addr) (mb mo mc : Nat) (ms : List ByteArray) (w : World) (h : StrsAt w a b o d.ss.length d.ss) (hp : TasksAt w pa pb po pn ts) (hm : StrsAt w ma mb mo ms.length ms) (hn : d.ss.length ≤ 1048576) (hmn : ms.length ≤ 1048576) (hTab : Tab w) :
    Calls Tryd.prog 8 #[.agg #[.int .i64 d.nu, .int .i64 d.ep, .bool d.up, .int .i64 d.st, .int .i64 d.le, .int .i64 d.ta, .int .i64 d.co, .int .i64 d.lf, .slice a d.ss.length c, .string d.x, .int .i64 d.si], .agg #[.slice pa pn pc], .agg #[.int .i64 k, .int .i64 f, .int .i64 t, .int .i64 e, .int .i64 l, .int .i64 dd, .string x, .slice ma ms.length mc]] w fun e' w' => RetT e' w.heap.size w' (takeR d ts k f t e l dd x ms) ∧ Below w.heap.size w w' := by
  obtain ⟨i0, hi0, hz00, hz01, hz02⟩ := info_parts Tryd.info9
  obtain ⟨W, hW⟩ : ∃ W, W = (((w.alloc (.cells #[.int .i64 d.nu, .int .i64 d.ep, .bool d.up, .int .i64 d.st, .int .i64 d.le, .int .i64 d.ta, .int .i64 d.co, .int .i64 d.lf, .slice a d.ss.length c, .string d.x, .int .i64 d.si] 25)).alloc (.cells #[.slice pa pn pc] 28)).alloc (.cells #[.int .i64 k, .int .i64 f, .int .i64 t, .int .i64 e, .int .i64 l, .int .i64 dd, .string x, .slice ma ms.length mc] 34)).alloc (.cells #[.int .i64 0, .int .i64 0, .bool false, .int .i64 0, .int .i64 0, .int .i64 0, .int .i64 0, .int .i64 0, .slice none 0 0, .string ⟨#[]⟩, .int .i64 0, .slice none 0 0] 40) := ⟨_, rfl⟩
  have B0 : Below w.heap.size w W := by rw [hW]; exact ((((Below.refl _ _).alloc (Nat.le_refl _) _).alloc (by simp) _).alloc (by simp <;> omega) _).alloc (by simp <;> omega) _
  have z0 : w.heap.size + 4 ≤ W.heap.size := by rw [hW]; simp
  have S0 : Bx w [[.int .i64 d.nu, .int .i64 d.ep, .bool d.up, .int .i64 d.st, .int .i64 d.le, .int .i64 d.ta, .int .i64 d.co, .int .i64 d.lf, .slice a d.ss.length c, .string d.x, .int .i64 d.si], [.slice pa pn pc], [.int .i64 k, .int .i64 f, .int .i64 t, .int .i64 e, .int .i64 l, .int .i64 dd, .string x, .slice ma ms.length mc], [.int .i64 0, .int .i64 0, .bool false, .int .i64 0, .int .i64 0, .int .i64 0, .int .i64 0, .int .i64 0, .slice none 0 0, .string ⟨#[]⟩, .int .i64 0, .slice none 0 0]] W := by
    refine ⟨fun i hi => ?_, B0, z0⟩
    have hi' : i < 4 := hi
    rw [hW]
    match i, hi' with
    | 0, _ => exact (((CF.made w #[.int .i64 d.nu, .int .i64 d.ep, .bool d.up, .int .i64 d.st, .int .i64 d.le, .int .i64 d.ta, .int .i64 d.co, .int .i64 d.lf, .slice a d.ss.length c, .string d.x, .int .i64 d.si] 25).block (Below.heap_alloc _ _ _ (by simp))).block (Below.heap_alloc _ _ _ (by simp <;> omega))).block (Below.heap_alloc _ _ _ (by simp <;> omega))
    | 1, _ =>
      have := CF.made (w.alloc (.cells #[.int .i64 d.nu, .int .i64 d.ep, .bool d.up, .int .i64 d.st, .int .i64 d.le, .int .i64 d.ta, .int .i64 d.co, .int .i64 d.lf, .slice a d.ss.length c, .string d.x, .int .i64 d.si] 25)) #[.slice pa pn pc] 28
      rw [World.size_alloc] at this
      exact (this.block (Below.heap_alloc _ _ _ (by simp))).block (Below.heap_alloc _ _ _ (by simp <;> omega))
    | 2, _ =>
      have := CF.made ((w.alloc (.cells #[.int .i64 d.nu, .int .i64 d.ep, .bool d.up, .int .i64 d.st, .int .i64 d.le, .int .i64 d.ta, .int .i64 d.co, .int .i64 d.lf, .slice a d.ss.length c, .string d.x, .int .i64 d.si] 25)).alloc (.cells #[.slice pa pn pc] 28)) #[.int .i64 k, .int .i64 f, .int .i64 t, .int .i64 e, .int .i64 l, .int .i64 dd, .string x, .slice ma ms.length mc] 34
      rw [World.size_alloc, World.size_alloc] at this
      exact this.block (Below.heap_alloc _ _ _ (by simp))
    | 3, _ =>
      have := CF.made (((w.alloc (.cells #[.int .i64 d.nu, .int .i64 d.ep, .bool d.up, .int .i64 d.st, .int .i64 d.le, .int .i64 d.ta, .int .i64 d.co, .int .i64 d.lf, .slice a d.ss.length c, .string d.x, .int .i64 d.si] 25)).alloc (.cells #[.slice pa pn pc] 28)).alloc (.cells #[.int .i64 k, .int .i64 f, .int .i64 t, .int .i64 e, .int .i64 l, .int .i64 dd, .string x, .slice ma ms.length mc] 34)) #[.int .i64 0, .int .i64 0, .bool false, .int .i64 0, .int .i64 0, .int .i64 0, .int .i64 0, .int .i64 0, .slice none 0 0, .string ⟨#[]⟩, .int .i64 0, .slice none 0 0] 40
      rw [World.size_alloc, World.size_alloc, World.size_alloc] at this
      exact this
  clear B0 z0
  have HW := hid hW
  clear hW
  have hml := hp.max
  unfold maxLen at hml
  go_enter Tryd.func8, Tryd.ntmps8
  go_upto_region 1 with fail
  rw [← HW.out]
  clear HW
  have y0 : W.cell? ⟨w.heap.size, 0, none⟩ = some (.int .i64 d.nu) := (S0.c 0 (by simp) 0 (by simp)).1
  have y1 : W.cell? ⟨w.heap.size, 1, none⟩ = some (.int .i64 d.ep) := (S0.c 0 (by simp) 1 (by simp)).1
  have y2 : W.cell? ⟨w.heap.size, 2, none⟩ = some (.bool d.up) := (S0.c 0 (by simp) 2 (by simp)).1
  have y3 : W.cell? ⟨w.heap.size, 3, none⟩ = some (.int .i64 d.st) := (S0.c 0 (by simp) 3 (by simp)).1
  have y4 : W.cell? ⟨w.heap.size, 4, none⟩ = some (.int .i64 d.le) := (S0.c 0 (by simp) 4 (by simp)).1
  have y5 : W.cell? ⟨w.heap.size, 5, none⟩ = some (.int .i64 d.ta) := (S0.c 0 (by simp) 5 (by simp)).1
  have y6 : W.cell? ⟨w.heap.size, 6, none⟩ = some (.int .i64 d.co) := (S0.c 0 (by simp) 6 (by simp)).1
  have y7 : W.cell? ⟨w.heap.size, 7, none⟩ = some (.int .i64 d.lf) := (S0.c 0 (by simp) 7 (by simp)).1
  have y8 : W.cell? ⟨w.heap.size, 8, none⟩ = some (.slice a d.ss.length c) := (S0.c 0 (by simp) 8 (by simp)).1
  have y9 : W.cell? ⟨w.heap.size, 9, none⟩ = some (.string d.x) := (S0.c 0 (by simp) 9 (by simp)).1
  have y10 : W.cell? ⟨w.heap.size, 10, none⟩ = some (.int .i64 d.si) := (S0.c 0 (by simp) 10 (by simp)).1
  go_wp2_with fail
  refine (iVal_any d.nu d.ep d.up d.st d.le d.ta d.co d.lf a b o d.ss.length c d.ss d.x d.si _ (h.below' S0.B)).mono ?_
  rintro e' w1 ⟨⟨r, rfl, hr⟩, hb1⟩
  have S1 := S0.below hb1
  clear y0 y1 y2 y3 y4 y5 y6 y7 y8 y9 y10
  clear hb1 S0
  have HR := hid hr
  clear hr
  have hbad : ∀ wx, Bx w [[.int .i64 d.nu, .int .i64 d.ep, .bool d.up, .int .i64 d.st, .int .i64 d.le, .int .i64 d.ta, .int .i64 d.co, .int .i64 d.lf, .slice a d.ss.length c, .string d.x, .int .i64 d.si], [.slice pa pn pc], [.int .i64 k, .int .i64 f, .int .i64 t, .int .i64 e, .int .i64 l, .int .i64 dd, .string x, .slice ma ms.length mc], [.int .i64 0, .int .i64 0, .bool false, .int .i64 0, .int .i64 0, .int .i64 0, .int .i64 0, .int .i64 0, .slice none 0 0, .string ⟨#[]⟩, .int .i64 0, .slice none 0 0]] wx → ∀ wy, CF wy (w.heap.size + 3) [.int .i64 0, .int .i64 0, .bool false, .int .i64 0, .int .i64 0, .int .i64 0, .int .i64 0, .int .i64 0, .slice none 0 0, .string ⟨#[]⟩, .int .i64 0, .slice none 0 0] → wx.grownBy wy (some (w.heap.size + 3)) → ¬ (d.ok ∧ Code ts 0) → RetT (.returned (.agg #[.int .i64 0, .int .i64 0, .bool false, .int .i64 0, .int .i64 0, .int .i64 0, .int .i64 0, .int .i64 0, .slice none 0 0, .string ⟨#[]⟩, .int .i64 0, .slice none 0 0])) w.heap.size wy (takeR d ts k f t e l dd x ms) ∧ Below w.heap.size w wy := fun wx Sx wy hc hg hno =>
    ⟨RetT.mk zWD none 0 (Own.nil _ _ _) (.inr ⟨hno, rfl⟩), below_grown Sx.B hg (by have := Sx.z; simp at this <;> omega) (fun q hq => by simp at hq; omega)⟩
  have HBAD := hid hbad
  clear hbad
  cases r with
  | false =>
    have HN := hid (show ¬ (d.ok ∧ Code ts 0) from fun hh => by have := HR.out.2 hh.1; cases this)
    have R1 : CF w1 (w.heap.size + 3) [.int .i64 0, .int .i64 0, .bool false, .int .i64 0, .int .i64 0, .int .i64 0, .int .i64 0, .int .i64 0, .slice none 0 0, .string ⟨#[]⟩, .int .i64 0, .slice none 0 0] := S1.c 3 (by simp)
    go_upto_region 2 with fail
    go_wp2_with (refine wpList_store_cf rfl 40 (.tmp 6) (.tmp 15) rfl (w.heap.size + 3) [.int .i64 0, .int .i64 0, .bool false, .int .i64 0, .int .i64 0, .int .i64 0, .int .i64 0, .int .i64 0, .slice none 0 0, .string ⟨#[]⟩, .int .i64 0, .slice none 0 0] [.int .i64 0, .int .i64 0, .bool false, .int .i64 0, .int .i64 0, .int .i64 0, .int .i64 0, .int .i64 0, .slice none 0 0, .string ⟨#[]⟩, .int .i64 0, .slice none 0 0] rfl rfl R1 rfl Tryd.sizeAc (one12 _ _ _ _ _ _ _ _ _ _ _ _ _ _ _ _) ?_; intro w10 hc10 hg10)
    have k0 : w10.cell? ⟨w.heap.size + 3, 0, none⟩ = some (.int .i64 0) := (hc10 0 (by simp)).1
    have k1 : w10.cell? ⟨w.heap.size + 3, 1, none⟩ = some (.int .i64 0) := (hc10 1 (by simp)).1
    have k2 : w10.cell? ⟨w.heap.size + 3, 2, none⟩ = some (.bool false) := (hc10 2 (by simp)).1
    have k3 : w10.cell? ⟨w.heap.size + 3, 3, none⟩ = some (.int .i64 0) := (hc10 3 (by simp)).1
    have k4 : w10.cell? ⟨w.heap.size + 3, 4, none⟩ = some (.int .i64 0) := (hc10 4 (by simp)).1
    have k5 : w10.cell? ⟨w.heap.size + 3, 5, none⟩ = some (.int .i64 0) := (hc10 5 (by simp)).1
    have k6 : w10.cell? ⟨w.heap.size + 3, 6, none⟩ = some (.int .i64 0) := (hc10 6 (by simp)).1
    have k7 : w10.cell? ⟨w.heap.size + 3, 7, none⟩ = some (.int .i64 0) := (hc10 7 (by simp)).1
    have k8 : w10.cell? ⟨w.heap.size + 3, 8, none⟩ = some (.slice none 0 0) := (hc10 8 (by simp)).1
    have k9 : w10.cell? ⟨w.heap.size + 3, 9, none⟩ = some (.string ⟨#[]⟩) := (hc10 9 (by simp)).1
    have k10 : w10.cell? ⟨w.heap.size + 3, 10, none⟩ = some (.int .i64 0) := (hc10 10 (by simp)).1
    have k11 : w10.cell? ⟨w.heap.size + 3, 11, none⟩ = some (.slice none 0 0) := (hc10 11 (by simp)).1
    exact bodyPost_ret (v := .agg #[.int .i64 0, .int .i64 0, .bool false, .int .i64 0, .int .i64 0, .int .i64 0, .int .i64 0, .int .i64 0, .slice none 0 0, .string ⟨#[]⟩, .int .i64 0, .slice none 0 0]) (by simp [results, Tryd.results8, go_sem, k0, k1, k2, k3, k4, k5, k6, k7, k8, k9, k10, k11]) rfl (HBAD.out _ S1 _ hc10 hg10 HN.out)
  | true =>
    have HOK := hid (show d.ok from HR.out.1 rfl)
    clear HR
    have yp : w1.cell? ⟨w.heap.size + 1, 0, none⟩ = some (.slice pa pn pc) := (S1.c 1 (by simp) 0 (by simp)).1
    go_wp2_with fail
    refine (implCheckPlan_any pa pb po pn pc ts _ (hp.below' S1.B)).mono ?_
    rintro e' w2 ⟨⟨cc, rfl, hcc⟩, hb2⟩
    have S2 := S1.below hb2
    clear yp hb2 S1
    by_cases c0 : cc = 0
    case neg =>
      have c0b : (cc == 0) = false := beq_eq_false_iff_ne.2 c0
      have HN := hid (bad_of (d := d) hcc c0)
      have R1 : CF w2 (w.heap.size + 3) [.int .i64 0, .int .i64 0, .bool false, .int .i64 0, .int .i64 0, .int .i64 0, .int .i64 0, .int .i64 0, .slice none 0 0, .string ⟨#[]⟩, .int .i64 0, .slice none 0 0] := S2.c 3 (by simp)
      clear hcc
      go_upto_region 2 with fail
      go_wp2_with (refine wpList_store_cf rfl 40 (.tmp 6) (.tmp 15) rfl (w.heap.size + 3) [.int .i64 0, .int .i64 0, .bool false, .int .i64 0, .int .i64 0, .int .i64 0, .int .i64 0, .int .i64 0, .slice none 0 0, .string ⟨#[]⟩, .int .i64 0, .slice none 0 0] [.int .i64 0, .int .i64 0, .bool false, .int .i64 0, .int .i64 0, .int .i64 0, .int .i64 0, .int .i64 0, .slice none 0 0, .string ⟨#[]⟩, .int .i64 0, .slice none 0 0] rfl rfl R1 rfl Tryd.sizeAc (one12 _ _ _ _ _ _ _ _ _ _ _ _ _ _ _ _) ?_; intro w10 hc10 hg10)
      have k0 : w10.cell? ⟨w.heap.size + 3, 0, none⟩ = some (.int .i64 0) := (hc10 0 (by simp)).1
      have k1 : w10.cell? ⟨w.heap.size + 3, 1, none⟩ = some (.int .i64 0) := (hc10 1 (by simp)).1
      have k2 : w10.cell? ⟨w.heap.size + 3, 2, none⟩ = some (.bool false) := (hc10 2 (by simp)).1
      have k3 : w10.cell? ⟨w.heap.size + 3, 3, none⟩ = some (.int .i64 0) := (hc10 3 (by simp)).1
      have k4 : w10.cell? ⟨w.heap.size + 3, 4, none⟩ = some (.int .i64 0) := (hc10 4 (by simp)).1
      have k5 : w10.cell? ⟨w.heap.size + 3, 5, none⟩ = some (.int .i64 0) := (hc10 5 (by simp)).1
      have k6 : w10.cell? ⟨w.heap.size + 3, 6, none⟩ = some (.int .i64 0) := (hc10 6 (by simp)).1
      have k7 : w10.cell? ⟨w.heap.size + 3, 7, none⟩ = some (.int .i64 0) := (hc10 7 (by simp)).1
      have k8 : w10.cell? ⟨w.heap.size + 3, 8, none⟩ = some (.slice none 0 0) := (hc10 8 (by simp)).1
      have k9 : w10.cell? ⟨w.heap.size + 3, 9, none⟩ = some (.string ⟨#[]⟩) := (hc10 9 (by simp)).1
      have k10 : w10.cell? ⟨w.heap.size + 3, 10, none⟩ = some (.int .i64 0) := (hc10 10 (by simp)).1
      have k11 : w10.cell? ⟨w.heap.size + 3, 11, none⟩ = some (.slice none 0 0) := (hc10 11 (by simp)).1
      exact bodyPost_ret (v := .agg #[.int .i64 0, .int .i64 0, .bool false, .int .i64 0, .int .i64 0, .int .i64 0, .int .i64 0, .int .i64 0, .slice none 0 0, .string ⟨#[]⟩, .int .i64 0, .slice none 0 0]) (by simp [results, Tryd.results8, go_sem, k0, k1, k2, k3, k4, k5, k6, k7, k8, k9, k10, k11]) rfl (HBAD.out _ S2 _ hc10 hg10 HN.out)
    subst c0
    have HC := hid hcc
    clear hcc HBAD
    have hTk : Hid (∀ wx, Below w.heap.size w wx → Calls Tryd.prog 26 #[.agg #[.int .i64 d.nu, .int .i64 d.ep, .bool d.up, .int .i64 d.st, .int .i64 d.le, .int .i64 d.ta, .int .i64 d.co, .int .i64 d.lf, .slice a d.ss.length c, .string d.x, .int .i64 d.si], .agg #[.slice pa pn pc], .agg #[.int .i64 k, .int .i64 f, .int .i64 t, .int .i64 e, .int .i64 l, .int .i64 dd, .string x, .slice ma ms.length mc]] wx fun e' w' => RetW e' wx.heap.size w' (takeK d ts k f t e l dd x ms) ∧ Below wx.heap.size wx w') := hid fun wx hb => by
      rcases vW_st HOK.out with h5 | h5 | h5
      · exact taken_0 d a b o c pa pb po pn pc ts k f t e l dd x ma mb mo mc ms wx (h.below' hb) (hp.below' hb) (hm.below' hb) hn hmn (hTab.below' hb) HOK.out h5
      · exact taken_1 d a b o c pa pb po pn pc ts k f t e l dd x ma mb mo mc ms wx (h.below' hb) (hp.below' hb) (hm.below' hb) hn hmn (hTab.below' hb) HOK.out h5
      · exact taken_2 d a b o c pa pb po pn pc ts k f t e l dd x ma mb mo mc ms wx (h.below' hb) (hp.below' hb) (hm.below' hb) hn hmn (hTab.below' hb) HOK.out h5
    have y0 : w2.cell? ⟨w.heap.size, 0, none⟩ = some (.int .i64 d.nu) := (S2.c 0 (by simp) 0 (by simp)).1
    have y1 : w2.cell? ⟨w.heap.size, 1, none⟩ = some (.int .i64 d.ep) := (S2.c 0 (by simp) 1 (by simp)).1
    have y2 : w2.cell? ⟨w.heap.size, 2, none⟩ = some (.bool d.up) := (S2.c 0 (by simp) 2 (by simp)).1
    have y3 : w2.cell? ⟨w.heap.size, 3, none⟩ = some (.int .i64 d.st) := (S2.c 0 (by simp) 3 (by simp)).1
    have y4 : w2.cell? ⟨w.heap.size, 4, none⟩ = some (.int .i64 d.le) := (S2.c 0 (by simp) 4 (by simp)).1
    have y5 : w2.cell? ⟨w.heap.size, 5, none⟩ = some (.int .i64 d.ta) := (S2.c 0 (by simp) 5 (by simp)).1
    have y6 : w2.cell? ⟨w.heap.size, 6, none⟩ = some (.int .i64 d.co) := (S2.c 0 (by simp) 6 (by simp)).1
    have y7 : w2.cell? ⟨w.heap.size, 7, none⟩ = some (.int .i64 d.lf) := (S2.c 0 (by simp) 7 (by simp)).1
    have y8 : w2.cell? ⟨w.heap.size, 8, none⟩ = some (.slice a d.ss.length c) := (S2.c 0 (by simp) 8 (by simp)).1
    have y9 : w2.cell? ⟨w.heap.size, 9, none⟩ = some (.string d.x) := (S2.c 0 (by simp) 9 (by simp)).1
    have y10 : w2.cell? ⟨w.heap.size, 10, none⟩ = some (.int .i64 d.si) := (S2.c 0 (by simp) 10 (by simp)).1
    have m0 : w2.cell? ⟨w.heap.size + 2, 0, none⟩ = some (.int .i64 k) := (S2.c 2 (by simp) 0 (by simp)).1
    have m1 : w2.cell? ⟨w.heap.size + 2, 1, none⟩ = some (.int .i64 f) := (S2.c 2 (by simp) 1 (by simp)).1
    have m2 : w2.cell? ⟨w.heap.size + 2, 2, none⟩ = some (.int .i64 t) := (S2.c 2 (by simp) 2 (by simp)).1
    have m3 : w2.cell? ⟨w.heap.size + 2, 3, none⟩ = some (.int .i64 e) := (S2.c 2 (by simp) 3 (by simp)).1
    have m4 : w2.cell? ⟨w.heap.size + 2, 4, none⟩ = some (.int .i64 l) := (S2.c 2 (by simp) 4 (by simp)).1
    have m5 : w2.cell? ⟨w.heap.size + 2, 5, none⟩ = some (.int .i64 dd) := (S2.c 2 (by simp) 5 (by simp)).1
    have m6 : w2.cell? ⟨w.heap.size + 2, 6, none⟩ = some (.string x) := (S2.c 2 (by simp) 6 (by simp)).1
    have m7 : w2.cell? ⟨w.heap.size + 2, 7, none⟩ = some (.slice ma ms.length mc) := (S2.c 2 (by simp) 7 (by simp)).1
    have yp : w2.cell? ⟨w.heap.size + 1, 0, none⟩ = some (.slice pa pn pc) := (S2.c 1 (by simp) 0 (by simp)).1
    go_wp2_with fail
    refine (hTk.out _ S2.B).mono ?_
    rintro e' w3 ⟨⟨d', a', c', he, ho3, hK⟩, hb3⟩
    have he' : e' = .returned (.agg #[.int .i64 d'.nu, .int .i64 d'.ep, .bool d'.up, .int .i64 d'.st, .int .i64 d'.le, .int .i64 d'.ta, .int .i64 d'.co, .int .i64 d'.lf, .slice a' d'.ss.length c', .string d'.x, .int .i64 d'.si]) := he
    clear he
    subst he'
    have S3 := S2.below hb3
    have zz := S2.z
    simp at zz
    have q3 := ho3.mono' (show w.heap.size + 4 ≤ w2.heap.size by omega)
    have HK := hid hK
    clear y0 y1 y2 y3 y4 y5 y6 y7 y8 y9 y10
    clear m0 m1 m2 m3 m4 m5 m6 m7
    clear yp hb3 S2 hTk ho3 hK
    have R1 : CF w3 (w.heap.size + 3) [.int .i64 0, .int .i64 0, .bool false, .int .i64 0, .int .i64 0, .int .i64 0, .int .i64 0, .int .i64 0, .slice none 0 0, .string ⟨#[]⟩, .int .i64 0, .slice none 0 0] := S3.c 3 (by simp)
    go_wp2_with (refine wpList_store_cf rfl 40 (.tmp 6) (.tmp 20) rfl (w.heap.size + 3) [.int .i64 0, .int .i64 0, .bool false, .int .i64 0, .int .i64 0, .int .i64 0, .int .i64 0, .int .i64 0, .slice none 0 0, .string ⟨#[]⟩, .int .i64 0, .slice none 0 0] [.int .i64 d'.nu, .int .i64 d'.ep, .bool d'.up, .int .i64 d'.st, .int .i64 d'.le, .int .i64 d'.ta, .int .i64 d'.co, .int .i64 d'.lf, .slice a' d'.ss.length c', .string d'.x, .int .i64 d'.si, .slice none 0 0] rfl rfl R1 rfl Tryd.sizeAc (one12 _ _ _ _ _ _ _ _ _ _ _ _ _ _ _ _) ?_; intro w10 hc10 hg10)
    have k0 : w10.cell? ⟨w.heap.size + 3, 0, none⟩ = some (.int .i64 d'.nu) := (hc10 0 (by simp)).1
    have k1 : w10.cell? ⟨w.heap.size + 3, 1, none⟩ = some (.int .i64 d'.ep) := (hc10 1 (by simp)).1
    have k2 : w10.cell? ⟨w.heap.size + 3, 2, none⟩ = some (.bool d'.up) := (hc10 2 (by simp)).1
    have k3 : w10.cell? ⟨w.heap.size + 3, 3, none⟩ = some (.int .i64 d'.st) := (hc10 3 (by simp)).1
    have k4 : w10.cell? ⟨w.heap.size + 3, 4, none⟩ = some (.int .i64 d'.le) := (hc10 4 (by simp)).1
    have k5 : w10.cell? ⟨w.heap.size + 3, 5, none⟩ = some (.int .i64 d'.ta) := (hc10 5 (by simp)).1
    have k6 : w10.cell? ⟨w.heap.size + 3, 6, none⟩ = some (.int .i64 d'.co) := (hc10 6 (by simp)).1
    have k7 : w10.cell? ⟨w.heap.size + 3, 7, none⟩ = some (.int .i64 d'.lf) := (hc10 7 (by simp)).1
    have k8 : w10.cell? ⟨w.heap.size + 3, 8, none⟩ = some (.slice a' d'.ss.length c') := (hc10 8 (by simp)).1
    have k9 : w10.cell? ⟨w.heap.size + 3, 9, none⟩ = some (.string d'.x) := (hc10 9 (by simp)).1
    have k10 : w10.cell? ⟨w.heap.size + 3, 10, none⟩ = some (.int .i64 d'.si) := (hc10 10 (by simp)).1
    have k11 : w10.cell? ⟨w.heap.size + 3, 11, none⟩ = some (.slice none 0 0) := (hc10 11 (by simp)).1
    exact bodyPost_ret (v := .agg #[.int .i64 d'.nu, .int .i64 d'.ep, .bool d'.up, .int .i64 d'.st, .int .i64 d'.le, .int .i64 d'.ta, .int .i64 d'.co, .int .i64 d'.lf, .slice a' d'.ss.length c', .string d'.x, .int .i64 d'.si, .slice none 0 0]) (by simp [results, Tryd.results8, go_sem, k0, k1, k2, k3, k4, k5, k6, k7, k8, k9, k10, k11]) rfl ⟨RetT.mk d' a' c' ((q3.grown hg10 (.inr (by intro hh; have := q3.row_lo _ hh; omega))).mono' (by omega)) (.inl ⟨HOK.out, HC.out, HK.out⟩), below_grown S3.B hg10 (by have := S3.z; simp at this <;> omega) (fun q hq => by simp at hq; omega)⟩

end Go.Proofs.YtimpfhfgcmipgaaDoor
