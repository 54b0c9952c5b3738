import Derived.Test.YtlpmcjlcmjlbeaaQTki0
import Derived.Test.YtlpmcjlcmjlbeaaQTki1
import Derived.Test.YtlpmcjlcmjlbeaaQTki2
import Derived.Test.YtlpmcjlcmjlbeaaQTki3
import Derived.Test.YtlpmcjlcmjlbeaaQTki4
namespace Go.Proofs.Ytlpmcjlcmjlbeaa
open Go.RowKit
theorem ticked_any (nu ep : Int) (up : Bool) (st le ta co lf : Int) (a : Option Addr) (b o n c : Nat) (ss : List ByteArray) (x : ByteArray) (si : Int) (pa : Option Addr) (pb po pn pc : Nat) (ts : List TaskD) (w : World) (h : StrsAt w a b o n ss) (hp : TasksAt w pa pb po pn ts) (hok : (⟨nu, ep, up, st, le, ta, co, lf, ss, x, si⟩ : WD).ok) (hcode : Code ts 0) :
    Calls Try.prog 51 #[.agg #[.int .i64 nu, .int .i64 ep, .bool up, .int .i64 st, .int .i64 le, .int .i64 ta, .int .i64 co, .int .i64 lf, .slice a n c, .string x, .int .i64 si], .agg #[.slice pa pn pc]] w fun e w' => RetA e w.heap.size w' (tickR (⟨nu, ep, up, st, le, ta, co, lf, ss, x, si⟩ : WD) ts) ∧ Below w.heap.size w w' := by
  cases up with
  | false => exact iTick_dn nu ep st le ta co lf a b o n c ss x si pa pb po pn pc ts w h hp hok hcode
  | true =>
    rcases vW_st hok with hst | hst | hst
    · dsimp only at hst; subst hst; exact iTick_0 nu ep le ta co lf a b o n c ss x si pa pb po pn pc ts w h hp hok hcode
    · dsimp only at hst
      subst hst
      by_cases hl : lf = 1
      · subst hl; exact iTick_d nu ep le ta co a b o n c ss x si pa pb po pn pc ts w h hp hok hcode
      · exact iTick_1 nu ep le ta co lf a b o n c ss x si pa pb po pn pc ts w h hp hl hok hcode
    · dsimp only at hst; subst hst; exact iTick_2 nu ep le ta co lf a b o n c ss x si pa pb po pn pc ts w h hp hok hcode

theorem Own.one {B : Nat} {w : World} {size : Nat} {v : Value} {n : Nat} {xs : List Value} (h : Own B w size v n xs) : v.oneCell' = true := by
  rcases h with ⟨rfl, _⟩ | ⟨g, o, cap, rfl, _⟩ <;> rfl
theorem one12v (d : WD) (a' : Option Addr) (c' : Nat) {v : Value} (h : v.oneCell' = true) : ∀ u ∈ [Value.int .i64 d.nu, .int .i64 d.ep, .bool d.up, .int .i64 d.st, .int .i64 d.le, .int .i64 d.ta, .int .i64 d.co, .int .i64 d.lf, .slice a' d.ss.length c', .string d.x, .int .i64 d.si, v], u.oneCell' = true := by
  intro u hu
  simp only [List.mem_cons, List.not_mem_nil, or_false] at hu
  rcases hu with rfl | rfl | rfl | rfl | rfl | rfl | rfl | rfl | rfl | rfl | rfl | rfl <;> first | rfl | exact h

set_option maxHeartbeats 8000000 in
set_option maxRecDepth 100000 in
theorem iTick_ok (nu ep : Int) (up : Bool) (st le ta co lf : Int) (a : Option Addr) (b o n c : Nat) (ss : List ByteArray) (x : ByteArray) (si : Int) (pa : Option Addr) (pb po pn pc : Nat) (ts : List TaskD) (w : World) (h : StrsAt w a b o n ss) (hp : TasksAt w pa pb po pn ts) (hok : (⟨nu, ep, up, st, le, ta, co, lf, ss, x, si⟩ : WD).ok) (hcode : Code ts 0) :
    Calls Try.prog 21 #[.agg #[.int .i64 nu, .int .i64 ep, .bool up, .int .i64 st, .int .i64 le, .int .i64 ta, .int .i64 co, .int .i64 lf, .slice a n c, .string x, .int .i64 si], .agg #[.slice pa pn pc]] w fun e w' => RetA e w.heap.size w' (tickR (⟨nu, ep, up, st, le, ta, co, lf, ss, x, si⟩ : WD) ts) ∧ Below w.heap.size w w' := by
  obtain ⟨W, hW⟩ : ∃ W, W = ((w.alloc (.cells #[.int .i64 nu, .int .i64 ep, .bool up, .int .i64 st, .int .i64 le, .int .i64 ta, .int .i64 co, .int .i64 lf, .slice a n c, .string x, .int .i64 si] 27)).alloc (.cells #[.slice pa pn pc] 43)).alloc (.cells zA.toArray 39) := ⟨_, rfl⟩
  have hbW : Below w.heap.size w W := by rw [hW]; exact (((Below.refl _ _).alloc (Nat.le_refl _) _).alloc (by simp) _).alloc (by simp; omega) _
  have hsW : W.heap.size = w.heap.size + 3 := by rw [hW]; simp
  have hP : CF W w.heap.size [.int .i64 nu, .int .i64 ep, .bool up, .int .i64 st, .int .i64 le, .int .i64 ta, .int .i64 co, .int .i64 lf, .slice a n c, .string x, .int .i64 si] := by
    rw [hW]; exact ((CF.made w #[.int .i64 nu, .int .i64 ep, .bool up, .int .i64 st, .int .i64 le, .int .i64 ta, .int .i64 co, .int .i64 lf, .slice a n c, .string x, .int .i64 si] 27).block (Below.heap_alloc _ _ _ (by simp))).block (Below.heap_alloc _ _ _ (by simp; omega))
  have hL : CF W (w.heap.size + 1) [.slice pa pn pc] := by
    rw [hW]
    have := (CF.made (w.alloc (.cells #[.int .i64 nu, .int .i64 ep, .bool up, .int .i64 st, .int .i64 le, .int .i64 ta, .int .i64 co, .int .i64 lf, .slice a n c, .string x, .int .i64 si] 27)) #[.slice pa pn pc] 43).block (Below.heap_alloc ((w.alloc (.cells #[.int .i64 nu, .int .i64 ep, .bool up, .int .i64 st, .int .i64 le, .int .i64 ta, .int .i64 co, .int .i64 lf, .slice a n c, .string x, .int .i64 si] 27)).alloc (.cells #[.slice pa pn pc] 43)) (.cells zA.toArray 39) _ (by simp))
    simpa using this
  have hR : CF W (w.heap.size + 2) zA := by
    rw [hW]
    have := CF.made ((w.alloc (.cells #[.int .i64 nu, .int .i64 ep, .bool up, .int .i64 st, .int .i64 le, .int .i64 ta, .int .i64 co, .int .i64 lf, .slice a n c, .string x, .int .i64 si] 27)).alloc (.cells #[.slice pa pn pc] 43)) zA.toArray 39
    simpa using this
  have hlen := hid h.len
  have hplen := hid hp.len
  simp only [zA] at hW
  have HW := hid hW
  clear hW
  go_enter Try.func21, Try.ntmps21
  go_upto_region 1 with fail
  rw [← HW.out]
  clear HW
  have y0 : W.cell? ⟨w.heap.size, 0, none⟩ = some (.int .i64 nu) := (hP 0 (by simp)).1
  have y1 : W.cell? ⟨w.heap.size, 1, none⟩ = some (.int .i64 ep) := (hP 1 (by simp)).1
  have y2 : W.cell? ⟨w.heap.size, 2, none⟩ = some (.bool up) := (hP 2 (by simp)).1
  have y3 : W.cell? ⟨w.heap.size, 3, none⟩ = some (.int .i64 st) := (hP 3 (by simp)).1
  have y4 : W.cell? ⟨w.heap.size, 4, none⟩ = some (.int .i64 le) := (hP 4 (by simp)).1
  have y5 : W.cell? ⟨w.heap.size, 5, none⟩ = some (.int .i64 ta) := (hP 5 (by simp)).1
  have y6 : W.cell? ⟨w.heap.size, 6, none⟩ = some (.int .i64 co) := (hP 6 (by simp)).1
  have y7 : W.cell? ⟨w.heap.size, 7, none⟩ = some (.int .i64 lf) := (hP 7 (by simp)).1
  have y8 : W.cell? ⟨w.heap.size, 8, none⟩ = some (.slice a n c) := (hP 8 (by simp)).1
  have y9 : W.cell? ⟨w.heap.size, 9, none⟩ = some (.string x) := (hP 9 (by simp)).1
  have y10 : W.cell? ⟨w.heap.size, 10, none⟩ = some (.int .i64 si) := (hP 10 (by simp)).1
  go_wp2_with fail
  refine (iVal_any nu ep up st le ta co lf a b o n c ss x si _ (h.below' hbW)).mono ?_
  rintro e w1 ⟨⟨r, rfl, hr⟩, hb1⟩
  have hP1 := hP.block (hb1.block w.heap.size (by omega))
  have hL1 := hL.block (hb1.block (w.heap.size + 1) (by omega))
  have hR1 := hR.block (hb1.block (w.heap.size + 2) (by omega))
  have hB1 := hbW.trans (hb1.mono hbW.size)
  have hz1 : w.heap.size + 3 ≤ w1.heap.size := by have := hb1.size; omega
  have HR := hid hr
  clear y0 y1 y2 y3 y4 y5 y6 y7 y8 y9 y10 hr hb1 hP hL hR hsW hbW
  have HV := hid hok
  have HC := hid hcode
  clear hok hcode
  obtain rfl : r = true := HR.out.2 HV.out
  have hn8 : n ≤ 8 := by have := (WD.ok.small HV.out).1; rw [hlen.out] at this; exact this
  have kp : w1.cell? ⟨w.heap.size + 1, 0, none⟩ = some (.slice pa pn pc) := (hL1 0 (by simp)).1
  go_wp2_with fail
  refine (implCheckPlan_any pa pb po pn pc ts _ (hp.below' hB1)).mono ?_
  rintro e w2 ⟨⟨cd, rfl, hcd⟩, hb2⟩
  have hP2 := hP1.block (hb2.block w.heap.size (by omega))
  have hL2 := hL1.block (hb2.block (w.heap.size + 1) (by omega))
  have hR2 := hR1.block (hb2.block (w.heap.size + 2) (by omega))
  have hB2 := hB1.trans (hb2.mono hB1.size)
  have hz2 : w.heap.size + 3 ≤ w2.heap.size := by have := hb2.size; omega
  have HCD := hid hcd
  clear kp hP1 hL1 hR1 hB1 hz1 hb2 HR hcd
  obtain rfl : cd = 0 := HCD.out.one HC.out
  clear HC
  have y0 : w2.cell? ⟨w.heap.size, 0, none⟩ = some (.int .i64 nu) := (hP2 0 (by simp)).1
  have y1 : w2.cell? ⟨w.heap.size, 1, none⟩ = some (.int .i64 ep) := (hP2 1 (by simp)).1
  have y2 : w2.cell? ⟨w.heap.size, 2, none⟩ = some (.bool up) := (hP2 2 (by simp)).1
  have y3 : w2.cell? ⟨w.heap.size, 3, none⟩ = some (.int .i64 st) := (hP2 3 (by simp)).1
  have y4 : w2.cell? ⟨w.heap.size, 4, none⟩ = some (.int .i64 le) := (hP2 4 (by simp)).1
  have y5 : w2.cell? ⟨w.heap.size, 5, none⟩ = some (.int .i64 ta) := (hP2 5 (by simp)).1
  have y6 : w2.cell? ⟨w.heap.size, 6, none⟩ = some (.int .i64 co) := (hP2 6 (by simp)).1
  have y7 : w2.cell? ⟨w.heap.size, 7, none⟩ = some (.int .i64 lf) := (hP2 7 (by simp)).1
  have y8 : w2.cell? ⟨w.heap.size, 8, none⟩ = some (.slice a n c) := (hP2 8 (by simp)).1
  have y9 : w2.cell? ⟨w.heap.size, 9, none⟩ = some (.string x) := (hP2 9 (by simp)).1
  have y10 : w2.cell? ⟨w.heap.size, 10, none⟩ = some (.int .i64 si) := (hP2 10 (by simp)).1
  have kp : w2.cell? ⟨w.heap.size + 1, 0, none⟩ = some (.slice pa pn pc) := (hL2 0 (by simp)).1
  go_upto_region 3 with fail
  go_wp2_with (first | (go_at_call 51; refine (ticked_any nu ep up st le ta co lf a b o n c ss x si pa pb po pn pc ts _ (h.below' hB2) (hp.below' hB2) HV.out HCD.out).mono ?_; rintro e w3 ⟨⟨d, q, a', c', v, rfl, ho, hout, hdis, hF⟩, hb3⟩; have hR3 := hR2.block (hb3.block (w.heap.size + 2) (by omega)); have hB3 := hB2.trans (hb3.mono hB2.size); have hz3 : w.heap.size + 3 ≤ w3.heap.size := (by have := hb3.size; omega)) | (refine wpList_store_cf rfl 39 (.tmp 4) (.tmp 16) rfl (w.heap.size + 2) zA [.int .i64 d.nu, .int .i64 d.ep, .bool d.up, .int .i64 d.st, .int .i64 d.le, .int .i64 d.ta, .int .i64 d.co, .int .i64 d.lf, .slice a' d.ss.length c', .string d.x, .int .i64 d.si, v] rfl rfl hR3 rfl Try.sizeAc (one12v d a' c' hout.one) ?_; intro w10 hc10 hg10))
  have kk0 : w10.cell? ⟨w.heap.size + 2, 0, none⟩ = some (.int .i64 d.nu) := (hc10 0 (by simp)).1
  have kk1 : w10.cell? ⟨w.heap.size + 2, 1, none⟩ = some (.int .i64 d.ep) := (hc10 1 (by simp)).1
  have kk2 : w10.cell? ⟨w.heap.size + 2, 2, none⟩ = some (.bool d.up) := (hc10 2 (by simp)).1
  have kk3 : w10.cell? ⟨w.heap.size + 2, 3, none⟩ = some (.int .i64 d.st) := (hc10 3 (by simp)).1
  have kk4 : w10.cell? ⟨w.heap.size + 2, 4, none⟩ = some (.int .i64 d.le) := (hc10 4 (by simp)).1
  have kk5 : w10.cell? ⟨w.heap.size + 2, 5, none⟩ = some (.int .i64 d.ta) := (hc10 5 (by simp)).1
  have kk6 : w10.cell? ⟨w.heap.size + 2, 6, none⟩ = some (.int .i64 d.co) := (hc10 6 (by simp)).1
  have kk7 : w10.cell? ⟨w.heap.size + 2, 7, none⟩ = some (.int .i64 d.lf) := (hc10 7 (by simp)).1
  have kk8 : w10.cell? ⟨w.heap.size + 2, 8, none⟩ = some (.slice a' d.ss.length c') := (hc10 8 (by simp)).1
  have kk9 : w10.cell? ⟨w.heap.size + 2, 9, none⟩ = some (.string d.x) := (hc10 9 (by simp)).1
  have kk10 : w10.cell? ⟨w.heap.size + 2, 10, none⟩ = some (.int .i64 d.si) := (hc10 10 (by simp)).1
  have kk11 : w10.cell? ⟨w.heap.size + 2, 11, none⟩ = some (v) := (hc10 11 (by simp)).1
  exact bodyPost_ret (v := .agg #[.int .i64 d.nu, .int .i64 d.ep, .bool d.up, .int .i64 d.st, .int .i64 d.le, .int .i64 d.ta, .int .i64 d.co, .int .i64 d.lf, .slice a' d.ss.length c', .string d.x, .int .i64 d.si, v]) (by simp [results, Try.results21, go_sem, kk0, kk1, kk2, kk3, kk4, kk5, kk6, kk7, kk8, kk9, kk10, kk11]) rfl ⟨⟨d, q, a', c', v, rfl, (ho.grown hg10 (.inr (by intro hh; have := ho.row_lo _ hh; omega))).mono' (by omega), (hout.grown hg10 (.inr (by intro hh; have := hout.row_lo _ hh; omega))).mono' (by omega), hdis, hF⟩, below_grown hB3 hg10 (by omega) (fun q hq => by simp at hq; omega)⟩
theorem iTick_any (nu ep : Int) (up : Bool) (st le ta co lf : Int) (a : Option Addr) (b o n c : Nat) (ss : List ByteArray) (x : ByteArray) (si : Int) (pa : Option Addr) (pb po pn pc : Nat) (ts : List TaskD) (w : World) (h : StrsAt w a b o n ss) (hp : TasksAt w pa pb po pn ts) :
    Calls Try.prog 21 #[.agg #[.int .i64 nu, .int .i64 ep, .bool up, .int .i64 st, .int .i64 le, .int .i64 ta, .int .i64 co, .int .i64 lf, .slice a n c, .string x, .int .i64 si], .agg #[.slice pa pn pc]] w fun e w' => RetA e w.heap.size w' (tickR (⟨nu, ep, up, st, le, ta, co, lf, ss, x, si⟩ : WD) ts) ∧ Below w.heap.size w w' := by
  by_cases hv : (⟨nu, ep, up, st, le, ta, co, lf, ss, x, si⟩ : WD).ok ∧ Code ts 0
  · exact iTick_ok nu ep up st le ta co lf a b o n c ss x si pa pb po pn pc ts w h hp hv.1 hv.2
  · exact iTick_bad nu ep up st le ta co lf a b o n c ss x si pa pb po pn pc ts w h hp hv
end Go.Proofs.Ytlpmcjlcmjlbeaa
