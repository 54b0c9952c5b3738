import Derived.Test.YtlpmcjlcmjlbeaaQTk2
namespace Go.Proofs.Ytlpmcjlcmjlbeaa
open Go.RowKit
theorem tot_all : ∀ l : List ByteArray, (∀ s ∈ l, s.size = 8) → tot l = 8 * l.length
  | [], _ => rfl
  | s :: r, h => by
    have h1 := tot_all r (fun y hy => h y (List.mem_cons_of_mem _ hy))
    have h2 := h s (List.mem_cons_self ..)
    unfold tot at h1 ⊢
    simp only [List.map_cons, List.sum_cons, List.length_cons, h1, h2]
    omega
theorem tot_in {ss : List ByteArray} (h : inOk ss) : tot ss ≤ 64 := by
  obtain ⟨h8, he⟩ := h
  rw [tot_all ss (fun s hs => by
    obtain ⟨j, hj, rfl⟩ := List.mem_iff_getElem.1 hs
    have := he j hj
    simpa only [List.getD, List.getElem?_eq_getElem hj, Option.getD_some] using this)]
  omega
theorem tnm_nat {ts : List TaskD} {k : Nat} (h : k < ts.length) : tnm ts (k : Int) = (ts.getD k dT).name := by
  unfold tnm
  rw [if_pos (by omega)]
  rfl
theorem tnm_none {ts : List TaskD} {t : Int} (h : ¬ t < (ts.length : Int)) : tnm ts t = ⟨#[]⟩ := by
  unfold tnm
  rw [if_neg h]
theorem TasksAt.c0' {w : World} {a : Option Addr} {b o n : Nat} {ts : List TaskD} (h : TasksAt w a b o n ts) {k : Nat} (hk : k < n) {nm : ByteArray} (hn : nm = (ts.getD k dT).name) : w.cell? ⟨b, o + k * 3, none⟩ = some (.string nm) := by rw [hn]; exact h.c0 k hk

set_option maxHeartbeats 8000000 in
set_option maxRecDepth 100000 in
theorem sTick_d (nu ep : Int) (le ta co : Int) (a : Option Addr) (b o n c : Nat) (ss : List ByteArray) (x : ByteArray) (si : Int) (pa : Option Addr) (pb po pn pc : Nat) (ts : List TaskD) (w : World) (h : StrsAt w a b o n ss) (hp : TasksAt w pa pb po pn ts) (hok : (⟨nu, ep, true, 1, le, ta, co, 1, ss, x, si⟩ : WD).ok) (hcode : Code ts 0) :
    Calls Try.prog 19 #[.agg #[.int .i64 nu, .int .i64 ep, .bool true, .int .i64 1, .int .i64 le, .int .i64 ta, .int .i64 co, .int .i64 1, .slice a n c, .string x, .int .i64 si], .agg #[.slice pa pn pc]] w fun e w' => RetA e w.heap.size w' (tickR (⟨nu, ep, true, 1, le, ta, co, 1, ss, x, si⟩ : WD) ts) ∧ Below w.heap.size w w' := by
  obtain ⟨W, hW⟩ : ∃ W, W = ((w.alloc (.cells #[.int .i64 nu, .int .i64 ep, .bool true, .int .i64 1, .int .i64 le, .int .i64 ta, .int .i64 co, .int .i64 1, .slice a n c, .string x, .int .i64 si] 27)).alloc (.cells #[.slice pa pn pc] 43)).alloc (.cells zA.toArray 39) := ⟨_, rfl⟩
  have hbW : Below w.heap.size w W := by rw [hW]; exact (((Below.refl _ _).alloc (Nat.le_refl _) _).alloc (by simp) _).alloc (by simp; omega) _
  have hsW : W.heap.size = w.heap.size + 3 := by rw [hW]; simp
  have hP : CF W w.heap.size [.int .i64 nu, .int .i64 ep, .bool true, .int .i64 1, .int .i64 le, .int .i64 ta, .int .i64 co, .int .i64 1, .slice a n c, .string x, .int .i64 si] := by
    rw [hW]; exact ((CF.made w #[.int .i64 nu, .int .i64 ep, .bool true, .int .i64 1, .int .i64 le, .int .i64 ta, .int .i64 co, .int .i64 1, .slice a n c, .string x, .int .i64 si] 27).block (Below.heap_alloc _ _ _ (by simp))).block (Below.heap_alloc _ _ _ (by simp; omega))
  have hL : CF W (w.heap.size + 1) [.slice pa pn pc] := by
    rw [hW]
    have := (CF.made (w.alloc (.cells #[.int .i64 nu, .int .i64 ep, .bool true, .int .i64 1, .int .i64 le, .int .i64 ta, .int .i64 co, .int .i64 1, .slice a n c, .string x, .int .i64 si] 27)) #[.slice pa pn pc] 43).block (Below.heap_alloc ((w.alloc (.cells #[.int .i64 nu, .int .i64 ep, .bool true, .int .i64 1, .int .i64 le, .int .i64 ta, .int .i64 co, .int .i64 1, .slice a n c, .string x, .int .i64 si] 27)).alloc (.cells #[.slice pa pn pc] 43)) (.cells zA.toArray 39) _ (by simp))
    simpa using this
  have hR : CF W (w.heap.size + 2) zA := by
    rw [hW]
    have := CF.made ((w.alloc (.cells #[.int .i64 nu, .int .i64 ep, .bool true, .int .i64 1, .int .i64 le, .int .i64 ta, .int .i64 co, .int .i64 1, .slice a n c, .string x, .int .i64 si] 27)).alloc (.cells #[.slice pa pn pc] 43)) zA.toArray 39
    simpa using this
  have hlen := hid h.len
  have hplen := hid hp.len
  simp only [zA] at hW
  have HW := hid hW
  clear hW
  go_enter Try.func19, Try.ntmps19
  go_upto_region 1 with fail
  rw [← HW.out]
  clear HW
  have y0 : W.cell? ⟨w.heap.size, 0, none⟩ = some (.int .i64 nu) := (hP 0 (by simp)).1
  have y1 : W.cell? ⟨w.heap.size, 1, none⟩ = some (.int .i64 ep) := (hP 1 (by simp)).1
  have y2 : W.cell? ⟨w.heap.size, 2, none⟩ = some (.bool true) := (hP 2 (by simp)).1
  have y3 : W.cell? ⟨w.heap.size, 3, none⟩ = some (.int .i64 1) := (hP 3 (by simp)).1
  have y4 : W.cell? ⟨w.heap.size, 4, none⟩ = some (.int .i64 le) := (hP 4 (by simp)).1
  have y5 : W.cell? ⟨w.heap.size, 5, none⟩ = some (.int .i64 ta) := (hP 5 (by simp)).1
  have y6 : W.cell? ⟨w.heap.size, 6, none⟩ = some (.int .i64 co) := (hP 6 (by simp)).1
  have y7 : W.cell? ⟨w.heap.size, 7, none⟩ = some (.int .i64 1) := (hP 7 (by simp)).1
  have y8 : W.cell? ⟨w.heap.size, 8, none⟩ = some (.slice a n c) := (hP 8 (by simp)).1
  have y9 : W.cell? ⟨w.heap.size, 9, none⟩ = some (.string x) := (hP 9 (by simp)).1
  have y10 : W.cell? ⟨w.heap.size, 10, none⟩ = some (.int .i64 si) := (hP 10 (by simp)).1
  go_wp2_with fail
  refine (sVal_any nu ep true 1 le ta co 1 a b o n c ss x si _ (h.below' hbW)).mono ?_
  rintro e w1 ⟨⟨r, rfl, hr⟩, hb1⟩
  have hP1 := hP.block (hb1.block w.heap.size (by omega))
  have hL1 := hL.block (hb1.block (w.heap.size + 1) (by omega))
  have hR1 := hR.block (hb1.block (w.heap.size + 2) (by omega))
  have hB1 := hbW.trans (hb1.mono hbW.size)
  have hz1 : w.heap.size + 3 ≤ w1.heap.size := by have := hb1.size; omega
  have HR := hid hr
  clear y0 y1 y2 y3 y4 y5 y6 y7 y8 y9 y10 hr hb1 hP hL hR hsW hbW
  have HV := hid hok
  have HC := hid hcode
  clear hok hcode
  obtain rfl : r = true := HR.out.2 HV.out
  have hn8 : n ≤ 8 := by have := (WD.ok.small HV.out).1; rw [hlen.out] at this; exact this
  have kp : w1.cell? ⟨w.heap.size + 1, 0, none⟩ = some (.slice pa pn pc) := (hL1 0 (by simp)).1
  go_wp2_with fail
  refine (specCheckPlan_any pa pb po pn pc ts _ (hp.below' hB1)).mono ?_
  rintro e w2 ⟨⟨cd, rfl, hcd⟩, hb2⟩
  have hP2 := hP1.block (hb2.block w.heap.size (by omega))
  have hL2 := hL1.block (hb2.block (w.heap.size + 1) (by omega))
  have hR2 := hR1.block (hb2.block (w.heap.size + 2) (by omega))
  have hB2 := hB1.trans (hb2.mono hB1.size)
  have hz2 : w.heap.size + 3 ≤ w2.heap.size := by have := hb2.size; omega
  have HCD := hid hcd
  clear kp hP1 hL1 hR1 hB1 hz1 hb2 HR hcd
  obtain rfl : cd = 0 := HCD.out.one HC.out
  clear HC
  have hw2 := h.below' hB2
  have y0 : w2.cell? ⟨w.heap.size, 0, none⟩ = some (.int .i64 nu) := (hP2 0 (by simp)).1
  have y1 : w2.cell? ⟨w.heap.size, 1, none⟩ = some (.int .i64 ep) := (hP2 1 (by simp)).1
  have y2 : w2.cell? ⟨w.heap.size, 2, none⟩ = some (.bool true) := (hP2 2 (by simp)).1
  have y3 : w2.cell? ⟨w.heap.size, 3, none⟩ = some (.int .i64 1) := (hP2 3 (by simp)).1
  have y4 : w2.cell? ⟨w.heap.size, 4, none⟩ = some (.int .i64 le) := (hP2 4 (by simp)).1
  have y5 : w2.cell? ⟨w.heap.size, 5, none⟩ = some (.int .i64 ta) := (hP2 5 (by simp)).1
  have y6 : w2.cell? ⟨w.heap.size, 6, none⟩ = some (.int .i64 co) := (hP2 6 (by simp)).1
  have y7 : w2.cell? ⟨w.heap.size, 7, none⟩ = some (.int .i64 1) := (hP2 7 (by simp)).1
  have y8 : w2.cell? ⟨w.heap.size, 8, none⟩ = some (.slice a n c) := (hP2 8 (by simp)).1
  have y9 : w2.cell? ⟨w.heap.size, 9, none⟩ = some (.string x) := (hP2 9 (by simp)).1
  have y10 : w2.cell? ⟨w.heap.size, 10, none⟩ = some (.int .i64 si) := (hP2 10 (by simp)).1
  go_upto_region 4 with (go_at_call 43; refine (l3Copy_any nu ep true 1 le ta co 1 a b o n c ss x si _ hw2 (by omega)).mono ?_; rintro e w3 ⟨a1, c1, rfl, ho3, hb3⟩; have hL3 := hL2.block (hb3.block (w.heap.size + 1) (by omega)); have hR3 := hR2.block (hb3.block (w.heap.size + 2) (by omega)); have hB3 := hB2.trans (hb3.mono hB2.size); have hz3 : w.heap.size + 3 ≤ w3.heap.size := (by have := hb3.size; omega); clear hP2 hL2 hR2 hB2 hb3 hw2)
  clear y0 y1 y2 y3 y4 y5 y6 y7 y8 y9 y10
  have kp : w3.cell? ⟨w.heap.size + 1, 0, none⟩ = some (.slice pa pn pc) := (hL3 0 (by simp)).1
  have hlp : w.heap.size + 1 < w3.heap.size := by omega
  have v5 : 0 ≤ si := HV.out.2.2.2.2.1
  have v6 : si ≤ 1000000 := HV.out.2.2.2.2.2.1
  have hin := (vW1 _ _ _ _ _ _ _ _ _ _).1 HV.out
  have h0 : 0 ≤ ta := hin.2.2.2.1
  have h39 : ta ≤ 39 := hin.2.2.2.2.1
  have hT : tot ss ≤ 64 := tot_in hin.2.2.2.2.2.2.2.2.2.2
  have hst : n + tot ss ≤ 1048576 := by omega
  clear hin
  have hnz := tnm_size HCD.out ta h0
  obtain ⟨nm, hnm⟩ : ∃ nm, nm = tnm ts ta := ⟨_, rfl⟩
  rw [← hnm] at hnz
  have HNM := hid hnm
  by_cases hlt : ta < (pn : Int)
  · obtain ⟨k, rfl⟩ : ∃ k : Nat, ta = k := ⟨ta.toNat, by omega⟩
    have hk : k < pn := by omega
    have hpos := hp.ad (by omega)
    subst hpos
    have HN : Hid (nm = (ts.getD k dT).name) := by rw [hnm]; exact tnm_nat (by rw [hplen.out]; exact hk)
    clear hnm
    by_cases hs : si < 1000000
    · skip
      have hL4 := hL3.block (Below.heap_alloc w3 (.cells #[.int .i64 nu, .int .i64 ep, .bool true, .int .i64 1, .int .i64 le, .int .i64 (k : Int), .int .i64 co, .int .i64 0, .slice a1 n c1, .string x, .int .i64 (si + 1)] 27) _ (by omega))
      have hR4 := hR3.block (Below.heap_alloc w3 (.cells #[.int .i64 nu, .int .i64 ep, .bool true, .int .i64 1, .int .i64 le, .int .i64 (k : Int), .int .i64 co, .int .i64 0, .slice a1 n c1, .string x, .int .i64 (si + 1)] 27) _ (by omega))
      have hB4 := hB3.alloc hB3.size (.cells #[.int .i64 nu, .int .i64 ep, .bool true, .int .i64 1, .int .i64 le, .int .i64 (k : Int), .int .i64 co, .int .i64 0, .slice a1 n c1, .string x, .int .i64 (si + 1)] 27)
      have ho4 := ho3.alloc (.cells #[.int .i64 nu, .int .i64 ep, .bool true, .int .i64 1, .int .i64 le, .int .i64 (k : Int), .int .i64 co, .int .i64 0, .slice a1 n c1, .string x, .int .i64 (si + 1)] 27)
      have hX4 := CF.made w3 #[.int .i64 nu, .int .i64 ep, .bool true, .int .i64 1, .int .i64 le, .int .i64 (k : Int), .int .i64 co, .int .i64 0, .slice a1 n c1, .string x, .int .i64 (si + 1)] 27
      have hz4 : (w3.alloc (.cells #[.int .i64 nu, .int .i64 ep, .bool true, .int .i64 1, .int .i64 le, .int .i64 (k : Int), .int .i64 co, .int .i64 0, .slice a1 n c1, .string x, .int .i64 (si + 1)] 27)).heap.size = w3.heap.size + 1 := by simp
      have hnc : (w3.alloc (.cells #[.int .i64 nu, .int .i64 ep, .bool true, .int .i64 1, .int .i64 le, .int .i64 (k : Int), .int .i64 co, .int .i64 0, .slice a1 n c1, .string x, .int .i64 (si + 1)] 27)).cell? ⟨pb, po + k * 3, none⟩ = some (.string nm) := (hp.below' hB4).c0' hk HN.out
      obtain ⟨W4, hW4⟩ : ∃ W4, W4 = w3.alloc (.cells #[.int .i64 nu, .int .i64 ep, .bool true, .int .i64 1, .int .i64 le, .int .i64 (k : Int), .int .i64 co, .int .i64 0, .slice a1 n c1, .string x, .int .i64 (si + 1)] 27) := ⟨_, rfl⟩
      rw [← hW4] at hL4 hR4 hB4 ho4 hX4 hz4 hnc
      have HW4 := hid hW4
      have HZ4 := hid hz4
      clear hz4
      obtain ⟨b1, o1, hS4, _⟩ := ho4.strsB (by exact h.sz)
      rw [hW4] at hnc
      clear hW4
      go_wp2_with fail
      rw [← HW4.out]
      refine (specValue_any nm a1 b1 o1 n c1 ss _ (by omega) hS4 hst).mono ?_
      rintro e w5 ⟨rfl, hb5⟩
      have hR5 := hR4.block (hb5.block (w.heap.size + 2) (by have := HZ4.out; omega))
      have hX5 := hX4.block (hb5.block w3.heap.size (by have := HZ4.out; omega))
      have hB5 := hB4.trans (hb5.mono hB4.size)
      have hz5 : w3.heap.size + 1 ≤ w5.heap.size := by have := hb5.size; have := HZ4.out; omega
      obtain ⟨vt, hvt⟩ : ∃ vt, vt = valS nm ss := ⟨_, rfl⟩
      rw [← hvt]
      have HVT := hid hvt
      clear hvt hS4 hX4 hR4 hL4 hB4 ho4 hb5 HW4 hnc
      clear hs v5 v6
      have zz : w5.cell? ⟨w3.heap.size, 9, none⟩ = some (.string x) := (hX5 9 (by simp)).1
      have ff : w5.frozen? ⟨w3.heap.size, 9, none⟩ = false := (hX5 9 (by simp)).2
      go_upto_region 19 with fail
      clear zz ff
      have hX6 := hX5.set (j := 9) (by simp) (.string vt)
      simp only [List.set_cons_zero, List.set_cons_succ] at hX6
      have hR6 := hR5.block (Below.heap_setCell w5 (⟨w3.heap.size, 9, none⟩ : Addr) (.string vt) (w.heap.size + 2) (by dsimp only; omega))
      have hB6 := hB5.setCell (p := ⟨w3.heap.size, 9, none⟩) (by dsimp only; omega) (.string vt)
      have hz6 : w3.heap.size + 1 ≤ (w5.setCell ⟨w3.heap.size, 9, none⟩ (.string vt)).heap.size := by simpa [World.setCell] using hz5
      obtain ⟨w6x, hw6x⟩ : ∃ w6x, w6x = w5.setCell ⟨w3.heap.size, 9, none⟩ (.string vt) := ⟨_, rfl⟩
      rw [← hw6x] at hX6 hR6 hB6 hz6
      rw [← hw6x]
      clear hw6x hX5 hR5 hB5
      have zz : w6x.cell? ⟨w3.heap.size, 3, none⟩ = some (.int .i64 1) := (hX6 3 (by simp)).1
      have ff : w6x.frozen? ⟨w3.heap.size, 3, none⟩ = false := (hX6 3 (by simp)).2
      go_upto_region 20 with fail
      clear zz ff
      have hX7 := hX6.set (j := 3) (by simp) (.int .i64 2)
      simp only [List.set_cons_zero, List.set_cons_succ] at hX7
      have hR7 := hR6.block (Below.heap_setCell w6x (⟨w3.heap.size, 3, none⟩ : Addr) (.int .i64 2) (w.heap.size + 2) (by dsimp only; omega))
      have hB7 := hB6.setCell (p := ⟨w3.heap.size, 3, none⟩) (by dsimp only; omega) (.int .i64 2)
      have hz7 : w3.heap.size + 1 ≤ (w6x.setCell ⟨w3.heap.size, 3, none⟩ (.int .i64 2)).heap.size := by simpa [World.setCell] using hz6
      obtain ⟨w7x, hw7x⟩ : ∃ w7x, w7x = w6x.setCell ⟨w3.heap.size, 3, none⟩ (.int .i64 2) := ⟨_, rfl⟩
      rw [← hw7x] at hX7 hR7 hB7 hz7
      rw [← hw7x]
      clear hw7x hX6 hR6 hB6
      have zz : w7x.cell? ⟨w3.heap.size, 6, none⟩ = some (.int .i64 co) := (hX7 6 (by simp)).1
      have ff : w7x.frozen? ⟨w3.heap.size, 6, none⟩ = false := (hX7 6 (by simp)).2
      go_upto_region 21 with fail
      clear zz ff
      have hX8 := hX7.set (j := 6) (by simp) (.int .i64 0)
      simp only [List.set_cons_zero, List.set_cons_succ] at hX8
      have hR8 := hR7.block (Below.heap_setCell w7x (⟨w3.heap.size, 6, none⟩ : Addr) (.int .i64 0) (w.heap.size + 2) (by dsimp only; omega))
      have hB8 := hB7.setCell (p := ⟨w3.heap.size, 6, none⟩) (by dsimp only; omega) (.int .i64 0)
      have hz8 : w3.heap.size + 1 ≤ (w7x.setCell ⟨w3.heap.size, 6, none⟩ (.int .i64 0)).heap.size := by simpa [World.setCell] using hz7
      obtain ⟨w8x, hw8x⟩ : ∃ w8x, w8x = w7x.setCell ⟨w3.heap.size, 6, none⟩ (.int .i64 0) := ⟨_, rfl⟩
      rw [← hw8x] at hX8 hR8 hB8 hz8
      rw [← hw8x]
      clear hw8x hX7 hR7 hB7
      have zz : w8x.cell? ⟨w3.heap.size, 8, none⟩ = some (.slice a1 n c1) := (hX8 8 (by simp)).1
      have ff : w8x.frozen? ⟨w3.heap.size, 8, none⟩ = false := (hX8 8 (by simp)).2
      have zza : (w8x.alloc (.cells #[] 9)).cell? ⟨w3.heap.size, 8, none⟩ = some (.slice a1 n c1) := ((hX8.block (Below.heap_alloc w8x (.cells #[] 9) _ (by omega))) 8 (by simp)).1
      have ffa : (w8x.alloc (.cells #[] 9)).frozen? ⟨w3.heap.size, 8, none⟩ = false := ((hX8.block (Below.heap_alloc w8x (.cells #[] 9) _ (by omega))) 8 (by simp)).2
      go_upto_region 28 with fail
      clear zz ff zza ffa
      have hXa := hX8.block (Below.heap_alloc w8x (.cells #[] 9) _ (by omega))
      have hRa := hR8.block (Below.heap_alloc w8x (.cells #[] 9) _ (by omega))
      have hBa := hB8.alloc hB8.size (.cells #[] 9)
      have hza : w8x.heap.size + 1 ≤ (w8x.alloc (.cells #[] 9)).heap.size := by simp
      have hoa : Own w3.heap.size (w8x.alloc (.cells #[] 9)) 1 (.slice (some ⟨w8x.heap.size, 0, none⟩) 0 0) 0 [] := .inr ⟨_, 0, 0, rfl, OwnC.made w8x w3.heap.size 9 1 0 0 _ 0 (by omega) (Nat.le_refl _) (by unfold maxLen; omega) rfl (Nat.le_refl _) _ rfl _ (.inl rfl)⟩
      have ho9 := hoa.grown (gset (World.grownBy.refl (w8x.alloc (.cells #[] 9)) (some w3.heap.size)) 8 (.slice (some ⟨w8x.heap.size, 0, none⟩) 0 0)) (.inr (by intro hh; have : w8x.heap.size = w3.heap.size := Option.some.inj hh; omega))
      have hX9 := hXa.set (j := 8) (by simp) (.slice (some ⟨w8x.heap.size, 0, none⟩) 0 0)
      simp only [List.set_cons_zero, List.set_cons_succ] at hX9
      have hR9 := hRa.block (Below.heap_setCell (w8x.alloc (.cells #[] 9)) (⟨w3.heap.size, 8, none⟩ : Addr) (.slice (some ⟨w8x.heap.size, 0, none⟩) 0 0) (w.heap.size + 2) (by dsimp only; omega))
      have hB9 := hBa.setCell (p := ⟨w3.heap.size, 8, none⟩) (by dsimp only; omega) (.slice (some ⟨w8x.heap.size, 0, none⟩) 0 0)
      have hz9 : w8x.heap.size + 1 ≤ ((w8x.alloc (.cells #[] 9)).setCell ⟨w3.heap.size, 8, none⟩ (.slice (some ⟨w8x.heap.size, 0, none⟩) 0 0)).heap.size := by simp [World.setCell]
      obtain ⟨w9x, hw9x⟩ : ∃ w9x, w9x = (w8x.alloc (.cells #[] 9)).setCell ⟨w3.heap.size, 8, none⟩ (.slice (some ⟨w8x.heap.size, 0, none⟩) 0 0) := ⟨_, rfl⟩
      rw [← hw9x] at hX9 hR9 hB9 hz9 ho9
      rw [← hw9x]
      clear hw9x hX8 hR8 hB8
      have zz : w9x.cell? ⟨w3.heap.size, 10, none⟩ = some (.int .i64 (si + 1)) := (hX9 10 (by simp)).1
      have ff : w9x.frozen? ⟨w3.heap.size, 10, none⟩ = false := (hX9 10 (by simp)).2
      go_upto_region 31 with fail
      clear zz ff
      have hX10 := hX9.set (j := 10) (by simp) (.int .i64 0)
      simp only [List.set_cons_zero, List.set_cons_succ] at hX10
      have hR10 := hR9.block (Below.heap_setCell w9x (⟨w3.heap.size, 10, none⟩ : Addr) (.int .i64 0) (w.heap.size + 2) (by dsimp only; omega))
      have hB10 := hB9.setCell (p := ⟨w3.heap.size, 10, none⟩) (by dsimp only; omega) (.int .i64 0)
      have hz10 : w8x.heap.size + 1 ≤ (w9x.setCell ⟨w3.heap.size, 10, none⟩ (.int .i64 0)).heap.size := by simpa [World.setCell] using hz9
      have ho10 := ho9.grown (gset (World.grownBy.refl w9x (some w3.heap.size)) 10 (.int .i64 0)) (.inr (by intro hh; have : w8x.heap.size = w3.heap.size := Option.some.inj hh; omega))
      obtain ⟨w10x, hw10x⟩ : ∃ w10x, w10x = w9x.setCell ⟨w3.heap.size, 10, none⟩ (.int .i64 0) := ⟨_, rfl⟩
      rw [← hw10x] at hX10 hR10 hB10 hz10 ho10
      rw [← hw10x]
      clear hw10x hX9 hR9 hB9
      have HT : Hid (((⟨nu, ep, true, 2, le, (k : Int), 0, 0, [], vt, 0⟩ : WD), some (⟨3, nu, ep, le, (k : Int), vt⟩ : OM)) = tickV ⟨nu, ep, true, 1, le, (k : Int), co, 1, ss, x, si⟩ (tnm ts (k : Int))) := by rw [HVT.out, HNM.out]; exact (tick_1d _ _ _ _ _ _ _ _ _).symm
      obtain ⟨WX, hWX⟩ : ∃ WX, WX = w10x := ⟨_, rfl⟩
      rw [← hWX] at hX10 hR10 hB10 hz10 ho10 ⊢
      clear hWX
      have hX4 := hX10
      have hR4 := hR10
      have hB4 := hB10
      have hz4 : w3.heap.size < WX.heap.size := by omega
      clear hX10 hR10 hB10
      refine wp_region_held (S := fun w' => CF w' w3.heap.size [.int .i64 nu, .int .i64 ep, .bool true, .int .i64 2, .int .i64 le, .int .i64 (k : Int), .int .i64 0, .int .i64 0, .slice (some ⟨w8x.heap.size, 0, none⟩) 0 0, .string vt, .int .i64 0]) (by kernel_rfl) ?_
      change wpAnyH _ _ _ _ _ _ _ _ (World.drew _)
      have hXd : CF WX.drew w3.heap.size [.int .i64 nu, .int .i64 ep, .bool true, .int .i64 2, .int .i64 le, .int .i64 (k : Int), .int .i64 0, .int .i64 0, .slice (some ⟨w8x.heap.size, 0, none⟩) 0 0, .string vt, .int .i64 0] := hX4
      have hRd : CF WX.drew (w.heap.size + 2) zA := hR4
      have hBd := hB4.drew
      have hzd : w3.heap.size < WX.drew.heap.size := hz4
      refine hTake (i := 0) (d := some 80) (v := .agg #[.int .i64 nu, .int .i64 ep, .bool true, .int .i64 2, .int .i64 le, .int .i64 (k : Int), .int .i64 0, .int .i64 0, .slice (some ⟨w8x.heap.size, 0, none⟩) 0 0, .string vt, .int .i64 0]) (l' := #[true, false, false, false, false, false, false]) rfl (by kernel_rfl) (by kernel_rfl) (by kernel_rfl) (by kernel_rfl) (fun _ _ _ h => h) (by kernel_rfl) (fun _ hc => run_ldT 27 _ [.int .i64 nu, .int .i64 ep, .bool true, .int .i64 2, .int .i64 le, .int .i64 (k : Int), .int .i64 0, .int .i64 0, .slice (some ⟨w8x.heap.size, 0, none⟩) 0 0, .string vt, .int .i64 0] (.tmp 5) (by kernel_rfl) (by kernel_rfl) hc Try.underlying27 rfl Try.sizeWk) hXd (by kernel_rfl) ?_
      refine hTake (i := 1) (d := some 81) (v := .agg #[.int .i64 nu, .int .i64 ep, .bool true, .int .i64 2, .int .i64 le, .int .i64 (k : Int), .int .i64 0, .int .i64 0, .slice (some ⟨w8x.heap.size, 0, none⟩) 0 0, .string vt, .int .i64 0]) (l' := #[true, true, false, false, false, false, false]) rfl (by kernel_rfl) (by kernel_rfl) (by kernel_rfl) (by kernel_rfl) (fun _ _ _ h => h) (by kernel_rfl) (fun _ hc => run_ldT 27 _ [.int .i64 nu, .int .i64 ep, .bool true, .int .i64 2, .int .i64 le, .int .i64 (k : Int), .int .i64 0, .int .i64 0, .slice (some ⟨w8x.heap.size, 0, none⟩) 0 0, .string vt, .int .i64 0] (.tmp 5) (by kernel_rfl) (by kernel_rfl) hc Try.underlying27 rfl Try.sizeWk) hXd (by kernel_rfl) ?_
      refine hTake (i := 2) (d := some 82) (v := .int .i64 3) (l' := #[true, true, true, false, false, false, false]) rfl (by kernel_rfl) (by kernel_rfl) (by kernel_rfl) (by kernel_rfl) (fun _ _ _ h => h) (by kernel_rfl) (fun _ _ => run_mvT (.tmp 6) (by kernel_rfl) (by kernel_rfl)) hXd (by kernel_rfl) ?_
      refine hOne (by kernel_rfl) (hCall (i := 3) (d := some 83) (f := 48) (args := #[.agg #[.int .i64 nu, .int .i64 ep, .bool true, .int .i64 2, .int .i64 le, .int .i64 (k : Int), .int .i64 0, .int .i64 0, .slice (some ⟨w8x.heap.size, 0, none⟩) 0 0, .string vt, .int .i64 0], .int .i64 3]) (l' := #[true, true, true, true, false, false, false]) (R := fun v w' => v = .agg #[.int .i64 3, .int .i64 nu, .int .i64 0, .int .i64 ep, .int .i64 le, .int .i64 (k : Int), .string vt, .slice none 0 0] ∧ Below WX.drew.heap.size WX.drew w') rfl (by kernel_rfl) (by kernel_rfl) (by kernel_rfl) (run_cl2 _ _ _ rfl (by kernel_rfl) (by kernel_rfl) rfl enter_l3Says) ((l3Says_3 nu ep true 2 le (k : Int) 0 0 (some ⟨w8x.heap.size, 0, none⟩) 0 0 vt 0 _).mono fun _ _ ⟨he, hw⟩ => ⟨_, he, rfl, hw⟩) ?_)
      rintro _ w15 ⟨rfl, hb5⟩
      have hX5 := hXd.block (hb5.block _ hzd)
      have hR5 := hRd.block (hb5.block (w.heap.size + 2) (by omega))
      have hB5 := hBd.trans (hb5.mono hBd.size)
      have hz5 : w3.heap.size < w15.heap.size := by have := hb5.size; omega
      have hz5' : WX.heap.size ≤ w15.heap.size := hb5.size
      refine ⟨hX5, ?_⟩
      have hX6 := hX5.block (Below.heap_alloc w15 (.cells #[.int .i64 3, .int .i64 nu, .int .i64 0, .int .i64 ep, .int .i64 le, .int .i64 (k : Int), .string vt, .slice none 0 0] 75) _ hz5)
      have hR6 := hR5.block (Below.heap_alloc w15 (.cells #[.int .i64 3, .int .i64 nu, .int .i64 0, .int .i64 ep, .int .i64 le, .int .i64 (k : Int), .string vt, .slice none 0 0] 75) _ (by omega))
      have hB6 := hB5.alloc hB5.size (.cells #[.int .i64 3, .int .i64 nu, .int .i64 0, .int .i64 ep, .int .i64 le, .int .i64 (k : Int), .string vt, .slice none 0 0] 75)
      have hout : Own w.heap.size (w15.alloc (.cells #[.int .i64 3, .int .i64 nu, .int .i64 0, .int .i64 ep, .int .i64 le, .int .i64 (k : Int), .string vt, .slice none 0 0] 75)) 8 (.slice (some ⟨w15.heap.size, 0, none⟩) 1 1) 1 [.int .i64 3, .int .i64 nu, .int .i64 0, .int .i64 ep, .int .i64 le, .int .i64 (k : Int), .string vt, .slice none 0 0] := outOwn w15 w.heap.size ⟨3, nu, ep, le, (k : Int), vt⟩ (by omega)
      have hz6 : w.heap.size + 2 < (w15.alloc (.cells #[.int .i64 3, .int .i64 nu, .int .i64 0, .int .i64 ep, .int .i64 le, .int .i64 (k : Int), .string vt, .slice none 0 0] 75)).heap.size := by simp; omega
      refine hOne (by kernel_rfl) (hVal (i := 4) (d := some 84) (v := .slice (some ⟨w15.heap.size, 0, none⟩) 1 1) (w' := w15.alloc (.cells #[.int .i64 3, .int .i64 nu, .int .i64 0, .int .i64 ep, .int .i64 le, .int .i64 (k : Int), .string vt, .slice none 0 0] 75)) (l' := #[true, true, true, true, true, false, false]) rfl (by kernel_rfl) (by kernel_rfl) (by kernel_rfl) (run_bs1 (.tmp 83) 3 nu 0 ep le (k : Int) vt (by kernel_rfl) (by kernel_rfl)) hX6 ?_)
      refine hTake (i := 5) (d := some 85) (v := .agg #[.int .i64 nu, .int .i64 ep, .bool true, .int .i64 2, .int .i64 le, .int .i64 (k : Int), .int .i64 0, .int .i64 0, .slice (some ⟨w8x.heap.size, 0, none⟩) 0 0, .string vt, .int .i64 0, .slice (some ⟨w15.heap.size, 0, none⟩) 1 1]) (l' := #[true, true, true, true, true, true, false]) rfl (by kernel_rfl) (by kernel_rfl) (by kernel_rfl) (by kernel_rfl) (fun _ _ _ h => h) (by kernel_rfl) (fun _ _ => run_bd (.tmp 80) (.tmp 84) nu ep true 2 le (k : Int) 0 0 (some ⟨w8x.heap.size, 0, none⟩) 0 0 vt 0 (some ⟨w15.heap.size, 0, none⟩) 1 1 (by kernel_rfl) (by kernel_rfl) (by kernel_rfl)) hX6 (by kernel_rfl) ?_
      obtain ⟨w10, hw10⟩ : ∃ w10, w10 = (w15.alloc (.cells #[.int .i64 3, .int .i64 nu, .int .i64 0, .int .i64 ep, .int .i64 le, .int .i64 (k : Int), .string vt, .slice none 0 0] 75)).setCells (w.heap.size + 2) 0 [.int .i64 nu, .int .i64 ep, .bool true, .int .i64 2, .int .i64 le, .int .i64 (k : Int), .int .i64 0, .int .i64 0, .slice (some ⟨w8x.heap.size, 0, none⟩) 0 0, .string vt, .int .i64 0, .slice (some ⟨w15.heap.size, 0, none⟩) 1 1] := ⟨_, rfl⟩
      have hc10 : CF w10 (w.heap.size + 2) [.int .i64 nu, .int .i64 ep, .bool true, .int .i64 2, .int .i64 le, .int .i64 (k : Int), .int .i64 0, .int .i64 0, .slice (some ⟨w8x.heap.size, 0, none⟩) 0 0, .string vt, .int .i64 0, .slice (some ⟨w15.heap.size, 0, none⟩) 1 1] := by rw [hw10]; exact hR6.stored rfl
      have hg10 : (w15.alloc (.cells #[.int .i64 3, .int .i64 nu, .int .i64 0, .int .i64 ep, .int .i64 le, .int .i64 (k : Int), .string vt, .slice none 0 0] 75)).grownBy w10 (some (w.heap.size + 2)) := by rw [hw10]; exact grown_setCells _ _ _ _ _ (World.grownBy.refl _ _)
      have hX10 := hX6.block (hg10.block w3.heap.size (by simp; omega) (by simp; omega))
      refine hOne (by kernel_rfl) (hSkip (i := 6) (w' := w10) (l' := #[true, true, true, true, true, true, true]) rfl (by kernel_rfl) (by kernel_rfl) (by kernel_rfl) (by rw [hw10]; exact run_stT 39 zA [.int .i64 nu, .int .i64 ep, .bool true, .int .i64 2, .int .i64 le, .int .i64 (k : Int), .int .i64 0, .int .i64 0, .slice (some ⟨w8x.heap.size, 0, none⟩) 0 0, .string vt, .int .i64 0, .slice (some ⟨w15.heap.size, 0, none⟩) 1 1] (.tmp 4) (.tmp 85) (by kernel_rfl) (by kernel_rfl) (by kernel_rfl) hR6 rfl Try.sizeAc (one12 _ _ _ _ _ _ _ _ _ _ _ _ _ _ _ _)) hX10 ?_)
      have kk0 : w10.cell? ⟨w.heap.size + 2, 0, none⟩ = some (.int .i64 nu) := (hc10 0 (by simp)).1
      have kk1 : w10.cell? ⟨w.heap.size + 2, 1, none⟩ = some (.int .i64 ep) := (hc10 1 (by simp)).1
      have kk2 : w10.cell? ⟨w.heap.size + 2, 2, none⟩ = some (.bool true) := (hc10 2 (by simp)).1
      have kk3 : w10.cell? ⟨w.heap.size + 2, 3, none⟩ = some (.int .i64 2) := (hc10 3 (by simp)).1
      have kk4 : w10.cell? ⟨w.heap.size + 2, 4, none⟩ = some (.int .i64 le) := (hc10 4 (by simp)).1
      have kk5 : w10.cell? ⟨w.heap.size + 2, 5, none⟩ = some (.int .i64 (k : Int)) := (hc10 5 (by simp)).1
      have kk6 : w10.cell? ⟨w.heap.size + 2, 6, none⟩ = some (.int .i64 0) := (hc10 6 (by simp)).1
      have kk7 : w10.cell? ⟨w.heap.size + 2, 7, none⟩ = some (.int .i64 0) := (hc10 7 (by simp)).1
      have kk8 : w10.cell? ⟨w.heap.size + 2, 8, none⟩ = some (.slice (some ⟨w8x.heap.size, 0, none⟩) 0 0) := (hc10 8 (by simp)).1
      have kk9 : w10.cell? ⟨w.heap.size + 2, 9, none⟩ = some (.string vt) := (hc10 9 (by simp)).1
      have kk10 : w10.cell? ⟨w.heap.size + 2, 10, none⟩ = some (.int .i64 0) := (hc10 10 (by simp)).1
      have kk11 : w10.cell? ⟨w.heap.size + 2, 11, none⟩ = some (.slice (some ⟨w15.heap.size, 0, none⟩) 1 1) := (hc10 11 (by simp)).1
      refine wpAnyH_done (by kernel_rfl) ?_ _
      go_wp2
      refine bodyPost_ret (v := .agg #[.int .i64 nu, .int .i64 ep, .bool true, .int .i64 2, .int .i64 le, .int .i64 (k : Int), .int .i64 0, .int .i64 0, .slice (some ⟨w8x.heap.size, 0, none⟩) 0 0, .string vt, .int .i64 0, .slice (some ⟨w15.heap.size, 0, none⟩) 1 1]) (by simp [results, Try.results19, go_sem, kk0, kk1, kk2, kk3, kk4, kk5, kk6, kk7, kk8, kk9, kk10, kk11]) rfl ⟨⟨⟨nu, ep, true, 2, le, (k : Int), 0, 0, [], vt, 0⟩, some ⟨3, nu, ep, le, (k : Int), vt⟩, some ⟨w8x.heap.size, 0, none⟩, 0, .slice (some ⟨w15.heap.size, 0, none⟩) 1 1, ?_, ?_, ?_, ?_, .inl ⟨HV.out, HCD.out, ?_⟩⟩, ?_⟩
      · exact rfl
      · exact (((ho10.drewW.below hb5 (Nat.le_refl _)).alloc _).grown hg10 (.inr (by intro hh; have : w8x.heap.size = w.heap.size + 2 := Option.some.inj hh; omega))).mono' (by omega)
      · exact hout.grown hg10 (.inr (by intro hh; have : w15.heap.size = w.heap.size + 2 := Option.some.inj hh; omega))
      · exact .inr (fun hh => by have : w8x.heap.size = w15.heap.size := Option.some.inj hh; omega)
      · exact HT.out
      · exact below_grown hB6 hg10 (by omega) (fun q hq => by simp at hq; omega)
    · skip
      have hL4 := hL3.block (Below.heap_alloc w3 (.cells #[.int .i64 nu, .int .i64 ep, .bool true, .int .i64 1, .int .i64 le, .int .i64 (k : Int), .int .i64 co, .int .i64 0, .slice a1 n c1, .string x, .int .i64 si] 27) _ (by omega))
      have hR4 := hR3.block (Below.heap_alloc w3 (.cells #[.int .i64 nu, .int .i64 ep, .bool true, .int .i64 1, .int .i64 le, .int .i64 (k : Int), .int .i64 co, .int .i64 0, .slice a1 n c1, .string x, .int .i64 si] 27) _ (by omega))
      have hB4 := hB3.alloc hB3.size (.cells #[.int .i64 nu, .int .i64 ep, .bool true, .int .i64 1, .int .i64 le, .int .i64 (k : Int), .int .i64 co, .int .i64 0, .slice a1 n c1, .string x, .int .i64 si] 27)
      have ho4 := ho3.alloc (.cells #[.int .i64 nu, .int .i64 ep, .bool true, .int .i64 1, .int .i64 le, .int .i64 (k : Int), .int .i64 co, .int .i64 0, .slice a1 n c1, .string x, .int .i64 si] 27)
      have hX4 := CF.made w3 #[.int .i64 nu, .int .i64 ep, .bool true, .int .i64 1, .int .i64 le, .int .i64 (k : Int), .int .i64 co, .int .i64 0, .slice a1 n c1, .string x, .int .i64 si] 27
      have hz4 : (w3.alloc (.cells #[.int .i64 nu, .int .i64 ep, .bool true, .int .i64 1, .int .i64 le, .int .i64 (k : Int), .int .i64 co, .int .i64 0, .slice a1 n c1, .string x, .int .i64 si] 27)).heap.size = w3.heap.size + 1 := by simp
      have hnc : (w3.alloc (.cells #[.int .i64 nu, .int .i64 ep, .bool true, .int .i64 1, .int .i64 le, .int .i64 (k : Int), .int .i64 co, .int .i64 0, .slice a1 n c1, .string x, .int .i64 si] 27)).cell? ⟨pb, po + k * 3, none⟩ = some (.string nm) := (hp.below' hB4).c0' hk HN.out
      obtain ⟨W4, hW4⟩ : ∃ W4, W4 = w3.alloc (.cells #[.int .i64 nu, .int .i64 ep, .bool true, .int .i64 1, .int .i64 le, .int .i64 (k : Int), .int .i64 co, .int .i64 0, .slice a1 n c1, .string x, .int .i64 si] 27) := ⟨_, rfl⟩
      rw [← hW4] at hL4 hR4 hB4 ho4 hX4 hz4 hnc
      have HW4 := hid hW4
      have HZ4 := hid hz4
      clear hz4
      obtain ⟨b1, o1, hS4, _⟩ := ho4.strsB (by exact h.sz)
      rw [hW4] at hnc
      clear hW4
      go_wp2_with fail
      rw [← HW4.out]
      refine (specValue_any nm a1 b1 o1 n c1 ss _ (by omega) hS4 hst).mono ?_
      rintro e w5 ⟨rfl, hb5⟩
      have hR5 := hR4.block (hb5.block (w.heap.size + 2) (by have := HZ4.out; omega))
      have hX5 := hX4.block (hb5.block w3.heap.size (by have := HZ4.out; omega))
      have hB5 := hB4.trans (hb5.mono hB4.size)
      have hz5 : w3.heap.size + 1 ≤ w5.heap.size := by have := hb5.size; have := HZ4.out; omega
      obtain ⟨vt, hvt⟩ : ∃ vt, vt = valS nm ss := ⟨_, rfl⟩
      rw [← hvt]
      have HVT := hid hvt
      clear hvt hS4 hX4 hR4 hL4 hB4 ho4 hb5 HW4 hnc
      clear hs v5 v6
      have zz : w5.cell? ⟨w3.heap.size, 9, none⟩ = some (.string x) := (hX5 9 (by simp)).1
      have ff : w5.frozen? ⟨w3.heap.size, 9, none⟩ = false := (hX5 9 (by simp)).2
      go_upto_region 19 with fail
      clear zz ff
      have hX6 := hX5.set (j := 9) (by simp) (.string vt)
      simp only [List.set_cons_zero, List.set_cons_succ] at hX6
      have hR6 := hR5.block (Below.heap_setCell w5 (⟨w3.heap.size, 9, none⟩ : Addr) (.string vt) (w.heap.size + 2) (by dsimp only; omega))
      have hB6 := hB5.setCell (p := ⟨w3.heap.size, 9, none⟩) (by dsimp only; omega) (.string vt)
      have hz6 : w3.heap.size + 1 ≤ (w5.setCell ⟨w3.heap.size, 9, none⟩ (.string vt)).heap.size := by simpa [World.setCell] using hz5
      obtain ⟨w6x, hw6x⟩ : ∃ w6x, w6x = w5.setCell ⟨w3.heap.size, 9, none⟩ (.string vt) := ⟨_, rfl⟩
      rw [← hw6x] at hX6 hR6 hB6 hz6
      rw [← hw6x]
      clear hw6x hX5 hR5 hB5
      have zz : w6x.cell? ⟨w3.heap.size, 3, none⟩ = some (.int .i64 1) := (hX6 3 (by simp)).1
      have ff : w6x.frozen? ⟨w3.heap.size, 3, none⟩ = false := (hX6 3 (by simp)).2
      go_upto_region 20 with fail
      clear zz ff
      have hX7 := hX6.set (j := 3) (by simp) (.int .i64 2)
      simp only [List.set_cons_zero, List.set_cons_succ] at hX7
      have hR7 := hR6.block (Below.heap_setCell w6x (⟨w3.heap.size, 3, none⟩ : Addr) (.int .i64 2) (w.heap.size + 2) (by dsimp only; omega))
      have hB7 := hB6.setCell (p := ⟨w3.heap.size, 3, none⟩) (by dsimp only; omega) (.int .i64 2)
      have hz7 : w3.heap.size + 1 ≤ (w6x.setCell ⟨w3.heap.size, 3, none⟩ (.int .i64 2)).heap.size := by simpa [World.setCell] using hz6
      obtain ⟨w7x, hw7x⟩ : ∃ w7x, w7x = w6x.setCell ⟨w3.heap.size, 3, none⟩ (.int .i64 2) := ⟨_, rfl⟩
      rw [← hw7x] at hX7 hR7 hB7 hz7
      rw [← hw7x]
      clear hw7x hX6 hR6 hB6
      have zz : w7x.cell? ⟨w3.heap.size, 6, none⟩ = some (.int .i64 co) := (hX7 6 (by simp)).1
      have ff : w7x.frozen? ⟨w3.heap.size, 6, none⟩ = false := (hX7 6 (by simp)).2
      go_upto_region 21 with fail
      clear zz ff
      have hX8 := hX7.set (j := 6) (by simp) (.int .i64 0)
      simp only [List.set_cons_zero, List.set_cons_succ] at hX8
      have hR8 := hR7.block (Below.heap_setCell w7x (⟨w3.heap.size, 6, none⟩ : Addr) (.int .i64 0) (w.heap.size + 2) (by dsimp only; omega))
      have hB8 := hB7.setCell (p := ⟨w3.heap.size, 6, none⟩) (by dsimp only; omega) (.int .i64 0)
      have hz8 : w3.heap.size + 1 ≤ (w7x.setCell ⟨w3.heap.size, 6, none⟩ (.int .i64 0)).heap.size := by simpa [World.setCell] using hz7
      obtain ⟨w8x, hw8x⟩ : ∃ w8x, w8x = w7x.setCell ⟨w3.heap.size, 6, none⟩ (.int .i64 0) := ⟨_, rfl⟩
      rw [← hw8x] at hX8 hR8 hB8 hz8
      rw [← hw8x]
      clear hw8x hX7 hR7 hB7
      have zz : w8x.cell? ⟨w3.heap.size, 8, none⟩ = some (.slice a1 n c1) := (hX8 8 (by simp)).1
      have ff : w8x.frozen? ⟨w3.heap.size, 8, none⟩ = false := (hX8 8 (by simp)).2
      have zza : (w8x.alloc (.cells #[] 9)).cell? ⟨w3.heap.size, 8, none⟩ = some (.slice a1 n c1) := ((hX8.block (Below.heap_alloc w8x (.cells #[] 9) _ (by omega))) 8 (by simp)).1
      have ffa : (w8x.alloc (.cells #[] 9)).frozen? ⟨w3.heap.size, 8, none⟩ = false := ((hX8.block (Below.heap_alloc w8x (.cells #[] 9) _ (by omega))) 8 (by simp)).2
      go_upto_region 28 with fail
      clear zz ff zza ffa
      have hXa := hX8.block (Below.heap_alloc w8x (.cells #[] 9) _ (by omega))
      have hRa := hR8.block (Below.heap_alloc w8x (.cells #[] 9) _ (by omega))
      have hBa := hB8.alloc hB8.size (.cells #[] 9)
      have hza : w8x.heap.size + 1 ≤ (w8x.alloc (.cells #[] 9)).heap.size := by simp
      have hoa : Own w3.heap.size (w8x.alloc (.cells #[] 9)) 1 (.slice (some ⟨w8x.heap.size, 0, none⟩) 0 0) 0 [] := .inr ⟨_, 0, 0, rfl, OwnC.made w8x w3.heap.size 9 1 0 0 _ 0 (by omega) (Nat.le_refl _) (by unfold maxLen; omega) rfl (Nat.le_refl _) _ rfl _ (.inl rfl)⟩
      have ho9 := hoa.grown (gset (World.grownBy.refl (w8x.alloc (.cells #[] 9)) (some w3.heap.size)) 8 (.slice (some ⟨w8x.heap.size, 0, none⟩) 0 0)) (.inr (by intro hh; have : w8x.heap.size = w3.heap.size := Option.some.inj hh; omega))
      have hX9 := hXa.set (j := 8) (by simp) (.slice (some ⟨w8x.heap.size, 0, none⟩) 0 0)
      simp only [List.set_cons_zero, List.set_cons_succ] at hX9
      have hR9 := hRa.block (Below.heap_setCell (w8x.alloc (.cells #[] 9)) (⟨w3.heap.size, 8, none⟩ : Addr) (.slice (some ⟨w8x.heap.size, 0, none⟩) 0 0) (w.heap.size + 2) (by dsimp only; omega))
      have hB9 := hBa.setCell (p := ⟨w3.heap.size, 8, none⟩) (by dsimp only; omega) (.slice (some ⟨w8x.heap.size, 0, none⟩) 0 0)
      have hz9 : w8x.heap.size + 1 ≤ ((w8x.alloc (.cells #[] 9)).setCell ⟨w3.heap.size, 8, none⟩ (.slice (some ⟨w8x.heap.size, 0, none⟩) 0 0)).heap.size := by simp [World.setCell]
      obtain ⟨w9x, hw9x⟩ : ∃ w9x, w9x = (w8x.alloc (.cells #[] 9)).setCell ⟨w3.heap.size, 8, none⟩ (.slice (some ⟨w8x.heap.size, 0, none⟩) 0 0) := ⟨_, rfl⟩
      rw [← hw9x] at hX9 hR9 hB9 hz9 ho9
      rw [← hw9x]
      clear hw9x hX8 hR8 hB8
      have zz : w9x.cell? ⟨w3.heap.size, 10, none⟩ = some (.int .i64 si) := (hX9 10 (by simp)).1
      have ff : w9x.frozen? ⟨w3.heap.size, 10, none⟩ = false := (hX9 10 (by simp)).2
      go_upto_region 31 with fail
      clear zz ff
      have hX10 := hX9.set (j := 10) (by simp) (.int .i64 0)
      simp only [List.set_cons_zero, List.set_cons_succ] at hX10
      have hR10 := hR9.block (Below.heap_setCell w9x (⟨w3.heap.size, 10, none⟩ : Addr) (.int .i64 0) (w.heap.size + 2) (by dsimp only; omega))
      have hB10 := hB9.setCell (p := ⟨w3.heap.size, 10, none⟩) (by dsimp only; omega) (.int .i64 0)
      have hz10 : w8x.heap.size + 1 ≤ (w9x.setCell ⟨w3.heap.size, 10, none⟩ (.int .i64 0)).heap.size := by simpa [World.setCell] using hz9
      have ho10 := ho9.grown (gset (World.grownBy.refl w9x (some w3.heap.size)) 10 (.int .i64 0)) (.inr (by intro hh; have : w8x.heap.size = w3.heap.size := Option.some.inj hh; omega))
      obtain ⟨w10x, hw10x⟩ : ∃ w10x, w10x = w9x.setCell ⟨w3.heap.size, 10, none⟩ (.int .i64 0) := ⟨_, rfl⟩
      rw [← hw10x] at hX10 hR10 hB10 hz10 ho10
      rw [← hw10x]
      clear hw10x hX9 hR9 hB9
      have HT : Hid (((⟨nu, ep, true, 2, le, (k : Int), 0, 0, [], vt, 0⟩ : WD), some (⟨3, nu, ep, le, (k : Int), vt⟩ : OM)) = tickV ⟨nu, ep, true, 1, le, (k : Int), co, 1, ss, x, si⟩ (tnm ts (k : Int))) := by rw [HVT.out, HNM.out]; exact (tick_1d _ _ _ _ _ _ _ _ _).symm
      obtain ⟨WX, hWX⟩ : ∃ WX, WX = w10x := ⟨_, rfl⟩
      rw [← hWX] at hX10 hR10 hB10 hz10 ho10 ⊢
      clear hWX
      have hX4 := hX10
      have hR4 := hR10
      have hB4 := hB10
      have hz4 : w3.heap.size < WX.heap.size := by omega
      clear hX10 hR10 hB10
      refine wp_region_held (S := fun w' => CF w' w3.heap.size [.int .i64 nu, .int .i64 ep, .bool true, .int .i64 2, .int .i64 le, .int .i64 (k : Int), .int .i64 0, .int .i64 0, .slice (some ⟨w8x.heap.size, 0, none⟩) 0 0, .string vt, .int .i64 0]) (by kernel_rfl) ?_
      change wpAnyH _ _ _ _ _ _ _ _ (World.drew _)
      have hXd : CF WX.drew w3.heap.size [.int .i64 nu, .int .i64 ep, .bool true, .int .i64 2, .int .i64 le, .int .i64 (k : Int), .int .i64 0, .int .i64 0, .slice (some ⟨w8x.heap.size, 0, none⟩) 0 0, .string vt, .int .i64 0] := hX4
      have hRd : CF WX.drew (w.heap.size + 2) zA := hR4
      have hBd := hB4.drew
      have hzd : w3.heap.size < WX.drew.heap.size := hz4
      refine hTake (i := 0) (d := some 80) (v := .agg #[.int .i64 nu, .int .i64 ep, .bool true, .int .i64 2, .int .i64 le, .int .i64 (k : Int), .int .i64 0, .int .i64 0, .slice (some ⟨w8x.heap.size, 0, none⟩) 0 0, .string vt, .int .i64 0]) (l' := #[true, false, false, false, false, false, false]) rfl (by kernel_rfl) (by kernel_rfl) (by kernel_rfl) (by kernel_rfl) (fun _ _ _ h => h) (by kernel_rfl) (fun _ hc => run_ldT 27 _ [.int .i64 nu, .int .i64 ep, .bool true, .int .i64 2, .int .i64 le, .int .i64 (k : Int), .int .i64 0, .int .i64 0, .slice (some ⟨w8x.heap.size, 0, none⟩) 0 0, .string vt, .int .i64 0] (.tmp 5) (by kernel_rfl) (by kernel_rfl) hc Try.underlying27 rfl Try.sizeWk) hXd (by kernel_rfl) ?_
      refine hTake (i := 1) (d := some 81) (v := .agg #[.int .i64 nu, .int .i64 ep, .bool true, .int .i64 2, .int .i64 le, .int .i64 (k : Int), .int .i64 0, .int .i64 0, .slice (some ⟨w8x.heap.size, 0, none⟩) 0 0, .string vt, .int .i64 0]) (l' := #[true, true, false, false, false, false, false]) rfl (by kernel_rfl) (by kernel_rfl) (by kernel_rfl) (by kernel_rfl) (fun _ _ _ h => h) (by kernel_rfl) (fun _ hc => run_ldT 27 _ [.int .i64 nu, .int .i64 ep, .bool true, .int .i64 2, .int .i64 le, .int .i64 (k : Int), .int .i64 0, .int .i64 0, .slice (some ⟨w8x.heap.size, 0, none⟩) 0 0, .string vt, .int .i64 0] (.tmp 5) (by kernel_rfl) (by kernel_rfl) hc Try.underlying27 rfl Try.sizeWk) hXd (by kernel_rfl) ?_
      refine hTake (i := 2) (d := some 82) (v := .int .i64 3) (l' := #[true, true, true, false, false, false, false]) rfl (by kernel_rfl) (by kernel_rfl) (by kernel_rfl) (by kernel_rfl) (fun _ _ _ h => h) (by kernel_rfl) (fun _ _ => run_mvT (.tmp 6) (by kernel_rfl) (by kernel_rfl)) hXd (by kernel_rfl) ?_
      refine hOne (by kernel_rfl) (hCall (i := 3) (d := some 83) (f := 48) (args := #[.agg #[.int .i64 nu, .int .i64 ep, .bool true, .int .i64 2, .int .i64 le, .int .i64 (k : Int), .int .i64 0, .int .i64 0, .slice (some ⟨w8x.heap.size, 0, none⟩) 0 0, .string vt, .int .i64 0], .int .i64 3]) (l' := #[true, true, true, true, false, false, false]) (R := fun v w' => v = .agg #[.int .i64 3, .int .i64 nu, .int .i64 0, .int .i64 ep, .int .i64 le, .int .i64 (k : Int), .string vt, .slice none 0 0] ∧ Below WX.drew.heap.size WX.drew w') rfl (by kernel_rfl) (by kernel_rfl) (by kernel_rfl) (run_cl2 _ _ _ rfl (by kernel_rfl) (by kernel_rfl) rfl enter_l3Says) ((l3Says_3 nu ep true 2 le (k : Int) 0 0 (some ⟨w8x.heap.size, 0, none⟩) 0 0 vt 0 _).mono fun _ _ ⟨he, hw⟩ => ⟨_, he, rfl, hw⟩) ?_)
      rintro _ w15 ⟨rfl, hb5⟩
      have hX5 := hXd.block (hb5.block _ hzd)
      have hR5 := hRd.block (hb5.block (w.heap.size + 2) (by omega))
      have hB5 := hBd.trans (hb5.mono hBd.size)
      have hz5 : w3.heap.size < w15.heap.size := by have := hb5.size; omega
      have hz5' : WX.heap.size ≤ w15.heap.size := hb5.size
      refine ⟨hX5, ?_⟩
      have hX6 := hX5.block (Below.heap_alloc w15 (.cells #[.int .i64 3, .int .i64 nu, .int .i64 0, .int .i64 ep, .int .i64 le, .int .i64 (k : Int), .string vt, .slice none 0 0] 75) _ hz5)
      have hR6 := hR5.block (Below.heap_alloc w15 (.cells #[.int .i64 3, .int .i64 nu, .int .i64 0, .int .i64 ep, .int .i64 le, .int .i64 (k : Int), .string vt, .slice none 0 0] 75) _ (by omega))
      have hB6 := hB5.alloc hB5.size (.cells #[.int .i64 3, .int .i64 nu, .int .i64 0, .int .i64 ep, .int .i64 le, .int .i64 (k : Int), .string vt, .slice none 0 0] 75)
      have hout : Own w.heap.size (w15.alloc (.cells #[.int .i64 3, .int .i64 nu, .int .i64 0, .int .i64 ep, .int .i64 le, .int .i64 (k : Int), .string vt, .slice none 0 0] 75)) 8 (.slice (some ⟨w15.heap.size, 0, none⟩) 1 1) 1 [.int .i64 3, .int .i64 nu, .int .i64 0, .int .i64 ep, .int .i64 le, .int .i64 (k : Int), .string vt, .slice none 0 0] := outOwn w15 w.heap.size ⟨3, nu, ep, le, (k : Int), vt⟩ (by omega)
      have hz6 : w.heap.size + 2 < (w15.alloc (.cells #[.int .i64 3, .int .i64 nu, .int .i64 0, .int .i64 ep, .int .i64 le, .int .i64 (k : Int), .string vt, .slice none 0 0] 75)).heap.size := by simp; omega
      refine hOne (by kernel_rfl) (hVal (i := 4) (d := some 84) (v := .slice (some ⟨w15.heap.size, 0, none⟩) 1 1) (w' := w15.alloc (.cells #[.int .i64 3, .int .i64 nu, .int .i64 0, .int .i64 ep, .int .i64 le, .int .i64 (k : Int), .string vt, .slice none 0 0] 75)) (l' := #[true, true, true, true, true, false, false]) rfl (by kernel_rfl) (by kernel_rfl) (by kernel_rfl) (run_bs1 (.tmp 83) 3 nu 0 ep le (k : Int) vt (by kernel_rfl) (by kernel_rfl)) hX6 ?_)
      refine hTake (i := 5) (d := some 85) (v := .agg #[.int .i64 nu, .int .i64 ep, .bool true, .int .i64 2, .int .i64 le, .int .i64 (k : Int), .int .i64 0, .int .i64 0, .slice (some ⟨w8x.heap.size, 0, none⟩) 0 0, .string vt, .int .i64 0, .slice (some ⟨w15.heap.size, 0, none⟩) 1 1]) (l' := #[true, true, true, true, true, true, false]) rfl (by kernel_rfl) (by kernel_rfl) (by kernel_rfl) (by kernel_rfl) (fun _ _ _ h => h) (by kernel_rfl) (fun _ _ => run_bd (.tmp 80) (.tmp 84) nu ep true 2 le (k : Int) 0 0 (some ⟨w8x.heap.size, 0, none⟩) 0 0 vt 0 (some ⟨w15.heap.size, 0, none⟩) 1 1 (by kernel_rfl) (by kernel_rfl) (by kernel_rfl)) hX6 (by kernel_rfl) ?_
      obtain ⟨w10, hw10⟩ : ∃ w10, w10 = (w15.alloc (.cells #[.int .i64 3, .int .i64 nu, .int .i64 0, .int .i64 ep, .int .i64 le, .int .i64 (k : Int), .string vt, .slice none 0 0] 75)).setCells (w.heap.size + 2) 0 [.int .i64 nu, .int .i64 ep, .bool true, .int .i64 2, .int .i64 le, .int .i64 (k : Int), .int .i64 0, .int .i64 0, .slice (some ⟨w8x.heap.size, 0, none⟩) 0 0, .string vt, .int .i64 0, .slice (some ⟨w15.heap.size, 0, none⟩) 1 1] := ⟨_, rfl⟩
      have hc10 : CF w10 (w.heap.size + 2) [.int .i64 nu, .int .i64 ep, .bool true, .int .i64 2, .int .i64 le, .int .i64 (k : Int), .int .i64 0, .int .i64 0, .slice (some ⟨w8x.heap.size, 0, none⟩) 0 0, .string vt, .int .i64 0, .slice (some ⟨w15.heap.size, 0, none⟩) 1 1] := by rw [hw10]; exact hR6.stored rfl
      have hg10 : (w15.alloc (.cells #[.int .i64 3, .int .i64 nu, .int .i64 0, .int .i64 ep, .int .i64 le, .int .i64 (k : Int), .string vt, .slice none 0 0] 75)).grownBy w10 (some (w.heap.size + 2)) := by rw [hw10]; exact grown_setCells _ _ _ _ _ (World.grownBy.refl _ _)
      have hX10 := hX6.block (hg10.block w3.heap.size (by simp; omega) (by simp; omega))
      refine hOne (by kernel_rfl) (hSkip (i := 6) (w' := w10) (l' := #[true, true, true, true, true, true, true]) rfl (by kernel_rfl) (by kernel_rfl) (by kernel_rfl) (by rw [hw10]; exact run_stT 39 zA [.int .i64 nu, .int .i64 ep, .bool true, .int .i64 2, .int .i64 le, .int .i64 (k : Int), .int .i64 0, .int .i64 0, .slice (some ⟨w8x.heap.size, 0, none⟩) 0 0, .string vt, .int .i64 0, .slice (some ⟨w15.heap.size, 0, none⟩) 1 1] (.tmp 4) (.tmp 85) (by kernel_rfl) (by kernel_rfl) (by kernel_rfl) hR6 rfl Try.sizeAc (one12 _ _ _ _ _ _ _ _ _ _ _ _ _ _ _ _)) hX10 ?_)
      have kk0 : w10.cell? ⟨w.heap.size + 2, 0, none⟩ = some (.int .i64 nu) := (hc10 0 (by simp)).1
      have kk1 : w10.cell? ⟨w.heap.size + 2, 1, none⟩ = some (.int .i64 ep) := (hc10 1 (by simp)).1
      have kk2 : w10.cell? ⟨w.heap.size + 2, 2, none⟩ = some (.bool true) := (hc10 2 (by simp)).1
      have kk3 : w10.cell? ⟨w.heap.size + 2, 3, none⟩ = some (.int .i64 2) := (hc10 3 (by simp)).1
      have kk4 : w10.cell? ⟨w.heap.size + 2, 4, none⟩ = some (.int .i64 le) := (hc10 4 (by simp)).1
      have kk5 : w10.cell? ⟨w.heap.size + 2, 5, none⟩ = some (.int .i64 (k : Int)) := (hc10 5 (by simp)).1
      have kk6 : w10.cell? ⟨w.heap.size + 2, 6, none⟩ = some (.int .i64 0) := (hc10 6 (by simp)).1
      have kk7 : w10.cell? ⟨w.heap.size + 2, 7, none⟩ = some (.int .i64 0) := (hc10 7 (by simp)).1
      have kk8 : w10.cell? ⟨w.heap.size + 2, 8, none⟩ = some (.slice (some ⟨w8x.heap.size, 0, none⟩) 0 0) := (hc10 8 (by simp)).1
      have kk9 : w10.cell? ⟨w.heap.size + 2, 9, none⟩ = some (.string vt) := (hc10 9 (by simp)).1
      have kk10 : w10.cell? ⟨w.heap.size + 2, 10, none⟩ = some (.int .i64 0) := (hc10 10 (by simp)).1
      have kk11 : w10.cell? ⟨w.heap.size + 2, 11, none⟩ = some (.slice (some ⟨w15.heap.size, 0, none⟩) 1 1) := (hc10 11 (by simp)).1
      refine wpAnyH_done (by kernel_rfl) ?_ _
      go_wp2
      refine bodyPost_ret (v := .agg #[.int .i64 nu, .int .i64 ep, .bool true, .int .i64 2, .int .i64 le, .int .i64 (k : Int), .int .i64 0, .int .i64 0, .slice (some ⟨w8x.heap.size, 0, none⟩) 0 0, .string vt, .int .i64 0, .slice (some ⟨w15.heap.size, 0, none⟩) 1 1]) (by simp [results, Try.results19, go_sem, kk0, kk1, kk2, kk3, kk4, kk5, kk6, kk7, kk8, kk9, kk10, kk11]) rfl ⟨⟨⟨nu, ep, true, 2, le, (k : Int), 0, 0, [], vt, 0⟩, some ⟨3, nu, ep, le, (k : Int), vt⟩, some ⟨w8x.heap.size, 0, none⟩, 0, .slice (some ⟨w15.heap.size, 0, none⟩) 1 1, ?_, ?_, ?_, ?_, .inl ⟨HV.out, HCD.out, ?_⟩⟩, ?_⟩
      · exact rfl
      · exact (((ho10.drewW.below hb5 (Nat.le_refl _)).alloc _).grown hg10 (.inr (by intro hh; have : w8x.heap.size = w.heap.size + 2 := Option.some.inj hh; omega))).mono' (by omega)
      · exact hout.grown hg10 (.inr (by intro hh; have : w15.heap.size = w.heap.size + 2 := Option.some.inj hh; omega))
      · exact .inr (fun hh => by have : w8x.heap.size = w15.heap.size := Option.some.inj hh; omega)
      · exact HT.out
      · exact below_grown hB6 hg10 (by omega) (fun q hq => by simp at hq; omega)
  · have hnm0 : nm = ⟨#[]⟩ := by rw [hnm]; exact tnm_none (by rw [hplen.out]; exact hlt)
    subst hnm0
    clear hnm
    by_cases hs : si < 1000000
    · skip
      have hL4 := hL3.block (Below.heap_alloc w3 (.cells #[.int .i64 nu, .int .i64 ep, .bool true, .int .i64 1, .int .i64 le, .int .i64 ta, .int .i64 co, .int .i64 0, .slice a1 n c1, .string x, .int .i64 (si + 1)] 27) _ (by omega))
      have hR4 := hR3.block (Below.heap_alloc w3 (.cells #[.int .i64 nu, .int .i64 ep, .bool true, .int .i64 1, .int .i64 le, .int .i64 ta, .int .i64 co, .int .i64 0, .slice a1 n c1, .string x, .int .i64 (si + 1)] 27) _ (by omega))
      have hB4 := hB3.alloc hB3.size (.cells #[.int .i64 nu, .int .i64 ep, .bool true, .int .i64 1, .int .i64 le, .int .i64 ta, .int .i64 co, .int .i64 0, .slice a1 n c1, .string x, .int .i64 (si + 1)] 27)
      have ho4 := ho3.alloc (.cells #[.int .i64 nu, .int .i64 ep, .bool true, .int .i64 1, .int .i64 le, .int .i64 ta, .int .i64 co, .int .i64 0, .slice a1 n c1, .string x, .int .i64 (si + 1)] 27)
      have hX4 := CF.made w3 #[.int .i64 nu, .int .i64 ep, .bool true, .int .i64 1, .int .i64 le, .int .i64 ta, .int .i64 co, .int .i64 0, .slice a1 n c1, .string x, .int .i64 (si + 1)] 27
      have hz4 : (w3.alloc (.cells #[.int .i64 nu, .int .i64 ep, .bool true, .int .i64 1, .int .i64 le, .int .i64 ta, .int .i64 co, .int .i64 0, .slice a1 n c1, .string x, .int .i64 (si + 1)] 27)).heap.size = w3.heap.size + 1 := by simp
      obtain ⟨W4, hW4⟩ : ∃ W4, W4 = w3.alloc (.cells #[.int .i64 nu, .int .i64 ep, .bool true, .int .i64 1, .int .i64 le, .int .i64 ta, .int .i64 co, .int .i64 0, .slice a1 n c1, .string x, .int .i64 (si + 1)] 27) := ⟨_, rfl⟩
      rw [← hW4] at hL4 hR4 hB4 ho4 hX4 hz4
      have HW4 := hid hW4
      have HZ4 := hid hz4
      clear hz4
      obtain ⟨b1, o1, hS4, _⟩ := ho4.strsB (by exact h.sz)
      clear hW4
      go_wp2_with fail
      rw [← HW4.out]
      refine (specValue_any (⟨#[]⟩ : ByteArray) a1 b1 o1 n c1 ss _ (by omega) hS4 hst).mono ?_
      rintro e w5 ⟨rfl, hb5⟩
      have hR5 := hR4.block (hb5.block (w.heap.size + 2) (by have := HZ4.out; omega))
      have hX5 := hX4.block (hb5.block w3.heap.size (by have := HZ4.out; omega))
      have hB5 := hB4.trans (hb5.mono hB4.size)
      have hz5 : w3.heap.size + 1 ≤ w5.heap.size := by have := hb5.size; have := HZ4.out; omega
      obtain ⟨vt, hvt⟩ : ∃ vt, vt = valS (⟨#[]⟩ : ByteArray) ss := ⟨_, rfl⟩
      rw [← hvt]
      have HVT := hid hvt
      clear hvt hS4 hX4 hR4 hL4 hB4 ho4 hb5 HW4
      clear hs v5 v6
      have zz : w5.cell? ⟨w3.heap.size, 9, none⟩ = some (.string x) := (hX5 9 (by simp)).1
      have ff : w5.frozen? ⟨w3.heap.size, 9, none⟩ = false := (hX5 9 (by simp)).2
      go_upto_region 19 with fail
      clear zz ff
      have hX6 := hX5.set (j := 9) (by simp) (.string vt)
      simp only [List.set_cons_zero, List.set_cons_succ] at hX6
      have hR6 := hR5.block (Below.heap_setCell w5 (⟨w3.heap.size, 9, none⟩ : Addr) (.string vt) (w.heap.size + 2) (by dsimp only; omega))
      have hB6 := hB5.setCell (p := ⟨w3.heap.size, 9, none⟩) (by dsimp only; omega) (.string vt)
      have hz6 : w3.heap.size + 1 ≤ (w5.setCell ⟨w3.heap.size, 9, none⟩ (.string vt)).heap.size := by simpa [World.setCell] using hz5
      obtain ⟨w6x, hw6x⟩ : ∃ w6x, w6x = w5.setCell ⟨w3.heap.size, 9, none⟩ (.string vt) := ⟨_, rfl⟩
      rw [← hw6x] at hX6 hR6 hB6 hz6
      rw [← hw6x]
      clear hw6x hX5 hR5 hB5
      have zz : w6x.cell? ⟨w3.heap.size, 3, none⟩ = some (.int .i64 1) := (hX6 3 (by simp)).1
      have ff : w6x.frozen? ⟨w3.heap.size, 3, none⟩ = false := (hX6 3 (by simp)).2
      go_upto_region 20 with fail
      clear zz ff
      have hX7 := hX6.set (j := 3) (by simp) (.int .i64 2)
      simp only [List.set_cons_zero, List.set_cons_succ] at hX7
      have hR7 := hR6.block (Below.heap_setCell w6x (⟨w3.heap.size, 3, none⟩ : Addr) (.int .i64 2) (w.heap.size + 2) (by dsimp only; omega))
      have hB7 := hB6.setCell (p := ⟨w3.heap.size, 3, none⟩) (by dsimp only; omega) (.int .i64 2)
      have hz7 : w3.heap.size + 1 ≤ (w6x.setCell ⟨w3.heap.size, 3, none⟩ (.int .i64 2)).heap.size := by simpa [World.setCell] using hz6
      obtain ⟨w7x, hw7x⟩ : ∃ w7x, w7x = w6x.setCell ⟨w3.heap.size, 3, none⟩ (.int .i64 2) := ⟨_, rfl⟩
      rw [← hw7x] at hX7 hR7 hB7 hz7
      rw [← hw7x]
      clear hw7x hX6 hR6 hB6
      have zz : w7x.cell? ⟨w3.heap.size, 6, none⟩ = some (.int .i64 co) := (hX7 6 (by simp)).1
      have ff : w7x.frozen? ⟨w3.heap.size, 6, none⟩ = false := (hX7 6 (by simp)).2
      go_upto_region 21 with fail
      clear zz ff
      have hX8 := hX7.set (j := 6) (by simp) (.int .i64 0)
      simp only [List.set_cons_zero, List.set_cons_succ] at hX8
      have hR8 := hR7.block (Below.heap_setCell w7x (⟨w3.heap.size, 6, none⟩ : Addr) (.int .i64 0) (w.heap.size + 2) (by dsimp only; omega))
      have hB8 := hB7.setCell (p := ⟨w3.heap.size, 6, none⟩) (by dsimp only; omega) (.int .i64 0)
      have hz8 : w3.heap.size + 1 ≤ (w7x.setCell ⟨w3.heap.size, 6, none⟩ (.int .i64 0)).heap.size := by simpa [World.setCell] using hz7
      obtain ⟨w8x, hw8x⟩ : ∃ w8x, w8x = w7x.setCell ⟨w3.heap.size, 6, none⟩ (.int .i64 0) := ⟨_, rfl⟩
      rw [← hw8x] at hX8 hR8 hB8 hz8
      rw [← hw8x]
      clear hw8x hX7 hR7 hB7
      have zz : w8x.cell? ⟨w3.heap.size, 8, none⟩ = some (.slice a1 n c1) := (hX8 8 (by simp)).1
      have ff : w8x.frozen? ⟨w3.heap.size, 8, none⟩ = false := (hX8 8 (by simp)).2
      have zza : (w8x.alloc (.cells #[] 9)).cell? ⟨w3.heap.size, 8, none⟩ = some (.slice a1 n c1) := ((hX8.block (Below.heap_alloc w8x (.cells #[] 9) _ (by omega))) 8 (by simp)).1
      have ffa : (w8x.alloc (.cells #[] 9)).frozen? ⟨w3.heap.size, 8, none⟩ = false := ((hX8.block (Below.heap_alloc w8x (.cells #[] 9) _ (by omega))) 8 (by simp)).2
      go_upto_region 28 with fail
      clear zz ff zza ffa
      have hXa := hX8.block (Below.heap_alloc w8x (.cells #[] 9) _ (by omega))
      have hRa := hR8.block (Below.heap_alloc w8x (.cells #[] 9) _ (by omega))
      have hBa := hB8.alloc hB8.size (.cells #[] 9)
      have hza : w8x.heap.size + 1 ≤ (w8x.alloc (.cells #[] 9)).heap.size := by simp
      have hoa : Own w3.heap.size (w8x.alloc (.cells #[] 9)) 1 (.slice (some ⟨w8x.heap.size, 0, none⟩) 0 0) 0 [] := .inr ⟨_, 0, 0, rfl, OwnC.made w8x w3.heap.size 9 1 0 0 _ 0 (by omega) (Nat.le_refl _) (by unfold maxLen; omega) rfl (Nat.le_refl _) _ rfl _ (.inl rfl)⟩
      have ho9 := hoa.grown (gset (World.grownBy.refl (w8x.alloc (.cells #[] 9)) (some w3.heap.size)) 8 (.slice (some ⟨w8x.heap.size, 0, none⟩) 0 0)) (.inr (by intro hh; have : w8x.heap.size = w3.heap.size := Option.some.inj hh; omega))
      have hX9 := hXa.set (j := 8) (by simp) (.slice (some ⟨w8x.heap.size, 0, none⟩) 0 0)
      simp only [List.set_cons_zero, List.set_cons_succ] at hX9
      have hR9 := hRa.block (Below.heap_setCell (w8x.alloc (.cells #[] 9)) (⟨w3.heap.size, 8, none⟩ : Addr) (.slice (some ⟨w8x.heap.size, 0, none⟩) 0 0) (w.heap.size + 2) (by dsimp only; omega))
      have hB9 := hBa.setCell (p := ⟨w3.heap.size, 8, none⟩) (by dsimp only; omega) (.slice (some ⟨w8x.heap.size, 0, none⟩) 0 0)
      have hz9 : w8x.heap.size + 1 ≤ ((w8x.alloc (.cells #[] 9)).setCell ⟨w3.heap.size, 8, none⟩ (.slice (some ⟨w8x.heap.size, 0, none⟩) 0 0)).heap.size := by simp [World.setCell]
      obtain ⟨w9x, hw9x⟩ : ∃ w9x, w9x = (w8x.alloc (.cells #[] 9)).setCell ⟨w3.heap.size, 8, none⟩ (.slice (some ⟨w8x.heap.size, 0, none⟩) 0 0) := ⟨_, rfl⟩
      rw [← hw9x] at hX9 hR9 hB9 hz9 ho9
      rw [← hw9x]
      clear hw9x hX8 hR8 hB8
      have zz : w9x.cell? ⟨w3.heap.size, 10, none⟩ = some (.int .i64 (si + 1)) := (hX9 10 (by simp)).1
      have ff : w9x.frozen? ⟨w3.heap.size, 10, none⟩ = false := (hX9 10 (by simp)).2
      go_upto_region 31 with fail
      clear zz ff
      have hX10 := hX9.set (j := 10) (by simp) (.int .i64 0)
      simp only [List.set_cons_zero, List.set_cons_succ] at hX10
      have hR10 := hR9.block (Below.heap_setCell w9x (⟨w3.heap.size, 10, none⟩ : Addr) (.int .i64 0) (w.heap.size + 2) (by dsimp only; omega))
      have hB10 := hB9.setCell (p := ⟨w3.heap.size, 10, none⟩) (by dsimp only; omega) (.int .i64 0)
      have hz10 : w8x.heap.size + 1 ≤ (w9x.setCell ⟨w3.heap.size, 10, none⟩ (.int .i64 0)).heap.size := by simpa [World.setCell] using hz9
      have ho10 := ho9.grown (gset (World.grownBy.refl w9x (some w3.heap.size)) 10 (.int .i64 0)) (.inr (by intro hh; have : w8x.heap.size = w3.heap.size := Option.some.inj hh; omega))
      obtain ⟨w10x, hw10x⟩ : ∃ w10x, w10x = w9x.setCell ⟨w3.heap.size, 10, none⟩ (.int .i64 0) := ⟨_, rfl⟩
      rw [← hw10x] at hX10 hR10 hB10 hz10 ho10
      rw [← hw10x]
      clear hw10x hX9 hR9 hB9
      have HT : Hid (((⟨nu, ep, true, 2, le, ta, 0, 0, [], vt, 0⟩ : WD), some (⟨3, nu, ep, le, ta, vt⟩ : OM)) = tickV ⟨nu, ep, true, 1, le, ta, co, 1, ss, x, si⟩ (tnm ts ta)) := by rw [HVT.out, HNM.out]; exact (tick_1d _ _ _ _ _ _ _ _ _).symm
      obtain ⟨WX, hWX⟩ : ∃ WX, WX = w10x := ⟨_, rfl⟩
      rw [← hWX] at hX10 hR10 hB10 hz10 ho10 ⊢
      clear hWX
      have hX4 := hX10
      have hR4 := hR10
      have hB4 := hB10
      have hz4 : w3.heap.size < WX.heap.size := by omega
      clear hX10 hR10 hB10
      refine wp_region_held (S := fun w' => CF w' w3.heap.size [.int .i64 nu, .int .i64 ep, .bool true, .int .i64 2, .int .i64 le, .int .i64 ta, .int .i64 0, .int .i64 0, .slice (some ⟨w8x.heap.size, 0, none⟩) 0 0, .string vt, .int .i64 0]) (by kernel_rfl) ?_
      change wpAnyH _ _ _ _ _ _ _ _ (World.drew _)
      have hXd : CF WX.drew w3.heap.size [.int .i64 nu, .int .i64 ep, .bool true, .int .i64 2, .int .i64 le, .int .i64 ta, .int .i64 0, .int .i64 0, .slice (some ⟨w8x.heap.size, 0, none⟩) 0 0, .string vt, .int .i64 0] := hX4
      have hRd : CF WX.drew (w.heap.size + 2) zA := hR4
      have hBd := hB4.drew
      have hzd : w3.heap.size < WX.drew.heap.size := hz4
      refine hTake (i := 0) (d := some 80) (v := .agg #[.int .i64 nu, .int .i64 ep, .bool true, .int .i64 2, .int .i64 le, .int .i64 ta, .int .i64 0, .int .i64 0, .slice (some ⟨w8x.heap.size, 0, none⟩) 0 0, .string vt, .int .i64 0]) (l' := #[true, false, false, false, false, false, false]) rfl (by kernel_rfl) (by kernel_rfl) (by kernel_rfl) (by kernel_rfl) (fun _ _ _ h => h) (by kernel_rfl) (fun _ hc => run_ldT 27 _ [.int .i64 nu, .int .i64 ep, .bool true, .int .i64 2, .int .i64 le, .int .i64 ta, .int .i64 0, .int .i64 0, .slice (some ⟨w8x.heap.size, 0, none⟩) 0 0, .string vt, .int .i64 0] (.tmp 5) (by kernel_rfl) (by kernel_rfl) hc Try.underlying27 rfl Try.sizeWk) hXd (by kernel_rfl) ?_
      refine hTake (i := 1) (d := some 81) (v := .agg #[.int .i64 nu, .int .i64 ep, .bool true, .int .i64 2, .int .i64 le, .int .i64 ta, .int .i64 0, .int .i64 0, .slice (some ⟨w8x.heap.size, 0, none⟩) 0 0, .string vt, .int .i64 0]) (l' := #[true, true, false, false, false, false, false]) rfl (by kernel_rfl) (by kernel_rfl) (by kernel_rfl) (by kernel_rfl) (fun _ _ _ h => h) (by kernel_rfl) (fun _ hc => run_ldT 27 _ [.int .i64 nu, .int .i64 ep, .bool true, .int .i64 2, .int .i64 le, .int .i64 ta, .int .i64 0, .int .i64 0, .slice (some ⟨w8x.heap.size, 0, none⟩) 0 0, .string vt, .int .i64 0] (.tmp 5) (by kernel_rfl) (by kernel_rfl) hc Try.underlying27 rfl Try.sizeWk) hXd (by kernel_rfl) ?_
      refine hTake (i := 2) (d := some 82) (v := .int .i64 3) (l' := #[true, true, true, false, false, false, false]) rfl (by kernel_rfl) (by kernel_rfl) (by kernel_rfl) (by kernel_rfl) (fun _ _ _ h => h) (by kernel_rfl) (fun _ _ => run_mvT (.tmp 6) (by kernel_rfl) (by kernel_rfl)) hXd (by kernel_rfl) ?_
      refine hOne (by kernel_rfl) (hCall (i := 3) (d := some 83) (f := 48) (args := #[.agg #[.int .i64 nu, .int .i64 ep, .bool true, .int .i64 2, .int .i64 le, .int .i64 ta, .int .i64 0, .int .i64 0, .slice (some ⟨w8x.heap.size, 0, none⟩) 0 0, .string vt, .int .i64 0], .int .i64 3]) (l' := #[true, true, true, true, false, false, false]) (R := fun v w' => v = .agg #[.int .i64 3, .int .i64 nu, .int .i64 0, .int .i64 ep, .int .i64 le, .int .i64 ta, .string vt, .slice none 0 0] ∧ Below WX.drew.heap.size WX.drew w') rfl (by kernel_rfl) (by kernel_rfl) (by kernel_rfl) (run_cl2 _ _ _ rfl (by kernel_rfl) (by kernel_rfl) rfl enter_l3Says) ((l3Says_3 nu ep true 2 le ta 0 0 (some ⟨w8x.heap.size, 0, none⟩) 0 0 vt 0 _).mono fun _ _ ⟨he, hw⟩ => ⟨_, he, rfl, hw⟩) ?_)
      rintro _ w15 ⟨rfl, hb5⟩
      have hX5 := hXd.block (hb5.block _ hzd)
      have hR5 := hRd.block (hb5.block (w.heap.size + 2) (by omega))
      have hB5 := hBd.trans (hb5.mono hBd.size)
      have hz5 : w3.heap.size < w15.heap.size := by have := hb5.size; omega
      have hz5' : WX.heap.size ≤ w15.heap.size := hb5.size
      refine ⟨hX5, ?_⟩
      have hX6 := hX5.block (Below.heap_alloc w15 (.cells #[.int .i64 3, .int .i64 nu, .int .i64 0, .int .i64 ep, .int .i64 le, .int .i64 ta, .string vt, .slice none 0 0] 75) _ hz5)
      have hR6 := hR5.block (Below.heap_alloc w15 (.cells #[.int .i64 3, .int .i64 nu, .int .i64 0, .int .i64 ep, .int .i64 le, .int .i64 ta, .string vt, .slice none 0 0] 75) _ (by omega))
      have hB6 := hB5.alloc hB5.size (.cells #[.int .i64 3, .int .i64 nu, .int .i64 0, .int .i64 ep, .int .i64 le, .int .i64 ta, .string vt, .slice none 0 0] 75)
      have hout : Own w.heap.size (w15.alloc (.cells #[.int .i64 3, .int .i64 nu, .int .i64 0, .int .i64 ep, .int .i64 le, .int .i64 ta, .string vt, .slice none 0 0] 75)) 8 (.slice (some ⟨w15.heap.size, 0, none⟩) 1 1) 1 [.int .i64 3, .int .i64 nu, .int .i64 0, .int .i64 ep, .int .i64 le, .int .i64 ta, .string vt, .slice none 0 0] := outOwn w15 w.heap.size ⟨3, nu, ep, le, ta, vt⟩ (by omega)
      have hz6 : w.heap.size + 2 < (w15.alloc (.cells #[.int .i64 3, .int .i64 nu, .int .i64 0, .int .i64 ep, .int .i64 le, .int .i64 ta, .string vt, .slice none 0 0] 75)).heap.size := by simp; omega
      refine hOne (by kernel_rfl) (hVal (i := 4) (d := some 84) (v := .slice (some ⟨w15.heap.size, 0, none⟩) 1 1) (w' := w15.alloc (.cells #[.int .i64 3, .int .i64 nu, .int .i64 0, .int .i64 ep, .int .i64 le, .int .i64 ta, .string vt, .slice none 0 0] 75)) (l' := #[true, true, true, true, true, false, false]) rfl (by kernel_rfl) (by kernel_rfl) (by kernel_rfl) (run_bs1 (.tmp 83) 3 nu 0 ep le ta vt (by kernel_rfl) (by kernel_rfl)) hX6 ?_)
      refine hTake (i := 5) (d := some 85) (v := .agg #[.int .i64 nu, .int .i64 ep, .bool true, .int .i64 2, .int .i64 le, .int .i64 ta, .int .i64 0, .int .i64 0, .slice (some ⟨w8x.heap.size, 0, none⟩) 0 0, .string vt, .int .i64 0, .slice (some ⟨w15.heap.size, 0, none⟩) 1 1]) (l' := #[true, true, true, true, true, true, false]) rfl (by kernel_rfl) (by kernel_rfl) (by kernel_rfl) (by kernel_rfl) (fun _ _ _ h => h) (by kernel_rfl) (fun _ _ => run_bd (.tmp 80) (.tmp 84) nu ep true 2 le ta 0 0 (some ⟨w8x.heap.size, 0, none⟩) 0 0 vt 0 (some ⟨w15.heap.size, 0, none⟩) 1 1 (by kernel_rfl) (by kernel_rfl) (by kernel_rfl)) hX6 (by kernel_rfl) ?_
      obtain ⟨w10, hw10⟩ : ∃ w10, w10 = (w15.alloc (.cells #[.int .i64 3, .int .i64 nu, .int .i64 0, .int .i64 ep, .int .i64 le, .int .i64 ta, .string vt, .slice none 0 0] 75)).setCells (w.heap.size + 2) 0 [.int .i64 nu, .int .i64 ep, .bool true, .int .i64 2, .int .i64 le, .int .i64 ta, .int .i64 0, .int .i64 0, .slice (some ⟨w8x.heap.size, 0, none⟩) 0 0, .string vt, .int .i64 0, .slice (some ⟨w15.heap.size, 0, none⟩) 1 1] := ⟨_, rfl⟩
      have hc10 : CF w10 (w.heap.size + 2) [.int .i64 nu, .int .i64 ep, .bool true, .int .i64 2, .int .i64 le, .int .i64 ta, .int .i64 0, .int .i64 0, .slice (some ⟨w8x.heap.size, 0, none⟩) 0 0, .string vt, .int .i64 0, .slice (some ⟨w15.heap.size, 0, none⟩) 1 1] := by rw [hw10]; exact hR6.stored rfl
      have hg10 : (w15.alloc (.cells #[.int .i64 3, .int .i64 nu, .int .i64 0, .int .i64 ep, .int .i64 le, .int .i64 ta, .string vt, .slice none 0 0] 75)).grownBy w10 (some (w.heap.size + 2)) := by rw [hw10]; exact grown_setCells _ _ _ _ _ (World.grownBy.refl _ _)
      have hX10 := hX6.block (hg10.block w3.heap.size (by simp; omega) (by simp; omega))
      refine hOne (by kernel_rfl) (hSkip (i := 6) (w' := w10) (l' := #[true, true, true, true, true, true, true]) rfl (by kernel_rfl) (by kernel_rfl) (by kernel_rfl) (by rw [hw10]; exact run_stT 39 zA [.int .i64 nu, .int .i64 ep, .bool true, .int .i64 2, .int .i64 le, .int .i64 ta, .int .i64 0, .int .i64 0, .slice (some ⟨w8x.heap.size, 0, none⟩) 0 0, .string vt, .int .i64 0, .slice (some ⟨w15.heap.size, 0, none⟩) 1 1] (.tmp 4) (.tmp 85) (by kernel_rfl) (by kernel_rfl) (by kernel_rfl) hR6 rfl Try.sizeAc (one12 _ _ _ _ _ _ _ _ _ _ _ _ _ _ _ _)) hX10 ?_)
      have kk0 : w10.cell? ⟨w.heap.size + 2, 0, none⟩ = some (.int .i64 nu) := (hc10 0 (by simp)).1
      have kk1 : w10.cell? ⟨w.heap.size + 2, 1, none⟩ = some (.int .i64 ep) := (hc10 1 (by simp)).1
      have kk2 : w10.cell? ⟨w.heap.size + 2, 2, none⟩ = some (.bool true) := (hc10 2 (by simp)).1
      have kk3 : w10.cell? ⟨w.heap.size + 2, 3, none⟩ = some (.int .i64 2) := (hc10 3 (by simp)).1
      have kk4 : w10.cell? ⟨w.heap.size + 2, 4, none⟩ = some (.int .i64 le) := (hc10 4 (by simp)).1
      have kk5 : w10.cell? ⟨w.heap.size + 2, 5, none⟩ = some (.int .i64 ta) := (hc10 5 (by simp)).1
      have kk6 : w10.cell? ⟨w.heap.size + 2, 6, none⟩ = some (.int .i64 0) := (hc10 6 (by simp)).1
      have kk7 : w10.cell? ⟨w.heap.size + 2, 7, none⟩ = some (.int .i64 0) := (hc10 7 (by simp)).1
      have kk8 : w10.cell? ⟨w.heap.size + 2, 8, none⟩ = some (.slice (some ⟨w8x.heap.size, 0, none⟩) 0 0) := (hc10 8 (by simp)).1
      have kk9 : w10.cell? ⟨w.heap.size + 2, 9, none⟩ = some (.string vt) := (hc10 9 (by simp)).1
      have kk10 : w10.cell? ⟨w.heap.size + 2, 10, none⟩ = some (.int .i64 0) := (hc10 10 (by simp)).1
      have kk11 : w10.cell? ⟨w.heap.size + 2, 11, none⟩ = some (.slice (some ⟨w15.heap.size, 0, none⟩) 1 1) := (hc10 11 (by simp)).1
      refine wpAnyH_done (by kernel_rfl) ?_ _
      go_wp2
      refine bodyPost_ret (v := .agg #[.int .i64 nu, .int .i64 ep, .bool true, .int .i64 2, .int .i64 le, .int .i64 ta, .int .i64 0, .int .i64 0, .slice (some ⟨w8x.heap.size, 0, none⟩) 0 0, .string vt, .int .i64 0, .slice (some ⟨w15.heap.size, 0, none⟩) 1 1]) (by simp [results, Try.results19, go_sem, kk0, kk1, kk2, kk3, kk4, kk5, kk6, kk7, kk8, kk9, kk10, kk11]) rfl ⟨⟨⟨nu, ep, true, 2, le, ta, 0, 0, [], vt, 0⟩, some ⟨3, nu, ep, le, ta, vt⟩, some ⟨w8x.heap.size, 0, none⟩, 0, .slice (some ⟨w15.heap.size, 0, none⟩) 1 1, ?_, ?_, ?_, ?_, .inl ⟨HV.out, HCD.out, ?_⟩⟩, ?_⟩
      · exact rfl
      · exact (((ho10.drewW.below hb5 (Nat.le_refl _)).alloc _).grown hg10 (.inr (by intro hh; have : w8x.heap.size = w.heap.size + 2 := Option.some.inj hh; omega))).mono' (by omega)
      · exact hout.grown hg10 (.inr (by intro hh; have : w15.heap.size = w.heap.size + 2 := Option.some.inj hh; omega))
      · exact .inr (fun hh => by have : w8x.heap.size = w15.heap.size := Option.some.inj hh; omega)
      · exact HT.out
      · exact below_grown hB6 hg10 (by omega) (fun q hq => by simp at hq; omega)
    · skip
      have hL4 := hL3.block (Below.heap_alloc w3 (.cells #[.int .i64 nu, .int .i64 ep, .bool true, .int .i64 1, .int .i64 le, .int .i64 ta, .int .i64 co, .int .i64 0, .slice a1 n c1, .string x, .int .i64 si] 27) _ (by omega))
      have hR4 := hR3.block (Below.heap_alloc w3 (.cells #[.int .i64 nu, .int .i64 ep, .bool true, .int .i64 1, .int .i64 le, .int .i64 ta, .int .i64 co, .int .i64 0, .slice a1 n c1, .string x, .int .i64 si] 27) _ (by omega))
      have hB4 := hB3.alloc hB3.size (.cells #[.int .i64 nu, .int .i64 ep, .bool true, .int .i64 1, .int .i64 le, .int .i64 ta, .int .i64 co, .int .i64 0, .slice a1 n c1, .string x, .int .i64 si] 27)
      have ho4 := ho3.alloc (.cells #[.int .i64 nu, .int .i64 ep, .bool true, .int .i64 1, .int .i64 le, .int .i64 ta, .int .i64 co, .int .i64 0, .slice a1 n c1, .string x, .int .i64 si] 27)
      have hX4 := CF.made w3 #[.int .i64 nu, .int .i64 ep, .bool true, .int .i64 1, .int .i64 le, .int .i64 ta, .int .i64 co, .int .i64 0, .slice a1 n c1, .string x, .int .i64 si] 27
      have hz4 : (w3.alloc (.cells #[.int .i64 nu, .int .i64 ep, .bool true, .int .i64 1, .int .i64 le, .int .i64 ta, .int .i64 co, .int .i64 0, .slice a1 n c1, .string x, .int .i64 si] 27)).heap.size = w3.heap.size + 1 := by simp
      obtain ⟨W4, hW4⟩ : ∃ W4, W4 = w3.alloc (.cells #[.int .i64 nu, .int .i64 ep, .bool true, .int .i64 1, .int .i64 le, .int .i64 ta, .int .i64 co, .int .i64 0, .slice a1 n c1, .string x, .int .i64 si] 27) := ⟨_, rfl⟩
      rw [← hW4] at hL4 hR4 hB4 ho4 hX4 hz4
      have HW4 := hid hW4
      have HZ4 := hid hz4
      clear hz4
      obtain ⟨b1, o1, hS4, _⟩ := ho4.strsB (by exact h.sz)
      clear hW4
      go_wp2_with fail
      rw [← HW4.out]
      refine (specValue_any (⟨#[]⟩ : ByteArray) a1 b1 o1 n c1 ss _ (by omega) hS4 hst).mono ?_
      rintro e w5 ⟨rfl, hb5⟩
      have hR5 := hR4.block (hb5.block (w.heap.size + 2) (by have := HZ4.out; omega))
      have hX5 := hX4.block (hb5.block w3.heap.size (by have := HZ4.out; omega))
      have hB5 := hB4.trans (hb5.mono hB4.size)
      have hz5 : w3.heap.size + 1 ≤ w5.heap.size := by have := hb5.size; have := HZ4.out; omega
      obtain ⟨vt, hvt⟩ : ∃ vt, vt = valS (⟨#[]⟩ : ByteArray) ss := ⟨_, rfl⟩
      rw [← hvt]
      have HVT := hid hvt
      clear hvt hS4 hX4 hR4 hL4 hB4 ho4 hb5 HW4
      clear hs v5 v6
      have zz : w5.cell? ⟨w3.heap.size, 9, none⟩ = some (.string x) := (hX5 9 (by simp)).1
      have ff : w5.frozen? ⟨w3.heap.size, 9, none⟩ = false := (hX5 9 (by simp)).2
      go_upto_region 19 with fail
      clear zz ff
      have hX6 := hX5.set (j := 9) (by simp) (.string vt)
      simp only [List.set_cons_zero, List.set_cons_succ] at hX6
      have hR6 := hR5.block (Below.heap_setCell w5 (⟨w3.heap.size, 9, none⟩ : Addr) (.string vt) (w.heap.size + 2) (by dsimp only; omega))
      have hB6 := hB5.setCell (p := ⟨w3.heap.size, 9, none⟩) (by dsimp only; omega) (.string vt)
      have hz6 : w3.heap.size + 1 ≤ (w5.setCell ⟨w3.heap.size, 9, none⟩ (.string vt)).heap.size := by simpa [World.setCell] using hz5
      obtain ⟨w6x, hw6x⟩ : ∃ w6x, w6x = w5.setCell ⟨w3.heap.size, 9, none⟩ (.string vt) := ⟨_, rfl⟩
      rw [← hw6x] at hX6 hR6 hB6 hz6
      rw [← hw6x]
      clear hw6x hX5 hR5 hB5
      have zz : w6x.cell? ⟨w3.heap.size, 3, none⟩ = some (.int .i64 1) := (hX6 3 (by simp)).1
      have ff : w6x.frozen? ⟨w3.heap.size, 3, none⟩ = false := (hX6 3 (by simp)).2
      go_upto_region 20 with fail
      clear zz ff
      have hX7 := hX6.set (j := 3) (by simp) (.int .i64 2)
      simp only [List.set_cons_zero, List.set_cons_succ] at hX7
      have hR7 := hR6.block (Below.heap_setCell w6x (⟨w3.heap.size, 3, none⟩ : Addr) (.int .i64 2) (w.heap.size + 2) (by dsimp only; omega))
      have hB7 := hB6.setCell (p := ⟨w3.heap.size, 3, none⟩) (by dsimp only; omega) (.int .i64 2)
      have hz7 : w3.heap.size + 1 ≤ (w6x.setCell ⟨w3.heap.size, 3, none⟩ (.int .i64 2)).heap.size := by simpa [World.setCell] using hz6
      obtain ⟨w7x, hw7x⟩ : ∃ w7x, w7x = w6x.setCell ⟨w3.heap.size, 3, none⟩ (.int .i64 2) := ⟨_, rfl⟩
      rw [← hw7x] at hX7 hR7 hB7 hz7
      rw [← hw7x]
      clear hw7x hX6 hR6 hB6
      have zz : w7x.cell? ⟨w3.heap.size, 6, none⟩ = some (.int .i64 co) := (hX7 6 (by simp)).1
      have ff : w7x.frozen? ⟨w3.heap.size, 6, none⟩ = false := (hX7 6 (by simp)).2
      go_upto_region 21 with fail
      clear zz ff
      have hX8 := hX7.set (j := 6) (by simp) (.int .i64 0)
      simp only [List.set_cons_zero, List.set_cons_succ] at hX8
      have hR8 := hR7.block (Below.heap_setCell w7x (⟨w3.heap.size, 6, none⟩ : Addr) (.int .i64 0) (w.heap.size + 2) (by dsimp only; omega))
      have hB8 := hB7.setCell (p := ⟨w3.heap.size, 6, none⟩) (by dsimp only; omega) (.int .i64 0)
      have hz8 : w3.heap.size + 1 ≤ (w7x.setCell ⟨w3.heap.size, 6, none⟩ (.int .i64 0)).heap.size := by simpa [World.setCell] using hz7
      obtain ⟨w8x, hw8x⟩ : ∃ w8x, w8x = w7x.setCell ⟨w3.heap.size, 6, none⟩ (.int .i64 0) := ⟨_, rfl⟩
      rw [← hw8x] at hX8 hR8 hB8 hz8
      rw [← hw8x]
      clear hw8x hX7 hR7 hB7
      have zz : w8x.cell? ⟨w3.heap.size, 8, none⟩ = some (.slice a1 n c1) := (hX8 8 (by simp)).1
      have ff : w8x.frozen? ⟨w3.heap.size, 8, none⟩ = false := (hX8 8 (by simp)).2
      have zza : (w8x.alloc (.cells #[] 9)).cell? ⟨w3.heap.size, 8, none⟩ = some (.slice a1 n c1) := ((hX8.block (Below.heap_alloc w8x (.cells #[] 9) _ (by omega))) 8 (by simp)).1
      have ffa : (w8x.alloc (.cells #[] 9)).frozen? ⟨w3.heap.size, 8, none⟩ = false := ((hX8.block (Below.heap_alloc w8x (.cells #[] 9) _ (by omega))) 8 (by simp)).2
      go_upto_region 28 with fail
      clear zz ff zza ffa
      have hXa := hX8.block (Below.heap_alloc w8x (.cells #[] 9) _ (by omega))
      have hRa := hR8.block (Below.heap_alloc w8x (.cells #[] 9) _ (by omega))
      have hBa := hB8.alloc hB8.size (.cells #[] 9)
      have hza : w8x.heap.size + 1 ≤ (w8x.alloc (.cells #[] 9)).heap.size := by simp
      have hoa : Own w3.heap.size (w8x.alloc (.cells #[] 9)) 1 (.slice (some ⟨w8x.heap.size, 0, none⟩) 0 0) 0 [] := .inr ⟨_, 0, 0, rfl, OwnC.made w8x w3.heap.size 9 1 0 0 _ 0 (by omega) (Nat.le_refl _) (by unfold maxLen; omega) rfl (Nat.le_refl _) _ rfl _ (.inl rfl)⟩
      have ho9 := hoa.grown (gset (World.grownBy.refl (w8x.alloc (.cells #[] 9)) (some w3.heap.size)) 8 (.slice (some ⟨w8x.heap.size, 0, none⟩) 0 0)) (.inr (by intro hh; have : w8x.heap.size = w3.heap.size := Option.some.inj hh; omega))
      have hX9 := hXa.set (j := 8) (by simp) (.slice (some ⟨w8x.heap.size, 0, none⟩) 0 0)
      simp only [List.set_cons_zero, List.set_cons_succ] at hX9
      have hR9 := hRa.block (Below.heap_setCell (w8x.alloc (.cells #[] 9)) (⟨w3.heap.size, 8, none⟩ : Addr) (.slice (some ⟨w8x.heap.size, 0, none⟩) 0 0) (w.heap.size + 2) (by dsimp only; omega))
      have hB9 := hBa.setCell (p := ⟨w3.heap.size, 8, none⟩) (by dsimp only; omega) (.slice (some ⟨w8x.heap.size, 0, none⟩) 0 0)
      have hz9 : w8x.heap.size + 1 ≤ ((w8x.alloc (.cells #[] 9)).setCell ⟨w3.heap.size, 8, none⟩ (.slice (some ⟨w8x.heap.size, 0, none⟩) 0 0)).heap.size := by simp [World.setCell]
      obtain ⟨w9x, hw9x⟩ : ∃ w9x, w9x = (w8x.alloc (.cells #[] 9)).setCell ⟨w3.heap.size, 8, none⟩ (.slice (some ⟨w8x.heap.size, 0, none⟩) 0 0) := ⟨_, rfl⟩
      rw [← hw9x] at hX9 hR9 hB9 hz9 ho9
      rw [← hw9x]
      clear hw9x hX8 hR8 hB8
      have zz : w9x.cell? ⟨w3.heap.size, 10, none⟩ = some (.int .i64 si) := (hX9 10 (by simp)).1
      have ff : w9x.frozen? ⟨w3.heap.size, 10, none⟩ = false := (hX9 10 (by simp)).2
      go_upto_region 31 with fail
      clear zz ff
      have hX10 := hX9.set (j := 10) (by simp) (.int .i64 0)
      simp only [List.set_cons_zero, List.set_cons_succ] at hX10
      have hR10 := hR9.block (Below.heap_setCell w9x (⟨w3.heap.size, 10, none⟩ : Addr) (.int .i64 0) (w.heap.size + 2) (by dsimp only; omega))
      have hB10 := hB9.setCell (p := ⟨w3.heap.size, 10, none⟩) (by dsimp only; omega) (.int .i64 0)
      have hz10 : w8x.heap.size + 1 ≤ (w9x.setCell ⟨w3.heap.size, 10, none⟩ (.int .i64 0)).heap.size := by simpa [World.setCell] using hz9
      have ho10 := ho9.grown (gset (World.grownBy.refl w9x (some w3.heap.size)) 10 (.int .i64 0)) (.inr (by intro hh; have : w8x.heap.size = w3.heap.size := Option.some.inj hh; omega))
      obtain ⟨w10x, hw10x⟩ : ∃ w10x, w10x = w9x.setCell ⟨w3.heap.size, 10, none⟩ (.int .i64 0) := ⟨_, rfl⟩
      rw [← hw10x] at hX10 hR10 hB10 hz10 ho10
      rw [← hw10x]
      clear hw10x hX9 hR9 hB9
      have HT : Hid (((⟨nu, ep, true, 2, le, ta, 0, 0, [], vt, 0⟩ : WD), some (⟨3, nu, ep, le, ta, vt⟩ : OM)) = tickV ⟨nu, ep, true, 1, le, ta, co, 1, ss, x, si⟩ (tnm ts ta)) := by rw [HVT.out, HNM.out]; exact (tick_1d _ _ _ _ _ _ _ _ _).symm
      obtain ⟨WX, hWX⟩ : ∃ WX, WX = w10x := ⟨_, rfl⟩
      rw [← hWX] at hX10 hR10 hB10 hz10 ho10 ⊢
      clear hWX
      have hX4 := hX10
      have hR4 := hR10
      have hB4 := hB10
      have hz4 : w3.heap.size < WX.heap.size := by omega
      clear hX10 hR10 hB10
      refine wp_region_held (S := fun w' => CF w' w3.heap.size [.int .i64 nu, .int .i64 ep, .bool true, .int .i64 2, .int .i64 le, .int .i64 ta, .int .i64 0, .int .i64 0, .slice (some ⟨w8x.heap.size, 0, none⟩) 0 0, .string vt, .int .i64 0]) (by kernel_rfl) ?_
      change wpAnyH _ _ _ _ _ _ _ _ (World.drew _)
      have hXd : CF WX.drew w3.heap.size [.int .i64 nu, .int .i64 ep, .bool true, .int .i64 2, .int .i64 le, .int .i64 ta, .int .i64 0, .int .i64 0, .slice (some ⟨w8x.heap.size, 0, none⟩) 0 0, .string vt, .int .i64 0] := hX4
      have hRd : CF WX.drew (w.heap.size + 2) zA := hR4
      have hBd := hB4.drew
      have hzd : w3.heap.size < WX.drew.heap.size := hz4
      refine hTake (i := 0) (d := some 80) (v := .agg #[.int .i64 nu, .int .i64 ep, .bool true, .int .i64 2, .int .i64 le, .int .i64 ta, .int .i64 0, .int .i64 0, .slice (some ⟨w8x.heap.size, 0, none⟩) 0 0, .string vt, .int .i64 0]) (l' := #[true, false, false, false, false, false, false]) rfl (by kernel_rfl) (by kernel_rfl) (by kernel_rfl) (by kernel_rfl) (fun _ _ _ h => h) (by kernel_rfl) (fun _ hc => run_ldT 27 _ [.int .i64 nu, .int .i64 ep, .bool true, .int .i64 2, .int .i64 le, .int .i64 ta, .int .i64 0, .int .i64 0, .slice (some ⟨w8x.heap.size, 0, none⟩) 0 0, .string vt, .int .i64 0] (.tmp 5) (by kernel_rfl) (by kernel_rfl) hc Try.underlying27 rfl Try.sizeWk) hXd (by kernel_rfl) ?_
      refine hTake (i := 1) (d := some 81) (v := .agg #[.int .i64 nu, .int .i64 ep, .bool true, .int .i64 2, .int .i64 le, .int .i64 ta, .int .i64 0, .int .i64 0, .slice (some ⟨w8x.heap.size, 0, none⟩) 0 0, .string vt, .int .i64 0]) (l' := #[true, true, false, false, false, false, false]) rfl (by kernel_rfl) (by kernel_rfl) (by kernel_rfl) (by kernel_rfl) (fun _ _ _ h => h) (by kernel_rfl) (fun _ hc => run_ldT 27 _ [.int .i64 nu, .int .i64 ep, .bool true, .int .i64 2, .int .i64 le, .int .i64 ta, .int .i64 0, .int .i64 0, .slice (some ⟨w8x.heap.size, 0, none⟩) 0 0, .string vt, .int .i64 0] (.tmp 5) (by kernel_rfl) (by kernel_rfl) hc Try.underlying27 rfl Try.sizeWk) hXd (by kernel_rfl) ?_
      refine hTake (i := 2) (d := some 82) (v := .int .i64 3) (l' := #[true, true, true, false, false, false, false]) rfl (by kernel_rfl) (by kernel_rfl) (by kernel_rfl) (by kernel_rfl) (fun _ _ _ h => h) (by kernel_rfl) (fun _ _ => run_mvT (.tmp 6) (by kernel_rfl) (by kernel_rfl)) hXd (by kernel_rfl) ?_
      refine hOne (by kernel_rfl) (hCall (i := 3) (d := some 83) (f := 48) (args := #[.agg #[.int .i64 nu, .int .i64 ep, .bool true, .int .i64 2, .int .i64 le, .int .i64 ta, .int .i64 0, .int .i64 0, .slice (some ⟨w8x.heap.size, 0, none⟩) 0 0, .string vt, .int .i64 0], .int .i64 3]) (l' := #[true, true, true, true, false, false, false]) (R := fun v w' => v = .agg #[.int .i64 3, .int .i64 nu, .int .i64 0, .int .i64 ep, .int .i64 le, .int .i64 ta, .string vt, .slice none 0 0] ∧ Below WX.drew.heap.size WX.drew w') rfl (by kernel_rfl) (by kernel_rfl) (by kernel_rfl) (run_cl2 _ _ _ rfl (by kernel_rfl) (by kernel_rfl) rfl enter_l3Says) ((l3Says_3 nu ep true 2 le ta 0 0 (some ⟨w8x.heap.size, 0, none⟩) 0 0 vt 0 _).mono fun _ _ ⟨he, hw⟩ => ⟨_, he, rfl, hw⟩) ?_)
      rintro _ w15 ⟨rfl, hb5⟩
      have hX5 := hXd.block (hb5.block _ hzd)
      have hR5 := hRd.block (hb5.block (w.heap.size + 2) (by omega))
      have hB5 := hBd.trans (hb5.mono hBd.size)
      have hz5 : w3.heap.size < w15.heap.size := by have := hb5.size; omega
      have hz5' : WX.heap.size ≤ w15.heap.size := hb5.size
      refine ⟨hX5, ?_⟩
      have hX6 := hX5.block (Below.heap_alloc w15 (.cells #[.int .i64 3, .int .i64 nu, .int .i64 0, .int .i64 ep, .int .i64 le, .int .i64 ta, .string vt, .slice none 0 0] 75) _ hz5)
      have hR6 := hR5.block (Below.heap_alloc w15 (.cells #[.int .i64 3, .int .i64 nu, .int .i64 0, .int .i64 ep, .int .i64 le, .int .i64 ta, .string vt, .slice none 0 0] 75) _ (by omega))
      have hB6 := hB5.alloc hB5.size (.cells #[.int .i64 3, .int .i64 nu, .int .i64 0, .int .i64 ep, .int .i64 le, .int .i64 ta, .string vt, .slice none 0 0] 75)
      have hout : Own w.heap.size (w15.alloc (.cells #[.int .i64 3, .int .i64 nu, .int .i64 0, .int .i64 ep, .int .i64 le, .int .i64 ta, .string vt, .slice none 0 0] 75)) 8 (.slice (some ⟨w15.heap.size, 0, none⟩) 1 1) 1 [.int .i64 3, .int .i64 nu, .int .i64 0, .int .i64 ep, .int .i64 le, .int .i64 ta, .string vt, .slice none 0 0] := outOwn w15 w.heap.size ⟨3, nu, ep, le, ta, vt⟩ (by omega)
      have hz6 : w.heap.size + 2 < (w15.alloc (.cells #[.int .i64 3, .int .i64 nu, .int .i64 0, .int .i64 ep, .int .i64 le, .int .i64 ta, .string vt, .slice none 0 0] 75)).heap.size := by simp; omega
      refine hOne (by kernel_rfl) (hVal (i := 4) (d := some 84) (v := .slice (some ⟨w15.heap.size, 0, none⟩) 1 1) (w' := w15.alloc (.cells #[.int .i64 3, .int .i64 nu, .int .i64 0, .int .i64 ep, .int .i64 le, .int .i64 ta, .string vt, .slice none 0 0] 75)) (l' := #[true, true, true, true, true, false, false]) rfl (by kernel_rfl) (by kernel_rfl) (by kernel_rfl) (run_bs1 (.tmp 83) 3 nu 0 ep le ta vt (by kernel_rfl) (by kernel_rfl)) hX6 ?_)
      refine hTake (i := 5) (d := some 85) (v := .agg #[.int .i64 nu, .int .i64 ep, .bool true, .int .i64 2, .int .i64 le, .int .i64 ta, .int .i64 0, .int .i64 0, .slice (some ⟨w8x.heap.size, 0, none⟩) 0 0, .string vt, .int .i64 0, .slice (some ⟨w15.heap.size, 0, none⟩) 1 1]) (l' := #[true, true, true, true, true, true, false]) rfl (by kernel_rfl) (by kernel_rfl) (by kernel_rfl) (by kernel_rfl) (fun _ _ _ h => h) (by kernel_rfl) (fun _ _ => run_bd (.tmp 80) (.tmp 84) nu ep true 2 le ta 0 0 (some ⟨w8x.heap.size, 0, none⟩) 0 0 vt 0 (some ⟨w15.heap.size, 0, none⟩) 1 1 (by kernel_rfl) (by kernel_rfl) (by kernel_rfl)) hX6 (by kernel_rfl) ?_
      obtain ⟨w10, hw10⟩ : ∃ w10, w10 = (w15.alloc (.cells #[.int .i64 3, .int .i64 nu, .int .i64 0, .int .i64 ep, .int .i64 le, .int .i64 ta, .string vt, .slice none 0 0] 75)).setCells (w.heap.size + 2) 0 [.int .i64 nu, .int .i64 ep, .bool true, .int .i64 2, .int .i64 le, .int .i64 ta, .int .i64 0, .int .i64 0, .slice (some ⟨w8x.heap.size, 0, none⟩) 0 0, .string vt, .int .i64 0, .slice (some ⟨w15.heap.size, 0, none⟩) 1 1] := ⟨_, rfl⟩
      have hc10 : CF w10 (w.heap.size + 2) [.int .i64 nu, .int .i64 ep, .bool true, .int .i64 2, .int .i64 le, .int .i64 ta, .int .i64 0, .int .i64 0, .slice (some ⟨w8x.heap.size, 0, none⟩) 0 0, .string vt, .int .i64 0, .slice (some ⟨w15.heap.size, 0, none⟩) 1 1] := by rw [hw10]; exact hR6.stored rfl
      have hg10 : (w15.alloc (.cells #[.int .i64 3, .int .i64 nu, .int .i64 0, .int .i64 ep, .int .i64 le, .int .i64 ta, .string vt, .slice none 0 0] 75)).grownBy w10 (some (w.heap.size + 2)) := by rw [hw10]; exact grown_setCells _ _ _ _ _ (World.grownBy.refl _ _)
      have hX10 := hX6.block (hg10.block w3.heap.size (by simp; omega) (by simp; omega))
      refine hOne (by kernel_rfl) (hSkip (i := 6) (w' := w10) (l' := #[true, true, true, true, true, true, true]) rfl (by kernel_rfl) (by kernel_rfl) (by kernel_rfl) (by rw [hw10]; exact run_stT 39 zA [.int .i64 nu, .int .i64 ep, .bool true, .int .i64 2, .int .i64 le, .int .i64 ta, .int .i64 0, .int .i64 0, .slice (some ⟨w8x.heap.size, 0, none⟩) 0 0, .string vt, .int .i64 0, .slice (some ⟨w15.heap.size, 0, none⟩) 1 1] (.tmp 4) (.tmp 85) (by kernel_rfl) (by kernel_rfl) (by kernel_rfl) hR6 rfl Try.sizeAc (one12 _ _ _ _ _ _ _ _ _ _ _ _ _ _ _ _)) hX10 ?_)
      have kk0 : w10.cell? ⟨w.heap.size + 2, 0, none⟩ = some (.int .i64 nu) := (hc10 0 (by simp)).1
      have kk1 : w10.cell? ⟨w.heap.size + 2, 1, none⟩ = some (.int .i64 ep) := (hc10 1 (by simp)).1
      have kk2 : w10.cell? ⟨w.heap.size + 2, 2, none⟩ = some (.bool true) := (hc10 2 (by simp)).1
      have kk3 : w10.cell? ⟨w.heap.size + 2, 3, none⟩ = some (.int .i64 2) := (hc10 3 (by simp)).1
      have kk4 : w10.cell? ⟨w.heap.size + 2, 4, none⟩ = some (.int .i64 le) := (hc10 4 (by simp)).1
      have kk5 : w10.cell? ⟨w.heap.size + 2, 5, none⟩ = some (.int .i64 ta) := (hc10 5 (by simp)).1
      have kk6 : w10.cell? ⟨w.heap.size + 2, 6, none⟩ = some (.int .i64 0) := (hc10 6 (by simp)).1
      have kk7 : w10.cell? ⟨w.heap.size + 2, 7, none⟩ = some (.int .i64 0) := (hc10 7 (by simp)).1
      have kk8 : w10.cell? ⟨w.heap.size + 2, 8, none⟩ = some (.slice (some ⟨w8x.heap.size, 0, none⟩) 0 0) := (hc10 8 (by simp)).1
      have kk9 : w10.cell? ⟨w.heap.size + 2, 9, none⟩ = some (.string vt) := (hc10 9 (by simp)).1
      have kk10 : w10.cell? ⟨w.heap.size + 2, 10, none⟩ = some (.int .i64 0) := (hc10 10 (by simp)).1
      have kk11 : w10.cell? ⟨w.heap.size + 2, 11, none⟩ = some (.slice (some ⟨w15.heap.size, 0, none⟩) 1 1) := (hc10 11 (by simp)).1
      refine wpAnyH_done (by kernel_rfl) ?_ _
      go_wp2
      refine bodyPost_ret (v := .agg #[.int .i64 nu, .int .i64 ep, .bool true, .int .i64 2, .int .i64 le, .int .i64 ta, .int .i64 0, .int .i64 0, .slice (some ⟨w8x.heap.size, 0, none⟩) 0 0, .string vt, .int .i64 0, .slice (some ⟨w15.heap.size, 0, none⟩) 1 1]) (by simp [results, Try.results19, go_sem, kk0, kk1, kk2, kk3, kk4, kk5, kk6, kk7, kk8, kk9, kk10, kk11]) rfl ⟨⟨⟨nu, ep, true, 2, le, ta, 0, 0, [], vt, 0⟩, some ⟨3, nu, ep, le, ta, vt⟩, some ⟨w8x.heap.size, 0, none⟩, 0, .slice (some ⟨w15.heap.size, 0, none⟩) 1 1, ?_, ?_, ?_, ?_, .inl ⟨HV.out, HCD.out, ?_⟩⟩, ?_⟩
      · exact rfl
      · exact (((ho10.drewW.below hb5 (Nat.le_refl _)).alloc _).grown hg10 (.inr (by intro hh; have : w8x.heap.size = w.heap.size + 2 := Option.some.inj hh; omega))).mono' (by omega)
      · exact hout.grown hg10 (.inr (by intro hh; have : w15.heap.size = w.heap.size + 2 := Option.some.inj hh; omega))
      · exact .inr (fun hh => by have : w8x.heap.size = w15.heap.size := Option.some.inj hh; omega)
      · exact HT.out
      · exact below_grown hB6 hg10 (by omega) (fun q hq => by simp at hq; omega)

end Go.Proofs.Ytlpmcjlcmjlbeaa
