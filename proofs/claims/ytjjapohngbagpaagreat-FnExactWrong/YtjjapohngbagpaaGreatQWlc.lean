import Derived.Test.YtjjapohngbagpaaGreatQRwk
import Derived.Test.YtjjapohngbagpaaGreatQNpr
import Derived.Test.YtjjapohngbagpaaGreatQWkv
namespace Go.Proofs.YtjjapohngbagpaaGreat
open Go.RowKit

def WkD.ok (d : WkD) : Prop := vW d.nu d.ep d.up d.st d.le d.ta d.co d.lf d.ss d.x.size d.si
/-- The first k workers are valid, each at its place. -/
def crewK (Ws : List WkD) (k : Nat) : Prop := ∀ j, j < k → (gWr Ws j).ok ∧ (gWr Ws j).nu = (j : Int) + 1
def flK (P : List Pc) (k : Nat) : Prop := ∀ j, j < k → (0 ≤ (pc P j).1 ∧ (pc P j).1 ≤ 8) ∧ (pc P j).2.1.size ≤ 500 ∧ (pc P j).2.2.size ≤ 500
theorem crewK.succ {Ws : List WkD} {k : Nat} (h : crewK Ws k) (h1 : (gWr Ws k).ok ∧ (gWr Ws k).nu = (k : Int) + 1) : crewK Ws (k + 1) := fun j hj => by
  by_cases e : j = k
  · subst e; exact h1
  · exact h j (by omega)
theorem flK.succ {P : List Pc} {k : Nat} (h : flK P k) (h1 : (0 ≤ (pc P k).1 ∧ (pc P k).1 ≤ 8) ∧ (pc P k).2.1.size ≤ 500 ∧ (pc P k).2.2.size ≤ 500) : flK P (k + 1) := fun j hj => by
  by_cases e : j = k
  · subst e; exact h1
  · exact h j (by omega)

set_option maxHeartbeats 2000000 in
set_option maxRecDepth 100000 in
theorem crewHolds_any (a : Option Addr) (b o n c : Nat) (Ws : List WkD) (w : World) (h : WrAt w a b o n Ws) (hn : n ≤ 1048576) :
    Calls Tryz.prog 44 #[.slice a n c] w fun e w' => RetB e (crewK Ws n) ∧ Below w.heap.size w w' := by
  go_enter Tryz.func44, Tryz.ntmps44
  go_wp2
  go_loopw [7] (fun i wr => ∃ k : Nat, k ≤ n ∧ i = .int .i64 k ∧ crewK Ws k ∧ Below w.heap.size w wr) (fun i _ => n - (intOf i).toNat)
  case atStart => exact ⟨0, Nat.zero_le _, rfl, fun j hj => absurd hj (by omega), Below.refl _ _⟩
  case round =>
    obtain ⟨k, hk, rfl, hok, hb⟩ := hrel
    by_cases hlt : k < n
    · obtain rfl := h.ad (by omega)
      have hc0 := (h.below' hb).c0 k hlt
      have hc1 := (h.below' hb).c1 k hlt
      have hc2 := (h.below' hb).c2 k hlt
      have hc3 := (h.below' hb).c3 k hlt
      have hc4 := (h.below' hb).c4 k hlt
      have hc5 := (h.below' hb).c5 k hlt
      have hc6 := (h.below' hb).c6 k hlt
      have hc7 := (h.below' hb).c7 k hlt
      have hc9 := (h.below' hb).c9 k hlt
      have hc10 := (h.below' hb).c10 k hlt
      obtain ⟨a3, b3, o3, c3, hc8, hst⟩ := (h.below' hb).cn k hlt
      obtain ⟨⟨nu, ep, up, st, le, ta, co, lf, ss, x, si⟩, hx⟩ : ∃ x, x = gWr Ws k := ⟨_, rfl⟩
      rw [← hx] at hc0 hc1 hc2 hc3 hc4 hc5 hc6 hc7 hc8 hc9 hc10 hst
      dsimp only at hc0 hc1 hc2 hc3 hc4 hc5 hc6 hc7 hc8 hc9 hc10 hst
      have hlt' : (k : Int) < (n : Int) := by omega
      have HX := hid hx
      have HOK := hid hok
      clear hx hok
      obtain ⟨W, hW⟩ : ∃ W, W = wr.alloc (.cells #[.int .i64 nu, .int .i64 ep, .bool up, .int .i64 st, .int .i64 le, .int .i64 ta, .int .i64 co, .int .i64 lf, .slice a3 ss.length c3, .string x, .int .i64 si] 77) := ⟨_, rfl⟩
      have hbW : Below wr.heap.size wr W := by rw [hW]; exact (Below.refl _ _).alloc (Nat.le_refl _) _
      have hcf : CF W wr.heap.size [.int .i64 nu, .int .i64 ep, .bool up, .int .i64 st, .int .i64 le, .int .i64 ta, .int .i64 co, .int .i64 lf, .slice a3 ss.length c3, .string x, .int .i64 si] := by rw [hW]; exact CF.made wr _ _
      have q0 : W.cell? ⟨wr.heap.size, 0, none⟩ = some (.int .i64 nu) := (hcf 0 (by simp)).1
      have q1 : W.cell? ⟨wr.heap.size, 1, none⟩ = some (.int .i64 ep) := (hcf 1 (by simp)).1
      have q2 : W.cell? ⟨wr.heap.size, 2, none⟩ = some (.bool up) := (hcf 2 (by simp)).1
      have q3 : W.cell? ⟨wr.heap.size, 3, none⟩ = some (.int .i64 st) := (hcf 3 (by simp)).1
      have q4 : W.cell? ⟨wr.heap.size, 4, none⟩ = some (.int .i64 le) := (hcf 4 (by simp)).1
      have q5 : W.cell? ⟨wr.heap.size, 5, none⟩ = some (.int .i64 ta) := (hcf 5 (by simp)).1
      have q6 : W.cell? ⟨wr.heap.size, 6, none⟩ = some (.int .i64 co) := (hcf 6 (by simp)).1
      have q7 : W.cell? ⟨wr.heap.size, 7, none⟩ = some (.int .i64 lf) := (hcf 7 (by simp)).1
      have q8 : W.cell? ⟨wr.heap.size, 8, none⟩ = some (.slice a3 ss.length c3) := (hcf 8 (by simp)).1
      have q9 : W.cell? ⟨wr.heap.size, 9, none⟩ = some (.string x) := (hcf 9 (by simp)).1
      have q10 : W.cell? ⟨wr.heap.size, 10, none⟩ = some (.int .i64 si) := (hcf 10 (by simp)).1
      have hb2 := hb.trans (hbW.mono hb.size)
      have HV := hid (iVal_any nu ep up st le ta co lf a3 b3 o3 ss.length c3 ss x si W (hst.below' hbW))
      clear hst
      go_upto_region 4 with fail
      rw [← hW]
      clear hW hcf hc0 hc1 hc2 hc3 hc4 hc5 hc6 hc7 hc8 hc9 hc10 hbW
      go_wp2_with fail
      refine HV.out.mono ?_
      rintro e' w3 ⟨⟨rv, rfl, hrv⟩, hb3⟩
      have hb4 := hb2.trans (hb3.mono hb2.size)
      have k0 := keepB hb3 q0
      clear hb3 q0 q1 q2 q3 q4 q5 q6 q7 q8 q9 q10 HV
      cases rv with
      | false =>
        have HN := hid (show ¬ crewK Ws n from fun hh => by have := (hh k hlt).1; rw [← HX.out] at this; exact absurd (hrv.2 this) (by simp))
        clear hrv
        go_wp2
        go_ret
        exact ⟨RetB.f HN.out, hb4⟩
      | true =>
        have HR := hid (hrv.1 rfl)
        clear hrv
        by_cases hnu : nu = (k : Int) + 1
        · have HQ := hid (HOK.out.succ (by rw [← HX.out]; exact ⟨HR.out, hnu⟩))
          subst hnu
          go_wp2
          go_roundw
          case rel => exact ⟨k + 1, by omega, by go_num, HQ.out, hb4⟩
          case measure => simp [intOf]; omega
        · have HN := hid (show ¬ crewK Ws n from fun hh => by have := (hh k hlt).2; rw [← HX.out] at this; exact hnu this)
          have hnu' : (nu == (k : Int) + 1) = false := by simpa using hnu
          go_wp2
          go_ret
          exact ⟨RetB.f HN.out, hb4⟩
    · obtain rfl : k = n := by omega
      have HOK := hid hok
      clear hok
      go_wp2
      go_ret
      exact ⟨RetB.t HOK.out, hb⟩

set_option maxHeartbeats 2000000 in
set_option maxRecDepth 100000 in
theorem flightHolds_any (a : Option Addr) (b o n c : Nat) (P : List Pc) (w : World) (h : PcAt w a b o n P) (hn : n ≤ 1048576) :
    Calls Tryz.prog 45 #[.slice a n c] w fun e w' => RetB e (n ≤ 2000 ∧ flK P n) ∧ Below w.heap.size w w' := by
  have hn' : (n : Int) ≤ 1048576 := by omega
  by_cases h2 : n ≤ 2000
  · have h2' : ¬ (2000 : Int) < (n : Int) := by omega
    have HG := hid (show flK P n → n ≤ 2000 ∧ flK P n from fun hh => ⟨h2, hh⟩)
    go_enter Tryz.func45, Tryz.ntmps45
    go_wp2
    go_loopw [10] (fun i wr => ∃ k : Nat, k ≤ n ∧ i = .int .i64 k ∧ flK P k ∧ Below w.heap.size w wr) (fun i _ => n - (intOf i).toNat)
    case atStart => exact ⟨0, Nat.zero_le _, rfl, fun j hj => absurd hj (by omega), Below.refl _ _⟩
    case round =>
      obtain ⟨k, hk, rfl, hok, hb⟩ := hrel
      by_cases hlt : k < n
      · obtain rfl := h.ad (by omega)
        have hc0 := (h.below' hb).c0 k hlt
        have hc1 := (h.below' hb).c1 k hlt
        have hc2 := (h.below' hb).c2 k hlt
        obtain ⟨_, g1, g2⟩ := h.rng k hlt
        obtain ⟨⟨x0, x1, x2⟩, hx⟩ : ∃ x, x = pc P k := ⟨_, rfl⟩
        rw [← hx] at hc0 hc1 hc2 g1 g2
        dsimp only at hc0 hc1 hc2 g1 g2
        unfold maxLen at g1 g2
        have HX := hid hx
        have HOK := hid hok
        clear hx hok
        have hlt' : (k : Int) < (n : Int) := by omega
        have hb' : Below w.heap.size w (wr.alloc (.cells #[.int .i64 x0, .string x1, .string x2] 79)) := hb.alloc hb.size _
        go_wp2_with fail
        refine (within_any _ _ _ _).mono ?_
        rintro e w1 ⟨rfl, hw1⟩
        rw [hw1]
        clear hw1
        cases hE : inB x0 0 8 with
        | false =>
          have HN := hid (show ¬ (n ≤ 2000 ∧ flK P n) from fun hh => inB_f hE (by have := (hh.2 k hlt).1; rw [← HX.out] at this; exact this))
          clear HX HOK
          go_wp2
          go_ret
          exact ⟨RetB.f HN.out, hb'⟩
        | true =>
          have HI := hid (inB_t hE)
          by_cases h5 : x1.size ≤ 500
          · have h5' : ¬ (500 : Int) < (x1.size : Int) := by omega
            by_cases h6 : x2.size ≤ 500
            · have h6' : ¬ (500 : Int) < (x2.size : Int) := by omega
              have HQ := hid (HOK.out.succ (by rw [← HX.out]; exact ⟨HI.out, h5, h6⟩))
              clear HX HOK HI hE
              go_wp2
              go_roundw
              case rel => exact ⟨k + 1, by omega, by go_num, HQ.out, hb'⟩
              case measure => simp [intOf]; omega
            · have h6' : (500 : Int) < (x2.size : Int) := by omega
              have HN := hid (show ¬ (n ≤ 2000 ∧ flK P n) from fun hh => h6 (by have := (hh.2 k hlt).2.2; rw [← HX.out] at this; exact this))
              clear HX HOK HI hE
              go_wp2
              go_ret
              exact ⟨RetB.f HN.out, hb'⟩
          · have h5' : (500 : Int) < (x1.size : Int) := by omega
            have HN := hid (show ¬ (n ≤ 2000 ∧ flK P n) from fun hh => h5 (by have := (hh.2 k hlt).2.1; rw [← HX.out] at this; exact this))
            clear HX HOK HI hE
            go_wp2
            go_ret
            exact ⟨RetB.f HN.out, hb'⟩
      · obtain rfl : k = n := by omega
        have HQ := hid (HG.out hok)
        clear hok HG
        go_wp2
        go_ret
        exact ⟨RetB.t HQ.out, hb⟩
  · have h2' : (2000 : Int) < (n : Int) := by omega
    have HN := hid (show ¬ (n ≤ 2000 ∧ flK P n) from fun hh => h2 hh.1)
    go_enter Tryz.func45, Tryz.ntmps45
    go_wp2
    go_ret
    exact ⟨RetB.f HN.out, Below.refl _ _⟩
end Go.Proofs.YtjjapohngbagpaaGreat
