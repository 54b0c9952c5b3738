
/-
  Coordinators: rows of numbers in memory; impl.seatsHold, owedHolds, downHolds, jobHolds.
-/
import Derived.Test.YtoikcjeagigmfaaRep
import Derived.Test.YtoikcjeagigmfaaMsgV0
namespace Go.Proofs.Ytoikcjeagigmfaa
open Go.RowKit

abbrev Tr := Int × Int × Int
def t3 (J : List Tr) (j : Nat) : Tr := J.getD j (0, 0, 0)
def t2 (S : List (Bool × Int)) (j : Nat) : Bool × Int := S.getD j (false, 0)
/-- A list of triples in memory. -/
structure T3At (w : World) (a : Option Addr) (b o n : Nat) (J : List Tr) : Prop where
  ad : 0 < n → a = some ⟨b, o, none⟩
  len : J.length = n
  max : n ≤ maxLen
  lt : 0 < n → b < w.heap.size
  c0 : ∀ j, j < n → w.cell? ⟨b, o + j * 3, none⟩ = some (.int .i64 (t3 J j).1)
  c1 : ∀ j, j < n → w.cell? ⟨b, o + j * 3 + 1, none⟩ = some (.int .i64 (t3 J j).2.1)
  c2 : ∀ j, j < n → w.cell? ⟨b, o + j * 3 + 2, none⟩ = some (.int .i64 (t3 J j).2.2)
  rng : ∀ j, j < n → I64 (t3 J j).1 ∧ I64 (t3 J j).2.1 ∧ I64 (t3 J j).2.2
theorem T3At.below' {w w' : World} {a : Option Addr} {b o n : Nat} {J : List Tr} (h : T3At w a b o n J) (hb : Below w.heap.size w w') : T3At w' a b o n J :=
  ⟨h.ad, h.len, h.max, fun hn => Nat.lt_of_lt_of_le (h.lt hn) hb.size, fun j hj => (hb.cell (by exact h.lt (by omega))).trans (h.c0 j hj), fun j hj => (hb.cell (by exact h.lt (by omega))).trans (h.c1 j hj), fun j hj => (hb.cell (by exact h.lt (by omega))).trans (h.c2 j hj), h.rng⟩
/-- A list of seats in memory. -/
structure T2At (w : World) (a : Option Addr) (b o n : Nat) (S : List (Bool × Int)) : Prop where
  ad : 0 < n → a = some ⟨b, o, none⟩
  len : S.length = n
  max : n ≤ maxLen
  lt : 0 < n → b < w.heap.size
  c0 : ∀ j, j < n → w.cell? ⟨b, o + j * 2, none⟩ = some (.bool (t2 S j).1)
  c1 : ∀ j, j < n → w.cell? ⟨b, o + j * 2 + 1, none⟩ = some (.int .i64 (t2 S j).2)
  rng : ∀ j, j < n → I64 (t2 S j).2
theorem T2At.below' {w w' : World} {a : Option Addr} {b o n : Nat} {S : List (Bool × Int)} (h : T2At w a b o n S) (hb : Below w.heap.size w w') : T2At w' a b o n S :=
  ⟨h.ad, h.len, h.max, fun hn => Nat.lt_of_lt_of_le (h.lt hn) hb.size, fun j hj => (hb.cell (by exact h.lt (by omega))).trans (h.c0 j hj), fun j hj => (hb.cell (by exact h.lt (by omega))).trans (h.c1 j hj), h.rng⟩

def seatsOk (S : List (Bool × Int)) (k : Nat) : Prop := ∀ i, i < k → 0 ≤ (t2 S i).2 ∧ (t2 S i).2 ≤ 300
def owedOk1 (wk : Int) (R : List ByteArray) (x : Tr) : Prop := 1 ≤ x.1 ∧ x.1 ≤ wk ∧ 1 ≤ x.2.1 ∧ x.2.1 ≤ 300000000 ∧ 0 ≤ x.2.2 ∧ x.2.2 < R.length ∧ ¬ (rs R x.2.2.toNat).size = 0
def owedOk (wk : Int) (R : List ByteArray) (O : List Tr) (k : Nat) : Prop := ∀ i, i < k → owedOk1 wk R (t3 O i)
def jobIn (wk now ep gv : Int) (x : Tr) : Prop := (ep - 1) * 1000000 + 1 ≤ x.1 ∧ x.1 ≤ (ep - 1) * 1000000 + gv ∧ 1 ≤ x.2.1 ∧ x.2.1 ≤ wk ∧ now + 1 ≤ x.2.2 ∧ x.2.2 ≤ now + 12

set_option maxHeartbeats 1000000 in
set_option maxRecDepth 100000 in
theorem seatsHold_any (wk : Int) (up : Bool) (now sn ep gv : Int) (a1 a2 ar aj az ao : Option Addr) (n1 c1 n2 c2 nr cr nj cj ns cs no co : Nat) (bs os' : Nat) (S : List (Bool × Int)) (w : World) (hS : T2At w az bs os' ns S) :
    Calls Try.prog 65 #[.agg #[.int .i64 wk, .bool up, .int .i64 now, .int .i64 sn, .int .i64 ep, .int .i64 gv, .slice a1 n1 c1, .slice a2 n2 c2, .slice ar nr cr, .slice aj nj cj, .slice az ns cs, .slice ao no co]] w fun e w' => RetB e ((ns : Int) = wk ∧ seatsOk S ns) ∧ Below w.heap.size w w' := by
  have hmax := hS.max
  unfold maxLen at hmax
  obtain ⟨W, hW⟩ : ∃ W, W = w.alloc (.cells #[.int .i64 wk, .bool up, .int .i64 now, .int .i64 sn, .int .i64 ep, .int .i64 gv, .slice a1 n1 c1, .slice a2 n2 c2, .slice ar nr cr, .slice aj nj cj, .slice az ns cs, .slice ao no co] 67) := ⟨_, rfl⟩
  have hbW : Below w.heap.size w W := by rw [hW]; exact (Below.refl _ _).alloc (Nat.le_refl _) _
  have hsW : W.heap.size = w.heap.size + 1 := by rw [hW]; simp
  have hMC : MC W w.heap.size [.int .i64 wk, .bool up, .int .i64 now, .int .i64 sn, .int .i64 ep, .int .i64 gv, .slice a1 n1 c1, .slice a2 n2 c2, .slice ar nr cr, .slice aj nj cj, .slice az ns cs, .slice ao no co] := by rw [hW]; exact MC.made w _ _
  by_cases hn : (ns : Int) = wk
  · have hn' : ((ns : Int) == wk) = true := by simpa using hn
    have hn'' : ((ns : Int) != wk) = false := by simpa using hn
    have HN := hid hn
    clear hn
    have q0 : W.cell? ⟨w.heap.size, 0, none⟩ = some (.int .i64 wk) := hMC 0 (by simp)
    have q10 : W.cell? ⟨w.heap.size, 10, none⟩ = some (.slice az ns cs) := hMC 10 (by simp)
    clear hMC
    go_enter Try.func65, Try.ntmps65
    go_upto_region 1 with fail
    rw [← hW]
    clear hW
    go_wp2
    go_loopw [14] (fun i wr => ∃ k : Nat, k ≤ ns ∧ i = .int .i64 k ∧ seatsOk S k ∧ Below w.heap.size w wr) (fun i _ => ns - (intOf i).toNat)
    case atStart => exact ⟨0, Nat.zero_le _, rfl, fun j hj => absurd hj (by omega), hbW⟩
    case round =>
      obtain ⟨k, hk, rfl, hok, hb⟩ := hrel
      by_cases hlt : k < ns
      · obtain rfl := hS.ad (by omega)
        have hc0 := (hS.below' hb).c0 k hlt
        have hc1 := (hS.below' hb).c1 k hlt
        obtain ⟨⟨fr, ee⟩, hx⟩ : ∃ x, x = t2 S k := ⟨_, rfl⟩
        rw [← hx] at hc0 hc1
        dsimp only at hc0 hc1
        have HX := hid hx
        clear hx
        have hlt' : (k : Int) < (ns : Int) := by omega
        have hb' : Below w.heap.size w (wr.alloc (.cells #[.bool fr, .int .i64 ee] 103)) := hb.alloc hb.size _
        go_wp2_with fail
        refine (within_any _ _ _ _).mono ?_
        rintro e w1 ⟨rfl, rfl⟩
        cases hE : inB ee 0 300 with
        | false =>
          have HE := hid (inB_f hE)
          go_wp2
          go_ret
          refine ⟨RetB.f fun hh => HE.out ?_, hb'⟩
          have := hh.2 k hlt
          rw [← HX.out] at this
          exact this
        | true =>
          have HE := hid (inB_t hE)
          go_wp2
          go_roundw
          case rel =>
            refine ⟨k + 1, by omega, by go_num, fun j hj => ?_, hb'⟩
            by_cases e : j = k
            · subst e; rw [← HX.out]; exact HE.out
            · exact hok j (by omega)
          case measure => simp [intOf]; omega
      · obtain rfl : k = ns := by omega
        go_wp2
        go_ret
        exact ⟨RetB.t ⟨HN.out, hok⟩, hb⟩
  · have hn' : ((ns : Int) == wk) = false := by simpa using hn
    clear hMC
    go_enter Try.func65, Try.ntmps65
    go_wp2
    go_ret
    exact ⟨RetB.f fun hh => hn hh.1, by rw [← hW]; exact hbW⟩

set_option maxHeartbeats 1000000 in
set_option maxRecDepth 100000 in
theorem owedHolds_any (wk : Int) (up : Bool) (now sn ep gv : Int) (a1 a2 ar aj az ao : Option Addr) (n1 c1 n2 c2 nr cr nj cj ns cs no co : Nat) (bo oo br or' : Nat) (O : List Tr) (R : List ByteArray) (w : World) (hO : T3At w ao bo oo no O) (hR : StrsAt w ar br or' nr R) :
    Calls Try.prog 66 #[.agg #[.int .i64 wk, .bool up, .int .i64 now, .int .i64 sn, .int .i64 ep, .int .i64 gv, .slice a1 n1 c1, .slice a2 n2 c2, .slice ar nr cr, .slice aj nj cj, .slice az ns cs, .slice ao no co]] w fun e w' => RetB e (no ≤ 2000 ∧ owedOk wk R O no) ∧ Below w.heap.size w w' := by
  have hmax := hO.max
  have hmaxr := hR.max
  unfold maxLen at hmax hmaxr
  obtain ⟨W, hW⟩ : ∃ W, W = w.alloc (.cells #[.int .i64 wk, .bool up, .int .i64 now, .int .i64 sn, .int .i64 ep, .int .i64 gv, .slice a1 n1 c1, .slice a2 n2 c2, .slice ar nr cr, .slice aj nj cj, .slice az ns cs, .slice ao no co] 67) := ⟨_, rfl⟩
  have hbW : Below w.heap.size w W := by rw [hW]; exact (Below.refl _ _).alloc (Nat.le_refl _) _
  have hsW : W.heap.size = w.heap.size + 1 := by rw [hW]; simp
  have hMC : MC W w.heap.size [.int .i64 wk, .bool up, .int .i64 now, .int .i64 sn, .int .i64 ep, .int .i64 gv, .slice a1 n1 c1, .slice a2 n2 c2, .slice ar nr cr, .slice aj nj cj, .slice az ns cs, .slice ao no co] := by rw [hW]; exact MC.made w _ _
  by_cases hn : 2000 < no
  · clear hMC
    go_enter Try.func66, Try.ntmps66
    go_wp2
    go_ret
    exact ⟨RetB.f fun hh => by have := hh.1; omega, by rw [← hW]; exact hbW⟩
  · have q10 : W.cell? ⟨w.heap.size, 11, none⟩ = some (.slice ao no co) := hMC 11 (by simp)
    have HM := hid hMC
    have HRL := hid hR.len
    clear hMC
    go_enter Try.func66, Try.ntmps66
    go_upto_region 1 with fail
    rw [← hW]
    clear hW
    go_wp2
    clear q10
    go_loopw [12] (fun i wr => ∃ k : Nat, k ≤ no ∧ i = .int .i64 k ∧ owedOk wk R O k ∧ Below W.heap.size W wr) (fun i _ => no - (intOf i).toNat)
    case atStart => exact ⟨0, Nat.zero_le _, rfl, fun j hj => absurd hj (by omega), Below.refl _ _⟩
    case round =>
      obtain ⟨k, hk, rfl, hok, hb⟩ := hrel
      have hB := hbW.trans (hb.mono (by omega))
      by_cases hlt : k < no
      · obtain rfl := hO.ad (by omega)
        have hc0 := (hO.below' hB).c0 k hlt
        have hc1 := (hO.below' hB).c1 k hlt
        have hc2 := (hO.below' hB).c2 k hlt
        obtain ⟨⟨x0, x1, x2⟩, hx⟩ : ∃ x, x = t3 O k := ⟨_, rfl⟩
        rw [← hx] at hc0 hc1 hc2
        dsimp only at hc0 hc1 hc2
        have HX := hid hx
        clear hx
        have hlt' : (k : Int) < (no : Int) := by omega
        have hsz := hb.size
        obtain ⟨V, hV⟩ : ∃ V, V = wr.alloc (.cells #[.int .i64 x0, .int .i64 x1, .int .i64 x2] 105) := ⟨_, rfl⟩
        have hbV : Below wr.heap.size wr V := by rw [hV]; exact (Below.refl _ _).alloc (Nat.le_refl _) _
        have hmV : MC V wr.heap.size [.int .i64 x0, .int .i64 x1, .int .i64 x2] := by rw [hV]; exact MC.made wr _ _
        have hbb := hb.trans (hbV.mono hsz)
        have hB' := hbW.trans (hbb.mono (by omega))
        have y0 : V.cell? ⟨wr.heap.size, 0, none⟩ = some (.int .i64 x0) := hmV 0 (by simp)
        have y1 : V.cell? ⟨wr.heap.size, 1, none⟩ = some (.int .i64 x1) := hmV 1 (by simp)
        have y2 : V.cell? ⟨wr.heap.size, 2, none⟩ = some (.int .i64 x2) := hmV 2 (by simp)
        have z0 : V.cell? ⟨w.heap.size, 0, none⟩ = some (.int .i64 wk) := keepB hbb (HM.out 0 (by simp))
        have z8 : V.cell? ⟨w.heap.size, 8, none⟩ = some (.slice ar nr cr) := keepB hbb (HM.out 8 (by simp))
        clear hmV
        have HNO : Hid (¬ owedOk1 wk R (x0, x1, x2) → ¬ (no ≤ 2000 ∧ owedOk wk R O no)) := fun hh hq => hh (by have := hq.2 k hlt; rw [← HX.out] at this; exact this)
        go_upto_region 6 with fail
        rw [← hV]
        clear hV
        cases hA : inB x0 1 wk with
        | false =>
          have HA := hid (inB_f hA)
          go_wp2_with (first | (go_at_call 61; refine (within_any _ _ _ _).mono ?_; rintro e w1 ⟨rfl, rfl⟩))
          go_ret
          exact ⟨RetB.f (HNO.out fun hh => HA.out ⟨hh.1, hh.2.1⟩), hB'⟩
        | true =>
          have HA := hid (inB_t hA)
          cases hL : inB x1 1 300000000 with
          | false =>
            have HL := hid (inB_f hL)
            go_wp2_with (first | (go_at_call 61; refine (within_any _ _ _ _).mono ?_; rintro e w1 ⟨rfl, rfl⟩) | (go_at_call 91; refine (leaseHolds_t _ _ _ hL).mono ?_; rintro e w1 ⟨rfl, rfl⟩))
            go_ret
            exact ⟨RetB.f (HNO.out fun hh => HL.out ⟨hh.2.2.1, hh.2.2.2.1⟩), hB'⟩
          | true =>
            have HL := hid (inB_t hL)
            cases hT : inB x2 0 ((nr : Int) - 1) with
            | false =>
              have HT := hid (inB_f hT)
              go_wp2_with (first | (go_at_call 61; refine (within_any _ _ _ _).mono ?_; rintro e w1 ⟨rfl, rfl⟩) | (go_at_call 91; refine (leaseHolds_t _ _ _ hL).mono ?_; rintro e w1 ⟨rfl, rfl⟩))
              go_ret
              exact ⟨RetB.f (HNO.out fun hh => HT.out (by have h1 := hh.2.2.2.2; rw [HRL.out] at h1; exact ⟨h1.1, by have := h1.2.1; dsimp only at this; omega⟩)), hB'⟩
            | true =>
              have HT := hid (inB_t hT)
              obtain ⟨xn, rfl⟩ : ∃ xn : Nat, x2 = xn := ⟨x2.toNat, by have := HT.out; omega⟩
              have hxn : xn < nr := by have := HT.out; omega
              obtain rfl := hR.ad (by omega)
              have hcr := (hR.below' hB').cell xn hxn
              obtain ⟨s, hs⟩ : ∃ s, s = R.getD xn ByteArray.empty := ⟨_, rfl⟩
              rw [← hs] at hcr
              have HS : Hid (rs R xn = s) := by rw [hs]; rfl
              clear hs
              have hxn' : (xn : Int) < (nr : Int) := by omega
              by_cases hz : s.size = 0
              · have hz' := empty_t hz
                have HZ := hid hz
                clear hz
                go_wp2_with (first | (go_at_call 61; refine (within_any _ _ _ _).mono ?_; rintro e w1 ⟨rfl, rfl⟩) | (go_at_call 91; refine (leaseHolds_t _ _ _ hL).mono ?_; rintro e w1 ⟨rfl, rfl⟩))
                go_ret
                exact ⟨RetB.f (HNO.out fun hh => hh.2.2.2.2.2.2 (by show (rs R xn).size = 0; rw [HS.out]; exact HZ.out)), hB'⟩
              · have hz' := empty_f hz
                have HZ := hid hz
                clear hz
                go_wp2_with (first | (go_at_call 61; refine (within_any _ _ _ _).mono ?_; rintro e w1 ⟨rfl, rfl⟩) | (go_at_call 91; refine (leaseHolds_t _ _ _ hL).mono ?_; rintro e w1 ⟨rfl, rfl⟩))
                go_roundw
                case rel =>
                  refine ⟨k + 1, by omega, by go_num, fun j hj => ?_, hbb⟩
                  by_cases e : j = k
                  · subst e; rw [← HX.out]
                    exact ⟨HA.out.1, HA.out.2, HL.out.1, HL.out.2, HT.out.1, by show (xn : Int) < _; rw [HRL.out]; omega, by show ¬ (rs R xn).size = 0; rw [HS.out]; exact HZ.out⟩
                  · exact hok j (by omega)
                case measure => simp [intOf]; omega
      · obtain rfl : k = no := by omega
        go_wp2
        go_ret
        exact ⟨RetB.t ⟨by omega, hok⟩, hB⟩

/-- Nothing but workers, log and time. -/
def isDown (sn ep gv : Int) (n2 nr nj ns no : Nat) : Prop := n2 = 0 ∧ sn = 0 ∧ ep = 0 ∧ gv = 0 ∧ nr = 0 ∧ nj = 0 ∧ ns = 0 ∧ no = 0
set_option maxHeartbeats 1000000 in
set_option maxRecDepth 100000 in
theorem downHolds_any (wk : Int) (up : Bool) (now sn ep gv : Int) (a1 a2 ar aj az ao : Option Addr) (n1 c1 n2 c2 nr cr nj cj ns cs no co : Nat) (w : World) :
    Calls Try.prog 62 #[.agg #[.int .i64 wk, .bool up, .int .i64 now, .int .i64 sn, .int .i64 ep, .int .i64 gv, .slice a1 n1 c1, .slice a2 n2 c2, .slice ar nr cr, .slice aj nj cj, .slice az ns cs, .slice ao no co]] w fun e w' => RetB e (isDown sn ep gv n2 nr nj ns no) ∧ Below w.heap.size w w' := by
  have hb0 : Below w.heap.size w (w.alloc (.cells #[.int .i64 wk, .bool up, .int .i64 now, .int .i64 sn, .int .i64 ep, .int .i64 gv, .slice a1 n1 c1, .slice a2 n2 c2, .slice ar nr cr, .slice aj nj cj, .slice az ns cs, .slice ao no co] 67)) := (Below.refl _ _).alloc (Nat.le_refl _) _
  by_cases g0 : n2 = 0
  · have g0' : ((n2 : Int) == 0) = true := by simp; omega
    have G0 := hid g0
    clear g0
    by_cases g1 : sn = 0
    · have g1' : (sn == 0) = true := by simp; omega
      have G1 := hid g1
      clear g1
      by_cases g2 : ep = 0
      · have g2' : (ep == 0) = true := by simp; omega
        have G2 := hid g2
        clear g2
        by_cases g3 : gv = 0
        · have g3' : (gv == 0) = true := by simp; omega
          have G3 := hid g3
          clear g3
          by_cases g4 : nr = 0
          · have g4' : ((nr : Int) == 0) = true := by simp; omega
            have G4 := hid g4
            clear g4
            by_cases g5 : nj = 0
            · have g5' : ((nj : Int) == 0) = true := by simp; omega
              have G5 := hid g5
              clear g5
              by_cases g6 : ns = 0
              · have g6' : ((ns : Int) == 0) = true := by simp; omega
                have G6 := hid g6
                clear g6
                by_cases g7 : no = 0
                · have g7' : ((no : Int) == 0) = true := by simp; omega
                  have G7 := hid g7
                  clear g7
                  go_enter Try.func62, Try.ntmps62
                  go_wp2
                  go_ret
                  exact ⟨RetB.t ⟨G0.out, G1.out, G2.out, G3.out, G4.out, G5.out, G6.out, G7.out⟩, hb0⟩
                · have g7' : ((no : Int) == 0) = false := by simp; omega
                  have G7 := hid g7
                  clear g7
                  go_enter Try.func62, Try.ntmps62
                  go_wp2
                  go_ret
                  exact ⟨RetB.f fun hh => G7.out (by unfold isDown at hh; omega), hb0⟩
              · have g6' : ((ns : Int) == 0) = false := by simp; omega
                have G6 := hid g6
                clear g6
                go_enter Try.func62, Try.ntmps62
                go_wp2
                go_ret
                exact ⟨RetB.f fun hh => G6.out (by unfold isDown at hh; omega), hb0⟩
            · have g5' : ((nj : Int) == 0) = false := by simp; omega
              have G5 := hid g5
              clear g5
              go_enter Try.func62, Try.ntmps62
              go_wp2
              go_ret
              exact ⟨RetB.f fun hh => G5.out (by unfold isDown at hh; omega), hb0⟩
          · have g4' : ((nr : Int) == 0) = false := by simp; omega
            have G4 := hid g4
            clear g4
            go_enter Try.func62, Try.ntmps62
            go_wp2
            go_ret
            exact ⟨RetB.f fun hh => G4.out (by unfold isDown at hh; omega), hb0⟩
        · have g3' : (gv == 0) = false := by simp; omega
          have G3 := hid g3
          clear g3
          go_enter Try.func62, Try.ntmps62
          go_wp2
          go_ret
          exact ⟨RetB.f fun hh => G3.out (by unfold isDown at hh; omega), hb0⟩
      · have g2' : (ep == 0) = false := by simp; omega
        have G2 := hid g2
        clear g2
        go_enter Try.func62, Try.ntmps62
        go_wp2
        go_ret
        exact ⟨RetB.f fun hh => G2.out (by unfold isDown at hh; omega), hb0⟩
    · have g1' : (sn == 0) = false := by simp; omega
      have G1 := hid g1
      clear g1
      go_enter Try.func62, Try.ntmps62
      go_wp2
      go_ret
      exact ⟨RetB.f fun hh => G1.out (by unfold isDown at hh; omega), hb0⟩
  · have g0' : ((n2 : Int) == 0) = false := by simp; omega
    have G0 := hid g0
    clear g0
    go_enter Try.func62, Try.ntmps62
    go_wp2
    go_ret
    exact ⟨RetB.f fun hh => G0.out (by unfold isDown at hh; omega), hb0⟩
end Go.Proofs.Ytoikcjeagigmfaa
