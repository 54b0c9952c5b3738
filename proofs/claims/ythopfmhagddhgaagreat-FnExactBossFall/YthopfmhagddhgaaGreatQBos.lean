import Derived.Test.YthopfmhagddhgaaGreatQSChk
import Derived.Test.YthopfmhagddhgaaGreatQCel
import Derived.Test.YthopfmhagddhgaaGreatQEq
namespace Go.Proofs.YthopfmhagddhgaaGreat
open Go.RowKit

abbrev Tr := Int × Int × Int
def t3 (J : List Tr) (j : Nat) : Tr := J.getD j (0, 0, 0)
def t2 (S : List (Bool × Int)) (j : Nat) : Bool × Int := S.getD j (false, 0)
/-- A list of triples in memory. -/
structure T3At (w : World) (a : Option Addr) (b o n : Nat) (J : List Tr) : Prop where
  ad : 0 < n → a = some ⟨b, o, none⟩
  len : J.length = n
  max : n ≤ maxLen
  lt : 0 < n → b < w.heap.size
  c0 : ∀ j, j < n → w.cell? ⟨b, o + j * 3, none⟩ = some (.int .i64 (t3 J j).1)
  c1 : ∀ j, j < n → w.cell? ⟨b, o + j * 3 + 1, none⟩ = some (.int .i64 (t3 J j).2.1)
  c2 : ∀ j, j < n → w.cell? ⟨b, o + j * 3 + 2, none⟩ = some (.int .i64 (t3 J j).2.2)
  rng : ∀ j, j < n → I64 (t3 J j).1 ∧ I64 (t3 J j).2.1 ∧ I64 (t3 J j).2.2
theorem T3At.below' {w w' : World} {a : Option Addr} {b o n : Nat} {J : List Tr} (h : T3At w a b o n J) (hb : Below w.heap.size w w') : T3At w' a b o n J :=
  ⟨h.ad, h.len, h.max, fun hn => Nat.lt_of_lt_of_le (h.lt hn) hb.size, fun j hj => (hb.cell (by exact h.lt (by omega))).trans (h.c0 j hj), fun j hj => (hb.cell (by exact h.lt (by omega))).trans (h.c1 j hj), fun j hj => (hb.cell (by exact h.lt (by omega))).trans (h.c2 j hj), h.rng⟩
/-- A list of seats in memory. -/
structure T2At (w : World) (a : Option Addr) (b o n : Nat) (S : List (Bool × Int)) : Prop where
  ad : 0 < n → a = some ⟨b, o, none⟩
  len : S.length = n
  max : n ≤ maxLen
  lt : 0 < n → b < w.heap.size
  c0 : ∀ j, j < n → w.cell? ⟨b, o + j * 2, none⟩ = some (.bool (t2 S j).1)
  c1 : ∀ j, j < n → w.cell? ⟨b, o + j * 2 + 1, none⟩ = some (.int .i64 (t2 S j).2)
  rng : ∀ j, j < n → I64 (t2 S j).2
theorem T2At.below' {w w' : World} {a : Option Addr} {b o n : Nat} {S : List (Bool × Int)} (h : T2At w a b o n S) (hb : Below w.heap.size w w') : T2At w' a b o n S :=
  ⟨h.ad, h.len, h.max, fun hn => Nat.lt_of_lt_of_le (h.lt hn) hb.size, fun j hj => (hb.cell (by exact h.lt (by omega))).trans (h.c0 j hj), fun j hj => (hb.cell (by exact h.lt (by omega))).trans (h.c1 j hj), h.rng⟩

def seatsOk (S : List (Bool × Int)) (k : Nat) : Prop := ∀ i, i < k → 0 ≤ (t2 S i).2 ∧ (t2 S i).2 ≤ 300
def owedOk1 (wk : Int) (R : List ByteArray) (x : Tr) : Prop := 1 ≤ x.1 ∧ x.1 ≤ wk ∧ 1 ≤ x.2.1 ∧ x.2.1 ≤ 300000000 ∧ 0 ≤ x.2.2 ∧ x.2.2 < R.length ∧ ¬ (rs R x.2.2.toNat).size = 0
def owedOk (wk : Int) (R : List ByteArray) (O : List Tr) (k : Nat) : Prop := ∀ i, i < k → owedOk1 wk R (t3 O i)
def jobIn (wk now ep gv : Int) (x : Tr) : Prop := (ep - 1) * 1000000 + 1 ≤ x.1 ∧ x.1 ≤ (ep - 1) * 1000000 + gv ∧ 1 ≤ x.2.1 ∧ x.2.1 ≤ wk ∧ now + 1 ≤ x.2.2 ∧ x.2.2 ≤ now + 12

set_option maxHeartbeats 1000000 in
set_option maxRecDepth 100000 in
theorem seatsHold_any (wk : Int) (up : Bool) (now sn ep gv : Int) (a1 a2 ar aj az ao : Option Addr) (n1 c1 n2 c2 nr cr nj cj ns cs no co : Nat) (bs os' : Nat) (S : List (Bool × Int)) (w : World) (hS : T2At w az bs os' ns S) :
    Calls Tryz.prog 89 #[.agg #[.int .i64 wk, .bool up, .int .i64 now, .int .i64 sn, .int .i64 ep, .int .i64 gv, .slice a1 n1 c1, .slice a2 n2 c2, .slice ar nr cr, .slice aj nj cj, .slice az ns cs, .slice ao no co]] w fun e w' => RetB e ((ns : Int) = wk ∧ seatsOk S ns) ∧ Below w.heap.size w w' := by
  have hmax := hS.max
  unfold maxLen at hmax
  obtain ⟨W, hW⟩ : ∃ W, W = w.alloc (.cells #[.int .i64 wk, .bool up, .int .i64 now, .int .i64 sn, .int .i64 ep, .int .i64 gv, .slice a1 n1 c1, .slice a2 n2 c2, .slice ar nr cr, .slice aj nj cj, .slice az ns cs, .slice ao no co] 47) := ⟨_, rfl⟩
  have hbW : Below w.heap.size w W := by rw [hW]; exact (Below.refl _ _).alloc (Nat.le_refl _) _
  have hsW : W.heap.size = w.heap.size + 1 := by rw [hW]; simp
  have hMC : MC W w.heap.size [.int .i64 wk, .bool up, .int .i64 now, .int .i64 sn, .int .i64 ep, .int .i64 gv, .slice a1 n1 c1, .slice a2 n2 c2, .slice ar nr cr, .slice aj nj cj, .slice az ns cs, .slice ao no co] := by rw [hW]; exact MC.made w _ _
  by_cases hn : (ns : Int) = wk
  · have hn' : ((ns : Int) == wk) = true := by simpa using hn
    have hn'' : ((ns : Int) != wk) = false := by simpa using hn
    have HN := hid hn
    clear hn
    have q0 : W.cell? ⟨w.heap.size, 0, none⟩ = some (.int .i64 wk) := hMC 0 (by simp)
    have q10 : W.cell? ⟨w.heap.size, 10, none⟩ = some (.slice az ns cs) := hMC 10 (by simp)
    clear hMC
    go_enter Tryz.func89, Tryz.ntmps89
    go_upto_region 1 with fail
    rw [← hW]
    clear hW
    go_wp2
    go_loopw [14] (fun i wr => ∃ k : Nat, k ≤ ns ∧ i = .int .i64 k ∧ seatsOk S k ∧ Below w.heap.size w wr) (fun i _ => ns - (intOf i).toNat)
    case atStart => exact ⟨0, Nat.zero_le _, rfl, fun j hj => absurd hj (by omega), hbW⟩
    case round =>
      obtain ⟨k, hk, rfl, hok, hb⟩ := hrel
      by_cases hlt : k < ns
      · obtain rfl := hS.ad (by omega)
        have hc0 := (hS.below' hb).c0 k hlt
        have hc1 := (hS.below' hb).c1 k hlt
        obtain ⟨⟨fr, ee⟩, hx⟩ : ∃ x, x = t2 S k := ⟨_, rfl⟩
        rw [← hx] at hc0 hc1
        dsimp only at hc0 hc1
        have HX := hid hx
        clear hx
        have hlt' : (k : Int) < (ns : Int) := by omega
        have hb' : Below w.heap.size w (wr.alloc (.cells #[.bool fr, .int .i64 ee] 124)) := hb.alloc hb.size _
        go_wp2_with fail
        refine (within_any _ _ _ _).mono ?_
        rintro e w1 ⟨rfl, rfl⟩
        cases hE : inB ee 0 300 with
        | false =>
          have HE := hid (inB_f hE)
          go_wp2
          go_ret
          refine ⟨RetB.f fun hh => HE.out ?_, hb'⟩
          have := hh.2 k hlt
          rw [← HX.out] at this
          exact this
        | true =>
          have HE := hid (inB_t hE)
          go_wp2
          go_roundw
          case rel =>
            refine ⟨k + 1, by omega, by go_num, fun j hj => ?_, hb'⟩
            by_cases e : j = k
            · subst e; rw [← HX.out]; exact HE.out
            · exact hok j (by omega)
          case measure => simp [intOf]; omega
      · obtain rfl : k = ns := by omega
        go_wp2
        go_ret
        exact ⟨RetB.t ⟨HN.out, hok⟩, hb⟩
  · have hn' : ((ns : Int) == wk) = false := by simpa using hn
    clear hMC
    go_enter Tryz.func89, Tryz.ntmps89
    go_wp2
    go_ret
    exact ⟨RetB.f fun hh => hn hh.1, by rw [← hW]; exact hbW⟩

set_option maxHeartbeats 1000000 in
set_option maxRecDepth 100000 in
theorem owedHolds_any (wk : Int) (up : Bool) (now sn ep gv : Int) (a1 a2 ar aj az ao : Option Addr) (n1 c1 n2 c2 nr cr nj cj ns cs no co : Nat) (bo oo br or' : Nat) (O : List Tr) (R : List ByteArray) (w : World) (hO : T3At w ao bo oo no O) (hR : StrsAt w ar br or' nr R) :
    Calls Tryz.prog 90 #[.agg #[.int .i64 wk, .bool up, .int .i64 now, .int .i64 sn, .int .i64 ep, .int .i64 gv, .slice a1 n1 c1, .slice a2 n2 c2, .slice ar nr cr, .slice aj nj cj, .slice az ns cs, .slice ao no co]] w fun e w' => RetB e (no ≤ 2000 ∧ owedOk wk R O no) ∧ Below w.heap.size w w' := by
  have hmax := hO.max
  have hmaxr := hR.max
  unfold maxLen at hmax hmaxr
  obtain ⟨W, hW⟩ : ∃ W, W = w.alloc (.cells #[.int .i64 wk, .bool up, .int .i64 now, .int .i64 sn, .int .i64 ep, .int .i64 gv, .slice a1 n1 c1, .slice a2 n2 c2, .slice ar nr cr, .slice aj nj cj, .slice az ns cs, .slice ao no co] 47) := ⟨_, rfl⟩
  have hbW : Below w.heap.size w W := by rw [hW]; exact (Below.refl _ _).alloc (Nat.le_refl _) _
  have hsW : W.heap.size = w.heap.size + 1 := by rw [hW]; simp
  have hMC : MC W w.heap.size [.int .i64 wk, .bool up, .int .i64 now, .int .i64 sn, .int .i64 ep, .int .i64 gv, .slice a1 n1 c1, .slice a2 n2 c2, .slice ar nr cr, .slice aj nj cj, .slice az ns cs, .slice ao no co] := by rw [hW]; exact MC.made w _ _
  by_cases hn : 2000 < no
  · clear hMC
    go_enter Tryz.func90, Tryz.ntmps90
    go_wp2
    go_ret
    exact ⟨RetB.f fun hh => by have := hh.1; omega, by rw [← hW]; exact hbW⟩
  · have q10 : W.cell? ⟨w.heap.size, 11, none⟩ = some (.slice ao no co) := hMC 11 (by simp)
    have HM := hid hMC
    have HRL := hid hR.len
    clear hMC
    go_enter Tryz.func90, Tryz.ntmps90
    go_upto_region 1 with fail
    rw [← hW]
    clear hW
    go_wp2
    clear q10
    go_loopw [12] (fun i wr => ∃ k : Nat, k ≤ no ∧ i = .int .i64 k ∧ owedOk wk R O k ∧ Below W.heap.size W wr) (fun i _ => no - (intOf i).toNat)
    case atStart => exact ⟨0, Nat.zero_le _, rfl, fun j hj => absurd hj (by omega), Below.refl _ _⟩
    case round =>
      obtain ⟨k, hk, rfl, hok, hb⟩ := hrel
      have hB := hbW.trans (hb.mono (by omega))
      by_cases hlt : k < no
      · obtain rfl := hO.ad (by omega)
        have hc0 := (hO.below' hB).c0 k hlt
        have hc1 := (hO.below' hB).c1 k hlt
        have hc2 := (hO.below' hB).c2 k hlt
        obtain ⟨⟨x0, x1, x2⟩, hx⟩ : ∃ x, x = t3 O k := ⟨_, rfl⟩
        rw [← hx] at hc0 hc1 hc2
        dsimp only at hc0 hc1 hc2
        have HX := hid hx
        clear hx
        have hlt' : (k : Int) < (no : Int) := by omega
        have hsz := hb.size
        obtain ⟨V, hV⟩ : ∃ V, V = wr.alloc (.cells #[.int .i64 x0, .int .i64 x1, .int .i64 x2] 126) := ⟨_, rfl⟩
        have hbV : Below wr.heap.size wr V := by rw [hV]; exact (Below.refl _ _).alloc (Nat.le_refl _) _
        have hmV : MC V wr.heap.size [.int .i64 x0, .int .i64 x1, .int .i64 x2] := by rw [hV]; exact MC.made wr _ _
        have hbb := hb.trans (hbV.mono hsz)
        have hB' := hbW.trans (hbb.mono (by omega))
        have y0 : V.cell? ⟨wr.heap.size, 0, none⟩ = some (.int .i64 x0) := hmV 0 (by simp)
        have y1 : V.cell? ⟨wr.heap.size, 1, none⟩ = some (.int .i64 x1) := hmV 1 (by simp)
        have y2 : V.cell? ⟨wr.heap.size, 2, none⟩ = some (.int .i64 x2) := hmV 2 (by simp)
        have z0 : V.cell? ⟨w.heap.size, 0, none⟩ = some (.int .i64 wk) := keepB hbb (HM.out 0 (by simp))
        have z8 : V.cell? ⟨w.heap.size, 8, none⟩ = some (.slice ar nr cr) := keepB hbb (HM.out 8 (by simp))
        clear hmV
        have HNO : Hid (¬ owedOk1 wk R (x0, x1, x2) → ¬ (no ≤ 2000 ∧ owedOk wk R O no)) := fun hh hq => hh (by have := hq.2 k hlt; rw [← HX.out] at this; exact this)
        go_upto_region 6 with fail
        rw [← hV]
        clear hV
        cases hA : inB x0 1 wk with
        | false =>
          have HA := hid (inB_f hA)
          go_wp2_with (first | (go_at_call 85; refine (within_any _ _ _ _).mono ?_; rintro e w1 ⟨rfl, rfl⟩))
          go_ret
          exact ⟨RetB.f (HNO.out fun hh => HA.out ⟨hh.1, hh.2.1⟩), hB'⟩
        | true =>
          have HA := hid (inB_t hA)
          cases hL : inB x1 1 300000000 with
          | false =>
            have HL := hid (inB_f hL)
            go_wp2_with (first | (go_at_call 85; refine (within_any _ _ _ _).mono ?_; rintro e w1 ⟨rfl, rfl⟩) | (go_at_call 118; refine (leaseHolds_t _ _ _ hL).mono ?_; rintro e w1 ⟨rfl, rfl⟩))
            go_ret
            exact ⟨RetB.f (HNO.out fun hh => HL.out ⟨hh.2.2.1, hh.2.2.2.1⟩), hB'⟩
          | true =>
            have HL := hid (inB_t hL)
            cases hT : inB x2 0 ((nr : Int) - 1) with
            | false =>
              have HT := hid (inB_f hT)
              go_wp2_with (first | (go_at_call 85; refine (within_any _ _ _ _).mono ?_; rintro e w1 ⟨rfl, rfl⟩) | (go_at_call 118; refine (leaseHolds_t _ _ _ hL).mono ?_; rintro e w1 ⟨rfl, rfl⟩))
              go_ret
              exact ⟨RetB.f (HNO.out fun hh => HT.out (by have h1 := hh.2.2.2.2; rw [HRL.out] at h1; exact ⟨h1.1, by have := h1.2.1; dsimp only at this; omega⟩)), hB'⟩
            | true =>
              have HT := hid (inB_t hT)
              obtain ⟨xn, rfl⟩ : ∃ xn : Nat, x2 = xn := ⟨x2.toNat, by have := HT.out; omega⟩
              have hxn : xn < nr := by have := HT.out; omega
              obtain rfl := hR.ad (by omega)
              have hcr := (hR.below' hB').cell xn hxn
              obtain ⟨s, hs⟩ : ∃ s, s = R.getD xn ByteArray.empty := ⟨_, rfl⟩
              rw [← hs] at hcr
              have HS : Hid (rs R xn = s) := by rw [hs]; rfl
              clear hs
              have hxn' : (xn : Int) < (nr : Int) := by omega
              by_cases hz : s.size = 0
              · have hz' := empty_t hz
                have HZ := hid hz
                clear hz
                go_wp2_with (first | (go_at_call 85; refine (within_any _ _ _ _).mono ?_; rintro e w1 ⟨rfl, rfl⟩) | (go_at_call 118; refine (leaseHolds_t _ _ _ hL).mono ?_; rintro e w1 ⟨rfl, rfl⟩))
                go_ret
                exact ⟨RetB.f (HNO.out fun hh => hh.2.2.2.2.2.2 (by show (rs R xn).size = 0; rw [HS.out]; exact HZ.out)), hB'⟩
              · have hz' := empty_f hz
                have HZ := hid hz
                clear hz
                go_wp2_with (first | (go_at_call 85; refine (within_any _ _ _ _).mono ?_; rintro e w1 ⟨rfl, rfl⟩) | (go_at_call 118; refine (leaseHolds_t _ _ _ hL).mono ?_; rintro e w1 ⟨rfl, rfl⟩))
                go_roundw
                case rel =>
                  refine ⟨k + 1, by omega, by go_num, fun j hj => ?_, hbb⟩
                  by_cases e : j = k
                  · subst e; rw [← HX.out]
                    exact ⟨HA.out.1, HA.out.2, HL.out.1, HL.out.2, HT.out.1, by show (xn : Int) < _; rw [HRL.out]; omega, by show ¬ (rs R xn).size = 0; rw [HS.out]; exact HZ.out⟩
                  · exact hok j (by omega)
                case measure => simp [intOf]; omega
      · obtain rfl : k = no := by omega
        go_wp2
        go_ret
        exact ⟨RetB.t ⟨by omega, hok⟩, hB⟩

/-- Nothing but workers, log and time. -/
def isDown (sn ep gv : Int) (n2 nr nj ns no : Nat) : Prop := n2 = 0 ∧ sn = 0 ∧ ep = 0 ∧ gv = 0 ∧ nr = 0 ∧ nj = 0 ∧ ns = 0 ∧ no = 0
set_option maxHeartbeats 1000000 in
set_option maxRecDepth 100000 in
theorem downHolds_any (wk : Int) (up : Bool) (now sn ep gv : Int) (a1 a2 ar aj az ao : Option Addr) (n1 c1 n2 c2 nr cr nj cj ns cs no co : Nat) (w : World) :
    Calls Tryz.prog 86 #[.agg #[.int .i64 wk, .bool up, .int .i64 now, .int .i64 sn, .int .i64 ep, .int .i64 gv, .slice a1 n1 c1, .slice a2 n2 c2, .slice ar nr cr, .slice aj nj cj, .slice az ns cs, .slice ao no co]] w fun e w' => RetB e (isDown sn ep gv n2 nr nj ns no) ∧ Below w.heap.size w w' := by
  have hb0 : Below w.heap.size w (w.alloc (.cells #[.int .i64 wk, .bool up, .int .i64 now, .int .i64 sn, .int .i64 ep, .int .i64 gv, .slice a1 n1 c1, .slice a2 n2 c2, .slice ar nr cr, .slice aj nj cj, .slice az ns cs, .slice ao no co] 47)) := (Below.refl _ _).alloc (Nat.le_refl _) _
  by_cases g0 : n2 = 0
  · have g0' : ((n2 : Int) == 0) = true := by simp; omega
    have G0 := hid g0
    clear g0
    by_cases g1 : sn = 0
    · have g1' : (sn == 0) = true := by simp; omega
      have G1 := hid g1
      clear g1
      by_cases g2 : ep = 0
      · have g2' : (ep == 0) = true := by simp; omega
        have G2 := hid g2
        clear g2
        by_cases g3 : gv = 0
        · have g3' : (gv == 0) = true := by simp; omega
          have G3 := hid g3
          clear g3
          by_cases g4 : nr = 0
          · have g4' : ((nr : Int) == 0) = true := by simp; omega
            have G4 := hid g4
            clear g4
            by_cases g5 : nj = 0
            · have g5' : ((nj : Int) == 0) = true := by simp; omega
              have G5 := hid g5
              clear g5
              by_cases g6 : ns = 0
              · have g6' : ((ns : Int) == 0) = true := by simp; omega
                have G6 := hid g6
                clear g6
                by_cases g7 : no = 0
                · have g7' : ((no : Int) == 0) = true := by simp; omega
                  have G7 := hid g7
                  clear g7
                  go_enter Tryz.func86, Tryz.ntmps86
                  go_wp2
                  go_ret
                  exact ⟨RetB.t ⟨G0.out, G1.out, G2.out, G3.out, G4.out, G5.out, G6.out, G7.out⟩, hb0⟩
                · have g7' : ((no : Int) == 0) = false := by simp; omega
                  have G7 := hid g7
                  clear g7
                  go_enter Tryz.func86, Tryz.ntmps86
                  go_wp2
                  go_ret
                  exact ⟨RetB.f fun hh => G7.out (by unfold isDown at hh; omega), hb0⟩
              · have g6' : ((ns : Int) == 0) = false := by simp; omega
                have G6 := hid g6
                clear g6
                go_enter Tryz.func86, Tryz.ntmps86
                go_wp2
                go_ret
                exact ⟨RetB.f fun hh => G6.out (by unfold isDown at hh; omega), hb0⟩
            · have g5' : ((nj : Int) == 0) = false := by simp; omega
              have G5 := hid g5
              clear g5
              go_enter Tryz.func86, Tryz.ntmps86
              go_wp2
              go_ret
              exact ⟨RetB.f fun hh => G5.out (by unfold isDown at hh; omega), hb0⟩
          · have g4' : ((nr : Int) == 0) = false := by simp; omega
            have G4 := hid g4
            clear g4
            go_enter Tryz.func86, Tryz.ntmps86
            go_wp2
            go_ret
            exact ⟨RetB.f fun hh => G4.out (by unfold isDown at hh; omega), hb0⟩
        · have g3' : (gv == 0) = false := by simp; omega
          have G3 := hid g3
          clear g3
          go_enter Tryz.func86, Tryz.ntmps86
          go_wp2
          go_ret
          exact ⟨RetB.f fun hh => G3.out (by unfold isDown at hh; omega), hb0⟩
      · have g2' : (ep == 0) = false := by simp; omega
        have G2 := hid g2
        clear g2
        go_enter Tryz.func86, Tryz.ntmps86
        go_wp2
        go_ret
        exact ⟨RetB.f fun hh => G2.out (by unfold isDown at hh; omega), hb0⟩
    · have g1' : (sn == 0) = false := by simp; omega
      have G1 := hid g1
      clear g1
      go_enter Tryz.func86, Tryz.ntmps86
      go_wp2
      go_ret
      exact ⟨RetB.f fun hh => G1.out (by unfold isDown at hh; omega), hb0⟩
  · have g0' : ((n2 : Int) == 0) = false := by simp; omega
    have G0 := hid g0
    clear g0
    go_enter Tryz.func86, Tryz.ntmps86
    go_wp2
    go_ret
    exact ⟨RetB.f fun hh => G0.out (by unfold isDown at hh; omega), hb0⟩
end Go.Proofs.YthopfmhagddhgaaGreat

namespace Go.Proofs.YthopfmhagddhgaaGreat
open Go.RowKit

set_option maxHeartbeats 400000 in
theorem szJobS_any (a : Option Addr) (n c : Nat) (left : Int) (w : World) (hl0 : 0 ≤ left) (hl1 : left ≤ 1048576) (hn : n ≤ maxLen) :
    Calls Tryz.prog 48 #[.slice a n c, .int .i64 left] w fun e w' => (∃ r, e = .returned (.int .i64 r) ∧ (r = -1 ∨ r = left - n ∧ 0 ≤ r)) ∧ w' = w := by
  unfold maxLen at hn
  by_cases h1 : left - n < 0
  · go_enter Tryz.func48, Tryz.ntmps48
    go_wp2
    go_ret
    exact ⟨⟨_, rfl, .inl rfl⟩, rfl⟩
  · go_enter Tryz.func48, Tryz.ntmps48
    go_wp2
    go_ret
    exact ⟨⟨_, rfl, .inr ⟨rfl, by omega⟩⟩, rfl⟩

theorem Tryz.infoJob : (Tryz.prog.info? 153).map (fun i => (i.zero, i.size, i.bytes)) = some (some (.agg #[.int .i64 0, .int .i64 0, .int .i64 0]), 3, 24) := by kernel_rfl

set_option maxHeartbeats 400000 in
set_option maxRecDepth 100000 in
theorem toJob_any (x0 : Int) (x1 : Int) (x2 : Int) (w : World) :
    Calls Tryz.prog 105 #[.agg #[.int .i64 x0, .int .i64 x1, .int .i64 x2]] w fun e w' => e = .returned (.agg #[.int .i64 x0, .int .i64 x1, .int .i64 x2]) ∧ Below w.heap.size w w' := by
  go_enter Tryz.func105, Tryz.ntmps105
  go_wp2
  refine bodyPost_ret (v := .agg #[.int .i64 x0, .int .i64 x1, .int .i64 x2]) (by simp [results, Tryz.results105, go_sem]) rfl ⟨rfl, ?_⟩
  repeat (first | exact Below.refl _ _ | refine Below.setCell ?_ (by first | exact Nat.le_refl _ | (dsimp only; omega) | (simp; done) | (simp; omega)) _ | refine Below.alloc ?_ (by first | (simp; done) | (simp; omega)) _)

set_option maxHeartbeats 1000000 in
set_option maxRecDepth 100000 in
theorem toJobS_any (a : Option Addr) (b o n c : Nat) (J : List Tr) (w : World) (h : T3At w a b o n J) (hn : n ≤ 1048576) :
    Calls Tryz.prog 55 #[.slice a n c] w fun e w' => ∃ g xs, e = .returned (.slice (some ⟨g, 0, none⟩) n n) ∧ OwnC w.heap.size w' 3 g 0 n n xs ∧ T3At w' (some ⟨g, 0, none⟩) g 0 n J ∧ Below w.heap.size w w' := by
  obtain ⟨i0, hi, hz0, hz1, hz2⟩ := info_parts Tryz.infoJob
  go_enter Tryz.func55, Tryz.ntmps55
  go_wp2_with (refine wpList_make_c _ rfl _ _ 43 rfl w.heap.size 153 i0 (.agg #[.int .i64 0, .int .i64 0, .int .i64 0]) 3 24 Tryz.underlying43 hi hz0 hz1 hz2 .i64 .i64 n n n rfl rfl rfl rfl (by omega) (by unfold maxLen; omega) (Nat.le_refl _) ?_; intro w1 hown hgr)
  go_loopw [4] (fun i wr => ∃ k : Nat, k ≤ n ∧ i = .int .i64 k ∧ (∃ xs, OwnC w.heap.size wr 3 w.heap.size 0 n n xs ∧ ∀ j, j < k → xs[j * 3]? = some (.int .i64 (t3 J j).1) ∧ xs[j * 3 + 1]? = some (.int .i64 (t3 J j).2.1) ∧ xs[j * 3 + 2]? = some (.int .i64 (t3 J j).2.2)) ∧ Below w.heap.size w wr) (fun i _ => n - (intOf i).toNat)
  case atStart => exact ⟨0, Nat.zero_le _, rfl, ⟨_, hown, fun j hj => absurd hj (by omega)⟩, (Below.refl _ _).grown hgr (Nat.le_refl _) (by simp)⟩
  case round =>
    obtain ⟨k, hk, rfl, ⟨xs, ho, hbu⟩, hb⟩ := hrel
    by_cases hlt : k < n
    · obtain rfl := h.ad (by omega)
      have hc0 := (h.below' hb).c0 k hlt
      have hc1 := (h.below' hb).c1 k hlt
      have hc2 := (h.below' hb).c2 k hlt
      obtain ⟨⟨x0, x1, x2⟩, hx⟩ : ∃ x, x = t3 J k := ⟨_, rfl⟩
      rw [← hx] at hc0 hc1 hc2
      dsimp only at hc0 hc1 hc2
      have HX := hid hx
      clear hx
      have hlt' : (k : Int) < (n : Int) := by omega
      go_wp2_with fail
      refine (toJob_any x0 x1 x2 _).mono ?_
      rintro e w2 ⟨rfl, hb2⟩
      have ho2 := ho.below hb2 ho.hi
      have hhi := ho.hi
      have hb' := hb.trans (hb2.mono hb.size)
      obtain ⟨u0, _, hq0⟩ := ho2.cellSome (j := k * 3) (by omega)
      obtain ⟨u1, _, hq1⟩ := ho2.cellSome (j := k * 3 + 1) (by omega)
      obtain ⟨u2, _, hq2⟩ := ho2.cellSome (j := k * 3 + 2) (by omega)
      have hf0 := ho2.notFrozen (j := k * 3) (by omega)
      have hf1 := ho2.notFrozen (j := k * 3 + 1) (by omega)
      have hf2 := ho2.notFrozen (j := k * 3 + 2) (by omega)
      have hlen : k * 3 + 2 < xs.length := by rw [ho2.len]; omega
      have ho' := (((ho2.setCell (j := k * 3) (by omega) (.int .i64 x0)).setCell (j := k * 3 + 1) (by omega) (.int .i64 x1)).setCell (j := k * 3 + 2) (by omega) (.int .i64 x2))
      have hb3 := (((hb'.setCell (p := ⟨w.heap.size, k * 3, none⟩) (Nat.le_refl _) (.int .i64 x0)).setCell (p := ⟨w.heap.size, k * 3 + 1, none⟩) (Nat.le_refl _) (.int .i64 x1)).setCell (p := ⟨w.heap.size, k * 3 + 2, none⟩) (Nat.le_refl _) (.int .i64 x2))
      simp only [Nat.zero_add] at hq0 hq1 hq2 hf0 hf1 hf2 ho'
      have HBU := hid hbu
      have HLEN := hid hlen
      clear ho2 ho hb2 hb' hbu hlen
      go_wp2
      go_roundw
      case rel =>
        refine ⟨k + 1, by omega, by go_num, ⟨_, ho', fun j hj => ?_⟩, hb3⟩
        have hl := HLEN.out
        by_cases e : j = k
        · subst e
          rw [← HX.out]
          exact ⟨by simp [List.getElem?_set]; omega, by simp [List.getElem?_set]; omega, by simp [List.getElem?_set]; omega⟩
        · obtain ⟨g0, g1, g2⟩ := HBU.out j (by omega)
          exact ⟨by rw [List.getElem?_set_ne (by omega), List.getElem?_set_ne (by omega), List.getElem?_set_ne (by omega)]; exact g0, by rw [List.getElem?_set_ne (by omega), List.getElem?_set_ne (by omega), List.getElem?_set_ne (by omega)]; exact g1, by rw [List.getElem?_set_ne (by omega), List.getElem?_set_ne (by omega), List.getElem?_set_ne (by omega)]; exact g2⟩
      case measure => simp [intOf]; omega
    · obtain rfl : k = n := by omega
      go_wp2
      go_ret
      refine ⟨_, xs, rfl, ho, ⟨fun _ => rfl, h.len, by unfold maxLen; omega, fun _ => ho.hi, fun j hj => ?c0, fun j hj => ?c1, fun j hj => ?c2, h.rng⟩, hb⟩
      case c0 => have h9 := ho.holds (j * 3) (by omega); rw [(hbu j hj).1] at h9; simpa [Nat.add_assoc] using h9
      case c1 => have h9 := ho.holds (j * 3 + 1) (by omega); rw [(hbu j hj).2.1] at h9; simpa [Nat.add_assoc] using h9
      case c2 => have h9 := ho.holds (j * 3 + 2) (by omega); rw [(hbu j hj).2.2] at h9; simpa [Nat.add_assoc] using h9

set_option maxHeartbeats 400000 in
set_option maxRecDepth 100000 in
theorem eqJob_any (x0 : Int) (x1 : Int) (x2 : Int) (w : World) :
    Calls Tryz.prog 109 #[.agg #[.int .i64 x0, .int .i64 x1, .int .i64 x2], .agg #[.int .i64 x0, .int .i64 x1, .int .i64 x2]] w fun e w' => e = .returned (.bool true) ∧ Below w.heap.size w w' := by
  go_enter Tryz.func109, Tryz.ntmps109
  go_wp2
  go_ret
  exact ⟨rfl, ((Below.refl _ _).alloc (Nat.le_refl _) _).alloc (by simp) _⟩

set_option maxHeartbeats 1000000 in
theorem eqJobS_any (a a' : Option Addr) (b o n c b' o' c' : Nat) (J : List Tr) (w : World) (h : T3At w a b o n J) (h' : T3At w a' b' o' n J) :
    Calls Tryz.prog 62 #[.slice a n c, .slice a' n c'] w fun e w' => e = .returned (.bool true) ∧ Below w.heap.size w w' := by
  have hmax := h.max
  unfold maxLen at hmax
  go_enter Tryz.func62, Tryz.ntmps62
  go_wp2
  go_loopw [5] (fun i wr => ∃ k : Nat, k ≤ n ∧ i = .int .i64 k ∧ Below w.heap.size w wr) (fun i _ => n - (intOf i).toNat)
  case atStart => exact ⟨0, Nat.zero_le _, rfl, Below.refl _ _⟩
  case round =>
    obtain ⟨k, hk, rfl, hb⟩ := hrel
    by_cases hlt : k < n
    · obtain rfl := h.ad (by omega)
      obtain rfl := h'.ad (by omega)
      have hc0 := (h.below' hb).c0 k hlt
      have hd0 := (h'.below' hb).c0 k hlt
      have hc1 := (h.below' hb).c1 k hlt
      have hd1 := (h'.below' hb).c1 k hlt
      have hc2 := (h.below' hb).c2 k hlt
      have hd2 := (h'.below' hb).c2 k hlt
      obtain ⟨⟨x0, x1, x2⟩, hx⟩ : ∃ x, x = t3 J k := ⟨_, rfl⟩
      rw [← hx] at hc0 hd0 hc1 hd1 hc2 hd2
      dsimp only at hc0 hd0 hc1 hd1 hc2 hd2
      clear hx
      have hlt' : (k : Int) < (n : Int) := by omega
      have hbb : Below w.heap.size w wr.drew := hb.drew
      go_wp2
      go_region_held3 (fun w' => w'.cell? ⟨b, o + k * 3, none⟩ = some (.int .i64 x0) ∧ w'.cell? ⟨b, o + k * 3 + 1, none⟩ = some (.int .i64 x1) ∧ w'.cell? ⟨b, o + k * 3 + 2, none⟩ = some (.int .i64 x2) ∧ w'.cell? ⟨b', o' + k * 3, none⟩ = some (.int .i64 x0) ∧ w'.cell? ⟨b', o' + k * 3 + 1, none⟩ = some (.int .i64 x1) ∧ w'.cell? ⟨b', o' + k * 3 + 2, none⟩ = some (.int .i64 x2)) (first | (simp [go_sem, *]; done) | assumption)
        (first
          | (go_at_call 109; refine (eqJob_any x0 x1 x2 _).mono ?_; rintro e w1 ⟨rfl, hb1⟩; have q0 := keepC hb1 hc0; have r0 := keepC hb1 hd0; have q1 := keepC hb1 hc1; have r1 := keepC hb1 hd1; have q2 := keepC hb1 hc2; have r2 := keepC hb1 hd2))
      go_wp2
      go_roundw
      case rel => exact ⟨k + 1, by omega, by go_num, hbb.trans (hb1.mono hbb.size)⟩
      case measure => simp [intOf]; omega
    · go_wp2
      go_ret
      exact ⟨rfl, hb⟩

set_option maxHeartbeats 400000 in
theorem szOwedS_any (a : Option Addr) (n c : Nat) (left : Int) (w : World) (hl0 : 0 ≤ left) (hl1 : left ≤ 1048576) (hn : n ≤ maxLen) :
    Calls Tryz.prog 50 #[.slice a n c, .int .i64 left] w fun e w' => (∃ r, e = .returned (.int .i64 r) ∧ (r = -1 ∨ r = left - n ∧ 0 ≤ r)) ∧ w' = w := by
  unfold maxLen at hn
  by_cases h1 : left - n < 0
  · go_enter Tryz.func50, Tryz.ntmps50
    go_wp2
    go_ret
    exact ⟨⟨_, rfl, .inl rfl⟩, rfl⟩
  · go_enter Tryz.func50, Tryz.ntmps50
    go_wp2
    go_ret
    exact ⟨⟨_, rfl, .inr ⟨rfl, by omega⟩⟩, rfl⟩

theorem Tryz.infoOwed : (Tryz.prog.info? 126).map (fun i => (i.zero, i.size, i.bytes)) = some (some (.agg #[.int .i64 0, .int .i64 0, .int .i64 0]), 3, 24) := by kernel_rfl

set_option maxHeartbeats 400000 in
set_option maxRecDepth 100000 in
theorem toOwed_any (x0 : Int) (x1 : Int) (x2 : Int) (w : World) :
    Calls Tryz.prog 107 #[.agg #[.int .i64 x0, .int .i64 x1, .int .i64 x2]] w fun e w' => e = .returned (.agg #[.int .i64 x0, .int .i64 x1, .int .i64 x2]) ∧ Below w.heap.size w w' := by
  go_enter Tryz.func107, Tryz.ntmps107
  go_wp2
  refine bodyPost_ret (v := .agg #[.int .i64 x0, .int .i64 x1, .int .i64 x2]) (by simp [results, Tryz.results107, go_sem]) rfl ⟨rfl, ?_⟩
  repeat (first | exact Below.refl _ _ | refine Below.setCell ?_ (by first | exact Nat.le_refl _ | (dsimp only; omega) | (simp; done) | (simp; omega)) _ | refine Below.alloc ?_ (by first | (simp; done) | (simp; omega)) _)

set_option maxHeartbeats 1000000 in
set_option maxRecDepth 100000 in
theorem toOwedS_any (a : Option Addr) (b o n c : Nat) (J : List Tr) (w : World) (h : T3At w a b o n J) (hn : n ≤ 1048576) :
    Calls Tryz.prog 57 #[.slice a n c] w fun e w' => ∃ g xs, e = .returned (.slice (some ⟨g, 0, none⟩) n n) ∧ OwnC w.heap.size w' 3 g 0 n n xs ∧ T3At w' (some ⟨g, 0, none⟩) g 0 n J ∧ Below w.heap.size w w' := by
  obtain ⟨i0, hi, hz0, hz1, hz2⟩ := info_parts Tryz.infoOwed
  go_enter Tryz.func57, Tryz.ntmps57
  go_wp2_with (refine wpList_make_c _ rfl _ _ 45 rfl w.heap.size 126 i0 (.agg #[.int .i64 0, .int .i64 0, .int .i64 0]) 3 24 Tryz.underlying45 hi hz0 hz1 hz2 .i64 .i64 n n n rfl rfl rfl rfl (by omega) (by unfold maxLen; omega) (Nat.le_refl _) ?_; intro w1 hown hgr)
  go_loopw [4] (fun i wr => ∃ k : Nat, k ≤ n ∧ i = .int .i64 k ∧ (∃ xs, OwnC w.heap.size wr 3 w.heap.size 0 n n xs ∧ ∀ j, j < k → xs[j * 3]? = some (.int .i64 (t3 J j).1) ∧ xs[j * 3 + 1]? = some (.int .i64 (t3 J j).2.1) ∧ xs[j * 3 + 2]? = some (.int .i64 (t3 J j).2.2)) ∧ Below w.heap.size w wr) (fun i _ => n - (intOf i).toNat)
  case atStart => exact ⟨0, Nat.zero_le _, rfl, ⟨_, hown, fun j hj => absurd hj (by omega)⟩, (Below.refl _ _).grown hgr (Nat.le_refl _) (by simp)⟩
  case round =>
    obtain ⟨k, hk, rfl, ⟨xs, ho, hbu⟩, hb⟩ := hrel
    by_cases hlt : k < n
    · obtain rfl := h.ad (by omega)
      have hc0 := (h.below' hb).c0 k hlt
      have hc1 := (h.below' hb).c1 k hlt
      have hc2 := (h.below' hb).c2 k hlt
      obtain ⟨⟨x0, x1, x2⟩, hx⟩ : ∃ x, x = t3 J k := ⟨_, rfl⟩
      rw [← hx] at hc0 hc1 hc2
      dsimp only at hc0 hc1 hc2
      have HX := hid hx
      clear hx
      have hlt' : (k : Int) < (n : Int) := by omega
      go_wp2_with fail
      refine (toOwed_any x0 x1 x2 _).mono ?_
      rintro e w2 ⟨rfl, hb2⟩
      have ho2 := ho.below hb2 ho.hi
      have hhi := ho.hi
      have hb' := hb.trans (hb2.mono hb.size)
      obtain ⟨u0, _, hq0⟩ := ho2.cellSome (j := k * 3) (by omega)
      obtain ⟨u1, _, hq1⟩ := ho2.cellSome (j := k * 3 + 1) (by omega)
      obtain ⟨u2, _, hq2⟩ := ho2.cellSome (j := k * 3 + 2) (by omega)
      have hf0 := ho2.notFrozen (j := k * 3) (by omega)
      have hf1 := ho2.notFrozen (j := k * 3 + 1) (by omega)
      have hf2 := ho2.notFrozen (j := k * 3 + 2) (by omega)
      have hlen : k * 3 + 2 < xs.length := by rw [ho2.len]; omega
      have ho' := (((ho2.setCell (j := k * 3) (by omega) (.int .i64 x0)).setCell (j := k * 3 + 1) (by omega) (.int .i64 x1)).setCell (j := k * 3 + 2) (by omega) (.int .i64 x2))
      have hb3 := (((hb'.setCell (p := ⟨w.heap.size, k * 3, none⟩) (Nat.le_refl _) (.int .i64 x0)).setCell (p := ⟨w.heap.size, k * 3 + 1, none⟩) (Nat.le_refl _) (.int .i64 x1)).setCell (p := ⟨w.heap.size, k * 3 + 2, none⟩) (Nat.le_refl _) (.int .i64 x2))
      simp only [Nat.zero_add] at hq0 hq1 hq2 hf0 hf1 hf2 ho'
      have HBU := hid hbu
      have HLEN := hid hlen
      clear ho2 ho hb2 hb' hbu hlen
      go_wp2
      go_roundw
      case rel =>
        refine ⟨k + 1, by omega, by go_num, ⟨_, ho', fun j hj => ?_⟩, hb3⟩
        have hl := HLEN.out
        by_cases e : j = k
        · subst e
          rw [← HX.out]
          exact ⟨by simp [List.getElem?_set]; omega, by simp [List.getElem?_set]; omega, by simp [List.getElem?_set]; omega⟩
        · obtain ⟨g0, g1, g2⟩ := HBU.out j (by omega)
          exact ⟨by rw [List.getElem?_set_ne (by omega), List.getElem?_set_ne (by omega), List.getElem?_set_ne (by omega)]; exact g0, by rw [List.getElem?_set_ne (by omega), List.getElem?_set_ne (by omega), List.getElem?_set_ne (by omega)]; exact g1, by rw [List.getElem?_set_ne (by omega), List.getElem?_set_ne (by omega), List.getElem?_set_ne (by omega)]; exact g2⟩
      case measure => simp [intOf]; omega
    · obtain rfl : k = n := by omega
      go_wp2
      go_ret
      refine ⟨_, xs, rfl, ho, ⟨fun _ => rfl, h.len, by unfold maxLen; omega, fun _ => ho.hi, fun j hj => ?c0, fun j hj => ?c1, fun j hj => ?c2, h.rng⟩, hb⟩
      case c0 => have h9 := ho.holds (j * 3) (by omega); rw [(hbu j hj).1] at h9; simpa [Nat.add_assoc] using h9
      case c1 => have h9 := ho.holds (j * 3 + 1) (by omega); rw [(hbu j hj).2.1] at h9; simpa [Nat.add_assoc] using h9
      case c2 => have h9 := ho.holds (j * 3 + 2) (by omega); rw [(hbu j hj).2.2] at h9; simpa [Nat.add_assoc] using h9

set_option maxHeartbeats 400000 in
set_option maxRecDepth 100000 in
theorem eqOwed_any (x0 : Int) (x1 : Int) (x2 : Int) (w : World) :
    Calls Tryz.prog 111 #[.agg #[.int .i64 x0, .int .i64 x1, .int .i64 x2], .agg #[.int .i64 x0, .int .i64 x1, .int .i64 x2]] w fun e w' => e = .returned (.bool true) ∧ Below w.heap.size w w' := by
  go_enter Tryz.func111, Tryz.ntmps111
  go_wp2
  go_ret
  exact ⟨rfl, ((Below.refl _ _).alloc (Nat.le_refl _) _).alloc (by simp) _⟩

set_option maxHeartbeats 1000000 in
theorem eqOwedS_any (a a' : Option Addr) (b o n c b' o' c' : Nat) (J : List Tr) (w : World) (h : T3At w a b o n J) (h' : T3At w a' b' o' n J) :
    Calls Tryz.prog 64 #[.slice a n c, .slice a' n c'] w fun e w' => e = .returned (.bool true) ∧ Below w.heap.size w w' := by
  have hmax := h.max
  unfold maxLen at hmax
  go_enter Tryz.func64, Tryz.ntmps64
  go_wp2
  go_loopw [5] (fun i wr => ∃ k : Nat, k ≤ n ∧ i = .int .i64 k ∧ Below w.heap.size w wr) (fun i _ => n - (intOf i).toNat)
  case atStart => exact ⟨0, Nat.zero_le _, rfl, Below.refl _ _⟩
  case round =>
    obtain ⟨k, hk, rfl, hb⟩ := hrel
    by_cases hlt : k < n
    · obtain rfl := h.ad (by omega)
      obtain rfl := h'.ad (by omega)
      have hc0 := (h.below' hb).c0 k hlt
      have hd0 := (h'.below' hb).c0 k hlt
      have hc1 := (h.below' hb).c1 k hlt
      have hd1 := (h'.below' hb).c1 k hlt
      have hc2 := (h.below' hb).c2 k hlt
      have hd2 := (h'.below' hb).c2 k hlt
      obtain ⟨⟨x0, x1, x2⟩, hx⟩ : ∃ x, x = t3 J k := ⟨_, rfl⟩
      rw [← hx] at hc0 hd0 hc1 hd1 hc2 hd2
      dsimp only at hc0 hd0 hc1 hd1 hc2 hd2
      clear hx
      have hlt' : (k : Int) < (n : Int) := by omega
      have hbb : Below w.heap.size w wr.drew := hb.drew
      go_wp2
      go_region_held3 (fun w' => w'.cell? ⟨b, o + k * 3, none⟩ = some (.int .i64 x0) ∧ w'.cell? ⟨b, o + k * 3 + 1, none⟩ = some (.int .i64 x1) ∧ w'.cell? ⟨b, o + k * 3 + 2, none⟩ = some (.int .i64 x2) ∧ w'.cell? ⟨b', o' + k * 3, none⟩ = some (.int .i64 x0) ∧ w'.cell? ⟨b', o' + k * 3 + 1, none⟩ = some (.int .i64 x1) ∧ w'.cell? ⟨b', o' + k * 3 + 2, none⟩ = some (.int .i64 x2)) (first | (simp [go_sem, *]; done) | assumption)
        (first
          | (go_at_call 111; refine (eqOwed_any x0 x1 x2 _).mono ?_; rintro e w1 ⟨rfl, hb1⟩; have q0 := keepC hb1 hc0; have r0 := keepC hb1 hd0; have q1 := keepC hb1 hc1; have r1 := keepC hb1 hd1; have q2 := keepC hb1 hc2; have r2 := keepC hb1 hd2))
      go_wp2
      go_roundw
      case rel => exact ⟨k + 1, by omega, by go_num, hbb.trans (hb1.mono hbb.size)⟩
      case measure => simp [intOf]; omega
    · go_wp2
      go_ret
      exact ⟨rfl, hb⟩

set_option maxHeartbeats 400000 in
theorem szSeatS_any (a : Option Addr) (n c : Nat) (left : Int) (w : World) (hl0 : 0 ≤ left) (hl1 : left ≤ 1048576) (hn : n ≤ maxLen) :
    Calls Tryz.prog 49 #[.slice a n c, .int .i64 left] w fun e w' => (∃ r, e = .returned (.int .i64 r) ∧ (r = -1 ∨ r = left - n ∧ 0 ≤ r)) ∧ w' = w := by
  unfold maxLen at hn
  by_cases h1 : left - n < 0
  · go_enter Tryz.func49, Tryz.ntmps49
    go_wp2
    go_ret
    exact ⟨⟨_, rfl, .inl rfl⟩, rfl⟩
  · go_enter Tryz.func49, Tryz.ntmps49
    go_wp2
    go_ret
    exact ⟨⟨_, rfl, .inr ⟨rfl, by omega⟩⟩, rfl⟩

theorem Tryz.infoSeat : (Tryz.prog.info? 124).map (fun i => (i.zero, i.size, i.bytes)) = some (some (.agg #[.bool false, .int .i64 0]), 2, 16) := by kernel_rfl

set_option maxHeartbeats 400000 in
set_option maxRecDepth 100000 in
theorem toSeat_any (x0 : Bool) (x1 : Int) (w : World) :
    Calls Tryz.prog 106 #[.agg #[.bool x0, .int .i64 x1]] w fun e w' => e = .returned (.agg #[.bool x0, .int .i64 x1]) ∧ Below w.heap.size w w' := by
  go_enter Tryz.func106, Tryz.ntmps106
  go_wp2
  refine bodyPost_ret (v := .agg #[.bool x0, .int .i64 x1]) (by simp [results, Tryz.results106, go_sem]) rfl ⟨rfl, ?_⟩
  repeat (first | exact Below.refl _ _ | refine Below.setCell ?_ (by first | exact Nat.le_refl _ | (dsimp only; omega) | (simp; done) | (simp; omega)) _ | refine Below.alloc ?_ (by first | (simp; done) | (simp; omega)) _)

set_option maxHeartbeats 1000000 in
set_option maxRecDepth 100000 in
theorem toSeatS_any (a : Option Addr) (b o n c : Nat) (J : List (Bool × Int)) (w : World) (h : T2At w a b o n J) (hn : n ≤ 1048576) :
    Calls Tryz.prog 56 #[.slice a n c] w fun e w' => ∃ g xs, e = .returned (.slice (some ⟨g, 0, none⟩) n n) ∧ OwnC w.heap.size w' 2 g 0 n n xs ∧ T2At w' (some ⟨g, 0, none⟩) g 0 n J ∧ Below w.heap.size w w' := by
  obtain ⟨i0, hi, hz0, hz1, hz2⟩ := info_parts Tryz.infoSeat
  go_enter Tryz.func56, Tryz.ntmps56
  go_wp2_with (refine wpList_make_c _ rfl _ _ 44 rfl w.heap.size 124 i0 (.agg #[.bool false, .int .i64 0]) 2 16 Tryz.underlying44 hi hz0 hz1 hz2 .i64 .i64 n n n rfl rfl rfl rfl (by omega) (by unfold maxLen; omega) (Nat.le_refl _) ?_; intro w1 hown hgr)
  go_loopw [4] (fun i wr => ∃ k : Nat, k ≤ n ∧ i = .int .i64 k ∧ (∃ xs, OwnC w.heap.size wr 2 w.heap.size 0 n n xs ∧ ∀ j, j < k → xs[j * 2]? = some (.bool (t2 J j).1) ∧ xs[j * 2 + 1]? = some (.int .i64 (t2 J j).2)) ∧ Below w.heap.size w wr) (fun i _ => n - (intOf i).toNat)
  case atStart => exact ⟨0, Nat.zero_le _, rfl, ⟨_, hown, fun j hj => absurd hj (by omega)⟩, (Below.refl _ _).grown hgr (Nat.le_refl _) (by simp)⟩
  case round =>
    obtain ⟨k, hk, rfl, ⟨xs, ho, hbu⟩, hb⟩ := hrel
    by_cases hlt : k < n
    · obtain rfl := h.ad (by omega)
      have hc0 := (h.below' hb).c0 k hlt
      have hc1 := (h.below' hb).c1 k hlt
      obtain ⟨⟨x0, x1⟩, hx⟩ : ∃ x, x = t2 J k := ⟨_, rfl⟩
      rw [← hx] at hc0 hc1
      dsimp only at hc0 hc1
      have HX := hid hx
      clear hx
      have hlt' : (k : Int) < (n : Int) := by omega
      go_wp2_with fail
      refine (toSeat_any x0 x1 _).mono ?_
      rintro e w2 ⟨rfl, hb2⟩
      have ho2 := ho.below hb2 ho.hi
      have hhi := ho.hi
      have hb' := hb.trans (hb2.mono hb.size)
      obtain ⟨u0, _, hq0⟩ := ho2.cellSome (j := k * 2) (by omega)
      obtain ⟨u1, _, hq1⟩ := ho2.cellSome (j := k * 2 + 1) (by omega)
      have hf0 := ho2.notFrozen (j := k * 2) (by omega)
      have hf1 := ho2.notFrozen (j := k * 2 + 1) (by omega)
      have hlen : k * 2 + 1 < xs.length := by rw [ho2.len]; omega
      have ho' := ((ho2.setCell (j := k * 2) (by omega) (.bool x0)).setCell (j := k * 2 + 1) (by omega) (.int .i64 x1))
      have hb3 := ((hb'.setCell (p := ⟨w.heap.size, k * 2, none⟩) (Nat.le_refl _) (.bool x0)).setCell (p := ⟨w.heap.size, k * 2 + 1, none⟩) (Nat.le_refl _) (.int .i64 x1))
      simp only [Nat.zero_add] at hq0 hq1 hf0 hf1 ho'
      have HBU := hid hbu
      have HLEN := hid hlen
      clear ho2 ho hb2 hb' hbu hlen
      go_wp2
      go_roundw
      case rel =>
        refine ⟨k + 1, by omega, by go_num, ⟨_, ho', fun j hj => ?_⟩, hb3⟩
        have hl := HLEN.out
        by_cases e : j = k
        · subst e
          rw [← HX.out]
          exact ⟨by simp [List.getElem?_set]; omega, by simp [List.getElem?_set]; omega⟩
        · obtain ⟨g0, g1⟩ := HBU.out j (by omega)
          exact ⟨by rw [List.getElem?_set_ne (by omega), List.getElem?_set_ne (by omega)]; exact g0, by rw [List.getElem?_set_ne (by omega), List.getElem?_set_ne (by omega)]; exact g1⟩
      case measure => simp [intOf]; omega
    · obtain rfl : k = n := by omega
      go_wp2
      go_ret
      refine ⟨_, xs, rfl, ho, ⟨fun _ => rfl, h.len, by unfold maxLen; omega, fun _ => ho.hi, fun j hj => ?c0, fun j hj => ?c1, h.rng⟩, hb⟩
      case c0 => have h9 := ho.holds (j * 2) (by omega); rw [(hbu j hj).1] at h9; simpa [Nat.add_assoc] using h9
      case c1 => have h9 := ho.holds (j * 2 + 1) (by omega); rw [(hbu j hj).2] at h9; simpa [Nat.add_assoc] using h9

set_option maxHeartbeats 400000 in
set_option maxRecDepth 100000 in
theorem eqSeat_any (x0 : Bool) (x1 : Int) (w : World) :
    Calls Tryz.prog 110 #[.agg #[.bool x0, .int .i64 x1], .agg #[.bool x0, .int .i64 x1]] w fun e w' => e = .returned (.bool true) ∧ Below w.heap.size w w' := by
  go_enter Tryz.func110, Tryz.ntmps110
  go_wp2
  go_ret
  exact ⟨rfl, ((Below.refl _ _).alloc (Nat.le_refl _) _).alloc (by simp) _⟩

set_option maxHeartbeats 1000000 in
theorem eqSeatS_any (a a' : Option Addr) (b o n c b' o' c' : Nat) (J : List (Bool × Int)) (w : World) (h : T2At w a b o n J) (h' : T2At w a' b' o' n J) :
    Calls Tryz.prog 63 #[.slice a n c, .slice a' n c'] w fun e w' => e = .returned (.bool true) ∧ Below w.heap.size w w' := by
  have hmax := h.max
  unfold maxLen at hmax
  go_enter Tryz.func63, Tryz.ntmps63
  go_wp2
  go_loopw [5] (fun i wr => ∃ k : Nat, k ≤ n ∧ i = .int .i64 k ∧ Below w.heap.size w wr) (fun i _ => n - (intOf i).toNat)
  case atStart => exact ⟨0, Nat.zero_le _, rfl, Below.refl _ _⟩
  case round =>
    obtain ⟨k, hk, rfl, hb⟩ := hrel
    by_cases hlt : k < n
    · obtain rfl := h.ad (by omega)
      obtain rfl := h'.ad (by omega)
      have hc0 := (h.below' hb).c0 k hlt
      have hd0 := (h'.below' hb).c0 k hlt
      have hc1 := (h.below' hb).c1 k hlt
      have hd1 := (h'.below' hb).c1 k hlt
      obtain ⟨⟨x0, x1⟩, hx⟩ : ∃ x, x = t2 J k := ⟨_, rfl⟩
      rw [← hx] at hc0 hd0 hc1 hd1
      dsimp only at hc0 hd0 hc1 hd1
      clear hx
      have hlt' : (k : Int) < (n : Int) := by omega
      have hbb : Below w.heap.size w wr.drew := hb.drew
      go_wp2
      go_region_held3 (fun w' => w'.cell? ⟨b, o + k * 2, none⟩ = some (.bool x0) ∧ w'.cell? ⟨b, o + k * 2 + 1, none⟩ = some (.int .i64 x1) ∧ w'.cell? ⟨b', o' + k * 2, none⟩ = some (.bool x0) ∧ w'.cell? ⟨b', o' + k * 2 + 1, none⟩ = some (.int .i64 x1)) (first | (simp [go_sem, *]; done) | assumption)
        (first
          | (go_at_call 110; refine (eqSeat_any x0 x1 _).mono ?_; rintro e w1 ⟨rfl, hb1⟩; have q0 := keepC hb1 hc0; have r0 := keepC hb1 hd0; have q1 := keepC hb1 hc1; have r1 := keepC hb1 hd1))
      go_wp2
      go_roundw
      case rel => exact ⟨k + 1, by omega, by go_num, hbb.trans (hb1.mono hbb.size)⟩
      case measure => simp [intOf]; omega
    · go_wp2
      go_ret
      exact ⟨rfl, hb⟩

end Go.Proofs.YthopfmhagddhgaaGreat
