
/-
  The law FnEntries' walk.
-/
import Derived.Test.YtdjcfeiaembckaaEdr
import Derived.Test.YtdjcfeiaembckaaERi
import Derived.Test.YtdjcfeiaembckaaERs
import Derived.Test.YtdjcfeiaembckaaRIm
import Derived.Test.YtdjcfeiaembckaaRSp
import Derived.Deep.DeepCutAuto
namespace Go.Proofs.Ytdjcfeiaembckaa
open Go.RowKit

theorem BytesAt.bl {w w' : World} {ad : Option Addr} {b o n : Nat} (h : BytesAt w ad b o n) (hb : Below w.heap.size w w') : BytesAt w' ad b o n := ⟨h.1, fun j hj => by
  obtain ⟨v, hv, hc⟩ := h.2 j hj
  exact ⟨v, hv, keepB hb hc⟩⟩
theorem StoryIs.each {ts : List TaskD} {L : List ByteArray} {c E : Int} {R : List ByteArray} (h : StoryIs ts L c E R) : ∀ s ∈ R, s.size ≤ maxLen := by
  rcases h with ⟨_, _, _, rfl⟩ | ⟨_, ⟨_, _, _, rfl⟩ | ⟨h, _⟩⟩
  · simp
  · simp
  · have := rep_ok _ (st0_ok ts.length) h
    exact fun s hs => by have := this.2.2.2 s hs; unfold maxLen; omega
set_option maxHeartbeats 1000000 in
theorem wList_any (a a' : Option Addr) (b o n c b' o' c' : Nat) (ss : List ByteArray) (w : World) (h : StrsAt w a b o n ss) (h' : StrsAt w a' b' o' n ss) :
    Calls Try.prog 20 #[.slice a n c, .slice a' n c'] w fun e w' => e = .returned (.bool true) ∧ Below w.heap.size w w' := by
  have hmax := h.max
  unfold maxLen at hmax
  go_enter Try.func20, Try.ntmps20
  go_wp2
  go_loopw [5] (fun i wr => ∃ k : Nat, k ≤ n ∧ i = .int .i64 k ∧ Below w.heap.size w wr) (fun i _ => n - (intOf i).toNat)
  case atStart => exact ⟨0, Nat.zero_le _, rfl, Below.refl _ _⟩
  case round =>
    obtain ⟨k, hk, rfl, hb⟩ := hrel
    by_cases hlt : k < n
    · obtain rfl := h.ad (by omega)
      obtain rfl := h'.ad (by omega)
      have hbl := h.lt (by omega)
      have hbl' := h'.lt (by omega)
      have hc : wr.cell? ⟨b, o + k, none⟩ = some (.string (ss.getD k ByteArray.empty)) := (hb.cell (by exact hbl)).trans (h.cell k hlt)
      have hc' : wr.cell? ⟨b', o' + k, none⟩ = some (.string (ss.getD k ByteArray.empty)) := (hb.cell (by exact hbl')).trans (h'.cell k hlt)
      obtain ⟨s, hs'⟩ : ∃ s, s = ss.getD k ByteArray.empty := ⟨_, rfl⟩
      rw [← hs'] at hc hc'
      clear hs'
      have hlt' : (k : Int) < (n : Int) := by omega
      go_wp2
      go_quiet (fail)
      go_wp2
      go_roundw
      case rel => exact ⟨k + 1, by omega, by go_num, below_drewN hb _⟩
      case measure => simp [intOf]; omega
    · obtain rfl : k = n := by omega
      go_wp2
      go_ret
      exact ⟨rfl, hb⟩

set_option maxHeartbeats 8000000 in
set_option maxRecDepth 100000 in
theorem fnEntries_walk (ad : Option Addr) (b o n cc : Nat) (w : World) (hby : BytesAt w ad b o n) (hb : 0 < n → b < w.heap.size) (hcc : n ≤ cc) (hn : n ≤ maxLen) :
    Calls Try.prog 4 #[.slice ad n cc] w fun e' w' => e' = .returned (.bool true) ∧ Below w.heap.size w w' := by
  unfold maxLen at hn
  by_cases h20 : 1048576 < n
  · have h20' : (n : Int) > 1048576 := by omega
    go_enter Try.func4, Try.ntmps4
    go_wp2
    go_ret
    exact ⟨rfl, Below.refl _ _⟩
  have h20' : ¬ (n : Int) > 1048576 := by omega
  have hn2 : n ≤ 1048576 := by omega
  have HBY := hid hby
  clear hby
  go_enter Try.func4, Try.ntmps4
  go_wp2_with fail
  refine (drawFormEntry_any ad b o n cc _ HBY.out hb hcc hn2).mono ?_
  rintro e' w1 ⟨⟨k, e, d, x, rfl, hk, he, hd, hx⟩, hb1⟩
  obtain ⟨W1, hW1⟩ : ∃ V, V = w1.alloc (.cells #[.int .i64 k, .int .i64 e, .int .i64 d, .string x] 36) := ⟨_, rfl⟩
  have hba : Below w1.heap.size w1 W1 := by rw [hW1]; exact (Below.refl _ _).alloc (Nat.le_refl _) _
  have hE : MC W1 w1.heap.size [.int .i64 k, .int .i64 e, .int .i64 d, .string x] := by rw [hW1]; exact MC.made w1 #[.int .i64 k, .int .i64 e, .int .i64 d, .string x] 36
  have hlE : w1.heap.size < W1.heap.size := by rw [hW1]; simp
  have hBW1 := hb1.trans (hba.mono hb1.size)
  have HW1 := hid hW1
  clear hW1 hba hb1 h20'
  obtain ⟨pE, hpE⟩ : ∃ q, q = w1.heap.size := ⟨_, rfl⟩
  rw [← hpE] at hE hlE
  have HPE := hid hpE
  clear hpE
  go_upto_region 4 with fail
  rw [← HW1.out, ← HPE.out]
  clear HW1 HPE
  have y0 : W1.cell? ⟨pE, 0, none⟩ = some (.int .i64 k) := hE 0 (by simp)
  have y1 : W1.cell? ⟨pE, 1, none⟩ = some (.int .i64 e) := hE 1 (by simp)
  have y2 : W1.cell? ⟨pE, 2, none⟩ = some (.int .i64 d) := hE 2 (by simp)
  have y3 : W1.cell? ⟨pE, 3, none⟩ = some (.string x) := hE 3 (by simp)
  go_wp2_with fail
  refine (implEnt_any k e d x _).mono ?_
  rintro e' w2 ⟨⟨s, rfl, hs⟩, hb2⟩
  have hE2 := hE.below hb2 hlE
  have hlE2 : pE < w2.heap.size := Nat.lt_of_lt_of_le hlE hb2.size
  have hB2 := hBW1.trans (hb2.mono hBW1.size)
  clear y0 y1 y2 y3 hE hlE hb2 hBW1
  have y0 : w2.cell? ⟨pE, 0, none⟩ = some (.int .i64 k) := hE2 0 (by simp)
  have y1 : w2.cell? ⟨pE, 1, none⟩ = some (.int .i64 e) := hE2 1 (by simp)
  have y2 : w2.cell? ⟨pE, 2, none⟩ = some (.int .i64 d) := hE2 2 (by simp)
  have y3 : w2.cell? ⟨pE, 3, none⟩ = some (.string x) := hE2 3 (by simp)
  go_wp2_with fail
  refine (specEnt_any k e d x _).mono ?_
  rintro e' w3 ⟨⟨s', rfl, hs'⟩, hb3⟩
  obtain rfl : s = s' := hs.uniq hs'
  have hE3 := hE2.below hb3 hlE2
  have hlE3 : pE < w3.heap.size := Nat.lt_of_lt_of_le hlE2 hb3.size
  have hB3 := hB2.trans (hb3.mono hB2.size)
  clear y0 y1 y2 y3 hE2 hlE2 hb3 hB2 hs'
  have hcs : (GoodE s k e d x ∧ s.toList.isEmpty = false) ∨ s.toList.isEmpty = true := by
    rcases hs with ⟨hv, rfl⟩ | ⟨_, rfl⟩
    · refine .inl ⟨⟨hv, rfl⟩, empty_f ?_⟩
      have h : (entS k e d x).size = (entL k e d x).length := by simp [entS, ByteArray.size]
      rw [h, entL_length]; omega
    · exact .inr (empty_t rfl)
  have HCS := hid hcs
  clear hcs hs
  go_upto_if 28 with fail
  go_cut [6] (fun _ wx => Below w.heap.size w wx)
  case first =>
    rcases HCS.out with ⟨hg0, hse⟩ | hse
    case inr =>
      refine wp_cond_false (Eq.trans (b := Value.bool (!s.toList.isEmpty)) (by kernel_rfl) (by rw [hse]; rfl)) ?_
      clear hse
      go_wp2
      go_meet
      case rel => exact hB3
    case inl =>
      refine wp_cond_true (Eq.trans (b := Value.bool (!s.toList.isEmpty)) (by kernel_rfl) (by rw [hse]; rfl)) ?_
      have HG := hid hg0
      clear hse hg0
      go_wp2_with fail
      refine (implReadE_any s _).mono ?_
      rintro e' w4 ⟨hr, hb4⟩
      have hE4 := hE3.below hb4 hlE3
      have hB4 := hB3.trans (hb4.mono hB3.size)
      clear hE3 hlE3 hB3 hb4
      rcases hr with ⟨_, hno⟩ | ⟨k', e1, d', x', rfl, hg⟩
      · exact absurd ⟨_, _, _, _, HG.out⟩ hno
      obtain ⟨rfl, rfl, rfl, rfl⟩ := HG.out.uniq hg
      obtain ⟨W4, hW4⟩ : ∃ V, V = w4.alloc (.cells #[.int .i64 k, .int .i64 e, .int .i64 d, .string x] 36) := ⟨_, rfl⟩
      have hba : Below w4.heap.size w4 W4 := by rw [hW4]; exact (Below.refl _ _).alloc (Nat.le_refl _) _
      have hX : MC W4 w4.heap.size [.int .i64 k, .int .i64 e, .int .i64 d, .string x] := by rw [hW4]; exact MC.made w4 #[.int .i64 k, .int .i64 e, .int .i64 d, .string x] 36
      have hE5 := hE4.below hba (World.block_lt_of_cell? _ ⟨pE, 0, none⟩ (hE4 0 (by simp)))
      have hB5 := hB4.trans (hba.mono hB4.size)
      obtain ⟨pX, hpX⟩ : ∃ q, q = w4.heap.size := ⟨_, rfl⟩
      rw [← hpX] at hX
      have HPX := hid hpX
      have HW4 := hid hW4
      clear hW4 hba hE4 hB4 hpX hg
      go_upto_region 9 with fail
      rw [← HW4.out, ← HPX.out]
      clear HW4 HPX
      have y0 : W4.cell? ⟨pE, 0, none⟩ = some (.int .i64 k) := hE5 0 (by simp)
      have y1 : W4.cell? ⟨pE, 1, none⟩ = some (.int .i64 e) := hE5 1 (by simp)
      have y2 : W4.cell? ⟨pE, 2, none⟩ = some (.int .i64 d) := hE5 2 (by simp)
      have y3 : W4.cell? ⟨pE, 3, none⟩ = some (.string x) := hE5 3 (by simp)
      have t0 : W4.cell? ⟨pX, 0, none⟩ = some (.int .i64 k) := hX 0 (by simp)
      have t1 : W4.cell? ⟨pX, 1, none⟩ = some (.int .i64 e) := hX 1 (by simp)
      have t2 : W4.cell? ⟨pX, 2, none⟩ = some (.int .i64 d) := hX 2 (by simp)
      have t3 : W4.cell? ⟨pX, 3, none⟩ = some (.string x) := hX 3 (by simp)
      go_wp2
      go_meet
      case rel => exact hB5
  case rest =>
    have hB5 := hcut
    clear hB3 hE3 hlE3 HCS hk he hd hx
    go_wp2_with fail
    refine (drawReadEntry_any ad b o n cc _ (HBY.out.bl hB5) (fun h0 => Nat.lt_of_lt_of_le (hb h0) hB5.size) hcc hn2).mono ?_
    rintro e' w6 ⟨⟨t, rfl, ht⟩, hb6⟩
    have hB6 := hB5.trans (hb6.mono hB5.size)
    clear hB5 hb6 hcut
    go_wp2_with fail
    refine (implReadE_any t _).mono ?_
    rintro e' w7 ⟨hr7, hb7⟩
    have hB7 := hB6.trans (hb7.mono hB6.size)
    clear hB6 hb7
    obtain ⟨k7, e7, d7, x7, b7, rfl, hq7⟩ : ∃ (k7 e7 d7 : Int) (x7 : ByteArray) (b7 : Bool), e' = .returned (.tuple #[.agg #[.int .i64 k7, .int .i64 e7, .int .i64 d7, .string x7], .bool b7]) ∧ ((b7 = false ∧ NoE t) ∨ (b7 = true ∧ GoodE t k7 e7 d7 x7)) := by
      rcases hr7 with ⟨h1, h2⟩ | ⟨k7, e7, d7, x7, h1, h2⟩
      · exact ⟨_, _, _, _, false, h1, .inl ⟨rfl, h2⟩⟩
      · exact ⟨k7, e7, d7, x7, true, h1, .inr ⟨rfl, h2⟩⟩
    obtain ⟨W7, hW7⟩ : ∃ V, V = w7.alloc (.cells #[.int .i64 k7, .int .i64 e7, .int .i64 d7, .string x7] 36) := ⟨_, rfl⟩
    have hba : Below w7.heap.size w7 W7 := by rw [hW7]; exact (Below.refl _ _).alloc (Nat.le_refl _) _
    have hX : MC W7 w7.heap.size [.int .i64 k7, .int .i64 e7, .int .i64 d7, .string x7] := by rw [hW7]; exact MC.made w7 #[.int .i64 k7, .int .i64 e7, .int .i64 d7, .string x7] 36
    have hBW7 := hB7.trans (hba.mono hB7.size)
    obtain ⟨pX, hpX⟩ : ∃ q, q = w7.heap.size := ⟨_, rfl⟩
    rw [← hpX] at hX
    have HPX := hid hpX
    have HW7 := hid hW7
    have HQ7 := hid hq7
    clear hW7 hba hB7 hpX hq7
    go_upto_region 13 with fail
    rw [← HW7.out, ← HPX.out]
    clear HW7 HPX
    go_wp2_with fail
    refine (specReadE_any t _ (by unfold maxLen; omega)).mono ?_
    rintro e' w8 ⟨hr8, hb8⟩
    have hX8 := hX.below hb8 (World.block_lt_of_cell? _ ⟨pX, 0, none⟩ (hX 0 (by simp)))
    have hB8 := hBW7.trans (hb8.mono hBW7.size)
    clear hX hBW7 hb8
    obtain ⟨k8, e8, d8, x8, rfl⟩ : ∃ (k8 e8 d8 : Int) (x8 : ByteArray), e' = .returned (.tuple #[.agg #[.int .i64 k8, .int .i64 e8, .int .i64 d8, .string x8], .bool b7]) := by
      rcases hr8 with ⟨h1, h2⟩ | ⟨k8, e8, d8, x8, h1, h2⟩
      · rcases HQ7.out with ⟨h3, _⟩ | ⟨_, h4⟩
        · subst h3; exact ⟨_, _, _, _, h1⟩
        · exact absurd ⟨_, _, _, _, h4⟩ h2
      · rcases HQ7.out with ⟨_, h4⟩ | ⟨h3, _⟩
        · exact absurd ⟨_, _, _, _, h2⟩ h4
        · subst h3; exact ⟨_, _, _, _, h1⟩
    obtain ⟨W8, hW8⟩ : ∃ V, V = w8.alloc (.cells #[.int .i64 k8, .int .i64 e8, .int .i64 d8, .string x8] 36) := ⟨_, rfl⟩
    have hba : Below w8.heap.size w8 W8 := by rw [hW8]; exact (Below.refl _ _).alloc (Nat.le_refl _) _
    have hX9 := hX8.below hba (World.block_lt_of_cell? _ ⟨pX, 0, none⟩ (hX8 0 (by simp)))
    have hBW8 := hB8.trans (hba.mono hB8.size)
    have HW8 := hid hW8
    clear hW8 hba hB8 hX8 hr8
    go_upto_region 14 with fail
    rw [← HW8.out]
    clear HW8
    have t0 : W8.cell? ⟨pX, 0, none⟩ = some (.int .i64 k7) := hX9 0 (by simp)
    have t1 : W8.cell? ⟨pX, 1, none⟩ = some (.int .i64 e7) := hX9 1 (by simp)
    have t2 : W8.cell? ⟨pX, 2, none⟩ = some (.int .i64 d7) := hX9 2 (by simp)
    have t3 : W8.cell? ⟨pX, 3, none⟩ = some (.string x7) := hX9 3 (by simp)
    go_cut [64] (fun cv wx => cv = .bool false ∧ Below w.heap.size w wx)
    case first =>
      rcases HQ7.out with ⟨rfl, _⟩ | ⟨rfl, hg⟩
      · go_wp2
        go_meet
        case rel => exact ⟨rfl, hBW8⟩
      · have HGG := hid hg
        clear hg
        go_wp2_with fail
        refine (implEnt_any k7 e7 d7 x7 _).mono ?_
        rintro e' w9 ⟨⟨s9, rfl, hs9⟩, hb9⟩
        obtain rfl : s9 = t := hs9.uniq (.inl ⟨HGG.out.1, HGG.out.2⟩)
        have hB9 := hBW8.trans (hb9.mono hBW8.size)
        clear hb9 hs9
        go_wp2
        go_meet
        case rel => exact ⟨rfl, hB9⟩
    case rest =>
      obtain ⟨rfl, hB9⟩ := hcut
      clear hBW8 hX9 t0 t1 t2 t3 HQ7
      go_wp2_with fail
      refine (drawReplay_any ad b o n cc _ (HBY.out.bl hB9) (fun h0 => Nat.lt_of_lt_of_le (hb h0) hB9.size) hcc hn2).mono ?_
      rintro e' w10 ⟨⟨pa, pb, po, pm, pc, ts, la, lb, lo, ln, lc, L, rfl, hT, hS, hln⟩, hb10⟩
      have hB10 := hB9.trans (hb10.mono hB9.size)
      obtain ⟨W10, hW10⟩ : ∃ V, V = w10.alloc (.cells #[.slice pa pm pc] 25) := ⟨_, rfl⟩
      have hba : Below w10.heap.size w10 W10 := by rw [hW10]; exact (Below.refl _ _).alloc (Nat.le_refl _) _
      have hP : MC W10 w10.heap.size [.slice pa pm pc] := by rw [hW10]; exact MC.made w10 #[.slice pa pm pc] 25
      have hT10 := hT.below' hba
      have hS10 := hS.below' hba
      have hBW10 := hB10.trans (hba.mono hB10.size)
      obtain ⟨pP, hpP⟩ : ∃ q, q = w10.heap.size := ⟨_, rfl⟩
      rw [← hpP] at hP
      have HPP := hid hpP
      have HW10 := hid hW10
      clear hW10 hba hT hS hB10 hb10 hB9 hpP
      go_upto_region 17 with fail
      rw [← HW10.out, ← HPP.out]
      clear HW10 HPP
      have p0 : W10.cell? ⟨pP, 0, none⟩ = some (.slice pa pm pc) := hP 0 (by simp)
      go_wp2_with fail
      refine (implReplay_any pa pb po pm pc ts la lb lo ln lc L _ hT10 hS10 hln).mono ?_
      rintro e' w11 ⟨⟨c1, E1, R1, v1, rfl, hs1, ho1⟩, hb11⟩
      obtain ⟨ra, rc, rfl⟩ := ho1.slc
      have hT11 := hT10.below' hb11
      have hS11 := hS10.below' hb11
      have hP11 := hP.below hb11 (World.block_lt_of_cell? _ _ p0)
      have hB11 := hBW10.trans (hb11.mono hBW10.size)
      have hsz1 := StoryIs.each hs1
      obtain ⟨rb, ro, hR1⟩ := StrsAt.ofOwn' ho1 hsz1
      obtain ⟨W11, hW11⟩ : ∃ V, V = w11.alloc (.cells #[.int .i64 c1, .int .i64 E1, .slice ra R1.length rc] 45) := ⟨_, rfl⟩
      have hba : Below w11.heap.size w11 W11 := by rw [hW11]; exact (Below.refl _ _).alloc (Nat.le_refl _) _
      have hY : MC W11 w11.heap.size [.int .i64 c1, .int .i64 E1, .slice ra R1.length rc] := by rw [hW11]; exact MC.made w11 #[.int .i64 c1, .int .i64 E1, .slice ra R1.length rc] 45
      have hT12 := hT11.below' hba
      have hS12 := hS11.below' hba
      have hR12 := hR1.below' hba
      have hP12 := hP11.below hba (World.block_lt_of_cell? _ ⟨pP, 0, none⟩ (hP11 0 (by simp)))
      have hB12 := hB11.trans (hba.mono hB11.size)
      obtain ⟨pY, hpY⟩ : ∃ q, q = w11.heap.size := ⟨_, rfl⟩
      rw [← hpY] at hY
      have HPY := hid hpY
      have HW11 := hid hW11
      have HS1 := hid hs1
      clear hW11 hba hT10 hS10 hT11 hS11 hR1 hP hP11 hBW10 hB11 hb11 p0 ho1 hs1 hpY hsz1
      go_upto_region 18 with fail
      rw [← HW11.out, ← HPY.out]
      clear HW11 HPY
      have p0 : W11.cell? ⟨pP, 0, none⟩ = some (.slice pa pm pc) := hP12 0 (by simp)
      go_wp2_with fail
      refine (specReplay_any pa pb po pm pc ts la lb lo ln lc L _ hT12 hS12 hln).mono ?_
      rintro e' w13 ⟨⟨c2, E2, R2, v2, rfl, hs2, ho2⟩, hb13⟩
      obtain ⟨rfl, rfl, rfl⟩ := HS1.out.uniq hs2
      obtain ⟨qa, qc, rfl⟩ := ho2.slc
      have hR13 := hR12.below' hb13
      have hY13 := hY.below hb13 (World.block_lt_of_cell? _ ⟨pY, 0, none⟩ (hY 0 (by simp)))
      have hB13 := hB12.trans (hb13.mono hB12.size)
      obtain ⟨qb, qo, hR2⟩ := StrsAt.ofOwn' ho2 (StoryIs.each hs2)
      obtain ⟨W13, hW13⟩ : ∃ V, V = w13.alloc (.cells #[.int .i64 c1, .int .i64 E1, .slice qa R1.length qc] 45) := ⟨_, rfl⟩
      have hba : Below w13.heap.size w13 W13 := by rw [hW13]; exact (Below.refl _ _).alloc (Nat.le_refl _) _
      have hZ : MC W13 w13.heap.size [.int .i64 c1, .int .i64 E1, .slice qa R1.length qc] := by rw [hW13]; exact MC.made w13 #[.int .i64 c1, .int .i64 E1, .slice qa R1.length qc] 45
      have hR14 := hR13.below' hba
      have hR15 := hR2.below' hba
      have hY14 := hY13.below hba (World.block_lt_of_cell? _ ⟨pY, 0, none⟩ (hY13 0 (by simp)))
      have hB14 := hB13.trans (hba.mono hB13.size)
      obtain ⟨pZ, hpZ⟩ : ∃ q, q = w13.heap.size := ⟨_, rfl⟩
      rw [← hpZ] at hZ
      have HPZ := hid hpZ
      have HW13 := hid hW13
      clear hW13 hba hT12 hS12 hR12 hR13 hR2 hY hY13 hP12 hB12 hB13 hb13 p0 ho2 hs2 hpZ
      go_upto_region 19 with fail
      rw [← HW13.out, ← HPZ.out]
      clear HW13 HPZ
      have y0 : W13.cell? ⟨pY, 0, none⟩ = some (.int .i64 c1) := hY14 0 (by simp)
      have y1 : W13.cell? ⟨pY, 1, none⟩ = some (.int .i64 E1) := hY14 1 (by simp)
      have y2 : W13.cell? ⟨pY, 2, none⟩ = some (.slice ra R1.length rc) := hY14 2 (by simp)
      have z0 : W13.cell? ⟨pZ, 0, none⟩ = some (.int .i64 c1) := hZ 0 (by simp)
      have z1 : W13.cell? ⟨pZ, 1, none⟩ = some (.int .i64 E1) := hZ 1 (by simp)
      have z2 : W13.cell? ⟨pZ, 2, none⟩ = some (.slice qa R1.length qc) := hZ 2 (by simp)
      go_wp2_with fail
      refine (wList_any ra qa rb ro R1.length rc qb qo qc R1 _ hR14 hR15).mono ?_
      rintro e' w15 ⟨rfl, hb15⟩
      have hB15 := hB14.trans (hb15.mono hB14.size)
      go_wp2
      go_ret
      exact ⟨rfl, hB15⟩
end Go.Proofs.Ytdjcfeiaembckaa
