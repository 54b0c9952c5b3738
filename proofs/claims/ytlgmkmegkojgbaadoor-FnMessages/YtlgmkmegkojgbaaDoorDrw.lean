
/-
  The draws' reader: spec.l1Open, pick; l1Dec, l1Many, l1Bytes.
-/
import Derived.Test.YtlgmkmegkojgbaaDoorMark
import Derived.Test.YtlgmkmegkojgbaaDoorCel
import Derived.Deep.RegionLaw
import Derived.Deep.DeepCutAuto
namespace Go.Proofs.YtlgmkmegkojgbaaDoor
open Go.RowKit

/-- The bytes of a code. -/
def BytesAt (w : World) (a : Option Addr) (b o n : Nat) : Prop := (0 < n → a = some ⟨b, o, none⟩) ∧ ∀ j, j < n → ∃ v : Nat, v < 256 ∧ w.cell? ⟨b, o + j, none⟩ = some (.int .u8 v)
/-- A reader in block g that has been asked at most k times. -/
def RD (w : World) (g k : Nat) : Prop := ∃ (b o n c p : Nat) (ad : Option Addr), w.cell? ⟨g, 0, none⟩ = some (.slice ad n c) ∧ w.cell? ⟨g, 1, none⟩ = some (.int .i64 p) ∧ w.frozen? ⟨g, 1, none⟩ = false ∧ BytesAt w ad b o n ∧ n ≤ 2000 ∧ p ≤ k ∧ (0 < n → b < g)

theorem RD.keep {w w' : World} {g k : Nat} (h : RD w g k) (hb : ∀ q, q ≤ g → w'.heap[q]? = w.heap[q]?) : RD w' g k := by
  obtain ⟨b, o, n, c, p, ad, c0, c1, f1, hby, hn, hp, hbg⟩ := h
  have hk : ∀ {q : Addr} {v : Value}, q.block ≤ g → w.cell? q = some v → w'.cell? q = some v := fun {q v} hq hv => (World.cell?_of_block (w := w) (hb q.block hq)).trans hv
  exact ⟨b, o, n, c, p, ad, hk (Nat.le_refl _) c0, hk (Nat.le_refl _) c1, (World.frozen?_of_block (w := w) (a := ⟨g, 1, none⟩) (hb g (Nat.le_refl _))).trans f1, ⟨hby.1, fun j hj => by obtain ⟨v, hv, hc⟩ := hby.2 j hj; exact ⟨v, hv, hk (Nat.le_of_lt (hbg (by omega))) hc⟩⟩, hn, hp, hbg⟩
theorem RD.lt {w : World} {g k : Nat} (h : RD w g k) : g < w.heap.size := by
  obtain ⟨b, o, n, c, p, ad, c0, _⟩ := h
  exact World.block_lt_of_cell? _ _ c0
theorem RD.below {w w' : World} {g k : Nat} (h : RD w g k) (hb : Below w.heap.size w w') : RD w' g k := h.keep (fun q hq => hb.block q (by have := h.lt; omega))
theorem RD.drewN {w : World} {g k : Nat} (h : RD w g k) (n : Nat) : RD (w.drewN n) g k := h.keep (fun _ _ => rfl)
theorem RD.drew {w : World} {g k : Nat} (h : RD w g k) : RD w.drew g k := h.keep (fun _ _ => rfl)
theorem RD.set {w : World} {g k : Nat} (h : RD w g k) {p : Addr} (hp : g < p.block) (u : Value) : RD (w.setCell p u) g k := h.keep (fun q hq => Below.heap_setCell _ _ _ _ (by omega))
theorem RD.grown {w w' : World} {g k : Nat} {row : Option Nat} (h : RD w g k) (hg : w.grownBy w' row) (hr : ∀ q, row = some q → g < q) : RD w' g k := h.keep (fun q hq => hg.block q (by have := h.lt; omega) (fun e => by have := hr q e.symm; omega))
theorem RD.mono {w : World} {g k k' : Nat} (h : RD w g k) (hk : k ≤ k') : RD w g k' := by
  obtain ⟨b, o, n, c, p, ad, c0, c1, f1, hby, hn, hp, hbg⟩ := h
  exact ⟨b, o, n, c, p, ad, c0, c1, f1, hby, hn, Nat.le_trans hp hk, hbg⟩
theorem grownBy_drewN {w w' : World} {r : Option Nat} (h : w.grownBy w' r) (n : Nat) : w.grownBy (w'.drewN n) r := ⟨h.os, h.tape, h.output, h.size, h.block⟩

theorem xor_nat (m n : Nat) (h1 : m < 2 ^ 40) (h2 : n < 2 ^ 40) : bits BinOp.xor IntKind.i64 (m : Int) (n : Int) = ((m ^^^ n : Nat) : Int) := by
  have e1 : (BitVec.ofInt 64 (m : Int)).toNat = m := by
    rw [BitVec.ofInt_natCast, BitVec.toNat_ofNat]; exact Nat.mod_eq_of_lt (by omega)
  have e2 : (BitVec.ofInt 64 (n : Int)).toNat = n := by
    rw [BitVec.ofInt_natCast, BitVec.toNat_ofNat]; exact Nat.mod_eq_of_lt (by omega)
  show IntKind.i64.wrap ((BitVec.ofInt 64 (m : Int) ^^^ BitVec.ofInt 64 (n : Int)).toNat : Int) = _
  rw [BitVec.toNat_xor, e1, e2]
  have := Nat.xor_lt_two_pow h1 h2
  rw [IntKind.wrap_i64]
  omega

set_option maxHeartbeats 1000000 in
set_option maxRecDepth 100000 in
theorem pick_any (g m k : Nat) (w : World) (h : RD w g k) (hk : k ≤ 1000000) (h1 : 1 ≤ m) (hm : m ≤ 1000000) :
    Calls Tryd.prog 50 #[.pointer (some ⟨g, 0, none⟩), .int .i64 m] w fun e w' => (∃ r : Nat, r < m ∧ e = .returned (.int .i64 r)) ∧ RD w' g (k + 1) ∧ w.grownBy w' (some g) := by
  obtain ⟨b, o, n, c, p, ad, c0, c1, f1, hby, hn, hp, hbg⟩ := h
  obtain ⟨W, hW⟩ : ∃ W, W = w.setCell ⟨g, 1, none⟩ (.int .i64 ((p : Int) + 1)) := ⟨_, rfl⟩
  have hgW : w.grownBy W (some g) := by rw [hW]; exact gset (World.grownBy.refl _ _) 1 _
  have d0 : W.cell? ⟨g, 0, none⟩ = some (.slice ad n c) := by rw [hW, World.cell?_setCell_other _ _ _ _ (by simp)]; exact c0
  have d1 : W.cell? ⟨g, 1, none⟩ = some (.int .i64 ((p : Int) + 1)) := by rw [hW]; exact World.cell?_setCell_same _ _ _ c1
  have hbW : BytesAt W ad b o n := ⟨hby.1, fun j hj => by
    obtain ⟨v, hv, hc⟩ := hby.2 j hj
    exact ⟨v, hv, by rw [hW, World.cell?_setCell_other _ _ _ _ (by intro e; injection e with e1; have := hbg (by omega); omega)]; exact hc⟩⟩
  have hfin : RD W g (k + 1) := ⟨b, o, n, c, p + 1, ad, d0, by rw [d1]; rfl, by rw [hW, World.frozen?_setCell]; exact f1, hbW, hn, by omega, hbg⟩
  have HF := hid hfin
  have HWW := hid hW
  clear hW hfin hby
  have hm1 : ¬ (m : Int) < 1 := by omega
  go_enter Tryd.func50, Tryd.ntmps50
  go_upto_region 2 with fail
  rw [← HWW.out]
  by_cases h0 : n = 0
  · subst h0
    go_wp2
    go_ret
    exact ⟨⟨0, by omega, rfl⟩, HF.out, hgW⟩
  · have h0' : ¬ (n : Int) = 0 := by omega
    obtain rfl := hbW.1 (by omega)
    by_cases hlt : p < n
    · have hlt' : (p : Int) < (n : Int) := by omega
      obtain ⟨v, hv, hc⟩ := hbW.2 p hlt
      go_wp2
      go_ret
      exact ⟨⟨v % m, Nat.mod_lt _ (by omega), by simp⟩, HF.out, hgW⟩
    · have hlt' : ¬ (p : Int) < (n : Int) := by omega
      obtain ⟨i1, hi1⟩ : ∃ i1, i1 = p % n := ⟨_, rfl⟩
      obtain ⟨i2, hi2⟩ : ∃ i2, i2 = (p * 7 + 3) % n := ⟨_, rfl⟩
      obtain ⟨q, hq⟩ : ∃ q, q = p / n := ⟨_, rfl⟩
      have l1 : i1 < n := by rw [hi1]; exact Nat.mod_lt _ (by omega)
      have l2 : i2 < n := by rw [hi2]; exact Nat.mod_lt _ (by omega)
      have lq : q ≤ p := by rw [hq]; exact Nat.div_le_self _ _
      obtain ⟨v1, hv1, hc1⟩ := hbW.2 i1 l1
      obtain ⟨v2, hv2, hc2⟩ := hbW.2 i2 l2
      have e1 : ((p : Int) % (n : Int)) = (i1 : Int) := by rw [hi1]; simp
      have e2 : (((p : Int) * 7 + 3) % (n : Int)) = (i2 : Int) := by rw [hi2]; simp
      have e3 : ((p : Int) / (n : Int)) = (q : Int) := by rw [hq]; simp
      have hnp : (0 : Int) < (n : Int) := by omega
      clear hi1 hi2 hq hbW
      go_wp2
      go_quiet (fail)
      obtain ⟨y, hy⟩ : ∃ y, y = v1 * 131 + v2 * 1117 + p * 29 + q * 53 := ⟨_, rfl⟩
      have e4 : (v1 : Int) * 131 + (v2 : Int) * 1117 + (p : Int) * 29 + (q : Int) * 53 = (y : Int) := by rw [hy]; simp
      have hyl : y < 2 ^ 40 := by omega
      have e5 : bits BinOp.xor IntKind.i64 (y : Int) ((y : Int) / 64) = ((y ^^^ y / 64 : Nat) : Int) := by
        rw [show (y : Int) / 64 = ((y / 64 : Nat) : Int) by omega]
        exact xor_nat y (y / 64) hyl (by omega)
      obtain ⟨z, hz⟩ : ∃ z, z = y ^^^ y / 64 := ⟨_, rfl⟩
      have hzl : z < 2 ^ 40 := by rw [hz]; exact Nat.xor_lt_two_pow hyl (by omega)
      rw [← hz] at e5
      rw [e4]
      clear hy hz e4 e1 e2 e3
      go_wp2
      go_ret
      exact ⟨⟨z % m, Nat.mod_lt _ (by omega), by simp⟩, HF.out.drewN _, grownBy_drewN hgW _⟩

theorem rd_made {a : Option Addr} {b o n c : Nat} {w : World} {T : TypeId} (h : BytesAt w a b o n) (hb : 0 < n → b < w.heap.size) (hn : n ≤ 2000) : RD (w.alloc (.cells #[.slice a n c, .int .i64 0] T)) w.heap.size 0 := by
  have h1 := CF.made w #[.slice a n c, .int .i64 0] T
  by_cases h0 : n = 0
  · subst h0
    exact ⟨w.heap.size + 1, 0, 0, c, 0, a, (h1 0 (by simp)).1, (h1 1 (by simp)).1, (h1 1 (by simp)).2, ⟨fun h => absurd h (by omega), fun j hj => absurd hj (by omega)⟩, by omega, Nat.le_refl _, fun h => absurd h (by omega)⟩
  · have hb' := hb (by omega)
    refine ⟨b, o, n, c, 0, a, (h1 0 (by simp)).1, (h1 1 (by simp)).1, (h1 1 (by simp)).2, ⟨h.1, fun j hj => ?_⟩, hn, Nat.le_refl _, hb⟩
    obtain ⟨v, hv, hc⟩ := h.2 j hj
    exact ⟨v, hv, (World.cell?_of_block (w := w) (a := ⟨b, o + j, none⟩) (Below.heap_alloc _ _ _ hb')).trans hc⟩

set_option maxHeartbeats 1000000 in
set_option maxRecDepth 100000 in
theorem l1Open_any (a : Option Addr) (b o n c : Nat) (w : World) (h : BytesAt w a b o n) (hb : 0 < n → b < w.heap.size) (hc : n ≤ c) (hn : n ≤ 1048576) :
    Calls Tryd.prog 48 #[.slice a n c] w fun e w' => e = .returned (.pointer (some ⟨w.heap.size, 0, none⟩)) ∧ RD w' w.heap.size 0 ∧ Below w.heap.size w w' := by
  by_cases hl : 2000 < n
  · have hl' : (2000 : Int) < (n : Int) := by omega
    obtain rfl := h.1 (by omega)
    have hc' : (2000 : Int) ≤ (c : Int) := by omega
    go_enter Tryd.func48, Tryd.ntmps48
    go_wp2
    go_ret
    exact ⟨rfl, rd_made (n := 2000) ⟨fun _ => rfl, fun j hj => h.2 j (by omega)⟩ (fun _ => hb (by omega)) (Nat.le_refl _), (Below.refl _ _).alloc (Nat.le_refl _) _⟩
  · have hl' : ¬ (2000 : Int) < (n : Int) := by omega
    go_enter Tryd.func48, Tryd.ntmps48
    go_wp2
    go_ret
    exact ⟨rfl, rd_made h hb (by omega), (Below.refl _ _).alloc (Nat.le_refl _) _⟩

theorem keepI {W w1 : World} (hb : Below W.heap.size W w1) (p : Addr) (v : Value) : W.cell? p = some v → w1.cell? p = some v := fun h => keepB hb h
/-- A text of at most so many bytes. -/
def SomeText (e : Ending) (z : Nat) : Prop := ∃ y : ByteArray, e = .returned (.string y) ∧ y.size ≤ z

set_option maxHeartbeats 1000000 in
set_option maxRecDepth 100000 in
theorem l1Dec_1 (n : Nat) (w : World) (h : n < 10) : Calls Tryd.prog 91 #[.int .i64 n] w fun e w' => SomeText e 1 ∧ Below w.heap.size w w' := by
  have h0 : ¬ (n : Int) < 0 := by omega
  have h1 : (n : Int) < 10 := by omega
  have hconv := run_convert_bytes_arg (P := Tryd.prog) (w.alloc (.cells #[.int .u8 (48 + (n : Int))] 5)) 35 5 Tryd.underlying35 Tryd.underlying5 w.heap.size 0 1 1 [48 + (n : Int)] rfl (fun i hi => by
    obtain rfl : i = 0 := by omega
    simp) 9 Tryd.underlying9
  obtain ⟨s1, hs1⟩ : ∃ s1, s1 = strOfNums [48 + (n : Int)] := ⟨_, rfl⟩
  rw [← hs1] at hconv
  have hz1 : s1.size ≤ 1 := by rw [hs1, strOfNums_size]; simp
  clear hs1
  go_enter Tryd.func91, Tryd.ntmps91
  go_wp2
  go_ret
  exact ⟨⟨s1, rfl, hz1⟩, (Below.refl _ _).alloc (Nat.le_refl _) _⟩

set_option maxHeartbeats 1000000 in
set_option maxRecDepth 100000 in
theorem l1Dec_2 (n : Nat) (w : World) (h : n < 100) : Calls Tryd.prog 91 #[.int .i64 n] w fun e w' => SomeText e 2 ∧ Below w.heap.size w w' := by
  by_cases h10 : n < 10
  · refine (l1Dec_1 n w h10).mono ?_
    rintro e w' ⟨⟨y, rfl, hy⟩, hb⟩
    exact ⟨⟨y, rfl, by omega⟩, hb⟩
  · have h0 : ¬ (n : Int) < 0 := by omega
    have h1 : ¬ (n : Int) < 10 := by omega
    have hcl : ∀ w1 : World, Calls Tryd.prog 91 #[.int .i64 ((n : Int) / 10)] w1 fun e w' => SomeText e 1 ∧ Below w1.heap.size w1 w' := fun w1 => by
      rw [show (n : Int) / 10 = ((n / 10 : Nat) : Int) by omega]; exact l1Dec_1 (n / 10) w1 (by omega)
    have HC := hid hcl
    obtain ⟨s1, hs1⟩ : ∃ s1, s1 = strOfNums [48 + (n : Int) % 10] := ⟨_, rfl⟩
    have hz1 : s1.size ≤ 1 := by rw [hs1, strOfNums_size]; simp
    have hconv := fun (W : World) (g : Nat) (hg : W.cell? ⟨g, 0, none⟩ = some (.int .u8 (48 + (n : Int) % 10))) => run_convert_bytes_arg (P := Tryd.prog) W 35 5 Tryd.underlying35 Tryd.underlying5 g 0 1 1 [48 + (n : Int) % 10] rfl (fun i hi => by
      obtain rfl : i = 0 := by omega
      simpa using hg) 9 Tryd.underlying9
    simp only [← hs1] at hconv
    have hwA : IntKind.i64.wrap ((n : Int) / 10) = (n : Int) / 10 := by rw [IntKind.wrap_i64]; omega
    have hwB : (n : Int).tmod 10 = (n : Int) % 10 := Int.tmod_eq_emod_of_nonneg (by omega)
    have hwC : IntKind.i64.wrap (48 + (n : Int) % 10) = 48 + (n : Int) % 10 := by rw [IntKind.wrap_i64]; omega
    have hwD : IntKind.u8.wrap (48 + (n : Int) % 10) = 48 + (n : Int) % 10 := by rw [IntKind.wrap_u8]; omega
    clear hcl hs1
    go_enter Tryd.func91, Tryd.ntmps91
    go_wp2
    go_region_law (first
        | (go_simp; go_at_call 91; refine (HC.out _).mono ?_; rintro e' w1 ⟨⟨y, rfl, hy⟩, hb1⟩; have hys : ¬ 9223372036854775807 < y.size + s1.size := (by omega); have hcc := keepI hb1 ⟨w.heap.size, 0, none⟩ (.int .u8 (48 + (n : Int) % 10)); simp at hcc))
    all_goals
      go_wp2
      go_ret
      refine ⟨⟨y ++ s1, rfl, by rw [ByteArray.size_append]; omega⟩, ?_⟩
      first
        | exact ((Below.refl _ _).drew.trans (hb1.mono (Nat.le_refl _))).alloc hb1.size _
        | exact ((Below.refl _ _).alloc (Nat.le_refl _) _).drew.trans (hb1.mono (by simp))

set_option maxHeartbeats 1000000 in
set_option maxRecDepth 100000 in
theorem l1Many_any (s : ByteArray) (n : Nat) (w : World) (hs : s.size ≤ 10) (hn : n ≤ 100) : Calls Tryd.prog 52 #[.string s, .int .i64 n] w fun e w' => SomeText e 1000 ∧ w' = w := by
  go_enter Tryd.func52, Tryd.ntmps52
  go_wp2
  go_loop [0, 1, 5] (fun sv nv ov => ∃ (s' o' : ByteArray) (m : Nat), sv = .string s' ∧ ov = .string o' ∧ nv = .int .i64 m ∧ o'.size + s'.size * m ≤ 1000 ∧ m ≤ 100 ∧ s'.size ≤ 2000) (fun _ nv _ => (intOf nv).toNat)
  case atStart => exact ⟨s, ⟨#[]⟩, n, rfl, rfl, rfl, by show 0 + s.size * n ≤ 1000; have := Nat.mul_le_mul hs hn; omega, hn, by omega⟩
  case round =>
    obtain ⟨s', o', m, rfl, rfl, rfl, h1, h2, h3⟩ := hrel
    by_cases h0 : 0 < m
    · have h0' : (0 : Int) < (m : Int) := by omega
      have hle : s'.size ≤ s'.size * m := Nat.le_mul_of_pos_right _ h0
      have hd : m = 2 * (m / 2) + m % 2 := by omega
      have hz : (s' ++ s').size = s'.size + s'.size := ByteArray.size_append
      have hz2 : (o' ++ s').size = o'.size + s'.size := ByteArray.size_append
      have hmul : s'.size * m = (s'.size + s'.size) * (m / 2) + s'.size * (m % 2) := by
        conv => lhs; rw [hd, Nat.mul_add, ← Nat.mul_assoc, Nat.mul_comm s'.size 2]
        rw [Nat.two_mul]
      have HZ := hid (And.intro hz (And.intro hz2 hmul))
      clear hz hz2 hmul hd
      by_cases hodd : m % 2 = 1
      · have hodd' : (m : Int) % 2 = 1 := by omega
        go_wp2
        go_round
        case rel =>
          obtain ⟨hz, hz2, hmul⟩ := HZ.out
          rw [hodd, Nat.mul_one] at hmul
          exact ⟨_, _, m / 2, rfl, rfl, by go_num, by rw [hz, hz2]; omega, by omega, by rw [hz]; omega⟩
        case measure => simp [intOf]; omega
      · have hodd' : ¬ (m : Int) % 2 = 1 := by omega
        go_wp2
        go_round
        case rel =>
          obtain ⟨hz, hz2, hmul⟩ := HZ.out
          rw [show m % 2 = 0 by omega, Nat.mul_zero] at hmul
          exact ⟨_, _, m / 2, rfl, rfl, by go_num, by rw [hz]; omega, by omega, by rw [hz]; omega⟩
        case measure => simp [intOf]; omega
    · have h0' : ¬ (0 : Int) < (m : Int) := by omega
      go_wp2
      go_ret
      exact ⟨⟨o', rfl, by omega⟩, rfl⟩

set_option maxHeartbeats 1000000 in
set_option maxRecDepth 100000 in
theorem l1Bytes_any (g k : Nat) (w : World) (h : RD w g k) (hk : k ≤ 1000000) :
    Calls Tryd.prog 79 #[.pointer (some ⟨g, 0, none⟩)] w fun e w' => (∃ y : ByteArray, e = .returned (.string y) ∧ y.size = 8) ∧ RD w' g (k + 1) ∧ w.grownBy w' (some g) := by
  go_enter Tryd.func79, Tryd.ntmps79
  go_wp2_with fail
  refine (pick_any g 50 k _ h hk (by omega) (by omega)).mono ?_
  rintro e w1 ⟨⟨r, hr, rfl⟩, h1, hg1⟩
  go_wp2_with fail
  refine (l1Dec_2 r _ (by omega)).mono ?_
  rintro e w2 ⟨⟨y, rfl, hy⟩, hb2⟩
  have h2 := h1.below hb2
  have hg2 := grownBy_trans hg1 (grownBy_below (r := some g) hb2)
  have hym : y.size ≤ maxLen := by unfold maxLen; omega
  clear h h1 hg1
  go_wp2_with fail
  refine (l1Sum_any y _ hym).mono ?_
  rintro e w3 ⟨rfl, hb3⟩
  obtain ⟨z, hz⟩ : ∃ z, z = sumS (fnv start y.data.toList) := ⟨_, rfl⟩
  rw [← hz]
  have hz8 : z.size = 8 := by rw [hz]; exact sumS_size _
  have h3 := h2.below hb3
  have hg3 := grownBy_trans hg2 (grownBy_below (r := some g) hb3)
  clear hz
  go_wp2
  go_ret
  exact ⟨⟨z, rfl, hz8⟩, h3, hg3⟩
end Go.Proofs.YtlgmkmegkojgbaaDoor
