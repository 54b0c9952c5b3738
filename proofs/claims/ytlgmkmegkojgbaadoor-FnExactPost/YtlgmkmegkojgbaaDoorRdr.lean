
/-
  impl's reader: text, number, end.
-/
import Derived.Test.YtlgmkmegkojgbaaDoorClone
import Derived.Test.YtlgmkmegkojgbaaDoorCel
namespace Go.Proofs.YtlgmkmegkojgbaaDoor
open Go.RowKit

/-- A reader in block b, with no fault yet; with one. -/
structure RdOk (w : World) (b : Nat) (rest : ByteArray) : Prop where
  c0 : w.cell? ⟨b, 0, none⟩ = some (.string rest)
  c1 : w.cell? ⟨b, 1, none⟩ = some .nilIface
  f0 : w.frozen? ⟨b, 0, none⟩ = false
  f1 : w.frozen? ⟨b, 1, none⟩ = false
structure RdBad (w : World) (b : Nat) (e : Addr) (rest : ByteArray) : Prop where
  c0 : w.cell? ⟨b, 0, none⟩ = some (.string rest)
  c1 : w.cell? ⟨b, 1, none⟩ = some (.iface 73 (.pointer (some e)))
  f0 : w.frozen? ⟨b, 0, none⟩ = false
  f1 : w.frozen? ⟨b, 1, none⟩ = false

theorem grown_below {w w' : World} (h : Below w.heap.size w w') (row : Option Nat) : w.grownBy w' row := ⟨h.os, h.tape, h.output, h.size, fun k hk _ => h.block k hk⟩

set_option maxHeartbeats 1000000 in
set_option maxRecDepth 100000 in
theorem text_ok (b sz : Nat) (rest : ByteArray) (w : World) (h : RdOk w b rest) (hsz : sz ≤ rest.size) (h1 : 0 < sz) (h8 : sz ≤ 8) :
    Calls Tryd.prog 86 #[.pointer (some ⟨b, 0, none⟩), .int .i64 sz] w fun e w' => e = .returned (.string (rest.extract 0 sz)) ∧ RdOk w' b (rest.extract sz rest.size) ∧ w.grownBy w' (some b) := by
  obtain ⟨c0, c1, f0, f1⟩ := h
  go_enter Tryd.func86, Tryd.ntmps86
  have hx : (rest.extract 0 sz).size = sz := by rw [ByteArray.size_extract]; omega
  have hblt : b < w.heap.size := World.block_lt_of_cell? _ _ c0
  go_wp2_with fail
  refine (clone_any _ _ (by omega) (by omega)).mono ?_
  rintro e w1 ⟨rfl, hb1⟩
  have d0 : w1.cell? ⟨b, 0, none⟩ = some (.string rest) := (hb1.cell (p := ⟨b, 0, none⟩) hblt).trans c0
  have d1 : w1.cell? ⟨b, 1, none⟩ = some .nilIface := (hb1.cell (p := ⟨b, 1, none⟩) hblt).trans c1
  have g0 : w1.frozen? ⟨b, 0, none⟩ = false := (hb1.frozen (p := ⟨b, 0, none⟩) hblt).trans f0
  have g1 : w1.frozen? ⟨b, 1, none⟩ = false := (hb1.frozen (p := ⟨b, 1, none⟩) hblt).trans f1
  go_wp2
  go_ret
  refine ⟨rfl, ⟨?_, ?_, ?_, ?_⟩, ?_⟩
  · rw [World.cell?_setCell_same _ _ _ d0]
  · rw [World.cell?_setCell_other _ _ _ _ (by intro hh; injection hh with _ h2 _; omega)]; exact d1
  · rw [World.frozen?_setCell]; exact g0
  · rw [World.frozen?_setCell]; exact g1
  · exact gset (grown_below hb1 _) 0 _

set_option maxHeartbeats 1000000 in
set_option maxRecDepth 100000 in
theorem text_short (b sz : Nat) (rest : ByteArray) (w : World) (h : RdOk w b rest) (hsz : rest.size < sz) :
    Calls Tryd.prog 86 #[.pointer (some ⟨b, 0, none⟩), .int .i64 sz] w fun e w' => e = .returned (.string ⟨#[]⟩) ∧ (∃ a, RdBad w' b a rest) ∧ w.grownBy w' (some b) := by
  obtain ⟨c0, c1, f0, f1⟩ := h
  have hblt : b < w.heap.size := World.block_lt_of_cell? _ _ c0
  go_enter Tryd.func86, Tryd.ntmps86
  go_wp2
  go_ret
  refine ⟨rfl, ⟨⟨w.heap.size, 0, none⟩, ⟨?_, ?_, ?_, ?_⟩⟩, ?_⟩
  · rw [World.cell?_alloc_lt _ _ ⟨b, 0, none⟩ (by simpa using hblt), World.cell?_setCell_other _ _ _ _ (by intro hh; injection hh with _ h2 _; omega)]; exact c0
  · rw [World.cell?_alloc_lt _ _ ⟨b, 1, none⟩ (by simpa using hblt), World.cell?_setCell_same _ _ _ c1]
  · rw [World.frozen?_alloc_old _ _ ⟨b, 0, none⟩ (by simp; omega), World.frozen?_setCell]; exact f0
  · rw [World.frozen?_alloc_old _ _ ⟨b, 1, none⟩ (by simp; omega), World.frozen?_setCell]; exact f1
  · exact galloc (gset (World.grownBy.refl w (some b)) 1 _) _

set_option maxHeartbeats 1000000 in
set_option maxRecDepth 100000 in
theorem text_bad (b sz : Nat) (a : Addr) (rest : ByteArray) (w : World) (h : RdBad w b a rest) :
    Calls Tryd.prog 86 #[.pointer (some ⟨b, 0, none⟩), .int .i64 sz] w fun e w' => e = .returned (.string ⟨#[]⟩) ∧ RdBad w' b a rest ∧ w.grownBy w' (some b) := by
  obtain ⟨c0, c1, f0, f1⟩ := h
  go_enter Tryd.func86, Tryd.ntmps86
  go_wp2
  go_ret
  exact ⟨rfl, ⟨c0, c1, f0, f1⟩, World.grownBy.refl _ _⟩

def beV (l : List UInt8) : Int := l.foldl (fun n b => n * 256 + (b.toNat : Int)) 0
theorem beV_snoc (l : List UInt8) (b : UInt8) : beV (l ++ [b]) = beV l * 256 + (b.toNat : Int) := by simp [beV]

theorem beV_bound (l : List UInt8) : 0 ≤ beV l ∧ beV l < 256 ^ l.length := by
  have key : ∀ (l : List UInt8) (n : Int) (m : Nat), 0 ≤ n → n < 256 ^ m → 0 ≤ l.foldl (fun n b => n * 256 + (b.toNat : Int)) n ∧ l.foldl (fun n b => n * 256 + (b.toNat : Int)) n < 256 ^ (m + l.length) := by
    intro l
    induction l with
    | nil => intro n m h0 h1; exact ⟨h0, by simpa using h1⟩
    | cons b r ih =>
      intro n m h0 h1
      have hb : b.toNat < 256 := b.toNat_lt
      have := ih (n * 256 + (b.toNat : Int)) (m + 1) (by omega) (by rw [Int.pow_succ]; omega)
      simpa [Nat.add_assoc, Nat.add_comm 1] using this
  have := key l 0 0 (by omega) (by simp)
  rw [Nat.zero_add] at this
  exact this
theorem bits_or_byte (n : Int) (b : UInt8) (h0 : 0 ≤ n) (h1 : n < 16777216) : bits BinOp.or IntKind.i64 (n * 256) (wrap64 (b.toNat : Int)) = n * 256 + (b.toNat : Int) := by
  have hb : b.toNat < 256 := b.toNat_lt
  obtain ⟨m, rfl⟩ : ∃ m : Nat, n = m := ⟨n.toNat, by omega⟩
  have hw : wrap64 (b.toNat : Int) = (b.toNat : Int) := by unfold wrap64; omega
  rw [hw, show (m : Int) * 256 = ((m * 256 : Nat) : Int) by omega]
  have e1 : (BitVec.ofInt 64 ((m * 256 : Nat) : Int)).toNat = m * 256 := by
    rw [BitVec.ofInt_natCast, BitVec.toNat_ofNat]; exact Nat.mod_eq_of_lt (by omega)
  have e2 : (BitVec.ofInt 64 (b.toNat : Int)).toNat = b.toNat := by
    rw [BitVec.ofInt_natCast, BitVec.toNat_ofNat]; exact Nat.mod_eq_of_lt (by omega)
  show IntKind.i64.wrap ((BitVec.ofInt 64 ((m * 256 : Nat) : Int) ||| BitVec.ofInt 64 (b.toNat : Int)).toNat : Int) = _
  rw [BitVec.toNat_or, e1, e2]
  have e3 : m * 256 ||| b.toNat = m * 256 + b.toNat := by
    have := Nat.two_pow_add_eq_or_of_lt (i := 8) (b := b.toNat) (by omega) m
    rw [Nat.mul_comm]; simpa using this.symm
  rw [e3, IntKind.wrap_i64]
  omega

set_option maxHeartbeats 1000000 in
set_option maxRecDepth 100000 in
theorem number_ok (b sz : Nat) (rest : ByteArray) (w : World) (h : RdOk w b rest) (hsz : sz ≤ rest.size) (h1 : 0 < sz) (h4 : sz ≤ 4) :
    Calls Tryd.prog 85 #[.pointer (some ⟨b, 0, none⟩), .int .i64 sz] w fun e w' => e = .returned (.int .i64 (beV (rest.extract 0 sz).data.toList)) ∧ RdOk w' b (rest.extract sz rest.size) ∧ w.grownBy w' (some b) := by
  have hx : (rest.extract 0 sz).size = sz := by rw [ByteArray.size_extract]; omega
  go_enter Tryd.func85, Tryd.ntmps85
  go_wp2_with fail
  refine (text_ok b sz rest _ h hsz h1 (by omega)).mono ?_
  rintro e w1 ⟨rfl, hr, hb⟩
  obtain ⟨s, hs⟩ : ∃ s, s = rest.extract 0 sz := ⟨_, rfl⟩
  rw [← hs] at hx ⊢
  have HSX := hid hs
  clear hs
  go_wp2
  go_loop [5, 7] (fun v i => ∃ k : Nat, k ≤ sz ∧ i = .int .i64 k ∧ ∃ n : Int, v = .int .i64 n ∧ n = beV (s.data.toList.take k)) (fun _ i => sz - (intOf i).toNat)
  case atStart => exact ⟨0, Nat.zero_le _, rfl, 0, rfl, rfl⟩
  case round =>
    obtain ⟨k, hk, rfl, n, rfl, hn⟩ := hrel
    have hbd := beV_bound (s.data.toList.take k)
    rw [← hn] at hbd
    have HN := hid hn
    clear hn
    by_cases hlt : k < sz
    · have hlk : (s.data.toList.take k).length ≤ 3 := by rw [List.length_take]; omega
      have hn0 := hbd.1
      have hn1 : n < 16777216 := by
        refine Int.lt_of_lt_of_le hbd.2 ?_
        have h3 : ∀ j : Nat, j ≤ 3 → (256 : Int) ^ j ≤ 16777216 := fun j hj => by
          rcases (show j = 0 ∨ j = 1 ∨ j = 2 ∨ j = 3 by omega) with rfl | rfl | rfl | rfl <;> decide
        exact h3 _ hlk
      have hks : k < s.size := by omega
      have HS : Hid (beV (s.data.toList.take (k + 1)) = beV (s.data.toList.take k) * 256 + (s[k].toNat : Int)) := by rw [take_snoc s k hks]; exact beV_snoc _ _
      clear hbd hlk
      go_wp2
      go_round
      case rel => exact ⟨k + 1, by omega, by go_num, _, rfl, by rw [bits_or_byte _ _ hn0 hn1, HS.out, ← HN.out]⟩
      case measure => simp [intOf]; omega
    · obtain rfl : k = sz := by omega
      go_wp2
      go_ret
      exact ⟨ret_int (by rw [HN.out, List.take_of_length_le (by rw [Array.length_toList]; exact Nat.le_of_eq hx), HSX.out]; simp), hr, hb⟩

set_option maxHeartbeats 1000000 in
set_option maxRecDepth 100000 in
theorem number_short (b sz : Nat) (rest : ByteArray) (w : World) (h : RdOk w b rest) (hsz : rest.size < sz) :
    Calls Tryd.prog 85 #[.pointer (some ⟨b, 0, none⟩), .int .i64 sz] w fun e w' => e = .returned (.int .i64 0) ∧ (∃ a, RdBad w' b a rest) ∧ w.grownBy w' (some b) := by
  go_enter Tryd.func85, Tryd.ntmps85
  go_wp2_with fail
  refine (text_short b sz rest _ h hsz).mono ?_
  rintro e w1 ⟨rfl, hr, hb⟩
  have hr' := hid hr
  clear hr
  go_wp2
  go_loop [5, 7] (fun v i => v = .int .i64 0 ∧ i = .int .i64 0) (fun _ _ => 0)
  case atStart => exact ⟨rfl, rfl⟩
  case round =>
    obtain ⟨rfl, rfl⟩ := hrel
    go_wp2
    go_ret
    exact ⟨rfl, hr'.out, hb⟩

set_option maxHeartbeats 1000000 in
set_option maxRecDepth 100000 in
theorem number_bad (b sz : Nat) (a : Addr) (rest : ByteArray) (w : World) (h : RdBad w b a rest) :
    Calls Tryd.prog 85 #[.pointer (some ⟨b, 0, none⟩), .int .i64 sz] w fun e w' => e = .returned (.int .i64 0) ∧ RdBad w' b a rest ∧ w.grownBy w' (some b) := by
  go_enter Tryd.func85, Tryd.ntmps85
  go_wp2_with fail
  refine (text_bad b sz a rest _ h).mono ?_
  rintro e w1 ⟨rfl, hr, hb⟩
  go_wp2
  go_loop [5, 7] (fun v i => v = .int .i64 0 ∧ i = .int .i64 0) (fun _ _ => 0)
  case atStart => exact ⟨rfl, rfl⟩
  case round =>
    obtain ⟨rfl, rfl⟩ := hrel
    go_wp2
    go_ret
    exact ⟨rfl, hr, hb⟩

set_option maxHeartbeats 1000000 in
set_option maxRecDepth 100000 in
theorem end_ok (b : Nat) (rest : ByteArray) (w : World) (h : RdOk w b rest) (h0 : rest.size = 0) :
    Calls Tryd.prog 87 #[.pointer (some ⟨b, 0, none⟩)] w fun e w' => e = .returned .nilIface ∧ w.grownBy w' (some b) := by
  obtain ⟨c0, c1, f0, f1⟩ := h
  have he := empty_t h0
  go_enter Tryd.func87, Tryd.ntmps87
  go_wp2
  go_ret
  exact ⟨rfl, World.grownBy.refl _ _⟩

set_option maxHeartbeats 1000000 in
set_option maxRecDepth 100000 in
theorem end_long (b : Nat) (rest : ByteArray) (w : World) (h : RdOk w b rest) (h0 : ¬ rest.size = 0) :
    Calls Tryd.prog 87 #[.pointer (some ⟨b, 0, none⟩)] w fun e w' => (∃ a, e = .returned (.iface 73 (.pointer (some a)))) ∧ w.grownBy w' (some b) := by
  obtain ⟨c0, c1, f0, f1⟩ := h
  have he := empty_f h0
  have hblt : b < w.heap.size := World.block_lt_of_cell? _ _ c0
  go_enter Tryd.func87, Tryd.ntmps87
  go_wp2
  go_ret
  exact ⟨⟨_, rfl⟩, galloc (gset (World.grownBy.refl w (some b)) 1 _) _⟩

set_option maxHeartbeats 1000000 in
set_option maxRecDepth 100000 in
theorem end_bad (b : Nat) (a : Addr) (rest : ByteArray) (w : World) (h : RdBad w b a rest) :
    Calls Tryd.prog 87 #[.pointer (some ⟨b, 0, none⟩)] w fun e w' => e = .returned (.iface 73 (.pointer (some a))) ∧ w.grownBy w' (some b) := by
  obtain ⟨c0, c1, f0, f1⟩ := h
  go_enter Tryd.func87, Tryd.ntmps87
  go_wp2
  go_ret
  exact ⟨rfl, World.grownBy.refl _ _⟩

/-! ### by lists -/
def RdL (w : World) (b : Nat) (l : List UInt8) : Prop := ∃ rest : ByteArray, rest.data.toList = l ∧ RdOk w b rest
theorem ext_list (s : ByteArray) (i j : Nat) : (s.extract i j).data.toList = (s.data.toList.take j).drop i := by simp [List.drop_take, ByteArray.data_extract]
theorem RdL.block {w w' : World} {b : Nat} {l : List UInt8} (h : RdL w b l) (hb : w'.heap[b]? = w.heap[b]?) : RdL w' b l := by
  obtain ⟨rest, hl, c0, c1, f0, f1⟩ := h
  exact ⟨rest, hl, (World.cell?_of_block (w := w) (a := ⟨b, 0, none⟩) hb).trans c0, (World.cell?_of_block (w := w) (a := ⟨b, 1, none⟩) hb).trans c1, (World.frozen?_of_block (w := w) (a := ⟨b, 0, none⟩) hb).trans f0, (World.frozen?_of_block (w := w) (a := ⟨b, 1, none⟩) hb).trans f1⟩
theorem RdL.lt {w : World} {b : Nat} {l : List UInt8} (h : RdL w b l) : b < w.heap.size := by
  obtain ⟨rest, hl, c0, _⟩ := h
  exact World.block_lt_of_cell? _ _ c0
/-- A reader with a fault. -/
def RdX (w : World) (b : Nat) : Prop := ∃ a rest, RdBad w b a rest
theorem RdX.block {w w' : World} {b : Nat} (h : RdX w b) (hb : w'.heap[b]? = w.heap[b]?) : RdX w' b := by
  obtain ⟨a, rest, c0, c1, f0, f1⟩ := h
  exact ⟨a, rest, (World.cell?_of_block (w := w) (a := ⟨b, 0, none⟩) hb).trans c0, (World.cell?_of_block (w := w) (a := ⟨b, 1, none⟩) hb).trans c1, (World.frozen?_of_block (w := w) (a := ⟨b, 0, none⟩) hb).trans f0, (World.frozen?_of_block (w := w) (a := ⟨b, 1, none⟩) hb).trans f1⟩
theorem RdX.lt {w : World} {b : Nat} (h : RdX w b) : b < w.heap.size := by
  obtain ⟨a, rest, c0, _⟩ := h
  exact World.block_lt_of_cell? _ _ c0

theorem number_L (b sz : Nat) (l : List UInt8) (w : World) (h : RdL w b l) (hsz : sz ≤ l.length) (h1 : 0 < sz) (h4 : sz ≤ 4) :
    Calls Tryd.prog 85 #[.pointer (some ⟨b, 0, none⟩), .int .i64 sz] w fun e w' => e = .returned (.int .i64 (beV (l.take sz))) ∧ RdL w' b (l.drop sz) ∧ w.grownBy w' (some b) := by
  obtain ⟨rest, hl, h⟩ := h
  have hrs : rest.size = l.length := by rw [← hl, Array.length_toList]; rfl
  refine (number_ok b sz rest w h (by omega) h1 h4).mono ?_
  rintro e w' ⟨rfl, hr, hg⟩
  refine ⟨ret_int (by rw [ext_list, hl]; simp), ⟨_, ?_, hr⟩, hg⟩
  rw [ext_list, hl, hrs, List.take_length]
theorem text_L (b sz : Nat) (l : List UInt8) (w : World) (h : RdL w b l) (hsz : sz ≤ l.length) (h1 : 0 < sz) (h8 : sz ≤ 8) :
    Calls Tryd.prog 86 #[.pointer (some ⟨b, 0, none⟩), .int .i64 sz] w fun e w' => e = .returned (.string ⟨(l.take sz).toArray⟩) ∧ RdL w' b (l.drop sz) ∧ w.grownBy w' (some b) := by
  obtain ⟨rest, hl, h⟩ := h
  have hrs : rest.size = l.length := by rw [← hl, Array.length_toList]; rfl
  refine (text_ok b sz rest w h (by omega) h1 h8).mono ?_
  rintro e w' ⟨rfl, hr, hg⟩
  refine ⟨ret_str ?_, ⟨_, ?_, hr⟩, hg⟩
  · rw [← hl]
    have := ext_list rest 0 sz
    rw [List.drop_zero] at this
    rw [← this]
  · rw [ext_list, hl, hrs, List.take_length]
theorem text_S (b sz : Nat) (l : List UInt8) (w : World) (h : RdL w b l) (hsz : l.length < sz) :
    Calls Tryd.prog 86 #[.pointer (some ⟨b, 0, none⟩), .int .i64 sz] w fun e w' => e = .returned (.string ⟨#[]⟩) ∧ RdX w' b ∧ w.grownBy w' (some b) := by
  obtain ⟨rest, hl, h⟩ := h
  have hrs : rest.size = l.length := by rw [← hl, Array.length_toList]; rfl
  refine (text_short b sz rest w h (by omega)).mono ?_
  rintro e w' ⟨rfl, ⟨a, hr⟩, hg⟩
  exact ⟨rfl, ⟨a, rest, hr⟩, hg⟩
theorem text_X (b sz : Nat) (w : World) (h : RdX w b) :
    Calls Tryd.prog 86 #[.pointer (some ⟨b, 0, none⟩), .int .i64 sz] w fun e w' => e = .returned (.string ⟨#[]⟩) ∧ RdX w' b ∧ w.grownBy w' (some b) := by
  obtain ⟨a, rest, h⟩ := h
  refine (text_bad b sz a rest w h).mono ?_
  rintro e w' ⟨rfl, hr, hg⟩
  exact ⟨rfl, ⟨a, rest, hr⟩, hg⟩

/-- Where the bytes may not be enough: N bytes in all, c of them asked for. -/
def RdQ (w : World) (b N c : Nat) : Prop := (∃ l, RdL w b l ∧ l.length + c = N) ∨ RdX w b
theorem RdQ.block {w w' : World} {b N c : Nat} (h : RdQ w b N c) (hb : w'.heap[b]? = w.heap[b]?) : RdQ w' b N c := by
  rcases h with ⟨l, h, hc⟩ | h
  · exact .inl ⟨l, h.block hb, hc⟩
  · exact .inr (h.block hb)
theorem RdQ.lt {w : World} {b N c : Nat} (h : RdQ w b N c) : b < w.heap.size := by
  rcases h with ⟨l, h, hc⟩ | h
  · exact h.lt
  · exact h.lt
theorem number_Q (b sz N c : Nat) (w : World) (h : RdQ w b N c) (h1 : 0 < sz) (h4 : sz ≤ 4) :
    Calls Tryd.prog 85 #[.pointer (some ⟨b, 0, none⟩), .int .i64 sz] w fun e w' => (∃ n, e = .returned (.int .i64 n) ∧ (N < c + sz → n = 0)) ∧ RdQ w' b N (c + sz) ∧ w.grownBy w' (some b) := by
  rcases h with ⟨l, h, hc⟩ | ⟨a, rest, h⟩
  · by_cases hsz : sz ≤ l.length
    · refine (number_L b sz l w h hsz h1 h4).mono ?_
      rintro e w' ⟨rfl, hr, hg⟩
      exact ⟨⟨_, rfl, fun hh => by omega⟩, .inl ⟨_, hr, by rw [List.length_drop]; omega⟩, hg⟩
    · obtain ⟨rest, hl, h⟩ := h
      have hrs : rest.size = l.length := by rw [← hl, Array.length_toList]; rfl
      refine (number_short b sz rest w h (by omega)).mono ?_
      rintro e w' ⟨rfl, ⟨a, hr⟩, hg⟩
      exact ⟨⟨_, rfl, fun _ => rfl⟩, .inr ⟨a, rest, hr⟩, hg⟩
  · refine (number_bad b sz a rest w h).mono ?_
    rintro e w' ⟨rfl, hr, hg⟩
    exact ⟨⟨_, rfl, fun _ => rfl⟩, .inr ⟨a, rest, hr⟩, hg⟩
end Go.Proofs.YtlgmkmegkojgbaaDoor
