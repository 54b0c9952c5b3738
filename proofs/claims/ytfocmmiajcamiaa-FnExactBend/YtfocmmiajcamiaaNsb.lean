
/-
  spec.Bend.
-/
import Derived.Test.YtfocmmiajcamiaaNsp
namespace Go.Proofs.Ytfocmmiajcamiaa
open Go.RowKit

def bn (s : ByteArray) : List Int := s.data.toList.map fun b => (b.toNat : Int)
theorem bn_length (s : ByteArray) : (bn s).length = s.size := by unfold bn; rw [List.length_map, Array.length_toList]; rfl
theorem byteCells_bn (s : ByteArray) : byteCells s = (bn s).map (Value.int .u8) := by simp [byteCells, bn]
theorem bytes_row {B : Nat} {w : World} {s : ByteArray} {v : Value} (h : Own B w 1 v s.size (byteCells s)) (hs : 0 < s.size) : ∃ g o cap, v = .slice (some ⟨g, o, none⟩) s.size cap ∧ OwnC B w 1 g o cap s.size ((bn s).map (Value.int .u8)) := by
  rcases h with ⟨_, h0, _⟩ | ⟨g, o, cap, rfl, hc⟩
  · omega
  · exact ⟨g, o, cap, rfl, by rw [← byteCells_bn]; exact hc⟩

/-- The byte at place q, combined with the mask. -/
def bx (s : ByteArray) (q : Nat) (mask : Int) : Int := bits BinOp.xor IntKind.u8 ((bn s).getD q 0) (mask % 256)
def bendN (s : ByteArray) (q : Nat) (mask : Int) : List Int := (bn s).set q (bx s q mask)
def bendS (s : ByteArray) (place mask : Int) : ByteArray := if 0 ≤ place ∧ place < s.size ∧ 0 ≤ mask then strOfNums (bendN s place.toNat mask) else s
theorem bendN_length (s : ByteArray) (q : Nat) (mask : Int) : (bendN s q mask).length = s.size := by unfold bendN; rw [List.length_set, bn_length]
theorem bendS_size (s : ByteArray) (place mask : Int) : (bendS s place mask).size = s.size := by
  unfold bendS
  split
  · rw [strOfNums_size, bendN_length]
  · rfl
def bndP (P : List Pc) (k place mask : Int) : List Pc := if thereB P.length k = true then P.set k.toNat ((pc P k.toNat).1, (pc P k.toNat).2.1, bendS (pc P k.toNat).2.2 place mask) else P
theorem bndP_length (P : List Pc) (k place mask : Int) : (bndP P k place mask).length = P.length := by unfold bndP; split <;> simp
theorem pc_set (P : List Pc) (j : Nat) (x : Pc) (i : Nat) (hi : i < P.length) : pc (P.set j x) i = if i = j then x else pc P i := by
  by_cases e : i = j
  · subst e; simp [pc, hi]
  · rw [if_neg e]
    simp only [pc, List.getD]
    rw [List.getElem?_set_ne (by omega)]
theorem pcs_set2 (P : List Pc) (j : Nat) (s : ByteArray) (hj : j < P.length) : (pcs P).set (j * 3 + 2) (.string s) = pcs (P.set j ((pc P j).1, (pc P j).2.1, s)) := by
  refine pcs_of (by simp [pcs_length]) (fun i hi => ?_)
  rw [List.length_set] at hi
  rw [pc_set _ _ _ _ hi]
  have g0 := pcs_get P i 0 hi (by omega)
  have g1 := pcs_get P i 1 hi (by omega)
  have g2 := pcs_get P i 2 hi (by omega)
  by_cases e : i = j
  · subst e
    rw [if_pos rfl]
    refine ⟨?_, ?_, ?_⟩
    · rw [List.getElem?_set_ne (by omega)]; exact g0
    · rw [List.getElem?_set_ne (by omega)]; exact g1
    · rw [List.getElem?_set_self (by rw [pcs_length]; omega)]
  · rw [if_neg e]
    refine ⟨?_, ?_, ?_⟩
    · rw [List.getElem?_set_ne (by omega)]; exact g0
    · rw [List.getElem?_set_ne (by omega)]; exact g1
    · rw [List.getElem?_set_ne (by omega)]; exact g2
theorem set_same (P : List Pc) (j : Nat) : P.set j ((pc P j).1, (pc P j).2.1, (pc P j).2.2) = P := by
  apply pc_ext (by simp)
  intro i hi
  rw [List.length_set] at hi
  rw [pc_set _ _ _ _ hi]
  split
  · rename_i e; rw [e]
  · rfl
/-- As it is. -/
theorem bndP_same {P : List Pc} {k place mask : Int} (h : thereB P.length k = true → ¬ (0 ≤ place ∧ place < (pc P k.toNat).2.2.size ∧ 0 ≤ mask)) : bndP P k place mask = P := by
  unfold bndP
  split
  · rename_i hE
    rw [bendS, if_neg (h hE)]
    exact set_same P _
  · rfl
theorem bndP_set {P : List Pc} {j q : Nat} {mask : Int} {x0 : Int} {x1 x2 : ByteArray} (hE : thereB P.length (j : Int) = true) (hx : (x0, x1, x2) = pc P j) (hq : q < x2.size) (hm : 0 ≤ mask) : bndP P j q mask = P.set j ((pc P j).1, (pc P j).2.1, strOfNums (bendN x2 q mask)) := by
  unfold bndP
  rw [hE, if_pos rfl, Int.toNat_natCast, ← hx]
  dsimp only
  rw [bendS, if_pos ⟨by omega, by omega, hm⟩, Int.toNat_natCast]
theorem OwnC.bent {B : Nat} {w : World} {s : ByteArray} {g o cap q : Nat} {mask : Int} (h : OwnC B w 1 g o cap s.size ((bn s).map (Value.int .u8))) (hq : q < s.size) : OwnC B (w.setCell ⟨g, o + q, none⟩ (.int .u8 (bx s q mask))) 1 g o cap s.size ((bendN s q mask).map (Value.int .u8)) := by
  have := h.setCell (j := q) (by omega) (.int .u8 (bx s q mask))
  rw [bendN, List.map_set]
  exact this

set_option maxHeartbeats 1000000 in
set_option maxRecDepth 100000 in
theorem specBend_any (a : Option Addr) (b o n c : Nat) (P : List Pc) (k place mask : Int) (w : World) (h : PcAt w a b o n P) (hn : n ≤ 1048576) :
    Calls Try.prog 15 #[.slice a n c, .int .i64 k, .int .i64 place, .int .i64 mask] w fun e w' => RetP e w.heap.size w' (bndP P k place mask) ∧ Below w.heap.size w w' := by
  have hl := h.len
  have hn' : (n : Int) ≤ 1048576 := by omega
  go_enter Try.func15, Try.ntmps15
  go_wp2_with fail
  refine (l6Copy_any a b o n c P w h hn).mono ?_
  rintro e w1 ⟨⟨v, rfl, hown⟩, hb1⟩
  rw [hl] at hown
  obtain ⟨a1, c1, rfl⟩ := hown.slc
  have HR : ∀ (k place mask : Int), (thereB P.length k = true → ¬ (0 ≤ place ∧ place < (pc P k.toNat).2.2.size ∧ 0 ≤ mask)) → RetP (.returned (.slice a1 n c1)) w.heap.size w1 (bndP P k place mask) := fun k place mask hh => ⟨_, rfl, by rw [bndP_same hh, hl]; exact hown⟩
  go_wp2_with fail
  refine (l6There_any a n c k _ hn).mono ?_
  rintro e w2 ⟨rfl, hw2⟩
  rw [hw2]
  clear hw2
  cases hE : thereB n k with
  | false =>
    have HR' := HR k place mask (fun hh => by rw [hl, hE] at hh; cases hh)
    clear hE hown hl h HR
    go_wp2
    go_ret
    exact ⟨HR', hb1⟩
  | true =>
    obtain ⟨h1, h2, h3⟩ := thereB_t hE
    obtain ⟨j, rfl⟩ : ∃ j : Nat, k = j := ⟨k.toNat, by omega⟩
    have hj : j < n := by omega
    obtain rfl := h.ad (by omega)
    have h' := h.below' hb1
    have hc2 := h'.c2 j hj
    have hgs := (h'.rng j hj).2.2
    obtain ⟨⟨x0, x1, x2⟩, hx⟩ : ∃ x, x = pc P j := ⟨_, rfl⟩
    have hR1 : ¬ (0 ≤ place ∧ place < x2.size ∧ 0 ≤ mask) → RetP (.returned (.slice a1 n c1)) w.heap.size w1 (bndP P j place mask) := fun hh => HR j place mask (fun _ => by rw [Int.toNat_natCast, ← hx]; exact hh)
    rw [← hx] at hc2 hgs
    dsimp only at hc2 hgs
    have hlt' : (j : Int) < (n : Int) := by omega
    have hgs' := hgs
    unfold maxLen at hgs'
    have HX := hid hx
    have HE := hid hE
    clear hE hx h h' HR
    by_cases hm : 0 ≤ mask
    · by_cases hp0 : 0 ≤ place
      · by_cases hp1 : place < x2.size
        · obtain ⟨q, rfl⟩ : ∃ q : Nat, place = q := ⟨place.toNat, by omega⟩
          rcases hown with ⟨_, h0, _⟩ | ⟨g1, o1, cap1, hv, ho1⟩
          · omega
          injection hv with hv1 _ hv3
          subst hv1; subst hv3
          clear hR1
          go_upto_region 6 with (refine wpList_bytes_c _ rfl _ 9 45 rfl w1.heap.size 5 Try.underlying9 Try.underlying45 Try.underlying5 x2 rfl hgs (Nat.le_refl _) ?_; intro vb w3 hob hgb hnb; obtain ⟨gb, og, cb, rfl, hoc⟩ := bytes_row hob (by omega); obtain ⟨_, hbc⟩ := hoc.nums; have hbq := hbc q (by omega); obtain ⟨y, hy⟩ : ∃ y, y = (bn x2).getD q 0 := ⟨_, rfl⟩; rw [← hy] at hbq; have HY := hid hy; clear hy hbc; have hfz := hoc.notFrozen (j := q) (by omega))
          have hbx : bx x2 q mask = bits BinOp.xor IntKind.u8 y (mask % 256) := by unfold bx; rw [← HY.out]
          rw [← hbx]
          clear hbx
          have hoc' := hoc.bent (mask := mask) (q := q) (by omega)
          have hgb' : w1.grownBy (w3.setCell ⟨gb, og + q, none⟩ (.int .u8 (bx x2 q mask))) none := by
            refine ⟨hgb.os, hgb.tape, hgb.output, by simpa [World.setCell] using hgb.size, fun i hi hne => (Below.heap_setCell _ _ _ _ (fun e => ?_)).trans (hgb.block i hi hne)⟩
            have := hoc.lo
            simp at e
            omega
          obtain ⟨w4, hw4⟩ : ∃ w4, w4 = w3.setCell ⟨gb, og + q, none⟩ (.int .u8 (bx x2 q mask)) := ⟨_, rfl⟩
          rw [← hw4] at hoc' hgb' ⊢
          clear hw4 hoc hgb hbq hfz hob
          obtain ⟨_, hbc⟩ := hoc'.nums
          have hconv := run_convert_bytes_arg (P := Try.prog) w4 45 5 Try.underlying45 Try.underlying5 gb og x2.size cb (bendN x2 q mask) (bendN_length _ _ _) (fun i hi => by rw [hbc i hi]) 9 Try.underlying9
          obtain ⟨s', hs'⟩ : ∃ s', s' = strOfNums (bendN x2 q mask) := ⟨_, rfl⟩
          rw [← hs'] at hconv
          have ho2 := ho1.grown hgb' (by simp)
          obtain ⟨u2, _, hq2⟩ := ho2.cellSome (j := j * 3 + 2) (by omega)
          have hf2 := ho2.notFrozen (j := j * 3 + 2) (by omega)
          have ho3 := ho2.setCell (j := j * 3 + 2) (by omega) (.string s')
          rw [pcs_set2 P j s' (by rw [hl]; exact hj)] at ho3
          rw [← Nat.add_assoc] at hq2 hf2 ho3
          have hb4 : Below w.heap.size w (w4.setCell ⟨g1, o1 + j * 3 + 2, none⟩ (.string s')) := (hb1.grown hgb' hb1.size (by simp)).setCell (by exact ho1.lo) _
          have HR : RetP (.returned (.slice (some ⟨g1, o1, none⟩) n c1)) w.heap.size (w4.setCell ⟨g1, o1 + j * 3 + 2, none⟩ (.string s')) (bndP P j q mask) := by
            refine ⟨_, rfl, ?_⟩
            rw [bndP_length, hl, bndP_set (by rw [hl]; exact HE.out) HX.out (by omega) hm, ← hs']
            exact .inr ⟨g1, o1, c1, rfl, ho3⟩
          clear hs' ho1 ho2 ho3 hoc' hbc hgb' hl
          go_wp2
          go_ret
          exact ⟨HR, hb4⟩
        · have HR' := hR1 (by omega)
          clear hown hl hR1
          go_wp2
          go_ret
          exact ⟨HR', hb1⟩
      · have HR' := hR1 (by omega)
        clear hown hl hR1
        go_wp2
        go_ret
        exact ⟨HR', hb1⟩
    · have HR' := hR1 (by omega)
      clear hown hl hR1
      go_wp2
      go_ret
      exact ⟨HR', hb1⟩
end Go.Proofs.Ytfocmmiajcamiaa
