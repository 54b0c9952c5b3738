
/-
  impl.readBody.
-/
import Derived.Test.YtlgmkmegkojgbaaDoorRdr
import Derived.Test.YtlgmkmegkojgbaaDoorPar
import Derived.Test.YtlgmkmegkojgbaaDoorCel
import Derived.Test.YtlgmkmegkojgbaaDoorCel
import Derived.Deep.RegionLaw
import Derived.Deep.DeepCutAuto
import Derived.Deep.MidRow
namespace Go.Proofs.YtlgmkmegkojgbaaDoor
open Go.RowKit

theorem Tryd.sizeMsg : (Tryd.prog.info? 27).map (·.size) = some 8 := by kernel_rfl
/-- Amid readBody: the message so far in block P + 1 + 1, the answer's box in block P. -/
structure RB (w0 : World) (P : Nat) (vs : List Value) (w : World) : Prop where
  m : CF w (P + 1 + 1) vs
  bx : CF w P zM
  lo : P + 1 + 1 < w.heap.size
  be : Below P w0 w
theorem RB.call {w0 w w' : World} {P : Nat} {vs : List Value} (h : RB w0 P vs w) (hg : w.grownBy w' (some (P + 1))) : RB w0 P vs w' :=
  ⟨h.m.block (hg.block _ h.lo (by simp)), h.bx.block (hg.block _ (by have := h.lo; omega) (by simp)), Nat.lt_of_lt_of_le h.lo hg.size,
    h.be.grown hg (by have := h.lo; omega) (fun k hk => by simp at hk; omega)⟩
theorem RB.store {w0 w : World} {P : Nat} {vs : List Value} (h : RB w0 P vs w) {j : Nat} (hj : j < vs.length) (u : Value) : RB w0 P (vs.set j u) (w.setCell ⟨P + 1 + 1, j, none⟩ u) :=
  ⟨h.m.set hj u, h.bx.block (Below.heap_setCell _ _ _ _ (by dsimp only; omega)), by simpa [World.setCell] using h.lo, h.be.setCell (by dsimp only; omega) _⟩
theorem RB.below {w0 w w' : World} {P : Nat} {vs : List Value} (h : RB w0 P vs w) (hb : Below w.heap.size w w') : RB w0 P vs w' :=
  ⟨h.m.block (hb.block _ h.lo), h.bx.block (hb.block _ (by have := h.lo; omega)), Nat.lt_of_lt_of_le h.lo hb.size, h.be.trans (hb.mono (by have := h.lo; omega))⟩
theorem RB.grown {w0 w w' : World} {P : Nat} {vs : List Value} {row : Option Nat} (h : RB w0 P vs w) (hg : w.grownBy w' row) (hr : ∀ k, row = some k → P + 1 + 1 + 1 ≤ k) : RB w0 P vs w' :=
  ⟨h.m.block (hg.block _ h.lo (fun e => by have := hr _ e.symm; omega)), h.bx.block (hg.block _ (by have := h.lo; omega) (fun e => by have := hr _ e.symm; omega)), Nat.lt_of_lt_of_le h.lo hg.size,
    h.be.grown hg (by have := h.lo; omega) (fun k hk => by have := hr k hk; omega)⟩
theorem RdL.store {w : World} {P j : Nat} {l : List UInt8} {u : Value} (h : RdL w (P + 1) l) : RdL (w.setCell ⟨P + 1 + 1, j, none⟩ u) (P + 1) l := h.block (Below.heap_setCell _ _ _ _ (by dsimp only; omega))
theorem RdQ.store {w : World} {P j N c : Nat} {u : Value} (h : RdQ w (P + 1) N c) : RdQ (w.setCell ⟨P + 1 + 1, j, none⟩ u) (P + 1) N c := h.block (Below.heap_setCell _ _ _ _ (by dsimp only; omega))
theorem RdX.store {w : World} {P j : Nat} {u : Value} (h : RdX w (P + 1)) : RdX (w.setCell ⟨P + 1 + 1, j, none⟩ u) (P + 1) := h.block (Below.heap_setCell _ _ _ _ (by dsimp only; omega))
theorem rb_start (w : World) (body : ByteArray) (W : World) (hW : W = ((w.alloc (.cells zM.toArray 27)).alloc (.cells #[.string body, .nilIface] 139)).alloc (.cells zM.toArray 27)) :
    RB w w.heap.size zM W ∧ RdL W (w.heap.size + 1) body.data.toList := by
  have h1 : CF (w.alloc (.cells zM.toArray 27)) w.heap.size zM := CF.made w zM.toArray _
  have e1 : (w.alloc (.cells zM.toArray 27)).heap.size = w.heap.size + 1 := by simp
  have h2 := CF.made (w.alloc (.cells zM.toArray 27)) #[.string body, .nilIface] 139
  rw [e1] at h2
  have e2 : ((w.alloc (.cells zM.toArray 27)).alloc (.cells #[.string body, .nilIface] 139)).heap.size = w.heap.size + 1 + 1 := by simp
  have h3 := CF.made ((w.alloc (.cells zM.toArray 27)).alloc (.cells #[.string body, .nilIface] 139)) zM.toArray 27
  rw [e2] at h3
  subst hW
  have k1 := (h1.block (Below.heap_alloc _ (.cells #[.string body, .nilIface] 139) w.heap.size (by simp))).block (Below.heap_alloc _ (.cells zM.toArray 27) w.heap.size (by simp; omega))
  have k2 := h2.block (Below.heap_alloc _ (.cells zM.toArray 27) (w.heap.size + 1) (by simp))
  exact ⟨⟨h3, k1, by simp, (((Below.refl _ _).alloc (Nat.le_refl _) _).alloc (by simp) _).alloc (by simp; omega) _⟩, body, rfl, (k2 0 (by simp)).1, (k2 1 (by simp)).1, (k2 0 (by simp)).2, (k2 1 (by simp)).2⟩

/-- No valid message has these bytes for its body. -/
def NoRead (L : List UInt8) : Prop := ¬ ∃ (k f t e l d : Int) (x : ByteArray) (ss : List ByteArray), vM k f t e l d x.size ss ∧ bodyL k f t e l d x ss = L
/-- What readBody answers. -/
def RetR (e' : Ending) (w w' : World) (L : List UInt8) : Prop :=
  (∃ a, e' = .returned (.tuple #[.agg zM.toArray, .iface 73 (.pointer (some a))]) ∧ NoRead L) ∨
  (∃ (k f t e l d : Int) (x : ByteArray) (ss : List ByteArray) (v : Value), e' = .returned (.tuple #[.agg #[.int .i64 k, .int .i64 f, .int .i64 t, .int .i64 e, .int .i64 l, .int .i64 d, .string x, v], .nilIface]) ∧ vM k f t e l d x.size ss ∧ bodyL k f t e l d x ss = L ∧ Own w.heap.size w' 1 v ss.length (ss.map Value.string))
/-- The loop over the inputs: j of n are read. -/
def ST (w : World) (b : Nat) (Z : Prop) (R : List UInt8) (j : Nat) (xs : List ByteArray) : Prop := xs.length = j ∧ ((RdL w b (R.drop (8 * j)) ∧ 8 * j ≤ R.length ∧ xs = chk j R) ∨ (RdX w b ∧ Z))
theorem ST.block {w w' : World} {b : Nat} {Z : Prop} {R : List UInt8} {j : Nat} {xs : List ByteArray} (h : ST w b Z R j xs) (hb : w'.heap[b]? = w.heap[b]?) : ST w' b Z R j xs :=
  ⟨h.1, h.2.imp (fun h => ⟨h.1.block hb, h.2⟩) (fun h => ⟨h.1.block hb, h.2⟩)⟩
theorem ST.lt {w : World} {b : Nat} {Z : Prop} {R : List UInt8} {j : Nat} {xs : List ByteArray} (h : ST w b Z R j xs) : b < w.heap.size := by
  rcases h.2 with h | h
  · exact h.1.lt
  · exact h.1.lt
theorem chk_size (n : Nat) (R : List UInt8) : ∀ s ∈ chk n R, s.size ≤ 8 := by
  induction n generalizing R with
  | zero => intro s hs; cases hs
  | succ n ih =>
    intro s hs
    rcases List.mem_cons.1 hs with rfl | hs
    · show (R.take 8).toArray.size ≤ 8
      simp; omega
    · exact ih _ s hs
theorem Own.strs {B : Nat} {w : World} {a : Option Addr} {n c : Nat} {ss : List ByteArray} (h : Own B w 1 (.slice a n c) n (ss.map Value.string)) (hz : ∀ s ∈ ss, s.size ≤ maxLen) : ∃ b o, StrsAt w a b o n ss := by
  rcases h with ⟨hv, rfl, hx⟩ | ⟨g, o, cap, hv, hc⟩
  · injection hv with h1 _ _
    have : ss = [] := by simpa using hx
    subst this
    exact ⟨0, 0, fun h => absurd h (by omega), rfl, Nat.zero_le _, fun h => absurd h (by omega), fun j hj => absurd hj (by omega), by simp⟩
  · injection hv with h1 _ _
    subst h1
    exact ⟨g, o, StrsAt.ofOwn hc hz⟩
theorem text_W (b n j : Nat) (Z : Prop) (R : List UInt8) (xs : List ByteArray) (w : World) (h : ST w b Z R j xs) (hj : j < n) (hZ : R.length < 8 * n → Z) :
    Calls Tryd.prog 86 #[.pointer (some ⟨b, 0, none⟩), .int .i64 8] w fun e w' => (∃ y : ByteArray, e = .returned (.string y) ∧ y.size ≤ 8 ∧ ST w' b Z R (j + 1) (xs ++ [y])) ∧ w.grownBy w' (some b) := by
  obtain ⟨hx, ⟨h, h8, rfl⟩ | ⟨h, hz⟩⟩ := h
  · by_cases hs : 8 ≤ (R.drop (8 * j)).length
    · refine (text_L b 8 _ w h hs (by omega) (by omega)).mono ?_
      rintro e w' ⟨rfl, hr, hg⟩
      rw [List.length_drop] at hs
      refine ⟨⟨_, rfl, ?_, by simp [chk_length], .inl ⟨?_, by omega, ?_⟩⟩, hg⟩
      · show ((R.drop (8 * j)).take 8).toArray.size ≤ 8
        simp; omega
      · rw [List.drop_drop] at hr; rw [show 8 * (j + 1) = 8 * j + 8 by omega]; exact hr
      · exact (chk_snoc j R).symm
    · refine (text_S b 8 _ w h (by omega)).mono ?_
      rintro e w' ⟨rfl, hr, hg⟩
      rw [List.length_drop] at hs
      exact ⟨⟨_, rfl, by decide, by simp [chk_length], .inr ⟨hr, hZ (by omega)⟩⟩, hg⟩
  · refine (text_X b 8 w h).mono ?_
    rintro e w' ⟨rfl, hr, hg⟩
    exact ⟨⟨_, rfl, by decide, by simp [hx], .inr ⟨hr, hz⟩⟩, hg⟩

theorem n_good {L R : List UInt8} {b0 b1 b2 b3 b4 b5 b6 b7 b8 b9 b10 : UInt8} (hL : L = b0 :: b1 :: b2 :: b3 :: b4 :: b5 :: b6 :: b7 :: b8 :: b9 :: b10 :: R) (h : R.length = 8 * b10.toNat) : bodyL (b0.toNat : Int) (b1.toNat : Int) (b2.toNat : Int) (nE b3 b4) (nL b5 b6 b7 b8) (b9.toNat : Int) ⟨#[]⟩ (chk b10.toNat R) = L := by
  unfold bodyL
  rw [chk_length, head_mk b0 b1 b2 b3 b4 b5 b6 b7 b8 b9 b10 b10.toNat rfl, (cat_chk b10.toNat R (by omega)).1, List.take_of_length_le (by omega), hL]
  rfl
theorem n_len {L R : List UInt8} {b0 b1 b2 b3 b4 b5 b6 b7 b8 b9 b10 : UInt8} (hL : L = b0 :: b1 :: b2 :: b3 :: b4 :: b5 :: b6 :: b7 :: b8 :: b9 :: b10 :: R) (h3 : ¬ b0.toNat = 3) (h : ¬ R.length = 8 * b10.toNat) : NoRead L := by
  rintro ⟨k, f, t, e, l, d, x, ss, hv, hb⟩
  rw [hL] at hb
  exact h ((body_says hv hb).2.2.2.2.2.2.2 h3).2.2
theorem n_inv {L R : List UInt8} {b0 b1 b2 b3 b4 b5 b6 b7 b8 b9 b10 : UInt8} (hL : L = b0 :: b1 :: b2 :: b3 :: b4 :: b5 :: b6 :: b7 :: b8 :: b9 :: b10 :: R) (h3 : ¬ b0.toNat = 3) (h : ¬ vM (b0.toNat : Int) (b1.toNat : Int) (b2.toNat : Int) (nE b3 b4) (nL b5 b6 b7 b8) (b9.toNat : Int) (⟨#[]⟩ : ByteArray).size (chk b10.toNat R)) : NoRead L := by
  rintro ⟨k, f, t, e, l, d, x, ss, hv, hb⟩
  rw [hL] at hb
  obtain ⟨rfl, rfl, rfl, rfl, rfl, rfl, _, hn⟩ := body_says hv hb
  obtain ⟨rfl, rfl, _⟩ := hn h3
  exact h hv
theorem t_good {L R : List UInt8} {b0 b1 b2 b3 b4 b5 b6 b7 b8 b9 b10 : UInt8} (hL : L = b0 :: b1 :: b2 :: b3 :: b4 :: b5 :: b6 :: b7 :: b8 :: b9 :: b10 :: R) (h : (R.drop 8).length = 8 * b10.toNat) : bodyL (b0.toNat : Int) (b1.toNat : Int) (b2.toNat : Int) (nE b3 b4) (nL b5 b6 b7 b8) (b9.toNat : Int) ⟨(R.take 8).toArray⟩ (chk b10.toNat (R.drop 8)) = L := by
  unfold bodyL
  rw [chk_length, head_mk b0 b1 b2 b3 b4 b5 b6 b7 b8 b9 b10 b10.toNat rfl, (cat_chk b10.toNat (R.drop 8) (by omega)).1, List.take_of_length_le (l := R.drop 8) (by omega), hL]
  simp
theorem t_len {L R : List UInt8} {b0 b1 b2 b3 b4 b5 b6 b7 b8 b9 b10 : UInt8} (hL : L = b0 :: b1 :: b2 :: b3 :: b4 :: b5 :: b6 :: b7 :: b8 :: b9 :: b10 :: R) (h3 : b0.toNat = 3) (h : R.length < 8 ∨ ¬ (R.drop 8).length = 8 * b10.toNat) : NoRead L := by
  rintro ⟨k, f, t, e, l, d, x, ss, hv, hb⟩
  rw [hL] at hb
  obtain ⟨_, _, hr, hn⟩ := (body_says hv hb).2.2.2.2.2.2.1 h3
  rw [List.length_drop] at h
  omega
theorem t_inv {L R : List UInt8} {b0 b1 b2 b3 b4 b5 b6 b7 b8 b9 b10 : UInt8} (hL : L = b0 :: b1 :: b2 :: b3 :: b4 :: b5 :: b6 :: b7 :: b8 :: b9 :: b10 :: R) (h3 : b0.toNat = 3) (h : ¬ vM (b0.toNat : Int) (b1.toNat : Int) (b2.toNat : Int) (nE b3 b4) (nL b5 b6 b7 b8) (b9.toNat : Int) (⟨(R.take 8).toArray⟩ : ByteArray).size (chk b10.toNat (R.drop 8))) : NoRead L := by
  rintro ⟨k, f, t, e, l, d, x, ss, hv, hb⟩
  rw [hL] at hb
  obtain ⟨rfl, rfl, rfl, rfl, rfl, rfl, hn, _⟩ := body_says hv hb
  obtain ⟨rfl, rfl, hr, hz⟩ := hn h3
  rw [hz, List.take_of_length_le (by omega)] at h
  exact h hv
theorem s_none {L : List UInt8} (h : L.length < 11) : NoRead L := by
  rintro ⟨k, f, t, e, l, d, x, ss, hv, hb⟩
  have := bodyL_length k f t e l d x ss
  rw [hb] at this; omega
theorem tab_text {w : World} (h : Tab w) {k : Nat} (h1 : 1 ≤ k) (h5 : k ≤ 5) : w.cell? ⟨0, k * 5 + 3, none⟩ = some (.bool (decide (k = 3))) := by
  rw [h (k * 5 + 3) (by omega)]
  rcases (show k = 1 ∨ k = 2 ∨ k = 3 ∨ k = 4 ∨ k = 5 by omega) with rfl | rfl | rfl | rfl | rfl <;> rfl
end Go.Proofs.YtlgmkmegkojgbaaDoor
