
/-
  What a body's bytes say: plain facts on lists.
-/
import Derived.Test.YtlgmkmegkojgbaaDoorForm
namespace Go.Proofs.YtlgmkmegkojgbaaDoor
open Go.RowKit

theorem vM_rng {k f t e l d : Int} {z : Nat} {ss : List ByteArray} (h : vM k f t e l d z ss) :
    0 ≤ k ∧ k ≤ 5 ∧ 0 ≤ f ∧ f ≤ 8 ∧ 0 ≤ t ∧ t ≤ 8 ∧ 0 ≤ e ∧ e ≤ 300 ∧ 0 ≤ l ∧ l ≤ 300000000 ∧ 0 ≤ d ∧ d ≤ 39 ∧ inOk ss ∧ (k = 3 → z = 8 ∧ ss.length = 0) ∧ (¬ k = 3 → z = 0) := by
  have hi := (vM_parts h).2.1
  unfold vM at h
  rcases h with h | h | h | h | h <;> exact ⟨by omega, by omega, by omega, by omega, by omega, by omega, by omega, by omega, by omega, by omega, by omega, by omega, hi, by omega, by omega⟩

/-- n pieces of eight bytes. -/
def chk : Nat → List UInt8 → List ByteArray
  | 0, _ => []
  | n + 1, R => ⟨(R.take 8).toArray⟩ :: chk n (R.drop 8)
theorem chk_length (n : Nat) (R : List UInt8) : (chk n R).length = n := by
  induction n generalizing R with
  | zero => rfl
  | succ n ih => simp [chk, ih]
theorem chk_snoc (n : Nat) (R : List UInt8) : chk (n + 1) R = chk n R ++ [⟨((R.drop (8 * n)).take 8).toArray⟩] := by
  induction n generalizing R with
  | zero => simp [chk]
  | succ n ih =>
    rw [chk, ih (R.drop 8), chk, List.cons_append, List.drop_drop]
    simp [Nat.mul_add, Nat.add_comm]
theorem eights_cons {s : ByteArray} {ss : List ByteArray} (h : eights (s :: ss) (ss.length + 1)) : s.size = 8 ∧ eights ss ss.length :=
  ⟨h 0 (by omega), fun j hj => by simpa using h (j + 1) (by omega)⟩
theorem ba_eq {a b : ByteArray} (h : a.data.toList = b.data.toList) : a = b := by
  cases a; cases b; simpa using h
theorem chk_cat (ss : List ByteArray) (T : List UInt8) (h : eights ss ss.length) : chk ss.length (catL ss ++ T) = ss := by
  induction ss with
  | nil => rfl
  | cons s r ih =>
    obtain ⟨h8, hr⟩ := eights_cons h
    have hl : s.data.toList.length = 8 := by rw [Array.length_toList]; exact h8
    have hc : catL (s :: r) ++ T = s.data.toList ++ (catL r ++ T) := by simp [catL]
    rw [List.length_cons, chk, hc, List.take_append_of_le_length (by omega), List.drop_append_of_le_length (by omega), List.take_of_length_le (by omega), List.drop_of_length_le (by omega), List.nil_append, ih hr]
theorem tot_eights (ss : List ByteArray) (h : eights ss ss.length) : tot ss = 8 * ss.length := by
  induction ss with
  | nil => rfl
  | cons s r ih =>
    obtain ⟨h8, hr⟩ := eights_cons h
    have := ih hr
    simp only [tot, List.map_cons, List.sum_cons, List.length_cons] at this ⊢
    omega
theorem cat_chk (n : Nat) (R : List UInt8) (h : 8 * n ≤ R.length) : catL (chk n R) = R.take (8 * n) ∧ eights (chk n R) n := by
  induction n generalizing R with
  | zero => exact ⟨by simp [chk, catL], fun j hj => absurd hj (by omega)⟩
  | succ n ih =>
    obtain ⟨h1, h2⟩ := ih (R.drop 8) (by rw [List.length_drop]; omega)
    refine ⟨?_, fun j hj => ?_⟩
    · have : catL (chk (n + 1) R) = R.take 8 ++ catL (chk n (R.drop 8)) := by simp [chk, catL]
      rw [this, h1, ← List.take_add]
      congr 1
      omega
    · cases j with
      | zero =>
        show (⟨(R.take 8).toArray⟩ : ByteArray).size = 8
        show (R.take 8).toArray.size = 8
        simp; omega
      | succ j => simpa [chk] using h2 j (by omega)

theorem u8_back (b : UInt8) : UInt8.ofNat ((b.toNat : Int)).toNat = b := by simp
theorem u8_eq {z : Int} {b : UInt8} (h : UInt8.ofNat z.toNat = b) (h0 : 0 ≤ z) (h1 : z < 256) : z = (b.toNat : Int) := by
  have := congrArg UInt8.toNat h
  rw [UInt8.toNat_ofNat_of_lt' (by simp [UInt8.size]; omega)] at this
  omega

/-- The numbers that eleven bytes say. -/
def nE (b3 b4 : UInt8) : Int := (b3.toNat : Int) * 256 + b4.toNat
def nL (b5 b6 b7 b8 : UInt8) : Int := (((b5.toNat : Int) * 256 + b6.toNat) * 256 + b7.toNat) * 256 + b8.toNat

theorem head_mk (b0 b1 b2 b3 b4 b5 b6 b7 b8 b9 b10 : UInt8) (n : Nat) (hn : n = b10.toNat) :
    toB (headN b0.toNat b1.toNat b2.toNat (nE b3 b4) (nL b5 b6 b7 b8) b9.toNat n) = [b0, b1, b2, b3, b4, b5, b6, b7, b8, b9, b10] := by
  have r : ∀ b : UInt8, b.toNat < 256 := fun b => b.toNat_lt
  have r0 := r b0; have r1 := r b1; have r2 := r b2; have r3 := r b3; have r4 := r b4; have r5 := r b5; have r6 := r b6; have r7 := r b7; have r8 := r b8; have r9 := r b9; have r10 := r b10
  subst hn
  have e : ∀ (z : Int) (b : UInt8), z = b.toNat → UInt8.ofNat z.toNat = b := fun z b hz => by rw [hz]; exact u8_back b
  unfold toB headN nE nL
  simp only [List.map_cons, List.map_nil, List.cons.injEq, and_true]
  refine ⟨e _ _ ?_, e _ _ ?_, e _ _ ?_, e _ _ ?_, e _ _ ?_, e _ _ ?_, e _ _ ?_, e _ _ ?_, e _ _ ?_, e _ _ ?_, e _ _ ?_⟩ <;> omega

theorem head_eq {k f t e l d : Int} {n : Nat} {T R : List UInt8} {b0 b1 b2 b3 b4 b5 b6 b7 b8 b9 b10 : UInt8} (h : toB (headN k f t e l d n) ++ T = b0 :: b1 :: b2 :: b3 :: b4 :: b5 :: b6 :: b7 :: b8 :: b9 :: b10 :: R)
    (hk : 0 ≤ k ∧ k < 256) (hf : 0 ≤ f ∧ f < 256) (ht : 0 ≤ t ∧ t < 256) (he : 0 ≤ e ∧ e < 65536) (hl : 0 ≤ l ∧ l < 4294967296) (hd : 0 ≤ d ∧ d < 256) (hn : n < 256) :
    k = b0.toNat ∧ f = b1.toNat ∧ t = b2.toNat ∧ e = nE b3 b4 ∧ l = nL b5 b6 b7 b8 ∧ d = b9.toNat ∧ n = b10.toNat ∧ T = R := by
  unfold toB headN at h
  simp only [List.map_cons, List.map_nil, List.cons_append, List.nil_append, List.cons.injEq] at h
  obtain ⟨h0, h1, h2, h3, h4, h5, h6, h7, h8, h9, h10, hR⟩ := h
  have g0 := u8_eq h0 (by omega) (by omega)
  have g1 := u8_eq h1 (by omega) (by omega)
  have g2 := u8_eq h2 (by omega) (by omega)
  have g3 := u8_eq h3 (by omega) (by omega)
  have g4 := u8_eq h4 (by omega) (by omega)
  have g5 := u8_eq h5 (by omega) (by omega)
  have g6 := u8_eq h6 (by omega) (by omega)
  have g7 := u8_eq h7 (by omega) (by omega)
  have g8 := u8_eq h8 (by omega) (by omega)
  have g9 := u8_eq h9 (by omega) (by omega)
  have g10 := u8_eq h10 (by omega) (by omega)
  unfold nE nL
  exact ⟨by omega, by omega, by omega, by omega, by omega, by omega, by omega, hR⟩

/-- A valid message's body says just the message. -/
theorem body_says {k f t e l d : Int} {x : ByteArray} {ss : List ByteArray} {R : List UInt8} {b0 b1 b2 b3 b4 b5 b6 b7 b8 b9 b10 : UInt8} (hv : vM k f t e l d x.size ss)
    (h : bodyL k f t e l d x ss = b0 :: b1 :: b2 :: b3 :: b4 :: b5 :: b6 :: b7 :: b8 :: b9 :: b10 :: R) :
    k = b0.toNat ∧ f = b1.toNat ∧ t = b2.toNat ∧ e = nE b3 b4 ∧ l = nL b5 b6 b7 b8 ∧ d = b9.toNat ∧
      (b0.toNat = 3 → x = ⟨R.toArray⟩ ∧ ss = [] ∧ R.length = 8 ∧ b10.toNat = 0) ∧ (¬ b0.toNat = 3 → x = ⟨#[]⟩ ∧ ss = chk b10.toNat R ∧ R.length = 8 * b10.toNat) := by
  obtain ⟨h1, h2, h3, h4, h5, h6, h7, h8, h9, h10, h11, h12, hi, h3k, hn3⟩ := vM_rng hv
  unfold bodyL at h
  rw [List.append_assoc] at h
  obtain ⟨g0, g1, g2, g3, g4, g5, g6, g7⟩ := head_eq h ⟨h1, by omega⟩ ⟨h3, by omega⟩ ⟨h5, by omega⟩ ⟨h7, by omega⟩ ⟨h9, by omega⟩ ⟨h11, by omega⟩ (by have := hi.1; omega)
  have hds : x.data.toList.length = x.size := by rw [Array.length_toList]; rfl
  refine ⟨g0, g1, g2, g3, g4, g5, fun h3' => ?_, fun h3' => ?_⟩
  · obtain ⟨hz, hs⟩ := h3k (by omega)
    have hs' := List.eq_nil_of_length_eq_zero hs
    subst hs'
    have : x.data.toList = R := by rw [← g7]; simp [catL]
    refine ⟨?_, rfl, by rw [← this, hds]; exact hz, by simpa using g6.symm⟩
    apply ba_eq; simp [this]
  · have hz := hn3 (by omega)
    have hx : x.data.toList = [] := List.eq_nil_of_length_eq_zero (by rw [hds]; exact hz)
    rw [hx, List.nil_append] at g7
    refine ⟨?_, ?_, ?_⟩
    · apply ba_eq; simp [hx]
    · rw [← g6, ← g7]
      have := chk_cat ss [] hi.2
      rw [List.append_nil] at this
      exact this.symm
    · rw [← g7, catL_length, tot_eights ss hi.2, g6]

theorem split11 (L : List UInt8) (h : 11 ≤ L.length) : ∃ b0 b1 b2 b3 b4 b5 b6 b7 b8 b9 b10 R, L = b0 :: b1 :: b2 :: b3 :: b4 :: b5 :: b6 :: b7 :: b8 :: b9 :: b10 :: R := by
  match L, h with
  | b0 :: b1 :: b2 :: b3 :: b4 :: b5 :: b6 :: b7 :: b8 :: b9 :: b10 :: R, _ => exact ⟨b0, b1, b2, b3, b4, b5, b6, b7, b8, b9, b10, R, rfl⟩
end Go.Proofs.YtlgmkmegkojgbaaDoor
