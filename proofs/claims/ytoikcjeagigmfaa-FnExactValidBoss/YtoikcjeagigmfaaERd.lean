
/-
  Reading an entry: the reader, right or with a fault; what the bytes of an entry say.
-/
import Derived.Test.YtoikcjeagigmfaaEnf
import Derived.Test.YtoikcjeagigmfaaRdr
namespace Go.Proofs.Ytoikcjeagigmfaa
open Go.RowKit

/-- A reader's state: what is left, and whether all is well. -/
abbrev RQ := List UInt8 × Bool
def rdOk (sz : Nat) (q : RQ) : Bool := q.2 && decide (sz ≤ q.1.length)
def rdN (sz : Nat) (q : RQ) : Int := if rdOk sz q = true then beV (q.1.take sz) else 0
def rdT (sz : Nat) (q : RQ) : ByteArray := if rdOk sz q = true then ⟨(q.1.take sz).toArray⟩ else ⟨#[]⟩
def rdA (sz : Nat) (q : RQ) : RQ := if rdOk sz q = true then (q.1.drop sz, true) else (q.1, false)
def RdU (w : World) (b : Nat) (q : RQ) : Prop := (q.2 = true ∧ RdL w b q.1) ∨ (q.2 = false ∧ RdX w b)
theorem RdU.block {w w' : World} {b : Nat} {q : RQ} (h : RdU w b q) (hb : w'.heap[b]? = w.heap[b]?) : RdU w' b q := by
  rcases h with ⟨h, h'⟩ | ⟨h, h'⟩
  · exact .inl ⟨h, h'.block hb⟩
  · exact .inr ⟨h, h'.block hb⟩
theorem RdU.store {w : World} {P j : Nat} {q : RQ} {u : Value} (h : RdU w (P + 1) q) : RdU (w.setCell ⟨P + 1 + 1, j, none⟩ u) (P + 1) q := h.block (Below.heap_setCell _ _ _ _ (by dsimp only; omega))
theorem number_U (b sz : Nat) (q : RQ) (w : World) (h : RdU w b q) (h1 : 0 < sz) (h4 : sz ≤ 4) :
    Calls Try.prog 37 #[.pointer (some ⟨b, 0, none⟩), .int .i64 sz] w fun e w' => e = .returned (.int .i64 (rdN sz q)) ∧ RdU w' b (rdA sz q) ∧ w.grownBy w' (some b) := by
  obtain ⟨l, r⟩ := q
  rcases h with ⟨hr, h⟩ | ⟨hr, a, rest, h⟩
  · dsimp only at hr h
    subst hr
    by_cases hsz : sz ≤ l.length
    · refine (number_L b sz l w h hsz h1 h4).mono ?_
      rintro e w' ⟨rfl, hr, hg⟩
      exact ⟨by simp [rdN, rdOk, hsz], by simp [rdA, rdOk, hsz]; exact .inl ⟨rfl, hr⟩, hg⟩
    · obtain ⟨rest, hl, h⟩ := h
      have hrs : rest.size = l.length := by rw [← hl, Array.length_toList]; rfl
      refine (number_short b sz rest w h (by omega)).mono ?_
      rintro e w' ⟨rfl, ⟨a, hr⟩, hg⟩
      exact ⟨by simp [rdN, rdOk, hsz], by simp [rdA, rdOk, hsz]; exact .inr ⟨rfl, a, rest, hr⟩, hg⟩
  · dsimp only at hr
    subst hr
    refine (number_bad b sz a rest w h).mono ?_
    rintro e w' ⟨rfl, hr, hg⟩
    exact ⟨by simp [rdN, rdOk], by simp [rdA, rdOk]; exact .inr ⟨rfl, a, rest, hr⟩, hg⟩
theorem text_U (b sz : Nat) (q : RQ) (w : World) (h : RdU w b q) (h1 : 0 < sz) (h8 : sz ≤ 8) :
    Calls Try.prog 38 #[.pointer (some ⟨b, 0, none⟩), .int .i64 sz] w fun e w' => e = .returned (.string (rdT sz q)) ∧ RdU w' b (rdA sz q) ∧ w.grownBy w' (some b) := by
  obtain ⟨l, r⟩ := q
  rcases h with ⟨hr, h⟩ | ⟨hr, h⟩
  · dsimp only at hr h
    subst hr
    by_cases hsz : sz ≤ l.length
    · refine (text_L b sz l w h hsz h1 h8).mono ?_
      rintro e w' ⟨rfl, hr, hg⟩
      exact ⟨by simp [rdT, rdOk, hsz], by simp [rdA, rdOk, hsz]; exact .inl ⟨rfl, hr⟩, hg⟩
    · refine (text_S b sz l w h (by omega)).mono ?_
      rintro e w' ⟨rfl, hr, hg⟩
      exact ⟨by simp [rdT, rdOk, hsz], by simp [rdA, rdOk, hsz]; exact .inr ⟨rfl, hr⟩, hg⟩
  · dsimp only at hr h
    subst hr
    refine (text_X b sz w h).mono ?_
    rintro e w' ⟨rfl, hr, hg⟩
    exact ⟨by simp [rdT, rdOk], by simp [rdA, rdOk]; exact .inr ⟨rfl, hr⟩, hg⟩
theorem end_U (b : Nat) (q : RQ) (w : World) (h : RdU w b q) :
    Calls Try.prog 39 #[.pointer (some ⟨b, 0, none⟩)] w fun e w' => ((q = ([], true) ∧ e = .returned .nilIface) ∨ (¬ q = ([], true) ∧ ∃ a, e = .returned (.iface 123 (.pointer (some a))))) ∧ w.grownBy w' (some b) := by
  obtain ⟨l, r⟩ := q
  rcases h with ⟨hr, rest, hl, h⟩ | ⟨hr, a, rest, h⟩
  · dsimp only at hr hl
    subst hr
    have hrs : rest.size = l.length := by rw [← hl, Array.length_toList]; rfl
    by_cases h0 : rest.size = 0
    · refine (end_ok b rest w h h0).mono ?_
      rintro e w' ⟨rfl, hg⟩
      exact ⟨.inl ⟨by rw [List.eq_nil_of_length_eq_zero (l := l) (by omega)], rfl⟩, hg⟩
    · refine (end_long b rest w h h0).mono ?_
      rintro e w' ⟨⟨a, rfl⟩, hg⟩
      exact ⟨.inr ⟨fun hh => (by injection hh with hh _; rw [hh] at hrs; exact h0 hrs), a, rfl⟩, hg⟩
  · dsimp only at hr
    subst hr
    refine (end_bad b a rest w h).mono ?_
    rintro e w' ⟨rfl, hg⟩
    exact ⟨.inr ⟨fun hh => (by injection hh with _ hh; cases hh), a, rfl⟩, hg⟩

theorem rdA_t {sz : Nat} {q : RQ} {l : List UInt8} (h : rdA sz q = (l, true)) : ∃ l0, q = (l0, true) ∧ sz ≤ l0.length ∧ l = l0.drop sz ∧ rdN sz q = beV (l0.take sz) ∧ rdT sz q = ⟨(l0.take sz).toArray⟩ := by
  obtain ⟨l0, r⟩ := q
  unfold rdA at h
  by_cases hok : rdOk sz (l0, r) = true
  · rw [if_pos hok] at h
    unfold rdOk at hok
    simp only [Bool.and_eq_true, decide_eq_true_eq] at hok
    obtain ⟨rfl, hsz⟩ := hok
    injection h with h1 _
    exact ⟨l0, rfl, hsz, h1.symm, by simp [rdN, rdOk, hsz], by simp [rdT, rdOk, hsz]⟩
  · rw [if_neg hok] at h
    injection h with _ h2; cases h2
theorem rdA_mk {sz : Nat} {l : List UInt8} (h : sz ≤ l.length) : rdA sz (l, true) = (l.drop sz, true) ∧ rdN sz (l, true) = beV (l.take sz) ∧ rdT sz (l, true) = ⟨(l.take sz).toArray⟩ := by
  simp [rdA, rdN, rdT, rdOk, h]

def nX (b c : UInt8) : Int := (b.toNat : Int) * 256 + (c.toNat : Int)
theorem u8_back (b : UInt8) : UInt8.ofNat (((b.toNat : Int) % 256).toNat) = b := by
  have : b.toNat < 256 := b.toNat_lt
  rw [show ((b.toNat : Int) % 256).toNat = b.toNat by omega, UInt8.ofNat_toNat]
theorem ent_mk (b0 b1 b2 b3 : UInt8) (R : List UInt8) (x : ByteArray) (hx : x.data.toList = R) : entL (b0.toNat : Int) (nX b1 b2) (b3.toNat : Int) x = b0 :: b1 :: b2 :: b3 :: R := by
  have h1 : b1.toNat < 256 := b1.toNat_lt
  have h2 : b2.toNat < 256 := b2.toNat_lt
  have e1 : nX b1 b2 / 256 % 256 = (b1.toNat : Int) % 256 := by unfold nX; omega
  have e2 : nX b1 b2 % 256 = (b2.toNat : Int) % 256 := by unfold nX; omega
  unfold entL toB entN
  rw [e1, e2, hx]
  simp only [List.map_cons, List.map_nil, u8_back]
  rfl
theorem ent_says {k e d : Int} {x : ByteArray} {b0 b1 b2 b3 : UInt8} {R : List UInt8} (hv : vE k e d x.size) (h : entL k e d x = b0 :: b1 :: b2 :: b3 :: R) : k = b0.toNat ∧ e = nX b1 b2 ∧ d = b3.toNat ∧ x.data.toList = R := by
  have key : ∀ (z : Int) (b : UInt8), 0 ≤ z → z < 256 → UInt8.ofNat z.toNat = b → z = b.toNat := fun z b h0 h1 he => by
    rw [← he, UInt8.toNat_ofNat_of_lt' (by simp [UInt8.size]; omega)]; omega
  unfold entL toB entN at h
  simp only [List.map_cons, List.map_nil, List.cons_append, List.nil_append, List.cons.injEq] at h
  obtain ⟨h0, h1, h2, h3, hR⟩ := h
  have h0 := key _ _ (by omega) (by omega) h0
  have h1 := key _ _ (by omega) (by omega) h1
  have h2 := key _ _ (by omega) (by omega) h2
  have h3 := key _ _ (by omega) (by omega) h3
  unfold vE at hv
  unfold nX
  exact ⟨by omega, by omega, by omega, hR⟩

/-- The text of an entry. -/
def GoodE (s : ByteArray) (k e d : Int) (x : ByteArray) : Prop := vE k e d x.size ∧ s = entS k e d x
def NoE (s : ByteArray) : Prop := ¬ ∃ (k e d : Int) (x : ByteArray), GoodE s k e d x
theorem GoodE.list {s : ByteArray} {k e d : Int} {x : ByteArray} (h : GoodE s k e d x) : entL k e d x = s.data.toList := by rw [h.2]; simp [entS]
theorem GoodE.mk' {s : ByteArray} {k e d : Int} {x : ByteArray} (hv : vE k e d x.size) (h : entL k e d x = s.data.toList) : GoodE s k e d x := ⟨hv, ba_ext (by rw [← h]; simp [entS])⟩
theorem split4 (L : List UInt8) (h : 4 ≤ L.length) : ∃ b0 b1 b2 b3 R, L = b0 :: b1 :: b2 :: b3 :: R := by
  match L, h with
  | b0 :: b1 :: b2 :: b3 :: R, _ => exact ⟨b0, b1, b2, b3, R, rfl⟩
theorem GoodE.split {s : ByteArray} {k e d : Int} {x : ByteArray} (h : GoodE s k e d x) : ∃ b0 b1 b2 b3, s.data.toList = b0 :: b1 :: b2 :: b3 :: x.data.toList ∧ k = b0.toNat ∧ e = nX b1 b2 ∧ d = b3.toNat := by
  have hl := h.list
  obtain ⟨b0, b1, b2, b3, R, hL⟩ := split4 s.data.toList (by rw [← hl, entL_length]; omega)
  rw [hL] at hl
  obtain ⟨h0, h1, h2, h3⟩ := ent_says h.1 hl
  exact ⟨b0, b1, b2, b3, by rw [hL, h3], h0, h1, h2⟩
theorem GoodE.uniq {s : ByteArray} {k e d k' e' d' : Int} {x x' : ByteArray} (h : GoodE s k e d x) (h' : GoodE s k' e' d' x') : k = k' ∧ e = e' ∧ d = d' ∧ x = x' := by
  obtain ⟨b0, b1, b2, b3, hL, rfl, rfl, rfl⟩ := h.split
  obtain ⟨c0, c1, c2, c3, hL', rfl, rfl, rfl⟩ := h'.split
  rw [hL] at hL'
  injection hL' with e0 hL'; injection hL' with e1 hL'; injection hL' with e2 hL'; injection hL' with e3 hL'
  subst e0 e1 e2 e3
  exact ⟨rfl, rfl, rfl, ba_ext hL'⟩

/-- The reader's way through an entry's text. -/
def q0 (s : ByteArray) : RQ := (s.data.toList, true)
def q1 (s : ByteArray) : RQ := rdA 1 (q0 s)
def q2 (s : ByteArray) : RQ := rdA 2 (q1 s)
def q3 (s : ByteArray) : RQ := rdA 1 (q2 s)
def n0 (s : ByteArray) : Int := rdN 1 (q0 s)
def n1 (s : ByteArray) : Int := rdN 2 (q1 s)
def n2 (s : ByteArray) : Int := rdN 1 (q2 s)
theorem rd_four {s : ByteArray} {b0 b1 b2 b3 : UInt8} {R : List UInt8} (h : s.data.toList = b0 :: b1 :: b2 :: b3 :: R) : n0 s = b0.toNat ∧ n1 s = nX b1 b2 ∧ n2 s = b3.toNat ∧ q3 s = (R, true) := by
  have h0 : q0 s = (b0 :: b1 :: b2 :: b3 :: R, true) := by rw [q0, h]
  obtain ⟨a1, v1, _⟩ := rdA_mk (sz := 1) (l := b0 :: b1 :: b2 :: b3 :: R) (by simp)
  obtain ⟨a2, v2, _⟩ := rdA_mk (sz := 2) (l := b1 :: b2 :: b3 :: R) (by simp)
  obtain ⟨a3, v3, _⟩ := rdA_mk (sz := 1) (l := b3 :: R) (by simp)
  have h1 : q1 s = (b1 :: b2 :: b3 :: R, true) := by rw [q1, h0, a1]; rfl
  have h2 : q2 s = (b3 :: R, true) := by rw [q2, h1, a2]; rfl
  have h3 : q3 s = (R, true) := by rw [q3, h2, a3]; rfl
  refine ⟨?_, ?_, ?_, h3⟩
  · rw [n0, h0, v1]; simp [beV]
  · rw [n1, h1, v2]; simp [beV, nX]
  · rw [n2, h2, v3]; simp [beV]
theorem rd_back {s : ByteArray} {R : List UInt8} (h : q3 s = (R, true)) : ∃ b0 b1 b2 b3, s.data.toList = b0 :: b1 :: b2 :: b3 :: R ∧ n0 s = b0.toNat ∧ n1 s = nX b1 b2 ∧ n2 s = b3.toNat := by
  obtain ⟨l2, h2, g2, r2, _⟩ := rdA_t (q := q2 s) h
  obtain ⟨l1, h1, g1, r1, _⟩ := rdA_t (q := q1 s) h2
  obtain ⟨l0, h0, g0, r0, _⟩ := rdA_t (q := q0 s) h1
  subst r0
  subst r1
  have hl : l0 = s.data.toList := by unfold q0 at h0; injection h0 with h0 _; exact h0.symm
  simp only [List.length_drop] at g1 g2
  obtain ⟨b0, b1, b2, b3, R', hL⟩ := split4 s.data.toList (by rw [← hl]; omega)
  obtain ⟨v0, v1, v2, v3⟩ := rd_four hL
  rw [h] at v3
  injection v3 with v3 _
  subst v3
  exact ⟨b0, b1, b2, b3, hL, v0, v1, v2⟩
theorem rd_good {s : ByteArray} {k e d : Int} {x : ByteArray} (h : GoodE s k e d x) : n0 s = k ∧ n1 s = e ∧ n2 s = d ∧ q3 s = (x.data.toList, true) := by
  obtain ⟨b0, b1, b2, b3, hL, rfl, rfl, rfl⟩ := h.split
  exact rd_four hL
/-- Kind 2. -/
theorem two_good {s : ByteArray} (h : rdA 8 (q3 s) = ([], true)) (hv : vE (n0 s) (n1 s) (n2 s) (rdT 8 (q3 s)).size) : GoodE s (n0 s) (n1 s) (n2 s) (rdT 8 (q3 s)) := by
  obtain ⟨R, hR, g8, hd, _, hT⟩ := rdA_t h
  obtain ⟨b0, b1, b2, b3, hL, e0, e1, e2⟩ := rd_back hR
  refine GoodE.mk' hv ?_
  rw [hT, e0, e1, e2, hL]
  refine ent_mk b0 b1 b2 b3 R _ ?_
  have : R.length ≤ 8 := by have := congrArg List.length hd; rw [List.length_drop] at this; simp at this; omega
  simp [List.take_of_length_le this]
theorem two_no {s : ByteArray} (hk : n0 s = 2) (h : ¬ (rdA 8 (q3 s) = ([], true) ∧ vE (n0 s) (n1 s) (n2 s) (rdT 8 (q3 s)).size)) : NoE s := by
  rintro ⟨k, e, d, x, hg⟩
  obtain ⟨e0, e1, e2, e3⟩ := rd_good hg
  have hz : x.size = 8 := by have := hg.1; unfold vE at this; omega
  have hl : x.data.toList.length = 8 := by rw [Array.length_toList]; exact hz
  obtain ⟨a, _, b⟩ := rdA_mk (sz := 8) (l := x.data.toList) (by omega)
  have hx : (⟨(x.data.toList.take 8).toArray⟩ : ByteArray) = x := ba_ext (by simp [List.take_of_length_le (Nat.le_of_eq hl)])
  refine h ⟨?_, ?_⟩
  · rw [e3, a, List.drop_of_length_le (by omega)]
  · rw [e0, e1, e2, e3, b, hx]; exact hg.1
/-- Another kind. -/
theorem one_good {s : ByteArray} (h : q3 s = ([], true)) (hv : vE (n0 s) (n1 s) (n2 s) (⟨#[]⟩ : ByteArray).size) : GoodE s (n0 s) (n1 s) (n2 s) ⟨#[]⟩ := by
  obtain ⟨b0, b1, b2, b3, hL, e0, e1, e2⟩ := rd_back h
  refine GoodE.mk' hv ?_
  rw [e0, e1, e2, hL]
  exact ent_mk b0 b1 b2 b3 [] _ rfl
theorem one_no {s : ByteArray} (hk : ¬ n0 s = 2) (h : ¬ (q3 s = ([], true) ∧ vE (n0 s) (n1 s) (n2 s) (⟨#[]⟩ : ByteArray).size)) : NoE s := by
  rintro ⟨k, e, d, x, hg⟩
  obtain ⟨e0, e1, e2, e3⟩ := rd_good hg
  have hz : x.size = 0 := by have := hg.1; unfold vE at this; omega
  have hx : x = ⟨#[]⟩ := ba_ext (by rw [List.eq_nil_of_length_eq_zero (l := x.data.toList) (by rw [Array.length_toList]; exact hz)])
  subst hx
  exact h ⟨e3, by rw [e0, e1, e2]; exact hg.1⟩
/-- What ReadEntry answers. -/
def RetE (e' : Ending) (s : ByteArray) : Prop :=
  (e' = .returned (.tuple #[.agg #[.int .i64 0, .int .i64 0, .int .i64 0, .string ⟨#[]⟩], .bool false]) ∧ NoE s) ∨
  (∃ (k e d : Int) (x : ByteArray), e' = .returned (.tuple #[.agg #[.int .i64 k, .int .i64 e, .int .i64 d, .string x], .bool true]) ∧ GoodE s k e d x)
end Go.Proofs.Ytoikcjeagigmfaa
