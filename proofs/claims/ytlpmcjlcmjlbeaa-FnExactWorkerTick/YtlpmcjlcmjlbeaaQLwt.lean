import Derived.Test.YtlpmcjlcmjlbeaaQLawMs
import Derived.Test.YtlpmcjlcmjlbeaaQTk2
namespace Go.Proofs.Ytlpmcjlcmjlbeaa
open Go.RowKit

theorem strsNil (w : World) : StrsAt w none 0 0 0 [] := ⟨fun h => absurd h (by omega), rfl, Nat.zero_le _, fun h => absurd h (by omega), fun j hj => absurd hj (by omega), by simp⟩
theorem OwnC.c8 {B : Nat} {w : World} {g o cap : Nat} {c0 c1 c2 c3 c4 c5 c6 c7 : Value} (h : OwnC B w 8 g o cap 1 [c0, c1, c2, c3, c4, c5, c6, c7]) :
    w.cell? ⟨g, o + 0, none⟩ = some c0 ∧ w.cell? ⟨g, o + 1, none⟩ = some c1 ∧ w.cell? ⟨g, o + 2, none⟩ = some c2 ∧ w.cell? ⟨g, o + 3, none⟩ = some c3 ∧ w.cell? ⟨g, o + 4, none⟩ = some c4 ∧ w.cell? ⟨g, o + 5, none⟩ = some c5 ∧ w.cell? ⟨g, o + 6, none⟩ = some c6 ∧ w.cell? ⟨g, o + 7, none⟩ = some c7 :=
  ⟨h.holds 0 (by omega), h.holds 1 (by omega), h.holds 2 (by omega), h.holds 3 (by omega), h.holds 4 (by omega), h.holds 5 (by omega), h.holds 6 (by omega), h.holds 7 (by omega)⟩

set_option maxRecDepth 100000 in
set_option maxHeartbeats 4000000 in
theorem eqMessageS_any (q : Option OM) (v v' : Value) (B B' : Nat) (w : World) (h : Own B w 8 v (outN q) (outL q)) (h' : Own B' w 8 v' (outN q) (outL q)) :
    Calls Try.prog 52 #[v, v'] w fun e w' => e = .returned (.bool true) ∧ Below w.heap.size w w' := by
  cases q with
  | none =>
    obtain ⟨a, c, rfl⟩ := h.slc
    obtain ⟨a', c', rfl⟩ := h'.slc
    simp only [outN]
    go_enter Try.func52, Try.ntmps52
    go_wp2
    go_rounds 1
    go_ret
    exact ⟨rfl, Below.refl _ _⟩
  | some m =>
    rcases h with ⟨_, h0, _⟩ | ⟨g, o, cap, rfl, hc⟩
    · simp [outN] at h0
    rcases h' with ⟨_, h0, _⟩ | ⟨g', o', cap', rfl, hc'⟩
    · simp [outN] at h0
    obtain ⟨k, f, e, l, d, x⟩ := m
    simp only [outN, outL, OM.cells] at hc hc' ⊢
    obtain ⟨c0, c1, c2, c3, c4, c5, c6, c7⟩ := hc.c8
    obtain ⟨d0, d1, d2, d3, d4, d5, d6, d7⟩ := hc'.c8
    rw [Nat.add_zero] at c0 d0
    go_enter Try.func52, Try.ntmps52
    go_wp2
    go_loopw [5] (fun i wr => (i = .int .i64 0 ∨ i = .int .i64 1) ∧ Below w.heap.size w wr) (fun i _ => 1 - (intOf i).toNat)
    case atStart => exact ⟨.inl rfl, Below.refl _ _⟩
    case round =>
      obtain ⟨rfl | rfl, hb⟩ := hrel
      · have hbb : Below w.heap.size w wr.drew := hb.drew
        have y0 := keepB hb c0
        have t0 := keepB hb d0
        have y1 := keepB hb c1
        have t1 := keepB hb d1
        have y2 := keepB hb c2
        have t2 := keepB hb d2
        have y3 := keepB hb c3
        have t3 := keepB hb d3
        have y4 := keepB hb c4
        have t4 := keepB hb d4
        have y5 := keepB hb c5
        have t5 := keepB hb d5
        have y6 := keepB hb c6
        have t6 := keepB hb d6
        have y7 := keepB hb c7
        have t7 := keepB hb d7
        clear c0 d0 c1 d1 c2 d2 c3 d3 c4 d4 c5 d5 c6 d6 c7 d7
        go_wp2
        go_region_held3 (fun w' => w'.cell? ⟨g, o, none⟩ = some (.int .i64 k) ∧ w'.cell? ⟨g, o + 1, none⟩ = some (.int .i64 f) ∧ w'.cell? ⟨g, o + 2, none⟩ = some (.int .i64 0) ∧ w'.cell? ⟨g, o + 3, none⟩ = some (.int .i64 e) ∧ w'.cell? ⟨g, o + 4, none⟩ = some (.int .i64 l) ∧ w'.cell? ⟨g, o + 5, none⟩ = some (.int .i64 d) ∧ w'.cell? ⟨g, o + 6, none⟩ = some (.string x) ∧ w'.cell? ⟨g, o + 7, none⟩ = some (.slice none 0 0) ∧ w'.cell? ⟨g', o', none⟩ = some (.int .i64 k) ∧ w'.cell? ⟨g', o' + 1, none⟩ = some (.int .i64 f) ∧ w'.cell? ⟨g', o' + 2, none⟩ = some (.int .i64 0) ∧ w'.cell? ⟨g', o' + 3, none⟩ = some (.int .i64 e) ∧ w'.cell? ⟨g', o' + 4, none⟩ = some (.int .i64 l) ∧ w'.cell? ⟨g', o' + 5, none⟩ = some (.int .i64 d) ∧ w'.cell? ⟨g', o' + 6, none⟩ = some (.string x) ∧ w'.cell? ⟨g', o' + 7, none⟩ = some (.slice none 0 0)) (first | (simp [go_sem, *]; done) | assumption)
          (first | (go_at_call 66; refine (eqMessage_any k f 0 e l d x none none 0 0 0 0 0 0 0 [] _ (strsNil _) (strsNil _)).mono ?_; rintro e' w1 ⟨rfl, hb1⟩; have y0a := keepC hb1 y0; have t0a := keepC hb1 t0; have y1a := keepC hb1 y1; have t1a := keepC hb1 t1; have y2a := keepC hb1 y2; have t2a := keepC hb1 t2; have y3a := keepC hb1 y3; have t3a := keepC hb1 t3; have y4a := keepC hb1 y4; have t4a := keepC hb1 t4; have y5a := keepC hb1 y5; have t5a := keepC hb1 t5; have y6a := keepC hb1 y6; have t6a := keepC hb1 t6; have y7a := keepC hb1 y7; have t7a := keepC hb1 t7))
        go_wp2
        go_roundw
        case rel => exact ⟨.inr rfl, hbb.trans (hb1.mono hbb.size)⟩
        case measure => simp [intOf]
      · go_wp2
        go_ret
        exact ⟨rfl, hb⟩

/-- The cells of a row's first element, none frozen. -/
structure M8 (w : World) (g o : Nat) (vs : List Value) : Prop where
  all : ∀ j, j < 8 → w.cell? ⟨g, o + j, none⟩ = vs[j]? ∧ w.frozen? ⟨g, o + j, none⟩ = false
  len : vs.length = 8
theorem M8.set {w : World} {g o : Nat} {vs : List Value} (h : M8 w g o vs) {j : Nat} (hj : j < 8) (u : Value) : M8 (w.setCell ⟨g, o + j, none⟩ u) g o (vs.set j u) where
  len := by rw [List.length_set]; exact h.len
  all i hi := by
    have hl := h.len
    refine ⟨?_, by rw [World.frozen?_setCell]; exact (h.all i hi).2⟩
    by_cases e : i = j
    · subst e
      have := (h.all i hi).1
      rw [List.getElem?_eq_getElem (by omega)] at this
      rw [World.cell?_setCell_same _ _ _ this, List.getElem?_set_self (by omega)]
    · rw [World.cell?_setCell_other _ _ _ _ (by intro hh; injection hh with _ h2 _; omega), List.getElem?_set_ne (by omega)]
      exact (h.all i hi).1
theorem M8.block {w w' : World} {g o : Nat} {vs : List Value} (h : M8 w g o vs) (hb : w'.heap[g]? = w.heap[g]?) : M8 w' g o vs where
  len := h.len
  all j hj := ⟨(World.cell?_of_block (w := w) (a := ⟨g, o + j, none⟩) hb).trans (h.all j hj).1, (World.frozen?_of_block (w := w) (a := ⟨g, o + j, none⟩) hb).trans (h.all j hj).2⟩
theorem M8.own {B : Nat} {w w' : World} {g o cap : Nat} {xs vs : List Value} (hc : OwnC B w 8 g o cap 1 xs) (h : M8 w' g o vs) (hg : w.grownBy w' (some g)) (hcap : cap = 1) : OwnC B w' 8 g o cap 1 vs := by
  subst hcap
  exact ⟨hc.lo, Nat.lt_of_lt_of_le hc.hi hg.size, hc.le, hc.max, by rw [h.len], fun j hj => (h.all j (by omega)).1, fun j hj => ⟨by rw [(h.all j (by omega)).1, List.getElem?_eq_getElem (by have := h.len; omega)]; rfl, (h.all j (by omega)).2⟩⟩
theorem OwnC.m8 {B : Nat} {w : World} {g o cap : Nat} {xs : List Value} (h : OwnC B w 8 g o cap 1 xs) : M8 w g o xs where
  len := h.len
  all j hj := ⟨h.holds j (by omega), (h.there j (by have := h.le; omega)).2⟩
end Go.Proofs.Ytlpmcjlcmjlbeaa
