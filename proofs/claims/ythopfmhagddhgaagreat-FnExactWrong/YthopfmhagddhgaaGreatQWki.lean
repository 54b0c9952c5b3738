import Derived.Test.YthopfmhagddhgaaGreatQCel
import Derived.Deep.QuietTactic
import Derived.BigQuiet
import Derived.Handy
namespace Go.Proofs.YthopfmhagddhgaaGreat
open Go.RowKit

/-- What is valid. -/
def vW (nu ep : Int) (up : Bool) (st le ta co lf : Int) (ss : List ByteArray) (z : Nat) (si : Int) : Prop :=
  1 ≤ nu ∧ nu ≤ 8 ∧ 1 ≤ ep ∧ ep ≤ 300 ∧ 0 ≤ si ∧ si ≤ 1000000 ∧ (up = false → st = 0 ∧ si = 0) ∧
  ((st = 0 ∧ le = 0 ∧ ta = 0 ∧ co = 0 ∧ lf = 0 ∧ ss.length = 0 ∧ z = 0) ∨
   (st = 1 ∧ 1 ≤ le ∧ le ≤ 300000000 ∧ 0 ≤ ta ∧ ta ≤ 39 ∧ 1 ≤ co ∧ co ≤ 20 ∧ 1 ≤ lf ∧ lf ≤ co ∧ z = 0 ∧ inOk ss) ∨
   (st = 2 ∧ 1 ≤ le ∧ le ≤ 300000000 ∧ 0 ≤ ta ∧ ta ≤ 39 ∧ z = 8 ∧ co = 0 ∧ lf = 0 ∧ ss.length = 0))
theorem vW_st {nu ep : Int} {up : Bool} {st le ta co lf : Int} {ss : List ByteArray} {z : Nat} {si : Int} (h : vW nu ep up st le ta co lf ss z si) : st = 0 ∨ st = 1 ∨ st = 2 := by
  rcases h.2.2.2.2.2.2.2 with h | h | h
  · exact .inl h.1
  · exact .inr (.inl h.1)
  · exact .inr (.inr h.1)
def vWt (nu ep : Int) (up : Bool) (st si : Int) : Prop := 1 ≤ nu ∧ nu ≤ 8 ∧ 1 ≤ ep ∧ ep ≤ 300 ∧ 0 ≤ si ∧ si ≤ 1000000 ∧ (up = false → st = 0 ∧ si = 0)
theorem vW0 (nu ep : Int) (up : Bool) (le ta co lf : Int) (ss : List ByteArray) (z : Nat) (si : Int) : vW nu ep up 0 le ta co lf ss z si ↔ (vWt nu ep up 0 si ∧ le = 0 ∧ ta = 0 ∧ co = 0 ∧ lf = 0 ∧ ss.length = 0 ∧ z = 0) := by
  unfold vW vWt
  constructor
  · rintro ⟨h1, h2, h3, h4, h5, h6, h7, h | h | h⟩
    · exact ⟨⟨h1, h2, h3, h4, h5, h6, h7⟩, h.2⟩
    · exact absurd h.1 (by decide)
    · exact absurd h.1 (by decide)
  · rintro ⟨⟨h1, h2, h3, h4, h5, h6, h7⟩, h⟩; exact ⟨h1, h2, h3, h4, h5, h6, h7, .inl ⟨rfl, h⟩⟩
theorem vW1 (nu ep : Int) (up : Bool) (le ta co lf : Int) (ss : List ByteArray) (z : Nat) (si : Int) : vW nu ep up 1 le ta co lf ss z si ↔ (vWt nu ep up 1 si ∧ 1 ≤ le ∧ le ≤ 300000000 ∧ 0 ≤ ta ∧ ta ≤ 39 ∧ 1 ≤ co ∧ co ≤ 20 ∧ 1 ≤ lf ∧ lf ≤ co ∧ z = 0 ∧ inOk ss) := by
  unfold vW vWt
  constructor
  · rintro ⟨h1, h2, h3, h4, h5, h6, h7, h | h | h⟩
    · exact absurd h.1 (by decide)
    · exact ⟨⟨h1, h2, h3, h4, h5, h6, h7⟩, h.2⟩
    · exact absurd h.1 (by decide)
  · rintro ⟨⟨h1, h2, h3, h4, h5, h6, h7⟩, h⟩; exact ⟨h1, h2, h3, h4, h5, h6, h7, .inr (.inl ⟨rfl, h⟩)⟩
theorem vW2 (nu ep : Int) (up : Bool) (le ta co lf : Int) (ss : List ByteArray) (z : Nat) (si : Int) : vW nu ep up 2 le ta co lf ss z si ↔ (vWt nu ep up 2 si ∧ 1 ≤ le ∧ le ≤ 300000000 ∧ 0 ≤ ta ∧ ta ≤ 39 ∧ z = 8 ∧ co = 0 ∧ lf = 0 ∧ ss.length = 0) := by
  unfold vW vWt
  constructor
  · rintro ⟨h1, h2, h3, h4, h5, h6, h7, h | h | h⟩
    · exact absurd h.1 (by decide)
    · exact absurd h.1 (by decide)
    · exact ⟨⟨h1, h2, h3, h4, h5, h6, h7⟩, h.2⟩
  · rintro ⟨⟨h1, h2, h3, h4, h5, h6, h7⟩, h⟩; exact ⟨h1, h2, h3, h4, h5, h6, h7, .inr (.inr ⟨rfl, h⟩)⟩

set_option maxRecDepth 100000 in
set_option maxHeartbeats 2000000 in
theorem sVal_0t (nu ep : Int) (le ta co lf : Int) (a : Option Addr) (b o n c : Nat) (ss : List ByteArray) (x : ByteArray) (si : Int) (w : World) (h : StrsAt w a b o n ss) :
    Calls Tryz.prog 31 #[.agg #[.int .i64 nu, .int .i64 ep, .bool true, .int .i64 0, .int .i64 le, .int .i64 ta, .int .i64 co, .int .i64 lf, .slice a n c, .string x, .int .i64 si]] w fun e' w' => RetB e' (vW nu ep true 0 le ta co lf ss x.size si) ∧ Below w.heap.size w w' := by
  have hb0 : Below w.heap.size w (w.alloc (.cells #[.int .i64 nu, .int .i64 ep, .bool true, .int .i64 0, .int .i64 le, .int .i64 ta, .int .i64 co, .int .i64 lf, .slice a n c, .string x, .int .i64 si] 72)) := (Below.refl _ _).alloc (Nat.le_refl _) _
  have HL : Hid (ss.length = n) := h.len
  have hmax := h.max
  unfold maxLen at hmax
  cases hN : inB nu 1 8 with
  | false =>
    have gN := inB_f hN
    have GN := hid gN
    clear gN
    go_enter Tryz.func31, Tryz.ntmps31
    go_wp2_with (first | (go_at_call 30; refine (l2In_any _ _ _ _).mono ?_; rintro e' w' ⟨rfl, rfl⟩) | (go_at_call 80; refine (l2LeaseOk_any _ _).mono ?_; rintro e' w' ⟨rfl, rfl⟩))
    go_ret
    refine ⟨RetB.f fun hv => ?_, hb0⟩; have hv := (vW0 _ _ _ _ _ _ _ _ _ _).1 hv; unfold vWt at hv; have := GN.out; have := HL.out;  omega
  | true =>
    have gN := inB_t hN
    have GN := hid gN
    clear gN
    cases hE : inB ep 1 300 with
    | false =>
      have gE := inB_f hE
      have GE := hid gE
      clear gE
      go_enter Tryz.func31, Tryz.ntmps31
      go_wp2_with (first | (go_at_call 30; refine (l2In_any _ _ _ _).mono ?_; rintro e' w' ⟨rfl, rfl⟩) | (go_at_call 80; refine (l2LeaseOk_any _ _).mono ?_; rintro e' w' ⟨rfl, rfl⟩))
      go_ret
      refine ⟨RetB.f fun hv => ?_, hb0⟩; have hv := (vW0 _ _ _ _ _ _ _ _ _ _).1 hv; unfold vWt at hv; have := GE.out; have := HL.out;  omega
    | true =>
      have gE := inB_t hE
      have GE := hid gE
      clear gE
      cases hS : inB si 0 1000000 with
      | false =>
        have gS := inB_f hS
        have GS := hid gS
        clear gS
        go_enter Tryz.func31, Tryz.ntmps31
        go_wp2_with (first | (go_at_call 30; refine (l2In_any _ _ _ _).mono ?_; rintro e' w' ⟨rfl, rfl⟩) | (go_at_call 80; refine (l2LeaseOk_any _ _).mono ?_; rintro e' w' ⟨rfl, rfl⟩))
        go_ret
        refine ⟨RetB.f fun hv => ?_, hb0⟩; have hv := (vW0 _ _ _ _ _ _ _ _ _ _).1 hv; unfold vWt at hv; have := GS.out; have := HL.out;  omega
      | true =>
        have gS := inB_t hS
        have GS := hid gS
        clear gS
        cases hL : (le == 0) with
        | false =>
          have gL : ¬ (le = 0) := by simpa using hL
          have GL := hid gL
          clear gL
          go_enter Tryz.func31, Tryz.ntmps31
          go_wp2_with (first | (go_at_call 30; refine (l2In_any _ _ _ _).mono ?_; rintro e' w' ⟨rfl, rfl⟩) | (go_at_call 80; refine (l2LeaseOk_any _ _).mono ?_; rintro e' w' ⟨rfl, rfl⟩))
          go_ret
          refine ⟨RetB.f fun hv => ?_, hb0⟩; have hv := (vW0 _ _ _ _ _ _ _ _ _ _).1 hv; unfold vWt at hv; have := GL.out; have := HL.out;  omega
        | true =>
          have gL : le = 0 := by simpa using hL
          have GL := hid gL
          clear gL
          cases hT : (ta == 0) with
          | false =>
            have gT : ¬ (ta = 0) := by simpa using hT
            have GT := hid gT
            clear gT
            go_enter Tryz.func31, Tryz.ntmps31
            go_wp2_with (first | (go_at_call 30; refine (l2In_any _ _ _ _).mono ?_; rintro e' w' ⟨rfl, rfl⟩) | (go_at_call 80; refine (l2LeaseOk_any _ _).mono ?_; rintro e' w' ⟨rfl, rfl⟩))
            go_ret
            refine ⟨RetB.f fun hv => ?_, hb0⟩; have hv := (vW0 _ _ _ _ _ _ _ _ _ _).1 hv; unfold vWt at hv; have := GT.out; have := HL.out;  omega
          | true =>
            have gT : ta = 0 := by simpa using hT
            have GT := hid gT
            clear gT
            cases hC : (co == 0) with
            | false =>
              have gC : ¬ (co = 0) := by simpa using hC
              have GC := hid gC
              clear gC
              go_enter Tryz.func31, Tryz.ntmps31
              go_wp2_with (first | (go_at_call 30; refine (l2In_any _ _ _ _).mono ?_; rintro e' w' ⟨rfl, rfl⟩) | (go_at_call 80; refine (l2LeaseOk_any _ _).mono ?_; rintro e' w' ⟨rfl, rfl⟩))
              go_ret
              refine ⟨RetB.f fun hv => ?_, hb0⟩; have hv := (vW0 _ _ _ _ _ _ _ _ _ _).1 hv; unfold vWt at hv; have := GC.out; have := HL.out;  omega
            | true =>
              have gC : co = 0 := by simpa using hC
              have GC := hid gC
              clear gC
              cases hF : (lf == 0) with
              | false =>
                have gF : ¬ (lf = 0) := by simpa using hF
                have GF := hid gF
                clear gF
                go_enter Tryz.func31, Tryz.ntmps31
                go_wp2_with (first | (go_at_call 30; refine (l2In_any _ _ _ _).mono ?_; rintro e' w' ⟨rfl, rfl⟩) | (go_at_call 80; refine (l2LeaseOk_any _ _).mono ?_; rintro e' w' ⟨rfl, rfl⟩))
                go_ret
                refine ⟨RetB.f fun hv => ?_, hb0⟩; have hv := (vW0 _ _ _ _ _ _ _ _ _ _).1 hv; unfold vWt at hv; have := GF.out; have := HL.out;  omega
              | true =>
                have gF : lf = 0 := by simpa using hF
                have GF := hid gF
                clear gF
                cases hI : ((n : Int) == 0) with
                | false =>
                  have gI : ¬ (n = 0) := by simp at hI; omega
                  have GI := hid gI
                  clear gI
                  go_enter Tryz.func31, Tryz.ntmps31
                  go_wp2_with (first | (go_at_call 30; refine (l2In_any _ _ _ _).mono ?_; rintro e' w' ⟨rfl, rfl⟩) | (go_at_call 80; refine (l2LeaseOk_any _ _).mono ?_; rintro e' w' ⟨rfl, rfl⟩))
                  go_ret
                  refine ⟨RetB.f fun hv => ?_, hb0⟩; have hv := (vW0 _ _ _ _ _ _ _ _ _ _).1 hv; unfold vWt at hv; have := GI.out; have := HL.out;  omega
                | true =>
                  have gI : n = 0 := by simp at hI; omega
                  have GI := hid gI
                  clear gI
                  cases hX : x.toList.isEmpty with
                  | false =>
                    have gX : ¬ (x.size = 0) := fun hh => by rw [empty_t hh] at hX; cases hX
                    have GX := hid gX
                    clear gX
                    go_enter Tryz.func31, Tryz.ntmps31
                    go_wp2_with (first | (go_at_call 30; refine (l2In_any _ _ _ _).mono ?_; rintro e' w' ⟨rfl, rfl⟩) | (go_at_call 80; refine (l2LeaseOk_any _ _).mono ?_; rintro e' w' ⟨rfl, rfl⟩))
                    go_ret
                    refine ⟨RetB.f fun hv => ?_, hb0⟩; have hv := (vW0 _ _ _ _ _ _ _ _ _ _).1 hv; unfold vWt at hv; have := GX.out; have := HL.out;  omega
                  | true =>
                    have gX : x.size = 0 := Decidable.byContradiction fun hh => by rw [empty_f hh] at hX; cases hX
                    have GX := hid gX
                    clear gX
                    go_enter Tryz.func31, Tryz.ntmps31
                    go_wp2_with (first | (go_at_call 30; refine (l2In_any _ _ _ _).mono ?_; rintro e' w' ⟨rfl, rfl⟩) | (go_at_call 80; refine (l2LeaseOk_any _ _).mono ?_; rintro e' w' ⟨rfl, rfl⟩))
                    go_ret
                    refine ⟨RetB.t ((vW0 _ _ _ _ _ _ _ _ _ _).2 ?_), hb0⟩; unfold vWt; have := HL.out; have := GN.out; have := GE.out; have := GS.out; have := GL.out; have := GT.out; have := GC.out; have := GF.out; have := GI.out; have := GX.out; refine ⟨⟨by omega, by omega, by omega, by omega, by omega, by omega, fun hh => by cases hh⟩, ?_⟩; omega

set_option maxRecDepth 100000 in
set_option maxHeartbeats 2000000 in
theorem sVal_0f (nu ep : Int) (le ta co lf : Int) (a : Option Addr) (b o n c : Nat) (ss : List ByteArray) (x : ByteArray) (si : Int) (w : World) (h : StrsAt w a b o n ss) :
    Calls Tryz.prog 31 #[.agg #[.int .i64 nu, .int .i64 ep, .bool false, .int .i64 0, .int .i64 le, .int .i64 ta, .int .i64 co, .int .i64 lf, .slice a n c, .string x, .int .i64 si]] w fun e' w' => RetB e' (vW nu ep false 0 le ta co lf ss x.size si) ∧ Below w.heap.size w w' := by
  have hb0 : Below w.heap.size w (w.alloc (.cells #[.int .i64 nu, .int .i64 ep, .bool false, .int .i64 0, .int .i64 le, .int .i64 ta, .int .i64 co, .int .i64 lf, .slice a n c, .string x, .int .i64 si] 72)) := (Below.refl _ _).alloc (Nat.le_refl _) _
  have HL : Hid (ss.length = n) := h.len
  have hmax := h.max
  unfold maxLen at hmax
  cases hN : inB nu 1 8 with
  | false =>
    have gN := inB_f hN
    have GN := hid gN
    clear gN
    go_enter Tryz.func31, Tryz.ntmps31
    go_wp2_with (first | (go_at_call 30; refine (l2In_any _ _ _ _).mono ?_; rintro e' w' ⟨rfl, rfl⟩) | (go_at_call 80; refine (l2LeaseOk_any _ _).mono ?_; rintro e' w' ⟨rfl, rfl⟩))
    go_ret
    refine ⟨RetB.f fun hv => ?_, hb0⟩; have hv := (vW0 _ _ _ _ _ _ _ _ _ _).1 hv; unfold vWt at hv; have := GN.out; have := HL.out; have := hv.1.2.2.2.2.2.2 rfl; omega
  | true =>
    have gN := inB_t hN
    have GN := hid gN
    clear gN
    cases hE : inB ep 1 300 with
    | false =>
      have gE := inB_f hE
      have GE := hid gE
      clear gE
      go_enter Tryz.func31, Tryz.ntmps31
      go_wp2_with (first | (go_at_call 30; refine (l2In_any _ _ _ _).mono ?_; rintro e' w' ⟨rfl, rfl⟩) | (go_at_call 80; refine (l2LeaseOk_any _ _).mono ?_; rintro e' w' ⟨rfl, rfl⟩))
      go_ret
      refine ⟨RetB.f fun hv => ?_, hb0⟩; have hv := (vW0 _ _ _ _ _ _ _ _ _ _).1 hv; unfold vWt at hv; have := GE.out; have := HL.out; have := hv.1.2.2.2.2.2.2 rfl; omega
    | true =>
      have gE := inB_t hE
      have GE := hid gE
      clear gE
      cases hS : inB si 0 1000000 with
      | false =>
        have gS := inB_f hS
        have GS := hid gS
        clear gS
        go_enter Tryz.func31, Tryz.ntmps31
        go_wp2_with (first | (go_at_call 30; refine (l2In_any _ _ _ _).mono ?_; rintro e' w' ⟨rfl, rfl⟩) | (go_at_call 80; refine (l2LeaseOk_any _ _).mono ?_; rintro e' w' ⟨rfl, rfl⟩))
        go_ret
        refine ⟨RetB.f fun hv => ?_, hb0⟩; have hv := (vW0 _ _ _ _ _ _ _ _ _ _).1 hv; unfold vWt at hv; have := GS.out; have := HL.out; have := hv.1.2.2.2.2.2.2 rfl; omega
      | true =>
        have gS := inB_t hS
        have GS := hid gS
        clear gS
        cases hZ : (si == 0) with
        | false =>
          have gZ : ¬ (si = 0) := by simpa using hZ
          have GZ := hid gZ
          clear gZ
          go_enter Tryz.func31, Tryz.ntmps31
          go_wp2_with (first | (go_at_call 30; refine (l2In_any _ _ _ _).mono ?_; rintro e' w' ⟨rfl, rfl⟩) | (go_at_call 80; refine (l2LeaseOk_any _ _).mono ?_; rintro e' w' ⟨rfl, rfl⟩))
          go_ret
          refine ⟨RetB.f fun hv => ?_, hb0⟩; have hv := (vW0 _ _ _ _ _ _ _ _ _ _).1 hv; unfold vWt at hv; have := GZ.out; have := HL.out; have := hv.1.2.2.2.2.2.2 rfl; omega
        | true =>
          have gZ : si = 0 := by simpa using hZ
          have GZ := hid gZ
          clear gZ
          cases hL : (le == 0) with
          | false =>
            have gL : ¬ (le = 0) := by simpa using hL
            have GL := hid gL
            clear gL
            go_enter Tryz.func31, Tryz.ntmps31
            go_wp2_with (first | (go_at_call 30; refine (l2In_any _ _ _ _).mono ?_; rintro e' w' ⟨rfl, rfl⟩) | (go_at_call 80; refine (l2LeaseOk_any _ _).mono ?_; rintro e' w' ⟨rfl, rfl⟩))
            go_ret
            refine ⟨RetB.f fun hv => ?_, hb0⟩; have hv := (vW0 _ _ _ _ _ _ _ _ _ _).1 hv; unfold vWt at hv; have := GL.out; have := HL.out; have := hv.1.2.2.2.2.2.2 rfl; omega
          | true =>
            have gL : le = 0 := by simpa using hL
            have GL := hid gL
            clear gL
            cases hT : (ta == 0) with
            | false =>
              have gT : ¬ (ta = 0) := by simpa using hT
              have GT := hid gT
              clear gT
              go_enter Tryz.func31, Tryz.ntmps31
              go_wp2_with (first | (go_at_call 30; refine (l2In_any _ _ _ _).mono ?_; rintro e' w' ⟨rfl, rfl⟩) | (go_at_call 80; refine (l2LeaseOk_any _ _).mono ?_; rintro e' w' ⟨rfl, rfl⟩))
              go_ret
              refine ⟨RetB.f fun hv => ?_, hb0⟩; have hv := (vW0 _ _ _ _ _ _ _ _ _ _).1 hv; unfold vWt at hv; have := GT.out; have := HL.out; have := hv.1.2.2.2.2.2.2 rfl; omega
            | true =>
              have gT : ta = 0 := by simpa using hT
              have GT := hid gT
              clear gT
              cases hC : (co == 0) with
              | false =>
                have gC : ¬ (co = 0) := by simpa using hC
                have GC := hid gC
                clear gC
                go_enter Tryz.func31, Tryz.ntmps31
                go_wp2_with (first | (go_at_call 30; refine (l2In_any _ _ _ _).mono ?_; rintro e' w' ⟨rfl, rfl⟩) | (go_at_call 80; refine (l2LeaseOk_any _ _).mono ?_; rintro e' w' ⟨rfl, rfl⟩))
                go_ret
                refine ⟨RetB.f fun hv => ?_, hb0⟩; have hv := (vW0 _ _ _ _ _ _ _ _ _ _).1 hv; unfold vWt at hv; have := GC.out; have := HL.out; have := hv.1.2.2.2.2.2.2 rfl; omega
              | true =>
                have gC : co = 0 := by simpa using hC
                have GC := hid gC
                clear gC
                cases hF : (lf == 0) with
                | false =>
                  have gF : ¬ (lf = 0) := by simpa using hF
                  have GF := hid gF
                  clear gF
                  go_enter Tryz.func31, Tryz.ntmps31
                  go_wp2_with (first | (go_at_call 30; refine (l2In_any _ _ _ _).mono ?_; rintro e' w' ⟨rfl, rfl⟩) | (go_at_call 80; refine (l2LeaseOk_any _ _).mono ?_; rintro e' w' ⟨rfl, rfl⟩))
                  go_ret
                  refine ⟨RetB.f fun hv => ?_, hb0⟩; have hv := (vW0 _ _ _ _ _ _ _ _ _ _).1 hv; unfold vWt at hv; have := GF.out; have := HL.out; have := hv.1.2.2.2.2.2.2 rfl; omega
                | true =>
                  have gF : lf = 0 := by simpa using hF
                  have GF := hid gF
                  clear gF
                  cases hI : ((n : Int) == 0) with
                  | false =>
                    have gI : ¬ (n = 0) := by simp at hI; omega
                    have GI := hid gI
                    clear gI
                    go_enter Tryz.func31, Tryz.ntmps31
                    go_wp2_with (first | (go_at_call 30; refine (l2In_any _ _ _ _).mono ?_; rintro e' w' ⟨rfl, rfl⟩) | (go_at_call 80; refine (l2LeaseOk_any _ _).mono ?_; rintro e' w' ⟨rfl, rfl⟩))
                    go_ret
                    refine ⟨RetB.f fun hv => ?_, hb0⟩; have hv := (vW0 _ _ _ _ _ _ _ _ _ _).1 hv; unfold vWt at hv; have := GI.out; have := HL.out; have := hv.1.2.2.2.2.2.2 rfl; omega
                  | true =>
                    have gI : n = 0 := by simp at hI; omega
                    have GI := hid gI
                    clear gI
                    cases hX : x.toList.isEmpty with
                    | false =>
                      have gX : ¬ (x.size = 0) := fun hh => by rw [empty_t hh] at hX; cases hX
                      have GX := hid gX
                      clear gX
                      go_enter Tryz.func31, Tryz.ntmps31
                      go_wp2_with (first | (go_at_call 30; refine (l2In_any _ _ _ _).mono ?_; rintro e' w' ⟨rfl, rfl⟩) | (go_at_call 80; refine (l2LeaseOk_any _ _).mono ?_; rintro e' w' ⟨rfl, rfl⟩))
                      go_ret
                      refine ⟨RetB.f fun hv => ?_, hb0⟩; have hv := (vW0 _ _ _ _ _ _ _ _ _ _).1 hv; unfold vWt at hv; have := GX.out; have := HL.out; have := hv.1.2.2.2.2.2.2 rfl; omega
                    | true =>
                      have gX : x.size = 0 := Decidable.byContradiction fun hh => by rw [empty_f hh] at hX; cases hX
                      have GX := hid gX
                      clear gX
                      go_enter Tryz.func31, Tryz.ntmps31
                      go_wp2_with (first | (go_at_call 30; refine (l2In_any _ _ _ _).mono ?_; rintro e' w' ⟨rfl, rfl⟩) | (go_at_call 80; refine (l2LeaseOk_any _ _).mono ?_; rintro e' w' ⟨rfl, rfl⟩))
                      go_ret
                      refine ⟨RetB.t ((vW0 _ _ _ _ _ _ _ _ _ _).2 ?_), hb0⟩; unfold vWt; have := HL.out; have := GN.out; have := GE.out; have := GS.out; have := GZ.out; have := GL.out; have := GT.out; have := GC.out; have := GF.out; have := GI.out; have := GX.out; refine ⟨⟨by omega, by omega, by omega, by omega, by omega, by omega, fun _ => by omega⟩, ?_⟩; omega

set_option maxRecDepth 100000 in
set_option maxHeartbeats 2000000 in
theorem sVal_1t (nu ep : Int) (le ta co lf : Int) (a : Option Addr) (b o n c : Nat) (ss : List ByteArray) (x : ByteArray) (si : Int) (w : World) (h : StrsAt w a b o n ss) :
    Calls Tryz.prog 31 #[.agg #[.int .i64 nu, .int .i64 ep, .bool true, .int .i64 1, .int .i64 le, .int .i64 ta, .int .i64 co, .int .i64 lf, .slice a n c, .string x, .int .i64 si]] w fun e' w' => RetB e' (vW nu ep true 1 le ta co lf ss x.size si) ∧ Below w.heap.size w w' := by
  have hb0 : Below w.heap.size w (w.alloc (.cells #[.int .i64 nu, .int .i64 ep, .bool true, .int .i64 1, .int .i64 le, .int .i64 ta, .int .i64 co, .int .i64 lf, .slice a n c, .string x, .int .i64 si] 72)) := (Below.refl _ _).alloc (Nat.le_refl _) _
  have HL : Hid (ss.length = n) := h.len
  have hmax := h.max
  unfold maxLen at hmax
  cases hN : inB nu 1 8 with
  | false =>
    have gN := inB_f hN
    have GN := hid gN
    clear gN
    go_enter Tryz.func31, Tryz.ntmps31
    go_wp2_with (first | (go_at_call 30; refine (l2In_any _ _ _ _).mono ?_; rintro e' w' ⟨rfl, rfl⟩) | (go_at_call 80; refine (l2LeaseOk_any _ _).mono ?_; rintro e' w' ⟨rfl, rfl⟩))
    go_ret
    refine ⟨RetB.f fun hv => ?_, hb0⟩; have hv := (vW1 _ _ _ _ _ _ _ _ _ _).1 hv; unfold vWt at hv; have := GN.out; have := HL.out;  omega
  | true =>
    have gN := inB_t hN
    have GN := hid gN
    clear gN
    cases hE : inB ep 1 300 with
    | false =>
      have gE := inB_f hE
      have GE := hid gE
      clear gE
      go_enter Tryz.func31, Tryz.ntmps31
      go_wp2_with (first | (go_at_call 30; refine (l2In_any _ _ _ _).mono ?_; rintro e' w' ⟨rfl, rfl⟩) | (go_at_call 80; refine (l2LeaseOk_any _ _).mono ?_; rintro e' w' ⟨rfl, rfl⟩))
      go_ret
      refine ⟨RetB.f fun hv => ?_, hb0⟩; have hv := (vW1 _ _ _ _ _ _ _ _ _ _).1 hv; unfold vWt at hv; have := GE.out; have := HL.out;  omega
    | true =>
      have gE := inB_t hE
      have GE := hid gE
      clear gE
      cases hS : inB si 0 1000000 with
      | false =>
        have gS := inB_f hS
        have GS := hid gS
        clear gS
        go_enter Tryz.func31, Tryz.ntmps31
        go_wp2_with (first | (go_at_call 30; refine (l2In_any _ _ _ _).mono ?_; rintro e' w' ⟨rfl, rfl⟩) | (go_at_call 80; refine (l2LeaseOk_any _ _).mono ?_; rintro e' w' ⟨rfl, rfl⟩))
        go_ret
        refine ⟨RetB.f fun hv => ?_, hb0⟩; have hv := (vW1 _ _ _ _ _ _ _ _ _ _).1 hv; unfold vWt at hv; have := GS.out; have := HL.out;  omega
      | true =>
        have gS := inB_t hS
        have GS := hid gS
        clear gS
        cases hL : inB le 1 300000000 with
        | false =>
          have gL := inB_f hL
          have GL := hid gL
          clear gL
          go_enter Tryz.func31, Tryz.ntmps31
          go_wp2_with (first | (go_at_call 30; refine (l2In_any _ _ _ _).mono ?_; rintro e' w' ⟨rfl, rfl⟩) | (go_at_call 80; refine (l2LeaseOk_any _ _).mono ?_; rintro e' w' ⟨rfl, rfl⟩))
          go_ret
          refine ⟨RetB.f fun hv => ?_, hb0⟩; have hv := (vW1 _ _ _ _ _ _ _ _ _ _).1 hv; unfold vWt at hv; have := GL.out; have := HL.out;  omega
        | true =>
          have gL := inB_t hL
          have GL := hid gL
          clear gL
          cases hT : inB ta 0 39 with
          | false =>
            have gT := inB_f hT
            have GT := hid gT
            clear gT
            go_enter Tryz.func31, Tryz.ntmps31
            go_wp2_with (first | (go_at_call 30; refine (l2In_any _ _ _ _).mono ?_; rintro e' w' ⟨rfl, rfl⟩) | (go_at_call 80; refine (l2LeaseOk_any _ _).mono ?_; rintro e' w' ⟨rfl, rfl⟩))
            go_ret
            refine ⟨RetB.f fun hv => ?_, hb0⟩; have hv := (vW1 _ _ _ _ _ _ _ _ _ _).1 hv; unfold vWt at hv; have := GT.out; have := HL.out;  omega
          | true =>
            have gT := inB_t hT
            have GT := hid gT
            clear gT
            cases hC : inB co 1 20 with
            | false =>
              have gC := inB_f hC
              have GC := hid gC
              clear gC
              go_enter Tryz.func31, Tryz.ntmps31
              go_wp2_with (first | (go_at_call 30; refine (l2In_any _ _ _ _).mono ?_; rintro e' w' ⟨rfl, rfl⟩) | (go_at_call 80; refine (l2LeaseOk_any _ _).mono ?_; rintro e' w' ⟨rfl, rfl⟩))
              go_ret
              refine ⟨RetB.f fun hv => ?_, hb0⟩; have hv := (vW1 _ _ _ _ _ _ _ _ _ _).1 hv; unfold vWt at hv; have := GC.out; have := HL.out;  omega
            | true =>
              have gC := inB_t hC
              have GC := hid gC
              clear gC
              cases hF : inB lf 1 co with
              | false =>
                have gF := inB_f hF
                have GF := hid gF
                clear gF
                go_enter Tryz.func31, Tryz.ntmps31
                go_wp2_with (first | (go_at_call 30; refine (l2In_any _ _ _ _).mono ?_; rintro e' w' ⟨rfl, rfl⟩) | (go_at_call 80; refine (l2LeaseOk_any _ _).mono ?_; rintro e' w' ⟨rfl, rfl⟩))
                go_ret
                refine ⟨RetB.f fun hv => ?_, hb0⟩; have hv := (vW1 _ _ _ _ _ _ _ _ _ _).1 hv; unfold vWt at hv; have := GF.out; have := HL.out;  omega
              | true =>
                have gF := inB_t hF
                have GF := hid gF
                clear gF
                by_cases gI : inOk ss
                · have GI := hid gI
                  clear gI
                  cases hX : x.toList.isEmpty with
                  | false =>
                    have gX : ¬ (x.size = 0) := fun hh => by rw [empty_t hh] at hX; cases hX
                    have GX := hid gX
                    clear gX
                    go_enter Tryz.func31, Tryz.ntmps31
                    go_wp2_with (first | (go_at_call 30; refine (l2In_any _ _ _ _).mono ?_; rintro e' w' ⟨rfl, rfl⟩) | (go_at_call 80; refine (l2LeaseOk_any _ _).mono ?_; rintro e' w' ⟨rfl, rfl⟩) | (go_at_call 81; refine (l2InputsOk_any a b o n c ss _ (h.below' hb0)).mono ?_; rintro e' w' ⟨⟨r, rfl, hr⟩, rfl⟩; obtain rfl := hr.2 GI.out; clear hr))
                    go_ret
                    refine ⟨RetB.f fun hv => ?_, hb0⟩; have hv := (vW1 _ _ _ _ _ _ _ _ _ _).1 hv; have := GX.out; omega
                  | true =>
                    have gX : x.size = 0 := Decidable.byContradiction fun hh => by rw [empty_f hh] at hX; cases hX
                    have GX := hid gX
                    clear gX
                    go_enter Tryz.func31, Tryz.ntmps31
                    go_wp2_with (first | (go_at_call 30; refine (l2In_any _ _ _ _).mono ?_; rintro e' w' ⟨rfl, rfl⟩) | (go_at_call 80; refine (l2LeaseOk_any _ _).mono ?_; rintro e' w' ⟨rfl, rfl⟩) | (go_at_call 81; refine (l2InputsOk_any a b o n c ss _ (h.below' hb0)).mono ?_; rintro e' w' ⟨⟨r, rfl, hr⟩, rfl⟩; obtain rfl := hr.2 GI.out; clear hr))
                    go_ret
                    refine ⟨RetB.t ((vW1 _ _ _ _ _ _ _ _ _ _).2 ?_), hb0⟩; unfold vWt; have := GN.out; have := GE.out; have := GS.out; have := GL.out; have := GT.out; have := GC.out; have := GF.out; have := GX.out; exact ⟨⟨by omega, by omega, by omega, by omega, by omega, by omega, fun hh => by cases hh⟩, by omega, by omega, by omega, by omega, by omega, by omega, by omega, by omega, by omega, GI.out⟩
                · have GI := hid gI
                  clear gI
                  go_enter Tryz.func31, Tryz.ntmps31
                  go_wp2_with (first | (go_at_call 30; refine (l2In_any _ _ _ _).mono ?_; rintro e' w' ⟨rfl, rfl⟩) | (go_at_call 80; refine (l2LeaseOk_any _ _).mono ?_; rintro e' w' ⟨rfl, rfl⟩) | (go_at_call 81; refine (l2InputsOk_any a b o n c ss _ (h.below' hb0)).mono ?_; rintro e' w' ⟨⟨r, rfl, hr⟩, rfl⟩; obtain rfl : r = false := Bool.eq_false_iff.2 (fun hb => GI.out (hr.1 hb)); clear hr))
                  go_ret
                  exact ⟨RetB.f fun hv => GI.out ((vW1 _ _ _ _ _ _ _ _ _ _).1 hv).2.2.2.2.2.2.2.2.2.2, hb0⟩

set_option maxRecDepth 100000 in
set_option maxHeartbeats 2000000 in
theorem sVal_1f (nu ep : Int) (le ta co lf : Int) (a : Option Addr) (b o n c : Nat) (ss : List ByteArray) (x : ByteArray) (si : Int) (w : World) (h : StrsAt w a b o n ss) :
    Calls Tryz.prog 31 #[.agg #[.int .i64 nu, .int .i64 ep, .bool false, .int .i64 1, .int .i64 le, .int .i64 ta, .int .i64 co, .int .i64 lf, .slice a n c, .string x, .int .i64 si]] w fun e' w' => RetB e' (vW nu ep false 1 le ta co lf ss x.size si) ∧ Below w.heap.size w w' := by
  have hb0 : Below w.heap.size w (w.alloc (.cells #[.int .i64 nu, .int .i64 ep, .bool false, .int .i64 1, .int .i64 le, .int .i64 ta, .int .i64 co, .int .i64 lf, .slice a n c, .string x, .int .i64 si] 72)) := (Below.refl _ _).alloc (Nat.le_refl _) _
  have HL : Hid (ss.length = n) := h.len
  have hmax := h.max
  unfold maxLen at hmax
  cases hN : inB nu 1 8 with
  | false =>
    go_enter Tryz.func31, Tryz.ntmps31
    go_wp2_with (first | (go_at_call 30; refine (l2In_any _ _ _ _).mono ?_; rintro e' w' ⟨rfl, rfl⟩) | (go_at_call 80; refine (l2LeaseOk_any _ _).mono ?_; rintro e' w' ⟨rfl, rfl⟩))
    go_ret
    refine ⟨RetB.f fun hv => ?_, hb0⟩; have hv := (vW1 _ _ _ _ _ _ _ _ _ _).1 hv; exact absurd (hv.1.2.2.2.2.2.2 rfl).1 (by decide)
  | true =>
    cases hE : inB ep 1 300 with
    | false =>
      go_enter Tryz.func31, Tryz.ntmps31
      go_wp2_with (first | (go_at_call 30; refine (l2In_any _ _ _ _).mono ?_; rintro e' w' ⟨rfl, rfl⟩) | (go_at_call 80; refine (l2LeaseOk_any _ _).mono ?_; rintro e' w' ⟨rfl, rfl⟩))
      go_ret
      refine ⟨RetB.f fun hv => ?_, hb0⟩; have hv := (vW1 _ _ _ _ _ _ _ _ _ _).1 hv; exact absurd (hv.1.2.2.2.2.2.2 rfl).1 (by decide)
    | true =>
      cases hS : inB si 0 1000000 with
      | false =>
        go_enter Tryz.func31, Tryz.ntmps31
        go_wp2_with (first | (go_at_call 30; refine (l2In_any _ _ _ _).mono ?_; rintro e' w' ⟨rfl, rfl⟩) | (go_at_call 80; refine (l2LeaseOk_any _ _).mono ?_; rintro e' w' ⟨rfl, rfl⟩))
        go_ret
        refine ⟨RetB.f fun hv => ?_, hb0⟩; have hv := (vW1 _ _ _ _ _ _ _ _ _ _).1 hv; exact absurd (hv.1.2.2.2.2.2.2 rfl).1 (by decide)
      | true =>
        go_enter Tryz.func31, Tryz.ntmps31
        go_wp2_with (first | (go_at_call 30; refine (l2In_any _ _ _ _).mono ?_; rintro e' w' ⟨rfl, rfl⟩) | (go_at_call 80; refine (l2LeaseOk_any _ _).mono ?_; rintro e' w' ⟨rfl, rfl⟩))
        go_ret
        refine ⟨RetB.f fun hv => ?_, hb0⟩; have hv := (vW1 _ _ _ _ _ _ _ _ _ _).1 hv; exact absurd (hv.1.2.2.2.2.2.2 rfl).1 (by decide)

set_option maxRecDepth 100000 in
set_option maxHeartbeats 2000000 in
theorem sVal_2t (nu ep : Int) (le ta co lf : Int) (a : Option Addr) (b o n c : Nat) (ss : List ByteArray) (x : ByteArray) (si : Int) (w : World) (h : StrsAt w a b o n ss) :
    Calls Tryz.prog 31 #[.agg #[.int .i64 nu, .int .i64 ep, .bool true, .int .i64 2, .int .i64 le, .int .i64 ta, .int .i64 co, .int .i64 lf, .slice a n c, .string x, .int .i64 si]] w fun e' w' => RetB e' (vW nu ep true 2 le ta co lf ss x.size si) ∧ Below w.heap.size w w' := by
  have hb0 : Below w.heap.size w (w.alloc (.cells #[.int .i64 nu, .int .i64 ep, .bool true, .int .i64 2, .int .i64 le, .int .i64 ta, .int .i64 co, .int .i64 lf, .slice a n c, .string x, .int .i64 si] 72)) := (Below.refl _ _).alloc (Nat.le_refl _) _
  have HL : Hid (ss.length = n) := h.len
  have hmax := h.max
  unfold maxLen at hmax
  cases hN : inB nu 1 8 with
  | false =>
    have gN := inB_f hN
    have GN := hid gN
    clear gN
    go_enter Tryz.func31, Tryz.ntmps31
    go_wp2_with (first | (go_at_call 30; refine (l2In_any _ _ _ _).mono ?_; rintro e' w' ⟨rfl, rfl⟩) | (go_at_call 80; refine (l2LeaseOk_any _ _).mono ?_; rintro e' w' ⟨rfl, rfl⟩))
    go_ret
    refine ⟨RetB.f fun hv => ?_, hb0⟩; have hv := (vW2 _ _ _ _ _ _ _ _ _ _).1 hv; unfold vWt at hv; have := GN.out; have := HL.out;  omega
  | true =>
    have gN := inB_t hN
    have GN := hid gN
    clear gN
    cases hE : inB ep 1 300 with
    | false =>
      have gE := inB_f hE
      have GE := hid gE
      clear gE
      go_enter Tryz.func31, Tryz.ntmps31
      go_wp2_with (first | (go_at_call 30; refine (l2In_any _ _ _ _).mono ?_; rintro e' w' ⟨rfl, rfl⟩) | (go_at_call 80; refine (l2LeaseOk_any _ _).mono ?_; rintro e' w' ⟨rfl, rfl⟩))
      go_ret
      refine ⟨RetB.f fun hv => ?_, hb0⟩; have hv := (vW2 _ _ _ _ _ _ _ _ _ _).1 hv; unfold vWt at hv; have := GE.out; have := HL.out;  omega
    | true =>
      have gE := inB_t hE
      have GE := hid gE
      clear gE
      cases hS : inB si 0 1000000 with
      | false =>
        have gS := inB_f hS
        have GS := hid gS
        clear gS
        go_enter Tryz.func31, Tryz.ntmps31
        go_wp2_with (first | (go_at_call 30; refine (l2In_any _ _ _ _).mono ?_; rintro e' w' ⟨rfl, rfl⟩) | (go_at_call 80; refine (l2LeaseOk_any _ _).mono ?_; rintro e' w' ⟨rfl, rfl⟩))
        go_ret
        refine ⟨RetB.f fun hv => ?_, hb0⟩; have hv := (vW2 _ _ _ _ _ _ _ _ _ _).1 hv; unfold vWt at hv; have := GS.out; have := HL.out;  omega
      | true =>
        have gS := inB_t hS
        have GS := hid gS
        clear gS
        cases hL : inB le 1 300000000 with
        | false =>
          have gL := inB_f hL
          have GL := hid gL
          clear gL
          go_enter Tryz.func31, Tryz.ntmps31
          go_wp2_with (first | (go_at_call 30; refine (l2In_any _ _ _ _).mono ?_; rintro e' w' ⟨rfl, rfl⟩) | (go_at_call 80; refine (l2LeaseOk_any _ _).mono ?_; rintro e' w' ⟨rfl, rfl⟩))
          go_ret
          refine ⟨RetB.f fun hv => ?_, hb0⟩; have hv := (vW2 _ _ _ _ _ _ _ _ _ _).1 hv; unfold vWt at hv; have := GL.out; have := HL.out;  omega
        | true =>
          have gL := inB_t hL
          have GL := hid gL
          clear gL
          cases hT : inB ta 0 39 with
          | false =>
            have gT := inB_f hT
            have GT := hid gT
            clear gT
            go_enter Tryz.func31, Tryz.ntmps31
            go_wp2_with (first | (go_at_call 30; refine (l2In_any _ _ _ _).mono ?_; rintro e' w' ⟨rfl, rfl⟩) | (go_at_call 80; refine (l2LeaseOk_any _ _).mono ?_; rintro e' w' ⟨rfl, rfl⟩))
            go_ret
            refine ⟨RetB.f fun hv => ?_, hb0⟩; have hv := (vW2 _ _ _ _ _ _ _ _ _ _).1 hv; unfold vWt at hv; have := GT.out; have := HL.out;  omega
          | true =>
            have gT := inB_t hT
            have GT := hid gT
            clear gT
            cases hX : ((x.size : Int) == 8) with
            | false =>
              have gX : ¬ (x.size = 8) := by simp at hX; omega
              have GX := hid gX
              clear gX
              go_enter Tryz.func31, Tryz.ntmps31
              go_wp2_with (first | (go_at_call 30; refine (l2In_any _ _ _ _).mono ?_; rintro e' w' ⟨rfl, rfl⟩) | (go_at_call 80; refine (l2LeaseOk_any _ _).mono ?_; rintro e' w' ⟨rfl, rfl⟩))
              go_ret
              refine ⟨RetB.f fun hv => ?_, hb0⟩; have hv := (vW2 _ _ _ _ _ _ _ _ _ _).1 hv; unfold vWt at hv; have := GX.out; have := HL.out;  omega
            | true =>
              have gX : x.size = 8 := by simp at hX; omega
              have GX := hid gX
              clear gX
              cases hC : (co == 0) with
              | false =>
                have gC : ¬ (co = 0) := by simpa using hC
                have GC := hid gC
                clear gC
                go_enter Tryz.func31, Tryz.ntmps31
                go_wp2_with (first | (go_at_call 30; refine (l2In_any _ _ _ _).mono ?_; rintro e' w' ⟨rfl, rfl⟩) | (go_at_call 80; refine (l2LeaseOk_any _ _).mono ?_; rintro e' w' ⟨rfl, rfl⟩))
                go_ret
                refine ⟨RetB.f fun hv => ?_, hb0⟩; have hv := (vW2 _ _ _ _ _ _ _ _ _ _).1 hv; unfold vWt at hv; have := GC.out; have := HL.out;  omega
              | true =>
                have gC : co = 0 := by simpa using hC
                have GC := hid gC
                clear gC
                cases hF : (lf == 0) with
                | false =>
                  have gF : ¬ (lf = 0) := by simpa using hF
                  have GF := hid gF
                  clear gF
                  go_enter Tryz.func31, Tryz.ntmps31
                  go_wp2_with (first | (go_at_call 30; refine (l2In_any _ _ _ _).mono ?_; rintro e' w' ⟨rfl, rfl⟩) | (go_at_call 80; refine (l2LeaseOk_any _ _).mono ?_; rintro e' w' ⟨rfl, rfl⟩))
                  go_ret
                  refine ⟨RetB.f fun hv => ?_, hb0⟩; have hv := (vW2 _ _ _ _ _ _ _ _ _ _).1 hv; unfold vWt at hv; have := GF.out; have := HL.out;  omega
                | true =>
                  have gF : lf = 0 := by simpa using hF
                  have GF := hid gF
                  clear gF
                  cases hI : ((n : Int) == 0) with
                  | false =>
                    have gI : ¬ (n = 0) := by simp at hI; omega
                    have GI := hid gI
                    clear gI
                    go_enter Tryz.func31, Tryz.ntmps31
                    go_wp2_with (first | (go_at_call 30; refine (l2In_any _ _ _ _).mono ?_; rintro e' w' ⟨rfl, rfl⟩) | (go_at_call 80; refine (l2LeaseOk_any _ _).mono ?_; rintro e' w' ⟨rfl, rfl⟩))
                    go_ret
                    refine ⟨RetB.f fun hv => ?_, hb0⟩; have hv := (vW2 _ _ _ _ _ _ _ _ _ _).1 hv; unfold vWt at hv; have := GI.out; have := HL.out;  omega
                  | true =>
                    have gI : n = 0 := by simp at hI; omega
                    have GI := hid gI
                    clear gI
                    go_enter Tryz.func31, Tryz.ntmps31
                    go_wp2_with (first | (go_at_call 30; refine (l2In_any _ _ _ _).mono ?_; rintro e' w' ⟨rfl, rfl⟩) | (go_at_call 80; refine (l2LeaseOk_any _ _).mono ?_; rintro e' w' ⟨rfl, rfl⟩))
                    go_ret
                    refine ⟨RetB.t ((vW2 _ _ _ _ _ _ _ _ _ _).2 ?_), hb0⟩; unfold vWt; have := HL.out; have := GN.out; have := GE.out; have := GS.out; have := GL.out; have := GT.out; have := GX.out; have := GC.out; have := GF.out; have := GI.out; refine ⟨⟨by omega, by omega, by omega, by omega, by omega, by omega, fun hh => by cases hh⟩, ?_⟩; omega

set_option maxRecDepth 100000 in
set_option maxHeartbeats 2000000 in
theorem sVal_2f (nu ep : Int) (le ta co lf : Int) (a : Option Addr) (b o n c : Nat) (ss : List ByteArray) (x : ByteArray) (si : Int) (w : World) (h : StrsAt w a b o n ss) :
    Calls Tryz.prog 31 #[.agg #[.int .i64 nu, .int .i64 ep, .bool false, .int .i64 2, .int .i64 le, .int .i64 ta, .int .i64 co, .int .i64 lf, .slice a n c, .string x, .int .i64 si]] w fun e' w' => RetB e' (vW nu ep false 2 le ta co lf ss x.size si) ∧ Below w.heap.size w w' := by
  have hb0 : Below w.heap.size w (w.alloc (.cells #[.int .i64 nu, .int .i64 ep, .bool false, .int .i64 2, .int .i64 le, .int .i64 ta, .int .i64 co, .int .i64 lf, .slice a n c, .string x, .int .i64 si] 72)) := (Below.refl _ _).alloc (Nat.le_refl _) _
  have HL : Hid (ss.length = n) := h.len
  have hmax := h.max
  unfold maxLen at hmax
  cases hN : inB nu 1 8 with
  | false =>
    go_enter Tryz.func31, Tryz.ntmps31
    go_wp2_with (first | (go_at_call 30; refine (l2In_any _ _ _ _).mono ?_; rintro e' w' ⟨rfl, rfl⟩) | (go_at_call 80; refine (l2LeaseOk_any _ _).mono ?_; rintro e' w' ⟨rfl, rfl⟩))
    go_ret
    refine ⟨RetB.f fun hv => ?_, hb0⟩; have hv := (vW2 _ _ _ _ _ _ _ _ _ _).1 hv; exact absurd (hv.1.2.2.2.2.2.2 rfl).1 (by decide)
  | true =>
    cases hE : inB ep 1 300 with
    | false =>
      go_enter Tryz.func31, Tryz.ntmps31
      go_wp2_with (first | (go_at_call 30; refine (l2In_any _ _ _ _).mono ?_; rintro e' w' ⟨rfl, rfl⟩) | (go_at_call 80; refine (l2LeaseOk_any _ _).mono ?_; rintro e' w' ⟨rfl, rfl⟩))
      go_ret
      refine ⟨RetB.f fun hv => ?_, hb0⟩; have hv := (vW2 _ _ _ _ _ _ _ _ _ _).1 hv; exact absurd (hv.1.2.2.2.2.2.2 rfl).1 (by decide)
    | true =>
      cases hS : inB si 0 1000000 with
      | false =>
        go_enter Tryz.func31, Tryz.ntmps31
        go_wp2_with (first | (go_at_call 30; refine (l2In_any _ _ _ _).mono ?_; rintro e' w' ⟨rfl, rfl⟩) | (go_at_call 80; refine (l2LeaseOk_any _ _).mono ?_; rintro e' w' ⟨rfl, rfl⟩))
        go_ret
        refine ⟨RetB.f fun hv => ?_, hb0⟩; have hv := (vW2 _ _ _ _ _ _ _ _ _ _).1 hv; exact absurd (hv.1.2.2.2.2.2.2 rfl).1 (by decide)
      | true =>
        go_enter Tryz.func31, Tryz.ntmps31
        go_wp2_with (first | (go_at_call 30; refine (l2In_any _ _ _ _).mono ?_; rintro e' w' ⟨rfl, rfl⟩) | (go_at_call 80; refine (l2LeaseOk_any _ _).mono ?_; rintro e' w' ⟨rfl, rfl⟩))
        go_ret
        refine ⟨RetB.f fun hv => ?_, hb0⟩; have hv := (vW2 _ _ _ _ _ _ _ _ _ _).1 hv; exact absurd (hv.1.2.2.2.2.2.2 rfl).1 (by decide)

set_option maxRecDepth 100000 in
set_option maxHeartbeats 2000000 in
theorem sVal_x (nu ep : Int) (up : Bool) (st le ta co lf : Int) (a : Option Addr) (n c : Nat) (ss : List ByteArray) (x : ByteArray) (si : Int) (w : World) (h0 : (st == 0) = false) (h1 : (st == 1) = false) (h2 : (st == 2) = false) :
    Calls Tryz.prog 31 #[.agg #[.int .i64 nu, .int .i64 ep, .bool up, .int .i64 st, .int .i64 le, .int .i64 ta, .int .i64 co, .int .i64 lf, .slice a n c, .string x, .int .i64 si]] w fun e' w' => RetB e' (vW nu ep up st le ta co lf ss x.size si) ∧ Below w.heap.size w w' := by
  have hb0 : Below w.heap.size w (w.alloc (.cells #[.int .i64 nu, .int .i64 ep, .bool up, .int .i64 st, .int .i64 le, .int .i64 ta, .int .i64 co, .int .i64 lf, .slice a n c, .string x, .int .i64 si] 72)) := (Below.refl _ _).alloc (Nat.le_refl _) _
  have HF : Hid (¬ vW nu ep up st le ta co lf ss x.size si) := fun hv => by
    rcases vW_st hv with rfl | rfl | rfl
    · simp at h0
    · simp at h1
    · simp at h2
  cases hN : inB nu 1 8 with
  | false =>
    go_enter Tryz.func31, Tryz.ntmps31
    go_wp2_with (first | (go_at_call 30; refine (l2In_any _ _ _ _).mono ?_; rintro e' w' ⟨rfl, rfl⟩) | (go_at_call 80; refine (l2LeaseOk_any _ _).mono ?_; rintro e' w' ⟨rfl, rfl⟩))
    go_ret
    exact ⟨RetB.f HF.out, hb0⟩
  | true =>
    cases hE : inB ep 1 300 with
    | false =>
      go_enter Tryz.func31, Tryz.ntmps31
      go_wp2_with (first | (go_at_call 30; refine (l2In_any _ _ _ _).mono ?_; rintro e' w' ⟨rfl, rfl⟩) | (go_at_call 80; refine (l2LeaseOk_any _ _).mono ?_; rintro e' w' ⟨rfl, rfl⟩))
      go_ret
      exact ⟨RetB.f HF.out, hb0⟩
    | true =>
      cases hS : inB si 0 1000000 with
      | false =>
        go_enter Tryz.func31, Tryz.ntmps31
        go_wp2_with (first | (go_at_call 30; refine (l2In_any _ _ _ _).mono ?_; rintro e' w' ⟨rfl, rfl⟩) | (go_at_call 80; refine (l2LeaseOk_any _ _).mono ?_; rintro e' w' ⟨rfl, rfl⟩))
        go_ret
        exact ⟨RetB.f HF.out, hb0⟩
      | true =>
        cases up with
        | false =>
          go_enter Tryz.func31, Tryz.ntmps31
          go_wp2_with (first | (go_at_call 30; refine (l2In_any _ _ _ _).mono ?_; rintro e' w' ⟨rfl, rfl⟩) | (go_at_call 80; refine (l2LeaseOk_any _ _).mono ?_; rintro e' w' ⟨rfl, rfl⟩))
          go_ret
          exact ⟨RetB.f HF.out, hb0⟩
        | true =>
          go_enter Tryz.func31, Tryz.ntmps31
          go_wp2_with (first | (go_at_call 30; refine (l2In_any _ _ _ _).mono ?_; rintro e' w' ⟨rfl, rfl⟩) | (go_at_call 80; refine (l2LeaseOk_any _ _).mono ?_; rintro e' w' ⟨rfl, rfl⟩))
          go_ret
          exact ⟨RetB.f HF.out, hb0⟩

theorem sVal_any (nu ep : Int) (up : Bool) (st le ta co lf : Int) (a : Option Addr) (b o n c : Nat) (ss : List ByteArray) (x : ByteArray) (si : Int) (w : World) (h : StrsAt w a b o n ss) :
    Calls Tryz.prog 31 #[.agg #[.int .i64 nu, .int .i64 ep, .bool up, .int .i64 st, .int .i64 le, .int .i64 ta, .int .i64 co, .int .i64 lf, .slice a n c, .string x, .int .i64 si]] w fun e' w' => RetB e' (vW nu ep up st le ta co lf ss x.size si) ∧ Below w.heap.size w w' := by
  by_cases h0 : st = 0
  · subst h0; cases up
    · exact sVal_0f nu ep le ta co lf a b o n c ss x si w h
    · exact sVal_0t nu ep le ta co lf a b o n c ss x si w h
  by_cases h1 : st = 1
  · subst h1; cases up
    · exact sVal_1f nu ep le ta co lf a b o n c ss x si w h
    · exact sVal_1t nu ep le ta co lf a b o n c ss x si w h
  by_cases h2 : st = 2
  · subst h2; cases up
    · exact sVal_2f nu ep le ta co lf a b o n c ss x si w h
    · exact sVal_2t nu ep le ta co lf a b o n c ss x si w h
  exact sVal_x nu ep up st le ta co lf a n c ss x si w (by simpa using h0) (by simpa using h1) (by simpa using h2)
end Go.Proofs.YthopfmhagddhgaaGreat

namespace Go.Proofs.YthopfmhagddhgaaGreat
open Go.RowKit

def fS : Value := .iface 192 (.agg #[])
def bS (le ta co lf : Int) (v : Value) : Value := .iface 194 (.agg #[.int .i64 le, .int .i64 ta, .int .i64 co, .int .i64 lf, v])
def tS (le ta : Int) (x : ByteArray) : Value := .iface 196 (.agg #[.int .i64 le, .int .i64 ta, .string x])

set_option maxHeartbeats 2000000 in
theorem stateOf_0 (nu ep : Int) (up : Bool) (le ta co lf : Int) (a : Option Addr) (n c : Nat) (x : ByteArray) (si : Int) (w : World) :
    Calls Tryz.prog 119 #[.agg #[.int .i64 nu, .int .i64 ep, .bool up, .int .i64 0, .int .i64 le, .int .i64 ta, .int .i64 co, .int .i64 lf, .slice a n c, .string x, .int .i64 si]] w fun e w' => e = .returned (.iface 192 (.agg #[])) ∧ w' = w.alloc (.cells #[.int .i64 nu, .int .i64 ep, .bool up, .int .i64 0, .int .i64 le, .int .i64 ta, .int .i64 co, .int .i64 lf, .slice a n c, .string x, .int .i64 si] 72) := by
  go_enter Tryz.func119, Tryz.ntmps119
  go_wp2
  go_ret
  exact ⟨rfl, rfl⟩

set_option maxHeartbeats 2000000 in
theorem stateOf_1 (nu ep : Int) (up : Bool) (le ta co lf : Int) (a : Option Addr) (n c : Nat) (x : ByteArray) (si : Int) (w : World) :
    Calls Tryz.prog 119 #[.agg #[.int .i64 nu, .int .i64 ep, .bool up, .int .i64 1, .int .i64 le, .int .i64 ta, .int .i64 co, .int .i64 lf, .slice a n c, .string x, .int .i64 si]] w fun e w' => e = .returned (.iface 194 (.agg #[.int .i64 le, .int .i64 ta, .int .i64 co, .int .i64 lf, .slice a n c])) ∧ w' = w.alloc (.cells #[.int .i64 nu, .int .i64 ep, .bool up, .int .i64 1, .int .i64 le, .int .i64 ta, .int .i64 co, .int .i64 lf, .slice a n c, .string x, .int .i64 si] 72) := by
  go_enter Tryz.func119, Tryz.ntmps119
  go_wp2
  go_ret
  exact ⟨rfl, rfl⟩

set_option maxHeartbeats 2000000 in
theorem stateOf_2 (nu ep : Int) (up : Bool) (le ta co lf : Int) (a : Option Addr) (n c : Nat) (x : ByteArray) (si : Int) (w : World) :
    Calls Tryz.prog 119 #[.agg #[.int .i64 nu, .int .i64 ep, .bool up, .int .i64 2, .int .i64 le, .int .i64 ta, .int .i64 co, .int .i64 lf, .slice a n c, .string x, .int .i64 si]] w fun e w' => e = .returned (.iface 196 (.agg #[.int .i64 le, .int .i64 ta, .string x])) ∧ w' = w.alloc (.cells #[.int .i64 nu, .int .i64 ep, .bool up, .int .i64 2, .int .i64 le, .int .i64 ta, .int .i64 co, .int .i64 lf, .slice a n c, .string x, .int .i64 si] 72) := by
  go_enter Tryz.func119, Tryz.ntmps119
  go_wp2
  go_ret
  exact ⟨rfl, rfl⟩

theorem uses_0 (w : World) : Calls Tryz.prog 165 #[.agg #[]] w fun e w' => e = .returned (.agg #[.bool false, .bool false, .bool false, .bool false, .bool false]) ∧ w' = (w.alloc (.cells #[] 192)).alloc (.cells #[.bool false, .bool false, .bool false, .bool false, .bool false] 175) := by
  go_enter Tryz.func165, Tryz.ntmps165
  go_wp2
  refine bodyPost_ret (v := .agg #[.bool false, .bool false, .bool false, .bool false, .bool false]) (by simp [results, Tryz.results165, go_sem]) rfl ⟨rfl, ?_⟩
  simp [go_sem]
theorem uses_1 (le ta co lf : Int) (v : Value) (w : World) : Calls Tryz.prog 169 #[.agg #[.int .i64 le, .int .i64 ta, .int .i64 co, .int .i64 lf, v]] w fun e w' => e = .returned (.agg #[.bool false, .bool true, .bool true, .bool false, .bool true]) ∧ w' = (w.alloc (.cells #[.int .i64 le, .int .i64 ta, .int .i64 co, .int .i64 lf, v] 194)).alloc (.cells #[.bool false, .bool true, .bool true, .bool false, .bool true] 175) := by
  go_enter Tryz.func169, Tryz.ntmps169
  go_wp2
  refine bodyPost_ret (v := .agg #[.bool false, .bool true, .bool true, .bool false, .bool true]) (by simp [results, Tryz.results169, go_sem]) rfl ⟨rfl, ?_⟩
  simp [go_sem]
theorem uses_2 (le ta : Int) (x : ByteArray) (w : World) : Calls Tryz.prog 173 #[.agg #[.int .i64 le, .int .i64 ta, .string x]] w fun e w' => e = .returned (.agg #[.bool false, .bool true, .bool true, .bool true, .bool false]) ∧ w' = (w.alloc (.cells #[.int .i64 le, .int .i64 ta, .string x] 196)).alloc (.cells #[.bool false, .bool true, .bool true, .bool true, .bool false] 175) := by
  go_enter Tryz.func173, Tryz.ntmps173
  go_wp2
  refine bodyPost_ret (v := .agg #[.bool false, .bool true, .bool true, .bool true, .bool false]) (by simp [results, Tryz.results173, go_sem]) rfl ⟨rfl, ?_⟩
  simp [go_sem]
set_option maxHeartbeats 2000000 in
theorem stateOf_x (nu ep : Int) (up : Bool) (st le ta co lf : Int) (a : Option Addr) (n c : Nat) (x : ByteArray) (si : Int) (w : World) (h0 : (st == 0) = false) (h1 : (st == 1) = false) (h2 : (st == 2) = false) :
    Calls Tryz.prog 119 #[.agg #[.int .i64 nu, .int .i64 ep, .bool up, .int .i64 st, .int .i64 le, .int .i64 ta, .int .i64 co, .int .i64 lf, .slice a n c, .string x, .int .i64 si]] w fun e w' => e = .returned .nilIface ∧ w' = w.alloc (.cells #[.int .i64 nu, .int .i64 ep, .bool up, .int .i64 st, .int .i64 le, .int .i64 ta, .int .i64 co, .int .i64 lf, .slice a n c, .string x, .int .i64 si] 72) := by
  go_enter Tryz.func119, Tryz.ntmps119
  go_wp2
  go_ret
  exact ⟨rfl, rfl⟩
theorem costHolds_t (co lf : Int) (r : Bool) (w : World) (hr : (inB co 1 20 && inB lf 1 co) = r) : Calls Tryz.prog 123 #[.int .i64 co, .int .i64 lf, .bool true] w fun e w' => e = .returned (.bool r) ∧ w' = w := by
  subst hr
  cases h1 : inB co 1 20 with
  | false =>
    go_enter Tryz.func123, Tryz.ntmps123
    go_wp2_with (go_at_call 85; refine (within_any _ _ _ _).mono ?_; rintro e w' ⟨rfl, rfl⟩)
    go_ret
    exact ⟨rfl, rfl⟩
  | true =>
    go_enter Tryz.func123, Tryz.ntmps123
    go_wp2_with (go_at_call 85; refine (within_any _ _ _ _).mono ?_; rintro e w' ⟨rfl, rfl⟩)
    go_ret
    exact ⟨rfl, rfl⟩
theorem costHolds_f (co lf : Int) (r : Bool) (w : World) (hr : ((co == 0) && (lf == 0)) = r) : Calls Tryz.prog 123 #[.int .i64 co, .int .i64 lf, .bool false] w fun e w' => e = .returned (.bool r) ∧ w' = w := by
  subst hr
  cases h1 : (co == 0) with
  | false =>
    go_enter Tryz.func123, Tryz.ntmps123
    go_wp2
    go_ret
    exact ⟨rfl, rfl⟩
  | true =>
    go_enter Tryz.func123, Tryz.ntmps123
    go_wp2
    go_ret
    exact ⟨rfl, rfl⟩
end Go.Proofs.YthopfmhagddhgaaGreat
