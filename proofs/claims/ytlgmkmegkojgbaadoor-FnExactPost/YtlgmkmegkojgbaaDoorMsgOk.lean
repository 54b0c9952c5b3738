
/-
  spec.l2Ok.
-/
import Derived.Test.YtlgmkmegkojgbaaDoorMsg
namespace Go.Proofs.YtlgmkmegkojgbaaDoor
open Go.RowKit

set_option maxRecDepth 100000 in
set_option maxHeartbeats 2000000 in
theorem l2Ok_1 (f t e l d : Int) (x : ByteArray) (a : Option Addr) (b o n c : Nat) (ss : List ByteArray) (w : World) (h : StrsAt w a b o n ss) :
    Calls Tryd.prog 36 #[.agg #[.int .i64 1, .int .i64 f, .int .i64 t, .int .i64 e, .int .i64 l, .int .i64 d, .string x, .slice a n c]] w fun e' w' => RetB e' (vM 1 f t e l d x.size ss) ∧ Below w.heap.size w w' := by
  have hb0 : Below w.heap.size w (w.alloc (.cells #[.int .i64 1, .int .i64 f, .int .i64 t, .int .i64 e, .int .i64 l, .int .i64 d, .string x, .slice a n c] 27)) := (Below.refl _ _).alloc (Nat.le_refl _) _
  have hkk : inB 1 1 5 = true := by decide
  have hmax := h.max
  have HL : Hid (ss.length = n) := h.len
  unfold maxLen at hmax
  cases hE : inB e 1 300 with
  | false =>
    have gE := inB_f hE
    go_enter Tryd.func36, Tryd.ntmps36
    go_wp2_with (first | (go_at_call 60; refine (l2In_any _ _ _ _).mono ?_; rintro e' w' ⟨rfl, rfl⟩) | (go_at_call 61; refine (l2Uses_1 _).mono ?_; rintro e' w' ⟨rfl, rfl⟩) | (go_at_call 62; refine (l2LeaseOk_any _ _).mono ?_; rintro e' w' ⟨rfl, rfl⟩))
    go_ret
    refine ⟨RetB.f fun hv => ?_, hb0⟩; have hv := (vM1 _ _ _ _ _ _ _).1 hv; omega
  | true =>
    have gE := inB_t hE
    by_cases g0 : ¬ (f = 0)
    · have g0' : (f == 0) = false := by simpa using g0
      go_enter Tryd.func36, Tryd.ntmps36
      go_wp2_with (first | (go_at_call 60; refine (l2In_any _ _ _ _).mono ?_; rintro e' w' ⟨rfl, rfl⟩) | (go_at_call 61; refine (l2Uses_1 _).mono ?_; rintro e' w' ⟨rfl, rfl⟩) | (go_at_call 62; refine (l2LeaseOk_any _ _).mono ?_; rintro e' w' ⟨rfl, rfl⟩))
      go_ret
      refine ⟨RetB.f fun hv => ?_, hb0⟩; have hv := (vM1 _ _ _ _ _ _ _).1 hv; omega
    have g0 := Decidable.of_not_not g0
    subst g0
    cases hQ : inB t 1 8 with
    | false =>
      have gQ := inB_f hQ
      go_enter Tryd.func36, Tryd.ntmps36
      go_wp2_with (first | (go_at_call 60; refine (l2In_any _ _ _ _).mono ?_; rintro e' w' ⟨rfl, rfl⟩) | (go_at_call 61; refine (l2Uses_1 _).mono ?_; rintro e' w' ⟨rfl, rfl⟩) | (go_at_call 62; refine (l2LeaseOk_any _ _).mono ?_; rintro e' w' ⟨rfl, rfl⟩))
      go_ret
      refine ⟨RetB.f fun hv => ?_, hb0⟩; have hv := (vM1 _ _ _ _ _ _ _).1 hv; omega
    | true =>
      have gQ := inB_t hQ
      cases hL : inB l 1 300000000 with
      | false =>
        have gL := inB_f hL
        go_enter Tryd.func36, Tryd.ntmps36
        go_wp2_with (first | (go_at_call 60; refine (l2In_any _ _ _ _).mono ?_; rintro e' w' ⟨rfl, rfl⟩) | (go_at_call 61; refine (l2Uses_1 _).mono ?_; rintro e' w' ⟨rfl, rfl⟩) | (go_at_call 62; refine (l2LeaseOk_any _ _).mono ?_; rintro e' w' ⟨rfl, rfl⟩))
        go_ret
        refine ⟨RetB.f fun hv => ?_, hb0⟩; have hv := (vM1 _ _ _ _ _ _ _).1 hv; omega
      | true =>
        have gL := inB_t hL
        cases hD : inB d 0 39 with
        | false =>
          have gD := inB_f hD
          go_enter Tryd.func36, Tryd.ntmps36
          go_wp2_with (first | (go_at_call 60; refine (l2In_any _ _ _ _).mono ?_; rintro e' w' ⟨rfl, rfl⟩) | (go_at_call 61; refine (l2Uses_1 _).mono ?_; rintro e' w' ⟨rfl, rfl⟩) | (go_at_call 62; refine (l2LeaseOk_any _ _).mono ?_; rintro e' w' ⟨rfl, rfl⟩))
          go_ret
          refine ⟨RetB.f fun hv => ?_, hb0⟩; have hv := (vM1 _ _ _ _ _ _ _).1 hv; omega
        | true =>
          have gD := inB_t hD
          by_cases gX : ¬ (x.size = 0)
          · have gX' := empty_f gX
            go_enter Tryd.func36, Tryd.ntmps36
            go_wp2_with (first | (go_at_call 60; refine (l2In_any _ _ _ _).mono ?_; rintro e' w' ⟨rfl, rfl⟩) | (go_at_call 61; refine (l2Uses_1 _).mono ?_; rintro e' w' ⟨rfl, rfl⟩) | (go_at_call 62; refine (l2LeaseOk_any _ _).mono ?_; rintro e' w' ⟨rfl, rfl⟩))
            go_ret
            refine ⟨RetB.f fun hv => ?_, hb0⟩; have hv := (vM1 _ _ _ _ _ _ _).1 hv; omega
          have gX := Decidable.of_not_not gX
          have gX' := empty_t gX
          have GX : Hid (x.size = 0) := gX
          clear gX
          by_cases gI : inOk ss
          · have GI : Hid (inOk ss) := gI
            go_enter Tryd.func36, Tryd.ntmps36
            go_wp2_with (first | (go_at_call 60; refine (l2In_any _ _ _ _).mono ?_; rintro e' w' ⟨rfl, rfl⟩) | (go_at_call 61; refine (l2Uses_1 _).mono ?_; rintro e' w' ⟨rfl, rfl⟩) | (go_at_call 62; refine (l2LeaseOk_any _ _).mono ?_; rintro e' w' ⟨rfl, rfl⟩) | (go_at_call 63; refine (l2InputsOk_any a b o n c ss _ (h.below' hb0)).mono ?_; rintro e' w' ⟨⟨r, rfl, hr⟩, rfl⟩; obtain rfl := hr.2 gI; clear hr))
            go_ret
            exact ⟨RetB.t ((vM1 _ _ _ _ _ _ _).2 ⟨by omega, by omega, by omega, by omega, by omega, by omega, by omega, by omega, by omega, GX.out, gI⟩), hb0⟩
          · go_enter Tryd.func36, Tryd.ntmps36
            go_wp2_with (first | (go_at_call 60; refine (l2In_any _ _ _ _).mono ?_; rintro e' w' ⟨rfl, rfl⟩) | (go_at_call 61; refine (l2Uses_1 _).mono ?_; rintro e' w' ⟨rfl, rfl⟩) | (go_at_call 62; refine (l2LeaseOk_any _ _).mono ?_; rintro e' w' ⟨rfl, rfl⟩) | (go_at_call 63; refine (l2InputsOk_any a b o n c ss _ (h.below' hb0)).mono ?_; rintro e' w' ⟨⟨r, rfl, hr⟩, rfl⟩; obtain rfl : r = false := Bool.eq_false_iff.2 (fun hb => gI (hr.1 hb)); clear hr))
            go_ret
            exact ⟨RetB.f fun hv => gI ((vM1 _ _ _ _ _ _ _).1 hv).2.2.2.2.2.2.2.2.2.2, hb0⟩

set_option maxRecDepth 100000 in
set_option maxHeartbeats 2000000 in
theorem l2Ok_2 (f t e l d : Int) (x : ByteArray) (a : Option Addr) (b o n c : Nat) (ss : List ByteArray) (w : World) (h : StrsAt w a b o n ss) :
    Calls Tryd.prog 36 #[.agg #[.int .i64 2, .int .i64 f, .int .i64 t, .int .i64 e, .int .i64 l, .int .i64 d, .string x, .slice a n c]] w fun e' w' => RetB e' (vM 2 f t e l d x.size ss) ∧ Below w.heap.size w w' := by
  have hb0 : Below w.heap.size w (w.alloc (.cells #[.int .i64 2, .int .i64 f, .int .i64 t, .int .i64 e, .int .i64 l, .int .i64 d, .string x, .slice a n c] 27)) := (Below.refl _ _).alloc (Nat.le_refl _) _
  have hkk : inB 2 1 5 = true := by decide
  have hmax := h.max
  have HL : Hid (ss.length = n) := h.len
  unfold maxLen at hmax
  cases hE : inB e 1 300 with
  | false =>
    have gE := inB_f hE
    go_enter Tryd.func36, Tryd.ntmps36
    go_wp2_with (first | (go_at_call 60; refine (l2In_any _ _ _ _).mono ?_; rintro e' w' ⟨rfl, rfl⟩) | (go_at_call 61; refine (l2Uses_2 _).mono ?_; rintro e' w' ⟨rfl, rfl⟩) | (go_at_call 62; refine (l2LeaseOk_any _ _).mono ?_; rintro e' w' ⟨rfl, rfl⟩))
    go_ret
    refine ⟨RetB.f fun hv => ?_, hb0⟩; have hv := (vM2 _ _ _ _ _ _ _).1 hv; omega
  | true =>
    have gE := inB_t hE
    by_cases g0 : ¬ (t = 0)
    · have g0' : (t == 0) = false := by simpa using g0
      go_enter Tryd.func36, Tryd.ntmps36
      go_wp2_with (first | (go_at_call 60; refine (l2In_any _ _ _ _).mono ?_; rintro e' w' ⟨rfl, rfl⟩) | (go_at_call 61; refine (l2Uses_2 _).mono ?_; rintro e' w' ⟨rfl, rfl⟩) | (go_at_call 62; refine (l2LeaseOk_any _ _).mono ?_; rintro e' w' ⟨rfl, rfl⟩))
      go_ret
      refine ⟨RetB.f fun hv => ?_, hb0⟩; have hv := (vM2 _ _ _ _ _ _ _).1 hv; omega
    have g0 := Decidable.of_not_not g0
    subst g0
    cases hQ : inB f 1 8 with
    | false =>
      have gQ := inB_f hQ
      go_enter Tryd.func36, Tryd.ntmps36
      go_wp2_with (first | (go_at_call 60; refine (l2In_any _ _ _ _).mono ?_; rintro e' w' ⟨rfl, rfl⟩) | (go_at_call 61; refine (l2Uses_2 _).mono ?_; rintro e' w' ⟨rfl, rfl⟩) | (go_at_call 62; refine (l2LeaseOk_any _ _).mono ?_; rintro e' w' ⟨rfl, rfl⟩))
      go_ret
      refine ⟨RetB.f fun hv => ?_, hb0⟩; have hv := (vM2 _ _ _ _ _ _ _).1 hv; omega
    | true =>
      have gQ := inB_t hQ
      cases hL : inB l 1 300000000 with
      | false =>
        have gL := inB_f hL
        go_enter Tryd.func36, Tryd.ntmps36
        go_wp2_with (first | (go_at_call 60; refine (l2In_any _ _ _ _).mono ?_; rintro e' w' ⟨rfl, rfl⟩) | (go_at_call 61; refine (l2Uses_2 _).mono ?_; rintro e' w' ⟨rfl, rfl⟩) | (go_at_call 62; refine (l2LeaseOk_any _ _).mono ?_; rintro e' w' ⟨rfl, rfl⟩))
        go_ret
        refine ⟨RetB.f fun hv => ?_, hb0⟩; have hv := (vM2 _ _ _ _ _ _ _).1 hv; omega
      | true =>
        have gL := inB_t hL
        by_cases gD : ¬ (d = 0)
        · have gD' : (d == 0) = false := by simpa using gD
          go_enter Tryd.func36, Tryd.ntmps36
          go_wp2_with (first | (go_at_call 60; refine (l2In_any _ _ _ _).mono ?_; rintro e' w' ⟨rfl, rfl⟩) | (go_at_call 61; refine (l2Uses_2 _).mono ?_; rintro e' w' ⟨rfl, rfl⟩) | (go_at_call 62; refine (l2LeaseOk_any _ _).mono ?_; rintro e' w' ⟨rfl, rfl⟩))
          go_ret
          refine ⟨RetB.f fun hv => ?_, hb0⟩; have hv := (vM2 _ _ _ _ _ _ _).1 hv; omega
        have gD := Decidable.of_not_not gD
        subst gD
        by_cases gX : ¬ (x.size = 0)
        · have gX' := empty_f gX
          go_enter Tryd.func36, Tryd.ntmps36
          go_wp2_with (first | (go_at_call 60; refine (l2In_any _ _ _ _).mono ?_; rintro e' w' ⟨rfl, rfl⟩) | (go_at_call 61; refine (l2Uses_2 _).mono ?_; rintro e' w' ⟨rfl, rfl⟩) | (go_at_call 62; refine (l2LeaseOk_any _ _).mono ?_; rintro e' w' ⟨rfl, rfl⟩))
          go_ret
          refine ⟨RetB.f fun hv => ?_, hb0⟩; have hv := (vM2 _ _ _ _ _ _ _).1 hv; omega
        have gX := Decidable.of_not_not gX
        have gX' := empty_t gX
        have GX : Hid (x.size = 0) := gX
        clear gX
        by_cases gN : ¬ (n = 0)
        · have gN' : ((n : Int) == 0) = false := by simp; omega
          go_enter Tryd.func36, Tryd.ntmps36
          go_wp2_with (first | (go_at_call 60; refine (l2In_any _ _ _ _).mono ?_; rintro e' w' ⟨rfl, rfl⟩) | (go_at_call 61; refine (l2Uses_2 _).mono ?_; rintro e' w' ⟨rfl, rfl⟩) | (go_at_call 62; refine (l2LeaseOk_any _ _).mono ?_; rintro e' w' ⟨rfl, rfl⟩))
          go_ret
          refine ⟨RetB.f fun hv => ?_, hb0⟩; have hv := (vM2 _ _ _ _ _ _ _).1 hv; rw [HL.out] at hv; omega
        have gN := Decidable.of_not_not gN
        have gN' : ((n : Int) == 0) = true := by simp; omega
        have GN : Hid (n = 0) := gN
        clear gN
        go_enter Tryd.func36, Tryd.ntmps36
        go_wp2_with (first | (go_at_call 60; refine (l2In_any _ _ _ _).mono ?_; rintro e' w' ⟨rfl, rfl⟩) | (go_at_call 61; refine (l2Uses_2 _).mono ?_; rintro e' w' ⟨rfl, rfl⟩) | (go_at_call 62; refine (l2LeaseOk_any _ _).mono ?_; rintro e' w' ⟨rfl, rfl⟩))
        go_ret
        refine ⟨RetB.t ?_, hb0⟩; rw [vM2, HL.out]; have := GX.out; have := GN.out; omega

set_option maxRecDepth 100000 in
set_option maxHeartbeats 2000000 in
theorem l2Ok_3 (f t e l d : Int) (x : ByteArray) (a : Option Addr) (b o n c : Nat) (ss : List ByteArray) (w : World) (h : StrsAt w a b o n ss) :
    Calls Tryd.prog 36 #[.agg #[.int .i64 3, .int .i64 f, .int .i64 t, .int .i64 e, .int .i64 l, .int .i64 d, .string x, .slice a n c]] w fun e' w' => RetB e' (vM 3 f t e l d x.size ss) ∧ Below w.heap.size w w' := by
  have hb0 : Below w.heap.size w (w.alloc (.cells #[.int .i64 3, .int .i64 f, .int .i64 t, .int .i64 e, .int .i64 l, .int .i64 d, .string x, .slice a n c] 27)) := (Below.refl _ _).alloc (Nat.le_refl _) _
  have hkk : inB 3 1 5 = true := by decide
  have hmax := h.max
  have HL : Hid (ss.length = n) := h.len
  unfold maxLen at hmax
  cases hE : inB e 1 300 with
  | false =>
    have gE := inB_f hE
    go_enter Tryd.func36, Tryd.ntmps36
    go_wp2_with (first | (go_at_call 60; refine (l2In_any _ _ _ _).mono ?_; rintro e' w' ⟨rfl, rfl⟩) | (go_at_call 61; refine (l2Uses_3 _).mono ?_; rintro e' w' ⟨rfl, rfl⟩) | (go_at_call 62; refine (l2LeaseOk_any _ _).mono ?_; rintro e' w' ⟨rfl, rfl⟩))
    go_ret
    refine ⟨RetB.f fun hv => ?_, hb0⟩; have hv := (vM3 _ _ _ _ _ _ _).1 hv; omega
  | true =>
    have gE := inB_t hE
    by_cases g0 : ¬ (t = 0)
    · have g0' : (t == 0) = false := by simpa using g0
      go_enter Tryd.func36, Tryd.ntmps36
      go_wp2_with (first | (go_at_call 60; refine (l2In_any _ _ _ _).mono ?_; rintro e' w' ⟨rfl, rfl⟩) | (go_at_call 61; refine (l2Uses_3 _).mono ?_; rintro e' w' ⟨rfl, rfl⟩) | (go_at_call 62; refine (l2LeaseOk_any _ _).mono ?_; rintro e' w' ⟨rfl, rfl⟩))
      go_ret
      refine ⟨RetB.f fun hv => ?_, hb0⟩; have hv := (vM3 _ _ _ _ _ _ _).1 hv; omega
    have g0 := Decidable.of_not_not g0
    subst g0
    cases hQ : inB f 1 8 with
    | false =>
      have gQ := inB_f hQ
      go_enter Tryd.func36, Tryd.ntmps36
      go_wp2_with (first | (go_at_call 60; refine (l2In_any _ _ _ _).mono ?_; rintro e' w' ⟨rfl, rfl⟩) | (go_at_call 61; refine (l2Uses_3 _).mono ?_; rintro e' w' ⟨rfl, rfl⟩) | (go_at_call 62; refine (l2LeaseOk_any _ _).mono ?_; rintro e' w' ⟨rfl, rfl⟩))
      go_ret
      refine ⟨RetB.f fun hv => ?_, hb0⟩; have hv := (vM3 _ _ _ _ _ _ _).1 hv; omega
    | true =>
      have gQ := inB_t hQ
      cases hL : inB l 1 300000000 with
      | false =>
        have gL := inB_f hL
        go_enter Tryd.func36, Tryd.ntmps36
        go_wp2_with (first | (go_at_call 60; refine (l2In_any _ _ _ _).mono ?_; rintro e' w' ⟨rfl, rfl⟩) | (go_at_call 61; refine (l2Uses_3 _).mono ?_; rintro e' w' ⟨rfl, rfl⟩) | (go_at_call 62; refine (l2LeaseOk_any _ _).mono ?_; rintro e' w' ⟨rfl, rfl⟩))
        go_ret
        refine ⟨RetB.f fun hv => ?_, hb0⟩; have hv := (vM3 _ _ _ _ _ _ _).1 hv; omega
      | true =>
        have gL := inB_t hL
        cases hD : inB d 0 39 with
        | false =>
          have gD := inB_f hD
          go_enter Tryd.func36, Tryd.ntmps36
          go_wp2_with (first | (go_at_call 60; refine (l2In_any _ _ _ _).mono ?_; rintro e' w' ⟨rfl, rfl⟩) | (go_at_call 61; refine (l2Uses_3 _).mono ?_; rintro e' w' ⟨rfl, rfl⟩) | (go_at_call 62; refine (l2LeaseOk_any _ _).mono ?_; rintro e' w' ⟨rfl, rfl⟩))
          go_ret
          refine ⟨RetB.f fun hv => ?_, hb0⟩; have hv := (vM3 _ _ _ _ _ _ _).1 hv; omega
        | true =>
          have gD := inB_t hD
          by_cases gX : ¬ (x.size = 8)
          · have gX' : ((x.size : Int) == 8) = false := by simp; omega
            go_enter Tryd.func36, Tryd.ntmps36
            go_wp2_with (first | (go_at_call 60; refine (l2In_any _ _ _ _).mono ?_; rintro e' w' ⟨rfl, rfl⟩) | (go_at_call 61; refine (l2Uses_3 _).mono ?_; rintro e' w' ⟨rfl, rfl⟩) | (go_at_call 62; refine (l2LeaseOk_any _ _).mono ?_; rintro e' w' ⟨rfl, rfl⟩))
            go_ret
            refine ⟨RetB.f fun hv => ?_, hb0⟩; have hv := (vM3 _ _ _ _ _ _ _).1 hv; omega
          have gX := Decidable.of_not_not gX
          have gX' : ((x.size : Int) == 8) = true := by simp; omega
          have GX : Hid (x.size = 8) := gX
          clear gX
          by_cases gN : ¬ (n = 0)
          · have gN' : ((n : Int) == 0) = false := by simp; omega
            go_enter Tryd.func36, Tryd.ntmps36
            go_wp2_with (first | (go_at_call 60; refine (l2In_any _ _ _ _).mono ?_; rintro e' w' ⟨rfl, rfl⟩) | (go_at_call 61; refine (l2Uses_3 _).mono ?_; rintro e' w' ⟨rfl, rfl⟩) | (go_at_call 62; refine (l2LeaseOk_any _ _).mono ?_; rintro e' w' ⟨rfl, rfl⟩))
            go_ret
            refine ⟨RetB.f fun hv => ?_, hb0⟩; have hv := (vM3 _ _ _ _ _ _ _).1 hv; rw [HL.out] at hv; omega
          have gN := Decidable.of_not_not gN
          have gN' : ((n : Int) == 0) = true := by simp; omega
          have GN : Hid (n = 0) := gN
          clear gN
          go_enter Tryd.func36, Tryd.ntmps36
          go_wp2_with (first | (go_at_call 60; refine (l2In_any _ _ _ _).mono ?_; rintro e' w' ⟨rfl, rfl⟩) | (go_at_call 61; refine (l2Uses_3 _).mono ?_; rintro e' w' ⟨rfl, rfl⟩) | (go_at_call 62; refine (l2LeaseOk_any _ _).mono ?_; rintro e' w' ⟨rfl, rfl⟩))
          go_ret
          refine ⟨RetB.t ?_, hb0⟩; rw [vM3, HL.out]; have := GX.out; have := GN.out; omega

set_option maxRecDepth 100000 in
set_option maxHeartbeats 2000000 in
theorem l2Ok_4 (f t e l d : Int) (x : ByteArray) (a : Option Addr) (b o n c : Nat) (ss : List ByteArray) (w : World) (h : StrsAt w a b o n ss) :
    Calls Tryd.prog 36 #[.agg #[.int .i64 4, .int .i64 f, .int .i64 t, .int .i64 e, .int .i64 l, .int .i64 d, .string x, .slice a n c]] w fun e' w' => RetB e' (vM 4 f t e l d x.size ss) ∧ Below w.heap.size w w' := by
  have hb0 : Below w.heap.size w (w.alloc (.cells #[.int .i64 4, .int .i64 f, .int .i64 t, .int .i64 e, .int .i64 l, .int .i64 d, .string x, .slice a n c] 27)) := (Below.refl _ _).alloc (Nat.le_refl _) _
  have hkk : inB 4 1 5 = true := by decide
  have hmax := h.max
  have HL : Hid (ss.length = n) := h.len
  unfold maxLen at hmax
  cases hE : inB e 1 300 with
  | false =>
    have gE := inB_f hE
    go_enter Tryd.func36, Tryd.ntmps36
    go_wp2_with (first | (go_at_call 60; refine (l2In_any _ _ _ _).mono ?_; rintro e' w' ⟨rfl, rfl⟩) | (go_at_call 61; refine (l2Uses_4 _).mono ?_; rintro e' w' ⟨rfl, rfl⟩) | (go_at_call 62; refine (l2LeaseOk_any _ _).mono ?_; rintro e' w' ⟨rfl, rfl⟩))
    go_ret
    refine ⟨RetB.f fun hv => ?_, hb0⟩; have hv := (vM4 _ _ _ _ _ _ _).1 hv; omega
  | true =>
    have gE := inB_t hE
    by_cases g0 : ¬ (f = 0)
    · have g0' : (f == 0) = false := by simpa using g0
      go_enter Tryd.func36, Tryd.ntmps36
      go_wp2_with (first | (go_at_call 60; refine (l2In_any _ _ _ _).mono ?_; rintro e' w' ⟨rfl, rfl⟩) | (go_at_call 61; refine (l2Uses_4 _).mono ?_; rintro e' w' ⟨rfl, rfl⟩) | (go_at_call 62; refine (l2LeaseOk_any _ _).mono ?_; rintro e' w' ⟨rfl, rfl⟩))
      go_ret
      refine ⟨RetB.f fun hv => ?_, hb0⟩; have hv := (vM4 _ _ _ _ _ _ _).1 hv; omega
    have g0 := Decidable.of_not_not g0
    subst g0
    cases hQ : inB t 1 8 with
    | false =>
      have gQ := inB_f hQ
      go_enter Tryd.func36, Tryd.ntmps36
      go_wp2_with (first | (go_at_call 60; refine (l2In_any _ _ _ _).mono ?_; rintro e' w' ⟨rfl, rfl⟩) | (go_at_call 61; refine (l2Uses_4 _).mono ?_; rintro e' w' ⟨rfl, rfl⟩) | (go_at_call 62; refine (l2LeaseOk_any _ _).mono ?_; rintro e' w' ⟨rfl, rfl⟩))
      go_ret
      refine ⟨RetB.f fun hv => ?_, hb0⟩; have hv := (vM4 _ _ _ _ _ _ _).1 hv; omega
    | true =>
      have gQ := inB_t hQ
      cases hL : inB l 1 300000000 with
      | false =>
        have gL := inB_f hL
        go_enter Tryd.func36, Tryd.ntmps36
        go_wp2_with (first | (go_at_call 60; refine (l2In_any _ _ _ _).mono ?_; rintro e' w' ⟨rfl, rfl⟩) | (go_at_call 61; refine (l2Uses_4 _).mono ?_; rintro e' w' ⟨rfl, rfl⟩) | (go_at_call 62; refine (l2LeaseOk_any _ _).mono ?_; rintro e' w' ⟨rfl, rfl⟩))
        go_ret
        refine ⟨RetB.f fun hv => ?_, hb0⟩; have hv := (vM4 _ _ _ _ _ _ _).1 hv; omega
      | true =>
        have gL := inB_t hL
        by_cases gD : ¬ (d = 0)
        · have gD' : (d == 0) = false := by simpa using gD
          go_enter Tryd.func36, Tryd.ntmps36
          go_wp2_with (first | (go_at_call 60; refine (l2In_any _ _ _ _).mono ?_; rintro e' w' ⟨rfl, rfl⟩) | (go_at_call 61; refine (l2Uses_4 _).mono ?_; rintro e' w' ⟨rfl, rfl⟩) | (go_at_call 62; refine (l2LeaseOk_any _ _).mono ?_; rintro e' w' ⟨rfl, rfl⟩))
          go_ret
          refine ⟨RetB.f fun hv => ?_, hb0⟩; have hv := (vM4 _ _ _ _ _ _ _).1 hv; omega
        have gD := Decidable.of_not_not gD
        subst gD
        by_cases gX : ¬ (x.size = 0)
        · have gX' := empty_f gX
          go_enter Tryd.func36, Tryd.ntmps36
          go_wp2_with (first | (go_at_call 60; refine (l2In_any _ _ _ _).mono ?_; rintro e' w' ⟨rfl, rfl⟩) | (go_at_call 61; refine (l2Uses_4 _).mono ?_; rintro e' w' ⟨rfl, rfl⟩) | (go_at_call 62; refine (l2LeaseOk_any _ _).mono ?_; rintro e' w' ⟨rfl, rfl⟩))
          go_ret
          refine ⟨RetB.f fun hv => ?_, hb0⟩; have hv := (vM4 _ _ _ _ _ _ _).1 hv; omega
        have gX := Decidable.of_not_not gX
        have gX' := empty_t gX
        have GX : Hid (x.size = 0) := gX
        clear gX
        by_cases gN : ¬ (n = 0)
        · have gN' : ((n : Int) == 0) = false := by simp; omega
          go_enter Tryd.func36, Tryd.ntmps36
          go_wp2_with (first | (go_at_call 60; refine (l2In_any _ _ _ _).mono ?_; rintro e' w' ⟨rfl, rfl⟩) | (go_at_call 61; refine (l2Uses_4 _).mono ?_; rintro e' w' ⟨rfl, rfl⟩) | (go_at_call 62; refine (l2LeaseOk_any _ _).mono ?_; rintro e' w' ⟨rfl, rfl⟩))
          go_ret
          refine ⟨RetB.f fun hv => ?_, hb0⟩; have hv := (vM4 _ _ _ _ _ _ _).1 hv; rw [HL.out] at hv; omega
        have gN := Decidable.of_not_not gN
        have gN' : ((n : Int) == 0) = true := by simp; omega
        have GN : Hid (n = 0) := gN
        clear gN
        go_enter Tryd.func36, Tryd.ntmps36
        go_wp2_with (first | (go_at_call 60; refine (l2In_any _ _ _ _).mono ?_; rintro e' w' ⟨rfl, rfl⟩) | (go_at_call 61; refine (l2Uses_4 _).mono ?_; rintro e' w' ⟨rfl, rfl⟩) | (go_at_call 62; refine (l2LeaseOk_any _ _).mono ?_; rintro e' w' ⟨rfl, rfl⟩))
        go_ret
        refine ⟨RetB.t ?_, hb0⟩; rw [vM4, HL.out]; have := GX.out; have := GN.out; omega

set_option maxRecDepth 100000 in
set_option maxHeartbeats 2000000 in
theorem l2Ok_5 (f t e l d : Int) (x : ByteArray) (a : Option Addr) (b o n c : Nat) (ss : List ByteArray) (w : World) (h : StrsAt w a b o n ss) :
    Calls Tryd.prog 36 #[.agg #[.int .i64 5, .int .i64 f, .int .i64 t, .int .i64 e, .int .i64 l, .int .i64 d, .string x, .slice a n c]] w fun e' w' => RetB e' (vM 5 f t e l d x.size ss) ∧ Below w.heap.size w w' := by
  have hb0 : Below w.heap.size w (w.alloc (.cells #[.int .i64 5, .int .i64 f, .int .i64 t, .int .i64 e, .int .i64 l, .int .i64 d, .string x, .slice a n c] 27)) := (Below.refl _ _).alloc (Nat.le_refl _) _
  have hkk : inB 5 1 5 = true := by decide
  have hmax := h.max
  have HL : Hid (ss.length = n) := h.len
  unfold maxLen at hmax
  cases hE : inB e 1 300 with
  | false =>
    have gE := inB_f hE
    go_enter Tryd.func36, Tryd.ntmps36
    go_wp2_with (first | (go_at_call 60; refine (l2In_any _ _ _ _).mono ?_; rintro e' w' ⟨rfl, rfl⟩) | (go_at_call 61; refine (l2Uses_5 _).mono ?_; rintro e' w' ⟨rfl, rfl⟩) | (go_at_call 62; refine (l2LeaseOk_any _ _).mono ?_; rintro e' w' ⟨rfl, rfl⟩))
    go_ret
    refine ⟨RetB.f fun hv => ?_, hb0⟩; have hv := (vM5 _ _ _ _ _ _ _).1 hv; omega
  | true =>
    have gE := inB_t hE
    by_cases g0 : ¬ (t = 0)
    · have g0' : (t == 0) = false := by simpa using g0
      go_enter Tryd.func36, Tryd.ntmps36
      go_wp2_with (first | (go_at_call 60; refine (l2In_any _ _ _ _).mono ?_; rintro e' w' ⟨rfl, rfl⟩) | (go_at_call 61; refine (l2Uses_5 _).mono ?_; rintro e' w' ⟨rfl, rfl⟩) | (go_at_call 62; refine (l2LeaseOk_any _ _).mono ?_; rintro e' w' ⟨rfl, rfl⟩))
      go_ret
      refine ⟨RetB.f fun hv => ?_, hb0⟩; have hv := (vM5 _ _ _ _ _ _ _).1 hv; omega
    have g0 := Decidable.of_not_not g0
    subst g0
    cases hQ : inB f 1 8 with
    | false =>
      have gQ := inB_f hQ
      go_enter Tryd.func36, Tryd.ntmps36
      go_wp2_with (first | (go_at_call 60; refine (l2In_any _ _ _ _).mono ?_; rintro e' w' ⟨rfl, rfl⟩) | (go_at_call 61; refine (l2Uses_5 _).mono ?_; rintro e' w' ⟨rfl, rfl⟩) | (go_at_call 62; refine (l2LeaseOk_any _ _).mono ?_; rintro e' w' ⟨rfl, rfl⟩))
      go_ret
      refine ⟨RetB.f fun hv => ?_, hb0⟩; have hv := (vM5 _ _ _ _ _ _ _).1 hv; omega
    | true =>
      have gQ := inB_t hQ
      by_cases gL : ¬ (l = 0)
      · have gL' : (l == 0) = false := by simpa using gL
        go_enter Tryd.func36, Tryd.ntmps36
        go_wp2_with (first | (go_at_call 60; refine (l2In_any _ _ _ _).mono ?_; rintro e' w' ⟨rfl, rfl⟩) | (go_at_call 61; refine (l2Uses_5 _).mono ?_; rintro e' w' ⟨rfl, rfl⟩) | (go_at_call 62; refine (l2LeaseOk_any _ _).mono ?_; rintro e' w' ⟨rfl, rfl⟩))
        go_ret
        refine ⟨RetB.f fun hv => ?_, hb0⟩; have hv := (vM5 _ _ _ _ _ _ _).1 hv; omega
      have gL := Decidable.of_not_not gL
      subst gL
      by_cases gD : ¬ (d = 0)
      · have gD' : (d == 0) = false := by simpa using gD
        go_enter Tryd.func36, Tryd.ntmps36
        go_wp2_with (first | (go_at_call 60; refine (l2In_any _ _ _ _).mono ?_; rintro e' w' ⟨rfl, rfl⟩) | (go_at_call 61; refine (l2Uses_5 _).mono ?_; rintro e' w' ⟨rfl, rfl⟩) | (go_at_call 62; refine (l2LeaseOk_any _ _).mono ?_; rintro e' w' ⟨rfl, rfl⟩))
        go_ret
        refine ⟨RetB.f fun hv => ?_, hb0⟩; have hv := (vM5 _ _ _ _ _ _ _).1 hv; omega
      have gD := Decidable.of_not_not gD
      subst gD
      by_cases gX : ¬ (x.size = 0)
      · have gX' := empty_f gX
        go_enter Tryd.func36, Tryd.ntmps36
        go_wp2_with (first | (go_at_call 60; refine (l2In_any _ _ _ _).mono ?_; rintro e' w' ⟨rfl, rfl⟩) | (go_at_call 61; refine (l2Uses_5 _).mono ?_; rintro e' w' ⟨rfl, rfl⟩) | (go_at_call 62; refine (l2LeaseOk_any _ _).mono ?_; rintro e' w' ⟨rfl, rfl⟩))
        go_ret
        refine ⟨RetB.f fun hv => ?_, hb0⟩; have hv := (vM5 _ _ _ _ _ _ _).1 hv; omega
      have gX := Decidable.of_not_not gX
      have gX' := empty_t gX
      have GX : Hid (x.size = 0) := gX
      clear gX
      by_cases gN : ¬ (n = 0)
      · have gN' : ((n : Int) == 0) = false := by simp; omega
        go_enter Tryd.func36, Tryd.ntmps36
        go_wp2_with (first | (go_at_call 60; refine (l2In_any _ _ _ _).mono ?_; rintro e' w' ⟨rfl, rfl⟩) | (go_at_call 61; refine (l2Uses_5 _).mono ?_; rintro e' w' ⟨rfl, rfl⟩) | (go_at_call 62; refine (l2LeaseOk_any _ _).mono ?_; rintro e' w' ⟨rfl, rfl⟩))
        go_ret
        refine ⟨RetB.f fun hv => ?_, hb0⟩; have hv := (vM5 _ _ _ _ _ _ _).1 hv; rw [HL.out] at hv; omega
      have gN := Decidable.of_not_not gN
      have gN' : ((n : Int) == 0) = true := by simp; omega
      have GN : Hid (n = 0) := gN
      clear gN
      go_enter Tryd.func36, Tryd.ntmps36
      go_wp2_with (first | (go_at_call 60; refine (l2In_any _ _ _ _).mono ?_; rintro e' w' ⟨rfl, rfl⟩) | (go_at_call 61; refine (l2Uses_5 _).mono ?_; rintro e' w' ⟨rfl, rfl⟩) | (go_at_call 62; refine (l2LeaseOk_any _ _).mono ?_; rintro e' w' ⟨rfl, rfl⟩))
      go_ret
      refine ⟨RetB.t ?_, hb0⟩; rw [vM5, HL.out]; have := GX.out; have := GN.out; omega
end Go.Proofs.YtlgmkmegkojgbaaDoor
