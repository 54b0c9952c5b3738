
/-
  Entries: what is valid (spec.l4Ok, impl.validEntry); their forms (spec.FormEntry, impl.FormEntry).
-/
import Derived.Test.YtoikcjeagigmfaaTob
import Derived.Test.YtoikcjeagigmfaaMsgV0
import Derived.Test.YtoikcjeagigmfaaCel
namespace Go.Proofs.Ytoikcjeagigmfaa
open Go.RowKit

/-- A valid entry. -/
def vE (k e d : Int) (z : Nat) : Prop := (k = 1 ∧ 1 ≤ e ∧ e ≤ 300 ∧ d = 0 ∧ z = 0) ∨ (k = 2 ∧ 1 ≤ e ∧ e ≤ 300 ∧ 0 ≤ d ∧ d ≤ 39 ∧ z = 8)
theorem sz8_t {x : ByteArray} (h : ((x.size : Int) == 8) = true) : x.size = 8 := by
  have h1 : (x.size : Int) = 8 := by simpa using h
  omega
theorem sz8_f {x : ByteArray} (h : ((x.size : Int) == 8) = false) : ¬ x.size = 8 := fun hh => by rw [hh] at h; simp at h
theorem sz0_t {x : ByteArray} (h : x.toList.isEmpty = true) : x.size = 0 := Decidable.byContradiction fun hh => by rw [empty_f hh] at h; cases h
theorem sz0_f {x : ByteArray} (h : x.toList.isEmpty = false) : ¬ x.size = 0 := fun hh => by rw [empty_t hh] at h; cases h

set_option maxRecDepth 100000 in
set_option maxHeartbeats 2000000 in
theorem l4Ok_any (k e d : Int) (x : ByteArray) (w : World) :
    Calls Try.prog 32 #[.agg #[.int .i64 k, .int .i64 e, .int .i64 d, .string x]] w fun e' w' => RetB e' (vE k e d x.size) ∧ Below w.heap.size w w' := by
  have hb0 : Below w.heap.size w (w.alloc (.cells #[.int .i64 k, .int .i64 e, .int .i64 d, .string x] 26)) := (Below.refl _ _).alloc (Nat.le_refl _) _
  cases hE : inB e 1 300 with
  | false =>
    have GhE := hid (inB_f hE)
    go_enter Try.func32, Try.ntmps32
    go_wp2_with (first | (go_at_call 53; refine (l2In_any _ _ _ _).mono ?_; rintro e' w' ⟨rfl, rfl⟩))
    go_ret
    refine ⟨RetB.f fun hv => ?_, hb0⟩; unfold vE at hv; have := GhE.out; omega
  | true =>
    have GhE := hid (inB_t hE)
    cases hD : inB d 0 39 with
    | false =>
      have GhD := hid (inB_f hD)
      go_enter Try.func32, Try.ntmps32
      go_wp2_with (first | (go_at_call 53; refine (l2In_any _ _ _ _).mono ?_; rintro e' w' ⟨rfl, rfl⟩))
      go_ret
      refine ⟨RetB.f fun hv => ?_, hb0⟩; unfold vE at hv; have := GhD.out; omega
    | true =>
      have GhD := hid (inB_t hD)
      cases hK : (k == 1) with
      | false =>
        have GhK := hid (show ¬ k = 1 by simpa using hK)
        cases hJ : (k == 2) with
        | false =>
          have GhJ := hid (show ¬ k = 2 by simpa using hJ)
          go_enter Try.func32, Try.ntmps32
          go_wp2_with (first | (go_at_call 53; refine (l2In_any _ _ _ _).mono ?_; rintro e' w' ⟨rfl, rfl⟩))
          go_ret
          refine ⟨RetB.f fun hv => ?_, hb0⟩; unfold vE at hv; have := GhK.out; have := GhJ.out; omega
        | true =>
          have GhJ := hid (show k = 2 by simpa using hJ)
          have hk := GhJ.out
          subst hk
          cases hX : ((x.size : Int) == 8) with
          | false =>
            have GhX := hid (sz8_f hX)
            go_enter Try.func32, Try.ntmps32
            go_wp2_with (first | (go_at_call 53; refine (l2In_any _ _ _ _).mono ?_; rintro e' w' ⟨rfl, rfl⟩))
            go_ret
            refine ⟨RetB.f fun hv => ?_, hb0⟩; unfold vE at hv; have := GhX.out; omega
          | true =>
            have GhX := hid (sz8_t hX)
            go_enter Try.func32, Try.ntmps32
            go_wp2_with (first | (go_at_call 53; refine (l2In_any _ _ _ _).mono ?_; rintro e' w' ⟨rfl, rfl⟩))
            go_ret
            refine ⟨RetB.t ?_, hb0⟩; unfold vE; have := GhX.out; have := GhE.out; have := GhD.out; omega
      | true =>
        have GhK := hid (show k = 1 by simpa using hK)
        have hk := GhK.out
        subst hk
        cases hZ : (d == 0) with
        | false =>
          have GhZ := hid (show ¬ d = 0 by simpa using hZ)
          go_enter Try.func32, Try.ntmps32
          go_wp2_with (first | (go_at_call 53; refine (l2In_any _ _ _ _).mono ?_; rintro e' w' ⟨rfl, rfl⟩))
          go_ret
          refine ⟨RetB.f fun hv => ?_, hb0⟩; unfold vE at hv; have := GhZ.out; omega
        | true =>
          have GhZ := hid (show d = 0 by simpa using hZ)
          have hz := GhZ.out
          subst hz
          by_cases hX : x.size = 0
          · have hX' := empty_t hX
            have GhX := hid hX
            clear hX
            go_enter Try.func32, Try.ntmps32
            go_wp2_with (first | (go_at_call 53; refine (l2In_any _ _ _ _).mono ?_; rintro e' w' ⟨rfl, rfl⟩))
            go_ret
            refine ⟨RetB.t ?_, hb0⟩; unfold vE; have := GhX.out; have := GhE.out; have := GhD.out; omega
          · have hX' := empty_f hX
            have GhX := hid hX
            clear hX
            go_enter Try.func32, Try.ntmps32
            go_wp2_with (first | (go_at_call 53; refine (l2In_any _ _ _ _).mono ?_; rintro e' w' ⟨rfl, rfl⟩))
            go_ret
            refine ⟨RetB.f fun hv => ?_, hb0⟩; unfold vE at hv; have := GhX.out; omega

set_option maxRecDepth 100000 in
set_option maxHeartbeats 2000000 in
theorem validEntry_any (k e d : Int) (x : ByteArray) (w : World) :
    Calls Try.prog 33 #[.agg #[.int .i64 k, .int .i64 e, .int .i64 d, .string x]] w fun e' w' => RetB e' (vE k e d x.size) ∧ Below w.heap.size w w' := by
  have hb0 : Below w.heap.size w (w.alloc (.cells #[.int .i64 k, .int .i64 e, .int .i64 d, .string x] 26)) := (Below.refl _ _).alloc (Nat.le_refl _) _
  cases hK : (k == 2) with
  | false =>
    have GhK := hid (show ¬ k = 2 by simpa using hK)
    cases hJ : (k == 1) with
    | false =>
      have GhJ := hid (show ¬ k = 1 by simpa using hJ)
      go_enter Try.func33, Try.ntmps33
      go_wp2_with (first | (go_at_call 53; refine (l2In_any _ _ _ _).mono ?_; rintro e' w' ⟨rfl, rfl⟩))
      go_ret
      refine ⟨RetB.f fun hv => ?_, hb0⟩; unfold vE at hv; have := GhK.out; have := GhJ.out; omega
    | true =>
      have GhJ := hid (show k = 1 by simpa using hJ)
      have hk := GhJ.out
      subst hk
      cases hE : inB e 1 300 with
      | false =>
        have GhE := hid (inB_f hE)
        go_enter Try.func33, Try.ntmps33
        go_wp2_with (first | (go_at_call 61; refine (within_any _ _ _ _).mono ?_; rintro e' w' ⟨rfl, rfl⟩) | (go_at_call 71; refine (taskHolds_f _ _ _ hD).mono ?_; rintro e' w' ⟨rfl, rfl⟩) | (go_at_call 72; refine (textHolds_f _ _ _ hX).mono ?_; rintro e' w' ⟨rfl, rfl⟩))
        go_ret
        refine ⟨RetB.f fun hv => ?_, hb0⟩; unfold vE at hv; have := GhE.out; omega
      | true =>
        have GhE := hid (inB_t hE)
        cases hD : (d == 0) with
        | false =>
          have GhD := hid (show ¬ d = 0 by simpa using hD)
          go_enter Try.func33, Try.ntmps33
          go_wp2_with (first | (go_at_call 61; refine (within_any _ _ _ _).mono ?_; rintro e' w' ⟨rfl, rfl⟩) | (go_at_call 71; refine (taskHolds_f _ _ _ hD).mono ?_; rintro e' w' ⟨rfl, rfl⟩) | (go_at_call 72; refine (textHolds_f _ _ _ hX).mono ?_; rintro e' w' ⟨rfl, rfl⟩))
          go_ret
          refine ⟨RetB.f fun hv => ?_, hb0⟩; unfold vE at hv; have := GhD.out; omega
        | true =>
          have GhD := hid (show d = 0 by simpa using hD)
          cases hX : x.toList.isEmpty with
          | false =>
            have GhX := hid (sz0_f hX)
            go_enter Try.func33, Try.ntmps33
            go_wp2_with (first | (go_at_call 61; refine (within_any _ _ _ _).mono ?_; rintro e' w' ⟨rfl, rfl⟩) | (go_at_call 71; refine (taskHolds_f _ _ _ hD).mono ?_; rintro e' w' ⟨rfl, rfl⟩) | (go_at_call 72; refine (textHolds_f _ _ _ hX).mono ?_; rintro e' w' ⟨rfl, rfl⟩))
            go_ret
            refine ⟨RetB.f fun hv => ?_, hb0⟩; unfold vE at hv; have := GhX.out; omega
          | true =>
            have GhX := hid (sz0_t hX)
            go_enter Try.func33, Try.ntmps33
            go_wp2_with (first | (go_at_call 61; refine (within_any _ _ _ _).mono ?_; rintro e' w' ⟨rfl, rfl⟩) | (go_at_call 71; refine (taskHolds_f _ _ _ hD).mono ?_; rintro e' w' ⟨rfl, rfl⟩) | (go_at_call 72; refine (textHolds_f _ _ _ hX).mono ?_; rintro e' w' ⟨rfl, rfl⟩))
            go_ret
            refine ⟨RetB.t ?_, hb0⟩; unfold vE; have := GhX.out; have := GhE.out; have := GhD.out; omega
  | true =>
    have GhK := hid (show k = 2 by simpa using hK)
    have hk := GhK.out
    subst hk
    cases hE : inB e 1 300 with
    | false =>
      have GhE := hid (inB_f hE)
      go_enter Try.func33, Try.ntmps33
      go_wp2_with (first | (go_at_call 61; refine (within_any _ _ _ _).mono ?_; rintro e' w' ⟨rfl, rfl⟩) | (go_at_call 71; refine (taskHolds_t _ _ _ hD).mono ?_; rintro e' w' ⟨rfl, rfl⟩) | (go_at_call 72; refine (textHolds_t _ _ _ hX).mono ?_; rintro e' w' ⟨rfl, rfl⟩))
      go_ret
      refine ⟨RetB.f fun hv => ?_, hb0⟩; unfold vE at hv; have := GhE.out; omega
    | true =>
      have GhE := hid (inB_t hE)
      cases hD : inB d 0 39 with
      | false =>
        have GhD := hid (inB_f hD)
        go_enter Try.func33, Try.ntmps33
        go_wp2_with (first | (go_at_call 61; refine (within_any _ _ _ _).mono ?_; rintro e' w' ⟨rfl, rfl⟩) | (go_at_call 71; refine (taskHolds_t _ _ _ hD).mono ?_; rintro e' w' ⟨rfl, rfl⟩) | (go_at_call 72; refine (textHolds_t _ _ _ hX).mono ?_; rintro e' w' ⟨rfl, rfl⟩))
        go_ret
        refine ⟨RetB.f fun hv => ?_, hb0⟩; unfold vE at hv; have := GhD.out; omega
      | true =>
        have GhD := hid (inB_t hD)
        cases hX : ((x.size : Int) == 8) with
        | false =>
          have GhX := hid (sz8_f hX)
          go_enter Try.func33, Try.ntmps33
          go_wp2_with (first | (go_at_call 61; refine (within_any _ _ _ _).mono ?_; rintro e' w' ⟨rfl, rfl⟩) | (go_at_call 71; refine (taskHolds_t _ _ _ hD).mono ?_; rintro e' w' ⟨rfl, rfl⟩) | (go_at_call 72; refine (textHolds_t _ _ _ hX).mono ?_; rintro e' w' ⟨rfl, rfl⟩))
          go_ret
          refine ⟨RetB.f fun hv => ?_, hb0⟩; unfold vE at hv; have := GhX.out; omega
        | true =>
          have GhX := hid (sz8_t hX)
          go_enter Try.func33, Try.ntmps33
          go_wp2_with (first | (go_at_call 61; refine (within_any _ _ _ _).mono ?_; rintro e' w' ⟨rfl, rfl⟩) | (go_at_call 71; refine (taskHolds_t _ _ _ hD).mono ?_; rintro e' w' ⟨rfl, rfl⟩) | (go_at_call 72; refine (textHolds_t _ _ _ hX).mono ?_; rintro e' w' ⟨rfl, rfl⟩))
          go_ret
          refine ⟨RetB.t ?_, hb0⟩; unfold vE; have := GhX.out; have := GhE.out; have := GhD.out; omega
end Go.Proofs.Ytoikcjeagigmfaa
