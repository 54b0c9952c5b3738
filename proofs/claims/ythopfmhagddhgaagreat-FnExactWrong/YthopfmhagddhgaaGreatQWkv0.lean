import Derived.Test.YthopfmhagddhgaaGreatQWki
import Derived.Deep.DeepCutAuto
namespace Go.Proofs.YthopfmhagddhgaaGreat
open Go.RowKit

set_option maxRecDepth 100000 in
set_option maxHeartbeats 4000000 in
theorem iVal_0 (nu ep : Int) (up : Bool) (le ta co lf : Int) (a : Option Addr) (b o n c : Nat) (ss : List ByteArray) (x : ByteArray) (si : Int) (w : World) (h : StrsAt w a b o n ss) :
    Calls Tryz.prog 91 #[.agg #[.int .i64 nu, .int .i64 ep, .bool up, .int .i64 0, .int .i64 le, .int .i64 ta, .int .i64 co, .int .i64 lf, .slice a n c, .string x, .int .i64 si]] w fun e' w' => RetB e' (vW nu ep up 0 le ta co lf ss x.size si) ∧ Below w.heap.size w w' := by
  have HL : Hid (ss.length = n) := h.len
  have hmax := h.max
  unfold maxLen at hmax
  cases hN : inB nu 1 8 with
  | false =>
    have gN := inB_f hN
    have GN := hid gN
    clear gN
    go_enter Tryz.func91, Tryz.ntmps91
    go_upto_region 5 with (first | (go_at_call 165; refine (uses_0 _).mono ?_; rintro e' w' ⟨rfl, rfl⟩) | (go_at_call 119; refine (stateOf_0 _ _ _ _ _ _ _ _ _ _ _ _ _).mono ?_; rintro e' w' ⟨rfl, rfl⟩) | (go_at_call 85; refine (within_any _ _ _ _).mono ?_; rintro e' w' ⟨rfl, rfl⟩) | (go_at_call 118; refine (leaseHolds_f _ _ _ hL).mono ?_; rintro e' w' ⟨rfl, rfl⟩) | (go_at_call 120; refine (taskHolds_f _ _ _ hT).mono ?_; rintro e' w' ⟨rfl, rfl⟩) | (go_at_call 121; refine (textHolds_f _ _ _ hX).mono ?_; rintro e' w' ⟨rfl, rfl⟩) | (go_at_call 123; refine (costHolds_f _ _ _ _ hC).mono ?_; rintro e' w' ⟨rfl, rfl⟩) | (go_at_call 122; refine (inputsHold_f a n c _ _ hI).mono ?_; rintro e' w' ⟨rfl, rfl⟩))
    simp only [List.append_eq, List.cons_append, List.nil_append]
    go_wp2_with (first | (go_at_call 165; refine (uses_0 _).mono ?_; rintro e' w' ⟨rfl, rfl⟩) | (go_at_call 119; refine (stateOf_0 _ _ _ _ _ _ _ _ _ _ _ _ _).mono ?_; rintro e' w' ⟨rfl, rfl⟩) | (go_at_call 85; refine (within_any _ _ _ _).mono ?_; rintro e' w' ⟨rfl, rfl⟩) | (go_at_call 118; refine (leaseHolds_f _ _ _ hL).mono ?_; rintro e' w' ⟨rfl, rfl⟩) | (go_at_call 120; refine (taskHolds_f _ _ _ hT).mono ?_; rintro e' w' ⟨rfl, rfl⟩) | (go_at_call 121; refine (textHolds_f _ _ _ hX).mono ?_; rintro e' w' ⟨rfl, rfl⟩) | (go_at_call 123; refine (costHolds_f _ _ _ _ hC).mono ?_; rintro e' w' ⟨rfl, rfl⟩) | (go_at_call 122; refine (inputsHold_f a n c _ _ hI).mono ?_; rintro e' w' ⟨rfl, rfl⟩))
    go_ret
    refine ⟨RetB.f fun hv => ?_, (by repeat (first | exact Below.refl _ _ | refine Below.alloc ?_ (by simp <;> omega) _ | refine Below.drew ?_))⟩; have hv := (vW0 _ _ _ _ _ _ _ _ _ _).1 hv; obtain ⟨⟨v1, v2, v3, v4, v5, v6, v7⟩, v8⟩ := hv; clear v7; have := GN.out; have := HL.out; omega
  | true =>
    have gN := inB_t hN
    have GN := hid gN
    clear gN
    cases hE : inB ep 1 300 with
    | false =>
      have gE := inB_f hE
      have GE := hid gE
      clear gE
      go_enter Tryz.func91, Tryz.ntmps91
      go_upto_region 5 with (first | (go_at_call 165; refine (uses_0 _).mono ?_; rintro e' w' ⟨rfl, rfl⟩) | (go_at_call 119; refine (stateOf_0 _ _ _ _ _ _ _ _ _ _ _ _ _).mono ?_; rintro e' w' ⟨rfl, rfl⟩) | (go_at_call 85; refine (within_any _ _ _ _).mono ?_; rintro e' w' ⟨rfl, rfl⟩) | (go_at_call 118; refine (leaseHolds_f _ _ _ hL).mono ?_; rintro e' w' ⟨rfl, rfl⟩) | (go_at_call 120; refine (taskHolds_f _ _ _ hT).mono ?_; rintro e' w' ⟨rfl, rfl⟩) | (go_at_call 121; refine (textHolds_f _ _ _ hX).mono ?_; rintro e' w' ⟨rfl, rfl⟩) | (go_at_call 123; refine (costHolds_f _ _ _ _ hC).mono ?_; rintro e' w' ⟨rfl, rfl⟩) | (go_at_call 122; refine (inputsHold_f a n c _ _ hI).mono ?_; rintro e' w' ⟨rfl, rfl⟩))
      simp only [List.append_eq, List.cons_append, List.nil_append]
      go_wp2_with (first | (go_at_call 165; refine (uses_0 _).mono ?_; rintro e' w' ⟨rfl, rfl⟩) | (go_at_call 119; refine (stateOf_0 _ _ _ _ _ _ _ _ _ _ _ _ _).mono ?_; rintro e' w' ⟨rfl, rfl⟩) | (go_at_call 85; refine (within_any _ _ _ _).mono ?_; rintro e' w' ⟨rfl, rfl⟩) | (go_at_call 118; refine (leaseHolds_f _ _ _ hL).mono ?_; rintro e' w' ⟨rfl, rfl⟩) | (go_at_call 120; refine (taskHolds_f _ _ _ hT).mono ?_; rintro e' w' ⟨rfl, rfl⟩) | (go_at_call 121; refine (textHolds_f _ _ _ hX).mono ?_; rintro e' w' ⟨rfl, rfl⟩) | (go_at_call 123; refine (costHolds_f _ _ _ _ hC).mono ?_; rintro e' w' ⟨rfl, rfl⟩) | (go_at_call 122; refine (inputsHold_f a n c _ _ hI).mono ?_; rintro e' w' ⟨rfl, rfl⟩))
      go_ret
      refine ⟨RetB.f fun hv => ?_, (by repeat (first | exact Below.refl _ _ | refine Below.alloc ?_ (by simp <;> omega) _ | refine Below.drew ?_))⟩; have hv := (vW0 _ _ _ _ _ _ _ _ _ _).1 hv; obtain ⟨⟨v1, v2, v3, v4, v5, v6, v7⟩, v8⟩ := hv; clear v7; have := GE.out; have := HL.out; omega
    | true =>
      have gE := inB_t hE
      have GE := hid gE
      clear gE
      cases hS : inB si 0 1000000 with
      | false =>
        have gS := inB_f hS
        have GS := hid gS
        clear gS
        go_enter Tryz.func91, Tryz.ntmps91
        go_upto_region 5 with (first | (go_at_call 165; refine (uses_0 _).mono ?_; rintro e' w' ⟨rfl, rfl⟩) | (go_at_call 119; refine (stateOf_0 _ _ _ _ _ _ _ _ _ _ _ _ _).mono ?_; rintro e' w' ⟨rfl, rfl⟩) | (go_at_call 85; refine (within_any _ _ _ _).mono ?_; rintro e' w' ⟨rfl, rfl⟩) | (go_at_call 118; refine (leaseHolds_f _ _ _ hL).mono ?_; rintro e' w' ⟨rfl, rfl⟩) | (go_at_call 120; refine (taskHolds_f _ _ _ hT).mono ?_; rintro e' w' ⟨rfl, rfl⟩) | (go_at_call 121; refine (textHolds_f _ _ _ hX).mono ?_; rintro e' w' ⟨rfl, rfl⟩) | (go_at_call 123; refine (costHolds_f _ _ _ _ hC).mono ?_; rintro e' w' ⟨rfl, rfl⟩) | (go_at_call 122; refine (inputsHold_f a n c _ _ hI).mono ?_; rintro e' w' ⟨rfl, rfl⟩))
        simp only [List.append_eq, List.cons_append, List.nil_append]
        go_wp2_with (first | (go_at_call 165; refine (uses_0 _).mono ?_; rintro e' w' ⟨rfl, rfl⟩) | (go_at_call 119; refine (stateOf_0 _ _ _ _ _ _ _ _ _ _ _ _ _).mono ?_; rintro e' w' ⟨rfl, rfl⟩) | (go_at_call 85; refine (within_any _ _ _ _).mono ?_; rintro e' w' ⟨rfl, rfl⟩) | (go_at_call 118; refine (leaseHolds_f _ _ _ hL).mono ?_; rintro e' w' ⟨rfl, rfl⟩) | (go_at_call 120; refine (taskHolds_f _ _ _ hT).mono ?_; rintro e' w' ⟨rfl, rfl⟩) | (go_at_call 121; refine (textHolds_f _ _ _ hX).mono ?_; rintro e' w' ⟨rfl, rfl⟩) | (go_at_call 123; refine (costHolds_f _ _ _ _ hC).mono ?_; rintro e' w' ⟨rfl, rfl⟩) | (go_at_call 122; refine (inputsHold_f a n c _ _ hI).mono ?_; rintro e' w' ⟨rfl, rfl⟩))
        go_ret
        refine ⟨RetB.f fun hv => ?_, (by repeat (first | exact Below.refl _ _ | refine Below.alloc ?_ (by simp <;> omega) _ | refine Below.drew ?_))⟩; have hv := (vW0 _ _ _ _ _ _ _ _ _ _).1 hv; obtain ⟨⟨v1, v2, v3, v4, v5, v6, v7⟩, v8⟩ := hv; clear v7; have := GS.out; have := HL.out; omega
      | true =>
        have gS := inB_t hS
        have GS := hid gS
        clear gS
        cases hL : (le == 0) with
        | false =>
          have gL : ¬ (le = 0) := by simpa using hL
          have GL := hid gL
          clear gL
          go_enter Tryz.func91, Tryz.ntmps91
          go_upto_region 5 with (first | (go_at_call 165; refine (uses_0 _).mono ?_; rintro e' w' ⟨rfl, rfl⟩) | (go_at_call 119; refine (stateOf_0 _ _ _ _ _ _ _ _ _ _ _ _ _).mono ?_; rintro e' w' ⟨rfl, rfl⟩) | (go_at_call 85; refine (within_any _ _ _ _).mono ?_; rintro e' w' ⟨rfl, rfl⟩) | (go_at_call 118; refine (leaseHolds_f _ _ _ hL).mono ?_; rintro e' w' ⟨rfl, rfl⟩) | (go_at_call 120; refine (taskHolds_f _ _ _ hT).mono ?_; rintro e' w' ⟨rfl, rfl⟩) | (go_at_call 121; refine (textHolds_f _ _ _ hX).mono ?_; rintro e' w' ⟨rfl, rfl⟩) | (go_at_call 123; refine (costHolds_f _ _ _ _ hC).mono ?_; rintro e' w' ⟨rfl, rfl⟩) | (go_at_call 122; refine (inputsHold_f a n c _ _ hI).mono ?_; rintro e' w' ⟨rfl, rfl⟩))
          simp only [List.append_eq, List.cons_append, List.nil_append]
          go_wp2_with (first | (go_at_call 165; refine (uses_0 _).mono ?_; rintro e' w' ⟨rfl, rfl⟩) | (go_at_call 119; refine (stateOf_0 _ _ _ _ _ _ _ _ _ _ _ _ _).mono ?_; rintro e' w' ⟨rfl, rfl⟩) | (go_at_call 85; refine (within_any _ _ _ _).mono ?_; rintro e' w' ⟨rfl, rfl⟩) | (go_at_call 118; refine (leaseHolds_f _ _ _ hL).mono ?_; rintro e' w' ⟨rfl, rfl⟩) | (go_at_call 120; refine (taskHolds_f _ _ _ hT).mono ?_; rintro e' w' ⟨rfl, rfl⟩) | (go_at_call 121; refine (textHolds_f _ _ _ hX).mono ?_; rintro e' w' ⟨rfl, rfl⟩) | (go_at_call 123; refine (costHolds_f _ _ _ _ hC).mono ?_; rintro e' w' ⟨rfl, rfl⟩) | (go_at_call 122; refine (inputsHold_f a n c _ _ hI).mono ?_; rintro e' w' ⟨rfl, rfl⟩))
          go_ret
          refine ⟨RetB.f fun hv => ?_, (by repeat (first | exact Below.refl _ _ | refine Below.alloc ?_ (by simp <;> omega) _ | refine Below.drew ?_))⟩; have hv := (vW0 _ _ _ _ _ _ _ _ _ _).1 hv; obtain ⟨⟨v1, v2, v3, v4, v5, v6, v7⟩, v8⟩ := hv; clear v7; have := GL.out; have := HL.out; omega
        | true =>
          have gL : le = 0 := by simpa using hL
          have GL := hid gL
          clear gL
          cases hT : (ta == 0) with
          | false =>
            have gT : ¬ (ta = 0) := by simpa using hT
            have GT := hid gT
            clear gT
            go_enter Tryz.func91, Tryz.ntmps91
            go_upto_region 5 with (first | (go_at_call 165; refine (uses_0 _).mono ?_; rintro e' w' ⟨rfl, rfl⟩) | (go_at_call 119; refine (stateOf_0 _ _ _ _ _ _ _ _ _ _ _ _ _).mono ?_; rintro e' w' ⟨rfl, rfl⟩) | (go_at_call 85; refine (within_any _ _ _ _).mono ?_; rintro e' w' ⟨rfl, rfl⟩) | (go_at_call 118; refine (leaseHolds_f _ _ _ hL).mono ?_; rintro e' w' ⟨rfl, rfl⟩) | (go_at_call 120; refine (taskHolds_f _ _ _ hT).mono ?_; rintro e' w' ⟨rfl, rfl⟩) | (go_at_call 121; refine (textHolds_f _ _ _ hX).mono ?_; rintro e' w' ⟨rfl, rfl⟩) | (go_at_call 123; refine (costHolds_f _ _ _ _ hC).mono ?_; rintro e' w' ⟨rfl, rfl⟩) | (go_at_call 122; refine (inputsHold_f a n c _ _ hI).mono ?_; rintro e' w' ⟨rfl, rfl⟩))
            simp only [List.append_eq, List.cons_append, List.nil_append]
            go_wp2_with (first | (go_at_call 165; refine (uses_0 _).mono ?_; rintro e' w' ⟨rfl, rfl⟩) | (go_at_call 119; refine (stateOf_0 _ _ _ _ _ _ _ _ _ _ _ _ _).mono ?_; rintro e' w' ⟨rfl, rfl⟩) | (go_at_call 85; refine (within_any _ _ _ _).mono ?_; rintro e' w' ⟨rfl, rfl⟩) | (go_at_call 118; refine (leaseHolds_f _ _ _ hL).mono ?_; rintro e' w' ⟨rfl, rfl⟩) | (go_at_call 120; refine (taskHolds_f _ _ _ hT).mono ?_; rintro e' w' ⟨rfl, rfl⟩) | (go_at_call 121; refine (textHolds_f _ _ _ hX).mono ?_; rintro e' w' ⟨rfl, rfl⟩) | (go_at_call 123; refine (costHolds_f _ _ _ _ hC).mono ?_; rintro e' w' ⟨rfl, rfl⟩) | (go_at_call 122; refine (inputsHold_f a n c _ _ hI).mono ?_; rintro e' w' ⟨rfl, rfl⟩))
            go_ret
            refine ⟨RetB.f fun hv => ?_, (by repeat (first | exact Below.refl _ _ | refine Below.alloc ?_ (by simp <;> omega) _ | refine Below.drew ?_))⟩; have hv := (vW0 _ _ _ _ _ _ _ _ _ _).1 hv; obtain ⟨⟨v1, v2, v3, v4, v5, v6, v7⟩, v8⟩ := hv; clear v7; have := GT.out; have := HL.out; omega
          | true =>
            have gT : ta = 0 := by simpa using hT
            have GT := hid gT
            clear gT
            cases hX : x.toList.isEmpty with
            | false =>
              have gX : ¬ (x.size = 0) := fun hh => by rw [empty_t hh] at hX; cases hX
              have GX := hid gX
              clear gX
              go_enter Tryz.func91, Tryz.ntmps91
              go_upto_region 5 with (first | (go_at_call 165; refine (uses_0 _).mono ?_; rintro e' w' ⟨rfl, rfl⟩) | (go_at_call 119; refine (stateOf_0 _ _ _ _ _ _ _ _ _ _ _ _ _).mono ?_; rintro e' w' ⟨rfl, rfl⟩) | (go_at_call 85; refine (within_any _ _ _ _).mono ?_; rintro e' w' ⟨rfl, rfl⟩) | (go_at_call 118; refine (leaseHolds_f _ _ _ hL).mono ?_; rintro e' w' ⟨rfl, rfl⟩) | (go_at_call 120; refine (taskHolds_f _ _ _ hT).mono ?_; rintro e' w' ⟨rfl, rfl⟩) | (go_at_call 121; refine (textHolds_f _ _ _ hX).mono ?_; rintro e' w' ⟨rfl, rfl⟩) | (go_at_call 123; refine (costHolds_f _ _ _ _ hC).mono ?_; rintro e' w' ⟨rfl, rfl⟩) | (go_at_call 122; refine (inputsHold_f a n c _ _ hI).mono ?_; rintro e' w' ⟨rfl, rfl⟩))
              simp only [List.append_eq, List.cons_append, List.nil_append]
              go_wp2_with (first | (go_at_call 165; refine (uses_0 _).mono ?_; rintro e' w' ⟨rfl, rfl⟩) | (go_at_call 119; refine (stateOf_0 _ _ _ _ _ _ _ _ _ _ _ _ _).mono ?_; rintro e' w' ⟨rfl, rfl⟩) | (go_at_call 85; refine (within_any _ _ _ _).mono ?_; rintro e' w' ⟨rfl, rfl⟩) | (go_at_call 118; refine (leaseHolds_f _ _ _ hL).mono ?_; rintro e' w' ⟨rfl, rfl⟩) | (go_at_call 120; refine (taskHolds_f _ _ _ hT).mono ?_; rintro e' w' ⟨rfl, rfl⟩) | (go_at_call 121; refine (textHolds_f _ _ _ hX).mono ?_; rintro e' w' ⟨rfl, rfl⟩) | (go_at_call 123; refine (costHolds_f _ _ _ _ hC).mono ?_; rintro e' w' ⟨rfl, rfl⟩) | (go_at_call 122; refine (inputsHold_f a n c _ _ hI).mono ?_; rintro e' w' ⟨rfl, rfl⟩))
              go_ret
              refine ⟨RetB.f fun hv => ?_, (by repeat (first | exact Below.refl _ _ | refine Below.alloc ?_ (by simp <;> omega) _ | refine Below.drew ?_))⟩; have hv := (vW0 _ _ _ _ _ _ _ _ _ _).1 hv; obtain ⟨⟨v1, v2, v3, v4, v5, v6, v7⟩, v8⟩ := hv; clear v7; have := GX.out; have := HL.out; omega
            | true =>
              have gX : x.size = 0 := Decidable.byContradiction fun hh => by rw [empty_f hh] at hX; cases hX
              have GX := hid gX
              clear gX
              cases hI : ((n : Int) == 0) with
              | false =>
                have gI : ¬ (n = 0) := by simp at hI; omega
                have GI := hid gI
                clear gI
                go_enter Tryz.func91, Tryz.ntmps91
                go_upto_region 5 with (first | (go_at_call 165; refine (uses_0 _).mono ?_; rintro e' w' ⟨rfl, rfl⟩) | (go_at_call 119; refine (stateOf_0 _ _ _ _ _ _ _ _ _ _ _ _ _).mono ?_; rintro e' w' ⟨rfl, rfl⟩) | (go_at_call 85; refine (within_any _ _ _ _).mono ?_; rintro e' w' ⟨rfl, rfl⟩) | (go_at_call 118; refine (leaseHolds_f _ _ _ hL).mono ?_; rintro e' w' ⟨rfl, rfl⟩) | (go_at_call 120; refine (taskHolds_f _ _ _ hT).mono ?_; rintro e' w' ⟨rfl, rfl⟩) | (go_at_call 121; refine (textHolds_f _ _ _ hX).mono ?_; rintro e' w' ⟨rfl, rfl⟩) | (go_at_call 123; refine (costHolds_f _ _ _ _ hC).mono ?_; rintro e' w' ⟨rfl, rfl⟩) | (go_at_call 122; refine (inputsHold_f a n c _ _ hI).mono ?_; rintro e' w' ⟨rfl, rfl⟩))
                simp only [List.append_eq, List.cons_append, List.nil_append]
                go_wp2_with (first | (go_at_call 165; refine (uses_0 _).mono ?_; rintro e' w' ⟨rfl, rfl⟩) | (go_at_call 119; refine (stateOf_0 _ _ _ _ _ _ _ _ _ _ _ _ _).mono ?_; rintro e' w' ⟨rfl, rfl⟩) | (go_at_call 85; refine (within_any _ _ _ _).mono ?_; rintro e' w' ⟨rfl, rfl⟩) | (go_at_call 118; refine (leaseHolds_f _ _ _ hL).mono ?_; rintro e' w' ⟨rfl, rfl⟩) | (go_at_call 120; refine (taskHolds_f _ _ _ hT).mono ?_; rintro e' w' ⟨rfl, rfl⟩) | (go_at_call 121; refine (textHolds_f _ _ _ hX).mono ?_; rintro e' w' ⟨rfl, rfl⟩) | (go_at_call 123; refine (costHolds_f _ _ _ _ hC).mono ?_; rintro e' w' ⟨rfl, rfl⟩) | (go_at_call 122; refine (inputsHold_f a n c _ _ hI).mono ?_; rintro e' w' ⟨rfl, rfl⟩))
                go_ret
                refine ⟨RetB.f fun hv => ?_, (by repeat (first | exact Below.refl _ _ | refine Below.alloc ?_ (by simp <;> omega) _ | refine Below.drew ?_))⟩; have hv := (vW0 _ _ _ _ _ _ _ _ _ _).1 hv; obtain ⟨⟨v1, v2, v3, v4, v5, v6, v7⟩, v8⟩ := hv; clear v7; have := GI.out; have := HL.out; omega
              | true =>
                have gI : n = 0 := by simp at hI; omega
                have GI := hid gI
                clear gI
                cases hC : ((co == 0) && (lf == 0)) with
                | false =>
                  have gC : ¬ (co = 0 ∧ lf = 0) := by simpa using hC
                  have GC := hid gC
                  clear gC
                  go_enter Tryz.func91, Tryz.ntmps91
                  go_upto_region 5 with (first | (go_at_call 165; refine (uses_0 _).mono ?_; rintro e' w' ⟨rfl, rfl⟩) | (go_at_call 119; refine (stateOf_0 _ _ _ _ _ _ _ _ _ _ _ _ _).mono ?_; rintro e' w' ⟨rfl, rfl⟩) | (go_at_call 85; refine (within_any _ _ _ _).mono ?_; rintro e' w' ⟨rfl, rfl⟩) | (go_at_call 118; refine (leaseHolds_f _ _ _ hL).mono ?_; rintro e' w' ⟨rfl, rfl⟩) | (go_at_call 120; refine (taskHolds_f _ _ _ hT).mono ?_; rintro e' w' ⟨rfl, rfl⟩) | (go_at_call 121; refine (textHolds_f _ _ _ hX).mono ?_; rintro e' w' ⟨rfl, rfl⟩) | (go_at_call 123; refine (costHolds_f _ _ _ _ hC).mono ?_; rintro e' w' ⟨rfl, rfl⟩) | (go_at_call 122; refine (inputsHold_f a n c _ _ hI).mono ?_; rintro e' w' ⟨rfl, rfl⟩))
                  simp only [List.append_eq, List.cons_append, List.nil_append]
                  go_wp2_with (first | (go_at_call 165; refine (uses_0 _).mono ?_; rintro e' w' ⟨rfl, rfl⟩) | (go_at_call 119; refine (stateOf_0 _ _ _ _ _ _ _ _ _ _ _ _ _).mono ?_; rintro e' w' ⟨rfl, rfl⟩) | (go_at_call 85; refine (within_any _ _ _ _).mono ?_; rintro e' w' ⟨rfl, rfl⟩) | (go_at_call 118; refine (leaseHolds_f _ _ _ hL).mono ?_; rintro e' w' ⟨rfl, rfl⟩) | (go_at_call 120; refine (taskHolds_f _ _ _ hT).mono ?_; rintro e' w' ⟨rfl, rfl⟩) | (go_at_call 121; refine (textHolds_f _ _ _ hX).mono ?_; rintro e' w' ⟨rfl, rfl⟩) | (go_at_call 123; refine (costHolds_f _ _ _ _ hC).mono ?_; rintro e' w' ⟨rfl, rfl⟩) | (go_at_call 122; refine (inputsHold_f a n c _ _ hI).mono ?_; rintro e' w' ⟨rfl, rfl⟩))
                  go_ret
                  refine ⟨RetB.f fun hv => ?_, (by repeat (first | exact Below.refl _ _ | refine Below.alloc ?_ (by simp <;> omega) _ | refine Below.drew ?_))⟩; have hv := (vW0 _ _ _ _ _ _ _ _ _ _).1 hv; obtain ⟨⟨v1, v2, v3, v4, v5, v6, v7⟩, v8⟩ := hv; clear v7; have := GC.out; have := HL.out; omega
                | true =>
                  have gC : co = 0 ∧ lf = 0 := by simpa using hC
                  have GC := hid gC
                  clear gC
                  cases up with
                  | true =>
                    go_enter Tryz.func91, Tryz.ntmps91
                    go_upto_region 5 with (first | (go_at_call 165; refine (uses_0 _).mono ?_; rintro e' w' ⟨rfl, rfl⟩) | (go_at_call 119; refine (stateOf_0 _ _ _ _ _ _ _ _ _ _ _ _ _).mono ?_; rintro e' w' ⟨rfl, rfl⟩) | (go_at_call 85; refine (within_any _ _ _ _).mono ?_; rintro e' w' ⟨rfl, rfl⟩) | (go_at_call 118; refine (leaseHolds_f _ _ _ hL).mono ?_; rintro e' w' ⟨rfl, rfl⟩) | (go_at_call 120; refine (taskHolds_f _ _ _ hT).mono ?_; rintro e' w' ⟨rfl, rfl⟩) | (go_at_call 121; refine (textHolds_f _ _ _ hX).mono ?_; rintro e' w' ⟨rfl, rfl⟩) | (go_at_call 123; refine (costHolds_f _ _ _ _ hC).mono ?_; rintro e' w' ⟨rfl, rfl⟩) | (go_at_call 122; refine (inputsHold_f a n c _ _ hI).mono ?_; rintro e' w' ⟨rfl, rfl⟩))
                    simp only [List.append_eq, List.cons_append, List.nil_append]
                    go_wp2_with (first | (go_at_call 165; refine (uses_0 _).mono ?_; rintro e' w' ⟨rfl, rfl⟩) | (go_at_call 119; refine (stateOf_0 _ _ _ _ _ _ _ _ _ _ _ _ _).mono ?_; rintro e' w' ⟨rfl, rfl⟩) | (go_at_call 85; refine (within_any _ _ _ _).mono ?_; rintro e' w' ⟨rfl, rfl⟩) | (go_at_call 118; refine (leaseHolds_f _ _ _ hL).mono ?_; rintro e' w' ⟨rfl, rfl⟩) | (go_at_call 120; refine (taskHolds_f _ _ _ hT).mono ?_; rintro e' w' ⟨rfl, rfl⟩) | (go_at_call 121; refine (textHolds_f _ _ _ hX).mono ?_; rintro e' w' ⟨rfl, rfl⟩) | (go_at_call 123; refine (costHolds_f _ _ _ _ hC).mono ?_; rintro e' w' ⟨rfl, rfl⟩) | (go_at_call 122; refine (inputsHold_f a n c _ _ hI).mono ?_; rintro e' w' ⟨rfl, rfl⟩))
                    go_ret
                    refine ⟨RetB.t ((vW0 _ _ _ _ _ _ _ _ _ _).2 ?_), (by repeat (first | exact Below.refl _ _ | refine Below.alloc ?_ (by simp <;> omega) _ | refine Below.drew ?_))⟩; unfold vWt; have := GN.out; have := GE.out; have := GS.out; have := GL.out; have := GT.out; have := GX.out; have := GI.out; have := GC.out; exact ⟨⟨by omega, by omega, by omega, by omega, by omega, by omega, fun hh => by cases hh⟩, (by have := HL.out; omega)⟩
                  | false =>
                    cases hZ : (si == 0) with
                    | true =>
                      have gZ : si = 0 := by simpa using hZ
                      have GZ := hid gZ
                      clear gZ
                      go_enter Tryz.func91, Tryz.ntmps91
                      go_upto_region 5 with (first | (go_at_call 165; refine (uses_0 _).mono ?_; rintro e' w' ⟨rfl, rfl⟩) | (go_at_call 119; refine (stateOf_0 _ _ _ _ _ _ _ _ _ _ _ _ _).mono ?_; rintro e' w' ⟨rfl, rfl⟩) | (go_at_call 85; refine (within_any _ _ _ _).mono ?_; rintro e' w' ⟨rfl, rfl⟩) | (go_at_call 118; refine (leaseHolds_f _ _ _ hL).mono ?_; rintro e' w' ⟨rfl, rfl⟩) | (go_at_call 120; refine (taskHolds_f _ _ _ hT).mono ?_; rintro e' w' ⟨rfl, rfl⟩) | (go_at_call 121; refine (textHolds_f _ _ _ hX).mono ?_; rintro e' w' ⟨rfl, rfl⟩) | (go_at_call 123; refine (costHolds_f _ _ _ _ hC).mono ?_; rintro e' w' ⟨rfl, rfl⟩) | (go_at_call 122; refine (inputsHold_f a n c _ _ hI).mono ?_; rintro e' w' ⟨rfl, rfl⟩))
                      simp only [List.append_eq, List.cons_append, List.nil_append]
                      go_wp2_with (first | (go_at_call 165; refine (uses_0 _).mono ?_; rintro e' w' ⟨rfl, rfl⟩) | (go_at_call 119; refine (stateOf_0 _ _ _ _ _ _ _ _ _ _ _ _ _).mono ?_; rintro e' w' ⟨rfl, rfl⟩) | (go_at_call 85; refine (within_any _ _ _ _).mono ?_; rintro e' w' ⟨rfl, rfl⟩) | (go_at_call 118; refine (leaseHolds_f _ _ _ hL).mono ?_; rintro e' w' ⟨rfl, rfl⟩) | (go_at_call 120; refine (taskHolds_f _ _ _ hT).mono ?_; rintro e' w' ⟨rfl, rfl⟩) | (go_at_call 121; refine (textHolds_f _ _ _ hX).mono ?_; rintro e' w' ⟨rfl, rfl⟩) | (go_at_call 123; refine (costHolds_f _ _ _ _ hC).mono ?_; rintro e' w' ⟨rfl, rfl⟩) | (go_at_call 122; refine (inputsHold_f a n c _ _ hI).mono ?_; rintro e' w' ⟨rfl, rfl⟩))
                      go_ret
                      refine ⟨RetB.t ((vW0 _ _ _ _ _ _ _ _ _ _).2 ?_), (by repeat (first | exact Below.refl _ _ | refine Below.alloc ?_ (by simp <;> omega) _ | refine Below.drew ?_))⟩; unfold vWt; have := GN.out; have := GE.out; have := GS.out; have := GL.out; have := GT.out; have := GX.out; have := GI.out; have := GC.out; exact ⟨⟨by omega, by omega, by omega, by omega, by omega, by omega, fun _ => ⟨rfl, GZ.out⟩⟩, (by have := HL.out; omega)⟩
                    | false =>
                      have gZ : ¬ si = 0 := by simpa using hZ
                      have GZ := hid gZ
                      clear gZ
                      go_enter Tryz.func91, Tryz.ntmps91
                      go_upto_region 5 with (first | (go_at_call 165; refine (uses_0 _).mono ?_; rintro e' w' ⟨rfl, rfl⟩) | (go_at_call 119; refine (stateOf_0 _ _ _ _ _ _ _ _ _ _ _ _ _).mono ?_; rintro e' w' ⟨rfl, rfl⟩) | (go_at_call 85; refine (within_any _ _ _ _).mono ?_; rintro e' w' ⟨rfl, rfl⟩) | (go_at_call 118; refine (leaseHolds_f _ _ _ hL).mono ?_; rintro e' w' ⟨rfl, rfl⟩) | (go_at_call 120; refine (taskHolds_f _ _ _ hT).mono ?_; rintro e' w' ⟨rfl, rfl⟩) | (go_at_call 121; refine (textHolds_f _ _ _ hX).mono ?_; rintro e' w' ⟨rfl, rfl⟩) | (go_at_call 123; refine (costHolds_f _ _ _ _ hC).mono ?_; rintro e' w' ⟨rfl, rfl⟩) | (go_at_call 122; refine (inputsHold_f a n c _ _ hI).mono ?_; rintro e' w' ⟨rfl, rfl⟩))
                      simp only [List.append_eq, List.cons_append, List.nil_append]
                      go_wp2_with (first | (go_at_call 165; refine (uses_0 _).mono ?_; rintro e' w' ⟨rfl, rfl⟩) | (go_at_call 119; refine (stateOf_0 _ _ _ _ _ _ _ _ _ _ _ _ _).mono ?_; rintro e' w' ⟨rfl, rfl⟩) | (go_at_call 85; refine (within_any _ _ _ _).mono ?_; rintro e' w' ⟨rfl, rfl⟩) | (go_at_call 118; refine (leaseHolds_f _ _ _ hL).mono ?_; rintro e' w' ⟨rfl, rfl⟩) | (go_at_call 120; refine (taskHolds_f _ _ _ hT).mono ?_; rintro e' w' ⟨rfl, rfl⟩) | (go_at_call 121; refine (textHolds_f _ _ _ hX).mono ?_; rintro e' w' ⟨rfl, rfl⟩) | (go_at_call 123; refine (costHolds_f _ _ _ _ hC).mono ?_; rintro e' w' ⟨rfl, rfl⟩) | (go_at_call 122; refine (inputsHold_f a n c _ _ hI).mono ?_; rintro e' w' ⟨rfl, rfl⟩))
                      go_ret
                      refine ⟨RetB.f fun hv => ?_, (by repeat (first | exact Below.refl _ _ | refine Below.alloc ?_ (by simp <;> omega) _ | refine Below.drew ?_))⟩; have hv := (vW0 _ _ _ _ _ _ _ _ _ _).1 hv; obtain ⟨⟨v1, v2, v3, v4, v5, v6, v7⟩, v8⟩ := hv; exact GZ.out (v7 rfl).2
end Go.Proofs.YthopfmhagddhgaaGreat
