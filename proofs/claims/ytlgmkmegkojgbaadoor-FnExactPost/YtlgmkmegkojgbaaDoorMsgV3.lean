
/- impl.validMessage, a kind. -/
import Derived.Test.YtlgmkmegkojgbaaDoorMsgV0
namespace Go.Proofs.YtlgmkmegkojgbaaDoor
open Go.RowKit

set_option maxRecDepth 100000 in
set_option maxHeartbeats 4000000 in
theorem valid_3 (f t e l d : Int) (x : ByteArray) (a : Option Addr) (b o n c : Nat) (ss : List ByteArray) (w : World) (hT : Tab w) (h : StrsAt w a b o n ss) :
    Calls Tryd.prog 40 #[.agg #[.int .i64 3, .int .i64 f, .int .i64 t, .int .i64 e, .int .i64 l, .int .i64 d, .string x, .slice a n c]] w fun e' w' => RetB e' (vM 3 f t e l d x.size ss) ∧ Below w.heap.size w w' := by
  have hb0 : Below w.heap.size w ((w.alloc (.cells #[.int .i64 3, .int .i64 f, .int .i64 t, .int .i64 e, .int .i64 l, .int .i64 d, .string x, .slice a n c] 27)).alloc (.cells #[.bool false, .bool true, .bool true, .bool true, .bool false] 97)) := ((Below.refl _ _).alloc (Nat.le_refl _) _).alloc (by simp) _
  have hk5 : inB 3 1 5 = true := by decide
  have hmax := h.max
  have HL : Hid (ss.length = n) := h.len
  have hpos := hT.pos
  have q0 : w.cell? ⟨0, 15, none⟩ = some (.bool false) := hT 15 (by omega)
  have q1 : w.cell? ⟨0, 16, none⟩ = some (.bool true) := hT 16 (by omega)
  have q2 : w.cell? ⟨0, 17, none⟩ = some (.bool true) := hT 17 (by omega)
  have q3 : w.cell? ⟨0, 18, none⟩ = some (.bool true) := hT 18 (by omega)
  have q4 : w.cell? ⟨0, 19, none⟩ = some (.bool false) := hT 19 (by omega)
  clear hT
  cases hP : (t == 0) with
  | false =>
    have gP : ¬ t = 0 := by simpa using hP
    have GP := hid gP
    clear gP
    go_enter Tryd.func40, Tryd.ntmps40
    go_wp2_with (first | (go_at_call 64; refine (isKind_any _ _).mono ?_; rintro e' w' ⟨rfl, rfl⟩) | (go_at_call 65; refine (within_any _ _ _ _).mono ?_; rintro e' w' ⟨rfl, rfl⟩) | (go_at_call 66; refine (leaseHolds_t _ _ _ hL).mono ?_; rintro e' w' ⟨rfl, rfl⟩) | (go_at_call 67; refine (taskHolds_t _ _ _ hD).mono ?_; rintro e' w' ⟨rfl, rfl⟩) | (go_at_call 68; refine (textHolds_t _ _ _ hX).mono ?_; rintro e' w' ⟨rfl, rfl⟩) | (go_at_call 69; refine (inputsHold_f a n c _ _ hI).mono ?_; rintro e' w' ⟨rfl, rfl⟩))
    go_quiet (fail)
    go_wp2_with (first | (go_at_call 64; refine (isKind_any _ _).mono ?_; rintro e' w' ⟨rfl, rfl⟩) | (go_at_call 65; refine (within_any _ _ _ _).mono ?_; rintro e' w' ⟨rfl, rfl⟩) | (go_at_call 66; refine (leaseHolds_t _ _ _ hL).mono ?_; rintro e' w' ⟨rfl, rfl⟩) | (go_at_call 67; refine (taskHolds_t _ _ _ hD).mono ?_; rintro e' w' ⟨rfl, rfl⟩) | (go_at_call 68; refine (textHolds_t _ _ _ hX).mono ?_; rintro e' w' ⟨rfl, rfl⟩) | (go_at_call 69; refine (inputsHold_f a n c _ _ hI).mono ?_; rintro e' w' ⟨rfl, rfl⟩))
    go_ret
    refine ⟨RetB.f fun hv => ?_, by repeat (first | exact hb0 | refine below_drewN ?_ _)⟩; have hv := (vM3 _ _ _ _ _ _ _).1 hv; have := GP.out; omega
  | true =>
    have gP : t = 0 := by simpa using hP
    have GP := hid gP
    clear gP
    cases hQ : inB f 1 8 with
    | false =>
      have gQ := inB_f hQ
      have GQ := hid gQ
      clear gQ
      go_enter Tryd.func40, Tryd.ntmps40
      go_wp2_with (first | (go_at_call 64; refine (isKind_any _ _).mono ?_; rintro e' w' ⟨rfl, rfl⟩) | (go_at_call 65; refine (within_any _ _ _ _).mono ?_; rintro e' w' ⟨rfl, rfl⟩) | (go_at_call 66; refine (leaseHolds_t _ _ _ hL).mono ?_; rintro e' w' ⟨rfl, rfl⟩) | (go_at_call 67; refine (taskHolds_t _ _ _ hD).mono ?_; rintro e' w' ⟨rfl, rfl⟩) | (go_at_call 68; refine (textHolds_t _ _ _ hX).mono ?_; rintro e' w' ⟨rfl, rfl⟩) | (go_at_call 69; refine (inputsHold_f a n c _ _ hI).mono ?_; rintro e' w' ⟨rfl, rfl⟩))
      go_quiet (fail)
      go_wp2_with (first | (go_at_call 64; refine (isKind_any _ _).mono ?_; rintro e' w' ⟨rfl, rfl⟩) | (go_at_call 65; refine (within_any _ _ _ _).mono ?_; rintro e' w' ⟨rfl, rfl⟩) | (go_at_call 66; refine (leaseHolds_t _ _ _ hL).mono ?_; rintro e' w' ⟨rfl, rfl⟩) | (go_at_call 67; refine (taskHolds_t _ _ _ hD).mono ?_; rintro e' w' ⟨rfl, rfl⟩) | (go_at_call 68; refine (textHolds_t _ _ _ hX).mono ?_; rintro e' w' ⟨rfl, rfl⟩) | (go_at_call 69; refine (inputsHold_f a n c _ _ hI).mono ?_; rintro e' w' ⟨rfl, rfl⟩))
      go_ret
      refine ⟨RetB.f fun hv => ?_, by repeat (first | exact hb0 | refine below_drewN ?_ _)⟩; have hv := (vM3 _ _ _ _ _ _ _).1 hv; have := GQ.out; omega
    | true =>
      have gQ := inB_t hQ
      have GQ := hid gQ
      clear gQ
      cases hE : inB e 1 300 with
      | false =>
        have gE := inB_f hE
        have GE := hid gE
        clear gE
        go_enter Tryd.func40, Tryd.ntmps40
        go_wp2_with (first | (go_at_call 64; refine (isKind_any _ _).mono ?_; rintro e' w' ⟨rfl, rfl⟩) | (go_at_call 65; refine (within_any _ _ _ _).mono ?_; rintro e' w' ⟨rfl, rfl⟩) | (go_at_call 66; refine (leaseHolds_t _ _ _ hL).mono ?_; rintro e' w' ⟨rfl, rfl⟩) | (go_at_call 67; refine (taskHolds_t _ _ _ hD).mono ?_; rintro e' w' ⟨rfl, rfl⟩) | (go_at_call 68; refine (textHolds_t _ _ _ hX).mono ?_; rintro e' w' ⟨rfl, rfl⟩) | (go_at_call 69; refine (inputsHold_f a n c _ _ hI).mono ?_; rintro e' w' ⟨rfl, rfl⟩))
        go_quiet (fail)
        go_wp2_with (first | (go_at_call 64; refine (isKind_any _ _).mono ?_; rintro e' w' ⟨rfl, rfl⟩) | (go_at_call 65; refine (within_any _ _ _ _).mono ?_; rintro e' w' ⟨rfl, rfl⟩) | (go_at_call 66; refine (leaseHolds_t _ _ _ hL).mono ?_; rintro e' w' ⟨rfl, rfl⟩) | (go_at_call 67; refine (taskHolds_t _ _ _ hD).mono ?_; rintro e' w' ⟨rfl, rfl⟩) | (go_at_call 68; refine (textHolds_t _ _ _ hX).mono ?_; rintro e' w' ⟨rfl, rfl⟩) | (go_at_call 69; refine (inputsHold_f a n c _ _ hI).mono ?_; rintro e' w' ⟨rfl, rfl⟩))
        go_ret
        refine ⟨RetB.f fun hv => ?_, by repeat (first | exact hb0 | refine below_drewN ?_ _)⟩; have hv := (vM3 _ _ _ _ _ _ _).1 hv; have := GE.out; omega
      | true =>
        have gE := inB_t hE
        have GE := hid gE
        clear gE
        cases hL : inB l 1 300000000 with
        | false =>
          have gL := inB_f hL
          have GL := hid gL
          clear gL
          go_enter Tryd.func40, Tryd.ntmps40
          go_wp2_with (first | (go_at_call 64; refine (isKind_any _ _).mono ?_; rintro e' w' ⟨rfl, rfl⟩) | (go_at_call 65; refine (within_any _ _ _ _).mono ?_; rintro e' w' ⟨rfl, rfl⟩) | (go_at_call 66; refine (leaseHolds_t _ _ _ hL).mono ?_; rintro e' w' ⟨rfl, rfl⟩) | (go_at_call 67; refine (taskHolds_t _ _ _ hD).mono ?_; rintro e' w' ⟨rfl, rfl⟩) | (go_at_call 68; refine (textHolds_t _ _ _ hX).mono ?_; rintro e' w' ⟨rfl, rfl⟩) | (go_at_call 69; refine (inputsHold_f a n c _ _ hI).mono ?_; rintro e' w' ⟨rfl, rfl⟩))
          go_quiet (fail)
          go_wp2_with (first | (go_at_call 64; refine (isKind_any _ _).mono ?_; rintro e' w' ⟨rfl, rfl⟩) | (go_at_call 65; refine (within_any _ _ _ _).mono ?_; rintro e' w' ⟨rfl, rfl⟩) | (go_at_call 66; refine (leaseHolds_t _ _ _ hL).mono ?_; rintro e' w' ⟨rfl, rfl⟩) | (go_at_call 67; refine (taskHolds_t _ _ _ hD).mono ?_; rintro e' w' ⟨rfl, rfl⟩) | (go_at_call 68; refine (textHolds_t _ _ _ hX).mono ?_; rintro e' w' ⟨rfl, rfl⟩) | (go_at_call 69; refine (inputsHold_f a n c _ _ hI).mono ?_; rintro e' w' ⟨rfl, rfl⟩))
          go_ret
          refine ⟨RetB.f fun hv => ?_, by repeat (first | exact hb0 | refine below_drewN ?_ _)⟩; have hv := (vM3 _ _ _ _ _ _ _).1 hv; have := GL.out; omega
        | true =>
          have gL := inB_t hL
          have GL := hid gL
          clear gL
          cases hD : inB d 0 39 with
          | false =>
            have gD := inB_f hD
            have GD := hid gD
            clear gD
            go_enter Tryd.func40, Tryd.ntmps40
            go_wp2_with (first | (go_at_call 64; refine (isKind_any _ _).mono ?_; rintro e' w' ⟨rfl, rfl⟩) | (go_at_call 65; refine (within_any _ _ _ _).mono ?_; rintro e' w' ⟨rfl, rfl⟩) | (go_at_call 66; refine (leaseHolds_t _ _ _ hL).mono ?_; rintro e' w' ⟨rfl, rfl⟩) | (go_at_call 67; refine (taskHolds_t _ _ _ hD).mono ?_; rintro e' w' ⟨rfl, rfl⟩) | (go_at_call 68; refine (textHolds_t _ _ _ hX).mono ?_; rintro e' w' ⟨rfl, rfl⟩) | (go_at_call 69; refine (inputsHold_f a n c _ _ hI).mono ?_; rintro e' w' ⟨rfl, rfl⟩))
            go_quiet (fail)
            go_wp2_with (first | (go_at_call 64; refine (isKind_any _ _).mono ?_; rintro e' w' ⟨rfl, rfl⟩) | (go_at_call 65; refine (within_any _ _ _ _).mono ?_; rintro e' w' ⟨rfl, rfl⟩) | (go_at_call 66; refine (leaseHolds_t _ _ _ hL).mono ?_; rintro e' w' ⟨rfl, rfl⟩) | (go_at_call 67; refine (taskHolds_t _ _ _ hD).mono ?_; rintro e' w' ⟨rfl, rfl⟩) | (go_at_call 68; refine (textHolds_t _ _ _ hX).mono ?_; rintro e' w' ⟨rfl, rfl⟩) | (go_at_call 69; refine (inputsHold_f a n c _ _ hI).mono ?_; rintro e' w' ⟨rfl, rfl⟩))
            go_ret
            refine ⟨RetB.f fun hv => ?_, by repeat (first | exact hb0 | refine below_drewN ?_ _)⟩; have hv := (vM3 _ _ _ _ _ _ _).1 hv; have := GD.out; omega
          | true =>
            have gD := inB_t hD
            have GD := hid gD
            clear gD
            cases hX : ((x.size : Int) == 8) with
            | false =>
              have gX : ¬ x.size = 8 := by simp at hX; omega
              have GX := hid gX
              clear gX
              go_enter Tryd.func40, Tryd.ntmps40
              go_wp2_with (first | (go_at_call 64; refine (isKind_any _ _).mono ?_; rintro e' w' ⟨rfl, rfl⟩) | (go_at_call 65; refine (within_any _ _ _ _).mono ?_; rintro e' w' ⟨rfl, rfl⟩) | (go_at_call 66; refine (leaseHolds_t _ _ _ hL).mono ?_; rintro e' w' ⟨rfl, rfl⟩) | (go_at_call 67; refine (taskHolds_t _ _ _ hD).mono ?_; rintro e' w' ⟨rfl, rfl⟩) | (go_at_call 68; refine (textHolds_t _ _ _ hX).mono ?_; rintro e' w' ⟨rfl, rfl⟩) | (go_at_call 69; refine (inputsHold_f a n c _ _ hI).mono ?_; rintro e' w' ⟨rfl, rfl⟩))
              go_quiet (fail)
              go_wp2_with (first | (go_at_call 64; refine (isKind_any _ _).mono ?_; rintro e' w' ⟨rfl, rfl⟩) | (go_at_call 65; refine (within_any _ _ _ _).mono ?_; rintro e' w' ⟨rfl, rfl⟩) | (go_at_call 66; refine (leaseHolds_t _ _ _ hL).mono ?_; rintro e' w' ⟨rfl, rfl⟩) | (go_at_call 67; refine (taskHolds_t _ _ _ hD).mono ?_; rintro e' w' ⟨rfl, rfl⟩) | (go_at_call 68; refine (textHolds_t _ _ _ hX).mono ?_; rintro e' w' ⟨rfl, rfl⟩) | (go_at_call 69; refine (inputsHold_f a n c _ _ hI).mono ?_; rintro e' w' ⟨rfl, rfl⟩))
              go_ret
              refine ⟨RetB.f fun hv => ?_, by repeat (first | exact hb0 | refine below_drewN ?_ _)⟩; have hv := (vM3 _ _ _ _ _ _ _).1 hv; have := GX.out; omega
            | true =>
              have gX : x.size = 8 := by simp at hX; omega
              have GX := hid gX
              clear gX
              cases hI : ((n : Int) == 0) with
              | false =>
                have gI : ¬ n = 0 := by simp at hI; omega
                have GI := hid gI
                clear gI
                go_enter Tryd.func40, Tryd.ntmps40
                go_wp2_with (first | (go_at_call 64; refine (isKind_any _ _).mono ?_; rintro e' w' ⟨rfl, rfl⟩) | (go_at_call 65; refine (within_any _ _ _ _).mono ?_; rintro e' w' ⟨rfl, rfl⟩) | (go_at_call 66; refine (leaseHolds_t _ _ _ hL).mono ?_; rintro e' w' ⟨rfl, rfl⟩) | (go_at_call 67; refine (taskHolds_t _ _ _ hD).mono ?_; rintro e' w' ⟨rfl, rfl⟩) | (go_at_call 68; refine (textHolds_t _ _ _ hX).mono ?_; rintro e' w' ⟨rfl, rfl⟩) | (go_at_call 69; refine (inputsHold_f a n c _ _ hI).mono ?_; rintro e' w' ⟨rfl, rfl⟩))
                go_quiet (fail)
                go_wp2_with (first | (go_at_call 64; refine (isKind_any _ _).mono ?_; rintro e' w' ⟨rfl, rfl⟩) | (go_at_call 65; refine (within_any _ _ _ _).mono ?_; rintro e' w' ⟨rfl, rfl⟩) | (go_at_call 66; refine (leaseHolds_t _ _ _ hL).mono ?_; rintro e' w' ⟨rfl, rfl⟩) | (go_at_call 67; refine (taskHolds_t _ _ _ hD).mono ?_; rintro e' w' ⟨rfl, rfl⟩) | (go_at_call 68; refine (textHolds_t _ _ _ hX).mono ?_; rintro e' w' ⟨rfl, rfl⟩) | (go_at_call 69; refine (inputsHold_f a n c _ _ hI).mono ?_; rintro e' w' ⟨rfl, rfl⟩))
                go_ret
                refine ⟨RetB.f fun hv => ?_, by repeat (first | exact hb0 | refine below_drewN ?_ _)⟩; have hv := (vM3 _ _ _ _ _ _ _).1 hv; have := GI.out; rw [HL.out] at hv; omega
              | true =>
                have gI : n = 0 := by simp at hI; omega
                have GI := hid gI
                clear gI
                go_enter Tryd.func40, Tryd.ntmps40
                go_wp2_with (first | (go_at_call 64; refine (isKind_any _ _).mono ?_; rintro e' w' ⟨rfl, rfl⟩) | (go_at_call 65; refine (within_any _ _ _ _).mono ?_; rintro e' w' ⟨rfl, rfl⟩) | (go_at_call 66; refine (leaseHolds_t _ _ _ hL).mono ?_; rintro e' w' ⟨rfl, rfl⟩) | (go_at_call 67; refine (taskHolds_t _ _ _ hD).mono ?_; rintro e' w' ⟨rfl, rfl⟩) | (go_at_call 68; refine (textHolds_t _ _ _ hX).mono ?_; rintro e' w' ⟨rfl, rfl⟩) | (go_at_call 69; refine (inputsHold_f a n c _ _ hI).mono ?_; rintro e' w' ⟨rfl, rfl⟩))
                go_quiet (fail)
                go_wp2_with (first | (go_at_call 64; refine (isKind_any _ _).mono ?_; rintro e' w' ⟨rfl, rfl⟩) | (go_at_call 65; refine (within_any _ _ _ _).mono ?_; rintro e' w' ⟨rfl, rfl⟩) | (go_at_call 66; refine (leaseHolds_t _ _ _ hL).mono ?_; rintro e' w' ⟨rfl, rfl⟩) | (go_at_call 67; refine (taskHolds_t _ _ _ hD).mono ?_; rintro e' w' ⟨rfl, rfl⟩) | (go_at_call 68; refine (textHolds_t _ _ _ hX).mono ?_; rintro e' w' ⟨rfl, rfl⟩) | (go_at_call 69; refine (inputsHold_f a n c _ _ hI).mono ?_; rintro e' w' ⟨rfl, rfl⟩))
                go_ret
                refine ⟨RetB.t ((vM3 _ _ _ _ _ _ _).2 ?_), by repeat (first | exact hb0 | refine below_drewN ?_ _)⟩; have := GP.out; have := GQ.out; have := GE.out; have := GL.out; have := GD.out; have := GX.out; have := GI.out; rw [HL.out]; omega
end Go.Proofs.YtlgmkmegkojgbaaDoor
