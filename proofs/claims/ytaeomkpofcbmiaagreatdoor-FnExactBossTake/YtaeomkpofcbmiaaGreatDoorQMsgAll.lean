
import Derived.Test.YtaeomkpofcbmiaaGreatDoorQCel
import Derived.Test.YtaeomkpofcbmiaaGreatDoorQMsgV2
set_option maxHeartbeats 4000000
set_option maxRecDepth 100000
namespace Go.Proofs.YtaeomkpofcbmiaaGreatDoor
open Go.RowKit
theorem valid_3 (f t e l d : Int) (x : ByteArray) (a : Option Addr) (b o n c : Nat) (ss : List ByteArray) (w : World) (hT : Tab w) (h : StrsAt w a b o n ss) :
  Calls Tryz.prog 83 #[.agg #[.int .i64 3,.int .i64 f,.int .i64 t,.int .i64 e,.int .i64 l,.int .i64 d,.string x,.slice a n c]] w fun e' w'=>RetB e' (vM 3 f t e l d x.size ss) ∧ Below w.heap.size w w':=by
 have hb0 : Below w.heap.size w ((w.alloc (.cells #[.int .i64 3,.int .i64 f,.int .i64 t,.int .i64 e,.int .i64 l,.int .i64 d,.string x,.slice a n c] 53)).alloc (.cells #[.bool false,.bool true,.bool true,.bool true,.bool false] 159)):=((Below.refl _ _).alloc (Nat.le_refl _) _).alloc (by simp) _
 have hk5 : inB 3 1 5 = true:=by decide
 have hmax:=h.max
 have HL : Hid (ss.length = n):=h.len
 have hpos:=hT.pos
 have q0 : w.cell? ⟨0,15,none⟩ = some (.bool false):=hT 15 (by omega)
 have q1 : w.cell? ⟨0,16,none⟩ = some (.bool true):=hT 16 (by omega)
 have q2 : w.cell? ⟨0,17,none⟩ = some (.bool true):=hT 17 (by omega)
 have q3 : w.cell? ⟨0,18,none⟩ = some (.bool true):=hT 18 (by omega)
 have q4 : w.cell? ⟨0,19,none⟩ = some (.bool false):=hT 19 (by omega)
 clear hT
 cases hP : (t == 0) with
 | false =>
  have gP : ¬ t = 0:=by simpa using hP
  have GP:=hid gP
  clear gP
  go_enter Tryz.func83,Tryz.ntmps83
  go_wp2_with (first | (go_at_call 111;refine (isKind_any _ _).mono ?_;rintro e' w' ⟨rfl,rfl⟩) | (go_at_call 75;refine (within_any _ _ _ _).mono ?_;rintro e' w' ⟨rfl,rfl⟩) | (go_at_call 110;refine (leaseHolds_t _ _ _ hL).mono ?_;rintro e' w' ⟨rfl,rfl⟩) | (go_at_call 112;refine (taskHolds_t _ _ _ hD).mono ?_;rintro e' w' ⟨rfl,rfl⟩) | (go_at_call 113;refine (textHolds_t _ _ _ hX).mono ?_;rintro e' w' ⟨rfl,rfl⟩) | (go_at_call 114;refine (inputsHold_f a n c _ _ hI).mono ?_;rintro e' w' ⟨rfl,rfl⟩))
  go_quiet (fail)
  go_wp2_with (first | (go_at_call 111;refine (isKind_any _ _).mono ?_;rintro e' w' ⟨rfl,rfl⟩) | (go_at_call 75;refine (within_any _ _ _ _).mono ?_;rintro e' w' ⟨rfl,rfl⟩) | (go_at_call 110;refine (leaseHolds_t _ _ _ hL).mono ?_;rintro e' w' ⟨rfl,rfl⟩) | (go_at_call 112;refine (taskHolds_t _ _ _ hD).mono ?_;rintro e' w' ⟨rfl,rfl⟩) | (go_at_call 113;refine (textHolds_t _ _ _ hX).mono ?_;rintro e' w' ⟨rfl,rfl⟩) | (go_at_call 114;refine (inputsHold_f a n c _ _ hI).mono ?_;rintro e' w' ⟨rfl,rfl⟩))
  go_ret
  refine ⟨RetB.f fun hv=>?_,by repeat (first | exact hb0 | refine below_drewN ?_ _)⟩;have hv:=(vM3 _ _ _ _ _ _ _).1 hv;have:=GP.out;omega
 | true =>
  have gP : t = 0:=by simpa using hP
  have GP:=hid gP
  clear gP
  cases hQ : inB f 1 8 with
  | false =>
   have gQ:=inB_f hQ
   have GQ:=hid gQ
   clear gQ
   go_enter Tryz.func83,Tryz.ntmps83
   go_wp2_with (first | (go_at_call 111;refine (isKind_any _ _).mono ?_;rintro e' w' ⟨rfl,rfl⟩) | (go_at_call 75;refine (within_any _ _ _ _).mono ?_;rintro e' w' ⟨rfl,rfl⟩) | (go_at_call 110;refine (leaseHolds_t _ _ _ hL).mono ?_;rintro e' w' ⟨rfl,rfl⟩) | (go_at_call 112;refine (taskHolds_t _ _ _ hD).mono ?_;rintro e' w' ⟨rfl,rfl⟩) | (go_at_call 113;refine (textHolds_t _ _ _ hX).mono ?_;rintro e' w' ⟨rfl,rfl⟩) | (go_at_call 114;refine (inputsHold_f a n c _ _ hI).mono ?_;rintro e' w' ⟨rfl,rfl⟩))
   go_quiet (fail)
   go_wp2_with (first | (go_at_call 111;refine (isKind_any _ _).mono ?_;rintro e' w' ⟨rfl,rfl⟩) | (go_at_call 75;refine (within_any _ _ _ _).mono ?_;rintro e' w' ⟨rfl,rfl⟩) | (go_at_call 110;refine (leaseHolds_t _ _ _ hL).mono ?_;rintro e' w' ⟨rfl,rfl⟩) | (go_at_call 112;refine (taskHolds_t _ _ _ hD).mono ?_;rintro e' w' ⟨rfl,rfl⟩) | (go_at_call 113;refine (textHolds_t _ _ _ hX).mono ?_;rintro e' w' ⟨rfl,rfl⟩) | (go_at_call 114;refine (inputsHold_f a n c _ _ hI).mono ?_;rintro e' w' ⟨rfl,rfl⟩))
   go_ret
   refine ⟨RetB.f fun hv=>?_,by repeat (first | exact hb0 | refine below_drewN ?_ _)⟩;have hv:=(vM3 _ _ _ _ _ _ _).1 hv;have:=GQ.out;omega
  | true =>
   have gQ:=inB_t hQ
   have GQ:=hid gQ
   clear gQ
   cases hE : inB e 1 300 with
   | false =>
    have gE:=inB_f hE
    have GE:=hid gE
    clear gE
    go_enter Tryz.func83,Tryz.ntmps83
    go_wp2_with (first | (go_at_call 111;refine (isKind_any _ _).mono ?_;rintro e' w' ⟨rfl,rfl⟩) | (go_at_call 75;refine (within_any _ _ _ _).mono ?_;rintro e' w' ⟨rfl,rfl⟩) | (go_at_call 110;refine (leaseHolds_t _ _ _ hL).mono ?_;rintro e' w' ⟨rfl,rfl⟩) | (go_at_call 112;refine (taskHolds_t _ _ _ hD).mono ?_;rintro e' w' ⟨rfl,rfl⟩) | (go_at_call 113;refine (textHolds_t _ _ _ hX).mono ?_;rintro e' w' ⟨rfl,rfl⟩) | (go_at_call 114;refine (inputsHold_f a n c _ _ hI).mono ?_;rintro e' w' ⟨rfl,rfl⟩))
    go_quiet (fail)
    go_wp2_with (first | (go_at_call 111;refine (isKind_any _ _).mono ?_;rintro e' w' ⟨rfl,rfl⟩) | (go_at_call 75;refine (within_any _ _ _ _).mono ?_;rintro e' w' ⟨rfl,rfl⟩) | (go_at_call 110;refine (leaseHolds_t _ _ _ hL).mono ?_;rintro e' w' ⟨rfl,rfl⟩) | (go_at_call 112;refine (taskHolds_t _ _ _ hD).mono ?_;rintro e' w' ⟨rfl,rfl⟩) | (go_at_call 113;refine (textHolds_t _ _ _ hX).mono ?_;rintro e' w' ⟨rfl,rfl⟩) | (go_at_call 114;refine (inputsHold_f a n c _ _ hI).mono ?_;rintro e' w' ⟨rfl,rfl⟩))
    go_ret
    refine ⟨RetB.f fun hv=>?_,by repeat (first | exact hb0 | refine below_drewN ?_ _)⟩;have hv:=(vM3 _ _ _ _ _ _ _).1 hv;have:=GE.out;omega
   | true =>
    have gE:=inB_t hE
    have GE:=hid gE
    clear gE
    cases hL : inB l 1 300000000 with
    | false =>
     have gL:=inB_f hL
     have GL:=hid gL
     clear gL
     go_enter Tryz.func83,Tryz.ntmps83
     go_wp2_with (first | (go_at_call 111;refine (isKind_any _ _).mono ?_;rintro e' w' ⟨rfl,rfl⟩) | (go_at_call 75;refine (within_any _ _ _ _).mono ?_;rintro e' w' ⟨rfl,rfl⟩) | (go_at_call 110;refine (leaseHolds_t _ _ _ hL).mono ?_;rintro e' w' ⟨rfl,rfl⟩) | (go_at_call 112;refine (taskHolds_t _ _ _ hD).mono ?_;rintro e' w' ⟨rfl,rfl⟩) | (go_at_call 113;refine (textHolds_t _ _ _ hX).mono ?_;rintro e' w' ⟨rfl,rfl⟩) | (go_at_call 114;refine (inputsHold_f a n c _ _ hI).mono ?_;rintro e' w' ⟨rfl,rfl⟩))
     go_quiet (fail)
     go_wp2_with (first | (go_at_call 111;refine (isKind_any _ _).mono ?_;rintro e' w' ⟨rfl,rfl⟩) | (go_at_call 75;refine (within_any _ _ _ _).mono ?_;rintro e' w' ⟨rfl,rfl⟩) | (go_at_call 110;refine (leaseHolds_t _ _ _ hL).mono ?_;rintro e' w' ⟨rfl,rfl⟩) | (go_at_call 112;refine (taskHolds_t _ _ _ hD).mono ?_;rintro e' w' ⟨rfl,rfl⟩) | (go_at_call 113;refine (textHolds_t _ _ _ hX).mono ?_;rintro e' w' ⟨rfl,rfl⟩) | (go_at_call 114;refine (inputsHold_f a n c _ _ hI).mono ?_;rintro e' w' ⟨rfl,rfl⟩))
     go_ret
     refine ⟨RetB.f fun hv=>?_,by repeat (first | exact hb0 | refine below_drewN ?_ _)⟩;have hv:=(vM3 _ _ _ _ _ _ _).1 hv;have:=GL.out;omega
    | true =>
     have gL:=inB_t hL
     have GL:=hid gL
     clear gL
     cases hD : inB d 0 39 with
     | false =>
      have gD:=inB_f hD
      have GD:=hid gD
      clear gD
      go_enter Tryz.func83,Tryz.ntmps83
      go_wp2_with (first | (go_at_call 111;refine (isKind_any _ _).mono ?_;rintro e' w' ⟨rfl,rfl⟩) | (go_at_call 75;refine (within_any _ _ _ _).mono ?_;rintro e' w' ⟨rfl,rfl⟩) | (go_at_call 110;refine (leaseHolds_t _ _ _ hL).mono ?_;rintro e' w' ⟨rfl,rfl⟩) | (go_at_call 112;refine (taskHolds_t _ _ _ hD).mono ?_;rintro e' w' ⟨rfl,rfl⟩) | (go_at_call 113;refine (textHolds_t _ _ _ hX).mono ?_;rintro e' w' ⟨rfl,rfl⟩) | (go_at_call 114;refine (inputsHold_f a n c _ _ hI).mono ?_;rintro e' w' ⟨rfl,rfl⟩))
      go_quiet (fail)
      go_wp2_with (first | (go_at_call 111;refine (isKind_any _ _).mono ?_;rintro e' w' ⟨rfl,rfl⟩) | (go_at_call 75;refine (within_any _ _ _ _).mono ?_;rintro e' w' ⟨rfl,rfl⟩) | (go_at_call 110;refine (leaseHolds_t _ _ _ hL).mono ?_;rintro e' w' ⟨rfl,rfl⟩) | (go_at_call 112;refine (taskHolds_t _ _ _ hD).mono ?_;rintro e' w' ⟨rfl,rfl⟩) | (go_at_call 113;refine (textHolds_t _ _ _ hX).mono ?_;rintro e' w' ⟨rfl,rfl⟩) | (go_at_call 114;refine (inputsHold_f a n c _ _ hI).mono ?_;rintro e' w' ⟨rfl,rfl⟩))
      go_ret
      refine ⟨RetB.f fun hv=>?_,by repeat (first | exact hb0 | refine below_drewN ?_ _)⟩;have hv:=(vM3 _ _ _ _ _ _ _).1 hv;have:=GD.out;omega
     | true =>
      have gD:=inB_t hD
      have GD:=hid gD
      clear gD
      cases hX : ((x.size : Int) == 8) with
      | false =>
       have gX : ¬ x.size = 8:=by simp at hX;omega
       have GX:=hid gX
       clear gX
       go_enter Tryz.func83,Tryz.ntmps83
       go_wp2_with (first | (go_at_call 111;refine (isKind_any _ _).mono ?_;rintro e' w' ⟨rfl,rfl⟩) | (go_at_call 75;refine (within_any _ _ _ _).mono ?_;rintro e' w' ⟨rfl,rfl⟩) | (go_at_call 110;refine (leaseHolds_t _ _ _ hL).mono ?_;rintro e' w' ⟨rfl,rfl⟩) | (go_at_call 112;refine (taskHolds_t _ _ _ hD).mono ?_;rintro e' w' ⟨rfl,rfl⟩) | (go_at_call 113;refine (textHolds_t _ _ _ hX).mono ?_;rintro e' w' ⟨rfl,rfl⟩) | (go_at_call 114;refine (inputsHold_f a n c _ _ hI).mono ?_;rintro e' w' ⟨rfl,rfl⟩))
       go_quiet (fail)
       go_wp2_with (first | (go_at_call 111;refine (isKind_any _ _).mono ?_;rintro e' w' ⟨rfl,rfl⟩) | (go_at_call 75;refine (within_any _ _ _ _).mono ?_;rintro e' w' ⟨rfl,rfl⟩) | (go_at_call 110;refine (leaseHolds_t _ _ _ hL).mono ?_;rintro e' w' ⟨rfl,rfl⟩) | (go_at_call 112;refine (taskHolds_t _ _ _ hD).mono ?_;rintro e' w' ⟨rfl,rfl⟩) | (go_at_call 113;refine (textHolds_t _ _ _ hX).mono ?_;rintro e' w' ⟨rfl,rfl⟩) | (go_at_call 114;refine (inputsHold_f a n c _ _ hI).mono ?_;rintro e' w' ⟨rfl,rfl⟩))
       go_ret
       refine ⟨RetB.f fun hv=>?_,by repeat (first | exact hb0 | refine below_drewN ?_ _)⟩;have hv:=(vM3 _ _ _ _ _ _ _).1 hv;have:=GX.out;omega
      | true =>
       have gX : x.size = 8:=by simp at hX;omega
       have GX:=hid gX
       clear gX
       cases hI : ((n : Int) == 0) with
       | false =>
        have gI : ¬ n = 0:=by simp at hI;omega
        have GI:=hid gI
        clear gI
        go_enter Tryz.func83,Tryz.ntmps83
        go_wp2_with (first | (go_at_call 111;refine (isKind_any _ _).mono ?_;rintro e' w' ⟨rfl,rfl⟩) | (go_at_call 75;refine (within_any _ _ _ _).mono ?_;rintro e' w' ⟨rfl,rfl⟩) | (go_at_call 110;refine (leaseHolds_t _ _ _ hL).mono ?_;rintro e' w' ⟨rfl,rfl⟩) | (go_at_call 112;refine (taskHolds_t _ _ _ hD).mono ?_;rintro e' w' ⟨rfl,rfl⟩) | (go_at_call 113;refine (textHolds_t _ _ _ hX).mono ?_;rintro e' w' ⟨rfl,rfl⟩) | (go_at_call 114;refine (inputsHold_f a n c _ _ hI).mono ?_;rintro e' w' ⟨rfl,rfl⟩))
        go_quiet (fail)
        go_wp2_with (first | (go_at_call 111;refine (isKind_any _ _).mono ?_;rintro e' w' ⟨rfl,rfl⟩) | (go_at_call 75;refine (within_any _ _ _ _).mono ?_;rintro e' w' ⟨rfl,rfl⟩) | (go_at_call 110;refine (leaseHolds_t _ _ _ hL).mono ?_;rintro e' w' ⟨rfl,rfl⟩) | (go_at_call 112;refine (taskHolds_t _ _ _ hD).mono ?_;rintro e' w' ⟨rfl,rfl⟩) | (go_at_call 113;refine (textHolds_t _ _ _ hX).mono ?_;rintro e' w' ⟨rfl,rfl⟩) | (go_at_call 114;refine (inputsHold_f a n c _ _ hI).mono ?_;rintro e' w' ⟨rfl,rfl⟩))
        go_ret
        refine ⟨RetB.f fun hv=>?_,by repeat (first | exact hb0 | refine below_drewN ?_ _)⟩;have hv:=(vM3 _ _ _ _ _ _ _).1 hv;have:=GI.out;rw [HL.out] at hv;omega
       | true =>
        have gI : n = 0:=by simp at hI;omega
        have GI:=hid gI
        clear gI
        go_enter Tryz.func83,Tryz.ntmps83
        go_wp2_with (first | (go_at_call 111;refine (isKind_any _ _).mono ?_;rintro e' w' ⟨rfl,rfl⟩) | (go_at_call 75;refine (within_any _ _ _ _).mono ?_;rintro e' w' ⟨rfl,rfl⟩) | (go_at_call 110;refine (leaseHolds_t _ _ _ hL).mono ?_;rintro e' w' ⟨rfl,rfl⟩) | (go_at_call 112;refine (taskHolds_t _ _ _ hD).mono ?_;rintro e' w' ⟨rfl,rfl⟩) | (go_at_call 113;refine (textHolds_t _ _ _ hX).mono ?_;rintro e' w' ⟨rfl,rfl⟩) | (go_at_call 114;refine (inputsHold_f a n c _ _ hI).mono ?_;rintro e' w' ⟨rfl,rfl⟩))
        go_quiet (fail)
        go_wp2_with (first | (go_at_call 111;refine (isKind_any _ _).mono ?_;rintro e' w' ⟨rfl,rfl⟩) | (go_at_call 75;refine (within_any _ _ _ _).mono ?_;rintro e' w' ⟨rfl,rfl⟩) | (go_at_call 110;refine (leaseHolds_t _ _ _ hL).mono ?_;rintro e' w' ⟨rfl,rfl⟩) | (go_at_call 112;refine (taskHolds_t _ _ _ hD).mono ?_;rintro e' w' ⟨rfl,rfl⟩) | (go_at_call 113;refine (textHolds_t _ _ _ hX).mono ?_;rintro e' w' ⟨rfl,rfl⟩) | (go_at_call 114;refine (inputsHold_f a n c _ _ hI).mono ?_;rintro e' w' ⟨rfl,rfl⟩))
        go_ret
        refine ⟨RetB.t ((vM3 _ _ _ _ _ _ _).2 ?_),by repeat (first | exact hb0 | refine below_drewN ?_ _)⟩;have:=GP.out;have:=GQ.out;have:=GE.out;have:=GL.out;have:=GD.out;have:=GX.out;have:=GI.out;rw [HL.out];omega
end Go.Proofs.YtaeomkpofcbmiaaGreatDoor
namespace Go.Proofs.YtaeomkpofcbmiaaGreatDoor
open Go.RowKit
theorem valid_4 (f t e l d : Int) (x : ByteArray) (a : Option Addr) (b o n c : Nat) (ss : List ByteArray) (w : World) (hT : Tab w) (h : StrsAt w a b o n ss) :
  Calls Tryz.prog 83 #[.agg #[.int .i64 4,.int .i64 f,.int .i64 t,.int .i64 e,.int .i64 l,.int .i64 d,.string x,.slice a n c]] w fun e' w'=>RetB e' (vM 4 f t e l d x.size ss) ∧ Below w.heap.size w w':=by
 have hb0 : Below w.heap.size w ((w.alloc (.cells #[.int .i64 4,.int .i64 f,.int .i64 t,.int .i64 e,.int .i64 l,.int .i64 d,.string x,.slice a n c] 53)).alloc (.cells #[.bool true,.bool true,.bool false,.bool false,.bool false] 159)):=((Below.refl _ _).alloc (Nat.le_refl _) _).alloc (by simp) _
 have hk5 : inB 4 1 5 = true:=by decide
 have hmax:=h.max
 have HL : Hid (ss.length = n):=h.len
 have hpos:=hT.pos
 have q0 : w.cell? ⟨0,20,none⟩ = some (.bool true):=hT 20 (by omega)
 have q1 : w.cell? ⟨0,21,none⟩ = some (.bool true):=hT 21 (by omega)
 have q2 : w.cell? ⟨0,22,none⟩ = some (.bool false):=hT 22 (by omega)
 have q3 : w.cell? ⟨0,23,none⟩ = some (.bool false):=hT 23 (by omega)
 have q4 : w.cell? ⟨0,24,none⟩ = some (.bool false):=hT 24 (by omega)
 clear hT
 cases hP : (f == 0) with
 | false =>
  have gP : ¬ f = 0:=by simpa using hP
  have GP:=hid gP
  clear gP
  go_enter Tryz.func83,Tryz.ntmps83
  go_wp2_with (first | (go_at_call 111;refine (isKind_any _ _).mono ?_;rintro e' w' ⟨rfl,rfl⟩) | (go_at_call 75;refine (within_any _ _ _ _).mono ?_;rintro e' w' ⟨rfl,rfl⟩) | (go_at_call 110;refine (leaseHolds_t _ _ _ hL).mono ?_;rintro e' w' ⟨rfl,rfl⟩) | (go_at_call 112;refine (taskHolds_f _ _ _ hD).mono ?_;rintro e' w' ⟨rfl,rfl⟩) | (go_at_call 113;refine (textHolds_f _ _ _ hX).mono ?_;rintro e' w' ⟨rfl,rfl⟩) | (go_at_call 114;refine (inputsHold_f a n c _ _ hI).mono ?_;rintro e' w' ⟨rfl,rfl⟩))
  go_quiet (fail)
  go_wp2_with (first | (go_at_call 111;refine (isKind_any _ _).mono ?_;rintro e' w' ⟨rfl,rfl⟩) | (go_at_call 75;refine (within_any _ _ _ _).mono ?_;rintro e' w' ⟨rfl,rfl⟩) | (go_at_call 110;refine (leaseHolds_t _ _ _ hL).mono ?_;rintro e' w' ⟨rfl,rfl⟩) | (go_at_call 112;refine (taskHolds_f _ _ _ hD).mono ?_;rintro e' w' ⟨rfl,rfl⟩) | (go_at_call 113;refine (textHolds_f _ _ _ hX).mono ?_;rintro e' w' ⟨rfl,rfl⟩) | (go_at_call 114;refine (inputsHold_f a n c _ _ hI).mono ?_;rintro e' w' ⟨rfl,rfl⟩))
  go_quiet (fail)
  go_wp2_with (first | (go_at_call 111;refine (isKind_any _ _).mono ?_;rintro e' w' ⟨rfl,rfl⟩) | (go_at_call 75;refine (within_any _ _ _ _).mono ?_;rintro e' w' ⟨rfl,rfl⟩) | (go_at_call 110;refine (leaseHolds_t _ _ _ hL).mono ?_;rintro e' w' ⟨rfl,rfl⟩) | (go_at_call 112;refine (taskHolds_f _ _ _ hD).mono ?_;rintro e' w' ⟨rfl,rfl⟩) | (go_at_call 113;refine (textHolds_f _ _ _ hX).mono ?_;rintro e' w' ⟨rfl,rfl⟩) | (go_at_call 114;refine (inputsHold_f a n c _ _ hI).mono ?_;rintro e' w' ⟨rfl,rfl⟩))
  go_ret
  refine ⟨RetB.f fun hv=>?_,by repeat (first | exact hb0 | refine below_drewN ?_ _)⟩;have hv:=(vM4 _ _ _ _ _ _ _).1 hv;have:=GP.out;omega
 | true =>
  have gP : f = 0:=by simpa using hP
  have GP:=hid gP
  clear gP
  cases hQ : inB t 1 8 with
  | false =>
   have gQ:=inB_f hQ
   have GQ:=hid gQ
   clear gQ
   go_enter Tryz.func83,Tryz.ntmps83
   go_wp2_with (first | (go_at_call 111;refine (isKind_any _ _).mono ?_;rintro e' w' ⟨rfl,rfl⟩) | (go_at_call 75;refine (within_any _ _ _ _).mono ?_;rintro e' w' ⟨rfl,rfl⟩) | (go_at_call 110;refine (leaseHolds_t _ _ _ hL).mono ?_;rintro e' w' ⟨rfl,rfl⟩) | (go_at_call 112;refine (taskHolds_f _ _ _ hD).mono ?_;rintro e' w' ⟨rfl,rfl⟩) | (go_at_call 113;refine (textHolds_f _ _ _ hX).mono ?_;rintro e' w' ⟨rfl,rfl⟩) | (go_at_call 114;refine (inputsHold_f a n c _ _ hI).mono ?_;rintro e' w' ⟨rfl,rfl⟩))
   go_quiet (fail)
   go_wp2_with (first | (go_at_call 111;refine (isKind_any _ _).mono ?_;rintro e' w' ⟨rfl,rfl⟩) | (go_at_call 75;refine (within_any _ _ _ _).mono ?_;rintro e' w' ⟨rfl,rfl⟩) | (go_at_call 110;refine (leaseHolds_t _ _ _ hL).mono ?_;rintro e' w' ⟨rfl,rfl⟩) | (go_at_call 112;refine (taskHolds_f _ _ _ hD).mono ?_;rintro e' w' ⟨rfl,rfl⟩) | (go_at_call 113;refine (textHolds_f _ _ _ hX).mono ?_;rintro e' w' ⟨rfl,rfl⟩) | (go_at_call 114;refine (inputsHold_f a n c _ _ hI).mono ?_;rintro e' w' ⟨rfl,rfl⟩))
   go_quiet (fail)
   go_wp2_with (first | (go_at_call 111;refine (isKind_any _ _).mono ?_;rintro e' w' ⟨rfl,rfl⟩) | (go_at_call 75;refine (within_any _ _ _ _).mono ?_;rintro e' w' ⟨rfl,rfl⟩) | (go_at_call 110;refine (leaseHolds_t _ _ _ hL).mono ?_;rintro e' w' ⟨rfl,rfl⟩) | (go_at_call 112;refine (taskHolds_f _ _ _ hD).mono ?_;rintro e' w' ⟨rfl,rfl⟩) | (go_at_call 113;refine (textHolds_f _ _ _ hX).mono ?_;rintro e' w' ⟨rfl,rfl⟩) | (go_at_call 114;refine (inputsHold_f a n c _ _ hI).mono ?_;rintro e' w' ⟨rfl,rfl⟩))
   go_ret
   refine ⟨RetB.f fun hv=>?_,by repeat (first | exact hb0 | refine below_drewN ?_ _)⟩;have hv:=(vM4 _ _ _ _ _ _ _).1 hv;have:=GQ.out;omega
  | true =>
   have gQ:=inB_t hQ
   have GQ:=hid gQ
   clear gQ
   cases hE : inB e 1 300 with
   | false =>
    have gE:=inB_f hE
    have GE:=hid gE
    clear gE
    go_enter Tryz.func83,Tryz.ntmps83
    go_wp2_with (first | (go_at_call 111;refine (isKind_any _ _).mono ?_;rintro e' w' ⟨rfl,rfl⟩) | (go_at_call 75;refine (within_any _ _ _ _).mono ?_;rintro e' w' ⟨rfl,rfl⟩) | (go_at_call 110;refine (leaseHolds_t _ _ _ hL).mono ?_;rintro e' w' ⟨rfl,rfl⟩) | (go_at_call 112;refine (taskHolds_f _ _ _ hD).mono ?_;rintro e' w' ⟨rfl,rfl⟩) | (go_at_call 113;refine (textHolds_f _ _ _ hX).mono ?_;rintro e' w' ⟨rfl,rfl⟩) | (go_at_call 114;refine (inputsHold_f a n c _ _ hI).mono ?_;rintro e' w' ⟨rfl,rfl⟩))
    go_quiet (fail)
    go_wp2_with (first | (go_at_call 111;refine (isKind_any _ _).mono ?_;rintro e' w' ⟨rfl,rfl⟩) | (go_at_call 75;refine (within_any _ _ _ _).mono ?_;rintro e' w' ⟨rfl,rfl⟩) | (go_at_call 110;refine (leaseHolds_t _ _ _ hL).mono ?_;rintro e' w' ⟨rfl,rfl⟩) | (go_at_call 112;refine (taskHolds_f _ _ _ hD).mono ?_;rintro e' w' ⟨rfl,rfl⟩) | (go_at_call 113;refine (textHolds_f _ _ _ hX).mono ?_;rintro e' w' ⟨rfl,rfl⟩) | (go_at_call 114;refine (inputsHold_f a n c _ _ hI).mono ?_;rintro e' w' ⟨rfl,rfl⟩))
    go_quiet (fail)
    go_wp2_with (first | (go_at_call 111;refine (isKind_any _ _).mono ?_;rintro e' w' ⟨rfl,rfl⟩) | (go_at_call 75;refine (within_any _ _ _ _).mono ?_;rintro e' w' ⟨rfl,rfl⟩) | (go_at_call 110;refine (leaseHolds_t _ _ _ hL).mono ?_;rintro e' w' ⟨rfl,rfl⟩) | (go_at_call 112;refine (taskHolds_f _ _ _ hD).mono ?_;rintro e' w' ⟨rfl,rfl⟩) | (go_at_call 113;refine (textHolds_f _ _ _ hX).mono ?_;rintro e' w' ⟨rfl,rfl⟩) | (go_at_call 114;refine (inputsHold_f a n c _ _ hI).mono ?_;rintro e' w' ⟨rfl,rfl⟩))
    go_ret
    refine ⟨RetB.f fun hv=>?_,by repeat (first | exact hb0 | refine below_drewN ?_ _)⟩;have hv:=(vM4 _ _ _ _ _ _ _).1 hv;have:=GE.out;omega
   | true =>
    have gE:=inB_t hE
    have GE:=hid gE
    clear gE
    cases hL : inB l 1 300000000 with
    | false =>
     have gL:=inB_f hL
     have GL:=hid gL
     clear gL
     go_enter Tryz.func83,Tryz.ntmps83
     go_wp2_with (first | (go_at_call 111;refine (isKind_any _ _).mono ?_;rintro e' w' ⟨rfl,rfl⟩) | (go_at_call 75;refine (within_any _ _ _ _).mono ?_;rintro e' w' ⟨rfl,rfl⟩) | (go_at_call 110;refine (leaseHolds_t _ _ _ hL).mono ?_;rintro e' w' ⟨rfl,rfl⟩) | (go_at_call 112;refine (taskHolds_f _ _ _ hD).mono ?_;rintro e' w' ⟨rfl,rfl⟩) | (go_at_call 113;refine (textHolds_f _ _ _ hX).mono ?_;rintro e' w' ⟨rfl,rfl⟩) | (go_at_call 114;refine (inputsHold_f a n c _ _ hI).mono ?_;rintro e' w' ⟨rfl,rfl⟩))
     go_quiet (fail)
     go_wp2_with (first | (go_at_call 111;refine (isKind_any _ _).mono ?_;rintro e' w' ⟨rfl,rfl⟩) | (go_at_call 75;refine (within_any _ _ _ _).mono ?_;rintro e' w' ⟨rfl,rfl⟩) | (go_at_call 110;refine (leaseHolds_t _ _ _ hL).mono ?_;rintro e' w' ⟨rfl,rfl⟩) | (go_at_call 112;refine (taskHolds_f _ _ _ hD).mono ?_;rintro e' w' ⟨rfl,rfl⟩) | (go_at_call 113;refine (textHolds_f _ _ _ hX).mono ?_;rintro e' w' ⟨rfl,rfl⟩) | (go_at_call 114;refine (inputsHold_f a n c _ _ hI).mono ?_;rintro e' w' ⟨rfl,rfl⟩))
     go_quiet (fail)
     go_wp2_with (first | (go_at_call 111;refine (isKind_any _ _).mono ?_;rintro e' w' ⟨rfl,rfl⟩) | (go_at_call 75;refine (within_any _ _ _ _).mono ?_;rintro e' w' ⟨rfl,rfl⟩) | (go_at_call 110;refine (leaseHolds_t _ _ _ hL).mono ?_;rintro e' w' ⟨rfl,rfl⟩) | (go_at_call 112;refine (taskHolds_f _ _ _ hD).mono ?_;rintro e' w' ⟨rfl,rfl⟩) | (go_at_call 113;refine (textHolds_f _ _ _ hX).mono ?_;rintro e' w' ⟨rfl,rfl⟩) | (go_at_call 114;refine (inputsHold_f a n c _ _ hI).mono ?_;rintro e' w' ⟨rfl,rfl⟩))
     go_ret
     refine ⟨RetB.f fun hv=>?_,by repeat (first | exact hb0 | refine below_drewN ?_ _)⟩;have hv:=(vM4 _ _ _ _ _ _ _).1 hv;have:=GL.out;omega
    | true =>
     have gL:=inB_t hL
     have GL:=hid gL
     clear gL
     cases hD : (d == 0) with
     | false =>
      have gD : ¬ d = 0:=by simpa using hD
      have GD:=hid gD
      clear gD
      go_enter Tryz.func83,Tryz.ntmps83
      go_wp2_with (first | (go_at_call 111;refine (isKind_any _ _).mono ?_;rintro e' w' ⟨rfl,rfl⟩) | (go_at_call 75;refine (within_any _ _ _ _).mono ?_;rintro e' w' ⟨rfl,rfl⟩) | (go_at_call 110;refine (leaseHolds_t _ _ _ hL).mono ?_;rintro e' w' ⟨rfl,rfl⟩) | (go_at_call 112;refine (taskHolds_f _ _ _ hD).mono ?_;rintro e' w' ⟨rfl,rfl⟩) | (go_at_call 113;refine (textHolds_f _ _ _ hX).mono ?_;rintro e' w' ⟨rfl,rfl⟩) | (go_at_call 114;refine (inputsHold_f a n c _ _ hI).mono ?_;rintro e' w' ⟨rfl,rfl⟩))
      go_quiet (fail)
      go_wp2_with (first | (go_at_call 111;refine (isKind_any _ _).mono ?_;rintro e' w' ⟨rfl,rfl⟩) | (go_at_call 75;refine (within_any _ _ _ _).mono ?_;rintro e' w' ⟨rfl,rfl⟩) | (go_at_call 110;refine (leaseHolds_t _ _ _ hL).mono ?_;rintro e' w' ⟨rfl,rfl⟩) | (go_at_call 112;refine (taskHolds_f _ _ _ hD).mono ?_;rintro e' w' ⟨rfl,rfl⟩) | (go_at_call 113;refine (textHolds_f _ _ _ hX).mono ?_;rintro e' w' ⟨rfl,rfl⟩) | (go_at_call 114;refine (inputsHold_f a n c _ _ hI).mono ?_;rintro e' w' ⟨rfl,rfl⟩))
      go_quiet (fail)
      go_wp2_with (first | (go_at_call 111;refine (isKind_any _ _).mono ?_;rintro e' w' ⟨rfl,rfl⟩) | (go_at_call 75;refine (within_any _ _ _ _).mono ?_;rintro e' w' ⟨rfl,rfl⟩) | (go_at_call 110;refine (leaseHolds_t _ _ _ hL).mono ?_;rintro e' w' ⟨rfl,rfl⟩) | (go_at_call 112;refine (taskHolds_f _ _ _ hD).mono ?_;rintro e' w' ⟨rfl,rfl⟩) | (go_at_call 113;refine (textHolds_f _ _ _ hX).mono ?_;rintro e' w' ⟨rfl,rfl⟩) | (go_at_call 114;refine (inputsHold_f a n c _ _ hI).mono ?_;rintro e' w' ⟨rfl,rfl⟩))
      go_ret
      refine ⟨RetB.f fun hv=>?_,by repeat (first | exact hb0 | refine below_drewN ?_ _)⟩;have hv:=(vM4 _ _ _ _ _ _ _).1 hv;have:=GD.out;omega
     | true =>
      have gD : d = 0:=by simpa using hD
      have GD:=hid gD
      clear gD
      cases hX : x.toList.isEmpty with
      | false =>
       have gX : ¬ x.size = 0:=fun hh=>by rw [empty_t hh] at hX;cases hX
       have GX:=hid gX
       clear gX
       go_enter Tryz.func83,Tryz.ntmps83
       go_wp2_with (first | (go_at_call 111;refine (isKind_any _ _).mono ?_;rintro e' w' ⟨rfl,rfl⟩) | (go_at_call 75;refine (within_any _ _ _ _).mono ?_;rintro e' w' ⟨rfl,rfl⟩) | (go_at_call 110;refine (leaseHolds_t _ _ _ hL).mono ?_;rintro e' w' ⟨rfl,rfl⟩) | (go_at_call 112;refine (taskHolds_f _ _ _ hD).mono ?_;rintro e' w' ⟨rfl,rfl⟩) | (go_at_call 113;refine (textHolds_f _ _ _ hX).mono ?_;rintro e' w' ⟨rfl,rfl⟩) | (go_at_call 114;refine (inputsHold_f a n c _ _ hI).mono ?_;rintro e' w' ⟨rfl,rfl⟩))
       go_quiet (fail)
       go_wp2_with (first | (go_at_call 111;refine (isKind_any _ _).mono ?_;rintro e' w' ⟨rfl,rfl⟩) | (go_at_call 75;refine (within_any _ _ _ _).mono ?_;rintro e' w' ⟨rfl,rfl⟩) | (go_at_call 110;refine (leaseHolds_t _ _ _ hL).mono ?_;rintro e' w' ⟨rfl,rfl⟩) | (go_at_call 112;refine (taskHolds_f _ _ _ hD).mono ?_;rintro e' w' ⟨rfl,rfl⟩) | (go_at_call 113;refine (textHolds_f _ _ _ hX).mono ?_;rintro e' w' ⟨rfl,rfl⟩) | (go_at_call 114;refine (inputsHold_f a n c _ _ hI).mono ?_;rintro e' w' ⟨rfl,rfl⟩))
       go_quiet (fail)
       go_wp2_with (first | (go_at_call 111;refine (isKind_any _ _).mono ?_;rintro e' w' ⟨rfl,rfl⟩) | (go_at_call 75;refine (within_any _ _ _ _).mono ?_;rintro e' w' ⟨rfl,rfl⟩) | (go_at_call 110;refine (leaseHolds_t _ _ _ hL).mono ?_;rintro e' w' ⟨rfl,rfl⟩) | (go_at_call 112;refine (taskHolds_f _ _ _ hD).mono ?_;rintro e' w' ⟨rfl,rfl⟩) | (go_at_call 113;refine (textHolds_f _ _ _ hX).mono ?_;rintro e' w' ⟨rfl,rfl⟩) | (go_at_call 114;refine (inputsHold_f a n c _ _ hI).mono ?_;rintro e' w' ⟨rfl,rfl⟩))
       go_ret
       refine ⟨RetB.f fun hv=>?_,by repeat (first | exact hb0 | refine below_drewN ?_ _)⟩;have hv:=(vM4 _ _ _ _ _ _ _).1 hv;have:=GX.out;omega
      | true =>
       have gX : x.size = 0:=Decidable.byContradiction fun hh=>by rw [empty_f hh] at hX;cases hX
       have GX:=hid gX
       clear gX
       cases hI : ((n : Int) == 0) with
       | false =>
        have gI : ¬ n = 0:=by simp at hI;omega
        have GI:=hid gI
        clear gI
        go_enter Tryz.func83,Tryz.ntmps83
        go_wp2_with (first | (go_at_call 111;refine (isKind_any _ _).mono ?_;rintro e' w' ⟨rfl,rfl⟩) | (go_at_call 75;refine (within_any _ _ _ _).mono ?_;rintro e' w' ⟨rfl,rfl⟩) | (go_at_call 110;refine (leaseHolds_t _ _ _ hL).mono ?_;rintro e' w' ⟨rfl,rfl⟩) | (go_at_call 112;refine (taskHolds_f _ _ _ hD).mono ?_;rintro e' w' ⟨rfl,rfl⟩) | (go_at_call 113;refine (textHolds_f _ _ _ hX).mono ?_;rintro e' w' ⟨rfl,rfl⟩) | (go_at_call 114;refine (inputsHold_f a n c _ _ hI).mono ?_;rintro e' w' ⟨rfl,rfl⟩))
        go_quiet (fail)
        go_wp2_with (first | (go_at_call 111;refine (isKind_any _ _).mono ?_;rintro e' w' ⟨rfl,rfl⟩) | (go_at_call 75;refine (within_any _ _ _ _).mono ?_;rintro e' w' ⟨rfl,rfl⟩) | (go_at_call 110;refine (leaseHolds_t _ _ _ hL).mono ?_;rintro e' w' ⟨rfl,rfl⟩) | (go_at_call 112;refine (taskHolds_f _ _ _ hD).mono ?_;rintro e' w' ⟨rfl,rfl⟩) | (go_at_call 113;refine (textHolds_f _ _ _ hX).mono ?_;rintro e' w' ⟨rfl,rfl⟩) | (go_at_call 114;refine (inputsHold_f a n c _ _ hI).mono ?_;rintro e' w' ⟨rfl,rfl⟩))
        go_quiet (fail)
        go_wp2_with (first | (go_at_call 111;refine (isKind_any _ _).mono ?_;rintro e' w' ⟨rfl,rfl⟩) | (go_at_call 75;refine (within_any _ _ _ _).mono ?_;rintro e' w' ⟨rfl,rfl⟩) | (go_at_call 110;refine (leaseHolds_t _ _ _ hL).mono ?_;rintro e' w' ⟨rfl,rfl⟩) | (go_at_call 112;refine (taskHolds_f _ _ _ hD).mono ?_;rintro e' w' ⟨rfl,rfl⟩) | (go_at_call 113;refine (textHolds_f _ _ _ hX).mono ?_;rintro e' w' ⟨rfl,rfl⟩) | (go_at_call 114;refine (inputsHold_f a n c _ _ hI).mono ?_;rintro e' w' ⟨rfl,rfl⟩))
        go_ret
        refine ⟨RetB.f fun hv=>?_,by repeat (first | exact hb0 | refine below_drewN ?_ _)⟩;have hv:=(vM4 _ _ _ _ _ _ _).1 hv;have:=GI.out;rw [HL.out] at hv;omega
       | true =>
        have gI : n = 0:=by simp at hI;omega
        have GI:=hid gI
        clear gI
        go_enter Tryz.func83,Tryz.ntmps83
        go_wp2_with (first | (go_at_call 111;refine (isKind_any _ _).mono ?_;rintro e' w' ⟨rfl,rfl⟩) | (go_at_call 75;refine (within_any _ _ _ _).mono ?_;rintro e' w' ⟨rfl,rfl⟩) | (go_at_call 110;refine (leaseHolds_t _ _ _ hL).mono ?_;rintro e' w' ⟨rfl,rfl⟩) | (go_at_call 112;refine (taskHolds_f _ _ _ hD).mono ?_;rintro e' w' ⟨rfl,rfl⟩) | (go_at_call 113;refine (textHolds_f _ _ _ hX).mono ?_;rintro e' w' ⟨rfl,rfl⟩) | (go_at_call 114;refine (inputsHold_f a n c _ _ hI).mono ?_;rintro e' w' ⟨rfl,rfl⟩))
        go_quiet (fail)
        go_wp2_with (first | (go_at_call 111;refine (isKind_any _ _).mono ?_;rintro e' w' ⟨rfl,rfl⟩) | (go_at_call 75;refine (within_any _ _ _ _).mono ?_;rintro e' w' ⟨rfl,rfl⟩) | (go_at_call 110;refine (leaseHolds_t _ _ _ hL).mono ?_;rintro e' w' ⟨rfl,rfl⟩) | (go_at_call 112;refine (taskHolds_f _ _ _ hD).mono ?_;rintro e' w' ⟨rfl,rfl⟩) | (go_at_call 113;refine (textHolds_f _ _ _ hX).mono ?_;rintro e' w' ⟨rfl,rfl⟩) | (go_at_call 114;refine (inputsHold_f a n c _ _ hI).mono ?_;rintro e' w' ⟨rfl,rfl⟩))
        go_quiet (fail)
        go_wp2_with (first | (go_at_call 111;refine (isKind_any _ _).mono ?_;rintro e' w' ⟨rfl,rfl⟩) | (go_at_call 75;refine (within_any _ _ _ _).mono ?_;rintro e' w' ⟨rfl,rfl⟩) | (go_at_call 110;refine (leaseHolds_t _ _ _ hL).mono ?_;rintro e' w' ⟨rfl,rfl⟩) | (go_at_call 112;refine (taskHolds_f _ _ _ hD).mono ?_;rintro e' w' ⟨rfl,rfl⟩) | (go_at_call 113;refine (textHolds_f _ _ _ hX).mono ?_;rintro e' w' ⟨rfl,rfl⟩) | (go_at_call 114;refine (inputsHold_f a n c _ _ hI).mono ?_;rintro e' w' ⟨rfl,rfl⟩))
        go_ret
        refine ⟨RetB.t ((vM4 _ _ _ _ _ _ _).2 ?_),by repeat (first | exact hb0 | refine below_drewN ?_ _)⟩;have:=GP.out;have:=GQ.out;have:=GE.out;have:=GL.out;have:=GD.out;have:=GX.out;have:=GI.out;rw [HL.out];omega
end Go.Proofs.YtaeomkpofcbmiaaGreatDoor
namespace Go.Proofs.YtaeomkpofcbmiaaGreatDoor
open Go.RowKit
theorem valid_5 (f t e l d : Int) (x : ByteArray) (a : Option Addr) (b o n c : Nat) (ss : List ByteArray) (w : World) (hT : Tab w) (h : StrsAt w a b o n ss) :
  Calls Tryz.prog 83 #[.agg #[.int .i64 5,.int .i64 f,.int .i64 t,.int .i64 e,.int .i64 l,.int .i64 d,.string x,.slice a n c]] w fun e' w'=>RetB e' (vM 5 f t e l d x.size ss) ∧ Below w.heap.size w w':=by
 have hb0 : Below w.heap.size w ((w.alloc (.cells #[.int .i64 5,.int .i64 f,.int .i64 t,.int .i64 e,.int .i64 l,.int .i64 d,.string x,.slice a n c] 53)).alloc (.cells #[.bool false,.bool false,.bool false,.bool false,.bool false] 159)):=((Below.refl _ _).alloc (Nat.le_refl _) _).alloc (by simp) _
 have hk5 : inB 5 1 5 = true:=by decide
 have hmax:=h.max
 have HL : Hid (ss.length = n):=h.len
 have hpos:=hT.pos
 have q0 : w.cell? ⟨0,25,none⟩ = some (.bool false):=hT 25 (by omega)
 have q1 : w.cell? ⟨0,26,none⟩ = some (.bool false):=hT 26 (by omega)
 have q2 : w.cell? ⟨0,27,none⟩ = some (.bool false):=hT 27 (by omega)
 have q3 : w.cell? ⟨0,28,none⟩ = some (.bool false):=hT 28 (by omega)
 have q4 : w.cell? ⟨0,29,none⟩ = some (.bool false):=hT 29 (by omega)
 clear hT
 cases hP : (t == 0) with
 | false =>
  have gP : ¬ t = 0:=by simpa using hP
  have GP:=hid gP
  clear gP
  go_enter Tryz.func83,Tryz.ntmps83
  go_wp2_with (first | (go_at_call 111;refine (isKind_any _ _).mono ?_;rintro e' w' ⟨rfl,rfl⟩) | (go_at_call 75;refine (within_any _ _ _ _).mono ?_;rintro e' w' ⟨rfl,rfl⟩) | (go_at_call 110;refine (leaseHolds_f _ _ _ hL).mono ?_;rintro e' w' ⟨rfl,rfl⟩) | (go_at_call 112;refine (taskHolds_f _ _ _ hD).mono ?_;rintro e' w' ⟨rfl,rfl⟩) | (go_at_call 113;refine (textHolds_f _ _ _ hX).mono ?_;rintro e' w' ⟨rfl,rfl⟩) | (go_at_call 114;refine (inputsHold_f a n c _ _ hI).mono ?_;rintro e' w' ⟨rfl,rfl⟩))
  go_quiet (fail)
  go_wp2_with (first | (go_at_call 111;refine (isKind_any _ _).mono ?_;rintro e' w' ⟨rfl,rfl⟩) | (go_at_call 75;refine (within_any _ _ _ _).mono ?_;rintro e' w' ⟨rfl,rfl⟩) | (go_at_call 110;refine (leaseHolds_f _ _ _ hL).mono ?_;rintro e' w' ⟨rfl,rfl⟩) | (go_at_call 112;refine (taskHolds_f _ _ _ hD).mono ?_;rintro e' w' ⟨rfl,rfl⟩) | (go_at_call 113;refine (textHolds_f _ _ _ hX).mono ?_;rintro e' w' ⟨rfl,rfl⟩) | (go_at_call 114;refine (inputsHold_f a n c _ _ hI).mono ?_;rintro e' w' ⟨rfl,rfl⟩))
  go_ret
  refine ⟨RetB.f fun hv=>?_,by repeat (first | exact hb0 | refine below_drewN ?_ _)⟩;have hv:=(vM5 _ _ _ _ _ _ _).1 hv;have:=GP.out;omega
 | true =>
  have gP : t = 0:=by simpa using hP
  have GP:=hid gP
  clear gP
  cases hQ : inB f 1 8 with
  | false =>
   have gQ:=inB_f hQ
   have GQ:=hid gQ
   clear gQ
   go_enter Tryz.func83,Tryz.ntmps83
   go_wp2_with (first | (go_at_call 111;refine (isKind_any _ _).mono ?_;rintro e' w' ⟨rfl,rfl⟩) | (go_at_call 75;refine (within_any _ _ _ _).mono ?_;rintro e' w' ⟨rfl,rfl⟩) | (go_at_call 110;refine (leaseHolds_f _ _ _ hL).mono ?_;rintro e' w' ⟨rfl,rfl⟩) | (go_at_call 112;refine (taskHolds_f _ _ _ hD).mono ?_;rintro e' w' ⟨rfl,rfl⟩) | (go_at_call 113;refine (textHolds_f _ _ _ hX).mono ?_;rintro e' w' ⟨rfl,rfl⟩) | (go_at_call 114;refine (inputsHold_f a n c _ _ hI).mono ?_;rintro e' w' ⟨rfl,rfl⟩))
   go_quiet (fail)
   go_wp2_with (first | (go_at_call 111;refine (isKind_any _ _).mono ?_;rintro e' w' ⟨rfl,rfl⟩) | (go_at_call 75;refine (within_any _ _ _ _).mono ?_;rintro e' w' ⟨rfl,rfl⟩) | (go_at_call 110;refine (leaseHolds_f _ _ _ hL).mono ?_;rintro e' w' ⟨rfl,rfl⟩) | (go_at_call 112;refine (taskHolds_f _ _ _ hD).mono ?_;rintro e' w' ⟨rfl,rfl⟩) | (go_at_call 113;refine (textHolds_f _ _ _ hX).mono ?_;rintro e' w' ⟨rfl,rfl⟩) | (go_at_call 114;refine (inputsHold_f a n c _ _ hI).mono ?_;rintro e' w' ⟨rfl,rfl⟩))
   go_ret
   refine ⟨RetB.f fun hv=>?_,by repeat (first | exact hb0 | refine below_drewN ?_ _)⟩;have hv:=(vM5 _ _ _ _ _ _ _).1 hv;have:=GQ.out;omega
  | true =>
   have gQ:=inB_t hQ
   have GQ:=hid gQ
   clear gQ
   cases hE : inB e 1 300 with
   | false =>
    have gE:=inB_f hE
    have GE:=hid gE
    clear gE
    go_enter Tryz.func83,Tryz.ntmps83
    go_wp2_with (first | (go_at_call 111;refine (isKind_any _ _).mono ?_;rintro e' w' ⟨rfl,rfl⟩) | (go_at_call 75;refine (within_any _ _ _ _).mono ?_;rintro e' w' ⟨rfl,rfl⟩) | (go_at_call 110;refine (leaseHolds_f _ _ _ hL).mono ?_;rintro e' w' ⟨rfl,rfl⟩) | (go_at_call 112;refine (taskHolds_f _ _ _ hD).mono ?_;rintro e' w' ⟨rfl,rfl⟩) | (go_at_call 113;refine (textHolds_f _ _ _ hX).mono ?_;rintro e' w' ⟨rfl,rfl⟩) | (go_at_call 114;refine (inputsHold_f a n c _ _ hI).mono ?_;rintro e' w' ⟨rfl,rfl⟩))
    go_quiet (fail)
    go_wp2_with (first | (go_at_call 111;refine (isKind_any _ _).mono ?_;rintro e' w' ⟨rfl,rfl⟩) | (go_at_call 75;refine (within_any _ _ _ _).mono ?_;rintro e' w' ⟨rfl,rfl⟩) | (go_at_call 110;refine (leaseHolds_f _ _ _ hL).mono ?_;rintro e' w' ⟨rfl,rfl⟩) | (go_at_call 112;refine (taskHolds_f _ _ _ hD).mono ?_;rintro e' w' ⟨rfl,rfl⟩) | (go_at_call 113;refine (textHolds_f _ _ _ hX).mono ?_;rintro e' w' ⟨rfl,rfl⟩) | (go_at_call 114;refine (inputsHold_f a n c _ _ hI).mono ?_;rintro e' w' ⟨rfl,rfl⟩))
    go_ret
    refine ⟨RetB.f fun hv=>?_,by repeat (first | exact hb0 | refine below_drewN ?_ _)⟩;have hv:=(vM5 _ _ _ _ _ _ _).1 hv;have:=GE.out;omega
   | true =>
    have gE:=inB_t hE
    have GE:=hid gE
    clear gE
    cases hL : (l == 0) with
    | false =>
     have gL : ¬ l = 0:=by simpa using hL
     have GL:=hid gL
     clear gL
     go_enter Tryz.func83,Tryz.ntmps83
     go_wp2_with (first | (go_at_call 111;refine (isKind_any _ _).mono ?_;rintro e' w' ⟨rfl,rfl⟩) | (go_at_call 75;refine (within_any _ _ _ _).mono ?_;rintro e' w' ⟨rfl,rfl⟩) | (go_at_call 110;refine (leaseHolds_f _ _ _ hL).mono ?_;rintro e' w' ⟨rfl,rfl⟩) | (go_at_call 112;refine (taskHolds_f _ _ _ hD).mono ?_;rintro e' w' ⟨rfl,rfl⟩) | (go_at_call 113;refine (textHolds_f _ _ _ hX).mono ?_;rintro e' w' ⟨rfl,rfl⟩) | (go_at_call 114;refine (inputsHold_f a n c _ _ hI).mono ?_;rintro e' w' ⟨rfl,rfl⟩))
     go_quiet (fail)
     go_wp2_with (first | (go_at_call 111;refine (isKind_any _ _).mono ?_;rintro e' w' ⟨rfl,rfl⟩) | (go_at_call 75;refine (within_any _ _ _ _).mono ?_;rintro e' w' ⟨rfl,rfl⟩) | (go_at_call 110;refine (leaseHolds_f _ _ _ hL).mono ?_;rintro e' w' ⟨rfl,rfl⟩) | (go_at_call 112;refine (taskHolds_f _ _ _ hD).mono ?_;rintro e' w' ⟨rfl,rfl⟩) | (go_at_call 113;refine (textHolds_f _ _ _ hX).mono ?_;rintro e' w' ⟨rfl,rfl⟩) | (go_at_call 114;refine (inputsHold_f a n c _ _ hI).mono ?_;rintro e' w' ⟨rfl,rfl⟩))
     go_ret
     refine ⟨RetB.f fun hv=>?_,by repeat (first | exact hb0 | refine below_drewN ?_ _)⟩;have hv:=(vM5 _ _ _ _ _ _ _).1 hv;have:=GL.out;omega
    | true =>
     have gL : l = 0:=by simpa using hL
     have GL:=hid gL
     clear gL
     cases hD : (d == 0) with
     | false =>
      have gD : ¬ d = 0:=by simpa using hD
      have GD:=hid gD
      clear gD
      go_enter Tryz.func83,Tryz.ntmps83
      go_wp2_with (first | (go_at_call 111;refine (isKind_any _ _).mono ?_;rintro e' w' ⟨rfl,rfl⟩) | (go_at_call 75;refine (within_any _ _ _ _).mono ?_;rintro e' w' ⟨rfl,rfl⟩) | (go_at_call 110;refine (leaseHolds_f _ _ _ hL).mono ?_;rintro e' w' ⟨rfl,rfl⟩) | (go_at_call 112;refine (taskHolds_f _ _ _ hD).mono ?_;rintro e' w' ⟨rfl,rfl⟩) | (go_at_call 113;refine (textHolds_f _ _ _ hX).mono ?_;rintro e' w' ⟨rfl,rfl⟩) | (go_at_call 114;refine (inputsHold_f a n c _ _ hI).mono ?_;rintro e' w' ⟨rfl,rfl⟩))
      go_quiet (fail)
      go_wp2_with (first | (go_at_call 111;refine (isKind_any _ _).mono ?_;rintro e' w' ⟨rfl,rfl⟩) | (go_at_call 75;refine (within_any _ _ _ _).mono ?_;rintro e' w' ⟨rfl,rfl⟩) | (go_at_call 110;refine (leaseHolds_f _ _ _ hL).mono ?_;rintro e' w' ⟨rfl,rfl⟩) | (go_at_call 112;refine (taskHolds_f _ _ _ hD).mono ?_;rintro e' w' ⟨rfl,rfl⟩) | (go_at_call 113;refine (textHolds_f _ _ _ hX).mono ?_;rintro e' w' ⟨rfl,rfl⟩) | (go_at_call 114;refine (inputsHold_f a n c _ _ hI).mono ?_;rintro e' w' ⟨rfl,rfl⟩))
      go_ret
      refine ⟨RetB.f fun hv=>?_,by repeat (first | exact hb0 | refine below_drewN ?_ _)⟩;have hv:=(vM5 _ _ _ _ _ _ _).1 hv;have:=GD.out;omega
     | true =>
      have gD : d = 0:=by simpa using hD
      have GD:=hid gD
      clear gD
      cases hX : x.toList.isEmpty with
      | false =>
       have gX : ¬ x.size = 0:=fun hh=>by rw [empty_t hh] at hX;cases hX
       have GX:=hid gX
       clear gX
       go_enter Tryz.func83,Tryz.ntmps83
       go_wp2_with (first | (go_at_call 111;refine (isKind_any _ _).mono ?_;rintro e' w' ⟨rfl,rfl⟩) | (go_at_call 75;refine (within_any _ _ _ _).mono ?_;rintro e' w' ⟨rfl,rfl⟩) | (go_at_call 110;refine (leaseHolds_f _ _ _ hL).mono ?_;rintro e' w' ⟨rfl,rfl⟩) | (go_at_call 112;refine (taskHolds_f _ _ _ hD).mono ?_;rintro e' w' ⟨rfl,rfl⟩) | (go_at_call 113;refine (textHolds_f _ _ _ hX).mono ?_;rintro e' w' ⟨rfl,rfl⟩) | (go_at_call 114;refine (inputsHold_f a n c _ _ hI).mono ?_;rintro e' w' ⟨rfl,rfl⟩))
       go_quiet (fail)
       go_wp2_with (first | (go_at_call 111;refine (isKind_any _ _).mono ?_;rintro e' w' ⟨rfl,rfl⟩) | (go_at_call 75;refine (within_any _ _ _ _).mono ?_;rintro e' w' ⟨rfl,rfl⟩) | (go_at_call 110;refine (leaseHolds_f _ _ _ hL).mono ?_;rintro e' w' ⟨rfl,rfl⟩) | (go_at_call 112;refine (taskHolds_f _ _ _ hD).mono ?_;rintro e' w' ⟨rfl,rfl⟩) | (go_at_call 113;refine (textHolds_f _ _ _ hX).mono ?_;rintro e' w' ⟨rfl,rfl⟩) | (go_at_call 114;refine (inputsHold_f a n c _ _ hI).mono ?_;rintro e' w' ⟨rfl,rfl⟩))
       go_ret
       refine ⟨RetB.f fun hv=>?_,by repeat (first | exact hb0 | refine below_drewN ?_ _)⟩;have hv:=(vM5 _ _ _ _ _ _ _).1 hv;have:=GX.out;omega
      | true =>
       have gX : x.size = 0:=Decidable.byContradiction fun hh=>by rw [empty_f hh] at hX;cases hX
       have GX:=hid gX
       clear gX
       cases hI : ((n : Int) == 0) with
       | false =>
        have gI : ¬ n = 0:=by simp at hI;omega
        have GI:=hid gI
        clear gI
        go_enter Tryz.func83,Tryz.ntmps83
        go_wp2_with (first | (go_at_call 111;refine (isKind_any _ _).mono ?_;rintro e' w' ⟨rfl,rfl⟩) | (go_at_call 75;refine (within_any _ _ _ _).mono ?_;rintro e' w' ⟨rfl,rfl⟩) | (go_at_call 110;refine (leaseHolds_f _ _ _ hL).mono ?_;rintro e' w' ⟨rfl,rfl⟩) | (go_at_call 112;refine (taskHolds_f _ _ _ hD).mono ?_;rintro e' w' ⟨rfl,rfl⟩) | (go_at_call 113;refine (textHolds_f _ _ _ hX).mono ?_;rintro e' w' ⟨rfl,rfl⟩) | (go_at_call 114;refine (inputsHold_f a n c _ _ hI).mono ?_;rintro e' w' ⟨rfl,rfl⟩))
        go_quiet (fail)
        go_wp2_with (first | (go_at_call 111;refine (isKind_any _ _).mono ?_;rintro e' w' ⟨rfl,rfl⟩) | (go_at_call 75;refine (within_any _ _ _ _).mono ?_;rintro e' w' ⟨rfl,rfl⟩) | (go_at_call 110;refine (leaseHolds_f _ _ _ hL).mono ?_;rintro e' w' ⟨rfl,rfl⟩) | (go_at_call 112;refine (taskHolds_f _ _ _ hD).mono ?_;rintro e' w' ⟨rfl,rfl⟩) | (go_at_call 113;refine (textHolds_f _ _ _ hX).mono ?_;rintro e' w' ⟨rfl,rfl⟩) | (go_at_call 114;refine (inputsHold_f a n c _ _ hI).mono ?_;rintro e' w' ⟨rfl,rfl⟩))
        go_ret
        refine ⟨RetB.f fun hv=>?_,by repeat (first | exact hb0 | refine below_drewN ?_ _)⟩;have hv:=(vM5 _ _ _ _ _ _ _).1 hv;have:=GI.out;rw [HL.out] at hv;omega
       | true =>
        have gI : n = 0:=by simp at hI;omega
        have GI:=hid gI
        clear gI
        go_enter Tryz.func83,Tryz.ntmps83
        go_wp2_with (first | (go_at_call 111;refine (isKind_any _ _).mono ?_;rintro e' w' ⟨rfl,rfl⟩) | (go_at_call 75;refine (within_any _ _ _ _).mono ?_;rintro e' w' ⟨rfl,rfl⟩) | (go_at_call 110;refine (leaseHolds_f _ _ _ hL).mono ?_;rintro e' w' ⟨rfl,rfl⟩) | (go_at_call 112;refine (taskHolds_f _ _ _ hD).mono ?_;rintro e' w' ⟨rfl,rfl⟩) | (go_at_call 113;refine (textHolds_f _ _ _ hX).mono ?_;rintro e' w' ⟨rfl,rfl⟩) | (go_at_call 114;refine (inputsHold_f a n c _ _ hI).mono ?_;rintro e' w' ⟨rfl,rfl⟩))
        go_quiet (fail)
        go_wp2_with (first | (go_at_call 111;refine (isKind_any _ _).mono ?_;rintro e' w' ⟨rfl,rfl⟩) | (go_at_call 75;refine (within_any _ _ _ _).mono ?_;rintro e' w' ⟨rfl,rfl⟩) | (go_at_call 110;refine (leaseHolds_f _ _ _ hL).mono ?_;rintro e' w' ⟨rfl,rfl⟩) | (go_at_call 112;refine (taskHolds_f _ _ _ hD).mono ?_;rintro e' w' ⟨rfl,rfl⟩) | (go_at_call 113;refine (textHolds_f _ _ _ hX).mono ?_;rintro e' w' ⟨rfl,rfl⟩) | (go_at_call 114;refine (inputsHold_f a n c _ _ hI).mono ?_;rintro e' w' ⟨rfl,rfl⟩))
        go_ret
        refine ⟨RetB.t ((vM5 _ _ _ _ _ _ _).2 ?_),by repeat (first | exact hb0 | refine below_drewN ?_ _)⟩;have:=GP.out;have:=GQ.out;have:=GE.out;have:=GL.out;have:=GD.out;have:=GX.out;have:=GI.out;rw [HL.out];omega
end Go.Proofs.YtaeomkpofcbmiaaGreatDoor
namespace Go.Proofs.YtaeomkpofcbmiaaGreatDoor
open Go.RowKit
theorem vM_k {k f t e l d : Int} {z : Nat} {ss : List ByteArray} (h : vM k f t e l d z ss) : 1 ≤ k ∧ k ≤ 5:=by
 unfold vM at h
 rcases h with h | h | h | h | h <;> (obtain ⟨rfl,_⟩:=h;omega)
theorem l2Ok_0 (k f t e l d : Int) (x : ByteArray) (a : Option Addr) (n c : Nat) (ss : List ByteArray) (w : World) (hk : inB k 1 5 = false) :
  Calls Tryz.prog 29 #[.agg #[.int .i64 k,.int .i64 f,.int .i64 t,.int .i64 e,.int .i64 l,.int .i64 d,.string x,.slice a n c]] w fun e' w'=>RetB e' (vM k f t e l d x.size ss) ∧ Below w.heap.size w w':=by
 have hb0 : Below w.heap.size w (w.alloc (.cells #[.int .i64 k,.int .i64 f,.int .i64 t,.int .i64 e,.int .i64 l,.int .i64 d,.string x,.slice a n c] 53)):=(Below.refl _ _).alloc (Nat.le_refl _) _
 have GK:=hid (inB_f hk)
 go_enter Tryz.func29,Tryz.ntmps29
 go_wp2_with (go_at_call 60;refine (l2In_any _ _ _ _).mono ?_;rintro e' w' ⟨rfl,rfl⟩)
 go_ret
 exact ⟨RetB.f fun hv=>GK.out (vM_k hv),hb0⟩
theorem valid_0 (k f t e l d : Int) (x : ByteArray) (a : Option Addr) (n c : Nat) (ss : List ByteArray) (w : World) (hk : inB k 1 5 = false) :
  Calls Tryz.prog 83 #[.agg #[.int .i64 k,.int .i64 f,.int .i64 t,.int .i64 e,.int .i64 l,.int .i64 d,.string x,.slice a n c]] w fun e' w'=>RetB e' (vM k f t e l d x.size ss) ∧ Below w.heap.size w w':=by
 have hb0 : Below w.heap.size w (w.alloc (.cells #[.int .i64 k,.int .i64 f,.int .i64 t,.int .i64 e,.int .i64 l,.int .i64 d,.string x,.slice a n c] 53)):=(Below.refl _ _).alloc (Nat.le_refl _) _
 have GK:=hid (inB_f hk)
 go_enter Tryz.func83,Tryz.ntmps83
 go_wp2_with (go_at_call 111;refine (isKind_any _ _).mono ?_;rintro e' w' ⟨rfl,rfl⟩)
 go_ret
 exact ⟨RetB.f fun hv=>GK.out (vM_k hv),hb0⟩
theorem l2Ok_any (k f t e l d : Int) (x : ByteArray) (a : Option Addr) (b o n c : Nat) (ss : List ByteArray) (w : World) (h : StrsAt w a b o n ss) :
  Calls Tryz.prog 29 #[.agg #[.int .i64 k,.int .i64 f,.int .i64 t,.int .i64 e,.int .i64 l,.int .i64 d,.string x,.slice a n c]] w fun e' w'=>RetB e' (vM k f t e l d x.size ss) ∧ Below w.heap.size w w':=by
 cases hk : inB k 1 5 with
 | false=>exact l2Ok_0 k f t e l d x a n c ss w hk
 | true =>
  have:=inB_t hk
  obtain rfl | rfl | rfl | rfl | rfl : k = 1 ∨ k = 2 ∨ k = 3 ∨ k = 4 ∨ k = 5:=by omega
  ·exact l2Ok_1 f t e l d x a b o n c ss w h
  ·exact l2Ok_2 f t e l d x a b o n c ss w h
  ·exact l2Ok_3 f t e l d x a b o n c ss w h
  ·exact l2Ok_4 f t e l d x a b o n c ss w h
  ·exact l2Ok_5 f t e l d x a b o n c ss w h
theorem valid_any (k f t e l d : Int) (x : ByteArray) (a : Option Addr) (b o n c : Nat) (ss : List ByteArray) (w : World) (hT : Tab w) (h : StrsAt w a b o n ss) :
  Calls Tryz.prog 83 #[.agg #[.int .i64 k,.int .i64 f,.int .i64 t,.int .i64 e,.int .i64 l,.int .i64 d,.string x,.slice a n c]] w fun e' w'=>RetB e' (vM k f t e l d x.size ss) ∧ Below w.heap.size w w':=by
 cases hk : inB k 1 5 with
 | false=>exact valid_0 k f t e l d x a n c ss w hk
 | true =>
  have:=inB_t hk
  obtain rfl | rfl | rfl | rfl | rfl : k = 1 ∨ k = 2 ∨ k = 3 ∨ k = 4 ∨ k = 5:=by omega
  ·exact valid_1 f t e l d x a b o n c ss w hT h
  ·exact valid_2 f t e l d x a b o n c ss w hT h
  ·exact valid_3 f t e l d x a b o n c ss w hT h
  ·exact valid_4 f t e l d x a b o n c ss w hT h
  ·exact valid_5 f t e l d x a b o n c ss w hT h
end Go.Proofs.YtaeomkpofcbmiaaGreatDoor
