
import Derived.Test.YtaeomkpofcbmiaaGreatDoorQCel
set_option maxHeartbeats 4000000
set_option maxRecDepth 100000
namespace Go.Proofs.YtaeomkpofcbmiaaGreatDoor
open Go.RowKit
theorem l2Ok_1 (f t e l d : Int) (x : ByteArray) (a : Option Addr) (b o n c : Nat) (ss : List ByteArray) (w : World) (h : StrsAt w a b o n ss) :
  Calls Tryz.prog 29 #[.agg #[.int .i64 1,.int .i64 f,.int .i64 t,.int .i64 e,.int .i64 l,.int .i64 d,.string x,.slice a n c]] w fun e' w'=>RetB e' (vM 1 f t e l d x.size ss) ∧ Below w.heap.size w w':=by
 have hb0 : Below w.heap.size w (w.alloc (.cells #[.int .i64 1,.int .i64 f,.int .i64 t,.int .i64 e,.int .i64 l,.int .i64 d,.string x,.slice a n c] 53)):=(Below.refl _ _).alloc (Nat.le_refl _) _
 have hkk : inB 1 1 5 = true:=by decide
 have hmax:=h.max
 have HL : Hid (ss.length = n):=h.len
 unfold maxLen at hmax
 cases hE : inB e 1 300 with
 | false =>
  have gE:=inB_f hE
  go_enter Tryz.func29,Tryz.ntmps29
  go_wp2_with (first | (go_at_call 60;refine (l2In_any _ _ _ _).mono ?_;rintro e' w' ⟨rfl,rfl⟩) | (go_at_call 66;refine (l2Uses_1 _).mono ?_;rintro e' w' ⟨rfl,rfl⟩) | (go_at_call 63;refine (l2LeaseOk_any _ _).mono ?_;rintro e' w' ⟨rfl,rfl⟩))
  go_ret
  refine ⟨RetB.f fun hv=>?_,hb0⟩;have hv:=(vM1 _ _ _ _ _ _ _).1 hv;omega
 | true =>
  have gE:=inB_t hE
  by_cases g0 : ¬ (f = 0)
  ·have g0' : (f == 0) = false:=by simpa using g0
   go_enter Tryz.func29,Tryz.ntmps29
   go_wp2_with (first | (go_at_call 60;refine (l2In_any _ _ _ _).mono ?_;rintro e' w' ⟨rfl,rfl⟩) | (go_at_call 66;refine (l2Uses_1 _).mono ?_;rintro e' w' ⟨rfl,rfl⟩) | (go_at_call 63;refine (l2LeaseOk_any _ _).mono ?_;rintro e' w' ⟨rfl,rfl⟩))
   go_ret
   refine ⟨RetB.f fun hv=>?_,hb0⟩;have hv:=(vM1 _ _ _ _ _ _ _).1 hv;omega
  have g0:=Decidable.of_not_not g0
  subst g0
  cases hQ : inB t 1 8 with
  | false =>
   have gQ:=inB_f hQ
   go_enter Tryz.func29,Tryz.ntmps29
   go_wp2_with (first | (go_at_call 60;refine (l2In_any _ _ _ _).mono ?_;rintro e' w' ⟨rfl,rfl⟩) | (go_at_call 66;refine (l2Uses_1 _).mono ?_;rintro e' w' ⟨rfl,rfl⟩) | (go_at_call 63;refine (l2LeaseOk_any _ _).mono ?_;rintro e' w' ⟨rfl,rfl⟩))
   go_ret
   refine ⟨RetB.f fun hv=>?_,hb0⟩;have hv:=(vM1 _ _ _ _ _ _ _).1 hv;omega
  | true =>
   have gQ:=inB_t hQ
   cases hL : inB l 1 300000000 with
   | false =>
    have gL:=inB_f hL
    go_enter Tryz.func29,Tryz.ntmps29
    go_wp2_with (first | (go_at_call 60;refine (l2In_any _ _ _ _).mono ?_;rintro e' w' ⟨rfl,rfl⟩) | (go_at_call 66;refine (l2Uses_1 _).mono ?_;rintro e' w' ⟨rfl,rfl⟩) | (go_at_call 63;refine (l2LeaseOk_any _ _).mono ?_;rintro e' w' ⟨rfl,rfl⟩))
    go_ret
    refine ⟨RetB.f fun hv=>?_,hb0⟩;have hv:=(vM1 _ _ _ _ _ _ _).1 hv;omega
   | true =>
    have gL:=inB_t hL
    cases hD : inB d 0 39 with
    | false =>
     have gD:=inB_f hD
     go_enter Tryz.func29,Tryz.ntmps29
     go_wp2_with (first | (go_at_call 60;refine (l2In_any _ _ _ _).mono ?_;rintro e' w' ⟨rfl,rfl⟩) | (go_at_call 66;refine (l2Uses_1 _).mono ?_;rintro e' w' ⟨rfl,rfl⟩) | (go_at_call 63;refine (l2LeaseOk_any _ _).mono ?_;rintro e' w' ⟨rfl,rfl⟩))
     go_ret
     refine ⟨RetB.f fun hv=>?_,hb0⟩;have hv:=(vM1 _ _ _ _ _ _ _).1 hv;omega
    | true =>
     have gD:=inB_t hD
     by_cases gX : ¬ (x.size = 0)
     ·have gX':=empty_f gX
      go_enter Tryz.func29,Tryz.ntmps29
      go_wp2_with (first | (go_at_call 60;refine (l2In_any _ _ _ _).mono ?_;rintro e' w' ⟨rfl,rfl⟩) | (go_at_call 66;refine (l2Uses_1 _).mono ?_;rintro e' w' ⟨rfl,rfl⟩) | (go_at_call 63;refine (l2LeaseOk_any _ _).mono ?_;rintro e' w' ⟨rfl,rfl⟩))
      go_ret
      refine ⟨RetB.f fun hv=>?_,hb0⟩;have hv:=(vM1 _ _ _ _ _ _ _).1 hv;omega
     have gX:=Decidable.of_not_not gX
     have gX':=empty_t gX
     have GX : Hid (x.size = 0):=gX
     clear gX
     by_cases gI : inOk ss
     ·have GI : Hid (inOk ss):=gI
      go_enter Tryz.func29,Tryz.ntmps29
      go_wp2_with (first | (go_at_call 60;refine (l2In_any _ _ _ _).mono ?_;rintro e' w' ⟨rfl,rfl⟩) | (go_at_call 66;refine (l2Uses_1 _).mono ?_;rintro e' w' ⟨rfl,rfl⟩) | (go_at_call 63;refine (l2LeaseOk_any _ _).mono ?_;rintro e' w' ⟨rfl,rfl⟩) | (go_at_call 67;refine (l2InputsOk_any a b o n c ss _ (h.below' hb0)).mono ?_;rintro e' w' ⟨⟨r,rfl,hr⟩,rfl⟩;obtain rfl:=hr.2 gI;clear hr))
      go_ret
      exact ⟨RetB.t ((vM1 _ _ _ _ _ _ _).2 ⟨by omega,by omega,by omega,by omega,by omega,by omega,by omega,by omega,by omega,GX.out,gI⟩),hb0⟩
     ·go_enter Tryz.func29,Tryz.ntmps29
      go_wp2_with (first | (go_at_call 60;refine (l2In_any _ _ _ _).mono ?_;rintro e' w' ⟨rfl,rfl⟩) | (go_at_call 66;refine (l2Uses_1 _).mono ?_;rintro e' w' ⟨rfl,rfl⟩) | (go_at_call 63;refine (l2LeaseOk_any _ _).mono ?_;rintro e' w' ⟨rfl,rfl⟩) | (go_at_call 67;refine (l2InputsOk_any a b o n c ss _ (h.below' hb0)).mono ?_;rintro e' w' ⟨⟨r,rfl,hr⟩,rfl⟩;obtain rfl : r = false:=Bool.eq_false_iff.2 (fun hb=>gI (hr.1 hb));clear hr))
      go_ret
      exact ⟨RetB.f fun hv=>gI ((vM1 _ _ _ _ _ _ _).1 hv).2.2.2.2.2.2.2.2.2.2,hb0⟩
theorem l2Ok_2 (f t e l d : Int) (x : ByteArray) (a : Option Addr) (b o n c : Nat) (ss : List ByteArray) (w : World) (h : StrsAt w a b o n ss) :
  Calls Tryz.prog 29 #[.agg #[.int .i64 2,.int .i64 f,.int .i64 t,.int .i64 e,.int .i64 l,.int .i64 d,.string x,.slice a n c]] w fun e' w'=>RetB e' (vM 2 f t e l d x.size ss) ∧ Below w.heap.size w w':=by
 have hb0 : Below w.heap.size w (w.alloc (.cells #[.int .i64 2,.int .i64 f,.int .i64 t,.int .i64 e,.int .i64 l,.int .i64 d,.string x,.slice a n c] 53)):=(Below.refl _ _).alloc (Nat.le_refl _) _
 have hkk : inB 2 1 5 = true:=by decide
 have hmax:=h.max
 have HL : Hid (ss.length = n):=h.len
 unfold maxLen at hmax
 cases hE : inB e 1 300 with
 | false =>
  have gE:=inB_f hE
  go_enter Tryz.func29,Tryz.ntmps29
  go_wp2_with (first | (go_at_call 60;refine (l2In_any _ _ _ _).mono ?_;rintro e' w' ⟨rfl,rfl⟩) | (go_at_call 66;refine (l2Uses_2 _).mono ?_;rintro e' w' ⟨rfl,rfl⟩) | (go_at_call 63;refine (l2LeaseOk_any _ _).mono ?_;rintro e' w' ⟨rfl,rfl⟩))
  go_ret
  refine ⟨RetB.f fun hv=>?_,hb0⟩;have hv:=(vM2 _ _ _ _ _ _ _).1 hv;omega
 | true =>
  have gE:=inB_t hE
  by_cases g0 : ¬ (t = 0)
  ·have g0' : (t == 0) = false:=by simpa using g0
   go_enter Tryz.func29,Tryz.ntmps29
   go_wp2_with (first | (go_at_call 60;refine (l2In_any _ _ _ _).mono ?_;rintro e' w' ⟨rfl,rfl⟩) | (go_at_call 66;refine (l2Uses_2 _).mono ?_;rintro e' w' ⟨rfl,rfl⟩) | (go_at_call 63;refine (l2LeaseOk_any _ _).mono ?_;rintro e' w' ⟨rfl,rfl⟩))
   go_ret
   refine ⟨RetB.f fun hv=>?_,hb0⟩;have hv:=(vM2 _ _ _ _ _ _ _).1 hv;omega
  have g0:=Decidable.of_not_not g0
  subst g0
  cases hQ : inB f 1 8 with
  | false =>
   have gQ:=inB_f hQ
   go_enter Tryz.func29,Tryz.ntmps29
   go_wp2_with (first | (go_at_call 60;refine (l2In_any _ _ _ _).mono ?_;rintro e' w' ⟨rfl,rfl⟩) | (go_at_call 66;refine (l2Uses_2 _).mono ?_;rintro e' w' ⟨rfl,rfl⟩) | (go_at_call 63;refine (l2LeaseOk_any _ _).mono ?_;rintro e' w' ⟨rfl,rfl⟩))
   go_ret
   refine ⟨RetB.f fun hv=>?_,hb0⟩;have hv:=(vM2 _ _ _ _ _ _ _).1 hv;omega
  | true =>
   have gQ:=inB_t hQ
   cases hL : inB l 1 300000000 with
   | false =>
    have gL:=inB_f hL
    go_enter Tryz.func29,Tryz.ntmps29
    go_wp2_with (first | (go_at_call 60;refine (l2In_any _ _ _ _).mono ?_;rintro e' w' ⟨rfl,rfl⟩) | (go_at_call 66;refine (l2Uses_2 _).mono ?_;rintro e' w' ⟨rfl,rfl⟩) | (go_at_call 63;refine (l2LeaseOk_any _ _).mono ?_;rintro e' w' ⟨rfl,rfl⟩))
    go_ret
    refine ⟨RetB.f fun hv=>?_,hb0⟩;have hv:=(vM2 _ _ _ _ _ _ _).1 hv;omega
   | true =>
    have gL:=inB_t hL
    by_cases gD : ¬ (d = 0)
    ·have gD' : (d == 0) = false:=by simpa using gD
     go_enter Tryz.func29,Tryz.ntmps29
     go_wp2_with (first | (go_at_call 60;refine (l2In_any _ _ _ _).mono ?_;rintro e' w' ⟨rfl,rfl⟩) | (go_at_call 66;refine (l2Uses_2 _).mono ?_;rintro e' w' ⟨rfl,rfl⟩) | (go_at_call 63;refine (l2LeaseOk_any _ _).mono ?_;rintro e' w' ⟨rfl,rfl⟩))
     go_ret
     refine ⟨RetB.f fun hv=>?_,hb0⟩;have hv:=(vM2 _ _ _ _ _ _ _).1 hv;omega
    have gD:=Decidable.of_not_not gD
    subst gD
    by_cases gX : ¬ (x.size = 0)
    ·have gX':=empty_f gX
     go_enter Tryz.func29,Tryz.ntmps29
     go_wp2_with (first | (go_at_call 60;refine (l2In_any _ _ _ _).mono ?_;rintro e' w' ⟨rfl,rfl⟩) | (go_at_call 66;refine (l2Uses_2 _).mono ?_;rintro e' w' ⟨rfl,rfl⟩) | (go_at_call 63;refine (l2LeaseOk_any _ _).mono ?_;rintro e' w' ⟨rfl,rfl⟩))
     go_ret
     refine ⟨RetB.f fun hv=>?_,hb0⟩;have hv:=(vM2 _ _ _ _ _ _ _).1 hv;omega
    have gX:=Decidable.of_not_not gX
    have gX':=empty_t gX
    have GX : Hid (x.size = 0):=gX
    clear gX
    by_cases gN : ¬ (n = 0)
    ·have gN' : ((n : Int) == 0) = false:=by simp;omega
     go_enter Tryz.func29,Tryz.ntmps29
     go_wp2_with (first | (go_at_call 60;refine (l2In_any _ _ _ _).mono ?_;rintro e' w' ⟨rfl,rfl⟩) | (go_at_call 66;refine (l2Uses_2 _).mono ?_;rintro e' w' ⟨rfl,rfl⟩) | (go_at_call 63;refine (l2LeaseOk_any _ _).mono ?_;rintro e' w' ⟨rfl,rfl⟩))
     go_ret
     refine ⟨RetB.f fun hv=>?_,hb0⟩;have hv:=(vM2 _ _ _ _ _ _ _).1 hv;rw [HL.out] at hv;omega
    have gN:=Decidable.of_not_not gN
    have gN' : ((n : Int) == 0) = true:=by simp;omega
    have GN : Hid (n = 0):=gN
    clear gN
    go_enter Tryz.func29,Tryz.ntmps29
    go_wp2_with (first | (go_at_call 60;refine (l2In_any _ _ _ _).mono ?_;rintro e' w' ⟨rfl,rfl⟩) | (go_at_call 66;refine (l2Uses_2 _).mono ?_;rintro e' w' ⟨rfl,rfl⟩) | (go_at_call 63;refine (l2LeaseOk_any _ _).mono ?_;rintro e' w' ⟨rfl,rfl⟩))
    go_ret
    refine ⟨RetB.t ?_,hb0⟩;rw [vM2,HL.out];have:=GX.out;have:=GN.out;omega
theorem l2Ok_3 (f t e l d : Int) (x : ByteArray) (a : Option Addr) (b o n c : Nat) (ss : List ByteArray) (w : World) (h : StrsAt w a b o n ss) :
  Calls Tryz.prog 29 #[.agg #[.int .i64 3,.int .i64 f,.int .i64 t,.int .i64 e,.int .i64 l,.int .i64 d,.string x,.slice a n c]] w fun e' w'=>RetB e' (vM 3 f t e l d x.size ss) ∧ Below w.heap.size w w':=by
 have hb0 : Below w.heap.size w (w.alloc (.cells #[.int .i64 3,.int .i64 f,.int .i64 t,.int .i64 e,.int .i64 l,.int .i64 d,.string x,.slice a n c] 53)):=(Below.refl _ _).alloc (Nat.le_refl _) _
 have hkk : inB 3 1 5 = true:=by decide
 have hmax:=h.max
 have HL : Hid (ss.length = n):=h.len
 unfold maxLen at hmax
 cases hE : inB e 1 300 with
 | false =>
  have gE:=inB_f hE
  go_enter Tryz.func29,Tryz.ntmps29
  go_wp2_with (first | (go_at_call 60;refine (l2In_any _ _ _ _).mono ?_;rintro e' w' ⟨rfl,rfl⟩) | (go_at_call 66;refine (l2Uses_3 _).mono ?_;rintro e' w' ⟨rfl,rfl⟩) | (go_at_call 63;refine (l2LeaseOk_any _ _).mono ?_;rintro e' w' ⟨rfl,rfl⟩))
  go_ret
  refine ⟨RetB.f fun hv=>?_,hb0⟩;have hv:=(vM3 _ _ _ _ _ _ _).1 hv;omega
 | true =>
  have gE:=inB_t hE
  by_cases g0 : ¬ (t = 0)
  ·have g0' : (t == 0) = false:=by simpa using g0
   go_enter Tryz.func29,Tryz.ntmps29
   go_wp2_with (first | (go_at_call 60;refine (l2In_any _ _ _ _).mono ?_;rintro e' w' ⟨rfl,rfl⟩) | (go_at_call 66;refine (l2Uses_3 _).mono ?_;rintro e' w' ⟨rfl,rfl⟩) | (go_at_call 63;refine (l2LeaseOk_any _ _).mono ?_;rintro e' w' ⟨rfl,rfl⟩))
   go_ret
   refine ⟨RetB.f fun hv=>?_,hb0⟩;have hv:=(vM3 _ _ _ _ _ _ _).1 hv;omega
  have g0:=Decidable.of_not_not g0
  subst g0
  cases hQ : inB f 1 8 with
  | false =>
   have gQ:=inB_f hQ
   go_enter Tryz.func29,Tryz.ntmps29
   go_wp2_with (first | (go_at_call 60;refine (l2In_any _ _ _ _).mono ?_;rintro e' w' ⟨rfl,rfl⟩) | (go_at_call 66;refine (l2Uses_3 _).mono ?_;rintro e' w' ⟨rfl,rfl⟩) | (go_at_call 63;refine (l2LeaseOk_any _ _).mono ?_;rintro e' w' ⟨rfl,rfl⟩))
   go_ret
   refine ⟨RetB.f fun hv=>?_,hb0⟩;have hv:=(vM3 _ _ _ _ _ _ _).1 hv;omega
  | true =>
   have gQ:=inB_t hQ
   cases hL : inB l 1 300000000 with
   | false =>
    have gL:=inB_f hL
    go_enter Tryz.func29,Tryz.ntmps29
    go_wp2_with (first | (go_at_call 60;refine (l2In_any _ _ _ _).mono ?_;rintro e' w' ⟨rfl,rfl⟩) | (go_at_call 66;refine (l2Uses_3 _).mono ?_;rintro e' w' ⟨rfl,rfl⟩) | (go_at_call 63;refine (l2LeaseOk_any _ _).mono ?_;rintro e' w' ⟨rfl,rfl⟩))
    go_ret
    refine ⟨RetB.f fun hv=>?_,hb0⟩;have hv:=(vM3 _ _ _ _ _ _ _).1 hv;omega
   | true =>
    have gL:=inB_t hL
    cases hD : inB d 0 39 with
    | false =>
     have gD:=inB_f hD
     go_enter Tryz.func29,Tryz.ntmps29
     go_wp2_with (first | (go_at_call 60;refine (l2In_any _ _ _ _).mono ?_;rintro e' w' ⟨rfl,rfl⟩) | (go_at_call 66;refine (l2Uses_3 _).mono ?_;rintro e' w' ⟨rfl,rfl⟩) | (go_at_call 63;refine (l2LeaseOk_any _ _).mono ?_;rintro e' w' ⟨rfl,rfl⟩))
     go_ret
     refine ⟨RetB.f fun hv=>?_,hb0⟩;have hv:=(vM3 _ _ _ _ _ _ _).1 hv;omega
    | true =>
     have gD:=inB_t hD
     by_cases gX : ¬ (x.size = 8)
     ·have gX' : ((x.size : Int) == 8) = false:=by simp;omega
      go_enter Tryz.func29,Tryz.ntmps29
      go_wp2_with (first | (go_at_call 60;refine (l2In_any _ _ _ _).mono ?_;rintro e' w' ⟨rfl,rfl⟩) | (go_at_call 66;refine (l2Uses_3 _).mono ?_;rintro e' w' ⟨rfl,rfl⟩) | (go_at_call 63;refine (l2LeaseOk_any _ _).mono ?_;rintro e' w' ⟨rfl,rfl⟩))
      go_ret
      refine ⟨RetB.f fun hv=>?_,hb0⟩;have hv:=(vM3 _ _ _ _ _ _ _).1 hv;omega
     have gX:=Decidable.of_not_not gX
     have gX' : ((x.size : Int) == 8) = true:=by simp;omega
     have GX : Hid (x.size = 8):=gX
     clear gX
     by_cases gN : ¬ (n = 0)
     ·have gN' : ((n : Int) == 0) = false:=by simp;omega
      go_enter Tryz.func29,Tryz.ntmps29
      go_wp2_with (first | (go_at_call 60;refine (l2In_any _ _ _ _).mono ?_;rintro e' w' ⟨rfl,rfl⟩) | (go_at_call 66;refine (l2Uses_3 _).mono ?_;rintro e' w' ⟨rfl,rfl⟩) | (go_at_call 63;refine (l2LeaseOk_any _ _).mono ?_;rintro e' w' ⟨rfl,rfl⟩))
      go_ret
      refine ⟨RetB.f fun hv=>?_,hb0⟩;have hv:=(vM3 _ _ _ _ _ _ _).1 hv;rw [HL.out] at hv;omega
     have gN:=Decidable.of_not_not gN
     have gN' : ((n : Int) == 0) = true:=by simp;omega
     have GN : Hid (n = 0):=gN
     clear gN
     go_enter Tryz.func29,Tryz.ntmps29
     go_wp2_with (first | (go_at_call 60;refine (l2In_any _ _ _ _).mono ?_;rintro e' w' ⟨rfl,rfl⟩) | (go_at_call 66;refine (l2Uses_3 _).mono ?_;rintro e' w' ⟨rfl,rfl⟩) | (go_at_call 63;refine (l2LeaseOk_any _ _).mono ?_;rintro e' w' ⟨rfl,rfl⟩))
     go_ret
     refine ⟨RetB.t ?_,hb0⟩;rw [vM3,HL.out];have:=GX.out;have:=GN.out;omega
theorem l2Ok_4 (f t e l d : Int) (x : ByteArray) (a : Option Addr) (b o n c : Nat) (ss : List ByteArray) (w : World) (h : StrsAt w a b o n ss) :
  Calls Tryz.prog 29 #[.agg #[.int .i64 4,.int .i64 f,.int .i64 t,.int .i64 e,.int .i64 l,.int .i64 d,.string x,.slice a n c]] w fun e' w'=>RetB e' (vM 4 f t e l d x.size ss) ∧ Below w.heap.size w w':=by
 have hb0 : Below w.heap.size w (w.alloc (.cells #[.int .i64 4,.int .i64 f,.int .i64 t,.int .i64 e,.int .i64 l,.int .i64 d,.string x,.slice a n c] 53)):=(Below.refl _ _).alloc (Nat.le_refl _) _
 have hkk : inB 4 1 5 = true:=by decide
 have hmax:=h.max
 have HL : Hid (ss.length = n):=h.len
 unfold maxLen at hmax
 cases hE : inB e 1 300 with
 | false =>
  have gE:=inB_f hE
  go_enter Tryz.func29,Tryz.ntmps29
  go_wp2_with (first | (go_at_call 60;refine (l2In_any _ _ _ _).mono ?_;rintro e' w' ⟨rfl,rfl⟩) | (go_at_call 66;refine (l2Uses_4 _).mono ?_;rintro e' w' ⟨rfl,rfl⟩) | (go_at_call 63;refine (l2LeaseOk_any _ _).mono ?_;rintro e' w' ⟨rfl,rfl⟩))
  go_ret
  refine ⟨RetB.f fun hv=>?_,hb0⟩;have hv:=(vM4 _ _ _ _ _ _ _).1 hv;omega
 | true =>
  have gE:=inB_t hE
  by_cases g0 : ¬ (f = 0)
  ·have g0' : (f == 0) = false:=by simpa using g0
   go_enter Tryz.func29,Tryz.ntmps29
   go_wp2_with (first | (go_at_call 60;refine (l2In_any _ _ _ _).mono ?_;rintro e' w' ⟨rfl,rfl⟩) | (go_at_call 66;refine (l2Uses_4 _).mono ?_;rintro e' w' ⟨rfl,rfl⟩) | (go_at_call 63;refine (l2LeaseOk_any _ _).mono ?_;rintro e' w' ⟨rfl,rfl⟩))
   go_ret
   refine ⟨RetB.f fun hv=>?_,hb0⟩;have hv:=(vM4 _ _ _ _ _ _ _).1 hv;omega
  have g0:=Decidable.of_not_not g0
  subst g0
  cases hQ : inB t 1 8 with
  | false =>
   have gQ:=inB_f hQ
   go_enter Tryz.func29,Tryz.ntmps29
   go_wp2_with (first | (go_at_call 60;refine (l2In_any _ _ _ _).mono ?_;rintro e' w' ⟨rfl,rfl⟩) | (go_at_call 66;refine (l2Uses_4 _).mono ?_;rintro e' w' ⟨rfl,rfl⟩) | (go_at_call 63;refine (l2LeaseOk_any _ _).mono ?_;rintro e' w' ⟨rfl,rfl⟩))
   go_ret
   refine ⟨RetB.f fun hv=>?_,hb0⟩;have hv:=(vM4 _ _ _ _ _ _ _).1 hv;omega
  | true =>
   have gQ:=inB_t hQ
   cases hL : inB l 1 300000000 with
   | false =>
    have gL:=inB_f hL
    go_enter Tryz.func29,Tryz.ntmps29
    go_wp2_with (first | (go_at_call 60;refine (l2In_any _ _ _ _).mono ?_;rintro e' w' ⟨rfl,rfl⟩) | (go_at_call 66;refine (l2Uses_4 _).mono ?_;rintro e' w' ⟨rfl,rfl⟩) | (go_at_call 63;refine (l2LeaseOk_any _ _).mono ?_;rintro e' w' ⟨rfl,rfl⟩))
    go_ret
    refine ⟨RetB.f fun hv=>?_,hb0⟩;have hv:=(vM4 _ _ _ _ _ _ _).1 hv;omega
   | true =>
    have gL:=inB_t hL
    by_cases gD : ¬ (d = 0)
    ·have gD' : (d == 0) = false:=by simpa using gD
     go_enter Tryz.func29,Tryz.ntmps29
     go_wp2_with (first | (go_at_call 60;refine (l2In_any _ _ _ _).mono ?_;rintro e' w' ⟨rfl,rfl⟩) | (go_at_call 66;refine (l2Uses_4 _).mono ?_;rintro e' w' ⟨rfl,rfl⟩) | (go_at_call 63;refine (l2LeaseOk_any _ _).mono ?_;rintro e' w' ⟨rfl,rfl⟩))
     go_ret
     refine ⟨RetB.f fun hv=>?_,hb0⟩;have hv:=(vM4 _ _ _ _ _ _ _).1 hv;omega
    have gD:=Decidable.of_not_not gD
    subst gD
    by_cases gX : ¬ (x.size = 0)
    ·have gX':=empty_f gX
     go_enter Tryz.func29,Tryz.ntmps29
     go_wp2_with (first | (go_at_call 60;refine (l2In_any _ _ _ _).mono ?_;rintro e' w' ⟨rfl,rfl⟩) | (go_at_call 66;refine (l2Uses_4 _).mono ?_;rintro e' w' ⟨rfl,rfl⟩) | (go_at_call 63;refine (l2LeaseOk_any _ _).mono ?_;rintro e' w' ⟨rfl,rfl⟩))
     go_ret
     refine ⟨RetB.f fun hv=>?_,hb0⟩;have hv:=(vM4 _ _ _ _ _ _ _).1 hv;omega
    have gX:=Decidable.of_not_not gX
    have gX':=empty_t gX
    have GX : Hid (x.size = 0):=gX
    clear gX
    by_cases gN : ¬ (n = 0)
    ·have gN' : ((n : Int) == 0) = false:=by simp;omega
     go_enter Tryz.func29,Tryz.ntmps29
     go_wp2_with (first | (go_at_call 60;refine (l2In_any _ _ _ _).mono ?_;rintro e' w' ⟨rfl,rfl⟩) | (go_at_call 66;refine (l2Uses_4 _).mono ?_;rintro e' w' ⟨rfl,rfl⟩) | (go_at_call 63;refine (l2LeaseOk_any _ _).mono ?_;rintro e' w' ⟨rfl,rfl⟩))
     go_ret
     refine ⟨RetB.f fun hv=>?_,hb0⟩;have hv:=(vM4 _ _ _ _ _ _ _).1 hv;rw [HL.out] at hv;omega
    have gN:=Decidable.of_not_not gN
    have gN' : ((n : Int) == 0) = true:=by simp;omega
    have GN : Hid (n = 0):=gN
    clear gN
    go_enter Tryz.func29,Tryz.ntmps29
    go_wp2_with (first | (go_at_call 60;refine (l2In_any _ _ _ _).mono ?_;rintro e' w' ⟨rfl,rfl⟩) | (go_at_call 66;refine (l2Uses_4 _).mono ?_;rintro e' w' ⟨rfl,rfl⟩) | (go_at_call 63;refine (l2LeaseOk_any _ _).mono ?_;rintro e' w' ⟨rfl,rfl⟩))
    go_ret
    refine ⟨RetB.t ?_,hb0⟩;rw [vM4,HL.out];have:=GX.out;have:=GN.out;omega
theorem l2Ok_5 (f t e l d : Int) (x : ByteArray) (a : Option Addr) (b o n c : Nat) (ss : List ByteArray) (w : World) (h : StrsAt w a b o n ss) :
  Calls Tryz.prog 29 #[.agg #[.int .i64 5,.int .i64 f,.int .i64 t,.int .i64 e,.int .i64 l,.int .i64 d,.string x,.slice a n c]] w fun e' w'=>RetB e' (vM 5 f t e l d x.size ss) ∧ Below w.heap.size w w':=by
 have hb0 : Below w.heap.size w (w.alloc (.cells #[.int .i64 5,.int .i64 f,.int .i64 t,.int .i64 e,.int .i64 l,.int .i64 d,.string x,.slice a n c] 53)):=(Below.refl _ _).alloc (Nat.le_refl _) _
 have hkk : inB 5 1 5 = true:=by decide
 have hmax:=h.max
 have HL : Hid (ss.length = n):=h.len
 unfold maxLen at hmax
 cases hE : inB e 1 300 with
 | false =>
  have gE:=inB_f hE
  go_enter Tryz.func29,Tryz.ntmps29
  go_wp2_with (first | (go_at_call 60;refine (l2In_any _ _ _ _).mono ?_;rintro e' w' ⟨rfl,rfl⟩) | (go_at_call 66;refine (l2Uses_5 _).mono ?_;rintro e' w' ⟨rfl,rfl⟩) | (go_at_call 63;refine (l2LeaseOk_any _ _).mono ?_;rintro e' w' ⟨rfl,rfl⟩))
  go_ret
  refine ⟨RetB.f fun hv=>?_,hb0⟩;have hv:=(vM5 _ _ _ _ _ _ _).1 hv;omega
 | true =>
  have gE:=inB_t hE
  by_cases g0 : ¬ (t = 0)
  ·have g0' : (t == 0) = false:=by simpa using g0
   go_enter Tryz.func29,Tryz.ntmps29
   go_wp2_with (first | (go_at_call 60;refine (l2In_any _ _ _ _).mono ?_;rintro e' w' ⟨rfl,rfl⟩) | (go_at_call 66;refine (l2Uses_5 _).mono ?_;rintro e' w' ⟨rfl,rfl⟩) | (go_at_call 63;refine (l2LeaseOk_any _ _).mono ?_;rintro e' w' ⟨rfl,rfl⟩))
   go_ret
   refine ⟨RetB.f fun hv=>?_,hb0⟩;have hv:=(vM5 _ _ _ _ _ _ _).1 hv;omega
  have g0:=Decidable.of_not_not g0
  subst g0
  cases hQ : inB f 1 8 with
  | false =>
   have gQ:=inB_f hQ
   go_enter Tryz.func29,Tryz.ntmps29
   go_wp2_with (first | (go_at_call 60;refine (l2In_any _ _ _ _).mono ?_;rintro e' w' ⟨rfl,rfl⟩) | (go_at_call 66;refine (l2Uses_5 _).mono ?_;rintro e' w' ⟨rfl,rfl⟩) | (go_at_call 63;refine (l2LeaseOk_any _ _).mono ?_;rintro e' w' ⟨rfl,rfl⟩))
   go_ret
   refine ⟨RetB.f fun hv=>?_,hb0⟩;have hv:=(vM5 _ _ _ _ _ _ _).1 hv;omega
  | true =>
   have gQ:=inB_t hQ
   by_cases gL : ¬ (l = 0)
   ·have gL' : (l == 0) = false:=by simpa using gL
    go_enter Tryz.func29,Tryz.ntmps29
    go_wp2_with (first | (go_at_call 60;refine (l2In_any _ _ _ _).mono ?_;rintro e' w' ⟨rfl,rfl⟩) | (go_at_call 66;refine (l2Uses_5 _).mono ?_;rintro e' w' ⟨rfl,rfl⟩) | (go_at_call 63;refine (l2LeaseOk_any _ _).mono ?_;rintro e' w' ⟨rfl,rfl⟩))
    go_ret
    refine ⟨RetB.f fun hv=>?_,hb0⟩;have hv:=(vM5 _ _ _ _ _ _ _).1 hv;omega
   have gL:=Decidable.of_not_not gL
   subst gL
   by_cases gD : ¬ (d = 0)
   ·have gD' : (d == 0) = false:=by simpa using gD
    go_enter Tryz.func29,Tryz.ntmps29
    go_wp2_with (first | (go_at_call 60;refine (l2In_any _ _ _ _).mono ?_;rintro e' w' ⟨rfl,rfl⟩) | (go_at_call 66;refine (l2Uses_5 _).mono ?_;rintro e' w' ⟨rfl,rfl⟩) | (go_at_call 63;refine (l2LeaseOk_any _ _).mono ?_;rintro e' w' ⟨rfl,rfl⟩))
    go_ret
    refine ⟨RetB.f fun hv=>?_,hb0⟩;have hv:=(vM5 _ _ _ _ _ _ _).1 hv;omega
   have gD:=Decidable.of_not_not gD
   subst gD
   by_cases gX : ¬ (x.size = 0)
   ·have gX':=empty_f gX
    go_enter Tryz.func29,Tryz.ntmps29
    go_wp2_with (first | (go_at_call 60;refine (l2In_any _ _ _ _).mono ?_;rintro e' w' ⟨rfl,rfl⟩) | (go_at_call 66;refine (l2Uses_5 _).mono ?_;rintro e' w' ⟨rfl,rfl⟩) | (go_at_call 63;refine (l2LeaseOk_any _ _).mono ?_;rintro e' w' ⟨rfl,rfl⟩))
    go_ret
    refine ⟨RetB.f fun hv=>?_,hb0⟩;have hv:=(vM5 _ _ _ _ _ _ _).1 hv;omega
   have gX:=Decidable.of_not_not gX
   have gX':=empty_t gX
   have GX : Hid (x.size = 0):=gX
   clear gX
   by_cases gN : ¬ (n = 0)
   ·have gN' : ((n : Int) == 0) = false:=by simp;omega
    go_enter Tryz.func29,Tryz.ntmps29
    go_wp2_with (first | (go_at_call 60;refine (l2In_any _ _ _ _).mono ?_;rintro e' w' ⟨rfl,rfl⟩) | (go_at_call 66;refine (l2Uses_5 _).mono ?_;rintro e' w' ⟨rfl,rfl⟩) | (go_at_call 63;refine (l2LeaseOk_any _ _).mono ?_;rintro e' w' ⟨rfl,rfl⟩))
    go_ret
    refine ⟨RetB.f fun hv=>?_,hb0⟩;have hv:=(vM5 _ _ _ _ _ _ _).1 hv;rw [HL.out] at hv;omega
   have gN:=Decidable.of_not_not gN
   have gN' : ((n : Int) == 0) = true:=by simp;omega
   have GN : Hid (n = 0):=gN
   clear gN
   go_enter Tryz.func29,Tryz.ntmps29
   go_wp2_with (first | (go_at_call 60;refine (l2In_any _ _ _ _).mono ?_;rintro e' w' ⟨rfl,rfl⟩) | (go_at_call 66;refine (l2Uses_5 _).mono ?_;rintro e' w' ⟨rfl,rfl⟩) | (go_at_call 63;refine (l2LeaseOk_any _ _).mono ?_;rintro e' w' ⟨rfl,rfl⟩))
   go_ret
   refine ⟨RetB.t ?_,hb0⟩;rw [vM5,HL.out];have:=GX.out;have:=GN.out;omega
end Go.Proofs.YtaeomkpofcbmiaaGreatDoor
namespace Go.Proofs.YtaeomkpofcbmiaaGreatDoor
open Go.RowKit
theorem valid_1 (f t e l d : Int) (x : ByteArray) (a : Option Addr) (b o n c : Nat) (ss : List ByteArray) (w : World) (hT : Tab w) (h : StrsAt w a b o n ss) :
  Calls Tryz.prog 83 #[.agg #[.int .i64 1,.int .i64 f,.int .i64 t,.int .i64 e,.int .i64 l,.int .i64 d,.string x,.slice a n c]] w fun e' w'=>RetB e' (vM 1 f t e l d x.size ss) ∧ Below w.heap.size w w':=by
 have hb0 : Below w.heap.size w ((w.alloc (.cells #[.int .i64 1,.int .i64 f,.int .i64 t,.int .i64 e,.int .i64 l,.int .i64 d,.string x,.slice a n c] 53)).alloc (.cells #[.bool true,.bool true,.bool true,.bool false,.bool true] 159)):=((Below.refl _ _).alloc (Nat.le_refl _) _).alloc (by simp) _
 have hk5 : inB 1 1 5 = true:=by decide
 have hmax:=h.max
 have HL : Hid (ss.length = n):=h.len
 have hpos:=hT.pos
 have q0 : w.cell? ⟨0,5,none⟩ = some (.bool true):=hT 5 (by omega)
 have q1 : w.cell? ⟨0,6,none⟩ = some (.bool true):=hT 6 (by omega)
 have q2 : w.cell? ⟨0,7,none⟩ = some (.bool true):=hT 7 (by omega)
 have q3 : w.cell? ⟨0,8,none⟩ = some (.bool false):=hT 8 (by omega)
 have q4 : w.cell? ⟨0,9,none⟩ = some (.bool true):=hT 9 (by omega)
 clear hT
 cases hP : (f == 0) with
 | false =>
  have gP : ¬ f = 0:=by simpa using hP
  have GP:=hid gP
  clear gP
  go_enter Tryz.func83,Tryz.ntmps83
  go_wp2_with (first | (go_at_call 111;refine (isKind_any _ _).mono ?_;rintro e' w' ⟨rfl,rfl⟩) | (go_at_call 75;refine (within_any _ _ _ _).mono ?_;rintro e' w' ⟨rfl,rfl⟩) | (go_at_call 110;refine (leaseHolds_t _ _ _ hL).mono ?_;rintro e' w' ⟨rfl,rfl⟩) | (go_at_call 112;refine (taskHolds_t _ _ _ hD).mono ?_;rintro e' w' ⟨rfl,rfl⟩) | (go_at_call 113;refine (textHolds_f _ _ _ hX).mono ?_;rintro e' w' ⟨rfl,rfl⟩) | (go_at_call 114;refine (inputsHold_yes a b o n c ss _ (by exact h.below' (by repeat (first | exact hb0 | refine below_drewN ?_ _))) (by assumption)).mono ?_;rintro e' w' ⟨rfl,rfl⟩))
  go_quiet (fail)
  go_wp2_with (first | (go_at_call 111;refine (isKind_any _ _).mono ?_;rintro e' w' ⟨rfl,rfl⟩) | (go_at_call 75;refine (within_any _ _ _ _).mono ?_;rintro e' w' ⟨rfl,rfl⟩) | (go_at_call 110;refine (leaseHolds_t _ _ _ hL).mono ?_;rintro e' w' ⟨rfl,rfl⟩) | (go_at_call 112;refine (taskHolds_t _ _ _ hD).mono ?_;rintro e' w' ⟨rfl,rfl⟩) | (go_at_call 113;refine (textHolds_f _ _ _ hX).mono ?_;rintro e' w' ⟨rfl,rfl⟩) | (go_at_call 114;refine (inputsHold_yes a b o n c ss _ (by exact h.below' (by repeat (first | exact hb0 | refine below_drewN ?_ _))) (by assumption)).mono ?_;rintro e' w' ⟨rfl,rfl⟩))
  go_quiet (fail)
  go_wp2_with (first | (go_at_call 111;refine (isKind_any _ _).mono ?_;rintro e' w' ⟨rfl,rfl⟩) | (go_at_call 75;refine (within_any _ _ _ _).mono ?_;rintro e' w' ⟨rfl,rfl⟩) | (go_at_call 110;refine (leaseHolds_t _ _ _ hL).mono ?_;rintro e' w' ⟨rfl,rfl⟩) | (go_at_call 112;refine (taskHolds_t _ _ _ hD).mono ?_;rintro e' w' ⟨rfl,rfl⟩) | (go_at_call 113;refine (textHolds_f _ _ _ hX).mono ?_;rintro e' w' ⟨rfl,rfl⟩) | (go_at_call 114;refine (inputsHold_yes a b o n c ss _ (by exact h.below' (by repeat (first | exact hb0 | refine below_drewN ?_ _))) (by assumption)).mono ?_;rintro e' w' ⟨rfl,rfl⟩))
  go_ret
  refine ⟨RetB.f fun hv=>?_,by repeat (first | exact hb0 | refine below_drewN ?_ _)⟩;have hv:=(vM1 _ _ _ _ _ _ _).1 hv;have:=GP.out;omega
 | true =>
  have gP : f = 0:=by simpa using hP
  have GP:=hid gP
  clear gP
  cases hQ : inB t 1 8 with
  | false =>
   have gQ:=inB_f hQ
   have GQ:=hid gQ
   clear gQ
   go_enter Tryz.func83,Tryz.ntmps83
   go_wp2_with (first | (go_at_call 111;refine (isKind_any _ _).mono ?_;rintro e' w' ⟨rfl,rfl⟩) | (go_at_call 75;refine (within_any _ _ _ _).mono ?_;rintro e' w' ⟨rfl,rfl⟩) | (go_at_call 110;refine (leaseHolds_t _ _ _ hL).mono ?_;rintro e' w' ⟨rfl,rfl⟩) | (go_at_call 112;refine (taskHolds_t _ _ _ hD).mono ?_;rintro e' w' ⟨rfl,rfl⟩) | (go_at_call 113;refine (textHolds_f _ _ _ hX).mono ?_;rintro e' w' ⟨rfl,rfl⟩) | (go_at_call 114;refine (inputsHold_yes a b o n c ss _ (by exact h.below' (by repeat (first | exact hb0 | refine below_drewN ?_ _))) (by assumption)).mono ?_;rintro e' w' ⟨rfl,rfl⟩))
   go_quiet (fail)
   go_wp2_with (first | (go_at_call 111;refine (isKind_any _ _).mono ?_;rintro e' w' ⟨rfl,rfl⟩) | (go_at_call 75;refine (within_any _ _ _ _).mono ?_;rintro e' w' ⟨rfl,rfl⟩) | (go_at_call 110;refine (leaseHolds_t _ _ _ hL).mono ?_;rintro e' w' ⟨rfl,rfl⟩) | (go_at_call 112;refine (taskHolds_t _ _ _ hD).mono ?_;rintro e' w' ⟨rfl,rfl⟩) | (go_at_call 113;refine (textHolds_f _ _ _ hX).mono ?_;rintro e' w' ⟨rfl,rfl⟩) | (go_at_call 114;refine (inputsHold_yes a b o n c ss _ (by exact h.below' (by repeat (first | exact hb0 | refine below_drewN ?_ _))) (by assumption)).mono ?_;rintro e' w' ⟨rfl,rfl⟩))
   go_quiet (fail)
   go_wp2_with (first | (go_at_call 111;refine (isKind_any _ _).mono ?_;rintro e' w' ⟨rfl,rfl⟩) | (go_at_call 75;refine (within_any _ _ _ _).mono ?_;rintro e' w' ⟨rfl,rfl⟩) | (go_at_call 110;refine (leaseHolds_t _ _ _ hL).mono ?_;rintro e' w' ⟨rfl,rfl⟩) | (go_at_call 112;refine (taskHolds_t _ _ _ hD).mono ?_;rintro e' w' ⟨rfl,rfl⟩) | (go_at_call 113;refine (textHolds_f _ _ _ hX).mono ?_;rintro e' w' ⟨rfl,rfl⟩) | (go_at_call 114;refine (inputsHold_yes a b o n c ss _ (by exact h.below' (by repeat (first | exact hb0 | refine below_drewN ?_ _))) (by assumption)).mono ?_;rintro e' w' ⟨rfl,rfl⟩))
   go_ret
   refine ⟨RetB.f fun hv=>?_,by repeat (first | exact hb0 | refine below_drewN ?_ _)⟩;have hv:=(vM1 _ _ _ _ _ _ _).1 hv;have:=GQ.out;omega
  | true =>
   have gQ:=inB_t hQ
   have GQ:=hid gQ
   clear gQ
   cases hE : inB e 1 300 with
   | false =>
    have gE:=inB_f hE
    have GE:=hid gE
    clear gE
    go_enter Tryz.func83,Tryz.ntmps83
    go_wp2_with (first | (go_at_call 111;refine (isKind_any _ _).mono ?_;rintro e' w' ⟨rfl,rfl⟩) | (go_at_call 75;refine (within_any _ _ _ _).mono ?_;rintro e' w' ⟨rfl,rfl⟩) | (go_at_call 110;refine (leaseHolds_t _ _ _ hL).mono ?_;rintro e' w' ⟨rfl,rfl⟩) | (go_at_call 112;refine (taskHolds_t _ _ _ hD).mono ?_;rintro e' w' ⟨rfl,rfl⟩) | (go_at_call 113;refine (textHolds_f _ _ _ hX).mono ?_;rintro e' w' ⟨rfl,rfl⟩) | (go_at_call 114;refine (inputsHold_yes a b o n c ss _ (by exact h.below' (by repeat (first | exact hb0 | refine below_drewN ?_ _))) (by assumption)).mono ?_;rintro e' w' ⟨rfl,rfl⟩))
    go_quiet (fail)
    go_wp2_with (first | (go_at_call 111;refine (isKind_any _ _).mono ?_;rintro e' w' ⟨rfl,rfl⟩) | (go_at_call 75;refine (within_any _ _ _ _).mono ?_;rintro e' w' ⟨rfl,rfl⟩) | (go_at_call 110;refine (leaseHolds_t _ _ _ hL).mono ?_;rintro e' w' ⟨rfl,rfl⟩) | (go_at_call 112;refine (taskHolds_t _ _ _ hD).mono ?_;rintro e' w' ⟨rfl,rfl⟩) | (go_at_call 113;refine (textHolds_f _ _ _ hX).mono ?_;rintro e' w' ⟨rfl,rfl⟩) | (go_at_call 114;refine (inputsHold_yes a b o n c ss _ (by exact h.below' (by repeat (first | exact hb0 | refine below_drewN ?_ _))) (by assumption)).mono ?_;rintro e' w' ⟨rfl,rfl⟩))
    go_quiet (fail)
    go_wp2_with (first | (go_at_call 111;refine (isKind_any _ _).mono ?_;rintro e' w' ⟨rfl,rfl⟩) | (go_at_call 75;refine (within_any _ _ _ _).mono ?_;rintro e' w' ⟨rfl,rfl⟩) | (go_at_call 110;refine (leaseHolds_t _ _ _ hL).mono ?_;rintro e' w' ⟨rfl,rfl⟩) | (go_at_call 112;refine (taskHolds_t _ _ _ hD).mono ?_;rintro e' w' ⟨rfl,rfl⟩) | (go_at_call 113;refine (textHolds_f _ _ _ hX).mono ?_;rintro e' w' ⟨rfl,rfl⟩) | (go_at_call 114;refine (inputsHold_yes a b o n c ss _ (by exact h.below' (by repeat (first | exact hb0 | refine below_drewN ?_ _))) (by assumption)).mono ?_;rintro e' w' ⟨rfl,rfl⟩))
    go_ret
    refine ⟨RetB.f fun hv=>?_,by repeat (first | exact hb0 | refine below_drewN ?_ _)⟩;have hv:=(vM1 _ _ _ _ _ _ _).1 hv;have:=GE.out;omega
   | true =>
    have gE:=inB_t hE
    have GE:=hid gE
    clear gE
    cases hL : inB l 1 300000000 with
    | false =>
     have gL:=inB_f hL
     have GL:=hid gL
     clear gL
     go_enter Tryz.func83,Tryz.ntmps83
     go_wp2_with (first | (go_at_call 111;refine (isKind_any _ _).mono ?_;rintro e' w' ⟨rfl,rfl⟩) | (go_at_call 75;refine (within_any _ _ _ _).mono ?_;rintro e' w' ⟨rfl,rfl⟩) | (go_at_call 110;refine (leaseHolds_t _ _ _ hL).mono ?_;rintro e' w' ⟨rfl,rfl⟩) | (go_at_call 112;refine (taskHolds_t _ _ _ hD).mono ?_;rintro e' w' ⟨rfl,rfl⟩) | (go_at_call 113;refine (textHolds_f _ _ _ hX).mono ?_;rintro e' w' ⟨rfl,rfl⟩) | (go_at_call 114;refine (inputsHold_yes a b o n c ss _ (by exact h.below' (by repeat (first | exact hb0 | refine below_drewN ?_ _))) (by assumption)).mono ?_;rintro e' w' ⟨rfl,rfl⟩))
     go_quiet (fail)
     go_wp2_with (first | (go_at_call 111;refine (isKind_any _ _).mono ?_;rintro e' w' ⟨rfl,rfl⟩) | (go_at_call 75;refine (within_any _ _ _ _).mono ?_;rintro e' w' ⟨rfl,rfl⟩) | (go_at_call 110;refine (leaseHolds_t _ _ _ hL).mono ?_;rintro e' w' ⟨rfl,rfl⟩) | (go_at_call 112;refine (taskHolds_t _ _ _ hD).mono ?_;rintro e' w' ⟨rfl,rfl⟩) | (go_at_call 113;refine (textHolds_f _ _ _ hX).mono ?_;rintro e' w' ⟨rfl,rfl⟩) | (go_at_call 114;refine (inputsHold_yes a b o n c ss _ (by exact h.below' (by repeat (first | exact hb0 | refine below_drewN ?_ _))) (by assumption)).mono ?_;rintro e' w' ⟨rfl,rfl⟩))
     go_quiet (fail)
     go_wp2_with (first | (go_at_call 111;refine (isKind_any _ _).mono ?_;rintro e' w' ⟨rfl,rfl⟩) | (go_at_call 75;refine (within_any _ _ _ _).mono ?_;rintro e' w' ⟨rfl,rfl⟩) | (go_at_call 110;refine (leaseHolds_t _ _ _ hL).mono ?_;rintro e' w' ⟨rfl,rfl⟩) | (go_at_call 112;refine (taskHolds_t _ _ _ hD).mono ?_;rintro e' w' ⟨rfl,rfl⟩) | (go_at_call 113;refine (textHolds_f _ _ _ hX).mono ?_;rintro e' w' ⟨rfl,rfl⟩) | (go_at_call 114;refine (inputsHold_yes a b o n c ss _ (by exact h.below' (by repeat (first | exact hb0 | refine below_drewN ?_ _))) (by assumption)).mono ?_;rintro e' w' ⟨rfl,rfl⟩))
     go_ret
     refine ⟨RetB.f fun hv=>?_,by repeat (first | exact hb0 | refine below_drewN ?_ _)⟩;have hv:=(vM1 _ _ _ _ _ _ _).1 hv;have:=GL.out;omega
    | true =>
     have gL:=inB_t hL
     have GL:=hid gL
     clear gL
     cases hD : inB d 0 39 with
     | false =>
      have gD:=inB_f hD
      have GD:=hid gD
      clear gD
      go_enter Tryz.func83,Tryz.ntmps83
      go_wp2_with (first | (go_at_call 111;refine (isKind_any _ _).mono ?_;rintro e' w' ⟨rfl,rfl⟩) | (go_at_call 75;refine (within_any _ _ _ _).mono ?_;rintro e' w' ⟨rfl,rfl⟩) | (go_at_call 110;refine (leaseHolds_t _ _ _ hL).mono ?_;rintro e' w' ⟨rfl,rfl⟩) | (go_at_call 112;refine (taskHolds_t _ _ _ hD).mono ?_;rintro e' w' ⟨rfl,rfl⟩) | (go_at_call 113;refine (textHolds_f _ _ _ hX).mono ?_;rintro e' w' ⟨rfl,rfl⟩) | (go_at_call 114;refine (inputsHold_yes a b o n c ss _ (by exact h.below' (by repeat (first | exact hb0 | refine below_drewN ?_ _))) (by assumption)).mono ?_;rintro e' w' ⟨rfl,rfl⟩))
      go_quiet (fail)
      go_wp2_with (first | (go_at_call 111;refine (isKind_any _ _).mono ?_;rintro e' w' ⟨rfl,rfl⟩) | (go_at_call 75;refine (within_any _ _ _ _).mono ?_;rintro e' w' ⟨rfl,rfl⟩) | (go_at_call 110;refine (leaseHolds_t _ _ _ hL).mono ?_;rintro e' w' ⟨rfl,rfl⟩) | (go_at_call 112;refine (taskHolds_t _ _ _ hD).mono ?_;rintro e' w' ⟨rfl,rfl⟩) | (go_at_call 113;refine (textHolds_f _ _ _ hX).mono ?_;rintro e' w' ⟨rfl,rfl⟩) | (go_at_call 114;refine (inputsHold_yes a b o n c ss _ (by exact h.below' (by repeat (first | exact hb0 | refine below_drewN ?_ _))) (by assumption)).mono ?_;rintro e' w' ⟨rfl,rfl⟩))
      go_quiet (fail)
      go_wp2_with (first | (go_at_call 111;refine (isKind_any _ _).mono ?_;rintro e' w' ⟨rfl,rfl⟩) | (go_at_call 75;refine (within_any _ _ _ _).mono ?_;rintro e' w' ⟨rfl,rfl⟩) | (go_at_call 110;refine (leaseHolds_t _ _ _ hL).mono ?_;rintro e' w' ⟨rfl,rfl⟩) | (go_at_call 112;refine (taskHolds_t _ _ _ hD).mono ?_;rintro e' w' ⟨rfl,rfl⟩) | (go_at_call 113;refine (textHolds_f _ _ _ hX).mono ?_;rintro e' w' ⟨rfl,rfl⟩) | (go_at_call 114;refine (inputsHold_yes a b o n c ss _ (by exact h.below' (by repeat (first | exact hb0 | refine below_drewN ?_ _))) (by assumption)).mono ?_;rintro e' w' ⟨rfl,rfl⟩))
      go_ret
      refine ⟨RetB.f fun hv=>?_,by repeat (first | exact hb0 | refine below_drewN ?_ _)⟩;have hv:=(vM1 _ _ _ _ _ _ _).1 hv;have:=GD.out;omega
     | true =>
      have gD:=inB_t hD
      have GD:=hid gD
      clear gD
      cases hX : x.toList.isEmpty with
      | false =>
       have gX : ¬ x.size = 0:=fun hh=>by rw [empty_t hh] at hX;cases hX
       have GX:=hid gX
       clear gX
       go_enter Tryz.func83,Tryz.ntmps83
       go_wp2_with (first | (go_at_call 111;refine (isKind_any _ _).mono ?_;rintro e' w' ⟨rfl,rfl⟩) | (go_at_call 75;refine (within_any _ _ _ _).mono ?_;rintro e' w' ⟨rfl,rfl⟩) | (go_at_call 110;refine (leaseHolds_t _ _ _ hL).mono ?_;rintro e' w' ⟨rfl,rfl⟩) | (go_at_call 112;refine (taskHolds_t _ _ _ hD).mono ?_;rintro e' w' ⟨rfl,rfl⟩) | (go_at_call 113;refine (textHolds_f _ _ _ hX).mono ?_;rintro e' w' ⟨rfl,rfl⟩) | (go_at_call 114;refine (inputsHold_yes a b o n c ss _ (by exact h.below' (by repeat (first | exact hb0 | refine below_drewN ?_ _))) (by assumption)).mono ?_;rintro e' w' ⟨rfl,rfl⟩))
       go_quiet (fail)
       go_wp2_with (first | (go_at_call 111;refine (isKind_any _ _).mono ?_;rintro e' w' ⟨rfl,rfl⟩) | (go_at_call 75;refine (within_any _ _ _ _).mono ?_;rintro e' w' ⟨rfl,rfl⟩) | (go_at_call 110;refine (leaseHolds_t _ _ _ hL).mono ?_;rintro e' w' ⟨rfl,rfl⟩) | (go_at_call 112;refine (taskHolds_t _ _ _ hD).mono ?_;rintro e' w' ⟨rfl,rfl⟩) | (go_at_call 113;refine (textHolds_f _ _ _ hX).mono ?_;rintro e' w' ⟨rfl,rfl⟩) | (go_at_call 114;refine (inputsHold_yes a b o n c ss _ (by exact h.below' (by repeat (first | exact hb0 | refine below_drewN ?_ _))) (by assumption)).mono ?_;rintro e' w' ⟨rfl,rfl⟩))
       go_quiet (fail)
       go_wp2_with (first | (go_at_call 111;refine (isKind_any _ _).mono ?_;rintro e' w' ⟨rfl,rfl⟩) | (go_at_call 75;refine (within_any _ _ _ _).mono ?_;rintro e' w' ⟨rfl,rfl⟩) | (go_at_call 110;refine (leaseHolds_t _ _ _ hL).mono ?_;rintro e' w' ⟨rfl,rfl⟩) | (go_at_call 112;refine (taskHolds_t _ _ _ hD).mono ?_;rintro e' w' ⟨rfl,rfl⟩) | (go_at_call 113;refine (textHolds_f _ _ _ hX).mono ?_;rintro e' w' ⟨rfl,rfl⟩) | (go_at_call 114;refine (inputsHold_yes a b o n c ss _ (by exact h.below' (by repeat (first | exact hb0 | refine below_drewN ?_ _))) (by assumption)).mono ?_;rintro e' w' ⟨rfl,rfl⟩))
       go_ret
       refine ⟨RetB.f fun hv=>?_,by repeat (first | exact hb0 | refine below_drewN ?_ _)⟩;have hv:=(vM1 _ _ _ _ _ _ _).1 hv;have:=GX.out;omega
      | true =>
       have gX : x.size = 0:=Decidable.byContradiction fun hh=>by rw [empty_f hh] at hX;cases hX
       have GX:=hid gX
       clear gX
       by_cases gI : inOk ss
       ·have hI:=hid gI
        clear gI
        go_enter Tryz.func83,Tryz.ntmps83
        go_wp2_with (first | (go_at_call 111;refine (isKind_any _ _).mono ?_;rintro e' w' ⟨rfl,rfl⟩) | (go_at_call 75;refine (within_any _ _ _ _).mono ?_;rintro e' w' ⟨rfl,rfl⟩) | (go_at_call 110;refine (leaseHolds_t _ _ _ hL).mono ?_;rintro e' w' ⟨rfl,rfl⟩) | (go_at_call 112;refine (taskHolds_t _ _ _ hD).mono ?_;rintro e' w' ⟨rfl,rfl⟩) | (go_at_call 113;refine (textHolds_f _ _ _ hX).mono ?_;rintro e' w' ⟨rfl,rfl⟩) | (go_at_call 114;refine (inputsHold_yes a b o n c ss _ (by exact h.below' (by repeat (first | exact hb0 | refine below_drewN ?_ _))) hI).mono ?_;rintro e' w' ⟨rfl,rfl⟩))
        go_quiet (fail)
        go_wp2_with (first | (go_at_call 111;refine (isKind_any _ _).mono ?_;rintro e' w' ⟨rfl,rfl⟩) | (go_at_call 75;refine (within_any _ _ _ _).mono ?_;rintro e' w' ⟨rfl,rfl⟩) | (go_at_call 110;refine (leaseHolds_t _ _ _ hL).mono ?_;rintro e' w' ⟨rfl,rfl⟩) | (go_at_call 112;refine (taskHolds_t _ _ _ hD).mono ?_;rintro e' w' ⟨rfl,rfl⟩) | (go_at_call 113;refine (textHolds_f _ _ _ hX).mono ?_;rintro e' w' ⟨rfl,rfl⟩) | (go_at_call 114;refine (inputsHold_yes a b o n c ss _ (by exact h.below' (by repeat (first | exact hb0 | refine below_drewN ?_ _))) hI).mono ?_;rintro e' w' ⟨rfl,rfl⟩))
        go_quiet (fail)
        go_wp2_with (first | (go_at_call 111;refine (isKind_any _ _).mono ?_;rintro e' w' ⟨rfl,rfl⟩) | (go_at_call 75;refine (within_any _ _ _ _).mono ?_;rintro e' w' ⟨rfl,rfl⟩) | (go_at_call 110;refine (leaseHolds_t _ _ _ hL).mono ?_;rintro e' w' ⟨rfl,rfl⟩) | (go_at_call 112;refine (taskHolds_t _ _ _ hD).mono ?_;rintro e' w' ⟨rfl,rfl⟩) | (go_at_call 113;refine (textHolds_f _ _ _ hX).mono ?_;rintro e' w' ⟨rfl,rfl⟩) | (go_at_call 114;refine (inputsHold_yes a b o n c ss _ (by exact h.below' (by repeat (first | exact hb0 | refine below_drewN ?_ _))) hI).mono ?_;rintro e' w' ⟨rfl,rfl⟩))
        go_ret
        refine ⟨RetB.t ((vM1 _ _ _ _ _ _ _).2 ?_),by repeat (first | exact hb0 | refine below_drewN ?_ _)⟩;have:=GP.out;have:=GQ.out;have:=GE.out;have:=GL.out;have:=GD.out;have:=GX.out;exact ⟨by omega,by omega,by omega,by omega,by omega,by omega,by omega,by omega,by omega,by omega,hI.out⟩
       ·have hI:=hid gI
        clear gI
        go_enter Tryz.func83,Tryz.ntmps83
        go_wp2_with (first | (go_at_call 111;refine (isKind_any _ _).mono ?_;rintro e' w' ⟨rfl,rfl⟩) | (go_at_call 75;refine (within_any _ _ _ _).mono ?_;rintro e' w' ⟨rfl,rfl⟩) | (go_at_call 110;refine (leaseHolds_t _ _ _ hL).mono ?_;rintro e' w' ⟨rfl,rfl⟩) | (go_at_call 112;refine (taskHolds_t _ _ _ hD).mono ?_;rintro e' w' ⟨rfl,rfl⟩) | (go_at_call 113;refine (textHolds_f _ _ _ hX).mono ?_;rintro e' w' ⟨rfl,rfl⟩) | (go_at_call 114;refine (inputsHold_no a b o n c ss _ (by exact h.below' (by repeat (first | exact hb0 | refine below_drewN ?_ _))) hI).mono ?_;rintro e' w' ⟨rfl,rfl⟩))
        go_quiet (fail)
        go_wp2_with (first | (go_at_call 111;refine (isKind_any _ _).mono ?_;rintro e' w' ⟨rfl,rfl⟩) | (go_at_call 75;refine (within_any _ _ _ _).mono ?_;rintro e' w' ⟨rfl,rfl⟩) | (go_at_call 110;refine (leaseHolds_t _ _ _ hL).mono ?_;rintro e' w' ⟨rfl,rfl⟩) | (go_at_call 112;refine (taskHolds_t _ _ _ hD).mono ?_;rintro e' w' ⟨rfl,rfl⟩) | (go_at_call 113;refine (textHolds_f _ _ _ hX).mono ?_;rintro e' w' ⟨rfl,rfl⟩) | (go_at_call 114;refine (inputsHold_no a b o n c ss _ (by exact h.below' (by repeat (first | exact hb0 | refine below_drewN ?_ _))) hI).mono ?_;rintro e' w' ⟨rfl,rfl⟩))
        go_quiet (fail)
        go_wp2_with (first | (go_at_call 111;refine (isKind_any _ _).mono ?_;rintro e' w' ⟨rfl,rfl⟩) | (go_at_call 75;refine (within_any _ _ _ _).mono ?_;rintro e' w' ⟨rfl,rfl⟩) | (go_at_call 110;refine (leaseHolds_t _ _ _ hL).mono ?_;rintro e' w' ⟨rfl,rfl⟩) | (go_at_call 112;refine (taskHolds_t _ _ _ hD).mono ?_;rintro e' w' ⟨rfl,rfl⟩) | (go_at_call 113;refine (textHolds_f _ _ _ hX).mono ?_;rintro e' w' ⟨rfl,rfl⟩) | (go_at_call 114;refine (inputsHold_no a b o n c ss _ (by exact h.below' (by repeat (first | exact hb0 | refine below_drewN ?_ _))) hI).mono ?_;rintro e' w' ⟨rfl,rfl⟩))
        go_ret
        refine ⟨RetB.f fun hv=>?_,by repeat (first | exact hb0 | refine below_drewN ?_ _)⟩;exact hI.out ((vM1 _ _ _ _ _ _ _).1 hv).2.2.2.2.2.2.2.2.2.2
end Go.Proofs.YtaeomkpofcbmiaaGreatDoor
namespace Go.Proofs.YtaeomkpofcbmiaaGreatDoor
open Go.RowKit
theorem valid_2 (f t e l d : Int) (x : ByteArray) (a : Option Addr) (b o n c : Nat) (ss : List ByteArray) (w : World) (hT : Tab w) (h : StrsAt w a b o n ss) :
  Calls Tryz.prog 83 #[.agg #[.int .i64 2,.int .i64 f,.int .i64 t,.int .i64 e,.int .i64 l,.int .i64 d,.string x,.slice a n c]] w fun e' w'=>RetB e' (vM 2 f t e l d x.size ss) ∧ Below w.heap.size w w':=by
 have hb0 : Below w.heap.size w ((w.alloc (.cells #[.int .i64 2,.int .i64 f,.int .i64 t,.int .i64 e,.int .i64 l,.int .i64 d,.string x,.slice a n c] 53)).alloc (.cells #[.bool false,.bool true,.bool false,.bool false,.bool false] 159)):=((Below.refl _ _).alloc (Nat.le_refl _) _).alloc (by simp) _
 have hk5 : inB 2 1 5 = true:=by decide
 have hmax:=h.max
 have HL : Hid (ss.length = n):=h.len
 have hpos:=hT.pos
 have q0 : w.cell? ⟨0,10,none⟩ = some (.bool false):=hT 10 (by omega)
 have q1 : w.cell? ⟨0,11,none⟩ = some (.bool true):=hT 11 (by omega)
 have q2 : w.cell? ⟨0,12,none⟩ = some (.bool false):=hT 12 (by omega)
 have q3 : w.cell? ⟨0,13,none⟩ = some (.bool false):=hT 13 (by omega)
 have q4 : w.cell? ⟨0,14,none⟩ = some (.bool false):=hT 14 (by omega)
 clear hT
 cases hP : (t == 0) with
 | false =>
  have gP : ¬ t = 0:=by simpa using hP
  have GP:=hid gP
  clear gP
  go_enter Tryz.func83,Tryz.ntmps83
  go_wp2_with (first | (go_at_call 111;refine (isKind_any _ _).mono ?_;rintro e' w' ⟨rfl,rfl⟩) | (go_at_call 75;refine (within_any _ _ _ _).mono ?_;rintro e' w' ⟨rfl,rfl⟩) | (go_at_call 110;refine (leaseHolds_t _ _ _ hL).mono ?_;rintro e' w' ⟨rfl,rfl⟩) | (go_at_call 112;refine (taskHolds_f _ _ _ hD).mono ?_;rintro e' w' ⟨rfl,rfl⟩) | (go_at_call 113;refine (textHolds_f _ _ _ hX).mono ?_;rintro e' w' ⟨rfl,rfl⟩) | (go_at_call 114;refine (inputsHold_f a n c _ _ hI).mono ?_;rintro e' w' ⟨rfl,rfl⟩))
  go_quiet (fail)
  go_wp2_with (first | (go_at_call 111;refine (isKind_any _ _).mono ?_;rintro e' w' ⟨rfl,rfl⟩) | (go_at_call 75;refine (within_any _ _ _ _).mono ?_;rintro e' w' ⟨rfl,rfl⟩) | (go_at_call 110;refine (leaseHolds_t _ _ _ hL).mono ?_;rintro e' w' ⟨rfl,rfl⟩) | (go_at_call 112;refine (taskHolds_f _ _ _ hD).mono ?_;rintro e' w' ⟨rfl,rfl⟩) | (go_at_call 113;refine (textHolds_f _ _ _ hX).mono ?_;rintro e' w' ⟨rfl,rfl⟩) | (go_at_call 114;refine (inputsHold_f a n c _ _ hI).mono ?_;rintro e' w' ⟨rfl,rfl⟩))
  go_ret
  refine ⟨RetB.f fun hv=>?_,by repeat (first | exact hb0 | refine below_drewN ?_ _)⟩;have hv:=(vM2 _ _ _ _ _ _ _).1 hv;have:=GP.out;omega
 | true =>
  have gP : t = 0:=by simpa using hP
  have GP:=hid gP
  clear gP
  cases hQ : inB f 1 8 with
  | false =>
   have gQ:=inB_f hQ
   have GQ:=hid gQ
   clear gQ
   go_enter Tryz.func83,Tryz.ntmps83
   go_wp2_with (first | (go_at_call 111;refine (isKind_any _ _).mono ?_;rintro e' w' ⟨rfl,rfl⟩) | (go_at_call 75;refine (within_any _ _ _ _).mono ?_;rintro e' w' ⟨rfl,rfl⟩) | (go_at_call 110;refine (leaseHolds_t _ _ _ hL).mono ?_;rintro e' w' ⟨rfl,rfl⟩) | (go_at_call 112;refine (taskHolds_f _ _ _ hD).mono ?_;rintro e' w' ⟨rfl,rfl⟩) | (go_at_call 113;refine (textHolds_f _ _ _ hX).mono ?_;rintro e' w' ⟨rfl,rfl⟩) | (go_at_call 114;refine (inputsHold_f a n c _ _ hI).mono ?_;rintro e' w' ⟨rfl,rfl⟩))
   go_quiet (fail)
   go_wp2_with (first | (go_at_call 111;refine (isKind_any _ _).mono ?_;rintro e' w' ⟨rfl,rfl⟩) | (go_at_call 75;refine (within_any _ _ _ _).mono ?_;rintro e' w' ⟨rfl,rfl⟩) | (go_at_call 110;refine (leaseHolds_t _ _ _ hL).mono ?_;rintro e' w' ⟨rfl,rfl⟩) | (go_at_call 112;refine (taskHolds_f _ _ _ hD).mono ?_;rintro e' w' ⟨rfl,rfl⟩) | (go_at_call 113;refine (textHolds_f _ _ _ hX).mono ?_;rintro e' w' ⟨rfl,rfl⟩) | (go_at_call 114;refine (inputsHold_f a n c _ _ hI).mono ?_;rintro e' w' ⟨rfl,rfl⟩))
   go_ret
   refine ⟨RetB.f fun hv=>?_,by repeat (first | exact hb0 | refine below_drewN ?_ _)⟩;have hv:=(vM2 _ _ _ _ _ _ _).1 hv;have:=GQ.out;omega
  | true =>
   have gQ:=inB_t hQ
   have GQ:=hid gQ
   clear gQ
   cases hE : inB e 1 300 with
   | false =>
    have gE:=inB_f hE
    have GE:=hid gE
    clear gE
    go_enter Tryz.func83,Tryz.ntmps83
    go_wp2_with (first | (go_at_call 111;refine (isKind_any _ _).mono ?_;rintro e' w' ⟨rfl,rfl⟩) | (go_at_call 75;refine (within_any _ _ _ _).mono ?_;rintro e' w' ⟨rfl,rfl⟩) | (go_at_call 110;refine (leaseHolds_t _ _ _ hL).mono ?_;rintro e' w' ⟨rfl,rfl⟩) | (go_at_call 112;refine (taskHolds_f _ _ _ hD).mono ?_;rintro e' w' ⟨rfl,rfl⟩) | (go_at_call 113;refine (textHolds_f _ _ _ hX).mono ?_;rintro e' w' ⟨rfl,rfl⟩) | (go_at_call 114;refine (inputsHold_f a n c _ _ hI).mono ?_;rintro e' w' ⟨rfl,rfl⟩))
    go_quiet (fail)
    go_wp2_with (first | (go_at_call 111;refine (isKind_any _ _).mono ?_;rintro e' w' ⟨rfl,rfl⟩) | (go_at_call 75;refine (within_any _ _ _ _).mono ?_;rintro e' w' ⟨rfl,rfl⟩) | (go_at_call 110;refine (leaseHolds_t _ _ _ hL).mono ?_;rintro e' w' ⟨rfl,rfl⟩) | (go_at_call 112;refine (taskHolds_f _ _ _ hD).mono ?_;rintro e' w' ⟨rfl,rfl⟩) | (go_at_call 113;refine (textHolds_f _ _ _ hX).mono ?_;rintro e' w' ⟨rfl,rfl⟩) | (go_at_call 114;refine (inputsHold_f a n c _ _ hI).mono ?_;rintro e' w' ⟨rfl,rfl⟩))
    go_ret
    refine ⟨RetB.f fun hv=>?_,by repeat (first | exact hb0 | refine below_drewN ?_ _)⟩;have hv:=(vM2 _ _ _ _ _ _ _).1 hv;have:=GE.out;omega
   | true =>
    have gE:=inB_t hE
    have GE:=hid gE
    clear gE
    cases hL : inB l 1 300000000 with
    | false =>
     have gL:=inB_f hL
     have GL:=hid gL
     clear gL
     go_enter Tryz.func83,Tryz.ntmps83
     go_wp2_with (first | (go_at_call 111;refine (isKind_any _ _).mono ?_;rintro e' w' ⟨rfl,rfl⟩) | (go_at_call 75;refine (within_any _ _ _ _).mono ?_;rintro e' w' ⟨rfl,rfl⟩) | (go_at_call 110;refine (leaseHolds_t _ _ _ hL).mono ?_;rintro e' w' ⟨rfl,rfl⟩) | (go_at_call 112;refine (taskHolds_f _ _ _ hD).mono ?_;rintro e' w' ⟨rfl,rfl⟩) | (go_at_call 113;refine (textHolds_f _ _ _ hX).mono ?_;rintro e' w' ⟨rfl,rfl⟩) | (go_at_call 114;refine (inputsHold_f a n c _ _ hI).mono ?_;rintro e' w' ⟨rfl,rfl⟩))
     go_quiet (fail)
     go_wp2_with (first | (go_at_call 111;refine (isKind_any _ _).mono ?_;rintro e' w' ⟨rfl,rfl⟩) | (go_at_call 75;refine (within_any _ _ _ _).mono ?_;rintro e' w' ⟨rfl,rfl⟩) | (go_at_call 110;refine (leaseHolds_t _ _ _ hL).mono ?_;rintro e' w' ⟨rfl,rfl⟩) | (go_at_call 112;refine (taskHolds_f _ _ _ hD).mono ?_;rintro e' w' ⟨rfl,rfl⟩) | (go_at_call 113;refine (textHolds_f _ _ _ hX).mono ?_;rintro e' w' ⟨rfl,rfl⟩) | (go_at_call 114;refine (inputsHold_f a n c _ _ hI).mono ?_;rintro e' w' ⟨rfl,rfl⟩))
     go_ret
     refine ⟨RetB.f fun hv=>?_,by repeat (first | exact hb0 | refine below_drewN ?_ _)⟩;have hv:=(vM2 _ _ _ _ _ _ _).1 hv;have:=GL.out;omega
    | true =>
     have gL:=inB_t hL
     have GL:=hid gL
     clear gL
     cases hD : (d == 0) with
     | false =>
      have gD : ¬ d = 0:=by simpa using hD
      have GD:=hid gD
      clear gD
      go_enter Tryz.func83,Tryz.ntmps83
      go_wp2_with (first | (go_at_call 111;refine (isKind_any _ _).mono ?_;rintro e' w' ⟨rfl,rfl⟩) | (go_at_call 75;refine (within_any _ _ _ _).mono ?_;rintro e' w' ⟨rfl,rfl⟩) | (go_at_call 110;refine (leaseHolds_t _ _ _ hL).mono ?_;rintro e' w' ⟨rfl,rfl⟩) | (go_at_call 112;refine (taskHolds_f _ _ _ hD).mono ?_;rintro e' w' ⟨rfl,rfl⟩) | (go_at_call 113;refine (textHolds_f _ _ _ hX).mono ?_;rintro e' w' ⟨rfl,rfl⟩) | (go_at_call 114;refine (inputsHold_f a n c _ _ hI).mono ?_;rintro e' w' ⟨rfl,rfl⟩))
      go_quiet (fail)
      go_wp2_with (first | (go_at_call 111;refine (isKind_any _ _).mono ?_;rintro e' w' ⟨rfl,rfl⟩) | (go_at_call 75;refine (within_any _ _ _ _).mono ?_;rintro e' w' ⟨rfl,rfl⟩) | (go_at_call 110;refine (leaseHolds_t _ _ _ hL).mono ?_;rintro e' w' ⟨rfl,rfl⟩) | (go_at_call 112;refine (taskHolds_f _ _ _ hD).mono ?_;rintro e' w' ⟨rfl,rfl⟩) | (go_at_call 113;refine (textHolds_f _ _ _ hX).mono ?_;rintro e' w' ⟨rfl,rfl⟩) | (go_at_call 114;refine (inputsHold_f a n c _ _ hI).mono ?_;rintro e' w' ⟨rfl,rfl⟩))
      go_ret
      refine ⟨RetB.f fun hv=>?_,by repeat (first | exact hb0 | refine below_drewN ?_ _)⟩;have hv:=(vM2 _ _ _ _ _ _ _).1 hv;have:=GD.out;omega
     | true =>
      have gD : d = 0:=by simpa using hD
      have GD:=hid gD
      clear gD
      cases hX : x.toList.isEmpty with
      | false =>
       have gX : ¬ x.size = 0:=fun hh=>by rw [empty_t hh] at hX;cases hX
       have GX:=hid gX
       clear gX
       go_enter Tryz.func83,Tryz.ntmps83
       go_wp2_with (first | (go_at_call 111;refine (isKind_any _ _).mono ?_;rintro e' w' ⟨rfl,rfl⟩) | (go_at_call 75;refine (within_any _ _ _ _).mono ?_;rintro e' w' ⟨rfl,rfl⟩) | (go_at_call 110;refine (leaseHolds_t _ _ _ hL).mono ?_;rintro e' w' ⟨rfl,rfl⟩) | (go_at_call 112;refine (taskHolds_f _ _ _ hD).mono ?_;rintro e' w' ⟨rfl,rfl⟩) | (go_at_call 113;refine (textHolds_f _ _ _ hX).mono ?_;rintro e' w' ⟨rfl,rfl⟩) | (go_at_call 114;refine (inputsHold_f a n c _ _ hI).mono ?_;rintro e' w' ⟨rfl,rfl⟩))
       go_quiet (fail)
       go_wp2_with (first | (go_at_call 111;refine (isKind_any _ _).mono ?_;rintro e' w' ⟨rfl,rfl⟩) | (go_at_call 75;refine (within_any _ _ _ _).mono ?_;rintro e' w' ⟨rfl,rfl⟩) | (go_at_call 110;refine (leaseHolds_t _ _ _ hL).mono ?_;rintro e' w' ⟨rfl,rfl⟩) | (go_at_call 112;refine (taskHolds_f _ _ _ hD).mono ?_;rintro e' w' ⟨rfl,rfl⟩) | (go_at_call 113;refine (textHolds_f _ _ _ hX).mono ?_;rintro e' w' ⟨rfl,rfl⟩) | (go_at_call 114;refine (inputsHold_f a n c _ _ hI).mono ?_;rintro e' w' ⟨rfl,rfl⟩))
       go_ret
       refine ⟨RetB.f fun hv=>?_,by repeat (first | exact hb0 | refine below_drewN ?_ _)⟩;have hv:=(vM2 _ _ _ _ _ _ _).1 hv;have:=GX.out;omega
      | true =>
       have gX : x.size = 0:=Decidable.byContradiction fun hh=>by rw [empty_f hh] at hX;cases hX
       have GX:=hid gX
       clear gX
       cases hI : ((n : Int) == 0) with
       | false =>
        have gI : ¬ n = 0:=by simp at hI;omega
        have GI:=hid gI
        clear gI
        go_enter Tryz.func83,Tryz.ntmps83
        go_wp2_with (first | (go_at_call 111;refine (isKind_any _ _).mono ?_;rintro e' w' ⟨rfl,rfl⟩) | (go_at_call 75;refine (within_any _ _ _ _).mono ?_;rintro e' w' ⟨rfl,rfl⟩) | (go_at_call 110;refine (leaseHolds_t _ _ _ hL).mono ?_;rintro e' w' ⟨rfl,rfl⟩) | (go_at_call 112;refine (taskHolds_f _ _ _ hD).mono ?_;rintro e' w' ⟨rfl,rfl⟩) | (go_at_call 113;refine (textHolds_f _ _ _ hX).mono ?_;rintro e' w' ⟨rfl,rfl⟩) | (go_at_call 114;refine (inputsHold_f a n c _ _ hI).mono ?_;rintro e' w' ⟨rfl,rfl⟩))
        go_quiet (fail)
        go_wp2_with (first | (go_at_call 111;refine (isKind_any _ _).mono ?_;rintro e' w' ⟨rfl,rfl⟩) | (go_at_call 75;refine (within_any _ _ _ _).mono ?_;rintro e' w' ⟨rfl,rfl⟩) | (go_at_call 110;refine (leaseHolds_t _ _ _ hL).mono ?_;rintro e' w' ⟨rfl,rfl⟩) | (go_at_call 112;refine (taskHolds_f _ _ _ hD).mono ?_;rintro e' w' ⟨rfl,rfl⟩) | (go_at_call 113;refine (textHolds_f _ _ _ hX).mono ?_;rintro e' w' ⟨rfl,rfl⟩) | (go_at_call 114;refine (inputsHold_f a n c _ _ hI).mono ?_;rintro e' w' ⟨rfl,rfl⟩))
        go_ret
        refine ⟨RetB.f fun hv=>?_,by repeat (first | exact hb0 | refine below_drewN ?_ _)⟩;have hv:=(vM2 _ _ _ _ _ _ _).1 hv;have:=GI.out;rw [HL.out] at hv;omega
       | true =>
        have gI : n = 0:=by simp at hI;omega
        have GI:=hid gI
        clear gI
        go_enter Tryz.func83,Tryz.ntmps83
        go_wp2_with (first | (go_at_call 111;refine (isKind_any _ _).mono ?_;rintro e' w' ⟨rfl,rfl⟩) | (go_at_call 75;refine (within_any _ _ _ _).mono ?_;rintro e' w' ⟨rfl,rfl⟩) | (go_at_call 110;refine (leaseHolds_t _ _ _ hL).mono ?_;rintro e' w' ⟨rfl,rfl⟩) | (go_at_call 112;refine (taskHolds_f _ _ _ hD).mono ?_;rintro e' w' ⟨rfl,rfl⟩) | (go_at_call 113;refine (textHolds_f _ _ _ hX).mono ?_;rintro e' w' ⟨rfl,rfl⟩) | (go_at_call 114;refine (inputsHold_f a n c _ _ hI).mono ?_;rintro e' w' ⟨rfl,rfl⟩))
        go_quiet (fail)
        go_wp2_with (first | (go_at_call 111;refine (isKind_any _ _).mono ?_;rintro e' w' ⟨rfl,rfl⟩) | (go_at_call 75;refine (within_any _ _ _ _).mono ?_;rintro e' w' ⟨rfl,rfl⟩) | (go_at_call 110;refine (leaseHolds_t _ _ _ hL).mono ?_;rintro e' w' ⟨rfl,rfl⟩) | (go_at_call 112;refine (taskHolds_f _ _ _ hD).mono ?_;rintro e' w' ⟨rfl,rfl⟩) | (go_at_call 113;refine (textHolds_f _ _ _ hX).mono ?_;rintro e' w' ⟨rfl,rfl⟩) | (go_at_call 114;refine (inputsHold_f a n c _ _ hI).mono ?_;rintro e' w' ⟨rfl,rfl⟩))
        go_ret
        refine ⟨RetB.t ((vM2 _ _ _ _ _ _ _).2 ?_),by repeat (first | exact hb0 | refine below_drewN ?_ _)⟩;have:=GP.out;have:=GQ.out;have:=GE.out;have:=GL.out;have:=GD.out;have:=GX.out;have:=GI.out;rw [HL.out];omega
end Go.Proofs.YtaeomkpofcbmiaaGreatDoor
