
import Derived.Test.YtfkkipgcfoegmaaGreatQEnf
set_option maxHeartbeats 4000000
set_option maxRecDepth 100000
namespace Go.Proofs.YtfkkipgcfoegmaaGreat
open Go.Proofs.Tryz
open Go.Value renaming slice→K,string→E,agg→aI
open Go.Obj renaming cells→aH
open Bool renaming false→aK,true→aN
open Go.Value renaming int→I
open Go.IntKind renaming i64→Y
open Go.RowKit
variable {e f l t:Int} {ss:List ByteArray} {z:Nat}
theorem ac3 (f t e l d:Int) (x:ByteArray) (a:Option Addr) (b o n c:Nat) (ss:List ByteArray) (w:World) (h:kS w a b o n ss) :
  Calls prog 103 #[aI #[I Y 1,I Y f,I Y t,I Y e,I Y l,I Y d,E x,K a n c]] w fun g i=>kG g (vM 1 f t e l d x.size ss)∧Below w.heap.size w i:=by
 have k:Below w.heap.size w (w.alloc (aH #[I Y 1,I Y f,I Y t,I Y e,I Y l,I Y d,E x,K a n c] 136)):=kQ;have X:inB 1 1 5=aN:=cZ;have S:=h.max;have V:Hid (ss.length=n):=h.len;unfold maxLen at S;cases v:inB e 1 300 with
 | false =>
  have M:=mO v;go_enter func103,ntmps103
  go_wp2_with (first | (go_at_call 19;refine (kP _ _ _).mono ?_;rintro g i ⟨rfl,rfl⟩) | (go_at_call 111;refine (CX).mono ?_;rintro g i ⟨rfl,rfl⟩) | (go_at_call 21;refine (kN).mono ?_;rintro g i ⟨rfl,rfl⟩))
  go_ret;refine ⟨kG.f fun j=>?_,k⟩;have j:=(OA).1 j;omega
 | true =>
  have M:=mM v;by_cases g0:¬ (f=0)
  ·have W:(f == 0)=aK:=by simpa using g0
   go_enter func103,ntmps103
   go_wp2_with (first | (go_at_call 19;refine (kP _ _ _).mono ?_;rintro g i ⟨rfl,rfl⟩) | (go_at_call 111;refine (CX).mono ?_;rintro g i ⟨rfl,rfl⟩) | (go_at_call 21;refine (kN).mono ?_;rintro g i ⟨rfl,rfl⟩))
   go_ret;refine ⟨kG.f fun j=>?_,k⟩;have j:=(OA).1 j;omega
  have g0:=Decidable.of_not_not g0;subst g0;cases H:inB t 1 8 with
  | false =>
   have P:=mO H;go_enter func103,ntmps103
   go_wp2_with (first | (go_at_call 19;refine (kP _ _ _).mono ?_;rintro g i ⟨rfl,rfl⟩) | (go_at_call 111;refine (CX).mono ?_;rintro g i ⟨rfl,rfl⟩) | (go_at_call 21;refine (kN).mono ?_;rintro g i ⟨rfl,rfl⟩))
   go_ret;refine ⟨kG.f fun j=>?_,k⟩;have j:=(OA).1 j;omega
  | true =>
   have P:=mM H;cases z:inB l 1 300000000 with
   | false =>
    have N:=mO z;go_enter func103,ntmps103
    go_wp2_with (first | (go_at_call 19;refine (kP _ _ _).mono ?_;rintro g i ⟨rfl,rfl⟩) | (go_at_call 111;refine (CX).mono ?_;rintro g i ⟨rfl,rfl⟩) | (go_at_call 21;refine (kN).mono ?_;rintro g i ⟨rfl,rfl⟩))
    go_ret;refine ⟨kG.f fun j=>?_,k⟩;have j:=(OA).1 j;omega
   | true =>
    have N:=mM z;cases u:inB d 0 39 with
    | false =>
     have L:=mO u;go_enter func103,ntmps103
     go_wp2_with (first | (go_at_call 19;refine (kP _ _ _).mono ?_;rintro g i ⟨rfl,rfl⟩) | (go_at_call 111;refine (CX).mono ?_;rintro g i ⟨rfl,rfl⟩) | (go_at_call 21;refine (kN).mono ?_;rintro g i ⟨rfl,rfl⟩))
     go_ret;refine ⟨kG.f fun j=>?_,k⟩;have j:=(OA).1 j;omega
    | true =>
     have L:=mM u;by_cases p:¬ (x.size=0)
     ·have Q:=oQ p
      go_enter func103,ntmps103
      go_wp2_with (first | (go_at_call 19;refine (kP _ _ _).mono ?_;rintro g i ⟨rfl,rfl⟩) | (go_at_call 111;refine (CX).mono ?_;rintro g i ⟨rfl,rfl⟩) | (go_at_call 21;refine (kN).mono ?_;rintro g i ⟨rfl,rfl⟩))
      go_ret;refine ⟨kG.f fun j=>?_,k⟩;have j:=(OA).1 j;omega
     have p:=Decidable.of_not_not p;have Q:=oP p;have J:Hid (x.size=0):=p;clear p;by_cases q:Ae ss
     ·have T:Hid (Ae ss):=q
      go_enter func103,ntmps103
      go_wp2_with (first | (go_at_call 19;refine (kP _ _ _).mono ?_;rintro g i ⟨rfl,rfl⟩) | (go_at_call 111;refine (CX).mono ?_;rintro g i ⟨rfl,rfl⟩) | (go_at_call 21;refine (kN).mono ?_;rintro g i ⟨rfl,rfl⟩) | (go_at_call 109;refine (Fj a b o n c ss (h.below' k)).mono ?_;rintro g i ⟨⟨r,rfl,s⟩,rfl⟩;obtain rfl:=s.2 q;clear s))
      go_ret;exact ⟨kG.t ((OA).2 ⟨A,A,A,A,A,A,A,A,A,J.out,q⟩),k⟩
     ·go_enter func103,ntmps103
      go_wp2_with (first | (go_at_call 19;refine (kP _ _ _).mono ?_;rintro g i ⟨rfl,rfl⟩) | (go_at_call 111;refine (CX).mono ?_;rintro g i ⟨rfl,rfl⟩) | (go_at_call 21;refine (kN).mono ?_;rintro g i ⟨rfl,rfl⟩) | (go_at_call 109;refine (Fj a b o n c ss (h.below' k)).mono ?_;rintro g i ⟨⟨r,rfl,s⟩,rfl⟩;obtain rfl:r=aK:=Bool.eq_false_iff.2 (fun R=>q (s.1 R));clear s))
      go_ret;exact ⟨kG.f fun j=>q ((OA).1 j).2.2.2.2.2.2.2.2.2.2,k⟩
theorem ac2 (f t e l d:Int) (x:ByteArray) (a:Option Addr) (b o n c:Nat) (ss:List ByteArray) (w:World) (h:kS w a b o n ss) :
  Calls prog 103 #[aI #[I Y 2,I Y f,I Y t,I Y e,I Y l,I Y d,E x,K a n c]] w fun g i=>kG g (vM 2 f t e l d x.size ss)∧Below w.heap.size w i:=by
 have k:Below w.heap.size w (w.alloc (aH #[I Y 2,I Y f,I Y t,I Y e,I Y l,I Y d,E x,K a n c] 136)):=kQ;have V:inB 2 1 5=aN:=cZ;have R:=h.max;have s:Hid (ss.length=n):=h.len;unfold maxLen at R;cases u:inB e 1 300 with
 | false =>
  have L:=mO u;go_enter func103,ntmps103
  go_wp2_with (first | (go_at_call 19;refine (kP _ _ _).mono ?_;rintro g i ⟨rfl,rfl⟩) | (go_at_call 111;refine (CW).mono ?_;rintro g i ⟨rfl,rfl⟩) | (go_at_call 21;refine (kN).mono ?_;rintro g i ⟨rfl,rfl⟩))
  go_ret;refine ⟨kG.f fun j=>?_,k⟩;have j:=(Qp _ _ _ _ _ _ _).1 j;omega
 | true =>
  have L:=mM u;by_cases g0:¬ (t=0)
  ·have S:(t == 0)=aK:=by simpa using g0
   go_enter func103,ntmps103
   go_wp2_with (first | (go_at_call 19;refine (kP _ _ _).mono ?_;rintro g i ⟨rfl,rfl⟩) | (go_at_call 111;refine (CW).mono ?_;rintro g i ⟨rfl,rfl⟩) | (go_at_call 21;refine (kN).mono ?_;rintro g i ⟨rfl,rfl⟩))
   go_ret;refine ⟨kG.f fun j=>?_,k⟩;have j:=(Qp _ _ _ _ _ _ _).1 j;omega
  have g0:=Decidable.of_not_not g0;subst g0;cases z:inB f 1 8 with
  | false =>
   have P:=mO z;go_enter func103,ntmps103
   go_wp2_with (first | (go_at_call 19;refine (kP _ _ _).mono ?_;rintro g i ⟨rfl,rfl⟩) | (go_at_call 111;refine (CW).mono ?_;rintro g i ⟨rfl,rfl⟩) | (go_at_call 21;refine (kN).mono ?_;rintro g i ⟨rfl,rfl⟩))
   go_ret;refine ⟨kG.f fun j=>?_,k⟩;have j:=(Qp _ _ _ _ _ _ _).1 j;omega
  | true =>
   have P:=mM z;cases v:inB l 1 300000000 with
   | false =>
    have M:=mO v;go_enter func103,ntmps103
    go_wp2_with (first | (go_at_call 19;refine (kP _ _ _).mono ?_;rintro g i ⟨rfl,rfl⟩) | (go_at_call 111;refine (CW).mono ?_;rintro g i ⟨rfl,rfl⟩) | (go_at_call 21;refine (kN).mono ?_;rintro g i ⟨rfl,rfl⟩))
    go_ret;refine ⟨kG.f fun j=>?_,k⟩;have j:=(Qp _ _ _ _ _ _ _).1 j;omega
   | true =>
    have M:=mM v;by_cases q:¬ (d=0)
    ·have T:(d == 0)=aK:=by simpa using q
     go_enter func103,ntmps103
     go_wp2_with (first | (go_at_call 19;refine (kP _ _ _).mono ?_;rintro g i ⟨rfl,rfl⟩) | (go_at_call 111;refine (CW).mono ?_;rintro g i ⟨rfl,rfl⟩) | (go_at_call 21;refine (kN).mono ?_;rintro g i ⟨rfl,rfl⟩))
     go_ret;refine ⟨kG.f fun j=>?_,k⟩;have j:=(Qp _ _ _ _ _ _ _).1 j;omega
    have q:=Decidable.of_not_not q;subst q;by_cases p:¬ (x.size=0)
    ·have Q:=oQ p
     go_enter func103,ntmps103
     go_wp2_with (first | (go_at_call 19;refine (kP _ _ _).mono ?_;rintro g i ⟨rfl,rfl⟩) | (go_at_call 111;refine (CW).mono ?_;rintro g i ⟨rfl,rfl⟩) | (go_at_call 21;refine (kN).mono ?_;rintro g i ⟨rfl,rfl⟩))
     go_ret;refine ⟨kG.f fun j=>?_,k⟩;have j:=(Qp _ _ _ _ _ _ _).1 j;omega
    have p:=Decidable.of_not_not p;have Q:=oP p;have J:Hid (x.size=0):=p;clear p;by_cases r:¬ (n=0)
    ·have N:((n:Int) == 0)=aK:=by simp;omega
     go_enter func103,ntmps103
     go_wp2_with (first | (go_at_call 19;refine (kP _ _ _).mono ?_;rintro g i ⟨rfl,rfl⟩) | (go_at_call 111;refine (CW).mono ?_;rintro g i ⟨rfl,rfl⟩) | (go_at_call 21;refine (kN).mono ?_;rintro g i ⟨rfl,rfl⟩))
     go_ret;refine ⟨kG.f fun j=>?_,k⟩;have j:=(Qp _ _ _ _ _ _ _).1 j;rw [s.out] at j;omega
    have r:=Decidable.of_not_not r;have N:((n:Int) == 0)=aN:=aQ;have H:Hid (n=0):=r;clear r;go_enter func103,ntmps103
    go_wp2_with (first | (go_at_call 19;refine (kP _ _ _).mono ?_;rintro g i ⟨rfl,rfl⟩) | (go_at_call 111;refine (CW).mono ?_;rintro g i ⟨rfl,rfl⟩) | (go_at_call 21;refine (kN).mono ?_;rintro g i ⟨rfl,rfl⟩))
    go_ret;refine ⟨kG.t ?_,k⟩;rw [Qp,s.out];have:=J.out;have:=H.out;omega
theorem ac1 (f t e l d:Int) (x:ByteArray) (a:Option Addr) (b o n c:Nat) (ss:List ByteArray) (w:World) (h:kS w a b o n ss) :
  Calls prog 103 #[aI #[I Y 3,I Y f,I Y t,I Y e,I Y l,I Y d,E x,K a n c]] w fun g i=>kG g (vM 3 f t e l d x.size ss)∧Below w.heap.size w i:=by
 have k:Below w.heap.size w (w.alloc (aH #[I Y 3,I Y f,I Y t,I Y e,I Y l,I Y d,E x,K a n c] 136)):=kQ;have V:inB 3 1 5=aN:=cZ;have S:=h.max;have r:Hid (ss.length=n):=h.len;unfold maxLen at S;cases u:inB e 1 300 with
 | false =>
  have M:=mO u;go_enter func103,ntmps103
  go_wp2_with (first | (go_at_call 19;refine (kP _ _ _).mono ?_;rintro g i ⟨rfl,rfl⟩) | (go_at_call 111;refine (CV).mono ?_;rintro g i ⟨rfl,rfl⟩) | (go_at_call 21;refine (kN).mono ?_;rintro g i ⟨rfl,rfl⟩))
  go_ret;refine ⟨kG.f fun j=>?_,k⟩;have j:=(Qo _ _ _ _ _ _ _).1 j;omega
 | true =>
  have M:=mM u;by_cases g0:¬ (t=0)
  ·have T:(t == 0)=aK:=by simpa using g0
   go_enter func103,ntmps103
   go_wp2_with (first | (go_at_call 19;refine (kP _ _ _).mono ?_;rintro g i ⟨rfl,rfl⟩) | (go_at_call 111;refine (CV).mono ?_;rintro g i ⟨rfl,rfl⟩) | (go_at_call 21;refine (kN).mono ?_;rintro g i ⟨rfl,rfl⟩))
   go_ret;refine ⟨kG.f fun j=>?_,k⟩;have j:=(Qo _ _ _ _ _ _ _).1 j;omega
  have g0:=Decidable.of_not_not g0;subst g0;cases z:inB f 1 8 with
  | false =>
   have Q:=mO z;go_enter func103,ntmps103
   go_wp2_with (first | (go_at_call 19;refine (kP _ _ _).mono ?_;rintro g i ⟨rfl,rfl⟩) | (go_at_call 111;refine (CV).mono ?_;rintro g i ⟨rfl,rfl⟩) | (go_at_call 21;refine (kN).mono ?_;rintro g i ⟨rfl,rfl⟩))
   go_ret;refine ⟨kG.f fun j=>?_,k⟩;have j:=(Qo _ _ _ _ _ _ _).1 j;omega
  | true =>
   have Q:=mM z;cases v:inB l 1 300000000 with
   | false =>
    have N:=mO v;go_enter func103,ntmps103
    go_wp2_with (first | (go_at_call 19;refine (kP _ _ _).mono ?_;rintro g i ⟨rfl,rfl⟩) | (go_at_call 111;refine (CV).mono ?_;rintro g i ⟨rfl,rfl⟩) | (go_at_call 21;refine (kN).mono ?_;rintro g i ⟨rfl,rfl⟩))
    go_ret;refine ⟨kG.f fun j=>?_,k⟩;have j:=(Qo _ _ _ _ _ _ _).1 j;omega
   | true =>
    have N:=mM v;cases s:inB d 0 39 with
    | false =>
     have L:=mO s;go_enter func103,ntmps103
     go_wp2_with (first | (go_at_call 19;refine (kP _ _ _).mono ?_;rintro g i ⟨rfl,rfl⟩) | (go_at_call 111;refine (CV).mono ?_;rintro g i ⟨rfl,rfl⟩) | (go_at_call 21;refine (kN).mono ?_;rintro g i ⟨rfl,rfl⟩))
     go_ret;refine ⟨kG.f fun j=>?_,k⟩;have j:=(Qo _ _ _ _ _ _ _).1 j;omega
    | true =>
     have L:=mM s;by_cases q:¬ (x.size=8)
     ·have R:((x.size:Int) == 8)=aK:=by simp;omega
      go_enter func103,ntmps103
      go_wp2_with (first | (go_at_call 19;refine (kP _ _ _).mono ?_;rintro g i ⟨rfl,rfl⟩) | (go_at_call 111;refine (CV).mono ?_;rintro g i ⟨rfl,rfl⟩) | (go_at_call 21;refine (kN).mono ?_;rintro g i ⟨rfl,rfl⟩))
      go_ret;refine ⟨kG.f fun j=>?_,k⟩;have j:=(Qo _ _ _ _ _ _ _).1 j;omega
     have q:=Decidable.of_not_not q;have R:((x.size:Int) == 8)=aN:=aQ;have J:Hid (x.size=8):=q;clear q;by_cases p:¬ (n=0)
     ·have P:((n:Int) == 0)=aK:=by simp;omega
      go_enter func103,ntmps103
      go_wp2_with (first | (go_at_call 19;refine (kP _ _ _).mono ?_;rintro g i ⟨rfl,rfl⟩) | (go_at_call 111;refine (CV).mono ?_;rintro g i ⟨rfl,rfl⟩) | (go_at_call 21;refine (kN).mono ?_;rintro g i ⟨rfl,rfl⟩))
      go_ret;refine ⟨kG.f fun j=>?_,k⟩;have j:=(Qo _ _ _ _ _ _ _).1 j;rw [r.out] at j;omega
     have p:=Decidable.of_not_not p;have P:((n:Int) == 0)=aN:=aQ;have H:Hid (n=0):=p;clear p;go_enter func103,ntmps103
     go_wp2_with (first | (go_at_call 19;refine (kP _ _ _).mono ?_;rintro g i ⟨rfl,rfl⟩) | (go_at_call 111;refine (CV).mono ?_;rintro g i ⟨rfl,rfl⟩) | (go_at_call 21;refine (kN).mono ?_;rintro g i ⟨rfl,rfl⟩))
     go_ret;refine ⟨kG.t ?_,k⟩;rw [Qo,r.out];have:=J.out;have:=H.out;omega
theorem ac0 (f t e l d:Int) (x:ByteArray) (a:Option Addr) (b o n c:Nat) (ss:List ByteArray) (w:World) (h:kS w a b o n ss) :
  Calls prog 103 #[aI #[I Y 4,I Y f,I Y t,I Y e,I Y l,I Y d,E x,K a n c]] w fun g i=>kG g (vM 4 f t e l d x.size ss)∧Below w.heap.size w i:=by
 have k:Below w.heap.size w (w.alloc (aH #[I Y 4,I Y f,I Y t,I Y e,I Y l,I Y d,E x,K a n c] 136)):=kQ;have V:inB 4 1 5=aN:=cZ;have R:=h.max;have s:Hid (ss.length=n):=h.len;unfold maxLen at R;cases u:inB e 1 300 with
 | false =>
  have L:=mO u;go_enter func103,ntmps103
  go_wp2_with (first | (go_at_call 19;refine (kP _ _ _).mono ?_;rintro g i ⟨rfl,rfl⟩) | (go_at_call 111;refine (CU).mono ?_;rintro g i ⟨rfl,rfl⟩) | (go_at_call 21;refine (kN).mono ?_;rintro g i ⟨rfl,rfl⟩))
  go_ret;refine ⟨kG.f fun j=>?_,k⟩;have j:=(Qn _ _ _ _ _ _ _).1 j;omega
 | true =>
  have L:=mM u;by_cases g0:¬ (f=0)
  ·have S:(f == 0)=aK:=by simpa using g0
   go_enter func103,ntmps103
   go_wp2_with (first | (go_at_call 19;refine (kP _ _ _).mono ?_;rintro g i ⟨rfl,rfl⟩) | (go_at_call 111;refine (CU).mono ?_;rintro g i ⟨rfl,rfl⟩) | (go_at_call 21;refine (kN).mono ?_;rintro g i ⟨rfl,rfl⟩))
   go_ret;refine ⟨kG.f fun j=>?_,k⟩;have j:=(Qn _ _ _ _ _ _ _).1 j;omega
  have g0:=Decidable.of_not_not g0;subst g0;cases z:inB t 1 8 with
  | false =>
   have P:=mO z;go_enter func103,ntmps103
   go_wp2_with (first | (go_at_call 19;refine (kP _ _ _).mono ?_;rintro g i ⟨rfl,rfl⟩) | (go_at_call 111;refine (CU).mono ?_;rintro g i ⟨rfl,rfl⟩) | (go_at_call 21;refine (kN).mono ?_;rintro g i ⟨rfl,rfl⟩))
   go_ret;refine ⟨kG.f fun j=>?_,k⟩;have j:=(Qn _ _ _ _ _ _ _).1 j;omega
  | true =>
   have P:=mM z;cases v:inB l 1 300000000 with
   | false =>
    have M:=mO v;go_enter func103,ntmps103
    go_wp2_with (first | (go_at_call 19;refine (kP _ _ _).mono ?_;rintro g i ⟨rfl,rfl⟩) | (go_at_call 111;refine (CU).mono ?_;rintro g i ⟨rfl,rfl⟩) | (go_at_call 21;refine (kN).mono ?_;rintro g i ⟨rfl,rfl⟩))
    go_ret;refine ⟨kG.f fun j=>?_,k⟩;have j:=(Qn _ _ _ _ _ _ _).1 j;omega
   | true =>
    have M:=mM v;by_cases q:¬ (d=0)
    ·have T:(d == 0)=aK:=by simpa using q
     go_enter func103,ntmps103
     go_wp2_with (first | (go_at_call 19;refine (kP _ _ _).mono ?_;rintro g i ⟨rfl,rfl⟩) | (go_at_call 111;refine (CU).mono ?_;rintro g i ⟨rfl,rfl⟩) | (go_at_call 21;refine (kN).mono ?_;rintro g i ⟨rfl,rfl⟩))
     go_ret;refine ⟨kG.f fun j=>?_,k⟩;have j:=(Qn _ _ _ _ _ _ _).1 j;omega
    have q:=Decidable.of_not_not q;subst q;by_cases p:¬ (x.size=0)
    ·have Q:=oQ p
     go_enter func103,ntmps103
     go_wp2_with (first | (go_at_call 19;refine (kP _ _ _).mono ?_;rintro g i ⟨rfl,rfl⟩) | (go_at_call 111;refine (CU).mono ?_;rintro g i ⟨rfl,rfl⟩) | (go_at_call 21;refine (kN).mono ?_;rintro g i ⟨rfl,rfl⟩))
     go_ret;refine ⟨kG.f fun j=>?_,k⟩;have j:=(Qn _ _ _ _ _ _ _).1 j;omega
    have p:=Decidable.of_not_not p;have Q:=oP p;have J:Hid (x.size=0):=p;clear p;by_cases r:¬ (n=0)
    ·have N:((n:Int) == 0)=aK:=by simp;omega
     go_enter func103,ntmps103
     go_wp2_with (first | (go_at_call 19;refine (kP _ _ _).mono ?_;rintro g i ⟨rfl,rfl⟩) | (go_at_call 111;refine (CU).mono ?_;rintro g i ⟨rfl,rfl⟩) | (go_at_call 21;refine (kN).mono ?_;rintro g i ⟨rfl,rfl⟩))
     go_ret;refine ⟨kG.f fun j=>?_,k⟩;have j:=(Qn _ _ _ _ _ _ _).1 j;rw [s.out] at j;omega
    have r:=Decidable.of_not_not r;have N:((n:Int) == 0)=aN:=aQ;have H:Hid (n=0):=r;clear r;go_enter func103,ntmps103
    go_wp2_with (first | (go_at_call 19;refine (kP _ _ _).mono ?_;rintro g i ⟨rfl,rfl⟩) | (go_at_call 111;refine (CU).mono ?_;rintro g i ⟨rfl,rfl⟩) | (go_at_call 21;refine (kN).mono ?_;rintro g i ⟨rfl,rfl⟩))
    go_ret;refine ⟨kG.t ?_,k⟩;rw [Qn,s.out];have:=J.out;have:=H.out;omega
theorem acZ (f t e l d:Int) (x:ByteArray) (a:Option Addr) (b o n c:Nat) (ss:List ByteArray) (w:World) (h:kS w a b o n ss) :
  Calls prog 103 #[aI #[I Y 5,I Y f,I Y t,I Y e,I Y l,I Y d,E x,K a n c]] w fun g i=>kG g (vM 5 f t e l d x.size ss)∧Below w.heap.size w i:=by
 have k:Below w.heap.size w (w.alloc (aH #[I Y 5,I Y f,I Y t,I Y e,I Y l,I Y d,E x,K a n c] 136)):=kQ;have V:inB 5 1 5=aN:=cZ;have Q:=h.max;have u:Hid (ss.length=n):=h.len;unfold maxLen at Q;cases v:inB e 1 300 with
 | false =>
  have L:=mO v;go_enter func103,ntmps103
  go_wp2_with (first | (go_at_call 19;refine (kP _ _ _).mono ?_;rintro g i ⟨rfl,rfl⟩) | (go_at_call 111;refine (CS).mono ?_;rintro g i ⟨rfl,rfl⟩) | (go_at_call 21;refine (kN).mono ?_;rintro g i ⟨rfl,rfl⟩))
  go_ret;refine ⟨kG.f fun j=>?_,k⟩;have j:=(Ql _ _ _ _ _ _ _).1 j;omega
 | true =>
  have L:=mM v;by_cases g0:¬ (t=0)
  ·have R:(t == 0)=aK:=by simpa using g0
   go_enter func103,ntmps103
   go_wp2_with (first | (go_at_call 19;refine (kP _ _ _).mono ?_;rintro g i ⟨rfl,rfl⟩) | (go_at_call 111;refine (CS).mono ?_;rintro g i ⟨rfl,rfl⟩) | (go_at_call 21;refine (kN).mono ?_;rintro g i ⟨rfl,rfl⟩))
   go_ret;refine ⟨kG.f fun j=>?_,k⟩;have j:=(Ql _ _ _ _ _ _ _).1 j;omega
  have g0:=Decidable.of_not_not g0;subst g0;cases z:inB f 1 8 with
  | false =>
   have N:=mO z;go_enter func103,ntmps103
   go_wp2_with (first | (go_at_call 19;refine (kP _ _ _).mono ?_;rintro g i ⟨rfl,rfl⟩) | (go_at_call 111;refine (CS).mono ?_;rintro g i ⟨rfl,rfl⟩) | (go_at_call 21;refine (kN).mono ?_;rintro g i ⟨rfl,rfl⟩))
   go_ret;refine ⟨kG.f fun j=>?_,k⟩;have j:=(Ql _ _ _ _ _ _ _).1 j;omega
  | true =>
   have N:=mM z;by_cases r:¬ (l=0)
   ·have T:(l == 0)=aK:=by simpa using r
    go_enter func103,ntmps103
    go_wp2_with (first | (go_at_call 19;refine (kP _ _ _).mono ?_;rintro g i ⟨rfl,rfl⟩) | (go_at_call 111;refine (CS).mono ?_;rintro g i ⟨rfl,rfl⟩) | (go_at_call 21;refine (kN).mono ?_;rintro g i ⟨rfl,rfl⟩))
    go_ret;refine ⟨kG.f fun j=>?_,k⟩;have j:=(Ql _ _ _ _ _ _ _).1 j;omega
   have r:=Decidable.of_not_not r;subst r;by_cases q:¬ (d=0)
   ·have S:(d == 0)=aK:=by simpa using q
    go_enter func103,ntmps103
    go_wp2_with (first | (go_at_call 19;refine (kP _ _ _).mono ?_;rintro g i ⟨rfl,rfl⟩) | (go_at_call 111;refine (CS).mono ?_;rintro g i ⟨rfl,rfl⟩) | (go_at_call 21;refine (kN).mono ?_;rintro g i ⟨rfl,rfl⟩))
    go_ret;refine ⟨kG.f fun j=>?_,k⟩;have j:=(Ql _ _ _ _ _ _ _).1 j;omega
   have q:=Decidable.of_not_not q;subst q;by_cases p:¬ (x.size=0)
   ·have P:=oQ p
    go_enter func103,ntmps103
    go_wp2_with (first | (go_at_call 19;refine (kP _ _ _).mono ?_;rintro g i ⟨rfl,rfl⟩) | (go_at_call 111;refine (CS).mono ?_;rintro g i ⟨rfl,rfl⟩) | (go_at_call 21;refine (kN).mono ?_;rintro g i ⟨rfl,rfl⟩))
    go_ret;refine ⟨kG.f fun j=>?_,k⟩;have j:=(Ql _ _ _ _ _ _ _).1 j;omega
   have p:=Decidable.of_not_not p;have P:=oP p;have J:Hid (x.size=0):=p;clear p;by_cases s:¬ (n=0)
   ·have M:((n:Int) == 0)=aK:=by simp;omega
    go_enter func103,ntmps103
    go_wp2_with (first | (go_at_call 19;refine (kP _ _ _).mono ?_;rintro g i ⟨rfl,rfl⟩) | (go_at_call 111;refine (CS).mono ?_;rintro g i ⟨rfl,rfl⟩) | (go_at_call 21;refine (kN).mono ?_;rintro g i ⟨rfl,rfl⟩))
    go_ret;refine ⟨kG.f fun j=>?_,k⟩;have j:=(Ql _ _ _ _ _ _ _).1 j;rw [u.out] at j;omega
   have s:=Decidable.of_not_not s;have M:((n:Int) == 0)=aN:=aQ;have H:Hid (n=0):=s;clear s;go_enter func103,ntmps103
   go_wp2_with (first | (go_at_call 19;refine (kP _ _ _).mono ?_;rintro g i ⟨rfl,rfl⟩) | (go_at_call 111;refine (CS).mono ?_;rintro g i ⟨rfl,rfl⟩) | (go_at_call 21;refine (kN).mono ?_;rintro g i ⟨rfl,rfl⟩))
   go_ret;refine ⟨kG.t ?_,k⟩;rw [Ql,u.out];have:=J.out;have:=H.out;omega





theorem adQ {k d:Int} (h:vM k f t e l d z ss):1≤k∧k≤5:=by
 unfold vM at h;rcases h with h | h | h | h | h <;> (obtain ⟨rfl,_⟩:=h;omega)
theorem ac4 (k f t e l d:Int) (x:ByteArray) (a:Option Addr) (n c:Nat) (ss:List ByteArray) (w:World) (o:inB k 1 5=aK) :
  Calls prog 103 #[aI #[I Y k,I Y f,I Y t,I Y e,I Y l,I Y d,E x,K a n c]] w fun g h=>kG g (vM k f t e l d x.size ss)∧Below w.heap.size w h:=by
 have j:Below w.heap.size w (w.alloc (aH #[I Y k,I Y f,I Y t,I Y e,I Y l,I Y d,E x,K a n c] 136)):=kQ;have i:=hid (mO o);go_enter func103,ntmps103
 go_wp2_with (go_at_call 19;refine (kP _ _ _).mono ?_;rintro g h ⟨rfl,rfl⟩)
 go_ret;exact ⟨kG.f fun p=>i.out (adQ p),j⟩
theorem NK (k f t e l d:Int) (x:ByteArray) (a:Option Addr) (b o n c:Nat) (ss:List ByteArray) (w:World) (h:kS w a b o n ss) :
  Calls prog 103 #[aI #[I Y k,I Y f,I Y t,I Y e,I Y l,I Y d,E x,K a n c]] w fun i j=>kG i (vM k f t e l d x.size ss)∧Below w.heap.size w j:=by
 cases g:inB k 1 5 with
 | false=>exact ac4 k f t e l d x a n c ss w g
 | true =>
  have:=mM g;obtain rfl | rfl | rfl | rfl | rfl:k=1∨k=2∨k=3∨k=4∨k=5:=A
  ·exact ac3 f t e l d x a b o n c ss w h
  ·exact ac2 f t e l d x a b o n c ss w h
  ·exact ac1 f t e l d x a b o n c ss w h
  ·exact ac0 f t e l d x a b o n c ss w h
  ·exact acZ f t e l d x a b o n c ss w h
def Az (k f t e l d:Int) (n:Nat):List Int:=[k % 256,f % 256,t % 256,e / 256 % 256,e % 256,l / 16777216 % 256,l / 65536 % 256,l / 256 % 256,l % 256,d % 256,(n:Int) % 256]
def Df (ss:List ByteArray):List UInt8:=(ss.map fun s=>s.data.toList).flatten
theorem Ze (ss:List ByteArray) (s:ByteArray):Df (ss ++ [s])=Df ss ++ s.data.toList:=by simp [Df]
theorem Nb (ss:List ByteArray):(Df ss).length=tot ss:=by
 induction ss with
 | nil=>rfl
 | cons s r ih=>simp only [Df,tot,Js,List.flatten_cons,lD,RU] at ih ⊢;rw [ih];rw [nZ];rfl
def AB (k f t e l d:Int) (x:ByteArray) (ss:List ByteArray):List UInt8:=toB (Az k f t e l d ss.length) ++ x.data.toList ++ Df ss
theorem VA {k d:Int} {n:Nat}:∀ z∈Az k f t e l d n,0≤z∧z<256:=by
 intro z a;simp only [Az,mG,mF,or_false] at a;rcases a with rfl | rfl | rfl | rfl | rfl | rfl | rfl | rfl | rfl | rfl | rfl <;> omega
theorem TT (h:Ae ss):tot ss≤64:=by
 obtain ⟨c,a⟩:=h;have key:∀ k,k≤ss.length→tot (ss.take k)=8*k:=by
  intro k;induction k with
  | zero=>intro _;rfl
  | succ k ih=>intro d;rw [pG A,Jz,ih A,a k A];omega
 have:=key ss.length kL;rw [LK] at this;omega
theorem Vd (k f t e l d:Int) (x:ByteArray) (ss:List ByteArray):(AB k f t e l d x ss).length=11+x.size+tot ss:=by
 simp only [AB,toB,Az,lD,List.length_map,Nb,pX,qJ,nZ];rfl
theorem XJ (k f t e l d:Int) (x:ByteArray) (a:Option Addr) (b o n c:Nat) (ss:List ByteArray) {w:World} (h:kS w a b o n ss) (hx:x.size≤8) (hi:Ae ss) (bb:0≤e) (bc:e≤300) (bd:0≤l) (bf:l≤300000000) :
  Calls prog 110 #[aI #[I Y k,I Y f,I Y t,I Y e,I Y l,I Y d,E x,K a n c]] w fun e' w'=>e'=.returned (E ⟨(AB k f t e l d x ss).toArray⟩)∧Below w.heap.size w w':=by
 obtain ⟨i0,ah,ak,al,an⟩:=info_parts Tryz.info5;have bk:=h.max;have bl:n≤8:=by have:=hi.1;rw [h.len] at this;exact this
 have HT:Hid (tot ss≤64):=TT hi;have u:Hid (ss.length=n):=h.len;obtain ⟨W, r⟩ := kC ((w.alloc (aH #[I Y k,I Y f,I Y t,I Y e,I Y l,I Y d,E x,K a n c] 136)).alloc (aH #[.int .u8 (k % 256),.int .u8 (f % 256),.int .u8 (t % 256),.int .u8 (e / 256),.int .u8 (e % 256),.int .u8 (l / 16777216),.int .u8 (l / 65536 % 256),.int .u8 (l / 256 % 256),.int .u8 (l % 256),.int .u8 (d % 256),.int .u8 (n:Int)] 5));have bm:W.heap.size=w.heap.size+2:=by rw [r];simp
 have ae:Below w.heap.size w W:=by rw [r];exact kQ.alloc D _
 have aa:MC W w.heap.size [I Y k,I Y f,I Y t,I Y e,I Y l,I Y d,E x,K a n c]:=by
  rw [r];exact (MC.made w _ _).below ((Iz (w.heap.size+1) _).alloc D _) A
 have T:Own (w.heap.size+1) W 1 (K (some ⟨w.heap.size+1,0,none⟩) 11 11) 11 ((bN (toB (Az k f t e l d n))).map (Value.int .u8)):=by
  rw [QS _ (VA),r];have h1:e / 256 % 256=e / 256:=A;have h2:l / 16777216 % 256=l / 16777216:=A;have h3:(n:Int) % 256=n:=A;have:=kW.made (w.alloc (aH #[I Y k,I Y f,I Y t,I Y e,I Y l,I Y d,E x,K a n c] 136)) (w.heap.size+1) 5 1 11 11 #[.int .u8 (k % 256),.int .u8 (f % 256),.int .u8 (t % 256),.int .u8 (e / 256),.int .u8 (e % 256),.int .u8 (l / 16777216),.int .u8 (l / 65536 % 256),.int .u8 (l / 256 % 256),.int .u8 (l % 256),.int .u8 (d % 256),.int .u8 (n:Int)] 11 D kL G rfl kL ((Az k f t e l d n).map (Value.int .u8)) (by unfold Az;rw [h1,h2,h3];rfl) (0,0) (.inl rfl);rw [mJ] at this;exact .inr ⟨_,0,11,rfl,this⟩
 have X:=hid aa;have q0:W.cell? ⟨w.heap.size,6,none⟩=some (E x):=X.out 6 D;clear aa;go_enter func110,ntmps110
 go_upto_region 3 with fail
 rw [← r];clear r;go_wp2_with (at_builtin;refine kT _ rfl _ _ 22 9 rfl (w.heap.size+1) 5 i0 (.int .u8 0) 1 1 underlying22 ah ak al an rfl _ 11 _ rfl T _ x.size _ rfl (Src.ofString _ underlying9 x) G A A ?_;intro v1 w1 V af aw)
 have au:Below (w.heap.size+1) W w1:=mD.grown af A T.ku;have a8:Own (w.heap.size+1) w1 1 v1 (11+x.size) ((bN (toB (Az k f t e l d n) ++ x.data.toList ++ Df (ss.take 0))).map (Value.int .u8)):=by
  rw [EL,← rD,← QW] at V;simpa [Df] using V
 clear T V af aw q0;go_wp2;go_loopw [4,5] (fun v i wr=>∃ j:Nat,j≤n∧i=I Y j∧(∃ m,m=11+x.size+tot (ss.take j)∧Own (w.heap.size+1) wr 1 v m ((bN (toB (Az k f t e l d n) ++ x.data.toList ++ Df (ss.take j))).map (Value.int .u8)))∧Below (w.heap.size+1) W wr) (fun _ i _=>n - (intOf i).toNat)
 case atStart=>exact ⟨0,lG _,rfl,⟨_,by simp [tot],a8⟩,au⟩
 case round =>
  obtain ⟨j,hj,rfl,⟨m,hm,q⟩,z⟩:=hrel;have qj:wr.cell? ⟨w.heap.size,7,none⟩=some (K a n c):=MC.below X.out z A 7 D;have bn:=z.size;have hT:=MQ ss j;have ab:=HT.out;by_cases J:j<n
  ·obtain rfl:=h.ad A
   have H:=h.lt A;have S:wr.cell? ⟨b,o+j,none⟩=some (E (ss.getD j ByteArray.empty)):=(z.cell (p:=⟨b,o+j,none⟩) (by show b<w.heap.size+1;omega)).trans ((ae.cell (p:=⟨b,o+j,none⟩) H).trans (h.cell j J));have h8:(ss.getD j ByteArray.empty).size=8:=hi.2 j (by rw [u.out];exact J);have N:(bN (toB (Az k f t e l d n) ++ x.data.toList ++ Df (ss.take (j+1)))).map (Value.int .u8)=(bN (toB (Az k f t e l d n) ++ x.data.toList ++ Df (ss.take j))).map (Value.int .u8) ++ byteCells (ss.getD j ByteArray.empty):=by
    rw [pG (by rw [u.out];exact J),Ze,← Dk,QW,EL,rD]
   have Q:tot (ss.take (j+1))=tot (ss.take j)+(ss.getD j ByteArray.empty).size:=by rw [pG (by rw [u.out];exact J),Jz]
   obtain ⟨s, hs⟩ := kC (ss.getD j ByteArray.empty);rw [← hs] at S N h8 Q;have HS:Hid _:=N;have aq:Hid _:=Q;have bj:m+s.size≤1000:=A;have HM:Hid (m=11+x.size+tot (ss.take j)):=hm;clear N hs h8 hT hm ab Q;have bg:(j:Int)<(n:Int):=A;go_wp2_with (at_builtin;refine kT _ rfl _ _ 22 9 rfl (w.heap.size+1) 5 i0 (.int .u8 0) 1 1 underlying22 ah ak al an rfl _ m _ rfl q _ s.size _ rfl (Src.ofString _ underlying9 s) G A A ?_;intro v2 w2 ba ag ax)
   have av:Below (w.heap.size+1) W w2:=z.grown ag A q.ku;clear q ag ax;go_wp2;go_roundw
   case rel=>exact ⟨j+1,A,aW,⟨m+s.size,by rw [HM.out,aq.out];omega,by rw [HS.out];exact ba⟩,av⟩
   case measure=>simp [intOf];omega
  ·obtain rfl:j=n:=by omega
   rw [pF (by rw [u.out];omega),← u.out] at q;have H:toB (Az k f t e l d ss.length) ++ x.data.toList ++ Df ss=AB k f t e l d x ss:=rfl;rw [H] at q;have ay:∃ L M,u4=K L m M∧(convert 22 9 (K L m M)).run prog wr=.ok (E ⟨(AB k f t e l d x ss).toArray⟩) wr:=by
    rcases q with ⟨rfl,bh,bo⟩ | ⟨g,o',cap,rfl,S⟩
    ·omega
    ·obtain ⟨hl,a6⟩:=S.nums
     refine ⟨_,_,rfl,?_⟩;rw [run_convert_bytes_arg (P:=prog) wr 22 5 underlying22 underlying5 g o' m cap _ hl a6 9 underlying9,Np]
   obtain ⟨L,M,ai,a7⟩:=ay;rw [ai];obtain ⟨bs,R⟩:∃ bs:ByteArray,bs=⟨(AB k f t e l d x ss).toArray⟩:=⟨_,rfl⟩
   rw [← R] at a7;have HB:Hid _:=R;clear ai q hm hT ab R H;go_wp2;go_ret;exact ⟨MF HB.out,ae.trans (z.mono A)⟩
def AA (k f t e l d:Int) (x:ByteArray) (ss:List ByteArray):ByteArray:=⟨(AB k f t e l d x ss).toArray⟩
theorem JX (k f t e l d:Int) (x:ByteArray) (ss:List ByteArray):(AA k f t e l d x ss).size=11+x.size+tot ss:=by
 rw [← Vd k f t e l d x ss];show (AB k f t e l d x ss).toArray.size=_;simp
theorem TQ {k d:Int} (h:vM k f t e l d z ss):z≤8∧Ae ss∧0≤e∧e≤300∧0≤l∧l≤300000000:=by
 have nil:∀ {ss:List ByteArray},ss.length=0→Ae ss:=fun h=>⟨A,fun j a=>A⟩
 unfold vM at h;rcases h with ⟨_,_,_,_,_,_,_,_,_,_,_,hi⟩ | ⟨_,_,_,_,_,_,_,_,_,_,hi⟩ | ⟨_,_,_,_,_,_,_,_,_,_,_,hi⟩ | ⟨_,_,_,_,_,_,_,_,_,_,hi⟩ | ⟨_,_,_,_,_,_,_,_,_,hi⟩
 ·exact ⟨A,hi,A,A,A,A⟩
 ·exact ⟨A,nil hi,A,A,A,A⟩
 ·exact ⟨A,nil hi,A,A,A,A⟩
 ·exact ⟨A,nil hi,A,A,A,A⟩
 ·exact ⟨A,nil hi,A,A,A,A⟩
def F7 (key:ByteArray) (k f t e l d:Int) (x:ByteArray) (ss:List ByteArray) (r:ByteArray):Prop :=
 (vM k f t e l d x.size ss∧key.size≤30∧r=Gf key [AA k f t e l d x ss] ++ AA k f t e l d x ss)∨(¬ (vM k f t e l d x.size ss∧key.size≤30)∧r=⟨#[]⟩)
theorem F7.uniq {key:ByteArray} {k d:Int} {x:ByteArray} {r c:ByteArray} (h:F7 key k f t e l d x ss r) (g:F7 key k f t e l d x ss c):r=c:=by
 rcases h with ⟨a,i,rfl⟩ | ⟨a,rfl⟩ <;> rcases g with ⟨g1,g2,rfl⟩ | ⟨g1,rfl⟩
 ·rfl
 ·exact absurd ⟨a,i⟩ g1
 ·exact absurd ⟨g1,g2⟩ a
 ·rfl
def aej (a:Ending) (key:ByteArray) (k f t e l d:Int) (x:ByteArray) (ss:List ByteArray):Prop:=∃ r,a=.returned (E r)∧F7 key k f t e l d x ss r
theorem Hr (k f t e l d:Int) (x:ByteArray) (a:Option Addr) (b o n c:Nat) (ss:List ByteArray) (key:ByteArray) (w:World) (h:kS w a b o n ss) (hk:key.size≤maxLen) :
  Calls prog 102 #[aI #[I Y k,I Y f,I Y t,I Y e,I Y l,I Y d,E x,K a n c],E key] w fun q w'=>aej q key k f t e l d x ss∧Below w.heap.size w w':=by
 have aq:=hk;unfold maxLen at aq;obtain ⟨W, p⟩ := kC (w.alloc (aH #[I Y k,I Y f,I Y t,I Y e,I Y l,I Y d,E x,K a n c] 136));have a6:W.heap.size=w.heap.size+1:=by rw [p];simp
 have R:Below w.heap.size w W:=by rw [p];exact kQ
 have P:MC W w.heap.size [I Y k,I Y f,I Y t,I Y e,I Y l,I Y d,E x,K a n c]:=by rw [p];exact MC.made w _ _
 have HM:=hid P;clear P;go_enter func102,ntmps102
 go_wp2_with fail
 rw [← p];refine (NK k f t e l d x a b o n c ss _ (h.below' R)).mono ?_;rintro q w1 ⟨⟨r,rfl,s⟩,Q⟩;clear p;have j:=R.trans (Q.mono A);cases r with
 | false =>
  have g:¬ vM k f t e l d x.size ss:=fun g=>by have:=s.2 g;cases this
  have u:=hid g;clear g s;go_wp2;go_ret;exact ⟨⟨_,rfl,.inr ⟨fun H=>u.out H.1,rfl⟩⟩,j⟩
 | true =>
  have g:vM k f t e l d x.size ss:=s.1 rfl;have u:=hid g;obtain ⟨hz,V,al,an,au,av⟩:=TQ g;have L:=hid V;have M:=hid hz;clear g s V hz;by_cases X:key.size≤30
  ·have aa:=MC.below HM.out Q A
   obtain ⟨c0,c1,c2,c3,c4,c5,c6,c7⟩:=mc8 aa;have a7:=j.size;clear aa;go_wp2_with fail
   refine (XJ k f t e l d x a b o n c ss (h.below' j) M.out L.out al an au av).mono ?_;rintro q w2 ⟨rfl,ah⟩;have N:=j.trans (ah.mono j.size);have aw:=JX k f t e l d x ss;have a8:=TT L.out;have ba:=M.out;have J:Hid (AA k f t e l d x ss=⟨(AB k f t e l d x ss).toArray⟩):=rfl;have ak:∃ i,i=AA k f t e l d x ss:=⟨_,rfl⟩
   rw [← J.out];obtain ⟨i,z⟩:=ak;rw [← z] at aw ⊢;have ay:i.size≤maxLen:=G;have ab:=hid z;clear z c0 c1 c2 c3 c4 c5 c6 c7 J;have S:Gf key [i]=Nl (fnv start (key ++ ⟨#[0]⟩ ++ i).data.toList):=by
    unfold Gf Aq;simp
   have T:(key ++ ⟨#[0]⟩ ++ i).size≤maxLen:=by
    rw [Jq,Jq];have:(⟨#[0]⟩:ByteArray).size=1:=rfl;unfold maxLen;omega
   have HC:=hid S;have ae:=hid T;clear S T;go_wp2_with fail
   refine (KW _ ae.out).mono ?_;rintro q w3 ⟨rfl,ai⟩;have ag:=N.trans (ai.mono N.size);rw [← HC.out];have ax:=FW key [i];obtain ⟨v, g⟩ := kC (Gf key [i]);rw [← g] at ax ⊢;have af:=hid g;clear g;go_wp2;go_ret;exact ⟨⟨_,rfl,.inl ⟨u.out,X,by rw [← ab.out,← af.out]⟩⟩,ag⟩
  ·go_wp2
   go_ret;exact ⟨⟨_,rfl,.inr ⟨fun H=>X H.2,rfl⟩⟩,j⟩
end Go.Proofs.YtfkkipgcfoegmaaGreat
