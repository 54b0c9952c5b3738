
import Derived.Test.YtfkkipgcfoegmaaGreatQSChk
set_option maxHeartbeats 1000000
set_option maxRecDepth 100000
namespace Go.Proofs.YtfkkipgcfoegmaaGreat
open Go.Proofs.Tryz
open Go.Value renaming slice→K,bool→aF
open Option renaming none→C,some→U
open Bool renaming false→aK,true→aN
open Go.Value renaming int→I
open Go.IntKind renaming i64→Y
open Go.RowKit
abbrev Tr:=Int × Int × Int
variable {a:Option Addr} {b n:Nat} {w w':World}
def t3 (J:List Tr) (j:Nat):Tr:=J.getD j (0,0,0)
def t2 (S:List (Bool × Int)) (j:Nat):Bool × Int:=S.getD j (aK,0)
structure qZ (w:World) (a:Option Addr) (b o n:Nat) (J:List Tr):Prop where
 ad:0<n→a=U ⟨b,o,C⟩
 len:J.length=n
 max:n≤maxLen
 lt:0<n→b<w.heap.size
 c0:∀ j,j<n→w.cell? ⟨b,o+j*3,C⟩=U (I Y (t3 J j).1)
 c1:∀ j,j<n→w.cell? ⟨b,o+j*3+1,C⟩=U (I Y (t3 J j).2.1)
 c2:∀ j,j<n→w.cell? ⟨b,o+j*3+2,C⟩=U (I Y (t3 J j).2.2)
 rng:∀ j,j<n→I64 (t3 J j).1∧I64 (t3 J j).2.1∧I64 (t3 J j).2.2
theorem qZ.below' {o:Nat} {J:List Tr} (h:qZ w a b o n J) (d:Below w.heap.size w w'):qZ w' a b o n J :=
 ⟨h.ad,h.len,h.max,fun e=>lu (h.lt e) d.size,fun j c=>(d.cell jR).trans (h.c0 j c),fun j c=>(d.cell jR).trans (h.c1 j c),fun j c=>(d.cell jR).trans (h.c2 j c),h.rng⟩
structure Ag (w:World) (a:Option Addr) (b o n:Nat) (S:List (Bool × Int)):Prop where
 ad:0<n→a=U ⟨b,o,C⟩
 len:S.length=n
 max:n≤maxLen
 lt:0<n→b<w.heap.size
 c0:∀ j,j<n→w.cell? ⟨b,o+j*2,C⟩=U (aF (t2 S j).1)
 c1:∀ j,j<n→w.cell? ⟨b,o+j*2+1,C⟩=U (I Y (t2 S j).2)
 rng:∀ j,j<n→I64 (t2 S j).2
theorem Ag.below' {o:Nat} {S:List (Bool × Int)} (h:Ag w a b o n S) (c:Below w.heap.size w w'):Ag w' a b o n S :=
 ⟨h.ad,h.len,h.max,fun e=>lu (h.lt e) c.size,fun j d=>(c.cell jR).trans (h.c0 j d),fun j d=>(c.cell jR).trans (h.c1 j d),h.rng⟩
def I8 (S:List (Bool × Int)) (k:Nat):Prop:=∀ i,i<k→0≤(t2 S i).2∧(t2 S i).2≤300
def P7 (wk:Int) (R:List ByteArray) (x:Tr):Prop:=1≤x.1∧x.1≤wk∧1≤x.2.1∧x.2.1≤300000000∧0≤x.2.2∧x.2.2<R.length∧¬ (rs R x.2.2.toNat).size=0
def Jc (wk:Int) (R:List ByteArray) (a:List Tr) (k:Nat):Prop:=∀ i,i<k→P7 wk R (t3 a i)
def OU (wk now ep gv:Int) (x:Tr):Prop:=(ep - 1)*1000000+1≤x.1∧x.1≤(ep - 1)*1000000+gv∧1≤x.2.1∧x.2.1≤wk∧now+1≤x.2.2∧x.2.2≤now+12
theorem Ri (wk:Int) (up:Bool) (now sn ep gv:Int) (a1 a2 ar aj az ao:Option Addr) (n1 c1 n2 c2 u cr s cj a cs no co:Nat) (T aa:Nat) (S:List (Bool × Int)) (h:Ag w az T aa a S) :
  Calls prog 28 #[.agg #[I Y wk,aF up,I Y now,I Y sn,I Y ep,I Y gv,K a1 n1 c1,K a2 n2 c2,K ar u cr,K aj s cj,K az a cs,K ao no co]] w fun e w'=>kG e ((a:Int)=wk∧I8 S a)∧Below w.heap.size w w':=by
 have V:=h.max;unfold maxLen at V;obtain ⟨W, c⟩ := kC (w.alloc (.cells #[I Y wk,aF up,I Y now,I Y sn,I Y ep,I Y gv,K a1 n1 c1,K a2 n2 c2,K ar u cr,K aj s cj,K az a cs,K ao no co] 30));have L:Below w.heap.size w W:=by rw [c];exact kQ
 have af:W.heap.size=w.heap.size+1:=by rw [c];simp
 have o:MC W w.heap.size [I Y wk,aF up,I Y now,I Y sn,I Y ep,I Y gv,K a1 n1 c1,K a2 n2 c2,K ar u cr,K aj s cj,K az a cs,K ao no co]:=by rw [c];exact MC.made w _ _
 by_cases d:(a:Int)=wk
 ·have X:((a:Int) == wk)=aN:=by simpa using d
  have ae:((a:Int) != wk)=aK:=by simpa using d
  have R:=hid d;clear d;obtain ⟨q0,-,-,-,-,-,-,-,-,-,ag⟩:=aeb o;clear o;go_enter func28,ntmps28
  go_upto_region 1 with fail
  rw [← c];clear c;go_wp2;go_loopw [14] (fun i wr=>∃ k:Nat,k≤a∧i=I Y k∧I8 S k∧Below w.heap.size w wr) (fun i _=>a - (intOf i).toNat)
  case atStart=>exact ⟨0,lG _,rfl,fun j P=>absurd P A,L⟩
  case round =>
   obtain ⟨k,hk,rfl,Q,g⟩:=hrel;by_cases q:k<a
   ·obtain rfl:=h.ad A
    have M:=(h.below' g).c0 k q;have N:=(h.below' g).c1 k q;obtain ⟨⟨fr,z⟩,r⟩:∃ x,x=t2 S k:=⟨_,rfl⟩
    rw [← r] at M N;dsimp only at M N;have v:=hid r;clear r;have ab:(k:Int)<(a:Int):=A;have J:Below w.heap.size w (wr.alloc (.cells #[aF fr,I Y z] 54)):=g.alloc g.size _;go_wp2_with fail
    refine (lY).mono ?_;rintro e w1 ⟨rfl,rfl⟩;cases H:inB z 0 300 with
    | false =>
     have l:=hid (mO H);go_wp2;go_ret;refine ⟨kG.f fun p=>l.out ?_,J⟩;have:=p.2 k q;rw [← v.out] at this;exact this
    | true =>
     have l:=hid (mM H);go_wp2;go_roundw
     case rel =>
      refine ⟨k+1,A,aW,fun j P=>?_,J⟩;by_cases e:j=k
      ·subst e;rw [← v.out];exact l.out
      ·exact Q j A
     case measure=>simp [intOf];omega
   ·obtain rfl:k=a:=by omega
    go_wp2;go_ret;exact ⟨kG.t ⟨R.out,Q⟩,g⟩
 ·have X:((a:Int) == wk)=aK:=by simpa using d
  clear o;go_enter func28,ntmps28
  go_wp2;go_ret;exact ⟨kG.f fun p=>d p.1,by rw [← c];exact L⟩
theorem Rj (wk:Int) (up:Bool) (now sn ep gv:Int) (a1 a2 ar aj az ao:Option Addr) (n1 c1 n2 c2 d cr nj cj ns cs no co:Nat) (bo oo br or':Nat) (r:List Tr) (R:List ByteArray) (v:qZ w ao bo oo no r) (N:kS w ar br or' d R) :
  Calls prog 29 #[.agg #[I Y wk,aF up,I Y now,I Y sn,I Y ep,I Y gv,K a1 n1 c1,K a2 n2 c2,K ar d cr,K aj nj cj,K az ns cs,K ao no co]] w fun e w'=>kG e (no≤2000∧Jc wk R r no)∧Below w.heap.size w w':=by
 have an:=v.max;have aq:=N.max;unfold maxLen at an aq;obtain ⟨W, l⟩ := kC (w.alloc (.cells #[I Y wk,aF up,I Y now,I Y sn,I Y ep,I Y gv,K a1 n1 c1,K a2 n2 c2,K ar d cr,K aj nj cj,K az ns cs,K ao no co] 30));have aa:Below w.heap.size w W:=by rw [l];exact kQ
 have a6:W.heap.size=w.heap.size+1:=by rw [l];simp
 have M:MC W w.heap.size [I Y wk,aF up,I Y now,I Y sn,I Y ep,I Y gv,K a1 n1 c1,K a2 n2 c2,K ar d cr,K aj nj cj,K az ns cs,K ao no co]:=by rw [l];exact MC.made w _ _
 by_cases hn:2000<no
 ·clear M
  go_enter func29,ntmps29
  go_wp2;go_ret;exact ⟨kG.f fun a=>by have:=a.1;omega,by rw [← l];exact aa⟩
 ·have ax:W.cell? ⟨w.heap.size,11,C⟩=U (K ao no co):=M 11 D
  have HM:=hid M;have ab:=hid N.len;clear M;go_enter func29,ntmps29
  go_upto_region 1 with fail
  rw [← l];clear l;go_wp2;clear ax;go_loopw [12] (fun i wr=>∃ k:Nat,k≤no∧i=I Y k∧Jc wk R r k∧Below W.heap.size W wr) (fun i _=>no - (intOf i).toNat)
  case atStart=>exact ⟨0,lG _,rfl,fun j hj=>absurd hj A,mD⟩
  case round =>
   obtain ⟨k,hk,rfl,ai,hb⟩:=hrel;have L:=aa.trans (hb.mono A);by_cases S:k<no
   ·obtain rfl:=v.ad A
    have ae:=(v.below' L).c0 k S;have af:=(v.below' L).c1 k S;have ag:=(v.below' L).c2 k S;obtain ⟨⟨T,X,p⟩,hx⟩:∃ x,x=t3 r k:=⟨_,rfl⟩
    rw [← hx] at ae af ag;dsimp only at ae af ag;have HX:=hid hx;clear hx;have ay:(k:Int)<(no:Int):=A;have au:=hb.size;obtain ⟨V, P⟩ := kC (wr.alloc (.cells #[I Y T,I Y X,I Y p] 56));have ak:Below wr.heap.size wr V:=by rw [P];exact kQ
    have ah:MC V wr.heap.size [I Y T,I Y X,I Y p]:=by rw [P];exact MC.made wr _ _
    have Q:=hb.trans (ak.mono au);have u:=aa.trans (Q.mono A);obtain ⟨y0,y1,y2⟩:=YQ ah;have z0:V.cell? ⟨w.heap.size,0,C⟩=U (I Y wk):=kV Q (HM.out 0 D);have z8:V.cell? ⟨w.heap.size,8,C⟩=U (K ar d cr):=kV Q (HM.out 8 D);clear ah;have J:Hid (¬ P7 wk R (T,X,p)→¬ (no≤2000∧Jc wk R r no)):=fun a hq=>a (by have:=hq.2 k S;rw [← HX.out] at this;exact this);go_upto_region 6 with fail
    rw [← P];clear P;cases hA:inB T 1 wk with
    | false =>
     have z:=hid (mO hA);go_wp2_with (first | (go_at_call 24;refine (lY).mono ?_;rintro e g ⟨rfl,rfl⟩))
     go_ret;exact ⟨kG.f (J.out fun a=>z.out ⟨a.1,a.2.1⟩),u⟩
    | true =>
     have z:=hid (mM hA);cases h:inB X 1 300000000 with
     | false =>
      have H:=hid (mO h);go_wp2_with (first | (go_at_call 24;refine (lY).mono ?_;rintro e g ⟨rfl,rfl⟩) | (go_at_call 47;refine (ED h).mono ?_;rintro e g ⟨rfl,rfl⟩))
      go_ret;exact ⟨kG.f (J.out fun a=>H.out ⟨a.2.2.1,a.2.2.2.1⟩),u⟩
     | true =>
      have H:=hid (mM h);cases hT:inB p 0 ((d:Int) - 1) with
      | false =>
       have q:=hid (mO hT);go_wp2_with (first | (go_at_call 24;refine (lY).mono ?_;rintro e g ⟨rfl,rfl⟩) | (go_at_call 47;refine (ED h).mono ?_;rintro e g ⟨rfl,rfl⟩))
       go_ret;exact ⟨kG.f (J.out fun a=>q.out (by have h1:=a.2.2.2.2;rw [ab.out] at h1;exact ⟨h1.1,by have:=h1.2.1;dsimp only at this;omega⟩)),u⟩
      | true =>
       have q:=hid (mM hT);obtain ⟨c,rfl⟩:∃ c:Nat,p=c:=⟨p.toNat,by have:=q.out;omega⟩
       have av:c<d:=by have:=q.out;omega
       obtain rfl:=N.ad A;have al:=(N.below' u).cell c av;obtain ⟨s, hs⟩ := kC (R.getD c ByteArray.empty);rw [← hs] at al;have HS:Hid (rs R c=s):=by rw [hs];rfl
       clear hs;have a7:(c:Int)<(d:Int):=A;by_cases o:s.size=0
       ·have aw:=oP o
        have HZ:=hid o;clear o;go_wp2_with (first | (go_at_call 24;refine (lY).mono ?_;rintro e g ⟨rfl,rfl⟩) | (go_at_call 47;refine (ED h).mono ?_;rintro e g ⟨rfl,rfl⟩))
        go_ret;exact ⟨kG.f (J.out fun a=>a.2.2.2.2.2.2 (by show (rs R c).size=0;rw [HS.out];exact HZ.out)),u⟩
       ·have aw:=oQ o
        have HZ:=hid o;clear o;go_wp2_with (first | (go_at_call 24;refine (lY).mono ?_;rintro e g ⟨rfl,rfl⟩) | (go_at_call 47;refine (ED h).mono ?_;rintro e g ⟨rfl,rfl⟩))
        go_roundw
        case rel =>
         refine ⟨k+1,A,aW,fun j hj=>?_,Q⟩;by_cases e:j=k
         ·subst e;rw [← HX.out]
          exact ⟨z.out.1,z.out.2,H.out.1,H.out.2,q.out.1,by show (c:Int)<_;rw [ab.out];omega,by show ¬ (rs R c).size=0;rw [HS.out];exact HZ.out⟩
         ·exact ai j A
        case measure=>simp [intOf];omega
   ·obtain rfl:k=no:=by omega
    go_wp2;go_ret;exact ⟨kG.t ⟨A,ai⟩,L⟩
def qE (sn ep gv:Int) (n2 c a d no:Nat):Prop:=n2=0∧sn=0∧ep=0∧gv=0∧c=0∧a=0∧d=0∧no=0
theorem Rn (wk:Int) (up:Bool) (now sn ep gv:Int) (a1 a2 ar aj az ao:Option Addr) (n1 c1 n2 c2 g cr d cj h cs no co:Nat) :
  Calls prog 25 #[.agg #[I Y wk,aF up,I Y now,I Y sn,I Y ep,I Y gv,K a1 n1 c1,K a2 n2 c2,K ar g cr,K aj d cj,K az h cs,K ao no co]] w fun e w'=>kG e (qE sn ep gv n2 g d h no)∧Below w.heap.size w w':=by
 have c:Below w.heap.size w (w.alloc (.cells #[I Y wk,aF up,I Y now,I Y sn,I Y ep,I Y gv,K a1 n1 c1,K a2 n2 c2,K ar g cr,K aj d cj,K az h cs,K ao no co] 30)):=kQ;by_cases g0:n2=0
 ·have s:((n2:Int) == 0)=aN:=by simp;omega
  have i:=hid g0;clear g0;by_cases g1:sn=0
  ·have u:(sn == 0)=aN:=by simp;omega
   have j:=hid g1;clear g1;by_cases g2:ep=0
   ·have v:(ep == 0)=aN:=by simp;omega
    have k:=hid g2;clear g2;by_cases g3:gv=0
    ·have z:(gv == 0)=aN:=by simp;omega
     have l:=hid g3;clear g3;by_cases g4:g=0
     ·have H:((g:Int) == 0)=aN:=by simp;omega
      have o:=hid g4;clear g4;by_cases g5:d=0
      ·have J:((d:Int) == 0)=aN:=by simp;omega
       have p:=hid g5;clear g5;by_cases g6:h=0
       ·have L:((h:Int) == 0)=aN:=by simp;omega
        have q:=hid g6;clear g6;by_cases g7:no=0
        ·have M:((no:Int) == 0)=aN:=by simp;omega
         have r:=hid g7;clear g7;go_enter func25,ntmps25
         go_wp2;go_ret;exact ⟨kG.t ⟨i.out,j.out,k.out,l.out,o.out,p.out,q.out,r.out⟩,c⟩
        ·have M:((no:Int) == 0)=aK:=by simp;omega
         have r:=hid g7;clear g7;go_enter func25,ntmps25
         go_wp2;go_ret;exact ⟨kG.f fun a=>r.out dL,c⟩
       ·have L:((h:Int) == 0)=aK:=by simp;omega
        have q:=hid g6;clear g6;go_enter func25,ntmps25
        go_wp2;go_ret;exact ⟨kG.f fun a=>q.out dL,c⟩
      ·have J:((d:Int) == 0)=aK:=by simp;omega
       have p:=hid g5;clear g5;go_enter func25,ntmps25
       go_wp2;go_ret;exact ⟨kG.f fun a=>p.out dL,c⟩
     ·have H:((g:Int) == 0)=aK:=by simp;omega
      have o:=hid g4;clear g4;go_enter func25,ntmps25
      go_wp2;go_ret;exact ⟨kG.f fun a=>o.out dL,c⟩
    ·have z:(gv == 0)=aK:=by simp;omega
     have l:=hid g3;clear g3;go_enter func25,ntmps25
     go_wp2;go_ret;exact ⟨kG.f fun a=>l.out dL,c⟩
   ·have v:(ep == 0)=aK:=by simp;omega
    have k:=hid g2;clear g2;go_enter func25,ntmps25
    go_wp2;go_ret;exact ⟨kG.f fun a=>k.out dL,c⟩
  ·have u:(sn == 0)=aK:=by simp;omega
   have j:=hid g1;clear g1;go_enter func25,ntmps25
   go_wp2;go_ret;exact ⟨kG.f fun a=>j.out dL,c⟩
 ·have s:((n2:Int) == 0)=aK:=by simp;omega
  have i:=hid g0;clear g0;go_enter func25,ntmps25
  go_wp2;go_ret;exact ⟨kG.f fun a=>i.out dL,c⟩

end Go.Proofs.YtfkkipgcfoegmaaGreat
