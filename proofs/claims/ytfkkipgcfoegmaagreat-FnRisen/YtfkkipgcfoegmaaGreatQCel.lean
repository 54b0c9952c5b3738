
import Derived.Test.YtfkkipgcfoegmaaGreatQLawVal
import Derived.Deep.MidRow
set_option maxHeartbeats 400000
namespace Go.Proofs.YtfkkipgcfoegmaaGreat
open Go.Proofs.Tryz
open Option renaming none→C,some→U
open Go.Value renaming bool→aF
open Go.Ending renaming returned→aO
open Go.Value renaming int→I
open Go.IntKind renaming i64→Y
open Go.RowKit
variable {B n size:Nat} {e f hi l lo t:Int} {r vs xs:List Value} {v v0 v1 v10 v11 v12 v2 v3 v4 v5 v6 v7 v8 v9:Value} {w w':World} {x:ByteArray}
def Ji (a:List ByteArray) (k:Nat):Prop:=∀ j,j<k→(a.getD j ByteArray.empty).size=8
def Ae (a:List ByteArray):Prop:=a.length≤8∧Ji a a.length
theorem Fj (a:Option Addr) (b o n c:Nat) (g:List ByteArray) (h:kS w a b o n g) :
  Calls prog 109 #[.slice a n c] w fun e w'=>kG e (Ae g)∧w'=w:=by
 have M:=h.max;unfold maxLen at M;go_enter func109,ntmps109
 go_wp2;go_loop [3] (fun i=>∃ k:Nat,k≤n∧i=I Y k∧Ji g k) (fun i=>n - (intOf i).toNat)
 case atStart=>exact ⟨0,lG _,rfl,fun j u=>absurd u A⟩
 case round =>
  obtain ⟨k,N,rfl,v⟩:=hrel;by_cases q:k<n
  ·obtain rfl:=h.ad A
   have L:=h.cell k q;have z:=h.szD q;obtain ⟨s, r⟩ := kC (g.getD k ByteArray.empty);rw [← r] at L z;unfold maxLen at z;have t:Hid (s=g.getD k ByteArray.empty):=r;clear r;have P:(k:Int)<(n:Int):=A;by_cases p:s.size=8
   ·have H:Hid (s.size=8):=p
    have J:((s.size:Int) == 8)=true:=aQ;clear p;go_wp2;go_round
    case rel =>
     refine ⟨k+1,A,aW,fun j u=>?_⟩;by_cases e:j=k
     ·subst e;rw [← t.out];exact H.out
     ·exact v j A
    case measure=>simp [intOf];omega
   ·have J:((s.size:Int) == 8)=false:=by simp;omega
    go_wp2;go_ret;refine ⟨kG.f fun l=>p ?_,rfl⟩;rw [t.out];exact l.2 k (by rw [h.len];exact q)
  ·obtain rfl:k=n:=by omega
   go_wp2;go_ret;refine ⟨kG.d ?_,rfl⟩;unfold Ae;rw [h.len];exact ⟨fun l=>⟨A,v⟩,fun l=>by have:=l.1;omega⟩
def vM (k f t e l d:Int) (z:Nat) (a:List ByteArray):Prop :=
 (k=1∧f=0∧1≤t∧t≤8∧1≤e∧e≤300∧1≤l∧l≤300000000∧0≤d∧d≤39∧z=0∧Ae a) ∨
 (k=2∧t=0∧1≤f∧f≤8∧1≤e∧e≤300∧1≤l∧l≤300000000∧d=0∧z=0∧a.length=0) ∨
 (k=3∧t=0∧1≤f∧f≤8∧1≤e∧e≤300∧1≤l∧l≤300000000∧0≤d∧d≤39∧z=8∧a.length=0) ∨
 (k=4∧f=0∧1≤t∧t≤8∧1≤e∧e≤300∧1≤l∧l≤300000000∧d=0∧z=0∧a.length=0) ∨
 (k=5∧t=0∧1≤f∧f≤8∧1≤e∧e≤300∧l=0∧d=0∧z=0∧a.length=0)
theorem OA {d:Int} {z:Nat} {a:List ByteArray}:vM 1 f t e l d z a ↔ (f=0∧1≤t∧t≤8∧1≤e∧e≤300∧1≤l∧l≤300000000∧0≤d∧d≤39∧z=0∧Ae a):=by
 unfold vM;constructor
 ·rintro (h | h | h | h | h) <;> first | exact h.2 | (obtain ⟨h,_⟩:=h;omega)
 ·intro h;exact .inl ⟨rfl,h⟩
theorem Qp (f t e l d:Int) (z:Nat) (a:List ByteArray):vM 2 f t e l d z a ↔ (t=0∧1≤f∧f≤8∧1≤e∧e≤300∧1≤l∧l≤300000000∧d=0∧z=0∧a.length=0):=by
 unfold vM;constructor
 ·rintro (h | h | h | h | h) <;> first | exact h.2 | (obtain ⟨h,_⟩:=h;omega)
 ·intro h;exact .inr (.inl ⟨rfl,h⟩)
theorem Qo (f t e l d:Int) (z:Nat) (a:List ByteArray):vM 3 f t e l d z a ↔ (t=0∧1≤f∧f≤8∧1≤e∧e≤300∧1≤l∧l≤300000000∧0≤d∧d≤39∧z=8∧a.length=0):=by
 unfold vM;constructor
 ·rintro (h | h | h | h | h) <;> first | exact h.2 | (obtain ⟨h,_⟩:=h;omega)
 ·intro h;exact .inr (.inr (.inl ⟨rfl,h⟩))
theorem Qn (f t e l d:Int) (z:Nat) (a:List ByteArray):vM 4 f t e l d z a ↔ (f=0∧1≤t∧t≤8∧1≤e∧e≤300∧1≤l∧l≤300000000∧d=0∧z=0∧a.length=0):=by
 unfold vM;constructor
 ·rintro (h | h | h | h | h) <;> first | exact h.2 | (obtain ⟨h,_⟩:=h;omega)
 ·intro h;exact .inr (.inr (.inr (.inl ⟨rfl,h⟩)))
theorem Ql (f t e l d:Int) (z:Nat) (a:List ByteArray):vM 5 f t e l d z a ↔ (t=0∧1≤f∧f≤8∧1≤e∧e≤300∧l=0∧d=0∧z=0∧a.length=0):=by
 unfold vM;constructor
 ·rintro (h | h | h | h | h) <;> first | exact h.2 | (obtain ⟨h,_⟩:=h;omega)
 ·intro h;exact .inr (.inr (.inr (.inr ⟨rfl,h⟩)))
def inB (n lo hi:Int):Bool:=decide (lo≤n) && decide (n≤hi)
theorem mM {n:Int} (h:inB n lo hi=true):lo≤n∧n≤hi:=by simpa [inB] using h
theorem mO {n:Int} (h:inB n lo hi=false):¬ (lo≤n∧n≤hi):=by
 intro a;rw [show inB n lo hi=true by simp [inB,a.1,a.2]] at h;cases h
theorem kP (n lo hi:Int):Calls prog 19 #[I Y n,I Y lo,I Y hi] w fun e w'=>e=aO (aF (inB n lo hi))∧w'=w:=by
 by_cases a:lo≤n
 ·by_cases c:n≤hi
  ·go_enter func19,ntmps19
   go_wp2;go_ret;exact ⟨by simp [inB,a,c],rfl⟩
  ·go_enter func19,ntmps19
   go_wp2;go_ret;exact ⟨by simp [inB,a,c],rfl⟩
 ·go_enter func19,ntmps19
  go_wp2;go_ret;exact ⟨by simp [inB];omega,rfl⟩
theorem lY {n:Int}:Calls prog 24 #[I Y n,I Y lo,I Y hi] w fun e w'=>e=aO (aF (inB n lo hi))∧w'=w:=by
 by_cases a:lo≤n
 ·by_cases c:n≤hi
  ·go_enter func24,ntmps24
   go_wp2;go_ret;exact ⟨by simp [inB,a,c],rfl⟩
  ·go_enter func24,ntmps24
   go_wp2;go_ret;exact ⟨by simp [inB,a,c],rfl⟩
 ·go_enter func24,ntmps24
  go_wp2;go_ret;exact ⟨by simp [inB];omega,rfl⟩
theorem kN {n:Int}:Calls prog 21 #[I Y n] w fun e w'=>e=aO (aF (inB n 1 300000000))∧w'=w:=by
 go_enter func21,ntmps21
 go_wp2_with fail
 refine (kP _ _ _).mono ?_;rintro e w' ⟨rfl,rfl⟩;go_wp2;go_ret;exact ⟨rfl,rfl⟩
theorem CX:Calls prog 111 #[I Y 1] w fun e w'=>e=aO (.tuple acu)∧w'=w:=by
 go_enter func111,ntmps111
 go_wp2;exact bodyPost_ret (v:=.tuple acu) dW rfl ⟨rfl,rfl⟩
theorem CW:Calls prog 111 #[I Y 2] w fun e w'=>e=aO (.tuple acs)∧w'=w:=by
 go_enter func111,ntmps111
 go_wp2;exact bodyPost_ret (v:=.tuple acs) dW rfl ⟨rfl,rfl⟩
theorem CV:Calls prog 111 #[I Y 3] w fun e w'=>e=aO (.tuple acr)∧w'=w:=by
 go_enter func111,ntmps111
 go_wp2;exact bodyPost_ret (v:=.tuple acr) dW rfl ⟨rfl,rfl⟩
theorem CU:Calls prog 111 #[I Y 4] w fun e w'=>e=aO (.tuple acp)∧w'=w:=by
 go_enter func111,ntmps111
 go_wp2;exact bodyPost_ret (v:=.tuple acp) dW rfl ⟨rfl,rfl⟩
theorem CS:Calls prog 111 #[I Y 5] w fun e w'=>e=aO (.tuple aco)∧w'=w:=by
 go_enter func111,ntmps111
 go_wp2;exact bodyPost_ret (v:=.tuple aco) dW rfl ⟨rfl,rfl⟩
theorem oP (h:x.size=0):x.toList.isEmpty=true:=by
 rw [Di,List.isEmpty_iff];exact oH (by rw [nZ];exact h)
theorem oQ (h:¬ x.size=0):x.toList.isEmpty=false:=by
 rw [Di];cases c:x.data.toList with
 | nil=>exact absurd (by have:=congrArg List.length c;rw [nZ] at this;exact this) h
 | cons a r=>rfl
theorem ED {n:Int} {r:Bool} (a:inB n 1 300000000=r):Calls prog 47 #[I Y n,aF true] w fun e w'=>e=aO (aF r)∧w'=w:=by
 go_enter func47,ntmps47
 go_wp2_with fail
 refine (lY).mono ?_;rintro e w' ⟨rfl,rfl⟩;go_wp2;go_ret;exact ⟨by rw [← a];rfl,rfl⟩
theorem FN {n:Int} {r:Bool} (a:inB n 0 39=r):Calls prog 71 #[I Y n,aF true] w fun e w'=>e=aO (aF r)∧w'=w:=by
 go_enter func71,ntmps71
 go_wp2_with fail
 refine (lY).mono ?_;rintro e w' ⟨rfl,rfl⟩;go_wp2;go_ret;exact ⟨by rw [← a];rfl,rfl⟩
theorem FP {n:Int} {r:Bool} (a:(n == 0)=r):Calls prog 71 #[I Y n,aF false] w fun e w'=>e=aO (aF r)∧w'=w:=by
 subst a;go_enter func71,ntmps71
 go_wp2;go_ret;exact ⟨rfl,rfl⟩
theorem FK {r:Bool} (a:((x.size:Int) == 8)=r):Calls prog 72 #[.string x,aF true] w fun e w'=>e=aO (aF r)∧w'=w:=by
 subst a;go_enter func72,ntmps72
 go_wp2;go_ret;exact ⟨rfl,rfl⟩
theorem FM {r:Bool} (a:x.toList.isEmpty=r):Calls prog 72 #[.string x,aF false] w fun e w'=>e=aO (aF r)∧w'=w:=by
 subst a;go_enter func72,ntmps72
 go_wp2;go_ret;exact ⟨rfl,rfl⟩
def MC (w:World) (p:Nat) (vs:List Value):Prop:=∀ j,j<vs.length→w.cell? ⟨p,j,C⟩=vs[j]?
theorem MC.below {p:Nat} (h:MC w p vs) (a:Below B w w') (d:p<B):MC w' p vs:=fun j c=>(a.cell (p:=⟨p,j,C⟩) d).trans (h j c)
theorem MC.made (w:World) (cs:Array Value) (T:TypeId):MC (w.alloc (.cells cs T)) w.heap.size cs.toList:=fun j _=>by
 have:=Om w cs T (0,0) j;rw [this];simp
theorem MC.block {p:Nat} (h:MC w p vs) (c:w'.heap[p]?=w.heap[p]?):MC w' p vs:=fun j d=>(mV (w:=w) (a:=⟨p,j,C⟩) c).trans (h j d)
theorem lU {b:Nat} (h:w.grownBy w' (U b)) (j:Nat) (v:Value):w.grownBy (w'.setCell ⟨b,j,C⟩ v) (U b) :=
 ⟨h.os,h.tape,h.output,by simpa [World.setCell] using h.size,fun k c a=>(nK _ _ _ _ (fun e=>a (by simp [e]))).trans (h.block k c a)⟩
theorem FZ {row:Option Nat} (h:w.grownBy w' row) {ob:Obj}:w.grownBy (w'.alloc ob) row :=
 ⟨h.os,h.tape,h.output,by have:=h.size;simp;omega,fun k a c=>(kU w' ob k (lu a h.size)).trans (h.block k a c)⟩
def CF (w:World) (p:Nat) (vs:List Value):Prop:=∀ j,j<vs.length→w.cell? ⟨p,j,C⟩=vs[j]?∧w.frozen? ⟨p,j,C⟩=false
theorem CF.block {p:Nat} (h:CF w p vs) (c:w'.heap[p]?=w.heap[p]?):CF w' p vs:=fun j d =>
 ⟨(mV (w:=w) (a:=⟨p,j,C⟩) c).trans (h j d).1,(Jw (w:=w) (a:=⟨p,j,C⟩) c).trans (h j d).2⟩
theorem CF.set {p:Nat} (h:CF w p vs) {j:Nat} (d:j<vs.length) (u:Value):CF (w.setCell ⟨p,j,C⟩ u) p (vs.set j u):=fun i hi=>by
 rw [nV] at hi;refine ⟨?_,by rw [Jt];exact (h i hi).2⟩;by_cases e:i=j
 ·subst e
  have:=(h i hi).1;rw [nH hi] at this;rw [Ju _ _ _ this,Sj hi]
 ·rw [DN _ _ _ _ (by intro a;injection a with _ c _;omega),rQ A]
  exact (h i hi).1
theorem CF.made (w:World) (cs:Array Value) (T:TypeId):CF (w.alloc (.cells cs T)) w.heap.size cs.toList:=fun j _=>by
 have a:=Om w cs T (0,0) j;have c:=World.frozen?_alloc_mark w cs T 0 0 j;refine ⟨by rw [a];simp,by rw [c];simp⟩
theorem mY (p:Nat):∀ (vs:List Value) (o:Nat) (a w:World),a.grownBy w (U p)→a.grownBy (w.setCells p o vs) (U p)
 | [],_,_,_,h=>h
 | v :: r,o,a,_,h=>mY p r (o+1) a _ (lU h o v)
theorem gsc {p o:Nat}:w.grownBy (w.setCells p o vs) (U p) := mY _ _ _ _ _ (lJ _ _)
theorem CF.stored {p:Nat} {old:List Value} (h:CF w p old) (e:old.length=vs.length):CF (w.setCells p 0 vs) p vs:=fun j c=>by
 have a:=RZ p vs 0 w (fun i hi=>by
  obtain ⟨d,_⟩:=h i A;rw [ny,d,nH A];rfl) j c
 rw [ny] at a;refine ⟨by rw [a,nH c],?_⟩;rw [RY];exact (h j A).2
theorem jY {P:Program} {ops:Array Oper} {rest:List Oper} {op:Oper} {a:Act} {Q:Exit→Act→World→Prop} (k:op.guard=C) (ty:TypeId) (x y:Operand) (l:op.op=.store ty x y)
  (p:Nat) (old vs:List Value) (o:a.eval x=.pointer (U ⟨p,0,C⟩)) (q:a.eval y=.agg vs.toArray) (e:CF w p old) (g:old.length=vs.length) (hi:(P.info? ty).map (·.size)=U vs.length) (d:∀ v∈vs,v.oneCell'=true)
  (j:∀ c,CF c p vs→w.grownBy c (U p)→wpList P ops Q rest (a.put op.dst undef) c):wpList P ops Q (op :: rest) a w:=by
 refine wpList_store_mid k ty x y l p 0 vs.toArray o q (fun i hi=>?_) (by simpa using hi) (all_oneCell_toArray d) ?_
 ·have f:i<old.length:=by simpa [g] using hi
  obtain ⟨d,h⟩:=e i f;exact ⟨by rw [ny,d,nH f];rfl,by rw [ny];exact h⟩
 ·exact j _ (e.stored g) (mY p vs 0 w w (lJ _ _))
theorem NI {k d:Int} {a:Option Addr} {c:Nat}:∀ v∈[I Y k,I Y f,I Y t,I Y e,I Y l,I Y d,.string x,.slice a n c],v.oneCell'=true:=by
 intro v g;simp only [mG,mF,or_false] at g;rcases g with rfl | rfl | rfl | rfl | rfl | rfl | rfl | rfl <;> rfl
theorem Own.mono' {B':Nat} (h:Own B w size v n xs) (a:B'≤B):Own B' w size v n xs:=by
 rcases h with h | ⟨g,o,cap,d,c⟩
 ·exact .inl h
 ·exact .inr ⟨g,o,cap,d,c.mono a⟩
def zM:List Value:=[I Y 0,I Y 0,I Y 0,I Y 0,I Y 0,I Y 0,.string ⟨#[]⟩,.slice C 0 0]
theorem Own.slc (h:Own B w size v n xs):∃ a c,v=.slice a n c:=by
 rcases h with ⟨rfl,rfl,rfl⟩ | ⟨g,o,cap,rfl,d⟩
 ·exact ⟨C,0,rfl⟩
 ·exact ⟨_,_,rfl⟩
theorem Ph {p:Nat} (h:CF w p (v0 :: v1 :: r)):w.cell? ⟨p,0,C⟩=U v0∧w.cell? ⟨p,1,C⟩=U v1:=⟨(h 0 D).1,(h 1 D).1⟩
theorem cf3 {p:Nat} (h:CF w p (v0 :: v1 :: v2 :: r)):w.cell? ⟨p,0,C⟩=U v0∧w.cell? ⟨p,1,C⟩=U v1∧w.cell? ⟨p,2,C⟩=U v2:=⟨(h 0 D).1,(h 1 D).1,(h 2 D).1⟩
theorem C9 {p:Nat} (h:CF w p (v0 :: v1 :: v2 :: v3 :: r)):w.cell? ⟨p,0,C⟩=U v0∧w.cell? ⟨p,1,C⟩=U v1∧w.cell? ⟨p,2,C⟩=U v2∧w.cell? ⟨p,3,C⟩=U v3:=⟨(h 0 D).1,(h 1 D).1,(h 2 D).1,(h 3 D).1⟩
theorem cf5 {p:Nat} (h:CF w p (v0 :: v1 :: v2 :: v3 :: v4 :: r)):w.cell? ⟨p,0,C⟩=U v0∧w.cell? ⟨p,1,C⟩=U v1∧w.cell? ⟨p,2,C⟩=U v2∧w.cell? ⟨p,3,C⟩=U v3∧w.cell? ⟨p,4,C⟩=U v4:=⟨(h 0 D).1,(h 1 D).1,(h 2 D).1,(h 3 D).1,(h 4 D).1⟩
theorem cf6 {p:Nat} (h:CF w p (v0 :: v1 :: v2 :: v3 :: v4 :: v5 :: r)):w.cell? ⟨p,0,C⟩=U v0∧w.cell? ⟨p,1,C⟩=U v1∧w.cell? ⟨p,2,C⟩=U v2∧w.cell? ⟨p,3,C⟩=U v3∧w.cell? ⟨p,4,C⟩=U v4∧w.cell? ⟨p,5,C⟩=U v5:=⟨(h 0 D).1,(h 1 D).1,(h 2 D).1,(h 3 D).1,(h 4 D).1,(h 5 D).1⟩
theorem cf7 {p:Nat} (h:CF w p (v0 :: v1 :: v2 :: v3 :: v4 :: v5 :: v6 :: r)):w.cell? ⟨p,0,C⟩=U v0∧w.cell? ⟨p,1,C⟩=U v1∧w.cell? ⟨p,2,C⟩=U v2∧w.cell? ⟨p,3,C⟩=U v3∧w.cell? ⟨p,4,C⟩=U v4∧w.cell? ⟨p,5,C⟩=U v5∧w.cell? ⟨p,6,C⟩=U v6:=⟨(h 0 D).1,(h 1 D).1,(h 2 D).1,(h 3 D).1,(h 4 D).1,(h 5 D).1,(h 6 D).1⟩
theorem ER {p:Nat} (h:CF w p (v0 :: v1 :: v2 :: v3 :: v4 :: v5 :: v6 :: v7 :: r)):w.cell? ⟨p,0,C⟩=U v0∧w.cell? ⟨p,1,C⟩=U v1∧w.cell? ⟨p,2,C⟩=U v2∧w.cell? ⟨p,3,C⟩=U v3∧w.cell? ⟨p,4,C⟩=U v4∧w.cell? ⟨p,5,C⟩=U v5∧w.cell? ⟨p,6,C⟩=U v6∧w.cell? ⟨p,7,C⟩=U v7:=⟨(h 0 D).1,(h 1 D).1,(h 2 D).1,(h 3 D).1,(h 4 D).1,(h 5 D).1,(h 6 D).1,(h 7 D).1⟩
theorem cf9 {p:Nat} (h:CF w p (v0 :: v1 :: v2 :: v3 :: v4 :: v5 :: v6 :: v7 :: v8 :: r)):w.cell? ⟨p,0,C⟩=U v0∧w.cell? ⟨p,1,C⟩=U v1∧w.cell? ⟨p,2,C⟩=U v2∧w.cell? ⟨p,3,C⟩=U v3∧w.cell? ⟨p,4,C⟩=U v4∧w.cell? ⟨p,5,C⟩=U v5∧w.cell? ⟨p,6,C⟩=U v6∧w.cell? ⟨p,7,C⟩=U v7∧w.cell? ⟨p,8,C⟩=U v8:=⟨(h 0 D).1,(h 1 D).1,(h 2 D).1,(h 3 D).1,(h 4 D).1,(h 5 D).1,(h 6 D).1,(h 7 D).1,(h 8 D).1⟩
theorem Dc {p:Nat} (h:CF w p (v0 :: v1 :: v2 :: v3 :: v4 :: v5 :: v6 :: v7 :: v8 :: v9 :: v10 :: r)):w.cell? ⟨p,0,C⟩=U v0∧w.cell? ⟨p,1,C⟩=U v1∧w.cell? ⟨p,2,C⟩=U v2∧w.cell? ⟨p,3,C⟩=U v3∧w.cell? ⟨p,4,C⟩=U v4∧w.cell? ⟨p,5,C⟩=U v5∧w.cell? ⟨p,6,C⟩=U v6∧w.cell? ⟨p,7,C⟩=U v7∧w.cell? ⟨p,8,C⟩=U v8∧w.cell? ⟨p,9,C⟩=U v9∧w.cell? ⟨p,10,C⟩=U v10:=⟨(h 0 D).1,(h 1 D).1,(h 2 D).1,(h 3 D).1,(h 4 D).1,(h 5 D).1,(h 6 D).1,(h 7 D).1,(h 8 D).1,(h 9 D).1,(h 10 D).1⟩
theorem l9 {p:Nat} (h:CF w p (v0 :: v1 :: v2 :: v3 :: v4 :: v5 :: v6 :: v7 :: v8 :: v9 :: v10 :: v11 :: r)):w.cell? ⟨p,0,C⟩=U v0∧w.cell? ⟨p,1,C⟩=U v1∧w.cell? ⟨p,2,C⟩=U v2∧w.cell? ⟨p,3,C⟩=U v3∧w.cell? ⟨p,4,C⟩=U v4∧w.cell? ⟨p,5,C⟩=U v5∧w.cell? ⟨p,6,C⟩=U v6∧w.cell? ⟨p,7,C⟩=U v7∧w.cell? ⟨p,8,C⟩=U v8∧w.cell? ⟨p,9,C⟩=U v9∧w.cell? ⟨p,10,C⟩=U v10∧w.cell? ⟨p,11,C⟩=U v11:=⟨(h 0 D).1,(h 1 D).1,(h 2 D).1,(h 3 D).1,(h 4 D).1,(h 5 D).1,(h 6 D).1,(h 7 D).1,(h 8 D).1,(h 9 D).1,(h 10 D).1,(h 11 D).1⟩
theorem Dq {p:Nat} (h:CF w p (v0 :: v1 :: v2 :: v3 :: v4 :: v5 :: v6 :: v7 :: v8 :: v9 :: v10 :: v11 :: v12 :: r)):w.cell? ⟨p,0,C⟩=U v0∧w.cell? ⟨p,1,C⟩=U v1∧w.cell? ⟨p,2,C⟩=U v2∧w.cell? ⟨p,3,C⟩=U v3∧w.cell? ⟨p,4,C⟩=U v4∧w.cell? ⟨p,5,C⟩=U v5∧w.cell? ⟨p,6,C⟩=U v6∧w.cell? ⟨p,7,C⟩=U v7∧w.cell? ⟨p,8,C⟩=U v8∧w.cell? ⟨p,9,C⟩=U v9∧w.cell? ⟨p,10,C⟩=U v10∧w.cell? ⟨p,11,C⟩=U v11∧w.cell? ⟨p,12,C⟩=U v12:=⟨(h 0 D).1,(h 1 D).1,(h 2 D).1,(h 3 D).1,(h 4 D).1,(h 5 D).1,(h 6 D).1,(h 7 D).1,(h 8 D).1,(h 9 D).1,(h 10 D).1,(h 11 D).1,(h 12 D).1⟩
theorem aeg {p:Nat} {a c:Value} (h:CF w p (v0 :: v1 :: v2 :: v3 :: v4 :: v5 :: v6 :: v7 :: v8 :: v9 :: v10 :: v11 :: v12 :: a :: c :: r)):w.cell? ⟨p,0,C⟩=U v0∧w.cell? ⟨p,1,C⟩=U v1∧w.cell? ⟨p,2,C⟩=U v2∧w.cell? ⟨p,3,C⟩=U v3∧w.cell? ⟨p,4,C⟩=U v4∧w.cell? ⟨p,5,C⟩=U v5∧w.cell? ⟨p,6,C⟩=U v6∧w.cell? ⟨p,7,C⟩=U v7∧w.cell? ⟨p,8,C⟩=U v8∧w.cell? ⟨p,9,C⟩=U v9∧w.cell? ⟨p,10,C⟩=U v10∧w.cell? ⟨p,11,C⟩=U v11∧w.cell? ⟨p,12,C⟩=U v12∧w.cell? ⟨p,13,C⟩=U a∧w.cell? ⟨p,14,C⟩=U c:=⟨(h 0 D).1,(h 1 D).1,(h 2 D).1,(h 3 D).1,(h 4 D).1,(h 5 D).1,(h 6 D).1,(h 7 D).1,(h 8 D).1,(h 9 D).1,(h 10 D).1,(h 11 D).1,(h 12 D).1,(h 13 D).1,(h 14 D).1⟩
theorem mc2 {p:Nat} (h:MC w p (v0 :: v1 :: r)):w.cell? ⟨p,0,C⟩=U v0∧w.cell? ⟨p,1,C⟩=U v1:=⟨h 0 D,h 1 D⟩
theorem YQ {p:Nat} (h:MC w p (v0 :: v1 :: v2 :: r)):w.cell? ⟨p,0,C⟩=U v0∧w.cell? ⟨p,1,C⟩=U v1∧w.cell? ⟨p,2,C⟩=U v2:=⟨h 0 D,h 1 D,h 2 D⟩
theorem YP {p:Nat} (h:MC w p (v0 :: v1 :: v2 :: v3 :: r)):w.cell? ⟨p,0,C⟩=U v0∧w.cell? ⟨p,1,C⟩=U v1∧w.cell? ⟨p,2,C⟩=U v2∧w.cell? ⟨p,3,C⟩=U v3:=⟨h 0 D,h 1 D,h 2 D,h 3 D⟩
theorem mc6 {p:Nat} (h:MC w p (v0 :: v1 :: v2 :: v3 :: v4 :: v5 :: r)):w.cell? ⟨p,0,C⟩=U v0∧w.cell? ⟨p,1,C⟩=U v1∧w.cell? ⟨p,2,C⟩=U v2∧w.cell? ⟨p,3,C⟩=U v3∧w.cell? ⟨p,4,C⟩=U v4∧w.cell? ⟨p,5,C⟩=U v5:=⟨h 0 D,h 1 D,h 2 D,h 3 D,h 4 D,h 5 D⟩
theorem mc8 {p:Nat} (h:MC w p (v0 :: v1 :: v2 :: v3 :: v4 :: v5 :: v6 :: v7 :: r)):w.cell? ⟨p,0,C⟩=U v0∧w.cell? ⟨p,1,C⟩=U v1∧w.cell? ⟨p,2,C⟩=U v2∧w.cell? ⟨p,3,C⟩=U v3∧w.cell? ⟨p,4,C⟩=U v4∧w.cell? ⟨p,5,C⟩=U v5∧w.cell? ⟨p,6,C⟩=U v6∧w.cell? ⟨p,7,C⟩=U v7:=⟨h 0 D,h 1 D,h 2 D,h 3 D,h 4 D,h 5 D,h 6 D,h 7 D⟩
theorem aeb {p:Nat} (h:MC w p (v0 :: v1 :: v2 :: v3 :: v4 :: v5 :: v6 :: v7 :: v8 :: v9 :: v10 :: r)):w.cell? ⟨p,0,C⟩=U v0∧w.cell? ⟨p,1,C⟩=U v1∧w.cell? ⟨p,2,C⟩=U v2∧w.cell? ⟨p,3,C⟩=U v3∧w.cell? ⟨p,4,C⟩=U v4∧w.cell? ⟨p,5,C⟩=U v5∧w.cell? ⟨p,6,C⟩=U v6∧w.cell? ⟨p,7,C⟩=U v7∧w.cell? ⟨p,8,C⟩=U v8∧w.cell? ⟨p,9,C⟩=U v9∧w.cell? ⟨p,10,C⟩=U v10:=⟨h 0 D,h 1 D,h 2 D,h 3 D,h 4 D,h 5 D,h 6 D,h 7 D,h 8 D,h 9 D,h 10 D⟩
theorem P8 {p:Nat} (h:MC w p (v0 :: v1 :: v2 :: v3 :: v4 :: v5 :: v6 :: v7 :: v8 :: v9 :: v10 :: v11 :: r)):w.cell? ⟨p,0,C⟩=U v0∧w.cell? ⟨p,1,C⟩=U v1∧w.cell? ⟨p,2,C⟩=U v2∧w.cell? ⟨p,3,C⟩=U v3∧w.cell? ⟨p,4,C⟩=U v4∧w.cell? ⟨p,5,C⟩=U v5∧w.cell? ⟨p,6,C⟩=U v6∧w.cell? ⟨p,7,C⟩=U v7∧w.cell? ⟨p,8,C⟩=U v8∧w.cell? ⟨p,9,C⟩=U v9∧w.cell? ⟨p,10,C⟩=U v10∧w.cell? ⟨p,11,C⟩=U v11:=⟨h 0 D,h 1 D,h 2 D,h 3 D,h 4 D,h 5 D,h 6 D,h 7 D,h 8 D,h 9 D,h 10 D,h 11 D⟩
end Go.Proofs.YtfkkipgcfoegmaaGreat
