
import Derived.Test.YtfkkipgcfoegmaaGreatQSChk
import Derived.Test.YtfkkipgcfoegmaaGreatQNsp
set_option maxHeartbeats 2000000
set_option maxRecDepth 100000
namespace Go.Proofs.YtfkkipgcfoegmaaGreat
open Go.Proofs.Tryz
open Go.Value renaming slice→K,string→E,bool→aF,pointer→aG,agg→aI
open Option renaming none→C,some→U
open Go.Operand renaming tmp→F
open Bool renaming false→aK,true→aN
open Go.Value renaming int→I
open Go.IntKind renaming i64→Y
open Go.RowKit
variable {o:Oper} {p:Addr} {rb sb:Nat} {v:Value} {w:World} {ρ:Operand→Value}
structure But (sb rb:Nat) (w w':World):Prop where
 os:w'.os=w.os
 tape:w'.tape=w.tape
 output:w'.output=w.output
 size:w.heap.size≤w'.heap.size
 block:∀ k,k<w.heap.size→k≠sb→k≠rb→w'.heap[k]?=w.heap[k]?
theorem But.trans {a b c:World} (h:But sb rb a b) (k:But sb rb b c):But sb rb a c :=
 ⟨k.os.trans h.os,k.tape.trans h.tape,k.output.trans h.output,lH h.size k.size,fun i hi d e=>(k.block i (lu hi h.size) d e).trans (h.block i hi d e)⟩
theorem But.of {a b:World} (h:Below a.heap.size a b):But sb rb a b:=⟨h.os,h.tape,h.output,h.size,fun i hi _ _=>h.block i hi⟩
theorem But.Uc (w:World) (j:Nat) (u:Value):But sb rb w (w.setCell ⟨sb,j,C⟩ u) :=
 ⟨rfl,rfl,rfl,by simp [World.setCell],fun k _ a _=>nK _ _ _ _ a⟩
theorem But.Xo (w:World) (j:Nat) (u:Value):But sb rb w (w.setCell ⟨rb,j,C⟩ u) :=
 ⟨rfl,rfl,rfl,by simp [World.setCell],fun k _ _ a=>nK _ _ _ _ a⟩
theorem But.below {C:Nat} {a w':World} (h:Below C a w) (k:But sb rb w w') (c:C≤sb) (d:C≤rb) (e:C≤w.heap.size):Below C a w' :=
 h.trans ⟨k.os,k.tape,k.output,k.size,fun i hi=>k.block i A A A⟩
def aa2 (B sb rb n:Nat) (ts:List kJ) (st:St) (q:Int × Int × Int × ByteArray) (d:Ending) (w':World):Prop :=
 ∃ r,d=.returned (aF r)∧(r=aN→∃ a c,step1 ts st q=U (a,c)∧CF w' sb [I Y 0,I Y a,K (U ⟨rb,0,C⟩) n n]∧kW B w' 1 rb 0 n n (c.map E))∧(r=aK→step1 ts st q=C)
theorem ac9 (a:Option Addr) (n c:Nat) (ts:List kJ) (B sb rb:Nat) (f:Int) (R:List ByteArray) (e d:Int) (x:ByteArray) (w:World)
  (q:CF w sb [I Y 0,I Y f,K (U ⟨rb,0,C⟩) n n]) (o:kW B w 1 rb 0 n n (R.map E)) (L:sb≠rb) (N:0≤f) (P:f≤100000) :
  Calls prog 43 #[aG (U ⟨sb,0,C⟩),aI #[K a n c],aI #[I Y 1,I Y e,I Y d,E x]] w fun H u =>
   aa2 B sb rb n ts (f,R) (1,e,d,x) H u∧But sb rb w u:=by
 obtain ⟨W, g⟩ := kC ((w.alloc (.cells #[K a n c] 33)).alloc (.cells #[I Y 1,I Y e,I Y d,E x] 66));have k:Below w.heap.size w W:=by rw [g];exact kQ.alloc D _
 have M:sb<w.heap.size:=Ep _ _ (q 0 D).1;have i:CF W sb [I Y 0,I Y f,K (U ⟨rb,0,C⟩) n n]:=q.block (k.block _ M);have t:=o.below k o.hi;have Q:W.cell? ⟨sb,1,C⟩=U (I Y f):=(i 1 D).1;have S:=(i 1 D).2;have r:MC W (w.heap.size+1) [I Y 1,I Y e,I Y d,E x]:=by
  rw [g];have:=MC.made (w.alloc (.cells #[K a n c] 33)) #[I Y 1,I Y e,I Y d,E x] 66;rw [mJ] at this;exact this
 obtain ⟨q0,q1⟩:=mc2 r;have T:sb≠w.heap.size+1:=A;have v:=hid ((i.set (j:=1) D (I Y (f+1))));have z:=hid (t.setOther (p:=⟨sb,1,C⟩) (fun h=>L h.symm) (I Y (f+1)));have s:=(But.of (sb:=sb) (rb:=rb) k).trans (But.Uc W 1 (I Y (f+1)));clear r i t q o;go_enter func43,ntmps43
 go_upto_region 1 with fail
 rw [← g];clear g;by_cases he:e=f+1
 ·have J:(e == f+1)=aN:=by simpa using he
  have GE:=hid he;clear he;go_wp2;go_quiet (fail)
  go_wp2;go_ret;refine ⟨⟨_,rfl,fun _=>⟨f+1,R,?_,?_,?_⟩,fun l=>by cases l⟩,?_⟩
  ·unfold step1;simp [GE.out]
  ·exact (v.out).block rfl
  ·exact (z.out).block rfl
  ·exact s.trans ⟨rfl,rfl,rfl,kL,fun _ _ _ _=>rfl⟩
 ·have J:(e == f+1)=aK:=by simpa using he
  have GE:=hid he;clear he;go_wp2;go_quiet (fail)
  go_wp2;go_ret;refine ⟨⟨_,rfl,fun l=>(by cases l),fun _=>?_⟩,?_⟩
  ·unfold step1;simp [GE.out]
  ·exact s.trans ⟨rfl,rfl,rfl,kL,fun _ _ _ _=>rfl⟩
theorem Hg (x:Operand) (h:o.op=.move x) (a:ρ x=v):(execOp ρ o).run prog w=.ok (.value v) w:=by
 rw [← a];exact BigFrame.run_move x h w
theorem Aj (x:Operand) (h:o.op=.load 3 x) (c:ρ x=aG (U p)) (a:w.cell? p=U v):(execOp ρ o).run prog w=.ok (.value v) w:=by
 unfold execOp;rw [h];simp [go_sem,c,a]
theorem Ud (x:Operand) (h:o.op=.load 31 x) (c:ρ x=aG (U p)) (a:w.cell? p=U v):(execOp ρ o).run prog w=.ok (.value v) w:=by
 unfold execOp;rw [h];simp [go_sem,c,a]
theorem pY (x:Operand) (h:o.op=.load 23 x) (c:ρ x=aG (U p)) (a:w.cell? p=U v):(execOp ρ o).run prog w=.ok (.value v) w:=by
 unfold execOp;rw [h];simp [go_sem,c,a]
theorem Ue {b:Nat} (x:Operand) (h:o.op=.load 33 x) (c:ρ x=aG (U ⟨b,0,C⟩)) (a:w.cell? ⟨b,0,C⟩=U v):(execOp ρ o).run prog w=.ok (.value (aI #[v])) w:=by
 unfold execOp;rw [h];simp [go_sem,c,a]
theorem Ns (x y:Operand) (a b:Int) (h:o.op=.binOp .neq 3 x y 3) (c:ρ x=I Y a) (d:ρ y=I Y b):(execOp ρ o).run prog w=.ok (.value (aF (!(a == b)))) w:=by
 unfold execOp;rw [h];simp [go_sem,c,d];rfl
theorem Uf (x y:Operand) (a b:Int) (h:o.op=.binOp .geq 3 x y 3) (c:ρ x=I Y a) (d:ρ y=I Y b):(execOp ρ o).run prog w=.ok (.value (aF (decide (b≤a)))) w:=by
 unfold execOp;rw [h];simp [go_sem,c,d]
theorem Yt (x:Operand) (b:Bool) (h:o.op=.unOp .not 4 x) (a:ρ x=aF b):(execOp ρ o).run prog w=.ok (.value (aF (!b))) w:=by
 unfold execOp;rw [h];simp [go_sem,a]
theorem LQ (x y z:Operand) (h:o.op=.pick x y z) (a:ρ x=aF aK) (c:ρ z=v):(execOp ρ o).run prog w=.ok (.value v) w:=by
 unfold execOp;rw [h];simp [go_sem,a,c]
theorem PO (x y z:Operand) (h:o.op=.pick x y z) (a:ρ x=aF aN) (c:ρ y=v):(execOp ρ o).run prog w=.ok (.value v) w:=by
 unfold execOp;rw [h];simp [go_sem,a,c]
theorem KN (x:Operand) (h:o.op=.nilCheck x) (a:ρ x=aG (U p)):(execOp ρ o).run prog w=.ok (.value (aG (U p))) w:=by
 unfold execOp;rw [h];simp [go_sem,a]
theorem abP (x:Operand) (h:o.op=.load 9 x) (c:ρ x=aG (U p)) (a:w.cell? p=U v):(execOp ρ o).run prog w=.ok (.value v) w:=by
 unfold execOp;rw [h];simp [go_sem,c,a]
theorem ZN (x y:Operand) (g n c i:Nat) (h:o.op=.indexAddr 23 x y) (d:ρ x=K (U ⟨g,0,C⟩) n c) (e:ρ y=I Y i) (hi:i<n):(execOp ρ o).run prog w=.ok (.value (aG (U ⟨g,i,C⟩))) w:=by
 have a:(i:Int)<(n:Int):=A;unfold execOp;rw [h];simp [go_sem,d,e,a]
theorem abL {s:ByteArray} {old:Value} (x y:Operand) (h:o.op=.store 9 x y) (d:ρ x=aG (U p)) (e:ρ y=E s) (a:w.cell? p=U old) (c:w.frozen? p=aK) :
  (execOp ρ o).run prog w=.ok .skip (w.setCell p (E s)):=by
 unfold execOp;rw [h];simp [go_sem,d,e,a,c]
theorem abV {f:FuncId} {v1 v2 v3:Value} (x y z:Operand) (ts:Array TypeId) (h:o.op=.call { callee:=.value (.func f),args:=#[x,y,z],argTypes:=ts }) (hx:ρ x=v1) (hy:ρ y=v2) (hz:ρ z=v3) (hf:ρ (.func f)=.func (.func f) #[] #[]) (he:∀ (v1 v2 v3:Value) (w:World),Sem.run prog (callFunc f #[v1,v2,v3]) w=.ok (.enter f #[v1,v2,v3]) w):(execOp ρ o).run prog w=.ok (.enter f #[v1,v2,v3]) w:=by
 unfold execOp;rw [h];simp [go_sem,hx,hy,hz,hf,he]
theorem aek {P:Program} {md:Region.Mode} {ops:Array Oper} {Q:Exit→Act→World→Prop} {S:World→Prop} {i:Nat} {e:Oper} {d:Option Nat} {fuel:Nat} {l l':Array Bool} {a:Act} (hi:ops[i]?=U e) (g:e.dst=d) (p:Region.noSelect ops=aN) (j:Region.free md ops l i=aN) (o:(Region.ready md ops l).contains i=aN)
  (hQ:∀ c a w,Q (.panic c) (a.put e.dst undef) w→Q (.panic c) a w) (hw:Region.wanted e (yielded ops a.tmps)=aK) (f:S w)
  (k:l.setIfInBounds i aN=l') (h:wpAnyH P md ops Q S fuel l' (a.put d undef) w):wpAnyH P md ops Q S (fuel+1) l a w:=by
 subst k;subst g;exact wpAnyH_take hi p j o hQ (Or.inr ⟨hw,rfl⟩) f h
theorem VE (v1 v2 v3:Value) (w:World):Sem.run prog (callFunc 46 #[v1,v2,v3]) w=.ok (.enter 46 #[v1,v2,v3]) w:=Z
def Ks (W w:World):Prop:=∀ p v,W.cell? p=U v→w.cell? p=U v
theorem ac8 (a:Option Addr) (b o n c:Nat) (ts:List kJ) (B sb rb:Nat) (t:Int) (R:List ByteArray) (e d:Int) (x:ByteArray) (w:World) (h:lN w a b o n ts) (hA:nM ts n)
  (V:CF w sb [I Y 0,I Y t,K (U ⟨rb,0,C⟩) n n]) (J:kW B w 1 rb 0 n n (R.map E)) (hz:∀ s∈R,s.size≤8) (bb:sb≠rb) (bd:0≤d) :
  Calls prog 43 #[aG (U ⟨sb,0,C⟩),aI #[K a n c],aI #[I Y 2,I Y e,I Y d,E x]] w fun e' w' =>
   aa2 B sb rb n ts (t,R) (2,e,d,x) e' w'∧But sb rb w w':=by
 obtain ⟨W, N⟩ := kC ((w.alloc (.cells #[K a n c] 33)).alloc (.cells #[I Y 2,I Y e,I Y d,E x] 66));have Q:Below w.heap.size w W:=by rw [N];exact kQ.alloc D _
 have bc:sb<w.heap.size:=Ep _ _ (V 0 D).1;have ae:CF W sb [I Y 0,I Y t,K (U ⟨rb,0,C⟩) n n]:=V.block (Q.block _ bc);have ab:=J.below Q J.hi;obtain ⟨-,ai,an⟩:=cf3 ae;have af:MC W (w.heap.size+1) [I Y 2,I Y e,I Y d,E x]:=by
  rw [N];have:=MC.made (w.alloc (.cells #[K a n c] 33)) #[I Y 2,I Y e,I Y d,E x] 66;rw [mJ] at this;exact this
 obtain ⟨q0,q1,q2,q3⟩:=YP af;have p0:W.cell? ⟨w.heap.size,0,C⟩=U (K a n c):=by
  rw [N,Jr _ _ ⟨w.heap.size,0,C⟩ D];exact Om w #[K a n c] 33 (0,0) 0
 have bh:sb≠w.heap.size+1:=A;have bj:w.heap.size+1<W.heap.size:=Ep _ _ q0;have ba:=h.max;unfold maxLen at ba;have HL:=hid h.len;by_cases he:e=t
 ·have ag:(e == t)=aN:=by simpa using he
  have GE:=hid he;clear he;by_cases bf:d<n
  ·obtain ⟨l,rfl⟩:∃ l:Nat,d=l:=⟨d.toNat,A⟩
   have aq:l<n:=A;have ak:¬ ((n:Int)≤(l:Int)):=A;have HC:=hid (Qz a b o n c ts rb 0 n R l W.drew ((h.below' Q).below' mD.drew) ((kS.Au ab (fun s V=>by have:=hz s V;unfold maxLen;omega)).below' mD.drew) aq hA);have bg:=J.hi;have ay:=hid ae;have al:=hid ab;clear af ae ab V J h;have k:Ks W W.drew:=fun p v T=>T;go_enter func43,ntmps43
   go_upto_region 1 with fail
   rw [← N];clear N;go_upto_region 4 with fail
   refine wp_region_held (S:=Ks W) Z ?_;change wpAnyH _ _ _ _ _ _ _ _ (World.drew _);refine jZ (i:=0) (d:=U 24) (v:=aG (U ⟨w.heap.size+1,1,C⟩)) (l':=(bt 26 1)) rfl (fun _ g=>Z) k ?_;refine jZ (i:=1) (d:=U 25) (v:=I Y e) (l':=(bt 26 3)) rfl (fun _ g=>Aj (F 24) Z Z (g _ _ q1)) k ?_;refine jZ (i:=2) (d:=U 26) (v:=aG (U ⟨sb,0,C⟩)) (l':=(bt 26 7)) rfl (fun _ g=>Z) k ?_;refine jZ (i:=3) (d:=U 27) (v:=aG (U ⟨sb,0,C⟩)) (l':=(bt 26 15)) rfl (fun _ g=>KN (F 26) Z Z) k ?_;refine jZ (i:=4) (d:=U 28) (v:=aG (U ⟨sb,1,C⟩)) (l':=(bt 26 31)) rfl (fun _ g=>Z) k ?_;refine jZ (i:=5) (d:=U 29) (v:=I Y t) (l':=(bt 26 63)) rfl (fun _ g=>Aj (F 28) Z Z (g _ _ ai)) k ?_;refine jZ (i:=6) (d:=U 30) (v:=aF aK) (l':=(bt 26 127)) rfl (fun _ g=>(Ns (F 25) (F 29) e t Z Z Z).trans (by rw [ag];rfl)) k ?_;refine jZ (i:=7) (d:=U 31) (v:=aF aK) (l':=(bt 26 255)) rfl (fun _ g=>Hg (F 30) Z Z) k ?_;refine jZ (i:=8) (d:=U 32) (v:=aG (U ⟨w.heap.size+1,2,C⟩)) (l':=(bt 26 511)) rfl (fun _ g=>Z) k ?_;refine jZ (i:=9) (d:=U 33) (v:=I Y l) (l':=(bt 26 1023)) rfl (fun _ g=>Aj (F 32) Z Z (g _ _ q2)) k ?_;refine jZ (i:=10) (d:=U 34) (v:=aG (U ⟨w.heap.size,0,C⟩)) (l':=(bt 26 2047)) rfl (fun _ g=>Z) k ?_;refine jZ (i:=11) (d:=U 35) (v:=K a n c) (l':=(bt 26 4095)) rfl (fun _ g=>Ud (F 34) Z Z (g _ _ p0)) k ?_;refine jZ (i:=12) (d:=U 36) (v:=I Y n) (l':=(bt 26 8191)) rfl (fun _ g=>Z) k ?_;refine jZ (i:=13) (d:=U 37) (v:=aF aK) (l':=(bt 26 16383)) rfl (fun _ g=>(Uf (F 33) (F 36) l n Z Z Z).trans (by rw [decide_eq_false ak])) k ?_;refine jZ (i:=14) (d:=U 38) (v:=aF aK) (l':=(bt 26 32767)) rfl (fun _ g=>LQ (F 31) (.const (aF aN)) (F 37) Z Z Z) k ?_;refine jZ (i:=15) (d:=U 39) (v:=aF aK) (l':=(bt 26 65535)) rfl (fun _ g=>Hg (F 38) Z Z) k ?_;refine jZ (i:=16) (d:=U 40) (v:=aI #[K a n c]) (l':=(bt 26 131071)) rfl (fun _ g=>Ue (F 4) Z Z (g _ _ p0)) k ?_;refine jZ (i:=17) (d:=U 41) (v:=aG (U ⟨sb,0,C⟩)) (l':=(bt 26 262143)) rfl (fun _ g=>Z) k ?_;refine jZ (i:=18) (d:=U 42) (v:=aG (U ⟨sb,0,C⟩)) (l':=(bt 26 524287)) rfl (fun _ g=>KN (F 41) Z Z) k ?_;refine jZ (i:=19) (d:=U 43) (v:=aG (U ⟨sb,2,C⟩)) (l':=(bt 26 1048575)) rfl (fun _ g=>Z) k ?_;refine jZ (i:=20) (d:=U 44) (v:=K (U ⟨rb,0,C⟩) n n) (l':=(bt 26 2097151)) rfl (fun _ g=>pY (F 43) Z Z (g _ _ an)) k ?_;refine jZ (i:=21) (d:=U 45) (v:=aG (U ⟨w.heap.size+1,2,C⟩)) (l':=(bt 26 4194303)) rfl (fun _ g=>Z) k ?_;refine jZ (i:=22) (d:=U 46) (v:=I Y l) (l':=(bt 26 8388607)) rfl (fun _ g=>Aj (F 45) Z Z (g _ _ q2)) k ?_;generalize M:Act.put _ _ _=aa;refine kF (i:=23) Z ?_;refine (kZ (i:=23) (d:=U 47) (f:=46) (args:=#[aI #[K a n c],K (U ⟨rb,0,C⟩) n n,I Y l]) (l':=(bt 26 16777215)) (R:=fun v w'=>(∃ r:Bool,v=aF r∧(r=aN ↔ uw ts R l))∧Below W.drew.heap.size W.drew w') rfl Z eX Z (abV (F 40) (F 44) (F 46) #[33,23,3] Z eX eX eX eX VE) (HC.out.mono fun _ _ ⟨⟨r,he,J⟩,hb⟩=>⟨_,he,⟨r,rfl,J⟩,hb⟩) ?_);subst M;rintro _ H ⟨⟨r,rfl,J⟩,X⟩;have P:Ks W H:=fun p v T=>adI X T;refine ⟨P,?_⟩;cases r with
   | false =>
    have HN:=hid (show ¬ uw ts R l from fun q=>by have:=J.2 q;cases this);clear J;refine jZ (i:=24) (d:=U 48) (v:=aF aN) (l':=(bt 26 33554431)) rfl (fun _ g=>(Yt (F 47) aK Z Z).trans rfl) P ?_;refine jZ (i:=25) (d:=U 49) (v:=aF aN) (l':=(bt 26 67108863)) rfl (fun _ g=>LQ (F 39) (.const (aF aN)) (F 48) Z Z Z) P ?_;refine wpAnyH_done Z ?_ _;go_simp;go_wp2;go_ret;refine ⟨⟨_,rfl,fun q=>(by cases q),fun _=>?_⟩,(But.of Q).trans (But.of (mD.drew.trans X))⟩;unfold step1;simp [HN.out]
   | true =>
    have HN:=hid (J.1 rfl);clear J;refine jZ (i:=24) (d:=U 48) (v:=aF aK) (l':=(bt 26 33554431)) rfl (fun _ g=>(Yt (F 47) aN Z Z).trans rfl) P ?_;refine jZ (i:=25) (d:=U 49) (v:=aF aK) (l':=(bt 26 67108863)) rfl (fun _ g=>LQ (F 39) (.const (aF aN)) (F 48) Z Z Z) P ?_;refine wpAnyH_done Z ?_ _;have ah:kW B H 1 rb 0 n n (R.map E):=(al.out).below (mD.drew.trans X) (al.out).hi;obtain ⟨u,hu,av⟩:=ah.N7 (j:=l) A;have au:=ah.notFrozen (j:=l) A;rw [ny] at av au;have aw:CF H sb [I Y 0,I Y t,K (U ⟨rb,0,C⟩) n n]:=((ay.out).block rfl).block (X.block _ (by show sb<W.heap.size;omega));have ax:=hid (kW.block (ah.setCell (j:=l) A (E x)) (w':=H.drew.setCell ⟨rb,l,C⟩ (E x)) (by rw [ny];rfl));have a6:=hid (aw.block (w':=H.drew.setCell ⟨rb,l,C⟩ (E x)) (nK _ _ _ _ bb));have a8:But sb rb w (H.drew.setCell ⟨rb,l,C⟩ (E x)):=((But.of Q).trans (But.of (mD.drew.trans (X.trans mD.drew)))).trans (But.Xo H.drew l (E x));have L:H.drew.cell? ⟨sb,2,C⟩=U (K (U ⟨rb,0,C⟩) n n)∧H.drew.cell? ⟨w.heap.size+1,2,C⟩=U (I Y l)∧H.drew.cell? ⟨w.heap.size+1,3,C⟩=U (E x):=⟨P _ _ an,P _ _ q2,P _ _ q3⟩
    have a7:(H.drew.setCell ⟨rb,l,C⟩ (E x)).cell? ⟨sb,2,C⟩=U (K (U ⟨rb,0,C⟩) n n)∧(H.drew.setCell ⟨rb,l,C⟩ (E x)).cell? ⟨w.heap.size+1,2,C⟩=U (I Y l)∧(H.drew.setCell ⟨rb,l,C⟩ (E x)).cell? ⟨w.heap.size+1,3,C⟩=U (E x) :=
     ⟨(DN _ _ _ _ jC).trans L.1,(DN _ _ _ _ jC).trans L.2.1,(DN _ _ _ _ jC).trans L.2.2⟩
    clear ah aw k X;go_simp;go_upto_region 6 with fail
    refine wp_region_held (S:=fun w'=>w'.cell? ⟨sb,2,C⟩=U (K (U ⟨rb,0,C⟩) n n)∧w'.cell? ⟨w.heap.size+1,2,C⟩=U (I Y l)∧w'.cell? ⟨w.heap.size+1,3,C⟩=U (E x)) Z ?_;change wpAnyH _ _ _ _ _ _ _ _ (World.drew _);refine jZ (i:=0) (d:=U 50) (v:=aG (U ⟨sb,0,C⟩)) (l':=(bt 10 1)) rfl (fun _ g=>Z) L ?_;refine jZ (i:=1) (d:=U 51) (v:=aG (U ⟨sb,0,C⟩)) (l':=(bt 10 3)) rfl (fun _ g=>KN (F 50) Z Z) L ?_;refine jZ (i:=2) (d:=U 52) (v:=aG (U ⟨sb,2,C⟩)) (l':=(bt 10 7)) rfl (fun _ g=>Z) L ?_;refine jZ (i:=3) (d:=U 53) (v:=K (U ⟨rb,0,C⟩) n n) (l':=(bt 10 15)) rfl (fun _ g=>pY (F 52) Z Z g.1) L ?_;refine jZ (i:=4) (d:=U 54) (v:=aG (U ⟨w.heap.size+1,2,C⟩)) (l':=(bt 10 31)) rfl (fun _ g=>Z) L ?_;refine jZ (i:=5) (d:=U 55) (v:=I Y l) (l':=(bt 10 63)) rfl (fun _ g=>Aj (F 54) Z Z g.2.1) L ?_;refine jZ (i:=6) (d:=U 56) (v:=aG (U ⟨w.heap.size+1,3,C⟩)) (l':=(bt 10 127)) rfl (fun _ g=>Z) L ?_;refine jZ (i:=7) (d:=U 57) (v:=E x) (l':=(bt 10 255)) rfl (fun _ g=>abP (F 56) Z Z g.2.2) L ?_;refine jZ (i:=8) (d:=U 58) (v:=aG (U ⟨rb,l,C⟩)) (l':=(bt 10 511)) rfl (fun _ g=>ZN (F 53) (F 55) rb n n l Z Z Z aq) L ?_;generalize M:Act.put _ _ _=aa;refine kF (i:=9) Z ?_;refine (lI (i:=9) (w':=H.drew.setCell ⟨rb,l,C⟩ (E x)) (l':=(bt 10 1023)) rfl Z eX Z (abL (F 58) (F 57) Z eX eX av au) a7 ?_);subst M;refine wpAnyH_done Z ?_ _;go_simp;go_wp2;go_ret;refine ⟨⟨_,rfl,fun _=>⟨t,R.set l x,?_,a6.out,?_⟩,fun q=>by cases q⟩,a8⟩
    ·unfold step1
     simp [HN.out,GE.out,HL.out];omega
    ·have:=ax.out
     rw [Ry];exact this
  ·have ak:(n:Int)≤d:=by omega
   have k:Ks W W.drew:=fun p v T=>T;clear af ae ab V J h;go_enter func43,ntmps43
   go_upto_region 1 with fail
   rw [← N];clear N;go_upto_region 4 with fail
   refine wp_region_held (S:=Ks W) Z ?_;change wpAnyH _ _ _ _ _ _ _ _ (World.drew _);refine jZ (i:=0) (d:=U 24) (v:=aG (U ⟨w.heap.size+1,1,C⟩)) (l':=(bt 26 1)) rfl (fun _ g=>Z) k ?_;refine jZ (i:=1) (d:=U 25) (v:=I Y e) (l':=(bt 26 3)) rfl (fun _ g=>Aj (F 24) Z Z (g _ _ q1)) k ?_;refine jZ (i:=2) (d:=U 26) (v:=aG (U ⟨sb,0,C⟩)) (l':=(bt 26 7)) rfl (fun _ g=>Z) k ?_;refine jZ (i:=3) (d:=U 27) (v:=aG (U ⟨sb,0,C⟩)) (l':=(bt 26 15)) rfl (fun _ g=>KN (F 26) Z Z) k ?_;refine jZ (i:=4) (d:=U 28) (v:=aG (U ⟨sb,1,C⟩)) (l':=(bt 26 31)) rfl (fun _ g=>Z) k ?_;refine jZ (i:=5) (d:=U 29) (v:=I Y t) (l':=(bt 26 63)) rfl (fun _ g=>Aj (F 28) Z Z (g _ _ ai)) k ?_;refine jZ (i:=6) (d:=U 30) (v:=aF aK) (l':=(bt 26 127)) rfl (fun _ g=>(Ns (F 25) (F 29) e t Z Z Z).trans (by rw [ag];rfl)) k ?_;refine jZ (i:=7) (d:=U 31) (v:=aF aK) (l':=(bt 26 255)) rfl (fun _ g=>Hg (F 30) Z Z) k ?_;refine jZ (i:=8) (d:=U 32) (v:=aG (U ⟨w.heap.size+1,2,C⟩)) (l':=(bt 26 511)) rfl (fun _ g=>Z) k ?_;refine jZ (i:=9) (d:=U 33) (v:=I Y d) (l':=(bt 26 1023)) rfl (fun _ g=>Aj (F 32) Z Z (g _ _ q2)) k ?_;refine jZ (i:=10) (d:=U 34) (v:=aG (U ⟨w.heap.size,0,C⟩)) (l':=(bt 26 2047)) rfl (fun _ g=>Z) k ?_;refine jZ (i:=11) (d:=U 35) (v:=K a n c) (l':=(bt 26 4095)) rfl (fun _ g=>Ud (F 34) Z Z (g _ _ p0)) k ?_;refine jZ (i:=12) (d:=U 36) (v:=I Y n) (l':=(bt 26 8191)) rfl (fun _ g=>Z) k ?_;refine jZ (i:=13) (d:=U 37) (v:=aF aN) (l':=(bt 26 16383)) rfl (fun _ g=>(Uf (F 33) (F 36) d n Z Z Z).trans (by rw [decide_eq_true ak])) k ?_;refine jZ (i:=14) (d:=U 38) (v:=aF aN) (l':=(bt 26 32767)) rfl (fun _ g=>LQ (F 31) (.const (aF aN)) (F 37) Z Z Z) k ?_;refine jZ (i:=15) (d:=U 39) (v:=aF aN) (l':=(bt 26 65535)) rfl (fun _ g=>Hg (F 38) Z Z) k ?_;refine rC (i:=16) (d:=U 40) (l':=(bt 26 131071)) rfl k ?_;refine rC (i:=17) (d:=U 41) (l':=(bt 26 262143)) rfl k ?_;refine rC (i:=18) (d:=U 42) (l':=(bt 26 524287)) rfl k ?_;refine rC (i:=19) (d:=U 43) (l':=(bt 26 1048575)) rfl k ?_;refine rC (i:=20) (d:=U 44) (l':=(bt 26 2097151)) rfl k ?_;refine rC (i:=21) (d:=U 45) (l':=(bt 26 4194303)) rfl k ?_;refine rC (i:=22) (d:=U 46) (l':=(bt 26 8388607)) rfl k ?_;refine rC (i:=23) (d:=U 47) (l':=(bt 26 16777215)) rfl k ?_;refine rC (i:=24) (d:=U 48) (l':=(bt 26 33554431)) rfl k ?_;refine jZ (i:=25) (d:=U 49) (v:=aF aN) (l':=(bt 26 67108863)) rfl (fun _ g=>PO (F 39) (.const (aF aN)) (F 48) Z Z Z) k ?_;refine wpAnyH_done Z ?_ _;go_simp;go_wp2;go_ret;refine ⟨⟨_,rfl,fun q=>(by cases q),fun _=>?_⟩,(But.of Q).trans (But.of mD.drew)⟩;unfold step1;simp [HL.out];omega
 ·have ag:(e == t)=aK:=by simpa using he
  have GE:=hid he;clear he;have k:Ks W W.drew:=fun p v T=>T;clear af ae ab V J h;go_enter func43,ntmps43
  go_upto_region 1 with fail
  rw [← N];clear N;go_upto_region 4 with fail
  refine wp_region_held (S:=Ks W) Z ?_;change wpAnyH _ _ _ _ _ _ _ _ (World.drew _);refine jZ (i:=0) (d:=U 24) (v:=aG (U ⟨w.heap.size+1,1,C⟩)) (l':=(bt 26 1)) rfl (fun _ g=>Z) k ?_;refine jZ (i:=1) (d:=U 25) (v:=I Y e) (l':=(bt 26 3)) rfl (fun _ g=>Aj (F 24) Z Z (g _ _ q1)) k ?_;refine jZ (i:=2) (d:=U 26) (v:=aG (U ⟨sb,0,C⟩)) (l':=(bt 26 7)) rfl (fun _ g=>Z) k ?_;refine jZ (i:=3) (d:=U 27) (v:=aG (U ⟨sb,0,C⟩)) (l':=(bt 26 15)) rfl (fun _ g=>KN (F 26) Z Z) k ?_;refine jZ (i:=4) (d:=U 28) (v:=aG (U ⟨sb,1,C⟩)) (l':=(bt 26 31)) rfl (fun _ g=>Z) k ?_;refine jZ (i:=5) (d:=U 29) (v:=I Y t) (l':=(bt 26 63)) rfl (fun _ g=>Aj (F 28) Z Z (g _ _ ai)) k ?_;refine jZ (i:=6) (d:=U 30) (v:=aF aN) (l':=(bt 26 127)) rfl (fun _ g=>(Ns (F 25) (F 29) e t Z Z Z).trans (by rw [ag];rfl)) k ?_;refine jZ (i:=7) (d:=U 31) (v:=aF aN) (l':=(bt 26 255)) rfl (fun _ g=>Hg (F 30) Z Z) k ?_;refine rC (i:=8) (d:=U 32) (l':=(bt 26 511)) rfl k ?_;refine rC (i:=9) (d:=U 33) (l':=(bt 26 1023)) rfl k ?_;refine rC (i:=10) (d:=U 34) (l':=(bt 26 2047)) rfl k ?_;refine rC (i:=11) (d:=U 35) (l':=(bt 26 4095)) rfl k ?_;refine rC (i:=12) (d:=U 36) (l':=(bt 26 8191)) rfl k ?_;refine rC (i:=13) (d:=U 37) (l':=(bt 26 16383)) rfl k ?_;refine jZ (i:=14) (d:=U 38) (v:=aF aN) (l':=(bt 26 32767)) rfl (fun _ g=>PO (F 31) (.const (aF aN)) (F 37) Z Z Z) k ?_;refine jZ (i:=15) (d:=U 39) (v:=aF aN) (l':=(bt 26 65535)) rfl (fun _ g=>Hg (F 38) Z Z) k ?_;refine rC (i:=16) (d:=U 40) (l':=(bt 26 131071)) rfl k ?_;refine rC (i:=17) (d:=U 41) (l':=(bt 26 262143)) rfl k ?_;refine rC (i:=18) (d:=U 42) (l':=(bt 26 524287)) rfl k ?_;refine rC (i:=19) (d:=U 43) (l':=(bt 26 1048575)) rfl k ?_;refine rC (i:=20) (d:=U 44) (l':=(bt 26 2097151)) rfl k ?_;refine rC (i:=21) (d:=U 45) (l':=(bt 26 4194303)) rfl k ?_;refine rC (i:=22) (d:=U 46) (l':=(bt 26 8388607)) rfl k ?_;refine rC (i:=23) (d:=U 47) (l':=(bt 26 16777215)) rfl k ?_;refine rC (i:=24) (d:=U 48) (l':=(bt 26 33554431)) rfl k ?_;refine jZ (i:=25) (d:=U 49) (v:=aF aN) (l':=(bt 26 67108863)) rfl (fun _ g=>PO (F 39) (.const (aF aN)) (F 48) Z Z Z) k ?_;refine wpAnyH_done Z ?_ _;go_simp;go_wp2;go_ret;refine ⟨⟨_,rfl,fun q=>(by cases q),fun _=>?_⟩,(But.of Q).trans (But.of mD.drew)⟩;unfold step1;simp [GE.out]
theorem aaA (a:Option Addr) (b o n c:Nat) (ts:List kJ) (B sb rb:Nat) (f:Int) (R:List ByteArray) (k e d:Int) (x:ByteArray) (w:World) (h:lN w a b o n ts) (r:nM ts n)
  (j:CF w sb [I Y 0,I Y f,K (U ⟨rb,0,C⟩) n n]) (i:kW B w 1 rb 0 n n (R.map E)) (H:∀ s∈R,s.size≤8) (g:sb≠rb) (t:0≤f) (u:f≤100000) (z:vE k e d x.size) :
  Calls prog 43 #[aG (U ⟨sb,0,C⟩),aI #[K a n c],aI #[I Y k,I Y e,I Y d,E x]] w fun q p=>aa2 B sb rb n ts (f,R) (k,e,d,x) q p∧But sb rb w p:=by
 have l:=z;unfold vE at l;rcases l with ⟨rfl,_⟩ | ⟨rfl,_,_,v,_⟩
 ·exact ac9 a n c ts B sb rb f R e d x w j i g t u
 ·exact ac8 a b o n c ts B sb rb f R e d x w h r j i H g v
end Go.Proofs.YtfkkipgcfoegmaaGreat
