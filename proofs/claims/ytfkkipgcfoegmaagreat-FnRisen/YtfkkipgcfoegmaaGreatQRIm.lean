
import Derived.Test.YtfkkipgcfoegmaaGreatQRGo2
import Derived.RangeFuncNested
import Derived.RangeFuncBound
import Derived.RangeFuncCalls
import Derived.RangeFuncLeaves
import Derived.Shelf.Abstract
import Derived.Shelf.RegionOpen
import Derived.OwnWalkIn
import Derived.TacticsInMore
import Derived.LoopNIn
import Derived.LoopIn
set_option maxHeartbeats 4000000
set_option maxRecDepth 100000
namespace Go.Proofs.YtfkkipgcfoegmaaGreat
open Go.Proofs.Tryz
open Go.Value renaming slice→K,string→E,bool→aF,pointer→aG,agg→aI
open Option renaming none→C,some→U
open Go.Obj renaming cells→aH
open Go.Ending renaming returned→aO
open Go.Value renaming int→I
open Go.IntKind renaming i64→Y
open Go.RowKit Go.Shelf
variable {L1 L2:List ByteArray} {W W' w:World} {a:Option Addr} {j n rb sb:Nat} {s:ByteArray} {v:Value}
section
attribute [local go_sem] Oper.semAt_some
noncomputable def Le (s:ByteArray):Value:=match Gn s with
 | some (k,e,d,x)=>aI #[I Y k,I Y e,I Y d,E x]
 | none=>aI EX
noncomputable def O6 (s:ByteArray):Bool:=(Gn s).isSome
noncomputable def eV (s:ByteArray):Array Value:=#[Le s,aF (O6 s)]
theorem Qi.ev {a:Ending} (h:Qi a s):a=aO (.tuple #[Le s,aF (O6 s)]):=by
 rcases h with ⟨rfl,f⟩ | ⟨k,e,d,x,rfl,c⟩
 ·simp [Le,O6,NU f]
 ·simp [Le,O6,JR c]
def EW (sb rb:Nat) (W W':World):Prop:=W.heap.size≤W'.heap.size∧∀ (k:Nat) (o:Obj),W.heap[k]?=U o→o.isCells=true→k≠sb→k≠rb→W'.heap[k]?=U o
theorem EW.trans {a B C:World} (h:EW sb rb a B) (k:EW sb rb B C):EW sb rb a C:=⟨lH h.1 k.1,fun i o hi e c d=>k.2 i o (h.2 i o hi e c d) e c d⟩
theorem EW.of (h:But sb rb W W'):EW sb rb W W':=⟨h.size,fun i _ hi _ a c=>(h.block i (Array.getElem?_eq_some_iff.1 hi).1 a c).trans hi⟩
theorem EW.put (W:World) (l:Nat) (o a:Obj) (h:W.heap[l]?=U o) (d:o.isCells=false):EW sb rb W (W.putObj l a) :=
 ⟨(grownBy_putObj' W l a).size,fun i f hi c _ _=>((grownBy_putObj' W l a).block i (Array.getElem?_eq_some_iff.1 hi).1 (fun e=>by cases e;rw [h] at hi;cases hi;rw [d] at c;cases c)).trans hi⟩
theorem EW.cell (h:EW sb rb W W') {p:Addr} (c:W.cell? p=U v) (d:p.block≠sb) (e:p.block≠rb):W'.cell? p=U v:=by
 obtain ⟨o,a,f⟩:=cells_of_cell c;exact (mV (w:=W) ((h.2 _ o a f d e).trans a.symm)).trans c
theorem kS.kp {b o:Nat} {e:List ByteArray} (h:kS W a b o n e) (d:EW sb rb W W') (c:0<n→b≠sb∧b≠rb):kS W' a b o n e :=
 ⟨h.ad,h.len,h.max,fun g=>lu (h.lt g) d.1,fun j f=>d.cell (h.cell j f) (c A).1 (c A).2,h.sz⟩
structure Nh (q:Nat) (a1 a2:Option Addr) (b1 o1 n1 c1 b2 o2 n2 c2:Nat) (L1 L2:List ByteArray) (w:World):Prop where
 k0:w.cell? ⟨q,0,C⟩=U (K a1 n1 c1)
 k1:w.cell? ⟨q,1,C⟩=U (K a2 n2 c2)
 s1:kS w a1 b1 o1 n1 L1
 s2:kS w a2 b2 o2 n2 L2
section
variable {q:Nat} {a1 a2:Option Addr} {b1 o1 n1 c1 b2 o2 n2 c2:Nat} {L1 L2:List ByteArray} {w w':World}
theorem Nh.below (h:Nh q a1 a2 b1 o1 n1 c1 b2 o2 n2 c2 L1 L2 w) (a:Below w.heap.size w w'):Nh q a1 a2 b1 o1 n1 c1 b2 o2 n2 c2 L1 L2 w' :=
 ⟨kV a h.k0,kV a h.k1,h.s1.below' a,h.s2.below' a⟩
theorem Nh.kp (h:Nh q a1 a2 b1 o1 n1 c1 b2 o2 n2 c2 L1 L2 w) (a:EW sb rb w w') (c:q≠sb) (d:q≠rb) (e:0<n1→b1≠sb∧b1≠rb) (f:0<n2→b2≠sb∧b2≠rb):Nh q a1 a2 b1 o1 n1 c1 b2 o2 n2 c2 L1 L2 w' :=
 ⟨a.cell h.k0 c d,a.cell h.k1 c d,h.s1.kp a e,h.s2.kp a f⟩
end
theorem ad8 (c:s=L1.getD j ByteArray.empty) (a:j<L1.length):L1.take j ++ [s] <+: L1 ++ L2:=by
 rw [c,← pG a];exact (List.take_prefix _ _).trans (List.prefix_append _ _)
theorem ad7 (c:s=L2.getD j ByteArray.empty) (a:j<L2.length):L1 ++ L2.take j ++ [s] <+: L1 ++ L2:=by
 rw [c,Dk,← pG a];exact (List.prefix_append_right_inj L1).2 (List.take_prefix _ _)
theorem aaJ (n:Nat) (hn:1≤n) (l M sb rb:Nat) (a1 a2:Option Addr) (b1 o1 n1 c1 b2 o2 n2 c2:Nat) (L1 L2:List ByteArray) (J Jx:List ByteArray→World→Prop) (W:World) (T:AbidesFrom W.heap.size J)
  (hY:∀ pre x Q,J pre Q→pre.length<(L1 ++ L2).length→YieldAt Fence.wide (n - 1) prog l (eV x) Q fun e W'=>(e=aO (aF true)∧J (pre ++ [x]) W'∧EW sb rb Q W')∨(e=aO (aF false)∧Jx (pre ++ [x]) W'))
  (av:W.cell? ⟨M,0,C⟩=U (K a1 n1 c1)) (aw:W.cell? ⟨M,1,C⟩=U (K a2 n2 c2)) (H:kS W a1 b1 o1 n1 L1) (L:kS W a2 b2 o2 n2 L2)
  (ak:0<n1→b1≠sb∧b1≠rb) (al:0<n2→b2≠sb∧b2≠rb) (bc:sb<W.heap.size) (bb:rb<W.heap.size) (h0:J [] W) :
  CallsIn Fence.wide n prog 68 #[.func (.yield l) #[] #[],aG (U ⟨M,0,C⟩)] W fun e W'=>(∃ v,e=aO v)∧((∃ xs,xs=L1 ++ L2∧J xs W')∨(∃ pre,pre <+: L1 ++ L2∧Jx pre W')):=by
 obtain ⟨V, h⟩ := kC (W.alloc (aH #[K a1 n1 c1,K a2 n2 c2] 23));have ae:Below W.heap.size W V:=by rw [h];exact kQ
 have af:MC V W.heap.size [K a1 n1 c1,K a2 n2 c2]:=by rw [h];exact MC.made W _ _
 have ah:Nh W.heap.size a1 a2 b1 o1 n1 c1 b2 o2 n2 c2 L1 L2 V:=⟨af 0 D,af 1 D,H.below' ae,L.below' ae⟩
 have ai:J [] V:=by rw [h];exact T [] W _ C h0 (Ol W _ C) (fun r u=>by cases u)
 have an:W.heap.size≠sb:=A;have aq:W.heap.size≠rb:=A;have a6:=H.max;have a7:=L.max;unfold maxLen at a6 a7;have o:=hid H.len;have p:=hid L.len;clear af h0;refine callsIn_of_wp func68 rfl trivial ?_ rfl;simp only [ntmps68,Si,pX,qJ,Nat.reduceAdd,Nat.reduceSub,Array.replicate_succ,Array.replicate_zero,List.push_toArray,List.append_toArray,oG,Eo];gi_wp2
 rw [← h];have au:W.heap.size<V.heap.size:=by rw [h];simp
 clear h av aw H L ae;gi_loopw [13] (fun i wr=>((i=I Y 0∧J [] wr)∨(i=I Y 1∧J L1 wr)∨(i=I Y 2∧J (L1 ++ L2) wr))∧Nh W.heap.size a1 a2 b1 o1 n1 c1 b2 o2 n2 c2 L1 L2 wr∧W.heap.size<wr.heap.size) (fun i _=>2 - (intOf i).toNat)
 case atStart=>exact ⟨.inl ⟨rfl,ai⟩,ah,au⟩
 case round =>
  clear ah ai au;obtain ⟨ax,a,k⟩:=hrel;rcases ax with ⟨rfl,c⟩ | ⟨rfl,c⟩ | ⟨rfl,c⟩
  ·have k0:=a.k0
   gi_wp2
   gi_loopw [19] (fun i wr=>∃ j:Nat,j≤n1∧i=I Y j∧Nh W.heap.size a1 a2 b1 o1 n1 c1 b2 o2 n2 c2 L1 L2 wr∧J (L1.take j) wr∧W.heap.size<wr.heap.size) (fun i _=>n1 - (intOf i).toNat)
   case atStart=>exact ⟨0,lG _,rfl,a,fZ,k⟩
   case round =>
    obtain ⟨j,hj,rfl,a,c,k⟩:=hrel;by_cases f:j<n1
    ·obtain rfl:=a.s1.ad A
     have hc:=a.s1.cell j f;obtain ⟨s, g⟩ := kC (L1.getD j ByteArray.empty);rw [← g] at hc;have q:=hid g;clear g;have ay:(j:Int)<(n1:Int):=A;have N:=hid a;have P:=hid c;clear a c;gi_wp2_with (refine ⟨trivial,?_⟩;gi_at_call 69;refine (callsIn_wide.2 (Ky s)).mono ?_;rintro e' z ⟨ag,d⟩;obtain rfl:=ag.ev;have R:=(N.out).below d;have X:J (L1.take j) z:=T _ _ _ C (P.out) (grownBy_below d) (fun r u=>by cases u);obtain ⟨fn,tmps,assign,body,hy,hR⟩:=hY _ s z X (by simp [List.length_take,o.out,p.out];omega);dsimp only [eV] at hy;have a8:=d.size)
     refine hR.mono ?_;rintro e W3 (⟨rfl,aa,t⟩ | ⟨rfl,ab⟩)
     ·have S:=R.kp t an aq ak al
      have ba:=t.1;gi_wp2
      go_roundw
      case rel=>exact ⟨j+1,A,aW,S,by rw [pG (by rw [o.out];exact f),← q.out];exact aa,A⟩
      case measure=>simp [intOf];omega
     ·gi_wp2
      refine bodyPost_ret (results_none rfl _ _ _) rfl ?_;exact ⟨⟨_,rfl⟩,.inr ⟨_,ad8 q.out (by rw [o.out];exact f),ab⟩⟩
    ·obtain rfl:j=n1:=by omega
     rw [pF (by rw [o.out];omega)] at c;gi_wp2
     go_roundw
     case rel=>exact ⟨.inr (.inl ⟨rfl,c⟩),a,k⟩
     case measure=>simp [intOf]
  ·have k1:=a.k1
   gi_wp2
   gi_loopw [19] (fun i wr=>∃ j:Nat,j≤n2∧i=I Y j∧Nh W.heap.size a1 a2 b1 o1 n1 c1 b2 o2 n2 c2 L1 L2 wr∧J (L1 ++ L2.take j) wr∧W.heap.size<wr.heap.size) (fun i _=>n2 - (intOf i).toNat)
   case atStart=>exact ⟨0,lG _,rfl,a,fZ,k⟩
   case round =>
    obtain ⟨j,hj,rfl,a,c,k⟩:=hrel;by_cases f:j<n2
    ·obtain rfl:=a.s2.ad A
     have hc:=a.s2.cell j f;obtain ⟨s, g⟩ := kC (L2.getD j ByteArray.empty);rw [← g] at hc;have q:=hid g;clear g;have ay:(j:Int)<(n2:Int):=A;have N:=hid a;have P:=hid c;clear a c;gi_wp2_with (refine ⟨trivial,?_⟩;gi_at_call 69;refine (callsIn_wide.2 (Ky s)).mono ?_;rintro e' z ⟨ag,d⟩;obtain rfl:=ag.ev;have R:=(N.out).below d;have X:J (L1 ++ L2.take j) z:=T _ _ _ C (P.out) (grownBy_below d) (fun r u=>by cases u);obtain ⟨fn,tmps,assign,body,hy,hR⟩:=hY _ s z X (by simp [List.length_take,o.out,p.out];omega);dsimp only [eV] at hy;have a8:=d.size)
     refine hR.mono ?_;rintro e W3 (⟨rfl,aa,t⟩ | ⟨rfl,ab⟩)
     ·have S:=R.kp t an aq ak al
      have ba:=t.1;gi_wp2
      go_roundw
      case rel=>exact ⟨j+1,A,aW,S,by rw [pG (by rw [p.out];exact f),← q.out,← Dk];exact aa,A⟩
      case measure=>simp [intOf];omega
     ·gi_wp2
      refine bodyPost_ret (results_none rfl _ _ _) rfl ?_;exact ⟨⟨_,rfl⟩,.inr ⟨_,ad7 q.out (by rw [p.out];exact f),ab⟩⟩
    ·obtain rfl:j=n2:=by omega
     rw [pF (by rw [p.out];omega)] at c;gi_wp2
     go_roundw
     case rel=>exact ⟨.inr (.inr ⟨rfl,c⟩),a,k⟩
     case measure=>simp [intOf]
  ·gi_wp2
   go_end0
   exact ⟨⟨_,rfl⟩,.inl ⟨_,rfl,c⟩⟩
end
attribute [local go_sem] Oper.semAt_some
theorem Tryz.sizeStory:(prog.info? 41).map (·.size)=U 3:=Z
theorem Fg {k e:Int} {c:Nat}:∀ v∈[I Y k,I Y e,K a n c],v.oneCell'=true:=by
 intro v d;simp only [mG,mF,or_false] at d;rcases d with rfl | rfl | rfl <;> rfl
theorem Own.ab3 {B:Nat} {size:Nat} {xs:List Value} (h:Own B w size v n xs) {P:Nat} (c:P<B):v.ownBlock=C∨v.ownBlock≠U P:=by
 rcases h with ⟨rfl,_⟩ | ⟨g,o,cap,rfl,a⟩
 ·exact .inl rfl
 ·exact .inr (by have:=a.lo;simp [Value.ownBlock];omega)
theorem size_any (a1 a2:Option Addr) (n1 c1 n2 c2:Nat) (a:n1≤1048576) (c:n2≤1048576) :
  Calls prog 31 #[aI #[K a1 n1 c1,K a2 n2 c2]] w fun e w'=>e=aO (I Y ((n1+n2:Nat):Int))∧Below w.heap.size w w':=by
 go_enter func31,ntmps31
 go_wp2;go_ret;exact ⟨MG A,kQ⟩
theorem VD (a1 a2:Option Addr) (n1 c1 n2 c2:Nat) :
  Calls prog 42 #[aI #[K a1 n1 c1,K a2 n2 c2]] w fun e w'=>e=aO (.func (.func 68) #[] #[aG (U ⟨w.heap.size,0,C⟩)])∧w'=w.alloc (aH #[K a1 n1 c1,K a2 n2 c2] 25):=by
 go_enter func42,ntmps42
 go_wp2;go_ret;exact ⟨rfl,rfl⟩
theorem Oz {d:Fence} {m:Nat} {P:Program} {ops:Array Oper} {rest:List Oper} {o:Oper} {a:Act} {Q:Exit→Act→World→Prop} 
  (X:o.guard=none) {l c:Operand} (t:TypeId) (f:o.op=Op.makeSlice t l c)
  (B:Nat) (e:TypeId) (i:TypeInfo) (z:Value) (size bytes:Nat) (r:P.underlying t=U (.slice e)) (s:P.info? e=U i) (u:i.zero=U z) (v:i.size=size) (H:i.bytes=bytes)
  (p k:IntKind) (L C:Int) (n:Nat) (hl:a.eval l=.int p L) (V:a.eval c=.int k C) (R:L=(n:Int)) (J:C=(n:Int)) (b2:bytes*n≤281474976710656) (g:n≤maxLen) (q:B≤w.heap.size)
  (M:∀ w',kW B w' size w.heap.size 0 n n (madeCells z.cells (n*size)).toList→w.grownBy w' none→w'.heap.size=w.heap.size+1→wpListIn d m P ops Q rest (a.put o.dst (K (U ⟨w.heap.size,0,none⟩) n n)) w') :
  wpListIn d m P ops Q (o :: rest) a w:=by
 subst v;subst H;subst R;subst J;refine wpListIn_plain X fun aa N=>?_;have T:(n:Int)≤9223372036854775807:=by have:=g;simp only [maxLen] at this;omega
 have S:(i.bytes:Int)*(n:Int)≤281474976710656:=by
  have h:((i.bytes*n:Nat):Int)≤281474976710656:=A;rwa [Xb] at h
 have j:=run_make (P:=P) w t e i z r s u p k n n A (RX _) S T;simp only [IE] at j;unfold Oper.wpIn;refine ⟨?_,?_⟩
 ·simp [Oper.about,f]
 ·rw [Oper.semAt_plain d _ _ (by rw [f];intro c W;cases W)]
  simp [execOp,f,hl,V,j,Result.andThen];refine N _ _ (M _ (kW.made w B e i.size n n _ _ q kL g (size_madeCells _ _) kL _ ?_ (0,0) (.inl rfl)) (Ol w _ none) D);rw [pF (by simp [size_madeCells])]
theorem Y9 (s:ByteArray):∃ (k e d:Int) (x:ByteArray),Le s=aI #[I Y k,I Y e,I Y d,E x]:=by
 unfold Le;cases Gn s with
 | none=>exact ⟨_,_,_,_,rfl⟩
 | some q=>obtain ⟨k,e,d,x⟩:=q;exact ⟨_,_,_,_,rfl⟩
theorem EK {ts:List kJ} (h:Code ts 0):nM ts ts.length:=by
 rcases h with ⟨h,_⟩ | ⟨_,h⟩
 ·cases h
 rcases h with ⟨h,_⟩ | ⟨_,h⟩
 ·cases h
 rcases h with ⟨h,_⟩ | ⟨_,h⟩
 ·cases h
 rcases h with ⟨h,_⟩ | ⟨h,_⟩
 ·cases h
 ·exact h
theorem IU (a:Option Addr) (b o n c:Nat) (ts:List kJ) (a1 a2:Option Addr) (b1 o1 n1 c1 b2 o2 n2 c2:Nat) (L1 L2:List ByteArray) (h:lN w a b o n ts) (h1:kS w a1 b1 o1 n1 L1) (h2:kS w a2 b2 o2 n2 L2)
  (ck:n1≤1048576) (cl:n2≤1048576) :
  Calls prog 23 #[aI #[K a n c],aI #[K a1 n1 c1,K a2 n2 c2]] w fun e w'=>Qh e w w' ts (L1 ++ L2)∧Below w.heap.size w w':=by
 obtain ⟨W, hW⟩ := kC (((w.alloc (aH #[K a n c] 33)).alloc (aH #[K a1 n1 c1,K a2 n2 c2] 25)).alloc (aH rP 41));have bd:Below w.heap.size w W:=jS;refine (callsIn_wide (n:=12)).1 ?_;refine callsIn_of_wp_marks func23 rfl trivial ?_ rfl;simp only [ntmps23,Si,pX,qJ,Nat.reduceAdd,Nat.reduceSub,Array.replicate_succ,Array.replicate_zero,List.push_toArray,List.append_toArray,oG,Eo];gi_wp2_with fail
 rw [← hW];refine ⟨trivial,?_⟩;refine (callsIn_wide.2 (ML a b o n c ts (h.below' bd))).mono ?_;rintro e w1 ⟨⟨cc,rfl,ah⟩,af⟩;have db:W.heap.size=w.heap.size+3:=dF;have hq:CF W w.heap.size [K a n c]∧CF W (w.heap.size+1) [K a1 n1 c1,K a2 n2 c2]∧CF W (w.heap.size+2) oD:=by
  have x1:=CF.made w #[K a n c] 33;have x2:=CF.made (w.alloc (aH #[K a n c] 33)) #[K a1 n1 c1,K a2 n2 c2] 25;have x3:=CF.made ((w.alloc (aH #[K a n c] 33)).alloc (aH #[K a1 n1 c1,K a2 n2 c2] 25)) rP 41;simp only [mJ] at x2 x3;rw [hW];exact ⟨(x1.block (kU _ _ _ D)).block (kU _ _ _ aQ),x2.block (kU _ _ _ D),x3⟩
 have M:CF w1 w.heap.size [K a n c]∧CF w1 (w.heap.size+1) [K a1 n1 c1,K a2 n2 c2]∧CF w1 (w.heap.size+2) oD :=
  ⟨hq.1.block (af.block _ A),hq.2.1.block (af.block _ A),hq.2.2.block (af.block _ A)⟩
 have ae:=bd.trans (af.mono A);have a6:w.heap.size+3≤w1.heap.size:=by have:=af.size;omega
 clear hW hq af bd;by_cases bf:cc=0
 ·subst bf
  obtain ⟨k0,k1⟩:=Ph M.2.1;gi_wp2_with fail
  refine ⟨trivial,?_⟩;refine (callsIn_wide.2 (size_any a1 a2 n1 c1 n2 c2 ck cl)).mono ?_;rintro e f ⟨rfl,ag⟩;have r:CF f w.heap.size [K a n c]∧CF f (w.heap.size+1) [K a1 n1 c1,K a2 n2 c2]∧CF f (w.heap.size+2) oD :=
   ⟨M.1.block (ag.block _ A),M.2.1.block (ag.block _ A),M.2.2.block (ag.block _ A)⟩
  have ba:=ae.trans (ag.mono A);have c9:w.heap.size+3≤f.heap.size:=by have:=ag.size;omega
  clear M ae ag k0 k1 a6;by_cases cz:310<n1+n2
  ·have cb:(310:Int)<((n1+n2:Nat):Int):=by omega
   obtain ⟨z0,z1,z2⟩:=cf3 r.2.2;have y0:=(r.2.2 0 D).2;have y1:=(r.2.2 1 D).2;have y2:=(r.2.2 2 D).2;gi_wp2
   refine ⟨aI Rx,by simp [results,results23,go_sem,z0,z1,z2],⟨1,0,[],_,rfl,.inl ⟨fun i=>?_,rfl,rfl,rfl⟩,Own.nil _ _ _⟩,((ba.setCell (p:=⟨w.heap.size+1+1,0,C⟩) aT _).setCell (p:=⟨w.heap.size+1+1,1,C⟩) aT _).setCell (p:=⟨w.heap.size+1+1,2,C⟩) aT _⟩;have:=i.2;rw [lD,h1.len,h2.len] at this;omega
  ·obtain ⟨i0,ch,ct,cu,cv⟩:=info_parts Tryz.info9
   have c7:1≤n∧n≤40:=by
    have:=h.len;rcases ah with ⟨i,_⟩ | ⟨i,_⟩
    ·cases i
    ·omega
   have cb:¬ ((310:Int)<((n1+n2:Nat):Int)):=A;have z0:f.cell? ⟨w.heap.size,0,C⟩=U (K a n c):=(r.1 0 D).1;gi_wp2_with (refine Oz rfl 23 rfl f.heap.size 9 i0 (E ⟨#[]⟩) 1 16 underlying23 ch ct cu cv .i64 .i64 n n n rfl rfl rfl rfl A G kL ?_;intro H bl ab a7;have b7:H.cell? ⟨w.heap.size+1,0,C⟩=U (K a1 n1 c1):=(mV (w:=f) (ab.block _ (by show w.heap.size+1<_;omega) D)).trans (r.2.1 0 D).1;have b8:H.cell? ⟨w.heap.size+1,1,C⟩=U (K a2 n2 c2):=(mV (w:=f) (ab.block _ (by show w.heap.size+1<_;omega) D)).trans (r.2.1 1 D).1;have bj:w.heap.size+1<H.heap.size:=(by omega);have cw:(H.alloc (aH #[I Y 0,I Y 0,K (U ⟨f.heap.size,0,C⟩) n n] 41)).cell? ⟨w.heap.size+1,0,C⟩=U (K a1 n1 c1):=(Jr H _ ⟨w.heap.size+1,0,C⟩ bj).trans b7;have cx:(H.alloc (aH #[I Y 0,I Y 0,K (U ⟨f.heap.size,0,C⟩) n n] 41)).cell? ⟨w.heap.size+1,1,C⟩=U (K a2 n2 c2):=(Jr H _ ⟨w.heap.size+1,1,C⟩ bj).trans b8)
   refine ⟨trivial,?_⟩;refine (callsIn_wide.2 (VD a1 a2 n1 c1 n2 c2)).mono ?_;rintro e u ⟨rfl,Q⟩;rw [mJ,a7];have bz:(madeCells (E ⟨#[]⟩).cells (n*1)).toList=(List.replicate n (⟨#[]⟩:ByteArray)).map E:=by rw [aat rfl,List.map_replicate]
   rw [bz] at bl;have da:u.heap.size=f.heap.size+3:=by rw [Q,mJ,mJ,a7]
   have bh:∀ k,k<H.heap.size→u.heap[k]?=H.heap[k]?:=fun k hk=>by rw [Q];exact (kU _ _ _ aQ).trans (kU _ _ _ hk)
   have aw:∀ k,k<f.heap.size→u.heap[k]?=f.heap[k]?:=fun k hk=>(bh k A).trans (ab.block k hk D);have cn:kW f.heap.size u 1 f.heap.size 0 n n ((st0 n).2.map E):=bl.block (bh _ A);have cq:CF u (f.heap.size+1) [I Y 0,I Y (st0 n).1,K (U ⟨f.heap.size,0,C⟩) n n]:=by
    have x1:=CF.made H #[I Y 0,I Y 0,K (U ⟨f.heap.size,0,C⟩) n n] 41;rw [a7] at x1;rw [Q];exact x1.block (kU _ _ _ aQ)
   have bs:CF u (f.heap.size+1+1) [K a1 n1 c1,K a2 n2 c2]:=by
    have x1:=CF.made (H.alloc (aH #[I Y 0,I Y 0,K (U ⟨f.heap.size,0,C⟩) n n] 41)) #[K a1 n1 c1,K a2 n2 c2] 25;rw [mJ,a7] at x1;rw [Q];exact x1
   have bb:Below w.heap.size w u:=ba.trans ⟨by rw [Q];exact ab.os,by rw [Q];exact ab.tape,by rw [Q];exact ab.output,A,fun k hk=>aw k A⟩;have b3:CF u w.heap.size [K a n c]∧CF u (w.heap.size+1+1) oD:=⟨r.1.block (aw _ A),r.2.2.block (aw _ A)⟩
   have b4:SeqStopsK Fence.wide (12 - 1) prog 68 #[aG (U ⟨f.heap.size+1+1,0,C⟩)] eV (EW (f.heap.size+1) f.heap.size) (fun xs=>xs=L1 ++ L2) (fun pre=>pre <+: L1 ++ L2) (L1 ++ L2).length u:=fun l J Jx V hV hJ _ hY h0 =>
    aaJ (12 - 1) A l (f.heap.size+1+1) (f.heap.size+1) f.heap.size a1 a2 b1 o1 n1 c1 b2 o2 n2 c2 L1 L2 J Jx V hJ hY (kV hV (bs 0 D).1) (kV hV (bs 1 D).1) ((h1.below' bb).below' hV) ((h2.below' bb).below' hV)
     (fun hn=>by have:=h1.lt hn;omega) (fun hn=>by have:=h2.lt hn;omega) (by have:=hV.size;omega) (by have:=hV.size;omega) h0
   have bw:(L1 ++ L2).length≤310:=by rw [lD,h1.len,h2.len];omega
   have hA:=EK ah;have HC:Hid (Code ts 0):=ah;have bk:ts.length=n:=h.len;clear Q bh aw ab bl b7 b8 cw cx bj r bz z0 ah;have b9:=hid b4;clear b4;gi_wp2
   refine wpIn_rangeFunc_ownH rfl A (gf:=68) (lb:=#[aG (U ⟨f.heap.size+1+1,0,C⟩)]) rfl trivial (enters_of func68 Z rfl)
    b9.out (fun h k=>EW.trans h k) (fun V l o o' _ hl hc _=>EW.put V l o o' hl hc) mD (fun _=>rfl)
    (fun pre V=>(∃ g R,rep ts pre (st0 n)=U (g,R)∧CF V (f.heap.size+1) [I Y 0,I Y g,K (U ⟨f.heap.size,0,C⟩) n n]∧kW f.heap.size V 1 f.heap.size 0 n n (R.map E)∧CF V w.heap.size [K a n c]∧CF V (w.heap.size+1+1) oD∧f.heap.size+3≤V.heap.size)∧Below w.heap.size w V)
    (fun c pre V=>(c=.ret∧rep ts pre (st0 n)=C∧CF V (w.heap.size+1+1) Jp∧f.heap.size+3≤V.heap.size)∧Below w.heap.size w V)
    ?hI ?hIx ⟨⟨_,_,rfl,cq,cn,b3.1,b3.2,A⟩,bb⟩
    (fun x a' V=>∃ (k e d:Int) (s:ByteArray) (Bx:Nat),Le x=aI #[I Y k,I Y e,I Y d,E s]∧f.heap.size+3≤Bx∧CF V Bx [I Y k,I Y e,I Y d,E s]∧a'={ tmps:=#[aI #[K a n c],aI #[K a1 n1 c1,K a2 n2 c2],aG (U ⟨w.heap.size,0,C⟩),aG (U ⟨w.heap.size+1,0,C⟩),aG (U ⟨w.heap.size+1+1,0,C⟩),aG (U ⟨f.heap.size+1,0,C⟩),aG (U ⟨Bx,0,C⟩),aF (O6 x),aI #[K a n c],I Y 0,aF false,aF false,aI #[K a1 n1 c1,K a2 n2 c2],I Y (↑n1 + ↑n2),aF (decide ((310:Int) < ↑n1 + ↑n2)),aF (decide ((310:Int) < ↑n1 + ↑n2)),undef,aG (U ⟨w.heap.size,0,C⟩),K a n c,I Y n,K (U ⟨f.heap.size,0,C⟩) n n,aI #[I Y 0,I Y 0,K (U ⟨f.heap.size,0,C⟩) n n],aI #[K a1 n1 c1,K a2 n2 c2],.func (.func 68) #[] #[aG (U ⟨f.heap.size+1+1,0,C⟩)],aI #[I Y k,I Y e,I Y d,E s],aF (O6 x),undef,undef,undef,undef,undef,undef,undef,undef,undef,undef],defers:=[] })
    ?hAx ?assign ?body ?done ?stop
   case hI =>
    refine OwnFrom.and ?_ (ownFrom_below kL A);rintro s X bn row ⟨g,R,g1,g2,g3,g4,g5,g6⟩ L hr;have ai:∀ k,k<u.heap.size→U k≠row:=fun k hk e=>by have:=(hr k e.symm).1;omega
    exact ⟨g,R,g1,g2.block (L.block _ A (ai _ A)),g3.block (L.block _ A (ai _ A)),g4.block (L.block _ A (ai _ A)),g5.block (L.block _ A (ai _ A)),lH g6 L.size⟩
   case hIx =>
    intro c;refine OwnFrom.and ?_ (ownFrom_below kL A);rintro s X bn row ⟨g1,g2,g3,g6⟩ L hr;have ai:∀ k,k<u.heap.size→U k≠row:=fun k hk e=>by have:=(hr k e.symm).1;omega
    exact ⟨g1,g2,g3.block (L.block _ A (ai _ A)),lH g6 L.size⟩
   case hAx =>
    rintro x a' _ X bn row ⟨k,e,d,s,Bx,g1,g2,g3,g4⟩ L hr;obtain ⟨o,ho,hc⟩:=cells_of_cell (g3 0 D).1;exact ⟨k,e,d,s,Bx,g1,g2,g3.block (L.block _ (Array.getElem?_eq_some_iff.1 ho).1 (fun e=>by obtain ⟨_,o',b0,bu⟩:=hr _ e.symm;rw [ho] at b0;cases b0;rw [hc] at bu;cases bu)),g4⟩
   case assign =>
    rintro l pre x V cy ⟨⟨g,R,g1,g2,g3,g4,g5,g6⟩,v⟩ hK;obtain ⟨k,e,d,s,z⟩:=Y9 x;simp only [eV,z];gi_wp2
    exact hK _ _ ((KeepsOthers.alloc _ _).from _) (EW.of (But.of kQ))
     ⟨⟨g,R,g1,g2.block (kU _ _ _ A),g3.block (kU _ _ _ A),g4.block (kU _ _ _ A),g5.block (kU _ _ _ A),aQ⟩,v.alloc v.size _⟩
     ⟨k,e,d,s,V.heap.size,z,g6,CF.made V #[I Y k,I Y e,I Y d,E s] 66,rfl⟩
   case body =>
    rintro l pre x a' V hl _ ⟨⟨g,R,g1,g2,g3,g4,g5,g6⟩,v⟩ ⟨k,e,d,s,Bx,z,c4,gx,rfl⟩ c8;have ay:=(Ez pre (Ey n) g1)
    have b6:∀ s∈R,s.size≤8:=ay.2.2.2;have cd:0≤g:=ay.1;have cf:g≤100000:=by have:=ay.2.1;dsimp only at this;omega
    have aq:=hid g1;clear g1 ay;cases an:O6 x with
    | false =>
     have HN:=hid (show rep ts (pre ++ [x]) (st0 n)=C by
      have:Gn x=C:=by unfold O6 at an;simpa using an
      rw [Fe,aq.out];simp [qB,this])
     have z0:V.cell? ⟨w.heap.size+1+1,0,C⟩=U (I Y 0):=(g5 0 D).1;have y0:=(g5 0 D).2;have z1:V.cell? ⟨w.heap.size+1+1,1,C⟩=U (I Y 0):=(g5 1 D).1;have y1:=(g5 1 D).2;have z2:V.cell? ⟨w.heap.size+1+1,2,C⟩=U (K C 0 0):=(g5 2 D).1;have y2:=(g5 2 D).2;gi_wp2
     refine ⟨trivial,?_⟩;gi_wp2
     have hS:=((g5.set (j:=0) D (I Y 2)).set (j:=1) D (I Y 0)).set (j:=2) D (K C 0 0);exact ⟨(((KeepsOthers.setCell _ _ _).trans (KeepsOthers.setCell _ _ _)).trans (KeepsOthers.setCell _ _ _)).from _,⟨rfl,HN.out,hS,gX⟩,
      ((v.setCell (p:=⟨w.heap.size+1+1,0,C⟩) aT _).setCell (p:=⟨w.heap.size+1+1,1,C⟩) aT _).setCell (p:=⟨w.heap.size+1+1,2,C⟩) aT _⟩
    | true =>
     have bg:Gn x=U (k,e,d,s):=by
      unfold O6 at an;unfold Le at z;cases hq:Gn x with
      | none=>rw [hq] at an;cases an
      | some q =>
       obtain ⟨k',e',d',s'⟩:=q;rw [hq] at z;simp only [aI.injEq] at z;injection z with z;simp only [Oc,Value.int.injEq,E.injEq,and_true,true_and] at z;obtain ⟨rfl,rfl,rfl,rfl⟩:=z;rfl
     have b5:=(NV bg).1;have au:=hid (show rep ts (pre ++ [x]) (st0 n)=step1 ts (g,R) (k,e,d,s) by
      rw [Fe,aq.out];simp [qB,bg])
     have p0:V.cell? ⟨w.heap.size,0,C⟩=U (K a n c):=(g4 0 D).1;obtain ⟨e0,e1,e2,e3⟩:=C9 gx;have bm:=hid (aaA a b o n c ts f.heap.size (f.heap.size+1) f.heap.size g R k e d s V (h.below' v) (bk ▸ hA) g2 g3 b6 A cd cf b5);clear bg b5 z b6;gi_wp2_with fail
     refine ⟨trivial,?_⟩;refine (CallsIn.inRound l (callsIn_wide.2 bm.out)).mono ?_;rintro e' S ⟨⟨r',rfl,hT,hF⟩,aa⟩;have dc:=aa.size;have bp:KeepsFrom u.heap.size V S:=⟨aa.size,fun q oq M r _=>(aa.block q (Array.getElem?_eq_some_iff.1 r).1 A A).trans r⟩
     have ae:Below w.heap.size w S:=But.below v aa A A v.size;have ca:CF S w.heap.size [K a n c]:=g4.block (aa.block _ A A A);have P:CF S (w.heap.size+1+1) oD:=g5.block (aa.block _ A A A);clear e0 e1 e2 e3 p0 bm;cases r' with
     | true =>
      obtain ⟨E',R',a6,ak,al⟩:=hT rfl;have a8:=hid (au.out.trans a6);clear hT hF a6 au;gi_wp2
      exact ⟨bp,EW.of aa,⟨E',R',a8.out,ak,al,ca,P,A⟩,ae⟩
     | false =>
      have a8:=hid (au.out.trans (hF rfl));clear hT hF au;have z0:S.cell? ⟨w.heap.size+1+1,0,C⟩=U (I Y 0):=(P 0 D).1;have y0:=(P 0 D).2;have z1:S.cell? ⟨w.heap.size+1+1,1,C⟩=U (I Y 0):=(P 1 D).1;have y1:=(P 1 D).2;have z2:S.cell? ⟨w.heap.size+1+1,2,C⟩=U (K C 0 0):=(P 2 D).1;have y2:=(P 2 D).2;gi_wp2
      have hS:=((P.set (j:=0) D (I Y 2)).set (j:=1) D (I Y 0)).set (j:=2) D (K C 0 0);exact ⟨bp.trans ((((KeepsOthers.setCell _ _ _).trans (KeepsOthers.setCell _ _ _)).trans (KeepsOthers.setCell _ _ _)).from _),⟨rfl,a8.out,hS,gX⟩,
       ((ae.setCell (p:=⟨w.heap.size+1+1,0,C⟩) aT _).setCell (p:=⟨w.heap.size+1+1,1,C⟩) aT _).setCell (p:=⟨w.heap.size+1+1,2,C⟩) aT _⟩
   case done =>
    rintro N xs V hD rfl ⟨⟨g,R,g1,g2,g3,g4,g5,g6⟩,v⟩ hK;have aq:=hid g1;have br:R.length=n:=(Ez _ (Ey n) g1).2.2.1;obtain ⟨s0,s1,s2⟩:=cf3 g2;have z0:V.cell? ⟨w.heap.size+1+1,0,C⟩=U (I Y 0):=(g5 0 D).1;have y0:=(g5 0 D).2;have z1:V.cell? ⟨w.heap.size+1+1,1,C⟩=U (I Y 0):=(g5 1 D).1;have y1:=(g5 1 D).2;have z2:V.cell? ⟨w.heap.size+1+1,2,C⟩=U (K C 0 0):=(g5 2 D).1;have y2:=(g5 2 D).2;clear g1;gi_wp2
    have hS:=((g5.set (j:=0) D (I Y 0)).set (j:=1) D (I Y g)).set (j:=2) D (K (U ⟨f.heap.size,0,C⟩) n n);have bq:=((g3.setOther (p:=⟨w.heap.size+1+1,0,C⟩) aT (I Y 0)).setOther (p:=⟨w.heap.size+1+1,1,C⟩) aT (I Y g)).setOther (p:=⟨w.heap.size+1+1,2,C⟩) aT (K (U ⟨f.heap.size,0,C⟩) n n);have bo:=((v.setCell (p:=⟨w.heap.size+1+1,0,C⟩) aT (I Y 0)).setCell (p:=⟨w.heap.size+1+1,1,C⟩) aT (I Y g)).setCell (p:=⟨w.heap.size+1+1,2,C⟩) aT (K (U ⟨f.heap.size,0,C⟩) n n);have bc:=(KeepsOthers.setCell _ ⟨w.heap.size+1+1,2,C⟩ (K (U ⟨f.heap.size,0,C⟩) n n)).same N _ ((KeepsOthers.setCell _ ⟨w.heap.size+1+1,1,C⟩ (I Y g)).same N _ ((KeepsOthers.setCell V ⟨w.heap.size+1+1,0,C⟩ (I Y 0)).same N _ hK rfl) rfl) rfl;obtain ⟨V3, av⟩ := kC (((V.setCell ⟨w.heap.size+1+1,0,C⟩ (I Y 0)).setCell ⟨w.heap.size+1+1,1,C⟩ (I Y g)).setCell ⟨w.heap.size+1+1,2,C⟩ (K (U ⟨f.heap.size,0,C⟩) n n));have c5:V3.heap.size=V.heap.size:=by rw [av];simp [World.setCell]
    rw [← av] at hS bq bo bc;rw [← av];clear av z0 z1 z2 y0 y1 y2 s0 s1 s2;refine ⟨D,.inl ⟨_,_,rfl,run_takeDeferred bc,?_⟩⟩;have ax:=grownBy_putObj' V3 N (.deferred C);have T:=hS.block (ax.block _ A (by intro i;injection i with i;omega));have cg:=bq.block (ax.block _ A (by intro i;injection i with i;omega));have c0:=(T 0 D).1;have ak:=(T 1 D).1;have al:=(T 2 D).1;refine ⟨aI #[I Y 0,I Y g,K (U ⟨f.heap.size,0,C⟩) n n],?_,⟨0,g,R,_,rfl,.inr ⟨⟨HC.out,bw⟩,.inr ⟨by rw [bk];exact aq.out,rfl⟩⟩,.inr ⟨f.heap.size,0,n,by rw [br],by rw [br];exact (cg.mono ba.size)⟩⟩,bo.trans (belowK_b (w:=w) kL V3 N _ _ A bc rfl rfl)⟩;simp [results,results23,go_sem,c0,ak,al]
   case stop =>
    rintro N c' pre V hD cp ⟨⟨rfl,cm,g3,g6⟩,v⟩ hK;gi_wp2
    refine ⟨D,.inl ⟨_,_,rfl,run_takeDeferred hK,?_⟩⟩;have ax:=grownBy_putObj' V N (.deferred C);have T:=g3.block (ax.block _ A (by intro i;injection i with i;omega));have c0:=(T 0 D).1;have ak:=(T 1 D).1;have al:=(T 2 D).1;refine ⟨aI Jo,?_,⟨2,0,[],_,rfl,.inr ⟨⟨HC.out,bw⟩,.inl ⟨?_,rfl,rfl,rfl⟩⟩,Own.nil _ _ _⟩,v.trans (belowK_b (w:=w) kL V N _ _ A hK rfl rfl)⟩
    ·simp [results,results23,go_sem,c0,ak,al]
    ·obtain ⟨t,ht⟩:=cp
     rw [← ht,bk];exact Ul cm
 ·have c6:(cc == 0)=false:=by simpa using bf
  have HN:Hid (¬ Code ts 0):=fun i=>bf (ah.one i);clear ah;obtain ⟨z0,z1,z2⟩:=cf3 M.2.2;have y0:=(M.2.2 0 D).2;have y1:=(M.2.2 1 D).2;have y2:=(M.2.2 2 D).2;gi_wp2
  refine ⟨trivial,?_⟩;gi_wp2
  exact ⟨aI Rx,by simp [results,results23,go_sem,z0,z1,z2],⟨1,0,[],_,rfl,.inl ⟨fun i=>HN.out i.1,rfl,rfl,rfl⟩,Own.nil _ _ _⟩,((ae.setCell (p:=⟨w.heap.size+1+1,0,C⟩) aT _).setCell (p:=⟨w.heap.size+1+1,1,C⟩) aT _).setCell (p:=⟨w.heap.size+1+1,2,C⟩) aT _⟩
theorem P9 (a:Option Addr) (b o n c:Nat) (ts:List kJ) (a1:Option Addr) (b1 o1 n1 c1:Nat) (L:List ByteArray) (h:lN w a b o n ts) (J:kS w a1 b1 o1 n1 L) (Q:n1≤1048576) :
  Calls prog 12 #[aI #[K a n c],K a1 n1 c1] w fun e w'=>Qh e w w' ts L∧Below w.heap.size w w':=by
 obtain ⟨W, d⟩ := kC ((w.alloc (aH #[K a n c] 33)).alloc (aH rP 41));have l:Below w.heap.size w W:=by rw [d];exact kQ.alloc D _
 have aa:W.heap.size=w.heap.size+2:=by rw [d];simp
 have f:CF W (w.heap.size+1) oD:=by
  have z:=CF.made (w.alloc (aH #[K a n c] 33)) rP 41;rw [mJ] at z;rw [d];exact z
 go_enter func12,ntmps12
 go_wp2_with fail
 rw [← d];refine (IU a b o n c ts a1 C b1 o1 n1 c1 0 0 0 0 L [] (h.below' l) (J.below' l) ⟨fun h=>absurd h A,rfl,lG _,fun h=>absurd h A,fun j P=>absurd P A,D⟩ Q A).mono ?_;rintro e V ⟨⟨i,g,R,v,rfl,r,p⟩,k⟩;rw [pz] at r;have H:=hid r;have S:=f.block (k.block _ A);have M:=l.trans (k.mono A);have X:w.heap.size+2≤V.heap.size:=by have:=k.size;omega
 obtain ⟨s,t,rfl⟩:=p.slc;clear r d f;go_wp2_with (refine jY rfl 41 (.tmp 4) (.tmp 8) rfl (w.heap.size+1) oD [I Y i,I Y g,K s R.length t] rfl rfl S rfl Tryz.sizeStory (Fg) ?_;intro ab N u)
 obtain ⟨k0,k1,T⟩:=cf3 N;exact bodyPost_ret (v:=aI #[I Y i,I Y g,K s R.length t]) (by simp [results,results12,go_sem,k0,k1,T]) rfl ⟨⟨i,g,R,_,rfl,H.out,(p.grown u (p.ab3 A)).mono' A⟩,M.grown u A (fun q f=>by simp at f;omega)⟩
end Go.Proofs.YtfkkipgcfoegmaaGreat
