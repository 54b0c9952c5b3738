import Derived.Test.YtfkkipgcfoegmaaGreatQA

import Derived.WalkKit
import Derived.Deep.AppendSrc
import Derived.Deep.Upon
import Derived.Test.YtfkkipgcfoegmaaGreatRows
import Derived.WalkSpells
import Derived.WalkLawsBesides
import Derived.Outline
import Derived.Deep.RegionHeld3
import Derived.Deep.QuietTactic
import Derived.BigQuiet
set_option maxHeartbeats 1000000
set_option maxRecDepth 100000
namespace Go.Proofs.YtfkkipgcfoegmaaGreat
open Go.Proofs.Tryz
open Go.Value renaming slice→K,string→E,bool→aF
open Option renaming none→C,some→U
open Go.Obj renaming cells→aH
open Go.Ending renaming returned→aO
open Go.Value renaming int→I
open Go.IntKind renaming i64→Y
open Go.RowKit
variable {B b cap g j n size:Nat} {P:Program} {W w w' w1:World} {a:Option Addr} {ops:Array Oper} {p:Addr} {rest:List Oper} {row:Option Nat} {ss:List ByteArray} {v:Value} {xs:List Value}
section
structure kW (B:Nat) (w:World) (size g o cap n:Nat) (xs:List Value):Prop where
 lo:B≤g
 hi:g<w.heap.size
 le:n≤cap
 max:cap≤maxLen
 len:xs.length=n*size
 holds:∀ j,j<n*size→w.cell? ⟨g,o+j,C⟩=xs[j]?
 there:∀ j,j<cap*size→(w.cell? ⟨g,o+j,C⟩).isSome=true∧w.frozen? ⟨g,o+j,C⟩=false
def Own (B:Nat) (w:World) (size:Nat) (v:Value) (n:Nat) (xs:List Value):Prop :=
 (v=K C 0 0∧n=0∧xs=[])∨∃ g o cap,v=K (U ⟨g,o,C⟩) n cap∧kW B w size g o cap n xs
theorem Own.nil (B:Nat) (w:World) (size:Nat):Own B w size (K C 0 0) 0 []:=.inl ⟨rfl,rfl,rfl⟩
section
variable {B:Nat} {w w':World} {size g o cap n:Nat} {xs:List Value}
theorem kW.block (h:kW B w size g o cap n xs) (c:w'.heap[g]?=w.heap[g]?):kW B w' size g o cap n xs where
 lo:=h.lo
 hi:=by
  have:=h.hi;rw [Sl this] at c;exact (Array.getElem?_eq_some_iff.1 c).1
 le:=h.le
 max:=h.max
 len:=h.len
 holds:=fun j d=>(mV (w:=w) (a:=⟨g,o+j,C⟩) c).trans (h.holds j d)
 there:=fun j d=>by
  rw [mV (w:=w) (a:=⟨g,o+j,C⟩) c,Jw (w:=w) (a:=⟨g,o+j,C⟩) c];exact h.there j d
theorem kW.mono {B':Nat} (h:kW B w size g o cap n xs) (a:B'≤B):kW B' w size g o cap n xs :=
 ⟨lH a h.lo,h.hi,h.le,h.max,h.len,h.holds,h.there⟩
theorem kW.below {C:Nat} (h:kW B w size g o cap n xs) (a:Below C w w') (c:g<C):kW B w' size g o cap n xs:=h.block (a.block g c)
theorem kW.grown (h:kW B w size g o cap n xs) (a:w.grownBy w' row) (c:U g≠row):kW B w' size g o cap n xs:=h.block (a.block g h.hi c)
theorem kW.setCell (h:kW B w size g o cap n xs) (f:j<n*size) (u:Value):kW B (w.setCell ⟨g,o+j,C⟩ u) size g o cap n (xs.set j u) where
 lo:=h.lo
 hi:=by simpa [World.setCell] using h.hi
 le:=h.le
 max:=h.max
 len:=by simpa using h.len
 holds:=fun k a=>by
  by_cases e:k=j
  ·subst e
   obtain ⟨u0,d⟩:=Option.isSome_iff_exists.1 (h.there k (lu f (Jv _ h.le))).1;rw [Ju _ _ _ d,Sj (by rw [h.len];exact f)]
  ·rw [DN _ _ _ _ (by intro c;injection c with _ i _;omega),rQ A]
   exact h.holds k a
 there:=fun k a=>by
  rw [Jt];refine ⟨?_,(h.there k a).2⟩;by_cases e:k=j
  ·subst e
   obtain ⟨u0,d⟩:=Option.isSome_iff_exists.1 (h.there k a).1;rw [Ju _ _ _ d];rfl
  ·rw [DN _ _ _ _ (by intro c;injection c with _ i _;omega)]
   exact (h.there k a).1
theorem kW.setOther (h:kW B w size g o cap n xs) (a:g≠p.block) (u:Value):kW B (w.setCell p u) size g o cap n xs:=h.block (nK _ _ _ _ a)
theorem kW.N7 (h:kW B w size g o cap n xs) (a:j<n*size):∃ u,xs[j]?=U u∧w.cell? ⟨g,o+j,C⟩=U u:=by
 have:j<xs.length:=by rw [h.len];exact a
 exact ⟨xs[j],nH this,(h.holds j a).trans (nH this)⟩
theorem kW.notFrozen (h:kW B w size g o cap n xs) (a:j<n*size):w.frozen? ⟨g,o+j,C⟩=false :=
 (h.there j (lu a (Jv _ h.le))).2
theorem kW.made (w:World) (B:Nat) (e:TypeId) (size cap n:Nat) (C:Array Value) (m:Nat) (g:B≤w.heap.size) (d:n≤cap) (i:cap≤maxLen) (l:C.size=cap*size) (hm:C.size≤m) (xs:List Value)
  (f:C.toList.take (n*size)=xs) (mk:Nat × Nat) (k:mk=(0,0)∨mk=(m,m+1)):kW B (w.alloc (aH C e mk)) size w.heap.size 0 cap n xs:=by
 have hle:n*size≤C.size:=by rw [l];exact Jv _ d
 have a:∀ j,(w.alloc (aH C e mk)).cell? ⟨w.heap.size,0+j,none⟩=C[j]?:=fun j=>by
  rw [ny];exact Om w C e mk j
 refine ⟨g,D,d,i,?_,fun j c=>?_,fun j c=>⟨?_,?_⟩⟩
 ·rw [← f,qI,nZ];omega
 ·rw [a,← f,List.getElem?_take,if_pos c];simp
 ·rw [a,Sl A];rfl
 ·rw [ny]
  obtain ⟨lo,hi⟩:=mk;rw [World.frozen?_alloc_mark];rcases k with h | h
  ·simp only [Prod.mk.injEq] at h;obtain ⟨rfl,rfl⟩:=h;simp
  ·simp only [Prod.mk.injEq] at h;obtain ⟨rfl,rfl⟩:=h;simp;omega
end
theorem Own.X8 (h:Own B w size v n xs):Own B w.drew size v n xs:=by
 rcases h with h | ⟨g,o,cap,c,a⟩
 ·exact .inl h
 ·exact .inr ⟨g,o,cap,c,a.block rfl⟩
theorem Own.grown (h:Own B w size v n xs) (c:w.grownBy w' row) (d:v.ownBlock=C∨v.ownBlock≠row):Own B w' size v n xs:=by
 rcases h with h | ⟨g,o,cap,rfl,a⟩
 ·exact .inl h
 ·exact .inr ⟨g,o,cap,rfl,a.grown c (by simpa [Value.ownBlock] using d)⟩
theorem Own.alloc (h:Own B w size v n xs) (ob:Obj):Own B (w.alloc ob) size v n xs :=
 h.grown (Ol w ob C) (by cases v.ownBlock <;> simp)
theorem Own.below {C:Nat} (h:Own B w size v n xs) (d:Below C w w') (c:w.heap.size≤C):Own B w' size v n xs:=by
 rcases h with h | ⟨g,o,cap,e,a⟩
 ·exact .inl h
 ·exact .inr ⟨g,o,cap,e,a.below d (lu a.hi c)⟩
theorem Kq (b:Nat):∀ (a:List Value) (o:Nat) (w:World),(w.setCells b o a).tape=w.tape
 | [],_,_=>rfl
 | v :: r,o,w=>by rw [World.setCells,Kq b r (o+1)];rfl
theorem rH (b:Nat):∀ (a:List Value) (o:Nat) (w:World),(w.setCells b o a).heap.size=w.heap.size
 | [],_,_=>rfl
 | v :: r,o,w=>by rw [World.setCells,rH b r (o+1)];simp [World.setCell]
theorem D5 (b:Nat):∀ (a:List Value) (o:Nat) (w:World) (q:Addr),(w.cell? q).isSome=true→((w.setCells b o a).cell? q).isSome=true
 | [],_,_,_,h=>h
 | v :: r,o,w,q,h=>by
  rw [World.setCells];refine D5 b r (o+1) _ q ?_;by_cases e:(⟨b,o,C⟩:Addr)=q
  ·subst e
   obtain ⟨u,hu⟩:=Option.isSome_iff_exists.1 h;rw [Ju _ _ _ hu];rfl
  ·rw [DN _ _ _ _ e];exact h
theorem l7 (w:World) (B:Nat) (t tx ty e:TypeId) (i:TypeInfo) (z:Value) (size bytes:Nat) (q:P.underlying t=U (.slice e)) (hi:P.info? e=U i) (N:i.zero=U z)
  (X:i.size=size) (R:i.bytes=bytes) (ab:z.cells.size=size) (v:Value) (n:Nat) (xs:List Value) (h:Own B w size v n xs)
  (x:Value) (m:Nat) (news:List Value) (l:Src P size tx x m news w) (H:n+m≤maxLen) (J:(n+m)*bytes≤140737488355328) (Q:B≤w.heap.size) :
  ∃ r w',(Builtin.append_ #[t,tx] ty #[v,x]).run P w=.ok r w'∧Own B w' size r (n+m) (xs ++ news)∧w.grownBy w' v.ownBlock∧(r.ownBlock=v.ownBlock∨r.ownBlock=U w.heap.size):=by
 subst X;subst R;have d:=l.newsLen;have af:n+m≤9223372036854775807:=by simp only [maxLen] at H;omega
 have grown:∀ (old:Nat),old<n+m→xs.length=n*i.size→∀ (row:Option Nat),
   kW B (w.drew.alloc (aH ((xs ++ news).toArray ++ Builtin.zeroCells z.cells (grownCap w (n+m) old e - (n+m))) e)) i.size w.heap.size 0 (grownCap w (n+m) old e) (n+m) (xs ++ news) ∧
   w.grownBy (w.drew.alloc (aH ((xs ++ news).toArray ++ Builtin.zeroCells z.cells (grownCap w (n+m) old e - (n+m))) e)) row:=by
  intro old ho aa row;have T:=grownCap_ge w (n+m) old e;have S:grownCap w (n+m) old e≤maxLen:=grownCap_le_maxLen w (n+m) old e H;have hlen:(xs ++ news).length=(n+m)*i.size:=by rw [lD,aa,d,Oj]
  refine ⟨kW.made w.drew B e i.size _ (n+m) _ _ Q T S ?_ kL _ ?_ (0,0) (.inl rfl),⟨rfl,rfl,rfl,D,fun k p _=>kU w.drew _ k p⟩⟩
  ·simp only [Array.size_append,Si,size_zeroCells,ab,hlen,← Oj]
   congr 1
   omega
  ·simp only [Array.toList_append]
   rw [← hlen];exact List.take_left
 rcases h with ⟨rfl,rfl,rfl⟩ | ⟨g,o,cap,rfl,a⟩
 ·by_cases hm:m=0
  ·subst hm
   have V:news=[]:=oH (by simpa using d);subst V;exact ⟨_,w,run_append_nothing w t tx ty e i q hi C 0 0 kL x l,Own.nil _ _ _,lJ w _,.inl rfl⟩
  ·have f:=run_append_grow_src (P:=P) w t tx ty e i z q hi N C 0 0 [] (run_firstCells_none w.drew i.size 0 0 0) x m news l A A (growslice_fits A J)
   obtain ⟨g1,g2⟩:=grown 0 A D (Value.ownBlock (K C 0 0));exact ⟨_,_,f,.inr ⟨_,_,_,rfl,g1⟩,g2,.inr rfl⟩
 ·by_cases s:n+m≤cap
  ·have ae:n*i.size+news.length≤cap*i.size:=by rw [d,← Oj];exact Jv _ s
   have f:=run_append_room_src (P:=P) w t tx ty e i q hi g o n cap x m news l s
    (fun j c=>by rw [nS];exact (a.there (n*i.size+j) A).1) (fun j c=>by rw [nS];exact (a.there (n*i.size+j) A).2)
   refine ⟨_,_,f,.inr ⟨g,o,cap,rfl,⟨a.lo,by rw [rH];exact a.hi,s,a.max,by rw [lD,a.len,d,Oj],fun j c=>?_,fun j c=>⟨?_,?_⟩⟩⟩,
    ⟨World.os_setCells _ _ _ _,Kq _ _ _ _,World.output_setCells _ _ _ _,by rw [rH];exact kL,fun k p W=>Oi w g _ news p (fun e=>W (by simp [Value.ownBlock,e]))⟩,.inl rfl⟩
   ·by_cases M:j<n*i.size
    ·rw [Oh g news _ w _ (fun _ _=>.inl aQ),a.holds j M,nO (by rw [a.len];exact M)]
    ·have L:j - n*i.size<news.length:=by rw [d];rw [Oj] at c;omega
     have:=RZ g news (o+n*i.size) w (fun k p=>by rw [nS];exact (a.there (n*i.size+k) A).1) (j - n*i.size) L;rw [show o+n*i.size+(j - n*i.size)=o+j by omega] at this;rw [this,qP (by rw [a.len];omega),a.len,nH L]
   ·exact D5 g news _ w _ (a.there j c).1
   ·rw [RY];exact (a.there j c).2
  ·have hold:(Builtin.firstCells i.size n (K (U ⟨g,o,C⟩) n cap)).run P w.drew=.ok xs.toArray w.drew:=by
    refine run_firstCells_some w.drew i.size n ⟨g,o,C⟩ n cap xs a.len (fun j u hu=>?_);have c:j<xs.length:=(List.getElem?_eq_some_iff.1 hu).1;rw [Addr.add_lit];exact (a.holds j (by rw [← a.len];exact c)).trans hu
   have f:=run_append_grow_src (P:=P) w t tx ty e i z q hi N (U ⟨g,o,C⟩) n cap xs hold x m news l A A (growslice_fits A J);obtain ⟨g1,g2⟩:=grown cap A a.len (Value.ownBlock (K (U ⟨g,o,C⟩) n cap));exact ⟨_,_,f,.inr ⟨_,_,_,rfl,g1⟩,g2,.inr rfl⟩
theorem kT (w:World) {o:Oper} {a:Act} {Q:Exit→Act→World→Prop} (hgd:o.guard=C) (s x:Operand) (t tx:TypeId)
  (ho:o.op=.call { callee:=.builtin .append,args:=#[s,x],argTypes:=#[t,tx] })
  (B:Nat) (e:TypeId) (i:TypeInfo) (z:Value) (size bytes:Nat) (ht:P.underlying t=U (.slice e)) (hi:P.info? e=U i) (hz:i.zero=U z) (hsize:i.size=size) (hby:i.bytes=bytes) (hzs:z.cells.size=size)
  (v:Value) (n:Nat) (xs:List Value) (hv:a.eval s=v) (h:Own B w size v n xs)
  (xv:Value) (m:Nat) (news:List Value) (hx:a.eval x=xv) (hs:Src P size tx xv m news w) (h63:n+m≤maxLen) (hbytes:(n+m)*bytes≤140737488355328) (hB:B≤w.heap.size)
  (hK:∀ v' w',Own B w' size v' (n+m) (xs ++ news)→w.grownBy w' v.ownBlock→(v'.ownBlock=v.ownBlock∨v'.ownBlock=U w.heap.size)→wpList P ops Q rest (a.put o.dst v') w'):wpList P ops Q (o :: rest) a w:=by
 refine wpList_plain hgd fun K hK'=>?_;obtain ⟨v',w',hrun,r1,r2,r3⟩:=l7 (P:=P) w B t tx o.type e i z size bytes ht hi hz hsize hby hzs v n xs h xv m news hs h63 hbytes hB;unfold Oper.wp;simp [execOp,ho,resolve,invoke,builtin,hv,hx,hrun,Result.andThen];exact hK' _ _ (hK v' w' r1 r2 r3)
theorem Ko {o:Oper} {a:Act} {Q:Exit→Act→World→Prop} 
  (T:o.guard=none) {l c:Operand} (t:TypeId) (W:o.op=Op.makeSlice t l c)
  (B:Nat) (e:TypeId) (i:TypeInfo) (z:Value) (size bytes:Nat) (p:P.underlying t=U (.slice e)) (q:P.info? e=U i) (r:i.zero=U z) (s:i.size=size) (u:i.bytes=bytes)
  (j g:IntKind) (L C:Int) (n:Nat) (V:a.eval l=.int j L) (S:a.eval c=.int g C) (M:L=(n:Int)) (v:C=(n:Int)) (b2:bytes*n≤281474976710656) (d:n≤maxLen) (k:B≤w.heap.size)
  (H:∀ w',kW B w' size w.heap.size 0 n n (madeCells z.cells (n*size)).toList→w.grownBy w' none→wpList P ops Q rest (a.put o.dst (K (U ⟨w.heap.size,0,none⟩) n n)) w') :
  wpList P ops Q (o :: rest) a w:=by
 subst s;subst u;subst M;subst v;refine wpList_plain T fun X J=>?_;have R:(n:Int)≤9223372036854775807:=by have:=d;simp only [maxLen] at this;omega
 have N:(i.bytes:Int)*(n:Int)≤281474976710656:=by
  have h:((i.bytes*n:Nat):Int)≤281474976710656:=A;rwa [Xb] at h
 have f:=run_make (P:=P) w t e i z p q r j g n n A (RX _) N R;simp only [IE] at f;unfold Oper.wp;simp [execOp,W,V,S,f,Result.andThen];refine J _ _ (H _ (kW.made w B e i.size n n _ _ k kL d (size_madeCells _ _) kL _ ?_ (0,0) (.inl rfl)) (Ol w _ none));rw [pF (by simp [size_madeCells])]
theorem below_grown (h:Below B w w1) (c:w1.grownBy w' row) (a:B≤w1.heap.size) (d:∀ k,row=U k→B≤k):Below B w w':=h.grown c a d
theorem Own.ku (h:Own B w size v n xs):∀ k,v.ownBlock=U k→B≤k:=by
 intro k a;rcases h with ⟨rfl,_⟩ | ⟨g,o,cap,rfl,c⟩
 ·simp [Value.ownBlock] at a
 ·simp [Value.ownBlock] at a;subst a;exact c.lo
theorem Own.kD (h:Own B w size v n xs):∀ k,v.ownBlock=U k→k<w.heap.size:=by
 intro k a;rcases h with ⟨rfl,_⟩ | ⟨g,o,cap,rfl,c⟩
 ·simp [Value.ownBlock] at a
 ·simp [Value.ownBlock] at a;subst a;exact c.hi
theorem IZ {o:Oper} {a:Act} {Q:Exit→Act→World→Prop} 
  (l:o.guard=C) {x:Operand} (src dst:TypeId) (r:o.op=Op.convert src dst x) (B:Nat) (e:TypeId) (u:P.underlying src=U .string) (j:P.underlying dst=U (.slice e)) (he:P.underlying e=U (.int .u8))
  (s:ByteArray) (v:a.eval x=E s) (d:s.size≤maxLen) (f:B≤w.heap.size)
  (g:∀ c w',Own B w' 1 c s.size (byteCells s)→w.grownBy w' C→c.ownBlock=U w.heap.size→wpList P ops Q rest (a.put o.dst c) w'):wpList P ops Q (o :: rest) a w:=by
 refine wpList_plain l fun z h=>?_;have t:=run_bytes_of_string (P:=P) w src dst e s u j he;have p:=grownCap_ge w s.size 0 e;have i:=grownCap_le_maxLen w s.size 0 e d;have H:s.data.size=s.size:=rfl;unfold Oper.wp;simp [execOp,r,v,t,Result.andThen];refine h _ _ (g _ _ (.inr ⟨w.heap.size,0,_,rfl,kW.made w.drew B e 1 _ s.size _ _ f p i ?_ kL _ ?_ _ (.inr rfl)⟩) ⟨rfl,rfl,rfl,D,fun k q _=>kU w.drew _ k q⟩ rfl)
 ·simp only [bytesRow,Array.size_append,Array.size_map,Array.size_replicate];omega
 ·have:(byteCells s).length=s.size*1:=by rw [byteCells_length,Nat.mul_one]
  simp only [bytesRow,Array.toList_append,Array.toList_map];rw [← this];exact List.take_left
theorem Gh {o:Oper} {a:Act} {K:Act→World→Prop} {Q:Exit→Act→World→Prop} {E:Prop} (hgd:o.guard=C) (s x:Operand) (t tx:TypeId)
  (ho:o.op=.call { callee:=.builtin .append,args:=#[s,x],argTypes:=#[t,tx] })
  (B:Nat) (e:TypeId) (i:TypeInfo) (z:Value) (size bytes:Nat) (ht:P.underlying t=U (.slice e)) (hi:P.info? e=U i) (hz:i.zero=U z) (hsize:i.size=size) (hby:i.bytes=bytes) (hzs:z.cells.size=size)
  (v:Value) (n:Nat) (xs:List Value) (hv:a.eval s=v) (h:Own B w size v n xs)
  (xv:Value) (m:Nat) (news:List Value) (hx:a.eval x=xv) (hs:Src P size tx xv m news w) (h63:n+m≤maxLen) (hbytes:(n+m)*bytes≤140737488355328) (hB:B≤w.heap.size)
  (hK:∀ v' w',Own B w' size v' (n+m) (xs ++ news)→w.grownBy w' v.ownBlock→(v'.ownBlock=v.ownBlock∨v'.ownBlock=U w.heap.size)→K (a.put o.dst v') w') :
  if Region.wanted o (yielded ops a.tmps)=true then Oper.wp P o a w K Q else E:=by
 have hw:Region.wanted o (yielded ops a.tmps)=true:=by simp [Region.wanted,hgd]
 rw [if_pos hw];obtain ⟨v',w',hrun,r1,r2,r3⟩:=l7 (P:=P) w B t tx o.type e i z size bytes ht hi hz hsize hby hzs v n xs h xv m news hs h63 hbytes hB;unfold Oper.wp;simp [execOp,ho,resolve,invoke,builtin,hv,hx,hrun,Result.andThen];exact hK v' w' r1 r2 r3
theorem Own.src {tx d:TypeId} (h:Own B w size v n xs) (c:P.underlying tx=U (.slice d)) (e:∀ u∈xs,u.oneCell'=true):Src P size tx v n xs w:=by
 rcases h with ⟨rfl,rfl,rfl⟩ | ⟨g,o,cap,rfl,a⟩
 ·exact Src.ofNil w c 0
 ·refine Src.ofSlice w c ⟨g,o,C⟩ n cap xs a.len (fun j u hu=>?_) e
  rw [Addr.add_lit];exact (a.holds j (by rw [← a.len];exact (List.getElem?_eq_some_iff.1 hu).1)).trans hu
theorem hid {p:Prop} (h:p):Hid p:=h
def kG (e:Ending) (p:Prop):Prop:=∃ r:Bool,e=aO (aF r)∧(r=true ↔ p)
theorem kG.t {p:Prop} (h:p):kG (aO (aF true)) p:=⟨true,rfl,fV⟩
theorem kG.f {p:Prop} (h:¬ p):kG (aO (aF false)) p:=⟨false,rfl,fV⟩
theorem kG.d {q p:Prop} [Decidable q] (h:q ↔ p):kG (aO (aF (decide q))) p:=⟨decide q,rfl,fV⟩
theorem kV (a:Below W.heap.size W w1) (h:W.cell? p=U v):w1.cell? p=U v :=
 (a.cell (p:=p) (Ep W p h)).trans h
theorem adI (a:Below W.drew.heap.size W.drew w1) (h:W.cell? p=U v):w1.cell? p=U v :=
 (a.cell (w:=W.drew) (p:=p) (Ep W p h)).trans h
theorem grownBy_trans {d:World} {r:Option Nat} (h:w.grownBy w1 r) (k:w1.grownBy d r):w.grownBy d r :=
 ⟨k.os.trans h.os,k.tape.trans h.tape,k.output.trans h.output,lH h.size k.size,fun q c a=>(k.block q (lu c h.size) a).trans (h.block q c a)⟩
theorem grownBy_below {r:Option Nat} (h:Below w.heap.size w w1):w.grownBy w1 r:=⟨h.os,h.tape,h.output,h.size,fun q a _=>h.block q a⟩
end
theorem Tryz.info5:(prog.info? 5).map (fun i=>(i.zero,i.size,i.bytes))=U (U (.int .u8 0),1,1):=Z
def Yl (v:Int) (b:UInt8):Int:=IntKind.u64.wrap (bits BinOp.xor IntKind.u64 v (IntKind.u64.wrap (b.toNat:Int))*1099511628211)
def fnv (v:Int) (l:List UInt8):Int:=l.foldl Yl v
theorem aaF {v:Int} {l:List UInt8} {b:UInt8}:fnv v (l ++ [b])=Yl (fnv v l) b:=by simp [fnv,List.foldl_append]
def Word (x:Int):Prop:=0≤x∧x<18446744073709551616
theorem ZB (v:Int) (b:UInt8):Word (Yl v b):=by unfold Yl Word;rw [IntKind.wrap_u64];omega
theorem aaE (v:Int) (l:List UInt8) (h:Word v):Word (fnv v l):=by
 induction l generalizing v with
 | nil=>exact h
 | cons b r ih=>exact ih _ (ZB v b)
def Pm:Nat→Int→List Int
 | 0,_=>[]
 | k+1,v=>Pm k (v / 256) ++ [v % 256]
theorem Ye (k:Nat) (v:Int):(Pm k v).length=k:=by
 induction k generalizing v with
 | zero=>rfl
 | succ k ih=>simp [Pm,ih]
def Nl (v:Int):ByteArray:=strOfNums (Pm 8 v)
theorem Qs {v:Int}:(Nl v).size=8:=by simp [Nl,strOfNums_size,Ye]
def start:Int:=14695981039346656037
theorem Xl:Word start:=by unfold Word start;omega
def Aq (ss:List ByteArray):List UInt8:=(ss.map fun s=>(0:UInt8) :: s.data.toList).flatten
theorem Zl (ss:List ByteArray) (s:ByteArray):Aq (ss ++ [s])=Aq ss ++ [0] ++ s.data.toList:=by simp [Aq]
def Gf (name:ByteArray) (ss:List ByteArray):ByteArray:=Nl (fnv start (name.data.toList ++ Aq ss))
theorem FW (name:ByteArray) (ss:List ByteArray):(Gf name ss).size=8:=Qs
def tot (ss:List ByteArray):Nat:=(ss.map (·.size)).sum
theorem Jz (ss:List ByteArray) (s:ByteArray):tot (ss ++ [s])=tot ss+s.size:=by simp [tot]
theorem MQ (ss:List ByteArray) (k:Nat):tot (ss.take k)≤tot ss:=by
 have:tot ss=tot (ss.take k)+tot (ss.drop k):=by
  conv=>lhs;rw [← RV k ss]
  unfold tot;rw [rD,List.sum_append]
 omega
theorem VG (ss:List ByteArray):(Aq ss).length=ss.length+tot ss:=by
 induction ss with
 | nil=>rfl
 | cons s r ih =>
  simp only [Aq,tot,Js,List.flatten_cons,lD,pX,RU] at ih ⊢;rw [ih];have:s.data.toList.length=s.size:=by rw [nZ];rfl
  omega
theorem pG (a:j<ss.length):ss.take (j+1)=ss.take j ++ [ss.getD j ByteArray.empty]:=by
 rw [Og,nH a];simp [List.getD,List.getElem?_eq_getElem a]
theorem take_snoc (s:ByteArray) (k:Nat) (h:k<s.size):s.data.toList.take (k+1)=s.data.toList.take k ++ [s[k]]:=by
 rw [Xa fV];rfl
theorem MG {k:IntKind} {a b:Int} (h:a=b):Ending.returned (.int k a)=aO (.int k b):=by rw [h]
theorem MF {a b:ByteArray} (h:a=b):Ending.returned (E a)=aO (E b):=by rw [h]
structure kS (w:World) (a:Option Addr) (b o n:Nat) (ss:List ByteArray):Prop where
 ad:0<n→a=U ⟨b,o,C⟩
 len:ss.length=n
 max:n≤maxLen
 lt:0<n→b<w.heap.size
 cell:∀ j,j<n→w.cell? ⟨b,o+j,C⟩=U (E (ss.getD j ByteArray.empty))
 sz:∀ s∈ss,s.size≤maxLen
theorem kS.below {o:Nat} {C:Nat} (h:kS w a b o n ss) (c:Below C w w') (d:0<n→b<C):kS w' a b o n ss :=
 ⟨h.ad,h.len,h.max,fun f=>lu (h.lt f) c.size,fun j e=>(c.cell (by exact d A)).trans (h.cell j e),h.sz⟩
theorem kS.below' {o:Nat} (h:kS w a b o n ss) (c:Below w.heap.size w w'):kS w' a b o n ss:=h.below c h.lt
theorem kS.szD {o:Nat} (h:kS w a b o n ss) (d:j<n):(ss.getD j ByteArray.empty).size≤maxLen:=by
 have c:j<ss.length:=by rw [h.len];exact d
 refine h.sz _ ?_;rw [show ss.getD j ByteArray.empty=ss[j] by simp [List.getD,List.getElem?_eq_getElem c]];exact IC c
theorem kW.nums {o:Nat} {a:List Int} (h:kW B w 1 g o cap n (a.map (Value.int .u8))):a.length=n∧∀ i,i<n→w.cell? ⟨g,o+i,C⟩=U (.int .u8 (a.getD i 0)):=by
 have c:a.length=n:=by have:=h.len;simpa using this
 refine ⟨c,fun i hi=>?_⟩;rw [h.holds i A,IB,nH A];simp [List.getD,List.getElem?_eq_getElem (show i<a.length by omega)]
theorem aat {z:Value} (a:z.cells=#[z]) (n:Nat):(madeCells z.cells (n*1)).toList=List.replicate n z:=by
 rw [a,Nat.mul_one];apply WZ
 ·simp [madeCells]
 ·intro i c d
  simp [madeCells,Nat.mod_one]
def bN (l:List UInt8):List Int:=l.map fun b=>(b.toNat:Int)
theorem EL (s:ByteArray):byteCells s=(bN s.data.toList).map (Value.int .u8):=by simp [byteCells,bN]
theorem Np (l:List UInt8):strOfNums (bN l)=⟨l.toArray⟩:=by
 unfold strOfNums bN;congr 1
 rw [List.map_map];have:((fun n:Int=>UInt8.ofNat n.toNat) ∘ fun b:UInt8=>(b.toNat:Int))=id:=by funext b;simp
 rw [this,List.map_id]
theorem Ux (a:List Int):∀ u∈a.map (Value.int .u8),u.oneCell'=true:=by
 intro u hu;obtain ⟨_,_,rfl⟩:=List.mem_map.1 hu;rfl
theorem KW (s:ByteArray) (V:s.size≤maxLen) :
  Calls prog 76 #[E s] w fun e w'=>e=aO (E (Nl (fnv start s.data.toList)))∧Below w.heap.size w w':=by
 obtain ⟨i0,hi,aa,ab,ae⟩:=info_parts Tryz.info5;unfold maxLen at V;go_enter func76,ntmps76
 go_wp2;go_loop [3,4] (fun n i=>∃ k:Nat,k≤s.size∧i=I Y k∧n=.int .u64 (fnv start (s.data.toList.take k))) (fun _ i=>s.size - (intOf i).toNat)
 case atStart=>exact ⟨0,lG _,rfl,rfl⟩
 case round =>
  obtain ⟨k,Q,rfl,rfl⟩:=hrel;by_cases S:k<s.size
  ·have J:Hid (fnv start (s.data.toList.take (k+1))=Yl (fnv start (s.data.toList.take k)) s[k]):=by rw [take_snoc s k S];exact aaF
   go_wp2;go_round
   case rel=>exact ⟨k+1,A,aW,by rw [J.out];rfl⟩
   case measure=>simp [intOf];omega
  ·rw [pF aQ]
   obtain ⟨v, h⟩ := kC (fnv start s.data.toList);have hw:=aaE start s.data.toList Xl;rw [← h] at hw ⊢;have L:Hid (v=fnv start s.data.toList):=h;clear h;obtain ⟨W,X⟩:=hw;go_wp2;go_loopw [3,5,6] (fun n ov i wr=>∃ k:Nat,k≤8∧i=I Y k∧(∃ u:Int,0≤u∧u<18446744073709551616∧n=.int .u64 u∧∃ a,Pm 8 v=Pm (8 - k) u ++ a∧Own w.heap.size wr 1 ov k (a.map (Value.int .u8)))∧Below w.heap.size w wr) (fun _ _ i _=>(8 - intOf i).toNat)
   case atStart=>exact ⟨0,A,rfl,⟨v,W,X,rfl,[],D,.inr ⟨w.heap.size,0,0,rfl,kW.made w w.heap.size 5 1 0 0 #[] 0 kL kL (lG _) rfl kL _ rfl _ (.inl rfl)⟩⟩,kQ⟩
   case round =>
    obtain ⟨k,Q,rfl,⟨u,ah,ai,rfl,a,H,d⟩,c⟩:=hrel;have j:Hid (Pm 8 v=Pm (8 - k) u ++ a):=H;clear H;have f:=c.size;by_cases ag:k<8
    ·have r:Own w.heap.size (wr.alloc (aH #[.int .u8 (u % 256)] 5)) 1 (K (U ⟨wr.heap.size,0,C⟩) 1 1) 1 [.int .u8 (u % 256)] :=
      .inr ⟨_,0,1,rfl,kW.made wr w.heap.size 5 1 1 1 _ 1 f kL G rfl kL _ rfl _ (.inl rfl)⟩
     have z:Src prog 1 22 _ k _ (wr.alloc (aH #[.int .u8 (u % 256)] 5)):=(d.alloc (aH #[.int .u8 (u % 256)] 5)).src underlying22 (Ux a);go_wp2_with (at_builtin;refine kT _ rfl _ _ 22 22 rfl w.heap.size 5 i0 (.int .u8 0) 1 1 underlying22 hi aa ab ae rfl (K (U ⟨wr.heap.size,0,C⟩) 1 1) 1 [.int .u8 (u % 256)] rfl r _ k (a.map (Value.int .u8)) rfl z G A aQ ?_;intro v' w1 T q N)
     have M:Below w.heap.size w w1:=(c.alloc f _).grown q aQ (by simp [Value.ownBlock];exact f);clear r z d q N;go_wp2;go_roundw
     case rel =>
      refine ⟨k+1,A,aW,⟨u / 256,A,A,rfl,u % 256 :: a,?_,by simpa [Nat.add_comm] using T⟩,M⟩;rw [j.out,show 8 - k=(8 - (k+1))+1 by omega,Pm,Dk];rfl
     case measure=>simp [intOf];omega
    ·obtain rfl:k=8:=by omega
     rcases d with ⟨_,h8,_⟩ | ⟨g,o,cap,rfl,l⟩
     ·omega
     obtain ⟨R,p⟩:=l.nums;have af:=run_convert_bytes_arg (P:=prog) wr 22 5 underlying22 underlying5 g o 8 cap a R p 9 underlying9;clear p l;go_wp2;go_ret;exact ⟨MF (by rw [← L.out,Nl,j.out];rfl),c⟩
theorem Kr (name:ByteArray) (a:Option Addr) (b o n c:Nat) (ss:List ByteArray) (w:World) (hn:name.size≤1048576) (h:kS w a b o n ss) (hs:n+tot ss≤1048576) :
  Calls prog 56 #[E name,K a n c] w fun e w'=>e=aO (E (Gf name ss))∧Below w.heap.size w w':=by
 obtain ⟨i0,hi,ag,ah,ai⟩:=info_parts Tryz.info5;have bk:n≤1048576:=A;go_enter func56,ntmps56
 go_wp2_with (refine IZ rfl 9 22 rfl w.heap.size 5 underlying9 underlying22 underlying5 name rfl G kL ?_;intro v0 w0 ab ba bd)
 go_loopw [5,6] (fun ov i wr=>∃ k:Nat,k≤n∧i=I Y k∧(∃ m,m=name.size+k+tot (ss.take k)∧Own w.heap.size wr 1 ov m ((bN (name.data.toList ++ Aq (ss.take k))).map (Value.int .u8)))∧Below w.heap.size w wr) (fun _ i _=>n - (intOf i).toNat)
 case atStart =>
  refine ⟨0,lG _,rfl,⟨name.size,by simp [tot],?_⟩,mD.grown ba kL D⟩;rw [EL] at ab;simpa [Aq] using ab
 case round =>
  obtain ⟨k,hk,rfl,⟨m,hm,d⟩,f⟩:=hrel;have HM:Hid (m=name.size+k+tot (ss.take k)):=hm;have N:=f.size;by_cases l:k<n
  ·obtain rfl:=h.ad A
   have au:=h.lt A;have j:wr.cell? ⟨b,o+k,C⟩=U (E (ss.getD k ByteArray.empty)):=(f.cell (by exact au)).trans (h.cell k l);have bg:(k:Int)<(n:Int):=A;have Q:tot (ss.take (k+1))≤tot ss:=MQ _ _;rw [pG (by rw [h.len];exact l),Jz] at Q;obtain ⟨s, q⟩ := kC (ss.getD k ByteArray.empty);rw [← q] at j Q;have T:(bN (name.data.toList ++ Aq (ss.take (k+1)))).map (Value.int .u8)=(bN (name.data.toList ++ Aq (ss.take k))).map (Value.int .u8) ++ [.int .u8 0] ++ byteCells s:=by
    rw [pG (by rw [h.len];exact l),Zl,← q,EL];simp [bN]
   have HS:Hid _:=T;have V:tot (ss.take (k+1))=tot (ss.take k)+s.size:=by rw [pG (by rw [h.len];exact l),Jz,← q]
   have ak:Hid _:=V;have bh:m+1≤2097152:=A;have bj:m+1+s.size≤2097152:=A;clear T q hm Q V;have R:=(d.alloc (aH #[.int .u8 0] 5)).X8;have ae:Own w.heap.size (wr.alloc (aH #[.int .u8 0] 5)) 1 (K (U ⟨wr.heap.size,0,C⟩) 1 1) 1 [.int .u8 0] :=
    .inr ⟨_,0,1,rfl,kW.made wr w.heap.size 5 1 1 1 _ 1 N kL G rfl kL _ rfl _ (.inl rfl)⟩
   have af:Src prog 1 22 _ 1 _ (wr.alloc (aH #[.int .u8 0] 5)).drew:=ae.X8.src underlying22 dY;have ay:(wr.alloc (aH #[.int .u8 0] 5)).cell? ⟨b,o+k,C⟩=U (E s):=(mV (w:=wr) (kU _ _ _ (by show b<wr.heap.size;omega))).trans j;have M:=d.ku;have X:u5.ownBlock=U b→False:=fun e=>absurd (M b e) A;have aq:Below w.heap.size w (wr.alloc (aH #[.int .u8 0] 5)).drew:=(f.alloc N _).drew;clear ae d;go_wp2;go_region_held3 (fun w'=>w'.cell? ⟨b,o+k,C⟩=U (E s)) (first | (simp [go_sem, *];done) | assumption)
    (first
     | (refine Gh rfl (.tmp 15) (.tmp 16) 22 22 rfl w.heap.size 5 i0 (.int .u8 0) 1 1 underlying22 hi ag ah ai rfl _ m _ rfl R _ 1 _ rfl af G A aQ ?_;intro v1 w1 p J av;have ax:=J.cell ay (fun e=>X e.symm);have z:=aq.grown J aQ M)
     | (refine Gh rfl (.tmp 17) (.tmp 21) 22 9 rfl w.heap.size 5 i0 (.int .u8 0) 1 1 underlying22 hi ag ah ai rfl _ (m+1) _ rfl p _ s.size _ rfl (Src.ofString _ underlying9 s) G A (by have:=z.size;omega) ?_;intro v2 w2 bc L aw;have bf:=L.cell ax (fun e=>absurd (p.ku b e.symm) A);have an:=z.grown L (by have:=z.size;omega) p.ku))
   clear p J L R af av aw M X;go_wp2;go_roundw
   case rel =>
    refine ⟨k+1,A,aW,⟨m+1+s.size,?_,?_⟩,an⟩
    ·rw [HM.out,ak.out];omega
    ·rw [HS.out];exact bc
   case measure=>simp [intOf];omega
  ·obtain rfl:k=n:=by omega
   rw [pF (by rw [h.len];omega)] at d hm;have W:(⟨(name.data.toList ++ Aq ss).toArray⟩:ByteArray).size≤maxLen:=by
    have:(name.data.toList ++ Aq ss).length≤2097152:=by
     rw [lD,VG,h.len];have:name.data.toList.length=name.size:=by rw [nZ];rfl
     omega
    show (name.data.toList ++ Aq ss).toArray.size≤maxLen;unfold maxLen;simp only [Si];omega
   have a6:∃ r v,u5=K r m v∧(convert 22 9 (K r m v)).run prog wr=.ok (E ⟨(name.data.toList ++ Aq ss).toArray⟩) wr:=by
    rcases d with ⟨rfl,bb,hx⟩ | ⟨g,o',cap,rfl,j⟩
    ·subst bb
     refine ⟨C,0,rfl,?_⟩;have:name.data.toList ++ Aq ss=[]:=by
      have:=congrArg List.length hx;simp only [bN,List.length_map,qJ] at this;exact oH this
     rw [this];exact run_convert_bytes_nil (P:=prog) wr 22 5 underlying22 underlying5 0 0 9 underlying9
    ·obtain ⟨hl,a7⟩:=j.nums
     refine ⟨_,_,rfl,?_⟩;rw [run_convert_bytes_arg (P:=prog) wr 22 5 underlying22 underlying5 g o' m cap _ hl a7 9 underlying9,Np]
   obtain ⟨r,v,aa,a8⟩:=a6;rw [aa];obtain ⟨u,H⟩:∃ u:ByteArray,u=⟨(name.data.toList ++ Aq ss).toArray⟩:=⟨_,rfl⟩
   rw [← H] at a8 W;have S:u.data.toList=name.data.toList ++ Aq ss:=by rw [H]
   have HB:Hid _:=S;clear S;clear H aa d hm;go_wp2_with fail
   refine (KW _ W).mono ?_;rintro e w' ⟨rfl,al⟩;go_wp2;go_ret;exact ⟨MF (by rw [HB.out];rfl),f.trans (al.mono N)⟩
theorem Tryz.info9:(prog.info? 9).map (fun i=>(i.zero,i.size,i.bytes))=U (U (E ⟨#[]⟩),1,16):=Z
theorem kS.Au {o:Nat} (h:kW B w 1 g o cap n (ss.map E)) (c:∀ s∈ss,s.size≤maxLen):kS w (U ⟨g,o,C⟩) g o n ss:=by
 have a:ss.length=n:=by have:=h.len;simpa using this
 refine ⟨fun _=>rfl,a,lH h.le h.max,fun _=>h.hi,fun j d=>?_,c⟩;rw [h.holds j A,IB,nH A];simp [List.getD,List.getElem?_eq_getElem (show j<ss.length by omega)]
end Go.Proofs.YtfkkipgcfoegmaaGreat
