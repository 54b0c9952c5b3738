
import Derived.Test.YtfkkipgcfoegmaaGreatQDrw
import Derived.Maps.OwnSet
set_option maxHeartbeats 4000000
set_option maxRecDepth 100000
namespace Go.Proofs.YtfkkipgcfoegmaaGreat
open Go.Proofs.Tryz
open Go.Value renaming slice→K,string→E,bool→aF,agg→aI
open Option renaming none→C,some→U
open Go.Operand renaming tmp→F
open Go.Obj renaming cells→aH
open Bool renaming false→aK,true→aN
open Go.Value renaming int→I
open Go.IntKind renaming i64→Y
open Go.RowKit
open Go.RowKit Go.Maps
variable {e:Int} {j k n:Nat} {s x:ByteArray} {ts:List kJ} {vs:List Value} {w w' w0:World}
theorem Tryz.sizeEnt:(prog.info? 66).map (·.size)=U 4:=Z
def zE:List Value:=[I Y 0,I Y 0,I Y 0,E ⟨#[]⟩]
theorem KR {k d:Int}:∀ v∈[I Y k,I Y e,I Y d,E x],v.oneCell'=aN:=by
 intro v a;simp only [mG,mF,or_false] at a;rcases a with rfl | rfl | rfl | rfl <;> rfl
structure RE (w0:World) (P:Nat) (vs:List Value) (w:World):Prop where
 m:CF w (P+1+1) vs
 bx:CF w P zE
 lo:P+1+1<w.heap.size
 be:Below P w0 w
theorem RE.call {P:Nat} (h:RE w0 P vs w) (a:w.grownBy w' (U (P+1))):RE w0 P vs w' :=
 ⟨h.m.block (a.block _ h.lo D),h.bx.block (a.block _ fF D),lu h.lo a.size,
  h.be.grown a fF (fun k c=>fB)⟩
theorem RE.store {P:Nat} (h:RE w0 P vs w) (a:j<vs.length) (u:Value):RE w0 P (vs.set j u) (w.setCell ⟨P+1+1,j,C⟩ u) :=
 ⟨h.m.set a u,h.bx.block (nK _ _ _ _ aT),by simpa [World.setCell] using h.lo,h.be.setCell aT _⟩
theorem RE.below {P:Nat} (h:RE w0 P vs w) (a:Below w.heap.size w w'):RE w0 P vs w' :=
 ⟨h.m.block (a.block _ h.lo),h.bx.block (a.block _ fF),lu h.lo a.size,h.be.trans (a.mono fF)⟩
theorem aaf (w:World) (s:ByteArray) (W:World) (h:W=((w.alloc (aH zE.toArray 66)).alloc (aH #[E s,.nilIface] 155)).alloc (aH zE.toArray 66)) :
  RE w w.heap.size zE W∧KD W (w.heap.size+1) (q0 s):=by
 have g:CF (w.alloc (aH zE.toArray 66)) w.heap.size zE:=CF.made w zE.toArray _;have e:(w.alloc (aH zE.toArray 66)).heap.size=w.heap.size+1:=D;have c:=CF.made (w.alloc (aH zE.toArray 66)) #[E s,.nilIface] 155;rw [e] at c;have f:((w.alloc (aH zE.toArray 66)).alloc (aH #[E s,.nilIface] 155)).heap.size=w.heap.size+1+1:=D;have d:=CF.made ((w.alloc (aH zE.toArray 66)).alloc (aH #[E s,.nilIface] 155)) zE.toArray 66;rw [f] at d;subst h;have k1:=(g.block (kU _ (aH #[E s,.nilIface] 155) w.heap.size D)).block (kU _ (aH zE.toArray 66) w.heap.size aQ);have a:=c.block (kU _ (aH zE.toArray 66) (w.heap.size+1) D);exact ⟨⟨d,k1,D,(kQ.alloc D _).alloc aQ _⟩,.inl ⟨rfl,s,rfl,(a 0 D).1,(a 1 D).1,(a 0 D).2,(a 1 D).2⟩⟩
theorem Ky (s:ByteArray) :
  Calls prog 69 #[E s] w fun X w'=>Qi X s∧Below w.heap.size w w':=by
 obtain ⟨W, M⟩ := kC (((w.alloc (aH zE.toArray 66)).alloc (aH #[E s,.nilIface] 155)).alloc (aH zE.toArray 66));obtain ⟨a8,ax⟩:=aaf w s W M;simp only [zE] at M;go_enter func69,ntmps69
 go_wp2_with fail
 rw [← M];clear M;refine (NJ (w.heap.size+1) 1 (q0 s) ax A A).mono ?_;rintro H w1 ⟨rfl,ag,aq⟩;rw [show II 1 (q0 s)=n0 s from rfl];rw [show rdA 1 (q0 s)=q1 s from rfl] at ag;have N:=a8.call aq;have c0:w1.cell? ⟨w.heap.size+1+1,0,C⟩=U (I Y 0):=(N.m 0 (by simp [zE])).1;have f0:=(N.m 0 (by simp [zE])).2;have al:=N.store (j:=0) (by simp [zE]) (I Y (n0 s));have ay:=ag.store (j:=0) (u:=I Y (n0 s));simp only [zE,oV] at al;clear N ag aq a8 ax;go_wp2_with fail
 refine (NJ (w.heap.size+1) 2 (q1 s) ay A A).mono ?_;rintro H w2 ⟨rfl,ah,au⟩;rw [show II 2 (q1 s)=n1 s from rfl];rw [show rdA 2 (q1 s)=q2 s from rfl] at ah;have P:=al.call au;have c1:w2.cell? ⟨w.heap.size+1+1,1,C⟩=U (I Y 0):=(P.m 1 D).1;have f1:=(P.m 1 D).2;have an:=P.store (j:=1) D (I Y (n1 s));have a6:=ah.store (j:=1) (u:=I Y (n1 s));simp only [oV,pW] at an;clear P ah au al ay;clear c0 f0;go_wp2_with fail
 refine (NJ (w.heap.size+1) 1 (q2 s) a6 A A).mono ?_;rintro H w3 ⟨rfl,ai,av⟩;rw [show II 1 (q2 s)=n2 s from rfl];rw [show rdA 1 (q2 s)=q3 s from rfl] at ai;have J:=an.call av;have c2:w3.cell? ⟨w.heap.size+1+1,2,C⟩=U (I Y 0):=(J.m 2 D).1;have f2:=(J.m 2 D).2;have Q:=J.store (j:=2) D (I Y (n2 s));have ak:=ai.store (j:=2) (u:=I Y (n2 s));simp only [oV,pW] at Q;have d0:w3.cell? ⟨w.heap.size+1+1,0,C⟩=U (I Y (n0 s)):=(J.m 0 D).1;clear J ai av an a6;clear c1 f1;cases hK:(n0 s == 2) with
 | false =>
  have z:=hid (show ¬ n0 s=2 by simpa using hK);go_wp2_with fail
  refine (abp (w.heap.size+1) ak).mono ?_;rintro H w7 ⟨ab,ae⟩;clear c2 f2 d0;have f:=Q.call ae;rcases ab with ⟨c,rfl⟩ | ⟨c,a,rfl⟩
  ·have T:=hid c
   clear c;obtain ⟨c0,c1,c2,c3⟩:=C9 f.m;go_wp2_with fail
   refine (EZ _ _ _ _).mono ?_;rintro X w8 ⟨⟨r,rfl,l⟩,aa⟩;have o:=f.below aa;have k:=o.bx;have i:=o.be;have af:=o.lo;clear c0 c1 c2 c3;cases r with
   | true =>
    have S:=hid (aap T.out (l.1 rfl));clear l;obtain ⟨c0,c1,c2,c3⟩:=C9 o.m;go_wp2_with (refine jY rfl 66 (F 2) (F 27) rfl w.heap.size zE [I Y (n0 s),I Y (n1 s),I Y (n2 s),E ⟨#[]⟩] rfl rfl k rfl Tryz.sizeEnt (KR) ?_;intro L d e)
    obtain ⟨k0,k1,g,h⟩:=C9 d;exact bodyPost_ret (v:=.tuple #[aI #[I Y (n0 s),I Y (n1 s),I Y (n2 s),E ⟨#[]⟩],aF aN]) cO rfl ⟨.inr ⟨_,_,_,_,rfl,S.out⟩,i.grown e A (fun q c=>fB)⟩
   | false =>
    have p:=hid (YK z.out (fun t=>by have:=l.2 t.2;cases this));clear l;go_wp2_with (refine jY rfl 66 (F 2) (F 26) rfl w.heap.size zE zh rfl rfl k rfl Tryz.sizeEnt (KR) ?_;intro L d e)
    obtain ⟨k0,k1,g,h⟩:=C9 d;exact bodyPost_ret (v:=.tuple #[aI EX,aF aK]) cO rfl ⟨.inl ⟨rfl,p.out⟩,i.grown e A (fun q c=>fB)⟩
  ·have p:=hid (YK z.out (fun t=>c t.1))
   clear c;have k:=f.bx;have i:=f.be;have af:=f.lo;go_wp2_with (refine jY rfl 66 (F 2) (F 26) rfl w.heap.size zE zh rfl rfl k rfl Tryz.sizeEnt (KR) ?_;intro L d e)
   obtain ⟨k0,k1,g,h⟩:=C9 d;exact bodyPost_ret (v:=.tuple #[aI EX,aF aK]) cO rfl ⟨.inl ⟨rfl,p.out⟩,i.grown e A (fun q c=>fB)⟩
 | true =>
  have z:=hid (show n0 s=2 by simpa using hK);go_wp2_with fail
  refine (acC (w.heap.size+1) 8 (q3 s) ak A A).mono ?_;rintro H w4 ⟨rfl,a7,aw⟩;have R:=Q.call aw;have c3:w4.cell? ⟨w.heap.size+1+1,3,C⟩=U (E ⟨#[]⟩):=(R.m 3 D).1;have f3:=(R.m 3 D).2;obtain ⟨x, hx⟩ := kC (Kt 8 (q3 s));rw [← hx];have V:=hid hx;have ba:=R.store (j:=3) D (E x);have bb:=a7.store (j:=3) (u:=E x);simp only [oV,pW] at ba;clear R a7 aw Q ak hx c2 f2 d0;go_wp2_with fail
  refine (abp (w.heap.size+1) bb).mono ?_;rintro H w7 ⟨ab,ae⟩;clear c3 f3;have f:=ba.call ae;rcases ab with ⟨c,rfl⟩ | ⟨c,a,rfl⟩
  ·have T:=hid c
   clear c;obtain ⟨c0,c1,c2,c3⟩:=C9 f.m;go_wp2_with fail
   refine (EZ _ _ _ _).mono ?_;rintro X w8 ⟨⟨r,rfl,l⟩,aa⟩;have o:=f.below aa;have k:=o.bx;have i:=o.be;have af:=o.lo;clear c0 c1 c2 c3;cases r with
   | true =>
    have S:=hid (show qh s (n0 s) (n1 s) (n2 s) x by rw [V.out];exact Zv T.out (by rw [← V.out];exact l.1 rfl));clear l;obtain ⟨c0,c1,c2,c3⟩:=C9 o.m;go_wp2_with (refine jY rfl 66 (F 2) (F 27) rfl w.heap.size zE [I Y (n0 s),I Y (n1 s),I Y (n2 s),E x] rfl rfl k rfl Tryz.sizeEnt (KR) ?_;intro L d e)
    obtain ⟨k0,k1,g,h⟩:=C9 d;exact bodyPost_ret (v:=.tuple #[aI #[I Y (n0 s),I Y (n1 s),I Y (n2 s),E x],aF aN]) cO rfl ⟨.inr ⟨_,_,_,_,rfl,S.out⟩,i.grown e A (fun q c=>fB)⟩
   | false =>
    have p:=hid (Yi z.out (fun t=>by have:=l.2 (by rw [V.out];exact t.2);cases this));clear l;go_wp2_with (refine jY rfl 66 (F 2) (F 26) rfl w.heap.size zE zh rfl rfl k rfl Tryz.sizeEnt (KR) ?_;intro L d e)
    obtain ⟨k0,k1,g,h⟩:=C9 d;exact bodyPost_ret (v:=.tuple #[aI EX,aF aK]) cO rfl ⟨.inl ⟨rfl,p.out⟩,i.grown e A (fun q c=>fB)⟩
  ·have p:=hid (Yi z.out (fun t=>c t.1))
   clear c;have k:=f.bx;have i:=f.be;have af:=f.lo;go_wp2_with (refine jY rfl 66 (F 2) (F 26) rfl w.heap.size zE zh rfl rfl k rfl Tryz.sizeEnt (KR) ?_;intro L d e)
   obtain ⟨k0,k1,g,h⟩:=C9 d;exact bodyPost_ret (v:=.tuple #[aI EX,aF aK]) cO rfl ⟨.inl ⟨rfl,p.out⟩,i.grown e A (fun q c=>fB)⟩
theorem JY {b:ByteArray} {L:List UInt8} {c:UInt8} {i:Nat} (h:b.data.toList=L) (hi:i<b.size) (d:L[i]?=U c):b[i]=c:=by
 subst h;have a:b.data[i]?=U c:=by rw [← Array.getElem?_toList];exact d
 rw [Sl hi] at a;exact LH a
theorem OD {r:ByteArray} (h:¬ r=s):(r.toList == s.toList)=aK:=by
 rw [Di,Di,beq_eq_false_iff_ne];exact fun a=>h (Io a)
theorem wrap64_small (x:Int) (a:0≤x) (c:x<4294967296):wrap64 x=x:=by unfold wrap64;omega
theorem Vs (s:ByteArray) (w:World) (g a c h:UInt8) (R:List UInt8) (f:s.data.toList=g :: a :: c :: h :: R) (hm:s.size≤maxLen) :
  Calls prog 35 #[E s] w fun H w'=>Qi H s∧Below w.heap.size w w':=by
 unfold maxLen at hm;have af:s.size=4+R.length:=by have:=congrArg List.length f;rw [nZ] at this;simp only [pX] at this;have h2:s.data.size=s.size:=rfl;omega
 have l0:0<s.size:=A;have l1:1<s.size:=A;have l2:2<s.size:=A;have l3:3<s.size:=A;have l4:4≤s.size:=A;have l5:¬ s.size<4:=A;have e0:s[0]=g:=JY f l0 rfl;have e1:s[1]=a:=JY f l1 rfl;have e2:s[2]=c:=JY f l2 rfl;have e3:s[3]=h:=JY f l3 rfl;have HZ:=hid af;clear af;go_enter func35,ntmps35
 go_upto_region 3 with fail
 go_region
 have t0:g.toNat<256:=g.toNat_lt;have t1:a.toNat<256:=a.toNat_lt;have t2:c.toNat<256:=c.toNat_lt;have t3:h.toNat<256:=h.toNat_lt;have v0:=wrap64_small (g.toNat:Int) A A;have v3:=wrap64_small (h.toNat:Int) A A;have v1:wrap64 (wrap64 (wrap64 (a.toNat:Int)*256)+wrap64 (c.toNat:Int))=nX a c:=by
  rw [wrap64_small (a.toNat:Int) A A,wrap64_small (c.toNat:Int) A A,wrap64_small ((a.toNat:Int)*256) A A,wrap64_small _ A A];rfl
 have z:(s.extract 4 s.size).data.toList=R:=by
  rw [ext_list,pF (by rw [nZ];exact kL),f];rfl
 obtain ⟨x, ag⟩ := kC (s.extract 4 s.size);rw [← ag] at z ⊢;clear ag;rw [v0,v1,v3];obtain ⟨k,t⟩:∃ k:Int,k=g.toNat:=⟨_,rfl⟩
 obtain ⟨e,he⟩:∃ e:Int,e=nX a c:=⟨_,rfl⟩
 obtain ⟨d,p⟩:∃ d:Int,d=h.toNat:=⟨_,rfl⟩
 have HK:Hid (k=g.toNat∧e=nX a c∧d=h.toNat∧x.data.toList=R):=⟨t,he,p,z⟩
 have X:Hid (D7 k e d x=s.data.toList):=by rw [f,t,he,p];exact U4 g a c h R x z
 rw [← t,← he,← p];obtain ⟨W, j⟩ := kC (((w.alloc (aH EX 66)).alloc (aH #[I Y k,I Y e,I Y d,E x] 66)).drew);rw [← j];have ab:CF W w.heap.size zE:=by
  rw [j];exact ((CF.made w zE.toArray 66).block (kU _ _ w.heap.size D)).block rfl
 have J:Below w.heap.size w W:=by rw [j];exact (kQ.alloc D _).drew
 have an:W.heap.size=w.heap.size+2:=by rw [j];show (World.alloc _ _).heap.size=_;simp
 have P:MC W (w.heap.size+1) [I Y k,I Y e,I Y d,E x]:=by
  rw [j];have:=MC.made (w.alloc (aH EX 66)) #[I Y k,I Y e,I Y d,E x] 66;rw [mJ] at this;exact this.block rfl
 have ah:=hid P;obtain ⟨c0,c1,c2,c3⟩:=YP P;have HL:=hid f;clear j P v0 v1 v3 t0 t1 t2 t3 t he p f e0 e1 e2 e3 l0 l1 l2 l3 l4 l5 z;go_wp2_with fail
 refine (Ai k e d x _).mono ?_;rintro H w1 ⟨⟨r,rfl,i⟩,o⟩;have aa:=J.trans (o.mono J.size);have ae:CF w1 w.heap.size zE:=ab.block (o.block _ A);have Q:=MC.below ah.out o A;have ak:w.heap.size+1<w1.heap.size:=by have:=o.size;omega
 clear c0 c1 c2 c3 ab J;rcases i with ⟨l,i⟩ | ⟨l,i⟩
 ·have u:r=s:=by rw [i];exact (qh.mk' l X.out).2.symm
  have HG:=hid (qh.mk' l X.out);subst u;clear i l;obtain ⟨c0,c1,c2,c3⟩:=YP Q;clear Q;go_wp2_with (refine jY rfl 66 (F 2) (F 31) rfl w.heap.size zE [I Y k,I Y e,I Y d,E x] rfl rfl ae rfl Tryz.sizeEnt (KR) ?_;intro ai L N)
  obtain ⟨k0,k1,T,V⟩:=C9 L;exact bodyPost_ret (v:=.tuple #[aI #[I Y k,I Y e,I Y d,E x],aF aN]) (by simp [results,results35,go_sem,k0,k1,T,V]) rfl ⟨.inr ⟨_,_,_,_,rfl,HG.out⟩,aa.grown N A (fun q S=>by simp at S;omega)⟩
 ·have u:¬ r=s:=by
   intro hh;have:=HZ.out;rw [← hh,i] at this;have h0:(⟨#[]⟩:ByteArray).size=0:=rfl;omega
  have HN:Hid (Vl s):=by
   rintro ⟨k',H,d',x',M⟩;obtain ⟨h1,h2,h3,h4⟩:=U3 M.1 (M.list.trans HL.out);obtain ⟨i1,i2,i3,i4⟩:=HK.out;refine l ?_;rw [i1,i2,i3,← h1,← h2,← h3,show x=x' from Io (i4.trans h4.symm)];exact M.1
  have al:(r.toList == s.toList)=aK:=OD u;clear i l Q u;go_wp2_with (refine jY rfl 66 (F 2) (F 30) rfl w.heap.size zE zh rfl rfl ae rfl Tryz.sizeEnt (KR) ?_;intro ai L N)
  obtain ⟨k0,k1,T,V⟩:=C9 L;exact bodyPost_ret (v:=.tuple #[aI EX,aF aK]) (by simp [results,results35,go_sem,k0,k1,T,V]) rfl ⟨.inl ⟨rfl,HN.out⟩,aa.grown N A (fun q S=>by simp at S;omega)⟩
theorem Vt (s:ByteArray) (w:World) (h:s.size<4) :
  Calls prog 35 #[E s] w fun a w'=>Qi a s∧Below w.heap.size w w':=by
 have c:Hid (Vl s):=by
  rintro ⟨i,a,f,j,e⟩;have d:=congrArg List.length e.list;rw [DI,nZ] at d;have g:s.data.size=s.size:=rfl;omega
 go_enter func35,ntmps35
 go_wp2;exact bodyPost_ret (v:=.tuple #[aI EX,aF aK]) (by simp [results,results35,go_sem]) rfl ⟨.inl ⟨rfl,c.out⟩,by repeat (first | exact mD | refine Below.setCell ?_ (by first | exact kL | (dsimp only;omega)) _ | refine Xf ?_ (by first | exact kL | (simp;done)) _)⟩
theorem Rh (s:ByteArray) (hm:s.size≤maxLen) :
  Calls prog 35 #[E s] w fun f w'=>Qi f s∧Below w.heap.size w w':=by
 by_cases g:s.size<4
 ·exact Vt s w g
 ·obtain ⟨a,c,d,e,R,h⟩:=TY s.data.toList (by rw [nZ];show 4≤s.size;omega)
  exact Vs s w a c d e R h hm
def U9 (b:UInt8):Prop:=33≤(b.toNat:Int)∧(b.toNat:Int)≤126
def Hl (s:ByteArray) (k:Nat):Prop:=∀ j (h:j<s.size),j<k→U9 s[j]
def Ie (s:ByteArray):Prop:=Hl s s.size∧1≤s.size∧s.size≤30
theorem Lm (h:Hl s k) (f:k<s.size) (a:(33:Int)≤(s[k].toNat:Int)) (c:(s[k].toNat:Int)≤126):Hl s (k+1):=fun j d g=>by
 by_cases e:j=k
 ·subst e;exact ⟨a,c⟩
 ·exact h j d A
theorem Gv (a:k<s.size) (h:(s[k].toNat:Int)<33∨126<(s[k].toNat:Int)):¬ Ie s:=fun c=>by
 have:=c.1 k a a;unfold U9 at this;omega
theorem UF (s:ByteArray) (r:s.size≤maxLen) :
  Calls prog 40 #[E s] w fun e w'=>kG e (Ie s)∧w'=w:=by
 unfold maxLen at r;go_enter func40,ntmps40
 go_wp2;go_loop [3] (fun i=>∃ k:Nat,k≤s.size∧i=I Y k∧Hl s k) (fun i=>s.size - (intOf i).toNat)
 case atStart=>exact ⟨0,lG _,rfl,fun j _ q=>absurd q A⟩
 case round =>
  obtain ⟨k,t,rfl,l⟩:=hrel;by_cases c:k<s.size
  ·by_cases o:(s[k].toNat:Int)<33
   ·go_wp2
    go_ret;exact ⟨kG.f (Gv c (.inl o)),rfl⟩
   by_cases p:126<(s[k].toNat:Int)
   ·go_wp2
    go_ret;exact ⟨kG.f (Gv c (.inr p)),rfl⟩
   ·go_wp2
    go_round
    case rel=>exact ⟨k+1,A,aW,Lm l c A A⟩
    case measure=>simp [intOf];omega
  ·obtain rfl:k=s.size:=by omega
   by_cases g:1≤s.size
   ·by_cases a:s.size≤30
    ·go_wp2
     go_ret;exact ⟨kG.d ⟨fun _=>⟨l,g,a⟩,fun _=>A⟩,rfl⟩
    ·go_wp2
     go_ret;exact ⟨kG.d ⟨fun _=>absurd a A,fun h=>absurd h.2.2 a⟩,rfl⟩
   ·go_wp2
    go_ret;exact ⟨kG.f fun h=>g h.2.1,rfl⟩
theorem XO (s:ByteArray) (q:s.size≤maxLen) :
  Calls prog 94 #[E s] w fun e w'=>kG e (Ie s)∧w'=w:=by
 unfold maxLen at q;by_cases c:1≤s.size
 ·by_cases d:s.size≤30
  ·go_enter func94,ntmps94
   go_wp2;go_loop [3] (fun i=>∃ k:Nat,k≤s.size∧i=I Y k∧Hl s k) (fun i=>s.size - (intOf i).toNat)
   case atStart=>exact ⟨0,lG _,rfl,fun j _ p=>absurd p A⟩
   case round =>
    obtain ⟨k,r,rfl,g⟩:=hrel;by_cases a:k<s.size
    ·by_cases l:(s[k].toNat:Int)<33
     ·go_wp2
      go_ret;exact ⟨kG.f (Gv a (.inl l)),rfl⟩
     by_cases o:126<(s[k].toNat:Int)
     ·go_wp2
      go_ret;exact ⟨kG.f (Gv a (.inr o)),rfl⟩
     ·go_wp2
      go_round
      case rel=>exact ⟨k+1,A,aW,Lm g a A A⟩
      case measure=>simp [intOf];omega
    ·obtain rfl:k=s.size:=by omega
     go_wp2;go_ret;exact ⟨kG.t ⟨g,c,d⟩,rfl⟩
  ·go_enter func94,ntmps94
   go_wp2;go_ret;exact ⟨kG.f fun h=>d h.2.2,rfl⟩
 ·go_enter func94,ntmps94
  go_wp2;go_ret;exact ⟨kG.f fun h=>c h.2.1,rfl⟩
def adr (t:kJ):Prop:=1≤t.cost∧t.cost≤20
def Ak (ts:List kJ) (k:Nat):Prop:=∀ j,j<k→adr (ts.getD j dT)
theorem Ro (a:Option Addr) (b o n c:Nat) (ts:List kJ) (h:lN w a b o n ts) :
  Calls prog 66 #[K a n c] w fun e w'=>kG e (Ak ts n)∧Below w.heap.size w w':=by
 have H:=h.max;unfold maxLen at H;go_enter func66,ntmps66
 go_wp2;go_loopw [7] (fun i wr=>∃ k:Nat,k≤n∧i=I Y k∧Ak ts k∧Below w.heap.size w wr) (fun i _=>n - (intOf i).toNat)
 case atStart=>exact ⟨0,lG _,rfl,fun j r=>absurd r A,mD⟩
 case round =>
  obtain ⟨k,T,rfl,s,d⟩:=hrel;by_cases q:k<n
  ·obtain rfl:=h.ad A
   obtain ⟨t,v,L,X,J,z,u,P,Q,R,S,_,V,W⟩:=(h.below' d).get q;have l:Below w.heap.size w (wr.alloc (aH #[E t.name,I Y t.cost,K v J z] 81)):=d.alloc d.size _;have g:Hid (t=ts.getD k dT):=u;clear u;by_cases M:t.cost<1
   ·go_wp2
    go_ret;refine ⟨kG.f ?_,l⟩;intro p;have:=(p k q).1;rw [← g.out] at this;omega
   by_cases N:20<t.cost
   ·go_wp2
    go_ret;refine ⟨kG.f ?_,l⟩;intro p;have:=(p k q).2;rw [← g.out] at this;omega
   ·go_wp2
    go_roundw
    case rel =>
     refine ⟨k+1,A,aW,fun j r=>?_,l⟩;by_cases e:j=k
     ·subst e;rw [← g.out];exact ⟨A,A⟩
     ·exact s j A
    case measure=>simp [intOf];omega
  ·obtain rfl:k=n:=by omega
   go_wp2;go_ret;exact ⟨kG.t s,d⟩
def asc (i:Nat) (a:List Int) (k:Nat):Prop:=∀ j,j<k→0≤a.getD j 0∧a.getD j 0<i∧(0<j→a.getD (j - 1) 0<a.getD j 0)
def Zc (i:Nat) (a:List Int):Prop:=a.length≤8∧asc i a a.length
theorem U7 (a:Option Addr) (b o n c i:Nat) (g:List Int) (h:qN w a b o n g) (hi:i≤maxLen) :
  Calls prog 95 #[K a n c,I Y i] w fun e w'=>kG e (Zc i g)∧w'=w:=by
 have P:=h.max;unfold maxLen at P hi;have hlen:=h.len;by_cases T:8<n
 ·clear hlen
  go_enter func95,ntmps95
  go_wp2;go_ret;exact ⟨kG.f fun p=>by have:=p.1;have:=h.len;omega,rfl⟩
 ·clear hlen
  go_enter func95,ntmps95
  go_wp2;go_loop [5,13] (fun l x=>∃ k:Nat,k≤n∧x=I Y k∧(∃ m:Int,l=I Y m∧0≤m∧m≤i∧(k=0→m=0)∧(0<k→m=g.getD (k - 1) 0+1))∧asc i g k) (fun _ x=>n - (intOf x).toNat)
  case atStart=>exact ⟨0,lG _,rfl,⟨0,rfl,A,A,fun _=>rfl,fun h=>absurd h A⟩,fun j v=>absurd v A⟩
  case round =>
   obtain ⟨k,V,rfl,⟨m,rfl,W,X,H,z⟩,J⟩:=hrel;have L:Hid (k=0→m=0):=H;have u:Hid (0<k→m=g.getD (k - 1) 0+1):=z;clear H z;by_cases s:k<n
   ·obtain rfl:=h.ad A
    have M:=h.cell k s;obtain ⟨d, p⟩ := kC (g.getD k 0);rw [← p] at M;have q:Hid (d=g.getD k 0):=p;clear p;by_cases Q:d<m
    ·go_wp2
     go_ret;refine ⟨kG.f ?_,rfl⟩;intro r;have:=r.2 k (by rw [h.len];exact s);rw [← q.out] at this;by_cases e:k=0
     ·have:=L.out e;omega
     ·have S:=u.out A;have:=this.2.2 A;omega
    by_cases R:(i:Int)≤d
    ·go_wp2
     go_ret;refine ⟨kG.f ?_,rfl⟩;intro r;have:=r.2 k (by rw [h.len];exact s);rw [← q.out] at this;omega
    ·go_wp2
     go_round
     case rel =>
      refine ⟨k+1,A,aW,⟨d+1,rfl,A,A,fun h=>absurd h A,fun _=>by rw [q.out];simp⟩,fun j v=>?_⟩;by_cases e:j=k
      ·subst e
       rw [← q.out];refine ⟨A,A,fun N=>?_⟩;have:=u.out N;omega
      ·exact J j A
     case measure=>simp [intOf];omega
   ·obtain rfl:k=n:=by omega
    go_wp2;go_ret;exact ⟨kG.t ⟨by rw [h.len];omega,by rw [h.len];exact J⟩,rfl⟩
def nM (ts:List kJ) (k:Nat):Prop:=∀ j,j<k→Zc j (ts.getD j dT).deps
theorem Pn (a:Option Addr) (b o n c:Nat) (ts:List kJ) (h:lN w a b o n ts) :
  Calls prog 67 #[K a n c] w fun e w'=>kG e (nM ts n)∧Below w.heap.size w w':=by
 have Q:=h.max;unfold maxLen at Q;go_enter func67,ntmps67
 go_wp2;go_loopw [7] (fun i wr=>∃ k:Nat,k≤n∧i=I Y k∧nM ts k∧Below w.heap.size w wr) (fun i _=>n - (intOf i).toNat)
 case atStart=>exact ⟨0,lG _,rfl,fun j u=>absurd u A,mD⟩
 case round =>
  obtain ⟨k,W,rfl,z,d⟩:=hrel;by_cases v:k<n
  ·obtain rfl:=h.ad A
   obtain ⟨t,p,M,R,L,q,J,S,T,V,P,_,X,aa⟩:=(h.below' d).get v;have s:Below w.heap.size w (wr.alloc (aH #[E t.name,I Y t.cost,K p L q] 81)):=d.alloc d.size _;have l:Hid (t=ts.getD k dT):=J;clear J;go_wp2_with fail
   refine (U7 p M R L q k t.deps (P.below' kQ) G).mono ?_;rintro e w1 ⟨⟨r,rfl,H⟩,rfl⟩;have g:Hid _:=H;clear H;cases r
   ·go_wp2
    go_ret;refine ⟨kG.f ?_,s⟩;intro N;have:=N k v;rw [← l.out] at this;exact absurd (g.out.2 this) D
   ·go_wp2
    go_roundw
    case rel =>
     refine ⟨k+1,A,aW,fun j u=>?_,s⟩;by_cases e:j=k
     ·subst e;rw [← l.out];exact g.out.1 D
     ·exact z j A
    case measure=>simp [intOf];omega
  ·obtain rfl:k=n:=by omega
   go_wp2;go_ret;exact ⟨kG.t z,d⟩
theorem UA:Keyed prog 9:=string_keyed underlying9
theorem WX:(zeroValue 3).run prog w=.ok (I Y 0) w:=Z
def nm (ts:List kJ) (j:Nat):ByteArray:=(ts.getD j dT).name
def yY (ts:List kJ) (k:Nat):Prop:=∀ i,i<k→Ie (nm ts i)∧∀ j,j<i→nm ts j≠nm ts i
def Met (a:DataW Unit) (ts:List kJ) (k:Nat):Prop:=IsMap a∧∀ l,Maps.has a (.string l)=aN ↔ ∃ j,j<k∧(nm ts j).data.toList=l
theorem ab7 (ts:List kJ):Met (.map []) ts 0:=⟨⟨_,rfl⟩,fun l=>by
 constructor
 ·intro h;simp [Maps.has] at h
 ·rintro ⟨j,a,_⟩;omega⟩
theorem isKey {l:List UInt8}:WideAt.IsKeyLit (.string l):=by trivial
theorem Qy (a:DataW Unit) (h:IsMap a) {k:Lit} {d:DataW Unit}:IsMap (a.put k d):=by
 obtain ⟨es,rfl⟩:=h;exact ⟨_,rfl⟩
theorem Met.put {c:DataW Unit} {t:kJ} (h:Met c ts k) (f:t=ts.getD k dT) (d:DataW Unit):Met (c.put (.string t.name.data.toList) d) ts (k+1):=by
 refine ⟨Qy c h.1,fun l=>?_⟩;by_cases e:l=t.name.data.toList
 ·subst e
  rw [has_put_same h.1 (isKey)];exact ⟨fun _=>⟨k,A,by rw [nm,f]⟩,fun _=>rfl⟩
 ·rw [has_put_other (by simpa using e),h.2]
  constructor
  ·rintro ⟨j,i,a⟩;exact ⟨j,A,a⟩
  ·rintro ⟨j,i,a⟩
   by_cases g:j=k
   ·subst g;exact absurd (by rw [← a,nm,← f]) e
   ·exact ⟨j,A,a⟩
theorem QT {t:ByteArray} (h:s.data.toList=t.data.toList):s=t:=by
 cases s;cases t;simp only [ByteArray.mk.injEq];exact Array.toList_inj.1 h
theorem Rk (a:Option Addr) (b o n c:Nat) (ts:List kJ) (h:lN w a b o n ts) (hn:n≤1048576) :
  Calls prog 65 #[K a n c] w fun e w'=>kG e (yY ts n)∧Below w.heap.size w w':=by
 have aq:=@run_makeMap prog;go_enter func65,ntmps65
 go_wp2;go_loopw [11] (fun i wr=>∃ k:Nat,k≤n∧i=.int .i64 k∧(∃ d:DataW Unit,wr.ownsMap prog 9 (plainElem prog 3) w.heap.size k d∧Met d ts k)∧yY ts k∧Below w.heap.size w wr) (fun i _=>n - (intOf i).toNat)
 case atStart=>exact ⟨0,lG _,rfl,⟨_,World.ownsMap_made _ _ _ _,ab7 ts⟩,fun j p=>absurd p A,kQ⟩
 case round =>
  obtain ⟨k,V,rfl,⟨d,L,J⟩,W,l⟩:=hrel;by_cases H:k<n
  ·obtain rfl:=h.ad A
   obtain ⟨t,Q,b',o',n',R,ht,ah,ai,ak,al,aa,au,av⟩:=(h.below' l).get H;have s:Below w.heap.size w (wr.alloc (aH #[.string t.name,.int .i64 t.cost,K Q n' R] 81)):=l.alloc l.size _;have q:=L.alloc (aH #[.string t.name,.int .i64 t.cost,K Q n' R] 81);have g:Hid (t=ts.getD k dT):=ht;clear ht;have z:=WideMaps.keyOf_string_mk (P:=prog) underlying9 aa;have an:=L.lt;cases v:Maps.has d (.string t.name.data.toList) with
   | true =>
    go_wp2_with (at_lookup;refine wpList_lookup_own_ok_int _ rfl _ _ 151 rfl 9 3 .i64 UA underlying151 underlying3 (WX) w.heap.size k d rfl q _ _ rfl z ?_;intro c0 S ab)
    go_wp2;go_ret;refine ⟨kG.f ?_,s⟩;intro u;obtain ⟨j,p,hl⟩:=(J.2 _).1 v;refine (u k H).2 j p (QT ?_);rw [hl,g.out];rfl
   | false =>
    have M:Hid (Maps.has d (.string t.name.data.toList)=aK):=v;clear v;go_wp2_with (at_lookup;refine wpList_lookup_own_ok_int _ rfl _ _ 151 rfl 9 3 .i64 UA underlying151 underlying3 (WX) w.heap.size k d rfl q _ _ rfl z ?_;intro c0 S ab;rw [M.out])
    refine (XO t.name aa).mono ?_;rintro e w1 ⟨⟨r,rfl,X⟩,rfl⟩;have N:Hid _:=X;clear X S ab;cases r
    ·go_wp2
     go_ret;refine ⟨kG.f ?_,s⟩;intro u;have:=(u k H).1;rw [nm,← g.out] at this;exact absurd (N.out.2 this) D
    ·go_wp2_with (at_mapUpdate;refine wpList_mapUpdate_own _ rfl _ _ _ 151 rfl 9 3 UA underlying151 _ w.heap.size k d rfl q G _ _ _ rfl rfl z _ [] (plainElem_int underlying3 (WalkArith.wf_i64 A)) ?_;intro w1 ag T)
     have ae:Below w.heap.size w w1:=s.grown T aQ (by intro k V;cases V;exact kL);have af:=J.put g.out (.lit (.int .i64 k));clear T q L;go_wp2;go_roundw
     case rel =>
      refine ⟨k+1,A,aW,⟨_,ag,af⟩,fun j p=>?_,ae⟩;by_cases e:j=k
      ·subst e
       refine ⟨by rw [nm,← g.out];exact N.out.1 D,fun i hi he=>?_⟩;have:=(J.2 t.name.data.toList).2 ⟨i,hi,by rw [he,nm,← g.out]⟩;rw [M.out] at this;exact absurd this D
      ·exact W j A
     case measure=>simp [intOf];omega
  ·obtain rfl:k=n:=by omega
   go_wp2;go_ret;exact ⟨kG.t W,l⟩
def Code (ts:List kJ) (c:Int):Prop :=
 (c=1∧¬ (1≤ts.length∧ts.length≤40))∨((1≤ts.length∧ts.length≤40) ∧
  ((c=2∧¬ yY ts ts.length)∨(yY ts ts.length ∧
   ((c=3∧¬ Ak ts ts.length)∨(Ak ts ts.length ∧
    ((c=4∧¬ nM ts ts.length)∨(nM ts ts.length∧c=0)))))))
theorem Code.one {c d:Int} (h:Code ts c) (a:Code ts d):c=d:=by
 rcases h with ⟨rfl,e⟩ | ⟨e,h⟩ <;> rcases a with ⟨rfl,f⟩ | ⟨f,a⟩
 ·rfl
 ·exact absurd f e
 ·exact absurd e f
 rcases h with ⟨rfl,g⟩ | ⟨g,h⟩ <;> rcases a with ⟨rfl,i⟩ | ⟨i,a⟩
 ·rfl
 ·exact absurd i g
 ·exact absurd g i
 rcases h with ⟨rfl,j⟩ | ⟨j,h⟩ <;> rcases a with ⟨rfl,k⟩ | ⟨k,a⟩
 ·rfl
 ·exact absurd k j
 ·exact absurd j k
 rcases h with ⟨rfl,l⟩ | ⟨l,h⟩ <;> rcases a with ⟨rfl,o⟩ | ⟨o,a⟩
 ·rfl
 ·exact absurd o l
 ·exact absurd l o
 rw [h,a]
def uG (e:Ending) (ts:List kJ):Prop:=∃ c,e=.returned (I Y c)∧Code ts c
theorem uG.mk {c:Int} (h:Code ts c):uG (.returned (I Y c)) ts:=⟨c,rfl,h⟩
theorem ML (a:Option Addr) (b o n c:Nat) (ts:List kJ) (h:lN w a b o n ts) :
  Calls prog 41 #[aI #[K a n c]] w fun e w'=>uG e ts∧Below w.heap.size w w':=by
 have P:=h.max;unfold maxLen at P;have i:Below w.heap.size w (w.alloc (aH #[K a n c] 33)):=kQ;have d:Hid (ts.length=n):=h.len;by_cases T:n<1
 ·go_enter func41,ntmps41
  go_wp2;go_ret;exact ⟨uG.mk (.inl ⟨rfl,by rw [d.out];omega⟩),i⟩
 by_cases V:40<n
 ·go_enter func41,ntmps41
  go_wp2;go_ret;exact ⟨uG.mk (.inl ⟨rfl,by rw [d.out];omega⟩),i⟩
 have l:1≤ts.length∧ts.length≤40:=by rw [d.out];omega
 go_enter func41,ntmps41
 go_wp2_with fail
 refine (Rk a b o n c ts (h.below' i) A).mono ?_;rintro e L ⟨⟨r,rfl,f⟩,s⟩;have t:Hid _:=f;clear f;have j:=i.trans (s.mono D);have Q:L.cell? ⟨w.heap.size,0,C⟩=U (K a n c):=(s.cell (p:=⟨w.heap.size,0,C⟩) D).trans D;cases r
 ·go_wp2
  go_ret;exact ⟨uG.mk (.inr ⟨l,.inl ⟨rfl,fun g=>absurd (t.out.2 (d.out ▸ g)) D⟩⟩),j⟩
 go_wp2_with fail
 refine (Ro a b o n c ts (h.below' j)).mono ?_;rintro e S ⟨⟨r,rfl,f⟩,J⟩;have u:Hid _:=f;clear f;have k:=j.trans (J.mono j.size);have R:w.heap.size<L.heap.size:=by have:=s.size;simp at this;omega
 have W:S.cell? ⟨w.heap.size,0,C⟩=U (K a n c):=(J.cell (p:=⟨w.heap.size,0,C⟩) R).trans Q;have q:yY ts ts.length:=by rw [d.out];exact t.out.1 D
 cases r
 ·go_wp2
  go_ret;exact ⟨uG.mk (.inr ⟨l,.inr ⟨q,.inl ⟨rfl,fun g=>absurd (u.out.2 (d.out ▸ g)) D⟩⟩⟩),k⟩
 go_wp2_with fail
 refine (Pn a b o n c ts (h.below' k)).mono ?_;rintro e X ⟨⟨r,rfl,f⟩,N⟩;have v:Hid _:=f;clear f;have H:=k.trans (N.mono k.size);have z:Ak ts ts.length:=by rw [d.out];exact u.out.1 D
 cases r
 ·go_wp2
  go_ret;exact ⟨uG.mk (.inr ⟨l,.inr ⟨q,.inr ⟨z,.inl ⟨rfl,fun g=>absurd (v.out.2 (d.out ▸ g)) D⟩⟩⟩⟩),H⟩
 ·have M:nM ts ts.length:=by rw [d.out];exact v.out.1 D
  go_wp2;go_ret;exact ⟨uG.mk (.inr ⟨l,.inr ⟨q,.inr ⟨z,.inr ⟨M,rfl⟩⟩⟩⟩),H⟩
theorem boxed {wr:World} {a:Option Addr} {b o c:Nat} (h:lN w a b o n ts) (d:Below (w.heap.size+1) (w.alloc (aH #[K a n c] 33)) wr) :
  wr.cell? ⟨w.heap.size,0,C⟩=U (K a n c)∧lN wr a b o n ts∧Below w.heap.size w wr:=by
 have f:Below w.heap.size w (w.alloc (aH #[K a n c] 33)):=kQ;have e:=f.trans (d.mono A);exact ⟨(d.cell (p:=⟨w.heap.size,0,C⟩) D).trans D,h.below' e,e⟩
theorem Qx (c:k<n) (h:¬ Ie (nm ts k)∨∃ j,j<k∧nm ts j=nm ts k):¬ yY ts n:=fun a=>by
 rcases h with h | ⟨j,d,h⟩
 ·exact h (a k c).1
 ·exact (a k c).2 j d h
theorem Zi {t:ByteArray} (h:s≠t):(s.toList == t.toList)=aK:=by
 rw [beq_eq_false_iff_ne];intro e;rw [Di,Di] at e;exact h (QT e)
theorem ru (a:Option Addr) (b o n c:Nat) (ts:List kJ) (h:lN w a b o n ts) :
  Calls prog 18 #[aI #[K a n c]] w fun e w'=>uG e ts∧Below w.heap.size w w':=by
 have bo:=h.max;unfold maxLen at bo;have ax:Below w.heap.size w (w.alloc (aH #[K a n c] 33)):=kQ;have f:Hid (ts.length=n):=h.len;by_cases h1:n<1
 ·go_enter func18,ntmps18
  go_wp2;go_ret;exact ⟨uG.mk (.inl ⟨rfl,by rw [f.out];omega⟩),ax⟩
 by_cases h2:40<n
 ·go_enter func18,ntmps18
  go_wp2;go_ret;exact ⟨uG.mk (.inl ⟨rfl,by rw [f.out];omega⟩),ax⟩
 have v:Hid (1≤ts.length∧ts.length≤40):=by show 1≤ts.length∧ts.length≤40;rw [f.out];omega
 obtain rfl:=h.ad A;go_enter func18,ntmps18
 go_wp2;go_loopw [4] (fun i wr=>∃ k:Nat,k≤n∧i=I Y k∧yY ts k∧Below (w.heap.size+1) (w.alloc (aH #[K (U ⟨b,o,C⟩) n c] 33)) wr) (fun i _=>n - (intOf i).toNat)
 case atStart=>exact ⟨0,lG _,rfl,fun j g=>absurd g A,mD⟩
 case round =>
  obtain ⟨k,hk,rfl,q,hb⟩:=hrel;by_cases aa:k<n
  ·obtain ⟨af,s,H⟩:=boxed h hb
   obtain ⟨t,a',b',o',z,c',J,T,V,W,p,an,bd,bf⟩:=s.get aa;have a8:(k:Int)<(n:Int):=A;have l:Hid (t=ts.getD k dT):=J;clear J s p V W;go_wp2_with fail
   refine (UF t.name an).mono ?_;rintro e w1 ⟨⟨r,rfl,hr⟩,bj⟩;have HR:Hid _:=hr;clear hr;rw [bj];clear bj w1;cases r
   ·go_wp2
    go_ret;exact ⟨uG.mk (.inr ⟨v.out,.inl ⟨rfl,by rw [f.out];exact Qx aa (.inl fun u=>absurd (HR.out.2 (by rw [l.out];exact u)) D)⟩⟩),H⟩
   go_wp2;go_loopw [5] (fun x ab=>∃ m:Nat,m≤k∧x=I Y m∧(∀ j,j<m→nm ts j≠nm ts k)∧Below (w.heap.size+1) (w.alloc (aH #[K (U ⟨b,o,C⟩) n c] 33)) ab) (fun x _=>k - (intOf x).toNat)
   case atStart=>exact ⟨0,lG _,rfl,fun j g=>absurd g A,hb⟩
   case round =>
    obtain ⟨m,hm,rfl,bb,M⟩:=hrel;by_cases bn:m<k
    ·obtain ⟨bk,ae,R⟩:=boxed h M
     obtain ⟨t2,a2,b2,o2,n2,c2,bg,bl,_,_,_,_,_,_⟩:=ae.get (show m<n by omega);obtain ⟨t3,a3,b3,o3,n3,c3,bh,bz,_,_,_,_,_,_⟩:=ae.get aa;have b4:(m:Int)<(k:Int):=A;have b5:(m:Int)<(n:Int):=A;have au:Hid (t2.name=nm ts m):=by show t2.name=nm ts m;rw [nm,bg]
     have av:Hid (t3.name=nm ts k):=by show t3.name=nm ts k;rw [nm,bh]
     clear bg bh ae;by_cases e:t2.name=t3.name
     ·rw [e] at bl
      have HE:Hid _:=e;clear e;go_wp2;go_quiet (fail)
      go_wp2;go_ret;exact ⟨uG.mk (.inr ⟨v.out,.inl ⟨rfl,by rw [f.out];exact Qx aa (.inr ⟨m,bn,by rw [← au.out,← av.out];exact HE.out⟩)⟩⟩),below_drewN R _⟩
     ·have bw:=Zi e
      go_wp2;go_quiet (fail)
      go_wp2;go_roundw
      case rel =>
       refine ⟨m+1,A,aW,fun j g=>?_,below_drewN M _⟩;by_cases Q:j=m
       ·subst Q;rw [← au.out,← av.out];exact e
       ·exact bb j A
      case measure=>simp [intOf];omega
    ·obtain rfl:m=k:=by omega
     go_wp2;go_roundw
     case rel =>
      refine ⟨m+1,A,aW,fun j g=>?_,M⟩;by_cases Q:j=m
      ·subst Q;exact ⟨by rw [nm,← l.out];exact HR.out.1 D,bb⟩
      ·exact q j A
     case measure=>simp [intOf];omega
  ·obtain rfl:k=n:=by omega
   have L:Hid (yY ts ts.length):=by show yY ts ts.length;rw [f.out];exact q
   clear q;go_wp2;go_loopw [6] (fun i wr=>∃ m:Nat,m≤k∧i=I Y m∧Ak ts m∧Below (w.heap.size+1) (w.alloc (aH #[K (U ⟨b,o,C⟩) k c] 33)) wr) (fun i _=>k - (intOf i).toNat)
   case atStart=>exact ⟨0,lG _,rfl,fun j g=>absurd g A,hb⟩
   case round =>
    obtain ⟨m,hm,rfl,q,M⟩:=hrel;obtain ⟨af,s,H⟩:=boxed h M;by_cases ak:m<k
    ·obtain ⟨t,a',b',o',z,c',J,T,V,W,p,an,bd,bf⟩:=s.get ak
     have a8:(m:Int)<(k:Int):=A;have l:Hid (t=ts.getD m dT):=J;clear J s p T W;by_cases g1:t.cost<1
     ·go_wp2
      go_ret;refine ⟨uG.mk (.inr ⟨v.out,.inr ⟨L.out,.inl ⟨rfl,?_⟩⟩⟩),H⟩;rw [f.out];intro u;have:=(u m ak).1;rw [← l.out] at this;omega
     by_cases g2:20<t.cost
     ·go_wp2
      go_ret;refine ⟨uG.mk (.inr ⟨v.out,.inr ⟨L.out,.inl ⟨rfl,?_⟩⟩⟩),H⟩;rw [f.out];intro u;have:=(u m ak).2;rw [← l.out] at this;omega
     ·go_wp2
      go_roundw
      case rel =>
       refine ⟨m+1,A,aW,fun j g=>?_,M⟩;by_cases Q:j=m
       ·subst Q;rw [← l.out];exact ⟨A,A⟩
       ·exact q j A
      case measure=>simp [intOf];omega
    ·obtain rfl:m=k:=by omega
     have P:Hid (Ak ts ts.length):=by show Ak ts ts.length;rw [f.out];exact q
     clear q af s H;go_wp2;go_loopw [7] (fun i wr=>∃ k:Nat,k≤m∧i=I Y k∧nM ts k∧Below (w.heap.size+1) (w.alloc (aH #[K (U ⟨b,o,C⟩) m c] 33)) wr) (fun i _=>m - (intOf i).toNat)
     case atStart=>exact ⟨0,lG _,rfl,fun j g=>absurd g A,M⟩
     case round =>
      obtain ⟨k,hk,rfl,q,a6⟩:=hrel;obtain ⟨af,s,H⟩:=boxed h a6;by_cases al:k<m
      ·obtain ⟨t,a',b',o',z,c',J,T,V,W,p,an,bd,bf⟩:=s.get al
       have a8:(k:Int)<(m:Int):=A;have l:Hid (t=ts.getD k dT):=J;have bp:=p.max;unfold maxLen at bp;clear J s T V;by_cases g1:8<z
       ·go_wp2
        go_ret;refine ⟨uG.mk (.inr ⟨v.out,.inr ⟨L.out,.inr ⟨P.out,.inl ⟨rfl,?_⟩⟩⟩⟩),H⟩;rw [f.out];intro u;have:=(u k al).1;rw [← l.out,p.len] at this;omega
       go_wp2;go_loopw [9] (fun x ab=>∃ j:Nat,j≤z∧x=I Y j∧asc k t.deps j∧Below (w.heap.size+1) (w.alloc (aH #[K (U ⟨b,o,C⟩) m c] 33)) ab∧Below wr.heap.size wr ab) (fun x _=>z - (intOf x).toNat)
       case atStart=>exact ⟨0,lG _,rfl,fun j g=>absurd g A,a6,mD⟩
       case round =>
        obtain ⟨j,g,rfl,aw,S,ag⟩:=hrel;obtain ⟨bk,_,R⟩:=boxed h S;by_cases ba:j<z
        ·obtain rfl:=p.ad A
         have a7:=p.below' ag;have X:=a7.cell j ba;have b0:(j:Int)<(z:Int):=A;have ay:∀ d:Int,d=t.deps.getD j 0→(d<0∨(k:Int)≤d∨(0<j∧d≤t.deps.getD (j - 1) 0))→¬ nM ts m:=fun d X bq u=>by
          have:=(u k al).2 j (by rw [← l.out,p.len];exact ba);rw [← l.out,← X] at this;rcases bq with h | h | ⟨h,h'⟩
          ·omega
          ·omega
          ·have:=this.2.2 h;omega
         have HB:Hid _:=ay;clear ay;obtain ⟨d, ah⟩ := kC (t.deps.getD j 0);rw [← ah] at X;have N:Hid (d=t.deps.getD j 0):=ah;clear ah;by_cases q1:d<0
         ·have br:decide (d<0)=aN:=by simpa using q1
          go_wp2;go_quiet (fail)
          go_wp2;go_ret;exact ⟨uG.mk (.inr ⟨v.out,.inr ⟨L.out,.inr ⟨P.out,.inl ⟨rfl,by rw [f.out];exact HB.out d N.out (.inl q1)⟩⟩⟩⟩),below_drewN R _⟩
         have br:decide (d<0)=aK:=by simpa using q1
         by_cases q2:(k:Int)≤d
         ·have bs:decide ((k:Int)≤d)=aN:=by simpa using q2
          go_wp2;go_quiet (fail)
          go_wp2;go_ret;exact ⟨uG.mk (.inr ⟨v.out,.inr ⟨L.out,.inr ⟨P.out,.inl ⟨rfl,by rw [f.out];exact HB.out d N.out (.inr (.inl q2))⟩⟩⟩⟩),below_drewN R _⟩
         have bs:decide ((k:Int)≤d)=aK:=by simpa using q2
         have bc:(0<j→t.deps.getD (j - 1) 0<d)→asc k t.deps (j+1):=fun bm x hx=>by
          by_cases ex:x=j
          ·subst ex;rw [← N.out];exact ⟨A,A,bm⟩
          ·exact aw x A
         have HX:Hid _:=bc;clear bc;by_cases q3:j=0
         ·subst q3
          simp only [Nat.add_zero] at X;go_wp2;go_quiet (fail)
          go_wp2;go_roundw
          case rel=>exact ⟨0+1,A,aW,HX.out (fun h=>absurd h A),below_drewN S _,below_drewN ag _⟩
          case measure=>simp [intOf];omega
         obtain ⟨j,rfl⟩:∃ x,j=x+1:=⟨j - 1,A⟩
         have he:=a7.cell j A;obtain ⟨d2, ai⟩ := kC (t.deps.getD j 0);rw [← ai] at he;have aq:Hid (d2=t.deps.getD j 0):=ai;clear ai;have b1:(j:Int)<(z:Int):=A;by_cases q4:d≤d2
         ·have bu:decide (d≤d2)=aN:=by simpa using q4
          go_wp2;go_quiet (fail)
          go_wp2;go_ret;exact ⟨uG.mk (.inr ⟨v.out,.inr ⟨L.out,.inr ⟨P.out,.inl ⟨rfl,by rw [f.out];exact HB.out d N.out (.inr (.inr ⟨A,by rw [show j+1 - 1=j by omega,← aq.out];exact q4⟩))⟩⟩⟩⟩),below_drewN R _⟩
         ·have bu:decide (d≤d2)=aK:=by simpa using q4
          go_wp2;go_quiet (fail)
          go_wp2;go_roundw
          case rel=>exact ⟨j+1+1,A,aW,HX.out (fun _=>by rw [show j+1 - 1=j by omega,← aq.out];omega),below_drewN S _,below_drewN ag _⟩
          case measure=>simp [intOf];omega
        ·obtain rfl:j=z:=by omega
         go_wp2;go_roundw
         case rel =>
          refine ⟨k+1,A,aW,fun x hx=>?_,S⟩;by_cases ex:x=k
          ·subst ex;rw [← l.out];exact ⟨by rw [p.len];omega,by rw [p.len];exact aw⟩
          ·exact q x A
         case measure=>simp [intOf];omega
      ·obtain rfl:k=m:=by omega
       have N:Hid (nM ts ts.length):=by show nM ts ts.length;rw [f.out];exact q
       go_wp2;go_ret;exact ⟨uG.mk (.inr ⟨v.out,.inr ⟨L.out,.inr ⟨P.out,.inr ⟨N.out,rfl⟩⟩⟩⟩),H⟩
def rs (R:List ByteArray) (j:Nat):ByteArray:=R.getD j ByteArray.empty
def U6 (R:List ByteArray) (a:List Int) (k:Nat):Prop:=∀ j,j<k→¬ (rs R (a.getD j 0).toNat).size=0
def Il (ts:List kJ) (R:List ByteArray) (d:Nat):Prop:=U6 R (ts.getD d dT).deps (ts.getD d dT).deps.length
def uw (ts:List kJ) (R:List ByteArray) (d:Nat):Prop:=(rs R d).size=0∧Il ts R d
theorem Qc {d:Nat} (h:nM ts n) (a:d<n) (c:j<(ts.getD d dT).deps.length):∃ q:Nat,(ts.getD d dT).deps.getD j 0=(q:Int)∧q<n:=by
 obtain ⟨e,f,_⟩:=(h d a).2 j c;exact ⟨((ts.getD d dT).deps.getD j 0).toNat,A,A⟩
theorem Gw (a:Option Addr) (b o n c:Nat) (ts:List kJ) (ar:Option Addr) (T or' cr:Nat) (R:List ByteArray) (d:Nat) (w:World) (h:lN w a b o n ts) (v:kS w ar T or' n R) (M:d<n) (W:nM ts n) :
  Calls prog 36 #[aI #[K a n c],K ar n cr,I Y d] w fun e w'=>kG e (Il ts R d)∧Below w.heap.size w w':=by
 have af:=h.max;unfold maxLen at af;have L:Below w.heap.size w (w.alloc (aH #[K a n c] 33)):=kQ;obtain rfl:=h.ad A;obtain rfl:=v.ad A;have hl:=h.lt A;have an:=v.lt A;obtain ⟨t,a',S,o',p,c',Q,X,aa,ai,hi,_,_⟩:=h.get M;have l:=hid Q;clear Q X aa;have al:(d:Int)<(n:Int):=A;have ae:=hi.max;unfold maxLen at ae;go_enter func36,ntmps36
 go_wp2;go_loopw [8] (fun i wr=>∃ k:Nat,k≤p∧i=I Y k∧U6 R t.deps k∧wr=w.alloc (aH #[K (U ⟨b,o,C⟩) n c] 33)) (fun i _=>p - (intOf i).toNat)
 case atStart=>exact ⟨0,lG _,rfl,fun j N=>absurd N A,rfl⟩
 case round =>
  obtain ⟨k,hk,rfl,P,rfl⟩:=hrel;by_cases z:k<p
  ·obtain rfl:=hi.ad A
   have ah:=hi.lt A;obtain ⟨q,r,ag⟩:=Qc W M (j:=k) (by rw [← l.out,hi.len];exact z);rw [← l.out] at r;have ak:w.cell? ⟨S,o'+k,C⟩=U (I Y (q:Int)):=by rw [← r];exact hi.cell k z
   have ab:=v.cell q ag;obtain ⟨s, H⟩ := kC (R.getD q ByteArray.empty);rw [← H] at ab;have J:Hid (rs R (t.deps.getD k 0).toNat=s):=by rw [r,H];rfl
   clear H r;have aq:(k:Int)<(p:Int):=A;have au:(q:Int)<(n:Int):=A;by_cases g:s.size=0
   ·have V:=oP g
    have u:=hid g;clear g;go_wp2;go_ret;refine ⟨kG.f fun hh=>?_,L⟩;have:=hh k (by rw [← l.out,hi.len];exact z);rw [← l.out,J.out] at this;exact this u.out
   ·have V:=oQ g
    have u:=hid g;clear g;go_wp2;go_roundw
    case rel =>
     refine ⟨k+1,A,aW,fun j N=>?_,by first | trivial | rfl⟩;by_cases e:j=k
     ·subst e;rw [J.out];exact u.out
     ·exact P j A
    case measure=>simp [intOf];omega
  ·obtain rfl:k=p:=by omega
   go_wp2;go_ret;exact ⟨kG.t (by unfold Il;rw [← l.out,hi.len];exact P),L⟩
theorem Qz (a:Option Addr) (b o n c:Nat) (ts:List kJ) {ar:Option Addr} (br or' cr:Nat) (R:List ByteArray) (d:Nat) (w:World) (h:lN w a b o n ts) (u:kS w ar br or' n R) (L:d<n) (hA:nM ts n) :
  Calls prog 46 #[aI #[K a n c],K ar n cr,I Y d] w fun e w'=>kG e (uw ts R d)∧Below w.heap.size w w':=by
 have ai:=h.max;unfold maxLen at ai;have J:Below w.heap.size w (w.alloc (aH #[K a n c] 33)):=kQ;obtain rfl:=h.ad A;obtain rfl:=u.ad A;have hl:=h.lt A;have aw:=u.lt A;obtain ⟨t,a',b',o',r,c',X,ab,ae,aq,hi,_,_⟩:=h.get L;have p:=hid X;clear X ab ae;have av:(d:Int)<(n:Int):=A;have ah:=hi.max;unfold maxLen at ah;have af:=u.cell d L;obtain ⟨x, Q⟩ := kC (R.getD d ByteArray.empty);rw [← Q] at af;have T:Hid (rs R d=x):=by rw [Q];rfl
 clear Q;by_cases l:x.size=0
 ·have al:=oP l
  have H:=hid l;clear l;go_enter func46,ntmps46
  go_wp2;go_loopw [21] (fun i wr=>∃ k:Nat,k≤r∧i=I Y k∧U6 R t.deps k∧wr=w.alloc (aH #[K (U ⟨b,o,C⟩) n c] 33)) (fun i _=>r - (intOf i).toNat)
  case atStart=>exact ⟨0,lG _,rfl,fun j V=>absurd V A,rfl⟩
  case round =>
   obtain ⟨k,hk,rfl,W,rfl⟩:=hrel;by_cases N:k<r
   ·obtain rfl:=hi.ad A
    have an:=hi.lt A;obtain ⟨q,v,ak⟩:=Qc hA L (j:=k) (by rw [← p.out,hi.len];exact N);rw [← p.out] at v;have au:w.cell? ⟨b',o'+k,C⟩=U (I Y (q:Int)):=by rw [← v];exact hi.cell k N
    have ag:=u.cell q ak;obtain ⟨s, P⟩ := kC (R.getD q ByteArray.empty);rw [← P] at ag;have S:Hid (rs R (t.deps.getD k 0).toNat=s):=by rw [v,P];rfl
    clear P v;have ax:(k:Int)<(r:Int):=A;have ay:(q:Int)<(n:Int):=A;by_cases g:s.size=0
    ·have aa:=oP g
     have z:=hid g;clear g;go_wp2;go_ret;refine ⟨kG.f fun M=>?_,J⟩;have:=M.2 k (by rw [← p.out,hi.len];exact N);rw [← p.out,S.out] at this;exact this z.out
    ·have aa:=oQ g
     have z:=hid g;clear g;go_wp2;go_roundw
     case rel =>
      refine ⟨k+1,A,aW,fun j V=>?_,by first | trivial | rfl⟩;by_cases e:j=k
      ·subst e;rw [S.out];exact z.out
      ·exact W j A
     case measure=>simp [intOf];omega
   ·obtain rfl:k=r:=by omega
    go_wp2;go_ret;exact ⟨kG.t ⟨by rw [T.out];exact H.out,by unfold Il;rw [← p.out,hi.len];exact W⟩,J⟩
 ·have al:=oQ l
  have H:=hid l;clear l;go_enter func46,ntmps46
  go_wp2;go_ret;exact ⟨kG.f fun M=>H.out (by rw [← T.out];exact M.1),J⟩
open Classical in
noncomputable def Gn (s:ByteArray):Option (Int × Int × Int × ByteArray) :=
 if h:∃ q:Int × Int × Int × ByteArray,qh s q.1 q.2.1 q.2.2.1 q.2.2.2 then U (Classical.choose h) else C
theorem JR {k d:Int} (h:qh s k e d x):Gn s=U (k,e,d,x):=by
 have hex:∃ q:Int × Int × Int × ByteArray,qh s q.1 q.2.1 q.2.2.1 q.2.2.2:=⟨(k,e,d,x),h⟩
 unfold Gn;rw [dif_pos hex];obtain ⟨a,c,f,g⟩:=(Classical.choose_spec hex).uniq h;congr 1
 exact Prod.ext a (Prod.ext c (Prod.ext f g))
theorem NU (h:Vl s):Gn s=C:=by
 unfold Gn;rw [dif_neg];rintro ⟨q,a⟩;exact h ⟨_,_,_,_,a⟩
theorem NV {k d:Int} (h:Gn s=U (k,e,d,x)):qh s k e d x:=by
 by_cases c:Vl s
 ·rw [NU c] at h;cases h
 ·obtain ⟨i,g,f,j,a⟩:=Classical.not_not.1 c
  rw [JR a] at h;cases h
  exact a
abbrev St:=Int × List ByteArray
variable {st':St}
open Classical in
noncomputable def step1 (ts:List kJ) (st:St) (q:Int × Int × Int × ByteArray):Option St :=
 if q.1=1 then (if q.2.1=st.1+1 then U (q.2.1,st.2) else C)
 else if q.2.1=st.1∧q.2.2.1<ts.length∧uw ts st.2 q.2.2.1.toNat then U (st.1,st.2.set q.2.2.1.toNat q.2.2.2) else C
noncomputable def qB (ts:List kJ) (st:St) (s:ByteArray):Option St:=(Gn s).bind (step1 ts st)
noncomputable def rep (ts:List kJ):List ByteArray→St→Option St
 | [],st=>U st
 | s :: r,st=>(qB ts st s).bind (rep ts r)
theorem JK (ts:List kJ) (l r:List ByteArray) (st:St):rep ts (l ++ r) st=(rep ts l st).bind (rep ts r):=by
 induction l generalizing st with
 | nil=>rfl
 | cons s l ih =>
  simp only [Eo,rep];cases qB ts st s with
  | none=>rfl
  | some st'=>exact ih st'
theorem Fe (ts:List kJ) (l:List ByteArray) (s:ByteArray) (st:St):rep ts (l ++ [s]) st=(rep ts l st).bind (fun st'=>qB ts st' s):=by
 rw [JK];cases rep ts l st with
 | none=>rfl
 | some st'=>simp [rep]
theorem Ul {l r:List ByteArray} {st:St} (h:rep ts l st=C):rep ts (l ++ r) st=C:=by rw [JK,h];rfl
def N9 (n m:Nat) (st:St):Prop:=0≤st.1∧st.1≤m∧st.2.length=n∧∀ s∈st.2,s.size≤8
theorem ZE {m:Nat} {st:St} {k d:Int} (i:x.size≤8) (h:N9 n m st) (a:step1 ts st (k,e,d,x)=U st'):N9 n (m+1) st':=by
 obtain ⟨g,j,c,f⟩:=h;unfold step1 at a;dsimp only at a;split at a
 ·split at a
  ·cases a
   exact ⟨aT,aT,c,f⟩
  ·cases a
 ·split at a
  ·cases a
   refine ⟨g,aT,fZ,fun s a=>?_⟩;rcases LC a with h | h
   ·exact f s h
   ·rw [h];exact i
  ·cases a
theorem ZC {m:Nat} {st:St} (h:N9 n m st) (a:qB ts st s=U st'):N9 n (m+1) st':=by
 unfold qB at a;cases he:Gn s with
 | none=>rw [he] at a;cases a
 | some q =>
  obtain ⟨k,e,d,x⟩:=q;rw [he] at a;exact ZE (OB (NV he).1).2.2.2.2 h a
def st0 (n:Nat):St:=(0,List.replicate n ⟨#[]⟩)
theorem Ey (n:Nat):N9 n 0 (st0 n):=⟨by simp [st0],by simp [st0],by simp [st0],fun s a=>by
 have:=List.eq_of_mem_replicate a;subst this;decide⟩
theorem Ez (l:List ByteArray) {m:Nat} {st:St} (h:N9 n m st) (a:rep ts l st=U st'):N9 n (m+l.length) st':=by
 induction l generalizing st m with
 | nil=>cases a;exact h
 | cons s l ih =>
  unfold rep at a;cases c:qB ts st s with
  | none=>rw [c] at a;cases a
  | some d =>
   rw [c] at a;have:=ih (ZC h c) a;rw [pX,show m+(l.length+1)=m+1+l.length by omega];exact this
def rJ (ts:List kJ) (L:List ByteArray) (c a:Int) (R:List ByteArray):Prop :=
 (¬ (Code ts 0∧L.length≤310)∧c=1∧a=0∧R=[])∨((Code ts 0∧L.length≤310)∧((rep ts L (st0 ts.length)=C∧c=2∧a=0∧R=[])∨(rep ts L (st0 ts.length)=U (a,R)∧c=0)))
def Qh (d:Ending) (w w':World) (ts:List kJ) (L:List ByteArray):Prop :=
 ∃ (c a:Int) (R:List ByteArray) (v:Value),d=.returned (aI #[I Y c,I Y a,v])∧rJ ts L c a R∧Own w.heap.size w' 1 v R.length (R.map E)
end Go.Proofs.YtfkkipgcfoegmaaGreat
