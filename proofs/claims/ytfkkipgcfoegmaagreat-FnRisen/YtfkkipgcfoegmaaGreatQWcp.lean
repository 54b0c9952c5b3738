
import Derived.Test.YtfkkipgcfoegmaaGreatQCel
import Derived.Deep.DeepCutAuto
import Derived.Deep.RegionLaw
set_option maxHeartbeats 8000000
set_option maxRecDepth 100000
namespace Go.Proofs.YtfkkipgcfoegmaaGreat
open Go.Proofs.Tryz
open Go.Value renaming slice→K,string→E,bool→aF,agg→aI
open Option renaming none→C,some→U
open Go.Obj renaming cells→aH
open Go.Value renaming int→I
open Go.IntKind renaming i64→Y
open Go.RowKit
variable {a:Option Addr} {co ep le lf nu si ta:Int} {n z:Nat} {ss:List ByteArray} {up:Bool} {w:World}
def vW (nu ep:Int) (up:Bool) (st le ta co lf:Int) (ss:List ByteArray) (z:Nat) (si:Int):Prop :=
 1≤nu∧nu≤8∧1≤ep∧ep≤300∧0≤si∧si≤1000000∧(up=false→st=0∧si=0) ∧
 ((st=0∧le=0∧ta=0∧co=0∧lf=0∧ss.length=0∧z=0) ∨
  (st=1∧1≤le∧le≤300000000∧0≤ta∧ta≤39∧1≤co∧co≤20∧1≤lf∧lf≤co∧z=0∧Ae ss) ∨
  (st=2∧1≤le∧le≤300000000∧0≤ta∧ta≤39∧z=8∧co=0∧lf=0∧ss.length=0))
theorem ady {st:Int} (h:vW nu ep up st le ta co lf ss z si):st=0∨st=1∨st=2:=by
 rcases h.2.2.2.2.2.2.2 with h | h | h
 ·exact .inl h.1
 ·exact .inr (.inl h.1)
 ·exact .inr (.inr h.1)
def vWt (nu ep:Int) (up:Bool) (st si:Int):Prop:=1≤nu∧nu≤8∧1≤ep∧ep≤300∧0≤si∧si≤1000000∧(up=false→st=0∧si=0)
theorem vW1:vW nu ep up 1 le ta co lf ss z si ↔ (vWt nu ep up 1 si∧1≤le∧le≤300000000∧0≤ta∧ta≤39∧1≤co∧co≤20∧1≤lf∧lf≤co∧z=0∧Ae ss):=by
 unfold vW vWt;constructor
 ·rintro ⟨a,c,d,e,f,g,i,h | h | h⟩
  ·exact absurd h.1 cZ
  ·exact ⟨⟨a,c,d,e,f,g,i⟩,h.2⟩
  ·exact absurd h.1 cZ
 ·rintro ⟨⟨a,c,d,e,f,g,i⟩,h⟩;exact ⟨a,c,d,e,f,g,i,.inr (.inl ⟨rfl,h⟩)⟩
theorem EH (x a b:Int):(inB x a b=false∧Hid (¬ (a≤x∧x≤b)))∨(inB x a b=true∧Hid (a≤x∧x≤b)):=by
 cases h:inB x a b with
 | false=>exact .inl ⟨rfl,mO h⟩
 | true=>exact .inr ⟨rfl,mM h⟩
theorem qg (x y:Int):((x == y)=false∧Hid (¬ (x=y)))∨((x == y)=true∧Hid (x=y)):=by
 cases h:(x == y) with
 | false=>exact .inl ⟨rfl,hid fV⟩
 | true=>exact .inr ⟨rfl,hid fV⟩
theorem O5 (x:ByteArray):(x.toList.isEmpty=false∧Hid (¬ (x.size=0)))∨(x.toList.isEmpty=true∧Hid (x.size=0)):=by
 cases h:x.toList.isEmpty with
 | false=>exact .inl ⟨rfl,fun a=>by rw [oP a] at h;cases h⟩
 | true=>exact .inr ⟨rfl,hid (Decidable.byContradiction fun a=>by rw [oQ a] at h;cases h)⟩
theorem sLw {P:Prop} (h:P:=by
  go_enter func100,ntmps100
  go_wp2_with (first | (go_at_call 19;refine (kP _ _ _).mono ?_;rintro e' w' ⟨rfl,rfl⟩) | (go_at_call 21;refine (kN).mono ?_;rintro e' w' ⟨rfl,rfl⟩) | (go_at_call 109;refine (Fj a b o n c ss (h.below' hb0)).mono ?_;rintro e' w' ⟨⟨r,rfl,hr⟩,rfl⟩;first | (obtain rfl:=hr.2 GI.out;clear hr) | (obtain rfl:r=false:=Bool.eq_false_iff.2 (fun hb=>GI.out (hr.1 hb));clear hr)))
  go_ret;have:=HL.out;(try have:=GN.out)
  (try have:=GE.out)
  (try have:=GS.out)
  (try have:=GZ.out)
  (try have:=GL.out)
  (try have:=GT.out)
  (try have:=GC.out)
  (try have:=GF.out)
  (try have:=GX.out)
  (try have:=GI.out)
  first
   | (refine ⟨kG.t ?_,hb0⟩;unfold vW;refine ⟨A,A,A,A,A,A,fun hh=>by first | (cases hh;done) | exact ⟨A,A⟩,?_⟩;first | (left;omega) | (right;right;omega) | exact .inr (.inl ⟨A,A,A,A,A,A,A,A,A,A,GI.out⟩))
   | (refine ⟨kG.f fun hv=>?_,hb0⟩;obtain ⟨v1,v2,v3,v4,v5,v6,v7,hv⟩:=hv;(try have:=v7 rfl);rcases hv with hv | hv | hv <;> first | omega | exact absurd hv.2.2.2.2.2.2.2.2.2.2 GI.out)):P:=h
theorem pO {P:Prop} (h:P:=by exact sLw):P:=h
theorem JC (nu ep:Int) (up:Bool) (st le ta co lf:Int) (a:Option Addr) (b o n c:Nat) (ss:List ByteArray) (x:ByteArray) (si:Int) (h:kS w a b o n ss) :
  Calls prog 100 #[aI #[I Y nu,I Y ep,aF up,I Y st,I Y le,I Y ta,I Y co,I Y lf,K a n c,E x,I Y si]] w fun e' w'=>kG e' (vW nu ep up st le ta co lf ss x.size si)∧Below w.heap.size w w':=by
 have hb0:Below w.heap.size w (w.alloc (aH #[I Y nu,I Y ep,aF up,I Y st,I Y le,I Y ta,I Y co,I Y lf,K a n c,E x,I Y si] 127)):=kQ;have HL:Hid (ss.length=n):=h.len;have M:=h.max;unfold maxLen at M;rcases EH nu 1 8 with ⟨H,GN⟩ | ⟨H,GN⟩
 ·exact pO
 rcases EH ep 1 300 with ⟨z,GE⟩ | ⟨z,GE⟩
 ·exact pO
 rcases EH si 0 1000000 with ⟨J,GS⟩ | ⟨J,GS⟩
 ·exact pO
 rcases qg st 0 with ⟨s,j⟩ | ⟨-,j⟩
 ·cases up
  ·have GZ:=j
   exact pO
  rcases qg st 1 with ⟨v,l⟩ | ⟨-,l⟩
  ·rcases qg st 2 with ⟨N,p⟩ | ⟨-,p⟩
   ·have GZ:=hid (And.intro j.out (And.intro l.out p.out))
    exact pO
   obtain rfl:=p.out;clear s v j l p;rcases EH le 1 300000000 with ⟨e,GL⟩ | ⟨e,GL⟩
   ·exact pO
   rcases EH ta 0 39 with ⟨g,GT⟩ | ⟨g,GT⟩
   ·exact pO
   rcases qg (x.size:Int) 8 with ⟨i,GX⟩ | ⟨i,GX⟩
   ·exact pO
   rcases qg co 0 with ⟨d,GC⟩ | ⟨d,GC⟩
   ·exact pO
   rcases qg lf 0 with ⟨hF,GF⟩ | ⟨hF,GF⟩
   ·exact pO
   rcases qg (n:Int) 0 with ⟨k,GI⟩ | ⟨k,GI⟩
   ·exact pO
   exact pO
  obtain rfl:=l.out;clear s j l;rcases EH le 1 300000000 with ⟨e,GL⟩ | ⟨e,GL⟩
  ·exact pO
  rcases EH ta 0 39 with ⟨g,GT⟩ | ⟨g,GT⟩
  ·exact pO
  rcases EH co 1 20 with ⟨d,GC⟩ | ⟨d,GC⟩
  ·exact pO
  rcases EH lf 1 co with ⟨hF,GF⟩ | ⟨hF,GF⟩
  ·exact pO
  by_cases q:Ae ss
  ·have GI:=hid q
   clear q;rcases O5 x with ⟨i,GX⟩ | ⟨i,GX⟩
   ·exact pO
   exact pO
  have GI:=hid q;clear q;exact pO
 obtain rfl:=j.out;clear j;rcases qg si 0 with ⟨L,GZ⟩ | ⟨L,GZ⟩
 ·cases up
  ·exact pO
  clear GZ;rcases qg le 0 with ⟨e,GL⟩ | ⟨e,GL⟩
  ·exact pO
  rcases qg ta 0 with ⟨g,GT⟩ | ⟨g,GT⟩
  ·exact pO
  rcases qg co 0 with ⟨d,GC⟩ | ⟨d,GC⟩
  ·exact pO
  rcases qg lf 0 with ⟨hF,GF⟩ | ⟨hF,GF⟩
  ·exact pO
  rcases qg (n:Int) 0 with ⟨k,GI⟩ | ⟨k,GI⟩
  ·exact pO
  rcases O5 x with ⟨i,GX⟩ | ⟨i,GX⟩
  ·exact pO
  exact pO
 have u:=GZ;clear GZ;cases up
 ·have GZ:=u
  rcases qg le 0 with ⟨e,GL⟩ | ⟨e,GL⟩
  ·exact pO
  rcases qg ta 0 with ⟨g,GT⟩ | ⟨g,GT⟩
  ·exact pO
  rcases qg co 0 with ⟨d,GC⟩ | ⟨d,GC⟩
  ·exact pO
  rcases qg lf 0 with ⟨hF,GF⟩ | ⟨hF,GF⟩
  ·exact pO
  rcases qg (n:Int) 0 with ⟨k,GI⟩ | ⟨k,GI⟩
  ·exact pO
  rcases O5 x with ⟨i,GX⟩ | ⟨i,GX⟩
  ·exact pO
  exact pO
 rcases qg le 0 with ⟨e,GL⟩ | ⟨e,GL⟩
 ·exact pO
 rcases qg ta 0 with ⟨g,GT⟩ | ⟨g,GT⟩
 ·exact pO
 rcases qg co 0 with ⟨d,GC⟩ | ⟨d,GC⟩
 ·exact pO
 rcases qg lf 0 with ⟨hF,GF⟩ | ⟨hF,GF⟩
 ·exact pO
 rcases qg (n:Int) 0 with ⟨k,GI⟩ | ⟨k,GI⟩
 ·exact pO
 rcases O5 x with ⟨i,GX⟩ | ⟨i,GX⟩
 ·exact pO
 exact pO






theorem Gx (nu ep:Int) (up:Bool) (st le ta co lf:Int) (a:Option Addr) (n c:Nat) (x:ByteArray) (si:Int) (s2:Int) :
  Calls prog 101 #[aI #[I Y nu,I Y ep,aF up,I Y st,I Y le,I Y ta,I Y co,I Y lf,K a n c,E x,I Y si],I Y s2] w fun e d=>e=.returned (aI #[I Y nu,I Y ep,aF up,I Y 0,I Y 0,I Y 0,I Y 0,I Y 0,K C 0 0,E ⟨#[]⟩,I Y s2])∧Below w.heap.size w d:=by
 go_enter func101,ntmps101
 go_wp2;exact bodyPost_ret (v:=aI #[I Y nu,I Y ep,aF up,I Y 0,I Y 0,I Y 0,I Y 0,I Y 0,K C 0 0,E ⟨#[]⟩,I Y s2]) (by simp [results,results101,go_sem]) rfl ⟨rfl,jQ⟩
theorem kS.src {b o:Nat} (h:kS w a b o n ss) (c:Nat):Src prog 1 23 (K a n c) n (ss.map E) w:=by
 have g:∀ u∈ss.map E,u.oneCell'=true:=fun u hu=>by obtain ⟨y,_,rfl⟩:=List.mem_map.1 hu;rfl
 cases a with
 | none =>
  have f:n=0:=LD fun i=>by have:=h.ad i;cases this
  subst f;have:ss=[]:=oH h.len;subst this;exact Src.ofNil w underlying23 c
 | some y =>
  refine Src.ofSlice w underlying23 y n c (ss.map E) (by simp [h.len]) (fun j u hu=>?_) g;have e:j<n:=by have:=(List.getElem?_eq_some_iff.1 hu).1;simp [h.len] at this;exact this
  have d:=h.ad A;injection d with d;subst d;rw [Addr.add_lit,h.cell j e];rw [← hu];simp [List.getD,h.len,e]
theorem JO {st:Int} {c:Nat} {x:ByteArray}:∀ v∈[I Y nu,I Y ep,aF up,I Y st,I Y le,I Y ta,I Y co,I Y lf,K a n c,E x,I Y si],v.oneCell'=true:=by
 intro v d;simp only [mG,mF,or_false] at d;rcases d with rfl | rfl | rfl | rfl | rfl | rfl | rfl | rfl | rfl | rfl | rfl <;> rfl
theorem Tryz.sizeWk:(prog.info? 127).map (·.size)=U 11:=Z
def zW:List Value:=[I Y 0,I Y 0,aF false,I Y 0,I Y 0,I Y 0,I Y 0,I Y 0,K C 0 0,E ⟨#[]⟩,I Y 0]
theorem EG (nu ep:Int) (up:Bool) (st le ta co lf:Int) (a:Option Addr) (b o n c:Nat) (ss:List ByteArray) (x:ByteArray) (si:Int) (w:World) (h:kS w a b o n ss) (hn:n≤1048576) :
  Calls prog 92 #[aI #[I Y nu,I Y ep,aF up,I Y st,I Y le,I Y ta,I Y co,I Y lf,K a n c,E x,I Y si]] w fun e w'=>∃ a1 c1,e=.returned (aI #[I Y nu,I Y ep,aF up,I Y st,I Y le,I Y ta,I Y co,I Y lf,K a1 n c1,E x,I Y si])∧Own w.heap.size w' 1 (K a1 n c1) n (ss.map E)∧Below w.heap.size w w':=by
 obtain ⟨i0,hi,aw,ax,a6⟩:=info_parts Tryz.info9;obtain ⟨W, d⟩ := kC ((w.alloc (aH #[I Y nu,I Y ep,aF up,I Y st,I Y le,I Y ta,I Y co,I Y lf,K a n c,E x,I Y si] 127)).alloc (aH zW.toArray 127));have N:Below w.heap.size w W:=by rw [d];exact kQ.alloc D _
 have S:W.heap.size=w.heap.size+2:=by rw [d];simp
 have H:CF W w.heap.size [I Y nu,I Y ep,aF up,I Y st,I Y le,I Y ta,I Y co,I Y lf,K a n c,E x,I Y si]:=by
  rw [d];exact (CF.made w #[I Y nu,I Y ep,aF up,I Y st,I Y le,I Y ta,I Y co,I Y lf,K a n c,E x,I Y si] 127).block (kU _ _ _ D)
 have V:CF W (w.heap.size+1) zW:=by
  rw [d];have:=CF.made (w.alloc (aH #[I Y nu,I Y ep,aF up,I Y st,I Y le,I Y ta,I Y co,I Y lf,K a n c,E x,I Y si] 127)) zW.toArray 127;simpa using this
 have R:Own (w.heap.size+2) (W.alloc (aH #[] 9)) 1 (K (U ⟨W.heap.size,0,C⟩) 0 0) 0 [] :=
  .inr ⟨_,0,0,rfl,kW.made W (w.heap.size+2) 9 1 0 0 _ 0 A kL G rfl kL _ rfl _ (.inl rfl)⟩
 have M:Below w.heap.size w (W.alloc (aH #[] 9)):=N.alloc N.size _;have ak:Src prog 1 23 (K a n c) n (ss.map E) (W.alloc (aH #[] 9)):=(h.below' M).src c;have L:CF (W.alloc (aH #[] 9)) w.heap.size [I Y nu,I Y ep,aF up,I Y st,I Y le,I Y ta,I Y co,I Y lf,K a n c,E x,I Y si]:=H.block (kU _ _ _ A);have ab:CF (W.alloc (aH #[] 9)) (w.heap.size+1) zW:=V.block (kU _ _ _ A);have c8:W.cell? ⟨w.heap.size,8,C⟩=U (K a n c):=(H 8 D).1;have aq:(W.alloc (aH #[] 9)).cell? ⟨w.heap.size,8,C⟩=U (K a n c):=(L 8 D).1;have ai:(W.alloc (aH #[] 9)).heap.size=w.heap.size+3:=by simp [S]
 have ah:w.heap.size+2≤(W.alloc (aH #[] 9)).heap.size:=A;simp only [zW] at d;have T:=hid d;have al:=hid S;have l:=hid ai;clear d S ai;go_enter func92,ntmps92
 go_upto_region 1 with fail
 rw [← T.out];clear T;go_upto_region 2 with (at_builtin;refine kT _ rfl _ _ 23 23 rfl (w.heap.size+2) 9 i0 (E ⟨#[]⟩) 1 16 underlying23 hi aw ax a6 rfl _ 0 _ rfl R _ n _ rfl ak G A ah ?_;intro v1 k g f au;rw [ny,oG] at g;obtain ⟨a1,c1,rfl⟩:=g.slc;have z:∀ q,(K (U ⟨W.heap.size,0,C⟩) 0 0).ownBlock=U q→w.heap.size+2≤q:=(fun q i=>R.ku q i);have r:=L.block (f.block w.heap.size iE (fun e=>by have:=z _ e.symm;omega));have X:=ab.block (f.block (w.heap.size+1) iE (fun e=>by have:=z _ e.symm;omega));have ae:=below_grown M f A (fun q i=>by have:=z q i;omega);have ay:=f.size;have an:k.cell? ⟨w.heap.size,8,C⟩=U (K a n c):=(r 8 D).1;have f81:k.frozen? ⟨w.heap.size,8,C⟩=false:=(r 8 D).2)
 have J:=r.set (j:=8) D (K a1 n c1);simp only [oV,pW] at J;have aa:=X.block (nK k (⟨w.heap.size,8,C⟩:Addr) (K a1 n c1) (w.heap.size+1) aT);have af:=ae.setCell (p:=⟨w.heap.size,8,C⟩) aT (K a1 n c1);have Q:=g.grown (lU (lJ k (U w.heap.size)) 8 (K a1 n c1)) (.inr (by intro P;have:=g.ku _ P;omega));obtain ⟨WF, u⟩ := kC (k.setCell ⟨w.heap.size,8,C⟩ (K a1 n c1));rw [← u] at J aa af Q;rw [← u];have bl:w.heap.size+1<WF.heap.size:=by rw [u];have:=l.out;simp [World.setCell];omega
 obtain ⟨y0,y1,y2,y3,y4,y5,y6,y7,y8,y9,bn⟩:=Dc J;clear u H V L ab R ak c8 aq an f81 r X ae g au f M N al l ah ay z;go_wp2_with (refine jY rfl 127 (.tmp 2) (.tmp 8) rfl (w.heap.size+1) zW [I Y nu,I Y ep,aF up,I Y st,I Y le,I Y ta,I Y co,I Y lf,K a1 n c1,E x,I Y si] rfl rfl aa rfl Tryz.sizeWk (JO) ?_;intro bm av ag)
 obtain ⟨a7,a8,bb,bc,bd,bf,bg,bh,bj,bk,ba⟩:=Dc av;refine bodyPost_ret (v:=aI #[I Y nu,I Y ep,aF up,I Y st,I Y le,I Y ta,I Y co,I Y lf,K a1 n c1,E x,I Y si]) (by simp [results,results92,go_sem,a7,a8,bb,bc,bd,bf,bg,bh,bj,bk,ba]) rfl ⟨a1,c1,rfl,?_,?_⟩
 ·exact (Q.grown ag (.inr (by intro P;have:=Q.ku _ P;omega))).mono' A
 ·exact below_grown af ag A (fun q i=>by simp at i;omega)
end Go.Proofs.YtfkkipgcfoegmaaGreat
