
import Derived.Test.YtfkkipgcfoegmaaGreatQBfs
import Derived.Test.YtfkkipgcfoegmaaGreatQPlp
namespace Go.Proofs.YtfkkipgcfoegmaaGreat
open Go.Value renaming slice→K,string→E,agg→aI
open Option renaming some→U
open Bool renaming false→aK
open Go.Value renaming int→I
open Go.IntKind renaming i64→Y
open Go.RowKit
structure BD.fits (d:BD):Prop where
 s1:∀ s∈d.L1,s.size≤maxLen
 s2:∀ s∈d.L2,s.size≤maxLen
 s3:∀ s∈d.R,s.size≤maxLen
 k3:EU d.J
 k2:F6 d.S
 k4:EU d.O
variable {B B' n:Nat} {R:List ByteArray} {d:BD} {e keep:Int} {h:BH} {st':St} {ts:List kJ} {v:Value} {vs xs:List Value} {w w':World} {x:ByteArray}
theorem rU.fits (j:rU w d h):d.fits:=by
 obtain ⟨⟨k,o1,a⟩,⟨l,o2,c⟩,⟨o,o3,e⟩,⟨p,o4,f⟩,⟨q,o5,g⟩,⟨r,s,i⟩⟩:=j;exact ⟨a.sz,c.sz,e.sz,f.rng,g.rng,i.rng⟩
theorem lg.m (a:lg w B d h) (c:d.fits):rU w d h:=by
 obtain ⟨e,o1,l,_⟩:=a.o0.xP c.s1;obtain ⟨f,o2,o,_⟩:=a.o1.xP c.s2;obtain ⟨g,o3,p,_⟩:=a.o2.xP c.s3;obtain ⟨i,o4,q,_⟩:=a.o3.ZA c.k3;obtain ⟨j,o5,r,_⟩:=a.o4.acF c.k2;obtain ⟨k,t,s,_⟩:=a.o5.ZA c.k4;exact ⟨⟨e,o1,l⟩,⟨f,o2,o⟩,⟨g,o3,p⟩,⟨i,o4,q⟩,⟨j,o5,r⟩,⟨k,t,s⟩⟩
def kK (d:BD) (h:BH):List (Option Nat):=[(K h.a1 d.L1.length h.c1).ownBlock,(K h.a2 d.L2.length h.c2).ownBlock,(K h.ar d.R.length h.cr).ownBlock,(K h.aj d.J.length h.cj).ownBlock,(K h.az d.S.length h.cs).ownBlock,(K h.ao d.O.length h.co).ownBlock]
theorem lg.lo (a:lg w B d h):∀ r∈kK d h,∀ q,r=U q→B≤q∧q<w.heap.size:=by
 intro r e q c;simp only [kK,mG,mF,or_false] at e;rcases e with rfl | rfl | rfl | rfl | rfl | rfl
 ·exact ⟨a.o0.ku q c,a.o0.kD q c⟩
 ·exact ⟨a.o1.ku q c,a.o1.kD q c⟩
 ·exact ⟨a.o2.ku q c,a.o2.kD q c⟩
 ·exact ⟨a.o3.ku q c,a.o3.kD q c⟩
 ·exact ⟨a.o4.ku q c,a.o4.kD q c⟩
 ·exact ⟨a.o5.ku q c,a.o5.kD q c⟩
theorem Own.blk {size:Nat} (h:Own B w size v n xs) (a:∀ q,v.ownBlock=U q→w'.heap[q]?=w.heap[q]?):Own B w' size v n xs:=by
 rcases h with h | ⟨g,o,cap,rfl,c⟩
 ·exact .inl h
 ·exact .inr ⟨g,o,cap,rfl,c.block (a g rfl)⟩
theorem lg.blk (a:lg w B d h) (c:∀ r∈kK d h,∀ q,r=U q→w'.heap[q]?=w.heap[q]?):lg w' B d h :=
 ⟨a.o0.blk (c _ aX),a.o1.blk (c _ aX),a.o2.blk (c _ aX),a.o3.blk (c _ aX),a.o4.blk (c _ aX),a.o5.blk (c _ aX),a.Ik⟩
theorem lg.below (a:lg w B d h) (c:Below w.heap.size w w'):lg w' B d h :=
 a.blk (fun r f q e=>c.block q (a.lo r f q e).2)
theorem lg.mono (a:lg w B d h) (c:B'≤B):lg w B' d h :=
 ⟨a.o0.mono' c,a.o1.mono' c,a.o2.mono' c,a.o3.mono' c,a.o4.mono' c,a.o5.mono' c,a.Ik⟩
theorem lg.grew {rows:List (Option Nat)} (c:lg w B d h) (j:Grew rows w w') (i:∀ r∈rows,∀ q,r=U q→∀ a∈kK d h,a≠U q):lg w' B d h :=
 c.blk (fun r g q f=>j.2 q (c.lo r g q f).2 (fun a k e=>i a k q e r g f))
theorem Jg.fits {a:BD} (h:Jg d ts keep a) (f:d.fits):a.fits:=by
 rcases h with ⟨_,rfl⟩ | ⟨_,rfl⟩
 ·refine ⟨fun s c=>?_,fun s c=>absurd c (by simp [qR]),fun s c=>absurd c (by simp [qR]),fun j e=>absurd e (by simp [qR]),fun j e=>absurd e (by simp [qR]),fun j e=>absurd e (by simp [qR])⟩
  simp only [qR,aa'] at c;rcases c with c | c
  ·exact f.s1 s c
  ·exact f.s2 s (abb c)
 ·exact ⟨fun s c=>absurd c bT,fun s c=>absurd c bT,fun s c=>absurd c bT,fun j e=>absurd e bT,fun j e=>absurd e bT,fun j e=>absurd e bT⟩
theorem Jg.small {a:BD} (h:Jg d ts keep a) (c:d.small):a.small:=by
 unfold BD.small at c ⊢;rcases h with ⟨_,rfl⟩ | ⟨_,rfl⟩
 ·simp only [qR,lD,qI,qJ];omega
 ·simp [rM]
theorem BD.dn (h:d.ok ts) (hu:d.up=aK):d=⟨d.wk,aK,d.now,0,0,0,d.L1,[],[],[],[],[]⟩:=by
 obtain ⟨wk,up,now,sn,ep,gv,L1,L2,R,J,S,c⟩:=d;dsimp only at hu;subst hu;have a:=Eu h;unfold qE at a;dsimp only at a;obtain ⟨k,rfl,rfl,rfl,l,o,p,q⟩:=a;have e:=oH (by omega:L2.length=0);have f:=oH (by omega:R.length=0);have g:=oH (by omega:J.length=0);have i:=oH (by omega:S.length=0);have j:=oH (by omega:c.length=0);subst e;subst f;subst g;subst i;subst j;rfl
theorem Yo {st:St} {k d:Int} (he:e≤300) (h:st.1≤300) (a:step1 ts st (k,e,d,x)=U st'):st'.1≤300:=by
 unfold step1 at a;dsimp only at a;split at a
 ·split at a
  ·cases a;exact he
  ·cases a
 ·split at a
  ·cases a;exact h
  ·cases a
theorem Yn {st:St} {s:ByteArray} (h:st.1≤300) (a:qB ts st s=U st'):st'.1≤300:=by
 unfold qB at a;cases he:Gn s with
 | none=>rw [he] at a;cases a
 | some q =>
  obtain ⟨k,e,d,x⟩:=q;rw [he] at a;exact Yo (OB (NV he).1).2.1 h a
theorem MH (l:List ByteArray) {st:St} (h:st.1≤300) (a:rep ts l st=U st'):st'.1≤300:=by
 induction l generalizing st with
 | nil=>cases a;exact h
 | cons s l ih =>
  unfold rep at a;cases c:qB ts st s with
  | none=>rw [c] at a;cases a
  | some d=>rw [c] at a;exact ih (Yn h c) a
def told (d:BD) (ts:List kJ) (a:Int) (R:List ByteArray):Prop:=rep ts d.L1 (st0 ts.length)=U (a,R)∧d.L1.length≤310∧0≤a∧a≤300∧R.length=ts.length∧(∀ s∈R,s.size≤8)∧1≤ts.length∧ts.length≤40∧1≤d.wk∧d.wk≤8
theorem U8 (h:Code ts 0):1≤ts.length∧ts.length≤40:=by
 rcases h with ⟨h,_⟩ | ⟨h,_⟩
 ·cases h
 ·omega
theorem BD.told (h:d.ok ts) (hu:d.up=aK):∃ c R,told d ts c R:=by
 have e:=BD.dn h hu;obtain ⟨⟨l,i⟩,hw,_,c,R,a,_⟩:=h;have j:d.L2=[]:=by rw [e]
 rw [j,pz] at a i;have f:=Ez d.L1 (Ey ts.length) a;have k:=MH d.L1 (by simp [st0]) a;have g:=U8 l;exact ⟨c,R,a,i,f.1,k,f.2.2.1,f.2.2.2,g.1,g.2,hw.1,hw.2⟩
def oI (d:BD) (a:Int) (R:List ByteArray) (n:Nat):BD:=⟨d.wk,true,d.now,0,a+1,0,d.L1 ++ [lS 1 (a+1) 0 ⟨#[]⟩],[],R,List.replicate n (0,0,0),List.replicate d.wk.toNat (aK,0),[]⟩
def Xv (d:BD) (ts:List kJ) (d':BD):Prop:=(d.up=true∧d'=d)∨(d.up=aK∧∃ a R,told d ts a R∧(((310≤d.L1.length∨300≤a)∧d'=d)∨((d.L1.length<310∧a<300)∧d'=oI d a R ts.length)))
def CP (d:BD) (ts:List kJ) (d':BD):Prop:=(d.ok ts∧Xv d ts d')∨(¬ d.ok ts∧d'=rM)
theorem Xv.uniq {a b:BD} (h:Xv d ts a) (c:Xv d ts b):a=b:=by
 rcases h with ⟨h,rfl⟩ | ⟨h,k,R,i,f⟩ <;> rcases c with ⟨c,rfl⟩ | ⟨c,l,o,j,g⟩
 ·rfl
 ·rw [h] at c;cases c
 ·rw [h] at c;cases c
 ·have e:=i.1.symm.trans j.1
  cases e
  rcases f with ⟨f,rfl⟩ | ⟨f,rfl⟩ <;> rcases g with ⟨g,rfl⟩ | ⟨g,rfl⟩
  ·rfl
  ·omega
  ·omega
  ·rfl
theorem CP.uniq {a b:BD} (h:CP d ts a) (c:CP d ts b):a=b:=by
 rcases h with ⟨h,e⟩ | ⟨h,rfl⟩ <;> rcases c with ⟨c,f⟩ | ⟨c,rfl⟩
 ·exact e.uniq f
 ·exact absurd h c
 ·exact absurd c h
 ·rfl
theorem Ld {k d:Int} (a:x.size≤8):(lS k e d x).size≤maxLen:=by
 have h:(lS k e d x).size=(D7 k e d x).length:=by simp [lS,ByteArray.size]
 rw [h,DI];unfold maxLen;omega
theorem OG {e:Int} (g:told d ts e R) (f:d.fits):(oI d e R ts.length).fits:=by
 refine ⟨fun s a=>?_,fun s a=>absurd a (by simp [oI]),fun s a=>?_,fun j c=>?_,fun j c=>?_,fun j c=>absurd c (by simp [oI])⟩
 ·simp only [oI,aa',List.mem_singleton] at a
  rcases a with a | rfl
  ·exact f.s1 s a
  ·exact Ld cZ
 ·have:=g.2.2.2.2.2.1 s a
  unfold maxLen;omega
 ·simp only [oI,Dh] at c
  simp [oI,t3,List.getD,c,I64]
 ·simp only [oI,Dh] at c
  simp [oI,t2,List.getD,c,I64]
theorem CP.fits {a:BD} (h:CP d ts a) (f:d.fits):a.fits:=by
 rcases h with ⟨_,h⟩ | ⟨_,rfl⟩
 ·rcases h with ⟨_,rfl⟩ | ⟨_,i,R,g,h⟩
  ·exact f
  ·rcases h with ⟨_,rfl⟩ | ⟨_,rfl⟩
   ·exact f
   ·exact OG g f
 ·exact ⟨fun s e=>absurd e bT,fun s e=>absurd e bT,fun s e=>absurd e bT,fun j c=>absurd c bT,fun j c=>absurd c bT,fun j c=>absurd c bT⟩
theorem Vu {a:Int} (c:told d ts a R):(oI d a R ts.length).small:=by
 obtain ⟨_,e,_,_,f,_,_,g,_,h⟩:=c;unfold BD.small;simp only [oI,lD,pX,qJ,Dh];omega
theorem CP.small {a:BD} (h:CP d ts a) (c:d.small):a.small:=by
 rcases h with ⟨_,h⟩ | ⟨_,rfl⟩
 ·rcases h with ⟨_,rfl⟩ | ⟨_,f,R,e,h⟩
  ·exact c
  ·rcases h with ⟨_,rfl⟩ | ⟨_,rfl⟩
   ·exact c
   ·exact Vu e
 ·simp [BD.small,rM]
theorem acy {a:Int} (c:0≤a) (d:a<300):vE 1 (a+1) 0 (⟨#[]⟩:ByteArray).size:=.inl ⟨rfl,A,A,rfl,rfl⟩
theorem FU.new {a:Int} {r:ByteArray} (h:FU 1 (a+1) 0 ⟨#[]⟩ r) (c:0≤a) (d:a<300):r=lS 1 (a+1) 0 ⟨#[]⟩:=by
 rcases h with ⟨_,h⟩ | ⟨h,_⟩
 ·exact h
 ·exact absurd (acy c d) h
theorem made3 (n:Nat):(madeCells (aI rV).cells (n*3)).toList=c3 (List.replicate n (0,0,0)):=by
 refine Yc (by simp [madeCells]) (fun j d=>?_);have e:j<n:=by simpa using d
 have i:j*3 % 3=0:=A;have a:(j*3+1) % 3=1:=A;have c:(j*3+2) % 3=2:=A;have f:j*3<n*3:=A;have g:j*3+1<n*3:=A;have h:j*3+2<n*3:=A;refine ⟨?_,?_,?_⟩ <;> simp [madeCells,t3,List.getD,Value.cells,e,a,c,f,g,h]
theorem made2 (n:Nat):(madeCells (aI #[.bool aK,I Y 0]).cells (n*2)).toList=c2 (List.replicate n (aK,0)):=by
 refine SG (by simp [madeCells]) (fun j c=>?_);have d:j<n:=fZ;have g:j*2 % 2=0:=A;have a:(j*2+1) % 2=1:=A;have e:j*2<n*2:=A;have f:j*2+1<n*2:=A;refine ⟨?_,?_⟩ <;> simp [madeCells,t2,List.getD,Value.cells,d,a,e,f]
theorem acg (J:List Tr) (x y z:Int):c3 J ++ [I Y x,I Y y,I Y z]=c3 (J ++ [(x,y,z)]):=by simp [c3]
theorem ach (J:List (Bool × Int)) (x:Bool) (y:Int):c2 J ++ [.bool x,I Y y]=c2 (J ++ [(x,y)]):=by simp [c2]

theorem abo (f:Nat→List Value) (a:∀ j,(f j).length=8) (n:Nat):((List.range n).flatMap f).length=n*8:=by
 induction n with
 | zero=>rfl
 | succ n ih=>rw [DK,FH,lD,ih];simp [a];omega
theorem Y4 {f:Nat→List Value} (a:∀ j,(f j).length=8) (j r:Nat) (d:j<n) (e:r<8):((List.range n).flatMap f)[j*8+r]?=(f j)[r]?:=by
 induction n with
 | zero=>omega
 | succ n ih =>
  rw [DK,FH];have c:=abo f a n;by_cases h:j<n
  ·rw [nO A];exact ih h
  ·obtain rfl:j=n:=by omega
   rw [qP A,c,show j*8+r - j*8=r by omega];simp
def Aw (m:lQ) (v:Value):List Value:=[I Y m.kd,I Y m.fm,I Y m.tw,I Y m.ep,I Y m.le,I Y m.ta,E m.x,v]
def uD (ts:List lQ) (vs:List Value):List Value:=(List.range ts.length).flatMap fun j=>Aw (ts.getD j Fz) (vs.getD j kH)
theorem Dx (ts:List lQ) (vs:List Value):(uD ts vs).length=ts.length*8:=abo _ (fun _=>rfl) _
theorem Nz (ts:List lQ) (vs:List Value) (j r:Nat) (a:j<ts.length) (c:r<8):(uD ts vs)[j*8+r]?=(Aw (ts.getD j Fz) (vs.getD j kH))[r]?:=Y4 (fun _=>rfl) j r a c
theorem aec {a:List Value} (c:xs.length=n*8) (d:a.length=n*8) (h:∀ j r,j<n→r<8→xs[j*8+r]?=a[j*8+r]?):xs=a:=by
 refine LG fun i=>?_;by_cases hi:i<n*8
 ·have:=h (i / 8) (i % 8) A A
  rwa [show i / 8*8+i % 8=i by omega] at this
 ·rw [DL A,DL A]
theorem YC {ts:List lQ} {t:lQ} (c:vs.length=ts.length):uD (ts ++ [t]) (vs ++ [v])=uD ts vs ++ Aw t v:=by
 refine aec (n:=ts.length+1) (by simp [Dx]) (by simp [Dx,Aw];omega) fun j r d a=>?_;rw [Nz _ _ _ _ aQ a];by_cases e:j<ts.length
 ·rw [nO (by rw [Dx];omega),Nz _ _ _ _ e a]
  simp [List.getD,List.getElem?_append_left e,List.getElem?_append_left (show j<vs.length by omega)]
 ·obtain rfl:j=ts.length:=by omega
  rw [qP (by rw [Dx];omega),Dx,show ts.length*8+r - ts.length*8=r by omega];have g3:(ts ++ [t]).getD ts.length Fz=t:=by simp [List.getD]
  have g4:(vs ++ [v]).getD ts.length kH=v:=jA;rw [g3,g4]
structure qy (w:World) (B:Nat) (v:Value) (ts:List lQ) (vs:List Value):Prop where
 len:vs.length=ts.length
 row:Own B w 8 v ts.length (uD ts vs)
 dep:∀ j,j<ts.length→Own B w 1 (vs.getD j kH) (ts.getD j Fz).ss.length ((ts.getD j Fz).ss.map E)
 dr:∀ j,j<ts.length→Dn (vs.getD j kH).ownBlock v.ownBlock
 dd:∀ i j,i<j→j<ts.length→Dn (vs.getD i kH).ownBlock (vs.getD j kH).ownBlock
theorem qy.nil (w:World) (B:Nat):qy w B kH [] []:=⟨rfl,Own.nil _ _ _,fun j a=>absurd a D,fun j a=>absurd a D,fun i j _ a=>absurd a D⟩
theorem qy.blk {ts:List lQ} (h:qy w B v ts vs) (d:∀ q,B≤q→q<w.heap.size→w'.heap[q]?=w.heap[q]?):qy w' B v ts vs :=
 ⟨h.len,h.row.qY (fun q a=>d q (h.row.ku q a) (h.row.kD q a)),fun j c=>(h.dep j c).qY (fun q a=>d q ((h.dep j c).ku q a) ((h.dep j c).kD q a)),h.dr,h.dd⟩
theorem qy.below {ts:List lQ} (h:qy w B v ts vs) (a:Below w.heap.size w w'):qy w' B v ts vs:=h.blk (fun q _ c=>a.block q c)
theorem qy.grown {ts:List lQ} {row:Option Nat} (h:qy w B v ts vs) (a:w.grownBy w' row) (d:Dn v.ownBlock row) (e:∀ j,j<ts.length→Dn (vs.getD j kH).ownBlock row):qy w' B v ts vs :=
 ⟨h.len,h.row.grown a d,fun j c=>(h.dep j c).grown a (e j c),h.dr,h.dd⟩
theorem qy.mono {ts:List lQ} (h:qy w B v ts vs) (a:B'≤B):qy w B' v ts vs :=
 ⟨h.len,h.row.mono' a,fun j c=>(h.dep j c).mono' a,h.dr,h.dd⟩
theorem qy.snoc {d:Value} {ts:List lQ} {t:lQ} {u:Value} (c:vs.length=ts.length) (o:∀ j,j<ts.length→Own B w 1 (vs.getD j kH) (ts.getD j Fz).ss.length ((ts.getD j Fz).ss.map E)) (l:∀ i j,i<j→j<ts.length→Dn (vs.getD i kH).ownBlock (vs.getD j kH).ownBlock)
  (p:Own B w 8 d (ts.length+1) (uD ts vs ++ Aw t u)) (hu:Own B w 1 u t.ss.length (t.ss.map E))
  (g:∀ j,j<ts.length→Dn (vs.getD j kH).ownBlock d.ownBlock) (h:Dn u.ownBlock d.ownBlock) (k:∀ j,j<ts.length→Dn (vs.getD j kH).ownBlock u.ownBlock):qy w B d (ts ++ [t]) (vs ++ [u]):=by
 have g1:∀ j,j<ts.length→(ts ++ [t]).getD j Fz=ts.getD j Fz:=fun j a=>by simp [List.getD,List.getElem?_append_left a]
 have g2:∀ j,j<ts.length→(vs ++ [u]).getD j kH=vs.getD j kH:=fun j a=>by simp [List.getD,List.getElem?_append_left (show j<vs.length by rw [c];exact a)]
 have g3:(ts ++ [t]).getD ts.length Fz=t:=by simp [List.getD]
 have g4:(vs ++ [u]).getD ts.length kH=u:=jA;refine ⟨by simp [c],?_,fun j a=>?_,fun j a=>?_,fun i j f a=>?_⟩
 ·rw [YC c,lD,mQ];exact p
 ·rw [lD,mQ] at a
  by_cases e:j<ts.length
  ·rw [g1 j e,g2 j e];exact o j e
  ·obtain rfl:j=ts.length:=by omega
   rw [g3,g4];exact hu
 ·rw [lD,mQ] at a
  by_cases e:j<ts.length
  ·rw [g2 j e];exact g j e
  ·obtain rfl:j=ts.length:=by omega
   rw [g4];exact h
 ·rw [lD,mQ] at a
  by_cases e:j<ts.length
  ·rw [g2 j e,g2 i A];exact l i j f e
  ·obtain rfl:j=ts.length:=by omega
   rw [g4,g2 i A];exact k i f
def adb (M:List lQ):Prop:=∀ j,j<M.length→(rF M j).x.size≤maxLen∧(I64 (rF M j).kd∧I64 (rF M j).fm∧I64 (rF M j).tw∧I64 (rF M j).ep∧I64 (rF M j).le∧I64 (rF M j).ta)∧∀ s∈(rF M j).ss,s.size≤maxLen
theorem Own.Py {d:List ByteArray} (h:Own B w 1 v d.length (d.map E)) (k:∀ s∈d,s.size≤maxLen):∃ a b o c,v=K a d.length c∧kS w a b o d.length d:=by
 rcases h with ⟨rfl,l,i⟩ | ⟨g,o,cap,rfl,e⟩
 ·have:d=[]:=by simpa using i
  subst this;exact ⟨none,0,0,0,rfl,fun h=>absurd h D,rfl,lG _,fun h=>absurd h D,fun j f=>absurd f D,D⟩
 ·exact ⟨_,g,o,cap,rfl,kS.Au e k⟩
theorem qy.at {M:List lQ} (h:qy w B v M vs) (f:adb M) (hm:M.length≤maxLen):∃ a b o c,v=K a M.length c∧Vm w a b o M.length M:=by
 have u:=h.row;rcases u with ⟨i,s,_⟩ | ⟨g,o,cap,i,k⟩
 ·have:M=[]:=List.length_eq_zero_iff.1 s
  subst this;exact ⟨none,0,0,0,i,fun h=>absurd h D,rfl,hm,fun h=>absurd h D,fun j d=>absurd d D,fun j d=>absurd d D,fun j d=>absurd d D,fun j d=>absurd d D,fun j d=>absurd d D,fun j d=>absurd d D,fun j d=>absurd d D,fun j d=>absurd d D,fun j d=>absurd d D,fun j d=>absurd d D⟩
 ·have e:∀ j r,j<M.length→r<8→w.cell? ⟨g,o+(j*8+r),none⟩=(Aw (rF M j) (vs.getD j kH))[r]?:=fun j r d t=>by
   rw [k.holds (j*8+r) A];exact Nz M vs j r d t
  refine ⟨_,g,o,cap,i,fun _=>rfl,rfl,hm,fun _=>k.hi,fun j d=>e j 0 d A,fun j d=>?_,fun j d=>?_,fun j d=>?_,fun j d=>?_,fun j d=>?_,fun j d=>?_,fun j d=>?_,fun j d=>(f j d).1,fun j d=>(f j d).2.1⟩
  ·rw [nS];exact e j 1 d A
  ·rw [nS];exact e j 2 d A
  ·rw [nS];exact e j 3 d A
  ·rw [nS];exact e j 4 d A
  ·rw [nS];exact e j 5 d A
  ·rw [nS];exact e j 6 d A
  ·obtain ⟨l,p,z,q,he,hi⟩:=(h.dep j d).Py (f j d).2.2
   refine ⟨l,p,z,q,?_,hi⟩;rw [nS,e j 7 d A,he];rfl
structure F8 where
 gv:Int
 J:List Tr
 S:List (Bool × Int)
 M:List lQ
variable {ep now:Int} {i k:Nat} {st:F8}
def Ii (S:List (Bool × Int)):Option Nat:=S.findIdx? (fun s=>s.1)
theorem aaG {S:List (Bool × Int)} (a:k<S.length) (d:(S.getD k (aK,0)).1=true) (c:∀ j,j<k→(S.getD j (aK,0)).1=aK):Ii S=U k:=by
 unfold Ii;rw [aeC];refine ⟨a,?_,fun j e=>?_⟩
 ·simpa [List.getD,List.getElem?_eq_getElem a] using d
 ·have:=c j e
  simpa [List.getD,List.getElem?_eq_getElem (show j<S.length by omega)] using this
theorem aaH {S:List (Bool × Int)} (c:∀ j,j<S.length→(S.getD j (aK,0)).1=aK):Ii S=none:=by
 unfold Ii;rw [List.findIdx?_eq_none_iff];intro x d;obtain ⟨j,a,rfl⟩:=List.mem_iff_getElem.1 d;have:=c j a;simpa [List.getD,List.getElem?_eq_getElem a] using this
theorem Y6 {S:List (Bool × Int)} (h:Ii S=U k):k<S.length:=by
 unfold Ii at h;rw [aeC] at h;exact h.1
def insOf (R:List ByteArray) (a:List Int):List ByteArray:=a.map fun x=>rs R x.toNat
def Jd (ep gv:Int):Int:=(ep - 1)*1000000+gv
open Classical in
noncomputable def xQ (ep now:Int) (R:List ByteArray) (ts:List kJ) (st:F8) (i:Nat):F8 :=
 match Ii st.S with
 | none=>st
 | some k =>
  if st.gv<1000000∧uw ts R i∧(t3 st.J i).1=0 then
   ⟨st.gv+1,st.J.set i (Jd ep (st.gv+1),(k:Int)+1,now+12),st.S.set k (aK,(st.S.getD k (aK,0)).2),
    st.M ++ [⟨1,0,(k:Int)+1,ep,Jd ep (st.gv+1),i,⟨#[]⟩,insOf R (ts.getD i dT).deps⟩]⟩
  else st
theorem OX (h:Ii st.S=none):xQ ep now R ts st i=st:=by
 unfold xQ;rw [h]
theorem QD (h:¬ (st.gv<1000000∧uw ts R i∧(t3 st.J i).1=0)):xQ ep now R ts st i=st:=by
 unfold xQ;cases Ii st.S with
 | none=>rfl
 | some k=>simp only;rw [if_neg h]
theorem QC (a:Ii st.S=U k) (h:st.gv<1000000∧uw ts R i∧(t3 st.J i).1=0):xQ ep now R ts st i =
   ⟨st.gv+1,st.J.set i (Jd ep (st.gv+1),(k:Int)+1,now+12),st.S.set k (aK,(st.S.getD k (aK,0)).2),
    st.M ++ [⟨1,0,(k:Int)+1,ep,Jd ep (st.gv+1),i,⟨#[]⟩,insOf R (ts.getD i dT).deps⟩]⟩:=by
 unfold xQ;rw [a];simp only;rw [if_pos h]
noncomputable def nY (ep now:Int) (R:List ByteArray) (ts:List kJ) (st:F8):Nat→F8
 | 0=>st
 | n+1=>xQ ep now R ts (nY ep now R ts st n) n
theorem XV (ep now:Int) (R:List ByteArray) (ts:List kJ) (st:F8) (i:Nat):(xQ ep now R ts st i).J.length=st.J.length∧(xQ ep now R ts st i).S.length=st.S.length:=by
 unfold xQ;cases Ii st.S with
 | none=>exact ⟨rfl,rfl⟩
 | some k =>
  simp only;split
  ·simp
  ·exact ⟨rfl,rfl⟩
theorem QE (ep now:Int) (R:List ByteArray) (ts:List kJ) (st:F8) (n:Nat):(nY ep now R ts st n).J.length=st.J.length∧(nY ep now R ts st n).S.length=st.S.length:=by
 induction n with
 | zero=>exact ⟨rfl,rfl⟩
 | succ n ih =>
  have:=XV ep now R ts (nY ep now R ts st n) n;exact ⟨this.1.trans ih.1,this.2.trans ih.2⟩
def nJ (now:Int) (j:Tr):Tr:=if j.1≠0∧j.2.2≤now then (0,0,0) else j
def Gm (ep:Int) (o:Tr):lQ:=⟨4,0,o.1,ep,o.2.1,0,⟨#[]⟩,[]⟩
noncomputable def JA (d:BD) (ts:List kJ):BD × List lQ :=
 if ¬ d.now<1000000 then (d,[])
 else if d.up=aK then ({d with now:=d.now+1},[])
 else
  if d.sn+1<2 then
   ({d with now:=d.now+1,sn:=d.sn+1,gv:=(nY d.ep (d.now+1) d.R ts ⟨d.gv,d.J.map (nJ (d.now+1)),d.S,[]⟩ ts.length).gv,J:=(nY d.ep (d.now+1) d.R ts ⟨d.gv,d.J.map (nJ (d.now+1)),d.S,[]⟩ ts.length).J,S:=(nY d.ep (d.now+1) d.R ts ⟨d.gv,d.J.map (nJ (d.now+1)),d.S,[]⟩ ts.length).S},
    (nY d.ep (d.now+1) d.R ts ⟨d.gv,d.J.map (nJ (d.now+1)),d.S,[]⟩ ts.length).M)
  else
   (⟨d.wk,d.up,d.now+1,0,d.ep,(nY d.ep (d.now+1) d.R ts ⟨d.gv,d.J.map (nJ (d.now+1)),d.S,[]⟩ ts.length).gv,d.L1 ++ d.L2,[],d.R,(nY d.ep (d.now+1) d.R ts ⟨d.gv,d.J.map (nJ (d.now+1)),d.S,[]⟩ ts.length).J,(nY d.ep (d.now+1) d.R ts ⟨d.gv,d.J.map (nJ (d.now+1)),d.S,[]⟩ ts.length).S,[]⟩,
    (nY d.ep (d.now+1) d.R ts ⟨d.gv,d.J.map (nJ (d.now+1)),d.S,[]⟩ ts.length).M ++ d.O.map (Gm d.ep))
def KF (d:BD) (ts:List kJ) (r:BD × List lQ):Prop:=d.ok ts∧r=JA d ts∨¬ d.ok ts∧r=(rM,[])
structure Yh (w:World) (B:Nat) (d:BD) (h:BH) (v:Value) (M:List lQ) (vs:List Value):Prop where
 bo:lg w B d h
 ms:qy w B v M vs
 dr:∀ r∈kK d h,Dj r v.ownBlock
 dv:∀ r∈kK d h,∀ j,j<M.length→Dj r (vs.getD j kH).ownBlock
def abr (e:Ending) (B:Nat) (w':World) (a:BD × List lQ→Prop):Prop:=∃ d h v M vs,e=.returned (aI (bvs d h ++ [v]).toArray)∧Yh w' B d h v M vs∧a (d,M)
end Go.Proofs.YtfkkipgcfoegmaaGreat
