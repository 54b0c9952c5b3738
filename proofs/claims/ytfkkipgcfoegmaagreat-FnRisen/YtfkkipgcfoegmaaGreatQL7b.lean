
import Derived.Test.YtfkkipgcfoegmaaGreatQWos
import Derived.Test.YtfkkipgcfoegmaaGreatQBtg
import Derived.Deep.CutBlock
set_option maxHeartbeats 8000000
set_option maxRecDepth 100000
namespace Go.Proofs.YtfkkipgcfoegmaaGreat
open Go.Proofs.Tryz
open Go.Value renaming slice→K,string→E,bool→aF,pointer→aG,agg→aI
open Option renaming none→C,some→U
open Go.Operand renaming tmp→F
open Go.Obj renaming cells→aH
open Bool renaming false→aK,true→aN
open Go.Ending renaming returned→aO
open Go.Value renaming int→I
open Go.IntKind renaming i64→Y
open Go.RowKit
variable {a:Option Addr} {c n:Nat} {ts:List kJ} {w:World} {ρ:Operand→Value}
theorem Own.adE {B:Nat} {ss:List ByteArray} (h:Own B w 1 (K a n c) n (ss.map E)) (i:∀ s∈ss,s.size≤maxLen):∃ b o,kS w a b o n ss∧(0<n→U b=(K a n c).ownBlock∧B≤b):=by
 rcases h with ⟨d,rfl,he⟩ | ⟨g,o,cap,d,e⟩
 ·have:ss=[]:=by simpa using he
  subst this;exact ⟨0,0,⟨fun h=>absurd h A,rfl,lG _,fun h=>absurd h A,fun j f=>absurd f A,D⟩,fun h=>absurd h A⟩
 ·simp only [K.injEq] at d
  obtain ⟨rfl,_,rfl⟩:=d;exact ⟨g,o,kS.Au e i,fun _=>⟨rfl,e.lo⟩⟩
structure WD where
 nu:Int
 ep:Int
 up:Bool
 st:Int
 le:Int
 ta:Int
 co:Int
 lf:Int
 ss:List ByteArray
 x:ByteArray
 si:Int
def WD.ok (d:WD):Prop:=vW d.nu d.ep d.up d.st d.le d.ta d.co d.lf d.ss d.x.size d.si
def WD.v (d:WD) (a:Option Addr) (c:Nat):Value:=aI #[I Y d.nu,I Y d.ep,aF d.up,I Y d.st,I Y d.le,I Y d.ta,I Y d.co,I Y d.lf,K a d.ss.length c,E d.x,I Y d.si]
def IY:WD:=⟨0,0,aK,0,0,0,0,0,[],⟨#[]⟩,0⟩
def adw (e:Ending) (B:Nat) (w':World) (f:WD→Prop):Prop:=∃ (d:WD) (a:Option Addr) (c:Nat),e=aO (d.v a c)∧Own B w' 1 (K a d.ss.length c) d.ss.length (d.ss.map E)∧f d
theorem WD.ok.small {d:WD} (h:d.ok):d.ss.length≤8∧∀ s∈d.ss,s.size≤maxLen:=by
 obtain ⟨_,_,_,_,_,_,_,h | h | h⟩:=h
 ·have a:d.ss=[]:=oH h.2.2.2.2.2.1
  rw [a];exact ⟨D,D⟩
 ·obtain ⟨e,he⟩:=h.2.2.2.2.2.2.2.2.2.2
  refine ⟨e,fun s f=>?_⟩;obtain ⟨j,c,rfl⟩:=List.mem_iff_getElem.1 f;have:=he j c;simp only [List.getD,nH c,aa8] at this;rw [this];decide
 ·have a:d.ss=[]:=oH h.2.2.2.2.2.2.2.2
  rw [a];exact ⟨D,D⟩
def X7 (d d':WD):Prop:=(d.ok∧d'=⟨d.nu,d.ep,aK,0,0,0,0,0,[],⟨#[]⟩,0⟩)∨(¬ d.ok∧d'=IY)
def Xu (d d':WD):Prop:=(d.ok∧((d.up=aN∨d.ep=300)∧d'=d∨¬ (d.up=aN∨d.ep=300)∧d'=⟨d.nu,d.ep+1,aN,0,0,0,0,0,[],⟨#[]⟩,3⟩))∨(¬ d.ok∧d'=IY)
theorem X7.small {d a:WD} (h:X7 d a):a.ss.length≤8∧∀ s∈a.ss,s.size≤maxLen:=by
 rcases h with ⟨h,rfl⟩ | ⟨h,rfl⟩ <;> exact ⟨by simp [IY],by simp [IY]⟩
theorem Xu.small {d a:WD} (h:Xu d a):a.ss.length≤8∧∀ s∈a.ss,s.size≤maxLen:=by
 rcases h with ⟨h,⟨_,rfl⟩ | ⟨_,rfl⟩⟩ | ⟨h,rfl⟩
 ·exact h.small
 ·exact ⟨D,D⟩
 ·exact ⟨by simp [IY],by simp [IY]⟩

structure OM where
 k:Int
 f:Int
 e:Int
 l:Int
 d:Int
 x:ByteArray
def OM.cells (m:OM):List Value:=[I Y m.k,I Y m.f,I Y 0,I Y m.e,I Y m.l,I Y m.d,E m.x,K C 0 0]
def Xz:Option OM→List Value
 | none=>[]
 | some m=>m.cells
def acX:Option OM→Nat
 | none=>0
 | some _=>1
def tnm (ts:List kJ) (t:Int):ByteArray:=if t<(ts.length:Int) then (ts.getD t.toNat dT).name else ⟨#[]⟩
def Qj (e:Ending) (B:Nat) (w':World) (f:WD × Option OM→Prop):Prop:=∃ (d:WD) (q:Option OM) (a:Option Addr) (c:Nat) (v:Value),
 e=aO (aI #[I Y d.nu,I Y d.ep,aF d.up,I Y d.st,I Y d.le,I Y d.ta,I Y d.co,I Y d.lf,K a d.ss.length c,E d.x,I Y d.si,v]) ∧
 Own B w' 1 (K a d.ss.length c) d.ss.length (d.ss.map E)∧Own B w' 8 v (acX q) (Xz q)∧((K a d.ss.length c).ownBlock=C∨(K a d.ss.length c).ownBlock≠v.ownBlock)∧f (d,q)
theorem Code.names (h:Code ts 0):1≤ts.length∧ts.length≤40∧yY ts ts.length∧Ak ts ts.length∧nM ts ts.length:=by
 rcases h with ⟨h,_⟩ | ⟨a,⟨h,_⟩ | ⟨c,⟨h,_⟩ | ⟨d,⟨h,_⟩ | ⟨e,_⟩⟩⟩⟩
 ·omega
 ·omega
 ·omega
 ·omega
 ·exact ⟨a.1,a.2,c,d,e⟩
theorem Zx (h:Code ts 0) (t:Int) (a:0≤t):(tnm ts t).size≤30:=by
 unfold tnm;split
 ·have:=(h.names.2.2.1 t.toNat A).1.2.2
  exact this
 ·exact lG _
theorem aaw (d ep:Int) (up:Bool) (st le h co f:Int) (a:Option Addr) (n c:Nat) (x:ByteArray) (g:Int) (w:World):Calls prog 107 #[aI #[I Y d,I Y ep,aF up,I Y st,I Y le,I Y h,I Y co,I Y f,K a n c,E x,I Y g],I Y 5] w fun e w'=>e=aO (aI #[I Y 5,I Y d,I Y 0,I Y ep,I Y 0,I Y 0,E ⟨#[]⟩,K C 0 0])∧Below w.heap.size w w':=by
 go_enter func107,ntmps107
 go_wp2;exact bodyPost_ret (v:=aI #[I Y 5,I Y d,I Y 0,I Y ep,I Y 0,I Y 0,E ⟨#[]⟩,K C 0 0]) jB rfl ⟨rfl,jQ⟩
theorem aay (d ep:Int) (up:Bool) (st le h co f:Int) (a:Option Addr) (n c:Nat) (x:ByteArray) (g:Int) (w:World):Calls prog 107 #[aI #[I Y d,I Y ep,aF up,I Y st,I Y le,I Y h,I Y co,I Y f,K a n c,E x,I Y g],I Y 2] w fun e w'=>e=aO (aI #[I Y 2,I Y d,I Y 0,I Y ep,I Y le,I Y 0,E ⟨#[]⟩,K C 0 0])∧Below w.heap.size w w':=by
 go_enter func107,ntmps107
 go_wp2;exact bodyPost_ret (v:=aI #[I Y 2,I Y d,I Y 0,I Y ep,I Y le,I Y 0,E ⟨#[]⟩,K C 0 0]) jB rfl ⟨rfl,jQ⟩
theorem aax (d ep:Int) (up:Bool) (st le f co g:Int) (a:Option Addr) (n c:Nat) (x:ByteArray) (h:Int) (w:World):Calls prog 107 #[aI #[I Y d,I Y ep,aF up,I Y st,I Y le,I Y f,I Y co,I Y g,K a n c,E x,I Y h],I Y 3] w fun e w'=>e=aO (aI #[I Y 3,I Y d,I Y 0,I Y ep,I Y le,I Y f,E x,K C 0 0])∧Below w.heap.size w w':=by
 go_enter func107,ntmps107
 go_wp2;exact bodyPost_ret (v:=aI #[I Y 3,I Y d,I Y 0,I Y ep,I Y le,I Y f,E x,K C 0 0]) jB rfl ⟨rfl,jQ⟩

def zA:List Value:=[I Y 0,I Y 0,aF aK,I Y 0,I Y 0,I Y 0,I Y 0,I Y 0,K C 0 0,E ⟨#[]⟩,I Y 0,K C 0 0]
theorem Tryz.sizeAc:(prog.info? 144).map (·.size)=U 12:=Z
theorem FQ {g ep:Int} {up:Bool} {st le i co e:Int} {x:ByteArray} {h:Int} {a':Option Addr} {f c':Nat}:∀ v∈[I Y g,I Y ep,aF up,I Y st,I Y le,I Y i,I Y co,I Y e,K a n c,E x,I Y h,K a' f c'],v.oneCell'=aN:=by
 intro v d;simp only [mG,mF,or_false] at d;rcases d with rfl | rfl | rfl | rfl | rfl | rfl | rfl | rfl | rfl | rfl | rfl | rfl <;> rfl
theorem O7 {v v':Value} (h:∀ q,v.ownBlock=U q→U q≠v'.ownBlock):v.ownBlock=C∨v.ownBlock≠v'.ownBlock:=by
 cases a:v.ownBlock with
 | none=>exact .inl rfl
 | some q=>exact .inr (h q a)
theorem abN {o:Oper} {v:Value} (x:Operand) (h:o.op=.move x) (a:ρ x=v):(execOp ρ o).run prog w=.ok (.value v) w:=by
 rw [← a];exact BigFrame.run_move x h w
theorem abW {o:Oper} (x:Operand) (k f t e l d:Int) (s:ByteArray) (h:o.op=.buildSlice 139 1 #[(0,x)]) (a:ρ x=aI #[I Y k,I Y f,I Y t,I Y e,I Y l,I Y d,E s,K C 0 0]) :
  (execOp ρ o).run prog w=.ok (.value (K (U ⟨w.heap.size,0,C⟩) 1 1)) (w.alloc (aH #[I Y k,I Y f,I Y t,I Y e,I Y l,I Y d,E s,K C 0 0] 136)):=by
 unfold execOp;rw [h];simp [go_sem,a]
theorem acN {o:Oper} (x y:Operand) (f ep:Int) (up:Bool) (st le i co d:Int) (a:Option Addr) (n c:Nat) (s:ByteArray) (g:Int) (a':Option Addr) (e c':Nat) (h:o.op=.build 144 #[(0,x),(1,y)]) (j:ρ x=aI #[I Y f,I Y ep,aF up,I Y st,I Y le,I Y i,I Y co,I Y d,K a n c,E s,I Y g]) (k:ρ y=K a' e c') :
  (execOp ρ o).run prog w=.ok (.value (aI #[I Y f,I Y ep,aF up,I Y st,I Y le,I Y i,I Y co,I Y d,K a n c,E s,I Y g,K a' e c'])) w:=by
 unfold execOp;rw [h];simp [go_sem,j,k]
theorem UW (v1 v2:Value) (w:World):Sem.run prog (callFunc 107 #[v1,v2]) w=.ok (.enter 107 #[v1,v2]) w:=Z
theorem acW (w:World) (B:Nat) (m:OM) (a:B≤w.heap.size):Own B (w.alloc (aH m.cells.toArray 136)) 8 (K (U ⟨w.heap.size,0,C⟩) 1 1) 1 m.cells :=
 .inr ⟨w.heap.size,0,1,rfl,kW.made w B 136 8 1 1 m.cells.toArray 8 a kL G rfl (by simp [OM.cells]) m.cells (by simp [OM.cells]) _ (.inl rfl)⟩
def WD.k (d:WD):pU:=⟨d.nu,d.ep,d.up,d.st,d.le,d.ta,d.co,d.lf,d.ss,d.x,d.si⟩
def pU.d (k:pU):WD:=⟨k.nu,k.ep,k.up,k.st,k.le,k.ta,k.co,k.lf,k.ss,k.x,k.si⟩
variable {M N:List lQ} {Q X b c' cap fc i nF nW pc q wc:Nat} {W W' w' w0 wr wx wy:World} {Ws:List pU} {a' fa pa wa:Option Addr} {bh:BH} {kd:pU} {ms us vs:List Value} {ss:List ByteArray} {u v' vO:Value}
def OM.m (m:OM):lQ:=⟨m.k,m.f,0,m.e,m.l,m.d,m.x,[]⟩
theorem Je {x:Int} (h : -1≤x∧x≤300000000):I64 x:=⟨A,A⟩
theorem OM.good' {m:OM} (a : -1≤m.k∧m.k≤300000000) (c : -1≤m.f∧m.f≤300000000) (g : -1≤m.e∧m.e≤300000000) (h : -1≤m.l∧m.l≤300000000) (i : -1≤m.d∧m.d≤300000000) (o:m.x.size≤8):m.m.good :=
 ⟨by show m.x.size≤maxLen;unfold maxLen;omega,⟨Je a,Je c,Je ⟨by show -1≤(0:Int);omega,by show (0:Int)≤_;omega⟩,Je g,Je h,Je i⟩,fun s j=>absurd j (by simp [OM.m]),lG _⟩
def okR (r:WD × Option OM):Prop:=EN r.1.k∧∀ m,r.2=U m→m.m.good
theorem okR.z:okR (IY,C):=⟨⟨by simp [IY,WD.k],by simp [IY,WD.k]⟩,fun m h=>by cases h⟩
theorem VI:∀ l:List ByteArray,(∀ s∈l,s.size=8)→tot l=8*l.length
 | [],_=>rfl
 | s :: r,h=>by
  have a:=VI r (fun y d=>h y (aa9 _ d));have c:=h s (List.mem_cons_self ..);unfold tot at a ⊢;simp only [Js,RU,pX,a,c];omega
theorem Ae.sz (h:Ae ss):∀ s∈ss,s.size=8:=fun s c=>by
 obtain ⟨j,a,rfl⟩:=List.mem_iff_getElem.1 c;have:=h.2 j a;simpa only [List.getD,nH a,aa8] using this
theorem acA (h:Ae ss):tot ss≤64:=by
 have a:=h.1;rw [VI ss h.sz];omega
theorem abC {k:Nat} (h:k<ts.length):tnm ts (k:Int)=(ts.getD k dT).name:=by
 unfold tnm;rw [if_pos A];rfl
theorem lN.c0' {o:Nat} (h:lN w a b o n ts) {k:Nat} (c:k<n) {nm:ByteArray} (d:nm=(ts.getD k dT).name):w.cell? ⟨b,o+k*3,C⟩=U (E nm):=by rw [d];exact h.c0 k c
structure Zm (d:WD):Prop where
 nu:0≤d.nu∧d.nu≤300
 ep:0≤d.ep∧d.ep≤300
 le:0≤d.le∧d.le≤300000000
 ta:0≤d.ta∧d.ta≤39
 si:0≤d.si∧d.si≤1000000
 xz:d.x.size≤8
 sl:d.ss.length≤8∧∀ s∈d.ss,s.size≤maxLen
def oU (d:WD) (a:Option Addr) (c:Nat):List Value:=[I Y d.nu,I Y d.ep,aF d.up,I Y d.st,I Y d.le,I Y d.ta,I Y d.co,I Y d.lf,K a d.ss.length c,E d.x,I Y d.si]
theorem WD.ok.g {d:WD} (h:d.ok):Zm d:=by
 have a:=h.small;obtain ⟨c,e,f,i,j,k,l,h⟩:=h;have:0≤d.le∧d.le≤300000000∧0≤d.ta∧d.ta≤39∧d.x.size≤8:=by rcases h with h | h | h <;> omega
 exact ⟨A,A,A,A,A,A,a⟩
structure En (w0:World) (P:List Value) (X:Nat) (d:WD) (a:Option Addr) (c:Nat) (w:World):Prop where
 x:CF w X (oU d a c)
 o:Own (w0.heap.size+3) w 1 (K a d.ss.length c) d.ss.length (d.ss.map E)
 ne:∀ q,(K a d.ss.length c).ownBlock=U q→q≠X
 lo:w0.heap.size+3≤X
 hi:X<w.heap.size
 p:CF w (w0.heap.size+1) P
 z:CF w (w0.heap.size+2) zA
 b:Below w0.heap.size w0 w
 g:Zm d
theorem En.put {P:List Value} {d d':WD} (h:En w0 P X d a c w) (f:w.grownBy w' (U X)) (s:CF w' X (oU d' a' c')) (r:Own (w0.heap.size+3) w' 1 (K a' d'.ss.length c') d'.ss.length (d'.ss.map E)) (o:∀ q,(K a' d'.ss.length c').ownBlock=U q→q≠X) (g:Zm d'):En w0 P X d' a' c' w':=by
 have j:=h.lo;have l:=h.hi;exact ⟨s,r,o,j,lu l f.size,h.p.block (f.block _ A (fun e=>O)),h.z.block (f.block _ A (fun e=>O)),below_grown h.b f A (fun k i=>by injection i with i;omega),g⟩
theorem En.set {P:List Value} {d d':WD} (h:En w0 P X d a c w) {j:Nat} {v:Value} (k:j<11) (he:(oU d a c).set j v=oU d' a c) (i:d'.ss=d.ss) (g:Zm d'):En w0 P X d' a c (w.setCell ⟨X,j,C⟩ v):=by
 have f:=lU (lJ w (U X)) j v;refine h.put f (he ▸ h.x.set (j:=j) (by simp [oU];omega) v) ?_ ?_ g
 ·rw [i];exact h.o.grown f (.inr (fun e=>h.ne X e rfl))
 ·rw [i];exact h.ne
theorem En.call {P:List Value} {d:WD} (h:En w0 P X d a c w) (e:Below w.heap.size w w'):En w0 P X d a c w':=by
 have f:=h.lo;have i:=h.hi;have j:=e.size;exact ⟨h.x.block (e.block _ A),h.o.below e kL,h.ne,f,A,h.p.block (e.block _ A),h.z.block (e.block _ A),h.b.trans (e.mono A),h.g⟩
theorem En.al {P:List Value} {d:WD} (h:En w0 P X d a c w) (ob:Obj):En w0 P X d a c (w.alloc ob):=h.call kQ
theorem En.cs {P:List Value} {d:WD} (h:En w0 P X d a c w):w.cell? ⟨X,0,C⟩=U (I Y d.nu)∧w.cell? ⟨X,1,C⟩=U (I Y d.ep)∧w.cell? ⟨X,2,C⟩=U (aF d.up)∧w.cell? ⟨X,3,C⟩=U (I Y d.st)∧w.cell? ⟨X,4,C⟩=U (I Y d.le)∧w.cell? ⟨X,5,C⟩=U (I Y d.ta)∧w.cell? ⟨X,6,C⟩=U (I Y d.co)∧w.cell? ⟨X,7,C⟩=U (I Y d.lf)∧w.cell? ⟨X,8,C⟩=U (K a d.ss.length c)∧w.cell? ⟨X,9,C⟩=U (E d.x)∧w.cell? ⟨X,10,C⟩=U (I Y d.si) :=
 ⟨(h.x 0 bC).1,(h.x 1 bC).1,(h.x 2 bC).1,(h.x 3 bC).1,(h.x 4 bC).1,(h.x 5 bC).1,(h.x 6 bC).1,(h.x 7 bC).1,(h.x 8 bC).1,(h.x 9 bC).1,(h.x 10 bC).1⟩
theorem En.fin {P:List Value} {d:WD} {v:Value} {q:Option OM} (h:En w0 P X d a c w) (f:w.grownBy w' (U (w0.heap.size+2))) (k:Own w0.heap.size w' 8 v (acX q) (Xz q)) (i:(K a d.ss.length c).ownBlock=C∨(K a d.ss.length c).ownBlock≠v.ownBlock) (e:∀ m,q=U m→m.m.good):Qj (aO (aI (oU d a c ++ [v]).toArray)) w0.heap.size w' okR∧Below w0.heap.size w0 w':=by
 have l:=h.lo;have p:=h.hi;refine ⟨⟨d,q,a,c,v,rfl,(h.o.grown f (.inr (by intro j;have:=h.o.ku _ j;omega))).mono' A,k,i,⟨h.g.sl.2,by have:=h.g.sl.1;show d.ss.length≤_;omega⟩,e⟩,below_grown h.b f A (fun q e=>by simp at e;omega)⟩
theorem acI (d:WD) (a:Option Addr) (c:Nat) (kd:Int) (j:kd=2∨kd=3∨kd=5) (g:Zm d):Calls prog 107 #[aI #[I Y d.nu,I Y d.ep,aF d.up,I Y d.st,I Y d.le,I Y d.ta,I Y d.co,I Y d.lf,K a d.ss.length c,E d.x,I Y d.si],I Y kd] w fun e w'=>∃ m:OM,e=aO (aI #[I Y m.k,I Y m.f,I Y 0,I Y m.e,I Y m.l,I Y m.d,E m.x,K C 0 0])∧m.m.good∧Below w.heap.size w w':=by
 obtain ⟨g1,g2,g3,g4,-,g6,-⟩:=g;have i:(⟨#[]⟩:ByteArray).size≤8:=cZ;rcases j with rfl | rfl | rfl
 ·exact (aay d.nu d.ep d.up d.st d.le d.ta d.co d.lf a d.ss.length c d.x d.si w).mono fun e w' ⟨he,h⟩=>⟨⟨2,d.nu,d.ep,d.le,0,⟨#[]⟩⟩,he,OM.good' aT aT aT aT aT i,h⟩
 ·exact (aax d.nu d.ep d.up d.st d.le d.ta d.co d.lf a d.ss.length c d.x d.si w).mono fun e w' ⟨he,h⟩=>⟨⟨3,d.nu,d.ep,d.le,d.ta,d.x⟩,he,OM.good' aT aT aT aT aT g6,h⟩
 ·exact (aaw d.nu d.ep d.up d.st d.le d.ta d.co d.lf a d.ss.length c d.x d.si w).mono fun e w' ⟨he,h⟩=>⟨⟨5,d.nu,d.ep,0,0,⟨#[]⟩⟩,he,OM.good' aT aT aT aT aT i,h⟩
theorem I4 {p:Nat} {v0 v1 v2 v3 v4 v5 v6 a c v9 v10 v11:Value} (h:CF w p [v0,v1,v2,v3,v4,v5,v6,a,c,v9,v10,v11]):w.cell? ⟨p,0,C⟩=U v0∧w.cell? ⟨p,1,C⟩=U v1∧w.cell? ⟨p,2,C⟩=U v2∧w.cell? ⟨p,3,C⟩=U v3∧w.cell? ⟨p,4,C⟩=U v4∧w.cell? ⟨p,5,C⟩=U v5∧w.cell? ⟨p,6,C⟩=U v6∧w.cell? ⟨p,7,C⟩=U a∧w.cell? ⟨p,8,C⟩=U c∧w.cell? ⟨p,9,C⟩=U v9∧w.cell? ⟨p,10,C⟩=U v10∧w.cell? ⟨p,11,C⟩=U v11 :=
 ⟨(h 0 D).1,(h 1 D).1,(h 2 D).1,(h 3 D).1,(h 4 D).1,(h 5 D).1,(h 6 D).1,(h 7 D).1,(h 8 D).1,(h 9 D).1,(h 10 D).1,(h 11 D).1⟩
theorem abJ (L ep:Int) (up:Bool) (st le u co H:Int) (a:Option Addr) (b o c:Nat) (ss:List ByteArray) (x:ByteArray) (si:Int) (pa:Option Addr) (pb po pn pc:Nat) (ts:List kJ) (w:World) (h:kS w a b o ss.length ss) (hp:lN w pa pb po pn ts) :
  Calls prog 89 #[aI #[I Y L,I Y ep,aF up,I Y st,I Y le,I Y u,I Y co,I Y H,K a ss.length c,E x,I Y si],aI #[K pa pn pc]] w fun e w'=>Qj e w.heap.size w' okR∧Below w.heap.size w w':=by
 obtain ⟨W, hW⟩ := kC (((w.alloc (aH #[I Y L,I Y ep,aF up,I Y st,I Y le,I Y u,I Y co,I Y H,K a ss.length c,E x,I Y si] 127)).alloc (aH #[K pa pn pc] 33)).alloc (aH zA.toArray 144));have a8:Below w.heap.size w W:=jS;have b7:W.heap.size=w.heap.size+3:=dF;have hP:CF W w.heap.size (oU ⟨L,ep,up,st,le,u,co,H,ss,x,si⟩ a c):=by
  rw [hW];exact ((CF.made w (oU ⟨L,ep,up,st,le,u,co,H,ss,x,si⟩ a c).toArray 127).block (kU _ _ _ D)).block (kU _ _ _ aQ)
 have hL:CF W (w.heap.size+1) [K pa pn pc]:=by
  rw [hW];have:=(CF.made (w.alloc (aH (oU ⟨L,ep,up,st,le,u,co,H,ss,x,si⟩ a c).toArray 127)) #[K pa pn pc] 33).block (kU _ (aH zA.toArray 144) _ D);simpa [oU] using this
 have hR:CF W (w.heap.size+2) zA:=by
  rw [hW];have:=CF.made ((w.alloc (aH (oU ⟨L,ep,up,st,le,u,co,H,ss,x,si⟩ a c).toArray 127)).alloc (aH #[K pa pn pc] 33)) zA.toArray 144;simpa [oU] using this
 simp only [zA] at hW;have HW:=hid hW;clear hW;go_enter func89,ntmps89
 go_upto_region 1 with fail
 rw [← HW.out];clear HW;go_cut [15] (fun c' wx=>∃ r:Bool,c'=aF r∧(r=aK→(⟨L,ep,up,st,le,u,co,H,ss,x,si⟩:WD).ok∧Code ts 0)∧CF wx w.heap.size (oU ⟨L,ep,up,st,le,u,co,H,ss,x,si⟩ a c)∧CF wx (w.heap.size+1) [K pa pn pc]∧CF wx (w.heap.size+2) zA∧Below w.heap.size w wx∧w.heap.size+3≤wx.heap.size)
 case first =>
  obtain ⟨y0,y1,y2,y3,y4,y5,y6,y7,y8,y9,bu⟩:=Dc hP;go_wp2_with fail
  refine (JC L ep up st le u co H a b o ss.length c ss x si (h.below' a8)).mono ?_;rintro e w1 ⟨⟨r,rfl,hr⟩,au⟩;have bf:=hP.block (au.block w.heap.size A);have ay:=hL.block (au.block (w.heap.size+1) A);have bg:=hR.block (au.block (w.heap.size+2) A);have ak:=a8.trans (au.mono a8.size);have bs:w.heap.size+3≤w1.heap.size:=by have:=au.size;omega
  have HR:=hid hr;clear y0 y1 y2 y3 y4 y5 y6 y7 y8 y9 bu hr au hP hL hR b7 a8;cases r with
  | false =>
   have HF:=hid (And.intro bf (And.intro ay (And.intro bg (And.intro ak bs))));clear bf ay bg ak bs;go_wp2_with fail
   go_meet
   case rel=>exact ⟨aN,rfl,(fun h=>nomatch h),HF.out⟩
  | true =>
   have kp:w1.cell? ⟨w.heap.size+1,0,C⟩=U (K pa pn pc):=(ay 0 D).1;go_wp2_with fail
   refine (ru pa pb po pn pc ts (hp.below' ak)).mono ?_;rintro e w2 ⟨⟨cd,rfl,b2⟩,av⟩;have aq:=bf.block (av.block w.heap.size A);have an:=ay.block (av.block (w.heap.size+1) A);have af:=bg.block (av.block (w.heap.size+2) A);have aa:=ak.trans (av.mono ak.size);have aw:w.heap.size+3≤w2.heap.size:=by have:=av.size;omega
   have HF:=hid (And.intro aq (And.intro an (And.intro af (And.intro aa aw))));have ck:=hid b2;clear kp bf ay bg ak bs av b2 aq an af aa aw;by_cases bj:cd=0
   ·subst bj
    go_wp2_with fail
    go_meet
    case rel=>exact ⟨aK,rfl,fun _=>⟨HR.out.1 (by trivial),ck.out⟩,HF.out⟩
   ·have c4:(cd == 0)=aK:=by simpa using bj
    have c5:(cd != 0)=aN:=by simpa using bj
    clear bj;go_wp2_with fail
    go_meet
    case rel=>exact ⟨aN,rfl,(fun h=>nomatch h),HF.out⟩
 case rest =>
  obtain ⟨r,rfl,bp,aq,an,af,aa,aw⟩:=hcut;clear hP hL hR b7 a8;obtain ⟨w2, bb⟩ := kC wc;rw [← bb] at aq an af aa aw ⊢;clear bb;cases r with
  | true =>
   clear bp;go_upto_region 2 with fail
   go_wp2_with (refine jY rfl 144 (F 4) (F 16) rfl (w.heap.size+2) zA aa7 rfl rfl af rfl Tryz.sizeAc (FQ) ?_;intro ax ag ab)
   obtain ⟨k0,k1,k2,k3,k4,k5,k6,k7,k8,k9,ah,ai⟩:=I4 ag;exact bodyPost_ret (v:=aI aa6) dZ rfl ⟨⟨IY,C,C,0,K C 0 0,rfl,Own.nil _ _ _,Own.nil _ _ _,.inl rfl,okR.z⟩,below_grown aa ab A (fun q hq=>dR)⟩
  | false =>
   obtain ⟨hV,hC⟩:=bp rfl;have HV:=hid hV;have HC:=hid hC;clear bp hV hC;have cq:ss.length≤8:=(WD.ok.small HV.out).1;have bb:=h.below' aa;obtain ⟨y0,y1,y2,y3,y4,y5,y6,y7,y8,y9,bu⟩:=Dc aq;go_upto_region 4 with (go_at_call 92;refine (EG L ep up st le u co H a b o ss.length c ss x si _ bb A).mono ?_;rintro e w3 ⟨a1,c1,rfl,bo,a6⟩;have bw:=an.block (a6.block (w.heap.size+1) A);have bz:=af.block (a6.block (w.heap.size+2) A);have bk:=aa.trans (a6.mono aa.size);have ch:w.heap.size+3≤w3.heap.size:=(by have:=a6.size;omega);clear aq an af aa a6 bb)
   clear y0 y1 y2 y3 y4 y5 y6 y7 y8 y9 bu;have N:En w [K pa pn pc] w3.heap.size ⟨L,ep,up,st,le,u,co,H,ss,x,si⟩ a1 c1 (w3.alloc (aH #[I Y L,I Y ep,aF up,I Y st,I Y le,I Y u,I Y co,I Y H,K a1 ss.length c1,E x,I Y si] 127)):=⟨CF.made w3 (oU ⟨L,ep,up,st,le,u,co,H,ss,x,si⟩ a1 c1).toArray 127,(bo.alloc _).mono' aw,fun q hq=>by have:=bo.kD q hq;omega,ch,D,bw.block (kU w3 _ _ A),bz.block (kU w3 _ _ A),bk.alloc bk.size _,HV.out.g⟩
   obtain ⟨X, hX⟩ := kC w3.heap.size;obtain ⟨w4, br⟩ := kC (w3.alloc (aH #[I Y L,I Y ep,aF up,I Y st,I Y le,I Y u,I Y co,I Y H,K a1 ss.length c1,E x,I Y si] 127));rw [← br,← hX] at N;rw [← br,← hX];clear br hX bo bw bz bk ch aw cq;cases up with
   | false =>
    obtain ⟨z0,z1,z2,z3,z4,z5,z6,z7,z8,z9,ae⟩:=N.cs;have bl:=N.z;go_wp2_with (refine jY rfl 144 (F 4) (F 23) rfl (w.heap.size+2) zA [I Y L,I Y ep,aF aK,I Y st,I Y le,I Y u,I Y co,I Y H,K a1 ss.length c1,E x,I Y si,K C 0 0] rfl rfl bl rfl Tryz.sizeAc (FQ) ?_;intro ax ag ab)
    obtain ⟨k0,k1,k2,k3,k4,k5,k6,k7,k8,k9,ah,ai⟩:=I4 ag;exact bodyPost_ret (v:=aI #[I Y L,I Y ep,aF aK,I Y st,I Y le,I Y u,I Y co,I Y H,K a1 ss.length c1,E x,I Y si,K C 0 0]) dZ rfl (N.fin (q:=C) ab (Own.nil _ _ _) (O7 (fun q _ hh=>by cases hh)) (fun m hm=>by cases hm))
   | true =>
    have ae:w4.cell? ⟨X,10,C⟩=U (I Y si):=N.cs.2.2.2.2.2.2.2.2.2.2;have f10:w4.frozen? ⟨X,10,C⟩=aK:=(N.x 10 bC).2;have z2:w4.cell? ⟨X,2,C⟩=U (aF aN):=N.cs.2.2.1;obtain ⟨cw,cx⟩:0≤si∧si≤1000000:=N.g.si;go_upto_if 26 with fail
    go_cut [27] (fun _ wx=>∃ s:Int,En w [K pa pn pc] X ⟨L,ep,aN,st,le,u,co,H,ss,x,s⟩ a1 c1 wx)
    case first =>
     by_cases hs:si<1000000
     ·have M:=hid (N.set (d':=⟨L,ep,aN,st,le,u,co,H,ss,x,si+1⟩) (j:=10) (v:=I Y (si+1)) A rfl rfl ⟨N.g.nu,N.g.ep,N.g.le,N.g.ta,⟨by show 0≤si+1;omega,by show si+1≤1000000;omega⟩,N.g.xz,N.g.sl⟩)
      clear N;go_wp2_with fail
      go_meet
      case rel=>exact ⟨_,M.out⟩
     ·have M:=hid N
      clear N;go_wp2_with fail
      go_meet
      case rel=>exact ⟨_,M.out⟩
    case rest =>
     obtain ⟨s,P⟩:=hcut;clear N ae f10 z2 cw cx;obtain ⟨w5, ca⟩ := kC wc;rw [← ca] at P ⊢;clear ca;have z3:w5.cell? ⟨X,3,C⟩=U (I Y st):=P.cs.2.2.2.1;have ae:w5.cell? ⟨X,10,C⟩=U (I Y s):=P.cs.2.2.2.2.2.2.2.2.2.2;go_upto_block 0 with fail
     clear z3;go_cut [6] (fun c' wx=>∃ (kd:Int) (d:WD) (a':Option Addr) (V:Nat),c'=I Y kd∧(kd=0∨kd=2∨kd=3∨kd=5)∧En w [K pa pn pc] X d a' V wx)
     case first =>
      rcases ady HV.out with rfl | rfl | rfl
      ·have M:=hid P
       clear P;by_cases h3:3≤s
       ·go_wp2_with fail
        go_meet
        case rel=>exact ⟨5,_,_,_,rfl,.inr (.inr (.inr rfl)),M.out⟩
       ·go_wp2_with fail
        go_meet
        case rel=>exact ⟨0,_,_,_,rfl,.inl rfl,M.out⟩
      ·obtain ⟨l1,l2,bn⟩:1≤H∧H≤20∧Ae ss:=by have:=(vW1).1 HV.out;exact ⟨this.2.2.2.2.2.2.2.1,Int.le_trans this.2.2.2.2.2.2.2.2.1 this.2.2.2.2.2.2.1,this.2.2.2.2.2.2.2.2.2.2⟩
       have cy:ss.length+tot ss≤1048576:=by have:=acA bn;have:=bn.1;omega
       clear bn;have z7:w5.cell? ⟨X,7,C⟩=U (I Y H):=P.cs.2.2.2.2.2.2.2.1;have f7:w5.frozen? ⟨X,7,C⟩=aK:=(P.x 7 bC).2;have t:=P.set (d':=⟨L,ep,aN,1,le,u,co,H - 1,ss,x,s⟩) (j:=7) (v:=I Y (H - 1)) A rfl rfl ⟨P.g.nu,P.g.ep,P.g.le,P.g.ta,P.g.si,P.g.xz,P.g.sl⟩;clear P ae;go_upto_region 14 with fail
       obtain ⟨w6, bc⟩ := kC (w5.setCell ⟨X,7,C⟩ (I Y (H - 1)));rw [← bc] at t ⊢;clear bc z7 f7;have z7:w6.cell? ⟨X,7,C⟩=U (I Y (H - 1)):=t.cs.2.2.2.2.2.2.2.1;have ae:w6.cell? ⟨X,10,C⟩=U (I Y s):=t.cs.2.2.2.2.2.2.2.2.2.2;by_cases hl:H - 1=0
       ·have cm:(H - 1 == 0)=aN:=by simpa using hl
        rw [hl] at t;rw [hl] at z7;have h0:0≤u:=t.g.ta.1;have kp:w6.cell? ⟨w.heap.size+1,0,C⟩=U (K pa pn pc):=(t.p 0 D).1;have z5:w6.cell? ⟨X,5,C⟩=U (I Y u):=t.cs.2.2.2.2.2.1;clear hl l1 l2;go_upto_if 50 with fail
        go_cut [7] (fun c' wx=>∃ nm:ByteArray,c'=E nm∧nm.size≤30∧En w [K pa pn pc] X ⟨L,ep,aN,1,le,u,co,0,ss,x,s⟩ a1 c1 wx)
        case first =>
         by_cases c7:u<(pn:Int)
         ·obtain ⟨k,rfl⟩:∃ k:Nat,u=k:=⟨u.toNat,A⟩
          have hk:k<pn:=A;have cv:=hp.ad A;subst cv;have ba:=Zx HC.out (k:Int) A;rw [abC (by rw [hp.len];exact hk)] at ba;have ct:w6.cell? ⟨pb,po+k*3,C⟩=U (E (ts.getD k dT).name):=(hp.below' t.b).c0' hk rfl;obtain ⟨nm, b5⟩ := kC ((ts.getD k dT).name);rw [← b5] at ba ct;have M:=hid t;have HZ:=hid ba;clear t b5 ba;go_wp2_with fail
          go_meet
          case rel=>exact ⟨nm,rfl,HZ.out,M.out⟩
         ·have M:=hid t
          clear t;go_wp2_with fail
          go_meet
          case rel=>exact ⟨⟨#[]⟩,rfl,cZ,M.out⟩
        case rest =>
         obtain ⟨nm,rfl,ba,T3⟩:=hcut;clear t kp z5 z7 ae;obtain ⟨w7, bd⟩ := kC wc;rw [← bd] at T3 ⊢;clear bd;have z8:w7.cell? ⟨X,8,C⟩=U (K a1 ss.length c1):=T3.cs.2.2.2.2.2.2.2.2.1;obtain ⟨b1,o1,hS,-⟩:=T3.o.adE T3.g.sl.2;go_wp2_with fail
         refine (Kr nm a1 b1 o1 ss.length c1 ss _ A hS cy).mono ?_;rintro e T ⟨rfl,a7⟩;have T4:=T3.call a7;have b9:=FW nm ss;obtain ⟨vt, b8⟩ := kC (Gf nm ss);rw [← b8] at b9 ⊢;clear b8 hS T3 a7 z8;have zz:T.cell? ⟨X,9,C⟩=U (E x):=T4.cs.2.2.2.2.2.2.2.2.2.1;have ff:T.frozen? ⟨X,9,C⟩=aK:=(T4.x 9 bC).2;have T5:=T4.set (d':=⟨L,ep,aN,1,le,u,co,0,ss,vt,s⟩) (j:=9) (v:=E vt) A rfl rfl ⟨T4.g.nu,T4.g.ep,T4.g.le,T4.g.ta,T4.g.si,Nat.le_of_eq b9,T4.g.sl⟩;clear T4;go_upto_region 19 with fail
         obtain ⟨w9, cb⟩ := kC (T.setCell ⟨X,9,C⟩ (E vt));rw [← cb] at T5 ⊢;clear cb zz ff;have zz:w9.cell? ⟨X,3,C⟩=U (I Y 1):=T5.cs.2.2.2.1;have ff:w9.frozen? ⟨X,3,C⟩=aK:=(T5.x 3 bC).2;have Q:=T5.set (d':=⟨L,ep,aN,2,le,u,co,0,ss,vt,s⟩) (j:=3) (v:=I Y 2) A rfl rfl ⟨T5.g.nu,T5.g.ep,T5.g.le,T5.g.ta,T5.g.si,T5.g.xz,T5.g.sl⟩;clear T5;go_upto_region 20 with fail
         obtain ⟨wa, cf⟩ := kC (w9.setCell ⟨X,3,C⟩ (I Y 2));rw [← cf] at Q ⊢;clear cf zz ff;have zz:wa.cell? ⟨X,6,C⟩=U (I Y co):=Q.cs.2.2.2.2.2.2.1;have ff:wa.frozen? ⟨X,6,C⟩=aK:=(Q.x 6 bC).2;have T7:=Q.set (d':=⟨L,ep,aN,2,le,u,0,0,ss,vt,s⟩) (j:=6) (v:=I Y 0) A rfl rfl ⟨Q.g.nu,Q.g.ep,Q.g.le,Q.g.ta,Q.g.si,Q.g.xz,Q.g.sl⟩;clear Q;go_upto_region 21 with fail
         obtain ⟨wb, cg⟩ := kC (wa.setCell ⟨X,6,C⟩ (I Y 0));rw [← cg] at T7 ⊢;clear cg zz ff;have T8:=T7.al (aH #[] 9);have cn:=T7.lo;have b3:=T7.hi;have c9:(wb.alloc (aH #[] 9)).cell? ⟨X,8,C⟩=U (K a1 ss.length c1):=T8.cs.2.2.2.2.2.2.2.2.1;have cz:(wb.alloc (aH #[] 9)).frozen? ⟨X,8,C⟩=aK:=(T8.x 8 bC).2;have zz:wb.cell? ⟨X,8,C⟩=U (K a1 ss.length c1):=T7.cs.2.2.2.2.2.2.2.2.1;have ff:wb.frozen? ⟨X,8,C⟩=aK:=(T7.x 8 bC).2;have hg:=lU (lJ (wb.alloc (aH #[] 9)) (U X)) 8 (K (U ⟨wb.heap.size,0,C⟩) 0 0);have b6:Own (w.heap.size+3) (wb.alloc (aH #[] 9)) 1 (K (U ⟨wb.heap.size,0,C⟩) 0 0) 0 []:=.inr ⟨_,0,0,rfl,kW.made wb (w.heap.size+3) 9 1 0 0 _ 0 A kL G rfl kL _ rfl _ (.inl rfl)⟩;have b4:wb.heap.size≠X:=A;have M:=hid (T8.put (d':=⟨L,ep,aN,2,le,u,0,0,[],vt,s⟩) (a':=U ⟨wb.heap.size,0,C⟩) (c':=0) hg (T8.x.set (j:=8) bC _) (b6.grown hg (.inr (fun e=>b4 (LH e)))) (fun q hq=>by have:wb.heap.size=q:=LH hq;omega) ⟨T8.g.nu,T8.g.ep,T8.g.le,T8.g.ta,T8.g.si,T8.g.xz,D⟩);rw [World.setCell_alloc_past _ _ _ _ b3] at M;clear T7 T8 hg b6 b4;go_wp2_with fail
         go_meet
         case rel=>exact ⟨3,_,_,_,rfl,.inr (.inr (.inl rfl)),M.out⟩
       ·have cm:(H - 1 == 0)=aK:=by simpa using hl
        have M:=hid t;clear t hl l1 l2;by_cases h4:4≤s
        ·go_wp2_with fail
         go_meet
         case rel=>exact ⟨2,_,_,_,rfl,.inr (.inl rfl),M.out⟩
        ·go_wp2_with fail
         go_meet
         case rel=>exact ⟨0,_,_,_,rfl,.inl rfl,M.out⟩
      ·have M:=hid P
       clear P;by_cases h4:4≤s
       ·go_wp2_with fail
        go_meet
        case rel=>exact ⟨3,_,_,_,rfl,.inr (.inr (.inl rfl)),M.out⟩
       ·go_wp2_with fail
        go_meet
        case rel=>exact ⟨0,_,_,_,rfl,.inl rfl,M.out⟩
     case rest =>
      obtain ⟨kd,d,a',V,rfl,hk,t⟩:=hcut;clear P ae HV HC;obtain ⟨w6, bc⟩ := kC wc;rw [← bc] at t ⊢;clear bc;rcases hk with rfl | hk
      ·obtain ⟨z0,z1,z2,z3,z4,z5,z6,z7,z8,z9,ae⟩:=t.cs
       have bl:=t.z;go_wp2_with (refine jY rfl 144 (F 4) (F 78) rfl (w.heap.size+2) zA [I Y d.nu,I Y d.ep,aF d.up,I Y d.st,I Y d.le,I Y d.ta,I Y d.co,I Y d.lf,K a' d.ss.length V,E d.x,I Y d.si,K C 0 0] rfl rfl bl rfl Tryz.sizeAc (FQ) ?_;intro ax ag ab)
       obtain ⟨k0,k1,k2,k3,k4,k5,k6,k7,k8,k9,ah,ai⟩:=I4 ag;exact bodyPost_ret (v:=aI #[I Y d.nu,I Y d.ep,aF d.up,I Y d.st,I Y d.le,I Y d.ta,I Y d.co,I Y d.lf,K a' d.ss.length V,E d.x,I Y d.si,K C 0 0]) dZ rfl (t.fin (q:=C) ab (Own.nil _ _ _) (O7 (fun q _ hh=>by cases hh)) (fun m hm=>by cases hm))
      ·have c6:(kd == 0)=aK:=by rcases hk with rfl | rfl | rfl <;> rfl
       have HK:=hid hk;clear hk;have zz:w6.cell? ⟨X,10,C⟩=U (I Y d.si):=t.cs.2.2.2.2.2.2.2.2.2.2;have ff:w6.frozen? ⟨X,10,C⟩=aK:=(t.x 10 bC).2;have T3:=t.set (d':={ d with si:=0 }) (j:=10) (v:=I Y 0) A rfl rfl ⟨t.g.nu,t.g.ep,t.g.le,t.g.ta,⟨RX 0,by show (0:Int)≤1000000;decide⟩,t.g.xz,t.g.sl⟩;go_upto_region 31 with fail
       obtain ⟨J,hD⟩:∃ J:WD,J={ d with si:=0 }:=⟨_,rfl⟩
       rw [← hD] at T3;obtain ⟨w7, bd⟩ := kC (w6.setCell ⟨X,10,C⟩ (I Y 0));rw [← bd] at T3 ⊢;clear bd zz ff t hD;have cn:=T3.lo;have b3:=T3.hi;refine wp_region_held (S:=fun w'=>CF w' X (oU J a' V)) Z ?_;change wpAnyH _ _ _ _ _ _ _ _ (World.drew _);have T4:=T3.call (Iz w7.heap.size w7).drew;have bm:=T4.x;refine jZ (i:=0) (d:=U 80) (v:=aI (oU J a' V).toArray) (l':=(bt 7 1)) rfl (fun _ hc=>E5 127 _ (oU J a' V) (F 5) Z Z hc underlying127 rfl Tryz.sizeWk) bm ?_;refine jZ (i:=1) (d:=U 81) (v:=aI (oU J a' V).toArray) (l':=(bt 7 3)) rfl (fun _ hc=>E5 127 _ (oU J a' V) (F 5) Z Z hc underlying127 rfl Tryz.sizeWk) bm ?_;refine jZ (i:=2) (d:=U 82) (v:=I Y kd) (l':=(bt 7 7)) rfl (fun _ _=>abN (F 6) Z Z) bm ?_;refine kF Z (kZ (i:=3) (d:=U 83) (f:=107) (args:=#[aI (oU J a' V).toArray,I Y kd]) (l':=(bt 7 15)) (R:=fun v w'=>∃ m:OM,v=aI m.cells.toArray∧m.m.good∧Below w7.drew.heap.size w7.drew w') rfl Z Z Z (lT _ _ _ rfl Z Z rfl UW) ((acI J a' V kd HK.out T3.g).mono fun _ _ ⟨m,he,hm,hb⟩=>⟨_,he,m,rfl,hm,hb⟩) ?_);rintro _ T ⟨m,rfl,hm,a7⟩;have T5:=T4.call a7;refine ⟨T5.x,?_⟩;have Q:=T5.al (aH m.cells.toArray 136);have c8:w7.heap.size≤T.heap.size:=a7.size;have b0:=Q.z;have cu:=acW T w.heap.size m A;refine kF Z (kM (i:=4) (d:=U 84) (v:=K (U ⟨T.heap.size,0,C⟩) 1 1) (w':=T.alloc (aH m.cells.toArray 136)) (l':=(bt 7 31)) rfl Z Z Z (abW (F 83) m.k m.f 0 m.e m.l m.d m.x Z Z) Q.x ?_);refine jZ (i:=5) (d:=U 85) (v:=aI (oU J a' V ++ [K (U ⟨T.heap.size,0,C⟩) 1 1]).toArray) (l':=(bt 7 63)) rfl (fun _ _=>acN (F 80) (F 84) J.nu J.ep J.up J.st J.le J.ta J.co J.lf a' J.ss.length V J.x J.si (U ⟨T.heap.size,0,C⟩) 1 1 Z Z Z) Q.x ?_;obtain ⟨ax, bq⟩ := kC ((T.alloc (aH m.cells.toArray 136)).setCells (w.heap.size+2) 0 (oU J a' V ++ [K (U ⟨T.heap.size,0,C⟩) 1 1]));have ag:CF ax (w.heap.size+2) (oU J a' V ++ [K (U ⟨T.heap.size,0,C⟩) 1 1]):=by rw [bq];exact b0.stored rfl
       have ab:(T.alloc (aH m.cells.toArray 136)).grownBy ax (U (w.heap.size+2)):=by rw [bq];exact gsc
       have cl:=Q.x.block (ab.block X aQ aQ);refine kF Z (lI (i:=6) (w':=ax) (l':=(bt 7 127)) rfl Z Z Z (by rw [bq];exact lM 144 zA (oU J a' V ++ [K (U ⟨T.heap.size,0,C⟩) 1 1]) (F 4) (F 85) Z Z Z b0 rfl Tryz.sizeAc (FQ)) cl ?_);obtain ⟨k0,k1,k2,k3,k4,k5,k6,k7,k8,k9,ah,ai⟩:=I4 ag;refine wpAnyH_done Z ?_ _;go_wp2;refine bodyPost_ret (v:=aI (oU J a' V ++ [K (U ⟨T.heap.size,0,C⟩) 1 1]).toArray) (by simp [results,results89,go_sem,oU,k0,k1,k2,k3,k4,k5,k6,k7,k8,k9,ah,ai]) rfl (Q.fin (q:=U m) ab ?_ ?_ ?_)
       ·exact cu.grown ab (.inr (by intro hh;have:T.heap.size=w.heap.size+2:=LH hh;omega))
       ·exact O7 (fun q hq hh=>by have:=T5.o.kD q hq;have:q=T.heap.size:=LH hh;omega)
       ·intro m' cp
        cases cp
        exact hm
structure Bx (w0:World) (bs:List (List Value)) (wx:World):Prop where
 c:∀ i,i<bs.length→CF wx (w0.heap.size+i) (bs.getD i [])
 B:Below w0.heap.size w0 wx
 z:w0.heap.size+bs.length≤wx.heap.size
theorem Bx.below {d:List (List Value)} (h:Bx w0 d wx) (a:Below wx.heap.size wx wy):Bx w0 d wy :=
 ⟨fun i hi=>(h.c i hi).block (a.block _ bM),h.B.trans (a.mono h.B.size),lH h.z a.size⟩
theorem Bx.alloc {a:List (List Value)} (h:Bx w0 a wx) (ob:Obj):Bx w0 a (wx.alloc ob):=h.below kQ
theorem Bx.grown {a:List (List Value)} {row:Option Nat} (h:Bx w0 a wx) (d:wx.grownBy wy row) (f:∀ q,row=U q→w0.heap.size+a.length≤q):Bx w0 a wy :=
 ⟨fun i hi=>(h.c i hi).block (d.block _ bM (fun e=>iR)),below_grown h.B d h.B.size (fun q g=>by have:=f q g;omega),lH h.z d.size⟩
def aee (ts:List kJ) (t:Int):Nat:=(ts.getD t.toNat dT).deps.length
def adM (ts:List kJ) (t:Int):Int:=(ts.getD t.toNat dT).cost
def freed (d:WD) (k l:Int):Prop:=k=4∧d.st=2∧d.le=l
theorem lN.task {c e d:Nat} (h:lN w pa c e d ts) {dd:Int} (o:0≤dd) (p:dd<(d:Int)) :
  ∃ (j:Nat) (a':Option Addr) (a c':Nat),dd=(j:Int)∧j<d∧pa=U ⟨c,e,C⟩∧w.cell? ⟨c,e+j*3+1,C⟩=U (I Y (adM ts dd))∧w.cell? ⟨c,e+j*3+2,C⟩=U (K a' a c')∧a=aee ts dd:=by
 obtain ⟨j,rfl⟩:∃ j:Nat,dd=(j:Int):=⟨dd.toNat,A⟩
 have g:j<d:=A;obtain ⟨T,a',l,q,a,c',f,_,i,k,hi,_⟩:=h.get g;refine ⟨j,a',a,c',rfl,g,h.ad A,?_,k,?_⟩
 ·rw [i,f];rfl
 ·have:=hi.len
  rw [← this,f];rfl
theorem adu (w:World) {B:Nat} (h:B≤w.heap.size):Own B (w.alloc (aH #[] 9)) 1 (K (U ⟨w.heap.size,0,C⟩) 0 0) 0 [] :=
 .inr ⟨_,0,0,rfl,kW.made w B 9 1 0 0 _ 0 h kL G rfl kL _ rfl _ (.inl rfl)⟩
theorem aad {B:Nat} (d:WD) (a:Option Addr) (c:Nat) (h:Own B w 1 (K a d.ss.length c) d.ss.length (d.ss.map E)) (g:∀ s∈d.ss,s.size≤maxLen) (f:d.ss.length≤1048576):Qj (aO (aI (oU d a c ++ [K C 0 0]).toArray)) B w okR :=
 ⟨d,C,a,c,K C 0 0,rfl,h,Own.nil _ _ _,O7 (fun q _ e=>iY),⟨g,f⟩,fun m hm=>by cases hm⟩
theorem Yk {p:Nat} {d:WD} (h:CF w p (oU d a c)):w.cell? ⟨p,0,C⟩=U (I Y d.nu)∧w.cell? ⟨p,1,C⟩=U (I Y d.ep)∧w.cell? ⟨p,2,C⟩=U (aF d.up)∧w.cell? ⟨p,3,C⟩=U (I Y d.st)∧w.cell? ⟨p,4,C⟩=U (I Y d.le)∧w.cell? ⟨p,5,C⟩=U (I Y d.ta)∧w.cell? ⟨p,6,C⟩=U (I Y d.co)∧w.cell? ⟨p,7,C⟩=U (I Y d.lf)∧w.cell? ⟨p,8,C⟩=U (K a d.ss.length c)∧w.cell? ⟨p,9,C⟩=U (E d.x)∧w.cell? ⟨p,10,C⟩=U (I Y d.si) :=
 ⟨(h 0 bC).1,(h 1 bC).1,(h 2 bC).1,(h 3 bC).1,(h 4 bC).1,(h 5 bC).1,(h 6 bC).1,(h 7 bC).1,(h 8 bC).1,(h 9 bC).1,(h 10 bC).1⟩
structure Vg (w:World) (L:List (List Value)) (X:Nat) (d:WD) (a:Option Addr) (c:Nat) (wx:World):Prop where
 s:Bx w L wx
 x:CF wx X (oU d a c)
 y:CF wx (X+1) (oU d a c ++ [K C 0 0])
 o:Own (w.heap.size+4) wx 1 (K a d.ss.length c) d.ss.length (d.ss.map E)
 hi:X+1<wx.heap.size
theorem Vg.call {L:List (List Value)} {d:WD} (h:Vg w L X d a c wx) (e:Below wx.heap.size wx wy):Vg w L X d a c wy:=by
 have f:=h.hi;have g:=e.size;exact ⟨h.s.below e,h.x.block (e.block _ A),h.y.block (e.block _ A),h.o.below e kL,A⟩
theorem abK (d:WD) (a:Option Addr) (b o c:Nat) (pa:Option Addr) (pb po H pc:Nat) (ts:List kJ) (k f t e l dd:Int) (x:ByteArray) (P:Option Addr) (mb mo mc:Nat) (ms:List ByteArray) (w:World) (h:kS w a b o d.ss.length d.ss) (hp:lN w pa pb po H ts) (hm:kS w P mb mo ms.length ms) (hn:d.ss.length≤1048576) (cz:ms.length≤1048576) :
  Calls prog 87 #[aI #[I Y d.nu,I Y d.ep,aF d.up,I Y d.st,I Y d.le,I Y d.ta,I Y d.co,I Y d.lf,K a d.ss.length c,E d.x,I Y d.si],aI #[K pa H pc],aI #[I Y k,I Y f,I Y t,I Y e,I Y l,I Y dd,E x,K P ms.length mc]] w fun e' w'=>Qj e' w.heap.size w' okR∧Below w.heap.size w w':=by
 obtain ⟨i0,cv,c6,c7,c8⟩:=info_parts Tryz.info9;obtain ⟨W, hW⟩ := kC ((((w.alloc (aH #[I Y d.nu,I Y d.ep,aF d.up,I Y d.st,I Y d.le,I Y d.ta,I Y d.co,I Y d.lf,K a d.ss.length c,E d.x,I Y d.si] 127)).alloc (aH #[K pa H pc] 33)).alloc (aH #[I Y k,I Y f,I Y t,I Y e,I Y l,I Y dd,E x,K P ms.length mc] 136)).alloc (aH zA.toArray 144));have S0:Bx w [oU d a c,[K pa H pc],[I Y k,I Y f,I Y t,I Y e,I Y l,I Y dd,E x,K P ms.length mc],zA] W:=by
  refine ⟨fun i hi=>?_,by rw [hW];exact ((kQ.alloc D _).alloc dQ _).alloc dQ _,dF⟩;have cu:i<4:=hi;rw [hW];match i,cu with
  | 0,_=>exact (((CF.made w (oU d a c).toArray 127).block (kU _ _ _ D)).block (kU _ _ _ dQ)).block (kU _ _ _ dQ)
  | 1,_ =>
   have:=CF.made (w.alloc (aH (oU d a c).toArray 127)) #[K pa H pc] 33;rw [mJ] at this;exact (this.block (kU _ _ _ D)).block (kU _ _ _ dQ)
  | 2,_ =>
   have:=CF.made ((w.alloc (aH (oU d a c).toArray 127)).alloc (aH #[K pa H pc] 33)) #[I Y k,I Y f,I Y t,I Y e,I Y l,I Y dd,E x,K P ms.length mc] 136;rw [mJ,mJ] at this;exact this.block (kU _ _ _ D)
  | 3,_ =>
   have:=CF.made (((w.alloc (aH (oU d a c).toArray 127)).alloc (aH #[K pa H pc] 33)).alloc (aH #[I Y k,I Y f,I Y t,I Y e,I Y l,I Y dd,E x,K P ms.length mc] 136)) zA.toArray 144;rw [mJ,mJ,mJ] at this;exact this
 simp only [zA] at hW;have HW:=hid hW;clear hW;have cy:=hp.max;unfold maxLen at cy;go_enter func87,ntmps87
 go_upto_region 1 with fail
 rw [← HW.out];clear HW;go_cut [17] (fun c' wx=>∃ r:Bool,c'=aF r∧(r=aK→d.ok)∧Bx w [oU d a c,[K pa H pc],[I Y k,I Y f,I Y t,I Y e,I Y l,I Y dd,E x,K P ms.length mc],zA] wx)
 case first =>
  obtain ⟨y0,y1,y2,y3,y4,y5,y6,y7,y8,y9,bk⟩:=Yk (p:=w.heap.size) (S0.c 0 D);go_wp2_with fail
  refine (JC d.nu d.ep d.up d.st d.le d.ta d.co d.lf a b o d.ss.length c d.ss d.x d.si (h.below' S0.B)).mono ?_;rintro e' w1 ⟨⟨r,rfl,hr⟩,bn⟩;have S1:=S0.below bn;have HR:=hid hr;clear y0 y1 y2 y3 y4 y5 y6 y7 y8 y9 bk hr bn S0;cases r with
  | false =>
   have HF:=hid S1;clear S1;go_wp2_with fail
   go_meet
   case rel=>exact ⟨aN,rfl,(fun h=>nomatch h),HF.out⟩
  | true =>
   have kp:w1.cell? ⟨w.heap.size+1,0,C⟩=U (K pa H pc):=(S1.c 1 D 0 D).1;go_wp2_with fail
   refine (ru pa pb po H pc ts (hp.below' S1.B)).mono ?_;rintro e' w2 ⟨⟨cd,rfl,-⟩,bo⟩;have HF:=hid (S1.below bo);clear kp S1 bo;by_cases aw:cd=0
   ·subst aw
    go_wp2_with fail
    go_meet
    case rel=>exact ⟨aK,rfl,fun _=>HR.out.1 (by trivial),HF.out⟩
   ·have dh:(cd == 0)=aK:=by simpa using aw
    have ba:(cd != 0)=aN:=by simpa using aw
    clear aw;go_wp2_with fail
    go_meet
    case rel=>exact ⟨aN,rfl,(fun h=>nomatch h),HF.out⟩
 case rest =>
  obtain ⟨r,rfl,bd,S2⟩:=hcut;clear S0;obtain ⟨w2, ca⟩ := kC wc;rw [← ca] at S2 ⊢;clear ca;have bg:=S2.z;simp only [pX,qJ] at bg;cases r with
  | true =>
   clear bd;have R1:CF w2 (w.heap.size+3) zA:=S2.c 3 D;go_upto_region 2 with fail
   go_wp2_with (refine jY rfl 144 (F 6) (F 18) rfl (w.heap.size+3) zA aa7 rfl rfl R1 rfl Tryz.sizeAc (FQ) ?_;intro af aa V)
   obtain ⟨k0,k1,k2,k3,k4,k5,k6,k7,Q,k9,ab,ae⟩:=I4 aa;exact bodyPost_ret (v:=aI aa6) bH rfl ⟨⟨IY,C,C,0,K C 0 0,rfl,Own.nil _ _ _,Own.nil _ _ _,.inl rfl,okR.z⟩,below_grown S2.B V A (fun q L=>by simp at L;omega)⟩
  | false =>
   have bz:=WD.ok.small (bd rfl);have cg:=hid bz.2;clear bd bz;obtain ⟨y0,y1,y2,y3,y4,y5,y6,y7,y8,y9,bk⟩:=Yk (p:=w.heap.size) (S2.c 0 D);go_wp2_with fail
   refine (EG d.nu d.ep d.up d.st d.le d.ta d.co d.lf a b o d.ss.length c d.ss d.x d.si _ (h.below' S2.B) hn).mono ?_;rintro e' w3 ⟨a1,c1,rfl,bu,bp⟩;have S3:=S2.below bp;have T4:Vg w [oU d a c,[K pa H pc],[I Y k,I Y f,I Y t,I Y e,I Y l,I Y dd,E x,K P ms.length mc],zA] w3.heap.size d a1 c1 ((w3.alloc (aH #[I Y d.nu,I Y d.ep,aF d.up,I Y d.st,I Y d.le,I Y d.ta,I Y d.co,I Y d.lf,K a1 d.ss.length c1,E d.x,I Y d.si] 127)).alloc (aH #[I Y d.nu,I Y d.ep,aF d.up,I Y d.st,I Y d.le,I Y d.ta,I Y d.co,I Y d.lf,K a1 d.ss.length c1,E d.x,I Y d.si,K C 0 0] 144)):=by
    refine ⟨(S3.alloc _).alloc _,(CF.made w3 (oU d a1 c1).toArray 127).block (kU _ _ _ D),?_,((bu.mono' bg).alloc _).alloc _,D⟩;have:=CF.made (w3.alloc (aH #[I Y d.nu,I Y d.ep,aF d.up,I Y d.st,I Y d.le,I Y d.ta,I Y d.co,I Y d.lf,K a1 d.ss.length c1,E d.x,I Y d.si] 127)) (oU d a1 c1 ++ [K C 0 0]).toArray 144;rw [mJ] at this;exact this
   have cm:w.heap.size+4≤w3.heap.size:=S3.z;obtain ⟨X,hX⟩:∃ X:Nat,X=w3.heap.size:=⟨_,rfl⟩
   obtain ⟨W4, a6⟩ := kC ((w3.alloc (aH #[I Y d.nu,I Y d.ep,aF d.up,I Y d.st,I Y d.le,I Y d.ta,I Y d.co,I Y d.lf,K a1 d.ss.length c1,E d.x,I Y d.si] 127)).alloc (aH #[I Y d.nu,I Y d.ep,aF d.up,I Y d.st,I Y d.le,I Y d.ta,I Y d.co,I Y d.lf,K a1 d.ss.length c1,E d.x,I Y d.si,K C 0 0] 144));rw [← a6,← hX] at T4;rw [← hX] at cm;have bl:=hid a6;have HX:=hid hX;clear y0 y1 y2 y3 y4 y5 y6 y7 y8 y9 bk bp S2 bu a6 hX S3;go_upto_region 5 with fail
   rw [← bl.out,← HX.out];clear bl HX bg;have al:Hid (∀ wx af,Vg w [oU d a c,[K pa H pc],[I Y k,I Y f,I Y t,I Y e,I Y l,I Y dd,E x,K P ms.length mc],zA] X d a1 c1 wx→wx.grownBy af (U (w.heap.size+3))→Qj (aO (aI #[I Y d.nu,I Y d.ep,aF d.up,I Y d.st,I Y d.le,I Y d.ta,I Y d.co,I Y d.lf,K a1 d.ss.length c1,E d.x,I Y d.si,K C 0 0])) w.heap.size af okR∧Below w.heap.size w af):=hid (fun wx af T hg=>⟨aad d a1 c1 ((T.o.grown hg (.inr (by intro hh;have:=T.o.ku _ hh;omega))).mono' A) cg.out hn,below_grown T.s.B hg (by have:=T.s.z;simp at this;omega) (fun q L=>by simp at L;omega)⟩);go_cut [37] (fun c' wx=>∃ r:Bool,c'=aF r∧(r=aK→vM k f t e l dd x.size ms)∧Vg w [oU d a c,[K pa H pc],[I Y k,I Y f,I Y t,I Y e,I Y l,I Y dd,E x,K P ms.length mc],zA] X d a1 c1 wx)
   case first =>
    have y2:W4.cell? ⟨X,2,C⟩=U (aF d.up):=(T4.x 2 bC).1;rcases Sv d.up with ai | ai
    rotate_left
    ·rw [ai] at y2
     have HT:=hid T4;clear ai T4;go_wp2_with fail
     go_meet
     case rel=>exact ⟨aN,rfl,(fun h=>nomatch h),HT.out⟩
    ·rw [ai] at y2
     clear ai;obtain ⟨m0,m1,m2,m3,m4,m5,m6,m7⟩:=ER (T4.s.c 2 D);go_wp2_with fail
     refine (NK k f t e l dd x P mb mo ms.length mc ms _ (hm.below' T4.s.B)).mono ?_;rintro e' w5 ⟨⟨r,rfl,hr⟩,bq⟩;have g:=T4.call bq;have HR:=hid hr;clear m0 m1 m2 m3 m4 m5 m6 m7 y2 bq T4 hr;cases r with
     | false =>
      have HT:=hid g;clear g;go_wp2_with fail
      go_meet
      case rel=>exact ⟨aN,rfl,(fun h=>nomatch h),HT.out⟩
     | true =>
      have m2:w5.cell? ⟨w.heap.size+2,2,C⟩=U (I Y t):=(g.s.c 2 D 2 D).1;have b0:w5.cell? ⟨X,0,C⟩=U (I Y d.nu):=(g.x 0 bC).1;have HT:=hid g;clear g;go_wp2_with fail
      go_meet
      case rel=>exact ⟨_,rfl,fun _=>HR.out.1 (by trivial),HT.out⟩
   case rest =>
    obtain ⟨r,rfl,hv,g⟩:=hcut;clear T4;obtain ⟨w5, cb⟩ := kC wc;rw [← cb] at g ⊢;clear cb;cases r with
    | true =>
     clear hv;have R1:CF w5 (w.heap.size+3) zA:=g.s.c 3 D;obtain ⟨b0,b1,b2,R,S,b5,b6,b7,b8,b9,ag,bm⟩:=I4 g.y;go_upto_region 6 with fail
     go_wp2_with (refine jY rfl 144 (F 6) (F 38) rfl (w.heap.size+3) zA [I Y d.nu,I Y d.ep,aF d.up,I Y d.st,I Y d.le,I Y d.ta,I Y d.co,I Y d.lf,K a1 d.ss.length c1,E d.x,I Y d.si,K C 0 0] rfl rfl R1 rfl Tryz.sizeAc (FQ) ?_;intro af aa V)
     obtain ⟨k0,k1,k2,k3,k4,k5,k6,k7,Q,k9,ab,ae⟩:=I4 aa;exact bodyPost_ret (v:=aI #[I Y d.nu,I Y d.ep,aF d.up,I Y d.st,I Y d.le,I Y d.ta,I Y d.co,I Y d.lf,K a1 d.ss.length c1,E d.x,I Y d.si,K C 0 0]) bH rfl (al.out _ _ g V)
    | false =>
     have HV:=hid (hv rfl);clear hv;obtain ⟨m0,-,-,-,m4⟩:=cf5 (g.s.c 2 D);obtain ⟨-,-,-,R,S⟩:=cf5 g.x;go_upto_region 7 with fail
     go_cut [53] (fun c' wx=>∃ r:Bool,c'=aF r∧wx=w5)
     case first =>
      clear g;by_cases c4:k=4
      ·subst c4
       by_cases c2:d.st=2
       ·have ck:(d.st == 2)=aN:=beq_iff_eq.2 c2
        clear c2;go_wp2_with fail
        go_meet
        case rel=>exact ⟨_,rfl,rfl⟩
       ·have ck:(d.st == 2)=aK:=beq_eq_false_iff_ne.2 c2
        clear c2;go_wp2_with fail
        go_meet
        case rel=>exact ⟨_,rfl,rfl⟩
      ·have de:(k == 4)=aK:=beq_eq_false_iff_ne.2 c4
       clear c4;go_wp2_with fail
       go_meet
       case rel=>exact ⟨_,rfl,rfl⟩
     case rest =>
      obtain ⟨r,rfl,ak⟩:=hcut;rw [ak];clear ak R S;cases r with
      | true =>
       clear m0 m4;obtain ⟨b0,b1,b2,R,S,b5,b6,b7,b8,b9,ag⟩:=Yk g.x;go_upto_region 8 with fail
       go_wp2_with fail
       refine (Gx _ _ _ _ _ _ _ _ _ _ _ _ _ 3).mono ?_;rintro e' w6 ⟨rfl,cn⟩;have M:=g.call cn;have R1:CF w6 (w.heap.size+3) zA:=M.s.c 3 D;clear b0 b1 b2 R S b5 b6 b7 b8 b9 ag;go_wp2_with (refine jY rfl 144 (F 6) (F 56) rfl (w.heap.size+3) zA [I Y d.nu,I Y d.ep,aF d.up,I Y 0,I Y 0,I Y 0,I Y 0,I Y 0,K C 0 0,E ⟨#[]⟩,I Y 3,K C 0 0] rfl rfl R1 rfl Tryz.sizeAc (FQ) ?_;intro af aa V)
       obtain ⟨k0,k1,k2,k3,k4,k5,k6,k7,Q,k9,ab,ae⟩:=I4 aa;exact bodyPost_ret (v:=aI #[I Y d.nu,I Y d.ep,aF d.up,I Y 0,I Y 0,I Y 0,I Y 0,I Y 0,K C 0 0,E ⟨#[]⟩,I Y 3,K C 0 0]) bH rfl ⟨aad ⟨d.nu,d.ep,d.up,0,0,0,0,0,[],⟨#[]⟩,3⟩ C 0 (Own.nil _ _ _) D D,below_grown M.s.B V (by have:=M.s.z;simp at this;omega) (fun q L=>by simp at L;omega)⟩
      | false =>
       obtain ⟨-,-,-,-,-,m5,-,m7⟩:=ER (g.s.c 2 D);have yp:w5.cell? ⟨w.heap.size+1,0,C⟩=U (K pa H pc):=(g.s.c 1 D 0 D).1;go_upto_region 9 with fail
       go_cut [81] (fun c' wx=>∃ r:Bool,c'=aF r∧(r=aK→∃ J:Nat,dd=J∧J<H∧Ae ms∧pa=U ⟨pb,po,C⟩)∧Vg w [oU d a c,[K pa H pc],[I Y k,I Y f,I Y t,I Y e,I Y l,I Y dd,E x,K P ms.length mc],zA] X d a1 c1 wx)
       case first =>
        by_cases c1:k=1
        ·subst c1
         have hd:=(OA).1 HV.out;have bb:0≤dd:=hd.2.2.2.2.2.2.2.1;have ax:=hid hd.2.2.2.2.2.2.2.2.2.2;clear hd;by_cases cp:dd<(H:Int)
         ·have cl:decide ((H:Int)≤dd)=aK:=decide_eq_false A
          obtain ⟨J,a',n',c',cw,hj,c5,ba,di,dj⟩:=(hp.below' g.s.B).task bb cp;subst cw c5;have HT:=hid g;clear g cp bb;go_quiet (fail)
          go_wp2;go_meet
          case rel=>exact ⟨_,rfl,fun _=>⟨J,rfl,hj,ax.out,by trivial⟩,HT.out.call (below_drewN mD _)⟩
         ·have cl:decide ((H:Int)≤dd)=aN:=decide_eq_true A
          have HT:=hid g;clear g cp bb;go_quiet (fail)
          go_wp2;go_meet
          case rel=>exact ⟨aN,rfl,(fun h=>nomatch h),HT.out.call (below_drewN mD _)⟩
        ·have db:(k != 1)=aN:=by simpa using c1
         have dc:(k == 1)=aK:=by simpa using c1
         have HT:=hid g;clear g c1;go_quiet (fail)
         go_wp2;go_meet
         case rel=>exact ⟨aN,rfl,(fun h=>nomatch h),HT.out.call (below_drewN mD _)⟩
       case rest =>
        obtain ⟨r,rfl,hr,M⟩:=hcut;clear g m0 m4 m5 m7 yp;obtain ⟨w6, cc⟩ := kC wc;rw [← cc] at M ⊢;clear cc;cases r with
        | true =>
         clear hr;have R1:CF w6 (w.heap.size+3) zA:=M.s.c 3 D;obtain ⟨b0,b1,b2,R,S,b5,b6,b7,b8,b9,ag,bm⟩:=I4 M.y;go_upto_region 10 with fail
         go_wp2_with (refine jY rfl 144 (F 6) (F 82) rfl (w.heap.size+3) zA [I Y d.nu,I Y d.ep,aF d.up,I Y d.st,I Y d.le,I Y d.ta,I Y d.co,I Y d.lf,K a1 d.ss.length c1,E d.x,I Y d.si,K C 0 0] rfl rfl R1 rfl Tryz.sizeAc (FQ) ?_;intro af aa V)
         obtain ⟨k0,k1,k2,k3,k4,k5,k6,k7,Q,k9,ab,ae⟩:=I4 aa;exact bodyPost_ret (v:=aI #[I Y d.nu,I Y d.ep,aF d.up,I Y d.st,I Y d.le,I Y d.ta,I Y d.co,I Y d.lf,K a1 d.ss.length c1,E d.x,I Y d.si,K C 0 0]) bH rfl (al.out _ _ M V)
        | false =>
         obtain ⟨J,rfl,hj,bs,rfl⟩:=hr rfl;clear hr;have ax:=hid bs;clear bs;have m4:w6.cell? ⟨w.heap.size+2,4,C⟩=U (I Y l):=(M.s.c 2 D 4 D).1;obtain ⟨-,-,-,R,S⟩:=cf5 M.x;go_upto_region 11 with fail
         go_cut [92] (fun c' wx=>∃ r:Bool,c'=aF r∧wx=w6)
         case first =>
          clear M;by_cases cs:d.st=0
          ·have df:(d.st != 0)=aK:=by simp [cs]
           clear cs;go_wp2_with fail
           go_meet
           case rel=>exact ⟨_,rfl,rfl⟩
          ·have dg:(d.st != 0)=aN:=by simp [cs]
           clear cs;go_wp2_with fail
           go_meet
           case rel=>exact ⟨_,rfl,rfl⟩
         case rest =>
          obtain ⟨r,rfl,ak⟩:=hcut;rw [ak];clear ak R S m4;cases r with
          | true =>
           have R1:CF w6 (w.heap.size+3) zA:=M.s.c 3 D;obtain ⟨b0,b1,b2,R,S,b5,b6,b7,b8,b9,ag,bm⟩:=I4 M.y;go_upto_region 12 with fail
           go_wp2_with (refine jY rfl 144 (F 6) (F 93) rfl (w.heap.size+3) zA [I Y d.nu,I Y d.ep,aF d.up,I Y d.st,I Y d.le,I Y d.ta,I Y d.co,I Y d.lf,K a1 d.ss.length c1,E d.x,I Y d.si,K C 0 0] rfl rfl R1 rfl Tryz.sizeAc (FQ) ?_;intro af aa V)
           obtain ⟨k0,k1,k2,k3,k4,k5,k6,k7,Q,k9,ab,ae⟩:=I4 aa;exact bodyPost_ret (v:=aI #[I Y d.nu,I Y d.ep,aF d.up,I Y d.st,I Y d.le,I Y d.ta,I Y d.co,I Y d.lf,K a1 d.ss.length c1,E d.x,I Y d.si,K C 0 0]) bH rfl (al.out _ _ M V)
          | false =>
           clear al;obtain ⟨b0,b1,b2,R,S,b5,b6,b7,b8,b9,ag⟩:=Yk M.x;go_upto_region 13 with fail
           go_wp2_with fail
           refine (Gx _ _ _ _ _ _ _ _ _ _ _ _ _ 0).mono ?_;rintro e' w7 ⟨rfl,br⟩;have S7:=M.s.below br;clear b0 b1 b2 R S b5 b6 b7 b8 b9 ag br M;have c9:w.heap.size+4≤w7.heap.size:=S7.z;obtain ⟨-,-,-,-,m4,m5⟩:=cf6 (S7.c 2 D);have cx:w.heap.size+2<w7.heap.size:=A;go_upto_region 17 with fail
           clear m4 m5 cx;have Z8:=CF.made w7 #[I Y d.nu,I Y d.ep,aF d.up,I Y 1,I Y l,I Y J,I Y 0,I Y 0,K C 0 0,E ⟨#[]⟩,I Y 0] 127;have S8:=S7.alloc (aH #[I Y d.nu,I Y d.ep,aF d.up,I Y 1,I Y l,I Y J,I Y 0,I Y 0,K C 0 0,E ⟨#[]⟩,I Y 0] 127);have z8:w7.heap.size<(w7.alloc (aH #[I Y d.nu,I Y d.ep,aF d.up,I Y 1,I Y l,I Y J,I Y 0,I Y 0,K C 0 0,E ⟨#[]⟩,I Y 0] 127)).heap.size:=D;obtain ⟨W8, a7⟩ := kC (w7.alloc (aH #[I Y d.nu,I Y d.ep,aF d.up,I Y 1,I Y l,I Y J,I Y 0,I Y 0,K C 0 0,E ⟨#[]⟩,I Y 0] 127));obtain ⟨u,a8⟩:∃ u:Nat,u=w7.heap.size:=⟨_,rfl⟩
           rw [← a7] at Z8 S8 z8;rw [← a8] at Z8 z8 c9;rw [← a7,← a8];clear a7 a8 S7;obtain ⟨N,ba⟩:∃ N,W8.cell? ⟨pb,po+J*3+1,C⟩=U (I Y N):=⟨_,(hp.below' S8.B).c1 J hj⟩
           have m5:W8.cell? ⟨w.heap.size+2,5,C⟩=U (I Y J):=(S8.c 2 D 5 D).1;have yp:W8.cell? ⟨w.heap.size+1,0,C⟩=U (K (U ⟨pb,po,C⟩) H pc):=(S8.c 1 D 0 D).1;have zc:W8.cell? ⟨u,6,C⟩=U (I Y 0):=(Z8 6 D).1;have zf:W8.frozen? ⟨u,6,C⟩=aK:=(Z8 6 D).2;go_upto_region 18 with fail
           clear zc zf m5 yp ba;obtain ⟨W9, au⟩ := kC (W8.setCell ⟨u,6,C⟩ (I Y N));have gs:W8.grownBy W9 (U u):=by rw [au];exact lU (lJ _ (U u)) 6 _
           have S9:=S8.grown gs (fun q L=>by injection L with L;simp;omega);have Z9:CF W9 u [I Y d.nu,I Y d.ep,aF d.up,I Y 1,I Y l,I Y J,I Y N,I Y 0,K C 0 0,E ⟨#[]⟩,I Y 0]:=by rw [au];exact Z8.set (j:=6) D _
           have z9:u<W9.heap.size:=lu z8 gs.size;rw [← au];clear au gs S8 Z8 z8;obtain ⟨-,-,-,-,-,-,z6,zc⟩:=ER Z9;have zf:W9.frozen? ⟨u,7,C⟩=aK:=(Z9 7 D).2;go_upto_region 19 with fail
           clear zc zf z6;obtain ⟨Wa, av⟩ := kC (W9.setCell ⟨u,7,C⟩ (I Y N));have gs:W9.grownBy Wa (U u):=by rw [av];exact lU (lJ _ (U u)) 7 _
           have Sa:=S9.grown gs (fun q L=>by injection L with L;simp;omega);have Za:CF Wa u [I Y d.nu,I Y d.ep,aF d.up,I Y 1,I Y l,I Y J,I Y N,I Y N,K C 0 0,E ⟨#[]⟩,I Y 0]:=by rw [av];exact Z9.set (j:=7) D _
           have za:u<Wa.heap.size:=lu z9 gs.size;rw [← av];clear av gs S9 Z9 z9;have m7:Wa.cell? ⟨w.heap.size+2,7,C⟩=U (K P ms.length mc):=(Sa.c 2 D 7 D).1;obtain ⟨an, hU⟩ := kC (Wa.alloc (aH #[] 9));have SU:=Sa.alloc (aH #[] 9);rw [← hU] at SU;have ZU:CF an u [I Y d.nu,I Y d.ep,aF d.up,I Y 1,I Y l,I Y J,I Y N,I Y N,K C 0 0,E ⟨#[]⟩,I Y 0]:=by rw [hU];exact Za.block (kU _ _ _ za)
           have zU:u<an.heap.size:=by rw [hU];simp;omega
           have bj:Own (u+1) an 1 (K (U ⟨Wa.heap.size,0,C⟩) 0 0) 0 []:=by rw [hU];exact adu Wa A
           have cf:Src prog 1 23 (K P ms.length mc) ms.length (ms.map E) an:=(hm.below' SU.B).src mc;have da:(Wa.alloc (aH #[] 9)).cell? ⟨w.heap.size+2,7,C⟩=U (K P ms.length mc):=by rw [← hU];exact (SU.c 2 D 7 D).1
           have bf:=bj.ku;go_upto_region 20 with (at_builtin;rw [← hU];refine kT _ rfl _ _ 23 23 rfl (u+1) 9 i0 (E ⟨#[]⟩) 1 16 underlying23 cv c6 c7 c8 rfl _ 0 _ rfl bj _ ms.length _ rfl cf G A A ?_;intro v9 w9 ah bc cq;rw [ny,oG] at ah;obtain ⟨a2,c2,rfl⟩:=ah.slc;have Zb:=ZU.block (bc.block u zU (fun e=>by have:=bf _ e.symm;omega));have Q:w9.cell? ⟨u,8,C⟩=U (K C 0 0):=(Zb 8 D).1;have f8:w9.frozen? ⟨u,8,C⟩=aK:=(Zb 8 D).2)
           clear Q f8 m7 da;have Sb:=SU.grown bc (fun q L=>by have:=bf q L;simp;omega);obtain ⟨V9, aq⟩ := kC (w9.setCell ⟨u,8,C⟩ (K a2 ms.length c2));have gs:w9.grownBy V9 (U u):=by rw [aq];exact lU (lJ w9 (U u)) 8 _
           have ay:=Sb.grown gs (fun q L=>by injection L with L;simp;omega);have ch:CF V9 u (oU ⟨d.nu,d.ep,d.up,1,l,J,N,N,ms,⟨#[]⟩,0⟩ a2 c2):=by rw [aq];exact Zb.set (j:=8) D _
           have bw:=ah.grown gs (.inr jJ);rw [← aq];clear aq gs Sb Zb ah bc cq SU ZU zU bj cf bf Sa Za;have R1:CF V9 (w.heap.size+3) zA:=ay.c 3 D;obtain ⟨b0,b1,b2,R,S,b5,b6,b7,b8,b9,ag⟩:=Yk ch;go_wp2_with (refine jY rfl 144 (F 6) (F 120) rfl (w.heap.size+3) zA [I Y d.nu,I Y d.ep,aF d.up,I Y 1,I Y l,I Y J,I Y N,I Y N,K a2 ms.length c2,E ⟨#[]⟩,I Y 0,K C 0 0] rfl rfl R1 rfl Tryz.sizeAc (FQ) ?_;intro af aa V)
           clear b0 b1 b2 R S b5 b6 b7 b8 b9 ag;obtain ⟨k0,k1,k2,k3,k4,k5,k6,k7,Q,k9,ab,ae⟩:=I4 aa;exact bodyPost_ret (v:=aI #[I Y d.nu,I Y d.ep,aF d.up,I Y 1,I Y l,I Y J,I Y N,I Y N,K a2 ms.length c2,E ⟨#[]⟩,I Y 0,K C 0 0]) bH rfl ⟨aad ⟨d.nu,d.ep,d.up,1,l,J,N,N,ms,⟨#[]⟩,0⟩ a2 c2 ((bw.grown V (.inr (by intro hh;have:=bw.ku _ hh;omega))).mono' A) (fun s hs=>by have:=ax.out.sz s hs;unfold maxLen;omega) cz,below_grown ay.B V (by have:=ay.z;simp at this;omega) (fun q L=>by simp at L;omega)⟩
theorem Yq (d ep:Int) (up:Bool) (st le i co f:Int) (a:Option Addr) (b o n c:Nat) (ss:List ByteArray) (x:ByteArray) (g:Int) (w:World) (h:kS w a b o n ss) :
  Calls prog 81 #[aI #[I Y d,I Y ep,aF up,I Y st,I Y le,I Y i,I Y co,I Y f,K a n c,E x,I Y g]] w fun e w'=>adw e w.heap.size w' (X7 (⟨d,ep,up,st,le,i,co,f,ss,x,g⟩:WD))∧Below w.heap.size w w':=by
 obtain ⟨W, j⟩ := kC ((w.alloc (aH #[I Y d,I Y ep,aF up,I Y st,I Y le,I Y i,I Y co,I Y f,K a n c,E x,I Y g] 127)).alloc (aH zW.toArray 127));have u:Below w.heap.size w W:=by rw [j];exact kQ.alloc D _
 have aq:W.heap.size=w.heap.size+2:=by rw [j];simp
 have H:CF W w.heap.size [I Y d,I Y ep,aF up,I Y st,I Y le,I Y i,I Y co,I Y f,K a n c,E x,I Y g]:=by
  rw [j];exact (CF.made w #[I Y d,I Y ep,aF up,I Y st,I Y le,I Y i,I Y co,I Y f,K a n c,E x,I Y g] 127).block (kU _ _ _ D)
 have hR:CF W (w.heap.size+1) zW:=by
  rw [j];have:=CF.made (w.alloc (aH #[I Y d,I Y ep,aF up,I Y st,I Y le,I Y i,I Y co,I Y f,K a n c,E x,I Y g] 127)) zW.toArray 127;simpa using this
 have hlen:=hid h.len;simp only [zW] at j;have HW:=hid j;clear j;go_enter func81,ntmps81
 go_upto_region 1 with fail
 rw [← HW.out];clear HW;obtain ⟨y0,y1,y2,y3,y4,y5,y6,y7,y8,y9,al⟩:=Dc H;go_wp2_with fail
 refine (JC d ep up st le i co f a b o n c ss x g (h.below' u)).mono ?_;rintro e w1 ⟨⟨r,rfl,hr⟩,p⟩;have an:=H.block (p.block w.heap.size A);have J:=hR.block (p.block (w.heap.size+1) A);have s:=u.trans (p.mono u.size);have av:w.heap.size+2≤w1.heap.size:=by have:=p.size;omega
 have HR:=hid hr;clear y0 y1 y2 y3 y4 y5 y6 y7 y8 y9 al hr p H hR aq u;obtain ⟨y0,y1,y2,y3,y4,y5,y6,y7,y8,y9,al⟩:=Dc an;cases r with
 | false =>
  have HN:Hid (¬ (⟨d,ep,up,st,le,i,co,f,ss,x,g⟩:WD).ok):=fun hh=>by have:=HR.out.2 hh;cases this
  go_wp2_with (refine jY rfl 127 (F 2) (F 7) rfl (w.heap.size+1) zW aa5 rfl rfl J rfl Tryz.sizeWk (JO) ?_;intro au L M)
  obtain ⟨P,Q,S,T,V,X,aa,ab,ae,af,R⟩:=Dc L;exact bodyPost_ret (v:=aI Ob) (by simp [results,results81,go_sem,P,Q,S,T,V,X,aa,ab,ae,af,R]) rfl ⟨⟨IY,C,0,rfl,Own.nil _ _ _,.inr ⟨HN.out,rfl⟩⟩,below_grown s M A (fun q N=>by simp at N;omega)⟩
 | true =>
  have HV:Hid (⟨d,ep,up,st,le,i,co,f,ss,x,g⟩:WD).ok:=HR.out.1 rfl;go_upto_region 4 with (go_at_call 101;refine (Gx d ep up st le i co f a n c x g 0).mono ?_;rintro e k ⟨rfl,t⟩;have ai:=J.block (t.block (w.heap.size+1) A);have z:=s.trans (t.mono s.size);have aw:w.heap.size+2≤k.heap.size:=(by have:=t.size;omega);clear J s t)
  have ak:=(ai.block (kU k (aH #[I Y d,I Y ep,aF aK,I Y 0,I Y 0,I Y 0,I Y 0,I Y 0,K C 0 0,E ⟨#[]⟩,I Y 0] 127) _ A))
  have ah:=z.alloc z.size (aH #[I Y d,I Y ep,aF aK,I Y 0,I Y 0,I Y 0,I Y 0,I Y 0,K C 0 0,E ⟨#[]⟩,I Y 0] 127);obtain ⟨WF, l⟩ := kC (k.alloc (aH #[I Y d,I Y ep,aF aK,I Y 0,I Y 0,I Y 0,I Y 0,I Y 0,K C 0 0,E ⟨#[]⟩,I Y 0] 127));have hN:CF WF k.heap.size [I Y d,I Y ep,aF aK,I Y 0,I Y 0,I Y 0,I Y 0,I Y 0,K C 0 0,E ⟨#[]⟩,I Y 0]:=by rw [l];exact CF.made k #[I Y d,I Y ep,aF aK,I Y 0,I Y 0,I Y 0,I Y 0,I Y 0,K C 0 0,E ⟨#[]⟩,I Y 0] 127
  have ax:k.heap.size<WF.heap.size:=by rw [l];simp
  rw [← l] at ak ah;obtain ⟨z0,z1,z2,z3,z4,z5,z6,z7,z8,z9,ay⟩:=Dc hN;have ag:=hid l;clear l ai z hN;go_upto_region 5 with fail
  rw [← ag.out];clear ag;go_wp2_with (refine jY rfl 127 (F 2) (F 11) rfl (w.heap.size+1) zW [I Y d,I Y ep,aF aK,I Y 0,I Y 0,I Y 0,I Y 0,I Y 0,K C 0 0,E ⟨#[]⟩,I Y 0] rfl rfl ak rfl Tryz.sizeWk (JO) ?_;intro au L M)
  obtain ⟨P,Q,S,T,V,X,aa,ab,ae,af,R⟩:=Dc L;exact bodyPost_ret (v:=aI #[I Y d,I Y ep,aF aK,I Y 0,I Y 0,I Y 0,I Y 0,I Y 0,K C 0 0,E ⟨#[]⟩,I Y 0]) (by simp [results,results81,go_sem,P,Q,S,T,V,X,aa,ab,ae,af,R]) rfl ⟨⟨⟨d,ep,aK,0,0,0,0,0,[],⟨#[]⟩,0⟩,C,0,rfl,Own.nil _ _ _,.inl ⟨HV.out,rfl⟩⟩,below_grown ah M A (fun q N=>by simp at N;omega)⟩
theorem Yp (d ep:Int) (up:Bool) (st le i co f:Int) (a:Option Addr) (b o n c:Nat) (ss:List ByteArray) (x:ByteArray) (g:Int) (w:World) (h:kS w a b o n ss) :
  Calls prog 82 #[aI #[I Y d,I Y ep,aF up,I Y st,I Y le,I Y i,I Y co,I Y f,K a n c,E x,I Y g]] w fun e w'=>adw e w.heap.size w' (Xu (⟨d,ep,up,st,le,i,co,f,ss,x,g⟩:WD))∧Below w.heap.size w w':=by
 obtain ⟨W, H⟩ := kC ((w.alloc (aH #[I Y d,I Y ep,aF up,I Y st,I Y le,I Y i,I Y co,I Y f,K a n c,E x,I Y g] 127)).alloc (aH zW.toArray 127));have ak:Below w.heap.size w W:=by rw [H];exact kQ.alloc D _
 have a6:W.heap.size=w.heap.size+2:=by rw [H];simp
 have hP:CF W w.heap.size [I Y d,I Y ep,aF up,I Y st,I Y le,I Y i,I Y co,I Y f,K a n c,E x,I Y g]:=by
  rw [H];exact (CF.made w #[I Y d,I Y ep,aF up,I Y st,I Y le,I Y i,I Y co,I Y f,K a n c,E x,I Y g] 127).block (kU _ _ _ D)
 have hR:CF W (w.heap.size+1) zW:=by
  rw [H];have:=CF.made (w.alloc (aH #[I Y d,I Y ep,aF up,I Y st,I Y le,I Y i,I Y co,I Y f,K a n c,E x,I Y g] 127)) zW.toArray 127;simpa using this
 have hlen:=hid h.len;simp only [zW] at H;have HW:=hid H;clear H;go_enter func82,ntmps82
 go_upto_region 1 with fail
 rw [← HW.out];clear HW;obtain ⟨y0,y1,y2,y3,y4,y5,y6,y7,y8,y9,ai⟩:=Dc hP;go_wp2_with fail
 refine (JC d ep up st le i co f a b o n c ss x g (h.below' ak)).mono ?_;rintro e w1 ⟨⟨r,rfl,hr⟩,ag⟩;have ae:=hP.block (ag.block w.heap.size A);have z:=hR.block (ag.block (w.heap.size+1) A);have l:=ak.trans (ag.mono ak.size);have bj:w.heap.size+2≤w1.heap.size:=by have:=ag.size;omega
 have HR:=hid hr;clear y0 y1 y2 y3 y4 y5 y6 y7 y8 y9 ai hr ag hP hR a6 ak;obtain ⟨y0,y1,y2,y3,y4,y5,y6,y7,y8,y9,ai⟩:=Dc ae;cases r with
 | false =>
  have HN:Hid (¬ (⟨d,ep,up,st,le,i,co,f,ss,x,g⟩:WD).ok):=fun hh=>by have:=HR.out.2 hh;cases this
  go_wp2_with (refine jY rfl 127 (F 2) (F 7) rfl (w.heap.size+1) zW aa5 rfl rfl z rfl Tryz.sizeWk (JO) ?_;intro al J s)
  obtain ⟨L,M,P,Q,R,S,T,V,X,aa,N⟩:=Dc J;exact bodyPost_ret (v:=aI Ob) dO rfl ⟨⟨IY,C,0,rfl,Own.nil _ _ _,.inr ⟨HN.out,rfl⟩⟩,below_grown l s A (fun q p=>gI)⟩
 | true =>
  have t:Hid (⟨d,ep,up,st,le,i,co,f,ss,x,g⟩:WD).ok:=HR.out.1 rfl;have bf:n≤8:=by have:=(WD.ok.small t.out).1;rw [hlen.out] at this;exact this
  have bc:ep≤300:=t.out.2.2.2.1;have bd:ep<9223372036854775807:=A;have ba : -9223372036854775808≤ep:=by have:=t.out.2.2.1;dsimp only at this;omega
  have aw:=h.below' l;by_cases hu:up=aN∨ep=300
  ·have p:Hid (up=aN∨ep=300):=hu
   have ay:∀ (w5:World),w5.heap.size=w5.heap.size→True:=fun _ _=>trivial;clear ay;have key:up=aN∨(up=aK∧300≤ep):=by
    rcases hu with hu | hu
    ·exact .inl hu
    ·cases up
     ·exact .inr ⟨rfl,A⟩
     ·exact .inl rfl
   clear hu;rcases key with hk | ⟨hk,bb⟩
   ·subst hk
    go_wp2_with fail
    refine (EG d ep _ st le i co f a b o n c ss x g _ aw A).mono ?_;rintro e k ⟨a1,c1,rfl,ah,j⟩;have ab:=z.block (j.block (w.heap.size+1) A);have u:=l.trans (j.mono l.size);have ax:w.heap.size+2≤k.heap.size:=by have:=j.size;omega
    clear z l j ae y0 y1 y2 y3 y4 y5 y6 y7 y8 y9 ai;go_wp2_with (refine jY rfl 127 (F 2) (F 16) rfl (w.heap.size+1) zW [I Y d,I Y ep,aF aN,I Y st,I Y le,I Y i,I Y co,I Y f,K a1 n c1,E x,I Y g] rfl rfl ab rfl Tryz.sizeWk (JO) ?_;intro al J s)
    obtain ⟨L,M,P,Q,R,S,T,V,X,aa,N⟩:=Dc J;refine bodyPost_ret (v:=aI #[I Y d,I Y ep,aF aN,I Y st,I Y le,I Y i,I Y co,I Y f,K a1 n c1,E x,I Y g]) dO rfl ⟨⟨⟨d,ep,aN,st,le,i,co,f,ss,x,g⟩,a1,c1,?_,?_,.inl ⟨t.out,.inl ⟨(by first | exact .inl rfl | exact .inr rfl | exact .inr aT),rfl⟩⟩⟩,below_grown u s A (fun q p=>gI)⟩
    ·simp only [WD.v,hlen.out]
    ·rw [hlen.out];exact (ah.grown s (.inr jJ)).mono' A
   ·subst hk
    go_wp2_with fail
    refine (EG d ep _ st le i co f a b o n c ss x g _ aw A).mono ?_;rintro e k ⟨a1,c1,rfl,ah,j⟩;have ab:=z.block (j.block (w.heap.size+1) A);have u:=l.trans (j.mono l.size);have ax:w.heap.size+2≤k.heap.size:=by have:=j.size;omega
    clear z l j ae y0 y1 y2 y3 y4 y5 y6 y7 y8 y9 ai;go_wp2_with (refine jY rfl 127 (F 2) (F 16) rfl (w.heap.size+1) zW [I Y d,I Y ep,aF aK,I Y st,I Y le,I Y i,I Y co,I Y f,K a1 n c1,E x,I Y g] rfl rfl ab rfl Tryz.sizeWk (JO) ?_;intro al J s)
    obtain ⟨L,M,P,Q,R,S,T,V,X,aa,N⟩:=Dc J;refine bodyPost_ret (v:=aI #[I Y d,I Y ep,aF aK,I Y st,I Y le,I Y i,I Y co,I Y f,K a1 n c1,E x,I Y g]) dO rfl ⟨⟨⟨d,ep,aK,st,le,i,co,f,ss,x,g⟩,a1,c1,?_,?_,.inl ⟨t.out,.inl ⟨(by first | exact .inl rfl | exact .inr rfl | exact .inr aT),rfl⟩⟩⟩,below_grown u s A (fun q p=>gI)⟩
    ·simp only [WD.v,hlen.out]
    ·rw [hlen.out];exact (ah.grown s (.inr jJ)).mono' A
  ·have p:Hid (¬ (up=aN∨ep=300)):=hu
   have a7:up=aK:=by cases up <;> simp_all
   have a8:¬ 300≤ep:=by have:=t.out.2.2.2.1;dsimp only at this;omega
   have bg:IntKind.i64.wrap (ep+1)=ep+1:=by rw [IntKind.wrap_i64];omega
   subst a7;clear hu;go_upto_region 6 with (go_at_call 101;refine (Gx d ep _ st le i co f a n c x g 3).mono ?_;rintro e k ⟨rfl,j⟩;have ab:=z.block (j.block (w.heap.size+1) A);have au:=ae.block (j.block w.heap.size A);have u:=l.trans (j.mono l.size);have ax:w.heap.size+2≤k.heap.size:=(by have:=j.size;omega);have bl:w.heap.size<k.heap.size:=(by omega);have k1:k.cell? ⟨w.heap.size,1,C⟩=U (I Y ep):=(au 1 D).1;clear z l j ae au)
   clear y0 y1 y2 y3 y4 y5 y6 y7 y8 y9 ai;have av:=(ab.block (kU k (aH #[I Y d,I Y (ep+1),aF aN,I Y 0,I Y 0,I Y 0,I Y 0,I Y 0,K C 0 0,E ⟨#[]⟩,I Y 3] 127) _ A))
   have aq:=u.alloc u.size (aH #[I Y d,I Y (ep+1),aF aN,I Y 0,I Y 0,I Y 0,I Y 0,I Y 0,K C 0 0,E ⟨#[]⟩,I Y 3] 127);obtain ⟨WF, af⟩ := kC (k.alloc (aH #[I Y d,I Y (ep+1),aF aN,I Y 0,I Y 0,I Y 0,I Y 0,I Y 0,K C 0 0,E ⟨#[]⟩,I Y 3] 127));have hN:CF WF k.heap.size [I Y d,I Y (ep+1),aF aN,I Y 0,I Y 0,I Y 0,I Y 0,I Y 0,K C 0 0,E ⟨#[]⟩,I Y 3]:=by rw [af];exact CF.made k #[I Y d,I Y (ep+1),aF aN,I Y 0,I Y 0,I Y 0,I Y 0,I Y 0,K C 0 0,E ⟨#[]⟩,I Y 3] 127
   have bk:k.heap.size<WF.heap.size:=by rw [af];simp
   rw [← af] at av aq;obtain ⟨z0,z1,z2,z3,z4,z5,z6,z7,z8,z9,bm⟩:=Dc hN;have an:=hid af;clear af ab u hN;go_upto_region 8 with fail
   rw [← an.out];clear an;go_wp2_with (refine jY rfl 127 (F 2) (F 24) rfl (w.heap.size+1) zW [I Y d,I Y (ep+1),aF aN,I Y 0,I Y 0,I Y 0,I Y 0,I Y 0,K C 0 0,E ⟨#[]⟩,I Y 3] rfl rfl av rfl Tryz.sizeWk (JO) ?_;intro al J s)
   obtain ⟨L,M,P,Q,R,S,T,V,X,aa,N⟩:=Dc J;exact bodyPost_ret (v:=aI #[I Y d,I Y (ep+1),aF aN,I Y 0,I Y 0,I Y 0,I Y 0,I Y 0,K C 0 0,E ⟨#[]⟩,I Y 3]) dO rfl ⟨⟨⟨d,ep+1,aN,0,0,0,0,0,[],⟨#[]⟩,3⟩,C,0,rfl,Own.nil _ _ _,.inl ⟨t.out,.inr ⟨p.out,rfl⟩⟩⟩,below_grown aq s A (fun q p=>gI)⟩
def Yg (e:Ending) (B:Nat) (w':World):Prop:=∃ (k:pU) (u v:Value) (M:List lQ) (us:List Value),e=aO (aI (lZ k u ++ [v]).toArray)∧Own B w' 1 u k.ss.length (k.ss.map E)∧EN k∧qy w' B v M us∧M.length≤1∧(∀ m∈M,m.good)∧(∀ x∈us,x=kH)∧∀ m∈M,m.ss=[]
theorem YF {e:Ending} {B:Nat} {o:WD × Option OM→Prop} (h:Qj e B w' o) (u:∀ r,o r→EN r.1.k) (z:∀ d m,o (d,U m)→m.m.good):Yg e B w':=by
 obtain ⟨p,q,a,c,v,rfl,H,hm,J,s⟩:=h;refine ⟨p.k,K a p.ss.length c,v,(q.map OM.m).toList,(q.map fun _=>kH).toList,rfl,H,u _ s,?_,?_,?_,?_,?_⟩
 ·cases q with
  | none=>exact ⟨rfl,hm,fun j f=>absurd f D,fun j f=>absurd f D,fun i j _ f=>absurd f D⟩
  | some m =>
   refine ⟨rfl,?_,fun j f=>?_,fun j f=>?_,fun i j L f=>?_⟩
   ·have e:Xz (U m)=uD [m.m] [kH]:=by simp [Xz,uD,OM.cells,Aw,OM.m,kH,List.range_succ]
    rw [e] at hm;exact hm
   ·have:j=0:=by simpa using f
    subst this;exact Own.nil _ _ _
   ·have:j=0:=by simpa using f
    subst this;exact .inl rfl
   ·have:j=0:=by simpa using f
    omega
 ·cases q <;> simp
 ·intro m g
  cases q with
  | none=>simp at g
  | some l =>
   have:m=l.m:=by simpa using g
   subst this;exact z _ _ s
 ·intro x t
  cases q with
  | none=>simp at t
  | some l=>simpa using t
 ·intro m g
  cases q with
  | none=>simp at g
  | some l =>
   have:m=l.m:=by simpa using g
   subst this;rfl
theorem aby (k:pU) (a:Option Addr) (b o c:Nat) (pa:Option Addr) (i j f pc:Nat) (ts:List kJ) (w:World) (h:kS w a b o k.ss.length k.ss) (l:lN w pa i j f ts) :
  Calls prog 89 #[aI (lZ k (K a k.ss.length c)).toArray,aI #[K pa f pc]] w fun e w'=>Yg e w.heap.size w'∧Below w.heap.size w w' :=
 (abJ k.nu k.ep k.up k.st k.le k.ta k.co k.lf a b o c k.ss k.x k.si pa i j f pc ts w h l).mono fun _ _ g=>⟨YF g.1 (fun _ d=>d.1) (fun _ m d=>d.2 m rfl),g.2⟩
theorem CF.range {p:Nat} (pre vs post:List Value) (h:CF w p (pre ++ vs ++ post)):w.rangeAt p pre.length vs:=fun j v a=>by
 have c:=(List.getElem?_eq_some_iff.1 a).1;rw [(h (pre.length+j) aQ).1,Dk,qP A,show pre.length+j - pre.length=j by omega,nO c];exact a
theorem XS.enter {a:Nat→Prop} {d:nI} {h:oO} (s:qx w 0 d h) (g:Ah d) (i:∀ q,a q→q<w.heap.size) (j:∀ q,WB d h q→¬ a q) (T c:TypeId):XS w a w.heap.size [kX] d h ((w.alloc (aH (mg d h).toArray T)).alloc (aH kX.toArray c)):=by
 have f:Below w.heap.size w ((w.alloc (aH (mg d h).toArray T)).alloc (aH kX.toArray c)):=kQ.alloc D _;refine ⟨s.below f,g,(CF.made w (mg d h).toArray T).block (kU _ _ _ D),fun k vs e=>?_,(Fr.refl a w).below f i,⟨kL,D⟩,fun q l=>.inl (s.lt l).2,i,j⟩;cases k with
 | zero =>
  injection e with e;subst e;have:=CF.made (w.alloc (aH (mg d h).toArray T)) kX.toArray c;rw [mJ] at this;exact this
 | succ k=>simp at e
theorem EO.range {B:Nat} {g o:Nat} (c:kW B w 11 g o cap Ws.length (qV Ws vs)) (hi:i<Ws.length):w.rangeAt g (o+i*11) (lZ (nD Ws i) (vs.getD i kH)):=fun j v a=>by
 have d:j<11:=(List.getElem?_eq_some_iff.1 a).1;rw [nS,c.holds (i*11+j) A,Z5 hi d];exact a
theorem EO.there {B:Nat} {g o:Nat} (a:kW B w 11 g o cap Ws.length (qV Ws vs)) (hi:i<Ws.length):w.there g (o+i*11) 11:=fun j c=>by
 have d:=a.le;rw [nS];exact a.there (i*11+j) A
theorem LP (k:pU) (a:Option Addr) (n c:Nat):∀ v∈lZ k (K a n c),v.oneCell'=aN:=by
 intro v d;simp only [lZ,mG,mF,or_false] at d;rcases d with rfl | rfl | rfl | rfl | rfl | rfl | rfl | rfl | rfl | rfl | rfl <;> rfl
theorem lF.tasks' {B:Nat} (h:lF w B (K a ts.length c) ts vs) (g:IX ts) (hm:ts.length≤maxLen):∃ b o,lN w a b o ts.length ts:=by
 obtain ⟨a',d,j,c',e,i⟩:=h.tasks g hm;injection e with f _ _;subst f;exact ⟨d,j,i⟩
def zLd:List Value:=[I Y 0,aF aK,I Y 0,I Y 0,I Y 0,I Y 0,K C 0 0,K C 0 0,K C 0 0,K C 0 0,K C 0 0,K C 0 0,K C 0 0]
theorem aaW {d:BD} {h:BH}:∀ v∈bvs d h ++ [K a n c],v.oneCell'=aN:=by
 intro v e;rcases List.mem_append.1 e with e | e
 ·exact nC d h v e
 ·rw [List.mem_singleton.1 e];rfl
theorem XS.fin {a:Nat→Prop} {L:List (List Value)} {d:nI} {h:oO} {R:Nat} (x:XS w a Q L d h W) (c:W.grownBy W' (U R)) (j:Q<R∧R≤Q+L.length):Vh (aO (aI (mg d h).toArray)) a W'∧Fr a w W':=by
 have k:=x.q;exact ⟨⟨d,h,rfl,x.s.keep (fun q i=>c.block q (x.s.lt i).2 (fun e=>by injection e with e;have:=x.n q i;omega)),x.g,x.nf⟩,x.b.grown c x.f (x.new A)⟩
structure MX (W:World) (B:Nat) (v:Value) (M:List lQ) (ms:List Value):Prop where
 o:qy W B v M ms
 g:∀ m∈M,m.good
def MB (v:Value) (M:List lQ) (ms:List Value) (q:Nat):Prop:=v.ownBlock=U q∨∃ j,j<M.length∧(ms.getD j kH).ownBlock=U q
theorem MX.lt {B:Nat} {v:Value} (h:MX W B v M ms) (a:MB v M ms q):B≤q∧q<W.heap.size:=by
 rcases a with a | ⟨j,c,a⟩
 ·exact ⟨h.o.row.ku q a,h.o.row.kD q a⟩
 ·exact ⟨(h.o.dep j c).ku q a,(h.o.dep j c).kD q a⟩
theorem MX.keep {B:Nat} {v:Value} (h:MX W B v M ms) (c:∀ q,MB v M ms q→W'.heap[q]?=W.heap[q]?):MX W' B v M ms :=
 ⟨⟨h.o.len,h.o.row.qY (fun q a=>c q (.inl a)),fun j d=>(h.o.dep j d).qY (fun q a=>c q (.inr ⟨j,d,a⟩)),h.o.dr,h.o.dd⟩,h.g⟩
theorem MX.fit {B:Nat} {v:Value} (h:MX W B v M ms):adb M:=fun j a=>by
 have hm:rF M j∈M:=by unfold rF;rw [FC,nH a];exact IC a
 have:=h.g _ hm;exact ⟨this.x,this.i,this.s⟩
theorem MX.app {B:Nat} {v:Value} {ns:List Value} (h:MX W B v M ms) (u:N.length≤1) (H:ns.length=N.length) (p:∀ x∈ns,x=kH) (k:∀ m∈N,m.good) (t:W.grownBy W' v.ownBlock) (a:Own B W' 8 v' (M.length+N.length) (uD M ms ++ uD N ns)) (d:v'.ownBlock=v.ownBlock∨v'.ownBlock=U W.heap.size) (l:∀ m∈N,m.ss=[]):MX W' B v' (M ++ N) (ms ++ ns):=by
 have r:∀ j,j<M.length→Own B W' 1 (ms.getD j kH) (M.getD j Fz).ss.length ((M.getD j Fz).ss.map E):=fun j c=>(h.o.dep j c).grown t (h.o.dr j c);have s:∀ j,j<M.length→Dn (ms.getD j kH).ownBlock v'.ownBlock:=fun j c=>by
  rcases d with d | d
  ·rw [d];exact h.o.dr j c
  ·rw [d];exact Dn.later (m:=W.heap.size) (fun q i=>(h.o.dep j c).kD q i) (fun q i=>by injection i with i;omega)
 match N,ns,u,H,p,k,a,l with
 | [],[],_,_,_,_,a,_ =>
  rw [pz,pz];have e:uD [] []=[]:=rfl;rw [e,pz] at a;exact ⟨⟨h.o.len,a,r,s,h.o.dd⟩,h.g⟩
 | [m],[x],_,_,p,k,a,l =>
  obtain rfl:=p x D;have e:uD [m] [kH]=Aw m kH:=by simp [uD,List.range_succ]
  rw [e] at a;have z:=l m D;refine ⟨qy.snoc h.o.len r h.o.dd a (by rw [z];exact Own.nil _ _ _) s (.inl rfl) (fun j c=>Dn.symm (.inl rfl)),fun y f=>?_⟩;rcases List.mem_append.1 f with f | f
  ·exact h.g y f
  ·exact k y f
structure TL (w:World) (B:Nat→Prop) (Q z n nW nF:Nat) (pa wa fa:Option Addr) (pc wc fc:Nat) (vs:List Value) (bh:BH) (vO:Value) (wr:World) (k:Nat) (d:nI) (us:List Value) (M:List lQ) (ms:List Value):Prop where
 x:XS w B Q [kX] d ⟨K pa n pc,vs,bh,K wa nW wc,us,K fa nF fc⟩ wr
 et:d.ts.length=n
 ew:d.Ws.length=nW
 ef:d.Fl.length=nF
 m:MX wr z vO M ms
 nb:∀ q,MB vO M ms q→¬ WB d ⟨K pa n pc,vs,bh,K wa nW wc,us,K fa nF fc⟩ q
 ml:M.length≤4096+k
 hz:Q+1<z∧z≤wr.heap.size
theorem TL.below {B:Nat→Prop} {z k:Nat} {d:nI} (t:TL w B Q z n nW nF pa wa fa pc wc fc vs bh vO wr k d us M ms) (a:Below wr.heap.size wr w'):TL w B Q z n nW nF pa wa fa pc wc fc vs bh vO w' k d us M ms :=
 ⟨t.x.below a,t.et,t.ew,t.ef,t.m.keep (fun q c=>a.block q (t.m.lt c).2),t.nb,t.ml,⟨t.hz.1,lH t.hz.2 a.size⟩⟩
theorem TL.far {B:Nat→Prop} {z k p:Nat} {d:nI} (t:TL w B Q z n nW nF pa wa fa pc wc fc vs bh vO wr k d us M ms) (a:wr.grownBy w' (U p)) (h:Q+1<p) (f:¬ MB vO M ms p) (g:¬ WB d ⟨K pa n pc,vs,bh,K wa nW wc,us,K fa nF fc⟩ p):TL w B Q z n nW nF pa wa fa pc wc fc vs bh vO w' k d us M ms :=
 ⟨t.x.far a (.inr h) g (by have:=t.x.q;omega),t.et,t.ew,t.ef,t.m.keep (fun q c=>a.block q (t.m.lt c).2 (fun e=>f (by injection e with e;exact e ▸ c))),t.nb,t.ml,⟨t.hz.1,lH t.hz.2 a.size⟩⟩
theorem TL.put {B:Nat→Prop} {z k y g o:Nat} {d:nI} (t:TL w B Q z n nW nF pa (U ⟨g,o,C⟩) fa pc wc fc vs bh vO wr k d us M ms) (L:k<nW) (H:∀ q,WB d ⟨K pa n pc,vs,bh,K (U ⟨g,o,C⟩) nW wc,us,K fa nF fc⟩ q→q<y) (hm:∀ q,MB vO M ms q→q<y) (hQ:Q+1<y) (hu:Own y wr 1 u kd.ss.length (kd.ss.map E)) (r:EN kd) :
  TL w B Q z n nW nF pa (U ⟨g,o,C⟩) fa pc wc fc vs bh vO (wr.setCells g (o+k*11) (lZ kd u)) k { d with Ws:=d.Ws.set k kd } (us.set k u) M ms:=by
 have hw:=t.ew;have J:=t.x.worker (g:=g) (o:=o) (cap:=wc) (i:=k) (k:=kd) (u:=u) (by rw [hw]) H hQ A hu r;have h:wr.grownBy (wr.setCells g (o+k*11) (lZ kd u)) (U g):=mY g _ _ wr wr (lJ _ _);refine ⟨J,t.et,by rw [← hw];exact nV,t.ef,t.m.keep (fun q a=>h.block q (t.m.lt a).2 (fun e=>?_)),fun q a v=>?_,t.ml,⟨t.hz.1,by rw [rH];exact t.hz.2⟩⟩
 ·injection e with e
  exact t.nb q a (.inr (.inl (by rw [e];rfl)))
 ·rcases v with c | c | ⟨j,l,c⟩
  ·exact t.nb q a (.inl c)
  ·exact t.nb q a (.inr (.inl c))
  ·have f:((us.set k u).getD j kH).ownBlock=U q:=c
   have p:=t.x.s.cr.len;rw [D6 u (by rw [p];omega)] at f;by_cases e:j=k
   ·rw [if_pos e] at f;have:=hu.ku q f;have:=hm q a;omega
   ·rw [if_neg e] at f;exact t.nb q a (.inr (.inr ⟨j,by simpa using l,f⟩))
theorem TL.app {B:Nat→Prop} {z k:Nat} {ns:List Value} {d:nI} (t:TL w B Q z n nW nF pa wa fa pc wc fc vs bh vO wr k d us M ms) (i:N.length≤1) (s:ns.length=N.length) (g:∀ x∈ns,x=kH) (l:∀ m∈N,m.good) (v:∀ m∈N,m.ss=[]) (c:wr.grownBy w' vO.ownBlock) (u:Own z w' 8 v' (M.length+N.length) (uD M ms ++ uD N ns)) (f:v'.ownBlock=vO.ownBlock∨v'.ownBlock=U wr.heap.size) :
  TL w B Q z n nW nF pa wa fa pc wc fc vs bh v' w' (k+1) d us (M ++ N) (ms ++ ns):=by
 have hlen:=t.m.o.len;refine ⟨?_,t.et,t.ew,t.ef,t.m.app i s g l c u f v,fun q a=>?_,by rw [lD];have:=t.ml;omega,⟨t.hz.1,lH t.hz.2 c.size⟩⟩
 ·cases e:vO.ownBlock with
  | none =>
   rw [e] at c;exact t.x.below ⟨c.os,c.tape,c.output,c.size,fun q a=>c.block q a D⟩
  | some p =>
   rw [e] at c;have:=t.m.lt (.inl e);exact t.x.far c (.inr (by have:=t.hz;show Q+1<p;omega)) (t.nb p (.inl e)) (by have:=t.x.q;have:=t.hz;omega)
 ·rcases a with a | ⟨j,r,a⟩
  ·rcases f with f | f
   ·exact t.nb q (.inl (by rw [← f];exact a))
   ·rw [f] at a
    injection a with a;exact fun hw=>by have:=t.x.lt q hw;omega
  ·rw [lD] at r
   by_cases e:j<M.length
   ·exact t.nb q (.inr ⟨j,e,by rw [← a];simp [List.getD,List.getElem?_append_left (show j<ms.length by omega)]⟩)
   ·exfalso
    have H:(ms ++ ns).getD j kH=kH:=by
     rw [FC,qP A];cases h:ns[j - ms.length]? with
     | none=>rfl
     | some x=>exact g x (List.mem_of_getElem? h)
    rw [H] at a;cases a
section
section
variable {ρ:Operand→Value} {o:Oper} {w:World}
theorem Dl (T:TypeId) {a:TypeDesc} (cs:List Value) (x:Operand) (h:o.op=.load T x) (e:ρ x=aG (U ⟨b,q,C⟩)) (c:w.rangeAt b q cs) (hu:prog.underlying T=U a) (d:a.isRow=aN) (hi:(prog.info? T).map (·.size)=U cs.length):(execOp ρ o).run prog w=.ok (.value (aI cs.toArray)) w:=by
 unfold execOp;simp only [h,e,Instr.loadAt,Instr.sureAddr,Sem.run_bind,Sem.run_pure,Result.andThen_ok,run_loadVar_mid w b q T cs a c hu d hi]
theorem rO {p:Addr} {v:Value} (x:Operand) (h:o.op=.load 72 x) (c:ρ x=aG (U p)) (a:w.cell? p=U v):(execOp ρ o).run prog w=.ok (.value v) w:=by
 unfold execOp;rw [h];simp [go_sem,c,a]
theorem CO (x y:Operand) (b a n c i:Nat) (h:o.op=.indexAddr 72 x y) (e:ρ x=K (U ⟨b,a,C⟩) n c) (f:ρ y=I Y (i:Nat)) (hi:i<n):(execOp ρ o).run prog w=.ok (.value (aG (U ⟨b,a+i*11,C⟩))) w:=by
 have d:(i:Int)<(n:Int):=A;unfold execOp;rw [h];simp [go_sem,e,f,d]
def FV:List Value:=[I Y 0,I Y 0,aF aK,I Y 0,I Y 0,I Y 0,I Y 0,I Y 0,K C 0 0,E ⟨#[]⟩,I Y 0,K C 0 0]
theorem Uk (h:o.op=.alloc 144):(execOp ρ o).run prog w=.ok (.value (aG (U ⟨w.heap.size,0,C⟩))) (w.alloc (aH FV.toArray 144)):=by
 unfold execOp;rw [h];simp [go_sem,FV]
end
theorem UO (v1 v2:Value) (w:World):Sem.run prog (callFunc 89 #[v1,v2]) w=.ok (.enter 89 #[v1,v2]) w:=Z
theorem TN {k:pU} {e:Nat}:∀ v∈lZ k (K a n c) ++ [K a' e c'],v.oneCell'=aN:=by
 intro v d;rcases List.mem_append.1 d with d | d
 ·exact LP k a n c v d
 ·rw [List.mem_singleton.1 d];rfl
theorem Z7 {ns:List Value} (f:∀ x∈ns,x=kH):∀ v∈uD N ns,v.oneCell'=aN:=by
 intro v c;unfold uD at c;obtain ⟨j,_,a⟩:=List.mem_flatMap.1 c;have d:ns.getD j kH=kH:=by
  rw [FC];cases e:ns[j]? with
  | none=>rfl
  | some x=>exact f x (List.mem_of_getElem? e)
 rw [d] at a;simp only [Aw,mG,mF,or_false] at a;rcases a with rfl | rfl | rfl | rfl | rfl | rfl | rfl | rfl <;> rfl
structure AW (wx:World) (y:Nat) (kd:pU) (u v:Value) (N:List lQ) (ns:List Value):Prop where
 o:Own y wx 1 u kd.ss.length (kd.ss.map E)
 k:EN kd
 m:qy wx y v N ns
 l:N.length≤1
 g:∀ m∈N,m.good
 z:∀ x∈ns,x=kH
 s:∀ m∈N,m.ss=[]
theorem AW.keep {y:Nat} {v:Value} {ns:List Value} (a:AW wx y kd u v N ns) (c:∀ q,y≤q→q<wx.heap.size→w'.heap[q]?=wx.heap[q]?):AW w' y kd u v N ns :=
 ⟨a.o.qY (fun q d=>c q (a.o.ku q d) (a.o.kD q d)),a.k,a.m.blk (fun q e f=>c q e f),a.l,a.g,a.z,a.s⟩
structure AK (w:World) (B:Nat→Prop) (Q z n nW nF:Nat) (pa wa fa:Option Addr) (pc wc fc:Nat) (vs:List Value) (bh:BH) (vO:Value) (k:Nat) (d:nI) (us:List Value) (M:List lQ) (ms:List Value) (P y:Nat) (kd:pU) (u v:Value) (N:List lQ) (ns:List Value) (wx:World):Prop where
 t:TL w B Q z n nW nF pa wa fa pc wc fc vs bh vO wx k d us M ms
 c:CF wx P (lZ kd u ++ [v])
 p:Q+1<P∧P<wx.heap.size
 hw:∀ q,WB d ⟨K pa n pc,vs,bh,K wa nW wc,us,K fa nF fc⟩ q→q<y∧q≠P
 hm:∀ q,MB vO M ms q→q<y∧q≠P
 hq:Q+1<y
 a:AW wx y kd u v N ns
 na:u.ownBlock≠U P∧v.ownBlock≠U P
section
variable {w wr w5 w7:World} {B:Nat→Prop} {Q z n nW nF k y:Nat} {pa wa fa:Option Addr} {pc wc fc:Nat} {vs us ms ns:List Value} {bh:BH} {vO u v:Value} {d:nI} {M N:List lQ} {kd:pU}
theorem AK.first (t:TL w B Q z n nW nF pa wa fa pc wc fc vs bh vO wr k d us M ms) (g:Below wr.heap.size wr w5) (a:AW w5 wr.heap.size kd u v N ns) (ob:Obj) (f:(w5.alloc ob).grownBy w7 (U w5.heap.size)) (j:CF w7 w5.heap.size (lZ kd u ++ [v])):AK w B Q z n nW nF pa wa fa pc wc fc vs bh vO k d us M ms w5.heap.size wr.heap.size kd u v N ns w7:=by
 have r:=t.hz;have p:=g.size;have i:=f.size;simp at i;have t5:=t.below g;have l:∀ q,q<w5.heap.size→w7.heap[q]?=w5.heap[q]?:=fun q c=>(f.block q aQ (fun e=>O)).trans (kU _ _ _ c);refine ⟨(t5.below (mD.alloc kL ob)).far f A (fun h=>?_) (fun h=>?_),j,⟨A,A⟩,fun q c=>?_,fun q c=>?_,A,a.keep (fun q _ c=>l q c),⟨fun e=>?_,fun e=>?_⟩⟩
 ·have:=(t5.m.lt h).2;omega
 ·have:=t5.x.lt _ h;omega
 ·have:=t.x.lt q c;omega
 ·have:=(t.m.lt c).2;omega
 ·have:=a.o.kD _ e;omega
 ·have:=a.m.row.kD _ e;omega
theorem AK.later (t:TL w B Q z n nW nF pa wa fa pc wc fc vs bh vO wr k d us M ms) (ob:Obj) (g:Below (wr.alloc ob).heap.size (wr.alloc ob) w5) (a:AW w5 (wr.alloc ob).heap.size kd u v N ns) (c:w5.grownBy w7 (U wr.heap.size)) (j:CF w7 wr.heap.size (lZ kd u ++ [v])):AK w B Q z n nW nF pa wa fa pc wc fc vs bh vO k d us M ms wr.heap.size (wr.alloc ob).heap.size kd u v N ns w7:=by
 have H:=t.hz;have s:=g.size;have r:=c.size;have l:(wr.alloc ob).heap.size=wr.heap.size+1:=D;have t5:=(t.below (mD.alloc kL ob)).below g;refine ⟨t5.far c A (fun h=>?_) (fun h=>?_),j,⟨A,A⟩,fun q f=>?_,fun q f=>?_,A,a.keep (fun q p i=>c.block q i (fun e=>O)),⟨fun e=>?_,fun e=>?_⟩⟩
 ·have:=(t.m.lt h).2;omega
 ·have:=t.x.lt _ h;omega
 ·have:=t.x.lt q f;omega
 ·have:=(t.m.lt f).2;omega
 ·have:=a.o.ku _ e;omega
 ·have:=a.m.row.ku _ e;omega
end
section
variable {w wx:World} {B:Nat→Prop} {Q z n nW nF k g o:Nat} {pa wa fa:Option Addr} {pc wc fc:Nat} {vs us ms:List Value} {bh:BH} {vO:Value} {d:nI} {M:List lQ}
theorem TL.row (t:TL w B Q z n nW nF pa (U ⟨g,o,C⟩) fa pc wc fc vs bh vO wx k d us M ms):kW 0 wx 11 g o wc d.Ws.length (qV d.Ws us):=by
 have h:=t.x.s.cr.row;rcases h with ⟨c,_,_⟩ | ⟨j,l,cap,c,i⟩
 ·cases c
 ·injection c with a _ f
  injection a with a;injection a with a e _;subst a e f;exact i
theorem TL.range (t:TL w B Q z n nW nF pa (U ⟨g,o,C⟩) fa pc wc fc vs bh vO wx k d us M ms) (a:k<nW):wx.rangeAt g (o+k*11) (lZ (nD d.Ws k) (us.getD k kH)):=EO.range t.row (by rw [t.ew];exact a)
theorem TL.there (t:TL w B Q z n nW nF pa (U ⟨g,o,C⟩) fa pc wc fc vs bh vO wx k d us M ms) (a:k<nW):wx.there g (o+k*11) 11:=EO.there t.row (by rw [t.ew];exact a)
theorem TL.tick (t:TL w B Q z n nW nF pa wa fa pc wc fc vs bh vO wx k d us M ms) (R:k<nW):Calls prog 89 #[aI (lZ (nD d.Ws k) (us.getD k kH)).toArray,aI #[K pa n pc]] wx fun e w'=>∃ v,e=aO v∧∃ kd a c f h N ns,v=aI (lZ kd (K a kd.ss.length c) ++ [K f N.length h]).toArray∧AW w' wx.heap.size kd (K a kd.ss.length c) (K f N.length h) N ns∧Below wx.heap.size wx w':=by
 have p:k<d.Ws.length:=by rw [t.ew];exact R
 obtain ⟨T,V,io,W,P,S⟩:=(t.x.s.cr.dep k p).Py (t.x.s.cr.ok k p).1;have o:=t.x.g.tz;have i:=t.x.s.pl;have e:=t.et;subst e;obtain ⟨X,po,J⟩:=i.tasks' t.x.g.ft G;rw [P];refine (aby (nD d.Ws k) T V io W pa X po d.ts.length pc d.ts wx S J).mono ?_;rintro e w' ⟨⟨kd,u,v,N,ns,rfl,j,q,l,r,i,o,H⟩,L⟩;obtain ⟨a,c,rfl⟩:=j.slc;obtain ⟨f,h,rfl⟩:=l.row.slc;exact ⟨_,rfl,kd,a,c,f,h,N,ns,rfl,⟨j,q,l,r,i,o,H⟩,L⟩
end
theorem Ot {ops:Array Oper} {rest:List Oper} {op:Oper} {a:Act} {Q:Exit→Act→World→Prop} (f:op.guard=C) (x y:Operand) (h:op.op=.store 127 x y) (g q:Nat) (k:pU) (c:Option Addr) (un d:Nat) (j:a.eval x=aG (U ⟨g,q,C⟩)) (l:a.eval y=aI (lZ k (K c un d)).toArray) (i:w.there g q 11)
  (e:∀ W',W'=w.setCells g q (lZ k (K c un d))→wpList prog ops Q rest (a.put op.dst undef) W'):wpList prog ops Q (op :: rest) a w :=
 wpList_store_mid f 127 x y h g q (lZ k (K c un d)).toArray j l i Tryz.sizeWk (all_oneCell_toArray (LP k c un d)) (e _ rfl)
end
end Go.Proofs.YtfkkipgcfoegmaaGreat
