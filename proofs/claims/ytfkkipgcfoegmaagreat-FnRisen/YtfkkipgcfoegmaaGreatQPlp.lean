
import Derived.Test.YtfkkipgcfoegmaaGreatQNsp
set_option maxHeartbeats 4000000
set_option maxRecDepth 100000
namespace Go.Proofs.YtfkkipgcfoegmaaGreat
open Go.Proofs.Tryz
open Go.Value renaming slice→K,string→E,pointer→aG,agg→aI
open Option renaming none→C,some→U
open Go.Operand renaming tmp→F
open Go.Obj renaming cells→aH
open Go.Value renaming int→I
open Go.IntKind renaming i64→Y
open Go.RowKit
variable {B c k n:Nat} {a:Option Addr} {ns:List Int} {o:Oper} {p:Addr} {ts:List kJ} {v v':Value} {vs xs:List Value} {w w' wr:World} {y:Option Nat} {ρ:Operand→Value}
def Dn (x y:Option Nat):Prop:=x=C∨x≠y
theorem Dn.symm {x:Option Nat} (h:Dn x y):Dn y x:=by
 rcases h with rfl | h
 ·cases y with
  | none=>exact .inl rfl
  | some q=>exact .inr D
 ·exact .inr (fun e=>h e.symm)
theorem Dn.later {x:Option Nat} {m:Nat} (a:∀ q,x=U q→q<m) (c:∀ q,y=U q→m≤q):Dn x y:=by
 cases x with
 | none=>exact .inl rfl
 | some q=>exact .inr (fun e=>by have d:=a q rfl;have f:=c q e.symm;omega)
def kH:Value:=K C 0 0
def Gs (t:kJ) (v:Value):List Value:=[E t.name,I Y t.cost,v]
def ND (ts:List kJ) (vs:List Value):List Value:=(List.range ts.length).flatMap fun j=>Gs (ts.getD j dT) (vs.getD j kH)
theorem flat3 (f:Nat→List Value) (a:∀ j,(f j).length=3) (n:Nat):((List.range n).flatMap f).length=n*3:=by
 induction n with
 | zero=>rfl
 | succ n ih=>rw [DK,FH,lD,ih];simp [a];omega
theorem Y5 {f:Nat→List Value} (a:∀ j,(f j).length=3) (j r:Nat) (d:j<n) (e:r<3):((List.range n).flatMap f)[j*3+r]?=(f j)[r]?:=by
 induction n with
 | zero=>omega
 | succ n ih =>
  rw [DK,FH];have c:=flat3 f a n;by_cases h:j<n
  ·rw [nO A];exact ih h
  ·obtain rfl:j=n:=by omega
   rw [qP A,c,show j*3+r - j*3=r by omega];simp
theorem Dy (ts:List kJ) (vs:List Value):(ND ts vs).length=ts.length*3:=flat3 _ (fun _=>rfl) _
theorem NC (ts:List kJ) (vs:List Value) (j r:Nat) (a:j<ts.length) (c:r<3):(ND ts vs)[j*3+r]?=(Gs (ts.getD j dT) (vs.getD j kH))[r]?:=Y5 (fun _=>rfl) j r a c
theorem aed {a:List Value} (c:xs.length=n*3) (d:a.length=n*3) (h:∀ j r,j<n→r<3→xs[j*3+r]?=a[j*3+r]?):xs=a:=by
 refine LG fun i=>?_;by_cases hi:i<n*3
 ·have:=h (i / 3) (i % 3) A A
  rwa [show i / 3*3+i % 3=i by omega] at this
 ·rw [DL A,DL A]
theorem YE {t:kJ} (c:vs.length=ts.length):ND (ts ++ [t]) (vs ++ [v])=ND ts vs ++ Gs t v:=by
 refine aed (n:=ts.length+1) (by simp [Dy]) (by simp [Dy,Gs];omega) fun j r d a=>?_;rw [NC _ _ _ _ aQ a];by_cases e:j<ts.length
 ·rw [nO (by rw [Dy];omega),NC _ _ _ _ e a]
  simp [List.getD,List.getElem?_append_left e,List.getElem?_append_left (show j<vs.length by omega)]
 ·obtain rfl:j=ts.length:=by omega
  rw [qP (by rw [Dy];omega),Dy,show ts.length*3+r - ts.length*3=r by omega];have g3:(ts ++ [t]).getD ts.length dT=t:=by simp [List.getD]
  have g4:(vs ++ [v]).getD ts.length kH=v:=jA;rw [g3,g4]
structure lF (w:World) (B:Nat) (v:Value) (ts:List kJ) (vs:List Value):Prop where
 len:vs.length=ts.length
 row:Own B w 3 v ts.length (ND ts vs)
 dep:∀ j,j<ts.length→Own B w 1 (vs.getD j kH) (ts.getD j dT).deps.length ((ts.getD j dT).deps.map (I Y))
 dr:∀ j,j<ts.length→Dn (vs.getD j kH).ownBlock v.ownBlock
 dd:∀ i j,i<j→j<ts.length→Dn (vs.getD i kH).ownBlock (vs.getD j kH).ownBlock
def IX (ts:List kJ):Prop:=∀ j,j<ts.length→(ts.getD j dT).name.size≤maxLen∧I64 (ts.getD j dT).cost∧∀ x∈(ts.getD j dT).deps,I64 x
theorem lF.nil (w:World) (B:Nat):lF w B kH [] []:=⟨rfl,Own.nil _ _ _,fun j a=>absurd a D,fun j a=>absurd a D,fun i j _ a=>absurd a D⟩
theorem Own.ac7 (h:Own B w 1 v ns.length (ns.map (I Y))) (i:∀ x∈ns,I64 x):∃ a b o c,v=K a ns.length c∧qN w a b o ns.length ns:=by
 rcases h with ⟨rfl,k,f⟩ | ⟨g,o,cap,rfl,d⟩
 ·have:ns=[]:=by simpa using f
  subst this;exact ⟨C,0,0,0,rfl,fun h=>absurd h D,rfl,lG _,fun h=>absurd h D,fun j e=>absurd e D,D⟩
 ·exact ⟨_,g,o,cap,rfl,qN.Au d i⟩
theorem lF.tasks (h:lF w B v ts vs) (e:IX ts) (hm:ts.length≤maxLen):∃ a b o c,v=K a ts.length c∧lN w a b o ts.length ts:=by
 have u:=h.row;rcases u with ⟨i,s,_⟩ | ⟨g,o,cap,i,k⟩
 ·refine ⟨C,0,0,0,by rw [i,s],?_⟩
  exact ⟨fun h=>absurd h A,rfl,hm,fun h=>absurd h A,fun j d=>absurd d A,fun j d=>absurd d A,fun j d=>absurd d A,fun j d=>absurd d A⟩
 ·have f:∀ j r,j<ts.length→r<3→w.cell? ⟨g,o+(j*3+r),C⟩=(Gs (ts.getD j dT) (vs.getD j kH))[r]?:=fun j r d t=>by
   rw [k.holds (j*3+r) A];exact NC ts vs j r d t
  refine ⟨_,g,o,cap,i,fun _=>rfl,rfl,hm,fun _=>k.hi,fun j d=>f j 0 d A,fun j d=>?_,fun j d=>?_,fun j d=>⟨(e j d).1,(e j d).2.1⟩⟩
  ·rw [nS];exact f j 1 d A
  ·obtain ⟨l,p,z,q,he,hi⟩:=(h.dep j d).ac7 (e j d).2.2
   refine ⟨l,p,z,_,q,?_,hi⟩;rw [nS,f j 2 d A,← he];rfl
theorem Own.qY {size:Nat} (h:Own B w size v n xs) (a:∀ q,v.ownBlock=U q→w'.heap[q]?=w.heap[q]?):Own B w' size v n xs:=by
 rcases h with h | ⟨g,o,cap,rfl,c⟩
 ·exact .inl h
 ·exact .inr ⟨g,o,cap,rfl,c.block (a g rfl)⟩
theorem lF.blk (h:lF w B v ts vs) (d:∀ q,B≤q→q<w.heap.size→w'.heap[q]?=w.heap[q]?):lF w' B v ts vs :=
 ⟨h.len,h.row.qY (fun q a=>d q (h.row.ku q a) (h.row.kD q a)),fun j c=>(h.dep j c).qY (fun q a=>d q ((h.dep j c).ku q a) ((h.dep j c).kD q a)),h.dr,h.dd⟩
theorem lF.below (h:lF w B v ts vs) (a:Below w.heap.size w w'):lF w' B v ts vs:=h.blk (fun q _ c=>a.block q c)
theorem lF.grown {row:Option Nat} (h:lF w B v ts vs) (a:w.grownBy w' row) (d:Dn v.ownBlock row) (e:∀ j,j<ts.length→Dn (vs.getD j kH).ownBlock row):lF w' B v ts vs :=
 ⟨h.len,h.row.grown a d,fun j c=>(h.dep j c).grown a (e j c),h.dr,h.dd⟩
theorem lF.mono {B':Nat} (h:lF w B v ts vs) (a:B'≤B):lF w B' v ts vs :=
 ⟨h.len,h.row.mono' a,fun j c=>(h.dep j c).mono' a,h.dr,h.dd⟩
theorem lF.snoc {t:kJ} {u:Value} (c:vs.length=ts.length) (l:∀ j,j<ts.length→Own B w 1 (vs.getD j kH) (ts.getD j dT).deps.length ((ts.getD j dT).deps.map (I Y))) (k:∀ i j,i<j→j<ts.length→Dn (vs.getD i kH).ownBlock (vs.getD j kH).ownBlock)
  (o:Own B w 3 v' (ts.length+1) (ND ts vs ++ Gs t u)) (hu:Own B w 1 u t.deps.length (t.deps.map (I Y)))
  (f:∀ j,j<ts.length→Dn (vs.getD j kH).ownBlock v'.ownBlock) (g:Dn u.ownBlock v'.ownBlock) (h:∀ j,j<ts.length→Dn (vs.getD j kH).ownBlock u.ownBlock):lF w B v' (ts ++ [t]) (vs ++ [u]):=by
 have g1:∀ j,j<ts.length→(ts ++ [t]).getD j dT=ts.getD j dT:=fun j a=>by simp [List.getD,List.getElem?_append_left a]
 have g2:∀ j,j<ts.length→(vs ++ [u]).getD j kH=vs.getD j kH:=fun j a=>by simp [List.getD,List.getElem?_append_left (show j<vs.length by rw [c];exact a)]
 have g3:(ts ++ [t]).getD ts.length dT=t:=by simp [List.getD]
 have g4:(vs ++ [u]).getD ts.length kH=u:=jA;refine ⟨by simp [c],?_,fun j a=>?_,fun j a=>?_,fun i j d a=>?_⟩
 ·rw [YE c,lD,mQ];exact o
 ·rw [lD,mQ] at a
  by_cases e:j<ts.length
  ·rw [g1 j e,g2 j e];exact l j e
  ·obtain rfl:j=ts.length:=by omega
   rw [g3,g4];exact hu
 ·rw [lD,mQ] at a
  by_cases e:j<ts.length
  ·rw [g2 j e];exact f j e
  ·obtain rfl:j=ts.length:=by omega
   rw [g4];exact g
 ·rw [lD,mQ] at a
  by_cases e:j<ts.length
  ·rw [g2 j e,g2 i A];exact k i j d e
  ·obtain rfl:j=ts.length:=by omega
   rw [g4,g2 i A];exact h i d
theorem Zw {j:Nat} (c:j<ts.length):(ts.getD j dT).deps.length≤qF ts:=by
 have a:=TS ts (j+1);rw [JB c,Qq] at a;have d:(ts.getD j dT).deps.length≤Yj (ts.getD j dT):=by unfold Yj;omega
 omega
theorem qN.adS {b o:Nat} (h:qN w a b o n ns) (c:Nat):Src prog 1 79 (K a n c) n (ns.map (I Y)) w:=by
 have f:∀ u∈ns.map (I Y),u.oneCell'=true:=fun u hu=>by obtain ⟨y,_,rfl⟩:=List.mem_map.1 hu;rfl
 cases a with
 | none =>
  have e:n=0:=LD fun g=>by have:=h.ad g;cases this
  subst e;have:ns=[]:=oH h.len;subst this;exact Src.ofNil w underlying79 c
 | some y =>
  refine Src.ofSlice w underlying79 y n c (ns.map (I Y)) (by simp [h.len]) (fun j u hu=>?_) f;have i:j<n:=by have:=(List.getElem?_eq_some_iff.1 hu).1;rw [List.length_map,h.len] at this;exact this
  have d:=h.ad A;injection d with d;subst d;rw [Addr.add_lit,h.cell j i];have k:=h.len;rw [IB] at hu;rw [nH A] at hu;simp only [Option.map_some,Option.some.injEq] at hu;rw [← hu];simp [List.getD,List.getElem?_eq_getElem (show j<ns.length by omega)]
theorem Cm (x:Operand) (h:o.op=.load 31 x) (c:ρ x=aG (U p)) (a:w.cell? p=U v):(execOp ρ o).run prog w=.ok (.value v) w:=by
 unfold execOp;rw [h];simp [go_sem,c,a]
theorem ZJ (x:Operand) (h:o.op=.load 79 x) (c:ρ x=aG (U p)) (a:w.cell? p=U v):(execOp ρ o).run prog w=.ok (.value v) w:=by
 unfold execOp;rw [h];simp [go_sem,c,a]
theorem CJ (x:Operand) (h:o.op=.load 3 x) (c:ρ x=aG (U p)) (a:w.cell? p=U v):(execOp ρ o).run prog w=.ok (.value v) w:=by
 unfold execOp;rw [h];simp [go_sem,c,a]
theorem Nu (x:Operand) (h:o.op=.load 9 x) (c:ρ x=aG (U p)) (a:w.cell? p=U v):(execOp ρ o).run prog w=.ok (.value v) w:=by
 unfold execOp;rw [h];simp [go_sem,c,a]
theorem Ui (h:o.op=.buildSlice 79 0 #[]):(execOp ρ o).run prog w=.ok (.value (K (U ⟨w.heap.size,0,C⟩) 0 0)) (w.alloc (aH #[] 3)):=by
 unfold execOp;rw [h];simp [go_sem]
theorem mX {x:Value} (s y:Operand) (t tx ty:TypeId) (ho:o.op=.call { callee:=.builtin .append,args:=#[s,y],argTypes:=#[t,tx] }) (hv:ρ s=v) (hx:ρ y=x) (hty:o.type=ty) (hr:(Builtin.append_ #[t,tx] ty #[v,x]).run prog w=.ok v' w'):(execOp ρ o).run prog w=.ok (.value v') w':=by
 unfold execOp;simp [ho,resolve,invoke,builtin,hv,hx,hty,hr,Result.andThen]
theorem PU (x y z:Operand) (s:ByteArray) (c:Int) (a:Option Addr) (n d:Nat) (h:o.op=.build 81 #[(0,x),(1,y),(2,z)]) (e:ρ x=E s) (f:ρ y=I Y c) (g:ρ z=K a n d):(execOp ρ o).run prog w=.ok (.value (aI #[E s,I Y c,K a n d])) w:=by
 unfold execOp;rw [h];simp [go_sem,e,f,g]
theorem Ja (x:Operand) (s:ByteArray) (c:Int) (a:Option Addr) (n d:Nat) (h:o.op=.buildSlice 31 1 #[(0,x)]) (e:ρ x=aI #[E s,I Y c,K a n d]) :
  (execOp ρ o).run prog w=.ok (.value (K (U ⟨w.heap.size,0,C⟩) 1 1)) (w.alloc (aH #[E s,I Y c,K a n d] 81)):=by
 unfold execOp;rw [h];simp [go_sem,e]
theorem Hu {v0:Value} (x y:Operand) (h:o.op=.store 31 x y) (f:ρ x=aG (U p)) (g:ρ y=K a n c) (d:w.cell? p=U v0) (e:w.frozen? p=false) :
  (execOp ρ o).run prog w=.ok .skip (w.setCell p (K a n c)):=by
 unfold execOp;rw [h];simp [go_sem,f,g,d,e]
structure Ir (w:World) (a:Option Addr) (n c:Nat) (ts:List kJ) (k:Nat) (v:Value) (vs:List Value) (wr:World):Prop where
 P:CF wr w.heap.size [K a n c]
 R:CF wr (w.heap.size+1) [K C 0 0]
 O:CF wr (w.heap.size+2) [v]
 B:Below w.heap.size w wr
 z:w.heap.size+3≤wr.heap.size
 pl:lF wr (w.heap.size+3) v (ts.take k) vs
theorem Ir.alloc (h:Ir w a n c ts k v vs wr) (ob:Obj):Ir w a n c ts k v vs (wr.alloc ob) :=
 have d:Below wr.heap.size wr (wr.alloc ob):=kQ
 ⟨h.P.block (d.block _ bM),h.R.block (d.block _ bM),h.O.block (d.block _ bM),h.B.trans (d.mono h.B.size),lH h.z d.size,h.pl.below d⟩
theorem Ir.drew (h:Ir w a n c ts k v vs wr):Ir w a n c ts k v vs wr.drew :=
 ⟨h.P,h.R,h.O,h.B.drew,h.z,h.pl.below mD.drew⟩
theorem lF.Af {q:Nat} (h:lF w B v ts vs) (d:w.grownBy w' (U q)) (e:∀ x,B≤x→x<w.heap.size→x≠q):lF w' B v ts vs :=
 h.blk (fun x c a=>d.block x a (by simp;exact e x c a))
theorem OO (a:Option Addr) (b o n c:Nat) (ts:List kJ) (w:World) (h:lN w a b o n ts) (hn:n+qF ts≤1048576) :
  Calls prog 77 #[aI #[K a n c]] w fun e w'=>(∃ v vs,e=.returned (aI #[v])∧lF w' w.heap.size v ts vs)∧Below w.heap.size w w':=by
 obtain ⟨iT,ch,cc,cd,cf⟩:=info_parts Tryz.info81;obtain ⟨iI,cg,b9,ca,cb⟩:=info_parts Tryz.info3;obtain ⟨W, hW⟩ := kC (((w.alloc (aH #[K a n c] 33)).alloc (aH #[K C 0 0] 33)).alloc (aH #[K C 0 0] 33));have hB:Below w.heap.size w W:=jS;have hz:w.heap.size+3≤W.heap.size:=dF;have hP:CF W w.heap.size [K a n c]:=by rw [hW];exact ((CF.made w #[K a n c] 33).block (kU _ _ _ D)).block (kU _ _ _ aQ)
 have hR:CF W (w.heap.size+1) [K C 0 0]:=by
  rw [hW];have:=CF.made (w.alloc (aH #[K a n c] 33)) #[K C 0 0] 33;rw [mJ] at this;exact this.block (kU _ _ _ D)
 have hO:CF W (w.heap.size+2) [K C 0 0]:=by
  rw [hW];have:=CF.made ((w.alloc (aH #[K a n c] 33)).alloc (aH #[K C 0 0] 33)) #[K C 0 0] 33;rw [mJ,mJ] at this;exact this
 have S0:Ir w a n c ts 0 kH [] W:=⟨hP,hR,hO,hB,hz,lF.nil _ _⟩
 have HL:=hid h.len;have HW:=hid hW;have ck:n≤maxLen:=h.max;unfold maxLen at ck;clear hW hP hR hO hB hz;go_enter func77,ntmps77
 go_upto_region 2 with fail
 rw [← HW.out];clear HW;go_wp2;go_loopw [4] (fun i wr=>∃ k:Nat,k≤n∧i=I Y k∧∃ v vs,Ir w a n c ts k v vs wr) (fun i _=>n - (intOf i).toNat)
 case atStart=>exact ⟨0,lG _,rfl,_,_,S0⟩
 case round =>
  clear S0;obtain ⟨k,hk,rfl,v,vs,S⟩:=hrel;have p0:wr.cell? ⟨w.heap.size,0,C⟩=U (K a n c):=(S.P 0 D).1;by_cases bu:k<n
  ·have cm:(k:Int)<(n:Int):=by omega
   have bz:k<ts.length:=by rw [HL.out];exact bu
   obtain rfl:=h.ad A;have hA:=h.below' S.B;obtain ⟨t,Q,b',o',g,c',ht,t0,t1,t2,hI,cp,cl⟩:=hA.get bu;have cn:g≤1048576:=by
    have:=Zw bz;rw [← ht,hI.len] at this;omega
   obtain ⟨nm, bh⟩ := kC t.name;obtain ⟨co, bf⟩ := kC t.cost;rw [← bh] at t0;rw [← bf] at t1;have b8:=hid bh;have b6:=hid bf;have HT:=hid ht;have b7:=hid hI.len;obtain ⟨T,hT⟩:∃ T:Nat,T=wr.heap.size:=⟨_,rfl⟩
   obtain ⟨W1, an⟩ := kC (wr.alloc (aH #[E nm,I Y co,K Q g c'] 81));have S1:Ir w (U ⟨b,o,C⟩) n c ts k v vs W1:=by rw [an];exact S.alloc _
   have T1:CF W1 T [E nm,I Y co,K Q g c']:=by rw [an,hT];exact CF.made wr #[E nm,I Y co,K Q g c'] 81
   have tz:w.heap.size+3≤T∧T<W1.heap.size:=⟨by rw [hT];exact S.z,by rw [an,hT];simp⟩
   have bq:qN W1 Q b' o' g t.deps:=by rw [an];exact hI.below' kQ
   have bo:=hid (show ∀ q,v.ownBlock=U q→q<T from fun q f=>by rw [hT];exact S.pl.row.kD q f);have bn:=hid hT;have bp:=hid an;clear bh bf ht hT an hA hI S;go_upto_region 6 with fail
   rw [← bp.out,← bn.out];clear bp bn p0 t0 t1 t2;obtain ⟨l, au⟩ := kC W1.drew;have p:Ir w (U ⟨b,o,C⟩) n c ts k v vs l:=by rw [au];exact S1.drew
   have T2:CF l T [E nm,I Y co,K Q g c']:=by rw [au];exact T1
   have bm:w.heap.size+3≤T∧T<l.heap.size:=by rw [au];exact tz
   have br:qN l Q b' o' g t.deps:=by rw [au];exact bq.below' mD.drew
   obtain ⟨va,vc,ay⟩:=p.pl.row.slc;have aq:(ts.take k).length=k:=by rw [qI];omega
   rw [aq] at ay;obtain ⟨r1, af⟩ := kC (l.alloc (aH #[] 3));have b1:Below l.heap.size l r1:=by rw [af];exact kQ
   have z1:r1.heap.size=l.heap.size+1:=by rw [af];simp
   have b2:Own (w.heap.size+3) r1 1 (K (U ⟨l.heap.size,0,C⟩) 0 0) 0 []:=by
    rw [af];exact .inr ⟨_,0,0,rfl,kW.made l (w.heap.size+3) 3 1 0 0 _ 0 A kL G rfl kL _ rfl _ (.inl rfl)⟩
   obtain ⟨u,r,ah,aw,ai,bs⟩:=l7 (P:=prog) r1 (w.heap.size+3) 79 79 79 3 iI (I Y 0) 1 8 underlying79 cg b9 ca cb rfl _ 0 _ b2 _ g _ ((br.below' b1).adS c') G A A;rw [ny,oG] at aw;obtain ⟨H,J,rfl⟩:=aw.slc;have ax:∀ q,(K H g J).ownBlock=U q→l.heap.size≤q:=fun q f=>by
    rcases bs with M | M
    ·rw [M] at f
     have:l.heap.size=q:=by simpa [Value.ownBlock] using f
     omega
    ·rw [M] at f;injection f with f;omega
   have bw:(K (U ⟨l.heap.size,0,C⟩) 0 0).ownBlock=U l.heap.size:=rfl;rw [bw] at ai;have z2:r1.heap.size≤r.heap.size:=ai.size;obtain ⟨N, aa⟩ := kC (r.alloc (aH #[E nm,I Y co,K H g J] 81));have b3:Below r.heap.size r N:=by rw [aa];exact kQ
   have z3:N.heap.size=r.heap.size+1:=by rw [aa];simp
   have b4:Own (w.heap.size+3) N 3 (K (U ⟨r.heap.size,0,C⟩) 1 1) 1 [E nm,I Y co,K H g J]:=by
    rw [aa];exact .inr ⟨_,0,1,rfl,kW.made r (w.heap.size+3) 81 3 1 1 _ 3 A kL G rfl kL _ rfl _ (.inl rfl)⟩
   have bc:∀ x,x<l.heap.size→N.heap[x]?=l.heap[x]?:=fun x hx=>(b3.block x A).trans ((ai.block x A aQ).trans (b1.block x hx));have bl:=p.pl.blk (fun x _ h2=>bc x h2);have bj:=aw.below b3 kL;have b5:Src prog 3 31 _ 1 _ N:=b4.src underlying31 bI;obtain ⟨v4,X,ag,a8,av,bd⟩:=l7 (P:=prog) N (w.heap.size+3) 31 31 31 81 iT (aI Nk) 3 48 underlying31 ch cc cd cf rfl _ _ _ bl.row _ 1 _ b5 (by rw [aq];unfold maxLen;omega) (by rw [aq];omega) A;obtain ⟨ba,bb,b0⟩:=a8.slc;rw [aq] at b0;have ak:=bl.row.ku;have bk:=p.pl.row.kD;have z4:N.heap.size≤X.heap.size:=av.size;have al:∀ x,x<l.heap.size→v.ownBlock≠U x→X.heap[x]?=l.heap[x]?:=fun x hx bg=>(av.block x A (fun e=>bg e.symm)).trans (bc x hx);have kO:X.cell? ⟨w.heap.size+2,0,C⟩=U v:=((p.O.block (al (w.heap.size+2) A (fun e=>by have:=ak _ e;omega))) 0 D).1;have fO:X.frozen? ⟨w.heap.size+2,0,C⟩=false:=((p.O.block (al (w.heap.size+2) A (fun e=>by have:=ak _ e;omega))) 0 D).2;obtain ⟨r5, ab⟩ := kC (X.setCell ⟨w.heap.size+2,0,C⟩ v4);have gs:X.grownBy r5 (U (w.heap.size+2)):=by rw [ab];exact lU (lJ X (U (w.heap.size+2))) 0 v4
   have a6:∀ x,x<l.heap.size→v.ownBlock≠U x→x≠w.heap.size+2→r5.heap[x]?=l.heap[x]?:=fun x hx bg h2=>(gs.block x A (by simp;exact h2)).trans (al x hx bg);have S5:Ir w (U ⟨b,o,C⟩) n c ts (k+1) v4 (vs ++ [K H g J]) r5:=by
    have zz:=p.z;refine ⟨p.P.block (a6 _ A (fun e=>by have:=ak _ e;omega) A),p.R.block (a6 _ A (fun e=>by have:=ak _ e;omega) A),?_,?_,bW,?_⟩
    ·rw [ab];exact (p.O.block (al (w.heap.size+2) A (fun e=>by have:=ak _ e;omega))).set (j:=0) D v4
    ·have B1:=p.B.trans (b1.mono p.B.size)
     have B2:=below_grown B1 ai A (fun q f=>by injection f with f;omega);have B3:=B2.trans (b3.mono B2.size);exact below_grown (below_grown B3 av A (fun q f=>by have:=ak q f;omega)) gs A (fun q f=>by injection f with f;omega)
    ·have a7:∀ j,j<(ts.take k).length→∀ q,(vs.getD j kH).ownBlock=U q→w.heap.size+3≤q∧q<l.heap.size:=fun j hj q f=>⟨(p.pl.dep j hj).ku q f,(p.pl.dep j hj).kD q f⟩
     rw [JB bz,← HT.out];refine lF.snoc p.pl.len (fun j hj=>(p.pl.dep j hj).qY (fun q f=>a6 q (a7 j hj q f).2 (fun e=>?_) (by have:=(a7 j hj q f).1;omega))) p.pl.dd ?_ ?_ (fun j hj=>?_) ?_ (fun j hj=>?_)
     ·rcases p.pl.dr j hj with M | M
      ·rw [M] at f;cases f
      ·exact M (f.trans e.symm)
     ·have:=a8.grown gs (.inr (by intro hh;have:=a8.ku _ hh;omega))
      rw [b8.out,b6.out] at this;exact this
     ·have h6:=(bj.qY (w':=X) (fun q f=>av.block q (bj.kD q f) (fun e=>by have h7:=ax q f;have h8:=bk q e.symm;omega))).grown gs (.inr (by intro hh;have:=ax _ hh;omega))
      rw [b7.out];exact h6
     ·rcases bd with M | M
      ·rw [M];exact p.pl.dr j hj
      ·exact Dn.later (fun q f=>(a7 j hj q f).2) (fun q f=>by rw [M] at f;injection f with f;omega)
     ·rcases bd with M | M
      ·rw [M];exact Dn.symm (Dn.later bk ax)
      ·exact Dn.later aw.kD (fun q f=>by rw [M] at f;injection f with f;omega)
     ·exact Dn.later (fun q f=>(a7 j hj q f).2) ax
   have HS:=hid S5;have c0:=T2;have c1:CF r1 T [E nm,I Y co,K Q g c']:=T2.block (b1.block T bm.2);have c2:CF r T [E nm,I Y co,K Q g c']:=c1.block (ai.block T A aQ);have ae:CF N T [E nm,I Y co,K Q g c']:=c2.block (b3.block T A);have V:CF X T [E nm,I Y co,K Q g c']:=T2.block (al T bm.2 (fun e=>by have:=bo.out _ e;omega));have c5:CF r5 T [E nm,I Y co,K Q g c']:=V.block (gs.block T A aQ);have l0:l.cell? ⟨w.heap.size+2,0,C⟩=U v:=(p.O 0 D).1;have zO:w.heap.size+2<l.heap.size:=by have:=p.z;omega
   have l1:r1.cell? ⟨w.heap.size+2,0,C⟩=U v:=(mV (w:=l) (a:=⟨w.heap.size+2,0,C⟩) (b1.block (w.heap.size+2) zO)).trans l0;have l2:r.cell? ⟨w.heap.size+2,0,C⟩=U v:=(mV (w:=r1) (a:=⟨w.heap.size+2,0,C⟩) (ai.block (w.heap.size+2) A aQ)).trans l1;have l3:N.cell? ⟨w.heap.size+2,0,C⟩=U v:=(mV (w:=r) (a:=⟨w.heap.size+2,0,C⟩) (b3.block (w.heap.size+2) A)).trans l2;subst ay;subst b0;clear S1 p T1 T2 tz bm bq br b1 b3 b2 b4 aw bj b5 ai av bl a8 bc al a6 gs S5 ax ak bk bs bd z1 z2 z3 z4 zO bo bw;refine wp_region_held (S:=fun w'=>CF w' T [E nm,I Y co,K Q g c']) Z ?_;change wpAnyH _ _ _ _ _ _ _ _ (World.drew _);rw [← au];clear au;refine jZ (i:=0) (d:=U 19) (v:=aG (U ⟨w.heap.size+2,0,C⟩)) (l':=(bt 15 1)) rfl (fun _ L=>Z) c0 ?_;refine jZ (i:=2) (d:=U 21) (v:=aG (U ⟨T,0,C⟩)) (l':=(bt 15 5)) rfl (fun _ L=>Z) c0 ?_;refine jZ (i:=3) (d:=U 22) (v:=E nm) (l':=(bt 15 13)) rfl (fun _ L=>Nu (F 21) Z Z (L 0 D).1) c0 ?_;refine jZ (i:=4) (d:=U 23) (v:=aG (U ⟨T,1,C⟩)) (l':=(bt 15 29)) rfl (fun _ L=>Z) c0 ?_;refine jZ (i:=5) (d:=U 24) (v:=I Y co) (l':=(bt 15 61)) rfl (fun _ L=>CJ (F 23) Z Z (L 1 D).1) c0 ?_;refine jZ (i:=7) (d:=U 26) (v:=aG (U ⟨T,2,C⟩)) (l':=(bt 15 189)) rfl (fun _ L=>Z) c0 ?_;refine jZ (i:=8) (d:=U 27) (v:=K Q g c') (l':=(bt 15 445)) rfl (fun _ L=>ZJ (F 26) Z Z (L 2 D).1) c0 ?_;refine nT (i:=1) (j:=6) Z (kM (i:=1) (d:=U 20) (v:=K va k vc) (w':=l) (l':=(bt 15 447)) rfl Z Z Z (Cm (F 19) Z Z l0) c0 ?_) (kM (i:=6) (d:=U 25) (v:=K (U ⟨l.heap.size,0,C⟩) 0 0) (w':=r1) (l':=(bt 15 509)) rfl Z Z Z (by rw [af];exact Ui Z) c1 ?_)
   ·refine kF Z (kM (i:=6) (d:=U 25) (v:=K (U ⟨l.heap.size,0,C⟩) 0 0) (w':=r1) (l':=(bt 15 511)) rfl Z Z Z (by rw [af];exact Ui Z) c1 ?_)
    refine kF Z (kM (i:=9) (d:=U 28) (v:=K H g J) (w':=r) (l':=(bt 15 1023)) rfl Z Z Z (mX (F 25) (F 27) 79 79 79 Z Z Z Z ah) c2 ?_);refine jZ (i:=10) (d:=U 29) (v:=aI #[E nm,I Y co,K H g J]) (l':=(bt 15 2047)) rfl (fun _ L=>PU (F 22) (F 24) (F 28) nm co H g J Z Z Z Z) c2 ?_;refine kF Z (kM (i:=11) (d:=U 30) (v:=K (U ⟨r.heap.size,0,C⟩) 1 1) (w':=N) (l':=(bt 15 4095)) rfl Z Z Z jV ae ?_);refine kF Z (kM (i:=12) (d:=U 31) (v:=K ba (k+1) bb) (w':=X) (l':=(bt 15 8191)) rfl Z Z Z (mX (F 20) (F 30) 31 31 31 Z Z Z Z ag) V ?_);refine jZ (i:=13) (d:=U 32) (v:=aG (U ⟨w.heap.size+2,0,C⟩)) (l':=(bt 15 16383)) rfl (fun _ L=>Z) V ?_;refine kF Z (lI (i:=14) (w':=r5) (l':=(bt 15 32767)) rfl Z Z Z jU c5 ?_);refine wpAnyH_done Z ?_ _;clear l0 l1 l2 l3 c0 c1 c2 ae V c5 kO fO ah ag af aa ab;go_wp2;go_roundw
    case rel=>exact ⟨k+1,A,aW,_,_,HS.out⟩
    case measure=>simp [intOf];omega
   ·refine nT (i:=1) (j:=9) Z (kM (i:=1) (d:=U 20) (v:=K va k vc) (w':=r1) (l':=(bt 15 511)) rfl Z Z Z (Cm (F 19) Z Z l1) c1 ?_) (kM (i:=9) (d:=U 28) (v:=K H g J) (w':=r) (l':=(bt 15 1021)) rfl Z Z Z (mX (F 25) (F 27) 79 79 79 Z Z Z Z ah) c2 ?_)
    ·refine kF Z (kM (i:=9) (d:=U 28) (v:=K H g J) (w':=r) (l':=(bt 15 1023)) rfl Z Z Z (mX (F 25) (F 27) 79 79 79 Z Z Z Z ah) c2 ?_)
     refine jZ (i:=10) (d:=U 29) (v:=aI #[E nm,I Y co,K H g J]) (l':=(bt 15 2047)) rfl (fun _ L=>PU (F 22) (F 24) (F 28) nm co H g J Z Z Z Z) c2 ?_;refine kF Z (kM (i:=11) (d:=U 30) (v:=K (U ⟨r.heap.size,0,C⟩) 1 1) (w':=N) (l':=(bt 15 4095)) rfl Z Z Z jV ae ?_);refine kF Z (kM (i:=12) (d:=U 31) (v:=K ba (k+1) bb) (w':=X) (l':=(bt 15 8191)) rfl Z Z Z (mX (F 20) (F 30) 31 31 31 Z Z Z Z ag) V ?_);refine jZ (i:=13) (d:=U 32) (v:=aG (U ⟨w.heap.size+2,0,C⟩)) (l':=(bt 15 16383)) rfl (fun _ L=>Z) V ?_;refine kF Z (lI (i:=14) (w':=r5) (l':=(bt 15 32767)) rfl Z Z Z jU c5 ?_);refine wpAnyH_done Z ?_ _;clear l0 l1 l2 l3 c0 c1 c2 ae V c5 kO fO ah ag af aa ab;go_wp2;go_roundw
     case rel=>exact ⟨k+1,A,aW,_,_,HS.out⟩
     case measure=>simp [intOf];omega
    ·refine jZ (i:=10) (d:=U 29) (v:=aI #[E nm,I Y co,K H g J]) (l':=(bt 15 2045)) rfl (fun _ L=>PU (F 22) (F 24) (F 28) nm co H g J Z Z Z Z) c2 ?_
     refine nT (i:=1) (j:=11) Z (kM (i:=1) (d:=U 20) (v:=K va k vc) (w':=r) (l':=(bt 15 2047)) rfl Z Z Z (Cm (F 19) Z Z l2) c2 ?_) (kM (i:=11) (d:=U 30) (v:=K (U ⟨r.heap.size,0,C⟩) 1 1) (w':=N) (l':=(bt 15 4093)) rfl Z Z Z jV ae ?_)
     ·refine kF Z (kM (i:=11) (d:=U 30) (v:=K (U ⟨r.heap.size,0,C⟩) 1 1) (w':=N) (l':=(bt 15 4095)) rfl Z Z Z jV ae ?_)
      refine kF Z (kM (i:=12) (d:=U 31) (v:=K ba (k+1) bb) (w':=X) (l':=(bt 15 8191)) rfl Z Z Z (mX (F 20) (F 30) 31 31 31 Z Z Z Z ag) V ?_);refine jZ (i:=13) (d:=U 32) (v:=aG (U ⟨w.heap.size+2,0,C⟩)) (l':=(bt 15 16383)) rfl (fun _ L=>Z) V ?_;refine kF Z (lI (i:=14) (w':=r5) (l':=(bt 15 32767)) rfl Z Z Z jU c5 ?_);refine wpAnyH_done Z ?_ _;clear l0 l1 l2 l3 c0 c1 c2 ae V c5 kO fO ah ag af aa ab;go_wp2;go_roundw
      case rel=>exact ⟨k+1,A,aW,_,_,HS.out⟩
      case measure=>simp [intOf];omega
     ·refine kF Z (kM (i:=1) (d:=U 20) (v:=K va k vc) (w':=N) (l':=(bt 15 4095)) rfl Z Z Z (Cm (F 19) Z Z l3) ae ?_)
      refine kF Z (kM (i:=12) (d:=U 31) (v:=K ba (k+1) bb) (w':=X) (l':=(bt 15 8191)) rfl Z Z Z (mX (F 20) (F 30) 31 31 31 Z Z Z Z ag) V ?_);refine jZ (i:=13) (d:=U 32) (v:=aG (U ⟨w.heap.size+2,0,C⟩)) (l':=(bt 15 16383)) rfl (fun _ L=>Z) V ?_;refine kF Z (lI (i:=14) (w':=r5) (l':=(bt 15 32767)) rfl Z Z Z jU c5 ?_);refine wpAnyH_done Z ?_ _;clear l0 l1 l2 l3 c0 c1 c2 ae V c5 kO fO ah ag af aa ab;go_wp2;go_roundw
      case rel=>exact ⟨k+1,A,aW,_,_,HS.out⟩
      case measure=>simp [intOf];omega
  ·obtain rfl:k=n:=by omega
   have kR:wr.cell? ⟨w.heap.size+1,0,C⟩=U (K C 0 0):=(S.R 0 D).1;have fR:wr.frozen? ⟨w.heap.size+1,0,C⟩=false:=(S.R 0 D).2;obtain ⟨va,vc,ay⟩:=S.pl.row.slc;have aq:(ts.take k).length=k:=by rw [qI,HL.out];omega
   rw [aq] at ay;subst ay;have kO:wr.cell? ⟨w.heap.size+2,0,C⟩=U (K va k vc):=(S.O 0 D).1;go_wp2;have gs:=lU (lJ wr (U (w.heap.size+1))) 0 (K va k vc);have zz:=S.z;refine bodyPost_ret (v:=aI #[K va k vc]) (by simp [results,results77,go_sem,kR]) rfl ⟨⟨K va k vc,vs,rfl,?_⟩,below_grown S.B gs S.B.size (fun q f=>by injection f with f;omega)⟩;have hp:=S.pl;rw [pF (by rw [HL.out];exact kL)] at hp;exact (hp.blk (fun x h1 h2=>gs.block x h2 aQ)).mono A
end Go.Proofs.YtfkkipgcfoegmaaGreat
