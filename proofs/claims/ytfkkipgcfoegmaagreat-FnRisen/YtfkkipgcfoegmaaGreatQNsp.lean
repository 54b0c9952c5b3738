
import Derived.Test.YtfkkipgcfoegmaaGreatQDrw
set_option maxHeartbeats 2000000
set_option maxRecDepth 100000
namespace Go.Proofs.YtfkkipgcfoegmaaGreat
open Go.Proofs.Tryz
open Go.Value renaming slice→K,string→E
open Option renaming none→C,some→U
open Go.Operand renaming tmp→F
open Go.Obj renaming cells→aH
open Bool renaming true→aN
open Go.Ending renaming returned→aO
open Go.Value renaming int→I
open Go.IntKind renaming i64→Y
open Go.RowKit
variable {P:Program} {fuel i n:Nat} {l':Array Bool} {md:Region.Mode} {o oi:Oper} {ops:Array Oper} {v v1:Value} {w:World} {ρ:Operand→Value}
section
section
variable {P:Program} {md:Region.Mode} {ops:Array Oper} {Q:Exit→Act→World→Prop} {S:World→Prop} {i j:Nat} {oi:Oper} {v:Value} {d:Option Nat} {fuel:Nat} {l l':Array Bool} {a:Act} {w w':World}
theorem ael (hi:ops[i]?=U oi) (f:oi.dst=d) (o:Region.noSelect ops=aN) (g:Region.free md ops l i=aN) (k:(Region.ready md ops l).contains i=aN)
  (hQ:∀ c a w,Q (.panic c) (a.put oi.dst v) w→Q (.panic c) a w) (hw:Region.wanted oi (yielded ops a.tmps)=aN) (p:∀ w,S w→(execOp a.eval oi).run P w=.ok (.value v) w) (e:S w)
  (j:l.setIfInBounds i aN=l') (h:wpAnyH P md ops Q S fuel l' (a.put d v) w):wpAnyH P md ops Q S (fuel+1) l a w:=by
 subst j;subst f;exact wpAnyH_take hi o g k hQ (Or.inl ⟨hw,p⟩) e h
theorem kF (e:Region.ready md ops l=[i]) (h:wpOp P ops Q i (fun c w'=>S w'∧wpAnyH P md ops Q S fuel (l.setIfInBounds i aN) c w') a w):wpAnyH P md ops Q S (fuel+1) l a w :=
 wpAnyH_all e D (fun q d=>by obtain rfl:=List.mem_singleton.1 d;exact h)
theorem nT (f:Region.ready md ops l=[i,j]) (h:wpOp P ops Q i (fun c w'=>S w'∧wpAnyH P md ops Q S fuel (l.setIfInBounds i aN) c w') a w) (e:wpOp P ops Q j (fun c w'=>S w'∧wpAnyH P md ops Q S fuel (l.setIfInBounds j aN) c w') a w):wpAnyH P md ops Q S (fuel+1) l a w :=
 wpAnyH_all f D (fun q d=>by
  rcases List.mem_cons.1 d with rfl | d
  ·exact h
  ·obtain rfl:=List.mem_singleton.1 d;exact e)
theorem kM (hi:ops[i]?=U oi) (g:oi.dst=d) (hw:Region.wanted oi (yielded ops a.tmps)=aN) (j:l.setIfInBounds i aN=l') (k:(execOp a.eval oi).run P w=.ok (.value v) w') (f:S w') (h:wpAnyH P md ops Q S fuel l' (a.put d v) w') :
  wpOp P ops Q i (fun c w'=>S w'∧wpAnyH P md ops Q S fuel (l.setIfInBounds i aN) c w') a w:=by
 subst j;subst g;refine wpOp_step hi (fun o e=>?_);rw [if_pos hw];unfold Oper.wp;rw [k];exact e _ _ ⟨f,h⟩
theorem lI (hi:ops[i]?=U oi) (f:oi.dst=C) (hw:Region.wanted oi (yielded ops a.tmps)=aN) (g:l.setIfInBounds i aN=l') (j:(execOp a.eval oi).run P w=.ok .skip w') (e:S w') (h:wpAnyH P md ops Q S fuel l' a w') :
  wpOp P ops Q i (fun c w'=>S w'∧wpAnyH P md ops Q S fuel (l.setIfInBounds i aN) c w') a w:=by
 subst g;refine wpOp_step hi (fun k d=>?_);rw [if_pos hw];unfold Oper.wp;rw [j];refine d _ _ ⟨e,?_⟩;rw [f];exact h
theorem kZ {f:FuncId} {args:Array Value} {R:Value→World→Prop} (hi:ops[i]?=U oi) (k:oi.dst=d) (hw:Region.wanted oi (yielded ops a.tmps)=aN) (o:l.setIfInBounds i aN=l') (q:(execOp a.eval oi).run P w=.ok (.enter f args) w) (j:Calls P f args w fun e w'=>∃ v,e=aO v∧R v w')
  (h:∀ v w',R v w'→S w'∧wpAnyH P md ops Q S fuel l' (a.put d v) w'):wpOp P ops Q i (fun c w'=>S w'∧wpAnyH P md ops Q S fuel (l.setIfInBounds i aN) c w') a w:=by
 subst o;subst k;refine wpOp_step hi (fun r g=>?_);rw [if_pos hw];unfold Oper.wp;rw [q];refine j.mono ?_;rintro e w' ⟨v,rfl,p⟩;exact g _ _ (h v w' p)
end
theorem E5 {b:Nat} (T:TypeId) (a:TypeDesc) (cs:List Value) (x:Operand) (h:o.op=.load T x) (g:ρ x=.pointer (U ⟨b,0,C⟩)) (d:CF w b cs) (hu:prog.underlying T=U a) (e:a.isRow=aN) (hi:(prog.info? T).map (·.size)=U cs.length):(execOp ρ o).run prog w=.ok (.value (.agg cs.toArray)) w:=by
 have f:w.rangeAt b 0 cs:=fun j v c=>by
  rw [ny,(d j (List.getElem?_eq_some_iff.1 c).1).1];exact c
 unfold execOp;simp only [h,g,Instr.loadAt,Instr.sureAddr,Sem.run_bind,Sem.run_pure,Result.andThen_ok,run_loadVar_mid w b 0 T cs a f hu e hi]
theorem lM {p:Nat} (T:TypeId) (old vs:List Value) (x y:Operand) (h:o.op=.store T x y) (j:ρ x=.pointer (U ⟨p,0,C⟩)) (k:ρ y=.agg vs.toArray) (e:CF w p old) (f:old.length=vs.length) (hi:(prog.info? T).map (·.size)=U vs.length) (c:∀ v∈vs,v.oneCell'=aN) :
  (execOp ρ o).run prog w=.ok .skip (w.setCells p 0 vs):=by
 have g:w.there p 0 vs.toArray.size:=fun i hi=>by
  have a:i<old.length:=by rw [f];simpa using hi
  obtain ⟨c,d⟩:=e i a;exact ⟨by rw [ny,c,nH a];rfl,by rw [ny];exact d⟩
 have a:(prog.info? T).map (·.size)=U vs.toArray.size:=by rw [hi];simp
 unfold execOp;rw [h];simp only [j,k,Instr.storeAt,Instr.sureAddr,Sem.run_bind,Sem.run_pure,Result.andThen_ok,run_storeVar_mid w p 0 T vs.toArray g a (all_oneCell_toArray c)]
theorem lW {f:FuncId} (x:Operand) (ts:Array TypeId) (h:o.op=.call { callee:=.value (.func f),args:=#[x],argTypes:=ts }) (hx:ρ x=v1) (hf:ρ (.func f)=.func (.func f) #[] #[]) (he:∀ (v1:Value) (w:World),Sem.run prog (callFunc f #[v1]) w=.ok (.enter f #[v1]) w):(execOp ρ o).run prog w=.ok (.enter f #[v1]) w:=by
 unfold execOp;rw [h];simp [go_sem,hx,hf,he]
theorem lT {f:FuncId} {v2:Value} (x y:Operand) (ts:Array TypeId) (h:o.op=.call { callee:=.value (.func f),args:=#[x,y],argTypes:=ts }) (hx:ρ x=v1) (hy:ρ y=v2) (hf:ρ (.func f)=.func (.func f) #[] #[]) (he:∀ (v1 v2:Value) (w:World),Sem.run prog (callFunc f #[v1,v2]) w=.ok (.enter f #[v1,v2]) w):(execOp ρ o).run prog w=.ok (.enter f #[v1,v2]) w:=by
 unfold execOp;rw [h];simp [go_sem,hx,hy,hf,he]
theorem jZ {Q:Exit→Act→World→Prop} {S:World→Prop} {d:Option Nat} {l:Array Bool} {a:Act} (hi:ops[i]?=U oi) (hy:∀ w,S w→(execOp a.eval oi).run P w=.ok (.value v) w) (hS:S w) (h:wpAnyH P md ops Q S fuel l' (a.put d v) w)
  (hd:oi.dst=d:=by kernel_rfl) (hs:Region.noSelect ops=aN:=by kernel_rfl) (hf:Region.free md ops l i=aN:=by kernel_rfl) (hr:(Region.ready md ops l).contains i=aN:=by kernel_rfl)
  (hQ:∀ c a w,Q (.panic c) (a.put oi.dst v) w→Q (.panic c) a w:=by exact fun _ _ _ h=>h) (hw:Region.wanted oi (yielded ops a.tmps)=aN:=by kernel_rfl) (hl:l.setIfInBounds i aN=l':=by kernel_rfl):wpAnyH P md ops Q S (fuel+1) l a w:=by
 subst hl;subst hd;exact wpAnyH_take hi hs hf hr hQ (Or.inl ⟨hw,hy⟩) hS h
theorem rC {Q:Exit→Act→World→Prop} {S:World→Prop} {d:Option Nat} {l:Array Bool} {a:Act} (hi:ops[i]?=U oi) (hS:S w) (h:wpAnyH P md ops Q S fuel l' (a.put d undef) w)
  (hd:oi.dst=d:=by kernel_rfl) (hs:Region.noSelect ops=aN:=by kernel_rfl) (hf:Region.free md ops l i=aN:=by kernel_rfl) (hr:(Region.ready md ops l).contains i=aN:=by kernel_rfl)
  (hQ:∀ c a w,Q (.panic c) (a.put oi.dst undef) w→Q (.panic c) a w:=by exact fun _ _ _ h=>h) (hw:Region.wanted oi (yielded ops a.tmps)=false:=by kernel_rfl) (hl:l.setIfInBounds i aN=l':=by kernel_rfl):wpAnyH P md ops Q S (fuel+1) l a w:=by
 subst hl;subst hd;exact wpAnyH_take hi hs hf hr hQ (Or.inr ⟨hw,rfl⟩) hS h
end
def qM (n:Nat) (k:Int):Bool:=decide (n≤2000) && (decide (0≤k) && decide (k<n))
theorem DU {k:Int} (h:qM n k=aN):n≤2000∧0≤k∧k<n:=by
 simpa [qM] using h
theorem Uj {w':World} {x v':Value} (s y:Operand) (t tx ty:TypeId) (ho:o.op=.call { callee:=.builtin .append,args:=#[s,y],argTypes:=#[t,tx] }) (hv:ρ s=v) (hx:ρ y=x) (hty:o.type=ty) (hr:(Builtin.append_ #[t,tx] ty #[v,x]).run prog w=.ok v' w'):(execOp ρ o).run prog w=.ok (.value v') w':=by
 unfold execOp;simp [ho,resolve,invoke,builtin,hv,hx,hty,hr,Result.andThen]
theorem VO {f:Value} {c a d:Option Value} (T:TypeId) (x:Operand) (lo hi e:Option Operand) (hu:prog.underlying T=U (.slice (prog.elem T))) (h:o.op=.slice T x lo hi e) (k:ρ x=f) (i:lo.map ρ=c) (g:hi.map ρ=a) (hm:e.map ρ=d) (j:(Instr.slice T f c a d).run prog w=.ok v w):(execOp ρ o).run prog w=.ok (.value v) w:=by
 subst k;subst i;subst g;subst hm;unfold execOp;simp only [h,Sem.run_bind,run_sliceAt_slice w T _ _ _ _ hu,j,Result.andThen_ok,Sem.run_pure]
theorem ZX (x:Operand) (h:o.op=.assign x) (a:ρ x=v):(execOp ρ o).run prog w=.ok (.value v) w:=by
 unfold execOp;rw [h];simp [go_sem,a]
def Gi (P:List Pc) (k:Int):List Pc:=if qM P.length k=aN then (if P.length<2000 then P ++ [pc P k.toNat] else P) else P
def Ip (e:Ending) (B:Nat) (w':World) (P:List Pc):Prop:=∃ v,e=aO v∧Own B w' 3 v P.length (oN P)
def Fh (P:List Pc) (k:Int):List Pc:=if qM P.length k=aN then P.take k.toNat ++ P.drop (k.toNat+1) else P
theorem EF (a:Option Addr) (b o n c:Nat) (P:List Pc) (w:World) (h:rE w a b o n P) (u:n≤1048576) :
  Calls prog 91 #[K a n c] w fun e w'=>Ip e w.heap.size w' P∧Below w.heap.size w w':=by
 obtain ⟨i0,hi,p,q,r⟩:=info_parts Tryz.infoPc;have j:=h.len;have d:Below w.heap.size w (w.alloc (aH #[] 133)):=kQ;have g:Own w.heap.size (w.alloc (aH #[] 133)) 3 (K (U ⟨w.heap.size,0,C⟩) 0 0) 0 [] :=
  .inr ⟨_,0,0,rfl,kW.made w w.heap.size 133 3 0 0 _ 0 kL kL G rfl kL _ rfl _ (.inl rfl)⟩
 have l:=(h.below' d).src 73 133 underlying73 c;have k:=g.ku;go_enter func91,ntmps91
 go_wp2_with (refine kT _ rfl _ _ 73 73 rfl w.heap.size 133 i0 _ 3 40 underlying73 hi p q r rfl (K (U ⟨w.heap.size,0,C⟩) 0 0) 0 [] rfl g (K a n c) n (oN P) rfl l G A D ?_;intro z H f i v)
 rw [ny,oG] at f;go_ret;exact ⟨⟨_,rfl,by rw [j];exact f⟩,d.grown i D k⟩
theorem Vr {k:Int} (h:n≤2000∧0≤k∧k<n):qM n k=aN:=by simp [qM,h.1,h.2.1,h.2.2]
theorem Hq {k:Int} (h:¬ (n≤2000∧0≤k∧k<n)):qM n k=false:=by
 cases a:qM n k with
 | true=>exact absurd (DU a) h
 | false=>rfl
theorem Dz (a:Option Addr) (n c:Nat) (k:Int) (i:n≤1048576) :
  Calls prog 83 #[K a n c,I Y k] w fun e w'=>e=aO (.bool (qM n k))∧w'=w:=by
 have j:(n:Int)≤1048576:=A;by_cases h:(n:Int)≤2000
 ·by_cases f:0≤k
  ·by_cases g:k<(n:Int)
   ·have d:=hid (Vr ⟨A,f,g⟩)
    go_enter func83,ntmps83
    go_wp2;go_ret;exact ⟨by rw [d.out];rfl,rfl⟩
   ·have d:=hid (Hq (n:=n) (k:=k) A)
    go_enter func83,ntmps83
    go_wp2;go_ret;exact ⟨by rw [d.out];rfl,rfl⟩
  ·have d:=hid (Hq (n:=n) (k:=k) A)
   go_enter func83,ntmps83
   go_wp2;go_ret;exact ⟨by rw [d.out];rfl,rfl⟩
 ·have d:=hid (Hq (n:=n) (k:=k) A)
  go_enter func83,ntmps83
  go_wp2;go_ret;exact ⟨by rw [d.out];rfl,rfl⟩
theorem PG (a:Option Addr) (b o n c:Nat) (P:List Pc) (k:Int) (h:rE w a b o n P) (X:n≤1048576) :
  Calls prog 78 #[K a n c,I Y k] w fun e w'=>Ip e w.heap.size w' (Gi P k)∧Below w.heap.size w w':=by
 obtain ⟨i0,hi,M,N,Q⟩:=info_parts Tryz.infoPc;have f:=h.len;have aq:(n:Int)≤1048576:=A;go_enter func78,ntmps78
 go_wp2_with fail
 refine (EF a b o n c P w h X).mono ?_;rintro e d ⟨⟨v,rfl,p⟩,r⟩;rw [f] at p;obtain ⟨a1,c1,rfl⟩:=p.slc;go_wp2_with fail
 refine (Dz a n c k X).mono ?_;rintro e w2 ⟨rfl,ab⟩;rw [ab];clear ab;cases q:qM n k with
 | false =>
  have H:Ip (aO (K a1 n c1)) w.heap.size d (Gi P k):=⟨_,rfl,by unfold Gi;rw [f,q,if_neg D,f];exact p⟩
  clear q p f hi M N Q h;go_wp2;go_ret;exact ⟨H,r⟩
 | true =>
  by_cases R:n<2000
  ·obtain ⟨_,h2,h3⟩:=DU q
   obtain ⟨j,rfl⟩:∃ j:Nat,k=j:=⟨k.toNat,A⟩
   have J:j<n:=A;obtain rfl:=h.ad A;have z:=h.below' r;have T:=z.c0 j J;have V:=z.c1 j J;have W:=z.c2 j J;obtain ⟨⟨g,i,l⟩,L⟩:∃ x,x=pc P j:=⟨_,rfl⟩
   rw [← L] at T V W;dsimp only at T V W;have an:(j:Int)<(n:Int):=A;have ae:(n:Int)<2000:=A;have ai:Own w.heap.size (d.alloc (aH #[I Y g,E i,E l] 133)) 3 (K a1 n c1) n (oN P):=p.alloc _;have al:Src prog 3 73 (K (U ⟨d.heap.size,0,C⟩) 1 1) 1 (oN [(g,i,l)]) (d.alloc (aH #[I Y g,E i,E l] 133)):=by
    have af:CF (d.alloc (aH #[I Y g,E i,E l] 133)) d.heap.size [I Y g,E i,E l]:=CF.made d _ _;refine Src.ofSlice _ underlying73 ⟨d.heap.size,0,C⟩ 1 1 _ rfl (fun j u hu=>?_) (PY);rw [Addr.add_lit,ny];exact (af j (by have:=(List.getElem?_eq_some_iff.1 hu).1;simpa [oN,Ku] using this)).1.trans hu
   have S:Below w.heap.size w (d.alloc (aH #[I Y g,E i,E l] 133)):=r.alloc r.size _;have aa:w.heap.size≤(d.alloc (aH #[I Y g,E i,E l] 133)).heap.size:=S.size;have ak:=p.ku;have HE:Hid (Gi P (j:Int)=P ++ [(g,i,l)]):=by
    show Gi P (j:Int)=_;unfold Gi;rw [f,q,if_pos rfl,if_pos R,IE,← L]
   clear q L h z;go_wp2_with (refine kT _ rfl _ _ 73 73 rfl w.heap.size 133 i0 _ 3 40 underlying73 hi M N Q rfl (K a1 n c1) n (oN P) rfl ai (K (U ⟨d.heap.size,0,C⟩) 1 1) 1 (oN [(g,i,l)]) rfl al G A aa ?_;intro v' w3 ah ag au)
   go_ret;refine ⟨⟨_,rfl,?_⟩,S.grown ag aa ak⟩;rw [HE.out,lD,f,JL];exact ah
  ·have ae:¬ (n:Int)<2000:=by omega
   have H:Ip (aO (K a1 n c1)) w.heap.size d (Gi P k):=⟨_,rfl,by unfold Gi;rw [f,q,if_pos rfl,if_neg R,f];exact p⟩
   clear q p f hi M N Q h;go_wp2;go_ret;exact ⟨H,r⟩
theorem ZY (x y:Operand) (c m:Int) (h:o.op=.binOp .add 3 x y 3) (a:ρ x=I Y c) (d:ρ y=I Y m) (e : -1099511627776≤c+m) (f:c+m≤1099511627776) :
  (execOp ρ o).run prog w=.ok (.value (I Y (c+m))) w:=by
 unfold execOp;rw [h];have hw:IntKind.i64.wrap (c+m)=c+m:=bF;simp [go_sem,a,d,hw]
theorem ZV (h:o.op=.buildSlice 73 0 #[]):(execOp ρ o).run prog w=.ok (.value (K (U ⟨w.heap.size,0,C⟩) 0 0)) (w.alloc (aH #[] 133)):=by
 unfold execOp;rw [h];simp [go_sem]
theorem KI (a:Option Addr) (b o n c:Nat) (P:List Pc) (k:Int) (h:rE w a b o n P) (V:n≤1048576) (a8:n≤c) :
  Calls prog 79 #[K a n c,I Y k] w fun e w'=>Ip e w.heap.size w' (Fh P k)∧Below w.heap.size w w':=by
 obtain ⟨i0,hi,ae,L,af⟩:=info_parts Tryz.infoPc;have H:=h.len;have a7:(n:Int)≤1048576:=A;cases f:qM n k with
 | false =>
  have N:=hid f;have HL:Hid (Fh P k=P):=by
   show Fh P k=P;unfold Fh;rw [H,f,if_neg D]
  clear f;go_enter func79,ntmps79
  go_wp2_with fail
  refine (Dz a n c k V).mono ?_;rintro e M ⟨rfl,al⟩;rw [al,N.out];clear al;go_wp2_with fail
  refine (EF a b o n c P w h V).mono ?_;rintro e r ⟨⟨v,rfl,au⟩,g⟩;go_wp2;go_ret;exact ⟨⟨_,rfl,by rw [HL.out];exact au⟩,g⟩
 | true =>
  obtain ⟨h1,h2,h3⟩:=DU f;obtain ⟨j,rfl⟩:∃ j:Nat,k=j:=⟨k.toNat,A⟩
  have hj:j<n:=A;obtain rfl:=h.ad A;obtain ⟨z, Q⟩ := kC (w.drew.alloc (aH #[] 133));have q:Below w.heap.size w z:=by rw [Q];exact mD.drew.alloc kL _
  have W:Own w.heap.size z 3 (K (U ⟨w.heap.size,0,C⟩) 0 0) 0 []:=by
   rw [Q];exact .inr ⟨_,0,0,rfl,kW.made w.drew w.heap.size 133 3 0 0 _ 0 kL kL G rfl kL _ rfl _ (.inl rfl)⟩
  have X:=(h.below' q).Pz 73 133 underlying73 0 j c A;rw [RH,Nat.add_zero,Oe] at X;obtain ⟨v1,r,av,J,ag,_⟩:=l7 (P:=prog) z w.heap.size 73 73 73 133 i0 _ 3 40 underlying73 hi ae L af rfl _ 0 _ W _ j _ X G A q.size;rw [ny,oG] at J;have g:=q.grown ag q.size W.ku;obtain ⟨l,R⟩:∃ l:Addr,l=(if c=j+1 then (⟨b,o,C⟩:Addr) else ⟨b,o+(j+1)*3,C⟩):=⟨_,rfl⟩
  have ak:Src prog 3 73 (K (U l) (n - (j+1)) (c - (j+1))) (n - (j+1)) (oN (P.drop (j+1))) r:=by
   by_cases e:c=j+1
   ·rw [show n - (j+1)=0 by omega,show P.drop (j+1)=[] from LM A]
    exact Src.ofSlice r underlying73 l 0 _ [] rfl (fun j u hu=>by simp at hu) D
   ·have:=(h.below' g).Pz 73 133 underlying73 (j+1) (n - (j+1)) (c - (j+1)) A
    rw [R,if_neg e];rwa [pF (by rw [Jy];omega)] at this
  obtain ⟨v2,M,aw,ai,ah,_⟩:=l7 (P:=prog) r w.heap.size 73 73 73 133 i0 _ 3 40 underlying73 hi ae L af rfl _ j _ J _ (n - (j+1)) _ ak G A g.size;have aq:=g.grown ah g.size J.ku;have HR:Ip (aO v2) w.heap.size M (Fh P (j:Int)):=by
   refine ⟨_,rfl,?_⟩;unfold Fh;rw [H,f,if_pos rfl,IE,lD,qI,Jy,H,JL,show min j n=j by omega];exact ai
  have T:prog.elem 73=133:=Z;have ab:∀ w:World,(sizeOf 133).run prog w=.ok 3 w:=fun w=>by simp [sizeOf,typeInfo,hi,L]
  have ax:∀ w:World,(Instr.slice 73 (K (U ⟨b,o,C⟩) n c) C (U (I Y j)) C).run prog w=.ok (K (U ⟨b,o,C⟩) j c) w:=fun w=>by
   rw [run_slice_h w 73 _ n c underlying73 .i64 j A A,T,ab];simp [sliced,Addr.add_lit]
  have ay:∀ w:World,(Instr.slice 73 (K (U ⟨b,o,C⟩) n c) (U (I Y ((j:Int)+1))) C C).run prog w=.ok (K (U l) (n - (j+1)) (c - (j+1))) w:=fun w=>by
   rw [run_slice_l w 73 _ n c underlying73 .i64 (j+1) A A,T,ab];rw [Result.andThen_ok,show ((j:Int)+1).toNat=j+1 by omega,R,sliced];by_cases e:c=j+1
   ·rw [if_pos e,if_pos e]
   ·rw [if_neg e,if_neg e];simp [Addr.add_lit]
  have N:=hid f;have a6:(j:Int)≤2000:=A;clear f h H hi ae L af R X ak W J ai ag ah T ab g q;go_enter func79,ntmps79
  go_wp2_with fail
  refine (Dz _ n c j V).mono ?_;rintro e w9 ⟨rfl,an⟩;rw [an,N.out];clear an;go_upto_region 3 with fail
  refine wp_region_held (S:=fun _=>True) Z ?_;change wpAnyH _ _ _ _ _ _ _ _ (World.drew _);refine jZ (i:=1) (d:=U 12) (v:=K (U ⟨b,o,C⟩) n c) (l':=(bt 11 2)) rfl (fun _ p=>Z) trivial ?_;refine jZ (i:=2) (d:=U 13) (v:=I Y j) (l':=(bt 11 6)) rfl (fun _ p=>Z) trivial ?_;refine jZ (i:=3) (d:=U 14) (v:=K (U ⟨b,o,C⟩) j c) (l':=(bt 11 14)) rfl (fun _ p=>VO 73 (F 12) C (U (F 13)) C Z Z Z Z Z Z (ax _)) trivial ?_;refine jZ (i:=5) (d:=U 16) (v:=K (U ⟨b,o,C⟩) n c) (l':=(bt 11 46)) rfl (fun _ p=>Z) trivial ?_;refine jZ (i:=6) (d:=U 17) (v:=I Y j) (l':=(bt 11 110)) rfl (fun _ p=>Z) trivial ?_;refine jZ (i:=7) (d:=U 18) (v:=I Y ((j:Int)+1)) (l':=(bt 11 238)) rfl (fun _ p=>ZY (F 17) (.const (I Y 1)) j 1 Z Z Z A A) trivial ?_;refine jZ (i:=8) (d:=U 19) (v:=K (U l) (n - (j+1)) (c - (j+1))) (l':=(bt 11 494)) rfl (fun _ p=>VO 73 (F 16) (U (F 18)) C C Z Z Z Z Z Z (ay _)) trivial ?_;refine kF (i:=0) Z ?_;refine kM (i:=0) (d:=U 11) (v:=K (U ⟨w.heap.size,0,C⟩) 0 0) (w':=z) (l':=(bt 11 495)) rfl Z Z Z (by rw [Q];exact ZV Z) trivial ?_;refine kF (i:=4) Z ?_;refine kM (i:=4) (d:=U 15) (v:=v1) (w':=r) (l':=(bt 11 511)) rfl Z Z Z (Uj (F 11) (F 14) 73 73 73 Z Z Z Z av) trivial ?_;refine kF (i:=9) Z ?_;refine kM (i:=9) (d:=U 20) (v:=v2) (w':=M) (l':=(bt 11 1023)) rfl Z Z Z (Uj (F 15) (F 19) 73 73 73 Z Z Z Z aw) trivial ?_;refine kF (i:=10) Z ?_;refine kM (i:=10) (d:=U 4) (v:=v2) (w':=M) (l':=(bt 11 2047)) rfl Z Z Z (ZX (F 20) Z Z) trivial ?_;refine wpAnyH_done Z ?_ _;go_simp;go_wp2;go_ret;exact ⟨HR,aq⟩
end Go.Proofs.YtfkkipgcfoegmaaGreat
