
import Derived.Test.YtfkkipgcfoegmaaGreatQL7b
import Derived.Test.YtfkkipgcfoegmaaGreatQBks
set_option maxHeartbeats 8000000
set_option maxRecDepth 100000
namespace Go.Proofs.YtfkkipgcfoegmaaGreat
open Go.Proofs.Tryz
open Go.Value renaming slice→K,string→E,bool→aF,pointer→aG,agg→aI
open Option renaming none→C,some→U
open Go.Operand renaming tmp→F
open Go.Obj renaming cells→aH
open Bool renaming false→aK,true→aN
open Go.Ending renaming returned→aO
open Go.Value renaming int→I
open Go.IntKind renaming i64→Y
open Go.RowKit
variable {P:Program} {Q fuel g i j n nW pc ng z:Nat} {W W' w w' w1 wx:World} {bh:BH} {d:BD} {e f l t z0:Int} {key s x z1 z2:ByteArray} {l':Array Bool} {md:Region.Mode} {o oi op:Oper} {ops:Array Oper} {pa:Option Addr} {rest:List Oper} {ss:List ByteArray} {ts:List kJ} {us vs:List Value} {v vF:Value} {ρ:Operand→Value}
theorem BD.okT (h:d.ok ts):d.L1.length+d.L2.length+d.R.length+d.J.length+d.S.length+d.O.length≤2400:=by
 have k:=h.1.2;rw [lD] at k;cases hu:d.up with
 | true =>
  have a:=BD.Xh h hu;have:=a.r;have:=a.j;have:=a.t.2.1;have:=a.s;have:=a.o;omega
 | false =>
  have e:=BD.dn h hu;have c:d.R=[]:=by rw [e]
  have f:d.J=[]:=by rw [e]
  have g:d.S=[]:=by rw [e]
  have i:d.O=[]:=by rw [e]
  rw [c,f,g,i];simp;omega
theorem rM.tiny:BD.tiny Go.Proofs.YtfkkipgcfoegmaaGreat.rM:=by simp [BD.tiny,Go.Proofs.YtfkkipgcfoegmaaGreat.rM]
theorem KF.tiny {r:BD × List lQ} (h:KF d ts r):r.1.tiny:=by
 rcases h with ⟨a,rfl⟩ | ⟨_,rfl⟩
 ·have e:=BD.okT a
  unfold BD.tiny JA;have hlen:=QE d.ep (d.now+1) d.R ts ⟨d.gv,d.J.map (nJ (d.now+1)),d.S,[]⟩ ts.length;split
  ·dsimp only;omega
  ·split
   ·dsimp only;omega
   ·obtain ⟨st, c⟩ := kC (nY d.ep (d.now+1) d.R ts ⟨d.gv,d.J.map (nJ (d.now+1)),d.S,[]⟩ ts.length)
    rw [← c] at hlen ⊢;dsimp only [List.length_map] at hlen;rw [List.length_map] at hlen;split
    ·dsimp only;omega
    ·simp only [lD,qJ];omega
 ·exact rM.tiny
theorem BD.lean.tiny (h:d.lean):d.tiny:=by
 obtain ⟨_,a,c,e,f,g⟩:=h;unfold BD.tiny;omega
theorem KG.tiny {m:lQ} {r:BD × List lQ} (h:KG d ts m r) (i:d.fits):r.1.tiny:=by
 rcases h with ⟨f,rfl⟩ | ⟨_,rfl⟩
 ·have e:d.tiny:=by have:=BD.okT f;unfold BD.tiny;omega
  show (takeB d ts m).tiny;unfold takeB;split
  ·rename_i g
   obtain ⟨hu,hm,-,-⟩:=g;have a:=BD.Xh f hu;have q:=a.r;have p:=a.j;have k:=a.t.2.1;have u:=a.s;have c:d.lean:=⟨i,a.l,A,A,A,a.o⟩
   split
   ·exact (c.here hm).tiny
   ·split
    ·exact (c.aaZ a.now).tiny
    ·split
     ·unfold Fa
      split
      ·exact (((c.keep (ts:=ts) hm).freed hm).owe hm).tiny
      ·exact e
     ·exact e
  ·exact e
 ·exact rM.tiny
theorem OE {a:Int} {R:List ByteArray} (c:told d ts a R):(oI d a R ts.length).tiny:=by
 obtain ⟨_,e,_,_,f,_,_,g,_,h⟩:=c;unfold BD.tiny;simp only [oI,lD,pX,qJ,Dh];omega
theorem CP.tiny {a:BD} (h:CP d ts a):a.tiny:=by
 rcases h with ⟨e,h⟩ | ⟨_,rfl⟩
 ·have c:d.tiny:=by have:=BD.okT e;unfold BD.tiny;omega
  rcases h with ⟨_,rfl⟩ | ⟨_,g,R,f,h⟩
  ·exact c
  ·rcases h with ⟨_,rfl⟩ | ⟨_,rfl⟩
   ·exact c
   ·exact OE f
 ·exact rM.tiny
theorem Jg.tiny {e:Int} {a:BD} (h:Jg d ts e a):a.tiny:=by
 rcases h with ⟨c,rfl⟩ | ⟨_,rfl⟩
 ·have:=BD.okT c
  unfold BD.tiny;simp only [qR,lD,qI,qJ];omega
 ·exact rM.tiny

def Res (s key:ByteArray) (k f t e l d:Int) (x:ByteArray) (ss:List ByteArray) (r:Bool):Prop :=
 (r=aN∧Good s key k f t e l d x ss)∨(r=aK∧Iq s key∧k=0∧f=0∧t=0∧e=0∧l=0∧d=0∧x=⟨#[]⟩∧ss=[])
theorem Vj.view {g:Ending} (h:Vj g w w' s key):∃ (k f t e l d:Int) (x:ByteArray) (ss:List ByteArray) (a:Option Addr) (c:Nat) (r:Bool),
  g=aO (.tuple #[aI #[I Y k,I Y f,I Y t,I Y e,I Y l,I Y d,E x,K a ss.length c],aF r])∧Res s key k f t e l d x ss r∧Own w.heap.size w' 1 (K a ss.length c) ss.length (ss.map E):=by
 rcases h with ⟨rfl,o⟩ | ⟨k,f,t,e,l,d,x,ss,v,rfl,j,i⟩
 ·exact ⟨0,0,0,0,0,0,⟨#[]⟩,[],C,0,aK,rfl,.inr ⟨rfl,o,rfl,rfl,rfl,rfl,rfl,rfl,rfl,rfl⟩,Own.nil _ _ _⟩
 ·obtain ⟨a,c,rfl⟩:=i.slc
  exact ⟨k,f,t,e,l,d,x,ss,a,c,aN,rfl,.inl ⟨rfl,j⟩,i⟩
theorem Res.ok {k d:Int} {r:Bool} (h:Res s key k f t e l d x ss r):r=aN ↔ ¬ Iq s key:=by
 rcases h with ⟨rfl,a⟩ | ⟨rfl,g,_⟩
 ·exact ⟨fun _ c=>c ⟨_,_,_,_,_,_,_,_,a⟩,fun _=>rfl⟩
 ·exact ⟨fun h=>(by cases h),fun h=>absurd g h⟩
def FgP (c a key:ByteArray):Prop:=¬ a=c∧¬ Iq a key
theorem sne {r:ByteArray} (h:¬ r=s):(r.toList == s.toList)=aK:=beq_false_of_ne (fun a=>h (ba_eq (by rw [← Di,← Di];exact a)))
theorem PD (H:Int) (c a key:ByteArray) (L:key.size≤maxLen) (hm:a.size≤1048576) :
  Calls prog 84 #[aI #[I Y H,E c,E a],E key] w fun e w'=>kG e (FgP c a key)∧Below w.heap.size w w':=by
 by_cases h:a=c
 ·subst h
  go_enter func84,ntmps84
  go_wp2;go_ret;exact ⟨kG.f (fun q=>q.1 rfl),kQ⟩
 ·have J:=sne h
  have p:Below w.heap.size w (w.alloc (aH #[I Y H,E c,E a] 133)):=kQ;go_enter func84,ntmps84
  go_wp2_with fail
  refine (KH a key L hm).mono ?_;rintro N w1 ⟨z,u⟩;obtain ⟨k,f,t,e,l,d,x,ss,a1,c1,r,rfl,v,M⟩:=z.view;have g:=hid v.ok;have i:=hid h;have o:=p.trans (u.mono p.size);have s:=o.alloc o.size (aH #[I Y k,I Y f,I Y t,I Y e,I Y l,I Y d,E x,K a1 ss.length c1] 136);clear z v M h J u p o;cases r with
  | true =>
   have j:FgP c a key:=⟨i.out,g.out.1 rfl⟩
   clear g i;go_wp2;go_ret;exact ⟨kG.t j,s⟩
  | false =>
   have j:¬ FgP c a key:=fun q=>absurd (g.out.2 q.2) D;clear g i;go_wp2;go_ret;exact ⟨kG.f j,s⟩
theorem adK (d:BD) (h:BH) (v:Value) (w:World):(Instr.field 141 (aI (bvs d h ++ [v]).toArray) 0).run prog w=.ok (aI (bvs d h).toArray) w:=Z
theorem Vq {a:Act} {Q:Exit→Act→World→Prop} (g:op.guard=C) (x:Operand) (i:op.op=.field 141 x 0) (d:BD) (h:BH) (v:Value) (j:a.eval x=aI (bvs d h ++ [v]).toArray) (c:wpList prog ops Q rest (a.put op.dst (aI (bvs d h).toArray)) w):wpList prog ops Q (op :: rest) a w:=by
 refine wpList_plain g fun k f=>?_;have e:(execOp a.eval op).run prog w=.ok (.value (aI (bvs d h).toArray)) w:=by
  unfold execOp;rw [i];dsimp only;rw [j];simp only [Sem.run_bind,adK,Result.andThen_ok,Sem.run_pure]
 unfold Oper.wp;rw [e];exact f _ _ c
theorem aeo {a:Act} {Q:Exit→Act→World→Prop} (f:Region.wanted op (yielded ops a.tmps)=aN) (e:(execOp a.eval op).run prog w=.ok (.value v) w) (c:wpList prog ops Q rest (a.put op.dst v) w):wpList prog ops Q (op :: rest) a w:=by
 refine wpList_step fun g d=>?_;rw [if_pos f];unfold Oper.wp;rw [e];exact d _ _ c
theorem Hy {p:Addr} (x:Operand) (h:o.op=.load 9 x) (c:ρ x=aG (U p)) (a:w.cell? p=U v):(execOp ρ o).run prog w=.ok (.value v) w:=by
 unfold execOp;rw [h];simp [go_sem,c,a]
theorem adz {k d:Int} (h:vM k f t e l d z ss):∀ s∈ss,s.size≤maxLen:=by
 have g:ss.length=0→∀ s∈ss,s.size≤maxLen:=fun h s a=>by rw [List.length_eq_zero_iff.1 h] at a;cases a
 unfold vM at h;rcases h with ⟨_,h⟩ | ⟨_,h⟩ | ⟨_,h⟩ | ⟨_,h⟩ | ⟨_,h⟩
 ·intro s a
  obtain ⟨j,c,rfl⟩:=List.mem_iff_getElem.1 a;have:=h.2.2.2.2.2.2.2.2.2.2.2 j c;rw [FC,nH c] at this;have e:ss[j].size=8:=this;unfold maxLen;omega
 all_goals exact g A
theorem acw {k d:Int} (h:vM k f t e l d z ss):ss.length≤8:=by
 unfold vM at h;rcases h with ⟨_,h⟩ | ⟨_,h⟩ | ⟨_,h⟩ | ⟨_,h⟩ | ⟨_,h⟩
 ·exact h.2.2.2.2.2.2.2.2.2.2.1
 all_goals omega
theorem abz (k:pU) (a:Option Addr) (b o c:Nat) (pa:Option Addr) (s u j pc:Nat) (ts:List kJ) (k' f t e l dd:Int) (x:ByteArray) (i:Option Addr) (q r mc:Nat) (ms:List ByteArray) (w:World) (h:kS w a b o k.ss.length k.ss) (H:lN w pa s u j ts) (hm:kS w i q r ms.length ms) (z:k.ss.length≤1048576) (v:ms.length≤1048576) :
  Calls prog 87 #[aI (lZ k (K a k.ss.length c)).toArray,aI #[K pa j pc],aI #[I Y k',I Y f,I Y t,I Y e,I Y l,I Y dd,E x,K i ms.length mc]] w fun e w'=>Yg e w.heap.size w'∧Below w.heap.size w w' :=
 (abK k.d a b o c pa s u j pc ts k' f t e l dd x i q r mc ms w h H hm z v).mono fun _ _ p=>⟨YF p.1 (fun _ g=>g.1) (fun _ m g=>g.2 m rfl),p.2⟩
theorem aaL (v1 v2 v3:Value) (w:World):Sem.run prog (callFunc 87 #[v1,v2,v3]) w=.ok (.enter 87 #[v1,v2,v3]) w:=Z
theorem JF {f:FuncId} {v1 v2 v3:Value} (x y z:Operand) (ts:Array TypeId) (h:o.op=.call { callee:=.value (.func f),args:=#[x,y,z],argTypes:=ts }) (hx:ρ x=v1) (hy:ρ y=v2) (hz:ρ z=v3) (hf:ρ (.func f)=.func (.func f) #[] #[]) (he:∀ (v1 v2 v3:Value) (w:World),Sem.run prog (callFunc f #[v1,v2,v3]) w=.ok (.enter f #[v1,v2,v3]) w):(execOp ρ o).run prog w=.ok (.enter f #[v1,v2,v3]) w:=by
 unfold execOp;rw [h];simp [go_sem,hx,hy,hz,hf,he]
theorem PL {q:Nat} (k:pU) (a:Option Addr) (un c:Nat) (x y:Operand) (h:o.op=.store 127 x y) (e:ρ x=aG (U ⟨g,q,C⟩)) (f:ρ y=aI (lZ k (K a un c)).toArray) (d:w.there g q 11):(execOp ρ o).run prog w=.ok .skip (w.setCells g q (lZ k (K a un c))):=by
 unfold execOp;rw [h];simp only [e,f,Instr.storeAt,Instr.sureAddr,Sem.run_bind,Sem.run_pure,Result.andThen_ok,run_storeVar_mid w g q 127 (lZ k (K a un c)).toArray d Tryz.sizeWk (all_oneCell_toArray (LP k a un c))]
structure BS (w:World) (B:Nat→Prop) (Q S:Nat) (z0:Int) (z1 z2:ByteArray) (d:nI) (h:oO) (W:World):Prop where
 x:XS w B Q [kX] d h W
 c:CF W S [I Y z0,E z1,E z2]
 p:Q+1<S∧S<W.heap.size
 n:¬ WB d h S
theorem BS.below {B:Nat→Prop} {S:Nat} {d:nI} {h:oO} (b:BS w B Q S z0 z1 z2 d h W) (a:Below W.heap.size W W'):BS w B Q S z0 z1 z2 d h W' :=
 ⟨b.x.below a,b.c.block (a.block _ b.p.2),⟨b.p.1,lu b.p.2 a.size⟩,b.n⟩
theorem BS.put {B:Nat→Prop} {S:Nat} {d d':nI} {h a:oO} (b:BS w B Q S z0 z1 z2 d h W) (i:XS w B Q [kX] d' a W') (f:W.grownBy W' (U Q)) (g:¬ WB d' a S):BS w B Q S z0 z1 z2 d' a W' :=
 ⟨i,b.c.block (f.block _ b.p.2 (fun e=>by injection e with e;have:=b.p.1;omega)),⟨b.p.1,lu b.p.2 f.size⟩,g⟩
theorem BS.row {B:Nat→Prop} {S o:Nat} {d:nI} (b:BS w B Q S z0 z1 z2 d ⟨K pa n pc,vs,bh,K (U ⟨g,o,C⟩) nW ng,us,vF⟩ wx):kW 0 wx 11 g o ng d.Ws.length (qV d.Ws us):=by
 have h:=b.x.s.cr.row;rcases h with ⟨c,_,_⟩ | ⟨j,k,cap,c,i⟩
 ·cases c
 ·injection c with a _ f
  injection a with a;injection a with a e _;subst a e f;exact i
theorem SC {Q:Exit→Act→World→Prop} {S:World→Prop} {l:Array Bool} {a:Act} {d:Option Nat} (g:Region.ready md ops l=[i]) (hi:ops[i]?=U oi) (e:oi.dst=d) (hw:Region.wanted oi (yielded ops a.tmps)=aN) (f:l.setIfInBounds i aN=l') (j:(execOp a.eval oi).run P w=.ok (.value v) w') (c:S w') (h:wpAnyH P md ops Q S fuel l' (a.put d v) w'):wpAnyH P md ops Q S (fuel+1) l a w:=kF g (kM hi e hw f j c h)
theorem qc {Q:Exit→Act→World→Prop} {S:World→Prop} {l:Array Bool} {a:Act} (f:Region.ready md ops l=[i]) (hi:ops[i]?=U oi) (d:oi.dst=C) (hw:Region.wanted oi (yielded ops a.tmps)=aN) (e:l.setIfInBounds i aN=l') (g:(execOp a.eval oi).run P w=.ok .skip w') (c:S w') (h:wpAnyH P md ops Q S fuel l' a w'):wpAnyH P md ops Q S (fuel+1) l a w:=kF f (lI hi d hw e g c h)
def RTk (wx:World) (v:Value) (w':World):Prop:=∃ (a:pU) (c:Option Addr) (d:Nat) (v2:Value),v=aI (lZ a (K c a.ss.length d) ++ [v2]).toArray∧Own wx.heap.size w' 1 (K c a.ss.length d) a.ss.length (a.ss.map E)∧EN a∧Below wx.heap.size wx w'
theorem BS.take {B:Nat→Prop} {S:Nat} {d:nI} {wa:Option Addr} {k' dd:Int} {c:Option Addr} {k o mc:Nat} {ms:List ByteArray} (b:BS w B Q S z0 z1 z2 d ⟨K pa n pc,vs,bh,K wa nW ng,us,vF⟩ wx) (M:d.ts.length=n) (a:j<d.Ws.length) (hm:kS wx c k o ms.length ms) (J:ms.length≤1048576) :
  Calls prog 87 #[aI (lZ (nD d.Ws j) (us.getD j kH)).toArray,aI #[K pa n pc],aI #[I Y k',I Y f,I Y t,I Y e,I Y l,I Y dd,E x,K c ms.length mc]] wx fun e w'=>∃ v,e=aO v∧RTk wx v w':=by
 obtain ⟨P,R,io,T,H,L⟩:=(b.x.s.cr.dep j a).Py (b.x.s.cr.ok j a).1;have q:=b.x.g.tz;have i:=b.x.s.pl;subst M;obtain ⟨W,X,r⟩:=i.tasks' b.x.g.ft G;rw [H];refine (abz (nD d.Ws j) P R io T pa W X d.ts.length pc d.ts k' f t e l dd x c k o mc ms wx L r hm (b.x.s.cr.ok j a).2 J).mono ?_;rintro e w' ⟨⟨V,u,v,N,ns,rfl,h,p,h3,h4,i,q,h7⟩,z⟩;obtain ⟨ua,uc,rfl⟩:=h.slc;exact ⟨_,rfl,V,ua,uc,v,rfl,h,p,z⟩
theorem IW (d:nI) (h:oO) (k:Int) (B:Nat→Prop) (s:qx w 0 d h) (g:Ah d) (hF:∀ q,B q→q<w.heap.size) (hN:∀ q,WB d h q→¬ B q) :
  Calls prog 61 #[aI (mg d h).toArray,I Y k] w fun e w'=>Vh e B w'∧Fr B w w':=by
 obtain ⟨W, hW⟩ := kC ((w.alloc (aH (mg d h).toArray 75)).alloc (aH kX.toArray 75));have x0:=XS.enter s g hF hN 75 75;rw [← hW] at x0;obtain ⟨pa,pb,po,N,df,hT⟩:=s.pl.tasks g.ft iG;obtain ⟨wa,ng,dg⟩:=s.cr.row.slc;obtain ⟨fa,fc,de⟩:=s.fl.slc;obtain ⟨vP,vs,bh,vW,us,vF⟩:=h;dsimp only at df dg de;subst df dg de;simp only [mg,bvs,kX,Eo,oG] at hW;have HW:=hid hW;clear hW hT hF hN;show Calls prog _ #[aI #[K pa d.ts.length N,E d.key,I Y d.bd.wk,aF d.bd.up,I Y d.bd.now,I Y d.bd.sn,I Y d.bd.ep,I Y d.bd.gv,K bh.a1 d.bd.L1.length bh.c1,K bh.a2 d.bd.L2.length bh.c2,K bh.ar d.bd.R.length bh.cr,K bh.aj d.bd.J.length bh.cj,K bh.az d.bd.S.length bh.cs,K bh.ao d.bd.O.length bh.co,K wa d.Ws.length ng,K fa d.Fl.length fc,E d.fg],I Y k] w _;go_enter func61,ntmps61
 go_upto_region 1 with fail
 rw [← HW.out];clear HW;have ai:=x0.q;have bw:=g.fx.1;have bp:W.cell? ⟨w.heap.size,15,C⟩=U (K fa d.Fl.length fc):=(x0.c 15 aU).1;go_wp2_with fail
 refine (Dz fa d.Fl.length fc k bw).mono ?_;rintro e w1 ⟨rfl,h1⟩;rw [h1];clear h1;cases hE:qM d.Fl.length k with
 | false =>
  clear bp;go_upto_region 2 with fail
  have R9:CF _ (w.heap.size+1) kX:=x0.l 0 _ rfl;go_wp2_with (first | (refine kY rfl 75 (F 2) rfl w.heap.size _ rfl x0.c underlying75 rfl Tryz.sizeWo ?_) | (refine jY rfl 75 (F 4) (F 13) rfl (w.heap.size+1) kX _ rfl rfl R9 rfl Tryz.sizeWo (mW x0.s) ?_;intro bm ae af))
  exact bodyPost_ret (lK 75 4 results61 rfl ae underlying75 rfl Tryz.sizeWo) rfl (x0.fin af D)
 | true =>
  obtain ⟨-,dr,ds⟩:=DU hE;obtain ⟨kk,rfl⟩:∃ kk:Nat,k=(kk:Int):=⟨k.toNat,A⟩
  have ay:kk<d.Fl.length:=A;clear hE dr ds;obtain ⟨fb,fo,an,-⟩:=x0.s.fl.PZ g.fx.ok;obtain rfl:=an.ad A;obtain ⟨z0, b9⟩ := kC ((pc d.Fl kk).1);obtain ⟨z1, dj⟩ := kC ((pc d.Fl kk).2.1);obtain ⟨z2, ca⟩ := kC ((pc d.Fl kk).2.2);have cc:=g.fx.2 _ (Ut ay);rw [← b9,← ca] at cc;have HZ:=hid cc;have q0:=an.c0 kk ay;have q1:=an.c1 kk ay;have q2:=an.c2 kk ay;rw [← b9] at q0;rw [← dj] at q1;rw [← ca] at q2;clear cc b9 dj ca;obtain ⟨W2, au⟩ := kC (W.alloc (aH #[I Y z0,E z1,E z2] 133));have bs:Below W.heap.size W W2:=by rw [au];exact kQ
  have S2:CF W2 W.heap.size [I Y z0,E z1,E z2]:=by rw [au];exact CF.made W #[I Y z0,E z1,E z2] _
  have e2:W2.heap.size=W.heap.size+1:=by rw [au];simp
  have b2:BS w B w.heap.size W.heap.size z0 z1 z2 d _ W2:=⟨x0.below bs,S2,⟨ai.2,A⟩,fun L=>by have:=x0.lt _ L;omega⟩
  have cm:=an.below' bs;have cg:=hid au;have cx:d.Fl.length≤fc:=by
   rcases x0.s.fl with ⟨h1,_,_⟩ | ⟨_,_,_,h1,hc⟩
   ·cases h1
   ·injection h1 with _ _ e;rw [e];exact hc.le
  have bb:=hid x0.lt;clear au bs S2;go_upto_region 4 with fail
  rw [← cg.out];clear cg q0 q1 q2 bp;have bp:W2.cell? ⟨w.heap.size,15,C⟩=U (K (U ⟨fb,fo,C⟩) d.Fl.length fc):=(b2.x.c 15 aU).1;go_wp2_with fail
  refine (KI _ fb fo d.Fl.length fc d.Fl (kk:Int) cm bw cx).mono ?_;rintro e w3 ⟨⟨v3,rfl,a7⟩,cq⟩;obtain ⟨a3,c3,rfl⟩:=a7.slc;obtain ⟨n3, bz⟩ := kC ((Fh d.Fl (kk:Int)).length);rw [← bz] at a7 ⊢;have cf:=hid bz;have b3:=b2.below cq;have dy:w3.cell? ⟨w.heap.size,15,C⟩=U (K (U ⟨fb,fo,C⟩) d.Fl.length fc):=(b3.x.c 15 aU).1;have f15:w3.frozen? ⟨w.heap.size,15,C⟩=aK:=(b3.x.c 15 aU).2;clear bz bp an cm cx cq;go_upto_region 5 with fail
  obtain ⟨w4, bl⟩ := kC (w3.setCell ⟨w.heap.size,15,C⟩ (K a3 n3 c3));rw [← bl];have g4:w3.grownBy w4 (U w.heap.size):=by rw [bl];exact lU (lJ _ _) 15 _
  have x4:XS w B w.heap.size [kX] { d with Fl:=Fh d.Fl (kk:Int) } ⟨K pa d.ts.length N,vs,bh,K wa d.Ws.length ng,us,K a3 n3 c3⟩ w4:=by
   rw [bl];exact b3.x.flight (z:=W2.heap.size) (fun q hq=>by have:=bb.out q hq;omega) (by simp at ai ⊢;omega) (by rw [← cf.out];exact a7) (g.fx.los _) (lU (lJ _ _) 15 _) (b3.x.c.set (j:=15) aU _)
  have b4:=b3.put x4 g4 (fun L=>by
   rcases L with (h6 | h6 | h6 | h6) | h6 | h6
   ·exact b3.n (.inl (.inl h6))
   ·exact b3.n (.inl (.inr (.inl h6)))
   ·exact b3.n (.inl (.inr (.inr (.inl h6))))
   ·have h7:=a7.ku _ h6;omega
   ·exact b3.n (.inr (.inl h6))
   ·exact b3.n (.inr (.inr h6)))
  obtain ⟨Sb, cp⟩ := kC W.heap.size;rw [← cp] at b4 ⊢;obtain ⟨dd,bg⟩:∃ x:nI,x={ d with Fl:=Fh d.Fl (kk:Int) }:=⟨_,rfl⟩
  have ht:dd.ts.length=d.ts.length:=by rw [bg]
  have hw:dd.Ws.length=d.Ws.length:=by rw [bg]
  rw [← bg] at b4;have bc:=hid ht;have al:=hid hw;have ky:dd.key.size≤1048576:=b4.x.g.ky;clear ht hw bg cp bl g4 x4 b3 b2 a7 cf dy f15 x0 bb ay bw ai e2 s g;go_cut [32] (fun c wx=>∃ b:Bool,c=aF b∧BS w B w.heap.size Sb z0 z1 z2 dd ⟨K pa d.ts.length N,vs,bh,K wa d.Ws.length ng,us,K a3 n3 c3⟩ wx)
  case first =>
   obtain ⟨s0,s1,s2⟩:=cf3 b4.c;have y1:w4.cell? ⟨w.heap.size,1,C⟩=U (E dd.key):=(b4.x.c 1 aU).1;go_wp2_with fail
   refine (PD z0 z1 z2 dd.key G HZ.out.2.2).mono ?_;rintro e w5 ⟨⟨r,rfl,-⟩,ct⟩;have P:=b4.below ct;have ba:=hid P;have dz:w5.cell? ⟨w.heap.size,16,C⟩=U (E dd.fg):=(P.x.c 16 aU).1;clear b4 P ct s0 s1 s2 y1;cases r with
   | false =>
    go_wp2_with fail
    go_meet
    case rel=>exact ⟨aK,rfl,ba.out⟩
   | true =>
    go_wp2_with fail
    go_meet
    case rel=>exact ⟨_,rfl,ba.out⟩
  case rest =>
   obtain ⟨b,rfl,P⟩:=hcut;clear b4;obtain ⟨wo, di⟩ := kC wc;rw [← di] at P ⊢;clear di;go_upto_if 32 with fail
   go_cut [33] (fun _ wx=>∃ bq:ByteArray,BS w B w.heap.size Sb z0 z1 z2 { dd with fg:=bq } ⟨K pa d.ts.length N,vs,bh,K wa d.Ws.length ng,us,K a3 n3 c3⟩ wx)
   case first =>
    cases b with
    | false =>
     have ba:=hid P;clear P;go_wp2_with fail
     go_meet
     case rel=>exact ⟨dd.fg,ba.out⟩
    | true =>
     have s2:wo.cell? ⟨Sb,2,C⟩=U (E z2):=(P.c 2 D).1;have dz:wo.cell? ⟨w.heap.size,16,C⟩=U (E dd.fg):=(P.x.c 16 aU).1;have f16:wo.frozen? ⟨w.heap.size,16,C⟩=aK:=(P.x.c 16 aU).2;have dm:Hid (BS w B w.heap.size Sb z0 z1 z2 { dd with fg:=z2 } ⟨K pa d.ts.length N,vs,bh,K wa d.Ws.length ng,us,K a3 n3 c3⟩ (wo.setCell ⟨w.heap.size,16,C⟩ (E z2))):=hid (P.put (P.x.forged (lU (lJ _ _) 16 _) (P.x.c.set (j:=16) aU _)) (lU (lJ _ _) 16 _) P.n);clear P;go_wp2_with fail
     go_meet
     case rel=>exact ⟨z2,dm.out⟩
   case rest =>
    obtain ⟨bq,b6⟩:=hcut;clear P;obtain ⟨d6,bf⟩:∃ x:nI,x={ dd with fg:=bq }:=⟨_,rfl⟩
    rw [← bf] at b6;have bc:Hid (d6.ts.length=d.ts.length):=by rw [bf];exact bc
    have al:Hid (d6.Ws.length=d.Ws.length):=by rw [bf];exact al
    have KY:=hid b6.x.g.ky;clear bf ky;have s2:wc.cell? ⟨Sb,2,C⟩=U (E z2):=(b6.c 2 D).1;have y1:wc.cell? ⟨w.heap.size,1,C⟩=U (E d6.key):=(b6.x.c 1 aU).1;go_wp2_with fail
    refine (KH z2 d6.key (by have:=KY.out;unfold maxLen;omega) HZ.out.2.2).mono ?_;rintro e' w7 ⟨dt,cu⟩;have b7:=b6.below cu;clear b6 cu s2 y1;rcases dt with ⟨rfl,-⟩ | ⟨k',f',t',e2,l',d',x',ss,v,rfl,hG,ho⟩
    ·obtain ⟨T, ab⟩ := kC (w7.alloc (aH zM.toArray 136))
     have x8:=b7.x.below (W':=T) (by rw [ab];exact kQ);simp only [zM] at ab ⊢;have aq:=hid ab;clear ab b7;go_upto_region 8 with fail
     rw [← aq.out];clear aq;go_upto_region 9 with fail
     have R9:CF _ (w.heap.size+1) kX:=x8.l 0 _ rfl;go_wp2_with (first | (refine kY rfl 75 (F 2) rfl w.heap.size _ rfl x8.c underlying75 rfl Tryz.sizeWo ?_) | (refine jY rfl 75 (F 4) (F 46) rfl (w.heap.size+1) kX _ rfl rfl R9 rfl Tryz.sizeWo (mW x8.s) ?_;intro bm ae af))
     exact bodyPost_ret (lK 75 4 results61 rfl ae underlying75 rfl Tryz.sizeWo) rfl (x8.fin af D)
    ·obtain ⟨ua,uc,rfl⟩:=ho.slc
     obtain ⟨eb,ub,uo,ak,b0,da⟩:=ho.Py (adz hG.1);injection b0 with b0 _ dw;subst b0 dw;obtain ⟨T, ab⟩ := kC (w7.alloc (aH [I Y k',I Y f',I Y t',I Y e2,I Y l',I Y d',E x',K ua ss.length uc].toArray 136));have bu:Below w7.heap.size w7 T:=by rw [ab];exact kQ
     have c8:CF T w7.heap.size [I Y k',I Y f',I Y t',I Y e2,I Y l',I Y d',E x',K ua ss.length uc]:=by rw [ab];exact CF.made w7 [I Y k',I Y f',I Y t',I Y e2,I Y l',I Y d',E x',K ua ss.length uc].toArray _
     have e8:T.heap.size=w7.heap.size+1:=by rw [ab];simp
     have H:=b7.below bu;have bk:=da.below' bu;have HM:=hid (show ¬ WB d6 ⟨K pa d.ts.length N,vs,bh,K wa d.Ws.length ng,us,K a3 n3 c3⟩ w7.heap.size from fun L=>by have:=b7.x.lt _ L;omega);have E8:=hid e8;have aq:=hid ab;have dn:Hid (ss.length≤1048576):=hid (by have:=acw hG.1;omega);clear ab bu da ho hG b7 e8;go_upto_region 8 with fail
     rw [← aq.out];clear aq;have s0:T.cell? ⟨Sb,0,C⟩=U (I Y z0):=(H.c 0 D).1;by_cases hz:z0=0
     ·have cb:(z0 == 0)=aN:=by simp [hz]
      obtain ⟨pb,po,hT⟩:∃ pb po,lN T pa pb po d.ts.length d6.ts:=by
       have h5:=H.x.s.pl;have h6:=H.x.g.tz;rw [← bc.out] at h5 ⊢;exact h5.tasks' H.x.g.ft G
      have y0:T.cell? ⟨w.heap.size,0,C⟩=U (K pa d.ts.length N):=(H.x.c 0 aU).1;have c9:T.rangeAt w.heap.size 2 (bvs d6.bd bh):=H.x.c.range [K pa d.ts.length N,E d6.key] (bvs d6.bd bh) [K wa d.Ws.length ng,K a3 n3 c3,E d6.fg];clear hz;go_upto_region 11 with fail
      clear s0 cb;go_wp2_with (first | (refine wpList_load_mid rfl 30 (F 50) rfl w.heap.size 2 rfl (bvs d6.bd bh) _ c9 underlying30 rfl Tryz.sizeBo ?_) | (refine kY rfl 136 (F 6) rfl w7.heap.size _ rfl c8 underlying136 rfl Tryz.sizeMsg ?_))
      refine (Xt d6.bd bh pa pb po d.ts.length N d6.ts k' f' t' e2 l' d' x' ss ua ub uo uc (H.x.s.bo.m H.x.g.fb) hT H.x.g.sb.small bk).mono ?_;rintro e X ⟨⟨ck,cl,v,M,ms,rfl,hL,hR⟩,ah⟩;have x9:=H.x.below ah;have c4:=hR.good H.x.g.fb H.x.g.sb.small;have dv:=hid (hR.tiny H.x.g.fb);have bb:=hid H.x.lt;have HQ:=hid H.x.q;have cy:CF X w.heap.size ([K pa d.ts.length N,E d6.key] ++ bvs d6.bd bh ++ [K wa d.Ws.length ng,K a3 n3 c3,E d6.fg]):=x9.c;clear y0 c9 hT ah hR H c8 bk;go_upto_region 14 with (first | (refine Vq rfl (F 55) rfl ck cl v rfl ?_) | (refine uj rfl 30 (F 57) (F 56) rfl w.heap.size 2 [K pa d.ts.length N,E d6.key] (bvs d6.bd bh) [K wa d.Ws.length ng,K a3 n3 c3,E d6.fg] (bvs ck cl) rfl rfl rfl cy rfl Tryz.sizeBo (nC _ _) ?_;intro ec cv cz))
      have bn:=x9.D8 (z:=T.heap.size) bb.out HQ.out.2 hL.bo c4.f dv.out cz cv;clear x9 cy hL c4 cv cz;have R9:CF _ (w.heap.size+1) kX:=bn.l 0 _ rfl;go_wp2_with (first | (refine kY rfl 75 (F 2) rfl w.heap.size _ rfl bn.c underlying75 rfl Tryz.sizeWo ?_) | (refine jY rfl 75 (F 4) (F 82) rfl (w.heap.size+1) kX _ rfl rfl R9 rfl Tryz.sizeWo (mW bn.s) ?_;intro bm ae af))
      exact bodyPost_ret (lK 75 4 results61 rfl ae underlying75 rfl Tryz.sizeWo) rfl (bn.fin af D)
     ·have cb:(z0 == 0)=aK:=beq_eq_false_iff_ne.2 hz
      have dk:T.cell? ⟨w.heap.size,14,C⟩=U (K wa d.Ws.length ng):=(H.x.c 14 aU).1;have H8:Hid (d.Ws.length≤8):=hid (by rw [← al.out];exact H.x.s.cr.m8);by_cases hle:z0≤(d.Ws.length:Int)
      ·have c6:decide (z0≤(d.Ws.length:Int))=aN:=decide_eq_true hle
       have cd:=hid hle;have ch:=hid hz;clear hle hz;go_upto_region 13 with fail
       have hle:=cd.out;have hz:=ch.out;have h8:=H8.out;have e8:=E8.out;have dq:1≤z0:=by have:=HZ.out.1.1;omega
       obtain ⟨j,rfl⟩:∃ j:Nat,z0=(j:Int)+1:=⟨(z0 - 1).toNat,A⟩
       have bj:j<d.Ws.length:=A;have ax:j<d6.Ws.length:=by rw [al.out];exact bj
       have du:Own 0 T 11 (K wa d.Ws.length ng) d.Ws.length (qV d6.Ws us):=by have h5:=H.x.s.cr.row;rw [al.out] at h5;exact h5
       rcases du with ⟨h1,h2,_⟩ | ⟨g9,V,cap,h1,dp⟩
       ·omega
       injection h1 with e1 _ e3;subst e1 e3;clear hz cb hle c6 dq s0 dk dp cd ch;refine wp_region_held (S:=fun w'=>w'.cell? ⟨w.heap.size,14,C⟩=U (K (U ⟨g9,V,C⟩) d.Ws.length ng)∧w'.cell? ⟨Sb,0,C⟩=U (I Y ((j:Int)+1))∧w'.cell? ⟨w.heap.size,0,C⟩=U (K pa d.ts.length N)∧CF w' w7.heap.size [I Y k',I Y f',I Y t',I Y e2,I Y l',I Y d',E x',K ua ss.length uc]) Z ?_;change wpAnyH _ _ _ _ _ _ _ _ (World.drew _);obtain ⟨wd, b1⟩ := kC T.drew;have av:Below T.heap.size T wd:=by rw [b1];exact mD.drew
       have t:BS w B w.heap.size Sb ((j:Int)+1) z1 z2 d6 ⟨K pa d.ts.length N,vs,bh,K (U ⟨g9,V,C⟩) d.Ws.length ng,us,K a3 n3 c3⟩ wd∧CF wd w7.heap.size [I Y k',I Y f',I Y t',I Y e2,I Y l',I Y d',E x',K ua ss.length uc]:=⟨H.below av,c8.block (av.block _ A)⟩
       have db:=bk.below' av;have dx:=av.size;rw [← b1];clear b1 H c8 bk av;have Q:=And.intro (t.1.x.c 14 aU).1 (And.intro (t.1.c 0 D).1 (And.intro (t.1.x.c 0 aU).1 t.2));have cw:=t.1.take (k':=k') (f:=f') (t:=t') (e:=e2) (l:=l') (dd:=d') (x:=x') (mc:=uc) bc.out ax db dn.out;refine jZ (i:=0) (d:=U 64) (v:=aG (U ⟨w.heap.size,14,C⟩)) (l':=bt 19 1) rfl (fun _ _=>Z) Q ?_;refine jZ (i:=1) (d:=U 65) (v:=K (U ⟨g9,V,C⟩) d.Ws.length ng) (l':=bt 19 3) rfl (fun _ L=>rO (F 64) Z Z L.1) Q ?_;refine jZ (i:=2) (d:=U 66) (v:=aG (U ⟨Sb,0,C⟩)) (l':=bt 19 7) rfl (fun _ _=>Z) Q ?_;refine jZ (i:=3) (d:=U 67) (v:=I Y ((j:Int)+1)) (l':=bt 19 15) rfl (fun _ L=>oL (F 66) Z Z L.2.1) Q ?_;refine jZ (i:=4) (d:=U 68) (v:=I Y (j:Nat)) (l':=bt 19 31) rfl (fun _ _=>Cj (F 67) j A Z Z Z) Q ?_;refine jZ (i:=5) (d:=U 69) (v:=aG (U ⟨w.heap.size,14,C⟩)) (l':=bt 19 63) rfl (fun _ _=>Z) Q ?_;refine jZ (i:=6) (d:=U 70) (v:=K (U ⟨g9,V,C⟩) d.Ws.length ng) (l':=bt 19 127) rfl (fun _ L=>rO (F 69) Z Z L.1) Q ?_;refine jZ (i:=7) (d:=U 71) (v:=aG (U ⟨Sb,0,C⟩)) (l':=bt 19 255) rfl (fun _ _=>Z) Q ?_;refine jZ (i:=8) (d:=U 72) (v:=I Y ((j:Int)+1)) (l':=bt 19 511) rfl (fun _ L=>oL (F 71) Z Z L.2.1) Q ?_;refine jZ (i:=9) (d:=U 73) (v:=I Y (j:Nat)) (l':=bt 19 1023) rfl (fun _ _=>Cj (F 72) j A Z Z Z) Q ?_;refine jZ (i:=10) (d:=U 74) (v:=aG (U ⟨g9,V+j*11,C⟩)) (l':=bt 19 2047) rfl (fun _ _=>CO (F 70) (F 73) g9 V d.Ws.length ng j Z Z Z bj) Q ?_;refine jZ (i:=12) (d:=U 76) (v:=aG (U ⟨w.heap.size,0,C⟩)) (l':=bt 19 6143) rfl (fun _ _=>Z) Q ?_;refine jZ (i:=13) (d:=U 77) (v:=aI #[K pa d.ts.length N]) (l':=bt 19 14335) rfl (fun _ L=>pK (F 76) Z Z L.2.2.1) Q ?_;refine jZ (i:=14) (d:=U 78) (v:=aI [I Y k',I Y f',I Y t',I Y e2,I Y l',I Y d',E x',K ua ss.length uc].toArray) (l':=bt 19 30719) rfl (fun _ L=>E5 136 _ [I Y k',I Y f',I Y t',I Y e2,I Y l',I Y d',E x',K ua ss.length uc] (F 6) Z Z L.2.2.2 underlying136 rfl Tryz.sizeMsg) Q ?_;generalize ai:Act.put _ _ _=ea;refine SC (i:=11) (d:=U 75) (v:=aI (lZ (nD d6.Ws j) (us.getD j kH)).toArray) (w':=wd) (l':=bt 19 32767) Z rfl Z (by subst ai;kernel_rfl) Z (Dl 127 (lZ (nD d6.Ws j) (us.getD j kH)) (F 74) Z (by subst ai;kernel_rfl) (EO.range (BS.row t.1) ax) underlying127 rfl Tryz.sizeWk) Q ?_;subst ai;generalize hq:Act.put _ _ _=aa;refine XW (i:=15) (d:=U 79) (f:=87) (args:=#[aI (lZ (nD d6.Ws j) (us.getD j kH)).toArray,aI #[K pa d.ts.length N],aI [I Y k',I Y f',I Y t',I Y e2,I Y l',I Y d',E x',K ua ss.length uc].toArray]) (l':=bt 19 65535) (R:=RTk wd) Z rfl Z fG Z (JF _ _ _ _ rfl fG fG fG rfl aaL) (by exact cw) ?_;rintro v9 X ⟨kd,va,ak,v2,rfl,c7,c5,ah⟩;have t9:BS w B w.heap.size Sb ((j:Int)+1) z1 z2 d6 ⟨K pa d.ts.length N,vs,bh,K (U ⟨g9,V,C⟩) d.Ws.length ng,us,K a3 n3 c3⟩ X∧CF X w7.heap.size [I Y k',I Y f',I Y t',I Y e2,I Y l',I Y d',E x',K ua ss.length uc]:=⟨t.1.below ah,t.2.block (ah.block _ A)⟩
       have ag:=And.intro (t9.1.x.c 14 aU).1 (And.intro (t9.1.c 0 D).1 (And.intro (t9.1.x.c 0 aU).1 t9.2));refine ⟨ag,?_⟩;subst hq;refine jZ (i:=16) (d:=U 80) (v:=aI (lZ kd (K va kd.ss.length ak)).toArray) (l':=bt 19 131071) rfl (fun _ _=>Z) ag ?_;refine jZ (i:=17) (d:=U 81) (v:=aG (U ⟨g9,V+j*11,C⟩)) (l':=bt 19 262143) rfl (fun _ _=>CO (F 65) (F 68) g9 V d.Ws.length ng j Z Z Z bj) ag ?_;have a8:=t9.1.x.worker (g:=g9) (o:=V) (cap:=ng) (i:=j) (k:=kd) (u:=K va kd.ss.length ak) (by rw [al.out]) (z:=wd.heap.size) t.1.x.lt t.1.x.q.2 ax c7 c5;have dc:X.there g9 (V+j*11) 11:=EO.there (BS.row t9.1) ax;have aw:WB d6 ⟨K pa d.ts.length N,vs,bh,K (U ⟨g9,V,C⟩) d.Ws.length ng,us,K a3 n3 c3⟩ g9:=.inr (.inl rfl);have a6:∀ q,q≠g9→q<X.heap.size→(X.setCells g9 (V+j*11) (lZ kd (K va kd.ss.length ak))).heap[q]?=X.heap[q]?:=fun q h1 h2=>Oi X g9 _ _ h2 h1;have br:w.heap.size<X.heap.size:=by have:=t9.1.x.q;simp at this;omega
       have cn:=And.intro ((mV (w:=X) (a:=⟨w.heap.size,14,C⟩) (a6 _ (fun e=>t9.1.x.ne aw e.symm) br)).trans ag.1) (And.intro ((mV (w:=X) (a:=⟨Sb,0,C⟩) (a6 _ (fun e=>t9.1.n (e ▸ aw)) t9.1.p.2)).trans ag.2.1) (And.intro ((mV (w:=X) (a:=⟨w.heap.size,0,C⟩) (a6 _ (fun e=>t9.1.x.ne aw e.symm) br)).trans ag.2.2.1) (ag.2.2.2.block (a6 _ (fun e=>HM.out (e ▸ aw)) (by have:=ah.size;omega)))));generalize hq:Act.put _ _ _=aa;refine qc (i:=18) (w':=X.setCells g9 (V+j*11) (lZ kd (K va kd.ss.length ak))) (l':=bt 19 524287) Z rfl Z fG Z (PL kd va kd.ss.length ak (F 81) (F 80) Z fG fG dc) cn ?_;subst hq;refine wpAnyH_done Z ?_ _;obtain ⟨ed, dh⟩ := kC (X.setCells g9 (V+j*11) (lZ kd (K va kd.ss.length ak)));rw [← dh] at a8 ⊢;clear Q ag cn t t9 dc a6 aw cw db c7 c5 ah dh h8 e8 bj ax dx br;go_simp;go_upto_region 14 with fail
       have R9:CF _ (w.heap.size+1) kX:=a8.l 0 _ rfl;go_wp2_with (first | (refine kY rfl 75 (F 2) rfl w.heap.size _ rfl a8.c underlying75 rfl Tryz.sizeWo ?_) | (refine jY rfl 75 (F 4) (F 82) rfl (w.heap.size+1) kX _ rfl rfl R9 rfl Tryz.sizeWo (mW a8.s) ?_;intro bm ae af))
       exact bodyPost_ret (lK 75 4 results61 rfl ae underlying75 rfl Tryz.sizeWo) rfl (a8.fin af D)
      ·have c6:decide (z0≤(d.Ws.length:Int))=aK:=decide_eq_false hle
       clear hle hz;go_upto_region 14 with fail
       have x8:=H.x;clear H s0 dk;have R9:CF _ (w.heap.size+1) kX:=x8.l 0 _ rfl;go_wp2_with (first | (refine kY rfl 75 (F 2) rfl w.heap.size _ rfl x8.c underlying75 rfl Tryz.sizeWo ?_) | (refine jY rfl 75 (F 4) (F 82) rfl (w.heap.size+1) kX _ rfl rfl R9 rfl Tryz.sizeWo (mW x8.s) ?_;intro bm ae af))
       exact bodyPost_ret (lK 75 4 results61 rfl ae underlying75 rfl Tryz.sizeWo) rfl (x8.fin af D)
theorem OI (d:nI) (h:oO) (B:Nat→Prop) (s:qx w 0 d h) (g:Ah d) (hF:∀ q,B q→q<w.heap.size) (hN:∀ q,WB d h q→¬ B q) :
  Calls prog 62 #[aI (mg d h).toArray] w fun e w'=>Vh e B w'∧Fr B w w':=by
 obtain ⟨iM,cy,cv,cw,cx⟩:=info_parts Tryz.infoMs;obtain ⟨W, hW⟩ := kC ((w.alloc (aH (mg d h).toArray 75)).alloc (aH kX.toArray 75));have X:=XS.enter s g hF hN 75 75;rw [← hW] at X;obtain ⟨pa,pb,po,pc,cg,hT⟩:=s.pl.tasks g.ft iG;obtain ⟨wa,ng,ch⟩:=s.cr.row.slc;obtain ⟨fa,fc,cf⟩:=s.fl.slc;obtain ⟨vP,vs,bh,vW,us,vF⟩:=h;dsimp only at cg ch cf;subst cg ch cf;simp only [mg,bvs,kX,Eo,oG] at hW;have HW:=hid hW;clear hW hF hN;show Calls prog _ #[aI #[K pa d.ts.length pc,E d.key,I Y d.bd.wk,aF d.bd.up,I Y d.bd.now,I Y d.bd.sn,I Y d.bd.ep,I Y d.bd.gv,K bh.a1 d.bd.L1.length bh.c1,K bh.a2 d.bd.L2.length bh.c2,K bh.ar d.bd.R.length bh.cr,K bh.aj d.bd.J.length bh.cj,K bh.az d.bd.S.length bh.cs,K bh.ao d.bd.O.length bh.co,K wa d.Ws.length ng,K fa d.Fl.length fc,E d.fg]] w _;go_enter func62,ntmps62
 go_upto_region 1 with fail
 rw [← HW.out];clear HW;have y4:W.cell? ⟨w.heap.size,4,C⟩=U (I Y d.bd.now):=(X.c 4 aU).1;by_cases c0:(1000000:Int)≤d.bd.now
 case pos =>
  have R0:CF W (w.heap.size+1) kX:=X.l 0 _ rfl;go_upto_region 2 with fail
  go_wp2_with (first | (refine kY rfl 75 (F 1) rfl w.heap.size _ rfl X.c underlying75 rfl Tryz.sizeWo ?_) | (refine jY rfl 75 (F 2) (F 11) rfl (w.heap.size+1) kX _ rfl rfl R0 rfl Tryz.sizeWo (mW X.s) ?_;intro c9 bc bj))
  exact bodyPost_ret (lK 75 2 results62 rfl bc underlying75 rfl Tryz.sizeWo) rfl (X.fin bj D)
 case neg =>
  have cq:decide ((1000000:Int)≤d.bd.now)=aK:=decide_eq_false c0;have ah:=X.q;go_upto_region 3 with fail
  clear y4;obtain ⟨pb,po,hT⟩:=X.s.pl.tasks' g.ft iG;have y0:W.cell? ⟨w.heap.size,0,C⟩=U (K pa d.ts.length pc):=(X.c 0 aU).1;have cc:W.rangeAt w.heap.size 2 (bvs d.bd bh):=X.c.range [K pa d.ts.length pc,E d.key] (bvs d.bd bh) [K wa d.Ws.length ng,K fa d.Fl.length fc,E d.fg];go_wp2_with (refine wpList_load_mid rfl 30 (F 12) rfl w.heap.size 2 rfl (bvs d.bd bh) _ cc underlying30 rfl Tryz.sizeBo ?_)
  refine (Xr d.bd bh pa pb po d.ts.length pc d.ts (X.s.bo.m g.fb) hT g.sb.small).mono ?_;rintro e w1 ⟨⟨ag,aa,v,M,ms,rfl,hL,hR⟩,bb⟩;have x1:=X.below bb;have aw:=hR.good g.fb g.sb.small;have c5:=hid hR.tiny;have c8:=bb.size;clear y0 cc hT bb hR;obtain ⟨va,vc,rfl⟩:=hL.ms.row.slc;obtain ⟨Lb, cu⟩ := kC w1.heap.size;have b5:=CF.made w1 zLd.toArray 141;have an:(prog.info? 141).map (·.size)=U (bvs ag aa ++ [K va M.length vc]).length:=Tryz.sizeLd;go_upto_region 4 with (refine jY rfl 141 (F 3) (F 16) rfl w1.heap.size zLd (bvs ag aa ++ [K va M.length vc]) rfl rfl b5 rfl an (aaW) ?_;intro w2 bf au)
  have bk:∀ q,q<w1.heap.size→w2.heap[q]?=w1.heap[q]?:=fun q H=>(au.block q aQ (fun e=>O)).trans (kU _ _ _ H);have ck:w1.heap.size<w2.heap.size:=by have:=au.size;simp at this;omega
  have x2:XS w B w.heap.size [kX] d ⟨K pa d.ts.length pc,vs,bh,K wa d.Ws.length ng,us,K fa d.Fl.length fc⟩ w2:=(x1.below kQ).far au (.inr (by simp at ah ⊢;omega)) (fun H=>by have:=x1.lt _ H;omega) (by simp at ah;omega);have b3:lg w2 W.heap.size ag aa:=hL.bo.blk (fun r hr q H=>bk q (hL.bo.lo r hr q H).2);have m1:MX w1 W.heap.size (K va M.length vc) M ms:=⟨hL.ms,aw.m⟩
  have m2:=m1.keep (W':=w2) (fun q H=>bk q (m1.lt H).2);have ca:w2.rangeAt w1.heap.size 0 (bvs ag aa):=bf.range [] (bvs ag aa) [K va M.length vc];have cm:w2.cell? ⟨w1.heap.size,12,C⟩=U (K va M.length vc):=(bf 12 aP).1;have b6:CF w2 w.heap.size ([K pa d.ts.length pc,E d.key] ++ bvs d.bd bh ++ [K wa d.Ws.length ng,K fa d.Fl.length fc,E d.fg]):=x2.c;go_upto_region 5 with (first | (refine wpList_load_mid rfl 30 (F 17) rfl w1.heap.size 0 rfl (bvs ag aa) _ ca underlying30 rfl Tryz.sizeBo ?_) | (refine uj rfl 30 (F 19) (F 18) rfl w.heap.size 2 [K pa d.ts.length pc,E d.key] (bvs d.bd bh) [K wa d.Ws.length ng,K fa d.Fl.length fc,E d.fg] (bvs ag aa) rfl rfl rfl b6 rfl Tryz.sizeBo (nC _ _) ?_;intro w3 b4 av))
  have x3:=x2.D8 (z:=W.heap.size) (fun q H=>X.lt q H) ah.2 b3 aw.f c5.out av b4;have bm:∀ q,w.heap.size<q→q<w2.heap.size→w3.heap[q]?=w2.heap[q]?:=fun q h1 h2=>av.block q h2 (fun e=>O);have m3:=m2.keep (W':=w3) (fun q H=>bm q (by have:=(m2.lt H).1;simp at ah;omega) (m2.lt H).2);have db:w3.cell? ⟨w1.heap.size,12,C⟩=U (K va M.length vc):=(mV (w:=w2) (bm w1.heap.size (by simp at ah;omega) ck)).trans cm;have HT:Hid (TL w B w.heap.size W.heap.size d.ts.length d.Ws.length d.Fl.length pa wa fa pc ng fc vs aa (K va M.length vc) w3 0 { d with bd:=ag } us M ms):=hid {
   x:=x3
   et:=rfl
   ew:=rfl
   ef:=rfl
   m:=m3
   nb:=fun q H hw=>by
    have h5:=(m1.lt H).1;rcases hw with (h6 | h6 | h6 | h6) | h6 | h6
    ·have:=X.lt q (.inl (.inl h6));omega
    ·have:=X.lt q (.inl (.inr (.inl h6)));omega
    ·rcases H with H | ⟨j,hj,H⟩
     ·rcases hL.dr _ h6 with h7 | h7
      ·cases h7
      ·exact h7 H.symm
     ·rcases hL.dv _ h6 j hj with h7 | h7
      ·cases h7
      ·exact h7 H.symm
    ·have:=X.lt q (.inl (.inr (.inr (.inr h6))));omega
    ·have:=X.lt q (.inr (.inl h6));omega
    ·have:=X.lt q (.inr (.inr h6));omega
   ml:=by have:=aw.l;omega
   hz:=⟨ah.2,by have:=av.size;omega⟩ }
  have df:Hid (w.heap.size+1<W.heap.size):=ah.2;clear X x1 x2 x3 m1 m2 m3 b3 ca cm b6 bm bk hL aw bf au b4 av b5 c8 ck ah c0 cq cu;go_wp2;go_loopw [4,5] (fun vO i wr=>∃ (k:Nat) (T:nI) (uu:List Value) (M:List lQ) (ms:List Value),k≤d.Ws.length∧i=I Y k∧TL w B w.heap.size W.heap.size d.ts.length d.Ws.length d.Fl.length pa wa fa pc ng fc vs aa vO wr k T uu M ms) (fun _ i _=>d.Ws.length - (intOf i).toNat)
  case atStart=>exact ⟨0,_,us,M,ms,lG _,rfl,HT.out⟩
  case round =>
   clear HT db;obtain ⟨k,T,uu,M',a7,hk,rfl,t⟩:=hrel;have h8:=t.x.s.cr.m8;have ct:d.Ws.length≤8:=by rw [← t.ew];exact h8
   have aq:wr.cell? ⟨w.heap.size,14,C⟩=U (K wa d.Ws.length ng):=(t.x.c 14 aU).1;by_cases al:k<d.Ws.length
   ·have c4:Own 0 wr 11 (K wa d.Ws.length ng) d.Ws.length (qV T.Ws uu):=by have h5:=t.x.s.cr.row;rw [t.ew] at h5;exact h5
    rcases c4 with ⟨h1,h2,_⟩ | ⟨g9,o9,cap,h1,hc⟩
    ·omega
    injection h1 with e1 _ e3;subst e1 e3;clear h8;go_upto_region 9 with fail
    clear aq;obtain ⟨pb,po,hT⟩:∃ pb po,lN wr pa pb po d.ts.length T.ts:=by
     have h5:=t.x.s.pl;have h6:=t.x.g.tz;rw [← t.et] at h5 ⊢;exact h5.tasks' t.x.g.ft G
    go_cut [6] (fun c wx=>∃ P y u L Q ab ae N ns,c=aG (U ⟨P,0,C⟩)∧AK w B w.heap.size W.heap.size d.ts.length d.Ws.length d.Fl.length pa (U ⟨g9,o9,C⟩) fa pc ng fc vs aa u4 k T uu M' a7 P y u (K L u.ss.length Q) (K ab N.length ae) N ns wx)
    case first =>
     refine wp_region_held (S:=fun w'=>TL w B w.heap.size W.heap.size d.ts.length d.Ws.length d.Fl.length pa (U ⟨g9,o9,C⟩) fa pc ng fc vs aa u4 w' k T uu M' a7) Z ?_;change wpAnyH _ _ _ _ _ _ _ _ (World.drew _);obtain ⟨wd, bs⟩ := kC wr.drew;have t:TL w B w.heap.size W.heap.size d.ts.length d.Ws.length d.Fl.length pa (U ⟨g9,o9,C⟩) fa pc ng fc vs aa u4 wd k T uu M' a7:=by rw [bs];exact t.below mD.drew
     rw [← bs];clear bs;refine jZ (i:=0) (d:=U 29) (v:=aG (U ⟨w.heap.size,14,C⟩)) (l':=bt 10 1) rfl (fun _ _=>Z) t ?_;refine jZ (i:=1) (d:=U 30) (v:=K (U ⟨g9,o9,C⟩) d.Ws.length ng) (l':=bt 10 3) rfl (fun _ t'=>rO (F 29) Z Z (t'.x.c 14 aU).1) t ?_;refine jZ (i:=2) (d:=U 31) (v:=I Y (k:Nat)) (l':=bt 10 7) rfl (fun _ _=>Z) t ?_;refine jZ (i:=3) (d:=U 32) (v:=aG (U ⟨g9,o9+k*11,C⟩)) (l':=bt 10 15) rfl (fun _ _=>CO (F 30) (F 31) g9 o9 d.Ws.length ng k Z Z Z al) t ?_;refine jZ (i:=4) (d:=U 33) (v:=aI (lZ (nD T.Ws k) (uu.getD k kH)).toArray) (l':=bt 10 31) rfl (fun _ t'=>Dl 127 (lZ (nD T.Ws k) (uu.getD k kH)) (F 32) Z Z (t'.range al) underlying127 rfl Tryz.sizeWk) t ?_;refine jZ (i:=5) (d:=U 34) (v:=aG (U ⟨w.heap.size,0,C⟩)) (l':=bt 10 63) rfl (fun _ _=>Z) t ?_;refine jZ (i:=6) (d:=U 35) (v:=aI #[K pa d.ts.length pc]) (l':=bt 10 127) rfl (fun _ t'=>pK (F 34) Z Z (t'.x.c 0 aU).1) t ?_;refine nT (i:=7) (j:=8) Z (kZ (i:=7) (d:=U 36) (f:=89) (args:=#[aI (lZ (nD T.Ws k) (uu.getD k kH)).toArray,aI #[K pa d.ts.length pc]]) (l':=bt 10 255) (R:=fun v w'=>∃ u L Q va vc N ns,v=aI (lZ u (K L u.ss.length Q) ++ [K va N.length vc]).toArray∧AW w' wd.heap.size u (K L u.ss.length Q) (K va N.length vc) N ns∧Below wd.heap.size wd w') rfl Z Z Z (lT _ _ _ rfl Z Z rfl UO) (t.tick al) ?_) (kM (i:=8) (d:=U 6) (v:=aG (U ⟨wd.heap.size,0,C⟩)) (w':=(wd.alloc (aH FV.toArray 144))) (l':=bt 10 383) rfl Z Z Z (Uk Z) (t.below kQ) ?_)
     ·rintro v5 w5 ⟨u,L,Q,ab,ae,N,ns,rfl,V,af⟩
      refine ⟨t.below af,?_⟩;refine kF Z (kM (i:=8) (d:=U 6) (v:=aG (U ⟨w5.heap.size,0,C⟩)) (w':=w5.alloc (aH FV.toArray 144)) (l':=bt 10 511) rfl Z Z Z (Uk Z) ((t.below af).below kQ) ?_);have ak:CF (w5.alloc (aH FV.toArray 144)) w5.heap.size FV:=CF.made w5 FV.toArray _;have an:(prog.info? 144).map (·.size)=U (lZ u (K L u.ss.length Q) ++ [K ab N.length ae]).length:=Tryz.sizeAc;have ai:=AK.first t af V (aH FV.toArray 144) (mY w5.heap.size (lZ u (K L u.ss.length Q) ++ [K ab N.length ae]) 0 _ _ (lJ _ _)) (ak.stored rfl);refine kF Z (lI (i:=9) (w':=(w5.alloc (aH FV.toArray 144)).setCells w5.heap.size 0 (lZ u (K L u.ss.length Q) ++ [K ab N.length ae])) (l':=bt 10 1023) rfl Z Z Z (lM 144 FV _ (F 6) (F 36) Z Z Z ak rfl an (TN)) ai.t ?_);refine wpAnyH_done Z ?_ _;have ba:=hid ai;clear ai an ak V af;go_wp2;go_meet
      case rel=>exact ⟨_,_,u,L,Q,ab,ae,N,ns,rfl,ba.out⟩
     ·refine kF Z (kZ (i:=7) (d:=U 36) (f:=89) (args:=#[aI (lZ (nD T.Ws k) (uu.getD k kH)).toArray,aI #[K pa d.ts.length pc]]) (l':=bt 10 511) (R:=fun v w'=>∃ u L Q va vc N ns,v=aI (lZ u (K L u.ss.length Q) ++ [K va N.length vc]).toArray∧AW w' (wd.alloc (aH FV.toArray 144)).heap.size u (K L u.ss.length Q) (K va N.length vc) N ns∧Below (wd.alloc (aH FV.toArray 144)).heap.size (wd.alloc (aH FV.toArray 144)) w') rfl Z Z Z (lT _ _ _ rfl Z Z rfl UO) ((t.below kQ).tick al) ?_)
      rintro v5 w5 ⟨u,L,Q,ab,ae,N,ns,rfl,V,af⟩;refine ⟨(t.below kQ).below af,?_⟩;have ak:CF w5 wd.heap.size FV:=(CF.made wd FV.toArray 144).block (af.block _ D);have an:(prog.info? 144).map (·.size)=U (lZ u (K L u.ss.length Q) ++ [K ab N.length ae]).length:=Tryz.sizeAc;have ai:=AK.later t (aH FV.toArray 144) af V (mY wd.heap.size (lZ u (K L u.ss.length Q) ++ [K ab N.length ae]) 0 _ _ (lJ _ _)) (ak.stored rfl);refine kF Z (lI (i:=9) (w':=w5.setCells wd.heap.size 0 (lZ u (K L u.ss.length Q) ++ [K ab N.length ae])) (l':=bt 10 1023) rfl Z Z Z (lM 144 FV _ (F 6) (F 36) Z Z Z ak rfl an (TN)) ai.t ?_);refine wpAnyH_done Z ?_ _;have ba:=hid ai;clear ai an ak V af;go_wp2;go_meet
      case rel=>exact ⟨_,_,u,L,Q,ab,ae,N,ns,rfl,ba.out⟩
    case rest =>
     obtain ⟨P,y,u,L,Q,ab,ae,N,ns,rfl,V⟩:=hcut;clear t hc hT;have b8:=V.hw g9 (.inr (.inl rfl));have cb:wc.rangeAt P 0 (lZ u (K L u.ss.length Q)):=V.c.range [] (lZ u (K L u.ss.length Q)) [K ab N.length ae];have aq:wc.cell? ⟨w.heap.size,14,C⟩=U (K (U ⟨g9,o9,C⟩) d.Ws.length ng):=(V.t.x.c 14 aU).1;have cd:=V.t.there al;go_upto_region 11 with (first | (refine wpList_load_mid rfl 127 (F 40) rfl P 0 rfl (lZ u (K L u.ss.length Q)) _ cb underlying127 rfl Tryz.sizeWk ?_) | (refine Ot rfl (F 42) (F 41) rfl g9 (o9+k*11) u L u.ss.length Q rfl rfl cd ?_;intro w8 br))
     have bl:∀ q,q≠g9→q<wc.heap.size→w8.heap[q]?=wc.heap[q]?:=fun q h1 h2=>by rw [br];exact Oi wc g9 _ _ h2 h1
     have t8:TL w B w.heap.size W.heap.size d.ts.length d.Ws.length d.Fl.length pa (U ⟨g9,o9,C⟩) fa pc ng fc vs aa u4 w8 k { T with Ws:=T.Ws.set k u } (uu.set k (K L u.ss.length Q)) M' a7:=by rw [br];exact V.t.put al (fun q H=>(V.hw q H).1) (fun q H=>(V.hm q H).1) V.hq V.a.o V.a.k
     have a8:=V.a.keep (w':=w8) (fun q h1 h2=>bl q A h2);have da:w8.cell? ⟨P,11,C⟩=U (K ab N.length ae):=(mV (w:=wc) (bl P (fun e=>b8.2 e.symm) V.p.2)).trans (V.c 11 (by simp [lZ])).1;have src:=Own.src (P:=prog) (tx:=139) a8.m.row underlying139 (Z7 a8.z);have ax:=t8.ml;have cz:=a8.l;have cl:=t8.hz.2;clear V cb aq cd bl br b8;go_wp2_with (at_builtin;refine kT _ rfl _ _ 139 139 rfl W.heap.size 136 iM (aI Jl) 8 88 underlying139 cy cv cw cx rfl _ M'.length _ rfl t8.m.o.row _ N.length _ rfl src G A cl ?_;intro v' w9 b9 b7 b2)
     have cp:=hid (t8.app a8.l a8.m.len a8.z a8.g a8.s b7 b9 b2);clear t8 a8 src da b9 b7 b2 ax cz cl;go_roundw
     case rel=>exact ⟨k+1,_,_,_,_,A,aW,cp.out⟩
     case measure=>simp [intOf];omega
   ·obtain rfl:k=d.Ws.length:=by omega
    clear al hk h8 ct aq;obtain ⟨ma,mb,mo,mc,c7,bz⟩:=t.m.o.at t.m.fit (by have:=t.ml;have:=t.x.s.cr.m8;have:=t.ew;unfold maxLen;omega);subst c7;have ax:M'.length≤1048576:=by have:=t.ml;have:=t.x.s.cr.m8;have:=t.ew;omega
    have bp:=t.x.s.fl;have bg:=t.x.g.fx.1;rw [t.ef] at bp bg;obtain ⟨fb,fo,b0,_⟩:=bp.PZ t.x.g.fx.ok;have dc:wr.cell? ⟨w.heap.size,15,C⟩=U (K fa d.Fl.length fc):=(t.x.c 15 aU).1;obtain ⟨-,y1,-,-,-,-,-,-,-,-,-,-,-,-,aq⟩:=aeg t.x.c;go_wp2_with fail
    refine (Ua fa fb fo d.Fl.length fc T.Fl ma mb mo M'.length mc M' T.key b0 bz bg ax (by have:=t.x.g.ky;unfold maxLen;omega)).mono ?_;rintro e w6 ⟨⟨v6,rfl,ay⟩,b1⟩;obtain ⟨a6,c6,rfl⟩:=ay.slc;obtain ⟨n6, bn⟩ := kC ((Jb T.key T.Fl M').length);rw [← bn] at ay ⊢;have cn:=hid bn;clear bn;have x6:=t.x.below b1;have bw:=hid (ET.Jb M' (key:=T.key) t.x.g.fx);have bu:=hid t.x.lt;have HQ:=hid t.x.q;have de:w6.cell? ⟨w.heap.size,15,C⟩=U (K fa d.Fl.length fc):=(x6.c 15 aU).1;have f15:w6.frozen? ⟨w.heap.size,15,C⟩=aK:=(x6.c 15 aU).2;clear t dc y1 aq b0 bz bp bg ax b1;go_upto_region 13 with fail
    obtain ⟨w7, bq⟩ := kC (w6.setCell ⟨w.heap.size,15,C⟩ (K a6 n6 c6));rw [← bq];have x7:XS w B w.heap.size [kX] { T with Fl:=Jb T.key T.Fl M' } ⟨K pa d.ts.length pc,vs,aa,K wa d.Ws.length ng,uu,K a6 n6 c6⟩ w7:=by
     rw [bq];exact x6.flight (z:=wr.heap.size) bu.out HQ.out.2 (by rw [← cn.out];exact ay) bw.out (lU (lJ _ _) 15 _) (x6.c.set (j:=15) aU _)
    clear bq x6 de f15 ay bw bu HQ;have R7:CF w7 (w.heap.size+1) kX:=x7.l 0 _ rfl;go_wp2_with (first | (refine kY rfl 75 (F 1) rfl w.heap.size _ rfl x7.c underlying75 rfl Tryz.sizeWo ?_) | (refine jY rfl 75 (F 2) (F 54) rfl (w.heap.size+1) kX _ rfl rfl R7 rfl Tryz.sizeWo (mW x7.s) ?_;intro c9 bc bj))
    exact bodyPost_ret (lK 75 2 results62 rfl bc underlying75 rfl Tryz.sizeWo) rfl (x7.fin bj D)
def XF (B:Nat→Prop) (Q n:Nat):Nat→Prop:=fun q=>B q∨(Q≤q∧q≤Q+n)
theorem XS.xf {B:Nat→Prop} {L:List (List Value)} {d:nI} {h:oO} (x:XS w B Q L d h W):(∀ q,XF B Q L.length q→q<W.heap.size)∧(∀ q,WB d h q→¬ XF B Q L.length q):=by
 have c:=x.q;have e:=x.b.z.size;refine ⟨fun q a=>?_,fun q hw a=>?_⟩
 ·rcases a with a | a
  ·have:=x.f q a;omega
  ·omega
 ·rcases a with a | a
  ·exact x.nf q hw a
  ·have:=x.n q hw;omega
theorem XS.ret {i:World} {B:Nat→Prop} {R:Nat} {L:List (List Value)} {d d':nI} {h c:oO} (x:XS w B Q L d h W) (s:qx w1 0 d' c) (g:Ah d') (o:∀ q,WB d' c q→¬ XF B Q L.length q) (j:Fr (XF B Q L.length) W w1) (l:w1.grownBy i (U R)) (r:Q<R∧R≤Q+L.length):Vh (aO (aI (mg d' c).toArray)) B i∧Fr B w i:=by
 have a:=x.q;have fr:Fr B w w1:=⟨x.b.z.trans j.z,fun q a=>(j.k q (.inl a)).trans (x.b.k q a)⟩
 exact ⟨⟨d',c,rfl,s.keep (fun q p=>l.block q (s.lt p).2 (fun e=>by injection e with e;subst e;exact o _ p (.inr ⟨A,r.2⟩))),g,fun q a t=>o q a (.inl t)⟩,fr.grown l x.f (x.new A)⟩
theorem XS.lf {B:Nat→Prop} {L:List (List Value)} {d:nI} {h:oO} (x:XS w B Q L d h W) (a:Fr (XF B Q L.length) W w1) {k:Nat} (e:L[k]?=U vs):CF w1 (Q+1+k) vs:=(x.l k vs e).block (a.k _ (.inr dV))
def RFw (wx:World) (v:Value) (w':World):Prop:=∃ (a:pU) (c:Option Addr) (d:Nat),v=aI (lZ a (K c a.ss.length d)).toArray∧Own wx.heap.size w' 1 (K c a.ss.length d) a.ss.length (a.ss.map E)∧EN a∧Below wx.heap.size wx w'
theorem abB (k:pU) (a:Option Addr) (b o c:Nat) (w:World) (h:kS w a b o k.ss.length k.ss):Calls prog 81 #[aI (lZ k (K a k.ss.length c)).toArray] w fun e w'=>∃ v,e=aO v∧RFw w v w' :=
 (Yq k.nu k.ep k.up k.st k.le k.ta k.co k.lf a b o k.ss.length c k.ss k.x k.si w h).mono fun e w' i=>by
  obtain ⟨⟨d,l,p,rfl,j,f⟩,g⟩:=i;exact ⟨_,rfl,d.k,l,p,rfl,j,⟨f.small.2,by have:=f.small.1;show d.ss.length≤_;omega⟩,g⟩
theorem abA (k:pU) (a:Option Addr) (b o c:Nat) (w:World) (h:kS w a b o k.ss.length k.ss):Calls prog 82 #[aI (lZ k (K a k.ss.length c)).toArray] w fun e w'=>∃ v,e=aO v∧RFw w v w' :=
 (Yp k.nu k.ep k.up k.st k.le k.ta k.co k.lf a b o k.ss.length c k.ss k.x k.si w h).mono fun e w' i=>by
  obtain ⟨⟨d,l,p,rfl,j,f⟩,g⟩:=i;exact ⟨_,rfl,d.k,l,p,rfl,j,⟨f.small.2,by have:=f.small.1;show d.ss.length≤_;omega⟩,g⟩
theorem aaM (v1:Value) (w:World):Sem.run prog (callFunc 81 #[v1]) w=.ok (.enter 81 #[v1]) w:=Z
theorem aaK (v1:Value) (w:World):Sem.run prog (callFunc 82 #[v1]) w=.ok (.enter 82 #[v1]) w:=Z
theorem XS.row {B:Nat→Prop} {o:Nat} {L:List (List Value)} {d:nI} {h:oO} (x:XS w B Q L d h wx) (k:h.vW=K (U ⟨g,o,C⟩) nW ng):kW 0 wx 11 g o ng d.Ws.length (qV d.Ws h.us):=by
 have e:=x.s.cr.row;rw [k] at e;rcases e with ⟨c,_,_⟩ | ⟨l,p,cap,c,j⟩
 ·cases c
 ·injection c with a _ i
  injection a with a;injection a with a f _;subst a f i;exact j
theorem XS.str {B:Nat→Prop} {L:List (List Value)} {d:nI} {h:oO} (x:XS w B Q L d h wx) (f:j<d.Ws.length):∃ a c io e,h.us.getD j kH=K a (nD d.Ws j).ss.length e∧kS wx a c io (nD d.Ws j).ss.length (nD d.Ws j).ss:=by
 obtain ⟨a,c,io,e,g,i⟩:=(x.s.cr.dep j f).Py (x.s.cr.ok j f).1;exact ⟨a,c,io,e,g,i⟩
def OY (e a c d:Int):List Value:=[I Y e,I Y a,I Y c,I Y d]
theorem XS.adk {a:Nat→Prop} {d:nI} {h:oO} (s:qx w 0 d h) (g:Ah d) (j:∀ q,a q→q<w.heap.size) (l:∀ q,WB d h q→¬ a q) (es:List Value) (T c f:TypeId):XS w a w.heap.size [es,kX] d h (((w.alloc (aH (mg d h).toArray T)).alloc (aH es.toArray f)).alloc (aH kX.toArray c)):=by
 have i:Below w.heap.size w (((w.alloc (aH (mg d h).toArray T)).alloc (aH es.toArray f)).alloc (aH kX.toArray c)):=(kQ.alloc D _).alloc aQ _;refine ⟨s.below i,g,((CF.made w (mg d h).toArray T).block (kU _ _ _ D)).block (kU _ _ _ aQ),fun k vs e=>?_,(Fr.refl a w).below i j,⟨kL,D⟩,fun q o=>.inl (s.lt o).2,j,l⟩;match k,e with
 | 0,e =>
  injection e with e;subst e;have:=(CF.made (w.alloc (aH (mg d h).toArray T)) es.toArray f).block (kU _ (aH kX.toArray c) _ D);rw [mJ] at this;exact this
 | 1,e =>
  injection e with e;subst e;have:=CF.made ((w.alloc (aH (mg d h).toArray T)).alloc (aH es.toArray f)) kX.toArray c;rw [mJ,mJ] at this;exact this
 | k+2,e=>simp at e
theorem adH (k:Int):k=1∨k=2∨k=3∨k=4∨k=5∨k=6∨k=7∨((k == 1)=aK∧(k == 2)=aK∧(k == 3)=aK∧(k == 4)=aK∧(k == 5)=aK∧(k == 6)=aK∧(k == 7)=aK):=by
 simp only [beq_eq_false_iff_ne];omega
theorem aau (d:nI) (h:oO) (ek p eb ec:Int) (B:Nat→Prop) (w:World) (s:qx w 0 d h) (g:Ah d) (hF:∀ q,B q→q<w.heap.size) (hN:∀ q,WB d h q→¬ B q) :
  Calls prog 59 #[aI (mg d h).toArray,aI #[I Y ek,I Y p,I Y eb,I Y ec]] w fun e w'=>Vh e B w'∧Fr B w w':=by
 obtain ⟨W, hW⟩ := kC (((w.alloc (aH (mg d h).toArray 75)).alloc (aH (OY ek p eb ec).toArray 110)).alloc (aH kX.toArray 75));have a:=XS.adk s g hF hN (OY ek p eb ec) 75 75 110;rw [← hW] at a;obtain ⟨pa,pb,po,ab,cb,hT⟩:=s.pl.tasks g.ft iG;obtain ⟨wa,ng,cc⟩:=s.cr.row.slc;obtain ⟨T,H,ca⟩:=s.fl.slc;obtain ⟨vP,vs,bh,vW,us,vF⟩:=h;dsimp only at cb cc ca;subst cb cc ca;simp only [mg,bvs,kX,OY,Eo,oG] at hW;have HW:=hid hW;clear hW hT hF hN s g;show Calls prog _ #[aI #[K pa d.ts.length ab,E d.key,I Y d.bd.wk,aF d.bd.up,I Y d.bd.now,I Y d.bd.sn,I Y d.bd.ep,I Y d.bd.gv,K bh.a1 d.bd.L1.length bh.c1,K bh.a2 d.bd.L2.length bh.c2,K bh.ar d.bd.R.length bh.cr,K bh.aj d.bd.J.length bh.cj,K bh.az d.bd.S.length bh.cs,K bh.ao d.bd.O.length bh.co,K wa d.Ws.length ng,K T d.Fl.length H,E d.fg],aI #[I Y ek,I Y p,I Y eb,I Y ec]] w _;go_enter func59,ntmps59
 go_upto_region 1 with fail
 rw [← HW.out];clear HW;go_cut [5] (fun c wx=>∃ b:Bool,c=aF b∧(b=aN→1≤p∧p≤(d.Ws.length:Int))∧XS w B w.heap.size [OY ek p eb ec,kX] d ⟨K pa d.ts.length ab,vs,bh,K wa d.Ws.length ng,us,K T d.Fl.length H⟩ wx)
 case first =>
  have V:W.cell? ⟨w.heap.size+1,1,C⟩=U (I Y p):=((a.l 0 _ rfl) 1 jF).1;have ck:W.cell? ⟨w.heap.size,14,C⟩=U (K wa d.Ws.length ng):=(a.c 14 aU).1;have HX:=hid a;have h8:Hid (d.Ws.length≤8):=hid a.s.cr.m8;clear a;by_cases L:(1:Int)≤p
  ·by_cases h2:p≤(d.Ws.length:Int)
   ·have cf:decide (p≤(d.Ws.length:Int))=aN:=decide_eq_true h2
    have b9:decide ((1:Int)≤p)=aN:=decide_eq_true L;have HE:=hid (And.intro L h2);clear L h2;go_wp2_with fail
    go_meet
    case rel=>exact ⟨aN,rfl,fun _=>HE.out,HX.out⟩
   ·have cf:decide (p≤(d.Ws.length:Int))=aK:=decide_eq_false h2
    have b9:decide ((1:Int)≤p)=aN:=decide_eq_true L;clear L h2;go_wp2_with fail
    go_meet
    case rel=>exact ⟨aK,rfl,(fun h=>nomatch h),HX.out⟩
  ·have b9:decide ((1:Int)≤p)=aK:=decide_eq_false L
   clear L;go_wp2_with fail
   go_meet
   case rel=>exact ⟨aK,rfl,(fun h=>nomatch h),HX.out⟩
 case rest =>
  obtain ⟨b,rfl,hb,a⟩:=hcut;have b3:=hid hb;clear hb;obtain ⟨W, hW⟩ := kC wc;rw [← hW] at a ⊢;clear hW;obtain ⟨e0,V,e2,e3⟩:=C9 ((a.l 0 _ rfl));rcases adH ek with rfl | rfl | rfl | rfl | rfl | rfl | rfl | ⟨k1,k2,k3,k4,k5,k6,k7⟩
  ·skip
   clear e2 e3;go_upto_region 4 with fail
   go_wp2_with (refine kY rfl 75 (F 2) rfl w.heap.size _ rfl a.c underlying75 rfl Tryz.sizeWo ?_)
   refine (OI d ⟨K pa d.ts.length ab,vs,bh,K wa d.Ws.length ng,us,K T d.Fl.length H⟩ (XF B w.heap.size 2) a.s a.g a.xf.1 a.xf.2).mono ?_;rintro e w1 ⟨⟨d',h',rfl,s',g',n'⟩,fr⟩;have M:CF w1 (w.heap.size+2) kX:=a.lf fr (k:=1) rfl;have HN:=hid n';clear n' e0 V;go_wp2_with (refine jY rfl 75 (F 4) (F 22) rfl (w.heap.size+2) kX _ rfl rfl M rfl Tryz.sizeWo (mW s') ?_;intro an N P)
   exact bodyPost_ret (lK 75 4 results59 rfl N underlying75 rfl Tryz.sizeWo) rfl (a.ret s' g' HN.out fr P D)
  ·skip
   clear e2 e3;go_upto_region 6 with fail
   go_wp2_with (refine kY rfl 75 (F 2) rfl w.heap.size _ rfl a.c underlying75 rfl Tryz.sizeWo ?_)
   refine (IW d ⟨K pa d.ts.length ab,vs,bh,K wa d.Ws.length ng,us,K T d.Fl.length H⟩ p (XF B w.heap.size 2) a.s a.g a.xf.1 a.xf.2).mono ?_;rintro e w1 ⟨⟨d',h',rfl,s',g',n'⟩,fr⟩;have M:CF w1 (w.heap.size+2) kX:=a.lf fr (k:=1) rfl;have HN:=hid n';clear n' e0 V;go_wp2_with (refine jY rfl 75 (F 4) (F 28) rfl (w.heap.size+2) kX _ rfl rfl M rfl Tryz.sizeWo (mW s') ?_;intro an N P)
   exact bodyPost_ret (lK 75 4 results59 rfl N underlying75 rfl Tryz.sizeWo) rfl (a.ret s' g' HN.out fr P D)
  ·skip
   obtain ⟨fb,fo,ax,-⟩:=a.s.fl.PZ a.g.fx.ok;have a6:=a.g.fx.1;have bc:Hid (d.Fl.length≤H∨H=0∧d.Fl.length=0):=hid (by
    rcases a.s.fl with ⟨L,h2,_⟩ | ⟨_,_,_,L,hc⟩
    ·injection L with _ _ e;exact .inr ⟨e,h2⟩
    ·injection L with _ _ e;rw [e];exact .inl hc.le)
   have b1:W.cell? ⟨w.heap.size,15,C⟩=U (K T d.Fl.length H):=(a.c 15 aU).1;go_upto_region 8 with fail
   go_wp2_with fail
   refine (PG T fb fo d.Fl.length H d.Fl p ax a6).mono ?_;rintro e w3 ⟨⟨v3,rfl,ah⟩,ay⟩;obtain ⟨a3,c3,rfl⟩:=ah.slc;obtain ⟨n3, ak⟩ := kC ((Gi d.Fl p).length);rw [← ak] at ah ⊢;have av:=hid ak;have x3:=a.below ay;have b2:w3.cell? ⟨w.heap.size,15,C⟩=U (K T d.Fl.length H):=(x3.c 15 aU).1;have f15:w3.frozen? ⟨w.heap.size,15,C⟩=aK:=(x3.c 15 aU).2;have ag:=hid a.lt;have HQ:=hid a.q;have aw:=hid (a.g.fx.dbl p);clear ak b1 ax bc ay a e0 V e2 e3 a6;go_upto_region 23 with fail
   obtain ⟨w4, al⟩ := kC (w3.setCell ⟨w.heap.size,15,C⟩ (K a3 n3 c3));rw [← al];have x4:XS w B w.heap.size [OY 3 p eb ec,kX] { d with Fl:=Gi d.Fl p } ⟨K pa d.ts.length ab,vs,bh,K wa d.Ws.length ng,us,K a3 n3 c3⟩ w4:=by
    rw [al];exact x3.flight (z:=W.heap.size) ag.out HQ.out.2 (by rw [← av.out];exact ah) aw.out (lU (lJ _ _) 15 _) (x3.c.set (j:=15) aU _)
   clear al x3 b2 f15 ah av ag HQ aw;have M:CF _ (w.heap.size+2) kX:=x4.l 1 _ rfl;go_wp2_with (first | (refine kY rfl 75 (F 2) rfl w.heap.size _ rfl x4.c underlying75 rfl Tryz.sizeWo ?_) | (refine jY rfl 75 (F 4) (F 111) rfl (w.heap.size+2) kX _ rfl rfl M rfl Tryz.sizeWo (mW x4.s) ?_;intro an N P))
   exact bodyPost_ret (lK 75 4 results59 rfl N underlying75 rfl Tryz.sizeWo) rfl (x4.fin P D)
  ·skip
   obtain ⟨fb,fo,ax,-⟩:=a.s.fl.PZ a.g.fx.ok;have a6:=a.g.fx.1;have bc:Hid (d.Fl.length≤H∨H=0∧d.Fl.length=0):=hid (by
    rcases a.s.fl with ⟨L,h2,_⟩ | ⟨_,_,_,L,hc⟩
    ·injection L with _ _ e;exact .inr ⟨e,h2⟩
    ·injection L with _ _ e;rw [e];exact .inl hc.le)
   have b1:W.cell? ⟨w.heap.size,15,C⟩=U (K T d.Fl.length H):=(a.c 15 aU).1;go_upto_region 10 with fail
   go_wp2_with fail
   refine (KI T fb fo d.Fl.length H d.Fl p ax a6 (by have:=bc.out;omega)).mono ?_;rintro e w3 ⟨⟨v3,rfl,ah⟩,ay⟩;obtain ⟨a3,c3,rfl⟩:=ah.slc;obtain ⟨n3, ak⟩ := kC ((Fh d.Fl p).length);rw [← ak] at ah ⊢;have av:=hid ak;have x3:=a.below ay;have b2:w3.cell? ⟨w.heap.size,15,C⟩=U (K T d.Fl.length H):=(x3.c 15 aU).1;have f15:w3.frozen? ⟨w.heap.size,15,C⟩=aK:=(x3.c 15 aU).2;have ag:=hid a.lt;have HQ:=hid a.q;have aw:=hid (a.g.fx.los p);clear ak b1 ax bc ay a e0 V e2 e3 a6;go_upto_region 23 with fail
   obtain ⟨w4, al⟩ := kC (w3.setCell ⟨w.heap.size,15,C⟩ (K a3 n3 c3));rw [← al];have x4:XS w B w.heap.size [OY 4 p eb ec,kX] { d with Fl:=Fh d.Fl p } ⟨K pa d.ts.length ab,vs,bh,K wa d.Ws.length ng,us,K a3 n3 c3⟩ w4:=by
    rw [al];exact x3.flight (z:=W.heap.size) ag.out HQ.out.2 (by rw [← av.out];exact ah) aw.out (lU (lJ _ _) 15 _) (x3.c.set (j:=15) aU _)
   clear al x3 b2 f15 ah av ag HQ aw;have M:CF _ (w.heap.size+2) kX:=x4.l 1 _ rfl;go_wp2_with (first | (refine kY rfl 75 (F 2) rfl w.heap.size _ rfl x4.c underlying75 rfl Tryz.sizeWo ?_) | (refine jY rfl 75 (F 4) (F 111) rfl (w.heap.size+2) kX _ rfl rfl M rfl Tryz.sizeWo (mW x4.s) ?_;intro an N P))
   exact bodyPost_ret (lK 75 4 results59 rfl N underlying75 rfl Tryz.sizeWo) rfl (x4.fin P D)
  ·skip
   obtain ⟨fb,fo,ax,-⟩:=a.s.fl.PZ a.g.fx.ok;have a6:=a.g.fx.1;have bc:Hid (d.Fl.length≤H∨H=0∧d.Fl.length=0):=hid (by
    rcases a.s.fl with ⟨L,h2,_⟩ | ⟨_,_,_,L,hc⟩
    ·injection L with _ _ e;exact .inr ⟨e,h2⟩
    ·injection L with _ _ e;rw [e];exact .inl hc.le)
   have b1:W.cell? ⟨w.heap.size,15,C⟩=U (K T d.Fl.length H):=(a.c 15 aU).1;go_upto_region 12 with fail
   go_wp2_with fail
   refine (Ub T fb fo d.Fl.length H d.Fl p eb ec ax a6).mono ?_;rintro e w3 ⟨⟨v3,rfl,ah⟩,ay⟩;obtain ⟨a3,c3,rfl⟩:=ah.slc;obtain ⟨n3, ak⟩ := kC ((EM d.Fl p eb ec).length);rw [← ak] at ah ⊢;have av:=hid ak;have x3:=a.below ay;have b2:w3.cell? ⟨w.heap.size,15,C⟩=U (K T d.Fl.length H):=(x3.c 15 aU).1;have f15:w3.frozen? ⟨w.heap.size,15,C⟩=aK:=(x3.c 15 aU).2;have ag:=hid a.lt;have HQ:=hid a.q;have aw:=hid (a.g.fx.bnd p eb ec);clear ak b1 ax bc ay a e0 V e2 e3 a6;go_upto_region 23 with fail
   obtain ⟨w4, al⟩ := kC (w3.setCell ⟨w.heap.size,15,C⟩ (K a3 n3 c3));rw [← al];have x4:XS w B w.heap.size [OY 5 p eb ec,kX] { d with Fl:=EM d.Fl p eb ec } ⟨K pa d.ts.length ab,vs,bh,K wa d.Ws.length ng,us,K a3 n3 c3⟩ w4:=by
    rw [al];exact x3.flight (z:=W.heap.size) ag.out HQ.out.2 (by rw [← av.out];exact ah) aw.out (lU (lJ _ _) 15 _) (x3.c.set (j:=15) aU _)
   clear al x3 b2 f15 ah av ag HQ aw;have M:CF _ (w.heap.size+2) kX:=x4.l 1 _ rfl;go_wp2_with (first | (refine kY rfl 75 (F 2) rfl w.heap.size _ rfl x4.c underlying75 rfl Tryz.sizeWo ?_) | (refine jY rfl 75 (F 4) (F 111) rfl (w.heap.size+2) kX _ rfl rfl M rfl Tryz.sizeWo (mW x4.s) ?_;intro an N P))
   exact bodyPost_ret (lK 75 4 results59 rfl N underlying75 rfl Tryz.sizeWo) rfl (x4.fin P D)
  ·skip
   by_cases ha:p=0
   ·have bl:(p == 0)=aN:=by simp [ha]
    clear ha;obtain ⟨pb,po,hT⟩:=a.s.pl.tasks' a.g.ft (by have:=a.g.tz;unfold maxLen;omega);have y0:W.cell? ⟨w.heap.size,0,C⟩=U (K pa d.ts.length ab):=(a.c 0 aU).1;have bu:W.rangeAt w.heap.size 2 (bvs d.bd bh):=a.c.range [K pa d.ts.length ab,E d.key] (bvs d.bd bh) [K wa d.Ws.length ng,K T d.Fl.length H,E d.fg];go_upto_region 15 with fail
    go_wp2_with (refine wpList_load_mid rfl 30 (F 62) rfl w.heap.size 2 rfl (bvs d.bd bh) _ bu underlying30 rfl Tryz.sizeBo ?_)
    refine (MR d.bd bh pa pb po d.ts.length ab d.ts eb a.s.bo.o1.slS (a.s.bo.m a.g.fb) hT a.g.sb.small).mono ?_;rintro e w9 ⟨⟨b4,⟨b5,rfl,hL⟩,hR⟩,ai⟩;have x9:=a.below ai;have bg:=hid (hR.fits a.g.fb);have bj:=hid hR.tiny;have ag:=hid a.lt;have HQ:=hid a.q;have bn:CF w9 w.heap.size ([K pa d.ts.length ab,E d.key] ++ bvs d.bd bh ++ [K wa d.Ws.length ng,K T d.Fl.length H,E d.fg]):=x9.c;clear y0 bu hT ai hR a e0 V e2 e3;go_upto_region 23 with (refine uj rfl 30 (F 69) (F 68) rfl w.heap.size 2 [K pa d.ts.length ab,E d.key] (bvs d.bd bh) [K wa d.Ws.length ng,K T d.Fl.length H,E d.fg] (bvs b4 b5) rfl rfl rfl bn rfl Tryz.sizeBo (nC _ _) ?_;intro cg bm bp)
    have au:=x9.D8 (z:=W.heap.size) ag.out HQ.out.2 hL bg.out bj.out bp bm;clear x9 bn hL bm bp bg bj ag HQ;have M:CF _ (w.heap.size+2) kX:=au.l 1 _ rfl;go_wp2_with (first | (refine kY rfl 75 (F 2) rfl w.heap.size _ rfl au.c underlying75 rfl Tryz.sizeWo ?_) | (refine jY rfl 75 (F 4) (F 111) rfl (w.heap.size+2) kX _ rfl rfl M rfl Tryz.sizeWo (mW au.s) ?_;intro an N P))
    exact bodyPost_ret (lK 75 4 results59 rfl N underlying75 rfl Tryz.sizeWo) rfl (au.fin P D)
   ·have bl:(p == 0)=aK:=beq_eq_false_iff_ne.2 ha
    clear ha;cases b with
    | false =>
     clear e2 e3;go_upto_region 23 with fail
     clear e0 V;have M:CF _ (w.heap.size+2) kX:=a.l 1 _ rfl;go_wp2_with (first | (refine kY rfl 75 (F 2) rfl w.heap.size _ rfl a.c underlying75 rfl Tryz.sizeWo ?_) | (refine jY rfl 75 (F 4) (F 111) rfl (w.heap.size+2) kX _ rfl rfl M rfl Tryz.sizeWo (mW a.s) ?_;intro an N P))
     exact bodyPost_ret (lK 75 4 results59 rfl N underlying75 rfl Tryz.sizeWo) rfl (a.fin P D)
    | true =>
     have bf:=hid (b3.out rfl);clear e2 e3 b3;go_upto_region 17 with fail
     clear e0 V bl;obtain ⟨b6,hle⟩:=bf.out;have h8:=a.s.cr.m8;obtain ⟨j,rfl⟩:∃ j:Nat,p=(j:Int)+1:=⟨(p - 1).toNat,A⟩
     have ae:j<d.Ws.length:=A;have b8:Own 0 W 11 (K wa d.Ws.length ng) d.Ws.length (qV d.Ws us):=a.s.cr.row;rcases b8 with ⟨L,h2,_⟩ | ⟨g9,Q,cap,L,b7⟩
     ·omega
     injection L with V _ e3;subst V e3;clear b6 hle b7 bf;refine wp_region_held (S:=fun w'=>w'.cell? ⟨w.heap.size,14,C⟩=U (K (U ⟨g9,Q,C⟩) d.Ws.length ng)∧w'.cell? ⟨w.heap.size+1,1,C⟩=U (I Y ((j:Int)+1))) Z ?_;change wpAnyH _ _ _ _ _ _ _ _ (World.drew _);obtain ⟨wd, bb⟩ := kC W.drew;have t:=a.below (show Below W.heap.size W wd by rw [bb];exact mD.drew);rw [← bb];clear bb a;have r:=And.intro (t.c 14 aU).1 ((t.l 0 _ rfl) 1 jF).1;obtain ⟨ia,ib,io,ic,bq,bw⟩:=t.str ae;have a8:=abB (nD d.Ws j) ia ib io ic wd bw;rw [← bq] at a8;refine jZ (i:=0) (d:=U 71) (v:=aG (U ⟨w.heap.size,14,C⟩)) (l':=bt 15 1) rfl (fun _ _=>Z) r ?_;refine jZ (i:=1) (d:=U 72) (v:=K (U ⟨g9,Q,C⟩) d.Ws.length ng) (l':=bt 15 3) rfl (fun _ hh=>rO (F 71) Z Z hh.1) r ?_;refine jZ (i:=2) (d:=U 73) (v:=aG (U ⟨w.heap.size+1,1,C⟩)) (l':=bt 15 7) rfl (fun _ _=>Z) r ?_;refine jZ (i:=3) (d:=U 74) (v:=I Y ((j:Int)+1)) (l':=bt 15 15) rfl (fun _ hh=>oL (F 73) Z Z hh.2) r ?_;refine jZ (i:=4) (d:=U 75) (v:=I Y (j:Nat)) (l':=bt 15 31) rfl (fun _ _=>Cj (F 74) j A Z Z Z) r ?_;refine jZ (i:=5) (d:=U 76) (v:=aG (U ⟨w.heap.size,14,C⟩)) (l':=bt 15 63) rfl (fun _ _=>Z) r ?_;refine jZ (i:=6) (d:=U 77) (v:=K (U ⟨g9,Q,C⟩) d.Ws.length ng) (l':=bt 15 127) rfl (fun _ hh=>rO (F 76) Z Z hh.1) r ?_;refine jZ (i:=7) (d:=U 78) (v:=aG (U ⟨w.heap.size+1,1,C⟩)) (l':=bt 15 255) rfl (fun _ _=>Z) r ?_;refine jZ (i:=8) (d:=U 79) (v:=I Y ((j:Int)+1)) (l':=bt 15 511) rfl (fun _ hh=>oL (F 78) Z Z hh.2) r ?_;refine jZ (i:=9) (d:=U 80) (v:=I Y (j:Nat)) (l':=bt 15 1023) rfl (fun _ _=>Cj (F 79) j A Z Z Z) r ?_;refine jZ (i:=10) (d:=U 81) (v:=aG (U ⟨g9,Q+j*11,C⟩)) (l':=bt 15 2047) rfl (fun _ _=>CO (F 77) (F 80) g9 Q d.Ws.length ng j Z Z Z ae) r ?_;generalize ba:Act.put _ _ _=cd;refine SC (i:=11) (d:=U 82) (v:=aI (lZ (nD d.Ws j) (us.getD j kH)).toArray) (w':=wd) (l':=bt 15 4095) Z rfl Z (by subst ba;kernel_rfl) Z (Dl 127 (lZ (nD d.Ws j) (us.getD j kH)) (F 81) Z (by subst ba;kernel_rfl) (EO.range (t.row rfl) ae) underlying127 rfl Tryz.sizeWk) r ?_;subst ba;generalize X:Act.put _ _ _=aa;refine XW (i:=12) (d:=U 83) (f:=81) (args:=#[aI (lZ (nD d.Ws j) (us.getD j kH)).toArray]) (l':=bt 15 8191) (R:=RFw wd) Z rfl Z dM Z (lW _ _ rfl dM rfl aaM) (by exact a8) ?_;rintro v9 w9 ⟨kd,va,aq,rfl,bs,br,ai⟩;have t9:=t.below ai;have a7:=And.intro (t9.c 14 aU).1 ((t9.l 0 _ rfl) 1 jF).1;refine ⟨a7,?_⟩;subst X;refine jZ (i:=13) (d:=U 84) (v:=aG (U ⟨g9,Q+j*11,C⟩)) (l':=bt 15 16383) rfl (fun _ _=>CO (F 72) (F 75) g9 Q d.Ws.length ng j Z Z Z ae) a7 ?_;have af:=t9.worker (g:=g9) (o:=Q) (cap:=ng) (i:=j) (k:=kd) (u:=K va kd.ss.length aq) rfl (z:=wd.heap.size) t.lt t.q.2 ae bs br;have bz:w9.there g9 (Q+j*11) 11:=EO.there (t9.row rfl) ae;have bk:=And.intro (af.c 14 aU).1 ((af.l 0 _ rfl) 1 jF).1;generalize X:Act.put _ _ _=aa;refine qc (i:=14) (w':=w9.setCells g9 (Q+j*11) (lZ kd (K va kd.ss.length aq))) (l':=bt 15 32767) Z rfl Z dM Z (PL kd va kd.ss.length aq (F 84) (F 83) Z dM dM bz) bk ?_;subst X;refine wpAnyH_done Z ?_ _;obtain ⟨ch, b0⟩ := kC (w9.setCells g9 (Q+j*11) (lZ kd (K va kd.ss.length aq)))
     rw [← b0] at af ⊢;clear r a7 bk t t9 bz a8 bw bq bs br ai b0 h8 ae;go_simp;go_upto_region 23 with fail
     have M:CF _ (w.heap.size+2) kX:=af.l 1 _ rfl;go_wp2_with (first | (refine kY rfl 75 (F 2) rfl w.heap.size _ rfl af.c underlying75 rfl Tryz.sizeWo ?_) | (refine jY rfl 75 (F 4) (F 111) rfl (w.heap.size+2) kX _ rfl rfl M rfl Tryz.sizeWo (mW af.s) ?_;intro an N P))
     exact bodyPost_ret (lK 75 4 results59 rfl N underlying75 rfl Tryz.sizeWo) rfl (af.fin P D)
  ·skip
   by_cases ha:p=0
   ·have bl:(p == 0)=aN:=by simp [ha]
    clear ha;obtain ⟨pb,po,hT⟩:=a.s.pl.tasks' a.g.ft (by have:=a.g.tz;unfold maxLen;omega);have y0:W.cell? ⟨w.heap.size,0,C⟩=U (K pa d.ts.length ab):=(a.c 0 aU).1;have bu:W.rangeAt w.heap.size 2 (bvs d.bd bh):=a.c.range [K pa d.ts.length ab,E d.key] (bvs d.bd bh) [K wa d.Ws.length ng,K T d.Fl.length H,E d.fg];go_upto_region 20 with fail
    go_wp2_with (refine wpList_load_mid rfl 30 (F 90) rfl w.heap.size 2 rfl (bvs d.bd bh) _ bu underlying30 rfl Tryz.sizeBo ?_)
    refine (Gu d.bd bh pa pb po d.ts.length ab d.ts _ (a.s.bo.m a.g.fb) hT a.g.sb.small).mono ?_;rintro e w9 ⟨⟨b4,⟨b5,rfl,hL⟩,hR⟩,ai⟩;have x9:=a.below ai;have bg:=hid (hR.fits a.g.fb);have bj:=hid hR.tiny;have ag:=hid a.lt;have HQ:=hid a.q;have bn:CF w9 w.heap.size ([K pa d.ts.length ab,E d.key] ++ bvs d.bd bh ++ [K wa d.Ws.length ng,K T d.Fl.length H,E d.fg]):=x9.c;clear y0 bu hT ai hR a e0 V e2 e3;go_upto_region 23 with (refine uj rfl 30 (F 95) (F 94) rfl w.heap.size 2 [K pa d.ts.length ab,E d.key] (bvs d.bd bh) [K wa d.Ws.length ng,K T d.Fl.length H,E d.fg] (bvs b4 b5) rfl rfl rfl bn rfl Tryz.sizeBo (nC _ _) ?_;intro cg bm bp)
    have au:=x9.D8 (z:=W.heap.size) ag.out HQ.out.2 hL bg.out bj.out bp bm;clear x9 bn hL bm bp bg bj ag HQ;have M:CF _ (w.heap.size+2) kX:=au.l 1 _ rfl;go_wp2_with (first | (refine kY rfl 75 (F 2) rfl w.heap.size _ rfl au.c underlying75 rfl Tryz.sizeWo ?_) | (refine jY rfl 75 (F 4) (F 111) rfl (w.heap.size+2) kX _ rfl rfl M rfl Tryz.sizeWo (mW au.s) ?_;intro an N P))
    exact bodyPost_ret (lK 75 4 results59 rfl N underlying75 rfl Tryz.sizeWo) rfl (au.fin P D)
   ·have bl:(p == 0)=aK:=beq_eq_false_iff_ne.2 ha
    clear ha;cases b with
    | false =>
     clear e2 e3;go_upto_region 23 with fail
     clear e0 V;have M:CF _ (w.heap.size+2) kX:=a.l 1 _ rfl;go_wp2_with (first | (refine kY rfl 75 (F 2) rfl w.heap.size _ rfl a.c underlying75 rfl Tryz.sizeWo ?_) | (refine jY rfl 75 (F 4) (F 111) rfl (w.heap.size+2) kX _ rfl rfl M rfl Tryz.sizeWo (mW a.s) ?_;intro an N P))
     exact bodyPost_ret (lK 75 4 results59 rfl N underlying75 rfl Tryz.sizeWo) rfl (a.fin P D)
    | true =>
     have bf:=hid (b3.out rfl);clear e2 e3 b3;go_upto_region 22 with fail
     clear e0 V bl;obtain ⟨b6,hle⟩:=bf.out;have h8:=a.s.cr.m8;obtain ⟨j,rfl⟩:∃ j:Nat,p=(j:Int)+1:=⟨(p - 1).toNat,A⟩
     have ae:j<d.Ws.length:=A;have b8:Own 0 W 11 (K wa d.Ws.length ng) d.Ws.length (qV d.Ws us):=a.s.cr.row;rcases b8 with ⟨L,h2,_⟩ | ⟨g9,Q,cap,L,b7⟩
     ·omega
     injection L with V _ e3;subst V e3;clear b6 hle b7 bf;refine wp_region_held (S:=fun w'=>w'.cell? ⟨w.heap.size,14,C⟩=U (K (U ⟨g9,Q,C⟩) d.Ws.length ng)∧w'.cell? ⟨w.heap.size+1,1,C⟩=U (I Y ((j:Int)+1))) Z ?_;change wpAnyH _ _ _ _ _ _ _ _ (World.drew _);obtain ⟨wd, bb⟩ := kC W.drew;have t:=a.below (show Below W.heap.size W wd by rw [bb];exact mD.drew);rw [← bb];clear bb a;have r:=And.intro (t.c 14 aU).1 ((t.l 0 _ rfl) 1 jF).1;obtain ⟨ia,ib,io,ic,bq,bw⟩:=t.str ae;have a8:=abA (nD d.Ws j) ia ib io ic wd bw;rw [← bq] at a8;refine jZ (i:=0) (d:=U 97) (v:=aG (U ⟨w.heap.size,14,C⟩)) (l':=bt 15 1) rfl (fun _ _=>Z) r ?_;refine jZ (i:=1) (d:=U 98) (v:=K (U ⟨g9,Q,C⟩) d.Ws.length ng) (l':=bt 15 3) rfl (fun _ hh=>rO (F 97) Z Z hh.1) r ?_;refine jZ (i:=2) (d:=U 99) (v:=aG (U ⟨w.heap.size+1,1,C⟩)) (l':=bt 15 7) rfl (fun _ _=>Z) r ?_;refine jZ (i:=3) (d:=U 100) (v:=I Y ((j:Int)+1)) (l':=bt 15 15) rfl (fun _ hh=>oL (F 99) Z Z hh.2) r ?_;refine jZ (i:=4) (d:=U 101) (v:=I Y (j:Nat)) (l':=bt 15 31) rfl (fun _ _=>Cj (F 100) j A Z Z Z) r ?_;refine jZ (i:=5) (d:=U 102) (v:=aG (U ⟨w.heap.size,14,C⟩)) (l':=bt 15 63) rfl (fun _ _=>Z) r ?_;refine jZ (i:=6) (d:=U 103) (v:=K (U ⟨g9,Q,C⟩) d.Ws.length ng) (l':=bt 15 127) rfl (fun _ hh=>rO (F 102) Z Z hh.1) r ?_;refine jZ (i:=7) (d:=U 104) (v:=aG (U ⟨w.heap.size+1,1,C⟩)) (l':=bt 15 255) rfl (fun _ _=>Z) r ?_;refine jZ (i:=8) (d:=U 105) (v:=I Y ((j:Int)+1)) (l':=bt 15 511) rfl (fun _ hh=>oL (F 104) Z Z hh.2) r ?_;refine jZ (i:=9) (d:=U 106) (v:=I Y (j:Nat)) (l':=bt 15 1023) rfl (fun _ _=>Cj (F 105) j A Z Z Z) r ?_;refine jZ (i:=10) (d:=U 107) (v:=aG (U ⟨g9,Q+j*11,C⟩)) (l':=bt 15 2047) rfl (fun _ _=>CO (F 103) (F 106) g9 Q d.Ws.length ng j Z Z Z ae) r ?_;generalize ba:Act.put _ _ _=cd;refine SC (i:=11) (d:=U 108) (v:=aI (lZ (nD d.Ws j) (us.getD j kH)).toArray) (w':=wd) (l':=bt 15 4095) Z rfl Z (by subst ba;kernel_rfl) Z (Dl 127 (lZ (nD d.Ws j) (us.getD j kH)) (F 107) Z (by subst ba;kernel_rfl) (EO.range (t.row rfl) ae) underlying127 rfl Tryz.sizeWk) r ?_;subst ba;generalize X:Act.put _ _ _=aa;refine XW (i:=12) (d:=U 109) (f:=82) (args:=#[aI (lZ (nD d.Ws j) (us.getD j kH)).toArray]) (l':=bt 15 8191) (R:=RFw wd) Z rfl Z dM Z (lW _ _ rfl dM rfl aaK) (by exact a8) ?_;rintro v9 w9 ⟨kd,va,aq,rfl,bs,br,ai⟩;have t9:=t.below ai;have a7:=And.intro (t9.c 14 aU).1 ((t9.l 0 _ rfl) 1 jF).1;refine ⟨a7,?_⟩;subst X;refine jZ (i:=13) (d:=U 110) (v:=aG (U ⟨g9,Q+j*11,C⟩)) (l':=bt 15 16383) rfl (fun _ _=>CO (F 98) (F 101) g9 Q d.Ws.length ng j Z Z Z ae) a7 ?_;have af:=t9.worker (g:=g9) (o:=Q) (cap:=ng) (i:=j) (k:=kd) (u:=K va kd.ss.length aq) rfl (z:=wd.heap.size) t.lt t.q.2 ae bs br;have bz:w9.there g9 (Q+j*11) 11:=EO.there (t9.row rfl) ae;have bk:=And.intro (af.c 14 aU).1 ((af.l 0 _ rfl) 1 jF).1;generalize X:Act.put _ _ _=aa;refine qc (i:=14) (w':=w9.setCells g9 (Q+j*11) (lZ kd (K va kd.ss.length aq))) (l':=bt 15 32767) Z rfl Z dM Z (PL kd va kd.ss.length aq (F 110) (F 109) Z dM dM bz) bk ?_;subst X;refine wpAnyH_done Z ?_ _;obtain ⟨ch, b0⟩ := kC (w9.setCells g9 (Q+j*11) (lZ kd (K va kd.ss.length aq)))
     rw [← b0] at af ⊢;clear r a7 bk t t9 bz a8 bw bq bs br ai b0 h8 ae;go_simp;go_upto_region 23 with fail
     have M:CF _ (w.heap.size+2) kX:=af.l 1 _ rfl;go_wp2_with (first | (refine kY rfl 75 (F 2) rfl w.heap.size _ rfl af.c underlying75 rfl Tryz.sizeWo ?_) | (refine jY rfl 75 (F 4) (F 111) rfl (w.heap.size+2) kX _ rfl rfl M rfl Tryz.sizeWo (mW af.s) ?_;intro an N P))
     exact bodyPost_ret (lK 75 4 results59 rfl N underlying75 rfl Tryz.sizeWo) rfl (af.fin P D)
  ·skip
   clear e2 e3;go_upto_region 23 with fail
   clear e0 V k1 k2 k3 k4 k5 k6 k7;have M:CF _ (w.heap.size+2) kX:=a.l 1 _ rfl;go_wp2_with (first | (refine kY rfl 75 (F 2) rfl w.heap.size _ rfl a.c underlying75 rfl Tryz.sizeWo ?_) | (refine jY rfl 75 (F 4) (F 111) rfl (w.heap.size+2) kX _ rfl rfl M rfl Tryz.sizeWo (mW a.s) ?_;intro an N P))
   exact bodyPost_ret (lK 75 4 results59 rfl N underlying75 rfl Tryz.sizeWo) rfl (a.fin P D)
end Go.Proofs.YtfkkipgcfoegmaaGreat
