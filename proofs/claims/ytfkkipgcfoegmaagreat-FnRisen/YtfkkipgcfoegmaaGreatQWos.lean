
import Derived.Test.YtfkkipgcfoegmaaGreatQNws
import Derived.Test.YtfkkipgcfoegmaaGreatQBkg
set_option maxHeartbeats 2000000
set_option maxRecDepth 100000
namespace Go.Proofs.YtfkkipgcfoegmaaGreat
open Go.Proofs.Tryz
open Go.Value renaming slice→K,string→E
open Option renaming none→C,some→U
open Go.Ending renaming returned→aO
open Go.Value renaming int→I
open Go.IntKind renaming i64→Y
open Go.RowKit
variable {Ws:List pU} {cap g i j q:Nat} {key s:ByteArray} {mask:Int} {v:Value} {vs:List Value} {w:World}
open Classical in
noncomputable def MV (key:ByteArray) (d:lQ):ByteArray :=
 if vM d.kd d.fm d.tw d.ep d.le d.ta d.x.size d.ss∧key.size≤30 then Gf key [AA d.kd d.fm d.tw d.ep d.le d.ta d.x d.ss] ++ AA d.kd d.fm d.tw d.ep d.le d.ta d.x d.ss else ⟨#[]⟩
theorem ada (key:ByteArray) (d:lQ):F7 key d.kd d.fm d.tw d.ep d.le d.ta d.x d.ss (MV key d):=by
 unfold MV;split
 ·rename_i h;exact .inl ⟨h.1,h.2,rfl⟩
 ·rename_i h;exact .inr ⟨h,rfl⟩
noncomputable def Ic (key:ByteArray) (P:List Pc) (d:lQ):List Pc:=if (MV key d).size=0 then P else if P.length<2000 then P ++ [(d.tw,MV key d,MV key d)] else P
noncomputable def Jb (key:ByteArray) (P:List Pc) (M:List lQ):List Pc:=M.foldl (Ic key) P
theorem aaj (key:ByteArray) (P:List Pc) (M:List lQ) (k:Nat) (a:k<M.length):Jb key P (M.take (k+1))=Ic key (Jb key P (M.take k)) (rF M k):=by
 have e:M.take (k+1)=M.take k ++ [rF M k]:=by
  rw [Og,nH a];simp [rF,List.getD,List.getElem?_eq_getElem a]
 rw [e,Jb,List.foldl_append];rfl
theorem aak (key:ByteArray) (P:List Pc) (d:lQ) (a:P.length≤1048576):(Ic key P d).length≤1048576:=by
 unfold Ic;split
 ·exact a
 ·split
  ·rw [lD,mQ];omega
  ·exact a
theorem ab5 (key:ByteArray) (M:List lQ):∀ (P:List Pc),P.length≤1048576→(Jb key P M).length≤1048576:=by
 induction M with
 | nil=>intro P h;exact h
 | cons d r ih=>intro P h;exact ih _ (aak key P d h)
theorem fe (h:s.size=0):s=⟨#[]⟩:=by
 obtain ⟨d⟩:=s;have:d.size=0:=h;rw [Array.eq_empty_of_size_eq_zero this]
theorem fne (h:¬ s.size=0):s.toList.isEmpty=false:=by
 cases a:s.toList with
 | cons y r=>rfl
 | nil =>
  refine absurd ?_ h;have:s=⟨#[]⟩:=ba_eq (by rw [← Di,a]);rw [this];rfl
theorem Ua (a:Option Addr) (b o n c:Nat) (P:List Pc) (a2:Option Addr) (b2 o2 n2 c2:Nat) (M:List lQ) (key:ByteArray) (h:rE w a b o n P) (g:Vm w a2 b2 o2 n2 M) (hn:n≤1048576) (b0:n2≤1048576) (hk:key.size≤maxLen) :
  Calls prog 90 #[K a n c,K a2 n2 c2,E key] w fun e w'=>Ip e w.heap.size w' (Jb key P M)∧Below w.heap.size w w':=by
 obtain ⟨i0,hi,bo,bp,bq⟩:=info_parts Tryz.infoPc;have hl:=h.len;have bw:=g.len;go_enter func90,ntmps90
 go_wp2_with fail
 refine (EF a b o n c P w h hn).mono ?_;rintro e N ⟨⟨v,rfl,bj⟩,bf⟩;have bc:=hid (ab5 key · P (by rw [hl];exact hn));clear h;go_wp2;go_loopw [7,8] (fun lv i wr=>∃ k:Nat,k≤n2∧i=I Y k∧Own w.heap.size wr 3 lv (Jb key P (M.take k)).length (oN (Jb key P (M.take k)))∧Below w.heap.size w wr) (fun _ i _=>n2 - (intOf i).toNat)
 case atStart=>exact ⟨0,lG _,rfl,bj,bf⟩
 case round =>
  obtain ⟨k,bu,rfl,z,f⟩:=hrel;obtain ⟨aa,cc,rfl⟩:=z.slc;by_cases p:k<n2
  ·obtain rfl:=g.ad A
   have aq:=(g.below' f).c0 k p;have au:=(g.below' f).c1 k p;have af:=(g.below' f).c2 k p;have av:=(g.below' f).c3 k p;have aw:=(g.below' f).c4 k p;have ax:=(g.below' f).c5 k p;have ay:=(g.below' f).c6 k p;obtain ⟨a3,b3,o3,c3,a6,ak⟩:=(g.below' f).cn k p;have ah:=(g.below' f).rng k p;obtain ⟨⟨J,H,d,ep,le,L,x,l⟩,hx⟩:∃ x,x=rF M k:=⟨_,rfl⟩
   rw [← hx] at aq au af av aw ax ay a6 ak ah;dsimp only at aq au af av aw ax ay a6 ak ah;have bz:(k:Int)<(n2:Int):=A;obtain ⟨Q, X⟩ := kC (Jb key P (M.take k));rw [← X] at z ⊢;have br:Q.length≤1048576:=by rw [X];exact bc.out _
   have ai:=aaj key P M k A;rw [← X,← hx] at ai;have ae:=hid ai;have ag:=ada key ⟨J,H,d,ep,le,L,x,l⟩;obtain ⟨r, hr⟩ := kC (MV key ⟨J,H,d,ep,le,L,x,l⟩);rw [← hr] at ag;have W:Hid (∀ N,kS N a3 b3 o3 l.length l→Calls prog 102 #[.agg #[I Y J,I Y H,I Y d,I Y ep,I Y le,I Y L,E x,K a3 l.length c3],E key] N fun e' w'=>e'=aO (E r)∧Below N.heap.size N w'):=fun N bn=>by
    refine (Hr J H d ep le L x a3 b3 o3 l.length c3 l key N bn hk).mono ?_;rintro e' w' ⟨⟨r',rfl,bl⟩,R⟩;rw [bl.uniq ag];exact ⟨rfl,R⟩
   have HR:=hid hr;clear hr ag ai hx X ah;go_wp2_with fail
   refine (W.out _ ak).mono ?_;rintro e' q ⟨rfl,S⟩;have R:=f.trans (S.mono f.size);have ab:=z.below S kL;have b5:=kV S af;have bs:(Q.length:Int)≤1048576:=A;by_cases V:r.size=0
   ·have T:=hid (show Ic key Q ⟨J,H,d,ep,le,L,x,l⟩=Q by unfold Ic;rw [← HR.out,if_pos V])
    obtain rfl:=fe V;clear W S z;go_wp2;go_roundw
    case rel=>exact ⟨k+1,A,aW,by rw [ae.out,T.out];exact ab,R⟩
    case measure=>simp [intOf];omega
   ·have b1:=fne V
    by_cases al:Q.length<2000
    ·have T:=hid (show Ic key Q ⟨J,H,d,ep,le,L,x,l⟩=Q ++ [(d,r,r)] by unfold Ic;rw [← HR.out,if_neg V,if_pos al])
     have bd:(Q.length:Int)<2000:=A;have an:Below w.heap.size w (q.alloc (.cells #[I Y d,E r,E r] 133)):=R.alloc R.size _;have ba:=an.size;have a8:Own w.heap.size (q.alloc (.cells #[I Y d,E r,E r] 133)) 3 (K aa Q.length cc) Q.length (oN Q):=ab.alloc _;have bb:Src prog 3 73 (K (U ⟨q.heap.size,0,C⟩) 1 1) 1 (oN [(d,r,r)]) (q.alloc (.cells #[I Y d,E r,E r] 133)):=by
      have bh:CF (q.alloc (.cells #[I Y d,E r,E r] 133)) q.heap.size [I Y d,E r,E r]:=CF.made q _ _;refine Src.ofSlice _ underlying73 ⟨q.heap.size,0,C⟩ 1 1 _ rfl (fun j u hu=>?_) (PY);rw [Addr.add_lit,ny];exact (bh j (by have:=(List.getElem?_eq_some_iff.1 hu).1;simpa [oN,Ku] using this)).1.trans hu
     have bm:=ab.ku;clear W S z;go_wp2_with (refine kT _ rfl _ _ 73 73 rfl w.heap.size 133 i0 _ 3 40 underlying73 hi bo bp bq rfl (K aa Q.length cc) Q.length (oN Q) rfl a8 (K (U ⟨q.heap.size,0,C⟩) 1 1) 1 (oN [(d,r,r)]) rfl bb G A ba ?_;intro v' w3 bk a7 b4;have bg:=an.grown a7 ba bm;clear a7 a8 bb)
     go_roundw
     case rel=>exact ⟨k+1,A,aW,by rw [ae.out,T.out,lD,JL];exact bk,bg⟩
     case measure=>simp [intOf];omega
    ·have T:=hid (show Ic key Q ⟨J,H,d,ep,le,L,x,l⟩=Q by unfold Ic;rw [if_neg (by rw [← HR.out];exact V),if_neg al])
     have bd:¬ (Q.length:Int)<2000:=A;clear W S z;go_wp2;go_roundw
     case rel=>exact ⟨k+1,A,aW,by rw [ae.out,T.out];exact ab,R⟩
     case measure=>simp [intOf];omega
  ·obtain rfl:k=n2:=by omega
   rw [pF A] at z ⊢;go_wp2;go_ret;exact ⟨⟨_,rfl,z⟩,f⟩
def bn (s:ByteArray):List Int:=s.data.toList.map fun b=>(b.toNat:Int)
theorem Zh (s:ByteArray):(bn s).length=s.size:=by unfold bn;rw [List.length_map,nZ];rfl
theorem Va (s:ByteArray):byteCells s=(bn s).map (Value.int .u8):=by simp [byteCells,bn]
theorem Zf {B:Nat} (h:Own B w 1 v s.size (byteCells s)) (d:0<s.size):∃ g o cap,v=K (U ⟨g,o,C⟩) s.size cap∧kW B w 1 g o cap s.size ((bn s).map (Value.int .u8)):=by
 rcases h with ⟨_,c,_⟩ | ⟨g,o,cap,rfl,a⟩
 ·omega
 ·exact ⟨g,o,cap,rfl,by rw [← Va];exact a⟩
def bx (s:ByteArray) (q:Nat) (mask:Int):Int:=bits BinOp.xor IntKind.u8 ((bn s).getD q 0) (mask % 256)
def IK (s:ByteArray) (q:Nat) (mask:Int):List Int:=(bn s).set q (bx s q mask)
def Pj (s:ByteArray) (place mask:Int):ByteArray:=if 0≤place∧place<s.size∧0≤mask then strOfNums (IK s place.toNat mask) else s
theorem Lp (s:ByteArray) (q:Nat) (mask:Int):(IK s q mask).length=s.size:=by unfold IK;rw [nV,Zh]
theorem Yd (s:ByteArray) (place mask:Int):(Pj s place mask).size=s.size:=by
 unfold Pj;split
 ·rw [strOfNums_size,Lp]
 ·rfl
def EM (P:List Pc) (k place mask:Int):List Pc:=if qM P.length k=true then P.set k.toNat ((pc P k.toNat).1,(pc P k.toNat).2.1,Pj (pc P k.toNat).2.2 place mask) else P
theorem Nc (P:List Pc) (k place mask:Int):(EM P k place mask).length=P.length:=by unfold EM;split <;> simp
theorem YJ {P:List Pc} {x:Pc} (hi:i<P.length):pc (P.set j x) i=if i=j then x else pc P i:=by
 by_cases e:i=j
 ·subst e;simp [pc,hi]
 ·rw [if_neg e]
  simp only [pc,List.getD];rw [rQ A]
theorem aam (P:List Pc) (j:Nat) (s:ByteArray) (a:j<P.length):(oN P).set (j*3+2) (E s)=oN (P.set j ((pc P j).1,(pc P j).2.1,s)):=by
 refine acU (by simp [um]) (fun i hi=>?_);rw [nV] at hi;rw [YJ hi];have g0:=Ej P i 0 hi A;have g1:=Ej P i 1 hi A;have g2:=Ej P i 2 hi A;by_cases e:i=j
 ·subst e
  rw [if_pos rfl];refine ⟨?_,?_,?_⟩
  ·rw [rQ A];exact g0
  ·rw [rQ A];exact g1
  ·rw [Sj (by rw [um];omega)]
 ·rw [if_neg e]
  refine ⟨?_,?_,?_⟩
  ·rw [rQ A];exact g0
  ·rw [rQ A];exact g1
  ·rw [rQ A];exact g2
theorem ZF (P:List Pc):P.set j ((pc P j).1,(pc P j).2.1,(pc P j).2.2)=P:=by
 apply acV D;intro i hi;rw [nV] at hi;rw [YJ hi];split
 ·rename_i e;rw [e]
 ·rfl
theorem Zg {P:List Pc} {k place:Int} (h:qM P.length k=true→¬ (0≤place∧place<(pc P k.toNat).2.2.size∧0≤mask)):EM P k place mask=P:=by
 unfold EM;split
 ·rename_i a
  rw [Pj,if_neg (h a)];exact ZF P
 ·rfl
theorem aaX {P:List Pc} {e:Int} {f a:ByteArray} (c:qM P.length (j:Int)=true) (d:(e,f,a)=pc P j) (g:q<a.size) (hm:0≤mask):EM P j q mask=P.set j ((pc P j).1,(pc P j).2.1,strOfNums (IK a q mask)):=by
 unfold EM;rw [c,if_pos rfl,IE,← d];dsimp only;rw [Pj,if_pos ⟨A,A,hm⟩,IE]
theorem kW.bent {B:Nat} {o:Nat} (h:kW B w 1 g o cap s.size ((bn s).map (Value.int .u8))) (a:q<s.size):kW B (w.setCell ⟨g,o+q,C⟩ (.int .u8 (bx s q mask))) 1 g o cap s.size ((IK s q mask).map (Value.int .u8)):=by
 have:=h.setCell (j:=q) A (.int .u8 (bx s q mask));rw [IK,Ry];exact this
theorem Ub (a:Option Addr) (b o n c:Nat) (P:List Pc) (k place mask:Int) (h:rE w a b o n P) (hn:n≤1048576) :
  Calls prog 80 #[K a n c,I Y k,I Y place,I Y mask] w fun e w'=>Ip e w.heap.size w' (EM P k place mask)∧Below w.heap.size w w':=by
 have d:=h.len;have bb:(n:Int)≤1048576:=A;go_enter func80,ntmps80
 go_wp2_with fail
 refine (EF a b o n c P w h hn).mono ?_;rintro e T ⟨⟨v,rfl,g⟩,r⟩;rw [d] at g;obtain ⟨a1,c1,rfl⟩:=g.slc;have s:∀ (k place mask:Int),(qM P.length k=true→¬ (0≤place∧place<(pc P k.toNat).2.2.size∧0≤mask))→Ip (aO (K a1 n c1)) w.heap.size T (EM P k place mask):=fun k place mask u=>⟨_,rfl,by rw [Zg u,d];exact g⟩
 go_wp2_with fail
 refine (Dz a n c k hn).mono ?_;rintro e w2 ⟨rfl,ak⟩;rw [ak];clear ak;cases z:qM n k with
 | false =>
  have l:=s k place mask (fun u=>by rw [d,z] at u;cases u);clear z g d h s;go_wp2;go_ret;exact ⟨l,r⟩
 | true =>
  obtain ⟨h1,h2,h3⟩:=DU z;obtain ⟨j,rfl⟩:∃ j:Nat,k=j:=⟨k.toNat,A⟩
  have X:j<n:=A;obtain rfl:=h.ad A;have W:=h.below' r;have ah:=W.c2 j X;have M:=(W.rng j X).2.2;obtain ⟨⟨x0,x1,f⟩,R⟩:∃ x,x=pc P j:=⟨_,rfl⟩
  have p:¬ (0≤place∧place<f.size∧0≤mask)→Ip (aO (K a1 n c1)) w.heap.size T (EM P j place mask):=fun u=>s j place mask (fun _=>by rw [IE,← R];exact u);rw [← R] at ah M;dsimp only at ah M;have ba:(j:Int)<(n:Int):=A;have aw:=M;unfold maxLen at aw;have HX:=hid R;have HE:=hid z;clear z R h W s;by_cases hm:0≤mask
  ·by_cases bd:0≤place
   ·by_cases bf:place<f.size
    ·obtain ⟨q,rfl⟩:∃ q:Nat,place=q:=⟨place.toNat,A⟩
     rcases g with ⟨_,h0,_⟩ | ⟨g1,o1,a8,hv,aa⟩
     ·omega
     injection hv with a6 _ a7;subst a6;subst a7;clear p;go_upto_region 6 with (refine IZ rfl 9 22 rfl T.heap.size 5 underlying9 underlying22 underlying5 f rfl M kL ?_;intro vb w3 ai t bc;obtain ⟨V,og,cb,rfl,J⟩:=Zf ai A;obtain ⟨_,H⟩:=J.nums;have af:=H q A;obtain ⟨y, hy⟩ := kC ((bn f).getD q 0);rw [← hy] at af;have HY:=hid hy;clear hy H;have av:=J.notFrozen (j:=q) A)
     have ag:bx f q mask=bits BinOp.xor IntKind.u8 y (mask % 256):=by unfold bx;rw [← HY.out]
     rw [← ag];clear ag;have ab:=J.bent (mask:=mask) (q:=q) A;have L:T.grownBy (w3.setCell ⟨V,og+q,C⟩ (.int .u8 (bx f q mask))) C:=by
      refine ⟨t.os,t.tape,t.output,by simpa [World.setCell] using t.size,fun i hi ax=>(nK _ _ _ _ (fun e=>?_)).trans (t.block i hi ax)⟩;have:=J.lo;simp at e;omega
     obtain ⟨w4, al⟩ := kC (w3.setCell ⟨V,og+q,C⟩ (.int .u8 (bx f q mask)));rw [← al] at ab L ⊢;clear al J t af av ai;obtain ⟨_,H⟩:=ab.nums;have aq:=run_convert_bytes_arg (P:=prog) w4 22 5 underlying22 underlying5 V og f.size cb (IK f q mask) (Lp _ _ _) (fun i hi=>by rw [H i hi]) 9 underlying9;obtain ⟨S, ae⟩ := kC (strOfNums (IK f q mask));rw [← ae] at aq;have N:=aa.grown L D;obtain ⟨u2,_,ay⟩:=N.N7 (j:=j*3+2) A;have au:=N.notFrozen (j:=j*3+2) A;have Q:=N.setCell (j:=j*3+2) A (E S);rw [aam P j S (by rw [d];exact X)] at Q;rw [← nS] at ay au Q;have an:Below w.heap.size w (w4.setCell ⟨g1,o1+j*3+2,C⟩ (E S)):=(r.grown L r.size D).setCell (by exact aa.lo) _;have s:Ip (aO (K (U ⟨g1,o1,C⟩) n c1)) w.heap.size (w4.setCell ⟨g1,o1+j*3+2,C⟩ (E S)) (EM P j q mask):=by
      refine ⟨_,rfl,?_⟩;rw [Nc,d,aaX (by rw [d];exact HE.out) HX.out A hm,← ae];exact .inr ⟨g1,o1,c1,rfl,Q⟩
     clear ae aa N Q ab H L d;go_wp2;go_ret;exact ⟨s,an⟩
    ·have l:=p A
     clear g d p;go_wp2;go_ret;exact ⟨l,r⟩
   ·have l:=p A
    clear g d p;go_wp2;go_ret;exact ⟨l,r⟩
  ·have l:=p A
   clear g d p;go_wp2;go_ret;exact ⟨l,r⟩
theorem kW.ad6 {B:Nat} {size o n:Nat} {xs:List Value} (h:kW B w size g o cap n xs) (hi:i<n) (vs:List Value) (p:vs.length=size):kW B (w.setCells g (o+i*size) vs) size g o cap n (xs.take (i*size) ++ vs ++ xs.drop (i*size+size)):=by
 have d:i*size+size≤n*size:=by
  have:=Jv size (show i+1≤n by omega);rw [Nat.succ_mul] at this;exact this
 have l:n*size≤cap*size:=Jv _ h.le;have f:=h.len;have c:(xs.take (i*size)).length=i*size:=by rw [qI];omega
 refine ⟨h.lo,by rw [rH];exact h.hi,h.le,h.max,aQ,fun j a=>?_,fun j a=>⟨D5 _ _ _ _ _ (h.there j a).1,by rw [RY];exact (h.there j a).2⟩⟩;by_cases a1:j<i*size
 ·rw [Oh g vs _ w _ (fun _ _=>.inl aQ),h.holds j a,nO aQ,nO A,List.getElem?_take_of_lt a1]
 ·by_cases a2:j<i*size+size
  ·have:=RZ g vs (o+i*size) w (fun k e=>by rw [nS];exact (h.there (i*size+k) A).1) (j - i*size) A
   rw [show o+i*size+(j - i*size)=o+j by omega] at this;rw [this,nO aQ,qP A,c,nH A]
  ·rw [Oh g vs _ w _ (fun _ _=>.inr aQ),h.holds j a,qP aQ,RG]
   congr 1
   simp;omega
theorem NT (f c:Nat→List Value) (i:Nat) (h:∀ j,j≠i→c j=f j):∀ l:List Nat,i ∉ l→l.flatMap f=l.flatMap c
 | [],_=>rfl
 | a :: l,hn=>by
  rw [FD,FD,h a (fun e=>hn (by simp [e])),NT f c i h l (fun e=>hn (aa9 _ e))]
theorem ab2 (f a:Nat→List Value) (m:Nat) (g:∀ j,(f j).length=m) (n i:Nat) (hi:i<n) (c:∀ j,j≠i→a j=f j):((List.range n).flatMap f).take (i*m) ++ a i ++ ((List.range n).flatMap f).drop (i*m+m)=(List.range n).flatMap a:=by
 have e:List.range n=List.range i ++ (i :: List.range' (i+1) (n - i - 1)):=by
  rw [List.range_eq_range',List.range_eq_range',← List.range'_succ,show n - i - 1+1=n - i by omega];have:=List.range'_append (s:=0) (m:=i) (n:=n - i) (step:=1);simp only [Nat.one_mul,ny] at this;rw [this,show i+(n - i)=n by omega]
 rw [e,FH,FH,FD,FD];have d:((List.range i).flatMap f).length=i*m:=flatK f m g i;rw [List.take_left' d,← NT f a i c (List.range i) D,← NT f a i c (List.range' (i+1) (n - i - 1)) (by simp [List.mem_range'];omega)];rw [← Dk,List.drop_left' (by rw [lD,d,g]),Dk]
def lZ (d:pU) (v:Value):List Value:=[I Y d.nu,I Y d.ep,.bool d.up,I Y d.st,I Y d.le,I Y d.ta,I Y d.co,I Y d.lf,v,E d.x,I Y d.si]
def qV (Ws:List pU) (vs:List Value):List Value:=(List.range Ws.length).flatMap fun j=>lZ (nD Ws j) (vs.getD j kH)
theorem Z5 {r:Nat} (a:j<Ws.length) (c:r<11):(qV Ws vs)[j*11+r]?=(lZ (nD Ws j) (vs.getD j kH))[r]?:=Y3 11 (fun _=>rfl) j r a c
theorem Jf (d:pU) (hi:i<Ws.length) (j:Nat):nD (Ws.set i d) j=if j=i then d else nD Ws j:=by
 unfold nD;by_cases e:j=i
 ·subst e;simp [List.getD,hi]
 ·rw [if_neg e];simp [List.getD,List.getElem?_set_ne (Ne.symm e)]
theorem D6 (u:Value) (hi:i<vs.length) (j:Nat):(vs.set i u).getD j kH=if j=i then u else vs.getD j kH:=by
 by_cases e:j=i
 ·subst e;simp [List.getD,hi]
 ·rw [if_neg e];simp [List.getD,List.getElem?_set_ne (Ne.symm e)]
theorem Z4 (hi:i<Ws.length) (a:vs.length=Ws.length) (d:pU) (u:Value):(qV Ws vs).take (i*11) ++ lZ d u ++ (qV Ws vs).drop (i*11+11)=qV (Ws.set i d) (vs.set i u):=by
 have:=ab2 (fun j=>lZ (nD Ws j) (vs.getD j kH)) (fun j=>lZ (nD (Ws.set i d) j) ((vs.set i u).getD j kH)) 11 (fun _=>rfl) Ws.length i hi (fun j e=>by rw [Jf d hi,D6 u A,if_neg e,if_neg e]);simp only [Jf d hi,D6 u (show i<vs.length by omega),if_true] at this;unfold qV;rw [nV];simp only [Jf d hi,D6 u (show i<vs.length by omega)];exact this
def EN (d:pU):Prop:=(∀ s∈d.ss,s.size≤maxLen)∧d.ss.length≤1048576
structure EO (w:World) (B:Nat) (v:Value) (Ws:List pU) (vs:List Value):Prop where
 len:vs.length=Ws.length
 row:Own B w 11 v Ws.length (qV Ws vs)
 dep:∀ j,j<Ws.length→Own B w 1 (vs.getD j kH) (nD Ws j).ss.length ((nD Ws j).ss.map E)
 dr:∀ j,j<Ws.length→Dn (vs.getD j kH).ownBlock v.ownBlock
 ok:∀ j,j<Ws.length→EN (nD Ws j)
 m8:Ws.length≤8
theorem EO.keep {w':World} {B:Nat} (h:EO w B v Ws vs) (c:∀ q,v.ownBlock=U q→w'.heap[q]?=w.heap[q]?) (d:∀ j,j<Ws.length→∀ q,(vs.getD j kH).ownBlock=U q→w'.heap[q]?=w.heap[q]?):EO w' B v Ws vs :=
 ⟨h.len,h.row.qY c,fun j a=>(h.dep j a).qY (d j a),h.dr,h.ok,h.m8⟩
theorem EO.put {B:Nat} {o:Nat} (h:EO w B (K (U ⟨g,o,C⟩) Ws.length cap) Ws vs) (v:kW B w 11 g o cap Ws.length (qV Ws vs)) (hi:i<Ws.length) {d:pU} {u:Value} (hu:Own B w 1 u d.ss.length (d.ss.map E)) (k:Dn u.ownBlock (U g)) (z:EN d) :
  EO (w.setCells g (o+i*11) (lZ d u)) B (K (U ⟨g,o,C⟩) (Ws.set i d).length cap) (Ws.set i d) (vs.set i u):=by
 have l:=h.len;have t:∀ q,q≠g→q<w.heap.size→(w.setCells g (o+i*11) (lZ d u)).heap[q]?=w.heap[q]?:=fun q c H=>Oi w g _ _ H c;have r:∀ (x:Value) (n:Nat) (xs:List Value),Own B w 1 x n xs→Dn x.ownBlock (U g)→Own B (w.setCells g (o+i*11) (lZ d u)) 1 x n xs:=fun x n xs p f=>p.qY fun q c=>t q (fun e=>by
  rcases f with f | f
  ·rw [f] at c;cases c
  ·exact f (by rw [c,e])) (p.kD q c)
 have s:=v.ad6 hi (lZ d u) rfl;rw [Z4 hi l] at s;refine ⟨by simp [l],.inr ⟨g,o,cap,rfl,by rw [nV];exact s⟩,fun j a=>?_,fun j a=>?_,fun j a=>?_,by simpa using h.m8⟩ <;> rw [nV] at a
 ·rw [Jf d hi,D6 u A]
  by_cases e:j=i
  ·rw [if_pos e,if_pos e];exact r _ _ _ hu k
  ·rw [if_neg e,if_neg e];exact r _ _ _ (h.dep j a) (h.dr j a)
 ·rw [D6 u A]
  by_cases e:j=i
  ·rw [if_pos e];exact k
  ·rw [if_neg e];exact h.dr j a
 ·rw [Jf d hi]
  by_cases e:j=i
  ·rw [if_pos e];exact z
  ·rw [if_neg e];exact h.ok j a
def ET (P:List Pc):Prop:=P.length≤1048576∧∀ x∈P,(0≤x.1∧x.1≤8)∧x.2.1.size≤1048576∧x.2.2.size≤1048576
theorem ET.ok {P:List Pc} (h:ET P):aa4 P:=fun j a=>by
 have hm:pc P j∈P:=by unfold pc;rw [FC,nH a];exact IC a
 have:=h.2 _ hm;unfold maxLen;exact ⟨⟨A,A⟩,A,A⟩
theorem Ut {P:List Pc} (a:j<P.length):pc P j∈P:=by unfold pc;rw [FC,nH a];exact IC a
theorem ET.dbl {P:List Pc} (h:ET P) (k:Int):ET (Gi P k):=by
 unfold Gi;split
 ·rename_i c
  have:=DU c;split
  ·refine ⟨by rw [lD,mQ];omega,fun x a=>?_⟩
   rcases List.mem_append.1 a with a | a
   ·exact h.2 x a
   ·rw [List.mem_singleton.1 a];exact h.2 _ (Ut A)
  ·exact h
 ·exact h
theorem ET.los {P:List Pc} (h:ET P) (k:Int):ET (Fh P k):=by
 unfold Fh;split
 ·refine ⟨by have:=h.1;rw [lD,qI,Jy];omega,fun x a=>?_⟩
  rcases List.mem_append.1 a with a | a
  ·exact h.2 x (abb a)
  ·exact h.2 x (List.mem_of_mem_drop a)
 ·exact h
theorem ET.bnd {P:List Pc} (h:ET P) (k place mask:Int):ET (EM P k place mask):=by
 refine ⟨by rw [Nc];exact h.1,fun x a=>?_⟩;unfold EM at a;split at a
 ·rename_i d
  have:=DU d;rcases LC a with a | rfl
  ·exact h.2 x a
  ·have c:=h.2 _ (Ut (show k.toNat<P.length by omega))
   exact ⟨c.1,c.2.1,by rw [Yd];exact c.2.2⟩
 ·exact h.2 x a
theorem TP {k f t e l d:Int} {z:Nat} {a:List ByteArray} (h:vM k f t e l d z a):z≤8∧tot a≤64∧0≤t∧t≤8:=by
 have c:a.length=0→tot a≤64:=fun h=>by rw [List.length_eq_zero_iff.1 h];exact lG _
 unfold vM at h;rcases h with ⟨_,h⟩ | ⟨_,h⟩ | ⟨_,h⟩ | ⟨_,h⟩ | ⟨_,h⟩
 ·exact ⟨A,TT h.2.2.2.2.2.2.2.2.2.2,A,A⟩
 all_goals exact ⟨A,c A,A,A⟩
theorem QG {d:lQ}:(MV key d).size≤1048576:=by
 unfold MV;split
 ·rename_i h
  have:=TP h.1;rw [Jq,FW,JX];omega
 ·show 0≤_;omega
theorem ac' {d:lQ} (h:¬ (MV key d).size=0):0≤d.tw∧d.tw≤8:=by
 unfold MV at h;split at h
 ·rename_i a
  exact (TP a.1).2.2
 ·exact absurd rfl h
theorem ET.Jb (M:List lQ):∀ {P:List Pc} ,ET P→ET (Go.Proofs.YtfkkipgcfoegmaaGreat.Jb key P M):=by
 induction M with
 | nil=>intro P h;exact h
 | cons m r ih =>
  intro P h;refine ih ?_;unfold Ic;split
  ·exact h
  ·rename_i c
   split
   ·refine ⟨by rw [lD,mQ];omega,fun x a=>?_⟩
    rcases List.mem_append.1 a with a | a
    ·exact h.2 x a
    ·rw [List.mem_singleton.1 a];exact ⟨ac' c,QG,QG⟩
   ·exact h
section
structure nI where
 ts:List kJ
 key:ByteArray
 bd:BD
 Ws:List pU
 Fl:List Pc
 fg:ByteArray
structure oO where
 vP:Value
 vs:List Value
 bh:BH
 vW:Value
 us:List Value
 vF:Value
def mg (d:nI) (h:oO):List Value:=[h.vP,E d.key] ++ bvs d.bd h.bh ++ [h.vW,h.vF,E d.fg]
def WC (d:nI) (h:oO) (q:Nat):Prop:=h.vP.ownBlock=U q∨(∃ j,j<d.ts.length∧(h.vs.getD j kH).ownBlock=U q)∨U q∈kK d.bd h.bh∨h.vF.ownBlock=U q
def WB (d:nI) (h:oO) (q:Nat):Prop:=WC d h q∨h.vW.ownBlock=U q∨∃ j,j<d.Ws.length∧(h.us.getD j kH).ownBlock=U q
structure qx (w:World) (B:Nat) (d:nI) (h:oO):Prop where
 pl:lF w B h.vP d.ts h.vs
 bo:lg w B d.bd h.bh
 cr:EO w B h.vW d.Ws h.us
 fl:Own B w 3 h.vF d.Fl.length (oN d.Fl)
 nw:∀ q,h.vW.ownBlock=U q→¬ WC d h q
def BD.tiny (d:BD):Prop:=d.L1.length+d.L2.length+d.R.length+d.J.length+d.S.length+d.O.length≤3000
variable {W W' w':World}
theorem BD.tiny.small {d:BD} (h:d.tiny):d.small:=by unfold BD.tiny at h;unfold BD.small;omega
structure Ah (d:nI):Prop where
 ft:IX d.ts
 tz:d.ts.length+qF d.ts≤1048576
 fb:d.bd.fits
 sb:d.bd.tiny
 fx:ET d.Fl
 ky:d.key.size≤1048576
theorem lF.MJ {B:Nat} {ts:List kJ} (h:lF w B v ts vs) (c:∀ q,v.ownBlock=U q→w'.heap[q]?=w.heap[q]?) (d:∀ j,j<ts.length→∀ q,(vs.getD j kH).ownBlock=U q→w'.heap[q]?=w.heap[q]?):lF w' B v ts vs :=
 ⟨h.len,h.row.qY c,fun j a=>(h.dep j a).qY (d j a),h.dr,h.dd⟩
theorem qx.keep {B:Nat} {d:nI} {h:oO} (s:qx w B d h) (c:∀ q,WB d h q→w'.heap[q]?=w.heap[q]?):qx w' B d h :=
 ⟨s.pl.MJ (fun q a=>c q (.inl (.inl a))) (fun j e q a=>c q (.inl (.inr (.inl ⟨j,e,a⟩)))),
  s.bo.blk (fun _ f q a=>c q (.inl (.inr (.inr (.inl (a ▸ f)))))),
  s.cr.keep (fun q a=>c q (.inr (.inl a))) (fun j e q a=>c q (.inr (.inr ⟨j,e,a⟩))),
  s.fl.qY (fun q a=>c q (.inl (.inr (.inr (.inr a))))),s.nw⟩
theorem qx.lt {B:Nat} {d:nI} {h:oO} (s:qx w B d h) (a:WB d h q):B≤q∧q<w.heap.size:=by
 rcases a with (a | ⟨j,hj,a⟩ | a | a) | a | ⟨j,hj,a⟩
 ·exact ⟨s.pl.row.ku q a,s.pl.row.kD q a⟩
 ·exact ⟨(s.pl.dep j hj).ku q a,(s.pl.dep j hj).kD q a⟩
 ·exact s.bo.lo _ a q rfl
 ·exact ⟨s.fl.ku q a,s.fl.kD q a⟩
 ·exact ⟨s.cr.row.ku q a,s.cr.row.kD q a⟩
 ·exact ⟨(s.cr.dep j hj).ku q a,(s.cr.dep j hj).kD q a⟩
theorem qx.below {B:Nat} {d:nI} {h:oO} (s:qx w B d h) (a:Below w.heap.size w w'):qx w' B d h:=s.keep (fun q c=>a.block q (s.lt c).2)
theorem qx.mono {B B':Nat} {d:nI} {h:oO} (s:qx w B d h) (a:B'≤B):qx w B' d h :=
 ⟨s.pl.mono a,s.bo.mono a,⟨s.cr.len,s.cr.row.mono' a,fun j c=>(s.cr.dep j c).mono' a,s.cr.dr,s.cr.ok,s.cr.m8⟩,s.fl.mono' a,s.nw⟩
structure Fr (F:Nat→Prop) (w w':World):Prop where
 z:Below 0 w w'
 k:∀ q,F q→w'.heap[q]?=w.heap[q]?
theorem Fr.refl (a:Nat→Prop) (w:World):Fr a w w:=⟨mD,fun _ _=>rfl⟩
theorem Fr.below {a:Nat→Prop} (h:Fr a w W) (c:Below W.heap.size W W') (e:∀ q,a q→q<w.heap.size):Fr a w W':=⟨h.z.trans (c.mono (lG _)),fun q d=>(c.block q (lu (e q d) h.z.size)).trans (h.k q d)⟩
theorem Fr.grown {a:Nat→Prop} {p:Nat} (h:Fr a w W) (d:W.grownBy W' (U p)) (f:∀ q,a q→q<w.heap.size) (g:¬ a p):Fr a w W':=⟨h.z.grown d (lG _) (fun _ _=>lG _),fun q c=>(d.block q (lu (f q c) h.z.size) (fun e=>by injection e with e;exact g (e ▸ c))).trans (h.k q c)⟩
structure XS (w:World) (F:Nat→Prop) (Q:Nat) (L:List (List Value)) (d:nI) (h:oO) (W:World):Prop where
 s:qx W 0 d h
 g:Ah d
 c:CF W Q (mg d h)
 l:∀ k vs,L[k]?=U vs→CF W (Q+1+k) vs
 b:Fr F w W
 q:w.heap.size≤Q∧Q+L.length<W.heap.size
 n:∀ q,WB d h q→q<Q∨Q+L.length<q
 f:∀ q,F q→q<w.heap.size
 nf:∀ q,WB d h q→¬ F q
section
variable {w W W':World} {B:Nat→Prop} {Q z:Nat} {L:List (List Value)} {d:nI} {h:oO}
theorem XS.ne (x:XS w B Q L d h W) (a:WB d h q):q≠Q:=by have:=x.n q a;omega
theorem XS.new (x:XS w B Q L d h W) (c:w.heap.size≤q):¬ B q:=fun a=>by have:=x.f q a;omega
theorem lt_of_some {L:List (List Value)} {k:Nat} (h:L[k]?=U vs):k<L.length:=(List.getElem?_eq_some_iff.1 h).1
theorem XS.below (x:XS w B Q L d h W) (a:Below W.heap.size W W'):XS w B Q L d h W' :=
 have i:=x.q
 ⟨x.s.below a,x.g,x.c.block (a.block _ A),fun k vs e=>(x.l k vs e).block (a.block _ dV),x.b.below a x.f,⟨i.1,lu i.2 a.size⟩,x.n,x.f,x.nf⟩
theorem XS.far {p:Nat} (x:XS w B Q L d h W) (j:W.grownBy W' (U p)) (r:p<Q∨Q+L.length<p) (i:¬ WB d h p) (t:w.heap.size≤p):XS w B Q L d h W' :=
 have a:=x.q;have o:∀ q,q<W.heap.size→q≠p→W'.heap[q]?=W.heap[q]?:=fun q r i=>j.block q r (fun e=>i fK)
 ⟨x.s.keep (fun q a=>o q (x.s.lt a).2 (fun e=>i (e ▸ a))),x.g,x.c.block (o _ A A),fun k vs e=>(x.l k vs e).block (o _ dV dV),x.b.grown j x.f (x.new t),⟨a.1,lu a.2 j.size⟩,x.n,x.f,x.nf⟩
theorem XS.own {d':nI} {a:oO} (x:XS w B Q L d h W) (g:W.grownBy W' (U Q)) (o:CF W' Q (mg d' a)) (r:qx W' 0 d' a) (j:Ah d') (i:∀ q,WB d' a q→WB d h q∨Q+L.length<q):XS w B Q L d' a W' :=
 have c:=x.q
 ⟨r,j,o,fun k vs e=>(x.l k vs e).block (g.block _ dV (fun e=>O)),x.b.grown g x.f (x.new A),⟨c.1,lu c.2 g.size⟩,fun q c=>(i q c).elim (x.n q) .inr,x.f,fun q p=>(i q p).elim (x.nf q) (fun h=>x.new A)⟩
theorem XS.kp (x:XS w B Q L d h W) (c:W.grownBy W' (U Q)):qx W' 0 d h:=x.s.keep (fun q a=>c.block q (x.s.lt a).2 (fun e=>x.ne a fK))
theorem XS.D8 {bd:BD} {bh:BH} (x:XS w B Q L d h W) (hz:∀ q,WB d h q→q<z) (hQ:Q+L.length<z) (hbo:lg W z bd bh) (hf:bd.fits) (hs:bd.tiny) (hg:W.grownBy W' (U Q)) (hc:CF W' Q (mg { d with bd:=bd } { h with bh:=bh })):XS w B Q L { d with bd:=bd } { h with bh:=bh } W':=by
 have hr:∀ q,U q∈kK bd bh→z≤q:=fun q hq=>(hbo.lo _ hq q rfl).1;have s':=x.kp hg;have hq:=x.q;refine x.own hg hc ⟨s'.pl,(hbo.blk (fun r hr' q hq=>?_)).mono A,s'.cr,s'.fl,fun q hq hc'=>?_⟩ ⟨x.g.ft,x.g.tz,hf,hs,x.g.fx,x.g.ky⟩ (fun q hq=>?_)
 ·have h5:=hbo.lo r hr' q hq
  exact hg.block q h5.2 (fun e=>O)
 ·have h5:=hz q (.inr (.inl hq))
  rcases hc' with h6 | h6 | h6 | h6
  ·exact x.s.nw q hq (.inl h6)
  ·exact x.s.nw q hq (.inr (.inl h6))
  ·have:=hr q h6;omega
  ·exact x.s.nw q hq (.inr (.inr (.inr h6)))
 ·rcases hq with (h6 | h6 | h6 | h6) | h6 | h6
  ·exact .inl (.inl (.inl h6))
  ·exact .inl (.inl (.inr (.inl h6)))
  ·have:=hr q h6;omega
  ·exact .inl (.inl (.inr (.inr (.inr h6))))
  ·exact .inl (.inr (.inl h6))
  ·exact .inl (.inr (.inr h6))
theorem XS.flight {P:List Pc} (x:XS w B Q L d h W) (hz:∀ q,WB d h q→q<z) (hQ:Q+L.length<z) (ho:Own z W 3 v P.length (oN P)) (hf:ET P) (hg:W.grownBy W' (U Q)) (hc:CF W' Q (mg { d with Fl:=P } { h with vF:=v })):XS w B Q L { d with Fl:=P } { h with vF:=v } W':=by
 have s':=x.kp hg;have hq:=x.q;refine x.own hg hc ⟨s'.pl,s'.bo,s'.cr,(ho.qY (fun q hq=>?_)).mono' A,fun q hq hc'=>?_⟩ ⟨x.g.ft,x.g.tz,x.g.fb,x.g.sb,hf,x.g.ky⟩ (fun q hq=>?_)
 ·have h5:=ho.ku q hq
  exact hg.block q (ho.kD q hq) (fun e=>O)
 ·have h5:=hz q (.inr (.inl hq))
  rcases hc' with h6 | h6 | h6 | h6
  ·exact x.s.nw q hq (.inl h6)
  ·exact x.s.nw q hq (.inr (.inl h6))
  ·exact x.s.nw q hq (.inr (.inr (.inl h6)))
  ·have:=ho.ku q h6;omega
 ·rcases hq with (h6 | h6 | h6 | h6) | h6 | h6
  ·exact .inl (.inl (.inl h6))
  ·exact .inl (.inl (.inr (.inl h6)))
  ·exact .inl (.inl (.inr (.inr (.inl h6))))
  ·have:=ho.ku q h6;omega
  ·exact .inl (.inr (.inl h6))
  ·exact .inl (.inr (.inr h6))
theorem XS.forged (x:XS w B Q L d h W) (hg:W.grownBy W' (U Q)) (hc:CF W' Q (mg { d with fg:=s } h)):XS w B Q L { d with fg:=s } h W' :=
 have s':=x.kp hg;x.own hg hc ⟨s'.pl,s'.bo,s'.cr,s'.fl,s'.nw⟩ ⟨x.g.ft,x.g.tz,x.g.fb,x.g.sb,x.g.fx,x.g.ky⟩ (fun _ hq=>.inl hq)
theorem XS.worker {o:Nat} {k:pU} {u:Value} (x:XS w B Q L d h W) (P:h.vW=K (U ⟨g,o,C⟩) d.Ws.length cap) (hz:∀ q,WB d h q→q<z) (hQ:Q+L.length<z) (hi:i<d.Ws.length) (hu:Own z W 1 u k.ss.length (k.ss.map E)) (hk:EN k) :
  XS w B Q L { d with Ws:=d.Ws.set i k } { h with us:=h.us.set i u } (W.setCells g (o+i*11) (lZ k u)):=by
 have a:=x.q;have M:WB d h g:=.inr (.inl (by rw [P];rfl));have ai:=hz g M;have ah:=x.s.lt M;have ag:=x.n g M;have t:∀ q,q≠g→q<W.heap.size→(W.setCells g (o+i*11) (lZ k u)).heap[q]?=W.heap[q]?:=fun q a V=>Oi W g _ _ V a;have N:∀ q,WC d h q→q≠g:=fun q a e=>x.s.nw g (by rw [P];rfl) (e ▸ a);have S:=x.s.cr;rw [P] at S;have ae:=S.row;rcases ae with ⟨R,_,_⟩ | ⟨g',o',af,R,hc⟩
 ·cases R
 injection R with v _ e3;injection v with v;injection v with v e2 _;subst v e2 e3;have hp:=S.put hc hi (hu.mono' A) (.inr (fun e=>by have:=hu.ku g e;omega)) hk;have hl:(d.Ws.set i k).length=d.Ws.length:=nV;have hg:W.grownBy (W.setCells g (o+i*11) (lZ k u)) (U g):=mY g _ _ W W (lJ _ _);have X:∀ q,WB { d with Ws:=d.Ws.set i k } { h with us:=h.us.set i u } q→WB d h q∨Q+L.length<q:=fun q a=>by
  rcases a with H | H | ⟨j,T,H⟩
  ·exact .inl (.inl H)
  ·exact .inl (.inr (.inl H))
  ·have ab:j<d.Ws.length:=by simpa using T
   have J:((h.us.set i u).getD j kH).ownBlock=U q:=H;rw [D6 u (by rw [x.s.cr.len];exact hi)] at J;by_cases e:j=i
   ·rw [if_pos e] at J;have:=hu.ku q J;omega
   ·rw [if_neg e] at J;exact .inl (.inr (.inr ⟨j,ab,J⟩))
 refine ⟨⟨x.s.pl.MJ (fun q a=>?_) (fun j T q a=>?_),x.s.bo.blk (fun r hr q a=>?_),?_,x.s.fl.qY (fun q a=>?_),fun q a aa=>x.s.nw q a aa⟩,⟨x.g.ft,x.g.tz,x.g.fb,x.g.sb,x.g.fx,x.g.ky⟩,x.c.block (t Q A A),fun k vs e=>(x.l k vs e).block (t _ dV dV),x.b.grown hg x.f (x.nf g M),⟨a.1,by rw [rH];exact a.2⟩,fun q a=>(X q a).elim (x.n q) .inr,x.f,fun q V=>(X q V).elim (x.nf q) (fun h=>x.new A)⟩
 ·have p:WC d h q:=.inl a
  exact t q (N q p) (x.s.lt (.inl p)).2
 ·have p:WC d h q:=.inr (.inl ⟨j,T,a⟩)
  exact t q (N q p) (x.s.lt (.inl p)).2
 ·have p:WC d h q:=.inr (.inr (.inl (a ▸ hr)))
  exact t q (N q p) (x.s.lt (.inl p)).2
 ·rw [hl] at hp
  show EO _ _ h.vW (d.Ws.set i k) (h.us.set i u);rw [P];exact hp
 ·have p:WC d h q:=.inr (.inr (.inr a))
  exact t q (N q p) (x.s.lt (.inl p)).2
theorem XS.lt (x:XS w B Q L d h W):∀ q,WB d h q→q<W.heap.size:=fun _ a=>(x.s.lt a).2
end
def Vh (e:Ending) (a:Nat→Prop) (w:World):Prop:=∃ d h,e=aO (.agg (mg d h).toArray)∧qx w 0 d h∧Ah d∧∀ q,WB d h q→¬ a q
theorem mW {B:Nat} {d:nI} {h:oO} (s:qx w B d h):∀ v∈mg d h,v.oneCell'=true:=by
 obtain ⟨a1,c1,c⟩:=s.pl.row.slc;obtain ⟨a2,c2,e⟩:=s.cr.row.slc;obtain ⟨a3,c3,f⟩:=s.fl.slc;unfold mg bvs;rw [c,e,f];intro v a;simp only [Eo,oG,mG,mF,or_false] at a;rcases a with rfl | rfl | rfl | rfl | rfl | rfl | rfl | rfl | rfl | rfl | rfl | rfl | rfl | rfl | rfl | rfl | rfl <;> rfl
end
end Go.Proofs.YtfkkipgcfoegmaaGreat
