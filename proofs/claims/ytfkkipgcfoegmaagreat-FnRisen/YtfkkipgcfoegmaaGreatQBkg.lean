
import Derived.Test.YtfkkipgcfoegmaaGreatQBrl
set_option maxHeartbeats 4000000
set_option maxRecDepth 100000
namespace Go.Proofs.YtfkkipgcfoegmaaGreat
open Go.Proofs.Tryz
open Go.Value renaming slice→K,string→E,bool→aF,pointer→aG,agg→aI
open Option renaming none→C,some→U
open Go.Operand renaming tmp→F
open Go.Obj renaming cells→aH
open Go.Value renaming int→I
open Go.IntKind renaming i64→Y
open Go.RowKit
variable {w:World}


theorem Own.abj {B:Nat} {v:Value} {J:List Tr} (h:Own B w 3 v J.length (c3 J)) {i:Nat} (hi:i<J.length):∃ g o c,v=K (U ⟨g,o,C⟩) J.length c∧w.cell? ⟨g,o+i*3+2,C⟩=U (I Y (t3 J i).2.2)∧w.frozen? ⟨g,o+i*3+2,C⟩=false ∧
  ∀ u:Int,Own B (w.setCell ⟨g,o+i*3+2,C⟩ (I Y u)) 3 v J.length (c3 (J.set i ((t3 J i).1,(t3 J i).2.1,u))):=by
 rcases h with ⟨_,p,_⟩ | ⟨g,o,cap,rfl,a⟩
 ·omega
 ·have q:=a.le
  refine ⟨g,o,cap,rfl,?_,?_,fun u=>.inr ⟨g,o,cap,rfl,?_⟩⟩
  ·rw [nS,a.holds (i*3+2) A];exact oW J i 2 hi A
  ·have:=(a.there (i*3+2) A).2
   rw [← nS] at this;exact this
  ·have l:=a.setCell (j:=i*3+2) A (I Y u)
   have e:(c3 J).set (i*3+2) (I Y u)=c3 (J.set i ((t3 J i).1,(t3 J i).2.1,u)):=by
    rw [← WU J i hi];have g0:=oW J i 0 hi A;have g1:=oW J i 1 hi A;refine LG fun n=>?_;simp only [Xd,nV,qp];by_cases d:i*3+2=n
    ·subst d;simp
    ·rw [if_neg d,if_neg d]
     by_cases k:i*3+1=n
     ·subst k;rw [if_pos rfl,if_pos A];exact g1
     ·rw [if_neg k]
      by_cases f:i*3=n
      ·subst f;rw [if_pos rfl,if_pos A];exact g0
      ·rw [if_neg f]
   rw [e,← nS] at l;exact l
def adA (J:List Tr):Prop:=∀ i j,i<J.length→j<J.length→(t3 J i).1=(t3 J j).1→(t3 J i).1≠0→i=j
section
section
variable {ρ:Operand→Value} {o:Oper} {w:World}
theorem Hw {p:Addr} {v0:Value} (x y:Operand) (a:Int) (h:o.op=.store 3 x y) (e:ρ x=aG (U p)) (f:ρ y=I Y a) (c:w.cell? p=U v0) (d:w.frozen? p=false):(execOp ρ o).run prog w=.ok .skip (w.setCell p (I Y a)):=by
 unfold execOp;rw [h];simp [go_sem,e,f,c,d]
end
end
theorem Ou {ops:Array Oper} {rest:List Oper} {op:Oper} {a:Act} {Q:Exit→Act→World→Prop} (d:op.guard=C) (x y:Operand) (g:op.op=.store 54 x y) (b o:Nat) (f:Bool) (e:Int) (i:a.eval x=aG (U ⟨b,o,C⟩)) (j:a.eval y=aI #[aF f,I Y e]) (h:w.there b o 2)
  (c:wpList prog ops Q rest (a.put op.dst undef) (w.setCells b o [aF f,I Y e])):wpList prog ops Q (op :: rest) a w :=
 wpList_store_mid d 54 x y g b o #[aF f,I Y e] i j h Z Z c
def adN (d:BD) (h:BH) (k:Nat) (ep:Int) (B:Nat) (w:World) (e:Ending) (w':World):Prop:=∃ (S:List (Bool × Int)) (r:Bool),e=.returned (.tuple #[aI (nN d h),aF r])∧(Ih d.S ((k:Int)+1) ep=C∧r=false∧S=d.S∨Ih d.S ((k:Int)+1) ep=U S∧r=true)∧S.length=d.S.length∧lg w' B {d with S:=S} h∧Grew [Ap d h] w w'
theorem OL (d:BD) (h:BH) (s u ep le t:Int) (k:Nat) (x:ByteArray) (z:Option Addr) (un H:Nat) (B:Nat) (w:World) (hO:lg w B d h) (hk:k<d.S.length) (b3:k≤100) :
  Calls prog 104 #[aI (nN d h),aI #[I Y s,I Y ((k:Int)+1),I Y u,I Y ep,I Y le,I Y t,E x,K z un H]] w fun e w'=>adN d h k ep B w e w':=by
 obtain ⟨W, o⟩ := kC (((w.alloc (aH (nN d h) 30)).alloc (aH #[I Y s,I Y ((k:Int)+1),I Y u,I Y ep,I Y le,I Y t,E x,K z un H] 136)).alloc (aH ni 30));obtain ⟨Q, l⟩ := kC w.heap.size;have j:Below w.heap.size w W:=by rw [o];exact (kQ.alloc D _).alloc aQ _
 have z0:W.heap.size=Q+3:=by rw [o,l];simp
 have P0:CF W Q (nR d h):=by
  rw [o,l];exact ((CF.made w (nN d h) 30).block (kU _ _ _ D)).block (kU _ _ _ aQ)
 have L0:CF W (Q+1) [I Y s,I Y ((k:Int)+1),I Y u,I Y ep,I Y le,I Y t,E x,K z un H]:=by
  rw [o,l];have:=(CF.made (w.alloc (aH (nN d h) 30)) #[I Y s,I Y ((k:Int)+1),I Y u,I Y ep,I Y le,I Y t,E x,K z un H] 136).block (kU ((w.alloc (aH (nN d h) 30)).alloc (aH #[I Y s,I Y ((k:Int)+1),I Y u,I Y ep,I Y le,I Y t,E x,K z un H] 136)) (aH ni 30) _ D);simpa using this
 have R0:CF W (Q+2) FB:=by
  rw [o,l];have:=CF.made ((w.alloc (aH (nN d h) 30)).alloc (aH #[I Y s,I Y ((k:Int)+1),I Y u,I Y ep,I Y le,I Y t,E x,K z un H] 136)) ni 30;simpa using this
 have ag:=hO.below j;have ai:∀ r∈kK d h,∀ q,r=U q→q<Q:=fun r p q e=>by rw [l];exact (hO.lo r p q e).2
 have G0:Grew [Ap d h] w W:=⟨j.size,fun q hq _=>j.block q hq,j.os,j.tape,j.output⟩
 have ek:(((k:Int)+1) - 1).toNat=k:=A;have HW:=hid o;have M:=hid l;have ab:=hid ek;clear o hO ek l;go_enter func104,ntmps104
 go_upto_region 1 with fail
 have bd:w.heap.size+1=Q+1:=by rw [M.out]
 have bf:w.heap.size+1+1=Q+2:=by rw [M.out]
 rw [← HW.out];(try rw [bf])
 (try rw [bd])
 (try rw [← M.out])
 clear HW bd bf;obtain ⟨f,g,cz,bl,bu,av,bk,br⟩:=ag.o4.abk hk;have J:h.az=U ⟨f,g,C⟩:=by injection bl with J e2 e3
 have an:Ap d h=U f:=by unfold Ap;rw [J];rfl
 obtain ⟨q2, al⟩ := kC ((t2 d.S k).2);rw [← al] at av;have b4:=ai _ (qW d h) f an;have c:W.drew.cell? ⟨Q,10,C⟩=U (K (U ⟨f,g,C⟩) d.S.length h.cs)∧W.drew.cell? ⟨Q+1,3,C⟩=U (I Y ep)∧W.drew.cell? ⟨Q+1,1,C⟩=U (I Y ((k:Int)+1))∧W.drew.cell? ⟨f,g+k*2+1,C⟩=U (I Y q2):=⟨by rw [← J];exact (P0 10 D).1,(L0 3 D).1,(L0 1 D).1,av⟩
 have aq:W.drew.there f (g+k*2) 2:=bk;have a7:=hid J;have ba:=hid an;have a8:=hid al;clear bl J an al bu av br bk;refine wp_region_held (S:=fun w'=>w'.cell? ⟨Q,10,C⟩=U (K (U ⟨f,g,C⟩) d.S.length h.cs)∧w'.cell? ⟨Q+1,3,C⟩=U (I Y ep)∧w'.cell? ⟨Q+1,1,C⟩=U (I Y ((k:Int)+1))∧w'.cell? ⟨f,g+k*2+1,C⟩=U (I Y q2)) Z ?_;change wpAnyH _ _ _ _ _ _ _ _ (World.drew _);have bh:Below W.heap.size W W.drew:=mD.drew;have L:=ag.below bh;have N:CF W.drew Q (nR d h):=P0;have L1:CF W.drew (Q+1) [I Y s,I Y ((k:Int)+1),I Y u,I Y ep,I Y le,I Y t,E x,K z un H]:=L0;have R1:CF W.drew (Q+2) FB:=R0;have z1:W.drew.heap.size=Q+3:=z0;have V:=G0.DT;obtain ⟨x0, au⟩ := kC W.drew;rw [← au] at L N L1 R1 z1 V c aq;rw [← au];clear au ag P0 L0 R0 z0 G0 bh j;by_cases ak:ep<q2
 case pos =>
  have R:decide (ep<q2)=true:=decide_eq_true ak;refine jZ (i:=0) (d:=U 6) (v:=aG (U ⟨Q+1,3,C⟩)) (l':=(bt 11 1)) rfl (fun _ a=>VU (F 3) Z Z) c ?_;refine jZ (i:=1) (d:=U 7) (v:=I Y ep) (l':=(bt 11 3)) rfl (fun _ a=>nG (F 6) Z Z a.2.1) c ?_;refine jZ (i:=2) (d:=U 8) (v:=aG (U ⟨Q,10,C⟩)) (l':=(bt 11 7)) rfl (fun _ a=>VW (F 2) Z Z) c ?_;refine jZ (i:=3) (d:=U 9) (v:=K (U ⟨f,g,C⟩) d.S.length h.cs) (l':=(bt 11 15)) rfl (fun _ a=>IG (F 8) Z Z a.1) c ?_;refine jZ (i:=4) (d:=U 10) (v:=aG (U ⟨Q+1,1,C⟩)) (l':=(bt 11 31)) rfl (fun _ a=>LX (F 3) Z Z) c ?_;refine jZ (i:=5) (d:=U 11) (v:=I Y ((k:Int)+1)) (l':=(bt 11 63)) rfl (fun _ a=>nG (F 10) Z Z a.2.2.1) c ?_;refine jZ (i:=6) (d:=U 12) (v:=I Y (k:Nat)) (l':=(bt 11 127)) rfl (fun _ a=>Cj (F 11) k A Z Z Z) c ?_;refine jZ (i:=7) (d:=U 13) (v:=aG (U ⟨f,g+k*2,C⟩)) (l':=(bt 11 255)) rfl (fun _ a=>Hz (F 9) (F 12) f g d.S.length h.cs k Z Z Z hk) c ?_;refine jZ (i:=8) (d:=U 14) (v:=aG (U ⟨f,g+k*2+1,C⟩)) (l':=(bt 11 511)) rfl (fun _ a=>Ug (F 13) Z Z) c ?_;refine jZ (i:=9) (d:=U 15) (v:=I Y q2) (l':=(bt 11 1023)) rfl (fun _ a=>nG (F 14) Z Z a.2.2.2) c ?_;refine jZ (i:=10) (d:=U 16) (v:=aF true) (l':=(bt 11 2047)) rfl (fun _ a=>VR (F 7) (F 15) ep q2 true Z Z Z R) c ?_;refine wpAnyH_done Z ?_ _;clear c R;go_simp;obtain ⟨y0,y1,y2,y3,y4,y5,y6,y7,y8,y9,a6,b0⟩:=l9 N;go_wp2_with (refine jY rfl 30 (F 4) (F 17) rfl (Q+2) FB (nR d h) rfl rfl R1 rfl Tryz.sizeBo (nP) ?_;intro ay ah T)
  obtain ⟨k0,k1,k2,k3,k4,k5,k6,k7,k8,k9,aw,ax⟩:=l9 ah;have X:=hid (aaD (S:=d.S) (fm:=(k:Int)+1) (ep:=ep) (by rw [ab.out,← a8.out];exact ak));have af:lg ay B d h:=L.blk (fun r p q e=>T.block q (L.lo r p q e).2 (fun P=>by injection P with P;have:=ai r p q e;omega));exact bodyPost_ret (v:=.tuple #[aI (nN d h),aF false]) jI rfl ⟨d.S,false,rfl,.inl ⟨X.out,rfl,rfl⟩,rfl,af,V.far T (by have:=M.out;omega)⟩
 case neg =>
  have R:decide (ep<q2)=false:=decide_eq_false ak;refine jZ (i:=0) (d:=U 6) (v:=aG (U ⟨Q+1,3,C⟩)) (l':=(bt 11 1)) rfl (fun _ a=>VU (F 3) Z Z) c ?_;refine jZ (i:=1) (d:=U 7) (v:=I Y ep) (l':=(bt 11 3)) rfl (fun _ a=>nG (F 6) Z Z a.2.1) c ?_;refine jZ (i:=2) (d:=U 8) (v:=aG (U ⟨Q,10,C⟩)) (l':=(bt 11 7)) rfl (fun _ a=>VW (F 2) Z Z) c ?_;refine jZ (i:=3) (d:=U 9) (v:=K (U ⟨f,g,C⟩) d.S.length h.cs) (l':=(bt 11 15)) rfl (fun _ a=>IG (F 8) Z Z a.1) c ?_;refine jZ (i:=4) (d:=U 10) (v:=aG (U ⟨Q+1,1,C⟩)) (l':=(bt 11 31)) rfl (fun _ a=>LX (F 3) Z Z) c ?_;refine jZ (i:=5) (d:=U 11) (v:=I Y ((k:Int)+1)) (l':=(bt 11 63)) rfl (fun _ a=>nG (F 10) Z Z a.2.2.1) c ?_;refine jZ (i:=6) (d:=U 12) (v:=I Y (k:Nat)) (l':=(bt 11 127)) rfl (fun _ a=>Cj (F 11) k A Z Z Z) c ?_;refine jZ (i:=7) (d:=U 13) (v:=aG (U ⟨f,g+k*2,C⟩)) (l':=(bt 11 255)) rfl (fun _ a=>Hz (F 9) (F 12) f g d.S.length h.cs k Z Z Z hk) c ?_;refine jZ (i:=8) (d:=U 14) (v:=aG (U ⟨f,g+k*2+1,C⟩)) (l':=(bt 11 511)) rfl (fun _ a=>Ug (F 13) Z Z) c ?_;refine jZ (i:=9) (d:=U 15) (v:=I Y q2) (l':=(bt 11 1023)) rfl (fun _ a=>nG (F 14) Z Z a.2.2.2) c ?_;refine jZ (i:=10) (d:=U 16) (v:=aF false) (l':=(bt 11 2047)) rfl (fun _ a=>VR (F 7) (F 15) ep q2 false Z Z Z R) c ?_;refine wpAnyH_done Z ?_ _;clear c R;go_simp;obtain ⟨bn,bw,b1,bm,_,_,bs,bj⟩:=L.o4.abk hk;have bc:h.az=U ⟨bn,bw,C⟩:=by injection bm with J e2 e3
  have ae:=a7.out.symm.trans bc;injection ae with ae;injection ae with bo bp;subst bo bp;have a6:x0.cell? ⟨Q,10,C⟩=U (K (U ⟨f,g,C⟩) d.S.length h.cs):=by rw [← a7.out];exact (N 10 D).1
  obtain ⟨-,m1,-,m3⟩:=C9 L1;have b2:(k:Int)<(d.S.length:Int):=A;have bb:=hid (bj true ep);clear bm bc bj;go_upto_region 4 with (refine Ou rfl (F 26) (F 25) rfl f (g+k*2) true ep rfl rfl aq ?_)
  obtain ⟨x1, aa⟩ := kC (x0.setCells f (g+k*2) [aF true,I Y ep]);have g1:x0.grownBy x1 (U f):=by rw [aa];exact gsc
  have bg:=L.Zt (S:=d.S.set k (true,ep)) (by rw [nV]) (by rw [show (K h.az d.S.length h.cs).ownBlock=U f from ba.out];exact g1) (by rw [aa];exact bb.out);have P2:=N.block (g1.block Q A (fun e=>O));have R2:=R1.block (g1.block (Q+2) A (fun e=>O));have G2:=V.step (Grew.of g1) (by rw [ba.out];simp);have z2:=g1.size;rw [← aa];clear aa bb a6 m1 m3 aq bs L N L1 R1 V g1;obtain ⟨y0,y1,y2,y3,y4,y5,y6,y7,y8,y9,a6,b0⟩:=l9 P2;go_wp2_with (refine jY rfl 30 (F 4) (F 27) rfl (Q+2) FB (nR d h) rfl rfl R2 rfl Tryz.sizeBo (nP) ?_;intro ay ah T)
  obtain ⟨k0,k1,k2,k3,k4,k5,k6,k7,k8,k9,aw,ax⟩:=l9 ah;have X:=hid (aaC (S:=d.S) (fm:=(k:Int)+1) (ep:=ep) (by rw [ab.out,← a8.out];omega));rw [ab.out] at X;have af:=bg.blk (w':=ay) (fun r p q e=>T.block q (bg.lo r p q e).2 (fun P=>by
   injection P with P;have bq:r∈kK d h:=by
    have:kK {d with S:=d.S.set k (true,ep)} h=kK d h:=by unfold kK;simp only [nV]
    rw [← this];exact p
   have:=ai r bq q e;omega))
  exact bodyPost_ret (v:=.tuple #[aI (nN d h),aF true]) jI rfl ⟨d.S.set k (true,ep),true,rfl,.inr ⟨X.out,rfl⟩,by rw [nV],af,G2.far T (by have:=M.out;omega)⟩

theorem Code.YN {ts:List kJ} (h:Code ts 0):1≤ts.length∧ts.length≤40∧nM ts ts.length:=by
 rcases h with ⟨h,_⟩ | ⟨a,⟨h,_⟩ | ⟨d,⟨h,_⟩ | ⟨e,⟨h,_⟩ | ⟨c,_⟩⟩⟩⟩
 ·omega
 ·omega
 ·omega
 ·omega
 ·exact ⟨a.1,a.2,c⟩
structure BD.upF (d:BD) (ts:List kJ):Prop where
 r:d.R.length=ts.length
 j:d.J.length=ts.length
 ep:1≤d.ep∧d.ep≤300
 s:((d.S.length:Nat):Int)=d.wk∧d.wk≤8
 o:d.O.length≤2000
 now:0≤d.now∧d.now≤1000000
 l:d.L1.length+d.L2.length≤310
 u:adA d.J
 t:1≤ts.length∧ts.length≤40∧nM ts ts.length
theorem BD.Xh {d:BD} {ts:List kJ} (h:d.ok ts) (hu:d.up=true):d.upF ts:=by
 obtain ⟨wk,up,now,sn,ep,gv,L1,L2,R,J,S,V⟩:=d;dsimp only at hu;subst hu;have z:=h;obtain ⟨⟨M,c⟩,s,r,T,Q,f,_⟩:=z;obtain ⟨k,l,o,u,v,a,p,q⟩:=qA h f;have P:=Ez (n:=ts.length) (m:=0) _ (Ey ts.length) f;have L:=MH _ (by simp [st0]) f;dsimp only at k l o u v a p q s r c;refine ⟨by show R.length=_;rw [o];exact P.2.2.1,a.1,⟨l,by show ep≤300;rw [k];exact L⟩,⟨p.1,s.2⟩,q.1,r,by rw [lD] at c;exact c,fun i j hi N he H=>?_,M.YN⟩;rcases a.2 i hi with g | ⟨_,g,_⟩
 ·exact absurd (by rw [g]) H
 ·rcases Decidable.em (i=j) with e | e
  ·exact e
  ·exact absurd he.symm (g j (fun t=>e t.symm) N)

structure lQ.good (m:lQ):Prop where
 x:m.x.size≤maxLen
 i:I64 m.kd∧I64 m.fm∧I64 m.tw∧I64 m.ep∧I64 m.le∧I64 m.ta
 s:∀ s∈m.ss,s.size≤maxLen
 l:m.ss.length≤1048576
variable {J:List Tr}
structure abn (d:BD) (M:List lQ):Prop where
 f:d.fits
 s:d.small
 l:M.length≤4096
 m:∀ m∈M,m.good
theorem TK:rM.fits:=⟨fun s c=>absurd c bT,fun s c=>absurd c bT,fun s c=>absurd c bT,fun j a=>absurd a bT,fun j a=>absurd a bT,fun j a=>absurd a bT⟩
theorem EU.mem (h:EU J):∀ x∈J,I64 x.1∧I64 x.2.1∧I64 x.2.2:=fun x c=>by
 obtain ⟨j,a,rfl⟩:=List.mem_iff_getElem.1 c;have:=h j a;rwa [show t3 J j=J[j] by simp [t3,List.getD,a]] at this
theorem EU.MI (h:∀ x∈J,I64 x.1∧I64 x.2.1∧I64 x.2.2):EU J:=fun j a=>by
 rw [show t3 J j=J[j] by simp [t3,List.getD,a]];exact h _ (IC a)
theorem F6.mem {J:List (Bool × Int)} (h:F6 J):∀ x∈J,I64 x.2:=fun x c=>by
 obtain ⟨j,a,rfl⟩:=List.mem_iff_getElem.1 c;have:=h j a;rwa [show t2 J j=J[j] by simp [t2,List.getD,a]] at this
theorem F6.MI {J:List (Bool × Int)} (h:∀ x∈J,I64 x.2):F6 J:=fun j a=>by
 rw [show t2 J j=J[j] by simp [t2,List.getD,a]];exact h _ (IC a)
theorem EU.mapD (h:EU J) (f:Tr→Tr) (a:∀ x,(I64 x.1∧I64 x.2.1∧I64 x.2.2)→I64 (f x).1∧I64 (f x).2.1∧I64 (f x).2.2):EU (J.map f):=.MI fun x c=>by
 obtain ⟨y,d,rfl⟩:=List.mem_map.1 c;exact a y (h.mem y d)
theorem EU.PI (h:EU J) (k:Nat) (v:Tr) (c:I64 v.1∧I64 v.2.1∧I64 v.2.2):EU (J.set k v):=.MI fun x a=>by
 rcases LC a with a | rfl
 ·exact h.mem x a
 ·exact c
theorem F6.PI {J:List (Bool × Int)} (h:F6 J) (k:Nat) (v:Bool × Int) (c:I64 v.2):F6 (J.set k v):=.MI fun x a=>by
 rcases LC a with a | rfl
 ·exact h.mem x a
 ·exact c
theorem EU.abh (h:EU J) (v:Tr) (c:I64 v.1∧I64 v.2.1∧I64 v.2.2):EU (J ++ [v]):=.MI fun x a=>by
 rcases List.mem_append.1 a with a | a
 ·exact h.mem x a
 ·obtain rfl:=List.mem_singleton.1 a;exact c
theorem Gy:I64 0:=by constructor <;> omega
theorem lQ.ok.rng {m:lQ} (h:m.ok):I64 m.fm∧I64 m.ep∧I64 m.le∧I64 m.ta∧m.x.size≤8:=by
 unfold lQ.ok vM at h;refine ⟨?_,?_,?_,?_,?_⟩
 ·constructor <;> omega
 ·constructor <;> omega
 ·constructor <;> omega
 ·constructor <;> omega
 ·omega
structure BD.lean (d:BD):Prop where
 f:d.fits
 l:d.L1.length+d.L2.length≤310
 r:d.R.length≤40
 j:d.J.length≤40
 s:d.S.length≤8
 o:d.O.length≤2000
variable {d:BD} {m:lQ} {ts:List kJ}
theorem BD.lean.free (h:d.lean) (hm:m.ok) {S:List (Bool × Int)} (a:Ih d.S m.fm m.ep=U S):F6 S∧S.length=d.S.length:=by
 unfold Ih at a;split at a
 ·cases a
 ·injection a with a
  subst a;exact ⟨h.f.k2.PI _ _ hm.rng.2.1,D⟩
theorem BD.lean.here (h:d.lean) (hm:m.ok):(Gz d m).lean:=by
 unfold Gz;cases e:Ih d.S m.fm m.ep with
 | none=>exact h
 | some S =>
  obtain ⟨a,c⟩:=h.free hm e;refine ⟨⟨h.f.s1,h.f.s2,h.f.s3,h.f.k3.mapD _ (fun x g=>?_),a,h.f.k4⟩,h.l,h.r,by simpa using h.j,by show S.length≤8;rw [c];exact h.s,h.o⟩;unfold qL;split
  ·exact ⟨Gy,Gy,Gy⟩
  ·exact g
theorem BD.lean.aaZ (h:d.lean) (c:0≤d.now∧d.now≤1000000):(MK d m).lean:=by
 refine ⟨⟨h.f.s1,h.f.s2,h.f.s3,h.f.k3.mapD _ (fun x a=>?_),h.f.k2,h.f.k4⟩,h.l,h.r,by simpa [MK] using h.j,h.s,h.o⟩;unfold pI;split
 ·exact ⟨a.1,a.2.1,by constructor <;> (dsimp only;omega)⟩
 ·exact a
theorem BD.lean.keep (h:d.lean) (hm:m.ok):(keepR d ts m).lean:=by
 unfold keepR;split
 ·rename_i e
  have c:=hm.rng.2.2.2.2;refine ⟨⟨h.f.s1,fun s a=>?_,fun s a=>?_,h.f.k3.PI _ _ ⟨Gy,Gy,Gy⟩,h.f.k2,h.f.k4⟩,?_,by simpa using h.r,by simpa using h.j,h.s,h.o⟩
  ·rcases List.mem_append.1 a with a | a
   ·exact h.f.s2 s a
   ·obtain rfl:=List.mem_singleton.1 a
    exact Ld c
  ·rcases LC a with a | rfl
   ·exact h.f.s3 s a
   ·unfold maxLen;omega
  ·show d.L1.length+(d.L2 ++ [_]).length≤310
   rw [lD,mQ];omega
 ·exact h
theorem BD.lean.freed (h:d.lean) (hm:m.ok):(uq d m).lean:=by
 unfold uq;split
 ·cases e:Ih d.S m.fm m.ep with
  | none=>exact h
  | some S =>
   obtain ⟨a,c⟩:=h.free hm e;exact ⟨⟨h.f.s1,h.f.s2,h.f.s3,h.f.k3,a,h.f.k4⟩,h.l,h.r,h.j,by show S.length≤8;rw [c];exact h.s,h.o⟩
 ·exact h
theorem BD.lean.owe (h:d.lean) (hm:m.ok):(JM d m).lean:=by
 unfold JM;split
 ·rename_i c
  have a:=hm.rng;refine ⟨⟨h.f.s1,h.f.s2,h.f.s3,h.f.k3,h.f.k2,h.f.k4.abh _ ⟨a.1,a.2.2.1,a.2.2.2.1⟩⟩,h.l,h.r,h.j,h.s,?_⟩;show (d.O ++ [_]).length≤2000;rw [lD,mQ];omega
 ·exact h
theorem BD.lean.small (h:d.lean):d.small:=by
 obtain ⟨_,a,c,e,f,g⟩:=h;unfold BD.small;omega
theorem KG.good {r:BD × List lQ} (h:KG d ts m r) (e:d.fits) (g:d.small):abn r.1 r.2:=by
 rcases h with ⟨k,rfl⟩ | ⟨_,rfl⟩
 ·suffices h:(takeB d ts m).fits∧(takeB d ts m).small from ⟨h.1,h.2,lG _,fun m hm=>absurd hm D⟩
  unfold takeB;split
  ·rename_i i
   obtain ⟨hu,hm,-,-⟩:=i;have a:=BD.Xh k hu;have q:=a.r;have p:=a.j;have v:=a.t.2.1;have u:=a.s;have c:d.lean:=⟨e,a.l,A,A,A,a.o⟩
   split
   ·exact ⟨(c.here hm).f,(c.here hm).small⟩
   ·split
    ·exact ⟨(c.aaZ a.now).f,(c.aaZ a.now).small⟩
    ·split
     ·unfold Fa
      split
      ·have:=((c.keep (ts:=ts) hm).freed hm).owe hm
       exact ⟨this.f,this.small⟩
      ·exact ⟨e,g⟩
     ·exact ⟨e,g⟩
  ·exact ⟨e,g⟩
 ·exact ⟨TK,by unfold BD.small;simp [rM],lG _,fun m hm=>absurd hm D⟩
end Go.Proofs.YtfkkipgcfoegmaaGreat
