
import Derived.Test.YtfkkipgcfoegmaaGreatQPlp
set_option maxHeartbeats 8000000
set_option maxRecDepth 100000
namespace Go.Proofs.YtfkkipgcfoegmaaGreat
open Go.Proofs.Tryz
open Go.Value renaming slice→K,string→E,agg→aI
open Option renaming none→C,some→U
open Go.Obj renaming cells→aH
open Bool renaming false→aK
open Go.Value renaming int→I
open Go.IntKind renaming i64→Y
open Go.RowKit
variable {ts:List kJ} {w:World}
section
def I7 (ts:List kJ):Prop:=∀ j,j<ts.length→(ts.getD j dT).name.size≤1000∧(-1000≤(ts.getD j dT).cost∧(ts.getD j dT).cost≤1000)∧(ts.getD j dT).deps.length≤50∧∀ x∈(ts.getD j dT).deps,-1000≤x∧x≤1000
theorem I7.fit (h:I7 ts):IX ts:=fun j c=>by
 obtain ⟨e,f,_,a⟩:=h j c;exact ⟨G,⟨A,A⟩,fun x d=>by have:=a x d;exact ⟨A,A⟩⟩
theorem I7.qF (h:I7 ts):∀ i,i≤ts.length→qF (ts.take i)≤i*1050
 | 0,_=>by simp [Go.Proofs.YtfkkipgcfoegmaaGreat.qF]
 | i+1,hi=>by
  have ih:=I7.qF h i A;obtain ⟨a,_,c,_⟩:=h i A;rw [JB (show i<ts.length by omega),Qq];unfold Yj;omega
theorem I7.snoc {t:kJ} (h:I7 ts) (a:t.name.size≤1000) (c : -1000≤t.cost∧t.cost≤1000) (d:t.deps.length≤50) (f:∀ x∈t.deps,-1000≤x∧x≤1000):I7 (ts ++ [t]):=fun j g=>by
 rw [lD,mQ] at g;by_cases e:j<ts.length
 ·rw [show (ts ++ [t]).getD j dT=ts.getD j dT by simp [List.getD,List.getElem?_append_left e]];exact h j e
 ·obtain rfl:j=ts.length:=by omega
  rw [show (ts ++ [t]).getD ts.length dT=t by simp [List.getD]];exact ⟨a,c,d,f⟩
def VN (ts:List kJ):Prop:=∀ j,j<ts.length→(ts.getD j dT).name.size≤100∧(ts.getD j dT).deps.length≤40
theorem VN.snoc {t:kJ} (h:VN ts) (a:t.name.size≤100) (c:t.deps.length≤40):VN (ts ++ [t]):=fun j d=>by
 rw [lD,mQ] at d;by_cases e:j<ts.length
 ·rw [show (ts ++ [t]).getD j dT=ts.getD j dT by simp [List.getD,List.getElem?_append_left e]];exact h j e
 ·obtain rfl:j=ts.length:=by omega
  rw [show (ts ++ [t]).getD ts.length dT=t by simp [List.getD]];exact ⟨a,c⟩
theorem lF.app {f:World} {B:Nat} {v c:Value} {vs:List Value} {t:kJ} {u:Value} {ob:Obj} (h:lF w B v ts vs) (hu:Own B w 1 u t.deps.length (t.deps.map (I Y))) (k:Dn u.ownBlock v.ownBlock) (r:∀ j,j<ts.length→Dn (vs.getD j kH).ownBlock u.ownBlock)
  (s:Own B f 3 c (ts.length+1) (ND ts vs ++ Gs t u)) (i:(w.alloc ob).grownBy f v.ownBlock) (p:c.ownBlock=v.ownBlock∨c.ownBlock=U (w.alloc ob).heap.size):lF f B c (ts ++ [t]) (vs ++ [u]):=by
 have g:Below w.heap.size w (w.alloc ob):=kQ;have z:(w.alloc ob).heap.size=w.heap.size+1:=D;have key:∀ x:Value,Dn x.ownBlock v.ownBlock→(∀ q,x.ownBlock=U q→q<w.heap.size)→Dn x.ownBlock c.ownBlock:=fun x l o=>by
  rcases p with e | e
  ·rw [e];exact l
  ·exact Dn.later o (fun q d=>by rw [e] at d;injection d with d;omega)
 refine lF.snoc h.len (fun j a=>((h.dep j a).below g kL).grown i (h.dr j a)) h.dd s ((hu.below g kL).grown i k) (fun j a=>key _ (h.dr j a) (h.dep j a).kD) (key _ k hu.kD) r
structure TD (wi:World) (g T:Nat) (vs:List Value) (k:Nat) (w:World):Prop where
 m:CF w T vs
 rd:RD w g k
 gr:wi.grownBy w (U g)
 h1:g<wi.heap.size
 hT:wi.heap.size≤T
 h3:T<w.heap.size
section
variable {wi w w':World} {g T k k':Nat} {vs:List Value}
theorem TD.call (h:TD wi g T vs k w) (a:w.grownBy w' (U g)) (c:RD w' g k'):TD wi g T vs k' w' :=
 have:=h.h1;have:=h.hT;have:=h.h3
 ⟨h.m.block (a.block _ A aQ),c,grownBy_trans h.gr a,h.h1,h.hT,lu h.h3 a.size⟩
theorem TD.store (h:TD wi g T vs k w) {j:Nat} (a:j<vs.length) (u:Value):TD wi g T (vs.set j u) k (w.setCell ⟨T,j,C⟩ u) :=
 have:=h.h1;have:=h.hT;have:=h.h3
 ⟨h.m.set a u,h.rd.set aT u,⟨h.gr.os,h.gr.tape,h.gr.output,by simpa [World.setCell] using h.gr.size,fun q d c=>by rw [nK _ _ _ _ aT];exact h.gr.block q d c⟩,h.h1,h.hT,by simpa [World.setCell] using h.h3⟩
theorem TD.grown (h:TD wi g T vs k w) {row:Option Nat} (a:w.grownBy w' row) (d:∀ q,row=U q→T<q):TD wi g T vs k w' :=
 have:=h.h1;have:=h.hT;have:=h.h3
 ⟨h.m.block (a.block _ A (fun e=>by have:=d _ e.symm;omega)),h.rd.grown a (fun q c=>by have:=d q c;omega),
  ⟨a.os.trans h.gr.os,a.tape.trans h.gr.tape,a.output.trans h.gr.output,lH h.gr.size a.size,fun q c f=>(a.block q (lu c h.gr.size) (fun e=>by have:=d q e.symm;omega)).trans (h.gr.block q c f)⟩,h.h1,h.hT,lu h.h3 a.size⟩
theorem TD.alloc (h:TD wi g T vs k w) (o:Obj):TD wi g T vs k (w.alloc o):=h.grown (Ol w o C) (fun q a=>fU)
theorem TD.more (h:TD wi g T vs k w) (a:k≤k'):TD wi g T vs k' w:=⟨h.m,h.rd.mono a,h.gr,h.h1,h.hT,h.h3⟩
end
structure DP (w:World) (g X Pp:Nat) (v:Value) (ts:List kJ) (vs:List Value) (k:Nat) (wr:World):Prop where
 P:CF wr Pp [v]
 R:CF wr X [K C 0 0]
 rd:RD wr g k
 gr:w.grownBy wr (U g)
 pl:lF wr (Pp+1) v ts vs
 sm:I7 ts
 sd:VN ts
 z:Pp<wr.heap.size
 gl:g<w.heap.size
 XP:w.heap.size≤X∧X<Pp
theorem XL (g k:Nat) (h:RD w g k) (hk:k≤900000) :
  Calls prog 57 #[.pointer (U ⟨g,0,C⟩)] w fun e' w'=>(∃ v ts vs,e'=.returned (aI #[v])∧lF w' w.heap.size v ts vs∧I7 ts∧VN ts∧1≤ts.length∧ts.length≤40)∧RD w' g (k+5000)∧w.grownBy w' (U g):=by
 obtain ⟨q0,p,cg,ch,ck⟩:=info_parts Tryz.info3;obtain ⟨iT,cc,b8,b9,ca⟩:=info_parts Tryz.info81;have bg:=h.lt;obtain ⟨W, hW⟩ := kC (w.alloc (aH #[K C 0 0] 33));have di:RD W g k:=by rw [hW];exact h.keep (fun q p=>kU _ _ _ A)
 have dt:w.grownBy W (U g):=by rw [hW];exact FZ (lJ _ _)
 have dm:CF W w.heap.size [K C 0 0]:=by rw [hW];exact CF.made w #[K C 0 0] _
 have dz:w.heap.size<W.heap.size:=dF;have HW:=hid hW;clear hW;go_enter func57,ntmps57
 go_wp2_with fail
 rw [← HW.out];refine (pick_any g 6 k _ di A A A).mono ?_;rintro e1 w1 ⟨⟨r1,fh,rfl⟩,du,dn⟩;go_wp2_with fail
 refine (pick_any g 12 (k+1) _ du A A A).mono ?_;rintro e2 w2 ⟨⟨r2,fk,rfl⟩,b5,b4⟩;have br:=grownBy_trans dn b4;have cf:=br.size;have HR:Hid (RD w2 g (k+2)∧w.grownBy w2 (U g)∧CF w2 w.heap.size [K C 0 0]∧w.heap.size<w2.heap.size):=⟨b5,grownBy_trans dt br,dm.block (br.block _ dz aQ),A⟩
 clear du b5 dn b4 br di dt dm HW h dz cf;go_upto_if 13 with fail
 go_cut [3] (fun nv wx=>∃ n:Nat,nv=I Y n∧1≤n∧n≤40∧RD wx g (k+2)∧w.grownBy wx (U g)∧CF wx w.heap.size [K C 0 0]∧w.heap.size<wx.heap.size)
 case first =>
  by_cases eg:r2=0
  ·subst eg
   go_wp2;go_meet
   case rel=>exact ⟨40,rfl,A,A,HR.out⟩
  ·have e5:¬ (r2:Int)=0:=by omega
   go_wp2;go_meet
   case rel=>exact ⟨r1+1,aW,A,A,HR.out⟩
 case rest =>
  obtain ⟨n,rfl,fe,ff,b5,b4,dk,cf⟩:=hcut;obtain ⟨W3, cx⟩ := kC (wc.alloc (aH #[K C 0 0] 33));obtain ⟨c, cq⟩ := kC wc.heap.size;have S0:DP w g w.heap.size c kH [] [] (k+2+0*100) W3:=by
   rw [cx,cq];exact ⟨CF.made wc #[K C 0 0] _,dk.block (kU _ _ _ A),(b5.keep (fun q p=>kU _ _ _ A)).mono A,FZ b4,lF.nil _ _,fun j hj=>absurd hj D,fun j hj=>absurd hj D,D,bg,⟨kL,cf⟩⟩
  have dh:=hid cx;have df:=hid cq;have dg:=hid S0;clear cx cq b5 b4 dk cf S0;go_upto_region 5 with fail
  rw [← dh.out];rw [← df.out];clear dh df;go_wp2;go_loopw [5] (fun x wr=>∃ i:Nat,i≤n∧x=I Y i∧∃ (v:Value) (ts:List kJ) (vs:List Value),ts.length=i∧DP w g w.heap.size c v ts vs (k+2+i*100) wr) (fun x _=>n - (intOf x).toNat)
  case atStart=>exact ⟨0,lG _,rfl,_,_,_,rfl,dg.out⟩
  case round =>
   clear dg;obtain ⟨wi, rfl⟩ := kC wr;obtain ⟨i,fb,rfl,v,ts,vs,rfl,S⟩:=hrel;have ax:=hid (show ts.length≤40 by omega);by_cases fc:ts.length<n
   ·have ew:(ts.length:Int)<(n:Int):=by omega
    have c7:=S.rd;have N:=hid S;clear S;have fa:ts.length≤40:=A;go_wp2_with fail
    refine (WH ts.length A).mono ?_;rintro e1 fo ⟨⟨yd,rfl,fl⟩,cy⟩;have dy:=c7.below cy;have dp:=grownBy_below (r:=U g) cy;have e8:¬ 9223372036854775807<1+yd.size:=A;obtain ⟨M, c6⟩ := kC ((⟨#[116]⟩ ++ yd:ByteArray));have fg:M.size≤10:=by rw [c6,Jq];have:(⟨#[116]⟩:ByteArray).size=1:=rfl;omega
    have eb:=hid c6;clear c6;go_wp2_with fail
    refine (pick_any g 5 _ _ dy A A A).mono ?_;rintro e2 cl ⟨⟨an,fi,rfl⟩,dw,br⟩;have dq:=grownBy_trans dp br;have eo:=c7.lt;have ee:=dq.size;obtain ⟨ed, cw⟩ := kC (cl.alloc (aH #[E M,I Y (1+(an:Int)),K C 0 0] 81));have cb:TD wi g cl.heap.size [E M,I Y (1+(an:Int)),K C 0 0] (k+2+ts.length*100+1) ed:=by
     rw [cw];exact ⟨CF.made cl _ _,dw.keep (fun q p=>kU _ _ _ A),FZ dq,eo,ee,D⟩
    obtain ⟨T, hT⟩ := kC cl.heap.size;rw [← hT] at cb;have ec:=hid cw;have HT:=hid hT;clear cw hT dw br dp cy dy c7;go_wp2_with fail
    rw [← eb.out];rw [← ec.out];rw [← HT.out];refine (pick_any g 8 _ _ cb.rd A A A).mono ?_;rintro e3 ea ⟨⟨db,fj,rfl⟩,dx,dr⟩;have b2:=cb.call dr dx;clear dx dr cb;by_cases ef:db=0
    ·subst ef
     have c1:ea.cell? ⟨T,1,C⟩=U (I Y (1+(an:Int))):=(b2.m 1 D).1;have f1:ea.frozen? ⟨T,1,C⟩=aK:=(b2.m 1 D).2;have dj:=b2.store (j:=1) D (I Y 20);simp only [oV,pW] at dj;clear b2;have b1:=hid dj;go_wp2;go_loopw [7] (fun x wx=>∃ j:Nat,j≤ts.length∧x=I Y j∧∃ (dv:Value) (a:List Int),a.length≤8∧(∀ d∈a,-1000≤d∧d≤1000)∧TD wi g T [E M,I Y 20,dv] (k+2+ts.length*100+2+2*j) wx∧Own (T+1) wx 1 dv a.length (a.map (I Y))) (fun x _=>ts.length - (intOf x).toNat)
     case atStart=>exact ⟨0,lG _,rfl,_,[],D,(fun _ h=>by cases h),b1.out.more A,Own.nil _ _ _⟩
     case round =>
      obtain ⟨j,hj,rfl,dv,a,b3,au,H,ho⟩:=hrel;obtain ⟨f,l,rfl⟩:=ho.slc;clear b1;have cd:wr.cell? ⟨T,2,C⟩=U (K f a.length l):=(H.m 2 D).1;by_cases et:j<ts.length
      ·have cz:(j:Int)<(ts.length:Int):=by omega
       by_cases eu:a.length<8
       ·have c5:(a.length:Int)<8:=by omega
        go_wp2_with fail
        refine (pick_any g 3 _ _ H.rd A A A).mono ?_;rintro e6 w6 ⟨⟨r6,ey,rfl⟩,b6,bs⟩;have al:=H.call bs b6;have en:g<T:=by have:=H.h1;have:=H.hT;omega
        have aw:=ho.grown bs (.inr (by intro hh;have:=ho.ku _ hh;omega));clear b6 bs cd H ho;by_cases cn:r6=0
        ·subst cn
         have bl:w6.cell? ⟨T,2,C⟩=U (K f a.length l):=(al.m 2 D).1;have hA:=al.alloc (aH #[I Y (j:Int)] 3);have bn:(w6.alloc (aH #[I Y (j:Int)] 3)).cell? ⟨T,2,C⟩=U (K f a.length l):=(hA.m 2 D).1;have aq:=aw.alloc (aH #[I Y (j:Int)] 3);have bc:Src prog 1 79 (K (U ⟨w6.heap.size,0,C⟩) 1 1) 1 [I Y (j:Int)] (w6.alloc (aH #[I Y (j:Int)] 3)) :=
          Own.src (B:=0) (.inr ⟨_,0,1,rfl,kW.made w6 0 3 1 1 1 _ 1 A kL G rfl kL _ rfl _ (.inl rfl)⟩) underlying79 dY
         have cv:=al.h3;go_wp2_with (at_builtin;refine kT _ rfl _ _ 79 79 rfl (T+1) 3 q0 (I Y 0) 1 8 underlying79 p cg ch ck rfl _ a.length _ rfl aq _ 1 _ rfl bc G A aQ ?_;intro v2 u J o af;obtain ⟨a9,c9,rfl⟩:=J.slc;have ae:=hA.grown o (fun q p=>jL);have bk:u.cell? ⟨T,2,C⟩=U (K f a.length l):=(ae.m 2 D).1;have f92:u.frozen? ⟨T,2,C⟩=aK:=(ae.m 2 D).2)
         have a8:=ae.store (j:=2) D (K a9 (a.length+1) c9);simp only [oV,pW] at a8;have bb:=J.grown (lU (lJ u (U T)) 2 (K a9 (a.length+1) c9)) (.inr gG);rw [show a.map (I Y) ++ [I Y (j:Int)]=(a ++ [(j:Int)]).map (I Y) by simp] at bb;have bq:∀ d∈a ++ [(j:Int)],-1000≤d∧d≤1000:=fun d hd=>by
          rcases List.mem_append.1 hd with hd | hd
          ·exact au d hd
          ·rw [List.mem_singleton.1 hd];omega
         clear hA aq bc ae J o af bl bn bk f92 al aw;go_wp2;go_roundw
         case rel=>exact ⟨j+1,A,aW,_,a ++ [(j:Int)],aQ,bq,a8.more A,by rw [lD];exact bb⟩
         case measure=>simp [intOf];omega
        ·have eh:¬ (r6:Int)=0:=by omega
         have ei:(((r6:Nat):Int) == 0)=aK:=aQ;by_cases c4:j=ts.length - 1
         ·have bw:(j:Int)=(ts.length:Int) - 1:=by omega
          have er:((j:Int) == (ts.length:Int) - 1)=true:=by rw [bw];exact beq_self_eq_true _
          clear c4 bw;go_wp2_with fail
          refine (pick_any g 2 _ _ al.rd A A A).mono ?_;rintro e7 w7 ⟨⟨r7,ez,rfl⟩,b7,bu⟩;have a7:=al.call bu b7;have bz:=aw.grown bu (.inr (by intro hh;have:=aw.ku _ hh;omega));clear b7 bu al aw;by_cases cp:r7=0
          ·subst cp
           have bl:w7.cell? ⟨T,2,C⟩=U (K f a.length l):=(a7.m 2 D).1;have hA:=a7.alloc (aH #[I Y (j:Int)] 3);have bn:(w7.alloc (aH #[I Y (j:Int)] 3)).cell? ⟨T,2,C⟩=U (K f a.length l):=(hA.m 2 D).1;have aq:=bz.alloc (aH #[I Y (j:Int)] 3);have bc:Src prog 1 79 (K (U ⟨w7.heap.size,0,C⟩) 1 1) 1 [I Y (j:Int)] (w7.alloc (aH #[I Y (j:Int)] 3)) :=
            Own.src (B:=0) (.inr ⟨_,0,1,rfl,kW.made w7 0 3 1 1 1 _ 1 A kL G rfl kL _ rfl _ (.inl rfl)⟩) underlying79 dY
           have cv:=a7.h3;go_wp2_with (at_builtin;refine kT _ rfl _ _ 79 79 rfl (T+1) 3 q0 (I Y 0) 1 8 underlying79 p cg ch ck rfl _ a.length _ rfl aq _ 1 _ rfl bc G A aQ ?_;intro v2 u J o af;obtain ⟨a9,c9,rfl⟩:=J.slc;have ae:=hA.grown o (fun q p=>jL);have bk:u.cell? ⟨T,2,C⟩=U (K f a.length l):=(ae.m 2 D).1;have f92:u.frozen? ⟨T,2,C⟩=aK:=(ae.m 2 D).2)
           have a8:=ae.store (j:=2) D (K a9 (a.length+1) c9);simp only [oV,pW] at a8;have bb:=J.grown (lU (lJ u (U T)) 2 (K a9 (a.length+1) c9)) (.inr gG);rw [show a.map (I Y) ++ [I Y (j:Int)]=(a ++ [(j:Int)]).map (I Y) by simp] at bb;have bq:∀ d∈a ++ [(j:Int)],-1000≤d∧d≤1000:=fun d hd=>by
            rcases List.mem_append.1 hd with hd | hd
            ·exact au d hd
            ·rw [List.mem_singleton.1 hd];omega
           clear hA aq bc ae J o af bl bn bk f92 a7 bz;go_wp2;go_roundw
           case rel=>exact ⟨j+1,A,aW,_,a ++ [(j:Int)],aQ,bq,a8.more A,by rw [lD];exact bb⟩
           case measure=>simp [intOf];omega
          ·have ej:¬ (r7:Int)=0:=by omega
           have ek:(((r7:Nat):Int) == 0)=aK:=aQ;go_wp2;go_roundw
           case rel=>exact ⟨j+1,A,aW,_,a,b3,au,a7.more A,bz⟩
           case measure=>simp [intOf];omega
         ·have bw:¬ (j:Int)=(ts.length:Int) - 1:=by omega
          go_wp2;go_roundw
          case rel=>exact ⟨j+1,A,aW,_,a,b3,au,al.more A,aw⟩
          case measure=>simp [intOf];omega
       ·have c5:¬ (a.length:Int)<8:=by omega
        obtain ⟨t0,t1⟩:=Ph H.m;have S:=N.out;have bg:=S.gl;have bh:=S.XP;have bo:=S.z;have cu:=H.hT;have ct:=H.h3;have ag:=H.gr;have c8:=S.gr.size;have cP:=S.P.block (ag.block c bo aQ);have cR:=S.R.block (ag.block w.heap.size A aQ);have pl:=S.pl.Af ag (fun x h1 _=>A);obtain ⟨Q,V,rfl⟩:=pl.row.slc;have p0:wr.cell? ⟨c,0,C⟩=U (K Q ts.length V):=(cP 0 D).1;obtain ⟨WA, aa⟩ := kC (wr.alloc (aH #[E M,I Y 20,K f a.length l] 81));have L:Below wr.heap.size wr WA:=by rw [aa];exact kQ
        have zA:WA.heap.size=wr.heap.size+1:=by rw [aa];simp
        have bd:Own (c+1) WA 3 (K (U ⟨wr.heap.size,0,C⟩) 1 1) 1 [E M,I Y 20,K f a.length l]:=by
         rw [aa];exact .inr ⟨_,0,1,rfl,kW.made wr (c+1) 81 3 1 1 _ 3 A kL G rfl kL _ rfl _ (.inl rfl)⟩
        have bf:Src prog 3 31 _ 1 _ WA:=bd.src underlying31 bI;have ah:=pl.row.below L kL;have bp:a.length≤50:=A;have X:Hid (lF wr (c+1) (K Q ts.length V) ts vs∧Own (c+1) wr 1 (K f a.length l) a.length (a.map (I Y))∧Dn (K f a.length l).ownBlock (K Q ts.length V).ownBlock∧∀ j,j<ts.length→Dn (vs.getD j kH).ownBlock (K f a.length l).ownBlock):=by
         have ba:∀ q,(K f a.length l).ownBlock=U q→T+1≤q:=ho.ku;refine ⟨pl,ho.mono' A,Dn.symm (Dn.later (m:=wi.heap.size) S.pl.row.kD (fun q p=>fH)),fun j hj=>Dn.later (m:=wi.heap.size) (S.pl.dep j hj).kD (fun q p=>fH)⟩
        have ay:=hid aa;have bm:=cd;clear aa bd pl S;go_wp2_with (at_builtin;rw [← ay.out];refine kT _ rfl _ _ 31 31 rfl (c+1) 81 iT (aI Nk) 3 48 underlying31 cc b8 b9 ca rfl _ ts.length _ rfl ah _ 1 _ rfl bf gZ (by have:=ax.out;omega) A ?_;intro v' u J o af;obtain ⟨ai,ak,rfl⟩:=J.slc;have ab:=(cP.block (L.block c A)).block (o.block c A (fun e=>dG));have p9:u.cell? ⟨c,0,C⟩=U (K Q ts.length V):=(ab 0 D).1;have f9:u.frozen? ⟨c,0,C⟩=aK:=(ab 0 D).2)
        have gs:=lU (lJ u (U c)) 0 (K ai (ts.length+1) ak);have a6:lF u (c+1) (K ai (ts.length+1) ak) (ts ++ [⟨M,20,a⟩]) (vs ++ [K f a.length l]):=by
         have hw:=ay.out;subst hw;exact lF.app X.out.1 X.out.2.1 X.out.2.2.1 X.out.2.2.2 J o af
        have cm:=o.size;have blk:∀ x,x<wr.heap.size→x≤c→u.heap[x]?=wr.heap[x]?:=fun x hx hp=>(o.block x A (fun e=>dG)).trans (L.block x hx);have SN:DP w g w.heap.size c (K ai (ts.length+1) ak) (ts ++ [⟨M,20,a⟩]) (vs ++ [K f a.length l]) (k+2+(ts.length+1)*100) (u.setCell ⟨c,0,C⟩ (K ai (ts.length+1) ak)):=by
         refine ⟨ab.set (j:=0) D _,(cR.block (blk w.heap.size A A)).block (gs.block w.heap.size A aQ),?_,?_,?_,N.out.sm.snoc iV (by show -1000≤20∧20≤(1000:Int);omega) bp au,N.out.sd.snoc iZ iU,bW,bg,bh⟩
         ·refine (H.rd.keep (fun q p=>(gs.block q A aQ).trans (blk q A A))).mono ?_
          have:=ax.out;omega
         ·have g1:=ag
          refine ⟨?_,?_,?_,?_,fun q p av=>?_⟩
          ·exact (gs.os.trans (o.os.trans (L.os.trans g1.os))).trans N.out.gr.os
          ·exact (gs.tape.trans (o.tape.trans (L.tape.trans g1.tape))).trans N.out.gr.tape
          ·exact (gs.output.trans (o.output.trans (L.output.trans g1.output))).trans N.out.gr.output
          ·have:=gs.size;omega
          ·exact (gs.block q A aQ).trans ((blk q A A).trans ((g1.block q A av).trans (N.out.gr.block q p av)))
         ·exact a6.Af gs (fun x h1 _=>A)
        have bj:=hid SN;clear SN a6 gs ab p9 f9 J o af X ah bf L cP cR p0 t0 t1 cd bm H ho blk;go_wp2;go_roundw
        case rel=>exact ⟨ts.length+1,A,aW,_,_,_,D,bj.out⟩
        case measure=>simp [intOf];omega
      ·have cz:¬ (j:Int)<(ts.length:Int):=by omega
       obtain ⟨t0,t1⟩:=Ph H.m;have S:=N.out;have bg:=S.gl;have bh:=S.XP;have bo:=S.z;have cu:=H.hT;have ct:=H.h3;have ag:=H.gr;have c8:=S.gr.size;have cP:=S.P.block (ag.block c bo aQ);have cR:=S.R.block (ag.block w.heap.size A aQ);have pl:=S.pl.Af ag (fun x h1 _=>A);obtain ⟨Q,V,rfl⟩:=pl.row.slc;have p0:wr.cell? ⟨c,0,C⟩=U (K Q ts.length V):=(cP 0 D).1;obtain ⟨WA, aa⟩ := kC (wr.alloc (aH #[E M,I Y 20,K f a.length l] 81));have L:Below wr.heap.size wr WA:=by rw [aa];exact kQ
       have zA:WA.heap.size=wr.heap.size+1:=by rw [aa];simp
       have bd:Own (c+1) WA 3 (K (U ⟨wr.heap.size,0,C⟩) 1 1) 1 [E M,I Y 20,K f a.length l]:=by
        rw [aa];exact .inr ⟨_,0,1,rfl,kW.made wr (c+1) 81 3 1 1 _ 3 A kL G rfl kL _ rfl _ (.inl rfl)⟩
       have bf:Src prog 3 31 _ 1 _ WA:=bd.src underlying31 bI;have ah:=pl.row.below L kL;have bp:a.length≤50:=A;have X:Hid (lF wr (c+1) (K Q ts.length V) ts vs∧Own (c+1) wr 1 (K f a.length l) a.length (a.map (I Y))∧Dn (K f a.length l).ownBlock (K Q ts.length V).ownBlock∧∀ j,j<ts.length→Dn (vs.getD j kH).ownBlock (K f a.length l).ownBlock):=by
        have ba:∀ q,(K f a.length l).ownBlock=U q→T+1≤q:=ho.ku;refine ⟨pl,ho.mono' A,Dn.symm (Dn.later (m:=wi.heap.size) S.pl.row.kD (fun q p=>fH)),fun j hj=>Dn.later (m:=wi.heap.size) (S.pl.dep j hj).kD (fun q p=>fH)⟩
       have ay:=hid aa;have bm:=cd;clear aa bd pl S;go_wp2_with (at_builtin;rw [← ay.out];refine kT _ rfl _ _ 31 31 rfl (c+1) 81 iT (aI Nk) 3 48 underlying31 cc b8 b9 ca rfl _ ts.length _ rfl ah _ 1 _ rfl bf gZ (by have:=ax.out;omega) A ?_;intro v' u J o af;obtain ⟨ai,ak,rfl⟩:=J.slc;have ab:=(cP.block (L.block c A)).block (o.block c A (fun e=>dG));have p9:u.cell? ⟨c,0,C⟩=U (K Q ts.length V):=(ab 0 D).1;have f9:u.frozen? ⟨c,0,C⟩=aK:=(ab 0 D).2)
       have gs:=lU (lJ u (U c)) 0 (K ai (ts.length+1) ak);have a6:lF u (c+1) (K ai (ts.length+1) ak) (ts ++ [⟨M,20,a⟩]) (vs ++ [K f a.length l]):=by
        have hw:=ay.out;subst hw;exact lF.app X.out.1 X.out.2.1 X.out.2.2.1 X.out.2.2.2 J o af
       have cm:=o.size;have blk:∀ x,x<wr.heap.size→x≤c→u.heap[x]?=wr.heap[x]?:=fun x hx hp=>(o.block x A (fun e=>dG)).trans (L.block x hx);have SN:DP w g w.heap.size c (K ai (ts.length+1) ak) (ts ++ [⟨M,20,a⟩]) (vs ++ [K f a.length l]) (k+2+(ts.length+1)*100) (u.setCell ⟨c,0,C⟩ (K ai (ts.length+1) ak)):=by
        refine ⟨ab.set (j:=0) D _,(cR.block (blk w.heap.size A A)).block (gs.block w.heap.size A aQ),?_,?_,?_,N.out.sm.snoc iV (by show -1000≤20∧20≤(1000:Int);omega) bp au,N.out.sd.snoc iZ iU,bW,bg,bh⟩
        ·refine (H.rd.keep (fun q p=>(gs.block q A aQ).trans (blk q A A))).mono ?_
         have:=ax.out;omega
        ·have g1:=ag
         refine ⟨?_,?_,?_,?_,fun q p av=>?_⟩
         ·exact (gs.os.trans (o.os.trans (L.os.trans g1.os))).trans N.out.gr.os
         ·exact (gs.tape.trans (o.tape.trans (L.tape.trans g1.tape))).trans N.out.gr.tape
         ·exact (gs.output.trans (o.output.trans (L.output.trans g1.output))).trans N.out.gr.output
         ·have:=gs.size;omega
         ·exact (gs.block q A aQ).trans ((blk q A A).trans ((g1.block q A av).trans (N.out.gr.block q p av)))
        ·exact a6.Af gs (fun x h1 _=>A)
       have bj:=hid SN;clear SN a6 gs ab p9 f9 J o af X ah bf L cP cR p0 t0 t1 cd bm H ho blk;go_wp2;go_roundw
       case rel=>exact ⟨ts.length+1,A,aW,_,_,_,D,bj.out⟩
       case measure=>simp [intOf];omega
    ·have e0:¬ (db:Int)=0:=by omega
     have e4:(((db:Nat):Int) == 0)=aK:=aQ;have b1:=hid b2;go_wp2;go_loopw [7] (fun x wx=>∃ j:Nat,j≤ts.length∧x=I Y j∧∃ (dv:Value) (a:List Int),a.length≤8∧(∀ d∈a,-1000≤d∧d≤1000)∧TD wi g T [E M,I Y (1+(an:Int)),dv] (k+2+ts.length*100+2+2*j) wx∧Own (T+1) wx 1 dv a.length (a.map (I Y))) (fun x _=>ts.length - (intOf x).toNat)
     case atStart=>exact ⟨0,lG _,rfl,_,[],D,(fun _ h=>by cases h),b1.out.more A,Own.nil _ _ _⟩
     case round =>
      obtain ⟨j,hj,rfl,dv,a,b3,au,H,ho⟩:=hrel;obtain ⟨f,l,rfl⟩:=ho.slc;clear b1;have cd:wr.cell? ⟨T,2,C⟩=U (K f a.length l):=(H.m 2 D).1;by_cases et:j<ts.length
      ·have cz:(j:Int)<(ts.length:Int):=by omega
       by_cases eu:a.length<8
       ·have c5:(a.length:Int)<8:=by omega
        go_wp2_with fail
        refine (pick_any g 3 _ _ H.rd A A A).mono ?_;rintro e6 w6 ⟨⟨r6,ey,rfl⟩,b6,bs⟩;have al:=H.call bs b6;have en:g<T:=by have:=H.h1;have:=H.hT;omega
        have aw:=ho.grown bs (.inr (by intro hh;have:=ho.ku _ hh;omega));clear b6 bs cd H ho;by_cases cn:r6=0
        ·subst cn
         have bl:w6.cell? ⟨T,2,C⟩=U (K f a.length l):=(al.m 2 D).1;have hA:=al.alloc (aH #[I Y (j:Int)] 3);have bn:(w6.alloc (aH #[I Y (j:Int)] 3)).cell? ⟨T,2,C⟩=U (K f a.length l):=(hA.m 2 D).1;have aq:=aw.alloc (aH #[I Y (j:Int)] 3);have bc:Src prog 1 79 (K (U ⟨w6.heap.size,0,C⟩) 1 1) 1 [I Y (j:Int)] (w6.alloc (aH #[I Y (j:Int)] 3)) :=
          Own.src (B:=0) (.inr ⟨_,0,1,rfl,kW.made w6 0 3 1 1 1 _ 1 A kL G rfl kL _ rfl _ (.inl rfl)⟩) underlying79 dY
         have cv:=al.h3;go_wp2_with (at_builtin;refine kT _ rfl _ _ 79 79 rfl (T+1) 3 q0 (I Y 0) 1 8 underlying79 p cg ch ck rfl _ a.length _ rfl aq _ 1 _ rfl bc G A aQ ?_;intro v2 u J o af;obtain ⟨a9,c9,rfl⟩:=J.slc;have ae:=hA.grown o (fun q p=>jL);have bk:u.cell? ⟨T,2,C⟩=U (K f a.length l):=(ae.m 2 D).1;have f92:u.frozen? ⟨T,2,C⟩=aK:=(ae.m 2 D).2)
         have a8:=ae.store (j:=2) D (K a9 (a.length+1) c9);simp only [oV,pW] at a8;have bb:=J.grown (lU (lJ u (U T)) 2 (K a9 (a.length+1) c9)) (.inr gG);rw [show a.map (I Y) ++ [I Y (j:Int)]=(a ++ [(j:Int)]).map (I Y) by simp] at bb;have bq:∀ d∈a ++ [(j:Int)],-1000≤d∧d≤1000:=fun d hd=>by
          rcases List.mem_append.1 hd with hd | hd
          ·exact au d hd
          ·rw [List.mem_singleton.1 hd];omega
         clear hA aq bc ae J o af bl bn bk f92 al aw;go_wp2;go_roundw
         case rel=>exact ⟨j+1,A,aW,_,a ++ [(j:Int)],aQ,bq,a8.more A,by rw [lD];exact bb⟩
         case measure=>simp [intOf];omega
        ·have eh:¬ (r6:Int)=0:=by omega
         have ei:(((r6:Nat):Int) == 0)=aK:=aQ;by_cases c4:j=ts.length - 1
         ·have bw:(j:Int)=(ts.length:Int) - 1:=by omega
          have er:((j:Int) == (ts.length:Int) - 1)=true:=by rw [bw];exact beq_self_eq_true _
          clear c4 bw;go_wp2_with fail
          refine (pick_any g 2 _ _ al.rd A A A).mono ?_;rintro e7 w7 ⟨⟨r7,ez,rfl⟩,b7,bu⟩;have a7:=al.call bu b7;have bz:=aw.grown bu (.inr (by intro hh;have:=aw.ku _ hh;omega));clear b7 bu al aw;by_cases cp:r7=0
          ·subst cp
           have bl:w7.cell? ⟨T,2,C⟩=U (K f a.length l):=(a7.m 2 D).1;have hA:=a7.alloc (aH #[I Y (j:Int)] 3);have bn:(w7.alloc (aH #[I Y (j:Int)] 3)).cell? ⟨T,2,C⟩=U (K f a.length l):=(hA.m 2 D).1;have aq:=bz.alloc (aH #[I Y (j:Int)] 3);have bc:Src prog 1 79 (K (U ⟨w7.heap.size,0,C⟩) 1 1) 1 [I Y (j:Int)] (w7.alloc (aH #[I Y (j:Int)] 3)) :=
            Own.src (B:=0) (.inr ⟨_,0,1,rfl,kW.made w7 0 3 1 1 1 _ 1 A kL G rfl kL _ rfl _ (.inl rfl)⟩) underlying79 dY
           have cv:=a7.h3;go_wp2_with (at_builtin;refine kT _ rfl _ _ 79 79 rfl (T+1) 3 q0 (I Y 0) 1 8 underlying79 p cg ch ck rfl _ a.length _ rfl aq _ 1 _ rfl bc G A aQ ?_;intro v2 u J o af;obtain ⟨a9,c9,rfl⟩:=J.slc;have ae:=hA.grown o (fun q p=>jL);have bk:u.cell? ⟨T,2,C⟩=U (K f a.length l):=(ae.m 2 D).1;have f92:u.frozen? ⟨T,2,C⟩=aK:=(ae.m 2 D).2)
           have a8:=ae.store (j:=2) D (K a9 (a.length+1) c9);simp only [oV,pW] at a8;have bb:=J.grown (lU (lJ u (U T)) 2 (K a9 (a.length+1) c9)) (.inr gG);rw [show a.map (I Y) ++ [I Y (j:Int)]=(a ++ [(j:Int)]).map (I Y) by simp] at bb;have bq:∀ d∈a ++ [(j:Int)],-1000≤d∧d≤1000:=fun d hd=>by
            rcases List.mem_append.1 hd with hd | hd
            ·exact au d hd
            ·rw [List.mem_singleton.1 hd];omega
           clear hA aq bc ae J o af bl bn bk f92 a7 bz;go_wp2;go_roundw
           case rel=>exact ⟨j+1,A,aW,_,a ++ [(j:Int)],aQ,bq,a8.more A,by rw [lD];exact bb⟩
           case measure=>simp [intOf];omega
          ·have ej:¬ (r7:Int)=0:=by omega
           have ek:(((r7:Nat):Int) == 0)=aK:=aQ;go_wp2;go_roundw
           case rel=>exact ⟨j+1,A,aW,_,a,b3,au,a7.more A,bz⟩
           case measure=>simp [intOf];omega
         ·have bw:¬ (j:Int)=(ts.length:Int) - 1:=by omega
          go_wp2;go_roundw
          case rel=>exact ⟨j+1,A,aW,_,a,b3,au,al.more A,aw⟩
          case measure=>simp [intOf];omega
       ·have c5:¬ (a.length:Int)<8:=by omega
        obtain ⟨t0,t1⟩:=Ph H.m;have S:=N.out;have bg:=S.gl;have bh:=S.XP;have bo:=S.z;have cu:=H.hT;have ct:=H.h3;have ag:=H.gr;have c8:=S.gr.size;have cP:=S.P.block (ag.block c bo aQ);have cR:=S.R.block (ag.block w.heap.size A aQ);have pl:=S.pl.Af ag (fun x h1 _=>A);obtain ⟨Q,V,rfl⟩:=pl.row.slc;have p0:wr.cell? ⟨c,0,C⟩=U (K Q ts.length V):=(cP 0 D).1;obtain ⟨WA, aa⟩ := kC (wr.alloc (aH #[E M,I Y (1+(an:Int)),K f a.length l] 81));have L:Below wr.heap.size wr WA:=by rw [aa];exact kQ
        have zA:WA.heap.size=wr.heap.size+1:=by rw [aa];simp
        have bd:Own (c+1) WA 3 (K (U ⟨wr.heap.size,0,C⟩) 1 1) 1 [E M,I Y (1+(an:Int)),K f a.length l]:=by
         rw [aa];exact .inr ⟨_,0,1,rfl,kW.made wr (c+1) 81 3 1 1 _ 3 A kL G rfl kL _ rfl _ (.inl rfl)⟩
        have bf:Src prog 3 31 _ 1 _ WA:=bd.src underlying31 bI;have ah:=pl.row.below L kL;have bp:a.length≤50:=A;have X:Hid (lF wr (c+1) (K Q ts.length V) ts vs∧Own (c+1) wr 1 (K f a.length l) a.length (a.map (I Y))∧Dn (K f a.length l).ownBlock (K Q ts.length V).ownBlock∧∀ j,j<ts.length→Dn (vs.getD j kH).ownBlock (K f a.length l).ownBlock):=by
         have ba:∀ q,(K f a.length l).ownBlock=U q→T+1≤q:=ho.ku;refine ⟨pl,ho.mono' A,Dn.symm (Dn.later (m:=wi.heap.size) S.pl.row.kD (fun q p=>fH)),fun j hj=>Dn.later (m:=wi.heap.size) (S.pl.dep j hj).kD (fun q p=>fH)⟩
        have ay:=hid aa;have bm:=cd;clear aa bd pl S;go_wp2_with (at_builtin;rw [← ay.out];refine kT _ rfl _ _ 31 31 rfl (c+1) 81 iT (aI Nk) 3 48 underlying31 cc b8 b9 ca rfl _ ts.length _ rfl ah _ 1 _ rfl bf gZ (by have:=ax.out;omega) A ?_;intro v' u J o af;obtain ⟨ai,ak,rfl⟩:=J.slc;have ab:=(cP.block (L.block c A)).block (o.block c A (fun e=>dG));have p9:u.cell? ⟨c,0,C⟩=U (K Q ts.length V):=(ab 0 D).1;have f9:u.frozen? ⟨c,0,C⟩=aK:=(ab 0 D).2)
        have gs:=lU (lJ u (U c)) 0 (K ai (ts.length+1) ak);have a6:lF u (c+1) (K ai (ts.length+1) ak) (ts ++ [⟨M,(1+(an:Int)),a⟩]) (vs ++ [K f a.length l]):=by
         have hw:=ay.out;subst hw;exact lF.app X.out.1 X.out.2.1 X.out.2.2.1 X.out.2.2.2 J o af
        have cm:=o.size;have blk:∀ x,x<wr.heap.size→x≤c→u.heap[x]?=wr.heap[x]?:=fun x hx hp=>(o.block x A (fun e=>dG)).trans (L.block x hx);have SN:DP w g w.heap.size c (K ai (ts.length+1) ak) (ts ++ [⟨M,(1+(an:Int)),a⟩]) (vs ++ [K f a.length l]) (k+2+(ts.length+1)*100) (u.setCell ⟨c,0,C⟩ (K ai (ts.length+1) ak)):=by
         refine ⟨ab.set (j:=0) D _,(cR.block (blk w.heap.size A A)).block (gs.block w.heap.size A aQ),?_,?_,?_,N.out.sm.snoc iV jH bp au,N.out.sd.snoc iZ iU,bW,bg,bh⟩
         ·refine (H.rd.keep (fun q p=>(gs.block q A aQ).trans (blk q A A))).mono ?_
          have:=ax.out;omega
         ·have g1:=ag
          refine ⟨?_,?_,?_,?_,fun q p av=>?_⟩
          ·exact (gs.os.trans (o.os.trans (L.os.trans g1.os))).trans N.out.gr.os
          ·exact (gs.tape.trans (o.tape.trans (L.tape.trans g1.tape))).trans N.out.gr.tape
          ·exact (gs.output.trans (o.output.trans (L.output.trans g1.output))).trans N.out.gr.output
          ·have:=gs.size;omega
          ·exact (gs.block q A aQ).trans ((blk q A A).trans ((g1.block q A av).trans (N.out.gr.block q p av)))
         ·exact a6.Af gs (fun x h1 _=>A)
        have bj:=hid SN;clear SN a6 gs ab p9 f9 J o af X ah bf L cP cR p0 t0 t1 cd bm H ho blk;go_wp2;go_roundw
        case rel=>exact ⟨ts.length+1,A,aW,_,_,_,D,bj.out⟩
        case measure=>simp [intOf];omega
      ·have cz:¬ (j:Int)<(ts.length:Int):=by omega
       obtain ⟨t0,t1⟩:=Ph H.m;have S:=N.out;have bg:=S.gl;have bh:=S.XP;have bo:=S.z;have cu:=H.hT;have ct:=H.h3;have ag:=H.gr;have c8:=S.gr.size;have cP:=S.P.block (ag.block c bo aQ);have cR:=S.R.block (ag.block w.heap.size A aQ);have pl:=S.pl.Af ag (fun x h1 _=>A);obtain ⟨Q,V,rfl⟩:=pl.row.slc;have p0:wr.cell? ⟨c,0,C⟩=U (K Q ts.length V):=(cP 0 D).1;obtain ⟨WA, aa⟩ := kC (wr.alloc (aH #[E M,I Y (1+(an:Int)),K f a.length l] 81));have L:Below wr.heap.size wr WA:=by rw [aa];exact kQ
       have zA:WA.heap.size=wr.heap.size+1:=by rw [aa];simp
       have bd:Own (c+1) WA 3 (K (U ⟨wr.heap.size,0,C⟩) 1 1) 1 [E M,I Y (1+(an:Int)),K f a.length l]:=by
        rw [aa];exact .inr ⟨_,0,1,rfl,kW.made wr (c+1) 81 3 1 1 _ 3 A kL G rfl kL _ rfl _ (.inl rfl)⟩
       have bf:Src prog 3 31 _ 1 _ WA:=bd.src underlying31 bI;have ah:=pl.row.below L kL;have bp:a.length≤50:=A;have X:Hid (lF wr (c+1) (K Q ts.length V) ts vs∧Own (c+1) wr 1 (K f a.length l) a.length (a.map (I Y))∧Dn (K f a.length l).ownBlock (K Q ts.length V).ownBlock∧∀ j,j<ts.length→Dn (vs.getD j kH).ownBlock (K f a.length l).ownBlock):=by
        have ba:∀ q,(K f a.length l).ownBlock=U q→T+1≤q:=ho.ku;refine ⟨pl,ho.mono' A,Dn.symm (Dn.later (m:=wi.heap.size) S.pl.row.kD (fun q p=>fH)),fun j hj=>Dn.later (m:=wi.heap.size) (S.pl.dep j hj).kD (fun q p=>fH)⟩
       have ay:=hid aa;have bm:=cd;clear aa bd pl S;go_wp2_with (at_builtin;rw [← ay.out];refine kT _ rfl _ _ 31 31 rfl (c+1) 81 iT (aI Nk) 3 48 underlying31 cc b8 b9 ca rfl _ ts.length _ rfl ah _ 1 _ rfl bf gZ (by have:=ax.out;omega) A ?_;intro v' u J o af;obtain ⟨ai,ak,rfl⟩:=J.slc;have ab:=(cP.block (L.block c A)).block (o.block c A (fun e=>dG));have p9:u.cell? ⟨c,0,C⟩=U (K Q ts.length V):=(ab 0 D).1;have f9:u.frozen? ⟨c,0,C⟩=aK:=(ab 0 D).2)
       have gs:=lU (lJ u (U c)) 0 (K ai (ts.length+1) ak);have a6:lF u (c+1) (K ai (ts.length+1) ak) (ts ++ [⟨M,(1+(an:Int)),a⟩]) (vs ++ [K f a.length l]):=by
        have hw:=ay.out;subst hw;exact lF.app X.out.1 X.out.2.1 X.out.2.2.1 X.out.2.2.2 J o af
       have cm:=o.size;have blk:∀ x,x<wr.heap.size→x≤c→u.heap[x]?=wr.heap[x]?:=fun x hx hp=>(o.block x A (fun e=>dG)).trans (L.block x hx);have SN:DP w g w.heap.size c (K ai (ts.length+1) ak) (ts ++ [⟨M,(1+(an:Int)),a⟩]) (vs ++ [K f a.length l]) (k+2+(ts.length+1)*100) (u.setCell ⟨c,0,C⟩ (K ai (ts.length+1) ak)):=by
        refine ⟨ab.set (j:=0) D _,(cR.block (blk w.heap.size A A)).block (gs.block w.heap.size A aQ),?_,?_,?_,N.out.sm.snoc iV jH bp au,N.out.sd.snoc iZ iU,bW,bg,bh⟩
        ·refine (H.rd.keep (fun q p=>(gs.block q A aQ).trans (blk q A A))).mono ?_
         have:=ax.out;omega
        ·have g1:=ag
         refine ⟨?_,?_,?_,?_,fun q p av=>?_⟩
         ·exact (gs.os.trans (o.os.trans (L.os.trans g1.os))).trans N.out.gr.os
         ·exact (gs.tape.trans (o.tape.trans (L.tape.trans g1.tape))).trans N.out.gr.tape
         ·exact (gs.output.trans (o.output.trans (L.output.trans g1.output))).trans N.out.gr.output
         ·have:=gs.size;omega
         ·exact (gs.block q A aQ).trans ((blk q A A).trans ((g1.block q A av).trans (N.out.gr.block q p av)))
        ·exact a6.Af gs (fun x h1 _=>A)
       have bj:=hid SN;clear SN a6 gs ab p9 f9 J o af X ah bf L cP cR p0 t0 t1 cd bm H ho blk;go_wp2;go_roundw
       case rel=>exact ⟨ts.length+1,A,aW,_,_,_,D,bj.out⟩
       case measure=>simp [intOf];omega
   ·have ew:¬ (ts.length:Int)<(n:Int):=by omega
    obtain ⟨Q,V,rfl⟩:=S.pl.row.slc;have p0:wi.cell? ⟨c,0,C⟩=U (K Q ts.length V):=(S.P 0 D).1;have k0:wi.cell? ⟨w.heap.size,0,C⟩=U (K C 0 0):=(S.R 0 D).1;have f0:wi.frozen? ⟨w.heap.size,0,C⟩=aK:=(S.R 0 D).2;have bh:=S.XP;have gs:=lU (lJ wi (U w.heap.size)) 0 (K Q ts.length V);have hz:=S.z;have e9:=S.gl;have HF:Hid ((∃ v' b0 de,Ending.returned (aI #[K Q ts.length V])=Ending.returned (aI #[v'])∧lF (wi.setCell ⟨w.heap.size,0,C⟩ (K Q ts.length V)) w.heap.size v' b0 de∧I7 b0∧VN b0∧1≤b0.length∧b0.length≤40)∧RD (wi.setCell ⟨w.heap.size,0,C⟩ (K Q ts.length V)) g (k+5000)∧w.grownBy (wi.setCell ⟨w.heap.size,0,C⟩ (K Q ts.length V)) (U g)):=by
     refine ⟨⟨_,ts,vs,rfl,(S.pl.Af gs (fun x h1 _=>A)).mono A,S.sm,S.sd,A,A⟩,(S.rd.set (by show g<w.heap.size;omega) _).mono A,?_⟩;refine ⟨S.gr.os,S.gr.tape,S.gr.output,by simpa [World.setCell] using S.gr.size,fun q p av=>(gs.block q (by have:=S.gr.size;omega) aQ).trans (S.gr.block q p av)⟩
    clear S gs;go_wp2;obtain ⟨⟨v',b0,de,e1,e2,e3⟩,h2,h3⟩:=HF.out;exact bodyPost_ret (v:=aI #[K Q ts.length V]) (by simp [results,results57,go_sem,k0]) rfl ⟨⟨v',e1,b0,⟨de,e2⟩,e3⟩,h2,h3⟩
end
end Go.Proofs.YtfkkipgcfoegmaaGreat
