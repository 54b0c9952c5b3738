
import Derived.Test.YtfkkipgcfoegmaaGreatQBsj
import Derived.Test.YtfkkipgcfoegmaaGreatQRSp
set_option maxHeartbeats 8000000
set_option maxRecDepth 100000
namespace Go.Proofs.YtfkkipgcfoegmaaGreat
open Go.Proofs.Tryz
open Go.Value renaming slice→K,string→E,bool→aF,pointer→aG,agg→aI
open Option renaming none→C,some→U
open Go.Operand renaming tmp→F
open Go.Obj renaming cells→aH
open Bool renaming false→aK,true→aN
open Go.Value renaming int→I
open Go.IntKind renaming i64→Y
open Go.RowKit
variable {o:Oper} {w:World} {ρ:Operand→Value}



theorem ZI {b k:Nat} {u v:Value} (x:Operand) (h:o.op=.load 25 x) (c:ρ x=aG (U ⟨b,k,C⟩)) (hu:w.cell? ⟨b,k,C⟩=U u) (a:w.cell? ⟨b,k+1,C⟩=U v):(execOp ρ o).run prog w=.ok (.value (aI #[u,v])) w:=by
 unfold execOp;rw [h];simp [go_sem,c,hu,a]
theorem PV (h:o.op=.alloc 41):(execOp ρ o).run prog w=.ok (.value (aG (U ⟨w.heap.size,0,C⟩))) (w.alloc (aH rP 41)):=by
 unfold execOp;rw [h];simp [go_sem]
theorem QM (v1:Value) (w:World):Sem.run prog (callFunc 20 #[v1]) w=.ok (.enter 20 #[v1]) w:=Z
theorem Lc (v1 v2:Value) (w:World):Sem.run prog (callFunc 14 #[v1,v2]) w=.ok (.enter 14 #[v1,v2]) w:=Z
theorem Qu (wk:Int) (up:Bool) (now sn ep gv:Int) (a1 a2 ar aj az ao:Option Addr) (n1 c1 n2 c2 nr cr N cj P cs no co:Nat) (dh ek di en br or' bj oj bs il bo oo:Nat) (L1 L2 R:List ByteArray) (J:List Tr) (S:List (Bool × Int)) (L:List Tr) (pa:Option Addr) (pb po T pc:Nat) (ts:List kJ) (w:World) (h1:kS w a1 dh ek n1 L1) (h2:kS w a2 di en n2 L2) (hR:kS w ar br or' nr R) (hJ:qZ w aj bj oj N J) (hS:Ag w az bs il P S) (hO:qZ w ao bo oo no L) (hT:lN w pa pb po T ts) (fj:n1≤1048576) (fk:n2≤1048576) (jh:n1+n2≤1048576) (jk:nr≤1048576) (ji:N≤1048576) (jl:P≤1048576) (jj:no≤1048576) :
  Calls prog 5 #[aI #[I Y wk,aF up,I Y now,I Y sn,I Y ep,I Y gv,K a1 n1 c1,K a2 n2 c2,K ar nr cr,K aj N cj,K az P cs,K ao no co],aI #[K pa T pc]] w fun e w'=>kG e (vB ts wk up now sn ep gv L1 L2 R J S L)∧Below w.heap.size w w':=by
 obtain ⟨W, hW⟩ := kC ((w.alloc (aH #[I Y wk,aF up,I Y now,I Y sn,I Y ep,I Y gv,K a1 n1 c1,K a2 n2 c2,K ar nr cr,K aj N cj,K az P cs,K ao no co] 30)).alloc (aH #[K pa T pc] 33));have e8:Below w.heap.size w W:=jT;have jm:W.heap.size=w.heap.size+2:=dF;have hq:MC W w.heap.size [I Y wk,aF up,I Y now,I Y sn,I Y ep,I Y gv,K a1 n1 c1,K a2 n2 c2,K ar nr cr,K aj N cj,K az P cs,K ao no co]∧MC W (w.heap.size+1) [K pa T pc]:=by
  have x1:=MC.made w #[I Y wk,aF up,I Y now,I Y sn,I Y ep,I Y gv,K a1 n1 c1,K a2 n2 c2,K ar nr cr,K aj N cj,K az P cs,K ao no co] 30;have x3:=MC.made (w.alloc (aH #[I Y wk,aF up,I Y now,I Y sn,I Y ep,I Y gv,K a1 n1 c1,K a2 n2 c2,K ar nr cr,K aj N cj,K az P cs,K ao no co] 30)) #[K pa T pc] 33;rw [mJ] at x3;rw [hW];exact ⟨x1.block (kU _ _ _ D),x3⟩
 have dt:∀ s∈L1 ++ L2,s.size≤maxLen:=fun s hs=>by
  rcases List.mem_append.1 hs with h | h
  ·exact h1.sz s h
  ·exact h2.sz s h
 have gi:=hid h1.len;have aw:=hid h2.len;have ae:=hid hR.len;have ak:=hid hJ.len;have ai:=hid hS.len;have ah:=hid hO.len;have cm:=hid hT.len;have hr:=hT.max;unfold maxLen at hr;have zp:W.cell? ⟨w.heap.size+1,0,C⟩=U (K pa T pc):=hq.2 0 D;go_enter func5,ntmps5
 go_upto_region 1 with fail
 rw [← hW];clear hW;go_wp2_with fail
 refine (ru pa pb po T pc ts (hT.below' e8)).mono ?_;rintro e w1 ⟨⟨ey,rfl,c9⟩,cz⟩;have bw:=e8.trans (cz.mono A);have X:=MC.below hq.1 cz A;have db:=MC.below hq.2 cz A;have ie:w.heap.size+2≤w1.heap.size:=by have:=cz.size;omega
 clear zp hq;obtain ⟨b0,-,b2,-,-,-,b6,b7⟩:=mc8 X;by_cases bc:ey=0
 ·subst bc
  have ir:=hid c9;clear c9;cases gb:inB wk 1 8 with
  | false =>
   have g:=hid (show ¬ (vB ts wk up now sn ep gv L1 L2 R J S L) from fun c=>mO gb c.2.1);go_wp2_with (go_at_call 19;refine (kP _ _ _).mono ?_;rintro e w9 ⟨rfl,a⟩;rw [a];clear a)
   go_ret;exact ⟨kG.f g.out,bw⟩
  | true =>
   have ew:=hid (mM gb);cases fq:inB now 0 1000000 with
   | false =>
    have g:=hid (show ¬ (vB ts wk up now sn ep gv L1 L2 R J S L) from fun c=>mO fq c.2.2.1);go_wp2_with (go_at_call 19;refine (kP _ _ _).mono ?_;rintro e w9 ⟨rfl,a⟩;rw [a];clear a)
    go_ret;exact ⟨kG.f g.out,bw⟩
   | true =>
    have cn:=hid (mM fq);by_cases ix:310<n1+n2
    ·have g:=hid (show ¬ (vB ts wk up now sn ep gv L1 L2 R J S L) from fun c=>by have:=c.1.2;rw [lD,gi.out,aw.out] at this;omega)
     have gw:(310:Int)<(n1:Int)+(n2:Int):=A;go_wp2_with (go_at_call 19;refine (kP _ _ _).mono ?_;rintro e w9 ⟨rfl,a⟩;rw [a];clear a)
     go_ret;exact ⟨kG.f g.out,bw⟩
    ·have gw:¬ ((310:Int)<(n1:Int)+(n2:Int)):=by omega
     go_upto_region 3 with (go_at_call 19;refine (kP _ _ _).mono ?_;rintro e w9 ⟨rfl,a⟩;rw [a];clear a)
     clear b0 b2 b6 b7;go_cut [5] (fun sv wx=>∃ (p:Nat) (r o:Int) (Q:List ByteArray) (z:Option Addr) (H:Nat),sv=aG (U ⟨p,0,C⟩)∧MC wx p [I Y r,I Y o,K z Q.length H]∧p<wx.heap.size∧rJ ts (L1 ++ L2) r o Q∧Own w.heap.size wx 1 (K z Q.length H) Q.length (Q.map E)∧MC wx w.heap.size [I Y wk,aF up,I Y now,I Y sn,I Y ep,I Y gv,K a1 n1 c1,K a2 n2 c2,K ar nr cr,K aj N cj,K az P cs,K ao no co]∧MC wx (w.heap.size+1) [K pa T pc]∧Below w.heap.size w wx∧w.heap.size+2≤wx.heap.size)
     case first =>
      refine wp_region_held (S:=fun w'=>MC w' w.heap.size [I Y wk,aF up,I Y now,I Y sn,I Y ep,I Y gv,K a1 n1 c1,K a2 n2 c2,K ar nr cr,K aj N cj,K az P cs,K ao no co]∧MC w' (w.heap.size+1) [K pa T pc]) Z ?_;change wpAnyH _ _ _ _ _ _ _ _ (World.drew _);obtain ⟨u0, bm⟩ := kC w1.drew;have bk:MC u0 w.heap.size [I Y wk,aF up,I Y now,I Y sn,I Y ep,I Y gv,K a1 n1 c1,K a2 n2 c2,K ar nr cr,K aj N cj,K az P cs,K ao no co]:=by rw [bm];exact X.block rfl
      have bl:MC u0 (w.heap.size+1) [K pa T pc]:=by rw [bm];exact db.block rfl
      have bd:Below w.heap.size w u0:=by rw [bm];exact bw.drew
      have ei:w.heap.size+2≤u0.heap.size:=by rw [bm];exact ie
      rw [← bm];clear bm;refine jZ (i:=0) (d:=U 38) (v:=aI #[K pa T pc]) (l':=(bt 7 1)) rfl (fun _ hc=>Ue (F 3) Z Z (hc.2 0 D)) ⟨bk,bl⟩ ?_;refine jZ (i:=1) (d:=U 39) (v:=aG (U ⟨w.heap.size,6,C⟩)) (l':=(bt 7 3)) rfl (fun _ hc=>Z) ⟨bk,bl⟩ ?_;refine jZ (i:=2) (d:=U 40) (v:=aI #[K a1 n1 c1,K a2 n2 c2]) (l':=(bt 7 7)) rfl (fun _ hc=>ZI (F 39) Z Z (hc.1 6 D) (hc.1 7 D)) ⟨bk,bl⟩ ?_;refine nT (i:=3) (j:=5) Z (kZ (i:=3) (d:=U 41) (f:=20) (args:=#[aI #[K a1 n1 c1,K a2 n2 c2]]) (l':=(bt 7 15)) (R:=fun v w'=>Own u0.heap.size w' 1 v (n1+n2) ((L1 ++ L2).map E)∧Below u0.heap.size u0 w') rfl Z Z Z (lW (F 40) #[25] Z Z Z QM) ((KU a1 a2 dh ek n1 c1 di en n2 c2 L1 L2 u0 (h1.below' bd) (h2.below' bd) fj fk).mono fun _ _ ⟨⟨v,he,ho⟩,l⟩=>⟨v,he,ho,l⟩) ?_) (kM (i:=5) (d:=U 5) (v:=aG (U ⟨u0.heap.size,0,C⟩)) (w':=u0.alloc (aH rP 41)) (l':=(bt 7 39)) rfl Z Z Z (PV Z) ⟨MC.below bk kQ A,MC.below bl kQ A⟩ ?_)
      ·rintro vx u1 ⟨cf,c5⟩
       have dc:=MC.below bk c5 A;have de:=MC.below bl c5 A;have bz:=bd.trans (c5.mono bd.size);have ej:w.heap.size+2≤u1.heap.size:=lH ei c5.size;obtain ⟨ax,cx,rfl⟩:=cf.slc;have fs:=cf;refine ⟨⟨dc,de⟩,?_⟩;obtain ⟨bx,ox,h8,_⟩:=fs.xP dt;refine nT (i:=4) (j:=5) Z (kZ (i:=4) (d:=U 42) (f:=14) (args:=#[aI #[K pa T pc],K ax (n1+n2) cx]) (l':=(bt 7 31)) (R:=fun v w'=>Qh (.returned v) u1 w' ts (L1 ++ L2)∧Below u1.heap.size u1 w') rfl Z Z Z (lT (F 38) (F 41) #[33,23] Z Z Z Z Lc) ((yS pa pb po T pc ts ax bx ox (n1+n2) cx (L1 ++ L2) u1 (hT.below' bz) h8 A).mono fun _ _ ⟨⟨r,o,Q,v,he,h⟩,l⟩=>⟨_,he,⟨r,o,Q,v,rfl,h⟩,l⟩) ?_) (kM (i:=5) (d:=U 5) (v:=aG (U ⟨u1.heap.size,0,C⟩)) (w':=u1.alloc (aH rP 41)) (l':=(bt 7 47)) rfl Z Z Z (PV Z) ⟨MC.below dc kQ A,MC.below de kQ A⟩ ?_)
       ·rintro vy u2 ⟨⟨r,o,Q,v,bb,ab,ay⟩,c6⟩
        simp only [Ending.returned.injEq] at bb;subst bb;have ea:=MC.below dc c6 A;have ed:=MC.below de c6 A;have e4:=bz.trans (c6.mono bz.size);have gd:w.heap.size+2≤u2.heap.size:=lH ej c6.size;obtain ⟨z,H,rfl⟩:=ay.slc;have fx:=ay.mono' (show w.heap.size≤_ by omega);refine ⟨⟨ea,ed⟩,?_⟩;refine kF (i:=5) Z (kM (i:=5) (d:=U 5) (v:=aG (U ⟨u2.heap.size,0,C⟩)) (w':=u2.alloc (aH rP 41)) (l':=(bt 7 63)) rfl Z Z Z (PV Z) ⟨MC.below ea kQ A,MC.below ed kQ A⟩ ?_);obtain ⟨u3, ch⟩ := kC (u2.alloc (aH rP 41));have ca:Below u2.heap.size u2 u3:=by rw [ch];exact kQ
        have cw:CF u3 u2.heap.size oD:=by rw [ch];exact CF.made u2 rP 41
        have hp:u2.heap.size<u3.heap.size:=by rw [ch];simp
        rw [← ch];have fo:=MC.below ea ca A;have ft:=MC.below ed ca A;have dn:=e4.trans (ca.mono e4.size);have jq:w.heap.size+2≤u3.heap.size:=lH gd ca.size;have fy:=fx.below ca kL;have fc:w.heap.size+2≤u2.heap.size:=gd;have fa:=fx.kD;obtain ⟨pA, aq⟩ := kC u2.heap.size;rw [← aq] at cw hp fc fa;rw [← aq];have fb:=fc;have a8:∀ q,(K z Q.length H).ownBlock=U q→q≠pA:=fun q hq=>by have:=fa q hq;omega
        clear aq ch;obtain ⟨u, ag⟩ := kC (u3.setCells pA 0 [I Y r,I Y o,K z Q.length H]);have a7:CF u pA [I Y r,I Y o,K z Q.length H]:=by rw [ag];exact cw.stored rfl
        have aa:u3.grownBy u (U pA):=by rw [ag];exact gsc
        have al:=fo.block (aa.block w.heap.size A aQ);have au:=ft.block (aa.block (w.heap.size+1) A aQ);have a6:=dn.grown aa dn.size (fun q hq=>dR);have ba:=fy.grown aa (.inr (fun c=>a8 _ c rfl));have gg:=aa.size;refine kF (i:=6) Z (lI (i:=6) (w':=u) (l':=(bt 7 127)) rfl Z Z Z (by rw [ag];exact lM 41 oD [I Y r,I Y o,K z Q.length H] (F 5) (F 42) Z Z Z cw rfl Tryz.sizeStory (Fg)) ⟨al,au⟩ ?_);refine wpAnyH_done Z ?_ _;have HR:=hid (show ∃ (p:Nat) (r o:Int) (Q:List ByteArray) (z:Option Addr) (H:Nat),(aG (U ⟨pA,0,C⟩):Value)=aG (U ⟨p,0,C⟩)∧MC u p [I Y r,I Y o,K z Q.length H]∧p<u.heap.size∧rJ ts (L1 ++ L2) r o Q∧Own w.heap.size u 1 (K z Q.length H) Q.length (Q.map E)∧MC u w.heap.size [I Y wk,aF up,I Y now,I Y sn,I Y ep,I Y gv,K a1 n1 c1,K a2 n2 c2,K ar nr cr,K aj N cj,K az P cs,K ao no co]∧MC u (w.heap.size+1) [K pa T pc]∧Below w.heap.size w u∧w.heap.size+2≤u.heap.size from ⟨pA,r,o,Q,z,H,rfl,fun j hj=>(a7 j hj).1,A,ab,ba,al,au,a6,A⟩);clear a7 aa al au a6 ba ag cw fo ft dn fy ab a8;go_wp2_with fail
        go_meet
        case rel=>exact HR.out
       ·obtain ⟨u4, ck⟩ := kC (u1.alloc (aH rP 41))
        have cb:Below u1.heap.size u1 u4:=by rw [ck];exact kQ
        have e2:CF u4 u1.heap.size oD:=by rw [ck];exact CF.made u1 rP 41
        have dx:u1.heap.size<u4.heap.size:=by rw [ck];simp
        rw [← ck];have hv:=MC.below dc cb A;have h5:=MC.below de cb A;have dp:=bz.trans (cb.mono bz.size);have ig:w.heap.size+2≤u4.heap.size:=lH ej cb.size;have h0:=fs.below cb kL;have fe:w.heap.size+2≤u1.heap.size:=ej;obtain ⟨pA, aq⟩ := kC u1.heap.size;rw [← aq] at e2 dx fe;rw [← aq];have fb:=fe;clear aq ck;obtain ⟨bx,ox,ia,_⟩:=h0.xP dt;refine kF (i:=4) Z (kZ (i:=4) (d:=U 42) (f:=14) (args:=#[aI #[K pa T pc],K ax (n1+n2) cx]) (l':=(bt 7 63)) (R:=fun v w'=>Qh (.returned v) u4 w' ts (L1 ++ L2)∧Below u4.heap.size u4 w') rfl Z Z Z (lT (F 38) (F 41) #[33,23] Z Z Z Z Lc) ((yS pa pb po T pc ts ax bx ox (n1+n2) cx (L1 ++ L2) u4 (hT.below' dp) ia A).mono fun _ _ ⟨⟨r,o,Q,v,he,h⟩,l⟩=>⟨_,he,⟨r,o,Q,v,rfl,h⟩,l⟩) ?_);rintro vy u5 ⟨⟨r,o,Q,v,bb,ab,ay⟩,bf⟩;simp only [Ending.returned.injEq] at bb;subst bb;have eb:=MC.below hv bf A;have ef:=MC.below h5 bf A;have dq:=dp.trans (bf.mono dp.size);have jr:w.heap.size+2≤u5.heap.size:=lH ig bf.size;have dk:=e2.block (bf.block _ dx);have jf:=lu dx bf.size;obtain ⟨z,H,rfl⟩:=ay.slc;have fz:=ay.mono' (show w.heap.size≤_ by omega);refine ⟨⟨eb,ef⟩,?_⟩;have a8:∀ q,(K z Q.length H).ownBlock=U q→q≠pA:=fun q hq=>by have:=ay.ku q hq;omega
        obtain ⟨u, ag⟩ := kC (u5.setCells pA 0 [I Y r,I Y o,K z Q.length H]);have a7:CF u pA [I Y r,I Y o,K z Q.length H]:=by rw [ag];exact dk.stored rfl
        have aa:u5.grownBy u (U pA):=by rw [ag];exact gsc
        have al:=eb.block (aa.block w.heap.size A aQ);have au:=ef.block (aa.block (w.heap.size+1) A aQ);have a6:=dq.grown aa dq.size (fun q hq=>dR);have ba:=fz.grown aa (.inr (fun c=>a8 _ c rfl));have gg:=aa.size;refine kF (i:=6) Z (lI (i:=6) (w':=u) (l':=(bt 7 127)) rfl Z Z Z (by rw [ag];exact lM 41 oD [I Y r,I Y o,K z Q.length H] (F 5) (F 42) Z Z Z dk rfl Tryz.sizeStory (Fg)) ⟨al,au⟩ ?_);refine wpAnyH_done Z ?_ _;have HR:=hid (show ∃ (p:Nat) (r o:Int) (Q:List ByteArray) (z:Option Addr) (H:Nat),(aG (U ⟨pA,0,C⟩):Value)=aG (U ⟨p,0,C⟩)∧MC u p [I Y r,I Y o,K z Q.length H]∧p<u.heap.size∧rJ ts (L1 ++ L2) r o Q∧Own w.heap.size u 1 (K z Q.length H) Q.length (Q.map E)∧MC u w.heap.size [I Y wk,aF up,I Y now,I Y sn,I Y ep,I Y gv,K a1 n1 c1,K a2 n2 c2,K ar nr cr,K aj N cj,K az P cs,K ao no co]∧MC u (w.heap.size+1) [K pa T pc]∧Below w.heap.size w u∧w.heap.size+2≤u.heap.size from ⟨pA,r,o,Q,z,H,rfl,fun j hj=>(a7 j hj).1,A,ab,ba,al,au,a6,A⟩);clear a7 aa al au a6 ba ag dk eb ef dq fz ab a8;go_wp2_with fail
        go_meet
        case rel=>exact HR.out
      ·obtain ⟨u6, cl⟩ := kC (u0.alloc (aH rP 41))
       have c7:Below u0.heap.size u0 u6:=by rw [cl];exact kQ
       have e3:CF u6 u0.heap.size oD:=by rw [cl];exact CF.made u0 rP 41
       have dy:u0.heap.size<u6.heap.size:=by rw [cl];simp
       rw [← cl];have hy:=MC.below bk c7 A;have h6:=MC.below bl c7 A;have cy:=bd.trans (c7.mono bd.size);have ij:w.heap.size+2≤u6.heap.size:=lH ei c7.size;have ff:w.heap.size+2≤u0.heap.size:=ei;obtain ⟨pA, aq⟩ := kC u0.heap.size;rw [← aq] at e3 dy ff;rw [← aq];have fb:=ff;clear aq cl;refine kF (i:=3) Z (kZ (i:=3) (d:=U 41) (f:=20) (args:=#[aI #[K a1 n1 c1,K a2 n2 c2]]) (l':=(bt 7 47)) (R:=fun v w'=>Own u6.heap.size w' 1 v (n1+n2) ((L1 ++ L2).map E)∧Below u6.heap.size u6 w') rfl Z Z Z (lW (F 40) #[25] Z Z Z QM) ((KU a1 a2 dh ek n1 c1 di en n2 c2 L1 L2 u6 (h1.below' cy) (h2.below' cy) fj fk).mono fun _ _ ⟨⟨v,he,ho⟩,l⟩=>⟨v,he,ho,l⟩) ?_);rintro vx u7 ⟨cf,bg⟩;have fp:=MC.below hy bg A;have fu:=MC.below h6 bg A;have dr:=cy.trans (bg.mono cy.size);have ik:w.heap.size+2≤u7.heap.size:=lH ij bg.size;have gx:=e3.block (bg.block _ dy);have fi:=lu dy bg.size;obtain ⟨ax,cx,rfl⟩:=cf.slc;have h3:=cf;refine ⟨⟨fp,fu⟩,?_⟩;obtain ⟨bx,ox,ib,_⟩:=h3.xP dt;refine kF (i:=4) Z (kZ (i:=4) (d:=U 42) (f:=14) (args:=#[aI #[K pa T pc],K ax (n1+n2) cx]) (l':=(bt 7 63)) (R:=fun v w'=>Qh (.returned v) u7 w' ts (L1 ++ L2)∧Below u7.heap.size u7 w') rfl Z Z Z (lT (F 38) (F 41) #[33,23] Z Z Z Z Lc) ((yS pa pb po T pc ts ax bx ox (n1+n2) cx (L1 ++ L2) u7 (hT.below' dr) ib A).mono fun _ _ ⟨⟨r,o,Q,v,he,h⟩,l⟩=>⟨_,he,⟨r,o,Q,v,rfl,h⟩,l⟩) ?_);rintro vy u8 ⟨⟨r,o,Q,v,bb,ab,ay⟩,bh⟩;simp only [Ending.returned.injEq] at bb;subst bb;have ec:=MC.below fp bh A;have eg:=MC.below fu bh A;have ds:=dr.trans (bh.mono dr.size);have js:w.heap.size+2≤u8.heap.size:=lH ik bh.size;have dm:=gx.block (bh.block _ fi);have jg:=lu fi bh.size;obtain ⟨z,H,rfl⟩:=ay.slc;have ga:=ay.mono' (show w.heap.size≤_ by omega);refine ⟨⟨ec,eg⟩,?_⟩;have a8:∀ q,(K z Q.length H).ownBlock=U q→q≠pA:=fun q hq=>by have:=ay.ku q hq;omega
       obtain ⟨u, ag⟩ := kC (u8.setCells pA 0 [I Y r,I Y o,K z Q.length H]);have a7:CF u pA [I Y r,I Y o,K z Q.length H]:=by rw [ag];exact dm.stored rfl
       have aa:u8.grownBy u (U pA):=by rw [ag];exact gsc
       have al:=ec.block (aa.block w.heap.size A aQ);have au:=eg.block (aa.block (w.heap.size+1) A aQ);have a6:=ds.grown aa ds.size (fun q hq=>dR);have ba:=ga.grown aa (.inr (fun c=>a8 _ c rfl));have gg:=aa.size;refine kF (i:=6) Z (lI (i:=6) (w':=u) (l':=(bt 7 127)) rfl Z Z Z (by rw [ag];exact lM 41 oD [I Y r,I Y o,K z Q.length H] (F 5) (F 42) Z Z Z dm rfl Tryz.sizeStory (Fg)) ⟨al,au⟩ ?_);refine wpAnyH_done Z ?_ _;have HR:=hid (show ∃ (p:Nat) (r o:Int) (Q:List ByteArray) (z:Option Addr) (H:Nat),(aG (U ⟨pA,0,C⟩):Value)=aG (U ⟨p,0,C⟩)∧MC u p [I Y r,I Y o,K z Q.length H]∧p<u.heap.size∧rJ ts (L1 ++ L2) r o Q∧Own w.heap.size u 1 (K z Q.length H) Q.length (Q.map E)∧MC u w.heap.size [I Y wk,aF up,I Y now,I Y sn,I Y ep,I Y gv,K a1 n1 c1,K a2 n2 c2,K ar nr cr,K aj N cj,K az P cs,K ao no co]∧MC u (w.heap.size+1) [K pa T pc]∧Below w.heap.size w u∧w.heap.size+2≤u.heap.size from ⟨pA,r,o,Q,z,H,rfl,fun j hj=>(a7 j hj).1,A,ab,ba,al,au,a6,A⟩);clear a7 aa al au a6 ba ag dm ec eg ds ga ab a8;go_wp2_with fail
       go_meet
       case rel=>exact HR.out
     case rest =>
      obtain ⟨p,r,o,Q,z,H,rfl,dz,jb,ab,h4,X,db,M,hz⟩:=hcut;have s0:wc.cell? ⟨p,0,C⟩=U (I Y r):=dz 0 D;by_cases bc:r=0
      ·subst bc
       obtain ⟨c8,eh⟩:=ab.zero;have hA:nM ts T:=cm.out ▸ EK c8.1;have cg:=Ez _ (Ey ts.length) eh;have iy:0≤o:=cg.1;have gz:o≤100000:=by have a:=cg.2.1;have:=c8.2;dsimp only at a;omega
       have ha:∀ s∈Q,s.size≤maxLen:=fun s hs=>by have:=cg.2.2.2 s hs;unfold maxLen;omega
       have cq:=hid (show Q.length=T by have:=cg.2.2.1;dsimp only at this;rw [this,cm.out]);have er:=hid c8;have af:=hid eh;clear ab c8 eh cg;have b1:wc.cell? ⟨w.heap.size,1,C⟩=U (aF up):=X 1 D;cases up with
       | false =>
        obtain ⟨-,-,-,b3,b4,b5,-,b7,b8,b9,ct,cu⟩:=P8 X;by_cases g0:n2=0
        ·have gp:((n2:Int) == 0)=aN:=by simp;omega
         have G0:=hid g0;clear g0;by_cases g1:sn=0
         ·have ez:(sn == 0)=aN:=by simp;omega
          have G1:=hid g1;clear g1;by_cases g2:ep=0
          ·have gq:(ep == 0)=aN:=by simp;omega
           have G2:=hid g2;clear g2;by_cases g3:gv=0
           ·have e0:(gv == 0)=aN:=by simp;omega
            have G3:=hid g3;clear g3;by_cases g4:nr=0
            ·have e1:((nr:Int) == 0)=aN:=by simp;omega
             have G4:=hid g4;clear g4;by_cases g5:N=0
             ·have dj:((N:Int) == 0)=aN:=by simp;omega
              have G5:=hid g5;clear g5;by_cases g6:P=0
              ·have gr:((P:Int) == 0)=aN:=by simp;omega
               have G6:=hid g6;clear g6;by_cases g7:no=0
               ·have gu:((no:Int) == 0)=aN:=by simp;omega
                have G7:=hid g7;clear g7;go_wp2;go_ret;refine ⟨kG.t ⟨er.out,ew.out,cn.out,o,Q,af.out,.inl ⟨rfl,?_⟩⟩,M⟩;rw [aw.out,ae.out,ak.out,ai.out,ah.out];exact ⟨G0.out,G1.out,G2.out,G3.out,G4.out,G5.out,G6.out,G7.out⟩
               ·have gu:((no:Int) == 0)=aK:=by simp;omega
                have g:=hid (show ¬ (vB ts wk aK now sn ep gv L1 L2 R J S L) from fun c=>by
                 have a:=Eu c;rw [aw.out,ae.out,ak.out,ai.out,ah.out] at a;unfold qE at a;omega)
                clear g7;go_wp2;go_ret;exact ⟨kG.f g.out,M⟩
              ·have gr:((P:Int) == 0)=aK:=by simp;omega
               have g:=hid (show ¬ (vB ts wk aK now sn ep gv L1 L2 R J S L) from fun c=>by
                have a:=Eu c;rw [aw.out,ae.out,ak.out,ai.out,ah.out] at a;unfold qE at a;omega)
               clear g6;go_wp2;go_ret;exact ⟨kG.f g.out,M⟩
             ·have dj:((N:Int) == 0)=aK:=by simp;omega
              have g:=hid (show ¬ (vB ts wk aK now sn ep gv L1 L2 R J S L) from fun c=>by
               have a:=Eu c;rw [aw.out,ae.out,ak.out,ai.out,ah.out] at a;unfold qE at a;omega)
              clear g5;go_wp2;go_ret;exact ⟨kG.f g.out,M⟩
            ·have e1:((nr:Int) == 0)=aK:=by simp;omega
             have g:=hid (show ¬ (vB ts wk aK now sn ep gv L1 L2 R J S L) from fun c=>by
              have a:=Eu c;rw [aw.out,ae.out,ak.out,ai.out,ah.out] at a;unfold qE at a;omega)
             clear g4;go_wp2;go_ret;exact ⟨kG.f g.out,M⟩
           ·have e0:(gv == 0)=aK:=by simp;omega
            have g:=hid (show ¬ (vB ts wk aK now sn ep gv L1 L2 R J S L) from fun c=>by
             have a:=Eu c;rw [aw.out,ae.out,ak.out,ai.out,ah.out] at a;unfold qE at a;omega)
            clear g3;go_wp2;go_ret;exact ⟨kG.f g.out,M⟩
          ·have gq:(ep == 0)=aK:=by simp;omega
           have g:=hid (show ¬ (vB ts wk aK now sn ep gv L1 L2 R J S L) from fun c=>by
            have a:=Eu c;rw [aw.out,ae.out,ak.out,ai.out,ah.out] at a;unfold qE at a;omega)
           clear g2;go_wp2;go_ret;exact ⟨kG.f g.out,M⟩
         ·have ez:(sn == 0)=aK:=by simp;omega
          have g:=hid (show ¬ (vB ts wk aK now sn ep gv L1 L2 R J S L) from fun c=>by
           have a:=Eu c;rw [aw.out,ae.out,ak.out,ai.out,ah.out] at a;unfold qE at a;omega)
          clear g1;go_wp2;go_ret;exact ⟨kG.f g.out,M⟩
        ·have gp:((n2:Int) == 0)=aK:=by simp;omega
         have g:=hid (show ¬ (vB ts wk aK now sn ep gv L1 L2 R J S L) from fun c=>by
          have a:=Eu c;rw [aw.out,ae.out,ak.out,ai.out,ah.out] at a;unfold qE at a;omega)
         clear g0;go_wp2;go_ret;exact ⟨kG.f g.out,M⟩
       | true =>
        obtain ⟨-,-,-,b3,b4,b5⟩:=mc6 X;have s1:wc.cell? ⟨p,1,C⟩=U (I Y o):=dz 1 D;by_cases g1:ep=o
        ·subst g1
         by_cases g2:1≤ep
         ·cases fw:inB sn 0 1 with
          | false =>
           have g:=hid (show ¬ (vB ts wk aN now sn ep gv L1 L2 R J S L) from fun c=>mO fw (qA c af.out).2.2.2.1);go_wp2_with (go_at_call 19;refine (kP _ _ _).mono ?_;rintro e w9 ⟨rfl,a⟩;rw [a];clear a)
           go_ret;exact ⟨kG.f g.out,M⟩
          | true =>
           have gm:=hid (mM fw);cases e9:inB gv 0 1000000 with
           | false =>
            have g:=hid (show ¬ (vB ts wk aN now sn ep gv L1 L2 R J S L) from fun c=>mO e9 (qA c af.out).2.2.2.2.1);go_wp2_with (go_at_call 19;refine (kP _ _ _).mono ?_;rintro e w9 ⟨rfl,a⟩;rw [a];clear a)
            go_ret;exact ⟨kG.f g.out,M⟩
           | true =>
            have df:=hid (mM e9);go_upto_region 10 with (go_at_call 19;refine (kP _ _ _).mono ?_;rintro e w9 ⟨rfl,a⟩;rw [a];clear a)
            clear b1 b3 b4 b5 s0 s1;have bp:wc.cell? ⟨w.heap.size+1,0,C⟩=U (K pa T pc):=db 0 D;obtain ⟨b0,-,-,-,-,-,-,-,b8,b9,ct,cu⟩:=P8 X;by_cases g3:nr=T
            ·subst g3
             by_cases g4:N=nr
             ·subst g4
              by_cases g5:(P:Int)=wk
              ·have dj:((P:Int) == wk)=aN:=by simpa using g5
               have iw:((P:Int) != wk)=aK:=by simpa using g5
               have G5:=hid g5;clear g5;by_cases g6:2000<no
               ·have g:=hid (show ¬ (vB ts wk aN now sn ep gv L1 L2 R J S L) from fun c=>by have a:=(qA c af.out).2.2.2.2.2.2.2.1;rw [ah.out] at a;omega)
                go_wp2;go_ret;exact ⟨kG.f g.out,M⟩
               ·obtain ⟨bq,oq,du,_⟩:=h4.xP ha
                rw [cq.out] at du;go_upto_region 13 with fail
                clear bp b0 b8 b9 ct cu;go_wp2;go_loopw [7] (fun i wr=>∃ k:Nat,k≤N∧i=I Y k∧(∀ j,j<k→R.getD j ByteArray.empty=Q.getD j ByteArray.empty)∧Below wc.heap.size wc wr) (fun i _=>N - (intOf i).toNat)
                case atStart=>exact ⟨0,lG _,rfl,fun j hj=>absurd hj A,mD⟩
                case round =>
                 obtain ⟨k,hk,rfl,an,l⟩:=hrel;have hB:=M.trans (l.mono M.size);by_cases fg:k<N
                 ·have z8:wr.cell? ⟨w.heap.size,8,C⟩=U (K ar N cr):=kV l (X 8 D)
                  have zs:wr.cell? ⟨p,2,C⟩=U (K z N H):=by have:=kV l (dz 2 D);simpa [cq.out] using this
                  obtain rfl:=hR.ad A;obtain rfl:=du.ad A;have hc:=(hR.below' hB).cell k fg;have hg:=(du.below' l).cell k fg;obtain ⟨s, hs⟩ := kC (R.getD k ByteArray.empty);obtain ⟨t, ht⟩ := kC (Q.getD k ByteArray.empty);rw [← hs] at hc;rw [← ht] at hg;have HS:=hid hs;have HT:=hid ht;clear hs ht;have jc:(k:Int)<(N:Int):=A;by_cases ab:s=t
                  ·subst ab
                   go_wp2;go_quiet (fail)
                   go_wp2;go_roundw
                   case rel =>
                    refine ⟨k+1,A,aW,fun j hj=>?_,below_drewN l _⟩;by_cases e:j=k
                    ·subst e;rw [← HS.out,← HT.out]
                    ·exact an j A
                   case measure=>simp [intOf];omega
                  ·have jn:=OD ab
                   have g:=hid (show ¬ (vB ts wk aN now sn ep gv L1 L2 R J S L) from fun c=>ab (by rw [HS.out,HT.out,(qA c af.out).2.2.1]));clear ab;go_wp2;go_quiet (fail)
                   go_wp2;go_ret;exact ⟨kG.f g.out,below_drewN hB _⟩
                 ·obtain rfl:k=N:=by omega
                  have gl:=hid (show R=Q from TW (by rw [ae.out,cq.out]) (by rw [ae.out];exact an));clear an;go_wp2;go_loopw [8] (fun i wr=>∃ k2:Nat,k2≤P∧i=I Y k2∧I8 S k2∧Below wc.heap.size wc wr) (fun i _=>P - (intOf i).toNat)
                  case atStart=>exact ⟨0,lG _,rfl,fun j hj=>absurd hj A,l⟩
                  case round =>
                   clear hB l;obtain ⟨k2,iz,rfl,an,l⟩:=hrel;have hB:=M.trans (l.mono M.size);have im:wr.cell? ⟨w.heap.size,10,C⟩=U (K az P cs):=kV l (X 10 D);by_cases fh:k2<P
                   ·obtain rfl:=hS.ad A
                    have cd:=(hS.below' hB).c1 k2 fh;obtain ⟨ee, hx⟩ := kC ((t2 S k2).2);rw [← hx] at cd;have HX:=hid hx;clear hx;have jd:(k2:Int)<(P:Int):=A;cases e5:inB ee 0 300 with
                    | false =>
                     have g:=hid (show ¬ (vB ts wk aN now sn ep gv L1 L2 R J S L) from fun c=>by have a:=(qA c af.out).2.2.2.2.2.2.1.2 k2 (by rw [ai.out];exact fh);rw [← HX.out] at a;exact mO e5 a);go_wp2_with (go_at_call 19;refine (kP _ _ _).mono ?_;rintro e w9 ⟨rfl,a⟩;rw [a];clear a)
                     go_ret;exact ⟨kG.f g.out,hB⟩
                    | true =>
                     have gh:=hid (mM e5);go_wp2_with (go_at_call 19;refine (kP _ _ _).mono ?_;rintro e w9 ⟨rfl,a⟩;rw [a];clear a)
                     go_roundw
                     case rel =>
                      refine ⟨k2+1,A,aW,fun j hj=>?_,l⟩;by_cases e:j=k2
                      ·subst e;rw [← HX.out];exact gh.out
                      ·exact an j A
                     case measure=>simp [intOf];omega
                   ·obtain rfl:k2=P:=by omega
                    have gn:=hid an;clear an;go_wp2;clear im;go_loopw [9] (fun i wr=>∃ k3:Nat,k3≤no∧i=I Y k3∧Jc wk R L k3∧Below wc.heap.size wc wr) (fun i _=>no - (intOf i).toNat)
                    case atStart=>exact ⟨0,lG _,rfl,fun j hj=>absurd hj A,l⟩
                    case round =>
                     clear hB l;obtain ⟨k3,ja,rfl,an,l⟩:=hrel;have hB:=M.trans (l.mono M.size);have iq:wr.cell? ⟨w.heap.size,11,C⟩=U (K ao no co):=kV l (X 11 D);by_cases da:k3<no
                     ·obtain rfl:=hO.ad A
                      have dv:=(hO.below' hB).c0 k3 da;have cd:=(hO.below' hB).c1 k3 da;have dw:=(hO.below' hB).c2 k3 da;obtain ⟨⟨x0,x1,x2⟩,hx⟩:∃ x,x=t3 L k3:=⟨_,rfl⟩
                      rw [← hx] at dv cd dw;dsimp only at dv cd dw;have HX:=hid hx;clear hx;have je:(k3:Int)<(no:Int):=A;obtain ⟨V, hV⟩ := kC (wr.alloc (aH #[I Y x0,I Y x1,I Y x2] 56));have hf:Below wr.heap.size wr V:=by rw [hV];exact kQ
                      have fl:MC V wr.heap.size [I Y x0,I Y x1,I Y x2]:=by rw [hV];exact MC.made wr _ _
                      have c4:=l.trans (hf.mono l.size);have bu:=M.trans (c4.mono M.size);obtain ⟨y0,y1,y2⟩:=YQ fl;have z0:V.cell? ⟨w.heap.size,0,C⟩=U (I Y wk):=kV c4 (X 0 D);have z8:V.cell? ⟨w.heap.size,8,C⟩=U (K ar k cr):=kV c4 (X 8 D);clear fl;have cp:Hid (¬ P7 wk R (x0,x1,x2)→¬ (vB ts wk aN now sn ep gv L1 L2 R J S L)):=fun hq c=>hq (by have a:=(qA c af.out).2.2.2.2.2.2.2.2 k3 (by rw [ah.out];exact da);rw [← HX.out] at a;exact a);go_upto_region 27 with fail
                      rw [← hV];clear hV iq dv cd dw;cases hA3:inB x0 1 wk with
                      | false =>
                       have g:=hid (cp.out fun c=>mO hA3 ⟨c.1,c.2.1⟩);go_wp2_with (first | (go_at_call 19;refine (kP _ _ _).mono ?_;rintro e w9 ⟨rfl,a⟩;rw [a];clear a) | (go_at_call 21;refine (kN).mono ?_;rintro e w9 ⟨rfl,a⟩;rw [a];clear a))
                       go_ret;exact ⟨kG.f g.out,bu⟩
                      | true =>
                       have eo:=hid (mM hA3);cases e6:inB x1 1 300000000 with
                       | false =>
                        have g:=hid (cp.out fun c=>mO e6 ⟨c.2.2.1,c.2.2.2.1⟩);go_wp2_with (first | (go_at_call 19;refine (kP _ _ _).mono ?_;rintro e w9 ⟨rfl,a⟩;rw [a];clear a) | (go_at_call 21;refine (kN).mono ?_;rintro e w9 ⟨rfl,a⟩;rw [a];clear a))
                        go_ret;exact ⟨kG.f g.out,bu⟩
                       | true =>
                        have et:=hid (mM e6);cases e7:inB x2 0 ((k:Int) - 1) with
                        | false =>
                         have g:=hid (cp.out fun c=>mO e7 (by have a:=c.2.2.2.2;rw [ae.out] at a;exact ⟨a.1,by have:=a.2.1;dsimp only at this;omega⟩));go_wp2_with (first | (go_at_call 19;refine (kP _ _ _).mono ?_;rintro e w9 ⟨rfl,a⟩;rw [a];clear a) | (go_at_call 21;refine (kN).mono ?_;rintro e w9 ⟨rfl,a⟩;rw [a];clear a))
                         go_ret;exact ⟨kG.f g.out,bu⟩
                        | true =>
                         have dg:=hid (mM e7);obtain ⟨xn,rfl⟩:∃ xn:Nat,x2=xn:=⟨x2.toNat,by have:=dg.out;omega⟩
                         have h7:xn<k:=by have:=dg.out;omega
                         obtain rfl:=hR.ad A;have hn:=(hR.below' bu).cell xn h7;obtain ⟨s, hs⟩ := kC (R.getD xn ByteArray.empty);rw [← hs] at hn;have HS:Hid (rs R xn=s):=by rw [hs];rfl
                         clear hs;have jo:(xn:Int)<(k:Int):=A;by_cases bn:s.size=0
                         ·have ic:=oP bn
                          have g:=hid (cp.out fun c=>c.2.2.2.2.2.2 (by show (rs R xn).size=0;rw [HS.out];exact bn));clear bn;go_wp2_with (first | (go_at_call 19;refine (kP _ _ _).mono ?_;rintro e w9 ⟨rfl,a⟩;rw [a];clear a) | (go_at_call 21;refine (kN).mono ?_;rintro e w9 ⟨rfl,a⟩;rw [a];clear a))
                          go_ret;exact ⟨kG.f g.out,bu⟩
                         ·have ic:=oQ bn
                          have HZ:=hid bn;clear bn;go_wp2_with (first | (go_at_call 19;refine (kP _ _ _).mono ?_;rintro e w9 ⟨rfl,a⟩;rw [a];clear a) | (go_at_call 21;refine (kN).mono ?_;rintro e w9 ⟨rfl,a⟩;rw [a];clear a))
                          go_roundw
                          case rel =>
                           refine ⟨k3+1,A,aW,fun j hj=>?_,c4⟩;by_cases e:j=k3
                           ·subst e;rw [← HX.out]
                            exact ⟨eo.out.1,eo.out.2,et.out.1,et.out.2,dg.out.1,by show (xn:Int)<_;rw [ae.out];omega,by show ¬ (rs R xn).size=0;rw [HS.out];exact HZ.out⟩
                           ·exact an j A
                          case measure=>simp [intOf];omega
                     ·obtain rfl:k3=no:=by omega
                      have gj:=hid an;clear an;have bp:wr.cell? ⟨w.heap.size+1,0,C⟩=U (K pa k pc):=kV l (db 0 D);have b0:wr.cell? ⟨w.heap.size,0,C⟩=U (I Y wk):=kV l (X 0 D);have b1:wr.cell? ⟨w.heap.size,1,C⟩=U (aF aN):=kV l (X 1 D);have b2:wr.cell? ⟨w.heap.size,2,C⟩=U (I Y now):=kV l (X 2 D);have b3:wr.cell? ⟨w.heap.size,3,C⟩=U (I Y sn):=kV l (X 3 D);have b4:wr.cell? ⟨w.heap.size,4,C⟩=U (I Y ep):=kV l (X 4 D);have b5:wr.cell? ⟨w.heap.size,5,C⟩=U (I Y gv):=kV l (X 5 D);have b6:wr.cell? ⟨w.heap.size,6,C⟩=U (K a1 n1 c1):=kV l (X 6 D);have b7:wr.cell? ⟨w.heap.size,7,C⟩=U (K a2 n2 c2):=kV l (X 7 D);have b8:wr.cell? ⟨w.heap.size,8,C⟩=U (K ar k cr):=kV l (X 8 D);have b9:wr.cell? ⟨w.heap.size,9,C⟩=U (K aj k cj):=kV l (X 9 D);have ct:wr.cell? ⟨w.heap.size,10,C⟩=U (K az k2 cs):=kV l (X 10 D);have cu:wr.cell? ⟨w.heap.size,11,C⟩=U (K ao k3 co):=kV l (X 11 D);go_wp2_with fail
                      refine (UD wk aN now sn ep gv a1 a2 ar aj az ao n1 c1 n2 c2 k cr cj k2 cs k3 co pa pb po pc ts bj oj br or' J R (hJ.below' hB) (hR.below' hB) (hT.below' hB) hA g2 gz df.out.1 df.out.2 cn.out.1 cn.out.2).mono ?_;rintro e V4 ⟨⟨r4,rfl,fv⟩,hd⟩;have gy:=hB.trans (hd.mono hB.size);have eu:=hid fv;clear fv b0 b1 b2 b3 b4 b5 b6 b7 b8 b9 ct cu bp;go_wp2;go_ret;refine ⟨⟨r4,rfl,⟨fun h=>?_,fun h=>?_⟩⟩,gy⟩
                      ·refine ⟨er.out,ew.out,cn.out,ep,Q,af.out,.inr ⟨rfl,rfl,g2,gl.out,gm.out,df.out,?_,?_,?_⟩⟩
                       ·rw [ak.out,cm.out];exact ⟨rfl,eu.out.1 h⟩
                       ·rw [ai.out];exact ⟨G5.out,gn.out⟩
                       ·rw [ah.out];exact ⟨A,gj.out⟩
                      ·exact eu.out.2 (qA h af.out).2.2.2.2.2.1.2
              ·have dj:((P:Int) == wk)=aK:=by simpa using g5
               have g:=hid (show ¬ (vB ts wk aN now sn ep gv L1 L2 R J S L) from fun c=>by have a:=(qA c af.out).2.2.2.2.2.2.1.1;rw [ai.out] at a;exact g5 a);go_wp2;go_ret;exact ⟨kG.f g.out,M⟩
             ·have e1:((N:Int) == (nr:Int))=aK:=by simp;omega
              have iv:¬ ((N:Int)=(nr:Int)):=A;have g:=hid (show ¬ (vB ts wk aN now sn ep gv L1 L2 R J S L) from fun c=>by have a:=(qA c af.out).2.2.2.2.2.1.1;rw [ak.out,cm.out] at a;exact g4 a);go_wp2;go_ret;exact ⟨kG.f g.out,M⟩
            ·have e0:((nr:Int) == (T:Int))=aK:=by simp;omega
             have iu:¬ ((nr:Int)=(T:Int)):=A;have g:=hid (show ¬ (vB ts wk aN now sn ep gv L1 L2 R J S L) from fun c=>by have a:=(qA c af.out).2.2.1;exact g3 (by rw [← ae.out,a,cq.out]));go_wp2;go_ret;exact ⟨kG.f g.out,M⟩
         ·have g:=hid (show ¬ (vB ts wk aN now sn ep gv L1 L2 R J S L) from fun c=>g2 (qA c af.out).2.1)
          go_wp2_with (go_at_call 19;refine (kP _ _ _).mono ?_;rintro e w9 ⟨rfl,a⟩;rw [a];clear a)
          go_ret;exact ⟨kG.f g.out,M⟩
        ·have ez:(ep == o)=aK:=by simpa using g1
         have g:=hid (show ¬ (vB ts wk aN now sn ep gv L1 L2 R J S L) from fun c=>g1 (qA c af.out).1);go_wp2_with (go_at_call 19;refine (kP _ _ _).mono ?_;rintro e w9 ⟨rfl,a⟩;rw [a];clear a)
         go_ret;exact ⟨kG.f g.out,M⟩
      ·have hl:(r == 0)=aK:=by simpa using bc
       have g:=hid (show ¬ (vB ts wk up now sn ep gv L1 L2 R J S L) from fun c=>ab.nonzero bc ⟨c.1,by obtain ⟨_,_,_,E',Q',a,_⟩:=c;exact ⟨E',Q',a⟩⟩);clear ab;go_wp2;go_ret;exact ⟨kG.f g.out,M⟩
 ·have hl:(ey == 0)=aK:=by simpa using bc
  have g:=hid (show ¬ (vB ts wk up now sn ep gv L1 L2 R J S L) from fun c=>bc (c9.one c.1.1));clear c9;go_wp2;go_ret;exact ⟨kG.f g.out,bw⟩
structure BD where
 wk:Int
 up:Bool
 now:Int
 sn:Int
 ep:Int
 gv:Int
 L1:List ByteArray
 L2:List ByteArray
 R:List ByteArray
 J:List Tr
 S:List (Bool × Int)
 O:List Tr
structure BH where
 a1:Option Addr
 a2:Option Addr
 ar:Option Addr
 aj:Option Addr
 az:Option Addr
 ao:Option Addr
 c1:Nat
 c2:Nat
 cr:Nat
 cj:Nat
 cs:Nat
 co:Nat
variable {w':World}
def bvs (d:BD) (h:BH):List Value:=[I Y d.wk,aF d.up,I Y d.now,I Y d.sn,I Y d.ep,I Y d.gv,K h.a1 d.L1.length h.c1,K h.a2 d.L2.length h.c2,K h.ar d.R.length h.cr,K h.aj d.J.length h.cj,K h.az d.S.length h.cs,K h.ao d.O.length h.co]
abbrev nR (d:BD) (h:BH):List Value := [I Y d.wk,aF d.up,I Y d.now,I Y d.sn,I Y d.ep,I Y d.gv,K h.a1 d.L1.length h.c1,K h.a2 d.L2.length h.c2,K h.ar d.R.length h.cr,K h.aj d.J.length h.cj,K h.az d.S.length h.cs,K h.ao d.O.length h.co]
abbrev nN (d:BD) (h:BH):Array Value := #[I Y d.wk,aF d.up,I Y d.now,I Y d.sn,I Y d.ep,I Y d.gv,K h.a1 d.L1.length h.c1,K h.a2 d.L2.length h.c2,K h.ar d.R.length h.cr,K h.aj d.J.length h.cj,K h.az d.S.length h.cs,K h.ao d.O.length h.co]
def rU (w:World) (d:BD) (h:BH):Prop:=(∃ b o,kS w h.a1 b o d.L1.length d.L1)∧(∃ b o,kS w h.a2 b o d.L2.length d.L2)∧(∃ b o,kS w h.ar b o d.R.length d.R)∧(∃ b o,qZ w h.aj b o d.J.length d.J)∧(∃ b o,Ag w h.az b o d.S.length d.S)∧(∃ b o,qZ w h.ao b o d.O.length d.O)
theorem rU.below' {d:BD} {h:BH} (s:rU w d h) (a:Below w.heap.size w w'):rU w' d h:=by
 obtain ⟨⟨c,o1,k⟩,⟨e,o2,l⟩,⟨f,o3,o⟩,⟨g,o4,p⟩,⟨i,o5,q⟩,⟨j,t,r⟩⟩:=s;exact ⟨⟨c,o1,k.below' a⟩,⟨e,o2,l.below' a⟩,⟨f,o3,o.below' a⟩,⟨g,o4,p.below' a⟩,⟨i,o5,q.below' a⟩,⟨j,t,r.below' a⟩⟩
def EP (w:World) (d:BD) (vs:List Value):Prop:=∃ h,vs=bvs d h∧rU w d h
theorem EP.below' {d:BD} {vs:List Value} (c:EP w d vs) (f:Below w.heap.size w w'):EP w' d vs:=by
 obtain ⟨h,e,a⟩:=c;exact ⟨h,e,a.below' f⟩
def BD.small (d:BD):Prop:=d.L1.length+d.L2.length+d.R.length+d.J.length+d.S.length+d.O.length≤1048576
def BD.ok (d:BD) (ts:List kJ):Prop:=vB ts d.wk d.up d.now d.sn d.ep d.gv d.L1 d.L2 d.R d.J d.S d.O
variable {v0 v1 v10 v11 v2 v3 v4 v5 v6 v7 v8 v9:Value}
theorem OW (d:BD) (a:Option Addr) (f i c g:Nat) (ts:List kJ) (L:EP w d [v0,v1,v2,v3,v4,v5,v6,v7,v8,v9,v10,v11]) (H:lN w a f i c ts) (M:d.small) :
  Calls prog 6 #[aI #[v0,v1,v2,v3,v4,v5,v6,v7,v8,v9,v10,v11],aI #[K a c g]] w fun e w'=>kG e (d.ok ts)∧Below w.heap.size w w':=by
 unfold BD.small at M;obtain ⟨h,e,⟨j,o1,r⟩,⟨k,o2,s⟩,⟨l,o3,t⟩,⟨o,o4,u⟩,⟨p,o5,v⟩,⟨q,N,z⟩⟩:=L;simp only [bvs,Oc,and_true] at e;obtain ⟨rfl,rfl,rfl,rfl,rfl,rfl,rfl,rfl,rfl,rfl,rfl,rfl⟩:=e;exact QA d.wk d.up d.now d.sn d.ep d.gv h.a1 h.a2 h.ar h.aj h.az h.ao d.L1.length h.c1 d.L2.length h.c2 d.R.length h.cr d.J.length h.cj d.S.length h.cs d.O.length h.co j o1 k o2 l o3 o o4 p o5 q N d.L1 d.L2 d.R d.J d.S d.O a f i c g ts w r s t u v z H A A A
theorem Gt (d:BD) (a:Option Addr) (f i c g:Nat) (ts:List kJ) (L:EP w d [v0,v1,v2,v3,v4,v5,v6,v7,v8,v9,v10,v11]) (H:lN w a f i c ts) (M:d.small) :
  Calls prog 5 #[aI #[v0,v1,v2,v3,v4,v5,v6,v7,v8,v9,v10,v11],aI #[K a c g]] w fun e w'=>kG e (d.ok ts)∧Below w.heap.size w w':=by
 unfold BD.small at M;obtain ⟨h,e,⟨j,o1,r⟩,⟨k,o2,s⟩,⟨l,o3,t⟩,⟨o,o4,u⟩,⟨p,o5,v⟩,⟨q,N,z⟩⟩:=L;simp only [bvs,Oc,and_true] at e;obtain ⟨rfl,rfl,rfl,rfl,rfl,rfl,rfl,rfl,rfl,rfl,rfl,rfl⟩:=e;exact Qu d.wk d.up d.now d.sn d.ep d.gv h.a1 h.a2 h.ar h.aj h.az h.ao d.L1.length h.c1 d.L2.length h.c2 d.R.length h.cr d.J.length h.cj d.S.length h.cs d.O.length h.co j o1 k o2 l o3 o o4 p o5 q N d.L1 d.L2 d.R d.J d.S d.O a f i c g ts w r s t u v z H A A A A A A A
end Go.Proofs.YtfkkipgcfoegmaaGreat
