
import Derived.Test.YtfkkipgcfoegmaaGreatQBok
import Derived.Test.YtfkkipgcfoegmaaGreatQRIm
set_option maxHeartbeats 4000000
set_option maxRecDepth 100000
namespace Go.Proofs.YtfkkipgcfoegmaaGreat
open Go.Proofs.Tryz
open Go.Value renaming slice→K,string→E,bool→aF
open Option renaming none→C,some→U
open Go.Obj renaming cells→aH
open Bool renaming true→aN
open Go.Value renaming int→I
open Go.IntKind renaming i64→Y
open Go.RowKit
variable {J:List Tr} {L L1 L2 R ss:List ByteArray} {a:Option Addr} {ep gv now sn wk:Int} {n:Nat} {o:Oper} {ts:List kJ} {v:Value} {w:World} {ρ:Operand→Value}
def vB (ts:List kJ) (wk:Int) (up:Bool) (now sn ep gv:Int) (L1 L2 R:List ByteArray) (J:List Tr) (S:List (Bool × Int)) (a:List Tr):Prop :=
 (Code ts 0∧(L1 ++ L2).length≤310)∧(1≤wk∧wk≤8)∧(0≤now∧now≤1000000)∧∃ c Q,rep ts (L1 ++ L2) (st0 ts.length)=U (c,Q) ∧
  ((up=false∧qE sn ep gv L2.length R.length J.length S.length a.length) ∨
   (up=aN∧ep=c∧1≤ep∧R=Q∧(0≤sn∧sn≤1)∧(0≤gv∧gv≤1000000)∧(J.length=ts.length∧oM ts R wk now ep gv J)∧((S.length:Int)=wk∧I8 S S.length)∧(a.length≤2000∧Jc wk R a a.length)))
theorem qA {c:Int} {Q:List ByteArray} {S:List (Bool × Int)} {a:List Tr} (h:vB ts wk aN now sn ep gv L1 L2 R J S a) (e:rep ts (L1 ++ L2) (st0 ts.length)=U (c,Q)) :
  ep=c∧1≤ep∧R=Q∧(0≤sn∧sn≤1)∧(0≤gv∧gv≤1000000)∧(J.length=ts.length∧oM ts R wk now ep gv J)∧((S.length:Int)=wk∧I8 S S.length)∧(a.length≤2000∧Jc wk R a a.length):=by
 obtain ⟨_,_,_,f,g,d,h⟩:=h;rw [e] at d;cases d
 rcases h with ⟨h,_⟩ | ⟨_,h⟩
 ·cases h
 ·exact h
theorem Eu {S:List (Bool × Int)} {a:List Tr} (h:vB ts wk false now sn ep gv L1 L2 R J S a):qE sn ep gv L2.length R.length J.length S.length a.length:=by
 obtain ⟨_,_,_,c,d,_,h⟩:=h;rcases h with ⟨_,h⟩ | ⟨h,_⟩
 ·exact h
 ·cases h
theorem Own.xP {B:Nat} {c:Nat} (h:Own B w 1 (K a n c) n (ss.map E)) (l:∀ s∈ss,s.size≤maxLen):∃ b o,kS w a b o n ss∧(0<n→B≤b):=by
 rcases h with ⟨d,rfl,k⟩ | ⟨g,o,cap,d,f⟩
 ·injection d with e _ _
  have:ss=[]:=by simpa using k
  subst this;exact ⟨0,0,⟨fun h=>absurd h A,rfl,lG _,fun h=>absurd h A,fun j i=>absurd i A,D⟩,fun h=>absurd h A⟩
 ·injection d with e _ _
  subst e;exact ⟨g,o,kS.Au f l,fun _=>f.lo⟩
theorem rJ.zero {a:Int} (h:rJ ts L 0 a R):(Code ts 0∧L.length≤310)∧rep ts L (st0 ts.length)=U (a,R):=by
 rcases h with ⟨_,h,_⟩ | ⟨c,⟨_,h,_⟩ | ⟨d,_⟩⟩
 ·cases h
 ·cases h
 ·exact ⟨c,d⟩
theorem rJ.nonzero {c a:Int} (h:rJ ts L c a R) (e:¬ c=0):¬ ((Code ts 0∧L.length≤310)∧∃ a Q,rep ts L (st0 ts.length)=U (a,Q)):=by
 rintro ⟨f,g,i,d⟩;rcases h with ⟨h,_⟩ | ⟨_,⟨h,_⟩ | ⟨_,h⟩⟩
 ·exact h f
 ·rw [h] at d;cases d
 ·exact e h
theorem QA (wk:Int) (up:Bool) (now sn ep gv:Int) (a1 a2 ar aj az ao:Option Addr) (n1 c1 n2 c2 g cr k cj o cs no co:Nat) (bn ct bu cu br or' bj oj bs cw bo oo:Nat) (L1 L2 R:List ByteArray) (J:List Tr) (S:List (Bool × Int)) (j:List Tr) (p:Option Addr) (pb po i q:Nat) (ts:List kJ) (w:World) (h1:kS w a1 bn ct n1 L1) (h2:kS w a2 bu cu n2 L2) (hR:kS w ar br or' g R) (hJ:qZ w aj bj oj k J) (hS:Ag w az bs cw o S) (hO:qZ w ao bo oo no j) (hT:lN w p pb po i ts) (da:n1≤1048576) (db:n2≤1048576) (de:k≤1048576) :
  Calls prog 6 #[.agg #[I Y wk,aF up,I Y now,I Y sn,I Y ep,I Y gv,K a1 n1 c1,K a2 n2 c2,K ar g cr,K aj k cj,K az o cs,K ao no co],.agg #[K p i q]] w fun e w'=>kG e (vB ts wk up now sn ep gv L1 L2 R J S j)∧Below w.heap.size w w':=by
 obtain ⟨W, hW⟩ := kC ((w.alloc (aH #[I Y wk,aF up,I Y now,I Y sn,I Y ep,I Y gv,K a1 n1 c1,K a2 n2 c2,K ar g cr,K aj k cj,K az o cs,K ao no co] 30)).alloc (aH #[K p i q] 33));have af:Below w.heap.size w W:=jT;have ds:W.heap.size=w.heap.size+2:=dF;have hq:MC W w.heap.size [I Y wk,aF up,I Y now,I Y sn,I Y ep,I Y gv,K a1 n1 c1,K a2 n2 c2,K ar g cr,K aj k cj,K az o cs,K ao no co]∧MC W (w.heap.size+1) [K p i q]:=by
  have x1:=MC.made w #[I Y wk,aF up,I Y now,I Y sn,I Y ep,I Y gv,K a1 n1 c1,K a2 n2 c2,K ar g cr,K aj k cj,K az o cs,K ao no co] 30;have x3:=MC.made (w.alloc (aH #[I Y wk,aF up,I Y now,I Y sn,I Y ep,I Y gv,K a1 n1 c1,K a2 n2 c2,K ar g cr,K aj k cj,K az o cs,K ao no co] 30)) #[K p i q] 33;rw [mJ] at x3;rw [hW];exact ⟨x1.block (kU _ _ _ D),x3⟩
 obtain ⟨-,-,-,-,-,-,z6,z7⟩:=mc8 hq.1;have zp:W.cell? ⟨w.heap.size+1,0,C⟩=U (K p i q):=hq.2 0 D;have dh:=hid h1.len;have bk:=hid h2.len;have a8:=hid hR.len;have ah:=hid hJ.len;have ak:=hid hS.len;have ai:=hid hO.len;have al:=hid hT.len;go_enter func6,ntmps6
 go_upto_region 1 with fail
 rw [← hW];clear hW;go_wp2_with fail
 refine (IU p pb po i q ts a1 a2 bn ct n1 c1 bu cu n2 c2 L1 L2 (hT.below' af) (h1.below' af) (h2.below' af) da db).mono ?_;rintro e w1 ⟨⟨cc,z,Q,v,rfl,a6,bf⟩,bz⟩;obtain ⟨av,cv,rfl⟩:=bf.slc;obtain ⟨V, hV⟩ := kC (w1.alloc (aH #[I Y cc,I Y z,K av Q.length cv] 41));have cb:Below w1.heap.size w1 V:=by rw [hV];exact kQ
 have ab:Below W.heap.size W V:=bz.trans (cb.mono bz.size);have u:=af.trans (ab.mono A);have cl:MC V w1.heap.size [I Y cc,I Y z,K av Q.length cv]:=by rw [hV];exact MC.made w1 _ _
 have dn:w1.heap.size<V.heap.size:=by rw [hV];simp
 have bc:=MC.below hq.1 ab A;have bd:=MC.below hq.2 ab A;have dr:=ab.size;have dg:=bf.below cb kL;clear z6 z7 zp hq bf;obtain ⟨s0,s1,s2⟩:=YQ cl;obtain ⟨H,L,P,T,X,b5,b6,b7,b8,b9,M,N⟩:=P8 bc;have bp:V.cell? ⟨w.heap.size+1,0,C⟩=U (K p i q):=bd 0 D;go_upto_region 2 with fail
 rw [← hV];clear hV;by_cases bb:cc=0
 ·subst bb
  obtain ⟨aw,bg⟩:=a6.zero;have cd:=aw.1;have hA:nM ts i:=al.out ▸ EK cd;have ag:=Ez _ (Ey ts.length) bg;have dj:0≤z:=ag.1;have dk:z≤100000:=by have d:=ag.2.1;have:=aw.2;dsimp only at d;omega
  have c6:∀ s∈Q,s.size≤maxLen:=fun s hs=>by have:=ag.2.2.2 s hs;unfold maxLen;omega
  have cy:=hid (show Q.length=i by have:=ag.2.2.1;dsimp only at this;rw [this,al.out]);have bh:=hid aw;have l:=hid bg;clear a6 aw bg cd ag;cases cq:inB wk 1 8 with
  | false =>
   have an:=hid (mO cq);go_wp2_with (go_at_call 24;refine (lY).mono ?_;rintro e w9 ⟨rfl,rfl⟩)
   go_ret;exact ⟨kG.f fun a=>an.out a.2.1,u⟩
  | true =>
   have an:=hid (mM cq);cases cm:inB now 0 1000000 with
   | false =>
    have aa:=hid (mO cm);go_wp2_with (go_at_call 24;refine (lY).mono ?_;rintro e w9 ⟨rfl,rfl⟩)
    go_ret;exact ⟨kG.f fun a=>aa.out a.2.2.1,u⟩
   | true =>
    have aa:=hid (mM cm);cases up with
    | false =>
     go_wp2_with (first | (go_at_call 25;refine (Rn wk false now sn ep gv a1 a2 ar aj az ao n1 c1 n2 c2 g cr k cj o cs no co).mono ?_;rintro e V1 ⟨⟨r,rfl,hr⟩,c9⟩) | (go_at_call 24;refine (lY).mono ?_;rintro e w9 ⟨rfl,rfl⟩))
     have HR:=hid hr;clear hr;go_ret;refine ⟨⟨r,rfl,⟨fun h=>?_,fun h=>?_⟩⟩,u.trans (c9.mono u.size)⟩
     ·refine ⟨bh.out,an.out,aa.out,z,Q,l.out,.inl ⟨rfl,?_⟩⟩
      rw [bk.out,a8.out,ah.out,ak.out,ai.out];exact HR.out.1 h
     ·have:=Eu h
      rw [bk.out,a8.out,ah.out,ak.out,ai.out] at this;exact HR.out.2 this
    | true =>
     go_upto_region 6 with (go_at_call 24;refine (lY).mono ?_;rintro e w9 ⟨rfl,rfl⟩)
     by_cases g1:ep=z
     ·subst g1
      by_cases g2:1≤ep
      ·obtain ⟨bq,oq,bw,_⟩:=dg.xP c6
       go_wp2_with fail
       refine (Y7 br or' g cr bq oq Q.length cv R Q (hR.below' u) bw).mono ?_;rintro e V1 ⟨⟨r,rfl,hr⟩,au⟩;have c7:Below W.heap.size W V1:=ab.trans (au.mono ab.size);have t:=af.trans (c7.mono A);have cg:=MC.below bc au A;have ck:=MC.below bd au A;have dp:=au.size;clear H L P T X b5 b6 b7 b8 b9 M N bp s0 s1 s2 bc bd cl bw;cases r with
       | false =>
        have c:=hid (show ¬ (vB ts wk aN now sn ep gv L1 L2 R J S j) from fun a=>by have:=hr.2 (qA a l.out).2.2.1;cases this);clear hr;go_wp2;go_ret;exact ⟨kG.f c.out,t⟩
       | true =>
        have bm:=hid (hr.1 rfl);clear hr;obtain ⟨H,L,P,T,X,b5,b6,b7,b8,b9,M,N⟩:=P8 cg;have bp:V1.cell? ⟨w.heap.size+1,0,C⟩=U (K p i q):=ck 0 D;have df:g=i:=by rw [← a8.out,bm.out,cy.out]
        subst df;cases cp:inB sn 0 1 with
        | false =>
         have c:=hid (show ¬ (vB ts wk aN now sn ep gv L1 L2 R J S j) from fun a=>mO cp (qA a l.out).2.2.2.1);go_wp2_with (go_at_call 24;refine (lY).mono ?_;rintro e w9 ⟨rfl,rfl⟩)
         go_ret;exact ⟨kG.f c.out,t⟩
        | true =>
         have cz:=hid (mM cp);cases cf:inB gv 0 1000000 with
         | false =>
          have c:=hid (show ¬ (vB ts wk aN now sn ep gv L1 L2 R J S j) from fun a=>mO cf (qA a l.out).2.2.2.2.1);go_wp2_with (go_at_call 24;refine (lY).mono ?_;rintro e w9 ⟨rfl,rfl⟩)
          go_ret;exact ⟨kG.f c.out,t⟩
         | true =>
          have a7:=hid (mM cf);go_wp2_with (go_at_call 24;refine (lY).mono ?_;rintro e w9 ⟨rfl,rfl⟩)
          refine (UK wk aN now sn ep gv a1 a2 ar aj az ao n1 c1 n2 c2 g cr k cj o cs no co p pb po q ts bj oj br or' J R (hJ.below' t) (hR.below' t) (hT.below' t) hA de g2 A a7.out.1 a7.out.2 aa.out.1 aa.out.2).mono ?_;rintro e V2 ⟨⟨r2,rfl,ax⟩,ba⟩;have aq:=t.trans (ba.mono t.size);have ch:=MC.below cg ba A;have dq:=ba.size;clear H L P T X b5 b6 b7 b8 b9 M N bp ck;cases r2 with
          | false =>
           have c:=hid (show ¬ (vB ts wk aN now sn ep gv L1 L2 R J S j) from fun a=>by
            have d:=(qA a l.out).2.2.2.2.2.1;rw [ah.out,al.out] at d;have:=ax.2 d;cases this)
           clear ax;go_wp2;go_ret;exact ⟨kG.f c.out,aq⟩
          | true =>
           have cx:=hid (ax.1 rfl);clear ax;obtain ⟨H,L,P,T,X,b5,b6,b7,b8,b9,M,N⟩:=P8 ch;go_wp2_with fail
           refine (Ri wk aN now sn ep gv a1 a2 ar aj az ao n1 c1 n2 c2 g cr k cj o cs no co bs cw S (hS.below' aq)).mono ?_;rintro e V3 ⟨⟨r3,rfl,ay⟩,ca⟩;have ae:=aq.trans (ca.mono aq.size);have dc:=MC.below ch ca A;clear H L P T X b5 b6 b7 b8 b9 M N;cases r3 with
           | false =>
            have c:=hid (show ¬ (vB ts wk aN now sn ep gv L1 L2 R J S j) from fun a=>by
             have d:=(qA a l.out).2.2.2.2.2.2.1;rw [ak.out] at d;have:=ay.2 d;cases this)
            clear ay;go_wp2;go_ret;exact ⟨kG.f c.out,ae⟩
           | true =>
            have c4:=hid (ay.1 rfl);clear ay;obtain ⟨H,L,P,T,X,b5,b6,b7,b8,b9,M,N⟩:=P8 dc;go_wp2_with fail
            refine (Rj wk aN now sn ep gv a1 a2 ar aj az ao n1 c1 n2 c2 g cr k cj o cs no co bo oo br or' j R (hO.below' ae) (hR.below' ae)).mono ?_;rintro e V4 ⟨⟨r4,rfl,cn⟩,c8⟩;have c5:=ae.trans (c8.mono ae.size);have bl:=hid cn;clear cn H L P T X b5 b6 b7 b8 b9 M N;go_wp2;go_ret;refine ⟨⟨r4,rfl,⟨fun h=>?_,fun h=>?_⟩⟩,c5⟩
            ·refine ⟨bh.out,an.out,aa.out,ep,Q,l.out,.inr ⟨rfl,rfl,g2,bm.out,cz.out,a7.out,?_,?_,?_⟩⟩
             ·rw [ah.out,al.out];exact cx.out
             ·rw [ak.out];exact c4.out
             ·rw [ai.out];exact bl.out.1 h
            ·have d:=(qA h l.out).2.2.2.2.2.2.2
             rw [ai.out] at d;exact bl.out.2 d
      ·have c:=hid (show ¬ (vB ts wk aN now sn ep gv L1 L2 R J S j) from fun a=>g2 (qA a l.out).2.1)
       go_wp2;go_ret;exact ⟨kG.f c.out,u⟩
     ·have di:(ep == z)=false:=by simpa using g1
      have c:=hid (show ¬ (vB ts wk aN now sn ep gv L1 L2 R J S j) from fun a=>g1 (qA a l.out).1);clear g1;go_wp2;go_ret;exact ⟨kG.f c.out,u⟩
 ·have dm:(cc == 0)=false:=by simpa using bb
  have c:=hid (show ¬ (vB ts wk up now sn ep gv L1 L2 R J S j) from fun a=>a6.nonzero bb ⟨a.1,by obtain ⟨_,_,_,E',Q',d,_⟩:=a;exact ⟨E',Q',d⟩⟩);clear a6;go_wp2;go_ret;exact ⟨kG.f c.out,u⟩
theorem kS.IV {b o:Nat} (h:kS w a b o n ss) (c:Nat):Src prog 1 23 (K a n c) n (ss.map E) w:=by
 have g:∀ u∈ss.map E,u.oneCell'=aN:=fun u hu=>by obtain ⟨y,_,rfl⟩:=List.mem_map.1 hu;rfl
 cases a with
 | none =>
  have f:n=0:=LD fun i=>by have:=h.ad i;cases this
  subst f;have:ss=[]:=oH h.len;subst this;exact Src.ofNil w underlying23 c
 | some y =>
  refine Src.ofSlice w underlying23 y n c (ss.map E) (by simp [h.len]) (fun j u hu=>?_) g;have e:j<n:=by have:=(List.getElem?_eq_some_iff.1 hu).1;simp [h.len] at this;exact this
  have d:=h.ad A;injection d with d;subst d;rw [Addr.add_lit,h.cell j e];rw [← hu];simp [List.getD,h.len,e]
theorem Dp (h:o.op=.buildSlice 23 0 #[]):(execOp ρ o).run prog w=.ok (.value (K (U ⟨w.heap.size,0,C⟩) 0 0)) (w.alloc (aH #[] 9)):=by
 unfold execOp;rw [h];simp [go_sem]
theorem ql {w':World} {x v':Value} (s y:Operand) (t tx:TypeId) (ho:o.op=.call { callee:=.builtin .append,args:=#[s,y],argTypes:=#[t,tx] }) (hv:ρ s=v) (hx:ρ y=x) (hty:o.type=23) (hr:(Builtin.append_ #[t,tx] 23 #[v,x]).run prog w=.ok v' w'):(execOp ρ o).run prog w=.ok (.value v') w':=by
 unfold execOp;simp [ho,resolve,invoke,builtin,hv,hx,hty,hr,Result.andThen]
theorem abY (x:Operand) (h:o.op=.assign x) (a:ρ x=v):(execOp ρ o).run prog w=.ok (.value v) w:=by
 unfold execOp;rw [h];simp [go_sem,a]
theorem KU (a1 a2:Option Addr) (b1 o1 n1 c1 b2 o2 n2 c2:Nat) (L1 L2:List ByteArray) (w:World) (h1:kS w a1 b1 o1 n1 L1) (h2:kS w a2 b2 o2 n2 L2) (ai:n1≤1048576) (ak:n2≤1048576) :
  Calls prog 20 #[.agg #[K a1 n1 c1,K a2 n2 c2]] w fun e w'=>(∃ v,e=.returned v∧Own w.heap.size w' 1 v (n1+n2) ((L1 ++ L2).map E))∧Below w.heap.size w w':=by
 obtain ⟨i0,hi,aa,ab,ae⟩:=info_parts Tryz.info9;obtain ⟨W, f⟩ := kC (w.alloc (aH #[K a1 n1 c1,K a2 n2 c2] 25));have V:Below w.heap.size w W:=by rw [f];exact kQ
 have aq:W.heap.size=w.heap.size+1:=by rw [f];simp
 have Q:MC W w.heap.size [K a1 n1 c1,K a2 n2 c2]:=by rw [f];exact MC.made w _ _
 obtain ⟨k0,k1⟩:=mc2 Q;have l:W.drew.cell? ⟨w.heap.size,0,C⟩=U (K a1 n1 c1)∧W.drew.cell? ⟨w.heap.size,1,C⟩=U (K a2 n2 c2):=⟨k0,k1⟩
 obtain ⟨a, c⟩ := kC (W.drew.alloc (aH #[] 9));have L:Own (w.heap.size+1) a 1 (K (U ⟨W.heap.size,0,C⟩) 0 0) 0 []:=by
  rw [c];exact .inr ⟨_,0,0,rfl,kW.made W.drew (w.heap.size+1) 9 1 0 0 _ 0 (by show _≤W.heap.size;omega) kL G rfl kL _ rfl _ (.inl rfl)⟩
 have T:Below w.heap.size w a:=by rw [c];exact V.drew.alloc V.size _
 have an:a.heap.size=w.heap.size+2:=by rw [c];show (World.alloc _ _).heap.size=_;rw [mJ];show W.heap.size+1=_;omega
 have J:a.cell? ⟨w.heap.size,0,C⟩=U (K a1 n1 c1)∧a.cell? ⟨w.heap.size,1,C⟩=U (K a2 n2 c2):=by
  rw [c];exact ⟨(Jr W.drew _ ⟨w.heap.size,0,C⟩ (by show w.heap.size<W.heap.size;omega)).trans k0,(Jr W.drew _ ⟨w.heap.size,1,C⟩ (by show w.heap.size<W.heap.size;omega)).trans k1⟩
 obtain ⟨v1,z,ag,p,j,_⟩:=l7 (P:=prog) a (w.heap.size+1) 23 23 23 9 i0 (E ⟨#[]⟩) 1 16 underlying23 hi aa ab ae rfl _ 0 _ L _ n1 _ ((h1.below' T).IV c1) G A A;rw [ny,oG] at p;have r:=L.ku;have R:=T.grown j A (fun q M=>by have:=r q M;omega);have H:z.cell? ⟨w.heap.size,0,C⟩=U (K a1 n1 c1)∧z.cell? ⟨w.heap.size,1,C⟩=U (K a2 n2 c2):=⟨j.cell J.1 (fun e=>absurd (r _ e.symm) iD),j.cell J.2 (fun e=>absurd (r _ e.symm) iD)⟩
 have al:=j.size;obtain ⟨v2,k,ah,X,o,_⟩:=l7 (P:=prog) z (w.heap.size+1) 23 23 23 9 i0 (E ⟨#[]⟩) 1 16 underlying23 hi aa ab ae rfl _ n1 _ p _ n2 _ ((h2.below' R).IV c2) G A A;have u:=p.ku;have af:=R.grown o A (fun q M=>by have:=u q M;omega);have N:k.cell? ⟨w.heap.size,0,C⟩=U (K a1 n1 c1)∧k.cell? ⟨w.heap.size,1,C⟩=U (K a2 n2 c2):=⟨o.cell H.1 (fun e=>absurd (u _ e.symm) iD),o.cell H.2 (fun e=>absurd (u _ e.symm) iD)⟩
 have HO:=hid (show Own w.heap.size k 1 v2 (n1+n2) ((L1 ++ L2).map E) by rw [rD];exact X.mono' A);clear L p X j o r u Q k0 k1;go_enter func20,ntmps20
 go_upto_region 1 with fail
 rw [← f];clear f;refine wp_region_held (S:=fun w'=>w'.cell? ⟨w.heap.size,0,C⟩=U (K a1 n1 c1)∧w'.cell? ⟨w.heap.size,1,C⟩=U (K a2 n2 c2)) Z ?_;change wpAnyH _ _ _ _ _ _ _ _ (World.drew _);refine jZ (i:=1) (d:=U 4) (v:=.pointer (U ⟨w.heap.size,0,C⟩)) (l':=(bt 8 2)) rfl (fun _ g=>Z) l ?_;refine jZ (i:=2) (d:=U 5) (v:=K a1 n1 c1) (l':=(bt 8 6)) rfl (fun _ g=>pY (.tmp 4) Z Z g.1) l ?_;refine jZ (i:=4) (d:=U 7) (v:=.pointer (U ⟨w.heap.size,1,C⟩)) (l':=(bt 8 22)) rfl (fun _ g=>Z) l ?_;refine jZ (i:=5) (d:=U 8) (v:=K a2 n2 c2) (l':=(bt 8 54)) rfl (fun _ g=>pY (.tmp 7) Z Z g.2) l ?_;refine kF (i:=0) Z (kM (i:=0) (d:=U 3) (v:=K (U ⟨W.heap.size,0,C⟩) 0 0) (w':=a) (l':=(bt 8 55)) rfl Z Z Z (by rw [c];exact Dp Z) J ?_);refine kF (i:=3) Z (kM (i:=3) (d:=U 6) (v:=v1) (w':=z) (l':=(bt 8 63)) rfl Z Z Z (ql (.tmp 3) (.tmp 5) 23 23 Z Z Z Z ag) H ?_);refine kF (i:=6) Z (kM (i:=6) (d:=U 9) (v:=v2) (w':=k) (l':=(bt 8 127)) rfl Z Z Z (ql (.tmp 6) (.tmp 8) 23 23 Z Z Z Z ah) N ?_);refine kF (i:=7) Z (kM (i:=7) (d:=U 2) (v:=v2) (w':=k) (l':=(bt 8 255)) rfl Z Z Z (abY (.tmp 9) Z Z) N ?_);refine wpAnyH_done Z ?_ _;go_simp;go_wp2;go_ret;exact ⟨⟨_,rfl,HO.out⟩,af⟩
theorem UD (wk:Int) (up:Bool) (now sn ep gv:Int) (a1 a2 ar aj az ao:Option Addr) (n1 c1 n2 c2 c cr cj ns cs no co:Nat) (H:Option Addr) (pb po S:Nat) (ts:List kJ) (bj oj br or':Nat) (J:List Tr) (R:List ByteArray) (N:qZ w aj bj oj c J) (hR:kS w ar br or' c R) (hT:lN w H pb po c ts)
  (hA:nM ts c) (an:1≤ep) (cf:ep≤100000) (cg:0≤gv) (ch:gv≤1000000) (cq:0≤now) (ct:now≤1000000) :
  Calls prog 22 #[.agg #[I Y wk,aF up,I Y now,I Y sn,I Y ep,I Y gv,K a1 n1 c1,K a2 n2 c2,K ar c cr,K aj c cj,K az ns cs,K ao no co],.agg #[K H c S]] w fun e w'=>kG e (oM ts R wk now ep gv J)∧Below w.heap.size w w':=by
 obtain ⟨W, hW⟩ := kC ((w.alloc (aH #[I Y wk,aF up,I Y now,I Y sn,I Y ep,I Y gv,K a1 n1 c1,K a2 n2 c2,K ar c cr,K aj c cj,K az ns cs,K ao no co] 30)).alloc (aH #[K H c S] 33));have aa:Below w.heap.size w W:=jT;have cv:W.heap.size=w.heap.size+2:=dF;have u:MC W w.heap.size [I Y wk,aF up,I Y now,I Y sn,I Y ep,I Y gv,K a1 n1 c1,K a2 n2 c2,K ar c cr,K aj c cj,K az ns cs,K ao no co]∧MC W (w.heap.size+1) [K H c S]:=by
  have L:=MC.made w #[I Y wk,aF up,I Y now,I Y sn,I Y ep,I Y gv,K a1 n1 c1,K a2 n2 c2,K ar c cr,K aj c cj,K az ns cs,K ao no co] 30;have x3:=MC.made (w.alloc (aH #[I Y wk,aF up,I Y now,I Y sn,I Y ep,I Y gv,K a1 n1 c1,K a2 n2 c2,K ar c cr,K aj c cj,K az ns cs,K ao no co] 30)) #[K H c S] 33;rw [mJ] at x3;rw [hW];exact ⟨L.block (kU _ _ _ D),x3⟩
 have b6:=hT.max;unfold maxLen at b6;have T:=hid N.len;have z4:W.cell? ⟨w.heap.size,4,C⟩=U (I Y ep):=u.1 4 D;go_enter func22,ntmps22
 go_upto_region 1 with fail
 rw [← hW];clear hW;go_upto_region 2 with fail
 clear z4;obtain ⟨ba, af⟩ := kC ((ep - 1)*1000000);rw [← af];have cc:0≤ba:=A;have cd:ba≤100000000000:=A;have ax:=hid af;clear af;go_wp2;go_loopw [6] (fun i wr=>∃ k:Nat,k≤c∧i=I Y k∧OT ts R wk now ep gv J k∧Below W.heap.size W wr) (fun i _=>c - (intOf i).toNat)
 case atStart=>exact ⟨0,lG _,rfl,fun j hj=>absurd hj A,mD⟩
 case round =>
  obtain ⟨k,hk,rfl,au,hb⟩:=hrel;have hB:=aa.trans (hb.mono A);have z9:wr.cell? ⟨w.heap.size,9,C⟩=U (K aj c cj):=kV hb (u.1 9 D);by_cases z:k<c
  ·obtain rfl:=N.ad A
   have ai:=(N.below' hB).c0 k z;have ak:=(N.below' hB).c1 k z;have al:=(N.below' hB).c2 k z;obtain ⟨⟨l,L,x2⟩,hx⟩:∃ x,x=t3 J k:=⟨_,rfl⟩
   rw [← hx] at ai ak al;dsimp only at ai ak al;have o:=hid hx;clear hx;have cl:(k:Int)<(c:Int):=A;obtain ⟨V, hV⟩ := kC (wr.alloc (aH #[I Y l,I Y L,I Y x2] 61));have bw:Below wr.heap.size wr V:=by rw [hV];exact kQ
   have p:Below W.heap.size W V:=hb.trans (bw.mono hb.size);have q:=aa.trans (p.mono A);have bf:MC V wr.heap.size [I Y l,I Y L,I Y x2]:=by rw [hV];exact MC.made wr _ _
   have b4:wr.heap.size<V.heap.size:=by rw [hV];simp
   obtain ⟨y0,y1,y2⟩:=YQ bf;clear bf;go_upto_region 6 with fail
   rw [← hV];clear hV z9 ai ak al;obtain ⟨jb, aq⟩ := kC wr.heap.size;rw [← aq] at y0 y1 y2 b4;rw [← aq];clear aq;by_cases bk:l=0
   ·subst bk
    by_cases bl:L=0
    ·subst bl
     by_cases bm:x2=0
     ·subst bm
      go_wp2;go_roundw
      case rel =>
       refine ⟨k+1,A,aW,fun j hj=>?_,p⟩;by_cases e:j=k
       ·subst e;exact .inl o.out.symm
       ·exact au j A
      case measure=>simp [intOf];omega
     ·have g:=hid (show ¬ oM ts R wk now ep gv J from fun hh=>by
       rcases hh k (by rw [T.out];exact z) with v | ⟨d,_⟩
       ·rw [← o.out] at v;exact bm (by simpa using v)
       ·rw [← o.out] at d;exact DZ d an rfl)
      go_wp2;go_ret;exact ⟨kG.f g.out,q⟩
    ·have g:=hid (show ¬ oM ts R wk now ep gv J from fun hh=>by
      rcases hh k (by rw [T.out];exact z) with v | ⟨d,_⟩
      ·rw [← o.out] at v;exact bl (by have:=congrArg (fun t:Tr=>t.2.1) v;simpa using this)
      ·rw [← o.out] at d;exact DZ d an rfl)
     go_wp2;go_ret;exact ⟨kG.f g.out,q⟩
   ·have HZ:=hid bk
    have M:Hid (∀ P:Prop,(OU wk now ep gv (l,L,x2)→(∀ h,¬ h=k→h<c→¬ (t3 J h).1=l)→uw ts R k→P)→oM ts R wk now ep gv J→P):=fun P hP hh=>by
     rcases hh k (by rw [T.out];exact z) with v | ⟨d,h2,X⟩
     ·rw [← o.out] at v;exact absurd (by have:=congrArg (fun t:Tr=>t.1) v;simpa using this) HZ.out
     ·rw [← o.out] at d
      exact hP d (fun h a b=>by have:=h2 h a (by rw [T.out];exact b);rw [← o.out] at this;exact this) X
    have b0:V.cell? ⟨w.heap.size,0,C⟩=U (I Y wk):=kV p (u.1 0 D);have b2:V.cell? ⟨w.heap.size,2,C⟩=U (I Y now):=kV p (u.1 2 D);have b5:V.cell? ⟨w.heap.size,5,C⟩=U (I Y gv):=kV p (u.1 5 D);have b8:V.cell? ⟨w.heap.size,8,C⟩=U (K ar c cr):=kV p (u.1 8 D);have b9:V.cell? ⟨w.heap.size,9,C⟩=U (K (U ⟨bj,oj,C⟩) c cj):=kV p (u.1 9 D);have bp:V.cell? ⟨w.heap.size+1,0,C⟩=U (K H c S):=kV p (u.2 0 D);cases hA0:inB l (ba+1) (ba+gv) with
    | false =>
     have g:=hid (show ¬ oM ts R wk now ep gv J from M.out False fun d _ _=>mO hA0 (by rw [ax.out];exact ⟨d.1,d.2.1⟩));go_wp2_with (first | (go_at_call 19;refine (kP _ _ _).mono ?_;rintro e w9 ⟨rfl,rfl⟩))
     go_ret;exact ⟨kG.f g.out,q⟩
    | true =>
     have bn:=hid (mM hA0);cases a7:inB L 1 wk with
     | false =>
      have g:=hid (show ¬ oM ts R wk now ep gv J from M.out False fun d _ _=>mO a7 ⟨d.2.2.1,d.2.2.2.1⟩);go_wp2_with (first | (go_at_call 19;refine (kP _ _ _).mono ?_;rintro e w9 ⟨rfl,rfl⟩))
      go_ret;exact ⟨kG.f g.out,q⟩
     | true =>
      have aw:=hid (mM a7);cases bb:inB x2 (now+1) (now+12) with
      | false =>
       have g:=hid (show ¬ oM ts R wk now ep gv J from M.out False fun d _ _=>mO bb d.2.2.2.2);go_wp2_with (first | (go_at_call 19;refine (kP _ _ _).mono ?_;rintro e w9 ⟨rfl,rfl⟩))
       go_ret;exact ⟨kG.f g.out,q⟩
      | true =>
       have ay:=hid (mM bb);obtain rfl:=hR.ad A;have bc:=(hR.below' q).cell k z;obtain ⟨s, hs⟩ := kC (R.getD k ByteArray.empty);rw [← hs] at bc;have HS:Hid (rs R k=s):=by rw [hs];rfl
       clear hs;by_cases Q:s.size=0
       ·have b7:=oP Q
        have bs:=hid Q;clear Q;have bh:=hT.below' q;have bg:=hR.below' q;go_wp2_with (first | (go_at_call 19;refine (kP _ _ _).mono ?_;rintro e w9 ⟨rfl,rfl⟩))
        refine (Gw H pb po c S ts _ br or' cr R k _ bh bg z hA).mono ?_;rintro e V1 ⟨⟨r,rfl,hr⟩,ab⟩;have ae:Below W.heap.size W V1:=p.trans (ab.mono p.size);have bu:=aa.trans (ae.mono A);have cu:=ab.size;have cb:=kV ab y0;clear b0 b2 b5 b8 b9 bp bc bh bg y0 y1 y2;cases r with
        | false =>
         have g:=hid (show ¬ oM ts R wk now ep gv J from M.out False fun _ _ X=>by have:=hr.2 X.2;cases this);clear hr;go_wp2;go_ret;exact ⟨kG.f g.out,bu⟩
        | true =>
         have bo:=hid (show uw ts R k from ⟨by rw [HS.out];exact bs.out,hr.1 rfl⟩);clear hr;go_wp2;go_loopw [8] (fun i ca=>∃ m:Nat,m≤k∧i=I Y m∧(∀ h,h<m→¬ (t3 J h).1=l)∧Below V1.heap.size V1 ca) (fun i _=>k - (intOf i).toNat)
         case atStart=>exact ⟨0,lG _,rfl,fun j hj=>absurd hj A,mD⟩
         case round =>
          obtain ⟨m,hm,rfl,bd,ag⟩:=hrel;have ah:Below W.heap.size W wr:=ae.trans (ag.mono ae.size);have a8:=aa.trans (ah.mono A);by_cases cm:m<k
          ·have z9:wr.cell? ⟨w.heap.size,9,C⟩=U (K (U ⟨bj,oj,C⟩) c cj):=kV ah (u.1 9 D)
           have yj:wr.cell? ⟨jb,0,C⟩=U (I Y l):=kV ag cb;have bz:=(N.below' a8).c0 m A;obtain ⟨xm, av⟩ := kC ((t3 J m).1);rw [← av] at bz;have a6:=hid av;clear av;have cn:(m:Int)<(k:Int):=A;have cp:(m:Int)<(c:Int):=A;by_cases heq:xm=l
           ·have g:=hid (show ¬ oM ts R wk now ep gv J from M.out False fun _ h2 _=>h2 m A A (by rw [← a6.out];exact heq))
            have b1:(xm == l)=aN:=by simpa using heq
            clear heq;go_wp2;go_quiet (fail)
            go_wp2;go_ret;exact ⟨kG.f g.out,below_drewN a8 _⟩
           ·have b1:(xm == l)=false:=by simpa using heq
            have bq:=hid heq;clear heq;go_wp2;go_quiet (fail)
            go_wp2;go_roundw
            case rel =>
             refine ⟨m+1,A,aW,fun h ck=>?_,below_drewN ag _⟩;by_cases e:h=m
             ·subst e;rw [← a6.out];exact bq.out
             ·exact bd h A
            case measure=>simp [intOf];omega
          ·obtain rfl:m=k:=by omega
           go_wp2;go_roundw
           case rel =>
            refine ⟨m+1,A,aW,fun j hj=>?_,ah⟩;by_cases e:j=m
            ·subst e
             have b3:OU wk now ep gv (t3 J j):=by
              rw [← o.out];have d:=bn.out;rw [ax.out] at d;exact ⟨d.1,d.2,aw.out.1,aw.out.2,ay.out.1,ay.out.2⟩
             exact .inr ⟨b3,fun h a _ he=>bd h a (by rw [he,← o.out]),bo.out⟩
            ·exact au j A
           case measure=>simp [intOf];omega
       ·have b7:=oQ Q
        have g:=hid (show ¬ oM ts R wk now ep gv J from M.out False fun _ _ X=>Q (by rw [← HS.out];exact X.1));clear Q;go_wp2_with (first | (go_at_call 19;refine (kP _ _ _).mono ?_;rintro e w9 ⟨rfl,rfl⟩))
        go_ret;exact ⟨kG.f g.out,q⟩
  ·obtain rfl:k=c:=by omega
   go_wp2;go_ret;exact ⟨kG.t (OT.all (by rw [T.out];exact au) an),hB⟩
end Go.Proofs.YtfkkipgcfoegmaaGreat
