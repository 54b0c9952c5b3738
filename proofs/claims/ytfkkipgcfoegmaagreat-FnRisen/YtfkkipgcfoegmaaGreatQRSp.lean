
import Derived.Test.YtfkkipgcfoegmaaGreatQRIm
set_option maxHeartbeats 4000000
set_option maxRecDepth 100000
namespace Go.Proofs.YtfkkipgcfoegmaaGreat
open Go.Proofs.Tryz
open Go.Value renaming slice→K,string→E,agg→aI
open Option renaming none→C,some→U
open Go.Operand renaming tmp→F
open Go.Value renaming int→I
open Go.IntKind renaming i64→Y
open Go.RowKit
variable {L:List ByteArray} {j:Nat} {s:ByteArray} {st':St} {ts:List kJ}
theorem Own.setOther {B:Nat} {w:World} {size:Nat} {v:Value} {n:Nat} {xs:List Value} (h:Own B w size v n xs) {p:Addr} (c:v.ownBlock≠U p.block) (u:Value):Own B (w.setCell p u) size v n xs:=by
 rcases h with h | ⟨g,o,cap,rfl,a⟩
 ·exact .inl h
 ·exact .inr ⟨g,o,cap,rfl,a.setOther (fun e=>c (by rw [← e];rfl)) u⟩
theorem Fb {st:St} (h:rep ts (L.take j) st=U st') (c:j<L.length) (e:s=L.getD j ByteArray.empty) (d:qB ts st' s=C):rep ts L st=C:=by
 have:rep ts (L.take (j+1)) st=C:=by rw [pG c,← e,Fe,h];exact d
 have a:=Ul (r:=L.drop (j+1)) this;rwa [RV] at a
theorem YG {st a:St} (h:rep ts (L.take j) st=U st') (c:j<L.length) (e:s=L.getD j ByteArray.empty) (d:qB ts st' s=U a):rep ts (L.take (j+1)) st=U a:=by
 rw [pG c,← e,Fe,h];exact d
theorem yS (a:Option Addr) (b o n c:Nat) (ts:List kJ) (a1:Option Addr) (b1 o1 n1 c1:Nat) (L:List ByteArray) (w:World) (h:lN w a b o n ts) (h1:kS w a1 b1 o1 n1 L) (e0:n1≤1048576) :
  Calls prog 14 #[aI #[K a n c],K a1 n1 c1] w fun e w'=>Qh e w w' ts L∧Below w.heap.size w w':=by
 obtain ⟨i0,hi,dx,dy,dz⟩:=info_parts Tryz.info9;obtain ⟨W, hW⟩ := kC ((w.alloc (.cells #[K a n c] 33)).alloc (.cells rP 41));have bn:Below w.heap.size w W:=jT;have du:W.heap.size=w.heap.size+2:=dF;have d:CF W w.heap.size [K a n c]∧CF W (w.heap.size+1) oD:=by
  have x1:=CF.made w #[K a n c] 33;have x3:=CF.made (w.alloc (.cells #[K a n c] 33)) rP 41;rw [mJ] at x3;rw [hW];exact ⟨x1.block (kU _ _ _ D),x3⟩
 go_enter func14,ntmps14
 go_wp2_with fail
 rw [← hW];refine (ru a b o n c ts (h.below' bn)).mono ?_;rintro e l ⟨⟨cc,rfl,aw⟩,ba⟩;have bf:CF l w.heap.size [K a n c]∧CF l (w.heap.size+1) oD:=⟨d.1.block (ba.block _ A),d.2.block (ba.block _ A)⟩
 have ay:=bn.trans (ba.mono A);have e1:w.heap.size+2≤l.heap.size:=by have:=ba.size;omega
 have dj:=h1.max;unfold maxLen at dj;have bg:=hid h1.len;have bh:=h.len;clear hW d ba bn du;have ae:=hid bh;by_cases bo:cc=0
 ·subst bo
  by_cases eg:310<n1
  ·have Q:=hid (show ¬ (Code ts 0∧L.length≤310) from fun S=>by have:=S.2;rw [bg.out] at this;omega)
   clear aw bh;go_wp2_with (refine jY rfl 41 (F 4) (F 18) rfl (w.heap.size+1) oD [I Y 1,I Y 0,K C 0 0] rfl rfl bf.2 rfl Tryz.sizeStory (Fg) ?_;intro an N H)
   obtain ⟨k0,k1,P⟩:=cf3 N;exact bodyPost_ret (v:=aI Rx) bG rfl ⟨⟨1,0,[],_,rfl,.inl ⟨Q.out,rfl,rfl,rfl⟩,Own.nil _ _ _⟩,(ay).grown H (by have:=(ay).size;omega) (fun q d=>fA)⟩
  ·have ew:1≤n∧n≤40:=by
    rcases aw with ⟨S,_⟩ | ⟨S,_⟩
    ·cases S
    ·omega
   have hA:nM ts n:=ae.out ▸ EK aw;have HC:=hid (show Code ts 0∧L.length≤310 from ⟨aw,by rw [bg.out];omega⟩);clear aw bh;obtain ⟨V, hV⟩ := kC (l.alloc (.cells rP 41));have dt:V.heap.size=l.heap.size+1:=by rw [hV];simp
   have ab:CF V l.heap.size oD:=by rw [hV];exact CF.made l rP 41
   have b2:CF V w.heap.size [K a n c]∧CF V (w.heap.size+1) oD:=by rw [hV];exact ⟨bf.1.block (kU _ _ _ A),bf.2.block (kU _ _ _ A)⟩
   have cg:Below w.heap.size w V:=by rw [hV];exact ay.alloc A _
   clear bf ay;have eh:¬ ((310:Int)<(n1:Int)):=A;go_upto_region 4 with fail
   rw [← hV];clear hV;go_wp2;go_loopw [6] (fun i wr=>∃ k:Nat,k≤n∧i=I Y k∧∃ v,CF wr l.heap.size [I Y 0,I Y 0,v]∧Own (l.heap.size+1) wr 1 v k ((List.replicate k (⟨#[]⟩:ByteArray)).map E)∧CF wr w.heap.size [K a n c]∧CF wr (w.heap.size+1) oD∧Below w.heap.size w wr∧l.heap.size<wr.heap.size) (fun i _=>n - (intOf i).toNat)
   case atStart=>exact ⟨0,lG _,rfl,_,ab,Own.nil _ _ _,b2.1,b2.2,cg,A⟩
   case round =>
    clear ab b2 cg dt;obtain ⟨k,hk,rfl,v,ab,bj,hp,hz,hB,b7⟩:=hrel;have p0:wr.cell? ⟨w.heap.size,0,C⟩=U (K a n c):=(hp 0 D).1;by_cases di:k<n
    ·have ez:(k:Int)<(n:Int):=by omega
     obtain ⟨J, z⟩ := kC (wr.alloc (.cells #[E ⟨#[]⟩] 9));have cu:Own (l.heap.size+1) J 1 (K (U ⟨wr.heap.size,0,C⟩) 1 1) 1 [E ⟨#[]⟩]:=by
      rw [z];exact .inr ⟨_,0,1,rfl,kW.made wr (l.heap.size+1) 9 1 1 1 _ 1 A kL G rfl kL _ rfl _ (.inl rfl)⟩
     have dv:Src prog 1 23 _ 1 _ J:=cu.src underlying23 dY;have ds:J.heap.size=wr.heap.size+1:=by rw [z];simp
     have ai:∀ q,q<wr.heap.size→J.heap[q]?=wr.heap[q]?:=fun q d=>by rw [z];exact kU _ _ _ d
     have b0:Own (l.heap.size+1) J 1 v k ((List.replicate k (⟨#[]⟩:ByteArray)).map E):=by rw [z];exact bj.alloc _
     have a6:=ab.block (ai _ A);have bd:=hp.block (ai _ A);have ag:=hz.block (ai _ A);have M:Below w.heap.size w J:=by rw [z];exact hB.alloc (by have:=hB.size;omega) _
     have c2:wr.cell? ⟨l.heap.size,2,C⟩=U v:=(ab 2 D).1;have bk:=b0.ku;clear cu bj ab hp hz;obtain ⟨av,cv,rfl⟩:=b0.slc;go_wp2_with (at_builtin;rw [← z];refine kT _ rfl _ _ 23 23 rfl (l.heap.size+1) 9 i0 (E ⟨#[]⟩) 1 16 underlying23 hi dx dy dz rfl _ k _ rfl b0 _ 1 _ rfl dv G A A ?_;intro v' w6 bz bb ek;have e4:=bb.size;have b5:=a6.block (bb.block _ A (fun e=>absurd (bk _ e.symm) A));have q2:=(b5 2 D).1;have e5:=(b5 2 D).2;obtain ⟨ed,ef,rfl⟩:=bz.slc)
     have c8:=M.grown bb A (fun q d=>by have:=bk q d;omega);have dp:=bd.block (bb.block _ A (fun e=>absurd (bk _ e.symm) A));have ea:=ag.block (bb.block _ A (fun e=>absurd (bk _ e.symm) A));have dr:=bz.ku;go_roundw
     case rel =>
      refine ⟨k+1,A,aW,_,b5.set (j:=2) D _,?_,dp.block (nK _ _ _ _ aT),ea.block (nK _ _ _ _ aT),c8.setCell aT _,gX⟩;have:(List.replicate (k+1) (⟨#[]⟩:ByteArray)).map E=(List.replicate k (⟨#[]⟩:ByteArray)).map E ++ [E ⟨#[]⟩]:=by rw [WY,rD];rfl
      rw [this];exact bz.setOther (fun e=>absurd (dr _ e) aT) _
     case measure=>simp [intOf];omega
    ·obtain rfl:k=n:=by omega
     obtain ⟨g,T,cap,rfl,ak⟩:∃ g T cap,v=K (U ⟨g,T,C⟩) k cap∧kW (l.heap.size+1) wr 1 g T cap k ((st0 k).2.map E):=by
      rcases bj with ⟨_,h0,_⟩ | ⟨g,T,cap,hv,hc⟩
      ·omega
      ·exact ⟨g,T,cap,hv,hc⟩
     have eu:=ak.lo;have eo:=ak.le;clear bj;go_wp2;go_loopw [7] (fun i wr=>∃ j:Nat,j≤n1∧i=I Y j∧∃ f R,rep ts (L.take j) (st0 k)=U (f,R)∧CF wr l.heap.size [I Y 0,I Y f,K (U ⟨g,T,C⟩) k cap]∧kW (l.heap.size+1) wr 1 g T cap k (R.map E)∧CF wr w.heap.size [K a k c]∧CF wr (w.heap.size+1) oD∧Below w.heap.size w wr∧l.heap.size<wr.heap.size) (fun i _=>n1 - (intOf i).toNat)
     case atStart=>exact ⟨0,lG _,rfl,_,_,rfl,ab,ak,hp,hz,hB,b7⟩
     case round =>
      clear ab ak hp hz hB p0 di hk;obtain ⟨j,hj,rfl,f,R,b4,ab,ak,hp,hz,hB,b7⟩:=hrel;have bc:=Ez _ (Ey k) b4;have ch:R.length=k:=bc.2.2.1;have c9:∀ s∈R,s.size≤8:=bc.2.2.2;have ei:0≤f:=bc.1;have ej:f≤100000:=by have h2:=bc.2.1;rw [qI] at h2;dsimp only at h2;omega
      have ah:=hid b4;clear b4 bc;by_cases bu:j<n1
      ·obtain rfl:=h1.ad A
       have ck:=(h1.below' hB).cell j bu;have b8:=h1.szD bu;obtain ⟨s, hs⟩ := kC (L.getD j ByteArray.empty);rw [← hs] at ck b8;have HS:=hid hs;clear hs;have ey:(j:Int)<(n1:Int):=A;have cl:j<L.length:=by rw [bg.out];exact bu
       have al:=hid cl;clear cl;go_wp2_with fail
       refine (Rh s b8).mono ?_;rintro e' w2 ⟨dq,au⟩;have e2:=au.size;have cx:=ab.block (au.block _ b7);have bw:=ak.below au ak.hi;have cw:=hp.block (au.block _ A);have cb:=hz.block (au.block _ A);have a8:=hB.trans (au.mono hB.size);clear ab ak hp hz au ck b8;rcases dq with ⟨rfl,cp⟩ | ⟨ke,X,de,xe,rfl,bs⟩
       ·have Q:=hid (Fb ah.out al.out HS.out (by unfold qB;rw [NU cp];rfl))
        clear cp;obtain ⟨J, z⟩ := kC (w2.alloc (.cells EX 66));have ag:CF J (w.heap.size+1) oD:=by rw [z];exact cb.block (kU _ _ _ A)
        have M:Below w.heap.size w J:=by rw [z];exact a8.alloc a8.size _
        go_upto_region 12 with fail
        rw [← z];clear z;go_wp2_with (refine jY rfl 41 (F 4) (F 48) rfl (w.heap.size+1) oD Jp rfl rfl ag rfl Tryz.sizeStory (Fg) ?_;intro an N H)
        obtain ⟨k0,k1,P⟩:=cf3 N;exact bodyPost_ret (v:=aI Jo) bG rfl ⟨⟨2,0,[],_,rfl,.inr ⟨HC.out,.inl ⟨fQ,rfl,rfl,rfl⟩⟩,Own.nil _ _ _⟩,(M).grown H iP (fun q d=>fA)⟩
       ·have br:=JR bs
        have ca:=bs.1;have ec:=hid br;have aq:=hid (show qB ts (f,R) s=step1 ts (f,R) (ke,X,de,xe) by unfold qB;rw [br];rfl);clear br bs;obtain ⟨J, z⟩ := kC (w2.alloc (.cells #[I Y ke,I Y X,I Y de,E xe] 66));have ai:∀ q,q<w2.heap.size→J.heap[q]?=w2.heap[q]?:=fun q d=>by rw [z];exact kU _ _ _ d
        have ds:J.heap.size=w2.heap.size+1:=by rw [z];simp
        have ag:=cb.block (ai _ A);have bd:=cw.block (ai _ A);have a6:=cx.block (ai _ A);have dk:=bw.block (ai _ bw.hi);have M:Below w.heap.size w J:=by rw [z];exact a8.alloc a8.size _
        have cn:MC J w2.heap.size [I Y ke,I Y X,I Y de,E xe]:=by rw [z];exact MC.made w2 _ _
        obtain ⟨x0,x1,x2,x3⟩:=YP cn;have y1:J.cell? ⟨l.heap.size,1,C⟩=U (I Y f):=(a6 1 D).1;have eb:=(a6 1 D).2;have y2:J.cell? ⟨l.heap.size,2,C⟩=U (K (U ⟨g,T,C⟩) k cap):=(a6 2 D).1;have p0:J.cell? ⟨w.heap.size,0,C⟩=U (K a k c):=(bd 0 D).1;have cf:=hid a6;have ax:=hid dk;clear cn cb cw cx bw a8 ai;go_upto_region 12 with fail
        rw [← z];clear z;unfold vE at ca;by_cases cm:ke=1
        ·subst cm
         clear ca;by_cases aa:X=f+1
         ·have bq:(X == f+1)=true:=by simpa using aa
          have bl:=hid (show step1 ts (f,R) (1,X,de,xe)=U (X,R) by unfold step1;simp [aa]);clear aa;go_wp2;go_roundw
          case rel =>
           exact ⟨j+1,A,aW,X,R,YG ah.out al.out HS.out (aq.out.trans bl.out),(cf.out).set (j:=1) D _,(ax.out).setOther aT _,bd.block (nK _ _ _ _ aT),ag.block (nK _ _ _ _ aT),M.setCell aT _,gX⟩
          case measure=>simp [intOf];omega
         ·have bq:(X == f+1)=false:=by simpa using aa
          have Q:=hid (Fb ah.out al.out HS.out (aq.out.trans (by unfold step1;simp [aa])));clear aa;go_wp2_with (refine jY rfl 41 (F 4) (F 58) rfl (w.heap.size+1) oD Jp rfl rfl ag rfl Tryz.sizeStory (Fg) ?_;intro an N H)
          obtain ⟨k0,k1,P⟩:=cf3 N;exact bodyPost_ret (v:=aI Jo) bG rfl ⟨⟨2,0,[],_,rfl,.inr ⟨HC.out,.inl ⟨fQ,rfl,rfl,rfl⟩⟩,Own.nil _ _ _⟩,(M).grown H iP (fun q d=>fA)⟩
        ·have dh:ke=2:=by omega
         subst dh;have da:0≤de:=A;have db:de≤39:=A;clear ca cm;by_cases aa:X=f
         ·have bq:(X == f)=true:=by simpa using aa
          have c6:=hid aa;clear aa;by_cases er:de<k
          ·obtain ⟨p,rfl⟩:∃ p:Nat,de=p:=⟨de.toNat,A⟩
           have df:p<k:=A;have dc:¬ ((k:Int)≤(p:Int)):=A;obtain ⟨u,hu,bp⟩:=(ax.out).N7 (j:=p) A;have dg:=(ax.out).notFrozen (j:=p) A;have dw:u=E (rs R p):=by
            rw [IB,nH A] at hu;simp only [Option.map_some,Option.some.injEq] at hu;rw [← hu];unfold rs;simp [List.getD,List.getElem?_eq_getElem (show p<R.length by omega)]
           subst dw;clear hu;obtain ⟨rd, b3⟩ := kC (rs R p);rw [← b3] at bp;have cd:=hid b3;clear b3;by_cases a7:rd.size=0
           ·have cz:=oP a7
            have HZ:=hid a7;clear a7;have b6:=kS.Au (ax.out) (fun s hs=>by have:=c9 s hs;unfold maxLen;omega);have b9:=h.below' M;go_wp2_with fail
            refine (Gw a b o k c ts _ g T cap R p _ b9 b6 df hA).mono ?_;rintro e' w4 ⟨⟨r,rfl,hr⟩,af⟩;have e3:=af.size;have c4:=ag.block (af.block _ A);have dm:=bd.block (af.block _ A);have cy:=(cf.out).block (af.block _ A);have cq:=(ax.out).below af (ax.out).hi;have bm:=M.trans (af.mono M.size);cases r with
            | false =>
             have Q:=hid (Fb ah.out al.out HS.out (aq.out.trans (by unfold step1;rw [if_neg (show ¬ (2:Int)=1 by decide),if_neg];exact fun S=>by have:=hr.2 S.2.2.2;cases this)));clear hr b6 b9;go_upto_region 19 with fail
             go_wp2_with (refine jY rfl 41 (F 4) (F 93) rfl (w.heap.size+1) oD Jp rfl rfl c4 rfl Tryz.sizeStory (Fg) ?_;intro an N H)
             obtain ⟨k0,k1,P⟩:=cf3 N;exact bodyPost_ret (v:=aI Jo) bG rfl ⟨⟨2,0,[],_,rfl,.inr ⟨HC.out,.inl ⟨fQ,rfl,rfl,rfl⟩⟩,Own.nil _ _ _⟩,(bm).grown H (by have:=(bm).size;omega) (fun q d=>fA)⟩
            | true =>
             have c5:=hid (hr.1 rfl);have bl:=hid (show step1 ts (f,R) (2,X,(p:Int),xe)=U (f,R.set p xe) by
              unfold step1;rw [if_neg (show ¬ (2:Int)=1 by decide),if_pos]
              ·simp
              ·exact ⟨c6.out,by show (p:Int)<_;rw [ae.out];omega,by show (rs R p).size=0;rw [← cd.out];exact HZ.out,c5.out⟩)
             clear hr b6 b9;have z2:w4.cell? ⟨l.heap.size,2,C⟩=U (K (U ⟨g,T,C⟩) k cap):=(cy 2 D).1;have t2:w4.cell? ⟨w2.heap.size,2,C⟩=U (I Y p):=kV af x2;have t3:w4.cell? ⟨w2.heap.size,3,C⟩=U (E xe):=kV af x3;have tu:w4.cell? ⟨g,T+p,C⟩=U (E rd):=kV af bp;have tf:=cq.notFrozen (j:=p) A;have ct:=cq.setCell (j:=p) A (E xe);rw [← Ry] at ct;have et:(p:Int)<(k:Int):=A;clear x0 x1 x2 x3 y1 eb y2 p0 bp dg af cz;go_wp2;go_roundw
             case rel =>
              exact ⟨j+1,A,aW,f,R.set p xe,YG ah.out al.out HS.out (aq.out.trans bl.out),cy.block (nK _ _ _ _ aT),ct,dm.block (nK _ _ _ _ aT),c4.block (nK _ _ _ _ aT),bm.setCell aT _,gX⟩
             case measure=>simp [intOf];omega
           ·have cz:=oQ a7
            have Q:=hid (Fb ah.out al.out HS.out (aq.out.trans (by unfold step1;rw [if_neg (show ¬ (2:Int)=1 by decide),if_neg];exact fun S=>by have h9:(rs R p).size=0:=S.2.2.1;rw [← cd.out] at h9;exact a7 h9)));clear a7;go_upto_region 19 with fail
            go_wp2_with (refine jY rfl 41 (F 4) (F 93) rfl (w.heap.size+1) oD Jp rfl rfl ag rfl Tryz.sizeStory (Fg) ?_;intro an N H)
            obtain ⟨k0,k1,P⟩:=cf3 N;exact bodyPost_ret (v:=aI Jo) bG rfl ⟨⟨2,0,[],_,rfl,.inr ⟨HC.out,.inl ⟨fQ,rfl,rfl,rfl⟩⟩,Own.nil _ _ _⟩,(M).grown H iP (fun q d=>fA)⟩
          ·have dc:(k:Int)≤de:=by omega
           have Q:=hid (Fb ah.out al.out HS.out (aq.out.trans (by unfold step1;rw [if_neg (show ¬ (2:Int)=1 by decide),if_neg];exact fun S=>by have h9:de<(ts.length:Int):=S.2.1;rw [ae.out] at h9;omega)));go_upto_region 19 with fail
           go_wp2_with (refine jY rfl 41 (F 4) (F 93) rfl (w.heap.size+1) oD Jp rfl rfl ag rfl Tryz.sizeStory (Fg) ?_;intro an N H)
           obtain ⟨k0,k1,P⟩:=cf3 N;exact bodyPost_ret (v:=aI Jo) bG rfl ⟨⟨2,0,[],_,rfl,.inr ⟨HC.out,.inl ⟨fQ,rfl,rfl,rfl⟩⟩,Own.nil _ _ _⟩,(M).grown H iP (fun q d=>fA)⟩
         ·have bq:(X == f)=false:=by simpa using aa
          have Q:=hid (Fb ah.out al.out HS.out (aq.out.trans (by unfold step1;rw [if_neg (show ¬ (2:Int)=1 by decide),if_neg];exact fun S=>aa S.1)));clear y2 p0 x2 x3 da db;go_upto_region 19 with fail
          go_wp2_with (refine jY rfl 41 (F 4) (F 93) rfl (w.heap.size+1) oD Jp rfl rfl ag rfl Tryz.sizeStory (Fg) ?_;intro an N H)
          obtain ⟨k0,k1,P⟩:=cf3 N;exact bodyPost_ret (v:=aI Jo) bG rfl ⟨⟨2,0,[],_,rfl,.inr ⟨HC.out,.inl ⟨fQ,rfl,rfl,rfl⟩⟩,Own.nil _ _ _⟩,(M).grown H iP (fun q d=>fA)⟩
      ·obtain rfl:j=n1:=by omega
       have c7:=hid (show rep ts L (st0 k)=U (f,R) by have:=ah.out;rwa [pF (by rw [bg.out];omega)] at this);obtain ⟨y0,y1,y2⟩:=cf3 ab;go_wp2_with (refine jY rfl 41 (F 4) (F 101) rfl (w.heap.size+1) oD [I Y 0,I Y f,K (U ⟨g,T,C⟩) k cap] rfl rfl hz rfl Tryz.sizeStory (Fg) ?_;intro an N H)
       obtain ⟨k0,k1,P⟩:=cf3 N;exact bodyPost_ret (v:=aI #[I Y 0,I Y f,K (U ⟨g,T,C⟩) k cap]) bG rfl ⟨⟨0,f,R,_,rfl,.inr ⟨HC.out,.inr ⟨by rw [ae.out];exact c7.out,rfl⟩⟩,.inr ⟨g,T,cap,by rw [ch],by rw [ch];exact (ak.grown H aQ).mono A⟩⟩,hB.grown H (by have:=hB.size;omega) (fun q d=>fA)⟩
 ·have en:(cc == 0)=false:=by simpa using bo
  have Q:=hid (show ¬ (Code ts 0∧L.length≤310) from fun S=>bo (aw.one S.1));clear aw bh;go_wp2_with (refine jY rfl 41 (F 4) (F 18) rfl (w.heap.size+1) oD [I Y 1,I Y 0,K C 0 0] rfl rfl bf.2 rfl Tryz.sizeStory (Fg) ?_;intro an N H)
  obtain ⟨k0,k1,P⟩:=cf3 N;exact bodyPost_ret (v:=aI Rx) bG rfl ⟨⟨1,0,[],_,rfl,.inl ⟨Q.out,rfl,rfl,rfl⟩,Own.nil _ _ _⟩,(ay).grown H (by have:=(ay).size;omega) (fun q d=>fA)⟩
end Go.Proofs.YtfkkipgcfoegmaaGreat
