
import Derived.Test.YtfkkipgcfoegmaaGreatQBos
import Derived.Maps.OwnOps
set_option maxHeartbeats 2000000
set_option maxRecDepth 100000
namespace Go.Proofs.YtfkkipgcfoegmaaGreat
open Go.Proofs.Tryz
open Go.Value renaming slice→K,bool→aF
open Option renaming none→C,some→U
open Go.Value renaming int→I
open Go.IntKind renaming i64→Y
open Go.RowKit Go.Maps
variable {J:List Tr} {P:Program} {R:List ByteArray} {b k n:Nat} {ep gv now wk:Int} {ts:List kJ} {w:World}
theorem TW {a c:List ByteArray} (f:a.length=c.length) (h:∀ j,j<a.length→a.getD j ByteArray.empty=c.getD j ByteArray.empty):a=c:=by
 refine WZ f fun j d e=>?_;have:=h j d;simpa [List.getD,List.getElem?_eq_getElem d,List.getElem?_eq_getElem e] using this
theorem Y7 {a a':Option Addr} (b o n c R W g c':Nat) (q r:List ByteArray) (h:kS w a b o n q) (l:kS w a' R W g r) :
  Calls prog 26 #[K a n c,K a' g c'] w fun e X=>kG e (q=r)∧Below w.heap.size w X:=by
 have V:=h.max;unfold maxLen at V;by_cases N:n=g
 ·subst N
  go_enter func26,ntmps26
  go_wp2;go_loopw [13] (fun i wr=>∃ k:Nat,k≤n∧i=I Y k∧(∀ j,j<k→q.getD j ByteArray.empty=r.getD j ByteArray.empty)∧Below w.heap.size w wr) (fun i _=>n - (intOf i).toNat)
  case atStart=>exact ⟨0,lG _,rfl,fun j L=>absurd L A,mD⟩
  case round =>
   obtain ⟨k,hk,rfl,P,d⟩:=hrel;by_cases M:k<n
   ·obtain rfl:=h.ad A
    obtain rfl:=l.ad A;have S:=(h.below' d).cell k M;have T:=(l.below' d).cell k M;obtain ⟨s, v⟩ := kC (q.getD k ByteArray.empty);obtain ⟨t, z⟩ := kC (r.getD k ByteArray.empty);rw [← v] at S;rw [← z] at T;have H:=hid v;have J:=hid z;clear v z;have aa:(k:Int)<(n:Int):=A;by_cases p:s=t
    ·subst p
     go_wp2;go_quiet (fail)
     go_wp2;go_roundw
     case rel =>
      refine ⟨k+1,A,aW,fun j L=>?_,below_drewN d _⟩;by_cases e:j=k
      ·subst e;rw [← H.out,← J.out]
      ·exact P j A
     case measure=>simp [intOf];omega
    ·have af:=OD p
     have Q:=hid p;clear p;go_wp2;go_quiet (fail)
     go_wp2;go_ret;refine ⟨kG.f fun u=>Q.out ?_,below_drewN d _⟩;rw [H.out,J.out,u]
   ·obtain rfl:k=n:=by omega
    go_wp2;go_ret;exact ⟨kG.t (TW (by rw [h.len,l.len]) (by rw [h.len];exact P)),d⟩
 ·have ab:((n:Int) == (g:Int))=false:=by simp;omega
  have ae:¬ ((n:Int)=(g:Int)):=A;go_enter func26,ntmps26
  go_wp2;go_ret;exact ⟨kG.f fun u=>N (by rw [← h.len,← l.len,u]),mD⟩
theorem Vw (ep g:Int) (w:World) (c:0≤ep) (d:ep≤100000) (f:0≤g) (h:g≤1000000) :
  Calls prog 70 #[I Y ep,I Y g] w fun e a=>e=.returned (I Y ((ep - 1)*1000000+g))∧a=w:=by
 go_enter func70,ntmps70
 go_wp2;go_ret;exact ⟨MG A,rfl⟩
theorem Ig (wk:Int) (up:Bool) (now sn ep gv:Int) (a1 a2 ar aj az ao:Option Addr) (n1 c1 n2 c2 N cr M cj P cs no co:Nat) (l o p:Int) (V:1≤ep) (Q:ep≤100000) (W:0≤gv) (X:gv≤1000000) (aa:0≤now) (ab:now≤1000000) :
  Calls prog 45 #[.agg #[I Y l,I Y o,I Y p],.agg #[I Y wk,aF up,I Y now,I Y sn,I Y ep,I Y gv,K a1 n1 c1,K a2 n2 c2,K ar N cr,K aj M cj,K az P cs,K ao no co]] w fun e u=>kG e (OU wk now ep gv (l,o,p))∧Below w.heap.size w u:=by
 have k:Below w.heap.size w ((w.alloc (.cells #[I Y l,I Y o,I Y p] 61)).alloc (.cells #[I Y wk,aF up,I Y now,I Y sn,I Y ep,I Y gv,K a1 n1 c1,K a2 n2 c2,K ar N cr,K aj M cj,K az P cs,K ao no co] 30)):=kQ.alloc D _;have R:(ep - 1)*1000000+1+gv - 1=(ep - 1)*1000000+gv:=A;obtain ⟨d, s⟩ := kC ((ep - 1)*1000000);have S:0≤d:=A;have T:d≤100000000000:=A;have L:∀ w:World,Calls prog 70 #[I Y ep,I Y 1] w fun e u=>e=.returned (I Y (d+1))∧u=w:=fun w=>by rw [s];exact Vw ep 1 w A Q A A
 have r:=hid s;have j:=hid L;clear s R L;cases z:inB l (d+1) (d+1+gv - 1) with
 | false =>
  have q:=hid (mO z);go_enter func45,ntmps45
  go_wp2_with (first | (go_at_call 70;refine (j.out _).mono ?_;rintro e c ⟨rfl,rfl⟩) | (go_at_call 24;refine (lY).mono ?_;rintro e c ⟨rfl,rfl⟩))
  go_ret;exact ⟨kG.f fun a=>q.out (by have g:=a.1;have v:=a.2.1;dsimp only at g v;rw [← r.out] at g v;exact ⟨g,A⟩),k⟩
 | true =>
  have q:=hid (mM z);cases H:inB o 1 wk with
  | false =>
   have h:=hid (mO H);go_enter func45,ntmps45
   go_wp2_with (first | (go_at_call 70;refine (j.out _).mono ?_;rintro e c ⟨rfl,rfl⟩) | (go_at_call 24;refine (lY).mono ?_;rintro e c ⟨rfl,rfl⟩))
   go_ret;exact ⟨kG.f fun a=>h.out ⟨a.2.2.1,a.2.2.2.1⟩,k⟩
  | true =>
   have h:=hid (mM H);cases J:inB p (now+1) (now+12) with
   | false =>
    have i:=hid (mO J);go_enter func45,ntmps45
    go_wp2_with (first | (go_at_call 70;refine (j.out _).mono ?_;rintro e c ⟨rfl,rfl⟩) | (go_at_call 24;refine (lY).mono ?_;rintro e c ⟨rfl,rfl⟩))
    go_ret;exact ⟨kG.f fun a=>i.out a.2.2.2.2,k⟩
   | true =>
    have i:=hid (mM J);go_enter func45,ntmps45
    go_wp2_with (first | (go_at_call 70;refine (j.out _).mono ?_;rintro e c ⟨rfl,rfl⟩) | (go_at_call 24;refine (lY).mono ?_;rintro e c ⟨rfl,rfl⟩))
    go_ret;exact ⟨kG.t (by have g:=q.out;exact ⟨by dsimp only;rw [← r.out];exact g.1,by dsimp only;rw [← r.out];omega,h.out.1,h.out.2,i.out.1,i.out.2⟩),k⟩
def FT (J:List Tr):Nat→Int→Nat
 | 0,_=>0
 | k+1,l=>if (t3 J k).1=l∧¬ l=0 then k else FT J k l
theorem WG {i:Nat} (hi:i<k) (c:¬ (t3 J i).1=0):i≤FT J k (t3 J i).1∧FT J k (t3 J i).1<k∧(t3 J (FT J k (t3 J i).1)).1=(t3 J i).1:=by
 induction k with
 | zero=>omega
 | succ k ih =>
  unfold FT;by_cases a:(t3 J k).1=(t3 J i).1∧¬ (t3 J i).1=0
  ·rw [if_pos a]
   exact ⟨A,A,a.1⟩
  ·rw [if_neg a]
   have f:i<k:=by
    rcases RP i k with h | h
    ·exact h
    ·obtain rfl:i=k:=by omega
     exact absurd ⟨rfl,c⟩ a
   obtain ⟨d,g,e⟩:=ih f;exact ⟨d,A,e⟩
def He (a:DataW Unit) (J:List Tr) (k:Nat):Prop:=IsMap a∧∀ l:Int,a.atKey (.int .i64 l) (.lit (.int .i64 0))=.lit (.int .i64 (FT J k l))
theorem YR (J:List Tr):He (.map []) J 0:=⟨⟨_,rfl⟩,fun _=>rfl⟩
theorem ac6 {l:Int}:WideAt.IsKeyLit (.int .i64 l):=by trivial
theorem He.put {c:DataW Unit} {a:Int} (h:He c J k) (d:(t3 J k).1=a) (f:¬ a=0):He (c.put (.int .i64 a) (.lit (.int .i64 k))) J (k+1):=by
 refine ⟨Qy c h.1,fun l=>?_⟩;unfold FT;by_cases e:l=a
 ·subst e
  rw [atKey_put_same h.1 (ac6),if_pos ⟨d,f⟩]
 ·rw [atKey_put_other (by simpa using e),h.2,if_neg (fun g=>e (by rw [← g.1,d]))]
theorem He.skip {a:DataW Unit} (h:He a J k) (d:(t3 J k).1=0):He a J (k+1):=by
 refine ⟨h.1,fun l=>?_⟩;unfold FT;rw [if_neg (fun c=>c.2 (by rw [← c.1,d]))];exact h.2 l
theorem Uw {t:TypeId} {R:Value→Option (DataW Unit × List MemPlace)} {m:Nat} {a:DataW Unit} (h:w.ownsMap P t R b n a) (hm:n≤m):w.ownsMap P t R b m a:=by
 obtain ⟨es,clock,c,d,e,f⟩:=h;exact ⟨es,clock,c,d,lH e hm,f⟩
theorem Wy:Keyed prog 3:=Maps.int_keyed underlying3
theorem VF (a:Option Addr) (b o n c:Nat) (J:List Tr) (h:qZ w a b o n J) (hn:n≤1048576) :
  Calls prog 44 #[K a n c] w fun e T=>∃ d:DataW Unit,e=.returned (.map (U w.heap.size))∧T.ownsMap prog 3 (plainElem prog 3) w.heap.size n d∧He d J n∧Below w.heap.size w T:=by
 have ak:=@run_makeMap prog;go_enter func44,ntmps44
 go_wp2;go_loopw [9] (fun i wr=>∃ k:Nat,k≤n∧i=.int .i64 k∧(∃ d:DataW Unit,wr.ownsMap prog 3 (plainElem prog 3) w.heap.size k d∧He d J k)∧Below w.heap.size w wr) (fun i _=>n - (intOf i).toNat)
 case atStart=>exact ⟨0,lG _,rfl,⟨_,World.ownsMap_made _ _ _ _,YR J⟩,kQ⟩
 case round =>
  obtain ⟨k,R,rfl,⟨d,u,t⟩,g⟩:=hrel;by_cases p:k<n
  ·obtain rfl:=h.ad A
   have L:=(h.below' g).c0 k p;have M:=(h.below' g).c1 k p;have N:=(h.below' g).c2 k p;obtain ⟨v,_,_⟩:=h.rng k p;obtain ⟨⟨f,W,X⟩,z⟩:∃ x,x=t3 J k:=⟨_,rfl⟩
   rw [← z] at L M N v;dsimp only at L M N v;have H:=hid z;clear z;have ah:(k:Int)<(n:Int):=A;obtain ⟨V, j⟩ := kC (wr.alloc (.cells #[.int .i64 f,.int .i64 W,.int .i64 X] 61));have s:Below w.heap.size w V:=by rw [j];exact g.alloc g.size _
   have q:V.ownsMap prog 3 (plainElem prog 3) w.heap.size k d:=by rw [j];exact u.alloc _
   have S:MC V wr.heap.size [.int .i64 f,.int .i64 W,.int .i64 X]:=by rw [j];exact MC.made wr _ _
   have y0:V.cell? ⟨wr.heap.size,0,C⟩=U (.int .i64 f):=S 0 D;have ai:=q.lt;clear S u;go_upto_region 5 with fail
   rw [← j];clear j;by_cases l:f=0
   ·have ag:(f == 0)=true:=by simpa using l
    have r:=hid l;clear l;go_wp2;go_roundw
    case rel=>exact ⟨k+1,A,aW,⟨d,Uw q A,t.skip (by rw [← H.out];exact r.out)⟩,s⟩
    case measure=>simp [intOf];omega
   ·have ag:(f == 0)=false:=by simpa using l
    have r:=hid l;have af:(Lit.int .i64 f).wf=true:=WalkArith.wf_i64 v;have ab:=Maps.keyOf_int_mk (P:=prog) underlying3 af;go_wp2_with (at_mapUpdate;refine wpList_mapUpdate_own _ rfl _ _ _ 86 rfl 3 3 Wy underlying86 _ w.heap.size k d rfl q G _ _ _ rfl rfl ab _ [] (plainElem_int underlying3 (WalkArith.wf_i64 A)) ?_;intro w1 ae Q)
    have aa:Below w.heap.size w w1:=s.grown Q (by have:=s.size;omega) (by intro k R;cases R;exact kL);clear Q q;go_wp2;go_roundw
    case rel=>exact ⟨k+1,A,aW,⟨_,ae,t.put (by rw [← H.out]) r.out⟩,aa⟩
    case measure=>simp [intOf];omega
  ·obtain rfl:k=n:=by omega
   go_wp2;go_ret;exact ⟨d,rfl,u,t,g⟩
def XM (ts:List kJ) (R:List ByteArray) (wk now ep gv:Int) (J:List Tr) (i:Nat) (c:Nat→Prop):Prop :=
 t3 J i=(0,0,0)∨(OU wk now ep gv (t3 J i)∧(∀ a,c a→a<J.length→¬ (t3 J a).1=(t3 J i).1)∧uw ts R i)
def oM (ts:List kJ) (R:List ByteArray) (wk now ep gv:Int) (J:List Tr):Prop:=∀ i,i<J.length→XM ts R wk now ep gv J i (fun a=>a≠i)
def OQ (ts:List kJ) (R:List ByteArray) (wk now ep gv:Int) (J:List Tr) (k:Nat):Prop:=∀ i,i<k→XM ts R wk now ep gv J i (fun a=>i<a)
def OT (ts:List kJ) (R:List ByteArray) (wk now ep gv:Int) (J:List Tr) (k:Nat):Prop:=∀ i,i<k→XM ts R wk now ep gv J i (fun a=>a<i)
theorem DZ {x:Tr} (h:OU wk now ep gv x) (he:1≤ep):¬ x.1=0:=by have:=h.1;omega
theorem OQ.all (h:OQ ts R wk now ep gv J J.length) (he:1≤ep):oM ts R wk now ep gv J:=fun i hi=>by
 rcases h i hi with f | ⟨c,g,j⟩
 ·exact .inl f
 ·refine .inr ⟨c,fun e o d a=>?_,j⟩
  rcases Nat.lt_or_gt_of_ne o with l | k
  ·rcases h e d with g0 | ⟨_,g2,_⟩
   ·rw [g0] at a;exact DZ c he a.symm
   ·exact g2 i l hi a.symm
  ·exact g e k d a
theorem OT.all (h:OT ts R wk now ep gv J J.length) (he:1≤ep):oM ts R wk now ep gv J:=fun i hi=>by
 rcases h i hi with f | ⟨c,g,j⟩
 ·exact .inl f
 ·refine .inr ⟨c,fun e o d a=>?_,j⟩
  rcases Nat.lt_or_gt_of_ne o with l | k
  ·exact g e l d a
  ·rcases h e d with g0 | ⟨_,g2,_⟩
   ·rw [g0] at a;exact DZ c he a.symm
   ·exact g2 i k hi a.symm
theorem Kv {w':World} {t:TypeId} {R:Value→Option (DataW Unit × List MemPlace)} {a:DataW Unit} (h:w.ownsMap P t R b n a) (g:w'.heap[b]?=w.heap[b]?):w'.ownsMap P t R b n a:=by
 obtain ⟨es,clock,c,d,e,f⟩:=h;exact ⟨es,clock,g.trans c,d,e,f⟩
theorem Oy {ops:Array Oper} {rest:List Oper} {o:Oper} {a:Act} {Q:Exit→Act→World→Prop} 
  (hw:Region.wanted o (yielded ops a.tmps)=true) {m x:Operand} (t:TypeId) (p:o.op=Op.lookup t m x false)
  (k e:TypeId) (q:IntKind) (g:Keyed P k) (u:P.underlying t=U (.map k e)) (he:P.underlying e=U (.int q)) (H:(zeroValue e).run P w=.ok (.int q 0) w) (b n:Nat) (d:DataW Unit)
  (hm:a.eval m=.map (U b)) (r:w.ownsMap P k (plainElem P e) b n d) {key:Value} {f:Lit} (z:a.eval x=key) (l:keyOf P k key=U f)
  (h:∀ c:Int,d.atKey f (.lit (.int q 0))=.lit (.int q c)→(Lit.int q c).wf=true→wpList P ops Q rest (a.put o.dst (.int q c)) w) :
  wpList P ops Q (o :: rest) a w:=by
 refine wpList_step fun J i=>?_;rw [if_pos hw];obtain ⟨c,s,j,v⟩:=r.lookup_int g u he H l;unfold Oper.wp;simp [execOp,p,hm,z,s,Result.andThen];exact i _ _ (h c j v)
theorem UK (wk:Int) (up:Bool) (now sn ep gv:Int) (a1 a2 ar aj az ao:Option Addr) (n1 c1 n2 c2 l cr a cj L cs no co:Nat) (M:Option Addr) (pb po pc:Nat) (ts:List kJ) (bj oj br or':Nat) (J:List Tr) (R:List ByteArray) (hJ:qZ w aj bj oj a J) (hR:kS w ar br or' l R) (hT:lN w M pb po l ts)
  (hA:nM ts l) (ck:a≤1048576) (aa:1≤ep) (an:ep≤100000) (aq:0≤gv) (au:gv≤1000000) (aw:0≤now) (ax:now≤1000000) :
  Calls prog 27 #[.agg #[.int .i64 wk,aF up,.int .i64 now,.int .i64 sn,.int .i64 ep,.int .i64 gv,K a1 n1 c1,K a2 n2 c2,K ar l cr,K aj a cj,K az L cs,K ao no co],.agg #[K M l pc]] w fun e w'=>kG e (a=l∧oM ts R wk now ep gv J)∧Below w.heap.size w w':=by
 obtain ⟨W, hW⟩ := kC ((w.alloc (.cells #[.int .i64 wk,aF up,.int .i64 now,.int .i64 sn,.int .i64 ep,.int .i64 gv,K a1 n1 c1,K a2 n2 c2,K ar l cr,K aj a cj,K az L cs,K ao no co] 30)).alloc (.cells #[K M l pc] 33));have X:Below w.heap.size w W:=jT;have bw:W.heap.size=w.heap.size+2:=dF;have g:CF W w.heap.size [.int .i64 wk,aF up,.int .i64 now,.int .i64 sn,.int .i64 ep,.int .i64 gv,K a1 n1 c1,K a2 n2 c2,K ar l cr,K aj a cj,K az L cs,K ao no co]∧CF W (w.heap.size+1) [K M l pc]:=by
  have x1:=CF.made w #[.int .i64 wk,aF up,.int .i64 now,.int .i64 sn,.int .i64 ep,.int .i64 gv,K a1 n1 c1,K a2 n2 c2,K ar l cr,K aj a cj,K az L cs,K ao no co] 30;have x3:=CF.made (w.alloc (.cells #[.int .i64 wk,aF up,.int .i64 now,.int .i64 sn,.int .i64 ep,.int .i64 gv,K a1 n1 c1,K a2 n2 c2,K ar l cr,K aj a cj,K az L cs,K ao no co] 30)) #[K M l pc] 33;rw [mJ] at x3;rw [hW];exact ⟨x1.block (kU _ _ _ D),x3⟩
 have cg:=hT.max;unfold maxLen at cg;have Q:=hid hJ.len;by_cases hn:a=l
 ·subst hn
  have z9:W.cell? ⟨w.heap.size,9,C⟩=U (K aj a cj):=(g.1 9 D).1;have zp:W.cell? ⟨w.heap.size+1,0,C⟩=U (K M a pc):=(g.2 0 D).1;go_enter func27,ntmps27
  go_upto_region 1 with fail
  rw [← hW];clear hW;go_wp2_with fail
  refine (VF aj bj oj a cj J (hJ.below' X) ck).mono ?_;rintro e w1 ⟨af,rfl,ab,bs,s⟩;rw [bw] at ab;rw [bw];have cq:=kV s z9;have ca:=hid bs;clear bs z9 zp;go_wp2;go_loopw [21] (fun i wr=>∃ k:Nat,k≤a∧i=.int .i64 k∧OQ ts R wk now ep gv J k∧wr.ownsMap prog 3 (plainElem prog 3) (w.heap.size+2) a af∧Below W.heap.size W wr) (fun i _=>a - (intOf i).toNat)
  case atStart=>exact ⟨0,lG _,rfl,fun j hj=>absurd hj A,ab,s⟩
  case round =>
   clear ab s cq;obtain ⟨k,hk,rfl,ay,ab,hb⟩:=hrel;have hB:=X.trans (hb.mono A);by_cases u:k<a
   ·obtain rfl:=hJ.ad A
    have bl:=(hJ.below' hB).c0 k u;have bm:=(hJ.below' hB).c1 k u;have bn:=(hJ.below' hB).c2 k u;obtain ⟨a8,_,_⟩:=hJ.rng k u;obtain ⟨⟨N,x1,x2⟩,hx⟩:∃ x,x=t3 J k:=⟨_,rfl⟩
    rw [← hx] at bl bm bn a8;dsimp only at bl bm bn a8;have o:=hid hx;clear hx;have cy:(k:Int)<(a:Int):=A;obtain ⟨V, hV⟩ := kC (wr.alloc (.cells #[.int .i64 N,.int .i64 x1,.int .i64 x2] 61));have cd:Below wr.heap.size wr V:=by rw [hV];exact kQ
    have c:Below W.heap.size W V:=hb.trans (cd.mono hb.size);have cv:=X.trans (c.mono A);have a7:V.ownsMap prog 3 (plainElem prog 3) (w.heap.size+2) a af:=by rw [hV];exact ab.alloc _
    have bu:MC V wr.heap.size [.int .i64 N,.int .i64 x1,.int .i64 x2]:=by rw [hV];exact MC.made wr _ _
    have cx:wr.heap.size<V.heap.size:=by rw [hV];simp
    obtain ⟨y0,y1,y2⟩:=YQ bu;clear bu ab;go_upto_region 7 with fail
    rw [← hV];clear hV;by_cases hz:N=0∧x1=0∧x2=0
    ·obtain ⟨rfl,rfl,rfl⟩:=hz
     go_wp2;go_roundw
     case rel =>
      refine ⟨k+1,A,aW,fun j hj=>?_,a7,c⟩;by_cases e:j=k
      ·subst e;exact .inl o.out.symm
      ·exact ay j A
     case measure=>simp [intOf];omega
    ·have HZ:=hid hz
     have b0:V.cell? ⟨w.heap.size,0,C⟩=U (.int .i64 wk):=kV c (g.1 0 D).1;have b1:V.cell? ⟨w.heap.size,1,C⟩=U (aF up):=kV c (g.1 1 D).1;have b2:V.cell? ⟨w.heap.size,2,C⟩=U (.int .i64 now):=kV c (g.1 2 D).1;have b3:V.cell? ⟨w.heap.size,3,C⟩=U (.int .i64 sn):=kV c (g.1 3 D).1;have b4:V.cell? ⟨w.heap.size,4,C⟩=U (.int .i64 ep):=kV c (g.1 4 D).1;have b5:V.cell? ⟨w.heap.size,5,C⟩=U (.int .i64 gv):=kV c (g.1 5 D).1;have b6:V.cell? ⟨w.heap.size,6,C⟩=U (K a1 n1 c1):=kV c (g.1 6 D).1;have b7:V.cell? ⟨w.heap.size,7,C⟩=U (K a2 n2 c2):=kV c (g.1 7 D).1;have b8:V.cell? ⟨w.heap.size,8,C⟩=U (K ar a cr):=kV c (g.1 8 D).1;have b9:V.cell? ⟨w.heap.size,9,C⟩=U (K (U ⟨bj,oj,C⟩) a cj):=kV c (g.1 9 D).1;have ai:V.cell? ⟨w.heap.size,10,C⟩=U (K az L cs):=kV c (g.1 10 D).1;have ak:V.cell? ⟨w.heap.size,11,C⟩=U (K ao no co):=kV c (g.1 11 D).1;have bp:V.cell? ⟨w.heap.size+1,0,C⟩=U (K M a pc):=kV c (g.2 0 D).1;by_cases bc:N=0
     ·subst bc
      by_cases cp:x1=0
      ·subst cp
       have c5:¬ x2=0:=fun h=>hz ⟨rfl,rfl,h⟩;clear hz;go_wp2_with fail
       refine (Ig wk up now sn ep gv a1 a2 ar (U ⟨bj,oj,C⟩) az ao n1 c1 n2 c2 a cr a cj L cs no co 0 0 x2 aa an aq au aw ax).mono ?_;rintro e z ⟨⟨r,rfl,q⟩,s⟩;have H:Below W.heap.size W z:=c.trans (s.mono c.size);have T:=X.trans (H.mono A);clear b0 b1 b2 b3 b4 b5 b6 b7 b8 b9 ai ak bp;cases r with
       | false =>
        have v:=hid (show ¬ oM ts R wk now ep gv J from fun d=>by
         rcases d k jw with p | ⟨S,_⟩
         ·exact HZ.out eY
         ·rw [← o.out] at S;have:=q.2 S;cases this)
        clear q;go_wp2;go_ret;exact ⟨kG.f fun d=>v.out d.2,T⟩
       | true =>
        exact absurd rfl (DZ (q.1 rfl) aa)
      ·clear hz
       go_wp2_with fail
       refine (Ig wk up now sn ep gv a1 a2 ar (U ⟨bj,oj,C⟩) az ao n1 c1 n2 c2 a cr a cj L cs no co 0 x1 x2 aa an aq au aw ax).mono ?_;rintro e z ⟨⟨r,rfl,q⟩,s⟩;have H:Below W.heap.size W z:=c.trans (s.mono c.size);have T:=X.trans (H.mono A);clear b0 b1 b2 b3 b4 b5 b6 b7 b8 b9 ai ak bp;cases r with
       | false =>
        have v:=hid (show ¬ oM ts R wk now ep gv J from fun d=>by
         rcases d k jw with p | ⟨S,_⟩
         ·exact HZ.out eY
         ·rw [← o.out] at S;have:=q.2 S;cases this)
        clear q;go_wp2;go_ret;exact ⟨kG.f fun d=>v.out d.2,T⟩
       | true =>
        exact absurd rfl (DZ (q.1 rfl) aa)
     ·clear hz
      have hz:=bc;clear bc;go_wp2_with fail
      refine (Ig wk up now sn ep gv a1 a2 ar (U ⟨bj,oj,C⟩) az ao n1 c1 n2 c2 a cr a cj L cs no co N x1 x2 aa an aq au aw ax).mono ?_;rintro e z ⟨⟨r,rfl,q⟩,s⟩;have H:Below W.heap.size W z:=c.trans (s.mono c.size);have T:=X.trans (H.mono A);clear b0 b1 b2 b3 b4 b5 b6 b7 b8 b9 ai ak bp;cases r with
      | false =>
       have v:=hid (show ¬ oM ts R wk now ep gv J from fun d=>by
        rcases d k jw with p | ⟨S,_⟩
        ·exact HZ.out eY
        ·rw [← o.out] at S;have:=q.2 S;cases this)
       clear q;go_wp2;go_ret;exact ⟨kG.f fun d=>v.out d.2,T⟩
      | true =>
       have bf:=hid (q.1 rfl);clear q;have c6:z.cell? ⟨wr.heap.size,0,C⟩=U (.int .i64 N):=kV s y0;have cu:z.cell? ⟨w.heap.size+1,0,C⟩=U (K M a pc):=kV H (g.2 0 D).1;have ct:z.cell? ⟨w.heap.size,8,C⟩=U (K ar a cr):=kV H (g.1 8 D).1;have ch:=a7.lt;have a6:z.ownsMap prog 3 (plainElem prog 3) (w.heap.size+2) a af:=Kv a7 (s.block _ ch);have cf:=Maps.keyOf_int_mk (P:=prog) underlying3 (WalkArith.wf_i64 a8);have ba:=hR.below' T;have bb:=hT.below' T;go_wp2_with (at_lookup;refine Oy rfl 86 rfl 3 3 .i64 Wy underlying86 underlying3 (WX) (w.heap.size+2) a af rfl a6 rfl cf ?_;intro cl al cn;have bo:cl=(FT J a N:Int):=(by have h9:=(ca.out).2 N;rw [h9] at al;simpa using al.symm);clear al cn;obtain ⟨li, av⟩ := kC (FT J a N);rw [← av] at bo;have bg:=hid av;clear av;subst bo;have ae:=WG (J:=J) (k:=a) (i:=k) u (by rw [← o.out];exact hz);rw [← o.out] at ae;dsimp only at ae;rw [← bg.out] at ae;have bd:=hid ae;clear ae)
       ·have ag:li=k:=by omega
        have cb:=hid ag;clear ag;refine (Qz M pb po a pc ts br or' cr R k _ bb ba u hA).mono ?_;rintro e V2 ⟨⟨r2,rfl,ah⟩,bh⟩;have bk:Below W.heap.size W V2:=H.trans (bh.mono H.size);have cc:=X.trans (bk.mono A);have cm:=Kv a6 (bh.block _ a6.lt);cases r2 with
        | false =>
         have v:=hid (show ¬ oM ts R wk now ep gv J from fun d=>by
          rcases d k jw with p | ⟨_,_,h3⟩
          ·exact HZ.out eY
          ·have:=ah.2 h3;cases this)
         clear ah ba bb;go_wp2;go_ret;exact ⟨kG.f fun d=>v.out d.2,cc⟩
        | true =>
         have bz:=hid (ah.1 rfl);clear ah ba bb;go_wp2;go_roundw
         case rel =>
          refine ⟨k+1,A,aW,fun j hj=>?_,cm,bk⟩;by_cases e:j=k
          ·subst e
           refine .inr ⟨by rw [← o.out];exact bf.out,fun i' cw bq he=>?_,bz.out⟩;have h9:=WG (J:=J) (k:=a) (i:=i') (by rw [Q.out] at bq;exact bq) (by rw [he,← o.out];exact DZ bf.out aa);rw [he,← o.out] at h9;dsimp only at h9;rw [← bg.out,cb.out] at h9;omega
          ·exact ay j A
         case measure=>simp [intOf];omega
       ·have ag:¬ li=k:=by omega
        have v:=hid (show ¬ oM ts R wk now ep gv J from fun d=>by
         rcases d k jw with p | ⟨_,h2,_⟩
         ·exact HZ.out eY
         ·exact h2 li ag (by rw [Q.out];exact bd.out.2.1) (by rw [← o.out];exact bd.out.2.2))
        go_ret;exact ⟨kG.f fun d=>v.out d.2,T⟩
   ·obtain rfl:k=a:=by omega
    go_wp2;go_ret;exact ⟨kG.t ⟨trivial,OQ.all (by rw [Q.out];exact ay) aa⟩,hB⟩
 ·have cz:((a:Int) == (l:Int))=false:=by simp;omega
  have c4:¬ ((a:Int)=(l:Int)):=A;go_enter func27,ntmps27
  go_wp2;go_ret;exact ⟨kG.f fun d=>hn d.1,by rw [← hW];exact X⟩
end Go.Proofs.YtfkkipgcfoegmaaGreat
