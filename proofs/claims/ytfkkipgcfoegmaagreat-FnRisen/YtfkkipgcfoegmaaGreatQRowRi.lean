
import Derived.Test.YtfkkipgcfoegmaaGreatQL5e
import Derived.Test.YtfkkipgcfoegmaaGreatQL5s
import Derived.ProofKit
import Derived.OpenShut
import Derived.ShutString
import Derived.ChangeOld
import Derived.SliceStrings
import Derived.ChangeSlices
set_option maxHeartbeats 16000000
set_option maxRecDepth 100000
namespace Go.Proofs.YtfkkipgcfoegmaaGreat
open Go.Proofs.Tryz
open Go.Value renaming slice→K,string→E,bool→aF,pointer→aG,agg→aI
open Option renaming none→C,some→U
open Go.Operand renaming tmp→F
open Go.Obj renaming cells→aH
open Bool renaming false→aK,true→aN
open Go.Ending renaming returned→aO
open Go.Value renaming int→I
open Go.IntKind renaming i64→Y
open Go.ChangeShapes Go.WideShapes Go.ChangeAt Go.RowKit
open Go.ChangeMaps (open_string shut_string)
open Go.RowKit
variable {B Q Wb g k n:Nat} {L R:List ByteArray} {W W' We w:World} {a:Option Addr} {cs:List Value} {d d':BD} {h:BH} {keep:Int} {ob:Obj} {st':St} {ts:List kJ} {v:Value}
theorem Tryz.own:ownKnob prog.godebug=C:=Z
theorem Tryz.laidOut:laidOutB prog=aN:=Z
theorem Vb {s c:World} {p:Value} {vs:List Value} (rd:RD W g k) (u:We.grownBy W (U g)) (t:lg W We.heap.size d h) (pl:lF W We.heap.size p ts vs) (f:d.fits) (y:d.small) (hw:w.grownBy We (U g)) (Q:We.heap.size=w.heap.size+2) (L:g<w.heap.size) (j:W.grownBy s (U w.heap.size)) (l:s.grownBy c (U (w.heap.size+1))) (v:IX ts) (J:ts.length+qF ts≤1048576):TI (aO (.tuple #[aI (bvs d h).toArray,aI #[p]])) w.heap.size c∧RD c g k∧w.grownBy c (U g):=by
 have P:=j.size;have o:∀ q,q<W.heap.size→q≠w.heap.size→q≠w.heap.size+1→c.heap[q]?=W.heap[q]?:=fun q a1 a2 a3=>(l.block q A (fun e=>O)).trans (j.block q a1 (fun e=>O));have i:=grownBy_trans hw u;have M:=i.size;have N:=rd.lt;refine ⟨⟨d,h,p,ts,vs,rfl,(t.blk (fun r H q a=>?_)).mono A,(pl.kp (fun q a=>?_)).mono A,f,y,v,J⟩,rd.keep (fun q a=>o q A A A),⟨l.os.trans (j.os.trans i.os),l.tape.trans (j.tape.trans i.tape),l.output.trans (j.output.trans i.output),by have:=l.size;omega,fun q a z=>(o q A A A).trans (i.block q a z)⟩⟩
 ·have:=t.lo r H q a;exact o q this.2 A A
 ·have:=pl.lt a;exact o q this.2 A A
structure Vo (We:World) (g k Wb:Nat) (d:nI) (h:oO) (W:World):Prop where
 rd:RD W g k
 gr:We.grownBy W (U g)
 c:CF W Wb (mg d h)
 s:qx W We.heap.size d h
 g':Ah d
 p:g<We.heap.size∧We.heap.size≤Wb∧Wb<W.heap.size
theorem Vo.below {d:nI} {h:oO} (x:Vo We g k Wb d h W) (a:Below W.heap.size W W'):Vo We g k Wb d h W' :=
 have e:=x.p
 ⟨x.rd.below a,grownBy_trans x.gr (grownBy_below a),x.c.block (a.block _ e.2.2),x.s.below a,x.g',⟨e.1,e.2.1,lu e.2.2 a.size⟩⟩
theorem Vo.pick {k':Nat} {d:nI} {h:oO} (x:Vo We g k Wb d h W) (o:RD W' g k') (f:W.grownBy W' (U g)):Vo We g k' Wb d h W' :=
 have a:=x.p;have i:∀ q,We.heap.size≤q→q<W.heap.size→W'.heap[q]?=W.heap[q]?:=fun q r l=>f.block q l (fun e=>O)
 ⟨o,grownBy_trans x.gr f,x.c.block (i _ a.2.1 a.2.2),x.s.keep (fun q j=>i q (x.s.lt j).1 (x.s.lt j).2),x.g',⟨a.1,a.2.1,lu a.2.2 f.size⟩⟩
def RBx (W:World) (g k:Nat) (v:Value) (w':World):Prop:=(∃ d h,v=aI (bvs d h).toArray∧lg w' W.heap.size d h∧d.fits∧d.small)∧RD w' g k∧W.grownBy w' (U g)
theorem adU (t:RD W g k) (s:k≤800000) (p:rU W d h) (q:d.fits) (u:d.tiny):Calls prog 39 #[aG (U ⟨g,0,C⟩),aI (bvs d h).toArray] W fun e a=>∃ v,e=aO v∧RBx W g (k+20) v a :=
 (Vy g k d h W t s p q u).mono fun e a r=>by
  obtain ⟨⟨d',c,rfl,f,i,j⟩,l,o⟩:=r;exact ⟨_,rfl,⟨d',c,rfl,f,i,j⟩,l,o⟩
theorem aaO (v1 v2:Value) (w:World):Sem.run prog (callFunc 39 #[v1,v2]) w=.ok (.enter 39 #[v1,v2]) w:=Z
theorem YS (g k:Nat) (hr:RD w g k) (hk:k≤600000) :
  Calls prog 16 #[aG (U ⟨g,0,C⟩)] w fun e w'=>TI e w.heap.size w'∧RD w' g (k+30000)∧w.grownBy w' (U g):=by
 have a7:=hr.lt;obtain ⟨We, ae⟩ := kC ((w.alloc (aH ni 30)).alloc (aH #[K C 0 0] 33));have b0:Below w.heap.size w We:=by rw [ae];exact kQ.alloc D _
 have A0:CF We w.heap.size oK:=by rw [ae];exact (CF.made w oK.toArray 30).block (kU _ _ _ D)
 have P0:CF We (w.heap.size+1) [kH]:=by
  rw [ae];have:=CF.made (w.alloc (aH ni 30)) #[kH] 33;rw [mJ] at this;exact this
 have z0:We.heap.size=w.heap.size+2:=by rw [ae];simp
 have bf:RD We g k:=hr.below b0;have HW:=hid ae;have o:=hid (And.intro (grownBy_below b0 (r:=U g)) (And.intro a7 z0));have KA:∀ V:World,We.grownBy V (U g)→CF V w.heap.size oK∧CF V (w.heap.size+1) [kH]:=fun V hg=>⟨A0.block (hg.block _ A (fun e=>O)),P0.block (hg.block _ A (fun e=>O))⟩
 have aq:=hid KA;clear ae A0 P0 hr b0 KA z0 a7;go_enter func16,ntmps16
 go_wp2_with fail
 rw [← HW.out];clear HW;refine (pick_any g 8 k _ bf A A A).mono ?_;rintro e1 w1 ⟨⟨r1,bs,rfl⟩,af,g1⟩;clear bf;by_cases h0:r1=0
 ·subst h0
  go_wp2_with fail
  refine (XH g (k+1) af A).mono ?_;rintro e2 M ⟨⟨d,h,vP,ts,vs,rfl,bo,pl,hf,hy,ay,a8⟩,al,g2⟩;obtain ⟨pa,bc,rfl⟩:=pl.row.slc;have Q:=grownBy_trans g1 g2;obtain ⟨A2,H⟩:=aq.out _ Q;have ak:=g1.size;have HF:=hid (And.intro hf (And.intro hy (And.intro ay a8)));clear hf hy ay a8 g1 g2 af;go_wp2_with (first | (refine jY rfl 30 (F 2) (F 10) rfl w.heap.size oK (bvs d h) rfl rfl A2 rfl Tryz.sizeBo (nC _ _) ?_;intro w3 an z;have B3:=H.block (z.block _ (by have:=Q.size;have:=o.out;omega) (fun e=>O))) | (refine jY rfl 33 (F 3) (F 11) rfl (w.heap.size+1) [kH] [K pa ts.length bc] rfl rfl B3 rfl Gg aZ ?_;intro w4 bl a6))
  have t:=Vb al Q (bo.mono ak) (pl.mono ak) HF.out.1 HF.out.2.1 o.out.1 o.out.2.2 o.out.2.1 z a6 HF.out.2.2.1 HF.out.2.2.2;have bw:=z.size;have T:=an.block (a6.block _ (by have:=Q.size;have:=o.out;omega) (fun e=>O));exact bodyPost_ret (qK 2 3 results16 rfl rfl T rfl (bl 0 D).1) rfl ⟨t.1,t.2.1.mono A,t.2.2⟩
 ·have bp:¬ (r1:Int)=0:=by omega
  go_wp2_with fail
  refine (Kw g (k+1) af A).mono ?_;rintro e2 M ⟨⟨a,hw,rfl,s2,g2,bn⟩,al,Q⟩;clear bn af;have C1:CF (M.alloc (aH kX.toArray 75)) M.heap.size kX:=CF.made M kX.toArray _;simp only [kX] at C1;have ab:=grownBy_trans g1 Q;have ak:=g1.size;clear g1 Q;go_upto_region 4 with (refine jY rfl 75 (F 4) (F 13) rfl M.heap.size kX _ rfl rfl C1 rfl Tryz.sizeWo (mW s2) ?_;intro w3 an z)
  have bb:=z.size;simp at bb;have k3:∀ q,q<M.heap.size→w3.heap[q]?=M.heap[q]?:=fun q j=>(z.block q aQ (fun e=>O)).trans (kU _ _ _ j);obtain ⟨Wb, au⟩ := kC M.heap.size;obtain ⟨pa,bc,ba⟩:=s2.pl.row.slc;have x3:Vo We g (k+1+6000) Wb a hw w3:=by
   have br:=al.lt;have hs:=ab.size;rw [au];exact ⟨al.keep (fun q j=>k3 q A),⟨z.os.trans ab.os,z.tape.trans ab.tape,z.output.trans ab.output,A,fun q j bm=>(k3 q A).trans (ab.block q j bm)⟩,an,(s2.keep (fun q j=>k3 q (s2.lt j).2)).mono ak,g2,⟨by have:=o.out;omega,A,A⟩⟩
  rw [← au];clear au C1 an z bb k3 s2 g2 al ab ak;go_wp2_with fail
  refine (pick_any g 7 (k+1+6000) _ x3.rd A A A).mono ?_;rintro e4 w4 ⟨⟨r4,bu,rfl⟩,bg,g4⟩;have x:=x3.pick bg g4;clear x3 bg g4;by_cases h4:r4=0
  ·subst h4
   go_upto_region 5 with fail
   refine wp_region_held (S:=fun w'=>CF w' Wb (mg a hw)) Z ?_;change wpAnyH _ _ _ _ _ _ _ _ (World.drew _);obtain ⟨v0, X⟩ := kC w4.drew;have l:=x.below (show Below w4.heap.size w4 v0 by rw [X];exact mD.drew);rw [← X];clear X x;have u:=l.c;refine jZ (i:=0) (d:=U 17) (v:=aG (U ⟨g,0,C⟩)) (l':=bt 8 1) rfl (fun _ _=>Z) u ?_;refine jZ (i:=1) (d:=U 18) (v:=aG (U ⟨Wb,2,C⟩)) (l':=bt 8 3) rfl (fun _ _=>Z) u ?_;refine jZ (i:=2) (d:=U 19) (v:=aI (bvs a.bd hw.bh).toArray) (l':=bt 8 7) rfl (fun _ W=>Dl 30 (bvs a.bd hw.bh) (F 18) Z Z (W.range [hw.vP,E a.key] (bvs a.bd hw.bh) [hw.vW,hw.vF,E a.fg]) underlying30 rfl Tryz.sizeBo) u ?_;refine jZ (i:=4) (d:=U 21) (v:=aG (U ⟨Wb,0,C⟩)) (l':=bt 8 23) rfl (fun _ _=>Z) u ?_;refine jZ (i:=5) (d:=U 22) (v:=aI #[hw.vP]) (l':=bt 8 55) rfl (fun _ W=>pK (F 21) Z Z (by have:=(W 0 aU).1;exact this)) u ?_;refine kF Z (kZ (i:=3) (d:=U 20) (f:=39) (args:=#[aG (U ⟨g,0,C⟩),aI (bvs a.bd hw.bh).toArray]) (l':=bt 8 63) (R:=RBx v0 g (k+1+6000+1+20)) rfl Z Z Z (lT _ _ _ rfl Z Z rfl aaO) (adU l.rd A (l.s.bo.m l.g'.fb) l.g'.fb l.g'.sb) ?_);rintro u1 v1 ⟨⟨d1,L,rfl,bj,f1,y1⟩,af,bk⟩;have J:=l.pick af bk;refine ⟨J.c,?_⟩;obtain ⟨N,B1⟩:=aq.out _ J.gr;have ah:=J.p;have av:=o.out;have g1:v1.grownBy (v1.setCells w.heap.size 0 (bvs d1 L)) (U w.heap.size):=gsc;have g2:(v1.setCells w.heap.size 0 (bvs d1 L)).grownBy ((v1.setCells w.heap.size 0 (bvs d1 L)).setCells (w.heap.size+1) 0 [hw.vP]) (U (w.heap.size+1)):=gsc;have ax:=g1.size;have H:=B1.block (g1.block _ A (fun e=>O));have P:=J.c.block (g1.block _ ah.2.2 (fun e=>O));have S2:=P.block (g2.block _ A (fun e=>O));have t:=Vb J.rd J.gr (bj.mono (by have:=l.p;have:=l.gr.size;omega)) J.s.pl f1 y1 o.out.1 o.out.2.2 o.out.2.1 g1 g2 J.g'.ft J.g'.tz;have T:=(N.stored (vs:=bvs d1 L) rfl).block (g2.block _ A (fun e=>O));have ag:=((H.stored (vs:=[hw.vP]) rfl) 0 D).1;have aw:∀ v∈[hw.vP],v.oneCell'=aN:=by intro v hv;obtain rfl:=List.mem_singleton.1 hv;rw [ba];rfl
   generalize j:Act.put _ _ _=aa;refine qc (i:=6) (w':=v1.setCells w.heap.size 0 (bvs d1 L)) (l':=bt 8 127) Z rfl Z dA Z (lM 30 oK (bvs d1 L) (F 2) (F 20) Z dA dA N rfl Tryz.sizeBo (nC _ _)) P ?_;refine qc (i:=7) (w':=(v1.setCells w.heap.size 0 (bvs d1 L)).setCells (w.heap.size+1) 0 [hw.vP]) (l':=bt 8 255) Z rfl Z dA Z (lM 33 [kH] [hw.vP] (F 3) (F 22) Z dA dA H rfl Gg aw) S2 ?_;subst j;refine wpAnyH_done Z ?_ _;obtain ⟨vz, ai⟩ := kC ((v1.setCells w.heap.size 0 (bvs d1 L)).setCells (w.heap.size+1) 0 [hw.vP]);rw [← ai] at t T ag ⊢;clear ai P S2 g1 g2 ax N B1 H ah av;go_simp;go_wp2;exact bodyPost_ret (qK 2 3 results16 rfl rfl T rfl ag) rfl ⟨t.1,t.2.1.mono A,t.2.2⟩
  ·have bq:¬ (r4:Int)=0:=by omega
   go_upto_region 6 with fail
   refine wp_region_held (S:=fun w'=>CF w' Wb (mg a hw)) Z ?_;change wpAnyH _ _ _ _ _ _ _ _ (World.drew _);obtain ⟨v0, X⟩ := kC w4.drew;have l:=x.below (show Below w4.heap.size w4 v0 by rw [X];exact mD.drew);rw [← X];clear X x;have u:=l.c;refine jZ (i:=0) (d:=U 23) (v:=aG (U ⟨Wb,2,C⟩)) (l':=bt 6 1) rfl (fun _ _=>Z) u ?_;refine jZ (i:=1) (d:=U 24) (v:=aI (bvs a.bd hw.bh).toArray) (l':=bt 6 3) rfl (fun _ W=>Dl 30 (bvs a.bd hw.bh) (F 23) Z Z (W.range [hw.vP,E a.key] (bvs a.bd hw.bh) [hw.vW,hw.vF,E a.fg]) underlying30 rfl Tryz.sizeBo) u ?_;refine jZ (i:=2) (d:=U 25) (v:=aG (U ⟨Wb,0,C⟩)) (l':=bt 6 7) rfl (fun _ _=>Z) u ?_;refine jZ (i:=3) (d:=U 26) (v:=aI #[hw.vP]) (l':=bt 6 15) rfl (fun _ W=>pK (F 25) Z Z (by have:=(W 0 aU).1;exact this)) u ?_;obtain ⟨N,B1⟩:=aq.out _ l.gr;have ah:=l.p;have av:=o.out;have g1:v0.grownBy (v0.setCells w.heap.size 0 (bvs a.bd hw.bh)) (U w.heap.size):=gsc;have g2:(v0.setCells w.heap.size 0 (bvs a.bd hw.bh)).grownBy ((v0.setCells w.heap.size 0 (bvs a.bd hw.bh)).setCells (w.heap.size+1) 0 [hw.vP]) (U (w.heap.size+1)):=gsc;have ax:=g1.size;have H:=B1.block (g1.block _ A (fun e=>O));have P:=l.c.block (g1.block _ ah.2.2 (fun e=>O));have S2:=P.block (g2.block _ A (fun e=>O));have t:=Vb l.rd l.gr l.s.bo l.s.pl l.g'.fb l.g'.sb.small o.out.1 o.out.2.2 o.out.2.1 g1 g2 l.g'.ft l.g'.tz;have T:=(N.stored (vs:=bvs a.bd hw.bh) rfl).block (g2.block _ A (fun e=>O));have ag:=((H.stored (vs:=[hw.vP]) rfl) 0 D).1;have aw:∀ v∈[hw.vP],v.oneCell'=aN:=by intro v hv;obtain rfl:=List.mem_singleton.1 hv;rw [ba];rfl
   generalize j:Act.put _ _ _=aa;refine qc (i:=4) (w':=v0.setCells w.heap.size 0 (bvs a.bd hw.bh)) (l':=bt 6 31) Z rfl Z dA Z (lM 30 oK (bvs a.bd hw.bh) (F 2) (F 24) Z dA dA N rfl Tryz.sizeBo (nC _ _)) P ?_;refine qc (i:=5) (w':=(v0.setCells w.heap.size 0 (bvs a.bd hw.bh)).setCells (w.heap.size+1) 0 [hw.vP]) (l':=bt 6 63) Z rfl Z dA Z (lM 33 [kH] [hw.vP] (F 3) (F 26) Z dA dA H rfl Gg aw) S2 ?_;subst j;refine wpAnyH_done Z ?_ _;obtain ⟨vz, ai⟩ := kC ((v0.setCells w.heap.size 0 (bvs a.bd hw.bh)).setCells (w.heap.size+1) 0 [hw.vP]);rw [← ai] at t T ag ⊢;clear ai P S2 g1 g2 ax N B1 H ah av;go_simp;go_wp2;exact bodyPost_ret (qK 2 3 results16 rfl rfl T rfl ag) rfl ⟨t.1,t.2.1.mono A,t.2.2⟩
section
def abv (e:Ending) (B:Nat) (w':World):Prop:=∃ d h a ts c,∃ keep:Int,e=aO (.tuple #[aI (bvs d h).toArray,aI #[a],I Y keep])∧lg w' B d h∧lF w' B a ts c∧d.fits∧d.small∧IX ts∧ts.length+qF ts≤1048576
theorem Xw {fn:Func} {tmps:Array Value} {p q:Nat} {u:Value} (s s2 d:Nat) (o:fn.results=#[.cell s 30,.cell s2 33,.tmp d]) (r:tmps.getD s undef=aG (U ⟨p,0,C⟩)) (z:tmps.getD s2 undef=aG (U ⟨q,0,C⟩)) (J:tmps.getD d undef=u) (f:CF w p cs) (g:cs.length=12) (a:w.cell? ⟨q,0,C⟩=U v):(results fn tmps).run prog w=.ok (.tuple #[aI cs.toArray,aI #[v],u]) w:=by
 have k:w.rangeAt p 0 cs:=fun j v a=>by
  rw [ny,(f j (List.getElem?_eq_some_iff.1 a).1).1];exact a
 have h:=run_loadVar_mid (P:=prog) w p 0 30 cs _ k underlying30 rfl (by rw [g];exact Tryz.sizeBo);have l:w.rangeAt q 0 [v]:=fun j M c=>by
  match j,c with
  | 0,c=>injection c with e;rw [← e];exact a
 have i:=run_loadVar_mid (P:=prog) w q 0 33 [v] _ l underlying33 rfl Z;have t:tmps[s]?.getD undef=aG (U ⟨p,0,C⟩):=by rw [← r];simp
 have H:tmps[s2]?.getD undef=aG (U ⟨q,0,C⟩):=by rw [← z];simp
 have L:tmps[d]?.getD undef=u:=by rw [← J];simp
 unfold results;rw [o];simp [t,H,L,asAddr,h,i]
section
variable {ρ:Operand→Value} {o:Oper} {w:World}
theorem acL (x:Operand) (r:Nat) (d:r≤1000) (h:o.op=.binOp .sub 3 x (.const (I Y 1)) 3) (c:ρ x=I Y (r:Nat)) (a:ρ (.const (I Y 1))=I Y 1):(execOp ρ o).run prog w=.ok (.value (I Y ((r:Int) - 1))) w:=by
 have:IntKind.i64.wrap ((r:Int) - 1)=(r:Int) - 1:=bF;unfold execOp;rw [h];simp [go_sem,c,a,this]
theorem ZW (x:Operand) (h:o.op=.assign x) (a:ρ x=v):(execOp ρ o).run prog w=.ok (.value v) w:=by
 unfold execOp;rw [h];simp [go_sem,a]
end
theorem NZ (a:Option Addr) (b o n c:Nat) (h:BytesAt w a b o n) (hb:0<n→b<w.heap.size) (hc:n≤c) (hn:n≤1048576) :
  Calls prog 4 #[K a n c] w fun e w'=>abv e w.heap.size w'∧Below w.heap.size w w':=by
 obtain ⟨We, N⟩ := kC ((w.alloc (aH ni 30)).alloc (aH #[K C 0 0] 33));have b0:Below w.heap.size w We:=by rw [N];exact kQ.alloc D _
 have V:CF We w.heap.size oK:=by rw [N];exact (CF.made w oK.toArray 30).block (kU _ _ _ D)
 have W:CF We (w.heap.size+1) [kH]:=by
  rw [N];have:=CF.made (w.alloc (aH ni 30)) #[kH] 33;rw [mJ] at this;exact this
 have z0:We.heap.size=w.heap.size+2:=by rw [N];simp
 have hB:BytesAt We a b o n:=⟨h.1,fun j hj=>by
  obtain ⟨v,hv,bk⟩:=h.2 j hj;exact ⟨v,hv,(mV (w:=w) (a:=⟨b,o+j,C⟩) (b0.block _ (hb A))).trans bk⟩⟩
 have HW:=hid N;have ak:=hid z0;have aq:=hid (And.intro V W);have au:=hid hb;clear N h V W;go_enter func4,ntmps4
 go_wp2_with fail
 rw [← HW.out];clear HW;refine (XK a b o n c hB (fun h=>by have:=au.out h;omega) hc hn).mono ?_;rintro e1 Q ⟨rfl,P,b1⟩;have s1:=b1.size;have M:=P.lt;obtain ⟨g, H⟩ := kC We.heap.size;rw [← H] at P M ⊢;have HN:=hid (And.intro H (And.intro s1 M));clear H s1 M z0 hb hB;go_wp2_with fail
 refine (YS g 0 P A).mono ?_;rintro e2 l ⟨⟨d,h,vP,ts,vs,rfl,bo,pl,hf,hy,ba,bc⟩,bh,g2⟩;obtain ⟨p,s,rfl⟩:=pl.row.slc;have s2:=g2.size;have z0:=ak.out;obtain ⟨H,s1,M⟩:=HN.out;have b2:Below We.heap.size We l:=b1.grown g2 A (fun q e=>O);have C2:CF ((l.alloc (aH ni 30)).alloc (aH #[K C 0 0] 33)) l.heap.size oK:=(CF.made l oK.toArray 30).block (kU _ _ _ D);have D2:CF ((l.alloc (aH ni 30)).alloc (aH #[K C 0 0] 33)) (l.heap.size+1) [kH]:=by
  have:=CF.made (l.alloc (aH ni 30)) #[kH] 33;rw [mJ] at this;exact this
 have bA:Below l.heap.size l ((l.alloc (aH ni 30)).alloc (aH #[K C 0 0] 33)):=kQ.alloc D _;have T:((l.alloc (aH ni 30)).alloc (aH #[K C 0 0] 33)).heap.size=l.heap.size+2:=D;have HF:=hid (And.intro hf (And.intro hy (And.intro ba bc)));have ai:=hid (And.intro T s2);clear hf hy ba bc P T s2 z0 H s1 M;go_upto_region 3 with (first | (refine jY rfl 30 (F 6) (F 13) rfl l.heap.size oK (bvs d h) rfl rfl C2 rfl Tryz.sizeBo (nC _ _) ?_;intro w3 ay J;have D3:=D2.block (J.block _ (by rw [ai.out.1];omega) (fun e=>O))) | (refine jY rfl 33 (F 7) (F 14) rfl (l.heap.size+1) [kH] [K p ts.length s] rfl rfl D3 rfl Gg aZ ?_;intro z a6 L))
 obtain ⟨T,s2⟩:=ai.out;have z0:=ak.out;obtain ⟨H,s1,M⟩:=HN.out;obtain ⟨V,W⟩:=aq.out;have s3:=J.size;have s4:=L.size;rw [T] at s3;have k4:∀ q,q<l.heap.size→z.heap[q]?=l.heap[q]?:=fun q k=>((L.block q A (fun e=>O)).trans (J.block q (by rw [T];omega) (fun e=>O))).trans (bA.block q k);have bj:RD z g (0+30000):=bh.keep (fun q k=>k4 q A);have b4:Below We.heap.size We z:=⟨L.os.trans (J.os.trans (bA.os.trans b2.os)),L.tape.trans (J.tape.trans (bA.tape.trans b2.tape)),L.output.trans (J.output.trans (bA.output.trans b2.output)),A,fun q k=>(k4 q A).trans (b2.block q k)⟩
 have aw:lg z Q.heap.size d h:=bo.blk (fun r u q k=>k4 q (bo.lo r u q k).2);have bf:lF z Q.heap.size (K p ts.length s) ts vs:=pl.kp (fun q k=>k4 q (pl.lt k).2);have cB:CF z l.heap.size (bvs d h):=ay.block (L.block _ A (fun e=>O));have cP:=a6;obtain ⟨Qb, ax⟩ := kC l.heap.size;rw [← ax] at cB cP ⊢;clear k4 C2 D2 bA ay J L a6 bo pl bh b2;refine wp_region_held (S:=fun w'=>CF w' Qb (bvs d h)∧CF w' (Qb+1) [K p ts.length s]) Z ?_;change wpAnyH _ _ _ _ _ _ _ _ (World.drew _);obtain ⟨v0, t⟩ := kC z.drew;have z4:v0.heap.size=z.heap.size:=by rw [t];rfl
 have bg:RD v0 g (0+30000):=by rw [t];exact bj.drew
 have af:Below We.heap.size We v0:=by rw [t];exact b4.drew
 have ag:lg v0 Q.heap.size d h:=by rw [t];exact aw.below mD.drew
 have ah:lF v0 Q.heap.size (K p ts.length s) ts vs:=by rw [t];exact bf.below mD.drew
 have al:CF v0 Qb (bvs d h):=by rw [t];exact cB
 have an:CF v0 (Qb+1) [K p ts.length s]:=by rw [t];exact cP
 rw [← t];clear t bj b4 aw bf cB cP;have S0:=And.intro al an;refine jZ (i:=0) (d:=U 15) (v:=aI (bvs d h).toArray) (l':=bt 8 1) rfl (fun _ hh=>Eh (F 6) Z Z hh.1 rfl) S0 ?_;refine jZ (i:=1) (d:=U 16) (v:=aI #[K p ts.length s]) (l':=bt 8 3) rfl (fun _ hh=>pK (F 7) Z Z (hh.2 0 D).1) S0 ?_;refine jZ (i:=2) (d:=U 17) (v:=aG (U ⟨g,0,C⟩)) (l':=bt 8 7) rfl (fun _ _=>Z) S0 ?_;refine kF Z (kZ (i:=3) (d:=U 18) (f:=17) (args:=#[aG (U ⟨g,0,C⟩),I Y ((6:Nat):Int)]) (l':=bt 8 15) (R:=uI v0 g (0+30000) 6) rfl Z Z Z (lT _ _ _ rfl Z Z rfl mZ) (qG 6 bg A A A) ?_);rintro u1 v1 ⟨⟨r1,bl,rfl⟩,P,g1⟩;have s5:=g1.size;have k1:∀ q,q<v0.heap.size→q≠g→v1.heap[q]?=v0.heap[q]?:=fun q h1 h2=>g1.block q h1 (fun e=>O);have X:=And.intro (al.block (k1 _ A A)) (an.block (k1 _ A A));refine ⟨X,?_⟩;have ab:lg v1 Q.heap.size d h:=ag.blk (fun r u q k=>k1 q (ag.lo r u q k).2 (by have:=(ag.lo r u q k).1;omega));have ae:lF v1 Q.heap.size (K p ts.length s) ts vs:=ah.kp (fun q k=>k1 q (ah.lt k).2 (by have:=(ah.lt k).1;omega));have av:Below w.heap.size w v1:=(b0.trans (af.mono A)).grown g1 A (fun q e=>O);have A1:CF v1 w.heap.size oK:=(V.block (af.block _ A)).block (k1 _ A A);have B1:CF v1 (w.heap.size+1) [kH]:=(W.block (af.block _ A)).block (k1 _ A A);refine jZ (i:=4) (d:=U 19) (v:=I Y ((r1:Int) - 1)) (l':=bt 8 31) rfl (fun _ _=>acL (F 18) r1 A Z Z Z) X ?_;have q1:v1.grownBy (v1.setCells w.heap.size 0 (bvs d h)) (U w.heap.size):=gsc;have q2:(v1.setCells w.heap.size 0 (bvs d h)).grownBy ((v1.setCells w.heap.size 0 (bvs d h)).setCells (w.heap.size+1) 0 [K p ts.length s]) (U (w.heap.size+1)):=gsc;have s6:=q1.size;have B2:=B1.block (q1.block _ A (fun e=>O));have S2:=And.intro (X.1.block (q1.block _ A (fun e=>O))) (X.2.block (q1.block _ A (fun e=>O)));have S3:=And.intro (S2.1.block (q2.block _ A (fun e=>O))) (S2.2.block (q2.block _ A (fun e=>O)));have a7:=(A1.stored (vs:=bvs d h) rfl).block (q2.block _ A (fun e=>O));have bb:=((B2.stored (vs:=[K p ts.length s]) rfl) 0 D).1;have k9:∀ q,q<v1.heap.size→q≠w.heap.size→q≠w.heap.size+1→((v1.setCells w.heap.size 0 (bvs d h)).setCells (w.heap.size+1) 0 [K p ts.length s]).heap[q]?=v1.heap[q]?:=fun q a1 a2 a3=>(q2.block q A (fun e=>O)).trans (q1.block q a1 (fun e=>O));have a8:abv (aO (.tuple #[aI (bvs d h).toArray,aI #[K p ts.length s],I Y ((r1:Int) - 1)])) w.heap.size ((v1.setCells w.heap.size 0 (bvs d h)).setCells (w.heap.size+1) 0 [K p ts.length s])∧Below w.heap.size w ((v1.setCells w.heap.size 0 (bvs d h)).setCells (w.heap.size+1) 0 [K p ts.length s]) :=
  ⟨⟨d,h,_,ts,vs,_,rfl,(ab.blk (fun r u q k=>k9 q (ab.lo r u q k).2 (by have:=(ab.lo r u q k).1;omega) (by have:=(ab.lo r u q k).1;omega))).mono A,(ae.kp (fun q k=>k9 q (ae.lt k).2 (by have:=(ae.lt k).1;omega) (by have:=(ae.lt k).1;omega))).mono A,HF.out.1,HF.out.2.1,HF.out.2.2.1,HF.out.2.2.2⟩,(av.grown q1 A (fun q e=>O)).grown q2 A (fun q e=>O)⟩
 generalize k:Act.put _ _ _=aa;refine qc (i:=5) (w':=v1.setCells w.heap.size 0 (bvs d h)) (l':=bt 8 63) Z rfl Z eU Z (lM 30 oK (bvs d h) (F 2) (F 15) Z eU eU A1 rfl Tryz.sizeBo (nC _ _)) S2 ?_;refine qc (i:=6) (w':=(v1.setCells w.heap.size 0 (bvs d h)).setCells (w.heap.size+1) 0 [K p ts.length s]) (l':=bt 8 127) Z rfl Z eU Z (lM 33 [kH] [K p ts.length s] (F 3) (F 16) Z eU eU B2 rfl Gg aZ) S3 ?_;refine SC (i:=7) (d:=U 4) (v:=I Y ((r1:Int) - 1)) (w':=(v1.setCells w.heap.size 0 (bvs d h)).setCells (w.heap.size+1) 0 [K p ts.length s]) (l':=bt 8 255) Z rfl Z eU Z (ZW (F 19) Z eU) S3 ?_;subst k;refine wpAnyH_done Z ?_ _;obtain ⟨vz, bd⟩ := kC ((v1.setCells w.heap.size 0 (bvs d h)).setCells (w.heap.size+1) 0 [K p ts.length s]);rw [← bd] at a8 a7 bb ⊢;clear bd S0 X S2 S3 q1 q2 s6 A1 B1 B2 k9 k1 g1 P ab ae av ag ah bg af al an V W b0 b1 T s2 z0 H s1 M s3 s4 s5 z4 ax HN ai ak aq au;go_simp;go_wp2;exact bodyPost_ret (Xw 2 3 4 results4 rfl rfl rfl a7 rfl bb) rfl a8
end
theorem Wj {l r:List ByteArray} {st q:St} (h:rep ts (l ++ r) st=U q):∃ a,rep ts l st=U a∧rep ts r a=U q:=by
 rw [JK] at h;cases c:rep ts l st with
 | none=>rw [c] at h;cases h
 | some a=>rw [c] at h;exact ⟨a,rfl,h⟩
theorem WQ (h:d.ok ts) (keep:Int):(qR d keep).ok ts:=by
 obtain ⟨⟨g,i⟩,hw,j,l,R,a,-⟩:=h;rw [lD] at i;have e:d.L1 ++ d.L2=(d.L1 ++ d.L2.take (pV keep d.L2.length)) ++ d.L2.drop (pV keep d.L2.length):=by rw [Dk,RV]
 rw [e] at a;obtain ⟨⟨c,f⟩,k,-⟩:=Wj a;refine ⟨⟨g,?_⟩,hw,j,c,f,?_,.inl ⟨rfl,by simp [qE,qR]⟩⟩
 ·simp only [qR,lD,qI,qJ];omega
 ·show rep ts (d.L1 ++ d.L2.take (pV keep d.L2.length) ++ []) _=_
  rw [pz];exact k
def Kept (R a:List ByteArray):Prop:=a.length=R.length∧∀ i,i<R.length→(rs R i).size≠0→rs a i=rs R i
theorem Kept.refl (R:List ByteArray):Kept R R:=⟨rfl,fun _ _ _=>rfl⟩
theorem Kept.trans {a B C:List ByteArray} (h:Kept a B) (c:Kept B C):Kept a C:=⟨c.1.trans h.1,fun i hi d=>by
 have e:=h.2 i hi d;rw [c.2 i (by rw [h.1];exact hi) (by rw [e];exact d),e]⟩
theorem Ym {st:St} {s:ByteArray} (h:qB ts st s=U st'):Kept st.2 st'.2:=by
 unfold qB at h;cases he:Gn s with
 | none=>rw [he] at h;cases h
 | some q =>
  obtain ⟨k,e,d,x⟩:=q;rw [he] at h;have a:step1 ts st (k,e,d,x)=U st':=h;unfold step1 at a;dsimp only at a;split at a
  ·split at a
   ·cases a;exact Kept.refl _
   ·cases a
  ·split at a
   ·rename_i c
    cases a
    refine ⟨D,fun i hi f=>?_⟩;by_cases e:i=d.toNat
    ·subst e;exact absurd c.2.2.1 f
    ·unfold rs;simp [List.getD,List.getElem?_set_ne (Ne.symm e)]
   ·cases a
theorem Um {l:List ByteArray}:∀ {st st':St},rep ts l st=U st'→Kept st.2 st'.2:=by
 induction l with
 | nil=>intro st st' h;cases h;exact Kept.refl _
 | cons s l ih =>
  intro st st' h;unfold rep at h;cases a:qB ts st s with
  | none=>rw [a] at h;cases h
  | some c =>
   rw [a] at h;exact (Ym a).trans (ih h)
theorem adF {y:BD} (h:d.ok ts) (s:CP (qR d keep) ts y) (hu:y.up=aN):rep ts y.L1 (st0 ts.length)=U (y.ep,y.R)∧y.gv=0∧y.L2=[]∧(∀ a R,rep ts d.L1 (st0 ts.length)=U (a,R)→Kept R y.R)∧((d.up=aN∧pV keep d.L2.length=d.L2.length)→y.R=d.R):=by
 rcases s with ⟨_,e⟩ | ⟨r,_⟩
 ·rcases e with ⟨e,_⟩ | ⟨_,a,R,k,e⟩
  ·cases e
  ·have f:rep ts (d.L1 ++ d.L2.take (pV keep d.L2.length)) (st0 ts.length)=U (a,R):=k.1
   rcases e with ⟨_,rfl⟩ | ⟨q,rfl⟩
   ·cases hu
   ·refine ⟨?_,rfl,rfl,fun t v l=>?_,fun i=>?_⟩
    ·show rep ts (d.L1 ++ d.L2.take (pV keep d.L2.length) ++ [lS 1 (a+1) 0 ⟨#[]⟩]) (st0 ts.length)=U (a+1,R)
     rw [Fe,f];exact VL (st:=(a,R)) k.2.2.1 q.2
    ·obtain ⟨H,g,o⟩:=Wj f
     rw [l] at g;cases g
     exact Um o
    ·have p:=h
     obtain ⟨_,_,_,u,z,j,c⟩:=p;rw [i.2,LK] at f;rw [f] at j;cases j
     rcases c with ⟨c,_⟩ | c
     ·rw [i.1] at c;cases c
     ·exact c.2.2.2.1.symm
 ·exact absurd (WQ h keep) r
theorem aep (a a':Option Addr) (b o n c j q c':Nat) (d:List ByteArray) (h:kS w a b o n d) (g:kS w a' j q n d) :
  Calls prog 13 #[K a n c,K a' n c'] w fun e H=>e=aO (aF aN)∧Below w.heap.size w H:=by
 have z:=h.max;unfold maxLen at z;go_enter func13,ntmps13
 go_wp2;go_loopw [5] (fun i wr=>∃ k:Nat,k≤n∧i=I Y k∧Below w.heap.size w wr) (fun i _=>n - (intOf i).toNat)
 case atStart=>exact ⟨0,lG _,rfl,mD⟩
 case round =>
  obtain ⟨k,J,rfl,f⟩:=hrel;by_cases l:k<n
  ·obtain rfl:=h.ad A
   obtain rfl:=g.ad A;have r:=h.lt A;have t:=g.lt A;have u:wr.cell? ⟨b,o+k,C⟩=U (E (d.getD k ByteArray.empty)):=(f.cell (by exact r)).trans (h.cell k l);have v:wr.cell? ⟨j,q+k,C⟩=U (E (d.getD k ByteArray.empty)):=(f.cell (by exact t)).trans (g.cell k l);obtain ⟨s, p⟩ := kC (d.getD k ByteArray.empty);rw [← p] at u v;clear p;have L:(k:Int)<(n:Int):=A;go_wp2;go_quiet (fail)
   go_wp2;go_roundw
   case rel=>exact ⟨k+1,A,aW,below_drewN f _⟩
   case measure=>simp [intOf];omega
  ·obtain rfl:k=n:=by omega
   go_wp2;go_ret;exact ⟨rfl,f⟩
theorem aew (d:BD) (h o:BH) (hM:rU w d h) (bk:rU w d o) :
  Calls prog 7 #[aI (bvs d h).toArray,aI (bvs d o).toArray] w fun e w'=>e=aO (aF aN)∧Below w.heap.size w w':=by
 obtain ⟨⟨b1,o1,h1⟩,⟨b2,o2,h2⟩,⟨b3,o3,h3⟩,⟨b4,o4,h4⟩,⟨b5,o5,h5⟩,⟨b6,o6,h6⟩⟩:=hM;obtain ⟨⟨bg,bo,al⟩,⟨bh,bp,aw⟩,⟨bj,bq,ax⟩,⟨bz,b8,ay⟩,⟨b0,b9,a6⟩,⟨b7,ca,a7⟩⟩:=bk;obtain ⟨W, u⟩ := kC ((w.alloc (aH (bvs d h).toArray 30)).alloc (aH (bvs d o).toArray 30));have t:Below w.heap.size w W:=by rw [u];exact kQ.alloc D _
 have bl:w.heap.size+1<W.heap.size:=by rw [u];simp
 have ae:MC W w.heap.size (bvs d h):=by rw [u];exact (MC.made w (bvs d h).toArray 30).block (kU _ _ _ D)
 have ah:MC W (w.heap.size+1) (bvs d o):=by
  have:=MC.made (w.alloc (aH (bvs d h).toArray 30)) (bvs d o).toArray 30;rw [mJ] at this;rw [u];exact this
 have an:=h4.max;have aq:=h5.max;have au:=h6.max;unfold maxLen at an aq au;unfold bvs at u ae ah ⊢;obtain ⟨wk,up,now,sn,ep,gv,L1,L2,R,J,S,v⟩:=d;dsimp only at *;have HN:=hid (And.intro an (And.intro aq au));clear an aq au;have p1:=h1.below' t;have q1:=al.below' t;go_enter func7,ntmps7
 go_wp2_with fail
 rw [← u];clear u;refine (aep h.a1 o.a1 b1 o1 _ h.c1 bg bo o.c1 _ (h1.below' t) (al.below' t)).mono ?_;rintro e1 w1 ⟨rfl,f⟩;have T:=f.size;have af:=ae.below f A;have ai:=ah.below f A;have N:=t.trans (f.mono t.size);have bm:w.heap.size+1<w1.heap.size:=A;clear ae ah t bl f T;have z:=af 7 D;have y:=ai 7 D;simp only [Sr,Sm] at z y;go_wp2_with fail
 clear z y;refine (aep h.a2 o.a2 b2 o2 _ h.c2 bh bp o.c2 _ (h2.below' N) (aw.below' N)).mono ?_;rintro e2 w2 ⟨rfl,f⟩;have T:=f.size;have ag:=af.below f A;have ak:=ai.below f A;have P:=N.trans (f.mono N.size);have bn:w.heap.size+1<w2.heap.size:=A;clear af ai N bm f T;have z:=ag 8 D;have y:=ak 8 D;simp only [Sr,Sm] at z y;go_wp2_with fail
 clear z y;refine (aep h.ar o.ar b3 o3 _ h.cr bj bq o.cr _ (h3.below' P) (ax.below' P)).mono ?_;rintro e3 l ⟨rfl,f⟩;have T:=f.size;have aa:=ag.below f A;have ab:=ak.below f A;have av:=P.trans (f.mono P.size);have ba:w.heap.size+1<l.heap.size:=A;clear ag ak P bn f T;have z9:l.cell? ⟨w.heap.size,9,C⟩=_:=aa 9 D;have y9:l.cell? ⟨w.heap.size+1,9,C⟩=_:=ab 9 D;simp only [Sr,Sm] at z9 y9;have bd:l.cell? ⟨w.heap.size,10,C⟩=_:=aa 10 D;have bb:l.cell? ⟨w.heap.size+1,10,C⟩=_:=ab 10 D;simp only [Sr,Sm] at bd bb;have bf:l.cell? ⟨w.heap.size,11,C⟩=_:=aa 11 D;have bc:l.cell? ⟨w.heap.size+1,11,C⟩=_:=ab 11 D;simp only [Sr,Sm] at bf bc;have c:=hid (And.intro av ba);clear aa ab av ba p1 q1 h1 h2 h3 al aw ax;go_wp2_with fail
 go_loopw [5] (fun i wr=>∃ k:Nat,k≤J.length∧i=I Y k∧Below l.heap.size l wr) (fun i _=>J.length - (intOf i).toNat)
 case atStart=>exact ⟨0,lG _,rfl,mD⟩
 obtain ⟨k,Q,rfl,H⟩:=hrel;have q9:=(H.cell (p:=⟨w.heap.size,9,C⟩) aem).trans z9;have r9:=(H.cell (p:=⟨w.heap.size+1,9,C⟩) aem).trans y9;by_cases a:k<J.length
 ·obtain ⟨vz, V⟩ := kC wr
  have g:=h4.below' (c.out.1.trans (H.mono c.out.1.size));have j:=ay.below' (c.out.1.trans (H.mono c.out.1.size));have q:=h4.ad A;have r:=ay.ad A;rw [q] at q9;rw [r] at r9;have X:=g.c0 k a;have t0:=j.c0 k a;have s1:=g.c1 k a;have t1:=j.c1 k a;have s2:=g.c2 k a;have t2:=j.c2 k a;obtain ⟨x, s⟩ := kC (t3 J k);rw [← s] at X t0 s1 t1 s2 t2;have hm:=HN.out.1;have a8:(k:Int)<(J.length:Int):=A;clear s V g j q r;go_wp2_with fail
  go_quiet (fail)
  go_wp2_with fail
  go_roundw
  case rel=>exact ⟨k+1,A,aW,below_drewN H _⟩
  case measure=>simp [intOf];omega
 obtain rfl:k=J.length:=A;clear a Q;go_wp2_with fail
 go_loopw [6] (fun i wr=>∃ k:Nat,k≤S.length∧i=I Y k∧Below l.heap.size l wr) (fun i _=>S.length - (intOf i).toNat)
 case atStart=>exact ⟨0,lG _,rfl,H⟩
 obtain ⟨k,Q,rfl,L⟩:=hrel;have br:=(L.cell (p:=⟨w.heap.size,10,C⟩) aem).trans bd;have bu:=(L.cell (p:=⟨w.heap.size+1,10,C⟩) aem).trans bb;by_cases a:k<S.length
 ·obtain ⟨vz, V⟩ := kC wr
  have g:=h5.below' (c.out.1.trans (L.mono c.out.1.size));have j:=a6.below' (c.out.1.trans (L.mono c.out.1.size));have q:=h5.ad A;have r:=a6.ad A;rw [q] at br;rw [r] at bu;have X:=g.c0 k a;have t0:=j.c0 k a;have s1:=g.c1 k a;have t1:=j.c1 k a;obtain ⟨x, s⟩ := kC (t2 S k);rw [← s] at X t0 s1 t1;have hm:=HN.out.2.1;have a8:(k:Int)<(S.length:Int):=A;clear s V g j q r;go_wp2_with fail
  go_quiet (fail)
  go_wp2_with fail
  go_roundw
  case rel=>exact ⟨k+1,A,aW,below_drewN L _⟩
  case measure=>simp [intOf];omega
 obtain rfl:k=S.length:=A;clear a Q;go_wp2_with fail
 go_loopw [7] (fun i wr=>∃ k:Nat,k≤v.length∧i=I Y k∧Below l.heap.size l wr) (fun i _=>v.length - (intOf i).toNat)
 case atStart=>exact ⟨0,lG _,rfl,L⟩
 obtain ⟨k,Q,rfl,M⟩:=hrel;have bs:=(M.cell (p:=⟨w.heap.size,11,C⟩) aem).trans bf;have bw:=(M.cell (p:=⟨w.heap.size+1,11,C⟩) aem).trans bc;by_cases a:k<v.length
 ·obtain ⟨vz, V⟩ := kC wr
  have g:=h6.below' (c.out.1.trans (M.mono c.out.1.size));have j:=a7.below' (c.out.1.trans (M.mono c.out.1.size));have q:=h6.ad A;have r:=a7.ad A;rw [q] at bs;rw [r] at bw;have X:=g.c0 k a;have t0:=j.c0 k a;have s1:=g.c1 k a;have t1:=j.c1 k a;have s2:=g.c2 k a;have t2:=j.c2 k a;obtain ⟨x, s⟩ := kC (t3 v k);rw [← s] at X t0 s1 t1 s2 t2;have hm:=HN.out.2.2;have a8:(k:Int)<(v.length:Int):=A;clear s V g j q r;go_wp2_with fail
  go_quiet (fail)
  go_wp2_with fail
  go_roundw
  case rel=>exact ⟨k+1,A,aW,below_drewN M _⟩
  case measure=>simp [intOf];omega
 obtain rfl:k=v.length:=A;clear a Q;go_wp2;go_ret;exact ⟨rfl,c.out.1.trans (M.mono c.out.1.size)⟩
structure BX (W:World) (Q:Nat) (d:BD) (h:BH):Prop where
 c:CF W Q (bvs d h)
 l:Q<W.heap.size
 m:rU W d h
theorem BX.below (x:BX W Q d h) (a:Below W.heap.size W W'):BX W' Q d h:=⟨x.c.block (a.block _ x.l),lu x.l a.size,x.m.below' a⟩
structure RL (w W:World) (Q P:Nat) (d:BD) (h:BH) (pa:Option Addr) (pb po pc:Nat) (ts:List kJ):Prop where
 b:Below w.heap.size w W
 x:BX W Q d h
 c:CF W P [K pa ts.length pc]
 l:P<W.heap.size
 t:lN W pa pb po ts.length ts
theorem RL.below {P:Nat} {b o c:Nat} (x:RL w W Q P d h a b o c ts) (e:Below W.heap.size W W'):RL w W' Q P d h a b o c ts :=
 ⟨x.b.trans (e.mono x.b.size),x.x.below e,x.c.block (e.block _ x.l),lu x.l e.size,x.t.below' e⟩
theorem stB (a:(W.alloc ob).grownBy W' (U W.heap.size)):Below W.heap.size W W' :=
 kQ.grown a D (fun q e=>O)
theorem stX (a:(W.alloc ob).grownBy W' (U W.heap.size)) (c:CF W' W.heap.size (bvs d h)) (hm:rU W d h):BX W' W.heap.size d h :=
 ⟨c,lu D a.size,hm.below' (stB a)⟩
structure SX (W:World) (Q:Nat) (sc E:Int) (R:List ByteArray) (a:Option Addr) (n:Nat):Prop where
 c:CF W Q [I Y sc,I Y E,K a R.length n]
 l:Q<W.heap.size
 m:∃ b o,kS W a b o R.length R
theorem SX.below {c e:Int} (x:SX W Q c e R a n) (d:Below W.heap.size W W'):SX W' Q c e R a n :=
 ⟨x.c.block (d.block _ x.l),lu x.l d.size,by obtain ⟨b,o,h⟩:=x.m;exact ⟨b,o,h.below' d⟩⟩
structure RM (w W:World) (Q P:Nat) (d:BD) (h:BH) (pa:Option Addr) (pb po pc:Nat) (ts:List kJ) (X:Nat) (dx:BD) (hx:BH) (Y:Nat) (dy:BD) (hy:BH):Prop where
 r:RL w W Q P d h pa pb po pc ts
 x:BX W X dx hx
 y:BX W Y dy hy
theorem RM.below {P:Nat} {k:Option Addr} {l p o:Nat} {X:Nat} {e:BD} {i:BH} {c:Nat} {f:BD} {j:BH} (g:RM w W Q P d h k l p o ts X e i c f j) (a:Below W.heap.size W W'):RM w W' Q P d h k l p o ts X e i c f j:=⟨g.r.below a,g.x.below a,g.y.below a⟩
theorem aer {ρ:Operand→Value} {o:Oper} (h:o.op=.alloc 30):(execOp ρ o).run prog w=.ok (.value (aG (U ⟨w.heap.size,0,C⟩))) (w.alloc (aH oK.toArray 30)):=by
 unfold execOp;rw [h];simp [go_sem,oK]
theorem aex (v1 v2 v3:Value) (w:World):Sem.run prog (callFunc 11 #[v1,v2,v3]) w=.ok (.enter 11 #[v1,v2,v3]) w:=Z
theorem aez (v1 v2 v3:Value) (w:World):Sem.run prog (callFunc 8 #[v1,v2,v3]) w=.ok (.enter 8 #[v1,v2,v3]) w:=Z
theorem aes (v1 v2:Value) (w:World):Sem.run prog (callFunc 10 #[v1,v2]) w=.ok (.enter 10 #[v1,v2]) w:=Z
theorem aeu (v1 v2:Value) (w:World):Sem.run prog (callFunc 9 #[v1,v2]) w=.ok (.enter 9 #[v1,v2]) w:=Z
theorem stZ {u:World} {p:Nat} (C:CF u p oK) (k:p<u.heap.size) (c:lg u B d h) (j:d.fits) (a:p<B∨∀ r∈kK d h,∀ q,r=U q→q<p):BX (u.setCells p 0 (bvs d h)) p d h:=by
 have i:u.grownBy (u.setCells p 0 (bvs d h)) (U p):=gsc;refine ⟨C.stored rfl,lu k i.size,(c.blk (fun r g q f=>i.block q (c.lo r g q f).2 (fun e=>?_))).m j⟩;injection e with e;subst e;rcases a with a | a
 ·have:=(c.lo r g _ f).1;omega
 ·exact absurd (a r g _ f) (Nat.lt_irrefl _)
theorem aeA {c e f:Int} {g:List ByteArray} (h:rJ ts L c e R) (d:Code ts 0) (i:L.length≤310) (a:rep ts L (st0 ts.length)=U (f,g)):c=0∧e=f∧R=g:=by
 rcases h with ⟨h,_⟩ | ⟨_,⟨h,_⟩ | ⟨h,d⟩⟩
 ·exact absurd ⟨d,i⟩ h
 ·rw [h] at a;cases a
 ·rw [h] at a;cases a;exact ⟨d,rfl,rfl⟩
theorem rJ.each {c a:Int} (h:rJ ts L c a R):∀ s∈R,s.size≤maxLen:=by
 rcases h with ⟨_,_,_,rfl⟩ | ⟨_,⟨_,_,_,rfl⟩ | ⟨h,_⟩⟩
 ·simp
 ·simp
 ·have:=Ez _ (Ey ts.length) h
  exact fun s d=>by have:=this.2.2.2 s d;unfold maxLen;omega
theorem aeG {u:World} {e c:Int} (g:Own B u 1 (K a R.length n) R.length (R.map E)) (i:∀ s∈R,s.size≤maxLen) (d:(u.alloc ob).grownBy W' (U u.heap.size)) (f:CF W' u.heap.size [I Y e,I Y c,K a R.length n]):SX W' u.heap.size e c R a n :=
 ⟨f,lu D d.size,by obtain ⟨b,o,h,_⟩:=g.xP i;exact ⟨b,o,h.below' (stB d)⟩⟩
theorem aeK {m:Nat} {c e:Int}:∀ v∈[I Y c,I Y e,K a n m],v.oneCell'=aN:=by
 intro v d;simp only [mG,mF,or_false] at d;rcases d with rfl | rfl | rfl <;> rfl
theorem aeH {y:BD} (h:d.ok ts) (e:CP (qR d keep) ts y) (hu:y.up=aN) {c a:Int} (i:rJ ts y.L1 c a R):c=0∧a=y.ep∧R=y.R:=by
 refine aeA i h.1.1 ?_ (adF h e hu).1;rcases e with ⟨_,⟨g,_⟩ | ⟨_,j,k,_,⟨_,rfl⟩ | ⟨f,rfl⟩⟩⟩ | ⟨_,rfl⟩
 ·cases g
 ·cases hu
 ·have:=f.1;simp only [oI,lD,mQ];omega
 ·cases hu
theorem aeI {y:BD} (h:d.ok ts) (l:CP (qR d keep) ts y) (hu:y.up=aN) {c e:Int} (k:rJ ts d.L1 c e R):Kept R y.R:=by
 have f:=h;obtain ⟨⟨g,i⟩,_,_,o,q,j,_⟩:=f;rw [lD] at i;obtain ⟨⟨p,r⟩,a,_⟩:=Wj j;obtain ⟨_,_,rfl⟩:=aeA k g A a;exact (adF h l hu).2.2.2.1 _ _ a
theorem aeJ {y:BD} (h:d.ok ts) (c:CP (qR d d.L2.length) ts y) (hu:y.up=aN) (a:d.up=aN):y.R=d.R :=
 (adF h c hu).2.2.2.2 ⟨a,by unfold pV;omega⟩
theorem Jg.is {k:Int} (h:d.ok ts) (a:Jg d ts k d'):d'=qR d k:=by
 rcases a with ⟨_,e⟩ | ⟨c,_⟩
 ·exact e
 ·exact absurd h c
theorem Jg.no {k:Int} (h:¬ d.ok ts) (a:Jg d ts k d'):d'=rM:=by
 rcases a with ⟨c,_⟩ | ⟨_,e⟩
 ·exact absurd c h
 ·exact e
theorem aey (ad:Option Addr) (b o n cc:Nat) (w:World) (bp:BytesAt w ad b o n) (N:0<n→b<w.heap.size) (bs:n≤cc) (hn:n≤maxLen) :
  Calls prog 3 #[K ad n cc] w fun e' w'=>e'=aO (aF aN)∧Below w.heap.size w w':=by
 unfold maxLen at hn;by_cases ck:1048576<n
 ·have bn:(n:Int) > 1048576:=by omega
  go_enter func3,ntmps3
  go_wp2;go_ret;exact ⟨rfl,mD⟩
 have bn:¬ (n:Int) > 1048576:=A;have bz:n≤1048576:=A;have al:=hid (And.intro bp (And.intro N (And.intro bs bz)));clear bp N bs hn bz ck;go_enter func3,ntmps3
 go_wp2_with fail
 refine (NZ ad b o n cc al.out.1 al.out.2.1 al.out.2.2.1 al.out.2.2.2).mono ?_;rintro e1 w1 ⟨⟨d,h,vP,ts,vs,keep,rfl,bo,pl,H,hs,bd,cf⟩,b1⟩;clear al bn;have bw:=bo.m H;obtain ⟨p,pb,po,u,rfl,cd⟩:=pl.tasks bd G;have HF:=hid (And.intro H (And.intro hs (And.intro bd cf)));have HS:=hid bo.o1.slS;clear bo pl H hs bd cf;have C0:CF ((w1.alloc (aH ni 30)).alloc (aH #[K C 0 0] 33)) w1.heap.size oK:=(CF.made w1 oK.toArray 30).block (kU _ _ _ D);have D0:CF ((w1.alloc (aH ni 30)).alloc (aH #[K C 0 0] 33)) (w1.heap.size+1) [kH]:=by
  have:=CF.made (w1.alloc (aH ni 30)) #[kH] 33;rw [mJ] at this;exact this
 go_upto_region 4 with (first | (refine jY rfl 30 (F 3) (F 19) rfl w1.heap.size oK (bvs d h) rfl rfl C0 rfl Tryz.sizeBo (nC _ _) ?_;intro w2 bq av;have D2:=D0.block (av.block _ D (fun e=>O))) | (refine jY rfl 33 (F 4) (F 20) rfl (w1.heap.size+1) [kH] [K p ts.length u] rfl rfl D2 rfl Gg aZ ?_;intro w3 br aw))
 have x3:RL w w3 w1.heap.size (w1.heap.size+1) d h p pb po u ts:=by
  have s2:=av.size;have s3:=aw.size;simp at s2;have bA:Below w1.heap.size w1 w3:=((kQ.alloc D _).grown av aQ (fun q e=>O)).grown aw A (fun q e=>O);exact ⟨b1.trans (bA.mono b1.size),⟨bq.block (aw.block _ A (fun e=>O)),A,bw.below' bA⟩,br,A,cd.below' bA⟩
 obtain ⟨Q, hQ⟩ := kC w1.heap.size;obtain ⟨P, hP⟩ := kC (w1.heap.size+1);rw [← hP,← hQ] at x3;rw [← hP,← hQ];clear hQ hP b1 bw cd C0 D0 D2 bq av br aw;go_wp2_with (first | (refine kY rfl 30 (F 3) rfl Q _ rfl x3.x.c underlying30 rfl Tryz.sizeBo ?_) | (refine kY rfl 33 (F 4) rfl P _ rfl x3.c underlying33 rfl Gg ?_))
 refine (Gt d p pb po ts.length u ts ⟨h,rfl,x3.x.m⟩ x3.t HF.out.2.1).mono ?_;rintro e4 w4 ⟨⟨r4,rfl,ay⟩,b4⟩;have x4:=x3.below b4;clear x3 b4;cases r4 with
 | false =>
  have b0:Hid (¬ d.ok ts):=hid (fun hk=>by have:=ay.2 hk;cases this);clear ay;go_wp2_with (first | (refine kY rfl 30 (F 3) rfl Q _ rfl x4.x.c underlying30 rfl Tryz.sizeBo ?_) | (refine kY rfl 33 (F 4) rfl P _ rfl x4.c underlying33 rfl Gg ?_))
  refine (OW d p pb po ts.length u ts ⟨h,rfl,x4.x.m⟩ x4.t HF.out.2.1).mono ?_;rintro e5 w5 ⟨⟨r5,rfl,cb⟩,b5⟩;have x5:=x4.below b5;obtain rfl:r5=aK:=by
   cases r5 with
   | false=>rfl
   | true=>exact absurd (cb.1 rfl) b0.out
  clear x4 b5 cb;go_wp2_with (first | (refine aeo Z (Eh (F 3) rfl Z x5.x.c rfl) ?_) | (refine aeo Z (pK (F 4) rfl Z (x5.c 0 D).1) ?_))
  refine (XT d h p pb po ts.length u ts keep x5.x.m x5.t HF.out.2.1).mono ?_;rintro e6 w6 ⟨⟨d6,⟨h6,rfl,o6⟩,f6⟩,b6⟩;have z6:=f6.fits HF.out.1;obtain rfl:=f6.no b0.out;go_wp2_with fail
  refine (aew rM h6 ⟨C,C,C,C,C,C,0,0,0,0,0,0⟩ (o6.m z6) ((TJ _ 0).m z6)).mono ?_;rintro e7 w7 ⟨rfl,b7⟩;go_wp2;go_ret;exact ⟨rfl,((x5.below b6).below b7).b⟩
 | true =>
  have ae:Hid (d.ok ts):=hid (ay.1 rfl);clear ay;go_wp2_with (first | (refine kY rfl 30 (F 3) rfl Q _ rfl x4.x.c underlying30 rfl Tryz.sizeBo ?_) | (refine kY rfl 33 (F 4) rfl P _ rfl x4.c underlying33 rfl Gg ?_))
  refine (XT d h p pb po ts.length u ts keep x4.x.m x4.t HF.out.2.1).mono ?_;rintro e5 w5 ⟨⟨dx,⟨hx,rfl,o5⟩,f5⟩,b5⟩;have x5:=x4.below b5;have m5:=o5.m (f5.fits HF.out.1);have HX:=hid (And.intro (f5.is ae.out) (And.intro (f5.fits HF.out.1) (f5.small HF.out.2.1)));clear x4 b5 o5 f5;have C0:CF (.alloc w5 (aH ni 30)) w5.heap.size oK:=CF.made w5 oK.toArray 30;go_upto_region 7 with (refine jY rfl 30 (F 6) (F 41) rfl w5.heap.size oK (bvs dx hx) rfl rfl C0 rfl Tryz.sizeBo (nC _ _) ?_;intro w6 hc hg)
  have x6:=x5.below (stB hg);have X6:=stX hg hc m5;obtain ⟨X, hX⟩ := kC w5.heap.size;rw [← hX] at X6;rw [← hX];clear hX C0 hc hg m5 x5;go_wp2_with (first | (refine kY rfl 30 (F 3) rfl Q _ rfl x6.x.c underlying30 rfl Tryz.sizeBo ?_) | (refine kY rfl 33 (F 4) rfl P _ rfl x6.c underlying33 rfl Gg ?_) | (refine kY rfl 30 (F 6) rfl X _ rfl X6.c underlying30 rfl Tryz.sizeBo ?_))
  refine (XR dx hx p pb po ts.length u ts X6.m x6.t HX.out.2.2).mono ?_;rintro e7 w7 ⟨⟨dy,⟨hy,rfl,o7⟩,f7⟩,b7⟩;have x7:=x6.below b7;have X7:=X6.below b7;have m7:=o7.m (f7.fits HX.out.2.1);have HY:=hid (And.intro f7 (And.intro (f7.fits HX.out.2.1) (f7.small HX.out.2.2)));clear x6 X6 b7 o7 f7;have C0:CF (.alloc w7 (aH ni 30)) w7.heap.size oK:=CF.made w7 oK.toArray 30;go_upto_region 8 with (refine jY rfl 30 (F 7) (F 44) rfl w7.heap.size oK (bvs dy hy) rfl rfl C0 rfl Tryz.sizeBo (nC _ _) ?_;intro w8 hc hg)
  have x8:=x7.below (stB hg);have X8:=X7.below (stB hg);have Y8:=stX hg hc m7;obtain ⟨ai, hY⟩ := kC w7.heap.size;rw [← hY] at Y8;rw [← hY];clear hY C0 hc hg m7 x7 X7;have g8:RM w w8 Q P d h p pb po u ts X dx hx ai dy hy:=⟨x8,X8,Y8⟩
  clear x8 X8 Y8;have HD:Hid ((qR d keep).fits∧(qR d keep).small):=hid (by rw [← HX.out.1];exact HX.out.2);go_simp;go_cut [8] (fun sv wx=>∃ ab d2 a,sv=aG (U ⟨ab,0,C⟩)∧BX wx ab d2 a∧CP (qR d keep) ts d2∧Below w8.heap.size w8 wx)
  case first =>
   refine wp_region_held (S:=fun w'=>CF w' Q (bvs d h)∧CF w' P [K p ts.length u]) Z ?_;change wpAnyH _ _ _ _ _ _ _ _ (World.drew _);obtain ⟨v0, ak⟩ := kC w8.drew;have J:Below w8.heap.size w8 v0:=by rw [ak];exact mD.drew
   rw [← ak];clear ak;have S0:=And.intro (g8.below J).r.x.c (g8.below J).r.c;refine jZ (i:=0) (d:=U 45) (v:=aI (bvs d h).toArray) (l':=bt 8 1) rfl (fun _ hh=>Eh (F 3) Z Z hh.1 rfl) S0 ?_;refine jZ (i:=1) (d:=U 46) (v:=aI #[K p ts.length u]) (l':=bt 8 3) rfl (fun _ hh=>pK (F 4) Z Z (hh.2 0 D).1) S0 ?_;refine jZ (i:=2) (d:=U 47) (v:=I Y keep) (l':=bt 8 7) rfl (fun _ _=>Z) S0 ?_;refine jZ (i:=4) (d:=U 49) (v:=aI #[K p ts.length u]) (l':=bt 8 23) rfl (fun _ hh=>pK (F 4) Z Z (hh.2 0 D).1) S0 ?_;refine nT (i:=3) (j:=6) Z (kZ (i:=3) (d:=U 48) (f:=11) (args:=#[aI (bvs d h).toArray,aI #[K p ts.length u],I Y (keep)]) (l':=bt 8 31) (R:=fun v w'=>∃ g,v=aI (bvs (qR d keep) g).toArray∧rU w' (qR d keep) g∧Below v0.heap.size v0 w') rfl Z Z Z (abV _ _ _ _ rfl Z Z Z rfl aex) ((MR d h p pb po ts.length u ts (keep) HS.out (g8.below J).r.x.m (g8.below J).r.t HF.out.2.1).mono fun e w' ⟨⟨d1,⟨g,he,ho⟩,H⟩,N⟩=>⟨_,he,g,by rw [H.is ae.out],by rw [← H.is ae.out];exact ho.m (H.fits HF.out.1),N⟩) ?_) (kM (i:=6) (d:=U 8) (v:=aG (U ⟨v0.heap.size,0,C⟩)) (w':=v0.alloc (aH oK.toArray 30)) (l':=bt 8 87) rfl Z Z Z (aer Z) ⟨S0.1.block (kU _ _ _ (g8.below J).r.x.l),S0.2.block (kU _ _ _ (g8.below J).r.l)⟩ ?_)
   ·rintro _ v1 ⟨g,rfl,M1,b1⟩
    have B1:=J.trans (b1.mono J.size);have S1:=And.intro (g8.below B1).r.x.c (g8.below B1).r.c;refine ⟨S1,?_⟩;refine nT (i:=5) (j:=6) Z (kZ (i:=5) (d:=U 50) (f:=10) (args:=#[aI (bvs (qR d keep) g).toArray,aI #[K p ts.length u]]) (l':=bt 8 63) (R:=fun v w'=>∃ d2 a,v=aI (bvs d2 a).toArray∧lg w' v1.heap.size d2 a∧CP (qR d keep) ts d2∧Below v1.heap.size v1 w') rfl Z Z Z (lT _ _ _ rfl Z Z rfl aes) ((Gu (qR d keep) g p pb po ts.length u ts _ M1 (g8.below B1).r.t HD.out.2).mono fun e w' ⟨⟨d2,⟨a,he,ho⟩,H⟩,N⟩=>⟨_,he,d2,a,rfl,ho,H,N⟩) ?_) (kM (i:=6) (d:=U 8) (v:=aG (U ⟨v1.heap.size,0,C⟩)) (w':=v1.alloc (aH oK.toArray 30)) (l':=bt 8 95) rfl Z Z Z (aer Z) ⟨S1.1.block (kU _ _ _ (g8.below B1).r.x.l),S1.2.block (kU _ _ _ (g8.below B1).r.l)⟩ ?_)
    ·rintro _ v2 ⟨d2,a,rfl,O2,W,b2⟩
     have B2:=B1.trans (b2.mono B1.size);have S2:=And.intro (g8.below B2).r.x.c (g8.below B2).r.c;refine ⟨S2,?_⟩;refine kF Z (kM (i:=6) (d:=U 8) (v:=aG (U ⟨v2.heap.size,0,C⟩)) (w':=v2.alloc (aH oK.toArray 30)) (l':=bt 8 127) rfl Z Z Z (aer Z) ⟨S2.1.block (kU _ _ _ (g8.below B2).r.x.l),S2.2.block (kU _ _ _ (g8.below B2).r.l)⟩ ?_);obtain ⟨v3, af⟩ := kC (v2.alloc (aH oK.toArray 30));have b3:Below v2.heap.size v2 v3:=by rw [af];exact kQ
     have A3:CF v3 v2.heap.size oK:=by rw [af];exact CF.made v2 oK.toArray _
     have z3:v2.heap.size<v3.heap.size:=by rw [af];simp
     rw [← af];clear af;have B3:=B2.trans (b3.mono B2.size);have S3:=And.intro (g8.below B3).r.x.c (g8.below B3).r.c;have O3:=O2.below b3;have q3:=O2.lo;have N0:=stZ A3 z3 O3 (W.fits HD.out.1) (.inr (fun r hr q hq=>(q3 r hr q hq).2));have M:Below w8.heap.size w8 (v3.setCells v2.heap.size 0 (bvs d2 a)):=B3.grown (gsc) B3.size (fun q e=>by injection e with e;have:=B2.size;omega);refine qc (i:=7) (w':=v3.setCells v2.heap.size 0 (bvs d2 a)) (l':=bt 8 255) Z rfl Z Z Z (lM 30 oK (bvs d2 a) (F 8) (F 50) Z Z Z A3 rfl Tryz.sizeBo (nC _ _)) ⟨(g8.below M).r.x.c,(g8.below M).r.c⟩ ?_;refine wpAnyH_done Z ?_ _;have L:=hid (And.intro N0 (And.intro W M));obtain ⟨vz, aa⟩ := kC (v3.setCells v2.heap.size 0 (bvs d2 a));obtain ⟨ab, hZ⟩ := kC v2.heap.size;rw [← aa,← hZ] at L;rw [← aa,← hZ];clear N0 M aa hZ A3 B3 S3 z3 O3 q3 W S0 J;go_simp;go_wp2;go_meet
     case rel=>exact ⟨ab,d2,a,rfl,L.out.1,L.out.2.1,L.out.2.2⟩
    ·obtain ⟨v4, ag⟩ := kC (v1.alloc (aH oK.toArray 30))
     have b4:Below v1.heap.size v1 v4:=by rw [ag];exact kQ
     have A4:CF v4 v1.heap.size oK:=by rw [ag];exact CF.made v1 oK.toArray _
     have z4:v1.heap.size<v4.heap.size:=by rw [ag];simp
     rw [← ag];clear ag;have B4:=B1.trans (b4.mono B1.size);have S4:=And.intro (g8.below B4).r.x.c (g8.below B4).r.c;have M4:=M1.below' b4;refine kF Z (kZ (i:=5) (d:=U 50) (f:=10) (args:=#[aI (bvs (qR d keep) g).toArray,aI #[K p ts.length u]]) (l':=bt 8 127) (R:=fun v w'=>∃ d2 a,v=aI (bvs d2 a).toArray∧lg w' v4.heap.size d2 a∧CP (qR d keep) ts d2∧Below v4.heap.size v4 w') rfl Z Z Z (lT _ _ _ rfl Z Z rfl aes) ((Gu (qR d keep) g p pb po ts.length u ts _ M4 (g8.below B4).r.t HD.out.2).mono fun e w' ⟨⟨d2,⟨a,he,ho⟩,H⟩,N⟩=>⟨_,he,d2,a,rfl,ho,H,N⟩) ?_);rintro _ v5 ⟨d2,a,rfl,O5,W,b5⟩;have B5:=B4.trans (b5.mono B4.size);have S5:=And.intro (g8.below B5).r.x.c (g8.below B5).r.c;have A5:=A4.block (b5.block _ z4);have z5:=lu z4 b5.size;refine ⟨S5,?_⟩;have N0:=stZ A5 z5 O5 (W.fits HD.out.1) (.inl z4);have M:Below w8.heap.size w8 (v5.setCells v1.heap.size 0 (bvs d2 a)):=B5.grown (gsc) B5.size (fun q e=>by injection e with e;have:=B1.size;omega);refine qc (i:=7) (w':=v5.setCells v1.heap.size 0 (bvs d2 a)) (l':=bt 8 255) Z rfl Z Z Z (lM 30 oK (bvs d2 a) (F 8) (F 50) Z Z Z A5 rfl Tryz.sizeBo (nC _ _)) ⟨(g8.below M).r.x.c,(g8.below M).r.c⟩ ?_;refine wpAnyH_done Z ?_ _;have L:=hid (And.intro N0 (And.intro W M));obtain ⟨vz, aa⟩ := kC (v5.setCells v1.heap.size 0 (bvs d2 a));obtain ⟨ab, hZ⟩ := kC v1.heap.size;rw [← aa,← hZ] at L;rw [← aa,← hZ];clear N0 M aa hZ A5 B5 S5 z5 O5 W S0 J;go_simp;go_wp2;go_meet
     case rel=>exact ⟨ab,d2,a,rfl,L.out.1,L.out.2.1,L.out.2.2⟩
   ·obtain ⟨v6, ah⟩ := kC (v0.alloc (aH oK.toArray 30))
    have b6:Below v0.heap.size v0 v6:=by rw [ah];exact kQ
    have A6:CF v6 v0.heap.size oK:=by rw [ah];exact CF.made v0 oK.toArray _
    have z6:v0.heap.size<v6.heap.size:=by rw [ah];simp
    rw [← ah];clear ah;have B6:=J.trans (b6.mono J.size);have S6:=And.intro (g8.below B6).r.x.c (g8.below B6).r.c;refine kF Z (kZ (i:=3) (d:=U 48) (f:=11) (args:=#[aI (bvs d h).toArray,aI #[K p ts.length u],I Y (keep)]) (l':=bt 8 95) (R:=fun v w'=>∃ g,v=aI (bvs (qR d keep) g).toArray∧rU w' (qR d keep) g∧Below v6.heap.size v6 w') rfl Z Z Z (abV _ _ _ _ rfl Z Z Z rfl aex) ((MR d h p pb po ts.length u ts (keep) HS.out (g8.below B6).r.x.m (g8.below B6).r.t HF.out.2.1).mono fun e w' ⟨⟨d1,⟨g,he,ho⟩,H⟩,N⟩=>⟨_,he,g,by rw [H.is ae.out],by rw [← H.is ae.out];exact ho.m (H.fits HF.out.1),N⟩) ?_);rintro _ v7 ⟨g,rfl,M7,b7⟩;have B7:=B6.trans (b7.mono B6.size);have S7:=And.intro (g8.below B7).r.x.c (g8.below B7).r.c;have A7:=A6.block (b7.block _ z6);have z7:=lu z6 b7.size;refine ⟨S7,?_⟩;refine kF Z (kZ (i:=5) (d:=U 50) (f:=10) (args:=#[aI (bvs (qR d keep) g).toArray,aI #[K p ts.length u]]) (l':=bt 8 127) (R:=fun v w'=>∃ d2 a,v=aI (bvs d2 a).toArray∧lg w' v7.heap.size d2 a∧CP (qR d keep) ts d2∧Below v7.heap.size v7 w') rfl Z Z Z (lT _ _ _ rfl Z Z rfl aes) ((Gu (qR d keep) g p pb po ts.length u ts _ M7 (g8.below B7).r.t HD.out.2).mono fun e w' ⟨⟨d2,⟨a,he,ho⟩,H⟩,N⟩=>⟨_,he,d2,a,rfl,ho,H,N⟩) ?_);rintro _ v8 ⟨d2,a,rfl,O8,W,b8⟩;have B8:=B7.trans (b8.mono B7.size);have S8:=And.intro (g8.below B8).r.x.c (g8.below B8).r.c;have A8:=A7.block (b8.block _ z7);have z8:=lu z7 b8.size;refine ⟨S8,?_⟩;have N0:=stZ A8 z8 O8 (W.fits HD.out.1) (.inl z7);have M:Below w8.heap.size w8 (v8.setCells v0.heap.size 0 (bvs d2 a)):=B8.grown (gsc) B8.size (fun q e=>by injection e with e;have:=J.size;omega);refine qc (i:=7) (w':=v8.setCells v0.heap.size 0 (bvs d2 a)) (l':=bt 8 255) Z rfl Z Z Z (lM 30 oK (bvs d2 a) (F 8) (F 50) Z Z Z A8 rfl Tryz.sizeBo (nC _ _)) ⟨(g8.below M).r.x.c,(g8.below M).r.c⟩ ?_;refine wpAnyH_done Z ?_ _;have L:=hid (And.intro N0 (And.intro W M));obtain ⟨vz, aa⟩ := kC (v8.setCells v0.heap.size 0 (bvs d2 a));obtain ⟨ab, hZ⟩ := kC v0.heap.size;rw [← aa,← hZ] at L;rw [← aa,← hZ];clear N0 M aa hZ A8 B8 S8 z8 O8 W S0 J;go_simp;go_wp2;go_meet
    case rel=>exact ⟨ab,d2,a,rfl,L.out.1,L.out.2.1,L.out.2.2⟩
  obtain ⟨ab,dz,hz,rfl,Z9,f9,b9⟩:=hcut;have g9:=g8.below b9;have e9:dz=dy:=f9.uniq aen;rw [e9] at Z9;clear f9 b9 g8 e9;go_wp2_with (first | (refine kY rfl 30 (F 6) rfl X _ rfl g9.x.c underlying30 rfl Tryz.sizeBo ?_) | (refine kY rfl 33 (F 4) rfl P _ rfl g9.r.c underlying33 rfl Gg ?_))
  refine (Gt dx p pb po ts.length u ts ⟨hx,rfl,g9.x.m⟩ g9.r.t HX.out.2.2).mono ?_;rintro cp cn ⟨⟨cm,rfl,ca⟩,bc⟩;obtain rfl:cm=aN:=ca.2 (by rw [HX.out.1];exact WQ ae.out keep);have g10:=g9.below bc;have bb:=Z9.below bc;have y1:cn.cell? ⟨X,1,C⟩=U (aF aK):=by
   have:=(g10.x.c 1 aP).1;rw [HX.out.1] at this;exact this
  clear g9 Z9 bc ca;go_wp2_with (first | (refine aeo Z (Eh (F 7) rfl Z g10.y.c rfl) ?_) | (refine aeo Z (Eh (F 8) rfl Z bb.c rfl) ?_))
  refine (aew dy hy hz g10.y.m bb.m).mono ?_;rintro cq bg ⟨rfl,bj⟩;have g11:=g10.below bj;clear g10 bb bj y1;have y1:=(g11.y.c 1 aP).1;rcases Sv dy.up with hu | hu
  rotate_left
  ·have y2:bg.cell? ⟨ai,1,C⟩=U (aF aK):=by rw [y1,← hu];rfl
   clear y1 hu;go_wp2;go_ret;exact ⟨rfl,g11.r.b⟩
  have y2:bg.cell? ⟨ai,1,C⟩=U (aF aN):=by rw [y1,← hu];rfl
  have HU:=hid hu;clear y1 hu;have y6:bg.cell? ⟨ai,6,C⟩=U (K hy.a1 dy.L1.length hy.c1):=(g11.y.c 6 aP).1;go_wp2_with (first | (refine kY rfl 33 (F 4) rfl P _ rfl g11.r.c underlying33 rfl Gg ?_))
  obtain ⟨b1,o1,g⟩:=g11.y.m.1;refine (P9 p pb po ts.length u ts hy.a1 b1 o1 dy.L1.length hy.c1 dy.L1 g11.r.t g (by have:=HY.out.2.2;unfold BD.small at this;omega)).mono ?_;rintro ct an ⟨⟨sc,sE,sR,v,rfl,st,ow⟩,bk⟩;obtain ⟨rfl,rfl,rfl⟩:=aeH ae.out aen HU.out st;obtain ⟨sa,sn,rfl⟩:=ow.slc;have g12:=g11.below bk;have HE:=hid (And.intro ow st.each);clear g11 bk g y2 y6 ow st;have C0:CF (.alloc an (aH rP 41)) an.heap.size oD:=CF.made an rP 41;go_upto_region 14 with (refine jY rfl 41 (F 9) (F 72) rfl an.heap.size oD [I Y 0,I Y dy.ep,K sa dy.R.length sn] rfl rfl C0 rfl Tryz.sizeStory aeK ?_;intro cz hc hg)
  have g13:=g12.below (stB hg);have au:=aeG HE.out.1 HE.out.2 hg hc;obtain ⟨V, hV⟩ := kC an.heap.size;rw [← hV] at au;rw [← hV];clear hV C0 hc hg g12 HE;obtain ⟨t0,t1,t2⟩:=cf3 au.c;obtain ⟨-,-,-,-,y4,-,-,-,y8⟩:=cf9 g13.y.c;go_wp2_with fail
  obtain ⟨b1,o1,g⟩:=au.m;obtain ⟨b2,o2,a⟩:=g13.y.m.2.2.1;refine (aep sa hy.ar b1 o1 dy.R.length sn b2 o2 hy.cr dy.R g a).mono ?_;rintro cu bh ⟨rfl,bl⟩;have g14:=g13.below bl;clear g13 bl t0 t1 t2 y4 y8 g a au;have HK:=hid (adF ae.out aen HU.out);have y5:bh.cell? ⟨ai,5,C⟩=U (I Y 0):=by
   have:=(g14.y.c 5 aP).1;rw [this,← HK.out.2.1];rfl
  have y7:bh.cell? ⟨ai,7,C⟩=U (K hy.a2 0 hy.c2):=by
   have:=(g14.y.c 7 aP).1;rw [this];show U (K hy.a2 dy.L2.length hy.c2)=_;rw [HK.out.2.2.1];rfl
  have q6:bh.cell? ⟨Q,6,C⟩=U (K h.a1 d.L1.length h.c1):=(g14.r.x.c 6 aP).1;clear HK;go_wp2_with (first | (refine kY rfl 33 (F 4) rfl P _ rfl g14.r.c underlying33 rfl Gg ?_))
  obtain ⟨b1,o1,g⟩:=g14.r.x.m.1;refine (yS p pb po ts.length u ts h.a1 b1 o1 d.L1.length h.c1 d.L1 _ g14.r.t g (by have:=HF.out.2.1;unfold BD.small at this;omega)).mono ?_;rintro cv aq ⟨⟨sc,sE,R,v,rfl,st,ow⟩,bm⟩;have KP:=hid (aeI ae.out aen HU.out st);obtain ⟨va,vn,rfl⟩:=ow.slc;have g15:=g14.below bm;have HE:=hid (And.intro ow st.each);clear g14 bm g y5 y7 q6 ow st;have C0:CF (.alloc aq (aH rP 41)) aq.heap.size oD:=CF.made aq rP 41;go_upto_region 17 with (refine jY rfl 41 (F 10) (F 107) rfl aq.heap.size oD [I Y sc,I Y sE,K va R.length vn] rfl rfl C0 rfl Tryz.sizeStory aeK ?_;intro cg hc hg)
  have g16:=g15.below (stB hg);have a6:=aeG HE.out.1 HE.out.2 hg hc;obtain ⟨T, hT⟩ := kC aq.heap.size;rw [← hT] at a6;rw [← hT];clear hT C0 hc hg g15 HE;go_wp2_with fail
  go_loopw [11] (fun i wr=>∃ k:Nat,k≤R.length∧i=I Y k∧Below cg.heap.size cg wr) (fun i _=>R.length - (intOf i).toNat)
  case atStart=>exact ⟨0,lG _,rfl,mD⟩
  obtain ⟨k,hk,rfl,N⟩:=hrel;have g17:=g16.below N;have a7:=a6.below N;have t2:wr.cell? ⟨T,2,C⟩=U (K va R.length vn):=(a7.c 2 D).1;by_cases ax:k<R.length
  ·have y8:wr.cell? ⟨ai,8,C⟩=U (K hy.ar dy.R.length hy.cr):=(g17.y.c 8 aP).1
   obtain ⟨b1,o1,g⟩:=a7.m;obtain ⟨b2,o2,a⟩:=g17.y.m.2.2.1;have bu:k<dy.R.length:=by rw [KP.out.1];exact ax
   rw [g.ad A] at t2;rw [a.ad A] at y8;have c1:=g.cell k ax;have c2:=a.cell k bu;have hm:=g.max;unfold maxLen at hm;have cy:(k:Int)<(R.length:Int):=A;have cx:(k:Int)<(dy.R.length:Int):=A;have KE:=KP.out.2 k ax;unfold rs at KE;obtain ⟨s, hs⟩ := kC (R.getD k ByteArray.empty);obtain ⟨s2, bf⟩ := kC (dy.R.getD k ByteArray.empty);rw [← hs] at c1;rw [← bf] at c2;rw [← hs,← bf] at KE;clear hs bf g a bu;by_cases hz:s.size=0
   ·have cl:=oP hz
    clear KE hz;go_wp2_with fail
    go_quiet (fail)
    go_wp2;go_roundw
    case rel=>exact ⟨k+1,A,aW,below_drewN N _⟩
    case measure=>simp [intOf];omega
   ·obtain rfl:=KE hz
    have cl:=oQ hz;clear hz KE;go_wp2_with fail
    go_quiet (fail)
    go_wp2;go_roundw
    case rel=>exact ⟨k+1,A,aW,below_drewN N _⟩
    case measure=>simp [intOf];omega
  obtain rfl:k=R.length:=A;clear ax hk a7 a6 g16 N;go_upto_region 22 with fail
  have HD:Hid ((qR d ((d.L2.length:Nat):Int)).fits∧(qR d ((d.L2.length:Nat):Int)).small):=hid ⟨Jg.fits (.inl ⟨ae.out,rfl⟩) HF.out.1,Jg.small (.inl ⟨ae.out,rfl⟩) HF.out.2.1⟩;go_simp;go_cut [12] (fun sv wx=>∃ ab d2 a,sv=aG (U ⟨ab,0,C⟩)∧BX wx ab d2 a∧CP (qR d ((d.L2.length:Nat):Int)) ts d2∧Below wr.heap.size wr wx)
  case first =>
   refine wp_region_held (S:=fun w'=>CF w' Q (bvs d h)∧CF w' P [K p ts.length u]) Z ?_;change wpAnyH _ _ _ _ _ _ _ _ (World.drew _);obtain ⟨v0, ak⟩ := kC wr.drew;have J:Below wr.heap.size wr v0:=by rw [ak];exact mD.drew
   rw [← ak];clear ak;have S0:=And.intro (g17.below J).r.x.c (g17.below J).r.c;refine jZ (i:=0) (d:=U 134) (v:=aI (bvs d h).toArray) (l':=bt 11 1) rfl (fun _ hh=>Eh (F 3) Z Z hh.1 rfl) S0 ?_;refine jZ (i:=1) (d:=U 135) (v:=aI #[K p ts.length u]) (l':=bt 11 3) rfl (fun _ hh=>pK (F 4) Z Z (hh.2 0 D).1) S0 ?_;refine jZ (i:=2) (d:=U 136) (v:=aG (U ⟨Q,6,C⟩)) (l':=bt 11 7) rfl (fun _ _=>Z) S0 ?_;refine jZ (i:=3) (d:=U 137) (v:=aG (U ⟨Q,7,C⟩)) (l':=bt 11 15) rfl (fun _ _=>Z) S0 ?_;refine jZ (i:=4) (d:=U 138) (v:=K h.a2 d.L2.length h.c2) (l':=bt 11 31) rfl (fun _ hh=>pY (F 137) Z Z (hh.1 7 aP).1) S0 ?_;refine jZ (i:=5) (d:=U 139) (v:=I Y ((d.L2.length:Nat):Int)) (l':=bt 11 63) rfl (fun _ _=>Z) S0 ?_;refine jZ (i:=7) (d:=U 141) (v:=aI #[K p ts.length u]) (l':=bt 11 191) rfl (fun _ hh=>pK (F 4) Z Z (hh.2 0 D).1) S0 ?_;refine nT (i:=6) (j:=9) Z (kZ (i:=6) (d:=U 140) (f:=8) (args:=#[aI (bvs d h).toArray,aI #[K p ts.length u],I Y ((d.L2.length:Nat):Int)]) (l':=bt 11 255) (R:=fun v w'=>∃ g,v=aI (bvs (qR d ((d.L2.length:Nat):Int)) g).toArray∧rU w' (qR d ((d.L2.length:Nat):Int)) g∧Below v0.heap.size v0 w') rfl Z Z Z (abV _ _ _ _ rfl Z Z Z rfl aez) ((XT d h p pb po ts.length u ts ((d.L2.length:Nat):Int) (g17.below J).r.x.m (g17.below J).r.t HF.out.2.1).mono fun e w' ⟨⟨d1,⟨g,he,ho⟩,H⟩,N⟩=>⟨_,he,g,by rw [H.is ae.out],by rw [← H.is ae.out];exact ho.m (H.fits HF.out.1),N⟩) ?_) (kM (i:=9) (d:=U 12) (v:=aG (U ⟨v0.heap.size,0,C⟩)) (w':=v0.alloc (aH oK.toArray 30)) (l':=bt 11 703) rfl Z Z Z (aer Z) ⟨S0.1.block (kU _ _ _ (g17.below J).r.x.l),S0.2.block (kU _ _ _ (g17.below J).r.l)⟩ ?_)
   ·rintro _ v1 ⟨g,rfl,M1,b1⟩
    have B1:=J.trans (b1.mono J.size);have S1:=And.intro (g17.below B1).r.x.c (g17.below B1).r.c;refine ⟨S1,?_⟩;refine nT (i:=8) (j:=9) Z (kZ (i:=8) (d:=U 142) (f:=9) (args:=#[aI (bvs (qR d ((d.L2.length:Nat):Int)) g).toArray,aI #[K p ts.length u]]) (l':=bt 11 511) (R:=fun v w'=>∃ d2 a,v=aI (bvs d2 a).toArray∧lg w' v1.heap.size d2 a∧CP (qR d ((d.L2.length:Nat):Int)) ts d2∧Below v1.heap.size v1 w') rfl Z Z Z (lT _ _ _ rfl Z Z rfl aeu) ((XR (qR d ((d.L2.length:Nat):Int)) g p pb po ts.length u ts M1 (g17.below B1).r.t HD.out.2).mono fun e w' ⟨⟨d2,⟨a,he,ho⟩,H⟩,N⟩=>⟨_,he,d2,a,rfl,ho,H,N⟩) ?_) (kM (i:=9) (d:=U 12) (v:=aG (U ⟨v1.heap.size,0,C⟩)) (w':=v1.alloc (aH oK.toArray 30)) (l':=bt 11 767) rfl Z Z Z (aer Z) ⟨S1.1.block (kU _ _ _ (g17.below B1).r.x.l),S1.2.block (kU _ _ _ (g17.below B1).r.l)⟩ ?_)
    ·rintro _ v2 ⟨d2,a,rfl,O2,W,b2⟩
     have B2:=B1.trans (b2.mono B1.size);have S2:=And.intro (g17.below B2).r.x.c (g17.below B2).r.c;refine ⟨S2,?_⟩;refine kF Z (kM (i:=9) (d:=U 12) (v:=aG (U ⟨v2.heap.size,0,C⟩)) (w':=v2.alloc (aH oK.toArray 30)) (l':=bt 11 1023) rfl Z Z Z (aer Z) ⟨S2.1.block (kU _ _ _ (g17.below B2).r.x.l),S2.2.block (kU _ _ _ (g17.below B2).r.l)⟩ ?_);obtain ⟨v3, af⟩ := kC (v2.alloc (aH oK.toArray 30));have b3:Below v2.heap.size v2 v3:=by rw [af];exact kQ
     have A3:CF v3 v2.heap.size oK:=by rw [af];exact CF.made v2 oK.toArray _
     have z3:v2.heap.size<v3.heap.size:=by rw [af];simp
     rw [← af];clear af;have B3:=B2.trans (b3.mono B2.size);have S3:=And.intro (g17.below B3).r.x.c (g17.below B3).r.c;have O3:=O2.below b3;have q3:=O2.lo;have N0:=stZ A3 z3 O3 (W.fits HD.out.1) (.inr (fun r hr q hq=>(q3 r hr q hq).2));have M:Below wr.heap.size wr (v3.setCells v2.heap.size 0 (bvs d2 a)):=B3.grown (gsc) B3.size (fun q e=>by injection e with e;have:=B2.size;omega);refine qc (i:=10) (w':=v3.setCells v2.heap.size 0 (bvs d2 a)) (l':=bt 11 2047) Z rfl Z Z Z (lM 30 oK (bvs d2 a) (F 12) (F 142) Z Z Z A3 rfl Tryz.sizeBo (nC _ _)) ⟨(g17.below M).r.x.c,(g17.below M).r.c⟩ ?_;refine wpAnyH_done Z ?_ _;have L:=hid (And.intro N0 (And.intro W M));obtain ⟨vz, aa⟩ := kC (v3.setCells v2.heap.size 0 (bvs d2 a));obtain ⟨ab, hZ⟩ := kC v2.heap.size;rw [← aa,← hZ] at L;rw [← aa,← hZ];clear N0 M aa hZ A3 B3 S3 z3 O3 q3 W S0 J;go_simp;go_wp2;go_meet
     case rel=>exact ⟨ab,d2,a,rfl,L.out.1,L.out.2.1,L.out.2.2⟩
    ·obtain ⟨v4, ag⟩ := kC (v1.alloc (aH oK.toArray 30))
     have b4:Below v1.heap.size v1 v4:=by rw [ag];exact kQ
     have A4:CF v4 v1.heap.size oK:=by rw [ag];exact CF.made v1 oK.toArray _
     have z4:v1.heap.size<v4.heap.size:=by rw [ag];simp
     rw [← ag];clear ag;have B4:=B1.trans (b4.mono B1.size);have S4:=And.intro (g17.below B4).r.x.c (g17.below B4).r.c;have M4:=M1.below' b4;refine kF Z (kZ (i:=8) (d:=U 142) (f:=9) (args:=#[aI (bvs (qR d ((d.L2.length:Nat):Int)) g).toArray,aI #[K p ts.length u]]) (l':=bt 11 1023) (R:=fun v w'=>∃ d2 a,v=aI (bvs d2 a).toArray∧lg w' v4.heap.size d2 a∧CP (qR d ((d.L2.length:Nat):Int)) ts d2∧Below v4.heap.size v4 w') rfl Z Z Z (lT _ _ _ rfl Z Z rfl aeu) ((XR (qR d ((d.L2.length:Nat):Int)) g p pb po ts.length u ts M4 (g17.below B4).r.t HD.out.2).mono fun e w' ⟨⟨d2,⟨a,he,ho⟩,H⟩,N⟩=>⟨_,he,d2,a,rfl,ho,H,N⟩) ?_);rintro _ v5 ⟨d2,a,rfl,O5,W,b5⟩;have B5:=B4.trans (b5.mono B4.size);have S5:=And.intro (g17.below B5).r.x.c (g17.below B5).r.c;have A5:=A4.block (b5.block _ z4);have z5:=lu z4 b5.size;refine ⟨S5,?_⟩;have N0:=stZ A5 z5 O5 (W.fits HD.out.1) (.inl z4);have M:Below wr.heap.size wr (v5.setCells v1.heap.size 0 (bvs d2 a)):=B5.grown (gsc) B5.size (fun q e=>by injection e with e;have:=B1.size;omega);refine qc (i:=10) (w':=v5.setCells v1.heap.size 0 (bvs d2 a)) (l':=bt 11 2047) Z rfl Z Z Z (lM 30 oK (bvs d2 a) (F 12) (F 142) Z Z Z A5 rfl Tryz.sizeBo (nC _ _)) ⟨(g17.below M).r.x.c,(g17.below M).r.c⟩ ?_;refine wpAnyH_done Z ?_ _;have L:=hid (And.intro N0 (And.intro W M));obtain ⟨vz, aa⟩ := kC (v5.setCells v1.heap.size 0 (bvs d2 a));obtain ⟨ab, hZ⟩ := kC v1.heap.size;rw [← aa,← hZ] at L;rw [← aa,← hZ];clear N0 M aa hZ A5 B5 S5 z5 O5 W S0 J;go_simp;go_wp2;go_meet
     case rel=>exact ⟨ab,d2,a,rfl,L.out.1,L.out.2.1,L.out.2.2⟩
   ·obtain ⟨v6, ah⟩ := kC (v0.alloc (aH oK.toArray 30))
    have b6:Below v0.heap.size v0 v6:=by rw [ah];exact kQ
    have A6:CF v6 v0.heap.size oK:=by rw [ah];exact CF.made v0 oK.toArray _
    have z6:v0.heap.size<v6.heap.size:=by rw [ah];simp
    rw [← ah];clear ah;have B6:=J.trans (b6.mono J.size);have S6:=And.intro (g17.below B6).r.x.c (g17.below B6).r.c;refine kF Z (kZ (i:=6) (d:=U 140) (f:=8) (args:=#[aI (bvs d h).toArray,aI #[K p ts.length u],I Y ((d.L2.length:Nat):Int)]) (l':=bt 11 767) (R:=fun v w'=>∃ g,v=aI (bvs (qR d ((d.L2.length:Nat):Int)) g).toArray∧rU w' (qR d ((d.L2.length:Nat):Int)) g∧Below v6.heap.size v6 w') rfl Z Z Z (abV _ _ _ _ rfl Z Z Z rfl aez) ((XT d h p pb po ts.length u ts ((d.L2.length:Nat):Int) (g17.below B6).r.x.m (g17.below B6).r.t HF.out.2.1).mono fun e w' ⟨⟨d1,⟨g,he,ho⟩,H⟩,N⟩=>⟨_,he,g,by rw [H.is ae.out],by rw [← H.is ae.out];exact ho.m (H.fits HF.out.1),N⟩) ?_);rintro _ v7 ⟨g,rfl,M7,b7⟩;have B7:=B6.trans (b7.mono B6.size);have S7:=And.intro (g17.below B7).r.x.c (g17.below B7).r.c;have A7:=A6.block (b7.block _ z6);have z7:=lu z6 b7.size;refine ⟨S7,?_⟩;refine kF Z (kZ (i:=8) (d:=U 142) (f:=9) (args:=#[aI (bvs (qR d ((d.L2.length:Nat):Int)) g).toArray,aI #[K p ts.length u]]) (l':=bt 11 1023) (R:=fun v w'=>∃ d2 a,v=aI (bvs d2 a).toArray∧lg w' v7.heap.size d2 a∧CP (qR d ((d.L2.length:Nat):Int)) ts d2∧Below v7.heap.size v7 w') rfl Z Z Z (lT _ _ _ rfl Z Z rfl aeu) ((XR (qR d ((d.L2.length:Nat):Int)) g p pb po ts.length u ts M7 (g17.below B7).r.t HD.out.2).mono fun e w' ⟨⟨d2,⟨a,he,ho⟩,H⟩,N⟩=>⟨_,he,d2,a,rfl,ho,H,N⟩) ?_);rintro _ v8 ⟨d2,a,rfl,O8,W,b8⟩;have B8:=B7.trans (b8.mono B7.size);have S8:=And.intro (g17.below B8).r.x.c (g17.below B8).r.c;have A8:=A7.block (b8.block _ z7);have z8:=lu z7 b8.size;refine ⟨S8,?_⟩;have N0:=stZ A8 z8 O8 (W.fits HD.out.1) (.inl z7);have M:Below wr.heap.size wr (v8.setCells v0.heap.size 0 (bvs d2 a)):=B8.grown (gsc) B8.size (fun q e=>by injection e with e;have:=J.size;omega);refine qc (i:=10) (w':=v8.setCells v0.heap.size 0 (bvs d2 a)) (l':=bt 11 2047) Z rfl Z Z Z (lM 30 oK (bvs d2 a) (F 12) (F 142) Z Z Z A8 rfl Tryz.sizeBo (nC _ _)) ⟨(g17.below M).r.x.c,(g17.below M).r.c⟩ ?_;refine wpAnyH_done Z ?_ _;have L:=hid (And.intro N0 (And.intro W M));obtain ⟨vz, aa⟩ := kC (v8.setCells v0.heap.size 0 (bvs d2 a));obtain ⟨ab, hZ⟩ := kC v0.heap.size;rw [← aa,← hZ] at L;rw [← aa,← hZ];clear N0 M aa hZ A8 B8 S8 z8 O8 W S0 J;go_simp;go_wp2;go_meet
    case rel=>exact ⟨ab,d2,a,rfl,L.out.1,L.out.2.1,L.out.2.2⟩
  obtain ⟨Z2,da,ha,rfl,A9,fa,ba⟩:=hcut;have g18:=g17.below ba;clear g17 ba;have q1:=(g18.r.x.c 1 aP).1;rcases Sv d.up with hd | hd
  rotate_left
  ·have q2:wc.cell? ⟨Q,1,C⟩=U (aF aK):=by rw [q1,← hd];rfl
   clear q1 hd;go_wp2;go_ret;exact ⟨rfl,g18.r.b⟩
  have q2:wc.cell? ⟨Q,1,C⟩=U (aF aN):=by rw [q1,← hd];rfl
  have a1:=(A9.c 1 aP).1;rcases Sv da.up with hu | hu
  rotate_left
  ·have a2:wc.cell? ⟨Z2,1,C⟩=U (aF aK):=by rw [a1,← hu];rfl
   clear q1 hd a1 hu;go_wp2;go_ret;exact ⟨rfl,g18.r.b⟩
  have a2:wc.cell? ⟨Z2,1,C⟩=U (aF aN):=by rw [a1,← hu];rfl
  have ea:=aeJ ae.out fa hu hd;have a8:wc.cell? ⟨Z2,8,C⟩=U (K ha.ar da.R.length ha.cr):=(A9.c 8 aP).1;have q8:wc.cell? ⟨Q,8,C⟩=U (K h.ar d.R.length h.cr):=(g18.r.x.c 8 aP).1;obtain ⟨b1,o1,g⟩:=A9.m.2.2.1;obtain ⟨b2,o2,a⟩:=g18.r.x.m.2.2.1;rw [ea] at a8 g;clear q1 hd a1 hu ea fa A9;go_wp2_with fail
  refine (aep ha.ar h.ar b1 o1 d.R.length ha.cr b2 o2 h.cr d.R g a).mono ?_;rintro cw c4 ⟨rfl,ch⟩;go_wp2;go_ret;exact ⟨rfl,(g18.below ch).r.b⟩
theorem aeB {H:Type} {enc:TypeId × Value→H} {base fuel:Nat} {x:DataW H × List MemPlace} 
  (p:DataW.trod enc prog W base (fun _=>aN) aN fuel 22 cs=U x):∃ a b o n c,cs=[K a n c]∧BytesAt W a b o n∧(0<n→b<W.heap.size)∧n≤c∧n≤maxLen:=by
 rcases open_ints underlying22 underlying5 Z p with ⟨f,_⟩ | ⟨y,n,c,d,f,_,q,hm,t,_,i,s⟩
 ·exact ⟨C,0,0,0,0,f,⟨fun h=>absurd h A,fun j e=>absurd e A⟩,fun h=>absurd h A,kL,lG _⟩
 ·have v:d.length=c:=by simpa using t
  by_cases k:n=0
  ·subst k
   exact ⟨U y,0,0,0,c,f,⟨fun h=>absurd h A,fun j e=>absurd e A⟩,fun h=>absurd h A,lG _,lG _⟩
  ·obtain ⟨b,off,spot⟩:=y
   have l:=i 0 A;have r:spot=C:=by simpa [Addr.add] using World.cell?_spot l
   subst r;have g:∀ j,j<n→W.cell? ⟨b,off+j,C⟩=U (.int .u8 (d.getD j 0)):=fun j e=>by
    have:=i j A;rwa [Addr.add_lit] at this
   refine ⟨_,b,off,n,c,f,⟨fun _=>rfl,fun j e=>?_⟩,fun _=>Ep _ _ (g 0 A),q,A⟩;have hw:=s (d.getD j 0) (by simp only [List.getD,nH (show j<d.length by omega),aa8];exact IC _);have u:0≤d.getD j 0∧d.getD j 0<256:=by have:=bounds_u8 hw;omega
   exact ⟨(d.getD j 0).toNat,A,by rw [g j e];congr 2;omega⟩
theorem aev (os:Os) (started:os.Started) (H:Type) (enc:TypeId × Value→H) :
  ReturnsInHanded {} checked os 3 .any (Rows.fnRisenSpec.pre6 enc prog f3 Rows.fnRisenRow.domain aK) (Rows.fnRisenSpec.post enc prog f3 aK aN aK aK):=by
 refine returnsInHanded_of_change (C:=checked) Tryz.own started Z func3
  (ChangeSpec.witness6 (enc:=enc) (C:=checked) aK ⟨#[],#[K C 0 0],[]⟩ 8 Z Z Z Z) ?_
 intro W base args l gs before k g aa _;have i:∀ (j:Nat) t v,f3.params[j]?=U t→args[j]?=U v→Value.okWide prog W .any base t v:=k;have s:=g;obtain ⟨p,q,hA0,r,rfl,ab,ae⟩:=g;have f:DataW.TrodAll enc prog W 0 (fun _=>aN) aN f3.params.toList args.toList l p:=hA0;rw [params3] at f i;obtain ⟨v0,af,d0,V,Q,q0,X,rfl,rfl,d,R⟩:=trodAll_cons f;obtain ⟨rfl,rfl,rfl⟩:=trodAll_nil R;obtain rfl:args=#[v0]:=by cases args;simp_all
 obtain ⟨rfl,rfl⟩:=trodVars_none r;have k0:=d;have P:∀ x∈Q,x.block<W.heap.size:=by obtain ⟨m,hm⟩:=k0;exact DataW.trod_lt m _ _ _ hm
 obtain ⟨fuel,M⟩:=d;obtain ⟨ad,b,o,n,c,L,z,u,J,N⟩:=aeB M;obtain rfl:v0=K ad n c:=by
  obtain ⟨S,n',T,rfl⟩:=okWide_slice underlying22 (i 0 22 v0 rfl rfl);simpa [Value.cells] using L
 clear hA0 k;refine (aey ad b o n c W z u J N).mono fun e W' ⟨he,a⟩=>?_;subst he;exact ⟨_,rfl,_,_,_,[],_,[],s,trodAll_mk1 (shut_bool underlying4 _),(trodAll_cons_mk (Below.trod Tryz.laidOut Z (of_decide_eq_true Z) k0 a P) trodAll_mk0),rfl,a.frame _,fun h=>by cases h⟩
theorem fnRisen_holds:Rows.FnRisenSaid :=
 OpenClaim.holds_of_wide 3 f3 rfl rfl rfl rfl rfl rfl rfl ⟨rfl,rfl,rfl,rfl,rfl⟩ rfl rfl rfl rfl rfl Z func3 Z
  (of_decide_eq_true Z) (by unfold Func.isWrapper;first | (rw [if_pos (by decide +kernel)];kernel_rfl) | (rw [if_neg (by decide +kernel)];exact ⟨rfl,rfl⟩))
  (fun os started H a _=>aev os started H a)
#print axioms fnRisen_holds
end Go.Proofs.YtfkkipgcfoegmaaGreat
