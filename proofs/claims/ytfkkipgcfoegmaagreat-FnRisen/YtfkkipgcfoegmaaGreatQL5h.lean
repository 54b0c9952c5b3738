
import Derived.Test.YtfkkipgcfoegmaaGreatQL7r
set_option maxHeartbeats 4000000
set_option maxRecDepth 100000
namespace Go.Proofs.YtfkkipgcfoegmaaGreat
open Go.Proofs.Tryz
open Go.Value renaming slice→K,string→E,bool→aF,pointer→aG,agg→aI
open Option renaming none→C,some→U
open Go.Operand renaming tmp→F
open Go.Obj renaming cells→aH
open Go.Ending renaming returned→aO
open Go.Value renaming int→I
open Go.IntKind renaming i64→Y
open Go.RowKit
variable {B c9 i:Nat} {W w w0 w9 wr:World} {a9:Option Addr} {d:BD} {e:Int} {h:BH} {ob:Obj} {v:Value} {x:ByteArray}
section
section
variable {ρ:Operand→Value} {o:Oper} {w:World}
theorem PS (x:Operand) (h:o.op=.move x) (a:ρ x=v):(execOp ρ o).run prog w=.ok (.value v) w:=by
 unfold execOp;rw [h];simp [go_sem,a]
theorem abQ (x y:Operand) (b a n c i:Nat) (h:o.op=.indexAddr 31 x y) (e:ρ x=K (U ⟨b,a,C⟩) n c) (f:ρ y=I Y (i:Nat)) (hi:i<n):(execOp ρ o).run prog w=.ok (.value (aG (U ⟨b,a+i*3,C⟩))) w:=by
 have d:(i:Int)<(n:Int):=A;unfold execOp;rw [h];simp [go_sem,e,f,d]
theorem LV (x y:Operand) (b n c i:Nat) (h:o.op=.indexAddr 79 x y) (d:ρ x=K (U ⟨b,0,C⟩) n c) (e:ρ y=I Y (i:Nat)) (hi:i<n):(execOp ρ o).run prog w=.ok (.value (aG (U ⟨b,i,C⟩))) w:=by
 have a:(i:Int)<(n:Int):=A;unfold execOp;rw [h];simp [go_sem,d,e,a]
theorem Yy (x y:Operand) (s t:ByteArray) (h:o.op=.binOp .add 9 x y 9) (a:ρ x=E s) (c:ρ y=E t) (e:s.size+t.size≤1000000):(execOp ρ o).run prog w=.ok (.value (E (s ++ t))) w:=by
 have d:¬ 9223372036854775807<s.size+t.size:=A;unfold execOp;rw [h];simp [go_sem,a,c,d]
theorem Qw (x y:Operand) (a b:Int) (h:o.op=.binOp .add 3 x y 3) (c:ρ x=I Y a) (d:ρ y=I Y b) (e : -1000000≤a+b∧a+b≤1000000):(execOp ρ o).run prog w=.ok (.value (I Y (a+b))) w:=by
 have hw:IntKind.i64.wrap (a+b)=a+b:=bF;unfold execOp;rw [h];simp [go_sem,c,d];first | done | exact hw | (rw [hw]) | omega
theorem JG (a c d e:Operand) (i0 i1 i2 i3:Int) (h:o.op=.buildSlice 79 4 #[(0,a),(1,c),(2,d),(3,e)]) (f:ρ a=I Y i0) (g:ρ c=I Y i1) (i:ρ d=I Y i2) (j:ρ e=I Y i3) :
  (execOp ρ o).run prog w=.ok (.value (K (U ⟨w.heap.size,0,C⟩) 4 4)) (w.alloc (aH #[I Y i0,I Y i1,I Y i2,I Y i3] 3)):=by
 unfold execOp;rw [h];simp [go_sem,f,g,i,j]
end
section
variable {w w9:World} {B g o n c:Nat} {ts:List kJ} {vs:List Value} {i:Nat}
end
section
variable {w wr w':World} {g Po k k':Nat} {v v':Value} {ts ts':List kJ} {vs vs':List Value}
end
section
variable {w wr w9:World} {g Po k b o n c i:Nat} {ts:List kJ} {vs:List Value}
end
section
variable {P:Program} {md:Region.Mode} {ops:Array Oper} {Q:Exit→Act→World→Prop} {S:World→Prop} {i j m:Nat} {fuel:Nat} {l:Array Bool} {a:Act} {w:World}
end
theorem EI (v1 v2:Value) (w:World):Sem.run prog (callFunc 17 #[v1,v2]) w=.ok (.enter 17 #[v1,v2]) w:=Z
end

section
theorem Tryz.sizeEn:(prog.info? 66).map (·.size)=U 4:=Z
theorem qX (v1:Value) (w:World):Sem.run prog (callFunc 93 #[v1]) w=.ok (.enter 93 #[v1]) w:=Z
theorem DW {ρ:Operand→Value} {o:Oper} (a c d e:Operand) (i0 i1 i2:Int) (s:ByteArray) (h:o.op=.build 66 #[(0,a),(1,c),(2,d),(3,e)]) (f:ρ a=I Y i0) (g:ρ c=I Y i1) (i:ρ d=I Y i2) (j:ρ e=E s) :
  (execOp ρ o).run prog w=.ok (.value (aI #[I Y i0,I Y i1,I Y i2,E s])) w:=by
 unfold execOp;rw [h];simp [go_sem,f,g,i,j]
theorem IJ {k d:Int}:∀ v∈[I Y k,I Y e,I Y d,E x],v.oneCell'=true:=by
 intro v a;simp only [mG,mF,or_false] at a;rcases a with rfl | rfl | rfl | rfl <;> rfl
structure ES (w:World) (g X:Nat) (cs:List Value) (k:Nat) (wr:World):Prop where
 R:CF wr X cs
 rd:RD wr g k
 gr:w.grownBy wr (U g)
 z:X<wr.heap.size
 gl:g<w.heap.size
 lo:w.heap.size≤X
section
variable {w wr w':World} {g X k k':Nat} {cs:List Value}
theorem ES.below (h:ES w g X cs k wr) (a:Below wr.heap.size wr w'):ES w g X cs k w' :=
 have c:=h.z;have e:=h.lo;have d:=h.gl
 ⟨h.R.block (a.block _ c),h.rd.below a,grownBy_trans h.gr (grownBy_below a),lu c a.size,d,e⟩
theorem ES.drew (h:ES w g X cs k wr):ES w g X cs k wr.drew:=h.below mD.drew
theorem ES.alloc (h:ES w g X cs k wr) (ob:Obj):ES w g X cs k (wr.alloc ob):=h.below kQ
theorem ES.call (h:ES w g X cs k wr) (f:RD w' g k') (a:wr.grownBy w' (U g)):ES w g X cs k' w' :=
 have d:=h.gl;have c:=h.z;have e:=h.lo
 ⟨h.R.block (a.block _ c aQ),f,grownBy_trans h.gr a,lu c a.size,d,e⟩
theorem ES.put (h:ES w g X cs k wr) {vs:List Value} (e:cs.length=vs.length):ES w g X vs k (wr.setCells X 0 vs) :=
 have a:=mY X vs 0 wr wr (lJ _ _);have d:=h.gl;have j:=h.z;have f:=h.lo
 ⟨h.R.stored e,h.rd.grown a (fun q c=>by injection c with c;omega),⟨a.os.trans h.gr.os,a.tape.trans h.gr.tape,a.output.trans h.gr.output,lH h.gr.size a.size,fun q c i=>(a.block q (lu c h.gr.size) aQ).trans (h.gr.block q c i)⟩,lu j a.size,d,f⟩
end
def y4 (r:Nat):Int:=[(0:Int),1,2,39].getD r 0
theorem EY {u:World} {q r:Nat} (h:CF u q [I Y 0,I Y 1,I Y 2,I Y 39]) (a:r<4):u.cell? ⟨q,r,C⟩=U (I Y (y4 r)):=by
 rcases (show r=0∨r=1∨r=2∨r=3 by omega) with rfl | rfl | rfl | rfl
 ·exact (h 0 D).1
 ·exact (h 1 D).1
 ·exact (h 2 D).1
 ·exact (h 3 D).1
theorem Ho {r:Nat} (a:r<4) : -1000≤y4 r∧y4 r≤1000:=by
 rcases (show r=0∨r=1∨r=2∨r=3 by omega) with rfl | rfl | rfl | rfl <;> simp [y4]
theorem FU.small {k d:Int} {r:ByteArray} (h:FU k e d x r) (_hx:x.size≤110):r.size≤120:=by
 rcases h with ⟨_,rfl⟩ | ⟨_,rfl⟩
 ·have h:(lS k e d x).size=(D7 k e d x).length:=by simp [lS,ByteArray.size]
  rw [h,DI];omega
 ·decide
def IL (e:Ending) (z:Nat):Prop:=∃ (d c a:Int) (x:ByteArray),e=aO (aI #[I Y d,I Y c,I Y a,E x])∧(-1000≤d∧d≤1000)∧(-1000≤c∧c≤1000)∧(-1000≤a∧a≤1000)∧x.size≤z
theorem XI (g k:Nat) (w:World) (h:RD w g k) (hk:k≤900000) :
  Calls prog 64 #[aG (U ⟨g,0,C⟩)] w fun e w'=>IL e 100∧RD w' g (k+10)∧w.grownBy w' (U g):=by
 have cw:=h.lt;obtain ⟨W, hW⟩ := kC (w.alloc (aH EX 66));have S0:ES w g w.heap.size zh k W:=by
  rw [hW];exact ⟨CF.made w EX _,h.keep (fun q hq=>kU _ _ _ A),FZ (lJ _ _),D,cw,kL⟩
 have HW:=hid hW;clear hW h;go_enter func64,ntmps64
 go_wp2_with fail
 rw [← HW.out];clear HW;refine (pick_any g 3 k _ S0.rd A A A).mono ?_;rintro e w1 ⟨⟨r1,dj,rfl⟩,cn,ck⟩;have S1:=S0.call cn ck;clear cn ck S0;by_cases h0:r1=0
 ·subst h0
  obtain ⟨WA, ax⟩ := kC (w1.alloc (aH #[I Y 1,I Y 2,I Y 256,I Y 300] 3));have SA:ES w g w.heap.size zh (k+1) WA:=by rw [ax];exact S1.alloc _
  have cA:CF WA w1.heap.size [I Y 1,I Y 2,I Y 256,I Y 300]:=by rw [ax];exact CF.made w1 #[I Y 1,I Y 2,I Y 256,I Y 300] 3
  have zA:w1.heap.size<WA.heap.size:=by rw [ax];simp
  have c7:g<w1.heap.size:=by have:=S1.gr.size;omega
  have ch:=hid ax;clear ax S1;go_wp2_with fail
  rw [← ch.out];clear ch;refine (pick_any g 4 (k+1) _ SA.rd A A A).mono ?_;rintro e w2 ⟨⟨r2,dk,rfl⟩,cp,bm⟩;have S2:=SA.call cp bm;have c2:=cA.block (bm.block _ zA aQ);clear cp bm SA cA;obtain ⟨xx,cq,dn⟩:∃ xx:Int,(-1000≤xx∧xx≤1000)∧w2.cell? ⟨w1.heap.size,r2,C⟩=U (I Y xx):=by
   rcases (show r2=0∨r2=1∨r2=2∨r2=3 by omega) with rfl | rfl | rfl | rfl
   ·exact ⟨1,A,(c2 0 D).1⟩
   ·exact ⟨2,A,(c2 1 D).1⟩
   ·exact ⟨256,A,(c2 2 D).1⟩
   ·exact ⟨300,A,(c2 3 D).1⟩
  have dm:(r2:Int)<4:=A;have R2:=S2.R;have HX:=hid cq;clear c2 zA cq;go_wp2_with (refine jY rfl 66 (F 2) (F 11) rfl w.heap.size zh [I Y 1,I Y xx,I Y 0,E ⟨#[]⟩] rfl rfl R2 rfl Tryz.sizeEn (IJ) ?_;intro dp cv al)
  obtain ⟨k0,k1,Q,T⟩:=C9 cv;exact bodyPost_ret (v:=aI #[I Y 1,I Y xx,I Y 0,E ⟨#[]⟩]) bK rfl
   ⟨⟨_,_,_,_,rfl,A,HX.out,A,cZ⟩,(S2.rd.grown al (fun q hq=>by injection hq with hq;omega)).mono A,⟨al.os.trans S2.gr.os,al.tape.trans S2.gr.tape,al.output.trans S2.gr.output,lH S2.gr.size al.size,fun q hq cx=>(al.block q (lu hq S2.gr.size) aQ).trans (S2.gr.block q hq cx)⟩⟩
 ·have c6:¬ (r1:Int)=0:=by omega
  go_upto_region 3 with fail
  refine wp_region_held (S:=fun _=>True) Z ?_;change wpAnyH _ _ _ _ _ _ _ _ (World.drew _);have s0:=S1.drew;obtain ⟨x0, bp⟩ := kC w1.drew;rw [← bp] at s0;rw [← bp];clear bp S1;refine jZ (i:=0) (d:=U 12) (v:=aG (U ⟨g,0,C⟩)) (l':=(bt 12 1)) rfl (fun _ N=>PS (F 0) Z Z) trivial ?_;refine jZ (i:=4) (d:=U 16) (v:=aG (U ⟨g,0,C⟩)) (l':=(bt 12 17)) rfl (fun _ N=>PS (F 0) Z Z) trivial ?_;refine jZ (i:=8) (d:=U 20) (v:=aG (U ⟨g,0,C⟩)) (l':=(bt 12 273)) rfl (fun _ N=>PS (F 0) Z Z) trivial ?_;refine nT (i:=1) (j:=3) Z (kZ (i:=1) (d:=U 13) (f:=17) (args:=#[aG (U ⟨g,0,C⟩),I Y 3]) (l':=(bt 12 275)) (R:=fun v w'=>(∃ r:Nat,r<3∧v=I Y r)∧RD w' g (k+1+1)∧x0.grownBy w' (U g)) rfl Z Z Z (lT _ _ _ rfl Z Z rfl EI) ((pick_any g 3 (k+1) x0 s0.rd A A A).mono fun e w' ⟨⟨r,hr,he⟩,u,H⟩=>⟨_,he,⟨r,hr,rfl⟩,u,H⟩) ?_) (kM (i:=3) (d:=U 15) (v:=K (U ⟨x0.heap.size,0,C⟩) 4 4) (w':=x0.alloc (aH qO 3)) (l':=(bt 12 281)) rfl Z Z Z (JG (.const (I Y 0)) (.const (I Y 1)) (.const (I Y 2)) (.const (I Y 39)) 0 1 2 39 Z Z Z Z Z) trivial ?_)
  ·rintro _ aa ⟨⟨l,c5,rfl⟩,s,o⟩
   have s2:=s0.call s o;clear s o s0;refine ⟨trivial,?_⟩;refine jZ (i:=2) (d:=U 14) (v:=I Y (1+(l:Int))) (l':=(bt 12 279)) rfl (fun _ N=>Qw (.const (I Y 1)) (F 13) 1 (l:Int) Z Z Z A) trivial ?_;refine nT (i:=3) (j:=5) Z (kM (i:=3) (d:=U 15) (v:=K (U ⟨aa.heap.size,0,C⟩) 4 4) (w':=aa.alloc (aH qO 3)) (l':=(bt 12 287)) rfl Z Z Z (JG (.const (I Y 0)) (.const (I Y 1)) (.const (I Y 2)) (.const (I Y 39)) 0 1 2 39 Z Z Z Z Z) trivial ?_) (kZ (i:=5) (d:=U 17) (f:=17) (args:=#[aG (U ⟨g,0,C⟩),I Y 4]) (l':=(bt 12 311)) (R:=fun v w'=>(∃ r:Nat,r<4∧v=I Y r)∧RD w' g (k+2+1)∧aa.grownBy w' (U g)) rfl Z Z Z (lT _ _ _ rfl Z Z rfl EI) ((pick_any g 4 (k+2) aa s2.rd A A A).mono fun e w' ⟨⟨r,hr,he⟩,u,H⟩=>⟨_,he,⟨r,hr,rfl⟩,u,H⟩) ?_)
   ·have s4:=s2.alloc (aH qO 3)
    have bd:=CF.made aa qO 3;have a7:aa.heap.size<(aa.alloc (aH qO 3)).heap.size:=D;have M:w.heap.size<aa.heap.size:=by have:=s2.z;have:=s2.lo;omega
    obtain ⟨t, P⟩ := kC aa.heap.size;rw [← P] at bd a7 M;rw [← P];obtain ⟨ct, bz⟩ := kC (aa.alloc (aH qO 3));rw [← bz] at s4 bd a7;rw [← bz];clear bz P s2;refine kF Z (kZ (i:=5) (d:=U 17) (f:=17) (args:=#[aG (U ⟨g,0,C⟩),I Y 4]) (l':=(bt 12 319)) (R:=fun v w'=>(∃ r:Nat,r<4∧v=I Y r)∧RD w' g (k+2+1)∧ct.grownBy w' (U g)) rfl Z Z Z (lT _ _ _ rfl Z Z rfl EI) ((pick_any g 4 (k+2) ct s4.rd A A A).mono fun e w' ⟨⟨r,hr,he⟩,u,H⟩=>⟨_,he,⟨r,hr,rfl⟩,u,H⟩) ?_);rintro _ aw ⟨⟨a,L,rfl⟩,s,o⟩;have s7:=s4.call s o;have a8:=bd.block (o.block t (by have:=a7;omega) (by simp;have:=s4.gl;have:=M;omega));have aq:t<aw.heap.size:=by have:=o.size;have:=a7;omega
    clear s o s4 bd a7;refine ⟨trivial,?_⟩;refine jZ (i:=6) (d:=U 18) (v:=aG (U ⟨t,a,C⟩)) (l':=(bt 12 383)) rfl (fun _ N=>LV (F 15) (F 17) t 4 4 a Z Z Z L) trivial ?_;refine nT (i:=7) (j:=9) Z (kM (i:=7) (d:=U 19) (v:=I Y (y4 a)) (w':=aw) (l':=(bt 12 511)) rfl Z Z Z (CJ (F 18) Z Z (EY a8 L)) trivial ?_) (kZ (i:=9) (d:=U 21) (f:=93) (args:=#[aG (U ⟨g,0,C⟩)]) (l':=(bt 12 895)) (R:=fun v w'=>(∃ y:ByteArray,v=E y∧y.size=8)∧RD w' g (k+3+1)∧aw.grownBy w' (U g)) rfl Z Z Z (lW _ _ rfl Z rfl qX) ((uF g (k+3) aw s7.rd A).mono fun e w' ⟨⟨y,he,hy⟩,u,H⟩=>⟨_,he,⟨y,rfl,hy⟩,u,H⟩) ?_)
    ·refine kF Z (kZ (i:=9) (d:=U 21) (f:=93) (args:=#[aG (U ⟨g,0,C⟩)]) (l':=(bt 12 1023)) (R:=fun v w'=>(∃ y:ByteArray,v=E y∧y.size=8)∧RD w' g (k+3+1)∧aw.grownBy w' (U g)) rfl Z Z Z (lW _ _ rfl Z rfl qX) ((uF g (k+3) aw s7.rd A).mono fun e w' ⟨⟨y,he,hy⟩,u,H⟩=>⟨_,he,⟨y,rfl,hy⟩,u,H⟩) ?_)
     rintro _ cg ⟨⟨c,rfl,au⟩,s,o⟩;have b5:=s7.call s o;have c8:=a8.block (o.block t (by have:=aq;omega) (by simp;have:=s7.gl;have:=M;omega));have da:t<cg.heap.size:=by have:=o.size;have:=aq;omega
     clear s o s7 a8 aq;refine ⟨trivial,?_⟩;refine jZ (i:=10) (d:=U 22) (v:=aI #[I Y 2,I Y (1+(l:Int)),I Y (y4 a),E c]) (l':=(bt 12 2047)) rfl (fun _ N=>DW (.const (I Y 2)) (F 14) (F 19) (F 21) 2 (1+(l:Int)) (y4 a) c Z Z Z Z Z) trivial ?_;have J:=b5.R;have p:=b5.put (vs:=[I Y 2,I Y (1+(l:Int)),I Y (y4 a),E c]) rfl;refine kF Z (lI (i:=11) (w':=cg.setCells w.heap.size 0 [I Y 2,I Y (1+(l:Int)),I Y (y4 a),E c]) (l':=(bt 12 4095)) rfl Z Z Z (lM 66 zh [I Y 2,I Y (1+(l:Int)),I Y (y4 a),E c] (F 2) (F 22) Z Z Z J rfl Tryz.sizeEn (IJ)) trivial ?_);obtain ⟨dq, bq⟩ := kC (cg.setCells w.heap.size 0 [I Y 2,I Y (1+(l:Int)),I Y (y4 a),E c]);rw [← bq] at p;rw [← bq];clear bq b5 J;refine wpAnyH_done Z ?_ _;obtain ⟨k0,k1,Q,T⟩:=C9 p.R;have V:=hid (And.intro (p.rd.mono (show _≤k+10 by omega)) p.gr);have X:=hid (show IL (aO (aI #[I Y 2,I Y (1+(l:Int)),I Y (y4 a),E c])) 100 from ⟨_,_,_,_,rfl,A,A,Ho L,A⟩);clear p;go_wp2;exact bodyPost_ret (v:=aI #[I Y 2,I Y (1+(l:Int)),I Y (y4 a),E c]) bK rfl ⟨X.out,V.out⟩
    ·rintro _ bj ⟨⟨c,rfl,au⟩,s,o⟩
     have b6:=s7.call s o;have cy:=a8.block (o.block t (by have:=aq;omega) (by simp;have:=s7.gl;have:=M;omega));have db:t<bj.heap.size:=by have:=o.size;have:=aq;omega
     clear s o s7 a8 aq;refine ⟨trivial,?_⟩;refine kF Z (kM (i:=7) (d:=U 19) (v:=I Y (y4 a)) (w':=bj) (l':=(bt 12 1023)) rfl Z Z Z (CJ (F 18) Z Z (EY cy L)) trivial ?_);refine jZ (i:=10) (d:=U 22) (v:=aI #[I Y 2,I Y (1+(l:Int)),I Y (y4 a),E c]) (l':=(bt 12 2047)) rfl (fun _ N=>DW (.const (I Y 2)) (F 14) (F 19) (F 21) 2 (1+(l:Int)) (y4 a) c Z Z Z Z Z) trivial ?_;have J:=b6.R;have p:=b6.put (vs:=[I Y 2,I Y (1+(l:Int)),I Y (y4 a),E c]) rfl;refine kF Z (lI (i:=11) (w':=bj.setCells w.heap.size 0 [I Y 2,I Y (1+(l:Int)),I Y (y4 a),E c]) (l':=(bt 12 4095)) rfl Z Z Z (lM 66 zh [I Y 2,I Y (1+(l:Int)),I Y (y4 a),E c] (F 2) (F 22) Z Z Z J rfl Tryz.sizeEn (IJ)) trivial ?_);obtain ⟨dr, br⟩ := kC (bj.setCells w.heap.size 0 [I Y 2,I Y (1+(l:Int)),I Y (y4 a),E c]);rw [← br] at p;rw [← br];clear br b6 J;refine wpAnyH_done Z ?_ _;obtain ⟨k0,k1,Q,T⟩:=C9 p.R;have V:=hid (And.intro (p.rd.mono (show _≤k+10 by omega)) p.gr);have X:=hid (show IL (aO (aI #[I Y 2,I Y (1+(l:Int)),I Y (y4 a),E c])) 100 from ⟨_,_,_,_,rfl,A,A,Ho L,A⟩);clear p;go_wp2;exact bodyPost_ret (v:=aI #[I Y 2,I Y (1+(l:Int)),I Y (y4 a),E c]) bK rfl ⟨X.out,V.out⟩
   ·rintro _ ab ⟨⟨a,L,rfl⟩,s,o⟩
    have ak:=s2.call s o;clear s o s2;refine ⟨trivial,?_⟩;refine nT (i:=3) (j:=9) Z (kM (i:=3) (d:=U 15) (v:=K (U ⟨ab.heap.size,0,C⟩) 4 4) (w':=ab.alloc (aH qO 3)) (l':=(bt 12 319)) rfl Z Z Z (JG (.const (I Y 0)) (.const (I Y 1)) (.const (I Y 2)) (.const (I Y 39)) 0 1 2 39 Z Z Z Z Z) trivial ?_) (kZ (i:=9) (d:=U 21) (f:=93) (args:=#[aG (U ⟨g,0,C⟩)]) (l':=(bt 12 823)) (R:=fun v w'=>(∃ y:ByteArray,v=E y∧y.size=8)∧RD w' g (k+3+1)∧ab.grownBy w' (U g)) rfl Z Z Z (lW _ _ rfl Z rfl qX) ((uF g (k+3) ab ak.rd A).mono fun e w' ⟨⟨y,he,hy⟩,u,H⟩=>⟨_,he,⟨y,rfl,hy⟩,u,H⟩) ?_)
    ·have ae:=ak.alloc (aH qO 3)
     have ai:=CF.made ab qO 3;have af:ab.heap.size<(ab.alloc (aH qO 3)).heap.size:=D;have M:w.heap.size<ab.heap.size:=by have:=ak.z;have:=ak.lo;omega
     obtain ⟨t, P⟩ := kC ab.heap.size;rw [← P] at ai af M;rw [← P];obtain ⟨bb, bs⟩ := kC (ab.alloc (aH qO 3));rw [← bs] at ae ai af;rw [← bs];clear bs P ak;refine jZ (i:=6) (d:=U 18) (v:=aG (U ⟨t,a,C⟩)) (l':=(bt 12 383)) rfl (fun _ N=>LV (F 15) (F 17) t 4 4 a Z Z Z L) trivial ?_;refine nT (i:=7) (j:=9) Z (kM (i:=7) (d:=U 19) (v:=I Y (y4 a)) (w':=bb) (l':=(bt 12 511)) rfl Z Z Z (CJ (F 18) Z Z (EY ai L)) trivial ?_) (kZ (i:=9) (d:=U 21) (f:=93) (args:=#[aG (U ⟨g,0,C⟩)]) (l':=(bt 12 895)) (R:=fun v w'=>(∃ y:ByteArray,v=E y∧y.size=8)∧RD w' g (k+3+1)∧bb.grownBy w' (U g)) rfl Z Z Z (lW _ _ rfl Z rfl qX) ((uF g (k+3) bb ae.rd A).mono fun e w' ⟨⟨y,he,hy⟩,u,H⟩=>⟨_,he,⟨y,rfl,hy⟩,u,H⟩) ?_)
     ·refine kF Z (kZ (i:=9) (d:=U 21) (f:=93) (args:=#[aG (U ⟨g,0,C⟩)]) (l':=(bt 12 1023)) (R:=fun v w'=>(∃ y:ByteArray,v=E y∧y.size=8)∧RD w' g (k+3+1)∧bb.grownBy w' (U g)) rfl Z Z Z (lW _ _ rfl Z rfl qX) ((uF g (k+3) bb ae.rd A).mono fun e w' ⟨⟨y,he,hy⟩,u,H⟩=>⟨_,he,⟨y,rfl,hy⟩,u,H⟩) ?_)
      rintro _ cb ⟨⟨c,rfl,au⟩,s,o⟩;have b7:=ae.call s o;have dc:=ai.block (o.block t (by have:=af;omega) (by simp;have:=ae.gl;have:=M;omega));have de:t<cb.heap.size:=by have:=o.size;have:=af;omega
      clear s o ae ai af;refine ⟨trivial,?_⟩;refine jZ (i:=10) (d:=U 22) (v:=aI #[I Y 2,I Y (1+(l:Int)),I Y (y4 a),E c]) (l':=(bt 12 2047)) rfl (fun _ N=>DW (.const (I Y 2)) (F 14) (F 19) (F 21) 2 (1+(l:Int)) (y4 a) c Z Z Z Z Z) trivial ?_;have J:=b7.R;have p:=b7.put (vs:=[I Y 2,I Y (1+(l:Int)),I Y (y4 a),E c]) rfl;refine kF Z (lI (i:=11) (w':=cb.setCells w.heap.size 0 [I Y 2,I Y (1+(l:Int)),I Y (y4 a),E c]) (l':=(bt 12 4095)) rfl Z Z Z (lM 66 zh [I Y 2,I Y (1+(l:Int)),I Y (y4 a),E c] (F 2) (F 22) Z Z Z J rfl Tryz.sizeEn (IJ)) trivial ?_);obtain ⟨ds, bu⟩ := kC (cb.setCells w.heap.size 0 [I Y 2,I Y (1+(l:Int)),I Y (y4 a),E c]);rw [← bu] at p;rw [← bu];clear bu b7 J;refine wpAnyH_done Z ?_ _;obtain ⟨k0,k1,Q,T⟩:=C9 p.R;have V:=hid (And.intro (p.rd.mono (show _≤k+10 by omega)) p.gr);have X:=hid (show IL (aO (aI #[I Y 2,I Y (1+(l:Int)),I Y (y4 a),E c])) 100 from ⟨_,_,_,_,rfl,A,A,Ho L,A⟩);clear p;go_wp2;exact bodyPost_ret (v:=aI #[I Y 2,I Y (1+(l:Int)),I Y (y4 a),E c]) bK rfl ⟨X.out,V.out⟩
     ·rintro _ bk ⟨⟨c,rfl,au⟩,s,o⟩
      have b8:=ae.call s o;have cz:=ai.block (o.block t (by have:=af;omega) (by simp;have:=ae.gl;have:=M;omega));have df:t<bk.heap.size:=by have:=o.size;have:=af;omega
      clear s o ae ai af;refine ⟨trivial,?_⟩;refine kF Z (kM (i:=7) (d:=U 19) (v:=I Y (y4 a)) (w':=bk) (l':=(bt 12 1023)) rfl Z Z Z (CJ (F 18) Z Z (EY cz L)) trivial ?_);refine jZ (i:=10) (d:=U 22) (v:=aI #[I Y 2,I Y (1+(l:Int)),I Y (y4 a),E c]) (l':=(bt 12 2047)) rfl (fun _ N=>DW (.const (I Y 2)) (F 14) (F 19) (F 21) 2 (1+(l:Int)) (y4 a) c Z Z Z Z Z) trivial ?_;have J:=b8.R;have p:=b8.put (vs:=[I Y 2,I Y (1+(l:Int)),I Y (y4 a),E c]) rfl;refine kF Z (lI (i:=11) (w':=bk.setCells w.heap.size 0 [I Y 2,I Y (1+(l:Int)),I Y (y4 a),E c]) (l':=(bt 12 4095)) rfl Z Z Z (lM 66 zh [I Y 2,I Y (1+(l:Int)),I Y (y4 a),E c] (F 2) (F 22) Z Z Z J rfl Tryz.sizeEn (IJ)) trivial ?_);obtain ⟨dt, bw⟩ := kC (bk.setCells w.heap.size 0 [I Y 2,I Y (1+(l:Int)),I Y (y4 a),E c]);rw [← bw] at p;rw [← bw];clear bw b8 J;refine wpAnyH_done Z ?_ _;obtain ⟨k0,k1,Q,T⟩:=C9 p.R;have V:=hid (And.intro (p.rd.mono (show _≤k+10 by omega)) p.gr);have X:=hid (show IL (aO (aI #[I Y 2,I Y (1+(l:Int)),I Y (y4 a),E c])) 100 from ⟨_,_,_,_,rfl,A,A,Ho L,A⟩);clear p;go_wp2;exact bodyPost_ret (v:=aI #[I Y 2,I Y (1+(l:Int)),I Y (y4 a),E c]) bK rfl ⟨X.out,V.out⟩
    ·rintro _ ah ⟨⟨c,rfl,au⟩,s,o⟩
     have bf:=ak.call s o;clear s o ak;refine ⟨trivial,?_⟩;refine kF Z (kM (i:=3) (d:=U 15) (v:=K (U ⟨ah.heap.size,0,C⟩) 4 4) (w':=ah.alloc (aH qO 3)) (l':=(bt 12 831)) rfl Z Z Z (JG (.const (I Y 0)) (.const (I Y 1)) (.const (I Y 2)) (.const (I Y 39)) 0 1 2 39 Z Z Z Z Z) trivial ?_);have bg:=bf.alloc (aH qO 3);have bn:=CF.made ah qO 3;have cl:ah.heap.size<(ah.alloc (aH qO 3)).heap.size:=D;have M:w.heap.size<ah.heap.size:=by have:=bf.z;have:=bf.lo;omega
     obtain ⟨t, P⟩ := kC ah.heap.size;rw [← P] at bn cl M;rw [← P];obtain ⟨cc, b0⟩ := kC (ah.alloc (aH qO 3));rw [← b0] at bg bn cl;rw [← b0];clear b0 P bf;refine jZ (i:=6) (d:=U 18) (v:=aG (U ⟨t,a,C⟩)) (l':=(bt 12 895)) rfl (fun _ N=>LV (F 15) (F 17) t 4 4 a Z Z Z L) trivial ?_;refine kF Z (kM (i:=7) (d:=U 19) (v:=I Y (y4 a)) (w':=cc) (l':=(bt 12 1023)) rfl Z Z Z (CJ (F 18) Z Z (EY bn L)) trivial ?_);refine jZ (i:=10) (d:=U 22) (v:=aI #[I Y 2,I Y (1+(l:Int)),I Y (y4 a),E c]) (l':=(bt 12 2047)) rfl (fun _ N=>DW (.const (I Y 2)) (F 14) (F 19) (F 21) 2 (1+(l:Int)) (y4 a) c Z Z Z Z Z) trivial ?_;have J:=bg.R;have p:=bg.put (vs:=[I Y 2,I Y (1+(l:Int)),I Y (y4 a),E c]) rfl;refine kF Z (lI (i:=11) (w':=cc.setCells w.heap.size 0 [I Y 2,I Y (1+(l:Int)),I Y (y4 a),E c]) (l':=(bt 12 4095)) rfl Z Z Z (lM 66 zh [I Y 2,I Y (1+(l:Int)),I Y (y4 a),E c] (F 2) (F 22) Z Z Z J rfl Tryz.sizeEn (IJ)) trivial ?_);obtain ⟨du, b1⟩ := kC (cc.setCells w.heap.size 0 [I Y 2,I Y (1+(l:Int)),I Y (y4 a),E c]);rw [← b1] at p;rw [← b1];clear b1 bg J;refine wpAnyH_done Z ?_ _;obtain ⟨k0,k1,Q,T⟩:=C9 p.R;have V:=hid (And.intro (p.rd.mono (show _≤k+10 by omega)) p.gr);have X:=hid (show IL (aO (aI #[I Y 2,I Y (1+(l:Int)),I Y (y4 a),E c])) 100 from ⟨_,_,_,_,rfl,A,A,Ho L,A⟩);clear p;go_wp2;exact bodyPost_ret (v:=aI #[I Y 2,I Y (1+(l:Int)),I Y (y4 a),E c]) bK rfl ⟨X.out,V.out⟩
  ·have ba:=s0.alloc (aH qO 3)
   have bc:=CF.made x0 qO 3;have ay:x0.heap.size<(x0.alloc (aH qO 3)).heap.size:=D;have M:w.heap.size<x0.heap.size:=by have:=s0.z;have:=s0.lo;omega
   obtain ⟨t, P⟩ := kC x0.heap.size;rw [← P] at bc ay M;rw [← P];obtain ⟨cu, b2⟩ := kC (x0.alloc (aH qO 3));rw [← b2] at ba bc ay;rw [← b2];clear b2 P s0;refine kF Z (kZ (i:=1) (d:=U 13) (f:=17) (args:=#[aG (U ⟨g,0,C⟩),I Y 3]) (l':=(bt 12 283)) (R:=fun v w'=>(∃ r:Nat,r<3∧v=I Y r)∧RD w' g (k+1+1)∧cu.grownBy w' (U g)) rfl Z Z Z (lT _ _ _ rfl Z Z rfl EI) ((pick_any g 3 (k+1) cu ba.rd A A A).mono fun e w' ⟨⟨r,hr,he⟩,u,H⟩=>⟨_,he,⟨r,hr,rfl⟩,u,H⟩) ?_);rintro _ cd ⟨⟨l,c5,rfl⟩,s,o⟩;have bh:=ba.call s o;have cm:=bc.block (o.block t (by have:=ay;omega) (by simp;have:=ba.gl;have:=M;omega));have bo:t<cd.heap.size:=by have:=o.size;have:=ay;omega
   clear s o ba bc ay;refine ⟨trivial,?_⟩;refine jZ (i:=2) (d:=U 14) (v:=I Y (1+(l:Int))) (l':=(bt 12 287)) rfl (fun _ N=>Qw (.const (I Y 1)) (F 13) 1 (l:Int) Z Z Z A) trivial ?_;refine kF Z (kZ (i:=5) (d:=U 17) (f:=17) (args:=#[aG (U ⟨g,0,C⟩),I Y 4]) (l':=(bt 12 319)) (R:=fun v w'=>(∃ r:Nat,r<4∧v=I Y r)∧RD w' g (k+2+1)∧cd.grownBy w' (U g)) rfl Z Z Z (lT _ _ _ rfl Z Z rfl EI) ((pick_any g 4 (k+2) cd bh.rd A A A).mono fun e w' ⟨⟨r,hr,he⟩,u,H⟩=>⟨_,he,⟨r,hr,rfl⟩,u,H⟩) ?_);rintro _ av ⟨⟨a,L,rfl⟩,s,o⟩;have ag:=bh.call s o;have a6:=cm.block (o.block t (by have:=bo;omega) (by simp;have:=bh.gl;have:=M;omega));have an:t<av.heap.size:=by have:=o.size;have:=bo;omega
   clear s o bh cm bo;refine ⟨trivial,?_⟩;refine jZ (i:=6) (d:=U 18) (v:=aG (U ⟨t,a,C⟩)) (l':=(bt 12 383)) rfl (fun _ N=>LV (F 15) (F 17) t 4 4 a Z Z Z L) trivial ?_;refine nT (i:=7) (j:=9) Z (kM (i:=7) (d:=U 19) (v:=I Y (y4 a)) (w':=av) (l':=(bt 12 511)) rfl Z Z Z (CJ (F 18) Z Z (EY a6 L)) trivial ?_) (kZ (i:=9) (d:=U 21) (f:=93) (args:=#[aG (U ⟨g,0,C⟩)]) (l':=(bt 12 895)) (R:=fun v w'=>(∃ y:ByteArray,v=E y∧y.size=8)∧RD w' g (k+3+1)∧av.grownBy w' (U g)) rfl Z Z Z (lW _ _ rfl Z rfl qX) ((uF g (k+3) av ag.rd A).mono fun e w' ⟨⟨y,he,hy⟩,u,H⟩=>⟨_,he,⟨y,rfl,hy⟩,u,H⟩) ?_)
   ·refine kF Z (kZ (i:=9) (d:=U 21) (f:=93) (args:=#[aG (U ⟨g,0,C⟩)]) (l':=(bt 12 1023)) (R:=fun v w'=>(∃ y:ByteArray,v=E y∧y.size=8)∧RD w' g (k+3+1)∧av.grownBy w' (U g)) rfl Z Z Z (lW _ _ rfl Z rfl qX) ((uF g (k+3) av ag.rd A).mono fun e w' ⟨⟨y,he,hy⟩,u,H⟩=>⟨_,he,⟨y,rfl,hy⟩,u,H⟩) ?_)
    rintro _ cf ⟨⟨c,rfl,au⟩,s,o⟩;have b9:=ag.call s o;have dg:=a6.block (o.block t (by have:=an;omega) (by simp;have:=ag.gl;have:=M;omega));have dh:t<cf.heap.size:=by have:=o.size;have:=an;omega
    clear s o ag a6 an;refine ⟨trivial,?_⟩;refine jZ (i:=10) (d:=U 22) (v:=aI #[I Y 2,I Y (1+(l:Int)),I Y (y4 a),E c]) (l':=(bt 12 2047)) rfl (fun _ N=>DW (.const (I Y 2)) (F 14) (F 19) (F 21) 2 (1+(l:Int)) (y4 a) c Z Z Z Z Z) trivial ?_;have J:=b9.R;have p:=b9.put (vs:=[I Y 2,I Y (1+(l:Int)),I Y (y4 a),E c]) rfl;refine kF Z (lI (i:=11) (w':=cf.setCells w.heap.size 0 [I Y 2,I Y (1+(l:Int)),I Y (y4 a),E c]) (l':=(bt 12 4095)) rfl Z Z Z (lM 66 zh [I Y 2,I Y (1+(l:Int)),I Y (y4 a),E c] (F 2) (F 22) Z Z Z J rfl Tryz.sizeEn (IJ)) trivial ?_);obtain ⟨dv, b3⟩ := kC (cf.setCells w.heap.size 0 [I Y 2,I Y (1+(l:Int)),I Y (y4 a),E c]);rw [← b3] at p;rw [← b3];clear b3 b9 J;refine wpAnyH_done Z ?_ _;obtain ⟨k0,k1,Q,T⟩:=C9 p.R;have V:=hid (And.intro (p.rd.mono (show _≤k+10 by omega)) p.gr);have X:=hid (show IL (aO (aI #[I Y 2,I Y (1+(l:Int)),I Y (y4 a),E c])) 100 from ⟨_,_,_,_,rfl,A,A,Ho L,A⟩);clear p;go_wp2;exact bodyPost_ret (v:=aI #[I Y 2,I Y (1+(l:Int)),I Y (y4 a),E c]) bK rfl ⟨X.out,V.out⟩
   ·rintro _ bl ⟨⟨c,rfl,au⟩,s,o⟩
    have ca:=ag.call s o;have c4:=a6.block (o.block t (by have:=an;omega) (by simp;have:=ag.gl;have:=M;omega));have di:t<bl.heap.size:=by have:=o.size;have:=an;omega
    clear s o ag a6 an;refine ⟨trivial,?_⟩;refine kF Z (kM (i:=7) (d:=U 19) (v:=I Y (y4 a)) (w':=bl) (l':=(bt 12 1023)) rfl Z Z Z (CJ (F 18) Z Z (EY c4 L)) trivial ?_);refine jZ (i:=10) (d:=U 22) (v:=aI #[I Y 2,I Y (1+(l:Int)),I Y (y4 a),E c]) (l':=(bt 12 2047)) rfl (fun _ N=>DW (.const (I Y 2)) (F 14) (F 19) (F 21) 2 (1+(l:Int)) (y4 a) c Z Z Z Z Z) trivial ?_;have J:=ca.R;have p:=ca.put (vs:=[I Y 2,I Y (1+(l:Int)),I Y (y4 a),E c]) rfl;refine kF Z (lI (i:=11) (w':=bl.setCells w.heap.size 0 [I Y 2,I Y (1+(l:Int)),I Y (y4 a),E c]) (l':=(bt 12 4095)) rfl Z Z Z (lM 66 zh [I Y 2,I Y (1+(l:Int)),I Y (y4 a),E c] (F 2) (F 22) Z Z Z J rfl Tryz.sizeEn (IJ)) trivial ?_);obtain ⟨dw, b4⟩ := kC (bl.setCells w.heap.size 0 [I Y 2,I Y (1+(l:Int)),I Y (y4 a),E c]);rw [← b4] at p;rw [← b4];clear b4 ca J;refine wpAnyH_done Z ?_ _;obtain ⟨k0,k1,Q,T⟩:=C9 p.R;have V:=hid (And.intro (p.rd.mono (show _≤k+10 by omega)) p.gr);have X:=hid (show IL (aO (aI #[I Y 2,I Y (1+(l:Int)),I Y (y4 a),E c])) 100 from ⟨_,_,_,_,rfl,A,A,Ho L,A⟩);clear p;go_wp2;exact bodyPost_ret (v:=aI #[I Y 2,I Y (1+(l:Int)),I Y (y4 a),E c]) bK rfl ⟨X.out,V.out⟩
section
variable {w wr w':World} {g X Q k k':Nat} {cs:List Value}
end
end
section
def X9 (W:World) (B:Nat):World:={ W with heap:=W.heap.extract 0 B }
theorem O9 (h:B≤W.heap.size):Below B (X9 W B) W:=by
 refine ⟨rfl,rfl,rfl,?_,fun k a=>?_⟩
 ·show (W.heap.extract 0 B).size≤_
  simp;omega
 ·show W.heap[k]?=(W.heap.extract 0 B)[k]?
  rw [Array.getElem?_extract,if_pos A,ny]
theorem Zd (h:B≤W.heap.size):(X9 W B).heap.size≤B:=by
 show (W.heap.extract 0 B).size≤B;simp;omega
def oK:List Value:=[I Y 0,aF false,I Y 0,I Y 0,I Y 0,I Y 0,K C 0 0,K C 0 0,K C 0 0,K C 0 0,K C 0 0,K C 0 0]
structure lX (w:World) (g k Q:Nat) (d:BD) (h:BH) (W:World):Prop where
 rd:RD W g k
 gr:w.grownBy W (U g)
 c:CF W Q (bvs d h)
 bo:lg W w.heap.size d h
 f:d.fits
 y:d.small
 p:g<w.heap.size∧w.heap.size≤Q∧Q<W.heap.size
 n:∀ r∈kK d h,r≠U Q
section
variable {w W W':World} {g k k' Q:Nat} {d d':BD} {h h':BH}
def Jk (d:BD) (h:BH) (Q:Nat) (W W':World):Prop:=W.heap.size≤W'.heap.size∧∀ q,q<W.heap.size→U q ∉ kK d h→q≠Q→W'.heap[q]?=W.heap[q]?
def Lu (d:BD) (h:BH) (W:World) (d':BD) (h':BH):Prop:=∀ q,U q∈kK d' h'→U q∈kK d h∨W.heap.size≤q
theorem lX.below (x:lX w g k Q d h W) (a:Below W.heap.size W W'):lX w g k Q d h W' :=
 have e:=x.p
 ⟨x.rd.below a,grownBy_trans x.gr (grownBy_below a),x.c.block (a.block _ e.2.2),x.bo.below a,x.f,x.y,⟨e.1,e.2.1,lu e.2.2 a.size⟩,x.n⟩
theorem lX.pick (x:lX w g k Q d h W) (i:RD W' g k') (j:W.grownBy W' (U g)):lX w g k' Q d h W' :=
 have a:=x.p;have l:∀ q,w.heap.size≤q→q<W.heap.size→W'.heap[q]?=W.heap[q]?:=fun q t s=>j.block q s (fun e=>O)
 ⟨i,grownBy_trans x.gr j,x.c.block (l _ A a.2.2),x.bo.blk (fun r i q o=>l q (by have:=(x.bo.lo r i q o).1;omega) (x.bo.lo r i q o).2),x.f,x.y,⟨a.1,a.2.1,lu a.2.2 j.size⟩,x.n⟩
theorem lX.more (x:lX w g k Q d h W) (a:k≤k'):lX w g k' Q d h W:=⟨x.rd.mono a,x.gr,x.c,x.bo,x.f,x.y,x.p,x.n⟩
theorem lX.tk (x:lX w g k Q d h W):oZ (X9 W w.heap.size) w.heap.size Q [] d h W :=
 have a:=x.p
 ⟨x.bo,by rw [pz];exact x.c,O9 A,x.n,⟨a.2.1,a.2.2,Zd A⟩⟩
theorem lX.out (x:lX w g k Q d h W) (t:oZ (X9 W w.heap.size) w.heap.size Q [] d' h' W') (l:d'.fits) (r:d'.small):lX w g k Q d' h' W':=by
 have o:=x.p;have f:=t.q;have j:=O9 (W:=W) (B:=w.heap.size) A;have e:∀ q,q<w.heap.size→W'.heap[q]?=W.heap[q]?:=fun q a=>(t.hb.block q a).trans (j.block q a).symm;have c:=t.D;rw [pz] at c;exact ⟨x.rd.keep (fun q a=>e q A),⟨t.hb.os.trans x.gr.os,t.hb.tape.trans x.gr.tape,t.hb.output.trans x.gr.output,A,fun q a i=>(e q A).trans (x.gr.block q a i)⟩,c,t.bo,l,r,⟨o.1,f.1,f.2.1⟩,t.nr⟩
theorem oZ.PK {Q j:Nat} (s:oZ w0 B Q [] d h wr) (H:j<12) (L:bvs d' h=(bvs d h).set j v) (z:d'.L1=d.L1∧d'.L2=d.L2∧d'.R=d.R∧d'.J=d.J∧d'.S=d.S∧d'.O=d.O):oZ w0 B Q [] d' h (wr.setCell ⟨Q,j,C⟩ v):=by
 have o:=s.q;have gs:=lU (lJ wr (U Q)) j v;obtain ⟨c,f,g,i,k,l⟩:=z;have u:kK d' h=kK d h:=by unfold kK;rw [c,f,g,i,k,l]
 have a:=s.bo.blk (w':=wr.setCell ⟨Q,j,C⟩ v) (fun r p q e=>gs.block q (s.bo.lo r p q e).2 (fun t=>s.nr r p (e.trans t)));refine ⟨⟨by rw [c];exact a.o0,by rw [f];exact a.o1,by rw [g];exact a.o2,by rw [i];exact a.o3,by rw [k];exact a.o4,by rw [l];exact a.o5,?_⟩,?_,s.hb.grown gs A (fun q e=>O),by rw [u];exact s.nr,⟨o.1,bW,o.2.2⟩⟩
 ·rw [c,f,g,i,k,l];exact a.Ik
 ·have:=s.D.set (j:=j) (by simp [bvs];exact H) v
  rw [pz] at this ⊢;rw [L];exact this
theorem BD.fits.same (a:d.fits) (j:d'.L1=d.L1∧d'.L2=d.L2∧d'.R=d.R∧d'.J=d.J∧d'.S=d.S∧d'.O=d.O):d'.fits:=by
 obtain ⟨c,e,f,g,h,i⟩:=j;exact ⟨by rw [c];exact a.s1,by rw [e];exact a.s2,by rw [f];exact a.s3,by rw [g];exact a.k3,by rw [h];exact a.k2,by rw [i];exact a.k4⟩
theorem BD.small.same (j:d.small) (i:d'.L1=d.L1∧d'.L2=d.L2∧d'.R=d.R∧d'.J=d.J∧d'.S=d.S∧d'.O=d.O):d'.small:=by
 obtain ⟨a,c,e,f,g,h⟩:=i;unfold BD.small at *;rw [a,c,e,f,g,h];exact j
theorem lX.sc0 (x:lX w g k Q d h W) (v:Int):lX w g k Q {d with wk:=v} h (W.setCell ⟨Q,0,C⟩ (I Y v)):=x.out (x.tk.PK A rfl ⟨rfl,rfl,rfl,rfl,rfl,rfl⟩) (x.f.same ⟨rfl,rfl,rfl,rfl,rfl,rfl⟩) (x.y.same ⟨rfl,rfl,rfl,rfl,rfl,rfl⟩)
theorem lX.sc1 (x:lX w g k Q d h W) (v:Bool):lX w g k Q {d with up:=v} h (W.setCell ⟨Q,1,C⟩ (aF v)):=x.out (x.tk.PK A rfl ⟨rfl,rfl,rfl,rfl,rfl,rfl⟩) (x.f.same ⟨rfl,rfl,rfl,rfl,rfl,rfl⟩) (x.y.same ⟨rfl,rfl,rfl,rfl,rfl,rfl⟩)
theorem lX.sc2 (x:lX w g k Q d h W) (v:Int):lX w g k Q {d with now:=v} h (W.setCell ⟨Q,2,C⟩ (I Y v)):=x.out (x.tk.PK A rfl ⟨rfl,rfl,rfl,rfl,rfl,rfl⟩) (x.f.same ⟨rfl,rfl,rfl,rfl,rfl,rfl⟩) (x.y.same ⟨rfl,rfl,rfl,rfl,rfl,rfl⟩)
theorem lX.sc3 (x:lX w g k Q d h W) (v:Int):lX w g k Q {d with sn:=v} h (W.setCell ⟨Q,3,C⟩ (I Y v)):=x.out (x.tk.PK A rfl ⟨rfl,rfl,rfl,rfl,rfl,rfl⟩) (x.f.same ⟨rfl,rfl,rfl,rfl,rfl,rfl⟩) (x.y.same ⟨rfl,rfl,rfl,rfl,rfl,rfl⟩)
theorem lX.sc4 (x:lX w g k Q d h W) (v:Int):lX w g k Q {d with ep:=v} h (W.setCell ⟨Q,4,C⟩ (I Y v)):=x.out (x.tk.PK A rfl ⟨rfl,rfl,rfl,rfl,rfl,rfl⟩) (x.f.same ⟨rfl,rfl,rfl,rfl,rfl,rfl⟩) (x.y.same ⟨rfl,rfl,rfl,rfl,rfl,rfl⟩)
theorem lX.sc5 (x:lX w g k Q d h W) (v:Int):lX w g k Q {d with gv:=v} h (W.setCell ⟨Q,5,C⟩ (I Y v)):=x.out (x.tk.PK A rfl ⟨rfl,rfl,rfl,rfl,rfl,rfl⟩) (x.f.same ⟨rfl,rfl,rfl,rfl,rfl,rfl⟩) (x.y.same ⟨rfl,rfl,rfl,rfl,rfl,rfl⟩)
theorem Fp (x:Int):I64 (IntKind.i64.wrap x):=by
 rw [IntKind.wrap_i64];constructor <;> omega
theorem pR {r:Nat} (h:r≤1000000000):I64 (r:Int):=⟨A,A⟩
theorem lX.job (x:lX w g k Q d h W) (hi:i<d.J.length):∃ a e,h.aj=U ⟨a,e,C⟩∧W.there a (e+i*3) 3∧W.rangeAt a (e+i*3) [I Y (t3 d.J i).1,I Y (t3 d.J i).2.1,I Y (t3 d.J i).2.2]∧∀ t:Tr,(I64 t.1∧I64 t.2.1∧I64 t.2.2)→lX w g k Q {d with J:=d.J.set i t} h (W.setCells a (e+i*3) [I Y t.1,I Y t.2.1,I Y t.2.2]):=by
 obtain ⟨a,e,cj,l,L,z⟩:=x.bo.o3.Ht hi;injection l with o _ P;obtain ⟨N,o4,T,V⟩:=x.bo.o3.ZA x.f.k3;have u:(K h.aj d.J.length h.cj).ownBlock=U a:=by rw [o];rfl
 refine ⟨a,e,o,L,?_,fun t H=>x.out (x.tk.Nq (J:=d.J.set i t) D (by show W.grownBy _ (K h.aj d.J.length h.cj).ownBlock;rw [u];exact gsc) (z t)) ⟨x.f.s1,x.f.s2,x.f.s3,x.f.k3.PI _ _ H,x.f.k2,x.f.k4⟩ eH⟩;have s:=x.bo.o3;rcases s with ⟨_,S,_⟩ | ⟨R,X,cap,M,q⟩
 ·omega
 ·injection M with c _ _
  rw [o] at c;injection c with c;injection c with c p _;subst c p;intro j v l;have r:j<3:=(List.getElem?_eq_some_iff.1 l).1;rw [nS,q.holds (i*3+j) A,oW d.J i j hi r];exact l
theorem lX.until (x:lX w g k Q d h W) (hi:i<d.J.length):∃ a c,h.aj=U ⟨a,c,C⟩∧W.cell? ⟨a,c+i*3+2,C⟩=U (I Y (t3 d.J i).2.2)∧W.frozen? ⟨a,c+i*3+2,C⟩=false∧∀ u:Int,I64 u→lX w g k Q {d with J:=d.J.set i ((t3 d.J i).1,(t3 d.J i).2.1,u)} h (W.setCell ⟨a,c+i*3+2,C⟩ (I Y u)):=by
 obtain ⟨a,c,cj,r,l,o,q⟩:=x.bo.o3.abj hi;injection r with e _ s;have p:(K h.aj d.J.length h.cj).ownBlock=U a:=by rw [e];rfl
 have j:=x.f.k3 i hi;exact ⟨a,c,e,l,o,fun u hu=>x.out (x.tk.Nq (J:=d.J.set i ((t3 d.J i).1,(t3 d.J i).2.1,u)) D (by show W.grownBy _ (K h.aj d.J.length h.cj).ownBlock;rw [p];exact lU (lJ _ _) _ _) (q u)) ⟨x.f.s1,x.f.s2,x.f.s3,x.f.k3.PI _ _ ⟨j.1,j.2.1,hu⟩,x.f.k2,x.f.k4⟩ eH⟩
theorem lX.res (x:lX w g k Q d h W) (hi:i<d.R.length):∃ a c,h.ar=U ⟨a,c,C⟩∧W.cell? ⟨a,c+i,C⟩=U (E (rs d.R i))∧W.frozen? ⟨a,c+i,C⟩=false∧∀ s:ByteArray,s.size≤maxLen→lX w g k Q {d with R:=d.R.set i s} h (W.setCell ⟨a,c+i,C⟩ (E s)):=by
 obtain ⟨a,c,cj,t,l,o,r⟩:=x.bo.o2.set1 hi;injection t with j _ u;have p:(K h.ar d.R.length h.cr).ownBlock=U a:=by rw [j];rfl
 refine ⟨a,c,j,l,o,fun s q=>x.out (x.tk.Xo (R:=d.R.set i s) D (by show W.grownBy _ (K h.ar d.R.length h.cr).ownBlock;rw [p];exact lU (lJ _ _) _ _) (r s)) ⟨x.f.s1,x.f.s2,fun y e=>?_,x.f.k3,x.f.k2,x.f.k4⟩ eH⟩;rcases LC e with e | rfl
 ·exact x.f.s3 y e
 ·exact q
theorem aci (S:List (Bool × Int)) (k:Nat) (f:k<S.length) (e:Int):(c2 S).set (k*2+1) (I Y e)=c2 (S.set k ((t2 S k).1,e)):=by
 refine SG (by simp [qw]) fun j a=>?_;rw [nV] at a;have g0:=uy S j 0 a A;have g1:=uy S j 1 a A;by_cases d:j=k
 ·subst d
  have c:t2 (S.set j ((t2 S j).1,e)) j=((t2 S j).1,e):=by unfold t2;simp [List.getD,f]
  rw [c,rQ A,Sj (by rw [qw];omega)];exact ⟨g0,rfl⟩
 ·have c:t2 (S.set k ((t2 S k).1,e)) j=t2 S j:=by unfold t2;simp [List.getD,List.getElem?_set_ne (Ne.symm d)]
  rw [c,rQ A,rQ A];exact ⟨g0,g1⟩
theorem lX.seat (x:lX w g k Q d h W) (hi:i<d.S.length):∃ a c,h.az=U ⟨a,c,C⟩∧W.cell? ⟨a,c+i*2+1,C⟩=U (I Y (t2 d.S i).2)∧W.frozen? ⟨a,c+i*2+1,C⟩=false∧∀ e:Int,I64 e→lX w g k Q {d with S:=d.S.set i ((t2 d.S i).1,e)} h (W.setCell ⟨a,c+i*2+1,C⟩ (I Y e)):=by
 have r:=x.bo.o4;rcases r with ⟨_,v,_⟩ | ⟨a,c,cap,q,l⟩
 ·omega
 ·have z:=l.le
  have t:=q;injection q with o _ u;have s:(K h.az d.S.length h.cs).ownBlock=U a:=by rw [o];rfl
  refine ⟨a,c,o,by rw [nS,l.holds (i*2+1) A];exact uy d.S i 1 hi A,by have:=(l.there (i*2+1) A).2;rw [← nS] at this;exact this,fun e he=>x.out (x.tk.Uc (S:=d.S.set i ((t2 d.S i).1,e)) D (by show W.grownBy _ (K h.az d.S.length h.cs).ownBlock;rw [s];exact lU (lJ _ _) _ _) (.inr ⟨a,c,cap,t,?_⟩)) ⟨x.f.s1,x.f.s2,x.f.s3,x.f.k3,x.f.k2.PI _ _ he,x.f.k4⟩ eH⟩;have p:=l.setCell (j:=i*2+1) A (I Y e);rw [aci d.S i hi e,← nS] at p;exact p
theorem KO (d:BD) (h:BH):Ap d h∈kK d h:=by unfold Ap kK;simp
theorem aaV (S:List (Bool × Int)) (x:Bool × Int):c2 (S ++ [x])=c2 S ++ [aF x.1,I Y x.2]:=by unfold c2;rw [FH];simp
theorem lg.aa1 {x:Bool × Int} (a:lg w B d h) (u:Own B w9 2 (K a9 (d.S.length+1) c9) (d.S.length+1) (c2 d.S ++ [aF x.1,I Y x.2])) (f:(w.alloc ob).grownBy w9 (Ap d h)) (t:(K a9 (d.S.length+1) c9).ownBlock=Ap d h∨(K a9 (d.S.length+1) c9).ownBlock=U (w.alloc ob).heap.size) :
  lg w9 B {d with S:=d.S ++ [x]} {h with az:=a9,cs:=c9}:=by
 have j:=a.Ik;simp only [rW,mG,mF,or_false,forall_eq_or_imp,forall_eq,List.Pairwise.nil,and_true,false_implies,implies_true] at j;obtain ⟨⟨k,l,o,i,p⟩,⟨d12,d13,Na,QO⟩,⟨Lh,Kz,QN⟩,⟨Jj,O8⟩,MZ⟩:=j;have c:Below w.heap.size w (w.alloc ob):=kQ;have v:(w.alloc ob).heap.size=w.heap.size+1:=D;have key:∀ x:Option Nat,Dj x (Ap d h)→(∀ q,x=U q→q<w.heap.size)→Dj x (K a9 (d.S.length+1) c9).ownBlock:=fun x r s=>by
  rcases t with e | e
  ·rw [e];exact r
  ·exact Dn.later s (fun q g=>by rw [e] at g;injection g with g;omega)
 refine ⟨(a.o0.below c kL).grown f i,(a.o1.below c kL).grown f Na,(a.o2.below c kL).grown f Kz,(a.o3.below c kL).grown f Jj,?_,(a.o5.below c kL).grown f MZ.symm,?_⟩
 ·show Own B w9 2 (K a9 (d.S ++ [x]).length c9) (d.S ++ [x]).length (c2 (d.S ++ [x]))
  rw [lD,mQ,aaV];exact u
 ·show List.Pairwise Dj [_,_,_,_,(K a9 (d.S ++ [x]).length c9).ownBlock,_]
  rw [lD,mQ];simp only [rW,mG,mF,or_false,forall_eq_or_imp,forall_eq,List.Pairwise.nil,and_true,false_implies,implies_true];exact ⟨⟨k,l,o,key _ i a.o0.kD,p⟩,⟨d12,d13,key _ Na a.o1.kD,QO⟩,⟨Lh,key _ Kz a.o2.kD,QN⟩,⟨key _ Jj a.o3.kD,O8⟩,(key _ MZ.symm a.o5.kD).symm⟩
theorem oZ.aa1 {Q:Nat} {ex:List Value} {x:Bool × Int} (t:oZ w0 B Q ex d h wr) (v:Own B w9 2 (K a9 (d.S.length+1) c9) (d.S.length+1) (c2 d.S ++ [aF x.1,I Y x.2])) (c:(wr.alloc ob).grownBy w9 (Ap d h)) (l:(K a9 (d.S.length+1) c9).ownBlock=Ap d h∨(K a9 (d.S.length+1) c9).ownBlock=U (wr.alloc ob).heap.size) :
  CF w9 Q (bvs d h ++ ex)∧oZ w0 B Q ex {d with S:=d.S ++ [x]} {h with az:=a9,cs:=c9} (w9.setCell ⟨Q,10,C⟩ (K a9 (d.S.length+1) c9)):=by
 have g:=t.q;have k:Below wr.heap.size wr (wr.alloc ob):=kQ;have H:(wr.alloc ob).heap.size=wr.heap.size+1:=(by simp)
 have z:=c.size;have o:=t.bo.aa1 v c l;have gs:=lU (lJ w9 (U Q)) 10 (K a9 (d.S.length+1) c9);have i:=(t.D.block (k.block _ g.2.1)).block (c.block _ A (fun e=>t.nr _ (KO d h) e.symm));have u:=(t.hb.trans (k.mono A)).grown c A (fun q e=>(t.bo.lo _ (KO d h) q e).1);have p:∀ r∈kK {d with S:=d.S ++ [x]} {h with az:=a9,cs:=c9},r≠U Q:=fun r a e=>by
  simp only [kK,mG,mF,or_false,lD,mQ] at a;rcases a with rfl | rfl | rfl | rfl | rfl | rfl
  ·exact t.nr _ aX e
  ·exact t.nr _ aX e
  ·exact t.nr _ aX e
  ·exact t.nr _ aX e
  ·rcases l with f | f
   ·rw [f] at e;exact t.nr _ (KO d h) e
   ·rw [f] at e;injection e with e;omega
  ·exact t.nr _ aX e
 refine ⟨i,o.blk (fun r a q e=>gs.block q (o.lo r a q e).2 (fun s=>p r a (e.trans s))),?_,u.grown gs A (fun q e=>O),p,⟨g.1,bW,g.2.2⟩⟩;have:=i.set (j:=10) aP (K a9 (d.S.length+1) c9);have e:(bvs d h ++ ex).set 10 (K a9 (d.S.length+1) c9)=bvs {d with S:=d.S ++ [x]} {h with az:=a9,cs:=c9} ++ ex:=aP;rw [← e];exact this
theorem lX.Qe (x:lX w g k Q d h W) (hy:d.L1.length+d.L2.length+d.R.length+d.J.length+d.S.length+d.O.length<1048576) (t:Tr) (ht:I64 t.1∧I64 t.2.1∧I64 t.2.2):∃ a9 c9 w9,(Builtin.append_ #[28,28] 28 #[K h.ao d.O.length h.co,K (U ⟨W.heap.size,0,C⟩) 1 1]).run prog (W.alloc (aH #[I Y t.1,I Y t.2.1,I Y t.2.2] 56))=.ok (K a9 (d.O.length+1) c9) w9∧CF w9 Q (bvs d h)∧lX w g k Q {d with O:=d.O ++ [t]} {h with ao:=a9,co:=c9} (w9.setCell ⟨Q,11,C⟩ (K a9 (d.O.length+1) c9))∧Jk d h Q W (w9.setCell ⟨Q,11,C⟩ (K a9 (d.O.length+1) c9))∧Lu d h W {d with O:=d.O ++ [t]} {h with ao:=a9,co:=c9}:=by
 obtain ⟨iM,ab,T,V,X⟩:=info_parts Tryz.infoOw;have hp:=x.p;obtain ⟨c, a⟩ := kC (W.alloc (aH #[I Y t.1,I Y t.2.1,I Y t.2.2] 56));have ae:Own w.heap.size c 3 (K (U ⟨W.heap.size,0,C⟩) 1 1) 1 [I Y t.1,I Y t.2.1,I Y t.2.2]:=by
  rw [a];exact .inr ⟨_,0,1,rfl,kW.made W w.heap.size 56 3 1 1 _ 3 A kL G rfl kL _ rfl _ (.inl rfl)⟩
 have af:Src prog 3 28 _ 1 _ c:=ae.src underlying28 (by intro x L;simp only [mG,mF,or_false] at L;rcases L with rfl | rfl | rfl <;> rfl);have M:=x.below (show Below W.heap.size W c by rw [a];exact kQ);have ag:=M.p;obtain ⟨v9,w9,aa,u,i,r⟩:=l7 (P:=prog) c w.heap.size 28 28 28 56 iM (aI rV) 3 24 underlying28 ab T V X rfl _ _ _ M.bo.o5 _ 1 _ af G A A;obtain ⟨a9,c9,rfl⟩:=u.slc;have H:=x.tk.Yf (x:=t) (ob:=aH #[I Y t.1,I Y t.2.1,I Y t.2.2] 56) u (by rw [← a];exact i) (by rw [← a];exact r);have s:=H.1;rw [pz] at s;rw [← a];exact ⟨a9,c9,w9,aa,s,x.out H.2 ⟨x.f.s1,x.f.s2,x.f.s3,x.f.k3,x.f.k2,x.f.k4.abh _ ht⟩ (by unfold BD.small;simp;omega),⟨by have l:=i.size;have o:c.heap.size=W.heap.size+1:=(by rw [a];simp);simp [World.setCell];omega,fun q l o N=>by
  have gs:=lU (lJ w9 (U Q)) 11 (K a9 (d.O.length+1) c9);have z:q<c.heap.size:=by rw [a];simp;omega
  exact ((gs.block q (lu z i.size) (fun e=>N fK)).trans (i.block q z (fun e=>o (by rw [e];simp [kK])))).trans (by rw [a];exact kU _ _ _ l)⟩,fun q v=>by
  simp only [kK,mG,mF,or_false,lD,mQ] at v ⊢;have ah:c.heap.size=W.heap.size+1:=by rw [a];simp
  rcases v with e | e | e | e | e | e
  ·left;simp [e]
  ·left;simp [e]
  ·left;simp [e]
  ·left;simp [e]
  ·left;simp [e]
  ·rcases r with j | j
   ·left;rw [j] at e;simp [e]
   ·right;rw [j] at e;injection e with e;omega⟩
theorem lX.aei (x:lX w g k Q d h W) (i:d.L1.length+d.L2.length+d.R.length+d.J.length+d.S.length+d.O.length<1048576) (t:Bool × Int) (ht:I64 t.2):∃ a9 c9 w9,(Builtin.append_ #[27,27] 27 #[K h.az d.S.length h.cs,K (U ⟨W.heap.size,0,C⟩) 1 1]).run prog (W.alloc (aH #[aF t.1,I Y t.2] 54))=.ok (K a9 (d.S.length+1) c9) w9∧CF w9 Q (bvs d h)∧lX w g k Q {d with S:=d.S ++ [t]} {h with az:=a9,cs:=c9} (w9.setCell ⟨Q,10,C⟩ (K a9 (d.S.length+1) c9))∧Jk d h Q W (w9.setCell ⟨Q,10,C⟩ (K a9 (d.S.length+1) c9))∧Lu d h W {d with S:=d.S ++ [t]} {h with az:=a9,cs:=c9}:=by
 obtain ⟨iM,ae,V,X,aa⟩:=info_parts Tryz.infoSe;have hp:=x.p;obtain ⟨c, a⟩ := kC (W.alloc (aH #[aF t.1,I Y t.2] 54));have af:Own w.heap.size c 2 (K (U ⟨W.heap.size,0,C⟩) 1 1) 1 [aF t.1,I Y t.2]:=by
  rw [a];exact .inr ⟨_,0,1,rfl,kW.made W w.heap.size 54 2 1 1 _ 2 A kL G rfl kL _ rfl _ (.inl rfl)⟩
 have ag:Src prog 2 27 _ 1 _ c:=af.src underlying27 (by intro x M;simp only [mG,mF,or_false] at M;rcases M with rfl | rfl <;> rfl);have N:=x.below (show Below W.heap.size W c by rw [a];exact kQ);have ah:=N.p;obtain ⟨v9,w9,ab,v,j,s⟩:=l7 (P:=prog) c w.heap.size 27 27 27 54 iM (aI #[aF false,I Y 0]) 2 16 underlying27 ae V X aa rfl _ _ _ N.bo.o4 _ 1 _ ag G A A;obtain ⟨a9,c9,rfl⟩:=v.slc;have L:=x.tk.aa1 (x:=t) (ob:=aH #[aF t.1,I Y t.2] 54) v (by rw [← a];exact j) (by rw [← a];exact s);have u:=L.1;rw [pz] at u;rw [← a];exact ⟨a9,c9,w9,ab,u,x.out L.2 ⟨x.f.s1,x.f.s2,x.f.s3,x.f.k3,F6.MI (fun y i=>by rcases List.mem_append.1 i with i | i;exact x.f.k2.mem y i;rw [List.mem_singleton.1 i];exact ht),x.f.k4⟩ (by unfold BD.small;simp;omega),⟨by have o:=j.size;have r:c.heap.size=W.heap.size+1:=(by rw [a];simp);simp [World.setCell];omega,fun q o r T=>by
  have gs:=lU (lJ w9 (U Q)) 10 (K a9 (d.S.length+1) c9);have H:q<c.heap.size:=by rw [a];simp;omega
  exact ((gs.block q (lu H j.size) (fun e=>T fK)).trans (j.block q H (fun e=>r (by rw [e];simp [kK])))).trans (by rw [a];exact kU _ _ _ o)⟩,fun q z=>by
  simp only [kK,mG,mF,or_false,lD,mQ] at z ⊢;have ai:c.heap.size=W.heap.size+1:=by rw [a];simp
  rcases z with e | e | e | e | e | e
  ·left;simp [e]
  ·left;simp [e]
  ·left;simp [e]
  ·left;simp [e]
  ·rcases s with l | l
   ·left;rw [l] at e;simp [e]
   ·right;rw [l] at e;injection e with e;omega
  ·left;simp [e]⟩
theorem lX.add2 (x:lX w g k Q d h W) (i:d.L1.length+d.L2.length+d.R.length+d.J.length+d.S.length+d.O.length<1048576) (s:ByteArray) (hs:s.size≤maxLen):∃ a9 c9 w9,(Builtin.append_ #[23,23] 23 #[K h.a2 d.L2.length h.c2,K (U ⟨W.heap.size,0,C⟩) 1 1]).run prog (W.alloc (aH #[E s] 9))=.ok (K a9 (d.L2.length+1) c9) w9∧CF w9 Q (bvs d h)∧lX w g k Q {d with L2:=d.L2 ++ [s]} {h with a2:=a9,c2:=c9} (w9.setCell ⟨Q,7,C⟩ (K a9 (d.L2.length+1) c9))∧Jk d h Q W (w9.setCell ⟨Q,7,C⟩ (K a9 (d.L2.length+1) c9))∧Lu d h W {d with L2:=d.L2 ++ [s]} {h with a2:=a9,c2:=c9}:=by
 obtain ⟨iM,ab,T,V,X⟩:=info_parts Tryz.infoSt;have hp:=x.p;obtain ⟨c, a⟩ := kC (W.alloc (aH #[E s] 9));have ae:Own w.heap.size c 1 (K (U ⟨W.heap.size,0,C⟩) 1 1) 1 [E s]:=by
  rw [a];exact .inr ⟨_,0,1,rfl,kW.made W w.heap.size 9 1 1 1 _ 1 A kL G rfl kL _ rfl _ (.inl rfl)⟩
 have af:Src prog 1 23 _ 1 _ c:=ae.src underlying23 (by intro x hx;obtain rfl:=List.mem_singleton.1 hx;rfl);have M:=x.below (show Below W.heap.size W c by rw [a];exact kQ);have ag:=M.p;obtain ⟨v9,w9,aa,v,j,t⟩:=l7 (P:=prog) c w.heap.size 23 23 23 9 iM (E ⟨#[]⟩) 1 16 underlying23 ab T V X rfl _ _ _ M.bo.o1 _ 1 _ af G A A;obtain ⟨a9,c9,rfl⟩:=v.slc;have L:=x.tk.Vf (s:=s) (ob:=aH #[E s] 9) v (by rw [← a];exact j) (by rw [← a];exact t);have u:=L.1;rw [pz] at u;rw [← a];refine ⟨a9,c9,w9,aa,u,x.out L.2 ⟨x.f.s1,fun y i=>?_,x.f.s3,x.f.k3,x.f.k2,x.f.k4⟩ (by unfold BD.small;simp;omega),⟨by have o:=j.size;have r:c.heap.size=W.heap.size+1:=(by rw [a];simp);simp [World.setCell];omega,fun q o r N=>by
  have gs:=lU (lJ w9 (U Q)) 7 (K a9 (d.L2.length+1) c9);have H:q<c.heap.size:=by rw [a];simp;omega
  exact ((gs.block q (lu H j.size) (fun e=>N fK)).trans (j.block q H (fun e=>r (by rw [e];simp [kK])))).trans (by rw [a];exact kU _ _ _ o)⟩,fun q z=>by
  simp only [kK,mG,mF,or_false,lD,mQ] at z ⊢;have ah:c.heap.size=W.heap.size+1:=by rw [a];simp
  rcases z with e | e | e | e | e | e
  ·left;simp [e]
  ·rcases t with l | l
   ·left;rw [l] at e;simp [e]
   ·right;rw [l] at e;injection e with e;omega
  ·left;simp [e]
  ·left;simp [e]
  ·left;simp [e]
  ·left;simp [e]⟩
 rcases List.mem_append.1 i with i | i
 ·exact x.f.s2 y i
 ·obtain rfl:=List.mem_singleton.1 i;exact hs
end
end
end Go.Proofs.YtfkkipgcfoegmaaGreat
