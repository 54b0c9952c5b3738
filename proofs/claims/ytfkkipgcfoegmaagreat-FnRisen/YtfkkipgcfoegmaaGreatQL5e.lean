
import Derived.Test.YtfkkipgcfoegmaaGreatQL5q
set_option maxHeartbeats 8000000
set_option maxRecDepth 100000
namespace Go.Proofs.YtfkkipgcfoegmaaGreat
open Go.Proofs.Tryz
open Go.Value renaming slice→K,string→E,pointer→aG,agg→aI
open Option renaming none→C,some→U
open Go.Operand renaming tmp→F
open Go.Obj renaming cells→aH
open Bool renaming false→aK
open Go.Ending renaming returned→aO
open Go.Value renaming int→I
open Go.IntKind renaming i64→Y
open Go.RowKit
variable {B Q Wb b c g i j k n q:Nat} {W w:World} {a:Option Addr} {cs vs:List Value} {d:BD} {e now wk:Int} {h:BH} {o:Oper} {ts:List kJ} {v vP:Value} {ρ:Operand→Value}
theorem adg (a:1≤e) (c:e≤300):Gn (lS 1 e 0 ⟨#[]⟩)=U (1,e,0,⟨#[]⟩):=JR ⟨.inl ⟨rfl,a,c,rfl,rfl⟩,rfl⟩
theorem VL {st:St} (a:0≤st.1) (c:st.1<300):qB ts st (lS 1 (st.1+1) 0 ⟨#[]⟩)=U (st.1+1,st.2):=by
 unfold qB;rw [adg A A];simp [step1]
def CZ (n:Nat):List ByteArray:=(List.range n).map fun (i:Nat)=>lS 1 ((i:Int)+1) 0 ⟨#[]⟩
theorem DC (n:Nat):(CZ n).length=n:=by simp [CZ]
theorem QI (n:Nat):CZ (n+1)=CZ n ++ [lS 1 ((n:Int)+1) 0 ⟨#[]⟩]:=by unfold CZ;rw [DK,rD];rfl
theorem PW (ts:List kJ) (R:List ByteArray):∀ n,n≤300→rep ts (CZ n) (0,R)=U ((n:Int),R)
 | 0,_=>rfl
 | n+1,hn=>by
  have ih:=PW ts R n A;rw [QI,Fe,ih];have:=VL (ts:=ts) (st:=((n:Int),R)) (by show (0:Int)≤n;omega) (by show (n:Int)<300;omega);show qB ts ((n:Int),R) _=_;rw [this];simp
theorem FU.ep {r:ByteArray} (h:FU 1 e 0 ⟨#[]⟩ r) (a:1≤e) (c:e≤300):r=lS 1 e 0 ⟨#[]⟩:=by
 rcases h with ⟨_,h⟩ | ⟨h,_⟩
 ·exact h
 ·exact absurd (.inl ⟨rfl,a,c,rfl,rfl⟩) h
theorem U5:(lS 1 e 0 ⟨#[]⟩).size≤maxLen:=Ld (lG _)
theorem adT (h:B≤w.heap.size) (x:ByteArray):Src prog 1 23 (K (U ⟨w.heap.size,0,C⟩) 1 1) 1 [E x] (w.alloc (aH #[E x] 9)) :=
 Own.src (B:=B) (.inr ⟨_,0,1,rfl,kW.made w B 9 1 1 1 _ 1 h kL G rfl kL _ rfl _ (.inl rfl)⟩) underlying23 dY
theorem UE (n:Nat) (w:World) (hn:n≤300) :
  Calls prog 54 #[I Y n] w fun e T=>(∃ v,e=aO v∧Own w.heap.size T 1 v n ((CZ n).map E))∧Below w.heap.size w T:=by
 obtain ⟨i0,hi,ah,ai,ak⟩:=info_parts Tryz.infoSt;obtain ⟨W, c⟩ := kC (w.alloc (aH #[] 9));have H:Below w.heap.size w W:=by rw [c];exact kQ
 have Q:Own w.heap.size W 1 (K (U ⟨w.heap.size,0,C⟩) 0 0) 0 []:=by
  rw [c];exact .inr ⟨_,0,0,rfl,kW.made w w.heap.size 9 1 0 0 #[] 0 kL kL (lG _) rfl kL [] rfl (0,0) (.inl rfl)⟩
 have u:=hid c;clear c;go_enter func54,ntmps54
 go_upto_region 2 with fail
 rw [← u.out];clear u;go_wp2;go_loopw [3,4] (fun ov x wr=>∃ (j:Nat) (o:Option Addr) (p:Nat),j≤n∧x=I Y ((j:Int)+1)∧ov=K o j p∧Own w.heap.size wr 1 (K o j p) j ((CZ j).map E)∧Below w.heap.size w wr) (fun _ x _=>n+1 - (intOf x).toNat)
 case atStart=>exact ⟨0,_,_,lG _,rfl,rfl,Q,H⟩
 case round =>
  clear H Q;obtain ⟨j,o,p,hj,rfl,rfl,own,a⟩:=hrel;by_cases ae:j<n
  ·have af:(j:Int)+1≤(n:Int):=by omega
   go_wp2_with fail
   refine (Ai 1 ((j:Int)+1) 0 ⟨#[]⟩ _).mono ?_;rintro e d ⟨⟨s2,rfl,M⟩,g⟩;have N:=M.ep A A;have R:=own.below g kL;have h:=a.trans (g.mono a.size);have P:=h.size;have f:Below d.heap.size d (d.alloc (aH #[E s2] 9)):=kQ;have l:=R.below f kL;have J:=h.trans (f.mono P);have k:w.heap.size≤(d.alloc (aH #[E s2] 9)).heap.size:=aQ;have S:=adT P s2;have r:=hid N;clear M N own R a g h f;go_wp2_with (at_builtin;refine kT _ rfl _ _ 23 23 rfl w.heap.size 9 i0 (E ⟨#[]⟩) 1 16 underlying23 hi ah ai ak rfl _ j _ rfl l _ 1 _ rfl S G A k ?_;intro v' V i L ab)
   obtain ⟨a9,z,rfl⟩:=i.slc;have ag:Hid (Own w.heap.size V 1 (K a9 (j+1) z) (j+1) ((CZ (j+1)).map E)):=by
    rw [QI,rD,← r.out];exact i
   have aa:Hid (Below w.heap.size w V):=hid (J.grown L k (fun q e=>l.ku q e));clear i L ab S J l r k;go_roundw
   case rel=>exact ⟨j+1,a9,z,A,aW,rfl,ag.out,aa.out⟩
   case measure=>simp [intOf];omega
  ·obtain rfl:j=n:=by omega
   have af:¬ (j:Int)+1≤(j:Int):=A;have HO:=hid own;have X:=hid a;clear own a hj ae;go_wp2;go_ret;exact ⟨⟨_,rfl,HO.out⟩,X.out⟩
section
def PB (vP:Value) (ts:List kJ) (vs:List Value) (q:Nat):Prop:=vP.ownBlock=U q∨∃ j,j<ts.length∧(vs.getD j kH).ownBlock=U q
theorem lF.lt (h:lF W B vP ts vs) (a:PB vP ts vs q):B≤q∧q<W.heap.size:=by
 rcases a with a | ⟨j,c,a⟩
 ·exact ⟨h.row.ku q a,h.row.kD q a⟩
 ·exact ⟨(h.dep j c).ku q a,(h.dep j c).kD q a⟩
theorem lF.kp {W':World} (h:lF W B vP ts vs) (c:∀ q,PB vP ts vs q→W'.heap[q]?=W.heap[q]?):lF W' B vP ts vs:=h.MJ (fun q a=>c q (.inl a)) (fun j d q a=>c q (.inr ⟨j,d,a⟩))
structure oC (w:World) (g k Wb Q:Nat) (vP:Value) (ts:List kJ) (vs:List Value) (d:BD) (h:BH) (W:World):Prop where
 x:lX w g k Q d h W
 pl:lF W w.heap.size vP ts vs
 wc:W.cell? ⟨Wb,0,C⟩=U vP
 wb:w.heap.size≤Wb∧Wb<W.heap.size∧Wb≠Q∧U Wb ∉ kK d h
 nb:∀ q,PB vP ts vs q→U q ∉ kK d h∧q≠Q
section
variable {w W W':World} {g k k' Wb Q:Nat} {vP:Value} {ts:List kJ} {vs:List Value} {d d':BD} {h h':BH}
theorem oC.below (e:oC w g k Wb Q vP ts vs d h W) (c:Below W.heap.size W W'):oC w g k Wb Q vP ts vs d h W' :=
 have hw:=e.wb
 ⟨e.x.below c,e.pl.below c,(mV (w:=W) (a:=⟨Wb,0,C⟩) (c.block _ hw.2.1)).trans e.wc,⟨hw.1,lu hw.2.1 c.size,hw.2.2⟩,e.nb⟩
theorem oC.pick (e:oC w g k Wb Q vP ts vs d h W) (l:RD W' g k') (c:W.grownBy W' (U g)):oC w g k' Wb Q vP ts vs d h W' :=
 have hw:=e.wb;have r:=e.x.p;have f:∀ q,w.heap.size≤q→q<W.heap.size→W'.heap[q]?=W.heap[q]?:=fun q o j=>c.block q j (fun e=>O)
 ⟨e.x.pick l c,e.pl.kp (fun q i=>f q (e.pl.lt i).1 (e.pl.lt i).2),(mV (w:=W) (a:=⟨Wb,0,C⟩) (f _ hw.1 hw.2.1)).trans e.wc,⟨hw.1,lu hw.2.1 c.size,hw.2.2⟩,e.nb⟩
theorem oC.more (e:oC w g k Wb Q vP ts vs d h W) (a:k≤k'):oC w g k' Wb Q vP ts vs d h W:=⟨e.x.more a,e.pl,e.wc,e.wb,e.nb⟩
theorem oC.upd (e:oC w g k Wb Q vP ts vs d h W) (o:lX w g k Q d' h' W') (j:Jk d h Q W W') (l:Lu d h W d' h'):oC w g k Wb Q vP ts vs d' h' W':=by
 have hw:=e.wb;have p:=j.1;refine ⟨o,e.pl.kp (fun q c=>j.2 q (e.pl.lt c).2 (e.nb q c).1 (e.nb q c).2),(mV (w:=W) (a:=⟨Wb,0,C⟩) (j.2 _ hw.2.1 hw.2.2.2 hw.2.2.1)).trans e.wc,⟨hw.1,A,hw.2.2.1,fun i=>?_⟩,fun q c=>⟨fun i=>?_,(e.nb q c).2⟩⟩
 ·rcases l Wb i with f | f
  ·exact hw.2.2.2 f
  ·omega
 ·rcases l q i with f | f
  ·exact (e.nb q c).1 f
  ·have:=(e.pl.lt c).2;omega
theorem Jk.box:Jk d h Q W (W.setCell ⟨Q,j,C⟩ v):=⟨by simp [World.setCell],fun q a _ c=>(lU (lJ W (U Q)) j v).block q a (fun e=>c fK)⟩
theorem Jk.row {r:Option Nat} (a:W.grownBy W' r) (g:r∈kK d h):Jk d h Q W W':=⟨a.size,fun q c f _=>a.block q c (fun e=>f (e ▸ g))⟩
theorem Lu.same (e:kK d' h'=kK d h):Lu d h W d' h':=fun _ a=>.inl (e ▸ a)
theorem oC.sc2 (e:oC w g k Wb Q vP ts vs d h W) (v:Int):oC w g k Wb Q vP ts vs {d with now:=v} h (W.setCell ⟨Q,2,C⟩ (I Y v)):=e.upd (e.x.sc2 v) Jk.box (Lu.same rfl)
theorem oC.sc5 (e:oC w g k Wb Q vP ts vs d h W) (v:Int):oC w g k Wb Q vP ts vs {d with gv:=v} h (W.setCell ⟨Q,5,C⟩ (I Y v)):=e.upd (e.x.sc5 v) Jk.box (Lu.same rfl)
theorem YD (d:BD) (h:BH):(K h.aj d.J.length h.cj).ownBlock∈kK d h:=aX
theorem YB (d:BD) (h:BH):(K h.az d.S.length h.cs).ownBlock∈kK d h:=aX
theorem oC.job (e:oC w g k Wb Q vP ts vs d h W) (hi:i<d.J.length):∃ a c,h.aj=U ⟨a,c,C⟩∧W.there a (c+i*3) 3∧∀ t:Tr,(I64 t.1∧I64 t.2.1∧I64 t.2.2)→oC w g k Wb Q vP ts vs {d with J:=d.J.set i t} h (W.setCells a (c+i*3) [I Y t.1,I Y t.2.1,I Y t.2.2]):=by
 obtain ⟨a,c,f,j,-,l⟩:=e.x.job hi;have o:(K h.aj d.J.length h.cj).ownBlock=U a:=by rw [f];rfl
 exact ⟨a,c,f,j,fun t p=>e.upd (l t p) (Jk.row (r:=U a) (gsc) (by rw [← o];exact YD d h)) (Lu.same aX)⟩
theorem oC.seat (e:oC w g k Wb Q vP ts vs d h W) (hi:i<d.S.length):∃ a c,h.az=U ⟨a,c,C⟩∧W.cell? ⟨a,c+i*2+1,C⟩=U (I Y (t2 d.S i).2)∧W.frozen? ⟨a,c+i*2+1,C⟩=aK∧∀ z:Int,I64 z→oC w g k Wb Q vP ts vs {d with S:=d.S.set i ((t2 d.S i).1,z)} h (W.setCell ⟨a,c+i*2+1,C⟩ (I Y z)):=by
 obtain ⟨a,c,f,j,l,o⟩:=e.x.seat hi;have p:(K h.az d.S.length h.cs).ownBlock=U a:=by rw [f];rfl
 exact ⟨a,c,f,j,l,fun z q=>e.upd (o z q) (Jk.row (r:=U a) (lU (lJ _ _) _ _) (by rw [← p];exact YB d h)) (Lu.same aX)⟩
theorem oC.D8 {z:Nat} (e:oC w g k Wb Q vP ts vs d h W) (H:Q<z∧Wb<z∧w.heap.size≤z) (M:∀ q,PB vP ts vs q→q<z) (t:lg W z d' h') (L:d'.fits) (N:d'.small) (f:W.grownBy W' (U Q)) (J:CF W' Q (bvs d' h')):oC w g k Wb Q vP ts vs d' h' W':=by
 have v:=e.x.p;have hw:=e.wb;have l:∀ q,U q∈kK d' h'→z≤q:=fun q c=>(t.lo _ c q rfl).1;have i:∀ q,q<W.heap.size→q≠Q→W'.heap[q]?=W.heap[q]?:=fun q j s=>f.block q j (fun e=>s fK);refine ⟨⟨e.x.rd.keep (fun q j=>i q (by have:=e.x.rd.lt;omega) A),⟨f.os.trans e.x.gr.os,f.tape.trans e.x.gr.tape,f.output.trans e.x.gr.output,lH e.x.gr.size f.size,fun q j s=>(i q (by have:=e.x.gr.size;omega) A).trans (e.x.gr.block q j s)⟩,J,(t.blk (fun r o q c=>i q (t.lo r o q c).2 (by have:=l q (c ▸ o);omega))).mono H.2.2,L,N,⟨v.1,v.2.1,lu v.2.2 f.size⟩,fun r o e=>by have:=l Q (e ▸ o);omega⟩,e.pl.kp (fun q c=>i q (e.pl.lt c).2 (e.nb q c).2),(mV (w:=W) (a:=⟨Wb,0,C⟩) (i _ hw.2.1 hw.2.2.1)).trans e.wc,⟨hw.1,lu hw.2.1 f.size,hw.2.2.1,fun u=>by have:=l Wb u;omega⟩,fun q c=>⟨fun u=>by have:=l q u;have:=M q c;omega,(e.nb q c).2⟩⟩
end
def TI (e:Ending) (B:Nat) (w':World):Prop:=∃ d h vP ts vs,e=aO (.tuple #[aI (bvs d h).toArray,aI #[vP]])∧lg w' B d h∧lF w' B vP ts vs∧d.fits∧d.small∧IX ts∧ts.length+qF ts≤1048576
theorem qK {fn:Func} {tmps:Array Value} {p:Nat} (s s2:Nat) (l:fn.results=#[.cell s 30,.cell s2 33]) (o:tmps.getD s undef=aG (U ⟨p,0,C⟩)) (t:tmps.getD s2 undef=aG (U ⟨q,0,C⟩)) (d:CF w p cs) (f:cs.length=12) (a:w.cell? ⟨q,0,C⟩=U v):(results fn tmps).run prog w=.ok (.tuple #[aI cs.toArray,aI #[v]]) w:=by
 have i:w.rangeAt p 0 cs:=fun j v a=>by
  rw [ny,(d j (List.getElem?_eq_some_iff.1 a).1).1];exact a
 have g:=run_loadVar_mid (P:=prog) w p 0 30 cs _ i underlying30 rfl (by rw [f];exact Tryz.sizeBo);have k:w.rangeAt q 0 [v]:=fun j z c=>by
  match j,c with
  | 0,c=>injection c with e;rw [← e];exact a
 have h:=run_loadVar_mid (P:=prog) w q 0 33 [v] _ k underlying33 rfl Z;have r:tmps[s]?.getD undef=aG (U ⟨p,0,C⟩):=by rw [← o];simp
 have u:tmps[s2]?.getD undef=aG (U ⟨q,0,C⟩):=by rw [← t];simp
 unfold results;rw [l];simp [r,u,asAddr,g,h]
end
section
def dS (n:Nat):ByteArray:=if n<10 then strOfNums [48+(n:Int)] else strOfNums [48+((n / 10:Nat):Int)] ++ strOfNums [48+(n:Int) % 10]
theorem UG (n:Nat) (w:World) (h:n<10):Calls prog 55 #[I Y n] w fun e f=>e=aO (E (strOfNums [48+(n:Int)]))∧Below w.heap.size w f:=by
 have g:¬ (n:Int)<0:=A;have j:(n:Int)<10:=A;have d:=run_convert_bytes_arg (P:=prog) (w.alloc (aH #[.int .u8 (48+(n:Int))] 5)) 22 5 underlying22 underlying5 w.heap.size 0 1 1 [48+(n:Int)] rfl (fun i hi=>by
  obtain rfl:i=0:=A;simp) 9 underlying9
 obtain ⟨s1, a⟩ := kC (strOfNums [48+(n:Int)]);rw [← a] at d;have c:=hid a;clear a;go_enter func55,ntmps55
 go_wp2;go_ret;exact ⟨by rw [c.out];rfl,kQ⟩
theorem ab8 (n:Nat) (w:World) (h:n<100):Calls prog 55 #[I Y n] w fun e j=>e=aO (E (dS n))∧Below w.heap.size w j:=by
 by_cases k:n<10
 ·refine (UG n w k).mono ?_
  rintro e j ⟨rfl,r⟩;exact ⟨by rw [dS,if_pos k],r⟩
 ·have z:¬ (n:Int)<0:=by omega
  have H:¬ (n:Int)<10:=A;have l:∀ a:World,Calls prog 55 #[I Y ((n:Int) / 10)] a fun e j=>e=aO (E (strOfNums [48+((n / 10:Nat):Int)]))∧Below a.heap.size a j:=fun a=>by
   rw [show (n:Int) / 10=((n / 10:Nat):Int) by omega];exact UG (n / 10) a A
  obtain ⟨s1, d⟩ := kC (strOfNums [48+(n:Int) % 10]);have S:s1.size≤1:=by rw [d,strOfNums_size];simp
  have p:=hid d;obtain ⟨y, f⟩ := kC (strOfNums [48+((n / 10:Nat):Int)]);have Q:y.size≤1:=by rw [f,strOfNums_size];simp
  rw [← f] at l;have q:=hid f;have o:=hid l;have t:=fun (W:World) (g:Nat) (u:W.cell? ⟨g,0,C⟩=U (.int .u8 (48+(n:Int) % 10)))=>run_convert_bytes_arg (P:=prog) W 22 5 underlying22 underlying5 g 0 1 1 [48+(n:Int) % 10] rfl (fun i hi=>by
   obtain rfl:i=0:=A;simpa using u) 9 underlying9
  simp only [← d] at t;have J:IntKind.i64.wrap ((n:Int) / 10)=(n:Int) / 10:=bF;have L:(n:Int).tmod 10=(n:Int) % 10:=aeD A;have M:IntKind.i64.wrap (48+(n:Int) % 10)=48+(n:Int) % 10:=bF;have N:IntKind.u8.wrap (48+(n:Int) % 10)=48+(n:Int) % 10:=by rw [IntKind.wrap_u8];omega
  clear l d f;go_enter func55,ntmps55
  go_wp2;go_region_law (first
    | (go_simp;go_at_call 55;refine (o.out _).mono ?_;rintro v a ⟨rfl,c⟩;have R:¬ 9223372036854775807<y.size+s1.size:=(by omega);have s:=abm c ⟨w.heap.size,0,C⟩ (.int .u8 (48+(n:Int) % 10));simp at s))
  all_goals
   go_wp2;go_ret;refine ⟨by rw [dS,if_neg k,← p.out,← q.out];rfl,?_⟩;first
    | exact (mD.drew.trans (c.mono kL)).alloc c.size _
    | exact kQ.drew.trans (c.mono D)
def yZ (wk now:Int) (n:Nat):BD:=⟨wk,aK,now,0,0,0,CZ n,[],[],[],[],[]⟩
def Jh (a:Option Addr) (c:Nat):BH:=⟨a,C,C,C,C,C,c,0,0,0,0,0⟩
theorem QJ (wk now:Int) (n:Nat) (a:Option Addr) (c:Nat):bvs (yZ wk now n) (Jh a c)=[I Y wk,.bool aK,I Y now,I Y 0,I Y 0,I Y 0,K a n c,K C 0 0,K C 0 0,K C 0 0,K C 0 0,K C 0 0]:=by simp [bvs,yZ,Jh,DC]
theorem SE (wk now:Int) (d:Own B W 1 (K a n c) n ((CZ n).map E)):lg W B (yZ wk now n) (Jh a c):=XA W B wk now (CZ n) a c (by rw [DC];exact d)
theorem Fv:(yZ wk now n).fits:=by
 refine ⟨fun s c=>?_,fun s c=>absurd c (by simp [yZ]),fun s c=>absurd c (by simp [yZ]),fun j a=>absurd a (by simp [yZ]),fun j a=>absurd a (by simp [yZ]),fun j a=>absurd a (by simp [yZ])⟩;obtain ⟨i,_,rfl⟩:=List.mem_map.1 (show s∈CZ n from c);exact U5
theorem Em (h:n≤300):(yZ wk now n).small:=by simp [BD.small,yZ,DC];omega
def fuS:ByteArray:=⟨#[102,117,108,108]⟩
def uH (i:Nat):ByteArray:=fuS ++ dS i
def pJ (n:Nat):List kJ:=(List.range n).map fun i=>⟨uH i,1,[]⟩
theorem oh (n:Nat):(pJ n).length=n:=by simp [pJ]
theorem aaB (n:Nat):pJ (n+1)=pJ n ++ [⟨uH n,1,[]⟩]:=by unfold pJ;rw [DK,rD];rfl
theorem Fq (h:j<n):(pJ n).getD j dT=⟨uH j,1,[]⟩:=by simp [pJ,List.getD,h]
def fl (i:Nat):List UInt8:=[102,117,108,108] ++ (if i<10 then [UInt8.ofNat (48+i)] else [49,UInt8.ofNat (38+i)])
theorem Y1 (h:i<12):(uH i).data.toList=fl i:=by
 match i,h with
 | 0,_=>rfl
 | 1,_=>rfl
 | 2,_=>rfl
 | 3,_=>rfl
 | 4,_=>rfl
 | 5,_=>rfl
 | 6,_=>rfl
 | 7,_=>rfl
 | 8,_=>rfl
 | 9,_=>rfl
 | 10,_=>rfl
 | 11,_=>rfl
theorem Y0 (h:i<12):Ie (uH i):=by
 unfold Ie Hl U9;match i,h with
 | 0,_=>decide
 | 1,_=>decide
 | 2,_=>decide
 | 3,_=>decide
 | 4,_=>decide
 | 5,_=>decide
 | 6,_=>decide
 | 7,_=>decide
 | 8,_=>decide
 | 9,_=>decide
 | 10,_=>decide
 | 11,_=>decide
theorem adL:∀ i:Fin 12,∀ j:Fin 12,j.1<i.1→fl j.1≠fl i.1:=cZ
theorem acd:Code (pJ 12) 0:=by
 have d:=oh 12;refine .inr ⟨A,.inr ⟨fun i hi=>?_,.inr ⟨fun j a=>?_,.inr ⟨fun j a=>?_,rfl⟩⟩⟩⟩
 ·rw [d] at hi
  unfold nm;rw [Fq hi];refine ⟨Y0 hi,fun j a e=>?_⟩;rw [Fq A] at e;have c:=congrArg (fun s:ByteArray=>s.data.toList) e;dsimp only at c;rw [Y1 A,Y1 hi] at c;exact adL ⟨i,hi⟩ ⟨j,A⟩ a c
 ·rw [d] at a
  rw [Fq a];exact ⟨by show (1:Int)≤1;omega,by show (1:Int)≤20;omega⟩
 ·rw [d] at a
  rw [Fq a];exact ⟨D,fun i hi=>absurd hi D⟩
theorem NS (h:i<12):(uH i).size≤30:=(Y0 h).2.2
theorem UM (d:n≤12):IX (pJ n):=fun j a=>by
 rw [oh] at a;rw [Fq a];exact ⟨by show (uH j).size≤maxLen;have:=NS (show j<12 by omega);unfold maxLen;omega,⟨by show (-9223372036854775808:Int)≤1;omega,by show (1:Int)≤9223372036854775807;omega⟩,fun x c=>absurd c D⟩
theorem adi:(yZ 2 3 299).ok (pJ 12):=by
 refine ⟨⟨acd,by simp [yZ,DC]⟩,⟨by show (1:Int)≤2;omega,by show (2:Int)≤8;omega⟩,⟨by show (0:Int)≤3;omega,by show (3:Int)≤1000000;omega⟩,299,(st0 (pJ 12).length).2,?_,.inl ⟨rfl,by simp [qE,yZ]⟩⟩;show rep (pJ 12) (CZ 299 ++ []) (st0 (pJ 12).length)=_;rw [pz];exact PW _ _ 299 A
theorem aaI {d':BD} (h:CP (yZ 2 3 299) (pJ 12) d'):d'.R.length=12∧d'.L1.length+d'.L2.length+d'.J.length+d'.S.length+d'.O.length≤1000:=by
 rcases h with ⟨_,h⟩ | ⟨h,_⟩
 ·rcases h with ⟨h,_⟩ | ⟨_,c,R,e,h⟩
  ·cases h
  ·have f:rep (pJ 12) (CZ 299) (st0 (pJ 12).length)=U (c,R):=e.1
   have g:rep (pJ 12) (CZ 299) (0,(st0 (pJ 12).length).2)=U (((299:Nat):Int),(st0 (pJ 12).length).2):=PW _ _ 299 A;have a:U (c,R)=U (((299:Nat):Int),(st0 (pJ 12).length).2):=f.symm.trans g;injection a with a;injection a with a j;have i:(yZ 2 3 299).L1.length=299:=DC 299;rcases h with ⟨h,_⟩ | ⟨_,rfl⟩
   ·omega
   ·have d:=e.2.2.2.2.1
    rw [oh] at d;refine ⟨d,?_⟩;simp only [oI,lD,pX,qJ,Dh,i,oh];show 299+(0+1)+0+12+(2:Int).toNat+0≤1000;decide
 ·exact absurd adi h
structure Rf (w:World) (g k Pp Q n:Nat) (a:Option Addr) (c:Nat) (vs:List Value) (d:BD) (h:BH) (W:World):Prop where
 e:oC w g k Pp Q (K a n c) (pJ n) vs d h W
 bx:CF W Pp [K a n c]
 np:∀ q,PB (K a n c) (pJ n) vs q→q≠Pp
section
variable {w W W':World} {g k k' Pp Q n c:Nat} {a:Option Addr} {vs:List Value} {d d':BD} {h h':BH}
theorem Rf.below (x:Rf w g k Pp Q n a c vs d h W) (f:Below W.heap.size W W'):Rf w g k Pp Q n a c vs d h W':=⟨x.e.below f,x.bx.block (f.block _ x.e.wb.2.1),x.np⟩
theorem Rf.step (x:Rf w g k Pp Q n a c vs d h W) (hn:n<12):∃ a9 l N,(Builtin.append_ #[31,31] 31 #[K a n c,K (U ⟨W.heap.size,0,C⟩) 1 1]).run prog (W.alloc (aH #[E (uH n),I Y 1,K C 0 0] 81))=.ok (K a9 (n+1) l) N∧(N.cell? ⟨Pp,0,C⟩=U (K a n c)∧N.frozen? ⟨Pp,0,C⟩=aK)∧Rf w g k Pp Q (n+1) a9 l (vs ++ [kH]) d h (N.setCell ⟨Pp,0,C⟩ (K a9 (n+1) l)):=by
 obtain ⟨iT,ak,af,ag,ah⟩:=info_parts Tryz.info81;have S:=x.e.x.p;have hw:=x.e.wb;have hl:=oh n;obtain ⟨z, t⟩ := kC (W.alloc (aH #[E (uH n),I Y 1,K C 0 0] 81));have H:Below W.heap.size W z:=by rw [t];exact kQ
 have z2:z.heap.size=W.heap.size+1:=by rw [t];simp
 have an:Own w.heap.size z 3 (K (U ⟨W.heap.size,0,C⟩) 1 1) 1 (Gs ⟨uH n,1,[]⟩ kH):=by
  rw [t];exact .inr ⟨_,0,1,rfl,kW.made W w.heap.size 81 3 1 1 _ 3 A kL G rfl kL _ rfl _ (.inl rfl)⟩
 have aq:Src prog 3 31 _ 1 _ z:=an.src underlying31 (by intro x hx;simp only [Gs,mG,mF,or_false] at hx;rcases hx with rfl | rfl | rfl <;> rfl);have x2:=x.below H;have ab:=x2.e.pl.row;rw [hl] at ab;obtain ⟨v4,o,ai,aa,u,X⟩:=l7 (P:=prog) z w.heap.size 31 31 31 81 iT (aI Nk) 3 48 underlying31 ak af ag ah rfl _ _ _ ab _ 1 _ aq G A A;obtain ⟨a9,l,rfl⟩:=aa.slc;have v:∀ q,(K a n c).ownBlock=U q→w.heap.size≤q∧q<W.heap.size∧U q ∉ kK d h∧q≠Q∧q≠Pp:=fun q i=>⟨x.e.pl.row.ku q i,x.e.pl.row.kD q i,(x.e.nb q (.inl i)).1,(x.e.nb q (.inl i)).2,x.np q (.inl i)⟩
 have T:lF o w.heap.size (K a9 (n+1) l) (pJ n ++ [⟨uH n,1,[]⟩]) (vs ++ [kH]):=x.e.pl.app (ob:=aH #[E (uH n),I Y 1,K C 0 0] 81) (Own.nil _ _ _) (.inl rfl) (fun j hj=>Dn.symm (.inl rfl)) (by rw [hl];exact aa) (by rw [← t];exact u) (by rw [← t];exact X);rw [← aaB] at T;have gs:o.grownBy (o.setCell ⟨Pp,0,C⟩ (K a9 (n+1) l)) (U Pp):=lU (lJ _ _) 0 _;have au:=u.size;have k4:∀ q,q<W.heap.size→(K a n c).ownBlock≠U q→o.heap[q]?=W.heap[q]?:=fun q s J=>(u.block q A (fun e=>J e.symm)).trans (H.block q s);have M:∀ q,q<W.heap.size→(K a n c).ownBlock≠U q→q≠Pp→(o.setCell ⟨Pp,0,C⟩ (K a9 (n+1) l)).heap[q]?=W.heap[q]?:=fun q s J h3=>(gs.block q A (fun e=>h3 fK)).trans (k4 q s J);have L:CF o Pp [K a n c]:=x.bx.block (k4 Pp hw.2.1 (fun e=>(v Pp e).2.2.2.2 rfl));have R:∀ q,PB (K a9 (n+1) l) (pJ (n+1)) (vs ++ [kH]) q→q≠Pp∧U q ∉ kK d h∧q≠Q:=fun q i=>by
  have al:vs.length=n:=by have:=x.e.pl.len;omega
  rcases i with i | ⟨j,hj,i⟩
  ·rcases X with e | e
   ·rw [e] at i;have:=v q i;exact ⟨this.2.2.2.2,this.2.2.1,this.2.2.2.1⟩
   ·rw [e] at i;injection i with i
    exact ⟨A,fun hh=>by have:=(x.e.x.bo.lo _ hh q rfl).2;omega,A⟩
  ·rw [oh] at hj
   by_cases e:j<n
   ·rw [FX A] at i
    have:=x.e.nb q (.inr ⟨j,A,i⟩);exact ⟨x.np q (.inr ⟨j,A,i⟩),this.1,this.2⟩
   ·obtain rfl:j=n:=by omega
    rw [← al,FY] at i;cases i
 rw [← t];refine ⟨a9,l,o,ai,⟨(L 0 D).1,(L 0 D).2⟩,⟨⟨?_,T.kp (fun q i=>gs.block q (T.lt i).2 (fun e=>(R q i).1 fK)),((L.set (j:=0) D _) 0 D).1,⟨hw.1,bW,hw.2.2⟩,fun q i=>(R q i).2⟩,L.set (j:=0) D _,fun q i=>(R q i).1⟩⟩;have ae:∀ q,U q∈kK d h→(K a n c).ownBlock≠U q∧q≠Pp:=fun q i=>⟨fun e=>(v q e).2.2.1 i,fun e=>hw.2.2.2 (e ▸ i)⟩
 exact ⟨x.e.x.rd.keep (fun q s=>M q (by have:=x.e.x.rd.lt;omega) (fun e=>by have:=v q e;omega) A),⟨gs.os.trans (u.os.trans (H.os.trans x.e.x.gr.os)),gs.tape.trans (u.tape.trans (H.tape.trans x.e.x.gr.tape)),gs.output.trans (u.output.trans (H.output.trans x.e.x.gr.output)),bW,fun q s J=>(M q A (fun e=>by have:=v q e;omega) A).trans (x.e.x.gr.block q s J)⟩,x.e.x.c.block (M Q S.2.2 (fun e=>(v Q e).2.2.2.1 rfl) (fun e=>hw.2.2.1 e.symm)),x.e.x.bo.blk (fun r V q i=>M q (x.e.x.bo.lo r V q i).2 (ae q (i ▸ V)).1 (ae q (i ▸ V)).2),x.e.x.f,x.e.x.y,⟨S.1,S.2.1,bW⟩,x.e.x.n⟩
end
end
section
theorem oC.fin {p s c:World} (e:oC p g k Wb Q vP ts vs d h W) (hw:w.grownBy p (U g)) (M:p.heap.size=w.heap.size+2) (H:g<w.heap.size) (j:W.grownBy s (U w.heap.size)) (l:s.grownBy c (U (w.heap.size+1))) (t:IX ts) (z:ts.length+qF ts≤1048576):TI (aO (.tuple #[aI (bvs d h).toArray,aI #[vP]])) w.heap.size c∧RD c g k∧w.grownBy c (U g):=by
 have L:=j.size;have o:∀ q,q<W.heap.size→q≠w.heap.size→q≠w.heap.size+1→c.heap[q]?=W.heap[q]?:=fun q a1 a2 a3=>(l.block q A (fun e=>O)).trans (j.block q a1 (fun e=>O));have i:=grownBy_trans hw e.x.gr;have J:=i.size;refine ⟨⟨d,h,vP,ts,vs,rfl,(e.x.bo.blk (fun r v q a=>?_)).mono A,(e.pl.kp (fun q a=>?_)).mono A,e.x.f,e.x.y,t,z⟩,e.x.rd.keep (fun q a=>o q A A A),⟨l.os.trans (j.os.trans i.os),l.tape.trans (j.tape.trans i.tape),l.output.trans (j.output.trans i.output),by have:=l.size;omega,fun q a u=>(o q A A A).trans (i.block q a u)⟩⟩
 ·have:=e.x.bo.lo r v q a;exact o q this.2 A A
 ·have:=e.pl.lt a;exact o q this.2 A A
theorem Eh (x:Operand) (h:o.op=.load 30 x) (d:ρ x=aG (U ⟨b,0,C⟩)) (a:CF w b cs) (c:cs.length=12):(execOp ρ o).run prog w=.ok (.value (aI cs.toArray)) w:=E5 30 _ cs x h d a underlying30 rfl (by rw [c];exact Tryz.sizeBo)
theorem Gg:(prog.info? 33).map (·.size)=U 1:=Z
theorem VY (x:Operand) (h:o.op=.build 25 #[(0,x)]) (d:ρ x=K a n c):(execOp ρ o).run prog w=.ok (.value (aI #[K a n c,K C 0 0])) w:=by
 unfold execOp;rw [h];simp [go_sem,d]
theorem V8 (x y z:Operand) {i j:Int} (h:o.op=.build 30 #[(0,x),(2,y),(6,z)]) (d:ρ x=I Y i) (e:ρ y=I Y j) (f:ρ z=aI #[K a n c,K C 0 0]):(execOp ρ o).run prog w=.ok (.value (aI #[I Y i,.bool aK,I Y j,I Y 0,I Y 0,I Y 0,K a n c,K C 0 0,K C 0 0,K C 0 0,K C 0 0,K C 0 0])) w:=by
 unfold execOp;rw [h];simp [go_sem,d,e,f]
theorem abZ (x:Operand) (r:Nat) (d:r≤100) (h:o.op=.binOp .sub 3 (.const (I Y 300)) x 3) (a:ρ (.const (I Y 300))=I Y 300) (c:ρ x=I Y (r:Nat)):(execOp ρ o).run prog w=.ok (.value (I Y ((300 - r:Nat):Int))) w:=by
 have:IntKind.i64.wrap (300 - (r:Int))=((300 - r:Nat):Int):=bF;unfold execOp;rw [h];simp [go_sem,c,a,this]
def REp (W:World) (n:Nat) (v:Value) (w':World):Prop:=(∃ a c,v=K a n c∧Own W.heap.size w' 1 (K a n c) n ((CZ n).map E))∧Below W.heap.size W w'
theorem adh (i:n≤300):Calls prog 54 #[I Y (n:Nat)] W fun e f=>∃ v,e=aO v∧REp W n v f :=
 (UE n W i).mono fun e f h=>by
  obtain ⟨⟨v,rfl,d⟩,g⟩:=h;obtain ⟨a,c,rfl⟩:=d.slc;exact ⟨_,rfl,⟨a,c,rfl,d⟩,g⟩
theorem UY (v1:Value) (w:World):Sem.run prog (callFunc 54 #[v1]) w=.ok (.enter 54 #[v1]) w:=Z
theorem Vp {ops:Array Oper} {rest:List Oper} {op:Oper} {a:Act} {Q:Exit→Act→World→Prop} (d:op.guard=C) (x y:Operand) (e:op.op=.store 61 x y) (p off:Nat) (g:a.eval x=aG (U ⟨p,off,C⟩)) (h:a.eval y=aI rV) (f:w.there p off 3) (c:∀ W',W'=w.setCells p off Iy→wpList prog ops Q rest (a.put op.dst undef) W'):wpList prog ops Q (op :: rest) a w :=
 wpList_store_mid d 61 x y e p off rV g h f aag Z (c _ rfl)
def RDc (W:World) (n:Nat) (v:Value) (w':World):Prop:=v=E (dS n)∧Below W.heap.size W w'
theorem adq (n:Nat) (c:n<100):Calls prog 55 #[I Y (n:Nat)] W fun e d=>∃ v,e=aO v∧RDc W n v d :=
 (ab8 n W c).mono fun _ _ a=>⟨_,a.1,rfl,a.2⟩
theorem UZ (v1:Value) (w:World):Sem.run prog (callFunc 55 #[v1]) w=.ok (.enter 55 #[v1]) w:=Z
def RVl (W:World) (v:Value) (w':World):Prop:=(∃ s:ByteArray,s.size≤100∧v=E s)∧Below W.heap.size W w'
theorem adP {name:ByteArray} (g:name.size≤30):Calls prog 56 #[E name,K (U ⟨b,0,C⟩) 0 0] W fun e f=>∃ v,e=aO v∧RVl W v f :=
 (Kr name (U ⟨b,0,C⟩) b 0 0 0 [] W A ⟨fun h=>absurd h A,rfl,lG _,fun h=>absurd h A,fun j c=>absurd c A,fun s d=>absurd d D⟩ (by simp [tot])).mono fun _ _ a=>⟨_,a.1,⟨_,by rw [FW];omega,rfl⟩,a.2⟩
theorem aaN (v1 v2:Value) (w:World):Sem.run prog (callFunc 56 #[v1,v2]) w=.ok (.enter 56 #[v1,v2]) w:=Z
theorem aaP (v1 v2:Value) (w:World):Sem.run prog (callFunc 10 #[v1,v2]) w=.ok (.enter 10 #[v1,v2]) w:=Z
section
variable {ρ:Operand→Value} {o:Oper} {w:World}
theorem acS (x y:Operand) (s t:ByteArray) (d:s.size+t.size≤1000000) (h:o.op=.binOp .add 9 x y 9) (a:ρ x=E s) (c:ρ y=E t):(execOp ρ o).run prog w=.ok (.value (E (s ++ t))) w:=Yy x y s t h a c d
theorem qbT (x:Operand) {s:ByteArray} (h:o.op=.build 81 #[(0,x),(1,.const (I Y 1))]) (c:ρ x=E s) (a:ρ (.const (I Y 1))=I Y 1):(execOp ρ o).run prog w=.ok (.value (aI #[E s,I Y 1,K C 0 0])) w:=by
 unfold execOp;rw [h];simp [go_sem,c,a]
end
theorem WR (n:Nat):(dS n).size≤2:=by
 unfold dS;split
 ·rw [strOfNums_size];simp
 ·rw [Jq,strOfNums_size,strOfNums_size];simp
def RRi (W:World) (v:Value) (w':World):Prop:=∃ d h,v=aI (bvs d h).toArray∧lg w' W.heap.size d h∧CP (yZ 2 3 299) (pJ 12) d∧Below W.heap.size W w'
theorem ad3 {a':Option Addr} {c' o:Nat} (g:lg W B (yZ 2 3 299) (Jh a c)) (j:lN W a' b o 12 (pJ 12)):Calls prog 10 #[aI (bvs (yZ 2 3 299) (Jh a c)).toArray,aI #[K a' 12 c']] W fun e d=>∃ v,e=aO v∧RRi W v d :=
 (Gu (yZ 2 3 299) (Jh a c) a' b o 12 c' (pJ 12) W (g.m (Fv)) j (Em A)).mono fun e d l=>by
  obtain ⟨⟨d2,⟨f,rfl,h⟩,i⟩,k⟩:=l;exact ⟨_,rfl,d2,f,rfl,h,i,k⟩
theorem oC.name (e:oC w g k Wb Q (K a 12 c) (pJ 12) vs d h W) (hi:i<12):∃ b o,a=U ⟨b,o,C⟩∧W.cell? ⟨b,o+i*3,C⟩=U (E (uH i)):=by
 have j:=e.pl;obtain ⟨b,o,f⟩:=lF.tasks' (a:=a) (c:=c) (ts:=pJ 12) j (UM A) (by rw [oh];unfold maxLen;omega);rw [oh] at f;obtain ⟨t,_,_,_,_,_,l,t0,_⟩:=f.get hi;rw [l,Fq hi] at t0;exact ⟨b,o,f.ad A,t0⟩
theorem adJ:(pJ 12).length+qF (pJ 12)≤1048576:=by
 have h:I7 (pJ 12):=fun j a=>by
  rw [oh] at a;rw [Fq a];exact ⟨by show (uH j).size≤1000;have:=NS a;omega,⟨by show (-1000:Int)≤1;omega,by show (1:Int)≤1000;omega⟩,D,fun x c=>absurd c D⟩
 have:=h.qF 12 (by rw [oh];omega);rw [pF (by rw [oh];omega)] at this;rw [oh];omega
set_option maxRecDepth 100000
theorem oC.res (e:oC w g k Wb Q vP ts vs d h W) (hi:i<d.R.length):∃ a c,h.ar=U ⟨a,c,C⟩∧W.cell? ⟨a,c+i,C⟩=U (E (rs d.R i))∧W.frozen? ⟨a,c+i,C⟩=aK∧∀ s:ByteArray,s.size≤maxLen→oC w g k Wb Q vP ts vs {d with R:=d.R.set i s} h (W.setCell ⟨a,c+i,C⟩ (E s)):=by
 obtain ⟨a,c,f,j,l,o⟩:=e.x.res hi;have p:(K h.ar d.R.length h.cr).ownBlock=U a:=by rw [f];rfl
 exact ⟨a,c,f,j,l,fun s q=>e.upd (o s q) (Jk.row (r:=U a) (lU (lJ _ _) _ _) (by rw [← p];exact JI d h)) (Lu.same aX)⟩
theorem oC.add {gk ok:Nat} {u:ByteArray} (e:oC w g k Wb Q vP ts vs d h W) (v:d.R.length=12) (hy:d.L1.length+d.L2.length+d.J.length+d.S.length+d.O.length≤1000000) (s:ByteArray) (hs:s.size≤maxLen) (hi:i<12) (hc:W.cell? ⟨gk,ok+i,C⟩=U (E u)) (j:h.ar=U ⟨gk,ok,C⟩) :
  ∃ a9 f a,(Builtin.append_ #[23,23] 23 #[K h.a2 d.L2.length h.c2,K (U ⟨W.heap.size,0,C⟩) 1 1]).run prog (W.alloc (aH #[E s] 9))=.ok (K a9 (d.L2.length+1) f) a∧CF a Q (bvs d h)∧oC w g k Wb Q vP ts vs {d with L2:=d.L2 ++ [s]} {h with a2:=a9,c2:=f} (a.setCell ⟨Q,7,C⟩ (K a9 (d.L2.length+1) f))∧((a.setCell ⟨Q,7,C⟩ (K a9 (d.L2.length+1) f)).cell? ⟨Q,4,C⟩=U (I Y d.ep)∧(a.setCell ⟨Q,7,C⟩ (K a9 (d.L2.length+1) f)).cell? ⟨Q,8,C⟩=U (K (U ⟨gk,ok,C⟩) 12 h.cr)∧(a.setCell ⟨Q,7,C⟩ (K a9 (d.L2.length+1) f)).cell? ⟨gk,ok+i,C⟩=U (E u))∧True∧(a.cell? ⟨Q,4,C⟩=U (I Y d.ep)∧a.cell? ⟨Q,8,C⟩=U (K (U ⟨gk,ok,C⟩) 12 h.cr)∧a.cell? ⟨gk,ok+i,C⟩=U (E u)):=by
 obtain ⟨a9,f,a,aa,t,ag,ae,af⟩:=e.x.add2 A s hs;have p:=e.upd ag ae af;obtain ⟨P,o',z,T,-,-⟩:=p.x.res (i:=i) (by show i<d.R.length;omega);have l:h.ar=U ⟨P,o',C⟩:=z;rw [j] at l;injection l with l;injection l with H L _;subst H L;obtain ⟨g2,o2,o,r,-,-⟩:=e.x.res (i:=i) A;rw [j] at o;injection o with o;injection o with M N _;subst M N;rw [hc] at r;injection r with r;have q:(a.setCell ⟨Q,7,C⟩ (K a9 (d.L2.length+1) f)).cell? ⟨gk,ok+i,C⟩=U (E (rs d.R i)):=T;rw [← r] at q;have ab:gk≠Q:=fun hh=>e.x.n (U gk) (by have:=JI d h;unfold KP at this;rw [j] at this;exact this) (by rw [hh]);have V:=(p.x.c 8 aP).1;have X:=(t 8 aP).1;refine ⟨a9,f,a,aa,t,p,⟨(p.x.c 4 aP).1,?_,q⟩,trivial,(t 4 aP).1,?_,?_⟩
 ·rw [V]
  show U (K h.ar d.R.length h.cr)=_;rw [j,v]
 ·rw [X]
  show U (K h.ar d.R.length h.cr)=_;rw [j,v]
 ·rw [DN _ _ _ _ (fun e=>ab (by injection e with e;exact e.symm))] at q
  exact q
theorem acP (x:Operand) (r:Nat) (d:r≤1000) (h:o.op=.binOp .add 3 (.const (I Y 2)) x 3) (c:ρ x=I Y (r:Nat)) (a:ρ (.const (I Y 2))=I Y 2):(execOp ρ o).run prog w=.ok (.value (I Y (2+(r:Int)))) w:=by
 have:IntKind.i64.wrap (2+(r:Int))=2+(r:Int):=bF;unfold execOp;rw [h];simp [go_sem,c,a,this]
theorem XH (g k:Nat) (hr:RD w g k) (hk:k≤700000) :
  Calls prog 37 #[aG (U ⟨g,0,C⟩)] w fun e w'=>TI e w.heap.size w'∧RD w' g (k+20000)∧w.grownBy w' (U g):=by
 have dh:=hr.lt;obtain ⟨We, bq⟩ := kC ((w.alloc (aH ni 30)).alloc (aH #[K C 0 0] 33));have b0:Below w.heap.size w We:=by rw [bq];exact kQ.alloc D _
 have A0:CF We w.heap.size oK:=by rw [bq];exact (CF.made w oK.toArray 30).block (kU _ _ _ D)
 have P0:CF We (w.heap.size+1) [kH]:=by
  rw [bq];have:=CF.made (w.alloc (aH ni 30)) #[kH] 33;rw [mJ] at this;exact this
 have z0:We.heap.size=w.heap.size+2:=by rw [bq];simp
 have dx:RD We g k:=hr.below b0;have HW:=hid bq;have HA:=hid (And.intro A0 P0);have N:=hid (And.intro (grownBy_below b0 (r:=U g)) (And.intro dh z0));clear bq A0 P0 hr b0;go_enter func37,ntmps37
 go_wp2_with fail
 rw [← HW.out];clear HW;refine (Kw g k dx A).mono ?_;rintro e1 w1 ⟨⟨dw,hw,rfl,s1,g1,dv⟩,ba,bm⟩;clear dx;have C1:CF (w1.alloc (aH kX.toArray 75)) w1.heap.size kX:=CF.made w1 kX.toArray _;simp only [kX] at C1;go_upto_region 2 with (refine jY rfl 75 (F 4) (F 15) rfl w1.heap.size kX _ rfl rfl C1 rfl Tryz.sizeWo (mW s1) ?_;intro w2 ch br)
 have dt:=br.size;simp at dt;have ea:=bm.size;have k2:∀ q,q<w1.heap.size→w2.heap[q]?=w1.heap[q]?:=fun q u=>(br.block q aQ (fun e=>O)).trans (kU _ _ _ u);have dp:w2.rangeAt w1.heap.size 2 (bvs dw.bd hw.bh):=ch.range [hw.vP,E dw.key] (bvs dw.bd hw.bh) [hw.vW,hw.vF,E dw.fg];have C2:CF (w2.alloc (aH ni 30)) w2.heap.size oK:=CF.made w2 oK.toArray _;go_upto_region 3 with (first | (refine wpList_load_mid rfl 30 (F 16) rfl w1.heap.size 2 rfl (bvs dw.bd hw.bh) _ dp underlying30 rfl Tryz.sizeBo ?_) | (refine jY rfl 30 (F 5) (F 17) rfl w2.heap.size oK _ rfl rfl C2 rfl Tryz.sizeBo (nC _ _) ?_;intro w3 dc bs))
 have du:=bs.size;simp at du;have k3:∀ q,q<w2.heap.size→w3.heap[q]?=w2.heap[q]?:=fun q u=>(bs.block q aQ (fun e=>O)).trans (kU _ _ _ u);have b3:∀ q,q<w1.heap.size→w3.heap[q]?=w1.heap[q]?:=fun q u=>(k3 q A).trans (k2 q u);obtain ⟨H,L,ds⟩:=s1.pl.row.slc;have e3:oC We g (k+6000) w1.heap.size w2.heap.size hw.vP dw.ts hw.vs dw.bd hw.bh w3:=by
  have al:=ba.lt;refine ⟨⟨ba.keep (fun q u=>b3 q A),⟨bs.os.trans (br.os.trans bm.os),bs.tape.trans (br.tape.trans bm.tape),bs.output.trans (br.output.trans bm.output),A,fun q u eb=>(b3 q A).trans (bm.block q u eb)⟩,dc,s1.bo.blk (fun r hr q u=>b3 q (s1.bo.lo r hr q u).2),g1.fb,g1.sb.small,⟨A,A,A⟩,fun r hr e=>by have:=(s1.bo.lo r hr _ e).2;omega⟩,s1.pl.kp (fun q u=>b3 q (s1.pl.lt u).2),((ch.block (k3 _ A)) 0 aU).1,⟨A,A,A,fun P=>by have:=(s1.bo.lo _ P _ rfl).2;omega⟩,fun q u=>⟨fun P=>?_,by have:=(s1.pl.lt u).2;omega⟩⟩;have h5:=dv q P;rcases u with u | ⟨j,hj,u⟩
  ·exact h5.1 u
  ·exact h5.2 j hj u
 obtain ⟨Wb, c7⟩ := kC w1.heap.size;obtain ⟨Q, hQ⟩ := kC w2.heap.size;rw [← c7,← hQ] at e3 ⊢;have an:=hid (And.intro g1.ft g1.tz);have b5:=hid g1.sb;obtain ⟨ts,key,bd,Ws,Fl,fg⟩:=dw;obtain ⟨vP,vs,h,vW,us,vF⟩:=hw;dsimp only at e3 an b5 ds;subst ds;have e:=e3;obtain ⟨d, hd⟩ := kC bd;rw [← hd] at e b5;have b4:Hid (d.L1.length+d.L2.length+d.R.length+d.J.length+d.S.length+d.O.length≤3000):=b5;clear e3 hd c7 hQ C1 ch br dt ea k2 dp C2 dc bs du k3 b3 s1 g1 dv ba bm b5 z0 dh;go_wp2_with fail
 refine (pick_any g 6 (k+6000) _ e.x.rd A A A).mono ?_;rintro e5 w5 ⟨⟨r5,ec,rfl⟩,dy,g5⟩;have x:=e.pick dy g5;clear e dy g5;rcases (show r5=0∨r5=1∨r5=2∨r5=3∨r5=4∨r5=5 by omega) with rfl | rfl | rfl | rfl | rfl | rfl
 ·skip
  go_upto_region 5 with fail
  refine wp_region_held (S:=fun w'=>w'.cell? ⟨Q,0,C⟩=U (I Y d.wk)∧w'.cell? ⟨Q,2,C⟩=U (I Y d.now)) Z ?_;change wpAnyH _ _ _ _ _ _ _ _ (World.drew _);obtain ⟨v0, M⟩ := kC w5.drew;have l:=x.below (show Below w5.heap.size w5 v0 by rw [M];exact mD.drew);rw [← M];clear M x;refine jZ (i:=0) (d:=U 22) (v:=aG (U ⟨Q,0,C⟩)) (l':=bt 11 1) rfl (fun _ _=>Z) ⟨(l.x.c 0 aP).1,(l.x.c 2 aP).1⟩ ?_;refine jZ (i:=1) (d:=U 23) (v:=I Y d.wk) (l':=bt 11 3) rfl (fun _ P=>oL (F 22) Z Z P.1) ⟨(l.x.c 0 aP).1,(l.x.c 2 aP).1⟩ ?_;refine jZ (i:=2) (d:=U 24) (v:=aG (U ⟨Q,2,C⟩)) (l':=bt 11 7) rfl (fun _ _=>Z) ⟨(l.x.c 0 aP).1,(l.x.c 2 aP).1⟩ ?_;refine jZ (i:=3) (d:=U 25) (v:=I Y d.now) (l':=bt 11 15) rfl (fun _ P=>oL (F 24) Z Z P.2) ⟨(l.x.c 0 aP).1,(l.x.c 2 aP).1⟩ ?_;refine jZ (i:=4) (d:=U 26) (v:=aG (U ⟨g,0,C⟩)) (l':=bt 11 31) rfl (fun _ _=>Z) ⟨(l.x.c 0 aP).1,(l.x.c 2 aP).1⟩ ?_;refine kF Z (kZ (i:=5) (d:=U 27) (f:=17) (args:=#[aG (U ⟨g,0,C⟩),I Y ((2:Nat):Int)]) (l':=bt 11 63) (R:=uI v0 g (k+6000+1) (2)) rfl Z Z Z (lT _ _ _ rfl Z Z rfl mZ) (qG (2) l.x.rd A A A) ?_);rintro u1 v1 ⟨⟨r5,ec,rfl⟩,ba,g1⟩;have x1:=l.pick ba g1;refine ⟨⟨(x1.x.c 0 aP).1,(x1.x.c 2 aP).1⟩,?_⟩;refine jZ (i:=6) (d:=U 28) (v:=I Y ((300 - r5:Nat):Int)) (l':=bt 11 127) rfl (fun _ _=>abZ (F 27) r5 A Z Z Z) ⟨(x1.x.c 0 aP).1,(x1.x.c 2 aP).1⟩ ?_;refine kF Z (kZ (i:=7) (d:=U 29) (f:=54) (args:=#[I Y ((300 - r5:Nat):Int)]) (l':=bt 11 255) (R:=REp v1 (300 - r5)) rfl Z Z Z (lW _ _ rfl Z rfl UY) (adh A) ?_);rintro u2 v2 ⟨⟨a9,c9,rfl,bl⟩,b2⟩;have x2:=x1.below b2;have a7:Q<v1.heap.size∧Wb<v1.heap.size∧We.heap.size≤v1.heap.size:=⟨x1.x.p.2.2,x1.wb.2.1,by have:=x1.x.p;omega⟩
  have af:∀ q,PB (K H ts.length L) ts vs q→q<v1.heap.size:=fun q u=>(x1.pl.lt u).2;refine ⟨⟨(x2.x.c 0 aP).1,(x2.x.c 2 aP).1⟩,?_⟩;refine jZ (i:=8) (d:=U 30) (v:=aI #[K a9 (300 - r5) c9,K C 0 0]) (l':=bt 11 511) rfl (fun _ _=>VY (F 29) Z Z) ⟨(x2.x.c 0 aP).1,(x2.x.c 2 aP).1⟩ ?_;refine jZ (i:=9) (d:=U 31) (v:=aI (bvs (yZ d.wk d.now (300 - r5)) (Jh a9 c9)).toArray) (l':=bt 11 1023) rfl (fun _ _=>by rw [QJ];exact V8 (F 23) (F 25) (F 30) Z Z Z Z) ⟨(x2.x.c 0 aP).1,(x2.x.c 2 aP).1⟩ ?_;refine kF Z (lI (i:=10) (w':=v2.setCells Q 0 (bvs (yZ d.wk d.now (300 - r5)) (Jh a9 c9))) (l':=bt 11 2047) rfl Z Z Z (lM 30 (bvs d h) (bvs (yZ d.wk d.now (300 - r5)) (Jh a9 c9)) (F 5) (F 31) Z Z Z x2.x.c rfl Tryz.sizeBo (nC _ _)) ⟨((x2.D8 (z:=v1.heap.size) a7 af (SE d.wk d.now bl) (Fv) (Em A) (gsc) (x2.x.c.stored rfl)).x.c 0 aP).1,((x2.D8 (z:=v1.heap.size) a7 af (SE d.wk d.now bl) (Fv) (Em A) (gsc) (x2.x.c.stored rfl)).x.c 2 aP).1⟩ ?_);have W:=(x2.D8 (z:=v1.heap.size) a7 af (SE d.wk d.now bl) (Fv) (Em A) (gsc) (x2.x.c.stored rfl))
  refine wpAnyH_done Z ?_ _;obtain ⟨vz, T⟩ := kC (v2.setCells Q 0 (bvs (yZ d.wk d.now (300 - r5)) (Jh a9 c9)));rw [← T] at W ⊢;have y:=W;clear W T l ba g1 x1 b2 x2 bl a7 af;go_simp;obtain ⟨d1, df⟩ := kC (yZ d.wk d.now (300 - r5));obtain ⟨h1, di⟩ := kC (Jh a9 c9);rw [← df,← di] at y;clear df di;go_wp2_with fail
  refine (pick_any g 2 (k+6000+1+1) _ y.x.rd A A A).mono ?_;rintro e6 w6 ⟨⟨X,ca,rfl⟩,aw,g6⟩;have y6:=y.pick aw g6;clear y aw g6;go_upto_if 34 with fail
  go_cut [32] (fun _ wx=>∃ (d':BD) (h':BH),oC We g (k+6000+1+1+1) Wb Q (K H ts.length L) ts vs d' h' wx)
  case first =>
   by_cases h0:X=0
   ·subst h0
    obtain ⟨pb,po,hT⟩:=y6.pl.tasks' an.out.1 (by have:=an.out.2;unfold maxLen;omega);have ef:=y6.wc;go_wp2_with (refine kY rfl 30 (F 5) rfl Q (bvs d1 h1) rfl y6.x.c underlying30 rfl Tryz.sizeBo ?_)
    refine (Gu d1 h1 H pb po ts.length L ts _ (y6.x.bo.m y6.x.f) hT y6.x.y).mono ?_;rintro e9 w9 ⟨⟨d2,⟨h2,rfl,hO⟩,hR⟩,da⟩;have y9:=y6.below da;have HF:=hid (hR.fits y6.x.f);have HS:=hid (hR.small y6.x.y);have HZ:=hid (And.intro (show Q<w6.heap.size∧Wb<w6.heap.size∧We.heap.size≤w6.heap.size from ⟨y6.x.p.2.2,y6.wb.2.1,by have:=y6.x.p;omega⟩) (show ∀ q,PB (K H ts.length L) ts vs q→q<w6.heap.size from fun q u=>(y6.pl.lt u).2));have ab:=y9.x.c;clear y6 hT da hR ef;go_wp2_with (refine jY rfl 30 (F 5) (F 38) rfl Q (bvs d1 h1) (bvs d2 h2) rfl rfl ab rfl Tryz.sizeBo (nC _ _) ?_;intro e4 db dg)
    have HY:=hid (y9.D8 (z:=w6.heap.size) HZ.out.1 HZ.out.2 hO HF.out HS.out dg db);clear y9 hO HF HS HZ ab db dg;go_meet
    case rel=>exact ⟨d2,h2,HY.out⟩
   ·have eg:¬ (X:Int)=0:=by omega
    have HY:=hid y6;clear y6;go_wp2;go_meet
    case rel=>exact ⟨d1,h1,HY.out⟩
  case rest =>
   obtain ⟨d',h',y7⟩:=hcut;clear y6;obtain ⟨w7, bg⟩ := kC wc;rw [← bg] at y7 ⊢;clear bg;go_upto_region 8 with fail
   have HP:=hid y7.x.p;have A9:CF w7 w.heap.size oK:=HA.out.1.block (y7.x.gr.block _ bZ (fun e=>aY));have B9:CF w7 (w.heap.size+1) [kH]:=HA.out.2.block (y7.x.gr.block _ bZ (fun e=>aY));refine wp_region_held (S:=fun w'=>CF w' Q (bvs d' h')∧w'.cell? ⟨Wb,0,C⟩=U (K H ts.length L)) Z ?_;change wpAnyH _ _ _ _ _ _ _ _ (World.drew _);obtain ⟨v0, M⟩ := kC w7.drew;have ag:Below w7.heap.size w7 v0:=fJ;have l:=y7.below ag;have A0:CF v0 w.heap.size oK:=iL;have B0:CF v0 (w.heap.size+1) [kH]:=iK;rw [← M];have ax:=N.out;have ai:=l.x.p;have ak:=l.wb;have g1:v0.grownBy (v0.setCells w.heap.size 0 (bvs d' h')) (U w.heap.size):=gsc;have g2:(v0.setCells w.heap.size 0 (bvs d' h')).grownBy ((v0.setCells w.heap.size 0 (bvs d' h')).setCells (w.heap.size+1) 0 [K H ts.length L]) (U (w.heap.size+1)):=gsc;have ay:=g1.size;have c1:CF (v0.setCells w.heap.size 0 (bvs d' h')) w.heap.size (bvs d' h'):=A0.stored rfl;have B1:=B0.block (g1.block _ A (fun e=>O));have S0:=And.intro l.x.c l.wc;have S1:CF (v0.setCells w.heap.size 0 (bvs d' h')) Q (bvs d' h')∧(v0.setCells w.heap.size 0 (bvs d' h')).cell? ⟨Wb,0,C⟩=U (K H ts.length L):=⟨S0.1.block (g1.block _ ai.2.2 (fun e=>O)),(mV (w:=v0) (a:=⟨Wb,0,C⟩) (g1.block Wb ak.2.1 (fun e=>O))).trans S0.2⟩
   have S2:CF ((v0.setCells w.heap.size 0 (bvs d' h')).setCells (w.heap.size+1) 0 [K H ts.length L]) Q (bvs d' h')∧((v0.setCells w.heap.size 0 (bvs d' h')).setCells (w.heap.size+1) 0 [K H ts.length L]).cell? ⟨Wb,0,C⟩=U (K H ts.length L):=⟨S1.1.block (g2.block _ A (fun e=>O)),(mV (w:=v0.setCells w.heap.size 0 (bvs d' h')) (a:=⟨Wb,0,C⟩) (g2.block Wb A (fun e=>O))).trans S1.2⟩
   have ae:=l.fin N.out.1 N.out.2.2 N.out.2.1 g1 g2 an.out.1 an.out.2;have ab:=c1.block (g2.block _ A (fun e=>O));have af:=((B1.stored (vs:=[K H ts.length L]) rfl) 0 D).1;clear M y7;refine jZ (i:=0) (d:=U 39) (v:=aI (bvs d' h').toArray) (l':=bt 5 1) rfl (fun _ P=>Eh (F 5) Z Z P.1 rfl) S0 ?_;refine jZ (i:=1) (d:=U 40) (v:=aG (U ⟨Wb,0,C⟩)) (l':=bt 5 3) rfl (fun _ _=>Z) S0 ?_;refine jZ (i:=2) (d:=U 41) (v:=aI #[K H ts.length L]) (l':=bt 5 7) rfl (fun _ P=>pK (F 40) Z Z P.2) S0 ?_;generalize u:Act.put _ _ _=aa;refine qc (i:=3) (w':=v0.setCells w.heap.size 0 (bvs d' h')) (l':=bt 5 15) Z rfl Z aV Z (lM 30 oK (bvs d' h') (F 2) (F 39) Z aV aV A0 rfl Tryz.sizeBo (nC _ _)) S1 ?_;refine qc (i:=4) (w':=(v0.setCells w.heap.size 0 (bvs d' h')).setCells (w.heap.size+1) 0 [K H ts.length L]) (l':=bt 5 31) Z rfl Z aV Z (lM 33 [kH] [K H ts.length L] (F 3) (F 41) Z aV aV B1 rfl Gg aZ) S2 ?_;subst u;refine wpAnyH_done Z ?_ _;obtain ⟨vz, T⟩ := kC ((v0.setCells w.heap.size 0 (bvs d' h')).setCells (w.heap.size+1) 0 [K H ts.length L]);rw [← T] at ae ab af ⊢;clear T S0 S1 S2 g1 g2 ay c1 A0 B0 B1 A9 B9 ax ai ak l ag;go_simp;go_wp2;exact bodyPost_ret (qK 2 3 results37 rfl rfl ab rfl af) rfl ⟨ae.1,ae.2.1.mono A,ae.2.2⟩
 ·skip
  have HX:=hid x;clear x;have ck:d.S.length≤3000:=by have:=b4.out;omega
  go_upto_region 10 with fail
  go_wp2;go_loopw [6] (fun i wr=>∃ (i':Nat) (S:List (Bool × Int)),i'≤d.S.length∧i=I Y i'∧S.length=d.S.length∧oC We g (k+6000+1+i') Wb Q (K H ts.length L) ts vs {d with S:=S} h wr) (fun i _=>d.S.length - (intOf i).toNat)
  case atStart=>exact ⟨0,d.S,lG _,rfl,rfl,HX.out⟩
  case round =>
   clear HX;obtain ⟨i,S,bz,rfl,b8,y⟩:=hrel;have cn:wr.cell? ⟨Q,10,C⟩=U (K h.az S.length h.cs):=(y.x.c 10 aP).1;rw [b8] at cn;have ct:=hid b8;by_cases al:i<d.S.length
   ·have cl:(i:Int)<(d.S.length:Int):=by omega
    have dj:i<S.length:=A;clear b8;go_upto_region 13 with fail
    clear cn;obtain ⟨gj,oj,ej,-⟩:=y.seat (i:=i) dj;have US:∀ {V:World} {j:Nat},oC We g (j) Wb Q (K H ts.length L) ts vs {d with S:=S} h V→V.cell? ⟨gj,oj+i*2+1,C⟩=U (I Y (t2 S i).2)∧V.frozen? ⟨gj,oj+i*2+1,C⟩=aK∧∀ z:Int,I64 z→oC We g (j) Wb Q (K H ts.length L) ts vs {d with S:=S.set i ((t2 S i).1,z)} h (V.setCell ⟨gj,oj+i*2+1,C⟩ (I Y z)):=fun hx=>by
     obtain ⟨g',o',e',h1,h2,h3⟩:=hx.seat (i:=i) dj;rw [ej] at e';injection e' with e';injection e' with e1 e2 _;subst e1 e2;exact ⟨h1,h2,h3⟩
    refine wp_region_held (S:=fun w'=>CF w' Q (bvs {d with S:=S} h)) Z ?_;change wpAnyH _ _ _ _ _ _ _ _ (World.drew _);obtain ⟨v0, M⟩ := kC wr.drew;have l:=y.below (show Below wr.heap.size wr v0 by rw [M];exact mD.drew);rw [← M];clear M y;refine jZ (i:=0) (d:=U 51) (v:=aG (U ⟨Q,10,C⟩)) (l':=bt 9 1) rfl (fun _ _=>Z) l.x.c ?_;refine jZ (i:=1) (d:=U 52) (v:=K (U ⟨gj,oj,C⟩) d.S.length h.cs) (l':=bt 9 3) rfl (fun _ P=>IG (F 51) Z Z (by rw [← ej,← ct.out];exact (P 10 aP).1)) l.x.c ?_;refine jZ (i:=2) (d:=U 53) (v:=I Y (i:Nat)) (l':=bt 9 7) rfl (fun _ _=>Z) l.x.c ?_;refine jZ (i:=3) (d:=U 54) (v:=aG (U ⟨g,0,C⟩)) (l':=bt 9 15) rfl (fun _ _=>Z) l.x.c ?_;refine kF Z (kZ (i:=4) (d:=U 55) (f:=17) (args:=#[aG (U ⟨g,0,C⟩),I Y ((3:Nat):Int)]) (l':=bt 9 31) (R:=uI v0 g (k+6000+1+i) (3)) rfl Z Z Z (lT _ _ _ rfl Z Z rfl mZ) (qG (3) l.x.rd A A A) ?_);rintro u1 v1 ⟨⟨r4,eu,rfl⟩,ba,g1⟩;have x1:=l.pick ba g1;refine ⟨x1.x.c,?_⟩;refine jZ (i:=5) (d:=U 56) (v:=I Y (2+(r4:Int))) (l':=bt 9 63) rfl (fun _ _=>acP (F 55) r4 A Z Z Z) x1.x.c ?_;refine jZ (i:=6) (d:=U 57) (v:=aG (U ⟨gj,oj+i*2,C⟩)) (l':=bt 9 127) rfl (fun _ _=>Hz (F 52) (F 53) gj oj d.S.length h.cs i Z Z Z al) x1.x.c ?_;refine jZ (i:=7) (d:=U 58) (v:=aG (U ⟨gj,oj+i*2+1,C⟩)) (l':=bt 9 255) rfl (fun _ _=>Z) x1.x.c ?_;refine kF Z (lI (i:=8) (w':=v1.setCell ⟨gj,oj+i*2+1,C⟩ (I Y (2+(r4:Int)))) (l':=bt 9 511) rfl Z Z Z (Hw (F 58) (F 56) _ Z Z Z (US x1).1 (US x1).2.1) (by have:=((US x1).2.2 (2+(r4:Int)) ⟨A,A⟩).x.c;simpa [bvs] using this) ?_);have W:=(US x1).2.2 (2+(r4:Int)) ⟨A,A⟩;refine wpAnyH_done Z ?_ _;obtain ⟨vz, T⟩ := kC (v1.setCell ⟨gj,oj+i*2+1,C⟩ (I Y (2+(r4:Int))));rw [← T] at W ⊢;have HZ:=hid W;clear W T l ba g1 x1 US ej;go_simp;go_wp2;go_roundw
    case rel=>exact ⟨i+1,_,A,aW,by rw [nV];exact ct.out,HZ.out.more A⟩
    case measure=>simp [intOf];omega
   ·obtain rfl:i=d.S.length:=by omega
    clear al bz b8;go_upto_region 14 with fail
    clear cn;have HP:=hid y.x.p;have A9:CF wr w.heap.size oK:=HA.out.1.block (y.x.gr.block _ bZ (fun e=>aY));have B9:CF wr (w.heap.size+1) [kH]:=HA.out.2.block (y.x.gr.block _ bZ (fun e=>aY));refine wp_region_held (S:=fun w'=>CF w' Q (bvs {d with S:=S} h)∧w'.cell? ⟨Wb,0,C⟩=U (K H ts.length L)) Z ?_;change wpAnyH _ _ _ _ _ _ _ _ (World.drew _);obtain ⟨v0, M⟩ := kC wr.drew;have ag:Below wr.heap.size wr v0:=fJ;have l:=y.below ag;have A0:CF v0 w.heap.size oK:=iL;have B0:CF v0 (w.heap.size+1) [kH]:=iK;rw [← M];have ax:=N.out;have ai:=l.x.p;have ak:=l.wb;have g1:v0.grownBy (v0.setCells w.heap.size 0 (bvs {d with S:=S} h)) (U w.heap.size):=gsc;have g2:(v0.setCells w.heap.size 0 (bvs {d with S:=S} h)).grownBy ((v0.setCells w.heap.size 0 (bvs {d with S:=S} h)).setCells (w.heap.size+1) 0 [K H ts.length L]) (U (w.heap.size+1)):=gsc;have ay:=g1.size;have c1:CF (v0.setCells w.heap.size 0 (bvs {d with S:=S} h)) w.heap.size (bvs {d with S:=S} h):=A0.stored rfl;have B1:=B0.block (g1.block _ A (fun e=>O));have S0:=And.intro l.x.c l.wc;have S1:CF (v0.setCells w.heap.size 0 (bvs {d with S:=S} h)) Q (bvs {d with S:=S} h)∧(v0.setCells w.heap.size 0 (bvs {d with S:=S} h)).cell? ⟨Wb,0,C⟩=U (K H ts.length L):=⟨S0.1.block (g1.block _ ai.2.2 (fun e=>O)),(mV (w:=v0) (a:=⟨Wb,0,C⟩) (g1.block Wb ak.2.1 (fun e=>O))).trans S0.2⟩
    have S2:CF ((v0.setCells w.heap.size 0 (bvs {d with S:=S} h)).setCells (w.heap.size+1) 0 [K H ts.length L]) Q (bvs {d with S:=S} h)∧((v0.setCells w.heap.size 0 (bvs {d with S:=S} h)).setCells (w.heap.size+1) 0 [K H ts.length L]).cell? ⟨Wb,0,C⟩=U (K H ts.length L):=⟨S1.1.block (g2.block _ A (fun e=>O)),(mV (w:=v0.setCells w.heap.size 0 (bvs {d with S:=S} h)) (a:=⟨Wb,0,C⟩) (g2.block Wb A (fun e=>O))).trans S1.2⟩
    have ae:=l.fin N.out.1 N.out.2.2 N.out.2.1 g1 g2 an.out.1 an.out.2;have ab:=c1.block (g2.block _ A (fun e=>O));have af:=((B1.stored (vs:=[K H ts.length L]) rfl) 0 D).1;clear M y;refine jZ (i:=0) (d:=U 59) (v:=aI (bvs {d with S:=S} h).toArray) (l':=bt 5 1) rfl (fun _ P=>Eh (F 5) Z Z P.1 rfl) S0 ?_;refine jZ (i:=1) (d:=U 60) (v:=aG (U ⟨Wb,0,C⟩)) (l':=bt 5 3) rfl (fun _ _=>Z) S0 ?_;refine jZ (i:=2) (d:=U 61) (v:=aI #[K H ts.length L]) (l':=bt 5 7) rfl (fun _ P=>pK (F 60) Z Z P.2) S0 ?_;generalize u:Act.put _ _ _=aa;refine qc (i:=3) (w':=v0.setCells w.heap.size 0 (bvs {d with S:=S} h)) (l':=bt 5 15) Z rfl Z aV Z (lM 30 oK (bvs {d with S:=S} h) (F 2) (F 59) Z aV aV A0 rfl Tryz.sizeBo (nC _ _)) S1 ?_;refine qc (i:=4) (w':=(v0.setCells w.heap.size 0 (bvs {d with S:=S} h)).setCells (w.heap.size+1) 0 [K H ts.length L]) (l':=bt 5 31) Z rfl Z aV Z (lM 33 [kH] [K H ts.length L] (F 3) (F 61) Z aV aV B1 rfl Gg aZ) S2 ?_;subst u;refine wpAnyH_done Z ?_ _;obtain ⟨vz, T⟩ := kC ((v0.setCells w.heap.size 0 (bvs ⟨d.wk,d.up,d.now,d.sn,d.ep,d.gv,d.L1,d.L2,d.R,d.J,S,d.O⟩ h)).setCells (w.heap.size+1) 0 [K H ts.length L]);rw [← T] at ae ab af ⊢;clear T S0 S1 S2 g1 g2 ay c1 A0 B0 B1 A9 B9 ax ai ak l ag;go_simp;go_wp2;exact bodyPost_ret (qK 2 3 results37 rfl rfl ab rfl af) rfl ⟨ae.1,ae.2.1.mono A,ae.2.2⟩
 ·skip
  have HX:=hid x;clear x;have ck:d.R.length≤3000∧d.O.length≤3000:=by have:=b4.out;omega
  go_upto_region 16 with fail
  go_wp2;go_loopw [7] (fun i wr=>∃ (i':Nat) (Ow:List Tr) (ao:Option Addr) (co:Nat),i'≤d.R.length∧i=I Y i'∧Ow.length≤3000∧oC We g (k+6000+1+i') Wb Q (K H ts.length L) ts vs {d with O:=Ow} {h with ao:=ao,co:=co} wr) (fun i _=>d.R.length - (intOf i).toNat)
  case atStart=>exact ⟨0,d.O,h.ao,h.co,lG _,rfl,ck.2,HX.out⟩
  case round =>
   clear HX;obtain ⟨i,Ow,ao,co,bz,rfl,dz,y⟩:=hrel;have y8:wr.cell? ⟨Q,8,C⟩=U (K h.ar d.R.length h.cr):=(y.x.c 8 aP).1;by_cases al:i<d.R.length
   ·have cl:(i:Int)<(d.R.length:Int):=by omega
    go_wp2_with fail
    clear y8;refine (pick_any g 2 (k+6000+1+i) _ y.x.rd A A A).mono ?_;rintro e6 w6 ⟨⟨X,ca,rfl⟩,aw,g6⟩;have cx:=hid (y.pick aw g6);clear y aw g6;go_wp2;go_loopw [9] (fun q wr=>∃ (kk:Nat) (O':List Tr) (ao:Option Addr) (co:Nat),q=I Y kk∧1≤kk∧kk≤O'.length+1∧O'.length≤3000∧oC We g (k+6000+1+i+1) Wb Q (K H ts.length L) ts vs {d with O:=O'} {h with ao:=ao,co:=co} wr) (fun q _=>5000 - (intOf q).toNat)
    case atStart=>exact ⟨1,Ow,ao,co,rfl,A,A,dz,cx.out⟩
    case round =>
     clear cx;obtain ⟨kk,O',ao,co,rfl,en,eo,c4,y⟩:=hrel;obtain ⟨gj,oj,ej,de,-⟩:=y.x.res (i:=i) al;obtain ⟨-,-,-,-,-,-,-,-,y8,-,-,e7⟩:=l9 y.x.c;have cz:h.ar=U ⟨gj,oj,C⟩:=ej;rw [cz] at y8;obtain ⟨s, hs⟩ := kC (rs d.R i);have eh:wr.cell? ⟨gj,oj+i,C⟩=U (E s):=by rw [hs];exact de
     clear hs de ej cz;by_cases W:s.size=0
     ·have ee:=oP W
      have HY:=hid y;clear y W;go_wp2;go_roundw
      case rel=>exact ⟨i+1,O',ao,co,A,aW,c4,HY.out.more A⟩
      case measure=>simp [intOf];omega
     ·have ee:=oQ W
      clear W;by_cases et:(O'.length:Int)<2000 - (X:Int)
      ·obtain ⟨a9,c9,w9,ah,ab,a7,dk,dm⟩:=y.x.Qe (by have:=b4.out;show d.L1.length+d.L2.length+d.R.length+d.J.length+d.S.length+O'.length<1048576;omega) (1,1000+(kk:Int),(i:Int)) ⟨⟨by show (-9223372036854775808:Int)≤1;omega,by show (1:Int)≤9223372036854775807;omega⟩,⟨by show (-9223372036854775808:Int)≤1000+kk;omega,by show 1000+(kk:Int)≤9223372036854775807;omega⟩,⟨by show (-9223372036854775808:Int)≤i;omega,by show (i:Int)≤9223372036854775807;omega⟩⟩
       have HZ:=hid (y.upd a7 dk dm);dsimp only at ah HZ;have ez:w9.cell? ⟨Q,11,C⟩=U (K ao O'.length co):=(ab 11 aP).1;have e0:w9.frozen? ⟨Q,11,C⟩=aK:=(ab 11 aP).2;have er:(kk:Int)≤3001:=A;clear y ab a7 dk dm;go_wp2_with (at_builtin;refine MP rfl (mX (F 90) (F 95) 28 28 28 rfl rfl rfl rfl ah) ?_)
       go_roundw
       case rel=>exact ⟨kk+1,_,a9,c9,aW,A,by rw [lD,mQ];omega,by rw [lD,mQ];omega,HZ.out⟩
       case measure=>simp [intOf];omega
      ·have HY:=hid y
       clear y;go_wp2;go_roundw
       case rel=>exact ⟨i+1,O',ao,co,A,aW,c4,HY.out.more A⟩
       case measure=>simp [intOf];omega
   ·obtain rfl:i=d.R.length:=by omega
    clear al bz;go_upto_region 24 with fail
    clear y8;have HP:=hid y.x.p;have A9:CF wr w.heap.size oK:=HA.out.1.block (y.x.gr.block _ bZ (fun e=>aY));have B9:CF wr (w.heap.size+1) [kH]:=HA.out.2.block (y.x.gr.block _ bZ (fun e=>aY));refine wp_region_held (S:=fun w'=>CF w' Q (bvs {d with O:=Ow} {h with ao:=ao,co:=co})∧w'.cell? ⟨Wb,0,C⟩=U (K H ts.length L)) Z ?_;change wpAnyH _ _ _ _ _ _ _ _ (World.drew _);obtain ⟨v0, M⟩ := kC wr.drew;have ag:Below wr.heap.size wr v0:=fJ;have l:=y.below ag;have A0:CF v0 w.heap.size oK:=iL;have B0:CF v0 (w.heap.size+1) [kH]:=iK;rw [← M];have ax:=N.out;have ai:=l.x.p;have ak:=l.wb;have g1:v0.grownBy (v0.setCells w.heap.size 0 (bvs {d with O:=Ow} {h with ao:=ao,co:=co})) (U w.heap.size):=gsc;have g2:(v0.setCells w.heap.size 0 (bvs {d with O:=Ow} {h with ao:=ao,co:=co})).grownBy ((v0.setCells w.heap.size 0 (bvs {d with O:=Ow} {h with ao:=ao,co:=co})).setCells (w.heap.size+1) 0 [K H ts.length L]) (U (w.heap.size+1)):=gsc;have ay:=g1.size;have c1:CF (v0.setCells w.heap.size 0 (bvs {d with O:=Ow} {h with ao:=ao,co:=co})) w.heap.size (bvs {d with O:=Ow} {h with ao:=ao,co:=co}):=A0.stored rfl;have B1:=B0.block (g1.block _ A (fun e=>O));have S0:=And.intro l.x.c l.wc;have S1:CF (v0.setCells w.heap.size 0 (bvs {d with O:=Ow} {h with ao:=ao,co:=co})) Q (bvs {d with O:=Ow} {h with ao:=ao,co:=co})∧(v0.setCells w.heap.size 0 (bvs {d with O:=Ow} {h with ao:=ao,co:=co})).cell? ⟨Wb,0,C⟩=U (K H ts.length L):=⟨S0.1.block (g1.block _ ai.2.2 (fun e=>O)),(mV (w:=v0) (a:=⟨Wb,0,C⟩) (g1.block Wb ak.2.1 (fun e=>O))).trans S0.2⟩
    have S2:CF ((v0.setCells w.heap.size 0 (bvs {d with O:=Ow} {h with ao:=ao,co:=co})).setCells (w.heap.size+1) 0 [K H ts.length L]) Q (bvs {d with O:=Ow} {h with ao:=ao,co:=co})∧((v0.setCells w.heap.size 0 (bvs {d with O:=Ow} {h with ao:=ao,co:=co})).setCells (w.heap.size+1) 0 [K H ts.length L]).cell? ⟨Wb,0,C⟩=U (K H ts.length L):=⟨S1.1.block (g2.block _ A (fun e=>O)),(mV (w:=v0.setCells w.heap.size 0 (bvs {d with O:=Ow} {h with ao:=ao,co:=co})) (a:=⟨Wb,0,C⟩) (g2.block Wb A (fun e=>O))).trans S1.2⟩
    have ae:=l.fin N.out.1 N.out.2.2 N.out.2.1 g1 g2 an.out.1 an.out.2;have ab:=c1.block (g2.block _ A (fun e=>O));have af:=((B1.stored (vs:=[K H ts.length L]) rfl) 0 D).1;clear M y;refine jZ (i:=0) (d:=U 98) (v:=aI (bvs {d with O:=Ow} {h with ao:=ao,co:=co}).toArray) (l':=bt 5 1) rfl (fun _ P=>Eh (F 5) Z Z P.1 rfl) S0 ?_;refine jZ (i:=1) (d:=U 99) (v:=aG (U ⟨Wb,0,C⟩)) (l':=bt 5 3) rfl (fun _ _=>Z) S0 ?_;refine jZ (i:=2) (d:=U 100) (v:=aI #[K H ts.length L]) (l':=bt 5 7) rfl (fun _ P=>pK (F 99) Z Z P.2) S0 ?_;generalize u:Act.put _ _ _=aa;refine qc (i:=3) (w':=v0.setCells w.heap.size 0 (bvs {d with O:=Ow} {h with ao:=ao,co:=co})) (l':=bt 5 15) Z rfl Z aV Z (lM 30 oK (bvs {d with O:=Ow} {h with ao:=ao,co:=co}) (F 2) (F 98) Z aV aV A0 rfl Tryz.sizeBo (nC _ _)) S1 ?_;refine qc (i:=4) (w':=(v0.setCells w.heap.size 0 (bvs {d with O:=Ow} {h with ao:=ao,co:=co})).setCells (w.heap.size+1) 0 [K H ts.length L]) (l':=bt 5 31) Z rfl Z aV Z (lM 33 [kH] [K H ts.length L] (F 3) (F 100) Z aV aV B1 rfl Gg aZ) S2 ?_;subst u;refine wpAnyH_done Z ?_ _;obtain ⟨vz, T⟩ := kC ((v0.setCells w.heap.size 0 (bvs ⟨d.wk,d.up,d.now,d.sn,d.ep,d.gv,d.L1,d.L2,d.R,d.J,d.S,Ow⟩ ⟨h.a1,h.a2,h.ar,h.aj,h.az,ao,h.c1,h.c2,h.cr,h.cj,h.cs,co⟩)).setCells (w.heap.size+1) 0 [K H ts.length L]);rw [← T] at ae ab af ⊢;clear T S0 S1 S2 g1 g2 ay c1 A0 B0 B1 A9 B9 ax ai ak l ag;go_simp;go_wp2;exact bodyPost_ret (qK 2 3 results37 rfl rfl ab rfl af) rfl ⟨ae.1,ae.2.1.mono A,ae.2.2⟩
 ·skip
  have y1:w5.cell? ⟨Q,1,C⟩=U (.bool d.up):=(x.x.c 1 aP).1;have f1:w5.frozen? ⟨Q,1,C⟩=aK:=(x.x.c 1 aP).2;cases cc:d.up with
  | false =>
   rw [cc] at y1;go_upto_region 28 with fail
   clear y1 f1 cc;have HP:=hid x.x.p;have A9:CF w5 w.heap.size oK:=HA.out.1.block (x.x.gr.block _ bZ (fun e=>aY));have B9:CF w5 (w.heap.size+1) [kH]:=HA.out.2.block (x.x.gr.block _ bZ (fun e=>aY));refine wp_region_held (S:=fun w'=>CF w' Q (bvs d h)∧w'.cell? ⟨Wb,0,C⟩=U (K H ts.length L)) Z ?_;change wpAnyH _ _ _ _ _ _ _ _ (World.drew _);obtain ⟨v0, M⟩ := kC w5.drew;have ag:Below w5.heap.size w5 v0:=fJ;have l:=x.below ag;have A0:CF v0 w.heap.size oK:=iL;have B0:CF v0 (w.heap.size+1) [kH]:=iK;rw [← M];have ax:=N.out;have ai:=l.x.p;have ak:=l.wb;have g1:v0.grownBy (v0.setCells w.heap.size 0 (bvs d h)) (U w.heap.size):=gsc;have g2:(v0.setCells w.heap.size 0 (bvs d h)).grownBy ((v0.setCells w.heap.size 0 (bvs d h)).setCells (w.heap.size+1) 0 [K H ts.length L]) (U (w.heap.size+1)):=gsc;have ay:=g1.size;have c1:CF (v0.setCells w.heap.size 0 (bvs d h)) w.heap.size (bvs d h):=A0.stored rfl;have B1:=B0.block (g1.block _ A (fun e=>O));have S0:=And.intro l.x.c l.wc;have S1:CF (v0.setCells w.heap.size 0 (bvs d h)) Q (bvs d h)∧(v0.setCells w.heap.size 0 (bvs d h)).cell? ⟨Wb,0,C⟩=U (K H ts.length L):=⟨S0.1.block (g1.block _ ai.2.2 (fun e=>O)),(mV (w:=v0) (a:=⟨Wb,0,C⟩) (g1.block Wb ak.2.1 (fun e=>O))).trans S0.2⟩
   have S2:CF ((v0.setCells w.heap.size 0 (bvs d h)).setCells (w.heap.size+1) 0 [K H ts.length L]) Q (bvs d h)∧((v0.setCells w.heap.size 0 (bvs d h)).setCells (w.heap.size+1) 0 [K H ts.length L]).cell? ⟨Wb,0,C⟩=U (K H ts.length L):=⟨S1.1.block (g2.block _ A (fun e=>O)),(mV (w:=v0.setCells w.heap.size 0 (bvs d h)) (a:=⟨Wb,0,C⟩) (g2.block Wb A (fun e=>O))).trans S1.2⟩
   have ae:=l.fin N.out.1 N.out.2.2 N.out.2.1 g1 g2 an.out.1 an.out.2;have ab:=c1.block (g2.block _ A (fun e=>O));have af:=((B1.stored (vs:=[K H ts.length L]) rfl) 0 D).1;clear M x;refine jZ (i:=0) (d:=U 109) (v:=aI (bvs d h).toArray) (l':=bt 5 1) rfl (fun _ P=>Eh (F 5) Z Z P.1 rfl) S0 ?_;refine jZ (i:=1) (d:=U 110) (v:=aG (U ⟨Wb,0,C⟩)) (l':=bt 5 3) rfl (fun _ _=>Z) S0 ?_;refine jZ (i:=2) (d:=U 111) (v:=aI #[K H ts.length L]) (l':=bt 5 7) rfl (fun _ P=>pK (F 110) Z Z P.2) S0 ?_;generalize u:Act.put _ _ _=aa;refine qc (i:=3) (w':=v0.setCells w.heap.size 0 (bvs d h)) (l':=bt 5 15) Z rfl Z aV Z (lM 30 oK (bvs d h) (F 2) (F 109) Z aV aV A0 rfl Tryz.sizeBo (nC _ _)) S1 ?_;refine qc (i:=4) (w':=(v0.setCells w.heap.size 0 (bvs d h)).setCells (w.heap.size+1) 0 [K H ts.length L]) (l':=bt 5 31) Z rfl Z aV Z (lM 33 [kH] [K H ts.length L] (F 3) (F 111) Z aV aV B1 rfl Gg aZ) S2 ?_;subst u;refine wpAnyH_done Z ?_ _;obtain ⟨vz, T⟩ := kC ((v0.setCells w.heap.size 0 (bvs d h)).setCells (w.heap.size+1) 0 [K H ts.length L]);rw [← T] at ae ab af ⊢;clear T S0 S1 S2 g1 g2 ay c1 A0 B0 B1 A9 B9 ax ai ak l ag;go_simp;go_wp2;exact bodyPost_ret (qK 2 3 results37 rfl rfl ab rfl af) rfl ⟨ae.1,ae.2.1.mono A,ae.2.2⟩
  | true =>
   rw [cc] at y1;go_wp2_with fail
   clear y1 f1 cc;refine (pick_any g 2 (k+6000+1) _ x.x.rd A A A).mono ?_;rintro e6 w6 ⟨⟨X,ca,rfl⟩,aw,g6⟩;have x6:=x.pick aw g6;clear x aw g6;have y5:w6.cell? ⟨Q,5,C⟩=U (I Y d.gv):=(x6.x.c 5 aP).1;have f5:w6.frozen? ⟨Q,5,C⟩=aK:=(x6.x.c 5 aP).2;have bu:=hid x6;clear x6;go_upto_region 28 with fail
   have x7:=bu.out.sc5 (1000000 - (X:Int));clear bu y5 f5;obtain ⟨w7, bg⟩ := kC (w6.setCell ⟨Q,5,C⟩ (I Y (1000000 - (X:Int))));rw [← bg] at x7 ⊢;clear bg;have HP:=hid x7.x.p;have A9:CF w7 w.heap.size oK:=HA.out.1.block (x7.x.gr.block _ bZ (fun e=>aY));have B9:CF w7 (w.heap.size+1) [kH]:=HA.out.2.block (x7.x.gr.block _ bZ (fun e=>aY));refine wp_region_held (S:=fun w'=>CF w' Q (bvs {d with gv:=1000000 - (X:Int)} h)∧w'.cell? ⟨Wb,0,C⟩=U (K H ts.length L)) Z ?_;change wpAnyH _ _ _ _ _ _ _ _ (World.drew _);obtain ⟨v0, M⟩ := kC w7.drew;have ag:Below w7.heap.size w7 v0:=fJ;have l:=x7.below ag;have A0:CF v0 w.heap.size oK:=iL;have B0:CF v0 (w.heap.size+1) [kH]:=iK;rw [← M];have ax:=N.out;have ai:=l.x.p;have ak:=l.wb;have g1:v0.grownBy (v0.setCells w.heap.size 0 (bvs {d with gv:=1000000 - (X:Int)} h)) (U w.heap.size):=gsc;have g2:(v0.setCells w.heap.size 0 (bvs {d with gv:=1000000 - (X:Int)} h)).grownBy ((v0.setCells w.heap.size 0 (bvs {d with gv:=1000000 - (X:Int)} h)).setCells (w.heap.size+1) 0 [K H ts.length L]) (U (w.heap.size+1)):=gsc;have ay:=g1.size;have c1:CF (v0.setCells w.heap.size 0 (bvs {d with gv:=1000000 - (X:Int)} h)) w.heap.size (bvs {d with gv:=1000000 - (X:Int)} h):=A0.stored rfl;have B1:=B0.block (g1.block _ A (fun e=>O));have S0:=And.intro l.x.c l.wc;have S1:CF (v0.setCells w.heap.size 0 (bvs {d with gv:=1000000 - (X:Int)} h)) Q (bvs {d with gv:=1000000 - (X:Int)} h)∧(v0.setCells w.heap.size 0 (bvs {d with gv:=1000000 - (X:Int)} h)).cell? ⟨Wb,0,C⟩=U (K H ts.length L):=⟨S0.1.block (g1.block _ ai.2.2 (fun e=>O)),(mV (w:=v0) (a:=⟨Wb,0,C⟩) (g1.block Wb ak.2.1 (fun e=>O))).trans S0.2⟩
   have S2:CF ((v0.setCells w.heap.size 0 (bvs {d with gv:=1000000 - (X:Int)} h)).setCells (w.heap.size+1) 0 [K H ts.length L]) Q (bvs {d with gv:=1000000 - (X:Int)} h)∧((v0.setCells w.heap.size 0 (bvs {d with gv:=1000000 - (X:Int)} h)).setCells (w.heap.size+1) 0 [K H ts.length L]).cell? ⟨Wb,0,C⟩=U (K H ts.length L):=⟨S1.1.block (g2.block _ A (fun e=>O)),(mV (w:=v0.setCells w.heap.size 0 (bvs {d with gv:=1000000 - (X:Int)} h)) (a:=⟨Wb,0,C⟩) (g2.block Wb A (fun e=>O))).trans S1.2⟩
   have ae:=l.fin N.out.1 N.out.2.2 N.out.2.1 g1 g2 an.out.1 an.out.2;have ab:=c1.block (g2.block _ A (fun e=>O));have af:=((B1.stored (vs:=[K H ts.length L]) rfl) 0 D).1;clear M x7;refine jZ (i:=0) (d:=U 109) (v:=aI (bvs {d with gv:=1000000 - (X:Int)} h).toArray) (l':=bt 5 1) rfl (fun _ P=>Eh (F 5) Z Z P.1 rfl) S0 ?_;refine jZ (i:=1) (d:=U 110) (v:=aG (U ⟨Wb,0,C⟩)) (l':=bt 5 3) rfl (fun _ _=>Z) S0 ?_;refine jZ (i:=2) (d:=U 111) (v:=aI #[K H ts.length L]) (l':=bt 5 7) rfl (fun _ P=>pK (F 110) Z Z P.2) S0 ?_;generalize u:Act.put _ _ _=aa;refine qc (i:=3) (w':=v0.setCells w.heap.size 0 (bvs {d with gv:=1000000 - (X:Int)} h)) (l':=bt 5 15) Z rfl Z aV Z (lM 30 oK (bvs {d with gv:=1000000 - (X:Int)} h) (F 2) (F 109) Z aV aV A0 rfl Tryz.sizeBo (nC _ _)) S1 ?_;refine qc (i:=4) (w':=(v0.setCells w.heap.size 0 (bvs {d with gv:=1000000 - (X:Int)} h)).setCells (w.heap.size+1) 0 [K H ts.length L]) (l':=bt 5 31) Z rfl Z aV Z (lM 33 [kH] [K H ts.length L] (F 3) (F 111) Z aV aV B1 rfl Gg aZ) S2 ?_;subst u;refine wpAnyH_done Z ?_ _;obtain ⟨vz, T⟩ := kC ((v0.setCells w.heap.size 0 (bvs ⟨d.wk,d.up,d.now,d.sn,d.ep,1000000 - (X:Int),d.L1,d.L2,d.R,d.J,d.S,d.O⟩ h)).setCells (w.heap.size+1) 0 [K H ts.length L]);rw [← T] at ae ab af ⊢;clear T S0 S1 S2 g1 g2 ay c1 A0 B0 B1 A9 B9 ax ai ak l ag;go_simp;go_wp2;exact bodyPost_ret (qK 2 3 results37 rfl rfl ab rfl af) rfl ⟨ae.1,ae.2.1.mono A,ae.2.2⟩
 ·skip
  go_wp2_with fail
  refine (pick_any g 2 (k+6000+1) _ x.x.rd A A A).mono ?_;rintro e6 w6 ⟨⟨X,ca,rfl⟩,aw,g6⟩;have x6:=x.pick aw g6;clear x aw g6;have y2:w6.cell? ⟨Q,2,C⟩=U (I Y d.now):=(x6.x.c 2 aP).1;have f2:w6.frozen? ⟨Q,2,C⟩=aK:=(x6.x.c 2 aP).2;have bu:=hid x6;clear x6;go_upto_region 31 with fail
  have x7:=bu.out.sc2 (1000000 - (X:Int));clear bu y2 f2;obtain ⟨w7, bg⟩ := kC (w6.setCell ⟨Q,2,C⟩ (I Y (1000000 - (X:Int))));rw [← bg] at x7 ⊢;clear bg;have cv:=hid x7;have ck:d.J.length≤3000:=by have:=b4.out;omega
  clear x7;go_wp2;go_loopw [10] (fun i wr=>∃ (i':Nat) (J:List Tr),i'≤d.J.length∧i=I Y i'∧J.length=d.J.length∧oC We g (k+6000+1+1) Wb Q (K H ts.length L) ts vs {d with now:=1000000 - (X:Int),J:=J} h wr) (fun i _=>d.J.length - (intOf i).toNat)
  case atStart=>exact ⟨0,d.J,lG _,rfl,rfl,cv.out⟩
  case round =>
   clear cv;obtain ⟨i,J,bz,rfl,b7,y⟩:=hrel;have y9:wr.cell? ⟨Q,9,C⟩=U (K h.aj J.length h.cj):=(y.x.c 9 aP).1;rw [b7] at y9;by_cases al:i<d.J.length
   ·have cl:(i:Int)<(d.J.length:Int):=by omega
    obtain ⟨gj,oj,ej,ed,dq⟩:=y.job (i:=i) (by show i<J.length;omega);rw [ej] at y9;have W:=dq (0,0,0) ⟨Gy,Gy,Gy⟩;dsimp only at W;have HZ:=hid W;have HJ:=hid b7;clear y dq W ej b7;go_wp2_with (refine Vp rfl (F 129) (F 128) rfl gj (oj+i*3) rfl rfl ed ?_;intro w8 ey)
    go_roundw
    case rel=>exact ⟨i+1,J.set i (0,0,0),A,aW,by rw [nV];exact HJ.out,HZ.out⟩
    case measure=>simp [intOf];omega
   ·obtain rfl:i=d.J.length:=by omega
    clear al bz b7;go_upto_region 35 with fail
    clear y9;have HP:=hid y.x.p;have A9:CF wr w.heap.size oK:=HA.out.1.block (y.x.gr.block _ bZ (fun e=>aY));have B9:CF wr (w.heap.size+1) [kH]:=HA.out.2.block (y.x.gr.block _ bZ (fun e=>aY));refine wp_region_held (S:=fun w'=>CF w' Q (bvs {d with now:=1000000 - (X:Int),J:=J} h)∧w'.cell? ⟨Wb,0,C⟩=U (K H ts.length L)) Z ?_;change wpAnyH _ _ _ _ _ _ _ _ (World.drew _);obtain ⟨v0, M⟩ := kC wr.drew;have ag:Below wr.heap.size wr v0:=fJ;have l:=y.below ag;have A0:CF v0 w.heap.size oK:=iL;have B0:CF v0 (w.heap.size+1) [kH]:=iK;rw [← M];have ax:=N.out;have ai:=l.x.p;have ak:=l.wb;have g1:v0.grownBy (v0.setCells w.heap.size 0 (bvs {d with now:=1000000 - (X:Int),J:=J} h)) (U w.heap.size):=gsc;have g2:(v0.setCells w.heap.size 0 (bvs {d with now:=1000000 - (X:Int),J:=J} h)).grownBy ((v0.setCells w.heap.size 0 (bvs {d with now:=1000000 - (X:Int),J:=J} h)).setCells (w.heap.size+1) 0 [K H ts.length L]) (U (w.heap.size+1)):=gsc;have ay:=g1.size;have c1:CF (v0.setCells w.heap.size 0 (bvs {d with now:=1000000 - (X:Int),J:=J} h)) w.heap.size (bvs {d with now:=1000000 - (X:Int),J:=J} h):=A0.stored rfl;have B1:=B0.block (g1.block _ A (fun e=>O));have S0:=And.intro l.x.c l.wc;have S1:CF (v0.setCells w.heap.size 0 (bvs {d with now:=1000000 - (X:Int),J:=J} h)) Q (bvs {d with now:=1000000 - (X:Int),J:=J} h)∧(v0.setCells w.heap.size 0 (bvs {d with now:=1000000 - (X:Int),J:=J} h)).cell? ⟨Wb,0,C⟩=U (K H ts.length L):=⟨S0.1.block (g1.block _ ai.2.2 (fun e=>O)),(mV (w:=v0) (a:=⟨Wb,0,C⟩) (g1.block Wb ak.2.1 (fun e=>O))).trans S0.2⟩
    have S2:CF ((v0.setCells w.heap.size 0 (bvs {d with now:=1000000 - (X:Int),J:=J} h)).setCells (w.heap.size+1) 0 [K H ts.length L]) Q (bvs {d with now:=1000000 - (X:Int),J:=J} h)∧((v0.setCells w.heap.size 0 (bvs {d with now:=1000000 - (X:Int),J:=J} h)).setCells (w.heap.size+1) 0 [K H ts.length L]).cell? ⟨Wb,0,C⟩=U (K H ts.length L):=⟨S1.1.block (g2.block _ A (fun e=>O)),(mV (w:=v0.setCells w.heap.size 0 (bvs {d with now:=1000000 - (X:Int),J:=J} h)) (a:=⟨Wb,0,C⟩) (g2.block Wb A (fun e=>O))).trans S1.2⟩
    have ae:=l.fin N.out.1 N.out.2.2 N.out.2.1 g1 g2 an.out.1 an.out.2;have ab:=c1.block (g2.block _ A (fun e=>O));have af:=((B1.stored (vs:=[K H ts.length L]) rfl) 0 D).1;clear M y;refine jZ (i:=0) (d:=U 130) (v:=aI (bvs {d with now:=1000000 - (X:Int),J:=J} h).toArray) (l':=bt 5 1) rfl (fun _ P=>Eh (F 5) Z Z P.1 rfl) S0 ?_;refine jZ (i:=1) (d:=U 131) (v:=aG (U ⟨Wb,0,C⟩)) (l':=bt 5 3) rfl (fun _ _=>Z) S0 ?_;refine jZ (i:=2) (d:=U 132) (v:=aI #[K H ts.length L]) (l':=bt 5 7) rfl (fun _ P=>pK (F 131) Z Z P.2) S0 ?_;generalize u:Act.put _ _ _=aa;refine qc (i:=3) (w':=v0.setCells w.heap.size 0 (bvs {d with now:=1000000 - (X:Int),J:=J} h)) (l':=bt 5 15) Z rfl Z aV Z (lM 30 oK (bvs {d with now:=1000000 - (X:Int),J:=J} h) (F 2) (F 130) Z aV aV A0 rfl Tryz.sizeBo (nC _ _)) S1 ?_;refine qc (i:=4) (w':=(v0.setCells w.heap.size 0 (bvs {d with now:=1000000 - (X:Int),J:=J} h)).setCells (w.heap.size+1) 0 [K H ts.length L]) (l':=bt 5 31) Z rfl Z aV Z (lM 33 [kH] [K H ts.length L] (F 3) (F 132) Z aV aV B1 rfl Gg aZ) S2 ?_;subst u;refine wpAnyH_done Z ?_ _;obtain ⟨vz, T⟩ := kC ((v0.setCells w.heap.size 0 (bvs ⟨d.wk,d.up,1000000 - (X:Int),d.sn,d.ep,d.gv,d.L1,d.L2,d.R,J,d.S,d.O⟩ h)).setCells (w.heap.size+1) 0 [K H ts.length L]);rw [← T] at ae ab af ⊢;clear T S0 S1 S2 g1 g2 ay c1 A0 B0 B1 A9 B9 ax ai ak l ag;go_simp;go_wp2;exact bodyPost_ret (qK 2 3 results37 rfl rfl ab rfl af) rfl ⟨ae.1,ae.2.1.mono A,ae.2.2⟩
 ·skip
  obtain ⟨Pp, cg⟩ := kC w5.heap.size;obtain ⟨W6, bw⟩ := kC (w5.alloc (aH #[K C 0 0] 33));have b6:Below w5.heap.size w5 W6:=by rw [bw];exact kQ
  have C6:CF W6 Pp [kH]:=by rw [bw,cg];exact CF.made w5 #[kH] _
  have x6:=x.x.below b6;have y0:Rf We g (k+6000+1) Pp Q 0 C 0 [] d h W6:=by
   have hp:=x.x.p;have W:W6.heap.size=w5.heap.size+1:=by rw [bw];simp
   have dn:∀ q,¬ PB (K C 0 0) (pJ 0) [] q:=fun q u=>by
    rcases u with u | ⟨j,hj,_⟩
    ·cases u
    ·rw [oh] at hj;omega
   exact ⟨⟨x6,lF.nil _ _,(C6 0 D).1,⟨A,A,A,fun P=>by have:=(x.x.bo.lo _ P _ rfl).2;omega⟩,fun q u=>absurd u (dn q)⟩,C6,fun q u=>absurd u (dn q)⟩
  have cw:=hid y0;have cu:=hid bw;have cp:=hid cg;clear y0 bw cg b6 C6 x6 x;go_upto_region 37 with fail
  rw [← cu.out,← cp.out];clear cu cp;go_wp2;go_loopw [12] (fun q wr=>∃ (i:Nat) (a:Option Addr) (c:Nat) (bb:List Value),i≤12∧q=I Y i∧Rf We g (k+6000+1) Pp Q i a c bb d h wr) (fun q _=>12 - (intOf q).toNat)
  case atStart=>exact ⟨0,C,0,[],A,rfl,cw.out⟩
  case round =>
   clear cw;obtain ⟨i,a,c,bb,hi,rfl,y⟩:=hrel;by_cases al:i<12
   ·have cl:(i:Int)<12:=by omega
    go_upto_region 40 with fail
    refine wp_region_held (S:=fun w'=>True) Z ?_;change wpAnyH _ _ _ _ _ _ _ _ (World.drew _);obtain ⟨v0, M⟩ := kC wr.drew;have l:=y.below (show Below wr.heap.size wr v0 by rw [M];exact mD.drew);rw [← M];clear M y;refine jZ (i:=0) (d:=U 138) (v:=aG (U ⟨Pp,0,C⟩)) (l':=bt 10 1) rfl (fun _ _=>Z) trivial ?_;refine jZ (i:=2) (d:=U 140) (v:=I Y (i:Nat)) (l':=bt 10 5) rfl (fun _ _=>Z) trivial ?_;refine nT (i:=1) (j:=3) Z (kM (i:=1) (d:=U 139) (v:=K a i c) (w':=v0) (l':=bt 10 7) rfl Z Z Z (Cm (F 138) Z Z (l.bx 0 D).1) trivial ?_) (kZ (i:=3) (d:=U 141) (f:=55) (args:=#[I Y (i:Nat)]) (l':=bt 10 13) (R:=RDc v0 i) rfl Z Z Z (lW _ _ rfl Z rfl UZ) (adq i A) ?_)
    ·refine kF Z (kZ (i:=3) (d:=U 141) (f:=55) (args:=#[I Y (i:Nat)]) (l':=bt 10 15) (R:=RDc v0 i) rfl Z Z Z (lW _ _ rfl Z rfl UZ) (adq i A) ?_)
     rintro u2 v2 ⟨rfl,b2⟩;have x2:=l.below b2;refine ⟨trivial,?_⟩;refine jZ (i:=4) (d:=U 142) (v:=E (uH i)) (l':=bt 10 31) rfl (fun _ _=>acS (.const (E ⟨#[102,117,108,108]⟩)) (F 141) ⟨#[102,117,108,108]⟩ (dS i) (by show 4+(dS i).size≤_;have:=WR i;omega) Z Z Z) trivial ?_;refine jZ (i:=5) (d:=U 143) (v:=aI #[E (uH i),I Y 1,K C 0 0]) (l':=bt 10 63) rfl (fun _ _=>qbT (F 142) Z Z Z) trivial ?_;refine kF Z (kM (i:=6) (d:=U 144) (v:=K (U ⟨v2.heap.size,0,C⟩) 1 1) (w':=v2.alloc (aH #[E (uH i),I Y 1,K C 0 0] 81)) (l':=bt 10 127) rfl Z Z Z (Ja (F 143) _ _ _ _ _ Z Z) trivial ?_);obtain ⟨a9,c9,w9,ah,ab,W⟩:=x2.step al;refine kF Z (kM (i:=7) (d:=U 145) (v:=K a9 (i+1) c9) (w':=w9) (l':=bt 10 255) rfl Z Z Z (mX (F 139) (F 144) 31 31 31 Z Z Z Z ah) trivial ?_);refine jZ (i:=8) (d:=U 146) (v:=aG (U ⟨Pp,0,C⟩)) (l':=bt 10 511) rfl (fun _ _=>Z) trivial ?_;refine kF Z (lI (i:=9) (w':=w9.setCell ⟨Pp,0,C⟩ (K a9 (i+1) c9)) (l':=bt 10 1023) rfl Z Z Z (Hu (F 146) (F 145) Z Z Z ab.1 ab.2) trivial ?_);refine wpAnyH_done Z ?_ _;obtain ⟨vz, T⟩ := kC (w9.setCell ⟨Pp,0,C⟩ (K a9 (i+1) c9));rw [← T] at W ⊢;have HZ:=hid W;clear W T l b2 x2 ah ab;go_simp;go_wp2;go_roundw
     case rel=>exact ⟨i+1,a9,c9,_,A,aW,HZ.out⟩
     case measure=>simp [intOf];omega
    ·rintro u6 v6 ⟨rfl,b6⟩
     have x6:=l.below b6;refine ⟨trivial,?_⟩;refine jZ (i:=4) (d:=U 142) (v:=E (uH i)) (l':=bt 10 29) rfl (fun _ _=>acS (.const (E ⟨#[102,117,108,108]⟩)) (F 141) ⟨#[102,117,108,108]⟩ (dS i) (by show 4+(dS i).size≤_;have:=WR i;omega) Z Z Z) trivial ?_;refine jZ (i:=5) (d:=U 143) (v:=aI #[E (uH i),I Y 1,K C 0 0]) (l':=bt 10 61) rfl (fun _ _=>qbT (F 142) Z Z Z) trivial ?_;refine nT (i:=1) (j:=6) Z (kM (i:=1) (d:=U 139) (v:=K a i c) (w':=v6) (l':=bt 10 63) rfl Z Z Z (Cm (F 138) Z Z (x6.bx 0 D).1) trivial ?_) (kM (i:=6) (d:=U 144) (v:=K (U ⟨v6.heap.size,0,C⟩) 1 1) (w':=v6.alloc (aH #[E (uH i),I Y 1,K C 0 0] 81)) (l':=bt 10 125) rfl Z Z Z (Ja (F 143) _ _ _ _ _ Z Z) trivial ?_)
     ·refine kF Z (kM (i:=6) (d:=U 144) (v:=K (U ⟨v6.heap.size,0,C⟩) 1 1) (w':=v6.alloc (aH #[E (uH i),I Y 1,K C 0 0] 81)) (l':=bt 10 127) rfl Z Z Z (Ja (F 143) _ _ _ _ _ Z Z) trivial ?_)
      obtain ⟨a9,c9,w9,ah,ab,W⟩:=x6.step al;refine kF Z (kM (i:=7) (d:=U 145) (v:=K a9 (i+1) c9) (w':=w9) (l':=bt 10 255) rfl Z Z Z (mX (F 139) (F 144) 31 31 31 Z Z Z Z ah) trivial ?_ );refine jZ (i:=8) (d:=U 146) (v:=aG (U ⟨Pp,0,C⟩)) (l':=bt 10 511) rfl (fun _ _=>Z) trivial ?_;refine kF Z (lI (i:=9) (w':=w9.setCell ⟨Pp,0,C⟩ (K a9 (i+1) c9)) (l':=bt 10 1023) rfl Z Z Z (Hu (F 146) (F 145) Z Z Z ab.1 ab.2) trivial ?_);refine wpAnyH_done Z ?_ _;obtain ⟨vz, T⟩ := kC (w9.setCell ⟨Pp,0,C⟩ (K a9 (i+1) c9));rw [← T] at W ⊢;have HZ:=hid W;clear W T l b6 x6 ah ab;go_simp;go_wp2;go_roundw
      case rel=>exact ⟨i+1,a9,c9,_,A,aW,HZ.out⟩
      case measure=>simp [intOf];omega
     ·refine kF Z (kM (i:=1) (d:=U 139) (v:=K a i c) (w':=v6.alloc (aH #[E (uH i),I Y 1,K C 0 0] 81)) (l':=bt 10 127) rfl Z Z Z (Cm (F 138) Z Z ((x6.below (W':=v6.alloc (aH #[E (uH i),I Y 1,K C 0 0] 81)) kQ).bx 0 D).1) trivial ?_)
      obtain ⟨a9,c9,w9,ah,ab,W⟩:=x6.step al;refine kF Z (kM (i:=7) (d:=U 145) (v:=K a9 (i+1) c9) (w':=w9) (l':=bt 10 255) rfl Z Z Z (mX (F 139) (F 144) 31 31 31 Z Z Z Z ah) trivial ?_  );refine jZ (i:=8) (d:=U 146) (v:=aG (U ⟨Pp,0,C⟩)) (l':=bt 10 511) rfl (fun _ _=>Z) trivial ?_;refine kF Z (lI (i:=9) (w':=w9.setCell ⟨Pp,0,C⟩ (K a9 (i+1) c9)) (l':=bt 10 1023) rfl Z Z Z (Hu (F 146) (F 145) Z Z Z ab.1 ab.2) trivial ?_);refine wpAnyH_done Z ?_ _;obtain ⟨vz, T⟩ := kC (w9.setCell ⟨Pp,0,C⟩ (K a9 (i+1) c9));rw [← T] at W ⊢;have HZ:=hid W;clear W T l b6 x6 ah ab;go_simp;go_wp2;go_roundw
      case rel=>exact ⟨i+1,a9,c9,_,A,aW,HZ.out⟩
      case measure=>simp [intOf];omega
   ·obtain rfl:i=12:=by omega
    clear al hi;go_upto_region 41 with fail
    refine wp_region_held (S:=fun w'=>w'.cell? ⟨Pp,0,C⟩=U (K a 12 c)) Z ?_;change wpAnyH _ _ _ _ _ _ _ _ (World.drew _);obtain ⟨v0, M⟩ := kC wr.drew;have l:=y.below (show Below wr.heap.size wr v0 by rw [M];exact mD.drew);rw [← M];clear M y;refine jZ (i:=3) (d:=U 150) (v:=aI #[K a 12 c]) (l':=bt 6 8) rfl (fun _ P=>pK (F 11) Z Z P) l.e.wc ?_;refine kF Z (kZ (i:=0) (d:=U 147) (f:=54) (args:=#[I Y ((299:Nat):Int)]) (l':=bt 6 9) (R:=REp v0 299) rfl Z Z Z (lW _ _ rfl Z rfl UY) (adh A) ?_);rintro u1 v1 ⟨⟨a9,c9,rfl,bl⟩,b1⟩;have x1:=l.below b1;refine ⟨x1.e.wc,?_⟩;refine jZ (i:=1) (d:=U 148) (v:=aI #[K a9 299 c9,K C 0 0]) (l':=bt 6 11) rfl (fun _ _=>VY (F 147) Z Z) x1.e.wc ?_;refine jZ (i:=2) (d:=U 149) (v:=aI (bvs (yZ 2 3 299) (Jh a9 c9)).toArray) (l':=bt 6 15) rfl (fun _ _=>by rw [QJ];exact V8 (.const (I Y 2)) (.const (I Y 3)) (F 148) Z Z Z Z) x1.e.wc ?_;obtain ⟨b2,o2,c6⟩:∃ b o,lN v1 a b o 12 (pJ 12):=by
     obtain ⟨b,o,h5⟩:=lF.tasks' (a:=a) (c:=c) (ts:=pJ 12) x1.e.pl (UM A) (by rw [oh];unfold maxLen;omega);rw [oh] at h5;exact ⟨b,o,h5⟩
    refine kF Z (kZ (i:=4) (d:=U 151) (f:=10) (args:=#[aI (bvs (yZ 2 3 299) (Jh a9 c9)).toArray,aI #[K a 12 c]]) (l':=bt 6 31) (R:=RRi v1) rfl Z Z Z (lT _ _ _ rfl Z Z rfl aaP) (ad3 (SE 2 3 bl) c6) ?_);rintro u2 v2 ⟨d2,h2,rfl,cf,bn,cy⟩;have x2:=x1.below cy;have a7:Q<v1.heap.size∧Pp<v1.heap.size∧We.heap.size≤v1.heap.size:=⟨x1.e.x.p.2.2,x1.e.wb.2.1,by have:=x1.e.x.p;omega⟩
    have af:∀ q,PB (K a 12 c) (pJ 12) bb q→q<v1.heap.size:=fun q u=>(x1.e.pl.lt u).2;refine ⟨x2.e.wc,?_⟩;refine kF Z (lI (i:=5) (w':=v2.setCells Q 0 (bvs d2 h2)) (l':=bt 6 63) rfl Z Z Z (lM 30 (bvs d h) (bvs d2 h2) (F 5) (F 151) Z Z Z x2.e.x.c rfl Tryz.sizeBo (nC _ _)) (x2.e.D8 (z:=v1.heap.size) a7 af cf (bn.fits (Fv)) (bn.small (Em A)) (gsc) (x2.e.x.c.stored rfl)).wc ?_);have W:=(x2.e.D8 (z:=v1.heap.size) a7 af cf (bn.fits (Fv)) (bn.small (Em A)) (gsc) (x2.e.x.c.stored rfl))
    refine wpAnyH_done Z ?_ _;obtain ⟨vz, T⟩ := kC (v2.setCells Q 0 (bvs d2 h2));rw [← T] at W ⊢;have HZ:=hid W;have au:=hid (aaI bn);clear W T bn l b1 x1 bl cy x2 a7 af cf c6;go_simp;go_wp2;go_loopw [13] (fun q wr=>∃ (i:Nat) (d':BD) (h':BH),i≤10∧q=I Y i∧d'.R.length=12∧d'.L1.length+d'.L2.length+d'.J.length+d'.S.length+d'.O.length≤1000+i∧oC We g (k+6000+1+i) Pp Q (K a 12 c) (pJ 12) bb d' h' wr) (fun q _=>20 - (intOf q).toNat)
    case atStart=>exact ⟨0,d2,h2,A,rfl,au.out.1,au.out.2,HZ.out⟩
    case round =>
     clear HZ au;obtain ⟨i,d',h',ei,rfl,c5,dr,y⟩:=hrel;have bk:=hid c5;have cq:=hid dr;clear c5 dr;go_wp2_with fail
     refine (pick_any g 2 (k+6000+1+i) _ y.x.rd A A A).mono ?_;rintro e6 w6 ⟨⟨X,ca,rfl⟩,aw,g6⟩;have y6:=y.pick aw g6;clear y aw g6;by_cases al:(i:Int)<10 - (X:Int)
     ·have cd:=hid al
      have aq:i<12:=A;obtain ⟨pb,po,ep,-⟩:=y6.name (i:=i) aq;subst ep;obtain ⟨gj,oj,ej,-⟩:=y6.x.res (i:=i) (by rw [bk.out];exact aq);have US:∀ {V:World} {j:Nat},oC We g j Pp Q (K (U ⟨pb,po,C⟩) 12 c) (pJ 12) bb d' h' V→V.cell? ⟨Q,8,C⟩=U (K (U ⟨gj,oj,C⟩) 12 h'.cr)∧V.cell? ⟨Pp,0,C⟩=U (K (U ⟨pb,po,C⟩) 12 c)∧V.cell? ⟨pb,po+i*3,C⟩=U (E (uH i)):=fun hx=>by
       obtain ⟨b',o',e',h1⟩:=hx.name (i:=i) aq;injection e' with e';injection e' with e1 e2 _;subst e1 e2;refine ⟨?_,hx.wc,h1⟩;rw [(hx.x.c 8 aP).1];show U (K h'.ar d'.R.length h'.cr)=_;rw [ej,bk.out]
      have UR:∀ {V:World} {j:Nat},oC We g j Pp Q (K (U ⟨pb,po,C⟩) 12 c) (pJ 12) bb d' h' V→V.cell? ⟨gj,oj+i,C⟩=U (E (rs d'.R i))∧V.frozen? ⟨gj,oj+i,C⟩=aK∧∀ s:ByteArray,s.size≤maxLen→oC We g j Pp Q (K (U ⟨pb,po,C⟩) 12 c) (pJ 12) bb {d' with R:=d'.R.set i s} h' (V.setCell ⟨gj,oj+i,C⟩ (E s)):=fun hx=>by
       obtain ⟨g',o',e',h1,h2,h3⟩:=hx.res (i:=i) (by rw [bk.out];exact aq);rw [ej] at e';injection e' with e';injection e' with e1 e2 _;subst e1 e2;exact ⟨h1,h2,h3⟩
      have U2:∀ {V:World} {j:Nat} {s:ByteArray},oC We g j Pp Q (K (U ⟨pb,po,C⟩) 12 c) (pJ 12) bb {d' with R:=d'.R.set i s} h' V→V.cell? ⟨Q,8,C⟩=U (K (U ⟨gj,oj,C⟩) 12 h'.cr)∧V.cell? ⟨Pp,0,C⟩=U (K (U ⟨pb,po,C⟩) 12 c)∧V.cell? ⟨pb,po+i*3,C⟩=U (E (uH i)):=fun {V j s} hx=>by
       obtain ⟨b',o',e',h1⟩:=hx.name (i:=i) aq;injection e' with e';injection e' with e1 e2 _;subst e1 e2;refine ⟨?_,hx.wc,h1⟩;rw [(hx.x.c 8 aP).1];show U (K h'.ar (d'.R.set i s).length h'.cr)=_;rw [ej,nV,bk.out]
      go_upto_region 45 with fail
      clear al;refine wp_region_held (S:=fun w'=>w'.cell? ⟨Q,8,C⟩=U (K (U ⟨gj,oj,C⟩) 12 h'.cr)∧w'.cell? ⟨Pp,0,C⟩=U (K (U ⟨pb,po,C⟩) 12 c)∧w'.cell? ⟨pb,po+i*3,C⟩=U (E (uH i))) Z ?_;change wpAnyH _ _ _ _ _ _ _ _ (World.drew _);obtain ⟨v0, M⟩ := kC w6.drew;have l:=y6.below (show Below w6.heap.size w6 v0 by rw [M];exact mD.drew);rw [← M];clear M y6;refine jZ (i:=0) (d:=U 159) (v:=aG (U ⟨Q,8,C⟩)) (l':=bt 13 1) rfl (fun _ _=>Z) (US l) ?_;refine jZ (i:=1) (d:=U 160) (v:=K (U ⟨gj,oj,C⟩) 12 h'.cr) (l':=bt 13 3) rfl (fun _ P=>Ib (F 159) Z Z P.1) (US l) ?_;refine jZ (i:=2) (d:=U 161) (v:=I Y (i:Nat)) (l':=bt 13 7) rfl (fun _ _=>Z) (US l) ?_;refine jZ (i:=3) (d:=U 162) (v:=aG (U ⟨Pp,0,C⟩)) (l':=bt 13 15) rfl (fun _ _=>Z) (US l) ?_;refine jZ (i:=4) (d:=U 163) (v:=K (U ⟨pb,po,C⟩) 12 c) (l':=bt 13 31) rfl (fun _ P=>Cm (F 162) Z Z P.2.1) (US l) ?_;refine jZ (i:=5) (d:=U 164) (v:=I Y (i:Nat)) (l':=bt 13 63) rfl (fun _ _=>Z) (US l) ?_;refine jZ (i:=6) (d:=U 165) (v:=aG (U ⟨pb,po+i*3,C⟩)) (l':=bt 13 127) rfl (fun _ _=>abQ (F 163) (F 164) pb po 12 c i Z Z Z aq) (US l) ?_;refine jZ (i:=7) (d:=U 166) (v:=aG (U ⟨pb,po+i*3,C⟩)) (l':=bt 13 255) rfl (fun _ _=>Z) (US l) ?_;refine jZ (i:=8) (d:=U 167) (v:=E (uH i)) (l':=bt 13 511) rfl (fun _ P=>Hy (F 166) Z Z P.2.2) (US l) ?_;refine kF Z (kM (i:=9) (d:=U 168) (v:=K (U ⟨v0.heap.size,0,C⟩) 0 0) (w':=v0.alloc (aH #[] 9)) (l':=bt 13 1023) rfl Z Z Z (Dp Z) (US (l.below kQ)) ?_);obtain ⟨v1, cm⟩ := kC (v0.alloc (aH #[] 9));have x1:=l.below (show Below v0.heap.size v0 v1 by rw [cm];exact kQ);rw [← cm];clear cm;refine kF Z (kZ (i:=10) (d:=U 169) (f:=56) (args:=#[E (uH i),K (U ⟨v0.heap.size,0,C⟩) 0 0]) (l':=bt 13 2047) (R:=RVl v1) rfl Z Z Z (lT _ _ _ rfl Z Z rfl aaN) (adP (NS aq)) ?_);rintro u2 v2 ⟨⟨s9,ew,rfl⟩,b2⟩;have x2:=x1.below b2;refine ⟨US x2,?_⟩;refine jZ (i:=11) (d:=U 170) (v:=aG (U ⟨gj,oj+i,C⟩)) (l':=bt 13 4095) rfl (fun _ _=>Ur (F 160) (F 161) gj oj 12 h'.cr i Z Z Z aq) (US x2) ?_;refine kF Z (lI (i:=12) (w':=v2.setCell ⟨gj,oj+i,C⟩ (E s9)) (l':=bt 13 8191) rfl Z Z Z (Xx (F 170) (F 169) Z Z Z (UR x2).1 (UR x2).2.1) (U2 ((UR x2).2.2 s9 G)) ?_);have W:=(UR x2).2.2 s9 G;refine wpAnyH_done Z ?_ _;obtain ⟨vz, T⟩ := kC (v2.setCell ⟨gj,oj+i,C⟩ (E s9));rw [← T] at W ⊢;have y7:=W;clear W T l x1 b2 x2 US UR U2;go_simp;obtain ⟨d3,b9⟩:∃ q:BD,q=⟨d'.wk,d'.up,d'.now,d'.sn,d'.ep,d'.gv,d'.L1,d'.L2,d'.R.set i s9,d'.J,d'.S,d'.O⟩:=⟨_,rfl⟩
      have au:Hid (d3.R.length=12∧rs d3.R i=s9):=hid (by rw [b9];exact ⟨by rw [nV];exact bk.out,by unfold rs;simp [List.getD,bk.out,aq]⟩);have bp:Hid (d3.L1.length+d3.L2.length+d3.J.length+d3.S.length+d3.O.length≤1000+i):=hid (by rw [b9];exact cq.out);rw [← b9] at y7;clear b9 bk cq;go_upto_region 46 with fail
      obtain ⟨gk,ok,ek,-⟩:=y7.x.res (i:=i) (by rw [au.out.1];exact aq);have US:∀ {V:World} {j:Nat},oC We g j Pp Q (K (U ⟨pb,po,C⟩) 12 c) (pJ 12) bb d3 h' V→V.cell? ⟨Q,4,C⟩=U (I Y d3.ep)∧V.cell? ⟨Q,8,C⟩=U (K (U ⟨gk,ok,C⟩) 12 h'.cr)∧V.cell? ⟨gk,ok+i,C⟩=U (E s9):=fun hx=>by
       obtain ⟨g',o',e',h1,-,-⟩:=hx.x.res (i:=i) (by rw [au.out.1];exact aq);rw [ek] at e';injection e' with e';injection e' with e1 e2 _;subst e1 e2;rw [au.out.2] at h1;have h8:=(hx.x.c 8 aP).1;refine ⟨(hx.x.c 4 aP).1,?_,h1⟩;rw [h8];show U (K h'.ar d3.R.length h'.cr)=_;rw [ek,au.out.1]
      refine wp_region_held (S:=fun w'=>w'.cell? ⟨Q,4,C⟩=U (I Y d3.ep)∧w'.cell? ⟨Q,8,C⟩=U (K (U ⟨gk,ok,C⟩) 12 h'.cr)∧w'.cell? ⟨gk,ok+i,C⟩=U (E s9)) Z ?_;change wpAnyH _ _ _ _ _ _ _ _ (World.drew _);obtain ⟨v0, M⟩ := kC vz.drew;have l:=y7.below (show Below vz.heap.size vz v0 by rw [M];exact mD.drew);rw [← M];clear M y7;refine jZ (i:=0) (d:=U 171) (v:=aG (U ⟨Q,6,C⟩)) (l':=bt 18 1) rfl (fun _ _=>Z) (US l) ?_;refine jZ (i:=1) (d:=U 172) (v:=aG (U ⟨Q,7,C⟩)) (l':=bt 18 3) rfl (fun _ _=>Z) (US l) ?_;refine jZ (i:=3) (d:=U 174) (v:=aG (U ⟨Q,4,C⟩)) (l':=bt 18 11) rfl (fun _ _=>Z) (US l) ?_;refine jZ (i:=4) (d:=U 175) (v:=I Y d3.ep) (l':=bt 18 27) rfl (fun _ P=>oL (F 174) Z Z P.1) (US l) ?_;refine jZ (i:=5) (d:=U 176) (v:=I Y (i:Nat)) (l':=bt 18 59) rfl (fun _ _=>Z) (US l) ?_;refine jZ (i:=6) (d:=U 177) (v:=aG (U ⟨Q,8,C⟩)) (l':=bt 18 123) rfl (fun _ _=>Z) (US l) ?_;refine jZ (i:=7) (d:=U 178) (v:=K (U ⟨gk,ok,C⟩) 12 h'.cr) (l':=bt 18 251) rfl (fun _ P=>Ib (F 177) Z Z P.2.1) (US l) ?_;refine jZ (i:=8) (d:=U 179) (v:=I Y (i:Nat)) (l':=bt 18 507) rfl (fun _ _=>Z) (US l) ?_;refine jZ (i:=9) (d:=U 180) (v:=aG (U ⟨gk,ok+i,C⟩)) (l':=bt 18 1019) rfl (fun _ _=>Ur (F 178) (F 179) gk ok 12 h'.cr i Z Z Z aq) (US l) ?_;refine jZ (i:=10) (d:=U 181) (v:=E s9) (l':=bt 18 2043) rfl (fun _ P=>Hy (F 180) Z Z P.2.2) (US l) ?_;refine jZ (i:=11) (d:=U 182) (v:=aI #[I Y 2,I Y d3.ep,I Y (i:Nat),E s9]) (l':=bt 18 4091) rfl (fun _ _=>VZ (F 175) (F 176) (F 181) _ _ _ Z Z Z Z Z) (US l) ?_;refine nT (i:=2) (j:=12) Z (kM (i:=2) (d:=U 173) (v:=K h'.a2 d3.L2.length h'.c2) (w':=v0) (l':=bt 18 4095) rfl Z Z Z (Ib (F 172) Z Z (l.x.c 7 aP).1) (US l) ?_) (kZ (i:=12) (d:=U 183) (f:=52) (args:=#[aI #[I Y 2,I Y d3.ep,I Y (i:Nat),E s9]]) (l':=bt 18 8187) (R:=WV v0) rfl Z Z Z (lW _ _ rfl Z rfl Ij) (UN A) ?_)
      ·refine kF Z (kZ (i:=12) (d:=U 183) (f:=52) (args:=#[aI #[I Y 2,I Y d3.ep,I Y (i:Nat),E s9]]) (l':=bt 18 8191) (R:=WV v0) rfl Z Z Z (lW _ _ rfl Z rfl Ij) (UN A) ?_)
       rintro u2 v2 ⟨⟨s8,cb,rfl⟩,b2⟩;have x2:=l.below b2;refine ⟨US x2,?_⟩;refine kF Z (kM (i:=13) (d:=U 184) (v:=K (U ⟨v2.heap.size,0,C⟩) 1 1) (w':=v2.alloc (aH #[E s8] 9)) (l':=bt 18 16383) rfl Z Z Z (qU (F 183) _ Z Z) (US (x2.below kQ)) ?_);obtain ⟨a8,c8,w8,ah,a6,bj,bc,bf,av⟩:=x2.add (au.out.1) (by have:=bp.out;omega) s8 G aq (US x2).2.2 ek;refine kF Z (kM (i:=14) (d:=U 185) (v:=K a8 (d3.L2.length+1) c8) (w':=w8) (l':=bt 18 32767) rfl Z Z Z (mX (F 173) (F 184) 23 23 23 Z Z Z Z ah) av ?_);refine jZ (i:=15) (d:=U 186) (v:=aG (U ⟨Q,6,C⟩)) (l':=bt 18 65535) rfl (fun _ _=>Z) av ?_;refine jZ (i:=16) (d:=U 187) (v:=aG (U ⟨Q,7,C⟩)) (l':=bt 18 131071) rfl (fun _ _=>Z) av ?_;refine kF Z (lI (i:=17) (w':=w8.setCell ⟨Q,7,C⟩ (K a8 (d3.L2.length+1) c8)) (l':=bt 18 262143) rfl Z Z Z (qo (F 187) (F 185) _ _ _ Z Z Z (a6 7 aP).1 (a6 7 aP).2) bc ?_);have W:=bj;refine wpAnyH_done Z ?_ _;obtain ⟨vz, T⟩ := kC (w8.setCell ⟨Q,7,C⟩ (K a8 (d3.L2.length+1) c8));rw [← T] at W ⊢;have HZ:=hid W;have HL:=hid bf;clear W bj T l cb b2 x2 ah a6 bc bf av US ek;go_simp;go_wp2;go_roundw
       case rel=>exact ⟨i+1,{d3 with L2:=d3.L2 ++ [s8]},{h' with a2:=a8,c2:=c8},by have:=cd.out;omega,aW,au.out.1,by have:=bp.out;show d3.L1.length+(d3.L2 ++ [s8]).length+d3.J.length+d3.S.length+d3.O.length≤_;rw [lD,mQ];omega,HZ.out.more A⟩
       case measure=>simp [intOf];omega
      ·rintro u6 v6 ⟨⟨s8,cb,rfl⟩,b6⟩
       have x6:=l.below b6;refine ⟨US x6,?_⟩;refine nT (i:=2) (j:=13) Z (kM (i:=2) (d:=U 173) (v:=K h'.a2 d3.L2.length h'.c2) (w':=v6) (l':=bt 18 8191) rfl Z Z Z (Ib (F 172) Z Z (x6.x.c 7 aP).1) (US x6) ?_) (kM (i:=13) (d:=U 184) (v:=K (U ⟨v6.heap.size,0,C⟩) 1 1) (w':=v6.alloc (aH #[E s8] 9)) (l':=bt 18 16379) rfl Z Z Z (qU (F 183) _ Z Z) (US (x6.below kQ)) ?_)
       ·refine kF Z (kM (i:=13) (d:=U 184) (v:=K (U ⟨v6.heap.size,0,C⟩) 1 1) (w':=v6.alloc (aH #[E s8] 9)) (l':=bt 18 16383) rfl Z Z Z (qU (F 183) _ Z Z) (US (x6.below kQ)) ?_)
        obtain ⟨a8,c8,w8,ah,a6,bj,bc,bf,av⟩:=x6.add (au.out.1) (by have:=bp.out;omega) s8 G aq (US x6).2.2 ek;refine kF Z (kM (i:=14) (d:=U 185) (v:=K a8 (d3.L2.length+1) c8) (w':=w8) (l':=bt 18 32767) rfl Z Z Z (mX (F 173) (F 184) 23 23 23 Z Z Z Z ah) av ?_ );refine jZ (i:=15) (d:=U 186) (v:=aG (U ⟨Q,6,C⟩)) (l':=bt 18 65535) rfl (fun _ _=>Z) av ?_;refine jZ (i:=16) (d:=U 187) (v:=aG (U ⟨Q,7,C⟩)) (l':=bt 18 131071) rfl (fun _ _=>Z) av ?_;refine kF Z (lI (i:=17) (w':=w8.setCell ⟨Q,7,C⟩ (K a8 (d3.L2.length+1) c8)) (l':=bt 18 262143) rfl Z Z Z (qo (F 187) (F 185) _ _ _ Z Z Z (a6 7 aP).1 (a6 7 aP).2) bc ?_);have W:=bj;refine wpAnyH_done Z ?_ _;obtain ⟨vz, T⟩ := kC (w8.setCell ⟨Q,7,C⟩ (K a8 (d3.L2.length+1) c8));rw [← T] at W ⊢;have HZ:=hid W;have HL:=hid bf;clear W bj T l cb b6 x6 ah a6 bc bf av US ek;go_simp;go_wp2;go_roundw
        case rel=>exact ⟨i+1,{d3 with L2:=d3.L2 ++ [s8]},{h' with a2:=a8,c2:=c8},by have:=cd.out;omega,aW,au.out.1,by have:=bp.out;show d3.L1.length+(d3.L2 ++ [s8]).length+d3.J.length+d3.S.length+d3.O.length≤_;rw [lD,mQ];omega,HZ.out.more A⟩
        case measure=>simp [intOf];omega
       ·refine kF Z (kM (i:=2) (d:=U 173) (v:=K h'.a2 d3.L2.length h'.c2) (w':=v6.alloc (aH #[E s8] 9)) (l':=bt 18 16383) rfl Z Z Z (Ib (F 172) Z Z ((x6.below (W':=v6.alloc (aH #[E s8] 9)) kQ).x.c 7 aP).1) (US (x6.below (W':=v6.alloc (aH #[E s8] 9)) kQ)) ?_)
        obtain ⟨a8,c8,w8,ah,a6,bj,bc,bf,av⟩:=x6.add (au.out.1) (by have:=bp.out;omega) s8 G aq (US x6).2.2 ek;refine kF Z (kM (i:=14) (d:=U 185) (v:=K a8 (d3.L2.length+1) c8) (w':=w8) (l':=bt 18 32767) rfl Z Z Z (mX (F 173) (F 184) 23 23 23 Z Z Z Z ah) av ?_  );refine jZ (i:=15) (d:=U 186) (v:=aG (U ⟨Q,6,C⟩)) (l':=bt 18 65535) rfl (fun _ _=>Z) av ?_;refine jZ (i:=16) (d:=U 187) (v:=aG (U ⟨Q,7,C⟩)) (l':=bt 18 131071) rfl (fun _ _=>Z) av ?_;refine kF Z (lI (i:=17) (w':=w8.setCell ⟨Q,7,C⟩ (K a8 (d3.L2.length+1) c8)) (l':=bt 18 262143) rfl Z Z Z (qo (F 187) (F 185) _ _ _ Z Z Z (a6 7 aP).1 (a6 7 aP).2) bc ?_);have W:=bj;refine wpAnyH_done Z ?_ _;obtain ⟨vz, T⟩ := kC (w8.setCell ⟨Q,7,C⟩ (K a8 (d3.L2.length+1) c8));rw [← T] at W ⊢;have HZ:=hid W;have HL:=hid bf;clear W bj T l cb b6 x6 ah a6 bc bf av US ek;go_simp;go_wp2;go_roundw
        case rel=>exact ⟨i+1,{d3 with L2:=d3.L2 ++ [s8]},{h' with a2:=a8,c2:=c8},by have:=cd.out;omega,aW,au.out.1,by have:=bp.out;show d3.L1.length+(d3.L2 ++ [s8]).length+d3.J.length+d3.S.length+d3.O.length≤_;rw [lD,mQ];omega,HZ.out.more A⟩
        case measure=>simp [intOf];omega
     ·go_upto_region 47 with fail
      clear al;have HP:=hid y6.x.p;have A9:CF w6 w.heap.size oK:=HA.out.1.block (y6.x.gr.block _ bZ (fun e=>aY));have B9:CF w6 (w.heap.size+1) [kH]:=HA.out.2.block (y6.x.gr.block _ bZ (fun e=>aY));refine wp_region_held (S:=fun w'=>CF w' Q (bvs d' h')∧w'.cell? ⟨Pp,0,C⟩=U (K a 12 c)) Z ?_;change wpAnyH _ _ _ _ _ _ _ _ (World.drew _);obtain ⟨v0, M⟩ := kC w6.drew;have ag:Below w6.heap.size w6 v0:=fJ;have l:=y6.below ag;have A0:CF v0 w.heap.size oK:=iL;have B0:CF v0 (w.heap.size+1) [kH]:=iK;rw [← M];have ax:=N.out;have ai:=l.x.p;have ak:=l.wb;have g1:v0.grownBy (v0.setCells w.heap.size 0 (bvs d' h')) (U w.heap.size):=gsc;have g2:(v0.setCells w.heap.size 0 (bvs d' h')).grownBy ((v0.setCells w.heap.size 0 (bvs d' h')).setCells (w.heap.size+1) 0 [K a 12 c]) (U (w.heap.size+1)):=gsc;have ay:=g1.size;have c1:CF (v0.setCells w.heap.size 0 (bvs d' h')) w.heap.size (bvs d' h'):=A0.stored rfl;have B1:=B0.block (g1.block _ A (fun e=>O));have S0:=And.intro l.x.c l.wc;have S1:CF (v0.setCells w.heap.size 0 (bvs d' h')) Q (bvs d' h')∧(v0.setCells w.heap.size 0 (bvs d' h')).cell? ⟨Pp,0,C⟩=U (K a 12 c):=⟨S0.1.block (g1.block _ ai.2.2 (fun e=>O)),(mV (w:=v0) (a:=⟨Pp,0,C⟩) (g1.block Pp ak.2.1 (fun e=>O))).trans S0.2⟩
      have S2:CF ((v0.setCells w.heap.size 0 (bvs d' h')).setCells (w.heap.size+1) 0 [K a 12 c]) Q (bvs d' h')∧((v0.setCells w.heap.size 0 (bvs d' h')).setCells (w.heap.size+1) 0 [K a 12 c]).cell? ⟨Pp,0,C⟩=U (K a 12 c):=⟨S1.1.block (g2.block _ A (fun e=>O)),(mV (w:=v0.setCells w.heap.size 0 (bvs d' h')) (a:=⟨Pp,0,C⟩) (g2.block Pp A (fun e=>O))).trans S1.2⟩
      have ae:=l.fin N.out.1 N.out.2.2 N.out.2.1 g1 g2 (UM kL) adJ;have ab:=c1.block (g2.block _ A (fun e=>O));have af:=((B1.stored (vs:=[K a 12 c]) rfl) 0 D).1;clear M y6;refine jZ (i:=0) (d:=U 188) (v:=aI (bvs d' h').toArray) (l':=bt 4 1) rfl (fun _ P=>Eh (F 5) Z Z P.1 rfl) S0 ?_;refine jZ (i:=1) (d:=U 189) (v:=aI #[K a 12 c]) (l':=bt 4 3) rfl (fun _ P=>pK (F 11) Z Z P.2) S0 ?_;generalize u:Act.put _ _ _=aa;refine qc (i:=2) (w':=v0.setCells w.heap.size 0 (bvs d' h')) (l':=bt 4 7) Z rfl Z aV Z (lM 30 oK (bvs d' h') (F 2) (F 188) Z aV aV A0 rfl Tryz.sizeBo (nC _ _)) S1 ?_;refine qc (i:=3) (w':=(v0.setCells w.heap.size 0 (bvs d' h')).setCells (w.heap.size+1) 0 [K a 12 c]) (l':=bt 4 15) Z rfl Z aV Z (lM 33 [kH] [K a 12 c] (F 3) (F 189) Z aV aV B1 rfl Gg aZ) S2 ?_;subst u;refine wpAnyH_done Z ?_ _;obtain ⟨vz, T⟩ := kC ((v0.setCells w.heap.size 0 (bvs d' h')).setCells (w.heap.size+1) 0 [K a 12 c]);rw [← T] at ae ab af ⊢;clear T S0 S1 S2 g1 g2 ay c1 A0 B0 B1 A9 B9 ax ai ak l ag;go_simp;go_wp2;exact bodyPost_ret (qK 2 3 results37 rfl rfl ab rfl af) rfl ⟨ae.1,ae.2.1.mono A,ae.2.2⟩
end
end Go.Proofs.YtfkkipgcfoegmaaGreat
