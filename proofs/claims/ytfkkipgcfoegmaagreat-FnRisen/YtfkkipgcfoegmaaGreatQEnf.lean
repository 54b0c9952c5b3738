
import Derived.Test.YtfkkipgcfoegmaaGreatQCel
import Derived.Lib.Builder
import Derived.Lib.AppendStr
import Derived.Lib.UnsafeStr
import Derived.Laws.Externs
import Derived.Deep.DeepCutAuto
set_option maxHeartbeats 2000000
set_option maxRecDepth 100000
namespace Go.Proofs.YtfkkipgcfoegmaaGreat
open Go.Proofs.Tryz
open Go.Value renaming slice→K,string→E,pointer→aG
open Option renaming none→C,some→U
open Go.Obj renaming cells→aH
open Go.Ending renaming returned→aO
open Go.Value renaming int→I
open Go.IntKind renaming i64→Y
open Go.RowKit
variable {bs:List Value} {ns:List Int} {w:World} {x:ByteArray}
theorem Tryz.sizeBuilder:(prog.info? 93).map (·.size)=U 2:=Z
theorem Tryz.liesBuilder:liesAt prog prog.depth 95 (2 / prog.cellsOf 95) 0 93 1=true:=Z
theorem Tryz.cellsByte:prog.cellsOf 5=1:=Z
theorem Qd (b:Nat) (w:World) (d:w.cell? ⟨b,0,C⟩=U (aG (U ⟨b,0,C⟩))) :
  Calls prog 74 #[aG (U ⟨b,0,C⟩)] w fun e c=>e=aO (.tuple #[])∧c=w:=by
 obtain ⟨j,a,_⟩:=Option.map_eq_some_iff.1 Tryz.sizeBuilder;go_enter func74,ntmps74
 go_wp2;rw [Lib.run_neq_ptr_same w _ underlying91 a];go_wp2;go_end0
 exact ⟨rfl,rfl⟩
theorem Pg (b:Nat) (w:World) (g:w.cell? ⟨b,0,C⟩=U (aG C)) (c:w.shape? b=U (95,2)) (h:w.frozen? ⟨b,0,C⟩=false) :
  Calls prog 74 #[aG (U ⟨b,0,C⟩)] w fun e f=>e=aO (.tuple #[])∧f=w.setCell ⟨b,0,C⟩ (aG (U ⟨b,0,C⟩)):=by
 obtain ⟨j,a,d⟩:=Option.map_eq_some_iff.1 Tryz.sizeBuilder;go_enter func74,ntmps74
 go_wp2;rw [Lib.run_to_unsafe w ⟨b,0,C⟩ underlying91 underlying157 a (by rw [d];decide) c (Nat.zero_lt_succ 1)];simp only [Result.andThen];rw [Oper.upon_value];go_wp2;rw [run_callFunc_extern func99 Z Z Z (e:=Extern.AbiNoEscape.same) Z];rw [Lib.run_noEscape];simp only [Result.andThen];rw [Oper.upon_value];go_wp2;rw [Lib.run_from_unsafe w ⟨b,0,C⟩ underlying157 underlying91 a c Tryz.liesBuilder];simp only [Result.andThen];rw [Oper.upon_value];go_wp2;go_end0
 exact ⟨rfl,rfl⟩
theorem KC (B b:Nat) (bs:List Value) (h:Lib.IsBuilder 95 5 B b bs w) :
  Calls prog 74 #[aG (U ⟨b,0,C⟩)] w fun e a=>e=aO (.tuple #[])∧(Lib.BuilderAt 95 5 B b (aG (U ⟨b,0,C⟩)) bs a∧Below B w a):=by
 rcases h with h | h
 ·refine (Pg b w h.cell0 h.shape h.frozen0).mono ?_
  rintro e a ⟨rfl,rfl⟩;exact ⟨rfl,h.used _,(Iz B w).setCell (p:=⟨b,0,C⟩) h.1 _⟩
 ·refine (Qd b w h.cell0).mono ?_
  rintro e a ⟨rfl,rfl⟩;exact ⟨rfl,h,Iz B _⟩
theorem F9 (B b:Nat) {c:Int} (h:Lib.IsBuilder 95 5 B b bs w) (hlen:bs.length+1≤140737488355328) (X:B≤w.heap.size) :
  Calls prog 73 #[aG (U ⟨b,0,C⟩),.int .u8 c] w fun e H=>e=aO .nilIface∧(Lib.BuilderAt 95 5 B b (aG (U ⟨b,0,C⟩)) (bs ++ [.int .u8 c]) H∧Below B w H):=by
 obtain ⟨i0,hi,Q,R,S⟩:=info_parts Tryz.info5;go_enter func73,ntmps73
 go_wp2_with (go_at_call 74;refine (KC B b bs h).mono ?_)
 rintro e a ⟨rfl,J,d⟩;obtain ⟨r,v,i,t,N⟩:=J;have c0:a.cell? ⟨b,0,C⟩=U (aG (U ⟨b,0,C⟩)):=by rw [Lib.cell_of_heap i];rfl
 have c1:a.cell? ⟨b,1,C⟩=U v:=by rw [Lib.cell_of_heap i];rfl
 go_wp2_with (at_builtin;refine wpList_append_own _ rfl _ _ 22 rfl B 5 i0 (.int .u8 0) 1 1 underlying22 hi Q R S rfl cZ _ _ _ rfl (t.alloc _) ⟨a.heap.size,0,C⟩ 1 1 [.int .u8 c] rfl rfl ?c1 ?c2 ?c3 ?c4 ?c5 ?_)
 case c1 =>
  intro j u l;match j,l with
  | 0,l=>simp at l;subst l;simp [Addr.add]
 case c2=>intro u hu;simp at hu;subst hu;rfl
 case c3=>unfold maxLen;omega
 case c4=>omega
 case c5=>have:=d.size;simp;omega
 intro V o z s _;have M:b<a.heap.size:=by
  rcases RP b a.heap.size with q | q
  ·exact q
  ·simp [Array.getElem?_eq_none q] at i
 have f:o.heap[b]?=U (aH #[aG (U ⟨b,0,C⟩),v] 95 (0,0)):=by
  rw [s.block b aQ (fun e=>N e.symm),Lib.alloc_old a _ b M];exact i
 have d0:o.cell? ⟨b,0,C⟩=U (aG (U ⟨b,0,C⟩)):=by rw [Lib.cell_of_heap f];rfl
 have d1:o.cell? ⟨b,1,C⟩=U v:=by rw [Lib.cell_of_heap f];rfl
 have f1:o.frozen? ⟨b,1,C⟩=false:=Lib.frozen_of_heap f 1;obtain ⟨g,cap,rfl⟩:∃ g cap,V=K (U ⟨g,0,C⟩) (bs.length+1) cap:=by
  rcases z.2 with ⟨_,W⟩ | ⟨g,cap,cur,P,_⟩
  ·omega
  ·exact ⟨g,cap,P⟩
 go_wp2;go_ret;refine ⟨rfl,?_,?_⟩
 ·exact Lib.BuilderAt.put (T:=95) (e:=5) r f (bs':=bs ++ [.int .u8 c]) (by simpa using z) cZ
 ·exact ((d.alloc (by have:=d.size;omega) _).grown s (by have:=d.size;simp;omega) (fun k L=>(t.lt k L).1)).setCell (p:=⟨b,1,C⟩) r _
theorem Oq (B b:Nat) {s:ByteArray} (h:Lib.IsBuilder 95 5 B b bs w) (hlen:bs.length+s.size≤140737488355328) (S:B≤w.heap.size) :
  Calls prog 50 #[aG (U ⟨b,0,C⟩),E s] w fun e z=>e=aO (.tuple #[I Y s.size,.nilIface])∧(Lib.BuilderAt 95 5 B b (aG (U ⟨b,0,C⟩)) (bs ++ Lib.strCells s) z∧Below B w z):=by
 obtain ⟨i0,hi,N,P,Q⟩:=info_parts Tryz.info5;go_enter func50,ntmps50
 go_wp2_with (go_at_call 74;refine (KC B b bs h).mono ?_)
 rintro e d ⟨rfl,H,j⟩;obtain ⟨o,v,c,r,M⟩:=H;have c0:d.cell? ⟨b,0,C⟩=U (aG (U ⟨b,0,C⟩)):=by rw [Lib.cell_of_heap c];rfl
 have c1:d.cell? ⟨b,1,C⟩=U v:=by rw [Lib.cell_of_heap c];rfl
 go_wp2_with (at_builtin;refine Lib.wpList_append_own_string _ rfl _ _ 22 9 rfl B 5 i0 underlying22 underlying9 hi N P Q _ _ _ rfl r s rfl ?c3 ?c4 ?c5 ?_)
 case c3=>unfold maxLen;omega
 case c4=>omega
 case c5=>have:=j.size;omega
 intro R f t q _;have L:b<d.heap.size:=by
  rcases RP b d.heap.size with i | i
  ·exact i
  ·simp [Array.getElem?_eq_none i] at c
 have a:f.heap[b]?=U (aH #[aG (U ⟨b,0,C⟩),v] 95 (0,0)):=by
  rw [q.block b L (fun e=>M e.symm)];exact c
 have d0:f.cell? ⟨b,0,C⟩=U (aG (U ⟨b,0,C⟩)):=by rw [Lib.cell_of_heap a];rfl
 have d1:f.cell? ⟨b,1,C⟩=U v:=by rw [Lib.cell_of_heap a];rfl
 have f1:f.frozen? ⟨b,1,C⟩=false:=Lib.frozen_of_heap a 1;obtain ⟨ao,u,cap,rfl⟩:∃ ao u cap,R=K ao u cap:=by
  rcases t.2 with ⟨l,_⟩ | ⟨g,cap,cur,l,_⟩
  ·exact ⟨_,_,_,l⟩
  ·exact ⟨_,_,_,l⟩
 go_wp2;go_ret2
 refine ⟨rfl,?_,?_⟩
 ·exact Lib.BuilderAt.put (T:=95) (e:=5) o a (bs':=bs ++ Lib.strCells s) (by simpa [Lib.strCells_length] using t) cZ
 ·exact (j.grown q (by have:=j.size;omega) (fun k J=>(r.lt k J).1)).setCell (p:=⟨b,1,C⟩) o _
theorem Xk (B b:Nat) (l:List UInt8) (h:Lib.IsBuilder 95 5 B b (Lib.byteCells l) w) (c:l≠[]) :
  Calls prog 51 #[aG (U ⟨b,0,C⟩)] w fun e z=>e=aO (E ⟨l.toArray⟩)∧Below B w z:=by
 obtain ⟨p,H,v,f,a,P⟩:∃ p,Lib.BuilderAt 95 5 B b p (Lib.byteCells l) w:=by
  rcases h with h | h
  ·exact ⟨_,h⟩
  ·exact ⟨_,h⟩
 have q:l.length≠0:=fZ;rw [Lib.byteCells_length] at a;obtain ⟨g,cap,cur,rfl,d,k,N,i,M,Q⟩:∃ g cap cur,v=K (U ⟨g,0,C⟩) l.length cap∧B≤g∧w.heap[g]?=U (aH cur 5 (0,0))∧l.length≤cap∧cap≤maxLen∧cur.size=cap*1∧cur.toList.take (l.length*1)=Lib.byteCells l:=by
  rcases a.2 with ⟨_,u⟩ | ⟨g,cap,cur,s,r⟩
  ·exact absurd u q
  ·exact ⟨g,cap,cur,s,r⟩
 have c1:w.drew.cell? ⟨b,1,C⟩=U (K (U ⟨g,0,C⟩) l.length cap):=by
  have:w.drew.heap[b]?=U (aH #[p,K (U ⟨g,0,C⟩) l.length cap] 95 (0,0)):=f;rw [Lib.cell_of_heap this];rfl
 have J:(Builtin.unsafeSliceData_ #[22] 123 #[K (U ⟨g,0,C⟩) l.length cap]).run prog w.drew=.ok (aG (U ⟨g,0,C⟩)) w.drew :=
  Lib.run_unsafeSliceData_row _ _ _ _ _ _ A
 have L:(Builtin.unsafeString_ #[123,3] 9 #[aG (U ⟨g,0,C⟩),I Y l.length]).run prog w.drew=.ok (E ⟨l.toArray⟩) (w.drew.freeze ⟨g,0,C⟩ l.length):=by
  refine Lib.run_unsafeString_row w.drew 123 3 9 5 underlying123 Tryz.cellsByte g cur.size (by have o:w.drew.heap[g]?=U (aH cur 5 (0,0)):=k;simp [World.shape?,o]) l c A (by unfold maxLen at i;omega) ?_;intro j x t;have:=a.cells (g:=g) rfl j (.int .u8 x.toNat) (by simp [Lib.byteCells,t]);exact this
 go_enter func51,ntmps51
 go_wp2;go_region
 all_goals (go_wp2;go_ret;exact ⟨rfl,Lib.below_freeze (Xg (Iz B w)) (p:=⟨g,0,C⟩) d _⟩)
theorem Tryz.wrap8:IntKind.i64.wrap 8=8:=cZ
theorem Tryz.wrap16:IntKind.i64.wrap 16=16:=cZ
theorem Tryz.wrap24:IntKind.i64.wrap 24=24:=cZ
theorem Tryz.wrap0:IntKind.i64.wrap 0=0:=cZ
theorem TR (x:Int):IntKind.u8.wrap x=x % 256:=by rw [IntKind.wrap_u8]
theorem Uz (B b:Nat) {n:Int} (h:Lib.IsBuilder 95 5 B b bs w) (hlen:bs.length≤1000000) (k:B≤w.heap.size) :
  Calls prog 49 #[aG (U ⟨b,0,C⟩),I Y n,I Y 1] w fun e d=>e=aO (.tuple #[])∧(Lib.BuilderAt 95 5 B b (aG (U ⟨b,0,C⟩)) (bs ++ [.int .u8 (n % 256)]) d∧Below B w d):=by
 have r:=Tryz.wrap0;have u:=Tryz.wrap8;have s:=Tryz.wrap16;have t:=Tryz.wrap24;go_enter func49,ntmps49
 go_wp2;go_loopw [6] (fun i wr=>(i=I Y 0∧Lib.IsBuilder 95 5 B b (bs ++ []) wr∧Below B w wr)∨(i=I Y (-1)∧Lib.BuilderAt 95 5 B b (aG (U ⟨b,0,C⟩)) (bs ++ [.int .u8 (n % 256)]) wr∧Below B w wr)) (fun i _=>(intOf i+1).toNat)
 case atStart=>exact .inl ⟨rfl,fV,mD⟩
 case round =>
  rcases hrel with ⟨rfl,c,a⟩ | ⟨rfl,c,a⟩
  ·have q:=a.size
   have j:Lib.IsBuilder 95 5 B b _ wr.drew:=c;have p:=a.drew;have g:B≤wr.drew.heap.size:=lH k q;go_wp2;go_region_held3 (fun _=>True) (trivial) (first | (go_at_call 73;refine (F9 B b j aQ g).mono ?_;rintro e v ⟨rfl,f,l⟩;have o:=p.trans l))
   go_wp2;go_roundw
   case rel=>exact .inr (⟨rfl,by simpa [TR,List.append_assoc] using f,o⟩)
   case measure=>simp [intOf]
  ·go_wp2
   go_end0
   exact ⟨rfl,c,a⟩
theorem aas (B b:Nat) {n:Int} (h:Lib.IsBuilder 95 5 B b bs w) (hlen:bs.length≤1000000) (p:B≤w.heap.size) :
  Calls prog 49 #[aG (U ⟨b,0,C⟩),I Y n,I Y 2] w fun e q=>e=aO (.tuple #[])∧(Lib.BuilderAt 95 5 B b (aG (U ⟨b,0,C⟩)) (bs ++ [.int .u8 (n / 256 % 256),.int .u8 (n % 256)]) q∧Below B w q):=by
 have s:=Tryz.wrap0;have v:=Tryz.wrap8;have t:=Tryz.wrap16;have u:=Tryz.wrap24;go_enter func49,ntmps49
 go_wp2;go_loopw [6] (fun i wr=>(i=I Y 1∧Lib.IsBuilder 95 5 B b (bs ++ []) wr∧Below B w wr)∨(i=I Y 0∧Lib.IsBuilder 95 5 B b (bs ++ [.int .u8 (n / 256 % 256)]) wr∧Below B w wr)∨(i=I Y (-1)∧Lib.BuilderAt 95 5 B b (aG (U ⟨b,0,C⟩)) (bs ++ [.int .u8 (n / 256 % 256),.int .u8 (n % 256)]) wr∧Below B w wr)) (fun i _=>(intOf i+1).toNat)
 case atStart=>exact .inl ⟨rfl,fV,mD⟩
 case round =>
  rcases hrel with ⟨rfl,c,a⟩ | ⟨rfl,c,a⟩ | ⟨rfl,c,a⟩
  ·have o:=a.size
   have g:Lib.IsBuilder 95 5 B b _ wr.drew:=c;have l:=a.drew;have f:B≤wr.drew.heap.size:=lH p o;go_wp2;go_region_held3 (fun _=>True) (trivial) (first | (go_at_call 73;refine (F9 B b g aQ f).mono ?_;rintro e r ⟨rfl,d,j⟩;have k:=l.trans j))
   go_wp2;go_roundw
   case rel=>exact .inr (.inl ⟨rfl,.inr (by simpa [TR,List.append_assoc] using d),k⟩)
   case measure=>simp [intOf]
  ·have o:=a.size
   have g:Lib.IsBuilder 95 5 B b _ wr.drew:=c;have l:=a.drew;have f:B≤wr.drew.heap.size:=lH p o;go_wp2;go_region_held3 (fun _=>True) (trivial) (first | (go_at_call 73;refine (F9 B b g aQ f).mono ?_;rintro e r ⟨rfl,d,j⟩;have k:=l.trans j))
   go_wp2;go_roundw
   case rel=>exact .inr (.inr (⟨rfl,by simpa [TR,List.append_assoc] using d,k⟩))
   case measure=>simp [intOf]
  ·go_wp2
   go_end0
   exact ⟨rfl,c,a⟩
def toB (ns:List Int):List UInt8:=ns.map fun z=>UInt8.ofNat z.toNat
theorem Rq (h:∀ z∈ns,0≤z∧z<256):Lib.byteCells (toB ns)=ns.map (Value.int .u8):=by
 unfold Lib.byteCells toB;rw [List.map_map];refine List.map_congr_left fun z a=>?_;have:=h z a;simp only [Function.comp];congr 1
 rw [UInt8.toNat_ofNat_of_lt' jG];omega
theorem QS (ns:List Int) (h:∀ z∈ns,0≤z∧z<256):(bN (toB ns))=ns:=by
 unfold bN toB;rw [List.map_map]
 conv=>rhs;rw [← List.map_id ns]
 refine List.map_congr_left fun z a=>?_;have:=h z a;simp only [Function.comp,id];rw [UInt8.toNat_ofNat_of_lt' jG];omega
theorem QW (l r:List UInt8):bN (l ++ r)=bN l ++ bN r:=by simp [bN]
def vE (k e d:Int) (z:Nat):Prop:=(k=1∧1≤e∧e≤300∧d=0∧z=0)∨(k=2∧1≤e∧e≤300∧0≤d∧d≤39∧z=8)
theorem abe (h:((x.size:Int) == 8)=true):x.size=8:=by
 have a:(x.size:Int)=8:=fV;omega
theorem abf (h:((x.size:Int) == 8)=false):¬ x.size=8:=fun a=>by rw [a] at h;simp at h
theorem adC (h:x.toList.isEmpty=true):x.size=0:=Decidable.byContradiction fun a=>by rw [oQ a] at h;cases h
theorem adD (h:x.toList.isEmpty=false):¬ x.size=0:=fun a=>by rw [oP a] at h;cases h
theorem aav (k e d:Int) (x:ByteArray) :
  Calls prog 75 #[.agg #[I Y k,I Y e,I Y d,E x]] w fun c h=>kG c (vE k e d x.size)∧Below w.heap.size w h:=by
 have i:Below w.heap.size w (w.alloc (aH #[I Y k,I Y e,I Y d,E x] 66)):=kQ;cases v:inB e 1 300 with
 | false =>
  have o:=hid (mO v);go_enter func75,ntmps75
  go_wp2_with (first | (go_at_call 19;refine (kP _ _ _).mono ?_;rintro c h ⟨rfl,rfl⟩))
  go_ret;refine ⟨kG.f fun a=>?_,i⟩;unfold vE at a;have:=o.out;omega
 | true =>
  have o:=hid (mM v);cases u:inB d 0 39 with
  | false =>
   have l:=hid (mO u);go_enter func75,ntmps75
   go_wp2_with (first | (go_at_call 19;refine (kP _ _ _).mono ?_;rintro c h ⟨rfl,rfl⟩))
   go_ret;refine ⟨kG.f fun a=>?_,i⟩;unfold vE at a;have:=l.out;omega
  | true =>
   have l:=hid (mM u);cases H:(k == 1) with
   | false =>
    have q:=hid (show ¬ k=1 by simpa using H);cases z:(k == 2) with
    | false =>
     have p:=hid (show ¬ k=2 by simpa using z);go_enter func75,ntmps75
     go_wp2_with (first | (go_at_call 19;refine (kP _ _ _).mono ?_;rintro c h ⟨rfl,rfl⟩))
     go_ret;refine ⟨kG.f fun a=>?_,i⟩;unfold vE at a;have:=q.out;have:=p.out;omega
    | true =>
     have p:=hid (show k=2 by simpa using z);have s:=p.out;subst s;cases g:((x.size:Int) == 8) with
     | false =>
      have j:=hid (abf g);go_enter func75,ntmps75
      go_wp2_with (first | (go_at_call 19;refine (kP _ _ _).mono ?_;rintro c h ⟨rfl,rfl⟩))
      go_ret;refine ⟨kG.f fun a=>?_,i⟩;unfold vE at a;have:=j.out;omega
     | true =>
      have j:=hid (abe g);go_enter func75,ntmps75
      go_wp2_with (first | (go_at_call 19;refine (kP _ _ _).mono ?_;rintro c h ⟨rfl,rfl⟩))
      go_ret;refine ⟨kG.t ?_,i⟩;unfold vE;have:=j.out;have:=o.out;have:=l.out;omega
   | true =>
    have q:=hid (show k=1 by simpa using H);have s:=q.out;subst s;cases J:(d == 0) with
    | false =>
     have r:=hid (show ¬ d=0 by simpa using J);go_enter func75,ntmps75
     go_wp2_with (first | (go_at_call 19;refine (kP _ _ _).mono ?_;rintro c h ⟨rfl,rfl⟩))
     go_ret;refine ⟨kG.f fun a=>?_,i⟩;unfold vE at a;have:=r.out;omega
    | true =>
     have r:=hid (show d=0 by simpa using J);have M:=r.out;subst M;by_cases g:x.size=0
     ·have L:=oP g
      have j:=hid g;clear g;go_enter func75,ntmps75
      go_wp2_with (first | (go_at_call 19;refine (kP _ _ _).mono ?_;rintro c h ⟨rfl,rfl⟩))
      go_ret;refine ⟨kG.t ?_,i⟩;unfold vE;have:=j.out;have:=o.out;have:=l.out;omega
     ·have L:=oQ g
      have j:=hid g;clear g;go_enter func75,ntmps75
      go_wp2_with (first | (go_at_call 19;refine (kP _ _ _).mono ?_;rintro c h ⟨rfl,rfl⟩))
      go_ret;refine ⟨kG.f fun a=>?_,i⟩;unfold vE at a;have:=j.out;omega
theorem EZ (k e d:Int) (x:ByteArray) :
  Calls prog 48 #[.agg #[I Y k,I Y e,I Y d,E x]] w fun a c=>kG a (vE k e d x.size)∧Below w.heap.size w c:=by
 have j:Below w.heap.size w (w.alloc (aH #[I Y k,I Y e,I Y d,E x] 66)):=kQ;cases z:(k == 2) with
 | false =>
  have s:=hid (show ¬ k=2 by simpa using z);cases v:(k == 1) with
  | false =>
   have r:=hid (show ¬ k=1 by simpa using v);go_enter func48,ntmps48
   go_wp2_with (first | (go_at_call 19;refine (kP _ _ _).mono ?_;rintro a c ⟨rfl,rfl⟩))
   go_ret;refine ⟨kG.f fun i=>?_,j⟩;unfold vE at i;have:=s.out;have:=r.out;omega
  | true =>
   have r:=hid (show k=1 by simpa using v);have u:=r.out;subst u;cases q:inB e 1 300 with
   | false =>
    have o:=hid (mO q);go_enter func48,ntmps48
    go_wp2_with (first | (go_at_call 24;refine (lY).mono ?_;rintro a c ⟨rfl,rfl⟩) | (go_at_call 71;refine (FP g).mono ?_;rintro a c ⟨rfl,rfl⟩) | (go_at_call 72;refine (FM h).mono ?_;rintro a c ⟨rfl,rfl⟩))
    go_ret;refine ⟨kG.f fun i=>?_,j⟩;unfold vE at i;have:=o.out;omega
   | true =>
    have o:=hid (mM q);cases g:(d == 0) with
    | false =>
     have l:=hid (show ¬ d=0 by simpa using g);go_enter func48,ntmps48
     go_wp2_with (first | (go_at_call 24;refine (lY).mono ?_;rintro a c ⟨rfl,rfl⟩) | (go_at_call 71;refine (FP g).mono ?_;rintro a c ⟨rfl,rfl⟩) | (go_at_call 72;refine (FM h).mono ?_;rintro a c ⟨rfl,rfl⟩))
     go_ret;refine ⟨kG.f fun i=>?_,j⟩;unfold vE at i;have:=l.out;omega
    | true =>
     have l:=hid (show d=0 by simpa using g);cases h:x.toList.isEmpty with
     | false =>
      have p:=hid (adD h);go_enter func48,ntmps48
      go_wp2_with (first | (go_at_call 24;refine (lY).mono ?_;rintro a c ⟨rfl,rfl⟩) | (go_at_call 71;refine (FP g).mono ?_;rintro a c ⟨rfl,rfl⟩) | (go_at_call 72;refine (FM h).mono ?_;rintro a c ⟨rfl,rfl⟩))
      go_ret;refine ⟨kG.f fun i=>?_,j⟩;unfold vE at i;have:=p.out;omega
     | true =>
      have p:=hid (adC h);go_enter func48,ntmps48
      go_wp2_with (first | (go_at_call 24;refine (lY).mono ?_;rintro a c ⟨rfl,rfl⟩) | (go_at_call 71;refine (FP g).mono ?_;rintro a c ⟨rfl,rfl⟩) | (go_at_call 72;refine (FM h).mono ?_;rintro a c ⟨rfl,rfl⟩))
      go_ret;refine ⟨kG.t ?_,j⟩;unfold vE;have:=p.out;have:=o.out;have:=l.out;omega
 | true =>
  have s:=hid (show k=2 by simpa using z);have u:=s.out;subst u;cases q:inB e 1 300 with
  | false =>
   have o:=hid (mO q);go_enter func48,ntmps48
   go_wp2_with (first | (go_at_call 24;refine (lY).mono ?_;rintro a c ⟨rfl,rfl⟩) | (go_at_call 71;refine (FN g).mono ?_;rintro a c ⟨rfl,rfl⟩) | (go_at_call 72;refine (FK h).mono ?_;rintro a c ⟨rfl,rfl⟩))
   go_ret;refine ⟨kG.f fun i=>?_,j⟩;unfold vE at i;have:=o.out;omega
  | true =>
   have o:=hid (mM q);cases g:inB d 0 39 with
   | false =>
    have l:=hid (mO g);go_enter func48,ntmps48
    go_wp2_with (first | (go_at_call 24;refine (lY).mono ?_;rintro a c ⟨rfl,rfl⟩) | (go_at_call 71;refine (FN g).mono ?_;rintro a c ⟨rfl,rfl⟩) | (go_at_call 72;refine (FK h).mono ?_;rintro a c ⟨rfl,rfl⟩))
    go_ret;refine ⟨kG.f fun i=>?_,j⟩;unfold vE at i;have:=l.out;omega
   | true =>
    have l:=hid (mM g);cases h:((x.size:Int) == 8) with
    | false =>
     have p:=hid (abf h);go_enter func48,ntmps48
     go_wp2_with (first | (go_at_call 24;refine (lY).mono ?_;rintro a c ⟨rfl,rfl⟩) | (go_at_call 71;refine (FN g).mono ?_;rintro a c ⟨rfl,rfl⟩) | (go_at_call 72;refine (FK h).mono ?_;rintro a c ⟨rfl,rfl⟩))
     go_ret;refine ⟨kG.f fun i=>?_,j⟩;unfold vE at i;have:=p.out;omega
    | true =>
     have p:=hid (abe h);go_enter func48,ntmps48
     go_wp2_with (first | (go_at_call 24;refine (lY).mono ?_;rintro a c ⟨rfl,rfl⟩) | (go_at_call 71;refine (FN g).mono ?_;rintro a c ⟨rfl,rfl⟩) | (go_at_call 72;refine (FK h).mono ?_;rintro a c ⟨rfl,rfl⟩))
     go_ret;refine ⟨kG.t ?_,j⟩;unfold vE;have:=p.out;have:=o.out;have:=l.out;omega
def EJ (k e d:Int):List Int:=[k % 256,e / 256 % 256,e % 256,d % 256]
def D7 (k e d:Int) (x:ByteArray):List UInt8:=toB (EJ k e d) ++ x.data.toList
def lS (k e d:Int) (x:ByteArray):ByteArray:=⟨(D7 k e d x).toArray⟩
theorem O4 (k e d:Int):∀ z∈EJ k e d,0≤z∧z<256:=by
 intro z a;simp only [EJ,mG,mF,or_false] at a;rcases a with rfl | rfl | rfl | rfl <;> omega
theorem DI (k e d:Int) (x:ByteArray):(D7 k e d x).length=4+x.size:=by
 simp only [D7,toB,EJ,lD,List.length_map,pX,qJ,nZ];rfl
def FU (k e d:Int) (x:ByteArray) (r:ByteArray):Prop:=(vE k e d x.size∧r=lS k e d x)∨(¬ vE k e d x.size∧r=⟨#[]⟩)
theorem OB {k e d:Int} {z:Nat} (h:vE k e d z):0≤e∧e≤300∧0≤d∧d≤39∧z≤8:=by unfold vE at h;omega
theorem Io {a b:ByteArray} (h:a.data.toList=b.data.toList):a=b:=by
 cases a;cases b;simpa using h
theorem abH (x:ByteArray) (h:∀ z∈ns,0≤z∧z<256):strOfNums ns ++ x=⟨(toB ns ++ x.data.toList).toArray⟩:=by
 have a:=Np (toB ns);rw [QS ns h] at a;rw [a];refine Io ?_;simp
theorem Ai (k e d:Int) (x:ByteArray) (w:World) :
  Calls prog 52 #[.agg #[I Y k,I Y e,I Y d,E x]] w fun p R=>(∃ r,p=aO (E r)∧FU k e d x r)∧Below w.heap.size w R:=by
 obtain ⟨W, c⟩ := kC (w.alloc (aH #[I Y k,I Y e,I Y d,E x] 66));have ab:W.heap.size=w.heap.size+1:=by rw [c];simp
 have M:Below w.heap.size w W:=by rw [c];exact kQ
 have q:MC W w.heap.size [I Y k,I Y e,I Y d,E x]:=by rw [c];exact MC.made w _ _
 have z:=hid q;clear q;go_enter func52,ntmps52
 go_wp2_with fail
 rw [← c];refine (aav k e d x).mono ?_;rintro p a ⟨⟨r,rfl,g⟩,j⟩;clear c;have h:=M.trans (j.mono A);cases r with
 | false =>
  have f:Hid (¬ vE k e d x.size):=fun N=>by have:=g.2 N;cases this
  clear g;go_wp2;go_ret;exact ⟨⟨_,rfl,.inr ⟨f.out,rfl⟩⟩,h⟩
 | true =>
  have f:Hid (vE k e d x.size):=g.1 rfl;obtain ⟨V,X,S,T,l⟩:=OB f.out;have H:=hid l;clear g l;have u:=MC.below z.out j A;obtain ⟨c0,c1,c2,c3⟩:=YP u;have aa:w.heap.size<a.heap.size:=by have:=h.size;have:=j.size;omega
  clear u;have t:∀ i,i<4→(a.alloc (aH #[.int .u8 (k % 256),.int .u8 (e / 256),.int .u8 (e % 256),.int .u8 d] 5)).cell? ⟨a.heap.size,0+i,C⟩=U (.int .u8 ((EJ k e d).getD i 0)):=by
   intro i hi;have J:e / 256 % 256=e / 256:=A;have L:d % 256=d:=A;rw [ny,show (a.alloc (aH #[.int .u8 (k % 256),.int .u8 (e / 256),.int .u8 (e % 256),.int .u8 d] 5)).cell? ⟨a.heap.size,i,C⟩=#[Value.int .u8 (k % 256),.int .u8 (e / 256),.int .u8 (e % 256),.int .u8 d][i]? from Om a _ _ (0,0) i];unfold EJ;rw [J,L];match i,hi with
   | 0,_=>rfl
   | 1,_=>rfl
   | 2,_=>rfl
   | 3,_=>rfl
  have v:=hid t;clear t;go_wp2;rw [run_convert_bytes_arg (P:=prog) _ 22 5 underlying22 underlying5 a.heap.size 0 4 4 (EJ k e d) rfl v.out 9 underlying9];have Q:(strOfNums (EJ k e d)).size=4:=by simp [strOfNums_size,EJ]
  have o:Hid (strOfNums (EJ k e d) ++ x=lS k e d x):=abH x (O4 k e d);obtain ⟨bs, s⟩ := kC (strOfNums (EJ k e d));rw [← s] at Q o ⊢;clear s;have l:=H.out;simp only [Result.andThen];rw [Oper.upon_value];go_wp2;go_ret;exact ⟨⟨_,rfl,.inl ⟨f.out,o.out⟩⟩,h.alloc A _⟩
theorem MS (k e d:Int) (x:ByteArray) :
  Calls prog 32 #[.agg #[I Y k,I Y e,I Y d,E x]] w fun v w'=>(∃ r,v=aO (E r)∧FU k e d x r)∧Below w.heap.size w w':=by
 obtain ⟨W, h⟩ := kC (w.alloc (aH #[I Y k,I Y e,I Y d,E x] 66));have ak:W.heap.size=w.heap.size+1:=by rw [h];simp
 have ab:Below w.heap.size w W:=by rw [h];exact kQ
 have N:MC W w.heap.size [I Y k,I Y e,I Y d,E x]:=by rw [h];exact MC.made w _ _
 have R:=hid N;clear N;go_enter func32,ntmps32
 go_wp2_with fail
 rw [← h];refine (EZ k e d x).mono ?_;rintro v a ⟨⟨r,rfl,p⟩,s⟩;clear h;have z:=ab.trans (s.mono A);cases r with
 | false =>
  have i:Hid (¬ vE k e d x.size):=fun hv=>by have:=p.2 hv;cases this
  clear p;go_wp2;go_ret;exact ⟨⟨_,rfl,.inr ⟨i.out,rfl⟩⟩,z⟩
 | true =>
  have i:Hid (vE k e d x.size):=p.1 rfl;obtain ⟨ag,ah,ae,af,Q⟩:=OB i.out;have S:=hid Q;clear p Q ag ah ae af;obtain ⟨V, g⟩ := kC (a.alloc (aH #[aG C,K C 0 0] 95));have X:Lib.IsBuilder 95 5 a.heap.size a.heap.size [] V:=by
   have:=Lib.fresh_isBuilder 95 5 a;rw [g];simpa using this
  have ai:V.heap.size=a.heap.size+1:=by rw [g];simp
  have P:Below a.heap.size a V:=by rw [g];exact kQ
  have o:w.heap.size<a.heap.size:=by have:=s.size;omega
  have u:MC V w.heap.size [I Y k,I Y e,I Y d,E x]:=(MC.below R.out s A).below P o;have q:=hid u;have q0:V.cell? ⟨w.heap.size,0,C⟩=U (I Y k):=u 0 D;clear u;go_upto_region 4 with fail
  rw [← g];clear g;go_wp2_with fail
  refine (Uz a.heap.size a.heap.size X D A).mono ?_;rintro j v1 ⟨rfl,H,l⟩;have q1:v1.cell? ⟨w.heap.size,1,C⟩=U (I Y e):=(MC.below q.out l o) 1 D;clear q0;go_wp2_with fail
  refine (aas a.heap.size a.heap.size (.inr H) D (by have:=l.size;omega)).mono ?_;rintro j v2 ⟨rfl,J,c⟩;replace c:=l.trans c
  have q2:v2.cell? ⟨w.heap.size,2,C⟩=U (I Y d):=(MC.below q.out c o) 2 D;clear q1 H l;go_wp2_with fail
  refine (Uz a.heap.size a.heap.size (.inr J) D (by have:=c.size;omega)).mono ?_;rintro j v3 ⟨rfl,L,f⟩;replace f:=c.trans f
  have q3:v3.cell? ⟨w.heap.size,3,C⟩=U (E x):=(MC.below q.out f o) 3 D;clear q2 J c;go_wp2_with fail
  refine (Oq a.heap.size a.heap.size (.inr L) (by have:=S.out;simp;omega) (by have:=f.size;omega)).mono ?_;rintro j v4 ⟨rfl,M,t⟩;replace t:=f.trans t
  have T:Lib.BuilderAt 95 5 a.heap.size a.heap.size (aG (U ⟨a.heap.size,0,C⟩)) (Lib.byteCells (D7 k e d x)) v4:=by
   unfold D7;rw [Lib.byteCells_append,Rq (O4 _ _ _),← Lib.strCells_eq];simpa [EJ] using M
  clear q3 L f M;go_wp2_with fail
  refine (Xk a.heap.size a.heap.size (D7 k e d x) (.inr T) (by intro hh;have:=DI k e d x;rw [hh] at this;simp at this;omega)).mono ?_;rintro j v5 ⟨rfl,aa⟩;go_wp2;go_ret;exact ⟨⟨_,rfl,.inl ⟨i.out,rfl⟩⟩,z.trans ((P.trans (t.trans aa)).mono A)⟩
end Go.Proofs.YtfkkipgcfoegmaaGreat
