
import Derived.Test.YtfkkipgcfoegmaaGreatQEnf
import Derived.Lib.BufferWrite
import Derived.Lib.SlBuf
set_option maxHeartbeats 1000000
set_option maxRecDepth 100000
namespace Go.Proofs.YtfkkipgcfoegmaaGreat
open Go.Proofs.Tryz
open Option renaming none→C,some→U
open Go.Value renaming string→E,pointer→aG
open Bool renaming false→aK,true→aN
open Go.Ending renaming returned→aO
open Go.Value renaming int→I
open Go.IntKind renaming i64→Y
open Go.RowKit
variable {b sz:Nat} {b0 b1 b2 b3:UInt8} {e:Int} {s x:ByteArray} {w w':World}
theorem Ox {P:Program} {ops:Array Oper} {rest:List Oper} {o:Oper} {a:Act} {Q:Exit→Act→World→Prop} 
  (R:o.guard=none) {l c:Operand} (t:TypeId) (T:o.op=Op.makeSlice t l c)
  (e:TypeId) (i:TypeInfo) (z:Value) (size bytes:Nat) (j:P.underlying t=U (.slice e)) (k:P.info? e=U i) (p:i.zero=U z) (q:i.size=size) (r:i.bytes=bytes)
  (g f:IntKind) (L C:Int) (n:Nat) (S:a.eval l=.int g L) (N:a.eval c=.int f C) (H:L=(n:Int)) (s:C=(n:Int)) (b2:bytes*n≤281474976710656) (b3:n≤maxLen)
  (u:wpList P ops Q rest (a.put o.dst (.slice (U ⟨w.heap.size,0,none⟩) n n)) (w.alloc (.cells (madeCells z.cells (n*size)) e))) :
  wpList P ops Q (o :: rest) a w:=by
 subst q;subst r;subst H;subst s;refine wpList_plain R fun V v=>?_;have M:(n:Int)≤9223372036854775807:=by have:=b3;simp only [maxLen] at this;omega
 have J:(i.bytes:Int)*(n:Int)≤281474976710656:=by
  have h:((i.bytes*n:Nat):Int)≤281474976710656:=A;rwa [Xb] at h
 have d:=run_make (P:=P) w t e i z j k p g f n n A (RX _) J M;simp only [IE] at d;unfold Oper.wp;simp [execOp,T,S,N,d,Result.andThen];exact v _ _ u
theorem Tryz.cellsByte2:prog.cellsOf 5=1:=Z
theorem Tryz.sizeByte:(prog.info? 5).map (·.size)=U 1:=Z
theorem Xq (s:ByteArray) (T:s.size≤1000) (M:s.size≠0) :
  Calls prog 113 #[E s] w fun e w'=>e=aO (E s)∧Below w.heap.size w w':=by
 have N:((s.size:Int) == 0)=aK:=beq_false_of_ne A;obtain ⟨i0,hi,H,J,L⟩:=info_parts Tryz.info5;obtain ⟨W, d⟩ := kC (w.alloc (.cells (madeCells (Value.int .u8 0).cells (s.size*1)) 5));have h:W.heap[w.heap.size]?=U (.cells (madeCells (Value.int .u8 0).cells (s.size*1)) 5 (0,0)):=by rw [d];exact heap_alloc_new w _
 have q:(madeCells (Value.int .u8 0).cells (s.size*1)).size=s.size:=by simp [madeCells]
 have g:=Lib.run_copy_row_string (P:=prog) W 22 9 3 5 w.heap.size 0 s.size s.size s _ _ underlying22 Tryz.sizeByte h kL (by rw [q];omega);have c:s.data.toList.length=s.size:=by rw [nZ];rfl
 have o:((madeCells (Value.int .u8 0).cells (s.size*1)).toList.take 0 ++ Lib.byteCells s.data.toList ++ (madeCells (Value.int .u8 0).cells (s.size*1)).toList.drop (0+s.size)).toArray=(Lib.byteCells s.data.toList).toArray:=by
  rw [LM (by simp [madeCells])];simp
 rw [o] at g;obtain ⟨a, f⟩ := kC (W.setRow w.heap.size (Lib.byteCells s.data.toList).toArray);have i:a.heap[w.heap.size]?=U (.cells (Lib.byteCells s.data.toList).toArray 5 (0,0)):=by
  rw [f];simp [World.setRow,Array.getElem?_modify,h]
 have l:Below w.heap.size w a:=by
  have t:Below w.heap.size w W:=by rw [d];exact kQ
  refine t.trans ?_;rw [f];refine ⟨rfl,rfl,rfl,by simp [World.setRow],fun k R=>?_⟩;simp only [World.setRow,Array.getElem?_modify];rw [if_neg A]
 rw [← f] at g;have Q:(Builtin.unsafeString_ #[123,3] 9 #[aG (U ⟨w.heap.size,0,C⟩),I Y s.size]).run prog a=.ok (E s) (a.freeze ⟨w.heap.size,0,C⟩ s.size):=by
  have:=Lib.run_unsafeString_row (P:=prog) a 123 3 9 5 underlying123 Tryz.cellsByte2 w.heap.size s.size (by simp [World.shape?,i,Lib.byteCells_length,c]) s.data.toList (by intro v;rw [v] at c;simp at c;omega) A A (fun j x z=>by
   rw [Addr.add_lit,ny,Lib.cell_of_heap i];simp [Lib.byteCells,z])
  rw [c] at this;simpa using this
 have u:Below w.heap.size w (a.freeze ⟨w.heap.size,0,C⟩ s.size):=Lib.below_freeze l (p:=⟨w.heap.size,0,C⟩) kL _;have S:0<s.size:=A;clear f h i c o q l;have r:=hid d;clear d;go_enter func113,ntmps113
 go_wp2_with (refine Ox rfl 22 rfl 5 i0 (.int .u8 0) 1 1 underlying22 hi H J L .i64 .i64 s.size s.size s.size rfl rfl rfl rfl A G ?_;rw [← r.out])
 go_wp2_with (at_builtin;refine Lib.wpList_copy_run _ rfl _ _ 22 9 rfl _ _ rfl rfl g ?_)
 go_ret;exact ⟨rfl,u⟩
theorem clone_any (d:s.size≤1000) (a:s.size≠0) :
  Calls prog 108 #[E s] w fun e w'=>e=aO (E s)∧Below w.heap.size w w':=by
 go_enter func108,ntmps108
 go_wp2_with fail
 refine (Xq s d a).mono ?_;rintro e w' ⟨rfl,c⟩;go_wp2;go_ret;exact ⟨rfl,c⟩
structure JZ (w:World) (b:Nat) (rest:ByteArray):Prop where
 c0:w.cell? ⟨b,0,C⟩=U (E rest)
 c1:w.cell? ⟨b,1,C⟩=U .nilIface
 f0:w.frozen? ⟨b,0,C⟩=aK
 f1:w.frozen? ⟨b,1,C⟩=aK
structure IQ (w:World) (b:Nat) (e:Addr) (rest:ByteArray):Prop where
 c0:w.cell? ⟨b,0,C⟩=U (E rest)
 c1:w.cell? ⟨b,1,C⟩=U (.iface 170 (aG (U e)))
 f0:w.frozen? ⟨b,0,C⟩=aK
 f1:w.frozen? ⟨b,1,C⟩=aK
theorem grown_below (h:Below w.heap.size w w') {row:Option Nat}:w.grownBy w' row:=⟨h.os,h.tape,h.output,h.size,fun k a _=>h.block k a⟩
theorem VJ (b sz:Nat) (rest:ByteArray) (w:World) (h:JZ w b rest) (k:sz≤rest.size) (g:0<sz) (j:sz≤8) :
  Calls prog 97 #[aG (U ⟨b,0,C⟩),I Y sz] w fun e w'=>e=aO (E (rest.extract 0 sz))∧JZ w' b (rest.extract sz rest.size)∧w.grownBy w' (U b):=by
 obtain ⟨c0,c1,f0,f1⟩:=h;go_enter func97,ntmps97
 have l:(rest.extract 0 sz).size=sz:=by rw [RN];omega
 have c:b<w.heap.size:=Ep _ _ c0;go_wp2_with fail
 refine (clone_any A A).mono ?_;rintro e d ⟨rfl,a⟩;have d0:d.cell? ⟨b,0,C⟩=U (E rest):=(a.cell (p:=⟨b,0,C⟩) c).trans c0;have d1:d.cell? ⟨b,1,C⟩=U .nilIface:=(a.cell (p:=⟨b,1,C⟩) c).trans c1;have g0:d.frozen? ⟨b,0,C⟩=aK:=(a.frozen (p:=⟨b,0,C⟩) c).trans f0;have g1:d.frozen? ⟨b,1,C⟩=aK:=(a.frozen (p:=⟨b,1,C⟩) c).trans f1;go_wp2;go_ret;refine ⟨rfl,⟨?_,?_,?_,?_⟩,?_⟩
 ·rw [Ju _ _ _ d0]
 ·rw [DN _ _ _ _ (by intro f;injection f with _ i _;omega)];exact d1
 ·rw [Jt];exact g0
 ·rw [Jt];exact g1
 ·exact lU (grown_below a) 0 _
theorem OC (b sz:Nat) (rest:ByteArray) (w:World) (h:JZ w b rest) (g:rest.size<sz) :
  Calls prog 97 #[aG (U ⟨b,0,C⟩),I Y sz] w fun e w'=>e=aO (E ⟨#[]⟩)∧(∃ a,IQ w' b a rest)∧w.grownBy w' (U b):=by
 obtain ⟨c0,c1,f0,f1⟩:=h;have c:b<w.heap.size:=Ep _ _ c0;go_enter func97,ntmps97
 go_wp2;go_ret;refine ⟨rfl,⟨⟨w.heap.size,0,C⟩,⟨?_,?_,?_,?_⟩⟩,?_⟩
 ·rw [Jr _ _ ⟨b,0,C⟩ fZ,DN _ _ _ _ (by intro d;injection d with _ f _;omega)];exact c0
 ·rw [Jr _ _ ⟨b,1,C⟩ fZ,Ju _ _ _ c1]
 ·rw [World.frozen?_alloc_old _ _ ⟨b,0,C⟩ aQ,Jt];exact f0
 ·rw [World.frozen?_alloc_old _ _ ⟨b,1,C⟩ aQ,Jt];exact f1
 ·exact FZ (lU (lJ w (U b)) 1 _)
theorem TV (b sz:Nat) (a:Addr) (rest:ByteArray) (w:World) (h:IQ w b a rest) :
  Calls prog 97 #[aG (U ⟨b,0,C⟩),I Y sz] w fun e w'=>e=aO (E ⟨#[]⟩)∧IQ w' b a rest∧w.grownBy w' (U b):=by
 obtain ⟨c0,c1,f0,f1⟩:=h;go_enter func97,ntmps97
 go_wp2;go_ret;exact ⟨rfl,⟨c0,c1,f0,f1⟩,lJ _ _⟩
def Gp (l:List UInt8):Int:=l.foldl (fun n b=>n*256+(b.toNat:Int)) 0
theorem aa0 {l:List UInt8} {b:UInt8}:Gp (l ++ [b])=Gp l*256+(b.toNat:Int):=by simp [Gp]
theorem Zj (l:List UInt8):0≤Gp l∧Gp l<256 ^ l.length:=by
 have key:∀ (l:List UInt8) (n:Int) (m:Nat),0≤n→n<256 ^ m→0≤l.foldl (fun n b=>n*256+(b.toNat:Int)) n∧l.foldl (fun n b=>n*256+(b.toNat:Int)) n<256 ^ (m+l.length):=by
  intro l;induction l with
  | nil=>intro n m a c;exact ⟨a,fZ⟩
  | cons b r ih =>
   intro n m a c;have d:b.toNat<256:=b.toNat_lt;have:=ih (n*256+(b.toNat:Int)) (m+1) A (by rw [Int.pow_succ];omega);simpa [Nat.add_assoc,Nat.add_comm 1] using this
 have:=key l 0 0 A D;rw [ny] at this;exact this
theorem Ve {n:Int} {b:UInt8} (e:0≤n) (f:n<16777216):bits BinOp.or IntKind.i64 (n*256) (wrap64 (b.toNat:Int))=n*256+(b.toNat:Int):=by
 have g:b.toNat<256:=b.toNat_lt;obtain ⟨m,rfl⟩:∃ m:Nat,n=m:=⟨n.toNat,A⟩
 have hw:wrap64 (b.toNat:Int)=(b.toNat:Int):=by unfold wrap64;omega
 rw [hw,show (m:Int)*256=((m*256:Nat):Int) by omega];have a:(BitVec.ofInt 64 ((m*256:Nat):Int)).toNat=m*256:=by
  rw [BitVec.ofInt_natCast,BitVec.toNat_ofNat];exact RI A
 have c:(BitVec.ofInt 64 (b.toNat:Int)).toNat=b.toNat:=by
  rw [BitVec.ofInt_natCast,BitVec.toNat_ofNat];exact RI A
 show IntKind.i64.wrap ((BitVec.ofInt 64 ((m*256:Nat):Int) ||| BitVec.ofInt 64 (b.toNat:Int)).toNat:Int)=_;rw [BitVec.toNat_or,a,c];have d:m*256 ||| b.toNat=m*256+b.toNat:=by
  have:=Nat.two_pow_add_eq_or_of_lt (i:=8) (b:=b.toNat) A m;rw [Nat.mul_comm];simpa using this.symm
 rw [d,IntKind.wrap_i64];omega
theorem YL (b sz:Nat) (rest:ByteArray) (w:World) (h:JZ w b rest) (L:sz≤rest.size) (q:0<sz) (M:sz≤4) :
  Calls prog 96 #[aG (U ⟨b,0,C⟩),I Y sz] w fun e w'=>e=aO (I Y (Gp (rest.extract 0 sz).data.toList))∧JZ w' b (rest.extract sz rest.size)∧w.grownBy w' (U b):=by
 have l:(rest.extract 0 sz).size=sz:=by rw [RN];omega
 go_enter func96,ntmps96
 go_wp2_with fail
 refine (VJ b sz rest _ h L q A).mono ?_;rintro e R ⟨rfl,J,t⟩;obtain ⟨s, d⟩ := kC (rest.extract 0 sz);rw [← d] at l ⊢;have p:=hid d;clear d;go_wp2;go_loop [5,7] (fun v i=>∃ k:Nat,k≤sz∧i=I Y k∧∃ n:Int,v=I Y n∧n=Gp (s.data.toList.take k)) (fun _ i=>sz - (intOf i).toNat)
 case atStart=>exact ⟨0,lG _,rfl,0,rfl,rfl⟩
 case round =>
  obtain ⟨k,P,rfl,n,rfl,c⟩:=hrel;have a:=Zj (s.data.toList.take k);rw [← c] at a;have f:=hid c;clear c;by_cases Q:k<sz
  ·have g:(s.data.toList.take k).length≤3:=by rw [qI];omega
   have z:=a.1;have H:n<16777216:=by
    refine Int.lt_of_lt_of_le a.2 ?_;have r:∀ j:Nat,j≤3→(256:Int) ^ j≤16777216:=fun j N=>by
     rcases (show j=0∨j=1∨j=2∨j=3 by omega) with rfl | rfl | rfl | rfl <;> decide
    exact r _ g
   have u:k<s.size:=A;have o:Hid (Gp (s.data.toList.take (k+1))=Gp (s.data.toList.take k)*256+(s[k].toNat:Int)):=by rw [take_snoc s k u];exact aa0
   clear a g;go_wp2;go_round
   case rel=>exact ⟨k+1,A,aW,_,rfl,by rw [Ve z H,o.out,← f.out]⟩
   case measure=>simp [intOf];omega
  ·obtain rfl:k=sz:=by omega
   go_wp2;go_ret;exact ⟨MG (by rw [f.out,pF (by rw [nZ];exact Nat.le_of_eq l),p.out];simp),J,t⟩
theorem Uy (b sz:Nat) (rest:ByteArray) (w:World) (h:JZ w b rest) (g:rest.size<sz) :
  Calls prog 96 #[aG (U ⟨b,0,C⟩),I Y sz] w fun e w'=>e=aO (I Y 0)∧(∃ a,IQ w' b a rest)∧w.grownBy w' (U b):=by
 go_enter func96,ntmps96
 go_wp2_with fail
 refine (OC b sz rest _ h g).mono ?_;rintro e j ⟨rfl,c,d⟩;have f:=hid c;clear c;go_wp2;go_loop [5,7] (fun v i=>v=I Y 0∧i=I Y 0) (fun _ _=>0)
 case atStart=>exact ⟨rfl,rfl⟩
 case round =>
  obtain ⟨rfl,rfl⟩:=hrel;go_wp2;go_ret;exact ⟨rfl,f.out,d⟩
theorem XB (b sz:Nat) (a:Addr) (rest:ByteArray) (w:World) (h:IQ w b a rest) :
  Calls prog 96 #[aG (U ⟨b,0,C⟩),I Y sz] w fun e w'=>e=aO (I Y 0)∧IQ w' b a rest∧w.grownBy w' (U b):=by
 go_enter func96,ntmps96
 go_wp2_with fail
 refine (TV b sz a rest _ h).mono ?_;rintro e f ⟨rfl,d,c⟩;go_wp2;go_loop [5,7] (fun v i=>v=I Y 0∧i=I Y 0) (fun _ _=>0)
 case atStart=>exact ⟨rfl,rfl⟩
 case round =>
  obtain ⟨rfl,rfl⟩:=hrel;go_wp2;go_ret;exact ⟨rfl,d,c⟩
theorem adl (b:Nat) (rest:ByteArray) (w:World) (h:JZ w b rest) (a:rest.size=0) :
  Calls prog 98 #[aG (U ⟨b,0,C⟩)] w fun e w'=>e=aO .nilIface∧w.grownBy w' (U b):=by
 obtain ⟨c0,c1,f0,f1⟩:=h;have he:=oP a;go_enter func98,ntmps98
 go_wp2;go_ret;exact ⟨rfl,lJ _ _⟩
theorem aaQ (b:Nat) (rest:ByteArray) (w:World) (h:JZ w b rest) (c:¬ rest.size=0) :
  Calls prog 98 #[aG (U ⟨b,0,C⟩)] w fun e w'=>(∃ a,e=aO (.iface 170 (aG (U a))))∧w.grownBy w' (U b):=by
 obtain ⟨c0,c1,f0,f1⟩:=h;have he:=oQ c;have d:b<w.heap.size:=Ep _ _ c0;go_enter func98,ntmps98
 go_wp2;go_ret;exact ⟨⟨_,rfl⟩,FZ (lU (lJ w (U b)) 1 _)⟩
theorem ace (b:Nat) (a:Addr) (rest:ByteArray) (w:World) (h:IQ w b a rest) :
  Calls prog 98 #[aG (U ⟨b,0,C⟩)] w fun e w'=>e=aO (.iface 170 (aG (U a)))∧w.grownBy w' (U b):=by
 obtain ⟨c0,c1,f0,f1⟩:=h;go_enter func98,ntmps98
 go_wp2;go_ret;exact ⟨rfl,lJ _ _⟩
def Pv (w:World) (b:Nat) (l:List UInt8):Prop:=∃ rest:ByteArray,rest.data.toList=l∧JZ w b rest
theorem ext_list (s:ByteArray) (i j:Nat):(s.extract i j).data.toList=(s.data.toList.take j).drop i:=by simp [List.drop_take,ByteArray.data_extract]
theorem Pv.block {l:List UInt8} (h:Pv w b l) (c:w'.heap[b]?=w.heap[b]?):Pv w' b l:=by
 obtain ⟨rest,d,c0,c1,f0,f1⟩:=h;exact ⟨rest,d,(mV (w:=w) (a:=⟨b,0,C⟩) c).trans c0,(mV (w:=w) (a:=⟨b,1,C⟩) c).trans c1,(Jw (w:=w) (a:=⟨b,0,C⟩) c).trans f0,(Jw (w:=w) (a:=⟨b,1,C⟩) c).trans f1⟩
def Vk (w:World) (b:Nat):Prop:=∃ a rest,IQ w b a rest
theorem Vk.block (h:Vk w b) (c:w'.heap[b]?=w.heap[b]?):Vk w' b:=by
 obtain ⟨a,rest,c0,c1,f0,f1⟩:=h;exact ⟨a,rest,(mV (w:=w) (a:=⟨b,0,C⟩) c).trans c0,(mV (w:=w) (a:=⟨b,1,C⟩) c).trans c1,(Jw (w:=w) (a:=⟨b,0,C⟩) c).trans f0,(Jw (w:=w) (a:=⟨b,1,C⟩) c).trans f1⟩
theorem aar (b sz:Nat) (l:List UInt8) (w:World) (h:Pv w b l) (j:sz≤l.length) (c:0<sz) (d:sz≤4) :
  Calls prog 96 #[aG (U ⟨b,0,C⟩),I Y sz] w fun e w'=>e=aO (I Y (Gp (l.take sz)))∧Pv w' b (l.drop sz)∧w.grownBy w' (U b):=by
 obtain ⟨rest,a,h⟩:=h;have i:rest.size=l.length:=by rw [← a,nZ];rfl
 refine (YL b sz rest w h A c d).mono ?_;rintro e w' ⟨rfl,g,f⟩;refine ⟨MG (by rw [ext_list,a];simp),⟨_,?_,g⟩,f⟩;rw [ext_list,a,i,LK]
theorem acE (b sz:Nat) (l:List UInt8) (w:World) (h:Pv w b l) (j:sz≤l.length) (c:0<sz) (d:sz≤8) :
  Calls prog 97 #[aG (U ⟨b,0,C⟩),I Y sz] w fun e w'=>e=aO (E ⟨(l.take sz).toArray⟩)∧Pv w' b (l.drop sz)∧w.grownBy w' (U b):=by
 obtain ⟨rest,a,h⟩:=h;have i:rest.size=l.length:=by rw [← a,nZ];rfl
 refine (VJ b sz rest w h A c d).mono ?_;rintro e w' ⟨rfl,g,f⟩;refine ⟨MF ?_,⟨_,?_,g⟩,f⟩
 ·rw [← a]
  have:=ext_list rest 0 sz;rw [Oe] at this;rw [← this]
 ·rw [ext_list,a,i,LK]
theorem acD (b sz:Nat) (l:List UInt8) (w:World) (h:Pv w b l) (i:l.length<sz) :
  Calls prog 97 #[aG (U ⟨b,0,C⟩),I Y sz] w fun e w'=>e=aO (E ⟨#[]⟩)∧Vk w' b∧w.grownBy w' (U b):=by
 obtain ⟨rest,d,h⟩:=h;have g:rest.size=l.length:=by rw [← d,nZ];rfl
 refine (OC b sz rest w h A).mono ?_;rintro e w' ⟨rfl,⟨a,f⟩,c⟩;exact ⟨rfl,⟨a,rest,f⟩,c⟩
theorem acB (b sz:Nat) (w:World) (h:Vk w b) :
  Calls prog 97 #[aG (U ⟨b,0,C⟩),I Y sz] w fun e w'=>e=aO (E ⟨#[]⟩)∧Vk w' b∧w.grownBy w' (U b):=by
 obtain ⟨a,rest,h⟩:=h;refine (TV b sz a rest w h).mono ?_;rintro e w' ⟨rfl,d,c⟩;exact ⟨rfl,⟨a,rest,d⟩,c⟩
abbrev RQ:=List UInt8 × Bool
def yX (sz:Nat) (q:RQ):Bool:=q.2 && decide (sz≤q.1.length)
def II (sz:Nat) (q:RQ):Int:=if yX sz q=aN then Gp (q.1.take sz) else 0
def Kt (sz:Nat) (q:RQ):ByteArray:=if yX sz q=aN then ⟨(q.1.take sz).toArray⟩ else ⟨#[]⟩
def rdA (sz:Nat) (q:RQ):RQ:=if yX sz q=aN then (q.1.drop sz,aN) else (q.1,aK)
def KD (w:World) (b:Nat) (q:RQ):Prop:=(q.2=aN∧Pv w b q.1)∨(q.2=aK∧Vk w b)
theorem KD.block {q:RQ} (h:KD w b q) (c:w'.heap[b]?=w.heap[b]?):KD w' b q:=by
 rcases h with ⟨h,a⟩ | ⟨h,a⟩
 ·exact .inl ⟨h,a.block c⟩
 ·exact .inr ⟨h,a.block c⟩
theorem KD.store {P j:Nat} {q:RQ} {u:Value} (h:KD w (P+1) q):KD (w.setCell ⟨P+1+1,j,C⟩ u) (P+1) q:=h.block (nK _ _ _ _ aT)
theorem NJ (b sz:Nat) (q:RQ) (h:KD w b q) (g:0<sz) (i:sz≤4) :
  Calls prog 96 #[aG (U ⟨b,0,C⟩),I Y sz] w fun e w'=>e=aO (I Y (II sz q))∧KD w' b (rdA sz q)∧w.grownBy w' (U b):=by
 obtain ⟨l,r⟩:=q;rcases h with ⟨c,h⟩ | ⟨c,a,rest,h⟩
 ·dsimp only at c h
  subst c;by_cases f:sz≤l.length
  ·refine (aar b sz l w h f g i).mono ?_
   rintro e w' ⟨rfl,c,d⟩;exact ⟨by simp [II,yX,f],by simp [rdA,yX,f];exact .inl ⟨rfl,c⟩,d⟩
  ·obtain ⟨rest,j,h⟩:=h
   have k:rest.size=l.length:=by rw [← j,nZ];rfl
   refine (Uy b sz rest w h A).mono ?_;rintro e w' ⟨rfl,⟨a,c⟩,d⟩;exact ⟨by simp [II,yX,f],by simp [rdA,yX,f];exact .inr ⟨rfl,a,rest,c⟩,d⟩
 ·dsimp only at c
  subst c;refine (XB b sz a rest w h).mono ?_;rintro e w' ⟨rfl,c,d⟩;exact ⟨by simp [II,yX],by simp [rdA,yX];exact .inr ⟨rfl,a,rest,c⟩,d⟩
theorem acC (b sz:Nat) (q:RQ) (h:KD w b q) (f:0<sz) (g:sz≤8) :
  Calls prog 97 #[aG (U ⟨b,0,C⟩),I Y sz] w fun e w'=>e=aO (E (Kt sz q))∧KD w' b (rdA sz q)∧w.grownBy w' (U b):=by
 obtain ⟨l,r⟩:=q;rcases h with ⟨a,h⟩ | ⟨a,h⟩
 ·dsimp only at a h
  subst a;by_cases d:sz≤l.length
  ·refine (acE b sz l w h d f g).mono ?_
   rintro e w' ⟨rfl,a,c⟩;exact ⟨by simp [Kt,yX,d],by simp [rdA,yX,d];exact .inl ⟨rfl,a⟩,c⟩
  ·refine (acD b sz l w h A).mono ?_
   rintro e w' ⟨rfl,a,c⟩;exact ⟨by simp [Kt,yX,d],by simp [rdA,yX,d];exact .inr ⟨rfl,a⟩,c⟩
 ·dsimp only at a h
  subst a;refine (acB b sz w h).mono ?_;rintro e w' ⟨rfl,a,c⟩;exact ⟨by simp [Kt,yX],by simp [rdA,yX];exact .inr ⟨rfl,a⟩,c⟩
theorem abp (b:Nat) {q:RQ} (h:KD w b q) :
  Calls prog 98 #[aG (U ⟨b,0,C⟩)] w fun e w'=>((q=([],aN)∧e=aO .nilIface)∨(¬ q=([],aN)∧∃ a,e=aO (.iface 170 (aG (U a)))))∧w.grownBy w' (U b):=by
 obtain ⟨l,r⟩:=q;rcases h with ⟨f,rest,i,h⟩ | ⟨f,a,rest,h⟩
 ·dsimp only at f i
  subst f;have j:rest.size=l.length:=by rw [← i,nZ];rfl
  by_cases g:rest.size=0
  ·refine (adl b rest w h g).mono ?_
   rintro e w' ⟨rfl,d⟩;exact ⟨.inl ⟨by rw [oH (l:=l) A],rfl⟩,d⟩
  ·refine (aaQ b rest w h g).mono ?_
   rintro e w' ⟨⟨a,rfl⟩,d⟩;exact ⟨.inr ⟨fun c=>(by injection c with c _;rw [c] at j;exact g j),a,rfl⟩,d⟩
 ·dsimp only at f
  subst f;refine (ace b a rest w h).mono ?_;rintro e w' ⟨rfl,d⟩;exact ⟨.inr ⟨fun c=>(by injection c with _ c;cases c),a,rfl⟩,d⟩
theorem SB {q:RQ} {l:List UInt8} (h:rdA sz q=(l,aN)):∃ a,q=(a,aN)∧sz≤a.length∧l=a.drop sz∧II sz q=Gp (a.take sz)∧Kt sz q=⟨(a.take sz).toArray⟩:=by
 obtain ⟨a,r⟩:=q;unfold rdA at h;by_cases c:yX sz (a,r)=aN
 ·rw [if_pos c] at h
  unfold yX at c;simp only [Bool.and_eq_true,decide_eq_true_eq] at c;obtain ⟨rfl,d⟩:=c;injection h with e _;exact ⟨a,rfl,d,e.symm,by simp [II,yX,d],by simp [Kt,yX,d]⟩
 ·rw [if_neg c] at h
  injection h with _ f;cases f
theorem OH {l:List UInt8} (h:sz≤l.length):rdA sz (l,aN)=(l.drop sz,aN)∧II sz (l,aN)=Gp (l.take sz)∧Kt sz (l,aN)=⟨(l.take sz).toArray⟩:=by
 simp [rdA,II,Kt,yX,h]
def nX (b c:UInt8):Int:=(b.toNat:Int)*256+(c.toNat:Int)
theorem acz (b:UInt8):UInt8.ofNat (((b.toNat:Int) % 256).toNat)=b:=by
 have:b.toNat<256:=b.toNat_lt;rw [show ((b.toNat:Int) % 256).toNat=b.toNat by omega,UInt8.ofNat_toNat]
theorem U4 (b0 b1 b2 b3:UInt8) (R:List UInt8) (x:ByteArray) (d:x.data.toList=R):D7 (b0.toNat:Int) (nX b1 b2) (b3.toNat:Int) x=b0 :: b1 :: b2 :: b3 :: R:=by
 have e:b1.toNat<256:=b1.toNat_lt;have f:b2.toNat<256:=b2.toNat_lt;have a:nX b1 b2 / 256 % 256=(b1.toNat:Int) % 256:=by unfold nX;omega
 have c:nX b1 b2 % 256=(b2.toNat:Int) % 256:=by unfold nX;omega
 unfold D7 toB EJ;rw [a,c,d];simp only [Js,List.map_nil,acz];rfl
theorem U3 {k d:Int} {R:List UInt8} (j:vE k e d x.size) (h:D7 k e d x=b0 :: b1 :: b2 :: b3 :: R):k=b0.toNat∧e=nX b1 b2∧d=b3.toNat∧x.data.toList=R:=by
 have key:∀ (z:Int) (b:UInt8),0≤z→z<256→UInt8.ofNat z.toNat=b→z=b.toNat:=fun z b a c he=>by
  rw [← he,UInt8.toNat_ofNat_of_lt' jG];omega
 unfold D7 toB EJ at h;simp only [Js,List.map_nil,Eo,oG,Oc] at h;obtain ⟨a,c,f,g,i⟩:=h;have a:=key _ _ A A a;have c:=key _ _ A A c;have f:=key _ _ A A f;have g:=key _ _ A A g;unfold vE at j;unfold nX;exact ⟨A,A,A,i⟩
def qh (s:ByteArray) (k e d:Int) (x:ByteArray):Prop:=vE k e d x.size∧s=lS k e d x
def Vl (s:ByteArray):Prop:=¬ ∃ (k e d:Int) (x:ByteArray),qh s k e d x
theorem qh.list {k d:Int} (h:qh s k e d x):D7 k e d x=s.data.toList:=by rw [h.2];simp [lS]
theorem qh.mk' {k d:Int} (a:vE k e d x.size) (h:D7 k e d x=s.data.toList):qh s k e d x:=⟨a,Io (by rw [← h];simp [lS])⟩
theorem TY (L:List UInt8) (h:4≤L.length):∃ b0 b1 b2 b3 R,L=b0 :: b1 :: b2 :: b3 :: R:=by
 match L,h with
 | b0 :: b1 :: b2 :: b3 :: R,_=>exact ⟨b0,b1,b2,b3,R,rfl⟩
theorem qh.split {k d:Int} (h:qh s k e d x):∃ b0 b1 b2 b3,s.data.toList=b0 :: b1 :: b2 :: b3 :: x.data.toList∧k=b0.toNat∧e=nX b1 b2∧d=b3.toNat:=by
 have a:=h.list;obtain ⟨b0,b1,b2,b3,R,c⟩:=TY s.data.toList (by rw [← a,DI];omega);rw [c] at a;obtain ⟨f,g,i,j⟩:=U3 h.1 a;exact ⟨b0,b1,b2,b3,by rw [c,j],f,g,i⟩
theorem qh.uniq {k d k' c d':Int} {f:ByteArray} (h:qh s k e d x) (o:qh s k' c d' f):k=k'∧e=c∧d=d'∧x=f:=by
 obtain ⟨b0,b1,b2,b3,p,rfl,rfl,rfl⟩:=h.split;obtain ⟨c0,c1,c2,c3,a,rfl,rfl,rfl⟩:=o.split;rw [p] at a;injection a with g a;injection a with i a;injection a with j a;injection a with l a;subst g i j l;exact ⟨rfl,rfl,rfl,Io a⟩
def q0 (s:ByteArray):RQ:=(s.data.toList,aN)
def q1 (s:ByteArray):RQ:=rdA 1 (q0 s)
def q2 (s:ByteArray):RQ:=rdA 2 (q1 s)
def q3 (s:ByteArray):RQ:=rdA 1 (q2 s)
def n0 (s:ByteArray):Int:=II 1 (q0 s)
def n1 (s:ByteArray):Int:=II 2 (q1 s)
def n2 (s:ByteArray):Int:=II 1 (q2 s)
theorem Wq {R:List UInt8} (h:s.data.toList=b0 :: b1 :: b2 :: b3 :: R):n0 s=b0.toNat∧n1 s=nX b1 b2∧n2 s=b3.toNat∧q3 s=(R,aN):=by
 have a:q0 s=(b0 :: b1 :: b2 :: b3 :: R,aN):=by rw [q0,h]
 obtain ⟨a1,v1,_⟩:=OH (sz:=1) (l:=b0 :: b1 :: b2 :: b3 :: R) D;obtain ⟨a2,v2,_⟩:=OH (sz:=2) (l:=b1 :: b2 :: b3 :: R) D;obtain ⟨a3,v3,_⟩:=OH (sz:=1) (l:=b3 :: R) D;have c:q1 s=(b1 :: b2 :: b3 :: R,aN):=by rw [q1,a,a1];rfl
 have d:q2 s=(b3 :: R,aN):=by rw [q2,c,a2];rfl
 have e:q3 s=(R,aN):=by rw [q3,d,a3];rfl
 refine ⟨?_,?_,?_,e⟩
 ·rw [n0,a,v1];simp [Gp]
 ·rw [n1,c,v2];simp [Gp,nX]
 ·rw [n2,d,v3];simp [Gp]
theorem Wu {R:List UInt8} (h:q3 s=(R,aN)):∃ b0 b1 b2 b3,s.data.toList=b0 :: b1 :: b2 :: b3 :: R∧n0 s=b0.toNat∧n1 s=nX b1 b2∧n2 s=b3.toNat:=by
 obtain ⟨o,e,g2,p,_⟩:=SB (q:=q2 s) h;obtain ⟨l,d,g1,j,_⟩:=SB (q:=q1 s) e;obtain ⟨g,a,g0,i,_⟩:=SB (q:=q0 s) d;subst i;subst j;have f:g=s.data.toList:=by unfold q0 at a;injection a with a _;exact a.symm
 simp only [Jy] at g1 g2;obtain ⟨b0,b1,b2,b3,k,c⟩:=TY s.data.toList (by rw [← f];omega);obtain ⟨v0,v1,v2,v3⟩:=Wq c;rw [h] at v3;injection v3 with v3 _;subst v3;exact ⟨b0,b1,b2,b3,c,v0,v1,v2⟩
theorem Wp {k d:Int} (h:qh s k e d x):n0 s=k∧n1 s=e∧n2 s=d∧q3 s=(x.data.toList,aN):=by
 obtain ⟨b0,b1,b2,b3,a,rfl,rfl,rfl⟩:=h.split;exact Wq a
theorem Zv (h:rdA 8 (q3 s)=([],aN)) (j:vE (n0 s) (n1 s) (n2 s) (Kt 8 (q3 s)).size):qh s (n0 s) (n1 s) (n2 s) (Kt 8 (q3 s)):=by
 obtain ⟨R,f,g8,i,_,g⟩:=SB h;obtain ⟨b0,b1,b2,b3,e,a,c,d⟩:=Wu f;refine qh.mk' j ?_;rw [g,a,c,d,e];refine U4 b0 b1 b2 b3 R _ ?_;have:R.length≤8:=by have:=congrArg List.length i;rw [Jy] at this;simp at this;omega
 simp [List.take_of_length_le this]
theorem Yi (r:n0 s=2) (h:¬ (rdA 8 (q3 s)=([],aN)∧vE (n0 s) (n1 s) (n2 s) (Kt 8 (q3 s)).size)):Vl s:=by
 rintro ⟨k,e,d,x,c⟩;obtain ⟨g,i,j,f⟩:=Wp c;have q:x.size=8:=by have:=c.1;unfold vE at this;omega
 have o:x.data.toList.length=8:=by rw [nZ];exact q
 obtain ⟨a,_,b⟩:=OH (sz:=8) (l:=x.data.toList) A;have p:(⟨(x.data.toList.take 8).toArray⟩:ByteArray)=x:=Io (by simp [List.take_of_length_le (Nat.le_of_eq o)]);refine h ⟨?_,?_⟩
 ·rw [f,a,LM A]
 ·rw [g,i,j,f,b,p];exact c.1
theorem aap (h:q3 s=([],aN)) (f:vE (n0 s) (n1 s) (n2 s) (⟨#[]⟩:ByteArray).size):qh s (n0 s) (n1 s) (n2 s) ⟨#[]⟩:=by
 obtain ⟨b0,b1,b2,b3,e,a,c,d⟩:=Wu h;refine qh.mk' f ?_;rw [a,c,d,e];exact U4 b0 b1 b2 b3 [] _ rfl
theorem YK (p:¬ n0 s=2) (h:¬ (q3 s=([],aN)∧vE (n0 s) (n1 s) (n2 s) (⟨#[]⟩:ByteArray).size)):Vl s:=by
 rintro ⟨k,e,d,x,a⟩;obtain ⟨c,f,g,i⟩:=Wp a;have o:x.size=0:=by have:=a.1;unfold vE at this;omega
 have j:x=⟨#[]⟩:=Io (by rw [oH (l:=x.data.toList) (by rw [nZ];exact o)]);subst j;exact h ⟨i,by rw [c,f,g];exact a.1⟩
def Qi (a:Ending) (s:ByteArray):Prop :=
 (a=aO (.tuple #[.agg EX,.bool aK])∧Vl s) ∨
 (∃ (k e d:Int) (x:ByteArray),a=aO (.tuple #[.agg #[I Y k,I Y e,I Y d,E x],.bool aN])∧qh s k e d x)
end Go.Proofs.YtfkkipgcfoegmaaGreat
