
import Derived.Test.YtaeomkpofcbmiaaGreatDoorQBkd
import Derived.Test.YtaeomkpofcbmiaaGreatDoorQBjm
namespace Go.Proofs.YtaeomkpofcbmiaaGreatDoor
open Go.RowKit
structure TkS (w0 : World) (B Q : Nat) (ex : List Value) (d : BD) (h : BH) (wr : World) : Prop where
 bo : BossO wr B d h
 D : CF wr Q (bvs d h ++ ex)
 hb : Below B w0 wr
 nr : ∀ r ∈ rowsB d h,r ≠ some Q
 q : B ≤ Q ∧ Q < wr.heap.size ∧ w0.heap.size ≤ B
theorem TkS.below {w0 wr w' : World} {B Q : Nat} {ex : List Value} {d : BD} {h : BH} (s : TkS w0 B Q ex d h wr) (hb : Below wr.heap.size wr w') : TkS w0 B Q ex d h w' :=
 have hq:=s.q
 ⟨s.bo.below hb,s.D.block (hb.block _ hq.2.1),s.hb.trans (hb.mono (by omega)),s.nr,⟨hq.1,Nat.lt_of_lt_of_le hq.2.1 hb.size,hq.2.2⟩⟩
def rowR (d : BD) (h : BH) : Option Nat:=(Value.slice h.ar d.R.length h.cr).ownBlock
def row2 (d : BD) (h : BH) : Option Nat:=(Value.slice h.a2 d.L2.length h.c2).ownBlock
def rowO (d : BD) (h : BH) : Option Nat:=(Value.slice h.ao d.O.length h.co).ownBlock
theorem rowR_mem (d : BD) (h : BH) : rowR d h ∈ rowsB d h:=by unfold rowR rowsB;simp
theorem row2_mem (d : BD) (h : BH) : row2 d h ∈ rowsB d h:=by unfold row2 rowsB;simp
theorem rowO_mem (d : BD) (h : BH) : rowO d h ∈ rowsB d h:=by unfold rowO rowsB;simp
theorem BossO.updR {w w' : World} {B : Nat} {d : BD} {h : BH} {R : List ByteArray} (hO : BossO w B d h) (hl : R.length = d.R.length) (hg : w.grownBy w' (rowR d h)) (hR : Own B w' 1 (.slice h.ar d.R.length h.cr) d.R.length (R.map Value.string)) : BossO w' B ⟨d.wk,d.up,d.now,d.sn,d.ep,d.gv,d.L1,d.L2,R,d.J,d.S,d.O⟩ h:=by
 have hd:=hO.dis
 simp only [List.pairwise_cons,List.mem_cons,List.not_mem_nil,or_false,forall_eq_or_imp,forall_eq,List.Pairwise.nil,and_true,false_implies,implies_true] at hd
 obtain ⟨⟨d01,d02,d03,d04,d05⟩,⟨d12,d13,d14,d15⟩,⟨d23,d24,d25⟩,⟨d34,d35⟩,d45⟩:=hd
 refine ⟨hO.o0.grown hg d02,hO.o1.grown hg d12,?_,hO.o3.grown hg d23.symm,hO.o4.grown hg d24.symm,hO.o5.grown hg d25.symm,?_⟩
 ·show Own B w' 1 (.slice h.ar R.length h.cr) R.length (R.map Value.string)
  rw [hl];exact hR
 ·have:=hO.dis
  show List.Pairwise Dj [_,_,(Value.slice h.ar R.length h.cr).ownBlock,_,_,_]
  rw [hl];exact this
theorem BossO.app2 {w w9 : World} {B : Nat} {d : BD} {h : BH} {s : ByteArray} {ob : Obj} {a9 : Option Addr} {c9 : Nat} (hO : BossO w B d h) (ho : Own B w9 1 (.slice a9 (d.L2.length + 1) c9) (d.L2.length + 1) (d.L2.map Value.string ++ [.string s])) (hg : (w.alloc ob).grownBy w9 (row2 d h)) (hbk : (Value.slice a9 (d.L2.length + 1) c9).ownBlock = row2 d h ∨ (Value.slice a9 (d.L2.length + 1) c9).ownBlock = some (w.alloc ob).heap.size) :
  BossO w9 B ⟨d.wk,d.up,d.now,d.sn,d.ep,d.gv,d.L1,d.L2 ++ [s],d.R,d.J,d.S,d.O⟩ ⟨h.a1,a9,h.ar,h.aj,h.az,h.ao,h.c1,c9,h.cr,h.cj,h.cs,h.co⟩:=by
 have hd:=hO.dis
 simp only [List.pairwise_cons,List.mem_cons,List.not_mem_nil,or_false,forall_eq_or_imp,forall_eq,List.Pairwise.nil,and_true,false_implies,implies_true] at hd
 obtain ⟨⟨d01,d02,d03,d04,d05⟩,⟨d12,d13,d14,d15⟩,⟨d23,d24,d25⟩,⟨d34,d35⟩,d45⟩:=hd
 have hb : Below w.heap.size w (w.alloc ob):=(Below.refl _ _).alloc (Nat.le_refl _) _
 have hz : (w.alloc ob).heap.size = w.heap.size + 1:=by simp
 have key : ∀ x : Option Nat,Dj x (row2 d h) → (∀ q,x = some q → q < w.heap.size) → Dj x (Value.slice a9 (d.L2.length + 1) c9).ownBlock:=fun x h1 h2=>by
  rcases hbk with e | e
  ·rw [e];exact h1
  ·exact Dn.later h2 (fun q hq=>by rw [e] at hq;injection hq with hq;omega)
 refine ⟨(hO.o0.below hb (Nat.le_refl _)).grown hg d01,?_,(hO.o2.below hb (Nat.le_refl _)).grown hg d12.symm,(hO.o3.below hb (Nat.le_refl _)).grown hg d13.symm,(hO.o4.below hb (Nat.le_refl _)).grown hg d14.symm,(hO.o5.below hb (Nat.le_refl _)).grown hg d15.symm,?_⟩
 ·show Own B w9 1 (.slice a9 (d.L2 ++ [s]).length c9) (d.L2 ++ [s]).length ((d.L2 ++ [s]).map Value.string)
  rw [List.length_append,List.length_singleton,List.map_append];exact ho
 ·show List.Pairwise Dj [_,(Value.slice a9 (d.L2 ++ [s]).length c9).ownBlock,_,_,_,_]
  rw [List.length_append,List.length_singleton]
  simp only [List.pairwise_cons,List.mem_cons,List.not_mem_nil,or_false,forall_eq_or_imp,forall_eq,List.Pairwise.nil,and_true,false_implies,implies_true]
  exact ⟨⟨key _ d01 hO.o0.row_hi,d02,d03,d04,d05⟩,⟨(key _ d12.symm hO.o2.row_hi).symm,(key _ d13.symm hO.o3.row_hi).symm,(key _ d14.symm hO.o4.row_hi).symm,(key _ d15.symm hO.o5.row_hi).symm⟩,⟨d23,d24,d25⟩,⟨d34,d35⟩,d45⟩
theorem c3_snocT (O : List Tr) (x : Tr) : c3 (O ++ [x]) = c3 O ++ [.int .i64 x.1,.int .i64 x.2.1,.int .i64 x.2.2]:=by
 refine (c3_of (by simp [c3_length];omega) fun j hj=>?_).symm
 rw [List.length_append,List.length_singleton] at hj
 by_cases e : j < O.length
 ·have g0:=c3_get O j 0 e (by omega)
  have g1:=c3_get O j 1 e (by omega)
  have g2:=c3_get O j 2 e (by omega)
  have ht : t3 (O ++ [x]) j = t3 O j:=by unfold t3;simp [List.getD,List.getElem?_append_left e]
  rw [ht,List.getElem?_append_left (by rw [c3_length];omega),List.getElem?_append_left (by rw [c3_length];omega),List.getElem?_append_left (by rw [c3_length];omega)]
  exact ⟨g0,g1,g2⟩
 ·obtain rfl : j = O.length:=by omega
  have ht : t3 (O ++ [x]) O.length = x:=by unfold t3;simp [List.getD]
  rw [ht,List.getElem?_append_right (by rw [c3_length];omega),List.getElem?_append_right (by rw [c3_length];omega),List.getElem?_append_right (by rw [c3_length];omega),c3_length,show O.length * 3 - O.length * 3 = 0 by omega,show O.length * 3 + 1 - O.length * 3 = 1 by omega,show O.length * 3 + 2 - O.length * 3 = 2 by omega]
  exact ⟨rfl,rfl,rfl⟩
theorem BossO.appO {w w9 : World} {B : Nat} {d : BD} {h : BH} {x : Tr} {ob : Obj} {a9 : Option Addr} {c9 : Nat} (hO : BossO w B d h) (ho : Own B w9 3 (.slice a9 (d.O.length + 1) c9) (d.O.length + 1) (c3 d.O ++ [.int .i64 x.1,.int .i64 x.2.1,.int .i64 x.2.2])) (hg : (w.alloc ob).grownBy w9 (rowO d h)) (hbk : (Value.slice a9 (d.O.length + 1) c9).ownBlock = rowO d h ∨ (Value.slice a9 (d.O.length + 1) c9).ownBlock = some (w.alloc ob).heap.size) :
  BossO w9 B ⟨d.wk,d.up,d.now,d.sn,d.ep,d.gv,d.L1,d.L2,d.R,d.J,d.S,d.O ++ [x]⟩ ⟨h.a1,h.a2,h.ar,h.aj,h.az,a9,h.c1,h.c2,h.cr,h.cj,h.cs,c9⟩:=by
 have hd:=hO.dis
 simp only [List.pairwise_cons,List.mem_cons,List.not_mem_nil,or_false,forall_eq_or_imp,forall_eq,List.Pairwise.nil,and_true,false_implies,implies_true] at hd
 obtain ⟨⟨d01,d02,d03,d04,d05⟩,⟨d12,d13,d14,d15⟩,⟨d23,d24,d25⟩,⟨d34,d35⟩,d45⟩:=hd
 have hb : Below w.heap.size w (w.alloc ob):=(Below.refl _ _).alloc (Nat.le_refl _) _
 have hz : (w.alloc ob).heap.size = w.heap.size + 1:=by simp
 have key : ∀ x : Option Nat,Dj x (rowO d h) → (∀ q,x = some q → q < w.heap.size) → Dj x (Value.slice a9 (d.O.length + 1) c9).ownBlock:=fun x h1 h2=>by
  rcases hbk with e | e
  ·rw [e];exact h1
  ·exact Dn.later h2 (fun q hq=>by rw [e] at hq;injection hq with hq;omega)
 refine ⟨(hO.o0.below hb (Nat.le_refl _)).grown hg d05,(hO.o1.below hb (Nat.le_refl _)).grown hg d15,(hO.o2.below hb (Nat.le_refl _)).grown hg d25,(hO.o3.below hb (Nat.le_refl _)).grown hg d35,(hO.o4.below hb (Nat.le_refl _)).grown hg d45,?_,?_⟩
 ·show Own B w9 3 (.slice a9 (d.O ++ [x]).length c9) (d.O ++ [x]).length (c3 (d.O ++ [x]))
  rw [List.length_append,List.length_singleton,c3_snocT];exact ho
 ·show List.Pairwise Dj [_,_,_,_,_,(Value.slice a9 (d.O ++ [x]).length c9).ownBlock]
  rw [List.length_append,List.length_singleton]
  simp only [List.pairwise_cons,List.mem_cons,List.not_mem_nil,or_false,forall_eq_or_imp,forall_eq,List.Pairwise.nil,and_true,false_implies,implies_true]
  exact ⟨⟨d01,d02,d03,d04,key _ d05 hO.o0.row_hi⟩,⟨d12,d13,d14,key _ d15 hO.o1.row_hi⟩,⟨d23,d24,key _ d25 hO.o2.row_hi⟩,⟨d34,key _ d35 hO.o3.row_hi⟩,key _ d45 hO.o4.row_hi⟩
theorem TkS.upd {w0 wr w' : World} {B Q : Nat} {ex : List Value} {d d' : BD} {h : BH} {r : Option Nat} (s : TkS w0 B Q ex d h wr) (hr : r ∈ rowsB d h) (hg : wr.grownBy w' r) (hbo : BossO w' B d' h) (hv : bvs d' h = bvs d h) (hrows : rowsB d' h = rowsB d h) : TkS w0 B Q ex d' h w' :=
 have hq:=s.q
 ⟨hbo,by rw [hv];exact s.D.block (hg.block _ hq.2.1 (fun e=>s.nr r hr e.symm)),s.hb.grown hg (by omega) (fun q e=>(s.bo.lo r hr q e).1),by rw [hrows];exact s.nr,⟨hq.1,Nat.lt_of_lt_of_le hq.2.1 hg.size,hq.2.2⟩⟩
theorem TkS.setJ {w0 wr w' : World} {B Q : Nat} {ex : List Value} {d : BD} {h : BH} {J : List Tr} (s : TkS w0 B Q ex d h wr) (hl : J.length = d.J.length) (hg : wr.grownBy w' (rowJ d h)) (hJ : Own B w' 3 (.slice h.aj d.J.length h.cj) d.J.length (c3 J)) : TkS w0 B Q ex ⟨d.wk,d.up,d.now,d.sn,d.ep,d.gv,d.L1,d.L2,d.R,J,d.S,d.O⟩ h w' :=
 s.upd (rowJ_mem d h) hg (s.bo.updJ hl hg hJ) (by unfold bvs;simp only [hl]) (by unfold rowsB;simp only [hl])
theorem TkS.setR {w0 wr w' : World} {B Q : Nat} {ex : List Value} {d : BD} {h : BH} {R : List ByteArray} (s : TkS w0 B Q ex d h wr) (hl : R.length = d.R.length) (hg : wr.grownBy w' (rowR d h)) (hR : Own B w' 1 (.slice h.ar d.R.length h.cr) d.R.length (R.map Value.string)) : TkS w0 B Q ex ⟨d.wk,d.up,d.now,d.sn,d.ep,d.gv,d.L1,d.L2,R,d.J,d.S,d.O⟩ h w' :=
 s.upd (rowR_mem d h) hg (s.bo.updR hl hg hR) (by unfold bvs;simp only [hl]) (by unfold rowsB;simp only [hl])
theorem TkS.app2 {w0 wr w9 : World} {B Q : Nat} {ex : List Value} {d : BD} {h : BH} {s : ByteArray} {ob : Obj} {a9 : Option Addr} {c9 : Nat} (t : TkS w0 B Q ex d h wr) (ho : Own B w9 1 (.slice a9 (d.L2.length + 1) c9) (d.L2.length + 1) (d.L2.map Value.string ++ [.string s])) (hg : (wr.alloc ob).grownBy w9 (row2 d h)) (hbk : (Value.slice a9 (d.L2.length + 1) c9).ownBlock = row2 d h ∨ (Value.slice a9 (d.L2.length + 1) c9).ownBlock = some (wr.alloc ob).heap.size) :
  CF w9 Q (bvs d h ++ ex) ∧ TkS w0 B Q ex ⟨d.wk,d.up,d.now,d.sn,d.ep,d.gv,d.L1,d.L2 ++ [s],d.R,d.J,d.S,d.O⟩ ⟨h.a1,a9,h.ar,h.aj,h.az,h.ao,h.c1,c9,h.cr,h.cj,h.cs,h.co⟩ (w9.setCell ⟨Q,7,none⟩ (.slice a9 (d.L2.length + 1) c9)):=by
 have hq:=t.q
 have hb : Below wr.heap.size wr (wr.alloc ob):=(Below.refl _ _).alloc (Nat.le_refl _) _
 have hz : (wr.alloc ob).heap.size = wr.heap.size + 1:=by simp
 have hgz:=hg.size
 have hbo:=t.bo.app2 ho hg hbk
 have gs:=gset (World.grownBy.refl w9 (some Q)) 7 (.slice a9 (d.L2.length + 1) c9)
 have hD9:=(t.D.block (hb.block _ hq.2.1)).block (hg.block _ (by omega) (fun e=>t.nr _ (row2_mem d h) e.symm))
 have hB9:=(t.hb.trans (hb.mono (by omega))).grown hg (by omega) (fun q e=>(t.bo.lo _ (row2_mem d h) q e).1)
 have hnr : ∀ r ∈ rowsB ⟨d.wk,d.up,d.now,d.sn,d.ep,d.gv,d.L1,d.L2 ++ [s],d.R,d.J,d.S,d.O⟩ ⟨h.a1,a9,h.ar,h.aj,h.az,h.ao,h.c1,c9,h.cr,h.cj,h.cs,h.co⟩,r ≠ some Q:=fun r hr e=>by
  simp only [rowsB,List.mem_cons,List.not_mem_nil,or_false,List.length_append,List.length_singleton] at hr
  rcases hr with rfl | rfl | rfl | rfl | rfl | rfl
  ·exact t.nr _ (by simp [rowsB]) e
  ·rcases hbk with e2 | e2
   ·rw [e2] at e;exact t.nr _ (row2_mem d h) e
   ·rw [e2] at e;injection e with e;omega
  ·exact t.nr _ (by simp [rowsB]) e
  ·exact t.nr _ (by simp [rowsB]) e
  ·exact t.nr _ (by simp [rowsB]) e
  ·exact t.nr _ (by simp [rowsB]) e
 refine ⟨hD9,hbo.blk (fun r hr q e=>gs.block q (hbo.lo r hr q e).2 (fun e'=>hnr r hr (e.trans e'))),?_,hB9.grown gs (by omega) (fun q e=>by injection e with e;omega),hnr,⟨hq.1,by have:=gs.size;omega,hq.2.2⟩⟩
 have:=hD9.set (j:=7) (by simp [bvs]) (.slice a9 (d.L2.length + 1) c9)
 have e : (bvs d h ++ ex).set 7 (.slice a9 (d.L2.length + 1) c9) = bvs ⟨d.wk,d.up,d.now,d.sn,d.ep,d.gv,d.L1,d.L2 ++ [s],d.R,d.J,d.S,d.O⟩ ⟨h.a1,a9,h.ar,h.aj,h.az,h.ao,h.c1,c9,h.cr,h.cj,h.cs,h.co⟩ ++ ex:=by simp [bvs]
 rw [← e];exact this
theorem TkS.appO {w0 wr w9 : World} {B Q : Nat} {ex : List Value} {d : BD} {h : BH} {x : Tr} {ob : Obj} {a9 : Option Addr} {c9 : Nat} (t : TkS w0 B Q ex d h wr) (ho : Own B w9 3 (.slice a9 (d.O.length + 1) c9) (d.O.length + 1) (c3 d.O ++ [.int .i64 x.1,.int .i64 x.2.1,.int .i64 x.2.2])) (hg : (wr.alloc ob).grownBy w9 (rowO d h)) (hbk : (Value.slice a9 (d.O.length + 1) c9).ownBlock = rowO d h ∨ (Value.slice a9 (d.O.length + 1) c9).ownBlock = some (wr.alloc ob).heap.size) :
  CF w9 Q (bvs d h ++ ex) ∧ TkS w0 B Q ex ⟨d.wk,d.up,d.now,d.sn,d.ep,d.gv,d.L1,d.L2,d.R,d.J,d.S,d.O ++ [x]⟩ ⟨h.a1,h.a2,h.ar,h.aj,h.az,a9,h.c1,h.c2,h.cr,h.cj,h.cs,c9⟩ (w9.setCell ⟨Q,11,none⟩ (.slice a9 (d.O.length + 1) c9)):=by
 have hq:=t.q
 have hb : Below wr.heap.size wr (wr.alloc ob):=(Below.refl _ _).alloc (Nat.le_refl _) _
 have hz : (wr.alloc ob).heap.size = wr.heap.size + 1:=by simp
 have hgz:=hg.size
 have hbo:=t.bo.appO ho hg hbk
 have gs:=gset (World.grownBy.refl w9 (some Q)) 11 (.slice a9 (d.O.length + 1) c9)
 have hD9:=(t.D.block (hb.block _ hq.2.1)).block (hg.block _ (by omega) (fun e=>t.nr _ (rowO_mem d h) e.symm))
 have hB9:=(t.hb.trans (hb.mono (by omega))).grown hg (by omega) (fun q e=>(t.bo.lo _ (rowO_mem d h) q e).1)
 have hnr : ∀ r ∈ rowsB ⟨d.wk,d.up,d.now,d.sn,d.ep,d.gv,d.L1,d.L2,d.R,d.J,d.S,d.O ++ [x]⟩ ⟨h.a1,h.a2,h.ar,h.aj,h.az,a9,h.c1,h.c2,h.cr,h.cj,h.cs,c9⟩,r ≠ some Q:=fun r hr e=>by
  simp only [rowsB,List.mem_cons,List.not_mem_nil,or_false,List.length_append,List.length_singleton] at hr
  rcases hr with rfl | rfl | rfl | rfl | rfl | rfl
  ·exact t.nr _ (by simp [rowsB]) e
  ·exact t.nr _ (by simp [rowsB]) e
  ·exact t.nr _ (by simp [rowsB]) e
  ·exact t.nr _ (by simp [rowsB]) e
  ·exact t.nr _ (by simp [rowsB]) e
  ·rcases hbk with e2 | e2
   ·rw [e2] at e;exact t.nr _ (rowO_mem d h) e
   ·rw [e2] at e;injection e with e;omega
 refine ⟨hD9,hbo.blk (fun r hr q e=>gs.block q (hbo.lo r hr q e).2 (fun e'=>hnr r hr (e.trans e'))),?_,hB9.grown gs (by omega) (fun q e=>by injection e with e;omega),hnr,⟨hq.1,by have:=gs.size;omega,hq.2.2⟩⟩
 have:=hD9.set (j:=11) (by simp [bvs]) (.slice a9 (d.O.length + 1) c9)
 have e : (bvs d h ++ ex).set 11 (.slice a9 (d.O.length + 1) c9) = bvs ⟨d.wk,d.up,d.now,d.sn,d.ep,d.gv,d.L1,d.L2,d.R,d.J,d.S,d.O ++ [x]⟩ ⟨h.a1,h.a2,h.ar,h.aj,h.az,a9,h.c1,h.c2,h.cr,h.cj,h.cs,c9⟩ ++ ex:=by simp [bvs]
 rw [← e];exact this
theorem Own.set2b {B : Nat} {w : World} {v : Value} {S : List (Bool × Int)} (h : Own B w 2 v S.length (c2 S)) {k : Nat} (hk : k < S.length) : ∃ g o c,v = .slice (some ⟨g,o,none⟩) S.length c ∧ w.cell? ⟨g,o + k * 2,none⟩ = some (.bool (t2 S k).1) ∧ w.cell? ⟨g,o + k * 2 + 1,none⟩ = some (.int .i64 (t2 S k).2) ∧ w.there g (o + k * 2) 2 ∧
  ∀ (b : Bool) (e : Int),Own B (w.setCells g (o + k * 2) [.bool b,.int .i64 e]) 2 v S.length (c2 (S.set k (b,e))):=by
 rcases h with ⟨_,h0,_⟩ | ⟨g,o,cap,rfl,hc⟩
 ·omega
 ·have hl:=hc.le
  refine ⟨g,o,cap,rfl,?_,?_,fun j hj=>?_,fun b e=>.inr ⟨g,o,cap,rfl,?_⟩⟩
  ·rw [hc.holds (k * 2) (by omega)];exact c2_get S k 0 hk (by omega)
  ·rw [Nat.add_assoc,hc.holds (k * 2 + 1) (by omega)];exact c2_get S k 1 hk (by omega)
  ·have:=hc.there (k * 2 + j) (by omega)
   rw [← Nat.add_assoc] at this
   exact this
  ·have h1:=hc.setCell (j:=k * 2) (by omega) (.bool b)
   have h2:=h1.setCell (j:=k * 2 + 1) (by omega) (.int .i64 e)
   have e2 : ((c2 S).set (k * 2) (.bool b)).set (k * 2 + 1) (.int .i64 e) = c2 (S.set k (b,e)):=by
    refine c2_of (by simp [c2_length]) fun j hj=>?_
    rw [List.length_set] at hj
    rw [getD_set2 S k _ hk j]
    have g0:=c2_get S j 0 hj (by omega)
    have g1:=c2_get S j 1 hj (by omega)
    simp only [List.getElem?_set,List.length_set,c2_length]
    by_cases e : k = j
    ·subst e
     exact ⟨by rw [if_neg (by omega),if_pos rfl,if_pos (by omega),if_pos rfl],by rw [if_pos rfl,if_pos (by omega),if_pos rfl]⟩
    ·exact ⟨by rw [if_neg (by omega),if_neg (by omega),if_neg e];exact g0,by rw [if_neg (by omega),if_neg (by omega),if_neg e];exact g1⟩
   rw [e2] at h2
   exact h2
end Go.Proofs.YtaeomkpofcbmiaaGreatDoor
namespace Go.Proofs.YtaeomkpofcbmiaaGreatDoor
open Go.RowKit
structure TmS (w0 : World) (B Qd Qp : Nat) (ts : List TaskD) (pa : Option Addr) (pc nb : Nat) (d : BD) (h : BH) (wr : World) : Prop where
 T : TkS w0 B Qd [.slice pa ts.length pc,.map (some Qp),.slice none 0 0] d h wr
 mp : ∃ (n : Nat) (X : DataW Unit),n ≤ nb ∧ wr.ownsMap Tryz.prog 3 (plainElem Tryz.prog 3) Qp n X
 nm : ∀ r ∈ rowsB d h,r ≠ some Qp
 q : B ≤ Qp ∧ Qp ≠ Qd ∧ Qp < wr.heap.size
theorem TmS.below {w0 : World} {B Qd Qp : Nat} {ts : List TaskD} {pa : Option Addr} {pc nb : Nat} {d : BD} {h : BH} {wr w' : World} (s : TmS w0 B Qd Qp ts pa pc nb d h wr) (hb : Below wr.heap.size wr w') : TmS w0 B Qd Qp ts pa pc nb d h w':=by
 obtain ⟨n,X,hn,hX⟩:=s.mp
 have hg : wr.grownBy w' none:=⟨hb.os,hb.tape,hb.output,hb.size,fun i hi _=>hb.block i hi⟩
 exact ⟨s.T.below hb,⟨n,X,hn,hX.kept hg (by simp)⟩,s.nm,⟨s.q.1,s.q.2.1,Nat.lt_of_lt_of_le s.q.2.2 hb.size⟩⟩
theorem TmS.row {w0 : World} {B Qd Qp : Nat} {ts : List TaskD} {pa : Option Addr} {pc nb : Nat} {d d' : BD} {h : BH} {wr w' : World} {r : Option Nat} (s : TmS w0 B Qd Qp ts pa pc nb d h wr) (hr : r ∈ rowsB d h) (hg : wr.grownBy w' r) (hT : TkS w0 B Qd [.slice pa ts.length pc,.map (some Qp),.slice none 0 0] d' h w') (hrows : rowsB d' h = rowsB d h) : TmS w0 B Qd Qp ts pa pc nb d' h w':=by
 obtain ⟨n,X,hn,hX⟩:=s.mp
 exact ⟨hT,⟨n,X,hn,hX.kept hg (fun e=>s.nm r hr e.symm)⟩,by rw [hrows];exact s.nm,⟨s.q.1,s.q.2.1,Nat.lt_of_lt_of_le s.q.2.2 hg.size⟩⟩
theorem TmS.app {w0 : World} {B Qd Qp : Nat} {ts : List TaskD} {pa : Option Addr} {pc nb : Nat} {d d' : BD} {h h' : BH} {wr w9 : World} {ob : Obj} {j : Nat} {u : Value} {r : Option Nat} (s : TmS w0 B Qd Qp ts pa pc nb d h wr) (hr : r ∈ rowsB d h) (hg : (wr.alloc ob).grownBy w9 r) (hT : TkS w0 B Qd [.slice pa ts.length pc,.map (some Qp),.slice none 0 0] d' h' (w9.setCell ⟨Qd,j,none⟩ u)) (hrows : ∀ x ∈ rowsB d' h',x ∈ rowsB d h ∨ x = some (wr.alloc ob).heap.size) : TmS w0 B Qd Qp ts pa pc nb d' h' (w9.setCell ⟨Qd,j,none⟩ u):=by
 obtain ⟨n,X,hn,hX⟩:=s.mp
 have hq:=s.q
 have hz : (wr.alloc ob).heap.size = wr.heap.size + 1:=by simp
 have hgz:=hg.size
 have gs:=gset (World.grownBy.refl w9 (some Qd)) j u
 refine ⟨hT,⟨n,X,hn,((hX.alloc ob).kept hg (fun e=>s.nm r hr e.symm)).kept gs (fun e=>by injection e with e;omega)⟩,fun x hx e=>?_,⟨hq.1,hq.2.1,by have:=gs.size;omega⟩⟩
 rcases hrows x hx with h1 | h1
 ·exact s.nm x h1 e
 ·rw [h1] at e;injection e with e;omega
theorem TmS.toD {w0 : World} {B Qd Qp : Nat} {ts : List TaskD} {pa : Option Addr} {pc nb : Nat} {d : BD} {h : BH} {wr : World} (s : TmS w0 B Qd Qp ts pa pc nb d h wr) : DkS w0 wr B wr.heap.size Qd Qp d h ts pa pc d.now d.sn nb ⟨d.gv,d.J,d.S,[]⟩ (.slice none 0 0) [] wr:=by
 have hq:=s.q
 have hqT:=s.T.q
 exact ⟨⟨s.T.bo,MsO.nil _ _,s.T.hb,⟨rfl,rfl⟩,fun r hr q e=>s.T.bo.lo r hr q e,Nat.le_refl _,by omega⟩,s.T.D,s.mp,⟨hq.1,hqT.1,hq.2.1,hqT.2.1,hq.2.2⟩,fun r hr=>⟨s.nm r hr,s.T.nr r hr⟩,⟨none,0,rfl⟩,fun q _ _ _ _=>rfl⟩
theorem DkS.toM {w0 wK : World} {B Qm Qd Qp : Nat} {d : BD} {h : BH} {ts : List TaskD} {pa : Option Addr} {pc : Nat} {now sn gv : Int} {nb : Nat} {J : List Tr} {S : List (Bool × Int)} {wr : World} (s : DkS w0 wK B Qm Qd Qp d h ts pa pc now sn nb ⟨gv,J,S,[]⟩ (.slice none 0 0) [] wr) (hB : w0.heap.size ≤ B) : TmS w0 B Qd Qp ts pa pc nb ⟨d.wk,d.up,now,sn,d.ep,gv,d.L1,d.L2,d.R,J,S,d.O⟩ h wr:=by
 have hq:=s.q
 have hz:=s.H.sz
 have hlj : J.length = d.J.length ∧ S.length = d.S.length:=s.H.lj
 have hr : rowsB ⟨d.wk,d.up,now,sn,d.ep,gv,d.L1,d.L2,d.R,J,S,d.O⟩ h = rowsB d h:=by unfold rowsB;simp only [hlj.1,hlj.2]
 have hbo:=s.H.bo
 refine ⟨⟨⟨hbo.o0,hbo.o1,hbo.o2,hbo.o3,hbo.o4,hbo.o5,hbo.dis⟩,?_,s.H.hb,by rw [hr];exact fun r hr=>(s.nr r hr).2,⟨hq.2.1,by omega,hB⟩⟩,s.mp,by rw [hr];exact fun r hr=>(s.nr r hr).1,⟨hq.1,hq.2.2.1,by omega⟩⟩
 have:=s.D
 rw [← hlj.1,← hlj.2] at this
 exact this
end Go.Proofs.YtaeomkpofcbmiaaGreatDoor
