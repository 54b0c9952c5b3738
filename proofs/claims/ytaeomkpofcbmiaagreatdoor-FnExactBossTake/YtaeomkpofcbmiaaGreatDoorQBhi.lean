
import Derived.Test.YtaeomkpofcbmiaaGreatDoorQBtd
namespace Go.Proofs.YtaeomkpofcbmiaaGreatDoor
open Go.RowKit
end Go.Proofs.YtaeomkpofcbmiaaGreatDoor
namespace Go.Proofs.YtaeomkpofcbmiaaGreatDoor
open Go.RowKit
def BD.at (d : BD) (st : HSt) : BD:=⟨d.wk,d.up,d.now,d.sn,d.ep,st.gv,d.L1,d.L2,d.R,st.J,st.S,d.O⟩
theorem getD_set3 (J : List Tr) (i : Nat) (x : Tr) (hi : i < J.length) (j : Nat) : t3 (J.set i x) j = if i = j then x else t3 J j:=by
 unfold t3
 by_cases e : i = j
 ·subst e;simp [List.getD,hi]
 ·rw [if_neg e];simp [List.getD,List.getElem?_set_ne e]
theorem getD_set2 (S : List (Bool × Int)) (i : Nat) (x : Bool × Int) (hi : i < S.length) (j : Nat) : t2 (S.set i x) j = if i = j then x else t2 S j:=by
 unfold t2
 by_cases e : i = j
 ·subst e;simp [List.getD,hi]
 ·rw [if_neg e];simp [List.getD,List.getElem?_set_ne e]
theorem c3_set3 (J : List Tr) (i : Nat) (hi : i < J.length) (x : Tr) : (((c3 J).set (i * 3) (.int .i64 x.1)).set (i * 3 + 1) (.int .i64 x.2.1)).set (i * 3 + 2) (.int .i64 x.2.2) = c3 (J.set i x):=by
 refine c3_of (by simp [c3_length]) fun j hj=>?_
 rw [List.length_set] at hj
 rw [getD_set3 J i x hi j]
 have g0:=c3_get J j 0 hj (by omega)
 have g1:=c3_get J j 1 hj (by omega)
 have g2:=c3_get J j 2 hj (by omega)
 simp only [List.getElem?_set,List.length_set,c3_length]
 by_cases e : i = j
 ·subst e
  refine ⟨?_,?_,?_⟩
  ·rw [if_neg (by omega),if_neg (by omega),if_pos rfl,if_pos (by omega),if_pos rfl]
  ·rw [if_neg (by omega),if_pos rfl,if_pos (by omega),if_pos rfl]
  ·rw [if_pos rfl,if_pos (by omega),if_pos rfl]
 ·refine ⟨?_,?_,?_⟩
  ·rw [if_neg (by omega),if_neg (by omega),if_neg (by omega),if_neg e];exact g0
  ·rw [if_neg (by omega),if_neg (by omega),if_neg (by omega),if_neg e];exact g1
  ·rw [if_neg (by omega),if_neg (by omega),if_neg (by omega),if_neg e];exact g2
theorem Own.set3 {B : Nat} {w : World} {v : Value} {J : List Tr} (h : Own B w 3 v J.length (c3 J)) {i : Nat} (hi : i < J.length) : ∃ g o c,v = .slice (some ⟨g,o,none⟩) J.length c ∧ w.there g (o + i * 3) 3 ∧
  ∀ x : Tr,Own B (w.setCells g (o + i * 3) [.int .i64 x.1,.int .i64 x.2.1,.int .i64 x.2.2]) 3 v J.length (c3 (J.set i x)):=by
 rcases h with ⟨_,h0,_⟩ | ⟨g,o,cap,rfl,hc⟩
 ·omega
 ·have hl:=hc.le
  refine ⟨g,o,cap,rfl,fun j hj=>?_,fun x=>.inr ⟨g,o,cap,rfl,?_⟩⟩
  ·have:=hc.there (i * 3 + j) (by omega)
   rw [← Nat.add_assoc] at this
   exact this
  ·have h1:=hc.setCell (j:=i * 3) (by omega) (.int .i64 x.1)
   have h2:=h1.setCell (j:=i * 3 + 1) (by omega) (.int .i64 x.2.1)
   have h3:=h2.setCell (j:=i * 3 + 2) (by omega) (.int .i64 x.2.2)
   rw [c3_set3 J i hi x] at h3
   exact h3
theorem BossO.updJ {w w' : World} {B : Nat} {d : BD} {h : BH} {gv : Int} {J : List Tr} (hO : BossO w B d h) (hl : J.length = d.J.length) (hg : w.grownBy w' (Value.slice h.aj d.J.length h.cj).ownBlock) (hJ : Own B w' 3 (.slice h.aj d.J.length h.cj) d.J.length (c3 J)) : BossO w' B ⟨d.wk,d.up,d.now,d.sn,d.ep,gv,d.L1,d.L2,d.R,J,d.S,d.O⟩ h:=by
 have hd:=hO.dis
 simp only [List.pairwise_cons,List.mem_cons,List.not_mem_nil,or_false,forall_eq_or_imp,forall_eq,List.Pairwise.nil,and_true,false_implies,implies_true] at hd
 obtain ⟨⟨_,_,d03,_,_⟩,⟨_,d13,_,_⟩,⟨d23,_,_⟩,⟨d34,d35⟩,_⟩:=hd
 refine ⟨hO.o0.grown hg d03,hO.o1.grown hg d13,hO.o2.grown hg d23,?_,hO.o4.grown hg d34.symm,hO.o5.grown hg d35.symm,?_⟩
 ·show Own B w' 3 (.slice h.aj J.length h.cj) J.length (c3 J)
  rw [hl];exact hJ
 ·have:=hO.dis
  show List.Pairwise Dj [_,_,_,(Value.slice h.aj J.length h.cj).ownBlock,_,_]
  rw [hl];exact this
theorem BossO.updS {w w' : World} {B : Nat} {d : BD} {h : BH} {S : List (Bool × Int)} (hO : BossO w B d h) (hl : S.length = d.S.length) (hg : w.grownBy w' (Value.slice h.az d.S.length h.cs).ownBlock) (hJ : Own B w' 2 (.slice h.az d.S.length h.cs) d.S.length (c2 S)) : BossO w' B ⟨d.wk,d.up,d.now,d.sn,d.ep,d.gv,d.L1,d.L2,d.R,d.J,S,d.O⟩ h:=by
 have hd:=hO.dis
 simp only [List.pairwise_cons,List.mem_cons,List.not_mem_nil,or_false,forall_eq_or_imp,forall_eq,List.Pairwise.nil,and_true,false_implies,implies_true] at hd
 obtain ⟨⟨_,_,_,d04,_⟩,⟨_,_,d14,_⟩,⟨_,d24,_⟩,⟨d34,_⟩,d45⟩:=hd
 refine ⟨hO.o0.grown hg d04,hO.o1.grown hg d14,hO.o2.grown hg d24,hO.o3.grown hg d34,?_,hO.o5.grown hg d45.symm,?_⟩
 ·show Own B w' 2 (.slice h.az S.length h.cs) S.length (c2 S)
  rw [hl];exact hJ
 ·have:=hO.dis
  show List.Pairwise Dj [_,_,_,_,(Value.slice h.az S.length h.cs).ownBlock,_]
  rw [hl];exact this
def rowJ (d : BD) (h : BH) : Option Nat:=(Value.slice h.aj d.J.length h.cj).ownBlock
def rowS (d : BD) (h : BH) : Option Nat:=(Value.slice h.az d.S.length h.cs).ownBlock
theorem rowsB_at {d : BD} {h : BH} {st : HSt} (hl : st.J.length = d.J.length ∧ st.S.length = d.S.length) : rowsB (d.at st) h = rowsB d h:=by
 unfold rowsB BD.at
 simp only [hl.1,hl.2]
theorem rowJ_mem (d : BD) (h : BH) : rowJ d h ∈ rowsB d h:=by unfold rowJ rowsB;simp
theorem rowS_mem (d : BD) (h : BH) : rowS d h ∈ rowsB d h:=by unfold rowS rowsB;simp
end Go.Proofs.YtaeomkpofcbmiaaGreatDoor
namespace Go.Proofs.YtaeomkpofcbmiaaGreatDoor
open Go.RowKit
structure HdI (w0 : World) (B Qm : Nat) (d : BD) (h : BH) (st : HSt) (v : Value) (vs : List Value) (wr : World) : Prop where
 bo : BossO wr B (d.at st) h
 ms : MsO wr Qm v st.M vs
 hb : Below B w0 wr
 lj : st.J.length = d.J.length ∧ st.S.length = d.S.length
 lo : ∀ r ∈ rowsB d h,∀ q,r = some q → B ≤ q ∧ q < Qm
 sz : Qm ≤ wr.heap.size
 bs : B ≤ Qm
theorem HdI.below {w0 wr w' : World} {B Qm : Nat} {d : BD} {h : BH} {st : HSt} {v : Value} {vs : List Value} (H : HdI w0 B Qm d h st v vs wr) (hb : Below wr.heap.size wr w') : HdI w0 B Qm d h st v vs w' :=
 ⟨H.bo.below hb,H.ms.below hb,H.hb.trans (hb.mono (Nat.le_trans H.bs H.sz)),H.lj,H.lo,Nat.le_trans H.sz hb.size,H.bs⟩
theorem HdI.rows {w0 wr : World} {B Qm : Nat} {d : BD} {h : BH} {st : HSt} {v : Value} {vs : List Value} (H : HdI w0 B Qm d h st v vs wr) {r : Option Nat} (hr : r ∈ rowsB d h) : Dn v.ownBlock r ∧ ∀ j,j < st.M.length → Dn (vs.getD j nilV).ownBlock r :=
 ⟨(Dn.later (m:=Qm) (fun q e=>(H.lo r hr q e).2) H.ms.row.row_lo).symm,fun j hj=>(Dn.later (m:=Qm) (fun q e=>(H.lo r hr q e).2) (H.ms.dep j hj).row_lo).symm⟩
theorem HdI.farR {w0 wr w' : World} {B Qm : Nat} {d : BD} {h : BH} {st : HSt} {v : Value} {vs : List Value} {row : Option Nat} (H : HdI w0 B Qm d h st v vs wr) (hg : wr.grownBy w' row) (h1 : ∀ q,row = some q → B ≤ q) (h0 : ∀ r ∈ rowsB d h,∀ q,r = some q → row ≠ some q) (h2 : Dn v.ownBlock row) (h3 : ∀ j,j < st.M.length → Dn (vs.getD j nilV).ownBlock row) : HdI w0 B Qm d h st v vs w':=by
 have hbs:=H.bs
 have hsz:=H.sz
 refine ⟨H.bo.blk (fun r hr p hp=>?_),H.ms.grown hg h2 h3,H.hb.grown hg (by omega) h1,H.lj,H.lo,Nat.le_trans hsz hg.size,H.bs⟩
 rw [rowsB_at H.lj] at hr
 have:=H.lo r hr p hp
 exact hg.block p (by omega) (fun e=>h0 r hr p hp e.symm)
theorem HdI.farLo {w0 wr w' : World} {B Qm q : Nat} {d : BD} {h : BH} {st : HSt} {v : Value} {vs : List Value} (H : HdI w0 B Qm d h st v vs wr) (hg : wr.grownBy w' (some q)) (h1 : B ≤ q) (h2 : q < Qm) (h0 : ∀ r ∈ rowsB d h,r ≠ some q) : HdI w0 B Qm d h st v vs w' :=
 H.farR hg (fun k e=>by injection e with e;omega) (fun r hr p hp e=>by rw [← e] at hp;exact h0 r hr hp) ((Dn.later (x:=some q) (m:=Qm) (fun k e=>by injection e with e;omega) H.ms.row.row_lo).symm) (fun j hj=>(Dn.later (x:=some q) (m:=Qm) (fun k e=>by injection e with e;omega) (H.ms.dep j hj).row_lo).symm)
theorem HdI.setJ {w0 wr w' : World} {B Qm : Nat} {d : BD} {h : BH} {st : HSt} {v : Value} {vs : List Value} {gv : Int} {J : List Tr} (H : HdI w0 B Qm d h st v vs wr) (hl : J.length = d.J.length) (hg : wr.grownBy w' (rowJ d h)) (hJ : Own B w' 3 (.slice h.aj d.J.length h.cj) d.J.length (c3 J)) : HdI w0 B Qm d h ⟨gv,J,st.S,st.M⟩ v vs w':=by
 have hbs:=H.bs
 have hsz:=H.sz
 have hbo:=H.bo
 have hjl : (d.at st).J.length = d.J.length:=H.lj.1
 exact ⟨hbo.updJ (gv:=gv) (by rw [hjl];exact hl) (by rw [hjl];exact hg) (by rw [hjl];exact hJ),H.ms.grown hg (H.rows (rowJ_mem d h)).1 (H.rows (rowJ_mem d h)).2,H.hb.grown hg (by omega) (fun k e=>(H.lo _ (rowJ_mem d h) k e).1),⟨hl,H.lj.2⟩,H.lo,Nat.le_trans hsz hg.size,H.bs⟩
theorem HdI.setS {w0 wr w' : World} {B Qm : Nat} {d : BD} {h : BH} {st : HSt} {v : Value} {vs : List Value} {S : List (Bool × Int)} (H : HdI w0 B Qm d h st v vs wr) (hl : S.length = d.S.length) (hg : wr.grownBy w' (rowS d h)) (hJ : Own B w' 2 (.slice h.az d.S.length h.cs) d.S.length (c2 S)) : HdI w0 B Qm d h ⟨st.gv,st.J,S,st.M⟩ v vs w':=by
 have hbs:=H.bs
 have hsz:=H.sz
 have hbo:=H.bo
 have hjl : (d.at st).S.length = d.S.length:=H.lj.2
 exact ⟨hbo.updS (by rw [hjl];exact hl) (by rw [hjl];exact hg) (by rw [hjl];exact hJ),H.ms.grown hg (H.rows (rowS_mem d h)).1 (H.rows (rowS_mem d h)).2,H.hb.grown hg (by omega) (fun k e=>(H.lo _ (rowS_mem d h) k e).1),⟨H.lj.1,hl⟩,H.lo,Nat.le_trans hsz hg.size,H.bs⟩
end Go.Proofs.YtaeomkpofcbmiaaGreatDoor
