
import Derived.Test.YtaeomkpofcbmiaaGreatDoorQBej
import Derived.Test.YtaeomkpofcbmiaaGreatDoorQBkd
namespace Go.Proofs.YtaeomkpofcbmiaaGreatDoor
open Go.RowKit
theorem own_drew2 {B : Nat} {w : World} {g o n : Nat} {vs xs : List Value} {v : Value} {size : Nat} (h : Own B (w.setCells g o vs) size v n xs) : Own B ((w.drew.drew).setCells g o vs) size v n xs :=
 h.blk (fun q _=>by
  have : ∀ (vs : List Value) (o : Nat) (u u' : World),u.heap = u'.heap → (u.setCells g o vs).heap = (u'.setCells g o vs).heap:=fun vs=>by
   induction vs with
   | nil=>intro o u u' e;exact e
   | cons a r ih=>intro o u u' e;exact ih _ _ _ (by simp [World.setCell,e])
  rw [this vs o w.drew.drew w rfl])
theorem DkS.setS {w0 wK wr w' : World} {B Qm Qd Qp : Nat} {d : BD} {h : BH} {ts : List TaskD} {pa : Option Addr} {pc : Nat} {now sn : Int} {nb : Nat} {st : HSt} {v : Value} {vs : List Value} {S : List (Bool × Int)} {bz : Nat} (s : DkS w0 wK B Qm Qd Qp d h ts pa pc now sn nb st v vs wr) (hl : S.length = d.S.length) (hr : rowS d h = some bz) (hg : wr.grownBy w' (some bz)) (hJ : Own B w' 2 (.slice h.az d.S.length h.cs) d.S.length (c2 S)) : DkS w0 wK B Qm Qd Qp d h ts pa pc now sn nb ⟨st.gv,st.J,S,st.M⟩ v vs w':=by
 have hq:=s.q
 have hz:=s.H.sz
 obtain ⟨n,X,hn,hX⟩:=s.mp
 have h1:=s.nr _ (rowS_mem d h)
 rw [hr] at h1
 exact ⟨s.H.setS hl (by rw [hr];exact hg) hJ,s.D.block (hg.block _ (by omega) (fun e=>h1.2 e.symm)),⟨n,X,hn,hX.kept hg (fun e=>h1.1 e.symm)⟩,s.q,s.nr,s.vm,fun q g1 g2 g3 g4=>(hg.block q (by omega) (fun e=>g4 _ (rowS_mem d h) (by rw [hr];exact e.symm))).trans (s.fx q g1 g2 g3 g4)⟩
end Go.Proofs.YtaeomkpofcbmiaaGreatDoor
namespace Go.Proofs.YtaeomkpofcbmiaaGreatDoor
open Go.RowKit
def jM (f : Tr → Tr) (J : List Tr) (i : Nat) : List Tr:=(J.take i).map f ++ J.drop i
theorem t3_getM {J : List Tr} {i : Nat} (hi : i < J.length) : t3 J i = J[i]:=by simp [t3,List.getD,hi]
theorem jM_len (f : Tr → Tr) (J : List Tr) (i : Nat) : (jM f J i).length = J.length:=by unfold jM;simp;omega
theorem jM_get {f : Tr → Tr} {J : List Tr} {i : Nat} (hi : i < J.length) : t3 (jM f J i) i = t3 J i:=by
 have hl : ((J.take i).map f).length = i:=by simp;omega
 unfold jM t3
 rw [List.getD_eq_getElem?_getD,List.getElem?_append_right (by omega),hl,Nat.sub_self,List.getElem?_drop]
 simp [List.getD]
theorem jM_set {f : Tr → Tr} {J : List Tr} {i : Nat} (hi : i < J.length) : (jM f J i).set i (f (t3 J i)) = jM f J (i + 1):=by
 have hl : ((J.take i).map f).length = i:=by simp;omega
 unfold jM
 rw [List.drop_eq_getElem_cons hi,List.set_append_right _ _ (by omega),hl,Nat.sub_self,List.set_cons_zero,List.take_succ_eq_append_getElem hi,List.map_append,t3_getM hi]
 simp
theorem jM_same {f : Tr → Tr} {J : List Tr} {i : Nat} (hi : i < J.length) (h : f (t3 J i) = t3 J i) : jM f J (i + 1) = jM f J i:=by
 rw [← jM_set hi,h,← jM_get (f:=f) hi]
 have hl : i < (jM f J i).length:=by rw [jM_len];exact hi
 rw [t3_getM hl]
 exact List.set_getElem_self hl
theorem jM_all (f : Tr → Tr) (J : List Tr) : jM f J J.length = J.map f:=by unfold jM;simp
theorem jM_zero (f : Tr → Tr) (J : List Tr) : jM f J 0 = J:=by unfold jM;simp
theorem DkS.raise0 {w0 wK wr : World} {B Qm Qd Qp : Nat} {d : BD} {h : BH} {ts : List TaskD} {pa : Option Addr} {pc : Nat} {now sn gv : Int} {nb : Nat} {J : List Tr} {S : List (Bool × Int)} (s : DkS w0 wK B Qm Qd Qp d h ts pa pc now sn nb ⟨gv,J,S,[]⟩ (.slice none 0 0) [] wr) : DkS w0 wr B wr.heap.size Qd Qp d h ts pa pc now sn nb ⟨gv,J,S,[]⟩ (.slice none 0 0) [] wr:=by
 have hq:=s.q
 have hz:=s.H.sz
 exact ⟨⟨s.H.bo,MsO.nil _ _,s.H.hb,s.H.lj,fun r hr q e=>by have:=s.H.lo r hr q e;omega,Nat.le_refl _,Nat.le_trans s.H.bs hz⟩,s.D,s.mp,⟨hq.1,hq.2.1,hq.2.2.1,by omega,by omega⟩,s.nr,s.vm,fun q _ _ _ _=>rfl⟩
theorem DkS.keep {w0 wK wr : World} {B Qm Qd Qp Qx : Nat} {d : BD} {h : BH} {ts : List TaskD} {pa : Option Addr} {pc : Nat} {now sn : Int} {nb : Nat} {st : HSt} {v : Value} {vs : List Value} {cs : List Value} (s : DkS w0 wK B Qm Qd Qp d h ts pa pc now sn nb st v vs wr) (hc : CF wK Qx cs) (h1 : Qx < Qm ∧ Qx ≠ Qd ∧ Qx ≠ Qp) (h2 : ∀ r ∈ rowsB d h,r ≠ some Qx) : CF wr Qx cs:=hc.block (s.fx Qx h1.1 h1.2.1 h1.2.2 h2)
end Go.Proofs.YtaeomkpofcbmiaaGreatDoor
