
import Derived.Test.YtaeomkpofcbmiaaGreatDoorQBtd
import Derived.Test.YtaeomkpofcbmiaaGreatDoorQBmb
import Derived.Test.YtaeomkpofcbmiaaGreatDoorQBoo
import Derived.Test.YtaeomkpofcbmiaaGreatDoorQBkg
set_option maxHeartbeats 8000000
set_option maxRecDepth 100000
namespace Go.Proofs.YtaeomkpofcbmiaaGreatDoor
open Go.RowKit
theorem extM {xs ys : List MgD} (hl : xs.length = ys.length) (h : ∀ j,j < xs.length → xs.getD j dMgD = ys.getD j dMgD) : xs = ys:=by
 refine List.ext_getElem hl fun j h1 h2=>?_
 have:=h j h1
 simpa [List.getD,List.getElem?_eq_getElem h1,List.getElem?_eq_getElem h2] using this
theorem getD_setM (xs : List MgD) (i : Nat) (t : MgD) (h : i < xs.length) (j : Nat) : (xs.set i t).getD j dMgD = if i = j then t else xs.getD j dMgD:=by
 by_cases e : i = j
 ·subst e;simp [List.getD,h]
 ·rw [if_neg e];simp [List.getD,List.getElem?_set_ne e]
theorem rowM_set7 (M : List MgD) (vs : List Value) (i : Nat) (hi : i < M.length) (t : MgD) : (((((((rowM M vs).set (i * 8) (.int .i64 t.kd)).set (i * 8 + 1) (.int .i64 t.fm)).set (i * 8 + 2) (.int .i64 t.tw)).set (i * 8 + 3) (.int .i64 t.ep)).set (i * 8 + 4) (.int .i64 t.le)).set (i * 8 + 5) (.int .i64 t.ta)).set (i * 8 + 6) (.string t.x) = rowM (M.set i t) vs:=by
 refine ext8 (n:=M.length) (by simp [rowM_length]) (by rw [rowM_length,List.length_set]) fun j r hj hr=>?_
 rw [rowM_get _ _ _ _ (by rw [List.length_set];exact hj) hr,getD_setM _ _ _ hi]
 simp only [List.getElem?_set,List.length_set,rowM_length]
 by_cases e : i = j
 ·subst e
  rw [if_pos rfl]
  have : r = 0 ∨ r = 1 ∨ r = 2 ∨ r = 3 ∨ r = 4 ∨ r = 5 ∨ r = 6 ∨ r = 7:=by omega
  rcases this with rfl | rfl | rfl | rfl | rfl | rfl | rfl | rfl
  ·rw [if_neg (by omega),if_neg (by omega),if_neg (by omega),if_neg (by omega),if_neg (by omega),if_neg (by omega),if_pos (by omega),if_pos (by omega)];rfl
  ·rw [if_neg (by omega),if_neg (by omega),if_neg (by omega),if_neg (by omega),if_neg (by omega),if_pos (by omega),if_pos (by omega)];rfl
  ·rw [if_neg (by omega),if_neg (by omega),if_neg (by omega),if_neg (by omega),if_pos (by omega),if_pos (by omega)];rfl
  ·rw [if_neg (by omega),if_neg (by omega),if_neg (by omega),if_pos (by omega),if_pos (by omega)];rfl
  ·rw [if_neg (by omega),if_neg (by omega),if_pos (by omega),if_pos (by omega)];rfl
  ·rw [if_neg (by omega),if_pos (by omega),if_pos (by omega)];rfl
  ·rw [if_pos (by omega),if_pos (by omega)];rfl
  ·rw [if_neg (by omega),if_neg (by omega),if_neg (by omega),if_neg (by omega),if_neg (by omega),if_neg (by omega),if_neg (by omega),rowM_get _ _ _ _ hi hr];rfl
 ·rw [if_neg (by omega),if_neg (by omega),if_neg (by omega),if_neg (by omega),if_neg (by omega),if_neg (by omega),if_neg (by omega),if_neg e,rowM_get _ _ _ _ hj hr]
theorem MsO.upd {w w3 w4 : World} {B : Nat} {v : Value} {ts : List MgD} {vs : List Value} {i : Nat} {t : MgD} (h : MsO w B v ts vs) (hi : i < ts.length) (hg3 : w.grownBy w3 v.ownBlock) (hrow : Own B w3 8 v ts.length (rowM (ts.set i t) vs)) (hg4 : w3.grownBy w4 (vs.getD i nilV).ownBlock) (hd : Own B w4 1 (vs.getD i nilV) t.ss.length (t.ss.map Value.string)) : MsO w4 B v (ts.set i t) vs:=by
 refine ⟨by rw [List.length_set];exact h.len,?_,fun j hj=>?_,fun j hj=>h.dr j (by simpa using hj),fun a b hab hb=>h.dd a b hab (by simpa using hb)⟩
 ·rw [List.length_set];exact hrow.grown hg4 (h.dr i hi).symm
 ·rw [List.length_set] at hj
  rw [getD_setM _ _ _ hi]
  by_cases e : i = j
  ·subst e;rw [if_pos rfl];exact hd
  ·rw [if_neg e]
   refine ((h.dep j hj).grown hg3 (h.dr j hj)).grown hg4 ?_
   rcases Nat.lt_or_ge i j with l | l
   ·exact (h.dd i j l hj).symm
   ·exact h.dd j i (by omega) hi
def kM (k : Nat) (M : List MgD) : Nat → Nat
 | 0=>k
 | i + 1=>kM k M i + 7 + (M.getD i dMgD).ss.length
theorem kM_le (k : Nat) (M : List MgD) (hL : ∀ j,j < M.length → (M.getD j dMgD).ss.length ≤ 1048576) : ∀ i,i ≤ M.length → k ≤ kM k M i ∧ kM k M i ≤ k + i * 1048583
 | 0,_=>⟨Nat.le_refl _,by simp [kM]⟩
 | i + 1,h=>by
  have ih:=kM_le k M hL i (by omega)
  have h1:=hL i (by omega)
  simp only [kM]
  omega
def mkMg (k : Nat) (M : List MgD) (j : Nat) : MgD:=⟨(kM k M j : Nat),(kM k M j + 1 : Nat),(kM k M j + 2 : Nat),(kM k M j + 3 : Nat),(kM k M j + 4 : Nat),(kM k M j + 5 : Nat),mtx (kM k M j + 6),mks (kM k M j + 7) (M.getD j dMgD).ss.length⟩
def mkMs (k : Nat) (M : List MgD) (i : Nat) : List MgD:=(List.range M.length).map fun j=>if j < i then mkMg k M j else M.getD j dMgD
theorem mkMs_length (k : Nat) (M : List MgD) (i : Nat) : (mkMs k M i).length = M.length:=by simp [mkMs]
theorem mkMs_get (k : Nat) (M : List MgD) (i : Nat) {j : Nat} (hj : j < M.length) : (mkMs k M i).getD j dMgD = if j < i then mkMg k M j else M.getD j dMgD:=by simp [mkMs,List.getD,hj]
theorem mkMs_zero (k : Nat) (M : List MgD) : mkMs k M 0 = M:=extM (mkMs_length _ _ _) fun j hj=>by
 rw [mkMs_length] at hj
 rw [mkMs_get _ _ _ hj,if_neg (by omega)]
theorem mkMs_set (k : Nat) (M : List MgD) {i : Nat} (hi : i < M.length) : (mkMs k M i).set i (mkMg k M i) = mkMs k M (i + 1):=extM (by simp [mkMs_length]) fun j hj=>by
 rw [List.length_set,mkMs_length] at hj
 rw [getD_setM _ _ _ (by rw [mkMs_length];exact hi),mkMs_get _ _ _ hj,mkMs_get _ _ _ hj]
 by_cases e : i = j
 ·subst e;rw [if_pos rfl,if_pos (by omega)]
 ·rw [if_neg e]
  by_cases e2 : j < i
  ·rw [if_pos e2,if_pos (by omega)]
  ·rw [if_neg e2,if_neg (by omega)]
def rowsMs (v : Value) (M : List MgD) (vs : List Value) : List (Option Nat):=v.ownBlock :: (List.range M.length).map fun j=>(vs.getD j nilV).ownBlock
theorem rowsMs_v (v : Value) (M : List MgD) (vs : List Value) : v.ownBlock ∈ rowsMs v M vs:=List.mem_cons_self
theorem rowsMs_d (v : Value) (M : List MgD) (vs : List Value) {j : Nat} (hj : j < M.length) : (vs.getD j nilV).ownBlock ∈ rowsMs v M vs:=List.mem_cons_of_mem _ (List.mem_map.2 ⟨j,List.mem_range.2 hj,rfl⟩)
theorem rowsMs_of {v : Value} {M : List MgD} {vs : List Value} {r : Option Nat} (h : r ∈ rowsMs v M vs) : r = v.ownBlock ∨ ∃ j,j < M.length ∧ r = (vs.getD j nilV).ownBlock:=by
 rcases List.mem_cons.1 h with h | h
 ·exact .inl h
 ·obtain ⟨j,hj,e⟩:=List.mem_map.1 h
  exact .inr ⟨j,List.mem_range.1 hj,e.symm⟩
theorem MsO.lo {w : World} {B : Nat} {v : Value} {M : List MgD} {vs : List Value} (h : MsO w B v M vs) : ∀ r ∈ rowsMs v M vs,∀ q,r = some q → B ≤ q ∧ q < w.heap.size:=fun r hr q hq=>by
 rcases rowsMs_of hr with rfl | ⟨j,hj,rfl⟩
 ·exact ⟨h.row.row_lo q hq,h.row.row_hi q hq⟩
 ·exact ⟨(h.dep j hj).row_lo q hq,(h.dep j hj).row_hi q hq⟩
theorem MsO.grew {w w' : World} {B : Nat} {v : Value} {M : List MgD} {vs : List Value} {rows : List (Option Nat)} (h : MsO w B v M vs) (hg : Grew rows w w') (hd : ∀ r ∈ rows,∀ q,r = some q → ∀ r' ∈ rowsMs v M vs,r' ≠ some q) : MsO w' B v M vs :=
 ⟨h.len,h.row.blkP (fun q hq=>hg.block q (h.row.row_hi q hq) (fun r hr e=>hd r hr q e _ (rowsMs_v v M vs) hq)),fun j hj=>(h.dep j hj).blkP (fun q hq=>hg.block q ((h.dep j hj).row_hi q hq) (fun r hr e=>hd r hr q e _ (rowsMs_d v M vs hj) hq)),h.dr,h.dd⟩
theorem Grew.bwM {rows : List (Option Nat)} {w w' : World} (h : Below w.heap.size w w') : Grew rows w w':=⟨h.size,fun q hq _=>h.block q hq,h.os,h.tape,h.output⟩
theorem markMessageS_c (g o n c k : Nat) (B : Nat) (M : List MgD) (vs : List Value) (w : World) (hk0 : 0 < k) (hkm : k ≤ 1000000000) (hn : n ≤ 4096) (hl : M.length = n) (hL : ∀ j,j < M.length → (M.getD j dMgD).ss.length ≤ 1048576) (h : MsO w B (.slice (some ⟨g,o,none⟩) n c) M vs) :
  Calls Tryz.prog 55 #[.slice (some ⟨g,o,none⟩) n c,.int .i64 k] w fun e w'=>e = .returned (.int .i64 (kM k M n : Nat)) ∧ MsO w' B (.slice (some ⟨g,o,none⟩) n c) (mkMs k M n) vs ∧ Grew (rowsMs (.slice (some ⟨g,o,none⟩) n c) M vs) w w':=by
 have HKA : Hid (∀ i,i ≤ n → 0 < kM k M i ∧ kM k M i ≤ 10000000000):=fun i hi=>by have:=kM_le k M hL i (by omega);omega
 have HD:=hid hL
 have HL:=hid hl
 clear hl hL hkm hk0
 go_enter Tryz.func55,Tryz.ntmps55
 go_wp2
 go_loopw [1,5] (fun kv x wr=>∃ i : Nat,i ≤ n ∧ x = .int .i64 i ∧ kv = .int .i64 (kM k M i : Nat) ∧ MsO wr B (.slice (some ⟨g,o,none⟩) n c) (mkMs k M i) vs ∧ Grew (rowsMs (.slice (some ⟨g,o,none⟩) n c) M vs) w wr) (fun _ x _=>n - (intOf x).toNat)
 case atStart=>exact ⟨0,Nat.zero_le _,rfl,rfl,by rw [mkMs_zero];exact h,Grew.refl _ _⟩
 case round =>
  clear h
  obtain ⟨i,hi,rfl,rfl,hP,hG⟩:=hrel
  by_cases hlt : i < n
  ·have hlt' : (i : Int) < (n : Int):=by omega
   obtain ⟨m0,hm0⟩ : ∃ m,m = kM k M i:=⟨_,rfl⟩
   obtain ⟨hp0,hb0⟩:=HKA.out i hi
   rw [← hm0] at hp0 hb0
   rw [← hm0]
   have HM0:=hid hm0
   clear hm0
   have HI : Hid (i < (mkMs k M i).length):=by have:=HL.out;show _ < _;rw [mkMs_length];omega
   have ho0:=hP.row.toC.1
   rw [mkMs_length,HL.out] at ho0
   obtain ⟨xs,hxs⟩ : ∃ q,q = rowM (mkMs k M i) vs:=⟨_,rfl⟩
   rw [← hxs] at ho0
   have HXS:=hid hxs
   clear hxs
   have HP:=hid hP
   have HG:=hid hG
   clear hP hG
   have hg0:=World.grownBy.refl wr (some g)
   obtain ⟨u0,_,hq0⟩:=ho0.cellSome (j:=i * 8) (by omega)
   have hf0:=ho0.notFrozen (j:=i * 8) (by omega)
   have ho1:=ho0.setCell (j:=i * 8) (by omega) (.int .i64 (m0 : Nat))
   have hg1:=gset hg0 (o + (i * 8)) (.int .i64 (m0 : Nat))
   obtain ⟨w0,hw0⟩ : ∃ V,V = wr.setCell ⟨g,o + i * 8,none⟩ (.int .i64 (m0 : Nat)):=⟨_,rfl⟩
   obtain ⟨m1,hm1⟩ : ∃ q : Nat,((q : Nat) : Int) = (m0 : Int) + 1:=⟨m0 + 1,by omega⟩
   go_upto_region 6 with fail
   rw [← hw0] at ho1 hg1 ⊢
   rw [← hm1]
   have hb1 : m1 ≤ 10000000000 + 1:=by omega
   have HM1:=hid (show m1 = m0 + 1 by omega)
   clear hw0 hq0 hf0 ho0 hg0 hm1
   obtain ⟨u1,_,hq1⟩:=ho1.cellSome (j:=i * 8 + 1) (by omega)
   have hf1:=ho1.notFrozen (j:=i * 8 + 1) (by omega)
   have ho2:=ho1.setCell (j:=i * 8 + 1) (by omega) (.int .i64 (m1 : Nat))
   have hg2:=gset hg1 (o + (i * 8 + 1)) (.int .i64 (m1 : Nat))
   rw [← Nat.add_assoc] at hq1 hf1 ho2 hg2
   obtain ⟨w1,hw1⟩ : ∃ V,V = w0.setCell ⟨g,o + i * 8 + 1,none⟩ (.int .i64 (m1 : Nat)):=⟨_,rfl⟩
   obtain ⟨m2,hm2⟩ : ∃ q : Nat,((q : Nat) : Int) = (m1 : Int) + 1:=⟨m1 + 1,by omega⟩
   go_upto_region 8 with fail
   rw [← hw1] at ho2 hg2 ⊢
   rw [← hm2]
   have hb2 : m2 ≤ 10000000000 + 2:=by omega
   have HM2:=hid (show m2 = m1 + 1 by omega)
   clear hw1 hq1 hf1 ho1 hg1 hm2
   obtain ⟨u2,_,hq2⟩:=ho2.cellSome (j:=i * 8 + 2) (by omega)
   have hf2:=ho2.notFrozen (j:=i * 8 + 2) (by omega)
   have ho3:=ho2.setCell (j:=i * 8 + 2) (by omega) (.int .i64 (m2 : Nat))
   have hg3:=gset hg2 (o + (i * 8 + 2)) (.int .i64 (m2 : Nat))
   rw [← Nat.add_assoc] at hq2 hf2 ho3 hg3
   obtain ⟨w2,hw2⟩ : ∃ V,V = w1.setCell ⟨g,o + i * 8 + 2,none⟩ (.int .i64 (m2 : Nat)):=⟨_,rfl⟩
   obtain ⟨m3,hm3⟩ : ∃ q : Nat,((q : Nat) : Int) = (m2 : Int) + 1:=⟨m2 + 1,by omega⟩
   go_upto_region 10 with fail
   rw [← hw2] at ho3 hg3 ⊢
   rw [← hm3]
   have hb3 : m3 ≤ 10000000000 + 3:=by omega
   have HM3:=hid (show m3 = m2 + 1 by omega)
   clear hw2 hq2 hf2 ho2 hg2 hm3
   obtain ⟨u3,_,hq3⟩:=ho3.cellSome (j:=i * 8 + 3) (by omega)
   have hf3:=ho3.notFrozen (j:=i * 8 + 3) (by omega)
   have ho4:=ho3.setCell (j:=i * 8 + 3) (by omega) (.int .i64 (m3 : Nat))
   have hg4:=gset hg3 (o + (i * 8 + 3)) (.int .i64 (m3 : Nat))
   rw [← Nat.add_assoc] at hq3 hf3 ho4 hg4
   obtain ⟨w3,hw3⟩ : ∃ V,V = w2.setCell ⟨g,o + i * 8 + 3,none⟩ (.int .i64 (m3 : Nat)):=⟨_,rfl⟩
   obtain ⟨m4,hm4⟩ : ∃ q : Nat,((q : Nat) : Int) = (m3 : Int) + 1:=⟨m3 + 1,by omega⟩
   go_upto_region 12 with fail
   rw [← hw3] at ho4 hg4 ⊢
   rw [← hm4]
   have hb4 : m4 ≤ 10000000000 + 4:=by omega
   have HM4:=hid (show m4 = m3 + 1 by omega)
   clear hw3 hq3 hf3 ho3 hg3 hm4
   obtain ⟨u4,_,hq4⟩:=ho4.cellSome (j:=i * 8 + 4) (by omega)
   have hf4:=ho4.notFrozen (j:=i * 8 + 4) (by omega)
   have ho5:=ho4.setCell (j:=i * 8 + 4) (by omega) (.int .i64 (m4 : Nat))
   have hg5:=gset hg4 (o + (i * 8 + 4)) (.int .i64 (m4 : Nat))
   rw [← Nat.add_assoc] at hq4 hf4 ho5 hg5
   obtain ⟨w4,hw4⟩ : ∃ V,V = w3.setCell ⟨g,o + i * 8 + 4,none⟩ (.int .i64 (m4 : Nat)):=⟨_,rfl⟩
   obtain ⟨m5,hm5⟩ : ∃ q : Nat,((q : Nat) : Int) = (m4 : Int) + 1:=⟨m4 + 1,by omega⟩
   go_upto_region 14 with fail
   rw [← hw4] at ho5 hg5 ⊢
   rw [← hm5]
   have hb5 : m5 ≤ 10000000000 + 5:=by omega
   have HM5:=hid (show m5 = m4 + 1 by omega)
   clear hw4 hq4 hf4 ho4 hg4 hm5
   obtain ⟨u5,_,hq5⟩:=ho5.cellSome (j:=i * 8 + 5) (by omega)
   have hf5:=ho5.notFrozen (j:=i * 8 + 5) (by omega)
   have ho6:=ho5.setCell (j:=i * 8 + 5) (by omega) (.int .i64 (m5 : Nat))
   have hg6:=gset hg5 (o + (i * 8 + 5)) (.int .i64 (m5 : Nat))
   rw [← Nat.add_assoc] at hq5 hf5 ho6 hg6
   obtain ⟨w5,hw5⟩ : ∃ V,V = w4.setCell ⟨g,o + i * 8 + 5,none⟩ (.int .i64 (m5 : Nat)):=⟨_,rfl⟩
   obtain ⟨m6,hm6⟩ : ∃ q : Nat,((q : Nat) : Int) = (m5 : Int) + 1:=⟨m5 + 1,by omega⟩
   go_upto_region 16 with fail
   rw [← hw5] at ho6 hg6 ⊢
   rw [← hm6]
   have hb6 : m6 ≤ 10000000000 + 6:=by omega
   have HM6:=hid (show m6 = m5 + 1 by omega)
   clear hw5 hq5 hf5 ho5 hg5 hm6
   have hp6 : 0 < m6:=by have:=HM6.out;omega
   go_wp2_with fail
   refine (markText_any m6 _ hp6 (by omega)).mono ?_
   rintro e w6 ⟨rfl,hbt⟩
   have hoA:=ho6.below hbt ho6.hi
   have hgA:=grownBy_trans hg6 (grownBy_below (r:=some g) hbt)
   clear ho6 hg6 hbt
   obtain ⟨u6,_,hq6⟩:=hoA.cellSome (j:=i * 8 + 6) (by omega)
   have hf6:=hoA.notFrozen (j:=i * 8 + 6) (by omega)
   have ho7:=hoA.setCell (j:=i * 8 + 6) (by omega) (.string (mtx m6))
   have hg7:=gset hgA (o + (i * 8 + 6)) (.string (mtx m6))
   rw [← Nat.add_assoc] at hq6 hf6 ho7 hg7
   obtain ⟨w7,hw7⟩ : ∃ V,V = w6.setCell ⟨g,o + i * 8 + 6,none⟩ (.string (mtx m6)):=⟨_,rfl⟩
   obtain ⟨m7,hm7⟩ : ∃ q : Nat,((q : Nat) : Int) = (m6 : Int) + 1:=⟨m6 + 1,by omega⟩
   go_upto_region 18 with fail
   rw [← hw7] at ho7 hg7 ⊢
   rw [← hm7]
   have HM7:=hid (show m7 = m6 + 1 by omega)
   clear hw7 hq6 hf6 hoA hgA hm7
   have hrw:=rowM_set7 (mkMs k M i) vs i HI.out (mkMg k M i)
   rw [← HXS.out] at hrw
   have a0 : kM k M i = m0:=HM0.out.symm
   have a1 : kM k M i + 1 = m1:=by have:=HM1.out;omega
   have a2 : kM k M i + 2 = m2:=by have:=HM2.out;omega
   have a3 : kM k M i + 3 = m3:=by have:=HM3.out;omega
   have a4 : kM k M i + 4 = m4:=by have:=HM4.out;omega
   have a5 : kM k M i + 5 = m5:=by have:=HM5.out;omega
   have a6 : kM k M i + 6 = m6:=by have:=HM6.out;omega
   have a7 : kM k M i + 7 = m7:=by have:=HM7.out;omega
   have hmk : mkMg k M i = ⟨(m0 : Nat),(m1 : Nat),(m2 : Nat),(m3 : Nat),(m4 : Nat),(m5 : Nat),mtx m6,mks m7 (M.getD i dMgD).ss.length⟩:=by unfold mkMg;rw [a7,a6,a5,a4,a3,a2,a1,a0]
   rw [hmk] at hrw
   dsimp only at hrw
   rw [hrw,← hmk] at ho7
   have HA7:=hid a7
   have HMK:=hid hmk
   clear hrw hmk a0 a1 a2 a3 a4 a5 a6 a7
   have hq7:=ho7.holds (i * 8 + 7) (by omega)
   rw [rowM_get _ _ _ _ (by rw [List.length_set];exact HI.out) (by omega)] at hq7
   obtain ⟨u,hu⟩ : ∃ u,u = vs.getD i nilV:=⟨_,rfl⟩
   rw [← hu] at hq7
   have hq7' : (mcell (((mkMs k M i).set i (mkMg k M i)).getD i dMgD) u)[7]? = some u:=rfl
   rw [hq7',← Nat.add_assoc] at hq7
   have hdp:=(HP.out.dep i HI.out).grown hg7 (HP.out.dr i HI.out)
   have hdd : ((mkMs k M i).getD i dMgD).ss = (M.getD i dMgD).ss:=by rw [mkMs_get _ _ _ (by rw [HL.out];exact hlt),if_neg (by omega)]
   rw [hdd,← hu] at hdp
   have hdn:=HD.out i (by rw [HL.out];exact hlt)
   obtain ⟨dn,hdn'⟩ : ∃ dn,dn = (M.getD i dMgD).ss.length:=⟨_,rfl⟩
   rw [← hdn'] at hdp hdn
   obtain ⟨ua,uc,hus⟩:=hdp.slc
   rw [hus] at hdp hq7
   have HU:=hid hu
   have HUS:=hid hus
   have HO7:=hid ho7
   have HDN:=hid hdn'
   have hp7 : 0 < m7:=by have:=HM7.out;omega
   have hb7 : m7 ≤ 10000000010:=by have:=HM7.out;omega
   clear hu hus ho7 hdd hq7' hdn'
   go_wp2_with fail
   refine (markStringS_own2 ua dn uc m7 B _ _ hp7 (by omega) hdn hdp).mono ?_
   rintro e w8 ⟨rfl,ho8,hg8⟩
   have HP8 : Hid (MsO w8 B (.slice (some ⟨g,o,none⟩) n c) (mkMs k M (i + 1)) vs):=by
    rw [← mkMs_set k M (by rw [HL.out];exact hlt)]
    refine HP.out.upd HI.out hg7 (.inr ⟨g,o,c,by rw [mkMs_length,HL.out],by rw [mkMs_length,HL.out];exact HO7.out⟩) (by rw [← HU.out,HUS.out];exact hg8) ?_
    rw [← HU.out,HUS.out,HMK.out]
    dsimp only
    rw [mks_length,← HDN.out]
    exact ho8
   have HG8:=hid ((HG.out.step (Grew.of hg7) (by intro r hr;rw [List.mem_singleton.1 hr];exact rowsMs_v _ _ _)).step (Grew.of hg8) (by intro r hr;rw [List.mem_singleton.1 hr,← HUS.out,HU.out];exact rowsMs_d _ _ _ (by rw [HL.out];exact hlt)))
   clear hg7 hg8 ho8 hdp hq7
   go_wp2
   go_roundw
   case rel=>exact ⟨i + 1,by omega,by go_num,by simp only [kM];rw [HA7.out,← HDN.out];congr 1,HP8.out,HG8.out⟩
   case measure=>simp [intOf];omega
  ·obtain rfl : i = n:=by omega
   go_wp2
   go_ret
   exact ⟨rfl,hP,hG⟩
theorem markMessageS_nilO (k : Nat) (w : World) :
  Calls Tryz.prog 55 #[.slice none 0 0,.int .i64 k] w fun e w'=>e = .returned (.int .i64 (k : Int)) ∧ w' = w:=by
 go_enter Tryz.func55,Tryz.ntmps55
 go_wp2
 go_loop [1,5] (fun kv x=>x = .int .i64 0 ∧ kv = .int .i64 k) (fun _ _=>0)
 case atStart=>exact ⟨rfl,rfl⟩
 case round =>
  obtain ⟨rfl,rfl⟩:=hrel
  go_wp2
  go_ret
  exact ⟨rfl,rfl⟩
theorem markMessageS_own (v : Value) (k : Nat) (B : Nat) (M : List MgD) (vs : List Value) (w : World) (hk0 : 0 < k) (hkm : k ≤ 1000000000) (hn : M.length ≤ 4096) (hL : ∀ j,j < M.length → (M.getD j dMgD).ss.length ≤ 1048576) (h : MsO w B v M vs) :
  Calls Tryz.prog 55 #[v,.int .i64 k] w fun e w'=>e = .returned (.int .i64 (kM k M M.length : Nat)) ∧ MsO w' B v (mkMs k M M.length) vs ∧ Grew (rowsMs v M vs) w w':=by
 have hrow:=h.row
 rcases hrow with ⟨rfl,hn0,_⟩ | ⟨g,o,c,rfl,_⟩
 ·obtain rfl:=List.length_eq_zero_iff.1 hn0
  refine (markMessageS_nilO k w).mono ?_
  rintro e w' ⟨rfl,rfl⟩
  exact ⟨rfl,h,Grew.refl _ _⟩
 ·exact markMessageS_c g o _ c k B M vs w hk0 hkm hn rfl hL h
theorem mtxM_size (k : Nat) : (mtx k).size ≤ k + 1:=by
 have hl:=lp_length k k []
 show (109 :: lp k k []).toArray.size ≤ k + 1
 simp only [List.size_toArray,List.length_cons] at hl ⊢
 simp at hl
 omega
theorem mks_sizesM (k n : Nat) (hk : k ≤ 10000000010) (hn : n ≤ 1048576) : ∀ s ∈ mks k n,s.size ≤ maxLen:=by
 intro s hs
 obtain ⟨j,hj,rfl⟩:=List.mem_iff_getElem.1 hs
 rw [mks_length] at hj
 have:=mks_get k hj
 simp only [List.getD,List.getElem?_eq_getElem (show j < (mks k n).length by rw [mks_length];exact hj),Option.getD_some] at this
 rw [this]
 have:=mtxM_size (k + j)
 unfold maxLen;omega
theorem mkMs_fit (k : Nat) (M : List MgD) (hk : k ≤ 1000000000) (hn : M.length ≤ 4096) (hL : ∀ j,j < M.length → (M.getD j dMgD).ss.length ≤ 1048576) : fitM (mkMs k M M.length):=fun j hj=>by
 rw [mkMs_length] at hj
 unfold gMs
 rw [mkMs_get _ _ _ hj,if_pos hj]
 have h1:=kM_le k M hL j (by omega)
 have h2:=mtxM_size (kM k M j + 6)
 have h3:=hL j hj
 have h4 : j * 1048583 ≤ 4096 * 1048583:=Nat.mul_le_mul_right _ (by omega)
 unfold mkMg
 dsimp only
 exact ⟨by unfold maxLen;omega,⟨⟨by omega,by omega⟩,⟨by omega,by omega⟩,⟨by omega,by omega⟩,⟨by omega,by omega⟩,⟨by omega,by omega⟩,⟨by omega,by omega⟩⟩,mks_sizesM _ _ (by omega) h3⟩
theorem heldMessageS_at (a : Option Addr) (b o n c k : Nat) (M : List MgD) (w : World) (hk0 : 0 < k) (hkm : k ≤ 1000000000) (hn : n ≤ 4096) (hl : M.length = n) (hL : ∀ j,j < M.length → (M.getD j dMgD).ss.length ≤ 1048576) (h : MsAt w a b o n (mkMs k M n)) :
  Calls Tryz.prog 57 #[.slice a n c,.int .i64 k] w fun e w'=>e = .returned (.int .i64 (kM k M n : Nat)) ∧ Below w.heap.size w w':=by
 have HKA : Hid (∀ i,i ≤ n → 0 < kM k M i ∧ kM k M i ≤ 10000000000):=fun i hi=>by have:=kM_le k M hL i (by omega);omega
 have HD:=hid hL
 have HL:=hid hl
 clear hl hL hkm hk0
 go_enter Tryz.func57,Tryz.ntmps57
 go_wp2
 go_loopw [1,5] (fun kv x wr=>∃ i : Nat,i ≤ n ∧ x = .int .i64 i ∧ kv = .int .i64 (kM k M i : Nat) ∧ Below w.heap.size w wr) (fun _ x _=>n - (intOf x).toNat)
 case atStart=>exact ⟨0,Nat.zero_le _,rfl,rfl,Below.refl _ _⟩
 case round =>
  obtain ⟨i,hi,rfl,rfl,hB⟩:=hrel
  by_cases hlt : i < n
  ·have hlt' : (i : Int) < (n : Int):=by omega
   obtain ⟨hp0,hb0⟩:=HKA.out i hi
   obtain rfl:=h.ad (by omega)
   have hT:=h.below' hB
   have hg : gMs (mkMs k M n) i = mkMg k M i:=by unfold gMs;rw [mkMs_get _ _ _ (by rw [HL.out];exact hlt),if_pos hlt]
   have c0:=hT.c0 i hlt
   have c1:=hT.c1 i hlt
   have c2:=hT.c2 i hlt
   have c3:=hT.c3 i hlt
   have c4:=hT.c4 i hlt
   have c5:=hT.c5 i hlt
   have c6:=hT.c6 i hlt
   obtain ⟨a',b',o',c',c7,hI⟩:=hT.cn i hlt
   rw [hg] at c0 c1 c2 c3 c4 c5 c6 c7 hI
   unfold mkMg at c0 c1 c2 c3 c4 c5 c6 c7 hI
   dsimp only at c0 c1 c2 c3 c4 c5 c6 c7 hI
   rw [mks_length] at c7 hI
   have hdn:=HD.out i (by rw [HL.out];exact hlt)
   obtain ⟨dn,hdn'⟩ : ∃ dn,dn = (M.getD i dMgD).ss.length:=⟨_,rfl⟩
   rw [← hdn'] at hdn hI c7
   obtain ⟨m0,hm0⟩ : ∃ m,m = kM k M i:=⟨_,rfl⟩
   rw [← hm0] at c0 c1 c2 c3 c4 c5 c6 hI hp0 hb0
   rw [← hm0]
   have HE:=hid (show kM k M (i + 1) = m0 + 7 + dn by rw [kM,← hm0,← hdn'])
   clear hm0 hdn' hT hg
   obtain ⟨m1,hm1⟩ : ∃ q : Nat,((q : Nat) : Int) = (m0 : Int) + 1:=⟨m0 + 1,by omega⟩
   have e1 : m0 + 1 = m1:=by omega
   obtain ⟨m2,hm2⟩ : ∃ q : Nat,((q : Nat) : Int) = (m1 : Int) + 1:=⟨m1 + 1,by omega⟩
   have e2 : m0 + 2 = m2:=by omega
   obtain ⟨m3,hm3⟩ : ∃ q : Nat,((q : Nat) : Int) = (m2 : Int) + 1:=⟨m2 + 1,by omega⟩
   have e3 : m0 + 3 = m3:=by omega
   obtain ⟨m4,hm4⟩ : ∃ q : Nat,((q : Nat) : Int) = (m3 : Int) + 1:=⟨m3 + 1,by omega⟩
   have e4 : m0 + 4 = m4:=by omega
   obtain ⟨m5,hm5⟩ : ∃ q : Nat,((q : Nat) : Int) = (m4 : Int) + 1:=⟨m4 + 1,by omega⟩
   have e5 : m0 + 5 = m5:=by omega
   obtain ⟨m6,hm6⟩ : ∃ q : Nat,((q : Nat) : Int) = (m5 : Int) + 1:=⟨m5 + 1,by omega⟩
   have e6 : m0 + 6 = m6:=by omega
   obtain ⟨m7,hm7⟩ : ∃ q : Nat,((q : Nat) : Int) = (m6 : Int) + 1:=⟨m6 + 1,by omega⟩
   have e7 : m0 + 7 = m7:=by omega
   rw [e1] at c1
   rw [e2] at c2
   rw [e3] at c3
   rw [e4] at c4
   rw [e5] at c5
   rw [e6] at c6
   rw [e7] at hI
   have HE7:=hid (show kM k M (i + 1) = m7 + dn by rw [HE.out];omega)
   have hp6 : 0 < m6:=by omega
   have hp7 : 0 < m7:=by omega
   have hb6 : m6 ≤ 10000000010:=by omega
   have hb7 : m7 ≤ 10000000010:=by omega
   have hb1 : m1 ≤ 10000000010:=by omega
   have hb2 : m2 ≤ 10000000010:=by omega
   have hb3 : m3 ≤ 10000000010:=by omega
   have hb4 : m4 ≤ 10000000010:=by omega
   have hb5 : m5 ≤ 10000000010:=by omega
   clear e1 e2 e3 e4 e5 e6 e7 HE
   have hBd : Below w.heap.size w wr.drew:=hB.drew
   have G1:=hid hm1
   have G2:=hid hm2
   have G3:=hid hm3
   have G4:=hid hm4
   have G5:=hid hm5
   have G6:=hid hm6
   have G7:=hid hm7
   clear hm1 hm2 hm3 hm4 hm5 hm6 hm7
   go_upto_region 7 with fail
   rw [← G1.out]
   clear c0
   go_upto_region 10 with fail
   rw [← G2.out]
   clear c1
   go_upto_region 13 with fail
   rw [← G3.out]
   clear c2
   go_upto_region 16 with fail
   rw [← G4.out]
   clear c3
   go_upto_region 19 with fail
   rw [← G5.out]
   clear c4
   go_upto_region 22 with fail
   rw [← G6.out]
   clear c5
   obtain ⟨s,hs⟩ : ∃ s,s = mtx m6:=⟨_,rfl⟩
   rw [← hs] at c6
   have HC : Hid (∀ w1 : World,Calls Tryz.prog 92 #[.int .i64 (m6 : Nat)] w1 fun e w'=>e = .returned (.string s) ∧ Below w1.heap.size w1 w'):=fun w1=>by
    rw [hs];exact markText_any m6 w1 hp6 (by omega)
   have HI:=hid (hI.below' (Below.refl _ _).drew)
   clear hs hI hB
   go_wp2
   go_region_held3 (fun w'=>w'.cell? ⟨b,o + i * 8 + 6,none⟩ = some (.string s)) (first | (simp [go_sem, *];done) | assumption)
    (first
     | (go_at_call 92;refine (HC.out _).mono ?_;rintro e w1 ⟨rfl,hb1⟩;have d6:=keepC hb1 c6;have d7:=keepC hb1 c7;have hI1:=HI.out.below' hb1;have hB1:=hBd.trans (hb1.mono hBd.size)))
   clear c6 c7 HI hBd hb1 HC
   go_wp2_with fail
   rw [← G7.out]
   refine (heldStringS_any a' b' o' dn c' m7 _ hp7 (by omega) hdn hI1).mono ?_
   rintro e w2 ⟨rfl,hb2⟩
   have hB2:=hB1.trans (hb2.mono hB1.size)
   have hnn : ¬ ((m7 : Int) + (dn : Int)) < 0:=by omega
   clear hB1 hb2 hI1 d6 d7
   go_wp2
   go_roundw
   case rel=>exact ⟨i + 1,by omega,by go_num,by rw [HE7.out];congr 1,hB2⟩
   case measure=>simp [intOf];omega
  ·obtain rfl : i = n:=by omega
   go_wp2
   go_ret
   exact ⟨rfl,hB⟩
theorem heldMessageS_own (v : Value) (k : Nat) (B : Nat) (M : List MgD) (vs : List Value) (w : World) (hk0 : 0 < k) (hkm : k ≤ 1000000000) (hn : M.length ≤ 4096) (hL : ∀ j,j < M.length → (M.getD j dMgD).ss.length ≤ 1048576) (h : MsO w B v (mkMs k M M.length) vs) :
  Calls Tryz.prog 57 #[v,.int .i64 k] w fun e w'=>e = .returned (.int .i64 (kM k M M.length : Nat)) ∧ Below w.heap.size w w':=by
 obtain ⟨a,b,o,c,rfl,hT⟩:=h.at (mkMs_fit k M hkm hn hL) (by rw [mkMs_length];unfold maxLen;omega)
 rw [mkMs_length] at hT
 rw [mkMs_length]
 exact heldMessageS_at a b o _ c k M _ hk0 hkm hn rfl hL hT
end Go.Proofs.YtaeomkpofcbmiaaGreatDoor
namespace Go.Proofs.YtaeomkpofcbmiaaGreatDoor
open Go.RowKit
def lvs (d : BD) (h : BH) (M : List MgD) (x : Option Addr) (y : Nat) : List Value:=[.int .i64 d.wk,.bool d.up,.int .i64 d.now,.int .i64 d.sn,.int .i64 d.ep,.int .i64 d.gv,.slice h.a1 d.L1.length h.c1,.slice h.a2 d.L2.length h.c2,.slice h.ar d.R.length h.cr,.slice h.aj d.J.length h.cj,.slice h.az d.S.length h.cs,.slice h.ao d.O.length h.co,.slice x M.length y]
def rowsL (d : BD) (h : BH) (M : List MgD) (x : Option Addr) (y : Nat) (q : List Value) : List (Option Nat):=rowsB d h ++ rowsMs (.slice x M.length y) M q
theorem LedO.lo {w : World} {B : Nat} {d : BD} {h : BH} {M : List MgD} {x : Option Addr} {y : Nat} {q : List Value} (hO : LedO w B d h (.slice x M.length y) M q) : ∀ r ∈ rowsL d h M x y q,∀ k,r = some k → B ≤ k ∧ k < w.heap.size:=fun r hr k hk=>by
 rcases List.mem_append.1 hr with hr | hr
 ·exact hO.bo.lo r hr k hk
 ·exact hO.ms.lo r hr k hk
theorem LedO.blk {w w' : World} {B : Nat} {d : BD} {h : BH} {M : List MgD} {x : Option Addr} {y : Nat} {q : List Value} (hO : LedO w B d h (.slice x M.length y) M q) (hb : ∀ r ∈ rowsL d h M x y q,∀ k,r = some k → w'.heap[k]? = w.heap[k]?) : LedO w' B d h (.slice x M.length y) M q :=
 ⟨hO.bo.blk (fun r hr=>hb r (List.mem_append_left _ hr)),⟨hO.ms.len,hO.ms.row.blkP (fun k hk=>hb _ (List.mem_append_right _ (rowsMs_v _ _ _)) k hk),fun j hj=>(hO.ms.dep j hj).blkP (fun k hk=>hb _ (List.mem_append_right _ (rowsMs_d _ _ _ hj)) k hk),hO.ms.dr,hO.ms.dd⟩,hO.dr,hO.dv⟩
theorem LedO.below {w w' : World} {B : Nat} {d : BD} {h : BH} {M : List MgD} {v : Value} {q : List Value} (hO : LedO w B d h v M q) (hb : Below w.heap.size w w') : LedO w' B d h v M q :=
 ⟨hO.bo.below hb,hO.ms.below hb,hO.dr,hO.dv⟩
theorem LedO.mono {w : World} {B B' : Nat} {d : BD} {h : BH} {M : List MgD} {x : Option Addr} {y : Nat} {q : List Value} (hO : LedO w B d h (.slice x M.length y) M q) (hB : B' ≤ B) : LedO w B' d h (.slice x M.length y) M q :=
 ⟨hO.bo.mono hB,hO.ms.mono hB,hO.dr,hO.dv⟩
theorem LedO.grew {w w' : World} {B : Nat} {d : BD} {h : BH} {M : List MgD} {x : Option Addr} {y : Nat} {q : List Value} {rows : List (Option Nat)} (hO : LedO w B d h (.slice x M.length y) M q) (hg : Grew rows w w') (hd : ∀ r ∈ rows,∀ k,r = some k → ∀ r' ∈ rowsL d h M x y q,r' ≠ some k) : LedO w' B d h (.slice x M.length y) M q :=
 hO.blk (fun r hr k hk=>hg.2 k (hO.lo r hr k hk).2 (fun r' hr' e=>hd r' hr' k e r hr hk))
def totL (d : BD) (M : List MgD) : Nat:=kM (totB d) M M.length
theorem Dj.of2 {x y : Option Nat} (h : Dj x y) {k : Nat} (hx : x = some k) : y ≠ some k:=fun e=>by
 rcases h with h | h
 ·rw [h] at hx;cases hx
 ·exact h (hx.trans e.symm)
theorem LedO.cross {w : World} {B : Nat} {d : BD} {h : BH} {M : List MgD} {x : Option Addr} {y : Nat} {q : List Value} (hO : LedO w B d h (.slice x M.length y) M q) : ∀ r ∈ rowsB d h,∀ k,r = some k → ∀ r' ∈ rowsMs (.slice x M.length y) M q,r' ≠ some k:=fun r hr k hk r' hr'=>by
 rcases rowsMs_of hr' with rfl | ⟨j,hj,rfl⟩
 ·exact (hO.dr r hr).of2 hk
 ·exact (hO.dv r hr j hj).of2 hk
theorem eqLedO_any (d : BD) (M : List MgD) (h h' : BH) (x x' : Option Addr) (y y' : Nat) (q q' : List Value) (B B' : Nat) (w : World) (hO : LedO w B d h (.slice x M.length y) M q) (hO' : LedO w B' d h' (.slice x' M.length y') M q') (hg : goodL d M) :
  Calls Tryz.prog 12 #[.agg #[.int .i64 d.wk,.bool d.up,.int .i64 d.now,.int .i64 d.sn,.int .i64 d.ep,.int .i64 d.gv,.slice h.a1 d.L1.length h.c1,.slice h.a2 d.L2.length h.c2,.slice h.ar d.R.length h.cr,.slice h.aj d.J.length h.cj,.slice h.az d.S.length h.cs,.slice h.ao d.O.length h.co,.slice x M.length y],.agg #[.int .i64 d.wk,.bool d.up,.int .i64 d.now,.int .i64 d.sn,.int .i64 d.ep,.int .i64 d.gv,.slice h'.a1 d.L1.length h'.c1,.slice h'.a2 d.L2.length h'.c2,.slice h'.ar d.R.length h'.cr,.slice h'.aj d.J.length h'.cj,.slice h'.az d.S.length h'.cs,.slice h'.ao d.O.length h'.co,.slice x' M.length y']] w fun e w'=>e = .returned (.bool true) ∧ Below w.heap.size w w':=by
 obtain ⟨a1,b1,o1,c1,he1,hM1⟩:=hO.ms.at hg.fitM (by have:=hg.l;unfold maxLen;omega)
 obtain ⟨a2,b2,o2,c2,he2,hM2⟩:=hO'.ms.at hg.fitM (by have:=hg.l;unfold maxLen;omega)
 injection he1 with e1 e2 e3
 subst e1 e3
 injection he2 with e4 e5 e6
 subst e4 e6
 have hB1:=hO.bo.m hg.f
 have hB2:=hO'.bo.m hg.f
 obtain ⟨W,hW⟩ : ∃ W,W = (w.alloc (.cells #[.int .i64 d.wk,.bool d.up,.int .i64 d.now,.int .i64 d.sn,.int .i64 d.ep,.int .i64 d.gv,.slice h.a1 d.L1.length h.c1,.slice h.a2 d.L2.length h.c2,.slice h.ar d.R.length h.cr,.slice h.aj d.J.length h.cj,.slice h.az d.S.length h.cs,.slice h.ao d.O.length h.co,.slice x M.length y] 46)).alloc (.cells #[.int .i64 d.wk,.bool d.up,.int .i64 d.now,.int .i64 d.sn,.int .i64 d.ep,.int .i64 d.gv,.slice h'.a1 d.L1.length h'.c1,.slice h'.a2 d.L2.length h'.c2,.slice h'.ar d.R.length h'.cr,.slice h'.aj d.J.length h'.cj,.slice h'.az d.S.length h'.cs,.slice h'.ao d.O.length h'.co,.slice x' M.length y'] 46):=⟨_,rfl⟩
 have hb0 : Below w.heap.size w W:=by rw [hW];exact ((Below.refl _ _).alloc (Nat.le_refl _) _).alloc (by simp) _
 have hC : CF W w.heap.size [.int .i64 d.wk,.bool d.up,.int .i64 d.now,.int .i64 d.sn,.int .i64 d.ep,.int .i64 d.gv,.slice h.a1 d.L1.length h.c1,.slice h.a2 d.L2.length h.c2,.slice h.ar d.R.length h.cr,.slice h.aj d.J.length h.cj,.slice h.az d.S.length h.cs,.slice h.ao d.O.length h.co,.slice x M.length y]:=by rw [hW];exact (CF.made w #[.int .i64 d.wk,.bool d.up,.int .i64 d.now,.int .i64 d.sn,.int .i64 d.ep,.int .i64 d.gv,.slice h.a1 d.L1.length h.c1,.slice h.a2 d.L2.length h.c2,.slice h.ar d.R.length h.cr,.slice h.aj d.J.length h.cj,.slice h.az d.S.length h.cs,.slice h.ao d.O.length h.co,.slice x M.length y] 46).block (Below.heap_alloc _ _ _ (by simp))
 have hD : CF W (w.heap.size + 1) [.int .i64 d.wk,.bool d.up,.int .i64 d.now,.int .i64 d.sn,.int .i64 d.ep,.int .i64 d.gv,.slice h'.a1 d.L1.length h'.c1,.slice h'.a2 d.L2.length h'.c2,.slice h'.ar d.R.length h'.cr,.slice h'.aj d.J.length h'.cj,.slice h'.az d.S.length h'.cs,.slice h'.ao d.O.length h'.co,.slice x' M.length y']:=by
  rw [hW]
  have:=CF.made (w.alloc (.cells #[.int .i64 d.wk,.bool d.up,.int .i64 d.now,.int .i64 d.sn,.int .i64 d.ep,.int .i64 d.gv,.slice h.a1 d.L1.length h.c1,.slice h.a2 d.L2.length h.c2,.slice h.ar d.R.length h.cr,.slice h.aj d.J.length h.cj,.slice h.az d.S.length h.cs,.slice h.ao d.O.length h.co,.slice x M.length y] 46)) #[.int .i64 d.wk,.bool d.up,.int .i64 d.now,.int .i64 d.sn,.int .i64 d.ep,.int .i64 d.gv,.slice h'.a1 d.L1.length h'.c1,.slice h'.a2 d.L2.length h'.c2,.slice h'.ar d.R.length h'.cr,.slice h'.aj d.J.length h'.cj,.slice h'.az d.S.length h'.cs,.slice h'.ao d.O.length h'.co,.slice x' M.length y'] 46
  simpa using this
 have zW : w.heap.size + 2 = W.heap.size:=by rw [hW];simp
 have HE:=hid (eqBossO_any d h h' W (hB1.below' hb0) (hB2.below' hb0))
 have HM1:=hid hM1
 have HM2:=hid hM2
 have HW:=hid hW
 clear hW hO hO' hg hB1 hB2 hM1 hM2 e2 e5
 obtain ⟨c0,c1,c2,c3,c4,c5,c6,c7,c8,c9,c10,c11,c12⟩:=cf13 hC
 obtain ⟨d0,d1,d2,d3,d4,d5,d6,d7,d8,d9,d10,d11,d12⟩:=cf13 hD
 go_enter Tryz.func12,Tryz.ntmps12
 go_wp2_with fail
 rw [← HW.out]
 refine HE.out.mono ?_
 rintro e1 w1 ⟨rfl,hb1⟩
 clear HW HE
 have k12 : w1.cell? ⟨w.heap.size,12,none⟩ = some (.slice x M.length y):=keepB hb1 c12
 have l12 : w1.cell? ⟨w.heap.size + 1,12,none⟩ = some (.slice x' M.length y'):=keepB hb1 d12
 have hB1:=hb0.trans (hb1.mono hb0.size)
 clear c0 d0 c1 d1 c2 d2 c3 d3 c4 d4 c5 d5 c6 d6 c7 d7 c8 d8 c9 d9 c10 d10 c11 d11 c12 d12 hC hD
 go_wp2_with fail
 refine (eqMessageS_any x x' b1 o1 M.length y b2 o2 y' M _ (HM1.out.below' hB1) (HM2.out.below' hB1)).mono ?_
 rintro e2 w2 ⟨rfl,hb2⟩
 have hB2:=hB1.trans (hb2.mono hB1.size)
 clear k12 l12
 go_wp2
 go_ret
 exact ⟨rfl,hB2⟩
theorem markLedO_any (d : BD) (M : List MgD) (h : BH) (x : Option Addr) (y : Nat) (q : List Value) (B : Nat) (w : World) (hO : LedO w B d h (.slice x M.length y) M q) (hg : goodL d M) :
  Calls Tryz.prog 19 #[.agg #[.int .i64 d.wk,.bool d.up,.int .i64 d.now,.int .i64 d.sn,.int .i64 d.ep,.int .i64 d.gv,.slice h.a1 d.L1.length h.c1,.slice h.a2 d.L2.length h.c2,.slice h.ar d.R.length h.cr,.slice h.aj d.J.length h.cj,.slice h.az d.S.length h.cs,.slice h.ao d.O.length h.co,.slice x M.length y],.int .i64 1] w fun e w'=>e = .returned (.int .i64 (totL d M : Nat)) ∧ LedO w' B (mkB d) h (.slice x M.length y) (mkMs (totB d) M M.length) q ∧ Grew (rowsL d h M x y q) w w':=by
 obtain ⟨W,hW⟩ : ∃ W,W = w.alloc (.cells #[.int .i64 d.wk,.bool d.up,.int .i64 d.now,.int .i64 d.sn,.int .i64 d.ep,.int .i64 d.gv,.slice h.a1 d.L1.length h.c1,.slice h.a2 d.L2.length h.c2,.slice h.ar d.R.length h.cr,.slice h.aj d.J.length h.cj,.slice h.az d.S.length h.cs,.slice h.ao d.O.length h.co,.slice x M.length y] 46):=⟨_,rfl⟩
 have hb0 : Below w.heap.size w W:=by rw [hW];exact (Below.refl _ _).alloc (Nat.le_refl _) _
 have hC : CF W w.heap.size [.int .i64 d.wk,.bool d.up,.int .i64 d.now,.int .i64 d.sn,.int .i64 d.ep,.int .i64 d.gv,.slice h.a1 d.L1.length h.c1,.slice h.a2 d.L2.length h.c2,.slice h.ar d.R.length h.cr,.slice h.aj d.J.length h.cj,.slice h.az d.S.length h.cs,.slice h.ao d.O.length h.co,.slice x M.length y]:=by rw [hW];exact CF.made w #[.int .i64 d.wk,.bool d.up,.int .i64 d.now,.int .i64 d.sn,.int .i64 d.ep,.int .i64 d.gv,.slice h.a1 d.L1.length h.c1,.slice h.a2 d.L2.length h.c2,.slice h.ar d.R.length h.cr,.slice h.aj d.J.length h.cj,.slice h.az d.S.length h.cs,.slice h.ao d.O.length h.co,.slice x M.length y] 46
 have zW : w.heap.size + 1 = W.heap.size:=by rw [hW];simp
 have hlo:=hO.lo
 have hOW:=hO.below hb0
 have hcr:=hOW.cross
 have htb : 0 < totB d ∧ totB d ≤ 1000000000:=by have:=hg.s;unfold BD.small at this;unfold totB;omega
 have HE:=hid (markBossO_any d h B W hOW.bo hg.s)
 have HO:=hid hOW
 have HLO:=hid hlo
 have HCR:=hid hcr
 have HGG:=hid hg
 have HW:=hid hW
 clear hW hO hlo hcr hOW hg
 obtain ⟨c0,c1,c2,c3,c4,c5,c6,c7,c8,c9,c10,c11,c12⟩:=cf13 hC
 go_enter Tryz.func19,Tryz.ntmps19
 go_wp2_with fail
 rw [← HW.out]
 refine HE.out.mono ?_
 rintro e1 w1 ⟨rfl,ho1,hg1⟩
 clear HW HE c0 c1 c2 c3 c4 c5 c6 c7 c8 c9 c10 c11 c12
 have k12 : w1.cell? ⟨w.heap.size,12,none⟩ = some (.slice x M.length y):=((hC.block (hg1.block w.heap.size (by omega) (fun r hr e=>by have:=HLO.out r (List.mem_append_left _ hr) _ e;omega))) 12 (by simp)).1
 have HM1:=hid (HO.out.ms.grew hg1 (fun r hr k hk r' hr'=>HCR.out r hr k hk r' hr'))
 have HO1:=hid ho1
 have HG1:=hid ((Grew.bwM (rows:=rowsL d h M x y q) hb0).step hg1 (fun r hr=>List.mem_append_left _ hr))
 have HLO1:=hid (show ∀ r ∈ rowsB d h,∀ k,r = some k → k < w1.heap.size from fun r hr k hk=>by have:=HLO.out r (List.mem_append_left _ hr) k hk;have:=hg1.size;omega)
 clear hg1 ho1 hC
 go_wp2_with fail
 refine (markMessageS_own (.slice x M.length y) (totB d) B M q _ htb.1 htb.2 HGG.out.l HGG.out.len HM1.out).mono ?_
 rintro e2 w2 ⟨rfl,hm2,hg2⟩
 have HOF : Hid (LedO w2 B (mkB d) h (.slice x M.length y) (mkMs (totB d) M M.length) q):=by
  have hr : rowsB (mkB d) h = rowsB d h:=by simp [rowsB,mkB,mks_length,mk3_length,mk2_length]
  refine ⟨HO1.out.grew hg2 (fun r hr1 k hk r' hr2 e=>?_),hm2,fun r hr1=>?_,fun r hr1 j hj=>?_⟩
  ·rw [hr] at hr2
   exact HCR.out r' hr2 k e r hr1 hk
  ·rw [hr] at hr1;exact HO.out.dr r hr1
  ·rw [hr] at hr1;rw [mkMs_length] at hj;exact HO.out.dv r hr1 j hj
 have HG2:=hid (HG1.out.step hg2 (fun r hr=>List.mem_append_right _ hr))
 clear k12 hm2 hg2
 go_wp2
 go_ret
 exact ⟨rfl,HOF.out,HG2.out⟩
theorem heldLedO_any (d : BD) (M : List MgD) (h : BH) (x : Option Addr) (y : Nat) (q : List Value) (B : Nat) (w : World) (hO : LedO w B (mkB d) h (.slice x M.length y) (mkMs (totB d) M M.length) q) (hg : goodL d M) :
  Calls Tryz.prog 20 #[.agg #[.int .i64 d.wk,.bool d.up,.int .i64 d.now,.int .i64 d.sn,.int .i64 d.ep,.int .i64 d.gv,.slice h.a1 d.L1.length h.c1,.slice h.a2 d.L2.length h.c2,.slice h.ar d.R.length h.cr,.slice h.aj d.J.length h.cj,.slice h.az d.S.length h.cs,.slice h.ao d.O.length h.co,.slice x M.length y],.int .i64 1] w fun e w'=>e = .returned (.int .i64 (totL d M : Nat)) ∧ Below w.heap.size w w':=by
 obtain ⟨W,hW⟩ : ∃ W,W = w.alloc (.cells #[.int .i64 d.wk,.bool d.up,.int .i64 d.now,.int .i64 d.sn,.int .i64 d.ep,.int .i64 d.gv,.slice h.a1 d.L1.length h.c1,.slice h.a2 d.L2.length h.c2,.slice h.ar d.R.length h.cr,.slice h.aj d.J.length h.cj,.slice h.az d.S.length h.cs,.slice h.ao d.O.length h.co,.slice x M.length y] 46):=⟨_,rfl⟩
 have hb0 : Below w.heap.size w W:=by rw [hW];exact (Below.refl _ _).alloc (Nat.le_refl _) _
 have hC : CF W w.heap.size [.int .i64 d.wk,.bool d.up,.int .i64 d.now,.int .i64 d.sn,.int .i64 d.ep,.int .i64 d.gv,.slice h.a1 d.L1.length h.c1,.slice h.a2 d.L2.length h.c2,.slice h.ar d.R.length h.cr,.slice h.aj d.J.length h.cj,.slice h.az d.S.length h.cs,.slice h.ao d.O.length h.co,.slice x M.length y]:=by rw [hW];exact CF.made w #[.int .i64 d.wk,.bool d.up,.int .i64 d.now,.int .i64 d.sn,.int .i64 d.ep,.int .i64 d.gv,.slice h.a1 d.L1.length h.c1,.slice h.a2 d.L2.length h.c2,.slice h.ar d.R.length h.cr,.slice h.aj d.J.length h.cj,.slice h.az d.S.length h.cs,.slice h.ao d.O.length h.co,.slice x M.length y] 46
 have htb : 0 < totB d ∧ totB d ≤ 1000000000:=by have:=hg.s;unfold BD.small at this;unfold totB;omega
 have hn1 : ¬ ((totB d : Nat) : Int) < 0:=by omega
 have HE:=hid (heldBossO_any d h B W (hO.bo.below hb0) hg.s)
 have HM:=hid hO.ms
 have HGG:=hid hg
 have HW:=hid hW
 clear hW hO hg
 obtain ⟨c0,c1,c2,c3,c4,c5,c6,c7,c8,c9,c10,c11,c12⟩:=cf13 hC
 go_enter Tryz.func20,Tryz.ntmps20
 go_wp2_with fail
 rw [← HW.out]
 refine HE.out.mono ?_
 rintro e1 w1 ⟨rfl,hb1⟩
 have k12 : w1.cell? ⟨w.heap.size,12,none⟩ = some (.slice x M.length y):=keepB hb1 c12
 have hB1:=hb0.trans (hb1.mono hb0.size)
 clear HW HE hC c0 c1 c2 c3 c4 c5 c6 c7 c8 c9 c10 c11 c12
 go_wp2_with fail
 refine (heldMessageS_own (.slice x M.length y) (totB d) B M q _ htb.1 htb.2 HGG.out.l HGG.out.len (HM.out.below hB1)).mono ?_
 rintro e2 w2 ⟨rfl,hb2⟩
 have hB2:=hB1.trans (hb2.mono hB1.size)
 have hn2' : ¬ ((kM (totB d) M M.length : Nat) : Int) < 0:=by omega
 clear k12
 go_wp2
 go_ret
 exact ⟨rfl,hB2⟩
end Go.Proofs.YtaeomkpofcbmiaaGreatDoor
