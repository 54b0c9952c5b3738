
import Derived.Test.YtaeomkpofcbmiaaGreatDoorQPow
import Derived.Test.YtaeomkpofcbmiaaGreatDoorQRms
import Derived.Test.YtaeomkpofcbmiaaGreatDoorQBoo
namespace Go.Proofs.YtaeomkpofcbmiaaGreatDoor
open Go.RowKit
theorem flat8 (f : Nat → List Value) (hf : ∀ j,(f j).length = 8) (n : Nat) : ((List.range n).flatMap f).length = n * 8:=by
 induction n with
 | zero=>rfl
 | succ n ih=>rw [List.range_succ,List.flatMap_append,List.length_append,ih];simp [hf];omega
theorem flat8_get (f : Nat → List Value) (hf : ∀ j,(f j).length = 8) (n j r : Nat) (hj : j < n) (hr : r < 8) : ((List.range n).flatMap f)[j * 8 + r]? = (f j)[r]?:=by
 induction n with
 | zero=>omega
 | succ n ih =>
  rw [List.range_succ,List.flatMap_append]
  have hl:=flat8 f hf n
  by_cases h : j < n
  ·rw [List.getElem?_append_left (by omega)];exact ih h
  ·obtain rfl : j = n:=by omega
   rw [List.getElem?_append_right (by omega),hl,show j * 8 + r - j * 8 = r by omega]
   simp
def mcell (m : MgD) (v : Value) : List Value:=[.int .i64 m.kd,.int .i64 m.fm,.int .i64 m.tw,.int .i64 m.ep,.int .i64 m.le,.int .i64 m.ta,.string m.x,v]
def rowM (ts : List MgD) (vs : List Value) : List Value:=(List.range ts.length).flatMap fun j=>mcell (ts.getD j dMgD) (vs.getD j nilV)
theorem rowM_length (ts : List MgD) (vs : List Value) : (rowM ts vs).length = ts.length * 8:=flat8 _ (fun _=>rfl) _
theorem rowM_get (ts : List MgD) (vs : List Value) (j r : Nat) (hj : j < ts.length) (hr : r < 8) : (rowM ts vs)[j * 8 + r]? = (mcell (ts.getD j dMgD) (vs.getD j nilV))[r]?:=flat8_get _ (fun _=>rfl) _ j r hj hr
theorem ext8 {xs ys : List Value} {n : Nat} (hx : xs.length = n * 8) (hy : ys.length = n * 8) (h : ∀ j r,j < n → r < 8 → xs[j * 8 + r]? = ys[j * 8 + r]?) : xs = ys:=by
 refine List.ext_getElem? fun i=>?_
 by_cases hi : i < n * 8
 ·have:=h (i / 8) (i % 8) (by omega) (by omega)
  rwa [show i / 8 * 8 + i % 8 = i by omega] at this
 ·rw [List.getElem?_eq_none (by omega),List.getElem?_eq_none (by omega)]
structure MsO (w : World) (B : Nat) (v : Value) (ts : List MgD) (vs : List Value) : Prop where
 len : vs.length = ts.length
 row : Own B w 8 v ts.length (rowM ts vs)
 dep : ∀ j,j < ts.length → Own B w 1 (vs.getD j nilV) (ts.getD j dMgD).ss.length ((ts.getD j dMgD).ss.map Value.string)
 dr : ∀ j,j < ts.length → Dn (vs.getD j nilV).ownBlock v.ownBlock
 dd : ∀ i j,i < j → j < ts.length → Dn (vs.getD i nilV).ownBlock (vs.getD j nilV).ownBlock
theorem MsO.nil (w : World) (B : Nat) : MsO w B nilV [] []:=⟨rfl,Own.nil _ _ _,fun j hj=>absurd hj (by simp),fun j hj=>absurd hj (by simp),fun i j _ hj=>absurd hj (by simp)⟩
theorem MsO.blk {w w' : World} {B : Nat} {v : Value} {ts : List MgD} {vs : List Value} (h : MsO w B v ts vs) (hb : ∀ q,B ≤ q → q < w.heap.size → w'.heap[q]? = w.heap[q]?) : MsO w' B v ts vs :=
 ⟨h.len,h.row.blkP (fun q hq=>hb q (h.row.row_lo q hq) (h.row.row_hi q hq)),fun j hj=>(h.dep j hj).blkP (fun q hq=>hb q ((h.dep j hj).row_lo q hq) ((h.dep j hj).row_hi q hq)),h.dr,h.dd⟩
theorem MsO.below {w w' : World} {B : Nat} {v : Value} {ts : List MgD} {vs : List Value} (h : MsO w B v ts vs) (hb : Below w.heap.size w w') : MsO w' B v ts vs:=h.blk (fun q _ hq=>hb.block q hq)
theorem MsO.grown {w w' : World} {B : Nat} {v : Value} {ts : List MgD} {vs : List Value} {row : Option Nat} (h : MsO w B v ts vs) (hg : w.grownBy w' row) (h1 : Dn v.ownBlock row) (h2 : ∀ j,j < ts.length → Dn (vs.getD j nilV).ownBlock row) : MsO w' B v ts vs :=
 ⟨h.len,h.row.grown hg h1,fun j hj=>(h.dep j hj).grown hg (h2 j hj),h.dr,h.dd⟩
theorem MsO.mono {w : World} {B B' : Nat} {v : Value} {ts : List MgD} {vs : List Value} (h : MsO w B v ts vs) (hB : B' ≤ B) : MsO w B' v ts vs :=
 ⟨h.len,h.row.mono' hB,fun j hj=>(h.dep j hj).mono' hB,h.dr,h.dd⟩
def fitM (M : List MgD) : Prop:=∀ j,j < M.length → (gMs M j).x.size ≤ maxLen ∧ (I64 (gMs M j).kd ∧ I64 (gMs M j).fm ∧ I64 (gMs M j).tw ∧ I64 (gMs M j).ep ∧ I64 (gMs M j).le ∧ I64 (gMs M j).ta) ∧ ∀ s ∈ (gMs M j).ss,s.size ≤ maxLen
theorem Own.strM {B : Nat} {w : World} {v : Value} {ss : List ByteArray} (h : Own B w 1 v ss.length (ss.map Value.string)) (hz : ∀ s ∈ ss,s.size ≤ maxLen) : ∃ a b o c,v = .slice a ss.length c ∧ StrsAt w a b o ss.length ss:=by
 rcases h with ⟨rfl,hn,hx⟩ | ⟨g,o,cap,rfl,hc⟩
 ·have : ss = []:=by simpa using hx
  subst this
  exact ⟨none,0,0,0,rfl,fun h=>absurd h (by simp),rfl,Nat.zero_le _,fun h=>absurd h (by simp),fun j hj=>absurd hj (by simp),by simp⟩
 ·exact ⟨_,g,o,cap,rfl,StrsAt.ofOwn hc hz⟩
theorem MsO.at {w : World} {B : Nat} {v : Value} {M : List MgD} {vs : List Value} (h : MsO w B v M vs) (hf : fitM M) (hm : M.length ≤ maxLen) : ∃ a b o c,v = .slice a M.length c ∧ MsAt w a b o M.length M:=by
 have hrow:=h.row
 rcases hrow with ⟨hv,hn,_⟩ | ⟨g,o,cap,hv,hc⟩
 ·have : M = []:=List.length_eq_zero_iff.1 hn
  subst this
  exact ⟨none,0,0,0,hv,fun h=>absurd h (by simp),rfl,hm,fun h=>absurd h (by simp),fun j hj=>absurd hj (by simp),fun j hj=>absurd hj (by simp),fun j hj=>absurd hj (by simp),fun j hj=>absurd hj (by simp),fun j hj=>absurd hj (by simp),fun j hj=>absurd hj (by simp),fun j hj=>absurd hj (by simp),fun j hj=>absurd hj (by simp),fun j hj=>absurd hj (by simp),fun j hj=>absurd hj (by simp)⟩
 ·have hol : ∀ j r,j < M.length → r < 8 → w.cell? ⟨g,o + (j * 8 + r),none⟩ = (mcell (gMs M j) (vs.getD j nilV))[r]?:=fun j r hj hr=>by
   rw [hc.holds (j * 8 + r) (by omega)];exact rowM_get M vs j r hj hr
  refine ⟨_,g,o,cap,hv,fun _=>rfl,rfl,hm,fun _=>hc.hi,fun j hj=>hol j 0 hj (by omega),fun j hj=>?_,fun j hj=>?_,fun j hj=>?_,fun j hj=>?_,fun j hj=>?_,fun j hj=>?_,fun j hj=>?_,fun j hj=>(hf j hj).1,fun j hj=>(hf j hj).2.1⟩
  ·rw [Nat.add_assoc];exact hol j 1 hj (by omega)
  ·rw [Nat.add_assoc];exact hol j 2 hj (by omega)
  ·rw [Nat.add_assoc];exact hol j 3 hj (by omega)
  ·rw [Nat.add_assoc];exact hol j 4 hj (by omega)
  ·rw [Nat.add_assoc];exact hol j 5 hj (by omega)
  ·rw [Nat.add_assoc];exact hol j 6 hj (by omega)
  ·obtain ⟨a',b',o',c',he,hi⟩:=(h.dep j hj).strM (hf j hj).2.2
   refine ⟨a',b',o',c',?_,hi⟩
   rw [Nat.add_assoc,hol j 7 hj (by omega),he];rfl
end Go.Proofs.YtaeomkpofcbmiaaGreatDoor
namespace Go.Proofs.YtaeomkpofcbmiaaGreatDoor
open Go.RowKit
structure HSt where
 gv : Int
 J : List Tr
 S : List (Bool × Int)
 M : List MgD
open Classical in
structure LedO (w : World) (B : Nat) (d : BD) (h : BH) (v : Value) (M : List MgD) (vs : List Value) : Prop where
 bo : BossO w B d h
 ms : MsO w B v M vs
 dr : ∀ r ∈ rowsB d h,Dj r v.ownBlock
 dv : ∀ r ∈ rowsB d h,∀ j,j < M.length → Dj r (vs.getD j nilV).ownBlock
def RetLd (e : Ending) (B : Nat) (w' : World) (F : BD × List MgD → Prop) : Prop:=∃ d h v M vs,e = .returned (.agg (bvs d h ++ [v]).toArray) ∧ LedO w' B d h v M vs ∧ F (d,M)
end Go.Proofs.YtaeomkpofcbmiaaGreatDoor
