
import Derived.Test.YtaeomkpofcbmiaaGreatDoorQBjm
import Derived.Test.YtaeomkpofcbmiaaGreatDoorQBok
import Derived.Test.YtaeomkpofcbmiaaGreatDoorQBke
import Derived.Maps.OwnSet
set_option maxHeartbeats 8000000
set_option maxRecDepth 100000
namespace Go.Proofs.YtaeomkpofcbmiaaGreatDoor
open Go.RowKit
def LastP (D : DataW Unit) (J : List Tr) (k : Nat) : Prop:=LastD D J k ∧ ∀ l : Int,Maps.has D (.int .i64 l) = true ↔ ∃ i,i < k ∧ (t3 J i).1 = l ∧ l ≠ 0
theorem lastP_nil (J : List Tr) : LastP (.map []) J 0:=⟨lastD_nil J,fun l=>⟨fun h=>(by cases h),fun ⟨i,hi,_⟩=>absurd hi (by omega)⟩⟩
theorem LastP.put {D : DataW Unit} {J : List Tr} {k : Nat} {x0 : Int} (h : LastP D J k) (hx : (t3 J k).1 = x0) (h0 : ¬ x0 = 0) : LastP (D.put (.int .i64 x0) (.lit (.int .i64 k))) J (k + 1):=by
 refine ⟨h.1.put hx h0,fun l=>?_⟩
 by_cases e : l = x0
 ·subst e
  rw [Maps.has_put_same h.1.1 (isKeyI _)]
  exact ⟨fun _=>⟨k,by omega,hx,h0⟩,fun _=>rfl⟩
 ·rw [Maps.has_put_other (by simpa using e),h.2 l]
  constructor
  ·rintro ⟨i,hi,h1,h2⟩;exact ⟨i,by omega,h1,h2⟩
  ·rintro ⟨i,hi,h1,h2⟩
   by_cases ei : i = k
   ·subst ei;exact absurd (h1.symm.trans hx) e
   ·exact ⟨i,by omega,h1,h2⟩
theorem LastP.skip {D : DataW Unit} {J : List Tr} {k : Nat} (h : LastP D J k) (h0 : (t3 J k).1 = 0) : LastP D J (k + 1):=by
 refine ⟨h.1.skip h0,fun l=>?_⟩
 rw [h.2 l]
 constructor
 ·rintro ⟨i,hi,h1,h2⟩;exact ⟨i,by omega,h1,h2⟩
 ·rintro ⟨i,hi,h1,h2⟩
  by_cases ei : i = k
  ·subst ei;exact absurd (h1.symm.trans h0) h2
  ·exact ⟨i,by omega,h1,h2⟩
theorem byLeaseP_any (a : Option Addr) (b o n c : Nat) (J : List Tr) (w : World) (h : T3At w a b o n J) (hn : n ≤ 1048576) :
  Calls Tryz.prog 82 #[.slice a n c] w fun e w'=>∃ D : DataW Unit,e = .returned (.map (some w.heap.size)) ∧ w'.ownsMap Tryz.prog 3 (plainElem Tryz.prog 3) w.heap.size n D ∧ LastP D J n ∧ Below w.heap.size w w':=by
 have hmm:=@run_makeMap Tryz.prog
 go_enter Tryz.func82,Tryz.ntmps82
 go_wp2
 go_loopw [9] (fun i wr=>∃ k : Nat,k ≤ n ∧ i = .int .i64 k ∧ (∃ D : DataW Unit,wr.ownsMap Tryz.prog 3 (plainElem Tryz.prog 3) w.heap.size k D ∧ LastP D J k) ∧ Below w.heap.size w wr) (fun i _=>n - (intOf i).toNat)
 case atStart=>exact ⟨0,Nat.zero_le _,rfl,⟨_,World.ownsMap_made _ _ _ _,lastP_nil J⟩,(Below.refl _ _).alloc (Nat.le_refl _) _⟩
 case round =>
  obtain ⟨k,hk,rfl,⟨D,hown,hlast⟩,hb⟩:=hrel
  by_cases hlt : k < n
  ·obtain rfl:=h.ad (by omega)
   have hc0:=(h.below' hb).c0 k hlt
   have hc1:=(h.below' hb).c1 k hlt
   have hc2:=(h.below' hb).c2 k hlt
   obtain ⟨hr0,_,_⟩:=h.rng k hlt
   obtain ⟨⟨x0,x1,x2⟩,hx⟩ : ∃ x,x = t3 J k:=⟨_,rfl⟩
   rw [← hx] at hc0 hc1 hc2 hr0
   dsimp only at hc0 hc1 hc2 hr0
   have HX:=hid hx
   clear hx
   have hlt' : (k : Int) < (n : Int):=by omega
   obtain ⟨V,hV⟩ : ∃ V,V = wr.alloc (.cells #[.int .i64 x0,.int .i64 x1,.int .i64 x2] 76):=⟨_,rfl⟩
   have hbV : Below w.heap.size w V:=by rw [hV];exact hb.alloc hb.size _
   have hownV : V.ownsMap Tryz.prog 3 (plainElem Tryz.prog 3) w.heap.size k D:=by rw [hV];exact hown.alloc _
   have hmV : MC V wr.heap.size [.int .i64 x0,.int .i64 x1,.int .i64 x2]:=by rw [hV];exact MC.made wr _ _
   have y0 : V.cell? ⟨wr.heap.size,0,none⟩ = some (.int .i64 x0):=hmV 0 (by simp)
   have hml:=hownV.lt
   clear hmV hown
   go_upto_region 5 with fail
   rw [← hV]
   clear hV
   by_cases hz : x0 = 0
   ·have hz' : (x0 == 0) = true:=by simpa using hz
    have HZ:=hid hz
    clear hz
    go_wp2
    go_roundw
    case rel=>exact ⟨k + 1,by omega,by go_num,⟨D,ownsMap_mono hownV (by omega),hlast.skip (by rw [← HX.out];exact HZ.out)⟩,hbV⟩
    case measure=>simp [intOf];omega
   ·have hz' : (x0 == 0) = false:=by simpa using hz
    have HZ:=hid hz
    have hwf : (Lit.int .i64 x0).wf = true:=WalkArith.wf_i64 hr0
    have hkey:=Maps.keyOf_int_mk (P:=Tryz.prog) Tryz.underlying3 hwf
    go_wp2_with (at_mapUpdate;refine wpList_mapUpdate_own _ rfl _ _ _ 134 rfl 3 3 mapLawI Tryz.underlying134 _ w.heap.size k D rfl hownV (by unfold maxLen;omega) _ _ _ rfl rfl hkey _ [] (plainElem_int Tryz.underlying3 (WalkArith.wf_i64 (by omega))) ?_;intro w1 hown1 hgrow1)
    have hb1 : Below w.heap.size w w1:=hbV.grown hgrow1 (by have:=hbV.size;omega) (by intro k hk;cases hk;exact Nat.le_refl _)
    clear hgrow1 hownV
    go_wp2
    go_roundw
    case rel=>exact ⟨k + 1,by omega,by go_num,⟨_,hown1,hlast.put (by rw [← HX.out]) HZ.out⟩,hb1⟩
    case measure=>simp [intOf];omega
  ·obtain rfl : k = n:=by omega
   go_wp2
   go_ret
   exact ⟨D,rfl,hown,hlast,hb⟩
theorem Own.set3u {B : Nat} {w : World} {v : Value} {J : List Tr} (h : Own B w 3 v J.length (c3 J)) {i : Nat} (hi : i < J.length) : ∃ g o c,v = .slice (some ⟨g,o,none⟩) J.length c ∧ w.cell? ⟨g,o + i * 3 + 2,none⟩ = some (.int .i64 (t3 J i).2.2) ∧ w.frozen? ⟨g,o + i * 3 + 2,none⟩ = false ∧
  ∀ u : Int,Own B (w.setCell ⟨g,o + i * 3 + 2,none⟩ (.int .i64 u)) 3 v J.length (c3 (J.set i ((t3 J i).1,(t3 J i).2.1,u))):=by
 rcases h with ⟨_,h0,_⟩ | ⟨g,o,cap,rfl,hc⟩
 ·omega
 ·have hl:=hc.le
  refine ⟨g,o,cap,rfl,?_,?_,fun u=>.inr ⟨g,o,cap,rfl,?_⟩⟩
  ·rw [Nat.add_assoc,hc.holds (i * 3 + 2) (by omega)];exact c3_get J i 2 hi (by omega)
  ·have:=(hc.there (i * 3 + 2) (by omega)).2
   rw [← Nat.add_assoc] at this
   exact this
  ·have h1:=hc.setCell (j:=i * 3 + 2) (by omega) (.int .i64 u)
   have e : (c3 J).set (i * 3 + 2) (.int .i64 u) = c3 (J.set i ((t3 J i).1,(t3 J i).2.1,u)):=by
    rw [← c3_set3 J i hi]
    have g0:=c3_get J i 0 hi (by omega)
    have g1:=c3_get J i 1 hi (by omega)
    refine List.ext_getElem? fun n=>?_
    simp only [List.getElem?_set,List.length_set,c3_length]
    by_cases e2 : i * 3 + 2 = n
    ·subst e2;simp
    ·rw [if_neg e2,if_neg e2]
     by_cases e1 : i * 3 + 1 = n
     ·subst e1;rw [if_pos rfl,if_pos (by omega)];exact g1
     ·rw [if_neg e1]
      by_cases e0 : i * 3 = n
      ·subst e0;rw [if_pos rfl,if_pos (by omega)];exact g0
      ·rw [if_neg e0]
   rw [e,← Nat.add_assoc] at h1
   exact h1
def uniqJ (J : List Tr) : Prop:=∀ i j,i < J.length → j < J.length → (t3 J i).1 = (t3 J j).1 → (t3 J i).1 ≠ 0 → i = j
theorem beat_set {J : List Tr} {le now : Int} {i : Nat} (hU : uniqJ J) (hi : i < J.length) (h1 : (t3 J i).1 = le) (h0 : le ≠ 0) : J.set i ((t3 J i).1,(t3 J i).2.1,now + 12) = J.map (beatJ le now):=by
 refine List.ext_getElem (by simp) fun j hj1 hj2=>?_
 have hj : j < J.length:=by simpa using hj1
 rw [List.getElem_set,List.getElem_map]
 by_cases e : i = j
 ·subst e
  rw [if_pos rfl]
  unfold beatJ
  rw [← t3_getM hj,if_pos h1]
 ·rw [if_neg e]
  unfold beatJ
  rw [if_neg (fun hh=>e (hU i j hi hj (by rw [h1,t3_getM hj];exact hh.symm) (by rw [h1];exact h0)))]
theorem beat_none {J : List Tr} {le now : Int} (h : ∀ i,i < J.length → (t3 J i).1 ≠ le) : J.map (beatJ le now) = J:=by
 refine List.ext_getElem (by simp) fun j hj1 hj2=>?_
 rw [List.getElem_map]
 unfold beatJ
 rw [if_neg (fun hh=>h j hj2 (by rw [t3_getM hj2];exact hh))]
end Go.Proofs.YtaeomkpofcbmiaaGreatDoor
namespace Go.Proofs.YtaeomkpofcbmiaaGreatDoor
open Go.RowKit
section
variable {ρ : Operand → Value} {o : Oper} {w : World}
theorem run_luOk {v m key : Value} (x y : Operand) (t : TypeId) (h : o.op = .lookup t x y true) (hx : ρ x = m) (hy : ρ y = key) (hr : (Instr.lookup t m key true).run Tryz.prog w = .ok v w) : (execOp ρ o).run Tryz.prog w = .ok (.value v) w:=by
 unfold execOp
 simp [h,hx,hy,hr,Result.andThen]
theorem run_ex0 (x : Operand) (a b : Value) (h : o.op = .extract x 0) (hx : ρ x = .tuple #[a,b]) : (execOp ρ o).run Tryz.prog w = .ok (.value a) w:=by
 unfold execOp;rw [h];simp [go_sem,hx]
theorem run_ex1 (x : Operand) (a b : Value) (h : o.op = .extract x 1) (hx : ρ x = .tuple #[a,b]) : (execOp ρ o).run Tryz.prog w = .ok (.value b) w:=by
 unfold execOp;rw [h];simp [go_sem,hx]
theorem run_add12 (x : Operand) (a : Int) (h : o.op = .binOp .add 3 x (.const (.int .i64 12)) 3) (hx : ρ x = .int .i64 a) (hy : ρ (.const (.int .i64 12)) = .int .i64 12) (hz : 0 ≤ a ∧ a ≤ 1000000) : (execOp ρ o).run Tryz.prog w = .ok (.value (.int .i64 (a + 12))) w:=by
 have hw : IntKind.i64.wrap (a + 12) = a + 12:=by rw [IntKind.wrap_i64];omega
 unfold execOp;rw [h];simp only [hx,hy];simp [go_sem]
 first | done | exact hw | (rw [hw]) | omega
theorem run_stIn {p : Addr} {v0 : Value} (x y : Operand) (a : Int) (h : o.op = .store 3 x y) (hx : ρ x = .pointer (some p)) (hy : ρ y = .int .i64 a) (hc : w.cell? p = some v0) (hf : w.frozen? p = false) : (execOp ρ o).run Tryz.prog w = .ok .skip (w.setCell p (.int .i64 a)):=by
 unfold execOp;rw [h];simp [go_sem,hx,hy,hc,hf]
end
theorem takeBeat_any (w0 : World) (B Qd Qp : Nat) (ts : List TaskD) (pa : Option Addr) (pc nb : Nat) (d : BD) (h : BH) (X : DataW Unit) (kd fm tw ep le ta : Int) (x : ByteArray) (ss : List ByteArray) (ua : Option Addr) (un uc : Nat) (w : World) (s : TmS w0 B Qd Qp ts pa pc nb d h w) (hX : w.ownsMap Tryz.prog 3 (plainElem Tryz.prog 3) Qp d.J.length X) (hLP : LastP X d.J d.J.length) (hU : uniqJ d.J) (hle : 1 ≤ le ∧ le ≤ 300000000) (hnow : 0 ≤ d.now ∧ d.now ≤ 1000000) :
  Calls Tryz.prog 85 #[.pointer (some ⟨Qd,0,none⟩),.agg #[.int .i64 kd,.int .i64 fm,.int .i64 tw,.int .i64 ep,.int .i64 le,.int .i64 ta,.string x,.slice ua un uc]] w fun e w'=>e = .returned (.tuple #[]) ∧ TmS w0 B Qd Qp ts pa pc nb (beatB d ⟨kd,fm,tw,ep,le,ta,x,ss⟩) h w':=by
 obtain ⟨W,hW⟩ : ∃ V,V = w.alloc (.cells #[.int .i64 kd,.int .i64 fm,.int .i64 tw,.int .i64 ep,.int .i64 le,.int .i64 ta,.string x,.slice ua un uc] 53):=⟨_,rfl⟩
 obtain ⟨Qx,hQx⟩ : ∃ q,q = w.heap.size:=⟨_,rfl⟩
 have hbW : Below w.heap.size w W:=by rw [hW];exact (Below.refl _ _).alloc (Nat.le_refl _) _
 have cW : CF W Qx [.int .i64 kd,.int .i64 fm,.int .i64 tw,.int .i64 ep,.int .i64 le,.int .i64 ta,.string x,.slice ua un uc]:=by rw [hW,hQx];exact CF.made w #[.int .i64 kd,.int .i64 fm,.int .i64 tw,.int .i64 ep,.int .i64 le,.int .i64 ta,.string x,.slice ua un uc] 53
 have sW:=s.below hbW
 have hXW : W.ownsMap Tryz.prog 3 (plainElem Tryz.prog 3) Qp d.J.length X:=by rw [hW];exact hX.alloc _
 have HW:=hid hW
 have HQ:=hid hQx
 have HLP:=hid hLP
 have HU:=hid hU
 clear hW hQx hbW s hX hLP hU
 go_enter Tryz.func85,Tryz.ntmps85
 go_upto_region 1 with fail
 rw [← HW.out,← HQ.out]
 clear HW HQ
 refine wp_region_held (S:=fun w'=>w'.cell? ⟨Qd,13,none⟩ = some (.map (some Qp)) ∧ w'.cell? ⟨Qx,4,none⟩ = some (.int .i64 le)) (by kernel_rfl) ?_
 change wpAnyH _ _ _ _ _ _ _ _ (World.drew _)
 have hbd : Below W.heap.size W W.drew:=(Below.refl _ _).drew
 have s0:=sW.below hbd
 have hS0 : W.drew.cell? ⟨Qd,13,none⟩ = some (.map (some Qp)) ∧ W.drew.cell? ⟨Qx,4,none⟩ = some (.int .i64 le):=⟨(sW.T.D 13 (by simp [bvs])).1,(cW 4 (by simp)).1⟩
 have hX0 : W.drew.ownsMap Tryz.prog 3 (plainElem Tryz.prog 3) Qp d.J.length X:=hXW.kept (row:=none) ⟨hbd.os,hbd.tape,hbd.output,hbd.size,fun i hi _=>hbd.block i hi⟩ (by simp)
 obtain ⟨x0,hx0⟩ : ∃ U,U = W.drew:=⟨_,rfl⟩
 rw [← hx0] at s0 hS0 hX0
 rw [← hx0]
 clear hx0 sW hXW cW hbd
 refine hTk (i:=0) (d:=some 7) (v:=.pointer (some ⟨Qd,0,none⟩)) (l':=(bt 12 1)) rfl (fun _ hc=>run_mvF (.tmp 0) (by kernel_rfl) (by kernel_rfl)) hS0 ?_
 refine hTk (i:=1) (d:=some 8) (v:=.pointer (some ⟨Qd,0,none⟩)) (l':=(bt 12 3)) rfl (fun _ hc=>run_nc (.tmp 7) (by kernel_rfl) (by kernel_rfl)) hS0 ?_
 refine hTk (i:=2) (d:=some 9) (v:=.pointer (some ⟨Qd,13,none⟩)) (l':=(bt 12 7)) rfl (fun _ hc=>run_faD2 (.tmp 8) (by kernel_rfl) (by kernel_rfl)) hS0 ?_
 refine hTk (i:=3) (d:=some 10) (v:=.map (some Qp)) (l':=(bt 12 15)) rfl (fun _ hc=>run_ldMp (.tmp 9) (by kernel_rfl) (by kernel_rfl) hc.1) hS0 ?_
 refine hTk (i:=4) (d:=some 11) (v:=.pointer (some ⟨Qx,4,none⟩)) (l':=(bt 12 31)) rfl (fun _ hc=>run_fM4 (.tmp 3) (by kernel_rfl) (by kernel_rfl)) hS0 ?_
 refine hTk (i:=5) (d:=some 12) (v:=.int .i64 le) (l':=(bt 12 63)) rfl (fun _ hc=>run_ldInB (.tmp 11) (by kernel_rfl) (by kernel_rfl) hc.2) hS0 ?_
 have hwf : (Lit.int .i64 le).wf = true:=WalkArith.wf_i64 (by constructor <;> omega)
 have hkey:=Maps.keyOf_int_mk (P:=Tryz.prog) Tryz.underlying3 hwf
 obtain ⟨v,ps,hrun,hv⟩:=hX0.look_ok mapLawI Tryz.underlying134 (zeroI x0) (plainElem_int Tryz.underlying3 (by decide)) hkey
 obtain ⟨cc,rfl,hc,hwc⟩:=plainElem_int_inv Tryz.underlying3 hv
 have hc1:=congrArg Prod.fst hc
 have hl2:=HLP.out.1.2 le
 obtain ⟨c,hcc⟩ : ∃ c,c = lastI d.J d.J.length le:=⟨_,rfl⟩
 have hce : cc = ((c : Nat) : Int):=by
  rw [hcc]
  have h9:=hl2.symm.trans hc1
  simpa using h9.symm
 subst hce
 obtain ⟨b,hb⟩ : ∃ b,Maps.has X (.int .i64 le) = b:=⟨_,rfl⟩
 rw [hb] at hrun
 refine hOne (i:=6) (by kernel_rfl) (hVal (i:=6) (d:=some 13) (v:=.tuple #[.int .i64 (c : Nat),.bool b]) (w':=x0) (l':=(bt 12 127)) rfl (by kernel_rfl) (by kernel_rfl) (by kernel_rfl) (run_luOk (.tmp 10) (.tmp 12) 134 (by kernel_rfl) (by kernel_rfl) (by kernel_rfl) hrun) hS0 ?_)
 refine hTk (i:=7) (d:=some 6) (v:=.tuple #[.int .i64 (c : Nat),.bool b]) (l':=(bt 12 255)) rfl (fun _ hc=>run_mvF (.tmp 13) (by kernel_rfl) (by kernel_rfl)) hS0 ?_
 refine hTk (i:=8) (d:=some 14) (v:=.int .i64 (c : Nat)) (l':=(bt 12 511)) rfl (fun _ hc=>run_ex0 (.tmp 6) (.int .i64 (c : Nat)) (.bool b) (by kernel_rfl) (by kernel_rfl)) hS0 ?_
 refine hTk (i:=9) (d:=some 15) (v:=.bool b) (l':=(bt 12 1023)) rfl (fun _ hc=>run_ex1 (.tmp 6) (.int .i64 (c : Nat)) (.bool b) (by kernel_rfl) (by kernel_rfl)) hS0 ?_
 refine hTk (i:=10) (d:=some 4) (v:=.int .i64 (c : Nat)) (l':=(bt 12 2047)) rfl (fun _ hc=>run_asF (.tmp 14) (by kernel_rfl) (by kernel_rfl)) hS0 ?_
 refine hTk (i:=11) (d:=some 5) (v:=.bool b) (l':=(bt 12 4095)) rfl (fun _ hc=>run_asF (.tmp 15) (by kernel_rfl) (by kernel_rfl)) hS0 ?_
 refine wpAnyH_done (by kernel_rfl) ?_ _
 have HB:=hid hb
 have HCC:=hid hcc
 clear hrun hv hc hc1 hl2 hwc hkey hwf hb hcc hX0 hS0
 cases b with
 | false =>
  have HF:=hid (show TmS w0 B Qd Qp ts pa pc nb (beatB d ⟨kd,fm,tw,ep,le,ta,x,ss⟩) h x0 by
   have e : d.J.map (beatJ le d.now) = d.J:=beat_none (fun i hi e=>by
    have:=(HLP.out.2 le).2 ⟨i,hi,e,by omega⟩
    rw [HB.out] at this;cases this)
   unfold beatB
   dsimp only
   rw [e];exact s0)
  clear s0
  go_simp
  go_wp2_with fail
  go_end0
  exact ⟨rfl,HF.out⟩
 | true =>
  obtain ⟨i,hi,hie,hi0⟩:=(HLP.out.2 le).1 HB.out
  have hlg:=last_ge (J:=d.J) (k:=d.J.length) hi (by rw [hie];exact hi0)
  rw [hie,← HCC.out] at hlg
  have hcl : c < d.J.length:=hlg.2.1
  have HJE:=hid hlg.2.2
  clear hlg hi hie hi0
  obtain ⟨bj,oj,cjj,hje,hjc,hjf,hjset⟩:=s0.T.bo.o3.set3u (i:=c) hcl
  have e1 : h.aj = some ⟨bj,oj,none⟩:=by injection hje with e1 e2 e3
  have hrj : rowJ d h = some bj:=by unfold rowJ;rw [e1];rfl
  go_simp
  go_upto_region 3 with fail
  refine wp_region_held (S:=fun w'=>w'.cell? ⟨Qd,9,none⟩ = some (.slice (some ⟨bj,oj,none⟩) d.J.length h.cj) ∧ w'.cell? ⟨Qd,2,none⟩ = some (.int .i64 d.now)) (by kernel_rfl) ?_
  change wpAnyH _ _ _ _ _ _ _ _ (World.drew _)
  have s1:=s0.below (Below.refl x0.heap.size x0).drew
  have hS0 : x0.drew.cell? ⟨Qd,9,none⟩ = some (.slice (some ⟨bj,oj,none⟩) d.J.length h.cj) ∧ x0.drew.cell? ⟨Qd,2,none⟩ = some (.int .i64 d.now):=⟨by rw [← e1];exact (s0.T.D 9 (by simp [bvs])).1,(s0.T.D 2 (by simp [bvs])).1⟩
  have hjc1 : x0.drew.cell? ⟨bj,oj + c * 3 + 2,none⟩ = some (.int .i64 (t3 d.J c).2.2):=hjc
  have hjf1 : x0.drew.frozen? ⟨bj,oj + c * 3 + 2,none⟩ = false:=hjf
  have hst1 : Own B (x0.drew.setCell ⟨bj,oj + c * 3 + 2,none⟩ (.int .i64 (d.now + 12))) 3 (.slice h.aj d.J.length h.cj) d.J.length (c3 (d.J.set c ((t3 d.J c).1,(t3 d.J c).2.1,d.now + 12))):=(hjset (d.now + 12)).blk (fun q _=>rfl)
  obtain ⟨x1,hx1⟩ : ∃ U,U = x0.drew:=⟨_,rfl⟩
  rw [← hx1] at s1 hS0 hjc1 hjf1 hst1
  rw [← hx1]
  clear hx1 s0 hjset hjc hjf hje
  refine hTk (i:=0) (d:=some 17) (v:=.pointer (some ⟨Qd,0,none⟩)) (l':=(bt 15 1)) rfl (fun _ hc=>run_mvF (.tmp 0) (by kernel_rfl) (by kernel_rfl)) hS0 ?_
  refine hTk (i:=1) (d:=some 18) (v:=.pointer (some ⟨Qd,0,none⟩)) (l':=(bt 15 3)) rfl (fun _ hc=>run_nc (.tmp 17) (by kernel_rfl) (by kernel_rfl)) hS0 ?_
  refine hTk (i:=2) (d:=some 19) (v:=.pointer (some ⟨Qd,0,none⟩)) (l':=(bt 15 7)) rfl (fun _ hc=>run_faD0 (.tmp 18) (by kernel_rfl) (by kernel_rfl)) hS0 ?_
  refine hTk (i:=3) (d:=some 20) (v:=.pointer (some ⟨Qd,9,none⟩)) (l':=(bt 15 15)) rfl (fun _ hc=>run_faB8 (.tmp 19) (by kernel_rfl) (by kernel_rfl)) hS0 ?_
  refine hTk (i:=4) (d:=some 21) (v:=(.slice (some ⟨bj,oj,none⟩) d.J.length h.cj)) (l':=(bt 15 31)) rfl (fun _ hc=>run_ldJsB (.tmp 20) (by kernel_rfl) (by kernel_rfl) hc.1) hS0 ?_
  refine hTk (i:=5) (d:=some 22) (v:=.int .i64 (c : Nat)) (l':=(bt 15 63)) rfl (fun _ hc=>run_mvF (.tmp 4) (by kernel_rfl) (by kernel_rfl)) hS0 ?_
  refine hTk (i:=6) (d:=some 23) (v:=.pointer (some ⟨Qd,0,none⟩)) (l':=(bt 15 127)) rfl (fun _ hc=>run_mvF (.tmp 0) (by kernel_rfl) (by kernel_rfl)) hS0 ?_
  refine hTk (i:=7) (d:=some 24) (v:=.pointer (some ⟨Qd,0,none⟩)) (l':=(bt 15 255)) rfl (fun _ hc=>run_nc (.tmp 23) (by kernel_rfl) (by kernel_rfl)) hS0 ?_
  refine hTk (i:=8) (d:=some 25) (v:=.pointer (some ⟨Qd,0,none⟩)) (l':=(bt 15 511)) rfl (fun _ hc=>run_faD0 (.tmp 24) (by kernel_rfl) (by kernel_rfl)) hS0 ?_
  refine hTk (i:=9) (d:=some 26) (v:=.pointer (some ⟨Qd,2,none⟩)) (l':=(bt 15 1023)) rfl (fun _ hc=>run_faB2 (.tmp 25) (by kernel_rfl) (by kernel_rfl)) hS0 ?_
  refine hTk (i:=10) (d:=some 27) (v:=.int .i64 d.now) (l':=(bt 15 2047)) rfl (fun _ hc=>run_ldInB (.tmp 26) (by kernel_rfl) (by kernel_rfl) hc.2) hS0 ?_
  refine hTk (i:=11) (d:=some 28) (v:=.int .i64 (d.now + 12)) (l':=(bt 15 4095)) rfl (fun _ hc=>run_add12 (.tmp 27) d.now (by kernel_rfl) (by kernel_rfl) (by kernel_rfl) (by omega)) hS0 ?_
  refine hTk (i:=12) (d:=some 29) (v:=.pointer (some ⟨bj,oj + c * 3,none⟩)) (l':=(bt 15 8191)) rfl (fun _ hc=>run_ixJ (.tmp 21) (.tmp 22) bj oj d.J.length h.cj c (by kernel_rfl) (by kernel_rfl) (by kernel_rfl) hcl) hS0 ?_
  refine hTk (i:=13) (d:=some 30) (v:=.pointer (some ⟨bj,oj + c * 3 + 2,none⟩)) (l':=(bt 15 16383)) rfl (fun _ hc=>run_faJ2 (.tmp 29) (by kernel_rfl) (by kernel_rfl)) hS0 ?_
  have g3 : x1.grownBy (x1.setCell ⟨bj,oj + c * 3 + 2,none⟩ (.int .i64 (d.now + 12))) (rowJ d h):=by rw [hrj];exact gset (World.grownBy.refl x1 _) _ _
  have sF:=s1.row (rowJ_mem d h) g3 (s1.T.setJ (J:=d.J.set c ((t3 d.J c).1,(t3 d.J c).2.1,d.now + 12)) (by rw [List.length_set]) g3 hst1) (by unfold rowsB;simp only [List.length_set])
  have hSF : (x1.setCell ⟨bj,oj + c * 3 + 2,none⟩ (.int .i64 (d.now + 12))).cell? ⟨Qd,9,none⟩ = some (.slice (some ⟨bj,oj,none⟩) d.J.length h.cj) ∧ (x1.setCell ⟨bj,oj + c * 3 + 2,none⟩ (.int .i64 (d.now + 12))).cell? ⟨Qd,2,none⟩ = some (.int .i64 d.now):=⟨by have:=(sF.T.D 9 (by simp [bvs])).1;rw [← e1];simpa [bvs] using this,(sF.T.D 2 (by simp [bvs])).1⟩
  have HF:=hid (show TmS w0 B Qd Qp ts pa pc nb (beatB d ⟨kd,fm,tw,ep,le,ta,x,ss⟩) h (x1.setCell ⟨bj,oj + c * 3 + 2,none⟩ (.int .i64 (d.now + 12))) by
   unfold beatB
   dsimp only
   rw [← beat_set HU.out hcl HJE.out (by omega)];exact sF)
  refine hOne (i:=14) (by kernel_rfl) (hSkip (i:=14) (w':=x1.setCell ⟨bj,oj + c * 3 + 2,none⟩ (.int .i64 (d.now + 12))) (l':=(bt 15 32767)) rfl (by kernel_rfl) (by kernel_rfl) (by kernel_rfl) (run_stIn (.tmp 30) (.tmp 28) (d.now + 12) (by kernel_rfl) (by kernel_rfl) (by kernel_rfl) hjc1 hjf1) hSF ?_)
  refine wpAnyH_done (by kernel_rfl) ?_ _
  clear hS0 hSF sF g3 hst1 hjc1 hjf1 s1 e1 hrj
  go_simp
  go_wp2_with fail
  go_end0
  exact ⟨rfl,HF.out⟩
end Go.Proofs.YtaeomkpofcbmiaaGreatDoor
