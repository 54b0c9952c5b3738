
import Derived.Test.YtaeomkpofcbmiaaGreatDoorQBrl
import Derived.Test.YtaeomkpofcbmiaaGreatDoorQBjm
set_option maxHeartbeats 4000000
set_option maxRecDepth 100000
namespace Go.Proofs.YtaeomkpofcbmiaaGreatDoor
open Go.RowKit
theorem wpList_store_s2 {ops : Array Oper} {rest : List Oper} {op : Oper} {a : Act} {w : World} {Q : Exit → Act → World → Prop} (hgd : op.guard = none) (x y : Operand) (ho : op.op = .store 112 x y) (b o : Nat) (f : Bool) (e : Int) (hx : a.eval x = .pointer (some ⟨b,o,none⟩)) (hy : a.eval y = .agg #[.bool f,.int .i64 e]) (ht : w.there b o 2)
  (hK : wpList Tryz.prog ops Q rest (a.put op.dst undef) (w.setCells b o [.bool f,.int .i64 e])) : wpList Tryz.prog ops Q (op :: rest) a w :=
 wpList_store_mid hgd 112 x y ho b o #[.bool f,.int .i64 e] hx hy ht (by kernel_rfl) (by kernel_rfl) hK
def FreeQ (d : BD) (h : BH) (k : Nat) (ep : Int) (B : Nat) (w : World) (e : Ending) (w' : World) : Prop:=∃ (S : List (Bool × Int)) (r : Bool),e = .returned (.tuple #[.agg #[.int .i64 d.wk,.bool d.up,.int .i64 d.now,.int .i64 d.sn,.int .i64 d.ep,.int .i64 d.gv,.slice h.a1 d.L1.length h.c1,.slice h.a2 d.L2.length h.c2,.slice h.ar d.R.length h.cr,.slice h.aj d.J.length h.cj,.slice h.az d.S.length h.cs,.slice h.ao d.O.length h.co],.bool r]) ∧ (frS d.S ((k : Int) + 1) ep = none ∧ r = false ∧ S = d.S ∨ frS d.S ((k : Int) + 1) ep = some S ∧ r = true) ∧ S.length = d.S.length ∧ BossO w' B ⟨d.wk,d.up,d.now,d.sn,d.ep,d.gv,d.L1,d.L2,d.R,d.J,S,d.O⟩ h ∧ Grew [rowS d h] w w'
theorem l5Free_any (d : BD) (h : BH) (kd tw ep le ta : Int) (k : Nat) (x : ByteArray) (ua : Option Addr) (un uc : Nat) (B : Nat) (w : World) (hO : BossO w B d h) (hk : k < d.S.length) (hk8 : k ≤ 100) :
  Calls Tryz.prog 30 #[.agg #[.int .i64 d.wk,.bool d.up,.int .i64 d.now,.int .i64 d.sn,.int .i64 d.ep,.int .i64 d.gv,.slice h.a1 d.L1.length h.c1,.slice h.a2 d.L2.length h.c2,.slice h.ar d.R.length h.cr,.slice h.aj d.J.length h.cj,.slice h.az d.S.length h.cs,.slice h.ao d.O.length h.co],.agg #[.int .i64 kd,.int .i64 ((k : Int) + 1),.int .i64 tw,.int .i64 ep,.int .i64 le,.int .i64 ta,.string x,.slice ua un uc]] w fun e w'=>FreeQ d h k ep B w e w':=by
 obtain ⟨W,hW⟩ : ∃ W,W = ((w.alloc (.cells #[.int .i64 d.wk,.bool d.up,.int .i64 d.now,.int .i64 d.sn,.int .i64 d.ep,.int .i64 d.gv,.slice h.a1 d.L1.length h.c1,.slice h.a2 d.L2.length h.c2,.slice h.ar d.R.length h.cr,.slice h.aj d.J.length h.cj,.slice h.az d.S.length h.cs,.slice h.ao d.O.length h.co] 43)).alloc (.cells #[.int .i64 kd,.int .i64 ((k : Int) + 1),.int .i64 tw,.int .i64 ep,.int .i64 le,.int .i64 ta,.string x,.slice ua un uc] 53)).alloc (.cells #[.int .i64 0,.bool false,.int .i64 0,.int .i64 0,.int .i64 0,.int .i64 0,.slice none 0 0,.slice none 0 0,.slice none 0 0,.slice none 0 0,.slice none 0 0,.slice none 0 0] 43):=⟨_,rfl⟩
 obtain ⟨Q,hQ⟩ : ∃ q,q = w.heap.size:=⟨_,rfl⟩
 have B0 : Below w.heap.size w W:=by rw [hW];exact (((Below.refl _ _).alloc (Nat.le_refl _) _).alloc (by simp) _).alloc (by simp;omega) _
 have z0 : W.heap.size = Q + 3:=by rw [hW,hQ];simp
 have P0 : CF W Q [.int .i64 d.wk,.bool d.up,.int .i64 d.now,.int .i64 d.sn,.int .i64 d.ep,.int .i64 d.gv,.slice h.a1 d.L1.length h.c1,.slice h.a2 d.L2.length h.c2,.slice h.ar d.R.length h.cr,.slice h.aj d.J.length h.cj,.slice h.az d.S.length h.cs,.slice h.ao d.O.length h.co]:=by
  rw [hW,hQ];exact ((CF.made w #[.int .i64 d.wk,.bool d.up,.int .i64 d.now,.int .i64 d.sn,.int .i64 d.ep,.int .i64 d.gv,.slice h.a1 d.L1.length h.c1,.slice h.a2 d.L2.length h.c2,.slice h.ar d.R.length h.cr,.slice h.aj d.J.length h.cj,.slice h.az d.S.length h.cs,.slice h.ao d.O.length h.co] 43).block (Below.heap_alloc _ _ _ (by simp))).block (Below.heap_alloc _ _ _ (by simp;omega))
 have L0 : CF W (Q + 1) [.int .i64 kd,.int .i64 ((k : Int) + 1),.int .i64 tw,.int .i64 ep,.int .i64 le,.int .i64 ta,.string x,.slice ua un uc]:=by
  rw [hW,hQ]
  have:=(CF.made (w.alloc (.cells #[.int .i64 d.wk,.bool d.up,.int .i64 d.now,.int .i64 d.sn,.int .i64 d.ep,.int .i64 d.gv,.slice h.a1 d.L1.length h.c1,.slice h.a2 d.L2.length h.c2,.slice h.ar d.R.length h.cr,.slice h.aj d.J.length h.cj,.slice h.az d.S.length h.cs,.slice h.ao d.O.length h.co] 43)) #[.int .i64 kd,.int .i64 ((k : Int) + 1),.int .i64 tw,.int .i64 ep,.int .i64 le,.int .i64 ta,.string x,.slice ua un uc] 53).block (Below.heap_alloc ((w.alloc (.cells #[.int .i64 d.wk,.bool d.up,.int .i64 d.now,.int .i64 d.sn,.int .i64 d.ep,.int .i64 d.gv,.slice h.a1 d.L1.length h.c1,.slice h.a2 d.L2.length h.c2,.slice h.ar d.R.length h.cr,.slice h.aj d.J.length h.cj,.slice h.az d.S.length h.cs,.slice h.ao d.O.length h.co] 43)).alloc (.cells #[.int .i64 kd,.int .i64 ((k : Int) + 1),.int .i64 tw,.int .i64 ep,.int .i64 le,.int .i64 ta,.string x,.slice ua un uc] 53)) (.cells #[.int .i64 0,.bool false,.int .i64 0,.int .i64 0,.int .i64 0,.int .i64 0,.slice none 0 0,.slice none 0 0,.slice none 0 0,.slice none 0 0,.slice none 0 0,.slice none 0 0] 43) _ (by simp))
  simpa using this
 have R0 : CF W (Q + 2) [.int .i64 0,.bool false,.int .i64 0,.int .i64 0,.int .i64 0,.int .i64 0,.slice none 0 0,.slice none 0 0,.slice none 0 0,.slice none 0 0,.slice none 0 0,.slice none 0 0]:=by
  rw [hW,hQ]
  have:=CF.made ((w.alloc (.cells #[.int .i64 d.wk,.bool d.up,.int .i64 d.now,.int .i64 d.sn,.int .i64 d.ep,.int .i64 d.gv,.slice h.a1 d.L1.length h.c1,.slice h.a2 d.L2.length h.c2,.slice h.ar d.R.length h.cr,.slice h.aj d.J.length h.cj,.slice h.az d.S.length h.cs,.slice h.ao d.O.length h.co] 43)).alloc (.cells #[.int .i64 kd,.int .i64 ((k : Int) + 1),.int .i64 tw,.int .i64 ep,.int .i64 le,.int .i64 ta,.string x,.slice ua un uc] 53)) #[.int .i64 0,.bool false,.int .i64 0,.int .i64 0,.int .i64 0,.int .i64 0,.slice none 0 0,.slice none 0 0,.slice none 0 0,.slice none 0 0,.slice none 0 0,.slice none 0 0] 43
  simpa using this
 have hOW:=hO.below B0
 have hlo : ∀ r ∈ rowsB d h,∀ q,r = some q → q < Q:=fun r hr q e=>by rw [hQ];exact (hO.lo r hr q e).2
 have G0 : Grew [rowS d h] w W:=⟨B0.size,fun q hq _=>B0.block q hq,B0.os,B0.tape,B0.output⟩
 have ek : (((k : Int) + 1) - 1).toNat = k:=by omega
 have HW:=hid hW
 have HQ:=hid hQ
 have HEK:=hid ek
 clear hW hO ek hQ
 go_enter Tryz.func30,Tryz.ntmps30
 go_upto_region 1 with fail
 have eq1 : w.heap.size + 1 = Q + 1:=by rw [HQ.out]
 have eq2 : w.heap.size + 1 + 1 = Q + 2:=by rw [HQ.out]
 rw [← HW.out]
 (try rw [eq2])
 (try rw [eq1])
 (try rw [← HQ.out])
 clear HW eq1 eq2
 obtain ⟨bz,oz,cz,hze,hz0,hz1,hth,hset⟩:=hOW.o4.set2b hk
 have e1 : h.az = some ⟨bz,oz,none⟩:=by injection hze with e1 e2 e3
 have hrz : rowS d h = some bz:=by unfold rowS;rw [e1];rfl
 obtain ⟨q2,hq2⟩ : ∃ q,q = (t2 d.S k).2:=⟨_,rfl⟩
 rw [← hq2] at hz1
 have hlz:=hlo _ (rowS_mem d h) bz hrz
 have hS0 : W.drew.cell? ⟨Q,10,none⟩ = some (.slice (some ⟨bz,oz,none⟩) d.S.length h.cs) ∧ W.drew.cell? ⟨Q + 1,3,none⟩ = some (.int .i64 ep) ∧ W.drew.cell? ⟨Q + 1,1,none⟩ = some (.int .i64 ((k : Int) + 1)) ∧ W.drew.cell? ⟨bz,oz + k * 2 + 1,none⟩ = some (.int .i64 q2):=⟨by rw [← e1];exact (P0 10 (by simp)).1,(L0 3 (by simp)).1,(L0 1 (by simp)).1,hz1⟩
 have hth0 : W.drew.there bz (oz + k * 2) 2:=hth
 have HE1:=hid e1
 have HRZ:=hid hrz
 have HQ2:=hid hq2
 clear hze e1 hrz hq2 hz0 hz1 hset hth
 refine wp_region_held (S:=fun w'=>w'.cell? ⟨Q,10,none⟩ = some (.slice (some ⟨bz,oz,none⟩) d.S.length h.cs) ∧ w'.cell? ⟨Q + 1,3,none⟩ = some (.int .i64 ep) ∧ w'.cell? ⟨Q + 1,1,none⟩ = some (.int .i64 ((k : Int) + 1)) ∧ w'.cell? ⟨bz,oz + k * 2 + 1,none⟩ = some (.int .i64 q2)) (by kernel_rfl) ?_
 change wpAnyH _ _ _ _ _ _ _ _ (World.drew _)
 have hbd : Below W.heap.size W W.drew:=(Below.refl _ _).drew
 have hO0:=hOW.below hbd
 have P1 : CF W.drew Q [.int .i64 d.wk,.bool d.up,.int .i64 d.now,.int .i64 d.sn,.int .i64 d.ep,.int .i64 d.gv,.slice h.a1 d.L1.length h.c1,.slice h.a2 d.L2.length h.c2,.slice h.ar d.R.length h.cr,.slice h.aj d.J.length h.cj,.slice h.az d.S.length h.cs,.slice h.ao d.O.length h.co]:=P0
 have L1 : CF W.drew (Q + 1) [.int .i64 kd,.int .i64 ((k : Int) + 1),.int .i64 tw,.int .i64 ep,.int .i64 le,.int .i64 ta,.string x,.slice ua un uc]:=L0
 have R1 : CF W.drew (Q + 2) [.int .i64 0,.bool false,.int .i64 0,.int .i64 0,.int .i64 0,.int .i64 0,.slice none 0 0,.slice none 0 0,.slice none 0 0,.slice none 0 0,.slice none 0 0,.slice none 0 0]:=R0
 have z1 : W.drew.heap.size = Q + 3:=z0
 have G1:=G0.drewB
 obtain ⟨x0,hx0⟩ : ∃ U,U = W.drew:=⟨_,rfl⟩
 rw [← hx0] at hO0 P1 L1 R1 z1 G1 hS0 hth0
 rw [← hx0]
 clear hx0 hOW P0 L0 R0 z0 G0 hbd B0
 by_cases hlt : ep < q2
 case pos =>
  have hd1 : decide (ep < q2) = true:=decide_eq_true hlt
  refine hTk (i:=0) (d:=some 6) (v:=.pointer (some ⟨Q + 1,3,none⟩)) (l':=(bt 11 1)) rfl (fun _ hc=>run_fM3 (.tmp 3) (by kernel_rfl) (by kernel_rfl)) hS0 ?_
  refine hTk (i:=1) (d:=some 7) (v:=.int .i64 ep) (l':=(bt 11 3)) rfl (fun _ hc=>run_ldInB (.tmp 6) (by kernel_rfl) (by kernel_rfl) hc.2.1) hS0 ?_
  refine hTk (i:=2) (d:=some 8) (v:=.pointer (some ⟨Q,10,none⟩)) (l':=(bt 11 7)) rfl (fun _ hc=>run_fB9 (.tmp 2) (by kernel_rfl) (by kernel_rfl)) hS0 ?_
  refine hTk (i:=3) (d:=some 9) (v:=.slice (some ⟨bz,oz,none⟩) d.S.length h.cs) (l':=(bt 11 15)) rfl (fun _ hc=>run_ldSsB (.tmp 8) (by kernel_rfl) (by kernel_rfl) hc.1) hS0 ?_
  refine hTk (i:=4) (d:=some 10) (v:=.pointer (some ⟨Q + 1,1,none⟩)) (l':=(bt 11 31)) rfl (fun _ hc=>run_fM1 (.tmp 3) (by kernel_rfl) (by kernel_rfl)) hS0 ?_
  refine hTk (i:=5) (d:=some 11) (v:=.int .i64 ((k : Int) + 1)) (l':=(bt 11 63)) rfl (fun _ hc=>run_ldInB (.tmp 10) (by kernel_rfl) (by kernel_rfl) hc.2.2.1) hS0 ?_
  refine hTk (i:=6) (d:=some 12) (v:=.int .i64 (k : Nat)) (l':=(bt 11 127)) rfl (fun _ hc=>run_sub1 (.tmp 11) k (by omega) (by kernel_rfl) (by kernel_rfl) (by kernel_rfl)) hS0 ?_
  refine hTk (i:=7) (d:=some 13) (v:=.pointer (some ⟨bz,oz + k * 2,none⟩)) (l':=(bt 11 255)) rfl (fun _ hc=>run_ixSe (.tmp 9) (.tmp 12) bz oz d.S.length h.cs k (by kernel_rfl) (by kernel_rfl) (by kernel_rfl) hk) hS0 ?_
  refine hTk (i:=8) (d:=some 14) (v:=.pointer (some ⟨bz,oz + k * 2 + 1,none⟩)) (l':=(bt 11 511)) rfl (fun _ hc=>run_faS1 (.tmp 13) (by kernel_rfl) (by kernel_rfl)) hS0 ?_
  refine hTk (i:=9) (d:=some 15) (v:=.int .i64 q2) (l':=(bt 11 1023)) rfl (fun _ hc=>run_ldInB (.tmp 14) (by kernel_rfl) (by kernel_rfl) hc.2.2.2) hS0 ?_
  refine hTk (i:=10) (d:=some 16) (v:=.bool true) (l':=(bt 11 2047)) rfl (fun _ hc=>run_ltB (.tmp 7) (.tmp 15) ep q2 true (by kernel_rfl) (by kernel_rfl) (by kernel_rfl) hd1) hS0 ?_
  refine wpAnyH_done (by kernel_rfl) ?_ _
  clear hS0 hd1
  go_simp
  obtain ⟨y0,y1,y2,y3,y4,y5,y6,y7,y8,y9,y10,y11⟩:=cf12 P1
  go_wp2_with (refine wpList_store_cf rfl 43 (.tmp 4) (.tmp 17) rfl (Q + 2) [.int .i64 0,.bool false,.int .i64 0,.int .i64 0,.int .i64 0,.int .i64 0,.slice none 0 0,.slice none 0 0,.slice none 0 0,.slice none 0 0,.slice none 0 0,.slice none 0 0] [.int .i64 d.wk,.bool d.up,.int .i64 d.now,.int .i64 d.sn,.int .i64 d.ep,.int .i64 d.gv,.slice h.a1 d.L1.length h.c1,.slice h.a2 d.L2.length h.c2,.slice h.ar d.R.length h.cr,.slice h.aj d.J.length h.cj,.slice h.az d.S.length h.cs,.slice h.ao d.O.length h.co] rfl rfl R1 rfl Tryz.sizeBo (one12b _ _ _ _ _ _ _ _ _ _ _ _ _ _ _ _ _ _ _ _ _ _ _ _) ?_;intro w10 hc10 hg10)
  obtain ⟨k0,k1,k2,k3,k4,k5,k6,k7,k8,k9,k10,k11⟩:=cf12 hc10
  have HN:=hid (frS_none (S:=d.S) (fm:=(k : Int) + 1) (ep:=ep) (by rw [HEK.out,← HQ2.out];exact hlt))
  have hBO : BossO w10 B d h:=hO0.blk (fun r hr q e=>hg10.block q (hO0.lo r hr q e).2 (fun e'=>by injection e' with e';have:=hlo r hr q e;omega))
  exact bodyPost_ret (v:=.tuple #[.agg #[.int .i64 d.wk,.bool d.up,.int .i64 d.now,.int .i64 d.sn,.int .i64 d.ep,.int .i64 d.gv,.slice h.a1 d.L1.length h.c1,.slice h.a2 d.L2.length h.c2,.slice h.ar d.R.length h.cr,.slice h.aj d.J.length h.cj,.slice h.az d.S.length h.cs,.slice h.ao d.O.length h.co],.bool false]) (by simp [results,Tryz.results30,go_sem,k0,k1,k2,k3,k4,k5,k6,k7,k8,k9,k10,k11]) rfl ⟨d.S,false,rfl,.inl ⟨HN.out,rfl,rfl⟩,rfl,hBO,G1.far hg10 (by have:=HQ.out;omega)⟩
 case neg =>
  have hd1 : decide (ep < q2) = false:=decide_eq_false hlt
  refine hTk (i:=0) (d:=some 6) (v:=.pointer (some ⟨Q + 1,3,none⟩)) (l':=(bt 11 1)) rfl (fun _ hc=>run_fM3 (.tmp 3) (by kernel_rfl) (by kernel_rfl)) hS0 ?_
  refine hTk (i:=1) (d:=some 7) (v:=.int .i64 ep) (l':=(bt 11 3)) rfl (fun _ hc=>run_ldInB (.tmp 6) (by kernel_rfl) (by kernel_rfl) hc.2.1) hS0 ?_
  refine hTk (i:=2) (d:=some 8) (v:=.pointer (some ⟨Q,10,none⟩)) (l':=(bt 11 7)) rfl (fun _ hc=>run_fB9 (.tmp 2) (by kernel_rfl) (by kernel_rfl)) hS0 ?_
  refine hTk (i:=3) (d:=some 9) (v:=.slice (some ⟨bz,oz,none⟩) d.S.length h.cs) (l':=(bt 11 15)) rfl (fun _ hc=>run_ldSsB (.tmp 8) (by kernel_rfl) (by kernel_rfl) hc.1) hS0 ?_
  refine hTk (i:=4) (d:=some 10) (v:=.pointer (some ⟨Q + 1,1,none⟩)) (l':=(bt 11 31)) rfl (fun _ hc=>run_fM1 (.tmp 3) (by kernel_rfl) (by kernel_rfl)) hS0 ?_
  refine hTk (i:=5) (d:=some 11) (v:=.int .i64 ((k : Int) + 1)) (l':=(bt 11 63)) rfl (fun _ hc=>run_ldInB (.tmp 10) (by kernel_rfl) (by kernel_rfl) hc.2.2.1) hS0 ?_
  refine hTk (i:=6) (d:=some 12) (v:=.int .i64 (k : Nat)) (l':=(bt 11 127)) rfl (fun _ hc=>run_sub1 (.tmp 11) k (by omega) (by kernel_rfl) (by kernel_rfl) (by kernel_rfl)) hS0 ?_
  refine hTk (i:=7) (d:=some 13) (v:=.pointer (some ⟨bz,oz + k * 2,none⟩)) (l':=(bt 11 255)) rfl (fun _ hc=>run_ixSe (.tmp 9) (.tmp 12) bz oz d.S.length h.cs k (by kernel_rfl) (by kernel_rfl) (by kernel_rfl) hk) hS0 ?_
  refine hTk (i:=8) (d:=some 14) (v:=.pointer (some ⟨bz,oz + k * 2 + 1,none⟩)) (l':=(bt 11 511)) rfl (fun _ hc=>run_faS1 (.tmp 13) (by kernel_rfl) (by kernel_rfl)) hS0 ?_
  refine hTk (i:=9) (d:=some 15) (v:=.int .i64 q2) (l':=(bt 11 1023)) rfl (fun _ hc=>run_ldInB (.tmp 14) (by kernel_rfl) (by kernel_rfl) hc.2.2.2) hS0 ?_
  refine hTk (i:=10) (d:=some 16) (v:=.bool false) (l':=(bt 11 2047)) rfl (fun _ hc=>run_ltB (.tmp 7) (.tmp 15) ep q2 false (by kernel_rfl) (by kernel_rfl) (by kernel_rfl) hd1) hS0 ?_
  refine wpAnyH_done (by kernel_rfl) ?_ _
  clear hS0 hd1
  go_simp
  obtain ⟨bz',oz',cz',hze',_,_,hth',hset'⟩:=hO0.o4.set2b hk
  have e1' : h.az = some ⟨bz',oz',none⟩:=by injection hze' with e1 e2 e3
  have e2':=HE1.out.symm.trans e1'
  injection e2' with e2'
  injection e2' with e3' e4'
  subst e3' e4'
  have y10 : x0.cell? ⟨Q,10,none⟩ = some (.slice (some ⟨bz,oz,none⟩) d.S.length h.cs):=by rw [← HE1.out];exact (P1 10 (by simp)).1
  obtain ⟨-,m1,-,m3⟩:=cf4 L1
  have hk' : (k : Int) < (d.S.length : Int):=by omega
  have HST:=hid (hset' true ep)
  clear hze' e1' hset'
  go_upto_region 4 with (refine wpList_store_s2 rfl (.tmp 26) (.tmp 25) rfl bz (oz + k * 2) true ep rfl rfl hth0 ?_)
  obtain ⟨x1,hx1⟩ : ∃ V,V = x0.setCells bz (oz + k * 2) [.bool true,.int .i64 ep]:=⟨_,rfl⟩
  have g1 : x0.grownBy x1 (some bz):=by rw [hx1];exact grown_setCells _ _ _ _ _ (World.grownBy.refl _ _)
  have hO1:=hO0.updS (S:=d.S.set k (true,ep)) (by rw [List.length_set]) (by rw [show (Value.slice h.az d.S.length h.cs).ownBlock = some bz from HRZ.out];exact g1) (by rw [hx1];exact HST.out)
  have P2:=P1.block (g1.block Q (by omega) (fun e=>by injection e with e;omega))
  have R2:=R1.block (g1.block (Q + 2) (by omega) (fun e=>by injection e with e;omega))
  have G2:=G1.step (Grew.of g1) (by rw [HRZ.out];simp)
  have z2:=g1.size
  rw [← hx1]
  clear hx1 HST y10 m1 m3 hth0 hth' hO0 P1 L1 R1 G1 g1
  obtain ⟨y0,y1,y2,y3,y4,y5,y6,y7,y8,y9,y10,y11⟩:=cf12 P2
  go_wp2_with (refine wpList_store_cf rfl 43 (.tmp 4) (.tmp 27) rfl (Q + 2) [.int .i64 0,.bool false,.int .i64 0,.int .i64 0,.int .i64 0,.int .i64 0,.slice none 0 0,.slice none 0 0,.slice none 0 0,.slice none 0 0,.slice none 0 0,.slice none 0 0] [.int .i64 d.wk,.bool d.up,.int .i64 d.now,.int .i64 d.sn,.int .i64 d.ep,.int .i64 d.gv,.slice h.a1 d.L1.length h.c1,.slice h.a2 d.L2.length h.c2,.slice h.ar d.R.length h.cr,.slice h.aj d.J.length h.cj,.slice h.az d.S.length h.cs,.slice h.ao d.O.length h.co] rfl rfl R2 rfl Tryz.sizeBo (one12b _ _ _ _ _ _ _ _ _ _ _ _ _ _ _ _ _ _ _ _ _ _ _ _) ?_;intro w10 hc10 hg10)
  obtain ⟨k0,k1,k2,k3,k4,k5,k6,k7,k8,k9,k10,k11⟩:=cf12 hc10
  have HN:=hid (frS_some (S:=d.S) (fm:=(k : Int) + 1) (ep:=ep) (by rw [HEK.out,← HQ2.out];omega))
  rw [HEK.out] at HN
  have hBO:=hO1.blk (w':=w10) (fun r hr q e=>hg10.block q (hO1.lo r hr q e).2 (fun e'=>by
   injection e' with e'
   have hr' : r ∈ rowsB d h:=by
    have : rowsB ⟨d.wk,d.up,d.now,d.sn,d.ep,d.gv,d.L1,d.L2,d.R,d.J,d.S.set k (true,ep),d.O⟩ h = rowsB d h:=by unfold rowsB;simp only [List.length_set]
    rw [← this];exact hr
   have:=hlo r hr' q e
   omega))
  exact bodyPost_ret (v:=.tuple #[.agg #[.int .i64 d.wk,.bool d.up,.int .i64 d.now,.int .i64 d.sn,.int .i64 d.ep,.int .i64 d.gv,.slice h.a1 d.L1.length h.c1,.slice h.a2 d.L2.length h.c2,.slice h.ar d.R.length h.cr,.slice h.aj d.J.length h.cj,.slice h.az d.S.length h.cs,.slice h.ao d.O.length h.co],.bool true]) (by simp [results,Tryz.results30,go_sem,k0,k1,k2,k3,k4,k5,k6,k7,k8,k9,k10,k11]) rfl ⟨d.S.set k (true,ep),true,rfl,.inr ⟨HN.out,rfl⟩,by rw [List.length_set],hBO,G2.far hg10 (by have:=HQ.out;omega)⟩
end Go.Proofs.YtaeomkpofcbmiaaGreatDoor
namespace Go.Proofs.YtaeomkpofcbmiaaGreatDoor
open Go.RowKit
def FreeI (w0 wK : World) (B Qm Qd Qp : Nat) (d : BD) (h : BH) (ts : List TaskD) (pa : Option Addr) (pc : Nat) (now sn : Int) (nb : Nat) (st : HSt) (v : Value) (vs : List Value) (k : Nat) (ep : Int) (e : Ending) (w' : World) : Prop:=∃ (S : List (Bool × Int)) (r : Bool),e = .returned (.bool r) ∧ (frS st.S ((k : Int) + 1) ep = none ∧ r = false ∧ S = st.S ∨ frS st.S ((k : Int) + 1) ep = some S ∧ r = true) ∧ DkS w0 wK B Qm Qd Qp d h ts pa pc now sn nb ⟨st.gv,st.J,S,st.M⟩ v vs w'
theorem freeSeat_any (w0 wK : World) (B Qm Qd Qp : Nat) (d : BD) (h : BH) (ts : List TaskD) (pa : Option Addr) (pc : Nat) (now sn : Int) (nb : Nat) (st : HSt) (v : Value) (vs : List Value) (kd tw ep le ta : Int) (k : Nat) (x : ByteArray) (ua : Option Addr) (un uc : Nat) (w : World) (s : DkS w0 wK B Qm Qd Qp d h ts pa pc now sn nb st v vs w) (hk : k < d.S.length) (hk8 : k ≤ 100) :
  Calls Tryz.prog 115 #[.pointer (some ⟨Qd,0,none⟩),.agg #[.int .i64 kd,.int .i64 ((k : Int) + 1),.int .i64 tw,.int .i64 ep,.int .i64 le,.int .i64 ta,.string x,.slice ua un uc]] w fun e w'=>FreeI w0 wK B Qm Qd Qp d h ts pa pc now sn nb st v vs k ep e w':=by
 have hkl : k < st.S.length:=by have:=s.H.lj.2;omega
 obtain ⟨W,hW⟩ : ∃ V,V = w.alloc (.cells #[.int .i64 kd,.int .i64 ((k : Int) + 1),.int .i64 tw,.int .i64 ep,.int .i64 le,.int .i64 ta,.string x,.slice ua un uc] 53):=⟨_,rfl⟩
 obtain ⟨Qx,hQx⟩ : ∃ q,q = w.heap.size:=⟨_,rfl⟩
 have hbW : Below w.heap.size w W:=by rw [hW];exact (Below.refl _ _).alloc (Nat.le_refl _) _
 have cW : CF W Qx [.int .i64 kd,.int .i64 ((k : Int) + 1),.int .i64 tw,.int .i64 ep,.int .i64 le,.int .i64 ta,.string x,.slice ua un uc]:=by rw [hW,hQx];exact CF.made w #[.int .i64 kd,.int .i64 ((k : Int) + 1),.int .i64 tw,.int .i64 ep,.int .i64 le,.int .i64 ta,.string x,.slice ua un uc] 53
 have sW:=s.below hbW
 have zW : W.heap.size = Qx + 1:=by rw [hW,hQx];simp
 have ek : (((k : Int) + 1) - 1).toNat = k:=by omega
 have hzq:=s.H.sz
 rw [← hQx] at hzq
 have HW:=hid hW
 have HQ:=hid hQx
 have HEK:=hid ek
 clear hW hQx hbW s ek
 go_enter Tryz.func115,Tryz.ntmps115
 go_upto_region 1 with fail
 rw [← HW.out,← HQ.out]
 clear HW HQ
 obtain ⟨bz,oz,cz,hze,_,hz1,hth,hset⟩:=sW.H.bo.o4.set2b hkl
 have e1 : h.az = some ⟨bz,oz,none⟩:=by injection hze with e1 e2 e3
 have hrz : rowS d h = some bz:=by unfold rowS;rw [e1];rfl
 have hbz:=sW.H.lo _ (rowS_mem d h) bz hrz
 obtain ⟨q2,hq2⟩ : ∃ q,q = (t2 st.S k).2:=⟨_,rfl⟩
 have hz1' : W.cell? ⟨bz,oz + k * 2 + 1,none⟩ = some (.int .i64 q2):=by rw [hq2];exact hz1
 have hsl : (d.at st).S.length = d.S.length:=sW.H.lj.2
 have hset':=fun b e=>hset b e
 rw [hsl] at hset'
 have hS0 : W.drew.cell? ⟨Qd,10,none⟩ = some (.slice (some ⟨bz,oz,none⟩) d.S.length h.cs) ∧ W.drew.cell? ⟨Qx,1,none⟩ = some (.int .i64 ((k : Int) + 1)) ∧ W.drew.cell? ⟨Qx,3,none⟩ = some (.int .i64 ep) ∧ W.drew.cell? ⟨bz,oz + k * 2 + 1,none⟩ = some (.int .i64 q2):=⟨by rw [← e1];exact (sW.D 10 (by simp)).1,(cW 1 (by simp)).1,(cW 3 (by simp)).1,hz1'⟩
 have s0:=sW.below (Below.refl W.heap.size W).drew
 have hth0 : W.drew.there bz (oz + k * 2) 2:=hth
 have HST:=hid (hset' true ep)
 have HRZ:=hid hrz
 have HQ2:=hid hq2
 clear hze hz1 hz1' hset hset' hth e1 hrz hq2 hsl
 refine wp_region_held (S:=fun w'=>w'.cell? ⟨Qd,10,none⟩ = some (.slice (some ⟨bz,oz,none⟩) d.S.length h.cs) ∧ w'.cell? ⟨Qx,1,none⟩ = some (.int .i64 ((k : Int) + 1)) ∧ w'.cell? ⟨Qx,3,none⟩ = some (.int .i64 ep) ∧ w'.cell? ⟨bz,oz + k * 2 + 1,none⟩ = some (.int .i64 q2)) (by kernel_rfl) ?_
 change wpAnyH _ _ _ _ _ _ _ _ (World.drew _)
 refine hTk (i:=0) (d:=some 6) (v:=.pointer (some ⟨Qd,0,none⟩)) (l':=(bt 10 1)) rfl (fun _ hc=>run_mvF (.tmp 0) (by kernel_rfl) (by kernel_rfl)) hS0 ?_
 refine hTk (i:=1) (d:=some 7) (v:=.pointer (some ⟨Qd,0,none⟩)) (l':=(bt 10 3)) rfl (fun _ hc=>run_nc (.tmp 6) (by kernel_rfl) (by kernel_rfl)) hS0 ?_
 refine hTk (i:=2) (d:=some 8) (v:=.pointer (some ⟨Qd,0,none⟩)) (l':=(bt 10 7)) rfl (fun _ hc=>run_faD0 (.tmp 7) (by kernel_rfl) (by kernel_rfl)) hS0 ?_
 refine hTk (i:=3) (d:=some 9) (v:=.pointer (some ⟨Qd,10,none⟩)) (l':=(bt 10 15)) rfl (fun _ hc=>run_fB9 (.tmp 8) (by kernel_rfl) (by kernel_rfl)) hS0 ?_
 refine hTk (i:=4) (d:=some 10) (v:=.slice (some ⟨bz,oz,none⟩) d.S.length h.cs) (l':=(bt 10 31)) rfl (fun _ hc=>run_ldSsB (.tmp 9) (by kernel_rfl) (by kernel_rfl) hc.1) hS0 ?_
 refine hTk (i:=5) (d:=some 11) (v:=.pointer (some ⟨Qx,1,none⟩)) (l':=(bt 10 63)) rfl (fun _ hc=>run_fM1 (.tmp 3) (by kernel_rfl) (by kernel_rfl)) hS0 ?_
 refine hTk (i:=6) (d:=some 12) (v:=.int .i64 ((k : Int) + 1)) (l':=(bt 10 127)) rfl (fun _ hc=>run_ldInB (.tmp 11) (by kernel_rfl) (by kernel_rfl) hc.2.1) hS0 ?_
 refine hTk (i:=7) (d:=some 13) (v:=.int .i64 (k : Nat)) (l':=(bt 10 255)) rfl (fun _ hc=>run_sub1 (.tmp 12) k (by omega) (by kernel_rfl) (by kernel_rfl) (by kernel_rfl)) hS0 ?_
 refine hTk (i:=8) (d:=some 14) (v:=.pointer (some ⟨bz,oz + k * 2,none⟩)) (l':=(bt 10 511)) rfl (fun _ hc=>run_ixSe (.tmp 10) (.tmp 13) bz oz d.S.length h.cs k (by kernel_rfl) (by kernel_rfl) (by kernel_rfl) hk) hS0 ?_
 refine hTk (i:=9) (d:=some 5) (v:=.pointer (some ⟨bz,oz + k * 2,none⟩)) (l':=(bt 10 1023)) rfl (fun _ hc=>run_asF (.tmp 14) (by kernel_rfl) (by kernel_rfl)) hS0 ?_
 refine wpAnyH_done (by kernel_rfl) ?_ _
 go_simp
 go_upto_region 2 with fail
 have hT0 : W.drew.drew.cell? ⟨Qd,10,none⟩ = some (.slice (some ⟨bz,oz,none⟩) d.S.length h.cs) ∧ W.drew.drew.cell? ⟨Qx,1,none⟩ = some (.int .i64 ((k : Int) + 1)) ∧ W.drew.drew.cell? ⟨Qx,3,none⟩ = some (.int .i64 ep) ∧ W.drew.drew.cell? ⟨bz,oz + k * 2 + 1,none⟩ = some (.int .i64 q2):=hS0
 have s1:=s0.below (Below.refl W.drew.heap.size W.drew).drew
 have hth1 : W.drew.drew.there bz (oz + k * 2) 2:=hth0
 have HST1 : Hid (Own B (W.drew.drew.setCells bz (oz + k * 2) [.bool true,.int .i64 ep]) 2 (.slice h.az d.S.length h.cs) d.S.length (c2 (st.S.set k (true,ep)))):=own_drew2 HST.out
 obtain ⟨x1,hx1⟩ : ∃ U,U = W.drew.drew:=⟨_,rfl⟩
 refine wp_region_held (S:=fun w'=>w'.cell? ⟨Qd,10,none⟩ = some (.slice (some ⟨bz,oz,none⟩) d.S.length h.cs) ∧ w'.cell? ⟨Qx,1,none⟩ = some (.int .i64 ((k : Int) + 1)) ∧ w'.cell? ⟨Qx,3,none⟩ = some (.int .i64 ep) ∧ w'.cell? ⟨bz,oz + k * 2 + 1,none⟩ = some (.int .i64 q2)) (by kernel_rfl) ?_
 change wpAnyH _ _ _ _ _ _ _ _ (World.drew _)
 rw [← hx1] at hT0 s1 hth1 HST1
 rw [← hx1]
 clear hx1 hS0 s0 hth0 HST sW cW
 by_cases hlt : ep < q2
 case pos =>
  have hd1 : decide (ep < q2) = true:=decide_eq_true hlt
  refine hTk (i:=0) (d:=some 15) (v:=.pointer (some ⟨Qx,3,none⟩)) (l':=(bt 7 1)) rfl (fun _ hc=>run_fM3 (.tmp 3) (by kernel_rfl) (by kernel_rfl)) hT0 ?_
  refine hTk (i:=1) (d:=some 16) (v:=.int .i64 ep) (l':=(bt 7 3)) rfl (fun _ hc=>run_ldInB (.tmp 15) (by kernel_rfl) (by kernel_rfl) hc.2.2.1) hT0 ?_
  refine hTk (i:=2) (d:=some 17) (v:=.pointer (some ⟨bz,oz + k * 2,none⟩)) (l':=(bt 7 7)) rfl (fun _ hc=>run_mvF (.tmp 5) (by kernel_rfl) (by kernel_rfl)) hT0 ?_
  refine hTk (i:=3) (d:=some 18) (v:=.pointer (some ⟨bz,oz + k * 2,none⟩)) (l':=(bt 7 15)) rfl (fun _ hc=>run_nc (.tmp 17) (by kernel_rfl) (by kernel_rfl)) hT0 ?_
  refine hTk (i:=4) (d:=some 19) (v:=.pointer (some ⟨bz,oz + k * 2 + 1,none⟩)) (l':=(bt 7 31)) rfl (fun _ hc=>run_faS1 (.tmp 18) (by kernel_rfl) (by kernel_rfl)) hT0 ?_
  refine hTk (i:=5) (d:=some 20) (v:=.int .i64 q2) (l':=(bt 7 63)) rfl (fun _ hc=>run_ldInB (.tmp 19) (by kernel_rfl) (by kernel_rfl) hc.2.2.2) hT0 ?_
  refine hTk (i:=6) (d:=some 21) (v:=.bool true) (l':=(bt 7 127)) rfl (fun _ hc=>run_ltB (.tmp 16) (.tmp 20) ep q2 true (by kernel_rfl) (by kernel_rfl) (by kernel_rfl) hd1) hT0 ?_
  refine wpAnyH_done (by kernel_rfl) ?_ _
  have HN:=hid (frS_none (S:=st.S) (fm:=(k : Int) + 1) (ep:=ep) (by rw [HEK.out,← HQ2.out];exact hlt))
  have HS1:=hid s1
  clear hT0 s1 hth1 HST1 hd1
  go_simp
  go_wp2_with fail
  go_ret
  exact ⟨st.S,false,rfl,.inl ⟨HN.out,rfl,rfl⟩,HS1.out⟩
 case neg =>
  have hd1 : decide (ep < q2) = false:=decide_eq_false hlt
  refine hTk (i:=0) (d:=some 15) (v:=.pointer (some ⟨Qx,3,none⟩)) (l':=(bt 7 1)) rfl (fun _ hc=>run_fM3 (.tmp 3) (by kernel_rfl) (by kernel_rfl)) hT0 ?_
  refine hTk (i:=1) (d:=some 16) (v:=.int .i64 ep) (l':=(bt 7 3)) rfl (fun _ hc=>run_ldInB (.tmp 15) (by kernel_rfl) (by kernel_rfl) hc.2.2.1) hT0 ?_
  refine hTk (i:=2) (d:=some 17) (v:=.pointer (some ⟨bz,oz + k * 2,none⟩)) (l':=(bt 7 7)) rfl (fun _ hc=>run_mvF (.tmp 5) (by kernel_rfl) (by kernel_rfl)) hT0 ?_
  refine hTk (i:=3) (d:=some 18) (v:=.pointer (some ⟨bz,oz + k * 2,none⟩)) (l':=(bt 7 15)) rfl (fun _ hc=>run_nc (.tmp 17) (by kernel_rfl) (by kernel_rfl)) hT0 ?_
  refine hTk (i:=4) (d:=some 19) (v:=.pointer (some ⟨bz,oz + k * 2 + 1,none⟩)) (l':=(bt 7 31)) rfl (fun _ hc=>run_faS1 (.tmp 18) (by kernel_rfl) (by kernel_rfl)) hT0 ?_
  refine hTk (i:=5) (d:=some 20) (v:=.int .i64 q2) (l':=(bt 7 63)) rfl (fun _ hc=>run_ldInB (.tmp 19) (by kernel_rfl) (by kernel_rfl) hc.2.2.2) hT0 ?_
  refine hTk (i:=6) (d:=some 21) (v:=.bool false) (l':=(bt 7 127)) rfl (fun _ hc=>run_ltB (.tmp 16) (.tmp 20) ep q2 false (by kernel_rfl) (by kernel_rfl) (by kernel_rfl) hd1) hT0 ?_
  refine wpAnyH_done (by kernel_rfl) ?_ _
  have HN:=hid (frS_some (S:=st.S) (fm:=(k : Int) + 1) (ep:=ep) (by rw [HEK.out,← HQ2.out];omega))
  rw [HEK.out] at HN
  have m3 : x1.cell? ⟨Qx,3,none⟩ = some (.int .i64 ep):=hT0.2.2.1
  have g1 : x1.grownBy (x1.setCells bz (oz + k * 2) [.bool true,.int .i64 ep]) (some bz):=grown_setCells _ _ _ _ _ (World.grownBy.refl _ _)
  have HF:=hid (s1.setS (S:=st.S.set k (true,ep)) (by rw [List.length_set];exact s1.H.lj.2) HRZ.out g1 HST1.out)
  clear hT0 s1 HST1 hd1 g1
  go_simp
  go_wp2_with (refine wpList_store_s2 rfl (.tmp 26) (.tmp 25) rfl bz (oz + k * 2) true ep rfl rfl hth1 ?_)
  go_ret
  exact ⟨st.S.set k (true,ep),true,rfl,.inr ⟨HN.out,rfl⟩,HF.out⟩
end Go.Proofs.YtaeomkpofcbmiaaGreatDoor
