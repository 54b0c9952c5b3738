
import Derived.Test.YtaeomkpofcbmiaaGreatDoorQBhi
import Derived.Test.YtaeomkpofcbmiaaGreatDoorQBdk
import Derived.Test.YtaeomkpofcbmiaaGreatDoorQBok
import Derived.Maps.OwnSet
import Derived.Test.YtaeomkpofcbmiaaGreatDoorQBha
set_option maxHeartbeats 4000000
set_option maxRecDepth 100000
namespace Go.Proofs.YtaeomkpofcbmiaaGreatDoor
open Go.RowKit
section
variable {ρ : Operand → Value} {o : Oper} {w : World}
theorem run_faD0 {g : Nat} (x : Operand) (h : o.op = .fieldAddr 137 x 0) (hx : ρ x = .pointer (some ⟨g,0,none⟩)) : (execOp ρ o).run Tryz.prog w = .ok (.value (.pointer (some ⟨g,0,none⟩))) w:=by
 unfold execOp;rw [h];simp [go_sem,hx]
theorem run_faD1 {g : Nat} (x : Operand) (h : o.op = .fieldAddr 137 x 1) (hx : ρ x = .pointer (some ⟨g,0,none⟩)) : (execOp ρ o).run Tryz.prog w = .ok (.value (.pointer (some ⟨g,12,none⟩))) w:=by
 unfold execOp;rw [h];simp [go_sem,hx]
theorem run_faD2 {g : Nat} (x : Operand) (h : o.op = .fieldAddr 137 x 2) (hx : ρ x = .pointer (some ⟨g,0,none⟩)) : (execOp ρ o).run Tryz.prog w = .ok (.value (.pointer (some ⟨g,13,none⟩))) w:=by
 unfold execOp;rw [h];simp [go_sem,hx]
theorem run_ldMp {p : Addr} {v : Value} (x : Operand) (h : o.op = .load 134 x) (hx : ρ x = .pointer (some p)) (hc : w.cell? p = some v) : (execOp ρ o).run Tryz.prog w = .ok (.value v) w:=by
 unfold execOp;rw [h];simp [go_sem,hx,hc]
end
structure DkS (w0 wK : World) (B Qm Qd Qp : Nat) (d : BD) (h : BH) (ts : List TaskD) (pa : Option Addr) (pc : Nat) (now sn : Int) (nb : Nat) (st : HSt) (v : Value) (vs : List Value) (wr : World) : Prop where
 H : HdI w0 B Qm d h st v vs wr
 D : CF wr Qd [.int .i64 d.wk,.bool d.up,.int .i64 now,.int .i64 sn,.int .i64 d.ep,.int .i64 st.gv,.slice h.a1 d.L1.length h.c1,.slice h.a2 d.L2.length h.c2,.slice h.ar d.R.length h.cr,.slice h.aj d.J.length h.cj,.slice h.az d.S.length h.cs,.slice h.ao d.O.length h.co,.slice pa ts.length pc,.map (some Qp),v]
 mp : ∃ (n : Nat) (X : DataW Unit),n ≤ nb ∧ wr.ownsMap Tryz.prog 3 (plainElem Tryz.prog 3) Qp n X
 q : B ≤ Qp ∧ B ≤ Qd ∧ Qp ≠ Qd ∧ Qd < Qm ∧ Qp < Qm
 nr : ∀ r ∈ rowsB d h,r ≠ some Qp ∧ r ≠ some Qd
 vm : ∃ a c,v = .slice a st.M.length c
 fx : ∀ q,q < Qm → q ≠ Qd → q ≠ Qp → (∀ r ∈ rowsB d h,r ≠ some q) → wr.heap[q]? = wK.heap[q]?
theorem DkS.below {w0 wK wr w' : World} {B Qm Qd Qp : Nat} {d : BD} {h : BH} {ts : List TaskD} {pa : Option Addr} {pc : Nat} {now sn : Int} {nb : Nat} {st : HSt} {v : Value} {vs : List Value} (s : DkS w0 wK B Qm Qd Qp d h ts pa pc now sn nb st v vs wr) (hb : Below wr.heap.size wr w') : DkS w0 wK B Qm Qd Qp d h ts pa pc now sn nb st v vs w':=by
 have hq:=s.q
 have hz:=s.H.sz
 obtain ⟨n,X,hn,hX⟩:=s.mp
 have hg : wr.grownBy w' none:=⟨hb.os,hb.tape,hb.output,hb.size,fun i hi _=>hb.block i hi⟩
 exact ⟨s.H.below hb,s.D.block (hb.block _ (by omega)),⟨n,X,hn,hX.kept hg (by simp)⟩,s.q,s.nr,s.vm,fun q h1 h2 h3 h4=>(hb.block q (by omega)).trans (s.fx q h1 h2 h3 h4)⟩
end Go.Proofs.YtaeomkpofcbmiaaGreatDoor
namespace Go.Proofs.YtaeomkpofcbmiaaGreatDoor
open Go.RowKit
theorem run_delB {ρ : Operand → Value} {o : Oper} {w w' : World} {m k : Value} (x y : Operand) (t tk ty : TypeId) (ho : o.op = .call { callee:=.builtin .delete,args:=#[x,y],argTypes:=#[t,tk] }) (hx : ρ x = m) (hy : ρ y = k) (hty : o.type = ty) (hr : (Builtin.delete_ #[t,tk] ty #[m,k]).run Tryz.prog w = .ok (.tuple #[]) w') : (execOp ρ o).run Tryz.prog w = .ok (.value (.tuple #[])) w':=by
 unfold execOp
 simp [ho,resolve,invoke,builtin,hx,hy,hty,hr,Result.andThen]
theorem DkS.map {w0 wK wr w' : World} {B Qm Qd Qp : Nat} {d : BD} {h : BH} {ts : List TaskD} {pa : Option Addr} {pc : Nat} {now sn : Int} {nb : Nat} {st : HSt} {v : Value} {vs : List Value} (s : DkS w0 wK B Qm Qd Qp d h ts pa pc now sn nb st v vs wr) (hg : wr.grownBy w' (some Qp)) (hm : ∃ (n : Nat) (X : DataW Unit),n ≤ nb ∧ w'.ownsMap Tryz.prog 3 (plainElem Tryz.prog 3) Qp n X) : DkS w0 wK B Qm Qd Qp d h ts pa pc now sn nb st v vs w':=by
 have hq:=s.q
 have hz:=s.H.sz
 exact ⟨s.H.farLo hg hq.1 hq.2.2.2.2 (fun r hr=>(s.nr r hr).1),s.D.block (hg.block _ (by omega) (fun e=>by injection e with e;omega)),hm,s.q,s.nr,s.vm,fun q h1 h2 h3 h4=>(hg.block q (by omega) (fun e=>by injection e with e;exact h3 e)).trans (s.fx q h1 h2 h3 h4)⟩
theorem DkS.setJ {w0 wK wr w' : World} {B Qm Qd Qp : Nat} {d : BD} {h : BH} {ts : List TaskD} {pa : Option Addr} {pc : Nat} {now sn : Int} {nb : Nat} {st : HSt} {v : Value} {vs : List Value} {J : List Tr} {bj : Nat} (s : DkS w0 wK B Qm Qd Qp d h ts pa pc now sn nb st v vs wr) (hl : J.length = d.J.length) (hr : rowJ d h = some bj) (hg : wr.grownBy w' (some bj)) (hJ : Own B w' 3 (.slice h.aj d.J.length h.cj) d.J.length (c3 J)) : DkS w0 wK B Qm Qd Qp d h ts pa pc now sn nb ⟨st.gv,J,st.S,st.M⟩ v vs w':=by
 have hq:=s.q
 have hz:=s.H.sz
 obtain ⟨n,X,hn,hX⟩:=s.mp
 have h1:=s.nr _ (rowJ_mem d h)
 rw [hr] at h1
 exact ⟨s.H.setJ hl (by rw [hr];exact hg) hJ,s.D.block (hg.block _ (by omega) (fun e=>h1.2 e.symm)),⟨n,X,hn,hX.kept hg (fun e=>h1.1 e.symm)⟩,s.q,s.nr,s.vm,fun q g1 g2 g3 g4=>(hg.block q (by omega) (fun e=>g4 _ (rowJ_mem d h) (by rw [hr];exact e.symm))).trans (s.fx q g1 g2 g3 g4)⟩
theorem endJob_any (w0 wK : World) (B Qm Qd Qp : Nat) (d : BD) (h : BH) (ts : List TaskD) (pa : Option Addr) (pc : Nat) (now sn : Int) (nb : Nat) (st : HSt) (v : Value) (vs : List Value) (i : Nat) (w : World) (s : DkS w0 wK B Qm Qd Qp d h ts pa pc now sn nb st v vs w) (hi : i < d.J.length) (hI : I64 (t3 st.J i).1) :
  Calls Tryz.prog 116 #[.pointer (some ⟨Qd,0,none⟩),.int .i64 (i : Nat)] w fun e w'=>e = .returned (.tuple #[]) ∧ DkS w0 wK B Qm Qd Qp d h ts pa pc now sn nb ⟨st.gv,st.J.set i (0,0,0),st.S,st.M⟩ v vs w':=by
 have hiJ : i < st.J.length:=by have:=s.H.lj.1;omega
 have hi' : (i : Int) < (d.J.length : Int):=by omega
 obtain ⟨bj,oj,cj,hje,_,_⟩:=s.H.bo.o3.set3 (i:=i) hiJ
 obtain ⟨lea,hlea⟩ : ∃ q,q = (t3 st.J i).1:=⟨_,rfl⟩
 have hje1 : h.aj = some ⟨bj,oj,none⟩:=by injection hje with e1 e2 e3
 have jc : w.cell? ⟨bj,oj + i * 3,none⟩ = some (.int .i64 lea):=by
  rcases s.H.bo.o3 with ⟨hx,_⟩ | ⟨g',o'',cap',hx,hc⟩
  ·rw [hje] at hx;cases hx
  ·rw [hje] at hx
   injection hx with e1 e2 e3
   injection e1 with e1
   injection e1 with e4 e5
   subst e4 e5
   rw [hc.holds (i * 3) (by show i * 3 < st.J.length * 3;omega),hlea]
   exact c3_get st.J i 0 hiJ (by omega)
 have hS0 : w.cell? ⟨Qd,13,none⟩ = some (.map (some Qp)) ∧ w.cell? ⟨Qd,9,none⟩ = some (.slice (some ⟨bj,oj,none⟩) d.J.length h.cj) ∧ w.cell? ⟨bj,oj + i * 3,none⟩ = some (.int .i64 lea):=⟨(s.D 13 (by simp)).1,by rw [← hje1];exact (s.D 9 (by simp)).1,jc⟩
 have hwf : (Lit.int .i64 lea).wf = true:=WalkArith.wf_i64 (by rw [hlea];exact hI)
 have hkey:=Maps.keyOf_int_mk (P:=Tryz.prog) Tryz.underlying3 hwf
 have hrj : rowJ d h = some bj:=by unfold rowJ;rw [hje1];rfl
 have HH:=hid (And.intro hje1 hrj)
 clear hje hje1 hrj jc hlea hI
 go_enter Tryz.func116,Tryz.ntmps116
 go_upto_region 0 with fail
 refine wp_region_held (S:=fun w'=>w'.cell? ⟨Qd,13,none⟩ = some (.map (some Qp)) ∧ w'.cell? ⟨Qd,9,none⟩ = some (.slice (some ⟨bj,oj,none⟩) d.J.length h.cj) ∧ w'.cell? ⟨bj,oj + i * 3,none⟩ = some (.int .i64 lea)) (by kernel_rfl) ?_
 change wpAnyH _ _ _ _ _ _ _ _ (World.drew _)
 have s0:=s.below (Below.refl w.heap.size w).drew
 have hS0' : w.drew.cell? ⟨Qd,13,none⟩ = some (.map (some Qp)) ∧ w.drew.cell? ⟨Qd,9,none⟩ = some (.slice (some ⟨bj,oj,none⟩) d.J.length h.cj) ∧ w.drew.cell? ⟨bj,oj + i * 3,none⟩ = some (.int .i64 lea):=hS0
 obtain ⟨x0,hx0⟩ : ∃ U,U = w.drew:=⟨_,rfl⟩
 rw [← hx0] at s0 hS0'
 rw [← hx0]
 clear hx0 s hS0
 have hS0:=hS0'
 clear hS0'
 refine hTk (i:=0) (d:=some 4) (v:=.pointer (some ⟨Qd,0,none⟩)) (l':=(bt 14 1)) rfl (fun _ hc=>run_mvF (.tmp 0) (by kernel_rfl) (by kernel_rfl)) hS0 ?_
 refine hTk (i:=1) (d:=some 5) (v:=.pointer (some ⟨Qd,0,none⟩)) (l':=(bt 14 3)) rfl (fun _ hc=>run_nc (.tmp 4) (by kernel_rfl) (by kernel_rfl)) hS0 ?_
 refine hTk (i:=2) (d:=some 6) (v:=.pointer (some ⟨Qd,13,none⟩)) (l':=(bt 14 7)) rfl (fun _ hc=>run_faD2 (.tmp 5) (by kernel_rfl) (by kernel_rfl)) hS0 ?_
 refine hTk (i:=3) (d:=some 7) (v:=.map (some Qp)) (l':=(bt 14 15)) rfl (fun _ hc=>run_ldMp (.tmp 6) (by kernel_rfl) (by kernel_rfl) hc.1) hS0 ?_
 refine hTk (i:=4) (d:=some 8) (v:=.pointer (some ⟨Qd,0,none⟩)) (l':=(bt 14 31)) rfl (fun _ hc=>run_mvF (.tmp 0) (by kernel_rfl) (by kernel_rfl)) hS0 ?_
 refine hTk (i:=5) (d:=some 9) (v:=.pointer (some ⟨Qd,0,none⟩)) (l':=(bt 14 63)) rfl (fun _ hc=>run_nc (.tmp 8) (by kernel_rfl) (by kernel_rfl)) hS0 ?_
 refine hTk (i:=6) (d:=some 10) (v:=.pointer (some ⟨Qd,0,none⟩)) (l':=(bt 14 127)) rfl (fun _ hc=>run_faD0 (.tmp 9) (by kernel_rfl) (by kernel_rfl)) hS0 ?_
 refine hTk (i:=7) (d:=some 11) (v:=.pointer (some ⟨Qd,9,none⟩)) (l':=(bt 14 255)) rfl (fun _ hc=>run_faB8 (.tmp 10) (by kernel_rfl) (by kernel_rfl)) hS0 ?_
 refine hTk (i:=8) (d:=some 12) (v:=(.slice (some ⟨bj,oj,none⟩) d.J.length h.cj)) (l':=(bt 14 511)) rfl (fun _ hc=>run_ldJsB (.tmp 11) (by kernel_rfl) (by kernel_rfl) hc.2.1) hS0 ?_
 refine hTk (i:=9) (d:=some 13) (v:=.int .i64 (i : Nat)) (l':=(bt 14 1023)) rfl (fun _ hc=>run_mvF (.tmp 1) (by kernel_rfl) (by kernel_rfl)) hS0 ?_
 refine hTk (i:=10) (d:=some 14) (v:=.pointer (some ⟨bj,oj + i * 3,none⟩)) (l':=(bt 14 2047)) rfl (fun _ hc=>run_ixJ (.tmp 12) (.tmp 13) bj oj d.J.length h.cj i (by kernel_rfl) (by kernel_rfl) (by kernel_rfl) hi) hS0 ?_
 refine hTk (i:=11) (d:=some 15) (v:=.pointer (some ⟨bj,oj + i * 3,none⟩)) (l':=(bt 14 4095)) rfl (fun _ hc=>run_faJ0 (.tmp 14) (by kernel_rfl) (by kernel_rfl)) hS0 ?_
 refine hTk (i:=12) (d:=some 16) (v:=.int .i64 lea) (l':=(bt 14 8191)) rfl (fun _ hc=>run_ldInB (.tmp 15) (by kernel_rfl) (by kernel_rfl) hc.2.2) hS0 ?_
 obtain ⟨n,X,hnn,hX⟩:=s0.mp
 obtain ⟨w1,hrun,hown1,hturn⟩:=hX.drop mapLawI Tryz.underlying134 hkey 0
 have g1:=hturn.grown
 have s1:=s0.map g1 ⟨n,_,hnn,hown1⟩
 have hq:=s0.q
 have hz:=s0.H.sz
 have hbj : bj ≠ Qp:=fun e=>(s0.nr _ (rowJ_mem d h)).1 (by rw [HH.out.2,e])
 have hbl:=s0.H.lo _ (rowJ_mem d h) bj HH.out.2
 have hS1 : w1.cell? ⟨Qd,13,none⟩ = some (.map (some Qp)) ∧ w1.cell? ⟨Qd,9,none⟩ = some (.slice (some ⟨bj,oj,none⟩) d.J.length h.cj) ∧ w1.cell? ⟨bj,oj + i * 3,none⟩ = some (.int .i64 lea):=⟨(s1.D 13 (by simp)).1,by rw [← HH.out.1];exact (s1.D 9 (by simp)).1,(g1.cell hS0.2.2 (fun e=>hbj (by injection e)))⟩
 refine hOne (i:=13) (by kernel_rfl) (hVal (i:=13) (d:=none) (v:=.tuple #[]) (w':=w1) (l':=(bt 14 16383)) rfl (by kernel_rfl) (by kernel_rfl) (by kernel_rfl) (run_delB (.tmp 7) (.tmp 16) 134 3 0 (by kernel_rfl) (by kernel_rfl) (by kernel_rfl) (by kernel_rfl) hrun) hS1 ?_)
 refine wpAnyH_done (by kernel_rfl) ?_ _
 have y9 : w1.cell? ⟨Qd,9,none⟩ = some (.slice (some ⟨bj,oj,none⟩) d.J.length h.cj):=hS1.2.1
 obtain ⟨bJ,oJ,cJ,hje,hth,hset⟩:=s1.H.bo.o3.set3 (i:=i) hiJ
 obtain ⟨rfl,rfl⟩ : bj = bJ ∧ oj = oJ:=by
  injection hje with e1 e2 e3
  have e4:=HH.out.1.symm.trans e1
  injection e4 with e4
  injection e4 with e5 e6
  exact ⟨e5,e6⟩
 have hset0:=hset ((0,0,0) : Tr)
 have HSET:=hid hset0
 have HS1:=hid s1
 clear hS0 hS1 s0 hX hown1 hturn g1 hrun hset hset0 hje s1 hkey hwf hbj
 go_simp
 go_wp2_with (refine wpList_store_j3 rfl (.tmp 24) (.tmp 23) rfl bj (oj + i * 3) 0 0 0 rfl rfl hth ?_)
 go_end0
 refine ⟨rfl,?_⟩
 have e : (d.at st).J.length = d.J.length:=HS1.out.H.lj.1
 have hq2:=HSET.out
 rw [e] at hq2
 exact HS1.out.setJ (by rw [List.length_set];exact HS1.out.H.lj.1) HH.out.2 (grown_setCells _ _ _ _ _ (World.grownBy.refl _ _)) hq2
end Go.Proofs.YtaeomkpofcbmiaaGreatDoor
