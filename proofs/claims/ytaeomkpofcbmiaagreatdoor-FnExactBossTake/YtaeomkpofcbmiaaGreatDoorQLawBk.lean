
import Derived.Test.YtaeomkpofcbmiaaGreatDoorQBoo
import Derived.Test.YtaeomkpofcbmiaaGreatDoorQBkx
import Derived.Test.YtaeomkpofcbmiaaGreatDoorQBks
import Derived.Test.YtaeomkpofcbmiaaGreatDoorQBkg
import Derived.Test.YtaeomkpofcbmiaaGreatDoorQMtk
import Derived.Test.YtaeomkpofcbmiaaGreatDoorQLld
import Derived.Deep.DeepCutAuto
set_option maxHeartbeats 16000000
set_option maxRecDepth 100000
namespace Go.Proofs.YtaeomkpofcbmiaaGreatDoor
open Go.RowKit
theorem Tryz.sizeLB : (Tryz.prog.info? 29).map (·.size) = some 12:=by kernel_rfl
theorem Tryz.sizeLP : (Tryz.prog.info? 32).map (·.size) = some 1:=by kernel_rfl
theorem enter_toB (v1 : Value) (w : World) : Sem.run Tryz.prog (callFunc 8 #[v1]) w = .ok (.enter 8 #[v1]) w:=by kernel_rfl
theorem enter_toP (v1 : Value) (w : World) : Sem.run Tryz.prog (callFunc 9 #[v1]) w = .ok (.enter 9 #[v1]) w:=by kernel_rfl
theorem Tryz.sizeLM : (Tryz.prog.info? 34).map (·.size) = some 8:=by kernel_rfl
theorem enter_toM (v1 : Value) (w : World) : Sem.run Tryz.prog (callFunc 10 #[v1]) w = .ok (.enter 10 #[v1]) w:=by kernel_rfl
theorem enter_sTake (v1 v2 v3 : Value) (w : World) : Sem.run Tryz.prog (callFunc 7 #[v1,v2,v3]) w = .ok (.enter 7 #[v1,v2,v3]) w:=by kernel_rfl
theorem enter_iTake (v1 v2 v3 : Value) (w : World) : Sem.run Tryz.prog (callFunc 11 #[v1,v2,v3]) w = .ok (.enter 11 #[v1,v2,v3]) w:=by kernel_rfl
theorem run_alB {ρ : Operand → Value} {o : Oper} {w : World} (h : o.op = .alloc 46) : (execOp ρ o).run Tryz.prog w = .ok (.value (.pointer (some ⟨w.heap.size,0,none⟩))) (w.alloc (.cells #[.int .i64 0,.bool false,.int .i64 0,.int .i64 0,.int .i64 0,.int .i64 0,.slice none 0 0,.slice none 0 0,.slice none 0 0,.slice none 0 0,.slice none 0 0,.slice none 0 0,.slice none 0 0] 46)):=by
 unfold execOp
 rw [h]
 simp [go_sem]
theorem Shape.blocks {g H n : Nat} {w w' : World} (h : Shape g H n w) (hgH : g < H) (hb : ∀ q,g ≤ q → q < H → w'.heap[q]? = w.heap[q]?) : Shape g H n w' where
 s0:=fun j hj=>by obtain ⟨s,hs⟩:=h.s0 j hj;exact ⟨s,(World.cell?_of_block (w:=w) (a:=⟨g,j * 3,none⟩) (hb g (Nat.le_refl _) hgH)).trans hs⟩
 s1:=fun j hj=>by obtain ⟨s,hs⟩:=h.s1 j hj;exact ⟨s,(World.cell?_of_block (w:=w) (a:=⟨g,j * 3 + 1,none⟩) (hb g (Nat.le_refl _) hgH)).trans hs⟩
 s2:=fun j hj=>by
  obtain ⟨b',n',h0,h1,h2,h3,h4⟩:=h.s2 j hj
  refine ⟨b',n',(World.cell?_of_block (w:=w) (a:=⟨g,j * 3 + 2,none⟩) (hb g (Nat.le_refl _) hgH)).trans h0,h1,h2,h3,fun i hi=>?_⟩
  obtain ⟨⟨y,hy⟩,hf⟩:=h4 i hi
  exact ⟨⟨y,(World.cell?_of_block (w:=w) (a:=⟨b',i,none⟩) (hb b' (by omega) h2)).trans hy⟩,(World.frozen?_of_block (w:=w) (a:=⟨b',i,none⟩) (hb b' (by omega) h2)).trans hf⟩
 fr:=fun j hj=>(World.frozen?_of_block (w:=w) (a:=⟨g,j,none⟩) (hb g (Nat.le_refl _) hgH)).trans (h.fr j hj)
theorem CF.lt {w : World} {p : Nat} {v : Value} {vs : List Value} (h : CF w p (v :: vs)) : p < w.heap.size:=World.block_lt_of_cell? w ⟨p,0,none⟩ (h 0 (by simp)).1
theorem CF.belowS {w w' : World} {p : Nat} {v : Value} {vs : List Value} (h : CF w p (v :: vs)) (hb : Below w.heap.size w w') : CF w' p (v :: vs):=h.block (hb.block p h.lt)
theorem CF.grownS {w w' : World} {p : Nat} {v : Value} {vs : List Value} {row : Option Nat} (h : CF w p (v :: vs)) (hg : w.grownBy w' row) (hr : some p ≠ row) : CF w' p (v :: vs):=h.block (hg.block p h.lt hr)
theorem CF.midS {w w' : World} {p g H : Nat} {v : Value} {vs : List Value} (h : CF w p (v :: vs)) (hM : Mid g H w w') (hr : p < g ∨ H ≤ p) : CF w' p (v :: vs):=h.block (hM.block p h.lt hr)
theorem Own.midR {B : Nat} {w w' : World} {size : Nat} {v : Value} {n : Nat} {xs : List Value} {g H : Nat} (h : Own B w size v n xs) (hM : Mid g H w w') (hr : ∀ q,v.ownBlock = some q → q < g ∨ H ≤ q) : Own B w' size v n xs:=by
 rcases h with h | ⟨k,o,cap,rfl,hc⟩
 ·exact .inl h
 ·exact .inr ⟨k,o,cap,rfl,hc.block (hM.block k hc.hi (hr k rfl))⟩
def zL : List Value:=[.int .i64 0,.bool false,.int .i64 0,.int .i64 0,.int .i64 0,.int .i64 0,.slice none 0 0,.slice none 0 0,.slice none 0 0,.slice none 0 0,.slice none 0 0,.slice none 0 0,.slice none 0 0]
theorem lvs_one (d : BD) (h : BH) (M : List MgD) (x : Option Addr) (y : Nat) : ∀ v ∈ lvs d h M x y,v.oneCell' = true:=by
 intro v hv
 simp only [lvs,List.mem_cons,List.not_mem_nil,or_false] at hv
 rcases hv with rfl | rfl | rfl | rfl | rfl | rfl | rfl | rfl | rfl | rfl | rfl | rfl | rfl <;> rfl
theorem RetLd.lv {e : Ending} {B : Nat} {w' : World} {F : BD × List MgD → Prop} (h : RetLd e B w' F) : ∃ d h M x y q,e = .returned (.agg (lvs d h M x y).toArray) ∧ LedO w' B d h (.slice x M.length y) M q ∧ F (d,M):=by
 obtain ⟨d,h,v,M,q,he,hL,hF⟩:=h
 obtain ⟨x,y,rfl⟩:=hL.ms.row.slc
 exact ⟨d,h,M,x,y,q,he,hL,hF⟩
theorem sTakeL_any (d : BD) (h : BH) (pa : Option Addr) (pb po pn pc : Nat) (ts : List TaskD) (kd fm tw em le ta : Int) (xm : ByteArray) (ms : List ByteArray) (ma : Option Addr) (mb mo mn mc : Nat) (w : World) (hM : BossM w d h) (hT : TasksAt w pa pb po pn ts) (hs : d.small) (hst : StrsAt w ma mb mo mn ms) :
  Calls Tryz.prog 7 #[.agg (bvs d h).toArray,.agg #[.slice pa pn pc],.agg #[.int .i64 kd,.int .i64 fm,.int .i64 tw,.int .i64 em,.int .i64 le,.int .i64 ta,.string xm,.slice ma mn mc]] w fun e w'=>(∃ d1 h1 M1 x1 y1 q1,e = .returned (.agg (lvs d1 h1 M1 x1 y1).toArray) ∧ LedO w' w.heap.size d1 h1 (.slice x1 M1.length y1) M1 q1 ∧ takeBR d ts (⟨kd,fm,tw,em,le,ta,xm,ms⟩ : MgD) (d1,M1)) ∧ Below w.heap.size w w':=by
 obtain rfl:=hst.len
 exact (sTakeB_any d h pa pb po pn pc ts kd fm tw em le ta xm ms ma mb mo mc w hM hT hs hst).mono fun _ _ ⟨hr,hb⟩=>⟨hr.lv,hb⟩
theorem iTakeL_any (d : BD) (h : BH) (pa : Option Addr) (pb po pn pc : Nat) (ts : List TaskD) (kd fm tw em le ta : Int) (xm : ByteArray) (ms : List ByteArray) (ma : Option Addr) (mb mo mn mc : Nat) (w : World) (hM : BossM w d h) (hT : TasksAt w pa pb po pn ts) (hs : d.small) (hst : StrsAt w ma mb mo mn ms) (hTab : Tab w) :
  Calls Tryz.prog 11 #[.agg (bvs d h).toArray,.agg #[.slice pa pn pc],.agg #[.int .i64 kd,.int .i64 fm,.int .i64 tw,.int .i64 em,.int .i64 le,.int .i64 ta,.string xm,.slice ma mn mc]] w fun e w'=>(∃ d1 h1 M1 x1 y1 q1,e = .returned (.agg (lvs d1 h1 M1 x1 y1).toArray) ∧ LedO w' w.heap.size d1 h1 (.slice x1 M1.length y1) M1 q1 ∧ takeBR d ts (⟨kd,fm,tw,em,le,ta,xm,ms⟩ : MgD) (d1,M1)) ∧ Below w.heap.size w w':=by
 obtain rfl:=hst.len
 exact (iTakeB_any d h pa pb po pn pc ts kd fm tw em le ta xm ms ma mb mo mc w hM hT hs hTab hst).mono fun _ _ ⟨hr,hb⟩=>⟨hr.lv,hb⟩
theorem fnExactBossTake_walk (d : BD) (h : BH) (pa : Option Addr) (pb po pn pc : Nat) (ts : List TaskD) (kd fm tw em le ta : Int) (xm : ByteArray) (ms : List ByteArray) (ma : Option Addr) (mb mo mn mc : Nat) (w : World) (hM : BossM w d h) (hp : TasksAt w pa pb po pn ts) (hm : StrsAt w ma mb mo mn ms) (hy : xm.size ≤ maxLen) (hTab : Tab w) :
  Calls Tryz.prog 3 #[.agg #[.int .i64 d.wk,.bool d.up,.int .i64 d.now,.int .i64 d.sn,.int .i64 d.ep,.int .i64 d.gv,.slice h.a1 d.L1.length h.c1,.slice h.a2 d.L2.length h.c2,.slice h.ar d.R.length h.cr,.slice h.aj d.J.length h.cj,.slice h.az d.S.length h.cs,.slice h.ao d.O.length h.co],.agg #[.slice pa pn pc],.agg #[.int .i64 kd,.int .i64 fm,.int .i64 tw,.int .i64 em,.int .i64 le,.int .i64 ta,.string xm,.slice ma mn mc]] w fun e' w'=>e' = .returned (.bool true) ∧ Below w.heap.size w w':=by
 obtain ⟨W,hW⟩ : ∃ W,W = ((w.alloc (.cells #[.int .i64 d.wk,.bool d.up,.int .i64 d.now,.int .i64 d.sn,.int .i64 d.ep,.int .i64 d.gv,.slice h.a1 d.L1.length h.c1,.slice h.a2 d.L2.length h.c2,.slice h.ar d.R.length h.cr,.slice h.aj d.J.length h.cj,.slice h.az d.S.length h.cs,.slice h.ao d.O.length h.co] 29)).alloc (.cells #[.slice pa pn pc] 32)).alloc (.cells #[.int .i64 kd,.int .i64 fm,.int .i64 tw,.int .i64 em,.int .i64 le,.int .i64 ta,.string xm,.slice ma mn mc] 34):=⟨_,rfl⟩
 have hBW : Below w.heap.size w W:=by rw [hW];exact (((Below.refl _ _).alloc (Nat.le_refl _) _).alloc (by simp) _).alloc (by simp;omega) _
 have hsW : W.heap.size = w.heap.size + 3:=by rw [hW];simp
 have hPW : CF W (w.heap.size) [.int .i64 d.wk,.bool d.up,.int .i64 d.now,.int .i64 d.sn,.int .i64 d.ep,.int .i64 d.gv,.slice h.a1 d.L1.length h.c1,.slice h.a2 d.L2.length h.c2,.slice h.ar d.R.length h.cr,.slice h.aj d.J.length h.cj,.slice h.az d.S.length h.cs,.slice h.ao d.O.length h.co]:=by rw [hW];exact ((CF.made w #[.int .i64 d.wk,.bool d.up,.int .i64 d.now,.int .i64 d.sn,.int .i64 d.ep,.int .i64 d.gv,.slice h.a1 d.L1.length h.c1,.slice h.a2 d.L2.length h.c2,.slice h.ar d.R.length h.cr,.slice h.aj d.J.length h.cj,.slice h.az d.S.length h.cs,.slice h.ao d.O.length h.co] 29).block (Below.heap_alloc _ _ _ (by simp))).block (Below.heap_alloc _ _ _ (by simp;omega))
 have hPP : CF W (w.heap.size + 1) [.slice pa pn pc]:=by
  rw [hW]
  have:=CF.made (w.alloc (.cells #[.int .i64 d.wk,.bool d.up,.int .i64 d.now,.int .i64 d.sn,.int .i64 d.ep,.int .i64 d.gv,.slice h.a1 d.L1.length h.c1,.slice h.a2 d.L2.length h.c2,.slice h.ar d.R.length h.cr,.slice h.aj d.J.length h.cj,.slice h.az d.S.length h.cs,.slice h.ao d.O.length h.co] 29)) #[.slice pa pn pc] 32
  rw [World.size_alloc] at this
  exact this.block (Below.heap_alloc _ _ _ (by simp))
 have hPM : CF W (w.heap.size + 2) [.int .i64 kd,.int .i64 fm,.int .i64 tw,.int .i64 em,.int .i64 le,.int .i64 ta,.string xm,.slice ma mn mc]:=by
  rw [hW]
  have:=CF.made ((w.alloc (.cells #[.int .i64 d.wk,.bool d.up,.int .i64 d.now,.int .i64 d.sn,.int .i64 d.ep,.int .i64 d.gv,.slice h.a1 d.L1.length h.c1,.slice h.a2 d.L2.length h.c2,.slice h.ar d.R.length h.cr,.slice h.aj d.J.length h.cj,.slice h.az d.S.length h.cs,.slice h.ao d.O.length h.co] 29)).alloc (.cells #[.slice pa pn pc] 32)) #[.int .i64 kd,.int .i64 fm,.int .i64 tw,.int .i64 em,.int .i64 le,.int .i64 ta,.string xm,.slice ma mn mc] 34
  rw [World.size_alloc,World.size_alloc] at this
  exact this
 have hfit:=hM.fits
 have HW:=hid hW
 clear hW
 go_enter Tryz.func3,Tryz.ntmps3
 go_wp2_with fail
 rw [← HW.out]
 clear HW
 refine (szBossO_any d h 1048576 _ (by omega) (by omega) (hM.below' hBW)).mono ?_
 rintro e' w1 ⟨⟨r,rfl,hr⟩,hb1⟩
 have hPW1:=hPW.block (hb1.block (w.heap.size) (by omega))
 have hPP1:=hPP.block (hb1.block (w.heap.size + 1) (by omega))
 have hPM1:=hPM.block (hb1.block (w.heap.size + 2) (by omega))
 have hBw1:=hBW.trans (hb1.mono hBW.size)
 have hl1 : w.heap.size + 2 < w1.heap.size:=by have:=hb1.size;omega
 clear hPW hPP hPM hb1 hBW hsW
 rcases hr with rfl | ⟨hr0,hr1,hs⟩
 ·go_wp2
  go_ret
  exact ⟨rfl,hBw1⟩
 have kp : w1.cell? ⟨w.heap.size + 1,0,none⟩ = some (.slice pa pn pc):=(hPP1 0 (by simp)).1
 have hr0' : ¬ r < 0:=by omega
 go_wp2_with fail
 refine (szPlan_any pa pb po pn pc ts r _ hr0 hr1 (hp.below' hBw1)).mono ?_
 rintro e' w2 ⟨⟨r2,rfl,hr2⟩,hb2⟩
 have hPW2:=hPW1.block (hb2.block (w.heap.size) (by omega))
 have hPP2:=hPP1.block (hb2.block (w.heap.size + 1) (by omega))
 have hPM2:=hPM1.block (hb2.block (w.heap.size + 2) (by omega))
 have hBw2:=hBw1.trans (hb2.mono hBw1.size)
 have hl2 : w.heap.size + 2 < w2.heap.size:=Nat.lt_of_lt_of_le hl1 hb2.size
 clear kp hPW1 hPP1 hPM1 hb2 hBw1 hl1 hr0'
 rcases hr2 with rfl | ⟨hr2,hr3⟩
 ·go_wp2
  go_ret
  exact ⟨rfl,hBw2⟩
 have hpn : pn + tssz ts ≤ 1048576:=by omega
 have hr3' : ¬ r2 < 0:=by omega
 have hr2b : r2 ≤ 1048576:=by omega
 clear hr2
 obtain ⟨mq0,mq1,mq2,mq3,mq4,mq5,mq6,mq7⟩:=cf8 hPM2
 go_wp2_with fail
 refine (szMessageT_any kd fm tw em le ta xm ma mb mo mn mc ms r2 _ hr3 hr2b (hm.below' hBw2) hy).mono ?_
 rintro e' w3 ⟨⟨r3,rfl,hr5⟩,hb3⟩
 have hPW:=hPW2.block (hb3.block (w.heap.size) (by omega))
 have hPP:=hPP2.block (hb3.block (w.heap.size + 1) (by omega))
 have hPM:=hPM2.block (hb3.block (w.heap.size + 2) (by omega))
 have hBw3:=hBw2.trans (hb3.mono hBw2.size)
 have hlp : w.heap.size + 2 < w3.heap.size:=Nat.lt_of_lt_of_le hl2 hb3.size
 clear mq0 mq1 mq2 mq3 mq4 mq5 mq6 mq7 hPW2 hPP2 hPM2 hb3 hBw2 hl2 hr3' hr2b hr3 hr0 hr1
 rcases hr5 with rfl | ⟨hr5,hs5,-⟩
 ·go_wp2
  go_ret
  exact ⟨rfl,hBw3⟩
 have hmn : mn ≤ 1048576:=by omega
 have hr5' : ¬ r3 < 0:=by omega
 clear hs5
 go_upto_region 11 with fail
 clear hr5 hr5'
 go_cut [8] (fun sv wx=>∃ (p : Nat) (d1 : BD) (h1 : BH) (M1 : List MgD) (x1 : Option Addr) (y1 : Nat) (q1 : List Value),sv = .pointer (some ⟨p,0,none⟩) ∧ CF wx p (lvs d1 h1 M1 x1 y1) ∧ takeBR d ts (⟨kd,fm,tw,em,le,ta,xm,ms⟩ : MgD) (d1,M1) ∧ LedO wx w3.heap.size d1 h1 (.slice x1 M1.length y1) M1 q1 ∧ w3.heap.size ≤ p ∧ CF wx (w.heap.size) [.int .i64 d.wk,.bool d.up,.int .i64 d.now,.int .i64 d.sn,.int .i64 d.ep,.int .i64 d.gv,.slice h.a1 d.L1.length h.c1,.slice h.a2 d.L2.length h.c2,.slice h.ar d.R.length h.cr,.slice h.aj d.J.length h.cj,.slice h.az d.S.length h.cs,.slice h.ao d.O.length h.co] ∧ CF wx (w.heap.size + 1) [.slice pa pn pc] ∧ CF wx (w.heap.size + 2) [.int .i64 kd,.int .i64 fm,.int .i64 tw,.int .i64 em,.int .i64 le,.int .i64 ta,.string xm,.slice ma mn mc] ∧ Below w.heap.size w wx ∧ Below w3.heap.size w3 wx)
 case first =>
  refine wp_region_held (S:=fun w'=>CF w' (w.heap.size) [.int .i64 d.wk,.bool d.up,.int .i64 d.now,.int .i64 d.sn,.int .i64 d.ep,.int .i64 d.gv,.slice h.a1 d.L1.length h.c1,.slice h.a2 d.L2.length h.c2,.slice h.ar d.R.length h.cr,.slice h.aj d.J.length h.cj,.slice h.az d.S.length h.cs,.slice h.ao d.O.length h.co] ∧ CF w' (w.heap.size + 1) [.slice pa pn pc] ∧ CF w' (w.heap.size + 2) [.int .i64 kd,.int .i64 fm,.int .i64 tw,.int .i64 em,.int .i64 le,.int .i64 ta,.string xm,.slice ma mn mc]) (by kernel_rfl) ?_
  change wpAnyH _ _ _ _ _ _ _ _ (World.drew _)
  have hPWu0 : CF w3.drew (w.heap.size) [.int .i64 d.wk,.bool d.up,.int .i64 d.now,.int .i64 d.sn,.int .i64 d.ep,.int .i64 d.gv,.slice h.a1 d.L1.length h.c1,.slice h.a2 d.L2.length h.c2,.slice h.ar d.R.length h.cr,.slice h.aj d.J.length h.cj,.slice h.az d.S.length h.cs,.slice h.ao d.O.length h.co]:=hPW
  have hPPu0 : CF w3.drew (w.heap.size + 1) [.slice pa pn pc]:=hPP
  have hPMu0 : CF w3.drew (w.heap.size + 2) [.int .i64 kd,.int .i64 fm,.int .i64 tw,.int .i64 em,.int .i64 le,.int .i64 ta,.string xm,.slice ma mn mc]:=hPM
  have hBu0:=hBw3.drew
  have hzu0 : w3.heap.size ≤ w3.drew.heap.size:=Nat.le_refl _
  have hDu0 : Below w3.heap.size w3 w3.drew:=(Below.refl _ _).drew
  have hlu0 : w.heap.size + 2 < w3.drew.heap.size:=hlp
  obtain ⟨u0,hu0⟩ : ∃ u0,u0 = w3.drew:=⟨_,rfl⟩
  rw [← hu0] at hPWu0 hPPu0 hPMu0 hBu0 hzu0 hlu0 hDu0
  rw [← hu0]
  clear hu0
  refine hTk (i:=0) (d:=some 32) (v:=.agg #[.int .i64 d.wk,.bool d.up,.int .i64 d.now,.int .i64 d.sn,.int .i64 d.ep,.int .i64 d.gv,.slice h.a1 d.L1.length h.c1,.slice h.a2 d.L2.length h.c2,.slice h.ar d.R.length h.cr,.slice h.aj d.J.length h.cj,.slice h.az d.S.length h.cs,.slice h.ao d.O.length h.co]) (l':=(bt 9 1)) rfl (fun _ hc=>run_ldT 29 _ [.int .i64 d.wk,.bool d.up,.int .i64 d.now,.int .i64 d.sn,.int .i64 d.ep,.int .i64 d.gv,.slice h.a1 d.L1.length h.c1,.slice h.a2 d.L2.length h.c2,.slice h.ar d.R.length h.cr,.slice h.aj d.J.length h.cj,.slice h.az d.S.length h.cs,.slice h.ao d.O.length h.co] (.tmp 3) (by kernel_rfl) (by kernel_rfl) hc.1 Tryz.underlying29 rfl Tryz.sizeLB) ⟨hPWu0,hPPu0,hPMu0⟩ ?_
  refine hTk (i:=2) (d:=some 34) (v:=.agg #[.slice pa pn pc]) (l':=(bt 9 5)) rfl (fun _ hc=>run_ldT 32 _ [.slice pa pn pc] (.tmp 4) (by kernel_rfl) (by kernel_rfl) hc.2.1 Tryz.underlying32 rfl Tryz.sizeLP) ⟨hPWu0,hPPu0,hPMu0⟩ ?_
  refine hTk (i:=4) (d:=some 36) (v:=.agg #[.int .i64 kd,.int .i64 fm,.int .i64 tw,.int .i64 em,.int .i64 le,.int .i64 ta,.string xm,.slice ma mn mc]) (l':=(bt 9 21)) rfl (fun _ hc=>run_ldT 34 _ [.int .i64 kd,.int .i64 fm,.int .i64 tw,.int .i64 em,.int .i64 le,.int .i64 ta,.string xm,.slice ma mn mc] (.tmp 5) (by kernel_rfl) (by kernel_rfl) hc.2.2 Tryz.underlying34 rfl Tryz.sizeLM) ⟨hPWu0,hPPu0,hPMu0⟩ ?_
  refine hTwo (i:=1) (j:=7) (by kernel_rfl) (hCall (i:=1) (d:=some 33) (f:=8) (args:=#[.agg (bvs d h).toArray]) (l':=(bt 9 23)) (R:=fun v w'=>∃ h2 g2,v = .agg (bvs d h2).toArray ∧ BossO w' u0.heap.size d h2 ∧ h2.a2 = some ⟨g2,0,none⟩ ∧ d.L2.length ≤ h2.c2 ∧ Below u0.heap.size u0 w') rfl (by kernel_rfl) (by kernel_rfl) (by kernel_rfl) (run_cl1 _ _ rfl (by kernel_rfl) rfl enter_toB) ((toBossO_any d h _ (hM.below' hBu0) hs).mono fun _ _ ⟨⟨h2,g2,he,ho,ha,hc⟩,hb⟩=>⟨_,he,h2,g2,rfl,ho,ha,hc,hb⟩) ?_) (hVal (i:=7) (d:=some 8) (v:=.pointer (some ⟨u0.heap.size,0,none⟩)) (w':=u0.alloc (.cells #[.int .i64 0,.bool false,.int .i64 0,.int .i64 0,.int .i64 0,.int .i64 0,.slice none 0 0,.slice none 0 0,.slice none 0 0,.slice none 0 0,.slice none 0 0,.slice none 0 0,.slice none 0 0] 46)) (l':=(bt 9 149)) rfl (by kernel_rfl) (by kernel_rfl) (by kernel_rfl) (run_alB (by kernel_rfl)) ⟨hPWu0.block (Below.heap_alloc u0 _ (w.heap.size) (by omega)),hPPu0.block (Below.heap_alloc u0 _ (w.heap.size + 1) (by omega)),hPMu0.block (Below.heap_alloc u0 _ (w.heap.size + 2) (by omega))⟩ ?_)
  ·rintro _ u1 ⟨h2,g2,rfl,ho2,ha2,hc2,hbu1⟩
   have hPWu1:=hPWu0.block (hbu1.block (w.heap.size) (by omega))
   have hPPu1:=hPPu0.block (hbu1.block (w.heap.size + 1) (by omega))
   have hPMu1:=hPMu0.block (hbu1.block (w.heap.size + 2) (by omega))
   have hBu1:=hBu0.trans (hbu1.mono hBu0.size)
   have hzu1 : w3.heap.size ≤ u1.heap.size:=Nat.le_trans hzu0 hbu1.size
   have hlu1 : w.heap.size + 2 < u1.heap.size:=Nat.lt_of_lt_of_le hlu0 hbu1.size
   have hDu1:=hDu0.trans (hbu1.mono hzu0)
   have h2mu1:=ho2.m hfit
   have HA2:=hid ha2
   clear ho2 ha2
   refine ⟨⟨hPWu1,hPPu1,hPMu1⟩,?_⟩
   refine hTwo (i:=3) (j:=7) (by kernel_rfl) (hCall (i:=3) (d:=some 35) (f:=9) (args:=#[.agg #[.slice pa pn pc]]) (l':=(bt 9 31)) (R:=fun v w'=>∃ g,v = .agg #[.slice (some ⟨g,0,none⟩) pn pn] ∧ TasksAt w' (some ⟨g,0,none⟩) g 0 pn ts ∧ Below u1.heap.size u1 w') rfl (by kernel_rfl) (by kernel_rfl) (by kernel_rfl) (run_cl1 _ _ rfl (by kernel_rfl) rfl enter_toP) ((toPlan_any pa pb po pn pc ts _ (hp.below' hBu1) hpn).mono fun _ _ ⟨g,xs,he,_,_,ht,hb⟩=>⟨_,he,g,rfl,ht,hb⟩) ?_) (hVal (i:=7) (d:=some 8) (v:=.pointer (some ⟨u1.heap.size,0,none⟩)) (w':=u1.alloc (.cells #[.int .i64 0,.bool false,.int .i64 0,.int .i64 0,.int .i64 0,.int .i64 0,.slice none 0 0,.slice none 0 0,.slice none 0 0,.slice none 0 0,.slice none 0 0,.slice none 0 0,.slice none 0 0] 46)) (l':=(bt 9 151)) rfl (by kernel_rfl) (by kernel_rfl) (by kernel_rfl) (run_alB (by kernel_rfl)) ⟨hPWu1.block (Below.heap_alloc u1 _ (w.heap.size) (by omega)),hPPu1.block (Below.heap_alloc u1 _ (w.heap.size + 1) (by omega)),hPMu1.block (Below.heap_alloc u1 _ (w.heap.size + 2) (by omega))⟩ ?_)
   ·rintro _ u2 ⟨g3,rfl,ht3,hbu2⟩
    have hPWu2:=hPWu1.block (hbu2.block (w.heap.size) (by omega))
    have hPPu2:=hPPu1.block (hbu2.block (w.heap.size + 1) (by omega))
    have hPMu2:=hPMu1.block (hbu2.block (w.heap.size + 2) (by omega))
    have hBu2:=hBu1.trans (hbu2.mono hBu1.size)
    have hzu2 : w3.heap.size ≤ u2.heap.size:=Nat.le_trans hzu1 hbu2.size
    have hlu2 : w.heap.size + 2 < u2.heap.size:=Nat.lt_of_lt_of_le hlu1 hbu2.size
    have hDu2:=hDu1.trans (hbu2.mono hzu1)
    have h2mu2:=h2mu1.below' hbu2
    have ht3u2:=ht3
    refine ⟨⟨hPWu2,hPPu2,hPMu2⟩,?_⟩
    refine hTwo (i:=5) (j:=7) (by kernel_rfl) (hCall (i:=5) (d:=some 37) (f:=10) (args:=#[.agg #[.int .i64 kd,.int .i64 fm,.int .i64 tw,.int .i64 em,.int .i64 le,.int .i64 ta,.string xm,.slice ma mn mc]]) (l':=(bt 9 63)) (R:=fun v w'=>∃ g,v = .agg #[.int .i64 kd,.int .i64 fm,.int .i64 tw,.int .i64 em,.int .i64 le,.int .i64 ta,.string xm,.slice (some ⟨g,0,none⟩) mn mn] ∧ OwnC u2.heap.size w' 1 g 0 mn mn (ms.map Value.string) ∧ Below u2.heap.size u2 w') rfl (by kernel_rfl) (by kernel_rfl) (by kernel_rfl) (run_cl1 _ _ rfl (by kernel_rfl) rfl enter_toM) ((toMessage_any kd fm tw em le ta xm ma mb mo mn mc ms _ (hm.below' hBu2) hmn).mono fun _ _ ⟨⟨g,he,ho⟩,hb⟩=>⟨_,he,g,rfl,ho,hb⟩) ?_) (hVal (i:=7) (d:=some 8) (v:=.pointer (some ⟨u2.heap.size,0,none⟩)) (w':=u2.alloc (.cells #[.int .i64 0,.bool false,.int .i64 0,.int .i64 0,.int .i64 0,.int .i64 0,.slice none 0 0,.slice none 0 0,.slice none 0 0,.slice none 0 0,.slice none 0 0,.slice none 0 0,.slice none 0 0] 46)) (l':=(bt 9 159)) rfl (by kernel_rfl) (by kernel_rfl) (by kernel_rfl) (run_alB (by kernel_rfl)) ⟨hPWu2.block (Below.heap_alloc u2 _ (w.heap.size) (by omega)),hPPu2.block (Below.heap_alloc u2 _ (w.heap.size + 1) (by omega)),hPMu2.block (Below.heap_alloc u2 _ (w.heap.size + 2) (by omega))⟩ ?_)
    ·rintro _ u3 ⟨g7,rfl,ho7,hbu3⟩
     have hPWu3:=hPWu2.block (hbu3.block (w.heap.size) (by omega))
     have hPPu3:=hPPu2.block (hbu3.block (w.heap.size + 1) (by omega))
     have hPMu3:=hPMu2.block (hbu3.block (w.heap.size + 2) (by omega))
     have hBu3:=hBu2.trans (hbu3.mono hBu2.size)
     have hzu3 : w3.heap.size ≤ u3.heap.size:=Nat.le_trans hzu2 hbu3.size
     have hlu3 : w.heap.size + 2 < u3.heap.size:=Nat.lt_of_lt_of_le hlu2 hbu3.size
     have hDu3:=hDu2.trans (hbu3.mono hzu2)
     have h2mu3:=h2mu2.below' hbu3
     have ht3u3:=ht3u2.below' hbu3
     have h7su3:=StrsAt.ofOwn ho7 hm.sz
     clear ho7
     refine ⟨⟨hPWu3,hPPu3,hPMu3⟩,?_⟩
     refine hTwo (i:=6) (j:=7) (by kernel_rfl) (hCall (i:=6) (d:=some 38) (f:=7) (args:=#[.agg (bvs d h2).toArray,.agg #[.slice (some ⟨g3,0,none⟩) pn pn],.agg #[.int .i64 kd,.int .i64 fm,.int .i64 tw,.int .i64 em,.int .i64 le,.int .i64 ta,.string xm,.slice (some ⟨g7,0,none⟩) mn mn]]) (l':=(bt 9 127)) (R:=fun v w'=>∃ d1 h1 M1 x1 y1 q1,v = .agg (lvs d1 h1 M1 x1 y1).toArray ∧ LedO w' u3.heap.size d1 h1 (.slice x1 M1.length y1) M1 q1 ∧ takeBR d ts (⟨kd,fm,tw,em,le,ta,xm,ms⟩ : MgD) (d1,M1) ∧ Below u3.heap.size u3 w') rfl (by kernel_rfl) (by kernel_rfl) (by kernel_rfl) (run_cl3 _ _ _ _ rfl (by kernel_rfl) (by kernel_rfl) (by kernel_rfl) rfl enter_sTake) ((sTakeL_any d h2 _ g3 0 pn pn ts kd fm tw em le ta xm ms _ g7 0 mn mn _ h2mu3 ht3u3 hs h7su3).mono fun e _ ⟨⟨d1,h1,M1,x1,y1,q1,he,ho,hf⟩,hb⟩=>⟨_,he,d1,h1,M1,x1,y1,q1,rfl,ho,hf,hb⟩) ?_) (hVal (i:=7) (d:=some 8) (v:=.pointer (some ⟨u3.heap.size,0,none⟩)) (w':=u3.alloc (.cells #[.int .i64 0,.bool false,.int .i64 0,.int .i64 0,.int .i64 0,.int .i64 0,.slice none 0 0,.slice none 0 0,.slice none 0 0,.slice none 0 0,.slice none 0 0,.slice none 0 0,.slice none 0 0] 46)) (l':=(bt 9 191)) rfl (by kernel_rfl) (by kernel_rfl) (by kernel_rfl) (run_alB (by kernel_rfl)) ⟨hPWu3.block (Below.heap_alloc u3 _ (w.heap.size) (by omega)),hPPu3.block (Below.heap_alloc u3 _ (w.heap.size + 1) (by omega)),hPMu3.block (Below.heap_alloc u3 _ (w.heap.size + 2) (by omega))⟩ ?_)
     ·rintro _ u4 ⟨d1,h1,M1,x1,y1,q1,rfl,hO1,hF,hbu4⟩
      have hPWu4:=hPWu3.block (hbu4.block (w.heap.size) (by omega))
      have hPPu4:=hPPu3.block (hbu4.block (w.heap.size + 1) (by omega))
      have hPMu4:=hPMu3.block (hbu4.block (w.heap.size + 2) (by omega))
      have hBu4:=hBu3.trans (hbu4.mono hBu3.size)
      have hzu4 : w3.heap.size ≤ u4.heap.size:=Nat.le_trans hzu3 hbu4.size
      have hlu4 : w.heap.size + 2 < u4.heap.size:=Nat.lt_of_lt_of_le hlu3 hbu4.size
      have hDu4:=hDu3.trans (hbu4.mono hzu3)
      have h2mu4:=h2mu3.below' hbu4
      have ht3u4:=ht3u3.below' hbu4
      have h7su4:=h7su3.below' hbu4
      have hlo1:=hO1.lo
      have hO1:=hO1.mono hzu3
      refine ⟨⟨hPWu4,hPPu4,hPMu4⟩,?_⟩
      refine hOne (by kernel_rfl) (hVal (i:=7) (d:=some 8) (v:=.pointer (some ⟨u4.heap.size,0,none⟩)) (w':=u4.alloc (.cells #[.int .i64 0,.bool false,.int .i64 0,.int .i64 0,.int .i64 0,.int .i64 0,.slice none 0 0,.slice none 0 0,.slice none 0 0,.slice none 0 0,.slice none 0 0,.slice none 0 0,.slice none 0 0] 46)) (l':=(bt 9 255)) rfl (by kernel_rfl) (by kernel_rfl) (by kernel_rfl) (run_alB (by kernel_rfl)) ⟨hPWu4.block (Below.heap_alloc u4 _ (w.heap.size) (by omega)),hPPu4.block (Below.heap_alloc u4 _ (w.heap.size + 1) (by omega)),hPMu4.block (Below.heap_alloc u4 _ (w.heap.size + 2) (by omega))⟩ ?_)
      have hPWu5:=hPWu4.block (Below.heap_alloc u4 (.cells zL.toArray 46) (w.heap.size) (by omega))
      have hPPu5:=hPPu4.block (Below.heap_alloc u4 (.cells zL.toArray 46) (w.heap.size + 1) (by omega))
      have hPMu5:=hPMu4.block (Below.heap_alloc u4 (.cells zL.toArray 46) (w.heap.size + 2) (by omega))
      have hBu5:=hBu4.alloc hBu4.size (.cells zL.toArray 46)
      have hDu5:=hDu4.alloc hDu4.size (.cells zL.toArray 46)
      have hbbu5 : Below u4.heap.size u4 (u4.alloc (.cells zL.toArray 46)):=(Below.refl _ _).alloc (Nat.le_refl _) _
      have hAu5:=CF.made u4 zL.toArray 46
      have h2mu5:=h2mu4.below' hbbu5
      have ht3u5:=ht3u4.below' hbbu5
      have h7su5:=h7su4.below' hbbu5
      have hO1:=hO1.below hbbu5
      have hszu5 : (u4.alloc (.cells zL.toArray 46)).heap.size = u4.heap.size + 1:=by simp
      obtain ⟨pA,hpA⟩ : ∃ pA,pA = u4.heap.size:=⟨_,rfl⟩
      rw [← hpA] at hAu5 hszu5
      rw [← hpA]
      obtain ⟨u5,hu5⟩ : ∃ V,V = u4.alloc (.cells zL.toArray 46):=⟨_,rfl⟩
      rw [← hu5] at hPWu5 hPPu5 hPMu5 hBu5 hDu5 hbbu5 hAu5 hszu5 h2mu5 ht3u5 h7su5 hO1
      have eu5 : (.alloc u4 (.cells #[.int .i64 0,.bool false,.int .i64 0,.int .i64 0,.int .i64 0,.int .i64 0,.slice none 0 0,.slice none 0 0,.slice none 0 0,.slice none 0 0,.slice none 0 0,.slice none 0 0,.slice none 0 0] 46) : World) = u5:=hu5.symm
      rw [eu5]
      clear hu5 eu5
      have hzu5 : w3.heap.size ≤ u5.heap.size:=Nat.le_trans hzu4 hbbu5.size
      have hlu5 : w.heap.size + 2 < u5.heap.size:=Nat.lt_of_lt_of_le hlu4 hbbu5.size
      have hAlu5 : pA < u5.heap.size:=by omega
      have hAb : w3.heap.size ≤ pA:=by omega
      have HPA:=hid hpA
      clear hpA
      obtain ⟨uz,huz⟩ : ∃ uz,uz = u5.setCells pA 0 (lvs d1 h1 M1 x1 y1):=⟨_,rfl⟩
      have hcz : CF uz pA (lvs d1 h1 M1 x1 y1):=by rw [huz];exact hAu5.stored rfl
      have hgz : u5.grownBy uz (some pA):=by rw [huz];exact grown_setCells _ _ _ _ _ (World.grownBy.refl _ _)
      have hPWz:=hPWu5.block (hgz.block (w.heap.size) (by omega) (by simp;omega))
      have hPPz:=hPPu5.block (hgz.block (w.heap.size + 1) (by omega) (by simp;omega))
      have hPMz:=hPMu5.block (hgz.block (w.heap.size + 2) (by omega) (by simp;omega))
      have hBz:=below_grown hBu5 hgz (by omega) (fun k hk=>by simp at hk;omega)
      have hOz:=hO1.grew (Grew.of hgz) (fun r hr q hq r' hr' e=>by
       obtain rfl:=List.mem_singleton.1 hr
       injection hq with hq
       have h5:=hlo1 r' hr' q e
       have h6:=HPA.out
       omega)
      have hzz:=below_grown hDu5 hgz (by omega) (fun k hk=>by simp at hk;omega)
      refine hOne (by kernel_rfl) (hSkip (i:=8) (w':=uz) (l':=(bt 9 511)) rfl (by kernel_rfl) (by kernel_rfl) (by kernel_rfl) (by rw [huz];exact run_stT 46 zL (lvs d1 h1 M1 x1 y1) (.tmp 8) (.tmp 38) (by kernel_rfl) (by kernel_rfl) (by kernel_rfl) hAu5 rfl Tryz.sizeLd (lvs_one d1 h1 M1 x1 y1)) ⟨hPWz,hPPz,hPMz⟩ ?_)
      refine wpAnyH_done (by kernel_rfl) ?_ _
      have HR:=hid (show ∃ (p : Nat) (d1 : BD) (h1 : BH) (M1 : List MgD) (x1 : Option Addr) (y1 : Nat) (q1 : List Value),(.pointer (some ⟨pA,0,none⟩) : Value) = .pointer (some ⟨p,0,none⟩) ∧ CF uz p (lvs d1 h1 M1 x1 y1) ∧ takeBR d ts (⟨kd,fm,tw,em,le,ta,xm,ms⟩ : MgD) (d1,M1) ∧ LedO uz w3.heap.size d1 h1 (.slice x1 M1.length y1) M1 q1 ∧ w3.heap.size ≤ p ∧ CF uz (w.heap.size) [.int .i64 d.wk,.bool d.up,.int .i64 d.now,.int .i64 d.sn,.int .i64 d.ep,.int .i64 d.gv,.slice h.a1 d.L1.length h.c1,.slice h.a2 d.L2.length h.c2,.slice h.ar d.R.length h.cr,.slice h.aj d.J.length h.cj,.slice h.az d.S.length h.cs,.slice h.ao d.O.length h.co] ∧ CF uz (w.heap.size + 1) [.slice pa pn pc] ∧ CF uz (w.heap.size + 2) [.int .i64 kd,.int .i64 fm,.int .i64 tw,.int .i64 em,.int .i64 le,.int .i64 ta,.string xm,.slice ma mn mc] ∧ Below w.heap.size w uz ∧ Below w3.heap.size w3 uz from ⟨pA,d1,h1,M1,x1,y1,q1,rfl,hcz,hF,hOz,hAb,hPWz,hPPz,hPMz,hBz,hzz⟩)
      clear hcz hF hOz hPWz hPPz hPMz hBz hzz huz hgz hO1 hlo1
      go_wp2_with fail
      go_meet
      case rel=>exact HR.out
     ·have hPWu6:=hPWu3.block (Below.heap_alloc u3 (.cells zL.toArray 46) (w.heap.size) (by omega))
      have hPPu6:=hPPu3.block (Below.heap_alloc u3 (.cells zL.toArray 46) (w.heap.size + 1) (by omega))
      have hPMu6:=hPMu3.block (Below.heap_alloc u3 (.cells zL.toArray 46) (w.heap.size + 2) (by omega))
      have hBu6:=hBu3.alloc hBu3.size (.cells zL.toArray 46)
      have hDu6:=hDu3.alloc hDu3.size (.cells zL.toArray 46)
      have hbbu6 : Below u3.heap.size u3 (u3.alloc (.cells zL.toArray 46)):=(Below.refl _ _).alloc (Nat.le_refl _) _
      have hAu6:=CF.made u3 zL.toArray 46
      have h2mu6:=h2mu3.below' hbbu6
      have ht3u6:=ht3u3.below' hbbu6
      have h7su6:=h7su3.below' hbbu6
      have hszu6 : (u3.alloc (.cells zL.toArray 46)).heap.size = u3.heap.size + 1:=by simp
      obtain ⟨pA,hpA⟩ : ∃ pA,pA = u3.heap.size:=⟨_,rfl⟩
      rw [← hpA] at hAu6 hszu6
      rw [← hpA]
      obtain ⟨u6,hu6⟩ : ∃ V,V = u3.alloc (.cells zL.toArray 46):=⟨_,rfl⟩
      rw [← hu6] at hPWu6 hPPu6 hPMu6 hBu6 hDu6 hbbu6 hAu6 hszu6 h2mu6 ht3u6 h7su6
      have eu6 : (.alloc u3 (.cells #[.int .i64 0,.bool false,.int .i64 0,.int .i64 0,.int .i64 0,.int .i64 0,.slice none 0 0,.slice none 0 0,.slice none 0 0,.slice none 0 0,.slice none 0 0,.slice none 0 0,.slice none 0 0] 46) : World) = u6:=hu6.symm
      rw [eu6]
      clear hu6 eu6
      have hzu6 : w3.heap.size ≤ u6.heap.size:=Nat.le_trans hzu3 hbbu6.size
      have hlu6 : w.heap.size + 2 < u6.heap.size:=Nat.lt_of_lt_of_le hlu3 hbbu6.size
      have hAlu6 : pA < u6.heap.size:=by omega
      have hAb : w3.heap.size ≤ pA:=by omega
      have HPA:=hid hpA
      clear hpA
      refine hOne (by kernel_rfl) (hCall (i:=6) (d:=some 38) (f:=7) (args:=#[.agg (bvs d h2).toArray,.agg #[.slice (some ⟨g3,0,none⟩) pn pn],.agg #[.int .i64 kd,.int .i64 fm,.int .i64 tw,.int .i64 em,.int .i64 le,.int .i64 ta,.string xm,.slice (some ⟨g7,0,none⟩) mn mn]]) (l':=(bt 9 255)) (R:=fun v w'=>∃ d1 h1 M1 x1 y1 q1,v = .agg (lvs d1 h1 M1 x1 y1).toArray ∧ LedO w' u6.heap.size d1 h1 (.slice x1 M1.length y1) M1 q1 ∧ takeBR d ts (⟨kd,fm,tw,em,le,ta,xm,ms⟩ : MgD) (d1,M1) ∧ Below u6.heap.size u6 w') rfl (by kernel_rfl) (by kernel_rfl) (by kernel_rfl) (run_cl3 _ _ _ _ rfl (by kernel_rfl) (by kernel_rfl) (by kernel_rfl) rfl enter_sTake) ((sTakeL_any d h2 _ g3 0 pn pn ts kd fm tw em le ta xm ms _ g7 0 mn mn _ h2mu6 ht3u6 hs h7su6).mono fun e _ ⟨⟨d1,h1,M1,x1,y1,q1,he,ho,hf⟩,hb⟩=>⟨_,he,d1,h1,M1,x1,y1,q1,rfl,ho,hf,hb⟩) ?_)
      rintro _ u7 ⟨d1,h1,M1,x1,y1,q1,rfl,hO1,hF,hbu7⟩
      have hPWu7:=hPWu6.block (hbu7.block (w.heap.size) (by omega))
      have hPPu7:=hPPu6.block (hbu7.block (w.heap.size + 1) (by omega))
      have hPMu7:=hPMu6.block (hbu7.block (w.heap.size + 2) (by omega))
      have hBu7:=hBu6.trans (hbu7.mono hBu6.size)
      have hzu7 : w3.heap.size ≤ u7.heap.size:=Nat.le_trans hzu6 hbu7.size
      have hlu7 : w.heap.size + 2 < u7.heap.size:=Nat.lt_of_lt_of_le hlu6 hbu7.size
      have hDu7:=hDu6.trans (hbu7.mono hzu6)
      have h2mu7:=h2mu6.below' hbu7
      have ht3u7:=ht3u6.below' hbu7
      have h7su7:=h7su6.below' hbu7
      have hlo1:=hO1.lo
      have hO1:=hO1.mono hzu6
      have hAu7:=hAu6.block (hbu7.block pA (by omega))
      have hAlu7 : pA < u7.heap.size:=Nat.lt_of_lt_of_le hAlu6 hbu7.size
      refine ⟨⟨hPWu7,hPPu7,hPMu7⟩,?_⟩
      obtain ⟨uz,huz⟩ : ∃ uz,uz = u7.setCells pA 0 (lvs d1 h1 M1 x1 y1):=⟨_,rfl⟩
      have hcz : CF uz pA (lvs d1 h1 M1 x1 y1):=by rw [huz];exact hAu7.stored rfl
      have hgz : u7.grownBy uz (some pA):=by rw [huz];exact grown_setCells _ _ _ _ _ (World.grownBy.refl _ _)
      have hPWz:=hPWu7.block (hgz.block (w.heap.size) (by omega) (by simp;omega))
      have hPPz:=hPPu7.block (hgz.block (w.heap.size + 1) (by omega) (by simp;omega))
      have hPMz:=hPMu7.block (hgz.block (w.heap.size + 2) (by omega) (by simp;omega))
      have hBz:=below_grown hBu7 hgz (by omega) (fun k hk=>by simp at hk;omega)
      have hOz:=hO1.grew (Grew.of hgz) (fun r hr q hq r' hr' e=>by
       obtain rfl:=List.mem_singleton.1 hr
       injection hq with hq
       have h5:=hlo1 r' hr' q e
       have h6:=HPA.out
       omega)
      have hzz:=below_grown hDu7 hgz (by omega) (fun k hk=>by simp at hk;omega)
      refine hOne (by kernel_rfl) (hSkip (i:=8) (w':=uz) (l':=(bt 9 511)) rfl (by kernel_rfl) (by kernel_rfl) (by kernel_rfl) (by rw [huz];exact run_stT 46 zL (lvs d1 h1 M1 x1 y1) (.tmp 8) (.tmp 38) (by kernel_rfl) (by kernel_rfl) (by kernel_rfl) hAu7 rfl Tryz.sizeLd (lvs_one d1 h1 M1 x1 y1)) ⟨hPWz,hPPz,hPMz⟩ ?_)
      refine wpAnyH_done (by kernel_rfl) ?_ _
      have HR:=hid (show ∃ (p : Nat) (d1 : BD) (h1 : BH) (M1 : List MgD) (x1 : Option Addr) (y1 : Nat) (q1 : List Value),(.pointer (some ⟨pA,0,none⟩) : Value) = .pointer (some ⟨p,0,none⟩) ∧ CF uz p (lvs d1 h1 M1 x1 y1) ∧ takeBR d ts (⟨kd,fm,tw,em,le,ta,xm,ms⟩ : MgD) (d1,M1) ∧ LedO uz w3.heap.size d1 h1 (.slice x1 M1.length y1) M1 q1 ∧ w3.heap.size ≤ p ∧ CF uz (w.heap.size) [.int .i64 d.wk,.bool d.up,.int .i64 d.now,.int .i64 d.sn,.int .i64 d.ep,.int .i64 d.gv,.slice h.a1 d.L1.length h.c1,.slice h.a2 d.L2.length h.c2,.slice h.ar d.R.length h.cr,.slice h.aj d.J.length h.cj,.slice h.az d.S.length h.cs,.slice h.ao d.O.length h.co] ∧ CF uz (w.heap.size + 1) [.slice pa pn pc] ∧ CF uz (w.heap.size + 2) [.int .i64 kd,.int .i64 fm,.int .i64 tw,.int .i64 em,.int .i64 le,.int .i64 ta,.string xm,.slice ma mn mc] ∧ Below w.heap.size w uz ∧ Below w3.heap.size w3 uz from ⟨pA,d1,h1,M1,x1,y1,q1,rfl,hcz,hF,hOz,hAb,hPWz,hPPz,hPMz,hBz,hzz⟩)
      clear hcz hF hOz hPWz hPPz hPMz hBz hzz huz hgz hO1 hlo1
      go_wp2_with fail
      go_meet
      case rel=>exact HR.out
    ·have hPWu8:=hPWu2.block (Below.heap_alloc u2 (.cells zL.toArray 46) (w.heap.size) (by omega))
     have hPPu8:=hPPu2.block (Below.heap_alloc u2 (.cells zL.toArray 46) (w.heap.size + 1) (by omega))
     have hPMu8:=hPMu2.block (Below.heap_alloc u2 (.cells zL.toArray 46) (w.heap.size + 2) (by omega))
     have hBu8:=hBu2.alloc hBu2.size (.cells zL.toArray 46)
     have hDu8:=hDu2.alloc hDu2.size (.cells zL.toArray 46)
     have hbbu8 : Below u2.heap.size u2 (u2.alloc (.cells zL.toArray 46)):=(Below.refl _ _).alloc (Nat.le_refl _) _
     have hAu8:=CF.made u2 zL.toArray 46
     have h2mu8:=h2mu2.below' hbbu8
     have ht3u8:=ht3u2.below' hbbu8
     have hszu8 : (u2.alloc (.cells zL.toArray 46)).heap.size = u2.heap.size + 1:=by simp
     obtain ⟨pA,hpA⟩ : ∃ pA,pA = u2.heap.size:=⟨_,rfl⟩
     rw [← hpA] at hAu8 hszu8
     rw [← hpA]
     obtain ⟨u8,hu8⟩ : ∃ V,V = u2.alloc (.cells zL.toArray 46):=⟨_,rfl⟩
     rw [← hu8] at hPWu8 hPPu8 hPMu8 hBu8 hDu8 hbbu8 hAu8 hszu8 h2mu8 ht3u8
     have eu8 : (.alloc u2 (.cells #[.int .i64 0,.bool false,.int .i64 0,.int .i64 0,.int .i64 0,.int .i64 0,.slice none 0 0,.slice none 0 0,.slice none 0 0,.slice none 0 0,.slice none 0 0,.slice none 0 0,.slice none 0 0] 46) : World) = u8:=hu8.symm
     rw [eu8]
     clear hu8 eu8
     have hzu8 : w3.heap.size ≤ u8.heap.size:=Nat.le_trans hzu2 hbbu8.size
     have hlu8 : w.heap.size + 2 < u8.heap.size:=Nat.lt_of_lt_of_le hlu2 hbbu8.size
     have hAlu8 : pA < u8.heap.size:=by omega
     have hAb : w3.heap.size ≤ pA:=by omega
     have HPA:=hid hpA
     clear hpA
     refine hOne (by kernel_rfl) (hCall (i:=5) (d:=some 37) (f:=10) (args:=#[.agg #[.int .i64 kd,.int .i64 fm,.int .i64 tw,.int .i64 em,.int .i64 le,.int .i64 ta,.string xm,.slice ma mn mc]]) (l':=(bt 9 191)) (R:=fun v w'=>∃ g,v = .agg #[.int .i64 kd,.int .i64 fm,.int .i64 tw,.int .i64 em,.int .i64 le,.int .i64 ta,.string xm,.slice (some ⟨g,0,none⟩) mn mn] ∧ OwnC u8.heap.size w' 1 g 0 mn mn (ms.map Value.string) ∧ Below u8.heap.size u8 w') rfl (by kernel_rfl) (by kernel_rfl) (by kernel_rfl) (run_cl1 _ _ rfl (by kernel_rfl) rfl enter_toM) ((toMessage_any kd fm tw em le ta xm ma mb mo mn mc ms _ (hm.below' hBu8) hmn).mono fun _ _ ⟨⟨g,he,ho⟩,hb⟩=>⟨_,he,g,rfl,ho,hb⟩) ?_)
     rintro _ u9 ⟨g7,rfl,ho7,hbu9⟩
     have hPWu9:=hPWu8.block (hbu9.block (w.heap.size) (by omega))
     have hPPu9:=hPPu8.block (hbu9.block (w.heap.size + 1) (by omega))
     have hPMu9:=hPMu8.block (hbu9.block (w.heap.size + 2) (by omega))
     have hBu9:=hBu8.trans (hbu9.mono hBu8.size)
     have hzu9 : w3.heap.size ≤ u9.heap.size:=Nat.le_trans hzu8 hbu9.size
     have hlu9 : w.heap.size + 2 < u9.heap.size:=Nat.lt_of_lt_of_le hlu8 hbu9.size
     have hDu9:=hDu8.trans (hbu9.mono hzu8)
     have h2mu9:=h2mu8.below' hbu9
     have ht3u9:=ht3u8.below' hbu9
     have h7su9:=StrsAt.ofOwn ho7 hm.sz
     clear ho7
     have hAu9:=hAu8.block (hbu9.block pA (by omega))
     have hAlu9 : pA < u9.heap.size:=Nat.lt_of_lt_of_le hAlu8 hbu9.size
     refine ⟨⟨hPWu9,hPPu9,hPMu9⟩,?_⟩
     refine hOne (by kernel_rfl) (hCall (i:=6) (d:=some 38) (f:=7) (args:=#[.agg (bvs d h2).toArray,.agg #[.slice (some ⟨g3,0,none⟩) pn pn],.agg #[.int .i64 kd,.int .i64 fm,.int .i64 tw,.int .i64 em,.int .i64 le,.int .i64 ta,.string xm,.slice (some ⟨g7,0,none⟩) mn mn]]) (l':=(bt 9 255)) (R:=fun v w'=>∃ d1 h1 M1 x1 y1 q1,v = .agg (lvs d1 h1 M1 x1 y1).toArray ∧ LedO w' u9.heap.size d1 h1 (.slice x1 M1.length y1) M1 q1 ∧ takeBR d ts (⟨kd,fm,tw,em,le,ta,xm,ms⟩ : MgD) (d1,M1) ∧ Below u9.heap.size u9 w') rfl (by kernel_rfl) (by kernel_rfl) (by kernel_rfl) (run_cl3 _ _ _ _ rfl (by kernel_rfl) (by kernel_rfl) (by kernel_rfl) rfl enter_sTake) ((sTakeL_any d h2 _ g3 0 pn pn ts kd fm tw em le ta xm ms _ g7 0 mn mn _ h2mu9 ht3u9 hs h7su9).mono fun e _ ⟨⟨d1,h1,M1,x1,y1,q1,he,ho,hf⟩,hb⟩=>⟨_,he,d1,h1,M1,x1,y1,q1,rfl,ho,hf,hb⟩) ?_)
     rintro _ u10 ⟨d1,h1,M1,x1,y1,q1,rfl,hO1,hF,hbu10⟩
     have hPWu10:=hPWu9.block (hbu10.block (w.heap.size) (by omega))
     have hPPu10:=hPPu9.block (hbu10.block (w.heap.size + 1) (by omega))
     have hPMu10:=hPMu9.block (hbu10.block (w.heap.size + 2) (by omega))
     have hBu10:=hBu9.trans (hbu10.mono hBu9.size)
     have hzu10 : w3.heap.size ≤ u10.heap.size:=Nat.le_trans hzu9 hbu10.size
     have hlu10 : w.heap.size + 2 < u10.heap.size:=Nat.lt_of_lt_of_le hlu9 hbu10.size
     have hDu10:=hDu9.trans (hbu10.mono hzu9)
     have h2mu10:=h2mu9.below' hbu10
     have ht3u10:=ht3u9.below' hbu10
     have h7su10:=h7su9.below' hbu10
     have hlo1:=hO1.lo
     have hO1:=hO1.mono hzu9
     have hAu10:=hAu9.block (hbu10.block pA (by omega))
     have hAlu10 : pA < u10.heap.size:=Nat.lt_of_lt_of_le hAlu9 hbu10.size
     refine ⟨⟨hPWu10,hPPu10,hPMu10⟩,?_⟩
     obtain ⟨uz,huz⟩ : ∃ uz,uz = u10.setCells pA 0 (lvs d1 h1 M1 x1 y1):=⟨_,rfl⟩
     have hcz : CF uz pA (lvs d1 h1 M1 x1 y1):=by rw [huz];exact hAu10.stored rfl
     have hgz : u10.grownBy uz (some pA):=by rw [huz];exact grown_setCells _ _ _ _ _ (World.grownBy.refl _ _)
     have hPWz:=hPWu10.block (hgz.block (w.heap.size) (by omega) (by simp;omega))
     have hPPz:=hPPu10.block (hgz.block (w.heap.size + 1) (by omega) (by simp;omega))
     have hPMz:=hPMu10.block (hgz.block (w.heap.size + 2) (by omega) (by simp;omega))
     have hBz:=below_grown hBu10 hgz (by omega) (fun k hk=>by simp at hk;omega)
     have hOz:=hO1.grew (Grew.of hgz) (fun r hr q hq r' hr' e=>by
      obtain rfl:=List.mem_singleton.1 hr
      injection hq with hq
      have h5:=hlo1 r' hr' q e
      have h6:=HPA.out
      omega)
     have hzz:=below_grown hDu10 hgz (by omega) (fun k hk=>by simp at hk;omega)
     refine hOne (by kernel_rfl) (hSkip (i:=8) (w':=uz) (l':=(bt 9 511)) rfl (by kernel_rfl) (by kernel_rfl) (by kernel_rfl) (by rw [huz];exact run_stT 46 zL (lvs d1 h1 M1 x1 y1) (.tmp 8) (.tmp 38) (by kernel_rfl) (by kernel_rfl) (by kernel_rfl) hAu10 rfl Tryz.sizeLd (lvs_one d1 h1 M1 x1 y1)) ⟨hPWz,hPPz,hPMz⟩ ?_)
     refine wpAnyH_done (by kernel_rfl) ?_ _
     have HR:=hid (show ∃ (p : Nat) (d1 : BD) (h1 : BH) (M1 : List MgD) (x1 : Option Addr) (y1 : Nat) (q1 : List Value),(.pointer (some ⟨pA,0,none⟩) : Value) = .pointer (some ⟨p,0,none⟩) ∧ CF uz p (lvs d1 h1 M1 x1 y1) ∧ takeBR d ts (⟨kd,fm,tw,em,le,ta,xm,ms⟩ : MgD) (d1,M1) ∧ LedO uz w3.heap.size d1 h1 (.slice x1 M1.length y1) M1 q1 ∧ w3.heap.size ≤ p ∧ CF uz (w.heap.size) [.int .i64 d.wk,.bool d.up,.int .i64 d.now,.int .i64 d.sn,.int .i64 d.ep,.int .i64 d.gv,.slice h.a1 d.L1.length h.c1,.slice h.a2 d.L2.length h.c2,.slice h.ar d.R.length h.cr,.slice h.aj d.J.length h.cj,.slice h.az d.S.length h.cs,.slice h.ao d.O.length h.co] ∧ CF uz (w.heap.size + 1) [.slice pa pn pc] ∧ CF uz (w.heap.size + 2) [.int .i64 kd,.int .i64 fm,.int .i64 tw,.int .i64 em,.int .i64 le,.int .i64 ta,.string xm,.slice ma mn mc] ∧ Below w.heap.size w uz ∧ Below w3.heap.size w3 uz from ⟨pA,d1,h1,M1,x1,y1,q1,rfl,hcz,hF,hOz,hAb,hPWz,hPPz,hPMz,hBz,hzz⟩)
     clear hcz hF hOz hPWz hPPz hPMz hBz hzz huz hgz hO1 hlo1
     go_wp2_with fail
     go_meet
     case rel=>exact HR.out
   ·have hPWu11:=hPWu1.block (Below.heap_alloc u1 (.cells zL.toArray 46) (w.heap.size) (by omega))
    have hPPu11:=hPPu1.block (Below.heap_alloc u1 (.cells zL.toArray 46) (w.heap.size + 1) (by omega))
    have hPMu11:=hPMu1.block (Below.heap_alloc u1 (.cells zL.toArray 46) (w.heap.size + 2) (by omega))
    have hBu11:=hBu1.alloc hBu1.size (.cells zL.toArray 46)
    have hDu11:=hDu1.alloc hDu1.size (.cells zL.toArray 46)
    have hbbu11 : Below u1.heap.size u1 (u1.alloc (.cells zL.toArray 46)):=(Below.refl _ _).alloc (Nat.le_refl _) _
    have hAu11:=CF.made u1 zL.toArray 46
    have h2mu11:=h2mu1.below' hbbu11
    have hszu11 : (u1.alloc (.cells zL.toArray 46)).heap.size = u1.heap.size + 1:=by simp
    obtain ⟨pA,hpA⟩ : ∃ pA,pA = u1.heap.size:=⟨_,rfl⟩
    rw [← hpA] at hAu11 hszu11
    rw [← hpA]
    obtain ⟨u11,hu11⟩ : ∃ V,V = u1.alloc (.cells zL.toArray 46):=⟨_,rfl⟩
    rw [← hu11] at hPWu11 hPPu11 hPMu11 hBu11 hDu11 hbbu11 hAu11 hszu11 h2mu11
    have eu11 : (.alloc u1 (.cells #[.int .i64 0,.bool false,.int .i64 0,.int .i64 0,.int .i64 0,.int .i64 0,.slice none 0 0,.slice none 0 0,.slice none 0 0,.slice none 0 0,.slice none 0 0,.slice none 0 0,.slice none 0 0] 46) : World) = u11:=hu11.symm
    rw [eu11]
    clear hu11 eu11
    have hzu11 : w3.heap.size ≤ u11.heap.size:=Nat.le_trans hzu1 hbbu11.size
    have hlu11 : w.heap.size + 2 < u11.heap.size:=Nat.lt_of_lt_of_le hlu1 hbbu11.size
    have hAlu11 : pA < u11.heap.size:=by omega
    have hAb : w3.heap.size ≤ pA:=by omega
    have HPA:=hid hpA
    clear hpA
    refine hOne (by kernel_rfl) (hCall (i:=3) (d:=some 35) (f:=9) (args:=#[.agg #[.slice pa pn pc]]) (l':=(bt 9 159)) (R:=fun v w'=>∃ g,v = .agg #[.slice (some ⟨g,0,none⟩) pn pn] ∧ TasksAt w' (some ⟨g,0,none⟩) g 0 pn ts ∧ Below u11.heap.size u11 w') rfl (by kernel_rfl) (by kernel_rfl) (by kernel_rfl) (run_cl1 _ _ rfl (by kernel_rfl) rfl enter_toP) ((toPlan_any pa pb po pn pc ts _ (hp.below' hBu11) hpn).mono fun _ _ ⟨g,xs,he,_,_,ht,hb⟩=>⟨_,he,g,rfl,ht,hb⟩) ?_)
    rintro _ u12 ⟨g3,rfl,ht3,hbu12⟩
    have hPWu12:=hPWu11.block (hbu12.block (w.heap.size) (by omega))
    have hPPu12:=hPPu11.block (hbu12.block (w.heap.size + 1) (by omega))
    have hPMu12:=hPMu11.block (hbu12.block (w.heap.size + 2) (by omega))
    have hBu12:=hBu11.trans (hbu12.mono hBu11.size)
    have hzu12 : w3.heap.size ≤ u12.heap.size:=Nat.le_trans hzu11 hbu12.size
    have hlu12 : w.heap.size + 2 < u12.heap.size:=Nat.lt_of_lt_of_le hlu11 hbu12.size
    have hDu12:=hDu11.trans (hbu12.mono hzu11)
    have h2mu12:=h2mu11.below' hbu12
    have ht3u12:=ht3
    have hAu12:=hAu11.block (hbu12.block pA (by omega))
    have hAlu12 : pA < u12.heap.size:=Nat.lt_of_lt_of_le hAlu11 hbu12.size
    refine ⟨⟨hPWu12,hPPu12,hPMu12⟩,?_⟩
    refine hOne (by kernel_rfl) (hCall (i:=5) (d:=some 37) (f:=10) (args:=#[.agg #[.int .i64 kd,.int .i64 fm,.int .i64 tw,.int .i64 em,.int .i64 le,.int .i64 ta,.string xm,.slice ma mn mc]]) (l':=(bt 9 191)) (R:=fun v w'=>∃ g,v = .agg #[.int .i64 kd,.int .i64 fm,.int .i64 tw,.int .i64 em,.int .i64 le,.int .i64 ta,.string xm,.slice (some ⟨g,0,none⟩) mn mn] ∧ OwnC u12.heap.size w' 1 g 0 mn mn (ms.map Value.string) ∧ Below u12.heap.size u12 w') rfl (by kernel_rfl) (by kernel_rfl) (by kernel_rfl) (run_cl1 _ _ rfl (by kernel_rfl) rfl enter_toM) ((toMessage_any kd fm tw em le ta xm ma mb mo mn mc ms _ (hm.below' hBu12) hmn).mono fun _ _ ⟨⟨g,he,ho⟩,hb⟩=>⟨_,he,g,rfl,ho,hb⟩) ?_)
    rintro _ u13 ⟨g7,rfl,ho7,hbu13⟩
    have hPWu13:=hPWu12.block (hbu13.block (w.heap.size) (by omega))
    have hPPu13:=hPPu12.block (hbu13.block (w.heap.size + 1) (by omega))
    have hPMu13:=hPMu12.block (hbu13.block (w.heap.size + 2) (by omega))
    have hBu13:=hBu12.trans (hbu13.mono hBu12.size)
    have hzu13 : w3.heap.size ≤ u13.heap.size:=Nat.le_trans hzu12 hbu13.size
    have hlu13 : w.heap.size + 2 < u13.heap.size:=Nat.lt_of_lt_of_le hlu12 hbu13.size
    have hDu13:=hDu12.trans (hbu13.mono hzu12)
    have h2mu13:=h2mu12.below' hbu13
    have ht3u13:=ht3u12.below' hbu13
    have h7su13:=StrsAt.ofOwn ho7 hm.sz
    clear ho7
    have hAu13:=hAu12.block (hbu13.block pA (by omega))
    have hAlu13 : pA < u13.heap.size:=Nat.lt_of_lt_of_le hAlu12 hbu13.size
    refine ⟨⟨hPWu13,hPPu13,hPMu13⟩,?_⟩
    refine hOne (by kernel_rfl) (hCall (i:=6) (d:=some 38) (f:=7) (args:=#[.agg (bvs d h2).toArray,.agg #[.slice (some ⟨g3,0,none⟩) pn pn],.agg #[.int .i64 kd,.int .i64 fm,.int .i64 tw,.int .i64 em,.int .i64 le,.int .i64 ta,.string xm,.slice (some ⟨g7,0,none⟩) mn mn]]) (l':=(bt 9 255)) (R:=fun v w'=>∃ d1 h1 M1 x1 y1 q1,v = .agg (lvs d1 h1 M1 x1 y1).toArray ∧ LedO w' u13.heap.size d1 h1 (.slice x1 M1.length y1) M1 q1 ∧ takeBR d ts (⟨kd,fm,tw,em,le,ta,xm,ms⟩ : MgD) (d1,M1) ∧ Below u13.heap.size u13 w') rfl (by kernel_rfl) (by kernel_rfl) (by kernel_rfl) (run_cl3 _ _ _ _ rfl (by kernel_rfl) (by kernel_rfl) (by kernel_rfl) rfl enter_sTake) ((sTakeL_any d h2 _ g3 0 pn pn ts kd fm tw em le ta xm ms _ g7 0 mn mn _ h2mu13 ht3u13 hs h7su13).mono fun e _ ⟨⟨d1,h1,M1,x1,y1,q1,he,ho,hf⟩,hb⟩=>⟨_,he,d1,h1,M1,x1,y1,q1,rfl,ho,hf,hb⟩) ?_)
    rintro _ u14 ⟨d1,h1,M1,x1,y1,q1,rfl,hO1,hF,hbu14⟩
    have hPWu14:=hPWu13.block (hbu14.block (w.heap.size) (by omega))
    have hPPu14:=hPPu13.block (hbu14.block (w.heap.size + 1) (by omega))
    have hPMu14:=hPMu13.block (hbu14.block (w.heap.size + 2) (by omega))
    have hBu14:=hBu13.trans (hbu14.mono hBu13.size)
    have hzu14 : w3.heap.size ≤ u14.heap.size:=Nat.le_trans hzu13 hbu14.size
    have hlu14 : w.heap.size + 2 < u14.heap.size:=Nat.lt_of_lt_of_le hlu13 hbu14.size
    have hDu14:=hDu13.trans (hbu14.mono hzu13)
    have h2mu14:=h2mu13.below' hbu14
    have ht3u14:=ht3u13.below' hbu14
    have h7su14:=h7su13.below' hbu14
    have hlo1:=hO1.lo
    have hO1:=hO1.mono hzu13
    have hAu14:=hAu13.block (hbu14.block pA (by omega))
    have hAlu14 : pA < u14.heap.size:=Nat.lt_of_lt_of_le hAlu13 hbu14.size
    refine ⟨⟨hPWu14,hPPu14,hPMu14⟩,?_⟩
    obtain ⟨uz,huz⟩ : ∃ uz,uz = u14.setCells pA 0 (lvs d1 h1 M1 x1 y1):=⟨_,rfl⟩
    have hcz : CF uz pA (lvs d1 h1 M1 x1 y1):=by rw [huz];exact hAu14.stored rfl
    have hgz : u14.grownBy uz (some pA):=by rw [huz];exact grown_setCells _ _ _ _ _ (World.grownBy.refl _ _)
    have hPWz:=hPWu14.block (hgz.block (w.heap.size) (by omega) (by simp;omega))
    have hPPz:=hPPu14.block (hgz.block (w.heap.size + 1) (by omega) (by simp;omega))
    have hPMz:=hPMu14.block (hgz.block (w.heap.size + 2) (by omega) (by simp;omega))
    have hBz:=below_grown hBu14 hgz (by omega) (fun k hk=>by simp at hk;omega)
    have hOz:=hO1.grew (Grew.of hgz) (fun r hr q hq r' hr' e=>by
     obtain rfl:=List.mem_singleton.1 hr
     injection hq with hq
     have h5:=hlo1 r' hr' q e
     have h6:=HPA.out
     omega)
    have hzz:=below_grown hDu14 hgz (by omega) (fun k hk=>by simp at hk;omega)
    refine hOne (by kernel_rfl) (hSkip (i:=8) (w':=uz) (l':=(bt 9 511)) rfl (by kernel_rfl) (by kernel_rfl) (by kernel_rfl) (by rw [huz];exact run_stT 46 zL (lvs d1 h1 M1 x1 y1) (.tmp 8) (.tmp 38) (by kernel_rfl) (by kernel_rfl) (by kernel_rfl) hAu14 rfl Tryz.sizeLd (lvs_one d1 h1 M1 x1 y1)) ⟨hPWz,hPPz,hPMz⟩ ?_)
    refine wpAnyH_done (by kernel_rfl) ?_ _
    have HR:=hid (show ∃ (p : Nat) (d1 : BD) (h1 : BH) (M1 : List MgD) (x1 : Option Addr) (y1 : Nat) (q1 : List Value),(.pointer (some ⟨pA,0,none⟩) : Value) = .pointer (some ⟨p,0,none⟩) ∧ CF uz p (lvs d1 h1 M1 x1 y1) ∧ takeBR d ts (⟨kd,fm,tw,em,le,ta,xm,ms⟩ : MgD) (d1,M1) ∧ LedO uz w3.heap.size d1 h1 (.slice x1 M1.length y1) M1 q1 ∧ w3.heap.size ≤ p ∧ CF uz (w.heap.size) [.int .i64 d.wk,.bool d.up,.int .i64 d.now,.int .i64 d.sn,.int .i64 d.ep,.int .i64 d.gv,.slice h.a1 d.L1.length h.c1,.slice h.a2 d.L2.length h.c2,.slice h.ar d.R.length h.cr,.slice h.aj d.J.length h.cj,.slice h.az d.S.length h.cs,.slice h.ao d.O.length h.co] ∧ CF uz (w.heap.size + 1) [.slice pa pn pc] ∧ CF uz (w.heap.size + 2) [.int .i64 kd,.int .i64 fm,.int .i64 tw,.int .i64 em,.int .i64 le,.int .i64 ta,.string xm,.slice ma mn mc] ∧ Below w.heap.size w uz ∧ Below w3.heap.size w3 uz from ⟨pA,d1,h1,M1,x1,y1,q1,rfl,hcz,hF,hOz,hAb,hPWz,hPPz,hPMz,hBz,hzz⟩)
    clear hcz hF hOz hPWz hPPz hPMz hBz hzz huz hgz hO1 hlo1
    go_wp2_with fail
    go_meet
    case rel=>exact HR.out
  ·have hPWu15:=hPWu0.block (Below.heap_alloc u0 (.cells zL.toArray 46) (w.heap.size) (by omega))
   have hPPu15:=hPPu0.block (Below.heap_alloc u0 (.cells zL.toArray 46) (w.heap.size + 1) (by omega))
   have hPMu15:=hPMu0.block (Below.heap_alloc u0 (.cells zL.toArray 46) (w.heap.size + 2) (by omega))
   have hBu15:=hBu0.alloc hBu0.size (.cells zL.toArray 46)
   have hDu15:=hDu0.alloc hDu0.size (.cells zL.toArray 46)
   have hbbu15 : Below u0.heap.size u0 (u0.alloc (.cells zL.toArray 46)):=(Below.refl _ _).alloc (Nat.le_refl _) _
   have hAu15:=CF.made u0 zL.toArray 46
   have hszu15 : (u0.alloc (.cells zL.toArray 46)).heap.size = u0.heap.size + 1:=by simp
   obtain ⟨pA,hpA⟩ : ∃ pA,pA = u0.heap.size:=⟨_,rfl⟩
   rw [← hpA] at hAu15 hszu15
   rw [← hpA]
   obtain ⟨u15,hu15⟩ : ∃ V,V = u0.alloc (.cells zL.toArray 46):=⟨_,rfl⟩
   rw [← hu15] at hPWu15 hPPu15 hPMu15 hBu15 hDu15 hbbu15 hAu15 hszu15
   have eu15 : (.alloc u0 (.cells #[.int .i64 0,.bool false,.int .i64 0,.int .i64 0,.int .i64 0,.int .i64 0,.slice none 0 0,.slice none 0 0,.slice none 0 0,.slice none 0 0,.slice none 0 0,.slice none 0 0,.slice none 0 0] 46) : World) = u15:=hu15.symm
   rw [eu15]
   clear hu15 eu15
   have hzu15 : w3.heap.size ≤ u15.heap.size:=Nat.le_trans hzu0 hbbu15.size
   have hlu15 : w.heap.size + 2 < u15.heap.size:=Nat.lt_of_lt_of_le hlu0 hbbu15.size
   have hAlu15 : pA < u15.heap.size:=by omega
   have hAb : w3.heap.size ≤ pA:=by omega
   have HPA:=hid hpA
   clear hpA
   refine hOne (by kernel_rfl) (hCall (i:=1) (d:=some 33) (f:=8) (args:=#[.agg (bvs d h).toArray]) (l':=(bt 9 151)) (R:=fun v w'=>∃ h2 g2,v = .agg (bvs d h2).toArray ∧ BossO w' u15.heap.size d h2 ∧ h2.a2 = some ⟨g2,0,none⟩ ∧ d.L2.length ≤ h2.c2 ∧ Below u15.heap.size u15 w') rfl (by kernel_rfl) (by kernel_rfl) (by kernel_rfl) (run_cl1 _ _ rfl (by kernel_rfl) rfl enter_toB) ((toBossO_any d h _ (hM.below' hBu15) hs).mono fun _ _ ⟨⟨h2,g2,he,ho,ha,hc⟩,hb⟩=>⟨_,he,h2,g2,rfl,ho,ha,hc,hb⟩) ?_)
   rintro _ u16 ⟨h2,g2,rfl,ho2,ha2,hc2,hbu16⟩
   have hPWu16:=hPWu15.block (hbu16.block (w.heap.size) (by omega))
   have hPPu16:=hPPu15.block (hbu16.block (w.heap.size + 1) (by omega))
   have hPMu16:=hPMu15.block (hbu16.block (w.heap.size + 2) (by omega))
   have hBu16:=hBu15.trans (hbu16.mono hBu15.size)
   have hzu16 : w3.heap.size ≤ u16.heap.size:=Nat.le_trans hzu15 hbu16.size
   have hlu16 : w.heap.size + 2 < u16.heap.size:=Nat.lt_of_lt_of_le hlu15 hbu16.size
   have hDu16:=hDu15.trans (hbu16.mono hzu15)
   have h2mu16:=ho2.m hfit
   have HA2:=hid ha2
   clear ho2 ha2
   have hAu16:=hAu15.block (hbu16.block pA (by omega))
   have hAlu16 : pA < u16.heap.size:=Nat.lt_of_lt_of_le hAlu15 hbu16.size
   refine ⟨⟨hPWu16,hPPu16,hPMu16⟩,?_⟩
   refine hOne (by kernel_rfl) (hCall (i:=3) (d:=some 35) (f:=9) (args:=#[.agg #[.slice pa pn pc]]) (l':=(bt 9 159)) (R:=fun v w'=>∃ g,v = .agg #[.slice (some ⟨g,0,none⟩) pn pn] ∧ TasksAt w' (some ⟨g,0,none⟩) g 0 pn ts ∧ Below u16.heap.size u16 w') rfl (by kernel_rfl) (by kernel_rfl) (by kernel_rfl) (run_cl1 _ _ rfl (by kernel_rfl) rfl enter_toP) ((toPlan_any pa pb po pn pc ts _ (hp.below' hBu16) hpn).mono fun _ _ ⟨g,xs,he,_,_,ht,hb⟩=>⟨_,he,g,rfl,ht,hb⟩) ?_)
   rintro _ u17 ⟨g3,rfl,ht3,hbu17⟩
   have hPWu17:=hPWu16.block (hbu17.block (w.heap.size) (by omega))
   have hPPu17:=hPPu16.block (hbu17.block (w.heap.size + 1) (by omega))
   have hPMu17:=hPMu16.block (hbu17.block (w.heap.size + 2) (by omega))
   have hBu17:=hBu16.trans (hbu17.mono hBu16.size)
   have hzu17 : w3.heap.size ≤ u17.heap.size:=Nat.le_trans hzu16 hbu17.size
   have hlu17 : w.heap.size + 2 < u17.heap.size:=Nat.lt_of_lt_of_le hlu16 hbu17.size
   have hDu17:=hDu16.trans (hbu17.mono hzu16)
   have h2mu17:=h2mu16.below' hbu17
   have ht3u17:=ht3
   have hAu17:=hAu16.block (hbu17.block pA (by omega))
   have hAlu17 : pA < u17.heap.size:=Nat.lt_of_lt_of_le hAlu16 hbu17.size
   refine ⟨⟨hPWu17,hPPu17,hPMu17⟩,?_⟩
   refine hOne (by kernel_rfl) (hCall (i:=5) (d:=some 37) (f:=10) (args:=#[.agg #[.int .i64 kd,.int .i64 fm,.int .i64 tw,.int .i64 em,.int .i64 le,.int .i64 ta,.string xm,.slice ma mn mc]]) (l':=(bt 9 191)) (R:=fun v w'=>∃ g,v = .agg #[.int .i64 kd,.int .i64 fm,.int .i64 tw,.int .i64 em,.int .i64 le,.int .i64 ta,.string xm,.slice (some ⟨g,0,none⟩) mn mn] ∧ OwnC u17.heap.size w' 1 g 0 mn mn (ms.map Value.string) ∧ Below u17.heap.size u17 w') rfl (by kernel_rfl) (by kernel_rfl) (by kernel_rfl) (run_cl1 _ _ rfl (by kernel_rfl) rfl enter_toM) ((toMessage_any kd fm tw em le ta xm ma mb mo mn mc ms _ (hm.below' hBu17) hmn).mono fun _ _ ⟨⟨g,he,ho⟩,hb⟩=>⟨_,he,g,rfl,ho,hb⟩) ?_)
   rintro _ u18 ⟨g7,rfl,ho7,hbu18⟩
   have hPWu18:=hPWu17.block (hbu18.block (w.heap.size) (by omega))
   have hPPu18:=hPPu17.block (hbu18.block (w.heap.size + 1) (by omega))
   have hPMu18:=hPMu17.block (hbu18.block (w.heap.size + 2) (by omega))
   have hBu18:=hBu17.trans (hbu18.mono hBu17.size)
   have hzu18 : w3.heap.size ≤ u18.heap.size:=Nat.le_trans hzu17 hbu18.size
   have hlu18 : w.heap.size + 2 < u18.heap.size:=Nat.lt_of_lt_of_le hlu17 hbu18.size
   have hDu18:=hDu17.trans (hbu18.mono hzu17)
   have h2mu18:=h2mu17.below' hbu18
   have ht3u18:=ht3u17.below' hbu18
   have h7su18:=StrsAt.ofOwn ho7 hm.sz
   clear ho7
   have hAu18:=hAu17.block (hbu18.block pA (by omega))
   have hAlu18 : pA < u18.heap.size:=Nat.lt_of_lt_of_le hAlu17 hbu18.size
   refine ⟨⟨hPWu18,hPPu18,hPMu18⟩,?_⟩
   refine hOne (by kernel_rfl) (hCall (i:=6) (d:=some 38) (f:=7) (args:=#[.agg (bvs d h2).toArray,.agg #[.slice (some ⟨g3,0,none⟩) pn pn],.agg #[.int .i64 kd,.int .i64 fm,.int .i64 tw,.int .i64 em,.int .i64 le,.int .i64 ta,.string xm,.slice (some ⟨g7,0,none⟩) mn mn]]) (l':=(bt 9 255)) (R:=fun v w'=>∃ d1 h1 M1 x1 y1 q1,v = .agg (lvs d1 h1 M1 x1 y1).toArray ∧ LedO w' u18.heap.size d1 h1 (.slice x1 M1.length y1) M1 q1 ∧ takeBR d ts (⟨kd,fm,tw,em,le,ta,xm,ms⟩ : MgD) (d1,M1) ∧ Below u18.heap.size u18 w') rfl (by kernel_rfl) (by kernel_rfl) (by kernel_rfl) (run_cl3 _ _ _ _ rfl (by kernel_rfl) (by kernel_rfl) (by kernel_rfl) rfl enter_sTake) ((sTakeL_any d h2 _ g3 0 pn pn ts kd fm tw em le ta xm ms _ g7 0 mn mn _ h2mu18 ht3u18 hs h7su18).mono fun e _ ⟨⟨d1,h1,M1,x1,y1,q1,he,ho,hf⟩,hb⟩=>⟨_,he,d1,h1,M1,x1,y1,q1,rfl,ho,hf,hb⟩) ?_)
   rintro _ u19 ⟨d1,h1,M1,x1,y1,q1,rfl,hO1,hF,hbu19⟩
   have hPWu19:=hPWu18.block (hbu19.block (w.heap.size) (by omega))
   have hPPu19:=hPPu18.block (hbu19.block (w.heap.size + 1) (by omega))
   have hPMu19:=hPMu18.block (hbu19.block (w.heap.size + 2) (by omega))
   have hBu19:=hBu18.trans (hbu19.mono hBu18.size)
   have hzu19 : w3.heap.size ≤ u19.heap.size:=Nat.le_trans hzu18 hbu19.size
   have hlu19 : w.heap.size + 2 < u19.heap.size:=Nat.lt_of_lt_of_le hlu18 hbu19.size
   have hDu19:=hDu18.trans (hbu19.mono hzu18)
   have h2mu19:=h2mu18.below' hbu19
   have ht3u19:=ht3u18.below' hbu19
   have h7su19:=h7su18.below' hbu19
   have hlo1:=hO1.lo
   have hO1:=hO1.mono hzu18
   have hAu19:=hAu18.block (hbu19.block pA (by omega))
   have hAlu19 : pA < u19.heap.size:=Nat.lt_of_lt_of_le hAlu18 hbu19.size
   refine ⟨⟨hPWu19,hPPu19,hPMu19⟩,?_⟩
   obtain ⟨uz,huz⟩ : ∃ uz,uz = u19.setCells pA 0 (lvs d1 h1 M1 x1 y1):=⟨_,rfl⟩
   have hcz : CF uz pA (lvs d1 h1 M1 x1 y1):=by rw [huz];exact hAu19.stored rfl
   have hgz : u19.grownBy uz (some pA):=by rw [huz];exact grown_setCells _ _ _ _ _ (World.grownBy.refl _ _)
   have hPWz:=hPWu19.block (hgz.block (w.heap.size) (by omega) (by simp;omega))
   have hPPz:=hPPu19.block (hgz.block (w.heap.size + 1) (by omega) (by simp;omega))
   have hPMz:=hPMu19.block (hgz.block (w.heap.size + 2) (by omega) (by simp;omega))
   have hBz:=below_grown hBu19 hgz (by omega) (fun k hk=>by simp at hk;omega)
   have hOz:=hO1.grew (Grew.of hgz) (fun r hr q hq r' hr' e=>by
    obtain rfl:=List.mem_singleton.1 hr
    injection hq with hq
    have h5:=hlo1 r' hr' q e
    have h6:=HPA.out
    omega)
   have hzz:=below_grown hDu19 hgz (by omega) (fun k hk=>by simp at hk;omega)
   refine hOne (by kernel_rfl) (hSkip (i:=8) (w':=uz) (l':=(bt 9 511)) rfl (by kernel_rfl) (by kernel_rfl) (by kernel_rfl) (by rw [huz];exact run_stT 46 zL (lvs d1 h1 M1 x1 y1) (.tmp 8) (.tmp 38) (by kernel_rfl) (by kernel_rfl) (by kernel_rfl) hAu19 rfl Tryz.sizeLd (lvs_one d1 h1 M1 x1 y1)) ⟨hPWz,hPPz,hPMz⟩ ?_)
   refine wpAnyH_done (by kernel_rfl) ?_ _
   have HR:=hid (show ∃ (p : Nat) (d1 : BD) (h1 : BH) (M1 : List MgD) (x1 : Option Addr) (y1 : Nat) (q1 : List Value),(.pointer (some ⟨pA,0,none⟩) : Value) = .pointer (some ⟨p,0,none⟩) ∧ CF uz p (lvs d1 h1 M1 x1 y1) ∧ takeBR d ts (⟨kd,fm,tw,em,le,ta,xm,ms⟩ : MgD) (d1,M1) ∧ LedO uz w3.heap.size d1 h1 (.slice x1 M1.length y1) M1 q1 ∧ w3.heap.size ≤ p ∧ CF uz (w.heap.size) [.int .i64 d.wk,.bool d.up,.int .i64 d.now,.int .i64 d.sn,.int .i64 d.ep,.int .i64 d.gv,.slice h.a1 d.L1.length h.c1,.slice h.a2 d.L2.length h.c2,.slice h.ar d.R.length h.cr,.slice h.aj d.J.length h.cj,.slice h.az d.S.length h.cs,.slice h.ao d.O.length h.co] ∧ CF uz (w.heap.size + 1) [.slice pa pn pc] ∧ CF uz (w.heap.size + 2) [.int .i64 kd,.int .i64 fm,.int .i64 tw,.int .i64 em,.int .i64 le,.int .i64 ta,.string xm,.slice ma mn mc] ∧ Below w.heap.size w uz ∧ Below w3.heap.size w3 uz from ⟨pA,d1,h1,M1,x1,y1,q1,rfl,hcz,hF,hOz,hAb,hPWz,hPPz,hPMz,hBz,hzz⟩)
   clear hcz hF hOz hPWz hPPz hPMz hBz hzz huz hgz hO1 hlo1
   go_wp2_with fail
   go_meet
   case rel=>exact HR.out
 case rest =>
  obtain ⟨wo,rfl⟩ : ∃ wo,wo = wc:=⟨_,rfl⟩
  obtain ⟨p,d1,h1,M1,x1,y1,q1,rfl,hX,hF,hO,hpb,hPW,hPP,hPM,hBwo,hzc⟩:=hcut
  have HF:=hid hF
  have hg1:=hid (hF.good hfit hs)
  have OV:=hid hO
  have hhV:=hid hO.lo
  have PW:=hid hPW
  have PP:=hid hPP
  have PM:=hid hPM
  have MW:=hid (show CF wo p [.int .i64 d1.wk,.bool d1.up,.int .i64 d1.now,.int .i64 d1.sn,.int .i64 d1.ep,.int .i64 d1.gv,.slice h1.a1 d1.L1.length h1.c1,.slice h1.a2 d1.L2.length h1.c2,.slice h1.ar d1.R.length h1.cr,.slice h1.aj d1.J.length h1.cj,.slice h1.az d1.S.length h1.cs,.slice h1.ao d1.O.length h1.co,.slice x1 M1.length y1] from hX)
  have hxl:=hid MW.out.lt
  have hpl:=hid hPM.lt
  have hpb':=hid hpb
  have hzc':=hid hzc.size
  clear hX hF hO hPW hPP hPM hpb hzc
  have hBwoS:=hid hBwo.size
  obtain ⟨c0,c1,c2,c3,c4,c5,c6,c7,c8,c9,c10,c11⟩:=cf12 PW.out
  go_wp2_with fail
  refine (toBossO_any d h _ (hM.below' hBwo) hs).mono ?_
  rintro e' w4 ⟨⟨h4,g4,he,ho4,-,-⟩,hb4⟩
  have he' : e' = .returned (.agg #[.int .i64 d.wk,.bool d.up,.int .i64 d.now,.int .i64 d.sn,.int .i64 d.ep,.int .i64 d.gv,.slice h4.a1 d.L1.length h4.c1,.slice h4.a2 d.L2.length h4.c2,.slice h4.ar d.R.length h4.cr,.slice h4.aj d.J.length h4.cj,.slice h4.az d.S.length h4.cs,.slice h4.ao d.O.length h4.co]):=he
  clear he
  subst he'
  have hlo4:=hid ho4.lo
  have OX:=hid ho4
  clear ho4
  clear c0 c1 c2 c3 c4 c5 c6 c7 c8 c9 c10 c11
  have hBw4:=hBwo.trans (hb4.mono hBwo.size)
  have zw4:=hid (hb4.size)
  have PW_w4:=hid (PW.out.belowS hb4)
  clear PW
  have PP_w4:=hid (PP.out.belowS hb4)
  clear PP
  have PM_w4:=hid (PM.out.belowS hb4)
  clear PM
  have MW_w4:=hid (MW.out.belowS hb4)
  clear MW
  have OV_w4:=hid (OV.out.below hb4)
  clear OV
  clear hb4 hBwo
  obtain ⟨W4,hW4⟩ : ∃ W4,W4 = w4.alloc (.cells #[.int .i64 d.wk,.bool d.up,.int .i64 d.now,.int .i64 d.sn,.int .i64 d.ep,.int .i64 d.gv,.slice h4.a1 d.L1.length h4.c1,.slice h4.a2 d.L2.length h4.c2,.slice h4.ar d.R.length h4.cr,.slice h4.aj d.J.length h4.cj,.slice h4.az d.S.length h4.cs,.slice h4.ao d.O.length h4.co] 43):=⟨_,rfl⟩
  have hbaW4 : Below w4.heap.size w4 W4:=by rw [hW4];exact (Below.refl _ _).alloc (Nat.le_refl _) _
  have qW4:=hid (show W4.heap.size = w4.heap.size + 1 by rw [hW4];simp)
  have MX:=hid (show CF W4 w4.heap.size [.int .i64 d.wk,.bool d.up,.int .i64 d.now,.int .i64 d.sn,.int .i64 d.ep,.int .i64 d.gv,.slice h4.a1 d.L1.length h4.c1,.slice h4.a2 d.L2.length h4.c2,.slice h4.ar d.R.length h4.cr,.slice h4.aj d.J.length h4.cj,.slice h4.az d.S.length h4.cs,.slice h4.ao d.O.length h4.co] by rw [hW4];exact CF.made w4 #[.int .i64 d.wk,.bool d.up,.int .i64 d.now,.int .i64 d.sn,.int .i64 d.ep,.int .i64 d.gv,.slice h4.a1 d.L1.length h4.c1,.slice h4.a2 d.L2.length h4.c2,.slice h4.ar d.R.length h4.cr,.slice h4.aj d.J.length h4.cj,.slice h4.az d.S.length h4.cs,.slice h4.ao d.O.length h4.co] 43)
  have HW4:=hid hW4
  clear hW4
  have hBW4:=hBw4.trans (hbaW4.mono hBw4.size)
  have zW4:=hid (hbaW4.size)
  have PW_W4:=hid (PW_w4.out.belowS hbaW4)
  clear PW_w4
  have PP_W4:=hid (PP_w4.out.belowS hbaW4)
  clear PP_w4
  have PM_W4:=hid (PM_w4.out.belowS hbaW4)
  clear PM_w4
  have MW_W4:=hid (MW_w4.out.belowS hbaW4)
  clear MW_w4
  have OV_W4:=hid (OV_w4.out.below hbaW4)
  clear OV_w4
  have OX_W4:=hid (OX.out.below hbaW4)
  clear OX
  clear hbaW4 hBw4
  go_upto_region 13 with fail
  rw [← HW4.out]
  clear HW4
  have c0 : W4.cell? ⟨w.heap.size + 1,0,none⟩ = some (.slice pa pn pc):=(PP_W4.out 0 (by simp)).1
  go_wp2_with fail
  refine (toPlan_any pa pb po pn pc ts _ (hp.below' hBW4) hpn).mono ?_
  rintro e' w5 ⟨g5,xs5,rfl,ho5,hbu5,ht5,hb5⟩
  have hg5:=hid ho5.lo
  have hg5':=hid ho5.hi
  have h5t:=hid ht5
  have SH:=hid (hbu5.shape ho5 hp.len (by omega))
  clear ho5 hbu5 ht5
  clear c0
  have hBw5:=hBW4.trans (hb5.mono hBW4.size)
  have zw5:=hid (hb5.size)
  have PW_w5:=hid (PW_W4.out.belowS hb5)
  clear PW_W4
  have PP_w5:=hid (PP_W4.out.belowS hb5)
  clear PP_W4
  have PM_w5:=hid (PM_W4.out.belowS hb5)
  clear PM_W4
  have MW_w5:=hid (MW_W4.out.belowS hb5)
  clear MW_W4
  have OV_w5:=hid (OV_W4.out.below hb5)
  clear OV_W4
  have OX_w5:=hid (OX_W4.out.below hb5)
  clear OX_W4
  have MX_w5:=hid (MX.out.belowS hb5)
  clear MX
  clear hb5 hBW4
  obtain ⟨W5,hW5⟩ : ∃ W5,W5 = w5.alloc (.cells #[.slice (some ⟨g5,0,none⟩) pn pn] 51):=⟨_,rfl⟩
  have hbaW5 : Below w5.heap.size w5 W5:=by rw [hW5];exact (Below.refl _ _).alloc (Nat.le_refl _) _
  have qW5:=hid (show W5.heap.size = w5.heap.size + 1 by rw [hW5];simp)
  have MP:=hid (show CF W5 w5.heap.size [.slice (some ⟨g5,0,none⟩) pn pn] by rw [hW5];exact CF.made w5 #[.slice (some ⟨g5,0,none⟩) pn pn] 51)
  have HW5:=hid hW5
  clear hW5
  have hBW5:=hBw5.trans (hbaW5.mono hBw5.size)
  have zW5:=hid (hbaW5.size)
  have PW_W5:=hid (PW_w5.out.belowS hbaW5)
  clear PW_w5
  have PP_W5:=hid (PP_w5.out.belowS hbaW5)
  clear PP_w5
  have PM_W5:=hid (PM_w5.out.belowS hbaW5)
  clear PM_w5
  have MW_W5:=hid (MW_w5.out.belowS hbaW5)
  clear MW_w5
  have OV_W5:=hid (OV_w5.out.below hbaW5)
  clear OV_w5
  have OX_W5:=hid (OX_w5.out.below hbaW5)
  clear OX_w5
  have MX_W5:=hid (MX_w5.out.belowS hbaW5)
  clear MX_w5
  have h5t_W5:=hid (h5t.out.below' hbaW5)
  clear h5t
  have SH_W5:=hid (SH.out.below hbaW5)
  clear SH
  clear hbaW5 hBw5
  go_upto_region 14 with fail
  rw [← HW5.out]
  clear HW5
  obtain ⟨c0,c1,c2,c3,c4,c5,c6,c7⟩:=cf8 PM_W5.out
  go_wp2_with fail
  refine (toMessage_any kd fm tw em le ta xm ma mb mo mn mc ms _ (hm.below' hBW5) hmn).mono ?_
  rintro e' w5b ⟨⟨gm,rfl,hom⟩,hb5b⟩
  have hgm:=hid hom.lo
  have hgm':=hid hom.hi
  have OM_:=hid (show Own _ w5b 1 (.slice (some ⟨gm,0,none⟩) mn mn) mn (ms.map Value.string) from .inr ⟨gm,0,mn,rfl,hom⟩)
  have hms:=hid (StrsAt.ofOwn hom hm.sz)
  clear hom
  clear c0 c1 c2 c3 c4 c5 c6 c7
  have hBw5b:=hBW5.trans (hb5b.mono hBW5.size)
  have zw5b:=hid (hb5b.size)
  have PW_w5b:=hid (PW_W5.out.belowS hb5b)
  clear PW_W5
  have PP_w5b:=hid (PP_W5.out.belowS hb5b)
  clear PP_W5
  have PM_w5b:=hid (PM_W5.out.belowS hb5b)
  clear PM_W5
  have MW_w5b:=hid (MW_W5.out.belowS hb5b)
  clear MW_W5
  have OV_w5b:=hid (OV_W5.out.below hb5b)
  clear OV_W5
  have OX_w5b:=hid (OX_W5.out.below hb5b)
  clear OX_W5
  have MX_w5b:=hid (MX_W5.out.belowS hb5b)
  clear MX_W5
  have h5t_w5b:=hid (h5t_W5.out.below' hb5b)
  clear h5t_W5
  have SH_w5b:=hid (SH_W5.out.below hb5b)
  clear SH_W5
  have MP_w5b:=hid (MP.out.belowS hb5b)
  clear MP
  clear hb5b hBW5
  obtain ⟨W5b,hW5b⟩ : ∃ W5b,W5b = w5b.alloc (.cells #[.int .i64 kd,.int .i64 fm,.int .i64 tw,.int .i64 em,.int .i64 le,.int .i64 ta,.string xm,.slice (some ⟨gm,0,none⟩) mn mn] 53):=⟨_,rfl⟩
  have hbaW5b : Below w5b.heap.size w5b W5b:=by rw [hW5b];exact (Below.refl _ _).alloc (Nat.le_refl _) _
  have qW5b:=hid (show W5b.heap.size = w5b.heap.size + 1 by rw [hW5b];simp)
  have MM:=hid (show CF W5b w5b.heap.size [.int .i64 kd,.int .i64 fm,.int .i64 tw,.int .i64 em,.int .i64 le,.int .i64 ta,.string xm,.slice (some ⟨gm,0,none⟩) mn mn] by rw [hW5b];exact CF.made w5b #[.int .i64 kd,.int .i64 fm,.int .i64 tw,.int .i64 em,.int .i64 le,.int .i64 ta,.string xm,.slice (some ⟨gm,0,none⟩) mn mn] 53)
  have HW5b:=hid hW5b
  clear hW5b
  have hBW5b:=hBw5b.trans (hbaW5b.mono hBw5b.size)
  have zW5b:=hid (hbaW5b.size)
  have PW_W5b:=hid (PW_w5b.out.belowS hbaW5b)
  clear PW_w5b
  have PP_W5b:=hid (PP_w5b.out.belowS hbaW5b)
  clear PP_w5b
  have PM_W5b:=hid (PM_w5b.out.belowS hbaW5b)
  clear PM_w5b
  have MW_W5b:=hid (MW_w5b.out.belowS hbaW5b)
  clear MW_w5b
  have OV_W5b:=hid (OV_w5b.out.below hbaW5b)
  clear OV_w5b
  have OX_W5b:=hid (OX_w5b.out.below hbaW5b)
  clear OX_w5b
  have MX_W5b:=hid (MX_w5b.out.belowS hbaW5b)
  clear MX_w5b
  have h5t_W5b:=hid (h5t_w5b.out.below' hbaW5b)
  clear h5t_w5b
  have SH_W5b:=hid (SH_w5b.out.below hbaW5b)
  clear SH_w5b
  have MP_W5b:=hid (MP_w5b.out.belowS hbaW5b)
  clear MP_w5b
  have OM__W5b:=hid (OM_.out.below hbaW5b (Nat.le_refl _))
  clear OM_
  have hms_W5b:=hid (hms.out.below' hbaW5b)
  clear hms
  clear hbaW5b hBw5b
  go_upto_region 15 with fail
  rw [← HW5b.out]
  clear HW5b
  obtain ⟨kq0,kq1,kq2,kq3,kq4,kq5,kq6,kq7,kq8,kq9,kq10,kq11⟩:=cf12 MX_W5b.out
  have c0 : W5b.cell? ⟨w5.heap.size,0,none⟩ = some (.slice (some ⟨g5,0,none⟩) pn pn):=(MP_W5b.out 0 (by simp)).1
  obtain ⟨mq0,mq1,mq2,mq3,mq4,mq5,mq6,mq7⟩:=cf8 MM.out
  go_wp2_with fail
  refine (iTakeL_any d h4 _ g5 0 pn pn ts kd fm tw em le ta xm ms _ gm 0 mn mn _ (OX_W5b.out.m hfit) h5t_W5b.out hs hms_W5b.out (hTab.below' hBW5b)).mono ?_
  rintro e' w6 ⟨⟨d2,h6,M2,x6,y6,q6,he,ho6,hF2⟩,hb6⟩
  have hun:=HF.out.uniq hF2
  injection hun with hun1 hun2
  subst hun1 hun2
  have he' : e' = .returned (.agg #[.int .i64 d1.wk,.bool d1.up,.int .i64 d1.now,.int .i64 d1.sn,.int .i64 d1.ep,.int .i64 d1.gv,.slice h6.a1 d1.L1.length h6.c1,.slice h6.a2 d1.L2.length h6.c2,.slice h6.ar d1.R.length h6.cr,.slice h6.aj d1.J.length h6.cj,.slice h6.az d1.S.length h6.cs,.slice h6.ao d1.O.length h6.co,.slice x6 M1.length y6]):=he
  clear he
  subst he'
  have hlo6:=hid ho6.lo
  have OG:=hid ho6
  clear ho6 hF2
  clear kq0 kq1 kq2 kq3 kq4 kq5 kq6 kq7 kq8 kq9 kq10 kq11
  clear c0
  clear mq0 mq1 mq2 mq3 mq4 mq5 mq6 mq7
  have hBw6:=hBW5b.trans (hb6.mono hBW5b.size)
  have zw6:=hid (hb6.size)
  have PW_w6:=hid (PW_W5b.out.belowS hb6)
  clear PW_W5b
  have PP_w6:=hid (PP_W5b.out.belowS hb6)
  clear PP_W5b
  have PM_w6:=hid (PM_W5b.out.belowS hb6)
  clear PM_W5b
  have MW_w6:=hid (MW_W5b.out.belowS hb6)
  clear MW_W5b
  have OV_w6:=hid (OV_W5b.out.below hb6)
  clear OV_W5b
  have OX_w6:=hid (OX_W5b.out.below hb6)
  clear OX_W5b
  have MX_w6:=hid (MX_W5b.out.belowS hb6)
  clear MX_W5b
  have h5t_w6:=hid (h5t_W5b.out.below' hb6)
  clear h5t_W5b
  have SH_w6:=hid (SH_W5b.out.below hb6)
  clear SH_W5b
  have MP_w6:=hid (MP_W5b.out.belowS hb6)
  clear MP_W5b
  have OM__w6:=hid (OM__W5b.out.below hb6 (Nat.le_refl _))
  clear OM__W5b
  have hms_w6:=hid (hms_W5b.out.below' hb6)
  clear hms_W5b
  have MM_w6:=hid (MM.out.belowS hb6)
  clear MM
  clear hb6 hBW5b
  obtain ⟨W6,hW6⟩ : ∃ W6,W6 = w6.alloc (.cells #[.int .i64 d1.wk,.bool d1.up,.int .i64 d1.now,.int .i64 d1.sn,.int .i64 d1.ep,.int .i64 d1.gv,.slice h6.a1 d1.L1.length h6.c1,.slice h6.a2 d1.L2.length h6.c2,.slice h6.ar d1.R.length h6.cr,.slice h6.aj d1.J.length h6.cj,.slice h6.az d1.S.length h6.cs,.slice h6.ao d1.O.length h6.co,.slice x6 M1.length y6] 46):=⟨_,rfl⟩
  have hbaW6 : Below w6.heap.size w6 W6:=by rw [hW6];exact (Below.refl _ _).alloc (Nat.le_refl _) _
  have qW6:=hid (show W6.heap.size = w6.heap.size + 1 by rw [hW6];simp)
  have MG:=hid (show CF W6 w6.heap.size [.int .i64 d1.wk,.bool d1.up,.int .i64 d1.now,.int .i64 d1.sn,.int .i64 d1.ep,.int .i64 d1.gv,.slice h6.a1 d1.L1.length h6.c1,.slice h6.a2 d1.L2.length h6.c2,.slice h6.ar d1.R.length h6.cr,.slice h6.aj d1.J.length h6.cj,.slice h6.az d1.S.length h6.cs,.slice h6.ao d1.O.length h6.co,.slice x6 M1.length y6] by rw [hW6];exact CF.made w6 #[.int .i64 d1.wk,.bool d1.up,.int .i64 d1.now,.int .i64 d1.sn,.int .i64 d1.ep,.int .i64 d1.gv,.slice h6.a1 d1.L1.length h6.c1,.slice h6.a2 d1.L2.length h6.c2,.slice h6.ar d1.R.length h6.cr,.slice h6.aj d1.J.length h6.cj,.slice h6.az d1.S.length h6.cs,.slice h6.ao d1.O.length h6.co,.slice x6 M1.length y6] 46)
  have HW6:=hid hW6
  clear hW6
  have hBW6:=hBw6.trans (hbaW6.mono hBw6.size)
  have zW6:=hid (hbaW6.size)
  have PW_W6:=hid (PW_w6.out.belowS hbaW6)
  clear PW_w6
  have PP_W6:=hid (PP_w6.out.belowS hbaW6)
  clear PP_w6
  have PM_W6:=hid (PM_w6.out.belowS hbaW6)
  clear PM_w6
  have MW_W6:=hid (MW_w6.out.belowS hbaW6)
  clear MW_w6
  have OV_W6:=hid (OV_w6.out.below hbaW6)
  clear OV_w6
  have OX_W6:=hid (OX_w6.out.below hbaW6)
  clear OX_w6
  have MX_W6:=hid (MX_w6.out.belowS hbaW6)
  clear MX_w6
  have h5t_W6:=hid (h5t_w6.out.below' hbaW6)
  clear h5t_w6
  have SH_W6:=hid (SH_w6.out.below hbaW6)
  clear SH_w6
  have MP_W6:=hid (MP_w6.out.belowS hbaW6)
  clear MP_w6
  have OM__W6:=hid (OM__w6.out.below hbaW6 (Nat.le_refl _))
  clear OM__w6
  have hms_W6:=hid (hms_w6.out.below' hbaW6)
  clear hms_w6
  have MM_W6:=hid (MM_w6.out.belowS hbaW6)
  clear MM_w6
  have OG_W6:=hid (OG.out.below hbaW6)
  clear OG
  clear hbaW6 hBw6
  go_upto_region 16 with fail
  rw [← HW6.out]
  clear HW6
  obtain ⟨c0,c1,c2,c3,c4,c5,c6,c7,c8,c9,c10,c11,c12⟩:=cf13 MG.out
  obtain ⟨kq0,kq1,kq2,kq3,kq4,kq5,kq6,kq7,kq8,kq9,kq10,kq11,kq12⟩:=cf13 MW_W6.out
  go_wp2_with fail
  refine (eqLedO_any d1 M1 h6 h1 x6 x1 y6 y1 q6 q1 _ _ _ OG_W6.out OV_W6.out hg1.out).mono ?_
  rintro e' w7 ⟨rfl,hb⟩
  clear c0 c1 c2 c3 c4 c5 c6 c7 c8 c9 c10 c11 c12
  clear kq0 kq1 kq2 kq3 kq4 kq5 kq6 kq7 kq8 kq9 kq10 kq11 kq12
  have hBw7:=hBW6.trans (hb.mono hBW6.size)
  have zw7:=hid (hb.size)
  have PW_w7:=hid (PW_W6.out.belowS hb)
  clear PW_W6
  have PP_w7:=hid (PP_W6.out.belowS hb)
  clear PP_W6
  have PM_w7:=hid (PM_W6.out.belowS hb)
  clear PM_W6
  have MW_w7:=hid (MW_W6.out.belowS hb)
  clear MW_W6
  have OV_w7:=hid (OV_W6.out.below hb)
  clear OV_W6
  have OX_w7:=hid (OX_W6.out.below hb)
  clear OX_W6
  have MX_w7:=hid (MX_W6.out.belowS hb)
  clear MX_W6
  have h5t_w7:=hid (h5t_W6.out.below' hb)
  clear h5t_W6
  have SH_w7:=hid (SH_W6.out.below hb)
  clear SH_W6
  have MP_w7:=hid (MP_W6.out.belowS hb)
  clear MP_W6
  have OM__w7:=hid (OM__W6.out.below hb (Nat.le_refl _))
  clear OM__W6
  have hms_w7:=hid (hms_W6.out.below' hb)
  clear hms_W6
  have MM_w7:=hid (MM_W6.out.belowS hb)
  clear MM_W6
  have OG_w7:=hid (OG_W6.out.below hb)
  clear OG_W6
  have MG_w7:=hid (MG.out.belowS hb)
  clear MG
  clear hb hBW6
  obtain ⟨c0,c1,c2,c3,c4,c5,c6,c7,c8,c9,c10,c11⟩:=cf12 PW_w7.out
  obtain ⟨kq0,kq1,kq2,kq3,kq4,kq5,kq6,kq7,kq8,kq9,kq10,kq11⟩:=cf12 MX_w7.out
  go_wp2
  have hBd:=hBw7.drew
  have hd6:=hM.below' hBd
  have hdp6:=hp.below' hBd
  have hdm6:=hm.below' hBd
  have PWd:=hid (show CF w7.drew (w.heap.size) [.int .i64 d.wk,.bool d.up,.int .i64 d.now,.int .i64 d.sn,.int .i64 d.ep,.int .i64 d.gv,.slice h.a1 d.L1.length h.c1,.slice h.a2 d.L2.length h.c2,.slice h.ar d.R.length h.cr,.slice h.aj d.J.length h.cj,.slice h.az d.S.length h.cs,.slice h.ao d.O.length h.co] from PW_w7.out)
  clear PW_w7
  have PPd:=hid (show CF w7.drew (w.heap.size + 1) [.slice pa pn pc] from PP_w7.out)
  clear PP_w7
  have PMd:=hid (show CF w7.drew (w.heap.size + 2) [.int .i64 kd,.int .i64 fm,.int .i64 tw,.int .i64 em,.int .i64 le,.int .i64 ta,.string xm,.slice ma mn mc] from PM_w7.out)
  clear PM_w7
  have MWd:=hid (show CF w7.drew (p) [.int .i64 d1.wk,.bool d1.up,.int .i64 d1.now,.int .i64 d1.sn,.int .i64 d1.ep,.int .i64 d1.gv,.slice h1.a1 d1.L1.length h1.c1,.slice h1.a2 d1.L2.length h1.c2,.slice h1.ar d1.R.length h1.cr,.slice h1.aj d1.J.length h1.cj,.slice h1.az d1.S.length h1.cs,.slice h1.ao d1.O.length h1.co,.slice x1 M1.length y1] from MW_w7.out)
  clear MW_w7
  have OVd:=hid (OV_w7.out.below (Below.refl _ _).drew)
  clear OV_w7
  have OXd:=hid (OX_w7.out.below (Below.refl _ _).drew)
  clear OX_w7
  have MXd:=hid (show CF w7.drew (w4.heap.size) [.int .i64 d.wk,.bool d.up,.int .i64 d.now,.int .i64 d.sn,.int .i64 d.ep,.int .i64 d.gv,.slice h4.a1 d.L1.length h4.c1,.slice h4.a2 d.L2.length h4.c2,.slice h4.ar d.R.length h4.cr,.slice h4.aj d.J.length h4.cj,.slice h4.az d.S.length h4.cs,.slice h4.ao d.O.length h4.co] from MX_w7.out)
  clear MX_w7
  have h5td:=hid (h5t_w7.out.below' (Below.refl _ _).drew)
  clear h5t_w7
  have SHd:=hid (SH_w7.out.below (Below.refl _ _).drew)
  clear SH_w7
  have MPd:=hid (show CF w7.drew (w5.heap.size) [.slice (some ⟨g5,0,none⟩) pn pn] from MP_w7.out)
  clear MP_w7
  have OM_d:=hid (OM__w7.out.drewW)
  clear OM__w7
  have hmsd:=hid (hms_w7.out.drew)
  clear hms_w7
  have MMd:=hid (show CF w7.drew (w5b.heap.size) [.int .i64 kd,.int .i64 fm,.int .i64 tw,.int .i64 em,.int .i64 le,.int .i64 ta,.string xm,.slice (some ⟨gm,0,none⟩) mn mn] from MM_w7.out)
  clear MM_w7
  have OGd:=hid (OG_w7.out.below (Below.refl _ _).drew)
  clear OG_w7
  have MGd:=hid (show CF w7.drew (w6.heap.size) [.int .i64 d1.wk,.bool d1.up,.int .i64 d1.now,.int .i64 d1.sn,.int .i64 d1.ep,.int .i64 d1.gv,.slice h6.a1 d1.L1.length h6.c1,.slice h6.a2 d1.L2.length h6.c2,.slice h6.ar d1.R.length h6.cr,.slice h6.aj d1.J.length h6.cj,.slice h6.az d1.S.length h6.cs,.slice h6.ao d1.O.length h6.co,.slice x6 M1.length y6] from MG_w7.out)
  clear MG_w7
  go_region_held3 (fun w'=>w'.cell? ⟨w.heap.size,0,none⟩ = some (.int .i64 d.wk) ∧ w'.cell? ⟨w.heap.size,1,none⟩ = some (.bool d.up) ∧ w'.cell? ⟨w.heap.size,2,none⟩ = some (.int .i64 d.now) ∧ w'.cell? ⟨w.heap.size,3,none⟩ = some (.int .i64 d.sn) ∧ w'.cell? ⟨w.heap.size,4,none⟩ = some (.int .i64 d.ep) ∧ w'.cell? ⟨w.heap.size,5,none⟩ = some (.int .i64 d.gv) ∧ w'.cell? ⟨w.heap.size,6,none⟩ = some (.slice h.a1 d.L1.length h.c1) ∧ w'.cell? ⟨w.heap.size,7,none⟩ = some (.slice h.a2 d.L2.length h.c2) ∧ w'.cell? ⟨w.heap.size,8,none⟩ = some (.slice h.ar d.R.length h.cr) ∧ w'.cell? ⟨w.heap.size,9,none⟩ = some (.slice h.aj d.J.length h.cj) ∧ w'.cell? ⟨w.heap.size,10,none⟩ = some (.slice h.az d.S.length h.cs) ∧ w'.cell? ⟨w.heap.size,11,none⟩ = some (.slice h.ao d.O.length h.co) ∧ w'.cell? ⟨w4.heap.size,0,none⟩ = some (.int .i64 d.wk) ∧ w'.cell? ⟨w4.heap.size,1,none⟩ = some (.bool d.up) ∧ w'.cell? ⟨w4.heap.size,2,none⟩ = some (.int .i64 d.now) ∧ w'.cell? ⟨w4.heap.size,3,none⟩ = some (.int .i64 d.sn) ∧ w'.cell? ⟨w4.heap.size,4,none⟩ = some (.int .i64 d.ep) ∧ w'.cell? ⟨w4.heap.size,5,none⟩ = some (.int .i64 d.gv) ∧ w'.cell? ⟨w4.heap.size,6,none⟩ = some (.slice h4.a1 d.L1.length h4.c1) ∧ w'.cell? ⟨w4.heap.size,7,none⟩ = some (.slice h4.a2 d.L2.length h4.c2) ∧ w'.cell? ⟨w4.heap.size,8,none⟩ = some (.slice h4.ar d.R.length h4.cr) ∧ w'.cell? ⟨w4.heap.size,9,none⟩ = some (.slice h4.aj d.J.length h4.cj) ∧ w'.cell? ⟨w4.heap.size,10,none⟩ = some (.slice h4.az d.S.length h4.cs) ∧ w'.cell? ⟨w4.heap.size,11,none⟩ = some (.slice h4.ao d.O.length h4.co)) (first | (simp [go_sem, *];done) | assumption)
   (first
    | (go_at_call 8;refine (toBossO_any d h _ hd6 hs).mono ?_;rintro e' w8 ⟨⟨h8,g8,he,ho8,-,-⟩,hb7⟩;have he' : e' = .returned (.agg #[.int .i64 d.wk,.bool d.up,.int .i64 d.now,.int .i64 d.sn,.int .i64 d.ep,.int .i64 d.gv,.slice h8.a1 d.L1.length h8.c1,.slice h8.a2 d.L2.length h8.c2,.slice h8.ar d.R.length h8.cr,.slice h8.aj d.J.length h8.cj,.slice h8.az d.S.length h8.cs,.slice h8.ao d.O.length h8.co]):=he;clear he;subst he';have y0:=keepC hb7 c0;have y1:=keepC hb7 c1;have y2:=keepC hb7 c2;have y3:=keepC hb7 c3;have y4:=keepC hb7 c4;have y5:=keepC hb7 c5;have y6:=keepC hb7 c6;have y7:=keepC hb7 c7;have y8:=keepC hb7 c8;have y9:=keepC hb7 c9;have y10:=keepC hb7 c10;have y11:=keepC hb7 c11;have t0:=keepC hb7 kq0;have t1:=keepC hb7 kq1;have t2:=keepC hb7 kq2;have t3:=keepC hb7 kq3;have t4:=keepC hb7 kq4;have t5:=keepC hb7 kq5;have t6:=keepC hb7 kq6;have t7:=keepC hb7 kq7;have t8:=keepC hb7 kq8;have t9:=keepC hb7 kq9;have t10:=keepC hb7 kq10;have t11:=keepC hb7 kq11;have hB7:=hBd.trans (hb7.mono hBd.size);have zw8:=hid (show w7.heap.size ≤ w8.heap.size from hb7.size);have PWe:=hid (PWd.out.belowS hb7);have PPe:=hid (PPd.out.belowS hb7);have PMe:=hid (PMd.out.belowS hb7);have MWe:=hid (MWd.out.belowS hb7);have OVe:=hid (OVd.out.below hb7);have OXe:=hid (OXd.out.below hb7);have MXe:=hid (MXd.out.belowS hb7);have h5te:=hid (h5td.out.below' hb7);have SHe:=hid (SHd.out.below hb7);have MPe:=hid (MPd.out.belowS hb7);have OM_e:=hid (OM_d.out.below hb7 (Nat.le_refl _));have hmse:=hid (hmsd.out.below' hb7);have MMe:=hid (MMd.out.belowS hb7);have OGe:=hid (OGd.out.below hb7);have MGe:=hid (MGd.out.belowS hb7))
    | (go_at_call 13;refine (eqBossO_any d h4 h8 _ (OXe.out.m hfit) (ho8.m hfit)).mono ?_;rintro e' w9 ⟨rfl,hb8⟩;have y0a:=keepB hb8 y0;have y1a:=keepB hb8 y1;have y2a:=keepB hb8 y2;have y3a:=keepB hb8 y3;have y4a:=keepB hb8 y4;have y5a:=keepB hb8 y5;have y6a:=keepB hb8 y6;have y7a:=keepB hb8 y7;have y8a:=keepB hb8 y8;have y9a:=keepB hb8 y9;have y10a:=keepB hb8 y10;have y11a:=keepB hb8 y11;have t0a:=keepB hb8 t0;have t1a:=keepB hb8 t1;have t2a:=keepB hb8 t2;have t3a:=keepB hb8 t3;have t4a:=keepB hb8 t4;have t5a:=keepB hb8 t5;have t6a:=keepB hb8 t6;have t7a:=keepB hb8 t7;have t8a:=keepB hb8 t8;have t9a:=keepB hb8 t9;have t10a:=keepB hb8 t10;have t11a:=keepB hb8 t11;have hBw9:=hB7.trans (hb8.mono hB7.size);have zw9:=hid hb8.size;have PWf:=hid (PWe.out.belowS hb8);have PPf:=hid (PPe.out.belowS hb8);have PMf:=hid (PMe.out.belowS hb8);have MWf:=hid (MWe.out.belowS hb8);have OVf:=hid (OVe.out.below hb8);have OXf:=hid (OXe.out.below hb8);have MXf:=hid (MXe.out.belowS hb8);have h5tf:=hid (h5te.out.below' hb8);have SHf:=hid (SHe.out.below hb8);have MPf:=hid (MPe.out.belowS hb8);have OM_f:=hid (OM_e.out.below hb8 (Nat.le_refl _));have hmsf:=hid (hmse.out.below' hb8);have MMf:=hid (MMe.out.belowS hb8);have OGf:=hid (OGe.out.below hb8);have MGf:=hid (MGe.out.belowS hb8)))
  clear c0 y0 y0a c1 y1 y1a c2 y2 y2a c3 y3 y3a c4 y4 y4a c5 y5 y5a c6 y6 y6a c7 y7 y7a c8 y8 y8a c9 y9 y9a c10 y10 y10a c11 y11 y11a kq0 t0 t0a kq1 t1 t1a kq2 t2 t2a kq3 t3 t3a kq4 t4 t4a kq5 t5 t5a kq6 t6 t6a kq7 t7 t7a kq8 t8 t8a kq9 t9 t9a kq10 t10 t10a kq11 t11 t11a
  clear PWd PWe PPd PPe PMd PMe MWd MWe OVd OVe OXd OXe MXd MXe h5td h5te SHd SHe MPd MPe OM_d OM_e hmsd hmse MMd MMe OGd OGe MGd MGe hB7 hBd hd6 hdp6 hdm6 hb7 hb8 hBw7 ho8
  have PW_w9:=PWf
  clear PWf
  have PP_w9:=PPf
  clear PPf
  have PM_w9:=PMf
  clear PMf
  have MW_w9:=MWf
  clear MWf
  have OV_w9:=OVf
  clear OVf
  have OX_w9:=OXf
  clear OXf
  have MX_w9:=MXf
  clear MXf
  have h5t_w9:=h5tf
  clear h5tf
  have SH_w9:=SHf
  clear SHf
  have MP_w9:=MPf
  clear MPf
  have OM__w9:=OM_f
  clear OM_f
  have hms_w9:=hmsf
  clear hmsf
  have MM_w9:=MMf
  clear MMf
  have OG_w9:=OGf
  clear OGf
  have MG_w9:=MGf
  clear MGf
  have c0 : w9.cell? ⟨w.heap.size + 1,0,none⟩ = some (.slice pa pn pc):=(PP_w9.out 0 (by simp)).1
  have kq0 : w9.cell? ⟨w5.heap.size,0,none⟩ = some (.slice (some ⟨g5,0,none⟩) pn pn):=(MP_w9.out 0 (by simp)).1
  go_wp2
  have hBd:=hBw9.drew
  have hd6:=hM.below' hBd
  have hdp6:=hp.below' hBd
  have hdm6:=hm.below' hBd
  have PWd:=hid (show CF w9.drew (w.heap.size) [.int .i64 d.wk,.bool d.up,.int .i64 d.now,.int .i64 d.sn,.int .i64 d.ep,.int .i64 d.gv,.slice h.a1 d.L1.length h.c1,.slice h.a2 d.L2.length h.c2,.slice h.ar d.R.length h.cr,.slice h.aj d.J.length h.cj,.slice h.az d.S.length h.cs,.slice h.ao d.O.length h.co] from PW_w9.out)
  clear PW_w9
  have PPd:=hid (show CF w9.drew (w.heap.size + 1) [.slice pa pn pc] from PP_w9.out)
  clear PP_w9
  have PMd:=hid (show CF w9.drew (w.heap.size + 2) [.int .i64 kd,.int .i64 fm,.int .i64 tw,.int .i64 em,.int .i64 le,.int .i64 ta,.string xm,.slice ma mn mc] from PM_w9.out)
  clear PM_w9
  have MWd:=hid (show CF w9.drew (p) [.int .i64 d1.wk,.bool d1.up,.int .i64 d1.now,.int .i64 d1.sn,.int .i64 d1.ep,.int .i64 d1.gv,.slice h1.a1 d1.L1.length h1.c1,.slice h1.a2 d1.L2.length h1.c2,.slice h1.ar d1.R.length h1.cr,.slice h1.aj d1.J.length h1.cj,.slice h1.az d1.S.length h1.cs,.slice h1.ao d1.O.length h1.co,.slice x1 M1.length y1] from MW_w9.out)
  clear MW_w9
  have OVd:=hid (OV_w9.out.below (Below.refl _ _).drew)
  clear OV_w9
  have OXd:=hid (OX_w9.out.below (Below.refl _ _).drew)
  clear OX_w9
  have MXd:=hid (show CF w9.drew (w4.heap.size) [.int .i64 d.wk,.bool d.up,.int .i64 d.now,.int .i64 d.sn,.int .i64 d.ep,.int .i64 d.gv,.slice h4.a1 d.L1.length h4.c1,.slice h4.a2 d.L2.length h4.c2,.slice h4.ar d.R.length h4.cr,.slice h4.aj d.J.length h4.cj,.slice h4.az d.S.length h4.cs,.slice h4.ao d.O.length h4.co] from MX_w9.out)
  clear MX_w9
  have h5td:=hid (h5t_w9.out.below' (Below.refl _ _).drew)
  clear h5t_w9
  have SHd:=hid (SH_w9.out.below (Below.refl _ _).drew)
  clear SH_w9
  have MPd:=hid (show CF w9.drew (w5.heap.size) [.slice (some ⟨g5,0,none⟩) pn pn] from MP_w9.out)
  clear MP_w9
  have OM_d:=hid (OM__w9.out.drewW)
  clear OM__w9
  have hmsd:=hid (hms_w9.out.drew)
  clear hms_w9
  have MMd:=hid (show CF w9.drew (w5b.heap.size) [.int .i64 kd,.int .i64 fm,.int .i64 tw,.int .i64 em,.int .i64 le,.int .i64 ta,.string xm,.slice (some ⟨gm,0,none⟩) mn mn] from MM_w9.out)
  clear MM_w9
  have OGd:=hid (OG_w9.out.below (Below.refl _ _).drew)
  clear OG_w9
  have MGd:=hid (show CF w9.drew (w6.heap.size) [.int .i64 d1.wk,.bool d1.up,.int .i64 d1.now,.int .i64 d1.sn,.int .i64 d1.ep,.int .i64 d1.gv,.slice h6.a1 d1.L1.length h6.c1,.slice h6.a2 d1.L2.length h6.c2,.slice h6.ar d1.R.length h6.cr,.slice h6.aj d1.J.length h6.cj,.slice h6.az d1.S.length h6.cs,.slice h6.ao d1.O.length h6.co,.slice x6 M1.length y6] from MG_w9.out)
  clear MG_w9
  go_region_held3 (fun w'=>w'.cell? ⟨w.heap.size + 1,0,none⟩ = some (.slice pa pn pc) ∧ w'.cell? ⟨w5.heap.size,0,none⟩ = some (.slice (some ⟨g5,0,none⟩) pn pn)) (first | (simp [go_sem, *];done) | assumption)
   (first
    | (go_at_call 9;refine (toPlan_any pa pb po pn pc ts _ hdp6 hpn).mono ?_;rintro e' w10 ⟨g10,xs10,rfl,ho10,hbu10,ht10,hb7⟩;have y0:=keepC hb7 c0;have t0:=keepC hb7 kq0;have hB7:=hBd.trans (hb7.mono hBd.size);have zw10:=hid (show w9.heap.size ≤ w10.heap.size from hb7.size);have PWe:=hid (PWd.out.belowS hb7);have PPe:=hid (PPd.out.belowS hb7);have PMe:=hid (PMd.out.belowS hb7);have MWe:=hid (MWd.out.belowS hb7);have OVe:=hid (OVd.out.below hb7);have OXe:=hid (OXd.out.below hb7);have MXe:=hid (MXd.out.belowS hb7);have h5te:=hid (h5td.out.below' hb7);have SHe:=hid (SHd.out.below hb7);have MPe:=hid (MPd.out.belowS hb7);have OM_e:=hid (OM_d.out.below hb7 (Nat.le_refl _));have hmse:=hid (hmsd.out.below' hb7);have MMe:=hid (MMd.out.belowS hb7);have OGe:=hid (OGd.out.below hb7);have MGe:=hid (MGd.out.belowS hb7))
    | (go_at_call 14;refine (eqPlan_any _ _ g5 0 pn pn g10 0 pn ts _ h5te.out ht10).mono ?_;rintro e' w11 ⟨rfl,hb8⟩;have y0a:=keepB hb8 y0;have t0a:=keepB hb8 t0;have hBw11:=hB7.trans (hb8.mono hB7.size);have zw11:=hid hb8.size;have PWf:=hid (PWe.out.belowS hb8);have PPf:=hid (PPe.out.belowS hb8);have PMf:=hid (PMe.out.belowS hb8);have MWf:=hid (MWe.out.belowS hb8);have OVf:=hid (OVe.out.below hb8);have OXf:=hid (OXe.out.below hb8);have MXf:=hid (MXe.out.belowS hb8);have h5tf:=hid (h5te.out.below' hb8);have SHf:=hid (SHe.out.below hb8);have MPf:=hid (MPe.out.belowS hb8);have OM_f:=hid (OM_e.out.below hb8 (Nat.le_refl _));have hmsf:=hid (hmse.out.below' hb8);have MMf:=hid (MMe.out.belowS hb8);have OGf:=hid (OGe.out.below hb8);have MGf:=hid (MGe.out.belowS hb8)))
  clear c0 y0 y0a kq0 t0 t0a
  clear PWd PWe PPd PPe PMd PMe MWd MWe OVd OVe OXd OXe MXd MXe h5td h5te SHd SHe MPd MPe OM_d OM_e hmsd hmse MMd MMe OGd OGe MGd MGe hB7 hBd hd6 hdp6 hdm6 hb7 hb8 hBw9 ho10 hbu10 ht10
  have PW_w11:=PWf
  clear PWf
  have PP_w11:=PPf
  clear PPf
  have PM_w11:=PMf
  clear PMf
  have MW_w11:=MWf
  clear MWf
  have OV_w11:=OVf
  clear OVf
  have OX_w11:=OXf
  clear OXf
  have MX_w11:=MXf
  clear MXf
  have h5t_w11:=h5tf
  clear h5tf
  have SH_w11:=SHf
  clear SHf
  have MP_w11:=MPf
  clear MPf
  have OM__w11:=OM_f
  clear OM_f
  have hms_w11:=hmsf
  clear hmsf
  have MM_w11:=MMf
  clear MMf
  have OG_w11:=OGf
  clear OGf
  have MG_w11:=MGf
  clear MGf
  obtain ⟨c0,c1,c2,c3,c4,c5,c6,c7⟩:=cf8 PM_w11.out
  obtain ⟨kq0,kq1,kq2,kq3,kq4,kq5,kq6,kq7⟩:=cf8 MM_w11.out
  go_wp2
  have hBd:=hBw11.drew
  have hd6:=hM.below' hBd
  have hdp6:=hp.below' hBd
  have hdm6:=hm.below' hBd
  have PWd:=hid (show CF w11.drew (w.heap.size) [.int .i64 d.wk,.bool d.up,.int .i64 d.now,.int .i64 d.sn,.int .i64 d.ep,.int .i64 d.gv,.slice h.a1 d.L1.length h.c1,.slice h.a2 d.L2.length h.c2,.slice h.ar d.R.length h.cr,.slice h.aj d.J.length h.cj,.slice h.az d.S.length h.cs,.slice h.ao d.O.length h.co] from PW_w11.out)
  clear PW_w11
  have PPd:=hid (show CF w11.drew (w.heap.size + 1) [.slice pa pn pc] from PP_w11.out)
  clear PP_w11
  have PMd:=hid (show CF w11.drew (w.heap.size + 2) [.int .i64 kd,.int .i64 fm,.int .i64 tw,.int .i64 em,.int .i64 le,.int .i64 ta,.string xm,.slice ma mn mc] from PM_w11.out)
  clear PM_w11
  have MWd:=hid (show CF w11.drew (p) [.int .i64 d1.wk,.bool d1.up,.int .i64 d1.now,.int .i64 d1.sn,.int .i64 d1.ep,.int .i64 d1.gv,.slice h1.a1 d1.L1.length h1.c1,.slice h1.a2 d1.L2.length h1.c2,.slice h1.ar d1.R.length h1.cr,.slice h1.aj d1.J.length h1.cj,.slice h1.az d1.S.length h1.cs,.slice h1.ao d1.O.length h1.co,.slice x1 M1.length y1] from MW_w11.out)
  clear MW_w11
  have OVd:=hid (OV_w11.out.below (Below.refl _ _).drew)
  clear OV_w11
  have OXd:=hid (OX_w11.out.below (Below.refl _ _).drew)
  clear OX_w11
  have MXd:=hid (show CF w11.drew (w4.heap.size) [.int .i64 d.wk,.bool d.up,.int .i64 d.now,.int .i64 d.sn,.int .i64 d.ep,.int .i64 d.gv,.slice h4.a1 d.L1.length h4.c1,.slice h4.a2 d.L2.length h4.c2,.slice h4.ar d.R.length h4.cr,.slice h4.aj d.J.length h4.cj,.slice h4.az d.S.length h4.cs,.slice h4.ao d.O.length h4.co] from MX_w11.out)
  clear MX_w11
  have h5td:=hid (h5t_w11.out.below' (Below.refl _ _).drew)
  clear h5t_w11
  have SHd:=hid (SH_w11.out.below (Below.refl _ _).drew)
  clear SH_w11
  have MPd:=hid (show CF w11.drew (w5.heap.size) [.slice (some ⟨g5,0,none⟩) pn pn] from MP_w11.out)
  clear MP_w11
  have OM_d:=hid (OM__w11.out.drewW)
  clear OM__w11
  have hmsd:=hid (hms_w11.out.drew)
  clear hms_w11
  have MMd:=hid (show CF w11.drew (w5b.heap.size) [.int .i64 kd,.int .i64 fm,.int .i64 tw,.int .i64 em,.int .i64 le,.int .i64 ta,.string xm,.slice (some ⟨gm,0,none⟩) mn mn] from MM_w11.out)
  clear MM_w11
  have OGd:=hid (OG_w11.out.below (Below.refl _ _).drew)
  clear OG_w11
  have MGd:=hid (show CF w11.drew (w6.heap.size) [.int .i64 d1.wk,.bool d1.up,.int .i64 d1.now,.int .i64 d1.sn,.int .i64 d1.ep,.int .i64 d1.gv,.slice h6.a1 d1.L1.length h6.c1,.slice h6.a2 d1.L2.length h6.c2,.slice h6.ar d1.R.length h6.cr,.slice h6.aj d1.J.length h6.cj,.slice h6.az d1.S.length h6.cs,.slice h6.ao d1.O.length h6.co,.slice x6 M1.length y6] from MG_w11.out)
  clear MG_w11
  go_region_held3 (fun w'=>w'.cell? ⟨w.heap.size + 2,0,none⟩ = some (.int .i64 kd) ∧ w'.cell? ⟨w.heap.size + 2,1,none⟩ = some (.int .i64 fm) ∧ w'.cell? ⟨w.heap.size + 2,2,none⟩ = some (.int .i64 tw) ∧ w'.cell? ⟨w.heap.size + 2,3,none⟩ = some (.int .i64 em) ∧ w'.cell? ⟨w.heap.size + 2,4,none⟩ = some (.int .i64 le) ∧ w'.cell? ⟨w.heap.size + 2,5,none⟩ = some (.int .i64 ta) ∧ w'.cell? ⟨w.heap.size + 2,6,none⟩ = some (.string xm) ∧ w'.cell? ⟨w.heap.size + 2,7,none⟩ = some (.slice ma mn mc) ∧ w'.cell? ⟨w5b.heap.size,0,none⟩ = some (.int .i64 kd) ∧ w'.cell? ⟨w5b.heap.size,1,none⟩ = some (.int .i64 fm) ∧ w'.cell? ⟨w5b.heap.size,2,none⟩ = some (.int .i64 tw) ∧ w'.cell? ⟨w5b.heap.size,3,none⟩ = some (.int .i64 em) ∧ w'.cell? ⟨w5b.heap.size,4,none⟩ = some (.int .i64 le) ∧ w'.cell? ⟨w5b.heap.size,5,none⟩ = some (.int .i64 ta) ∧ w'.cell? ⟨w5b.heap.size,6,none⟩ = some (.string xm) ∧ w'.cell? ⟨w5b.heap.size,7,none⟩ = some (.slice (some ⟨gm,0,none⟩) mn mn)) (first | (simp [go_sem, *];done) | assumption)
   (first
    | (go_at_call 10;refine (toMessage_any kd fm tw em le ta xm ma mb mo mn mc ms _ hdm6 hmn).mono ?_;rintro e' w11a ⟨⟨g11,rfl,ho11⟩,hb7⟩;have h11s:=StrsAt.ofOwn ho11 hm.sz;have y0:=keepC hb7 c0;have y1:=keepC hb7 c1;have y2:=keepC hb7 c2;have y3:=keepC hb7 c3;have y4:=keepC hb7 c4;have y5:=keepC hb7 c5;have y6:=keepC hb7 c6;have y7:=keepC hb7 c7;have t0:=keepC hb7 kq0;have t1:=keepC hb7 kq1;have t2:=keepC hb7 kq2;have t3:=keepC hb7 kq3;have t4:=keepC hb7 kq4;have t5:=keepC hb7 kq5;have t6:=keepC hb7 kq6;have t7:=keepC hb7 kq7;have hB7:=hBd.trans (hb7.mono hBd.size);have zw11a:=hid (show w11.heap.size ≤ w11a.heap.size from hb7.size);have PWe:=hid (PWd.out.belowS hb7);have PPe:=hid (PPd.out.belowS hb7);have PMe:=hid (PMd.out.belowS hb7);have MWe:=hid (MWd.out.belowS hb7);have OVe:=hid (OVd.out.below hb7);have OXe:=hid (OXd.out.below hb7);have MXe:=hid (MXd.out.belowS hb7);have h5te:=hid (h5td.out.below' hb7);have SHe:=hid (SHd.out.below hb7);have MPe:=hid (MPd.out.belowS hb7);have OM_e:=hid (OM_d.out.below hb7 (Nat.le_refl _));have hmse:=hid (hmsd.out.below' hb7);have MMe:=hid (MMd.out.belowS hb7);have OGe:=hid (OGd.out.below hb7);have MGe:=hid (MGd.out.belowS hb7))
    | (go_at_call 15;refine (eqMessage_any kd fm tw em le ta xm _ _ gm 0 mn mn g11 0 mn ms _ hmse.out h11s).mono ?_;rintro e' w11b ⟨rfl,hb8⟩;have y0a:=keepB hb8 y0;have y1a:=keepB hb8 y1;have y2a:=keepB hb8 y2;have y3a:=keepB hb8 y3;have y4a:=keepB hb8 y4;have y5a:=keepB hb8 y5;have y6a:=keepB hb8 y6;have y7a:=keepB hb8 y7;have t0a:=keepB hb8 t0;have t1a:=keepB hb8 t1;have t2a:=keepB hb8 t2;have t3a:=keepB hb8 t3;have t4a:=keepB hb8 t4;have t5a:=keepB hb8 t5;have t6a:=keepB hb8 t6;have t7a:=keepB hb8 t7;have hBw11b:=hB7.trans (hb8.mono hB7.size);have zw11b:=hid hb8.size;have PWf:=hid (PWe.out.belowS hb8);have PPf:=hid (PPe.out.belowS hb8);have PMf:=hid (PMe.out.belowS hb8);have MWf:=hid (MWe.out.belowS hb8);have OVf:=hid (OVe.out.below hb8);have OXf:=hid (OXe.out.below hb8);have MXf:=hid (MXe.out.belowS hb8);have h5tf:=hid (h5te.out.below' hb8);have SHf:=hid (SHe.out.below hb8);have MPf:=hid (MPe.out.belowS hb8);have OM_f:=hid (OM_e.out.below hb8 (Nat.le_refl _));have hmsf:=hid (hmse.out.below' hb8);have MMf:=hid (MMe.out.belowS hb8);have OGf:=hid (OGe.out.below hb8);have MGf:=hid (MGe.out.belowS hb8)))
  clear c0 y0 y0a c1 y1 y1a c2 y2 y2a c3 y3 y3a c4 y4 y4a c5 y5 y5a c6 y6 y6a c7 y7 y7a kq0 t0 t0a kq1 t1 t1a kq2 t2 t2a kq3 t3 t3a kq4 t4 t4a kq5 t5 t5a kq6 t6 t6a kq7 t7 t7a
  clear PWd PWe PPd PPe PMd PMe MWd MWe OVd OVe OXd OXe MXd MXe h5td h5te SHd SHe MPd MPe OM_d OM_e hmsd hmse MMd MMe OGd OGe MGd MGe hB7 hBd hd6 hdp6 hdm6 hb7 hb8 hBw11 h11s ho11
  have PW_w11b:=PWf
  clear PWf
  have PP_w11b:=PPf
  clear PPf
  have PM_w11b:=PMf
  clear PMf
  have MW_w11b:=MWf
  clear MWf
  have OV_w11b:=OVf
  clear OVf
  have OX_w11b:=OXf
  clear OXf
  have MX_w11b:=MXf
  clear MXf
  have h5t_w11b:=h5tf
  clear h5tf
  have SH_w11b:=SHf
  clear SHf
  have MP_w11b:=MPf
  clear MPf
  have OM__w11b:=OM_f
  clear OM_f
  have hms_w11b:=hmsf
  clear hmsf
  have MM_w11b:=MMf
  clear MMf
  have OG_w11b:=OGf
  clear OGf
  have MG_w11b:=MGf
  clear MGf
  obtain ⟨kq0,kq1,kq2,kq3,kq4,kq5,kq6,kq7,kq8,kq9,kq10,kq11⟩:=cf12 MX_w11b.out
  go_wp2_with fail
  refine (markBossO_any d h4 _ _ OX_w11b.out hs).mono ?_
  rintro e' w12 ⟨rfl,-,hg12⟩
  clear kq0 kq1 kq2 kq3 kq4 kq5 kq6 kq7 kq8 kq9 kq10 kq11
  clear OX_w11b MX_w11b h5t_w11b hms_w11b
  have hrm:=hid (show ∀ q,(Value.slice (some ⟨gm,0,none⟩) mn mn).ownBlock = some q → q = gm from fun q hq=>by injection hq with hq;exact hq.symm)
  have PW_w12:=hid (PW_w11b.out.block (hg12.block _ PW_w11b.out.lt (fun r hr e=>by have h5:=hlo4.out r hr _ e;have:=hxl.out;have:=hpl.out;have:=hpb'.out;have:=hzc'.out;have:=zw4.out;have:=qW4.out;have:=zW4.out;have:=hg5.out;have:=hg5'.out;have:=zw5.out;have:=qW5.out;have:=zW5.out;have:=hgm.out;have:=hgm'.out;have:=zw5b.out;have:=qW5b.out;have:=zW5b.out;have:=zw6.out;have:=qW6.out;have:=zW6.out;have:=zw7.out;have:=zw8.out;have:=zw9.out;have:=zw10.out;have:=zw11.out;have:=zw11a.out;have:=zw11b.out;omega)))
  clear PW_w11b
  have PP_w12:=hid (PP_w11b.out.block (hg12.block _ PP_w11b.out.lt (fun r hr e=>by have h5:=hlo4.out r hr _ e;have:=hxl.out;have:=hpl.out;have:=hpb'.out;have:=hzc'.out;have:=zw4.out;have:=qW4.out;have:=zW4.out;have:=hg5.out;have:=hg5'.out;have:=zw5.out;have:=qW5.out;have:=zW5.out;have:=hgm.out;have:=hgm'.out;have:=zw5b.out;have:=qW5b.out;have:=zW5b.out;have:=zw6.out;have:=qW6.out;have:=zW6.out;have:=zw7.out;have:=zw8.out;have:=zw9.out;have:=zw10.out;have:=zw11.out;have:=zw11a.out;have:=zw11b.out;omega)))
  clear PP_w11b
  have PM_w12:=hid (PM_w11b.out.block (hg12.block _ PM_w11b.out.lt (fun r hr e=>by have h5:=hlo4.out r hr _ e;have:=hxl.out;have:=hpl.out;have:=hpb'.out;have:=hzc'.out;have:=zw4.out;have:=qW4.out;have:=zW4.out;have:=hg5.out;have:=hg5'.out;have:=zw5.out;have:=qW5.out;have:=zW5.out;have:=hgm.out;have:=hgm'.out;have:=zw5b.out;have:=qW5b.out;have:=zW5b.out;have:=zw6.out;have:=qW6.out;have:=zW6.out;have:=zw7.out;have:=zw8.out;have:=zw9.out;have:=zw10.out;have:=zw11.out;have:=zw11a.out;have:=zw11b.out;omega)))
  clear PM_w11b
  have MW_w12:=hid (MW_w11b.out.block (hg12.block _ MW_w11b.out.lt (fun r hr e=>by have h5:=hlo4.out r hr _ e;have:=hxl.out;have:=hpl.out;have:=hpb'.out;have:=hzc'.out;have:=zw4.out;have:=qW4.out;have:=zW4.out;have:=hg5.out;have:=hg5'.out;have:=zw5.out;have:=qW5.out;have:=zW5.out;have:=hgm.out;have:=hgm'.out;have:=zw5b.out;have:=qW5b.out;have:=zW5b.out;have:=zw6.out;have:=qW6.out;have:=zW6.out;have:=zw7.out;have:=zw8.out;have:=zw9.out;have:=zw10.out;have:=zw11.out;have:=zw11a.out;have:=zw11b.out;omega)))
  clear MW_w11b
  have OV_w12:=hid (OV_w11b.out.grew hg12 (fun r hr q hq r' hr' e=>by have h5:=hlo4.out r hr q hq;have h6:=hhV.out r' hr' q e;have:=hxl.out;have:=hpl.out;have:=hpb'.out;have:=hzc'.out;have:=zw4.out;have:=qW4.out;have:=zW4.out;have:=hg5.out;have:=hg5'.out;have:=zw5.out;have:=qW5.out;have:=zW5.out;have:=hgm.out;have:=hgm'.out;have:=zw5b.out;have:=qW5b.out;have:=zW5b.out;have:=zw6.out;have:=qW6.out;have:=zW6.out;have:=zw7.out;have:=zw8.out;have:=zw9.out;have:=zw10.out;have:=zw11.out;have:=zw11a.out;have:=zw11b.out;omega))
  clear OV_w11b
  have SH_w12:=hid (SH_w11b.out.blocks hg5'.out (fun q h1 h2=>hg12.block q (by have:=hxl.out;have:=hpl.out;have:=hpb'.out;have:=hzc'.out;have:=zw4.out;have:=qW4.out;have:=zW4.out;have:=hg5.out;have:=hg5'.out;have:=zw5.out;have:=qW5.out;have:=zW5.out;have:=hgm.out;have:=hgm'.out;have:=zw5b.out;have:=qW5b.out;have:=zW5b.out;have:=zw6.out;have:=qW6.out;have:=zW6.out;have:=zw7.out;have:=zw8.out;have:=zw9.out;have:=zw10.out;have:=zw11.out;have:=zw11a.out;have:=zw11b.out;omega) (fun r hr e=>by have h5:=hlo4.out r hr q e;have:=hxl.out;have:=hpl.out;have:=hpb'.out;have:=hzc'.out;have:=zw4.out;have:=qW4.out;have:=zW4.out;have:=hg5.out;have:=hg5'.out;have:=zw5.out;have:=qW5.out;have:=zW5.out;have:=hgm.out;have:=hgm'.out;have:=zw5b.out;have:=qW5b.out;have:=zW5b.out;have:=zw6.out;have:=qW6.out;have:=zW6.out;have:=zw7.out;have:=zw8.out;have:=zw9.out;have:=zw10.out;have:=zw11.out;have:=zw11a.out;have:=zw11b.out;omega)))
  clear SH_w11b
  have MP_w12:=hid (MP_w11b.out.block (hg12.block _ MP_w11b.out.lt (fun r hr e=>by have h5:=hlo4.out r hr _ e;have:=hxl.out;have:=hpl.out;have:=hpb'.out;have:=hzc'.out;have:=zw4.out;have:=qW4.out;have:=zW4.out;have:=hg5.out;have:=hg5'.out;have:=zw5.out;have:=qW5.out;have:=zW5.out;have:=hgm.out;have:=hgm'.out;have:=zw5b.out;have:=qW5b.out;have:=zW5b.out;have:=zw6.out;have:=qW6.out;have:=zW6.out;have:=zw7.out;have:=zw8.out;have:=zw9.out;have:=zw10.out;have:=zw11.out;have:=zw11a.out;have:=zw11b.out;omega)))
  clear MP_w11b
  have OM__w12:=hid (OM__w11b.out.blkP (fun q hq=>hg12.block q (OM__w11b.out.row_hi q hq) (fun r hr e=>by have h5:=hlo4.out r hr q e;have h6:=hrm.out q hq;have:=hxl.out;have:=hpl.out;have:=hpb'.out;have:=hzc'.out;have:=zw4.out;have:=qW4.out;have:=zW4.out;have:=hg5.out;have:=hg5'.out;have:=zw5.out;have:=qW5.out;have:=zW5.out;have:=hgm.out;have:=hgm'.out;have:=zw5b.out;have:=qW5b.out;have:=zW5b.out;have:=zw6.out;have:=qW6.out;have:=zW6.out;have:=zw7.out;have:=zw8.out;have:=zw9.out;have:=zw10.out;have:=zw11.out;have:=zw11a.out;have:=zw11b.out;omega)))
  clear OM__w11b
  have MM_w12:=hid (MM_w11b.out.block (hg12.block _ MM_w11b.out.lt (fun r hr e=>by have h5:=hlo4.out r hr _ e;have:=hxl.out;have:=hpl.out;have:=hpb'.out;have:=hzc'.out;have:=zw4.out;have:=qW4.out;have:=zW4.out;have:=hg5.out;have:=hg5'.out;have:=zw5.out;have:=qW5.out;have:=zW5.out;have:=hgm.out;have:=hgm'.out;have:=zw5b.out;have:=qW5b.out;have:=zW5b.out;have:=zw6.out;have:=qW6.out;have:=zW6.out;have:=zw7.out;have:=zw8.out;have:=zw9.out;have:=zw10.out;have:=zw11.out;have:=zw11a.out;have:=zw11b.out;omega)))
  clear MM_w11b
  have OG_w12:=hid (OG_w11b.out.grew hg12 (fun r hr q hq r' hr' e=>by have h5:=hlo4.out r hr q hq;have h6:=hlo6.out r' hr' q e;have:=hxl.out;have:=hpl.out;have:=hpb'.out;have:=hzc'.out;have:=zw4.out;have:=qW4.out;have:=zW4.out;have:=hg5.out;have:=hg5'.out;have:=zw5.out;have:=qW5.out;have:=zW5.out;have:=hgm.out;have:=hgm'.out;have:=zw5b.out;have:=qW5b.out;have:=zW5b.out;have:=zw6.out;have:=qW6.out;have:=zW6.out;have:=zw7.out;have:=zw8.out;have:=zw9.out;have:=zw10.out;have:=zw11.out;have:=zw11a.out;have:=zw11b.out;omega))
  clear OG_w11b
  have MG_w12:=hid (MG_w11b.out.block (hg12.block _ MG_w11b.out.lt (fun r hr e=>by have h5:=hlo4.out r hr _ e;have:=hxl.out;have:=hpl.out;have:=hpb'.out;have:=hzc'.out;have:=zw4.out;have:=qW4.out;have:=zW4.out;have:=hg5.out;have:=hg5'.out;have:=zw5.out;have:=qW5.out;have:=zW5.out;have:=hgm.out;have:=hgm'.out;have:=zw5b.out;have:=qW5b.out;have:=zW5b.out;have:=zw6.out;have:=qW6.out;have:=zW6.out;have:=zw7.out;have:=zw8.out;have:=zw9.out;have:=zw10.out;have:=zw11.out;have:=zw11a.out;have:=zw11b.out;omega)))
  clear MG_w11b
  have hBw12:=Grew.below hBw11b hg12 hBw11b.size (fun r hr q hq=>by have h5:=hlo4.out r hr q hq;have:=hxl.out;have:=hpl.out;have:=hpb'.out;have:=hzc'.out;have:=zw4.out;have:=qW4.out;have:=zW4.out;have:=hg5.out;have:=hg5'.out;have:=zw5.out;have:=qW5.out;have:=zW5.out;have:=hgm.out;have:=hgm'.out;have:=zw5b.out;have:=qW5b.out;have:=zW5b.out;have:=zw6.out;have:=qW6.out;have:=zW6.out;have:=zw7.out;have:=zw8.out;have:=zw9.out;have:=zw10.out;have:=zw11.out;have:=zw11a.out;have:=zw11b.out;have:=hBwoS.out;omega)
  have zw12:=hid hg12.size
  clear hg12 hBw11b
  have c0 : w12.cell? ⟨w5.heap.size,0,none⟩ = some (.slice (some ⟨g5,0,none⟩) pn pn):=(MP_w12.out 0 (by simp)).1
  have hk12 : totB d ≤ 4194304:=by have:=hs;unfold BD.small at this;unfold totB;omega
  have hk13 : 0 < totB d:=by unfold totB;omega
  go_wp2_with fail
  refine (markPlan_any g5 w5.heap.size pn pn (totB d) _ hk13 hk12 (by omega) hg5'.out SH_w12.out).mono ?_
  rintro e' w13 ⟨⟨rk,rfl,hrk⟩,hM13⟩
  clear hk12 hk13
  clear c0
  clear SH_w12 MP_w12
  have PW_w13:=hid (PW_w12.out.midS hM13 (by have:=hxl.out;have:=hpl.out;have:=hpb'.out;have:=hzc'.out;have:=zw4.out;have:=qW4.out;have:=zW4.out;have:=hg5.out;have:=hg5'.out;have:=zw5.out;have:=qW5.out;have:=zW5.out;have:=hgm.out;have:=hgm'.out;have:=zw5b.out;have:=qW5b.out;have:=zW5b.out;have:=zw6.out;have:=qW6.out;have:=zW6.out;have:=zw7.out;have:=zw8.out;have:=zw9.out;have:=zw10.out;have:=zw11.out;have:=zw11a.out;have:=zw11b.out;have:=zw12.out;omega))
  clear PW_w12
  have PP_w13:=hid (PP_w12.out.midS hM13 (by have:=hxl.out;have:=hpl.out;have:=hpb'.out;have:=hzc'.out;have:=zw4.out;have:=qW4.out;have:=zW4.out;have:=hg5.out;have:=hg5'.out;have:=zw5.out;have:=qW5.out;have:=zW5.out;have:=hgm.out;have:=hgm'.out;have:=zw5b.out;have:=qW5b.out;have:=zW5b.out;have:=zw6.out;have:=qW6.out;have:=zW6.out;have:=zw7.out;have:=zw8.out;have:=zw9.out;have:=zw10.out;have:=zw11.out;have:=zw11a.out;have:=zw11b.out;have:=zw12.out;omega))
  clear PP_w12
  have PM_w13:=hid (PM_w12.out.midS hM13 (by have:=hxl.out;have:=hpl.out;have:=hpb'.out;have:=hzc'.out;have:=zw4.out;have:=qW4.out;have:=zW4.out;have:=hg5.out;have:=hg5'.out;have:=zw5.out;have:=qW5.out;have:=zW5.out;have:=hgm.out;have:=hgm'.out;have:=zw5b.out;have:=qW5b.out;have:=zW5b.out;have:=zw6.out;have:=qW6.out;have:=zW6.out;have:=zw7.out;have:=zw8.out;have:=zw9.out;have:=zw10.out;have:=zw11.out;have:=zw11a.out;have:=zw11b.out;have:=zw12.out;omega))
  clear PM_w12
  have MW_w13:=hid (MW_w12.out.midS hM13 (by have:=hxl.out;have:=hpl.out;have:=hpb'.out;have:=hzc'.out;have:=zw4.out;have:=qW4.out;have:=zW4.out;have:=hg5.out;have:=hg5'.out;have:=zw5.out;have:=qW5.out;have:=zW5.out;have:=hgm.out;have:=hgm'.out;have:=zw5b.out;have:=qW5b.out;have:=zW5b.out;have:=zw6.out;have:=qW6.out;have:=zW6.out;have:=zw7.out;have:=zw8.out;have:=zw9.out;have:=zw10.out;have:=zw11.out;have:=zw11a.out;have:=zw11b.out;have:=zw12.out;omega))
  clear MW_w12
  have OV_w13:=hid (OV_w12.out.blk (fun r hr q hq=>hM13.block q (OV_w12.out.lo r hr q hq).2 (by have h6:=hhV.out r hr q hq;have:=hxl.out;have:=hpl.out;have:=hpb'.out;have:=hzc'.out;have:=zw4.out;have:=qW4.out;have:=zW4.out;have:=hg5.out;have:=hg5'.out;have:=zw5.out;have:=qW5.out;have:=zW5.out;have:=hgm.out;have:=hgm'.out;have:=zw5b.out;have:=qW5b.out;have:=zW5b.out;have:=zw6.out;have:=qW6.out;have:=zW6.out;have:=zw7.out;have:=zw8.out;have:=zw9.out;have:=zw10.out;have:=zw11.out;have:=zw11a.out;have:=zw11b.out;have:=zw12.out;omega)))
  clear OV_w12
  have OM__w13:=hid (OM__w12.out.midR hM13 (fun q hq=>by have:=hrm.out _ hq;have:=hxl.out;have:=hpl.out;have:=hpb'.out;have:=hzc'.out;have:=zw4.out;have:=qW4.out;have:=zW4.out;have:=hg5.out;have:=hg5'.out;have:=zw5.out;have:=qW5.out;have:=zW5.out;have:=hgm.out;have:=hgm'.out;have:=zw5b.out;have:=qW5b.out;have:=zW5b.out;have:=zw6.out;have:=qW6.out;have:=zW6.out;have:=zw7.out;have:=zw8.out;have:=zw9.out;have:=zw10.out;have:=zw11.out;have:=zw11a.out;have:=zw11b.out;have:=zw12.out;omega))
  clear OM__w12
  have MM_w13:=hid (MM_w12.out.midS hM13 (by have:=hxl.out;have:=hpl.out;have:=hpb'.out;have:=hzc'.out;have:=zw4.out;have:=qW4.out;have:=zW4.out;have:=hg5.out;have:=hg5'.out;have:=zw5.out;have:=qW5.out;have:=zW5.out;have:=hgm.out;have:=hgm'.out;have:=zw5b.out;have:=qW5b.out;have:=zW5b.out;have:=zw6.out;have:=qW6.out;have:=zW6.out;have:=zw7.out;have:=zw8.out;have:=zw9.out;have:=zw10.out;have:=zw11.out;have:=zw11a.out;have:=zw11b.out;have:=zw12.out;omega))
  clear MM_w12
  have OG_w13:=hid (OG_w12.out.blk (fun r hr q hq=>hM13.block q (OG_w12.out.lo r hr q hq).2 (by have h6:=hlo6.out r hr q hq;have:=hxl.out;have:=hpl.out;have:=hpb'.out;have:=hzc'.out;have:=zw4.out;have:=qW4.out;have:=zW4.out;have:=hg5.out;have:=hg5'.out;have:=zw5.out;have:=qW5.out;have:=zW5.out;have:=hgm.out;have:=hgm'.out;have:=zw5b.out;have:=qW5b.out;have:=zW5b.out;have:=zw6.out;have:=qW6.out;have:=zW6.out;have:=zw7.out;have:=zw8.out;have:=zw9.out;have:=zw10.out;have:=zw11.out;have:=zw11a.out;have:=zw11b.out;have:=zw12.out;omega)))
  clear OG_w12
  have MG_w13:=hid (MG_w12.out.midS hM13 (by have:=hxl.out;have:=hpl.out;have:=hpb'.out;have:=hzc'.out;have:=zw4.out;have:=qW4.out;have:=zW4.out;have:=hg5.out;have:=hg5'.out;have:=zw5.out;have:=qW5.out;have:=zW5.out;have:=hgm.out;have:=hgm'.out;have:=zw5b.out;have:=qW5b.out;have:=zW5b.out;have:=zw6.out;have:=qW6.out;have:=zW6.out;have:=zw7.out;have:=zw8.out;have:=zw9.out;have:=zw10.out;have:=zw11.out;have:=zw11a.out;have:=zw11b.out;have:=zw12.out;omega))
  clear MG_w12
  have zw13:=hid hM13.size
  have hBw13:=Mid.below hBw12 hM13 (by have:=hxl.out;have:=hpl.out;have:=hpb'.out;have:=hzc'.out;have:=zw4.out;have:=qW4.out;have:=zW4.out;have:=hg5.out;have:=hg5'.out;have:=zw5.out;have:=qW5.out;have:=zW5.out;have:=hgm.out;have:=hgm'.out;have:=zw5b.out;have:=qW5b.out;have:=zW5b.out;have:=zw6.out;have:=qW6.out;have:=zW6.out;have:=zw7.out;have:=zw8.out;have:=zw9.out;have:=zw10.out;have:=zw11.out;have:=zw11a.out;have:=zw11b.out;have:=zw12.out;have:=hBwoS.out;omega) hBw12.size
  clear hM13 hBw12
  obtain ⟨c0,c1,c2,c3,c4,c5,c6,c7⟩:=cf8 MM_w13.out
  obtain ⟨km,hkm⟩ : ∃ km : Nat,rk = (km : Int):=⟨rk.toNat,by omega⟩
  have hkm0 : 0 < km:=by omega
  have hkm1 : km ≤ 2199023255552:=by omega
  subst hkm
  clear hrk
  go_wp2_with fail
  refine (markMessageK_own kd fm tw em le ta xm _ mn mn km _ _ _ hkm0 hkm1 hmn OM__w13.out).mono ?_
  rintro e' w13b ⟨⟨rk,rfl,hrk⟩,hgm13⟩
  clear c0 c1 c2 c3 c4 c5 c6 c7
  clear OM__w13 MM_w13 hkm0 hkm1
  have hrow : (Value.slice (some ⟨gm,0,none⟩) mn mn).ownBlock = some gm:=rfl
  rw [hrow] at hgm13
  clear hrow
  have PW_w13b:=hid (PW_w13.out.grownS hgm13 (by simp only [ne_eq,Option.some.injEq];have:=hxl.out;have:=hpl.out;have:=hpb'.out;have:=hzc'.out;have:=zw4.out;have:=qW4.out;have:=zW4.out;have:=hg5.out;have:=hg5'.out;have:=zw5.out;have:=qW5.out;have:=zW5.out;have:=hgm.out;have:=hgm'.out;have:=zw5b.out;have:=qW5b.out;have:=zW5b.out;have:=zw6.out;have:=qW6.out;have:=zW6.out;have:=zw7.out;have:=zw8.out;have:=zw9.out;have:=zw10.out;have:=zw11.out;have:=zw11a.out;have:=zw11b.out;have:=zw12.out;have:=zw13.out;omega))
  clear PW_w13
  have PP_w13b:=hid (PP_w13.out.grownS hgm13 (by simp only [ne_eq,Option.some.injEq];have:=hxl.out;have:=hpl.out;have:=hpb'.out;have:=hzc'.out;have:=zw4.out;have:=qW4.out;have:=zW4.out;have:=hg5.out;have:=hg5'.out;have:=zw5.out;have:=qW5.out;have:=zW5.out;have:=hgm.out;have:=hgm'.out;have:=zw5b.out;have:=qW5b.out;have:=zW5b.out;have:=zw6.out;have:=qW6.out;have:=zW6.out;have:=zw7.out;have:=zw8.out;have:=zw9.out;have:=zw10.out;have:=zw11.out;have:=zw11a.out;have:=zw11b.out;have:=zw12.out;have:=zw13.out;omega))
  clear PP_w13
  have PM_w13b:=hid (PM_w13.out.grownS hgm13 (by simp only [ne_eq,Option.some.injEq];have:=hxl.out;have:=hpl.out;have:=hpb'.out;have:=hzc'.out;have:=zw4.out;have:=qW4.out;have:=zW4.out;have:=hg5.out;have:=hg5'.out;have:=zw5.out;have:=qW5.out;have:=zW5.out;have:=hgm.out;have:=hgm'.out;have:=zw5b.out;have:=qW5b.out;have:=zW5b.out;have:=zw6.out;have:=qW6.out;have:=zW6.out;have:=zw7.out;have:=zw8.out;have:=zw9.out;have:=zw10.out;have:=zw11.out;have:=zw11a.out;have:=zw11b.out;have:=zw12.out;have:=zw13.out;omega))
  clear PM_w13
  have MW_w13b:=hid (MW_w13.out.grownS hgm13 (by simp only [ne_eq,Option.some.injEq];have:=hxl.out;have:=hpl.out;have:=hpb'.out;have:=hzc'.out;have:=zw4.out;have:=qW4.out;have:=zW4.out;have:=hg5.out;have:=hg5'.out;have:=zw5.out;have:=qW5.out;have:=zW5.out;have:=hgm.out;have:=hgm'.out;have:=zw5b.out;have:=qW5b.out;have:=zW5b.out;have:=zw6.out;have:=qW6.out;have:=zW6.out;have:=zw7.out;have:=zw8.out;have:=zw9.out;have:=zw10.out;have:=zw11.out;have:=zw11a.out;have:=zw11b.out;have:=zw12.out;have:=zw13.out;omega))
  clear MW_w13
  have OV_w13b:=hid (OV_w13.out.blk (fun r hr q hq=>hgm13.block q (OV_w13.out.lo r hr q hq).2 (by have h6:=hhV.out r hr q hq;simp only [ne_eq,Option.some.injEq];have:=hxl.out;have:=hpl.out;have:=hpb'.out;have:=hzc'.out;have:=zw4.out;have:=qW4.out;have:=zW4.out;have:=hg5.out;have:=hg5'.out;have:=zw5.out;have:=qW5.out;have:=zW5.out;have:=hgm.out;have:=hgm'.out;have:=zw5b.out;have:=qW5b.out;have:=zW5b.out;have:=zw6.out;have:=qW6.out;have:=zW6.out;have:=zw7.out;have:=zw8.out;have:=zw9.out;have:=zw10.out;have:=zw11.out;have:=zw11a.out;have:=zw11b.out;have:=zw12.out;have:=zw13.out;omega)))
  clear OV_w13
  have OG_w13b:=hid (OG_w13.out.blk (fun r hr q hq=>hgm13.block q (OG_w13.out.lo r hr q hq).2 (by have h6:=hlo6.out r hr q hq;simp only [ne_eq,Option.some.injEq];have:=hxl.out;have:=hpl.out;have:=hpb'.out;have:=hzc'.out;have:=zw4.out;have:=qW4.out;have:=zW4.out;have:=hg5.out;have:=hg5'.out;have:=zw5.out;have:=qW5.out;have:=zW5.out;have:=hgm.out;have:=hgm'.out;have:=zw5b.out;have:=qW5b.out;have:=zW5b.out;have:=zw6.out;have:=qW6.out;have:=zW6.out;have:=zw7.out;have:=zw8.out;have:=zw9.out;have:=zw10.out;have:=zw11.out;have:=zw11a.out;have:=zw11b.out;have:=zw12.out;have:=zw13.out;omega)))
  clear OG_w13
  have MG_w13b:=hid (MG_w13.out.grownS hgm13 (by simp only [ne_eq,Option.some.injEq];have:=hxl.out;have:=hpl.out;have:=hpb'.out;have:=hzc'.out;have:=zw4.out;have:=qW4.out;have:=zW4.out;have:=hg5.out;have:=hg5'.out;have:=zw5.out;have:=qW5.out;have:=zW5.out;have:=hgm.out;have:=hgm'.out;have:=zw5b.out;have:=qW5b.out;have:=zW5b.out;have:=zw6.out;have:=qW6.out;have:=zW6.out;have:=zw7.out;have:=zw8.out;have:=zw9.out;have:=zw10.out;have:=zw11.out;have:=zw11a.out;have:=zw11b.out;have:=zw12.out;have:=zw13.out;omega))
  clear MG_w13
  have zw13b:=hid hgm13.size
  have hBw13b:=hBw13.grown hgm13 hBw13.size (fun q hq=>by simp only [Option.some.injEq] at hq;have:=hxl.out;have:=hpl.out;have:=hpb'.out;have:=hzc'.out;have:=zw4.out;have:=qW4.out;have:=zW4.out;have:=hg5.out;have:=hg5'.out;have:=zw5.out;have:=qW5.out;have:=zW5.out;have:=hgm.out;have:=hgm'.out;have:=zw5b.out;have:=qW5b.out;have:=zW5b.out;have:=zw6.out;have:=qW6.out;have:=zW6.out;have:=zw7.out;have:=zw8.out;have:=zw9.out;have:=zw10.out;have:=zw11.out;have:=zw11a.out;have:=zw11b.out;have:=zw12.out;have:=zw13.out;have:=hBwoS.out;omega)
  clear hgm13 hBw13
  have hrk' : ¬ rk < 0:=by omega
  clear hrk
  obtain ⟨c0,c1,c2,c3,c4,c5,c6,c7,c8,c9,c10,c11,c12⟩:=cf13 MG_w13b.out
  obtain ⟨kq0,kq1,kq2,kq3,kq4,kq5,kq6,kq7,kq8,kq9,kq10,kq11,kq12⟩:=cf13 MW_w13b.out
  go_wp2_with fail
  refine (eqLedO_any d1 M1 h6 h1 x6 x1 y6 y1 q6 q1 _ _ _ OG_w13b.out OV_w13b.out hg1.out).mono ?_
  rintro e' w14 ⟨rfl,hb⟩
  clear c0 c1 c2 c3 c4 c5 c6 c7 c8 c9 c10 c11 c12
  clear kq0 kq1 kq2 kq3 kq4 kq5 kq6 kq7 kq8 kq9 kq10 kq11 kq12
  have hBw14:=hBw13b.trans (hb.mono hBw13b.size)
  have zw14:=hid (hb.size)
  have PW_w14:=hid (PW_w13b.out.belowS hb)
  clear PW_w13b
  have PP_w14:=hid (PP_w13b.out.belowS hb)
  clear PP_w13b
  have PM_w14:=hid (PM_w13b.out.belowS hb)
  clear PM_w13b
  have MW_w14:=hid (MW_w13b.out.belowS hb)
  clear MW_w13b
  have OV_w14:=hid (OV_w13b.out.below hb)
  clear OV_w13b
  have OG_w14:=hid (OG_w13b.out.below hb)
  clear OG_w13b
  have MG_w14:=hid (MG_w13b.out.belowS hb)
  clear MG_w13b
  clear hb hBw13b
  obtain ⟨c0,c1,c2,c3,c4,c5,c6,c7,c8,c9,c10,c11,c12⟩:=cf13 MG_w14.out
  go_wp2_with fail
  clear hrk'
  refine (markLedO_any d1 M1 h6 x6 y6 q6 _ _ OG_w14.out hg1.out).mono ?_
  rintro e' w15 ⟨rfl,ho15,hg15⟩
  clear c0 c1 c2 c3 c4 c5 c6 c7 c8 c9 c10 c11 c12
  clear OG_w14
  have PW_w15:=hid (PW_w14.out.block (hg15.block _ PW_w14.out.lt (fun r hr e=>by have h5:=hlo6.out r hr _ e;have:=hxl.out;have:=hpl.out;have:=hpb'.out;have:=hzc'.out;have:=zw4.out;have:=qW4.out;have:=zW4.out;have:=hg5.out;have:=hg5'.out;have:=zw5.out;have:=qW5.out;have:=zW5.out;have:=hgm.out;have:=hgm'.out;have:=zw5b.out;have:=qW5b.out;have:=zW5b.out;have:=zw6.out;have:=qW6.out;have:=zW6.out;have:=zw7.out;have:=zw8.out;have:=zw9.out;have:=zw10.out;have:=zw11.out;have:=zw11a.out;have:=zw11b.out;have:=zw12.out;have:=zw13.out;have:=zw13b.out;have:=zw14.out;omega)))
  clear PW_w14
  have PP_w15:=hid (PP_w14.out.block (hg15.block _ PP_w14.out.lt (fun r hr e=>by have h5:=hlo6.out r hr _ e;have:=hxl.out;have:=hpl.out;have:=hpb'.out;have:=hzc'.out;have:=zw4.out;have:=qW4.out;have:=zW4.out;have:=hg5.out;have:=hg5'.out;have:=zw5.out;have:=qW5.out;have:=zW5.out;have:=hgm.out;have:=hgm'.out;have:=zw5b.out;have:=qW5b.out;have:=zW5b.out;have:=zw6.out;have:=qW6.out;have:=zW6.out;have:=zw7.out;have:=zw8.out;have:=zw9.out;have:=zw10.out;have:=zw11.out;have:=zw11a.out;have:=zw11b.out;have:=zw12.out;have:=zw13.out;have:=zw13b.out;have:=zw14.out;omega)))
  clear PP_w14
  have PM_w15:=hid (PM_w14.out.block (hg15.block _ PM_w14.out.lt (fun r hr e=>by have h5:=hlo6.out r hr _ e;have:=hxl.out;have:=hpl.out;have:=hpb'.out;have:=hzc'.out;have:=zw4.out;have:=qW4.out;have:=zW4.out;have:=hg5.out;have:=hg5'.out;have:=zw5.out;have:=qW5.out;have:=zW5.out;have:=hgm.out;have:=hgm'.out;have:=zw5b.out;have:=qW5b.out;have:=zW5b.out;have:=zw6.out;have:=qW6.out;have:=zW6.out;have:=zw7.out;have:=zw8.out;have:=zw9.out;have:=zw10.out;have:=zw11.out;have:=zw11a.out;have:=zw11b.out;have:=zw12.out;have:=zw13.out;have:=zw13b.out;have:=zw14.out;omega)))
  clear PM_w14
  have MW_w15:=hid (MW_w14.out.block (hg15.block _ MW_w14.out.lt (fun r hr e=>by have h5:=hlo6.out r hr _ e;have:=hxl.out;have:=hpl.out;have:=hpb'.out;have:=hzc'.out;have:=zw4.out;have:=qW4.out;have:=zW4.out;have:=hg5.out;have:=hg5'.out;have:=zw5.out;have:=qW5.out;have:=zW5.out;have:=hgm.out;have:=hgm'.out;have:=zw5b.out;have:=qW5b.out;have:=zW5b.out;have:=zw6.out;have:=qW6.out;have:=zW6.out;have:=zw7.out;have:=zw8.out;have:=zw9.out;have:=zw10.out;have:=zw11.out;have:=zw11a.out;have:=zw11b.out;have:=zw12.out;have:=zw13.out;have:=zw13b.out;have:=zw14.out;omega)))
  clear MW_w14
  have OV_w15:=hid (OV_w14.out.grew hg15 (fun r hr q hq r' hr' e=>by have h5:=hlo6.out r hr q hq;have h6:=hhV.out r' hr' q e;have:=hxl.out;have:=hpl.out;have:=hpb'.out;have:=hzc'.out;have:=zw4.out;have:=qW4.out;have:=zW4.out;have:=hg5.out;have:=hg5'.out;have:=zw5.out;have:=qW5.out;have:=zW5.out;have:=hgm.out;have:=hgm'.out;have:=zw5b.out;have:=qW5b.out;have:=zW5b.out;have:=zw6.out;have:=qW6.out;have:=zW6.out;have:=zw7.out;have:=zw8.out;have:=zw9.out;have:=zw10.out;have:=zw11.out;have:=zw11a.out;have:=zw11b.out;have:=zw12.out;have:=zw13.out;have:=zw13b.out;have:=zw14.out;omega))
  clear OV_w14
  have MG_w15:=hid (MG_w14.out.block (hg15.block _ MG_w14.out.lt (fun r hr e=>by have h5:=hlo6.out r hr _ e;have:=hxl.out;have:=hpl.out;have:=hpb'.out;have:=hzc'.out;have:=zw4.out;have:=qW4.out;have:=zW4.out;have:=hg5.out;have:=hg5'.out;have:=zw5.out;have:=qW5.out;have:=zW5.out;have:=hgm.out;have:=hgm'.out;have:=zw5b.out;have:=qW5b.out;have:=zW5b.out;have:=zw6.out;have:=qW6.out;have:=zW6.out;have:=zw7.out;have:=zw8.out;have:=zw9.out;have:=zw10.out;have:=zw11.out;have:=zw11a.out;have:=zw11b.out;have:=zw12.out;have:=zw13.out;have:=zw13b.out;have:=zw14.out;omega)))
  clear MG_w14
  have hBw15:=Grew.below hBw14 hg15 hBw14.size (fun r hr q hq=>by have h5:=hlo6.out r hr q hq;have:=hxl.out;have:=hpl.out;have:=hpb'.out;have:=hzc'.out;have:=zw4.out;have:=qW4.out;have:=zW4.out;have:=hg5.out;have:=hg5'.out;have:=zw5.out;have:=qW5.out;have:=zW5.out;have:=hgm.out;have:=hgm'.out;have:=zw5b.out;have:=qW5b.out;have:=zW5b.out;have:=zw6.out;have:=qW6.out;have:=zW6.out;have:=zw7.out;have:=zw8.out;have:=zw9.out;have:=zw10.out;have:=zw11.out;have:=zw11a.out;have:=zw11b.out;have:=zw12.out;have:=zw13.out;have:=zw13b.out;have:=zw14.out;have:=hBwoS.out;omega)
  have zw15:=hid hg15.size
  clear hg15 hBw14
  have MK:=hid ho15
  clear ho15
  have hpk : ¬ ((totL d1 M1 : Nat) : Int) < 0:=by omega
  obtain ⟨c0,c1,c2,c3,c4,c5,c6,c7,c8,c9,c10,c11,c12⟩:=cf13 MG_w15.out
  go_wp2_with fail
  refine (heldLedO_any d1 M1 h6 x6 y6 q6 _ _ MK.out hg1.out).mono ?_
  rintro e' w16 ⟨rfl,hb⟩
  clear c0 c1 c2 c3 c4 c5 c6 c7 c8 c9 c10 c11 c12
  have hBw16:=hBw15.trans (hb.mono hBw15.size)
  have zw16:=hid (hb.size)
  have PW_w16:=hid (PW_w15.out.belowS hb)
  clear PW_w15
  have PP_w16:=hid (PP_w15.out.belowS hb)
  clear PP_w15
  have PM_w16:=hid (PM_w15.out.belowS hb)
  clear PM_w15
  have MW_w16:=hid (MW_w15.out.belowS hb)
  clear MW_w15
  have OV_w16:=hid (OV_w15.out.below hb)
  clear OV_w15
  have MG_w16:=hid (MG_w15.out.belowS hb)
  clear MG_w15
  have MK_w16:=hid (MK.out.below hb)
  clear MK
  clear hb hBw15
  go_upto_region 38 with fail
  have hPW:=PW_w16.out
  have hPP:=PP_w16.out
  have hPM:=PM_w16.out
  have hlp : w.heap.size + 2 < w16.heap.size:=hPM.lt
  clear PW_w16 PP_w16 PM_w16
  go_cut [16] (fun sv wx=>∃ (p : Nat) (d1 : BD) (h1 : BH) (M1 : List MgD) (x1 : Option Addr) (y1 : Nat) (q1 : List Value),sv = .pointer (some ⟨p,0,none⟩) ∧ CF wx p (lvs d1 h1 M1 x1 y1) ∧ takeBR d ts (⟨kd,fm,tw,em,le,ta,xm,ms⟩ : MgD) (d1,M1) ∧ LedO wx w16.heap.size d1 h1 (.slice x1 M1.length y1) M1 q1 ∧ w16.heap.size ≤ p ∧ CF wx (w.heap.size) [.int .i64 d.wk,.bool d.up,.int .i64 d.now,.int .i64 d.sn,.int .i64 d.ep,.int .i64 d.gv,.slice h.a1 d.L1.length h.c1,.slice h.a2 d.L2.length h.c2,.slice h.ar d.R.length h.cr,.slice h.aj d.J.length h.cj,.slice h.az d.S.length h.cs,.slice h.ao d.O.length h.co] ∧ CF wx (w.heap.size + 1) [.slice pa pn pc] ∧ CF wx (w.heap.size + 2) [.int .i64 kd,.int .i64 fm,.int .i64 tw,.int .i64 em,.int .i64 le,.int .i64 ta,.string xm,.slice ma mn mc] ∧ Below w.heap.size w wx ∧ Below w16.heap.size w16 wx)
  case first =>
   refine wp_region_held (S:=fun w'=>CF w' (w.heap.size) [.int .i64 d.wk,.bool d.up,.int .i64 d.now,.int .i64 d.sn,.int .i64 d.ep,.int .i64 d.gv,.slice h.a1 d.L1.length h.c1,.slice h.a2 d.L2.length h.c2,.slice h.ar d.R.length h.cr,.slice h.aj d.J.length h.cj,.slice h.az d.S.length h.cs,.slice h.ao d.O.length h.co] ∧ CF w' (w.heap.size + 1) [.slice pa pn pc] ∧ CF w' (w.heap.size + 2) [.int .i64 kd,.int .i64 fm,.int .i64 tw,.int .i64 em,.int .i64 le,.int .i64 ta,.string xm,.slice ma mn mc]) (by kernel_rfl) ?_
   change wpAnyH _ _ _ _ _ _ _ _ (World.drew _)
   have hPWu0 : CF w16.drew (w.heap.size) [.int .i64 d.wk,.bool d.up,.int .i64 d.now,.int .i64 d.sn,.int .i64 d.ep,.int .i64 d.gv,.slice h.a1 d.L1.length h.c1,.slice h.a2 d.L2.length h.c2,.slice h.ar d.R.length h.cr,.slice h.aj d.J.length h.cj,.slice h.az d.S.length h.cs,.slice h.ao d.O.length h.co]:=hPW
   have hPPu0 : CF w16.drew (w.heap.size + 1) [.slice pa pn pc]:=hPP
   have hPMu0 : CF w16.drew (w.heap.size + 2) [.int .i64 kd,.int .i64 fm,.int .i64 tw,.int .i64 em,.int .i64 le,.int .i64 ta,.string xm,.slice ma mn mc]:=hPM
   have hBu0:=hBw16.drew
   have hzu0 : w16.heap.size ≤ w16.drew.heap.size:=Nat.le_refl _
   have hDu0 : Below w16.heap.size w16 w16.drew:=(Below.refl _ _).drew
   have hlu0 : w.heap.size + 2 < w16.drew.heap.size:=hlp
   obtain ⟨u0,hu0⟩ : ∃ u0,u0 = w16.drew:=⟨_,rfl⟩
   rw [← hu0] at hPWu0 hPPu0 hPMu0 hBu0 hzu0 hlu0 hDu0
   rw [← hu0]
   clear hu0
   refine hTk (i:=0) (d:=some 96) (v:=.agg #[.int .i64 d.wk,.bool d.up,.int .i64 d.now,.int .i64 d.sn,.int .i64 d.ep,.int .i64 d.gv,.slice h.a1 d.L1.length h.c1,.slice h.a2 d.L2.length h.c2,.slice h.ar d.R.length h.cr,.slice h.aj d.J.length h.cj,.slice h.az d.S.length h.cs,.slice h.ao d.O.length h.co]) (l':=(bt 9 1)) rfl (fun _ hc=>run_ldT 29 _ [.int .i64 d.wk,.bool d.up,.int .i64 d.now,.int .i64 d.sn,.int .i64 d.ep,.int .i64 d.gv,.slice h.a1 d.L1.length h.c1,.slice h.a2 d.L2.length h.c2,.slice h.ar d.R.length h.cr,.slice h.aj d.J.length h.cj,.slice h.az d.S.length h.cs,.slice h.ao d.O.length h.co] (.tmp 3) (by kernel_rfl) (by kernel_rfl) hc.1 Tryz.underlying29 rfl Tryz.sizeLB) ⟨hPWu0,hPPu0,hPMu0⟩ ?_
   refine hTk (i:=2) (d:=some 98) (v:=.agg #[.slice pa pn pc]) (l':=(bt 9 5)) rfl (fun _ hc=>run_ldT 32 _ [.slice pa pn pc] (.tmp 4) (by kernel_rfl) (by kernel_rfl) hc.2.1 Tryz.underlying32 rfl Tryz.sizeLP) ⟨hPWu0,hPPu0,hPMu0⟩ ?_
   refine hTk (i:=4) (d:=some 100) (v:=.agg #[.int .i64 kd,.int .i64 fm,.int .i64 tw,.int .i64 em,.int .i64 le,.int .i64 ta,.string xm,.slice ma mn mc]) (l':=(bt 9 21)) rfl (fun _ hc=>run_ldT 34 _ [.int .i64 kd,.int .i64 fm,.int .i64 tw,.int .i64 em,.int .i64 le,.int .i64 ta,.string xm,.slice ma mn mc] (.tmp 5) (by kernel_rfl) (by kernel_rfl) hc.2.2 Tryz.underlying34 rfl Tryz.sizeLM) ⟨hPWu0,hPPu0,hPMu0⟩ ?_
   refine hTwo (i:=1) (j:=7) (by kernel_rfl) (hCall (i:=1) (d:=some 97) (f:=8) (args:=#[.agg (bvs d h).toArray]) (l':=(bt 9 23)) (R:=fun v w'=>∃ h2 g2,v = .agg (bvs d h2).toArray ∧ BossO w' u0.heap.size d h2 ∧ h2.a2 = some ⟨g2,0,none⟩ ∧ d.L2.length ≤ h2.c2 ∧ Below u0.heap.size u0 w') rfl (by kernel_rfl) (by kernel_rfl) (by kernel_rfl) (run_cl1 _ _ rfl (by kernel_rfl) rfl enter_toB) ((toBossO_any d h _ (hM.below' hBu0) hs).mono fun _ _ ⟨⟨h2,g2,he,ho,ha,hc⟩,hb⟩=>⟨_,he,h2,g2,rfl,ho,ha,hc,hb⟩) ?_) (hVal (i:=7) (d:=some 16) (v:=.pointer (some ⟨u0.heap.size,0,none⟩)) (w':=u0.alloc (.cells #[.int .i64 0,.bool false,.int .i64 0,.int .i64 0,.int .i64 0,.int .i64 0,.slice none 0 0,.slice none 0 0,.slice none 0 0,.slice none 0 0,.slice none 0 0,.slice none 0 0,.slice none 0 0] 46)) (l':=(bt 9 149)) rfl (by kernel_rfl) (by kernel_rfl) (by kernel_rfl) (run_alB (by kernel_rfl)) ⟨hPWu0.block (Below.heap_alloc u0 _ (w.heap.size) (by omega)),hPPu0.block (Below.heap_alloc u0 _ (w.heap.size + 1) (by omega)),hPMu0.block (Below.heap_alloc u0 _ (w.heap.size + 2) (by omega))⟩ ?_)
   ·rintro _ u1 ⟨h2,g2,rfl,ho2,ha2,hc2,hbu1⟩
    have hPWu1:=hPWu0.block (hbu1.block (w.heap.size) (by omega))
    have hPPu1:=hPPu0.block (hbu1.block (w.heap.size + 1) (by omega))
    have hPMu1:=hPMu0.block (hbu1.block (w.heap.size + 2) (by omega))
    have hBu1:=hBu0.trans (hbu1.mono hBu0.size)
    have hzu1 : w16.heap.size ≤ u1.heap.size:=Nat.le_trans hzu0 hbu1.size
    have hlu1 : w.heap.size + 2 < u1.heap.size:=Nat.lt_of_lt_of_le hlu0 hbu1.size
    have hDu1:=hDu0.trans (hbu1.mono hzu0)
    have h2mu1:=ho2.m hfit
    have HA2:=hid ha2
    clear ho2 ha2
    refine ⟨⟨hPWu1,hPPu1,hPMu1⟩,?_⟩
    refine hTwo (i:=3) (j:=7) (by kernel_rfl) (hCall (i:=3) (d:=some 99) (f:=9) (args:=#[.agg #[.slice pa pn pc]]) (l':=(bt 9 31)) (R:=fun v w'=>∃ g,v = .agg #[.slice (some ⟨g,0,none⟩) pn pn] ∧ TasksAt w' (some ⟨g,0,none⟩) g 0 pn ts ∧ Below u1.heap.size u1 w') rfl (by kernel_rfl) (by kernel_rfl) (by kernel_rfl) (run_cl1 _ _ rfl (by kernel_rfl) rfl enter_toP) ((toPlan_any pa pb po pn pc ts _ (hp.below' hBu1) hpn).mono fun _ _ ⟨g,xs,he,_,_,ht,hb⟩=>⟨_,he,g,rfl,ht,hb⟩) ?_) (hVal (i:=7) (d:=some 16) (v:=.pointer (some ⟨u1.heap.size,0,none⟩)) (w':=u1.alloc (.cells #[.int .i64 0,.bool false,.int .i64 0,.int .i64 0,.int .i64 0,.int .i64 0,.slice none 0 0,.slice none 0 0,.slice none 0 0,.slice none 0 0,.slice none 0 0,.slice none 0 0,.slice none 0 0] 46)) (l':=(bt 9 151)) rfl (by kernel_rfl) (by kernel_rfl) (by kernel_rfl) (run_alB (by kernel_rfl)) ⟨hPWu1.block (Below.heap_alloc u1 _ (w.heap.size) (by omega)),hPPu1.block (Below.heap_alloc u1 _ (w.heap.size + 1) (by omega)),hPMu1.block (Below.heap_alloc u1 _ (w.heap.size + 2) (by omega))⟩ ?_)
    ·rintro _ u2 ⟨g3,rfl,ht3,hbu2⟩
     have hPWu2:=hPWu1.block (hbu2.block (w.heap.size) (by omega))
     have hPPu2:=hPPu1.block (hbu2.block (w.heap.size + 1) (by omega))
     have hPMu2:=hPMu1.block (hbu2.block (w.heap.size + 2) (by omega))
     have hBu2:=hBu1.trans (hbu2.mono hBu1.size)
     have hzu2 : w16.heap.size ≤ u2.heap.size:=Nat.le_trans hzu1 hbu2.size
     have hlu2 : w.heap.size + 2 < u2.heap.size:=Nat.lt_of_lt_of_le hlu1 hbu2.size
     have hDu2:=hDu1.trans (hbu2.mono hzu1)
     have h2mu2:=h2mu1.below' hbu2
     have ht3u2:=ht3
     refine ⟨⟨hPWu2,hPPu2,hPMu2⟩,?_⟩
     refine hTwo (i:=5) (j:=7) (by kernel_rfl) (hCall (i:=5) (d:=some 101) (f:=10) (args:=#[.agg #[.int .i64 kd,.int .i64 fm,.int .i64 tw,.int .i64 em,.int .i64 le,.int .i64 ta,.string xm,.slice ma mn mc]]) (l':=(bt 9 63)) (R:=fun v w'=>∃ g,v = .agg #[.int .i64 kd,.int .i64 fm,.int .i64 tw,.int .i64 em,.int .i64 le,.int .i64 ta,.string xm,.slice (some ⟨g,0,none⟩) mn mn] ∧ OwnC u2.heap.size w' 1 g 0 mn mn (ms.map Value.string) ∧ Below u2.heap.size u2 w') rfl (by kernel_rfl) (by kernel_rfl) (by kernel_rfl) (run_cl1 _ _ rfl (by kernel_rfl) rfl enter_toM) ((toMessage_any kd fm tw em le ta xm ma mb mo mn mc ms _ (hm.below' hBu2) hmn).mono fun _ _ ⟨⟨g,he,ho⟩,hb⟩=>⟨_,he,g,rfl,ho,hb⟩) ?_) (hVal (i:=7) (d:=some 16) (v:=.pointer (some ⟨u2.heap.size,0,none⟩)) (w':=u2.alloc (.cells #[.int .i64 0,.bool false,.int .i64 0,.int .i64 0,.int .i64 0,.int .i64 0,.slice none 0 0,.slice none 0 0,.slice none 0 0,.slice none 0 0,.slice none 0 0,.slice none 0 0,.slice none 0 0] 46)) (l':=(bt 9 159)) rfl (by kernel_rfl) (by kernel_rfl) (by kernel_rfl) (run_alB (by kernel_rfl)) ⟨hPWu2.block (Below.heap_alloc u2 _ (w.heap.size) (by omega)),hPPu2.block (Below.heap_alloc u2 _ (w.heap.size + 1) (by omega)),hPMu2.block (Below.heap_alloc u2 _ (w.heap.size + 2) (by omega))⟩ ?_)
     ·rintro _ u3 ⟨g7,rfl,ho7,hbu3⟩
      have hPWu3:=hPWu2.block (hbu3.block (w.heap.size) (by omega))
      have hPPu3:=hPPu2.block (hbu3.block (w.heap.size + 1) (by omega))
      have hPMu3:=hPMu2.block (hbu3.block (w.heap.size + 2) (by omega))
      have hBu3:=hBu2.trans (hbu3.mono hBu2.size)
      have hzu3 : w16.heap.size ≤ u3.heap.size:=Nat.le_trans hzu2 hbu3.size
      have hlu3 : w.heap.size + 2 < u3.heap.size:=Nat.lt_of_lt_of_le hlu2 hbu3.size
      have hDu3:=hDu2.trans (hbu3.mono hzu2)
      have h2mu3:=h2mu2.below' hbu3
      have ht3u3:=ht3u2.below' hbu3
      have h7su3:=StrsAt.ofOwn ho7 hm.sz
      clear ho7
      refine ⟨⟨hPWu3,hPPu3,hPMu3⟩,?_⟩
      refine hTwo (i:=6) (j:=7) (by kernel_rfl) (hCall (i:=6) (d:=some 102) (f:=11) (args:=#[.agg (bvs d h2).toArray,.agg #[.slice (some ⟨g3,0,none⟩) pn pn],.agg #[.int .i64 kd,.int .i64 fm,.int .i64 tw,.int .i64 em,.int .i64 le,.int .i64 ta,.string xm,.slice (some ⟨g7,0,none⟩) mn mn]]) (l':=(bt 9 127)) (R:=fun v w'=>∃ d9 h9 M9 x9 y9 q9,v = .agg (lvs d9 h9 M9 x9 y9).toArray ∧ LedO w' u3.heap.size d9 h9 (.slice x9 M9.length y9) M9 q9 ∧ takeBR d ts (⟨kd,fm,tw,em,le,ta,xm,ms⟩ : MgD) (d9,M9) ∧ Below u3.heap.size u3 w') rfl (by kernel_rfl) (by kernel_rfl) (by kernel_rfl) (run_cl3 _ _ _ _ rfl (by kernel_rfl) (by kernel_rfl) (by kernel_rfl) rfl enter_iTake) ((iTakeL_any d h2 _ g3 0 pn pn ts kd fm tw em le ta xm ms _ g7 0 mn mn _ h2mu3 ht3u3 hs h7su3 (hTab.below' hBu3)).mono fun e _ ⟨⟨d9,h9,M9,x9,y9,q9,he,ho,hf⟩,hb⟩=>⟨_,he,d9,h9,M9,x9,y9,q9,rfl,ho,hf,hb⟩) ?_) (hVal (i:=7) (d:=some 16) (v:=.pointer (some ⟨u3.heap.size,0,none⟩)) (w':=u3.alloc (.cells #[.int .i64 0,.bool false,.int .i64 0,.int .i64 0,.int .i64 0,.int .i64 0,.slice none 0 0,.slice none 0 0,.slice none 0 0,.slice none 0 0,.slice none 0 0,.slice none 0 0,.slice none 0 0] 46)) (l':=(bt 9 191)) rfl (by kernel_rfl) (by kernel_rfl) (by kernel_rfl) (run_alB (by kernel_rfl)) ⟨hPWu3.block (Below.heap_alloc u3 _ (w.heap.size) (by omega)),hPPu3.block (Below.heap_alloc u3 _ (w.heap.size + 1) (by omega)),hPMu3.block (Below.heap_alloc u3 _ (w.heap.size + 2) (by omega))⟩ ?_)
      ·rintro _ u4 ⟨d9,h9,M9,x9,y9,q9,rfl,hO1,hF,hbu4⟩
       have hPWu4:=hPWu3.block (hbu4.block (w.heap.size) (by omega))
       have hPPu4:=hPPu3.block (hbu4.block (w.heap.size + 1) (by omega))
       have hPMu4:=hPMu3.block (hbu4.block (w.heap.size + 2) (by omega))
       have hBu4:=hBu3.trans (hbu4.mono hBu3.size)
       have hzu4 : w16.heap.size ≤ u4.heap.size:=Nat.le_trans hzu3 hbu4.size
       have hlu4 : w.heap.size + 2 < u4.heap.size:=Nat.lt_of_lt_of_le hlu3 hbu4.size
       have hDu4:=hDu3.trans (hbu4.mono hzu3)
       have h2mu4:=h2mu3.below' hbu4
       have ht3u4:=ht3u3.below' hbu4
       have h7su4:=h7su3.below' hbu4
       have hlo1:=hO1.lo
       have hO1:=hO1.mono hzu3
       refine ⟨⟨hPWu4,hPPu4,hPMu4⟩,?_⟩
       refine hOne (by kernel_rfl) (hVal (i:=7) (d:=some 16) (v:=.pointer (some ⟨u4.heap.size,0,none⟩)) (w':=u4.alloc (.cells #[.int .i64 0,.bool false,.int .i64 0,.int .i64 0,.int .i64 0,.int .i64 0,.slice none 0 0,.slice none 0 0,.slice none 0 0,.slice none 0 0,.slice none 0 0,.slice none 0 0,.slice none 0 0] 46)) (l':=(bt 9 255)) rfl (by kernel_rfl) (by kernel_rfl) (by kernel_rfl) (run_alB (by kernel_rfl)) ⟨hPWu4.block (Below.heap_alloc u4 _ (w.heap.size) (by omega)),hPPu4.block (Below.heap_alloc u4 _ (w.heap.size + 1) (by omega)),hPMu4.block (Below.heap_alloc u4 _ (w.heap.size + 2) (by omega))⟩ ?_)
       have hPWu5:=hPWu4.block (Below.heap_alloc u4 (.cells zL.toArray 46) (w.heap.size) (by omega))
       have hPPu5:=hPPu4.block (Below.heap_alloc u4 (.cells zL.toArray 46) (w.heap.size + 1) (by omega))
       have hPMu5:=hPMu4.block (Below.heap_alloc u4 (.cells zL.toArray 46) (w.heap.size + 2) (by omega))
       have hBu5:=hBu4.alloc hBu4.size (.cells zL.toArray 46)
       have hDu5:=hDu4.alloc hDu4.size (.cells zL.toArray 46)
       have hbbu5 : Below u4.heap.size u4 (u4.alloc (.cells zL.toArray 46)):=(Below.refl _ _).alloc (Nat.le_refl _) _
       have hAu5:=CF.made u4 zL.toArray 46
       have h2mu5:=h2mu4.below' hbbu5
       have ht3u5:=ht3u4.below' hbbu5
       have h7su5:=h7su4.below' hbbu5
       have hO1:=hO1.below hbbu5
       have hszu5 : (u4.alloc (.cells zL.toArray 46)).heap.size = u4.heap.size + 1:=by simp
       obtain ⟨pA,hpA⟩ : ∃ pA,pA = u4.heap.size:=⟨_,rfl⟩
       rw [← hpA] at hAu5 hszu5
       rw [← hpA]
       obtain ⟨u5,hu5⟩ : ∃ V,V = u4.alloc (.cells zL.toArray 46):=⟨_,rfl⟩
       rw [← hu5] at hPWu5 hPPu5 hPMu5 hBu5 hDu5 hbbu5 hAu5 hszu5 h2mu5 ht3u5 h7su5 hO1
       have eu5 : (.alloc u4 (.cells #[.int .i64 0,.bool false,.int .i64 0,.int .i64 0,.int .i64 0,.int .i64 0,.slice none 0 0,.slice none 0 0,.slice none 0 0,.slice none 0 0,.slice none 0 0,.slice none 0 0,.slice none 0 0] 46) : World) = u5:=hu5.symm
       rw [eu5]
       clear hu5 eu5
       have hzu5 : w16.heap.size ≤ u5.heap.size:=Nat.le_trans hzu4 hbbu5.size
       have hlu5 : w.heap.size + 2 < u5.heap.size:=Nat.lt_of_lt_of_le hlu4 hbbu5.size
       have hAlu5 : pA < u5.heap.size:=by omega
       have hAb : w16.heap.size ≤ pA:=by omega
       have HPA:=hid hpA
       clear hpA
       obtain ⟨uz,huz⟩ : ∃ uz,uz = u5.setCells pA 0 (lvs d9 h9 M9 x9 y9):=⟨_,rfl⟩
       have hcz : CF uz pA (lvs d9 h9 M9 x9 y9):=by rw [huz];exact hAu5.stored rfl
       have hgz : u5.grownBy uz (some pA):=by rw [huz];exact grown_setCells _ _ _ _ _ (World.grownBy.refl _ _)
       have hPWz:=hPWu5.block (hgz.block (w.heap.size) (by omega) (by simp;omega))
       have hPPz:=hPPu5.block (hgz.block (w.heap.size + 1) (by omega) (by simp;omega))
       have hPMz:=hPMu5.block (hgz.block (w.heap.size + 2) (by omega) (by simp;omega))
       have hBz:=below_grown hBu5 hgz (by omega) (fun k hk=>by simp at hk;omega)
       have hOz:=hO1.grew (Grew.of hgz) (fun r hr q hq r' hr' e=>by
        obtain rfl:=List.mem_singleton.1 hr
        injection hq with hq
        have h5:=hlo1 r' hr' q e
        have h6:=HPA.out
        omega)
       have hzz:=below_grown hDu5 hgz (by omega) (fun k hk=>by simp at hk;omega)
       refine hOne (by kernel_rfl) (hSkip (i:=8) (w':=uz) (l':=(bt 9 511)) rfl (by kernel_rfl) (by kernel_rfl) (by kernel_rfl) (by rw [huz];exact run_stT 46 zL (lvs d9 h9 M9 x9 y9) (.tmp 16) (.tmp 102) (by kernel_rfl) (by kernel_rfl) (by kernel_rfl) hAu5 rfl Tryz.sizeLd (lvs_one d9 h9 M9 x9 y9)) ⟨hPWz,hPPz,hPMz⟩ ?_)
       refine wpAnyH_done (by kernel_rfl) ?_ _
       have HR:=hid (show ∃ (p : Nat) (d9 : BD) (h9 : BH) (M9 : List MgD) (x9 : Option Addr) (y9 : Nat) (q9 : List Value),(.pointer (some ⟨pA,0,none⟩) : Value) = .pointer (some ⟨p,0,none⟩) ∧ CF uz p (lvs d9 h9 M9 x9 y9) ∧ takeBR d ts (⟨kd,fm,tw,em,le,ta,xm,ms⟩ : MgD) (d9,M9) ∧ LedO uz w16.heap.size d9 h9 (.slice x9 M9.length y9) M9 q9 ∧ w16.heap.size ≤ p ∧ CF uz (w.heap.size) [.int .i64 d.wk,.bool d.up,.int .i64 d.now,.int .i64 d.sn,.int .i64 d.ep,.int .i64 d.gv,.slice h.a1 d.L1.length h.c1,.slice h.a2 d.L2.length h.c2,.slice h.ar d.R.length h.cr,.slice h.aj d.J.length h.cj,.slice h.az d.S.length h.cs,.slice h.ao d.O.length h.co] ∧ CF uz (w.heap.size + 1) [.slice pa pn pc] ∧ CF uz (w.heap.size + 2) [.int .i64 kd,.int .i64 fm,.int .i64 tw,.int .i64 em,.int .i64 le,.int .i64 ta,.string xm,.slice ma mn mc] ∧ Below w.heap.size w uz ∧ Below w16.heap.size w16 uz from ⟨pA,d9,h9,M9,x9,y9,q9,rfl,hcz,hF,hOz,hAb,hPWz,hPPz,hPMz,hBz,hzz⟩)
       clear hcz hF hOz hPWz hPPz hPMz hBz hzz huz hgz hO1 hlo1
       go_wp2_with fail
       go_meet
       case rel=>exact HR.out
      ·have hPWu6:=hPWu3.block (Below.heap_alloc u3 (.cells zL.toArray 46) (w.heap.size) (by omega))
       have hPPu6:=hPPu3.block (Below.heap_alloc u3 (.cells zL.toArray 46) (w.heap.size + 1) (by omega))
       have hPMu6:=hPMu3.block (Below.heap_alloc u3 (.cells zL.toArray 46) (w.heap.size + 2) (by omega))
       have hBu6:=hBu3.alloc hBu3.size (.cells zL.toArray 46)
       have hDu6:=hDu3.alloc hDu3.size (.cells zL.toArray 46)
       have hbbu6 : Below u3.heap.size u3 (u3.alloc (.cells zL.toArray 46)):=(Below.refl _ _).alloc (Nat.le_refl _) _
       have hAu6:=CF.made u3 zL.toArray 46
       have h2mu6:=h2mu3.below' hbbu6
       have ht3u6:=ht3u3.below' hbbu6
       have h7su6:=h7su3.below' hbbu6
       have hszu6 : (u3.alloc (.cells zL.toArray 46)).heap.size = u3.heap.size + 1:=by simp
       obtain ⟨pA,hpA⟩ : ∃ pA,pA = u3.heap.size:=⟨_,rfl⟩
       rw [← hpA] at hAu6 hszu6
       rw [← hpA]
       obtain ⟨u6,hu6⟩ : ∃ V,V = u3.alloc (.cells zL.toArray 46):=⟨_,rfl⟩
       rw [← hu6] at hPWu6 hPPu6 hPMu6 hBu6 hDu6 hbbu6 hAu6 hszu6 h2mu6 ht3u6 h7su6
       have eu6 : (.alloc u3 (.cells #[.int .i64 0,.bool false,.int .i64 0,.int .i64 0,.int .i64 0,.int .i64 0,.slice none 0 0,.slice none 0 0,.slice none 0 0,.slice none 0 0,.slice none 0 0,.slice none 0 0,.slice none 0 0] 46) : World) = u6:=hu6.symm
       rw [eu6]
       clear hu6 eu6
       have hzu6 : w16.heap.size ≤ u6.heap.size:=Nat.le_trans hzu3 hbbu6.size
       have hlu6 : w.heap.size + 2 < u6.heap.size:=Nat.lt_of_lt_of_le hlu3 hbbu6.size
       have hAlu6 : pA < u6.heap.size:=by omega
       have hAb : w16.heap.size ≤ pA:=by omega
       have HPA:=hid hpA
       clear hpA
       refine hOne (by kernel_rfl) (hCall (i:=6) (d:=some 102) (f:=11) (args:=#[.agg (bvs d h2).toArray,.agg #[.slice (some ⟨g3,0,none⟩) pn pn],.agg #[.int .i64 kd,.int .i64 fm,.int .i64 tw,.int .i64 em,.int .i64 le,.int .i64 ta,.string xm,.slice (some ⟨g7,0,none⟩) mn mn]]) (l':=(bt 9 255)) (R:=fun v w'=>∃ d9 h9 M9 x9 y9 q9,v = .agg (lvs d9 h9 M9 x9 y9).toArray ∧ LedO w' u6.heap.size d9 h9 (.slice x9 M9.length y9) M9 q9 ∧ takeBR d ts (⟨kd,fm,tw,em,le,ta,xm,ms⟩ : MgD) (d9,M9) ∧ Below u6.heap.size u6 w') rfl (by kernel_rfl) (by kernel_rfl) (by kernel_rfl) (run_cl3 _ _ _ _ rfl (by kernel_rfl) (by kernel_rfl) (by kernel_rfl) rfl enter_iTake) ((iTakeL_any d h2 _ g3 0 pn pn ts kd fm tw em le ta xm ms _ g7 0 mn mn _ h2mu6 ht3u6 hs h7su6 (hTab.below' hBu6)).mono fun e _ ⟨⟨d9,h9,M9,x9,y9,q9,he,ho,hf⟩,hb⟩=>⟨_,he,d9,h9,M9,x9,y9,q9,rfl,ho,hf,hb⟩) ?_)
       rintro _ u7 ⟨d9,h9,M9,x9,y9,q9,rfl,hO1,hF,hbu7⟩
       have hPWu7:=hPWu6.block (hbu7.block (w.heap.size) (by omega))
       have hPPu7:=hPPu6.block (hbu7.block (w.heap.size + 1) (by omega))
       have hPMu7:=hPMu6.block (hbu7.block (w.heap.size + 2) (by omega))
       have hBu7:=hBu6.trans (hbu7.mono hBu6.size)
       have hzu7 : w16.heap.size ≤ u7.heap.size:=Nat.le_trans hzu6 hbu7.size
       have hlu7 : w.heap.size + 2 < u7.heap.size:=Nat.lt_of_lt_of_le hlu6 hbu7.size
       have hDu7:=hDu6.trans (hbu7.mono hzu6)
       have h2mu7:=h2mu6.below' hbu7
       have ht3u7:=ht3u6.below' hbu7
       have h7su7:=h7su6.below' hbu7
       have hlo1:=hO1.lo
       have hO1:=hO1.mono hzu6
       have hAu7:=hAu6.block (hbu7.block pA (by omega))
       have hAlu7 : pA < u7.heap.size:=Nat.lt_of_lt_of_le hAlu6 hbu7.size
       refine ⟨⟨hPWu7,hPPu7,hPMu7⟩,?_⟩
       obtain ⟨uz,huz⟩ : ∃ uz,uz = u7.setCells pA 0 (lvs d9 h9 M9 x9 y9):=⟨_,rfl⟩
       have hcz : CF uz pA (lvs d9 h9 M9 x9 y9):=by rw [huz];exact hAu7.stored rfl
       have hgz : u7.grownBy uz (some pA):=by rw [huz];exact grown_setCells _ _ _ _ _ (World.grownBy.refl _ _)
       have hPWz:=hPWu7.block (hgz.block (w.heap.size) (by omega) (by simp;omega))
       have hPPz:=hPPu7.block (hgz.block (w.heap.size + 1) (by omega) (by simp;omega))
       have hPMz:=hPMu7.block (hgz.block (w.heap.size + 2) (by omega) (by simp;omega))
       have hBz:=below_grown hBu7 hgz (by omega) (fun k hk=>by simp at hk;omega)
       have hOz:=hO1.grew (Grew.of hgz) (fun r hr q hq r' hr' e=>by
        obtain rfl:=List.mem_singleton.1 hr
        injection hq with hq
        have h5:=hlo1 r' hr' q e
        have h6:=HPA.out
        omega)
       have hzz:=below_grown hDu7 hgz (by omega) (fun k hk=>by simp at hk;omega)
       refine hOne (by kernel_rfl) (hSkip (i:=8) (w':=uz) (l':=(bt 9 511)) rfl (by kernel_rfl) (by kernel_rfl) (by kernel_rfl) (by rw [huz];exact run_stT 46 zL (lvs d9 h9 M9 x9 y9) (.tmp 16) (.tmp 102) (by kernel_rfl) (by kernel_rfl) (by kernel_rfl) hAu7 rfl Tryz.sizeLd (lvs_one d9 h9 M9 x9 y9)) ⟨hPWz,hPPz,hPMz⟩ ?_)
       refine wpAnyH_done (by kernel_rfl) ?_ _
       have HR:=hid (show ∃ (p : Nat) (d9 : BD) (h9 : BH) (M9 : List MgD) (x9 : Option Addr) (y9 : Nat) (q9 : List Value),(.pointer (some ⟨pA,0,none⟩) : Value) = .pointer (some ⟨p,0,none⟩) ∧ CF uz p (lvs d9 h9 M9 x9 y9) ∧ takeBR d ts (⟨kd,fm,tw,em,le,ta,xm,ms⟩ : MgD) (d9,M9) ∧ LedO uz w16.heap.size d9 h9 (.slice x9 M9.length y9) M9 q9 ∧ w16.heap.size ≤ p ∧ CF uz (w.heap.size) [.int .i64 d.wk,.bool d.up,.int .i64 d.now,.int .i64 d.sn,.int .i64 d.ep,.int .i64 d.gv,.slice h.a1 d.L1.length h.c1,.slice h.a2 d.L2.length h.c2,.slice h.ar d.R.length h.cr,.slice h.aj d.J.length h.cj,.slice h.az d.S.length h.cs,.slice h.ao d.O.length h.co] ∧ CF uz (w.heap.size + 1) [.slice pa pn pc] ∧ CF uz (w.heap.size + 2) [.int .i64 kd,.int .i64 fm,.int .i64 tw,.int .i64 em,.int .i64 le,.int .i64 ta,.string xm,.slice ma mn mc] ∧ Below w.heap.size w uz ∧ Below w16.heap.size w16 uz from ⟨pA,d9,h9,M9,x9,y9,q9,rfl,hcz,hF,hOz,hAb,hPWz,hPPz,hPMz,hBz,hzz⟩)
       clear hcz hF hOz hPWz hPPz hPMz hBz hzz huz hgz hO1 hlo1
       go_wp2_with fail
       go_meet
       case rel=>exact HR.out
     ·have hPWu8:=hPWu2.block (Below.heap_alloc u2 (.cells zL.toArray 46) (w.heap.size) (by omega))
      have hPPu8:=hPPu2.block (Below.heap_alloc u2 (.cells zL.toArray 46) (w.heap.size + 1) (by omega))
      have hPMu8:=hPMu2.block (Below.heap_alloc u2 (.cells zL.toArray 46) (w.heap.size + 2) (by omega))
      have hBu8:=hBu2.alloc hBu2.size (.cells zL.toArray 46)
      have hDu8:=hDu2.alloc hDu2.size (.cells zL.toArray 46)
      have hbbu8 : Below u2.heap.size u2 (u2.alloc (.cells zL.toArray 46)):=(Below.refl _ _).alloc (Nat.le_refl _) _
      have hAu8:=CF.made u2 zL.toArray 46
      have h2mu8:=h2mu2.below' hbbu8
      have ht3u8:=ht3u2.below' hbbu8
      have hszu8 : (u2.alloc (.cells zL.toArray 46)).heap.size = u2.heap.size + 1:=by simp
      obtain ⟨pA,hpA⟩ : ∃ pA,pA = u2.heap.size:=⟨_,rfl⟩
      rw [← hpA] at hAu8 hszu8
      rw [← hpA]
      obtain ⟨u8,hu8⟩ : ∃ V,V = u2.alloc (.cells zL.toArray 46):=⟨_,rfl⟩
      rw [← hu8] at hPWu8 hPPu8 hPMu8 hBu8 hDu8 hbbu8 hAu8 hszu8 h2mu8 ht3u8
      have eu8 : (.alloc u2 (.cells #[.int .i64 0,.bool false,.int .i64 0,.int .i64 0,.int .i64 0,.int .i64 0,.slice none 0 0,.slice none 0 0,.slice none 0 0,.slice none 0 0,.slice none 0 0,.slice none 0 0,.slice none 0 0] 46) : World) = u8:=hu8.symm
      rw [eu8]
      clear hu8 eu8
      have hzu8 : w16.heap.size ≤ u8.heap.size:=Nat.le_trans hzu2 hbbu8.size
      have hlu8 : w.heap.size + 2 < u8.heap.size:=Nat.lt_of_lt_of_le hlu2 hbbu8.size
      have hAlu8 : pA < u8.heap.size:=by omega
      have hAb : w16.heap.size ≤ pA:=by omega
      have HPA:=hid hpA
      clear hpA
      refine hOne (by kernel_rfl) (hCall (i:=5) (d:=some 101) (f:=10) (args:=#[.agg #[.int .i64 kd,.int .i64 fm,.int .i64 tw,.int .i64 em,.int .i64 le,.int .i64 ta,.string xm,.slice ma mn mc]]) (l':=(bt 9 191)) (R:=fun v w'=>∃ g,v = .agg #[.int .i64 kd,.int .i64 fm,.int .i64 tw,.int .i64 em,.int .i64 le,.int .i64 ta,.string xm,.slice (some ⟨g,0,none⟩) mn mn] ∧ OwnC u8.heap.size w' 1 g 0 mn mn (ms.map Value.string) ∧ Below u8.heap.size u8 w') rfl (by kernel_rfl) (by kernel_rfl) (by kernel_rfl) (run_cl1 _ _ rfl (by kernel_rfl) rfl enter_toM) ((toMessage_any kd fm tw em le ta xm ma mb mo mn mc ms _ (hm.below' hBu8) hmn).mono fun _ _ ⟨⟨g,he,ho⟩,hb⟩=>⟨_,he,g,rfl,ho,hb⟩) ?_)
      rintro _ u9 ⟨g7,rfl,ho7,hbu9⟩
      have hPWu9:=hPWu8.block (hbu9.block (w.heap.size) (by omega))
      have hPPu9:=hPPu8.block (hbu9.block (w.heap.size + 1) (by omega))
      have hPMu9:=hPMu8.block (hbu9.block (w.heap.size + 2) (by omega))
      have hBu9:=hBu8.trans (hbu9.mono hBu8.size)
      have hzu9 : w16.heap.size ≤ u9.heap.size:=Nat.le_trans hzu8 hbu9.size
      have hlu9 : w.heap.size + 2 < u9.heap.size:=Nat.lt_of_lt_of_le hlu8 hbu9.size
      have hDu9:=hDu8.trans (hbu9.mono hzu8)
      have h2mu9:=h2mu8.below' hbu9
      have ht3u9:=ht3u8.below' hbu9
      have h7su9:=StrsAt.ofOwn ho7 hm.sz
      clear ho7
      have hAu9:=hAu8.block (hbu9.block pA (by omega))
      have hAlu9 : pA < u9.heap.size:=Nat.lt_of_lt_of_le hAlu8 hbu9.size
      refine ⟨⟨hPWu9,hPPu9,hPMu9⟩,?_⟩
      refine hOne (by kernel_rfl) (hCall (i:=6) (d:=some 102) (f:=11) (args:=#[.agg (bvs d h2).toArray,.agg #[.slice (some ⟨g3,0,none⟩) pn pn],.agg #[.int .i64 kd,.int .i64 fm,.int .i64 tw,.int .i64 em,.int .i64 le,.int .i64 ta,.string xm,.slice (some ⟨g7,0,none⟩) mn mn]]) (l':=(bt 9 255)) (R:=fun v w'=>∃ d9 h9 M9 x9 y9 q9,v = .agg (lvs d9 h9 M9 x9 y9).toArray ∧ LedO w' u9.heap.size d9 h9 (.slice x9 M9.length y9) M9 q9 ∧ takeBR d ts (⟨kd,fm,tw,em,le,ta,xm,ms⟩ : MgD) (d9,M9) ∧ Below u9.heap.size u9 w') rfl (by kernel_rfl) (by kernel_rfl) (by kernel_rfl) (run_cl3 _ _ _ _ rfl (by kernel_rfl) (by kernel_rfl) (by kernel_rfl) rfl enter_iTake) ((iTakeL_any d h2 _ g3 0 pn pn ts kd fm tw em le ta xm ms _ g7 0 mn mn _ h2mu9 ht3u9 hs h7su9 (hTab.below' hBu9)).mono fun e _ ⟨⟨d9,h9,M9,x9,y9,q9,he,ho,hf⟩,hb⟩=>⟨_,he,d9,h9,M9,x9,y9,q9,rfl,ho,hf,hb⟩) ?_)
      rintro _ u10 ⟨d9,h9,M9,x9,y9,q9,rfl,hO1,hF,hbu10⟩
      have hPWu10:=hPWu9.block (hbu10.block (w.heap.size) (by omega))
      have hPPu10:=hPPu9.block (hbu10.block (w.heap.size + 1) (by omega))
      have hPMu10:=hPMu9.block (hbu10.block (w.heap.size + 2) (by omega))
      have hBu10:=hBu9.trans (hbu10.mono hBu9.size)
      have hzu10 : w16.heap.size ≤ u10.heap.size:=Nat.le_trans hzu9 hbu10.size
      have hlu10 : w.heap.size + 2 < u10.heap.size:=Nat.lt_of_lt_of_le hlu9 hbu10.size
      have hDu10:=hDu9.trans (hbu10.mono hzu9)
      have h2mu10:=h2mu9.below' hbu10
      have ht3u10:=ht3u9.below' hbu10
      have h7su10:=h7su9.below' hbu10
      have hlo1:=hO1.lo
      have hO1:=hO1.mono hzu9
      have hAu10:=hAu9.block (hbu10.block pA (by omega))
      have hAlu10 : pA < u10.heap.size:=Nat.lt_of_lt_of_le hAlu9 hbu10.size
      refine ⟨⟨hPWu10,hPPu10,hPMu10⟩,?_⟩
      obtain ⟨uz,huz⟩ : ∃ uz,uz = u10.setCells pA 0 (lvs d9 h9 M9 x9 y9):=⟨_,rfl⟩
      have hcz : CF uz pA (lvs d9 h9 M9 x9 y9):=by rw [huz];exact hAu10.stored rfl
      have hgz : u10.grownBy uz (some pA):=by rw [huz];exact grown_setCells _ _ _ _ _ (World.grownBy.refl _ _)
      have hPWz:=hPWu10.block (hgz.block (w.heap.size) (by omega) (by simp;omega))
      have hPPz:=hPPu10.block (hgz.block (w.heap.size + 1) (by omega) (by simp;omega))
      have hPMz:=hPMu10.block (hgz.block (w.heap.size + 2) (by omega) (by simp;omega))
      have hBz:=below_grown hBu10 hgz (by omega) (fun k hk=>by simp at hk;omega)
      have hOz:=hO1.grew (Grew.of hgz) (fun r hr q hq r' hr' e=>by
       obtain rfl:=List.mem_singleton.1 hr
       injection hq with hq
       have h5:=hlo1 r' hr' q e
       have h6:=HPA.out
       omega)
      have hzz:=below_grown hDu10 hgz (by omega) (fun k hk=>by simp at hk;omega)
      refine hOne (by kernel_rfl) (hSkip (i:=8) (w':=uz) (l':=(bt 9 511)) rfl (by kernel_rfl) (by kernel_rfl) (by kernel_rfl) (by rw [huz];exact run_stT 46 zL (lvs d9 h9 M9 x9 y9) (.tmp 16) (.tmp 102) (by kernel_rfl) (by kernel_rfl) (by kernel_rfl) hAu10 rfl Tryz.sizeLd (lvs_one d9 h9 M9 x9 y9)) ⟨hPWz,hPPz,hPMz⟩ ?_)
      refine wpAnyH_done (by kernel_rfl) ?_ _
      have HR:=hid (show ∃ (p : Nat) (d9 : BD) (h9 : BH) (M9 : List MgD) (x9 : Option Addr) (y9 : Nat) (q9 : List Value),(.pointer (some ⟨pA,0,none⟩) : Value) = .pointer (some ⟨p,0,none⟩) ∧ CF uz p (lvs d9 h9 M9 x9 y9) ∧ takeBR d ts (⟨kd,fm,tw,em,le,ta,xm,ms⟩ : MgD) (d9,M9) ∧ LedO uz w16.heap.size d9 h9 (.slice x9 M9.length y9) M9 q9 ∧ w16.heap.size ≤ p ∧ CF uz (w.heap.size) [.int .i64 d.wk,.bool d.up,.int .i64 d.now,.int .i64 d.sn,.int .i64 d.ep,.int .i64 d.gv,.slice h.a1 d.L1.length h.c1,.slice h.a2 d.L2.length h.c2,.slice h.ar d.R.length h.cr,.slice h.aj d.J.length h.cj,.slice h.az d.S.length h.cs,.slice h.ao d.O.length h.co] ∧ CF uz (w.heap.size + 1) [.slice pa pn pc] ∧ CF uz (w.heap.size + 2) [.int .i64 kd,.int .i64 fm,.int .i64 tw,.int .i64 em,.int .i64 le,.int .i64 ta,.string xm,.slice ma mn mc] ∧ Below w.heap.size w uz ∧ Below w16.heap.size w16 uz from ⟨pA,d9,h9,M9,x9,y9,q9,rfl,hcz,hF,hOz,hAb,hPWz,hPPz,hPMz,hBz,hzz⟩)
      clear hcz hF hOz hPWz hPPz hPMz hBz hzz huz hgz hO1 hlo1
      go_wp2_with fail
      go_meet
      case rel=>exact HR.out
    ·have hPWu11:=hPWu1.block (Below.heap_alloc u1 (.cells zL.toArray 46) (w.heap.size) (by omega))
     have hPPu11:=hPPu1.block (Below.heap_alloc u1 (.cells zL.toArray 46) (w.heap.size + 1) (by omega))
     have hPMu11:=hPMu1.block (Below.heap_alloc u1 (.cells zL.toArray 46) (w.heap.size + 2) (by omega))
     have hBu11:=hBu1.alloc hBu1.size (.cells zL.toArray 46)
     have hDu11:=hDu1.alloc hDu1.size (.cells zL.toArray 46)
     have hbbu11 : Below u1.heap.size u1 (u1.alloc (.cells zL.toArray 46)):=(Below.refl _ _).alloc (Nat.le_refl _) _
     have hAu11:=CF.made u1 zL.toArray 46
     have h2mu11:=h2mu1.below' hbbu11
     have hszu11 : (u1.alloc (.cells zL.toArray 46)).heap.size = u1.heap.size + 1:=by simp
     obtain ⟨pA,hpA⟩ : ∃ pA,pA = u1.heap.size:=⟨_,rfl⟩
     rw [← hpA] at hAu11 hszu11
     rw [← hpA]
     obtain ⟨u11,hu11⟩ : ∃ V,V = u1.alloc (.cells zL.toArray 46):=⟨_,rfl⟩
     rw [← hu11] at hPWu11 hPPu11 hPMu11 hBu11 hDu11 hbbu11 hAu11 hszu11 h2mu11
     have eu11 : (.alloc u1 (.cells #[.int .i64 0,.bool false,.int .i64 0,.int .i64 0,.int .i64 0,.int .i64 0,.slice none 0 0,.slice none 0 0,.slice none 0 0,.slice none 0 0,.slice none 0 0,.slice none 0 0,.slice none 0 0] 46) : World) = u11:=hu11.symm
     rw [eu11]
     clear hu11 eu11
     have hzu11 : w16.heap.size ≤ u11.heap.size:=Nat.le_trans hzu1 hbbu11.size
     have hlu11 : w.heap.size + 2 < u11.heap.size:=Nat.lt_of_lt_of_le hlu1 hbbu11.size
     have hAlu11 : pA < u11.heap.size:=by omega
     have hAb : w16.heap.size ≤ pA:=by omega
     have HPA:=hid hpA
     clear hpA
     refine hOne (by kernel_rfl) (hCall (i:=3) (d:=some 99) (f:=9) (args:=#[.agg #[.slice pa pn pc]]) (l':=(bt 9 159)) (R:=fun v w'=>∃ g,v = .agg #[.slice (some ⟨g,0,none⟩) pn pn] ∧ TasksAt w' (some ⟨g,0,none⟩) g 0 pn ts ∧ Below u11.heap.size u11 w') rfl (by kernel_rfl) (by kernel_rfl) (by kernel_rfl) (run_cl1 _ _ rfl (by kernel_rfl) rfl enter_toP) ((toPlan_any pa pb po pn pc ts _ (hp.below' hBu11) hpn).mono fun _ _ ⟨g,xs,he,_,_,ht,hb⟩=>⟨_,he,g,rfl,ht,hb⟩) ?_)
     rintro _ u12 ⟨g3,rfl,ht3,hbu12⟩
     have hPWu12:=hPWu11.block (hbu12.block (w.heap.size) (by omega))
     have hPPu12:=hPPu11.block (hbu12.block (w.heap.size + 1) (by omega))
     have hPMu12:=hPMu11.block (hbu12.block (w.heap.size + 2) (by omega))
     have hBu12:=hBu11.trans (hbu12.mono hBu11.size)
     have hzu12 : w16.heap.size ≤ u12.heap.size:=Nat.le_trans hzu11 hbu12.size
     have hlu12 : w.heap.size + 2 < u12.heap.size:=Nat.lt_of_lt_of_le hlu11 hbu12.size
     have hDu12:=hDu11.trans (hbu12.mono hzu11)
     have h2mu12:=h2mu11.below' hbu12
     have ht3u12:=ht3
     have hAu12:=hAu11.block (hbu12.block pA (by omega))
     have hAlu12 : pA < u12.heap.size:=Nat.lt_of_lt_of_le hAlu11 hbu12.size
     refine ⟨⟨hPWu12,hPPu12,hPMu12⟩,?_⟩
     refine hOne (by kernel_rfl) (hCall (i:=5) (d:=some 101) (f:=10) (args:=#[.agg #[.int .i64 kd,.int .i64 fm,.int .i64 tw,.int .i64 em,.int .i64 le,.int .i64 ta,.string xm,.slice ma mn mc]]) (l':=(bt 9 191)) (R:=fun v w'=>∃ g,v = .agg #[.int .i64 kd,.int .i64 fm,.int .i64 tw,.int .i64 em,.int .i64 le,.int .i64 ta,.string xm,.slice (some ⟨g,0,none⟩) mn mn] ∧ OwnC u12.heap.size w' 1 g 0 mn mn (ms.map Value.string) ∧ Below u12.heap.size u12 w') rfl (by kernel_rfl) (by kernel_rfl) (by kernel_rfl) (run_cl1 _ _ rfl (by kernel_rfl) rfl enter_toM) ((toMessage_any kd fm tw em le ta xm ma mb mo mn mc ms _ (hm.below' hBu12) hmn).mono fun _ _ ⟨⟨g,he,ho⟩,hb⟩=>⟨_,he,g,rfl,ho,hb⟩) ?_)
     rintro _ u13 ⟨g7,rfl,ho7,hbu13⟩
     have hPWu13:=hPWu12.block (hbu13.block (w.heap.size) (by omega))
     have hPPu13:=hPPu12.block (hbu13.block (w.heap.size + 1) (by omega))
     have hPMu13:=hPMu12.block (hbu13.block (w.heap.size + 2) (by omega))
     have hBu13:=hBu12.trans (hbu13.mono hBu12.size)
     have hzu13 : w16.heap.size ≤ u13.heap.size:=Nat.le_trans hzu12 hbu13.size
     have hlu13 : w.heap.size + 2 < u13.heap.size:=Nat.lt_of_lt_of_le hlu12 hbu13.size
     have hDu13:=hDu12.trans (hbu13.mono hzu12)
     have h2mu13:=h2mu12.below' hbu13
     have ht3u13:=ht3u12.below' hbu13
     have h7su13:=StrsAt.ofOwn ho7 hm.sz
     clear ho7
     have hAu13:=hAu12.block (hbu13.block pA (by omega))
     have hAlu13 : pA < u13.heap.size:=Nat.lt_of_lt_of_le hAlu12 hbu13.size
     refine ⟨⟨hPWu13,hPPu13,hPMu13⟩,?_⟩
     refine hOne (by kernel_rfl) (hCall (i:=6) (d:=some 102) (f:=11) (args:=#[.agg (bvs d h2).toArray,.agg #[.slice (some ⟨g3,0,none⟩) pn pn],.agg #[.int .i64 kd,.int .i64 fm,.int .i64 tw,.int .i64 em,.int .i64 le,.int .i64 ta,.string xm,.slice (some ⟨g7,0,none⟩) mn mn]]) (l':=(bt 9 255)) (R:=fun v w'=>∃ d9 h9 M9 x9 y9 q9,v = .agg (lvs d9 h9 M9 x9 y9).toArray ∧ LedO w' u13.heap.size d9 h9 (.slice x9 M9.length y9) M9 q9 ∧ takeBR d ts (⟨kd,fm,tw,em,le,ta,xm,ms⟩ : MgD) (d9,M9) ∧ Below u13.heap.size u13 w') rfl (by kernel_rfl) (by kernel_rfl) (by kernel_rfl) (run_cl3 _ _ _ _ rfl (by kernel_rfl) (by kernel_rfl) (by kernel_rfl) rfl enter_iTake) ((iTakeL_any d h2 _ g3 0 pn pn ts kd fm tw em le ta xm ms _ g7 0 mn mn _ h2mu13 ht3u13 hs h7su13 (hTab.below' hBu13)).mono fun e _ ⟨⟨d9,h9,M9,x9,y9,q9,he,ho,hf⟩,hb⟩=>⟨_,he,d9,h9,M9,x9,y9,q9,rfl,ho,hf,hb⟩) ?_)
     rintro _ u14 ⟨d9,h9,M9,x9,y9,q9,rfl,hO1,hF,hbu14⟩
     have hPWu14:=hPWu13.block (hbu14.block (w.heap.size) (by omega))
     have hPPu14:=hPPu13.block (hbu14.block (w.heap.size + 1) (by omega))
     have hPMu14:=hPMu13.block (hbu14.block (w.heap.size + 2) (by omega))
     have hBu14:=hBu13.trans (hbu14.mono hBu13.size)
     have hzu14 : w16.heap.size ≤ u14.heap.size:=Nat.le_trans hzu13 hbu14.size
     have hlu14 : w.heap.size + 2 < u14.heap.size:=Nat.lt_of_lt_of_le hlu13 hbu14.size
     have hDu14:=hDu13.trans (hbu14.mono hzu13)
     have h2mu14:=h2mu13.below' hbu14
     have ht3u14:=ht3u13.below' hbu14
     have h7su14:=h7su13.below' hbu14
     have hlo1:=hO1.lo
     have hO1:=hO1.mono hzu13
     have hAu14:=hAu13.block (hbu14.block pA (by omega))
     have hAlu14 : pA < u14.heap.size:=Nat.lt_of_lt_of_le hAlu13 hbu14.size
     refine ⟨⟨hPWu14,hPPu14,hPMu14⟩,?_⟩
     obtain ⟨uz,huz⟩ : ∃ uz,uz = u14.setCells pA 0 (lvs d9 h9 M9 x9 y9):=⟨_,rfl⟩
     have hcz : CF uz pA (lvs d9 h9 M9 x9 y9):=by rw [huz];exact hAu14.stored rfl
     have hgz : u14.grownBy uz (some pA):=by rw [huz];exact grown_setCells _ _ _ _ _ (World.grownBy.refl _ _)
     have hPWz:=hPWu14.block (hgz.block (w.heap.size) (by omega) (by simp;omega))
     have hPPz:=hPPu14.block (hgz.block (w.heap.size + 1) (by omega) (by simp;omega))
     have hPMz:=hPMu14.block (hgz.block (w.heap.size + 2) (by omega) (by simp;omega))
     have hBz:=below_grown hBu14 hgz (by omega) (fun k hk=>by simp at hk;omega)
     have hOz:=hO1.grew (Grew.of hgz) (fun r hr q hq r' hr' e=>by
      obtain rfl:=List.mem_singleton.1 hr
      injection hq with hq
      have h5:=hlo1 r' hr' q e
      have h6:=HPA.out
      omega)
     have hzz:=below_grown hDu14 hgz (by omega) (fun k hk=>by simp at hk;omega)
     refine hOne (by kernel_rfl) (hSkip (i:=8) (w':=uz) (l':=(bt 9 511)) rfl (by kernel_rfl) (by kernel_rfl) (by kernel_rfl) (by rw [huz];exact run_stT 46 zL (lvs d9 h9 M9 x9 y9) (.tmp 16) (.tmp 102) (by kernel_rfl) (by kernel_rfl) (by kernel_rfl) hAu14 rfl Tryz.sizeLd (lvs_one d9 h9 M9 x9 y9)) ⟨hPWz,hPPz,hPMz⟩ ?_)
     refine wpAnyH_done (by kernel_rfl) ?_ _
     have HR:=hid (show ∃ (p : Nat) (d9 : BD) (h9 : BH) (M9 : List MgD) (x9 : Option Addr) (y9 : Nat) (q9 : List Value),(.pointer (some ⟨pA,0,none⟩) : Value) = .pointer (some ⟨p,0,none⟩) ∧ CF uz p (lvs d9 h9 M9 x9 y9) ∧ takeBR d ts (⟨kd,fm,tw,em,le,ta,xm,ms⟩ : MgD) (d9,M9) ∧ LedO uz w16.heap.size d9 h9 (.slice x9 M9.length y9) M9 q9 ∧ w16.heap.size ≤ p ∧ CF uz (w.heap.size) [.int .i64 d.wk,.bool d.up,.int .i64 d.now,.int .i64 d.sn,.int .i64 d.ep,.int .i64 d.gv,.slice h.a1 d.L1.length h.c1,.slice h.a2 d.L2.length h.c2,.slice h.ar d.R.length h.cr,.slice h.aj d.J.length h.cj,.slice h.az d.S.length h.cs,.slice h.ao d.O.length h.co] ∧ CF uz (w.heap.size + 1) [.slice pa pn pc] ∧ CF uz (w.heap.size + 2) [.int .i64 kd,.int .i64 fm,.int .i64 tw,.int .i64 em,.int .i64 le,.int .i64 ta,.string xm,.slice ma mn mc] ∧ Below w.heap.size w uz ∧ Below w16.heap.size w16 uz from ⟨pA,d9,h9,M9,x9,y9,q9,rfl,hcz,hF,hOz,hAb,hPWz,hPPz,hPMz,hBz,hzz⟩)
     clear hcz hF hOz hPWz hPPz hPMz hBz hzz huz hgz hO1 hlo1
     go_wp2_with fail
     go_meet
     case rel=>exact HR.out
   ·have hPWu15:=hPWu0.block (Below.heap_alloc u0 (.cells zL.toArray 46) (w.heap.size) (by omega))
    have hPPu15:=hPPu0.block (Below.heap_alloc u0 (.cells zL.toArray 46) (w.heap.size + 1) (by omega))
    have hPMu15:=hPMu0.block (Below.heap_alloc u0 (.cells zL.toArray 46) (w.heap.size + 2) (by omega))
    have hBu15:=hBu0.alloc hBu0.size (.cells zL.toArray 46)
    have hDu15:=hDu0.alloc hDu0.size (.cells zL.toArray 46)
    have hbbu15 : Below u0.heap.size u0 (u0.alloc (.cells zL.toArray 46)):=(Below.refl _ _).alloc (Nat.le_refl _) _
    have hAu15:=CF.made u0 zL.toArray 46
    have hszu15 : (u0.alloc (.cells zL.toArray 46)).heap.size = u0.heap.size + 1:=by simp
    obtain ⟨pA,hpA⟩ : ∃ pA,pA = u0.heap.size:=⟨_,rfl⟩
    rw [← hpA] at hAu15 hszu15
    rw [← hpA]
    obtain ⟨u15,hu15⟩ : ∃ V,V = u0.alloc (.cells zL.toArray 46):=⟨_,rfl⟩
    rw [← hu15] at hPWu15 hPPu15 hPMu15 hBu15 hDu15 hbbu15 hAu15 hszu15
    have eu15 : (.alloc u0 (.cells #[.int .i64 0,.bool false,.int .i64 0,.int .i64 0,.int .i64 0,.int .i64 0,.slice none 0 0,.slice none 0 0,.slice none 0 0,.slice none 0 0,.slice none 0 0,.slice none 0 0,.slice none 0 0] 46) : World) = u15:=hu15.symm
    rw [eu15]
    clear hu15 eu15
    have hzu15 : w16.heap.size ≤ u15.heap.size:=Nat.le_trans hzu0 hbbu15.size
    have hlu15 : w.heap.size + 2 < u15.heap.size:=Nat.lt_of_lt_of_le hlu0 hbbu15.size
    have hAlu15 : pA < u15.heap.size:=by omega
    have hAb : w16.heap.size ≤ pA:=by omega
    have HPA:=hid hpA
    clear hpA
    refine hOne (by kernel_rfl) (hCall (i:=1) (d:=some 97) (f:=8) (args:=#[.agg (bvs d h).toArray]) (l':=(bt 9 151)) (R:=fun v w'=>∃ h2 g2,v = .agg (bvs d h2).toArray ∧ BossO w' u15.heap.size d h2 ∧ h2.a2 = some ⟨g2,0,none⟩ ∧ d.L2.length ≤ h2.c2 ∧ Below u15.heap.size u15 w') rfl (by kernel_rfl) (by kernel_rfl) (by kernel_rfl) (run_cl1 _ _ rfl (by kernel_rfl) rfl enter_toB) ((toBossO_any d h _ (hM.below' hBu15) hs).mono fun _ _ ⟨⟨h2,g2,he,ho,ha,hc⟩,hb⟩=>⟨_,he,h2,g2,rfl,ho,ha,hc,hb⟩) ?_)
    rintro _ u16 ⟨h2,g2,rfl,ho2,ha2,hc2,hbu16⟩
    have hPWu16:=hPWu15.block (hbu16.block (w.heap.size) (by omega))
    have hPPu16:=hPPu15.block (hbu16.block (w.heap.size + 1) (by omega))
    have hPMu16:=hPMu15.block (hbu16.block (w.heap.size + 2) (by omega))
    have hBu16:=hBu15.trans (hbu16.mono hBu15.size)
    have hzu16 : w16.heap.size ≤ u16.heap.size:=Nat.le_trans hzu15 hbu16.size
    have hlu16 : w.heap.size + 2 < u16.heap.size:=Nat.lt_of_lt_of_le hlu15 hbu16.size
    have hDu16:=hDu15.trans (hbu16.mono hzu15)
    have h2mu16:=ho2.m hfit
    have HA2:=hid ha2
    clear ho2 ha2
    have hAu16:=hAu15.block (hbu16.block pA (by omega))
    have hAlu16 : pA < u16.heap.size:=Nat.lt_of_lt_of_le hAlu15 hbu16.size
    refine ⟨⟨hPWu16,hPPu16,hPMu16⟩,?_⟩
    refine hOne (by kernel_rfl) (hCall (i:=3) (d:=some 99) (f:=9) (args:=#[.agg #[.slice pa pn pc]]) (l':=(bt 9 159)) (R:=fun v w'=>∃ g,v = .agg #[.slice (some ⟨g,0,none⟩) pn pn] ∧ TasksAt w' (some ⟨g,0,none⟩) g 0 pn ts ∧ Below u16.heap.size u16 w') rfl (by kernel_rfl) (by kernel_rfl) (by kernel_rfl) (run_cl1 _ _ rfl (by kernel_rfl) rfl enter_toP) ((toPlan_any pa pb po pn pc ts _ (hp.below' hBu16) hpn).mono fun _ _ ⟨g,xs,he,_,_,ht,hb⟩=>⟨_,he,g,rfl,ht,hb⟩) ?_)
    rintro _ u17 ⟨g3,rfl,ht3,hbu17⟩
    have hPWu17:=hPWu16.block (hbu17.block (w.heap.size) (by omega))
    have hPPu17:=hPPu16.block (hbu17.block (w.heap.size + 1) (by omega))
    have hPMu17:=hPMu16.block (hbu17.block (w.heap.size + 2) (by omega))
    have hBu17:=hBu16.trans (hbu17.mono hBu16.size)
    have hzu17 : w16.heap.size ≤ u17.heap.size:=Nat.le_trans hzu16 hbu17.size
    have hlu17 : w.heap.size + 2 < u17.heap.size:=Nat.lt_of_lt_of_le hlu16 hbu17.size
    have hDu17:=hDu16.trans (hbu17.mono hzu16)
    have h2mu17:=h2mu16.below' hbu17
    have ht3u17:=ht3
    have hAu17:=hAu16.block (hbu17.block pA (by omega))
    have hAlu17 : pA < u17.heap.size:=Nat.lt_of_lt_of_le hAlu16 hbu17.size
    refine ⟨⟨hPWu17,hPPu17,hPMu17⟩,?_⟩
    refine hOne (by kernel_rfl) (hCall (i:=5) (d:=some 101) (f:=10) (args:=#[.agg #[.int .i64 kd,.int .i64 fm,.int .i64 tw,.int .i64 em,.int .i64 le,.int .i64 ta,.string xm,.slice ma mn mc]]) (l':=(bt 9 191)) (R:=fun v w'=>∃ g,v = .agg #[.int .i64 kd,.int .i64 fm,.int .i64 tw,.int .i64 em,.int .i64 le,.int .i64 ta,.string xm,.slice (some ⟨g,0,none⟩) mn mn] ∧ OwnC u17.heap.size w' 1 g 0 mn mn (ms.map Value.string) ∧ Below u17.heap.size u17 w') rfl (by kernel_rfl) (by kernel_rfl) (by kernel_rfl) (run_cl1 _ _ rfl (by kernel_rfl) rfl enter_toM) ((toMessage_any kd fm tw em le ta xm ma mb mo mn mc ms _ (hm.below' hBu17) hmn).mono fun _ _ ⟨⟨g,he,ho⟩,hb⟩=>⟨_,he,g,rfl,ho,hb⟩) ?_)
    rintro _ u18 ⟨g7,rfl,ho7,hbu18⟩
    have hPWu18:=hPWu17.block (hbu18.block (w.heap.size) (by omega))
    have hPPu18:=hPPu17.block (hbu18.block (w.heap.size + 1) (by omega))
    have hPMu18:=hPMu17.block (hbu18.block (w.heap.size + 2) (by omega))
    have hBu18:=hBu17.trans (hbu18.mono hBu17.size)
    have hzu18 : w16.heap.size ≤ u18.heap.size:=Nat.le_trans hzu17 hbu18.size
    have hlu18 : w.heap.size + 2 < u18.heap.size:=Nat.lt_of_lt_of_le hlu17 hbu18.size
    have hDu18:=hDu17.trans (hbu18.mono hzu17)
    have h2mu18:=h2mu17.below' hbu18
    have ht3u18:=ht3u17.below' hbu18
    have h7su18:=StrsAt.ofOwn ho7 hm.sz
    clear ho7
    have hAu18:=hAu17.block (hbu18.block pA (by omega))
    have hAlu18 : pA < u18.heap.size:=Nat.lt_of_lt_of_le hAlu17 hbu18.size
    refine ⟨⟨hPWu18,hPPu18,hPMu18⟩,?_⟩
    refine hOne (by kernel_rfl) (hCall (i:=6) (d:=some 102) (f:=11) (args:=#[.agg (bvs d h2).toArray,.agg #[.slice (some ⟨g3,0,none⟩) pn pn],.agg #[.int .i64 kd,.int .i64 fm,.int .i64 tw,.int .i64 em,.int .i64 le,.int .i64 ta,.string xm,.slice (some ⟨g7,0,none⟩) mn mn]]) (l':=(bt 9 255)) (R:=fun v w'=>∃ d9 h9 M9 x9 y9 q9,v = .agg (lvs d9 h9 M9 x9 y9).toArray ∧ LedO w' u18.heap.size d9 h9 (.slice x9 M9.length y9) M9 q9 ∧ takeBR d ts (⟨kd,fm,tw,em,le,ta,xm,ms⟩ : MgD) (d9,M9) ∧ Below u18.heap.size u18 w') rfl (by kernel_rfl) (by kernel_rfl) (by kernel_rfl) (run_cl3 _ _ _ _ rfl (by kernel_rfl) (by kernel_rfl) (by kernel_rfl) rfl enter_iTake) ((iTakeL_any d h2 _ g3 0 pn pn ts kd fm tw em le ta xm ms _ g7 0 mn mn _ h2mu18 ht3u18 hs h7su18 (hTab.below' hBu18)).mono fun e _ ⟨⟨d9,h9,M9,x9,y9,q9,he,ho,hf⟩,hb⟩=>⟨_,he,d9,h9,M9,x9,y9,q9,rfl,ho,hf,hb⟩) ?_)
    rintro _ u19 ⟨d9,h9,M9,x9,y9,q9,rfl,hO1,hF,hbu19⟩
    have hPWu19:=hPWu18.block (hbu19.block (w.heap.size) (by omega))
    have hPPu19:=hPPu18.block (hbu19.block (w.heap.size + 1) (by omega))
    have hPMu19:=hPMu18.block (hbu19.block (w.heap.size + 2) (by omega))
    have hBu19:=hBu18.trans (hbu19.mono hBu18.size)
    have hzu19 : w16.heap.size ≤ u19.heap.size:=Nat.le_trans hzu18 hbu19.size
    have hlu19 : w.heap.size + 2 < u19.heap.size:=Nat.lt_of_lt_of_le hlu18 hbu19.size
    have hDu19:=hDu18.trans (hbu19.mono hzu18)
    have h2mu19:=h2mu18.below' hbu19
    have ht3u19:=ht3u18.below' hbu19
    have h7su19:=h7su18.below' hbu19
    have hlo1:=hO1.lo
    have hO1:=hO1.mono hzu18
    have hAu19:=hAu18.block (hbu19.block pA (by omega))
    have hAlu19 : pA < u19.heap.size:=Nat.lt_of_lt_of_le hAlu18 hbu19.size
    refine ⟨⟨hPWu19,hPPu19,hPMu19⟩,?_⟩
    obtain ⟨uz,huz⟩ : ∃ uz,uz = u19.setCells pA 0 (lvs d9 h9 M9 x9 y9):=⟨_,rfl⟩
    have hcz : CF uz pA (lvs d9 h9 M9 x9 y9):=by rw [huz];exact hAu19.stored rfl
    have hgz : u19.grownBy uz (some pA):=by rw [huz];exact grown_setCells _ _ _ _ _ (World.grownBy.refl _ _)
    have hPWz:=hPWu19.block (hgz.block (w.heap.size) (by omega) (by simp;omega))
    have hPPz:=hPPu19.block (hgz.block (w.heap.size + 1) (by omega) (by simp;omega))
    have hPMz:=hPMu19.block (hgz.block (w.heap.size + 2) (by omega) (by simp;omega))
    have hBz:=below_grown hBu19 hgz (by omega) (fun k hk=>by simp at hk;omega)
    have hOz:=hO1.grew (Grew.of hgz) (fun r hr q hq r' hr' e=>by
     obtain rfl:=List.mem_singleton.1 hr
     injection hq with hq
     have h5:=hlo1 r' hr' q e
     have h6:=HPA.out
     omega)
    have hzz:=below_grown hDu19 hgz (by omega) (fun k hk=>by simp at hk;omega)
    refine hOne (by kernel_rfl) (hSkip (i:=8) (w':=uz) (l':=(bt 9 511)) rfl (by kernel_rfl) (by kernel_rfl) (by kernel_rfl) (by rw [huz];exact run_stT 46 zL (lvs d9 h9 M9 x9 y9) (.tmp 16) (.tmp 102) (by kernel_rfl) (by kernel_rfl) (by kernel_rfl) hAu19 rfl Tryz.sizeLd (lvs_one d9 h9 M9 x9 y9)) ⟨hPWz,hPPz,hPMz⟩ ?_)
    refine wpAnyH_done (by kernel_rfl) ?_ _
    have HR:=hid (show ∃ (p : Nat) (d9 : BD) (h9 : BH) (M9 : List MgD) (x9 : Option Addr) (y9 : Nat) (q9 : List Value),(.pointer (some ⟨pA,0,none⟩) : Value) = .pointer (some ⟨p,0,none⟩) ∧ CF uz p (lvs d9 h9 M9 x9 y9) ∧ takeBR d ts (⟨kd,fm,tw,em,le,ta,xm,ms⟩ : MgD) (d9,M9) ∧ LedO uz w16.heap.size d9 h9 (.slice x9 M9.length y9) M9 q9 ∧ w16.heap.size ≤ p ∧ CF uz (w.heap.size) [.int .i64 d.wk,.bool d.up,.int .i64 d.now,.int .i64 d.sn,.int .i64 d.ep,.int .i64 d.gv,.slice h.a1 d.L1.length h.c1,.slice h.a2 d.L2.length h.c2,.slice h.ar d.R.length h.cr,.slice h.aj d.J.length h.cj,.slice h.az d.S.length h.cs,.slice h.ao d.O.length h.co] ∧ CF uz (w.heap.size + 1) [.slice pa pn pc] ∧ CF uz (w.heap.size + 2) [.int .i64 kd,.int .i64 fm,.int .i64 tw,.int .i64 em,.int .i64 le,.int .i64 ta,.string xm,.slice ma mn mc] ∧ Below w.heap.size w uz ∧ Below w16.heap.size w16 uz from ⟨pA,d9,h9,M9,x9,y9,q9,rfl,hcz,hF,hOz,hAb,hPWz,hPPz,hPMz,hBz,hzz⟩)
    clear hcz hF hOz hPWz hPPz hPMz hBz hzz huz hgz hO1 hlo1
    go_wp2_with fail
    go_meet
    case rel=>exact HR.out
  case rest =>
   obtain ⟨p2,d2,h7,M2,x7,y7,q7,rfl,hX,hF2,hO,hpb,hPW2,hPP2,hPM2,hBwd,hbd⟩:=hcut
   have hun:=HF.out.uniq hF2
   injection hun with hun1 hun2
   subst hun1 hun2
   have O2:=hid hO
   have MH:=hid (show CF wc p2 [.int .i64 d1.wk,.bool d1.up,.int .i64 d1.now,.int .i64 d1.sn,.int .i64 d1.ep,.int .i64 d1.gv,.slice h7.a1 d1.L1.length h7.c1,.slice h7.a2 d1.L2.length h7.c2,.slice h7.ar d1.R.length h7.cr,.slice h7.aj d1.J.length h7.cj,.slice h7.az d1.S.length h7.cs,.slice h7.ao d1.O.length h7.co,.slice x7 M1.length y7] from hX)
   clear hX hF2 hO hpb hPW2 hPP2 hPM2 hBwd
   have hBwc:=hBw16.trans (hbd.mono hBw16.size)
   have zwc:=hid (hbd.size)
   have MW_wc:=hid (MW_w16.out.belowS hbd)
   clear MW_w16
   have OV_wc:=hid (OV_w16.out.below hbd)
   clear OV_w16
   have MG_wc:=hid (MG_w16.out.belowS hbd)
   clear MG_w16
   have MK_wc:=hid (MK_w16.out.below hbd)
   clear MK_w16
   clear hbd hBw16
   obtain ⟨c0,c1,c2,c3,c4,c5,c6,c7,c8,c9,c10,c11,c12⟩:=cf13 MH.out
   obtain ⟨kq0,kq1,kq2,kq3,kq4,kq5,kq6,kq7,kq8,kq9,kq10,kq11,kq12⟩:=cf13 MW_wc.out
   go_wp2_with fail
   refine (eqLedO_any d1 M1 h7 h1 x7 x1 y7 y1 q7 q1 _ _ _ O2.out OV_wc.out hg1.out).mono ?_
   rintro e' w18 ⟨rfl,hb⟩
   clear c0 c1 c2 c3 c4 c5 c6 c7 c8 c9 c10 c11 c12
   clear kq0 kq1 kq2 kq3 kq4 kq5 kq6 kq7 kq8 kq9 kq10 kq11 kq12
   have hBw18:=hBwc.trans (hb.mono hBwc.size)
   have zw18:=hid (hb.size)
   have MW_w18:=hid (MW_wc.out.belowS hb)
   clear MW_wc
   have OV_w18:=hid (OV_wc.out.below hb)
   clear OV_wc
   have MG_w18:=hid (MG_wc.out.belowS hb)
   clear MG_wc
   have MK_w18:=hid (MK_wc.out.below hb)
   clear MK_wc
   have O2_w18:=hid (O2.out.below hb)
   clear O2
   have MH_w18:=hid (MH.out.belowS hb)
   clear MH
   clear hb hBwc
   obtain ⟨c0,c1,c2,c3,c4,c5,c6,c7,c8,c9,c10,c11,c12⟩:=cf13 MG_w18.out
   go_wp2_with fail
   refine (heldLedO_any d1 M1 h6 x6 y6 q6 _ _ MK_w18.out hg1.out).mono ?_
   rintro e' w19 ⟨rfl,hb⟩
   clear c0 c1 c2 c3 c4 c5 c6 c7 c8 c9 c10 c11 c12
   have hBw19:=hBw18.trans (hb.mono hBw18.size)
   have zw19:=hid (hb.size)
   have MW_w19:=hid (MW_w18.out.belowS hb)
   clear MW_w18
   have OV_w19:=hid (OV_w18.out.below hb)
   clear OV_w18
   have MG_w19:=hid (MG_w18.out.belowS hb)
   clear MG_w18
   have MK_w19:=hid (MK_w18.out.below hb)
   clear MK_w18
   have O2_w19:=hid (O2_w18.out.below hb)
   clear O2_w18
   have MH_w19:=hid (MH_w18.out.belowS hb)
   clear MH_w18
   clear hb hBw18
   go_wp2
   go_ret
   exact ⟨rfl,hBw19⟩
end Go.Proofs.YtaeomkpofcbmiaaGreatDoor
