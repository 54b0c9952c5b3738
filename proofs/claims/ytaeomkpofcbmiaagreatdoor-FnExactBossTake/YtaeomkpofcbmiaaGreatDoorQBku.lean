
import Derived.Test.YtaeomkpofcbmiaaGreatDoorQBtr
import Derived.Test.YtaeomkpofcbmiaaGreatDoorQBtb
import Derived.Test.YtaeomkpofcbmiaaGreatDoorQBkf
import Derived.Test.YtaeomkpofcbmiaaGreatDoorQMsgAll
set_option maxHeartbeats 8000000
set_option maxRecDepth 100000
namespace Go.Proofs.YtaeomkpofcbmiaaGreatDoor
open Go.RowKit
theorem Tryz.sizeMgT : (Tryz.prog.info? 53).map (·.size) = some 8:=by kernel_rfl
theorem run_notB {ρ : Operand → Value} {o : Oper} {w : World} (x : Operand) (b : Bool) (h : o.op = .unOp .not 4 x) (hx : ρ x = .bool b) : (execOp ρ o).run Tryz.prog w = .ok (.value (.bool (!b))) w:=by
 unfold execOp;rw [h];simp [go_sem,hx]
theorem enter_vMsg (v1 : Value) (w : World) : Sem.run Tryz.prog (callFunc 83 #[v1]) w = .ok (.enter 83 #[v1]) w:=by kernel_rfl
theorem takeB_no {d : BD} {ts : List TaskD} {m : MgD} (h : ¬ (d.up = true ∧ m.ok ∧ m.tw = 0 ∧ m.fm ≤ d.wk)) : takeB d ts m = d:=by unfold takeB;rw [if_neg h]
theorem takeB_5 {d : BD} {ts : List TaskD} {m : MgD} (h : d.up = true ∧ m.ok ∧ m.tw = 0 ∧ m.fm ≤ d.wk) (hk : m.kd = 5) : takeB d ts m = hereB d m:=by unfold takeB;rw [if_pos h,if_pos hk]
theorem takeB_2 {d : BD} {ts : List TaskD} {m : MgD} (h : d.up = true ∧ m.ok ∧ m.tw = 0 ∧ m.fm ≤ d.wk) (hk : m.kd = 2) : takeB d ts m = beatB d m:=by unfold takeB;rw [if_pos h,if_neg (by omega),if_pos hk]
theorem takeB_3 {d : BD} {ts : List TaskD} {m : MgD} (h : d.up = true ∧ m.ok ∧ m.tw = 0 ∧ m.fm ≤ d.wk) (hk : m.kd = 3) : takeB d ts m = resB d ts m:=by unfold takeB;rw [if_pos h,if_neg (by omega),if_neg (by omega),if_pos hk]
theorem take_any (w0 : World) (B Qd Qp : Nat) (ts : List TaskD) (pb po pc nb : Nat) (d : BD) (h : BH) (X : DataW Unit) (kd fm tw ep le ta : Int) (x : ByteArray) (ss : List ByteArray) (ua : Option Addr) (ub uo uc : Nat) (w : World) (s : TmS w0 B Qd Qp ts (some ⟨pb,po,none⟩) pc nb d h w) (hX : w.ownsMap Tryz.prog 3 (plainElem Tryz.prog 3) Qp d.J.length X) (hLP : LastP X d.J d.J.length) (hB : B = w0.heap.size) (hf : d.fits) (hok : d.ok ts) (hT : TasksAt w0 (some ⟨pb,po,none⟩) pb po ts.length ts) (hTab : Tab w0) (hst : StrsAt w0 ua ub uo ss.length ss) :
  Calls Tryz.prog 40 #[.pointer (some ⟨Qd,0,none⟩),.agg #[.int .i64 kd,.int .i64 fm,.int .i64 tw,.int .i64 ep,.int .i64 le,.int .i64 ta,.string x,.slice ua ss.length uc]] w fun e w'=>e = .returned (.tuple #[]) ∧ ∃ h' nb',TmS w0 B Qd Qp ts (some ⟨pb,po,none⟩) pc nb' (takeB d ts (⟨kd,fm,tw,ep,le,ta,x,ss⟩ : MgD)) h' w':=by
 obtain ⟨W,hW⟩ : ∃ V,V = w.alloc (.cells #[.int .i64 kd,.int .i64 fm,.int .i64 tw,.int .i64 ep,.int .i64 le,.int .i64 ta,.string x,.slice ua ss.length uc] 53):=⟨_,rfl⟩
 obtain ⟨Qx,hQx⟩ : ∃ q,q = w.heap.size:=⟨_,rfl⟩
 have hbW : Below w.heap.size w W:=by rw [hW];exact (Below.refl _ _).alloc (Nat.le_refl _) _
 have cW : CF W Qx [.int .i64 kd,.int .i64 fm,.int .i64 tw,.int .i64 ep,.int .i64 le,.int .i64 ta,.string x,.slice ua ss.length uc]:=by rw [hW,hQx];exact CF.made w #[.int .i64 kd,.int .i64 fm,.int .i64 tw,.int .i64 ep,.int .i64 le,.int .i64 ta,.string x,.slice ua ss.length uc] 53
 have KW : TmS w0 B Qd Qp ts (some ⟨pb,po,none⟩) pc nb d h W ∧ CF W Qx [.int .i64 kd,.int .i64 fm,.int .i64 tw,.int .i64 ep,.int .i64 le,.int .i64 ta,.string x,.slice ua ss.length uc] ∧ Qx < W.heap.size ∧ W.ownsMap Tryz.prog 3 (plainElem Tryz.prog 3) Qp d.J.length X:=⟨s.below hbW,cW,by rw [hW,hQx];simp,by rw [hW];exact hX.alloc _⟩
 have HW:=hid hW
 have HQ:=hid hQx
 have HB:=hid hB
 have HFF:=hid hf
 have HTT:=hid hT
 have HLP:=hid hLP
 have HOK:=hid hok
 have HTA:=hid hTab
 have HSA:=hid hst
 clear hW hQx hbW s cW hB hf hT hX hLP hok hTab hst
 go_enter Tryz.func40,Tryz.ntmps40
 go_upto_region 1 with fail
 rw [← HW.out,← HQ.out]
 clear HW HQ
 go_cut [24] (fun c wx=>∃ b : Bool,c = .bool b ∧ (b = false ↔ d.up = true ∧ vM kd fm tw ep le ta x.size ss ∧ fm ≤ d.wk) ∧ TmS w0 B Qd Qp ts (some ⟨pb,po,none⟩) pc nb d h wx ∧ CF wx Qx [.int .i64 kd,.int .i64 fm,.int .i64 tw,.int .i64 ep,.int .i64 le,.int .i64 ta,.string x,.slice ua ss.length uc] ∧ Qx < wx.heap.size ∧ wx.ownsMap Tryz.prog 3 (plainElem Tryz.prog 3) Qp d.J.length X)
 case first =>
  refine wp_region_held (S:=fun w'=>w'.cell? ⟨Qd,1,none⟩ = some (.bool d.up) ∧ w'.cell? ⟨Qd,0,none⟩ = some (.int .i64 d.wk) ∧ CF w' Qx [.int .i64 kd,.int .i64 fm,.int .i64 tw,.int .i64 ep,.int .i64 le,.int .i64 ta,.string x,.slice ua ss.length uc]) (by kernel_rfl) ?_
  change wpAnyH _ _ _ _ _ _ _ _ (World.drew _)
  have hbd : Below W.heap.size W W.drew:=(Below.refl _ _).drew
  have K0 : TmS w0 B Qd Qp ts (some ⟨pb,po,none⟩) pc nb d h W.drew ∧ CF W.drew Qx [.int .i64 kd,.int .i64 fm,.int .i64 tw,.int .i64 ep,.int .i64 le,.int .i64 ta,.string x,.slice ua ss.length uc] ∧ Qx < W.drew.heap.size ∧ W.drew.ownsMap Tryz.prog 3 (plainElem Tryz.prog 3) Qp d.J.length X:=⟨KW.1.below hbd,KW.2.1,KW.2.2.1,KW.2.2.2.kept (row:=none) ⟨hbd.os,hbd.tape,hbd.output,hbd.size,fun i hi _=>hbd.block i hi⟩ (by simp)⟩
  obtain ⟨x0,hx0⟩ : ∃ U,U = W.drew:=⟨_,rfl⟩
  rw [← hx0] at K0
  rw [← hx0]
  clear hx0 KW hbd
  have hS0 : x0.cell? ⟨Qd,1,none⟩ = some (.bool d.up) ∧ x0.cell? ⟨Qd,0,none⟩ = some (.int .i64 d.wk) ∧ CF x0 Qx [.int .i64 kd,.int .i64 fm,.int .i64 tw,.int .i64 ep,.int .i64 le,.int .i64 ta,.string x,.slice ua ss.length uc]:=⟨(K0.1.T.D 1 (by simp [bvs])).1,(K0.1.T.D 0 (by simp [bvs])).1,K0.2.1⟩
  have HTB:=hid (HTA.out.below' (HB.out ▸ K0.1.T.hb))
  have HST:=hid (HSA.out.below' (HB.out ▸ K0.1.T.hb))
  rcases Bool.eq_false_or_eq_true d.up with hup | hup
  rotate_left
  ·
   refine hTk (i:=0) (d:=some 4) (v:=.pointer (some ⟨Qd,0,none⟩)) (l':=(bt 21 1)) rfl (fun _ hc=>run_mvF (.tmp 0) (by kernel_rfl) (by kernel_rfl)) hS0 ?_
   refine hTk (i:=1) (d:=some 5) (v:=.pointer (some ⟨Qd,0,none⟩)) (l':=(bt 21 3)) rfl (fun _ hc=>run_nc (.tmp 4) (by kernel_rfl) (by kernel_rfl)) hS0 ?_
   refine hTk (i:=2) (d:=some 6) (v:=.pointer (some ⟨Qd,0,none⟩)) (l':=(bt 21 7)) rfl (fun _ hc=>run_faD0 (.tmp 5) (by kernel_rfl) (by kernel_rfl)) hS0 ?_
   refine hTk (i:=3) (d:=some 7) (v:=.pointer (some ⟨Qd,1,none⟩)) (l':=(bt 21 15)) rfl (fun _ hc=>run_fB1 (.tmp 6) (by kernel_rfl) (by kernel_rfl)) hS0 ?_
   refine hTk (i:=4) (d:=some 8) (v:=.bool false) (l':=(bt 21 31)) rfl (fun _ hc=>run_ldBo (.tmp 7) (by kernel_rfl) (by kernel_rfl) (hup ▸ hc.1)) hS0 ?_
   refine hTk (i:=5) (d:=some 9) (v:=.bool true) (l':=(bt 21 63)) rfl (fun _ hc=>run_notB (.tmp 8) false (by kernel_rfl) (by kernel_rfl)) hS0 ?_
   refine hTk (i:=6) (d:=some 10) (v:=.bool true) (l':=(bt 21 127)) rfl (fun _ hc=>run_mvF (.tmp 9) (by kernel_rfl) (by kernel_rfl)) hS0 ?_
   refine hTn (i:=7) (d:=some 11) (l':=(bt 21 255)) rfl hS0 ?_
   refine hTn (i:=8) (d:=some 12) (l':=(bt 21 511)) rfl hS0 ?_
   refine hTn (i:=9) (d:=some 13) (l':=(bt 21 1023)) rfl hS0 ?_
   refine hTk (i:=10) (d:=some 14) (v:=.bool true) (l':=(bt 21 2047)) rfl (fun _ hc=>run_pkB (.tmp 10) (.const (.bool true)) (.tmp 13) _ (by kernel_rfl) (by kernel_rfl) (by kernel_rfl)) hS0 ?_
   refine hTk (i:=11) (d:=some 15) (v:=.bool true) (l':=(bt 21 4095)) rfl (fun _ hc=>run_mvF (.tmp 14) (by kernel_rfl) (by kernel_rfl)) hS0 ?_
   refine hTn (i:=12) (d:=some 16) (l':=(bt 21 8191)) rfl hS0 ?_
   refine hTn (i:=13) (d:=some 17) (l':=(bt 21 16383)) rfl hS0 ?_
   refine hTn (i:=14) (d:=some 18) (l':=(bt 21 32767)) rfl hS0 ?_
   refine hTn (i:=15) (d:=some 19) (l':=(bt 21 65535)) rfl hS0 ?_
   refine hTn (i:=16) (d:=some 20) (l':=(bt 21 131071)) rfl hS0 ?_
   refine hTn (i:=17) (d:=some 21) (l':=(bt 21 262143)) rfl hS0 ?_
   refine hTn (i:=18) (d:=some 22) (l':=(bt 21 524287)) rfl hS0 ?_
   refine hTn (i:=19) (d:=some 23) (l':=(bt 21 1048575)) rfl hS0 ?_
   refine hTk (i:=20) (d:=some 24) (v:=.bool true) (l':=(bt 21 2097151)) rfl (fun _ hc=>run_pkB (.tmp 15) (.const (.bool true)) (.tmp 23) _ (by kernel_rfl) (by kernel_rfl) (by kernel_rfl)) hS0 ?_
   refine wpAnyH_done (by kernel_rfl) ?_ _
   have HREL:=hid (show ∃ b : Bool,(.bool true : Value) = .bool b ∧ (b = false ↔ d.up = true ∧ vM kd fm tw ep le ta x.size ss ∧ fm ≤ d.wk) ∧ TmS w0 B Qd Qp ts (some ⟨pb,po,none⟩) pc nb d h x0 ∧ CF x0 Qx [.int .i64 kd,.int .i64 fm,.int .i64 tw,.int .i64 ep,.int .i64 le,.int .i64 ta,.string x,.slice ua ss.length uc] ∧ Qx < x0.heap.size ∧ x0.ownsMap Tryz.prog 3 (plainElem Tryz.prog 3) Qp d.J.length X from ⟨true,rfl,⟨fun h=>(by cases h),fun h=>(by rw [hup] at h;cases h.1)⟩,K0⟩)
   clear hS0
   (try clear hS1)
   go_simp
   go_wp2_with fail
   go_meet
   case rel=>exact HREL.out
  ·
   refine hTk (i:=0) (d:=some 4) (v:=.pointer (some ⟨Qd,0,none⟩)) (l':=(bt 21 1)) rfl (fun _ hc=>run_mvF (.tmp 0) (by kernel_rfl) (by kernel_rfl)) hS0 ?_
   refine hTk (i:=1) (d:=some 5) (v:=.pointer (some ⟨Qd,0,none⟩)) (l':=(bt 21 3)) rfl (fun _ hc=>run_nc (.tmp 4) (by kernel_rfl) (by kernel_rfl)) hS0 ?_
   refine hTk (i:=2) (d:=some 6) (v:=.pointer (some ⟨Qd,0,none⟩)) (l':=(bt 21 7)) rfl (fun _ hc=>run_faD0 (.tmp 5) (by kernel_rfl) (by kernel_rfl)) hS0 ?_
   refine hTk (i:=3) (d:=some 7) (v:=.pointer (some ⟨Qd,1,none⟩)) (l':=(bt 21 15)) rfl (fun _ hc=>run_fB1 (.tmp 6) (by kernel_rfl) (by kernel_rfl)) hS0 ?_
   refine hTk (i:=4) (d:=some 8) (v:=.bool true) (l':=(bt 21 31)) rfl (fun _ hc=>run_ldBo (.tmp 7) (by kernel_rfl) (by kernel_rfl) (hup ▸ hc.1)) hS0 ?_
   refine hTk (i:=5) (d:=some 9) (v:=.bool false) (l':=(bt 21 63)) rfl (fun _ hc=>run_notB (.tmp 8) true (by kernel_rfl) (by kernel_rfl)) hS0 ?_
   refine hTk (i:=6) (d:=some 10) (v:=.bool false) (l':=(bt 21 127)) rfl (fun _ hc=>run_mvF (.tmp 9) (by kernel_rfl) (by kernel_rfl)) hS0 ?_
   refine hTk (i:=7) (d:=some 11) (v:=.agg #[.int .i64 kd,.int .i64 fm,.int .i64 tw,.int .i64 ep,.int .i64 le,.int .i64 ta,.string x,.slice ua ss.length uc]) (l':=(bt 21 255)) rfl (fun _ hc=>run_ldT 53 _ [.int .i64 kd,.int .i64 fm,.int .i64 tw,.int .i64 ep,.int .i64 le,.int .i64 ta,.string x,.slice ua ss.length uc] (.tmp 3) (by kernel_rfl) (by kernel_rfl) hc.2.2 Tryz.underlying53 rfl Tryz.sizeMgT) hS0 ?_
   refine hOneC (i:=8) (by kernel_rfl) (d:=some 12) (f:=83) (args:=#[.agg #[.int .i64 kd,.int .i64 fm,.int .i64 tw,.int .i64 ep,.int .i64 le,.int .i64 ta,.string x,.slice ua ss.length uc]]) (l':=(bt 21 511)) (R:=fun v u=>(∃ r : Bool,v = .bool r ∧ (r = true ↔ vM kd fm tw ep le ta x.size ss)) ∧ Below x0.heap.size x0 u) rfl (by kernel_rfl) (by kernel_rfl) (by kernel_rfl) (run_cl1 _ _ rfl (by kernel_rfl) rfl enter_vMsg) ((valid_any kd fm tw ep le ta x ua ub uo ss.length uc ss x0 HTB.out HST.out).mono fun _ _ ⟨⟨r,he,hr⟩,hb⟩=>⟨_,he,⟨r,rfl,hr⟩,hb⟩) ?_
   rintro _ x1 ⟨⟨r,rfl,hr⟩,hb1⟩
   have hS1 : x1.cell? ⟨Qd,1,none⟩ = some (.bool d.up) ∧ x1.cell? ⟨Qd,0,none⟩ = some (.int .i64 d.wk) ∧ CF x1 Qx [.int .i64 kd,.int .i64 fm,.int .i64 tw,.int .i64 ep,.int .i64 le,.int .i64 ta,.string x,.slice ua ss.length uc]:=⟨keepB hb1 hS0.1,keepB hb1 hS0.2.1,hS0.2.2.block (hb1.block Qx K0.2.2.1)⟩
   have K1 : TmS w0 B Qd Qp ts (some ⟨pb,po,none⟩) pc nb d h x1 ∧ CF x1 Qx [.int .i64 kd,.int .i64 fm,.int .i64 tw,.int .i64 ep,.int .i64 le,.int .i64 ta,.string x,.slice ua ss.length uc] ∧ Qx < x1.heap.size ∧ x1.ownsMap Tryz.prog 3 (plainElem Tryz.prog 3) Qp d.J.length X:=⟨K0.1.below hb1,K0.2.1.block (hb1.block Qx K0.2.2.1),Nat.lt_of_lt_of_le K0.2.2.1 hb1.size,K0.2.2.2.kept (row:=none) ⟨hb1.os,hb1.tape,hb1.output,hb1.size,fun i hi _=>hb1.block i hi⟩ (by simp)⟩
   refine ⟨hS1,?_⟩
   cases r with
   | false =>
    refine hTk (i:=9) (d:=some 13) (v:=.bool true) (l':=(bt 21 1023)) rfl (fun _ hc=>run_notB (.tmp 12) false (by kernel_rfl) (by kernel_rfl)) hS1 ?_
    refine hTk (i:=10) (d:=some 14) (v:=.bool true) (l':=(bt 21 2047)) rfl (fun _ hc=>run_pkfB (.tmp 10) (.const (.bool true)) (.tmp 13) _ (by kernel_rfl) (by kernel_rfl) (by kernel_rfl)) hS1 ?_
    refine hTk (i:=11) (d:=some 15) (v:=.bool true) (l':=(bt 21 4095)) rfl (fun _ hc=>run_mvF (.tmp 14) (by kernel_rfl) (by kernel_rfl)) hS1 ?_
    refine hTn (i:=12) (d:=some 16) (l':=(bt 21 8191)) rfl hS1 ?_
    refine hTn (i:=13) (d:=some 17) (l':=(bt 21 16383)) rfl hS1 ?_
    refine hTn (i:=14) (d:=some 18) (l':=(bt 21 32767)) rfl hS1 ?_
    refine hTn (i:=15) (d:=some 19) (l':=(bt 21 65535)) rfl hS1 ?_
    refine hTn (i:=16) (d:=some 20) (l':=(bt 21 131071)) rfl hS1 ?_
    refine hTn (i:=17) (d:=some 21) (l':=(bt 21 262143)) rfl hS1 ?_
    refine hTn (i:=18) (d:=some 22) (l':=(bt 21 524287)) rfl hS1 ?_
    refine hTn (i:=19) (d:=some 23) (l':=(bt 21 1048575)) rfl hS1 ?_
    refine hTk (i:=20) (d:=some 24) (v:=.bool true) (l':=(bt 21 2097151)) rfl (fun _ hc=>run_pkB (.tmp 15) (.const (.bool true)) (.tmp 23) _ (by kernel_rfl) (by kernel_rfl) (by kernel_rfl)) hS1 ?_
    refine wpAnyH_done (by kernel_rfl) ?_ _
    have HREL:=hid (show ∃ b : Bool,(.bool true : Value) = .bool b ∧ (b = false ↔ d.up = true ∧ vM kd fm tw ep le ta x.size ss ∧ fm ≤ d.wk) ∧ TmS w0 B Qd Qp ts (some ⟨pb,po,none⟩) pc nb d h x1 ∧ CF x1 Qx [.int .i64 kd,.int .i64 fm,.int .i64 tw,.int .i64 ep,.int .i64 le,.int .i64 ta,.string x,.slice ua ss.length uc] ∧ Qx < x1.heap.size ∧ x1.ownsMap Tryz.prog 3 (plainElem Tryz.prog 3) Qp d.J.length X from ⟨true,rfl,⟨fun h=>(by cases h),fun h=>(by have:=hr.2 h.2.1;cases this)⟩,K1⟩)
    clear hS0
    (try clear hS1)
    go_simp
    go_wp2_with fail
    go_meet
    case rel=>exact HREL.out
   | true =>
    obtain ⟨b3,hb3⟩ : ∃ b,decide (d.wk < fm) = b:=⟨_,rfl⟩
    refine hTk (i:=9) (d:=some 13) (v:=.bool false) (l':=(bt 21 1023)) rfl (fun _ hc=>run_notB (.tmp 12) true (by kernel_rfl) (by kernel_rfl)) hS1 ?_
    refine hTk (i:=10) (d:=some 14) (v:=.bool false) (l':=(bt 21 2047)) rfl (fun _ hc=>run_pkfB (.tmp 10) (.const (.bool true)) (.tmp 13) _ (by kernel_rfl) (by kernel_rfl) (by kernel_rfl)) hS1 ?_
    refine hTk (i:=11) (d:=some 15) (v:=.bool false) (l':=(bt 21 4095)) rfl (fun _ hc=>run_mvF (.tmp 14) (by kernel_rfl) (by kernel_rfl)) hS1 ?_
    refine hTk (i:=12) (d:=some 16) (v:=.pointer (some ⟨Qx,1,none⟩)) (l':=(bt 21 8191)) rfl (fun _ hc=>run_fM1 (.tmp 3) (by kernel_rfl) (by kernel_rfl)) hS1 ?_
    refine hTk (i:=13) (d:=some 17) (v:=.int .i64 fm) (l':=(bt 21 16383)) rfl (fun _ hc=>run_ldInB (.tmp 16) (by kernel_rfl) (by kernel_rfl) (hc.2.2 1 (by simp)).1) hS1 ?_
    refine hTk (i:=14) (d:=some 18) (v:=.pointer (some ⟨Qd,0,none⟩)) (l':=(bt 21 32767)) rfl (fun _ hc=>run_mvF (.tmp 0) (by kernel_rfl) (by kernel_rfl)) hS1 ?_
    refine hTk (i:=15) (d:=some 19) (v:=.pointer (some ⟨Qd,0,none⟩)) (l':=(bt 21 65535)) rfl (fun _ hc=>run_nc (.tmp 18) (by kernel_rfl) (by kernel_rfl)) hS1 ?_
    refine hTk (i:=16) (d:=some 20) (v:=.pointer (some ⟨Qd,0,none⟩)) (l':=(bt 21 131071)) rfl (fun _ hc=>run_faD0 (.tmp 19) (by kernel_rfl) (by kernel_rfl)) hS1 ?_
    refine hTk (i:=17) (d:=some 21) (v:=.pointer (some ⟨Qd,0,none⟩)) (l':=(bt 21 262143)) rfl (fun _ hc=>run_fB0 (.tmp 20) (by kernel_rfl) (by kernel_rfl)) hS1 ?_
    refine hTk (i:=18) (d:=some 22) (v:=.int .i64 d.wk) (l':=(bt 21 524287)) rfl (fun _ hc=>run_ldInB (.tmp 21) (by kernel_rfl) (by kernel_rfl) hc.2.1) hS1 ?_
    refine hTk (i:=19) (d:=some 23) (v:=.bool b3) (l':=(bt 21 1048575)) rfl (fun _ hc=>run_gtB (.tmp 17) (.tmp 22) fm d.wk b3 (by kernel_rfl) (by kernel_rfl) (by kernel_rfl) hb3) hS1 ?_
    refine hTk (i:=20) (d:=some 24) (v:=.bool b3) (l':=(bt 21 2097151)) rfl (fun _ hc=>run_pkfB (.tmp 15) (.const (.bool true)) (.tmp 23) _ (by kernel_rfl) (by kernel_rfl) (by kernel_rfl)) hS1 ?_
    refine wpAnyH_done (by kernel_rfl) ?_ _
    have HREL:=hid (show ∃ b : Bool,(.bool b3 : Value) = .bool b ∧ (b = false ↔ d.up = true ∧ vM kd fm tw ep le ta x.size ss ∧ fm ≤ d.wk) ∧ TmS w0 B Qd Qp ts (some ⟨pb,po,none⟩) pc nb d h x1 ∧ CF x1 Qx [.int .i64 kd,.int .i64 fm,.int .i64 tw,.int .i64 ep,.int .i64 le,.int .i64 ta,.string x,.slice ua ss.length uc] ∧ Qx < x1.heap.size ∧ x1.ownsMap Tryz.prog 3 (plainElem Tryz.prog 3) Qp d.J.length X from ⟨b3,rfl,⟨fun h=>⟨hup,hr.1 rfl,by rw [h] at hb3;have:=of_decide_eq_false hb3;omega⟩,fun h=>by rw [← hb3];exact decide_eq_false (by have:=h.2.2;omega)⟩,K1⟩)
    clear hS0
    (try clear hS1)
    go_simp
    go_wp2_with fail
    go_meet
    case rel=>exact HREL.out
 case rest =>
  obtain ⟨b,rfl,hb,hs,hcx,hlx,hX1⟩:=hcut
  clear KW
  cases b with
  | true =>
   have HF:=hid (show ∃ h' nb',TmS w0 B Qd Qp ts (some ⟨pb,po,none⟩) pc nb' (takeB d ts (⟨kd,fm,tw,ep,le,ta,x,ss⟩ : MgD)) h' wc from ⟨h,nb,by rw [takeB_no (fun hh=>by have:=hb.2 ⟨hh.1,hh.2.1,hh.2.2.2⟩;cases this)];exact hs⟩)
   clear hs hb hcx hX1
   go_wp2_with fail
   (try simp only [Exit.inBlock,Exit.then])
   refine bodyPost_ret (results_none rfl _ _ _) rfl ?_
   exact ⟨rfl,HF.out⟩
  | false =>
   obtain ⟨hup,hvm,hfw⟩:=hb.1 rfl
   clear hb
   have F:=BD.upFs HOK.out hup
   have hBz : w0.heap.size ≤ B:=by rw [HB.out];exact Nat.le_refl _
   obtain ⟨n0,n1,n2,n3,n4,n5,n6,n7⟩:=cf8 hcx
   unfold vM at hvm
   have hsz:=F.s
   rcases hvm with hv | hv | hv | hv | hv
   ·obtain ⟨rfl,hv⟩:=hv
    have HF:=hid (show ∃ h' nb',TmS w0 B Qd Qp ts (some ⟨pb,po,none⟩) pc nb' (takeB d ts (⟨1,fm,tw,ep,le,ta,x,ss⟩ : MgD)) h' wc from ⟨h,nb,by rw [takeB_no (fun hh=>by have:=hh.2.2.1;dsimp only at this;omega)];exact hs⟩)
    clear hs hcx hX1 hv
    go_wp2_with fail
    go_end0
    exact ⟨rfl,HF.out⟩
   ·obtain ⟨rfl,hv⟩:=hv
    have HOKM:=hid (show d.up = true ∧ (⟨2,fm,tw,ep,le,ta,x,ss⟩ : MgD).ok ∧ tw = 0 ∧ fm ≤ d.wk from ⟨hup,.inr (.inl ⟨rfl,hv⟩),hv.1,hfw⟩)
    have HBT:=hid (takeBeat_any w0 B Qd Qp ts (some ⟨pb,po,none⟩) pc nb d h X 2 fm tw ep le ta x ss ua ss.length uc wc hs hX1 HLP.out F.u ⟨by omega,by omega⟩ F.now)
    clear hs hcx hX1 hv F hup hfw hsz
    go_wp2_with fail
    refine HBT.out.mono ?_
    rintro _ w1 ⟨rfl,s1⟩
    have HF:=hid (show ∃ h' nb',TmS w0 B Qd Qp ts (some ⟨pb,po,none⟩) pc nb' (takeB d ts (⟨2,fm,tw,ep,le,ta,x,ss⟩ : MgD)) h' w1 from ⟨h,nb,by rw [takeB_2 HOKM.out rfl];exact s1⟩)
    clear n0 n1 n2 n3 n4 n5 n6 n7
    clear s1 HBT
    go_wp2_with fail
    go_end0
    exact ⟨rfl,HF.out⟩
   ·obtain ⟨rfl,hv⟩:=hv
    obtain ⟨k,rfl⟩ : ∃ k : Nat,fm = (k : Int) + 1:=⟨(fm - 1).toNat,by omega⟩
    obtain ⟨t,rfl⟩ : ∃ t : Nat,ta = (t : Int):=⟨ta.toNat,by omega⟩
    have HOKM:=hid (show d.up = true ∧ (⟨3,(k : Int) + 1,tw,ep,le,(t : Int),x,ss⟩ : MgD).ok ∧ tw = 0 ∧ (k : Int) + 1 ≤ d.wk from ⟨hup,.inr (.inr (.inl ⟨rfl,hv⟩)),hv.1,hfw⟩)
    have HTR:=hid (takeResult_any w0 B Qd Qp ts pb po pc nb d h 3 tw ep le k t x ss ua ss.length uc wc hs HB.out HFF.out (by omega) HTT.out F.t.2.2 F.r F.j F.t.2.1 (by omega) (by omega) (by omega) F.ep F.l F.o)
    clear hs hcx hX1 hv F hup hfw hsz
    go_wp2_with fail
    refine HTR.out.mono ?_
    rintro _ w1 ⟨rfl,h5,s1⟩
    have HF:=hid (show ∃ h' nb',TmS w0 B Qd Qp ts (some ⟨pb,po,none⟩) pc nb' (takeB d ts (⟨3,((k : Int) + 1),tw,ep,le,(t : Int),x,ss⟩ : MgD)) h' w1 from ⟨h5,nb,by rw [takeB_3 HOKM.out rfl];exact s1⟩)
    clear n0 n1 n2 n3 n4 n5 n6 n7
    clear s1 HTR
    go_wp2_with fail
    go_end0
    exact ⟨rfl,HF.out⟩
   ·obtain ⟨rfl,hv⟩:=hv
    have HF:=hid (show ∃ h' nb',TmS w0 B Qd Qp ts (some ⟨pb,po,none⟩) pc nb' (takeB d ts (⟨4,fm,tw,ep,le,ta,x,ss⟩ : MgD)) h' wc from ⟨h,nb,by rw [takeB_no (fun hh=>by have:=hh.2.2.1;dsimp only at this;omega)];exact hs⟩)
    clear hs hcx hX1 hv
    go_wp2_with fail
    go_end0
    exact ⟨rfl,HF.out⟩
   ·obtain ⟨rfl,hv⟩:=hv
    obtain ⟨k,rfl⟩ : ∃ k : Nat,fm = (k : Int) + 1:=⟨(fm - 1).toNat,by omega⟩
    have HOKM:=hid (show d.up = true ∧ (⟨5,(k : Int) + 1,tw,ep,le,ta,x,ss⟩ : MgD).ok ∧ tw = 0 ∧ (k : Int) + 1 ≤ d.wk from ⟨hup,.inr (.inr (.inr (.inr ⟨rfl,hv⟩))),hv.1,hfw⟩)
    have HTH:=hid (takeHere_any w0 wc B wc.heap.size Qd Qp d h ts (some ⟨pb,po,none⟩) pc d.now d.sn d.gv nb d.J d.S 5 tw ep le ta k x ua ss.length uc wc hs.toD (by omega) (by omega) HFF.out.k3 (by have:=F.j;have:=F.t;omega))
    have HBZ:=hid hBz
    clear hs hcx hX1 hv F hup hfw hsz hBz
    go_wp2_with fail
    refine HTH.out.mono ?_
    rintro _ w1 ⟨rfl,wK',Qm',hres⟩
    have HF:=hid (show ∃ h' nb',TmS w0 B Qd Qp ts (some ⟨pb,po,none⟩) pc nb' (takeB d ts (⟨5,((k : Int) + 1),tw,ep,le,ta,x,ss⟩ : MgD)) h' w1 from ⟨h,nb,by
     rw [takeB_5 HOKM.out rfl]
     unfold hereB
     dsimp only
     rcases hres with ⟨hn,s1⟩ | ⟨S',hn,s1⟩
     ·rw [hn];exact s1.toM HBZ.out
     ·rw [hn];exact s1.toM HBZ.out⟩)
    clear n0 n1 n2 n3 n4 n5 n6 n7
    clear hres HTH
    go_wp2_with fail
    go_end0
    exact ⟨rfl,HF.out⟩
end Go.Proofs.YtaeomkpofcbmiaaGreatDoor
