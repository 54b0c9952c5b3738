
import Derived.Test.YtaeomkpofcbmiaaGreatDoorQBfi
import Derived.Test.YtaeomkpofcbmiaaGreatDoorQBjm
import Derived.Test.YtaeomkpofcbmiaaGreatDoorQBtb
import Derived.Test.YtaeomkpofcbmiaaGreatDoorQBoo
set_option maxHeartbeats 4000000
set_option maxRecDepth 100000
namespace Go.Proofs.YtaeomkpofcbmiaaGreatDoor
open Go.RowKit
theorem takeHere_any (w0 wK : World) (B Qm Qd Qp : Nat) (d : BD) (h : BH) (ts : List TaskD) (pa : Option Addr) (pc : Nat) (now sn gv : Int) (nb : Nat) (J : List Tr) (S : List (Bool × Int)) (kd tw ep le ta : Int) (k : Nat) (x : ByteArray) (ua : Option Addr) (un uc : Nat) (w : World) (s : DkS w0 wK B Qm Qd Qp d h ts pa pc now sn nb ⟨gv,J,S,[]⟩ (.slice none 0 0) [] w) (hk : k < d.S.length) (hk8 : k ≤ 100) (hI : Ok3 J) (hnJ : d.J.length ≤ 1048576) :
  Calls Tryz.prog 84 #[.pointer (some ⟨Qd,0,none⟩),.agg #[.int .i64 kd,.int .i64 ((k : Int) + 1),.int .i64 tw,.int .i64 ep,.int .i64 le,.int .i64 ta,.string x,.slice ua un uc]] w fun e w'=>e = .returned (.tuple #[]) ∧ ∃ wK' Qm',(frS S ((k : Int) + 1) ep = none ∧ DkS w0 wK' B Qm' Qd Qp d h ts pa pc now sn nb ⟨gv,J,S,[]⟩ (.slice none 0 0) [] w') ∨ ∃ S',frS S ((k : Int) + 1) ep = some S' ∧ DkS w0 wK' B Qm' Qd Qp d h ts pa pc now sn nb ⟨gv,J.map (leftJ ((k : Int) + 1)),S',[]⟩ (.slice none 0 0) [] w':=by
 have hjl : J.length = d.J.length:=s.H.lj.1
 obtain ⟨a1,a2,ar,aj,az,ao,c1,c2,cr,cj,cs,co⟩:=h
 obtain ⟨bj,oj,haj⟩ : ∃ bj oj : Nat,0 < d.J.length → aj = some ⟨bj,oj,none⟩:=by
  by_cases h0 : 0 < d.J.length
  ·obtain ⟨bj,oj,_,hje,_,_⟩:=s.H.bo.o3.set3 (i:=0) (by show 0 < J.length;omega)
   exact ⟨bj,oj,fun _=>by injection hje with e1 e2 e3⟩
  ·exact ⟨0,0,fun h=>absurd h h0⟩
 obtain ⟨W,hW⟩ : ∃ V,V = w.alloc (.cells #[.int .i64 kd,.int .i64 ((k : Int) + 1),.int .i64 tw,.int .i64 ep,.int .i64 le,.int .i64 ta,.string x,.slice ua un uc] 53):=⟨_,rfl⟩
 obtain ⟨Qx,hQx⟩ : ∃ q,q = w.heap.size:=⟨_,rfl⟩
 have hbW : Below w.heap.size w W:=by rw [hW];exact (Below.refl _ _).alloc (Nat.le_refl _) _
 have cW : CF W Qx [.int .i64 kd,.int .i64 ((k : Int) + 1),.int .i64 tw,.int .i64 ep,.int .i64 le,.int .i64 ta,.string x,.slice ua un uc]:=by rw [hW,hQx];exact CF.made w #[.int .i64 kd,.int .i64 ((k : Int) + 1),.int .i64 tw,.int .i64 ep,.int .i64 le,.int .i64 ta,.string x,.slice ua un uc] 53
 have zW : W.heap.size = Qx + 1:=by rw [hW,hQx];simp
 have hq:=s.q
 have hsz:=s.H.sz
 have hNR : ∀ r ∈ rowsB d ⟨a1,a2,ar,aj,az,ao,c1,c2,cr,cj,cs,co⟩,r ≠ some Qx:=fun r hr e=>by have:=s.H.lo r hr Qx e;omega
 have sW:=(s.below hbW).raise0
 have hX : Qx < W.heap.size ∧ Qx ≠ Qd ∧ Qx ≠ Qp:=⟨by omega,by omega,by omega⟩
 have HFR:=hid (freeSeat_any w0 W B W.heap.size Qd Qp d _ ts pa pc now sn nb _ _ _ kd tw ep le ta k x ua un uc W sW hk hk8)
 obtain ⟨n0,n1,n2,n3,n4,n5,n6,n7⟩:=cf8 cW
 have HCW:=hid cW
 have HNR:=hid hNR
 have HW:=hid hW
 have HQ:=hid hQx
 clear hW hQx hbW s sW cW hNR hq hsz zW
 go_enter Tryz.func84,Tryz.ntmps84
 go_upto_region 1 with fail
 rw [← HW.out,← HQ.out]
 clear HW HQ
 go_wp2_with fail
 refine HFR.out.mono ?_
 rintro _ w1 ⟨S',r,rfl,hfr,s1⟩
 clear HFR n0 n1 n2 n3 n4 n5 n6 n7
 rcases hfr with ⟨hn,rfl,hSS⟩ | ⟨hn,rfl⟩
 ·rw [hSS] at s1
  have HF:=hid (show ∃ wK' Qm',(frS S ((k : Int) + 1) ep = none ∧ DkS w0 wK' B Qm' Qd Qp d ⟨a1,a2,ar,aj,az,ao,c1,c2,cr,cj,cs,co⟩ ts pa pc now sn nb ⟨gv,J,S,[]⟩ (.slice none 0 0) [] w1) ∨ ∃ S',frS S ((k : Int) + 1) ep = some S' ∧ DkS w0 wK' B Qm' Qd Qp d ⟨a1,a2,ar,aj,az,ao,c1,c2,cr,cj,cs,co⟩ ts pa pc now sn nb ⟨gv,J.map (leftJ ((k : Int) + 1)),S',[]⟩ (.slice none 0 0) [] w1 from ⟨_,_,.inl ⟨hn,s1⟩⟩)
  clear hn s1 hSS
  go_wp2_with fail
  (try simp only [Exit.inBlock,Exit.then])
  refine bodyPost_ret (results_none rfl _ _ _) rfl ?_
  exact ⟨rfl,HF.out⟩
 ·have HN:=hid hn
  have y9 : w1.cell? ⟨Qd,9,none⟩ = some (.slice aj d.J.length cj):=(s1.D 9 (by simp)).1
  have HS1:=hid s1
  clear hn s1
  go_wp2_with fail
  clear y9
  go_loopw [16] (fun x wr=>∃ i : Nat,i ≤ d.J.length ∧ x = .int .i64 i ∧ DkS w0 W B W.heap.size Qd Qp d ⟨a1,a2,ar,aj,az,ao,c1,c2,cr,cj,cs,co⟩ ts pa pc now sn nb ⟨gv,jM (leftJ ((k : Int) + 1)) J i,S',[]⟩ (.slice none 0 0) [] wr) (fun x _=>d.J.length - (intOf x).toNat)
  case atStart=>exact ⟨0,Nat.zero_le _,rfl,by rw [jM_zero];exact HS1.out⟩
  case round =>
   clear HS1
   obtain ⟨i,hi,rfl,hs⟩:=hrel
   by_cases hlt : i < d.J.length
   ·have hlt' : (i : Int) < (d.J.length : Int):=by omega
    have hiJ : i < J.length:=by omega
    have hl : i < (jM (leftJ ((k : Int) + 1)) J i).length:=by rw [jM_len];exact hiJ
    obtain rfl:=haj (by omega)
    obtain ⟨lea,hlea⟩ : ∃ q,q = (t3 J i).1:=⟨_,rfl⟩
    obtain ⟨wrk,hwrk⟩ : ∃ q,q = (t3 J i).2.1:=⟨_,rfl⟩
    obtain ⟨unt,hunt⟩ : ∃ q,q = (t3 J i).2.2:=⟨_,rfl⟩
    have hc3 : ∀ r,r < 3 → wr.cell? ⟨bj,oj + (i * 3 + r),none⟩ = [Value.int .i64 (t3 J i).1,.int .i64 (t3 J i).2.1,.int .i64 (t3 J i).2.2][r]?:=fun r hr=>by
     rcases hs.H.bo.o3 with ⟨hx,_⟩ | ⟨g',o'',cap',hx,hc⟩
     ·cases hx
     ·injection hx with e1 e2 e3
      injection e1 with e1
      injection e1 with e4 e5
      subst e4 e5
      rw [hc.holds (i * 3 + r) (by show i * 3 + r < (jM (leftJ ((k : Int) + 1)) J i).length * 3;omega),← jM_get (f:=leftJ ((k : Int) + 1)) hiJ]
      exact c3_get (jM (leftJ ((k : Int) + 1)) J i) i r hl hr
    have j0 : wr.cell? ⟨bj,oj + i * 3,none⟩ = some (.int .i64 lea):=by rw [hlea];exact hc3 0 (by omega)
    have j1 : wr.cell? ⟨bj,oj + i * 3 + 1,none⟩ = some (.int .i64 wrk):=by rw [hwrk];exact hc3 1 (by omega)
    have j2 : wr.cell? ⟨bj,oj + i * 3 + 2,none⟩ = some (.int .i64 unt):=by rw [hunt];exact hc3 2 (by omega)
    have HWK:=hid hwrk
    clear hlea hwrk hunt hc3
    go_upto_region 5 with fail
    obtain ⟨WB,hWB⟩ : ∃ V,V = wr.alloc (.cells #[.int .i64 lea,.int .i64 wrk,.int .i64 unt] 76):=⟨_,rfl⟩
    obtain ⟨Qb,hQb⟩ : ∃ q,q = wr.heap.size:=⟨_,rfl⟩
    have hbB : Below wr.heap.size wr WB:=by rw [hWB];exact (Below.refl _ _).alloc (Nat.le_refl _) _
    have cB : CF WB Qb [.int .i64 lea,.int .i64 wrk,.int .i64 unt]:=by rw [hWB,hQb];exact CF.made wr #[.int .i64 lea,.int .i64 wrk,.int .i64 unt] 76
    have sB:=hs.below hbB
    rw [← hWB,← hQb]
    clear hWB hQb hbB hs j0 j1 j2
    have b1 : WB.cell? ⟨Qb,1,none⟩ = some (.int .i64 wrk):=(cB 1 (by simp)).1
    have m1 : WB.cell? ⟨Qx,1,none⟩ = some (.int .i64 ((k : Int) + 1)):=((sB.keep HCW.out hX HNR.out) 1 (by simp)).1
    have hI1 : I64 (t3 (jM (leftJ ((k : Int) + 1)) J i) i).1:=by rw [jM_get hiJ];exact (hI i hiJ).1
    have HSB:=hid sB
    clear sB cB
    by_cases hwk : wrk = (k : Int) + 1
    ·have hbb : (wrk == (k : Int) + 1) = true:=by simpa using hwk
     have HEND:=hid (show leftJ ((k : Int) + 1) (t3 J i) = (0,0,0) by unfold leftJ;rw [if_pos (by rw [← HWK.out];exact hwk)])
     have HEJ:=hid (endJob_any w0 W B W.heap.size Qd Qp d _ ts pa pc now sn nb _ _ _ i WB HSB.out hlt hI1)
     clear hwk
     go_wp2_with fail
     refine HEJ.out.mono ?_
     rintro e w2 ⟨rfl,s2⟩
     have HNX:=hid (show DkS w0 W B W.heap.size Qd Qp d ⟨a1,a2,ar,some ⟨bj,oj,none⟩,az,ao,c1,c2,cr,cj,cs,co⟩ ts pa pc now sn nb ⟨gv,jM (leftJ ((k : Int) + 1)) J (i + 1),S',[]⟩ (.slice none 0 0) [] w2 by rw [← jM_set hiJ,HEND.out];exact s2)
     clear s2 HEJ b1 m1 hbb
     go_wp2_with fail
     go_roundw
     case rel=>exact ⟨i + 1,by omega,by go_num,HNX.out⟩
     case measure=>simp [intOf];omega
    ·have hbb : (wrk == (k : Int) + 1) = false:=by simpa using hwk
     have HNX:=hid (show DkS w0 W B W.heap.size Qd Qp d ⟨a1,a2,ar,some ⟨bj,oj,none⟩,az,ao,c1,c2,cr,cj,cs,co⟩ ts pa pc now sn nb ⟨gv,jM (leftJ ((k : Int) + 1)) J (i + 1),S',[]⟩ (.slice none 0 0) [] WB by rw [jM_same hiJ (by unfold leftJ;rw [if_neg (by rw [← HWK.out];exact hwk)])];exact HSB.out)
     clear hwk
     go_wp2_with fail
     go_roundw
     case rel=>exact ⟨i + 1,by omega,by go_num,HNX.out⟩
     case measure=>simp [intOf];omega
   ·obtain rfl : i = d.J.length:=by omega
    have hlt' : ¬ (d.J.length : Int) < (d.J.length : Int):=by omega
    have HF:=hid (show ∃ wK' Qm',(frS S ((k : Int) + 1) ep = none ∧ DkS w0 wK' B Qm' Qd Qp d ⟨a1,a2,ar,aj,az,ao,c1,c2,cr,cj,cs,co⟩ ts pa pc now sn nb ⟨gv,J,S,[]⟩ (.slice none 0 0) [] wr) ∨ ∃ S',frS S ((k : Int) + 1) ep = some S' ∧ DkS w0 wK' B Qm' Qd Qp d ⟨a1,a2,ar,aj,az,ao,c1,c2,cr,cj,cs,co⟩ ts pa pc now sn nb ⟨gv,J.map (leftJ ((k : Int) + 1)),S',[]⟩ (.slice none 0 0) [] wr from ⟨_,_,.inr ⟨S',HN.out,by rw [← jM_all,hjl];exact hs⟩⟩)
    clear hs
    go_wp2_with fail
    go_end0
    exact ⟨rfl,HF.out⟩
end Go.Proofs.YtaeomkpofcbmiaaGreatDoor
namespace Go.Proofs.YtaeomkpofcbmiaaGreatDoor
open Go.RowKit
theorem Code.namesC {ts : List TaskD} (h : Code ts 0) : 1 ≤ ts.length ∧ ts.length ≤ 40 ∧ allDeps ts ts.length:=by
 rcases h with ⟨h,_⟩ | ⟨h1,⟨h,_⟩ | ⟨h2,⟨h,_⟩ | ⟨h3,⟨h,_⟩ | ⟨h4,_⟩⟩⟩⟩
 ·omega
 ·omega
 ·omega
 ·omega
 ·exact ⟨h1.1,h1.2,h4⟩
structure BD.upF (d : BD) (ts : List TaskD) : Prop where
 r : d.R.length = ts.length
 j : d.J.length = ts.length
 ep : 1 ≤ d.ep ∧ d.ep ≤ 300
 s : ((d.S.length : Nat) : Int) = d.wk ∧ d.wk ≤ 8
 o : d.O.length ≤ 2000
 now : 0 ≤ d.now ∧ d.now ≤ 1000000
 l : d.L1.length + d.L2.length ≤ 310
 u : uniqJ d.J
 t : 1 ≤ ts.length ∧ ts.length ≤ 40 ∧ allDeps ts ts.length
theorem BD.upFs {d : BD} {ts : List TaskD} (h : d.ok ts) (hu : d.up = true) : d.upF ts:=by
 obtain ⟨wk,up,now,sn,ep,gv,L1,L2,R,J,S,O⟩:=d
 dsimp only at hu
 subst hu
 have h':=h
 obtain ⟨⟨hcode,hl⟩,hwk,hnow,E,Q,hr,_⟩:=h'
 obtain ⟨e1,e2,e3,e4,e5,e6,e7,e8⟩:=vB_up h hr
 have hk:=rep_ok (n:=ts.length) (m:=0) _ (st0_ok ts.length) hr
 have h3:=rep_300 _ (by simp [st0]) hr
 dsimp only at e1 e2 e3 e4 e5 e6 e7 e8 hwk hnow hl
 refine ⟨by show R.length = _;rw [e3];exact hk.2.2.1,e6.1,⟨e2,by show ep ≤ 300;rw [e1];exact h3⟩,⟨e7.1,hwk.2⟩,e8.1,hnow,by rw [List.length_append] at hl;exact hl,fun i j hi hj he h0=>?_,hcode.namesC⟩
 rcases e6.2 i hi with hz | ⟨_,hz,_⟩
 ·exact absurd (by rw [hz]) h0
 ·rcases Decidable.em (i = j) with e | e
  ·exact e
  ·exact absurd he.symm (hz j (fun e'=>e e'.symm) hj)
end Go.Proofs.YtaeomkpofcbmiaaGreatDoor
