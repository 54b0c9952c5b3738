
import Derived.Test.YtaeomkpofcbmiaaGreatDoorQLawBk
import Derived.Test.YtaeomkpofcbmiaaGreatDoorQRowVb
import Derived.Test.YtaeomkpofcbmiaaGreatDoorCards
import Derived.Test.YtaeomkpofcbmiaaGreatDoorTie
import Derived.OpenVars
import Derived.Deep.DeepHandedRow
import Derived.Lib.LaidTab
import Derived.Lib.LaidU8
set_option maxRecDepth 100000
namespace Go.Proofs.YtaeomkpofcbmiaaGreatDoor
open Go.ChangeShapes Go.WideShapes Go.ChangeAt Go.RowKit
open Go.ChangeMaps (open_string shut_string)
theorem Tryz.gTab : Tryz.prog.globalNamed "loop.example/kilncrew/impl.usages" = some 0 := by kernel_rfl
theorem Tryz.gTabType : (Tryz.prog.globals[0]?).map (·.type) = some 160:=by kernel_rfl
theorem Tryz.cellsUse : Tryz.prog.cellsOf 159 = 5:=by kernel_rfl
theorem Tryz.cellsBool : Tryz.prog.cellsOf 4 = 1:=by kernel_rfl
theorem bools_of {H : Type} {enc : TypeId × Value → H} {W : World} {base : Nat} {sp : Nat → Bool} {held : Bool} {fuel : Nat} {cs : List Value} {b0 b1 b2 b3 b4 : Bool} {p : List MemPlace}
  (h : DataW.trod enc Tryz.prog W base sp held fuel 159 cs = some (.agg [.lit (.bool b0),.lit (.bool b1),.lit (.bool b2),.lit (.bool b3),.lit (.bool b4)],p)) : cs = [.bool b0,.bool b1,.bool b2,.bool b3,.bool b4]:=by
 obtain ⟨xs,m,_,ex,hlen,hl,hel⟩:=DataW.trod_struct Tryz.underlying159 h
 rw [Tryz.cellsUse] at hlen
 match cs,hlen with
 | [c0,c1,c2,c3,c4],_ =>
  match xs,hl with
  | [x0,x1,x2,x3,x4],_ =>
   have e3:=(DataW.agg.inj (Prod.mk.inj ex).1)
   simp only [List.map_cons,List.map_nil,List.cons.injEq,and_true] at e3
   have k0 : DataW.trod enc Tryz.prog W base sp held m 4 (([c0,c1,c2,c3,c4].drop 0).take (Tryz.prog.cellsOf 4)) = some x0:=hel 0 _ rfl
   have k1 : DataW.trod enc Tryz.prog W base sp held m 4 (([c0,c1,c2,c3,c4].drop 1).take (Tryz.prog.cellsOf 4)) = some x1:=hel 1 _ rfl
   have k2 : DataW.trod enc Tryz.prog W base sp held m 4 (([c0,c1,c2,c3,c4].drop 2).take (Tryz.prog.cellsOf 4)) = some x2:=hel 2 _ rfl
   have k3 : DataW.trod enc Tryz.prog W base sp held m 4 (([c0,c1,c2,c3,c4].drop 3).take (Tryz.prog.cellsOf 4)) = some x3:=hel 3 _ rfl
   have k4 : DataW.trod enc Tryz.prog W base sp held m 4 (([c0,c1,c2,c3,c4].drop 4).take (Tryz.prog.cellsOf 4)) = some x4:=hel 4 _ rfl
   rw [Tryz.cellsBool] at k0 k1 k2 k3 k4
   obtain ⟨z0,a0,q0⟩:=DataW.trod_bool Tryz.underlying4 k0
   obtain ⟨z1,a1,q1⟩:=DataW.trod_bool Tryz.underlying4 k1
   obtain ⟨z2,a2,q2⟩:=DataW.trod_bool Tryz.underlying4 k2
   obtain ⟨z3,a3,q3⟩:=DataW.trod_bool Tryz.underlying4 k3
   obtain ⟨z4,a4,q4⟩:=DataW.trod_bool Tryz.underlying4 k4
   subst q0 q1 q2 q3 q4
   simp_all
theorem tab_of {W : World} {l : List (String × DataW Unit)} (h : laidMet Tryz.prog l W) (hm : ("loop.example/kilncrew/impl.usages", Rows.laid_loop_example_kilncrew_impl_usages) ∈ l) : Tab W := by
 obtain ⟨g,t,cs,fuel,p,hg,ht,hv,hd⟩:=Lib.laidMet.reads h hm
 obtain rfl:=Option.some.inj (Tryz.gTab.symm.trans hg)
 obtain rfl:=Option.some.inj (Tryz.gTabType.symm.trans ht)
 have hcell:=fun j=>World.var?_cell Tryz.gTab hv j
 have elem:=fun i hi=>Lib.array_elem Tryz.underlying160 hd i hi
 intro j hj
 rw [hcell j]
 obtain ⟨f0,d0,q0,e0,k0⟩:=elem 0 (by omega)
 obtain ⟨f1,d1,q1,e1,k1⟩:=elem 1 (by omega)
 obtain ⟨f2,d2,q2,e2,k2⟩:=elem 2 (by omega)
 obtain ⟨f3,d3,q3,e3,k3⟩:=elem 3 (by omega)
 obtain ⟨f4,d4,q4,e4,k4⟩:=elem 4 (by omega)
 obtain ⟨f5,d5,q5,e5,k5⟩:=elem 5 (by omega)
 cases e0;cases e1;cases e2;cases e3;cases e4;cases e5
 have r0:=bools_of k0
 have r1:=bools_of k1
 have r2:=bools_of k2
 have r3:=bools_of k3
 have r4:=bools_of k4
 have r5:=bools_of k5
 rw [Tryz.cellsUse] at r0 r1 r2 r3 r4 r5
 have key : ∀ (i : Nat) (bs : List Value) (r : Nat),(cs.toList.drop (i * 5)).take 5 = bs → r < 5 → cs[i * 5 + r]? = bs[r]?:=fun i bs r hb hr=>by
  rw [← hb,List.getElem?_take,if_pos hr,List.getElem?_drop,Array.getElem?_toList]
 obtain ⟨i,r,hi,hr,rfl⟩ : ∃ i r,i < 6 ∧ r < 5 ∧ j = i * 5 + r:=⟨j / 5,j % 5,by omega,by omega,by omega⟩
 have hi' : i = 0 ∨ i = 1 ∨ i = 2 ∨ i = 3 ∨ i = 4 ∨ i = 5:=by omega
 have hr' : r = 0 ∨ r = 1 ∨ r = 2 ∨ r = 3 ∨ r = 4:=by omega
 rcases hi' with rfl | rfl | rfl | rfl | rfl | rfl
 ·rw [key 0 _ r r0 hr];rcases hr' with rfl | rfl | rfl | rfl | rfl <;> rfl
 ·rw [key 1 _ r r1 hr];rcases hr' with rfl | rfl | rfl | rfl | rfl <;> rfl
 ·rw [key 2 _ r r2 hr];rcases hr' with rfl | rfl | rfl | rfl | rfl <;> rfl
 ·rw [key 3 _ r r3 hr];rcases hr' with rfl | rfl | rfl | rfl | rfl <;> rfl
 ·rw [key 4 _ r r4 hr];rcases hr' with rfl | rfl | rfl | rfl | rfl <;> rfl
 ·rw [key 5 _ r r5 hr];rcases hr' with rfl | rfl | rfl | rfl | rfl <;> rfl
theorem msgAt_of {H : Type} {enc : TypeId × Value → H} {W : World} {base fuel : Nat} {v : Value} {x : DataW H × List MemPlace}
  (hv : ∃ cs,v = .agg cs ∧ cs.size = Tryz.prog.cellsOf 34) (hf : DataW.trod enc Tryz.prog W base (fun _=>true) true fuel 34 v.cells.toList = some x) :
  ∃ (k f t e l d : Int) (s : ByteArray) (a : Option Addr) (b o n c : Nat) (ss : List ByteArray),v = .agg #[.int .i64 k,.int .i64 f,.int .i64 t,.int .i64 e,.int .i64 l,.int .i64 d,.string s,.slice a n c] ∧ s.size ≤ maxLen ∧ StrsAt W a b o n ss:=by
 obtain ⟨cs,rfl,hcs⟩:=hv
 have hC : Tryz.prog.cellsOf 34 = 8:=by kernel_rfl
 rw [hC] at hcs
 obtain ⟨l⟩:=cs
 obtain ⟨xs,m,_,ex,hlen,hl,hel⟩:=DataW.trod_struct Tryz.underlying34 hf
 match l,hcs with
 | [c0,c1,c2,c3,c4,c5,c6,c7],_ =>
  match xs,hl with
  | [x0,x1,x2,x3,x4,x5,x6,x7],_ =>
   have ki : Tryz.prog.cellsOf 3 = 1:=by kernel_rfl
   have ks : Tryz.prog.cellsOf 9 = 1:=by kernel_rfl
   have kl : Tryz.prog.cellsOf 22 = 1:=by kernel_rfl
   have k0 : DataW.trod enc Tryz.prog W base (fun _=>true) true m 3 (([c0,c1,c2,c3,c4,c5,c6,c7].drop 0).take (Tryz.prog.cellsOf 3)) = some x0:=hel 0 _ rfl
   have k1 : DataW.trod enc Tryz.prog W base (fun _=>true) true m 3 (([c0,c1,c2,c3,c4,c5,c6,c7].drop 1).take (Tryz.prog.cellsOf 3)) = some x1:=hel 1 _ rfl
   have k2 : DataW.trod enc Tryz.prog W base (fun _=>true) true m 3 (([c0,c1,c2,c3,c4,c5,c6,c7].drop 2).take (Tryz.prog.cellsOf 3)) = some x2:=hel 2 _ rfl
   have k3 : DataW.trod enc Tryz.prog W base (fun _=>true) true m 3 (([c0,c1,c2,c3,c4,c5,c6,c7].drop 3).take (Tryz.prog.cellsOf 3)) = some x3:=hel 3 _ rfl
   have k4 : DataW.trod enc Tryz.prog W base (fun _=>true) true m 3 (([c0,c1,c2,c3,c4,c5,c6,c7].drop 4).take (Tryz.prog.cellsOf 3)) = some x4:=hel 4 _ rfl
   have k5 : DataW.trod enc Tryz.prog W base (fun _=>true) true m 3 (([c0,c1,c2,c3,c4,c5,c6,c7].drop 5).take (Tryz.prog.cellsOf 3)) = some x5:=hel 5 _ rfl
   have k6 : DataW.trod enc Tryz.prog W base (fun _=>true) true m 9 (([c0,c1,c2,c3,c4,c5,c6,c7].drop 6).take (Tryz.prog.cellsOf 9)) = some x6:=hel 6 _ rfl
   have k7 : DataW.trod enc Tryz.prog W base (fun _=>true) true m 22 (([c0,c1,c2,c3,c4,c5,c6,c7].drop 7).take (Tryz.prog.cellsOf 22)) = some x7:=hel 7 _ rfl
   rw [ki] at k0 k1 k2 k3 k4 k5
   rw [ks] at k6
   rw [kl] at k7
   obtain ⟨z0,a0,_,_⟩:=DataW.trod_int Tryz.underlying3 k0
   obtain ⟨z1,a1,_,_⟩:=DataW.trod_int Tryz.underlying3 k1
   obtain ⟨z2,a2,_,_⟩:=DataW.trod_int Tryz.underlying3 k2
   obtain ⟨z3,a3,_,_⟩:=DataW.trod_int Tryz.underlying3 k3
   obtain ⟨z4,a4,_,_⟩:=DataW.trod_int Tryz.underlying3 k4
   obtain ⟨z5,a5,_,_⟩:=DataW.trod_int Tryz.underlying3 k5
   obtain ⟨s,a6,_,hsz⟩:=DataW.trod_string Tryz.underlying9 k6
   obtain ⟨a,b,o,n,c,ss,a7,hat⟩:=strsAt_of2 k7
   simp only [List.drop_zero,List.drop_succ_cons,List.take_succ_cons,List.take_zero,List.cons.injEq,and_true] at a0 a1 a2 a3 a4 a5 a6 a7
   subst a0 a1 a2 a3 a4 a5 a6 a7
   exact ⟨z0,z1,z2,z3,z4,z5,s,a,b,o,n,c,ss,rfl,hsz,hat⟩
noncomputable def laidWorld (os : Os) : World :=
 { World.holding Tryz.prog os ⟨#[],#[],[]⟩ with heap:=(World.holding Tryz.prog os ⟨#[],#[],[]⟩).heap.modify 0 fun
   | .cells _ t frozen=>.cells (tabL.map Value.bool).toArray t frozen
   | o=>o }
namespace FTake
theorem laid_met (os : Os) : laidMet Tryz.prog Rows.fnExactBossTakeRow.laid ((laidWorld os).forCall (fun _ _=>0) ⟨#[],#[.agg #[.int .i64 0,.bool false,.int .i64 0,.int .i64 0,.int .i64 0,.int .i64 0,.slice none 0 0,.slice none 0 0,.slice none 0 0,.slice none 0 0,.slice none 0 0,.slice none 0 0],.agg #[.slice none 0 0],.agg #[.int .i64 0,.int .i64 0,.int .i64 0,.int .i64 0,.int .i64 0,.int .i64 0,.string ⟨#[]⟩,.slice none 0 0]],[]⟩).memory :=
 laidMet_of_run' 8 (by kernel_rfl) (by kernel_rfl)
def wds {H : Type} : List (DataW H):=[.agg [.lit (.int .i64 0),.lit (.bool false),.lit (.int .i64 0),.lit (.int .i64 0),.lit (.int .i64 0),.lit (.int .i64 0),.agg [.nil,.nil],.nil,.nil,.nil,.nil],.agg [.nil],.agg [.lit (.int .i64 0),.lit (.int .i64 0),.lit (.int .i64 0),.lit (.int .i64 0),.lit (.int .i64 0),.lit (.int .i64 0),.lit (.string []),.nil]]
def wgs {H : Type} : List (DataW H):=[Rows.laid_loop_example_kilncrew_impl_usages]
theorem reads (os : Os) {H : Type} (enc : TypeId × Value → H) : ∃ places,DataW.whole enc Tryz.prog ((laidWorld os).forCall (fun _ _=>0) ⟨#[],#[.agg #[.int .i64 0,.bool false,.int .i64 0,.int .i64 0,.int .i64 0,.int .i64 0,.slice none 0 0,.slice none 0 0,.slice none 0 0,.slice none 0 0,.slice none 0 0,.slice none 0 0],.agg #[.slice none 0 0],.agg #[.int .i64 0,.int .i64 0,.int .i64 0,.int .i64 0,.int .i64 0,.int .i64 0,.string ⟨#[]⟩,.slice none 0 0]],[]⟩).memory Tryz.f3.params.toList Rows.fnExactBossTakeSpec.vars false #[Value.agg #[.int .i64 0,.bool false,.int .i64 0,.int .i64 0,.int .i64 0,.int .i64 0,.slice none 0 0,.slice none 0 0,.slice none 0 0,.slice none 0 0,.slice none 0 0,.slice none 0 0],.agg #[.slice none 0 0],.agg #[.int .i64 0,.int .i64 0,.int .i64 0,.int .i64 0,.int .i64 0,.int .i64 0,.string ⟨#[]⟩,.slice none 0 0]].toList 8 = some (wds,wgs,places):=by
 have h : (DataW.whole enc Tryz.prog ((laidWorld os).forCall (fun _ _=>0) ⟨#[],#[.agg #[.int .i64 0,.bool false,.int .i64 0,.int .i64 0,.int .i64 0,.int .i64 0,.slice none 0 0,.slice none 0 0,.slice none 0 0,.slice none 0 0,.slice none 0 0,.slice none 0 0],.agg #[.slice none 0 0],.agg #[.int .i64 0,.int .i64 0,.int .i64 0,.int .i64 0,.int .i64 0,.int .i64 0,.string ⟨#[]⟩,.slice none 0 0]],[]⟩).memory Tryz.f3.params.toList Rows.fnExactBossTakeSpec.vars false #[Value.agg #[.int .i64 0,.bool false,.int .i64 0,.int .i64 0,.int .i64 0,.int .i64 0,.slice none 0 0,.slice none 0 0,.slice none 0 0,.slice none 0 0,.slice none 0 0,.slice none 0 0],.agg #[.slice none 0 0],.agg #[.int .i64 0,.int .i64 0,.int .i64 0,.int .i64 0,.int .i64 0,.int .i64 0,.string ⟨#[]⟩,.slice none 0 0]].toList 8).map (fun x=>(x.1,x.2.1)) = some (wds,wgs):=by kernel_rfl
 obtain ⟨⟨ds,gs,places⟩,hx,hy⟩:=Option.map_eq_some_iff.1 h
 simp only [Prod.mk.injEq] at hy
 obtain ⟨rfl,rfl⟩:=hy
 exact ⟨places,hx⟩
theorem contract (H : Type) (enc : TypeId × Value → H) (W : World) (base : Nat) (args : Array Value) (ds gs : List (DataW H)) (before : List MemPlace)
  (hval : ∀ (j : Nat) t v,Tryz.f3.params[j]? = some t → args[j]? = some v → Value.okWide Tryz.prog W .any base t v)
  (hW : DataW.Whole enc Tryz.prog Tryz.f3.params.toList Rows.fnExactBossTakeSpec.vars false W args.toList ds gs before) (hL : laidMetH Tryz.prog Rows.fnExactBossTakeRow.laid W) :
  Calls Tryz.prog 3 args W fun e W'=>∃ v,e = .returned v ∧ Rows.fnExactBossTakeSpec.post enc Tryz.prog Tryz.f3 false true false false W args v W':=by
 have hT : Tab W:=tab_of (l:=Rows.fnExactBossTakeRow.laid) (by rw [MakeChecks.laidMetH_plain _ _ _ (by kernel_rfl)] at hL;exact hL) (List.mem_cons_self ..)
 have hW':=hW
 obtain ⟨p,q,hA0,hV,rfl,hfz,hnd⟩:=hW
 have hA : DataW.TrodAll enc Tryz.prog W 0 (fun _=>true) true Tryz.f3.params.toList args.toList ds p:=hA0
 rw [Tryz.params3] at hA hval
 obtain ⟨v0,vs0,d0,ds0,p0,q0,hargs,rfl,rfl,h0,r0⟩:=trodAll_cons hA
 obtain ⟨v1,vs1,d1,ds1,p1,q1,rfl,rfl,rfl,h1,r1⟩:=trodAll_cons r0
 obtain ⟨v2,vs2,d2,ds2,p2,q2,rfl,rfl,rfl,h2,r2⟩:=trodAll_cons r1
 obtain ⟨rfl,rfl,rfl⟩:=trodAll_nil r2
 obtain rfl : args = #[v0,v1,v2]:=by cases args;simp_all
 have hV0:=hV
 obtain ⟨_,_,_,_,dv,_,rfl,_⟩:=trodVars_one hV
 have k0:=h0
 have lt0 : ∀ x ∈ p0,x.block < W.heap.size:=by obtain ⟨m,hm⟩:=k0;exact DataW.trod_lt m _ _ _ hm
 have k1:=h1
 have lt1 : ∀ x ∈ p1,x.block < W.heap.size:=by obtain ⟨m,hm⟩:=k1;exact DataW.trod_lt m _ _ _ hm
 have k2:=h2
 have lt2 : ∀ x ∈ p2,x.block < W.heap.size:=by obtain ⟨m,hm⟩:=k2;exact DataW.trod_lt m _ _ _ hm
 obtain ⟨fuel,hf⟩:=h0
 obtain ⟨fuel1,hf1⟩:=h1
 obtain ⟨fuel2,hf2⟩:=h2
 obtain ⟨wk,up,now,sn,ep,gv,a1,a2,ar,aj,az,ao,n1,c1,n2,c2,nr,cr,nj,cj,ns,cs,no,co,bl1,ol1,bl2,ol2,br,or',bj,oj,bs,os',bo,oo,L1,L2,R,J,S,O,rfl,H1,H2,HR,HJ,HS,HO⟩:=bossAt_of (okWide_struct Tryz.underlying29 (hval 0 29 v0 rfl rfl)) hf
 obtain ⟨pa,pb,po,pn,pc,ts,rfl,hpt⟩:=planAt_of (okWide_struct Tryz.underlying32 (hval 1 32 v1 rfl rfl)) hf1
 obtain ⟨kd,fm,tw,em,le,ta,xm,ma,mb,mo,mn,mc,ms,rfl,hy,hmt⟩:=msgAt_of (okWide_struct Tryz.underlying34 (hval 2 34 v2 rfl rfl)) hf2
 obtain rfl:=H1.len
 obtain rfl:=H2.len
 obtain rfl:=HR.len
 obtain rfl:=HJ.len
 obtain rfl:=HS.len
 obtain rfl:=HO.len
 clear hA0
 refine (fnExactBossTake_walk ⟨wk,up,now,sn,ep,gv,L1,L2,R,J,S,O⟩ ⟨a1,a2,ar,aj,az,ao,c1,c2,cr,cj,cs,co⟩ pa pb po pn pc ts kd fm tw em le ta xm ms ma mb mo mn mc W ⟨⟨bl1,ol1,H1⟩,⟨bl2,ol2,H2⟩,⟨br,or',HR⟩,⟨bj,oj,HJ⟩,⟨bs,os',HS⟩,⟨bo,oo,HO⟩⟩ hpt hmt hy hT).mono fun e' W' ⟨he,bel⟩=>?_
 subst he
 exact ⟨_,rfl,_,_,_,[],_,_,hW',trodAll_mk1 (shut_bool Tryz.underlying4 _),(trodAll_cons_mk (Below.trod Tryz.laidOut (by kernel_rfl) (of_decide_eq_true (by kernel_rfl)) k0 bel lt0) (trodAll_cons_mk (Below.trod Tryz.laidOut (by kernel_rfl) (of_decide_eq_true (by kernel_rfl)) k1 bel lt1) (trodAll_cons_mk (Below.trod Tryz.laidOut (by kernel_rfl) (of_decide_eq_true (by kernel_rfl)) k2 bel lt2) trodAll_mk0))),bel.trodVars Tryz.laidOut (by kernel_rfl) hV0,bel.frame _,fun h=>by cases h⟩
theorem lifted (os : Os) (started : os.Started) (H : Type) (enc : TypeId × Value → H) (F : Stop.Interp) :
  ReturnsInHanded {} Tryz.checked os 3 .any ((OpenSpec.ofChange Rows.fnExactBossTakeSpec).preRow enc Tryz.prog Tryz.f3 Rows.fnExactBossTakeRow.domain false Rows.fnExactBossTakeRow.laid) (((OpenSpec.ofChange Rows.fnExactBossTakeSpec).at F).post enc Tryz.prog Tryz.f3 false true false false):=by
 obtain ⟨places,hx⟩:=reads os enc
 refine returnsInHanded_of_row (C:=Tryz.checked) (s:=OpenSpec.ofChange Rows.fnExactBossTakeSpec) Tryz.own started (by kernel_rfl) Tryz.func3
  (witness_row_at (enc:=enc) (C:=Tryz.checked) false (laidWorld os) #[.agg #[.int .i64 0,.bool false,.int .i64 0,.int .i64 0,.int .i64 0,.int .i64 0,.slice none 0 0,.slice none 0 0,.slice none 0 0,.slice none 0 0,.slice none 0 0,.slice none 0 0],.agg #[.slice none 0 0],.agg #[.int .i64 0,.int .i64 0,.int .i64 0,.int .i64 0,.int .i64 0,.int .i64 0,.string ⟨#[]⟩,.slice none 0 0]] rfl (by kernel_rfl) (by kernel_rfl) (by kernel_rfl)
   (OpenSpec.preRow_of_cond 8 hx (by kernel_rfl) (fun k hk=>by cases hk) (by kernel_rfl) (laid_met os))) ?_
 intro W base args ds gs before hval hW _ _ _ hL _ _
 exact contract H enc W base args ds gs before hval hW hL
theorem said : Rows.FnExactBossTakeSaid :=
 OpenClaim.holds_of_cond 3 Tryz.f3 rfl rfl rfl rfl rfl rfl rfl ⟨rfl,rfl,rfl,rfl,rfl⟩ rfl rfl rfl rfl rfl (by kernel_rfl) Tryz.func3 (by kernel_rfl)
  (of_decide_eq_true (by kernel_rfl)) (by unfold Func.isWrapper;first | (rw [if_pos (by decide +kernel)];kernel_rfl) | (rw [if_neg (by decide +kernel)];exact ⟨rfl,rfl⟩))
  (fun os started H enc _ F=>by rw [OpenClaim.pre_eq_preRow];exact lifted os started H enc F)
theorem plain (f : FuncId) (fn : Func) (hf : Tryz.pinned.checked.prog.funcNamed "loop.example/kilncrew/laws.FnExactBossTake" = some f) (hfn : Tryz.pinned.checked.prog.funcs[f]? = some fn) :
  false = Tryz.pinned.checked.prog.looks [] ∧ ∀ (j : Nat) t,fn.params[j]? = some t → Tryz.pinned.checked.prog.wantsStandIn t = false:=by
 obtain rfl : f = 3 := Option.some.inj ((show Tryz.prog.funcNamed "loop.example/kilncrew/laws.FnExactBossTake" = some 3 by kernel_rfl).symm.trans hf) |>.symm
 obtain rfl : fn = Tryz.f3:=(Option.some.inj (Tryz.func3.symm.trans hfn)).symm
 refine ⟨by kernel_rfl,fun j t ht=>?_⟩
 rw [Tryz.params3] at ht
 have hm : t ∈ [29,32,34]:=by simpa using Array.mem_of_getElem? ht
 have hall : ([29,32,34].all fun u=>!Tryz.prog.wantsStandIn u) = true:=by kernel_rfl
 exact (show Tryz.prog.wantsStandIn t = false by simpa using List.all_eq_true.1 hall t hm)
end FTake
theorem fnExactBossTake_card : Rows.FnExactBossTakeCardSaid :=
 Claim7.holds_tied_plain_at .later [] _ _ _ _ FTake.said (fun _ h=>by cases h) (by kernel_rfl) (fun _ h=>by cases h) fnExactBossTake_row_tie rfl ⟨rfl,rfl⟩ (by kernel_rfl) rfl FTake.plain (by kernel_rfl)
#print axioms fnExactBossTake_card
end Go.Proofs.YtaeomkpofcbmiaaGreatDoor
