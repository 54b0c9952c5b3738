
import Derived.Test.YtaeomkpofcbmiaaGreatDoorQBmb
import Derived.Test.YtaeomkpofcbmiaaGreatDoorQBsj
import Derived.Test.YtaeomkpofcbmiaaGreatDoorQWlb
set_option maxHeartbeats 4000000
set_option maxRecDepth 100000
namespace Go.Proofs.YtaeomkpofcbmiaaGreatDoor
open Go.RowKit
theorem T3At.cells {w : World} {a : Option Addr} {b o n : Nat} {J : List Tr} (h : T3At w a b o n J) (i : Nat) (u : Value) (hu : (c3 J)[i]? = some u) : w.cell? ⟨b,o + i,none⟩ = some u:=by
 have hi : i < J.length * 3:=by have:=(List.getElem?_eq_some_iff.1 hu).1;rw [c3_length] at this;exact this
 have hl:=h.len
 have hg:=c3_get J (i / 3) (i % 3) (by omega) (by omega)
 rw [show i / 3 * 3 + i % 3 = i by omega] at hg
 have hr : i % 3 = 0 ∨ i % 3 = 1 ∨ i % 3 = 2:=by omega
 rcases hr with e | e | e
 ·have hc:=h.c0 (i / 3) (by omega)
  rw [show o + i / 3 * 3 = o + i by omega] at hc
  rw [e] at hg
  rw [hc,← hu,hg];rfl
 ·have hc:=h.c1 (i / 3) (by omega)
  rw [show o + i / 3 * 3 + 1 = o + i by omega] at hc
  rw [e] at hg
  rw [hc,← hu,hg];rfl
 ·have hc:=h.c2 (i / 3) (by omega)
  rw [show o + i / 3 * 3 + 2 = o + i by omega] at hc
  rw [e] at hg
  rw [hc,← hu,hg];rfl
theorem c3_one (J : List Tr) : ∀ u ∈ c3 J,u.oneCell' = true:=fun u hu=>by
 obtain ⟨x,_,hx⟩:=List.mem_flatMap.1 hu
 simp only [List.mem_cons,List.not_mem_nil,or_false] at hx
 rcases hx with rfl | rfl | rfl <;> rfl
theorem T3At.src {w : World} {a : Option Addr} {b o n : Nat} {J : List Tr} (h : T3At w a b o n J) (tx e' : TypeId) (hk : Tryz.prog.underlying tx = some (.slice e')) (cc : Nat) : Src Tryz.prog 3 tx (.slice a n cc) n (c3 J) w:=by
 have go : ∀ y : Addr,(0 < n → y = ⟨b,o,none⟩) → Src Tryz.prog 3 tx (.slice (some y) n cc) n (c3 J) w:=fun y hy=>by
  refine Src.ofSlice w hk y n cc _ (by rw [c3_length,h.len]) (fun j u hu=>?_) (c3_one J)
  have hj : j < J.length * 3:=by have:=(List.getElem?_eq_some_iff.1 hu).1;rw [c3_length] at this;exact this
  have hl:=h.len
  rw [hy (by omega),Addr.add_lit]
  exact h.cells j u hu
 cases a with
 | none =>
  have h0 : n = 0:=Nat.eq_zero_of_not_pos fun hh=>by have:=h.ad hh;cases this
  subst h0
  have : J = []:=List.eq_nil_of_length_eq_zero h.len
  subst this
  exact Src.ofNil w hk cc
 | some y=>exact go y (fun hn=>by have:=h.ad hn;injection this)
theorem T2At.cells {w : World} {a : Option Addr} {b o n : Nat} {J : List (Bool × Int)} (h : T2At w a b o n J) (i : Nat) (u : Value) (hu : (c2 J)[i]? = some u) : w.cell? ⟨b,o + i,none⟩ = some u:=by
 have hi : i < J.length * 2:=by have:=(List.getElem?_eq_some_iff.1 hu).1;rw [c2_length] at this;exact this
 have hl:=h.len
 have hg:=c2_get J (i / 2) (i % 2) (by omega) (by omega)
 rw [show i / 2 * 2 + i % 2 = i by omega] at hg
 have hr : i % 2 = 0 ∨ i % 2 = 1:=by omega
 rcases hr with e | e
 ·have hc:=h.c0 (i / 2) (by omega)
  rw [show o + i / 2 * 2 = o + i by omega] at hc
  rw [e] at hg
  rw [hc,← hu,hg];rfl
 ·have hc:=h.c1 (i / 2) (by omega)
  rw [show o + i / 2 * 2 + 1 = o + i by omega] at hc
  rw [e] at hg
  rw [hc,← hu,hg];rfl
theorem c2_one (J : List (Bool × Int)) : ∀ u ∈ c2 J,u.oneCell' = true:=fun u hu=>by
 obtain ⟨x,_,hx⟩:=List.mem_flatMap.1 hu
 simp only [List.mem_cons,List.not_mem_nil,or_false] at hx
 rcases hx with rfl | rfl <;> rfl
theorem T2At.src {w : World} {a : Option Addr} {b o n : Nat} {J : List (Bool × Int)} (h : T2At w a b o n J) (tx e' : TypeId) (hk : Tryz.prog.underlying tx = some (.slice e')) (cc : Nat) : Src Tryz.prog 2 tx (.slice a n cc) n (c2 J) w:=by
 have go : ∀ y : Addr,(0 < n → y = ⟨b,o,none⟩) → Src Tryz.prog 2 tx (.slice (some y) n cc) n (c2 J) w:=fun y hy=>by
  refine Src.ofSlice w hk y n cc _ (by rw [c2_length,h.len]) (fun j u hu=>?_) (c2_one J)
  have hj : j < J.length * 2:=by have:=(List.getElem?_eq_some_iff.1 hu).1;rw [c2_length] at this;exact this
  have hl:=h.len
  rw [hy (by omega),Addr.add_lit]
  exact h.cells j u hu
 cases a with
 | none =>
  have h0 : n = 0:=Nat.eq_zero_of_not_pos fun hh=>by have:=h.ad hh;cases this
  subst h0
  have : J = []:=List.eq_nil_of_length_eq_zero h.len
  subst this
  exact Src.ofNil w hk cc
 | some y=>exact go y (fun hn=>by have:=h.ad hn;injection this)
def zB : List Value:=[.int .i64 0,.bool false,.int .i64 0,.int .i64 0,.int .i64 0,.int .i64 0,.slice none 0 0,.slice none 0 0,.slice none 0 0,.slice none 0 0,.slice none 0 0,.slice none 0 0]
theorem Tryz.sizeBo : (Tryz.prog.info? 43).map (·.size) = some 12:=by kernel_rfl
theorem Tryz.infoSt : (Tryz.prog.info? 9).map (fun i=>(i.zero,i.size,i.bytes)) = some (some (.string ⟨#[]⟩),1,16):=by kernel_rfl
theorem Tryz.infoJb : (Tryz.prog.info? 76).map (fun i=>(i.zero,i.size,i.bytes)) = some (some (.agg #[.int .i64 0,.int .i64 0,.int .i64 0]),3,24):=by kernel_rfl
theorem Tryz.infoSe : (Tryz.prog.info? 112).map (fun i=>(i.zero,i.size,i.bytes)) = some (some (.agg #[.bool false,.int .i64 0]),2,16):=by kernel_rfl
theorem Tryz.infoOw : (Tryz.prog.info? 114).map (fun i=>(i.zero,i.size,i.bytes)) = some (some (.agg #[.int .i64 0,.int .i64 0,.int .i64 0]),3,24):=by kernel_rfl
theorem one12b (wk : Int) (up : Bool) (now sn ep gv : Int) (a0 a1 a2 a3 a4 a5 : Option Addr) (n0 c0 n1 c1 n2 c2 n3 c3 n4 c4 n5 c5 : Nat) : ∀ v ∈ [Value.int .i64 wk,.bool up,.int .i64 now,.int .i64 sn,.int .i64 ep,.int .i64 gv,.slice a0 n0 c0,.slice a1 n1 c1,.slice a2 n2 c2,.slice a3 n3 c3,.slice a4 n4 c4,.slice a5 n5 c5],v.oneCell' = true:=by
 intro v hv
 simp only [List.mem_cons,List.not_mem_nil,or_false] at hv
 rcases hv with rfl | rfl | rfl | rfl | rfl | rfl | rfl | rfl | rfl | rfl | rfl | rfl <;> rfl
theorem Dj.new {x y : Option Nat} {m : Nat} (hx : ∀ q,x = some q → q < m) (hy : y = none ∨ y = some m) : Dj x y:=by
 cases x with
 | none=>exact .inl rfl
 | some q =>
  refine .inr ?_
  have:=hx q rfl
  rcases hy with rfl | rfl
  ·simp
  ·intro e;injection e with e;omega
theorem none_lt {q : Nat} : some q ≠ (Value.slice none 0 0).ownBlock:=by simp [Value.ownBlock]
theorem copyBoss_any (wk : Int) (up : Bool) (now sn ep gv : Int) (a1 a2 ar aj az ao : Option Addr) (b1 o1 n1 ca b2 o2 n2 cb br or' nr cr bj oj nj cj bs os' ns cs bo oo no co : Nat) (L1 L2 R : List ByteArray) (J : List Tr) (S : List (Bool × Int)) (O : List Tr) (w : World) (h0 : StrsAt w a1 b1 o1 n1 L1) (h1 : StrsAt w a2 b2 o2 n2 L2) (h2 : StrsAt w ar br or' nr R) (h3 : T3At w aj bj oj nj J) (h4 : T2At w az bs os' ns S) (h5 : T3At w ao bo oo no O) (m0 : n1 ≤ 1048576) (m1 : n2 ≤ 1048576) (m2 : nr ≤ 1048576) (m3 : nj ≤ 1048576) (m4 : ns ≤ 1048576) (m5 : no ≤ 1048576) :
  Calls Tryz.prog 81 #[.agg #[.int .i64 wk,.bool up,.int .i64 now,.int .i64 sn,.int .i64 ep,.int .i64 gv,.slice a1 n1 ca,.slice a2 n2 cb,.slice ar nr cr,.slice aj nj cj,.slice az ns cs,.slice ao no co]] w fun e w'=>∃ a0_ c0_ a1_ c1_ a2_ c2_ a3_ c3_ a4_ c4_ a5_ c5_,e = .returned (.agg #[.int .i64 wk,.bool up,.int .i64 now,.int .i64 sn,.int .i64 ep,.int .i64 gv,.slice a0_ n1 c0_,.slice a1_ n2 c1_,.slice a2_ nr c2_,.slice a3_ nj c3_,.slice a4_ ns c4_,.slice a5_ no c5_]) ∧ (Own w.heap.size w' 1 (.slice a0_ n1 c0_) n1 (L1.map Value.string) ∧ Own w.heap.size w' 1 (.slice a1_ n2 c1_) n2 (L2.map Value.string) ∧ Own w.heap.size w' 1 (.slice a2_ nr c2_) nr (R.map Value.string) ∧ Own w.heap.size w' 3 (.slice a3_ nj c3_) nj (c3 J) ∧ Own w.heap.size w' 2 (.slice a4_ ns c4_) ns (c2 S) ∧ Own w.heap.size w' 3 (.slice a5_ no c5_) no (c3 O)) ∧ List.Pairwise Dj [(Value.slice a0_ n1 c0_).ownBlock,(Value.slice a1_ n2 c1_).ownBlock,(Value.slice a2_ nr c2_).ownBlock,(Value.slice a3_ nj c3_).ownBlock,(Value.slice a4_ ns c4_).ownBlock,(Value.slice a5_ no c5_).ownBlock] ∧ Below w.heap.size w w':=by
 obtain ⟨i0,hi0,hz00,hz01,hz02⟩:=info_parts Tryz.infoSt
 obtain ⟨i3,hi3,hz30,hz31,hz32⟩:=info_parts Tryz.infoJb
 obtain ⟨i4,hi4,hz40,hz41,hz42⟩:=info_parts Tryz.infoSe
 obtain ⟨i5,hi5,hz50,hz51,hz52⟩:=info_parts Tryz.infoOw
 obtain ⟨W,hW⟩ : ∃ W,W = (w.alloc (.cells #[.int .i64 wk,.bool up,.int .i64 now,.int .i64 sn,.int .i64 ep,.int .i64 gv,.slice a1 n1 ca,.slice a2 n2 cb,.slice ar nr cr,.slice aj nj cj,.slice az ns cs,.slice ao no co] 43)).alloc (.cells #[.int .i64 0,.bool false,.int .i64 0,.int .i64 0,.int .i64 0,.int .i64 0,.slice none 0 0,.slice none 0 0,.slice none 0 0,.slice none 0 0,.slice none 0 0,.slice none 0 0] 43):=⟨_,rfl⟩
 have B0 : Below w.heap.size w W:=by rw [hW];exact ((Below.refl _ _).alloc (Nat.le_refl _) _).alloc (by simp) _
 have z0 : w.heap.size + 2 ≤ W.heap.size:=by rw [hW];simp
 have P0 : CF W w.heap.size [.int .i64 wk,.bool up,.int .i64 now,.int .i64 sn,.int .i64 ep,.int .i64 gv,.slice a1 n1 ca,.slice a2 n2 cb,.slice ar nr cr,.slice aj nj cj,.slice az ns cs,.slice ao no co]:=by
  rw [hW];exact (CF.made w #[.int .i64 wk,.bool up,.int .i64 now,.int .i64 sn,.int .i64 ep,.int .i64 gv,.slice a1 n1 ca,.slice a2 n2 cb,.slice ar nr cr,.slice aj nj cj,.slice az ns cs,.slice ao no co] 43).block (Below.heap_alloc _ _ _ (by simp))
 have R0 : CF W (w.heap.size + 1) zB:=by
  rw [hW]
  have:=CF.made (w.alloc (.cells #[.int .i64 wk,.bool up,.int .i64 now,.int .i64 sn,.int .i64 ep,.int .i64 gv,.slice a1 n1 ca,.slice a2 n2 cb,.slice ar nr cr,.slice aj nj cj,.slice az ns cs,.slice ao no co] 43)) #[.int .i64 0,.bool false,.int .i64 0,.int .i64 0,.int .i64 0,.int .i64 0,.slice none 0 0,.slice none 0 0,.slice none 0 0,.slice none 0 0,.slice none 0 0,.slice none 0 0] 43
  simpa [zB] using this
 have HW:=hid hW
 clear hW
 go_enter Tryz.func81,Tryz.ntmps81
 go_upto_region 1 with fail
 rw [← HW.out]
 clear HW
 have y : W.cell? ⟨w.heap.size,6,none⟩ = some (.slice a1 n1 ca):=(P0 6 (by simp)).1
 have sr : Src Tryz.prog 1 22 (.slice a1 n1 ca) n1 (L1.map Value.string) W:=(h0.below' B0).srcS ca
 go_upto_region 2 with (at_builtin;refine wpList_append_c _ rfl _ _ 22 22 rfl (w.heap.size + 2) 9 i0 (.string ⟨#[]⟩) 1 16 Tryz.underlying22 hi0 hz00 hz01 hz02 rfl (.slice none 0 0) 0 [] rfl (Own.nil _ _ _) _ n1 _ rfl sr (by unfold maxLen;omega) (by omega) z0 ?_;intro v0 u0 ho hg hbk;rw [Nat.zero_add,List.nil_append] at ho;obtain ⟨a0_,c0_,rfl⟩:=ho.slc;have Pu:=P0.block (hg.block w.heap.size (by omega) none_lt);have Ru:=R0.block (hg.block (w.heap.size + 1) (by omega) none_lt);have Bu:=below_grown B0 hg (by omega) (fun q hq=>by cases hq);have yu : u0.cell? ⟨w.heap.size,6,none⟩ = some (.slice a1 n1 ca):=(Pu 6 (by simp)).1;have fu : u0.frozen? ⟨w.heap.size,6,none⟩ = false:=(Pu 6 (by simp)).2;have zu : w.heap.size + 2 ≤ u0.heap.size:=Nat.le_trans z0 hg.size)
 have P1:=Pu.set (j:=6) (by simp) (.slice a0_ n1 c0_)
 simp only [List.set_cons_zero,List.set_cons_succ] at P1
 have gs:=gset (World.grownBy.refl u0 (some w.heap.size)) 6 (.slice a0_ n1 c0_)
 have R1:=Ru.block (Below.heap_setCell u0 (⟨w.heap.size,6,none⟩ : Addr) (.slice a0_ n1 c0_) (w.heap.size + 1) (by dsimp only;omega))
 have B1:=Bu.setCell (p:=⟨w.heap.size,6,none⟩) (by dsimp only;omega) (.slice a0_ n1 c0_)
 have z1 : w.heap.size + 2 ≤ (u0.setCell ⟨w.heap.size,6,none⟩ (.slice a0_ n1 c0_)).heap.size:=by simpa [World.setCell] using zu
 have q0_1:=ho.grown gs (.inr (by intro hh;have:=ho.row_lo _ hh;omega))
 obtain ⟨V1,hV1⟩ : ∃ V,V = u0.setCell ⟨w.heap.size,6,none⟩ (.slice a0_ n1 c0_):=⟨_,rfl⟩
 rw [← hV1] at P1 R1 B1 z1 q0_1
 rw [← hV1]
 clear hV1 y sr yu fu zu Pu Ru Bu gs ho hg hbk P0 R0 B0 z0 
 have y : V1.cell? ⟨w.heap.size,7,none⟩ = some (.slice a2 n2 cb):=(P1 7 (by simp)).1
 have sr : Src Tryz.prog 1 22 (.slice a2 n2 cb) n2 (L2.map Value.string) V1:=(h1.below' B1).srcS cb
 go_upto_region 3 with (at_builtin;refine wpList_append_c _ rfl _ _ 22 22 rfl (w.heap.size + 2) 9 i0 (.string ⟨#[]⟩) 1 16 Tryz.underlying22 hi0 hz00 hz01 hz02 rfl (.slice none 0 0) 0 [] rfl (Own.nil _ _ _) _ n2 _ rfl sr (by unfold maxLen;omega) (by omega) z1 ?_;intro v1 u1 ho hg hbk;rw [Nat.zero_add,List.nil_append] at ho;obtain ⟨a1_,c1_,rfl⟩:=ho.slc;have Pu:=P1.block (hg.block w.heap.size (by omega) none_lt);have Ru:=R1.block (hg.block (w.heap.size + 1) (by omega) none_lt);have Bu:=below_grown B1 hg (by omega) (fun q hq=>by cases hq);have yu : u1.cell? ⟨w.heap.size,7,none⟩ = some (.slice a2 n2 cb):=(Pu 7 (by simp)).1;have fu : u1.frozen? ⟨w.heap.size,7,none⟩ = false:=(Pu 7 (by simp)).2;have zu : w.heap.size + 2 ≤ u1.heap.size:=Nat.le_trans z1 hg.size)
 have P2:=Pu.set (j:=7) (by simp) (.slice a1_ n2 c1_)
 simp only [List.set_cons_zero,List.set_cons_succ] at P2
 have gs:=gset (World.grownBy.refl u1 (some w.heap.size)) 7 (.slice a1_ n2 c1_)
 have R2:=Ru.block (Below.heap_setCell u1 (⟨w.heap.size,7,none⟩ : Addr) (.slice a1_ n2 c1_) (w.heap.size + 1) (by dsimp only;omega))
 have B2:=Bu.setCell (p:=⟨w.heap.size,7,none⟩) (by dsimp only;omega) (.slice a1_ n2 c1_)
 have z2 : w.heap.size + 2 ≤ (u1.setCell ⟨w.heap.size,7,none⟩ (.slice a1_ n2 c1_)).heap.size:=by simpa [World.setCell] using zu
 have q1_2:=ho.grown gs (.inr (by intro hh;have:=ho.row_lo _ hh;omega))
 have D01 : Hid (Dj (Value.slice a0_ n1 c0_).ownBlock (Value.slice a1_ n2 c1_).ownBlock):=Dj.new q0_1.row_hi hbk
 have q0_2:=(q0_1.grown hg (by cases hq : (Value.slice a0_ n1 c0_).ownBlock with | none=>exact .inl rfl | some q=>exact .inr (fun hh=>by cases hh))).grown gs (.inr (by intro hh;have:=q0_1.row_lo _ hh;omega))
 obtain ⟨V2,hV2⟩ : ∃ V,V = u1.setCell ⟨w.heap.size,7,none⟩ (.slice a1_ n2 c1_):=⟨_,rfl⟩
 rw [← hV2] at P2 R2 B2 z2 q0_2 q1_2
 rw [← hV2]
 clear hV2 y sr yu fu zu Pu Ru Bu gs ho hg hbk P1 R1 B1 z1 q0_1
 have y : V2.cell? ⟨w.heap.size,8,none⟩ = some (.slice ar nr cr):=(P2 8 (by simp)).1
 have sr : Src Tryz.prog 1 22 (.slice ar nr cr) nr (R.map Value.string) V2:=(h2.below' B2).srcS cr
 go_upto_region 4 with (at_builtin;refine wpList_append_c _ rfl _ _ 22 22 rfl (w.heap.size + 2) 9 i0 (.string ⟨#[]⟩) 1 16 Tryz.underlying22 hi0 hz00 hz01 hz02 rfl (.slice none 0 0) 0 [] rfl (Own.nil _ _ _) _ nr _ rfl sr (by unfold maxLen;omega) (by omega) z2 ?_;intro v2 u2 ho hg hbk;rw [Nat.zero_add,List.nil_append] at ho;obtain ⟨a2_,c2_,rfl⟩:=ho.slc;have Pu:=P2.block (hg.block w.heap.size (by omega) none_lt);have Ru:=R2.block (hg.block (w.heap.size + 1) (by omega) none_lt);have Bu:=below_grown B2 hg (by omega) (fun q hq=>by cases hq);have yu : u2.cell? ⟨w.heap.size,8,none⟩ = some (.slice ar nr cr):=(Pu 8 (by simp)).1;have fu : u2.frozen? ⟨w.heap.size,8,none⟩ = false:=(Pu 8 (by simp)).2;have zu : w.heap.size + 2 ≤ u2.heap.size:=Nat.le_trans z2 hg.size)
 have P3:=Pu.set (j:=8) (by simp) (.slice a2_ nr c2_)
 simp only [List.set_cons_zero,List.set_cons_succ] at P3
 have gs:=gset (World.grownBy.refl u2 (some w.heap.size)) 8 (.slice a2_ nr c2_)
 have R3:=Ru.block (Below.heap_setCell u2 (⟨w.heap.size,8,none⟩ : Addr) (.slice a2_ nr c2_) (w.heap.size + 1) (by dsimp only;omega))
 have B3:=Bu.setCell (p:=⟨w.heap.size,8,none⟩) (by dsimp only;omega) (.slice a2_ nr c2_)
 have z3 : w.heap.size + 2 ≤ (u2.setCell ⟨w.heap.size,8,none⟩ (.slice a2_ nr c2_)).heap.size:=by simpa [World.setCell] using zu
 have q2_3:=ho.grown gs (.inr (by intro hh;have:=ho.row_lo _ hh;omega))
 have D02 : Hid (Dj (Value.slice a0_ n1 c0_).ownBlock (Value.slice a2_ nr c2_).ownBlock):=Dj.new q0_2.row_hi hbk
 have q0_3:=(q0_2.grown hg (by cases hq : (Value.slice a0_ n1 c0_).ownBlock with | none=>exact .inl rfl | some q=>exact .inr (fun hh=>by cases hh))).grown gs (.inr (by intro hh;have:=q0_2.row_lo _ hh;omega))
 have D12 : Hid (Dj (Value.slice a1_ n2 c1_).ownBlock (Value.slice a2_ nr c2_).ownBlock):=Dj.new q1_2.row_hi hbk
 have q1_3:=(q1_2.grown hg (by cases hq : (Value.slice a1_ n2 c1_).ownBlock with | none=>exact .inl rfl | some q=>exact .inr (fun hh=>by cases hh))).grown gs (.inr (by intro hh;have:=q1_2.row_lo _ hh;omega))
 obtain ⟨V3,hV3⟩ : ∃ V,V = u2.setCell ⟨w.heap.size,8,none⟩ (.slice a2_ nr c2_):=⟨_,rfl⟩
 rw [← hV3] at P3 R3 B3 z3 q0_3 q1_3 q2_3
 rw [← hV3]
 clear hV3 y sr yu fu zu Pu Ru Bu gs ho hg hbk P2 R2 B2 z2 q0_2 q1_2
 have y : V3.cell? ⟨w.heap.size,9,none⟩ = some (.slice aj nj cj):=(P3 9 (by simp)).1
 have sr : Src Tryz.prog 3 39 (.slice aj nj cj) nj (c3 J) V3:=(h3.below' B3).src 39 76 Tryz.underlying39 cj
 go_upto_region 5 with (at_builtin;refine wpList_append_c _ rfl _ _ 39 39 rfl (w.heap.size + 2) 76 i3 (.agg #[.int .i64 0,.int .i64 0,.int .i64 0]) 3 24 Tryz.underlying39 hi3 hz30 hz31 hz32 rfl (.slice none 0 0) 0 [] rfl (Own.nil _ _ _) _ nj _ rfl sr (by unfold maxLen;omega) (by omega) z3 ?_;intro v3 u3 ho hg hbk;rw [Nat.zero_add,List.nil_append] at ho;obtain ⟨a3_,c3_,rfl⟩:=ho.slc;have Pu:=P3.block (hg.block w.heap.size (by omega) none_lt);have Ru:=R3.block (hg.block (w.heap.size + 1) (by omega) none_lt);have Bu:=below_grown B3 hg (by omega) (fun q hq=>by cases hq);have yu : u3.cell? ⟨w.heap.size,9,none⟩ = some (.slice aj nj cj):=(Pu 9 (by simp)).1;have fu : u3.frozen? ⟨w.heap.size,9,none⟩ = false:=(Pu 9 (by simp)).2;have zu : w.heap.size + 2 ≤ u3.heap.size:=Nat.le_trans z3 hg.size)
 have P4:=Pu.set (j:=9) (by simp) (.slice a3_ nj c3_)
 simp only [List.set_cons_zero,List.set_cons_succ] at P4
 have gs:=gset (World.grownBy.refl u3 (some w.heap.size)) 9 (.slice a3_ nj c3_)
 have R4:=Ru.block (Below.heap_setCell u3 (⟨w.heap.size,9,none⟩ : Addr) (.slice a3_ nj c3_) (w.heap.size + 1) (by dsimp only;omega))
 have B4:=Bu.setCell (p:=⟨w.heap.size,9,none⟩) (by dsimp only;omega) (.slice a3_ nj c3_)
 have z4 : w.heap.size + 2 ≤ (u3.setCell ⟨w.heap.size,9,none⟩ (.slice a3_ nj c3_)).heap.size:=by simpa [World.setCell] using zu
 have q3_4:=ho.grown gs (.inr (by intro hh;have:=ho.row_lo _ hh;omega))
 have D03 : Hid (Dj (Value.slice a0_ n1 c0_).ownBlock (Value.slice a3_ nj c3_).ownBlock):=Dj.new q0_3.row_hi hbk
 have q0_4:=(q0_3.grown hg (by cases hq : (Value.slice a0_ n1 c0_).ownBlock with | none=>exact .inl rfl | some q=>exact .inr (fun hh=>by cases hh))).grown gs (.inr (by intro hh;have:=q0_3.row_lo _ hh;omega))
 have D13 : Hid (Dj (Value.slice a1_ n2 c1_).ownBlock (Value.slice a3_ nj c3_).ownBlock):=Dj.new q1_3.row_hi hbk
 have q1_4:=(q1_3.grown hg (by cases hq : (Value.slice a1_ n2 c1_).ownBlock with | none=>exact .inl rfl | some q=>exact .inr (fun hh=>by cases hh))).grown gs (.inr (by intro hh;have:=q1_3.row_lo _ hh;omega))
 have D23 : Hid (Dj (Value.slice a2_ nr c2_).ownBlock (Value.slice a3_ nj c3_).ownBlock):=Dj.new q2_3.row_hi hbk
 have q2_4:=(q2_3.grown hg (by cases hq : (Value.slice a2_ nr c2_).ownBlock with | none=>exact .inl rfl | some q=>exact .inr (fun hh=>by cases hh))).grown gs (.inr (by intro hh;have:=q2_3.row_lo _ hh;omega))
 obtain ⟨V4,hV4⟩ : ∃ V,V = u3.setCell ⟨w.heap.size,9,none⟩ (.slice a3_ nj c3_):=⟨_,rfl⟩
 rw [← hV4] at P4 R4 B4 z4 q0_4 q1_4 q2_4 q3_4
 rw [← hV4]
 clear hV4 y sr yu fu zu Pu Ru Bu gs ho hg hbk P3 R3 B3 z3 q0_3 q1_3 q2_3
 have y : V4.cell? ⟨w.heap.size,10,none⟩ = some (.slice az ns cs):=(P4 10 (by simp)).1
 have sr : Src Tryz.prog 2 40 (.slice az ns cs) ns (c2 S) V4:=(h4.below' B4).src 40 112 Tryz.underlying40 cs
 go_upto_region 6 with (at_builtin;refine wpList_append_c _ rfl _ _ 40 40 rfl (w.heap.size + 2) 112 i4 (.agg #[.bool false,.int .i64 0]) 2 16 Tryz.underlying40 hi4 hz40 hz41 hz42 rfl (.slice none 0 0) 0 [] rfl (Own.nil _ _ _) _ ns _ rfl sr (by unfold maxLen;omega) (by omega) z4 ?_;intro v4 u4 ho hg hbk;rw [Nat.zero_add,List.nil_append] at ho;obtain ⟨a4_,c4_,rfl⟩:=ho.slc;have Pu:=P4.block (hg.block w.heap.size (by omega) none_lt);have Ru:=R4.block (hg.block (w.heap.size + 1) (by omega) none_lt);have Bu:=below_grown B4 hg (by omega) (fun q hq=>by cases hq);have yu : u4.cell? ⟨w.heap.size,10,none⟩ = some (.slice az ns cs):=(Pu 10 (by simp)).1;have fu : u4.frozen? ⟨w.heap.size,10,none⟩ = false:=(Pu 10 (by simp)).2;have zu : w.heap.size + 2 ≤ u4.heap.size:=Nat.le_trans z4 hg.size)
 have P5:=Pu.set (j:=10) (by simp) (.slice a4_ ns c4_)
 simp only [List.set_cons_zero,List.set_cons_succ] at P5
 have gs:=gset (World.grownBy.refl u4 (some w.heap.size)) 10 (.slice a4_ ns c4_)
 have R5:=Ru.block (Below.heap_setCell u4 (⟨w.heap.size,10,none⟩ : Addr) (.slice a4_ ns c4_) (w.heap.size + 1) (by dsimp only;omega))
 have B5:=Bu.setCell (p:=⟨w.heap.size,10,none⟩) (by dsimp only;omega) (.slice a4_ ns c4_)
 have z5 : w.heap.size + 2 ≤ (u4.setCell ⟨w.heap.size,10,none⟩ (.slice a4_ ns c4_)).heap.size:=by simpa [World.setCell] using zu
 have q4_5:=ho.grown gs (.inr (by intro hh;have:=ho.row_lo _ hh;omega))
 have D04 : Hid (Dj (Value.slice a0_ n1 c0_).ownBlock (Value.slice a4_ ns c4_).ownBlock):=Dj.new q0_4.row_hi hbk
 have q0_5:=(q0_4.grown hg (by cases hq : (Value.slice a0_ n1 c0_).ownBlock with | none=>exact .inl rfl | some q=>exact .inr (fun hh=>by cases hh))).grown gs (.inr (by intro hh;have:=q0_4.row_lo _ hh;omega))
 have D14 : Hid (Dj (Value.slice a1_ n2 c1_).ownBlock (Value.slice a4_ ns c4_).ownBlock):=Dj.new q1_4.row_hi hbk
 have q1_5:=(q1_4.grown hg (by cases hq : (Value.slice a1_ n2 c1_).ownBlock with | none=>exact .inl rfl | some q=>exact .inr (fun hh=>by cases hh))).grown gs (.inr (by intro hh;have:=q1_4.row_lo _ hh;omega))
 have D24 : Hid (Dj (Value.slice a2_ nr c2_).ownBlock (Value.slice a4_ ns c4_).ownBlock):=Dj.new q2_4.row_hi hbk
 have q2_5:=(q2_4.grown hg (by cases hq : (Value.slice a2_ nr c2_).ownBlock with | none=>exact .inl rfl | some q=>exact .inr (fun hh=>by cases hh))).grown gs (.inr (by intro hh;have:=q2_4.row_lo _ hh;omega))
 have D34 : Hid (Dj (Value.slice a3_ nj c3_).ownBlock (Value.slice a4_ ns c4_).ownBlock):=Dj.new q3_4.row_hi hbk
 have q3_5:=(q3_4.grown hg (by cases hq : (Value.slice a3_ nj c3_).ownBlock with | none=>exact .inl rfl | some q=>exact .inr (fun hh=>by cases hh))).grown gs (.inr (by intro hh;have:=q3_4.row_lo _ hh;omega))
 obtain ⟨V5,hV5⟩ : ∃ V,V = u4.setCell ⟨w.heap.size,10,none⟩ (.slice a4_ ns c4_):=⟨_,rfl⟩
 rw [← hV5] at P5 R5 B5 z5 q0_5 q1_5 q2_5 q3_5 q4_5
 rw [← hV5]
 clear hV5 y sr yu fu zu Pu Ru Bu gs ho hg hbk P4 R4 B4 z4 q0_4 q1_4 q2_4 q3_4
 have y : V5.cell? ⟨w.heap.size,11,none⟩ = some (.slice ao no co):=(P5 11 (by simp)).1
 have sr : Src Tryz.prog 3 41 (.slice ao no co) no (c3 O) V5:=(h5.below' B5).src 41 114 Tryz.underlying41 co
 go_upto_region 7 with (at_builtin;refine wpList_append_c _ rfl _ _ 41 41 rfl (w.heap.size + 2) 114 i5 (.agg #[.int .i64 0,.int .i64 0,.int .i64 0]) 3 24 Tryz.underlying41 hi5 hz50 hz51 hz52 rfl (.slice none 0 0) 0 [] rfl (Own.nil _ _ _) _ no _ rfl sr (by unfold maxLen;omega) (by omega) z5 ?_;intro v5 u5 ho hg hbk;rw [Nat.zero_add,List.nil_append] at ho;obtain ⟨a5_,c5_,rfl⟩:=ho.slc;have Pu:=P5.block (hg.block w.heap.size (by omega) none_lt);have Ru:=R5.block (hg.block (w.heap.size + 1) (by omega) none_lt);have Bu:=below_grown B5 hg (by omega) (fun q hq=>by cases hq);have yu : u5.cell? ⟨w.heap.size,11,none⟩ = some (.slice ao no co):=(Pu 11 (by simp)).1;have fu : u5.frozen? ⟨w.heap.size,11,none⟩ = false:=(Pu 11 (by simp)).2;have zu : w.heap.size + 2 ≤ u5.heap.size:=Nat.le_trans z5 hg.size)
 have P6:=Pu.set (j:=11) (by simp) (.slice a5_ no c5_)
 simp only [List.set_cons_zero,List.set_cons_succ] at P6
 have gs:=gset (World.grownBy.refl u5 (some w.heap.size)) 11 (.slice a5_ no c5_)
 have R6:=Ru.block (Below.heap_setCell u5 (⟨w.heap.size,11,none⟩ : Addr) (.slice a5_ no c5_) (w.heap.size + 1) (by dsimp only;omega))
 have B6:=Bu.setCell (p:=⟨w.heap.size,11,none⟩) (by dsimp only;omega) (.slice a5_ no c5_)
 have z6 : w.heap.size + 2 ≤ (u5.setCell ⟨w.heap.size,11,none⟩ (.slice a5_ no c5_)).heap.size:=by simpa [World.setCell] using zu
 have q5_6:=ho.grown gs (.inr (by intro hh;have:=ho.row_lo _ hh;omega))
 have D05 : Hid (Dj (Value.slice a0_ n1 c0_).ownBlock (Value.slice a5_ no c5_).ownBlock):=Dj.new q0_5.row_hi hbk
 have q0_6:=(q0_5.grown hg (by cases hq : (Value.slice a0_ n1 c0_).ownBlock with | none=>exact .inl rfl | some q=>exact .inr (fun hh=>by cases hh))).grown gs (.inr (by intro hh;have:=q0_5.row_lo _ hh;omega))
 have D15 : Hid (Dj (Value.slice a1_ n2 c1_).ownBlock (Value.slice a5_ no c5_).ownBlock):=Dj.new q1_5.row_hi hbk
 have q1_6:=(q1_5.grown hg (by cases hq : (Value.slice a1_ n2 c1_).ownBlock with | none=>exact .inl rfl | some q=>exact .inr (fun hh=>by cases hh))).grown gs (.inr (by intro hh;have:=q1_5.row_lo _ hh;omega))
 have D25 : Hid (Dj (Value.slice a2_ nr c2_).ownBlock (Value.slice a5_ no c5_).ownBlock):=Dj.new q2_5.row_hi hbk
 have q2_6:=(q2_5.grown hg (by cases hq : (Value.slice a2_ nr c2_).ownBlock with | none=>exact .inl rfl | some q=>exact .inr (fun hh=>by cases hh))).grown gs (.inr (by intro hh;have:=q2_5.row_lo _ hh;omega))
 have D35 : Hid (Dj (Value.slice a3_ nj c3_).ownBlock (Value.slice a5_ no c5_).ownBlock):=Dj.new q3_5.row_hi hbk
 have q3_6:=(q3_5.grown hg (by cases hq : (Value.slice a3_ nj c3_).ownBlock with | none=>exact .inl rfl | some q=>exact .inr (fun hh=>by cases hh))).grown gs (.inr (by intro hh;have:=q3_5.row_lo _ hh;omega))
 have D45 : Hid (Dj (Value.slice a4_ ns c4_).ownBlock (Value.slice a5_ no c5_).ownBlock):=Dj.new q4_5.row_hi hbk
 have q4_6:=(q4_5.grown hg (by cases hq : (Value.slice a4_ ns c4_).ownBlock with | none=>exact .inl rfl | some q=>exact .inr (fun hh=>by cases hh))).grown gs (.inr (by intro hh;have:=q4_5.row_lo _ hh;omega))
 obtain ⟨V6,hV6⟩ : ∃ V,V = u5.setCell ⟨w.heap.size,11,none⟩ (.slice a5_ no c5_):=⟨_,rfl⟩
 rw [← hV6] at P6 R6 B6 z6 q0_6 q1_6 q2_6 q3_6 q4_6 q5_6
 rw [← hV6]
 clear hV6 y sr yu fu zu Pu Ru Bu gs ho hg hbk P5 R5 B5 z5 q0_5 q1_5 q2_5 q3_5 q4_5
 obtain ⟨y0,y1,y2,y3,y4,y5,y6,y7,y8,y9,y10,y11⟩:=cf12 P6
 go_wp2_with (refine wpList_store_cf rfl 43 (.tmp 2) (.tmp 31) rfl (w.heap.size + 1) zB [.int .i64 wk,.bool up,.int .i64 now,.int .i64 sn,.int .i64 ep,.int .i64 gv,.slice a0_ n1 c0_,.slice a1_ n2 c1_,.slice a2_ nr c2_,.slice a3_ nj c3_,.slice a4_ ns c4_,.slice a5_ no c5_] rfl rfl R6 rfl Tryz.sizeBo (one12b _ _ _ _ _ _ _ _ _ _ _ _ _ _ _ _ _ _ _ _ _ _ _ _) ?_;intro w10 hc10 hg10)
 obtain ⟨k0,k1,k2,k3,k4,k5,k6,k7,k8,k9,k10,k11⟩:=cf12 hc10
 refine bodyPost_ret (v:=.agg #[.int .i64 wk,.bool up,.int .i64 now,.int .i64 sn,.int .i64 ep,.int .i64 gv,.slice a0_ n1 c0_,.slice a1_ n2 c1_,.slice a2_ nr c2_,.slice a3_ nj c3_,.slice a4_ ns c4_,.slice a5_ no c5_]) (by simp [results,Tryz.results81,go_sem,k0,k1,k2,k3,k4,k5,k6,k7,k8,k9,k10,k11]) rfl ⟨a0_,c0_,a1_,c1_,a2_,c2_,a3_,c3_,a4_,c4_,a5_,c5_,rfl,⟨(q0_6.grown hg10 (.inr (by intro hh;have:=q0_6.row_lo _ hh;omega))).mono' (by omega),(q1_6.grown hg10 (.inr (by intro hh;have:=q1_6.row_lo _ hh;omega))).mono' (by omega),(q2_6.grown hg10 (.inr (by intro hh;have:=q2_6.row_lo _ hh;omega))).mono' (by omega),(q3_6.grown hg10 (.inr (by intro hh;have:=q3_6.row_lo _ hh;omega))).mono' (by omega),(q4_6.grown hg10 (.inr (by intro hh;have:=q4_6.row_lo _ hh;omega))).mono' (by omega),(q5_6.grown hg10 (.inr (by intro hh;have:=q5_6.row_lo _ hh;omega))).mono' (by omega)⟩,?_,below_grown B6 hg10 (by omega) (fun q hq=>by simp at hq;omega)⟩
 simp only [List.pairwise_cons,List.mem_cons,List.not_mem_nil,or_false,forall_eq_or_imp,forall_eq,List.Pairwise.nil,and_true,false_implies,implies_true]
 exact ⟨⟨D01.out,D02.out,D03.out,D04.out,D05.out⟩,⟨D12.out,D13.out,D14.out,D15.out⟩,⟨D23.out,D24.out,D25.out⟩,⟨D34.out,D35.out⟩,D45.out⟩
end Go.Proofs.YtaeomkpofcbmiaaGreatDoor
namespace Go.Proofs.YtaeomkpofcbmiaaGreatDoor
open Go.RowKit
structure BossO (w : World) (B : Nat) (d : BD) (h : BH) : Prop where
 o0 : Own B w 1 (.slice h.a1 d.L1.length h.c1) d.L1.length (d.L1.map Value.string)
 o1 : Own B w 1 (.slice h.a2 d.L2.length h.c2) d.L2.length (d.L2.map Value.string)
 o2 : Own B w 1 (.slice h.ar d.R.length h.cr) d.R.length (d.R.map Value.string)
 o3 : Own B w 3 (.slice h.aj d.J.length h.cj) d.J.length (c3 d.J)
 o4 : Own B w 2 (.slice h.az d.S.length h.cs) d.S.length (c2 d.S)
 o5 : Own B w 3 (.slice h.ao d.O.length h.co) d.O.length (c3 d.O)
 dis : List.Pairwise Dj [(Value.slice h.a1 d.L1.length h.c1).ownBlock,(Value.slice h.a2 d.L2.length h.c2).ownBlock,(Value.slice h.ar d.R.length h.cr).ownBlock,(Value.slice h.aj d.J.length h.cj).ownBlock,(Value.slice h.az d.S.length h.cs).ownBlock,(Value.slice h.ao d.O.length h.co).ownBlock]
def zBD : BD:=⟨0,false,0,0,0,0,[],[],[],[],[],[]⟩
theorem Dj.none_l (y : Option Nat) : Dj none y:=.inl rfl
theorem zBO (w : World) (B : Nat) : BossO w B zBD ⟨none,none,none,none,none,none,0,0,0,0,0,0⟩:=by
 refine ⟨Own.nil _ _ _,Own.nil _ _ _,Own.nil _ _ _,Own.nil _ _ _,Own.nil _ _ _,Own.nil _ _ _,?_⟩
 simp [Value.ownBlock,Dj.none_l]
end Go.Proofs.YtaeomkpofcbmiaaGreatDoor
namespace Go.Proofs.YtaeomkpofcbmiaaGreatDoor
open Go.RowKit
theorem Tryz.sizeLo : (Tryz.prog.info? 38).map (·.size) = some 2:=by kernel_rfl
theorem bsOwn (w : World) (B : Nat) (h : B ≤ w.heap.size) : Own B (w.alloc (.cells #[] 9)) 1 (.slice (some ⟨w.heap.size,0,none⟩) 0 0) 0 [] :=
 .inr ⟨_,0,0,rfl,OwnC.made w B 9 1 0 0 _ 0 h (Nat.le_refl _) (by unfold maxLen;omega) rfl (Nat.le_refl _) _ rfl _ (.inl rfl)⟩
structure LJ (w : World) (a1 : Option Addr) (n1 ca : Nat) (a2 : Option Addr) (n2 cb : Nat) (w' : World) : Prop where
 p : CF w' w.heap.size [.slice a1 n1 ca,.slice a2 n2 cb]
 r : CF w' (w.heap.size + 1) [.slice none 0 0,.slice none 0 0]
 b : Below w.heap.size w w'
 z : w.heap.size + 2 ≤ w'.heap.size
theorem LJ.alloc {w : World} {a1 : Option Addr} {n1 ca : Nat} {a2 : Option Addr} {n2 cb : Nat} {w' : World} (h : LJ w a1 n1 ca a2 n2 cb w') (ob : Obj) : LJ w a1 n1 ca a2 n2 cb (w'.alloc ob) :=
 ⟨h.p.block (Below.heap_alloc _ _ _ (by have:=h.z;omega)),h.r.block (Below.heap_alloc _ _ _ (by have:=h.z;omega)),h.b.alloc h.b.size ob,by have:=h.z;simp;omega⟩
theorem LJ.grown {w : World} {a1 : Option Addr} {n1 ca : Nat} {a2 : Option Addr} {n2 cb : Nat} {w' w'' : World} {row : Option Nat} (h : LJ w a1 n1 ca a2 n2 cb w') (hg : w'.grownBy w'' row) (hr : ∀ q,row = some q → w.heap.size + 2 ≤ q) : LJ w a1 n1 ca a2 n2 cb w'' :=
 ⟨h.p.block (hg.block _ (by have:=h.z;omega) (fun e=>by have:=hr _ e.symm;omega)),h.r.block (hg.block _ (by have:=h.z;omega) (fun e=>by have:=hr _ e.symm;omega)),below_grown h.b hg (by have:=h.z;omega) (fun q hq=>by have:=hr q hq;omega),Nat.le_trans h.z hg.size⟩
theorem app0 (w U : World) (B : Nat) (hb : Below w.heap.size w U) (hB : B ≤ U.heap.size) {a : Option Addr} {b o n : Nat} {L : List ByteArray} (c : Nat) (h : StrsAt w a b o n L) (hn : n ≤ 1048576) {v : Value} (hv : Own B U 1 v 0 []) :
  ∃ a' c' w',(Builtin.append_ #[22,22] 22 #[v,.slice a n c]).run Tryz.prog U = .ok (.slice a' n c') w' ∧ Own B w' 1 (.slice a' n c') n (L.map Value.string) ∧ U.grownBy w' v.ownBlock ∧ ((Value.slice a' n c').ownBlock = v.ownBlock ∨ (Value.slice a' n c').ownBlock = some U.heap.size):=by
 obtain ⟨i0,hi0,hz00,hz01,hz02⟩:=info_parts Tryz.infoSt
 obtain ⟨v',w',hr,ho,hg,hk⟩:=run_append_c (P:=Tryz.prog) U B 22 22 22 9 i0 (.string ⟨#[]⟩) 1 16 Tryz.underlying22 hi0 hz00 hz01 hz02 rfl _ 0 _ hv _ n _ ((h.below' hb).srcS c) (by unfold maxLen;omega) (by omega) hB
 rw [Nat.zero_add,List.nil_append] at ho
 obtain ⟨a',c',rfl⟩:=ho.slc
 exact ⟨a',c',w',hr,ho,hg,hk⟩
theorem run_b42b {ρ : Operand → Value} {o : Oper} {w : World} {a : Option Addr} {n c : Nat} {a' : Option Addr} {n' c' : Nat} (x y : Operand) (h : o.op = .build 38 #[(0,x),(1,y)]) (hx : ρ x = .slice a n c) (hy : ρ y = .slice a' n' c') : (execOp ρ o).run Tryz.prog w = .ok (.value (.agg #[.slice a n c,.slice a' n' c'])) w:=by
 unfold execOp
 rw [h]
 simp [go_sem,hx,hy]
theorem one2 (a a' : Option Addr) (n c n' c' : Nat) : ∀ v ∈ [Value.slice a n c,.slice a' n' c'],v.oneCell' = true:=by
 intro v hv
 simp only [List.mem_cons,List.not_mem_nil,or_false] at hv
 rcases hv with rfl | rfl <;> rfl
theorem l4Log_any (a1 a2 : Option Addr) (b1 o1 n1 ca b2 o2 n2 cb : Nat) (L1 L2 : List ByteArray) (w : World) (h1 : StrsAt w a1 b1 o1 n1 L1) (h2 : StrsAt w a2 b2 o2 n2 L2) (m1 : n1 ≤ 1048576) (m2 : n2 ≤ 1048576) :
  Calls Tryz.prog 65 #[.agg #[.slice a1 n1 ca,.slice a2 n2 cb]] w fun e w'=>∃ a0_ c0_ a1_ c1_,e = .returned (.agg #[.slice a0_ n1 c0_,.slice a1_ n2 c1_]) ∧ Own w.heap.size w' 1 (.slice a0_ n1 c0_) n1 (L1.map Value.string) ∧ Own w.heap.size w' 1 (.slice a1_ n2 c1_) n2 (L2.map Value.string) ∧ Dj (Value.slice a0_ n1 c0_).ownBlock (Value.slice a1_ n2 c1_).ownBlock ∧ Below w.heap.size w w':=by
 obtain ⟨W,hW⟩ : ∃ W,W = (w.alloc (.cells #[.slice a1 n1 ca,.slice a2 n2 cb] 38)).alloc (.cells #[.slice none 0 0,.slice none 0 0] 38):=⟨_,rfl⟩
 have J0 : LJ w a1 n1 ca a2 n2 cb W.drew:=by
  rw [hW]
  refine ⟨(CF.made w #[.slice a1 n1 ca,.slice a2 n2 cb] 38).block (Below.heap_alloc _ _ _ (by simp)),?_,(((Below.refl _ _).alloc (Nat.le_refl _) _).alloc (by simp) _).drew,?_⟩
  ·have:=CF.made (w.alloc (.cells #[.slice a1 n1 ca,.slice a2 n2 cb] 38)) #[.slice none 0 0,.slice none 0 0] 38
   rw [World.size_alloc] at this
   exact this
  ·show _ ≤ (World.alloc _ _).heap.size;simp
 have HW:=hid hW
 clear hW
 go_enter Tryz.func65,Tryz.ntmps65
 go_upto_region 1 with fail
 rw [← HW.out]
 clear HW
 refine wp_region_held (S:=fun w'=>CF w' w.heap.size [.slice a1 n1 ca,.slice a2 n2 cb]) (by kernel_rfl) ?_
 change wpAnyH _ _ _ _ _ _ _ _ (World.drew _)
 obtain ⟨U,hU⟩ : ∃ U,U = W.drew:=⟨_,rfl⟩
 rw [← hU] at J0
 rw [← hU]
 clear hU
 refine hTk (i:=1) (d:=some 4) (v:=.pointer (some ⟨w.heap.size,0,none⟩)) (l':=(bt 10 2)) rfl (fun _ hc=>by kernel_rfl) J0.p ?_
 refine hTk (i:=2) (d:=some 5) (v:=.slice a1 n1 ca) (l':=(bt 10 6)) rfl (fun _ hc=>run_ldss (.tmp 4) (by kernel_rfl) (by kernel_rfl) (hc 0 (by simp)).1) J0.p ?_
 refine hTk (i:=5) (d:=some 8) (v:=.pointer (some ⟨w.heap.size,1,none⟩)) (l':=(bt 10 38)) rfl (fun _ hc=>by kernel_rfl) J0.p ?_
 refine hTk (i:=6) (d:=some 9) (v:=.slice a2 n2 cb) (l':=(bt 10 102)) rfl (fun _ hc=>run_ldss (.tmp 8) (by kernel_rfl) (by kernel_rfl) (hc 1 (by simp)).1) J0.p ?_
 refine hTwo (i:=0) (j:=4) (by kernel_rfl) (hVal (i:=0) (d:=some 3) (v:=.slice (some ⟨U.heap.size,0,none⟩) 0 0) (w':=U.alloc (.cells #[] 9)) (l':=(bt 10 103)) rfl (by kernel_rfl) (by kernel_rfl) (by kernel_rfl) (run_bs0 (by kernel_rfl)) (J0.alloc (.cells #[] 9)).p ?_) (hVal (i:=4) (d:=some 7) (v:=.slice (some ⟨U.heap.size,0,none⟩) 0 0) (w':=U.alloc (.cells #[] 9)) (l':=(bt 10 118)) rfl (by kernel_rfl) (by kernel_rfl) (by kernel_rfl) (run_bs0 (by kernel_rfl)) (J0.alloc (.cells #[] 9)).p ?_)
 ·have J1:=J0.alloc (.cells #[] 9)
  have own1:=bsOwn U (w.heap.size + 2) J0.z
  have zz1 : (U.alloc (.cells #[] 9)).heap.size = U.heap.size + 1:=by simp
  obtain ⟨A1,hA1⟩ : ∃ V,V = U.alloc (.cells #[] 9):=⟨_,rfl⟩
  rw [← hA1] at J1 own1 zz1
  rw [← hA1]
  clear hA1
  obtain ⟨p2_,t2_,w2,hr2,ho2,hg2,hk2⟩:=app0 w A1 (w.heap.size + 2) J1.b J1.z ca h1 m1 own1
  have J2:=J1.grown hg2 (fun q hq=>own1.row_lo q hq)
  refine hTwo (i:=3) (j:=4) (by kernel_rfl) (hVal (i:=3) (d:=some 6) (v:=.slice p2_ n1 t2_) (w':=w2) (l':=(bt 10 111)) rfl (by kernel_rfl) (by kernel_rfl) (by kernel_rfl) (run_app (.tmp 3) (.tmp 5) 22 22 (by kernel_rfl) (by kernel_rfl) (by kernel_rfl) (by kernel_rfl) hr2) J2.p ?_) (hVal (i:=4) (d:=some 7) (v:=.slice (some ⟨A1.heap.size,0,none⟩) 0 0) (w':=A1.alloc (.cells #[] 9)) (l':=(bt 10 119)) rfl (by kernel_rfl) (by kernel_rfl) (by kernel_rfl) (run_bs0 (by kernel_rfl)) (J1.alloc (.cells #[] 9)).p ?_)
  ·refine hOne (i:=4) (by kernel_rfl) (hVal (i:=4) (d:=some 7) (v:=.slice (some ⟨w2.heap.size,0,none⟩) 0 0) (w':=w2.alloc (.cells #[] 9)) (l':=(bt 10 127)) rfl (by kernel_rfl) (by kernel_rfl) (by kernel_rfl) (run_bs0 (by kernel_rfl)) (J2.alloc (.cells #[] 9)).p ?_)
   have J3:=J2.alloc (.cells #[] 9)
   have own3:=bsOwn w2 (w.heap.size + 2) J2.z
   have zz3 : (w2.alloc (.cells #[] 9)).heap.size = w2.heap.size + 1:=by simp
   have v03:=ho2.alloc (.cells #[] 9)
   obtain ⟨A3,hA3⟩ : ∃ V,V = w2.alloc (.cells #[] 9):=⟨_,rfl⟩
   rw [← hA3] at J3 own3 zz3 v03
   rw [← hA3]
   clear hA3
   have hh7:=v03.row_hi
   have DD : Dj (Value.slice p2_ n1 t2_).ownBlock (Value.slice (some ⟨w2.heap.size,0,none⟩) 0 0).ownBlock:=by
    cases hq : (Value.slice p2_ n1 t2_).ownBlock with
    | none=>exact .inl rfl
    | some q=>exact .inr (by have h5:=ho2.row_hi q hq;simp [Value.ownBlock];omega)
   obtain ⟨p4_,t4_,w4,hr4,ho4,hg4,hk4⟩:=app0 w A3 (w.heap.size + 2) J3.b J3.z cb h2 m2 own3
   have J4:=J3.grown hg4 (fun q hq=>own3.row_lo q hq)
   refine hOne (i:=7) (by kernel_rfl) (hVal (i:=7) (d:=some 10) (v:=.slice p4_ n2 t4_) (w':=w4) (l':=(bt 10 255)) rfl (by kernel_rfl) (by kernel_rfl) (by kernel_rfl) (run_app (.tmp 7) (.tmp 9) 22 22 (by kernel_rfl) (by kernel_rfl) (by kernel_rfl) (by kernel_rfl) hr4) J4.p ?_)
   have v04:=v03.grown hg4 DD
   have DF : Dj (Value.slice p2_ n1 t2_).ownBlock (Value.slice p4_ n2 t4_).ownBlock:=by
    rcases hk4 with e | e
    ·rw [e];exact DD
    ·exact Dj.new hh7 (.inr e)
   refine hTk (i:=8) (d:=some 11) (v:=.agg #[.slice p2_ n1 t2_,.slice p4_ n2 t4_]) (l':=(bt 10 511)) rfl (fun _ hc=>run_b42b (.tmp 6) (.tmp 10) (by kernel_rfl) (by kernel_rfl) (by kernel_rfl)) J4.p ?_
   obtain ⟨wf,hwf⟩ : ∃ wf,wf = w4.setCells (w.heap.size + 1) 0 [.slice p2_ n1 t2_,.slice p4_ n2 t4_]:=⟨_,rfl⟩
   have gf : w4.grownBy wf (some (w.heap.size + 1)):=by rw [hwf];exact grown_setCells _ _ _ _ _ (World.grownBy.refl _ _)
   have cf : CF wf (w.heap.size + 1) [.slice p2_ n1 t2_,.slice p4_ n2 t4_]:=by rw [hwf];exact J4.r.stored rfl
   have zf:=J4.z
   have pf:=J4.p.block (gf.block w.heap.size (by omega) (by intro hh;injection hh with hh;omega))
   refine hOne (i:=9) (by kernel_rfl) (hSkip (i:=9) (w':=wf) (l':=(bt 10 1023)) rfl (by kernel_rfl) (by kernel_rfl) (by kernel_rfl) (by rw [hwf];exact run_stT 38 [.slice none 0 0,.slice none 0 0] [.slice p2_ n1 t2_,.slice p4_ n2 t4_] (.tmp 2) (.tmp 11) (by kernel_rfl) (by kernel_rfl) (by kernel_rfl) J4.r rfl Tryz.sizeLo (one2 _ _ _ _ _ _)) pf ?_)
   obtain ⟨k0,k1⟩:=cf2 cf
   refine wpAnyH_done (by kernel_rfl) ?_ _
   go_wp2
   exact bodyPost_ret (v:=.agg #[.slice p2_ n1 t2_,.slice p4_ n2 t4_]) (by simp [results,Tryz.results65,go_sem,k0,k1]) rfl ⟨_,_,_,_,rfl,(v04.grown gf (.inr (by intro hh;have:=v04.row_lo _ hh;omega))).mono' (by omega),(ho4.grown gf (.inr (by intro hh;have:=ho4.row_lo _ hh;omega))).mono' (by omega),DF,below_grown J4.b gf (by omega) (fun q hq=>by simp at hq;omega)⟩
  ·have J5:=J1.alloc (.cells #[] 9)
   have own5:=bsOwn A1 (w.heap.size + 2) J1.z
   have zz5 : (A1.alloc (.cells #[] 9)).heap.size = A1.heap.size + 1:=by simp
   have v05:=own1.alloc (.cells #[] 9)
   obtain ⟨A5,hA5⟩ : ∃ V,V = A1.alloc (.cells #[] 9):=⟨_,rfl⟩
   rw [← hA5] at J5 own5 zz5 v05
   rw [← hA5]
   clear hA5
   obtain ⟨p6_,t6_,w6,hr6,ho6,hg6,hk6⟩:=app0 w A5 (w.heap.size + 2) J5.b J5.z ca h1 m1 v05
   have J6:=J5.grown hg6 (fun q hq=>v05.row_lo q hq)
   refine hOne (i:=3) (by kernel_rfl) (hVal (i:=3) (d:=some 6) (v:=.slice p6_ n1 t6_) (w':=w6) (l':=(bt 10 127)) rfl (by kernel_rfl) (by kernel_rfl) (by kernel_rfl) (run_app (.tmp 3) (.tmp 5) 22 22 (by kernel_rfl) (by kernel_rfl) (by kernel_rfl) (by kernel_rfl) hr6) J6.p ?_)
   have v16:=own5.grown hg6 (.inr (by simp [Value.ownBlock];omega))
   have hh7:=ho6.row_hi
   have DD : Dj (Value.slice p6_ n1 t6_).ownBlock (Value.slice (some ⟨A1.heap.size,0,none⟩) 0 0).ownBlock:=by
    rcases hk6 with e | e
    ·rw [e];exact .inr (by simp [Value.ownBlock];omega)
    ·rw [e];exact .inr (by simp [Value.ownBlock];omega)
   obtain ⟨p7_,t7_,w7,hr7,ho7,hg7,hk7⟩:=app0 w w6 (w.heap.size + 2) J6.b J6.z cb h2 m2 v16
   have J7:=J6.grown hg7 (fun q hq=>v16.row_lo q hq)
   refine hOne (i:=7) (by kernel_rfl) (hVal (i:=7) (d:=some 10) (v:=.slice p7_ n2 t7_) (w':=w7) (l':=(bt 10 255)) rfl (by kernel_rfl) (by kernel_rfl) (by kernel_rfl) (run_app (.tmp 7) (.tmp 9) 22 22 (by kernel_rfl) (by kernel_rfl) (by kernel_rfl) (by kernel_rfl) hr7) J7.p ?_)
   have v07:=ho6.grown hg7 DD
   have DF : Dj (Value.slice p6_ n1 t6_).ownBlock (Value.slice p7_ n2 t7_).ownBlock:=by
    rcases hk7 with e | e
    ·rw [e];exact DD
    ·exact Dj.new hh7 (.inr e)
   refine hTk (i:=8) (d:=some 11) (v:=.agg #[.slice p6_ n1 t6_,.slice p7_ n2 t7_]) (l':=(bt 10 511)) rfl (fun _ hc=>run_b42b (.tmp 6) (.tmp 10) (by kernel_rfl) (by kernel_rfl) (by kernel_rfl)) J7.p ?_
   obtain ⟨wf,hwf⟩ : ∃ wf,wf = w7.setCells (w.heap.size + 1) 0 [.slice p6_ n1 t6_,.slice p7_ n2 t7_]:=⟨_,rfl⟩
   have gf : w7.grownBy wf (some (w.heap.size + 1)):=by rw [hwf];exact grown_setCells _ _ _ _ _ (World.grownBy.refl _ _)
   have cf : CF wf (w.heap.size + 1) [.slice p6_ n1 t6_,.slice p7_ n2 t7_]:=by rw [hwf];exact J7.r.stored rfl
   have zf:=J7.z
   have pf:=J7.p.block (gf.block w.heap.size (by omega) (by intro hh;injection hh with hh;omega))
   refine hOne (i:=9) (by kernel_rfl) (hSkip (i:=9) (w':=wf) (l':=(bt 10 1023)) rfl (by kernel_rfl) (by kernel_rfl) (by kernel_rfl) (by rw [hwf];exact run_stT 38 [.slice none 0 0,.slice none 0 0] [.slice p6_ n1 t6_,.slice p7_ n2 t7_] (.tmp 2) (.tmp 11) (by kernel_rfl) (by kernel_rfl) (by kernel_rfl) J7.r rfl Tryz.sizeLo (one2 _ _ _ _ _ _)) pf ?_)
   obtain ⟨k0,k1⟩:=cf2 cf
   refine wpAnyH_done (by kernel_rfl) ?_ _
   go_wp2
   exact bodyPost_ret (v:=.agg #[.slice p6_ n1 t6_,.slice p7_ n2 t7_]) (by simp [results,Tryz.results65,go_sem,k0,k1]) rfl ⟨_,_,_,_,rfl,(v07.grown gf (.inr (by intro hh;have:=v07.row_lo _ hh;omega))).mono' (by omega),(ho7.grown gf (.inr (by intro hh;have:=ho7.row_lo _ hh;omega))).mono' (by omega),DF,below_grown J7.b gf (by omega) (fun q hq=>by simp at hq;omega)⟩
 ·have J8:=J0.alloc (.cells #[] 9)
  have own8:=bsOwn U (w.heap.size + 2) J0.z
  have zz8 : (U.alloc (.cells #[] 9)).heap.size = U.heap.size + 1:=by simp
  obtain ⟨A8,hA8⟩ : ∃ V,V = U.alloc (.cells #[] 9):=⟨_,rfl⟩
  rw [← hA8] at J8 own8 zz8
  rw [← hA8]
  clear hA8
  refine hOne (i:=0) (by kernel_rfl) (hVal (i:=0) (d:=some 3) (v:=.slice (some ⟨A8.heap.size,0,none⟩) 0 0) (w':=A8.alloc (.cells #[] 9)) (l':=(bt 10 119)) rfl (by kernel_rfl) (by kernel_rfl) (by kernel_rfl) (run_bs0 (by kernel_rfl)) (J8.alloc (.cells #[] 9)).p ?_)
  have J9:=J8.alloc (.cells #[] 9)
  have own9:=bsOwn A8 (w.heap.size + 2) J8.z
  have zz9 : (A8.alloc (.cells #[] 9)).heap.size = A8.heap.size + 1:=by simp
  have v19:=own8.alloc (.cells #[] 9)
  obtain ⟨A9,hA9⟩ : ∃ V,V = A8.alloc (.cells #[] 9):=⟨_,rfl⟩
  rw [← hA9] at J9 own9 zz9 v19
  rw [← hA9]
  clear hA9
  obtain ⟨p10_,t10_,w10,hr10,ho10,hg10,hk10⟩:=app0 w A9 (w.heap.size + 2) J9.b J9.z ca h1 m1 own9
  have J10:=J9.grown hg10 (fun q hq=>own9.row_lo q hq)
  refine hOne (i:=3) (by kernel_rfl) (hVal (i:=3) (d:=some 6) (v:=.slice p10_ n1 t10_) (w':=w10) (l':=(bt 10 127)) rfl (by kernel_rfl) (by kernel_rfl) (by kernel_rfl) (run_app (.tmp 3) (.tmp 5) 22 22 (by kernel_rfl) (by kernel_rfl) (by kernel_rfl) (by kernel_rfl) hr10) J10.p ?_)
  have v110:=v19.grown hg10 (.inr (by simp [Value.ownBlock];omega))
  have hh7:=ho10.row_hi
  have DD : Dj (Value.slice p10_ n1 t10_).ownBlock (Value.slice (some ⟨U.heap.size,0,none⟩) 0 0).ownBlock:=by
   rcases hk10 with e | e
   ·rw [e];exact .inr (by simp [Value.ownBlock];omega)
   ·rw [e];exact .inr (by simp [Value.ownBlock];omega)
  obtain ⟨p11_,t11_,w11,hr11,ho11,hg11,hk11⟩:=app0 w w10 (w.heap.size + 2) J10.b J10.z cb h2 m2 v110
  have J11:=J10.grown hg11 (fun q hq=>v110.row_lo q hq)
  refine hOne (i:=7) (by kernel_rfl) (hVal (i:=7) (d:=some 10) (v:=.slice p11_ n2 t11_) (w':=w11) (l':=(bt 10 255)) rfl (by kernel_rfl) (by kernel_rfl) (by kernel_rfl) (run_app (.tmp 7) (.tmp 9) 22 22 (by kernel_rfl) (by kernel_rfl) (by kernel_rfl) (by kernel_rfl) hr11) J11.p ?_)
  have v011:=ho10.grown hg11 DD
  have DF : Dj (Value.slice p10_ n1 t10_).ownBlock (Value.slice p11_ n2 t11_).ownBlock:=by
   rcases hk11 with e | e
   ·rw [e];exact DD
   ·exact Dj.new hh7 (.inr e)
  refine hTk (i:=8) (d:=some 11) (v:=.agg #[.slice p10_ n1 t10_,.slice p11_ n2 t11_]) (l':=(bt 10 511)) rfl (fun _ hc=>run_b42b (.tmp 6) (.tmp 10) (by kernel_rfl) (by kernel_rfl) (by kernel_rfl)) J11.p ?_
  obtain ⟨wf,hwf⟩ : ∃ wf,wf = w11.setCells (w.heap.size + 1) 0 [.slice p10_ n1 t10_,.slice p11_ n2 t11_]:=⟨_,rfl⟩
  have gf : w11.grownBy wf (some (w.heap.size + 1)):=by rw [hwf];exact grown_setCells _ _ _ _ _ (World.grownBy.refl _ _)
  have cf : CF wf (w.heap.size + 1) [.slice p10_ n1 t10_,.slice p11_ n2 t11_]:=by rw [hwf];exact J11.r.stored rfl
  have zf:=J11.z
  have pf:=J11.p.block (gf.block w.heap.size (by omega) (by intro hh;injection hh with hh;omega))
  refine hOne (i:=9) (by kernel_rfl) (hSkip (i:=9) (w':=wf) (l':=(bt 10 1023)) rfl (by kernel_rfl) (by kernel_rfl) (by kernel_rfl) (by rw [hwf];exact run_stT 38 [.slice none 0 0,.slice none 0 0] [.slice p10_ n1 t10_,.slice p11_ n2 t11_] (.tmp 2) (.tmp 11) (by kernel_rfl) (by kernel_rfl) (by kernel_rfl) J11.r rfl Tryz.sizeLo (one2 _ _ _ _ _ _)) pf ?_)
  obtain ⟨k0,k1⟩:=cf2 cf
  refine wpAnyH_done (by kernel_rfl) ?_ _
  go_wp2
  exact bodyPost_ret (v:=.agg #[.slice p10_ n1 t10_,.slice p11_ n2 t11_]) (by simp [results,Tryz.results65,go_sem,k0,k1]) rfl ⟨_,_,_,_,rfl,(v011.grown gf (.inr (by intro hh;have:=v011.row_lo _ hh;omega))).mono' (by omega),(ho11.grown gf (.inr (by intro hh;have:=ho11.row_lo _ hh;omega))).mono' (by omega),DF,below_grown J11.b gf (by omega) (fun q hq=>by simp at hq;omega)⟩
end Go.Proofs.YtaeomkpofcbmiaaGreatDoor
namespace Go.Proofs.YtaeomkpofcbmiaaGreatDoor
open Go.RowKit
theorem l5Copy_any (wk : Int) (up : Bool) (now sn ep gv : Int) (a1 a2 ar aj az ao : Option Addr) (b1 o1 n1 ca b2 o2 n2 cb br or' nr cr bj oj nj cj bs os' ns cs bo oo no co : Nat) (L1 L2 R : List ByteArray) (J : List Tr) (S : List (Bool × Int)) (O : List Tr) (w : World) (h0 : StrsAt w a1 b1 o1 n1 L1) (h1 : StrsAt w a2 b2 o2 n2 L2) (h2 : StrsAt w ar br or' nr R) (h3 : T3At w aj bj oj nj J) (h4 : T2At w az bs os' ns S) (h5 : T3At w ao bo oo no O) (m0 : n1 ≤ 1048576) (m1 : n2 ≤ 1048576) (m2 : nr ≤ 1048576) (m3 : nj ≤ 1048576) (m4 : ns ≤ 1048576) (m5 : no ≤ 1048576) :
  Calls Tryz.prog 28 #[.agg #[.int .i64 wk,.bool up,.int .i64 now,.int .i64 sn,.int .i64 ep,.int .i64 gv,.slice a1 n1 ca,.slice a2 n2 cb,.slice ar nr cr,.slice aj nj cj,.slice az ns cs,.slice ao no co]] w fun e w'=>∃ a0_ c0_ a1_ c1_ a2_ c2_ a3_ c3_ a4_ c4_ a5_ c5_,e = .returned (.agg #[.int .i64 wk,.bool up,.int .i64 now,.int .i64 sn,.int .i64 ep,.int .i64 gv,.slice a0_ n1 c0_,.slice a1_ n2 c1_,.slice a2_ nr c2_,.slice a3_ nj c3_,.slice a4_ ns c4_,.slice a5_ no c5_]) ∧ (Own w.heap.size w' 1 (.slice a0_ n1 c0_) n1 (L1.map Value.string) ∧ Own w.heap.size w' 1 (.slice a1_ n2 c1_) n2 (L2.map Value.string) ∧ Own w.heap.size w' 1 (.slice a2_ nr c2_) nr (R.map Value.string) ∧ Own w.heap.size w' 3 (.slice a3_ nj c3_) nj (c3 J) ∧ Own w.heap.size w' 2 (.slice a4_ ns c4_) ns (c2 S) ∧ Own w.heap.size w' 3 (.slice a5_ no c5_) no (c3 O)) ∧ List.Pairwise Dj [(Value.slice a0_ n1 c0_).ownBlock,(Value.slice a1_ n2 c1_).ownBlock,(Value.slice a2_ nr c2_).ownBlock,(Value.slice a3_ nj c3_).ownBlock,(Value.slice a4_ ns c4_).ownBlock,(Value.slice a5_ no c5_).ownBlock] ∧ Below w.heap.size w w':=by
 obtain ⟨i0,hi0,hz00,hz01,hz02⟩:=info_parts Tryz.infoSt
 obtain ⟨i3,hi3,hz30,hz31,hz32⟩:=info_parts Tryz.infoJb
 obtain ⟨i4,hi4,hz40,hz41,hz42⟩:=info_parts Tryz.infoSe
 obtain ⟨i5,hi5,hz50,hz51,hz52⟩:=info_parts Tryz.infoOw
 obtain ⟨W,hW⟩ : ∃ W,W = (w.alloc (.cells #[.int .i64 wk,.bool up,.int .i64 now,.int .i64 sn,.int .i64 ep,.int .i64 gv,.slice a1 n1 ca,.slice a2 n2 cb,.slice ar nr cr,.slice aj nj cj,.slice az ns cs,.slice ao no co] 43)).alloc (.cells #[.int .i64 0,.bool false,.int .i64 0,.int .i64 0,.int .i64 0,.int .i64 0,.slice none 0 0,.slice none 0 0,.slice none 0 0,.slice none 0 0,.slice none 0 0,.slice none 0 0] 43):=⟨_,rfl⟩
 have B0 : Below w.heap.size w W:=by rw [hW];exact ((Below.refl _ _).alloc (Nat.le_refl _) _).alloc (by simp) _
 have z0 : w.heap.size + 2 ≤ W.heap.size:=by rw [hW];simp
 have P0 : CF W w.heap.size [.int .i64 wk,.bool up,.int .i64 now,.int .i64 sn,.int .i64 ep,.int .i64 gv,.slice a1 n1 ca,.slice a2 n2 cb,.slice ar nr cr,.slice aj nj cj,.slice az ns cs,.slice ao no co]:=by
  rw [hW];exact (CF.made w #[.int .i64 wk,.bool up,.int .i64 now,.int .i64 sn,.int .i64 ep,.int .i64 gv,.slice a1 n1 ca,.slice a2 n2 cb,.slice ar nr cr,.slice aj nj cj,.slice az ns cs,.slice ao no co] 43).block (Below.heap_alloc _ _ _ (by simp))
 have R0 : CF W (w.heap.size + 1) zB:=by
  rw [hW]
  have:=CF.made (w.alloc (.cells #[.int .i64 wk,.bool up,.int .i64 now,.int .i64 sn,.int .i64 ep,.int .i64 gv,.slice a1 n1 ca,.slice a2 n2 cb,.slice ar nr cr,.slice aj nj cj,.slice az ns cs,.slice ao no co] 43)) #[.int .i64 0,.bool false,.int .i64 0,.int .i64 0,.int .i64 0,.int .i64 0,.slice none 0 0,.slice none 0 0,.slice none 0 0,.slice none 0 0,.slice none 0 0,.slice none 0 0] 43
  simpa [zB] using this
 have HW:=hid hW
 clear hW
 go_enter Tryz.func28,Tryz.ntmps28
 go_upto_region 1 with fail
 rw [← HW.out]
 clear HW
 obtain ⟨-,-,-,-,-,-,y6,y7⟩:=cf8 P0
 go_upto_region 2 with (go_at_call 65;refine (l4Log_any a1 a2 b1 o1 n1 ca b2 o2 n2 cb L1 L2 _ (h0.below' B0) (h1.below' B0) m0 m1).mono ?_;rintro e u0 ⟨a0_,c0_,a1_,c1_,rfl,ho0,ho1,D01',hbu⟩;have Pu:=P0.block (hbu.block w.heap.size (by omega));have Ru:=R0.block (hbu.block (w.heap.size + 1) (by omega));have Bu:=B0.trans (hbu.mono B0.size);have zu : w.heap.size + 2 ≤ u0.heap.size:=Nat.le_trans z0 hbu.size;have yu6 : u0.cell? ⟨w.heap.size,6,none⟩ = some (.slice a1 n1 ca):=(Pu 6 (by simp)).1;have yu7 : u0.cell? ⟨w.heap.size,7,none⟩ = some (.slice a2 n2 cb):=(Pu 7 (by simp)).1;have fu6 : u0.frozen? ⟨w.heap.size,6,none⟩ = false:=(Pu 6 (by simp)).2;have fu7 : u0.frozen? ⟨w.heap.size,7,none⟩ = false:=(Pu 7 (by simp)).2)
 have g6:=gset (gset (World.grownBy.refl u0 (some w.heap.size)) 6 (.slice a0_ n1 c0_)) 7 (.slice a1_ n2 c1_)
 have P2:=(Pu.set (j:=6) (by simp) (.slice a0_ n1 c0_)).set (j:=7) (by simp) (.slice a1_ n2 c1_)
 simp only [List.set_cons_zero,List.set_cons_succ] at P2
 have R2:=Ru.block (g6.block (w.heap.size + 1) (by omega) (by intro hh;injection hh with hh;omega))
 have B2:=(Bu.setCell (p:=⟨w.heap.size,6,none⟩) (by dsimp only;omega) (.slice a0_ n1 c0_)).setCell (p:=⟨w.heap.size,7,none⟩) (by dsimp only;omega) (.slice a1_ n2 c1_)
 have z2:=Nat.le_trans zu g6.size
 have q0_2:=(ho0.mono' z0).grown g6 (.inr (by intro hh;have:=(ho0.mono' z0).row_lo _ hh;omega))
 have q1_2:=(ho1.mono' z0).grown g6 (.inr (by intro hh;have:=(ho1.mono' z0).row_lo _ hh;omega))
 have D01:=hid D01'
 obtain ⟨V2,hV2⟩ : ∃ V,V = (u0.setCell ⟨w.heap.size,6,none⟩ (.slice a0_ n1 c0_)).setCell ⟨w.heap.size,7,none⟩ (.slice a1_ n2 c1_):=⟨_,rfl⟩
 rw [← hV2] at P2 R2 B2 z2 q0_2 q1_2
 rw [← hV2]
 clear hV2 g6 ho0 ho1 D01' hbu Pu Ru Bu zu yu6 yu7 fu6 fu7 y6 y7 P0 R0 B0 z0
 have y : V2.cell? ⟨w.heap.size,8,none⟩ = some (.slice ar nr cr):=(P2 8 (by simp)).1
 have own0 : Own (w.heap.size + 2) (V2.alloc (.cells #[] 9)) 1 (.slice (some ⟨V2.heap.size,0,none⟩) 0 0) 0 [] :=
  .inr ⟨_,0,0,rfl,OwnC.made V2 (w.heap.size + 2) 9 1 0 0 _ 0 z2 (Nat.le_refl _) (by unfold maxLen;omega) rfl (Nat.le_refl _) _ rfl _ (.inl rfl)⟩
 have BE : Below w.heap.size w (V2.alloc (.cells #[] 9)):=B2.alloc B2.size _
 have PE : CF (V2.alloc (.cells #[] 9)) w.heap.size [.int .i64 wk,.bool up,.int .i64 now,.int .i64 sn,.int .i64 ep,.int .i64 gv,.slice a0_ n1 c0_,.slice a1_ n2 c1_,.slice ar nr cr,.slice aj nj cj,.slice az ns cs,.slice ao no co]:=P2.block (Below.heap_alloc _ _ _ (by omega))
 have RE : CF (V2.alloc (.cells #[] 9)) (w.heap.size + 1) zB:=R2.block (Below.heap_alloc _ _ _ (by omega))
 have yE : (V2.alloc (.cells #[] 9)).cell? ⟨w.heap.size,8,none⟩ = some (.slice ar nr cr):=(PE 8 (by simp)).1
 have zE : w.heap.size + 2 ≤ (V2.alloc (.cells #[] 9)).heap.size:=by simp;omega
 have zE' : w.heap.size < (V2.alloc (.cells #[] 9)).heap.size:=by omega
 have zE2 : w.heap.size + 1 < (V2.alloc (.cells #[] 9)).heap.size:=by omega
 have sr : Src Tryz.prog 1 22 (.slice ar nr cr) nr (R.map Value.string) (V2.alloc (.cells #[] 9)):=(h2.below' BE).srcS cr
 have HSW : Hid ((V2.alloc (.cells #[] 9)).heap.size = V2.heap.size + 1):=hid (by simp)
 have q0E:=q0_2.alloc (.cells #[] 9)
 have q1E:=q1_2.alloc (.cells #[] 9)
 go_upto_region 3 with (at_builtin;refine wpList_append_c _ rfl _ _ 22 22 rfl (w.heap.size + 2) 9 i0 (.string ⟨#[]⟩) 1 16 Tryz.underlying22 hi0 hz00 hz01 hz02 rfl _ 0 _ rfl own0 _ nr _ rfl sr (by unfold maxLen;omega) (by omega) zE ?_;intro v2 u2 ho hg hbk;rw [Nat.zero_add,List.nil_append] at ho;obtain ⟨a2_,c2_,rfl⟩:=ho.slc;have hrw:=own0.row_lo;have Pu:=PE.block (hg.block w.heap.size zE' (fun e=>by have:=hrw _ e.symm;omega));have Ru:=RE.block (hg.block (w.heap.size + 1) zE2 (fun e=>by have:=hrw _ e.symm;omega));have Bu:=below_grown BE hg (Nat.le_trans (Nat.le_add_right _ 2) zE) (fun q hq=>by have:=hrw q hq;omega);have yu : u2.cell? ⟨w.heap.size,8,none⟩ = some (.slice ar nr cr):=(Pu 8 (by simp)).1;have fu : u2.frozen? ⟨w.heap.size,8,none⟩ = false:=(Pu 8 (by simp)).2;have zu : w.heap.size + 2 ≤ u2.heap.size:=Nat.le_trans zE hg.size)
 have P3:=Pu.set (j:=8) (by simp) (.slice a2_ nr c2_)
 simp only [List.set_cons_zero,List.set_cons_succ] at P3
 have gs:=gset (World.grownBy.refl u2 (some w.heap.size)) 8 (.slice a2_ nr c2_)
 have R3:=Ru.block (Below.heap_setCell u2 (⟨w.heap.size,8,none⟩ : Addr) (.slice a2_ nr c2_) (w.heap.size + 1) (by dsimp only;omega))
 have B3:=Bu.setCell (p:=⟨w.heap.size,8,none⟩) (by dsimp only;omega) (.slice a2_ nr c2_)
 have z3 : w.heap.size + 2 ≤ (u2.setCell ⟨w.heap.size,8,none⟩ (.slice a2_ nr c2_)).heap.size:=by simpa [World.setCell] using zu
 have q2_3:=ho.grown gs (.inr (by intro hh;have:=ho.row_lo _ hh;omega))
 have D02 : Hid (Dj (Value.slice a0_ n1 c0_).ownBlock (Value.slice a2_ nr c2_).ownBlock):=by
  rcases hbk with e | e
  ·exact Dj.new q0_2.row_hi (.inr e)
  ·exact Dj.new (fun q hq=>by have h5:=q0_2.row_hi q hq;have h6:=HSW.out;omega) (.inr e)
 have q0_3:=(q0E.grown hg (Dj.new q0_2.row_hi (.inr rfl))).grown gs (.inr (by intro hh;have:=q0_2.row_lo _ hh;omega))
 have D12 : Hid (Dj (Value.slice a1_ n2 c1_).ownBlock (Value.slice a2_ nr c2_).ownBlock):=by
  rcases hbk with e | e
  ·exact Dj.new q1_2.row_hi (.inr e)
  ·exact Dj.new (fun q hq=>by have h5:=q1_2.row_hi q hq;have h6:=HSW.out;omega) (.inr e)
 have q1_3:=(q1E.grown hg (Dj.new q1_2.row_hi (.inr rfl))).grown gs (.inr (by intro hh;have:=q1_2.row_lo _ hh;omega))
 obtain ⟨V3,hV3⟩ : ∃ V,V = u2.setCell ⟨w.heap.size,8,none⟩ (.slice a2_ nr c2_):=⟨_,rfl⟩
 rw [← hV3] at P3 R3 B3 z3 q0_3 q1_3 q2_3
 rw [← hV3]
 clear hV3 y sr yu fu zu Pu Ru Bu gs ho hg hbk hrw own0 BE PE RE yE zE zE' zE2 HSW P2 R2 B2 z2 q0_2 q0E q1_2 q1E
 have y : V3.cell? ⟨w.heap.size,9,none⟩ = some (.slice aj nj cj):=(P3 9 (by simp)).1
 have own0 : Own (w.heap.size + 2) (V3.alloc (.cells #[] 76)) 3 (.slice (some ⟨V3.heap.size,0,none⟩) 0 0) 0 [] :=
  .inr ⟨_,0,0,rfl,OwnC.made V3 (w.heap.size + 2) 76 3 0 0 _ 0 z3 (Nat.le_refl _) (by unfold maxLen;omega) rfl (Nat.le_refl _) _ rfl _ (.inl rfl)⟩
 have BE : Below w.heap.size w (V3.alloc (.cells #[] 76)):=B3.alloc B3.size _
 have PE : CF (V3.alloc (.cells #[] 76)) w.heap.size [.int .i64 wk,.bool up,.int .i64 now,.int .i64 sn,.int .i64 ep,.int .i64 gv,.slice a0_ n1 c0_,.slice a1_ n2 c1_,.slice a2_ nr c2_,.slice aj nj cj,.slice az ns cs,.slice ao no co]:=P3.block (Below.heap_alloc _ _ _ (by omega))
 have RE : CF (V3.alloc (.cells #[] 76)) (w.heap.size + 1) zB:=R3.block (Below.heap_alloc _ _ _ (by omega))
 have yE : (V3.alloc (.cells #[] 76)).cell? ⟨w.heap.size,9,none⟩ = some (.slice aj nj cj):=(PE 9 (by simp)).1
 have zE : w.heap.size + 2 ≤ (V3.alloc (.cells #[] 76)).heap.size:=by simp;omega
 have zE' : w.heap.size < (V3.alloc (.cells #[] 76)).heap.size:=by omega
 have zE2 : w.heap.size + 1 < (V3.alloc (.cells #[] 76)).heap.size:=by omega
 have sr : Src Tryz.prog 3 39 (.slice aj nj cj) nj (c3 J) (V3.alloc (.cells #[] 76)):=(h3.below' BE).src 39 76 Tryz.underlying39 cj
 have HSW : Hid ((V3.alloc (.cells #[] 76)).heap.size = V3.heap.size + 1):=hid (by simp)
 have q0E:=q0_3.alloc (.cells #[] 76)
 have q1E:=q1_3.alloc (.cells #[] 76)
 have q2E:=q2_3.alloc (.cells #[] 76)
 go_upto_region 4 with (at_builtin;refine wpList_append_c _ rfl _ _ 39 39 rfl (w.heap.size + 2) 76 i3 (.agg #[.int .i64 0,.int .i64 0,.int .i64 0]) 3 24 Tryz.underlying39 hi3 hz30 hz31 hz32 rfl _ 0 _ rfl own0 _ nj _ rfl sr (by unfold maxLen;omega) (by omega) zE ?_;intro v3 u3 ho hg hbk;rw [Nat.zero_add,List.nil_append] at ho;obtain ⟨a3_,c3_,rfl⟩:=ho.slc;have hrw:=own0.row_lo;have Pu:=PE.block (hg.block w.heap.size zE' (fun e=>by have:=hrw _ e.symm;omega));have Ru:=RE.block (hg.block (w.heap.size + 1) zE2 (fun e=>by have:=hrw _ e.symm;omega));have Bu:=below_grown BE hg (Nat.le_trans (Nat.le_add_right _ 2) zE) (fun q hq=>by have:=hrw q hq;omega);have yu : u3.cell? ⟨w.heap.size,9,none⟩ = some (.slice aj nj cj):=(Pu 9 (by simp)).1;have fu : u3.frozen? ⟨w.heap.size,9,none⟩ = false:=(Pu 9 (by simp)).2;have zu : w.heap.size + 2 ≤ u3.heap.size:=Nat.le_trans zE hg.size)
 have P4:=Pu.set (j:=9) (by simp) (.slice a3_ nj c3_)
 simp only [List.set_cons_zero,List.set_cons_succ] at P4
 have gs:=gset (World.grownBy.refl u3 (some w.heap.size)) 9 (.slice a3_ nj c3_)
 have R4:=Ru.block (Below.heap_setCell u3 (⟨w.heap.size,9,none⟩ : Addr) (.slice a3_ nj c3_) (w.heap.size + 1) (by dsimp only;omega))
 have B4:=Bu.setCell (p:=⟨w.heap.size,9,none⟩) (by dsimp only;omega) (.slice a3_ nj c3_)
 have z4 : w.heap.size + 2 ≤ (u3.setCell ⟨w.heap.size,9,none⟩ (.slice a3_ nj c3_)).heap.size:=by simpa [World.setCell] using zu
 have q3_4:=ho.grown gs (.inr (by intro hh;have:=ho.row_lo _ hh;omega))
 have D03 : Hid (Dj (Value.slice a0_ n1 c0_).ownBlock (Value.slice a3_ nj c3_).ownBlock):=by
  rcases hbk with e | e
  ·exact Dj.new q0_3.row_hi (.inr e)
  ·exact Dj.new (fun q hq=>by have h5:=q0_3.row_hi q hq;have h6:=HSW.out;omega) (.inr e)
 have q0_4:=(q0E.grown hg (Dj.new q0_3.row_hi (.inr rfl))).grown gs (.inr (by intro hh;have:=q0_3.row_lo _ hh;omega))
 have D13 : Hid (Dj (Value.slice a1_ n2 c1_).ownBlock (Value.slice a3_ nj c3_).ownBlock):=by
  rcases hbk with e | e
  ·exact Dj.new q1_3.row_hi (.inr e)
  ·exact Dj.new (fun q hq=>by have h5:=q1_3.row_hi q hq;have h6:=HSW.out;omega) (.inr e)
 have q1_4:=(q1E.grown hg (Dj.new q1_3.row_hi (.inr rfl))).grown gs (.inr (by intro hh;have:=q1_3.row_lo _ hh;omega))
 have D23 : Hid (Dj (Value.slice a2_ nr c2_).ownBlock (Value.slice a3_ nj c3_).ownBlock):=by
  rcases hbk with e | e
  ·exact Dj.new q2_3.row_hi (.inr e)
  ·exact Dj.new (fun q hq=>by have h5:=q2_3.row_hi q hq;have h6:=HSW.out;omega) (.inr e)
 have q2_4:=(q2E.grown hg (Dj.new q2_3.row_hi (.inr rfl))).grown gs (.inr (by intro hh;have:=q2_3.row_lo _ hh;omega))
 obtain ⟨V4,hV4⟩ : ∃ V,V = u3.setCell ⟨w.heap.size,9,none⟩ (.slice a3_ nj c3_):=⟨_,rfl⟩
 rw [← hV4] at P4 R4 B4 z4 q0_4 q1_4 q2_4 q3_4
 rw [← hV4]
 clear hV4 y sr yu fu zu Pu Ru Bu gs ho hg hbk hrw own0 BE PE RE yE zE zE' zE2 HSW P3 R3 B3 z3 q0_3 q0E q1_3 q1E q2_3 q2E
 have y : V4.cell? ⟨w.heap.size,10,none⟩ = some (.slice az ns cs):=(P4 10 (by simp)).1
 have own0 : Own (w.heap.size + 2) (V4.alloc (.cells #[] 112)) 2 (.slice (some ⟨V4.heap.size,0,none⟩) 0 0) 0 [] :=
  .inr ⟨_,0,0,rfl,OwnC.made V4 (w.heap.size + 2) 112 2 0 0 _ 0 z4 (Nat.le_refl _) (by unfold maxLen;omega) rfl (Nat.le_refl _) _ rfl _ (.inl rfl)⟩
 have BE : Below w.heap.size w (V4.alloc (.cells #[] 112)):=B4.alloc B4.size _
 have PE : CF (V4.alloc (.cells #[] 112)) w.heap.size [.int .i64 wk,.bool up,.int .i64 now,.int .i64 sn,.int .i64 ep,.int .i64 gv,.slice a0_ n1 c0_,.slice a1_ n2 c1_,.slice a2_ nr c2_,.slice a3_ nj c3_,.slice az ns cs,.slice ao no co]:=P4.block (Below.heap_alloc _ _ _ (by omega))
 have RE : CF (V4.alloc (.cells #[] 112)) (w.heap.size + 1) zB:=R4.block (Below.heap_alloc _ _ _ (by omega))
 have yE : (V4.alloc (.cells #[] 112)).cell? ⟨w.heap.size,10,none⟩ = some (.slice az ns cs):=(PE 10 (by simp)).1
 have zE : w.heap.size + 2 ≤ (V4.alloc (.cells #[] 112)).heap.size:=by simp;omega
 have zE' : w.heap.size < (V4.alloc (.cells #[] 112)).heap.size:=by omega
 have zE2 : w.heap.size + 1 < (V4.alloc (.cells #[] 112)).heap.size:=by omega
 have sr : Src Tryz.prog 2 40 (.slice az ns cs) ns (c2 S) (V4.alloc (.cells #[] 112)):=(h4.below' BE).src 40 112 Tryz.underlying40 cs
 have HSW : Hid ((V4.alloc (.cells #[] 112)).heap.size = V4.heap.size + 1):=hid (by simp)
 have q0E:=q0_4.alloc (.cells #[] 112)
 have q1E:=q1_4.alloc (.cells #[] 112)
 have q2E:=q2_4.alloc (.cells #[] 112)
 have q3E:=q3_4.alloc (.cells #[] 112)
 go_upto_region 5 with (at_builtin;refine wpList_append_c _ rfl _ _ 40 40 rfl (w.heap.size + 2) 112 i4 (.agg #[.bool false,.int .i64 0]) 2 16 Tryz.underlying40 hi4 hz40 hz41 hz42 rfl _ 0 _ rfl own0 _ ns _ rfl sr (by unfold maxLen;omega) (by omega) zE ?_;intro v4 u4 ho hg hbk;rw [Nat.zero_add,List.nil_append] at ho;obtain ⟨a4_,c4_,rfl⟩:=ho.slc;have hrw:=own0.row_lo;have Pu:=PE.block (hg.block w.heap.size zE' (fun e=>by have:=hrw _ e.symm;omega));have Ru:=RE.block (hg.block (w.heap.size + 1) zE2 (fun e=>by have:=hrw _ e.symm;omega));have Bu:=below_grown BE hg (Nat.le_trans (Nat.le_add_right _ 2) zE) (fun q hq=>by have:=hrw q hq;omega);have yu : u4.cell? ⟨w.heap.size,10,none⟩ = some (.slice az ns cs):=(Pu 10 (by simp)).1;have fu : u4.frozen? ⟨w.heap.size,10,none⟩ = false:=(Pu 10 (by simp)).2;have zu : w.heap.size + 2 ≤ u4.heap.size:=Nat.le_trans zE hg.size)
 have P5:=Pu.set (j:=10) (by simp) (.slice a4_ ns c4_)
 simp only [List.set_cons_zero,List.set_cons_succ] at P5
 have gs:=gset (World.grownBy.refl u4 (some w.heap.size)) 10 (.slice a4_ ns c4_)
 have R5:=Ru.block (Below.heap_setCell u4 (⟨w.heap.size,10,none⟩ : Addr) (.slice a4_ ns c4_) (w.heap.size + 1) (by dsimp only;omega))
 have B5:=Bu.setCell (p:=⟨w.heap.size,10,none⟩) (by dsimp only;omega) (.slice a4_ ns c4_)
 have z5 : w.heap.size + 2 ≤ (u4.setCell ⟨w.heap.size,10,none⟩ (.slice a4_ ns c4_)).heap.size:=by simpa [World.setCell] using zu
 have q4_5:=ho.grown gs (.inr (by intro hh;have:=ho.row_lo _ hh;omega))
 have D04 : Hid (Dj (Value.slice a0_ n1 c0_).ownBlock (Value.slice a4_ ns c4_).ownBlock):=by
  rcases hbk with e | e
  ·exact Dj.new q0_4.row_hi (.inr e)
  ·exact Dj.new (fun q hq=>by have h5:=q0_4.row_hi q hq;have h6:=HSW.out;omega) (.inr e)
 have q0_5:=(q0E.grown hg (Dj.new q0_4.row_hi (.inr rfl))).grown gs (.inr (by intro hh;have:=q0_4.row_lo _ hh;omega))
 have D14 : Hid (Dj (Value.slice a1_ n2 c1_).ownBlock (Value.slice a4_ ns c4_).ownBlock):=by
  rcases hbk with e | e
  ·exact Dj.new q1_4.row_hi (.inr e)
  ·exact Dj.new (fun q hq=>by have h5:=q1_4.row_hi q hq;have h6:=HSW.out;omega) (.inr e)
 have q1_5:=(q1E.grown hg (Dj.new q1_4.row_hi (.inr rfl))).grown gs (.inr (by intro hh;have:=q1_4.row_lo _ hh;omega))
 have D24 : Hid (Dj (Value.slice a2_ nr c2_).ownBlock (Value.slice a4_ ns c4_).ownBlock):=by
  rcases hbk with e | e
  ·exact Dj.new q2_4.row_hi (.inr e)
  ·exact Dj.new (fun q hq=>by have h5:=q2_4.row_hi q hq;have h6:=HSW.out;omega) (.inr e)
 have q2_5:=(q2E.grown hg (Dj.new q2_4.row_hi (.inr rfl))).grown gs (.inr (by intro hh;have:=q2_4.row_lo _ hh;omega))
 have D34 : Hid (Dj (Value.slice a3_ nj c3_).ownBlock (Value.slice a4_ ns c4_).ownBlock):=by
  rcases hbk with e | e
  ·exact Dj.new q3_4.row_hi (.inr e)
  ·exact Dj.new (fun q hq=>by have h5:=q3_4.row_hi q hq;have h6:=HSW.out;omega) (.inr e)
 have q3_5:=(q3E.grown hg (Dj.new q3_4.row_hi (.inr rfl))).grown gs (.inr (by intro hh;have:=q3_4.row_lo _ hh;omega))
 obtain ⟨V5,hV5⟩ : ∃ V,V = u4.setCell ⟨w.heap.size,10,none⟩ (.slice a4_ ns c4_):=⟨_,rfl⟩
 rw [← hV5] at P5 R5 B5 z5 q0_5 q1_5 q2_5 q3_5 q4_5
 rw [← hV5]
 clear hV5 y sr yu fu zu Pu Ru Bu gs ho hg hbk hrw own0 BE PE RE yE zE zE' zE2 HSW P4 R4 B4 z4 q0_4 q0E q1_4 q1E q2_4 q2E q3_4 q3E
 have y : V5.cell? ⟨w.heap.size,11,none⟩ = some (.slice ao no co):=(P5 11 (by simp)).1
 have own0 : Own (w.heap.size + 2) (V5.alloc (.cells #[] 114)) 3 (.slice (some ⟨V5.heap.size,0,none⟩) 0 0) 0 [] :=
  .inr ⟨_,0,0,rfl,OwnC.made V5 (w.heap.size + 2) 114 3 0 0 _ 0 z5 (Nat.le_refl _) (by unfold maxLen;omega) rfl (Nat.le_refl _) _ rfl _ (.inl rfl)⟩
 have BE : Below w.heap.size w (V5.alloc (.cells #[] 114)):=B5.alloc B5.size _
 have PE : CF (V5.alloc (.cells #[] 114)) w.heap.size [.int .i64 wk,.bool up,.int .i64 now,.int .i64 sn,.int .i64 ep,.int .i64 gv,.slice a0_ n1 c0_,.slice a1_ n2 c1_,.slice a2_ nr c2_,.slice a3_ nj c3_,.slice a4_ ns c4_,.slice ao no co]:=P5.block (Below.heap_alloc _ _ _ (by omega))
 have RE : CF (V5.alloc (.cells #[] 114)) (w.heap.size + 1) zB:=R5.block (Below.heap_alloc _ _ _ (by omega))
 have yE : (V5.alloc (.cells #[] 114)).cell? ⟨w.heap.size,11,none⟩ = some (.slice ao no co):=(PE 11 (by simp)).1
 have zE : w.heap.size + 2 ≤ (V5.alloc (.cells #[] 114)).heap.size:=by simp;omega
 have zE' : w.heap.size < (V5.alloc (.cells #[] 114)).heap.size:=by omega
 have zE2 : w.heap.size + 1 < (V5.alloc (.cells #[] 114)).heap.size:=by omega
 have sr : Src Tryz.prog 3 41 (.slice ao no co) no (c3 O) (V5.alloc (.cells #[] 114)):=(h5.below' BE).src 41 114 Tryz.underlying41 co
 have HSW : Hid ((V5.alloc (.cells #[] 114)).heap.size = V5.heap.size + 1):=hid (by simp)
 have q0E:=q0_5.alloc (.cells #[] 114)
 have q1E:=q1_5.alloc (.cells #[] 114)
 have q2E:=q2_5.alloc (.cells #[] 114)
 have q3E:=q3_5.alloc (.cells #[] 114)
 have q4E:=q4_5.alloc (.cells #[] 114)
 go_upto_region 6 with (at_builtin;refine wpList_append_c _ rfl _ _ 41 41 rfl (w.heap.size + 2) 114 i5 (.agg #[.int .i64 0,.int .i64 0,.int .i64 0]) 3 24 Tryz.underlying41 hi5 hz50 hz51 hz52 rfl _ 0 _ rfl own0 _ no _ rfl sr (by unfold maxLen;omega) (by omega) zE ?_;intro v5 u5 ho hg hbk;rw [Nat.zero_add,List.nil_append] at ho;obtain ⟨a5_,c5_,rfl⟩:=ho.slc;have hrw:=own0.row_lo;have Pu:=PE.block (hg.block w.heap.size zE' (fun e=>by have:=hrw _ e.symm;omega));have Ru:=RE.block (hg.block (w.heap.size + 1) zE2 (fun e=>by have:=hrw _ e.symm;omega));have Bu:=below_grown BE hg (Nat.le_trans (Nat.le_add_right _ 2) zE) (fun q hq=>by have:=hrw q hq;omega);have yu : u5.cell? ⟨w.heap.size,11,none⟩ = some (.slice ao no co):=(Pu 11 (by simp)).1;have fu : u5.frozen? ⟨w.heap.size,11,none⟩ = false:=(Pu 11 (by simp)).2;have zu : w.heap.size + 2 ≤ u5.heap.size:=Nat.le_trans zE hg.size)
 have P6:=Pu.set (j:=11) (by simp) (.slice a5_ no c5_)
 simp only [List.set_cons_zero,List.set_cons_succ] at P6
 have gs:=gset (World.grownBy.refl u5 (some w.heap.size)) 11 (.slice a5_ no c5_)
 have R6:=Ru.block (Below.heap_setCell u5 (⟨w.heap.size,11,none⟩ : Addr) (.slice a5_ no c5_) (w.heap.size + 1) (by dsimp only;omega))
 have B6:=Bu.setCell (p:=⟨w.heap.size,11,none⟩) (by dsimp only;omega) (.slice a5_ no c5_)
 have z6 : w.heap.size + 2 ≤ (u5.setCell ⟨w.heap.size,11,none⟩ (.slice a5_ no c5_)).heap.size:=by simpa [World.setCell] using zu
 have q5_6:=ho.grown gs (.inr (by intro hh;have:=ho.row_lo _ hh;omega))
 have D05 : Hid (Dj (Value.slice a0_ n1 c0_).ownBlock (Value.slice a5_ no c5_).ownBlock):=by
  rcases hbk with e | e
  ·exact Dj.new q0_5.row_hi (.inr e)
  ·exact Dj.new (fun q hq=>by have h5:=q0_5.row_hi q hq;have h6:=HSW.out;omega) (.inr e)
 have q0_6:=(q0E.grown hg (Dj.new q0_5.row_hi (.inr rfl))).grown gs (.inr (by intro hh;have:=q0_5.row_lo _ hh;omega))
 have D15 : Hid (Dj (Value.slice a1_ n2 c1_).ownBlock (Value.slice a5_ no c5_).ownBlock):=by
  rcases hbk with e | e
  ·exact Dj.new q1_5.row_hi (.inr e)
  ·exact Dj.new (fun q hq=>by have h5:=q1_5.row_hi q hq;have h6:=HSW.out;omega) (.inr e)
 have q1_6:=(q1E.grown hg (Dj.new q1_5.row_hi (.inr rfl))).grown gs (.inr (by intro hh;have:=q1_5.row_lo _ hh;omega))
 have D25 : Hid (Dj (Value.slice a2_ nr c2_).ownBlock (Value.slice a5_ no c5_).ownBlock):=by
  rcases hbk with e | e
  ·exact Dj.new q2_5.row_hi (.inr e)
  ·exact Dj.new (fun q hq=>by have h5:=q2_5.row_hi q hq;have h6:=HSW.out;omega) (.inr e)
 have q2_6:=(q2E.grown hg (Dj.new q2_5.row_hi (.inr rfl))).grown gs (.inr (by intro hh;have:=q2_5.row_lo _ hh;omega))
 have D35 : Hid (Dj (Value.slice a3_ nj c3_).ownBlock (Value.slice a5_ no c5_).ownBlock):=by
  rcases hbk with e | e
  ·exact Dj.new q3_5.row_hi (.inr e)
  ·exact Dj.new (fun q hq=>by have h5:=q3_5.row_hi q hq;have h6:=HSW.out;omega) (.inr e)
 have q3_6:=(q3E.grown hg (Dj.new q3_5.row_hi (.inr rfl))).grown gs (.inr (by intro hh;have:=q3_5.row_lo _ hh;omega))
 have D45 : Hid (Dj (Value.slice a4_ ns c4_).ownBlock (Value.slice a5_ no c5_).ownBlock):=by
  rcases hbk with e | e
  ·exact Dj.new q4_5.row_hi (.inr e)
  ·exact Dj.new (fun q hq=>by have h5:=q4_5.row_hi q hq;have h6:=HSW.out;omega) (.inr e)
 have q4_6:=(q4E.grown hg (Dj.new q4_5.row_hi (.inr rfl))).grown gs (.inr (by intro hh;have:=q4_5.row_lo _ hh;omega))
 obtain ⟨V6,hV6⟩ : ∃ V,V = u5.setCell ⟨w.heap.size,11,none⟩ (.slice a5_ no c5_):=⟨_,rfl⟩
 rw [← hV6] at P6 R6 B6 z6 q0_6 q1_6 q2_6 q3_6 q4_6 q5_6
 rw [← hV6]
 clear hV6 y sr yu fu zu Pu Ru Bu gs ho hg hbk hrw own0 BE PE RE yE zE zE' zE2 HSW P5 R5 B5 z5 q0_5 q0E q1_5 q1E q2_5 q2E q3_5 q3E q4_5 q4E
 obtain ⟨y0,y1,y2,y3,y4,y5,y6,y7,y8,y9,y10,y11⟩:=cf12 P6
 go_wp2_with (refine wpList_store_cf rfl 43 (.tmp 2) (.tmp 27) rfl (w.heap.size + 1) zB [.int .i64 wk,.bool up,.int .i64 now,.int .i64 sn,.int .i64 ep,.int .i64 gv,.slice a0_ n1 c0_,.slice a1_ n2 c1_,.slice a2_ nr c2_,.slice a3_ nj c3_,.slice a4_ ns c4_,.slice a5_ no c5_] rfl rfl R6 rfl Tryz.sizeBo (one12b _ _ _ _ _ _ _ _ _ _ _ _ _ _ _ _ _ _ _ _ _ _ _ _) ?_;intro w10 hc10 hg10)
 obtain ⟨k0,k1,k2,k3,k4,k5,k6,k7,k8,k9,k10,k11⟩:=cf12 hc10
 refine bodyPost_ret (v:=.agg #[.int .i64 wk,.bool up,.int .i64 now,.int .i64 sn,.int .i64 ep,.int .i64 gv,.slice a0_ n1 c0_,.slice a1_ n2 c1_,.slice a2_ nr c2_,.slice a3_ nj c3_,.slice a4_ ns c4_,.slice a5_ no c5_]) (by simp [results,Tryz.results28,go_sem,k0,k1,k2,k3,k4,k5,k6,k7,k8,k9,k10,k11]) rfl ⟨a0_,c0_,a1_,c1_,a2_,c2_,a3_,c3_,a4_,c4_,a5_,c5_,rfl,⟨(q0_6.grown hg10 (.inr (by intro hh;have:=q0_6.row_lo _ hh;omega))).mono' (by omega),(q1_6.grown hg10 (.inr (by intro hh;have:=q1_6.row_lo _ hh;omega))).mono' (by omega),(q2_6.grown hg10 (.inr (by intro hh;have:=q2_6.row_lo _ hh;omega))).mono' (by omega),(q3_6.grown hg10 (.inr (by intro hh;have:=q3_6.row_lo _ hh;omega))).mono' (by omega),(q4_6.grown hg10 (.inr (by intro hh;have:=q4_6.row_lo _ hh;omega))).mono' (by omega),(q5_6.grown hg10 (.inr (by intro hh;have:=q5_6.row_lo _ hh;omega))).mono' (by omega)⟩,?_,below_grown B6 hg10 (by omega) (fun q hq=>by simp at hq;omega)⟩
 simp only [List.pairwise_cons,List.mem_cons,List.not_mem_nil,or_false,forall_eq_or_imp,forall_eq,List.Pairwise.nil,and_true,false_implies,implies_true]
 exact ⟨⟨D01.out,D02.out,D03.out,D04.out,D05.out⟩,⟨D12.out,D13.out,D14.out,D15.out⟩,⟨D23.out,D24.out,D25.out⟩,⟨D34.out,D35.out⟩,D45.out⟩
end Go.Proofs.YtaeomkpofcbmiaaGreatDoor
namespace Go.Proofs.YtaeomkpofcbmiaaGreatDoor
open Go.RowKit
end Go.Proofs.YtaeomkpofcbmiaaGreatDoor
