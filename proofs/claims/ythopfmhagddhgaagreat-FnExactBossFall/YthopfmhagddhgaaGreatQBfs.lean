import Derived.Test.YthopfmhagddhgaaGreatQBmb
import Derived.Test.YthopfmhagddhgaaGreatQBsj
import Derived.Test.YthopfmhagddhgaaGreatQWlb
namespace Go.Proofs.YthopfmhagddhgaaGreat
open Go.RowKit

theorem T3At.cells {w : World} {a : Option Addr} {b o n : Nat} {J : List Tr} (h : T3At w a b o n J) (i : Nat) (u : Value) (hu : (c3 J)[i]? = some u) : w.cell? ⟨b, o + i, none⟩ = some u := by
  have hi : i < J.length * 3 := by have := (List.getElem?_eq_some_iff.1 hu).1; rw [c3_length] at this; exact this
  have hl := h.len
  have hg := c3_get J (i / 3) (i % 3) (by omega) (by omega)
  rw [show i / 3 * 3 + i % 3 = i by omega] at hg
  have hr : i % 3 = 0 ∨ i % 3 = 1 ∨ i % 3 = 2 := by omega
  rcases hr with e | e | e
  · have hc := h.c0 (i / 3) (by omega)
    rw [show o + i / 3 * 3 = o + i by omega] at hc
    rw [e] at hg
    rw [hc, ← hu, hg]; rfl
  · have hc := h.c1 (i / 3) (by omega)
    rw [show o + i / 3 * 3 + 1 = o + i by omega] at hc
    rw [e] at hg
    rw [hc, ← hu, hg]; rfl
  · have hc := h.c2 (i / 3) (by omega)
    rw [show o + i / 3 * 3 + 2 = o + i by omega] at hc
    rw [e] at hg
    rw [hc, ← hu, hg]; rfl
theorem c3_one (J : List Tr) : ∀ u ∈ c3 J, u.oneCell' = true := fun u hu => by
  obtain ⟨x, _, hx⟩ := List.mem_flatMap.1 hu
  simp only [List.mem_cons, List.not_mem_nil, or_false] at hx
  rcases hx with rfl | rfl | rfl <;> rfl
theorem T3At.src {w : World} {a : Option Addr} {b o n : Nat} {J : List Tr} (h : T3At w a b o n J) (tx e' : TypeId) (hk : Tryz.prog.underlying tx = some (.slice e')) (cc : Nat) : Src Tryz.prog 3 tx (.slice a n cc) n (c3 J) w := by
  have go : ∀ y : Addr, (0 < n → y = ⟨b, o, none⟩) → Src Tryz.prog 3 tx (.slice (some y) n cc) n (c3 J) w := fun y hy => by
    refine Src.ofSlice w hk y n cc _ (by rw [c3_length, h.len]) (fun j u hu => ?_) (c3_one J)
    have hj : j < J.length * 3 := by have := (List.getElem?_eq_some_iff.1 hu).1; rw [c3_length] at this; exact this
    have hl := h.len
    rw [hy (by omega), Addr.add_lit]
    exact h.cells j u hu
  cases a with
  | none =>
    have h0 : n = 0 := Nat.eq_zero_of_not_pos fun hh => by have := h.ad hh; cases this
    subst h0
    have : J = [] := List.eq_nil_of_length_eq_zero h.len
    subst this
    exact Src.ofNil w hk cc
  | some y => exact go y (fun hn => by have := h.ad hn; injection this)
theorem T2At.cells {w : World} {a : Option Addr} {b o n : Nat} {J : List (Bool × Int)} (h : T2At w a b o n J) (i : Nat) (u : Value) (hu : (c2 J)[i]? = some u) : w.cell? ⟨b, o + i, none⟩ = some u := by
  have hi : i < J.length * 2 := by have := (List.getElem?_eq_some_iff.1 hu).1; rw [c2_length] at this; exact this
  have hl := h.len
  have hg := c2_get J (i / 2) (i % 2) (by omega) (by omega)
  rw [show i / 2 * 2 + i % 2 = i by omega] at hg
  have hr : i % 2 = 0 ∨ i % 2 = 1 := by omega
  rcases hr with e | e
  · have hc := h.c0 (i / 2) (by omega)
    rw [show o + i / 2 * 2 = o + i by omega] at hc
    rw [e] at hg
    rw [hc, ← hu, hg]; rfl
  · have hc := h.c1 (i / 2) (by omega)
    rw [show o + i / 2 * 2 + 1 = o + i by omega] at hc
    rw [e] at hg
    rw [hc, ← hu, hg]; rfl
theorem c2_one (J : List (Bool × Int)) : ∀ u ∈ c2 J, u.oneCell' = true := fun u hu => by
  obtain ⟨x, _, hx⟩ := List.mem_flatMap.1 hu
  simp only [List.mem_cons, List.not_mem_nil, or_false] at hx
  rcases hx with rfl | rfl <;> rfl
theorem T2At.src {w : World} {a : Option Addr} {b o n : Nat} {J : List (Bool × Int)} (h : T2At w a b o n J) (tx e' : TypeId) (hk : Tryz.prog.underlying tx = some (.slice e')) (cc : Nat) : Src Tryz.prog 2 tx (.slice a n cc) n (c2 J) w := by
  have go : ∀ y : Addr, (0 < n → y = ⟨b, o, none⟩) → Src Tryz.prog 2 tx (.slice (some y) n cc) n (c2 J) w := fun y hy => by
    refine Src.ofSlice w hk y n cc _ (by rw [c2_length, h.len]) (fun j u hu => ?_) (c2_one J)
    have hj : j < J.length * 2 := by have := (List.getElem?_eq_some_iff.1 hu).1; rw [c2_length] at this; exact this
    have hl := h.len
    rw [hy (by omega), Addr.add_lit]
    exact h.cells j u hu
  cases a with
  | none =>
    have h0 : n = 0 := Nat.eq_zero_of_not_pos fun hh => by have := h.ad hh; cases this
    subst h0
    have : J = [] := List.eq_nil_of_length_eq_zero h.len
    subst this
    exact Src.ofNil w hk cc
  | some y => exact go y (fun hn => by have := h.ad hn; injection this)
def zB : List Value := [.int .i64 0, .bool false, .int .i64 0, .int .i64 0, .int .i64 0, .int .i64 0, .slice none 0 0, .slice none 0 0, .slice none 0 0, .slice none 0 0, .slice none 0 0, .slice none 0 0]
theorem Tryz.sizeBo : (Tryz.prog.info? 47).map (·.size) = some 12 := by kernel_rfl
theorem Tryz.infoSt : (Tryz.prog.info? 9).map (fun i => (i.zero, i.size, i.bytes)) = some (some (.string ⟨#[]⟩), 1, 16) := by kernel_rfl
theorem Tryz.infoJb : (Tryz.prog.info? 153).map (fun i => (i.zero, i.size, i.bytes)) = some (some (.agg #[.int .i64 0, .int .i64 0, .int .i64 0]), 3, 24) := by kernel_rfl
theorem Tryz.infoSe : (Tryz.prog.info? 124).map (fun i => (i.zero, i.size, i.bytes)) = some (some (.agg #[.bool false, .int .i64 0]), 2, 16) := by kernel_rfl
theorem Tryz.infoOw : (Tryz.prog.info? 126).map (fun i => (i.zero, i.size, i.bytes)) = some (some (.agg #[.int .i64 0, .int .i64 0, .int .i64 0]), 3, 24) := by kernel_rfl
theorem one12b (wk : Int) (up : Bool) (now sn ep gv : Int) (a0 a1 a2 a3 a4 a5 : Option Addr) (n0 c0 n1 c1 n2 c2 n3 c3 n4 c4 n5 c5 : Nat) : ∀ v ∈ [Value.int .i64 wk, .bool up, .int .i64 now, .int .i64 sn, .int .i64 ep, .int .i64 gv, .slice a0 n0 c0, .slice a1 n1 c1, .slice a2 n2 c2, .slice a3 n3 c3, .slice a4 n4 c4, .slice a5 n5 c5], v.oneCell' = true := by
  intro v hv
  simp only [List.mem_cons, List.not_mem_nil, or_false] at hv
  rcases hv with rfl | rfl | rfl | rfl | rfl | rfl | rfl | rfl | rfl | rfl | rfl | rfl <;> rfl
theorem Dj.new {x y : Option Nat} {m : Nat} (hx : ∀ q, x = some q → q < m) (hy : y = none ∨ y = some m) : Dj x y := by
  cases x with
  | none => exact .inl rfl
  | some q =>
    refine .inr ?_
    have := hx q rfl
    rcases hy with rfl | rfl
    · simp
    · intro e; injection e with e; omega
theorem none_lt {q : Nat} : some q ≠ (Value.slice none 0 0).ownBlock := by simp [Value.ownBlock]

set_option maxHeartbeats 4000000 in
set_option maxRecDepth 100000 in
theorem copyBoss_any (wk : Int) (up : Bool) (now sn ep gv : Int) (a1 a2 ar aj az ao : Option Addr) (b1 o1 n1 ca b2 o2 n2 cb br or' nr cr bj oj nj cj bs os' ns cs bo oo no co : Nat) (L1 L2 R : List ByteArray) (J : List Tr) (S : List (Bool × Int)) (O : List Tr) (w : World) (h0 : StrsAt w a1 b1 o1 n1 L1) (h1 : StrsAt w a2 b2 o2 n2 L2) (h2 : StrsAt w ar br or' nr R) (h3 : T3At w aj bj oj nj J) (h4 : T2At w az bs os' ns S) (h5 : T3At w ao bo oo no O) (m0 : n1 ≤ 1048576) (m1 : n2 ≤ 1048576) (m2 : nr ≤ 1048576) (m3 : nj ≤ 1048576) (m4 : ns ≤ 1048576) (m5 : no ≤ 1048576) :
    Calls Tryz.prog 59 #[.agg #[.int .i64 wk, .bool up, .int .i64 now, .int .i64 sn, .int .i64 ep, .int .i64 gv, .slice a1 n1 ca, .slice a2 n2 cb, .slice ar nr cr, .slice aj nj cj, .slice az ns cs, .slice ao no co]] w fun e w' => ∃ a0_ c0_ a1_ c1_ a2_ c2_ a3_ c3_ a4_ c4_ a5_ c5_, e = .returned (.agg #[.int .i64 wk, .bool up, .int .i64 now, .int .i64 sn, .int .i64 ep, .int .i64 gv, .slice a0_ n1 c0_, .slice a1_ n2 c1_, .slice a2_ nr c2_, .slice a3_ nj c3_, .slice a4_ ns c4_, .slice a5_ no c5_]) ∧ (Own w.heap.size w' 1 (.slice a0_ n1 c0_) n1 (L1.map Value.string) ∧ Own w.heap.size w' 1 (.slice a1_ n2 c1_) n2 (L2.map Value.string) ∧ Own w.heap.size w' 1 (.slice a2_ nr c2_) nr (R.map Value.string) ∧ Own w.heap.size w' 3 (.slice a3_ nj c3_) nj (c3 J) ∧ Own w.heap.size w' 2 (.slice a4_ ns c4_) ns (c2 S) ∧ Own w.heap.size w' 3 (.slice a5_ no c5_) no (c3 O)) ∧ List.Pairwise Dj [(Value.slice a0_ n1 c0_).ownBlock, (Value.slice a1_ n2 c1_).ownBlock, (Value.slice a2_ nr c2_).ownBlock, (Value.slice a3_ nj c3_).ownBlock, (Value.slice a4_ ns c4_).ownBlock, (Value.slice a5_ no c5_).ownBlock] ∧ Below w.heap.size w w' := by
  obtain ⟨i0, hi0, hz00, hz01, hz02⟩ := info_parts Tryz.infoSt
  obtain ⟨i3, hi3, hz30, hz31, hz32⟩ := info_parts Tryz.infoJb
  obtain ⟨i4, hi4, hz40, hz41, hz42⟩ := info_parts Tryz.infoSe
  obtain ⟨i5, hi5, hz50, hz51, hz52⟩ := info_parts Tryz.infoOw
  obtain ⟨W, hW⟩ : ∃ W, W = (w.alloc (.cells #[.int .i64 wk, .bool up, .int .i64 now, .int .i64 sn, .int .i64 ep, .int .i64 gv, .slice a1 n1 ca, .slice a2 n2 cb, .slice ar nr cr, .slice aj nj cj, .slice az ns cs, .slice ao no co] 47)).alloc (.cells #[.int .i64 0, .bool false, .int .i64 0, .int .i64 0, .int .i64 0, .int .i64 0, .slice none 0 0, .slice none 0 0, .slice none 0 0, .slice none 0 0, .slice none 0 0, .slice none 0 0] 47) := ⟨_, rfl⟩
  have B0 : Below w.heap.size w W := by rw [hW]; exact ((Below.refl _ _).alloc (Nat.le_refl _) _).alloc (by simp) _
  have z0 : w.heap.size + 2 ≤ W.heap.size := by rw [hW]; simp
  have P0 : CF W w.heap.size [.int .i64 wk, .bool up, .int .i64 now, .int .i64 sn, .int .i64 ep, .int .i64 gv, .slice a1 n1 ca, .slice a2 n2 cb, .slice ar nr cr, .slice aj nj cj, .slice az ns cs, .slice ao no co] := by
    rw [hW]; exact (CF.made w #[.int .i64 wk, .bool up, .int .i64 now, .int .i64 sn, .int .i64 ep, .int .i64 gv, .slice a1 n1 ca, .slice a2 n2 cb, .slice ar nr cr, .slice aj nj cj, .slice az ns cs, .slice ao no co] 47).block (Below.heap_alloc _ _ _ (by simp))
  have R0 : CF W (w.heap.size + 1) zB := by
    rw [hW]
    have := CF.made (w.alloc (.cells #[.int .i64 wk, .bool up, .int .i64 now, .int .i64 sn, .int .i64 ep, .int .i64 gv, .slice a1 n1 ca, .slice a2 n2 cb, .slice ar nr cr, .slice aj nj cj, .slice az ns cs, .slice ao no co] 47)) #[.int .i64 0, .bool false, .int .i64 0, .int .i64 0, .int .i64 0, .int .i64 0, .slice none 0 0, .slice none 0 0, .slice none 0 0, .slice none 0 0, .slice none 0 0, .slice none 0 0] 47
    simpa [zB] using this
  have HW := hid hW
  clear hW
  go_enter Tryz.func59, Tryz.ntmps59
  go_upto_region 1 with fail
  rw [← HW.out]
  clear HW
  have y : W.cell? ⟨w.heap.size, 6, none⟩ = some (.slice a1 n1 ca) := (P0 6 (by simp)).1
  have sr : Src Tryz.prog 1 25 (.slice a1 n1 ca) n1 (L1.map Value.string) W := (h0.below' B0).srcS ca
  go_upto_region 2 with (at_builtin; refine wpList_append_c _ rfl _ _ 25 25 rfl (w.heap.size + 2) 9 i0 (.string ⟨#[]⟩) 1 16 Tryz.underlying25 hi0 hz00 hz01 hz02 rfl (.slice none 0 0) 0 [] rfl (Own.nil _ _ _) _ n1 _ rfl sr (by unfold maxLen; omega) (by omega) z0 ?_; intro v0 u0 ho hg hbk; rw [Nat.zero_add, List.nil_append] at ho; obtain ⟨a0_, c0_, rfl⟩ := ho.slc; have Pu := P0.block (hg.block w.heap.size (by omega) none_lt); have Ru := R0.block (hg.block (w.heap.size + 1) (by omega) none_lt); have Bu := below_grown B0 hg (by omega) (fun q hq => by cases hq); have yu : u0.cell? ⟨w.heap.size, 6, none⟩ = some (.slice a1 n1 ca) := (Pu 6 (by simp)).1; have fu : u0.frozen? ⟨w.heap.size, 6, none⟩ = false := (Pu 6 (by simp)).2; have zu : w.heap.size + 2 ≤ u0.heap.size := Nat.le_trans z0 hg.size)
  have P1 := Pu.set (j := 6) (by simp) (.slice a0_ n1 c0_)
  simp only [List.set_cons_zero, List.set_cons_succ] at P1
  have gs := gset (World.grownBy.refl u0 (some w.heap.size)) 6 (.slice a0_ n1 c0_)
  have R1 := Ru.block (Below.heap_setCell u0 (⟨w.heap.size, 6, none⟩ : Addr) (.slice a0_ n1 c0_) (w.heap.size + 1) (by dsimp only; omega))
  have B1 := Bu.setCell (p := ⟨w.heap.size, 6, none⟩) (by dsimp only; omega) (.slice a0_ n1 c0_)
  have z1 : w.heap.size + 2 ≤ (u0.setCell ⟨w.heap.size, 6, none⟩ (.slice a0_ n1 c0_)).heap.size := by simpa [World.setCell] using zu
  have q0_1 := ho.grown gs (.inr (by intro hh; have := ho.row_lo _ hh; omega))
  obtain ⟨V1, hV1⟩ : ∃ V, V = u0.setCell ⟨w.heap.size, 6, none⟩ (.slice a0_ n1 c0_) := ⟨_, rfl⟩
  rw [← hV1] at P1 R1 B1 z1 q0_1
  rw [← hV1]
  clear hV1 y sr yu fu zu Pu Ru Bu gs ho hg hbk P0 R0 B0 z0 
  have y : V1.cell? ⟨w.heap.size, 7, none⟩ = some (.slice a2 n2 cb) := (P1 7 (by simp)).1
  have sr : Src Tryz.prog 1 25 (.slice a2 n2 cb) n2 (L2.map Value.string) V1 := (h1.below' B1).srcS cb
  go_upto_region 3 with (at_builtin; refine wpList_append_c _ rfl _ _ 25 25 rfl (w.heap.size + 2) 9 i0 (.string ⟨#[]⟩) 1 16 Tryz.underlying25 hi0 hz00 hz01 hz02 rfl (.slice none 0 0) 0 [] rfl (Own.nil _ _ _) _ n2 _ rfl sr (by unfold maxLen; omega) (by omega) z1 ?_; intro v1 u1 ho hg hbk; rw [Nat.zero_add, List.nil_append] at ho; obtain ⟨a1_, c1_, rfl⟩ := ho.slc; have Pu := P1.block (hg.block w.heap.size (by omega) none_lt); have Ru := R1.block (hg.block (w.heap.size + 1) (by omega) none_lt); have Bu := below_grown B1 hg (by omega) (fun q hq => by cases hq); have yu : u1.cell? ⟨w.heap.size, 7, none⟩ = some (.slice a2 n2 cb) := (Pu 7 (by simp)).1; have fu : u1.frozen? ⟨w.heap.size, 7, none⟩ = false := (Pu 7 (by simp)).2; have zu : w.heap.size + 2 ≤ u1.heap.size := Nat.le_trans z1 hg.size)
  have P2 := Pu.set (j := 7) (by simp) (.slice a1_ n2 c1_)
  simp only [List.set_cons_zero, List.set_cons_succ] at P2
  have gs := gset (World.grownBy.refl u1 (some w.heap.size)) 7 (.slice a1_ n2 c1_)
  have R2 := Ru.block (Below.heap_setCell u1 (⟨w.heap.size, 7, none⟩ : Addr) (.slice a1_ n2 c1_) (w.heap.size + 1) (by dsimp only; omega))
  have B2 := Bu.setCell (p := ⟨w.heap.size, 7, none⟩) (by dsimp only; omega) (.slice a1_ n2 c1_)
  have z2 : w.heap.size + 2 ≤ (u1.setCell ⟨w.heap.size, 7, none⟩ (.slice a1_ n2 c1_)).heap.size := by simpa [World.setCell] using zu
  have q1_2 := ho.grown gs (.inr (by intro hh; have := ho.row_lo _ hh; omega))
  have D01 : Hid (Dj (Value.slice a0_ n1 c0_).ownBlock (Value.slice a1_ n2 c1_).ownBlock) := Dj.new q0_1.row_hi hbk
  have q0_2 := (q0_1.grown hg (by cases hq : (Value.slice a0_ n1 c0_).ownBlock with | none => exact .inl rfl | some q => exact .inr (fun hh => by cases hh))).grown gs (.inr (by intro hh; have := q0_1.row_lo _ hh; omega))
  obtain ⟨V2, hV2⟩ : ∃ V, V = u1.setCell ⟨w.heap.size, 7, none⟩ (.slice a1_ n2 c1_) := ⟨_, rfl⟩
  rw [← hV2] at P2 R2 B2 z2 q0_2 q1_2
  rw [← hV2]
  clear hV2 y sr yu fu zu Pu Ru Bu gs ho hg hbk P1 R1 B1 z1 q0_1
  have y : V2.cell? ⟨w.heap.size, 8, none⟩ = some (.slice ar nr cr) := (P2 8 (by simp)).1
  have sr : Src Tryz.prog 1 25 (.slice ar nr cr) nr (R.map Value.string) V2 := (h2.below' B2).srcS cr
  go_upto_region 4 with (at_builtin; refine wpList_append_c _ rfl _ _ 25 25 rfl (w.heap.size + 2) 9 i0 (.string ⟨#[]⟩) 1 16 Tryz.underlying25 hi0 hz00 hz01 hz02 rfl (.slice none 0 0) 0 [] rfl (Own.nil _ _ _) _ nr _ rfl sr (by unfold maxLen; omega) (by omega) z2 ?_; intro v2 u2 ho hg hbk; rw [Nat.zero_add, List.nil_append] at ho; obtain ⟨a2_, c2_, rfl⟩ := ho.slc; have Pu := P2.block (hg.block w.heap.size (by omega) none_lt); have Ru := R2.block (hg.block (w.heap.size + 1) (by omega) none_lt); have Bu := below_grown B2 hg (by omega) (fun q hq => by cases hq); have yu : u2.cell? ⟨w.heap.size, 8, none⟩ = some (.slice ar nr cr) := (Pu 8 (by simp)).1; have fu : u2.frozen? ⟨w.heap.size, 8, none⟩ = false := (Pu 8 (by simp)).2; have zu : w.heap.size + 2 ≤ u2.heap.size := Nat.le_trans z2 hg.size)
  have P3 := Pu.set (j := 8) (by simp) (.slice a2_ nr c2_)
  simp only [List.set_cons_zero, List.set_cons_succ] at P3
  have gs := gset (World.grownBy.refl u2 (some w.heap.size)) 8 (.slice a2_ nr c2_)
  have R3 := Ru.block (Below.heap_setCell u2 (⟨w.heap.size, 8, none⟩ : Addr) (.slice a2_ nr c2_) (w.heap.size + 1) (by dsimp only; omega))
  have B3 := Bu.setCell (p := ⟨w.heap.size, 8, none⟩) (by dsimp only; omega) (.slice a2_ nr c2_)
  have z3 : w.heap.size + 2 ≤ (u2.setCell ⟨w.heap.size, 8, none⟩ (.slice a2_ nr c2_)).heap.size := by simpa [World.setCell] using zu
  have q2_3 := ho.grown gs (.inr (by intro hh; have := ho.row_lo _ hh; omega))
  have D02 : Hid (Dj (Value.slice a0_ n1 c0_).ownBlock (Value.slice a2_ nr c2_).ownBlock) := Dj.new q0_2.row_hi hbk
  have q0_3 := (q0_2.grown hg (by cases hq : (Value.slice a0_ n1 c0_).ownBlock with | none => exact .inl rfl | some q => exact .inr (fun hh => by cases hh))).grown gs (.inr (by intro hh; have := q0_2.row_lo _ hh; omega))
  have D12 : Hid (Dj (Value.slice a1_ n2 c1_).ownBlock (Value.slice a2_ nr c2_).ownBlock) := Dj.new q1_2.row_hi hbk
  have q1_3 := (q1_2.grown hg (by cases hq : (Value.slice a1_ n2 c1_).ownBlock with | none => exact .inl rfl | some q => exact .inr (fun hh => by cases hh))).grown gs (.inr (by intro hh; have := q1_2.row_lo _ hh; omega))
  obtain ⟨V3, hV3⟩ : ∃ V, V = u2.setCell ⟨w.heap.size, 8, none⟩ (.slice a2_ nr c2_) := ⟨_, rfl⟩
  rw [← hV3] at P3 R3 B3 z3 q0_3 q1_3 q2_3
  rw [← hV3]
  clear hV3 y sr yu fu zu Pu Ru Bu gs ho hg hbk P2 R2 B2 z2 q0_2 q1_2
  have y : V3.cell? ⟨w.heap.size, 9, none⟩ = some (.slice aj nj cj) := (P3 9 (by simp)).1
  have sr : Src Tryz.prog 3 43 (.slice aj nj cj) nj (c3 J) V3 := (h3.below' B3).src 43 153 Tryz.underlying43 cj
  go_upto_region 5 with (at_builtin; refine wpList_append_c _ rfl _ _ 43 43 rfl (w.heap.size + 2) 153 i3 (.agg #[.int .i64 0, .int .i64 0, .int .i64 0]) 3 24 Tryz.underlying43 hi3 hz30 hz31 hz32 rfl (.slice none 0 0) 0 [] rfl (Own.nil _ _ _) _ nj _ rfl sr (by unfold maxLen; omega) (by omega) z3 ?_; intro v3 u3 ho hg hbk; rw [Nat.zero_add, List.nil_append] at ho; obtain ⟨a3_, c3_, rfl⟩ := ho.slc; have Pu := P3.block (hg.block w.heap.size (by omega) none_lt); have Ru := R3.block (hg.block (w.heap.size + 1) (by omega) none_lt); have Bu := below_grown B3 hg (by omega) (fun q hq => by cases hq); have yu : u3.cell? ⟨w.heap.size, 9, none⟩ = some (.slice aj nj cj) := (Pu 9 (by simp)).1; have fu : u3.frozen? ⟨w.heap.size, 9, none⟩ = false := (Pu 9 (by simp)).2; have zu : w.heap.size + 2 ≤ u3.heap.size := Nat.le_trans z3 hg.size)
  have P4 := Pu.set (j := 9) (by simp) (.slice a3_ nj c3_)
  simp only [List.set_cons_zero, List.set_cons_succ] at P4
  have gs := gset (World.grownBy.refl u3 (some w.heap.size)) 9 (.slice a3_ nj c3_)
  have R4 := Ru.block (Below.heap_setCell u3 (⟨w.heap.size, 9, none⟩ : Addr) (.slice a3_ nj c3_) (w.heap.size + 1) (by dsimp only; omega))
  have B4 := Bu.setCell (p := ⟨w.heap.size, 9, none⟩) (by dsimp only; omega) (.slice a3_ nj c3_)
  have z4 : w.heap.size + 2 ≤ (u3.setCell ⟨w.heap.size, 9, none⟩ (.slice a3_ nj c3_)).heap.size := by simpa [World.setCell] using zu
  have q3_4 := ho.grown gs (.inr (by intro hh; have := ho.row_lo _ hh; omega))
  have D03 : Hid (Dj (Value.slice a0_ n1 c0_).ownBlock (Value.slice a3_ nj c3_).ownBlock) := Dj.new q0_3.row_hi hbk
  have q0_4 := (q0_3.grown hg (by cases hq : (Value.slice a0_ n1 c0_).ownBlock with | none => exact .inl rfl | some q => exact .inr (fun hh => by cases hh))).grown gs (.inr (by intro hh; have := q0_3.row_lo _ hh; omega))
  have D13 : Hid (Dj (Value.slice a1_ n2 c1_).ownBlock (Value.slice a3_ nj c3_).ownBlock) := Dj.new q1_3.row_hi hbk
  have q1_4 := (q1_3.grown hg (by cases hq : (Value.slice a1_ n2 c1_).ownBlock with | none => exact .inl rfl | some q => exact .inr (fun hh => by cases hh))).grown gs (.inr (by intro hh; have := q1_3.row_lo _ hh; omega))
  have D23 : Hid (Dj (Value.slice a2_ nr c2_).ownBlock (Value.slice a3_ nj c3_).ownBlock) := Dj.new q2_3.row_hi hbk
  have q2_4 := (q2_3.grown hg (by cases hq : (Value.slice a2_ nr c2_).ownBlock with | none => exact .inl rfl | some q => exact .inr (fun hh => by cases hh))).grown gs (.inr (by intro hh; have := q2_3.row_lo _ hh; omega))
  obtain ⟨V4, hV4⟩ : ∃ V, V = u3.setCell ⟨w.heap.size, 9, none⟩ (.slice a3_ nj c3_) := ⟨_, rfl⟩
  rw [← hV4] at P4 R4 B4 z4 q0_4 q1_4 q2_4 q3_4
  rw [← hV4]
  clear hV4 y sr yu fu zu Pu Ru Bu gs ho hg hbk P3 R3 B3 z3 q0_3 q1_3 q2_3
  have y : V4.cell? ⟨w.heap.size, 10, none⟩ = some (.slice az ns cs) := (P4 10 (by simp)).1
  have sr : Src Tryz.prog 2 44 (.slice az ns cs) ns (c2 S) V4 := (h4.below' B4).src 44 124 Tryz.underlying44 cs
  go_upto_region 6 with (at_builtin; refine wpList_append_c _ rfl _ _ 44 44 rfl (w.heap.size + 2) 124 i4 (.agg #[.bool false, .int .i64 0]) 2 16 Tryz.underlying44 hi4 hz40 hz41 hz42 rfl (.slice none 0 0) 0 [] rfl (Own.nil _ _ _) _ ns _ rfl sr (by unfold maxLen; omega) (by omega) z4 ?_; intro v4 u4 ho hg hbk; rw [Nat.zero_add, List.nil_append] at ho; obtain ⟨a4_, c4_, rfl⟩ := ho.slc; have Pu := P4.block (hg.block w.heap.size (by omega) none_lt); have Ru := R4.block (hg.block (w.heap.size + 1) (by omega) none_lt); have Bu := below_grown B4 hg (by omega) (fun q hq => by cases hq); have yu : u4.cell? ⟨w.heap.size, 10, none⟩ = some (.slice az ns cs) := (Pu 10 (by simp)).1; have fu : u4.frozen? ⟨w.heap.size, 10, none⟩ = false := (Pu 10 (by simp)).2; have zu : w.heap.size + 2 ≤ u4.heap.size := Nat.le_trans z4 hg.size)
  have P5 := Pu.set (j := 10) (by simp) (.slice a4_ ns c4_)
  simp only [List.set_cons_zero, List.set_cons_succ] at P5
  have gs := gset (World.grownBy.refl u4 (some w.heap.size)) 10 (.slice a4_ ns c4_)
  have R5 := Ru.block (Below.heap_setCell u4 (⟨w.heap.size, 10, none⟩ : Addr) (.slice a4_ ns c4_) (w.heap.size + 1) (by dsimp only; omega))
  have B5 := Bu.setCell (p := ⟨w.heap.size, 10, none⟩) (by dsimp only; omega) (.slice a4_ ns c4_)
  have z5 : w.heap.size + 2 ≤ (u4.setCell ⟨w.heap.size, 10, none⟩ (.slice a4_ ns c4_)).heap.size := by simpa [World.setCell] using zu
  have q4_5 := ho.grown gs (.inr (by intro hh; have := ho.row_lo _ hh; omega))
  have D04 : Hid (Dj (Value.slice a0_ n1 c0_).ownBlock (Value.slice a4_ ns c4_).ownBlock) := Dj.new q0_4.row_hi hbk
  have q0_5 := (q0_4.grown hg (by cases hq : (Value.slice a0_ n1 c0_).ownBlock with | none => exact .inl rfl | some q => exact .inr (fun hh => by cases hh))).grown gs (.inr (by intro hh; have := q0_4.row_lo _ hh; omega))
  have D14 : Hid (Dj (Value.slice a1_ n2 c1_).ownBlock (Value.slice a4_ ns c4_).ownBlock) := Dj.new q1_4.row_hi hbk
  have q1_5 := (q1_4.grown hg (by cases hq : (Value.slice a1_ n2 c1_).ownBlock with | none => exact .inl rfl | some q => exact .inr (fun hh => by cases hh))).grown gs (.inr (by intro hh; have := q1_4.row_lo _ hh; omega))
  have D24 : Hid (Dj (Value.slice a2_ nr c2_).ownBlock (Value.slice a4_ ns c4_).ownBlock) := Dj.new q2_4.row_hi hbk
  have q2_5 := (q2_4.grown hg (by cases hq : (Value.slice a2_ nr c2_).ownBlock with | none => exact .inl rfl | some q => exact .inr (fun hh => by cases hh))).grown gs (.inr (by intro hh; have := q2_4.row_lo _ hh; omega))
  have D34 : Hid (Dj (Value.slice a3_ nj c3_).ownBlock (Value.slice a4_ ns c4_).ownBlock) := Dj.new q3_4.row_hi hbk
  have q3_5 := (q3_4.grown hg (by cases hq : (Value.slice a3_ nj c3_).ownBlock with | none => exact .inl rfl | some q => exact .inr (fun hh => by cases hh))).grown gs (.inr (by intro hh; have := q3_4.row_lo _ hh; omega))
  obtain ⟨V5, hV5⟩ : ∃ V, V = u4.setCell ⟨w.heap.size, 10, none⟩ (.slice a4_ ns c4_) := ⟨_, rfl⟩
  rw [← hV5] at P5 R5 B5 z5 q0_5 q1_5 q2_5 q3_5 q4_5
  rw [← hV5]
  clear hV5 y sr yu fu zu Pu Ru Bu gs ho hg hbk P4 R4 B4 z4 q0_4 q1_4 q2_4 q3_4
  have y : V5.cell? ⟨w.heap.size, 11, none⟩ = some (.slice ao no co) := (P5 11 (by simp)).1
  have sr : Src Tryz.prog 3 45 (.slice ao no co) no (c3 O) V5 := (h5.below' B5).src 45 126 Tryz.underlying45 co
  go_upto_region 7 with (at_builtin; refine wpList_append_c _ rfl _ _ 45 45 rfl (w.heap.size + 2) 126 i5 (.agg #[.int .i64 0, .int .i64 0, .int .i64 0]) 3 24 Tryz.underlying45 hi5 hz50 hz51 hz52 rfl (.slice none 0 0) 0 [] rfl (Own.nil _ _ _) _ no _ rfl sr (by unfold maxLen; omega) (by omega) z5 ?_; intro v5 u5 ho hg hbk; rw [Nat.zero_add, List.nil_append] at ho; obtain ⟨a5_, c5_, rfl⟩ := ho.slc; have Pu := P5.block (hg.block w.heap.size (by omega) none_lt); have Ru := R5.block (hg.block (w.heap.size + 1) (by omega) none_lt); have Bu := below_grown B5 hg (by omega) (fun q hq => by cases hq); have yu : u5.cell? ⟨w.heap.size, 11, none⟩ = some (.slice ao no co) := (Pu 11 (by simp)).1; have fu : u5.frozen? ⟨w.heap.size, 11, none⟩ = false := (Pu 11 (by simp)).2; have zu : w.heap.size + 2 ≤ u5.heap.size := Nat.le_trans z5 hg.size)
  have P6 := Pu.set (j := 11) (by simp) (.slice a5_ no c5_)
  simp only [List.set_cons_zero, List.set_cons_succ] at P6
  have gs := gset (World.grownBy.refl u5 (some w.heap.size)) 11 (.slice a5_ no c5_)
  have R6 := Ru.block (Below.heap_setCell u5 (⟨w.heap.size, 11, none⟩ : Addr) (.slice a5_ no c5_) (w.heap.size + 1) (by dsimp only; omega))
  have B6 := Bu.setCell (p := ⟨w.heap.size, 11, none⟩) (by dsimp only; omega) (.slice a5_ no c5_)
  have z6 : w.heap.size + 2 ≤ (u5.setCell ⟨w.heap.size, 11, none⟩ (.slice a5_ no c5_)).heap.size := by simpa [World.setCell] using zu
  have q5_6 := ho.grown gs (.inr (by intro hh; have := ho.row_lo _ hh; omega))
  have D05 : Hid (Dj (Value.slice a0_ n1 c0_).ownBlock (Value.slice a5_ no c5_).ownBlock) := Dj.new q0_5.row_hi hbk
  have q0_6 := (q0_5.grown hg (by cases hq : (Value.slice a0_ n1 c0_).ownBlock with | none => exact .inl rfl | some q => exact .inr (fun hh => by cases hh))).grown gs (.inr (by intro hh; have := q0_5.row_lo _ hh; omega))
  have D15 : Hid (Dj (Value.slice a1_ n2 c1_).ownBlock (Value.slice a5_ no c5_).ownBlock) := Dj.new q1_5.row_hi hbk
  have q1_6 := (q1_5.grown hg (by cases hq : (Value.slice a1_ n2 c1_).ownBlock with | none => exact .inl rfl | some q => exact .inr (fun hh => by cases hh))).grown gs (.inr (by intro hh; have := q1_5.row_lo _ hh; omega))
  have D25 : Hid (Dj (Value.slice a2_ nr c2_).ownBlock (Value.slice a5_ no c5_).ownBlock) := Dj.new q2_5.row_hi hbk
  have q2_6 := (q2_5.grown hg (by cases hq : (Value.slice a2_ nr c2_).ownBlock with | none => exact .inl rfl | some q => exact .inr (fun hh => by cases hh))).grown gs (.inr (by intro hh; have := q2_5.row_lo _ hh; omega))
  have D35 : Hid (Dj (Value.slice a3_ nj c3_).ownBlock (Value.slice a5_ no c5_).ownBlock) := Dj.new q3_5.row_hi hbk
  have q3_6 := (q3_5.grown hg (by cases hq : (Value.slice a3_ nj c3_).ownBlock with | none => exact .inl rfl | some q => exact .inr (fun hh => by cases hh))).grown gs (.inr (by intro hh; have := q3_5.row_lo _ hh; omega))
  have D45 : Hid (Dj (Value.slice a4_ ns c4_).ownBlock (Value.slice a5_ no c5_).ownBlock) := Dj.new q4_5.row_hi hbk
  have q4_6 := (q4_5.grown hg (by cases hq : (Value.slice a4_ ns c4_).ownBlock with | none => exact .inl rfl | some q => exact .inr (fun hh => by cases hh))).grown gs (.inr (by intro hh; have := q4_5.row_lo _ hh; omega))
  obtain ⟨V6, hV6⟩ : ∃ V, V = u5.setCell ⟨w.heap.size, 11, none⟩ (.slice a5_ no c5_) := ⟨_, rfl⟩
  rw [← hV6] at P6 R6 B6 z6 q0_6 q1_6 q2_6 q3_6 q4_6 q5_6
  rw [← hV6]
  clear hV6 y sr yu fu zu Pu Ru Bu gs ho hg hbk P5 R5 B5 z5 q0_5 q1_5 q2_5 q3_5 q4_5
  have y0 : V6.cell? ⟨w.heap.size, 0, none⟩ = some (.int .i64 wk) := (P6 0 (by simp)).1
  have y1 : V6.cell? ⟨w.heap.size, 1, none⟩ = some (.bool up) := (P6 1 (by simp)).1
  have y2 : V6.cell? ⟨w.heap.size, 2, none⟩ = some (.int .i64 now) := (P6 2 (by simp)).1
  have y3 : V6.cell? ⟨w.heap.size, 3, none⟩ = some (.int .i64 sn) := (P6 3 (by simp)).1
  have y4 : V6.cell? ⟨w.heap.size, 4, none⟩ = some (.int .i64 ep) := (P6 4 (by simp)).1
  have y5 : V6.cell? ⟨w.heap.size, 5, none⟩ = some (.int .i64 gv) := (P6 5 (by simp)).1
  have y6 : V6.cell? ⟨w.heap.size, 6, none⟩ = some (.slice a0_ n1 c0_) := (P6 6 (by simp)).1
  have y7 : V6.cell? ⟨w.heap.size, 7, none⟩ = some (.slice a1_ n2 c1_) := (P6 7 (by simp)).1
  have y8 : V6.cell? ⟨w.heap.size, 8, none⟩ = some (.slice a2_ nr c2_) := (P6 8 (by simp)).1
  have y9 : V6.cell? ⟨w.heap.size, 9, none⟩ = some (.slice a3_ nj c3_) := (P6 9 (by simp)).1
  have y10 : V6.cell? ⟨w.heap.size, 10, none⟩ = some (.slice a4_ ns c4_) := (P6 10 (by simp)).1
  have y11 : V6.cell? ⟨w.heap.size, 11, none⟩ = some (.slice a5_ no c5_) := (P6 11 (by simp)).1
  go_wp2_with (refine wpList_store_cf rfl 47 (.tmp 2) (.tmp 31) rfl (w.heap.size + 1) zB [.int .i64 wk, .bool up, .int .i64 now, .int .i64 sn, .int .i64 ep, .int .i64 gv, .slice a0_ n1 c0_, .slice a1_ n2 c1_, .slice a2_ nr c2_, .slice a3_ nj c3_, .slice a4_ ns c4_, .slice a5_ no c5_] rfl rfl R6 rfl Tryz.sizeBo (one12b _ _ _ _ _ _ _ _ _ _ _ _ _ _ _ _ _ _ _ _ _ _ _ _) ?_; intro w10 hc10 hg10)
  have k0 : w10.cell? ⟨w.heap.size + 1, 0, none⟩ = some (.int .i64 wk) := (hc10 0 (by simp)).1
  have k1 : w10.cell? ⟨w.heap.size + 1, 1, none⟩ = some (.bool up) := (hc10 1 (by simp)).1
  have k2 : w10.cell? ⟨w.heap.size + 1, 2, none⟩ = some (.int .i64 now) := (hc10 2 (by simp)).1
  have k3 : w10.cell? ⟨w.heap.size + 1, 3, none⟩ = some (.int .i64 sn) := (hc10 3 (by simp)).1
  have k4 : w10.cell? ⟨w.heap.size + 1, 4, none⟩ = some (.int .i64 ep) := (hc10 4 (by simp)).1
  have k5 : w10.cell? ⟨w.heap.size + 1, 5, none⟩ = some (.int .i64 gv) := (hc10 5 (by simp)).1
  have k6 : w10.cell? ⟨w.heap.size + 1, 6, none⟩ = some (.slice a0_ n1 c0_) := (hc10 6 (by simp)).1
  have k7 : w10.cell? ⟨w.heap.size + 1, 7, none⟩ = some (.slice a1_ n2 c1_) := (hc10 7 (by simp)).1
  have k8 : w10.cell? ⟨w.heap.size + 1, 8, none⟩ = some (.slice a2_ nr c2_) := (hc10 8 (by simp)).1
  have k9 : w10.cell? ⟨w.heap.size + 1, 9, none⟩ = some (.slice a3_ nj c3_) := (hc10 9 (by simp)).1
  have k10 : w10.cell? ⟨w.heap.size + 1, 10, none⟩ = some (.slice a4_ ns c4_) := (hc10 10 (by simp)).1
  have k11 : w10.cell? ⟨w.heap.size + 1, 11, none⟩ = some (.slice a5_ no c5_) := (hc10 11 (by simp)).1
  refine bodyPost_ret (v := .agg #[.int .i64 wk, .bool up, .int .i64 now, .int .i64 sn, .int .i64 ep, .int .i64 gv, .slice a0_ n1 c0_, .slice a1_ n2 c1_, .slice a2_ nr c2_, .slice a3_ nj c3_, .slice a4_ ns c4_, .slice a5_ no c5_]) (by simp [results, Tryz.results59, go_sem, k0, k1, k2, k3, k4, k5, k6, k7, k8, k9, k10, k11]) rfl ⟨a0_, c0_, a1_, c1_, a2_, c2_, a3_, c3_, a4_, c4_, a5_, c5_, rfl, ⟨(q0_6.grown hg10 (.inr (by intro hh; have := q0_6.row_lo _ hh; omega))).mono' (by omega), (q1_6.grown hg10 (.inr (by intro hh; have := q1_6.row_lo _ hh; omega))).mono' (by omega), (q2_6.grown hg10 (.inr (by intro hh; have := q2_6.row_lo _ hh; omega))).mono' (by omega), (q3_6.grown hg10 (.inr (by intro hh; have := q3_6.row_lo _ hh; omega))).mono' (by omega), (q4_6.grown hg10 (.inr (by intro hh; have := q4_6.row_lo _ hh; omega))).mono' (by omega), (q5_6.grown hg10 (.inr (by intro hh; have := q5_6.row_lo _ hh; omega))).mono' (by omega)⟩, ?_, below_grown B6 hg10 (by omega) (fun q hq => by simp at hq; omega)⟩
  simp only [List.pairwise_cons, List.mem_cons, List.not_mem_nil, or_false, forall_eq_or_imp, forall_eq, List.Pairwise.nil, and_true, false_implies, implies_true]
  exact ⟨⟨D01.out, D02.out, D03.out, D04.out, D05.out⟩, ⟨D12.out, D13.out, D14.out, D15.out⟩, ⟨D23.out, D24.out, D25.out⟩, ⟨D34.out, D35.out⟩, D45.out⟩

end Go.Proofs.YthopfmhagddhgaaGreat

namespace Go.Proofs.YthopfmhagddhgaaGreat
open Go.RowKit

theorem run_sl {ρ : Operand → Value} {o : Oper} {w : World} (x y : Operand) (g off n c k : Nat) (hk : k ≤ c) (h : o.op = .slice 25 x none (some y) none) (hx : ρ x = .slice (some ⟨g, off, none⟩) n c) (hy : ρ y = .int .i64 (k : Nat)) : (execOp ρ o).run Tryz.prog w = .ok (.value (.slice (some ⟨g, off, none⟩) k c)) w := by
  unfold execOp
  rw [h]
  have hk' : (k : Int) ≤ (c : Int) := by omega
  simp [go_sem, hx, hy, hk']
theorem run_sl0 {ρ : Operand → Value} {o : Oper} {w : World} (x y : Operand) (h : o.op = .slice 25 x none (some y) none) (hx : ρ x = .slice none 0 0) (hy : ρ y = .int .i64 0) : (execOp ρ o).run Tryz.prog w = .ok (.value (.slice none 0 0)) w := by
  unfold execOp
  rw [h]
  simp [go_sem, hx, hy]
/-- A coordinator whose lists a call owns. -/
structure BossO (w : World) (B : Nat) (d : BD) (h : BH) : Prop where
  o0 : Own B w 1 (.slice h.a1 d.L1.length h.c1) d.L1.length (d.L1.map Value.string)
  o1 : Own B w 1 (.slice h.a2 d.L2.length h.c2) d.L2.length (d.L2.map Value.string)
  o2 : Own B w 1 (.slice h.ar d.R.length h.cr) d.R.length (d.R.map Value.string)
  o3 : Own B w 3 (.slice h.aj d.J.length h.cj) d.J.length (c3 d.J)
  o4 : Own B w 2 (.slice h.az d.S.length h.cs) d.S.length (c2 d.S)
  o5 : Own B w 3 (.slice h.ao d.O.length h.co) d.O.length (c3 d.O)
  dis : List.Pairwise Dj [(Value.slice h.a1 d.L1.length h.c1).ownBlock, (Value.slice h.a2 d.L2.length h.c2).ownBlock, (Value.slice h.ar d.R.length h.cr).ownBlock, (Value.slice h.aj d.J.length h.cj).ownBlock, (Value.slice h.az d.S.length h.cs).ownBlock, (Value.slice h.ao d.O.length h.co).ownBlock]
def RetBs (e : Ending) (B : Nat) (w' : World) (d : BD) : Prop := ∃ h, e = .returned (.agg (bvs d h).toArray) ∧ BossO w' B d h
def keptN (keep : Int) (n : Nat) : Nat := (min (max keep 0) n).toNat
theorem keptN_le (keep : Int) (n : Nat) : keptN keep n ≤ n := by unfold keptN; omega
def fallB (d : BD) (keep : Int) : BD := ⟨d.wk, false, d.now, 0, 0, 0, d.L1 ++ d.L2.take (keptN keep d.L2.length), [], [], [], [], []⟩
def zBD : BD := ⟨0, false, 0, 0, 0, 0, [], [], [], [], [], []⟩
def fallR2 (d : BD) (ts : List TaskD) (keep : Int) (d' : BD) : Prop := d.ok ts ∧ d' = fallB d keep ∨ ¬ d.ok ts ∧ d' = zBD
theorem Dj.none_l (y : Option Nat) : Dj none y := .inl rfl
theorem zBO (w : World) (B : Nat) : BossO w B zBD ⟨none, none, none, none, none, none, 0, 0, 0, 0, 0, 0⟩ := by
  refine ⟨Own.nil _ _ _, Own.nil _ _ _, Own.nil _ _ _, Own.nil _ _ _, Own.nil _ _ _, Own.nil _ _ _, ?_⟩
  simp [Value.ownBlock, Dj.none_l]
theorem oneBO (w : World) (B : Nat) (wk now : Int) (L : List ByteArray) (a : Option Addr) (c : Nat) (ho : Own B w 1 (.slice a L.length c) L.length (L.map Value.string)) : BossO w B ⟨wk, false, now, 0, 0, 0, L, [], [], [], [], []⟩ ⟨a, none, none, none, none, none, c, 0, 0, 0, 0, 0⟩ := by
  refine ⟨ho, Own.nil _ _ _, Own.nil _ _ _, Own.nil _ _ _, Own.nil _ _ _, Own.nil _ _ _, ?_⟩
  simp only [List.pairwise_cons, List.mem_cons, List.not_mem_nil, or_false, forall_eq_or_imp, forall_eq, List.Pairwise.nil, and_true, false_implies, implies_true]
  have h0 : ∀ x, Dj x (Value.slice none 0 0).ownBlock := fun x => by
    cases x with
    | none => exact .inl rfl
    | some q => exact .inr (by simp [Value.ownBlock])
  exact ⟨⟨h0 _, h0 _, h0 _, h0 _, h0 _⟩, ⟨h0 _, h0 _, h0 _, h0 _⟩, ⟨h0 _, h0 _, h0 _⟩, ⟨h0 _, h0 _⟩, h0 _⟩
theorem StrsAt.takeP {w : World} {a : Option Addr} {b o n : Nat} {ss : List ByteArray} (h : StrsAt w a b o n ss) (k : Nat) (hk : k ≤ n) : StrsAt w a b o k (ss.take k) :=
  ⟨fun h0 => h.ad (by omega), by rw [List.length_take, h.len]; omega, Nat.le_trans hk h.max, fun h0 => h.lt (by omega), fun j hj => by rw [h.cell j (by omega)]; simp [List.getD, hj], fun s hs => h.sz s (List.mem_of_mem_take hs)⟩

theorem Own.drewB {B : Nat} {w : World} {size : Nat} {v : Value} {n : Nat} {xs : List Value} (h : Own B w size v n xs) : Own B w.drew size v n xs := by
  rcases h with h | ⟨g, o, cap, hv, hc⟩
  · exact .inl h
  · exact .inr ⟨g, o, cap, hv, hc.block rfl⟩
theorem run_ldI {ρ : Operand → Value} {o : Oper} {w : World} {p : Addr} {v : Value} (x : Operand) (h : o.op = .load 3 x) (hx : ρ x = .pointer (some p)) (hc : w.cell? p = some v) : (execOp ρ o).run Tryz.prog w = .ok (.value v) w := by
  unfold execOp
  rw [h]
  simp [go_sem, hx, hc]
theorem run_b42 {ρ : Operand → Value} {o : Oper} {w : World} {a : Option Addr} {n c : Nat} (x : Operand) (h : o.op = .build 42 #[(0, x)]) (hx : ρ x = .slice a n c) : (execOp ρ o).run Tryz.prog w = .ok (.value (.agg #[.slice a n c, .slice none 0 0])) w := by
  unfold execOp
  rw [h]
  simp [go_sem, hx]
theorem run_b47 {ρ : Operand → Value} {o : Oper} {w : World} {a : Option Addr} {n c : Nat} {k m : Int} (x y z : Operand) (h : o.op = .build 47 #[(0, x), (2, y), (6, z)]) (hx : ρ x = .int .i64 k) (hy : ρ y = .int .i64 m) (hz : ρ z = .agg #[.slice a n c, .slice none 0 0]) : (execOp ρ o).run Tryz.prog w = .ok (.value (.agg #[.int .i64 k, .bool false, .int .i64 m, .int .i64 0, .int .i64 0, .int .i64 0, .slice a n c, .slice none 0 0, .slice none 0 0, .slice none 0 0, .slice none 0 0, .slice none 0 0])) w := by
  unfold execOp
  rw [h]
  simp [go_sem, hx, hy, hz]

set_option maxHeartbeats 4000000 in
set_option maxRecDepth 100000 in
theorem iFallB_any (d : BD) (h : BH) (pa : Option Addr) (pb po pn pc : Nat) (ts : List TaskD) (keep : Int) (w : World) (hM : BossM w d h) (hT : TasksAt w pa pb po pn ts) (hs : d.small) :
    Calls Tryz.prog 21 #[.agg #[.int .i64 d.wk, .bool d.up, .int .i64 d.now, .int .i64 d.sn, .int .i64 d.ep, .int .i64 d.gv, .slice h.a1 d.L1.length h.c1, .slice h.a2 d.L2.length h.c2, .slice h.ar d.R.length h.cr, .slice h.aj d.J.length h.cj, .slice h.az d.S.length h.cs, .slice h.ao d.O.length h.co], .agg #[.slice pa pn pc], .int .i64 keep] w fun e w' => (∃ d', RetBs e w.heap.size w' d' ∧ fallR2 d ts keep d') ∧ Below w.heap.size w w' := by
  obtain ⟨i0, hi0, hz00, hz01, hz02⟩ := info_parts Tryz.infoSt
  obtain ⟨W, hW⟩ : ∃ W, W = ((w.alloc (.cells #[.int .i64 d.wk, .bool d.up, .int .i64 d.now, .int .i64 d.sn, .int .i64 d.ep, .int .i64 d.gv, .slice h.a1 d.L1.length h.c1, .slice h.a2 d.L2.length h.c2, .slice h.ar d.R.length h.cr, .slice h.aj d.J.length h.cj, .slice h.az d.S.length h.cs, .slice h.ao d.O.length h.co] 47)).alloc (.cells #[.slice pa pn pc] 41)).alloc (.cells #[.int .i64 0, .bool false, .int .i64 0, .int .i64 0, .int .i64 0, .int .i64 0, .slice none 0 0, .slice none 0 0, .slice none 0 0, .slice none 0 0, .slice none 0 0, .slice none 0 0] 47) := ⟨_, rfl⟩
  have B0 : Below w.heap.size w W := by rw [hW]; exact (((Below.refl _ _).alloc (Nat.le_refl _) _).alloc (by simp) _).alloc (by simp; omega) _
  have z0 : w.heap.size + 3 ≤ W.heap.size := by rw [hW]; simp
  have P0 : CF W w.heap.size [.int .i64 d.wk, .bool d.up, .int .i64 d.now, .int .i64 d.sn, .int .i64 d.ep, .int .i64 d.gv, .slice h.a1 d.L1.length h.c1, .slice h.a2 d.L2.length h.c2, .slice h.ar d.R.length h.cr, .slice h.aj d.J.length h.cj, .slice h.az d.S.length h.cs, .slice h.ao d.O.length h.co] := by
    rw [hW]; exact ((CF.made w #[.int .i64 d.wk, .bool d.up, .int .i64 d.now, .int .i64 d.sn, .int .i64 d.ep, .int .i64 d.gv, .slice h.a1 d.L1.length h.c1, .slice h.a2 d.L2.length h.c2, .slice h.ar d.R.length h.cr, .slice h.aj d.J.length h.cj, .slice h.az d.S.length h.cs, .slice h.ao d.O.length h.co] 47).block (Below.heap_alloc _ _ _ (by simp))).block (Below.heap_alloc _ _ _ (by simp; omega))
  have L0 : CF W (w.heap.size + 1) [.slice pa pn pc] := by
    rw [hW]
    have := (CF.made (w.alloc (.cells #[.int .i64 d.wk, .bool d.up, .int .i64 d.now, .int .i64 d.sn, .int .i64 d.ep, .int .i64 d.gv, .slice h.a1 d.L1.length h.c1, .slice h.a2 d.L2.length h.c2, .slice h.ar d.R.length h.cr, .slice h.aj d.J.length h.cj, .slice h.az d.S.length h.cs, .slice h.ao d.O.length h.co] 47)) #[.slice pa pn pc] 41).block (Below.heap_alloc ((w.alloc (.cells #[.int .i64 d.wk, .bool d.up, .int .i64 d.now, .int .i64 d.sn, .int .i64 d.ep, .int .i64 d.gv, .slice h.a1 d.L1.length h.c1, .slice h.a2 d.L2.length h.c2, .slice h.ar d.R.length h.cr, .slice h.aj d.J.length h.cj, .slice h.az d.S.length h.cs, .slice h.ao d.O.length h.co] 47)).alloc (.cells #[.slice pa pn pc] 41)) (.cells #[.int .i64 0, .bool false, .int .i64 0, .int .i64 0, .int .i64 0, .int .i64 0, .slice none 0 0, .slice none 0 0, .slice none 0 0, .slice none 0 0, .slice none 0 0, .slice none 0 0] 47) _ (by simp))
    simpa using this
  have R0 : CF W (w.heap.size + 2) zB := by
    rw [hW]
    have := CF.made ((w.alloc (.cells #[.int .i64 d.wk, .bool d.up, .int .i64 d.now, .int .i64 d.sn, .int .i64 d.ep, .int .i64 d.gv, .slice h.a1 d.L1.length h.c1, .slice h.a2 d.L2.length h.c2, .slice h.ar d.R.length h.cr, .slice h.aj d.J.length h.cj, .slice h.az d.S.length h.cs, .slice h.ao d.O.length h.co] 47)).alloc (.cells #[.slice pa pn pc] 41)) #[.int .i64 0, .bool false, .int .i64 0, .int .i64 0, .int .i64 0, .int .i64 0, .slice none 0 0, .slice none 0 0, .slice none 0 0, .slice none 0 0, .slice none 0 0, .slice none 0 0] 47
    simpa [zB] using this
  have hV0 : BossV w d [.int .i64 d.wk, .bool d.up, .int .i64 d.now, .int .i64 d.sn, .int .i64 d.ep, .int .i64 d.gv, .slice h.a1 d.L1.length h.c1, .slice h.a2 d.L2.length h.c2, .slice h.ar d.R.length h.cr, .slice h.aj d.J.length h.cj, .slice h.az d.S.length h.cs, .slice h.ao d.O.length h.co] := ⟨h, rfl, hM⟩
  have hV := hid (hV0.below' B0)
  have hs' := hid hs
  clear hV0 hs
  have HW := hid hW
  clear hW
  go_enter Tryz.func21, Tryz.ntmps21
  go_upto_region 1 with fail
  rw [← HW.out]
  clear HW
  have y0 : W.cell? ⟨w.heap.size, 0, none⟩ = some (.int .i64 d.wk) := (P0 0 (by simp)).1
  have y1 : W.cell? ⟨w.heap.size, 1, none⟩ = some (.bool d.up) := (P0 1 (by simp)).1
  have y2 : W.cell? ⟨w.heap.size, 2, none⟩ = some (.int .i64 d.now) := (P0 2 (by simp)).1
  have y3 : W.cell? ⟨w.heap.size, 3, none⟩ = some (.int .i64 d.sn) := (P0 3 (by simp)).1
  have y4 : W.cell? ⟨w.heap.size, 4, none⟩ = some (.int .i64 d.ep) := (P0 4 (by simp)).1
  have y5 : W.cell? ⟨w.heap.size, 5, none⟩ = some (.int .i64 d.gv) := (P0 5 (by simp)).1
  have y6 : W.cell? ⟨w.heap.size, 6, none⟩ = some (.slice h.a1 d.L1.length h.c1) := (P0 6 (by simp)).1
  have y7 : W.cell? ⟨w.heap.size, 7, none⟩ = some (.slice h.a2 d.L2.length h.c2) := (P0 7 (by simp)).1
  have y8 : W.cell? ⟨w.heap.size, 8, none⟩ = some (.slice h.ar d.R.length h.cr) := (P0 8 (by simp)).1
  have y9 : W.cell? ⟨w.heap.size, 9, none⟩ = some (.slice h.aj d.J.length h.cj) := (P0 9 (by simp)).1
  have y10 : W.cell? ⟨w.heap.size, 10, none⟩ = some (.slice h.az d.S.length h.cs) := (P0 10 (by simp)).1
  have y11 : W.cell? ⟨w.heap.size, 11, none⟩ = some (.slice h.ao d.O.length h.co) := (P0 11 (by simp)).1
  have kp : W.cell? ⟨w.heap.size + 1, 0, none⟩ = some (.slice pa pn pc) := (L0 0 (by simp)).1
  go_wp2_with fail
  refine (iValBV_any d _ _ _ _ _ _ _ _ _ _ _ _ pa pb po pn pc ts _ hV.out (hT.below' B0) hs'.out).mono ?_
  rintro e w1 ⟨⟨r, rfl, hr⟩, hb1⟩
  clear y0 y1 y2 y3 y4 y5 y6 y7 y8 y9 y10 y11 kp
  have P1 := P0.block (hb1.block w.heap.size (by omega))
  have R1 := R0.block (hb1.block (w.heap.size + 2) (by omega))
  have B1 := B0.trans (hb1.mono B0.size)
  have z1 : w.heap.size + 3 ≤ w1.heap.size := by have := hb1.size; omega
  have HR := hid hr
  clear hr hb1 P0 R0 B0 z0 L0
  cases r with
  | false =>
    have HN : Hid (¬ d.ok ts) := fun hh => by have := HR.out.2 hh; cases this
    go_upto_region 2 with fail
    go_wp2_with (refine wpList_store_cf rfl 47 (.tmp 6) (.tmp 12) rfl (w.heap.size + 2) zB [.int .i64 0, .bool false, .int .i64 0, .int .i64 0, .int .i64 0, .int .i64 0, .slice none 0 0, .slice none 0 0, .slice none 0 0, .slice none 0 0, .slice none 0 0, .slice none 0 0] rfl rfl R1 rfl Tryz.sizeBo (one12b _ _ _ _ _ _ _ _ _ _ _ _ _ _ _ _ _ _ _ _ _ _ _ _) ?_; intro w10 hc10 hg10)
    have k0 : w10.cell? ⟨w.heap.size + 2, 0, none⟩ = some (.int .i64 0) := (hc10 0 (by simp)).1
    have k1 : w10.cell? ⟨w.heap.size + 2, 1, none⟩ = some (.bool false) := (hc10 1 (by simp)).1
    have k2 : w10.cell? ⟨w.heap.size + 2, 2, none⟩ = some (.int .i64 0) := (hc10 2 (by simp)).1
    have k3 : w10.cell? ⟨w.heap.size + 2, 3, none⟩ = some (.int .i64 0) := (hc10 3 (by simp)).1
    have k4 : w10.cell? ⟨w.heap.size + 2, 4, none⟩ = some (.int .i64 0) := (hc10 4 (by simp)).1
    have k5 : w10.cell? ⟨w.heap.size + 2, 5, none⟩ = some (.int .i64 0) := (hc10 5 (by simp)).1
    have k6 : w10.cell? ⟨w.heap.size + 2, 6, none⟩ = some (.slice none 0 0) := (hc10 6 (by simp)).1
    have k7 : w10.cell? ⟨w.heap.size + 2, 7, none⟩ = some (.slice none 0 0) := (hc10 7 (by simp)).1
    have k8 : w10.cell? ⟨w.heap.size + 2, 8, none⟩ = some (.slice none 0 0) := (hc10 8 (by simp)).1
    have k9 : w10.cell? ⟨w.heap.size + 2, 9, none⟩ = some (.slice none 0 0) := (hc10 9 (by simp)).1
    have k10 : w10.cell? ⟨w.heap.size + 2, 10, none⟩ = some (.slice none 0 0) := (hc10 10 (by simp)).1
    have k11 : w10.cell? ⟨w.heap.size + 2, 11, none⟩ = some (.slice none 0 0) := (hc10 11 (by simp)).1
    exact bodyPost_ret (v := .agg #[.int .i64 0, .bool false, .int .i64 0, .int .i64 0, .int .i64 0, .int .i64 0, .slice none 0 0, .slice none 0 0, .slice none 0 0, .slice none 0 0, .slice none 0 0, .slice none 0 0]) (by simp [results, Tryz.results21, go_sem, k0, k1, k2, k3, k4, k5, k6, k7, k8, k9, k10, k11]) rfl ⟨⟨zBD, ⟨_, rfl, zBO _ _⟩, .inr ⟨HN.out, rfl⟩⟩, below_grown B1 hg10 (by omega) (fun q hq => by simp at hq; omega)⟩
  | true =>
    have HV : Hid (d.ok ts) := HR.out.1 rfl
    have y7 : w1.cell? ⟨w.heap.size, 7, none⟩ = some (.slice h.a2 d.L2.length h.c2) := (P1 7 (by simp)).1
    go_upto_region 4 with fail
    clear y7
    obtain ⟨K, hK⟩ : ∃ K, K = keptN keep d.L2.length := ⟨_, rfl⟩
    have e7 : min (max keep 0) (d.L2.length : Int) = (K : Nat) := by rw [hK]; unfold keptN; omega
    have hKl : K ≤ d.L2.length := by rw [hK]; exact keptN_le _ _
    rw [e7]
    have HK := hid hK
    clear e7 hK
    have hsm := hs'.out
    unfold BD.small at hsm
    obtain ⟨⟨b1, o1, h1⟩, ⟨b2, o2, h2⟩, ⟨b3, o3, h3⟩, ⟨b4, o4, h4⟩, ⟨b5, o5, h5⟩, ⟨b6, o6, h6⟩⟩ := hM
    have y0 : w1.cell? ⟨w.heap.size, 0, none⟩ = some (.int .i64 d.wk) := (P1 0 (by simp)).1
    have y1 : w1.cell? ⟨w.heap.size, 1, none⟩ = some (.bool d.up) := (P1 1 (by simp)).1
    have y2 : w1.cell? ⟨w.heap.size, 2, none⟩ = some (.int .i64 d.now) := (P1 2 (by simp)).1
    have y3 : w1.cell? ⟨w.heap.size, 3, none⟩ = some (.int .i64 d.sn) := (P1 3 (by simp)).1
    have y4 : w1.cell? ⟨w.heap.size, 4, none⟩ = some (.int .i64 d.ep) := (P1 4 (by simp)).1
    have y5 : w1.cell? ⟨w.heap.size, 5, none⟩ = some (.int .i64 d.gv) := (P1 5 (by simp)).1
    have y6 : w1.cell? ⟨w.heap.size, 6, none⟩ = some (.slice h.a1 d.L1.length h.c1) := (P1 6 (by simp)).1
    have y7 : w1.cell? ⟨w.heap.size, 7, none⟩ = some (.slice h.a2 d.L2.length h.c2) := (P1 7 (by simp)).1
    have y8 : w1.cell? ⟨w.heap.size, 8, none⟩ = some (.slice h.ar d.R.length h.cr) := (P1 8 (by simp)).1
    have y9 : w1.cell? ⟨w.heap.size, 9, none⟩ = some (.slice h.aj d.J.length h.cj) := (P1 9 (by simp)).1
    have y10 : w1.cell? ⟨w.heap.size, 10, none⟩ = some (.slice h.az d.S.length h.cs) := (P1 10 (by simp)).1
    have y11 : w1.cell? ⟨w.heap.size, 11, none⟩ = some (.slice h.ao d.O.length h.co) := (P1 11 (by simp)).1
    go_upto_region 5 with (first | (go_at_call 59; refine (copyBoss_any d.wk d.up d.now d.sn d.ep d.gv h.a1 h.a2 h.ar h.aj h.az h.ao b1 o1 _ h.c1 b2 o2 _ h.c2 b3 o3 _ h.cr b4 o4 _ h.cj b5 o5 _ h.cs b6 o6 _ h.co d.L1 d.L2 d.R d.J d.S d.O _ (h1.below' B1) (h2.below' B1) (h3.below' B1) (h4.below' B1) (h5.below' B1) (h6.below' B1) (by omega) (by omega) (by omega) (by omega) (by omega) (by omega)).mono ?_; rintro e w2 ⟨a0_, c0_, a1_, c1_, a2_, c2_, a3_, c3_, a4_, c4_, a5_, c5_, rfl, ⟨q0, q1, _, _, _, _⟩, hdis, hb2⟩; have P2 := P1.block (hb2.block w.heap.size (by omega)); have R2 := R1.block (hb2.block (w.heap.size + 2) (by omega)); have B2 := B1.trans (hb2.mono B1.size); have z2 : w.heap.size + 3 ≤ w2.heap.size := (by have := hb2.size; omega)) | (refine wpList_store_cf rfl 47 (.tmp 3) (.tmp 21) rfl w.heap.size [.int .i64 d.wk, .bool d.up, .int .i64 d.now, .int .i64 d.sn, .int .i64 d.ep, .int .i64 d.gv, .slice h.a1 d.L1.length h.c1, .slice h.a2 d.L2.length h.c2, .slice h.ar d.R.length h.cr, .slice h.aj d.J.length h.cj, .slice h.az d.S.length h.cs, .slice h.ao d.O.length h.co] [.int .i64 d.wk, .bool d.up, .int .i64 d.now, .int .i64 d.sn, .int .i64 d.ep, .int .i64 d.gv, .slice a0_ d.L1.length c0_, .slice a1_ d.L2.length c1_, .slice a2_ d.R.length c2_, .slice a3_ d.J.length c3_, .slice a4_ d.S.length c4_, .slice a5_ d.O.length c5_] rfl rfl P2 rfl Tryz.sizeBo (one12b _ _ _ _ _ _ _ _ _ _ _ _ _ _ _ _ _ _ _ _ _ _ _ _) ?_; intro w3 P3 hg3))
    have R3 := R2.block (hg3.block (w.heap.size + 2) (by omega) (by intro hh; injection hh with hh; omega))
    have B3 := below_grown B2 hg3 (by omega) (fun q hq => by simp at hq; omega)
    have z3 : w.heap.size + 3 ≤ w3.heap.size := Nat.le_trans z2 hg3.size
    have q03 := (q0.grown hg3 (.inr (by intro hh; have := q0.row_lo _ hh; omega))).mono' z1
    have q13 := (q1.grown hg3 (.inr (by intro hh; have := q1.row_lo _ hh; omega))).mono' z1
    clear y0 y1 y2 y3 y4 y5 y6 y7 y8 y9 y10 y11 hdis hb2 P2 R2 B2 z2 hg3 q0 q1 P1 R1 B1
    obtain ⟨U, hU⟩ : ∃ U, U = w3.drew := ⟨_, rfl⟩
    have Pd : CF U w.heap.size [.int .i64 d.wk, .bool d.up, .int .i64 d.now, .int .i64 d.sn, .int .i64 d.ep, .int .i64 d.gv, .slice a0_ d.L1.length c0_, .slice a1_ d.L2.length c1_, .slice a2_ d.R.length c2_, .slice a3_ d.J.length c3_, .slice a4_ d.S.length c4_, .slice a5_ d.O.length c5_] := by rw [hU]; exact P3
    have Rd : CF U (w.heap.size + 2) zB := by rw [hU]; exact R3
    have Bd : Below w.heap.size w U := by rw [hU]; exact B3.drew
    have zd : w.heap.size + 3 ≤ U.heap.size := by rw [hU]; exact z3
    have q0d : Own (w.heap.size + 3) U 1 (.slice a0_ d.L1.length c0_) d.L1.length (d.L1.map Value.string) := by rw [hU]; exact q03.drewB
    have q1d : Own (w.heap.size + 3) U 1 (.slice a1_ d.L2.length c1_) d.L2.length (d.L2.map Value.string) := by rw [hU]; exact q13.drewB
    obtain ⟨bs, os, hst, _⟩ := q1d.statB h2.sz
    have hsl : ∃ xv, (∀ (ρ : Operand → Value) (o : Oper) (w : World) (x y : Operand), o.op = .slice 25 x none (some y) none → ρ x = .slice a1_ d.L2.length c1_ → ρ y = .int .i64 (K : Nat) → (execOp ρ o).run Tryz.prog w = .ok (.value xv) w) ∧ Src Tryz.prog 1 25 xv K ((d.L2.take K).map Value.string) U := by
      rcases q1d with ⟨hv, hn, _⟩ | ⟨g, og, cap, hv, hc⟩
      · injection hv with e1 e2 e3
        have hK0 : K = 0 := by omega
        refine ⟨.slice a1_ K 0, fun ρ o w x y ho hx hy => ?_, (hst.takeP K hKl).srcS 0⟩
        subst hK0
        rw [e1]
        refine run_sl0 x y ho ?_ hy
        rw [hx, e1, e2, e3]
      · injection hv with e1 _ e3
        refine ⟨.slice a1_ K cap, fun ρ o w x y ho hx hy => ?_, (hst.takeP K hKl).srcS cap⟩
        rw [e1]
        refine run_sl x y g og d.L2.length cap K (Nat.le_trans hKl hc.le) ho ?_ hy
        rw [hx, e1, e3]
    obtain ⟨xv, hsl, hsrc⟩ := hsl
    obtain ⟨v1, w4, hr1, ho4, hg4, _⟩ := run_append_c (P := Tryz.prog) U (w.heap.size + 3) 25 25 25 9 i0 (.string ⟨#[]⟩) 1 16 Tryz.underlying25 hi0 hz00 hz01 hz02 rfl _ d.L1.length _ q0d _ K _ hsrc (by unfold maxLen; omega) (by omega) zd
    rw [← List.map_append] at ho4
    obtain ⟨a', c', rfl⟩ := ho4.slc
    have hrow := q0d.row_lo
    have P4 := Pd.block (hg4.block w.heap.size (by omega) (fun e => by have := hrow _ e.symm; omega))
    have R4 := Rd.block (hg4.block (w.heap.size + 2) (by omega) (fun e => by have := hrow _ e.symm; omega))
    have B4 := below_grown Bd hg4 (by omega) (fun q hq => by have := hrow q hq; omega)
    have z4 : w.heap.size + 3 ≤ w4.heap.size := Nat.le_trans zd hg4.size
    obtain ⟨w5, hw5⟩ : ∃ w5, w5 = w4.setCells (w.heap.size + 2) 0 [.int .i64 d.wk, .bool false, .int .i64 d.now, .int .i64 0, .int .i64 0, .int .i64 0, .slice a' (d.L1.length + K) c', .slice none 0 0, .slice none 0 0, .slice none 0 0, .slice none 0 0, .slice none 0 0] := ⟨_, rfl⟩
    have P5f : w4.grownBy w5 (some (w.heap.size + 2)) := by rw [hw5]; exact grown_setCells _ _ _ _ _ (World.grownBy.refl _ _)
    have hc5 : CF w5 (w.heap.size + 2) [.int .i64 d.wk, .bool false, .int .i64 d.now, .int .i64 0, .int .i64 0, .int .i64 0, .slice a' (d.L1.length + K) c', .slice none 0 0, .slice none 0 0, .slice none 0 0, .slice none 0 0, .slice none 0 0] := by rw [hw5]; exact R4.stored rfl
    have P5 := P4.block (P5f.block w.heap.size (by omega) (by intro hh; injection hh with hh; omega))
    have ho5 := ho4.grown P5f (.inr (by intro hh; have := ho4.row_lo _ hh; omega))
    have B5 := below_grown B4 P5f (by omega) (fun q hq => by simp at hq; omega)
    have HO : Hid (BossO w5 w.heap.size (fallB d keep) ⟨a', none, none, none, none, none, c', 0, 0, 0, 0, 0⟩) := by
      have hl : (d.L1 ++ d.L2.take K).length = d.L1.length + K := by rw [List.length_append, List.length_take]; omega
      have := oneBO w5 w.heap.size d.wk d.now (d.L1 ++ d.L2.take K) a' c' (by rw [hl]; exact ho5.mono' (by omega))
      rw [HK.out] at this
      exact this
    have HB5 := hid B5
    have HL : Hid (d.L1.length + K = (fallB d keep).L1.length) := by show _ = (d.L1 ++ d.L2.take (keptN keep d.L2.length)).length; rw [← HK.out, List.length_append, List.length_take]; show _ = _; omega
    clear hst hsrc ho4 ho5 hg4 hrow Bd q0d q1d q03 q13 B3 P3 R3 z3 Rd B4 B5 P5f h1 h2 h3 h4 h5 h6 hsm hKl HK hT
    refine wp_region_held (S := fun w' => CF w' w.heap.size [.int .i64 d.wk, .bool d.up, .int .i64 d.now, .int .i64 d.sn, .int .i64 d.ep, .int .i64 d.gv, .slice a0_ d.L1.length c0_, .slice a1_ d.L2.length c1_, .slice a2_ d.R.length c2_, .slice a3_ d.J.length c3_, .slice a4_ d.S.length c4_, .slice a5_ d.O.length c5_]) (by kernel_rfl) ?_
    change wpAnyH _ _ _ _ _ _ _ _ (World.drew _)
    rw [← hU]
    clear hU
    refine hTake (i := 0) (d := some 22) (v := .pointer (some ⟨w.heap.size, 0, none⟩)) (l' := #[true, false, false, false, false, false, false, false, false, false, false, false, false, false, false, false]) rfl (by kernel_rfl) (by kernel_rfl) (by kernel_rfl) (by kernel_rfl) (fun _ _ _ h => h) (by kernel_rfl) (fun _ hc => by kernel_rfl) Pd (by kernel_rfl) ?_
    refine hTake (i := 1) (d := some 23) (v := .int .i64 d.wk) (l' := #[true, true, false, false, false, false, false, false, false, false, false, false, false, false, false, false]) rfl (by kernel_rfl) (by kernel_rfl) (by kernel_rfl) (by kernel_rfl) (fun _ _ _ h => h) (by kernel_rfl) (fun _ hc => run_ldI (.tmp 22) (by kernel_rfl) (by kernel_rfl) (hc 0 (by simp)).1) Pd (by kernel_rfl) ?_
    refine hTake (i := 2) (d := some 24) (v := .pointer (some ⟨w.heap.size, 2, none⟩)) (l' := #[true, true, true, false, false, false, false, false, false, false, false, false, false, false, false, false]) rfl (by kernel_rfl) (by kernel_rfl) (by kernel_rfl) (by kernel_rfl) (fun _ _ _ h => h) (by kernel_rfl) (fun _ hc => by kernel_rfl) Pd (by kernel_rfl) ?_
    refine hTake (i := 3) (d := some 25) (v := .int .i64 d.now) (l' := #[true, true, true, true, false, false, false, false, false, false, false, false, false, false, false, false]) rfl (by kernel_rfl) (by kernel_rfl) (by kernel_rfl) (by kernel_rfl) (fun _ _ _ h => h) (by kernel_rfl) (fun _ hc => run_ldI (.tmp 24) (by kernel_rfl) (by kernel_rfl) (hc 2 (by simp)).1) Pd (by kernel_rfl) ?_
    refine hTake (i := 4) (d := some 26) (v := .pointer (some ⟨w.heap.size, 6, none⟩)) (l' := #[true, true, true, true, true, false, false, false, false, false, false, false, false, false, false, false]) rfl (by kernel_rfl) (by kernel_rfl) (by kernel_rfl) (by kernel_rfl) (fun _ _ _ h => h) (by kernel_rfl) (fun _ hc => by kernel_rfl) Pd (by kernel_rfl) ?_
    refine hTake (i := 5) (d := some 27) (v := .pointer (some ⟨w.heap.size, 6, none⟩)) (l' := #[true, true, true, true, true, true, false, false, false, false, false, false, false, false, false, false]) rfl (by kernel_rfl) (by kernel_rfl) (by kernel_rfl) (by kernel_rfl) (fun _ _ _ h => h) (by kernel_rfl) (fun _ hc => by kernel_rfl) Pd (by kernel_rfl) ?_
    refine hTake (i := 6) (d := some 28) (v := .slice a0_ d.L1.length c0_) (l' := #[true, true, true, true, true, true, true, false, false, false, false, false, false, false, false, false]) rfl (by kernel_rfl) (by kernel_rfl) (by kernel_rfl) (by kernel_rfl) (fun _ _ _ h => h) (by kernel_rfl) (fun _ hc => run_ldss (.tmp 27) (by kernel_rfl) (by kernel_rfl) (hc 6 (by simp)).1) Pd (by kernel_rfl) ?_
    refine hTake (i := 7) (d := some 29) (v := .pointer (some ⟨w.heap.size, 6, none⟩)) (l' := #[true, true, true, true, true, true, true, true, false, false, false, false, false, false, false, false]) rfl (by kernel_rfl) (by kernel_rfl) (by kernel_rfl) (by kernel_rfl) (fun _ _ _ h => h) (by kernel_rfl) (fun _ hc => by kernel_rfl) Pd (by kernel_rfl) ?_
    refine hTake (i := 8) (d := some 30) (v := .pointer (some ⟨w.heap.size, 7, none⟩)) (l' := #[true, true, true, true, true, true, true, true, true, false, false, false, false, false, false, false]) rfl (by kernel_rfl) (by kernel_rfl) (by kernel_rfl) (by kernel_rfl) (fun _ _ _ h => h) (by kernel_rfl) (fun _ hc => by kernel_rfl) Pd (by kernel_rfl) ?_
    refine hTake (i := 9) (d := some 31) (v := .slice a1_ d.L2.length c1_) (l' := #[true, true, true, true, true, true, true, true, true, true, false, false, false, false, false, false]) rfl (by kernel_rfl) (by kernel_rfl) (by kernel_rfl) (by kernel_rfl) (fun _ _ _ h => h) (by kernel_rfl) (fun _ hc => run_ldss (.tmp 30) (by kernel_rfl) (by kernel_rfl) (hc 7 (by simp)).1) Pd (by kernel_rfl) ?_
    refine hTake (i := 10) (d := some 32) (v := .int .i64 (K : Nat)) (l' := #[true, true, true, true, true, true, true, true, true, true, true, false, false, false, false, false]) rfl (by kernel_rfl) (by kernel_rfl) (by kernel_rfl) (by kernel_rfl) (fun _ _ _ h => h) (by kernel_rfl) (fun _ hc => by kernel_rfl) Pd (by kernel_rfl) ?_
    refine hTake (i := 11) (d := some 33) (v := xv) (l' := #[true, true, true, true, true, true, true, true, true, true, true, true, false, false, false, false]) rfl (by kernel_rfl) (by kernel_rfl) (by kernel_rfl) (by kernel_rfl) (fun _ _ _ h => h) (by kernel_rfl) (fun _ hc => hsl _ _ _ (.tmp 31) (.tmp 32) (by kernel_rfl) (by kernel_rfl) (by kernel_rfl)) Pd (by kernel_rfl) ?_
    refine hOne (i := 12) (by kernel_rfl) (hVal (i := 12) (d := some 34) (v := .slice a' (d.L1.length + K) c') (w' := w4) (l' := #[true, true, true, true, true, true, true, true, true, true, true, true, true, false, false, false]) rfl (by kernel_rfl) (by kernel_rfl) (by kernel_rfl) (run_app (.tmp 28) (.tmp 33) 25 25 (by kernel_rfl) (by kernel_rfl) (by kernel_rfl) (by kernel_rfl) hr1) P4 ?_)
    refine hTake (i := 13) (d := some 35) (v := .agg #[.slice a' (d.L1.length + K) c', .slice none 0 0]) (l' := #[true, true, true, true, true, true, true, true, true, true, true, true, true, true, false, false]) rfl (by kernel_rfl) (by kernel_rfl) (by kernel_rfl) (by kernel_rfl) (fun _ _ _ h => h) (by kernel_rfl) (fun _ hc => run_b42 (.tmp 34) (by kernel_rfl) (by kernel_rfl)) P4 (by kernel_rfl) ?_
    refine hTake (i := 14) (d := some 36) (v := .agg #[.int .i64 d.wk, .bool false, .int .i64 d.now, .int .i64 0, .int .i64 0, .int .i64 0, .slice a' (d.L1.length + K) c', .slice none 0 0, .slice none 0 0, .slice none 0 0, .slice none 0 0, .slice none 0 0]) (l' := #[true, true, true, true, true, true, true, true, true, true, true, true, true, true, true, false]) rfl (by kernel_rfl) (by kernel_rfl) (by kernel_rfl) (by kernel_rfl) (fun _ _ _ h => h) (by kernel_rfl) (fun _ hc => run_b47 (.tmp 23) (.tmp 25) (.tmp 35) (by kernel_rfl) (by kernel_rfl) (by kernel_rfl) (by kernel_rfl)) P4 (by kernel_rfl) ?_
    refine hOne (i := 15) (by kernel_rfl) (hSkip (i := 15) (w' := w5) (l' := #[true, true, true, true, true, true, true, true, true, true, true, true, true, true, true, true]) rfl (by kernel_rfl) (by kernel_rfl) (by kernel_rfl) (by rw [hw5]; exact run_stT 47 zB [.int .i64 d.wk, .bool false, .int .i64 d.now, .int .i64 0, .int .i64 0, .int .i64 0, .slice a' (d.L1.length + K) c', .slice none 0 0, .slice none 0 0, .slice none 0 0, .slice none 0 0, .slice none 0 0] (.tmp 6) (.tmp 36) (by kernel_rfl) (by kernel_rfl) (by kernel_rfl) R4 rfl Tryz.sizeBo (one12b _ _ _ _ _ _ _ _ _ _ _ _ _ _ _ _ _ _ _ _ _ _ _ _)) P5 ?_)
    have k0 : w5.cell? ⟨w.heap.size + 2, 0, none⟩ = some (.int .i64 d.wk) := (hc5 0 (by simp)).1
    have k1 : w5.cell? ⟨w.heap.size + 2, 1, none⟩ = some (.bool false) := (hc5 1 (by simp)).1
    have k2 : w5.cell? ⟨w.heap.size + 2, 2, none⟩ = some (.int .i64 d.now) := (hc5 2 (by simp)).1
    have k3 : w5.cell? ⟨w.heap.size + 2, 3, none⟩ = some (.int .i64 0) := (hc5 3 (by simp)).1
    have k4 : w5.cell? ⟨w.heap.size + 2, 4, none⟩ = some (.int .i64 0) := (hc5 4 (by simp)).1
    have k5 : w5.cell? ⟨w.heap.size + 2, 5, none⟩ = some (.int .i64 0) := (hc5 5 (by simp)).1
    have k6 : w5.cell? ⟨w.heap.size + 2, 6, none⟩ = some (.slice a' (d.L1.length + K) c') := (hc5 6 (by simp)).1
    have k7 : w5.cell? ⟨w.heap.size + 2, 7, none⟩ = some (.slice none 0 0) := (hc5 7 (by simp)).1
    have k8 : w5.cell? ⟨w.heap.size + 2, 8, none⟩ = some (.slice none 0 0) := (hc5 8 (by simp)).1
    have k9 : w5.cell? ⟨w.heap.size + 2, 9, none⟩ = some (.slice none 0 0) := (hc5 9 (by simp)).1
    have k10 : w5.cell? ⟨w.heap.size + 2, 10, none⟩ = some (.slice none 0 0) := (hc5 10 (by simp)).1
    have k11 : w5.cell? ⟨w.heap.size + 2, 11, none⟩ = some (.slice none 0 0) := (hc5 11 (by simp)).1
    refine wpAnyH_done (by kernel_rfl) ?_ _
    go_wp2
    refine bodyPost_ret (v := .agg #[.int .i64 d.wk, .bool false, .int .i64 d.now, .int .i64 0, .int .i64 0, .int .i64 0, .slice a' (d.L1.length + K) c', .slice none 0 0, .slice none 0 0, .slice none 0 0, .slice none 0 0, .slice none 0 0]) (by simp [results, Tryz.results21, go_sem, k0, k1, k2, k3, k4, k5, k6, k7, k8, k9, k10, k11]) rfl ⟨⟨fallB d keep, ⟨_, ?_, HO.out⟩, .inl ⟨HV.out, rfl⟩⟩, HB5.out⟩
    rw [HL.out]; rfl

end Go.Proofs.YthopfmhagddhgaaGreat

namespace Go.Proofs.YthopfmhagddhgaaGreat
open Go.RowKit

theorem Tryz.sizeLo : (Tryz.prog.info? 42).map (·.size) = some 2 := by kernel_rfl
theorem bsOwn (w : World) (B : Nat) (h : B ≤ w.heap.size) : Own B (w.alloc (.cells #[] 9)) 1 (.slice (some ⟨w.heap.size, 0, none⟩) 0 0) 0 [] :=
  .inr ⟨_, 0, 0, rfl, OwnC.made w B 9 1 0 0 _ 0 h (Nat.le_refl _) (by unfold maxLen; omega) rfl (Nat.le_refl _) _ rfl _ (.inl rfl)⟩
/-- What holds all along: the box, the answer's box. -/
structure LJ (w : World) (a1 : Option Addr) (n1 ca : Nat) (a2 : Option Addr) (n2 cb : Nat) (w' : World) : Prop where
  p : CF w' w.heap.size [.slice a1 n1 ca, .slice a2 n2 cb]
  r : CF w' (w.heap.size + 1) [.slice none 0 0, .slice none 0 0]
  b : Below w.heap.size w w'
  z : w.heap.size + 2 ≤ w'.heap.size
theorem LJ.alloc {w : World} {a1 : Option Addr} {n1 ca : Nat} {a2 : Option Addr} {n2 cb : Nat} {w' : World} (h : LJ w a1 n1 ca a2 n2 cb w') (ob : Obj) : LJ w a1 n1 ca a2 n2 cb (w'.alloc ob) :=
  ⟨h.p.block (Below.heap_alloc _ _ _ (by have := h.z; omega)), h.r.block (Below.heap_alloc _ _ _ (by have := h.z; omega)), h.b.alloc h.b.size ob, by have := h.z; simp; omega⟩
theorem LJ.grown {w : World} {a1 : Option Addr} {n1 ca : Nat} {a2 : Option Addr} {n2 cb : Nat} {w' w'' : World} {row : Option Nat} (h : LJ w a1 n1 ca a2 n2 cb w') (hg : w'.grownBy w'' row) (hr : ∀ q, row = some q → w.heap.size + 2 ≤ q) : LJ w a1 n1 ca a2 n2 cb w'' :=
  ⟨h.p.block (hg.block _ (by have := h.z; omega) (fun e => by have := hr _ e.symm; omega)), h.r.block (hg.block _ (by have := h.z; omega) (fun e => by have := hr _ e.symm; omega)), below_grown h.b hg (by have := h.z; omega) (fun q hq => by have := hr q hq; omega), Nat.le_trans h.z hg.size⟩
theorem app0 (w U : World) (B : Nat) (hb : Below w.heap.size w U) (hB : B ≤ U.heap.size) {a : Option Addr} {b o n : Nat} {L : List ByteArray} (c : Nat) (h : StrsAt w a b o n L) (hn : n ≤ 1048576) {v : Value} (hv : Own B U 1 v 0 []) :
    ∃ a' c' w', (Builtin.append_ #[25, 25] 25 #[v, .slice a n c]).run Tryz.prog U = .ok (.slice a' n c') w' ∧ Own B w' 1 (.slice a' n c') n (L.map Value.string) ∧ U.grownBy w' v.ownBlock ∧ ((Value.slice a' n c').ownBlock = v.ownBlock ∨ (Value.slice a' n c').ownBlock = some U.heap.size) := by
  obtain ⟨i0, hi0, hz00, hz01, hz02⟩ := info_parts Tryz.infoSt
  obtain ⟨v', w', hr, ho, hg, hk⟩ := run_append_c (P := Tryz.prog) U B 25 25 25 9 i0 (.string ⟨#[]⟩) 1 16 Tryz.underlying25 hi0 hz00 hz01 hz02 rfl _ 0 _ hv _ n _ ((h.below' hb).srcS c) (by unfold maxLen; omega) (by omega) hB
  rw [Nat.zero_add, List.nil_append] at ho
  obtain ⟨a', c', rfl⟩ := ho.slc
  exact ⟨a', c', w', hr, ho, hg, hk⟩
theorem run_b42b {ρ : Operand → Value} {o : Oper} {w : World} {a : Option Addr} {n c : Nat} {a' : Option Addr} {n' c' : Nat} (x y : Operand) (h : o.op = .build 42 #[(0, x), (1, y)]) (hx : ρ x = .slice a n c) (hy : ρ y = .slice a' n' c') : (execOp ρ o).run Tryz.prog w = .ok (.value (.agg #[.slice a n c, .slice a' n' c'])) w := by
  unfold execOp
  rw [h]
  simp [go_sem, hx, hy]
theorem one2 (a a' : Option Addr) (n c n' c' : Nat) : ∀ v ∈ [Value.slice a n c, .slice a' n' c'], v.oneCell' = true := by
  intro v hv
  simp only [List.mem_cons, List.not_mem_nil, or_false] at hv
  rcases hv with rfl | rfl <;> rfl

set_option maxHeartbeats 4000000 in
set_option maxRecDepth 100000 in
theorem l4Log_any (a1 a2 : Option Addr) (b1 o1 n1 ca b2 o2 n2 cb : Nat) (L1 L2 : List ByteArray) (w : World) (h1 : StrsAt w a1 b1 o1 n1 L1) (h2 : StrsAt w a2 b2 o2 n2 L2) (m1 : n1 ≤ 1048576) (m2 : n2 ≤ 1048576) :
    Calls Tryz.prog 104 #[.agg #[.slice a1 n1 ca, .slice a2 n2 cb]] w fun e w' => ∃ a0_ c0_ a1_ c1_, e = .returned (.agg #[.slice a0_ n1 c0_, .slice a1_ n2 c1_]) ∧ Own w.heap.size w' 1 (.slice a0_ n1 c0_) n1 (L1.map Value.string) ∧ Own w.heap.size w' 1 (.slice a1_ n2 c1_) n2 (L2.map Value.string) ∧ Dj (Value.slice a0_ n1 c0_).ownBlock (Value.slice a1_ n2 c1_).ownBlock ∧ Below w.heap.size w w' := by
  obtain ⟨W, hW⟩ : ∃ W, W = (w.alloc (.cells #[.slice a1 n1 ca, .slice a2 n2 cb] 42)).alloc (.cells #[.slice none 0 0, .slice none 0 0] 42) := ⟨_, rfl⟩
  have J0 : LJ w a1 n1 ca a2 n2 cb W.drew := by
    rw [hW]
    refine ⟨(CF.made w #[.slice a1 n1 ca, .slice a2 n2 cb] 42).block (Below.heap_alloc _ _ _ (by simp)), ?_, (((Below.refl _ _).alloc (Nat.le_refl _) _).alloc (by simp) _).drew, ?_⟩
    · have := CF.made (w.alloc (.cells #[.slice a1 n1 ca, .slice a2 n2 cb] 42)) #[.slice none 0 0, .slice none 0 0] 42
      rw [World.size_alloc] at this
      exact this
    · show _ ≤ (World.alloc _ _).heap.size; simp
  have HW := hid hW
  clear hW
  go_enter Tryz.func104, Tryz.ntmps104
  go_upto_region 1 with fail
  rw [← HW.out]
  clear HW
  refine wp_region_held (S := fun w' => CF w' w.heap.size [.slice a1 n1 ca, .slice a2 n2 cb]) (by kernel_rfl) ?_
  change wpAnyH _ _ _ _ _ _ _ _ (World.drew _)
  obtain ⟨U, hU⟩ : ∃ U, U = W.drew := ⟨_, rfl⟩
  rw [← hU] at J0
  rw [← hU]
  clear hU
  refine hTake (i := 1) (d := some 4) (v := .pointer (some ⟨w.heap.size, 0, none⟩)) (l' := #[false, true, false, false, false, false, false, false, false, false]) rfl (by kernel_rfl) (by kernel_rfl) (by kernel_rfl) (by kernel_rfl) (fun _ _ _ h => h) (by kernel_rfl) (fun _ hc => by kernel_rfl) J0.p (by kernel_rfl) ?_
  refine hTake (i := 2) (d := some 5) (v := .slice a1 n1 ca) (l' := #[false, true, true, false, false, false, false, false, false, false]) rfl (by kernel_rfl) (by kernel_rfl) (by kernel_rfl) (by kernel_rfl) (fun _ _ _ h => h) (by kernel_rfl) (fun _ hc => run_ldss (.tmp 4) (by kernel_rfl) (by kernel_rfl) (hc 0 (by simp)).1) J0.p (by kernel_rfl) ?_
  refine hTake (i := 5) (d := some 8) (v := .pointer (some ⟨w.heap.size, 1, none⟩)) (l' := #[false, true, true, false, false, true, false, false, false, false]) rfl (by kernel_rfl) (by kernel_rfl) (by kernel_rfl) (by kernel_rfl) (fun _ _ _ h => h) (by kernel_rfl) (fun _ hc => by kernel_rfl) J0.p (by kernel_rfl) ?_
  refine hTake (i := 6) (d := some 9) (v := .slice a2 n2 cb) (l' := #[false, true, true, false, false, true, true, false, false, false]) rfl (by kernel_rfl) (by kernel_rfl) (by kernel_rfl) (by kernel_rfl) (fun _ _ _ h => h) (by kernel_rfl) (fun _ hc => run_ldss (.tmp 8) (by kernel_rfl) (by kernel_rfl) (hc 1 (by simp)).1) J0.p (by kernel_rfl) ?_
  refine hTwo (i := 0) (j := 4) (by kernel_rfl) (hVal (i := 0) (d := some 3) (v := .slice (some ⟨U.heap.size, 0, none⟩) 0 0) (w' := U.alloc (.cells #[] 9)) (l' := #[true, true, true, false, false, true, true, false, false, false]) rfl (by kernel_rfl) (by kernel_rfl) (by kernel_rfl) (run_bs0 (by kernel_rfl)) (J0.alloc (.cells #[] 9)).p ?_) (hVal (i := 4) (d := some 7) (v := .slice (some ⟨U.heap.size, 0, none⟩) 0 0) (w' := U.alloc (.cells #[] 9)) (l' := #[false, true, true, false, true, true, true, false, false, false]) rfl (by kernel_rfl) (by kernel_rfl) (by kernel_rfl) (run_bs0 (by kernel_rfl)) (J0.alloc (.cells #[] 9)).p ?_)
  · have J1 := J0.alloc (.cells #[] 9)
    have own1 := bsOwn U (w.heap.size + 2) J0.z
    have zz1 : (U.alloc (.cells #[] 9)).heap.size = U.heap.size + 1 := by simp
    obtain ⟨A1, hA1⟩ : ∃ V, V = U.alloc (.cells #[] 9) := ⟨_, rfl⟩
    rw [← hA1] at J1 own1 zz1
    rw [← hA1]
    clear hA1
    obtain ⟨p2_, t2_, w2, hr2, ho2, hg2, hk2⟩ := app0 w A1 (w.heap.size + 2) J1.b J1.z ca h1 m1 own1
    have J2 := J1.grown hg2 (fun q hq => own1.row_lo q hq)
    refine hTwo (i := 3) (j := 4) (by kernel_rfl) (hVal (i := 3) (d := some 6) (v := .slice p2_ n1 t2_) (w' := w2) (l' := #[true, true, true, true, false, true, true, false, false, false]) rfl (by kernel_rfl) (by kernel_rfl) (by kernel_rfl) (run_app (.tmp 3) (.tmp 5) 25 25 (by kernel_rfl) (by kernel_rfl) (by kernel_rfl) (by kernel_rfl) hr2) J2.p ?_) (hVal (i := 4) (d := some 7) (v := .slice (some ⟨A1.heap.size, 0, none⟩) 0 0) (w' := A1.alloc (.cells #[] 9)) (l' := #[true, true, true, false, true, true, true, false, false, false]) rfl (by kernel_rfl) (by kernel_rfl) (by kernel_rfl) (run_bs0 (by kernel_rfl)) (J1.alloc (.cells #[] 9)).p ?_)
    · refine hOne (i := 4) (by kernel_rfl) (hVal (i := 4) (d := some 7) (v := .slice (some ⟨w2.heap.size, 0, none⟩) 0 0) (w' := w2.alloc (.cells #[] 9)) (l' := #[true, true, true, true, true, true, true, false, false, false]) rfl (by kernel_rfl) (by kernel_rfl) (by kernel_rfl) (run_bs0 (by kernel_rfl)) (J2.alloc (.cells #[] 9)).p ?_)
      have J3 := J2.alloc (.cells #[] 9)
      have own3 := bsOwn w2 (w.heap.size + 2) J2.z
      have zz3 : (w2.alloc (.cells #[] 9)).heap.size = w2.heap.size + 1 := by simp
      have v03 := ho2.alloc (.cells #[] 9)
      obtain ⟨A3, hA3⟩ : ∃ V, V = w2.alloc (.cells #[] 9) := ⟨_, rfl⟩
      rw [← hA3] at J3 own3 zz3 v03
      rw [← hA3]
      clear hA3
      have hh7 := v03.row_hi
      have DD : Dj (Value.slice p2_ n1 t2_).ownBlock (Value.slice (some ⟨w2.heap.size, 0, none⟩) 0 0).ownBlock := by
        cases hq : (Value.slice p2_ n1 t2_).ownBlock with
        | none => exact .inl rfl
        | some q => exact .inr (by have h5 := ho2.row_hi q hq; simp [Value.ownBlock]; omega)
      obtain ⟨p4_, t4_, w4, hr4, ho4, hg4, hk4⟩ := app0 w A3 (w.heap.size + 2) J3.b J3.z cb h2 m2 own3
      have J4 := J3.grown hg4 (fun q hq => own3.row_lo q hq)
      refine hOne (i := 7) (by kernel_rfl) (hVal (i := 7) (d := some 10) (v := .slice p4_ n2 t4_) (w' := w4) (l' := #[true, true, true, true, true, true, true, true, false, false]) rfl (by kernel_rfl) (by kernel_rfl) (by kernel_rfl) (run_app (.tmp 7) (.tmp 9) 25 25 (by kernel_rfl) (by kernel_rfl) (by kernel_rfl) (by kernel_rfl) hr4) J4.p ?_)
      have v04 := v03.grown hg4 DD
      have DF : Dj (Value.slice p2_ n1 t2_).ownBlock (Value.slice p4_ n2 t4_).ownBlock := by
        rcases hk4 with e | e
        · rw [e]; exact DD
        · exact Dj.new hh7 (.inr e)
      refine hTake (i := 8) (d := some 11) (v := .agg #[.slice p2_ n1 t2_, .slice p4_ n2 t4_]) (l' := #[true, true, true, true, true, true, true, true, true, false]) rfl (by kernel_rfl) (by kernel_rfl) (by kernel_rfl) (by kernel_rfl) (fun _ _ _ h => h) (by kernel_rfl) (fun _ hc => run_b42b (.tmp 6) (.tmp 10) (by kernel_rfl) (by kernel_rfl) (by kernel_rfl)) J4.p (by kernel_rfl) ?_
      obtain ⟨wf, hwf⟩ : ∃ wf, wf = w4.setCells (w.heap.size + 1) 0 [.slice p2_ n1 t2_, .slice p4_ n2 t4_] := ⟨_, rfl⟩
      have gf : w4.grownBy wf (some (w.heap.size + 1)) := by rw [hwf]; exact grown_setCells _ _ _ _ _ (World.grownBy.refl _ _)
      have cf : CF wf (w.heap.size + 1) [.slice p2_ n1 t2_, .slice p4_ n2 t4_] := by rw [hwf]; exact J4.r.stored rfl
      have zf := J4.z
      have pf := J4.p.block (gf.block w.heap.size (by omega) (by intro hh; injection hh with hh; omega))
      refine hOne (i := 9) (by kernel_rfl) (hSkip (i := 9) (w' := wf) (l' := #[true, true, true, true, true, true, true, true, true, true]) rfl (by kernel_rfl) (by kernel_rfl) (by kernel_rfl) (by rw [hwf]; exact run_stT 42 [.slice none 0 0, .slice none 0 0] [.slice p2_ n1 t2_, .slice p4_ n2 t4_] (.tmp 2) (.tmp 11) (by kernel_rfl) (by kernel_rfl) (by kernel_rfl) J4.r rfl Tryz.sizeLo (one2 _ _ _ _ _ _)) pf ?_)
      have k0 : wf.cell? ⟨w.heap.size + 1, 0, none⟩ = some (.slice p2_ n1 t2_) := (cf 0 (by simp)).1
      have k1 : wf.cell? ⟨w.heap.size + 1, 1, none⟩ = some (.slice p4_ n2 t4_) := (cf 1 (by simp)).1
      refine wpAnyH_done (by kernel_rfl) ?_ _
      go_wp2
      exact bodyPost_ret (v := .agg #[.slice p2_ n1 t2_, .slice p4_ n2 t4_]) (by simp [results, Tryz.results104, go_sem, k0, k1]) rfl ⟨_, _, _, _, rfl, (v04.grown gf (.inr (by intro hh; have := v04.row_lo _ hh; omega))).mono' (by omega), (ho4.grown gf (.inr (by intro hh; have := ho4.row_lo _ hh; omega))).mono' (by omega), DF, below_grown J4.b gf (by omega) (fun q hq => by simp at hq; omega)⟩
    · have J5 := J1.alloc (.cells #[] 9)
      have own5 := bsOwn A1 (w.heap.size + 2) J1.z
      have zz5 : (A1.alloc (.cells #[] 9)).heap.size = A1.heap.size + 1 := by simp
      have v05 := own1.alloc (.cells #[] 9)
      obtain ⟨A5, hA5⟩ : ∃ V, V = A1.alloc (.cells #[] 9) := ⟨_, rfl⟩
      rw [← hA5] at J5 own5 zz5 v05
      rw [← hA5]
      clear hA5
      obtain ⟨p6_, t6_, w6, hr6, ho6, hg6, hk6⟩ := app0 w A5 (w.heap.size + 2) J5.b J5.z ca h1 m1 v05
      have J6 := J5.grown hg6 (fun q hq => v05.row_lo q hq)
      refine hOne (i := 3) (by kernel_rfl) (hVal (i := 3) (d := some 6) (v := .slice p6_ n1 t6_) (w' := w6) (l' := #[true, true, true, true, true, true, true, false, false, false]) rfl (by kernel_rfl) (by kernel_rfl) (by kernel_rfl) (run_app (.tmp 3) (.tmp 5) 25 25 (by kernel_rfl) (by kernel_rfl) (by kernel_rfl) (by kernel_rfl) hr6) J6.p ?_)
      have v16 := own5.grown hg6 (.inr (by simp [Value.ownBlock]; omega))
      have hh7 := ho6.row_hi
      have DD : Dj (Value.slice p6_ n1 t6_).ownBlock (Value.slice (some ⟨A1.heap.size, 0, none⟩) 0 0).ownBlock := by
        rcases hk6 with e | e
        · rw [e]; exact .inr (by simp [Value.ownBlock]; omega)
        · rw [e]; exact .inr (by simp [Value.ownBlock]; omega)
      obtain ⟨p7_, t7_, w7, hr7, ho7, hg7, hk7⟩ := app0 w w6 (w.heap.size + 2) J6.b J6.z cb h2 m2 v16
      have J7 := J6.grown hg7 (fun q hq => v16.row_lo q hq)
      refine hOne (i := 7) (by kernel_rfl) (hVal (i := 7) (d := some 10) (v := .slice p7_ n2 t7_) (w' := w7) (l' := #[true, true, true, true, true, true, true, true, false, false]) rfl (by kernel_rfl) (by kernel_rfl) (by kernel_rfl) (run_app (.tmp 7) (.tmp 9) 25 25 (by kernel_rfl) (by kernel_rfl) (by kernel_rfl) (by kernel_rfl) hr7) J7.p ?_)
      have v07 := ho6.grown hg7 DD
      have DF : Dj (Value.slice p6_ n1 t6_).ownBlock (Value.slice p7_ n2 t7_).ownBlock := by
        rcases hk7 with e | e
        · rw [e]; exact DD
        · exact Dj.new hh7 (.inr e)
      refine hTake (i := 8) (d := some 11) (v := .agg #[.slice p6_ n1 t6_, .slice p7_ n2 t7_]) (l' := #[true, true, true, true, true, true, true, true, true, false]) rfl (by kernel_rfl) (by kernel_rfl) (by kernel_rfl) (by kernel_rfl) (fun _ _ _ h => h) (by kernel_rfl) (fun _ hc => run_b42b (.tmp 6) (.tmp 10) (by kernel_rfl) (by kernel_rfl) (by kernel_rfl)) J7.p (by kernel_rfl) ?_
      obtain ⟨wf, hwf⟩ : ∃ wf, wf = w7.setCells (w.heap.size + 1) 0 [.slice p6_ n1 t6_, .slice p7_ n2 t7_] := ⟨_, rfl⟩
      have gf : w7.grownBy wf (some (w.heap.size + 1)) := by rw [hwf]; exact grown_setCells _ _ _ _ _ (World.grownBy.refl _ _)
      have cf : CF wf (w.heap.size + 1) [.slice p6_ n1 t6_, .slice p7_ n2 t7_] := by rw [hwf]; exact J7.r.stored rfl
      have zf := J7.z
      have pf := J7.p.block (gf.block w.heap.size (by omega) (by intro hh; injection hh with hh; omega))
      refine hOne (i := 9) (by kernel_rfl) (hSkip (i := 9) (w' := wf) (l' := #[true, true, true, true, true, true, true, true, true, true]) rfl (by kernel_rfl) (by kernel_rfl) (by kernel_rfl) (by rw [hwf]; exact run_stT 42 [.slice none 0 0, .slice none 0 0] [.slice p6_ n1 t6_, .slice p7_ n2 t7_] (.tmp 2) (.tmp 11) (by kernel_rfl) (by kernel_rfl) (by kernel_rfl) J7.r rfl Tryz.sizeLo (one2 _ _ _ _ _ _)) pf ?_)
      have k0 : wf.cell? ⟨w.heap.size + 1, 0, none⟩ = some (.slice p6_ n1 t6_) := (cf 0 (by simp)).1
      have k1 : wf.cell? ⟨w.heap.size + 1, 1, none⟩ = some (.slice p7_ n2 t7_) := (cf 1 (by simp)).1
      refine wpAnyH_done (by kernel_rfl) ?_ _
      go_wp2
      exact bodyPost_ret (v := .agg #[.slice p6_ n1 t6_, .slice p7_ n2 t7_]) (by simp [results, Tryz.results104, go_sem, k0, k1]) rfl ⟨_, _, _, _, rfl, (v07.grown gf (.inr (by intro hh; have := v07.row_lo _ hh; omega))).mono' (by omega), (ho7.grown gf (.inr (by intro hh; have := ho7.row_lo _ hh; omega))).mono' (by omega), DF, below_grown J7.b gf (by omega) (fun q hq => by simp at hq; omega)⟩
  · have J8 := J0.alloc (.cells #[] 9)
    have own8 := bsOwn U (w.heap.size + 2) J0.z
    have zz8 : (U.alloc (.cells #[] 9)).heap.size = U.heap.size + 1 := by simp
    obtain ⟨A8, hA8⟩ : ∃ V, V = U.alloc (.cells #[] 9) := ⟨_, rfl⟩
    rw [← hA8] at J8 own8 zz8
    rw [← hA8]
    clear hA8
    refine hOne (i := 0) (by kernel_rfl) (hVal (i := 0) (d := some 3) (v := .slice (some ⟨A8.heap.size, 0, none⟩) 0 0) (w' := A8.alloc (.cells #[] 9)) (l' := #[true, true, true, false, true, true, true, false, false, false]) rfl (by kernel_rfl) (by kernel_rfl) (by kernel_rfl) (run_bs0 (by kernel_rfl)) (J8.alloc (.cells #[] 9)).p ?_)
    have J9 := J8.alloc (.cells #[] 9)
    have own9 := bsOwn A8 (w.heap.size + 2) J8.z
    have zz9 : (A8.alloc (.cells #[] 9)).heap.size = A8.heap.size + 1 := by simp
    have v19 := own8.alloc (.cells #[] 9)
    obtain ⟨A9, hA9⟩ : ∃ V, V = A8.alloc (.cells #[] 9) := ⟨_, rfl⟩
    rw [← hA9] at J9 own9 zz9 v19
    rw [← hA9]
    clear hA9
    obtain ⟨p10_, t10_, w10, hr10, ho10, hg10, hk10⟩ := app0 w A9 (w.heap.size + 2) J9.b J9.z ca h1 m1 own9
    have J10 := J9.grown hg10 (fun q hq => own9.row_lo q hq)
    refine hOne (i := 3) (by kernel_rfl) (hVal (i := 3) (d := some 6) (v := .slice p10_ n1 t10_) (w' := w10) (l' := #[true, true, true, true, true, true, true, false, false, false]) rfl (by kernel_rfl) (by kernel_rfl) (by kernel_rfl) (run_app (.tmp 3) (.tmp 5) 25 25 (by kernel_rfl) (by kernel_rfl) (by kernel_rfl) (by kernel_rfl) hr10) J10.p ?_)
    have v110 := v19.grown hg10 (.inr (by simp [Value.ownBlock]; omega))
    have hh7 := ho10.row_hi
    have DD : Dj (Value.slice p10_ n1 t10_).ownBlock (Value.slice (some ⟨U.heap.size, 0, none⟩) 0 0).ownBlock := by
      rcases hk10 with e | e
      · rw [e]; exact .inr (by simp [Value.ownBlock]; omega)
      · rw [e]; exact .inr (by simp [Value.ownBlock]; omega)
    obtain ⟨p11_, t11_, w11, hr11, ho11, hg11, hk11⟩ := app0 w w10 (w.heap.size + 2) J10.b J10.z cb h2 m2 v110
    have J11 := J10.grown hg11 (fun q hq => v110.row_lo q hq)
    refine hOne (i := 7) (by kernel_rfl) (hVal (i := 7) (d := some 10) (v := .slice p11_ n2 t11_) (w' := w11) (l' := #[true, true, true, true, true, true, true, true, false, false]) rfl (by kernel_rfl) (by kernel_rfl) (by kernel_rfl) (run_app (.tmp 7) (.tmp 9) 25 25 (by kernel_rfl) (by kernel_rfl) (by kernel_rfl) (by kernel_rfl) hr11) J11.p ?_)
    have v011 := ho10.grown hg11 DD
    have DF : Dj (Value.slice p10_ n1 t10_).ownBlock (Value.slice p11_ n2 t11_).ownBlock := by
      rcases hk11 with e | e
      · rw [e]; exact DD
      · exact Dj.new hh7 (.inr e)
    refine hTake (i := 8) (d := some 11) (v := .agg #[.slice p10_ n1 t10_, .slice p11_ n2 t11_]) (l' := #[true, true, true, true, true, true, true, true, true, false]) rfl (by kernel_rfl) (by kernel_rfl) (by kernel_rfl) (by kernel_rfl) (fun _ _ _ h => h) (by kernel_rfl) (fun _ hc => run_b42b (.tmp 6) (.tmp 10) (by kernel_rfl) (by kernel_rfl) (by kernel_rfl)) J11.p (by kernel_rfl) ?_
    obtain ⟨wf, hwf⟩ : ∃ wf, wf = w11.setCells (w.heap.size + 1) 0 [.slice p10_ n1 t10_, .slice p11_ n2 t11_] := ⟨_, rfl⟩
    have gf : w11.grownBy wf (some (w.heap.size + 1)) := by rw [hwf]; exact grown_setCells _ _ _ _ _ (World.grownBy.refl _ _)
    have cf : CF wf (w.heap.size + 1) [.slice p10_ n1 t10_, .slice p11_ n2 t11_] := by rw [hwf]; exact J11.r.stored rfl
    have zf := J11.z
    have pf := J11.p.block (gf.block w.heap.size (by omega) (by intro hh; injection hh with hh; omega))
    refine hOne (i := 9) (by kernel_rfl) (hSkip (i := 9) (w' := wf) (l' := #[true, true, true, true, true, true, true, true, true, true]) rfl (by kernel_rfl) (by kernel_rfl) (by kernel_rfl) (by rw [hwf]; exact run_stT 42 [.slice none 0 0, .slice none 0 0] [.slice p10_ n1 t10_, .slice p11_ n2 t11_] (.tmp 2) (.tmp 11) (by kernel_rfl) (by kernel_rfl) (by kernel_rfl) J11.r rfl Tryz.sizeLo (one2 _ _ _ _ _ _)) pf ?_)
    have k0 : wf.cell? ⟨w.heap.size + 1, 0, none⟩ = some (.slice p10_ n1 t10_) := (cf 0 (by simp)).1
    have k1 : wf.cell? ⟨w.heap.size + 1, 1, none⟩ = some (.slice p11_ n2 t11_) := (cf 1 (by simp)).1
    refine wpAnyH_done (by kernel_rfl) ?_ _
    go_wp2
    exact bodyPost_ret (v := .agg #[.slice p10_ n1 t10_, .slice p11_ n2 t11_]) (by simp [results, Tryz.results104, go_sem, k0, k1]) rfl ⟨_, _, _, _, rfl, (v011.grown gf (.inr (by intro hh; have := v011.row_lo _ hh; omega))).mono' (by omega), (ho11.grown gf (.inr (by intro hh; have := ho11.row_lo _ hh; omega))).mono' (by omega), DF, below_grown J11.b gf (by omega) (fun q hq => by simp at hq; omega)⟩

end Go.Proofs.YthopfmhagddhgaaGreat

namespace Go.Proofs.YthopfmhagddhgaaGreat
open Go.RowKit


set_option maxHeartbeats 4000000 in
set_option maxRecDepth 100000 in
theorem l5Copy_any (wk : Int) (up : Bool) (now sn ep gv : Int) (a1 a2 ar aj az ao : Option Addr) (b1 o1 n1 ca b2 o2 n2 cb br or' nr cr bj oj nj cj bs os' ns cs bo oo no co : Nat) (L1 L2 R : List ByteArray) (J : List Tr) (S : List (Bool × Int)) (O : List Tr) (w : World) (h0 : StrsAt w a1 b1 o1 n1 L1) (h1 : StrsAt w a2 b2 o2 n2 L2) (h2 : StrsAt w ar br or' nr R) (h3 : T3At w aj bj oj nj J) (h4 : T2At w az bs os' ns S) (h5 : T3At w ao bo oo no O) (m0 : n1 ≤ 1048576) (m1 : n2 ≤ 1048576) (m2 : nr ≤ 1048576) (m3 : nj ≤ 1048576) (m4 : ns ≤ 1048576) (m5 : no ≤ 1048576) :
    Calls Tryz.prog 52 #[.agg #[.int .i64 wk, .bool up, .int .i64 now, .int .i64 sn, .int .i64 ep, .int .i64 gv, .slice a1 n1 ca, .slice a2 n2 cb, .slice ar nr cr, .slice aj nj cj, .slice az ns cs, .slice ao no co]] w fun e w' => ∃ a0_ c0_ a1_ c1_ a2_ c2_ a3_ c3_ a4_ c4_ a5_ c5_, e = .returned (.agg #[.int .i64 wk, .bool up, .int .i64 now, .int .i64 sn, .int .i64 ep, .int .i64 gv, .slice a0_ n1 c0_, .slice a1_ n2 c1_, .slice a2_ nr c2_, .slice a3_ nj c3_, .slice a4_ ns c4_, .slice a5_ no c5_]) ∧ (Own w.heap.size w' 1 (.slice a0_ n1 c0_) n1 (L1.map Value.string) ∧ Own w.heap.size w' 1 (.slice a1_ n2 c1_) n2 (L2.map Value.string) ∧ Own w.heap.size w' 1 (.slice a2_ nr c2_) nr (R.map Value.string) ∧ Own w.heap.size w' 3 (.slice a3_ nj c3_) nj (c3 J) ∧ Own w.heap.size w' 2 (.slice a4_ ns c4_) ns (c2 S) ∧ Own w.heap.size w' 3 (.slice a5_ no c5_) no (c3 O)) ∧ List.Pairwise Dj [(Value.slice a0_ n1 c0_).ownBlock, (Value.slice a1_ n2 c1_).ownBlock, (Value.slice a2_ nr c2_).ownBlock, (Value.slice a3_ nj c3_).ownBlock, (Value.slice a4_ ns c4_).ownBlock, (Value.slice a5_ no c5_).ownBlock] ∧ Below w.heap.size w w' := by
  obtain ⟨i0, hi0, hz00, hz01, hz02⟩ := info_parts Tryz.infoSt
  obtain ⟨i3, hi3, hz30, hz31, hz32⟩ := info_parts Tryz.infoJb
  obtain ⟨i4, hi4, hz40, hz41, hz42⟩ := info_parts Tryz.infoSe
  obtain ⟨i5, hi5, hz50, hz51, hz52⟩ := info_parts Tryz.infoOw
  obtain ⟨W, hW⟩ : ∃ W, W = (w.alloc (.cells #[.int .i64 wk, .bool up, .int .i64 now, .int .i64 sn, .int .i64 ep, .int .i64 gv, .slice a1 n1 ca, .slice a2 n2 cb, .slice ar nr cr, .slice aj nj cj, .slice az ns cs, .slice ao no co] 47)).alloc (.cells #[.int .i64 0, .bool false, .int .i64 0, .int .i64 0, .int .i64 0, .int .i64 0, .slice none 0 0, .slice none 0 0, .slice none 0 0, .slice none 0 0, .slice none 0 0, .slice none 0 0] 47) := ⟨_, rfl⟩
  have B0 : Below w.heap.size w W := by rw [hW]; exact ((Below.refl _ _).alloc (Nat.le_refl _) _).alloc (by simp) _
  have z0 : w.heap.size + 2 ≤ W.heap.size := by rw [hW]; simp
  have P0 : CF W w.heap.size [.int .i64 wk, .bool up, .int .i64 now, .int .i64 sn, .int .i64 ep, .int .i64 gv, .slice a1 n1 ca, .slice a2 n2 cb, .slice ar nr cr, .slice aj nj cj, .slice az ns cs, .slice ao no co] := by
    rw [hW]; exact (CF.made w #[.int .i64 wk, .bool up, .int .i64 now, .int .i64 sn, .int .i64 ep, .int .i64 gv, .slice a1 n1 ca, .slice a2 n2 cb, .slice ar nr cr, .slice aj nj cj, .slice az ns cs, .slice ao no co] 47).block (Below.heap_alloc _ _ _ (by simp))
  have R0 : CF W (w.heap.size + 1) zB := by
    rw [hW]
    have := CF.made (w.alloc (.cells #[.int .i64 wk, .bool up, .int .i64 now, .int .i64 sn, .int .i64 ep, .int .i64 gv, .slice a1 n1 ca, .slice a2 n2 cb, .slice ar nr cr, .slice aj nj cj, .slice az ns cs, .slice ao no co] 47)) #[.int .i64 0, .bool false, .int .i64 0, .int .i64 0, .int .i64 0, .int .i64 0, .slice none 0 0, .slice none 0 0, .slice none 0 0, .slice none 0 0, .slice none 0 0, .slice none 0 0] 47
    simpa [zB] using this
  have HW := hid hW
  clear hW
  go_enter Tryz.func52, Tryz.ntmps52
  go_upto_region 1 with fail
  rw [← HW.out]
  clear HW
  have y6 : W.cell? ⟨w.heap.size, 6, none⟩ = some (.slice a1 n1 ca) := (P0 6 (by simp)).1
  have y7 : W.cell? ⟨w.heap.size, 7, none⟩ = some (.slice a2 n2 cb) := (P0 7 (by simp)).1
  go_upto_region 2 with (go_at_call 104; refine (l4Log_any a1 a2 b1 o1 n1 ca b2 o2 n2 cb L1 L2 _ (h0.below' B0) (h1.below' B0) m0 m1).mono ?_; rintro e u0 ⟨a0_, c0_, a1_, c1_, rfl, ho0, ho1, D01', hbu⟩; have Pu := P0.block (hbu.block w.heap.size (by omega)); have Ru := R0.block (hbu.block (w.heap.size + 1) (by omega)); have Bu := B0.trans (hbu.mono B0.size); have zu : w.heap.size + 2 ≤ u0.heap.size := Nat.le_trans z0 hbu.size; have yu6 : u0.cell? ⟨w.heap.size, 6, none⟩ = some (.slice a1 n1 ca) := (Pu 6 (by simp)).1; have yu7 : u0.cell? ⟨w.heap.size, 7, none⟩ = some (.slice a2 n2 cb) := (Pu 7 (by simp)).1; have fu6 : u0.frozen? ⟨w.heap.size, 6, none⟩ = false := (Pu 6 (by simp)).2; have fu7 : u0.frozen? ⟨w.heap.size, 7, none⟩ = false := (Pu 7 (by simp)).2)
  have g6 := gset (gset (World.grownBy.refl u0 (some w.heap.size)) 6 (.slice a0_ n1 c0_)) 7 (.slice a1_ n2 c1_)
  have P2 := (Pu.set (j := 6) (by simp) (.slice a0_ n1 c0_)).set (j := 7) (by simp) (.slice a1_ n2 c1_)
  simp only [List.set_cons_zero, List.set_cons_succ] at P2
  have R2 := Ru.block (g6.block (w.heap.size + 1) (by omega) (by intro hh; injection hh with hh; omega))
  have B2 := (Bu.setCell (p := ⟨w.heap.size, 6, none⟩) (by dsimp only; omega) (.slice a0_ n1 c0_)).setCell (p := ⟨w.heap.size, 7, none⟩) (by dsimp only; omega) (.slice a1_ n2 c1_)
  have z2 := Nat.le_trans zu g6.size
  have q0_2 := (ho0.mono' z0).grown g6 (.inr (by intro hh; have := (ho0.mono' z0).row_lo _ hh; omega))
  have q1_2 := (ho1.mono' z0).grown g6 (.inr (by intro hh; have := (ho1.mono' z0).row_lo _ hh; omega))
  have D01 := hid D01'
  obtain ⟨V2, hV2⟩ : ∃ V, V = (u0.setCell ⟨w.heap.size, 6, none⟩ (.slice a0_ n1 c0_)).setCell ⟨w.heap.size, 7, none⟩ (.slice a1_ n2 c1_) := ⟨_, rfl⟩
  rw [← hV2] at P2 R2 B2 z2 q0_2 q1_2
  rw [← hV2]
  clear hV2 g6 ho0 ho1 D01' hbu Pu Ru Bu zu yu6 yu7 fu6 fu7 y6 y7 P0 R0 B0 z0
  have y : V2.cell? ⟨w.heap.size, 8, none⟩ = some (.slice ar nr cr) := (P2 8 (by simp)).1
  have own0 : Own (w.heap.size + 2) (V2.alloc (.cells #[] 9)) 1 (.slice (some ⟨V2.heap.size, 0, none⟩) 0 0) 0 [] :=
    .inr ⟨_, 0, 0, rfl, OwnC.made V2 (w.heap.size + 2) 9 1 0 0 _ 0 z2 (Nat.le_refl _) (by unfold maxLen; omega) rfl (Nat.le_refl _) _ rfl _ (.inl rfl)⟩
  have BE : Below w.heap.size w (V2.alloc (.cells #[] 9)) := B2.alloc B2.size _
  have PE : CF (V2.alloc (.cells #[] 9)) w.heap.size [.int .i64 wk, .bool up, .int .i64 now, .int .i64 sn, .int .i64 ep, .int .i64 gv, .slice a0_ n1 c0_, .slice a1_ n2 c1_, .slice ar nr cr, .slice aj nj cj, .slice az ns cs, .slice ao no co] := P2.block (Below.heap_alloc _ _ _ (by omega))
  have RE : CF (V2.alloc (.cells #[] 9)) (w.heap.size + 1) zB := R2.block (Below.heap_alloc _ _ _ (by omega))
  have yE : (V2.alloc (.cells #[] 9)).cell? ⟨w.heap.size, 8, none⟩ = some (.slice ar nr cr) := (PE 8 (by simp)).1
  have zE : w.heap.size + 2 ≤ (V2.alloc (.cells #[] 9)).heap.size := by simp; omega
  have zE' : w.heap.size < (V2.alloc (.cells #[] 9)).heap.size := by omega
  have zE2 : w.heap.size + 1 < (V2.alloc (.cells #[] 9)).heap.size := by omega
  have sr : Src Tryz.prog 1 25 (.slice ar nr cr) nr (R.map Value.string) (V2.alloc (.cells #[] 9)) := (h2.below' BE).srcS cr
  have HSW : Hid ((V2.alloc (.cells #[] 9)).heap.size = V2.heap.size + 1) := hid (by simp)
  have q0E := q0_2.alloc (.cells #[] 9)
  have q1E := q1_2.alloc (.cells #[] 9)
  go_upto_region 3 with (at_builtin; refine wpList_append_c _ rfl _ _ 25 25 rfl (w.heap.size + 2) 9 i0 (.string ⟨#[]⟩) 1 16 Tryz.underlying25 hi0 hz00 hz01 hz02 rfl _ 0 _ rfl own0 _ nr _ rfl sr (by unfold maxLen; omega) (by omega) zE ?_; intro v2 u2 ho hg hbk; rw [Nat.zero_add, List.nil_append] at ho; obtain ⟨a2_, c2_, rfl⟩ := ho.slc; have hrw := own0.row_lo; have Pu := PE.block (hg.block w.heap.size zE' (fun e => by have := hrw _ e.symm; omega)); have Ru := RE.block (hg.block (w.heap.size + 1) zE2 (fun e => by have := hrw _ e.symm; omega)); have Bu := below_grown BE hg (Nat.le_trans (Nat.le_add_right _ 2) zE) (fun q hq => by have := hrw q hq; omega); have yu : u2.cell? ⟨w.heap.size, 8, none⟩ = some (.slice ar nr cr) := (Pu 8 (by simp)).1; have fu : u2.frozen? ⟨w.heap.size, 8, none⟩ = false := (Pu 8 (by simp)).2; have zu : w.heap.size + 2 ≤ u2.heap.size := Nat.le_trans zE hg.size)
  have P3 := Pu.set (j := 8) (by simp) (.slice a2_ nr c2_)
  simp only [List.set_cons_zero, List.set_cons_succ] at P3
  have gs := gset (World.grownBy.refl u2 (some w.heap.size)) 8 (.slice a2_ nr c2_)
  have R3 := Ru.block (Below.heap_setCell u2 (⟨w.heap.size, 8, none⟩ : Addr) (.slice a2_ nr c2_) (w.heap.size + 1) (by dsimp only; omega))
  have B3 := Bu.setCell (p := ⟨w.heap.size, 8, none⟩) (by dsimp only; omega) (.slice a2_ nr c2_)
  have z3 : w.heap.size + 2 ≤ (u2.setCell ⟨w.heap.size, 8, none⟩ (.slice a2_ nr c2_)).heap.size := by simpa [World.setCell] using zu
  have q2_3 := ho.grown gs (.inr (by intro hh; have := ho.row_lo _ hh; omega))
  have D02 : Hid (Dj (Value.slice a0_ n1 c0_).ownBlock (Value.slice a2_ nr c2_).ownBlock) := by
    rcases hbk with e | e
    · exact Dj.new q0_2.row_hi (.inr e)
    · exact Dj.new (fun q hq => by have h5 := q0_2.row_hi q hq; have h6 := HSW.out; omega) (.inr e)
  have q0_3 := (q0E.grown hg (Dj.new q0_2.row_hi (.inr rfl))).grown gs (.inr (by intro hh; have := q0_2.row_lo _ hh; omega))
  have D12 : Hid (Dj (Value.slice a1_ n2 c1_).ownBlock (Value.slice a2_ nr c2_).ownBlock) := by
    rcases hbk with e | e
    · exact Dj.new q1_2.row_hi (.inr e)
    · exact Dj.new (fun q hq => by have h5 := q1_2.row_hi q hq; have h6 := HSW.out; omega) (.inr e)
  have q1_3 := (q1E.grown hg (Dj.new q1_2.row_hi (.inr rfl))).grown gs (.inr (by intro hh; have := q1_2.row_lo _ hh; omega))
  obtain ⟨V3, hV3⟩ : ∃ V, V = u2.setCell ⟨w.heap.size, 8, none⟩ (.slice a2_ nr c2_) := ⟨_, rfl⟩
  rw [← hV3] at P3 R3 B3 z3 q0_3 q1_3 q2_3
  rw [← hV3]
  clear hV3 y sr yu fu zu Pu Ru Bu gs ho hg hbk hrw own0 BE PE RE yE zE zE' zE2 HSW P2 R2 B2 z2 q0_2 q0E q1_2 q1E
  have y : V3.cell? ⟨w.heap.size, 9, none⟩ = some (.slice aj nj cj) := (P3 9 (by simp)).1
  have own0 : Own (w.heap.size + 2) (V3.alloc (.cells #[] 153)) 3 (.slice (some ⟨V3.heap.size, 0, none⟩) 0 0) 0 [] :=
    .inr ⟨_, 0, 0, rfl, OwnC.made V3 (w.heap.size + 2) 153 3 0 0 _ 0 z3 (Nat.le_refl _) (by unfold maxLen; omega) rfl (Nat.le_refl _) _ rfl _ (.inl rfl)⟩
  have BE : Below w.heap.size w (V3.alloc (.cells #[] 153)) := B3.alloc B3.size _
  have PE : CF (V3.alloc (.cells #[] 153)) w.heap.size [.int .i64 wk, .bool up, .int .i64 now, .int .i64 sn, .int .i64 ep, .int .i64 gv, .slice a0_ n1 c0_, .slice a1_ n2 c1_, .slice a2_ nr c2_, .slice aj nj cj, .slice az ns cs, .slice ao no co] := P3.block (Below.heap_alloc _ _ _ (by omega))
  have RE : CF (V3.alloc (.cells #[] 153)) (w.heap.size + 1) zB := R3.block (Below.heap_alloc _ _ _ (by omega))
  have yE : (V3.alloc (.cells #[] 153)).cell? ⟨w.heap.size, 9, none⟩ = some (.slice aj nj cj) := (PE 9 (by simp)).1
  have zE : w.heap.size + 2 ≤ (V3.alloc (.cells #[] 153)).heap.size := by simp; omega
  have zE' : w.heap.size < (V3.alloc (.cells #[] 153)).heap.size := by omega
  have zE2 : w.heap.size + 1 < (V3.alloc (.cells #[] 153)).heap.size := by omega
  have sr : Src Tryz.prog 3 43 (.slice aj nj cj) nj (c3 J) (V3.alloc (.cells #[] 153)) := (h3.below' BE).src 43 153 Tryz.underlying43 cj
  have HSW : Hid ((V3.alloc (.cells #[] 153)).heap.size = V3.heap.size + 1) := hid (by simp)
  have q0E := q0_3.alloc (.cells #[] 153)
  have q1E := q1_3.alloc (.cells #[] 153)
  have q2E := q2_3.alloc (.cells #[] 153)
  go_upto_region 4 with (at_builtin; refine wpList_append_c _ rfl _ _ 43 43 rfl (w.heap.size + 2) 153 i3 (.agg #[.int .i64 0, .int .i64 0, .int .i64 0]) 3 24 Tryz.underlying43 hi3 hz30 hz31 hz32 rfl _ 0 _ rfl own0 _ nj _ rfl sr (by unfold maxLen; omega) (by omega) zE ?_; intro v3 u3 ho hg hbk; rw [Nat.zero_add, List.nil_append] at ho; obtain ⟨a3_, c3_, rfl⟩ := ho.slc; have hrw := own0.row_lo; have Pu := PE.block (hg.block w.heap.size zE' (fun e => by have := hrw _ e.symm; omega)); have Ru := RE.block (hg.block (w.heap.size + 1) zE2 (fun e => by have := hrw _ e.symm; omega)); have Bu := below_grown BE hg (Nat.le_trans (Nat.le_add_right _ 2) zE) (fun q hq => by have := hrw q hq; omega); have yu : u3.cell? ⟨w.heap.size, 9, none⟩ = some (.slice aj nj cj) := (Pu 9 (by simp)).1; have fu : u3.frozen? ⟨w.heap.size, 9, none⟩ = false := (Pu 9 (by simp)).2; have zu : w.heap.size + 2 ≤ u3.heap.size := Nat.le_trans zE hg.size)
  have P4 := Pu.set (j := 9) (by simp) (.slice a3_ nj c3_)
  simp only [List.set_cons_zero, List.set_cons_succ] at P4
  have gs := gset (World.grownBy.refl u3 (some w.heap.size)) 9 (.slice a3_ nj c3_)
  have R4 := Ru.block (Below.heap_setCell u3 (⟨w.heap.size, 9, none⟩ : Addr) (.slice a3_ nj c3_) (w.heap.size + 1) (by dsimp only; omega))
  have B4 := Bu.setCell (p := ⟨w.heap.size, 9, none⟩) (by dsimp only; omega) (.slice a3_ nj c3_)
  have z4 : w.heap.size + 2 ≤ (u3.setCell ⟨w.heap.size, 9, none⟩ (.slice a3_ nj c3_)).heap.size := by simpa [World.setCell] using zu
  have q3_4 := ho.grown gs (.inr (by intro hh; have := ho.row_lo _ hh; omega))
  have D03 : Hid (Dj (Value.slice a0_ n1 c0_).ownBlock (Value.slice a3_ nj c3_).ownBlock) := by
    rcases hbk with e | e
    · exact Dj.new q0_3.row_hi (.inr e)
    · exact Dj.new (fun q hq => by have h5 := q0_3.row_hi q hq; have h6 := HSW.out; omega) (.inr e)
  have q0_4 := (q0E.grown hg (Dj.new q0_3.row_hi (.inr rfl))).grown gs (.inr (by intro hh; have := q0_3.row_lo _ hh; omega))
  have D13 : Hid (Dj (Value.slice a1_ n2 c1_).ownBlock (Value.slice a3_ nj c3_).ownBlock) := by
    rcases hbk with e | e
    · exact Dj.new q1_3.row_hi (.inr e)
    · exact Dj.new (fun q hq => by have h5 := q1_3.row_hi q hq; have h6 := HSW.out; omega) (.inr e)
  have q1_4 := (q1E.grown hg (Dj.new q1_3.row_hi (.inr rfl))).grown gs (.inr (by intro hh; have := q1_3.row_lo _ hh; omega))
  have D23 : Hid (Dj (Value.slice a2_ nr c2_).ownBlock (Value.slice a3_ nj c3_).ownBlock) := by
    rcases hbk with e | e
    · exact Dj.new q2_3.row_hi (.inr e)
    · exact Dj.new (fun q hq => by have h5 := q2_3.row_hi q hq; have h6 := HSW.out; omega) (.inr e)
  have q2_4 := (q2E.grown hg (Dj.new q2_3.row_hi (.inr rfl))).grown gs (.inr (by intro hh; have := q2_3.row_lo _ hh; omega))
  obtain ⟨V4, hV4⟩ : ∃ V, V = u3.setCell ⟨w.heap.size, 9, none⟩ (.slice a3_ nj c3_) := ⟨_, rfl⟩
  rw [← hV4] at P4 R4 B4 z4 q0_4 q1_4 q2_4 q3_4
  rw [← hV4]
  clear hV4 y sr yu fu zu Pu Ru Bu gs ho hg hbk hrw own0 BE PE RE yE zE zE' zE2 HSW P3 R3 B3 z3 q0_3 q0E q1_3 q1E q2_3 q2E
  have y : V4.cell? ⟨w.heap.size, 10, none⟩ = some (.slice az ns cs) := (P4 10 (by simp)).1
  have own0 : Own (w.heap.size + 2) (V4.alloc (.cells #[] 124)) 2 (.slice (some ⟨V4.heap.size, 0, none⟩) 0 0) 0 [] :=
    .inr ⟨_, 0, 0, rfl, OwnC.made V4 (w.heap.size + 2) 124 2 0 0 _ 0 z4 (Nat.le_refl _) (by unfold maxLen; omega) rfl (Nat.le_refl _) _ rfl _ (.inl rfl)⟩
  have BE : Below w.heap.size w (V4.alloc (.cells #[] 124)) := B4.alloc B4.size _
  have PE : CF (V4.alloc (.cells #[] 124)) w.heap.size [.int .i64 wk, .bool up, .int .i64 now, .int .i64 sn, .int .i64 ep, .int .i64 gv, .slice a0_ n1 c0_, .slice a1_ n2 c1_, .slice a2_ nr c2_, .slice a3_ nj c3_, .slice az ns cs, .slice ao no co] := P4.block (Below.heap_alloc _ _ _ (by omega))
  have RE : CF (V4.alloc (.cells #[] 124)) (w.heap.size + 1) zB := R4.block (Below.heap_alloc _ _ _ (by omega))
  have yE : (V4.alloc (.cells #[] 124)).cell? ⟨w.heap.size, 10, none⟩ = some (.slice az ns cs) := (PE 10 (by simp)).1
  have zE : w.heap.size + 2 ≤ (V4.alloc (.cells #[] 124)).heap.size := by simp; omega
  have zE' : w.heap.size < (V4.alloc (.cells #[] 124)).heap.size := by omega
  have zE2 : w.heap.size + 1 < (V4.alloc (.cells #[] 124)).heap.size := by omega
  have sr : Src Tryz.prog 2 44 (.slice az ns cs) ns (c2 S) (V4.alloc (.cells #[] 124)) := (h4.below' BE).src 44 124 Tryz.underlying44 cs
  have HSW : Hid ((V4.alloc (.cells #[] 124)).heap.size = V4.heap.size + 1) := hid (by simp)
  have q0E := q0_4.alloc (.cells #[] 124)
  have q1E := q1_4.alloc (.cells #[] 124)
  have q2E := q2_4.alloc (.cells #[] 124)
  have q3E := q3_4.alloc (.cells #[] 124)
  go_upto_region 5 with (at_builtin; refine wpList_append_c _ rfl _ _ 44 44 rfl (w.heap.size + 2) 124 i4 (.agg #[.bool false, .int .i64 0]) 2 16 Tryz.underlying44 hi4 hz40 hz41 hz42 rfl _ 0 _ rfl own0 _ ns _ rfl sr (by unfold maxLen; omega) (by omega) zE ?_; intro v4 u4 ho hg hbk; rw [Nat.zero_add, List.nil_append] at ho; obtain ⟨a4_, c4_, rfl⟩ := ho.slc; have hrw := own0.row_lo; have Pu := PE.block (hg.block w.heap.size zE' (fun e => by have := hrw _ e.symm; omega)); have Ru := RE.block (hg.block (w.heap.size + 1) zE2 (fun e => by have := hrw _ e.symm; omega)); have Bu := below_grown BE hg (Nat.le_trans (Nat.le_add_right _ 2) zE) (fun q hq => by have := hrw q hq; omega); have yu : u4.cell? ⟨w.heap.size, 10, none⟩ = some (.slice az ns cs) := (Pu 10 (by simp)).1; have fu : u4.frozen? ⟨w.heap.size, 10, none⟩ = false := (Pu 10 (by simp)).2; have zu : w.heap.size + 2 ≤ u4.heap.size := Nat.le_trans zE hg.size)
  have P5 := Pu.set (j := 10) (by simp) (.slice a4_ ns c4_)
  simp only [List.set_cons_zero, List.set_cons_succ] at P5
  have gs := gset (World.grownBy.refl u4 (some w.heap.size)) 10 (.slice a4_ ns c4_)
  have R5 := Ru.block (Below.heap_setCell u4 (⟨w.heap.size, 10, none⟩ : Addr) (.slice a4_ ns c4_) (w.heap.size + 1) (by dsimp only; omega))
  have B5 := Bu.setCell (p := ⟨w.heap.size, 10, none⟩) (by dsimp only; omega) (.slice a4_ ns c4_)
  have z5 : w.heap.size + 2 ≤ (u4.setCell ⟨w.heap.size, 10, none⟩ (.slice a4_ ns c4_)).heap.size := by simpa [World.setCell] using zu
  have q4_5 := ho.grown gs (.inr (by intro hh; have := ho.row_lo _ hh; omega))
  have D04 : Hid (Dj (Value.slice a0_ n1 c0_).ownBlock (Value.slice a4_ ns c4_).ownBlock) := by
    rcases hbk with e | e
    · exact Dj.new q0_4.row_hi (.inr e)
    · exact Dj.new (fun q hq => by have h5 := q0_4.row_hi q hq; have h6 := HSW.out; omega) (.inr e)
  have q0_5 := (q0E.grown hg (Dj.new q0_4.row_hi (.inr rfl))).grown gs (.inr (by intro hh; have := q0_4.row_lo _ hh; omega))
  have D14 : Hid (Dj (Value.slice a1_ n2 c1_).ownBlock (Value.slice a4_ ns c4_).ownBlock) := by
    rcases hbk with e | e
    · exact Dj.new q1_4.row_hi (.inr e)
    · exact Dj.new (fun q hq => by have h5 := q1_4.row_hi q hq; have h6 := HSW.out; omega) (.inr e)
  have q1_5 := (q1E.grown hg (Dj.new q1_4.row_hi (.inr rfl))).grown gs (.inr (by intro hh; have := q1_4.row_lo _ hh; omega))
  have D24 : Hid (Dj (Value.slice a2_ nr c2_).ownBlock (Value.slice a4_ ns c4_).ownBlock) := by
    rcases hbk with e | e
    · exact Dj.new q2_4.row_hi (.inr e)
    · exact Dj.new (fun q hq => by have h5 := q2_4.row_hi q hq; have h6 := HSW.out; omega) (.inr e)
  have q2_5 := (q2E.grown hg (Dj.new q2_4.row_hi (.inr rfl))).grown gs (.inr (by intro hh; have := q2_4.row_lo _ hh; omega))
  have D34 : Hid (Dj (Value.slice a3_ nj c3_).ownBlock (Value.slice a4_ ns c4_).ownBlock) := by
    rcases hbk with e | e
    · exact Dj.new q3_4.row_hi (.inr e)
    · exact Dj.new (fun q hq => by have h5 := q3_4.row_hi q hq; have h6 := HSW.out; omega) (.inr e)
  have q3_5 := (q3E.grown hg (Dj.new q3_4.row_hi (.inr rfl))).grown gs (.inr (by intro hh; have := q3_4.row_lo _ hh; omega))
  obtain ⟨V5, hV5⟩ : ∃ V, V = u4.setCell ⟨w.heap.size, 10, none⟩ (.slice a4_ ns c4_) := ⟨_, rfl⟩
  rw [← hV5] at P5 R5 B5 z5 q0_5 q1_5 q2_5 q3_5 q4_5
  rw [← hV5]
  clear hV5 y sr yu fu zu Pu Ru Bu gs ho hg hbk hrw own0 BE PE RE yE zE zE' zE2 HSW P4 R4 B4 z4 q0_4 q0E q1_4 q1E q2_4 q2E q3_4 q3E
  have y : V5.cell? ⟨w.heap.size, 11, none⟩ = some (.slice ao no co) := (P5 11 (by simp)).1
  have own0 : Own (w.heap.size + 2) (V5.alloc (.cells #[] 126)) 3 (.slice (some ⟨V5.heap.size, 0, none⟩) 0 0) 0 [] :=
    .inr ⟨_, 0, 0, rfl, OwnC.made V5 (w.heap.size + 2) 126 3 0 0 _ 0 z5 (Nat.le_refl _) (by unfold maxLen; omega) rfl (Nat.le_refl _) _ rfl _ (.inl rfl)⟩
  have BE : Below w.heap.size w (V5.alloc (.cells #[] 126)) := B5.alloc B5.size _
  have PE : CF (V5.alloc (.cells #[] 126)) w.heap.size [.int .i64 wk, .bool up, .int .i64 now, .int .i64 sn, .int .i64 ep, .int .i64 gv, .slice a0_ n1 c0_, .slice a1_ n2 c1_, .slice a2_ nr c2_, .slice a3_ nj c3_, .slice a4_ ns c4_, .slice ao no co] := P5.block (Below.heap_alloc _ _ _ (by omega))
  have RE : CF (V5.alloc (.cells #[] 126)) (w.heap.size + 1) zB := R5.block (Below.heap_alloc _ _ _ (by omega))
  have yE : (V5.alloc (.cells #[] 126)).cell? ⟨w.heap.size, 11, none⟩ = some (.slice ao no co) := (PE 11 (by simp)).1
  have zE : w.heap.size + 2 ≤ (V5.alloc (.cells #[] 126)).heap.size := by simp; omega
  have zE' : w.heap.size < (V5.alloc (.cells #[] 126)).heap.size := by omega
  have zE2 : w.heap.size + 1 < (V5.alloc (.cells #[] 126)).heap.size := by omega
  have sr : Src Tryz.prog 3 45 (.slice ao no co) no (c3 O) (V5.alloc (.cells #[] 126)) := (h5.below' BE).src 45 126 Tryz.underlying45 co
  have HSW : Hid ((V5.alloc (.cells #[] 126)).heap.size = V5.heap.size + 1) := hid (by simp)
  have q0E := q0_5.alloc (.cells #[] 126)
  have q1E := q1_5.alloc (.cells #[] 126)
  have q2E := q2_5.alloc (.cells #[] 126)
  have q3E := q3_5.alloc (.cells #[] 126)
  have q4E := q4_5.alloc (.cells #[] 126)
  go_upto_region 6 with (at_builtin; refine wpList_append_c _ rfl _ _ 45 45 rfl (w.heap.size + 2) 126 i5 (.agg #[.int .i64 0, .int .i64 0, .int .i64 0]) 3 24 Tryz.underlying45 hi5 hz50 hz51 hz52 rfl _ 0 _ rfl own0 _ no _ rfl sr (by unfold maxLen; omega) (by omega) zE ?_; intro v5 u5 ho hg hbk; rw [Nat.zero_add, List.nil_append] at ho; obtain ⟨a5_, c5_, rfl⟩ := ho.slc; have hrw := own0.row_lo; have Pu := PE.block (hg.block w.heap.size zE' (fun e => by have := hrw _ e.symm; omega)); have Ru := RE.block (hg.block (w.heap.size + 1) zE2 (fun e => by have := hrw _ e.symm; omega)); have Bu := below_grown BE hg (Nat.le_trans (Nat.le_add_right _ 2) zE) (fun q hq => by have := hrw q hq; omega); have yu : u5.cell? ⟨w.heap.size, 11, none⟩ = some (.slice ao no co) := (Pu 11 (by simp)).1; have fu : u5.frozen? ⟨w.heap.size, 11, none⟩ = false := (Pu 11 (by simp)).2; have zu : w.heap.size + 2 ≤ u5.heap.size := Nat.le_trans zE hg.size)
  have P6 := Pu.set (j := 11) (by simp) (.slice a5_ no c5_)
  simp only [List.set_cons_zero, List.set_cons_succ] at P6
  have gs := gset (World.grownBy.refl u5 (some w.heap.size)) 11 (.slice a5_ no c5_)
  have R6 := Ru.block (Below.heap_setCell u5 (⟨w.heap.size, 11, none⟩ : Addr) (.slice a5_ no c5_) (w.heap.size + 1) (by dsimp only; omega))
  have B6 := Bu.setCell (p := ⟨w.heap.size, 11, none⟩) (by dsimp only; omega) (.slice a5_ no c5_)
  have z6 : w.heap.size + 2 ≤ (u5.setCell ⟨w.heap.size, 11, none⟩ (.slice a5_ no c5_)).heap.size := by simpa [World.setCell] using zu
  have q5_6 := ho.grown gs (.inr (by intro hh; have := ho.row_lo _ hh; omega))
  have D05 : Hid (Dj (Value.slice a0_ n1 c0_).ownBlock (Value.slice a5_ no c5_).ownBlock) := by
    rcases hbk with e | e
    · exact Dj.new q0_5.row_hi (.inr e)
    · exact Dj.new (fun q hq => by have h5 := q0_5.row_hi q hq; have h6 := HSW.out; omega) (.inr e)
  have q0_6 := (q0E.grown hg (Dj.new q0_5.row_hi (.inr rfl))).grown gs (.inr (by intro hh; have := q0_5.row_lo _ hh; omega))
  have D15 : Hid (Dj (Value.slice a1_ n2 c1_).ownBlock (Value.slice a5_ no c5_).ownBlock) := by
    rcases hbk with e | e
    · exact Dj.new q1_5.row_hi (.inr e)
    · exact Dj.new (fun q hq => by have h5 := q1_5.row_hi q hq; have h6 := HSW.out; omega) (.inr e)
  have q1_6 := (q1E.grown hg (Dj.new q1_5.row_hi (.inr rfl))).grown gs (.inr (by intro hh; have := q1_5.row_lo _ hh; omega))
  have D25 : Hid (Dj (Value.slice a2_ nr c2_).ownBlock (Value.slice a5_ no c5_).ownBlock) := by
    rcases hbk with e | e
    · exact Dj.new q2_5.row_hi (.inr e)
    · exact Dj.new (fun q hq => by have h5 := q2_5.row_hi q hq; have h6 := HSW.out; omega) (.inr e)
  have q2_6 := (q2E.grown hg (Dj.new q2_5.row_hi (.inr rfl))).grown gs (.inr (by intro hh; have := q2_5.row_lo _ hh; omega))
  have D35 : Hid (Dj (Value.slice a3_ nj c3_).ownBlock (Value.slice a5_ no c5_).ownBlock) := by
    rcases hbk with e | e
    · exact Dj.new q3_5.row_hi (.inr e)
    · exact Dj.new (fun q hq => by have h5 := q3_5.row_hi q hq; have h6 := HSW.out; omega) (.inr e)
  have q3_6 := (q3E.grown hg (Dj.new q3_5.row_hi (.inr rfl))).grown gs (.inr (by intro hh; have := q3_5.row_lo _ hh; omega))
  have D45 : Hid (Dj (Value.slice a4_ ns c4_).ownBlock (Value.slice a5_ no c5_).ownBlock) := by
    rcases hbk with e | e
    · exact Dj.new q4_5.row_hi (.inr e)
    · exact Dj.new (fun q hq => by have h5 := q4_5.row_hi q hq; have h6 := HSW.out; omega) (.inr e)
  have q4_6 := (q4E.grown hg (Dj.new q4_5.row_hi (.inr rfl))).grown gs (.inr (by intro hh; have := q4_5.row_lo _ hh; omega))
  obtain ⟨V6, hV6⟩ : ∃ V, V = u5.setCell ⟨w.heap.size, 11, none⟩ (.slice a5_ no c5_) := ⟨_, rfl⟩
  rw [← hV6] at P6 R6 B6 z6 q0_6 q1_6 q2_6 q3_6 q4_6 q5_6
  rw [← hV6]
  clear hV6 y sr yu fu zu Pu Ru Bu gs ho hg hbk hrw own0 BE PE RE yE zE zE' zE2 HSW P5 R5 B5 z5 q0_5 q0E q1_5 q1E q2_5 q2E q3_5 q3E q4_5 q4E
  have y0 : V6.cell? ⟨w.heap.size, 0, none⟩ = some (.int .i64 wk) := (P6 0 (by simp)).1
  have y1 : V6.cell? ⟨w.heap.size, 1, none⟩ = some (.bool up) := (P6 1 (by simp)).1
  have y2 : V6.cell? ⟨w.heap.size, 2, none⟩ = some (.int .i64 now) := (P6 2 (by simp)).1
  have y3 : V6.cell? ⟨w.heap.size, 3, none⟩ = some (.int .i64 sn) := (P6 3 (by simp)).1
  have y4 : V6.cell? ⟨w.heap.size, 4, none⟩ = some (.int .i64 ep) := (P6 4 (by simp)).1
  have y5 : V6.cell? ⟨w.heap.size, 5, none⟩ = some (.int .i64 gv) := (P6 5 (by simp)).1
  have y6 : V6.cell? ⟨w.heap.size, 6, none⟩ = some (.slice a0_ n1 c0_) := (P6 6 (by simp)).1
  have y7 : V6.cell? ⟨w.heap.size, 7, none⟩ = some (.slice a1_ n2 c1_) := (P6 7 (by simp)).1
  have y8 : V6.cell? ⟨w.heap.size, 8, none⟩ = some (.slice a2_ nr c2_) := (P6 8 (by simp)).1
  have y9 : V6.cell? ⟨w.heap.size, 9, none⟩ = some (.slice a3_ nj c3_) := (P6 9 (by simp)).1
  have y10 : V6.cell? ⟨w.heap.size, 10, none⟩ = some (.slice a4_ ns c4_) := (P6 10 (by simp)).1
  have y11 : V6.cell? ⟨w.heap.size, 11, none⟩ = some (.slice a5_ no c5_) := (P6 11 (by simp)).1
  go_wp2_with (refine wpList_store_cf rfl 47 (.tmp 2) (.tmp 27) rfl (w.heap.size + 1) zB [.int .i64 wk, .bool up, .int .i64 now, .int .i64 sn, .int .i64 ep, .int .i64 gv, .slice a0_ n1 c0_, .slice a1_ n2 c1_, .slice a2_ nr c2_, .slice a3_ nj c3_, .slice a4_ ns c4_, .slice a5_ no c5_] rfl rfl R6 rfl Tryz.sizeBo (one12b _ _ _ _ _ _ _ _ _ _ _ _ _ _ _ _ _ _ _ _ _ _ _ _) ?_; intro w10 hc10 hg10)
  have k0 : w10.cell? ⟨w.heap.size + 1, 0, none⟩ = some (.int .i64 wk) := (hc10 0 (by simp)).1
  have k1 : w10.cell? ⟨w.heap.size + 1, 1, none⟩ = some (.bool up) := (hc10 1 (by simp)).1
  have k2 : w10.cell? ⟨w.heap.size + 1, 2, none⟩ = some (.int .i64 now) := (hc10 2 (by simp)).1
  have k3 : w10.cell? ⟨w.heap.size + 1, 3, none⟩ = some (.int .i64 sn) := (hc10 3 (by simp)).1
  have k4 : w10.cell? ⟨w.heap.size + 1, 4, none⟩ = some (.int .i64 ep) := (hc10 4 (by simp)).1
  have k5 : w10.cell? ⟨w.heap.size + 1, 5, none⟩ = some (.int .i64 gv) := (hc10 5 (by simp)).1
  have k6 : w10.cell? ⟨w.heap.size + 1, 6, none⟩ = some (.slice a0_ n1 c0_) := (hc10 6 (by simp)).1
  have k7 : w10.cell? ⟨w.heap.size + 1, 7, none⟩ = some (.slice a1_ n2 c1_) := (hc10 7 (by simp)).1
  have k8 : w10.cell? ⟨w.heap.size + 1, 8, none⟩ = some (.slice a2_ nr c2_) := (hc10 8 (by simp)).1
  have k9 : w10.cell? ⟨w.heap.size + 1, 9, none⟩ = some (.slice a3_ nj c3_) := (hc10 9 (by simp)).1
  have k10 : w10.cell? ⟨w.heap.size + 1, 10, none⟩ = some (.slice a4_ ns c4_) := (hc10 10 (by simp)).1
  have k11 : w10.cell? ⟨w.heap.size + 1, 11, none⟩ = some (.slice a5_ no c5_) := (hc10 11 (by simp)).1
  refine bodyPost_ret (v := .agg #[.int .i64 wk, .bool up, .int .i64 now, .int .i64 sn, .int .i64 ep, .int .i64 gv, .slice a0_ n1 c0_, .slice a1_ n2 c1_, .slice a2_ nr c2_, .slice a3_ nj c3_, .slice a4_ ns c4_, .slice a5_ no c5_]) (by simp [results, Tryz.results52, go_sem, k0, k1, k2, k3, k4, k5, k6, k7, k8, k9, k10, k11]) rfl ⟨a0_, c0_, a1_, c1_, a2_, c2_, a3_, c3_, a4_, c4_, a5_, c5_, rfl, ⟨(q0_6.grown hg10 (.inr (by intro hh; have := q0_6.row_lo _ hh; omega))).mono' (by omega), (q1_6.grown hg10 (.inr (by intro hh; have := q1_6.row_lo _ hh; omega))).mono' (by omega), (q2_6.grown hg10 (.inr (by intro hh; have := q2_6.row_lo _ hh; omega))).mono' (by omega), (q3_6.grown hg10 (.inr (by intro hh; have := q3_6.row_lo _ hh; omega))).mono' (by omega), (q4_6.grown hg10 (.inr (by intro hh; have := q4_6.row_lo _ hh; omega))).mono' (by omega), (q5_6.grown hg10 (.inr (by intro hh; have := q5_6.row_lo _ hh; omega))).mono' (by omega)⟩, ?_, below_grown B6 hg10 (by omega) (fun q hq => by simp at hq; omega)⟩
  simp only [List.pairwise_cons, List.mem_cons, List.not_mem_nil, or_false, forall_eq_or_imp, forall_eq, List.Pairwise.nil, and_true, false_implies, implies_true]
  exact ⟨⟨D01.out, D02.out, D03.out, D04.out, D05.out⟩, ⟨D12.out, D13.out, D14.out, D15.out⟩, ⟨D23.out, D24.out, D25.out⟩, ⟨D34.out, D35.out⟩, D45.out⟩
end Go.Proofs.YthopfmhagddhgaaGreat

namespace Go.Proofs.YthopfmhagddhgaaGreat
open Go.RowKit

theorem BD.down {d : BD} {ts : List TaskD} (h : d.ok ts) (hu : d.up = false) (keep : Int) : d = fallB d keep := by
  obtain ⟨wk, up, now, sn, ep, gv, L1, L2, R, J, S, O⟩ := d
  dsimp only at hu
  subst hu
  have hd := vB_dn h
  unfold isDown at hd
  dsimp only at hd
  obtain ⟨h1, rfl, rfl, rfl, h2, h3, h4, h5⟩ := hd
  have e1 := List.eq_nil_of_length_eq_zero (by omega : L2.length = 0)
  have e2 := List.eq_nil_of_length_eq_zero (by omega : R.length = 0)
  have e3 := List.eq_nil_of_length_eq_zero (by omega : J.length = 0)
  have e4 := List.eq_nil_of_length_eq_zero (by omega : S.length = 0)
  have e5 := List.eq_nil_of_length_eq_zero (by omega : O.length = 0)
  subst e1; subst e2; subst e3; subst e4; subst e5
  simp [fallB]

set_option maxHeartbeats 4000000 in
set_option maxRecDepth 100000 in
theorem sFallB_any (d : BD) (h : BH) (pa : Option Addr) (pb po pn pc : Nat) (ts : List TaskD) (keep : Int) (w : World) (g2 : Nat) (ha2 : h.a2 = some ⟨g2, 0, none⟩) (hc2 : d.L2.length ≤ h.c2) (hM : BossM w d h) (hT : TasksAt w pa pb po pn ts) (hs : d.small) :
    Calls Tryz.prog 18 #[.agg #[.int .i64 d.wk, .bool d.up, .int .i64 d.now, .int .i64 d.sn, .int .i64 d.ep, .int .i64 d.gv, .slice h.a1 d.L1.length h.c1, .slice h.a2 d.L2.length h.c2, .slice h.ar d.R.length h.cr, .slice h.aj d.J.length h.cj, .slice h.az d.S.length h.cs, .slice h.ao d.O.length h.co], .agg #[.slice pa pn pc], .int .i64 keep] w fun e w' => (∃ d', RetBs e w.heap.size w' d' ∧ fallR2 d ts keep d') ∧ Below w.heap.size w w' := by
  have HA2 := hid ha2
  clear ha2
  obtain ⟨i0, hi0, hz00, hz01, hz02⟩ := info_parts Tryz.infoSt
  obtain ⟨W, hW⟩ : ∃ W, W = ((w.alloc (.cells #[.int .i64 d.wk, .bool d.up, .int .i64 d.now, .int .i64 d.sn, .int .i64 d.ep, .int .i64 d.gv, .slice h.a1 d.L1.length h.c1, .slice h.a2 d.L2.length h.c2, .slice h.ar d.R.length h.cr, .slice h.aj d.J.length h.cj, .slice h.az d.S.length h.cs, .slice h.ao d.O.length h.co] 47)).alloc (.cells #[.slice pa pn pc] 41)).alloc (.cells #[.int .i64 0, .bool false, .int .i64 0, .int .i64 0, .int .i64 0, .int .i64 0, .slice none 0 0, .slice none 0 0, .slice none 0 0, .slice none 0 0, .slice none 0 0, .slice none 0 0] 47) := ⟨_, rfl⟩
  have B0 : Below w.heap.size w W := by rw [hW]; exact (((Below.refl _ _).alloc (Nat.le_refl _) _).alloc (by simp) _).alloc (by simp; omega) _
  have z0 : w.heap.size + 3 ≤ W.heap.size := by rw [hW]; simp
  have P0 : CF W w.heap.size [.int .i64 d.wk, .bool d.up, .int .i64 d.now, .int .i64 d.sn, .int .i64 d.ep, .int .i64 d.gv, .slice h.a1 d.L1.length h.c1, .slice h.a2 d.L2.length h.c2, .slice h.ar d.R.length h.cr, .slice h.aj d.J.length h.cj, .slice h.az d.S.length h.cs, .slice h.ao d.O.length h.co] := by
    rw [hW]; exact ((CF.made w #[.int .i64 d.wk, .bool d.up, .int .i64 d.now, .int .i64 d.sn, .int .i64 d.ep, .int .i64 d.gv, .slice h.a1 d.L1.length h.c1, .slice h.a2 d.L2.length h.c2, .slice h.ar d.R.length h.cr, .slice h.aj d.J.length h.cj, .slice h.az d.S.length h.cs, .slice h.ao d.O.length h.co] 47).block (Below.heap_alloc _ _ _ (by simp))).block (Below.heap_alloc _ _ _ (by simp; omega))
  have L0 : CF W (w.heap.size + 1) [.slice pa pn pc] := by
    rw [hW]
    have := (CF.made (w.alloc (.cells #[.int .i64 d.wk, .bool d.up, .int .i64 d.now, .int .i64 d.sn, .int .i64 d.ep, .int .i64 d.gv, .slice h.a1 d.L1.length h.c1, .slice h.a2 d.L2.length h.c2, .slice h.ar d.R.length h.cr, .slice h.aj d.J.length h.cj, .slice h.az d.S.length h.cs, .slice h.ao d.O.length h.co] 47)) #[.slice pa pn pc] 41).block (Below.heap_alloc ((w.alloc (.cells #[.int .i64 d.wk, .bool d.up, .int .i64 d.now, .int .i64 d.sn, .int .i64 d.ep, .int .i64 d.gv, .slice h.a1 d.L1.length h.c1, .slice h.a2 d.L2.length h.c2, .slice h.ar d.R.length h.cr, .slice h.aj d.J.length h.cj, .slice h.az d.S.length h.cs, .slice h.ao d.O.length h.co] 47)).alloc (.cells #[.slice pa pn pc] 41)) (.cells #[.int .i64 0, .bool false, .int .i64 0, .int .i64 0, .int .i64 0, .int .i64 0, .slice none 0 0, .slice none 0 0, .slice none 0 0, .slice none 0 0, .slice none 0 0, .slice none 0 0] 47) _ (by simp))
    simpa using this
  have R0 : CF W (w.heap.size + 2) zB := by
    rw [hW]
    have := CF.made ((w.alloc (.cells #[.int .i64 d.wk, .bool d.up, .int .i64 d.now, .int .i64 d.sn, .int .i64 d.ep, .int .i64 d.gv, .slice h.a1 d.L1.length h.c1, .slice h.a2 d.L2.length h.c2, .slice h.ar d.R.length h.cr, .slice h.aj d.J.length h.cj, .slice h.az d.S.length h.cs, .slice h.ao d.O.length h.co] 47)).alloc (.cells #[.slice pa pn pc] 41)) #[.int .i64 0, .bool false, .int .i64 0, .int .i64 0, .int .i64 0, .int .i64 0, .slice none 0 0, .slice none 0 0, .slice none 0 0, .slice none 0 0, .slice none 0 0, .slice none 0 0] 47
    simpa [zB] using this
  have hV0 : BossV w d [.int .i64 d.wk, .bool d.up, .int .i64 d.now, .int .i64 d.sn, .int .i64 d.ep, .int .i64 d.gv, .slice h.a1 d.L1.length h.c1, .slice h.a2 d.L2.length h.c2, .slice h.ar d.R.length h.cr, .slice h.aj d.J.length h.cj, .slice h.az d.S.length h.cs, .slice h.ao d.O.length h.co] := ⟨h, rfl, hM⟩
  have hV := hid (hV0.below' B0)
  have hs' := hid hs
  clear hV0 hs
  have HW := hid hW
  clear hW
  go_enter Tryz.func18, Tryz.ntmps18
  go_upto_region 1 with fail
  rw [← HW.out]
  clear HW
  have y0 : W.cell? ⟨w.heap.size, 0, none⟩ = some (.int .i64 d.wk) := (P0 0 (by simp)).1
  have y1 : W.cell? ⟨w.heap.size, 1, none⟩ = some (.bool d.up) := (P0 1 (by simp)).1
  have y2 : W.cell? ⟨w.heap.size, 2, none⟩ = some (.int .i64 d.now) := (P0 2 (by simp)).1
  have y3 : W.cell? ⟨w.heap.size, 3, none⟩ = some (.int .i64 d.sn) := (P0 3 (by simp)).1
  have y4 : W.cell? ⟨w.heap.size, 4, none⟩ = some (.int .i64 d.ep) := (P0 4 (by simp)).1
  have y5 : W.cell? ⟨w.heap.size, 5, none⟩ = some (.int .i64 d.gv) := (P0 5 (by simp)).1
  have y6 : W.cell? ⟨w.heap.size, 6, none⟩ = some (.slice h.a1 d.L1.length h.c1) := (P0 6 (by simp)).1
  have y7 : W.cell? ⟨w.heap.size, 7, none⟩ = some (.slice h.a2 d.L2.length h.c2) := (P0 7 (by simp)).1
  have y8 : W.cell? ⟨w.heap.size, 8, none⟩ = some (.slice h.ar d.R.length h.cr) := (P0 8 (by simp)).1
  have y9 : W.cell? ⟨w.heap.size, 9, none⟩ = some (.slice h.aj d.J.length h.cj) := (P0 9 (by simp)).1
  have y10 : W.cell? ⟨w.heap.size, 10, none⟩ = some (.slice h.az d.S.length h.cs) := (P0 10 (by simp)).1
  have y11 : W.cell? ⟨w.heap.size, 11, none⟩ = some (.slice h.ao d.O.length h.co) := (P0 11 (by simp)).1
  have kp : W.cell? ⟨w.heap.size + 1, 0, none⟩ = some (.slice pa pn pc) := (L0 0 (by simp)).1
  go_wp2_with fail
  refine (sValBV_any d _ _ _ _ _ _ _ _ _ _ _ _ pa pb po pn pc ts _ hV.out (hT.below' B0) hs'.out).mono ?_
  rintro e w1 ⟨⟨r, rfl, hr⟩, hb1⟩
  clear y0 y1 y2 y3 y4 y5 y6 y7 y8 y9 y10 y11 kp
  have P1 := P0.block (hb1.block w.heap.size (by omega))
  have R1 := R0.block (hb1.block (w.heap.size + 2) (by omega))
  have B1 := B0.trans (hb1.mono B0.size)
  have z1 : w.heap.size + 3 ≤ w1.heap.size := by have := hb1.size; omega
  have HR := hid hr
  clear hr hb1 P0 R0 B0 z0 L0
  cases r with
  | false =>
    have HN : Hid (¬ d.ok ts) := fun hh => by have := HR.out.2 hh; cases this
    go_upto_region 2 with fail
    go_wp2_with (refine wpList_store_cf rfl 47 (.tmp 6) (.tmp 11) rfl (w.heap.size + 2) zB [.int .i64 0, .bool false, .int .i64 0, .int .i64 0, .int .i64 0, .int .i64 0, .slice none 0 0, .slice none 0 0, .slice none 0 0, .slice none 0 0, .slice none 0 0, .slice none 0 0] rfl rfl R1 rfl Tryz.sizeBo (one12b _ _ _ _ _ _ _ _ _ _ _ _ _ _ _ _ _ _ _ _ _ _ _ _) ?_; intro w10 hc10 hg10)
    have k0 : w10.cell? ⟨w.heap.size + 2, 0, none⟩ = some (.int .i64 0) := (hc10 0 (by simp)).1
    have k1 : w10.cell? ⟨w.heap.size + 2, 1, none⟩ = some (.bool false) := (hc10 1 (by simp)).1
    have k2 : w10.cell? ⟨w.heap.size + 2, 2, none⟩ = some (.int .i64 0) := (hc10 2 (by simp)).1
    have k3 : w10.cell? ⟨w.heap.size + 2, 3, none⟩ = some (.int .i64 0) := (hc10 3 (by simp)).1
    have k4 : w10.cell? ⟨w.heap.size + 2, 4, none⟩ = some (.int .i64 0) := (hc10 4 (by simp)).1
    have k5 : w10.cell? ⟨w.heap.size + 2, 5, none⟩ = some (.int .i64 0) := (hc10 5 (by simp)).1
    have k6 : w10.cell? ⟨w.heap.size + 2, 6, none⟩ = some (.slice none 0 0) := (hc10 6 (by simp)).1
    have k7 : w10.cell? ⟨w.heap.size + 2, 7, none⟩ = some (.slice none 0 0) := (hc10 7 (by simp)).1
    have k8 : w10.cell? ⟨w.heap.size + 2, 8, none⟩ = some (.slice none 0 0) := (hc10 8 (by simp)).1
    have k9 : w10.cell? ⟨w.heap.size + 2, 9, none⟩ = some (.slice none 0 0) := (hc10 9 (by simp)).1
    have k10 : w10.cell? ⟨w.heap.size + 2, 10, none⟩ = some (.slice none 0 0) := (hc10 10 (by simp)).1
    have k11 : w10.cell? ⟨w.heap.size + 2, 11, none⟩ = some (.slice none 0 0) := (hc10 11 (by simp)).1
    exact bodyPost_ret (v := .agg #[.int .i64 0, .bool false, .int .i64 0, .int .i64 0, .int .i64 0, .int .i64 0, .slice none 0 0, .slice none 0 0, .slice none 0 0, .slice none 0 0, .slice none 0 0, .slice none 0 0]) (by simp [results, Tryz.results18, go_sem, k0, k1, k2, k3, k4, k5, k6, k7, k8, k9, k10, k11]) rfl ⟨⟨zBD, ⟨_, rfl, zBO _ _⟩, .inr ⟨HN.out, rfl⟩⟩, below_grown B1 hg10 (by omega) (fun q hq => by simp at hq; omega)⟩
  | true =>
    have HV : Hid (d.ok ts) := HR.out.1 rfl
    have hsm := hs'.out
    unfold BD.small at hsm
    obtain ⟨⟨b1, o1, h1⟩, ⟨b2, o2, h2⟩, ⟨b3, o3, h3⟩, ⟨b4, o4, h4⟩, ⟨b5, o5, h5⟩, ⟨b6, o6, h6⟩⟩ := hM
    have y1 : w1.cell? ⟨w.heap.size, 1, none⟩ = some (.bool d.up) := (P1 1 (by simp)).1
    cases hup : d.up with
    | false =>
      rw [hup] at y1
      go_upto_region 4 with fail
      clear y1
      have y0 : w1.cell? ⟨w.heap.size, 0, none⟩ = some (.int .i64 d.wk) := (P1 0 (by simp)).1
      have y1 : w1.cell? ⟨w.heap.size, 1, none⟩ = some (.bool d.up) := (P1 1 (by simp)).1
      have y2 : w1.cell? ⟨w.heap.size, 2, none⟩ = some (.int .i64 d.now) := (P1 2 (by simp)).1
      have y3 : w1.cell? ⟨w.heap.size, 3, none⟩ = some (.int .i64 d.sn) := (P1 3 (by simp)).1
      have y4 : w1.cell? ⟨w.heap.size, 4, none⟩ = some (.int .i64 d.ep) := (P1 4 (by simp)).1
      have y5 : w1.cell? ⟨w.heap.size, 5, none⟩ = some (.int .i64 d.gv) := (P1 5 (by simp)).1
      have y6 : w1.cell? ⟨w.heap.size, 6, none⟩ = some (.slice h.a1 d.L1.length h.c1) := (P1 6 (by simp)).1
      have y7 : w1.cell? ⟨w.heap.size, 7, none⟩ = some (.slice h.a2 d.L2.length h.c2) := (P1 7 (by simp)).1
      have y8 : w1.cell? ⟨w.heap.size, 8, none⟩ = some (.slice h.ar d.R.length h.cr) := (P1 8 (by simp)).1
      have y9 : w1.cell? ⟨w.heap.size, 9, none⟩ = some (.slice h.aj d.J.length h.cj) := (P1 9 (by simp)).1
      have y10 : w1.cell? ⟨w.heap.size, 10, none⟩ = some (.slice h.az d.S.length h.cs) := (P1 10 (by simp)).1
      have y11 : w1.cell? ⟨w.heap.size, 11, none⟩ = some (.slice h.ao d.O.length h.co) := (P1 11 (by simp)).1
      have HUP := hid hup
      clear hup
      go_wp2_with (first | (go_at_call 52; refine (l5Copy_any d.wk d.up d.now d.sn d.ep d.gv h.a1 h.a2 h.ar h.aj h.az h.ao b1 o1 _ h.c1 b2 o2 _ h.c2 b3 o3 _ h.cr b4 o4 _ h.cj b5 o5 _ h.cs b6 o6 _ h.co d.L1 d.L2 d.R d.J d.S d.O _ (h1.below' B1) (h2.below' B1) (h3.below' B1) (h4.below' B1) (h5.below' B1) (h6.below' B1) (by omega) (by omega) (by omega) (by omega) (by omega) (by omega)).mono ?_; rintro e w2 ⟨a0_, c0_, a1_, c1_, a2_, c2_, a3_, c3_, a4_, c4_, a5_, c5_, rfl, ⟨q0, q1, q2, q3, q4, q5⟩, hdis, hb2⟩; have R2 := R1.block (hb2.block (w.heap.size + 2) (by omega)); have B2 := B1.trans (hb2.mono B1.size); have z2 : w.heap.size + 3 ≤ w2.heap.size := (by have := hb2.size; omega)) | (refine wpList_store_cf rfl 47 (.tmp 6) (.tmp 16) rfl (w.heap.size + 2) zB [.int .i64 d.wk, .bool d.up, .int .i64 d.now, .int .i64 d.sn, .int .i64 d.ep, .int .i64 d.gv, .slice a0_ d.L1.length c0_, .slice a1_ d.L2.length c1_, .slice a2_ d.R.length c2_, .slice a3_ d.J.length c3_, .slice a4_ d.S.length c4_, .slice a5_ d.O.length c5_] rfl rfl R2 rfl Tryz.sizeBo (one12b _ _ _ _ _ _ _ _ _ _ _ _ _ _ _ _ _ _ _ _ _ _ _ _) ?_; intro w10 hc10 hg10))
      have k0 : w10.cell? ⟨w.heap.size + 2, 0, none⟩ = some (.int .i64 d.wk) := (hc10 0 (by simp)).1
      have k1 : w10.cell? ⟨w.heap.size + 2, 1, none⟩ = some (.bool d.up) := (hc10 1 (by simp)).1
      have k2 : w10.cell? ⟨w.heap.size + 2, 2, none⟩ = some (.int .i64 d.now) := (hc10 2 (by simp)).1
      have k3 : w10.cell? ⟨w.heap.size + 2, 3, none⟩ = some (.int .i64 d.sn) := (hc10 3 (by simp)).1
      have k4 : w10.cell? ⟨w.heap.size + 2, 4, none⟩ = some (.int .i64 d.ep) := (hc10 4 (by simp)).1
      have k5 : w10.cell? ⟨w.heap.size + 2, 5, none⟩ = some (.int .i64 d.gv) := (hc10 5 (by simp)).1
      have k6 : w10.cell? ⟨w.heap.size + 2, 6, none⟩ = some (.slice a0_ d.L1.length c0_) := (hc10 6 (by simp)).1
      have k7 : w10.cell? ⟨w.heap.size + 2, 7, none⟩ = some (.slice a1_ d.L2.length c1_) := (hc10 7 (by simp)).1
      have k8 : w10.cell? ⟨w.heap.size + 2, 8, none⟩ = some (.slice a2_ d.R.length c2_) := (hc10 8 (by simp)).1
      have k9 : w10.cell? ⟨w.heap.size + 2, 9, none⟩ = some (.slice a3_ d.J.length c3_) := (hc10 9 (by simp)).1
      have k10 : w10.cell? ⟨w.heap.size + 2, 10, none⟩ = some (.slice a4_ d.S.length c4_) := (hc10 10 (by simp)).1
      have k11 : w10.cell? ⟨w.heap.size + 2, 11, none⟩ = some (.slice a5_ d.O.length c5_) := (hc10 11 (by simp)).1
      exact bodyPost_ret (v := .agg #[.int .i64 d.wk, .bool d.up, .int .i64 d.now, .int .i64 d.sn, .int .i64 d.ep, .int .i64 d.gv, .slice a0_ d.L1.length c0_, .slice a1_ d.L2.length c1_, .slice a2_ d.R.length c2_, .slice a3_ d.J.length c3_, .slice a4_ d.S.length c4_, .slice a5_ d.O.length c5_]) (by simp [results, Tryz.results18, go_sem, k0, k1, k2, k3, k4, k5, k6, k7, k8, k9, k10, k11]) rfl ⟨⟨d, ⟨⟨a0_, a1_, a2_, a3_, a4_, a5_, c0_, c1_, c2_, c3_, c4_, c5_⟩, rfl, ⟨(q0.grown hg10 (.inr (by intro hh; have := q0.row_lo _ hh; omega))).mono' (by omega), (q1.grown hg10 (.inr (by intro hh; have := q1.row_lo _ hh; omega))).mono' (by omega), (q2.grown hg10 (.inr (by intro hh; have := q2.row_lo _ hh; omega))).mono' (by omega), (q3.grown hg10 (.inr (by intro hh; have := q3.row_lo _ hh; omega))).mono' (by omega), (q4.grown hg10 (.inr (by intro hh; have := q4.row_lo _ hh; omega))).mono' (by omega), (q5.grown hg10 (.inr (by intro hh; have := q5.row_lo _ hh; omega))).mono' (by omega), hdis⟩⟩, .inl ⟨HV.out, BD.down HV.out HUP.out keep⟩⟩, below_grown B2 hg10 (by omega) (fun q hq => by simp at hq; omega)⟩
    | true =>
      rw [hup] at y1
      have y7 : w1.cell? ⟨w.heap.size, 7, none⟩ = some (.slice h.a2 d.L2.length h.c2) := (P1 7 (by simp)).1
      clear hup
      by_cases c1 : keep < 0
      · have c2 : ¬ (d.L2.length : Int) < 0 := by omega
        go_upto_region 9 with fail
        clear y1 y7
        obtain ⟨K, hK⟩ : ∃ K, K = keptN keep d.L2.length := ⟨_, rfl⟩
        have e7 : 0 = ((K : Nat) : Int) := by rw [hK]; unfold keptN; omega
        have hKl : K ≤ d.L2.length := by rw [hK]; exact keptN_le _ _
        have HK := hid hK
        clear hK
        obtain ⟨U, hU⟩ : ∃ U, U = w1.drew := ⟨_, rfl⟩
        have Pd : CF U w.heap.size [.int .i64 d.wk, .bool d.up, .int .i64 d.now, .int .i64 d.sn, .int .i64 d.ep, .int .i64 d.gv, .slice h.a1 d.L1.length h.c1, .slice h.a2 d.L2.length h.c2, .slice h.ar d.R.length h.cr, .slice h.aj d.J.length h.cj, .slice h.az d.S.length h.cs, .slice h.ao d.O.length h.co] := by rw [hU]; exact P1
        have Rd : CF U (w.heap.size + 2) zB := by rw [hU]; exact R1
        have Bd : Below w.heap.size w U := by rw [hU]; exact B1.drew
        have zd : w.heap.size + 3 ≤ U.heap.size := by rw [hU]; exact z1
        obtain ⟨E, hE⟩ : ∃ E, E = U.alloc (.cells #[] 9) := ⟨_, rfl⟩
        have hown0 : Own (w.heap.size + 3) E 1 (.slice (some ⟨U.heap.size, 0, none⟩) 0 0) 0 [] := by rw [hE]; exact bsOwn U _ zd
        have PE : CF E w.heap.size [.int .i64 d.wk, .bool d.up, .int .i64 d.now, .int .i64 d.sn, .int .i64 d.ep, .int .i64 d.gv, .slice h.a1 d.L1.length h.c1, .slice h.a2 d.L2.length h.c2, .slice h.ar d.R.length h.cr, .slice h.aj d.J.length h.cj, .slice h.az d.S.length h.cs, .slice h.ao d.O.length h.co] := by rw [hE]; exact Pd.block (Below.heap_alloc _ _ _ (by omega))
        have RE : CF E (w.heap.size + 2) zB := by rw [hE]; exact Rd.block (Below.heap_alloc _ _ _ (by omega))
        have BE : Below w.heap.size w E := by rw [hE]; exact Bd.alloc Bd.size _
        have zE : w.heap.size + 3 ≤ E.heap.size := by rw [hE]; simp; omega
        obtain ⟨a9, c9, w3, hr3, ho3, hg3, _⟩ := app0 w E (w.heap.size + 3) BE zE h.c1 h1 (by omega) hown0
        have hrow0 := hown0.row_lo
        have P3 := PE.block (hg3.block w.heap.size (by omega) (fun e => by have := hrow0 _ e.symm; omega))
        have R3 := RE.block (hg3.block (w.heap.size + 2) (by omega) (fun e => by have := hrow0 _ e.symm; omega))
        have B3 := below_grown BE hg3 (by omega) (fun q hq => by have := hrow0 q hq; omega)
        have z3 : w.heap.size + 3 ≤ w3.heap.size := Nat.le_trans zE hg3.size
        obtain ⟨v1, w4, hr1, ho4, hg4, _⟩ := run_append_c (P := Tryz.prog) w3 (w.heap.size + 3) 25 25 25 9 i0 (.string ⟨#[]⟩) 1 16 Tryz.underlying25 hi0 hz00 hz01 hz02 rfl _ d.L1.length _ ho3 _ K _ (((h2.below' B3).takeP K hKl).srcS h.c2) (by unfold maxLen; omega) (by omega) z3
        rw [← List.map_append] at ho4
        obtain ⟨a', c', rfl⟩ := ho4.slc
        have hrow := ho3.row_lo
        have P4 := P3.block (hg4.block w.heap.size (by omega) (fun e => by have := hrow _ e.symm; omega))
        have R4 := R3.block (hg4.block (w.heap.size + 2) (by omega) (fun e => by have := hrow _ e.symm; omega))
        have B4 := below_grown B3 hg4 (by omega) (fun q hq => by have := hrow q hq; omega)
        have z4 : w.heap.size + 3 ≤ w4.heap.size := Nat.le_trans z3 hg4.size
        obtain ⟨w5, hw5⟩ : ∃ w5, w5 = w4.setCells (w.heap.size + 2) 0 [.int .i64 d.wk, .bool false, .int .i64 d.now, .int .i64 0, .int .i64 0, .int .i64 0, .slice a' (d.L1.length + K) c', .slice none 0 0, .slice none 0 0, .slice none 0 0, .slice none 0 0, .slice none 0 0] := ⟨_, rfl⟩
        have P5f : w4.grownBy w5 (some (w.heap.size + 2)) := by rw [hw5]; exact grown_setCells _ _ _ _ _ (World.grownBy.refl _ _)
        have hc5 : CF w5 (w.heap.size + 2) [.int .i64 d.wk, .bool false, .int .i64 d.now, .int .i64 0, .int .i64 0, .int .i64 0, .slice a' (d.L1.length + K) c', .slice none 0 0, .slice none 0 0, .slice none 0 0, .slice none 0 0, .slice none 0 0] := by rw [hw5]; exact R4.stored rfl
        have P5 := P4.block (P5f.block w.heap.size (by omega) (by intro hh; injection hh with hh; omega))
        have ho5 := ho4.grown P5f (.inr (by intro hh; have := ho4.row_lo _ hh; omega))
        have B5 := below_grown B4 P5f (by omega) (fun q hq => by simp at hq; omega)
        have HO : Hid (BossO w5 w.heap.size (fallB d keep) ⟨a', none, none, none, none, none, c', 0, 0, 0, 0, 0⟩) := by
          have hl : (d.L1 ++ d.L2.take K).length = d.L1.length + K := by rw [List.length_append, List.length_take]; omega
          have := oneBO w5 w.heap.size d.wk d.now (d.L1 ++ d.L2.take K) a' c' (by rw [hl]; exact ho5.mono' (by omega))
          rw [HK.out] at this
          exact this
        have HB5 := hid B5
        have HL : Hid (d.L1.length + K = (fallB d keep).L1.length) := by show _ = (d.L1 ++ d.L2.take (keptN keep d.L2.length)).length; rw [← HK.out, List.length_append, List.length_take]; show _ = _; omega
        have hsl : Hid (∀ (ρ : Operand → Value) (o : Oper) (w : World) (x y : Operand), o.op = .slice 25 x none (some y) none → ρ x = .slice h.a2 d.L2.length h.c2 → ρ y = .int .i64 (0) → (execOp ρ o).run Tryz.prog w = .ok (.value (.slice h.a2 K h.c2)) w) := hid (fun ρ o w x y ho hx hy => by
          rw [HA2.out]
          rw [HA2.out] at hx
          exact run_sl x y g2 0 d.L2.length h.c2 K (Nat.le_trans hKl hc2) ho hx (by rw [hy, e7]))
        clear hown0 ho3 ho4 ho5 hg3 hg4 hrow hrow0 Bd BE B3 B4 B5 P5f h1 h2 h3 h4 h5 h6 hsm hKl HK hT e7 RE R3 HA2 hc2
        refine wp_region_held (S := fun w' => CF w' w.heap.size [.int .i64 d.wk, .bool d.up, .int .i64 d.now, .int .i64 d.sn, .int .i64 d.ep, .int .i64 d.gv, .slice h.a1 d.L1.length h.c1, .slice h.a2 d.L2.length h.c2, .slice h.ar d.R.length h.cr, .slice h.aj d.J.length h.cj, .slice h.az d.S.length h.cs, .slice h.ao d.O.length h.co]) (by kernel_rfl) ?_
        change wpAnyH _ _ _ _ _ _ _ _ (World.drew _)
        rw [← hU]
        clear hU P1 R1 B1 z1
        refine hTake (i := 0) (d := some 29) (v := .pointer (some ⟨w.heap.size, 0, none⟩)) (l' := #[true, false, false, false, false, false, false, false, false, false, false, false, false, false, false, false, false, false]) rfl (by kernel_rfl) (by kernel_rfl) (by kernel_rfl) (by kernel_rfl) (fun _ _ _ h => h) (by kernel_rfl) (fun _ hc => by kernel_rfl) Pd (by kernel_rfl) ?_
        refine hTake (i := 1) (d := some 30) (v := .int .i64 d.wk) (l' := #[true, true, false, false, false, false, false, false, false, false, false, false, false, false, false, false, false, false]) rfl (by kernel_rfl) (by kernel_rfl) (by kernel_rfl) (by kernel_rfl) (fun _ _ _ h => h) (by kernel_rfl) (fun _ hc => run_ldI (.tmp 29) (by kernel_rfl) (by kernel_rfl) (hc 0 (by simp)).1) Pd (by kernel_rfl) ?_
        refine hTake (i := 2) (d := some 31) (v := .pointer (some ⟨w.heap.size, 2, none⟩)) (l' := #[true, true, true, false, false, false, false, false, false, false, false, false, false, false, false, false, false, false]) rfl (by kernel_rfl) (by kernel_rfl) (by kernel_rfl) (by kernel_rfl) (fun _ _ _ h => h) (by kernel_rfl) (fun _ hc => by kernel_rfl) Pd (by kernel_rfl) ?_
        refine hTake (i := 3) (d := some 32) (v := .int .i64 d.now) (l' := #[true, true, true, true, false, false, false, false, false, false, false, false, false, false, false, false, false, false]) rfl (by kernel_rfl) (by kernel_rfl) (by kernel_rfl) (by kernel_rfl) (fun _ _ _ h => h) (by kernel_rfl) (fun _ hc => run_ldI (.tmp 31) (by kernel_rfl) (by kernel_rfl) (hc 2 (by simp)).1) Pd (by kernel_rfl) ?_
        refine hTake (i := 5) (d := some 34) (v := .pointer (some ⟨w.heap.size, 6, none⟩)) (l' := #[true, true, true, true, false, true, false, false, false, false, false, false, false, false, false, false, false, false]) rfl (by kernel_rfl) (by kernel_rfl) (by kernel_rfl) (by kernel_rfl) (fun _ _ _ h => h) (by kernel_rfl) (fun _ hc => by kernel_rfl) Pd (by kernel_rfl) ?_
        refine hTake (i := 6) (d := some 35) (v := .pointer (some ⟨w.heap.size, 6, none⟩)) (l' := #[true, true, true, true, false, true, true, false, false, false, false, false, false, false, false, false, false, false]) rfl (by kernel_rfl) (by kernel_rfl) (by kernel_rfl) (by kernel_rfl) (fun _ _ _ h => h) (by kernel_rfl) (fun _ hc => by kernel_rfl) Pd (by kernel_rfl) ?_
        refine hTake (i := 7) (d := some 36) (v := .slice h.a1 d.L1.length h.c1) (l' := #[true, true, true, true, false, true, true, true, false, false, false, false, false, false, false, false, false, false]) rfl (by kernel_rfl) (by kernel_rfl) (by kernel_rfl) (by kernel_rfl) (fun _ _ _ h => h) (by kernel_rfl) (fun _ hc => run_ldss (.tmp 35) (by kernel_rfl) (by kernel_rfl) (hc 6 (by simp)).1) Pd (by kernel_rfl) ?_
        refine hTake (i := 9) (d := some 38) (v := .pointer (some ⟨w.heap.size, 6, none⟩)) (l' := #[true, true, true, true, false, true, true, true, false, true, false, false, false, false, false, false, false, false]) rfl (by kernel_rfl) (by kernel_rfl) (by kernel_rfl) (by kernel_rfl) (fun _ _ _ h => h) (by kernel_rfl) (fun _ hc => by kernel_rfl) Pd (by kernel_rfl) ?_
        refine hTake (i := 10) (d := some 39) (v := .pointer (some ⟨w.heap.size, 7, none⟩)) (l' := #[true, true, true, true, false, true, true, true, false, true, true, false, false, false, false, false, false, false]) rfl (by kernel_rfl) (by kernel_rfl) (by kernel_rfl) (by kernel_rfl) (fun _ _ _ h => h) (by kernel_rfl) (fun _ hc => by kernel_rfl) Pd (by kernel_rfl) ?_
        refine hTake (i := 11) (d := some 40) (v := .slice h.a2 d.L2.length h.c2) (l' := #[true, true, true, true, false, true, true, true, false, true, true, true, false, false, false, false, false, false]) rfl (by kernel_rfl) (by kernel_rfl) (by kernel_rfl) (by kernel_rfl) (fun _ _ _ h => h) (by kernel_rfl) (fun _ hc => run_ldss (.tmp 39) (by kernel_rfl) (by kernel_rfl) (hc 7 (by simp)).1) Pd (by kernel_rfl) ?_
        refine hTake (i := 12) (d := some 41) (v := .int .i64 (0)) (l' := #[true, true, true, true, false, true, true, true, false, true, true, true, true, false, false, false, false, false]) rfl (by kernel_rfl) (by kernel_rfl) (by kernel_rfl) (by kernel_rfl) (fun _ _ _ h => h) (by kernel_rfl) (fun _ hc => by kernel_rfl) Pd (by kernel_rfl) ?_
        refine hTake (i := 13) (d := some 42) (v := .slice h.a2 K h.c2) (l' := #[true, true, true, true, false, true, true, true, false, true, true, true, true, true, false, false, false, false]) rfl (by kernel_rfl) (by kernel_rfl) (by kernel_rfl) (by kernel_rfl) (fun _ _ _ h => h) (by kernel_rfl) (fun _ hc => hsl.out _ _ _ (.tmp 40) (.tmp 41) (by kernel_rfl) (by kernel_rfl) (by kernel_rfl)) Pd (by kernel_rfl) ?_
        refine hOne (i := 4) (by kernel_rfl) (hVal (i := 4) (d := some 33) (v := .slice (some ⟨U.heap.size, 0, none⟩) 0 0) (w' := E) (l' := #[true, true, true, true, true, true, true, true, false, true, true, true, true, true, false, false, false, false]) rfl (by kernel_rfl) (by kernel_rfl) (by kernel_rfl) (by rw [hE]; exact run_bs0 (by kernel_rfl)) PE ?_)
        refine hOne (i := 8) (by kernel_rfl) (hVal (i := 8) (d := some 37) (v := .slice a9 d.L1.length c9) (w' := w3) (l' := #[true, true, true, true, true, true, true, true, true, true, true, true, true, true, false, false, false, false]) rfl (by kernel_rfl) (by kernel_rfl) (by kernel_rfl) (run_app (.tmp 33) (.tmp 36) 25 25 (by kernel_rfl) (by kernel_rfl) (by kernel_rfl) (by kernel_rfl) hr3) P3 ?_)
        refine hOne (i := 14) (by kernel_rfl) (hVal (i := 14) (d := some 43) (v := .slice a' (d.L1.length + K) c') (w' := w4) (l' := #[true, true, true, true, true, true, true, true, true, true, true, true, true, true, true, false, false, false]) rfl (by kernel_rfl) (by kernel_rfl) (by kernel_rfl) (run_app (.tmp 37) (.tmp 42) 25 25 (by kernel_rfl) (by kernel_rfl) (by kernel_rfl) (by kernel_rfl) hr1) P4 ?_)
        refine hTake (i := 15) (d := some 44) (v := .agg #[.slice a' (d.L1.length + K) c', .slice none 0 0]) (l' := #[true, true, true, true, true, true, true, true, true, true, true, true, true, true, true, true, false, false]) rfl (by kernel_rfl) (by kernel_rfl) (by kernel_rfl) (by kernel_rfl) (fun _ _ _ h => h) (by kernel_rfl) (fun _ hc => run_b42 (.tmp 43) (by kernel_rfl) (by kernel_rfl)) P4 (by kernel_rfl) ?_
        refine hTake (i := 16) (d := some 45) (v := .agg #[.int .i64 d.wk, .bool false, .int .i64 d.now, .int .i64 0, .int .i64 0, .int .i64 0, .slice a' (d.L1.length + K) c', .slice none 0 0, .slice none 0 0, .slice none 0 0, .slice none 0 0, .slice none 0 0]) (l' := #[true, true, true, true, true, true, true, true, true, true, true, true, true, true, true, true, true, false]) rfl (by kernel_rfl) (by kernel_rfl) (by kernel_rfl) (by kernel_rfl) (fun _ _ _ h => h) (by kernel_rfl) (fun _ hc => run_b47 (.tmp 30) (.tmp 32) (.tmp 44) (by kernel_rfl) (by kernel_rfl) (by kernel_rfl) (by kernel_rfl)) P4 (by kernel_rfl) ?_
        refine hOne (i := 17) (by kernel_rfl) (hSkip (i := 17) (w' := w5) (l' := #[true, true, true, true, true, true, true, true, true, true, true, true, true, true, true, true, true, true]) rfl (by kernel_rfl) (by kernel_rfl) (by kernel_rfl) (by rw [hw5]; exact run_stT 47 zB [.int .i64 d.wk, .bool false, .int .i64 d.now, .int .i64 0, .int .i64 0, .int .i64 0, .slice a' (d.L1.length + K) c', .slice none 0 0, .slice none 0 0, .slice none 0 0, .slice none 0 0, .slice none 0 0] (.tmp 6) (.tmp 45) (by kernel_rfl) (by kernel_rfl) (by kernel_rfl) R4 rfl Tryz.sizeBo (one12b _ _ _ _ _ _ _ _ _ _ _ _ _ _ _ _ _ _ _ _ _ _ _ _)) P5 ?_)
        have k0 : w5.cell? ⟨w.heap.size + 2, 0, none⟩ = some (.int .i64 d.wk) := (hc5 0 (by simp)).1
        have k1 : w5.cell? ⟨w.heap.size + 2, 1, none⟩ = some (.bool false) := (hc5 1 (by simp)).1
        have k2 : w5.cell? ⟨w.heap.size + 2, 2, none⟩ = some (.int .i64 d.now) := (hc5 2 (by simp)).1
        have k3 : w5.cell? ⟨w.heap.size + 2, 3, none⟩ = some (.int .i64 0) := (hc5 3 (by simp)).1
        have k4 : w5.cell? ⟨w.heap.size + 2, 4, none⟩ = some (.int .i64 0) := (hc5 4 (by simp)).1
        have k5 : w5.cell? ⟨w.heap.size + 2, 5, none⟩ = some (.int .i64 0) := (hc5 5 (by simp)).1
        have k6 : w5.cell? ⟨w.heap.size + 2, 6, none⟩ = some (.slice a' (d.L1.length + K) c') := (hc5 6 (by simp)).1
        have k7 : w5.cell? ⟨w.heap.size + 2, 7, none⟩ = some (.slice none 0 0) := (hc5 7 (by simp)).1
        have k8 : w5.cell? ⟨w.heap.size + 2, 8, none⟩ = some (.slice none 0 0) := (hc5 8 (by simp)).1
        have k9 : w5.cell? ⟨w.heap.size + 2, 9, none⟩ = some (.slice none 0 0) := (hc5 9 (by simp)).1
        have k10 : w5.cell? ⟨w.heap.size + 2, 10, none⟩ = some (.slice none 0 0) := (hc5 10 (by simp)).1
        have k11 : w5.cell? ⟨w.heap.size + 2, 11, none⟩ = some (.slice none 0 0) := (hc5 11 (by simp)).1
        refine wpAnyH_done (by kernel_rfl) ?_ _
        go_wp2
        refine bodyPost_ret (v := .agg #[.int .i64 d.wk, .bool false, .int .i64 d.now, .int .i64 0, .int .i64 0, .int .i64 0, .slice a' (d.L1.length + K) c', .slice none 0 0, .slice none 0 0, .slice none 0 0, .slice none 0 0, .slice none 0 0]) (by simp [results, Tryz.results18, go_sem, k0, k1, k2, k3, k4, k5, k6, k7, k8, k9, k10, k11]) rfl ⟨⟨fallB d keep, ⟨_, ?_, HO.out⟩, .inl ⟨HV.out, rfl⟩⟩, HB5.out⟩
        rw [HL.out]; rfl
      · by_cases c2 : (d.L2.length : Int) < keep
        · go_upto_region 9 with fail
          clear y1 y7
          obtain ⟨K, hK⟩ : ∃ K, K = keptN keep d.L2.length := ⟨_, rfl⟩
          have e7 : (d.L2.length : Int) = ((K : Nat) : Int) := by rw [hK]; unfold keptN; omega
          have hKl : K ≤ d.L2.length := by rw [hK]; exact keptN_le _ _
          have HK := hid hK
          clear hK
          obtain ⟨U, hU⟩ : ∃ U, U = w1.drew := ⟨_, rfl⟩
          have Pd : CF U w.heap.size [.int .i64 d.wk, .bool d.up, .int .i64 d.now, .int .i64 d.sn, .int .i64 d.ep, .int .i64 d.gv, .slice h.a1 d.L1.length h.c1, .slice h.a2 d.L2.length h.c2, .slice h.ar d.R.length h.cr, .slice h.aj d.J.length h.cj, .slice h.az d.S.length h.cs, .slice h.ao d.O.length h.co] := by rw [hU]; exact P1
          have Rd : CF U (w.heap.size + 2) zB := by rw [hU]; exact R1
          have Bd : Below w.heap.size w U := by rw [hU]; exact B1.drew
          have zd : w.heap.size + 3 ≤ U.heap.size := by rw [hU]; exact z1
          obtain ⟨E, hE⟩ : ∃ E, E = U.alloc (.cells #[] 9) := ⟨_, rfl⟩
          have hown0 : Own (w.heap.size + 3) E 1 (.slice (some ⟨U.heap.size, 0, none⟩) 0 0) 0 [] := by rw [hE]; exact bsOwn U _ zd
          have PE : CF E w.heap.size [.int .i64 d.wk, .bool d.up, .int .i64 d.now, .int .i64 d.sn, .int .i64 d.ep, .int .i64 d.gv, .slice h.a1 d.L1.length h.c1, .slice h.a2 d.L2.length h.c2, .slice h.ar d.R.length h.cr, .slice h.aj d.J.length h.cj, .slice h.az d.S.length h.cs, .slice h.ao d.O.length h.co] := by rw [hE]; exact Pd.block (Below.heap_alloc _ _ _ (by omega))
          have RE : CF E (w.heap.size + 2) zB := by rw [hE]; exact Rd.block (Below.heap_alloc _ _ _ (by omega))
          have BE : Below w.heap.size w E := by rw [hE]; exact Bd.alloc Bd.size _
          have zE : w.heap.size + 3 ≤ E.heap.size := by rw [hE]; simp; omega
          obtain ⟨a9, c9, w3, hr3, ho3, hg3, _⟩ := app0 w E (w.heap.size + 3) BE zE h.c1 h1 (by omega) hown0
          have hrow0 := hown0.row_lo
          have P3 := PE.block (hg3.block w.heap.size (by omega) (fun e => by have := hrow0 _ e.symm; omega))
          have R3 := RE.block (hg3.block (w.heap.size + 2) (by omega) (fun e => by have := hrow0 _ e.symm; omega))
          have B3 := below_grown BE hg3 (by omega) (fun q hq => by have := hrow0 q hq; omega)
          have z3 : w.heap.size + 3 ≤ w3.heap.size := Nat.le_trans zE hg3.size
          obtain ⟨v1, w4, hr1, ho4, hg4, _⟩ := run_append_c (P := Tryz.prog) w3 (w.heap.size + 3) 25 25 25 9 i0 (.string ⟨#[]⟩) 1 16 Tryz.underlying25 hi0 hz00 hz01 hz02 rfl _ d.L1.length _ ho3 _ K _ (((h2.below' B3).takeP K hKl).srcS h.c2) (by unfold maxLen; omega) (by omega) z3
          rw [← List.map_append] at ho4
          obtain ⟨a', c', rfl⟩ := ho4.slc
          have hrow := ho3.row_lo
          have P4 := P3.block (hg4.block w.heap.size (by omega) (fun e => by have := hrow _ e.symm; omega))
          have R4 := R3.block (hg4.block (w.heap.size + 2) (by omega) (fun e => by have := hrow _ e.symm; omega))
          have B4 := below_grown B3 hg4 (by omega) (fun q hq => by have := hrow q hq; omega)
          have z4 : w.heap.size + 3 ≤ w4.heap.size := Nat.le_trans z3 hg4.size
          obtain ⟨w5, hw5⟩ : ∃ w5, w5 = w4.setCells (w.heap.size + 2) 0 [.int .i64 d.wk, .bool false, .int .i64 d.now, .int .i64 0, .int .i64 0, .int .i64 0, .slice a' (d.L1.length + K) c', .slice none 0 0, .slice none 0 0, .slice none 0 0, .slice none 0 0, .slice none 0 0] := ⟨_, rfl⟩
          have P5f : w4.grownBy w5 (some (w.heap.size + 2)) := by rw [hw5]; exact grown_setCells _ _ _ _ _ (World.grownBy.refl _ _)
          have hc5 : CF w5 (w.heap.size + 2) [.int .i64 d.wk, .bool false, .int .i64 d.now, .int .i64 0, .int .i64 0, .int .i64 0, .slice a' (d.L1.length + K) c', .slice none 0 0, .slice none 0 0, .slice none 0 0, .slice none 0 0, .slice none 0 0] := by rw [hw5]; exact R4.stored rfl
          have P5 := P4.block (P5f.block w.heap.size (by omega) (by intro hh; injection hh with hh; omega))
          have ho5 := ho4.grown P5f (.inr (by intro hh; have := ho4.row_lo _ hh; omega))
          have B5 := below_grown B4 P5f (by omega) (fun q hq => by simp at hq; omega)
          have HO : Hid (BossO w5 w.heap.size (fallB d keep) ⟨a', none, none, none, none, none, c', 0, 0, 0, 0, 0⟩) := by
            have hl : (d.L1 ++ d.L2.take K).length = d.L1.length + K := by rw [List.length_append, List.length_take]; omega
            have := oneBO w5 w.heap.size d.wk d.now (d.L1 ++ d.L2.take K) a' c' (by rw [hl]; exact ho5.mono' (by omega))
            rw [HK.out] at this
            exact this
          have HB5 := hid B5
          have HL : Hid (d.L1.length + K = (fallB d keep).L1.length) := by show _ = (d.L1 ++ d.L2.take (keptN keep d.L2.length)).length; rw [← HK.out, List.length_append, List.length_take]; show _ = _; omega
          have hsl : Hid (∀ (ρ : Operand → Value) (o : Oper) (w : World) (x y : Operand), o.op = .slice 25 x none (some y) none → ρ x = .slice h.a2 d.L2.length h.c2 → ρ y = .int .i64 ((d.L2.length : Int)) → (execOp ρ o).run Tryz.prog w = .ok (.value (.slice h.a2 K h.c2)) w) := hid (fun ρ o w x y ho hx hy => by
            rw [HA2.out]
            rw [HA2.out] at hx
            exact run_sl x y g2 0 d.L2.length h.c2 K (Nat.le_trans hKl hc2) ho hx (by rw [hy, e7]))
          clear hown0 ho3 ho4 ho5 hg3 hg4 hrow hrow0 Bd BE B3 B4 B5 P5f h1 h2 h3 h4 h5 h6 hsm hKl HK hT e7 RE R3 HA2 hc2
          refine wp_region_held (S := fun w' => CF w' w.heap.size [.int .i64 d.wk, .bool d.up, .int .i64 d.now, .int .i64 d.sn, .int .i64 d.ep, .int .i64 d.gv, .slice h.a1 d.L1.length h.c1, .slice h.a2 d.L2.length h.c2, .slice h.ar d.R.length h.cr, .slice h.aj d.J.length h.cj, .slice h.az d.S.length h.cs, .slice h.ao d.O.length h.co]) (by kernel_rfl) ?_
          change wpAnyH _ _ _ _ _ _ _ _ (World.drew _)
          rw [← hU]
          clear hU P1 R1 B1 z1
          refine hTake (i := 0) (d := some 29) (v := .pointer (some ⟨w.heap.size, 0, none⟩)) (l' := #[true, false, false, false, false, false, false, false, false, false, false, false, false, false, false, false, false, false]) rfl (by kernel_rfl) (by kernel_rfl) (by kernel_rfl) (by kernel_rfl) (fun _ _ _ h => h) (by kernel_rfl) (fun _ hc => by kernel_rfl) Pd (by kernel_rfl) ?_
          refine hTake (i := 1) (d := some 30) (v := .int .i64 d.wk) (l' := #[true, true, false, false, false, false, false, false, false, false, false, false, false, false, false, false, false, false]) rfl (by kernel_rfl) (by kernel_rfl) (by kernel_rfl) (by kernel_rfl) (fun _ _ _ h => h) (by kernel_rfl) (fun _ hc => run_ldI (.tmp 29) (by kernel_rfl) (by kernel_rfl) (hc 0 (by simp)).1) Pd (by kernel_rfl) ?_
          refine hTake (i := 2) (d := some 31) (v := .pointer (some ⟨w.heap.size, 2, none⟩)) (l' := #[true, true, true, false, false, false, false, false, false, false, false, false, false, false, false, false, false, false]) rfl (by kernel_rfl) (by kernel_rfl) (by kernel_rfl) (by kernel_rfl) (fun _ _ _ h => h) (by kernel_rfl) (fun _ hc => by kernel_rfl) Pd (by kernel_rfl) ?_
          refine hTake (i := 3) (d := some 32) (v := .int .i64 d.now) (l' := #[true, true, true, true, false, false, false, false, false, false, false, false, false, false, false, false, false, false]) rfl (by kernel_rfl) (by kernel_rfl) (by kernel_rfl) (by kernel_rfl) (fun _ _ _ h => h) (by kernel_rfl) (fun _ hc => run_ldI (.tmp 31) (by kernel_rfl) (by kernel_rfl) (hc 2 (by simp)).1) Pd (by kernel_rfl) ?_
          refine hTake (i := 5) (d := some 34) (v := .pointer (some ⟨w.heap.size, 6, none⟩)) (l' := #[true, true, true, true, false, true, false, false, false, false, false, false, false, false, false, false, false, false]) rfl (by kernel_rfl) (by kernel_rfl) (by kernel_rfl) (by kernel_rfl) (fun _ _ _ h => h) (by kernel_rfl) (fun _ hc => by kernel_rfl) Pd (by kernel_rfl) ?_
          refine hTake (i := 6) (d := some 35) (v := .pointer (some ⟨w.heap.size, 6, none⟩)) (l' := #[true, true, true, true, false, true, true, false, false, false, false, false, false, false, false, false, false, false]) rfl (by kernel_rfl) (by kernel_rfl) (by kernel_rfl) (by kernel_rfl) (fun _ _ _ h => h) (by kernel_rfl) (fun _ hc => by kernel_rfl) Pd (by kernel_rfl) ?_
          refine hTake (i := 7) (d := some 36) (v := .slice h.a1 d.L1.length h.c1) (l' := #[true, true, true, true, false, true, true, true, false, false, false, false, false, false, false, false, false, false]) rfl (by kernel_rfl) (by kernel_rfl) (by kernel_rfl) (by kernel_rfl) (fun _ _ _ h => h) (by kernel_rfl) (fun _ hc => run_ldss (.tmp 35) (by kernel_rfl) (by kernel_rfl) (hc 6 (by simp)).1) Pd (by kernel_rfl) ?_
          refine hTake (i := 9) (d := some 38) (v := .pointer (some ⟨w.heap.size, 6, none⟩)) (l' := #[true, true, true, true, false, true, true, true, false, true, false, false, false, false, false, false, false, false]) rfl (by kernel_rfl) (by kernel_rfl) (by kernel_rfl) (by kernel_rfl) (fun _ _ _ h => h) (by kernel_rfl) (fun _ hc => by kernel_rfl) Pd (by kernel_rfl) ?_
          refine hTake (i := 10) (d := some 39) (v := .pointer (some ⟨w.heap.size, 7, none⟩)) (l' := #[true, true, true, true, false, true, true, true, false, true, true, false, false, false, false, false, false, false]) rfl (by kernel_rfl) (by kernel_rfl) (by kernel_rfl) (by kernel_rfl) (fun _ _ _ h => h) (by kernel_rfl) (fun _ hc => by kernel_rfl) Pd (by kernel_rfl) ?_
          refine hTake (i := 11) (d := some 40) (v := .slice h.a2 d.L2.length h.c2) (l' := #[true, true, true, true, false, true, true, true, false, true, true, true, false, false, false, false, false, false]) rfl (by kernel_rfl) (by kernel_rfl) (by kernel_rfl) (by kernel_rfl) (fun _ _ _ h => h) (by kernel_rfl) (fun _ hc => run_ldss (.tmp 39) (by kernel_rfl) (by kernel_rfl) (hc 7 (by simp)).1) Pd (by kernel_rfl) ?_
          refine hTake (i := 12) (d := some 41) (v := .int .i64 ((d.L2.length : Int))) (l' := #[true, true, true, true, false, true, true, true, false, true, true, true, true, false, false, false, false, false]) rfl (by kernel_rfl) (by kernel_rfl) (by kernel_rfl) (by kernel_rfl) (fun _ _ _ h => h) (by kernel_rfl) (fun _ hc => by kernel_rfl) Pd (by kernel_rfl) ?_
          refine hTake (i := 13) (d := some 42) (v := .slice h.a2 K h.c2) (l' := #[true, true, true, true, false, true, true, true, false, true, true, true, true, true, false, false, false, false]) rfl (by kernel_rfl) (by kernel_rfl) (by kernel_rfl) (by kernel_rfl) (fun _ _ _ h => h) (by kernel_rfl) (fun _ hc => hsl.out _ _ _ (.tmp 40) (.tmp 41) (by kernel_rfl) (by kernel_rfl) (by kernel_rfl)) Pd (by kernel_rfl) ?_
          refine hOne (i := 4) (by kernel_rfl) (hVal (i := 4) (d := some 33) (v := .slice (some ⟨U.heap.size, 0, none⟩) 0 0) (w' := E) (l' := #[true, true, true, true, true, true, true, true, false, true, true, true, true, true, false, false, false, false]) rfl (by kernel_rfl) (by kernel_rfl) (by kernel_rfl) (by rw [hE]; exact run_bs0 (by kernel_rfl)) PE ?_)
          refine hOne (i := 8) (by kernel_rfl) (hVal (i := 8) (d := some 37) (v := .slice a9 d.L1.length c9) (w' := w3) (l' := #[true, true, true, true, true, true, true, true, true, true, true, true, true, true, false, false, false, false]) rfl (by kernel_rfl) (by kernel_rfl) (by kernel_rfl) (run_app (.tmp 33) (.tmp 36) 25 25 (by kernel_rfl) (by kernel_rfl) (by kernel_rfl) (by kernel_rfl) hr3) P3 ?_)
          refine hOne (i := 14) (by kernel_rfl) (hVal (i := 14) (d := some 43) (v := .slice a' (d.L1.length + K) c') (w' := w4) (l' := #[true, true, true, true, true, true, true, true, true, true, true, true, true, true, true, false, false, false]) rfl (by kernel_rfl) (by kernel_rfl) (by kernel_rfl) (run_app (.tmp 37) (.tmp 42) 25 25 (by kernel_rfl) (by kernel_rfl) (by kernel_rfl) (by kernel_rfl) hr1) P4 ?_)
          refine hTake (i := 15) (d := some 44) (v := .agg #[.slice a' (d.L1.length + K) c', .slice none 0 0]) (l' := #[true, true, true, true, true, true, true, true, true, true, true, true, true, true, true, true, false, false]) rfl (by kernel_rfl) (by kernel_rfl) (by kernel_rfl) (by kernel_rfl) (fun _ _ _ h => h) (by kernel_rfl) (fun _ hc => run_b42 (.tmp 43) (by kernel_rfl) (by kernel_rfl)) P4 (by kernel_rfl) ?_
          refine hTake (i := 16) (d := some 45) (v := .agg #[.int .i64 d.wk, .bool false, .int .i64 d.now, .int .i64 0, .int .i64 0, .int .i64 0, .slice a' (d.L1.length + K) c', .slice none 0 0, .slice none 0 0, .slice none 0 0, .slice none 0 0, .slice none 0 0]) (l' := #[true, true, true, true, true, true, true, true, true, true, true, true, true, true, true, true, true, false]) rfl (by kernel_rfl) (by kernel_rfl) (by kernel_rfl) (by kernel_rfl) (fun _ _ _ h => h) (by kernel_rfl) (fun _ hc => run_b47 (.tmp 30) (.tmp 32) (.tmp 44) (by kernel_rfl) (by kernel_rfl) (by kernel_rfl) (by kernel_rfl)) P4 (by kernel_rfl) ?_
          refine hOne (i := 17) (by kernel_rfl) (hSkip (i := 17) (w' := w5) (l' := #[true, true, true, true, true, true, true, true, true, true, true, true, true, true, true, true, true, true]) rfl (by kernel_rfl) (by kernel_rfl) (by kernel_rfl) (by rw [hw5]; exact run_stT 47 zB [.int .i64 d.wk, .bool false, .int .i64 d.now, .int .i64 0, .int .i64 0, .int .i64 0, .slice a' (d.L1.length + K) c', .slice none 0 0, .slice none 0 0, .slice none 0 0, .slice none 0 0, .slice none 0 0] (.tmp 6) (.tmp 45) (by kernel_rfl) (by kernel_rfl) (by kernel_rfl) R4 rfl Tryz.sizeBo (one12b _ _ _ _ _ _ _ _ _ _ _ _ _ _ _ _ _ _ _ _ _ _ _ _)) P5 ?_)
          have k0 : w5.cell? ⟨w.heap.size + 2, 0, none⟩ = some (.int .i64 d.wk) := (hc5 0 (by simp)).1
          have k1 : w5.cell? ⟨w.heap.size + 2, 1, none⟩ = some (.bool false) := (hc5 1 (by simp)).1
          have k2 : w5.cell? ⟨w.heap.size + 2, 2, none⟩ = some (.int .i64 d.now) := (hc5 2 (by simp)).1
          have k3 : w5.cell? ⟨w.heap.size + 2, 3, none⟩ = some (.int .i64 0) := (hc5 3 (by simp)).1
          have k4 : w5.cell? ⟨w.heap.size + 2, 4, none⟩ = some (.int .i64 0) := (hc5 4 (by simp)).1
          have k5 : w5.cell? ⟨w.heap.size + 2, 5, none⟩ = some (.int .i64 0) := (hc5 5 (by simp)).1
          have k6 : w5.cell? ⟨w.heap.size + 2, 6, none⟩ = some (.slice a' (d.L1.length + K) c') := (hc5 6 (by simp)).1
          have k7 : w5.cell? ⟨w.heap.size + 2, 7, none⟩ = some (.slice none 0 0) := (hc5 7 (by simp)).1
          have k8 : w5.cell? ⟨w.heap.size + 2, 8, none⟩ = some (.slice none 0 0) := (hc5 8 (by simp)).1
          have k9 : w5.cell? ⟨w.heap.size + 2, 9, none⟩ = some (.slice none 0 0) := (hc5 9 (by simp)).1
          have k10 : w5.cell? ⟨w.heap.size + 2, 10, none⟩ = some (.slice none 0 0) := (hc5 10 (by simp)).1
          have k11 : w5.cell? ⟨w.heap.size + 2, 11, none⟩ = some (.slice none 0 0) := (hc5 11 (by simp)).1
          refine wpAnyH_done (by kernel_rfl) ?_ _
          go_wp2
          refine bodyPost_ret (v := .agg #[.int .i64 d.wk, .bool false, .int .i64 d.now, .int .i64 0, .int .i64 0, .int .i64 0, .slice a' (d.L1.length + K) c', .slice none 0 0, .slice none 0 0, .slice none 0 0, .slice none 0 0, .slice none 0 0]) (by simp [results, Tryz.results18, go_sem, k0, k1, k2, k3, k4, k5, k6, k7, k8, k9, k10, k11]) rfl ⟨⟨fallB d keep, ⟨_, ?_, HO.out⟩, .inl ⟨HV.out, rfl⟩⟩, HB5.out⟩
          rw [HL.out]; rfl
        · go_upto_region 9 with fail
          clear y1 y7
          obtain ⟨K, hK⟩ : ∃ K, K = keptN keep d.L2.length := ⟨_, rfl⟩
          have e7 : keep = ((K : Nat) : Int) := by rw [hK]; unfold keptN; omega
          have hKl : K ≤ d.L2.length := by rw [hK]; exact keptN_le _ _
          have HK := hid hK
          clear hK
          obtain ⟨U, hU⟩ : ∃ U, U = w1.drew := ⟨_, rfl⟩
          have Pd : CF U w.heap.size [.int .i64 d.wk, .bool d.up, .int .i64 d.now, .int .i64 d.sn, .int .i64 d.ep, .int .i64 d.gv, .slice h.a1 d.L1.length h.c1, .slice h.a2 d.L2.length h.c2, .slice h.ar d.R.length h.cr, .slice h.aj d.J.length h.cj, .slice h.az d.S.length h.cs, .slice h.ao d.O.length h.co] := by rw [hU]; exact P1
          have Rd : CF U (w.heap.size + 2) zB := by rw [hU]; exact R1
          have Bd : Below w.heap.size w U := by rw [hU]; exact B1.drew
          have zd : w.heap.size + 3 ≤ U.heap.size := by rw [hU]; exact z1
          obtain ⟨E, hE⟩ : ∃ E, E = U.alloc (.cells #[] 9) := ⟨_, rfl⟩
          have hown0 : Own (w.heap.size + 3) E 1 (.slice (some ⟨U.heap.size, 0, none⟩) 0 0) 0 [] := by rw [hE]; exact bsOwn U _ zd
          have PE : CF E w.heap.size [.int .i64 d.wk, .bool d.up, .int .i64 d.now, .int .i64 d.sn, .int .i64 d.ep, .int .i64 d.gv, .slice h.a1 d.L1.length h.c1, .slice h.a2 d.L2.length h.c2, .slice h.ar d.R.length h.cr, .slice h.aj d.J.length h.cj, .slice h.az d.S.length h.cs, .slice h.ao d.O.length h.co] := by rw [hE]; exact Pd.block (Below.heap_alloc _ _ _ (by omega))
          have RE : CF E (w.heap.size + 2) zB := by rw [hE]; exact Rd.block (Below.heap_alloc _ _ _ (by omega))
          have BE : Below w.heap.size w E := by rw [hE]; exact Bd.alloc Bd.size _
          have zE : w.heap.size + 3 ≤ E.heap.size := by rw [hE]; simp; omega
          obtain ⟨a9, c9, w3, hr3, ho3, hg3, _⟩ := app0 w E (w.heap.size + 3) BE zE h.c1 h1 (by omega) hown0
          have hrow0 := hown0.row_lo
          have P3 := PE.block (hg3.block w.heap.size (by omega) (fun e => by have := hrow0 _ e.symm; omega))
          have R3 := RE.block (hg3.block (w.heap.size + 2) (by omega) (fun e => by have := hrow0 _ e.symm; omega))
          have B3 := below_grown BE hg3 (by omega) (fun q hq => by have := hrow0 q hq; omega)
          have z3 : w.heap.size + 3 ≤ w3.heap.size := Nat.le_trans zE hg3.size
          obtain ⟨v1, w4, hr1, ho4, hg4, _⟩ := run_append_c (P := Tryz.prog) w3 (w.heap.size + 3) 25 25 25 9 i0 (.string ⟨#[]⟩) 1 16 Tryz.underlying25 hi0 hz00 hz01 hz02 rfl _ d.L1.length _ ho3 _ K _ (((h2.below' B3).takeP K hKl).srcS h.c2) (by unfold maxLen; omega) (by omega) z3
          rw [← List.map_append] at ho4
          obtain ⟨a', c', rfl⟩ := ho4.slc
          have hrow := ho3.row_lo
          have P4 := P3.block (hg4.block w.heap.size (by omega) (fun e => by have := hrow _ e.symm; omega))
          have R4 := R3.block (hg4.block (w.heap.size + 2) (by omega) (fun e => by have := hrow _ e.symm; omega))
          have B4 := below_grown B3 hg4 (by omega) (fun q hq => by have := hrow q hq; omega)
          have z4 : w.heap.size + 3 ≤ w4.heap.size := Nat.le_trans z3 hg4.size
          obtain ⟨w5, hw5⟩ : ∃ w5, w5 = w4.setCells (w.heap.size + 2) 0 [.int .i64 d.wk, .bool false, .int .i64 d.now, .int .i64 0, .int .i64 0, .int .i64 0, .slice a' (d.L1.length + K) c', .slice none 0 0, .slice none 0 0, .slice none 0 0, .slice none 0 0, .slice none 0 0] := ⟨_, rfl⟩
          have P5f : w4.grownBy w5 (some (w.heap.size + 2)) := by rw [hw5]; exact grown_setCells _ _ _ _ _ (World.grownBy.refl _ _)
          have hc5 : CF w5 (w.heap.size + 2) [.int .i64 d.wk, .bool false, .int .i64 d.now, .int .i64 0, .int .i64 0, .int .i64 0, .slice a' (d.L1.length + K) c', .slice none 0 0, .slice none 0 0, .slice none 0 0, .slice none 0 0, .slice none 0 0] := by rw [hw5]; exact R4.stored rfl
          have P5 := P4.block (P5f.block w.heap.size (by omega) (by intro hh; injection hh with hh; omega))
          have ho5 := ho4.grown P5f (.inr (by intro hh; have := ho4.row_lo _ hh; omega))
          have B5 := below_grown B4 P5f (by omega) (fun q hq => by simp at hq; omega)
          have HO : Hid (BossO w5 w.heap.size (fallB d keep) ⟨a', none, none, none, none, none, c', 0, 0, 0, 0, 0⟩) := by
            have hl : (d.L1 ++ d.L2.take K).length = d.L1.length + K := by rw [List.length_append, List.length_take]; omega
            have := oneBO w5 w.heap.size d.wk d.now (d.L1 ++ d.L2.take K) a' c' (by rw [hl]; exact ho5.mono' (by omega))
            rw [HK.out] at this
            exact this
          have HB5 := hid B5
          have HL : Hid (d.L1.length + K = (fallB d keep).L1.length) := by show _ = (d.L1 ++ d.L2.take (keptN keep d.L2.length)).length; rw [← HK.out, List.length_append, List.length_take]; show _ = _; omega
          have hsl : Hid (∀ (ρ : Operand → Value) (o : Oper) (w : World) (x y : Operand), o.op = .slice 25 x none (some y) none → ρ x = .slice h.a2 d.L2.length h.c2 → ρ y = .int .i64 (keep) → (execOp ρ o).run Tryz.prog w = .ok (.value (.slice h.a2 K h.c2)) w) := hid (fun ρ o w x y ho hx hy => by
            rw [HA2.out]
            rw [HA2.out] at hx
            exact run_sl x y g2 0 d.L2.length h.c2 K (Nat.le_trans hKl hc2) ho hx (by rw [hy, e7]))
          clear hown0 ho3 ho4 ho5 hg3 hg4 hrow hrow0 Bd BE B3 B4 B5 P5f h1 h2 h3 h4 h5 h6 hsm hKl HK hT e7 RE R3 HA2 hc2
          refine wp_region_held (S := fun w' => CF w' w.heap.size [.int .i64 d.wk, .bool d.up, .int .i64 d.now, .int .i64 d.sn, .int .i64 d.ep, .int .i64 d.gv, .slice h.a1 d.L1.length h.c1, .slice h.a2 d.L2.length h.c2, .slice h.ar d.R.length h.cr, .slice h.aj d.J.length h.cj, .slice h.az d.S.length h.cs, .slice h.ao d.O.length h.co]) (by kernel_rfl) ?_
          change wpAnyH _ _ _ _ _ _ _ _ (World.drew _)
          rw [← hU]
          clear hU P1 R1 B1 z1
          refine hTake (i := 0) (d := some 29) (v := .pointer (some ⟨w.heap.size, 0, none⟩)) (l' := #[true, false, false, false, false, false, false, false, false, false, false, false, false, false, false, false, false, false]) rfl (by kernel_rfl) (by kernel_rfl) (by kernel_rfl) (by kernel_rfl) (fun _ _ _ h => h) (by kernel_rfl) (fun _ hc => by kernel_rfl) Pd (by kernel_rfl) ?_
          refine hTake (i := 1) (d := some 30) (v := .int .i64 d.wk) (l' := #[true, true, false, false, false, false, false, false, false, false, false, false, false, false, false, false, false, false]) rfl (by kernel_rfl) (by kernel_rfl) (by kernel_rfl) (by kernel_rfl) (fun _ _ _ h => h) (by kernel_rfl) (fun _ hc => run_ldI (.tmp 29) (by kernel_rfl) (by kernel_rfl) (hc 0 (by simp)).1) Pd (by kernel_rfl) ?_
          refine hTake (i := 2) (d := some 31) (v := .pointer (some ⟨w.heap.size, 2, none⟩)) (l' := #[true, true, true, false, false, false, false, false, false, false, false, false, false, false, false, false, false, false]) rfl (by kernel_rfl) (by kernel_rfl) (by kernel_rfl) (by kernel_rfl) (fun _ _ _ h => h) (by kernel_rfl) (fun _ hc => by kernel_rfl) Pd (by kernel_rfl) ?_
          refine hTake (i := 3) (d := some 32) (v := .int .i64 d.now) (l' := #[true, true, true, true, false, false, false, false, false, false, false, false, false, false, false, false, false, false]) rfl (by kernel_rfl) (by kernel_rfl) (by kernel_rfl) (by kernel_rfl) (fun _ _ _ h => h) (by kernel_rfl) (fun _ hc => run_ldI (.tmp 31) (by kernel_rfl) (by kernel_rfl) (hc 2 (by simp)).1) Pd (by kernel_rfl) ?_
          refine hTake (i := 5) (d := some 34) (v := .pointer (some ⟨w.heap.size, 6, none⟩)) (l' := #[true, true, true, true, false, true, false, false, false, false, false, false, false, false, false, false, false, false]) rfl (by kernel_rfl) (by kernel_rfl) (by kernel_rfl) (by kernel_rfl) (fun _ _ _ h => h) (by kernel_rfl) (fun _ hc => by kernel_rfl) Pd (by kernel_rfl) ?_
          refine hTake (i := 6) (d := some 35) (v := .pointer (some ⟨w.heap.size, 6, none⟩)) (l' := #[true, true, true, true, false, true, true, false, false, false, false, false, false, false, false, false, false, false]) rfl (by kernel_rfl) (by kernel_rfl) (by kernel_rfl) (by kernel_rfl) (fun _ _ _ h => h) (by kernel_rfl) (fun _ hc => by kernel_rfl) Pd (by kernel_rfl) ?_
          refine hTake (i := 7) (d := some 36) (v := .slice h.a1 d.L1.length h.c1) (l' := #[true, true, true, true, false, true, true, true, false, false, false, false, false, false, false, false, false, false]) rfl (by kernel_rfl) (by kernel_rfl) (by kernel_rfl) (by kernel_rfl) (fun _ _ _ h => h) (by kernel_rfl) (fun _ hc => run_ldss (.tmp 35) (by kernel_rfl) (by kernel_rfl) (hc 6 (by simp)).1) Pd (by kernel_rfl) ?_
          refine hTake (i := 9) (d := some 38) (v := .pointer (some ⟨w.heap.size, 6, none⟩)) (l' := #[true, true, true, true, false, true, true, true, false, true, false, false, false, false, false, false, false, false]) rfl (by kernel_rfl) (by kernel_rfl) (by kernel_rfl) (by kernel_rfl) (fun _ _ _ h => h) (by kernel_rfl) (fun _ hc => by kernel_rfl) Pd (by kernel_rfl) ?_
          refine hTake (i := 10) (d := some 39) (v := .pointer (some ⟨w.heap.size, 7, none⟩)) (l' := #[true, true, true, true, false, true, true, true, false, true, true, false, false, false, false, false, false, false]) rfl (by kernel_rfl) (by kernel_rfl) (by kernel_rfl) (by kernel_rfl) (fun _ _ _ h => h) (by kernel_rfl) (fun _ hc => by kernel_rfl) Pd (by kernel_rfl) ?_
          refine hTake (i := 11) (d := some 40) (v := .slice h.a2 d.L2.length h.c2) (l' := #[true, true, true, true, false, true, true, true, false, true, true, true, false, false, false, false, false, false]) rfl (by kernel_rfl) (by kernel_rfl) (by kernel_rfl) (by kernel_rfl) (fun _ _ _ h => h) (by kernel_rfl) (fun _ hc => run_ldss (.tmp 39) (by kernel_rfl) (by kernel_rfl) (hc 7 (by simp)).1) Pd (by kernel_rfl) ?_
          refine hTake (i := 12) (d := some 41) (v := .int .i64 (keep)) (l' := #[true, true, true, true, false, true, true, true, false, true, true, true, true, false, false, false, false, false]) rfl (by kernel_rfl) (by kernel_rfl) (by kernel_rfl) (by kernel_rfl) (fun _ _ _ h => h) (by kernel_rfl) (fun _ hc => by kernel_rfl) Pd (by kernel_rfl) ?_
          refine hTake (i := 13) (d := some 42) (v := .slice h.a2 K h.c2) (l' := #[true, true, true, true, false, true, true, true, false, true, true, true, true, true, false, false, false, false]) rfl (by kernel_rfl) (by kernel_rfl) (by kernel_rfl) (by kernel_rfl) (fun _ _ _ h => h) (by kernel_rfl) (fun _ hc => hsl.out _ _ _ (.tmp 40) (.tmp 41) (by kernel_rfl) (by kernel_rfl) (by kernel_rfl)) Pd (by kernel_rfl) ?_
          refine hOne (i := 4) (by kernel_rfl) (hVal (i := 4) (d := some 33) (v := .slice (some ⟨U.heap.size, 0, none⟩) 0 0) (w' := E) (l' := #[true, true, true, true, true, true, true, true, false, true, true, true, true, true, false, false, false, false]) rfl (by kernel_rfl) (by kernel_rfl) (by kernel_rfl) (by rw [hE]; exact run_bs0 (by kernel_rfl)) PE ?_)
          refine hOne (i := 8) (by kernel_rfl) (hVal (i := 8) (d := some 37) (v := .slice a9 d.L1.length c9) (w' := w3) (l' := #[true, true, true, true, true, true, true, true, true, true, true, true, true, true, false, false, false, false]) rfl (by kernel_rfl) (by kernel_rfl) (by kernel_rfl) (run_app (.tmp 33) (.tmp 36) 25 25 (by kernel_rfl) (by kernel_rfl) (by kernel_rfl) (by kernel_rfl) hr3) P3 ?_)
          refine hOne (i := 14) (by kernel_rfl) (hVal (i := 14) (d := some 43) (v := .slice a' (d.L1.length + K) c') (w' := w4) (l' := #[true, true, true, true, true, true, true, true, true, true, true, true, true, true, true, false, false, false]) rfl (by kernel_rfl) (by kernel_rfl) (by kernel_rfl) (run_app (.tmp 37) (.tmp 42) 25 25 (by kernel_rfl) (by kernel_rfl) (by kernel_rfl) (by kernel_rfl) hr1) P4 ?_)
          refine hTake (i := 15) (d := some 44) (v := .agg #[.slice a' (d.L1.length + K) c', .slice none 0 0]) (l' := #[true, true, true, true, true, true, true, true, true, true, true, true, true, true, true, true, false, false]) rfl (by kernel_rfl) (by kernel_rfl) (by kernel_rfl) (by kernel_rfl) (fun _ _ _ h => h) (by kernel_rfl) (fun _ hc => run_b42 (.tmp 43) (by kernel_rfl) (by kernel_rfl)) P4 (by kernel_rfl) ?_
          refine hTake (i := 16) (d := some 45) (v := .agg #[.int .i64 d.wk, .bool false, .int .i64 d.now, .int .i64 0, .int .i64 0, .int .i64 0, .slice a' (d.L1.length + K) c', .slice none 0 0, .slice none 0 0, .slice none 0 0, .slice none 0 0, .slice none 0 0]) (l' := #[true, true, true, true, true, true, true, true, true, true, true, true, true, true, true, true, true, false]) rfl (by kernel_rfl) (by kernel_rfl) (by kernel_rfl) (by kernel_rfl) (fun _ _ _ h => h) (by kernel_rfl) (fun _ hc => run_b47 (.tmp 30) (.tmp 32) (.tmp 44) (by kernel_rfl) (by kernel_rfl) (by kernel_rfl) (by kernel_rfl)) P4 (by kernel_rfl) ?_
          refine hOne (i := 17) (by kernel_rfl) (hSkip (i := 17) (w' := w5) (l' := #[true, true, true, true, true, true, true, true, true, true, true, true, true, true, true, true, true, true]) rfl (by kernel_rfl) (by kernel_rfl) (by kernel_rfl) (by rw [hw5]; exact run_stT 47 zB [.int .i64 d.wk, .bool false, .int .i64 d.now, .int .i64 0, .int .i64 0, .int .i64 0, .slice a' (d.L1.length + K) c', .slice none 0 0, .slice none 0 0, .slice none 0 0, .slice none 0 0, .slice none 0 0] (.tmp 6) (.tmp 45) (by kernel_rfl) (by kernel_rfl) (by kernel_rfl) R4 rfl Tryz.sizeBo (one12b _ _ _ _ _ _ _ _ _ _ _ _ _ _ _ _ _ _ _ _ _ _ _ _)) P5 ?_)
          have k0 : w5.cell? ⟨w.heap.size + 2, 0, none⟩ = some (.int .i64 d.wk) := (hc5 0 (by simp)).1
          have k1 : w5.cell? ⟨w.heap.size + 2, 1, none⟩ = some (.bool false) := (hc5 1 (by simp)).1
          have k2 : w5.cell? ⟨w.heap.size + 2, 2, none⟩ = some (.int .i64 d.now) := (hc5 2 (by simp)).1
          have k3 : w5.cell? ⟨w.heap.size + 2, 3, none⟩ = some (.int .i64 0) := (hc5 3 (by simp)).1
          have k4 : w5.cell? ⟨w.heap.size + 2, 4, none⟩ = some (.int .i64 0) := (hc5 4 (by simp)).1
          have k5 : w5.cell? ⟨w.heap.size + 2, 5, none⟩ = some (.int .i64 0) := (hc5 5 (by simp)).1
          have k6 : w5.cell? ⟨w.heap.size + 2, 6, none⟩ = some (.slice a' (d.L1.length + K) c') := (hc5 6 (by simp)).1
          have k7 : w5.cell? ⟨w.heap.size + 2, 7, none⟩ = some (.slice none 0 0) := (hc5 7 (by simp)).1
          have k8 : w5.cell? ⟨w.heap.size + 2, 8, none⟩ = some (.slice none 0 0) := (hc5 8 (by simp)).1
          have k9 : w5.cell? ⟨w.heap.size + 2, 9, none⟩ = some (.slice none 0 0) := (hc5 9 (by simp)).1
          have k10 : w5.cell? ⟨w.heap.size + 2, 10, none⟩ = some (.slice none 0 0) := (hc5 10 (by simp)).1
          have k11 : w5.cell? ⟨w.heap.size + 2, 11, none⟩ = some (.slice none 0 0) := (hc5 11 (by simp)).1
          refine wpAnyH_done (by kernel_rfl) ?_ _
          go_wp2
          refine bodyPost_ret (v := .agg #[.int .i64 d.wk, .bool false, .int .i64 d.now, .int .i64 0, .int .i64 0, .int .i64 0, .slice a' (d.L1.length + K) c', .slice none 0 0, .slice none 0 0, .slice none 0 0, .slice none 0 0, .slice none 0 0]) (by simp [results, Tryz.results18, go_sem, k0, k1, k2, k3, k4, k5, k6, k7, k8, k9, k10, k11]) rfl ⟨⟨fallB d keep, ⟨_, ?_, HO.out⟩, .inl ⟨HV.out, rfl⟩⟩, HB5.out⟩
          rw [HL.out]; rfl

end Go.Proofs.YthopfmhagddhgaaGreat
