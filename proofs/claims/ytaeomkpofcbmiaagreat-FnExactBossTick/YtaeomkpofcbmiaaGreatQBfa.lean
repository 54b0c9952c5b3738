import Derived.Test.YtaeomkpofcbmiaaGreatQBmb
import Derived.Test.YtaeomkpofcbmiaaGreatQBal
import Derived.Test.YtaeomkpofcbmiaaGreatQWlb
namespace Go.Proofs.YtaeomkpofcbmiaaGreat
open Go.RowKit

theorem T3At.cells {w : World} {a : Option Addr} {b o n : Nat} {J : List Tr} (h : T3At w a b o n J) (i : Nat) (u : Value) (hu : (c3 J)[i]? = some u) : w.cell? ⟨b, o + i, none⟩ = some u := by
  have hi : i < J.length * 3 := by have := (List.getElem?_eq_some_iff.1 hu).1; rw [c3_length] at this; exact this
  have hl := h.len
  have hg := c3_get J (i / 3) (i % 3) (by omega) (by omega)
  rw [show i / 3 * 3 + i % 3 = i by omega] at hg
  have hr : i % 3 = 0 ∨ i % 3 = 1 ∨ i % 3 = 2 := by omega
  rcases hr with e | e | e
  · have hc := h.c0 (i / 3) (by omega)
    rw [show o + i / 3 * 3 = o + i by omega] at hc
    rw [e] at hg
    rw [hc, ← hu, hg]; rfl
  · have hc := h.c1 (i / 3) (by omega)
    rw [show o + i / 3 * 3 + 1 = o + i by omega] at hc
    rw [e] at hg
    rw [hc, ← hu, hg]; rfl
  · have hc := h.c2 (i / 3) (by omega)
    rw [show o + i / 3 * 3 + 2 = o + i by omega] at hc
    rw [e] at hg
    rw [hc, ← hu, hg]; rfl
theorem c3_one (J : List Tr) : ∀ u ∈ c3 J, u.oneCell' = true := fun u hu => by
  obtain ⟨x, _, hx⟩ := List.mem_flatMap.1 hu
  simp only [List.mem_cons, List.not_mem_nil, or_false] at hx
  rcases hx with rfl | rfl | rfl <;> rfl
theorem T3At.src {w : World} {a : Option Addr} {b o n : Nat} {J : List Tr} (h : T3At w a b o n J) (tx e' : TypeId) (hk : Tryz.prog.underlying tx = some (.slice e')) (cc : Nat) : Src Tryz.prog 3 tx (.slice a n cc) n (c3 J) w := by
  have go : ∀ y : Addr, (0 < n → y = ⟨b, o, none⟩) → Src Tryz.prog 3 tx (.slice (some y) n cc) n (c3 J) w := fun y hy => by
    refine Src.ofSlice w hk y n cc _ (by rw [c3_length, h.len]) (fun j u hu => ?_) (c3_one J)
    have hj : j < J.length * 3 := by have := (List.getElem?_eq_some_iff.1 hu).1; rw [c3_length] at this; exact this
    have hl := h.len
    rw [hy (by omega), Addr.add_lit]
    exact h.cells j u hu
  cases a with
  | none =>
    have h0 : n = 0 := Nat.eq_zero_of_not_pos fun hh => by have := h.ad hh; cases this
    subst h0
    have : J = [] := List.eq_nil_of_length_eq_zero h.len
    subst this
    exact Src.ofNil w hk cc
  | some y => exact go y (fun hn => by have := h.ad hn; injection this)
theorem T2At.cells {w : World} {a : Option Addr} {b o n : Nat} {J : List (Bool × Int)} (h : T2At w a b o n J) (i : Nat) (u : Value) (hu : (c2 J)[i]? = some u) : w.cell? ⟨b, o + i, none⟩ = some u := by
  have hi : i < J.length * 2 := by have := (List.getElem?_eq_some_iff.1 hu).1; rw [c2_length] at this; exact this
  have hl := h.len
  have hg := c2_get J (i / 2) (i % 2) (by omega) (by omega)
  rw [show i / 2 * 2 + i % 2 = i by omega] at hg
  have hr : i % 2 = 0 ∨ i % 2 = 1 := by omega
  rcases hr with e | e
  · have hc := h.c0 (i / 2) (by omega)
    rw [show o + i / 2 * 2 = o + i by omega] at hc
    rw [e] at hg
    rw [hc, ← hu, hg]; rfl
  · have hc := h.c1 (i / 2) (by omega)
    rw [show o + i / 2 * 2 + 1 = o + i by omega] at hc
    rw [e] at hg
    rw [hc, ← hu, hg]; rfl
theorem c2_one (J : List (Bool × Int)) : ∀ u ∈ c2 J, u.oneCell' = true := fun u hu => by
  obtain ⟨x, _, hx⟩ := List.mem_flatMap.1 hu
  simp only [List.mem_cons, List.not_mem_nil, or_false] at hx
  rcases hx with rfl | rfl <;> rfl
theorem T2At.src {w : World} {a : Option Addr} {b o n : Nat} {J : List (Bool × Int)} (h : T2At w a b o n J) (tx e' : TypeId) (hk : Tryz.prog.underlying tx = some (.slice e')) (cc : Nat) : Src Tryz.prog 2 tx (.slice a n cc) n (c2 J) w := by
  have go : ∀ y : Addr, (0 < n → y = ⟨b, o, none⟩) → Src Tryz.prog 2 tx (.slice (some y) n cc) n (c2 J) w := fun y hy => by
    refine Src.ofSlice w hk y n cc _ (by rw [c2_length, h.len]) (fun j u hu => ?_) (c2_one J)
    have hj : j < J.length * 2 := by have := (List.getElem?_eq_some_iff.1 hu).1; rw [c2_length] at this; exact this
    have hl := h.len
    rw [hy (by omega), Addr.add_lit]
    exact h.cells j u hu
  cases a with
  | none =>
    have h0 : n = 0 := Nat.eq_zero_of_not_pos fun hh => by have := h.ad hh; cases this
    subst h0
    have : J = [] := List.eq_nil_of_length_eq_zero h.len
    subst this
    exact Src.ofNil w hk cc
  | some y => exact go y (fun hn => by have := h.ad hn; injection this)
def zB : List Value := [.int .i64 0, .bool false, .int .i64 0, .int .i64 0, .int .i64 0, .int .i64 0, .slice none 0 0, .slice none 0 0, .slice none 0 0, .slice none 0 0, .slice none 0 0, .slice none 0 0]
theorem Tryz.sizeBo : (Tryz.prog.info? 40).map (·.size) = some 12 := by kernel_rfl
theorem Tryz.infoSt : (Tryz.prog.info? 9).map (fun i => (i.zero, i.size, i.bytes)) = some (some (.string ⟨#[]⟩), 1, 16) := by kernel_rfl
theorem Tryz.infoJb : (Tryz.prog.info? 66).map (fun i => (i.zero, i.size, i.bytes)) = some (some (.agg #[.int .i64 0, .int .i64 0, .int .i64 0]), 3, 24) := by kernel_rfl
theorem Tryz.infoSe : (Tryz.prog.info? 104).map (fun i => (i.zero, i.size, i.bytes)) = some (some (.agg #[.bool false, .int .i64 0]), 2, 16) := by kernel_rfl
theorem Tryz.infoOw : (Tryz.prog.info? 69).map (fun i => (i.zero, i.size, i.bytes)) = some (some (.agg #[.int .i64 0, .int .i64 0, .int .i64 0]), 3, 24) := by kernel_rfl
theorem one12b (wk : Int) (up : Bool) (now sn ep gv : Int) (a0 a1 a2 a3 a4 a5 : Option Addr) (n0 c0 n1 c1 n2 c2 n3 c3 n4 c4 n5 c5 : Nat) : ∀ v ∈ [Value.int .i64 wk, .bool up, .int .i64 now, .int .i64 sn, .int .i64 ep, .int .i64 gv, .slice a0 n0 c0, .slice a1 n1 c1, .slice a2 n2 c2, .slice a3 n3 c3, .slice a4 n4 c4, .slice a5 n5 c5], v.oneCell' = true := by
  intro v hv
  simp only [List.mem_cons, List.not_mem_nil, or_false] at hv
  rcases hv with rfl | rfl | rfl | rfl | rfl | rfl | rfl | rfl | rfl | rfl | rfl | rfl <;> rfl
theorem Dj.new {x y : Option Nat} {m : Nat} (hx : ∀ q, x = some q → q < m) (hy : y = none ∨ y = some m) : Dj x y := by
  cases x with
  | none => exact .inl rfl
  | some q =>
    refine .inr ?_
    have := hx q rfl
    rcases hy with rfl | rfl
    · simp
    · intro e; injection e with e; omega
theorem none_lt {q : Nat} : some q ≠ (Value.slice none 0 0).ownBlock := by simp [Value.ownBlock]

set_option maxHeartbeats 4000000 in
set_option maxRecDepth 100000 in
theorem copyBoss_any (wk : Int) (up : Bool) (now sn ep gv : Int) (a1 a2 ar aj az ao : Option Addr) (b1 o1 n1 ca b2 o2 n2 cb br or' nr cr bj oj nj cj bs os' ns cs bo oo no co : Nat) (L1 L2 R : List ByteArray) (J : List Tr) (S : List (Bool × Int)) (O : List Tr) (w : World) (h0 : StrsAt w a1 b1 o1 n1 L1) (h1 : StrsAt w a2 b2 o2 n2 L2) (h2 : StrsAt w ar br or' nr R) (h3 : T3At w aj bj oj nj J) (h4 : T2At w az bs os' ns S) (h5 : T3At w ao bo oo no O) (m0 : n1 ≤ 1048576) (m1 : n2 ≤ 1048576) (m2 : nr ≤ 1048576) (m3 : nj ≤ 1048576) (m4 : ns ≤ 1048576) (m5 : no ≤ 1048576) :
    Calls Tryz.prog 73 #[.agg #[.int .i64 wk, .bool up, .int .i64 now, .int .i64 sn, .int .i64 ep, .int .i64 gv, .slice a1 n1 ca, .slice a2 n2 cb, .slice ar nr cr, .slice aj nj cj, .slice az ns cs, .slice ao no co]] w fun e w' => ∃ a0_ c0_ a1_ c1_ a2_ c2_ a3_ c3_ a4_ c4_ a5_ c5_, e = .returned (.agg #[.int .i64 wk, .bool up, .int .i64 now, .int .i64 sn, .int .i64 ep, .int .i64 gv, .slice a0_ n1 c0_, .slice a1_ n2 c1_, .slice a2_ nr c2_, .slice a3_ nj c3_, .slice a4_ ns c4_, .slice a5_ no c5_]) ∧ (Own w.heap.size w' 1 (.slice a0_ n1 c0_) n1 (L1.map Value.string) ∧ Own w.heap.size w' 1 (.slice a1_ n2 c1_) n2 (L2.map Value.string) ∧ Own w.heap.size w' 1 (.slice a2_ nr c2_) nr (R.map Value.string) ∧ Own w.heap.size w' 3 (.slice a3_ nj c3_) nj (c3 J) ∧ Own w.heap.size w' 2 (.slice a4_ ns c4_) ns (c2 S) ∧ Own w.heap.size w' 3 (.slice a5_ no c5_) no (c3 O)) ∧ List.Pairwise Dj [(Value.slice a0_ n1 c0_).ownBlock, (Value.slice a1_ n2 c1_).ownBlock, (Value.slice a2_ nr c2_).ownBlock, (Value.slice a3_ nj c3_).ownBlock, (Value.slice a4_ ns c4_).ownBlock, (Value.slice a5_ no c5_).ownBlock] ∧ Below w.heap.size w w' := by
  obtain ⟨i0, hi0, hz00, hz01, hz02⟩ := info_parts Tryz.infoSt
  obtain ⟨i3, hi3, hz30, hz31, hz32⟩ := info_parts Tryz.infoJb
  obtain ⟨i4, hi4, hz40, hz41, hz42⟩ := info_parts Tryz.infoSe
  obtain ⟨i5, hi5, hz50, hz51, hz52⟩ := info_parts Tryz.infoOw
  obtain ⟨W, hW⟩ : ∃ W, W = (w.alloc (.cells #[.int .i64 wk, .bool up, .int .i64 now, .int .i64 sn, .int .i64 ep, .int .i64 gv, .slice a1 n1 ca, .slice a2 n2 cb, .slice ar nr cr, .slice aj nj cj, .slice az ns cs, .slice ao no co] 40)).alloc (.cells #[.int .i64 0, .bool false, .int .i64 0, .int .i64 0, .int .i64 0, .int .i64 0, .slice none 0 0, .slice none 0 0, .slice none 0 0, .slice none 0 0, .slice none 0 0, .slice none 0 0] 40) := ⟨_, rfl⟩
  have B0 : Below w.heap.size w W := by rw [hW]; exact ((Below.refl _ _).alloc (Nat.le_refl _) _).alloc (by simp) _
  have z0 : w.heap.size + 2 ≤ W.heap.size := by rw [hW]; simp
  have P0 : CF W w.heap.size [.int .i64 wk, .bool up, .int .i64 now, .int .i64 sn, .int .i64 ep, .int .i64 gv, .slice a1 n1 ca, .slice a2 n2 cb, .slice ar nr cr, .slice aj nj cj, .slice az ns cs, .slice ao no co] := by
    rw [hW]; exact (CF.made w #[.int .i64 wk, .bool up, .int .i64 now, .int .i64 sn, .int .i64 ep, .int .i64 gv, .slice a1 n1 ca, .slice a2 n2 cb, .slice ar nr cr, .slice aj nj cj, .slice az ns cs, .slice ao no co] 40).block (Below.heap_alloc _ _ _ (by simp))
  have R0 : CF W (w.heap.size + 1) zB := by
    rw [hW]
    have := CF.made (w.alloc (.cells #[.int .i64 wk, .bool up, .int .i64 now, .int .i64 sn, .int .i64 ep, .int .i64 gv, .slice a1 n1 ca, .slice a2 n2 cb, .slice ar nr cr, .slice aj nj cj, .slice az ns cs, .slice ao no co] 40)) #[.int .i64 0, .bool false, .int .i64 0, .int .i64 0, .int .i64 0, .int .i64 0, .slice none 0 0, .slice none 0 0, .slice none 0 0, .slice none 0 0, .slice none 0 0, .slice none 0 0] 40
    simpa [zB] using this
  have HW := hid hW
  clear hW
  go_enter Tryz.func73, Tryz.ntmps73
  go_upto_region 1 with fail
  rw [← HW.out]
  clear HW
  have y : W.cell? ⟨w.heap.size, 6, none⟩ = some (.slice a1 n1 ca) := (P0 6 (by simp)).1
  have sr : Src Tryz.prog 1 22 (.slice a1 n1 ca) n1 (L1.map Value.string) W := (h0.below' B0).srcS ca
  go_upto_region 2 with (at_builtin; refine wpList_append_c _ rfl _ _ 22 22 rfl (w.heap.size + 2) 9 i0 (.string ⟨#[]⟩) 1 16 Tryz.underlying22 hi0 hz00 hz01 hz02 rfl (.slice none 0 0) 0 [] rfl (Own.nil _ _ _) _ n1 _ rfl sr (by unfold maxLen; omega) (by omega) z0 ?_; intro v0 u0 ho hg hbk; rw [Nat.zero_add, List.nil_append] at ho; obtain ⟨a0_, c0_, rfl⟩ := ho.slc; have Pu := P0.block (hg.block w.heap.size (by omega) none_lt); have Ru := R0.block (hg.block (w.heap.size + 1) (by omega) none_lt); have Bu := below_grown B0 hg (by omega) (fun q hq => by cases hq); have yu : u0.cell? ⟨w.heap.size, 6, none⟩ = some (.slice a1 n1 ca) := (Pu 6 (by simp)).1; have fu : u0.frozen? ⟨w.heap.size, 6, none⟩ = false := (Pu 6 (by simp)).2; have zu : w.heap.size + 2 ≤ u0.heap.size := Nat.le_trans z0 hg.size)
  have P1 := Pu.set (j := 6) (by simp) (.slice a0_ n1 c0_)
  simp only [List.set_cons_zero, List.set_cons_succ] at P1
  have gs := gset (World.grownBy.refl u0 (some w.heap.size)) 6 (.slice a0_ n1 c0_)
  have R1 := Ru.block (Below.heap_setCell u0 (⟨w.heap.size, 6, none⟩ : Addr) (.slice a0_ n1 c0_) (w.heap.size + 1) (by dsimp only; omega))
  have B1 := Bu.setCell (p := ⟨w.heap.size, 6, none⟩) (by dsimp only; omega) (.slice a0_ n1 c0_)
  have z1 : w.heap.size + 2 ≤ (u0.setCell ⟨w.heap.size, 6, none⟩ (.slice a0_ n1 c0_)).heap.size := by simpa [World.setCell] using zu
  have q0_1 := ho.grown gs (.inr (by intro hh; have := ho.row_lo _ hh; omega))
  obtain ⟨V1, hV1⟩ : ∃ V, V = u0.setCell ⟨w.heap.size, 6, none⟩ (.slice a0_ n1 c0_) := ⟨_, rfl⟩
  rw [← hV1] at P1 R1 B1 z1 q0_1
  rw [← hV1]
  clear hV1 y sr yu fu zu Pu Ru Bu gs ho hg hbk P0 R0 B0 z0 
  have y : V1.cell? ⟨w.heap.size, 7, none⟩ = some (.slice a2 n2 cb) := (P1 7 (by simp)).1
  have sr : Src Tryz.prog 1 22 (.slice a2 n2 cb) n2 (L2.map Value.string) V1 := (h1.below' B1).srcS cb
  go_upto_region 3 with (at_builtin; refine wpList_append_c _ rfl _ _ 22 22 rfl (w.heap.size + 2) 9 i0 (.string ⟨#[]⟩) 1 16 Tryz.underlying22 hi0 hz00 hz01 hz02 rfl (.slice none 0 0) 0 [] rfl (Own.nil _ _ _) _ n2 _ rfl sr (by unfold maxLen; omega) (by omega) z1 ?_; intro v1 u1 ho hg hbk; rw [Nat.zero_add, List.nil_append] at ho; obtain ⟨a1_, c1_, rfl⟩ := ho.slc; have Pu := P1.block (hg.block w.heap.size (by omega) none_lt); have Ru := R1.block (hg.block (w.heap.size + 1) (by omega) none_lt); have Bu := below_grown B1 hg (by omega) (fun q hq => by cases hq); have yu : u1.cell? ⟨w.heap.size, 7, none⟩ = some (.slice a2 n2 cb) := (Pu 7 (by simp)).1; have fu : u1.frozen? ⟨w.heap.size, 7, none⟩ = false := (Pu 7 (by simp)).2; have zu : w.heap.size + 2 ≤ u1.heap.size := Nat.le_trans z1 hg.size)
  have P2 := Pu.set (j := 7) (by simp) (.slice a1_ n2 c1_)
  simp only [List.set_cons_zero, List.set_cons_succ] at P2
  have gs := gset (World.grownBy.refl u1 (some w.heap.size)) 7 (.slice a1_ n2 c1_)
  have R2 := Ru.block (Below.heap_setCell u1 (⟨w.heap.size, 7, none⟩ : Addr) (.slice a1_ n2 c1_) (w.heap.size + 1) (by dsimp only; omega))
  have B2 := Bu.setCell (p := ⟨w.heap.size, 7, none⟩) (by dsimp only; omega) (.slice a1_ n2 c1_)
  have z2 : w.heap.size + 2 ≤ (u1.setCell ⟨w.heap.size, 7, none⟩ (.slice a1_ n2 c1_)).heap.size := by simpa [World.setCell] using zu
  have q1_2 := ho.grown gs (.inr (by intro hh; have := ho.row_lo _ hh; omega))
  have D01 : Hid (Dj (Value.slice a0_ n1 c0_).ownBlock (Value.slice a1_ n2 c1_).ownBlock) := Dj.new q0_1.row_hi hbk
  have q0_2 := (q0_1.grown hg (by cases hq : (Value.slice a0_ n1 c0_).ownBlock with | none => exact .inl rfl | some q => exact .inr (fun hh => by cases hh))).grown gs (.inr (by intro hh; have := q0_1.row_lo _ hh; omega))
  obtain ⟨V2, hV2⟩ : ∃ V, V = u1.setCell ⟨w.heap.size, 7, none⟩ (.slice a1_ n2 c1_) := ⟨_, rfl⟩
  rw [← hV2] at P2 R2 B2 z2 q0_2 q1_2
  rw [← hV2]
  clear hV2 y sr yu fu zu Pu Ru Bu gs ho hg hbk P1 R1 B1 z1 q0_1
  have y : V2.cell? ⟨w.heap.size, 8, none⟩ = some (.slice ar nr cr) := (P2 8 (by simp)).1
  have sr : Src Tryz.prog 1 22 (.slice ar nr cr) nr (R.map Value.string) V2 := (h2.below' B2).srcS cr
  go_upto_region 4 with (at_builtin; refine wpList_append_c _ rfl _ _ 22 22 rfl (w.heap.size + 2) 9 i0 (.string ⟨#[]⟩) 1 16 Tryz.underlying22 hi0 hz00 hz01 hz02 rfl (.slice none 0 0) 0 [] rfl (Own.nil _ _ _) _ nr _ rfl sr (by unfold maxLen; omega) (by omega) z2 ?_; intro v2 u2 ho hg hbk; rw [Nat.zero_add, List.nil_append] at ho; obtain ⟨a2_, c2_, rfl⟩ := ho.slc; have Pu := P2.block (hg.block w.heap.size (by omega) none_lt); have Ru := R2.block (hg.block (w.heap.size + 1) (by omega) none_lt); have Bu := below_grown B2 hg (by omega) (fun q hq => by cases hq); have yu : u2.cell? ⟨w.heap.size, 8, none⟩ = some (.slice ar nr cr) := (Pu 8 (by simp)).1; have fu : u2.frozen? ⟨w.heap.size, 8, none⟩ = false := (Pu 8 (by simp)).2; have zu : w.heap.size + 2 ≤ u2.heap.size := Nat.le_trans z2 hg.size)
  have P3 := Pu.set (j := 8) (by simp) (.slice a2_ nr c2_)
  simp only [List.set_cons_zero, List.set_cons_succ] at P3
  have gs := gset (World.grownBy.refl u2 (some w.heap.size)) 8 (.slice a2_ nr c2_)
  have R3 := Ru.block (Below.heap_setCell u2 (⟨w.heap.size, 8, none⟩ : Addr) (.slice a2_ nr c2_) (w.heap.size + 1) (by dsimp only; omega))
  have B3 := Bu.setCell (p := ⟨w.heap.size, 8, none⟩) (by dsimp only; omega) (.slice a2_ nr c2_)
  have z3 : w.heap.size + 2 ≤ (u2.setCell ⟨w.heap.size, 8, none⟩ (.slice a2_ nr c2_)).heap.size := by simpa [World.setCell] using zu
  have q2_3 := ho.grown gs (.inr (by intro hh; have := ho.row_lo _ hh; omega))
  have D02 : Hid (Dj (Value.slice a0_ n1 c0_).ownBlock (Value.slice a2_ nr c2_).ownBlock) := Dj.new q0_2.row_hi hbk
  have q0_3 := (q0_2.grown hg (by cases hq : (Value.slice a0_ n1 c0_).ownBlock with | none => exact .inl rfl | some q => exact .inr (fun hh => by cases hh))).grown gs (.inr (by intro hh; have := q0_2.row_lo _ hh; omega))
  have D12 : Hid (Dj (Value.slice a1_ n2 c1_).ownBlock (Value.slice a2_ nr c2_).ownBlock) := Dj.new q1_2.row_hi hbk
  have q1_3 := (q1_2.grown hg (by cases hq : (Value.slice a1_ n2 c1_).ownBlock with | none => exact .inl rfl | some q => exact .inr (fun hh => by cases hh))).grown gs (.inr (by intro hh; have := q1_2.row_lo _ hh; omega))
  obtain ⟨V3, hV3⟩ : ∃ V, V = u2.setCell ⟨w.heap.size, 8, none⟩ (.slice a2_ nr c2_) := ⟨_, rfl⟩
  rw [← hV3] at P3 R3 B3 z3 q0_3 q1_3 q2_3
  rw [← hV3]
  clear hV3 y sr yu fu zu Pu Ru Bu gs ho hg hbk P2 R2 B2 z2 q0_2 q1_2
  have y : V3.cell? ⟨w.heap.size, 9, none⟩ = some (.slice aj nj cj) := (P3 9 (by simp)).1
  have sr : Src Tryz.prog 3 36 (.slice aj nj cj) nj (c3 J) V3 := (h3.below' B3).src 36 66 Tryz.underlying36 cj
  go_upto_region 5 with (at_builtin; refine wpList_append_c _ rfl _ _ 36 36 rfl (w.heap.size + 2) 66 i3 (.agg #[.int .i64 0, .int .i64 0, .int .i64 0]) 3 24 Tryz.underlying36 hi3 hz30 hz31 hz32 rfl (.slice none 0 0) 0 [] rfl (Own.nil _ _ _) _ nj _ rfl sr (by unfold maxLen; omega) (by omega) z3 ?_; intro v3 u3 ho hg hbk; rw [Nat.zero_add, List.nil_append] at ho; obtain ⟨a3_, c3_, rfl⟩ := ho.slc; have Pu := P3.block (hg.block w.heap.size (by omega) none_lt); have Ru := R3.block (hg.block (w.heap.size + 1) (by omega) none_lt); have Bu := below_grown B3 hg (by omega) (fun q hq => by cases hq); have yu : u3.cell? ⟨w.heap.size, 9, none⟩ = some (.slice aj nj cj) := (Pu 9 (by simp)).1; have fu : u3.frozen? ⟨w.heap.size, 9, none⟩ = false := (Pu 9 (by simp)).2; have zu : w.heap.size + 2 ≤ u3.heap.size := Nat.le_trans z3 hg.size)
  have P4 := Pu.set (j := 9) (by simp) (.slice a3_ nj c3_)
  simp only [List.set_cons_zero, List.set_cons_succ] at P4
  have gs := gset (World.grownBy.refl u3 (some w.heap.size)) 9 (.slice a3_ nj c3_)
  have R4 := Ru.block (Below.heap_setCell u3 (⟨w.heap.size, 9, none⟩ : Addr) (.slice a3_ nj c3_) (w.heap.size + 1) (by dsimp only; omega))
  have B4 := Bu.setCell (p := ⟨w.heap.size, 9, none⟩) (by dsimp only; omega) (.slice a3_ nj c3_)
  have z4 : w.heap.size + 2 ≤ (u3.setCell ⟨w.heap.size, 9, none⟩ (.slice a3_ nj c3_)).heap.size := by simpa [World.setCell] using zu
  have q3_4 := ho.grown gs (.inr (by intro hh; have := ho.row_lo _ hh; omega))
  have D03 : Hid (Dj (Value.slice a0_ n1 c0_).ownBlock (Value.slice a3_ nj c3_).ownBlock) := Dj.new q0_3.row_hi hbk
  have q0_4 := (q0_3.grown hg (by cases hq : (Value.slice a0_ n1 c0_).ownBlock with | none => exact .inl rfl | some q => exact .inr (fun hh => by cases hh))).grown gs (.inr (by intro hh; have := q0_3.row_lo _ hh; omega))
  have D13 : Hid (Dj (Value.slice a1_ n2 c1_).ownBlock (Value.slice a3_ nj c3_).ownBlock) := Dj.new q1_3.row_hi hbk
  have q1_4 := (q1_3.grown hg (by cases hq : (Value.slice a1_ n2 c1_).ownBlock with | none => exact .inl rfl | some q => exact .inr (fun hh => by cases hh))).grown gs (.inr (by intro hh; have := q1_3.row_lo _ hh; omega))
  have D23 : Hid (Dj (Value.slice a2_ nr c2_).ownBlock (Value.slice a3_ nj c3_).ownBlock) := Dj.new q2_3.row_hi hbk
  have q2_4 := (q2_3.grown hg (by cases hq : (Value.slice a2_ nr c2_).ownBlock with | none => exact .inl rfl | some q => exact .inr (fun hh => by cases hh))).grown gs (.inr (by intro hh; have := q2_3.row_lo _ hh; omega))
  obtain ⟨V4, hV4⟩ : ∃ V, V = u3.setCell ⟨w.heap.size, 9, none⟩ (.slice a3_ nj c3_) := ⟨_, rfl⟩
  rw [← hV4] at P4 R4 B4 z4 q0_4 q1_4 q2_4 q3_4
  rw [← hV4]
  clear hV4 y sr yu fu zu Pu Ru Bu gs ho hg hbk P3 R3 B3 z3 q0_3 q1_3 q2_3
  have y : V4.cell? ⟨w.heap.size, 10, none⟩ = some (.slice az ns cs) := (P4 10 (by simp)).1
  have sr : Src Tryz.prog 2 37 (.slice az ns cs) ns (c2 S) V4 := (h4.below' B4).src 37 104 Tryz.underlying37 cs
  go_upto_region 6 with (at_builtin; refine wpList_append_c _ rfl _ _ 37 37 rfl (w.heap.size + 2) 104 i4 (.agg #[.bool false, .int .i64 0]) 2 16 Tryz.underlying37 hi4 hz40 hz41 hz42 rfl (.slice none 0 0) 0 [] rfl (Own.nil _ _ _) _ ns _ rfl sr (by unfold maxLen; omega) (by omega) z4 ?_; intro v4 u4 ho hg hbk; rw [Nat.zero_add, List.nil_append] at ho; obtain ⟨a4_, c4_, rfl⟩ := ho.slc; have Pu := P4.block (hg.block w.heap.size (by omega) none_lt); have Ru := R4.block (hg.block (w.heap.size + 1) (by omega) none_lt); have Bu := below_grown B4 hg (by omega) (fun q hq => by cases hq); have yu : u4.cell? ⟨w.heap.size, 10, none⟩ = some (.slice az ns cs) := (Pu 10 (by simp)).1; have fu : u4.frozen? ⟨w.heap.size, 10, none⟩ = false := (Pu 10 (by simp)).2; have zu : w.heap.size + 2 ≤ u4.heap.size := Nat.le_trans z4 hg.size)
  have P5 := Pu.set (j := 10) (by simp) (.slice a4_ ns c4_)
  simp only [List.set_cons_zero, List.set_cons_succ] at P5
  have gs := gset (World.grownBy.refl u4 (some w.heap.size)) 10 (.slice a4_ ns c4_)
  have R5 := Ru.block (Below.heap_setCell u4 (⟨w.heap.size, 10, none⟩ : Addr) (.slice a4_ ns c4_) (w.heap.size + 1) (by dsimp only; omega))
  have B5 := Bu.setCell (p := ⟨w.heap.size, 10, none⟩) (by dsimp only; omega) (.slice a4_ ns c4_)
  have z5 : w.heap.size + 2 ≤ (u4.setCell ⟨w.heap.size, 10, none⟩ (.slice a4_ ns c4_)).heap.size := by simpa [World.setCell] using zu
  have q4_5 := ho.grown gs (.inr (by intro hh; have := ho.row_lo _ hh; omega))
  have D04 : Hid (Dj (Value.slice a0_ n1 c0_).ownBlock (Value.slice a4_ ns c4_).ownBlock) := Dj.new q0_4.row_hi hbk
  have q0_5 := (q0_4.grown hg (by cases hq : (Value.slice a0_ n1 c0_).ownBlock with | none => exact .inl rfl | some q => exact .inr (fun hh => by cases hh))).grown gs (.inr (by intro hh; have := q0_4.row_lo _ hh; omega))
  have D14 : Hid (Dj (Value.slice a1_ n2 c1_).ownBlock (Value.slice a4_ ns c4_).ownBlock) := Dj.new q1_4.row_hi hbk
  have q1_5 := (q1_4.grown hg (by cases hq : (Value.slice a1_ n2 c1_).ownBlock with | none => exact .inl rfl | some q => exact .inr (fun hh => by cases hh))).grown gs (.inr (by intro hh; have := q1_4.row_lo _ hh; omega))
  have D24 : Hid (Dj (Value.slice a2_ nr c2_).ownBlock (Value.slice a4_ ns c4_).ownBlock) := Dj.new q2_4.row_hi hbk
  have q2_5 := (q2_4.grown hg (by cases hq : (Value.slice a2_ nr c2_).ownBlock with | none => exact .inl rfl | some q => exact .inr (fun hh => by cases hh))).grown gs (.inr (by intro hh; have := q2_4.row_lo _ hh; omega))
  have D34 : Hid (Dj (Value.slice a3_ nj c3_).ownBlock (Value.slice a4_ ns c4_).ownBlock) := Dj.new q3_4.row_hi hbk
  have q3_5 := (q3_4.grown hg (by cases hq : (Value.slice a3_ nj c3_).ownBlock with | none => exact .inl rfl | some q => exact .inr (fun hh => by cases hh))).grown gs (.inr (by intro hh; have := q3_4.row_lo _ hh; omega))
  obtain ⟨V5, hV5⟩ : ∃ V, V = u4.setCell ⟨w.heap.size, 10, none⟩ (.slice a4_ ns c4_) := ⟨_, rfl⟩
  rw [← hV5] at P5 R5 B5 z5 q0_5 q1_5 q2_5 q3_5 q4_5
  rw [← hV5]
  clear hV5 y sr yu fu zu Pu Ru Bu gs ho hg hbk P4 R4 B4 z4 q0_4 q1_4 q2_4 q3_4
  have y : V5.cell? ⟨w.heap.size, 11, none⟩ = some (.slice ao no co) := (P5 11 (by simp)).1
  have sr : Src Tryz.prog 3 38 (.slice ao no co) no (c3 O) V5 := (h5.below' B5).src 38 69 Tryz.underlying38 co
  go_upto_region 7 with (at_builtin; refine wpList_append_c _ rfl _ _ 38 38 rfl (w.heap.size + 2) 69 i5 (.agg #[.int .i64 0, .int .i64 0, .int .i64 0]) 3 24 Tryz.underlying38 hi5 hz50 hz51 hz52 rfl (.slice none 0 0) 0 [] rfl (Own.nil _ _ _) _ no _ rfl sr (by unfold maxLen; omega) (by omega) z5 ?_; intro v5 u5 ho hg hbk; rw [Nat.zero_add, List.nil_append] at ho; obtain ⟨a5_, c5_, rfl⟩ := ho.slc; have Pu := P5.block (hg.block w.heap.size (by omega) none_lt); have Ru := R5.block (hg.block (w.heap.size + 1) (by omega) none_lt); have Bu := below_grown B5 hg (by omega) (fun q hq => by cases hq); have yu : u5.cell? ⟨w.heap.size, 11, none⟩ = some (.slice ao no co) := (Pu 11 (by simp)).1; have fu : u5.frozen? ⟨w.heap.size, 11, none⟩ = false := (Pu 11 (by simp)).2; have zu : w.heap.size + 2 ≤ u5.heap.size := Nat.le_trans z5 hg.size)
  have P6 := Pu.set (j := 11) (by simp) (.slice a5_ no c5_)
  simp only [List.set_cons_zero, List.set_cons_succ] at P6
  have gs := gset (World.grownBy.refl u5 (some w.heap.size)) 11 (.slice a5_ no c5_)
  have R6 := Ru.block (Below.heap_setCell u5 (⟨w.heap.size, 11, none⟩ : Addr) (.slice a5_ no c5_) (w.heap.size + 1) (by dsimp only; omega))
  have B6 := Bu.setCell (p := ⟨w.heap.size, 11, none⟩) (by dsimp only; omega) (.slice a5_ no c5_)
  have z6 : w.heap.size + 2 ≤ (u5.setCell ⟨w.heap.size, 11, none⟩ (.slice a5_ no c5_)).heap.size := by simpa [World.setCell] using zu
  have q5_6 := ho.grown gs (.inr (by intro hh; have := ho.row_lo _ hh; omega))
  have D05 : Hid (Dj (Value.slice a0_ n1 c0_).ownBlock (Value.slice a5_ no c5_).ownBlock) := Dj.new q0_5.row_hi hbk
  have q0_6 := (q0_5.grown hg (by cases hq : (Value.slice a0_ n1 c0_).ownBlock with | none => exact .inl rfl | some q => exact .inr (fun hh => by cases hh))).grown gs (.inr (by intro hh; have := q0_5.row_lo _ hh; omega))
  have D15 : Hid (Dj (Value.slice a1_ n2 c1_).ownBlock (Value.slice a5_ no c5_).ownBlock) := Dj.new q1_5.row_hi hbk
  have q1_6 := (q1_5.grown hg (by cases hq : (Value.slice a1_ n2 c1_).ownBlock with | none => exact .inl rfl | some q => exact .inr (fun hh => by cases hh))).grown gs (.inr (by intro hh; have := q1_5.row_lo _ hh; omega))
  have D25 : Hid (Dj (Value.slice a2_ nr c2_).ownBlock (Value.slice a5_ no c5_).ownBlock) := Dj.new q2_5.row_hi hbk
  have q2_6 := (q2_5.grown hg (by cases hq : (Value.slice a2_ nr c2_).ownBlock with | none => exact .inl rfl | some q => exact .inr (fun hh => by cases hh))).grown gs (.inr (by intro hh; have := q2_5.row_lo _ hh; omega))
  have D35 : Hid (Dj (Value.slice a3_ nj c3_).ownBlock (Value.slice a5_ no c5_).ownBlock) := Dj.new q3_5.row_hi hbk
  have q3_6 := (q3_5.grown hg (by cases hq : (Value.slice a3_ nj c3_).ownBlock with | none => exact .inl rfl | some q => exact .inr (fun hh => by cases hh))).grown gs (.inr (by intro hh; have := q3_5.row_lo _ hh; omega))
  have D45 : Hid (Dj (Value.slice a4_ ns c4_).ownBlock (Value.slice a5_ no c5_).ownBlock) := Dj.new q4_5.row_hi hbk
  have q4_6 := (q4_5.grown hg (by cases hq : (Value.slice a4_ ns c4_).ownBlock with | none => exact .inl rfl | some q => exact .inr (fun hh => by cases hh))).grown gs (.inr (by intro hh; have := q4_5.row_lo _ hh; omega))
  obtain ⟨V6, hV6⟩ : ∃ V, V = u5.setCell ⟨w.heap.size, 11, none⟩ (.slice a5_ no c5_) := ⟨_, rfl⟩
  rw [← hV6] at P6 R6 B6 z6 q0_6 q1_6 q2_6 q3_6 q4_6 q5_6
  rw [← hV6]
  clear hV6 y sr yu fu zu Pu Ru Bu gs ho hg hbk P5 R5 B5 z5 q0_5 q1_5 q2_5 q3_5 q4_5
  have y0 : V6.cell? ⟨w.heap.size, 0, none⟩ = some (.int .i64 wk) := (P6 0 (by simp)).1
  have y1 : V6.cell? ⟨w.heap.size, 1, none⟩ = some (.bool up) := (P6 1 (by simp)).1
  have y2 : V6.cell? ⟨w.heap.size, 2, none⟩ = some (.int .i64 now) := (P6 2 (by simp)).1
  have y3 : V6.cell? ⟨w.heap.size, 3, none⟩ = some (.int .i64 sn) := (P6 3 (by simp)).1
  have y4 : V6.cell? ⟨w.heap.size, 4, none⟩ = some (.int .i64 ep) := (P6 4 (by simp)).1
  have y5 : V6.cell? ⟨w.heap.size, 5, none⟩ = some (.int .i64 gv) := (P6 5 (by simp)).1
  have y6 : V6.cell? ⟨w.heap.size, 6, none⟩ = some (.slice a0_ n1 c0_) := (P6 6 (by simp)).1
  have y7 : V6.cell? ⟨w.heap.size, 7, none⟩ = some (.slice a1_ n2 c1_) := (P6 7 (by simp)).1
  have y8 : V6.cell? ⟨w.heap.size, 8, none⟩ = some (.slice a2_ nr c2_) := (P6 8 (by simp)).1
  have y9 : V6.cell? ⟨w.heap.size, 9, none⟩ = some (.slice a3_ nj c3_) := (P6 9 (by simp)).1
  have y10 : V6.cell? ⟨w.heap.size, 10, none⟩ = some (.slice a4_ ns c4_) := (P6 10 (by simp)).1
  have y11 : V6.cell? ⟨w.heap.size, 11, none⟩ = some (.slice a5_ no c5_) := (P6 11 (by simp)).1
  go_wp2_with (refine wpList_store_cf rfl 40 (.tmp 2) (.tmp 31) rfl (w.heap.size + 1) zB [.int .i64 wk, .bool up, .int .i64 now, .int .i64 sn, .int .i64 ep, .int .i64 gv, .slice a0_ n1 c0_, .slice a1_ n2 c1_, .slice a2_ nr c2_, .slice a3_ nj c3_, .slice a4_ ns c4_, .slice a5_ no c5_] rfl rfl R6 rfl Tryz.sizeBo (one12b _ _ _ _ _ _ _ _ _ _ _ _ _ _ _ _ _ _ _ _ _ _ _ _) ?_; intro w10 hc10 hg10)
  have k0 : w10.cell? ⟨w.heap.size + 1, 0, none⟩ = some (.int .i64 wk) := (hc10 0 (by simp)).1
  have k1 : w10.cell? ⟨w.heap.size + 1, 1, none⟩ = some (.bool up) := (hc10 1 (by simp)).1
  have k2 : w10.cell? ⟨w.heap.size + 1, 2, none⟩ = some (.int .i64 now) := (hc10 2 (by simp)).1
  have k3 : w10.cell? ⟨w.heap.size + 1, 3, none⟩ = some (.int .i64 sn) := (hc10 3 (by simp)).1
  have k4 : w10.cell? ⟨w.heap.size + 1, 4, none⟩ = some (.int .i64 ep) := (hc10 4 (by simp)).1
  have k5 : w10.cell? ⟨w.heap.size + 1, 5, none⟩ = some (.int .i64 gv) := (hc10 5 (by simp)).1
  have k6 : w10.cell? ⟨w.heap.size + 1, 6, none⟩ = some (.slice a0_ n1 c0_) := (hc10 6 (by simp)).1
  have k7 : w10.cell? ⟨w.heap.size + 1, 7, none⟩ = some (.slice a1_ n2 c1_) := (hc10 7 (by simp)).1
  have k8 : w10.cell? ⟨w.heap.size + 1, 8, none⟩ = some (.slice a2_ nr c2_) := (hc10 8 (by simp)).1
  have k9 : w10.cell? ⟨w.heap.size + 1, 9, none⟩ = some (.slice a3_ nj c3_) := (hc10 9 (by simp)).1
  have k10 : w10.cell? ⟨w.heap.size + 1, 10, none⟩ = some (.slice a4_ ns c4_) := (hc10 10 (by simp)).1
  have k11 : w10.cell? ⟨w.heap.size + 1, 11, none⟩ = some (.slice a5_ no c5_) := (hc10 11 (by simp)).1
  refine bodyPost_ret (v := .agg #[.int .i64 wk, .bool up, .int .i64 now, .int .i64 sn, .int .i64 ep, .int .i64 gv, .slice a0_ n1 c0_, .slice a1_ n2 c1_, .slice a2_ nr c2_, .slice a3_ nj c3_, .slice a4_ ns c4_, .slice a5_ no c5_]) (by simp [results, Tryz.results73, go_sem, k0, k1, k2, k3, k4, k5, k6, k7, k8, k9, k10, k11]) rfl ⟨a0_, c0_, a1_, c1_, a2_, c2_, a3_, c3_, a4_, c4_, a5_, c5_, rfl, ⟨(q0_6.grown hg10 (.inr (by intro hh; have := q0_6.row_lo _ hh; omega))).mono' (by omega), (q1_6.grown hg10 (.inr (by intro hh; have := q1_6.row_lo _ hh; omega))).mono' (by omega), (q2_6.grown hg10 (.inr (by intro hh; have := q2_6.row_lo _ hh; omega))).mono' (by omega), (q3_6.grown hg10 (.inr (by intro hh; have := q3_6.row_lo _ hh; omega))).mono' (by omega), (q4_6.grown hg10 (.inr (by intro hh; have := q4_6.row_lo _ hh; omega))).mono' (by omega), (q5_6.grown hg10 (.inr (by intro hh; have := q5_6.row_lo _ hh; omega))).mono' (by omega)⟩, ?_, below_grown B6 hg10 (by omega) (fun q hq => by simp at hq; omega)⟩
  simp only [List.pairwise_cons, List.mem_cons, List.not_mem_nil, or_false, forall_eq_or_imp, forall_eq, List.Pairwise.nil, and_true, false_implies, implies_true]
  exact ⟨⟨D01.out, D02.out, D03.out, D04.out, D05.out⟩, ⟨D12.out, D13.out, D14.out, D15.out⟩, ⟨D23.out, D24.out, D25.out⟩, ⟨D34.out, D35.out⟩, D45.out⟩

end Go.Proofs.YtaeomkpofcbmiaaGreat

namespace Go.Proofs.YtaeomkpofcbmiaaGreat
open Go.RowKit

theorem run_sl {ρ : Operand → Value} {o : Oper} {w : World} (x y : Operand) (g off n c k : Nat) (hk : k ≤ c) (h : o.op = .slice 22 x none (some y) none) (hx : ρ x = .slice (some ⟨g, off, none⟩) n c) (hy : ρ y = .int .i64 (k : Nat)) : (execOp ρ o).run Tryz.prog w = .ok (.value (.slice (some ⟨g, off, none⟩) k c)) w := by
  unfold execOp
  rw [h]
  have hk' : (k : Int) ≤ (c : Int) := by omega
  simp [go_sem, hx, hy, hk']
theorem run_sl0 {ρ : Operand → Value} {o : Oper} {w : World} (x y : Operand) (h : o.op = .slice 22 x none (some y) none) (hx : ρ x = .slice none 0 0) (hy : ρ y = .int .i64 0) : (execOp ρ o).run Tryz.prog w = .ok (.value (.slice none 0 0)) w := by
  unfold execOp
  rw [h]
  simp [go_sem, hx, hy]
/-- A coordinator whose lists a call owns. -/
structure BossO (w : World) (B : Nat) (d : BD) (h : BH) : Prop where
  o0 : Own B w 1 (.slice h.a1 d.L1.length h.c1) d.L1.length (d.L1.map Value.string)
  o1 : Own B w 1 (.slice h.a2 d.L2.length h.c2) d.L2.length (d.L2.map Value.string)
  o2 : Own B w 1 (.slice h.ar d.R.length h.cr) d.R.length (d.R.map Value.string)
  o3 : Own B w 3 (.slice h.aj d.J.length h.cj) d.J.length (c3 d.J)
  o4 : Own B w 2 (.slice h.az d.S.length h.cs) d.S.length (c2 d.S)
  o5 : Own B w 3 (.slice h.ao d.O.length h.co) d.O.length (c3 d.O)
  dis : List.Pairwise Dj [(Value.slice h.a1 d.L1.length h.c1).ownBlock, (Value.slice h.a2 d.L2.length h.c2).ownBlock, (Value.slice h.ar d.R.length h.cr).ownBlock, (Value.slice h.aj d.J.length h.cj).ownBlock, (Value.slice h.az d.S.length h.cs).ownBlock, (Value.slice h.ao d.O.length h.co).ownBlock]
def RetBs (e : Ending) (B : Nat) (w' : World) (d : BD) : Prop := ∃ h, e = .returned (.agg (bvs d h).toArray) ∧ BossO w' B d h
def keptN (keep : Int) (n : Nat) : Nat := (min (max keep 0) n).toNat
theorem keptN_le (keep : Int) (n : Nat) : keptN keep n ≤ n := by unfold keptN; omega
def fallB (d : BD) (keep : Int) : BD := ⟨d.wk, false, d.now, 0, 0, 0, d.L1 ++ d.L2.take (keptN keep d.L2.length), [], [], [], [], []⟩
def zBD : BD := ⟨0, false, 0, 0, 0, 0, [], [], [], [], [], []⟩
def fallR2 (d : BD) (ts : List TaskD) (keep : Int) (d' : BD) : Prop := d.ok ts ∧ d' = fallB d keep ∨ ¬ d.ok ts ∧ d' = zBD
theorem Dj.none_l (y : Option Nat) : Dj none y := .inl rfl
theorem zBO (w : World) (B : Nat) : BossO w B zBD ⟨none, none, none, none, none, none, 0, 0, 0, 0, 0, 0⟩ := by
  refine ⟨Own.nil _ _ _, Own.nil _ _ _, Own.nil _ _ _, Own.nil _ _ _, Own.nil _ _ _, Own.nil _ _ _, ?_⟩
  simp [Value.ownBlock, Dj.none_l]
theorem oneBO (w : World) (B : Nat) (wk now : Int) (L : List ByteArray) (a : Option Addr) (c : Nat) (ho : Own B w 1 (.slice a L.length c) L.length (L.map Value.string)) : BossO w B ⟨wk, false, now, 0, 0, 0, L, [], [], [], [], []⟩ ⟨a, none, none, none, none, none, c, 0, 0, 0, 0, 0⟩ := by
  refine ⟨ho, Own.nil _ _ _, Own.nil _ _ _, Own.nil _ _ _, Own.nil _ _ _, Own.nil _ _ _, ?_⟩
  simp only [List.pairwise_cons, List.mem_cons, List.not_mem_nil, or_false, forall_eq_or_imp, forall_eq, List.Pairwise.nil, and_true, false_implies, implies_true]
  have h0 : ∀ x, Dj x (Value.slice none 0 0).ownBlock := fun x => by
    cases x with
    | none => exact .inl rfl
    | some q => exact .inr (by simp [Value.ownBlock])
  exact ⟨⟨h0 _, h0 _, h0 _, h0 _, h0 _⟩, ⟨h0 _, h0 _, h0 _, h0 _⟩, ⟨h0 _, h0 _, h0 _⟩, ⟨h0 _, h0 _⟩, h0 _⟩
theorem StrsAt.takeP {w : World} {a : Option Addr} {b o n : Nat} {ss : List ByteArray} (h : StrsAt w a b o n ss) (k : Nat) (hk : k ≤ n) : StrsAt w a b o k (ss.take k) :=
  ⟨fun h0 => h.ad (by omega), by rw [List.length_take, h.len]; omega, Nat.le_trans hk h.max, fun h0 => h.lt (by omega), fun j hj => by rw [h.cell j (by omega)]; simp [List.getD, hj], fun s hs => h.sz s (List.mem_of_mem_take hs)⟩

theorem Own.drewB {B : Nat} {w : World} {size : Nat} {v : Value} {n : Nat} {xs : List Value} (h : Own B w size v n xs) : Own B w.drew size v n xs := by
  rcases h with h | ⟨g, o, cap, hv, hc⟩
  · exact .inl h
  · exact .inr ⟨g, o, cap, hv, hc.block rfl⟩
theorem run_ldI {ρ : Operand → Value} {o : Oper} {w : World} {p : Addr} {v : Value} (x : Operand) (h : o.op = .load 3 x) (hx : ρ x = .pointer (some p)) (hc : w.cell? p = some v) : (execOp ρ o).run Tryz.prog w = .ok (.value v) w := by
  unfold execOp
  rw [h]
  simp [go_sem, hx, hc]
theorem run_b42 {ρ : Operand → Value} {o : Oper} {w : World} {a : Option Addr} {n c : Nat} (x : Operand) (h : o.op = .build 35 #[(0, x)]) (hx : ρ x = .slice a n c) : (execOp ρ o).run Tryz.prog w = .ok (.value (.agg #[.slice a n c, .slice none 0 0])) w := by
  unfold execOp
  rw [h]
  simp [go_sem, hx]
theorem run_b47 {ρ : Operand → Value} {o : Oper} {w : World} {a : Option Addr} {n c : Nat} {k m : Int} (x y z : Operand) (h : o.op = .build 40 #[(0, x), (2, y), (6, z)]) (hx : ρ x = .int .i64 k) (hy : ρ y = .int .i64 m) (hz : ρ z = .agg #[.slice a n c, .slice none 0 0]) : (execOp ρ o).run Tryz.prog w = .ok (.value (.agg #[.int .i64 k, .bool false, .int .i64 m, .int .i64 0, .int .i64 0, .int .i64 0, .slice a n c, .slice none 0 0, .slice none 0 0, .slice none 0 0, .slice none 0 0, .slice none 0 0])) w := by
  unfold execOp
  rw [h]
  simp [go_sem, hx, hy, hz]

end Go.Proofs.YtaeomkpofcbmiaaGreat
