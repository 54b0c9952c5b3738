import Derived.Test.YtaeomkpofcbmiaaGreatQBfa
namespace Go.Proofs.YtaeomkpofcbmiaaGreat
open Go.RowKit

theorem Tryz.sizeLo : (Tryz.prog.info? 35).map (·.size) = some 2 := by kernel_rfl
theorem bsOwn (w : World) (B : Nat) (h : B ≤ w.heap.size) : Own B (w.alloc (.cells #[] 9)) 1 (.slice (some ⟨w.heap.size, 0, none⟩) 0 0) 0 [] :=
  .inr ⟨_, 0, 0, rfl, OwnC.made w B 9 1 0 0 _ 0 h (Nat.le_refl _) (by unfold maxLen; omega) rfl (Nat.le_refl _) _ rfl _ (.inl rfl)⟩
/-- What holds all along: the box, the answer's box. -/
structure LJ (w : World) (a1 : Option Addr) (n1 ca : Nat) (a2 : Option Addr) (n2 cb : Nat) (w' : World) : Prop where
  p : CF w' w.heap.size [.slice a1 n1 ca, .slice a2 n2 cb]
  r : CF w' (w.heap.size + 1) [.slice none 0 0, .slice none 0 0]
  b : Below w.heap.size w w'
  z : w.heap.size + 2 ≤ w'.heap.size
theorem LJ.alloc {w : World} {a1 : Option Addr} {n1 ca : Nat} {a2 : Option Addr} {n2 cb : Nat} {w' : World} (h : LJ w a1 n1 ca a2 n2 cb w') (ob : Obj) : LJ w a1 n1 ca a2 n2 cb (w'.alloc ob) :=
  ⟨h.p.block (Below.heap_alloc _ _ _ (by have := h.z; omega)), h.r.block (Below.heap_alloc _ _ _ (by have := h.z; omega)), h.b.alloc h.b.size ob, by have := h.z; simp; omega⟩
theorem LJ.grown {w : World} {a1 : Option Addr} {n1 ca : Nat} {a2 : Option Addr} {n2 cb : Nat} {w' w'' : World} {row : Option Nat} (h : LJ w a1 n1 ca a2 n2 cb w') (hg : w'.grownBy w'' row) (hr : ∀ q, row = some q → w.heap.size + 2 ≤ q) : LJ w a1 n1 ca a2 n2 cb w'' :=
  ⟨h.p.block (hg.block _ (by have := h.z; omega) (fun e => by have := hr _ e.symm; omega)), h.r.block (hg.block _ (by have := h.z; omega) (fun e => by have := hr _ e.symm; omega)), below_grown h.b hg (by have := h.z; omega) (fun q hq => by have := hr q hq; omega), Nat.le_trans h.z hg.size⟩
theorem app0 (w U : World) (B : Nat) (hb : Below w.heap.size w U) (hB : B ≤ U.heap.size) {a : Option Addr} {b o n : Nat} {L : List ByteArray} (c : Nat) (h : StrsAt w a b o n L) (hn : n ≤ 1048576) {v : Value} (hv : Own B U 1 v 0 []) :
    ∃ a' c' w', (Builtin.append_ #[22, 22] 22 #[v, .slice a n c]).run Tryz.prog U = .ok (.slice a' n c') w' ∧ Own B w' 1 (.slice a' n c') n (L.map Value.string) ∧ U.grownBy w' v.ownBlock ∧ ((Value.slice a' n c').ownBlock = v.ownBlock ∨ (Value.slice a' n c').ownBlock = some U.heap.size) := by
  obtain ⟨i0, hi0, hz00, hz01, hz02⟩ := info_parts Tryz.infoSt
  obtain ⟨v', w', hr, ho, hg, hk⟩ := run_append_c (P := Tryz.prog) U B 22 22 22 9 i0 (.string ⟨#[]⟩) 1 16 Tryz.underlying22 hi0 hz00 hz01 hz02 rfl _ 0 _ hv _ n _ ((h.below' hb).srcS c) (by unfold maxLen; omega) (by omega) hB
  rw [Nat.zero_add, List.nil_append] at ho
  obtain ⟨a', c', rfl⟩ := ho.slc
  exact ⟨a', c', w', hr, ho, hg, hk⟩
theorem run_b42b {ρ : Operand → Value} {o : Oper} {w : World} {a : Option Addr} {n c : Nat} {a' : Option Addr} {n' c' : Nat} (x y : Operand) (h : o.op = .build 35 #[(0, x), (1, y)]) (hx : ρ x = .slice a n c) (hy : ρ y = .slice a' n' c') : (execOp ρ o).run Tryz.prog w = .ok (.value (.agg #[.slice a n c, .slice a' n' c'])) w := by
  unfold execOp
  rw [h]
  simp [go_sem, hx, hy]
theorem one2 (a a' : Option Addr) (n c n' c' : Nat) : ∀ v ∈ [Value.slice a n c, .slice a' n' c'], v.oneCell' = true := by
  intro v hv
  simp only [List.mem_cons, List.not_mem_nil, or_false] at hv
  rcases hv with rfl | rfl <;> rfl

set_option maxHeartbeats 4000000 in
set_option maxRecDepth 100000 in
theorem l4Log_any (a1 a2 : Option Addr) (b1 o1 n1 ca b2 o2 n2 cb : Nat) (L1 L2 : List ByteArray) (w : World) (h1 : StrsAt w a1 b1 o1 n1 L1) (h2 : StrsAt w a2 b2 o2 n2 L2) (m1 : n1 ≤ 1048576) (m2 : n2 ≤ 1048576) :
    Calls Tryz.prog 59 #[.agg #[.slice a1 n1 ca, .slice a2 n2 cb]] w fun e w' => ∃ a0_ c0_ a1_ c1_, e = .returned (.agg #[.slice a0_ n1 c0_, .slice a1_ n2 c1_]) ∧ Own w.heap.size w' 1 (.slice a0_ n1 c0_) n1 (L1.map Value.string) ∧ Own w.heap.size w' 1 (.slice a1_ n2 c1_) n2 (L2.map Value.string) ∧ Dj (Value.slice a0_ n1 c0_).ownBlock (Value.slice a1_ n2 c1_).ownBlock ∧ Below w.heap.size w w' := by
  obtain ⟨W, hW⟩ : ∃ W, W = (w.alloc (.cells #[.slice a1 n1 ca, .slice a2 n2 cb] 35)).alloc (.cells #[.slice none 0 0, .slice none 0 0] 35) := ⟨_, rfl⟩
  have J0 : LJ w a1 n1 ca a2 n2 cb W.drew := by
    rw [hW]
    refine ⟨(CF.made w #[.slice a1 n1 ca, .slice a2 n2 cb] 35).block (Below.heap_alloc _ _ _ (by simp)), ?_, (((Below.refl _ _).alloc (Nat.le_refl _) _).alloc (by simp) _).drew, ?_⟩
    · have := CF.made (w.alloc (.cells #[.slice a1 n1 ca, .slice a2 n2 cb] 35)) #[.slice none 0 0, .slice none 0 0] 35
      rw [World.size_alloc] at this
      exact this
    · show _ ≤ (World.alloc _ _).heap.size; simp
  have HW := hid hW
  clear hW
  go_enter Tryz.func59, Tryz.ntmps59
  go_upto_region 1 with fail
  rw [← HW.out]
  clear HW
  refine wp_region_held (S := fun w' => CF w' w.heap.size [.slice a1 n1 ca, .slice a2 n2 cb]) (by kernel_rfl) ?_
  change wpAnyH _ _ _ _ _ _ _ _ (World.drew _)
  obtain ⟨U, hU⟩ : ∃ U, U = W.drew := ⟨_, rfl⟩
  rw [← hU] at J0
  rw [← hU]
  clear hU
  refine hTake (i := 1) (d := some 4) (v := .pointer (some ⟨w.heap.size, 0, none⟩)) (l' := #[false, true, false, false, false, false, false, false, false, false]) rfl (by kernel_rfl) (by kernel_rfl) (by kernel_rfl) (by kernel_rfl) (fun _ _ _ h => h) (by kernel_rfl) (fun _ hc => by kernel_rfl) J0.p (by kernel_rfl) ?_
  refine hTake (i := 2) (d := some 5) (v := .slice a1 n1 ca) (l' := #[false, true, true, false, false, false, false, false, false, false]) rfl (by kernel_rfl) (by kernel_rfl) (by kernel_rfl) (by kernel_rfl) (fun _ _ _ h => h) (by kernel_rfl) (fun _ hc => run_ldss (.tmp 4) (by kernel_rfl) (by kernel_rfl) (hc 0 (by simp)).1) J0.p (by kernel_rfl) ?_
  refine hTake (i := 5) (d := some 8) (v := .pointer (some ⟨w.heap.size, 1, none⟩)) (l' := #[false, true, true, false, false, true, false, false, false, false]) rfl (by kernel_rfl) (by kernel_rfl) (by kernel_rfl) (by kernel_rfl) (fun _ _ _ h => h) (by kernel_rfl) (fun _ hc => by kernel_rfl) J0.p (by kernel_rfl) ?_
  refine hTake (i := 6) (d := some 9) (v := .slice a2 n2 cb) (l' := #[false, true, true, false, false, true, true, false, false, false]) rfl (by kernel_rfl) (by kernel_rfl) (by kernel_rfl) (by kernel_rfl) (fun _ _ _ h => h) (by kernel_rfl) (fun _ hc => run_ldss (.tmp 8) (by kernel_rfl) (by kernel_rfl) (hc 1 (by simp)).1) J0.p (by kernel_rfl) ?_
  refine hTwo (i := 0) (j := 4) (by kernel_rfl) (hVal (i := 0) (d := some 3) (v := .slice (some ⟨U.heap.size, 0, none⟩) 0 0) (w' := U.alloc (.cells #[] 9)) (l' := #[true, true, true, false, false, true, true, false, false, false]) rfl (by kernel_rfl) (by kernel_rfl) (by kernel_rfl) (run_bs0 (by kernel_rfl)) (J0.alloc (.cells #[] 9)).p ?_) (hVal (i := 4) (d := some 7) (v := .slice (some ⟨U.heap.size, 0, none⟩) 0 0) (w' := U.alloc (.cells #[] 9)) (l' := #[false, true, true, false, true, true, true, false, false, false]) rfl (by kernel_rfl) (by kernel_rfl) (by kernel_rfl) (run_bs0 (by kernel_rfl)) (J0.alloc (.cells #[] 9)).p ?_)
  · have J1 := J0.alloc (.cells #[] 9)
    have own1 := bsOwn U (w.heap.size + 2) J0.z
    have zz1 : (U.alloc (.cells #[] 9)).heap.size = U.heap.size + 1 := by simp
    obtain ⟨A1, hA1⟩ : ∃ V, V = U.alloc (.cells #[] 9) := ⟨_, rfl⟩
    rw [← hA1] at J1 own1 zz1
    rw [← hA1]
    clear hA1
    obtain ⟨p2_, t2_, w2, hr2, ho2, hg2, hk2⟩ := app0 w A1 (w.heap.size + 2) J1.b J1.z ca h1 m1 own1
    have J2 := J1.grown hg2 (fun q hq => own1.row_lo q hq)
    refine hTwo (i := 3) (j := 4) (by kernel_rfl) (hVal (i := 3) (d := some 6) (v := .slice p2_ n1 t2_) (w' := w2) (l' := #[true, true, true, true, false, true, true, false, false, false]) rfl (by kernel_rfl) (by kernel_rfl) (by kernel_rfl) (run_app (.tmp 3) (.tmp 5) 22 22 (by kernel_rfl) (by kernel_rfl) (by kernel_rfl) (by kernel_rfl) hr2) J2.p ?_) (hVal (i := 4) (d := some 7) (v := .slice (some ⟨A1.heap.size, 0, none⟩) 0 0) (w' := A1.alloc (.cells #[] 9)) (l' := #[true, true, true, false, true, true, true, false, false, false]) rfl (by kernel_rfl) (by kernel_rfl) (by kernel_rfl) (run_bs0 (by kernel_rfl)) (J1.alloc (.cells #[] 9)).p ?_)
    · refine hOne (i := 4) (by kernel_rfl) (hVal (i := 4) (d := some 7) (v := .slice (some ⟨w2.heap.size, 0, none⟩) 0 0) (w' := w2.alloc (.cells #[] 9)) (l' := #[true, true, true, true, true, true, true, false, false, false]) rfl (by kernel_rfl) (by kernel_rfl) (by kernel_rfl) (run_bs0 (by kernel_rfl)) (J2.alloc (.cells #[] 9)).p ?_)
      have J3 := J2.alloc (.cells #[] 9)
      have own3 := bsOwn w2 (w.heap.size + 2) J2.z
      have zz3 : (w2.alloc (.cells #[] 9)).heap.size = w2.heap.size + 1 := by simp
      have v03 := ho2.alloc (.cells #[] 9)
      obtain ⟨A3, hA3⟩ : ∃ V, V = w2.alloc (.cells #[] 9) := ⟨_, rfl⟩
      rw [← hA3] at J3 own3 zz3 v03
      rw [← hA3]
      clear hA3
      have hh7 := v03.row_hi
      have DD : Dj (Value.slice p2_ n1 t2_).ownBlock (Value.slice (some ⟨w2.heap.size, 0, none⟩) 0 0).ownBlock := by
        cases hq : (Value.slice p2_ n1 t2_).ownBlock with
        | none => exact .inl rfl
        | some q => exact .inr (by have h5 := ho2.row_hi q hq; simp [Value.ownBlock]; omega)
      obtain ⟨p4_, t4_, w4, hr4, ho4, hg4, hk4⟩ := app0 w A3 (w.heap.size + 2) J3.b J3.z cb h2 m2 own3
      have J4 := J3.grown hg4 (fun q hq => own3.row_lo q hq)
      refine hOne (i := 7) (by kernel_rfl) (hVal (i := 7) (d := some 10) (v := .slice p4_ n2 t4_) (w' := w4) (l' := #[true, true, true, true, true, true, true, true, false, false]) rfl (by kernel_rfl) (by kernel_rfl) (by kernel_rfl) (run_app (.tmp 7) (.tmp 9) 22 22 (by kernel_rfl) (by kernel_rfl) (by kernel_rfl) (by kernel_rfl) hr4) J4.p ?_)
      have v04 := v03.grown hg4 DD
      have DF : Dj (Value.slice p2_ n1 t2_).ownBlock (Value.slice p4_ n2 t4_).ownBlock := by
        rcases hk4 with e | e
        · rw [e]; exact DD
        · exact Dj.new hh7 (.inr e)
      refine hTake (i := 8) (d := some 11) (v := .agg #[.slice p2_ n1 t2_, .slice p4_ n2 t4_]) (l' := #[true, true, true, true, true, true, true, true, true, false]) rfl (by kernel_rfl) (by kernel_rfl) (by kernel_rfl) (by kernel_rfl) (fun _ _ _ h => h) (by kernel_rfl) (fun _ hc => run_b42b (.tmp 6) (.tmp 10) (by kernel_rfl) (by kernel_rfl) (by kernel_rfl)) J4.p (by kernel_rfl) ?_
      obtain ⟨wf, hwf⟩ : ∃ wf, wf = w4.setCells (w.heap.size + 1) 0 [.slice p2_ n1 t2_, .slice p4_ n2 t4_] := ⟨_, rfl⟩
      have gf : w4.grownBy wf (some (w.heap.size + 1)) := by rw [hwf]; exact grown_setCells _ _ _ _ _ (World.grownBy.refl _ _)
      have cf : CF wf (w.heap.size + 1) [.slice p2_ n1 t2_, .slice p4_ n2 t4_] := by rw [hwf]; exact J4.r.stored rfl
      have zf := J4.z
      have pf := J4.p.block (gf.block w.heap.size (by omega) (by intro hh; injection hh with hh; omega))
      refine hOne (i := 9) (by kernel_rfl) (hSkip (i := 9) (w' := wf) (l' := #[true, true, true, true, true, true, true, true, true, true]) rfl (by kernel_rfl) (by kernel_rfl) (by kernel_rfl) (by rw [hwf]; exact run_stT 35 [.slice none 0 0, .slice none 0 0] [.slice p2_ n1 t2_, .slice p4_ n2 t4_] (.tmp 2) (.tmp 11) (by kernel_rfl) (by kernel_rfl) (by kernel_rfl) J4.r rfl Tryz.sizeLo (one2 _ _ _ _ _ _)) pf ?_)
      have k0 : wf.cell? ⟨w.heap.size + 1, 0, none⟩ = some (.slice p2_ n1 t2_) := (cf 0 (by simp)).1
      have k1 : wf.cell? ⟨w.heap.size + 1, 1, none⟩ = some (.slice p4_ n2 t4_) := (cf 1 (by simp)).1
      refine wpAnyH_done (by kernel_rfl) ?_ _
      go_wp2
      exact bodyPost_ret (v := .agg #[.slice p2_ n1 t2_, .slice p4_ n2 t4_]) (by simp [results, Tryz.results59, go_sem, k0, k1]) rfl ⟨_, _, _, _, rfl, (v04.grown gf (.inr (by intro hh; have := v04.row_lo _ hh; omega))).mono' (by omega), (ho4.grown gf (.inr (by intro hh; have := ho4.row_lo _ hh; omega))).mono' (by omega), DF, below_grown J4.b gf (by omega) (fun q hq => by simp at hq; omega)⟩
    · have J5 := J1.alloc (.cells #[] 9)
      have own5 := bsOwn A1 (w.heap.size + 2) J1.z
      have zz5 : (A1.alloc (.cells #[] 9)).heap.size = A1.heap.size + 1 := by simp
      have v05 := own1.alloc (.cells #[] 9)
      obtain ⟨A5, hA5⟩ : ∃ V, V = A1.alloc (.cells #[] 9) := ⟨_, rfl⟩
      rw [← hA5] at J5 own5 zz5 v05
      rw [← hA5]
      clear hA5
      obtain ⟨p6_, t6_, w6, hr6, ho6, hg6, hk6⟩ := app0 w A5 (w.heap.size + 2) J5.b J5.z ca h1 m1 v05
      have J6 := J5.grown hg6 (fun q hq => v05.row_lo q hq)
      refine hOne (i := 3) (by kernel_rfl) (hVal (i := 3) (d := some 6) (v := .slice p6_ n1 t6_) (w' := w6) (l' := #[true, true, true, true, true, true, true, false, false, false]) rfl (by kernel_rfl) (by kernel_rfl) (by kernel_rfl) (run_app (.tmp 3) (.tmp 5) 22 22 (by kernel_rfl) (by kernel_rfl) (by kernel_rfl) (by kernel_rfl) hr6) J6.p ?_)
      have v16 := own5.grown hg6 (.inr (by simp [Value.ownBlock]; omega))
      have hh7 := ho6.row_hi
      have DD : Dj (Value.slice p6_ n1 t6_).ownBlock (Value.slice (some ⟨A1.heap.size, 0, none⟩) 0 0).ownBlock := by
        rcases hk6 with e | e
        · rw [e]; exact .inr (by simp [Value.ownBlock]; omega)
        · rw [e]; exact .inr (by simp [Value.ownBlock]; omega)
      obtain ⟨p7_, t7_, w7, hr7, ho7, hg7, hk7⟩ := app0 w w6 (w.heap.size + 2) J6.b J6.z cb h2 m2 v16
      have J7 := J6.grown hg7 (fun q hq => v16.row_lo q hq)
      refine hOne (i := 7) (by kernel_rfl) (hVal (i := 7) (d := some 10) (v := .slice p7_ n2 t7_) (w' := w7) (l' := #[true, true, true, true, true, true, true, true, false, false]) rfl (by kernel_rfl) (by kernel_rfl) (by kernel_rfl) (run_app (.tmp 7) (.tmp 9) 22 22 (by kernel_rfl) (by kernel_rfl) (by kernel_rfl) (by kernel_rfl) hr7) J7.p ?_)
      have v07 := ho6.grown hg7 DD
      have DF : Dj (Value.slice p6_ n1 t6_).ownBlock (Value.slice p7_ n2 t7_).ownBlock := by
        rcases hk7 with e | e
        · rw [e]; exact DD
        · exact Dj.new hh7 (.inr e)
      refine hTake (i := 8) (d := some 11) (v := .agg #[.slice p6_ n1 t6_, .slice p7_ n2 t7_]) (l' := #[true, true, true, true, true, true, true, true, true, false]) rfl (by kernel_rfl) (by kernel_rfl) (by kernel_rfl) (by kernel_rfl) (fun _ _ _ h => h) (by kernel_rfl) (fun _ hc => run_b42b (.tmp 6) (.tmp 10) (by kernel_rfl) (by kernel_rfl) (by kernel_rfl)) J7.p (by kernel_rfl) ?_
      obtain ⟨wf, hwf⟩ : ∃ wf, wf = w7.setCells (w.heap.size + 1) 0 [.slice p6_ n1 t6_, .slice p7_ n2 t7_] := ⟨_, rfl⟩
      have gf : w7.grownBy wf (some (w.heap.size + 1)) := by rw [hwf]; exact grown_setCells _ _ _ _ _ (World.grownBy.refl _ _)
      have cf : CF wf (w.heap.size + 1) [.slice p6_ n1 t6_, .slice p7_ n2 t7_] := by rw [hwf]; exact J7.r.stored rfl
      have zf := J7.z
      have pf := J7.p.block (gf.block w.heap.size (by omega) (by intro hh; injection hh with hh; omega))
      refine hOne (i := 9) (by kernel_rfl) (hSkip (i := 9) (w' := wf) (l' := #[true, true, true, true, true, true, true, true, true, true]) rfl (by kernel_rfl) (by kernel_rfl) (by kernel_rfl) (by rw [hwf]; exact run_stT 35 [.slice none 0 0, .slice none 0 0] [.slice p6_ n1 t6_, .slice p7_ n2 t7_] (.tmp 2) (.tmp 11) (by kernel_rfl) (by kernel_rfl) (by kernel_rfl) J7.r rfl Tryz.sizeLo (one2 _ _ _ _ _ _)) pf ?_)
      have k0 : wf.cell? ⟨w.heap.size + 1, 0, none⟩ = some (.slice p6_ n1 t6_) := (cf 0 (by simp)).1
      have k1 : wf.cell? ⟨w.heap.size + 1, 1, none⟩ = some (.slice p7_ n2 t7_) := (cf 1 (by simp)).1
      refine wpAnyH_done (by kernel_rfl) ?_ _
      go_wp2
      exact bodyPost_ret (v := .agg #[.slice p6_ n1 t6_, .slice p7_ n2 t7_]) (by simp [results, Tryz.results59, go_sem, k0, k1]) rfl ⟨_, _, _, _, rfl, (v07.grown gf (.inr (by intro hh; have := v07.row_lo _ hh; omega))).mono' (by omega), (ho7.grown gf (.inr (by intro hh; have := ho7.row_lo _ hh; omega))).mono' (by omega), DF, below_grown J7.b gf (by omega) (fun q hq => by simp at hq; omega)⟩
  · have J8 := J0.alloc (.cells #[] 9)
    have own8 := bsOwn U (w.heap.size + 2) J0.z
    have zz8 : (U.alloc (.cells #[] 9)).heap.size = U.heap.size + 1 := by simp
    obtain ⟨A8, hA8⟩ : ∃ V, V = U.alloc (.cells #[] 9) := ⟨_, rfl⟩
    rw [← hA8] at J8 own8 zz8
    rw [← hA8]
    clear hA8
    refine hOne (i := 0) (by kernel_rfl) (hVal (i := 0) (d := some 3) (v := .slice (some ⟨A8.heap.size, 0, none⟩) 0 0) (w' := A8.alloc (.cells #[] 9)) (l' := #[true, true, true, false, true, true, true, false, false, false]) rfl (by kernel_rfl) (by kernel_rfl) (by kernel_rfl) (run_bs0 (by kernel_rfl)) (J8.alloc (.cells #[] 9)).p ?_)
    have J9 := J8.alloc (.cells #[] 9)
    have own9 := bsOwn A8 (w.heap.size + 2) J8.z
    have zz9 : (A8.alloc (.cells #[] 9)).heap.size = A8.heap.size + 1 := by simp
    have v19 := own8.alloc (.cells #[] 9)
    obtain ⟨A9, hA9⟩ : ∃ V, V = A8.alloc (.cells #[] 9) := ⟨_, rfl⟩
    rw [← hA9] at J9 own9 zz9 v19
    rw [← hA9]
    clear hA9
    obtain ⟨p10_, t10_, w10, hr10, ho10, hg10, hk10⟩ := app0 w A9 (w.heap.size + 2) J9.b J9.z ca h1 m1 own9
    have J10 := J9.grown hg10 (fun q hq => own9.row_lo q hq)
    refine hOne (i := 3) (by kernel_rfl) (hVal (i := 3) (d := some 6) (v := .slice p10_ n1 t10_) (w' := w10) (l' := #[true, true, true, true, true, true, true, false, false, false]) rfl (by kernel_rfl) (by kernel_rfl) (by kernel_rfl) (run_app (.tmp 3) (.tmp 5) 22 22 (by kernel_rfl) (by kernel_rfl) (by kernel_rfl) (by kernel_rfl) hr10) J10.p ?_)
    have v110 := v19.grown hg10 (.inr (by simp [Value.ownBlock]; omega))
    have hh7 := ho10.row_hi
    have DD : Dj (Value.slice p10_ n1 t10_).ownBlock (Value.slice (some ⟨U.heap.size, 0, none⟩) 0 0).ownBlock := by
      rcases hk10 with e | e
      · rw [e]; exact .inr (by simp [Value.ownBlock]; omega)
      · rw [e]; exact .inr (by simp [Value.ownBlock]; omega)
    obtain ⟨p11_, t11_, w11, hr11, ho11, hg11, hk11⟩ := app0 w w10 (w.heap.size + 2) J10.b J10.z cb h2 m2 v110
    have J11 := J10.grown hg11 (fun q hq => v110.row_lo q hq)
    refine hOne (i := 7) (by kernel_rfl) (hVal (i := 7) (d := some 10) (v := .slice p11_ n2 t11_) (w' := w11) (l' := #[true, true, true, true, true, true, true, true, false, false]) rfl (by kernel_rfl) (by kernel_rfl) (by kernel_rfl) (run_app (.tmp 7) (.tmp 9) 22 22 (by kernel_rfl) (by kernel_rfl) (by kernel_rfl) (by kernel_rfl) hr11) J11.p ?_)
    have v011 := ho10.grown hg11 DD
    have DF : Dj (Value.slice p10_ n1 t10_).ownBlock (Value.slice p11_ n2 t11_).ownBlock := by
      rcases hk11 with e | e
      · rw [e]; exact DD
      · exact Dj.new hh7 (.inr e)
    refine hTake (i := 8) (d := some 11) (v := .agg #[.slice p10_ n1 t10_, .slice p11_ n2 t11_]) (l' := #[true, true, true, true, true, true, true, true, true, false]) rfl (by kernel_rfl) (by kernel_rfl) (by kernel_rfl) (by kernel_rfl) (fun _ _ _ h => h) (by kernel_rfl) (fun _ hc => run_b42b (.tmp 6) (.tmp 10) (by kernel_rfl) (by kernel_rfl) (by kernel_rfl)) J11.p (by kernel_rfl) ?_
    obtain ⟨wf, hwf⟩ : ∃ wf, wf = w11.setCells (w.heap.size + 1) 0 [.slice p10_ n1 t10_, .slice p11_ n2 t11_] := ⟨_, rfl⟩
    have gf : w11.grownBy wf (some (w.heap.size + 1)) := by rw [hwf]; exact grown_setCells _ _ _ _ _ (World.grownBy.refl _ _)
    have cf : CF wf (w.heap.size + 1) [.slice p10_ n1 t10_, .slice p11_ n2 t11_] := by rw [hwf]; exact J11.r.stored rfl
    have zf := J11.z
    have pf := J11.p.block (gf.block w.heap.size (by omega) (by intro hh; injection hh with hh; omega))
    refine hOne (i := 9) (by kernel_rfl) (hSkip (i := 9) (w' := wf) (l' := #[true, true, true, true, true, true, true, true, true, true]) rfl (by kernel_rfl) (by kernel_rfl) (by kernel_rfl) (by rw [hwf]; exact run_stT 35 [.slice none 0 0, .slice none 0 0] [.slice p10_ n1 t10_, .slice p11_ n2 t11_] (.tmp 2) (.tmp 11) (by kernel_rfl) (by kernel_rfl) (by kernel_rfl) J11.r rfl Tryz.sizeLo (one2 _ _ _ _ _ _)) pf ?_)
    have k0 : wf.cell? ⟨w.heap.size + 1, 0, none⟩ = some (.slice p10_ n1 t10_) := (cf 0 (by simp)).1
    have k1 : wf.cell? ⟨w.heap.size + 1, 1, none⟩ = some (.slice p11_ n2 t11_) := (cf 1 (by simp)).1
    refine wpAnyH_done (by kernel_rfl) ?_ _
    go_wp2
    exact bodyPost_ret (v := .agg #[.slice p10_ n1 t10_, .slice p11_ n2 t11_]) (by simp [results, Tryz.results59, go_sem, k0, k1]) rfl ⟨_, _, _, _, rfl, (v011.grown gf (.inr (by intro hh; have := v011.row_lo _ hh; omega))).mono' (by omega), (ho11.grown gf (.inr (by intro hh; have := ho11.row_lo _ hh; omega))).mono' (by omega), DF, below_grown J11.b gf (by omega) (fun q hq => by simp at hq; omega)⟩

end Go.Proofs.YtaeomkpofcbmiaaGreat

namespace Go.Proofs.YtaeomkpofcbmiaaGreat
open Go.RowKit


set_option maxHeartbeats 4000000 in
set_option maxRecDepth 100000 in
theorem l5Copy_any (wk : Int) (up : Bool) (now sn ep gv : Int) (a1 a2 ar aj az ao : Option Addr) (b1 o1 n1 ca b2 o2 n2 cb br or' nr cr bj oj nj cj bs os' ns cs bo oo no co : Nat) (L1 L2 R : List ByteArray) (J : List Tr) (S : List (Bool × Int)) (O : List Tr) (w : World) (h0 : StrsAt w a1 b1 o1 n1 L1) (h1 : StrsAt w a2 b2 o2 n2 L2) (h2 : StrsAt w ar br or' nr R) (h3 : T3At w aj bj oj nj J) (h4 : T2At w az bs os' ns S) (h5 : T3At w ao bo oo no O) (m0 : n1 ≤ 1048576) (m1 : n2 ≤ 1048576) (m2 : nr ≤ 1048576) (m3 : nj ≤ 1048576) (m4 : ns ≤ 1048576) (m5 : no ≤ 1048576) :
    Calls Tryz.prog 24 #[.agg #[.int .i64 wk, .bool up, .int .i64 now, .int .i64 sn, .int .i64 ep, .int .i64 gv, .slice a1 n1 ca, .slice a2 n2 cb, .slice ar nr cr, .slice aj nj cj, .slice az ns cs, .slice ao no co]] w fun e w' => ∃ a0_ c0_ a1_ c1_ a2_ c2_ a3_ c3_ a4_ c4_ a5_ c5_, e = .returned (.agg #[.int .i64 wk, .bool up, .int .i64 now, .int .i64 sn, .int .i64 ep, .int .i64 gv, .slice a0_ n1 c0_, .slice a1_ n2 c1_, .slice a2_ nr c2_, .slice a3_ nj c3_, .slice a4_ ns c4_, .slice a5_ no c5_]) ∧ (Own w.heap.size w' 1 (.slice a0_ n1 c0_) n1 (L1.map Value.string) ∧ Own w.heap.size w' 1 (.slice a1_ n2 c1_) n2 (L2.map Value.string) ∧ Own w.heap.size w' 1 (.slice a2_ nr c2_) nr (R.map Value.string) ∧ Own w.heap.size w' 3 (.slice a3_ nj c3_) nj (c3 J) ∧ Own w.heap.size w' 2 (.slice a4_ ns c4_) ns (c2 S) ∧ Own w.heap.size w' 3 (.slice a5_ no c5_) no (c3 O)) ∧ List.Pairwise Dj [(Value.slice a0_ n1 c0_).ownBlock, (Value.slice a1_ n2 c1_).ownBlock, (Value.slice a2_ nr c2_).ownBlock, (Value.slice a3_ nj c3_).ownBlock, (Value.slice a4_ ns c4_).ownBlock, (Value.slice a5_ no c5_).ownBlock] ∧ Below w.heap.size w w' := by
  obtain ⟨i0, hi0, hz00, hz01, hz02⟩ := info_parts Tryz.infoSt
  obtain ⟨i3, hi3, hz30, hz31, hz32⟩ := info_parts Tryz.infoJb
  obtain ⟨i4, hi4, hz40, hz41, hz42⟩ := info_parts Tryz.infoSe
  obtain ⟨i5, hi5, hz50, hz51, hz52⟩ := info_parts Tryz.infoOw
  obtain ⟨W, hW⟩ : ∃ W, W = (w.alloc (.cells #[.int .i64 wk, .bool up, .int .i64 now, .int .i64 sn, .int .i64 ep, .int .i64 gv, .slice a1 n1 ca, .slice a2 n2 cb, .slice ar nr cr, .slice aj nj cj, .slice az ns cs, .slice ao no co] 40)).alloc (.cells #[.int .i64 0, .bool false, .int .i64 0, .int .i64 0, .int .i64 0, .int .i64 0, .slice none 0 0, .slice none 0 0, .slice none 0 0, .slice none 0 0, .slice none 0 0, .slice none 0 0] 40) := ⟨_, rfl⟩
  have B0 : Below w.heap.size w W := by rw [hW]; exact ((Below.refl _ _).alloc (Nat.le_refl _) _).alloc (by simp) _
  have z0 : w.heap.size + 2 ≤ W.heap.size := by rw [hW]; simp
  have P0 : CF W w.heap.size [.int .i64 wk, .bool up, .int .i64 now, .int .i64 sn, .int .i64 ep, .int .i64 gv, .slice a1 n1 ca, .slice a2 n2 cb, .slice ar nr cr, .slice aj nj cj, .slice az ns cs, .slice ao no co] := by
    rw [hW]; exact (CF.made w #[.int .i64 wk, .bool up, .int .i64 now, .int .i64 sn, .int .i64 ep, .int .i64 gv, .slice a1 n1 ca, .slice a2 n2 cb, .slice ar nr cr, .slice aj nj cj, .slice az ns cs, .slice ao no co] 40).block (Below.heap_alloc _ _ _ (by simp))
  have R0 : CF W (w.heap.size + 1) zB := by
    rw [hW]
    have := CF.made (w.alloc (.cells #[.int .i64 wk, .bool up, .int .i64 now, .int .i64 sn, .int .i64 ep, .int .i64 gv, .slice a1 n1 ca, .slice a2 n2 cb, .slice ar nr cr, .slice aj nj cj, .slice az ns cs, .slice ao no co] 40)) #[.int .i64 0, .bool false, .int .i64 0, .int .i64 0, .int .i64 0, .int .i64 0, .slice none 0 0, .slice none 0 0, .slice none 0 0, .slice none 0 0, .slice none 0 0, .slice none 0 0] 40
    simpa [zB] using this
  have HW := hid hW
  clear hW
  go_enter Tryz.func24, Tryz.ntmps24
  go_upto_region 1 with fail
  rw [← HW.out]
  clear HW
  have y6 : W.cell? ⟨w.heap.size, 6, none⟩ = some (.slice a1 n1 ca) := (P0 6 (by simp)).1
  have y7 : W.cell? ⟨w.heap.size, 7, none⟩ = some (.slice a2 n2 cb) := (P0 7 (by simp)).1
  go_upto_region 2 with (go_at_call 59; refine (l4Log_any a1 a2 b1 o1 n1 ca b2 o2 n2 cb L1 L2 _ (h0.below' B0) (h1.below' B0) m0 m1).mono ?_; rintro e u0 ⟨a0_, c0_, a1_, c1_, rfl, ho0, ho1, D01', hbu⟩; have Pu := P0.block (hbu.block w.heap.size (by omega)); have Ru := R0.block (hbu.block (w.heap.size + 1) (by omega)); have Bu := B0.trans (hbu.mono B0.size); have zu : w.heap.size + 2 ≤ u0.heap.size := Nat.le_trans z0 hbu.size; have yu6 : u0.cell? ⟨w.heap.size, 6, none⟩ = some (.slice a1 n1 ca) := (Pu 6 (by simp)).1; have yu7 : u0.cell? ⟨w.heap.size, 7, none⟩ = some (.slice a2 n2 cb) := (Pu 7 (by simp)).1; have fu6 : u0.frozen? ⟨w.heap.size, 6, none⟩ = false := (Pu 6 (by simp)).2; have fu7 : u0.frozen? ⟨w.heap.size, 7, none⟩ = false := (Pu 7 (by simp)).2)
  have g6 := gset (gset (World.grownBy.refl u0 (some w.heap.size)) 6 (.slice a0_ n1 c0_)) 7 (.slice a1_ n2 c1_)
  have P2 := (Pu.set (j := 6) (by simp) (.slice a0_ n1 c0_)).set (j := 7) (by simp) (.slice a1_ n2 c1_)
  simp only [List.set_cons_zero, List.set_cons_succ] at P2
  have R2 := Ru.block (g6.block (w.heap.size + 1) (by omega) (by intro hh; injection hh with hh; omega))
  have B2 := (Bu.setCell (p := ⟨w.heap.size, 6, none⟩) (by dsimp only; omega) (.slice a0_ n1 c0_)).setCell (p := ⟨w.heap.size, 7, none⟩) (by dsimp only; omega) (.slice a1_ n2 c1_)
  have z2 := Nat.le_trans zu g6.size
  have q0_2 := (ho0.mono' z0).grown g6 (.inr (by intro hh; have := (ho0.mono' z0).row_lo _ hh; omega))
  have q1_2 := (ho1.mono' z0).grown g6 (.inr (by intro hh; have := (ho1.mono' z0).row_lo _ hh; omega))
  have D01 := hid D01'
  obtain ⟨V2, hV2⟩ : ∃ V, V = (u0.setCell ⟨w.heap.size, 6, none⟩ (.slice a0_ n1 c0_)).setCell ⟨w.heap.size, 7, none⟩ (.slice a1_ n2 c1_) := ⟨_, rfl⟩
  rw [← hV2] at P2 R2 B2 z2 q0_2 q1_2
  rw [← hV2]
  clear hV2 g6 ho0 ho1 D01' hbu Pu Ru Bu zu yu6 yu7 fu6 fu7 y6 y7 P0 R0 B0 z0
  have y : V2.cell? ⟨w.heap.size, 8, none⟩ = some (.slice ar nr cr) := (P2 8 (by simp)).1
  have own0 : Own (w.heap.size + 2) (V2.alloc (.cells #[] 9)) 1 (.slice (some ⟨V2.heap.size, 0, none⟩) 0 0) 0 [] :=
    .inr ⟨_, 0, 0, rfl, OwnC.made V2 (w.heap.size + 2) 9 1 0 0 _ 0 z2 (Nat.le_refl _) (by unfold maxLen; omega) rfl (Nat.le_refl _) _ rfl _ (.inl rfl)⟩
  have BE : Below w.heap.size w (V2.alloc (.cells #[] 9)) := B2.alloc B2.size _
  have PE : CF (V2.alloc (.cells #[] 9)) w.heap.size [.int .i64 wk, .bool up, .int .i64 now, .int .i64 sn, .int .i64 ep, .int .i64 gv, .slice a0_ n1 c0_, .slice a1_ n2 c1_, .slice ar nr cr, .slice aj nj cj, .slice az ns cs, .slice ao no co] := P2.block (Below.heap_alloc _ _ _ (by omega))
  have RE : CF (V2.alloc (.cells #[] 9)) (w.heap.size + 1) zB := R2.block (Below.heap_alloc _ _ _ (by omega))
  have yE : (V2.alloc (.cells #[] 9)).cell? ⟨w.heap.size, 8, none⟩ = some (.slice ar nr cr) := (PE 8 (by simp)).1
  have zE : w.heap.size + 2 ≤ (V2.alloc (.cells #[] 9)).heap.size := by simp; omega
  have zE' : w.heap.size < (V2.alloc (.cells #[] 9)).heap.size := by omega
  have zE2 : w.heap.size + 1 < (V2.alloc (.cells #[] 9)).heap.size := by omega
  have sr : Src Tryz.prog 1 22 (.slice ar nr cr) nr (R.map Value.string) (V2.alloc (.cells #[] 9)) := (h2.below' BE).srcS cr
  have HSW : Hid ((V2.alloc (.cells #[] 9)).heap.size = V2.heap.size + 1) := hid (by simp)
  have q0E := q0_2.alloc (.cells #[] 9)
  have q1E := q1_2.alloc (.cells #[] 9)
  go_upto_region 3 with (at_builtin; refine wpList_append_c _ rfl _ _ 22 22 rfl (w.heap.size + 2) 9 i0 (.string ⟨#[]⟩) 1 16 Tryz.underlying22 hi0 hz00 hz01 hz02 rfl _ 0 _ rfl own0 _ nr _ rfl sr (by unfold maxLen; omega) (by omega) zE ?_; intro v2 u2 ho hg hbk; rw [Nat.zero_add, List.nil_append] at ho; obtain ⟨a2_, c2_, rfl⟩ := ho.slc; have hrw := own0.row_lo; have Pu := PE.block (hg.block w.heap.size zE' (fun e => by have := hrw _ e.symm; omega)); have Ru := RE.block (hg.block (w.heap.size + 1) zE2 (fun e => by have := hrw _ e.symm; omega)); have Bu := below_grown BE hg (Nat.le_trans (Nat.le_add_right _ 2) zE) (fun q hq => by have := hrw q hq; omega); have yu : u2.cell? ⟨w.heap.size, 8, none⟩ = some (.slice ar nr cr) := (Pu 8 (by simp)).1; have fu : u2.frozen? ⟨w.heap.size, 8, none⟩ = false := (Pu 8 (by simp)).2; have zu : w.heap.size + 2 ≤ u2.heap.size := Nat.le_trans zE hg.size)
  have P3 := Pu.set (j := 8) (by simp) (.slice a2_ nr c2_)
  simp only [List.set_cons_zero, List.set_cons_succ] at P3
  have gs := gset (World.grownBy.refl u2 (some w.heap.size)) 8 (.slice a2_ nr c2_)
  have R3 := Ru.block (Below.heap_setCell u2 (⟨w.heap.size, 8, none⟩ : Addr) (.slice a2_ nr c2_) (w.heap.size + 1) (by dsimp only; omega))
  have B3 := Bu.setCell (p := ⟨w.heap.size, 8, none⟩) (by dsimp only; omega) (.slice a2_ nr c2_)
  have z3 : w.heap.size + 2 ≤ (u2.setCell ⟨w.heap.size, 8, none⟩ (.slice a2_ nr c2_)).heap.size := by simpa [World.setCell] using zu
  have q2_3 := ho.grown gs (.inr (by intro hh; have := ho.row_lo _ hh; omega))
  have D02 : Hid (Dj (Value.slice a0_ n1 c0_).ownBlock (Value.slice a2_ nr c2_).ownBlock) := by
    rcases hbk with e | e
    · exact Dj.new q0_2.row_hi (.inr e)
    · exact Dj.new (fun q hq => by have h5 := q0_2.row_hi q hq; have h6 := HSW.out; omega) (.inr e)
  have q0_3 := (q0E.grown hg (Dj.new q0_2.row_hi (.inr rfl))).grown gs (.inr (by intro hh; have := q0_2.row_lo _ hh; omega))
  have D12 : Hid (Dj (Value.slice a1_ n2 c1_).ownBlock (Value.slice a2_ nr c2_).ownBlock) := by
    rcases hbk with e | e
    · exact Dj.new q1_2.row_hi (.inr e)
    · exact Dj.new (fun q hq => by have h5 := q1_2.row_hi q hq; have h6 := HSW.out; omega) (.inr e)
  have q1_3 := (q1E.grown hg (Dj.new q1_2.row_hi (.inr rfl))).grown gs (.inr (by intro hh; have := q1_2.row_lo _ hh; omega))
  obtain ⟨V3, hV3⟩ : ∃ V, V = u2.setCell ⟨w.heap.size, 8, none⟩ (.slice a2_ nr c2_) := ⟨_, rfl⟩
  rw [← hV3] at P3 R3 B3 z3 q0_3 q1_3 q2_3
  rw [← hV3]
  clear hV3 y sr yu fu zu Pu Ru Bu gs ho hg hbk hrw own0 BE PE RE yE zE zE' zE2 HSW P2 R2 B2 z2 q0_2 q0E q1_2 q1E
  have y : V3.cell? ⟨w.heap.size, 9, none⟩ = some (.slice aj nj cj) := (P3 9 (by simp)).1
  have own0 : Own (w.heap.size + 2) (V3.alloc (.cells #[] 66)) 3 (.slice (some ⟨V3.heap.size, 0, none⟩) 0 0) 0 [] :=
    .inr ⟨_, 0, 0, rfl, OwnC.made V3 (w.heap.size + 2) 66 3 0 0 _ 0 z3 (Nat.le_refl _) (by unfold maxLen; omega) rfl (Nat.le_refl _) _ rfl _ (.inl rfl)⟩
  have BE : Below w.heap.size w (V3.alloc (.cells #[] 66)) := B3.alloc B3.size _
  have PE : CF (V3.alloc (.cells #[] 66)) w.heap.size [.int .i64 wk, .bool up, .int .i64 now, .int .i64 sn, .int .i64 ep, .int .i64 gv, .slice a0_ n1 c0_, .slice a1_ n2 c1_, .slice a2_ nr c2_, .slice aj nj cj, .slice az ns cs, .slice ao no co] := P3.block (Below.heap_alloc _ _ _ (by omega))
  have RE : CF (V3.alloc (.cells #[] 66)) (w.heap.size + 1) zB := R3.block (Below.heap_alloc _ _ _ (by omega))
  have yE : (V3.alloc (.cells #[] 66)).cell? ⟨w.heap.size, 9, none⟩ = some (.slice aj nj cj) := (PE 9 (by simp)).1
  have zE : w.heap.size + 2 ≤ (V3.alloc (.cells #[] 66)).heap.size := by simp; omega
  have zE' : w.heap.size < (V3.alloc (.cells #[] 66)).heap.size := by omega
  have zE2 : w.heap.size + 1 < (V3.alloc (.cells #[] 66)).heap.size := by omega
  have sr : Src Tryz.prog 3 36 (.slice aj nj cj) nj (c3 J) (V3.alloc (.cells #[] 66)) := (h3.below' BE).src 36 66 Tryz.underlying36 cj
  have HSW : Hid ((V3.alloc (.cells #[] 66)).heap.size = V3.heap.size + 1) := hid (by simp)
  have q0E := q0_3.alloc (.cells #[] 66)
  have q1E := q1_3.alloc (.cells #[] 66)
  have q2E := q2_3.alloc (.cells #[] 66)
  go_upto_region 4 with (at_builtin; refine wpList_append_c _ rfl _ _ 36 36 rfl (w.heap.size + 2) 66 i3 (.agg #[.int .i64 0, .int .i64 0, .int .i64 0]) 3 24 Tryz.underlying36 hi3 hz30 hz31 hz32 rfl _ 0 _ rfl own0 _ nj _ rfl sr (by unfold maxLen; omega) (by omega) zE ?_; intro v3 u3 ho hg hbk; rw [Nat.zero_add, List.nil_append] at ho; obtain ⟨a3_, c3_, rfl⟩ := ho.slc; have hrw := own0.row_lo; have Pu := PE.block (hg.block w.heap.size zE' (fun e => by have := hrw _ e.symm; omega)); have Ru := RE.block (hg.block (w.heap.size + 1) zE2 (fun e => by have := hrw _ e.symm; omega)); have Bu := below_grown BE hg (Nat.le_trans (Nat.le_add_right _ 2) zE) (fun q hq => by have := hrw q hq; omega); have yu : u3.cell? ⟨w.heap.size, 9, none⟩ = some (.slice aj nj cj) := (Pu 9 (by simp)).1; have fu : u3.frozen? ⟨w.heap.size, 9, none⟩ = false := (Pu 9 (by simp)).2; have zu : w.heap.size + 2 ≤ u3.heap.size := Nat.le_trans zE hg.size)
  have P4 := Pu.set (j := 9) (by simp) (.slice a3_ nj c3_)
  simp only [List.set_cons_zero, List.set_cons_succ] at P4
  have gs := gset (World.grownBy.refl u3 (some w.heap.size)) 9 (.slice a3_ nj c3_)
  have R4 := Ru.block (Below.heap_setCell u3 (⟨w.heap.size, 9, none⟩ : Addr) (.slice a3_ nj c3_) (w.heap.size + 1) (by dsimp only; omega))
  have B4 := Bu.setCell (p := ⟨w.heap.size, 9, none⟩) (by dsimp only; omega) (.slice a3_ nj c3_)
  have z4 : w.heap.size + 2 ≤ (u3.setCell ⟨w.heap.size, 9, none⟩ (.slice a3_ nj c3_)).heap.size := by simpa [World.setCell] using zu
  have q3_4 := ho.grown gs (.inr (by intro hh; have := ho.row_lo _ hh; omega))
  have D03 : Hid (Dj (Value.slice a0_ n1 c0_).ownBlock (Value.slice a3_ nj c3_).ownBlock) := by
    rcases hbk with e | e
    · exact Dj.new q0_3.row_hi (.inr e)
    · exact Dj.new (fun q hq => by have h5 := q0_3.row_hi q hq; have h6 := HSW.out; omega) (.inr e)
  have q0_4 := (q0E.grown hg (Dj.new q0_3.row_hi (.inr rfl))).grown gs (.inr (by intro hh; have := q0_3.row_lo _ hh; omega))
  have D13 : Hid (Dj (Value.slice a1_ n2 c1_).ownBlock (Value.slice a3_ nj c3_).ownBlock) := by
    rcases hbk with e | e
    · exact Dj.new q1_3.row_hi (.inr e)
    · exact Dj.new (fun q hq => by have h5 := q1_3.row_hi q hq; have h6 := HSW.out; omega) (.inr e)
  have q1_4 := (q1E.grown hg (Dj.new q1_3.row_hi (.inr rfl))).grown gs (.inr (by intro hh; have := q1_3.row_lo _ hh; omega))
  have D23 : Hid (Dj (Value.slice a2_ nr c2_).ownBlock (Value.slice a3_ nj c3_).ownBlock) := by
    rcases hbk with e | e
    · exact Dj.new q2_3.row_hi (.inr e)
    · exact Dj.new (fun q hq => by have h5 := q2_3.row_hi q hq; have h6 := HSW.out; omega) (.inr e)
  have q2_4 := (q2E.grown hg (Dj.new q2_3.row_hi (.inr rfl))).grown gs (.inr (by intro hh; have := q2_3.row_lo _ hh; omega))
  obtain ⟨V4, hV4⟩ : ∃ V, V = u3.setCell ⟨w.heap.size, 9, none⟩ (.slice a3_ nj c3_) := ⟨_, rfl⟩
  rw [← hV4] at P4 R4 B4 z4 q0_4 q1_4 q2_4 q3_4
  rw [← hV4]
  clear hV4 y sr yu fu zu Pu Ru Bu gs ho hg hbk hrw own0 BE PE RE yE zE zE' zE2 HSW P3 R3 B3 z3 q0_3 q0E q1_3 q1E q2_3 q2E
  have y : V4.cell? ⟨w.heap.size, 10, none⟩ = some (.slice az ns cs) := (P4 10 (by simp)).1
  have own0 : Own (w.heap.size + 2) (V4.alloc (.cells #[] 104)) 2 (.slice (some ⟨V4.heap.size, 0, none⟩) 0 0) 0 [] :=
    .inr ⟨_, 0, 0, rfl, OwnC.made V4 (w.heap.size + 2) 104 2 0 0 _ 0 z4 (Nat.le_refl _) (by unfold maxLen; omega) rfl (Nat.le_refl _) _ rfl _ (.inl rfl)⟩
  have BE : Below w.heap.size w (V4.alloc (.cells #[] 104)) := B4.alloc B4.size _
  have PE : CF (V4.alloc (.cells #[] 104)) w.heap.size [.int .i64 wk, .bool up, .int .i64 now, .int .i64 sn, .int .i64 ep, .int .i64 gv, .slice a0_ n1 c0_, .slice a1_ n2 c1_, .slice a2_ nr c2_, .slice a3_ nj c3_, .slice az ns cs, .slice ao no co] := P4.block (Below.heap_alloc _ _ _ (by omega))
  have RE : CF (V4.alloc (.cells #[] 104)) (w.heap.size + 1) zB := R4.block (Below.heap_alloc _ _ _ (by omega))
  have yE : (V4.alloc (.cells #[] 104)).cell? ⟨w.heap.size, 10, none⟩ = some (.slice az ns cs) := (PE 10 (by simp)).1
  have zE : w.heap.size + 2 ≤ (V4.alloc (.cells #[] 104)).heap.size := by simp; omega
  have zE' : w.heap.size < (V4.alloc (.cells #[] 104)).heap.size := by omega
  have zE2 : w.heap.size + 1 < (V4.alloc (.cells #[] 104)).heap.size := by omega
  have sr : Src Tryz.prog 2 37 (.slice az ns cs) ns (c2 S) (V4.alloc (.cells #[] 104)) := (h4.below' BE).src 37 104 Tryz.underlying37 cs
  have HSW : Hid ((V4.alloc (.cells #[] 104)).heap.size = V4.heap.size + 1) := hid (by simp)
  have q0E := q0_4.alloc (.cells #[] 104)
  have q1E := q1_4.alloc (.cells #[] 104)
  have q2E := q2_4.alloc (.cells #[] 104)
  have q3E := q3_4.alloc (.cells #[] 104)
  go_upto_region 5 with (at_builtin; refine wpList_append_c _ rfl _ _ 37 37 rfl (w.heap.size + 2) 104 i4 (.agg #[.bool false, .int .i64 0]) 2 16 Tryz.underlying37 hi4 hz40 hz41 hz42 rfl _ 0 _ rfl own0 _ ns _ rfl sr (by unfold maxLen; omega) (by omega) zE ?_; intro v4 u4 ho hg hbk; rw [Nat.zero_add, List.nil_append] at ho; obtain ⟨a4_, c4_, rfl⟩ := ho.slc; have hrw := own0.row_lo; have Pu := PE.block (hg.block w.heap.size zE' (fun e => by have := hrw _ e.symm; omega)); have Ru := RE.block (hg.block (w.heap.size + 1) zE2 (fun e => by have := hrw _ e.symm; omega)); have Bu := below_grown BE hg (Nat.le_trans (Nat.le_add_right _ 2) zE) (fun q hq => by have := hrw q hq; omega); have yu : u4.cell? ⟨w.heap.size, 10, none⟩ = some (.slice az ns cs) := (Pu 10 (by simp)).1; have fu : u4.frozen? ⟨w.heap.size, 10, none⟩ = false := (Pu 10 (by simp)).2; have zu : w.heap.size + 2 ≤ u4.heap.size := Nat.le_trans zE hg.size)
  have P5 := Pu.set (j := 10) (by simp) (.slice a4_ ns c4_)
  simp only [List.set_cons_zero, List.set_cons_succ] at P5
  have gs := gset (World.grownBy.refl u4 (some w.heap.size)) 10 (.slice a4_ ns c4_)
  have R5 := Ru.block (Below.heap_setCell u4 (⟨w.heap.size, 10, none⟩ : Addr) (.slice a4_ ns c4_) (w.heap.size + 1) (by dsimp only; omega))
  have B5 := Bu.setCell (p := ⟨w.heap.size, 10, none⟩) (by dsimp only; omega) (.slice a4_ ns c4_)
  have z5 : w.heap.size + 2 ≤ (u4.setCell ⟨w.heap.size, 10, none⟩ (.slice a4_ ns c4_)).heap.size := by simpa [World.setCell] using zu
  have q4_5 := ho.grown gs (.inr (by intro hh; have := ho.row_lo _ hh; omega))
  have D04 : Hid (Dj (Value.slice a0_ n1 c0_).ownBlock (Value.slice a4_ ns c4_).ownBlock) := by
    rcases hbk with e | e
    · exact Dj.new q0_4.row_hi (.inr e)
    · exact Dj.new (fun q hq => by have h5 := q0_4.row_hi q hq; have h6 := HSW.out; omega) (.inr e)
  have q0_5 := (q0E.grown hg (Dj.new q0_4.row_hi (.inr rfl))).grown gs (.inr (by intro hh; have := q0_4.row_lo _ hh; omega))
  have D14 : Hid (Dj (Value.slice a1_ n2 c1_).ownBlock (Value.slice a4_ ns c4_).ownBlock) := by
    rcases hbk with e | e
    · exact Dj.new q1_4.row_hi (.inr e)
    · exact Dj.new (fun q hq => by have h5 := q1_4.row_hi q hq; have h6 := HSW.out; omega) (.inr e)
  have q1_5 := (q1E.grown hg (Dj.new q1_4.row_hi (.inr rfl))).grown gs (.inr (by intro hh; have := q1_4.row_lo _ hh; omega))
  have D24 : Hid (Dj (Value.slice a2_ nr c2_).ownBlock (Value.slice a4_ ns c4_).ownBlock) := by
    rcases hbk with e | e
    · exact Dj.new q2_4.row_hi (.inr e)
    · exact Dj.new (fun q hq => by have h5 := q2_4.row_hi q hq; have h6 := HSW.out; omega) (.inr e)
  have q2_5 := (q2E.grown hg (Dj.new q2_4.row_hi (.inr rfl))).grown gs (.inr (by intro hh; have := q2_4.row_lo _ hh; omega))
  have D34 : Hid (Dj (Value.slice a3_ nj c3_).ownBlock (Value.slice a4_ ns c4_).ownBlock) := by
    rcases hbk with e | e
    · exact Dj.new q3_4.row_hi (.inr e)
    · exact Dj.new (fun q hq => by have h5 := q3_4.row_hi q hq; have h6 := HSW.out; omega) (.inr e)
  have q3_5 := (q3E.grown hg (Dj.new q3_4.row_hi (.inr rfl))).grown gs (.inr (by intro hh; have := q3_4.row_lo _ hh; omega))
  obtain ⟨V5, hV5⟩ : ∃ V, V = u4.setCell ⟨w.heap.size, 10, none⟩ (.slice a4_ ns c4_) := ⟨_, rfl⟩
  rw [← hV5] at P5 R5 B5 z5 q0_5 q1_5 q2_5 q3_5 q4_5
  rw [← hV5]
  clear hV5 y sr yu fu zu Pu Ru Bu gs ho hg hbk hrw own0 BE PE RE yE zE zE' zE2 HSW P4 R4 B4 z4 q0_4 q0E q1_4 q1E q2_4 q2E q3_4 q3E
  have y : V5.cell? ⟨w.heap.size, 11, none⟩ = some (.slice ao no co) := (P5 11 (by simp)).1
  have own0 : Own (w.heap.size + 2) (V5.alloc (.cells #[] 69)) 3 (.slice (some ⟨V5.heap.size, 0, none⟩) 0 0) 0 [] :=
    .inr ⟨_, 0, 0, rfl, OwnC.made V5 (w.heap.size + 2) 69 3 0 0 _ 0 z5 (Nat.le_refl _) (by unfold maxLen; omega) rfl (Nat.le_refl _) _ rfl _ (.inl rfl)⟩
  have BE : Below w.heap.size w (V5.alloc (.cells #[] 69)) := B5.alloc B5.size _
  have PE : CF (V5.alloc (.cells #[] 69)) w.heap.size [.int .i64 wk, .bool up, .int .i64 now, .int .i64 sn, .int .i64 ep, .int .i64 gv, .slice a0_ n1 c0_, .slice a1_ n2 c1_, .slice a2_ nr c2_, .slice a3_ nj c3_, .slice a4_ ns c4_, .slice ao no co] := P5.block (Below.heap_alloc _ _ _ (by omega))
  have RE : CF (V5.alloc (.cells #[] 69)) (w.heap.size + 1) zB := R5.block (Below.heap_alloc _ _ _ (by omega))
  have yE : (V5.alloc (.cells #[] 69)).cell? ⟨w.heap.size, 11, none⟩ = some (.slice ao no co) := (PE 11 (by simp)).1
  have zE : w.heap.size + 2 ≤ (V5.alloc (.cells #[] 69)).heap.size := by simp; omega
  have zE' : w.heap.size < (V5.alloc (.cells #[] 69)).heap.size := by omega
  have zE2 : w.heap.size + 1 < (V5.alloc (.cells #[] 69)).heap.size := by omega
  have sr : Src Tryz.prog 3 38 (.slice ao no co) no (c3 O) (V5.alloc (.cells #[] 69)) := (h5.below' BE).src 38 69 Tryz.underlying38 co
  have HSW : Hid ((V5.alloc (.cells #[] 69)).heap.size = V5.heap.size + 1) := hid (by simp)
  have q0E := q0_5.alloc (.cells #[] 69)
  have q1E := q1_5.alloc (.cells #[] 69)
  have q2E := q2_5.alloc (.cells #[] 69)
  have q3E := q3_5.alloc (.cells #[] 69)
  have q4E := q4_5.alloc (.cells #[] 69)
  go_upto_region 6 with (at_builtin; refine wpList_append_c _ rfl _ _ 38 38 rfl (w.heap.size + 2) 69 i5 (.agg #[.int .i64 0, .int .i64 0, .int .i64 0]) 3 24 Tryz.underlying38 hi5 hz50 hz51 hz52 rfl _ 0 _ rfl own0 _ no _ rfl sr (by unfold maxLen; omega) (by omega) zE ?_; intro v5 u5 ho hg hbk; rw [Nat.zero_add, List.nil_append] at ho; obtain ⟨a5_, c5_, rfl⟩ := ho.slc; have hrw := own0.row_lo; have Pu := PE.block (hg.block w.heap.size zE' (fun e => by have := hrw _ e.symm; omega)); have Ru := RE.block (hg.block (w.heap.size + 1) zE2 (fun e => by have := hrw _ e.symm; omega)); have Bu := below_grown BE hg (Nat.le_trans (Nat.le_add_right _ 2) zE) (fun q hq => by have := hrw q hq; omega); have yu : u5.cell? ⟨w.heap.size, 11, none⟩ = some (.slice ao no co) := (Pu 11 (by simp)).1; have fu : u5.frozen? ⟨w.heap.size, 11, none⟩ = false := (Pu 11 (by simp)).2; have zu : w.heap.size + 2 ≤ u5.heap.size := Nat.le_trans zE hg.size)
  have P6 := Pu.set (j := 11) (by simp) (.slice a5_ no c5_)
  simp only [List.set_cons_zero, List.set_cons_succ] at P6
  have gs := gset (World.grownBy.refl u5 (some w.heap.size)) 11 (.slice a5_ no c5_)
  have R6 := Ru.block (Below.heap_setCell u5 (⟨w.heap.size, 11, none⟩ : Addr) (.slice a5_ no c5_) (w.heap.size + 1) (by dsimp only; omega))
  have B6 := Bu.setCell (p := ⟨w.heap.size, 11, none⟩) (by dsimp only; omega) (.slice a5_ no c5_)
  have z6 : w.heap.size + 2 ≤ (u5.setCell ⟨w.heap.size, 11, none⟩ (.slice a5_ no c5_)).heap.size := by simpa [World.setCell] using zu
  have q5_6 := ho.grown gs (.inr (by intro hh; have := ho.row_lo _ hh; omega))
  have D05 : Hid (Dj (Value.slice a0_ n1 c0_).ownBlock (Value.slice a5_ no c5_).ownBlock) := by
    rcases hbk with e | e
    · exact Dj.new q0_5.row_hi (.inr e)
    · exact Dj.new (fun q hq => by have h5 := q0_5.row_hi q hq; have h6 := HSW.out; omega) (.inr e)
  have q0_6 := (q0E.grown hg (Dj.new q0_5.row_hi (.inr rfl))).grown gs (.inr (by intro hh; have := q0_5.row_lo _ hh; omega))
  have D15 : Hid (Dj (Value.slice a1_ n2 c1_).ownBlock (Value.slice a5_ no c5_).ownBlock) := by
    rcases hbk with e | e
    · exact Dj.new q1_5.row_hi (.inr e)
    · exact Dj.new (fun q hq => by have h5 := q1_5.row_hi q hq; have h6 := HSW.out; omega) (.inr e)
  have q1_6 := (q1E.grown hg (Dj.new q1_5.row_hi (.inr rfl))).grown gs (.inr (by intro hh; have := q1_5.row_lo _ hh; omega))
  have D25 : Hid (Dj (Value.slice a2_ nr c2_).ownBlock (Value.slice a5_ no c5_).ownBlock) := by
    rcases hbk with e | e
    · exact Dj.new q2_5.row_hi (.inr e)
    · exact Dj.new (fun q hq => by have h5 := q2_5.row_hi q hq; have h6 := HSW.out; omega) (.inr e)
  have q2_6 := (q2E.grown hg (Dj.new q2_5.row_hi (.inr rfl))).grown gs (.inr (by intro hh; have := q2_5.row_lo _ hh; omega))
  have D35 : Hid (Dj (Value.slice a3_ nj c3_).ownBlock (Value.slice a5_ no c5_).ownBlock) := by
    rcases hbk with e | e
    · exact Dj.new q3_5.row_hi (.inr e)
    · exact Dj.new (fun q hq => by have h5 := q3_5.row_hi q hq; have h6 := HSW.out; omega) (.inr e)
  have q3_6 := (q3E.grown hg (Dj.new q3_5.row_hi (.inr rfl))).grown gs (.inr (by intro hh; have := q3_5.row_lo _ hh; omega))
  have D45 : Hid (Dj (Value.slice a4_ ns c4_).ownBlock (Value.slice a5_ no c5_).ownBlock) := by
    rcases hbk with e | e
    · exact Dj.new q4_5.row_hi (.inr e)
    · exact Dj.new (fun q hq => by have h5 := q4_5.row_hi q hq; have h6 := HSW.out; omega) (.inr e)
  have q4_6 := (q4E.grown hg (Dj.new q4_5.row_hi (.inr rfl))).grown gs (.inr (by intro hh; have := q4_5.row_lo _ hh; omega))
  obtain ⟨V6, hV6⟩ : ∃ V, V = u5.setCell ⟨w.heap.size, 11, none⟩ (.slice a5_ no c5_) := ⟨_, rfl⟩
  rw [← hV6] at P6 R6 B6 z6 q0_6 q1_6 q2_6 q3_6 q4_6 q5_6
  rw [← hV6]
  clear hV6 y sr yu fu zu Pu Ru Bu gs ho hg hbk hrw own0 BE PE RE yE zE zE' zE2 HSW P5 R5 B5 z5 q0_5 q0E q1_5 q1E q2_5 q2E q3_5 q3E q4_5 q4E
  have y0 : V6.cell? ⟨w.heap.size, 0, none⟩ = some (.int .i64 wk) := (P6 0 (by simp)).1
  have y1 : V6.cell? ⟨w.heap.size, 1, none⟩ = some (.bool up) := (P6 1 (by simp)).1
  have y2 : V6.cell? ⟨w.heap.size, 2, none⟩ = some (.int .i64 now) := (P6 2 (by simp)).1
  have y3 : V6.cell? ⟨w.heap.size, 3, none⟩ = some (.int .i64 sn) := (P6 3 (by simp)).1
  have y4 : V6.cell? ⟨w.heap.size, 4, none⟩ = some (.int .i64 ep) := (P6 4 (by simp)).1
  have y5 : V6.cell? ⟨w.heap.size, 5, none⟩ = some (.int .i64 gv) := (P6 5 (by simp)).1
  have y6 : V6.cell? ⟨w.heap.size, 6, none⟩ = some (.slice a0_ n1 c0_) := (P6 6 (by simp)).1
  have y7 : V6.cell? ⟨w.heap.size, 7, none⟩ = some (.slice a1_ n2 c1_) := (P6 7 (by simp)).1
  have y8 : V6.cell? ⟨w.heap.size, 8, none⟩ = some (.slice a2_ nr c2_) := (P6 8 (by simp)).1
  have y9 : V6.cell? ⟨w.heap.size, 9, none⟩ = some (.slice a3_ nj c3_) := (P6 9 (by simp)).1
  have y10 : V6.cell? ⟨w.heap.size, 10, none⟩ = some (.slice a4_ ns c4_) := (P6 10 (by simp)).1
  have y11 : V6.cell? ⟨w.heap.size, 11, none⟩ = some (.slice a5_ no c5_) := (P6 11 (by simp)).1
  go_wp2_with (refine wpList_store_cf rfl 40 (.tmp 2) (.tmp 27) rfl (w.heap.size + 1) zB [.int .i64 wk, .bool up, .int .i64 now, .int .i64 sn, .int .i64 ep, .int .i64 gv, .slice a0_ n1 c0_, .slice a1_ n2 c1_, .slice a2_ nr c2_, .slice a3_ nj c3_, .slice a4_ ns c4_, .slice a5_ no c5_] rfl rfl R6 rfl Tryz.sizeBo (one12b _ _ _ _ _ _ _ _ _ _ _ _ _ _ _ _ _ _ _ _ _ _ _ _) ?_; intro w10 hc10 hg10)
  have k0 : w10.cell? ⟨w.heap.size + 1, 0, none⟩ = some (.int .i64 wk) := (hc10 0 (by simp)).1
  have k1 : w10.cell? ⟨w.heap.size + 1, 1, none⟩ = some (.bool up) := (hc10 1 (by simp)).1
  have k2 : w10.cell? ⟨w.heap.size + 1, 2, none⟩ = some (.int .i64 now) := (hc10 2 (by simp)).1
  have k3 : w10.cell? ⟨w.heap.size + 1, 3, none⟩ = some (.int .i64 sn) := (hc10 3 (by simp)).1
  have k4 : w10.cell? ⟨w.heap.size + 1, 4, none⟩ = some (.int .i64 ep) := (hc10 4 (by simp)).1
  have k5 : w10.cell? ⟨w.heap.size + 1, 5, none⟩ = some (.int .i64 gv) := (hc10 5 (by simp)).1
  have k6 : w10.cell? ⟨w.heap.size + 1, 6, none⟩ = some (.slice a0_ n1 c0_) := (hc10 6 (by simp)).1
  have k7 : w10.cell? ⟨w.heap.size + 1, 7, none⟩ = some (.slice a1_ n2 c1_) := (hc10 7 (by simp)).1
  have k8 : w10.cell? ⟨w.heap.size + 1, 8, none⟩ = some (.slice a2_ nr c2_) := (hc10 8 (by simp)).1
  have k9 : w10.cell? ⟨w.heap.size + 1, 9, none⟩ = some (.slice a3_ nj c3_) := (hc10 9 (by simp)).1
  have k10 : w10.cell? ⟨w.heap.size + 1, 10, none⟩ = some (.slice a4_ ns c4_) := (hc10 10 (by simp)).1
  have k11 : w10.cell? ⟨w.heap.size + 1, 11, none⟩ = some (.slice a5_ no c5_) := (hc10 11 (by simp)).1
  refine bodyPost_ret (v := .agg #[.int .i64 wk, .bool up, .int .i64 now, .int .i64 sn, .int .i64 ep, .int .i64 gv, .slice a0_ n1 c0_, .slice a1_ n2 c1_, .slice a2_ nr c2_, .slice a3_ nj c3_, .slice a4_ ns c4_, .slice a5_ no c5_]) (by simp [results, Tryz.results24, go_sem, k0, k1, k2, k3, k4, k5, k6, k7, k8, k9, k10, k11]) rfl ⟨a0_, c0_, a1_, c1_, a2_, c2_, a3_, c3_, a4_, c4_, a5_, c5_, rfl, ⟨(q0_6.grown hg10 (.inr (by intro hh; have := q0_6.row_lo _ hh; omega))).mono' (by omega), (q1_6.grown hg10 (.inr (by intro hh; have := q1_6.row_lo _ hh; omega))).mono' (by omega), (q2_6.grown hg10 (.inr (by intro hh; have := q2_6.row_lo _ hh; omega))).mono' (by omega), (q3_6.grown hg10 (.inr (by intro hh; have := q3_6.row_lo _ hh; omega))).mono' (by omega), (q4_6.grown hg10 (.inr (by intro hh; have := q4_6.row_lo _ hh; omega))).mono' (by omega), (q5_6.grown hg10 (.inr (by intro hh; have := q5_6.row_lo _ hh; omega))).mono' (by omega)⟩, ?_, below_grown B6 hg10 (by omega) (fun q hq => by simp at hq; omega)⟩
  simp only [List.pairwise_cons, List.mem_cons, List.not_mem_nil, or_false, forall_eq_or_imp, forall_eq, List.Pairwise.nil, and_true, false_implies, implies_true]
  exact ⟨⟨D01.out, D02.out, D03.out, D04.out, D05.out⟩, ⟨D12.out, D13.out, D14.out, D15.out⟩, ⟨D23.out, D24.out, D25.out⟩, ⟨D34.out, D35.out⟩, D45.out⟩
end Go.Proofs.YtaeomkpofcbmiaaGreat
