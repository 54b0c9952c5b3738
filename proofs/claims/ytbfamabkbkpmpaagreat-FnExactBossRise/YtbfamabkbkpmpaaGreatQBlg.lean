import Derived.Test.YtbfamabkbkpmpaaGreatQBfa
namespace Go.Proofs.YtbfamabkbkpmpaaGreat
open Go.RowKit

theorem Tryz.sizeLo : (Tryz.prog.info? 35).map (·.size) = some 2 := by kernel_rfl
theorem bsOwn (w : World) (B : Nat) (h : B ≤ w.heap.size) : Own B (w.alloc (.cells #[] 9)) 1 (.slice (some ⟨w.heap.size, 0, none⟩) 0 0) 0 [] :=
  .inr ⟨_, 0, 0, rfl, OwnC.made w B 9 1 0 0 _ 0 h (Nat.le_refl _) (by unfold maxLen; omega) rfl (Nat.le_refl _) _ rfl _ (.inl rfl)⟩
/-- What holds all along: the box, the answer's box. -/
structure LJ (w : World) (a1 : Option Addr) (n1 ca : Nat) (a2 : Option Addr) (n2 cb : Nat) (w' : World) : Prop where
  p : CF w' w.heap.size [.slice a1 n1 ca, .slice a2 n2 cb]
  r : CF w' (w.heap.size + 1) [.slice none 0 0, .slice none 0 0]
  b : Below w.heap.size w w'
  z : w.heap.size + 2 ≤ w'.heap.size
theorem LJ.alloc {w : World} {a1 : Option Addr} {n1 ca : Nat} {a2 : Option Addr} {n2 cb : Nat} {w' : World} (h : LJ w a1 n1 ca a2 n2 cb w') (ob : Obj) : LJ w a1 n1 ca a2 n2 cb (w'.alloc ob) :=
  ⟨h.p.block (Below.heap_alloc _ _ _ (by have := h.z; omega)), h.r.block (Below.heap_alloc _ _ _ (by have := h.z; omega)), h.b.alloc h.b.size ob, by have := h.z; simp; omega⟩
theorem LJ.grown {w : World} {a1 : Option Addr} {n1 ca : Nat} {a2 : Option Addr} {n2 cb : Nat} {w' w'' : World} {row : Option Nat} (h : LJ w a1 n1 ca a2 n2 cb w') (hg : w'.grownBy w'' row) (hr : ∀ q, row = some q → w.heap.size + 2 ≤ q) : LJ w a1 n1 ca a2 n2 cb w'' :=
  ⟨h.p.block (hg.block _ (by have := h.z; omega) (fun e => by have := hr _ e.symm; omega)), h.r.block (hg.block _ (by have := h.z; omega) (fun e => by have := hr _ e.symm; omega)), below_grown h.b hg (by have := h.z; omega) (fun q hq => by have := hr q hq; omega), Nat.le_trans h.z hg.size⟩
theorem app0 (w U : World) (B : Nat) (hb : Below w.heap.size w U) (hB : B ≤ U.heap.size) {a : Option Addr} {b o n : Nat} {L : List ByteArray} (c : Nat) (h : StrsAt w a b o n L) (hn : n ≤ 1048576) {v : Value} (hv : Own B U 1 v 0 []) :
    ∃ a' c' w', (Builtin.append_ #[22, 22] 22 #[v, .slice a n c]).run Tryz.prog U = .ok (.slice a' n c') w' ∧ Own B w' 1 (.slice a' n c') n (L.map Value.string) ∧ U.grownBy w' v.ownBlock ∧ ((Value.slice a' n c').ownBlock = v.ownBlock ∨ (Value.slice a' n c').ownBlock = some U.heap.size) := by
  obtain ⟨i0, hi0, hz00, hz01, hz02⟩ := info_parts Tryz.infoSt
  obtain ⟨v', w', hr, ho, hg, hk⟩ := run_append_c (P := Tryz.prog) U B 22 22 22 9 i0 (.string ⟨#[]⟩) 1 16 Tryz.underlying22 hi0 hz00 hz01 hz02 rfl _ 0 _ hv _ n _ ((h.below' hb).srcS c) (by unfold maxLen; omega) (by omega) hB
  rw [Nat.zero_add, List.nil_append] at ho
  obtain ⟨a', c', rfl⟩ := ho.slc
  exact ⟨a', c', w', hr, ho, hg, hk⟩
theorem run_b42b {ρ : Operand → Value} {o : Oper} {w : World} {a : Option Addr} {n c : Nat} {a' : Option Addr} {n' c' : Nat} (x y : Operand) (h : o.op = .build 35 #[(0, x), (1, y)]) (hx : ρ x = .slice a n c) (hy : ρ y = .slice a' n' c') : (execOp ρ o).run Tryz.prog w = .ok (.value (.agg #[.slice a n c, .slice a' n' c'])) w := by
  unfold execOp
  rw [h]
  simp [go_sem, hx, hy]
theorem one2 (a a' : Option Addr) (n c n' c' : Nat) : ∀ v ∈ [Value.slice a n c, .slice a' n' c'], v.oneCell' = true := by
  intro v hv
  simp only [List.mem_cons, List.not_mem_nil, or_false] at hv
  rcases hv with rfl | rfl <;> rfl

set_option maxHeartbeats 4000000 in
set_option maxRecDepth 100000 in
theorem l4Log_any (a1 a2 : Option Addr) (b1 o1 n1 ca b2 o2 n2 cb : Nat) (L1 L2 : List ByteArray) (w : World) (h1 : StrsAt w a1 b1 o1 n1 L1) (h2 : StrsAt w a2 b2 o2 n2 L2) (m1 : n1 ≤ 1048576) (m2 : n2 ≤ 1048576) :
    Calls Tryz.prog 108 #[.agg #[.slice a1 n1 ca, .slice a2 n2 cb]] w fun e w' => ∃ a0_ c0_ a1_ c1_, e = .returned (.agg #[.slice a0_ n1 c0_, .slice a1_ n2 c1_]) ∧ Own w.heap.size w' 1 (.slice a0_ n1 c0_) n1 (L1.map Value.string) ∧ Own w.heap.size w' 1 (.slice a1_ n2 c1_) n2 (L2.map Value.string) ∧ Dj (Value.slice a0_ n1 c0_).ownBlock (Value.slice a1_ n2 c1_).ownBlock ∧ Below w.heap.size w w' := by
  obtain ⟨W, hW⟩ : ∃ W, W = (w.alloc (.cells #[.slice a1 n1 ca, .slice a2 n2 cb] 35)).alloc (.cells #[.slice none 0 0, .slice none 0 0] 35) := ⟨_, rfl⟩
  have J0 : LJ w a1 n1 ca a2 n2 cb W.drew := by
    rw [hW]
    refine ⟨(CF.made w #[.slice a1 n1 ca, .slice a2 n2 cb] 35).block (Below.heap_alloc _ _ _ (by simp)), ?_, (((Below.refl _ _).alloc (Nat.le_refl _) _).alloc (by simp) _).drew, ?_⟩
    · have := CF.made (w.alloc (.cells #[.slice a1 n1 ca, .slice a2 n2 cb] 35)) #[.slice none 0 0, .slice none 0 0] 35
      rw [World.size_alloc] at this
      exact this
    · show _ ≤ (World.alloc _ _).heap.size; simp
  have HW := hid hW
  clear hW
  go_enter Tryz.func108, Tryz.ntmps108
  go_upto_region 1 with fail
  rw [← HW.out]
  clear HW
  refine wp_region_held (S := fun w' => CF w' w.heap.size [.slice a1 n1 ca, .slice a2 n2 cb]) (by kernel_rfl) ?_
  change wpAnyH _ _ _ _ _ _ _ _ (World.drew _)
  obtain ⟨U, hU⟩ : ∃ U, U = W.drew := ⟨_, rfl⟩
  rw [← hU] at J0
  rw [← hU]
  clear hU
  refine hTake (i := 1) (d := some 4) (v := .pointer (some ⟨w.heap.size, 0, none⟩)) (l' := #[false, true, false, false, false, false, false, false, false, false]) rfl (by kernel_rfl) (by kernel_rfl) (by kernel_rfl) (by kernel_rfl) (fun _ _ _ h => h) (by kernel_rfl) (fun _ hc => by kernel_rfl) J0.p (by kernel_rfl) ?_
  refine hTake (i := 2) (d := some 5) (v := .slice a1 n1 ca) (l' := #[false, true, true, false, false, false, false, false, false, false]) rfl (by kernel_rfl) (by kernel_rfl) (by kernel_rfl) (by kernel_rfl) (fun _ _ _ h => h) (by kernel_rfl) (fun _ hc => run_ldss (.tmp 4) (by kernel_rfl) (by kernel_rfl) (hc 0 (by simp)).1) J0.p (by kernel_rfl) ?_
  refine hTake (i := 5) (d := some 8) (v := .pointer (some ⟨w.heap.size, 1, none⟩)) (l' := #[false, true, true, false, false, true, false, false, false, false]) rfl (by kernel_rfl) (by kernel_rfl) (by kernel_rfl) (by kernel_rfl) (fun _ _ _ h => h) (by kernel_rfl) (fun _ hc => by kernel_rfl) J0.p (by kernel_rfl) ?_
  refine hTake (i := 6) (d := some 9) (v := .slice a2 n2 cb) (l' := #[false, true, true, false, false, true, true, false, false, false]) rfl (by kernel_rfl) (by kernel_rfl) (by kernel_rfl) (by kernel_rfl) (fun _ _ _ h => h) (by kernel_rfl) (fun _ hc => run_ldss (.tmp 8) (by kernel_rfl) (by kernel_rfl) (hc 1 (by simp)).1) J0.p (by kernel_rfl) ?_
  refine hTwo (i := 0) (j := 4) (by kernel_rfl) (hVal (i := 0) (d := some 3) (v := .slice (some ⟨U.heap.size, 0, none⟩) 0 0) (w' := U.alloc (.cells #[] 9)) (l' := #[true, true, true, false, false, true, true, false, false, false]) rfl (by kernel_rfl) (by kernel_rfl) (by kernel_rfl) (run_bs0 (by kernel_rfl)) (J0.alloc (.cells #[] 9)).p ?_) (hVal (i := 4) (d := some 7) (v := .slice (some ⟨U.heap.size, 0, none⟩) 0 0) (w' := U.alloc (.cells #[] 9)) (l' := #[false, true, true, false, true, true, true, false, false, false]) rfl (by kernel_rfl) (by kernel_rfl) (by kernel_rfl) (run_bs0 (by kernel_rfl)) (J0.alloc (.cells #[] 9)).p ?_)
  · have J1 := J0.alloc (.cells #[] 9)
    have own1 := bsOwn U (w.heap.size + 2) J0.z
    have zz1 : (U.alloc (.cells #[] 9)).heap.size = U.heap.size + 1 := by simp
    obtain ⟨A1, hA1⟩ : ∃ V, V = U.alloc (.cells #[] 9) := ⟨_, rfl⟩
    rw [← hA1] at J1 own1 zz1
    rw [← hA1]
    clear hA1
    obtain ⟨p2_, t2_, w2, hr2, ho2, hg2, hk2⟩ := app0 w A1 (w.heap.size + 2) J1.b J1.z ca h1 m1 own1
    have J2 := J1.grown hg2 (fun q hq => own1.row_lo q hq)
    refine hTwo (i := 3) (j := 4) (by kernel_rfl) (hVal (i := 3) (d := some 6) (v := .slice p2_ n1 t2_) (w' := w2) (l' := #[true, true, true, true, false, true, true, false, false, false]) rfl (by kernel_rfl) (by kernel_rfl) (by kernel_rfl) (run_app (.tmp 3) (.tmp 5) 22 22 (by kernel_rfl) (by kernel_rfl) (by kernel_rfl) (by kernel_rfl) hr2) J2.p ?_) (hVal (i := 4) (d := some 7) (v := .slice (some ⟨A1.heap.size, 0, none⟩) 0 0) (w' := A1.alloc (.cells #[] 9)) (l' := #[true, true, true, false, true, true, true, false, false, false]) rfl (by kernel_rfl) (by kernel_rfl) (by kernel_rfl) (run_bs0 (by kernel_rfl)) (J1.alloc (.cells #[] 9)).p ?_)
    · refine hOne (i := 4) (by kernel_rfl) (hVal (i := 4) (d := some 7) (v := .slice (some ⟨w2.heap.size, 0, none⟩) 0 0) (w' := w2.alloc (.cells #[] 9)) (l' := #[true, true, true, true, true, true, true, false, false, false]) rfl (by kernel_rfl) (by kernel_rfl) (by kernel_rfl) (run_bs0 (by kernel_rfl)) (J2.alloc (.cells #[] 9)).p ?_)
      have J3 := J2.alloc (.cells #[] 9)
      have own3 := bsOwn w2 (w.heap.size + 2) J2.z
      have zz3 : (w2.alloc (.cells #[] 9)).heap.size = w2.heap.size + 1 := by simp
      have v03 := ho2.alloc (.cells #[] 9)
      obtain ⟨A3, hA3⟩ : ∃ V, V = w2.alloc (.cells #[] 9) := ⟨_, rfl⟩
      rw [← hA3] at J3 own3 zz3 v03
      rw [← hA3]
      clear hA3
      have hh7 := v03.row_hi
      have DD : Dj (Value.slice p2_ n1 t2_).ownBlock (Value.slice (some ⟨w2.heap.size, 0, none⟩) 0 0).ownBlock := by
        cases hq : (Value.slice p2_ n1 t2_).ownBlock with
        | none => exact .inl rfl
        | some q => exact .inr (by have h5 := ho2.row_hi q hq; simp [Value.ownBlock]; omega)
      obtain ⟨p4_, t4_, w4, hr4, ho4, hg4, hk4⟩ := app0 w A3 (w.heap.size + 2) J3.b J3.z cb h2 m2 own3
      have J4 := J3.grown hg4 (fun q hq => own3.row_lo q hq)
      refine hOne (i := 7) (by kernel_rfl) (hVal (i := 7) (d := some 10) (v := .slice p4_ n2 t4_) (w' := w4) (l' := #[true, true, true, true, true, true, true, true, false, false]) rfl (by kernel_rfl) (by kernel_rfl) (by kernel_rfl) (run_app (.tmp 7) (.tmp 9) 22 22 (by kernel_rfl) (by kernel_rfl) (by kernel_rfl) (by kernel_rfl) hr4) J4.p ?_)
      have v04 := v03.grown hg4 DD
      have DF : Dj (Value.slice p2_ n1 t2_).ownBlock (Value.slice p4_ n2 t4_).ownBlock := by
        rcases hk4 with e | e
        · rw [e]; exact DD
        · exact Dj.new hh7 (.inr e)
      refine hTake (i := 8) (d := some 11) (v := .agg #[.slice p2_ n1 t2_, .slice p4_ n2 t4_]) (l' := #[true, true, true, true, true, true, true, true, true, false]) rfl (by kernel_rfl) (by kernel_rfl) (by kernel_rfl) (by kernel_rfl) (fun _ _ _ h => h) (by kernel_rfl) (fun _ hc => run_b42b (.tmp 6) (.tmp 10) (by kernel_rfl) (by kernel_rfl) (by kernel_rfl)) J4.p (by kernel_rfl) ?_
      obtain ⟨wf, hwf⟩ : ∃ wf, wf = w4.setCells (w.heap.size + 1) 0 [.slice p2_ n1 t2_, .slice p4_ n2 t4_] := ⟨_, rfl⟩
      have gf : w4.grownBy wf (some (w.heap.size + 1)) := by rw [hwf]; exact grown_setCells _ _ _ _ _ (World.grownBy.refl _ _)
      have cf : CF wf (w.heap.size + 1) [.slice p2_ n1 t2_, .slice p4_ n2 t4_] := by rw [hwf]; exact J4.r.stored rfl
      have zf := J4.z
      have pf := J4.p.block (gf.block w.heap.size (by omega) (by intro hh; injection hh with hh; omega))
      refine hOne (i := 9) (by kernel_rfl) (hSkip (i := 9) (w' := wf) (l' := #[true, true, true, true, true, true, true, true, true, true]) rfl (by kernel_rfl) (by kernel_rfl) (by kernel_rfl) (by rw [hwf]; exact run_stT 35 [.slice none 0 0, .slice none 0 0] [.slice p2_ n1 t2_, .slice p4_ n2 t4_] (.tmp 2) (.tmp 11) (by kernel_rfl) (by kernel_rfl) (by kernel_rfl) J4.r rfl Tryz.sizeLo (one2 _ _ _ _ _ _)) pf ?_)
      have k0 : wf.cell? ⟨w.heap.size + 1, 0, none⟩ = some (.slice p2_ n1 t2_) := (cf 0 (by simp)).1
      have k1 : wf.cell? ⟨w.heap.size + 1, 1, none⟩ = some (.slice p4_ n2 t4_) := (cf 1 (by simp)).1
      refine wpAnyH_done (by kernel_rfl) ?_ _
      go_wp2
      exact bodyPost_ret (v := .agg #[.slice p2_ n1 t2_, .slice p4_ n2 t4_]) (by simp [results, Tryz.results108, go_sem, k0, k1]) rfl ⟨_, _, _, _, rfl, (v04.grown gf (.inr (by intro hh; have := v04.row_lo _ hh; omega))).mono' (by omega), (ho4.grown gf (.inr (by intro hh; have := ho4.row_lo _ hh; omega))).mono' (by omega), DF, below_grown J4.b gf (by omega) (fun q hq => by simp at hq; omega)⟩
    · have J5 := J1.alloc (.cells #[] 9)
      have own5 := bsOwn A1 (w.heap.size + 2) J1.z
      have zz5 : (A1.alloc (.cells #[] 9)).heap.size = A1.heap.size + 1 := by simp
      have v05 := own1.alloc (.cells #[] 9)
      obtain ⟨A5, hA5⟩ : ∃ V, V = A1.alloc (.cells #[] 9) := ⟨_, rfl⟩
      rw [← hA5] at J5 own5 zz5 v05
      rw [← hA5]
      clear hA5
      obtain ⟨p6_, t6_, w6, hr6, ho6, hg6, hk6⟩ := app0 w A5 (w.heap.size + 2) J5.b J5.z ca h1 m1 v05
      have J6 := J5.grown hg6 (fun q hq => v05.row_lo q hq)
      refine hOne (i := 3) (by kernel_rfl) (hVal (i := 3) (d := some 6) (v := .slice p6_ n1 t6_) (w' := w6) (l' := #[true, true, true, true, true, true, true, false, false, false]) rfl (by kernel_rfl) (by kernel_rfl) (by kernel_rfl) (run_app (.tmp 3) (.tmp 5) 22 22 (by kernel_rfl) (by kernel_rfl) (by kernel_rfl) (by kernel_rfl) hr6) J6.p ?_)
      have v16 := own5.grown hg6 (.inr (by simp [Value.ownBlock]; omega))
      have hh7 := ho6.row_hi
      have DD : Dj (Value.slice p6_ n1 t6_).ownBlock (Value.slice (some ⟨A1.heap.size, 0, none⟩) 0 0).ownBlock := by
        rcases hk6 with e | e
        · rw [e]; exact .inr (by simp [Value.ownBlock]; omega)
        · rw [e]; exact .inr (by simp [Value.ownBlock]; omega)
      obtain ⟨p7_, t7_, w7, hr7, ho7, hg7, hk7⟩ := app0 w w6 (w.heap.size + 2) J6.b J6.z cb h2 m2 v16
      have J7 := J6.grown hg7 (fun q hq => v16.row_lo q hq)
      refine hOne (i := 7) (by kernel_rfl) (hVal (i := 7) (d := some 10) (v := .slice p7_ n2 t7_) (w' := w7) (l' := #[true, true, true, true, true, true, true, true, false, false]) rfl (by kernel_rfl) (by kernel_rfl) (by kernel_rfl) (run_app (.tmp 7) (.tmp 9) 22 22 (by kernel_rfl) (by kernel_rfl) (by kernel_rfl) (by kernel_rfl) hr7) J7.p ?_)
      have v07 := ho6.grown hg7 DD
      have DF : Dj (Value.slice p6_ n1 t6_).ownBlock (Value.slice p7_ n2 t7_).ownBlock := by
        rcases hk7 with e | e
        · rw [e]; exact DD
        · exact Dj.new hh7 (.inr e)
      refine hTake (i := 8) (d := some 11) (v := .agg #[.slice p6_ n1 t6_, .slice p7_ n2 t7_]) (l' := #[true, true, true, true, true, true, true, true, true, false]) rfl (by kernel_rfl) (by kernel_rfl) (by kernel_rfl) (by kernel_rfl) (fun _ _ _ h => h) (by kernel_rfl) (fun _ hc => run_b42b (.tmp 6) (.tmp 10) (by kernel_rfl) (by kernel_rfl) (by kernel_rfl)) J7.p (by kernel_rfl) ?_
      obtain ⟨wf, hwf⟩ : ∃ wf, wf = w7.setCells (w.heap.size + 1) 0 [.slice p6_ n1 t6_, .slice p7_ n2 t7_] := ⟨_, rfl⟩
      have gf : w7.grownBy wf (some (w.heap.size + 1)) := by rw [hwf]; exact grown_setCells _ _ _ _ _ (World.grownBy.refl _ _)
      have cf : CF wf (w.heap.size + 1) [.slice p6_ n1 t6_, .slice p7_ n2 t7_] := by rw [hwf]; exact J7.r.stored rfl
      have zf := J7.z
      have pf := J7.p.block (gf.block w.heap.size (by omega) (by intro hh; injection hh with hh; omega))
      refine hOne (i := 9) (by kernel_rfl) (hSkip (i := 9) (w' := wf) (l' := #[true, true, true, true, true, true, true, true, true, true]) rfl (by kernel_rfl) (by kernel_rfl) (by kernel_rfl) (by rw [hwf]; exact run_stT 35 [.slice none 0 0, .slice none 0 0] [.slice p6_ n1 t6_, .slice p7_ n2 t7_] (.tmp 2) (.tmp 11) (by kernel_rfl) (by kernel_rfl) (by kernel_rfl) J7.r rfl Tryz.sizeLo (one2 _ _ _ _ _ _)) pf ?_)
      have k0 : wf.cell? ⟨w.heap.size + 1, 0, none⟩ = some (.slice p6_ n1 t6_) := (cf 0 (by simp)).1
      have k1 : wf.cell? ⟨w.heap.size + 1, 1, none⟩ = some (.slice p7_ n2 t7_) := (cf 1 (by simp)).1
      refine wpAnyH_done (by kernel_rfl) ?_ _
      go_wp2
      exact bodyPost_ret (v := .agg #[.slice p6_ n1 t6_, .slice p7_ n2 t7_]) (by simp [results, Tryz.results108, go_sem, k0, k1]) rfl ⟨_, _, _, _, rfl, (v07.grown gf (.inr (by intro hh; have := v07.row_lo _ hh; omega))).mono' (by omega), (ho7.grown gf (.inr (by intro hh; have := ho7.row_lo _ hh; omega))).mono' (by omega), DF, below_grown J7.b gf (by omega) (fun q hq => by simp at hq; omega)⟩
  · have J8 := J0.alloc (.cells #[] 9)
    have own8 := bsOwn U (w.heap.size + 2) J0.z
    have zz8 : (U.alloc (.cells #[] 9)).heap.size = U.heap.size + 1 := by simp
    obtain ⟨A8, hA8⟩ : ∃ V, V = U.alloc (.cells #[] 9) := ⟨_, rfl⟩
    rw [← hA8] at J8 own8 zz8
    rw [← hA8]
    clear hA8
    refine hOne (i := 0) (by kernel_rfl) (hVal (i := 0) (d := some 3) (v := .slice (some ⟨A8.heap.size, 0, none⟩) 0 0) (w' := A8.alloc (.cells #[] 9)) (l' := #[true, true, true, false, true, true, true, false, false, false]) rfl (by kernel_rfl) (by kernel_rfl) (by kernel_rfl) (run_bs0 (by kernel_rfl)) (J8.alloc (.cells #[] 9)).p ?_)
    have J9 := J8.alloc (.cells #[] 9)
    have own9 := bsOwn A8 (w.heap.size + 2) J8.z
    have zz9 : (A8.alloc (.cells #[] 9)).heap.size = A8.heap.size + 1 := by simp
    have v19 := own8.alloc (.cells #[] 9)
    obtain ⟨A9, hA9⟩ : ∃ V, V = A8.alloc (.cells #[] 9) := ⟨_, rfl⟩
    rw [← hA9] at J9 own9 zz9 v19
    rw [← hA9]
    clear hA9
    obtain ⟨p10_, t10_, w10, hr10, ho10, hg10, hk10⟩ := app0 w A9 (w.heap.size + 2) J9.b J9.z ca h1 m1 own9
    have J10 := J9.grown hg10 (fun q hq => own9.row_lo q hq)
    refine hOne (i := 3) (by kernel_rfl) (hVal (i := 3) (d := some 6) (v := .slice p10_ n1 t10_) (w' := w10) (l' := #[true, true, true, true, true, true, true, false, false, false]) rfl (by kernel_rfl) (by kernel_rfl) (by kernel_rfl) (run_app (.tmp 3) (.tmp 5) 22 22 (by kernel_rfl) (by kernel_rfl) (by kernel_rfl) (by kernel_rfl) hr10) J10.p ?_)
    have v110 := v19.grown hg10 (.inr (by simp [Value.ownBlock]; omega))
    have hh7 := ho10.row_hi
    have DD : Dj (Value.slice p10_ n1 t10_).ownBlock (Value.slice (some ⟨U.heap.size, 0, none⟩) 0 0).ownBlock := by
      rcases hk10 with e | e
      · rw [e]; exact .inr (by simp [Value.ownBlock]; omega)
      · rw [e]; exact .inr (by simp [Value.ownBlock]; omega)
    obtain ⟨p11_, t11_, w11, hr11, ho11, hg11, hk11⟩ := app0 w w10 (w.heap.size + 2) J10.b J10.z cb h2 m2 v110
    have J11 := J10.grown hg11 (fun q hq => v110.row_lo q hq)
    refine hOne (i := 7) (by kernel_rfl) (hVal (i := 7) (d := some 10) (v := .slice p11_ n2 t11_) (w' := w11) (l' := #[true, true, true, true, true, true, true, true, false, false]) rfl (by kernel_rfl) (by kernel_rfl) (by kernel_rfl) (run_app (.tmp 7) (.tmp 9) 22 22 (by kernel_rfl) (by kernel_rfl) (by kernel_rfl) (by kernel_rfl) hr11) J11.p ?_)
    have v011 := ho10.grown hg11 DD
    have DF : Dj (Value.slice p10_ n1 t10_).ownBlock (Value.slice p11_ n2 t11_).ownBlock := by
      rcases hk11 with e | e
      · rw [e]; exact DD
      · exact Dj.new hh7 (.inr e)
    refine hTake (i := 8) (d := some 11) (v := .agg #[.slice p10_ n1 t10_, .slice p11_ n2 t11_]) (l' := #[true, true, true, true, true, true, true, true, true, false]) rfl (by kernel_rfl) (by kernel_rfl) (by kernel_rfl) (by kernel_rfl) (fun _ _ _ h => h) (by kernel_rfl) (fun _ hc => run_b42b (.tmp 6) (.tmp 10) (by kernel_rfl) (by kernel_rfl) (by kernel_rfl)) J11.p (by kernel_rfl) ?_
    obtain ⟨wf, hwf⟩ : ∃ wf, wf = w11.setCells (w.heap.size + 1) 0 [.slice p10_ n1 t10_, .slice p11_ n2 t11_] := ⟨_, rfl⟩
    have gf : w11.grownBy wf (some (w.heap.size + 1)) := by rw [hwf]; exact grown_setCells _ _ _ _ _ (World.grownBy.refl _ _)
    have cf : CF wf (w.heap.size + 1) [.slice p10_ n1 t10_, .slice p11_ n2 t11_] := by rw [hwf]; exact J11.r.stored rfl
    have zf := J11.z
    have pf := J11.p.block (gf.block w.heap.size (by omega) (by intro hh; injection hh with hh; omega))
    refine hOne (i := 9) (by kernel_rfl) (hSkip (i := 9) (w' := wf) (l' := #[true, true, true, true, true, true, true, true, true, true]) rfl (by kernel_rfl) (by kernel_rfl) (by kernel_rfl) (by rw [hwf]; exact run_stT 35 [.slice none 0 0, .slice none 0 0] [.slice p10_ n1 t10_, .slice p11_ n2 t11_] (.tmp 2) (.tmp 11) (by kernel_rfl) (by kernel_rfl) (by kernel_rfl) J11.r rfl Tryz.sizeLo (one2 _ _ _ _ _ _)) pf ?_)
    have k0 : wf.cell? ⟨w.heap.size + 1, 0, none⟩ = some (.slice p10_ n1 t10_) := (cf 0 (by simp)).1
    have k1 : wf.cell? ⟨w.heap.size + 1, 1, none⟩ = some (.slice p11_ n2 t11_) := (cf 1 (by simp)).1
    refine wpAnyH_done (by kernel_rfl) ?_ _
    go_wp2
    exact bodyPost_ret (v := .agg #[.slice p10_ n1 t10_, .slice p11_ n2 t11_]) (by simp [results, Tryz.results108, go_sem, k0, k1]) rfl ⟨_, _, _, _, rfl, (v011.grown gf (.inr (by intro hh; have := v011.row_lo _ hh; omega))).mono' (by omega), (ho11.grown gf (.inr (by intro hh; have := ho11.row_lo _ hh; omega))).mono' (by omega), DF, below_grown J11.b gf (by omega) (fun q hq => by simp at hq; omega)⟩

end Go.Proofs.YtbfamabkbkpmpaaGreat
