import Derived.Test.YthopfmhagddhgaaGreatQBsj
import Derived.Test.YthopfmhagddhgaaGreatQRSp
import Derived.Deep.DeepCutAuto
namespace Go.Proofs.YthopfmhagddhgaaGreat
open Go.RowKit

theorem run_ldlg {ρ : Operand → Value} {o : Oper} {w : World} {b k : Nat} {u v : Value} (x : Operand) (h : o.op = .load 42 x) (hx : ρ x = .pointer (some ⟨b, k, none⟩)) (hu : w.cell? ⟨b, k, none⟩ = some u) (hv : w.cell? ⟨b, k + 1, none⟩ = some v) : (execOp ρ o).run Tryz.prog w = .ok (.value (.agg #[u, v])) w := by
  unfold execOp
  rw [h]
  simp [go_sem, hx, hu, hv]
theorem run_alS {ρ : Operand → Value} {o : Oper} {w : World} (h : o.op = .alloc 85) : (execOp ρ o).run Tryz.prog w = .ok (.value (.pointer (some ⟨w.heap.size, 0, none⟩))) (w.alloc (.cells #[.int .i64 0, .int .i64 0, .slice none 0 0] 85)) := by
  unfold execOp
  rw [h]
  simp [go_sem]
theorem enter_all (v1 : Value) (w : World) : Sem.run Tryz.prog (callFunc 43 #[v1]) w = .ok (.enter 43 #[v1]) w := by kernel_rfl
theorem enter_rep (v1 v2 : Value) (w : World) : Sem.run Tryz.prog (callFunc 42 #[v1, v2]) w = .ok (.enter 42 #[v1, v2]) w := by kernel_rfl

set_option maxHeartbeats 8000000 in
set_option maxRecDepth 100000 in
theorem sValB_any (wk : Int) (up : Bool) (now sn ep gv : Int) (a1 a2 ar aj az ao : Option Addr) (n1 c1 n2 c2 nr cr nj cj ns cs no co : Nat) (bl1 ol1 bl2 ol2 br or' bj oj bs os' bo oo : Nat) (L1 L2 R : List ByteArray) (J : List Tr) (S : List (Bool × Int)) (O : List Tr) (pa : Option Addr) (pb po pn pc : Nat) (ts : List TaskD) (w : World) (h1 : StrsAt w a1 bl1 ol1 n1 L1) (h2 : StrsAt w a2 bl2 ol2 n2 L2) (hR : StrsAt w ar br or' nr R) (hJ : T3At w aj bj oj nj J) (hS : T2At w az bs os' ns S) (hO : T3At w ao bo oo no O) (hT : TasksAt w pa pb po pn ts) (hm1 : n1 ≤ 1048576) (hm2 : n2 ≤ 1048576) (hm12 : n1 + n2 ≤ 1048576) (hmr : nr ≤ 1048576) (hmj : nj ≤ 1048576) (hms : ns ≤ 1048576) (hmo : no ≤ 1048576) :
    Calls Tryz.prog 32 #[.agg #[.int .i64 wk, .bool up, .int .i64 now, .int .i64 sn, .int .i64 ep, .int .i64 gv, .slice a1 n1 c1, .slice a2 n2 c2, .slice ar nr cr, .slice aj nj cj, .slice az ns cs, .slice ao no co], .agg #[.slice pa pn pc]] w fun e w' => RetB e (vB ts wk up now sn ep gv L1 L2 R J S O) ∧ Below w.heap.size w w' := by
  obtain ⟨W, hW⟩ : ∃ W, W = (w.alloc (.cells #[.int .i64 wk, .bool up, .int .i64 now, .int .i64 sn, .int .i64 ep, .int .i64 gv, .slice a1 n1 c1, .slice a2 n2 c2, .slice ar nr cr, .slice aj nj cj, .slice az ns cs, .slice ao no co] 47)).alloc (.cells #[.slice pa pn pc] 41) := ⟨_, rfl⟩
  have hbW : Below w.heap.size w W := by rw [hW]; exact ((Below.refl _ _).alloc (Nat.le_refl _) _).alloc (by simp) _
  have hsW : W.heap.size = w.heap.size + 2 := by rw [hW]; simp
  have hq : MC W w.heap.size [.int .i64 wk, .bool up, .int .i64 now, .int .i64 sn, .int .i64 ep, .int .i64 gv, .slice a1 n1 c1, .slice a2 n2 c2, .slice ar nr cr, .slice aj nj cj, .slice az ns cs, .slice ao no co] ∧ MC W (w.heap.size + 1) [.slice pa pn pc] := by
    have x1 := MC.made w #[.int .i64 wk, .bool up, .int .i64 now, .int .i64 sn, .int .i64 ep, .int .i64 gv, .slice a1 n1 c1, .slice a2 n2 c2, .slice ar nr cr, .slice aj nj cj, .slice az ns cs, .slice ao no co] 47
    have x3 := MC.made (w.alloc (.cells #[.int .i64 wk, .bool up, .int .i64 now, .int .i64 sn, .int .i64 ep, .int .i64 gv, .slice a1 n1 c1, .slice a2 n2 c2, .slice ar nr cr, .slice aj nj cj, .slice az ns cs, .slice ao no co] 47)) #[.slice pa pn pc] 41
    rw [World.size_alloc] at x3
    rw [hW]; exact ⟨x1.block (Below.heap_alloc _ _ _ (by simp)), x3⟩
  have hLz : ∀ s ∈ L1 ++ L2, s.size ≤ maxLen := fun s hs => by
    rcases List.mem_append.1 hs with h | h
    · exact h1.sz s h
    · exact h2.sz s h
  have HN1 := hid h1.len
  have HN2 := hid h2.len
  have HNR := hid hR.len
  have HNJ := hid hJ.len
  have HNS := hid hS.len
  have HNO := hid hO.len
  have HNT := hid hT.len
  have hmax := hT.max
  unfold maxLen at hmax
  have zp : W.cell? ⟨w.heap.size + 1, 0, none⟩ = some (.slice pa pn pc) := hq.2 0 (by simp)
  go_enter Tryz.func32, Tryz.ntmps32
  go_upto_region 1 with fail
  rw [← hW]
  clear hW
  go_wp2_with fail
  refine (specCheckPlan_any pa pb po pn pc ts _ (hT.below' hbW)).mono ?_
  rintro e w1 ⟨⟨cc0, rfl, hcode⟩, hb1⟩
  have hB1 := hbW.trans (hb1.mono (by omega))
  have hmB := MC.below hq.1 hb1 (by omega)
  have hmP := MC.below hq.2 hb1 (by omega)
  have hz1 : w.heap.size + 2 ≤ w1.heap.size := by have := hb1.size; omega
  clear zp hq
  have b0 : w1.cell? ⟨w.heap.size, 0, none⟩ = some (.int .i64 wk) := hmB 0 (by simp)
  have b2 : w1.cell? ⟨w.heap.size, 2, none⟩ = some (.int .i64 now) := hmB 2 (by simp)
  have b6 : w1.cell? ⟨w.heap.size, 6, none⟩ = some (.slice a1 n1 c1) := hmB 6 (by simp)
  have b7 : w1.cell? ⟨w.heap.size, 7, none⟩ = some (.slice a2 n2 c2) := hmB 7 (by simp)
  by_cases hcc : cc0 = 0
  · subst hcc
    have HCODE := hid hcode
    clear hcode
    cases hwk : inB wk 1 8 with
    | false =>
      have HN := hid (show ¬ (vB ts wk up now sn ep gv L1 L2 R J S O) from fun hh => inB_f hwk hh.2.1)
      go_wp2_with (go_at_call 30; refine (l2In_any _ _ _ _).mono ?_; rintro e w9 ⟨rfl, h9⟩; rw [h9]; clear h9)
      go_ret
      exact ⟨RetB.f HN.out, hB1⟩
    | true =>
      have HWK := hid (inB_t hwk)
      cases hnw : inB now 0 1000000 with
      | false =>
        have HN := hid (show ¬ (vB ts wk up now sn ep gv L1 L2 R J S O) from fun hh => inB_f hnw hh.2.2.1)
        go_wp2_with (go_at_call 30; refine (l2In_any _ _ _ _).mono ?_; rintro e w9 ⟨rfl, h9⟩; rw [h9]; clear h9)
        go_ret
        exact ⟨RetB.f HN.out, hB1⟩
      | true =>
        have HNW := hid (inB_t hnw)
        by_cases h310 : 310 < n1 + n2
        · have HN := hid (show ¬ (vB ts wk up now sn ep gv L1 L2 R J S O) from fun hh => by have := hh.1.2; rw [List.length_append, HN1.out, HN2.out] at this; omega)
          have h310' : (310 : Int) < (n1 : Int) + (n2 : Int) := by omega
          go_wp2_with (go_at_call 30; refine (l2In_any _ _ _ _).mono ?_; rintro e w9 ⟨rfl, h9⟩; rw [h9]; clear h9)
          go_ret
          exact ⟨RetB.f HN.out, hB1⟩
        · have h310' : ¬ ((310 : Int) < (n1 : Int) + (n2 : Int)) := by omega
          go_upto_region 3 with (go_at_call 30; refine (l2In_any _ _ _ _).mono ?_; rintro e w9 ⟨rfl, h9⟩; rw [h9]; clear h9)
          clear b0 b2 b6 b7
          go_cut [5] (fun sv wx => ∃ (p : Nat) (cc E : Int) (Q : List ByteArray) (av : Option Addr) (cv : Nat), sv = .pointer (some ⟨p, 0, none⟩) ∧ MC wx p [.int .i64 cc, .int .i64 E, .slice av Q.length cv] ∧ p < wx.heap.size ∧ StoryIs ts (L1 ++ L2) cc E Q ∧ Own w.heap.size wx 1 (.slice av Q.length cv) Q.length (Q.map Value.string) ∧ MC wx w.heap.size [.int .i64 wk, .bool up, .int .i64 now, .int .i64 sn, .int .i64 ep, .int .i64 gv, .slice a1 n1 c1, .slice a2 n2 c2, .slice ar nr cr, .slice aj nj cj, .slice az ns cs, .slice ao no co] ∧ MC wx (w.heap.size + 1) [.slice pa pn pc] ∧ Below w.heap.size w wx ∧ w.heap.size + 2 ≤ wx.heap.size)
          case first =>
            refine wp_region_held (S := fun w' => MC w' w.heap.size [.int .i64 wk, .bool up, .int .i64 now, .int .i64 sn, .int .i64 ep, .int .i64 gv, .slice a1 n1 c1, .slice a2 n2 c2, .slice ar nr cr, .slice aj nj cj, .slice az ns cs, .slice ao no co] ∧ MC w' (w.heap.size + 1) [.slice pa pn pc]) (by kernel_rfl) ?_
            change wpAnyH _ _ _ _ _ _ _ _ (World.drew _)
            obtain ⟨u0, hu0⟩ : ∃ u0, u0 = w1.drew := ⟨_, rfl⟩
            have hmu0 : MC u0 w.heap.size [.int .i64 wk, .bool up, .int .i64 now, .int .i64 sn, .int .i64 ep, .int .i64 gv, .slice a1 n1 c1, .slice a2 n2 c2, .slice ar nr cr, .slice aj nj cj, .slice az ns cs, .slice ao no co] := by rw [hu0]; exact hmB.block rfl
            have hpu0 : MC u0 (w.heap.size + 1) [.slice pa pn pc] := by rw [hu0]; exact hmP.block rfl
            have hBu0 : Below w.heap.size w u0 := by rw [hu0]; exact hB1.drew
            have hzu0 : w.heap.size + 2 ≤ u0.heap.size := by rw [hu0]; exact hz1
            rw [← hu0]
            clear hu0
            refine hTake (i := 0) (d := some 38) (v := .agg #[.slice pa pn pc]) (l' := #[true, false, false, false, false, false, false]) rfl (by kernel_rfl) (by kernel_rfl) (by kernel_rfl) (by kernel_rfl) (fun _ _ _ h => h) (by kernel_rfl) (fun _ hc => run_ldpl (.tmp 3) (by kernel_rfl) (by kernel_rfl) (hc.2 0 (by simp))) ⟨hmu0, hpu0⟩ (by kernel_rfl) ?_
            refine hTake (i := 1) (d := some 39) (v := .pointer (some ⟨w.heap.size, 6, none⟩)) (l' := #[true, true, false, false, false, false, false]) rfl (by kernel_rfl) (by kernel_rfl) (by kernel_rfl) (by kernel_rfl) (fun _ _ _ h => h) (by kernel_rfl) (fun _ hc => by kernel_rfl) ⟨hmu0, hpu0⟩ (by kernel_rfl) ?_
            refine hTake (i := 2) (d := some 40) (v := .agg #[.slice a1 n1 c1, .slice a2 n2 c2]) (l' := #[true, true, true, false, false, false, false]) rfl (by kernel_rfl) (by kernel_rfl) (by kernel_rfl) (by kernel_rfl) (fun _ _ _ h => h) (by kernel_rfl) (fun _ hc => run_ldlg (.tmp 39) (by kernel_rfl) (by kernel_rfl) (hc.1 6 (by simp)) (hc.1 7 (by simp))) ⟨hmu0, hpu0⟩ (by kernel_rfl) ?_
            refine hTwo (i := 3) (j := 5) (by kernel_rfl) (hCall (i := 3) (d := some 41) (f := 43) (args := #[.agg #[.slice a1 n1 c1, .slice a2 n2 c2]]) (l' := #[true, true, true, true, false, false, false]) (R := fun v w' => Own u0.heap.size w' 1 v (n1 + n2) ((L1 ++ L2).map Value.string) ∧ Below u0.heap.size u0 w') rfl (by kernel_rfl) (by kernel_rfl) (by kernel_rfl) (run_cl1 (.tmp 40) #[42] (by kernel_rfl) (by kernel_rfl) (by kernel_rfl) enter_all) ((l4All_any a1 a2 bl1 ol1 n1 c1 bl2 ol2 n2 c2 L1 L2 u0 (h1.below' hBu0) (h2.below' hBu0) hm1 hm2).mono fun _ _ ⟨⟨v, he, ho⟩, hb⟩ => ⟨v, he, ho, hb⟩) ?_) (hVal (i := 5) (d := some 5) (v := .pointer (some ⟨u0.heap.size, 0, none⟩)) (w' := u0.alloc (.cells #[.int .i64 0, .int .i64 0, .slice none 0 0] 85)) (l' := #[true, true, true, false, false, true, false]) rfl (by kernel_rfl) (by kernel_rfl) (by kernel_rfl) (run_alS (by kernel_rfl)) ⟨MC.below hmu0 ((Below.refl _ _).alloc (Nat.le_refl _) _) (by omega), MC.below hpu0 ((Below.refl _ _).alloc (Nat.le_refl _) _) (by omega)⟩ ?_)
            · rintro vx u1 ⟨hoo, hbu1⟩
              have hmu1 := MC.below hmu0 hbu1 (by omega)
              have hpu1 := MC.below hpu0 hbu1 (by omega)
              have hBu1 := hBu0.trans (hbu1.mono hBu0.size)
              have hzu1 : w.heap.size + 2 ≤ u1.heap.size := Nat.le_trans hzu0 hbu1.size
              obtain ⟨ax, cx, rfl⟩ := hoo.slc
              have hou1 := hoo
              refine ⟨⟨hmu1, hpu1⟩, ?_⟩
              obtain ⟨bx, ox, hxu1, _⟩ := hou1.statB hLz
              refine hTwo (i := 4) (j := 5) (by kernel_rfl) (hCall (i := 4) (d := some 42) (f := 42) (args := #[.agg #[.slice pa pn pc], .slice ax (n1 + n2) cx]) (l' := #[true, true, true, true, true, false, false]) (R := fun v w' => RetS (.returned v) u1 w' ts (L1 ++ L2) ∧ Below u1.heap.size u1 w') rfl (by kernel_rfl) (by kernel_rfl) (by kernel_rfl) (run_cl2 (.tmp 38) (.tmp 41) #[41, 25] (by kernel_rfl) (by kernel_rfl) (by kernel_rfl) (by kernel_rfl) enter_rep) ((specReplay_any pa pb po pn pc ts ax bx ox (n1 + n2) cx (L1 ++ L2) u1 (hT.below' hBu1) hxu1 (by omega)).mono fun _ _ ⟨⟨cc, E, Q, v, he, h⟩, hb⟩ => ⟨_, he, ⟨cc, E, Q, v, rfl, h⟩, hb⟩) ?_) (hVal (i := 5) (d := some 5) (v := .pointer (some ⟨u1.heap.size, 0, none⟩)) (w' := u1.alloc (.cells #[.int .i64 0, .int .i64 0, .slice none 0 0] 85)) (l' := #[true, true, true, true, false, true, false]) rfl (by kernel_rfl) (by kernel_rfl) (by kernel_rfl) (run_alS (by kernel_rfl)) ⟨MC.below hmu1 ((Below.refl _ _).alloc (Nat.le_refl _) _) (by omega), MC.below hpu1 ((Below.refl _ _).alloc (Nat.le_refl _) _) (by omega)⟩ ?_)
              · rintro vy u2 ⟨⟨cc, E, Q, v, hvy, hst, hso⟩, hbu2⟩
                simp only [Ending.returned.injEq] at hvy
                subst hvy
                have hmu2 := MC.below hmu1 hbu2 (by omega)
                have hpu2 := MC.below hpu1 hbu2 (by omega)
                have hBu2 := hBu1.trans (hbu2.mono hBu1.size)
                have hzu2 : w.heap.size + 2 ≤ u2.heap.size := Nat.le_trans hzu1 hbu2.size
                obtain ⟨av, cv, rfl⟩ := hso.slc
                have hsu2 := hso.mono' (show w.heap.size ≤ _ by omega)
                refine ⟨⟨hmu2, hpu2⟩, ?_⟩
                refine hOne (i := 5) (by kernel_rfl) (hVal (i := 5) (d := some 5) (v := .pointer (some ⟨u2.heap.size, 0, none⟩)) (w' := u2.alloc (.cells #[.int .i64 0, .int .i64 0, .slice none 0 0] 85)) (l' := #[true, true, true, true, true, true, false]) rfl (by kernel_rfl) (by kernel_rfl) (by kernel_rfl) (run_alS (by kernel_rfl)) ⟨MC.below hmu2 ((Below.refl _ _).alloc (Nat.le_refl _) _) (by omega), MC.below hpu2 ((Below.refl _ _).alloc (Nat.le_refl _) _) (by omega)⟩ ?_)
                obtain ⟨u3, hu3⟩ : ∃ u3, u3 = u2.alloc (.cells #[.int .i64 0, .int .i64 0, .slice none 0 0] 85) := ⟨_, rfl⟩
                have hbu3 : Below u2.heap.size u2 u3 := by rw [hu3]; exact (Below.refl _ _).alloc (Nat.le_refl _) _
                have hAu3 : CF u3 u2.heap.size [.int .i64 0, .int .i64 0, .slice none 0 0] := by rw [hu3]; exact CF.made u2 #[.int .i64 0, .int .i64 0, .slice none 0 0] 85
                have hlu3 : u2.heap.size < u3.heap.size := by rw [hu3]; simp
                rw [← hu3]
                have hmu3 := MC.below hmu2 hbu3 (by omega)
                have hpu3 := MC.below hpu2 hbu3 (by omega)
                have hBu3 := hBu2.trans (hbu3.mono hBu2.size)
                have hzu3 : w.heap.size + 2 ≤ u3.heap.size := Nat.le_trans hzu2 hbu3.size
                have hsu3 := hsu2.below hbu3 (Nat.le_refl _)
                have hlou3 : w.heap.size + 2 ≤ u2.heap.size := hzu2
                have hhiu3 := hsu2.row_hi
                obtain ⟨pA, hpA⟩ : ∃ pA, pA = u2.heap.size := ⟨_, rfl⟩
                rw [← hpA] at hAu3 hlu3 hlou3 hhiu3
                rw [← hpA]
                have hloA := hlou3
                have hfar : ∀ q, (Value.slice av Q.length cv).ownBlock = some q → q ≠ pA := fun q hq => by have := hhiu3 q hq; omega
                clear hpA hu3
                obtain ⟨uz, huz⟩ : ∃ uz, uz = u3.setCells pA 0 [.int .i64 cc, .int .i64 E, .slice av Q.length cv] := ⟨_, rfl⟩
                have hcz : CF uz pA [.int .i64 cc, .int .i64 E, .slice av Q.length cv] := by rw [huz]; exact hAu3.stored rfl
                have hgz : u3.grownBy uz (some pA) := by rw [huz]; exact grown_setCells _ _ _ _ _ (World.grownBy.refl _ _)
                have hmz := hmu3.block (hgz.block w.heap.size (by omega) (by simp; omega))
                have hpz := hpu3.block (hgz.block (w.heap.size + 1) (by omega) (by simp; omega))
                have hBz := hBu3.grown hgz hBu3.size (fun q hq => by simp at hq; omega)
                have hsz := hsu3.grown hgz (.inr (fun hh => hfar _ hh rfl))
                have hzz := hgz.size
                refine hOne (i := 6) (by kernel_rfl) (hSkip (i := 6) (w' := uz) (l' := #[true, true, true, true, true, true, true]) rfl (by kernel_rfl) (by kernel_rfl) (by kernel_rfl) (by rw [huz]; exact run_stT 85 [.int .i64 0, .int .i64 0, .slice none 0 0] [.int .i64 cc, .int .i64 E, .slice av Q.length cv] (.tmp 5) (.tmp 42) (by kernel_rfl) (by kernel_rfl) (by kernel_rfl) hAu3 rfl Tryz.sizeStory (one3 _ _ _ _ _)) ⟨hmz, hpz⟩ ?_)
                refine wpAnyH_done (by kernel_rfl) ?_ _
                have HR := hid (show ∃ (p : Nat) (cc E : Int) (Q : List ByteArray) (av : Option Addr) (cv : Nat), (.pointer (some ⟨pA, 0, none⟩) : Value) = .pointer (some ⟨p, 0, none⟩) ∧ MC uz p [.int .i64 cc, .int .i64 E, .slice av Q.length cv] ∧ p < uz.heap.size ∧ StoryIs ts (L1 ++ L2) cc E Q ∧ Own w.heap.size uz 1 (.slice av Q.length cv) Q.length (Q.map Value.string) ∧ MC uz w.heap.size [.int .i64 wk, .bool up, .int .i64 now, .int .i64 sn, .int .i64 ep, .int .i64 gv, .slice a1 n1 c1, .slice a2 n2 c2, .slice ar nr cr, .slice aj nj cj, .slice az ns cs, .slice ao no co] ∧ MC uz (w.heap.size + 1) [.slice pa pn pc] ∧ Below w.heap.size w uz ∧ w.heap.size + 2 ≤ uz.heap.size from ⟨pA, cc, E, Q, av, cv, rfl, fun j hj => (hcz j hj).1, by omega, hst, hsz, hmz, hpz, hBz, by omega⟩)
                clear hcz hgz hmz hpz hBz hsz huz hAu3 hmu3 hpu3 hBu3 hsu3 hst hfar
                go_wp2_with fail
                go_meet
                case rel => exact HR.out
              · obtain ⟨u4, hu4⟩ : ∃ u4, u4 = u1.alloc (.cells #[.int .i64 0, .int .i64 0, .slice none 0 0] 85) := ⟨_, rfl⟩
                have hbu4 : Below u1.heap.size u1 u4 := by rw [hu4]; exact (Below.refl _ _).alloc (Nat.le_refl _) _
                have hAu4 : CF u4 u1.heap.size [.int .i64 0, .int .i64 0, .slice none 0 0] := by rw [hu4]; exact CF.made u1 #[.int .i64 0, .int .i64 0, .slice none 0 0] 85
                have hlu4 : u1.heap.size < u4.heap.size := by rw [hu4]; simp
                rw [← hu4]
                have hmu4 := MC.below hmu1 hbu4 (by omega)
                have hpu4 := MC.below hpu1 hbu4 (by omega)
                have hBu4 := hBu1.trans (hbu4.mono hBu1.size)
                have hzu4 : w.heap.size + 2 ≤ u4.heap.size := Nat.le_trans hzu1 hbu4.size
                have hou4 := hou1.below hbu4 (Nat.le_refl _)
                have hlou4 : w.heap.size + 2 ≤ u1.heap.size := hzu1
                obtain ⟨pA, hpA⟩ : ∃ pA, pA = u1.heap.size := ⟨_, rfl⟩
                rw [← hpA] at hAu4 hlu4 hlou4
                rw [← hpA]
                have hloA := hlou4
                clear hpA hu4
                obtain ⟨bx, ox, hxu4, _⟩ := hou4.statB hLz
                refine hOne (i := 4) (by kernel_rfl) (hCall (i := 4) (d := some 42) (f := 42) (args := #[.agg #[.slice pa pn pc], .slice ax (n1 + n2) cx]) (l' := #[true, true, true, true, true, true, false]) (R := fun v w' => RetS (.returned v) u4 w' ts (L1 ++ L2) ∧ Below u4.heap.size u4 w') rfl (by kernel_rfl) (by kernel_rfl) (by kernel_rfl) (run_cl2 (.tmp 38) (.tmp 41) #[41, 25] (by kernel_rfl) (by kernel_rfl) (by kernel_rfl) (by kernel_rfl) enter_rep) ((specReplay_any pa pb po pn pc ts ax bx ox (n1 + n2) cx (L1 ++ L2) u4 (hT.below' hBu4) hxu4 (by omega)).mono fun _ _ ⟨⟨cc, E, Q, v, he, h⟩, hb⟩ => ⟨_, he, ⟨cc, E, Q, v, rfl, h⟩, hb⟩) ?_)
                rintro vy u5 ⟨⟨cc, E, Q, v, hvy, hst, hso⟩, hbu5⟩
                simp only [Ending.returned.injEq] at hvy
                subst hvy
                have hmu5 := MC.below hmu4 hbu5 (by omega)
                have hpu5 := MC.below hpu4 hbu5 (by omega)
                have hBu5 := hBu4.trans (hbu5.mono hBu4.size)
                have hzu5 : w.heap.size + 2 ≤ u5.heap.size := Nat.le_trans hzu4 hbu5.size
                have hAu5 := hAu4.block (hbu5.block _ hlu4)
                have hlu5 := Nat.lt_of_lt_of_le hlu4 hbu5.size
                obtain ⟨av, cv, rfl⟩ := hso.slc
                have hsu5 := hso.mono' (show w.heap.size ≤ _ by omega)
                refine ⟨⟨hmu5, hpu5⟩, ?_⟩
                have hfar : ∀ q, (Value.slice av Q.length cv).ownBlock = some q → q ≠ pA := fun q hq => by have := hso.row_lo q hq; omega
                obtain ⟨uz, huz⟩ : ∃ uz, uz = u5.setCells pA 0 [.int .i64 cc, .int .i64 E, .slice av Q.length cv] := ⟨_, rfl⟩
                have hcz : CF uz pA [.int .i64 cc, .int .i64 E, .slice av Q.length cv] := by rw [huz]; exact hAu5.stored rfl
                have hgz : u5.grownBy uz (some pA) := by rw [huz]; exact grown_setCells _ _ _ _ _ (World.grownBy.refl _ _)
                have hmz := hmu5.block (hgz.block w.heap.size (by omega) (by simp; omega))
                have hpz := hpu5.block (hgz.block (w.heap.size + 1) (by omega) (by simp; omega))
                have hBz := hBu5.grown hgz hBu5.size (fun q hq => by simp at hq; omega)
                have hsz := hsu5.grown hgz (.inr (fun hh => hfar _ hh rfl))
                have hzz := hgz.size
                refine hOne (i := 6) (by kernel_rfl) (hSkip (i := 6) (w' := uz) (l' := #[true, true, true, true, true, true, true]) rfl (by kernel_rfl) (by kernel_rfl) (by kernel_rfl) (by rw [huz]; exact run_stT 85 [.int .i64 0, .int .i64 0, .slice none 0 0] [.int .i64 cc, .int .i64 E, .slice av Q.length cv] (.tmp 5) (.tmp 42) (by kernel_rfl) (by kernel_rfl) (by kernel_rfl) hAu5 rfl Tryz.sizeStory (one3 _ _ _ _ _)) ⟨hmz, hpz⟩ ?_)
                refine wpAnyH_done (by kernel_rfl) ?_ _
                have HR := hid (show ∃ (p : Nat) (cc E : Int) (Q : List ByteArray) (av : Option Addr) (cv : Nat), (.pointer (some ⟨pA, 0, none⟩) : Value) = .pointer (some ⟨p, 0, none⟩) ∧ MC uz p [.int .i64 cc, .int .i64 E, .slice av Q.length cv] ∧ p < uz.heap.size ∧ StoryIs ts (L1 ++ L2) cc E Q ∧ Own w.heap.size uz 1 (.slice av Q.length cv) Q.length (Q.map Value.string) ∧ MC uz w.heap.size [.int .i64 wk, .bool up, .int .i64 now, .int .i64 sn, .int .i64 ep, .int .i64 gv, .slice a1 n1 c1, .slice a2 n2 c2, .slice ar nr cr, .slice aj nj cj, .slice az ns cs, .slice ao no co] ∧ MC uz (w.heap.size + 1) [.slice pa pn pc] ∧ Below w.heap.size w uz ∧ w.heap.size + 2 ≤ uz.heap.size from ⟨pA, cc, E, Q, av, cv, rfl, fun j hj => (hcz j hj).1, by omega, hst, hsz, hmz, hpz, hBz, by omega⟩)
                clear hcz hgz hmz hpz hBz hsz huz hAu5 hmu5 hpu5 hBu5 hsu5 hst hfar
                go_wp2_with fail
                go_meet
                case rel => exact HR.out
            · obtain ⟨u6, hu6⟩ : ∃ u6, u6 = u0.alloc (.cells #[.int .i64 0, .int .i64 0, .slice none 0 0] 85) := ⟨_, rfl⟩
              have hbu6 : Below u0.heap.size u0 u6 := by rw [hu6]; exact (Below.refl _ _).alloc (Nat.le_refl _) _
              have hAu6 : CF u6 u0.heap.size [.int .i64 0, .int .i64 0, .slice none 0 0] := by rw [hu6]; exact CF.made u0 #[.int .i64 0, .int .i64 0, .slice none 0 0] 85
              have hlu6 : u0.heap.size < u6.heap.size := by rw [hu6]; simp
              rw [← hu6]
              have hmu6 := MC.below hmu0 hbu6 (by omega)
              have hpu6 := MC.below hpu0 hbu6 (by omega)
              have hBu6 := hBu0.trans (hbu6.mono hBu0.size)
              have hzu6 : w.heap.size + 2 ≤ u6.heap.size := Nat.le_trans hzu0 hbu6.size
              have hlou6 : w.heap.size + 2 ≤ u0.heap.size := hzu0
              obtain ⟨pA, hpA⟩ : ∃ pA, pA = u0.heap.size := ⟨_, rfl⟩
              rw [← hpA] at hAu6 hlu6 hlou6
              rw [← hpA]
              have hloA := hlou6
              clear hpA hu6
              refine hOne (i := 3) (by kernel_rfl) (hCall (i := 3) (d := some 41) (f := 43) (args := #[.agg #[.slice a1 n1 c1, .slice a2 n2 c2]]) (l' := #[true, true, true, true, false, true, false]) (R := fun v w' => Own u6.heap.size w' 1 v (n1 + n2) ((L1 ++ L2).map Value.string) ∧ Below u6.heap.size u6 w') rfl (by kernel_rfl) (by kernel_rfl) (by kernel_rfl) (run_cl1 (.tmp 40) #[42] (by kernel_rfl) (by kernel_rfl) (by kernel_rfl) enter_all) ((l4All_any a1 a2 bl1 ol1 n1 c1 bl2 ol2 n2 c2 L1 L2 u6 (h1.below' hBu6) (h2.below' hBu6) hm1 hm2).mono fun _ _ ⟨⟨v, he, ho⟩, hb⟩ => ⟨v, he, ho, hb⟩) ?_)
              rintro vx u7 ⟨hoo, hbu7⟩
              have hmu7 := MC.below hmu6 hbu7 (by omega)
              have hpu7 := MC.below hpu6 hbu7 (by omega)
              have hBu7 := hBu6.trans (hbu7.mono hBu6.size)
              have hzu7 : w.heap.size + 2 ≤ u7.heap.size := Nat.le_trans hzu6 hbu7.size
              have hAu7 := hAu6.block (hbu7.block _ hlu6)
              have hlu7 := Nat.lt_of_lt_of_le hlu6 hbu7.size
              obtain ⟨ax, cx, rfl⟩ := hoo.slc
              have hou7 := hoo
              refine ⟨⟨hmu7, hpu7⟩, ?_⟩
              obtain ⟨bx, ox, hxu7, _⟩ := hou7.statB hLz
              refine hOne (i := 4) (by kernel_rfl) (hCall (i := 4) (d := some 42) (f := 42) (args := #[.agg #[.slice pa pn pc], .slice ax (n1 + n2) cx]) (l' := #[true, true, true, true, true, true, false]) (R := fun v w' => RetS (.returned v) u7 w' ts (L1 ++ L2) ∧ Below u7.heap.size u7 w') rfl (by kernel_rfl) (by kernel_rfl) (by kernel_rfl) (run_cl2 (.tmp 38) (.tmp 41) #[41, 25] (by kernel_rfl) (by kernel_rfl) (by kernel_rfl) (by kernel_rfl) enter_rep) ((specReplay_any pa pb po pn pc ts ax bx ox (n1 + n2) cx (L1 ++ L2) u7 (hT.below' hBu7) hxu7 (by omega)).mono fun _ _ ⟨⟨cc, E, Q, v, he, h⟩, hb⟩ => ⟨_, he, ⟨cc, E, Q, v, rfl, h⟩, hb⟩) ?_)
              rintro vy u8 ⟨⟨cc, E, Q, v, hvy, hst, hso⟩, hbu8⟩
              simp only [Ending.returned.injEq] at hvy
              subst hvy
              have hmu8 := MC.below hmu7 hbu8 (by omega)
              have hpu8 := MC.below hpu7 hbu8 (by omega)
              have hBu8 := hBu7.trans (hbu8.mono hBu7.size)
              have hzu8 : w.heap.size + 2 ≤ u8.heap.size := Nat.le_trans hzu7 hbu8.size
              have hAu8 := hAu7.block (hbu8.block _ hlu7)
              have hlu8 := Nat.lt_of_lt_of_le hlu7 hbu8.size
              obtain ⟨av, cv, rfl⟩ := hso.slc
              have hsu8 := hso.mono' (show w.heap.size ≤ _ by omega)
              refine ⟨⟨hmu8, hpu8⟩, ?_⟩
              have hfar : ∀ q, (Value.slice av Q.length cv).ownBlock = some q → q ≠ pA := fun q hq => by have := hso.row_lo q hq; omega
              obtain ⟨uz, huz⟩ : ∃ uz, uz = u8.setCells pA 0 [.int .i64 cc, .int .i64 E, .slice av Q.length cv] := ⟨_, rfl⟩
              have hcz : CF uz pA [.int .i64 cc, .int .i64 E, .slice av Q.length cv] := by rw [huz]; exact hAu8.stored rfl
              have hgz : u8.grownBy uz (some pA) := by rw [huz]; exact grown_setCells _ _ _ _ _ (World.grownBy.refl _ _)
              have hmz := hmu8.block (hgz.block w.heap.size (by omega) (by simp; omega))
              have hpz := hpu8.block (hgz.block (w.heap.size + 1) (by omega) (by simp; omega))
              have hBz := hBu8.grown hgz hBu8.size (fun q hq => by simp at hq; omega)
              have hsz := hsu8.grown hgz (.inr (fun hh => hfar _ hh rfl))
              have hzz := hgz.size
              refine hOne (i := 6) (by kernel_rfl) (hSkip (i := 6) (w' := uz) (l' := #[true, true, true, true, true, true, true]) rfl (by kernel_rfl) (by kernel_rfl) (by kernel_rfl) (by rw [huz]; exact run_stT 85 [.int .i64 0, .int .i64 0, .slice none 0 0] [.int .i64 cc, .int .i64 E, .slice av Q.length cv] (.tmp 5) (.tmp 42) (by kernel_rfl) (by kernel_rfl) (by kernel_rfl) hAu8 rfl Tryz.sizeStory (one3 _ _ _ _ _)) ⟨hmz, hpz⟩ ?_)
              refine wpAnyH_done (by kernel_rfl) ?_ _
              have HR := hid (show ∃ (p : Nat) (cc E : Int) (Q : List ByteArray) (av : Option Addr) (cv : Nat), (.pointer (some ⟨pA, 0, none⟩) : Value) = .pointer (some ⟨p, 0, none⟩) ∧ MC uz p [.int .i64 cc, .int .i64 E, .slice av Q.length cv] ∧ p < uz.heap.size ∧ StoryIs ts (L1 ++ L2) cc E Q ∧ Own w.heap.size uz 1 (.slice av Q.length cv) Q.length (Q.map Value.string) ∧ MC uz w.heap.size [.int .i64 wk, .bool up, .int .i64 now, .int .i64 sn, .int .i64 ep, .int .i64 gv, .slice a1 n1 c1, .slice a2 n2 c2, .slice ar nr cr, .slice aj nj cj, .slice az ns cs, .slice ao no co] ∧ MC uz (w.heap.size + 1) [.slice pa pn pc] ∧ Below w.heap.size w uz ∧ w.heap.size + 2 ≤ uz.heap.size from ⟨pA, cc, E, Q, av, cv, rfl, fun j hj => (hcz j hj).1, by omega, hst, hsz, hmz, hpz, hBz, by omega⟩)
              clear hcz hgz hmz hpz hBz hsz huz hAu8 hmu8 hpu8 hBu8 hsu8 hst hfar
              go_wp2_with fail
              go_meet
              case rel => exact HR.out
          case rest =>
            obtain ⟨p, cc, E, Q, av, cv, rfl, hmS, hlS, hst, hown, hmB, hmP, hBV, hz⟩ := hcut
            have s0 : wc.cell? ⟨p, 0, none⟩ = some (.int .i64 cc) := hmS 0 (by simp)
            by_cases hcc : cc = 0
            · subst hcc
              obtain ⟨hcl, hrep⟩ := hst.zero
              have hA : allDeps ts pn := HNT.out ▸ deps_of_code hcl.1
              have hsto := rep_ok _ (st0_ok ts.length) hrep
              have hE0 : 0 ≤ E := hsto.1
              have hE1 : E ≤ 100000 := by have h9 := hsto.2.1; have := hcl.2; dsimp only at h9; omega
              have hQz : ∀ s ∈ Q, s.size ≤ maxLen := fun s hs => by have := hsto.2.2.2 s hs; unfold maxLen; omega
              have HQL := hid (show Q.length = pn by have := hsto.2.2.1; dsimp only at this; rw [this, HNT.out])
              have HCL := hid hcl
              have HREP := hid hrep
              clear hst hcl hrep hsto
              have b1 : wc.cell? ⟨w.heap.size, 1, none⟩ = some (.bool up) := hmB 1 (by simp)
              cases up with
              | false =>
                have b3 : wc.cell? ⟨w.heap.size, 3, none⟩ = some (.int .i64 sn) := hmB 3 (by simp)
                have b4 : wc.cell? ⟨w.heap.size, 4, none⟩ = some (.int .i64 ep) := hmB 4 (by simp)
                have b5 : wc.cell? ⟨w.heap.size, 5, none⟩ = some (.int .i64 gv) := hmB 5 (by simp)
                have b7 : wc.cell? ⟨w.heap.size, 7, none⟩ = some (.slice a2 n2 c2) := hmB 7 (by simp)
                have b8 : wc.cell? ⟨w.heap.size, 8, none⟩ = some (.slice ar nr cr) := hmB 8 (by simp)
                have b9 : wc.cell? ⟨w.heap.size, 9, none⟩ = some (.slice aj nj cj) := hmB 9 (by simp)
                have b10 : wc.cell? ⟨w.heap.size, 10, none⟩ = some (.slice az ns cs) := hmB 10 (by simp)
                have b11 : wc.cell? ⟨w.heap.size, 11, none⟩ = some (.slice ao no co) := hmB 11 (by simp)
                by_cases g0 : n2 = 0
                · have g0' : ((n2 : Int) == 0) = true := by simp; omega
                  have G0 := hid g0
                  clear g0
                  by_cases g1 : sn = 0
                  · have g1' : (sn == 0) = true := by simp; omega
                    have G1 := hid g1
                    clear g1
                    by_cases g2 : ep = 0
                    · have g2' : (ep == 0) = true := by simp; omega
                      have G2 := hid g2
                      clear g2
                      by_cases g3 : gv = 0
                      · have g3' : (gv == 0) = true := by simp; omega
                        have G3 := hid g3
                        clear g3
                        by_cases g4 : nr = 0
                        · have g4' : ((nr : Int) == 0) = true := by simp; omega
                          have G4 := hid g4
                          clear g4
                          by_cases g5 : nj = 0
                          · have g5' : ((nj : Int) == 0) = true := by simp; omega
                            have G5 := hid g5
                            clear g5
                            by_cases g6 : ns = 0
                            · have g6' : ((ns : Int) == 0) = true := by simp; omega
                              have G6 := hid g6
                              clear g6
                              by_cases g7 : no = 0
                              · have g7' : ((no : Int) == 0) = true := by simp; omega
                                have G7 := hid g7
                                clear g7
                                go_wp2
                                go_ret
                                refine ⟨RetB.t ⟨HCL.out, HWK.out, HNW.out, E, Q, HREP.out, .inl ⟨rfl, ?_⟩⟩, hBV⟩
                                rw [HN2.out, HNR.out, HNJ.out, HNS.out, HNO.out]
                                exact ⟨G0.out, G1.out, G2.out, G3.out, G4.out, G5.out, G6.out, G7.out⟩
                              · have g7' : ((no : Int) == 0) = false := by simp; omega
                                have HN := hid (show ¬ (vB ts wk false now sn ep gv L1 L2 R J S O) from fun hh => by
                                  have h9 := vB_dn hh
                                  rw [HN2.out, HNR.out, HNJ.out, HNS.out, HNO.out] at h9
                                  unfold isDown at h9
                                  omega)
                                clear g7
                                go_wp2
                                go_ret
                                exact ⟨RetB.f HN.out, hBV⟩
                            · have g6' : ((ns : Int) == 0) = false := by simp; omega
                              have HN := hid (show ¬ (vB ts wk false now sn ep gv L1 L2 R J S O) from fun hh => by
                                have h9 := vB_dn hh
                                rw [HN2.out, HNR.out, HNJ.out, HNS.out, HNO.out] at h9
                                unfold isDown at h9
                                omega)
                              clear g6
                              go_wp2
                              go_ret
                              exact ⟨RetB.f HN.out, hBV⟩
                          · have g5' : ((nj : Int) == 0) = false := by simp; omega
                            have HN := hid (show ¬ (vB ts wk false now sn ep gv L1 L2 R J S O) from fun hh => by
                              have h9 := vB_dn hh
                              rw [HN2.out, HNR.out, HNJ.out, HNS.out, HNO.out] at h9
                              unfold isDown at h9
                              omega)
                            clear g5
                            go_wp2
                            go_ret
                            exact ⟨RetB.f HN.out, hBV⟩
                        · have g4' : ((nr : Int) == 0) = false := by simp; omega
                          have HN := hid (show ¬ (vB ts wk false now sn ep gv L1 L2 R J S O) from fun hh => by
                            have h9 := vB_dn hh
                            rw [HN2.out, HNR.out, HNJ.out, HNS.out, HNO.out] at h9
                            unfold isDown at h9
                            omega)
                          clear g4
                          go_wp2
                          go_ret
                          exact ⟨RetB.f HN.out, hBV⟩
                      · have g3' : (gv == 0) = false := by simp; omega
                        have HN := hid (show ¬ (vB ts wk false now sn ep gv L1 L2 R J S O) from fun hh => by
                          have h9 := vB_dn hh
                          rw [HN2.out, HNR.out, HNJ.out, HNS.out, HNO.out] at h9
                          unfold isDown at h9
                          omega)
                        clear g3
                        go_wp2
                        go_ret
                        exact ⟨RetB.f HN.out, hBV⟩
                    · have g2' : (ep == 0) = false := by simp; omega
                      have HN := hid (show ¬ (vB ts wk false now sn ep gv L1 L2 R J S O) from fun hh => by
                        have h9 := vB_dn hh
                        rw [HN2.out, HNR.out, HNJ.out, HNS.out, HNO.out] at h9
                        unfold isDown at h9
                        omega)
                      clear g2
                      go_wp2
                      go_ret
                      exact ⟨RetB.f HN.out, hBV⟩
                  · have g1' : (sn == 0) = false := by simp; omega
                    have HN := hid (show ¬ (vB ts wk false now sn ep gv L1 L2 R J S O) from fun hh => by
                      have h9 := vB_dn hh
                      rw [HN2.out, HNR.out, HNJ.out, HNS.out, HNO.out] at h9
                      unfold isDown at h9
                      omega)
                    clear g1
                    go_wp2
                    go_ret
                    exact ⟨RetB.f HN.out, hBV⟩
                · have g0' : ((n2 : Int) == 0) = false := by simp; omega
                  have HN := hid (show ¬ (vB ts wk false now sn ep gv L1 L2 R J S O) from fun hh => by
                    have h9 := vB_dn hh
                    rw [HN2.out, HNR.out, HNJ.out, HNS.out, HNO.out] at h9
                    unfold isDown at h9
                    omega)
                  clear g0
                  go_wp2
                  go_ret
                  exact ⟨RetB.f HN.out, hBV⟩
              | true =>
                have b3 : wc.cell? ⟨w.heap.size, 3, none⟩ = some (.int .i64 sn) := hmB 3 (by simp)
                have b4 : wc.cell? ⟨w.heap.size, 4, none⟩ = some (.int .i64 ep) := hmB 4 (by simp)
                have b5 : wc.cell? ⟨w.heap.size, 5, none⟩ = some (.int .i64 gv) := hmB 5 (by simp)
                have s1 : wc.cell? ⟨p, 1, none⟩ = some (.int .i64 E) := hmS 1 (by simp)
                by_cases g1 : ep = E
                · subst g1
                  by_cases g2 : 1 ≤ ep
                  · cases hsn : inB sn 0 1 with
                    | false =>
                      have HN := hid (show ¬ (vB ts wk true now sn ep gv L1 L2 R J S O) from fun hh => inB_f hsn (vB_up hh HREP.out).2.2.2.1)
                      go_wp2_with (go_at_call 30; refine (l2In_any _ _ _ _).mono ?_; rintro e w9 ⟨rfl, h9⟩; rw [h9]; clear h9)
                      go_ret
                      exact ⟨RetB.f HN.out, hBV⟩
                    | true =>
                      have HSN := hid (inB_t hsn)
                      cases hgv : inB gv 0 1000000 with
                      | false =>
                        have HN := hid (show ¬ (vB ts wk true now sn ep gv L1 L2 R J S O) from fun hh => inB_f hgv (vB_up hh HREP.out).2.2.2.2.1)
                        go_wp2_with (go_at_call 30; refine (l2In_any _ _ _ _).mono ?_; rintro e w9 ⟨rfl, h9⟩; rw [h9]; clear h9)
                        go_ret
                        exact ⟨RetB.f HN.out, hBV⟩
                      | true =>
                        have HGV := hid (inB_t hgv)
                        go_upto_region 10 with (go_at_call 30; refine (l2In_any _ _ _ _).mono ?_; rintro e w9 ⟨rfl, h9⟩; rw [h9]; clear h9)
                        clear b1 b3 b4 b5 s0 s1
                        have bp : wc.cell? ⟨w.heap.size + 1, 0, none⟩ = some (.slice pa pn pc) := hmP 0 (by simp)
                        have b0 : wc.cell? ⟨w.heap.size, 0, none⟩ = some (.int .i64 wk) := hmB 0 (by simp)
                        have b8 : wc.cell? ⟨w.heap.size, 8, none⟩ = some (.slice ar nr cr) := hmB 8 (by simp)
                        have b9 : wc.cell? ⟨w.heap.size, 9, none⟩ = some (.slice aj nj cj) := hmB 9 (by simp)
                        have b10 : wc.cell? ⟨w.heap.size, 10, none⟩ = some (.slice az ns cs) := hmB 10 (by simp)
                        have b11 : wc.cell? ⟨w.heap.size, 11, none⟩ = some (.slice ao no co) := hmB 11 (by simp)
                        by_cases g3 : nr = pn
                        · subst g3
                          by_cases g4 : nj = nr
                          · subst g4
                            by_cases g5 : (ns : Int) = wk
                            · have g5' : ((ns : Int) == wk) = true := by simpa using g5
                              have g5'' : ((ns : Int) != wk) = false := by simpa using g5
                              have G5 := hid g5
                              clear g5
                              by_cases g6 : 2000 < no
                              · have HN := hid (show ¬ (vB ts wk true now sn ep gv L1 L2 R J S O) from fun hh => by have h9 := (vB_up hh HREP.out).2.2.2.2.2.2.2.1; rw [HNO.out] at h9; omega)
                                go_wp2
                                go_ret
                                exact ⟨RetB.f HN.out, hBV⟩
                              · obtain ⟨bq, oq, hQs, _⟩ := hown.statB hQz
                                rw [HQL.out] at hQs
                                go_upto_region 13 with fail
                                clear bp b0 b8 b9 b10 b11
                                go_wp2
                                go_loopw [7] (fun i wr => ∃ k : Nat, k ≤ nj ∧ i = .int .i64 k ∧ (∀ j, j < k → R.getD j ByteArray.empty = Q.getD j ByteArray.empty) ∧ Below wc.heap.size wc wr) (fun i _ => nj - (intOf i).toNat)
                                case atStart => exact ⟨0, Nat.zero_le _, rfl, fun j hj => absurd hj (by omega), Below.refl _ _⟩
                                case round =>
                                  obtain ⟨k, hk, rfl, hok, hb⟩ := hrel
                                  have hB := hBV.trans (hb.mono hBV.size)
                                  by_cases hlt : k < nj
                                  · have z8 : wr.cell? ⟨w.heap.size, 8, none⟩ = some (.slice ar nj cr) := keepB hb (hmB 8 (by simp))
                                    have zs : wr.cell? ⟨p, 2, none⟩ = some (.slice av nj cv) := by have := keepB hb (hmS 2 (by simp)); simpa [HQL.out] using this
                                    obtain rfl := hR.ad (by omega)
                                    obtain rfl := hQs.ad (by omega)
                                    have hc := (hR.below' hB).cell k hlt
                                    have hc' := (hQs.below' hb).cell k hlt
                                    obtain ⟨s, hs⟩ : ∃ s, s = R.getD k ByteArray.empty := ⟨_, rfl⟩
                                    obtain ⟨t, ht⟩ : ∃ t, t = Q.getD k ByteArray.empty := ⟨_, rfl⟩
                                    rw [← hs] at hc
                                    rw [← ht] at hc'
                                    have HS := hid hs
                                    have HT := hid ht
                                    clear hs ht
                                    have hlt' : (k : Int) < (nj : Int) := by omega
                                    by_cases hst : s = t
                                    · subst hst
                                      go_wp2
                                      go_quiet (fail)
                                      go_wp2
                                      go_roundw
                                      case rel =>
                                        refine ⟨k + 1, by omega, by go_num, fun j hj => ?_, below_drewN hb _⟩
                                        by_cases e : j = k
                                        · subst e; rw [← HS.out, ← HT.out]
                                        · exact hok j (by omega)
                                      case measure => simp [intOf]; omega
                                    · have hst' := str_ne hst
                                      have HN := hid (show ¬ (vB ts wk true now sn ep gv L1 L2 R J S O) from fun hh => hst (by rw [HS.out, HT.out, (vB_up hh HREP.out).2.2.1]))
                                      clear hst
                                      go_wp2
                                      go_quiet (fail)
                                      go_wp2
                                      go_ret
                                      exact ⟨RetB.f HN.out, below_drewN hB _⟩
                                  · obtain rfl : k = nj := by omega
                                    have HRQ := hid (show R = Q from strs_ext (by rw [HNR.out, HQL.out]) (by rw [HNR.out]; exact hok))
                                    clear hok
                                    go_wp2
                                    go_loopw [8] (fun i wr => ∃ k2 : Nat, k2 ≤ ns ∧ i = .int .i64 k2 ∧ seatsOk S k2 ∧ Below wc.heap.size wc wr) (fun i _ => ns - (intOf i).toNat)
                                    case atStart => exact ⟨0, Nat.zero_le _, rfl, fun j hj => absurd hj (by omega), hb⟩
                                    case round =>
                                      clear hB hb
                                      obtain ⟨k2, hk2, rfl, hok, hb⟩ := hrel
                                      have hB := hBV.trans (hb.mono hBV.size)
                                      have z10 : wr.cell? ⟨w.heap.size, 10, none⟩ = some (.slice az ns cs) := keepB hb (hmB 10 (by simp))
                                      by_cases hlt2 : k2 < ns
                                      · obtain rfl := hS.ad (by omega)
                                        have hc1 := (hS.below' hB).c1 k2 hlt2
                                        obtain ⟨ee, hx⟩ : ∃ x, x = (t2 S k2).2 := ⟨_, rfl⟩
                                        rw [← hx] at hc1
                                        have HX := hid hx
                                        clear hx
                                        have hlt2' : (k2 : Int) < (ns : Int) := by omega
                                        cases hE2 : inB ee 0 300 with
                                        | false =>
                                          have HN := hid (show ¬ (vB ts wk true now sn ep gv L1 L2 R J S O) from fun hh => by have h9 := (vB_up hh HREP.out).2.2.2.2.2.2.1.2 k2 (by rw [HNS.out]; exact hlt2); rw [← HX.out] at h9; exact inB_f hE2 h9)
                                          go_wp2_with (go_at_call 30; refine (l2In_any _ _ _ _).mono ?_; rintro e w9 ⟨rfl, h9⟩; rw [h9]; clear h9)
                                          go_ret
                                          exact ⟨RetB.f HN.out, hB⟩
                                        | true =>
                                          have HE2 := hid (inB_t hE2)
                                          go_wp2_with (go_at_call 30; refine (l2In_any _ _ _ _).mono ?_; rintro e w9 ⟨rfl, h9⟩; rw [h9]; clear h9)
                                          go_roundw
                                          case rel =>
                                            refine ⟨k2 + 1, by omega, by go_num, fun j hj => ?_, hb⟩
                                            by_cases e : j = k2
                                            · subst e; rw [← HX.out]; exact HE2.out
                                            · exact hok j (by omega)
                                          case measure => simp [intOf]; omega
                                      · obtain rfl : k2 = ns := by omega
                                        have HSS := hid hok
                                        clear hok
                                        go_wp2
                                        clear z10
                                        go_loopw [9] (fun i wr => ∃ k3 : Nat, k3 ≤ no ∧ i = .int .i64 k3 ∧ owedOk wk R O k3 ∧ Below wc.heap.size wc wr) (fun i _ => no - (intOf i).toNat)
                                        case atStart => exact ⟨0, Nat.zero_le _, rfl, fun j hj => absurd hj (by omega), hb⟩
                                        case round =>
                                          clear hB hb
                                          obtain ⟨k3, hk3, rfl, hok, hb⟩ := hrel
                                          have hB := hBV.trans (hb.mono hBV.size)
                                          have z11 : wr.cell? ⟨w.heap.size, 11, none⟩ = some (.slice ao no co) := keepB hb (hmB 11 (by simp))
                                          by_cases hlt3 : k3 < no
                                          · obtain rfl := hO.ad (by omega)
                                            have hc0 := (hO.below' hB).c0 k3 hlt3
                                            have hc1 := (hO.below' hB).c1 k3 hlt3
                                            have hc2 := (hO.below' hB).c2 k3 hlt3
                                            obtain ⟨⟨x0, x1, x2⟩, hx⟩ : ∃ x, x = t3 O k3 := ⟨_, rfl⟩
                                            rw [← hx] at hc0 hc1 hc2
                                            dsimp only at hc0 hc1 hc2
                                            have HX := hid hx
                                            clear hx
                                            have hlt3' : (k3 : Int) < (no : Int) := by omega
                                            obtain ⟨V, hV⟩ : ∃ V, V = wr.alloc (.cells #[.int .i64 x0, .int .i64 x1, .int .i64 x2] 126) := ⟨_, rfl⟩
                                            have hbV : Below wr.heap.size wr V := by rw [hV]; exact (Below.refl _ _).alloc (Nat.le_refl _) _
                                            have hmV : MC V wr.heap.size [.int .i64 x0, .int .i64 x1, .int .i64 x2] := by rw [hV]; exact MC.made wr _ _
                                            have hbb := hb.trans (hbV.mono hb.size)
                                            have hB' := hBV.trans (hbb.mono hBV.size)
                                            have y0 : V.cell? ⟨wr.heap.size, 0, none⟩ = some (.int .i64 x0) := hmV 0 (by simp)
                                            have y1 : V.cell? ⟨wr.heap.size, 1, none⟩ = some (.int .i64 x1) := hmV 1 (by simp)
                                            have y2 : V.cell? ⟨wr.heap.size, 2, none⟩ = some (.int .i64 x2) := hmV 2 (by simp)
                                            have z0 : V.cell? ⟨w.heap.size, 0, none⟩ = some (.int .i64 wk) := keepB hbb (hmB 0 (by simp))
                                            have z8 : V.cell? ⟨w.heap.size, 8, none⟩ = some (.slice ar k cr) := keepB hbb (hmB 8 (by simp))
                                            clear hmV
                                            have HNX : Hid (¬ owedOk1 wk R (x0, x1, x2) → ¬ (vB ts wk true now sn ep gv L1 L2 R J S O)) := fun hq hh => hq (by have h9 := (vB_up hh HREP.out).2.2.2.2.2.2.2.2 k3 (by rw [HNO.out]; exact hlt3); rw [← HX.out] at h9; exact h9)
                                            go_upto_region 27 with fail
                                            rw [← hV]
                                            clear hV z11 hc0 hc1 hc2
                                            cases hA3 : inB x0 1 wk with
                                            | false =>
                                              have HN := hid (HNX.out fun hh => inB_f hA3 ⟨hh.1, hh.2.1⟩)
                                              go_wp2_with (first | (go_at_call 30; refine (l2In_any _ _ _ _).mono ?_; rintro e w9 ⟨rfl, h9⟩; rw [h9]; clear h9) | (go_at_call 80; refine (l2LeaseOk_any _ _).mono ?_; rintro e w9 ⟨rfl, h9⟩; rw [h9]; clear h9))
                                              go_ret
                                              exact ⟨RetB.f HN.out, hB'⟩
                                            | true =>
                                              have HA3 := hid (inB_t hA3)
                                              cases hL3 : inB x1 1 300000000 with
                                              | false =>
                                                have HN := hid (HNX.out fun hh => inB_f hL3 ⟨hh.2.2.1, hh.2.2.2.1⟩)
                                                go_wp2_with (first | (go_at_call 30; refine (l2In_any _ _ _ _).mono ?_; rintro e w9 ⟨rfl, h9⟩; rw [h9]; clear h9) | (go_at_call 80; refine (l2LeaseOk_any _ _).mono ?_; rintro e w9 ⟨rfl, h9⟩; rw [h9]; clear h9))
                                                go_ret
                                                exact ⟨RetB.f HN.out, hB'⟩
                                              | true =>
                                                have HL3 := hid (inB_t hL3)
                                                cases hT3 : inB x2 0 ((k : Int) - 1) with
                                                | false =>
                                                  have HN := hid (HNX.out fun hh => inB_f hT3 (by have h9 := hh.2.2.2.2; rw [HNR.out] at h9; exact ⟨h9.1, by have := h9.2.1; dsimp only at this; omega⟩))
                                                  go_wp2_with (first | (go_at_call 30; refine (l2In_any _ _ _ _).mono ?_; rintro e w9 ⟨rfl, h9⟩; rw [h9]; clear h9) | (go_at_call 80; refine (l2LeaseOk_any _ _).mono ?_; rintro e w9 ⟨rfl, h9⟩; rw [h9]; clear h9))
                                                  go_ret
                                                  exact ⟨RetB.f HN.out, hB'⟩
                                                | true =>
                                                  have HT3 := hid (inB_t hT3)
                                                  obtain ⟨xn, rfl⟩ : ∃ xn : Nat, x2 = xn := ⟨x2.toNat, by have := HT3.out; omega⟩
                                                  have hxn : xn < k := by have := HT3.out; omega
                                                  obtain rfl := hR.ad (by omega)
                                                  have hcr := (hR.below' hB').cell xn hxn
                                                  obtain ⟨s, hs⟩ : ∃ s, s = R.getD xn ByteArray.empty := ⟨_, rfl⟩
                                                  rw [← hs] at hcr
                                                  have HS : Hid (rs R xn = s) := by rw [hs]; rfl
                                                  clear hs
                                                  have hxn' : (xn : Int) < (k : Int) := by omega
                                                  by_cases hzs : s.size = 0
                                                  · have hz' := empty_t hzs
                                                    have HN := hid (HNX.out fun hh => hh.2.2.2.2.2.2 (by show (rs R xn).size = 0; rw [HS.out]; exact hzs))
                                                    clear hzs
                                                    go_wp2_with (first | (go_at_call 30; refine (l2In_any _ _ _ _).mono ?_; rintro e w9 ⟨rfl, h9⟩; rw [h9]; clear h9) | (go_at_call 80; refine (l2LeaseOk_any _ _).mono ?_; rintro e w9 ⟨rfl, h9⟩; rw [h9]; clear h9))
                                                    go_ret
                                                    exact ⟨RetB.f HN.out, hB'⟩
                                                  · have hz' := empty_f hzs
                                                    have HZ := hid hzs
                                                    clear hzs
                                                    go_wp2_with (first | (go_at_call 30; refine (l2In_any _ _ _ _).mono ?_; rintro e w9 ⟨rfl, h9⟩; rw [h9]; clear h9) | (go_at_call 80; refine (l2LeaseOk_any _ _).mono ?_; rintro e w9 ⟨rfl, h9⟩; rw [h9]; clear h9))
                                                    go_roundw
                                                    case rel =>
                                                      refine ⟨k3 + 1, by omega, by go_num, fun j hj => ?_, hbb⟩
                                                      by_cases e : j = k3
                                                      · subst e; rw [← HX.out]
                                                        exact ⟨HA3.out.1, HA3.out.2, HL3.out.1, HL3.out.2, HT3.out.1, by show (xn : Int) < _; rw [HNR.out]; omega, by show ¬ (rs R xn).size = 0; rw [HS.out]; exact HZ.out⟩
                                                      · exact hok j (by omega)
                                                    case measure => simp [intOf]; omega
                                          · obtain rfl : k3 = no := by omega
                                            have HOO := hid hok
                                            clear hok
                                            have bp : wr.cell? ⟨w.heap.size + 1, 0, none⟩ = some (.slice pa k pc) := keepB hb (hmP 0 (by simp))
                                            have b0 : wr.cell? ⟨w.heap.size, 0, none⟩ = some (.int .i64 wk) := keepB hb (hmB 0 (by simp))
                                            have b1 : wr.cell? ⟨w.heap.size, 1, none⟩ = some (.bool true) := keepB hb (hmB 1 (by simp))
                                            have b2 : wr.cell? ⟨w.heap.size, 2, none⟩ = some (.int .i64 now) := keepB hb (hmB 2 (by simp))
                                            have b3 : wr.cell? ⟨w.heap.size, 3, none⟩ = some (.int .i64 sn) := keepB hb (hmB 3 (by simp))
                                            have b4 : wr.cell? ⟨w.heap.size, 4, none⟩ = some (.int .i64 ep) := keepB hb (hmB 4 (by simp))
                                            have b5 : wr.cell? ⟨w.heap.size, 5, none⟩ = some (.int .i64 gv) := keepB hb (hmB 5 (by simp))
                                            have b6 : wr.cell? ⟨w.heap.size, 6, none⟩ = some (.slice a1 n1 c1) := keepB hb (hmB 6 (by simp))
                                            have b7 : wr.cell? ⟨w.heap.size, 7, none⟩ = some (.slice a2 n2 c2) := keepB hb (hmB 7 (by simp))
                                            have b8 : wr.cell? ⟨w.heap.size, 8, none⟩ = some (.slice ar k cr) := keepB hb (hmB 8 (by simp))
                                            have b9 : wr.cell? ⟨w.heap.size, 9, none⟩ = some (.slice aj k cj) := keepB hb (hmB 9 (by simp))
                                            have b10 : wr.cell? ⟨w.heap.size, 10, none⟩ = some (.slice az k2 cs) := keepB hb (hmB 10 (by simp))
                                            have b11 : wr.cell? ⟨w.heap.size, 11, none⟩ = some (.slice ao k3 co) := keepB hb (hmB 11 (by simp))
                                            go_wp2_with fail
                                            refine (l5JobsOk_any wk true now sn ep gv a1 a2 ar aj az ao n1 c1 n2 c2 k cr cj k2 cs k3 co pa pb po pc ts bj oj br or' J R _ (hJ.below' hB) (hR.below' hB) (hT.below' hB) hA g2 hE1 HGV.out.1 HGV.out.2 HNW.out.1 HNW.out.2).mono ?_
                                            rintro e V4 ⟨⟨r4, rfl, hr4⟩, hb4⟩
                                            have hB4 := hB.trans (hb4.mono hB.size)
                                            have HR4 := hid hr4
                                            clear hr4 b0 b1 b2 b3 b4 b5 b6 b7 b8 b9 b10 b11 bp
                                            go_wp2
                                            go_ret
                                            refine ⟨⟨r4, rfl, ⟨fun h => ?_, fun h => ?_⟩⟩, hB4⟩
                                            · refine ⟨HCL.out, HWK.out, HNW.out, ep, Q, HREP.out, .inr ⟨rfl, rfl, g2, HRQ.out, HSN.out, HGV.out, ?_, ?_, ?_⟩⟩
                                              · rw [HNJ.out, HNT.out]; exact ⟨rfl, HR4.out.1 h⟩
                                              · rw [HNS.out]; exact ⟨G5.out, HSS.out⟩
                                              · rw [HNO.out]; exact ⟨by omega, HOO.out⟩
                                            · exact HR4.out.2 (vB_up h HREP.out).2.2.2.2.2.1.2
                            · have g5' : ((ns : Int) == wk) = false := by simpa using g5
                              have HN := hid (show ¬ (vB ts wk true now sn ep gv L1 L2 R J S O) from fun hh => by have h9 := (vB_up hh HREP.out).2.2.2.2.2.2.1.1; rw [HNS.out] at h9; exact g5 h9)
                              go_wp2
                              go_ret
                              exact ⟨RetB.f HN.out, hBV⟩
                          · have g4' : ((nj : Int) == (nr : Int)) = false := by simp; omega
                            have g4'' : ¬ ((nj : Int) = (nr : Int)) := by omega
                            have HN := hid (show ¬ (vB ts wk true now sn ep gv L1 L2 R J S O) from fun hh => by have h9 := (vB_up hh HREP.out).2.2.2.2.2.1.1; rw [HNJ.out, HNT.out] at h9; exact g4 h9)
                            go_wp2
                            go_ret
                            exact ⟨RetB.f HN.out, hBV⟩
                        · have g3' : ((nr : Int) == (pn : Int)) = false := by simp; omega
                          have g3'' : ¬ ((nr : Int) = (pn : Int)) := by omega
                          have HN := hid (show ¬ (vB ts wk true now sn ep gv L1 L2 R J S O) from fun hh => by have h9 := (vB_up hh HREP.out).2.2.1; exact g3 (by rw [← HNR.out, h9, HQL.out]))
                          go_wp2
                          go_ret
                          exact ⟨RetB.f HN.out, hBV⟩
                  · have HN := hid (show ¬ (vB ts wk true now sn ep gv L1 L2 R J S O) from fun hh => g2 (vB_up hh HREP.out).2.1)
                    go_wp2_with (go_at_call 30; refine (l2In_any _ _ _ _).mono ?_; rintro e w9 ⟨rfl, h9⟩; rw [h9]; clear h9)
                    go_ret
                    exact ⟨RetB.f HN.out, hBV⟩
                · have g1' : (ep == E) = false := by simpa using g1
                  have HN := hid (show ¬ (vB ts wk true now sn ep gv L1 L2 R J S O) from fun hh => g1 (vB_up hh HREP.out).1)
                  go_wp2_with (go_at_call 30; refine (l2In_any _ _ _ _).mono ?_; rintro e w9 ⟨rfl, h9⟩; rw [h9]; clear h9)
                  go_ret
                  exact ⟨RetB.f HN.out, hBV⟩
            · have hcc' : (cc == 0) = false := by simpa using hcc
              have HN := hid (show ¬ (vB ts wk up now sn ep gv L1 L2 R J S O) from fun hh => hst.nonzero hcc ⟨hh.1, by obtain ⟨_, _, _, E', Q', h9, _⟩ := hh; exact ⟨E', Q', h9⟩⟩)
              clear hst
              go_wp2
              go_ret
              exact ⟨RetB.f HN.out, hBV⟩
  · have hcc' : (cc0 == 0) = false := by simpa using hcc
    have HN := hid (show ¬ (vB ts wk up now sn ep gv L1 L2 R J S O) from fun hh => hcc (hcode.one hh.1.1))
    clear hcode
    go_wp2
    go_ret
    exact ⟨RetB.f HN.out, hB1⟩
end Go.Proofs.YthopfmhagddhgaaGreat
