
/-
  THE ROW of FnExactCheckPlan, proved.
-/
import Derived.Test.YtppfbgebponljaaSChk
import Derived.Test.YtppfbgebponljaaRowVal
import Derived.Deep.Slices
import Derived.Deep.Strs
namespace Go.Proofs.Ytppfbgebponljaa
open Go.ChangeShapes Go.WideShapes Go.ChangeAt Go.RowKit Go.Deep
open Go.ChangeMaps (open_string shut_string)

theorem wf_I64 {x : Int} (h : (Lit.int .i64 x).wf = true) : I64 x := by
  simp [Lit.wf, IntKind.min, IntKind.max, IntKind.signed, IntKind.bits] at h
  exact ⟨by omega, by omega⟩

/-- A list of numbers that came in. -/
theorem intsAt_of {H : Type} {enc : TypeId × Value → H} {W : World} {base fuel : Nat} {cs : List Value} {x : DataW H × List MemPlace}
    (hf : DataW.trod enc Try.prog W base (fun _ => true) true fuel 48 cs = some x) : ∃ a b o n c ns, cs = [.slice a n c] ∧ IntsAt W a b o n ns := by
  rcases open_ints Try.underlying48 Try.underlying3 (by kernel_rfl) hf with ⟨hcs, _⟩ | ⟨y, n, c, ss, hcs, _, hl, hm, hz, _, hcell, hws⟩
  · exact ⟨none, 0, 0, 0, 0, [], hcs, fun h => absurd h (by omega), rfl, Nat.zero_le _, fun h => absurd h (by omega), fun j hj => absurd hj (by omega), by simp⟩
  · have hz' : ss.length = c := by simpa using hz
    have hsz : ∀ s ∈ ss.take n, I64 s := fun s hs => wf_I64 (hws s (List.mem_of_mem_take hs))
    have hlen : (ss.take n).length = n := by rw [List.length_take]; omega
    by_cases h0 : n = 0
    · subst h0
      exact ⟨some y, 0, 0, 0, c, ss.take 0, hcs, fun h => absurd h (by omega), hlen, Nat.zero_le _, fun h => absurd h (by omega), fun j hj => absurd hj (by omega), hsz⟩
    · obtain ⟨b, off, spot⟩ := y
      have hc := hcell 0 (by omega)
      have hspot : spot = none := by simpa [Addr.add] using World.cell?_spot hc
      subst hspot
      have hc' : ∀ j, j < n → W.cell? ⟨b, off + j, none⟩ = some (.int .i64 ((ss.take n).getD j 0)) := fun j hj => by
        have := hcell j (by omega)
        rw [Addr.add_lit] at this
        rw [this]
        simp [List.getD, hj]
      exact ⟨_, b, off, n, c, ss.take n, hcs, fun _ => rfl, hlen, by omega, fun _ => World.block_lt_of_cell? _ _ (hc' 0 (by omega)), hc', hsz⟩

/-- A list of tasks that came in. -/
theorem tasksAt_of {H : Type} {enc : TypeId × Value → H} {W : World} {base fuel : Nat} {cs : List Value} {x : DataW H × List MemPlace}
    (hf : DataW.trod enc Try.prog W base (fun _ => true) true fuel 28 cs = some x) : ∃ a b o n c ts, cs = [.slice a n c] ∧ TasksAt W a b o n ts := by
  rcases open_slice Try.underlying28 hf with ⟨hcs, _⟩ | ⟨y, n, c, m, fu, D, Pl, hcs, _, hl, hm, hmm, _, hel⟩
  · exact ⟨none, 0, 0, 0, 0, [], hcs, fun h => absurd h (by omega), rfl, Nat.zero_le _, fun h => absurd h (by omega), fun j hj => absurd hj (by omega), fun j hj => absurd hj (by omega), fun j hj => absurd hj (by omega), fun j hj => absurd hj (by omega)⟩
  · have hm' : m = c := by simpa using hmm
    have hC : Try.prog.cellsOf 63 = 3 := by kernel_rfl
    by_cases h0 : n = 0
    · subst h0
      exact ⟨some y, 0, 0, 0, c, [], hcs, fun h => absurd h (by omega), rfl, Nat.zero_le _, fun h => absurd h (by omega), fun j hj => absurd hj (by omega), fun j hj => absurd hj (by omega), fun j hj => absurd hj (by omega), fun j hj => absurd hj (by omega)⟩
    have each : ∀ i, i < n → ∃ s x a' b' o' n' c' ns, W.cell? (y.add (i * 3)) = some (.string s) ∧ W.cell? ((y.add (i * 3)).add 1) = some (.int .i64 x) ∧ W.cell? ((y.add (i * 3)).add 2) = some (.slice a' n' c') ∧ s.size ≤ maxLen ∧ I64 x ∧ IntsAt W a' b' o' n' ns := fun i hi => by
      obtain ⟨cs', hcells, ht⟩ := hel i (by omega)
      rw [hC] at hcells
      obtain ⟨y0, y1, y2, fu2, _, hlen, h0, h1, h2⟩ := trod_struct3 Try.underlying63 ht
      rw [hC] at hlen
      obtain ⟨_, _, hcl⟩ := World.cells?_some hcells
      match cs', hlen with
      | [c0, c1, c2], _ =>
        have e0 := hcl 0 (by omega)
        have e1 := hcl 1 (by omega)
        have e2 := hcl 2 (by omega)
        have k9 : Try.prog.cellsOf 9 = 1 := by kernel_rfl
        have k3 : Try.prog.cellsOf 3 = 1 := by kernel_rfl
        have k42 : Try.prog.cellsOf 48 = 1 := by kernel_rfl
        simp only [k9, k3, k42, List.drop_zero, List.drop_succ_cons, List.take_succ_cons, List.take_zero] at h0 h1 h2
        obtain ⟨s, hs, _, hsz⟩ := DataW.trod_string Try.underlying9 h0
        obtain ⟨x, hx, _, hxw⟩ := DataW.trod_int Try.underlying3 h1
        obtain ⟨a', b', o', n', c', ns, hns, hi'⟩ := intsAt_of h2
        simp only [List.cons.injEq, and_true] at hs hx hns
        subst hs; subst hx; subst hns
        refine ⟨s, x, a', b', o', n', c', ns, ?_, by simpa using e1, by simpa using e2, hsz, wf_I64 hxw, hi'⟩
        rw [show (y.add (i * 3)).add 0 = y.add (i * 3) by unfold Addr.add; split <;> simp_all] at e0
        simpa using e0
    obtain ⟨b, off, spot⟩ := y
    have hspot : spot = none := by
      obtain ⟨_, _, _, _, _, _, _, _, hc, _⟩ := each 0 (by omega)
      simpa [Addr.add] using World.cell?_spot hc
    subst hspot
    have each' : ∀ i, ∃ t : TaskD, i < n → W.cell? ⟨b, off + i * 3, none⟩ = some (.string t.name) ∧ W.cell? ⟨b, off + i * 3 + 1, none⟩ = some (.int .i64 t.cost) ∧ (∃ a' b' o' n' c', W.cell? ⟨b, off + i * 3 + 2, none⟩ = some (.slice a' n' c') ∧ IntsAt W a' b' o' n' t.deps) ∧ t.name.size ≤ maxLen ∧ I64 t.cost := fun i => by
      by_cases hi : i < n
      · obtain ⟨s, x, a', b', o', n', c', ns, q0, q1, q2, q3, q4, q5⟩ := each i hi
        simp only [Addr.add_lit] at q0 q1 q2
        exact ⟨⟨s, x, ns⟩, fun _ => ⟨q0, q1, ⟨a', b', o', n', c', q2, q5⟩, q3, q4⟩⟩
      · exact ⟨dT, fun h => absurd h hi⟩
    obtain ⟨f, hf⟩ := Classical.skolem.1 each'
    have hget : ∀ j, j < n → ((List.range n).map f).getD j dT = f j := fun j hj => by simp [List.getD, hj]
    refine ⟨_, b, off, n, c, (List.range n).map f, hcs, fun _ => rfl, by simp, by omega, fun _ => World.block_lt_of_cell? _ _ (hf 0 (by omega)).1, fun j hj => ?_, fun j hj => ?_, fun j hj => ?_, fun j hj => ?_⟩
    · rw [hget j hj]; exact (hf j hj).1
    · rw [hget j hj]; exact (hf j hj).2.1
    · rw [hget j hj]; exact (hf j hj).2.2.1
    · rw [hget j hj]; exact (hf j hj).2.2.2

/-- A plan that came in. -/
theorem planAt_of {H : Type} {enc : TypeId × Value → H} {W : World} {base fuel : Nat} {v : Value} {x : DataW H × List MemPlace}
    (hv : ∃ cs, v = .agg cs ∧ cs.size = Try.prog.cellsOf 30) (hf : DataW.trod enc Try.prog W base (fun _ => true) true fuel 30 v.cells.toList = some x) : ∃ a b o n c ts, v = .agg #[.slice a n c] ∧ TasksAt W a b o n ts := by
  obtain ⟨cs, rfl, hcs⟩ := hv
  have hC : Try.prog.cellsOf 30 = 1 := by kernel_rfl
  rw [hC] at hcs
  obtain ⟨l⟩ := cs
  match l, hcs with
  | [c0], _ =>
    obtain ⟨y0, fu, _, _, h0⟩ := trod_struct1 Try.underlying30 hf
    have k28 : Try.prog.cellsOf 28 = 1 := by kernel_rfl
    simp only [k28, Value.cells, List.drop_zero, List.take_succ_cons, List.take_zero] at h0
    obtain ⟨a, b, o, n, c, ts, hc, ht⟩ := tasksAt_of h0
    simp only [List.cons.injEq, and_true] at hc
    subst hc
    exact ⟨a, b, o, n, c, ts, rfl, ht⟩

set_option maxHeartbeats 1000000 in
theorem fnExactCheckPlan_walk (a : Option Addr) (b o n c : Nat) (ts : List TaskD) (w : World) (h : TasksAt w a b o n ts) :
    Calls Try.prog 4 #[.agg #[.slice a n c]] w fun e w' => e = .returned (.bool true) ∧ Below w.heap.size w w' := by
  have hb0 : Below w.heap.size w (w.alloc (.cells #[.slice a n c] 30)) := (Below.refl _ _).alloc (Nat.le_refl _) _
  have hq0 : (w.alloc (.cells #[.slice a n c] 30)).cell? ⟨w.heap.size, 0, none⟩ = some (.slice a n c) := by simp
  go_enter Try.func4, Try.ntmps4
  go_wp2_with fail
  refine (szPlan_any a b o n c ts 1048576 _ (by omega) (by omega) (h.below' hb0)).mono ?_
  rintro e w1 ⟨⟨r, rfl, hr⟩, hb1⟩
  have hB1 := hb0.trans (hb1.mono hb0.size)
  have hq1 := keepB hb1 hq0
  rcases hr with rfl | ⟨hr, hr0⟩
  · go_wp2
    go_ret
    exact ⟨rfl, hB1⟩
  have hs : n + tssz ts ≤ 1048576 := by omega
  clear hr
  go_wp2_with fail
  refine (toPlan_any a b o n c ts _ (h.below' hB1) hs).mono ?_
  rintro e w2 ⟨g2, xs2, rfl, _, _, ht2, hb2⟩
  have hB2 := hB1.trans (hb2.mono hB1.size)
  have hq2 := keepB hb2 hq1
  go_wp2_with fail
  refine (specCheckPlan_any _ g2 0 n n ts _ ht2).mono ?_
  rintro e w3 ⟨⟨cd, rfl, hcd⟩, hb3⟩
  have hB3 := hB2.trans (hb3.mono hB2.size)
  have hq3 := keepB hb3 hq2
  go_wp2_with fail
  refine (toPlan_any a b o n c ts _ (h.below' hB3) hs).mono ?_
  rintro e w4 ⟨g4, xs4, rfl, _, _, ht4, hb4⟩
  have hB4 := hB3.trans (hb4.mono hB3.size)
  have hq4 := keepB hb4 hq3
  have hb4' : Below w4.heap.size w4 (w4.alloc (.cells #[.slice (some ⟨g4, 0, none⟩) n n] 35)) := (Below.refl _ _).alloc (Nat.le_refl _) _
  have hB4' := hB4.trans (hb4'.mono hB4.size)
  have hq4' := keepB hb4' hq4
  have hx4 : (w4.alloc (.cells #[.slice (some ⟨g4, 0, none⟩) n n] 35)).cell? ⟨w4.heap.size, 0, none⟩ = some (.slice (some ⟨g4, 0, none⟩) n n) := by simp
  have ht4' := ht4.below' hb4'
  go_wp2_with fail
  refine (implCheckPlan_any _ g4 0 n n ts _ ht4').mono ?_
  rintro e w5 ⟨⟨cd', rfl, hcd'⟩, hb5⟩
  obtain rfl : cd' = cd := hcd'.one hcd
  have hB5 := hB4'.trans (hb5.mono hB4'.size)
  have hq5 := keepB hb5 hq4'
  have hx5 := keepB hb5 hx4
  have ht5 := (ht4'.below' hb5).below' (Below.refl _ _).drew
  have hT5 := h.below' hB5.drew
  have hB5d := hB5.drew
  clear hq0 hq1 hq2 hq3 hq4 hq4' hx4 hcd hcd' hb0 hb1 hb2 hb3 hb4 hb4' hb5 ht2 ht4 ht4' hB1 hB2 hB3 hB4 hB4'
  go_wp2
  go_region_held3 (fun w' => w'.cell? ⟨w.heap.size, 0, none⟩ = some (.slice a n c) ∧ w'.cell? ⟨w4.heap.size, 0, none⟩ = some (.slice (some ⟨g4, 0, none⟩) n n)) (first | (simp [go_sem, *]; done) | assumption)
    (first
      | (go_at_call 13; refine (toPlan_any a b o n c ts _ hT5 hs).mono ?_; rintro e w6 ⟨g6, xs6, rfl, _, _, ht6, hb6⟩; have hq6 := keepC hb6 hq5; have hx6 := keepC hb6 hx5; have hB6 := hB5d.trans (hb6.mono hB5d.size); have ht56 := ht5.below' hb6)
      | (go_at_call 15; refine (eqPlan_any _ _ g4 0 n n g6 0 n ts _ ht56 ht6).mono ?_; rintro e w7 ⟨rfl, hb7⟩; have hq7 := keepB hb7 hq6; have hx7 := keepB hb7 hx6; have hB7 := hB6.trans (hb7.mono hB6.size)))
  go_wp2
  go_ret
  exact ⟨rfl, hB7⟩

set_option maxRecDepth 100000 in
theorem fnExactCheckPlan_lifted (os : Os) (started : os.Started) (H : Type) (enc : TypeId × Value → H) :
    ReturnsInHanded {} Try.checked os 4 .any (Rows.fnExactCheckPlanSpec.pre6 enc Try.prog Try.f4 Rows.fnExactCheckPlanRow.domain false) (Rows.fnExactCheckPlanSpec.post enc Try.prog Try.f4 false true false false) := by
  refine returnsInHanded_of_change (C := Try.checked) Try.own started (by kernel_rfl) Try.func4
    (ChangeSpec.witness6 (enc := enc) (C := Try.checked) false ⟨#[], #[.agg #[.slice none 0 0]], []⟩ 8 (by kernel_rfl) (by kernel_rfl) (by kernel_rfl) (by kernel_rfl)) ?_
  intro W base args ds gs before hval0 hW hcnd _
  have hval : ∀ (j : Nat) t v, Try.f4.params[j]? = some t → args[j]? = some v → Value.okWide Try.prog W .any base t v := hval0
  have hW' := hW
  obtain ⟨p, q, hA0, hV, rfl, hfz, hnd⟩ := hW
  have hA : DataW.TrodAll enc Try.prog W 0 (fun _ => true) true Try.f4.params.toList args.toList ds p := hA0
  rw [Try.params4] at hA hval
  obtain ⟨v0, vs0, d0, ds0, p0, q0, hargs, rfl, rfl, h0, r0⟩ := trodAll_cons hA
  obtain ⟨rfl, rfl, rfl⟩ := trodAll_nil r0
  obtain rfl : args = #[v0] := by cases args; simp_all
  obtain ⟨rfl, rfl⟩ := trodVars_none hV
  have k0 := h0
  have lt0 : ∀ x ∈ p0, x.block < W.heap.size := by obtain ⟨m, hm⟩ := k0; exact DataW.trod_lt m _ _ _ hm
  obtain ⟨fuel, hf⟩ := h0
  obtain ⟨a, b, o, n, c, ts, rfl, hat⟩ := planAt_of (okWide_struct Try.underlying30 (hval 0 30 v0 rfl rfl)) hf
  clear hA0 hval0
  refine (fnExactCheckPlan_walk a b o n c ts W hat).mono fun e W' ⟨he, bel⟩ => ?_
  subst he
  exact ⟨_, rfl, _, _, _, [], _, [], hW', trodAll_mk1 (shut_bool Try.underlying4 _), (trodAll_cons_mk (Below.trod Try.laidOut (by kernel_rfl) (of_decide_eq_true (by kernel_rfl)) k0 bel lt0) trodAll_mk0), rfl, bel.frame _, fun h => by cases h⟩

theorem fnExactCheckPlan_holds : Rows.FnExactCheckPlanSaid :=
  OpenClaim.holds_of_wide 4 Try.f4 rfl rfl rfl rfl rfl rfl rfl ⟨rfl, rfl, rfl, rfl, rfl⟩ rfl rfl rfl rfl rfl (by kernel_rfl) Try.func4 (by kernel_rfl)
    (of_decide_eq_true (by kernel_rfl)) (by unfold Func.isWrapper; first | (rw [if_pos (by decide +kernel)]; kernel_rfl) | (rw [if_neg (by decide +kernel)]; exact ⟨rfl, rfl⟩))
    (fun os started H enc _ => fnExactCheckPlan_lifted os started H enc)
#print axioms fnExactCheckPlan_holds
end Go.Proofs.Ytppfbgebponljaa
