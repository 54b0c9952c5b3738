
/-
  laws.markIntS, markTaskS, markPlan; THE ROW of FnExactTruth, proved.
-/
import Derived.Test.YtppfbgebponljaaMark
import Derived.Test.YtppfbgebponljaaTru2
import Derived.Test.YtppfbgebponljaaMid
import Derived.Test.YtppfbgebponljaaRowPlan
namespace Go.Proofs.Ytppfbgebponljaa
open Go.ChangeShapes Go.WideShapes Go.ChangeAt Go.RowKit
open Go.ChangeMaps (open_string shut_string)

theorem TruS.sizes {ts : List TaskD} {ss : List ByteArray} (h : TruS ts ss) : ss.length ≤ 40 ∧ ∀ s ∈ ss, s.size ≤ maxLen := by
  rcases h with ⟨hc, rfl⟩ | ⟨_, rfl⟩
  · obtain ⟨hl, _, _, hd⟩ := code0 hc
    refine ⟨by rw [trs_length]; exact hl.2, fun s hs => ?_⟩
    obtain ⟨j, hj, rfl⟩ := List.mem_iff_getElem.1 hs
    rw [trs_length] at hj
    have := trs_get ts hj
    simp only [List.getD, List.getElem?_eq_getElem (show j < (trs ts ts.length).length by rw [trs_length]; exact hj), Option.getD_some] at this
    rw [this, tv_size hd hj]; unfold maxLen; omega
  · exact ⟨by simp, by simp⟩

set_option maxHeartbeats 4000000 in
theorem fnExactTruth_walk (a : Option Addr) (b o n c : Nat) (ts : List TaskD) (w : World) (h : TasksAt w a b o n ts) :
    Calls Try.prog 5 #[.agg #[.slice a n c]] w fun e w' => e = .returned (.bool true) ∧ Below w.heap.size w w' := by
  have hb0 : Below w.heap.size w (w.alloc (.cells #[.slice a n c] 30)) := (Below.refl _ _).alloc (Nat.le_refl _) _
  have hq0 : (w.alloc (.cells #[.slice a n c] 30)).cell? ⟨w.heap.size, 0, none⟩ = some (.slice a n c) := by simp
  have HL : Hid (ts.length = n) := h.len
  go_enter Try.func5, Try.ntmps5
  go_wp2_with fail
  refine (szPlan_any a b o n c ts 1048576 _ (by omega) (by omega) (h.below' hb0)).mono ?_
  rintro e w1 ⟨⟨r, rfl, hr⟩, hb1⟩
  have hB1 := hb0.trans (hb1.mono hb0.size)
  have hq1 := keepB hb1 hq0
  rcases hr with rfl | ⟨hr, hr0⟩
  · go_wp2
    go_ret
    exact ⟨rfl, hB1⟩
  have hs : n + tssz ts ≤ 1048576 := by omega
  clear hr
  go_wp2_with fail
  refine (toPlan_any a b o n c ts _ (h.below' hB1) hs).mono ?_
  rintro e w2 ⟨g2, xs2, rfl, _, _, ht2, hb2⟩
  have hB2 := hB1.trans (hb2.mono hB1.size)
  have hq2 := keepB hb2 hq1
  go_wp2_with fail
  refine (specTruth_any _ g2 0 n n ts _ ht2).mono ?_
  rintro e w3 ⟨⟨vs, ms, ss, rfl, htru, hsp⟩, hb3⟩
  have hB3 := hB2.trans (hb3.mono hB2.size)
  have hq3 := keepB hb3 hq2
  obtain ⟨hm40, hszs⟩ := htru.sizes
  have hml : ss.length = ms := by have := hsp.len; simpa using this
  obtain ⟨az, cs, rfl, _⟩ := hsp.shape
  obtain ⟨bs, os, hss⟩ := StrsAt.ofOwn' hsp hszs
  go_wp2_with fail
  refine (toPlan_any a b o n c ts _ (h.below' hB3) hs).mono ?_
  rintro e w4 ⟨g4, xs4, rfl, ho4, hbu4, ht4, hb4⟩
  have hB4 := hB3.trans (hb4.mono hB3.size)
  have hq4 := keepB hb4 hq3
  have hsh4 := hbu4.shape ho4 HL.out (by omega)
  have hg4lo := ho4.lo
  have hg4hi := ho4.hi
  have hss4 := hss.below' hb4
  have hb4' : Below w4.heap.size w4 (w4.alloc (.cells #[.slice (some ⟨g4, 0, none⟩) n n] 35)) := (Below.refl _ _).alloc (Nat.le_refl _) _
  have hB4' := hB4.trans (hb4'.mono hB4.size)
  have hq4' := keepB hb4' hq4
  have hx4 : (w4.alloc (.cells #[.slice (some ⟨g4, 0, none⟩) n n] 35)).cell? ⟨w4.heap.size, 0, none⟩ = some (.slice (some ⟨g4, 0, none⟩) n n) := by simp
  have ht4' := ht4.below' hb4'
  have hsh4' := hsh4.below hb4'
  have hss4' := hss4.below' hb4'
  have hslt := hss.lt
  go_wp2_with fail
  refine (implTruth_any _ g4 0 n n ts _ ht4').mono ?_
  rintro e w5 ⟨⟨vg, mg, sg, rfl, htru5, hgo⟩, hb5⟩
  obtain rfl : sg = ss := htru5.one htru
  have hmg : mg = ms := by have := hgo.len; simp at this; omega
  subst hmg
  have hB5 := hB4'.trans (hb5.mono hB4'.size)
  have hq5 := keepB hb5 hq4'
  have hx5 := keepB hb5 hx4
  have ht5 := ht4'.below' hb5
  have hsh5 := hsh4'.below hb5
  have hss5 := hss4'.below' hb5
  obtain ⟨ag, cg, rfl, _⟩ := hgo.shape
  obtain ⟨bg, og, hgs5⟩ := StrsAt.ofOwn' hgo hszs
  go_wp2_with fail
  refine (eqStringS_any _ _ bg og mg cg bs os cs sg _ hgs5 hss5).mono ?_
  rintro e w6 ⟨rfl, hb6⟩
  have hB6 := hB5.trans (hb6.mono hB5.size)
  have hq6 := keepB hb6 hq5
  have hx6 := keepB hb6 hx5
  have ht6 := (ht5.below' hb6).below' (Below.refl _ _).drew
  have hT6 := h.below' hB6.drew
  have hB6d := hB6.drew
  have hsh6 := hsh5.below hb6
  have hss6 := hss5.below' hb6
  have hgs6 := hgs5.below' hb6
  have hgo6 := hgo.below hb6 (Nat.le_refl _)
  simp only [World.size_alloc] at hgo6
  have hgw : w.heap.size < g4 := by have := World.block_lt_of_cell? _ _ hq3; simp at this; omega
  clear hq0 hq1 hq2 hq3 hq4 hq4' hx4 hb0 hb1 hb2 hb3 hb4 hb4' hb5 hb6 ht2 ht4 ht4' ht5 hB1 hB2 hB3 hB4 hB4' hB5 hss hss4 hss4' hss5 hsh4 hsh4' hsh5 hgs5 hgo hsp hbu4 ho4 hx5 hq5
  go_wp2
  go_region_held3 (fun w' => w'.cell? ⟨w.heap.size, 0, none⟩ = some (.slice a n c) ∧ w'.cell? ⟨w4.heap.size, 0, none⟩ = some (.slice (some ⟨g4, 0, none⟩) n n)) (first | (simp [go_sem, *]; done) | assumption)
    (first
      | (go_at_call 13; refine (toPlan_any a b o n c ts _ hT6 hs).mono ?_; rintro e w7 ⟨g7, xs7, rfl, _, _, ht7, hb7⟩; have hq7 := keepC hb7 hq6; have hx7 := keepC hb7 hx6; have hB7 := hB6d.trans (hb7.mono hB6d.size); have ht67 := ht6.below' hb7)
      | (go_at_call 15; refine (eqPlan_any _ _ g4 0 n n g7 0 n ts _ ht67 ht7).mono ?_; rintro e w8 ⟨rfl, hb8⟩; have hq8 := keepB hb8 hq7; have hx8 := keepB hb8 hx7; have hB8 := hB7.trans (hb8.mono hB7.size)))
  have hb68 : Below w6.heap.size w6 w8 := ((Below.refl _ _).drew.trans hb7).trans (hb8.mono hb7.size)
  have hsh8 := hsh6.below hb68
  have hss8 := hss6.below' hb68
  have hgo8 := hgo6.below hb68 (Nat.le_refl _)
  clear hsh6 hss6 hgo6 hgs6 hq6 hx6 hq7 hx7 hB6 hB6d hB7 ht6 hT6 ht7 ht67 hb7 hb8 hb68
  go_wp2_with fail
  refine (markPlan_any g4 w4.heap.size n n 1 _ (by omega) (by omega) (by omega) hg4hi hsh8).mono ?_
  rintro e w9 ⟨⟨rk, rfl, hrk⟩, hM9⟩
  have hq9 := keepM hM9 hq8 (.inl hgw)
  have hB9 := Mid.below hB8 hM9 (by omega) hB8.size
  have hss9 := hss8.mid hM9 (fun hp => .inl (by have := hslt hp; omega))
  have hgo9 := hgo8.mid hM9 (by omega)
  obtain ⟨b9, o9, hgs9⟩ := StrsAt.ofOwn' hgo9 hszs
  clear hsh8 hss8 hgo8 hq8 hx8 hB8 hM9
  have hrk' : ¬ rk < 0 := by omega
  go_wp2_with fail
  refine (eqStringS_any _ _ b9 o9 mg cg bs os cs sg _ hgs9 hss9).mono ?_
  rintro e w10 ⟨rfl, hb10⟩
  have hq10 := keepB hb10 hq9
  have hB10 := hB9.trans (hb10.mono hB9.size)
  have hss10 := hss9.below' hb10
  have hgo10 := hgo9.below hb10 (Nat.le_refl _)
  clear hss9 hgo9 hgs9 hq9 hB9 hb10
  go_wp2_with fail
  have hct := markStringS_own ag mg cg 1 _ _ w10 (by omega) (by omega) (by omega) hgo10
  rw [show ((1 : Nat) : Int) = 1 from rfl] at hct
  refine hct.mono ?_
  clear hct
  rintro e w11 ⟨rfl, hgo11, hsz11, hb11⟩
  have hq11 : w11.cell? ⟨w.heap.size, 0, none⟩ = some (.slice a n c) := (hb11.cell (p := ⟨w.heap.size, 0, none⟩) (by show w.heap.size < w4.heap.size + 1; omega)).trans hq10
  have hB11 : Below w.heap.size w w11 := hB10.trans (hb11.mono (by omega))
  have hss11 := hss10.below hb11 (fun hp => by have := hslt hp; omega)
  obtain ⟨b11, o11, hgs11⟩ := StrsAt.ofOwn' hgo11 (mks_sizes mg (by omega))
  clear hss10 hgo10 hq10 hB10 hb11
  have hmg0 : (mg : Int) ≤ 40 := by omega
  have hheld : ∀ (w' : World), StrsAt w' ag b11 o11 mg (mks 1 mg) → Calls Try.prog 20 #[.slice ag mg cg, .int .i64 1] w' fun e w'' => e = .returned (.int .i64 (1 + (mg : Int))) ∧ Below w'.heap.size w' w'' := fun w' hw' => heldStringS_any ag b11 o11 mg cg 1 w' (by omega) (by omega) (by omega) hw'
  have HH : Hid _ := hheld
  clear hheld
  go_wp2_with fail
  refine (HH.out _ hgs11).mono ?_
  rintro e w12 ⟨rfl, hb12⟩
  have hq12 := keepB hb12 hq11
  have hB12 := hB11.trans (hb12.mono hB11.size)
  have hss12 := hss11.below' hb12
  have hgs12 := hgs11.below' hb12
  clear hss11 hgs11 hq11 hB11 hb12 hgo11
  go_wp2_with fail
  refine (toPlan_any a b o n c ts _ (h.below' hB12) hs).mono ?_
  rintro e w13 ⟨g13, xs13, rfl, _, _, ht13, hb13⟩
  have hB13 := hB12.trans (hb13.mono hB12.size)
  have hss13 := hss12.below' hb13
  have hgs13 := hgs12.below' hb13
  clear hss12 hgs12 hq12 hB12 hb13
  go_wp2_with fail
  refine (implTruth_any _ g13 0 n n ts _ ht13).mono ?_
  rintro e w14 ⟨⟨vh, mh, sh, rfl, htruh, hho⟩, hb14⟩
  obtain rfl : sh = sg := htruh.one htru
  have hmh : mh = mg := by have := hho.len; simp at this; omega
  subst hmh
  have hB14 := hB13.trans (hb14.mono hB13.size)
  have hss14 := hss13.below' hb14
  have hgs14 := hgs13.below' hb14
  obtain ⟨ah, ch, rfl, _⟩ := hho.shape
  obtain ⟨bh, oh, hhs14⟩ := StrsAt.ofOwn' hho hszs
  clear hss13 hgs13 hB13 hb14 ht13 hho
  go_wp2_with fail
  refine (eqStringS_any _ _ bh oh mh ch bs os cs sh _ hhs14 hss14).mono ?_
  rintro e w15 ⟨rfl, hb15⟩
  have hB15 := hB14.trans (hb15.mono hB14.size)
  have hgs15 := hgs14.below' hb15
  clear hss14 hgs14 hhs14 hB14 hb15
  go_wp2_with fail
  refine (HH.out _ hgs15).mono ?_
  rintro e w16 ⟨rfl, hb16⟩
  have hB16 := hB15.trans (hb16.mono hB15.size)
  go_wp2
  go_ret
  exact ⟨rfl, hB16⟩

set_option maxRecDepth 100000 in
theorem fnExactTruth_lifted (os : Os) (started : os.Started) (H : Type) (enc : TypeId × Value → H) :
    ReturnsInHanded {} Try.checked os 5 .any (Rows.fnExactTruthSpec.pre6 enc Try.prog Try.f5 Rows.fnExactTruthRow.domain false) (Rows.fnExactTruthSpec.post enc Try.prog Try.f5 false true false false) := by
  refine returnsInHanded_of_change (C := Try.checked) Try.own started (by kernel_rfl) Try.func5
    (ChangeSpec.witness6 (enc := enc) (C := Try.checked) false ⟨#[], #[.agg #[.slice none 0 0]], []⟩ 8 (by kernel_rfl) (by kernel_rfl) (by kernel_rfl) (by kernel_rfl)) ?_
  intro W base args ds gs before hval0 hW hcnd _
  have hval : ∀ (j : Nat) t v, Try.f5.params[j]? = some t → args[j]? = some v → Value.okWide Try.prog W .any base t v := hval0
  have hW' := hW
  obtain ⟨p, q, hA0, hV, rfl, hfz, hnd⟩ := hW
  have hA : DataW.TrodAll enc Try.prog W 0 (fun _ => true) true Try.f5.params.toList args.toList ds p := hA0
  rw [Try.params5] at hA hval
  obtain ⟨v0, vs0, d0, ds0, p0, q0, hargs, rfl, rfl, h0, r0⟩ := trodAll_cons hA
  obtain ⟨rfl, rfl, rfl⟩ := trodAll_nil r0
  obtain rfl : args = #[v0] := by cases args; simp_all
  obtain ⟨rfl, rfl⟩ := trodVars_none hV
  have k0 := h0
  have lt0 : ∀ x ∈ p0, x.block < W.heap.size := by obtain ⟨m, hm⟩ := k0; exact DataW.trod_lt m _ _ _ hm
  obtain ⟨fuel, hf⟩ := h0
  obtain ⟨a, b, o, n, c, ts, rfl, hat⟩ := planAt_of (okWide_struct Try.underlying30 (hval 0 30 v0 rfl rfl)) hf
  clear hA0 hval0
  refine (fnExactTruth_walk a b o n c ts W hat).mono fun e W' ⟨he, bel⟩ => ?_
  subst he
  exact ⟨_, rfl, _, _, _, [], _, [], hW', trodAll_mk1 (shut_bool Try.underlying4 _), (trodAll_cons_mk (Below.trod Try.laidOut (by kernel_rfl) (of_decide_eq_true (by kernel_rfl)) k0 bel lt0) trodAll_mk0), rfl, bel.frame _, fun h => by cases h⟩

theorem fnExactTruth_holds : Rows.FnExactTruthSaid :=
  OpenClaim.holds_of_wide 5 Try.f5 rfl rfl rfl rfl rfl rfl rfl ⟨rfl, rfl, rfl, rfl, rfl⟩ rfl rfl rfl rfl rfl (by kernel_rfl) Try.func5 (by kernel_rfl)
    (of_decide_eq_true (by kernel_rfl)) (by unfold Func.isWrapper; first | (rw [if_pos (by decide +kernel)]; kernel_rfl) | (rw [if_neg (by decide +kernel)]; exact ⟨rfl, rfl⟩))
    (fun os started H enc _ => fnExactTruth_lifted os started H enc)
#print axioms fnExactTruth_holds
end Go.Proofs.Ytppfbgebponljaa
