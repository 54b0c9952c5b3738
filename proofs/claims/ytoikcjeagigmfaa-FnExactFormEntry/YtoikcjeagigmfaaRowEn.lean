
/-
  THE ROW of FnExactFormEntry, proved.
-/
import Derived.Test.YtoikcjeagigmfaaLawEn
import Derived.ProofKit
import Derived.OpenShut
import Derived.ShutString
import Derived.ChangeOld
import Derived.SliceStrings
namespace Go.Proofs.Ytoikcjeagigmfaa
open Go.ChangeShapes Go.WideShapes Go.ChangeAt Go.RowKit
open Go.ChangeMaps (open_string shut_string)

theorem Try.own : ownKnob Try.prog.godebug = none := by kernel_rfl
theorem Try.laidOut : laidOutB Try.prog = true := by kernel_rfl

set_option maxRecDepth 100000 in
/-- An entry that came in. -/
theorem entAt_of {H : Type} {enc : TypeId × Value → H} {W : World} {base fuel : Nat} {v : Value} {x : DataW H × List MemPlace}
    (hv : ∃ cs, v = .agg cs ∧ cs.size = Try.prog.cellsOf 23) (hf : DataW.trod enc Try.prog W base (fun _ => true) true fuel 23 v.cells.toList = some x) :
    ∃ (k e d : Int) (s : ByteArray), v = .agg #[.int .i64 k, .int .i64 e, .int .i64 d, .string s] ∧ s.size ≤ maxLen := by
  obtain ⟨cs, rfl, hcs⟩ := hv
  have hC : Try.prog.cellsOf 23 = 4 := by kernel_rfl
  rw [hC] at hcs
  obtain ⟨l⟩ := cs
  obtain ⟨xs, m, _, ex, hlen, hl, hel⟩ := DataW.trod_struct Try.underlying23 hf
  match l, hcs with
  | [c0, c1, c2, c3], _ =>
    match xs, hl with
    | [x0, x1, x2, x3], _ =>
      have ki : Try.prog.cellsOf 3 = 1 := by kernel_rfl
      have ks : Try.prog.cellsOf 9 = 1 := by kernel_rfl
      have k0 : DataW.trod enc Try.prog W base (fun _ => true) true m 3 (([c0, c1, c2, c3].drop 0).take (Try.prog.cellsOf 3)) = some x0 := hel 0 _ rfl
      have k1 : DataW.trod enc Try.prog W base (fun _ => true) true m 3 (([c0, c1, c2, c3].drop 1).take (Try.prog.cellsOf 3)) = some x1 := hel 1 _ rfl
      have k2 : DataW.trod enc Try.prog W base (fun _ => true) true m 3 (([c0, c1, c2, c3].drop 2).take (Try.prog.cellsOf 3)) = some x2 := hel 2 _ rfl
      have k3 : DataW.trod enc Try.prog W base (fun _ => true) true m 9 (([c0, c1, c2, c3].drop 3).take (Try.prog.cellsOf 9)) = some x3 := hel 3 _ rfl
      rw [ki] at k0 k1 k2
      rw [ks] at k3
      obtain ⟨z0, a0, _, _⟩ := DataW.trod_int Try.underlying3 k0
      obtain ⟨z1, a1, _, _⟩ := DataW.trod_int Try.underlying3 k1
      obtain ⟨z2, a2, _, _⟩ := DataW.trod_int Try.underlying3 k2
      obtain ⟨s, a3, _, hsz⟩ := DataW.trod_string Try.underlying9 k3
      simp only [List.drop_zero, List.drop_succ_cons, List.take_succ_cons, List.take_zero, List.cons.injEq, and_true] at a0 a1 a2 a3
      subst a0 a1 a2 a3
      exact ⟨z0, z1, z2, s, rfl, hsz⟩

set_option maxRecDepth 100000 in
theorem fnExactFormEntry_lifted (os : Os) (started : os.Started) (H : Type) (enc : TypeId × Value → H) :
    ReturnsInHanded {} Try.checked os 3 .any (Rows.fnExactFormEntrySpec.pre6 enc Try.prog Try.f3 Rows.fnExactFormEntryRow.domain false) (Rows.fnExactFormEntrySpec.post enc Try.prog Try.f3 false true false false) := by
  refine returnsInHanded_of_change (C := Try.checked) Try.own started (by kernel_rfl) Try.func3
    (ChangeSpec.witness6 (enc := enc) (C := Try.checked) false ⟨#[], #[.agg #[.int .i64 0, .int .i64 0, .int .i64 0, .string ⟨#[]⟩]], []⟩ 8 (by kernel_rfl) (by kernel_rfl) (by kernel_rfl) (by kernel_rfl)) ?_
  intro W base args ds gs before hval0 hW hcnd _
  have hval : ∀ (j : Nat) t v, Try.f3.params[j]? = some t → args[j]? = some v → Value.okWide Try.prog W .any base t v := hval0
  have hW' := hW
  obtain ⟨p, q, hA0, hV, rfl, hfz, hnd⟩ := hW
  have hA : DataW.TrodAll enc Try.prog W 0 (fun _ => true) true Try.f3.params.toList args.toList ds p := hA0
  rw [Try.params3] at hA hval
  obtain ⟨v0, vs0, d0, ds0, p0, q0, hargs, rfl, rfl, h0, r0⟩ := trodAll_cons hA
  obtain ⟨rfl, rfl, rfl⟩ := trodAll_nil r0
  obtain rfl : args = #[v0] := by cases args; simp_all
  obtain ⟨rfl, rfl⟩ := trodVars_none hV
  have k0 := h0
  have lt0 : ∀ x ∈ p0, x.block < W.heap.size := by obtain ⟨m, hm⟩ := k0; exact DataW.trod_lt m _ _ _ hm
  obtain ⟨fuel, hf⟩ := h0
  obtain ⟨k, e, d, x, rfl, hx⟩ := entAt_of (okWide_struct Try.underlying23 (hval 0 23 v0 rfl rfl)) hf
  clear hA0 hval0
  refine (fnExactFormEntry_walk k e d x W hx).mono fun e' W' ⟨he, bel⟩ => ?_
  subst he
  exact ⟨_, rfl, _, _, _, [], _, [], hW', trodAll_mk1 (shut_bool Try.underlying4 _), (trodAll_cons_mk (Below.trod Try.laidOut (by kernel_rfl) (of_decide_eq_true (by kernel_rfl)) k0 bel lt0) trodAll_mk0), rfl, bel.frame _, fun h => by cases h⟩

theorem fnExactFormEntry_holds : Rows.FnExactFormEntrySaid :=
  OpenClaim.holds_of_wide 3 Try.f3 rfl rfl rfl rfl rfl rfl rfl ⟨rfl, rfl, rfl, rfl, rfl⟩ rfl rfl rfl rfl rfl (by kernel_rfl) Try.func3 (by kernel_rfl)
    (of_decide_eq_true (by kernel_rfl)) (by unfold Func.isWrapper; first | (rw [if_pos (by decide +kernel)]; kernel_rfl) | (rw [if_neg (by decide +kernel)]; exact ⟨rfl, rfl⟩))
    (fun os started H enc _ => fnExactFormEntry_lifted os started H enc)
#print axioms fnExactFormEntry_holds
end Go.Proofs.Ytoikcjeagigmfaa
