
/-
  THE CARD of FnExactForged, proved.
-/
import Derived.Test.YtlgmkmegkojgbaaDoorNfg
import Derived.Test.YtlgmkmegkojgbaaDoorRowRead
namespace Go.Proofs.YtlgmkmegkojgbaaDoor
open Go.ChangeShapes Go.WideShapes Go.ChangeAt Go.RowKit
open Go.ChangeMaps (open_string shut_string)

set_option maxRecDepth 100000 in
/-- A parcel that came in. -/
theorem parcelAt_of {H : Type} {enc : TypeId × Value → H} {W : World} {base fuel : Nat} {v : Value} {x : DataW H × List MemPlace}
    (hv : ∃ cs, v = .agg cs ∧ cs.size = Tryd.prog.cellsOf 42) (hf : DataW.trod enc Tryd.prog W base (fun _ => true) true fuel 42 v.cells.toList = some x) :
    ∃ (z0 : Int) (z1 z2 : ByteArray), v = .agg #[.int .i64 z0, .string z1, .string z2] ∧ z1.size ≤ maxLen ∧ z2.size ≤ maxLen := by
  obtain ⟨cs, rfl, hcs⟩ := hv
  have hC : Tryd.prog.cellsOf 42 = 3 := by kernel_rfl
  rw [hC] at hcs
  obtain ⟨l⟩ := cs
  obtain ⟨xs, m, _, ex, hlen, hl, hel⟩ := DataW.trod_struct Tryd.underlying42 hf
  match l, hcs with
  | [c0, c1, c2], _ =>
    match xs, hl with
    | [x0, x1, x2], _ =>
      have ki : Tryd.prog.cellsOf 3 = 1 := by kernel_rfl
      have ks : Tryd.prog.cellsOf 9 = 1 := by kernel_rfl
      have k0 : DataW.trod enc Tryd.prog W base (fun _ => true) true m 3 (([c0, c1, c2].drop 0).take (Tryd.prog.cellsOf 3)) = some x0 := hel 0 _ rfl
      have k1 : DataW.trod enc Tryd.prog W base (fun _ => true) true m 9 (([c0, c1, c2].drop 1).take (Tryd.prog.cellsOf 9)) = some x1 := hel 1 _ rfl
      have k2 : DataW.trod enc Tryd.prog W base (fun _ => true) true m 9 (([c0, c1, c2].drop 2).take (Tryd.prog.cellsOf 9)) = some x2 := hel 2 _ rfl
      rw [ki] at k0
      rw [ks] at k1 k2
      obtain ⟨z0, a0, _, _⟩ := DataW.trod_int Tryd.underlying3 k0
      obtain ⟨z1, a1, _, g1⟩ := DataW.trod_string Tryd.underlying9 k1
      obtain ⟨z2, a2, _, g2⟩ := DataW.trod_string Tryd.underlying9 k2
      simp only [List.drop_zero, List.drop_succ_cons, List.take_succ_cons, List.take_zero, List.cons.injEq, and_true] at a0 a1 a2
      subst a0 a1 a2
      exact ⟨z0, z1, z2, rfl, g1, g2⟩

namespace FForged
theorem laid_met (os : Os) : laidMetH Tryd.prog Rows.fnExactForgedRow.laid ((laidWorld2 os).forCall (fun _ _ => 0) ⟨#[], #[.agg #[.int .i64 0, .string ⟨#[]⟩, .string ⟨#[]⟩], .string ⟨#[]⟩], []⟩).memory :=
  laidMetH_of_parts (laidMet_of_run' 8 (by kernel_rfl) (by kernel_rfl)) (by kernel_rfl)
def wds {H : Type} : List (DataW H) := [.agg [.lit (.int .i64 0), .lit (.string []), .lit (.string [])], .lit (.string [])]
def wgs {H : Type} : List (DataW H) := [Rows.laid_loop_example_kilncrew_impl_usages]
theorem reads (os : Os) {H : Type} (enc : TypeId × Value → H) : ∃ places, DataW.whole enc Tryd.prog ((laidWorld2 os).forCall (fun _ _ => 0) ⟨#[], #[.agg #[.int .i64 0, .string ⟨#[]⟩, .string ⟨#[]⟩], .string ⟨#[]⟩], []⟩).memory Tryd.f6.params.toList Rows.fnExactForgedSpec.vars false #[Value.agg #[.int .i64 0, .string ⟨#[]⟩, .string ⟨#[]⟩], .string ⟨#[]⟩].toList 8 = some (wds, wgs, places) := by
  have h : (DataW.whole enc Tryd.prog ((laidWorld2 os).forCall (fun _ _ => 0) ⟨#[], #[.agg #[.int .i64 0, .string ⟨#[]⟩, .string ⟨#[]⟩], .string ⟨#[]⟩], []⟩).memory Tryd.f6.params.toList Rows.fnExactForgedSpec.vars false #[Value.agg #[.int .i64 0, .string ⟨#[]⟩, .string ⟨#[]⟩], .string ⟨#[]⟩].toList 8).map (fun x => (x.1, x.2.1)) = some (wds, wgs) := by kernel_rfl
  obtain ⟨⟨ds, gs, places⟩, hx, hy⟩ := Option.map_eq_some_iff.1 h
  simp only [Prod.mk.injEq] at hy
  obtain ⟨rfl, rfl⟩ := hy
  exact ⟨places, hx⟩

set_option maxRecDepth 100000 in
theorem contract (H : Type) (enc : TypeId × Value → H) (W : World) (base : Nat) (args : Array Value) (ds gs : List (DataW H)) (before : List MemPlace)
    (hval : ∀ (j : Nat) t v, Tryd.f6.params[j]? = some t → args[j]? = some v → Value.okWide Tryd.prog W .any base t v)
    (hW : DataW.Whole enc Tryd.prog Tryd.f6.params.toList Rows.fnExactForgedSpec.vars false W args.toList ds gs before) (hL : laidMetH Tryd.prog Rows.fnExactForgedRow.laid W) :
    Calls Tryd.prog 6 args W fun e W' => ∃ v, e = .returned v ∧ Rows.fnExactForgedSpec.post enc Tryd.prog Tryd.f6 false true false false W args v W' := by
  have hL' : laidMet Tryd.prog [("loop.example/kilncrew/impl.usages", Rows.laid_loop_example_kilncrew_impl_usages)] W ∧ handlesMet Tryd.prog [("errors.errorType", Rows.laid_errors_errorType)] W := hL
  have hT : Tab W := tab_of hL'.1 (List.mem_cons_self ..)
  have hE : ErrT W := err_of hL'.2 (List.mem_cons_self ..)
  have hW' := hW
  obtain ⟨p, q, hA0, hV, rfl, hfz, hnd⟩ := hW
  have hA : DataW.TrodAll enc Tryd.prog W 0 (fun _ => true) true Tryd.f6.params.toList args.toList ds p := hA0
  rw [Tryd.params6] at hA hval
  obtain ⟨v0, vs0, d0, ds0, p0, q0, hargs, rfl, rfl, h0, r0⟩ := trodAll_cons hA
  obtain ⟨v1, vs1, d1, ds1, p1, q1, rfl, rfl, rfl, h1, r1⟩ := trodAll_cons r0
  obtain ⟨rfl, rfl, rfl⟩ := trodAll_nil r1
  obtain rfl : args = #[v0, v1] := by cases args; simp_all
  have hV0 := hV
  obtain ⟨_, _, _, _, dv, _, rfl, _⟩ := trodVars_one hV
  have k0 := h0
  have lt0 : ∀ x ∈ p0, x.block < W.heap.size := by obtain ⟨m, hm⟩ := k0; exact DataW.trod_lt m _ _ _ hm
  obtain ⟨fuel, hf⟩ := h0
  obtain ⟨z0, z1, z2, rfl, g1, g2⟩ := parcelAt_of (okWide_struct Tryd.underlying42 (hval 0 42 v0 rfl rfl)) hf
  obtain ⟨s1, rfl, rfl, rfl, hs1⟩ := open_string Tryd.underlying9 (hval 1 9 v1 rfl rfl) h1
  clear hA0
  refine (fnExactForged_walk z0 z1 z2 s1 W hT hE g1 g2 hs1).mono fun e' W' ⟨he, bel⟩ => ?_
  subst he
  exact ⟨_, rfl, _, _, _, [], _, _, hW', trodAll_mk1 (shut_bool Tryd.underlying4 _), (trodAll_cons_mk (Below.trod Tryd.laidOut (by kernel_rfl) (of_decide_eq_true (by kernel_rfl)) k0 bel lt0) (trodAll_cons_mk (shut_string Tryd.underlying9 hs1) trodAll_mk0)), bel.trodVars Tryd.laidOut (by kernel_rfl) hV0, bel.frame _, fun h => by cases h⟩

set_option maxRecDepth 100000 in
theorem lifted (os : Os) (started : os.Started) (H : Type) (enc : TypeId × Value → H) (F : Stop.Interp) :
    ReturnsInHanded {} Tryd.checked os 6 .any ((OpenSpec.ofChange Rows.fnExactForgedSpec).preRow enc Tryd.prog Tryd.f6 Rows.fnExactForgedRow.domain false Rows.fnExactForgedRow.laid) (((OpenSpec.ofChange Rows.fnExactForgedSpec).at F).post enc Tryd.prog Tryd.f6 false true false false) := by
  obtain ⟨places, hx⟩ := reads os enc
  refine returnsInHanded_of_row (C := Tryd.checked) (s := OpenSpec.ofChange Rows.fnExactForgedSpec) Tryd.own started (by kernel_rfl) Tryd.func6
    (witness_row_at (enc := enc) (C := Tryd.checked) false (laidWorld2 os) #[.agg #[.int .i64 0, .string ⟨#[]⟩, .string ⟨#[]⟩], .string ⟨#[]⟩] rfl (by kernel_rfl) (by kernel_rfl) (by kernel_rfl)
      (OpenSpec.preRow_of_cond 8 hx (by kernel_rfl) (fun k hk => by cases hk) (by kernel_rfl) (laid_met os))) ?_
  intro W base args ds gs before hval hW _ _ _ hL _ _
  exact contract H enc W base args ds gs before hval hW hL

theorem said : Rows.FnExactForgedSaid :=
  OpenClaim.holds_of_cond 6 Tryd.f6 rfl rfl rfl rfl rfl rfl rfl ⟨rfl, rfl, rfl, rfl, rfl⟩ rfl rfl rfl rfl rfl (by kernel_rfl) Tryd.func6 (by kernel_rfl)
    (of_decide_eq_true (by kernel_rfl)) (by unfold Func.isWrapper; first | (rw [if_pos (by decide +kernel)]; kernel_rfl) | (rw [if_neg (by decide +kernel)]; exact ⟨rfl, rfl⟩))
    (fun os started H enc _ F => by rw [OpenClaim.pre_eq_preRow]; exact lifted os started H enc F)

theorem plain (f : FuncId) (fn : Func) (hf : Tryd.pinned.checked.prog.funcNamed "loop.example/kilncrew/laws.FnExactForged" = some f) (hfn : Tryd.pinned.checked.prog.funcs[f]? = some fn) :
    true = Tryd.pinned.checked.prog.looks [] ∧ ∀ (j : Nat) t, fn.params[j]? = some t → Tryd.pinned.checked.prog.wantsStandIn t = false := by
  obtain rfl : f = 6 := Option.some.inj ((show Tryd.prog.funcNamed "loop.example/kilncrew/laws.FnExactForged" = some 6 by kernel_rfl).symm.trans hf) |>.symm
  obtain rfl : fn = Tryd.f6 := (Option.some.inj (Tryd.func6.symm.trans hfn)).symm
  refine ⟨by kernel_rfl, fun j t ht => ?_⟩
  rw [Tryd.params6] at ht
  have hm : t ∈ [42, 9] := by simpa using Array.mem_of_getElem? ht
  have hall : ([42, 9].all fun u => !Tryd.prog.wantsStandIn u) = true := by kernel_rfl
  exact (show Tryd.prog.wantsStandIn t = false by simpa using List.all_eq_true.1 hall t hm)
end FForged

/-- THE CARD. -/
theorem fnExactForged_card : Rows.FnExactForgedCardSaid :=
  Claim7.holds_tied_plain_at .later [] _ _ _ _ FForged.said (fun _ h => by cases h) (by kernel_rfl) (fun _ h => by cases h) fnExactForged_row_tie rfl ⟨rfl, rfl⟩ (by kernel_rfl) rfl FForged.plain (by kernel_rfl)
#print axioms fnExactForged_card
end Go.Proofs.YtlgmkmegkojgbaaDoor
