import Derived.Test.YtlpmcjlcmjlbeaaQTk3
namespace Go.Proofs.Ytlpmcjlcmjlbeaa
open Go.RowKit
theorem pauseB_0 (w : World) : Calls Try.prog 94 #[.agg #[]] w fun e w' => e = .returned (.int .i64 3) ∧ Below w.heap.size w w' :=
  (pause_0 w).mono fun _ _ ⟨he, hw⟩ => ⟨he, by rw [hw]; exact (Below.refl _ _).alloc (Nat.le_refl _) _⟩
theorem pauseB_1 (le ta co lf : Int) (v : Value) (w : World) : Calls Try.prog 98 #[.agg #[.int .i64 le, .int .i64 ta, .int .i64 co, .int .i64 lf, v]] w fun e w' => e = .returned (.int .i64 4) ∧ Below w.heap.size w w' :=
  (pause_1 le ta co lf v w).mono fun _ _ ⟨he, hw⟩ => ⟨he, by rw [hw]; exact (Below.refl _ _).alloc (Nat.le_refl _) _⟩
theorem pauseB_2 (le ta : Int) (x : ByteArray) (w : World) : Calls Try.prog 102 #[.agg #[.int .i64 le, .int .i64 ta, .string x]] w fun e w' => e = .returned (.int .i64 4) ∧ Below w.heap.size w w' :=
  (pause_2 le ta x w).mono fun _ _ ⟨he, hw⟩ => ⟨he, by rw [hw]; exact (Below.refl _ _).alloc (Nat.le_refl _) _⟩
theorem hTakeN {P : Program} {md : Region.Mode} {ops : Array Oper} {Q : Exit → Act → World → Prop} {S : World → Prop} {i : Nat} {oi : Oper} {d : Option Nat} {fuel : Nat} {l l' : Array Bool} {a : Act} {w : World} (hi : ops[i]? = some oi) (hd : oi.dst = d) (hs : Region.noSelect ops = true) (hf : Region.free md ops l i = true) (hr : (Region.ready md ops l).contains i = true)
    (hQ : ∀ c a w, Q (.panic c) (a.put oi.dst undef) w → Q (.panic c) a w) (hw : Region.wanted oi (yielded ops a.tmps) = false) (hS : S w)
    (hl : l.setIfInBounds i true = l') (h : wpAnyH P md ops Q S fuel l' (a.put d undef) w) : wpAnyH P md ops Q S (fuel + 1) l a w := by
  subst hl; subst hd
  exact wpAnyH_take hi hs hf hr hQ (Or.inr ⟨hw, rfl⟩) hS h
end Go.Proofs.Ytlpmcjlcmjlbeaa
