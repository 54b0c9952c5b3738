import Derived.Test.YtbfamabkbkpmpaaGreatQBcp
namespace Go.Proofs.YtbfamabkbkpmpaaGreat
open Go.RowKit

theorem run_sl {ρ : Operand → Value} {o : Oper} {w : World} (x y : Operand) (g off n c k : Nat) (hk : k ≤ c) (h : o.op = .slice 22 x none (some y) none) (hx : ρ x = .slice (some ⟨g, off, none⟩) n c) (hy : ρ y = .int .i64 (k : Nat)) : (execOp ρ o).run Tryz.prog w = .ok (.value (.slice (some ⟨g, off, none⟩) k c)) w := by
  unfold execOp
  rw [h]
  have hk' : (k : Int) ≤ (c : Int) := by omega
  simp [go_sem, hx, hy, hk']
theorem run_sl0 {ρ : Operand → Value} {o : Oper} {w : World} (x y : Operand) (h : o.op = .slice 22 x none (some y) none) (hx : ρ x = .slice none 0 0) (hy : ρ y = .int .i64 0) : (execOp ρ o).run Tryz.prog w = .ok (.value (.slice none 0 0)) w := by
  unfold execOp
  rw [h]
  simp [go_sem, hx, hy]
/-- A coordinator whose lists a call owns. -/
structure BossO (w : World) (B : Nat) (d : BD) (h : BH) : Prop where
  o0 : Own B w 1 (.slice h.a1 d.L1.length h.c1) d.L1.length (d.L1.map Value.string)
  o1 : Own B w 1 (.slice h.a2 d.L2.length h.c2) d.L2.length (d.L2.map Value.string)
  o2 : Own B w 1 (.slice h.ar d.R.length h.cr) d.R.length (d.R.map Value.string)
  o3 : Own B w 3 (.slice h.aj d.J.length h.cj) d.J.length (c3 d.J)
  o4 : Own B w 2 (.slice h.az d.S.length h.cs) d.S.length (c2 d.S)
  o5 : Own B w 3 (.slice h.ao d.O.length h.co) d.O.length (c3 d.O)
  dis : List.Pairwise Dj [(Value.slice h.a1 d.L1.length h.c1).ownBlock, (Value.slice h.a2 d.L2.length h.c2).ownBlock, (Value.slice h.ar d.R.length h.cr).ownBlock, (Value.slice h.aj d.J.length h.cj).ownBlock, (Value.slice h.az d.S.length h.cs).ownBlock, (Value.slice h.ao d.O.length h.co).ownBlock]
def RetBs (e : Ending) (B : Nat) (w' : World) (d : BD) : Prop := ∃ h, e = .returned (.agg (bvs d h).toArray) ∧ BossO w' B d h
def keptN (keep : Int) (n : Nat) : Nat := (min (max keep 0) n).toNat
theorem keptN_le (keep : Int) (n : Nat) : keptN keep n ≤ n := by unfold keptN; omega
def fallB (d : BD) (keep : Int) : BD := ⟨d.wk, false, d.now, 0, 0, 0, d.L1 ++ d.L2.take (keptN keep d.L2.length), [], [], [], [], []⟩
def zBD : BD := ⟨0, false, 0, 0, 0, 0, [], [], [], [], [], []⟩
def fallR2 (d : BD) (ts : List TaskD) (keep : Int) (d' : BD) : Prop := d.ok ts ∧ d' = fallB d keep ∨ ¬ d.ok ts ∧ d' = zBD
theorem Dj.none_l (y : Option Nat) : Dj none y := .inl rfl
theorem zBO (w : World) (B : Nat) : BossO w B zBD ⟨none, none, none, none, none, none, 0, 0, 0, 0, 0, 0⟩ := by
  refine ⟨Own.nil _ _ _, Own.nil _ _ _, Own.nil _ _ _, Own.nil _ _ _, Own.nil _ _ _, Own.nil _ _ _, ?_⟩
  simp [Value.ownBlock, Dj.none_l]
theorem oneBO (w : World) (B : Nat) (wk now : Int) (L : List ByteArray) (a : Option Addr) (c : Nat) (ho : Own B w 1 (.slice a L.length c) L.length (L.map Value.string)) : BossO w B ⟨wk, false, now, 0, 0, 0, L, [], [], [], [], []⟩ ⟨a, none, none, none, none, none, c, 0, 0, 0, 0, 0⟩ := by
  refine ⟨ho, Own.nil _ _ _, Own.nil _ _ _, Own.nil _ _ _, Own.nil _ _ _, Own.nil _ _ _, ?_⟩
  simp only [List.pairwise_cons, List.mem_cons, List.not_mem_nil, or_false, forall_eq_or_imp, forall_eq, List.Pairwise.nil, and_true, false_implies, implies_true]
  have h0 : ∀ x, Dj x (Value.slice none 0 0).ownBlock := fun x => by
    cases x with
    | none => exact .inl rfl
    | some q => exact .inr (by simp [Value.ownBlock])
  exact ⟨⟨h0 _, h0 _, h0 _, h0 _, h0 _⟩, ⟨h0 _, h0 _, h0 _, h0 _⟩, ⟨h0 _, h0 _, h0 _⟩, ⟨h0 _, h0 _⟩, h0 _⟩
theorem StrsAt.takeP {w : World} {a : Option Addr} {b o n : Nat} {ss : List ByteArray} (h : StrsAt w a b o n ss) (k : Nat) (hk : k ≤ n) : StrsAt w a b o k (ss.take k) :=
  ⟨fun h0 => h.ad (by omega), by rw [List.length_take, h.len]; omega, Nat.le_trans hk h.max, fun h0 => h.lt (by omega), fun j hj => by rw [h.cell j (by omega)]; simp [List.getD, hj], fun s hs => h.sz s (List.mem_of_mem_take hs)⟩

theorem Own.drewB {B : Nat} {w : World} {size : Nat} {v : Value} {n : Nat} {xs : List Value} (h : Own B w size v n xs) : Own B w.drew size v n xs := by
  rcases h with h | ⟨g, o, cap, hv, hc⟩
  · exact .inl h
  · exact .inr ⟨g, o, cap, hv, hc.block rfl⟩
theorem run_ldI {ρ : Operand → Value} {o : Oper} {w : World} {p : Addr} {v : Value} (x : Operand) (h : o.op = .load 3 x) (hx : ρ x = .pointer (some p)) (hc : w.cell? p = some v) : (execOp ρ o).run Tryz.prog w = .ok (.value v) w := by
  unfold execOp
  rw [h]
  simp [go_sem, hx, hc]
theorem run_b42 {ρ : Operand → Value} {o : Oper} {w : World} {a : Option Addr} {n c : Nat} (x : Operand) (h : o.op = .build 35 #[(0, x)]) (hx : ρ x = .slice a n c) : (execOp ρ o).run Tryz.prog w = .ok (.value (.agg #[.slice a n c, .slice none 0 0])) w := by
  unfold execOp
  rw [h]
  simp [go_sem, hx]
theorem run_b47 {ρ : Operand → Value} {o : Oper} {w : World} {a : Option Addr} {n c : Nat} {k m : Int} (x y z : Operand) (h : o.op = .build 40 #[(0, x), (2, y), (6, z)]) (hx : ρ x = .int .i64 k) (hy : ρ y = .int .i64 m) (hz : ρ z = .agg #[.slice a n c, .slice none 0 0]) : (execOp ρ o).run Tryz.prog w = .ok (.value (.agg #[.int .i64 k, .bool false, .int .i64 m, .int .i64 0, .int .i64 0, .int .i64 0, .slice a n c, .slice none 0 0, .slice none 0 0, .slice none 0 0, .slice none 0 0, .slice none 0 0])) w := by
  unfold execOp
  rw [h]
  simp [go_sem, hx, hy, hz]

end Go.Proofs.YtbfamabkbkpmpaaGreat
