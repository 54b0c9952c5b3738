import Derived.Test.YtaeomkpofcbmiaaGreatQBhi
import Derived.Test.YtaeomkpofcbmiaaGreatQHld
import Derived.Test.YtaeomkpofcbmiaaGreatQBok
import Derived.Maps.OwnSet
namespace Go.Proofs.YtaeomkpofcbmiaaGreat
open Go.RowKit

section
variable {ρ : Operand → Value} {o : Oper} {w : World}
theorem run_mvF {v : Value} (x : Operand) (h : o.op = .move x) (hx : ρ x = v) : (execOp ρ o).run Tryz.prog w = .ok (.value v) w := by
  rw [← hx]; unfold execOp; rw [h]; simp [go_sem]
theorem run_faM7 {g : Nat} (x : Operand) (h : o.op = .fieldAddr 71 x 7) (hx : ρ x = .pointer (some ⟨g, 0, none⟩)) : (execOp ρ o).run Tryz.prog w = .ok (.value (.pointer (some ⟨g, 7, none⟩))) w := by
  unfold execOp; rw [h]; simp [go_sem, hx]
theorem run_faLd0 {g : Nat} (x : Operand) (h : o.op = .fieldAddr 43 x 0) (hx : ρ x = .pointer (some ⟨g, 0, none⟩)) : (execOp ρ o).run Tryz.prog w = .ok (.value (.pointer (some ⟨g, 0, none⟩))) w := by
  unfold execOp; rw [h]; simp [go_sem, hx]
theorem run_faB7 {g : Nat} (x : Operand) (h : o.op = .fieldAddr 40 x 7) (hx : ρ x = .pointer (some ⟨g, 0, none⟩)) : (execOp ρ o).run Tryz.prog w = .ok (.value (.pointer (some ⟨g, 8, none⟩))) w := by
  unfold execOp; rw [h]; simp [go_sem, hx]
theorem run_faB8 {g : Nat} (x : Operand) (h : o.op = .fieldAddr 40 x 8) (hx : ρ x = .pointer (some ⟨g, 0, none⟩)) : (execOp ρ o).run Tryz.prog w = .ok (.value (.pointer (some ⟨g, 9, none⟩))) w := by
  unfold execOp; rw [h]; simp [go_sem, hx]
theorem run_faB2 {g : Nat} (x : Operand) (h : o.op = .fieldAddr 40 x 2) (hx : ρ x = .pointer (some ⟨g, 0, none⟩)) : (execOp ρ o).run Tryz.prog w = .ok (.value (.pointer (some ⟨g, 2, none⟩))) w := by
  unfold execOp; rw [h]; simp [go_sem, hx]
theorem run_faP0 {b : Nat} (x : Operand) (h : o.op = .fieldAddr 48 x 0) (hx : ρ x = .pointer (some ⟨b, 0, none⟩)) : (execOp ρ o).run Tryz.prog w = .ok (.value (.pointer (some ⟨b, 0, none⟩))) w := by
  unfold execOp; rw [h]; simp [go_sem, hx]
theorem run_faK2 {b oo : Nat} (x : Operand) (h : o.op = .fieldAddr 109 x 2) (hx : ρ x = .pointer (some ⟨b, oo, none⟩)) : (execOp ρ o).run Tryz.prog w = .ok (.value (.pointer (some ⟨b, oo + 2, none⟩))) w := by
  unfold execOp; rw [h]; simp [go_sem, hx]
theorem run_faJ0 {b oo : Nat} (x : Operand) (h : o.op = .fieldAddr 66 x 0) (hx : ρ x = .pointer (some ⟨b, oo, none⟩)) : (execOp ρ o).run Tryz.prog w = .ok (.value (.pointer (some ⟨b, oo, none⟩))) w := by
  unfold execOp; rw [h]; simp [go_sem, hx]
theorem run_faJ2 {b oo : Nat} (x : Operand) (h : o.op = .fieldAddr 66 x 2) (hx : ρ x = .pointer (some ⟨b, oo, none⟩)) : (execOp ρ o).run Tryz.prog w = .ok (.value (.pointer (some ⟨b, oo + 2, none⟩))) w := by
  unfold execOp; rw [h]; simp [go_sem, hx]
theorem run_ixK (x y : Operand) (b oo n c i : Nat) (h : o.op = .indexAddr 46 x y) (hx : ρ x = .slice (some ⟨b, oo, none⟩) n c) (hy : ρ y = .int .i64 (i : Nat)) (hi : i < n) : (execOp ρ o).run Tryz.prog w = .ok (.value (.pointer (some ⟨b, oo + i * 3, none⟩))) w := by
  have hi' : (i : Int) < (n : Int) := by omega
  unfold execOp; rw [h]; simp [go_sem, hx, hy, hi']
theorem run_ixJ (x y : Operand) (b oo n c i : Nat) (h : o.op = .indexAddr 36 x y) (hx : ρ x = .slice (some ⟨b, oo, none⟩) n c) (hy : ρ y = .int .i64 (i : Nat)) (hi : i < n) : (execOp ρ o).run Tryz.prog w = .ok (.value (.pointer (some ⟨b, oo + i * 3, none⟩))) w := by
  have hi' : (i : Int) < (n : Int) := by omega
  unfold execOp; rw [h]; simp [go_sem, hx, hy, hi']
theorem run_ixIo (x y : Operand) (b oo n c i : Nat) (h : o.op = .indexAddr 95 x y) (hx : ρ x = .slice (some ⟨b, oo, none⟩) n c) (hy : ρ y = .int .i64 (i : Nat)) (hi : i < n) : (execOp ρ o).run Tryz.prog w = .ok (.value (.pointer (some ⟨b, oo + i, none⟩))) w := by
  have hi' : (i : Int) < (n : Int) := by omega
  unfold execOp; rw [h]; simp [go_sem, hx, hy, hi']
theorem run_ixSo (x y : Operand) (b oo n c i : Nat) (h : o.op = .indexAddr 22 x y) (hx : ρ x = .slice (some ⟨b, oo, none⟩) n c) (hy : ρ y = .int .i64 (i : Nat)) (hi : i < n) : (execOp ρ o).run Tryz.prog w = .ok (.value (.pointer (some ⟨b, oo + i, none⟩))) w := by
  have hi' : (i : Int) < (n : Int) := by omega
  unfold execOp; rw [h]; simp [go_sem, hx, hy, hi']
theorem run_ldTsB {p : Addr} {v : Value} (x : Operand) (h : o.op = .load 46 x) (hx : ρ x = .pointer (some p)) (hc : w.cell? p = some v) : (execOp ρ o).run Tryz.prog w = .ok (.value v) w := by
  unfold execOp; rw [h]; simp [go_sem, hx, hc]
theorem run_ldJsB {p : Addr} {v : Value} (x : Operand) (h : o.op = .load 36 x) (hx : ρ x = .pointer (some p)) (hc : w.cell? p = some v) : (execOp ρ o).run Tryz.prog w = .ok (.value v) w := by
  unfold execOp; rw [h]; simp [go_sem, hx, hc]
theorem run_ldIsB {p : Addr} {v : Value} (x : Operand) (h : o.op = .load 95 x) (hx : ρ x = .pointer (some p)) (hc : w.cell? p = some v) : (execOp ρ o).run Tryz.prog w = .ok (.value v) w := by
  unfold execOp; rw [h]; simp [go_sem, hx, hc]
theorem run_ldInB {p : Addr} {v : Value} (x : Operand) (h : o.op = .load 3 x) (hx : ρ x = .pointer (some p)) (hc : w.cell? p = some v) : (execOp ρ o).run Tryz.prog w = .ok (.value v) w := by
  unfold execOp; rw [h]; simp [go_sem, hx, hc]
theorem run_ldStB {p : Addr} {v : Value} (x : Operand) (h : o.op = .load 9 x) (hx : ρ x = .pointer (some p)) (hc : w.cell? p = some v) : (execOp ρ o).run Tryz.prog w = .ok (.value v) w := by
  unfold execOp; rw [h]; simp [go_sem, hx, hc]
theorem run_ldLsB {p : Addr} {v : Value} (x : Operand) (h : o.op = .load 22 x) (hx : ρ x = .pointer (some p)) (hc : w.cell? p = some v) : (execOp ρ o).run Tryz.prog w = .ok (.value v) w := by
  unfold execOp; rw [h]; simp [go_sem, hx, hc]
theorem run_bsLB (x0 : Operand) (s : ByteArray) (h : o.op = .buildSlice 22 1 #[(0, x0)]) (h0 : ρ x0 = .string s) : (execOp ρ o).run Tryz.prog w = .ok (.value (.slice (some ⟨w.heap.size, 0, none⟩) 1 1)) (w.alloc (.cells #[.string s] 9)) := by
  unfold execOp; rw [h]; simp [go_sem, h0]
theorem run_stLsB {p : Addr} {v0 : Value} (x y : Operand) (a : Option Addr) (n c : Nat) (h : o.op = .store 22 x y) (hx : ρ x = .pointer (some p)) (hy : ρ y = .slice a n c) (hc : w.cell? p = some v0) (hf : w.frozen? p = false) : (execOp ρ o).run Tryz.prog w = .ok .skip (w.setCell p (.slice a n c)) := by
  unfold execOp; rw [h]; simp [go_sem, hx, hy, hc, hf]
theorem run_appB {w' : World} {v x v' : Value} (s y : Operand) (t tx ty : TypeId) (ho : o.op = .call { callee := .builtin .append, args := #[s, y], argTypes := #[t, tx] }) (hv : ρ s = v) (hx : ρ y = x) (hty : o.type = ty) (hr : (Builtin.append_ #[t, tx] ty #[v, x]).run Tryz.prog w = .ok v' w') : (execOp ρ o).run Tryz.prog w = .ok (.value v') w' := by
  unfold execOp
  simp [ho, resolve, invoke, builtin, hv, hx, hty, hr, Result.andThen]
theorem run_neB (x y : Operand) (a b : Int) (r : Bool) (h : o.op = .binOp .neq 3 x y 3) (hx : ρ x = .int .i64 a) (hy : ρ y = .int .i64 b) (hr : decide (a ≠ b) = r) : (execOp ρ o).run Tryz.prog w = .ok (.value (.bool r)) w := by
  subst hr; unfold execOp; rw [h]; simp [go_sem, hx, hy]; rfl
theorem run_leB (x y : Operand) (a b : Int) (r : Bool) (h : o.op = .binOp .leq 3 x y 3) (hx : ρ x = .int .i64 a) (hy : ρ y = .int .i64 b) (hr : decide (a ≤ b) = r) : (execOp ρ o).run Tryz.prog w = .ok (.value (.bool r)) w := by
  subst hr; unfold execOp; rw [h]; simp [go_sem, hx, hy]
theorem run_pkB (x y z : Operand) (v : Value) (h : o.op = .pick x y z) (hx : ρ x = .bool true) (hy : ρ y = v) : (execOp ρ o).run Tryz.prog w = .ok (.value v) w := by
  unfold execOp; rw [h]; simp [go_sem, hx, hy]
theorem run_pkfB (x y z : Operand) (v : Value) (h : o.op = .pick x y z) (hx : ρ x = .bool false) (hz : ρ z = v) : (execOp ρ o).run Tryz.prog w = .ok (.value v) w := by
  unfold execOp; rw [h]; simp [go_sem, hx, hz]
end
/-- n bools, by the bits of m. -/
def bt (n m : Nat) : Array Bool := ((List.range n).map m.testBit).toArray
theorem hTk {P : Program} {md : Region.Mode} {ops : Array Oper} {Q : Exit → Act → World → Prop} {S : World → Prop} {i : Nat} {oi : Oper} {v : Value} {d : Option Nat} {fuel : Nat} {l l' : Array Bool} {a : Act} {w : World} (hi : ops[i]? = some oi) (hy : ∀ w, S w → (execOp a.eval oi).run P w = .ok (.value v) w) (hS : S w) (h : wpAnyH P md ops Q S fuel l' (a.put d v) w)
    (hd : oi.dst = d := by kernel_rfl) (hs : Region.noSelect ops = true := by kernel_rfl) (hf : Region.free md ops l i = true := by kernel_rfl) (hr : (Region.ready md ops l).contains i = true := by kernel_rfl)
    (hQ : ∀ c a w, Q (.panic c) (a.put oi.dst v) w → Q (.panic c) a w := by exact fun _ _ _ h => h) (hw : Region.wanted oi (yielded ops a.tmps) = true := by kernel_rfl) (hl : l.setIfInBounds i true = l' := by kernel_rfl) : wpAnyH P md ops Q S (fuel + 1) l a w := by
  subst hl; subst hd
  exact wpAnyH_take hi hs hf hr hQ (Or.inl ⟨hw, hy⟩) hS h
theorem hTn {P : Program} {md : Region.Mode} {ops : Array Oper} {Q : Exit → Act → World → Prop} {S : World → Prop} {i : Nat} {oi : Oper} {d : Option Nat} {fuel : Nat} {l l' : Array Bool} {a : Act} {w : World} (hi : ops[i]? = some oi) (hS : S w) (h : wpAnyH P md ops Q S fuel l' (a.put d undef) w)
    (hd : oi.dst = d := by kernel_rfl) (hs : Region.noSelect ops = true := by kernel_rfl) (hf : Region.free md ops l i = true := by kernel_rfl) (hr : (Region.ready md ops l).contains i = true := by kernel_rfl)
    (hQ : ∀ c a w, Q (.panic c) (a.put oi.dst undef) w → Q (.panic c) a w := by exact fun _ _ _ h => h) (hw : Region.wanted oi (yielded ops a.tmps) = false := by kernel_rfl) (hl : l.setIfInBounds i true = l' := by kernel_rfl) : wpAnyH P md ops Q S (fuel + 1) l a w := by
  subst hl; subst hd
  exact wpAnyH_take hi hs hf hr hQ (Or.inr ⟨hw, rfl⟩) hS h
end Go.Proofs.YtaeomkpofcbmiaaGreat

namespace Go.Proofs.YtaeomkpofcbmiaaGreat
open Go.RowKit

section
variable {ρ : Operand → Value} {o : Oper} {w : World}
theorem run_faD0 {g : Nat} (x : Operand) (h : o.op = .fieldAddr 122 x 0) (hx : ρ x = .pointer (some ⟨g, 0, none⟩)) : (execOp ρ o).run Tryz.prog w = .ok (.value (.pointer (some ⟨g, 0, none⟩))) w := by
  unfold execOp; rw [h]; simp [go_sem, hx]
theorem run_faD1 {g : Nat} (x : Operand) (h : o.op = .fieldAddr 122 x 1) (hx : ρ x = .pointer (some ⟨g, 0, none⟩)) : (execOp ρ o).run Tryz.prog w = .ok (.value (.pointer (some ⟨g, 12, none⟩))) w := by
  unfold execOp; rw [h]; simp [go_sem, hx]
theorem run_faD2 {g : Nat} (x : Operand) (h : o.op = .fieldAddr 122 x 2) (hx : ρ x = .pointer (some ⟨g, 0, none⟩)) : (execOp ρ o).run Tryz.prog w = .ok (.value (.pointer (some ⟨g, 13, none⟩))) w := by
  unfold execOp; rw [h]; simp [go_sem, hx]
theorem run_faD3 {g : Nat} (x : Operand) (h : o.op = .fieldAddr 122 x 3) (hx : ρ x = .pointer (some ⟨g, 0, none⟩)) : (execOp ρ o).run Tryz.prog w = .ok (.value (.pointer (some ⟨g, 14, none⟩))) w := by
  unfold execOp; rw [h]; simp [go_sem, hx]
theorem run_ldMp {p : Addr} {v : Value} (x : Operand) (h : o.op = .load 119 x) (hx : ρ x = .pointer (some p)) (hc : w.cell? p = some v) : (execOp ρ o).run Tryz.prog w = .ok (.value v) w := by
  unfold execOp; rw [h]; simp [go_sem, hx, hc]
end
/-- Amid a desk's work: the desk's box Qd, its map's block Qp. -/
structure DkS (w0 wK : World) (B Qm Qd Qp : Nat) (d : BD) (h : BH) (ts : List TaskD) (pa : Option Addr) (pc : Nat) (now sn : Int) (nb : Nat) (st : HSt) (v : Value) (vs : List Value) (wr : World) : Prop where
  H : HdI w0 B Qm d h st v vs wr
  D : CF wr Qd [.int .i64 d.wk, .bool d.up, .int .i64 now, .int .i64 sn, .int .i64 d.ep, .int .i64 st.gv, .slice h.a1 d.L1.length h.c1, .slice h.a2 d.L2.length h.c2, .slice h.ar d.R.length h.cr, .slice h.aj d.J.length h.cj, .slice h.az d.S.length h.cs, .slice h.ao d.O.length h.co, .slice pa ts.length pc, .map (some Qp), v]
  mp : ∃ (n : Nat) (X : DataW Unit), n ≤ nb ∧ wr.ownsMap Tryz.prog 3 (plainElem Tryz.prog 3) Qp n X
  q : B ≤ Qp ∧ B ≤ Qd ∧ Qp ≠ Qd ∧ Qd < Qm ∧ Qp < Qm
  nr : ∀ r ∈ rowsB d h, r ≠ some Qp ∧ r ≠ some Qd
  vm : ∃ a c, v = .slice a st.M.length c
  fx : ∀ q, q < Qm → q ≠ Qd → q ≠ Qp → (∀ r ∈ rowsB d h, r ≠ some q) → wr.heap[q]? = wK.heap[q]?
theorem DkS.below {w0 wK wr w' : World} {B Qm Qd Qp : Nat} {d : BD} {h : BH} {ts : List TaskD} {pa : Option Addr} {pc : Nat} {now sn : Int} {nb : Nat} {st : HSt} {v : Value} {vs : List Value} (s : DkS w0 wK B Qm Qd Qp d h ts pa pc now sn nb st v vs wr) (hb : Below wr.heap.size wr w') : DkS w0 wK B Qm Qd Qp d h ts pa pc now sn nb st v vs w' := by
  have hq := s.q
  have hz := s.H.sz
  obtain ⟨n, X, hn, hX⟩ := s.mp
  have hg : wr.grownBy w' none := ⟨hb.os, hb.tape, hb.output, hb.size, fun i hi _ => hb.block i hi⟩
  exact ⟨s.H.below hb, s.D.block (hb.block _ (by omega)), ⟨n, X, hn, hX.kept hg (by simp)⟩, s.q, s.nr, s.vm, fun q h1 h2 h3 h4 => (hb.block q (by omega)).trans (s.fx q h1 h2 h3 h4)⟩
end Go.Proofs.YtaeomkpofcbmiaaGreat
