import Derived.Test.YthopfmhagddhgaaGreatQSChk
import Derived.Deep.RegionHeld3
import Derived.Test.YthopfmhagddhgaaGreatQHld
namespace Go.Proofs.YthopfmhagddhgaaGreat
open Go.RowKit

/-- All but two blocks lie as they lay. -/
structure But (sb rb : Nat) (w w' : World) : Prop where
  os : w'.os = w.os
  tape : w'.tape = w.tape
  output : w'.output = w.output
  size : w.heap.size ≤ w'.heap.size
  block : ∀ k, k < w.heap.size → k ≠ sb → k ≠ rb → w'.heap[k]? = w.heap[k]?
theorem But.refl (sb rb : Nat) (w : World) : But sb rb w w := ⟨rfl, rfl, rfl, Nat.le_refl _, fun _ _ _ _ => rfl⟩
theorem But.trans {sb rb : Nat} {a b c : World} (h : But sb rb a b) (k : But sb rb b c) : But sb rb a c :=
  ⟨k.os.trans h.os, k.tape.trans h.tape, k.output.trans h.output, Nat.le_trans h.size k.size, fun i hi h1 h2 => (k.block i (Nat.lt_of_lt_of_le hi h.size) h1 h2).trans (h.block i hi h1 h2)⟩
theorem But.of {sb rb : Nat} {a b : World} (h : Below a.heap.size a b) : But sb rb a b := ⟨h.os, h.tape, h.output, h.size, fun i hi _ _ => h.block i hi⟩
theorem But.setS {sb rb : Nat} (w : World) (j : Nat) (u : Value) : But sb rb w (w.setCell ⟨sb, j, none⟩ u) :=
  ⟨rfl, rfl, rfl, by simp [World.setCell], fun k _ h1 _ => Below.heap_setCell _ _ _ _ h1⟩
theorem But.setR {sb rb : Nat} (w : World) (j : Nat) (u : Value) : But sb rb w (w.setCell ⟨rb, j, none⟩ u) :=
  ⟨rfl, rfl, rfl, by simp [World.setCell], fun k _ _ h1 => Below.heap_setCell _ _ _ _ h1⟩
theorem But.below {sb rb C : Nat} {w0 w w' : World} (h : Below C w0 w) (k : But sb rb w w') (h1 : C ≤ sb) (h2 : C ≤ rb) (hC : C ≤ w.heap.size) : Below C w0 w' :=
  h.trans ⟨k.os, k.tape, k.output, k.size, fun i hi => k.block i (by omega) (by omega) (by omega)⟩

/-- What goOn answers. -/
def RetG (B sb rb n : Nat) (ts : List TaskD) (st : St) (q : Int × Int × Int × ByteArray) (e' : Ending) (w' : World) : Prop :=
  ∃ r, e' = .returned (.bool r) ∧ (r = true → ∃ E' R', step1 ts st q = some (E', R') ∧ CF w' sb [.int .i64 0, .int .i64 E', .slice (some ⟨rb, 0, none⟩) n n] ∧ OwnC B w' 1 rb 0 n n (R'.map Value.string)) ∧ (r = false → step1 ts st q = none)

set_option maxHeartbeats 2000000 in
set_option maxRecDepth 100000 in
theorem goOn_1 (a : Option Addr) (n c : Nat) (ts : List TaskD) (B sb rb : Nat) (E : Int) (R : List ByteArray) (e d : Int) (x : ByteArray) (w : World)
    (hs : CF w sb [.int .i64 0, .int .i64 E, .slice (some ⟨rb, 0, none⟩) n n]) (hr : OwnC B w 1 rb 0 n n (R.map Value.string)) (hne : sb ≠ rb) (hE0 : 0 ≤ E) (hE1 : E ≤ 100000) :
    Calls Tryz.prog 101 #[.pointer (some ⟨sb, 0, none⟩), .agg #[.slice a n c], .agg #[.int .i64 1, .int .i64 e, .int .i64 d, .string x]] w fun e' w' =>
      RetG B sb rb n ts (E, R) (1, e, d, x) e' w' ∧ But sb rb w w' := by
  obtain ⟨W, hW⟩ : ∃ W, W = (w.alloc (.cells #[.slice a n c] 41)).alloc (.cells #[.int .i64 1, .int .i64 e, .int .i64 d, .string x] 135) := ⟨_, rfl⟩
  have hbW : Below w.heap.size w W := by rw [hW]; exact ((Below.refl _ _).alloc (Nat.le_refl _) _).alloc (by simp) _
  have hsl : sb < w.heap.size := World.block_lt_of_cell? _ _ (hs 0 (by simp)).1
  have hs1 : CF W sb [.int .i64 0, .int .i64 E, .slice (some ⟨rb, 0, none⟩) n n] := hs.block (hbW.block _ hsl)
  have hr1 := hr.below hbW hr.hi
  have hc1 : W.cell? ⟨sb, 1, none⟩ = some (.int .i64 E) := (hs1 1 (by simp)).1
  have hf1 := (hs1 1 (by simp)).2
  have hMC : MC W (w.heap.size + 1) [.int .i64 1, .int .i64 e, .int .i64 d, .string x] := by
    rw [hW]
    have := MC.made (w.alloc (.cells #[.slice a n c] 41)) #[.int .i64 1, .int .i64 e, .int .i64 d, .string x] 135
    rw [World.size_alloc] at this
    exact this
  have q0 : W.cell? ⟨w.heap.size + 1, 0, none⟩ = some (.int .i64 1) := hMC 0 (by simp)
  have q1 : W.cell? ⟨w.heap.size + 1, 1, none⟩ = some (.int .i64 e) := hMC 1 (by simp)
  have hsz : sb ≠ w.heap.size + 1 := by omega
  have HO := hid ((hs1.set (j := 1) (by simp) (.int .i64 (E + 1))))
  have HR := hid (hr1.setOther (p := ⟨sb, 1, none⟩) (fun h => hne h.symm) (.int .i64 (E + 1)))
  have hbut := (But.of (sb := sb) (rb := rb) hbW).trans (But.setS W 1 (.int .i64 (E + 1)))
  clear hMC hs1 hr1 hs hr
  go_enter Tryz.func101, Tryz.ntmps101
  go_upto_region 1 with fail
  rw [← hW]
  clear hW
  by_cases he : e = E + 1
  · have he' : (e == E + 1) = true := by simpa using he
    have GE := hid he
    clear he
    go_wp2
    go_quiet (fail)
    go_wp2
    go_ret
    refine ⟨⟨_, rfl, fun _ => ⟨E + 1, R, ?_, ?_, ?_⟩, fun hh => by cases hh⟩, ?_⟩
    · unfold step1; simp [GE.out]
    · exact (HO.out).block rfl
    · exact (HR.out).block rfl
    · exact hbut.trans ⟨rfl, rfl, rfl, Nat.le_refl _, fun _ _ _ _ => rfl⟩
  · have he' : (e == E + 1) = false := by simpa using he
    have GE := hid he
    clear he
    go_wp2
    go_quiet (fail)
    go_wp2
    go_ret
    refine ⟨⟨_, rfl, fun hh => (by cases hh), fun _ => ?_⟩, ?_⟩
    · unfold step1; simp [GE.out]
    · exact hbut.trans ⟨rfl, rfl, rfl, Nat.le_refl _, fun _ _ _ _ => rfl⟩
end Go.Proofs.YthopfmhagddhgaaGreat

namespace Go.Proofs.YthopfmhagddhgaaGreat
open Go.RowKit

theorem run_mvH {ρ : Operand → Value} {o : Oper} {w : World} {v : Value} (x : Operand) (h : o.op = .move x) (hx : ρ x = v) : (execOp ρ o).run Tryz.prog w = .ok (.value v) w := by
  rw [← hx]; exact BigFrame.run_move x h w
theorem run_ldi {ρ : Operand → Value} {o : Oper} {w : World} {p : Addr} {v : Value} (x : Operand) (h : o.op = .load 3 x) (hx : ρ x = .pointer (some p)) (hc : w.cell? p = some v) : (execOp ρ o).run Tryz.prog w = .ok (.value v) w := by
  unfold execOp
  rw [h]
  simp [go_sem, hx, hc]
theorem run_ldts {ρ : Operand → Value} {o : Oper} {w : World} {p : Addr} {v : Value} (x : Operand) (h : o.op = .load 39 x) (hx : ρ x = .pointer (some p)) (hc : w.cell? p = some v) : (execOp ρ o).run Tryz.prog w = .ok (.value v) w := by
  unfold execOp
  rw [h]
  simp [go_sem, hx, hc]
theorem run_ldss {ρ : Operand → Value} {o : Oper} {w : World} {p : Addr} {v : Value} (x : Operand) (h : o.op = .load 25 x) (hx : ρ x = .pointer (some p)) (hc : w.cell? p = some v) : (execOp ρ o).run Tryz.prog w = .ok (.value v) w := by
  unfold execOp
  rw [h]
  simp [go_sem, hx, hc]
theorem run_ldpl {ρ : Operand → Value} {o : Oper} {w : World} {b : Nat} {v : Value} (x : Operand) (h : o.op = .load 41 x) (hx : ρ x = .pointer (some ⟨b, 0, none⟩)) (hc : w.cell? ⟨b, 0, none⟩ = some v) : (execOp ρ o).run Tryz.prog w = .ok (.value (.agg #[v])) w := by
  unfold execOp
  rw [h]
  simp [go_sem, hx, hc]
theorem run_neqi {ρ : Operand → Value} {o : Oper} {w : World} (x y : Operand) (a b : Int) (h : o.op = .binOp .neq 3 x y 3) (hx : ρ x = .int .i64 a) (hy : ρ y = .int .i64 b) : (execOp ρ o).run Tryz.prog w = .ok (.value (.bool (!(a == b)))) w := by
  unfold execOp
  rw [h]
  simp [go_sem, hx, hy]
  rfl
theorem run_geqi {ρ : Operand → Value} {o : Oper} {w : World} (x y : Operand) (a b : Int) (h : o.op = .binOp .geq 3 x y 3) (hx : ρ x = .int .i64 a) (hy : ρ y = .int .i64 b) : (execOp ρ o).run Tryz.prog w = .ok (.value (.bool (decide (b ≤ a)))) w := by
  unfold execOp
  rw [h]
  simp [go_sem, hx, hy]
theorem run_nt {ρ : Operand → Value} {o : Oper} {w : World} (x : Operand) (b : Bool) (h : o.op = .unOp .not 4 x) (hx : ρ x = .bool b) : (execOp ρ o).run Tryz.prog w = .ok (.value (.bool (!b))) w := by
  unfold execOp
  rw [h]
  simp [go_sem, hx]
theorem run_pkg {ρ : Operand → Value} {o : Oper} {w : World} (x y z : Operand) (v : Value) (h : o.op = .pick x y z) (hx : ρ x = .bool false) (hz : ρ z = v) : (execOp ρ o).run Tryz.prog w = .ok (.value v) w := by
  unfold execOp
  rw [h]
  simp [go_sem, hx, hz]
theorem run_pkt {ρ : Operand → Value} {o : Oper} {w : World} (x y z : Operand) (v : Value) (h : o.op = .pick x y z) (hx : ρ x = .bool true) (hy : ρ y = v) : (execOp ρ o).run Tryz.prog w = .ok (.value v) w := by
  unfold execOp
  rw [h]
  simp [go_sem, hx, hy]
theorem run_nc {ρ : Operand → Value} {o : Oper} {w : World} {p : Addr} (x : Operand) (h : o.op = .nilCheck x) (hx : ρ x = .pointer (some p)) : (execOp ρ o).run Tryz.prog w = .ok (.value (.pointer (some p))) w := by
  unfold execOp
  rw [h]
  simp [go_sem, hx]
theorem run_lds {ρ : Operand → Value} {o : Oper} {w : World} {p : Addr} {v : Value} (x : Operand) (h : o.op = .load 9 x) (hx : ρ x = .pointer (some p)) (hc : w.cell? p = some v) : (execOp ρ o).run Tryz.prog w = .ok (.value v) w := by
  unfold execOp
  rw [h]
  simp [go_sem, hx, hc]
theorem run_iass {ρ : Operand → Value} {o : Oper} {w : World} (x y : Operand) (g n c i : Nat) (h : o.op = .indexAddr 25 x y) (hx : ρ x = .slice (some ⟨g, 0, none⟩) n c) (hy : ρ y = .int .i64 i) (hi : i < n) : (execOp ρ o).run Tryz.prog w = .ok (.value (.pointer (some ⟨g, i, none⟩))) w := by
  have hi' : (i : Int) < (n : Int) := by omega
  unfold execOp
  rw [h]
  simp [go_sem, hx, hy, hi']
theorem run_sts {ρ : Operand → Value} {o : Oper} {w : World} {s : ByteArray} {p : Addr} {old : Value} (x y : Operand) (h : o.op = .store 9 x y) (hx : ρ x = .pointer (some p)) (hy : ρ y = .string s) (hc : w.cell? p = some old) (hf : w.frozen? p = false) :
    (execOp ρ o).run Tryz.prog w = .ok .skip (w.setCell p (.string s)) := by
  unfold execOp
  rw [h]
  simp [go_sem, hx, hy, hc, hf]
theorem run_cl3 {ρ : Operand → Value} {o : Oper} {w : World} {f : FuncId} {v1 v2 v3 : Value} (x y z : Operand) (ts : Array TypeId) (h : o.op = .call { callee := .value (.func f), args := #[x, y, z], argTypes := ts }) (hx : ρ x = v1) (hy : ρ y = v2) (hz : ρ z = v3) (hf : ρ (.func f) = .func (.func f) #[] #[]) (he : ∀ (v1 v2 v3 : Value) (w : World), Sem.run Tryz.prog (callFunc f #[v1, v2, v3]) w = .ok (.enter f #[v1, v2, v3]) w) : (execOp ρ o).run Tryz.prog w = .ok (.enter f #[v1, v2, v3]) w := by
  unfold execOp
  rw [h]
  simp [go_sem, hx, hy, hz, hf, he]
theorem hTakeN {P : Program} {md : Region.Mode} {ops : Array Oper} {Q : Exit → Act → World → Prop} {S : World → Prop} {i : Nat} {oi : Oper} {d : Option Nat} {fuel : Nat} {l l' : Array Bool} {a : Act} {w : World} (hi : ops[i]? = some oi) (hd : oi.dst = d) (hs : Region.noSelect ops = true) (hf : Region.free md ops l i = true) (hr : (Region.ready md ops l).contains i = true)
    (hQ : ∀ c a w, Q (.panic c) (a.put oi.dst undef) w → Q (.panic c) a w) (hw : Region.wanted oi (yielded ops a.tmps) = false) (hS : S w)
    (hl : l.setIfInBounds i true = l') (h : wpAnyH P md ops Q S fuel l' (a.put d undef) w) : wpAnyH P md ops Q S (fuel + 1) l a w := by
  subst hl; subst hd
  exact wpAnyH_take hi hs hf hr hQ (Or.inr ⟨hw, rfl⟩) hS h
theorem enter_isDue (v1 v2 v3 : Value) (w : World) : Sem.run Tryz.prog (callFunc 117 #[v1, v2, v3]) w = .ok (.enter 117 #[v1, v2, v3]) w := by kernel_rfl
/-- Cells that were there are there. -/
def Ks (W w : World) : Prop := ∀ p v, W.cell? p = some v → w.cell? p = some v

set_option maxHeartbeats 2000000 in
set_option maxRecDepth 100000 in
theorem goOn_2 (a : Option Addr) (b o n c : Nat) (ts : List TaskD) (B sb rb : Nat) (E : Int) (R : List ByteArray) (e d : Int) (x : ByteArray) (w : World) (h : TasksAt w a b o n ts) (hA : allDeps ts n)
    (hs : CF w sb [.int .i64 0, .int .i64 E, .slice (some ⟨rb, 0, none⟩) n n]) (hr : OwnC B w 1 rb 0 n n (R.map Value.string)) (hz : ∀ s ∈ R, s.size ≤ 8) (hne : sb ≠ rb) (hd0 : 0 ≤ d) :
    Calls Tryz.prog 101 #[.pointer (some ⟨sb, 0, none⟩), .agg #[.slice a n c], .agg #[.int .i64 2, .int .i64 e, .int .i64 d, .string x]] w fun e' w' =>
      RetG B sb rb n ts (E, R) (2, e, d, x) e' w' ∧ But sb rb w w' := by
  obtain ⟨W, hW⟩ : ∃ W, W = (w.alloc (.cells #[.slice a n c] 41)).alloc (.cells #[.int .i64 2, .int .i64 e, .int .i64 d, .string x] 135) := ⟨_, rfl⟩
  have hbW : Below w.heap.size w W := by rw [hW]; exact ((Below.refl _ _).alloc (Nat.le_refl _) _).alloc (by simp) _
  have hsl : sb < w.heap.size := World.block_lt_of_cell? _ _ (hs 0 (by simp)).1
  have hs1 : CF W sb [.int .i64 0, .int .i64 E, .slice (some ⟨rb, 0, none⟩) n n] := hs.block (hbW.block _ hsl)
  have hr1 := hr.below hbW hr.hi
  have hc1 : W.cell? ⟨sb, 1, none⟩ = some (.int .i64 E) := (hs1 1 (by simp)).1
  have hc2 : W.cell? ⟨sb, 2, none⟩ = some (.slice (some ⟨rb, 0, none⟩) n n) := (hs1 2 (by simp)).1
  have hMC : MC W (w.heap.size + 1) [.int .i64 2, .int .i64 e, .int .i64 d, .string x] := by
    rw [hW]
    have := MC.made (w.alloc (.cells #[.slice a n c] 41)) #[.int .i64 2, .int .i64 e, .int .i64 d, .string x] 135
    rw [World.size_alloc] at this
    exact this
  have q0 : W.cell? ⟨w.heap.size + 1, 0, none⟩ = some (.int .i64 2) := hMC 0 (by simp)
  have q1 : W.cell? ⟨w.heap.size + 1, 1, none⟩ = some (.int .i64 e) := hMC 1 (by simp)
  have q2 : W.cell? ⟨w.heap.size + 1, 2, none⟩ = some (.int .i64 d) := hMC 2 (by simp)
  have q3 : W.cell? ⟨w.heap.size + 1, 3, none⟩ = some (.string x) := hMC 3 (by simp)
  have p0 : W.cell? ⟨w.heap.size, 0, none⟩ = some (.slice a n c) := by
    rw [hW, World.cell?_alloc_lt _ _ ⟨w.heap.size, 0, none⟩ (by simp)]
    exact World.cell?_alloc_mark w #[.slice a n c] 41 (0, 0) 0
  have hsz : sb ≠ w.heap.size + 1 := by omega
  have hwz : w.heap.size + 1 < W.heap.size := World.block_lt_of_cell? _ _ q0
  have hmax := h.max
  unfold maxLen at hmax
  have HL := hid h.len
  by_cases he : e = E
  · have hee : (e == E) = true := by simpa using he
    have GE := hid he
    clear he
    by_cases hdn : d < n
    · obtain ⟨dn, rfl⟩ : ∃ dn : Nat, d = dn := ⟨d.toNat, by omega⟩
      have hdn' : dn < n := by omega
      have hdl : ¬ ((n : Int) ≤ (dn : Int)) := by omega
      have HC := hid (isDue_any a b o n c ts _ rb 0 n R dn W.drew ((h.below' hbW).below' (Below.refl _ _).drew) ((StrsAt.ofOwn hr1 (fun s hs => by have := hz s hs; unfold maxLen; omega)).below' (Below.refl _ _).drew) hdn' hA)
      have hrl := hr.hi
      have HS1 := hid hs1
      have HR1 := hid hr1
      clear hMC hs1 hr1 hs hr h
      have hK : Ks W W.drew := fun p v hp => hp
      go_enter Tryz.func101, Tryz.ntmps101
      go_upto_region 1 with fail
      rw [← hW]
      clear hW
      go_upto_region 4 with fail
      refine wp_region_held (S := Ks W) (by kernel_rfl) ?_
      change wpAnyH _ _ _ _ _ _ _ _ (World.drew _)
      refine hTake (i := 0) (d := some 24) (v := .pointer (some ⟨w.heap.size + 1, 1, none⟩)) (l' := #[true, false, false, false, false, false, false, false, false, false, false, false, false, false, false, false, false, false, false, false, false, false, false, false, false, false]) rfl (by kernel_rfl) (by kernel_rfl) (by kernel_rfl) (by kernel_rfl) (fun _ _ _ h => h) (by kernel_rfl) (fun _ hc => by kernel_rfl) hK (by kernel_rfl) ?_
      refine hTake (i := 1) (d := some 25) (v := .int .i64 e) (l' := #[true, true, false, false, false, false, false, false, false, false, false, false, false, false, false, false, false, false, false, false, false, false, false, false, false, false]) rfl (by kernel_rfl) (by kernel_rfl) (by kernel_rfl) (by kernel_rfl) (fun _ _ _ h => h) (by kernel_rfl) (fun _ hc => run_ldi (.tmp 24) (by kernel_rfl) (by kernel_rfl) (hc _ _ q1)) hK (by kernel_rfl) ?_
      refine hTake (i := 2) (d := some 26) (v := .pointer (some ⟨sb, 0, none⟩)) (l' := #[true, true, true, false, false, false, false, false, false, false, false, false, false, false, false, false, false, false, false, false, false, false, false, false, false, false]) rfl (by kernel_rfl) (by kernel_rfl) (by kernel_rfl) (by kernel_rfl) (fun _ _ _ h => h) (by kernel_rfl) (fun _ hc => by kernel_rfl) hK (by kernel_rfl) ?_
      refine hTake (i := 3) (d := some 27) (v := .pointer (some ⟨sb, 0, none⟩)) (l' := #[true, true, true, true, false, false, false, false, false, false, false, false, false, false, false, false, false, false, false, false, false, false, false, false, false, false]) rfl (by kernel_rfl) (by kernel_rfl) (by kernel_rfl) (by kernel_rfl) (fun _ _ _ h => h) (by kernel_rfl) (fun _ hc => run_nc (.tmp 26) (by kernel_rfl) (by kernel_rfl)) hK (by kernel_rfl) ?_
      refine hTake (i := 4) (d := some 28) (v := .pointer (some ⟨sb, 1, none⟩)) (l' := #[true, true, true, true, true, false, false, false, false, false, false, false, false, false, false, false, false, false, false, false, false, false, false, false, false, false]) rfl (by kernel_rfl) (by kernel_rfl) (by kernel_rfl) (by kernel_rfl) (fun _ _ _ h => h) (by kernel_rfl) (fun _ hc => by kernel_rfl) hK (by kernel_rfl) ?_
      refine hTake (i := 5) (d := some 29) (v := .int .i64 E) (l' := #[true, true, true, true, true, true, false, false, false, false, false, false, false, false, false, false, false, false, false, false, false, false, false, false, false, false]) rfl (by kernel_rfl) (by kernel_rfl) (by kernel_rfl) (by kernel_rfl) (fun _ _ _ h => h) (by kernel_rfl) (fun _ hc => run_ldi (.tmp 28) (by kernel_rfl) (by kernel_rfl) (hc _ _ hc1)) hK (by kernel_rfl) ?_
      refine hTake (i := 6) (d := some 30) (v := .bool false) (l' := #[true, true, true, true, true, true, true, false, false, false, false, false, false, false, false, false, false, false, false, false, false, false, false, false, false, false]) rfl (by kernel_rfl) (by kernel_rfl) (by kernel_rfl) (by kernel_rfl) (fun _ _ _ h => h) (by kernel_rfl) (fun _ hc => (run_neqi (.tmp 25) (.tmp 29) e E (by kernel_rfl) (by kernel_rfl) (by kernel_rfl)).trans (by rw [hee]; rfl)) hK (by kernel_rfl) ?_
      refine hTake (i := 7) (d := some 31) (v := .bool false) (l' := #[true, true, true, true, true, true, true, true, false, false, false, false, false, false, false, false, false, false, false, false, false, false, false, false, false, false]) rfl (by kernel_rfl) (by kernel_rfl) (by kernel_rfl) (by kernel_rfl) (fun _ _ _ h => h) (by kernel_rfl) (fun _ hc => run_mvH (.tmp 30) (by kernel_rfl) (by kernel_rfl)) hK (by kernel_rfl) ?_
      refine hTake (i := 8) (d := some 32) (v := .pointer (some ⟨w.heap.size + 1, 2, none⟩)) (l' := #[true, true, true, true, true, true, true, true, true, false, false, false, false, false, false, false, false, false, false, false, false, false, false, false, false, false]) rfl (by kernel_rfl) (by kernel_rfl) (by kernel_rfl) (by kernel_rfl) (fun _ _ _ h => h) (by kernel_rfl) (fun _ hc => by kernel_rfl) hK (by kernel_rfl) ?_
      refine hTake (i := 9) (d := some 33) (v := .int .i64 dn) (l' := #[true, true, true, true, true, true, true, true, true, true, false, false, false, false, false, false, false, false, false, false, false, false, false, false, false, false]) rfl (by kernel_rfl) (by kernel_rfl) (by kernel_rfl) (by kernel_rfl) (fun _ _ _ h => h) (by kernel_rfl) (fun _ hc => run_ldi (.tmp 32) (by kernel_rfl) (by kernel_rfl) (hc _ _ q2)) hK (by kernel_rfl) ?_
      refine hTake (i := 10) (d := some 34) (v := .pointer (some ⟨w.heap.size, 0, none⟩)) (l' := #[true, true, true, true, true, true, true, true, true, true, true, false, false, false, false, false, false, false, false, false, false, false, false, false, false, false]) rfl (by kernel_rfl) (by kernel_rfl) (by kernel_rfl) (by kernel_rfl) (fun _ _ _ h => h) (by kernel_rfl) (fun _ hc => by kernel_rfl) hK (by kernel_rfl) ?_
      refine hTake (i := 11) (d := some 35) (v := .slice a n c) (l' := #[true, true, true, true, true, true, true, true, true, true, true, true, false, false, false, false, false, false, false, false, false, false, false, false, false, false]) rfl (by kernel_rfl) (by kernel_rfl) (by kernel_rfl) (by kernel_rfl) (fun _ _ _ h => h) (by kernel_rfl) (fun _ hc => run_ldts (.tmp 34) (by kernel_rfl) (by kernel_rfl) (hc _ _ p0)) hK (by kernel_rfl) ?_
      refine hTake (i := 12) (d := some 36) (v := .int .i64 n) (l' := #[true, true, true, true, true, true, true, true, true, true, true, true, true, false, false, false, false, false, false, false, false, false, false, false, false, false]) rfl (by kernel_rfl) (by kernel_rfl) (by kernel_rfl) (by kernel_rfl) (fun _ _ _ h => h) (by kernel_rfl) (fun _ hc => by kernel_rfl) hK (by kernel_rfl) ?_
      refine hTake (i := 13) (d := some 37) (v := .bool false) (l' := #[true, true, true, true, true, true, true, true, true, true, true, true, true, true, false, false, false, false, false, false, false, false, false, false, false, false]) rfl (by kernel_rfl) (by kernel_rfl) (by kernel_rfl) (by kernel_rfl) (fun _ _ _ h => h) (by kernel_rfl) (fun _ hc => (run_geqi (.tmp 33) (.tmp 36) dn n (by kernel_rfl) (by kernel_rfl) (by kernel_rfl)).trans (by rw [decide_eq_false hdl])) hK (by kernel_rfl) ?_
      refine hTake (i := 14) (d := some 38) (v := .bool false) (l' := #[true, true, true, true, true, true, true, true, true, true, true, true, true, true, true, false, false, false, false, false, false, false, false, false, false, false]) rfl (by kernel_rfl) (by kernel_rfl) (by kernel_rfl) (by kernel_rfl) (fun _ _ _ h => h) (by kernel_rfl) (fun _ hc => run_pkg (.tmp 31) (.const (.bool true)) (.tmp 37) _ (by kernel_rfl) (by kernel_rfl) (by kernel_rfl)) hK (by kernel_rfl) ?_
      refine hTake (i := 15) (d := some 39) (v := .bool false) (l' := #[true, true, true, true, true, true, true, true, true, true, true, true, true, true, true, true, false, false, false, false, false, false, false, false, false, false]) rfl (by kernel_rfl) (by kernel_rfl) (by kernel_rfl) (by kernel_rfl) (fun _ _ _ h => h) (by kernel_rfl) (fun _ hc => run_mvH (.tmp 38) (by kernel_rfl) (by kernel_rfl)) hK (by kernel_rfl) ?_
      refine hTake (i := 16) (d := some 40) (v := .agg #[.slice a n c]) (l' := #[true, true, true, true, true, true, true, true, true, true, true, true, true, true, true, true, true, false, false, false, false, false, false, false, false, false]) rfl (by kernel_rfl) (by kernel_rfl) (by kernel_rfl) (by kernel_rfl) (fun _ _ _ h => h) (by kernel_rfl) (fun _ hc => run_ldpl (.tmp 4) (by kernel_rfl) (by kernel_rfl) (hc _ _ p0)) hK (by kernel_rfl) ?_
      refine hTake (i := 17) (d := some 41) (v := .pointer (some ⟨sb, 0, none⟩)) (l' := #[true, true, true, true, true, true, true, true, true, true, true, true, true, true, true, true, true, true, false, false, false, false, false, false, false, false]) rfl (by kernel_rfl) (by kernel_rfl) (by kernel_rfl) (by kernel_rfl) (fun _ _ _ h => h) (by kernel_rfl) (fun _ hc => by kernel_rfl) hK (by kernel_rfl) ?_
      refine hTake (i := 18) (d := some 42) (v := .pointer (some ⟨sb, 0, none⟩)) (l' := #[true, true, true, true, true, true, true, true, true, true, true, true, true, true, true, true, true, true, true, false, false, false, false, false, false, false]) rfl (by kernel_rfl) (by kernel_rfl) (by kernel_rfl) (by kernel_rfl) (fun _ _ _ h => h) (by kernel_rfl) (fun _ hc => run_nc (.tmp 41) (by kernel_rfl) (by kernel_rfl)) hK (by kernel_rfl) ?_
      refine hTake (i := 19) (d := some 43) (v := .pointer (some ⟨sb, 2, none⟩)) (l' := #[true, true, true, true, true, true, true, true, true, true, true, true, true, true, true, true, true, true, true, true, false, false, false, false, false, false]) rfl (by kernel_rfl) (by kernel_rfl) (by kernel_rfl) (by kernel_rfl) (fun _ _ _ h => h) (by kernel_rfl) (fun _ hc => by kernel_rfl) hK (by kernel_rfl) ?_
      refine hTake (i := 20) (d := some 44) (v := .slice (some ⟨rb, 0, none⟩) n n) (l' := #[true, true, true, true, true, true, true, true, true, true, true, true, true, true, true, true, true, true, true, true, true, false, false, false, false, false]) rfl (by kernel_rfl) (by kernel_rfl) (by kernel_rfl) (by kernel_rfl) (fun _ _ _ h => h) (by kernel_rfl) (fun _ hc => run_ldss (.tmp 43) (by kernel_rfl) (by kernel_rfl) (hc _ _ hc2)) hK (by kernel_rfl) ?_
      refine hTake (i := 21) (d := some 45) (v := .pointer (some ⟨w.heap.size + 1, 2, none⟩)) (l' := #[true, true, true, true, true, true, true, true, true, true, true, true, true, true, true, true, true, true, true, true, true, true, false, false, false, false]) rfl (by kernel_rfl) (by kernel_rfl) (by kernel_rfl) (by kernel_rfl) (fun _ _ _ h => h) (by kernel_rfl) (fun _ hc => by kernel_rfl) hK (by kernel_rfl) ?_
      refine hTake (i := 22) (d := some 46) (v := .int .i64 dn) (l' := #[true, true, true, true, true, true, true, true, true, true, true, true, true, true, true, true, true, true, true, true, true, true, true, false, false, false]) rfl (by kernel_rfl) (by kernel_rfl) (by kernel_rfl) (by kernel_rfl) (fun _ _ _ h => h) (by kernel_rfl) (fun _ hc => run_ldi (.tmp 45) (by kernel_rfl) (by kernel_rfl) (hc _ _ q2)) hK (by kernel_rfl) ?_
      generalize hq : Act.put _ _ _ = aa
      refine hOne (i := 23) (by kernel_rfl) ?_
      refine (hCall (i := 23) (d := some 47) (f := 117) (args := #[.agg #[.slice a n c], .slice (some ⟨rb, 0, none⟩) n n, .int .i64 dn]) (l' := #[true, true, true, true, true, true, true, true, true, true, true, true, true, true, true, true, true, true, true, true, true, true, true, true, false, false]) (R := fun v w' => (∃ r : Bool, v = .bool r ∧ (r = true ↔ dueOk ts R dn)) ∧ Below W.drew.heap.size W.drew w') rfl (by kernel_rfl) (by subst hq; kernel_rfl) (by kernel_rfl) (run_cl3 (.tmp 40) (.tmp 44) (.tmp 46) #[41, 25, 3] (by kernel_rfl) (by subst hq; kernel_rfl) (by subst hq; kernel_rfl) (by subst hq; kernel_rfl) (by subst hq; kernel_rfl) enter_isDue) (HC.out.mono fun _ _ ⟨⟨r, he, hr⟩, hb⟩ => ⟨_, he, ⟨r, rfl, hr⟩, hb⟩) ?_)
      subst hq
      rintro _ w1 ⟨⟨r, rfl, hr⟩, hb1⟩
      have hK1 : Ks W w1 := fun p v hp => keepC hb1 hp
      refine ⟨hK1, ?_⟩
      cases r with
      | false =>
        have HN := hid (show ¬ dueOk ts R dn from fun hh => by have := hr.2 hh; cases this)
        clear hr
        refine hTake (i := 24) (d := some 48) (v := .bool true) (l' := #[true, true, true, true, true, true, true, true, true, true, true, true, true, true, true, true, true, true, true, true, true, true, true, true, true, false]) rfl (by kernel_rfl) (by kernel_rfl) (by kernel_rfl) (by kernel_rfl) (fun _ _ _ h => h) (by kernel_rfl) (fun _ hc => (run_nt (.tmp 47) false (by kernel_rfl) (by kernel_rfl)).trans rfl) hK1 (by kernel_rfl) ?_
        refine hTake (i := 25) (d := some 49) (v := .bool true) (l' := #[true, true, true, true, true, true, true, true, true, true, true, true, true, true, true, true, true, true, true, true, true, true, true, true, true, true]) rfl (by kernel_rfl) (by kernel_rfl) (by kernel_rfl) (by kernel_rfl) (fun _ _ _ h => h) (by kernel_rfl) (fun _ hc => run_pkg (.tmp 39) (.const (.bool true)) (.tmp 48) _ (by kernel_rfl) (by kernel_rfl) (by kernel_rfl)) hK1 (by kernel_rfl) ?_
        refine wpAnyH_done (by kernel_rfl) ?_ _
        go_simp
        go_wp2
        go_ret
        refine ⟨⟨_, rfl, fun hh => (by cases hh), fun _ => ?_⟩, (But.of hbW).trans (But.of ((Below.refl _ _).drew.trans hb1))⟩
        unfold step1
        simp [HN.out]
      | true =>
        have HN := hid (hr.1 rfl)
        clear hr
        refine hTake (i := 24) (d := some 48) (v := .bool false) (l' := #[true, true, true, true, true, true, true, true, true, true, true, true, true, true, true, true, true, true, true, true, true, true, true, true, true, false]) rfl (by kernel_rfl) (by kernel_rfl) (by kernel_rfl) (by kernel_rfl) (fun _ _ _ h => h) (by kernel_rfl) (fun _ hc => (run_nt (.tmp 47) true (by kernel_rfl) (by kernel_rfl)).trans rfl) hK1 (by kernel_rfl) ?_
        refine hTake (i := 25) (d := some 49) (v := .bool false) (l' := #[true, true, true, true, true, true, true, true, true, true, true, true, true, true, true, true, true, true, true, true, true, true, true, true, true, true]) rfl (by kernel_rfl) (by kernel_rfl) (by kernel_rfl) (by kernel_rfl) (fun _ _ _ h => h) (by kernel_rfl) (fun _ hc => run_pkg (.tmp 39) (.const (.bool true)) (.tmp 48) _ (by kernel_rfl) (by kernel_rfl) (by kernel_rfl)) hK1 (by kernel_rfl) ?_
        refine wpAnyH_done (by kernel_rfl) ?_ _
        have hr2 : OwnC B w1 1 rb 0 n n (R.map Value.string) := (HR1.out).below ((Below.refl _ _).drew.trans hb1) (HR1.out).hi
        obtain ⟨u, hu, hqq⟩ := hr2.cellSome (j := dn) (by omega)
        have hfz := hr2.notFrozen (j := dn) (by omega)
        rw [Nat.zero_add] at hqq hfz
        have hs2 : CF w1 sb [.int .i64 0, .int .i64 E, .slice (some ⟨rb, 0, none⟩) n n] := ((HS1.out).block rfl).block (hb1.block _ (by show sb < W.heap.size; omega))
        have HO2 := hid (OwnC.block (hr2.setCell (j := dn) (by omega) (.string x)) (w' := w1.drew.setCell ⟨rb, dn, none⟩ (.string x)) (by rw [Nat.zero_add]; rfl))
        have HS2 := hid (hs2.block (w' := w1.drew.setCell ⟨rb, dn, none⟩ (.string x)) (Below.heap_setCell _ _ _ _ hne))
        have hbut : But sb rb w (w1.drew.setCell ⟨rb, dn, none⟩ (.string x)) := ((But.of hbW).trans (But.of ((Below.refl _ _).drew.trans (hb1.trans (Below.refl _ _).drew)))).trans (But.setR w1.drew dn (.string x))
        have hKd : w1.drew.cell? ⟨sb, 2, none⟩ = some (.slice (some ⟨rb, 0, none⟩) n n) ∧ w1.drew.cell? ⟨w.heap.size + 1, 2, none⟩ = some (.int .i64 dn) ∧ w1.drew.cell? ⟨w.heap.size + 1, 3, none⟩ = some (.string x) := ⟨hK1 _ _ hc2, hK1 _ _ q2, hK1 _ _ q3⟩
        have hKe : (w1.drew.setCell ⟨rb, dn, none⟩ (.string x)).cell? ⟨sb, 2, none⟩ = some (.slice (some ⟨rb, 0, none⟩) n n) ∧ (w1.drew.setCell ⟨rb, dn, none⟩ (.string x)).cell? ⟨w.heap.size + 1, 2, none⟩ = some (.int .i64 dn) ∧ (w1.drew.setCell ⟨rb, dn, none⟩ (.string x)).cell? ⟨w.heap.size + 1, 3, none⟩ = some (.string x) :=
          ⟨(World.cell?_setCell_other _ _ _ _ (by intro hh; injection hh with h1 _ _; omega)).trans hKd.1, (World.cell?_setCell_other _ _ _ _ (by intro hh; injection hh with h1 _ _; omega)).trans hKd.2.1, (World.cell?_setCell_other _ _ _ _ (by intro hh; injection hh with h1 _ _; omega)).trans hKd.2.2⟩
        clear hr2 hs2 hK hb1
        go_simp
        go_upto_region 6 with fail
        refine wp_region_held (S := fun w' => w'.cell? ⟨sb, 2, none⟩ = some (.slice (some ⟨rb, 0, none⟩) n n) ∧ w'.cell? ⟨w.heap.size + 1, 2, none⟩ = some (.int .i64 dn) ∧ w'.cell? ⟨w.heap.size + 1, 3, none⟩ = some (.string x)) (by kernel_rfl) ?_
        change wpAnyH _ _ _ _ _ _ _ _ (World.drew _)
        refine hTake (i := 0) (d := some 50) (v := .pointer (some ⟨sb, 0, none⟩)) (l' := #[true, false, false, false, false, false, false, false, false, false]) rfl (by kernel_rfl) (by kernel_rfl) (by kernel_rfl) (by kernel_rfl) (fun _ _ _ h => h) (by kernel_rfl) (fun _ hc => by kernel_rfl) hKd (by kernel_rfl) ?_
        refine hTake (i := 1) (d := some 51) (v := .pointer (some ⟨sb, 0, none⟩)) (l' := #[true, true, false, false, false, false, false, false, false, false]) rfl (by kernel_rfl) (by kernel_rfl) (by kernel_rfl) (by kernel_rfl) (fun _ _ _ h => h) (by kernel_rfl) (fun _ hc => run_nc (.tmp 50) (by kernel_rfl) (by kernel_rfl)) hKd (by kernel_rfl) ?_
        refine hTake (i := 2) (d := some 52) (v := .pointer (some ⟨sb, 2, none⟩)) (l' := #[true, true, true, false, false, false, false, false, false, false]) rfl (by kernel_rfl) (by kernel_rfl) (by kernel_rfl) (by kernel_rfl) (fun _ _ _ h => h) (by kernel_rfl) (fun _ hc => by kernel_rfl) hKd (by kernel_rfl) ?_
        refine hTake (i := 3) (d := some 53) (v := .slice (some ⟨rb, 0, none⟩) n n) (l' := #[true, true, true, true, false, false, false, false, false, false]) rfl (by kernel_rfl) (by kernel_rfl) (by kernel_rfl) (by kernel_rfl) (fun _ _ _ h => h) (by kernel_rfl) (fun _ hc => run_ldss (.tmp 52) (by kernel_rfl) (by kernel_rfl) hc.1) hKd (by kernel_rfl) ?_
        refine hTake (i := 4) (d := some 54) (v := .pointer (some ⟨w.heap.size + 1, 2, none⟩)) (l' := #[true, true, true, true, true, false, false, false, false, false]) rfl (by kernel_rfl) (by kernel_rfl) (by kernel_rfl) (by kernel_rfl) (fun _ _ _ h => h) (by kernel_rfl) (fun _ hc => by kernel_rfl) hKd (by kernel_rfl) ?_
        refine hTake (i := 5) (d := some 55) (v := .int .i64 dn) (l' := #[true, true, true, true, true, true, false, false, false, false]) rfl (by kernel_rfl) (by kernel_rfl) (by kernel_rfl) (by kernel_rfl) (fun _ _ _ h => h) (by kernel_rfl) (fun _ hc => run_ldi (.tmp 54) (by kernel_rfl) (by kernel_rfl) hc.2.1) hKd (by kernel_rfl) ?_
        refine hTake (i := 6) (d := some 56) (v := .pointer (some ⟨w.heap.size + 1, 3, none⟩)) (l' := #[true, true, true, true, true, true, true, false, false, false]) rfl (by kernel_rfl) (by kernel_rfl) (by kernel_rfl) (by kernel_rfl) (fun _ _ _ h => h) (by kernel_rfl) (fun _ hc => by kernel_rfl) hKd (by kernel_rfl) ?_
        refine hTake (i := 7) (d := some 57) (v := .string x) (l' := #[true, true, true, true, true, true, true, true, false, false]) rfl (by kernel_rfl) (by kernel_rfl) (by kernel_rfl) (by kernel_rfl) (fun _ _ _ h => h) (by kernel_rfl) (fun _ hc => run_lds (.tmp 56) (by kernel_rfl) (by kernel_rfl) hc.2.2) hKd (by kernel_rfl) ?_
        refine hTake (i := 8) (d := some 58) (v := .pointer (some ⟨rb, dn, none⟩)) (l' := #[true, true, true, true, true, true, true, true, true, false]) rfl (by kernel_rfl) (by kernel_rfl) (by kernel_rfl) (by kernel_rfl) (fun _ _ _ h => h) (by kernel_rfl) (fun _ hc => run_iass (.tmp 53) (.tmp 55) rb n n dn (by kernel_rfl) (by kernel_rfl) (by kernel_rfl) hdn') hKd (by kernel_rfl) ?_
        generalize hq : Act.put _ _ _ = aa
        refine hOne (i := 9) (by kernel_rfl) ?_
        refine (hSkip (i := 9) (w' := w1.drew.setCell ⟨rb, dn, none⟩ (.string x)) (l' := #[true, true, true, true, true, true, true, true, true, true]) rfl (by kernel_rfl) (by subst hq; kernel_rfl) (by kernel_rfl) (run_sts (.tmp 58) (.tmp 57) (by kernel_rfl) (by subst hq; kernel_rfl) (by subst hq; kernel_rfl) hqq hfz) hKe ?_)
        subst hq
        refine wpAnyH_done (by kernel_rfl) ?_ _
        go_simp
        go_wp2
        go_ret
        refine ⟨⟨_, rfl, fun _ => ⟨E, R.set dn x, ?_, HS2.out, ?_⟩, fun hh => by cases hh⟩, hbut⟩
        · unfold step1
          simp [HN.out, GE.out, HL.out]
          omega
        · have := HO2.out
          rw [List.map_set]
          exact this
    · have hdl : (n : Int) ≤ d := by omega
      have hK : Ks W W.drew := fun p v hp => hp
      clear hMC hs1 hr1 hs hr h
      go_enter Tryz.func101, Tryz.ntmps101
      go_upto_region 1 with fail
      rw [← hW]
      clear hW
      go_upto_region 4 with fail
      refine wp_region_held (S := Ks W) (by kernel_rfl) ?_
      change wpAnyH _ _ _ _ _ _ _ _ (World.drew _)
      refine hTake (i := 0) (d := some 24) (v := .pointer (some ⟨w.heap.size + 1, 1, none⟩)) (l' := #[true, false, false, false, false, false, false, false, false, false, false, false, false, false, false, false, false, false, false, false, false, false, false, false, false, false]) rfl (by kernel_rfl) (by kernel_rfl) (by kernel_rfl) (by kernel_rfl) (fun _ _ _ h => h) (by kernel_rfl) (fun _ hc => by kernel_rfl) hK (by kernel_rfl) ?_
      refine hTake (i := 1) (d := some 25) (v := .int .i64 e) (l' := #[true, true, false, false, false, false, false, false, false, false, false, false, false, false, false, false, false, false, false, false, false, false, false, false, false, false]) rfl (by kernel_rfl) (by kernel_rfl) (by kernel_rfl) (by kernel_rfl) (fun _ _ _ h => h) (by kernel_rfl) (fun _ hc => run_ldi (.tmp 24) (by kernel_rfl) (by kernel_rfl) (hc _ _ q1)) hK (by kernel_rfl) ?_
      refine hTake (i := 2) (d := some 26) (v := .pointer (some ⟨sb, 0, none⟩)) (l' := #[true, true, true, false, false, false, false, false, false, false, false, false, false, false, false, false, false, false, false, false, false, false, false, false, false, false]) rfl (by kernel_rfl) (by kernel_rfl) (by kernel_rfl) (by kernel_rfl) (fun _ _ _ h => h) (by kernel_rfl) (fun _ hc => by kernel_rfl) hK (by kernel_rfl) ?_
      refine hTake (i := 3) (d := some 27) (v := .pointer (some ⟨sb, 0, none⟩)) (l' := #[true, true, true, true, false, false, false, false, false, false, false, false, false, false, false, false, false, false, false, false, false, false, false, false, false, false]) rfl (by kernel_rfl) (by kernel_rfl) (by kernel_rfl) (by kernel_rfl) (fun _ _ _ h => h) (by kernel_rfl) (fun _ hc => run_nc (.tmp 26) (by kernel_rfl) (by kernel_rfl)) hK (by kernel_rfl) ?_
      refine hTake (i := 4) (d := some 28) (v := .pointer (some ⟨sb, 1, none⟩)) (l' := #[true, true, true, true, true, false, false, false, false, false, false, false, false, false, false, false, false, false, false, false, false, false, false, false, false, false]) rfl (by kernel_rfl) (by kernel_rfl) (by kernel_rfl) (by kernel_rfl) (fun _ _ _ h => h) (by kernel_rfl) (fun _ hc => by kernel_rfl) hK (by kernel_rfl) ?_
      refine hTake (i := 5) (d := some 29) (v := .int .i64 E) (l' := #[true, true, true, true, true, true, false, false, false, false, false, false, false, false, false, false, false, false, false, false, false, false, false, false, false, false]) rfl (by kernel_rfl) (by kernel_rfl) (by kernel_rfl) (by kernel_rfl) (fun _ _ _ h => h) (by kernel_rfl) (fun _ hc => run_ldi (.tmp 28) (by kernel_rfl) (by kernel_rfl) (hc _ _ hc1)) hK (by kernel_rfl) ?_
      refine hTake (i := 6) (d := some 30) (v := .bool false) (l' := #[true, true, true, true, true, true, true, false, false, false, false, false, false, false, false, false, false, false, false, false, false, false, false, false, false, false]) rfl (by kernel_rfl) (by kernel_rfl) (by kernel_rfl) (by kernel_rfl) (fun _ _ _ h => h) (by kernel_rfl) (fun _ hc => (run_neqi (.tmp 25) (.tmp 29) e E (by kernel_rfl) (by kernel_rfl) (by kernel_rfl)).trans (by rw [hee]; rfl)) hK (by kernel_rfl) ?_
      refine hTake (i := 7) (d := some 31) (v := .bool false) (l' := #[true, true, true, true, true, true, true, true, false, false, false, false, false, false, false, false, false, false, false, false, false, false, false, false, false, false]) rfl (by kernel_rfl) (by kernel_rfl) (by kernel_rfl) (by kernel_rfl) (fun _ _ _ h => h) (by kernel_rfl) (fun _ hc => run_mvH (.tmp 30) (by kernel_rfl) (by kernel_rfl)) hK (by kernel_rfl) ?_
      refine hTake (i := 8) (d := some 32) (v := .pointer (some ⟨w.heap.size + 1, 2, none⟩)) (l' := #[true, true, true, true, true, true, true, true, true, false, false, false, false, false, false, false, false, false, false, false, false, false, false, false, false, false]) rfl (by kernel_rfl) (by kernel_rfl) (by kernel_rfl) (by kernel_rfl) (fun _ _ _ h => h) (by kernel_rfl) (fun _ hc => by kernel_rfl) hK (by kernel_rfl) ?_
      refine hTake (i := 9) (d := some 33) (v := .int .i64 d) (l' := #[true, true, true, true, true, true, true, true, true, true, false, false, false, false, false, false, false, false, false, false, false, false, false, false, false, false]) rfl (by kernel_rfl) (by kernel_rfl) (by kernel_rfl) (by kernel_rfl) (fun _ _ _ h => h) (by kernel_rfl) (fun _ hc => run_ldi (.tmp 32) (by kernel_rfl) (by kernel_rfl) (hc _ _ q2)) hK (by kernel_rfl) ?_
      refine hTake (i := 10) (d := some 34) (v := .pointer (some ⟨w.heap.size, 0, none⟩)) (l' := #[true, true, true, true, true, true, true, true, true, true, true, false, false, false, false, false, false, false, false, false, false, false, false, false, false, false]) rfl (by kernel_rfl) (by kernel_rfl) (by kernel_rfl) (by kernel_rfl) (fun _ _ _ h => h) (by kernel_rfl) (fun _ hc => by kernel_rfl) hK (by kernel_rfl) ?_
      refine hTake (i := 11) (d := some 35) (v := .slice a n c) (l' := #[true, true, true, true, true, true, true, true, true, true, true, true, false, false, false, false, false, false, false, false, false, false, false, false, false, false]) rfl (by kernel_rfl) (by kernel_rfl) (by kernel_rfl) (by kernel_rfl) (fun _ _ _ h => h) (by kernel_rfl) (fun _ hc => run_ldts (.tmp 34) (by kernel_rfl) (by kernel_rfl) (hc _ _ p0)) hK (by kernel_rfl) ?_
      refine hTake (i := 12) (d := some 36) (v := .int .i64 n) (l' := #[true, true, true, true, true, true, true, true, true, true, true, true, true, false, false, false, false, false, false, false, false, false, false, false, false, false]) rfl (by kernel_rfl) (by kernel_rfl) (by kernel_rfl) (by kernel_rfl) (fun _ _ _ h => h) (by kernel_rfl) (fun _ hc => by kernel_rfl) hK (by kernel_rfl) ?_
      refine hTake (i := 13) (d := some 37) (v := .bool true) (l' := #[true, true, true, true, true, true, true, true, true, true, true, true, true, true, false, false, false, false, false, false, false, false, false, false, false, false]) rfl (by kernel_rfl) (by kernel_rfl) (by kernel_rfl) (by kernel_rfl) (fun _ _ _ h => h) (by kernel_rfl) (fun _ hc => (run_geqi (.tmp 33) (.tmp 36) d n (by kernel_rfl) (by kernel_rfl) (by kernel_rfl)).trans (by rw [decide_eq_true hdl])) hK (by kernel_rfl) ?_
      refine hTake (i := 14) (d := some 38) (v := .bool true) (l' := #[true, true, true, true, true, true, true, true, true, true, true, true, true, true, true, false, false, false, false, false, false, false, false, false, false, false]) rfl (by kernel_rfl) (by kernel_rfl) (by kernel_rfl) (by kernel_rfl) (fun _ _ _ h => h) (by kernel_rfl) (fun _ hc => run_pkg (.tmp 31) (.const (.bool true)) (.tmp 37) _ (by kernel_rfl) (by kernel_rfl) (by kernel_rfl)) hK (by kernel_rfl) ?_
      refine hTake (i := 15) (d := some 39) (v := .bool true) (l' := #[true, true, true, true, true, true, true, true, true, true, true, true, true, true, true, true, false, false, false, false, false, false, false, false, false, false]) rfl (by kernel_rfl) (by kernel_rfl) (by kernel_rfl) (by kernel_rfl) (fun _ _ _ h => h) (by kernel_rfl) (fun _ hc => run_mvH (.tmp 38) (by kernel_rfl) (by kernel_rfl)) hK (by kernel_rfl) ?_
      refine hTakeN (i := 16) (d := some 40) (l' := #[true, true, true, true, true, true, true, true, true, true, true, true, true, true, true, true, true, false, false, false, false, false, false, false, false, false]) rfl (by kernel_rfl) (by kernel_rfl) (by kernel_rfl) (by kernel_rfl) (fun _ _ _ h => h) (by kernel_rfl) hK (by kernel_rfl) ?_
      refine hTakeN (i := 17) (d := some 41) (l' := #[true, true, true, true, true, true, true, true, true, true, true, true, true, true, true, true, true, true, false, false, false, false, false, false, false, false]) rfl (by kernel_rfl) (by kernel_rfl) (by kernel_rfl) (by kernel_rfl) (fun _ _ _ h => h) (by kernel_rfl) hK (by kernel_rfl) ?_
      refine hTakeN (i := 18) (d := some 42) (l' := #[true, true, true, true, true, true, true, true, true, true, true, true, true, true, true, true, true, true, true, false, false, false, false, false, false, false]) rfl (by kernel_rfl) (by kernel_rfl) (by kernel_rfl) (by kernel_rfl) (fun _ _ _ h => h) (by kernel_rfl) hK (by kernel_rfl) ?_
      refine hTakeN (i := 19) (d := some 43) (l' := #[true, true, true, true, true, true, true, true, true, true, true, true, true, true, true, true, true, true, true, true, false, false, false, false, false, false]) rfl (by kernel_rfl) (by kernel_rfl) (by kernel_rfl) (by kernel_rfl) (fun _ _ _ h => h) (by kernel_rfl) hK (by kernel_rfl) ?_
      refine hTakeN (i := 20) (d := some 44) (l' := #[true, true, true, true, true, true, true, true, true, true, true, true, true, true, true, true, true, true, true, true, true, false, false, false, false, false]) rfl (by kernel_rfl) (by kernel_rfl) (by kernel_rfl) (by kernel_rfl) (fun _ _ _ h => h) (by kernel_rfl) hK (by kernel_rfl) ?_
      refine hTakeN (i := 21) (d := some 45) (l' := #[true, true, true, true, true, true, true, true, true, true, true, true, true, true, true, true, true, true, true, true, true, true, false, false, false, false]) rfl (by kernel_rfl) (by kernel_rfl) (by kernel_rfl) (by kernel_rfl) (fun _ _ _ h => h) (by kernel_rfl) hK (by kernel_rfl) ?_
      refine hTakeN (i := 22) (d := some 46) (l' := #[true, true, true, true, true, true, true, true, true, true, true, true, true, true, true, true, true, true, true, true, true, true, true, false, false, false]) rfl (by kernel_rfl) (by kernel_rfl) (by kernel_rfl) (by kernel_rfl) (fun _ _ _ h => h) (by kernel_rfl) hK (by kernel_rfl) ?_
      refine hTakeN (i := 23) (d := some 47) (l' := #[true, true, true, true, true, true, true, true, true, true, true, true, true, true, true, true, true, true, true, true, true, true, true, true, false, false]) rfl (by kernel_rfl) (by kernel_rfl) (by kernel_rfl) (by kernel_rfl) (fun _ _ _ h => h) (by kernel_rfl) hK (by kernel_rfl) ?_
      refine hTakeN (i := 24) (d := some 48) (l' := #[true, true, true, true, true, true, true, true, true, true, true, true, true, true, true, true, true, true, true, true, true, true, true, true, true, false]) rfl (by kernel_rfl) (by kernel_rfl) (by kernel_rfl) (by kernel_rfl) (fun _ _ _ h => h) (by kernel_rfl) hK (by kernel_rfl) ?_
      refine hTake (i := 25) (d := some 49) (v := .bool true) (l' := #[true, true, true, true, true, true, true, true, true, true, true, true, true, true, true, true, true, true, true, true, true, true, true, true, true, true]) rfl (by kernel_rfl) (by kernel_rfl) (by kernel_rfl) (by kernel_rfl) (fun _ _ _ h => h) (by kernel_rfl) (fun _ hc => run_pkt (.tmp 39) (.const (.bool true)) (.tmp 48) _ (by kernel_rfl) (by kernel_rfl) (by kernel_rfl)) hK (by kernel_rfl) ?_
      refine wpAnyH_done (by kernel_rfl) ?_ _
      go_simp
      go_wp2
      go_ret
      refine ⟨⟨_, rfl, fun hh => (by cases hh), fun _ => ?_⟩, (But.of hbW).trans (But.of (Below.refl _ _).drew)⟩
      unfold step1
      simp [HL.out]
      omega
  · have hee : (e == E) = false := by simpa using he
    have GE := hid he
    clear he
    have hK : Ks W W.drew := fun p v hp => hp
    clear hMC hs1 hr1 hs hr h
    go_enter Tryz.func101, Tryz.ntmps101
    go_upto_region 1 with fail
    rw [← hW]
    clear hW
    go_upto_region 4 with fail
    refine wp_region_held (S := Ks W) (by kernel_rfl) ?_
    change wpAnyH _ _ _ _ _ _ _ _ (World.drew _)
    refine hTake (i := 0) (d := some 24) (v := .pointer (some ⟨w.heap.size + 1, 1, none⟩)) (l' := #[true, false, false, false, false, false, false, false, false, false, false, false, false, false, false, false, false, false, false, false, false, false, false, false, false, false]) rfl (by kernel_rfl) (by kernel_rfl) (by kernel_rfl) (by kernel_rfl) (fun _ _ _ h => h) (by kernel_rfl) (fun _ hc => by kernel_rfl) hK (by kernel_rfl) ?_
    refine hTake (i := 1) (d := some 25) (v := .int .i64 e) (l' := #[true, true, false, false, false, false, false, false, false, false, false, false, false, false, false, false, false, false, false, false, false, false, false, false, false, false]) rfl (by kernel_rfl) (by kernel_rfl) (by kernel_rfl) (by kernel_rfl) (fun _ _ _ h => h) (by kernel_rfl) (fun _ hc => run_ldi (.tmp 24) (by kernel_rfl) (by kernel_rfl) (hc _ _ q1)) hK (by kernel_rfl) ?_
    refine hTake (i := 2) (d := some 26) (v := .pointer (some ⟨sb, 0, none⟩)) (l' := #[true, true, true, false, false, false, false, false, false, false, false, false, false, false, false, false, false, false, false, false, false, false, false, false, false, false]) rfl (by kernel_rfl) (by kernel_rfl) (by kernel_rfl) (by kernel_rfl) (fun _ _ _ h => h) (by kernel_rfl) (fun _ hc => by kernel_rfl) hK (by kernel_rfl) ?_
    refine hTake (i := 3) (d := some 27) (v := .pointer (some ⟨sb, 0, none⟩)) (l' := #[true, true, true, true, false, false, false, false, false, false, false, false, false, false, false, false, false, false, false, false, false, false, false, false, false, false]) rfl (by kernel_rfl) (by kernel_rfl) (by kernel_rfl) (by kernel_rfl) (fun _ _ _ h => h) (by kernel_rfl) (fun _ hc => run_nc (.tmp 26) (by kernel_rfl) (by kernel_rfl)) hK (by kernel_rfl) ?_
    refine hTake (i := 4) (d := some 28) (v := .pointer (some ⟨sb, 1, none⟩)) (l' := #[true, true, true, true, true, false, false, false, false, false, false, false, false, false, false, false, false, false, false, false, false, false, false, false, false, false]) rfl (by kernel_rfl) (by kernel_rfl) (by kernel_rfl) (by kernel_rfl) (fun _ _ _ h => h) (by kernel_rfl) (fun _ hc => by kernel_rfl) hK (by kernel_rfl) ?_
    refine hTake (i := 5) (d := some 29) (v := .int .i64 E) (l' := #[true, true, true, true, true, true, false, false, false, false, false, false, false, false, false, false, false, false, false, false, false, false, false, false, false, false]) rfl (by kernel_rfl) (by kernel_rfl) (by kernel_rfl) (by kernel_rfl) (fun _ _ _ h => h) (by kernel_rfl) (fun _ hc => run_ldi (.tmp 28) (by kernel_rfl) (by kernel_rfl) (hc _ _ hc1)) hK (by kernel_rfl) ?_
    refine hTake (i := 6) (d := some 30) (v := .bool true) (l' := #[true, true, true, true, true, true, true, false, false, false, false, false, false, false, false, false, false, false, false, false, false, false, false, false, false, false]) rfl (by kernel_rfl) (by kernel_rfl) (by kernel_rfl) (by kernel_rfl) (fun _ _ _ h => h) (by kernel_rfl) (fun _ hc => (run_neqi (.tmp 25) (.tmp 29) e E (by kernel_rfl) (by kernel_rfl) (by kernel_rfl)).trans (by rw [hee]; rfl)) hK (by kernel_rfl) ?_
    refine hTake (i := 7) (d := some 31) (v := .bool true) (l' := #[true, true, true, true, true, true, true, true, false, false, false, false, false, false, false, false, false, false, false, false, false, false, false, false, false, false]) rfl (by kernel_rfl) (by kernel_rfl) (by kernel_rfl) (by kernel_rfl) (fun _ _ _ h => h) (by kernel_rfl) (fun _ hc => run_mvH (.tmp 30) (by kernel_rfl) (by kernel_rfl)) hK (by kernel_rfl) ?_
    refine hTakeN (i := 8) (d := some 32) (l' := #[true, true, true, true, true, true, true, true, true, false, false, false, false, false, false, false, false, false, false, false, false, false, false, false, false, false]) rfl (by kernel_rfl) (by kernel_rfl) (by kernel_rfl) (by kernel_rfl) (fun _ _ _ h => h) (by kernel_rfl) hK (by kernel_rfl) ?_
    refine hTakeN (i := 9) (d := some 33) (l' := #[true, true, true, true, true, true, true, true, true, true, false, false, false, false, false, false, false, false, false, false, false, false, false, false, false, false]) rfl (by kernel_rfl) (by kernel_rfl) (by kernel_rfl) (by kernel_rfl) (fun _ _ _ h => h) (by kernel_rfl) hK (by kernel_rfl) ?_
    refine hTakeN (i := 10) (d := some 34) (l' := #[true, true, true, true, true, true, true, true, true, true, true, false, false, false, false, false, false, false, false, false, false, false, false, false, false, false]) rfl (by kernel_rfl) (by kernel_rfl) (by kernel_rfl) (by kernel_rfl) (fun _ _ _ h => h) (by kernel_rfl) hK (by kernel_rfl) ?_
    refine hTakeN (i := 11) (d := some 35) (l' := #[true, true, true, true, true, true, true, true, true, true, true, true, false, false, false, false, false, false, false, false, false, false, false, false, false, false]) rfl (by kernel_rfl) (by kernel_rfl) (by kernel_rfl) (by kernel_rfl) (fun _ _ _ h => h) (by kernel_rfl) hK (by kernel_rfl) ?_
    refine hTakeN (i := 12) (d := some 36) (l' := #[true, true, true, true, true, true, true, true, true, true, true, true, true, false, false, false, false, false, false, false, false, false, false, false, false, false]) rfl (by kernel_rfl) (by kernel_rfl) (by kernel_rfl) (by kernel_rfl) (fun _ _ _ h => h) (by kernel_rfl) hK (by kernel_rfl) ?_
    refine hTakeN (i := 13) (d := some 37) (l' := #[true, true, true, true, true, true, true, true, true, true, true, true, true, true, false, false, false, false, false, false, false, false, false, false, false, false]) rfl (by kernel_rfl) (by kernel_rfl) (by kernel_rfl) (by kernel_rfl) (fun _ _ _ h => h) (by kernel_rfl) hK (by kernel_rfl) ?_
    refine hTake (i := 14) (d := some 38) (v := .bool true) (l' := #[true, true, true, true, true, true, true, true, true, true, true, true, true, true, true, false, false, false, false, false, false, false, false, false, false, false]) rfl (by kernel_rfl) (by kernel_rfl) (by kernel_rfl) (by kernel_rfl) (fun _ _ _ h => h) (by kernel_rfl) (fun _ hc => run_pkt (.tmp 31) (.const (.bool true)) (.tmp 37) _ (by kernel_rfl) (by kernel_rfl) (by kernel_rfl)) hK (by kernel_rfl) ?_
    refine hTake (i := 15) (d := some 39) (v := .bool true) (l' := #[true, true, true, true, true, true, true, true, true, true, true, true, true, true, true, true, false, false, false, false, false, false, false, false, false, false]) rfl (by kernel_rfl) (by kernel_rfl) (by kernel_rfl) (by kernel_rfl) (fun _ _ _ h => h) (by kernel_rfl) (fun _ hc => run_mvH (.tmp 38) (by kernel_rfl) (by kernel_rfl)) hK (by kernel_rfl) ?_
    refine hTakeN (i := 16) (d := some 40) (l' := #[true, true, true, true, true, true, true, true, true, true, true, true, true, true, true, true, true, false, false, false, false, false, false, false, false, false]) rfl (by kernel_rfl) (by kernel_rfl) (by kernel_rfl) (by kernel_rfl) (fun _ _ _ h => h) (by kernel_rfl) hK (by kernel_rfl) ?_
    refine hTakeN (i := 17) (d := some 41) (l' := #[true, true, true, true, true, true, true, true, true, true, true, true, true, true, true, true, true, true, false, false, false, false, false, false, false, false]) rfl (by kernel_rfl) (by kernel_rfl) (by kernel_rfl) (by kernel_rfl) (fun _ _ _ h => h) (by kernel_rfl) hK (by kernel_rfl) ?_
    refine hTakeN (i := 18) (d := some 42) (l' := #[true, true, true, true, true, true, true, true, true, true, true, true, true, true, true, true, true, true, true, false, false, false, false, false, false, false]) rfl (by kernel_rfl) (by kernel_rfl) (by kernel_rfl) (by kernel_rfl) (fun _ _ _ h => h) (by kernel_rfl) hK (by kernel_rfl) ?_
    refine hTakeN (i := 19) (d := some 43) (l' := #[true, true, true, true, true, true, true, true, true, true, true, true, true, true, true, true, true, true, true, true, false, false, false, false, false, false]) rfl (by kernel_rfl) (by kernel_rfl) (by kernel_rfl) (by kernel_rfl) (fun _ _ _ h => h) (by kernel_rfl) hK (by kernel_rfl) ?_
    refine hTakeN (i := 20) (d := some 44) (l' := #[true, true, true, true, true, true, true, true, true, true, true, true, true, true, true, true, true, true, true, true, true, false, false, false, false, false]) rfl (by kernel_rfl) (by kernel_rfl) (by kernel_rfl) (by kernel_rfl) (fun _ _ _ h => h) (by kernel_rfl) hK (by kernel_rfl) ?_
    refine hTakeN (i := 21) (d := some 45) (l' := #[true, true, true, true, true, true, true, true, true, true, true, true, true, true, true, true, true, true, true, true, true, true, false, false, false, false]) rfl (by kernel_rfl) (by kernel_rfl) (by kernel_rfl) (by kernel_rfl) (fun _ _ _ h => h) (by kernel_rfl) hK (by kernel_rfl) ?_
    refine hTakeN (i := 22) (d := some 46) (l' := #[true, true, true, true, true, true, true, true, true, true, true, true, true, true, true, true, true, true, true, true, true, true, true, false, false, false]) rfl (by kernel_rfl) (by kernel_rfl) (by kernel_rfl) (by kernel_rfl) (fun _ _ _ h => h) (by kernel_rfl) hK (by kernel_rfl) ?_
    refine hTakeN (i := 23) (d := some 47) (l' := #[true, true, true, true, true, true, true, true, true, true, true, true, true, true, true, true, true, true, true, true, true, true, true, true, false, false]) rfl (by kernel_rfl) (by kernel_rfl) (by kernel_rfl) (by kernel_rfl) (fun _ _ _ h => h) (by kernel_rfl) hK (by kernel_rfl) ?_
    refine hTakeN (i := 24) (d := some 48) (l' := #[true, true, true, true, true, true, true, true, true, true, true, true, true, true, true, true, true, true, true, true, true, true, true, true, true, false]) rfl (by kernel_rfl) (by kernel_rfl) (by kernel_rfl) (by kernel_rfl) (fun _ _ _ h => h) (by kernel_rfl) hK (by kernel_rfl) ?_
    refine hTake (i := 25) (d := some 49) (v := .bool true) (l' := #[true, true, true, true, true, true, true, true, true, true, true, true, true, true, true, true, true, true, true, true, true, true, true, true, true, true]) rfl (by kernel_rfl) (by kernel_rfl) (by kernel_rfl) (by kernel_rfl) (fun _ _ _ h => h) (by kernel_rfl) (fun _ hc => run_pkt (.tmp 39) (.const (.bool true)) (.tmp 48) _ (by kernel_rfl) (by kernel_rfl) (by kernel_rfl)) hK (by kernel_rfl) ?_
    refine wpAnyH_done (by kernel_rfl) ?_ _
    go_simp
    go_wp2
    go_ret
    refine ⟨⟨_, rfl, fun hh => (by cases hh), fun _ => ?_⟩, (But.of hbW).trans (But.of (Below.refl _ _).drew)⟩
    unfold step1
    simp [GE.out]
theorem goOn_any (a : Option Addr) (b o n c : Nat) (ts : List TaskD) (B sb rb : Nat) (E : Int) (R : List ByteArray) (k e d : Int) (x : ByteArray) (w : World) (h : TasksAt w a b o n ts) (hA : allDeps ts n)
    (hs : CF w sb [.int .i64 0, .int .i64 E, .slice (some ⟨rb, 0, none⟩) n n]) (hr : OwnC B w 1 rb 0 n n (R.map Value.string)) (hz : ∀ s ∈ R, s.size ≤ 8) (hne : sb ≠ rb) (hE0 : 0 ≤ E) (hE1 : E ≤ 100000) (hv : vE k e d x.size) :
    Calls Tryz.prog 101 #[.pointer (some ⟨sb, 0, none⟩), .agg #[.slice a n c], .agg #[.int .i64 k, .int .i64 e, .int .i64 d, .string x]] w fun e' w' => RetG B sb rb n ts (E, R) (k, e, d, x) e' w' ∧ But sb rb w w' := by
  have hv' := hv
  unfold vE at hv'
  rcases hv' with ⟨rfl, _⟩ | ⟨rfl, _, _, hd, _⟩
  · exact goOn_1 a n c ts B sb rb E R e d x w hs hr hne hE0 hE1
  · exact goOn_2 a b o n c ts B sb rb E R e d x w h hA hs hr hz hne hd
end Go.Proofs.YthopfmhagddhgaaGreat
