
import Derived.Test.YtimpfhfgcmipgaaDoorQEq
import Derived.Test.YtimpfhfgcmipgaaDoorQCel
import Derived.Test.YtimpfhfgcmipgaaDoorQLawVal
import Derived.Test.YtimpfhfgcmipgaaDoorQHld
namespace Go.Proofs.YtimpfhfgcmipgaaDoor
open Go.RowKit

def Dn (x y : Option Nat) : Prop := x = none ∨ x ≠ y
theorem Dn.symm {x y : Option Nat} (h : Dn x y) : Dn y x := by
  rcases h with rfl | h
  · cases y with
    | none => exact .inl rfl
    | some q => exact .inr (by simp)
  · exact .inr (fun e => h e.symm)
theorem Dn.later {x y : Option Nat} {m : Nat} (hx : ∀ q, x = some q → q < m) (hy : ∀ q, y = some q → m ≤ q) : Dn x y := by
  cases x with
  | none => exact .inl rfl
  | some q => exact .inr (fun e => by have h5 := hx q rfl; have h6 := hy q e.symm; omega)
def nilV : Value := .slice none 0 0
def tcell (t : TaskD) (v : Value) : List Value := [.string t.name, .int .i64 t.cost, v]
/-- The cells of a row of tasks with these lists. -/
def rowC (ts : List TaskD) (vs : List Value) : List Value := (List.range ts.length).flatMap fun j => tcell (ts.getD j dT) (vs.getD j nilV)
theorem flat3 (f : Nat → List Value) (hf : ∀ j, (f j).length = 3) (n : Nat) : ((List.range n).flatMap f).length = n * 3 := by
  induction n with
  | zero => rfl
  | succ n ih => rw [List.range_succ, List.flatMap_append, List.length_append, ih]; simp [hf]; omega
theorem flat3_get (f : Nat → List Value) (hf : ∀ j, (f j).length = 3) (n j r : Nat) (hj : j < n) (hr : r < 3) : ((List.range n).flatMap f)[j * 3 + r]? = (f j)[r]? := by
  induction n with
  | zero => omega
  | succ n ih =>
    rw [List.range_succ, List.flatMap_append]
    have hl := flat3 f hf n
    by_cases h : j < n
    · rw [List.getElem?_append_left (by omega)]; exact ih h
    · obtain rfl : j = n := by omega
      rw [List.getElem?_append_right (by omega), hl, show j * 3 + r - j * 3 = r by omega]
      simp
theorem rowC_length (ts : List TaskD) (vs : List Value) : (rowC ts vs).length = ts.length * 3 := flat3 _ (fun _ => rfl) _
theorem rowC_get (ts : List TaskD) (vs : List Value) (j r : Nat) (hj : j < ts.length) (hr : r < 3) : (rowC ts vs)[j * 3 + r]? = (tcell (ts.getD j dT) (vs.getD j nilV))[r]? := flat3_get _ (fun _ => rfl) _ j r hj hr
theorem ext3 {xs ys : List Value} {n : Nat} (hx : xs.length = n * 3) (hy : ys.length = n * 3) (h : ∀ j r, j < n → r < 3 → xs[j * 3 + r]? = ys[j * 3 + r]?) : xs = ys := by
  refine List.ext_getElem? fun i => ?_
  by_cases hi : i < n * 3
  · have := h (i / 3) (i % 3) (by omega) (by omega)
    rwa [show i / 3 * 3 + i % 3 = i by omega] at this
  · rw [List.getElem?_eq_none (by omega), List.getElem?_eq_none (by omega)]
theorem rowC_snoc (ts : List TaskD) (vs : List Value) (t : TaskD) (v : Value) (hl : vs.length = ts.length) : rowC (ts ++ [t]) (vs ++ [v]) = rowC ts vs ++ tcell t v := by
  refine ext3 (n := ts.length + 1) (by simp [rowC_length]) (by simp [rowC_length, tcell]; omega) fun j r hj hr => ?_
  rw [rowC_get _ _ _ _ (by simp; omega) hr]
  by_cases e : j < ts.length
  · rw [List.getElem?_append_left (by rw [rowC_length]; omega), rowC_get _ _ _ _ e hr]
    simp [List.getD, List.getElem?_append_left e, List.getElem?_append_left (show j < vs.length by omega)]
  · obtain rfl : j = ts.length := by omega
    rw [List.getElem?_append_right (by rw [rowC_length]; omega), rowC_length, show ts.length * 3 + r - ts.length * 3 = r by omega]
    have g3 : (ts ++ [t]).getD ts.length dT = t := by simp [List.getD]
    have g4 : (vs ++ [v]).getD ts.length nilV = v := by rw [← hl]; simp [List.getD]
    rw [g3, g4]
/-- A plan of a call's own. -/
structure PlanO (w : World) (B : Nat) (v : Value) (ts : List TaskD) (vs : List Value) : Prop where
  len : vs.length = ts.length
  row : Own B w 3 v ts.length (rowC ts vs)
  dep : ∀ j, j < ts.length → Own B w 1 (vs.getD j nilV) (ts.getD j dT).deps.length ((ts.getD j dT).deps.map (Value.int .i64))
  dr : ∀ j, j < ts.length → Dn (vs.getD j nilV).ownBlock v.ownBlock
  dd : ∀ i j, i < j → j < ts.length → Dn (vs.getD i nilV).ownBlock (vs.getD j nilV).ownBlock
/-- What the tasks hold fits. -/
def fitT (ts : List TaskD) : Prop := ∀ j, j < ts.length → (ts.getD j dT).name.size ≤ maxLen ∧ I64 (ts.getD j dT).cost ∧ ∀ x ∈ (ts.getD j dT).deps, I64 x
theorem PlanO.nil (w : World) (B : Nat) : PlanO w B nilV [] [] := ⟨rfl, Own.nil _ _ _, fun j hj => absurd hj (by simp), fun j hj => absurd hj (by simp), fun i j _ hj => absurd hj (by simp)⟩
theorem Own.intsAt {B : Nat} {w : World} {v : Value} {ns : List Int} (h : Own B w 1 v ns.length (ns.map (Value.int .i64))) (hz : ∀ x ∈ ns, I64 x) : ∃ a b o c, v = .slice a ns.length c ∧ IntsAt w a b o ns.length ns := by
  rcases h with ⟨rfl, hn, hx⟩ | ⟨g, o, cap, rfl, hc⟩
  · have : ns = [] := by simpa using hx
    subst this
    exact ⟨none, 0, 0, 0, rfl, fun h => absurd h (by simp), rfl, Nat.zero_le _, fun h => absurd h (by simp), fun j hj => absurd hj (by simp), by simp⟩
  · exact ⟨_, g, o, cap, rfl, IntsAt.ofOwn hc hz⟩
theorem PlanO.tasks {w : World} {B : Nat} {v : Value} {ts : List TaskD} {vs : List Value} (h : PlanO w B v ts vs) (hf : fitT ts) (hm : ts.length ≤ maxLen) : ∃ a b o c, v = .slice a ts.length c ∧ TasksAt w a b o ts.length ts := by
  have hrow := h.row
  rcases hrow with ⟨hv, hn, _⟩ | ⟨g, o, cap, hv, hc⟩
  · refine ⟨none, 0, 0, 0, by rw [hv, hn], ?_⟩
    exact ⟨fun h => absurd h (by omega), rfl, hm, fun h => absurd h (by omega), fun j hj => absurd hj (by omega), fun j hj => absurd hj (by omega), fun j hj => absurd hj (by omega), fun j hj => absurd hj (by omega)⟩
  · have hol : ∀ j r, j < ts.length → r < 3 → w.cell? ⟨g, o + (j * 3 + r), none⟩ = (tcell (ts.getD j dT) (vs.getD j nilV))[r]? := fun j r hj hr => by
      rw [hc.holds (j * 3 + r) (by omega)]; exact rowC_get ts vs j r hj hr
    refine ⟨_, g, o, cap, hv, fun _ => rfl, rfl, hm, fun _ => hc.hi, fun j hj => hol j 0 hj (by omega), fun j hj => ?_, fun j hj => ?_, fun j hj => ⟨(hf j hj).1, (hf j hj).2.1⟩⟩
    · rw [Nat.add_assoc]; exact hol j 1 hj (by omega)
    · obtain ⟨a', b', o', c', he, hi⟩ := (h.dep j hj).intsAt (hf j hj).2.2
      refine ⟨a', b', o', _, c', ?_, hi⟩
      rw [Nat.add_assoc, hol j 2 hj (by omega), ← he]; rfl
theorem Own.blkP {B : Nat} {w w' : World} {size : Nat} {v : Value} {n : Nat} {xs : List Value} (h : Own B w size v n xs) (hb : ∀ q, v.ownBlock = some q → w'.heap[q]? = w.heap[q]?) : Own B w' size v n xs := by
  rcases h with h | ⟨g, o, cap, rfl, hc⟩
  · exact .inl h
  · exact .inr ⟨g, o, cap, rfl, hc.block (hb g rfl)⟩
/-- Blocks that stay keep the plan. -/
theorem PlanO.blk {w w' : World} {B : Nat} {v : Value} {ts : List TaskD} {vs : List Value} (h : PlanO w B v ts vs) (hb : ∀ q, B ≤ q → q < w.heap.size → w'.heap[q]? = w.heap[q]?) : PlanO w' B v ts vs :=
  ⟨h.len, h.row.blkP (fun q hq => hb q (h.row.row_lo q hq) (h.row.row_hi q hq)), fun j hj => (h.dep j hj).blkP (fun q hq => hb q ((h.dep j hj).row_lo q hq) ((h.dep j hj).row_hi q hq)), h.dr, h.dd⟩
theorem PlanO.below {w w' : World} {B : Nat} {v : Value} {ts : List TaskD} {vs : List Value} (h : PlanO w B v ts vs) (hb : Below w.heap.size w w') : PlanO w' B v ts vs := h.blk (fun q _ hq => hb.block q hq)
theorem PlanO.mono {w : World} {B B' : Nat} {v : Value} {ts : List TaskD} {vs : List Value} (h : PlanO w B v ts vs) (hB : B' ≤ B) : PlanO w B' v ts vs :=
  ⟨h.len, h.row.mono' hB, fun j hj => (h.dep j hj).mono' hB, h.dr, h.dd⟩
/-- One more task: the row has grown, its list is new. -/
theorem PlanO.snoc {w : World} {B : Nat} {v' : Value} {ts : List TaskD} {vs : List Value} {t : TaskD} {u : Value} (hl : vs.length = ts.length) (hdep : ∀ j, j < ts.length → Own B w 1 (vs.getD j nilV) (ts.getD j dT).deps.length ((ts.getD j dT).deps.map (Value.int .i64))) (hdd : ∀ i j, i < j → j < ts.length → Dn (vs.getD i nilV).ownBlock (vs.getD j nilV).ownBlock)
    (hrow : Own B w 3 v' (ts.length + 1) (rowC ts vs ++ tcell t u)) (hu : Own B w 1 u t.deps.length (t.deps.map (Value.int .i64)))
    (h1 : ∀ j, j < ts.length → Dn (vs.getD j nilV).ownBlock v'.ownBlock) (h2 : Dn u.ownBlock v'.ownBlock) (h3 : ∀ j, j < ts.length → Dn (vs.getD j nilV).ownBlock u.ownBlock) : PlanO w B v' (ts ++ [t]) (vs ++ [u]) := by
  have g1 : ∀ j, j < ts.length → (ts ++ [t]).getD j dT = ts.getD j dT := fun j hj => by simp [List.getD, List.getElem?_append_left hj]
  have g2 : ∀ j, j < ts.length → (vs ++ [u]).getD j nilV = vs.getD j nilV := fun j hj => by simp [List.getD, List.getElem?_append_left (show j < vs.length by rw [hl]; exact hj)]
  have g3 : (ts ++ [t]).getD ts.length dT = t := by simp [List.getD]
  have g4 : (vs ++ [u]).getD ts.length nilV = u := by rw [← hl]; simp [List.getD]
  refine ⟨by simp [hl], ?_, fun j hj => ?_, fun j hj => ?_, fun i j hij hj => ?_⟩
  · rw [rowC_snoc _ _ _ _ hl, List.length_append, List.length_singleton]; exact hrow
  · rw [List.length_append, List.length_singleton] at hj
    by_cases e : j < ts.length
    · rw [g1 j e, g2 j e]; exact hdep j e
    · obtain rfl : j = ts.length := by omega
      rw [g3, g4]; exact hu
  · rw [List.length_append, List.length_singleton] at hj
    by_cases e : j < ts.length
    · rw [g2 j e]; exact h1 j e
    · obtain rfl : j = ts.length := by omega
      rw [g4]; exact h2
  · rw [List.length_append, List.length_singleton] at hj
    by_cases e : j < ts.length
    · rw [g2 j e, g2 i (by omega)]; exact hdd i j hij e
    · obtain rfl : j = ts.length := by omega
      rw [g4, g2 i (by omega)]; exact h3 i hij
theorem getD_setT (xs : List TaskD) (i : Nat) (t : TaskD) (h : i < xs.length) (j : Nat) : (xs.set i t).getD j dT = if i = j then t else xs.getD j dT := by
  by_cases e : i = j
  · subst e; simp [List.getD, h]
  · rw [if_neg e]; simp [List.getD, List.getElem?_set_ne e]
theorem PlanO.upd {w w3 w4 : World} {B : Nat} {v : Value} {ts : List TaskD} {vs : List Value} {i : Nat} {t : TaskD} (h : PlanO w B v ts vs) (hi : i < ts.length) (hg3 : w.grownBy w3 v.ownBlock) (hrow : Own B w3 3 v ts.length (rowC (ts.set i t) vs)) (hg4 : w3.grownBy w4 (vs.getD i nilV).ownBlock) (hd : Own B w4 1 (vs.getD i nilV) t.deps.length (t.deps.map (Value.int .i64))) : PlanO w4 B v (ts.set i t) vs := by
  refine ⟨by rw [List.length_set]; exact h.len, ?_, fun j hj => ?_, fun j hj => h.dr j (by simpa using hj), fun a b hab hb => h.dd a b hab (by simpa using hb)⟩
  · rw [List.length_set]; exact hrow.grown hg4 (h.dr i hi).symm
  · rw [List.length_set] at hj
    rw [getD_setT _ _ _ hi]
    by_cases e : i = j
    · subst e; rw [if_pos rfl]; exact hd
    · rw [if_neg e]
      refine ((h.dep j hj).grown hg3 (h.dr j hj)).grown hg4 ?_
      rcases Nat.lt_or_ge i j with l | l
      · exact (h.dd i j l hj).symm
      · exact h.dd j i (by omega) hi
theorem Own.toC {B : Nat} {w : World} {size g o n c n' : Nat} {xs : List Value} (h : Own B w size (.slice (some ⟨g, o, none⟩) n c) n' xs) : OwnC B w size g o c n' xs ∧ n = n' := by
  rcases h with ⟨hv, _⟩ | ⟨g', o', cap, hv, hc⟩
  · cases hv
  · injection hv with e1 e2 e3
    injection e1 with e1
    injection e1 with e4 e5
    subst e3 e4 e5
    exact ⟨hc, e2⟩
end Go.Proofs.YtimpfhfgcmipgaaDoor

namespace Go.Proofs.YtimpfhfgcmipgaaDoor
open Go.RowKit

theorem tssz_get {ts : List TaskD} {j : Nat} (hj : j < ts.length) : (ts.getD j dT).deps.length ≤ tssz ts := by
  have h1 := tssz_take_le ts (j + 1)
  rw [takeT_snoc hj, tssz_snoc] at h1
  have h2 : (ts.getD j dT).deps.length ≤ tsz (ts.getD j dT) := by unfold tsz; omega
  omega
theorem IntsAt.srcI {w : World} {a : Option Addr} {b o n : Nat} {ns : List Int} (h : IntsAt w a b o n ns) (c : Nat) : Src Tryd.prog 1 35 (.slice a n c) n (ns.map (Value.int .i64)) w := by
  have h1 : ∀ u ∈ ns.map (Value.int .i64), u.oneCell' = true := fun u hu => by obtain ⟨y, _, rfl⟩ := List.mem_map.1 hu; rfl
  cases a with
  | none =>
    have h0 : n = 0 := Nat.eq_zero_of_not_pos fun hh => by have := h.ad hh; cases this
    subst h0
    have : ns = [] := List.eq_nil_of_length_eq_zero h.len
    subst this
    exact Src.ofNil w Tryd.underlying35 c
  | some y =>
    refine Src.ofSlice w Tryd.underlying35 y n c (ns.map (Value.int .i64)) (by simp [h.len]) (fun j u hu => ?_) h1
    have hj : j < n := by have := (List.getElem?_eq_some_iff.1 hu).1; rw [List.length_map, h.len] at this; exact this
    have hy := h.ad (by omega)
    injection hy with hy
    subst hy
    rw [Addr.add_lit, h.cell j hj]
    have hl := h.len
    rw [List.getElem?_map] at hu
    rw [List.getElem?_eq_getElem (by omega)] at hu
    simp only [Option.map_some, Option.some.injEq] at hu
    rw [← hu]
    simp [List.getD, List.getElem?_eq_getElem (show j < ns.length by omega)]
end Go.Proofs.YtimpfhfgcmipgaaDoor

namespace Go.Proofs.YtimpfhfgcmipgaaDoor
open Go.RowKit

theorem run_ldTs {ρ : Operand → Value} {o : Oper} {w : World} {p : Addr} {v : Value} (x : Operand) (h : o.op = .load 26 x) (hx : ρ x = .pointer (some p)) (hc : w.cell? p = some v) : (execOp ρ o).run Tryd.prog w = .ok (.value v) w := by
  unfold execOp
  rw [h]
  simp [go_sem, hx, hc]
theorem run_ldIs {ρ : Operand → Value} {o : Oper} {w : World} {p : Addr} {v : Value} (x : Operand) (h : o.op = .load 35 x) (hx : ρ x = .pointer (some p)) (hc : w.cell? p = some v) : (execOp ρ o).run Tryd.prog w = .ok (.value v) w := by
  unfold execOp
  rw [h]
  simp [go_sem, hx, hc]
theorem run_ldIn {ρ : Operand → Value} {o : Oper} {w : World} {p : Addr} {v : Value} (x : Operand) (h : o.op = .load 3 x) (hx : ρ x = .pointer (some p)) (hc : w.cell? p = some v) : (execOp ρ o).run Tryd.prog w = .ok (.value v) w := by
  unfold execOp
  rw [h]
  simp [go_sem, hx, hc]
theorem run_ldSt {ρ : Operand → Value} {o : Oper} {w : World} {p : Addr} {v : Value} (x : Operand) (h : o.op = .load 9 x) (hx : ρ x = .pointer (some p)) (hc : w.cell? p = some v) : (execOp ρ o).run Tryd.prog w = .ok (.value v) w := by
  unfold execOp
  rw [h]
  simp [go_sem, hx, hc]
theorem run_bsI0 {ρ : Operand → Value} {o : Oper} {w : World} (h : o.op = .buildSlice 35 0 #[]) : (execOp ρ o).run Tryd.prog w = .ok (.value (.slice (some ⟨w.heap.size, 0, none⟩) 0 0)) (w.alloc (.cells #[] 3)) := by
  unfold execOp
  rw [h]
  simp [go_sem]
theorem run_appT {ρ : Operand → Value} {o : Oper} {w w' : World} {v x v' : Value} (s y : Operand) (t tx ty : TypeId) (ho : o.op = .call { callee := .builtin .append, args := #[s, y], argTypes := #[t, tx] }) (hv : ρ s = v) (hx : ρ y = x) (hty : o.type = ty) (hr : (Builtin.append_ #[t, tx] ty #[v, x]).run Tryd.prog w = .ok v' w') : (execOp ρ o).run Tryd.prog w = .ok (.value v') w' := by
  unfold execOp
  simp [ho, resolve, invoke, builtin, hv, hx, hty, hr, Result.andThen]
theorem run_bTk {ρ : Operand → Value} {o : Oper} {w : World} (x y z : Operand) (s : ByteArray) (c : Int) (a : Option Addr) (n d : Nat) (h : o.op = .build 37 #[(0, x), (1, y), (2, z)]) (hx : ρ x = .string s) (hy : ρ y = .int .i64 c) (hz : ρ z = .slice a n d) : (execOp ρ o).run Tryd.prog w = .ok (.value (.agg #[.string s, .int .i64 c, .slice a n d])) w := by
  unfold execOp
  rw [h]
  simp [go_sem, hx, hy, hz]
theorem run_bsT {ρ : Operand → Value} {o : Oper} {w : World} (x : Operand) (s : ByteArray) (c : Int) (a : Option Addr) (n d : Nat) (h : o.op = .buildSlice 26 1 #[(0, x)]) (hx : ρ x = .agg #[.string s, .int .i64 c, .slice a n d]) :
    (execOp ρ o).run Tryd.prog w = .ok (.value (.slice (some ⟨w.heap.size, 0, none⟩) 1 1)) (w.alloc (.cells #[.string s, .int .i64 c, .slice a n d] 37)) := by
  unfold execOp
  rw [h]
  simp [go_sem, hx]
theorem run_stTs {ρ : Operand → Value} {o : Oper} {w : World} {p : Addr} {a : Option Addr} {n c : Nat} {v0 : Value} (x y : Operand) (h : o.op = .store 26 x y) (hx : ρ x = .pointer (some p)) (hy : ρ y = .slice a n c) (hc : w.cell? p = some v0) (hf : w.frozen? p = false) :
    (execOp ρ o).run Tryd.prog w = .ok .skip (w.setCell p (.slice a n c)) := by
  unfold execOp
  rw [h]
  simp [go_sem, hx, hy, hc, hf]
/-- Amid the copy, task by task. -/
structure LpSt (w : World) (a : Option Addr) (n c : Nat) (ts : List TaskD) (k : Nat) (v : Value) (vs : List Value) (wr : World) : Prop where
  P : CF wr w.heap.size [.slice a n c]
  R : CF wr (w.heap.size + 1) [.slice none 0 0]
  O : CF wr (w.heap.size + 2) [v]
  B : Below w.heap.size w wr
  z : w.heap.size + 3 ≤ wr.heap.size
  pl : PlanO wr (w.heap.size + 3) v (ts.take k) vs
theorem LpSt.alloc {w : World} {a : Option Addr} {n c : Nat} {ts : List TaskD} {k : Nat} {v : Value} {vs : List Value} {wr : World} (h : LpSt w a n c ts k v vs wr) (ob : Obj) : LpSt w a n c ts k v vs (wr.alloc ob) :=
  have hb : Below wr.heap.size wr (wr.alloc ob) := (Below.refl _ _).alloc (Nat.le_refl _) _
  ⟨h.P.block (hb.block _ (by have := h.z; omega)), h.R.block (hb.block _ (by have := h.z; omega)), h.O.block (hb.block _ (by have := h.z; omega)), h.B.trans (hb.mono h.B.size), Nat.le_trans h.z hb.size, h.pl.below hb⟩
theorem LpSt.drew {w : World} {a : Option Addr} {n c : Nat} {ts : List TaskD} {k : Nat} {v : Value} {vs : List Value} {wr : World} (h : LpSt w a n c ts k v vs wr) : LpSt w a n c ts k v vs wr.drew :=
  ⟨h.P, h.R, h.O, h.B.drew, h.z, h.pl.below (Below.refl _ _).drew⟩
theorem PlanO.grownNew {w w' : World} {B : Nat} {v : Value} {ts : List TaskD} {vs : List Value} {q : Nat} (h : PlanO w B v ts vs) (hg : w.grownBy w' (some q)) (hq : ∀ x, B ≤ x → x < w.heap.size → x ≠ q) : PlanO w' B v ts vs :=
  h.blk (fun x h1 h2 => hg.block x h2 (by simp; exact hq x h1 h2))

set_option maxHeartbeats 4000000 in
set_option maxRecDepth 100000 in
theorem l1Plan_any (a : Option Addr) (b o n c : Nat) (ts : List TaskD) (w : World) (h : TasksAt w a b o n ts) (hn : n + tssz ts ≤ 1048576) :
    Calls Tryd.prog 46 #[.agg #[.slice a n c]] w fun e w' => (∃ v vs, e = .returned (.agg #[v]) ∧ PlanO w' w.heap.size v ts vs) ∧ Below w.heap.size w w' := by
  obtain ⟨iT, hiT, hT0, hT1, hT2⟩ := info_parts Tryd.info37
  obtain ⟨iI, hiI, hI0, hI1, hI2⟩ := info_parts Tryd.info3
  obtain ⟨W, hW⟩ : ∃ W, W = ((w.alloc (.cells #[.slice a n c] 28)).alloc (.cells #[.slice none 0 0] 28)).alloc (.cells #[.slice none 0 0] 28) := ⟨_, rfl⟩
  have hB : Below w.heap.size w W := by rw [hW]; exact (((Below.refl _ _).alloc (Nat.le_refl _) _).alloc (by simp) _).alloc (by simp; omega) _
  have hz : w.heap.size + 3 ≤ W.heap.size := by rw [hW]; simp
  have hP : CF W w.heap.size [.slice a n c] := by rw [hW]; exact ((CF.made w #[.slice a n c] 28).block (Below.heap_alloc _ _ _ (by simp))).block (Below.heap_alloc _ _ _ (by simp; omega))
  have hR : CF W (w.heap.size + 1) [.slice none 0 0] := by
    rw [hW]
    have := CF.made (w.alloc (.cells #[.slice a n c] 28)) #[.slice none 0 0] 28
    rw [World.size_alloc] at this
    exact this.block (Below.heap_alloc _ _ _ (by simp))
  have hO : CF W (w.heap.size + 2) [.slice none 0 0] := by
    rw [hW]
    have := CF.made ((w.alloc (.cells #[.slice a n c] 28)).alloc (.cells #[.slice none 0 0] 28)) #[.slice none 0 0] 28
    rw [World.size_alloc, World.size_alloc] at this
    exact this
  have S0 : LpSt w a n c ts 0 nilV [] W := ⟨hP, hR, hO, hB, hz, PlanO.nil _ _⟩
  have HL := hid h.len
  have HW := hid hW
  have hmax : n ≤ maxLen := h.max
  unfold maxLen at hmax
  clear hW hP hR hO hB hz
  go_enter Tryd.func46, Tryd.ntmps46
  go_upto_region 2 with fail
  rw [← HW.out]
  clear HW
  go_wp2
  go_loopw [4] (fun i wr => ∃ k : Nat, k ≤ n ∧ i = .int .i64 k ∧ ∃ v vs, LpSt w a n c ts k v vs wr) (fun i _ => n - (intOf i).toNat)
  case atStart => exact ⟨0, Nat.zero_le _, rfl, _, _, S0⟩
  case round =>
    clear S0
    obtain ⟨k, hk, rfl, v, vs, S⟩ := hrel
    have p0 : wr.cell? ⟨w.heap.size, 0, none⟩ = some (.slice a n c) := (S.P 0 (by simp)).1
    by_cases hlt : k < n
    · have hlt' : (k : Int) < (n : Int) := by omega
      have hts : k < ts.length := by rw [HL.out]; exact hlt
      obtain rfl := h.ad (by omega)
      have hA := h.below' S.B
      obtain ⟨t, a', b', o', n', c', ht, t0, t1, t2, hI, hnm, hco⟩ := hA.get hlt
      have hn' : n' ≤ 1048576 := by
        have := tssz_get hts
        rw [← ht, hI.len] at this
        omega
      obtain ⟨nm, hnm'⟩ : ∃ nm, nm = t.name := ⟨_, rfl⟩
      obtain ⟨co, hco'⟩ : ∃ co, co = t.cost := ⟨_, rfl⟩
      rw [← hnm'] at t0
      rw [← hco'] at t1
      have HNM := hid hnm'
      have HCO := hid hco'
      have HT := hid ht
      have HIL := hid hI.len
      obtain ⟨T, hT⟩ : ∃ T : Nat, T = wr.heap.size := ⟨_, rfl⟩
      obtain ⟨W1, hW1⟩ : ∃ V, V = wr.alloc (.cells #[.string nm, .int .i64 co, .slice a' n' c'] 37) := ⟨_, rfl⟩
      have S1 : LpSt w (some ⟨b, o, none⟩) n c ts k v vs W1 := by rw [hW1]; exact S.alloc _
      have T1 : CF W1 T [.string nm, .int .i64 co, .slice a' n' c'] := by rw [hW1, hT]; exact CF.made wr #[.string nm, .int .i64 co, .slice a' n' c'] 37
      have tz : w.heap.size + 3 ≤ T ∧ T < W1.heap.size := ⟨by rw [hT]; exact S.z, by rw [hW1, hT]; simp⟩
      have hI1' : IntsAt W1 a' b' o' n' t.deps := by rw [hW1]; exact hI.below' ((Below.refl _ _).alloc (Nat.le_refl _) _)
      have HVT := hid (show ∀ q, v.ownBlock = some q → q < T from fun q hq => by rw [hT]; exact S.pl.row.row_hi q hq)
      have HTT := hid hT
      have HW1 := hid hW1
      clear hnm' hco' ht hT hW1 hA hI S
      go_upto_region 6 with fail
      rw [← HW1.out, ← HTT.out]
      clear HW1 HTT p0 t0 t1 t2
      obtain ⟨r0, hr0⟩ : ∃ U, U = W1.drew := ⟨_, rfl⟩
      have S2 : LpSt w (some ⟨b, o, none⟩) n c ts k v vs r0 := by rw [hr0]; exact S1.drew
      have T2 : CF r0 T [.string nm, .int .i64 co, .slice a' n' c'] := by rw [hr0]; exact T1
      have tz2 : w.heap.size + 3 ≤ T ∧ T < r0.heap.size := by rw [hr0]; exact tz
      have hI2' : IntsAt r0 a' b' o' n' t.deps := by rw [hr0]; exact hI1'.below' (Below.refl _ _).drew
      obtain ⟨va, vc, hvs⟩ := S2.pl.row.slc
      have hkl : (ts.take k).length = k := by rw [List.length_take]; omega
      rw [hkl] at hvs
      obtain ⟨r1, hr1⟩ : ∃ V, V = r0.alloc (.cells #[] 3) := ⟨_, rfl⟩
      have b1 : Below r0.heap.size r0 r1 := by rw [hr1]; exact (Below.refl _ _).alloc (Nat.le_refl _) _
      have z1 : r1.heap.size = r0.heap.size + 1 := by rw [hr1]; simp
      have own0 : Own (w.heap.size + 3) r1 1 (.slice (some ⟨r0.heap.size, 0, none⟩) 0 0) 0 [] := by
        rw [hr1]; exact .inr ⟨_, 0, 0, rfl, OwnC.made r0 (w.heap.size + 3) 3 1 0 0 _ 0 (by omega) (Nat.le_refl _) (by unfold maxLen; omega) rfl (Nat.le_refl _) _ rfl _ (.inl rfl)⟩
      obtain ⟨u, r2, hap2, hou, hg2, hbk2⟩ := run_append_c (P := Tryd.prog) r1 (w.heap.size + 3) 35 35 35 3 iI (.int .i64 0) 1 8 Tryd.underlying35 hiI hI0 hI1 hI2 rfl _ 0 _ own0 _ n' _ ((hI2'.below' b1).srcI c') (by unfold maxLen; omega) (by omega) (by omega)
      rw [Nat.zero_add, List.nil_append] at hou
      obtain ⟨ua, uc, rfl⟩ := hou.slc
      have hulo : ∀ q, (Value.slice ua n' uc).ownBlock = some q → r0.heap.size ≤ q := fun q hq => by
        rcases hbk2 with h5 | h5
        · rw [h5] at hq
          have : r0.heap.size = q := by simpa [Value.ownBlock] using hq
          omega
        · rw [h5] at hq; injection hq with hq; omega
      have hrow0 : (Value.slice (some ⟨r0.heap.size, 0, none⟩) 0 0).ownBlock = some r0.heap.size := rfl
      rw [hrow0] at hg2
      have z2 : r1.heap.size ≤ r2.heap.size := hg2.size
      obtain ⟨r3, hr3⟩ : ∃ V, V = r2.alloc (.cells #[.string nm, .int .i64 co, .slice ua n' uc] 37) := ⟨_, rfl⟩
      have b3 : Below r2.heap.size r2 r3 := by rw [hr3]; exact (Below.refl _ _).alloc (Nat.le_refl _) _
      have z3 : r3.heap.size = r2.heap.size + 1 := by rw [hr3]; simp
      have own1 : Own (w.heap.size + 3) r3 3 (.slice (some ⟨r2.heap.size, 0, none⟩) 1 1) 1 [.string nm, .int .i64 co, .slice ua n' uc] := by
        rw [hr3]; exact .inr ⟨_, 0, 1, rfl, OwnC.made r2 (w.heap.size + 3) 37 3 1 1 _ 3 (by omega) (Nat.le_refl _) (by unfold maxLen; omega) rfl (Nat.le_refl _) _ rfl _ (.inl rfl)⟩
      have blk3 : ∀ x, x < r0.heap.size → r3.heap[x]? = r0.heap[x]? := fun x hx => (b3.block x (by omega)).trans ((hg2.block x (by omega) (by simp; omega)).trans (b1.block x hx))
      have pl3 := S2.pl.blk (fun x _ h2 => blk3 x h2)
      have hou3 := hou.below b3 (Nat.le_refl _)
      have src1 : Src Tryd.prog 3 26 _ 1 _ r3 := own1.src Tryd.underlying26 (by intro x hx; simp only [List.mem_cons, List.not_mem_nil, or_false] at hx; rcases hx with rfl | rfl | rfl <;> rfl)
      obtain ⟨v4, r4, hap4, ho4, hg4, hbk4⟩ := run_append_c (P := Tryd.prog) r3 (w.heap.size + 3) 26 26 26 37 iT (.agg #[.string ⟨#[]⟩, .int .i64 0, .slice none 0 0]) 3 48 Tryd.underlying26 hiT hT0 hT1 hT2 rfl _ _ _ pl3.row _ 1 _ src1 (by rw [hkl]; unfold maxLen; omega) (by rw [hkl]; omega) (by omega)
      obtain ⟨va4, vc4, hv4⟩ := ho4.slc
      rw [hkl] at hv4
      have hvlo := pl3.row.row_lo
      have hvhi := S2.pl.row.row_hi
      have z4 : r3.heap.size ≤ r4.heap.size := hg4.size
      have blk4 : ∀ x, x < r0.heap.size → v.ownBlock ≠ some x → r4.heap[x]? = r0.heap[x]? := fun x hx hne => (hg4.block x (by omega) (fun e => hne e.symm)).trans (blk3 x hx)
      have kO : r4.cell? ⟨w.heap.size + 2, 0, none⟩ = some v := ((S2.O.block (blk4 (w.heap.size + 2) (by omega) (fun e => by have := hvlo _ e; omega))) 0 (by simp)).1
      have fO : r4.frozen? ⟨w.heap.size + 2, 0, none⟩ = false := ((S2.O.block (blk4 (w.heap.size + 2) (by omega) (fun e => by have := hvlo _ e; omega))) 0 (by simp)).2
      obtain ⟨r5, hr5⟩ : ∃ V, V = r4.setCell ⟨w.heap.size + 2, 0, none⟩ v4 := ⟨_, rfl⟩
      have gs : r4.grownBy r5 (some (w.heap.size + 2)) := by rw [hr5]; exact gset (World.grownBy.refl r4 (some (w.heap.size + 2))) 0 v4
      have blk5 : ∀ x, x < r0.heap.size → v.ownBlock ≠ some x → x ≠ w.heap.size + 2 → r5.heap[x]? = r0.heap[x]? := fun x hx hne h2 => (gs.block x (by omega) (by simp; exact h2)).trans (blk4 x hx hne)
      have S5 : LpSt w (some ⟨b, o, none⟩) n c ts (k + 1) v4 (vs ++ [.slice ua n' uc]) r5 := by
        have zz := S2.z
        refine ⟨S2.P.block (blk5 _ (by omega) (fun e => by have := hvlo _ e; omega) (by omega)), S2.R.block (blk5 _ (by omega) (fun e => by have := hvlo _ e; omega) (by omega)), ?_, ?_, by have := gs.size; omega, ?_⟩
        · rw [hr5]; exact (S2.O.block (blk4 (w.heap.size + 2) (by omega) (fun e => by have := hvlo _ e; omega))).set (j := 0) (by simp) v4
        · have B1 := S2.B.trans (b1.mono S2.B.size)
          have B2 := below_grown B1 hg2 (by omega) (fun q hq => by injection hq with hq; omega)
          have B3 := B2.trans (b3.mono B2.size)
          exact below_grown (below_grown B3 hg4 (by omega) (fun q hq => by have := hvlo q hq; omega)) gs (by omega) (fun q hq => by injection hq with hq; omega)
        · have hdlo : ∀ j, j < (ts.take k).length → ∀ q, (vs.getD j nilV).ownBlock = some q → w.heap.size + 3 ≤ q ∧ q < r0.heap.size := fun j hj q hq => ⟨(S2.pl.dep j hj).row_lo q hq, (S2.pl.dep j hj).row_hi q hq⟩
          rw [takeT_snoc hts, ← HT.out]
          refine PlanO.snoc S2.pl.len (fun j hj => (S2.pl.dep j hj).blkP (fun q hq => blk5 q (hdlo j hj q hq).2 (fun e => ?_) (by have := (hdlo j hj q hq).1; omega))) S2.pl.dd ?_ ?_ (fun j hj => ?_) ?_ (fun j hj => ?_)
          · rcases S2.pl.dr j hj with h5 | h5
            · rw [h5] at hq; cases hq
            · exact h5 (hq.trans e.symm)
          · have := ho4.grown gs (.inr (by intro hh; have := ho4.row_lo _ hh; omega))
            rw [HNM.out, HCO.out] at this
            exact this
          · have h6 := (hou3.blkP (w' := r4) (fun q hq => hg4.block q (hou3.row_hi q hq) (fun e => by have h7 := hulo q hq; have h8 := hvhi q e.symm; omega))).grown gs (.inr (by intro hh; have := hulo _ hh; omega))
            rw [HIL.out]
            exact h6
          · rcases hbk4 with h5 | h5
            · rw [h5]; exact S2.pl.dr j hj
            · exact Dn.later (fun q hq => (hdlo j hj q hq).2) (fun q hq => by rw [h5] at hq; injection hq with hq; omega)
          · rcases hbk4 with h5 | h5
            · rw [h5]; exact Dn.symm (Dn.later hvhi hulo)
            · exact Dn.later hou.row_hi (fun q hq => by rw [h5] at hq; injection hq with hq; omega)
          · exact Dn.later (fun q hq => (hdlo j hj q hq).2) hulo
      have HS := hid S5
      have c0 := T2
      have c1 : CF r1 T [.string nm, .int .i64 co, .slice a' n' c'] := T2.block (b1.block T tz2.2)
      have c2 : CF r2 T [.string nm, .int .i64 co, .slice a' n' c'] := c1.block (hg2.block T (by omega) (by simp; omega))
      have c3' : CF r3 T [.string nm, .int .i64 co, .slice a' n' c'] := c2.block (b3.block T (by omega))
      have c4 : CF r4 T [.string nm, .int .i64 co, .slice a' n' c'] := T2.block (blk4 T tz2.2 (fun e => by have := HVT.out _ e; omega))
      have c5 : CF r5 T [.string nm, .int .i64 co, .slice a' n' c'] := c4.block (gs.block T (by omega) (by simp; omega))
      have l0 : r0.cell? ⟨w.heap.size + 2, 0, none⟩ = some v := (S2.O 0 (by simp)).1
      have zO : w.heap.size + 2 < r0.heap.size := by have := S2.z; omega
      have l1 : r1.cell? ⟨w.heap.size + 2, 0, none⟩ = some v := (World.cell?_of_block (w := r0) (a := ⟨w.heap.size + 2, 0, none⟩) (b1.block (w.heap.size + 2) zO)).trans l0
      have l2 : r2.cell? ⟨w.heap.size + 2, 0, none⟩ = some v := (World.cell?_of_block (w := r1) (a := ⟨w.heap.size + 2, 0, none⟩) (hg2.block (w.heap.size + 2) (by omega) (by simp; omega))).trans l1
      have l3 : r3.cell? ⟨w.heap.size + 2, 0, none⟩ = some v := (World.cell?_of_block (w := r2) (a := ⟨w.heap.size + 2, 0, none⟩) (b3.block (w.heap.size + 2) (by omega))).trans l2
      subst hvs
      subst hv4
      clear S1 S2 T1 T2 tz tz2 hI1' hI2' b1 b3 own0 own1 hou hou3 src1 hg2 hg4 pl3 ho4 blk3 blk4 blk5 gs S5 hulo hvlo hvhi hbk2 hbk4 z1 z2 z3 z4 zO HVT hrow0
      refine wp_region_held (S := fun w' => CF w' T [.string nm, .int .i64 co, .slice a' n' c']) (by kernel_rfl) ?_
      change wpAnyH _ _ _ _ _ _ _ _ (World.drew _)
      rw [← hr0]
      clear hr0
      refine hTk (i := 0) (d := some 19) (v := .pointer (some ⟨w.heap.size + 2, 0, none⟩)) (l' := (bt 15 1)) rfl (fun _ hc => by kernel_rfl) c0 ?_
      refine hTk (i := 2) (d := some 21) (v := .pointer (some ⟨T, 0, none⟩)) (l' := (bt 15 5)) rfl (fun _ hc => by kernel_rfl) c0 ?_
      refine hTk (i := 3) (d := some 22) (v := .string nm) (l' := (bt 15 13)) rfl (fun _ hc => run_ldSt (.tmp 21) (by kernel_rfl) (by kernel_rfl) (hc 0 (by simp)).1) c0 ?_
      refine hTk (i := 4) (d := some 23) (v := .pointer (some ⟨T, 1, none⟩)) (l' := (bt 15 29)) rfl (fun _ hc => by kernel_rfl) c0 ?_
      refine hTk (i := 5) (d := some 24) (v := .int .i64 co) (l' := (bt 15 61)) rfl (fun _ hc => run_ldIn (.tmp 23) (by kernel_rfl) (by kernel_rfl) (hc 1 (by simp)).1) c0 ?_
      refine hTk (i := 7) (d := some 26) (v := .pointer (some ⟨T, 2, none⟩)) (l' := (bt 15 189)) rfl (fun _ hc => by kernel_rfl) c0 ?_
      refine hTk (i := 8) (d := some 27) (v := .slice a' n' c') (l' := (bt 15 445)) rfl (fun _ hc => run_ldIs (.tmp 26) (by kernel_rfl) (by kernel_rfl) (hc 2 (by simp)).1) c0 ?_
      refine hTwo (i := 1) (j := 6) (by kernel_rfl) (hVal (i := 1) (d := some 20) (v := .slice va k vc) (w' := r0) (l' := (bt 15 447)) rfl (by kernel_rfl) (by kernel_rfl) (by kernel_rfl) (run_ldTs (.tmp 19) (by kernel_rfl) (by kernel_rfl) l0) c0 ?_) (hVal (i := 6) (d := some 25) (v := .slice (some ⟨r0.heap.size, 0, none⟩) 0 0) (w' := r1) (l' := (bt 15 509)) rfl (by kernel_rfl) (by kernel_rfl) (by kernel_rfl) (by rw [hr1]; exact run_bsI0 (by kernel_rfl)) c1 ?_)
      · refine hOne (by kernel_rfl) (hVal (i := 6) (d := some 25) (v := .slice (some ⟨r0.heap.size, 0, none⟩) 0 0) (w' := r1) (l' := (bt 15 511)) rfl (by kernel_rfl) (by kernel_rfl) (by kernel_rfl) (by rw [hr1]; exact run_bsI0 (by kernel_rfl)) c1 ?_)
        refine hOne (by kernel_rfl) (hVal (i := 9) (d := some 28) (v := .slice ua n' uc) (w' := r2) (l' := (bt 15 1023)) rfl (by kernel_rfl) (by kernel_rfl) (by kernel_rfl) (run_appT (.tmp 25) (.tmp 27) 35 35 35 (by kernel_rfl) (by kernel_rfl) (by kernel_rfl) (by kernel_rfl) hap2) c2 ?_)
        refine hTk (i := 10) (d := some 29) (v := .agg #[.string nm, .int .i64 co, .slice ua n' uc]) (l' := (bt 15 2047)) rfl (fun _ hc => run_bTk (.tmp 22) (.tmp 24) (.tmp 28) nm co ua n' uc (by kernel_rfl) (by kernel_rfl) (by kernel_rfl) (by kernel_rfl)) c2 ?_
        refine hOne (by kernel_rfl) (hVal (i := 11) (d := some 30) (v := .slice (some ⟨r2.heap.size, 0, none⟩) 1 1) (w' := r3) (l' := (bt 15 4095)) rfl (by kernel_rfl) (by kernel_rfl) (by kernel_rfl) (by rw [hr3]; exact run_bsT (.tmp 29) nm co ua n' uc (by kernel_rfl) (by kernel_rfl)) c3' ?_)
        refine hOne (by kernel_rfl) (hVal (i := 12) (d := some 31) (v := .slice va4 (k + 1) vc4) (w' := r4) (l' := (bt 15 8191)) rfl (by kernel_rfl) (by kernel_rfl) (by kernel_rfl) (run_appT (.tmp 20) (.tmp 30) 26 26 26 (by kernel_rfl) (by kernel_rfl) (by kernel_rfl) (by kernel_rfl) hap4) c4 ?_)
        refine hTk (i := 13) (d := some 32) (v := .pointer (some ⟨w.heap.size + 2, 0, none⟩)) (l' := (bt 15 16383)) rfl (fun _ hc => by kernel_rfl) c4 ?_
        refine hOne (by kernel_rfl) (hSkip (i := 14) (w' := r5) (l' := (bt 15 32767)) rfl (by kernel_rfl) (by kernel_rfl) (by kernel_rfl) (by rw [hr5]; exact run_stTs (.tmp 32) (.tmp 31) (by kernel_rfl) (by kernel_rfl) (by kernel_rfl) kO fO) c5 ?_)
        refine wpAnyH_done (by kernel_rfl) ?_ _
        clear l0 l1 l2 l3 c0 c1 c2 c3' c4 c5 kO fO hap2 hap4 hr1 hr3 hr5
        go_wp2
        go_roundw
        case rel => exact ⟨k + 1, by omega, by go_num, _, _, HS.out⟩
        case measure => simp [intOf]; omega
      · refine hTwo (i := 1) (j := 9) (by kernel_rfl) (hVal (i := 1) (d := some 20) (v := .slice va k vc) (w' := r1) (l' := (bt 15 511)) rfl (by kernel_rfl) (by kernel_rfl) (by kernel_rfl) (run_ldTs (.tmp 19) (by kernel_rfl) (by kernel_rfl) l1) c1 ?_) (hVal (i := 9) (d := some 28) (v := .slice ua n' uc) (w' := r2) (l' := (bt 15 1021)) rfl (by kernel_rfl) (by kernel_rfl) (by kernel_rfl) (run_appT (.tmp 25) (.tmp 27) 35 35 35 (by kernel_rfl) (by kernel_rfl) (by kernel_rfl) (by kernel_rfl) hap2) c2 ?_)
        · refine hOne (by kernel_rfl) (hVal (i := 9) (d := some 28) (v := .slice ua n' uc) (w' := r2) (l' := (bt 15 1023)) rfl (by kernel_rfl) (by kernel_rfl) (by kernel_rfl) (run_appT (.tmp 25) (.tmp 27) 35 35 35 (by kernel_rfl) (by kernel_rfl) (by kernel_rfl) (by kernel_rfl) hap2) c2 ?_)
          refine hTk (i := 10) (d := some 29) (v := .agg #[.string nm, .int .i64 co, .slice ua n' uc]) (l' := (bt 15 2047)) rfl (fun _ hc => run_bTk (.tmp 22) (.tmp 24) (.tmp 28) nm co ua n' uc (by kernel_rfl) (by kernel_rfl) (by kernel_rfl) (by kernel_rfl)) c2 ?_
          refine hOne (by kernel_rfl) (hVal (i := 11) (d := some 30) (v := .slice (some ⟨r2.heap.size, 0, none⟩) 1 1) (w' := r3) (l' := (bt 15 4095)) rfl (by kernel_rfl) (by kernel_rfl) (by kernel_rfl) (by rw [hr3]; exact run_bsT (.tmp 29) nm co ua n' uc (by kernel_rfl) (by kernel_rfl)) c3' ?_)
          refine hOne (by kernel_rfl) (hVal (i := 12) (d := some 31) (v := .slice va4 (k + 1) vc4) (w' := r4) (l' := (bt 15 8191)) rfl (by kernel_rfl) (by kernel_rfl) (by kernel_rfl) (run_appT (.tmp 20) (.tmp 30) 26 26 26 (by kernel_rfl) (by kernel_rfl) (by kernel_rfl) (by kernel_rfl) hap4) c4 ?_)
          refine hTk (i := 13) (d := some 32) (v := .pointer (some ⟨w.heap.size + 2, 0, none⟩)) (l' := (bt 15 16383)) rfl (fun _ hc => by kernel_rfl) c4 ?_
          refine hOne (by kernel_rfl) (hSkip (i := 14) (w' := r5) (l' := (bt 15 32767)) rfl (by kernel_rfl) (by kernel_rfl) (by kernel_rfl) (by rw [hr5]; exact run_stTs (.tmp 32) (.tmp 31) (by kernel_rfl) (by kernel_rfl) (by kernel_rfl) kO fO) c5 ?_)
          refine wpAnyH_done (by kernel_rfl) ?_ _
          clear l0 l1 l2 l3 c0 c1 c2 c3' c4 c5 kO fO hap2 hap4 hr1 hr3 hr5
          go_wp2
          go_roundw
          case rel => exact ⟨k + 1, by omega, by go_num, _, _, HS.out⟩
          case measure => simp [intOf]; omega
        · refine hTk (i := 10) (d := some 29) (v := .agg #[.string nm, .int .i64 co, .slice ua n' uc]) (l' := (bt 15 2045)) rfl (fun _ hc => run_bTk (.tmp 22) (.tmp 24) (.tmp 28) nm co ua n' uc (by kernel_rfl) (by kernel_rfl) (by kernel_rfl) (by kernel_rfl)) c2 ?_
          refine hTwo (i := 1) (j := 11) (by kernel_rfl) (hVal (i := 1) (d := some 20) (v := .slice va k vc) (w' := r2) (l' := (bt 15 2047)) rfl (by kernel_rfl) (by kernel_rfl) (by kernel_rfl) (run_ldTs (.tmp 19) (by kernel_rfl) (by kernel_rfl) l2) c2 ?_) (hVal (i := 11) (d := some 30) (v := .slice (some ⟨r2.heap.size, 0, none⟩) 1 1) (w' := r3) (l' := (bt 15 4093)) rfl (by kernel_rfl) (by kernel_rfl) (by kernel_rfl) (by rw [hr3]; exact run_bsT (.tmp 29) nm co ua n' uc (by kernel_rfl) (by kernel_rfl)) c3' ?_)
          · refine hOne (by kernel_rfl) (hVal (i := 11) (d := some 30) (v := .slice (some ⟨r2.heap.size, 0, none⟩) 1 1) (w' := r3) (l' := (bt 15 4095)) rfl (by kernel_rfl) (by kernel_rfl) (by kernel_rfl) (by rw [hr3]; exact run_bsT (.tmp 29) nm co ua n' uc (by kernel_rfl) (by kernel_rfl)) c3' ?_)
            refine hOne (by kernel_rfl) (hVal (i := 12) (d := some 31) (v := .slice va4 (k + 1) vc4) (w' := r4) (l' := (bt 15 8191)) rfl (by kernel_rfl) (by kernel_rfl) (by kernel_rfl) (run_appT (.tmp 20) (.tmp 30) 26 26 26 (by kernel_rfl) (by kernel_rfl) (by kernel_rfl) (by kernel_rfl) hap4) c4 ?_)
            refine hTk (i := 13) (d := some 32) (v := .pointer (some ⟨w.heap.size + 2, 0, none⟩)) (l' := (bt 15 16383)) rfl (fun _ hc => by kernel_rfl) c4 ?_
            refine hOne (by kernel_rfl) (hSkip (i := 14) (w' := r5) (l' := (bt 15 32767)) rfl (by kernel_rfl) (by kernel_rfl) (by kernel_rfl) (by rw [hr5]; exact run_stTs (.tmp 32) (.tmp 31) (by kernel_rfl) (by kernel_rfl) (by kernel_rfl) kO fO) c5 ?_)
            refine wpAnyH_done (by kernel_rfl) ?_ _
            clear l0 l1 l2 l3 c0 c1 c2 c3' c4 c5 kO fO hap2 hap4 hr1 hr3 hr5
            go_wp2
            go_roundw
            case rel => exact ⟨k + 1, by omega, by go_num, _, _, HS.out⟩
            case measure => simp [intOf]; omega
          · refine hOne (by kernel_rfl) (hVal (i := 1) (d := some 20) (v := .slice va k vc) (w' := r3) (l' := (bt 15 4095)) rfl (by kernel_rfl) (by kernel_rfl) (by kernel_rfl) (run_ldTs (.tmp 19) (by kernel_rfl) (by kernel_rfl) l3) c3' ?_)
            refine hOne (by kernel_rfl) (hVal (i := 12) (d := some 31) (v := .slice va4 (k + 1) vc4) (w' := r4) (l' := (bt 15 8191)) rfl (by kernel_rfl) (by kernel_rfl) (by kernel_rfl) (run_appT (.tmp 20) (.tmp 30) 26 26 26 (by kernel_rfl) (by kernel_rfl) (by kernel_rfl) (by kernel_rfl) hap4) c4 ?_)
            refine hTk (i := 13) (d := some 32) (v := .pointer (some ⟨w.heap.size + 2, 0, none⟩)) (l' := (bt 15 16383)) rfl (fun _ hc => by kernel_rfl) c4 ?_
            refine hOne (by kernel_rfl) (hSkip (i := 14) (w' := r5) (l' := (bt 15 32767)) rfl (by kernel_rfl) (by kernel_rfl) (by kernel_rfl) (by rw [hr5]; exact run_stTs (.tmp 32) (.tmp 31) (by kernel_rfl) (by kernel_rfl) (by kernel_rfl) kO fO) c5 ?_)
            refine wpAnyH_done (by kernel_rfl) ?_ _
            clear l0 l1 l2 l3 c0 c1 c2 c3' c4 c5 kO fO hap2 hap4 hr1 hr3 hr5
            go_wp2
            go_roundw
            case rel => exact ⟨k + 1, by omega, by go_num, _, _, HS.out⟩
            case measure => simp [intOf]; omega
    · obtain rfl : k = n := by omega
      have kR : wr.cell? ⟨w.heap.size + 1, 0, none⟩ = some (.slice none 0 0) := (S.R 0 (by simp)).1
      have fR : wr.frozen? ⟨w.heap.size + 1, 0, none⟩ = false := (S.R 0 (by simp)).2
      obtain ⟨va, vc, hvs⟩ := S.pl.row.slc
      have hkl : (ts.take k).length = k := by rw [List.length_take, HL.out]; omega
      rw [hkl] at hvs
      subst hvs
      have kO : wr.cell? ⟨w.heap.size + 2, 0, none⟩ = some (.slice va k vc) := (S.O 0 (by simp)).1
      go_wp2
      have gs := gset (World.grownBy.refl wr (some (w.heap.size + 1))) 0 (.slice va k vc)
      have zz := S.z
      refine bodyPost_ret (v := .agg #[.slice va k vc]) (by simp [results, Tryd.results46, go_sem, kR]) rfl ⟨⟨.slice va k vc, vs, rfl, ?_⟩, below_grown S.B gs S.B.size (fun q hq => by injection hq with hq; omega)⟩
      have hp := S.pl
      rw [List.take_of_length_le (by rw [HL.out]; exact Nat.le_refl _)] at hp
      exact (hp.blk (fun x h1 h2 => gs.block x h2 (by simp; omega))).mono (by omega)
end Go.Proofs.YtimpfhfgcmipgaaDoor
