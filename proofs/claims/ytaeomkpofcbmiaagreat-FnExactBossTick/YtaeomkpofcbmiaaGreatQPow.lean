import Derived.Test.YtaeomkpofcbmiaaGreatQEq
import Derived.Test.YtaeomkpofcbmiaaGreatQCel
namespace Go.Proofs.YtaeomkpofcbmiaaGreat
open Go.RowKit

def Dn (x y : Option Nat) : Prop := x = none ∨ x ≠ y
theorem Dn.symm {x y : Option Nat} (h : Dn x y) : Dn y x := by
  rcases h with rfl | h
  · cases y with
    | none => exact .inl rfl
    | some q => exact .inr (by simp)
  · exact .inr (fun e => h e.symm)
theorem Dn.later {x y : Option Nat} {m : Nat} (hx : ∀ q, x = some q → q < m) (hy : ∀ q, y = some q → m ≤ q) : Dn x y := by
  cases x with
  | none => exact .inl rfl
  | some q => exact .inr (fun e => by have h5 := hx q rfl; have h6 := hy q e.symm; omega)
theorem Dn.at {x : Option Nat} {q : Nat} (h : Dn x (some q)) : x = none ∨ x ≠ some q := h
def nilV : Value := .slice none 0 0
def tcell (t : TaskD) (v : Value) : List Value := [.string t.name, .int .i64 t.cost, v]
/-- The cells of a row of tasks with these lists. -/
def rowC (ts : List TaskD) (vs : List Value) : List Value := (List.range ts.length).flatMap fun j => tcell (ts.getD j dT) (vs.getD j nilV)
theorem flat3 (f : Nat → List Value) (hf : ∀ j, (f j).length = 3) (n : Nat) : ((List.range n).flatMap f).length = n * 3 := by
  induction n with
  | zero => rfl
  | succ n ih => rw [List.range_succ, List.flatMap_append, List.length_append, ih]; simp [hf]; omega
theorem flat3_get (f : Nat → List Value) (hf : ∀ j, (f j).length = 3) (n j r : Nat) (hj : j < n) (hr : r < 3) : ((List.range n).flatMap f)[j * 3 + r]? = (f j)[r]? := by
  induction n with
  | zero => omega
  | succ n ih =>
    rw [List.range_succ, List.flatMap_append]
    have hl := flat3 f hf n
    by_cases h : j < n
    · rw [List.getElem?_append_left (by omega)]; exact ih h
    · obtain rfl : j = n := by omega
      rw [List.getElem?_append_right (by omega), hl, show j * 3 + r - j * 3 = r by omega]
      simp
theorem rowC_length (ts : List TaskD) (vs : List Value) : (rowC ts vs).length = ts.length * 3 := flat3 _ (fun _ => rfl) _
theorem rowC_get (ts : List TaskD) (vs : List Value) (j r : Nat) (hj : j < ts.length) (hr : r < 3) : (rowC ts vs)[j * 3 + r]? = (tcell (ts.getD j dT) (vs.getD j nilV))[r]? := flat3_get _ (fun _ => rfl) _ j r hj hr
theorem ext3 {xs ys : List Value} {n : Nat} (hx : xs.length = n * 3) (hy : ys.length = n * 3) (h : ∀ j r, j < n → r < 3 → xs[j * 3 + r]? = ys[j * 3 + r]?) : xs = ys := by
  refine List.ext_getElem? fun i => ?_
  by_cases hi : i < n * 3
  · have := h (i / 3) (i % 3) (by omega) (by omega)
    rwa [show i / 3 * 3 + i % 3 = i by omega] at this
  · rw [List.getElem?_eq_none (by omega), List.getElem?_eq_none (by omega)]
theorem rowC_snoc (ts : List TaskD) (vs : List Value) (t : TaskD) (v : Value) (hl : vs.length = ts.length) : rowC (ts ++ [t]) (vs ++ [v]) = rowC ts vs ++ tcell t v := by
  refine ext3 (n := ts.length + 1) (by simp [rowC_length]) (by simp [rowC_length, tcell]; omega) fun j r hj hr => ?_
  rw [rowC_get _ _ _ _ (by simp; omega) hr]
  by_cases e : j < ts.length
  · rw [List.getElem?_append_left (by rw [rowC_length]; omega), rowC_get _ _ _ _ e hr]
    simp [List.getD, List.getElem?_append_left e, List.getElem?_append_left (show j < vs.length by omega)]
  · obtain rfl : j = ts.length := by omega
    rw [List.getElem?_append_right (by rw [rowC_length]; omega), rowC_length, show ts.length * 3 + r - ts.length * 3 = r by omega]
    have g3 : (ts ++ [t]).getD ts.length dT = t := by simp [List.getD]
    have g4 : (vs ++ [v]).getD ts.length nilV = v := by rw [← hl]; simp [List.getD]
    rw [g3, g4]
theorem rowC_set (ts : List TaskD) (vs : List Value) (j : Nat) (hj : j < ts.length) (v : Value) (hl : vs.length = ts.length) : (rowC ts vs).set (j * 3 + 2) v = rowC ts (vs.set j v) := by
  refine ext3 (n := ts.length) (by simp [rowC_length]) (rowC_length _ _) fun i r hi hr => ?_
  rw [rowC_get _ _ _ _ hi hr, List.getElem?_set]
  by_cases e : j * 3 + 2 = i * 3 + r
  · obtain rfl : i = j := by omega
    obtain rfl : r = 2 := by omega
    rw [if_pos rfl, if_pos (by rw [rowC_length]; omega)]
    simp [tcell, List.getD, hl, hj]
  · rw [if_neg e, rowC_get _ _ _ _ hi hr]
    by_cases e2 : i = j
    · subst e2
      have hr2 : r < 2 := by omega
      have : r = 0 ∨ r = 1 := by omega
      rcases this with rfl | rfl <;> rfl
    · simp [List.getD, List.getElem?_set_ne (Ne.symm e2)]

/-- A plan of a call's own. -/
structure PlanO (w : World) (B : Nat) (v : Value) (ts : List TaskD) (vs : List Value) : Prop where
  len : vs.length = ts.length
  row : Own B w 3 v ts.length (rowC ts vs)
  dep : ∀ j, j < ts.length → Own B w 1 (vs.getD j nilV) (ts.getD j dT).deps.length ((ts.getD j dT).deps.map (Value.int .i64))
  dr : ∀ j, j < ts.length → Dn (vs.getD j nilV).ownBlock v.ownBlock
  dd : ∀ i j, i < j → j < ts.length → Dn (vs.getD i nilV).ownBlock (vs.getD j nilV).ownBlock
/-- What the tasks hold fits. -/
def fitT (ts : List TaskD) : Prop := ∀ j, j < ts.length → (ts.getD j dT).name.size ≤ maxLen ∧ I64 (ts.getD j dT).cost ∧ ∀ x ∈ (ts.getD j dT).deps, I64 x
theorem TasksAt.fit {w : World} {a : Option Addr} {b o n : Nat} {ts : List TaskD} (h : TasksAt w a b o n ts) : fitT ts := fun j hj => by
  have hj' : j < n := by rw [← h.len]; exact hj
  obtain ⟨a', b', o', n', c', _, hi⟩ := h.c2 j hj'
  exact ⟨(h.okn j hj').1, (h.okn j hj').2, hi.rng⟩
theorem PlanO.nil (w : World) (B : Nat) : PlanO w B nilV [] [] := ⟨rfl, Own.nil _ _ _, fun j hj => absurd hj (by simp), fun j hj => absurd hj (by simp), fun i j _ hj => absurd hj (by simp)⟩
theorem Own.intsAt {B : Nat} {w : World} {v : Value} {ns : List Int} (h : Own B w 1 v ns.length (ns.map (Value.int .i64))) (hz : ∀ x ∈ ns, I64 x) : ∃ a b o c, v = .slice a ns.length c ∧ IntsAt w a b o ns.length ns := by
  rcases h with ⟨rfl, hn, hx⟩ | ⟨g, o, cap, rfl, hc⟩
  · have : ns = [] := by simpa using hx
    subst this
    exact ⟨none, 0, 0, 0, rfl, fun h => absurd h (by simp), rfl, Nat.zero_le _, fun h => absurd h (by simp), fun j hj => absurd hj (by simp), by simp⟩
  · exact ⟨_, g, o, cap, rfl, IntsAt.ofOwn hc hz⟩
theorem PlanO.tasks {w : World} {B : Nat} {v : Value} {ts : List TaskD} {vs : List Value} (h : PlanO w B v ts vs) (hf : fitT ts) (hm : ts.length ≤ maxLen) : ∃ a b o c, v = .slice a ts.length c ∧ TasksAt w a b o ts.length ts := by
  have hrow := h.row
  rcases hrow with ⟨hv, hn, _⟩ | ⟨g, o, cap, hv, hc⟩
  · refine ⟨none, 0, 0, 0, by rw [hv, hn], ?_⟩
    exact ⟨fun h => absurd h (by omega), rfl, hm, fun h => absurd h (by omega), fun j hj => absurd hj (by omega), fun j hj => absurd hj (by omega), fun j hj => absurd hj (by omega), fun j hj => absurd hj (by omega)⟩
  · have hol : ∀ j r, j < ts.length → r < 3 → w.cell? ⟨g, o + (j * 3 + r), none⟩ = (tcell (ts.getD j dT) (vs.getD j nilV))[r]? := fun j r hj hr => by
      rw [hc.holds (j * 3 + r) (by omega)]; exact rowC_get ts vs j r hj hr
    refine ⟨_, g, o, cap, hv, fun _ => rfl, rfl, hm, fun _ => hc.hi, fun j hj => hol j 0 hj (by omega), fun j hj => ?_, fun j hj => ?_, fun j hj => ⟨(hf j hj).1, (hf j hj).2.1⟩⟩
    · rw [Nat.add_assoc]; exact hol j 1 hj (by omega)
    · obtain ⟨a', b', o', c', he, hi⟩ := (h.dep j hj).intsAt (hf j hj).2.2
      refine ⟨a', b', o', _, c', ?_, hi⟩
      rw [Nat.add_assoc, hol j 2 hj (by omega), ← he]; rfl
theorem Own.blkP {B : Nat} {w w' : World} {size : Nat} {v : Value} {n : Nat} {xs : List Value} (h : Own B w size v n xs) (hb : ∀ q, v.ownBlock = some q → w'.heap[q]? = w.heap[q]?) : Own B w' size v n xs := by
  rcases h with h | ⟨g, o, cap, rfl, hc⟩
  · exact .inl h
  · exact .inr ⟨g, o, cap, rfl, hc.block (hb g rfl)⟩
/-- Blocks that stay keep the plan. -/
theorem PlanO.blk {w w' : World} {B : Nat} {v : Value} {ts : List TaskD} {vs : List Value} (h : PlanO w B v ts vs) (hb : ∀ q, B ≤ q → q < w.heap.size → w'.heap[q]? = w.heap[q]?) : PlanO w' B v ts vs :=
  ⟨h.len, h.row.blkP (fun q hq => hb q (h.row.row_lo q hq) (h.row.row_hi q hq)), fun j hj => (h.dep j hj).blkP (fun q hq => hb q ((h.dep j hj).row_lo q hq) ((h.dep j hj).row_hi q hq)), h.dr, h.dd⟩
theorem PlanO.below {w w' : World} {B : Nat} {v : Value} {ts : List TaskD} {vs : List Value} (h : PlanO w B v ts vs) (hb : Below w.heap.size w w') : PlanO w' B v ts vs := h.blk (fun q _ hq => hb.block q hq)
theorem PlanO.grown {w w' : World} {B : Nat} {v : Value} {ts : List TaskD} {vs : List Value} {row : Option Nat} (h : PlanO w B v ts vs) (hg : w.grownBy w' row) (h1 : Dn v.ownBlock row) (h2 : ∀ j, j < ts.length → Dn (vs.getD j nilV).ownBlock row) : PlanO w' B v ts vs :=
  ⟨h.len, h.row.grown hg h1, fun j hj => (h.dep j hj).grown hg (h2 j hj), h.dr, h.dd⟩
theorem PlanO.mono {w : World} {B B' : Nat} {v : Value} {ts : List TaskD} {vs : List Value} (h : PlanO w B v ts vs) (hB : B' ≤ B) : PlanO w B' v ts vs :=
  ⟨h.len, h.row.mono' hB, fun j hj => (h.dep j hj).mono' hB, h.dr, h.dd⟩
/-- One more task: the row has grown, its list is new. -/
theorem PlanO.snoc {w : World} {B : Nat} {v' : Value} {ts : List TaskD} {vs : List Value} {t : TaskD} {u : Value} (hl : vs.length = ts.length) (hdep : ∀ j, j < ts.length → Own B w 1 (vs.getD j nilV) (ts.getD j dT).deps.length ((ts.getD j dT).deps.map (Value.int .i64))) (hdd : ∀ i j, i < j → j < ts.length → Dn (vs.getD i nilV).ownBlock (vs.getD j nilV).ownBlock)
    (hrow : Own B w 3 v' (ts.length + 1) (rowC ts vs ++ tcell t u)) (hu : Own B w 1 u t.deps.length (t.deps.map (Value.int .i64)))
    (h1 : ∀ j, j < ts.length → Dn (vs.getD j nilV).ownBlock v'.ownBlock) (h2 : Dn u.ownBlock v'.ownBlock) (h3 : ∀ j, j < ts.length → Dn (vs.getD j nilV).ownBlock u.ownBlock) : PlanO w B v' (ts ++ [t]) (vs ++ [u]) := by
  have g1 : ∀ j, j < ts.length → (ts ++ [t]).getD j dT = ts.getD j dT := fun j hj => by simp [List.getD, List.getElem?_append_left hj]
  have g2 : ∀ j, j < ts.length → (vs ++ [u]).getD j nilV = vs.getD j nilV := fun j hj => by simp [List.getD, List.getElem?_append_left (show j < vs.length by rw [hl]; exact hj)]
  have g3 : (ts ++ [t]).getD ts.length dT = t := by simp [List.getD]
  have g4 : (vs ++ [u]).getD ts.length nilV = u := by rw [← hl]; simp [List.getD]
  refine ⟨by simp [hl], ?_, fun j hj => ?_, fun j hj => ?_, fun i j hij hj => ?_⟩
  · rw [rowC_snoc _ _ _ _ hl, List.length_append, List.length_singleton]; exact hrow
  · rw [List.length_append, List.length_singleton] at hj
    by_cases e : j < ts.length
    · rw [g1 j e, g2 j e]; exact hdep j e
    · obtain rfl : j = ts.length := by omega
      rw [g3, g4]; exact hu
  · rw [List.length_append, List.length_singleton] at hj
    by_cases e : j < ts.length
    · rw [g2 j e]; exact h1 j e
    · obtain rfl : j = ts.length := by omega
      rw [g4]; exact h2
  · rw [List.length_append, List.length_singleton] at hj
    by_cases e : j < ts.length
    · rw [g2 j e, g2 i (by omega)]; exact hdd i j hij e
    · obtain rfl : j = ts.length := by omega
      rw [g4, g2 i (by omega)]; exact h3 i hij
theorem extT {xs ys : List TaskD} (hl : xs.length = ys.length) (h : ∀ j, j < xs.length → xs.getD j dT = ys.getD j dT) : xs = ys := by
  refine List.ext_getElem hl fun j h1 h2 => ?_
  have := h j h1
  simpa [List.getD, List.getElem?_eq_getElem h1, List.getElem?_eq_getElem h2] using this
theorem getD_setT (xs : List TaskD) (i : Nat) (t : TaskD) (h : i < xs.length) (j : Nat) : (xs.set i t).getD j dT = if i = j then t else xs.getD j dT := by
  by_cases e : i = j
  · subst e; simp [List.getD, h]
  · rw [if_neg e]; simp [List.getD, List.getElem?_set_ne e]
theorem rowC_set2 (ts : List TaskD) (vs : List Value) (i : Nat) (hi : i < ts.length) (t : TaskD) : ((rowC ts vs).set (i * 3) (.string t.name)).set (i * 3 + 1) (.int .i64 t.cost) = rowC (ts.set i t) vs := by
  refine ext3 (n := ts.length) (by simp [rowC_length]) (by rw [rowC_length, List.length_set]) fun j r hj hr => ?_
  rw [rowC_get _ _ _ _ (by rw [List.length_set]; exact hj) hr, List.getElem?_set, List.getElem?_set, getD_setT _ _ _ hi, List.length_set, rowC_length]
  by_cases e : i = j
  · subst e
    rw [if_pos rfl]
    have : r = 0 ∨ r = 1 ∨ r = 2 := by omega
    rcases this with rfl | rfl | rfl
    · rw [if_neg (by omega), if_pos (by omega), if_pos (by omega)]; rfl
    · rw [if_pos (by omega), if_pos (by omega)]; rfl
    · rw [if_neg (by omega), if_neg (by omega), rowC_get _ _ _ _ hi hr]; rfl
  · rw [if_neg (by omega), if_neg (by omega), if_neg e, rowC_get _ _ _ _ hj hr]
theorem PlanO.upd {w w3 w4 : World} {B : Nat} {v : Value} {ts : List TaskD} {vs : List Value} {i : Nat} {t : TaskD} (h : PlanO w B v ts vs) (hi : i < ts.length) (hg3 : w.grownBy w3 v.ownBlock) (hrow : Own B w3 3 v ts.length (rowC (ts.set i t) vs)) (hg4 : w3.grownBy w4 (vs.getD i nilV).ownBlock) (hd : Own B w4 1 (vs.getD i nilV) t.deps.length (t.deps.map (Value.int .i64))) : PlanO w4 B v (ts.set i t) vs := by
  refine ⟨by rw [List.length_set]; exact h.len, ?_, fun j hj => ?_, fun j hj => h.dr j (by simpa using hj), fun a b hab hb => h.dd a b hab (by simpa using hb)⟩
  · rw [List.length_set]; exact hrow.grown hg4 (h.dr i hi).symm
  · rw [List.length_set] at hj
    rw [getD_setT _ _ _ hi]
    by_cases e : i = j
    · subst e; rw [if_pos rfl]; exact hd
    · rw [if_neg e]
      refine ((h.dep j hj).grown hg3 (h.dr j hj)).grown hg4 ?_
      rcases Nat.lt_or_ge i j with l | l
      · exact (h.dd i j l hj).symm
      · exact h.dd j i (by omega) hi
theorem Own.toC {B : Nat} {w : World} {size g o n c n' : Nat} {xs : List Value} (h : Own B w size (.slice (some ⟨g, o, none⟩) n c) n' xs) : OwnC B w size g o c n' xs ∧ n = n' := by
  rcases h with ⟨hv, _⟩ | ⟨g', o', cap, hv, hc⟩
  · cases hv
  · injection hv with e1 e2 e3
    injection e1 with e1
    injection e1 with e4 e5
    subst e3 e4 e5
    exact ⟨hc, e2⟩
end Go.Proofs.YtaeomkpofcbmiaaGreat
