
/-
  impl.copyPlan.
-/
import Derived.Test.YtdjcfeiaembckaaPow
import Derived.Test.YtdjcfeiaembckaaVal
import Derived.Test.YtdjcfeiaembckaaHld
namespace Go.Proofs.Ytdjcfeiaembckaa
open Go.RowKit

theorem tssz_get {ts : List TaskD} {j : Nat} (hj : j < ts.length) : (ts.getD j dT).deps.length ≤ tssz ts := by
  have h1 := tssz_take_le ts (j + 1)
  rw [takeT_snoc hj, tssz_snoc] at h1
  have h2 : (ts.getD j dT).deps.length ≤ tsz (ts.getD j dT) := by unfold tsz; omega
  omega
theorem rowC_one (ts : List TaskD) (vs : List Value) (hv : ∀ j, j < ts.length → (vs.getD j nilV).oneCell' = true) : ∀ u ∈ rowC ts vs, u.oneCell' = true := by
  intro u hu
  simp only [rowC, List.mem_flatMap, List.mem_range] at hu
  obtain ⟨j, hj, hu⟩ := hu
  simp only [tcell, List.mem_cons, List.not_mem_nil, or_false] at hu
  rcases hu with rfl | rfl | rfl
  · rfl
  · rfl
  · exact hv j hj
/-- The lists of a plan that is there. -/
def oldV (w : World) (b o n : Nat) : List Value := (List.range n).map fun j => (w.cell? ⟨b, o + j * 3 + 2, none⟩).getD nilV
theorem oldV_length (w : World) (b o n : Nat) : (oldV w b o n).length = n := by simp [oldV]
theorem oldV_get (w : World) (b o n j : Nat) (hj : j < n) : (oldV w b o n).getD j nilV = (w.cell? ⟨b, o + j * 3 + 2, none⟩).getD nilV := by simp [oldV, List.getD, hj]
theorem TasksAt.oldD {w : World} {a : Option Addr} {b o n : Nat} {ts : List TaskD} (h : TasksAt w a b o n ts) {j : Nat} (hj : j < n) : ∃ a' b' o' n' c', (oldV w b o n).getD j nilV = .slice a' n' c' ∧ IntsAt w a' b' o' n' (ts.getD j dT).deps := by
  obtain ⟨a', b', o', n', c', hc, hi⟩ := h.c2 j hj
  exact ⟨a', b', o', n', c', by rw [oldV_get _ _ _ _ _ hj, hc]; rfl, hi⟩
theorem TasksAt.srcP {w w' : World} {a : Option Addr} {b o n : Nat} {ts : List TaskD} (h : TasksAt w a b o n ts) (hb : Below w.heap.size w w') (c : Nat) : Src Try.prog 3 23 (.slice a n c) n (rowC ts (oldV w b o n)) w' := by
  have hl := h.len
  by_cases h0 : n = 0
  · subst h0
    have e : ts = [] := List.eq_nil_of_length_eq_zero hl
    subst e
    cases a with
    | none => exact Src.ofNil w' Try.underlying23 c
    | some y => exact Src.ofSlice w' Try.underlying23 y 0 c _ rfl (fun i u hu => by simp [rowC] at hu) (fun u hu => by simp [rowC] at hu)
  · obtain rfl := h.ad (by omega)
    refine Src.ofSlice w' Try.underlying23 ⟨b, o, none⟩ n c _ (by rw [rowC_length, hl]) (fun i u hu => ?_) (rowC_one _ _ fun j hj => ?_)
    · have hi : i < n * 3 := by
        have := (List.getElem?_eq_some_iff.1 hu).1
        rw [rowC_length, hl] at this
        exact this
      have hbl := h.lt (by omega)
      rw [Addr.add_lit, ← hu]
      have hj : i / 3 < n := by omega
      have e := rowC_get ts (oldV w b o n) (i / 3) (i % 3) (by omega) (by omega)
      rw [show i / 3 * 3 + i % 3 = i by omega] at e
      rw [e]
      have hr : i % 3 = 0 ∨ i % 3 = 1 ∨ i % 3 = 2 := by omega
      have hcell : ∀ p : Addr, p.block = b → w'.cell? p = w.cell? p := fun p hp => hb.cell (by rw [hp]; exact hbl)
      rcases hr with hr | hr | hr
      · rw [hcell _ rfl, hr, show o + i = o + i / 3 * 3 by omega, h.c0 _ hj]; rfl
      · rw [hcell _ rfl, hr, show o + i = o + i / 3 * 3 + 1 by omega, h.c1 _ hj]; rfl
      · obtain ⟨a', b', o', n', c', hc, _⟩ := h.c2 _ hj
        rw [hcell _ rfl, hr, show o + i = o + i / 3 * 3 + 2 by omega, oldV_get _ _ _ _ _ hj, hc]; rfl
    · obtain ⟨a', b', o', n', c', e, _⟩ := h.oldD (j := j) (by omega)
      rw [e]; rfl
theorem IntsAt.srcI {w : World} {a : Option Addr} {b o n : Nat} {ns : List Int} (h : IntsAt w a b o n ns) (c : Nat) : Src Try.prog 1 30 (.slice a n c) n (ns.map (Value.int .i64)) w := by
  have h1 : ∀ u ∈ ns.map (Value.int .i64), u.oneCell' = true := fun u hu => by obtain ⟨y, _, rfl⟩ := List.mem_map.1 hu; rfl
  cases a with
  | none =>
    have h0 : n = 0 := Nat.eq_zero_of_not_pos fun hh => by have := h.ad hh; cases this
    subst h0
    have : ns = [] := List.eq_nil_of_length_eq_zero h.len
    subst this
    exact Src.ofNil w Try.underlying30 c
  | some y =>
    refine Src.ofSlice w Try.underlying30 y n c (ns.map (Value.int .i64)) (by simp [h.len]) (fun j u hu => ?_) h1
    have hj : j < n := by have := (List.getElem?_eq_some_iff.1 hu).1; rw [List.length_map, h.len] at this; exact this
    have hy := h.ad (by omega)
    injection hy with hy
    subst hy
    rw [Addr.add_lit, h.cell j hj]
    have hl := h.len
    rw [List.getElem?_map] at hu
    rw [List.getElem?_eq_getElem (by omega)] at hu
    simp only [Option.map_some, Option.some.injEq] at hu
    rw [← hu]
    simp [List.getD, List.getElem?_eq_getElem (show j < ns.length by omega)]
/-- Amid the copy: the first k tasks' lists are new. -/
structure CpSt (w : World) (a : Option Addr) (b o n c : Nat) (ts : List TaskD) (aT : Option Addr) (cT : Nat) (k : Nat) (VS : List Value) (wr : World) : Prop where
  P : CF wr w.heap.size [.slice a n c]
  R : CF wr (w.heap.size + 1) [.slice none 0 0]
  B : Below w.heap.size w wr
  z : w.heap.size + 2 ≤ wr.heap.size
  len : VS.length = n
  row : Own (w.heap.size + 2) wr 3 (.slice aT n cT) n (rowC ts VS)
  new : ∀ j, j < k → Own (w.heap.size + 2) wr 1 (VS.getD j nilV) (ts.getD j dT).deps.length ((ts.getD j dT).deps.map (Value.int .i64))
  old : ∀ j, k ≤ j → j < n → VS.getD j nilV = (oldV w b o n).getD j nilV
  dr : ∀ j, j < k → Dn (VS.getD j nilV).ownBlock (Value.slice aT n cT).ownBlock
  dd : ∀ i j, i < j → j < k → Dn (VS.getD i nilV).ownBlock (VS.getD j nilV).ownBlock

end Go.Proofs.Ytdjcfeiaembckaa
