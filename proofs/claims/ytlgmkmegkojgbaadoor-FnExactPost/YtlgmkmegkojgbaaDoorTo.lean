
/-
  laws.toIntS, toTask, toTaskS, toPlan.
-/
import Derived.Test.YtlgmkmegkojgbaaDoorDat
namespace Go.Proofs.YtlgmkmegkojgbaaDoor
open Go.RowKit

theorem Tryd.info3 : (Tryd.prog.info? 3).map (fun i => (i.zero, i.size, i.bytes)) = some (some (.int .i64 0), 1, 8) := by kernel_rfl
theorem IntsAt.ofOwn {B : Nat} {w : World} {g o cap n : Nat} {ns : List Int} (h : OwnC B w 1 g o cap n (ns.map (Value.int .i64))) (hz : ∀ x ∈ ns, I64 x) : IntsAt w (some ⟨g, o, none⟩) g o n ns := by
  have hl : ns.length = n := by have := h.len; simpa using this
  refine ⟨fun _ => rfl, hl, Nat.le_trans h.le h.max, fun _ => h.hi, fun j hj => ?_, hz⟩
  rw [h.holds j (by omega), List.getElem?_map, List.getElem?_eq_getElem (by omega)]
  simp [List.getD, List.getElem?_eq_getElem (show j < ns.length by omega)]
theorem takeI_snoc {ns : List Int} {j : Nat} (hj : j < ns.length) : ns.take (j + 1) = ns.take j ++ [ns.getD j 0] := by
  rw [List.take_add_one, List.getElem?_eq_getElem hj]; simp [List.getD, List.getElem?_eq_getElem hj]
theorem set_stepI (ns : List Int) (k n : Nat) (z : Value) (hk : k < n) (hn : ns.length = n) :
    ((ns.take k).map (Value.int .i64) ++ List.replicate (n - k) z).set k (.int .i64 (ns.getD k 0)) = (ns.take (k + 1)).map (Value.int .i64) ++ List.replicate (n - (k + 1)) z := by
  rw [takeI_snoc (by omega), List.set_append_right _ _ (by simp; omega), show n - k = (n - (k + 1)) + 1 by omega, List.replicate_succ]
  have : k - (List.map (Value.int .i64) (List.take k ns)).length = 0 := by simp; omega
  rw [this]
  simp


/-- The first k tasks stand in the row xs of block g; their lists lie behind block g, rows of their own. -/
def Built (w : World) (g : Nat) (xs : List Value) (k : Nat) (ts : List TaskD) : Prop :=
  ∀ j, j < k → xs[j * 3]? = some (.string (ts.getD j dT).name) ∧ xs[j * 3 + 1]? = some (.int .i64 (ts.getD j dT).cost) ∧ (∀ x ∈ (ts.getD j dT).deps, I64 x) ∧
    ∃ b' n', xs[j * 3 + 2]? = some (.slice (some ⟨b', 0, none⟩) n' n') ∧ OwnC (g + 1) w 1 b' 0 n' n' ((ts.getD j dT).deps.map (Value.int .i64))
theorem Built.below {w w' : World} {g : Nat} {xs : List Value} {k : Nat} {ts : List TaskD} (h : Built w g xs k ts) (hb : Below w.heap.size w w') : Built w' g xs k ts := fun j hj => by
  obtain ⟨h0, h1, hr, b', n', h2, h3⟩ := h j hj
  exact ⟨h0, h1, hr, b', n', h2, h3.below hb h3.hi⟩
theorem Built.setCell {w : World} {g : Nat} {xs : List Value} {k : Nat} {ts : List TaskD} (h : Built w g xs k ts) {p : Addr} (hp : p.block ≤ g) (u : Value) : Built (w.setCell p u) g xs k ts := fun j hj => by
  obtain ⟨h0, h1, hr, b', n', h2, h3⟩ := h j hj
  exact ⟨h0, h1, hr, b', n', h2, h3.setOther (by have := h3.lo; omega) _⟩
theorem Built.snoc {w : World} {g : Nat} {xs : List Value} {k : Nat} {ts : List TaskD} {t : TaskD} {b' n' : Nat} (h : Built w g xs k ts) (ht : t = ts.getD k dT) (hl : k * 3 + 2 < xs.length) (hr : ∀ x ∈ t.deps, I64 x) (hi : OwnC (g + 1) w 1 b' 0 n' n' (t.deps.map (Value.int .i64))) :
    Built w g (((xs.set (k * 3) (.string t.name)).set (k * 3 + 1) (.int .i64 t.cost)).set (k * 3 + 2) (.slice (some ⟨b', 0, none⟩) n' n')) (k + 1) ts := fun j hj => by
  by_cases e : j = k
  · subst e
    refine ⟨?_, ?_, ht ▸ hr, b', n', ?_, ht ▸ hi⟩
    · rw [List.getElem?_set_ne (by omega), List.getElem?_set_ne (by omega), List.getElem?_set_self (by omega), ht]
    · rw [List.getElem?_set_ne (by omega), List.getElem?_set_self (by simp; omega), ht]
    · rw [List.getElem?_set_self (by simp; omega)]
  · obtain ⟨h0, h1, hr, b', n', h2, h3⟩ := h j (by omega)
    refine ⟨?_, ?_, hr, b', n', ?_, h3⟩
    · rw [List.getElem?_set_ne (by omega), List.getElem?_set_ne (by omega), List.getElem?_set_ne (by omega)]; exact h0
    · rw [List.getElem?_set_ne (by omega), List.getElem?_set_ne (by omega), List.getElem?_set_ne (by omega)]; exact h1
    · rw [List.getElem?_set_ne (by omega), List.getElem?_set_ne (by omega), List.getElem?_set_ne (by omega)]; exact h2
theorem Built.tasksAt {B : Nat} {w : World} {g n cap : Nat} {xs : List Value} {ts : List TaskD} (h : Built w g xs n ts) (ho : OwnC B w 3 g 0 cap n xs) (hl : ts.length = n) (hok : ∀ j, j < n → (ts.getD j dT).name.size ≤ maxLen ∧ I64 (ts.getD j dT).cost) :
    TasksAt w (some ⟨g, 0, none⟩) g 0 n ts where
  ad := fun _ => rfl
  len := hl
  max := Nat.le_trans ho.le ho.max
  lt := fun _ => ho.hi
  c0 := fun j hj => (ho.holds (j * 3) (by omega)).trans (h j hj).1
  c1 := fun j hj => by rw [Nat.add_assoc]; exact (ho.holds (j * 3 + 1) (by omega)).trans (h j hj).2.1
  c2 := fun j hj => by
    obtain ⟨_, _, hr, b', n', h2, h3⟩ := h j hj
    exact ⟨_, b', 0, n', n', by rw [Nat.add_assoc]; exact (ho.holds (j * 3 + 2) (by omega)).trans h2, IntsAt.ofOwn h3 hr⟩
  okn := hok

end Go.Proofs.YtlgmkmegkojgbaaDoor
