
/-
  Plans in memory; laws.szIntS, szTask, szTaskS, szPlan.
-/
import Derived.Test.YtlgmkmegkojgbaaDoorLawVal
namespace Go.Proofs.YtlgmkmegkojgbaaDoor
open Go.RowKit

/-- A list of numbers in memory. -/
structure IntsAt (w : World) (a : Option Addr) (b o n : Nat) (ns : List Int) : Prop where
  ad : 0 < n → a = some ⟨b, o, none⟩
  len : ns.length = n
  max : n ≤ maxLen
  lt : 0 < n → b < w.heap.size
  cell : ∀ j, j < n → w.cell? ⟨b, o + j, none⟩ = some (.int .i64 (ns.getD j 0))
  rng : ∀ x ∈ ns, -9223372036854775808 ≤ x ∧ x ≤ 9223372036854775807
theorem IntsAt.below {w w' : World} {a : Option Addr} {b o n : Nat} {ns : List Int} {C : Nat} (h : IntsAt w a b o n ns) (hb : Below C w w') (hC : 0 < n → b < C) : IntsAt w' a b o n ns :=
  ⟨h.ad, h.len, h.max, fun hn => Nat.lt_of_lt_of_le (h.lt hn) hb.size, fun j hj => (hb.cell (by exact hC (by omega))).trans (h.cell j hj), h.rng⟩
theorem IntsAt.below' {w w' : World} {a : Option Addr} {b o n : Nat} {ns : List Int} (h : IntsAt w a b o n ns) (hb : Below w.heap.size w w') : IntsAt w' a b o n ns := h.below hb h.lt
/-- .. where one other block may have been written. -/
theorem IntsAt.setCell {w : World} {a : Option Addr} {b o n : Nat} {ns : List Int} (h : IntsAt w a b o n ns) {p : Addr} (hp : 0 < n → b ≠ p.block) (u : Value) : IntsAt (w.setCell p u) a b o n ns :=
  ⟨h.ad, h.len, h.max, fun hn => by simpa [World.setCell] using h.lt hn, fun j hj => (World.cell?_of_block (w := w) (a := ⟨b, o + j, none⟩) (Below.heap_setCell _ _ _ _ (hp (by omega)))).trans (h.cell j hj), h.rng⟩
theorem IntsAt.rngD {w : World} {a : Option Addr} {b o n : Nat} {ns : List Int} (h : IntsAt w a b o n ns) {j : Nat} (hj : j < n) : -9223372036854775808 ≤ ns.getD j 0 ∧ ns.getD j 0 ≤ 9223372036854775807 := by
  have hj' : j < ns.length := by rw [h.len]; exact hj
  have := h.rng (ns.getD j 0)
  rw [show ns.getD j 0 = ns[j] by simp [List.getD, List.getElem?_eq_getElem hj']] at this ⊢
  exact this (List.getElem_mem hj')

structure TaskD where
  name : ByteArray
  cost : Int
  deps : List Int
def dT : TaskD := ⟨ByteArray.empty, 0, []⟩
def I64 (x : Int) : Prop := -9223372036854775808 ≤ x ∧ x ≤ 9223372036854775807
/-- A list of tasks in memory (of either package: three cells each). -/
structure TasksAt (w : World) (a : Option Addr) (b o n : Nat) (ts : List TaskD) : Prop where
  ad : 0 < n → a = some ⟨b, o, none⟩
  len : ts.length = n
  max : n ≤ maxLen
  lt : 0 < n → b < w.heap.size
  c0 : ∀ j, j < n → w.cell? ⟨b, o + j * 3, none⟩ = some (.string (ts.getD j dT).name)
  c1 : ∀ j, j < n → w.cell? ⟨b, o + j * 3 + 1, none⟩ = some (.int .i64 (ts.getD j dT).cost)
  c2 : ∀ j, j < n → ∃ a' b' o' n' c', w.cell? ⟨b, o + j * 3 + 2, none⟩ = some (.slice a' n' c') ∧ IntsAt w a' b' o' n' (ts.getD j dT).deps
  okn : ∀ j, j < n → (ts.getD j dT).name.size ≤ maxLen ∧ I64 (ts.getD j dT).cost
theorem TasksAt.below' {w w' : World} {a : Option Addr} {b o n : Nat} {ts : List TaskD} (h : TasksAt w a b o n ts) (hb : Below w.heap.size w w') : TasksAt w' a b o n ts :=
  ⟨h.ad, h.len, h.max, fun hn => Nat.lt_of_lt_of_le (h.lt hn) hb.size, fun j hj => (hb.cell (by exact h.lt (by omega))).trans (h.c0 j hj), fun j hj => (hb.cell (by exact h.lt (by omega))).trans (h.c1 j hj),
   fun j hj => by obtain ⟨a', b', o', n', c', h1, h2⟩ := h.c2 j hj; exact ⟨a', b', o', n', c', (hb.cell (by exact h.lt (by omega))).trans h1, h2.below' hb⟩, h.okn⟩

theorem TasksAt.get {w : World} {a : Option Addr} {b o n : Nat} {ts : List TaskD} (h : TasksAt w a b o n ts) {k : Nat} (hk : k < n) :
    ∃ t a' b' o' n' c', t = ts.getD k dT ∧ w.cell? ⟨b, o + k * 3, none⟩ = some (.string t.name) ∧ w.cell? ⟨b, o + k * 3 + 1, none⟩ = some (.int .i64 t.cost) ∧ w.cell? ⟨b, o + k * 3 + 2, none⟩ = some (.slice a' n' c') ∧
      IntsAt w a' b' o' n' t.deps ∧ t.name.size ≤ maxLen ∧ I64 t.cost := by
  obtain ⟨a', b', o', n', c', h1, h2⟩ := h.c2 k hk
  exact ⟨_, a', b', o', n', c', rfl, h.c0 k hk, h.c1 k hk, h1, h2, (h.okn k hk).1, (h.okn k hk).2⟩

/-- How much a task, and a list of tasks, counts. -/
def tsz (t : TaskD) : Nat := t.name.size + t.deps.length
def tssz (ts : List TaskD) : Nat := (ts.map tsz).sum
theorem tssz_snoc (ts : List TaskD) (t : TaskD) : tssz (ts ++ [t]) = tssz ts + tsz t := by simp [tssz]
theorem takeT_snoc {ts : List TaskD} {j : Nat} (hj : j < ts.length) : ts.take (j + 1) = ts.take j ++ [ts.getD j dT] := by
  rw [List.take_add_one, List.getElem?_eq_getElem hj]; simp [List.getD, List.getElem?_eq_getElem hj]
theorem tssz_take_le (ts : List TaskD) (k : Nat) : tssz (ts.take k) ≤ tssz ts := by
  have : tssz ts = tssz (ts.take k) + tssz (ts.drop k) := by
    conv => lhs; rw [← List.take_append_drop k ts]
    unfold tssz
    rw [List.map_append, List.sum_append]
  omega
theorem tsz_le {ts : List TaskD} {j : Nat} (hj : j < ts.length) : tsz (ts.getD j dT) ≤ tssz ts := by
  have := tssz_take_le ts (j + 1)
  rw [takeT_snoc hj, tssz_snoc] at this
  omega

end Go.Proofs.YtlgmkmegkojgbaaDoor
