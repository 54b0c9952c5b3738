import Derived.Test.YthopfmhagddhgaaGreatQLawVal
namespace Go.Proofs.YthopfmhagddhgaaGreat
open Go.RowKit

/-- A list of numbers in memory. -/
structure IntsAt (w : World) (a : Option Addr) (b o n : Nat) (ns : List Int) : Prop where
  ad : 0 < n → a = some ⟨b, o, none⟩
  len : ns.length = n
  max : n ≤ maxLen
  lt : 0 < n → b < w.heap.size
  cell : ∀ j, j < n → w.cell? ⟨b, o + j, none⟩ = some (.int .i64 (ns.getD j 0))
  rng : ∀ x ∈ ns, -9223372036854775808 ≤ x ∧ x ≤ 9223372036854775807
theorem IntsAt.below {w w' : World} {a : Option Addr} {b o n : Nat} {ns : List Int} {C : Nat} (h : IntsAt w a b o n ns) (hb : Below C w w') (hC : 0 < n → b < C) : IntsAt w' a b o n ns :=
  ⟨h.ad, h.len, h.max, fun hn => Nat.lt_of_lt_of_le (h.lt hn) hb.size, fun j hj => (hb.cell (by exact hC (by omega))).trans (h.cell j hj), h.rng⟩
theorem IntsAt.below' {w w' : World} {a : Option Addr} {b o n : Nat} {ns : List Int} (h : IntsAt w a b o n ns) (hb : Below w.heap.size w w') : IntsAt w' a b o n ns := h.below hb h.lt
/-- .. where one other block may have been written. -/
theorem IntsAt.setCell {w : World} {a : Option Addr} {b o n : Nat} {ns : List Int} (h : IntsAt w a b o n ns) {p : Addr} (hp : 0 < n → b ≠ p.block) (u : Value) : IntsAt (w.setCell p u) a b o n ns :=
  ⟨h.ad, h.len, h.max, fun hn => by simpa [World.setCell] using h.lt hn, fun j hj => (World.cell?_of_block (w := w) (a := ⟨b, o + j, none⟩) (Below.heap_setCell _ _ _ _ (hp (by omega)))).trans (h.cell j hj), h.rng⟩
theorem IntsAt.rngD {w : World} {a : Option Addr} {b o n : Nat} {ns : List Int} (h : IntsAt w a b o n ns) {j : Nat} (hj : j < n) : -9223372036854775808 ≤ ns.getD j 0 ∧ ns.getD j 0 ≤ 9223372036854775807 := by
  have hj' : j < ns.length := by rw [h.len]; exact hj
  have := h.rng (ns.getD j 0)
  rw [show ns.getD j 0 = ns[j] by simp [List.getD, List.getElem?_eq_getElem hj']] at this ⊢
  exact this (List.getElem_mem hj')

structure TaskD where
  name : ByteArray
  cost : Int
  deps : List Int
def dT : TaskD := ⟨ByteArray.empty, 0, []⟩
def I64 (x : Int) : Prop := -9223372036854775808 ≤ x ∧ x ≤ 9223372036854775807
/-- A list of tasks in memory (of either package: three cells each). -/
structure TasksAt (w : World) (a : Option Addr) (b o n : Nat) (ts : List TaskD) : Prop where
  ad : 0 < n → a = some ⟨b, o, none⟩
  len : ts.length = n
  max : n ≤ maxLen
  lt : 0 < n → b < w.heap.size
  c0 : ∀ j, j < n → w.cell? ⟨b, o + j * 3, none⟩ = some (.string (ts.getD j dT).name)
  c1 : ∀ j, j < n → w.cell? ⟨b, o + j * 3 + 1, none⟩ = some (.int .i64 (ts.getD j dT).cost)
  c2 : ∀ j, j < n → ∃ a' b' o' n' c', w.cell? ⟨b, o + j * 3 + 2, none⟩ = some (.slice a' n' c') ∧ IntsAt w a' b' o' n' (ts.getD j dT).deps
  okn : ∀ j, j < n → (ts.getD j dT).name.size ≤ maxLen ∧ I64 (ts.getD j dT).cost
theorem TasksAt.below' {w w' : World} {a : Option Addr} {b o n : Nat} {ts : List TaskD} (h : TasksAt w a b o n ts) (hb : Below w.heap.size w w') : TasksAt w' a b o n ts :=
  ⟨h.ad, h.len, h.max, fun hn => Nat.lt_of_lt_of_le (h.lt hn) hb.size, fun j hj => (hb.cell (by exact h.lt (by omega))).trans (h.c0 j hj), fun j hj => (hb.cell (by exact h.lt (by omega))).trans (h.c1 j hj),
   fun j hj => by obtain ⟨a', b', o', n', c', h1, h2⟩ := h.c2 j hj; exact ⟨a', b', o', n', c', (hb.cell (by exact h.lt (by omega))).trans h1, h2.below' hb⟩, h.okn⟩

theorem TasksAt.get {w : World} {a : Option Addr} {b o n : Nat} {ts : List TaskD} (h : TasksAt w a b o n ts) {k : Nat} (hk : k < n) :
    ∃ t a' b' o' n' c', t = ts.getD k dT ∧ w.cell? ⟨b, o + k * 3, none⟩ = some (.string t.name) ∧ w.cell? ⟨b, o + k * 3 + 1, none⟩ = some (.int .i64 t.cost) ∧ w.cell? ⟨b, o + k * 3 + 2, none⟩ = some (.slice a' n' c') ∧
      IntsAt w a' b' o' n' t.deps ∧ t.name.size ≤ maxLen ∧ I64 t.cost := by
  obtain ⟨a', b', o', n', c', h1, h2⟩ := h.c2 k hk
  exact ⟨_, a', b', o', n', c', rfl, h.c0 k hk, h.c1 k hk, h1, h2, (h.okn k hk).1, (h.okn k hk).2⟩

/-- How much a task, and a list of tasks, counts. -/
def tsz (t : TaskD) : Nat := t.name.size + t.deps.length
def tssz (ts : List TaskD) : Nat := (ts.map tsz).sum
theorem tssz_snoc (ts : List TaskD) (t : TaskD) : tssz (ts ++ [t]) = tssz ts + tsz t := by simp [tssz]
theorem takeT_snoc {ts : List TaskD} {j : Nat} (hj : j < ts.length) : ts.take (j + 1) = ts.take j ++ [ts.getD j dT] := by
  rw [List.take_add_one, List.getElem?_eq_getElem hj]; simp [List.getD, List.getElem?_eq_getElem hj]
theorem tssz_take_le (ts : List TaskD) (k : Nat) : tssz (ts.take k) ≤ tssz ts := by
  have : tssz ts = tssz (ts.take k) + tssz (ts.drop k) := by
    conv => lhs; rw [← List.take_append_drop k ts]
    unfold tssz
    rw [List.map_append, List.sum_append]
  omega
theorem tsz_le {ts : List TaskD} {j : Nat} (hj : j < ts.length) : tsz (ts.getD j dT) ≤ tssz ts := by
  have := tssz_take_le ts (j + 1)
  rw [takeT_snoc hj, tssz_snoc] at this
  omega

set_option maxHeartbeats 400000 in
theorem szIntS_any (a : Option Addr) (n c : Nat) (left : Int) (w : World) (hl0 : 0 ≤ left) (hl1 : left ≤ 1048576) (hn : n ≤ maxLen) :
    Calls Tryz.prog 132 #[.slice a n c, .int .i64 left] w fun e w' => (∃ r, e = .returned (.int .i64 r) ∧ (r = -1 ∨ r = left - n ∧ 0 ≤ r)) ∧ w' = w := by
  unfold maxLen at hn
  by_cases h1 : left - n < 0
  · go_enter Tryz.func132, Tryz.ntmps132
    go_wp2
    go_ret
    exact ⟨⟨_, rfl, .inl rfl⟩, rfl⟩
  · go_enter Tryz.func132, Tryz.ntmps132
    go_wp2
    go_ret
    exact ⟨⟨_, rfl, .inr ⟨rfl, by omega⟩⟩, rfl⟩

set_option maxHeartbeats 400000 in
theorem szTask_any (s : ByteArray) (x : Int) (a : Option Addr) (n c : Nat) (left : Int) (w : World) (hl0 : 0 ≤ left) (hl1 : left ≤ 1048576) (hn : n ≤ maxLen) (hs : s.size ≤ maxLen) :
    Calls Tryz.prog 103 #[.agg #[.string s, .int .i64 x, .slice a n c], .int .i64 left] w fun e w' => (∃ r, e = .returned (.int .i64 r) ∧ (r = -1 ∨ r = left - (s.size + n) ∧ 0 ≤ r)) ∧ Below w.heap.size w w' := by
  have hs' := hs
  unfold maxLen at hs'
  by_cases h1 : left - s.size < 0
  · go_enter Tryz.func103, Tryz.ntmps103
    go_wp2
    go_ret
    exact ⟨⟨_, rfl, .inl rfl⟩, (Below.refl _ _).alloc (Nat.le_refl _) _⟩
  · go_enter Tryz.func103, Tryz.ntmps103
    go_wp2_with fail
    refine (szIntS_any a n c (left - s.size) _ (by omega) (by omega) hn).mono ?_
    rintro e w' ⟨⟨r, rfl, hr⟩, rfl⟩
    rcases hr with rfl | ⟨hr, hr0⟩
    · go_wp2
      go_ret
      exact ⟨⟨_, rfl, .inl rfl⟩, (Below.refl _ _).alloc (Nat.le_refl _) _⟩
    · have HR : Hid _ := hr
      clear hr
      go_wp2
      go_ret
      exact ⟨⟨_, rfl, .inr ⟨by rw [HR.out]; omega, hr0⟩⟩, (Below.refl _ _).alloc (Nat.le_refl _) _⟩

set_option maxHeartbeats 400000 in
theorem szTaskS_any (a : Option Addr) (b o n c : Nat) (ts : List TaskD) (left : Int) (w : World) (hl0 : 0 ≤ left) (hl1 : left ≤ 1048576) (h : TasksAt w a b o n ts) :
    Calls Tryz.prog 51 #[.slice a n c, .int .i64 left] w fun e w' => (∃ r, e = .returned (.int .i64 r) ∧ (r = -1 ∨ r = left - (n + tssz ts) ∧ 0 ≤ r)) ∧ Below w.heap.size w w' := by
  have hmax := h.max
  unfold maxLen at hmax
  by_cases h1 : left - n < 0
  · go_enter Tryz.func51, Tryz.ntmps51
    go_wp2
    go_ret
    exact ⟨⟨_, rfl, .inl rfl⟩, Below.refl _ _⟩
  · go_enter Tryz.func51, Tryz.ntmps51
    go_wp2
    go_loopw [1, 5] (fun l i wr => ∃ k : Nat, k ≤ n ∧ i = .int .i64 k ∧ (∃ r : Int, l = .int .i64 r ∧ 0 ≤ r ∧ r = left - n - tssz (ts.take k)) ∧ Below w.heap.size w wr) (fun _ i _ => n - (intOf i).toNat)
    case atStart => exact ⟨0, Nat.zero_le _, rfl, ⟨_, rfl, by omega, by simp [tssz]⟩, Below.refl _ _⟩
    case round =>
      obtain ⟨k, hk, rfl, ⟨r, rfl, hr0, hr⟩, hb⟩ := hrel
      have HR : Hid (r = left - n - tssz (ts.take k)) := hr
      have hr1 : r ≤ 1048576 := by omega
      clear hr
      by_cases hlt : k < n
      · obtain rfl := h.ad (by omega)
        obtain ⟨t, a', b', o', n', c', ht, hc0, hc1, hc2, hi, hok, _⟩ := (h.below' hb).get hlt
        have hlt' : (k : Int) < (n : Int) := by omega
        have hS : tssz (ts.take (k + 1)) = tssz (ts.take k) + tsz t := by rw [takeT_snoc (by rw [h.len]; exact hlt), tssz_snoc, ht]
        have HS : Hid _ := hS
        clear hS ht
        go_wp2_with fail
        refine (szTask_any t.name t.cost a' n' c' r _ hr0 hr1 hi.max hok).mono ?_
        rintro e w1 ⟨⟨r1, rfl, hr'⟩, hb1⟩
        have hb' := hb.trans (hb1.mono hb.size)
        have hdl := hi.len
        rcases hr' with rfl | ⟨hr', hr0'⟩
        · go_wp2
          go_ret
          exact ⟨⟨_, rfl, .inl rfl⟩, hb'⟩
        · have HR' : Hid _ := hr'
          clear hr'
          have HD : Hid (t.deps.length = n') := hdl
          clear hdl
          go_wp2
          go_roundw
          case rel => exact ⟨k + 1, by omega, by go_num, ⟨r1, rfl, hr0', by rw [HS.out, HR'.out, HR.out]; have := HD.out; simp only [tsz]; omega⟩, hb'⟩
          case measure => simp [intOf]; omega
      · obtain rfl : k = n := by omega
        go_wp2
        go_ret
        refine ⟨⟨r, rfl, .inr ⟨?_, hr0⟩⟩, hb⟩
        rw [HR.out, List.take_of_length_le (by rw [h.len]; omega)]; omega

set_option maxHeartbeats 400000 in
theorem szPlan_any (a : Option Addr) (b o n c : Nat) (ts : List TaskD) (left : Int) (w : World) (hl0 : 0 ≤ left) (hl1 : left ≤ 1048576) (h : TasksAt w a b o n ts) :
    Calls Tryz.prog 17 #[.agg #[.slice a n c], .int .i64 left] w fun e w' => (∃ r, e = .returned (.int .i64 r) ∧ (r = -1 ∨ r = left - (n + tssz ts) ∧ 0 ≤ r)) ∧ Below w.heap.size w w' := by
  have hb0 : Below w.heap.size w (w.alloc (.cells #[.slice a n c] 24)) := (Below.refl _ _).alloc (Nat.le_refl _) _
  go_enter Tryz.func17, Tryz.ntmps17
  go_wp2_with fail
  refine (szTaskS_any a b o n c ts left _ hl0 hl1 (h.below' hb0)).mono ?_
  rintro e w1 ⟨⟨r, rfl, hr⟩, hb1⟩
  have hb := hb0.trans (hb1.mono (by simp))
  rcases hr with rfl | ⟨hr, hr0⟩
  · go_wp2
    go_ret
    exact ⟨⟨_, rfl, .inl rfl⟩, hb⟩
  · have HR : Hid _ := hr
    clear hr
    go_wp2
    go_ret
    exact ⟨⟨_, rfl, .inr ⟨HR.out, hr0⟩⟩, hb⟩
end Go.Proofs.YthopfmhagddhgaaGreat

namespace Go.Proofs.YthopfmhagddhgaaGreat
open Go.RowKit

theorem Tryz.info3 : (Tryz.prog.info? 3).map (fun i => (i.zero, i.size, i.bytes)) = some (some (.int .i64 0), 1, 8) := by kernel_rfl
theorem Tryz.info120 : (Tryz.prog.info? 120).map (fun i => (i.zero, i.size, i.bytes)) = some (some (.agg #[.string ⟨#[]⟩, .int .i64 0, .slice none 0 0]), 3, 48) := by kernel_rfl

theorem IntsAt.ofOwn {B : Nat} {w : World} {g o cap n : Nat} {ns : List Int} (h : OwnC B w 1 g o cap n (ns.map (Value.int .i64))) (hz : ∀ x ∈ ns, I64 x) : IntsAt w (some ⟨g, o, none⟩) g o n ns := by
  have hl : ns.length = n := by have := h.len; simpa using this
  refine ⟨fun _ => rfl, hl, Nat.le_trans h.le h.max, fun _ => h.hi, fun j hj => ?_, hz⟩
  rw [h.holds j (by omega), List.getElem?_map, List.getElem?_eq_getElem (by omega)]
  simp [List.getD, List.getElem?_eq_getElem (show j < ns.length by omega)]
theorem takeI_snoc {ns : List Int} {j : Nat} (hj : j < ns.length) : ns.take (j + 1) = ns.take j ++ [ns.getD j 0] := by
  rw [List.take_add_one, List.getElem?_eq_getElem hj]; simp [List.getD, List.getElem?_eq_getElem hj]
theorem set_stepI (ns : List Int) (k n : Nat) (z : Value) (hk : k < n) (hn : ns.length = n) :
    ((ns.take k).map (Value.int .i64) ++ List.replicate (n - k) z).set k (.int .i64 (ns.getD k 0)) = (ns.take (k + 1)).map (Value.int .i64) ++ List.replicate (n - (k + 1)) z := by
  rw [takeI_snoc (by omega), List.set_append_right _ _ (by simp; omega), show n - k = (n - (k + 1)) + 1 by omega, List.replicate_succ]
  have : k - (List.map (Value.int .i64) (List.take k ns)).length = 0 := by simp; omega
  rw [this]
  simp


set_option maxHeartbeats 400000 in
theorem toIntS_any (a : Option Addr) (b o n c : Nat) (ns : List Int) (w : World) (h : IntsAt w a b o n ns) (hn : n ≤ 1048576) :
    Calls Tryz.prog 133 #[.slice a n c] w fun e w' => ∃ g, e = .returned (.slice (some ⟨g, 0, none⟩) n n) ∧ OwnC w.heap.size w' 1 g 0 n n (ns.map (Value.int .i64)) ∧ Below w.heap.size w w' := by
  obtain ⟨i0, hi, hz0, hz1, hz2⟩ := info_parts Tryz.info3
  go_enter Tryz.func133, Tryz.ntmps133
  go_wp2_with (refine wpList_make_c _ rfl _ _ 118 rfl w.heap.size 3 i0 (.int .i64 0) 1 8 Tryz.underlying118 hi hz0 hz1 hz2 .i64 .i64 n n n rfl rfl rfl rfl (by omega) (by unfold maxLen; omega) (Nat.le_refl _) ?_; intro w1 hown hgr)
  rw [made_one _ rfl] at hown
  go_loopw [4] (fun i wr => ∃ k : Nat, k ≤ n ∧ i = .int .i64 k ∧ OwnC w.heap.size wr 1 w.heap.size 0 n n ((ns.take k).map (Value.int .i64) ++ List.replicate (n - k) (.int .i64 0)) ∧ Below w.heap.size w wr) (fun i _ => n - (intOf i).toNat)
  case atStart => exact ⟨0, Nat.zero_le _, rfl, by simpa using hown, (Below.refl _ _).grown hgr (Nat.le_refl _) (by simp)⟩
  case round =>
    obtain ⟨k, hk, rfl, ho, hb⟩ := hrel
    by_cases hlt : k < n
    · obtain rfl := h.ad (by omega)
      have hbl := h.lt (by omega)
      have hc : wr.cell? ⟨b, o + k, none⟩ = some (.int .i64 (ns.getD k 0)) := (hb.cell (by exact hbl)).trans (h.cell k hlt)
      obtain ⟨u0, _, hc0⟩ := ho.cellSome (j := k) (by omega)
      have hf := ho.notFrozen (j := k) (by omega)
      have ho' := ho.setCell (j := k) (by omega) (.int .i64 (ns.getD k 0))
      rw [set_stepI ns k n _ hlt h.len] at ho'
      obtain ⟨s, hs'⟩ : ∃ s, s = ns.getD k 0 := ⟨_, rfl⟩
      rw [← hs'] at hc ho'
      clear hs' ho
      simp only [Nat.zero_add] at hc0 hf ho'
      have hlt' : (k : Int) < (n : Int) := by omega
      go_wp2
      go_roundw
      case rel => exact ⟨k + 1, by omega, by go_num, ho', hb.setCell (by exact Nat.le_refl _) _⟩
      case measure => simp [intOf]; omega
    · obtain rfl : k = n := by omega
      go_wp2
      go_ret
      rw [List.take_of_length_le (by rw [h.len]; omega)] at ho
      exact ⟨_, rfl, by simpa using ho, hb⟩

set_option maxHeartbeats 400000 in
theorem toTask_any (s : ByteArray) (x : Int) (a : Option Addr) (b o n c : Nat) (ns : List Int) (w : World) (h : IntsAt w a b o n ns) (hn : n ≤ 1048576) :
    Calls Tryz.prog 108 #[.agg #[.string s, .int .i64 x, .slice a n c]] w fun e w' => ∃ g, e = .returned (.agg #[.string s, .int .i64 x, .slice (some ⟨g, 0, none⟩) n n]) ∧ OwnC w.heap.size w' 1 g 0 n n (ns.map (Value.int .i64)) ∧ Below w.heap.size w w' := by
  have hb0 : Below w.heap.size w (((w.alloc (.cells #[.string s, .int .i64 x, .slice a n c] 150)).alloc (.cells #[.string ⟨#[]⟩, .int .i64 0, .slice none 0 0] 120)).alloc (.cells #[.string s, .int .i64 x, .slice none 0 0] 120)) :=
    (((Below.refl _ _).alloc (Nat.le_refl _) _).alloc (by simp) _).alloc (by simp; omega) _
  go_enter Tryz.func108, Tryz.ntmps108
  go_wp2_with fail
  refine (toIntS_any a b o n c ns _ (h.below' hb0) hn).mono ?_
  rintro e w1 ⟨g, rfl, ho1, hb1⟩
  obtain ⟨hc, hf⟩ := bcell hb1
  have hz : w.heap.size + 1 + 1 < w1.heap.size := by have := hb1.size; simp at this; omega
  have hg := ho1.lo
  simp at hg
  have hi1 : OwnC w.heap.size w1 1 g 0 n n (ns.map (Value.int .i64)) := ho1.mono (by simp; omega)
  have hb := hb0.trans (hb1.mono (by simp; omega))
  clear hb1 ho1 hb0
  go_wp2
  refine bodyPost_ret (v := .agg #[.string s, .int .i64 x, .slice (some ⟨g, 0, none⟩) n n]) (by simp [results, Tryz.results108, go_sem, hc]) rfl ⟨g, rfl, ?_, ?_⟩
  · exact (((hi1.setOther (by show g ≠ w.heap.size + 1 + 1; omega) _).setOther (by show g ≠ w.heap.size + 1; omega) _).setOther (by show g ≠ w.heap.size + 1; omega) _).setOther (by show g ≠ w.heap.size + 1; omega) _
  · exact (((hb.setCell (by show w.heap.size ≤ w.heap.size + 1 + 1; omega) _).setCell (by show w.heap.size ≤ w.heap.size + 1; omega) _).setCell (by show w.heap.size ≤ w.heap.size + 1; omega) _).setCell (by show w.heap.size ≤ w.heap.size + 1; omega) _

/-- The first k tasks stand in the row xs of block g; their lists lie behind block g, rows of their own. -/
def Built (w : World) (g : Nat) (xs : List Value) (k : Nat) (ts : List TaskD) : Prop :=
  ∀ j, j < k → xs[j * 3]? = some (.string (ts.getD j dT).name) ∧ xs[j * 3 + 1]? = some (.int .i64 (ts.getD j dT).cost) ∧ (∀ x ∈ (ts.getD j dT).deps, I64 x) ∧
    ∃ b' n', xs[j * 3 + 2]? = some (.slice (some ⟨b', 0, none⟩) n' n') ∧ OwnC (g + 1) w 1 b' 0 n' n' ((ts.getD j dT).deps.map (Value.int .i64))
theorem Built.below {w w' : World} {g : Nat} {xs : List Value} {k : Nat} {ts : List TaskD} (h : Built w g xs k ts) (hb : Below w.heap.size w w') : Built w' g xs k ts := fun j hj => by
  obtain ⟨h0, h1, hr, b', n', h2, h3⟩ := h j hj
  exact ⟨h0, h1, hr, b', n', h2, h3.below hb h3.hi⟩
theorem Built.setCell {w : World} {g : Nat} {xs : List Value} {k : Nat} {ts : List TaskD} (h : Built w g xs k ts) {p : Addr} (hp : p.block ≤ g) (u : Value) : Built (w.setCell p u) g xs k ts := fun j hj => by
  obtain ⟨h0, h1, hr, b', n', h2, h3⟩ := h j hj
  exact ⟨h0, h1, hr, b', n', h2, h3.setOther (by have := h3.lo; omega) _⟩
theorem Built.snoc {w : World} {g : Nat} {xs : List Value} {k : Nat} {ts : List TaskD} {t : TaskD} {b' n' : Nat} (h : Built w g xs k ts) (ht : t = ts.getD k dT) (hl : k * 3 + 2 < xs.length) (hr : ∀ x ∈ t.deps, I64 x) (hi : OwnC (g + 1) w 1 b' 0 n' n' (t.deps.map (Value.int .i64))) :
    Built w g (((xs.set (k * 3) (.string t.name)).set (k * 3 + 1) (.int .i64 t.cost)).set (k * 3 + 2) (.slice (some ⟨b', 0, none⟩) n' n')) (k + 1) ts := fun j hj => by
  by_cases e : j = k
  · subst e
    refine ⟨?_, ?_, ht ▸ hr, b', n', ?_, ht ▸ hi⟩
    · rw [List.getElem?_set_ne (by omega), List.getElem?_set_ne (by omega), List.getElem?_set_self (by omega), ht]
    · rw [List.getElem?_set_ne (by omega), List.getElem?_set_self (by simp; omega), ht]
    · rw [List.getElem?_set_self (by simp; omega)]
  · obtain ⟨h0, h1, hr, b', n', h2, h3⟩ := h j (by omega)
    refine ⟨?_, ?_, hr, b', n', ?_, h3⟩
    · rw [List.getElem?_set_ne (by omega), List.getElem?_set_ne (by omega), List.getElem?_set_ne (by omega)]; exact h0
    · rw [List.getElem?_set_ne (by omega), List.getElem?_set_ne (by omega), List.getElem?_set_ne (by omega)]; exact h1
    · rw [List.getElem?_set_ne (by omega), List.getElem?_set_ne (by omega), List.getElem?_set_ne (by omega)]; exact h2
theorem Built.tasksAt {B : Nat} {w : World} {g n cap : Nat} {xs : List Value} {ts : List TaskD} (h : Built w g xs n ts) (ho : OwnC B w 3 g 0 cap n xs) (hl : ts.length = n) (hok : ∀ j, j < n → (ts.getD j dT).name.size ≤ maxLen ∧ I64 (ts.getD j dT).cost) :
    TasksAt w (some ⟨g, 0, none⟩) g 0 n ts where
  ad := fun _ => rfl
  len := hl
  max := Nat.le_trans ho.le ho.max
  lt := fun _ => ho.hi
  c0 := fun j hj => (ho.holds (j * 3) (by omega)).trans (h j hj).1
  c1 := fun j hj => by rw [Nat.add_assoc]; exact (ho.holds (j * 3 + 1) (by omega)).trans (h j hj).2.1
  c2 := fun j hj => by
    obtain ⟨_, _, hr, b', n', h2, h3⟩ := h j hj
    exact ⟨_, b', 0, n', n', by rw [Nat.add_assoc]; exact (ho.holds (j * 3 + 2) (by omega)).trans h2, IntsAt.ofOwn h3 hr⟩
  okn := hok

set_option maxHeartbeats 1000000 in
theorem toTaskS_any (a : Option Addr) (b o n c : Nat) (ts : List TaskD) (w : World) (h : TasksAt w a b o n ts) (hn : n + tssz ts ≤ 1048576) :
    Calls Tryz.prog 58 #[.slice a n c] w fun e w' => ∃ g xs, e = .returned (.slice (some ⟨g, 0, none⟩) n n) ∧ OwnC w.heap.size w' 3 g 0 n n xs ∧ Built w' g xs n ts ∧ Below w.heap.size w w' := by
  obtain ⟨i0, hi, hz0, hz1, hz2⟩ := info_parts Tryz.info120
  have hn' : n ≤ 1048576 := by omega
  go_enter Tryz.func58, Tryz.ntmps58
  go_wp2_with (refine wpList_make_c _ rfl _ _ 39 rfl w.heap.size 120 i0 (.agg #[.string ⟨#[]⟩, .int .i64 0, .slice none 0 0]) 3 48 Tryz.underlying39 hi hz0 hz1 hz2 .i64 .i64 n n n rfl rfl rfl rfl (by omega) (by unfold maxLen; omega) (Nat.le_refl _) ?_; intro w1 hown hgr)
  go_loopw [4] (fun i wr => ∃ k : Nat, k ≤ n ∧ i = .int .i64 k ∧ (∃ xs, OwnC w.heap.size wr 3 w.heap.size 0 n n xs ∧ Built wr w.heap.size xs k ts) ∧ Below w.heap.size w wr) (fun i _ => n - (intOf i).toNat)
  case atStart => exact ⟨0, Nat.zero_le _, rfl, ⟨_, hown, fun j hj => absurd hj (by omega)⟩, (Below.refl _ _).grown hgr (Nat.le_refl _) (by simp)⟩
  case round =>
    obtain ⟨k, hk, rfl, ⟨xs, ho, hbu⟩, hb⟩ := hrel
    by_cases hlt : k < n
    · obtain rfl := h.ad (by omega)
      obtain ⟨t, a', b', o', n', c', ht, hc0, hc1, hc2, hi', hok, _⟩ := (h.below' hb).get hlt
      have hle : tsz t ≤ tssz ts := by rw [ht]; exact tsz_le (by rw [h.len]; exact hlt)
      have hdl : n' ≤ 1048576 := by have := hi'.len; simp only [tsz] at hle; omega
      have hlt' : (k : Int) < (n : Int) := by omega
      have HT : Hid (t = ts.getD k dT) := ht
      clear ht
      go_wp2_with fail
      refine (toTask_any t.name t.cost a' b' o' n' c' t.deps _ hi' hdl).mono ?_
      rintro e w2 ⟨g2, rfl, hi2, hb2⟩
      have hrg := hi'.rng
      have hg2 := hi2.lo
      have ho2 := ho.below hb2 ho.hi
      have hbu2 := hbu.below hb2
      have hhi := ho.hi
      have hb' := hb.trans (hb2.mono hb.size)
      obtain ⟨u0, _, hq0⟩ := ho2.cellSome (j := k * 3) (by omega)
      obtain ⟨u1, _, hq1⟩ := ho2.cellSome (j := k * 3 + 1) (by omega)
      obtain ⟨u2, _, hq2⟩ := ho2.cellSome (j := k * 3 + 2) (by omega)
      have hf0 := ho2.notFrozen (j := k * 3) (by omega)
      have hf1 := ho2.notFrozen (j := k * 3 + 1) (by omega)
      have hf2 := ho2.notFrozen (j := k * 3 + 2) (by omega)
      have hlen : k * 3 + 2 < xs.length := by rw [ho2.len]; omega
      have ho' := ((ho2.setCell (j := k * 3) (by omega) (.string t.name)).setCell (j := k * 3 + 1) (by omega) (.int .i64 t.cost)).setCell (j := k * 3 + 2) (by omega) (.slice (some ⟨g2, 0, none⟩) n' n')
      have hi3 := (((hi2.setOther (p := ⟨w.heap.size, k * 3, none⟩) (by show g2 ≠ w.heap.size; omega) (.string t.name)).setOther (p := ⟨w.heap.size, k * 3 + 1, none⟩) (by show g2 ≠ w.heap.size; omega) (.int .i64 t.cost)).setOther (p := ⟨w.heap.size, k * 3 + 2, none⟩) (by show g2 ≠ w.heap.size; omega) (.slice (some ⟨g2, 0, none⟩) n' n')).mono (show w.heap.size + 1 ≤ wr.heap.size by omega)
      have hbu' := (((hbu2.setCell (p := ⟨w.heap.size, k * 3, none⟩) (Nat.le_refl _) (.string t.name)).setCell (p := ⟨w.heap.size, k * 3 + 1, none⟩) (Nat.le_refl _) (.int .i64 t.cost)).setCell (p := ⟨w.heap.size, k * 3 + 2, none⟩) (Nat.le_refl _) (.slice (some ⟨g2, 0, none⟩) n' n')).snoc HT.out hlen hrg hi3
      have hb3 := ((hb'.setCell (p := ⟨w.heap.size, k * 3, none⟩) (Nat.le_refl _) (.string t.name)).setCell (p := ⟨w.heap.size, k * 3 + 1, none⟩) (Nat.le_refl _) (.int .i64 t.cost)).setCell (p := ⟨w.heap.size, k * 3 + 2, none⟩) (Nat.le_refl _) (.slice (some ⟨g2, 0, none⟩) n' n')
      simp only [Nat.zero_add] at hq0 hq1 hq2 hf0 hf1 hf2 ho'
      clear ho2 hbu2 hi2 hi3 hbu ho hb2 hb' hi'
      go_wp2
      go_roundw
      case rel => exact ⟨k + 1, by omega, by go_num, ⟨_, ho', hbu'⟩, hb3⟩
      case measure => simp [intOf]; omega
    · obtain rfl : k = n := by omega
      go_wp2
      go_ret
      exact ⟨_, _, rfl, ho, hbu, hb⟩

set_option maxHeartbeats 400000 in
theorem toPlan_any (a : Option Addr) (b o n c : Nat) (ts : List TaskD) (w : World) (h : TasksAt w a b o n ts) (hn : n + tssz ts ≤ 1048576) :
    Calls Tryz.prog 20 #[.agg #[.slice a n c]] w fun e w' => ∃ g xs, e = .returned (.agg #[.slice (some ⟨g, 0, none⟩) n n]) ∧ OwnC w.heap.size w' 3 g 0 n n xs ∧ Built w' g xs n ts ∧ TasksAt w' (some ⟨g, 0, none⟩) g 0 n ts ∧ Below w.heap.size w w' := by
  have hb0 : Below w.heap.size w (((w.alloc (.cells #[.slice a n c] 24)).alloc (.cells #[.slice none 0 0] 41)).alloc (.cells #[.slice none 0 0] 41)) :=
    (((Below.refl _ _).alloc (Nat.le_refl _) _).alloc (by simp) _).alloc (by simp; omega) _
  go_enter Tryz.func20, Tryz.ntmps20
  go_wp2_with fail
  refine (toTaskS_any a b o n c ts _ (h.below' hb0) hn).mono ?_
  rintro e w1 ⟨g, xs, rfl, ho1, hbu, hb1⟩
  obtain ⟨hc, hf⟩ := bcell hb1
  have hz : w.heap.size + 1 + 1 < w1.heap.size := by have := hb1.size; simp at this; omega
  have hg := ho1.lo
  simp at hg
  have hb := hb0.trans (hb1.mono (by simp; omega))
  have ho2 : OwnC w.heap.size w1 3 g 0 n n xs := ho1.mono (by simp; omega)
  clear hb1 ho1 hb0
  have ho3 := (ho2.setOther (p := ⟨w.heap.size + 1 + 1, 0, none⟩) (by show g ≠ w.heap.size + 1 + 1; omega) (.slice (some ⟨g, 0, none⟩) n n)).setOther (p := ⟨w.heap.size + 1, 0, none⟩) (by show g ≠ w.heap.size + 1; omega) (.slice (some ⟨g, 0, none⟩) n n)
  have hbu3 := (hbu.setCell (p := ⟨w.heap.size + 1 + 1, 0, none⟩) (by show w.heap.size + 1 + 1 ≤ g; omega) (.slice (some ⟨g, 0, none⟩) n n)).setCell (p := ⟨w.heap.size + 1, 0, none⟩) (by show w.heap.size + 1 ≤ g; omega) (.slice (some ⟨g, 0, none⟩) n n)
  clear ho2 hbu
  go_wp2
  refine bodyPost_ret (v := .agg #[.slice (some ⟨g, 0, none⟩) n n]) (by simp [results, Tryz.results20, go_sem, hc]) rfl ⟨g, xs, rfl, ho3, hbu3, hbu3.tasksAt ho3 h.len h.okn, ?_⟩
  exact (hb.setCell (by show w.heap.size ≤ w.heap.size + 1 + 1; omega) _).setCell (by show w.heap.size ≤ w.heap.size + 1; omega) _
end Go.Proofs.YthopfmhagddhgaaGreat

namespace Go.Proofs.YthopfmhagddhgaaGreat
open Go.RowKit



set_option maxHeartbeats 400000 in
theorem eqIntS_any (a a' : Option Addr) (b o n c b' o' c' : Nat) (ns : List Int) (w : World) (h : IntsAt w a b o n ns) (h' : IntsAt w a' b' o' n ns) :
    Calls Tryz.prog 134 #[.slice a n c, .slice a' n c'] w fun e w' => e = .returned (.bool true) ∧ Below w.heap.size w w' := by
  have hmax := h.max
  unfold maxLen at hmax
  go_enter Tryz.func134, Tryz.ntmps134
  go_wp2
  go_loopw [5] (fun i wr => ∃ k : Nat, k ≤ n ∧ i = .int .i64 k ∧ Below w.heap.size w wr) (fun i _ => n - (intOf i).toNat)
  case atStart => exact ⟨0, Nat.zero_le _, rfl, Below.refl _ _⟩
  case round =>
    obtain ⟨k, hk, rfl, hb⟩ := hrel
    by_cases hlt : k < n
    · obtain rfl := h.ad (by omega)
      obtain rfl := h'.ad (by omega)
      have hbl := h.lt (by omega)
      have hbl' := h'.lt (by omega)
      have hc : wr.cell? ⟨b, o + k, none⟩ = some (.int .i64 (ns.getD k 0)) := (hb.cell (by exact hbl)).trans (h.cell k hlt)
      have hc' : wr.cell? ⟨b', o' + k, none⟩ = some (.int .i64 (ns.getD k 0)) := (hb.cell (by exact hbl')).trans (h'.cell k hlt)
      obtain ⟨s, hs'⟩ : ∃ s, s = ns.getD k 0 := ⟨_, rfl⟩
      rw [← hs'] at hc hc'
      clear hs'
      have hlt' : (k : Int) < (n : Int) := by omega
      go_wp2
      go_quiet (fail)
      go_wp2
      go_roundw
      case rel => exact ⟨k + 1, by omega, by go_num, below_drewN hb _⟩
      case measure => simp [intOf]; omega
    · go_wp2
      go_ret
      exact ⟨rfl, hb⟩

set_option maxHeartbeats 400000 in
theorem eqTask_any (s : ByteArray) (x : Int) (a a' : Option Addr) (b o n c b' o' c' : Nat) (ns : List Int) (w : World) (h : IntsAt w a b o n ns) (h' : IntsAt w a' b' o' n ns) :
    Calls Tryz.prog 112 #[.agg #[.string s, .int .i64 x, .slice a n c], .agg #[.string s, .int .i64 x, .slice a' n c']] w fun e w' => e = .returned (.bool true) ∧ Below w.heap.size w w' := by
  have hb0 : Below w.heap.size w ((w.alloc (.cells #[.string s, .int .i64 x, .slice a n c] 120)).alloc (.cells #[.string s, .int .i64 x, .slice a' n c'] 120)) :=
    ((Below.refl _ _).alloc (Nat.le_refl _) _).alloc (by simp) _
  go_enter Tryz.func112, Tryz.ntmps112
  go_wp2_with fail
  refine (eqIntS_any a a' b o n c b' o' c' ns _ (h.below' hb0) (h'.below' hb0)).mono ?_
  rintro e w1 ⟨rfl, hb1⟩
  have hb := hb0.trans (hb1.mono (by simp; omega))
  go_wp2
  go_ret
  exact ⟨rfl, hb⟩

set_option maxHeartbeats 1000000 in
theorem eqTaskS_any (a a' : Option Addr) (b o n c b' o' c' : Nat) (ts : List TaskD) (w : World) (h : TasksAt w a b o n ts) (h' : TasksAt w a' b' o' n ts) :
    Calls Tryz.prog 65 #[.slice a n c, .slice a' n c'] w fun e w' => e = .returned (.bool true) ∧ Below w.heap.size w w' := by
  have hmax := h.max
  unfold maxLen at hmax
  go_enter Tryz.func65, Tryz.ntmps65
  go_wp2
  go_loopw [5] (fun i wr => ∃ k : Nat, k ≤ n ∧ i = .int .i64 k ∧ Below w.heap.size w wr) (fun i _ => n - (intOf i).toNat)
  case atStart => exact ⟨0, Nat.zero_le _, rfl, Below.refl _ _⟩
  case round =>
    obtain ⟨k, hk, rfl, hb⟩ := hrel
    by_cases hlt : k < n
    · obtain rfl := h.ad (by omega)
      obtain rfl := h'.ad (by omega)
      obtain ⟨t, a1, b1, o1, n1, c1, ht, hc0, hc1, hc2, hi, _, _⟩ := (h.below' hb).get hlt
      obtain ⟨t', a2, b2, o2, n2, c2, ht', hd0, hd1, hd2, hi', _, _⟩ := (h'.below' hb).get hlt
      obtain rfl : t' = t := by rw [ht, ht']
      have e12 : n2 = n1 := by rw [← hi.len, ← hi'.len]
      subst e12
      clear ht ht'
      have hlt' : (k : Int) < (n : Int) := by omega
      have hbb : Below w.heap.size w wr.drew := hb.drew
      have hiD : IntsAt wr.drew a1 b1 o1 n2 t'.deps := hi.below' (Below.refl _ _).drew
      have hiD' : IntsAt wr.drew a2 b2 o2 n2 t'.deps := hi'.below' (Below.refl _ _).drew
      go_wp2
      go_region_held3 (fun w' => w'.cell? ⟨b, o + k * 3, none⟩ = some (.string t'.name) ∧ w'.cell? ⟨b, o + k * 3 + 1, none⟩ = some (.int .i64 t'.cost) ∧ w'.cell? ⟨b, o + k * 3 + 2, none⟩ = some (.slice a1 n2 c1) ∧ w'.cell? ⟨b', o' + k * 3, none⟩ = some (.string t'.name) ∧ w'.cell? ⟨b', o' + k * 3 + 1, none⟩ = some (.int .i64 t'.cost) ∧ w'.cell? ⟨b', o' + k * 3 + 2, none⟩ = some (.slice a2 n2 c2)) (first | (simp [go_sem, *]; done) | assumption)
        (first
          | (go_at_call 112; refine (eqTask_any t'.name t'.cost a1 a2 b1 o1 n2 c1 b2 o2 c2 t'.deps _ hiD hiD').mono ?_; rintro e w1 ⟨rfl, hb1⟩; have q0 := keepC hb1 hc0; have q1 := keepC hb1 hc1; have q2 := keepC hb1 hc2; have r0 := keepC hb1 hd0; have r1 := keepC hb1 hd1; have r2 := keepC hb1 hd2))
      go_wp2
      go_roundw
      case rel => exact ⟨k + 1, by omega, by go_num, hbb.trans (hb1.mono hbb.size)⟩
      case measure => simp [intOf]; omega
    · go_wp2
      go_ret
      exact ⟨rfl, hb⟩

set_option maxHeartbeats 400000 in
theorem eqPlan_any (a a' : Option Addr) (b o n c b' o' c' : Nat) (ts : List TaskD) (w : World) (h : TasksAt w a b o n ts) (h' : TasksAt w a' b' o' n ts) :
    Calls Tryz.prog 23 #[.agg #[.slice a n c], .agg #[.slice a' n c']] w fun e w' => e = .returned (.bool true) ∧ Below w.heap.size w w' := by
  have hb0 : Below w.heap.size w ((w.alloc (.cells #[.slice a n c] 41)).alloc (.cells #[.slice a' n c'] 41)) :=
    ((Below.refl _ _).alloc (Nat.le_refl _) _).alloc (by simp) _
  go_enter Tryz.func23, Tryz.ntmps23
  go_wp2_with fail
  refine (eqTaskS_any a a' b o n c b' o' c' ts _ (h.below' hb0) (h'.below' hb0)).mono ?_
  rintro e w1 ⟨rfl, hb1⟩
  have hb := hb0.trans (hb1.mono (by simp; omega))
  go_wp2
  go_ret
  exact ⟨rfl, hb⟩
end Go.Proofs.YthopfmhagddhgaaGreat
