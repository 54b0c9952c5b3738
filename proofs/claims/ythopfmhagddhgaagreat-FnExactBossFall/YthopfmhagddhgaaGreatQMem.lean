import Derived.WalkKit
import Derived.Deep.AppendSrc
import Derived.Deep.Upon
namespace Go.Proofs.YthopfmhagddhgaaGreat
open Go.RowKit

/-- Block g, from place o on, is a row of 'cap' elements of 'size' cells, of which the first n hold xs; none of it is frozen; the block is B or later. -/
structure OwnC (B : Nat) (w : World) (size g o cap n : Nat) (xs : List Value) : Prop where
  lo : B ≤ g
  hi : g < w.heap.size
  le : n ≤ cap
  max : cap ≤ maxLen
  len : xs.length = n * size
  holds : ∀ j, j < n * size → w.cell? ⟨g, o + j, none⟩ = xs[j]?
  there : ∀ j, j < cap * size → (w.cell? ⟨g, o + j, none⟩).isSome = true ∧ w.frozen? ⟨g, o + j, none⟩ = false

def Own (B : Nat) (w : World) (size : Nat) (v : Value) (n : Nat) (xs : List Value) : Prop :=
  (v = .slice none 0 0 ∧ n = 0 ∧ xs = []) ∨ ∃ g o cap, v = .slice (some ⟨g, o, none⟩) n cap ∧ OwnC B w size g o cap n xs

theorem Own.nil (B : Nat) (w : World) (size : Nat) : Own B w size (.slice none 0 0) 0 [] := .inl ⟨rfl, rfl, rfl⟩

section
variable {B : Nat} {w w' : World} {size g o cap n : Nat} {xs : List Value}

theorem OwnC.block (h : OwnC B w size g o cap n xs) (hb : w'.heap[g]? = w.heap[g]?) : OwnC B w' size g o cap n xs where
  lo := h.lo
  hi := by
    have := h.hi
    rw [Array.getElem?_eq_getElem this] at hb
    exact (Array.getElem?_eq_some_iff.1 hb).1
  le := h.le
  max := h.max
  len := h.len
  holds := fun j hj => (World.cell?_of_block (w := w) (a := ⟨g, o + j, none⟩) hb).trans (h.holds j hj)
  there := fun j hj => by
    rw [World.cell?_of_block (w := w) (a := ⟨g, o + j, none⟩) hb, World.frozen?_of_block (w := w) (a := ⟨g, o + j, none⟩) hb]
    exact h.there j hj

theorem OwnC.mono {B' : Nat} (h : OwnC B w size g o cap n xs) (hB : B' ≤ B) : OwnC B' w size g o cap n xs :=
  ⟨Nat.le_trans hB h.lo, h.hi, h.le, h.max, h.len, h.holds, h.there⟩

theorem OwnC.below {C : Nat} (h : OwnC B w size g o cap n xs) (hb : Below C w w') (hg : g < C) : OwnC B w' size g o cap n xs := h.block (hb.block g hg)

theorem OwnC.grown {row : Option Nat} (h : OwnC B w size g o cap n xs) (hg : w.grownBy w' row) (hne : some g ≠ row) : OwnC B w' size g o cap n xs := h.block (hg.block g h.hi hne)

theorem OwnC.setCell (h : OwnC B w size g o cap n xs) {j : Nat} (hj : j < n * size) (u : Value) : OwnC B (w.setCell ⟨g, o + j, none⟩ u) size g o cap n (xs.set j u) where
  lo := h.lo
  hi := by simpa [World.setCell] using h.hi
  le := h.le
  max := h.max
  len := by simpa using h.len
  holds := fun k hk => by
    by_cases e : k = j
    · subst e
      obtain ⟨u0, hu0⟩ := Option.isSome_iff_exists.1 (h.there k (Nat.lt_of_lt_of_le hj (Nat.mul_le_mul_right _ h.le))).1
      rw [World.cell?_setCell_same _ _ _ hu0, List.getElem?_set_self (by rw [h.len]; exact hj)]
    · rw [World.cell?_setCell_other _ _ _ _ (by intro hh; injection hh with _ h2 _; omega), List.getElem?_set_ne (by omega)]
      exact h.holds k hk
  there := fun k hk => by
    rw [World.frozen?_setCell]
    refine ⟨?_, (h.there k hk).2⟩
    by_cases e : k = j
    · subst e
      obtain ⟨u0, hu0⟩ := Option.isSome_iff_exists.1 (h.there k hk).1
      rw [World.cell?_setCell_same _ _ _ hu0]; rfl
    · rw [World.cell?_setCell_other _ _ _ _ (by intro hh; injection hh with _ h2 _; omega)]
      exact (h.there k hk).1

theorem OwnC.setOther (h : OwnC B w size g o cap n xs) {p : Addr} (hp : g ≠ p.block) (u : Value) : OwnC B (w.setCell p u) size g o cap n xs := h.block (Below.heap_setCell _ _ _ _ hp)
theorem OwnC.cellSome (h : OwnC B w size g o cap n xs) {j : Nat} (hj : j < n * size) : ∃ u, xs[j]? = some u ∧ w.cell? ⟨g, o + j, none⟩ = some u := by
  have : j < xs.length := by rw [h.len]; exact hj
  exact ⟨xs[j], List.getElem?_eq_getElem this, (h.holds j hj).trans (List.getElem?_eq_getElem this)⟩

theorem OwnC.notFrozen (h : OwnC B w size g o cap n xs) {j : Nat} (hj : j < n * size) : w.frozen? ⟨g, o + j, none⟩ = false :=
  (h.there j (Nat.lt_of_lt_of_le hj (Nat.mul_le_mul_right _ h.le))).2

/-- A new block of cells. -/
theorem OwnC.made (w : World) (B : Nat) (e : TypeId) (size cap n : Nat) (C : Array Value) (m : Nat) (hB : B ≤ w.heap.size) (hn : n ≤ cap) (hc : cap ≤ maxLen) (hs : C.size = cap * size) (hm : C.size ≤ m) (xs : List Value)
    (hx : C.toList.take (n * size) = xs) (mk : Nat × Nat) (hmk : mk = (0, 0) ∨ mk = (m, m + 1)) : OwnC B (w.alloc (.cells C e mk)) size w.heap.size 0 cap n xs := by
  have hle : n * size ≤ C.size := by rw [hs]; exact Nat.mul_le_mul_right _ hn
  have hcell : ∀ j, (w.alloc (.cells C e mk)).cell? ⟨w.heap.size, 0 + j, none⟩ = C[j]? := fun j => by
    rw [Nat.zero_add]; exact World.cell?_alloc_mark w C e mk j
  refine ⟨hB, by simp, hn, hc, ?_, fun j hj => ?_, fun j hj => ⟨?_, ?_⟩⟩
  · rw [← hx, List.length_take, Array.length_toList]; omega
  · rw [hcell, ← hx, List.getElem?_take, if_pos hj]; simp
  · rw [hcell, Array.getElem?_eq_getElem (by omega)]; rfl
  · rw [Nat.zero_add]
    obtain ⟨lo, hi⟩ := mk
    rw [World.frozen?_alloc_mark]
    rcases hmk with h | h
    · simp only [Prod.mk.injEq] at h; obtain ⟨rfl, rfl⟩ := h; simp
    · simp only [Prod.mk.injEq] at h; obtain ⟨rfl, rfl⟩ := h; simp; omega
end

theorem Own.drewW {B : Nat} {w : World} {size : Nat} {v : Value} {n : Nat} {xs : List Value} (h : Own B w size v n xs) : Own B w.drew size v n xs := by
  rcases h with h | ⟨g, o, cap, hv, hc⟩
  · exact .inl h
  · exact .inr ⟨g, o, cap, hv, hc.block rfl⟩

theorem Own.grown {B : Nat} {w w' : World} {size : Nat} {v : Value} {n : Nat} {xs : List Value} {row : Option Nat} (h : Own B w size v n xs) (hg : w.grownBy w' row) (hne : v.ownBlock = none ∨ v.ownBlock ≠ row) : Own B w' size v n xs := by
  rcases h with h | ⟨g, o, cap, rfl, hc⟩
  · exact .inl h
  · exact .inr ⟨g, o, cap, rfl, hc.grown hg (by simpa [Value.ownBlock] using hne)⟩

theorem Own.alloc {B : Nat} {w : World} {size : Nat} {v : Value} {n : Nat} {xs : List Value} (h : Own B w size v n xs) (ob : Obj) : Own B (w.alloc ob) size v n xs :=
  h.grown (World.grownBy_alloc w ob none) (by cases v.ownBlock <;> simp)

theorem Own.below {B C : Nat} {w w' : World} {size : Nat} {v : Value} {n : Nat} {xs : List Value} (h : Own B w size v n xs) (hb : Below C w w') (hC : w.heap.size ≤ C) : Own B w' size v n xs := by
  rcases h with h | ⟨g, o, cap, hv, hc⟩
  · exact .inl h
  · exact .inr ⟨g, o, cap, hv, hc.below hb (Nat.lt_of_lt_of_le hc.hi hC)⟩

theorem tape_setCells (b : Nat) : ∀ (vs : List Value) (o : Nat) (w : World), (w.setCells b o vs).tape = w.tape
  | [], _, _ => rfl
  | v :: r, o, w => by rw [World.setCells, tape_setCells b r (o + 1)]; rfl
theorem size_setCells' (b : Nat) : ∀ (vs : List Value) (o : Nat) (w : World), (w.setCells b o vs).heap.size = w.heap.size
  | [], _, _ => rfl
  | v :: r, o, w => by rw [World.setCells, size_setCells' b r (o + 1)]; simp [World.setCell]
theorem isSome_setCells' (b : Nat) : ∀ (vs : List Value) (o : Nat) (w : World) (q : Addr), (w.cell? q).isSome = true → ((w.setCells b o vs).cell? q).isSome = true
  | [], _, _, _, h => h
  | v :: r, o, w, q, h => by
    rw [World.setCells]
    refine isSome_setCells' b r (o + 1) _ q ?_
    by_cases e : (⟨b, o, none⟩ : Addr) = q
    · subst e
      obtain ⟨u, hu⟩ := Option.isSome_iff_exists.1 h
      rw [World.cell?_setCell_same _ _ _ hu]; rfl
    · rw [World.cell?_setCell_other _ _ _ _ e]; exact h

/-- APPEND, onto a row of the call's own, whatever is appended. -/
theorem run_append_c {P : Program} (w : World) (B : Nat) (t tx ty e : TypeId) (i : TypeInfo) (z : Value) (size bytes : Nat) (ht : P.underlying t = some (.slice e)) (hi : P.info? e = some i) (hz : i.zero = some z)
    (hsize : i.size = size) (hby : i.bytes = bytes) (hzs : z.cells.size = size) (v : Value) (n : Nat) (xs : List Value) (h : Own B w size v n xs)
    (x : Value) (m : Nat) (news : List Value) (hs : Src P size tx x m news w) (h63 : n + m ≤ maxLen) (hbytes : (n + m) * bytes ≤ 140737488355328) (hB : B ≤ w.heap.size) :
    ∃ v' w', (Builtin.append_ #[t, tx] ty #[v, x]).run P w = .ok v' w' ∧ Own B w' size v' (n + m) (xs ++ news) ∧ w.grownBy w' v.ownBlock ∧ (v'.ownBlock = v.ownBlock ∨ v'.ownBlock = some w.heap.size) := by
  subst hsize
  subst hby
  have hnl := hs.newsLen
  have hsmall : n + m ≤ 9223372036854775807 := by simp only [maxLen] at h63; omega
  have grown : ∀ (old : Nat), old < n + m → xs.length = n * i.size → ∀ (row : Option Nat),
      OwnC B (w.drew.alloc (.cells ((xs ++ news).toArray ++ Builtin.zeroCells z.cells (grownCap w (n + m) old e - (n + m))) e)) i.size w.heap.size 0 (grownCap w (n + m) old e) (n + m) (xs ++ news) ∧
      w.grownBy (w.drew.alloc (.cells ((xs ++ news).toArray ++ Builtin.zeroCells z.cells (grownCap w (n + m) old e - (n + m))) e)) row := by
    intro old ho hxl row
    have hge := grownCap_ge w (n + m) old e
    have hcm : grownCap w (n + m) old e ≤ maxLen := grownCap_le_maxLen w (n + m) old e h63
    have hlen : (xs ++ news).length = (n + m) * i.size := by rw [List.length_append, hxl, hnl, Nat.add_mul]
    refine ⟨OwnC.made w.drew B e i.size _ (n + m) _ _ hB hge hcm ?_ (Nat.le_refl _) _ ?_ (0, 0) (.inl rfl), ⟨rfl, rfl, rfl, by simp, fun k hk _ => Below.heap_alloc w.drew _ k hk⟩⟩
    · simp only [Array.size_append, List.size_toArray, size_zeroCells, hzs, hlen, ← Nat.add_mul]
      congr 1
      omega
    · simp only [Array.toList_append]
      rw [← hlen]
      exact List.take_left
  rcases h with ⟨rfl, rfl, rfl⟩ | ⟨g, o, cap, rfl, hc⟩
  · by_cases hm : m = 0
    · subst hm
      have hn : news = [] := List.eq_nil_of_length_eq_zero (by simpa using hnl)
      subst hn
      exact ⟨_, w, run_append_nothing w t tx ty e i ht hi none 0 0 (Nat.le_refl _) x hs, Own.nil _ _ _, World.grownBy.refl w _, .inl rfl⟩
    · have hr := run_append_grow_src (P := P) w t tx ty e i z ht hi hz none 0 0 [] (run_firstCells_none w.drew i.size 0 0 0) x m news hs (by omega) (by omega) (growslice_fits (by omega) hbytes)
      obtain ⟨g1, g2⟩ := grown 0 (by omega) (by simp) (Value.ownBlock (.slice none 0 0))
      exact ⟨_, _, hr, .inr ⟨_, _, _, rfl, g1⟩, g2, .inr rfl⟩
  · by_cases hroom : n + m ≤ cap
    · have hfit : n * i.size + news.length ≤ cap * i.size := by rw [hnl, ← Nat.add_mul]; exact Nat.mul_le_mul_right _ hroom
      have hr := run_append_room_src (P := P) w t tx ty e i ht hi g o n cap x m news hs hroom
        (fun j hj => by rw [Nat.add_assoc]; exact (hc.there (n * i.size + j) (by omega)).1) (fun j hj => by rw [Nat.add_assoc]; exact (hc.there (n * i.size + j) (by omega)).2)
      refine ⟨_, _, hr, .inr ⟨g, o, cap, rfl, ⟨hc.lo, by rw [size_setCells']; exact hc.hi, hroom, hc.max, by rw [List.length_append, hc.len, hnl, Nat.add_mul], fun j hj => ?_, fun j hj => ⟨?_, ?_⟩⟩⟩,
        ⟨World.os_setCells _ _ _ _, tape_setCells _ _ _ _, World.output_setCells _ _ _ _, by rw [size_setCells']; exact Nat.le_refl _, fun k hk hne => World.heap_setCells_other w g _ news hk (fun e => hne (by simp [Value.ownBlock, e]))⟩, .inl rfl⟩
      · by_cases hlt : j < n * i.size
        · rw [World.cell?_setCells_out g news _ w _ (fun _ _ => .inl (by simp; omega)), hc.holds j hlt, List.getElem?_append_left (by rw [hc.len]; exact hlt)]
        · have hj' : j - n * i.size < news.length := by rw [hnl]; rw [Nat.add_mul] at hj; omega
          have := World.cell?_setCells_in g news (o + n * i.size) w (fun k hk => by rw [Nat.add_assoc]; exact (hc.there (n * i.size + k) (by omega)).1) (j - n * i.size) hj'
          rw [show o + n * i.size + (j - n * i.size) = o + j by omega] at this
          rw [this, List.getElem?_append_right (by rw [hc.len]; omega), hc.len, List.getElem?_eq_getElem hj']
      · exact isSome_setCells' g news _ w _ (hc.there j hj).1
      · rw [World.frozen?_setCells]; exact (hc.there j hj).2
    · have hold : (Builtin.firstCells i.size n (.slice (some ⟨g, o, none⟩) n cap)).run P w.drew = .ok xs.toArray w.drew := by
        refine run_firstCells_some w.drew i.size n ⟨g, o, none⟩ n cap xs hc.len (fun j u hu => ?_)
        have hj : j < xs.length := (List.getElem?_eq_some_iff.1 hu).1
        rw [Addr.add_lit]
        exact (hc.holds j (by rw [← hc.len]; exact hj)).trans hu
      have hr := run_append_grow_src (P := P) w t tx ty e i z ht hi hz (some ⟨g, o, none⟩) n cap xs hold x m news hs (by omega) (by omega) (growslice_fits (by omega) hbytes)
      obtain ⟨g1, g2⟩ := grown cap (by omega) hc.len (Value.ownBlock (.slice (some ⟨g, o, none⟩) n cap))
      exact ⟨_, _, hr, .inr ⟨_, _, _, rfl, g1⟩, g2, .inr rfl⟩

/-- .. for the walk. -/
theorem wpList_append_c {P : Program} (w : World) {ops : Array Oper} {rest : List Oper} {o : Oper} {a : Act} {Q : Exit → Act → World → Prop} (hgd : o.guard = none) (s x : Operand) (t tx : TypeId)
    (ho : o.op = .call { callee := .builtin .append, args := #[s, x], argTypes := #[t, tx] })
    (B : Nat) (e : TypeId) (i : TypeInfo) (z : Value) (size bytes : Nat) (ht : P.underlying t = some (.slice e)) (hi : P.info? e = some i) (hz : i.zero = some z) (hsize : i.size = size) (hby : i.bytes = bytes) (hzs : z.cells.size = size)
    (v : Value) (n : Nat) (xs : List Value) (hv : a.eval s = v) (h : Own B w size v n xs)
    (xv : Value) (m : Nat) (news : List Value) (hx : a.eval x = xv) (hs : Src P size tx xv m news w) (h63 : n + m ≤ maxLen) (hbytes : (n + m) * bytes ≤ 140737488355328) (hB : B ≤ w.heap.size)
    (hK : ∀ v' w', Own B w' size v' (n + m) (xs ++ news) → w.grownBy w' v.ownBlock → (v'.ownBlock = v.ownBlock ∨ v'.ownBlock = some w.heap.size) → wpList P ops Q rest (a.put o.dst v') w') : wpList P ops Q (o :: rest) a w := by
  refine wpList_plain hgd fun K hK' => ?_
  obtain ⟨v', w', hrun, r1, r2, r3⟩ := run_append_c (P := P) w B t tx o.type e i z size bytes ht hi hz hsize hby hzs v n xs h xv m news hs h63 hbytes hB
  unfold Oper.wp
  simp [execOp, ho, resolve, invoke, builtin, hv, hx, hrun, Result.andThen]
  exact hK' _ _ (hK v' w' r1 r2 r3)

/-- 'make([]T, n)', for the walk. -/
theorem wpList_make_c {P : Program} (w : World) {ops : Array Oper} {rest : List Oper} {o : Oper} {a : Act} {Q : Exit → Act → World → Prop}
    (hg : o.guard = none) (l c : Operand) (t : TypeId) (hop : o.op = Op.makeSlice t l c)
    (B : Nat) (e : TypeId) (i : TypeInfo) (z : Value) (size bytes : Nat) (h1 : P.underlying t = some (.slice e)) (h2 : P.info? e = some i) (h3 : i.zero = some z) (h4 : i.size = size) (h5 : i.bytes = bytes)
    (kl kc : IntKind) (L C : Int) (n : Nat) (hl : a.eval l = .int kl L) (hc : a.eval c = .int kc C) (hL : L = (n : Int)) (hC : C = (n : Int)) (b2 : bytes * n ≤ 281474976710656) (b3 : n ≤ maxLen) (b4 : B ≤ w.heap.size)
    (hK : ∀ w', OwnC B w' size w.heap.size 0 n n (madeCells z.cells (n * size)).toList → w.grownBy w' none → wpList P ops Q rest (a.put o.dst (.slice (some ⟨w.heap.size, 0, none⟩) n n)) w') :
    wpList P ops Q (o :: rest) a w := by
  subst h4; subst h5; subst hL; subst hC
  refine wpList_plain hg fun K hK' => ?_
  have hb3 : (n : Int) ≤ 9223372036854775807 := by have := b3; simp only [maxLen] at this; omega
  have hb2 : (i.bytes : Int) * (n : Int) ≤ 281474976710656 := by
    have h : ((i.bytes * n : Nat) : Int) ≤ 281474976710656 := by omega
    rwa [Int.natCast_mul] at h
  have hrun := run_make (P := P) w t e i z h1 h2 h3 kl kc n n (by omega) (Int.le_refl _) hb2 hb3
  simp only [Int.toNat_natCast] at hrun
  unfold Oper.wp
  simp [execOp, hop, hl, hc, hrun, Result.andThen]
  refine hK' _ _ (hK _ (OwnC.made w B e i.size n n _ _ b4 (Nat.le_refl _) b3 (size_madeCells _ _) (Nat.le_refl _) _ ?_ (0, 0) (.inl rfl)) (World.grownBy_alloc w _ none))
  rw [List.take_of_length_le (by simp [size_madeCells])]

/-- Below, from grownBy with nothing written but what is B or later. -/
theorem below_grown {B : Nat} {w w1 w' : World} {row : Option Nat} (h : Below B w w1) (hg : w1.grownBy w' row) (hB : B ≤ w1.heap.size) (hr : ∀ k, row = some k → B ≤ k) : Below B w w' := h.grown hg hB hr
theorem Own.row_lo {B : Nat} {w : World} {size : Nat} {v : Value} {n : Nat} {xs : List Value} (h : Own B w size v n xs) : ∀ k, v.ownBlock = some k → B ≤ k := by
  intro k hk
  rcases h with ⟨rfl, _⟩ | ⟨g, o, cap, rfl, hc⟩
  · simp [Value.ownBlock] at hk
  · simp [Value.ownBlock] at hk; subst hk; exact hc.lo
theorem Own.row_hi {B : Nat} {w : World} {size : Nat} {v : Value} {n : Nat} {xs : List Value} (h : Own B w size v n xs) : ∀ k, v.ownBlock = some k → k < w.heap.size := by
  intro k hk
  rcases h with ⟨rfl, _⟩ | ⟨g, o, cap, rfl, hc⟩
  · simp [Value.ownBlock] at hk
  · simp [Value.ownBlock] at hk; subst hk; exact hc.hi
theorem Own.len {B : Nat} {w : World} {size : Nat} {v : Value} {n : Nat} {xs : List Value} (h : Own B w size v n xs) : xs.length = n * size := by
  rcases h with ⟨rfl, rfl, rfl⟩ | ⟨g, o, cap, rfl, hc⟩
  · simp
  · exact hc.len
/-- '[]byte(s)', for the walk. -/
theorem wpList_bytes_c {P : Program} (w : World) {ops : Array Oper} {rest : List Oper} {o : Oper} {a : Act} {Q : Exit → Act → World → Prop}
    (hg : o.guard = none) (x : Operand) (src dst : TypeId) (hop : o.op = Op.convert src dst x) (B : Nat) (e : TypeId) (hs : P.underlying src = some .string) (hd : P.underlying dst = some (.slice e)) (he : P.underlying e = some (.int .u8))
    (s : ByteArray) (hx : a.eval x = .string s) (h63 : s.size ≤ maxLen) (hB : B ≤ w.heap.size)
    (hK : ∀ v' w', Own B w' 1 v' s.size (byteCells s) → w.grownBy w' none → v'.ownBlock = some w.heap.size → wpList P ops Q rest (a.put o.dst v') w') : wpList P ops Q (o :: rest) a w := by
  refine wpList_plain hg fun K hK' => ?_
  have hrun := run_bytes_of_string (P := P) w src dst e s hs hd he
  have hge := grownCap_ge w s.size 0 e
  have hcm := grownCap_le_maxLen w s.size 0 e h63
  have hds : s.data.size = s.size := rfl
  unfold Oper.wp
  simp [execOp, hop, hx, hrun, Result.andThen]
  refine hK' _ _ (hK _ _ (.inr ⟨w.heap.size, 0, _, rfl, OwnC.made w.drew B e 1 _ s.size _ _ hB hge hcm ?_ (Nat.le_refl _) _ ?_ _ (.inr rfl)⟩) ⟨rfl, rfl, rfl, by simp, fun k hk _ => Below.heap_alloc w.drew _ k hk⟩ rfl)
  · simp only [bytesRow, Array.size_append, Array.size_map, Array.size_replicate]; omega
  · have : (byteCells s).length = s.size * 1 := by rw [byteCells_length, Nat.mul_one]
    simp only [bytesRow, Array.toList_append, Array.toList_map]
    rw [← this]
    exact List.take_left

/-- append, as a step of a region that draws its order. -/
theorem step_append_c {P : Program} {ops : Array Oper} {o : Oper} {a : Act} {w : World} {K : Act → World → Prop} {Q : Exit → Act → World → Prop} {E : Prop} (hgd : o.guard = none) (s x : Operand) (t tx : TypeId)
    (ho : o.op = .call { callee := .builtin .append, args := #[s, x], argTypes := #[t, tx] })
    (B : Nat) (e : TypeId) (i : TypeInfo) (z : Value) (size bytes : Nat) (ht : P.underlying t = some (.slice e)) (hi : P.info? e = some i) (hz : i.zero = some z) (hsize : i.size = size) (hby : i.bytes = bytes) (hzs : z.cells.size = size)
    (v : Value) (n : Nat) (xs : List Value) (hv : a.eval s = v) (h : Own B w size v n xs)
    (xv : Value) (m : Nat) (news : List Value) (hx : a.eval x = xv) (hs : Src P size tx xv m news w) (h63 : n + m ≤ maxLen) (hbytes : (n + m) * bytes ≤ 140737488355328) (hB : B ≤ w.heap.size)
    (hK : ∀ v' w', Own B w' size v' (n + m) (xs ++ news) → w.grownBy w' v.ownBlock → (v'.ownBlock = v.ownBlock ∨ v'.ownBlock = some w.heap.size) → K (a.put o.dst v') w') :
    if Region.wanted o (yielded ops a.tmps) = true then Oper.wp P o a w K Q else E := by
  have hw : Region.wanted o (yielded ops a.tmps) = true := by simp [Region.wanted, hgd]
  rw [if_pos hw]
  obtain ⟨v', w', hrun, r1, r2, r3⟩ := run_append_c (P := P) w B t tx o.type e i z size bytes ht hi hz hsize hby hzs v n xs h xv m news hs h63 hbytes hB
  unfold Oper.wp
  simp [execOp, ho, resolve, invoke, builtin, hv, hx, hrun, Result.andThen]
  exact hK v' w' r1 r2 r3

/-- What a row of the call's own yields to an append. -/
theorem Own.src {P : Program} {B : Nat} {w : World} {size : Nat} {v : Value} {n : Nat} {xs : List Value} {tx e' : TypeId} (h : Own B w size v n xs) (hk : P.underlying tx = some (.slice e')) (h1 : ∀ u ∈ xs, u.oneCell' = true) : Src P size tx v n xs w := by
  rcases h with ⟨rfl, rfl, rfl⟩ | ⟨g, o, cap, rfl, hc⟩
  · exact Src.ofNil w hk 0
  · refine Src.ofSlice w hk ⟨g, o, none⟩ n cap xs hc.len (fun j u hu => ?_) h1
    rw [Addr.add_lit]
    exact (hc.holds j (by rw [← hc.len]; exact (List.getElem?_eq_some_iff.1 hu).1)).trans hu
/-! ### shared by all texts -/
theorem hid {p : Prop} (h : p) : Hid p := h
/-- A yes or no that says p. (A name: the walk takes an 'exists' over bools apart.) -/
def RetB (e : Ending) (p : Prop) : Prop := ∃ r : Bool, e = .returned (.bool r) ∧ (r = true ↔ p)
theorem RetB.t {p : Prop} (h : p) : RetB (.returned (.bool true)) p := ⟨true, rfl, by simpa using h⟩
theorem RetB.f {p : Prop} (h : ¬ p) : RetB (.returned (.bool false)) p := ⟨false, rfl, by simpa using h⟩
theorem RetB.d {q p : Prop} [Decidable q] (h : q ↔ p) : RetB (.returned (.bool (decide q))) p := ⟨decide q, rfl, by simpa using h⟩
/-- A cell that was there, behind a call that leaves what was there. -/
theorem keepB {W w1 : World} (hb : Below W.heap.size W w1) {p : Addr} {v : Value} (h : W.cell? p = some v) : w1.cell? p = some v :=
  (hb.cell (p := p) (World.block_lt_of_cell? W p h)).trans h
/-- A cell that was there, behind a draw and a call that leaves what was there. -/
theorem keepC {W w1 : World} (hb : Below W.drew.heap.size W.drew w1) {p : Addr} {v : Value} (h : W.cell? p = some v) : w1.cell? p = some v :=
  (hb.cell (w := W.drew) (p := p) (World.block_lt_of_cell? W p h)).trans h
theorem bcell {W w1 : World} (hb : Below W.heap.size W w1) : (∀ b o, b < W.heap.size → w1.cell? ⟨b, o, none⟩ = W.cell? ⟨b, o, none⟩) ∧ (∀ b o, b < W.heap.size → w1.frozen? ⟨b, o, none⟩ = W.frozen? ⟨b, o, none⟩) :=
  ⟨fun b o h => hb.cell (p := ⟨b, o, none⟩) h, fun b o h => hb.frozen (p := ⟨b, o, none⟩) h⟩
theorem grownBy_trans {w w1 w2 : World} {r : Option Nat} (h : w.grownBy w1 r) (k : w1.grownBy w2 r) : w.grownBy w2 r :=
  ⟨k.os.trans h.os, k.tape.trans h.tape, k.output.trans h.output, Nat.le_trans h.size k.size, fun q hq hne => (k.block q (Nat.lt_of_lt_of_le hq h.size) hne).trans (h.block q hq hne)⟩
theorem grownBy_any {w w1 : World} {r : Option Nat} (h : w.grownBy w1 none) : w.grownBy w1 r := ⟨h.os, h.tape, h.output, h.size, fun q hq _ => h.block q hq (by simp)⟩
theorem grownBy_below {w w1 : World} {r : Option Nat} (h : Below w.heap.size w w1) : w.grownBy w1 r := ⟨h.os, h.tape, h.output, h.size, fun q hq _ => h.block q hq⟩
end Go.Proofs.YthopfmhagddhgaaGreat
