
/-
  spec.DrawFormMessage.
-/
import Derived.Test.YtlgmkmegkojgbaaDoorDrs
import Derived.Test.YtlgmkmegkojgbaaDoorHld
namespace Go.Proofs.YtlgmkmegkojgbaaDoor
open Go.RowKit

/-- Amid DrawFormMessage: the answer's box in block P, the reader in g, the message in Q. -/
structure FM (w0 : World) (g P Q : Nat) (vs : List Value) (k : Nat) (w : World) : Prop where
  m : CF w Q vs
  bx : CF w P zM
  rd : RD w g k
  be : Below P w0 w
  h1 : P < g
  h2 : g < Q
  h3 : Q < w.heap.size
section
variable {w0 w w' : World} {g P Q k k' : Nat} {vs : List Value}
theorem FM.call (h : FM w0 g P Q vs k w) (hg : w.grownBy w' (some g)) (hr : RD w' g k') : FM w0 g P Q vs k' w' :=
  have := h.h1; have := h.h2; have := h.h3
  ⟨h.m.block (hg.block _ (by omega) (by simp; omega)), h.bx.block (hg.block _ (by omega) (by simp; omega)), hr, h.be.grown hg (by omega) (fun q hq => by simp at hq; omega), h.h1, h.h2, Nat.lt_of_lt_of_le h.h3 hg.size⟩
theorem FM.grown (h : FM w0 g P Q vs k w) {row : Option Nat} (hg : w.grownBy w' row) (hr : ∀ q, row = some q → Q < q) : FM w0 g P Q vs k w' :=
  have := h.h1; have := h.h2; have := h.h3
  ⟨h.m.block (hg.block _ (by omega) (fun e => by have := hr _ e.symm; omega)), h.bx.block (hg.block _ (by omega) (fun e => by have := hr _ e.symm; omega)), h.rd.grown hg (fun q hq => by have := hr q hq; omega), h.be.grown hg (by omega) (fun q hq => by have := hr q hq; omega), h.h1, h.h2, Nat.lt_of_lt_of_le h.h3 hg.size⟩
theorem FM.alloc (h : FM w0 g P Q vs k w) (o : Obj) : FM w0 g P Q vs k (w.alloc o) := h.grown (World.grownBy_alloc w o none) (fun q hq => by cases hq)
theorem FM.drew (h : FM w0 g P Q vs k w) : FM w0 g P Q vs k w.drew := h.grown (row := none) ⟨rfl, rfl, rfl, Nat.le_refl _, fun _ _ _ => rfl⟩ (fun q hq => by cases hq)
theorem FM.stored (h : FM w0 g P Q vs k w) {vs' : List Value} (hc : CF w' Q vs') (hg : w.grownBy w' (some Q)) : FM w0 g P Q vs' k w' :=
  have := h.h1; have := h.h2; have := h.h3
  ⟨hc, h.bx.block (hg.block _ (by omega) (by simp; omega)), h.rd.grown hg (fun q hq => by simp at hq; omega), h.be.grown hg (by omega) (fun q hq => by simp at hq; omega), h.h1, h.h2, Nat.lt_of_lt_of_le h.h3 hg.size⟩
end
theorem enter_pick (v1 v2 : Value) (w : World) : Sem.run Tryd.prog (callFunc 50 #[v1, v2]) w = .ok (.enter 50 #[v1, v2]) w := by kernel_rfl
theorem enter_many (v1 v2 : Value) (w : World) : Sem.run Tryd.prog (callFunc 52 #[v1, v2]) w = .ok (.enter 52 #[v1, v2]) w := by kernel_rfl
theorem run_cl {ρ : Operand → Value} {o : Oper} {w : World} {f : FuncId} {v1 v2 : Value} (x y : Operand) (ts : Array TypeId) (h : o.op = .call { callee := .value (.func f), args := #[x, y], argTypes := ts }) (hx : ρ x = v1) (hy : ρ y = v2) (hf : ρ (.func f) = .func (.func f) #[] #[]) (he : ∀ (v1 v2 : Value) (w : World), Sem.run Tryd.prog (callFunc f #[v1, v2]) w = .ok (.enter f #[v1, v2]) w) : (execOp ρ o).run Tryd.prog w = .ok (.enter f #[v1, v2]) w := by
  unfold execOp
  rw [h]
  simp [go_sem, hx, hy, hf, he]
theorem run_as {ρ : Operand → Value} {o : Oper} {w : World} {v : Value} (x : Operand) (h : o.op = .assign x) (hx : ρ x = v) : (execOp ρ o).run Tryd.prog w = .ok (.value v) w := by
  rw [← hx]; exact BigFrame.run_assign x h w
theorem run_ld {ρ : Operand → Value} {o : Oper} {w : World} {b : Nat} (cs : List Value) (x : Operand) (h : o.op = .load 27 x) (hx : ρ x = .pointer (some ⟨b, 0, none⟩)) (hc : CF w b cs) (hl : cs.length = 8) : (execOp ρ o).run Tryd.prog w = .ok (.value (.agg cs.toArray)) w := by
  have hr : w.rangeAt b 0 cs := fun j v hv => by
    rw [Nat.zero_add, (hc j (List.getElem?_eq_some_iff.1 hv).1).1]; exact hv
  unfold execOp
  simp only [h, hx, Instr.loadAt, Instr.sureAddr, Sem.run_bind, Sem.run_pure, Result.andThen_ok, run_loadVar_mid w b 0 27 cs _ hr Tryd.underlying27 rfl (by rw [Tryd.sizeMsg, hl])]
theorem run_bs {ρ : Operand → Value} {o : Oper} {w : World} (y : ByteArray) (x : Operand) (h : o.op = .buildSlice 22 4 #[(0, .const (.string ⟨#[107]⟩)), (1, .const (.string ⟨#[]⟩)), (2, .const (.string ⟨#[111, 116, 104, 101, 114]⟩)), (3, x)]) (hx : ρ x = .string y) (hk : ∀ v, ρ (.const v) = v) :
    (execOp ρ o).run Tryd.prog w = .ok (.value (.slice (some ⟨w.heap.size, 0, none⟩) 4 4)) (w.alloc (.cells #[.string ⟨#[107]⟩, .string ⟨#[]⟩, .string ⟨#[111, 116, 104, 101, 114]⟩, .string y] 9)) := by
  unfold execOp
  rw [h]
  simp [go_sem, hx, hk]
theorem run_ia {ρ : Operand → Value} {o : Oper} {w : World} {b r : Nat} (x y : Operand) (h : o.op = .indexAddr 22 x y) (hx : ρ x = .slice (some ⟨b, 0, none⟩) 4 4) (hy : ρ y = .int .i64 r) (hr : r < 4) : (execOp ρ o).run Tryd.prog w = .ok (.value (.pointer (some ⟨b, r, none⟩))) w := by
  have hr' : (r : Int) < 4 := by omega
  unfold execOp
  rw [h]
  simp [go_sem, hx, hy, hr']
theorem run_l1 {ρ : Operand → Value} {o : Oper} {w : World} {p : Addr} {v : Value} (x : Operand) (h : o.op = .load 9 x) (hx : ρ x = .pointer (some p)) (hc : w.cell? p = some v) : (execOp ρ o).run Tryd.prog w = .ok (.value v) w := by
  unfold execOp
  rw [h]
  simp [go_sem, hx, hc]
theorem pick_R2 (g k : Nat) (w : World) (h : RD w g k) (hk : k ≤ 1000000) : Calls Tryd.prog 50 #[.pointer (some ⟨g, 0, none⟩), .int .i64 2] w fun e w' => ∃ v, e = .returned v ∧ ∃ r : Nat, v = .int .i64 r ∧ r < 2 ∧ RD w' g (k + 1) ∧ w.grownBy w' (some g) :=
  (pick_any g 2 k w h hk (by omega) (by omega)).mono fun _ _ ⟨⟨r, hr, he⟩, h1, h2⟩ => ⟨_, he, r, rfl, hr, h1, h2⟩
theorem pick_R4 (g k : Nat) (w : World) (h : RD w g k) (hk : k ≤ 1000000) : Calls Tryd.prog 50 #[.pointer (some ⟨g, 0, none⟩), .int .i64 4] w fun e w' => ∃ v, e = .returned v ∧ ∃ r : Nat, v = .int .i64 r ∧ r < 4 ∧ RD w' g (k + 1) ∧ w.grownBy w' (some g) :=
  (pick_any g 4 k w h hk (by omega) (by omega)).mono fun _ _ ⟨⟨r, hr, he⟩, h1, h2⟩ => ⟨_, he, r, rfl, hr, h1, h2⟩
theorem many_of (r : Nat) (h : r < 2) (w : World) : Calls Tryd.prog 52 #[.string ⟨#[107]⟩, .int .i64 (30 + (r : Int))] w fun e w' => SomeText e 1000 ∧ w' = w := by
  have := l1Many_any ⟨#[107]⟩ (30 + r) w (by decide) (by omega)
  rwa [Int.natCast_add] at this
theorem many_R (r : Nat) (h : r < 2) (w : World) : Calls Tryd.prog 52 #[.string ⟨#[107]⟩, .int .i64 (30 + (r : Int))] w fun e w' => ∃ v, e = .returned v ∧ ∃ y : ByteArray, v = .string y ∧ y.size ≤ 1000 ∧ w' = w :=
  (many_of r h w).mono fun _ _ ⟨⟨y, he, hy⟩, hw⟩ => ⟨_, he, y, rfl, hy, hw⟩
theorem key_of (y : ByteArray) (r : Nat) (h : r < 4) (hy : y.size ≤ 1000) : ∃ t : ByteArray, [Value.string ⟨#[107]⟩, .string ⟨#[]⟩, .string ⟨#[111, 116, 104, 101, 114]⟩, .string y][r]? = some (.string t) ∧ t.size ≤ 1000 := by
  rcases (show r = 0 ∨ r = 1 ∨ r = 2 ∨ r = 3 by omega) with rfl | rfl | rfl | rfl
  · exact ⟨_, rfl, by decide⟩
  · exact ⟨_, rfl, by decide⟩
  · exact ⟨_, rfl, by decide⟩
  · exact ⟨_, rfl, hy⟩

set_option maxHeartbeats 8000000 in
set_option maxRecDepth 100000 in
theorem drawForm_any (ad : Option Addr) (b o n cc : Nat) (w : World) (h : BytesAt w ad b o n) (hb : 0 < n → b < w.heap.size) (hcc : n ≤ cc) (hn : n ≤ 1048576) :
    Calls Tryd.prog 17 #[.slice ad n cc] w fun e' w' => (∃ v key, e' = .returned (.tuple #[v, .string key]) ∧ key.size ≤ 1000 ∧ OwnMsg w.heap.size w' v false) ∧ Below w.heap.size w w' := by
  obtain ⟨W, hW⟩ : ∃ W, W = w.alloc (.cells zM.toArray 27) := ⟨_, rfl⟩
  have hbW : Below w.heap.size w W := by rw [hW]; exact (Below.refl _ _).alloc (Nat.le_refl _) _
  have hsW : W.heap.size = w.heap.size + 1 := by rw [hW]; simp
  have hcW : CF W w.heap.size zM := by rw [hW]; exact CF.made w zM.toArray _
  have hB : BytesAt W ad b o n := ⟨h.1, fun j hj => by obtain ⟨v, hv, hc⟩ := h.2 j hj; exact ⟨v, hv, (hbW.cell (p := ⟨b, o + j, none⟩) (hb (by omega))).trans hc⟩⟩
  have hbb : 0 < n → b < W.heap.size := fun h0 => by have := hb h0; omega
  simp only [zM] at hW
  have HW := hid hW
  clear hW h
  go_enter Tryd.func17, Tryd.ntmps17
  go_wp2_with fail
  rw [← HW.out]
  refine (l1Open_any ad b o n cc _ hB hbb hcc hn).mono ?_
  rintro e1 w1 ⟨rfl, hr1, hb1⟩
  obtain ⟨g, hg⟩ : ∃ g, g = W.heap.size := ⟨_, rfl⟩
  rw [← hg] at hr1 ⊢
  have hgl := hr1.lt
  have hPg : w.heap.size < g := by omega
  have hleW : w.heap.size + 1 ≤ W.heap.size := by omega
  clear hg hsW
  go_wp2_with fail
  refine (l2Draw_any g 0 _ hr1 (by omega)).mono ?_
  rintro e2 w2 ⟨⟨v, rfl, hv⟩, hr2, hg2⟩
  obtain ⟨k0, f, t, e, l, d, x, ss, a, c, rfl, hx, hl12, hs8, _, ho⟩ := hv
  have hgr := hg2.size
  have hgr1 := hb1.size
  have hBe : Below w.heap.size w w2 := (hbW.trans (hb1.mono (by omega))).grown hg2 (by omega) (fun q hq => by simp at hq; omega)
  have hbx2 : CF w2 w.heap.size zM := (hcW.block (hb1.block _ (by omega))).block (hg2.block _ (by omega) (by simp; omega))
  have hS2 : FM w g w.heap.size w2.heap.size [.int .i64 k0, .int .i64 f, .int .i64 t, .int .i64 e, .int .i64 l, .int .i64 d, .string x, .slice a ss.length c] 20 (w2.alloc (.cells #[.int .i64 k0, .int .i64 f, .int .i64 t, .int .i64 e, .int .i64 l, .int .i64 d, .string x, .slice a ss.length c] 27)) :=
    ⟨CF.made w2 _ _, hbx2.block (Below.heap_alloc _ _ _ (by omega)), hr2.keep (fun q hq => Below.heap_alloc _ _ _ (by omega)), hBe.alloc (by omega) _, hPg, by omega, by simp⟩
  obtain ⟨W2, hW2⟩ : ∃ W2, W2 = w2.alloc (.cells #[.int .i64 k0, .int .i64 f, .int .i64 t, .int .i64 e, .int .i64 l, .int .i64 d, .string x, .slice a ss.length c] 27) := ⟨_, rfl⟩
  have hoW2 : Own (g + 1) W2 1 (.slice a ss.length c) ss.length (ss.map Value.string) := by rw [hW2]; exact (ho.alloc _).mono' (by omega)
  rw [← hW2] at hS2
  have HW2 := hid hW2
  obtain ⟨Q, hQ⟩ : ∃ Q, Q = w2.heap.size := ⟨_, rfl⟩
  rw [← hQ] at hS2
  clear hW2 ho hr2 hg2 hr1 hb1 hbx2 hBe hcW hB
  go_wp2_with fail
  rw [← HW2.out]
  rw [← hQ]
  clear HW2 hQ
  refine (pick_any g 3 20 _ hS2.rd (by omega) (by omega) (by omega)).mono ?_
  rintro e3 w3 ⟨⟨r3, hq3, rfl⟩, hr3, hg3⟩
  have hS3 := hS2.call hg3 hr3
  have ho3 := hoW2.grown hg3 (.inr (by intro hh; have := hoW2.row_lo _ hh; omega))
  clear hS2 hoW2 hr3 hg3
  by_cases h30 : r3 = 0
  · subst h30
    have y0 : w3.cell? ⟨Q, 0, none⟩ = some (.int .i64 k0) := (hS3.m 0 (by simp)).1
    have y1 : w3.cell? ⟨Q, 1, none⟩ = some (.int .i64 f) := (hS3.m 1 (by simp)).1
    have y2 : w3.cell? ⟨Q, 2, none⟩ = some (.int .i64 t) := (hS3.m 2 (by simp)).1
    have y3 : w3.cell? ⟨Q, 3, none⟩ = some (.int .i64 e) := (hS3.m 3 (by simp)).1
    have y4 : w3.cell? ⟨Q, 4, none⟩ = some (.int .i64 l) := (hS3.m 4 (by simp)).1
    have y5 : w3.cell? ⟨Q, 5, none⟩ = some (.int .i64 d) := (hS3.m 5 (by simp)).1
    have y6 : w3.cell? ⟨Q, 6, none⟩ = some (.string x) := (hS3.m 6 (by simp)).1
    have y7 : w3.cell? ⟨Q, 7, none⟩ = some (.slice a ss.length c) := (hS3.m 7 (by simp)).1
    go_wp2_with fail
    refine (l2Spoil_any g 21 (g + 1) _ hS3.rd (by omega) _ false ⟨k0, f, t, e, l, d, x, ss, a, c, rfl, hx, hl12, hs8, (fun h => by cases h), ho3⟩).mono ?_
    rintro e4 w4 ⟨⟨v', rfl, hv'⟩, hr4, hg4⟩
    have hS4 := hS3.call hg4 hr4
    have hmm := hS4.m
    have h34 := hS3.h3
    have h34' := hS3.h2
    clear y0 y1 y2 y3 y4 y5 y6 y7 hS3 ho3 hx hl12 hs8
    obtain ⟨k0', f', t', e', l', d', x', ss', a', c', rfl, hx, hl12, hs8, _, ho4⟩ := hv'
    go_wp2_with (refine wpList_store_cf rfl 27 (.tmp 5) (.tmp 15) rfl Q _ [.int .i64 k0', .int .i64 f', .int .i64 t', .int .i64 e', .int .i64 l', .int .i64 d', .string x', .slice a' ss'.length c'] rfl rfl hmm rfl Tryd.sizeMsg (one8 _ _ _ _ _ _ _ _ _ _) ?_; intro W5 hc5 hg5)
    have hS5 := hS4.stored hc5 hg5
    have ho5 : Own (g + 1) W5 1 (.slice a' ss'.length c') ss'.length (ss'.map Value.string) := (ho4.grown hg5 (.inr (by intro hh; have := ho4.row_lo _ hh; omega))).mono' (by omega)
    have HO5 := hid ho5
    clear hS4 ho4 hc5 hg5 hr4 hg4 hmm ho5
    have hSd := hS5.drew
    have hPg5 := hS5.h1
    have hgQ := hS5.h2
    have hQ5 := hS5.h3
    go_upto_region 5 with fail
    refine wp_region_held (S := fun w' => CF w' Q [.int .i64 k0', .int .i64 f', .int .i64 t', .int .i64 e', .int .i64 l', .int .i64 d', .string x', .slice a' ss'.length c']) (by kernel_rfl) ?_
    change wpAnyH _ _ _ _ _ _ _ _ (World.drew _)
    refine hTake (i := 0) (d := some 16) (v := .agg #[.int .i64 k0', .int .i64 f', .int .i64 t', .int .i64 e', .int .i64 l', .int .i64 d', .string x', .slice a' ss'.length c']) (l' := #[true, false, false, false, false, false, false, false, false, false, false, false]) rfl (by kernel_rfl) (by kernel_rfl) (by kernel_rfl) (by kernel_rfl) (fun _ _ _ h => h) (by kernel_rfl) (fun _ hw => run_ld [.int .i64 k0', .int .i64 f', .int .i64 t', .int .i64 e', .int .i64 l', .int .i64 d', .string x', .slice a' ss'.length c'] (.tmp 5) (by kernel_rfl) (by kernel_rfl) hw rfl) hSd.m (by kernel_rfl) ?_
    refine hTake (i := 1) (d := some 17) (v := .pointer (some ⟨g, 0, none⟩)) (l' := #[true, true, false, false, false, false, false, false, false, false, false, false]) rfl (by kernel_rfl) (by kernel_rfl) (by kernel_rfl) (by kernel_rfl) (fun _ _ _ h => h) (by kernel_rfl) (fun _ _ => run_mv (.tmp 4) (by kernel_rfl) (by kernel_rfl)) hSd.m (by kernel_rfl) ?_
    refine hTake (i := 6) (d := some 22) (v := .pointer (some ⟨g, 0, none⟩)) (l' := #[true, true, false, false, false, false, true, false, false, false, false, false]) rfl (by kernel_rfl) (by kernel_rfl) (by kernel_rfl) (by kernel_rfl) (fun _ _ _ h => h) (by kernel_rfl) (fun _ _ => run_mv (.tmp 4) (by kernel_rfl) (by kernel_rfl)) hSd.m (by kernel_rfl) ?_
    refine hOne (by kernel_rfl) (hCall (i := 2) (d := some 18) (f := 50) (args := #[.pointer (some ⟨g, 0, none⟩), .int .i64 2]) (l' := #[true, true, true, false, false, false, true, false, false, false, false, false]) rfl (by kernel_rfl) (by kernel_rfl) (by kernel_rfl) (run_cl _ _ _ rfl (by kernel_rfl) (by kernel_rfl) rfl enter_pick) (pick_R2 g (21 + 20) _ hSd.rd (by omega)) ?_)
    rintro _ w6 ⟨r6, rfl, hq6, hr6, hg6⟩
    have hS6 := hSd.call hg6 hr6
    refine ⟨hS6.m, ?_⟩
    refine hTake (i := 3) (d := some 19) (v := .int .i64 (30 + (r6 : Int))) (l' := #[true, true, true, true, false, false, true, false, false, false, false, false]) rfl (by kernel_rfl) (by kernel_rfl) (by kernel_rfl) (by kernel_rfl) (fun _ _ _ h => h) (by kernel_rfl) (fun _ _ => run_add (.const (.int .i64 30)) (.tmp 18) 30 (r6 : Int) (by kernel_rfl) (by kernel_rfl) (by kernel_rfl) (by omega) (by omega)) hS6.m (by kernel_rfl) ?_
    refine hOne (by kernel_rfl) (hCall (i := 4) (d := some 20) (f := 52) (args := #[.string ⟨#[107]⟩, .int .i64 (30 + (r6 : Int))]) (l' := #[true, true, true, true, true, false, true, false, false, false, false, false]) rfl (by kernel_rfl) (by kernel_rfl) (by kernel_rfl) (run_cl _ _ _ rfl (by kernel_rfl) (by kernel_rfl) rfl enter_many) (many_R r6 hq6 _) ?_)
    rintro _ w7 ⟨y7t, rfl, hy7, hw7⟩
    rw [hw7]
    clear hw7
    refine ⟨hS6.m, ?_⟩
    have hS6a := hS6.alloc (.cells #[.string ⟨#[107]⟩, .string ⟨#[]⟩, .string ⟨#[111, 116, 104, 101, 114]⟩, .string y7t] 9)
    have hg6s := hg6.size
    have hd6 : W5.drew.heap.size = W5.heap.size := rfl
    have hmk : ∀ (r8 : Nat) (t8 : ByteArray), r8 < 4 → [Value.string ⟨#[107]⟩, .string ⟨#[]⟩, .string ⟨#[111, 116, 104, 101, 114]⟩, .string y7t][r8]? = some (.string t8) → ∀ w' : World, (w'.alloc (.cells #[.string ⟨#[107]⟩, .string ⟨#[]⟩, .string ⟨#[111, 116, 104, 101, 114]⟩, .string y7t] 9)).cell? ⟨w'.heap.size, r8, none⟩ = some (.string t8) := fun r8 t8 hq ht w' => ((CF.made w' #[.string ⟨#[107]⟩, .string ⟨#[]⟩, .string ⟨#[111, 116, 104, 101, 114]⟩, .string y7t] 9) r8 (by simpa using hq)).1.trans ht
    refine hTwo (i := 5) (j := 7) (by kernel_rfl) ?_ ?_
    · refine (hVal (i := 5) (d := some 21) (v := .slice (some ⟨w6.heap.size, 0, none⟩) 4 4) (w' := (w6.alloc (.cells #[.string ⟨#[107]⟩, .string ⟨#[]⟩, .string ⟨#[111, 116, 104, 101, 114]⟩, .string y7t] 9))) (l' := #[true, true, true, true, true, true, true, false, false, false, false, false]) rfl (by kernel_rfl) (by kernel_rfl) (by kernel_rfl) (run_bs y7t (.tmp 20) (by kernel_rfl) (by kernel_rfl) (fun _ => rfl)) hS6a.m ?_)
      refine hOne (by kernel_rfl) (hCall (i := 7) (d := some 23) (f := 50) (args := #[.pointer (some ⟨g, 0, none⟩), .int .i64 4]) (l' := #[true, true, true, true, true, true, true, true, false, false, false, false]) rfl (by kernel_rfl) (by kernel_rfl) (by kernel_rfl) (run_cl _ _ _ rfl (by kernel_rfl) (by kernel_rfl) rfl enter_pick) (pick_R4 g (21 + 20 + 1) _ hS6a.rd (by omega)) ?_)
      rintro _ w8 ⟨r8, rfl, hq8, hr8, hg8⟩
      have hS8 := hS6a.call hg8 hr8
      refine ⟨hS8.m, ?_⟩
      obtain ⟨t8, ht8, hz8⟩ := key_of y7t r8 hq8 hy7
      have ct8 : w8.cell? ⟨w6.heap.size, r8, none⟩ = some (.string t8) := keepP hg8 (hmk r8 t8 hq8 ht8 w6) (by dsimp only; omega)
      have ho8 := ((HO5.out.drewW.grown hg6 (.inr (by intro hh; have := HO5.out.row_lo _ hh; omega))).alloc (.cells #[.string ⟨#[107]⟩, .string ⟨#[]⟩, .string ⟨#[111, 116, 104, 101, 114]⟩, .string y7t] 9)).grown hg8 (.inr (by intro hh; have := HO5.out.row_lo _ hh; omega))
      refine hTake (i := 8) (d := some 24) (v := .pointer (some ⟨w6.heap.size, r8, none⟩)) (l' := #[true, true, true, true, true, true, true, true, true, false, false, false]) rfl (by kernel_rfl) (by kernel_rfl) (by kernel_rfl) (by kernel_rfl) (fun _ _ _ h => h) (by kernel_rfl) (fun _ _ => run_ia (.tmp 21) (.tmp 23) (by kernel_rfl) (by kernel_rfl) (by kernel_rfl) hq8) hS8.m (by kernel_rfl) ?_
      refine hTwo (i := 9) (j := 10) (by kernel_rfl) ?_ ?_
      · refine (hVal (i := 9) (d := some 25) (v := .string t8) (w' := w8) (l' := #[true, true, true, true, true, true, true, true, true, true, false, false]) rfl (by kernel_rfl) (by kernel_rfl) (by kernel_rfl) (run_l1 (.tmp 24) (by kernel_rfl) (by kernel_rfl) ct8) hS8.m ?_)
        obtain ⟨w10, hw10⟩ : ∃ w10, w10 = w8.setCells w.heap.size 0 [.int .i64 k0', .int .i64 f', .int .i64 t', .int .i64 e', .int .i64 l', .int .i64 d', .string x', .slice a' ss'.length c'] := ⟨_, rfl⟩
        have hc10 : CF w10 w.heap.size [.int .i64 k0', .int .i64 f', .int .i64 t', .int .i64 e', .int .i64 l', .int .i64 d', .string x', .slice a' ss'.length c'] := by rw [hw10]; exact hS8.bx.stored rfl
        have hg10 : w8.grownBy w10 (some (w.heap.size)) := by rw [hw10]; exact grown_setCells _ _ _ _ _ (World.grownBy.refl _ _)
        have hm10 : CF w10 Q [.int .i64 k0', .int .i64 f', .int .i64 t', .int .i64 e', .int .i64 l', .int .i64 d', .string x', .slice a' ss'.length c'] := hS8.m.block (hg10.block _ hS8.h3 (by have := hS8.h1; have := hS8.h2; simp; omega))
        refine hOne (by kernel_rfl) (hSkip (i := 10) (w' := w10) (l' := #[true, true, true, true, true, true, true, true, true, true, true, false]) rfl (by kernel_rfl) (by kernel_rfl) (by kernel_rfl) (by rw [hw10]; exact run_s8 zM [.int .i64 k0', .int .i64 f', .int .i64 t', .int .i64 e', .int .i64 l', .int .i64 d', .string x', .slice a' ss'.length c'] (.tmp 2) (.tmp 16) (by kernel_rfl) (by kernel_rfl) (by kernel_rfl) hS8.bx rfl rfl (one8 _ _ _ _ _ _ _ _ _ _)) hm10 ?_)
        refine hTake (i := 11) (d := some 3) (v := .string t8) (l' := #[true, true, true, true, true, true, true, true, true, true, true, true]) rfl (by kernel_rfl) (by kernel_rfl) (by kernel_rfl) (by kernel_rfl) (fun _ _ _ h => h) (by kernel_rfl) (fun _ _ => run_as (.tmp 25) (by kernel_rfl) (by kernel_rfl)) hm10 (by kernel_rfl) ?_
        have kk0 : w10.cell? ⟨w.heap.size, 0, none⟩ = some (.int .i64 k0') := (hc10 0 (by simp)).1
        have kk1 : w10.cell? ⟨w.heap.size, 1, none⟩ = some (.int .i64 f') := (hc10 1 (by simp)).1
        have kk2 : w10.cell? ⟨w.heap.size, 2, none⟩ = some (.int .i64 t') := (hc10 2 (by simp)).1
        have kk3 : w10.cell? ⟨w.heap.size, 3, none⟩ = some (.int .i64 e') := (hc10 3 (by simp)).1
        have kk4 : w10.cell? ⟨w.heap.size, 4, none⟩ = some (.int .i64 l') := (hc10 4 (by simp)).1
        have kk5 : w10.cell? ⟨w.heap.size, 5, none⟩ = some (.int .i64 d') := (hc10 5 (by simp)).1
        have kk6 : w10.cell? ⟨w.heap.size, 6, none⟩ = some (.string x') := (hc10 6 (by simp)).1
        have kk7 : w10.cell? ⟨w.heap.size, 7, none⟩ = some (.slice a' ss'.length c') := (hc10 7 (by simp)).1
        refine wpAnyH_done (by kernel_rfl) ?_ _
        go_wp2
        refine bodyPost_ret (v := .tuple #[.agg #[.int .i64 k0', .int .i64 f', .int .i64 t', .int .i64 e', .int .i64 l', .int .i64 d', .string x', .slice a' ss'.length c'], .string t8]) (by simp [results, Tryd.results17, go_sem, kk0, kk1, kk2, kk3, kk4, kk5, kk6, kk7]) rfl ⟨⟨_, t8, rfl, hz8, _, _, _, _, _, _, _, ss', _, _, rfl, hx, hl12, hs8, (fun h => by cases h), ?_⟩, ?_⟩
        · exact (ho8.grown hg10 (.inr (by intro hh; have := HO5.out.row_lo _ hh; omega))).mono' (show w.heap.size ≤ g + 1 by omega)
        · exact hS8.be.grown hg10 hS8.be.size (fun q hq => by simp at hq; omega)
      · have h_t := trivial
        obtain ⟨w10, hw10⟩ : ∃ w10, w10 = w8.setCells w.heap.size 0 [.int .i64 k0', .int .i64 f', .int .i64 t', .int .i64 e', .int .i64 l', .int .i64 d', .string x', .slice a' ss'.length c'] := ⟨_, rfl⟩
        have hc10 : CF w10 w.heap.size [.int .i64 k0', .int .i64 f', .int .i64 t', .int .i64 e', .int .i64 l', .int .i64 d', .string x', .slice a' ss'.length c'] := by rw [hw10]; exact hS8.bx.stored rfl
        have hg10 : w8.grownBy w10 (some (w.heap.size)) := by rw [hw10]; exact grown_setCells _ _ _ _ _ (World.grownBy.refl _ _)
        have hm10 : CF w10 Q [.int .i64 k0', .int .i64 f', .int .i64 t', .int .i64 e', .int .i64 l', .int .i64 d', .string x', .slice a' ss'.length c'] := hS8.m.block (hg10.block _ hS8.h3 (by have := hS8.h1; have := hS8.h2; simp; omega))
        refine (hSkip (i := 10) (w' := w10) (l' := #[true, true, true, true, true, true, true, true, true, false, true, false]) rfl (by kernel_rfl) (by kernel_rfl) (by kernel_rfl) (by rw [hw10]; exact run_s8 zM [.int .i64 k0', .int .i64 f', .int .i64 t', .int .i64 e', .int .i64 l', .int .i64 d', .string x', .slice a' ss'.length c'] (.tmp 2) (.tmp 16) (by kernel_rfl) (by kernel_rfl) (by kernel_rfl) hS8.bx rfl rfl (one8 _ _ _ _ _ _ _ _ _ _)) hm10 ?_)
        have ct10 := keepP hg10 ct8 (by dsimp only; omega)
        refine hOne (by kernel_rfl) (hVal (i := 9) (d := some 25) (v := .string t8) (w' := w10) (l' := #[true, true, true, true, true, true, true, true, true, true, true, false]) rfl (by kernel_rfl) (by kernel_rfl) (by kernel_rfl) (run_l1 (.tmp 24) (by kernel_rfl) (by kernel_rfl) ct10) hm10 ?_)
        refine hTake (i := 11) (d := some 3) (v := .string t8) (l' := #[true, true, true, true, true, true, true, true, true, true, true, true]) rfl (by kernel_rfl) (by kernel_rfl) (by kernel_rfl) (by kernel_rfl) (fun _ _ _ h => h) (by kernel_rfl) (fun _ _ => run_as (.tmp 25) (by kernel_rfl) (by kernel_rfl)) hm10 (by kernel_rfl) ?_
        have kk0 : w10.cell? ⟨w.heap.size, 0, none⟩ = some (.int .i64 k0') := (hc10 0 (by simp)).1
        have kk1 : w10.cell? ⟨w.heap.size, 1, none⟩ = some (.int .i64 f') := (hc10 1 (by simp)).1
        have kk2 : w10.cell? ⟨w.heap.size, 2, none⟩ = some (.int .i64 t') := (hc10 2 (by simp)).1
        have kk3 : w10.cell? ⟨w.heap.size, 3, none⟩ = some (.int .i64 e') := (hc10 3 (by simp)).1
        have kk4 : w10.cell? ⟨w.heap.size, 4, none⟩ = some (.int .i64 l') := (hc10 4 (by simp)).1
        have kk5 : w10.cell? ⟨w.heap.size, 5, none⟩ = some (.int .i64 d') := (hc10 5 (by simp)).1
        have kk6 : w10.cell? ⟨w.heap.size, 6, none⟩ = some (.string x') := (hc10 6 (by simp)).1
        have kk7 : w10.cell? ⟨w.heap.size, 7, none⟩ = some (.slice a' ss'.length c') := (hc10 7 (by simp)).1
        refine wpAnyH_done (by kernel_rfl) ?_ _
        go_wp2
        refine bodyPost_ret (v := .tuple #[.agg #[.int .i64 k0', .int .i64 f', .int .i64 t', .int .i64 e', .int .i64 l', .int .i64 d', .string x', .slice a' ss'.length c'], .string t8]) (by simp [results, Tryd.results17, go_sem, kk0, kk1, kk2, kk3, kk4, kk5, kk6, kk7]) rfl ⟨⟨_, t8, rfl, hz8, _, _, _, _, _, _, _, ss', _, _, rfl, hx, hl12, hs8, (fun h => by cases h), ?_⟩, ?_⟩
        · exact (ho8.grown hg10 (.inr (by intro hh; have := HO5.out.row_lo _ hh; omega))).mono' (show w.heap.size ≤ g + 1 by omega)
        · exact hS8.be.grown hg10 hS8.be.size (fun q hq => by simp at hq; omega)
    · refine (hCall (i := 7) (d := some 23) (f := 50) (args := #[.pointer (some ⟨g, 0, none⟩), .int .i64 4]) (l' := #[true, true, true, true, true, false, true, true, false, false, false, false]) rfl (by kernel_rfl) (by kernel_rfl) (by kernel_rfl) (run_cl _ _ _ rfl (by kernel_rfl) (by kernel_rfl) rfl enter_pick) (pick_R4 g (21 + 20 + 1) _ hS6.rd (by omega)) ?_)
      rintro _ w8 ⟨r8, rfl, hq8, hr8, hg8⟩
      have hS8 := hS6.call hg8 hr8
      have hg8s := hg8.size
      refine ⟨hS8.m, ?_⟩
      obtain ⟨t8, ht8, hz8⟩ := key_of y7t r8 hq8 hy7
      have hS8a := hS8.alloc (.cells #[.string ⟨#[107]⟩, .string ⟨#[]⟩, .string ⟨#[111, 116, 104, 101, 114]⟩, .string y7t] 9)
      have ho8 := (HO5.out.drewW.grown hg6 (.inr (by intro hh; have := HO5.out.row_lo _ hh; omega))).grown hg8 (.inr (by intro hh; have := HO5.out.row_lo _ hh; omega))
      have ct8 := hmk r8 t8 hq8 ht8 w8
      refine hTwo (i := 5) (j := 10) (by kernel_rfl) ?_ ?_
      · refine (hVal (i := 5) (d := some 21) (v := .slice (some ⟨w8.heap.size, 0, none⟩) 4 4) (w' := (w8.alloc (.cells #[.string ⟨#[107]⟩, .string ⟨#[]⟩, .string ⟨#[111, 116, 104, 101, 114]⟩, .string y7t] 9))) (l' := #[true, true, true, true, true, true, true, true, false, false, false, false]) rfl (by kernel_rfl) (by kernel_rfl) (by kernel_rfl) (run_bs y7t (.tmp 20) (by kernel_rfl) (by kernel_rfl) (fun _ => rfl)) hS8a.m ?_)
        refine hTake (i := 8) (d := some 24) (v := .pointer (some ⟨w8.heap.size, r8, none⟩)) (l' := #[true, true, true, true, true, true, true, true, true, false, false, false]) rfl (by kernel_rfl) (by kernel_rfl) (by kernel_rfl) (by kernel_rfl) (fun _ _ _ h => h) (by kernel_rfl) (fun _ _ => run_ia (.tmp 21) (.tmp 23) (by kernel_rfl) (by kernel_rfl) (by kernel_rfl) hq8) hS8a.m (by kernel_rfl) ?_
        refine hTwo (i := 9) (j := 10) (by kernel_rfl) ?_ ?_
        · refine (hVal (i := 9) (d := some 25) (v := .string t8) (w' := (w8.alloc (.cells #[.string ⟨#[107]⟩, .string ⟨#[]⟩, .string ⟨#[111, 116, 104, 101, 114]⟩, .string y7t] 9))) (l' := #[true, true, true, true, true, true, true, true, true, true, false, false]) rfl (by kernel_rfl) (by kernel_rfl) (by kernel_rfl) (run_l1 (.tmp 24) (by kernel_rfl) (by kernel_rfl) ct8) hS8a.m ?_)
          obtain ⟨w10, hw10⟩ : ∃ w10, w10 = (w8.alloc (.cells #[.string ⟨#[107]⟩, .string ⟨#[]⟩, .string ⟨#[111, 116, 104, 101, 114]⟩, .string y7t] 9)).setCells w.heap.size 0 [.int .i64 k0', .int .i64 f', .int .i64 t', .int .i64 e', .int .i64 l', .int .i64 d', .string x', .slice a' ss'.length c'] := ⟨_, rfl⟩
          have hc10 : CF w10 w.heap.size [.int .i64 k0', .int .i64 f', .int .i64 t', .int .i64 e', .int .i64 l', .int .i64 d', .string x', .slice a' ss'.length c'] := by rw [hw10]; exact hS8a.bx.stored rfl
          have hg10 : (w8.alloc (.cells #[.string ⟨#[107]⟩, .string ⟨#[]⟩, .string ⟨#[111, 116, 104, 101, 114]⟩, .string y7t] 9)).grownBy w10 (some (w.heap.size)) := by rw [hw10]; exact grown_setCells _ _ _ _ _ (World.grownBy.refl _ _)
          have hm10 : CF w10 Q [.int .i64 k0', .int .i64 f', .int .i64 t', .int .i64 e', .int .i64 l', .int .i64 d', .string x', .slice a' ss'.length c'] := hS8a.m.block (hg10.block _ hS8a.h3 (by have := hS8a.h1; have := hS8a.h2; simp; omega))
          refine hOne (by kernel_rfl) (hSkip (i := 10) (w' := w10) (l' := #[true, true, true, true, true, true, true, true, true, true, true, false]) rfl (by kernel_rfl) (by kernel_rfl) (by kernel_rfl) (by rw [hw10]; exact run_s8 zM [.int .i64 k0', .int .i64 f', .int .i64 t', .int .i64 e', .int .i64 l', .int .i64 d', .string x', .slice a' ss'.length c'] (.tmp 2) (.tmp 16) (by kernel_rfl) (by kernel_rfl) (by kernel_rfl) hS8a.bx rfl rfl (one8 _ _ _ _ _ _ _ _ _ _)) hm10 ?_)
          refine hTake (i := 11) (d := some 3) (v := .string t8) (l' := #[true, true, true, true, true, true, true, true, true, true, true, true]) rfl (by kernel_rfl) (by kernel_rfl) (by kernel_rfl) (by kernel_rfl) (fun _ _ _ h => h) (by kernel_rfl) (fun _ _ => run_as (.tmp 25) (by kernel_rfl) (by kernel_rfl)) hm10 (by kernel_rfl) ?_
          have kk0 : w10.cell? ⟨w.heap.size, 0, none⟩ = some (.int .i64 k0') := (hc10 0 (by simp)).1
          have kk1 : w10.cell? ⟨w.heap.size, 1, none⟩ = some (.int .i64 f') := (hc10 1 (by simp)).1
          have kk2 : w10.cell? ⟨w.heap.size, 2, none⟩ = some (.int .i64 t') := (hc10 2 (by simp)).1
          have kk3 : w10.cell? ⟨w.heap.size, 3, none⟩ = some (.int .i64 e') := (hc10 3 (by simp)).1
          have kk4 : w10.cell? ⟨w.heap.size, 4, none⟩ = some (.int .i64 l') := (hc10 4 (by simp)).1
          have kk5 : w10.cell? ⟨w.heap.size, 5, none⟩ = some (.int .i64 d') := (hc10 5 (by simp)).1
          have kk6 : w10.cell? ⟨w.heap.size, 6, none⟩ = some (.string x') := (hc10 6 (by simp)).1
          have kk7 : w10.cell? ⟨w.heap.size, 7, none⟩ = some (.slice a' ss'.length c') := (hc10 7 (by simp)).1
          refine wpAnyH_done (by kernel_rfl) ?_ _
          go_wp2
          refine bodyPost_ret (v := .tuple #[.agg #[.int .i64 k0', .int .i64 f', .int .i64 t', .int .i64 e', .int .i64 l', .int .i64 d', .string x', .slice a' ss'.length c'], .string t8]) (by simp [results, Tryd.results17, go_sem, kk0, kk1, kk2, kk3, kk4, kk5, kk6, kk7]) rfl ⟨⟨_, t8, rfl, hz8, _, _, _, _, _, _, _, ss', _, _, rfl, hx, hl12, hs8, (fun h => by cases h), ?_⟩, ?_⟩
          · exact ((ho8.alloc (.cells #[.string ⟨#[107]⟩, .string ⟨#[]⟩, .string ⟨#[111, 116, 104, 101, 114]⟩, .string y7t] 9)).grown hg10 (.inr (by intro hh; have := HO5.out.row_lo _ hh; omega))).mono' (show w.heap.size ≤ g + 1 by omega)
          · exact hS8a.be.grown hg10 hS8a.be.size (fun q hq => by simp at hq; omega)
        · have h_t := trivial
          obtain ⟨w10, hw10⟩ : ∃ w10, w10 = (w8.alloc (.cells #[.string ⟨#[107]⟩, .string ⟨#[]⟩, .string ⟨#[111, 116, 104, 101, 114]⟩, .string y7t] 9)).setCells w.heap.size 0 [.int .i64 k0', .int .i64 f', .int .i64 t', .int .i64 e', .int .i64 l', .int .i64 d', .string x', .slice a' ss'.length c'] := ⟨_, rfl⟩
          have hc10 : CF w10 w.heap.size [.int .i64 k0', .int .i64 f', .int .i64 t', .int .i64 e', .int .i64 l', .int .i64 d', .string x', .slice a' ss'.length c'] := by rw [hw10]; exact hS8a.bx.stored rfl
          have hg10 : (w8.alloc (.cells #[.string ⟨#[107]⟩, .string ⟨#[]⟩, .string ⟨#[111, 116, 104, 101, 114]⟩, .string y7t] 9)).grownBy w10 (some (w.heap.size)) := by rw [hw10]; exact grown_setCells _ _ _ _ _ (World.grownBy.refl _ _)
          have hm10 : CF w10 Q [.int .i64 k0', .int .i64 f', .int .i64 t', .int .i64 e', .int .i64 l', .int .i64 d', .string x', .slice a' ss'.length c'] := hS8a.m.block (hg10.block _ hS8a.h3 (by have := hS8a.h1; have := hS8a.h2; simp; omega))
          refine (hSkip (i := 10) (w' := w10) (l' := #[true, true, true, true, true, true, true, true, true, false, true, false]) rfl (by kernel_rfl) (by kernel_rfl) (by kernel_rfl) (by rw [hw10]; exact run_s8 zM [.int .i64 k0', .int .i64 f', .int .i64 t', .int .i64 e', .int .i64 l', .int .i64 d', .string x', .slice a' ss'.length c'] (.tmp 2) (.tmp 16) (by kernel_rfl) (by kernel_rfl) (by kernel_rfl) hS8a.bx rfl rfl (one8 _ _ _ _ _ _ _ _ _ _)) hm10 ?_)
          have ct10 := keepP hg10 ct8 (by dsimp only; omega)
          refine hOne (by kernel_rfl) (hVal (i := 9) (d := some 25) (v := .string t8) (w' := w10) (l' := #[true, true, true, true, true, true, true, true, true, true, true, false]) rfl (by kernel_rfl) (by kernel_rfl) (by kernel_rfl) (run_l1 (.tmp 24) (by kernel_rfl) (by kernel_rfl) ct10) hm10 ?_)
          refine hTake (i := 11) (d := some 3) (v := .string t8) (l' := #[true, true, true, true, true, true, true, true, true, true, true, true]) rfl (by kernel_rfl) (by kernel_rfl) (by kernel_rfl) (by kernel_rfl) (fun _ _ _ h => h) (by kernel_rfl) (fun _ _ => run_as (.tmp 25) (by kernel_rfl) (by kernel_rfl)) hm10 (by kernel_rfl) ?_
          have kk0 : w10.cell? ⟨w.heap.size, 0, none⟩ = some (.int .i64 k0') := (hc10 0 (by simp)).1
          have kk1 : w10.cell? ⟨w.heap.size, 1, none⟩ = some (.int .i64 f') := (hc10 1 (by simp)).1
          have kk2 : w10.cell? ⟨w.heap.size, 2, none⟩ = some (.int .i64 t') := (hc10 2 (by simp)).1
          have kk3 : w10.cell? ⟨w.heap.size, 3, none⟩ = some (.int .i64 e') := (hc10 3 (by simp)).1
          have kk4 : w10.cell? ⟨w.heap.size, 4, none⟩ = some (.int .i64 l') := (hc10 4 (by simp)).1
          have kk5 : w10.cell? ⟨w.heap.size, 5, none⟩ = some (.int .i64 d') := (hc10 5 (by simp)).1
          have kk6 : w10.cell? ⟨w.heap.size, 6, none⟩ = some (.string x') := (hc10 6 (by simp)).1
          have kk7 : w10.cell? ⟨w.heap.size, 7, none⟩ = some (.slice a' ss'.length c') := (hc10 7 (by simp)).1
          refine wpAnyH_done (by kernel_rfl) ?_ _
          go_wp2
          refine bodyPost_ret (v := .tuple #[.agg #[.int .i64 k0', .int .i64 f', .int .i64 t', .int .i64 e', .int .i64 l', .int .i64 d', .string x', .slice a' ss'.length c'], .string t8]) (by simp [results, Tryd.results17, go_sem, kk0, kk1, kk2, kk3, kk4, kk5, kk6, kk7]) rfl ⟨⟨_, t8, rfl, hz8, _, _, _, _, _, _, _, ss', _, _, rfl, hx, hl12, hs8, (fun h => by cases h), ?_⟩, ?_⟩
          · exact ((ho8.alloc (.cells #[.string ⟨#[107]⟩, .string ⟨#[]⟩, .string ⟨#[111, 116, 104, 101, 114]⟩, .string y7t] 9)).grown hg10 (.inr (by intro hh; have := HO5.out.row_lo _ hh; omega))).mono' (show w.heap.size ≤ g + 1 by omega)
          · exact hS8a.be.grown hg10 hS8a.be.size (fun q hq => by simp at hq; omega)
      · have h_t := trivial
        obtain ⟨w10, hw10⟩ : ∃ w10, w10 = w8.setCells w.heap.size 0 [.int .i64 k0', .int .i64 f', .int .i64 t', .int .i64 e', .int .i64 l', .int .i64 d', .string x', .slice a' ss'.length c'] := ⟨_, rfl⟩
        have hc10 : CF w10 w.heap.size [.int .i64 k0', .int .i64 f', .int .i64 t', .int .i64 e', .int .i64 l', .int .i64 d', .string x', .slice a' ss'.length c'] := by rw [hw10]; exact hS8.bx.stored rfl
        have hg10 : w8.grownBy w10 (some (w.heap.size)) := by rw [hw10]; exact grown_setCells _ _ _ _ _ (World.grownBy.refl _ _)
        have hm10 : CF w10 Q [.int .i64 k0', .int .i64 f', .int .i64 t', .int .i64 e', .int .i64 l', .int .i64 d', .string x', .slice a' ss'.length c'] := hS8.m.block (hg10.block _ hS8.h3 (by have := hS8.h1; have := hS8.h2; simp; omega))
        refine (hSkip (i := 10) (w' := w10) (l' := #[true, true, true, true, true, false, true, true, false, false, true, false]) rfl (by kernel_rfl) (by kernel_rfl) (by kernel_rfl) (by rw [hw10]; exact run_s8 zM [.int .i64 k0', .int .i64 f', .int .i64 t', .int .i64 e', .int .i64 l', .int .i64 d', .string x', .slice a' ss'.length c'] (.tmp 2) (.tmp 16) (by kernel_rfl) (by kernel_rfl) (by kernel_rfl) hS8.bx rfl rfl (one8 _ _ _ _ _ _ _ _ _ _)) hm10 ?_)
        have hP10 : w.heap.size < w10.heap.size := by have := hg10.size; omega
        have hm10a : CF (w10.alloc (.cells #[.string ⟨#[107]⟩, .string ⟨#[]⟩, .string ⟨#[111, 116, 104, 101, 114]⟩, .string y7t] 9)) Q [.int .i64 k0', .int .i64 f', .int .i64 t', .int .i64 e', .int .i64 l', .int .i64 d', .string x', .slice a' ss'.length c'] := hm10.block (Below.heap_alloc _ _ _ (by have := hg10.size; have := hS8.h3; omega))
        refine hOne (by kernel_rfl) (hVal (i := 5) (d := some 21) (v := .slice (some ⟨w10.heap.size, 0, none⟩) 4 4) (w' := (w10.alloc (.cells #[.string ⟨#[107]⟩, .string ⟨#[]⟩, .string ⟨#[111, 116, 104, 101, 114]⟩, .string y7t] 9))) (l' := #[true, true, true, true, true, true, true, true, false, false, true, false]) rfl (by kernel_rfl) (by kernel_rfl) (by kernel_rfl) (run_bs y7t (.tmp 20) (by kernel_rfl) (by kernel_rfl) (fun _ => rfl)) hm10a ?_)
        refine hTake (i := 8) (d := some 24) (v := .pointer (some ⟨w10.heap.size, r8, none⟩)) (l' := #[true, true, true, true, true, true, true, true, true, false, true, false]) rfl (by kernel_rfl) (by kernel_rfl) (by kernel_rfl) (by kernel_rfl) (fun _ _ _ h => h) (by kernel_rfl) (fun _ _ => run_ia (.tmp 21) (.tmp 23) (by kernel_rfl) (by kernel_rfl) (by kernel_rfl) hq8) hm10a (by kernel_rfl) ?_
        refine hOne (by kernel_rfl) (hVal (i := 9) (d := some 25) (v := .string t8) (w' := (w10.alloc (.cells #[.string ⟨#[107]⟩, .string ⟨#[]⟩, .string ⟨#[111, 116, 104, 101, 114]⟩, .string y7t] 9))) (l' := #[true, true, true, true, true, true, true, true, true, true, true, false]) rfl (by kernel_rfl) (by kernel_rfl) (by kernel_rfl) (run_l1 (.tmp 24) (by kernel_rfl) (by kernel_rfl) (hmk r8 t8 hq8 ht8 w10)) hm10a ?_)
        refine hTake (i := 11) (d := some 3) (v := .string t8) (l' := #[true, true, true, true, true, true, true, true, true, true, true, true]) rfl (by kernel_rfl) (by kernel_rfl) (by kernel_rfl) (by kernel_rfl) (fun _ _ _ h => h) (by kernel_rfl) (fun _ _ => run_as (.tmp 25) (by kernel_rfl) (by kernel_rfl)) hm10a (by kernel_rfl) ?_
        have kk0 : (w10.alloc (.cells #[.string ⟨#[107]⟩, .string ⟨#[]⟩, .string ⟨#[111, 116, 104, 101, 114]⟩, .string y7t] 9)).cell? ⟨w.heap.size, 0, none⟩ = some (.int .i64 k0') := keepA hP10 (hc10 0 (by simp)).1 _
        have kk1 : (w10.alloc (.cells #[.string ⟨#[107]⟩, .string ⟨#[]⟩, .string ⟨#[111, 116, 104, 101, 114]⟩, .string y7t] 9)).cell? ⟨w.heap.size, 1, none⟩ = some (.int .i64 f') := keepA hP10 (hc10 1 (by simp)).1 _
        have kk2 : (w10.alloc (.cells #[.string ⟨#[107]⟩, .string ⟨#[]⟩, .string ⟨#[111, 116, 104, 101, 114]⟩, .string y7t] 9)).cell? ⟨w.heap.size, 2, none⟩ = some (.int .i64 t') := keepA hP10 (hc10 2 (by simp)).1 _
        have kk3 : (w10.alloc (.cells #[.string ⟨#[107]⟩, .string ⟨#[]⟩, .string ⟨#[111, 116, 104, 101, 114]⟩, .string y7t] 9)).cell? ⟨w.heap.size, 3, none⟩ = some (.int .i64 e') := keepA hP10 (hc10 3 (by simp)).1 _
        have kk4 : (w10.alloc (.cells #[.string ⟨#[107]⟩, .string ⟨#[]⟩, .string ⟨#[111, 116, 104, 101, 114]⟩, .string y7t] 9)).cell? ⟨w.heap.size, 4, none⟩ = some (.int .i64 l') := keepA hP10 (hc10 4 (by simp)).1 _
        have kk5 : (w10.alloc (.cells #[.string ⟨#[107]⟩, .string ⟨#[]⟩, .string ⟨#[111, 116, 104, 101, 114]⟩, .string y7t] 9)).cell? ⟨w.heap.size, 5, none⟩ = some (.int .i64 d') := keepA hP10 (hc10 5 (by simp)).1 _
        have kk6 : (w10.alloc (.cells #[.string ⟨#[107]⟩, .string ⟨#[]⟩, .string ⟨#[111, 116, 104, 101, 114]⟩, .string y7t] 9)).cell? ⟨w.heap.size, 6, none⟩ = some (.string x') := keepA hP10 (hc10 6 (by simp)).1 _
        have kk7 : (w10.alloc (.cells #[.string ⟨#[107]⟩, .string ⟨#[]⟩, .string ⟨#[111, 116, 104, 101, 114]⟩, .string y7t] 9)).cell? ⟨w.heap.size, 7, none⟩ = some (.slice a' ss'.length c') := keepA hP10 (hc10 7 (by simp)).1 _
        refine wpAnyH_done (by kernel_rfl) ?_ _
        go_wp2
        refine bodyPost_ret (v := .tuple #[.agg #[.int .i64 k0', .int .i64 f', .int .i64 t', .int .i64 e', .int .i64 l', .int .i64 d', .string x', .slice a' ss'.length c'], .string t8]) (by simp [results, Tryd.results17, go_sem, kk0, kk1, kk2, kk3, kk4, kk5, kk6, kk7]) rfl ⟨⟨_, t8, rfl, hz8, _, _, _, _, _, _, _, ss', _, _, rfl, hx, hl12, hs8, (fun h => by cases h), ?_⟩, ?_⟩
        · exact ((ho8.grown hg10 (.inr (by intro hh; have := HO5.out.row_lo _ hh; omega))).alloc _).mono' (show w.heap.size ≤ g + 1 by omega)
        · exact (hS8.be.grown hg10 hS8.be.size (fun q hq => by simp at hq; omega)).alloc (Nat.le_of_lt hP10) _
  · have h30' : ¬ (r3 : Int) = 0 := by omega
    obtain ⟨W5, hW5⟩ : ∃ W5, W5 = w3 := ⟨_, rfl⟩
    rw [← hW5] at hS3 ho3
    have hS5 := hS3
    have ho5 := ho3
    have HW5 := hid hW5
    have HO5 := hid ho5
    clear hW5 hS3 ho3 ho5
    rw [← HW5.out]
    have hSd := hS5.drew
    have hPg5 := hS5.h1
    have hgQ := hS5.h2
    have hQ5 := hS5.h3
    go_upto_region 5 with fail
    refine wp_region_held (S := fun w' => CF w' Q [.int .i64 k0, .int .i64 f, .int .i64 t, .int .i64 e, .int .i64 l, .int .i64 d, .string x, .slice a ss.length c]) (by kernel_rfl) ?_
    change wpAnyH _ _ _ _ _ _ _ _ (World.drew _)
    refine hTake (i := 0) (d := some 16) (v := .agg #[.int .i64 k0, .int .i64 f, .int .i64 t, .int .i64 e, .int .i64 l, .int .i64 d, .string x, .slice a ss.length c]) (l' := #[true, false, false, false, false, false, false, false, false, false, false, false]) rfl (by kernel_rfl) (by kernel_rfl) (by kernel_rfl) (by kernel_rfl) (fun _ _ _ h => h) (by kernel_rfl) (fun _ hw => run_ld [.int .i64 k0, .int .i64 f, .int .i64 t, .int .i64 e, .int .i64 l, .int .i64 d, .string x, .slice a ss.length c] (.tmp 5) (by kernel_rfl) (by kernel_rfl) hw rfl) hSd.m (by kernel_rfl) ?_
    refine hTake (i := 1) (d := some 17) (v := .pointer (some ⟨g, 0, none⟩)) (l' := #[true, true, false, false, false, false, false, false, false, false, false, false]) rfl (by kernel_rfl) (by kernel_rfl) (by kernel_rfl) (by kernel_rfl) (fun _ _ _ h => h) (by kernel_rfl) (fun _ _ => run_mv (.tmp 4) (by kernel_rfl) (by kernel_rfl)) hSd.m (by kernel_rfl) ?_
    refine hTake (i := 6) (d := some 22) (v := .pointer (some ⟨g, 0, none⟩)) (l' := #[true, true, false, false, false, false, true, false, false, false, false, false]) rfl (by kernel_rfl) (by kernel_rfl) (by kernel_rfl) (by kernel_rfl) (fun _ _ _ h => h) (by kernel_rfl) (fun _ _ => run_mv (.tmp 4) (by kernel_rfl) (by kernel_rfl)) hSd.m (by kernel_rfl) ?_
    refine hOne (by kernel_rfl) (hCall (i := 2) (d := some 18) (f := 50) (args := #[.pointer (some ⟨g, 0, none⟩), .int .i64 2]) (l' := #[true, true, true, false, false, false, true, false, false, false, false, false]) rfl (by kernel_rfl) (by kernel_rfl) (by kernel_rfl) (run_cl _ _ _ rfl (by kernel_rfl) (by kernel_rfl) rfl enter_pick) (pick_R2 g (20 + 1) _ hSd.rd (by omega)) ?_)
    rintro _ w6 ⟨r6, rfl, hq6, hr6, hg6⟩
    have hS6 := hSd.call hg6 hr6
    refine ⟨hS6.m, ?_⟩
    refine hTake (i := 3) (d := some 19) (v := .int .i64 (30 + (r6 : Int))) (l' := #[true, true, true, true, false, false, true, false, false, false, false, false]) rfl (by kernel_rfl) (by kernel_rfl) (by kernel_rfl) (by kernel_rfl) (fun _ _ _ h => h) (by kernel_rfl) (fun _ _ => run_add (.const (.int .i64 30)) (.tmp 18) 30 (r6 : Int) (by kernel_rfl) (by kernel_rfl) (by kernel_rfl) (by omega) (by omega)) hS6.m (by kernel_rfl) ?_
    refine hOne (by kernel_rfl) (hCall (i := 4) (d := some 20) (f := 52) (args := #[.string ⟨#[107]⟩, .int .i64 (30 + (r6 : Int))]) (l' := #[true, true, true, true, true, false, true, false, false, false, false, false]) rfl (by kernel_rfl) (by kernel_rfl) (by kernel_rfl) (run_cl _ _ _ rfl (by kernel_rfl) (by kernel_rfl) rfl enter_many) (many_R r6 hq6 _) ?_)
    rintro _ w7 ⟨y7t, rfl, hy7, hw7⟩
    rw [hw7]
    clear hw7
    refine ⟨hS6.m, ?_⟩
    have hS6a := hS6.alloc (.cells #[.string ⟨#[107]⟩, .string ⟨#[]⟩, .string ⟨#[111, 116, 104, 101, 114]⟩, .string y7t] 9)
    have hg6s := hg6.size
    have hd6 : W5.drew.heap.size = W5.heap.size := rfl
    have hmk : ∀ (r8 : Nat) (t8 : ByteArray), r8 < 4 → [Value.string ⟨#[107]⟩, .string ⟨#[]⟩, .string ⟨#[111, 116, 104, 101, 114]⟩, .string y7t][r8]? = some (.string t8) → ∀ w' : World, (w'.alloc (.cells #[.string ⟨#[107]⟩, .string ⟨#[]⟩, .string ⟨#[111, 116, 104, 101, 114]⟩, .string y7t] 9)).cell? ⟨w'.heap.size, r8, none⟩ = some (.string t8) := fun r8 t8 hq ht w' => ((CF.made w' #[.string ⟨#[107]⟩, .string ⟨#[]⟩, .string ⟨#[111, 116, 104, 101, 114]⟩, .string y7t] 9) r8 (by simpa using hq)).1.trans ht
    refine hTwo (i := 5) (j := 7) (by kernel_rfl) ?_ ?_
    · refine (hVal (i := 5) (d := some 21) (v := .slice (some ⟨w6.heap.size, 0, none⟩) 4 4) (w' := (w6.alloc (.cells #[.string ⟨#[107]⟩, .string ⟨#[]⟩, .string ⟨#[111, 116, 104, 101, 114]⟩, .string y7t] 9))) (l' := #[true, true, true, true, true, true, true, false, false, false, false, false]) rfl (by kernel_rfl) (by kernel_rfl) (by kernel_rfl) (run_bs y7t (.tmp 20) (by kernel_rfl) (by kernel_rfl) (fun _ => rfl)) hS6a.m ?_)
      refine hOne (by kernel_rfl) (hCall (i := 7) (d := some 23) (f := 50) (args := #[.pointer (some ⟨g, 0, none⟩), .int .i64 4]) (l' := #[true, true, true, true, true, true, true, true, false, false, false, false]) rfl (by kernel_rfl) (by kernel_rfl) (by kernel_rfl) (run_cl _ _ _ rfl (by kernel_rfl) (by kernel_rfl) rfl enter_pick) (pick_R4 g (20 + 1 + 1) _ hS6a.rd (by omega)) ?_)
      rintro _ w8 ⟨r8, rfl, hq8, hr8, hg8⟩
      have hS8 := hS6a.call hg8 hr8
      refine ⟨hS8.m, ?_⟩
      obtain ⟨t8, ht8, hz8⟩ := key_of y7t r8 hq8 hy7
      have ct8 : w8.cell? ⟨w6.heap.size, r8, none⟩ = some (.string t8) := keepP hg8 (hmk r8 t8 hq8 ht8 w6) (by dsimp only; omega)
      have ho8 := ((HO5.out.drewW.grown hg6 (.inr (by intro hh; have := HO5.out.row_lo _ hh; omega))).alloc (.cells #[.string ⟨#[107]⟩, .string ⟨#[]⟩, .string ⟨#[111, 116, 104, 101, 114]⟩, .string y7t] 9)).grown hg8 (.inr (by intro hh; have := HO5.out.row_lo _ hh; omega))
      refine hTake (i := 8) (d := some 24) (v := .pointer (some ⟨w6.heap.size, r8, none⟩)) (l' := #[true, true, true, true, true, true, true, true, true, false, false, false]) rfl (by kernel_rfl) (by kernel_rfl) (by kernel_rfl) (by kernel_rfl) (fun _ _ _ h => h) (by kernel_rfl) (fun _ _ => run_ia (.tmp 21) (.tmp 23) (by kernel_rfl) (by kernel_rfl) (by kernel_rfl) hq8) hS8.m (by kernel_rfl) ?_
      refine hTwo (i := 9) (j := 10) (by kernel_rfl) ?_ ?_
      · refine (hVal (i := 9) (d := some 25) (v := .string t8) (w' := w8) (l' := #[true, true, true, true, true, true, true, true, true, true, false, false]) rfl (by kernel_rfl) (by kernel_rfl) (by kernel_rfl) (run_l1 (.tmp 24) (by kernel_rfl) (by kernel_rfl) ct8) hS8.m ?_)
        obtain ⟨w10, hw10⟩ : ∃ w10, w10 = w8.setCells w.heap.size 0 [.int .i64 k0, .int .i64 f, .int .i64 t, .int .i64 e, .int .i64 l, .int .i64 d, .string x, .slice a ss.length c] := ⟨_, rfl⟩
        have hc10 : CF w10 w.heap.size [.int .i64 k0, .int .i64 f, .int .i64 t, .int .i64 e, .int .i64 l, .int .i64 d, .string x, .slice a ss.length c] := by rw [hw10]; exact hS8.bx.stored rfl
        have hg10 : w8.grownBy w10 (some (w.heap.size)) := by rw [hw10]; exact grown_setCells _ _ _ _ _ (World.grownBy.refl _ _)
        have hm10 : CF w10 Q [.int .i64 k0, .int .i64 f, .int .i64 t, .int .i64 e, .int .i64 l, .int .i64 d, .string x, .slice a ss.length c] := hS8.m.block (hg10.block _ hS8.h3 (by have := hS8.h1; have := hS8.h2; simp; omega))
        refine hOne (by kernel_rfl) (hSkip (i := 10) (w' := w10) (l' := #[true, true, true, true, true, true, true, true, true, true, true, false]) rfl (by kernel_rfl) (by kernel_rfl) (by kernel_rfl) (by rw [hw10]; exact run_s8 zM [.int .i64 k0, .int .i64 f, .int .i64 t, .int .i64 e, .int .i64 l, .int .i64 d, .string x, .slice a ss.length c] (.tmp 2) (.tmp 16) (by kernel_rfl) (by kernel_rfl) (by kernel_rfl) hS8.bx rfl rfl (one8 _ _ _ _ _ _ _ _ _ _)) hm10 ?_)
        refine hTake (i := 11) (d := some 3) (v := .string t8) (l' := #[true, true, true, true, true, true, true, true, true, true, true, true]) rfl (by kernel_rfl) (by kernel_rfl) (by kernel_rfl) (by kernel_rfl) (fun _ _ _ h => h) (by kernel_rfl) (fun _ _ => run_as (.tmp 25) (by kernel_rfl) (by kernel_rfl)) hm10 (by kernel_rfl) ?_
        have kk0 : w10.cell? ⟨w.heap.size, 0, none⟩ = some (.int .i64 k0) := (hc10 0 (by simp)).1
        have kk1 : w10.cell? ⟨w.heap.size, 1, none⟩ = some (.int .i64 f) := (hc10 1 (by simp)).1
        have kk2 : w10.cell? ⟨w.heap.size, 2, none⟩ = some (.int .i64 t) := (hc10 2 (by simp)).1
        have kk3 : w10.cell? ⟨w.heap.size, 3, none⟩ = some (.int .i64 e) := (hc10 3 (by simp)).1
        have kk4 : w10.cell? ⟨w.heap.size, 4, none⟩ = some (.int .i64 l) := (hc10 4 (by simp)).1
        have kk5 : w10.cell? ⟨w.heap.size, 5, none⟩ = some (.int .i64 d) := (hc10 5 (by simp)).1
        have kk6 : w10.cell? ⟨w.heap.size, 6, none⟩ = some (.string x) := (hc10 6 (by simp)).1
        have kk7 : w10.cell? ⟨w.heap.size, 7, none⟩ = some (.slice a ss.length c) := (hc10 7 (by simp)).1
        refine wpAnyH_done (by kernel_rfl) ?_ _
        go_wp2
        refine bodyPost_ret (v := .tuple #[.agg #[.int .i64 k0, .int .i64 f, .int .i64 t, .int .i64 e, .int .i64 l, .int .i64 d, .string x, .slice a ss.length c], .string t8]) (by simp [results, Tryd.results17, go_sem, kk0, kk1, kk2, kk3, kk4, kk5, kk6, kk7]) rfl ⟨⟨_, t8, rfl, hz8, _, _, _, _, _, _, _, ss, _, _, rfl, hx, hl12, hs8, (fun h => by cases h), ?_⟩, ?_⟩
        · exact (ho8.grown hg10 (.inr (by intro hh; have := HO5.out.row_lo _ hh; omega))).mono' (show w.heap.size ≤ g + 1 by omega)
        · exact hS8.be.grown hg10 hS8.be.size (fun q hq => by simp at hq; omega)
      · have h_t := trivial
        obtain ⟨w10, hw10⟩ : ∃ w10, w10 = w8.setCells w.heap.size 0 [.int .i64 k0, .int .i64 f, .int .i64 t, .int .i64 e, .int .i64 l, .int .i64 d, .string x, .slice a ss.length c] := ⟨_, rfl⟩
        have hc10 : CF w10 w.heap.size [.int .i64 k0, .int .i64 f, .int .i64 t, .int .i64 e, .int .i64 l, .int .i64 d, .string x, .slice a ss.length c] := by rw [hw10]; exact hS8.bx.stored rfl
        have hg10 : w8.grownBy w10 (some (w.heap.size)) := by rw [hw10]; exact grown_setCells _ _ _ _ _ (World.grownBy.refl _ _)
        have hm10 : CF w10 Q [.int .i64 k0, .int .i64 f, .int .i64 t, .int .i64 e, .int .i64 l, .int .i64 d, .string x, .slice a ss.length c] := hS8.m.block (hg10.block _ hS8.h3 (by have := hS8.h1; have := hS8.h2; simp; omega))
        refine (hSkip (i := 10) (w' := w10) (l' := #[true, true, true, true, true, true, true, true, true, false, true, false]) rfl (by kernel_rfl) (by kernel_rfl) (by kernel_rfl) (by rw [hw10]; exact run_s8 zM [.int .i64 k0, .int .i64 f, .int .i64 t, .int .i64 e, .int .i64 l, .int .i64 d, .string x, .slice a ss.length c] (.tmp 2) (.tmp 16) (by kernel_rfl) (by kernel_rfl) (by kernel_rfl) hS8.bx rfl rfl (one8 _ _ _ _ _ _ _ _ _ _)) hm10 ?_)
        have ct10 := keepP hg10 ct8 (by dsimp only; omega)
        refine hOne (by kernel_rfl) (hVal (i := 9) (d := some 25) (v := .string t8) (w' := w10) (l' := #[true, true, true, true, true, true, true, true, true, true, true, false]) rfl (by kernel_rfl) (by kernel_rfl) (by kernel_rfl) (run_l1 (.tmp 24) (by kernel_rfl) (by kernel_rfl) ct10) hm10 ?_)
        refine hTake (i := 11) (d := some 3) (v := .string t8) (l' := #[true, true, true, true, true, true, true, true, true, true, true, true]) rfl (by kernel_rfl) (by kernel_rfl) (by kernel_rfl) (by kernel_rfl) (fun _ _ _ h => h) (by kernel_rfl) (fun _ _ => run_as (.tmp 25) (by kernel_rfl) (by kernel_rfl)) hm10 (by kernel_rfl) ?_
        have kk0 : w10.cell? ⟨w.heap.size, 0, none⟩ = some (.int .i64 k0) := (hc10 0 (by simp)).1
        have kk1 : w10.cell? ⟨w.heap.size, 1, none⟩ = some (.int .i64 f) := (hc10 1 (by simp)).1
        have kk2 : w10.cell? ⟨w.heap.size, 2, none⟩ = some (.int .i64 t) := (hc10 2 (by simp)).1
        have kk3 : w10.cell? ⟨w.heap.size, 3, none⟩ = some (.int .i64 e) := (hc10 3 (by simp)).1
        have kk4 : w10.cell? ⟨w.heap.size, 4, none⟩ = some (.int .i64 l) := (hc10 4 (by simp)).1
        have kk5 : w10.cell? ⟨w.heap.size, 5, none⟩ = some (.int .i64 d) := (hc10 5 (by simp)).1
        have kk6 : w10.cell? ⟨w.heap.size, 6, none⟩ = some (.string x) := (hc10 6 (by simp)).1
        have kk7 : w10.cell? ⟨w.heap.size, 7, none⟩ = some (.slice a ss.length c) := (hc10 7 (by simp)).1
        refine wpAnyH_done (by kernel_rfl) ?_ _
        go_wp2
        refine bodyPost_ret (v := .tuple #[.agg #[.int .i64 k0, .int .i64 f, .int .i64 t, .int .i64 e, .int .i64 l, .int .i64 d, .string x, .slice a ss.length c], .string t8]) (by simp [results, Tryd.results17, go_sem, kk0, kk1, kk2, kk3, kk4, kk5, kk6, kk7]) rfl ⟨⟨_, t8, rfl, hz8, _, _, _, _, _, _, _, ss, _, _, rfl, hx, hl12, hs8, (fun h => by cases h), ?_⟩, ?_⟩
        · exact (ho8.grown hg10 (.inr (by intro hh; have := HO5.out.row_lo _ hh; omega))).mono' (show w.heap.size ≤ g + 1 by omega)
        · exact hS8.be.grown hg10 hS8.be.size (fun q hq => by simp at hq; omega)
    · refine (hCall (i := 7) (d := some 23) (f := 50) (args := #[.pointer (some ⟨g, 0, none⟩), .int .i64 4]) (l' := #[true, true, true, true, true, false, true, true, false, false, false, false]) rfl (by kernel_rfl) (by kernel_rfl) (by kernel_rfl) (run_cl _ _ _ rfl (by kernel_rfl) (by kernel_rfl) rfl enter_pick) (pick_R4 g (20 + 1 + 1) _ hS6.rd (by omega)) ?_)
      rintro _ w8 ⟨r8, rfl, hq8, hr8, hg8⟩
      have hS8 := hS6.call hg8 hr8
      have hg8s := hg8.size
      refine ⟨hS8.m, ?_⟩
      obtain ⟨t8, ht8, hz8⟩ := key_of y7t r8 hq8 hy7
      have hS8a := hS8.alloc (.cells #[.string ⟨#[107]⟩, .string ⟨#[]⟩, .string ⟨#[111, 116, 104, 101, 114]⟩, .string y7t] 9)
      have ho8 := (HO5.out.drewW.grown hg6 (.inr (by intro hh; have := HO5.out.row_lo _ hh; omega))).grown hg8 (.inr (by intro hh; have := HO5.out.row_lo _ hh; omega))
      have ct8 := hmk r8 t8 hq8 ht8 w8
      refine hTwo (i := 5) (j := 10) (by kernel_rfl) ?_ ?_
      · refine (hVal (i := 5) (d := some 21) (v := .slice (some ⟨w8.heap.size, 0, none⟩) 4 4) (w' := (w8.alloc (.cells #[.string ⟨#[107]⟩, .string ⟨#[]⟩, .string ⟨#[111, 116, 104, 101, 114]⟩, .string y7t] 9))) (l' := #[true, true, true, true, true, true, true, true, false, false, false, false]) rfl (by kernel_rfl) (by kernel_rfl) (by kernel_rfl) (run_bs y7t (.tmp 20) (by kernel_rfl) (by kernel_rfl) (fun _ => rfl)) hS8a.m ?_)
        refine hTake (i := 8) (d := some 24) (v := .pointer (some ⟨w8.heap.size, r8, none⟩)) (l' := #[true, true, true, true, true, true, true, true, true, false, false, false]) rfl (by kernel_rfl) (by kernel_rfl) (by kernel_rfl) (by kernel_rfl) (fun _ _ _ h => h) (by kernel_rfl) (fun _ _ => run_ia (.tmp 21) (.tmp 23) (by kernel_rfl) (by kernel_rfl) (by kernel_rfl) hq8) hS8a.m (by kernel_rfl) ?_
        refine hTwo (i := 9) (j := 10) (by kernel_rfl) ?_ ?_
        · refine (hVal (i := 9) (d := some 25) (v := .string t8) (w' := (w8.alloc (.cells #[.string ⟨#[107]⟩, .string ⟨#[]⟩, .string ⟨#[111, 116, 104, 101, 114]⟩, .string y7t] 9))) (l' := #[true, true, true, true, true, true, true, true, true, true, false, false]) rfl (by kernel_rfl) (by kernel_rfl) (by kernel_rfl) (run_l1 (.tmp 24) (by kernel_rfl) (by kernel_rfl) ct8) hS8a.m ?_)
          obtain ⟨w10, hw10⟩ : ∃ w10, w10 = (w8.alloc (.cells #[.string ⟨#[107]⟩, .string ⟨#[]⟩, .string ⟨#[111, 116, 104, 101, 114]⟩, .string y7t] 9)).setCells w.heap.size 0 [.int .i64 k0, .int .i64 f, .int .i64 t, .int .i64 e, .int .i64 l, .int .i64 d, .string x, .slice a ss.length c] := ⟨_, rfl⟩
          have hc10 : CF w10 w.heap.size [.int .i64 k0, .int .i64 f, .int .i64 t, .int .i64 e, .int .i64 l, .int .i64 d, .string x, .slice a ss.length c] := by rw [hw10]; exact hS8a.bx.stored rfl
          have hg10 : (w8.alloc (.cells #[.string ⟨#[107]⟩, .string ⟨#[]⟩, .string ⟨#[111, 116, 104, 101, 114]⟩, .string y7t] 9)).grownBy w10 (some (w.heap.size)) := by rw [hw10]; exact grown_setCells _ _ _ _ _ (World.grownBy.refl _ _)
          have hm10 : CF w10 Q [.int .i64 k0, .int .i64 f, .int .i64 t, .int .i64 e, .int .i64 l, .int .i64 d, .string x, .slice a ss.length c] := hS8a.m.block (hg10.block _ hS8a.h3 (by have := hS8a.h1; have := hS8a.h2; simp; omega))
          refine hOne (by kernel_rfl) (hSkip (i := 10) (w' := w10) (l' := #[true, true, true, true, true, true, true, true, true, true, true, false]) rfl (by kernel_rfl) (by kernel_rfl) (by kernel_rfl) (by rw [hw10]; exact run_s8 zM [.int .i64 k0, .int .i64 f, .int .i64 t, .int .i64 e, .int .i64 l, .int .i64 d, .string x, .slice a ss.length c] (.tmp 2) (.tmp 16) (by kernel_rfl) (by kernel_rfl) (by kernel_rfl) hS8a.bx rfl rfl (one8 _ _ _ _ _ _ _ _ _ _)) hm10 ?_)
          refine hTake (i := 11) (d := some 3) (v := .string t8) (l' := #[true, true, true, true, true, true, true, true, true, true, true, true]) rfl (by kernel_rfl) (by kernel_rfl) (by kernel_rfl) (by kernel_rfl) (fun _ _ _ h => h) (by kernel_rfl) (fun _ _ => run_as (.tmp 25) (by kernel_rfl) (by kernel_rfl)) hm10 (by kernel_rfl) ?_
          have kk0 : w10.cell? ⟨w.heap.size, 0, none⟩ = some (.int .i64 k0) := (hc10 0 (by simp)).1
          have kk1 : w10.cell? ⟨w.heap.size, 1, none⟩ = some (.int .i64 f) := (hc10 1 (by simp)).1
          have kk2 : w10.cell? ⟨w.heap.size, 2, none⟩ = some (.int .i64 t) := (hc10 2 (by simp)).1
          have kk3 : w10.cell? ⟨w.heap.size, 3, none⟩ = some (.int .i64 e) := (hc10 3 (by simp)).1
          have kk4 : w10.cell? ⟨w.heap.size, 4, none⟩ = some (.int .i64 l) := (hc10 4 (by simp)).1
          have kk5 : w10.cell? ⟨w.heap.size, 5, none⟩ = some (.int .i64 d) := (hc10 5 (by simp)).1
          have kk6 : w10.cell? ⟨w.heap.size, 6, none⟩ = some (.string x) := (hc10 6 (by simp)).1
          have kk7 : w10.cell? ⟨w.heap.size, 7, none⟩ = some (.slice a ss.length c) := (hc10 7 (by simp)).1
          refine wpAnyH_done (by kernel_rfl) ?_ _
          go_wp2
          refine bodyPost_ret (v := .tuple #[.agg #[.int .i64 k0, .int .i64 f, .int .i64 t, .int .i64 e, .int .i64 l, .int .i64 d, .string x, .slice a ss.length c], .string t8]) (by simp [results, Tryd.results17, go_sem, kk0, kk1, kk2, kk3, kk4, kk5, kk6, kk7]) rfl ⟨⟨_, t8, rfl, hz8, _, _, _, _, _, _, _, ss, _, _, rfl, hx, hl12, hs8, (fun h => by cases h), ?_⟩, ?_⟩
          · exact ((ho8.alloc (.cells #[.string ⟨#[107]⟩, .string ⟨#[]⟩, .string ⟨#[111, 116, 104, 101, 114]⟩, .string y7t] 9)).grown hg10 (.inr (by intro hh; have := HO5.out.row_lo _ hh; omega))).mono' (show w.heap.size ≤ g + 1 by omega)
          · exact hS8a.be.grown hg10 hS8a.be.size (fun q hq => by simp at hq; omega)
        · have h_t := trivial
          obtain ⟨w10, hw10⟩ : ∃ w10, w10 = (w8.alloc (.cells #[.string ⟨#[107]⟩, .string ⟨#[]⟩, .string ⟨#[111, 116, 104, 101, 114]⟩, .string y7t] 9)).setCells w.heap.size 0 [.int .i64 k0, .int .i64 f, .int .i64 t, .int .i64 e, .int .i64 l, .int .i64 d, .string x, .slice a ss.length c] := ⟨_, rfl⟩
          have hc10 : CF w10 w.heap.size [.int .i64 k0, .int .i64 f, .int .i64 t, .int .i64 e, .int .i64 l, .int .i64 d, .string x, .slice a ss.length c] := by rw [hw10]; exact hS8a.bx.stored rfl
          have hg10 : (w8.alloc (.cells #[.string ⟨#[107]⟩, .string ⟨#[]⟩, .string ⟨#[111, 116, 104, 101, 114]⟩, .string y7t] 9)).grownBy w10 (some (w.heap.size)) := by rw [hw10]; exact grown_setCells _ _ _ _ _ (World.grownBy.refl _ _)
          have hm10 : CF w10 Q [.int .i64 k0, .int .i64 f, .int .i64 t, .int .i64 e, .int .i64 l, .int .i64 d, .string x, .slice a ss.length c] := hS8a.m.block (hg10.block _ hS8a.h3 (by have := hS8a.h1; have := hS8a.h2; simp; omega))
          refine (hSkip (i := 10) (w' := w10) (l' := #[true, true, true, true, true, true, true, true, true, false, true, false]) rfl (by kernel_rfl) (by kernel_rfl) (by kernel_rfl) (by rw [hw10]; exact run_s8 zM [.int .i64 k0, .int .i64 f, .int .i64 t, .int .i64 e, .int .i64 l, .int .i64 d, .string x, .slice a ss.length c] (.tmp 2) (.tmp 16) (by kernel_rfl) (by kernel_rfl) (by kernel_rfl) hS8a.bx rfl rfl (one8 _ _ _ _ _ _ _ _ _ _)) hm10 ?_)
          have ct10 := keepP hg10 ct8 (by dsimp only; omega)
          refine hOne (by kernel_rfl) (hVal (i := 9) (d := some 25) (v := .string t8) (w' := w10) (l' := #[true, true, true, true, true, true, true, true, true, true, true, false]) rfl (by kernel_rfl) (by kernel_rfl) (by kernel_rfl) (run_l1 (.tmp 24) (by kernel_rfl) (by kernel_rfl) ct10) hm10 ?_)
          refine hTake (i := 11) (d := some 3) (v := .string t8) (l' := #[true, true, true, true, true, true, true, true, true, true, true, true]) rfl (by kernel_rfl) (by kernel_rfl) (by kernel_rfl) (by kernel_rfl) (fun _ _ _ h => h) (by kernel_rfl) (fun _ _ => run_as (.tmp 25) (by kernel_rfl) (by kernel_rfl)) hm10 (by kernel_rfl) ?_
          have kk0 : w10.cell? ⟨w.heap.size, 0, none⟩ = some (.int .i64 k0) := (hc10 0 (by simp)).1
          have kk1 : w10.cell? ⟨w.heap.size, 1, none⟩ = some (.int .i64 f) := (hc10 1 (by simp)).1
          have kk2 : w10.cell? ⟨w.heap.size, 2, none⟩ = some (.int .i64 t) := (hc10 2 (by simp)).1
          have kk3 : w10.cell? ⟨w.heap.size, 3, none⟩ = some (.int .i64 e) := (hc10 3 (by simp)).1
          have kk4 : w10.cell? ⟨w.heap.size, 4, none⟩ = some (.int .i64 l) := (hc10 4 (by simp)).1
          have kk5 : w10.cell? ⟨w.heap.size, 5, none⟩ = some (.int .i64 d) := (hc10 5 (by simp)).1
          have kk6 : w10.cell? ⟨w.heap.size, 6, none⟩ = some (.string x) := (hc10 6 (by simp)).1
          have kk7 : w10.cell? ⟨w.heap.size, 7, none⟩ = some (.slice a ss.length c) := (hc10 7 (by simp)).1
          refine wpAnyH_done (by kernel_rfl) ?_ _
          go_wp2
          refine bodyPost_ret (v := .tuple #[.agg #[.int .i64 k0, .int .i64 f, .int .i64 t, .int .i64 e, .int .i64 l, .int .i64 d, .string x, .slice a ss.length c], .string t8]) (by simp [results, Tryd.results17, go_sem, kk0, kk1, kk2, kk3, kk4, kk5, kk6, kk7]) rfl ⟨⟨_, t8, rfl, hz8, _, _, _, _, _, _, _, ss, _, _, rfl, hx, hl12, hs8, (fun h => by cases h), ?_⟩, ?_⟩
          · exact ((ho8.alloc (.cells #[.string ⟨#[107]⟩, .string ⟨#[]⟩, .string ⟨#[111, 116, 104, 101, 114]⟩, .string y7t] 9)).grown hg10 (.inr (by intro hh; have := HO5.out.row_lo _ hh; omega))).mono' (show w.heap.size ≤ g + 1 by omega)
          · exact hS8a.be.grown hg10 hS8a.be.size (fun q hq => by simp at hq; omega)
      · have h_t := trivial
        obtain ⟨w10, hw10⟩ : ∃ w10, w10 = w8.setCells w.heap.size 0 [.int .i64 k0, .int .i64 f, .int .i64 t, .int .i64 e, .int .i64 l, .int .i64 d, .string x, .slice a ss.length c] := ⟨_, rfl⟩
        have hc10 : CF w10 w.heap.size [.int .i64 k0, .int .i64 f, .int .i64 t, .int .i64 e, .int .i64 l, .int .i64 d, .string x, .slice a ss.length c] := by rw [hw10]; exact hS8.bx.stored rfl
        have hg10 : w8.grownBy w10 (some (w.heap.size)) := by rw [hw10]; exact grown_setCells _ _ _ _ _ (World.grownBy.refl _ _)
        have hm10 : CF w10 Q [.int .i64 k0, .int .i64 f, .int .i64 t, .int .i64 e, .int .i64 l, .int .i64 d, .string x, .slice a ss.length c] := hS8.m.block (hg10.block _ hS8.h3 (by have := hS8.h1; have := hS8.h2; simp; omega))
        refine (hSkip (i := 10) (w' := w10) (l' := #[true, true, true, true, true, false, true, true, false, false, true, false]) rfl (by kernel_rfl) (by kernel_rfl) (by kernel_rfl) (by rw [hw10]; exact run_s8 zM [.int .i64 k0, .int .i64 f, .int .i64 t, .int .i64 e, .int .i64 l, .int .i64 d, .string x, .slice a ss.length c] (.tmp 2) (.tmp 16) (by kernel_rfl) (by kernel_rfl) (by kernel_rfl) hS8.bx rfl rfl (one8 _ _ _ _ _ _ _ _ _ _)) hm10 ?_)
        have hP10 : w.heap.size < w10.heap.size := by have := hg10.size; omega
        have hm10a : CF (w10.alloc (.cells #[.string ⟨#[107]⟩, .string ⟨#[]⟩, .string ⟨#[111, 116, 104, 101, 114]⟩, .string y7t] 9)) Q [.int .i64 k0, .int .i64 f, .int .i64 t, .int .i64 e, .int .i64 l, .int .i64 d, .string x, .slice a ss.length c] := hm10.block (Below.heap_alloc _ _ _ (by have := hg10.size; have := hS8.h3; omega))
        refine hOne (by kernel_rfl) (hVal (i := 5) (d := some 21) (v := .slice (some ⟨w10.heap.size, 0, none⟩) 4 4) (w' := (w10.alloc (.cells #[.string ⟨#[107]⟩, .string ⟨#[]⟩, .string ⟨#[111, 116, 104, 101, 114]⟩, .string y7t] 9))) (l' := #[true, true, true, true, true, true, true, true, false, false, true, false]) rfl (by kernel_rfl) (by kernel_rfl) (by kernel_rfl) (run_bs y7t (.tmp 20) (by kernel_rfl) (by kernel_rfl) (fun _ => rfl)) hm10a ?_)
        refine hTake (i := 8) (d := some 24) (v := .pointer (some ⟨w10.heap.size, r8, none⟩)) (l' := #[true, true, true, true, true, true, true, true, true, false, true, false]) rfl (by kernel_rfl) (by kernel_rfl) (by kernel_rfl) (by kernel_rfl) (fun _ _ _ h => h) (by kernel_rfl) (fun _ _ => run_ia (.tmp 21) (.tmp 23) (by kernel_rfl) (by kernel_rfl) (by kernel_rfl) hq8) hm10a (by kernel_rfl) ?_
        refine hOne (by kernel_rfl) (hVal (i := 9) (d := some 25) (v := .string t8) (w' := (w10.alloc (.cells #[.string ⟨#[107]⟩, .string ⟨#[]⟩, .string ⟨#[111, 116, 104, 101, 114]⟩, .string y7t] 9))) (l' := #[true, true, true, true, true, true, true, true, true, true, true, false]) rfl (by kernel_rfl) (by kernel_rfl) (by kernel_rfl) (run_l1 (.tmp 24) (by kernel_rfl) (by kernel_rfl) (hmk r8 t8 hq8 ht8 w10)) hm10a ?_)
        refine hTake (i := 11) (d := some 3) (v := .string t8) (l' := #[true, true, true, true, true, true, true, true, true, true, true, true]) rfl (by kernel_rfl) (by kernel_rfl) (by kernel_rfl) (by kernel_rfl) (fun _ _ _ h => h) (by kernel_rfl) (fun _ _ => run_as (.tmp 25) (by kernel_rfl) (by kernel_rfl)) hm10a (by kernel_rfl) ?_
        have kk0 : (w10.alloc (.cells #[.string ⟨#[107]⟩, .string ⟨#[]⟩, .string ⟨#[111, 116, 104, 101, 114]⟩, .string y7t] 9)).cell? ⟨w.heap.size, 0, none⟩ = some (.int .i64 k0) := keepA hP10 (hc10 0 (by simp)).1 _
        have kk1 : (w10.alloc (.cells #[.string ⟨#[107]⟩, .string ⟨#[]⟩, .string ⟨#[111, 116, 104, 101, 114]⟩, .string y7t] 9)).cell? ⟨w.heap.size, 1, none⟩ = some (.int .i64 f) := keepA hP10 (hc10 1 (by simp)).1 _
        have kk2 : (w10.alloc (.cells #[.string ⟨#[107]⟩, .string ⟨#[]⟩, .string ⟨#[111, 116, 104, 101, 114]⟩, .string y7t] 9)).cell? ⟨w.heap.size, 2, none⟩ = some (.int .i64 t) := keepA hP10 (hc10 2 (by simp)).1 _
        have kk3 : (w10.alloc (.cells #[.string ⟨#[107]⟩, .string ⟨#[]⟩, .string ⟨#[111, 116, 104, 101, 114]⟩, .string y7t] 9)).cell? ⟨w.heap.size, 3, none⟩ = some (.int .i64 e) := keepA hP10 (hc10 3 (by simp)).1 _
        have kk4 : (w10.alloc (.cells #[.string ⟨#[107]⟩, .string ⟨#[]⟩, .string ⟨#[111, 116, 104, 101, 114]⟩, .string y7t] 9)).cell? ⟨w.heap.size, 4, none⟩ = some (.int .i64 l) := keepA hP10 (hc10 4 (by simp)).1 _
        have kk5 : (w10.alloc (.cells #[.string ⟨#[107]⟩, .string ⟨#[]⟩, .string ⟨#[111, 116, 104, 101, 114]⟩, .string y7t] 9)).cell? ⟨w.heap.size, 5, none⟩ = some (.int .i64 d) := keepA hP10 (hc10 5 (by simp)).1 _
        have kk6 : (w10.alloc (.cells #[.string ⟨#[107]⟩, .string ⟨#[]⟩, .string ⟨#[111, 116, 104, 101, 114]⟩, .string y7t] 9)).cell? ⟨w.heap.size, 6, none⟩ = some (.string x) := keepA hP10 (hc10 6 (by simp)).1 _
        have kk7 : (w10.alloc (.cells #[.string ⟨#[107]⟩, .string ⟨#[]⟩, .string ⟨#[111, 116, 104, 101, 114]⟩, .string y7t] 9)).cell? ⟨w.heap.size, 7, none⟩ = some (.slice a ss.length c) := keepA hP10 (hc10 7 (by simp)).1 _
        refine wpAnyH_done (by kernel_rfl) ?_ _
        go_wp2
        refine bodyPost_ret (v := .tuple #[.agg #[.int .i64 k0, .int .i64 f, .int .i64 t, .int .i64 e, .int .i64 l, .int .i64 d, .string x, .slice a ss.length c], .string t8]) (by simp [results, Tryd.results17, go_sem, kk0, kk1, kk2, kk3, kk4, kk5, kk6, kk7]) rfl ⟨⟨_, t8, rfl, hz8, _, _, _, _, _, _, _, ss, _, _, rfl, hx, hl12, hs8, (fun h => by cases h), ?_⟩, ?_⟩
        · exact ((ho8.grown hg10 (.inr (by intro hh; have := HO5.out.row_lo _ hh; omega))).alloc _).mono' (show w.heap.size ≤ g + 1 by omega)
        · exact (hS8.be.grown hg10 hS8.be.size (fun q hq => by simp at hq; omega)).alloc (Nat.le_of_lt hP10) _
end Go.Proofs.YtlgmkmegkojgbaaDoor
