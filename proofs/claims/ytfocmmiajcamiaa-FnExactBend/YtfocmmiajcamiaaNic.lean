
/-
  impl.bender, change, impl.Bend.
-/
import Derived.Test.YtfocmmiajcamiaaNib
namespace Go.Proofs.Ytfocmmiajcamiaa
open Go.RowKit

theorem pcs_set3 (P : List Pc) (j : Nat) (x0 : Int) (x1 x2 : ByteArray) (hj : j < P.length) : (((pcs P).set (j * 3) (.int .i64 x0)).set (j * 3 + 1) (.string x1)).set (j * 3 + 2) (.string x2) = pcs (P.set j (x0, x1, x2)) := by
  refine pcs_of (by simp [pcs_length]) (fun i hi => ?_)
  rw [List.length_set] at hi
  rw [pc_set _ _ _ _ hi]
  have g0 := pcs_get P i 0 hi (by omega)
  have g1 := pcs_get P i 1 hi (by omega)
  have g2 := pcs_get P i 2 hi (by omega)
  by_cases e : i = j
  · subst e
    rw [if_pos rfl]
    refine ⟨?_, ?_, ?_⟩
    · rw [List.getElem?_set_ne (by omega), List.getElem?_set_ne (by omega), List.getElem?_set_self (by rw [pcs_length]; omega)]
    · rw [List.getElem?_set_ne (by omega), List.getElem?_set_self (by rw [List.length_set, pcs_length]; omega)]
    · rw [List.getElem?_set_self (by rw [List.length_set, List.length_set, pcs_length]; omega)]
  · rw [if_neg e]
    refine ⟨?_, ?_, ?_⟩
    · rw [List.getElem?_set_ne (by omega), List.getElem?_set_ne (by omega), List.getElem?_set_ne (by omega)]; exact g0
    · rw [List.getElem?_set_ne (by omega), List.getElem?_set_ne (by omega), List.getElem?_set_ne (by omega)]; exact g1
    · rw [List.getElem?_set_ne (by omega), List.getElem?_set_ne (by omega), List.getElem?_set_ne (by omega)]; exact g2
theorem OwnC.put3 {B : Nat} {w : World} {g o cap n j : Nat} {P : List Pc} (h : OwnC B w 3 g o cap n (pcs P)) (hl : P.length = n) (hj : j < n) (x0 : Int) (x1 x2 : ByteArray) : OwnC B (w.setCells g (o + j * 3) [.int .i64 x0, .string x1, .string x2]) 3 g o cap n (pcs (P.set j (x0, x1, x2))) := by
  have := ((h.setCell (j := j * 3) (by omega) (.int .i64 x0)).setCell (j := j * 3 + 1) (by omega) (.string x1)).setCell (j := j * 3 + 2) (by omega) (.string x2)
  rw [pcs_set3 P j x0 x1 x2 (by omega)] at this
  exact this
theorem run_clv {ρ : Operand → Value} {o : Oper} {w : World} {f : FuncId} {v c1 c2 : Value} (x y : Operand) (ts : Array TypeId) (h : o.op = .call { callee := .value x, args := #[y], argTypes := ts }) (hx : ρ x = .func (.func f) #[] #[c1, c2]) (hy : ρ y = v) (he : ∀ (v c1 c2 : Value) (w : World), Sem.run Try.prog (callFunc f #[v, c1, c2]) w = .ok (.enter f #[v, c1, c2]) w) : (execOp ρ o).run Try.prog w = .ok (.enter f #[v, c1, c2]) w := by
  unfold execOp
  rw [h]
  simp [go_sem, hx, hy, he]
theorem enter_bend (v c1 c2 : Value) (w : World) : Sem.run Try.prog (callFunc 32 #[v, c1, c2]) w = .ok (.enter 32 #[v, c1, c2]) w := by kernel_rfl
theorem run_iaL {ρ : Operand → Value} {o : Oper} {w : World} (x y : Operand) (g og n c i : Nat) (h : o.op = .indexAddr 39 x y) (hx : ρ x = .slice (some ⟨g, og, none⟩) n c) (hy : ρ y = .int .i64 i) (hi : i < n) : (execOp ρ o).run Try.prog w = .ok (.value (.pointer (some ⟨g, og + i * 3, none⟩))) w := by
  have hi' : (i : Int) < (n : Int) := by omega
  unfold execOp
  rw [h]
  simp [go_sem, hx, hy, hi']
theorem run_ldM {ρ : Operand → Value} {o : Oper} {w : World} {b k : Nat} (T : TypeId) (D : TypeDesc) (cs : List Value) (x : Operand) (h : o.op = .load T x) (hx : ρ x = .pointer (some ⟨b, k, none⟩)) (hc : ∀ j v, cs[j]? = some v → w.cell? ⟨b, k + j, none⟩ = some v) (hu : Try.prog.underlying T = some D) (hd : D.isRow = true) (hi : (Try.prog.info? T).map (·.size) = some cs.length) : (execOp ρ o).run Try.prog w = .ok (.value (.agg cs.toArray)) w := by
  have hr : w.rangeAt b k cs := hc
  unfold execOp
  simp only [h, hx, Instr.loadAt, Instr.sureAddr, Sem.run_bind, Sem.run_pure, Result.andThen_ok, run_loadVar_mid w b k T cs D hr hu hd hi]
theorem run_stM {ρ : Operand → Value} {o : Oper} {w : World} {p k : Nat} (T : TypeId) (vs : List Value) (x y : Operand) (h : o.op = .store T x y) (hx : ρ x = .pointer (some ⟨p, k, none⟩)) (hy : ρ y = .agg vs.toArray) (hc : ∀ j, j < vs.length → (w.cell? ⟨p, k + j, none⟩).isSome = true ∧ w.frozen? ⟨p, k + j, none⟩ = false) (hi : (Try.prog.info? T).map (·.size) = some vs.length) (h1 : ∀ v ∈ vs, v.oneCell' = true) :
    (execOp ρ o).run Try.prog w = .ok .skip (w.setCells p k vs) := by
  have ht : w.there p k vs.toArray.size := fun i hi => hc i (by simpa using hi)
  have hi' : (Try.prog.info? T).map (·.size) = some vs.toArray.size := by rw [hi]; simp
  unfold execOp
  rw [h]
  simp only [hx, hy, Instr.storeAt, Instr.sureAddr, Sem.run_bind, Sem.run_pure, Result.andThen_ok, run_storeVar_mid w p k T vs.toArray ht hi' (all_oneCell_toArray h1)]

set_option maxHeartbeats 400000 in
set_option maxRecDepth 100000 in
theorem bender_any (place mask : Int) (w : World) :
    Calls Try.prog 29 #[.int .i64 place, .int .i64 mask] w fun e w' => e = .returned (.func (.func 32) #[] #[.pointer (some ⟨w.heap.size, 0, none⟩), .pointer (some ⟨w.heap.size + 1, 0, none⟩)]) ∧ w'.cell? ⟨w.heap.size, 0, none⟩ = some (.int .i64 place) ∧ w'.cell? ⟨w.heap.size + 1, 0, none⟩ = some (.int .i64 mask) ∧ w.heap.size + 2 ≤ w'.heap.size ∧ Below w.heap.size w w' := by
  have hmf : ∀ (fn : Fn) (first cap : Array Value) (w : World), (Instr.makeFunc fn first cap).run Try.prog w = .ok (.func fn first cap) w := fun _ _ _ _ => rfl
  obtain ⟨W, hW⟩ : ∃ W, W = (w.alloc (.cells #[.int .i64 place] 3)).alloc (.cells #[.int .i64 mask] 3) := ⟨_, rfl⟩
  have HQ : Hid (W.cell? ⟨w.heap.size, 0, none⟩ = some (.int .i64 place) ∧ W.cell? ⟨w.heap.size + 1, 0, none⟩ = some (.int .i64 mask) ∧ w.heap.size + 2 ≤ W.heap.size ∧ Below w.heap.size w W) := by
    have h1 : CF (w.alloc (.cells #[.int .i64 place] 3)) w.heap.size [.int .i64 place] := CF.made w _ _
    have h2 := CF.made (w.alloc (.cells #[.int .i64 place] 3)) #[.int .i64 mask] 3
    rw [← hW] at h2
    rw [World.size_alloc] at h2
    have h3 : CF W w.heap.size [.int .i64 place] := by rw [hW]; exact h1.block (Below.heap_alloc _ _ _ (by simp))
    exact ⟨(h3 0 (by simp)).1, (h2 0 (by simp)).1, by rw [hW]; simp, by rw [hW]; exact ((Below.refl _ _).alloc (Nat.le_refl _) _).alloc (by simp) _⟩
  go_enter Try.func29, Try.ntmps29
  go_upto_region 1 with fail
  rw [← hW]
  clear hW
  go_wp2
  go_ret
  exact ⟨rfl, HQ.out⟩

/-- What 'change' leaves. -/
def Chg (B : Nat) (w w' : World) (p f : Nat) (v : Value) (P : List Pc) : Prop := LsAt B w' p f v P ∧ Only w w' p f v.ownBlock

set_option maxHeartbeats 2000000 in
set_option maxRecDepth 100000 in
theorem changeBend_any (B : Nat) (p f : Nat) (a : Option Addr) (n c : Nat) (P : List Pc) (k place mask : Int) (p1 p2 : Nat) (w : World) (h : LsAt B w p f (.slice a n c) P) (hn : n = P.length) (hm : n ≤ 1048577) (hk : PcOk P) (h1 : w.cell? ⟨p1, 0, none⟩ = some (.int .i64 place)) (h2 : w.cell? ⟨p2, 0, none⟩ = some (.int .i64 mask)) :
    Calls Try.prog 28 #[.pointer (some ⟨p, f, none⟩), .int .i64 k, .func (.func 32) #[] #[.pointer (some ⟨p1, 0, none⟩), .pointer (some ⟨p2, 0, none⟩)]] w fun e w' => e = .returned (.tuple #[]) ∧ Chg B w w' p f (.slice a n c) (bndP P k place mask) := by
  have hc := h.c
  cases hE : thereB n k with
  | true =>
    obtain ⟨h3, h4, h5⟩ := thereB_t hE
    obtain ⟨j, rfl⟩ : ∃ j : Nat, k = j := ⟨k.toNat, by omega⟩
    have hown := h.own
    rw [← hn] at hown
    have hj : j < n := by omega
    rcases hown with ⟨_, h0, _⟩ | ⟨g, o, cap, hv, hoc⟩
    · omega
    injection hv with hv1 _ hv3
    subst hv1; subst hv3
    have hat := PcAt.ofOwn hoc hk
    have hc0 := hat.c0 j hj
    have hc1 := hat.c1 j hj
    have hc2 := hat.c2 j hj
    have hgs := (hat.rng j hj).2.2
    obtain ⟨⟨x0, x1, x2⟩, hx⟩ : ∃ x, x = pc P j := ⟨_, rfl⟩
    rw [← hx] at hc0 hc1 hc2 hgs
    dsimp only at hc0 hc1 hc2 hgs
    have hne : p ≠ g := fun e => h.ne (by rw [e]; rfl)
    have hph := h.hi
    obtain ⟨s', hs'⟩ : ∃ s', s' = bendS x2 place mask := ⟨_, rfl⟩
    have hitem : ∀ i v, [Value.int .i64 x0, .string x1, .string x2][i]? = some v → w.drew.cell? ⟨g, o + j * 3 + i, none⟩ = some v := fun i v hv => by
      have hi : i < 3 := (List.getElem?_eq_some_iff.1 hv).1
      rcases (show i = 0 ∨ i = 1 ∨ i = 2 by omega) with rfl | rfl | rfl
      · simp at hv; subst hv; exact hc0
      · simp at hv; subst hv; exact hc1
      · simp at hv; subst hv; exact hc2
    have HB : ∀ w', Below w.heap.size w.drew w' → (∀ i, i < 3 → (w'.cell? ⟨g, o + j * 3 + i, none⟩).isSome = true ∧ w'.frozen? ⟨g, o + j * 3 + i, none⟩ = false) ∧ w'.cell? ⟨p, f, none⟩ = some (.slice (some ⟨g, o, none⟩) n c) ∧ (w'.setCells g (o + j * 3) [.int .i64 x0, .string x1, .string s']).cell? ⟨p, f, none⟩ = some (.slice (some ⟨g, o, none⟩) n c) ∧ Chg B w (w'.setCells g (o + j * 3) [.int .i64 x0, .string x1, .string s']) p f (.slice (some ⟨g, o, none⟩) n c) (bndP P j place mask) := fun w' hb => by
      have hbl : ∀ i, i < w.heap.size → w'.heap[i]? = w.heap[i]? := fun i hi => hb.block i hi
      have ho' : OwnC B w' 3 g o c n (pcs P) := hoc.block (hbl g hoc.hi)
      have hg' : w.grownBy (w'.setCells g (o + j * 3) [.int .i64 x0, .string x1, .string s']) (some g) := grown_setCells g _ _ _ _ ⟨hb.os, hb.tape, hb.output, hb.size, fun i hi _ => hbl i hi⟩
      have hpc : w'.cell? ⟨p, f, none⟩ = some (.slice (some ⟨g, o, none⟩) n c) := (World.cell?_of_block (w := w) (hbl p hph)).trans hc
      have hpc' := keepP hg' hc hne
      refine ⟨fun i hi => by rw [Nat.add_assoc]; exact ho'.there (j * 3 + i) (by have := hoc.le; omega), hpc, hpc', ⟨hpc', ?_, ?_, h.lo, ?_, h.ne⟩, Only.ofGrown hg' hph h.ne⟩
      · exact (World.frozen?_of_block (w := w) (hg'.block p hph (by simpa using hne))).trans h.nf
      · have e : bndP P j place mask = P.set j (x0, x1, s') := by
          unfold bndP
          rw [← hn, hE, if_pos rfl, Int.toNat_natCast, ← hx, hs']
        rw [bndP_length, ← hn, e]
        exact .inr ⟨g, o, c, rfl, ho'.put3 hn.symm hj x0 x1 s'⟩
      · have := hg'.size; omega
    have HB' := hid HB
    have HF : Hid (Calls Try.prog 32 #[.agg #[.int .i64 x0, .string x1, .string x2], .pointer (some ⟨p1, 0, none⟩), .pointer (some ⟨p2, 0, none⟩)] w.drew fun e w' => ∃ v, e = .returned v ∧ v = .agg #[.int .i64 x0, .string x1, .string s'] ∧ Below w.heap.size w.drew w') := by
      refine (bendFn_any x0 x1 x2 p1 p2 place mask w.drew h1 h2 hgs).mono ?_
      rintro e w' ⟨rfl, hb⟩
      exact ⟨_, rfl, by rw [hs'], hb⟩
    have HE := hid hE
    have HH := hid (has_any p f (some ⟨g, o, none⟩) n c j w hc hm)
    have hS0 : w.drew.cell? ⟨p, f, none⟩ = some (.slice (some ⟨g, o, none⟩) n c) := hc
    clear hx hn HB h hoc hat hE hk hm hs' h1 h2 hgs
    go_enter Try.func28, Try.ntmps28
    go_wp2_with fail
    refine HH.out.mono ?_
    rintro e w1 ⟨rfl, hw1⟩
    rw [hw1, HE.out]
    clear hw1
    go_upto_region 1 with fail
    refine wp_region_held (S := fun w' => w'.cell? ⟨p, f, none⟩ = some (.slice (some ⟨g, o, none⟩) n c)) (by kernel_rfl) ?_
    change wpAnyH _ _ _ _ _ _ _ _ (World.drew _)
    refine hTake (i := 0) (d := some 9) (v := .pointer (some ⟨p, f, none⟩)) (l' := #[true, false, false, false, false, false, false, false, false, false, false, false, false, false]) rfl (by kernel_rfl) (by kernel_rfl) (by kernel_rfl) (by kernel_rfl) (fun _ _ _ h => h) (by kernel_rfl) (fun _ hc => by kernel_rfl) hS0 (by kernel_rfl) ?_
    refine hTake (i := 1) (d := some 10) (v := .pointer (some ⟨p, f, none⟩)) (l' := #[true, true, false, false, false, false, false, false, false, false, false, false, false, false]) rfl (by kernel_rfl) (by kernel_rfl) (by kernel_rfl) (by kernel_rfl) (fun _ _ _ h => h) (by kernel_rfl) (fun _ hc => run_ncL (.tmp 9) (by kernel_rfl) (by kernel_rfl)) hS0 (by kernel_rfl) ?_
    refine hTake (i := 2) (d := some 11) (v := .slice (some ⟨g, o, none⟩) n c) (l' := #[true, true, true, false, false, false, false, false, false, false, false, false, false, false]) rfl (by kernel_rfl) (by kernel_rfl) (by kernel_rfl) (by kernel_rfl) (fun _ _ _ h => h) (by kernel_rfl) (fun _ hc => run_ldL (.tmp 10) (by kernel_rfl) (by kernel_rfl) hc) hS0 (by kernel_rfl) ?_
    refine hTake (i := 3) (d := some 12) (v := .int .i64 j) (l' := #[true, true, true, true, false, false, false, false, false, false, false, false, false, false]) rfl (by kernel_rfl) (by kernel_rfl) (by kernel_rfl) (by kernel_rfl) (fun _ _ _ h => h) (by kernel_rfl) (fun _ hc => by kernel_rfl) hS0 (by kernel_rfl) ?_
    refine hTake (i := 4) (d := some 13) (v := .func (.func 32) #[] #[.pointer (some ⟨p1, 0, none⟩), .pointer (some ⟨p2, 0, none⟩)]) (l' := #[true, true, true, true, true, false, false, false, false, false, false, false, false, false]) rfl (by kernel_rfl) (by kernel_rfl) (by kernel_rfl) (by kernel_rfl) (fun _ _ _ h => h) (by kernel_rfl) (fun _ hc => by kernel_rfl) hS0 (by kernel_rfl) ?_
    refine hTake (i := 5) (d := some 14) (v := .pointer (some ⟨p, f, none⟩)) (l' := #[true, true, true, true, true, true, false, false, false, false, false, false, false, false]) rfl (by kernel_rfl) (by kernel_rfl) (by kernel_rfl) (by kernel_rfl) (fun _ _ _ h => h) (by kernel_rfl) (fun _ hc => by kernel_rfl) hS0 (by kernel_rfl) ?_
    refine hTake (i := 6) (d := some 15) (v := .pointer (some ⟨p, f, none⟩)) (l' := #[true, true, true, true, true, true, true, false, false, false, false, false, false, false]) rfl (by kernel_rfl) (by kernel_rfl) (by kernel_rfl) (by kernel_rfl) (fun _ _ _ h => h) (by kernel_rfl) (fun _ hc => run_ncL (.tmp 14) (by kernel_rfl) (by kernel_rfl)) hS0 (by kernel_rfl) ?_
    refine hTake (i := 7) (d := some 16) (v := .slice (some ⟨g, o, none⟩) n c) (l' := #[true, true, true, true, true, true, true, true, false, false, false, false, false, false]) rfl (by kernel_rfl) (by kernel_rfl) (by kernel_rfl) (by kernel_rfl) (fun _ _ _ h => h) (by kernel_rfl) (fun _ hc => run_ldL (.tmp 15) (by kernel_rfl) (by kernel_rfl) hc) hS0 (by kernel_rfl) ?_
    refine hTake (i := 8) (d := some 17) (v := .int .i64 j) (l' := #[true, true, true, true, true, true, true, true, true, false, false, false, false, false]) rfl (by kernel_rfl) (by kernel_rfl) (by kernel_rfl) (by kernel_rfl) (fun _ _ _ h => h) (by kernel_rfl) (fun _ hc => by kernel_rfl) hS0 (by kernel_rfl) ?_
    refine hTake (i := 9) (d := some 18) (v := .pointer (some ⟨g, o + j * 3, none⟩)) (l' := #[true, true, true, true, true, true, true, true, true, true, false, false, false, false]) rfl (by kernel_rfl) (by kernel_rfl) (by kernel_rfl) (by kernel_rfl) (fun _ _ _ h => h) (by kernel_rfl) (fun _ hc => run_iaL (.tmp 16) (.tmp 17) g o n c j (by kernel_rfl) (by kernel_rfl) (by kernel_rfl) hj) hS0 (by kernel_rfl) ?_
    refine hOne (i := 10) (by kernel_rfl) ?_
    refine hVal (i := 10) (d := some 19) (v := .agg #[.int .i64 x0, .string x1, .string x2]) (w' := w.drew) (l' := #[true, true, true, true, true, true, true, true, true, true, true, false, false, false]) rfl (by kernel_rfl) (by kernel_rfl) (by kernel_rfl) (run_ldM 37 _ [.int .i64 x0, .string x1, .string x2] (.tmp 18) (by kernel_rfl) (by kernel_rfl) hitem Try.underlying37 rfl (by kernel_rfl)) hS0 ?_
    generalize hq : Act.put _ _ _ = aa
    refine hOne (i := 11) (by kernel_rfl) ?_
    refine (hCall (i := 11) (d := some 20) (f := 32) (args := #[.agg #[.int .i64 x0, .string x1, .string x2], .pointer (some ⟨p1, 0, none⟩), .pointer (some ⟨p2, 0, none⟩)]) (l' := #[true, true, true, true, true, true, true, true, true, true, true, true, false, false]) (R := fun v w' => v = .agg #[.int .i64 x0, .string x1, .string s'] ∧ Below w.heap.size w.drew w') rfl (by kernel_rfl) (by subst hq; kernel_rfl) (by kernel_rfl) (run_clv (.tmp 13) (.tmp 19) #[37] (by kernel_rfl) (by subst hq; kernel_rfl) (by subst hq; kernel_rfl) enter_bend) HF.out ?_)
    subst hq
    rintro v w3 ⟨rfl, hb3⟩
    obtain ⟨hth, hpc, hpc', hR⟩ := HB'.out w3 hb3
    refine ⟨hpc, ?_⟩
    refine hOne (i := 12) (by kernel_rfl) ?_
    refine hVal (i := 12) (d := some 21) (v := .pointer (some ⟨g, o + j * 3, none⟩)) (w' := w3) (l' := #[true, true, true, true, true, true, true, true, true, true, true, true, true, false]) rfl (by kernel_rfl) (by kernel_rfl) (by kernel_rfl) (run_iaL (.tmp 11) (.tmp 12) g o n c j (by kernel_rfl) (by kernel_rfl) (by kernel_rfl) hj) hpc ?_
    refine hOne (i := 13) (by kernel_rfl) ?_
    refine hSkip (i := 13) (w' := w3.setCells g (o + j * 3) [.int .i64 x0, .string x1, .string s']) (l' := #[true, true, true, true, true, true, true, true, true, true, true, true, true, true]) rfl (by kernel_rfl) (by kernel_rfl) (by kernel_rfl) (run_stM 37 [.int .i64 x0, .string x1, .string s'] (.tmp 21) (.tmp 20) (by kernel_rfl) (by kernel_rfl) (by kernel_rfl) hth (by kernel_rfl) (by intro v hv; simp only [List.mem_cons, List.not_mem_nil, or_false] at hv; rcases hv with rfl | rfl | rfl <;> rfl)) hpc' ?_
    refine wpAnyH_done (by kernel_rfl) ?_ _
    go_simp
    go_wp2
    go_end0
    exact ⟨rfl, hR⟩
  | false =>
    have HQ : Chg B w w p f (.slice a n c) (bndP P k place mask) := by
      unfold Chg bndP
      rw [← hn, hE, if_neg (by simp)]
      exact ⟨h, Only.refl _ _ _ _⟩
    have HE := hid hE
    have HH := hid (has_any p f a n c k w hc hm)
    clear h hn hE hk hm h1 h2
    go_enter Try.func28, Try.ntmps28
    go_wp2_with fail
    refine HH.out.mono ?_
    rintro e w1 ⟨rfl, hw1⟩
    rw [hw1, HE.out]
    go_wp2
    go_end0
    exact ⟨rfl, HQ⟩

set_option maxHeartbeats 1000000 in
set_option maxRecDepth 100000 in
theorem implBend_any (a : Option Addr) (b o n c : Nat) (P : List Pc) (k place mask : Int) (w : World) (h : PcAt w a b o n P) (hn : n ≤ 1048576) :
    Calls Try.prog 16 #[.slice a n c, .int .i64 k, .int .i64 place, .int .i64 mask] w fun e w' => RetP e w.heap.size w' (bndP P k place mask) ∧ Below w.heap.size w w' := by
  have hl := h.len
  have hk := h.ok
  go_enter Try.func16, Try.ntmps16
  go_wp2_with fail
  refine (listOf_any a b o n c P w h hn).mono ?_
  rintro e w1 ⟨⟨v, rfl, hown, hne⟩, hb1⟩
  obtain ⟨a1, c1, rfl⟩ := hown.slc
  obtain ⟨w2, hw2⟩ : ∃ w2, w2 = w1.alloc (.cells #[.slice a1 n c1] 39) := ⟨_, rfl⟩
  have hls : LsAt w.heap.size w2 w1.heap.size 0 (.slice a1 n c1) P := by
    have hcf : CF w2 w1.heap.size [.slice a1 n c1] := by rw [hw2]; exact CF.made w1 _ _
    exact ⟨(hcf 0 (by simp)).1, (hcf 0 (by simp)).2, by rw [hw2, hl]; exact hown.alloc _, hb1.size, by rw [hw2]; simp, hne⟩
  have hb2 : Below w.heap.size w w2 := by rw [hw2]; exact hb1.alloc hb1.size _
  have hB := hb2.size
  have hrow := hown.row_lo
  have hq := hb1.size
  go_upto_region 2 with fail
  rw [← hw2]
  clear hw2 hown hne hb1
  obtain ⟨q, hq'⟩ : ∃ q, q = w1.heap.size := ⟨_, rfl⟩
  rw [← hq'] at hls hq ⊢
  clear hq'
  go_wp2_with fail
  refine (bender_any place mask w2).mono ?_
  rintro e w3 ⟨rfl, e1, e2, hs3, hb3⟩
  have hls3 : LsAt w.heap.size w3 q 0 (.slice a1 n c1) P := ⟨keepB hb3 hls.c, (hb3.frozen (p := ⟨q, 0, none⟩) hls.hi).trans hls.nf, hls.own.below hb3 (Nat.le_refl _), hls.lo, Nat.lt_of_lt_of_le hls.hi hb3.size, hls.ne⟩
  have hb23 := hb2.trans (hb3.mono hB)
  have HP := hid (changeBend_any w.heap.size q 0 a1 n c1 P k place mask w2.heap.size (w2.heap.size + 1) w3 hls3 hl.symm (by omega) hk e1 e2)
  obtain ⟨z, hz⟩ : ∃ z, z = w2.heap.size := ⟨_, rfl⟩
  rw [← hz] at HP ⊢
  clear hz e1 e2 hs3 hb3 hls hls3
  go_wp2_with fail
  refine HP.out.mono ?_
  rintro e w4 ⟨rfl, hls', hon⟩
  have hc3 := hls'.c
  have hb4 := hb23.trans (hon.below hq hrow hb23.size)
  have HR : RetP (.returned (.slice a1 n c1)) w.heap.size w4 (bndP P k place mask) := ⟨_, rfl, hls'.own⟩
  clear hls' hon hk hl HP h
  go_wp2
  go_ret
  exact ⟨HR, hb4⟩
end Go.Proofs.Ytfocmmiajcamiaa
