import Derived.Test.YthopfmhagddhgaaGreatQSChk
namespace Go.Proofs.YthopfmhagddhgaaGreat
open Go.RowKit

theorem Tryz.info147 : (Tryz.prog.info? 147).map (fun i => (i.zero, i.size, i.bytes)) = some (some (.pointer none), 1, 8) := by kernel_rfl

def dps (ts : List TaskD) (k : Nat) : List Int := (ts.getD k dT).deps
/-- The truth of the first k tasks. -/
def trs (ts : List TaskD) : Nat → List ByteArray
  | 0 => []
  | k + 1 => trs ts k ++ [valS (nm ts k) ((dps ts k).map fun d => (trs ts k).getD d.toNat ByteArray.empty)]
def tv (ts : List TaskD) (k : Nat) : ByteArray := (trs ts (k + 1)).getD k ByteArray.empty
theorem trs_length (ts : List TaskD) (k : Nat) : (trs ts k).length = k := by
  induction k with
  | zero => rfl
  | succ k ih => simp [trs, ih]
theorem trs_get (ts : List TaskD) {j k : Nat} (h : j < k) : (trs ts k).getD j ByteArray.empty = tv ts j := by
  induction k with
  | zero => omega
  | succ k ih =>
    by_cases e : j = k
    · subst e; rfl
    · rw [← ih (by omega)]
      simp only [trs, List.getD]
      rw [List.getElem?_append_left (by rw [trs_length]; omega)]
theorem tv_eq {ts : List TaskD} {n k : Nat} (h : allDeps ts n) (hk : k < n) : tv ts k = valS (nm ts k) ((dps ts k).map fun d => tv ts d.toNat) := by
  have h1 : tv ts k = valS (nm ts k) ((dps ts k).map fun d => (trs ts k).getD d.toNat ByteArray.empty) := by
    simp only [tv, trs, List.getD]
    rw [List.getElem?_append_right (by rw [trs_length]; omega), trs_length]
    simp
  rw [h1]
  congr 1
  apply List.map_congr_left
  intro d hd
  obtain ⟨i, hi, rfl⟩ := List.mem_iff_getElem.1 hd
  have := (h k hk).2 i hi
  have e : (ts.getD k dT).deps.getD i 0 = (dps ts k)[i] := by
    show (dps ts k).getD i 0 = _
    simp [List.getD, List.getElem?_eq_getElem hi]
  rw [e] at this
  exact trs_get ts (by omega)
theorem tv_size {ts : List TaskD} {n k : Nat} (h : allDeps ts n) (hk : k < n) : (tv ts k).size = 8 := by rw [tv_eq h hk, valS_size]

def dv (ts : List TaskD) (ds : List Int) : List ByteArray := ds.map fun d => tv ts d.toNat
theorem dv_length (ts : List TaskD) (ds : List Int) : (dv ts ds).length = ds.length := by simp [dv]
theorem dv_get (ts : List TaskD) {ds : List Int} {i m : Nat} (hi : i < ds.length) (hm : (m : Int) = ds.getD i 0) : (dv ts ds).getD i ByteArray.empty = tv ts m := by
  rw [show ds.getD i 0 = ds[i] by simp [List.getD, List.getElem?_eq_getElem hi]] at hm
  simp [dv, List.getD, List.getElem?_eq_getElem hi, ← hm]
theorem dv_set (ts : List TaskD) {ds : List Int} {i m n : Nat} (hi : i < n) (hn : ds.length = n) (hm : (m : Int) = ds.getD i 0) :
    (((dv ts ds).take i).map Value.string ++ List.replicate (n - i) (Value.string ⟨#[]⟩)).set i (.string (tv ts m)) = ((dv ts ds).take (i + 1)).map Value.string ++ List.replicate (n - (i + 1)) (.string ⟨#[]⟩) := by
  have := set_step (dv ts ds) i n (.string ⟨#[]⟩) hi (by rw [dv_length]; exact hn)
  rw [dv_get ts (by omega) hm] at this
  exact this

/-- The memo: the struct in block M, its values in block V; w0: the world in which the tasks were read first; A: blocks in which no value lies. -/
structure Memo (A : Nat → Prop) (ts : List TaskD) (w0 : World) (M V : Nat) (a : Option Addr) (b o n c : Nat) (w : World) : Prop where
  tasks : TasksAt w0 a b o n ts
  bel : Below w0.heap.size w0 w
  loV : w0.heap.size ≤ V
  ne : M ≠ V
  aV : A V
  lt : ∀ x, A x → x < w.heap.size
  ms : w.cell? ⟨M, 0, none⟩ = some (.slice a n c)
  mv : w.cell? ⟨M, 1, none⟩ = some (.slice (some ⟨V, 0, none⟩) n n)
  vals : ∀ j, j < n → w.frozen? ⟨V, j, none⟩ = false ∧ (w.cell? ⟨V, j, none⟩ = some (.pointer none) ∨ ∃ x, w.cell? ⟨V, j, none⟩ = some (.pointer (some ⟨x, 0, none⟩)) ∧ ¬ A x ∧ w.cell? ⟨x, 0, none⟩ = some (.string (tv ts j)))


section
variable {A : Nat → Prop} {ts : List TaskD} {w0 : World} {M V : Nat} {a : Option Addr} {b o n c : Nat} {w w' : World}
theorem Memo.hiV (h : Memo A ts w0 M V a b o n c w) : V < w.heap.size := h.lt V h.aV
theorem Memo.hiM (h : Memo A ts w0 M V a b o n c w) : M < w.heap.size := World.block_lt_of_cell? _ _ h.ms
theorem Memo.grown {row : Option Nat} (h : Memo A ts w0 M V a b o n c w) (hg : w.grownBy w' row) (hr : ∀ k, row = some k → w.heap.size ≤ k) : Memo A ts w0 M V a b o n c w' := by
  have hb : ∀ k, k < w.heap.size → w'.heap[k]? = w.heap[k]? := fun k hk => hg.block k hk (fun e => by have := hr k e.symm; omega)
  have hc : ∀ {p : Addr} {v : Value}, w.cell? p = some v → w'.cell? p = some v := fun {p v} hv => (World.cell?_of_block (w := w) (hb _ (World.block_lt_of_cell? _ _ hv))).trans hv
  refine ⟨h.tasks, h.bel.trans ⟨hg.os, hg.tape, hg.output, hg.size, fun k hk => hb k (by have := h.bel.size; omega)⟩, h.loV, h.ne, h.aV, fun x hx => Nat.lt_of_lt_of_le (h.lt x hx) hg.size, hc h.ms, hc h.mv, fun j hj => ?_⟩
  obtain ⟨hf, hv⟩ := h.vals j hj
  refine ⟨(World.frozen?_of_block (w := w) (a := ⟨V, j, none⟩) (hb V h.hiV)).trans hf, ?_⟩
  rcases hv with hv | ⟨x, hx, hne, hs⟩
  · exact .inl (hc hv)
  · exact .inr ⟨x, hc hx, hne, hc hs⟩
theorem Memo.alloc (h : Memo A ts w0 M V a b o n c w) (ob : Obj) : Memo A ts w0 M V a b o n c (w.alloc ob) :=
  h.grown (World.grownBy_alloc w ob none) (by simp)
theorem Memo.belowW (h : Memo A ts w0 M V a b o n c w) (hb : Below w.heap.size w w') : Memo A ts w0 M V a b o n c w' :=
  h.grown (row := none) ⟨hb.os, hb.tape, hb.output, hb.size, fun k hk _ => hb.block k hk⟩ (by simp)
/-- A new block may be avoided from now on. -/
theorem Memo.fresh {row : Option Nat} {I : Nat} (h : Memo A ts w0 M V a b o n c w) (hg : w.grownBy w' row) (hr : ∀ k, row = some k → w.heap.size ≤ k) (h1 : w.heap.size ≤ I) (h2 : I < w'.heap.size) : Memo (fun y => A y ∨ y = I) ts w0 M V a b o n c w' := by
  have h' := h.grown hg hr
  refine ⟨h'.tasks, h'.bel, h'.loV, h'.ne, .inl h'.aV, fun x hx => ?_, h'.ms, h'.mv, fun j hj => ?_⟩
  · rcases hx with hx | rfl
    · exact h'.lt x hx
    · exact h2
  · refine ⟨(h'.vals j hj).1, ?_⟩
    have hb : ∀ k, k < w.heap.size → w'.heap[k]? = w.heap[k]? := fun k hk => hg.block k hk (fun e => by have := hr k e.symm; omega)
    have hc : ∀ {p : Addr} {v : Value}, w.cell? p = some v → w'.cell? p = some v := fun {p v} hv => (World.cell?_of_block (w := w) (hb _ (World.block_lt_of_cell? _ _ hv))).trans hv
    rcases (h.vals j hj).2 with hv | ⟨x, hx, hne, hs⟩
    · exact .inl (hc hv)
    · refine .inr ⟨x, hc hx, ?_, hc hs⟩
      rintro (ha | rfl)
      · exact hne ha
      · have := World.block_lt_of_cell? _ _ hs; simp at this; omega
theorem Memo.drop {A' : Nat → Prop} (h : Memo A ts w0 M V a b o n c w) (hs : ∀ x, A' x → A x) (hV : A' V) : Memo A' ts w0 M V a b o n c w :=
  ⟨h.tasks, h.bel, h.loV, h.ne, hV, fun x hx => h.lt x (hs x hx), h.ms, h.mv, fun j hj => ⟨(h.vals j hj).1, (h.vals j hj).2.imp id fun ⟨x, h1, h2, h3⟩ => ⟨x, h1, fun hx => h2 (hs x hx), h3⟩⟩⟩
/-- A store into a block that is avoided. -/
theorem Memo.store {I j : Nat} (h : Memo A ts w0 M V a b o n c w) (hI : A I) (hIM : I ≠ M) (hIV : I ≠ V) (hI0 : w0.heap.size ≤ I) (u : Value) : Memo A ts w0 M V a b o n c (w.setCell ⟨I, j, none⟩ u) := by
  have hc : ∀ {y i : Nat} {v : Value}, y ≠ I → w.cell? ⟨y, i, none⟩ = some v → (w.setCell ⟨I, j, none⟩ u).cell? ⟨y, i, none⟩ = some v := fun {y i v} hy hv => by
    rw [World.cell?_setCell_other _ _ _ _ (by intro e; injection e with e1; exact hy e1.symm)]; exact hv
  refine ⟨h.tasks, h.bel.setCell hI0 _, h.loV, h.ne, h.aV, fun x hx => by simpa [World.setCell] using h.lt x hx, hc hIM.symm h.ms, hc hIM.symm h.mv, fun k hk => ?_⟩
  obtain ⟨hf, hv⟩ := h.vals k hk
  refine ⟨by rw [World.frozen?_setCell]; exact hf, ?_⟩
  rcases hv with hv | ⟨y, hy, hne, hs'⟩
  · exact .inl (hc hIV.symm hv)
  · exact .inr ⟨y, hc hIV.symm hy, hne, hc (fun e => hne (e ▸ hI)) hs'⟩
/-- A value is set down. -/
theorem Memo.set (h : Memo A ts w0 M V a b o n c w) {k x : Nat} (hx : ¬ A x) (hs : w.cell? ⟨x, 0, none⟩ = some (.string (tv ts k))) :
    Memo A ts w0 M V a b o n c (w.setCell ⟨V, k, none⟩ (.pointer (some ⟨x, 0, none⟩))) := by
  have hc : ∀ {y i : Nat} {v : Value}, y ≠ V → w.cell? ⟨y, i, none⟩ = some v → (w.setCell ⟨V, k, none⟩ (.pointer (some ⟨x, 0, none⟩))).cell? ⟨y, i, none⟩ = some v := fun {y i v} hy hv => by
    rw [World.cell?_setCell_other _ _ _ _ (by intro e; injection e with e1; exact hy e1.symm)]; exact hv
  refine ⟨h.tasks, h.bel.setCell h.loV _, h.loV, h.ne, h.aV, fun x hx => by simpa [World.setCell] using h.lt x hx, hc h.ne h.ms, hc h.ne h.mv, fun j hj => ?_⟩
  obtain ⟨hf, hv⟩ := h.vals j hj
  refine ⟨by rw [World.frozen?_setCell]; exact hf, ?_⟩
  by_cases e : j = k
  · subst e
    have hsome : ∃ u, w.cell? ⟨V, j, none⟩ = some u := by rcases hv with hv | ⟨y, hy, _⟩ <;> exact ⟨_, by assumption⟩
    obtain ⟨u, hu⟩ := hsome
    exact .inr ⟨x, World.cell?_setCell_same _ _ _ hu, hx, hc (fun e => hx (e ▸ h.aV)) hs⟩
  · have ho : ∀ {v : Value}, w.cell? ⟨V, j, none⟩ = some v → (w.setCell ⟨V, k, none⟩ (.pointer (some ⟨x, 0, none⟩))).cell? ⟨V, j, none⟩ = some v := fun {v} hv => by
      rw [World.cell?_setCell_other _ _ _ _ (by intro e'; injection e' with _ e2; exact e e2.symm)]; exact hv
    rcases hv with hv | ⟨y, hy, hne, hs'⟩
    · exact .inl (ho hv)
    · exact .inr ⟨y, ho hy, hne, hc (fun e => hne (e ▸ h.aV)) hs'⟩
end

set_option maxHeartbeats 1000000 in
theorem value_any (ts : List TaskD) (w0 : World) (M V : Nat) (a : Option Addr) (b o n c : Nat) (hd : allDeps ts n) (hn40 : n ≤ 40) (k : Nat) : k < n → ∀ (A : Nat → Prop) (w : World), Memo A ts w0 M V a b o n c w →
    Calls Tryz.prog 102 #[.pointer (some ⟨M, 0, none⟩), .int .i64 k] w fun e w' => ∃ x, e = .returned (.pointer (some ⟨x, 0, none⟩)) ∧ w'.cell? ⟨x, 0, none⟩ = some (.string (tv ts k)) ∧ Memo A ts w0 M V a b o n c w' ∧ w.grownBy w' (some V) := by
  induction k using Nat.strongRecOn with
  | _ k ih =>
    intro hk A w hM
    have IH : Hid (∀ m, m < k → m < n → ∀ (A : Nat → Prop) (w : World), Memo A ts w0 M V a b o n c w → Calls Tryz.prog 102 #[.pointer (some ⟨M, 0, none⟩), .int .i64 m] w fun e w' => ∃ x, e = .returned (.pointer (some ⟨x, 0, none⟩)) ∧ w'.cell? ⟨x, 0, none⟩ = some (.string (tv ts m)) ∧ Memo A ts w0 M V a b o n c w' ∧ w.grownBy w' (some V)) := ih
    clear ih
    obtain ⟨hf, hv⟩ := hM.vals k hk
    have hms := hM.ms
    have hmv := hM.mv
    have hk' : (k : Int) < (n : Int) := by omega
    rcases hv with hv | ⟨x, hx, hne, hs⟩
    · obtain ⟨t, a', b', o', n', c', ht, z0, z1, z2, hi0, hsz, _⟩ := hM.tasks.get hk
      have hc0 := keepB hM.bel z0
      have hc1 := keepB hM.bel z1
      have hc2 := keepB hM.bel z2
      obtain rfl := hM.tasks.ad (by omega)
      have hdk := hd k hk
      rw [← ht] at hdk
      have hn8 : n' ≤ 8 := by have := hdk.1; rw [hi0.len] at this; exact this
      have HD : Hid (depsOk k t.deps) := hdk
      have hval : tv ts k = valS t.name (dv ts t.deps) := by rw [tv_eq hd hk, nm, dps, ← ht]; rfl
      have HV : Hid _ := hval
      clear hdk hval ht z0 z1 z2
      have hVlt := hM.hiV
      have hMlt := hM.hiM
      have hM0 := hM.bel.size
      obtain ⟨i0, hi, hz0, hz1, hz2⟩ := info_parts Tryz.info9
      have hga : w.grownBy (w.alloc (.cells #[.string t.name, .int .i64 t.cost, .slice a' n' c'] 120)) none := World.grownBy_alloc w _ _
      have hTa : (w.alloc (.cells #[.string t.name, .int .i64 t.cost, .slice a' n' c'] 120)).cell? ⟨w.heap.size, 0, none⟩ = some (.string t.name) := by simp
      have hTb : (w.alloc (.cells #[.string t.name, .int .i64 t.cost, .slice a' n' c'] 120)).cell? ⟨w.heap.size, 2, none⟩ = some (.slice a' n' c') := by simp
      go_enter Tryz.func102, Tryz.ntmps102
      go_wp2_with (refine wpList_make_c _ rfl _ _ 25 rfl (w.heap.size + 1) 9 i0 (.string ⟨#[]⟩) 1 16 Tryz.underlying25 hi hz0 hz1 hz2 .i64 .i64 n' n' n' rfl rfl rfl rfl (by omega) (by unfold maxLen; omega) (by simp) ?_; intro w1 hown hgr; have hT1 := hgr.cell hTa (by simp); have hT2 := hgr.cell hTb (by simp))
      rw [made_one _ rfl] at hown
      simp only [World.size_alloc] at hown
      have hg1n : w.grownBy w1 none := grownBy_trans hga hgr
      have hM1 := hM.fresh (I := w.heap.size + 1) hg1n (by simp) (by omega) hown.hi
      have hg1 : w.grownBy w1 (some V) := grownBy_any hg1n
      clear hga hTa hTb hgr hms hmv hc0 hc1 hc2 hv hf hg1n
      go_loopw [32] (fun x wr => ∃ i : Nat, i ≤ n' ∧ x = .int .i64 i ∧ OwnC (w.heap.size + 1) wr 1 (w.heap.size + 1) 0 n' n' (((dv ts t.deps).take i).map Value.string ++ List.replicate (n' - i) (.string ⟨#[]⟩)) ∧ Memo (fun y => A y ∨ y = w.heap.size + 1) ts w0 M V (some ⟨b, o, none⟩) b o n c wr ∧ wr.cell? ⟨w.heap.size, 0, none⟩ = some (.string t.name) ∧ w.grownBy wr (some V)) (fun x _ => n' - (intOf x).toNat)
      case atStart => exact ⟨0, Nat.zero_le _, rfl, by simpa using hown, hM1, hT1, hg1⟩
      case round =>
        obtain ⟨i, hile, rfl, ho, hMr, hTr, hgr⟩ := hrel
        by_cases hlt : i < n'
        · obtain rfl := hi0.ad (by omega)
          have hcd := (hi0.below' hMr.bel).cell i hlt
          have hok := HD.out.2 i (by rw [hi0.len]; exact hlt)
          obtain ⟨d, hdd⟩ : ∃ d, d = t.deps.getD i 0 := ⟨_, rfl⟩
          rw [← hdd] at hcd hok
          obtain ⟨m, rfl⟩ : ∃ m : Nat, d = (m : Int) := ⟨d.toNat, by omega⟩
          have hmk : m < k := by omega
          have hset := dv_set ts hlt hi0.len hdd
          have HS : Hid _ := hset
          clear hset hdd hok
          have hlt' : (i : Int) < (n' : Int) := by omega
          go_wp2_with fail
          refine (IH.out m hmk (by omega) _ _ hMr).mono ?_
          rintro e w2 ⟨x, rfl, hxs, hM2, hg2⟩
          have hVr := hMr.hiV
          have ho2 := ho.grown hg2 (by simp; omega)
          have hT2' := hg2.cell hTr (by simp; omega)
          have hg02 : w.grownBy w2 (some V) := grownBy_trans hgr hg2
          obtain ⟨u0, _, hq0⟩ := ho2.cellSome (j := i) (by omega)
          have hf0 := ho2.notFrozen (j := i) (by omega)
          have ho3 := ho2.setCell (j := i) (by omega) (.string (tv ts m))
          rw [HS.out] at ho3
          simp only [Nat.zero_add] at hq0 hf0 ho3
          have hM3 := hM2.store (I := w.heap.size + 1) (j := i) (.inr rfl) (by omega) (by omega) (by omega) (.string (tv ts m))
          have hT3 : (w2.setCell ⟨w.heap.size + 1, i, none⟩ (.string (tv ts m))).cell? ⟨w.heap.size, 0, none⟩ = some (.string t.name) := by
            rw [World.cell?_setCell_other _ _ _ _ (by intro e; injection e with e1; omega)]; exact hT2'
          have hg3 : w.grownBy (w2.setCell ⟨w.heap.size + 1, i, none⟩ (.string (tv ts m))) (some V) := ⟨hg02.os, hg02.tape, hg02.output, by simpa [World.setCell] using hg02.size, fun q hq hne => by rw [Below.heap_setCell _ _ _ _ (by show q ≠ w.heap.size + 1; omega)]; exact hg02.block q hq hne⟩
          clear ho ho2 hMr hgr hTr hM2 hg02 hT2' hg2
          go_wp2
          go_roundw
          case rel => exact ⟨i + 1, by omega, by go_num, ho3, hM3, hT3, hg3⟩
          case measure => simp [intOf]; omega
        · obtain rfl : i = n' := by omega
          rw [List.take_of_length_le (by rw [dv_length, hi0.len]; omega), Nat.sub_self, List.replicate_zero, List.append_nil] at ho
          have hst := StrsAt.ofOwn ho (by
            intro s hs
            obtain ⟨d, hdm, rfl⟩ := List.mem_map.1 hs
            obtain ⟨j, hj, rfl⟩ := List.mem_iff_getElem.1 hdm
            have := (HD.out.2 j hj)
            rw [show t.deps.getD j 0 = t.deps[j] by simp [List.getD, List.getElem?_eq_getElem hj]] at this
            rw [tv_size hd (show (t.deps[j]).toNat < n by omega)]; unfold maxLen; omega)
          clear ho
          go_wp2_with fail
          refine (implValue_any t.name _ (w.heap.size + 1) 0 i i (dv ts t.deps) _ hsz hst).mono ?_
          rintro e w3 ⟨rfl, hb3⟩
          rw [← HV.out]
          have hM3 := hMr.belowW hb3
          have hg3 := grownBy_trans hgr (grownBy_below (r := some V) hb3)
          clear hMr hgr hTr hb3 hst
          have hMb := hM3.alloc (.cells #[.string (tv ts k)] 9)
          have hxb : (w3.alloc (.cells #[.string (tv ts k)] 9)).cell? ⟨w3.heap.size, 0, none⟩ = some (.string (tv ts k)) := by simp
          have hgb := grownBy_trans hg3 (World.grownBy_alloc w3 (.cells #[.string (tv ts k)] 9) (some V))
          have hnA : ¬ (A w3.heap.size ∨ w3.heap.size = w.heap.size + 1) := by
            intro hh; exact absurd (hM3.lt _ hh) (by omega)
          have hMs := hMb.set (k := k) hnA hxb
          have hVlt3 := hM3.hiV
          have hgs : w.grownBy ((w3.alloc (.cells #[.string (tv ts k)] 9)).setCell ⟨V, k, none⟩ (.pointer (some ⟨w3.heap.size, 0, none⟩))) (some V) := ⟨hgb.os, hgb.tape, hgb.output, by simpa [World.setCell] using hgb.size, fun q hq hne => by rw [Below.heap_setCell _ _ _ _ (by show q ≠ V; intro e; exact hne (by rw [e]))]; exact hgb.block q hq hne⟩
          have hxs : ((w3.alloc (.cells #[.string (tv ts k)] 9)).setCell ⟨V, k, none⟩ (.pointer (some ⟨w3.heap.size, 0, none⟩))).cell? ⟨w3.heap.size, 0, none⟩ = some (.string (tv ts k)) := by
            rw [World.cell?_setCell_other _ _ _ _ (by intro e; injection e with e1; omega)]; exact hxb
          have hm1 := hM3.mv
          obtain ⟨hvf, hVk⟩ := hM3.vals k hk
          have hvu : ∃ u, w3.cell? ⟨V, k, none⟩ = some u := by rcases hVk with hv | ⟨y, hy, _⟩ <;> exact ⟨_, by assumption⟩
          obtain ⟨u, hu⟩ := hvu
          have hm2 : (w3.setCell ⟨V, k, none⟩ (.pointer (some ⟨w3.heap.size, 0, none⟩))).cell? ⟨M, 1, none⟩ = some (.slice (some ⟨V, 0, none⟩) n n) := by
            rw [World.cell?_setCell_other _ _ _ _ (by intro e; injection e with e1; exact hM.ne e1.symm)]; exact hm1
          have hvk2 : (w3.setCell ⟨V, k, none⟩ (.pointer (some ⟨w3.heap.size, 0, none⟩))).cell? ⟨V, k, none⟩ = some (.pointer (some ⟨w3.heap.size, 0, none⟩)) := World.cell?_setCell_same _ _ _ hu
          have hss : (w3.setCell ⟨V, k, none⟩ (.pointer (some ⟨w3.heap.size, 0, none⟩))).heap.size = w3.heap.size := by simp [World.setCell]
          have hM3lt := hM3.hiM
          clear hVk hMb hgb hg3 hM3
          have HW : Hid ((w3.alloc (.cells #[.string (tv ts k)] 9)).setCell ⟨V, k, none⟩ (.pointer (some ⟨w3.heap.size, 0, none⟩)) = (w3.setCell ⟨V, k, none⟩ (.pointer (some ⟨w3.heap.size, 0, none⟩))).alloc (.cells #[.string (tv ts k)] 9)) := by
            show _ = _
            exact World.setCell_alloc_past _ V k _ (by omega)
          rw [HW.out] at hMs hgs hxs
          have HM : Hid _ := hMs
          have HG : Hid _ := hgs
          have HX : Hid _ := hxs
          clear hMs hgs hxs hxb
          go_wp2
          go_ret
          exact ⟨w3.heap.size, rfl, HX.out, HM.out.drop (fun x hx => .inl hx) hM.aV, HG.out⟩
    · go_enter Tryz.func102, Tryz.ntmps102
      go_wp2
      go_ret
      exact ⟨x, rfl, hs, hM, World.grownBy.refl w _⟩
end Go.Proofs.YthopfmhagddhgaaGreat
