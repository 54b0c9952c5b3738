import Derived.Test.YthopfmhagddhgaaGreatQTru
import Derived.Deep.DeepCutAuto
namespace Go.Proofs.YthopfmhagddhgaaGreat
open Go.RowKit

theorem code0 {ts : List TaskD} (h : Code ts 0) : (1 ≤ ts.length ∧ ts.length ≤ 40) ∧ namesOk ts ts.length ∧ costsOk ts ts.length ∧ allDeps ts ts.length := by
  rcases h with ⟨h, _⟩ | ⟨h1, h⟩
  · omega
  rcases h with ⟨h, _⟩ | ⟨h2, h⟩
  · omega
  rcases h with ⟨h, _⟩ | ⟨h3, h⟩
  · omega
  rcases h with ⟨h, _⟩ | ⟨h4, _⟩
  · omega
  exact ⟨h1, h2, h3, h4⟩

/-- What Truth answers: the truth, or nothing. -/
def TruS (ts : List TaskD) (ss : List ByteArray) : Prop := (Code ts 0 ∧ ss = trs ts ts.length) ∨ (¬ Code ts 0 ∧ ss = [])
theorem TruS.one {ts : List TaskD} {ss ss' : List ByteArray} (h : TruS ts ss) (h' : TruS ts ss') : ss = ss' := by
  rcases h with ⟨h, rfl⟩ | ⟨h, rfl⟩ <;> rcases h' with ⟨h', rfl⟩ | ⟨h', rfl⟩
  · rfl
  · exact absurd h h'
  · exact absurd h' h
  · rfl

theorem made_ptr (n : Nat) {j : Nat} (hj : j < n) : (madeCells #[Value.pointer none] n)[j]? = some (.pointer none) := by
  rw [Array.getElem?_eq_getElem (by rw [size_madeCells]; exact hj)]
  simp [madeCells, Nat.mod_one]

/-- The memo as it begins: the struct first, or the values first. -/
theorem memo1 {ts : List TaskD} {w1 : World} {b o n c : Nat} (h : TasksAt w1 (some ⟨b, o, none⟩) b o n ts) :
    Memo (fun y => y = w1.heap.size + 1) ts w1 w1.heap.size (w1.heap.size + 1) (some ⟨b, o, none⟩) b o n c ((w1.alloc (.cells #[.slice (some ⟨b, o, none⟩) n c, .slice (some ⟨w1.heap.size + 1, 0, none⟩) n n] 146)).alloc (.cells (madeCells #[.pointer none] n) 147)).drew where
  tasks := h
  bel := (((Below.refl _ _).alloc (Nat.le_refl _) _).alloc (by simp) _).drew
  loV := by omega
  ne := by omega
  aV := rfl
  lt := by rintro x rfl; simp
  ms := by simp
  mv := by simp
  vals := fun j hj => by
    have hc := World.cell?_alloc_mark (w1.alloc (.cells #[.slice (some ⟨b, o, none⟩) n c, .slice (some ⟨w1.heap.size + 1, 0, none⟩) n n] 146)) (madeCells #[.pointer none] n) 147 (0, 0) j
    have hf := World.frozen?_alloc_mark (w1.alloc (.cells #[.slice (some ⟨b, o, none⟩) n c, .slice (some ⟨w1.heap.size + 1, 0, none⟩) n n] 146)) (madeCells #[.pointer none] n) 147 0 0 j
    rw [made_ptr n hj] at hc
    simp only [World.size_alloc] at hc hf
    refine ⟨?_, .inl hc⟩
    exact hf.trans (by simp)
theorem memo2 {ts : List TaskD} {w1 : World} {b o n c : Nat} (h : TasksAt w1 (some ⟨b, o, none⟩) b o n ts) :
    Memo (fun y => y = w1.heap.size) ts w1 (w1.heap.size + 1) w1.heap.size (some ⟨b, o, none⟩) b o n c ((w1.alloc (.cells (madeCells #[.pointer none] n) 147)).alloc (.cells #[.slice (some ⟨b, o, none⟩) n c, .slice (some ⟨w1.heap.size, 0, none⟩) n n] 146)).drew where
  tasks := h
  bel := (((Below.refl _ _).alloc (Nat.le_refl _) _).alloc (by simp) _).drew
  loV := by omega
  ne := by omega
  aV := rfl
  lt := by rintro x rfl; simp; omega
  ms := by simp
  mv := by simp
  vals := fun j hj => by
    have hc := World.cell?_alloc_mark w1 (madeCells #[.pointer none] n) 147 (0, 0) j
    have hf := World.frozen?_alloc_mark w1 (madeCells #[.pointer none] n) 147 0 0 j
    rw [made_ptr n hj] at hc
    have hb : ((w1.alloc (.cells (madeCells #[.pointer none] n) 147)).alloc (.cells #[.slice (some ⟨b, o, none⟩) n c, .slice (some ⟨w1.heap.size, 0, none⟩) n n] 146)).heap[w1.heap.size]? = (w1.alloc (.cells (madeCells #[.pointer none] n) 147)).heap[w1.heap.size]? := Below.heap_alloc _ _ _ (by simp)
    refine ⟨?_, .inl ?_⟩
    · exact (World.frozen?_of_block (w := w1.alloc (.cells (madeCells #[.pointer none] n) 147)) (a := ⟨w1.heap.size, j, none⟩) hb).trans (hf.trans (by simp))
    · exact (World.cell?_of_block (w := w1.alloc (.cells (madeCells #[.pointer none] n) 147)) (a := ⟨w1.heap.size, j, none⟩) hb).trans hc

set_option maxHeartbeats 4000000 in
set_option maxRecDepth 100000 in
theorem implTruth_any (a : Option Addr) (b o n c : Nat) (ts : List TaskD) (w : World) (h : TasksAt w a b o n ts) :
    Calls Tryz.prog 45 #[.agg #[.slice a n c]] w fun e w' => (∃ v m ss, e = .returned v ∧ TruS ts ss ∧ Own w.heap.size w' 1 v m (ss.map Value.string)) ∧ Below w.heap.size w w' := by
  have hb0 : Below w.heap.size w (w.alloc (.cells #[.slice a n c] 41)) := (Below.refl _ _).alloc (Nat.le_refl _) _
  have hq0 : (w.alloc (.cells #[.slice a n c] 41)).cell? ⟨w.heap.size, 0, none⟩ = some (.slice a n c) := by simp
  have HL : Hid (ts.length = n) := h.len
  obtain ⟨i0, hi, hz0, hz1, hz2⟩ := info_parts Tryz.info9
  obtain ⟨j0, hj, hy0, hy1, hy2⟩ := info_parts Tryz.info147
  go_enter Tryz.func45, Tryz.ntmps45
  go_wp2_with fail
  refine (implCheckPlan_any a b o n c ts _ (h.below' hb0)).mono ?_
  rintro e w1 ⟨⟨cd, rfl, hcd⟩, hb1⟩
  have hB1 := hb0.trans (hb1.mono hb0.size)
  have hq1 := keepB hb1 hq0
  by_cases hz : cd = 0
  · subst hz
    obtain ⟨hlen, _, _, hdeps⟩ := code0 hcd
    rw [HL.out] at hlen hdeps
    obtain rfl := h.ad (by omega)
    have hT1 := h.below' hB1
    have hmk : ∀ w : World, (Instr.makeSlice 144 (.int .i64 (n : Int)) (.int .i64 (n : Int))).run Tryz.prog w = .ok (.slice (some ⟨w.heap.size, 0, none⟩) n n) (w.alloc (.cells (madeCells #[.pointer none] n) 147)) := fun w => by
      have := run_make (P := Tryz.prog) w 144 147 j0 (.pointer none) Tryz.underlying144 hj hy0 .i64 .i64 n n (by omega) (Int.le_refl _) (by rw [hy2]; omega) (by omega)
      simpa [hy1, Value.cells] using this
    have hlt1 : w.heap.size < w1.heap.size := World.block_lt_of_cell? _ _ hq1
    go_wp2
    go_cut [3] (fun s3 wx => ∃ M V, s3 = .pointer (some ⟨M, 0, none⟩) ∧ Memo (fun y => y = V) ts w1 M V (some ⟨b, o, none⟩) b o n c wx)
    case first =>
      go_region_held3 (fun w' => w'.cell? ⟨w.heap.size, 0, none⟩ = some (.slice (some ⟨b, o, none⟩) n c)) (first | (simp [go_sem, World.cell?_alloc_past, *]; done) | assumption) (fail)
      all_goals
        go_wp2_with fail
        go_meet
        case rel => first | exact ⟨_, _, rfl, memo1 hT1⟩ | exact ⟨_, _, rfl, memo2 hT1⟩
    case rest =>
      obtain ⟨M, V, rfl, hMm⟩ := hcut
      have hq2 := keepB hMm.bel hq1
      have hw12 := hMm.bel.size
      go_wp2_with (refine wpList_make_c _ rfl _ _ 25 rfl wc.heap.size 9 i0 (.string ⟨#[]⟩) 1 16 Tryz.underlying25 hi hz0 hz1 hz2 .i64 .i64 n n n rfl rfl rfl rfl (by omega) (by unfold maxLen; omega) (Nat.le_refl _) ?_; intro w3 hown hgr)
      rw [made_one _ rfl] at hown
      have hM3 := hMm.fresh (I := wc.heap.size) hgr (by simp) (Nat.le_refl _) hown.hi
      have hVI := hMm.hiV
      have hMI := hMm.hiM
      clear hgr hmk hq0 hb0 hb1
      go_loopw [22] (fun x wr => ∃ k : Nat, k ≤ n ∧ x = .int .i64 k ∧ OwnC wc.heap.size wr 1 wc.heap.size 0 n n (((trs ts n).take k).map Value.string ++ List.replicate (n - k) (.string ⟨#[]⟩)) ∧ Memo (fun y => y = V ∨ y = wc.heap.size) ts w1 M V (some ⟨b, o, none⟩) b o n c wr) (fun x _ => n - (intOf x).toNat)
      case atStart => exact ⟨0, Nat.zero_le _, rfl, by simpa using hown, hM3⟩
      case round =>
        obtain ⟨k, hk, rfl, ho, hMr⟩ := hrel
        by_cases hlt : k < n
        · have hlt' : (k : Int) < (n : Int) := by omega
          go_wp2_with fail
          refine (value_any ts w1 M V _ b o n c hdeps hlen.2 k hlt _ _ hMr).mono ?_
          rintro e w4 ⟨x, rfl, hxs, hM4, hg4⟩
          have ho2 := ho.grown hg4 (by simp; omega)
          obtain ⟨u0, _, hq0⟩ := ho2.cellSome (j := k) (by omega)
          have hf0 := ho2.notFrozen (j := k) (by omega)
          have ho3 := ho2.setCell (j := k) (by omega) (.string (tv ts k))
          rw [← trs_get ts hlt, set_step (trs ts n) k n _ hlt (trs_length ts n), trs_get ts hlt] at ho3
          simp only [Nat.zero_add] at hq0 hf0 ho3
          have hM5 := hM4.store (I := wc.heap.size) (j := k) (.inr rfl) (by omega) (by omega) (by omega) (.string (tv ts k))
          have hIlt := ho2.hi
          clear ho ho2 hMr hM4 hg4
          go_wp2
          go_roundw
          case rel => exact ⟨k + 1, by omega, by go_num, ho3, hM5⟩
          case measure => simp [intOf]; omega
        · obtain rfl : k = n := by omega
          rw [List.take_of_length_le (by rw [trs_length]; omega), Nat.sub_self, List.replicate_zero, List.append_nil] at ho
          go_wp2
          go_ret
          refine ⟨⟨_, k, trs ts k, rfl, .inl ⟨hcd, by rw [HL.out]⟩, .inr ⟨_, _, _, rfl, ho.mono (by omega)⟩⟩, hB1.trans (hMr.bel.mono hB1.size)⟩
  · have hnz : (cd == 0) = false := by simpa using hz
    go_wp2
    go_ret
    exact ⟨⟨_, 0, [], rfl, .inr ⟨fun h0 => hz (hcd.one h0), rfl⟩, Own.nil _ _ _⟩, hB1⟩

theorem Own.mono {B B' : Nat} {w : World} {size : Nat} {v : Value} {n : Nat} {xs : List Value} (h : Own B w size v n xs) (hB : B' ≤ B) : Own B' w size v n xs := by
  rcases h with h | ⟨g, o, cap, hv, hc⟩
  · exact .inl h
  · exact .inr ⟨g, o, cap, hv, hc.mono hB⟩
theorem Own.shape {B : Nat} {w : World} {size : Nat} {v : Value} {n : Nat} {xs : List Value} (h : Own B w size v n xs) : ∃ a c, v = .slice a n c ∧ (0 < n → ∃ g o, a = some ⟨g, o, none⟩ ∧ OwnC B w size g o c n xs) := by
  rcases h with ⟨rfl, rfl, rfl⟩ | ⟨g, o, cap, rfl, hc⟩
  · exact ⟨none, 0, rfl, fun h => absurd h (by omega)⟩
  · exact ⟨_, cap, rfl, fun _ => ⟨g, o, rfl, hc⟩⟩
theorem StrsAt.ofOwn' {B : Nat} {w : World} {a : Option Addr} {n c : Nat} {ss : List ByteArray} (h : Own B w 1 (.slice a n c) n (ss.map Value.string)) (hz : ∀ s ∈ ss, s.size ≤ maxLen) : ∃ g o, StrsAt w a g o n ss := by
  rcases h with ⟨hv, rfl, hx⟩ | ⟨g, o, cap, hv, hc⟩
  · have : ss = [] := by simpa using hx
    subst this
    exact ⟨0, 0, fun h => absurd h (by omega), rfl, Nat.zero_le _, fun h => absurd h (by omega), fun j hj => absurd hj (by omega), by simp⟩
  · simp only [Value.slice.injEq] at hv
    obtain ⟨rfl, _, _⟩ := hv
    exact ⟨g, o, StrsAt.ofOwn hc hz⟩
theorem tot_eight {ss : List ByteArray} (h : ∀ s ∈ ss, s.size = 8) : tot ss = 8 * ss.length := by
  induction ss with
  | nil => rfl
  | cons s r ih =>
    have h1 := h s (by simp)
    have h2 := ih (fun x hx => h x (by simp [hx]))
    simp only [tot, List.map_cons, List.sum_cons, List.length_cons] at h2 ⊢
    rw [h1, h2]; omega
theorem dv_eight {ts : List TaskD} {n k : Nat} (h : allDeps ts n) (hk : k < n) : ∀ s ∈ dv ts (dps ts k), s.size = 8 := by
  intro s hs
  obtain ⟨d, hdm, rfl⟩ := List.mem_map.1 hs
  obtain ⟨j, hj, rfl⟩ := List.mem_iff_getElem.1 hdm
  have := (h k hk).2 j hj
  rw [show (ts.getD k dT).deps.getD j 0 = (dps ts k)[j] by show (dps ts k).getD j 0 = _; simp [List.getD, List.getElem?_eq_getElem hj]] at this
  exact tv_size h (by omega)
theorem takeD_snoc (ts : List TaskD) {ds : List Int} {i m : Nat} (hi : i < ds.length) (hm : (m : Int) = ds.getD i 0) : (dv ts ds).take (i + 1) = (dv ts ds).take i ++ [tv ts m] := by
  rw [takeS_snoc (by rw [dv_length]; exact hi), dv_get ts hi hm]

set_option maxHeartbeats 4000000 in
set_option maxRecDepth 100000 in
theorem specTruth_any (a : Option Addr) (b o n c : Nat) (ts : List TaskD) (w : World) (h : TasksAt w a b o n ts) :
    Calls Tryz.prog 41 #[.agg #[.slice a n c]] w fun e w' => (∃ v m ss, e = .returned v ∧ TruS ts ss ∧ Own w.heap.size w' 1 v m (ss.map Value.string)) ∧ Below w.heap.size w w' := by
  have hb0 : Below w.heap.size w ((w.alloc (.cells #[.slice a n c] 41)).alloc (.cells #[] 9)) := ((Below.refl _ _).alloc (Nat.le_refl _) _).alloc (by simp) _
  have hq0 : ((w.alloc (.cells #[.slice a n c] 41)).alloc (.cells #[] 9)).cell? ⟨w.heap.size, 0, none⟩ = some (.slice a n c) := by simp
  have HL : Hid (ts.length = n) := h.len
  obtain ⟨i0, hi, hz0, hz1, hz2⟩ := info_parts Tryz.info9
  have hout0 : Own (w.heap.size + 1) ((w.alloc (.cells #[.slice a n c] 41)).alloc (.cells #[] 9)) 1 (.slice (some ⟨w.heap.size + 1, 0, none⟩) 0 0) 0 [] := by
    have := OwnC.made (w.alloc (.cells #[.slice a n c] 41)) (w.heap.size + 1) 9 1 0 0 #[] 0 (by simp) (Nat.le_refl _) (Nat.zero_le _) rfl (Nat.le_refl _) [] rfl (0, 0) (.inl rfl)
    simp only [World.size_alloc] at this
    exact .inr ⟨_, 0, 0, rfl, this⟩
  go_enter Tryz.func41, Tryz.ntmps41
  go_wp2_with fail
  refine (specCheckPlan_any a b o n c ts _ (h.below' hb0)).mono ?_
  rintro e w1 ⟨⟨cd, rfl, hcd⟩, hb1⟩
  have hB1 := hb0.trans (hb1.mono hb0.size)
  have hq1 := keepB hb1 hq0
  have hout1 := hout0.below hb1 (Nat.le_refl _)
  by_cases hz : cd = 0
  · subst hz
    obtain ⟨hlen, hnames, _, hdeps⟩ := code0 hcd
    rw [HL.out] at hlen hdeps hnames
    obtain rfl := h.ad (by omega)
    have hT1 := h.below' hB1
    have hlt1 : w.heap.size < w1.heap.size := World.block_lt_of_cell? _ _ hq1
    clear hout0 hq0 hb0 hb1
    go_wp2
    go_loopw [3, 4] (fun ov x wr => ∃ k : Nat, k ≤ n ∧ x = .int .i64 k ∧ Own (w.heap.size + 1) wr 1 ov k (((trs ts n).take k).map Value.string) ∧ Below w.heap.size w wr ∧ wr.cell? ⟨w.heap.size, 0, none⟩ = some (.slice (some ⟨b, o, none⟩) n c)) (fun _ x _ => n - (intOf x).toNat)
    case atStart => exact ⟨0, Nat.zero_le _, rfl, by simpa using hout1, hB1, hq1⟩
    case round =>
      obtain ⟨wo, rfl⟩ : ∃ wo, wo = wr := ⟨_, rfl⟩
      obtain ⟨k, hk, rfl, hout, hb, hq⟩ := hrel
      by_cases hlt : k < n
      · have hT := h.below' hb
        obtain ⟨t, a', b', o', n', c', ht, z0, z1, z2, hi', hsz, _⟩ := hT.get hlt
        have hdk := hdeps k hlt
        have hd8 := dv_eight hdeps hlt
        have hnm := (hnames k hlt).1
        have hval : tv ts k = valS t.name (dv ts t.deps) := by rw [tv_eq hdeps hlt, nm, dps, ← ht]; rfl
        rw [dps, ← ht] at hd8
        rw [nm, ← ht] at hnm
        rw [← ht] at hdk
        have hns : t.name.size ≤ 30 := hnm.2.2
        have hn8 : n' ≤ 8 := by have := hdk.1; rw [hi'.len] at this; exact this
        have HD : Hid (depsOk k t.deps) := hdk
        have HV : Hid _ := hval
        have H8 : Hid (∀ s ∈ dv ts t.deps, s.size = 8) := hd8
        clear hdk hval hd8 hnm ht hT
        obtain ⟨ao, co, hov, hos⟩ := hout.shape
        rw [hov] at hout ⊢
        have hlt' : (k : Int) < (n : Int) := by omega
        have hwlt : w.heap.size < wo.heap.size := World.block_lt_of_cell? _ _ hq
        have hin0 : Own wo.heap.size (wo.alloc (.cells #[] 9)) 1 (.slice (some ⟨wo.heap.size, 0, none⟩) 0 0) 0 [] :=
          .inr ⟨_, 0, 0, rfl, OwnC.made wo wo.heap.size 9 1 0 0 #[] 0 (Nat.le_refl _) (Nat.le_refl _) (Nat.zero_le _) rfl (Nat.le_refl _) [] rfl (0, 0) (.inl rfl)⟩
        go_wp2
        go_loopw [5, 6] (fun iv x wx => ∃ j : Nat, j ≤ n' ∧ x = .int .i64 j ∧ Own wo.heap.size wx 1 iv j (((dv ts t.deps).take j).map Value.string) ∧ Below wo.heap.size wo wx) (fun _ x _ => n' - (intOf x).toNat)
        case atStart => exact ⟨0, Nat.zero_le _, rfl, by simpa using hin0, (Below.refl _ _).alloc (Nat.le_refl _) _⟩
        case round =>
          obtain ⟨j, hj, rfl, hin, hbx⟩ := hrel
          have y0 := keepB hbx z0
          have y2 := keepB hbx z2
          have yq := keepB hbx hq
          have hxs := hbx.size
          by_cases hlj : j < n'
          · obtain rfl := hi'.ad (by omega)
            have hcd2 := (hi'.below' hbx).cell j hlj
            have hok := HD.out.2 j (by rw [hi'.len]; exact hlj)
            obtain ⟨d, hdd⟩ : ∃ d, d = t.deps.getD j 0 := ⟨_, rfl⟩
            rw [← hdd] at hcd2 hok
            obtain ⟨m, rfl⟩ : ∃ m : Nat, d = (m : Int) := ⟨d.toNat, by omega⟩
            have hmk : m < k := by omega
            obtain ⟨g, og, rfl, hoc⟩ := hos (by omega)
            have hcell : wr.cell? ⟨g, og + m, none⟩ = some (.string (tv ts m)) := by
              refine keepB hbx ?_
              rw [hoc.holds m (by omega), List.getElem?_map, List.getElem?_take, if_pos hmk, List.getElem?_eq_getElem (by rw [trs_length]; omega)]
              have := trs_get ts (show m < n by omega)
              simp only [List.getD, List.getElem?_eq_getElem (show m < (trs ts n).length by rw [trs_length]; omega), Option.getD_some] at this
              rw [this]; rfl
            have hsn := takeD_snoc ts (by rw [hi'.len]; exact hlj) hdd
            have HS : Hid _ := hsn
            clear hsn hdd hok
            have hj' : (j : Int) < (n' : Int) := by omega
            have hm' : (m : Int) < (k : Int) := by omega
            have hown1 : Own wo.heap.size (wr.alloc (.cells #[.string (tv ts m)] 9)) 1 (.slice (some ⟨wr.heap.size, 0, none⟩) 1 1) 1 [.string (tv ts m)] :=
              .inr ⟨_, 0, 1, rfl, OwnC.made wr wo.heap.size 9 1 1 1 _ 1 hxs (Nat.le_refl _) (by unfold maxLen; omega) rfl (Nat.le_refl _) _ rfl _ (.inl rfl)⟩
            have hsrc : Src Tryz.prog 1 25 _ 1 _ (wr.alloc (.cells #[.string (tv ts m)] 9)) := hown1.src Tryz.underlying25 (by simp; rfl)
            have hinA := hin.alloc (.cells #[.string (tv ts m)] 9)
            have hbA : Below wo.heap.size wo (wr.alloc (.cells #[.string (tv ts m)] 9)) := hbx.alloc hxs _
            have hrow := hin.row_lo
            clear hown1 hin
            go_wp2_with (at_builtin; refine wpList_append_c _ rfl _ _ 25 25 rfl wo.heap.size 9 i0 (.string ⟨#[]⟩) 1 16 Tryz.underlying25 hi hz0 hz1 hz2 rfl _ j _ rfl hinA _ 1 _ rfl hsrc (by unfold maxLen; omega) (by omega) (by simp; omega) ?_; intro v' w4 hown' hgrow hblk)
            have hb4 := hbA.grown hgrow (by simp; omega) hrow
            clear hinA hsrc hgrow hbA hrow hblk
            go_wp2
            go_roundw
            case rel => exact ⟨j + 1, by omega, by go_num, by rw [HS.out, List.map_append]; exact hown', hb4⟩
            case measure => simp [intOf]; omega
          · obtain rfl : j = n' := by omega
            rw [List.take_of_length_le (by rw [dv_length, hi'.len]; omega)] at hin
            obtain ⟨ai, ci, hiv, _⟩ := hin.shape
            rw [hiv] at hin ⊢
            obtain ⟨gi, oi, hst⟩ := StrsAt.ofOwn' hin (fun s hs => by rw [H8.out s hs]; unfold maxLen; omega)
            have htot : tot (dv ts t.deps) = 8 * j := by rw [tot_eight H8.out, dv_length, hi'.len]
            go_wp2_with fail
            refine (specValue_any t.name ai gi oi j ci (dv ts t.deps) _ (by omega) hst (by omega)).mono ?_
            rintro e w5 ⟨rfl, hb5⟩
            rw [← HV.out]
            have hbx5 := hbx.trans (hb5.mono hxs)
            have hb05 := hb.trans (hbx5.mono hb.size)
            have hout5 := hout.below hbx5 (Nat.le_refl _)
            have hq5 := keepB hbx5 hq
            have hs5 := hbx5.size
            have hown1 : Own (w.heap.size + 1) (w5.alloc (.cells #[.string (tv ts k)] 9)) 1 (.slice (some ⟨w5.heap.size, 0, none⟩) 1 1) 1 [.string (tv ts k)] :=
              .inr ⟨_, 0, 1, rfl, OwnC.made w5 (w.heap.size + 1) 9 1 1 1 _ 1 (by omega) (Nat.le_refl _) (by unfold maxLen; omega) rfl (Nat.le_refl _) _ rfl _ (.inl rfl)⟩
            have hsrc : Src Tryz.prog 1 25 _ 1 _ (w5.alloc (.cells #[.string (tv ts k)] 9)) := hown1.src Tryz.underlying25 (by simp; rfl)
            have houtA := hout5.alloc (.cells #[.string (tv ts k)] 9)
            have hbA : Below w.heap.size w (w5.alloc (.cells #[.string (tv ts k)] 9)) := hb05.alloc (by omega) _
            have hrow := hout.row_lo
            have hqA := (World.cell?_of_block (w := w5) (w' := w5.alloc (.cells #[.string (tv ts k)] 9)) (a := ⟨w.heap.size, 0, none⟩) (Below.heap_alloc _ _ _ (by show w.heap.size < w5.heap.size; omega))).trans hq5
            have hsn : (trs ts n).take (k + 1) = (trs ts n).take k ++ [tv ts k] := by rw [takeS_snoc (by rw [trs_length]; exact hlt), trs_get ts hlt]
            have HS : Hid _ := hsn
            clear hsn hown1 hout hout5 hin hst htot
            go_wp2_with (at_builtin; refine wpList_append_c _ rfl _ _ 25 25 rfl (w.heap.size + 1) 9 i0 (.string ⟨#[]⟩) 1 16 Tryz.underlying25 hi hz0 hz1 hz2 rfl _ k _ rfl houtA _ 1 _ rfl hsrc (by unfold maxLen; omega) (by omega) (by simp; omega) ?_; intro v' w6 hown' hgrow hblk)
            have hb6 := hbA.grown hgrow (by simp; omega) (fun k hk => by have := hrow k hk; omega)
            have hq6 := hgrow.cell hqA (fun e => absurd (hrow w.heap.size e.symm) (by omega))
            clear houtA hsrc hgrow hbA hrow hblk hqA
            go_wp2
            go_roundw
            case rel => exact ⟨k + 1, by omega, by go_num, by rw [HS.out, List.map_append]; exact hown', hb6, hq6⟩
            case measure => simp [intOf]; omega
      · obtain rfl : k = n := by omega
        rw [List.take_of_length_le (by rw [trs_length]; omega)] at hout
        go_wp2
        go_ret
        exact ⟨⟨_, k, trs ts k, rfl, .inl ⟨hcd, by rw [HL.out]⟩, hout.mono (by omega)⟩, hb⟩
  · have hnz : (cd == 0) = false := by simpa using hz
    go_wp2
    go_ret
    exact ⟨⟨_, 0, [], rfl, .inr ⟨fun h0 => hz (hcd.one h0), rfl⟩, hout1.mono (by omega)⟩, hB1⟩
end Go.Proofs.YthopfmhagddhgaaGreat
