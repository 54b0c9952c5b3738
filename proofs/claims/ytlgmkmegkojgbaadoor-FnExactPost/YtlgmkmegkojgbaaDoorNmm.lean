
/-
  laws.markMessageS.
-/
import Derived.Test.YtlgmkmegkojgbaaDoorRms
import Derived.Test.YtlgmkmegkojgbaaDoorMid
namespace Go.Proofs.YtlgmkmegkojgbaaDoor
open Go.RowKit

/-- A row that may be written. -/
def TRow (w : World) (b n : Nat) : Prop := ∀ i, i < n → (w.cell? ⟨b, i, none⟩).isSome = true ∧ w.frozen? ⟨b, i, none⟩ = false
theorem TRow.set {w : World} {b n : Nat} (h : TRow w b n) (p : Addr) (u : Value) : TRow (w.setCell p u) b n := fun i hi => by
  obtain ⟨h1, h2⟩ := h i hi
  refine ⟨?_, by rw [World.frozen?_setCell]; exact h2⟩
  by_cases e : p = ⟨b, i, none⟩
  · subst e
    obtain ⟨y, hy⟩ := Option.isSome_iff_exists.1 h1
    rw [World.cell?_setCell_same _ _ _ hy]; rfl
  · rw [World.cell?_setCell_other _ _ _ _ e]; exact h1
theorem TRow.below {w w' : World} {b n : Nat} (h : TRow w b n) (hb : Below w.heap.size w w') : TRow w' b n := fun i hi => by
  obtain ⟨h1, h2⟩ := h i hi
  obtain ⟨y, hy⟩ := Option.isSome_iff_exists.1 h1
  exact ⟨by rw [keepB hb hy]; rfl, (hb.frozen (p := ⟨b, i, none⟩) (World.block_lt_of_cell? _ _ hy)).trans h2⟩

/-- A list of messages that may be written: the row in block g, the lists behind it and ahead of H. -/
structure ShM (g H n : Nat) (w : World) : Prop where
  row : TRow w g (n * 8)
  s7 : ∀ j, j < n → ∃ b' n', w.cell? ⟨g, j * 8 + 7, none⟩ = some (.slice (some ⟨b', 0, none⟩) n' n') ∧ g < b' ∧ b' < H ∧ n' ≤ 1048576 ∧ TRow w b' n'
theorem ShM.below {g H n : Nat} {w w' : World} (h : ShM g H n w) (hb : Below w.heap.size w w') : ShM g H n w' where
  row := h.row.below hb
  s7 := fun j hj => by obtain ⟨b', n', h0, h1, h2, h3, h4⟩ := h.s7 j hj; exact ⟨b', n', keepB hb h0, h1, h2, h3, h4.below hb⟩
theorem ShM.set {g H n k i : Nat} {w : World} (h : ShM g H n w) (hi : i < 7) (u : Value) : ShM g H n (w.setCell ⟨g, k * 8 + i, none⟩ u) where
  row := h.row.set _ _
  s7 := fun j hj => by
    obtain ⟨b', n', h0, h1, h2, h3, h4⟩ := h.s7 j hj
    exact ⟨b', n', by rw [World.cell?_setCell_other _ _ _ _ (by intro e; injection e with _ e2; omega)]; exact h0, h1, h2, h3, h4.set _ _⟩
theorem ShM.setI {g H n : Nat} {w : World} (h : ShM g H n w) {p : Addr} (hp : g < p.block) (u : Value) : ShM g H n (w.setCell p u) where
  row := h.row.set _ _
  s7 := fun j hj => by
    obtain ⟨b', n', h0, h1, h2, h3, h4⟩ := h.s7 j hj
    exact ⟨b', n', by rw [World.cell?_setCell_other _ _ _ _ (by intro e; rw [e] at hp; exact absurd hp (by simp))]; exact h0, h1, h2, h3, h4.set _ _⟩

set_option maxHeartbeats 1000000 in
theorem markStringSH_any (b g H n m c k : Nat) (w : World) (hk0 : 0 < k) (hk : k ≤ 2199023255552) (hm : m ≤ 1048576) (h1 : g < b) (h2 : b < H) (hr : TRow w b m) (hS : ShM g H n w) :
    Calls Tryd.prog 46 #[.slice (some ⟨b, 0, none⟩) m c, .int .i64 k] w fun e w' => e = .returned (.int .i64 ((k : Int) + m)) ∧ ShM g H n w' ∧ Mid g H w w' := by
  go_enter Tryd.func46, Tryd.ntmps46
  go_wp2
  go_loopw [1, 5] (fun kv x wr => ∃ i : Nat, i ≤ m ∧ x = .int .i64 i ∧ kv = .int .i64 ((k : Int) + i) ∧ TRow wr b m ∧ ShM g H n wr ∧ Mid g H w wr) (fun _ x _ => m - (intOf x).toNat)
  case atStart => exact ⟨0, Nat.zero_le _, rfl, by simp, hr, hS, Mid.refl _ _ _⟩
  case round =>
    obtain ⟨i, hi, rfl, rfl, hr', hS', hM⟩ := hrel
    by_cases hlt : i < m
    · have hlt' : (i : Int) < (m : Int) := by omega
      go_wp2_with fail
      rw [show ((k : Int) + i) = ((k + i : Nat) : Int) by omega]
      refine (markText_any (k + i) _ (by omega) (by omega)).mono ?_
      rintro e w1 ⟨rfl, hb1⟩
      have r1 := hr'.below hb1
      obtain ⟨hy0, hf⟩ := r1 i hlt
      obtain ⟨y, hy⟩ := Option.isSome_iff_exists.1 hy0
      have r2 := r1.set ⟨b, i, none⟩ (.string (mtx (k + i)))
      have s2 := (hS'.below hb1).setI (p := ⟨b, i, none⟩) h1 (.string (mtx (k + i)))
      have m2 := (hM.trans (Mid.of hb1)).setCell (p := ⟨b, i, none⟩) (by show g ≤ b; omega) h2 (.string (mtx (k + i)))
      clear hr' hS' hM r1 hb1 hy0
      go_wp2
      go_roundw
      case rel => exact ⟨i + 1, by omega, by go_num, by go_num, r2, s2, m2⟩
      case measure => simp [intOf]; omega
    · obtain rfl : i = m := by omega
      go_wp2
      go_ret
      exact ⟨rfl, hS', hM⟩

set_option maxHeartbeats 4000000 in
set_option maxRecDepth 100000 in
theorem markMessageS_any (g H n c kk : Nat) (w : World) (hk0 : 0 < kk) (hk1 : kk ≤ 4194304) (hn : n ≤ 1048576) (hgH : g < H) (hS : ShM g H n w) :
    Calls Tryd.prog 33 #[.slice (some ⟨g, 0, none⟩) n c, .int .i64 (kk : Int)] w fun e w' => (∃ r : Int, e = .returned (.int .i64 r) ∧ 0 < r ∧ r ≤ 1099523162112) ∧ Mid g H w w' := by
  go_enter Tryd.func33, Tryd.ntmps33
  go_wp2
  go_loopw [1, 5] (fun kv x wr => ∃ i : Nat, i ≤ n ∧ x = .int .i64 i ∧ (∃ r : Nat, kv = .int .i64 r ∧ 0 < r ∧ r ≤ kk + i * 1048583) ∧ ShM g H n wr ∧ Mid g H w wr) (fun _ x _ => n - (intOf x).toNat)
  case atStart => exact ⟨0, Nat.zero_le _, rfl, ⟨kk, rfl, hk0, by omega⟩, hS, Mid.refl _ _ _⟩
  case round =>
    obtain ⟨i, hi, rfl, ⟨r, rfl, hr0, hr1⟩, hS', hM⟩ := hrel
    have hr2 : r ≤ 1099523162112 := by have : i * 1048583 ≤ 1048576 * 1048583 := Nat.mul_le_mul_right _ (by omega); omega
    have HR : Hid (r ≤ kk + i * 1048583) := hr1
    clear hr1
    by_cases hlt : i < n
    · have hlt' : (i : Int) < (n : Int) := by omega
      obtain ⟨hy0, hf0⟩ := hS'.row (i * 8) (by omega)
      obtain ⟨y0, hq0⟩ := Option.isSome_iff_exists.1 hy0
      have P0 := hS'.set (k := i) (i := 0) (by omega) (.int .i64 ((r : Int)))
      have M0 := hM.setCell (p := ⟨g, i * 8, none⟩) (Nat.le_refl _) hgH (.int .i64 ((r : Int)))
      simp only [Nat.add_zero] at P0
      obtain ⟨v0, hv0⟩ : ∃ v0, v0 = wr.setCell ⟨g, i * 8, none⟩ (.int .i64 ((r : Int))) := ⟨_, rfl⟩
      rw [← hv0] at P0 M0
      clear hy0 hS' hM
      go_upto_region 6 with fail
      rw [← hv0]
      clear hv0 hq0 hf0
      obtain ⟨hy1, hf1⟩ := P0.row (i * 8 + 1) (by omega)
      obtain ⟨y1, hq1⟩ := Option.isSome_iff_exists.1 hy1
      have P1 := P0.set (k := i) (i := 1) (by omega) (.int .i64 ((r : Int) + 1))
      have M1 := M0.setCell (p := ⟨g, i * 8 + 1, none⟩) (Nat.le_refl _) hgH (.int .i64 ((r : Int) + 1))
      obtain ⟨v1, hv1⟩ : ∃ v1, v1 = v0.setCell ⟨g, i * 8 + 1, none⟩ (.int .i64 ((r : Int) + 1)) := ⟨_, rfl⟩
      rw [← hv1] at P1 M1
      clear hy1 P0 M0
      go_upto_region 8 with fail
      rw [← hv1]
      clear hv1 hq1 hf1
      obtain ⟨hy2, hf2⟩ := P1.row (i * 8 + 2) (by omega)
      obtain ⟨y2, hq2⟩ := Option.isSome_iff_exists.1 hy2
      have P2 := P1.set (k := i) (i := 2) (by omega) (.int .i64 ((r : Int) + 1 + 1))
      have M2 := M1.setCell (p := ⟨g, i * 8 + 2, none⟩) (Nat.le_refl _) hgH (.int .i64 ((r : Int) + 1 + 1))
      obtain ⟨v2, hv2⟩ : ∃ v2, v2 = v1.setCell ⟨g, i * 8 + 2, none⟩ (.int .i64 ((r : Int) + 1 + 1)) := ⟨_, rfl⟩
      rw [← hv2] at P2 M2
      clear hy2 P1 M1
      go_upto_region 10 with fail
      rw [← hv2]
      clear hv2 hq2 hf2
      obtain ⟨hy3, hf3⟩ := P2.row (i * 8 + 3) (by omega)
      obtain ⟨y3, hq3⟩ := Option.isSome_iff_exists.1 hy3
      have P3 := P2.set (k := i) (i := 3) (by omega) (.int .i64 ((r : Int) + 1 + 1 + 1))
      have M3 := M2.setCell (p := ⟨g, i * 8 + 3, none⟩) (Nat.le_refl _) hgH (.int .i64 ((r : Int) + 1 + 1 + 1))
      obtain ⟨v3, hv3⟩ : ∃ v3, v3 = v2.setCell ⟨g, i * 8 + 3, none⟩ (.int .i64 ((r : Int) + 1 + 1 + 1)) := ⟨_, rfl⟩
      rw [← hv3] at P3 M3
      clear hy3 P2 M2
      go_upto_region 12 with fail
      rw [← hv3]
      clear hv3 hq3 hf3
      obtain ⟨hy4, hf4⟩ := P3.row (i * 8 + 4) (by omega)
      obtain ⟨y4, hq4⟩ := Option.isSome_iff_exists.1 hy4
      have P4 := P3.set (k := i) (i := 4) (by omega) (.int .i64 ((r : Int) + 1 + 1 + 1 + 1))
      have M4 := M3.setCell (p := ⟨g, i * 8 + 4, none⟩) (Nat.le_refl _) hgH (.int .i64 ((r : Int) + 1 + 1 + 1 + 1))
      obtain ⟨v4, hv4⟩ : ∃ v4, v4 = v3.setCell ⟨g, i * 8 + 4, none⟩ (.int .i64 ((r : Int) + 1 + 1 + 1 + 1)) := ⟨_, rfl⟩
      rw [← hv4] at P4 M4
      clear hy4 P3 M3
      go_upto_region 14 with fail
      rw [← hv4]
      clear hv4 hq4 hf4
      obtain ⟨hy5, hf5⟩ := P4.row (i * 8 + 5) (by omega)
      obtain ⟨y5, hq5⟩ := Option.isSome_iff_exists.1 hy5
      have P5 := P4.set (k := i) (i := 5) (by omega) (.int .i64 ((r : Int) + 1 + 1 + 1 + 1 + 1))
      have M5 := M4.setCell (p := ⟨g, i * 8 + 5, none⟩) (Nat.le_refl _) hgH (.int .i64 ((r : Int) + 1 + 1 + 1 + 1 + 1))
      obtain ⟨v5, hv5⟩ : ∃ v5, v5 = v4.setCell ⟨g, i * 8 + 5, none⟩ (.int .i64 ((r : Int) + 1 + 1 + 1 + 1 + 1)) := ⟨_, rfl⟩
      rw [← hv5] at P5 M5
      clear hy5 P4 M4
      go_upto_region 16 with fail
      rw [← hv5]
      clear hv5 hq5 hf5
      have HP6 := hid P5
      have HM6 := hid M5
      clear P5 M5
      go_wp2_with fail
      rw [show ((r : Int) + 1 + 1 + 1 + 1 + 1 + 1) = ((r + 6 : Nat) : Int) by omega]
      refine (markText_any (r + 6) _ (by omega) (by omega)).mono ?_
      rintro e w7 ⟨rfl, hb7⟩
      have Q7 := HP6.out.below hb7
      have N7 := HM6.out.trans (Mid.of hb7)
      obtain ⟨hy6, hf6⟩ := Q7.row (i * 8 + 6) (by omega)
      obtain ⟨y6, hq6⟩ := Option.isSome_iff_exists.1 hy6
      have P7 := Q7.set (k := i) (i := 6) (by omega) (.string (mtx (r + 6)))
      have M7 := N7.setCell (p := ⟨g, i * 8 + 6, none⟩) (Nat.le_refl _) hgH (.string (mtx (r + 6)))
      obtain ⟨w8, hw8⟩ : ∃ w8, w8 = w7.setCell ⟨g, i * 8 + 6, none⟩ (.string (mtx (r + 6))) := ⟨_, rfl⟩
      rw [← hw8] at P7 M7
      clear hb7 HP6 HM6 Q7 N7 hy6
      go_upto_region 18 with fail
      rw [← hw8]
      clear hw8 hq6 hf6
      obtain ⟨b', n', hq7, hgb, hbH, hn', hir⟩ := P7.s7 i hlt
      go_wp2_with fail
      rw [show ((r : Int) + 6 + 1) = ((r + 7 : Nat) : Int) by omega]
      refine (markStringSH_any b' g H n n' n' (r + 7) _ (by omega) (by omega) hn' hgb hbH hir P7).mono ?_
      rintro e w9 ⟨rfl, P9, M9⟩
      have M10 := M7.trans M9
      clear M7 M9 P7 hir hq7
      go_wp2
      go_roundw
      case rel =>
        refine ⟨i + 1, by omega, by go_num, ⟨r + 7 + n', by go_num, by omega, ?_⟩, P9, M10⟩
        have := HR.out; omega
      case measure => simp [intOf]; omega
    · go_wp2
      go_ret
      exact ⟨⟨_, rfl, by omega, by omega⟩, hM⟩

/-- Messages that toMessageS has made may be marked. -/
theorem BuiltMs.shape {B : Nat} {w : World} {g n : Nat} {xs : List Value} {M : List MgD} (h : BuiltMs w g xs n M) (ho : OwnC B w 8 g 0 n n xs) (hl : M.length = n) (hsm : smallMs M) : ShM g w.heap.size n w where
  row := fun j hj => by have := ho.there j (by omega); rwa [Nat.zero_add] at this
  s7 := fun j hj => by
    obtain ⟨_, _, _, _, _, _, _, b', hn, h3⟩ := h j hj
    refine ⟨b', (gMs M j).ss.length, ?_, by have := h3.lo; omega, h3.hi, ?_, fun i hi => ?_⟩
    · have := ho.holds (j * 8 + 7) (by omega); rw [Nat.zero_add] at this; exact this.trans hn
    · have := (hsm j (by omega)).1; omega
    · have := h3.there i (by omega); rwa [Nat.zero_add] at this
end Go.Proofs.YtlgmkmegkojgbaaDoor
