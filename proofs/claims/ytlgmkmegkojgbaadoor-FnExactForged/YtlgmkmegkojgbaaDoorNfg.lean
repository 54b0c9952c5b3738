
/-
  spec.Forged, impl.Forged, the law FnExactForged's walk.
-/
import Derived.Test.YtlgmkmegkojgbaaDoorLawRead
import Derived.Test.YtlgmkmegkojgbaaDoorNpr
namespace Go.Proofs.YtlgmkmegkojgbaaDoor
open Go.RowKit

theorem Res.ok {s key : ByteArray} {k f t e l d : Int} {x : ByteArray} {ss : List ByteArray} {r : Bool} (h : Res s key k f t e l d x ss r) : r = true ↔ ¬ NoGood s key := by
  rcases h with ⟨rfl, hg⟩ | ⟨rfl, hn, _⟩
  · exact ⟨fun _ hh => hh ⟨_, _, _, _, _, _, _, _, hg⟩, fun _ => rfl⟩
  · exact ⟨fun h => (by cases h), fun h => absurd hn h⟩

/-- What is forged. -/
def FgP (x1 x2 key : ByteArray) : Prop := ¬ x2 = x1 ∧ ¬ NoGood x2 key
theorem sne {r s : ByteArray} (h : ¬ r = s) : (r.toList == s.toList) = false := beq_false_of_ne (fun hh => h (ba_eq (by rw [← ByteArray.toList_eq, ← ByteArray.toList_eq]; exact hh)))

set_option maxHeartbeats 1000000 in
set_option maxRecDepth 100000 in
theorem specForged_any (x0 : Int) (x1 x2 key : ByteArray) (w : World) (hk : key.size ≤ maxLen) (hm : x2.size ≤ 1048576) :
    Calls Tryd.prog 21 #[.agg #[.int .i64 x0, .string x1, .string x2], .string key] w fun e w' => RetB e (FgP x1 x2 key) ∧ Below w.heap.size w w' := by
  by_cases h : x2 = x1
  · subst h
    go_enter Tryd.func21, Tryd.ntmps21
    go_wp2
    go_ret
    exact ⟨RetB.f (fun hh => hh.1 rfl), (Below.refl _ _).alloc (Nat.le_refl _) _⟩
  · have h' := sne h
    have hb0 : Below w.heap.size w (w.alloc (.cells #[.int .i64 x0, .string x1, .string x2] 45)) := (Below.refl _ _).alloc (Nat.le_refl _) _
    go_enter Tryd.func21, Tryd.ntmps21
    go_wp2_with fail
    refine (specRead_any x2 key _ hk hm).mono ?_
    rintro e' w1 ⟨hret, hB1⟩
    obtain ⟨k, f, t, e, l, d, x, ss, a1, c1, r, rfl, hres, ho1⟩ := hret.view
    have HR := hid hres.ok
    have HN := hid h
    have hB := hb0.trans (hB1.mono hb0.size)
    have hB' := hB.alloc hB.size (.cells #[.int .i64 k, .int .i64 f, .int .i64 t, .int .i64 e, .int .i64 l, .int .i64 d, .string x, .slice a1 ss.length c1] 27)
    clear hret hres ho1 h h' hB1 hb0 hB
    cases r with
    | true =>
      have HP : FgP x1 x2 key := ⟨HN.out, HR.out.1 rfl⟩
      clear HR HN
      go_wp2
      go_ret
      exact ⟨RetB.t HP, hB'⟩
    | false =>
      have HP : ¬ FgP x1 x2 key := fun hh => absurd (HR.out.2 hh.2) (by simp)
      clear HR HN
      go_wp2
      go_ret
      exact ⟨RetB.f HP, hB'⟩

set_option maxHeartbeats 1000000 in
set_option maxRecDepth 100000 in
theorem implForged_any (x0 : Int) (x1 x2 key : ByteArray) (w : World) (hT : Tab w) (hE : ErrT w) (hk : key.size ≤ maxLen) (hm : x2.size ≤ maxLen) :
    Calls Tryd.prog 23 #[.agg #[.int .i64 x0, .string x1, .string x2], .string key] w fun e w' => RetB e (FgP x1 x2 key) ∧ Below w.heap.size w w' := by
  obtain ⟨W, hW⟩ : ∃ W, W = w.alloc (.cells #[.int .i64 x0, .string x1, .string x2] 45) := ⟨_, rfl⟩
  have hb0 : Below w.heap.size w W := by rw [hW]; exact (Below.refl _ _).alloc (Nat.le_refl _) _
  have hsW : W.heap.size = w.heap.size + 1 := by rw [hW]; simp
  have hA : CF W w.heap.size [.int .i64 x0, .string x1, .string x2] := by rw [hW]; exact CF.made w _ _
  have a1 : W.cell? ⟨w.heap.size, 1, none⟩ = some (.string x1) := (hA 1 (by simp)).1
  have a2 : W.cell? ⟨w.heap.size, 2, none⟩ = some (.string x2) := (hA 2 (by simp)).1
  have hE1 := hE.pos
  go_enter Tryd.func23, Tryd.ntmps23
  go_upto_region 1 with fail
  rw [← hW]
  clear hW
  go_wp2_with fail
  refine (implRead_any x2 key _ (hT.below hb0 hT.pos) (hE.below hb0 hE1) hk hm).mono ?_
  rintro e' w1 ⟨hret, hB1⟩
  obtain ⟨k, f, t, e, l, d, x, ss, a3, c3, r, rfl, hres, ho1⟩ := hret.view
  have HR := hid hres.ok
  have hB := hb0.trans (hB1.mono hb0.size)
  obtain ⟨w2, hw2⟩ : ∃ w2, w2 = w1.alloc (.cells #[.int .i64 k, .int .i64 f, .int .i64 t, .int .i64 e, .int .i64 l, .int .i64 d, .string x, .slice a3 ss.length c3] 27) := ⟨_, rfl⟩
  have hb2 : Below w1.heap.size w1 w2 := by rw [hw2]; exact (Below.refl _ _).alloc (Nat.le_refl _) _
  have hB2 := hB.trans (hb2.mono hB.size)
  have b1 : w2.cell? ⟨w.heap.size, 1, none⟩ = some (.string x1) := keepB hb2 (keepB hB1 a1)
  have b2 : w2.cell? ⟨w.heap.size, 2, none⟩ = some (.string x2) := keepB hb2 (keepB hB1 a2)
  clear hret hres ho1 hB1 hb0 hB hA a1 a2 hb2
  go_upto_region 2 with fail
  rw [← hw2]
  clear hw2
  cases r with
  | false =>
    have HP : ¬ FgP x1 x2 key := fun hh => absurd (HR.out.2 hh.2) (by simp)
    clear HR
    go_wp2
    go_ret
    exact ⟨RetB.f HP, hB2⟩
  | true =>
    by_cases h : x2 = x1
    · subst h
      go_wp2
      go_ret
      exact ⟨RetB.f (fun hh => hh.1 rfl), hB2⟩
    · have h' := sne h
      have HP : FgP x1 x2 key := ⟨h, HR.out.1 rfl⟩
      clear HR h
      go_wp2
      go_ret
      exact ⟨RetB.t HP, hB2⟩

theorem RetB.both {e e' : Ending} {p : Prop} (h : RetB e p) (h' : RetB e' p) : ∃ r : Bool, e = .returned (.bool r) ∧ e' = .returned (.bool r) := by
  obtain ⟨r, rfl, hr⟩ := h
  obtain ⟨r', rfl, hr'⟩ := h'
  refine ⟨r, rfl, ?_⟩
  rw [Bool.eq_iff_iff.2 (hr.trans hr'.symm)]

set_option maxHeartbeats 2000000 in
set_option maxRecDepth 100000 in
theorem fnExactForged_walk (x0 : Int) (x1 x2 key : ByteArray) (w : World) (hT : Tab w) (hE : ErrT w) (hs1 : x1.size ≤ maxLen) (hs2 : x2.size ≤ maxLen) (hk : key.size ≤ maxLen) :
    Calls Tryd.prog 6 #[.agg #[.int .i64 x0, .string x1, .string x2], .string key] w fun e' w' => e' = .returned (.bool true) ∧ Below w.heap.size w w' := by
  have hk63 := hk
  unfold maxLen at hk63
  have hE1 := hE.pos
  obtain ⟨W, hW⟩ : ∃ W, W = w.alloc (.cells #[.int .i64 x0, .string x1, .string x2] 42) := ⟨_, rfl⟩
  have hb0 : Below w.heap.size w W := by rw [hW]; exact (Below.refl _ _).alloc (Nat.le_refl _) _
  have hA : CF W w.heap.size [.int .i64 x0, .string x1, .string x2] := by rw [hW]; exact CF.made w _ _
  have a0 : W.cell? ⟨w.heap.size, 0, none⟩ = some (.int .i64 x0) := (hA 0 (by simp)).1
  have a1 : W.cell? ⟨w.heap.size, 1, none⟩ = some (.string x1) := (hA 1 (by simp)).1
  have a2 : W.cell? ⟨w.heap.size, 2, none⟩ = some (.string x2) := (hA 2 (by simp)).1
  by_cases h2 : 1048576 < key.size
  · have h2' : (1048576 : Int) < (key.size : Int) := by omega
    go_enter Tryd.func6, Tryd.ntmps6
    go_upto_region 1 with fail
    rw [← hW]
    clear hW
    go_wp2
    go_ret
    exact ⟨rfl, hb0⟩
  have h2' : ¬ (1048576 : Int) < (key.size : Int) := by omega
  go_enter Tryd.func6, Tryd.ntmps6
  go_upto_region 1 with fail
  rw [← hW]
  clear hW hA
  go_wp2_with fail
  refine (szParcel_any x0 x1 x2 1048576 _ (by omega) (by omega) hs1 hs2).mono ?_
  rintro e v1 ⟨⟨r, rfl, hr⟩, hb1⟩
  have B1 := hb0.trans (hb1.mono hb0.size)
  rcases hr with rfl | ⟨hr0, hr1, _, hm⟩
  · go_wp2
    go_ret
    exact ⟨rfl, B1⟩
  have c0 := keepB hb1 a0
  have c1 := keepB hb1 a1
  have c2 := keepB hb1 a2
  clear hb0 hb1 a0 a1 a2
  go_wp2_with fail
  refine (toParcel_any x0 x1 x2 _).mono ?_
  rintro e v2 ⟨rfl, hb2⟩
  have B2 := B1.trans (hb2.mono B1.size)
  have d0 := keepB hb2 c0
  have d1 := keepB hb2 c1
  have d2 := keepB hb2 c2
  clear B1 hb2 c0 c1 c2
  go_wp2_with fail
  refine (specForged_any x0 x1 x2 key _ hk hm).mono ?_
  rintro e v3 ⟨hret, hb3⟩
  have B3 := B2.trans (hb3.mono B2.size)
  have e0 := keepB hb3 d0
  have e1 := keepB hb3 d1
  have e2 := keepB hb3 d2
  obtain ⟨r3, rfl, hr3⟩ := hret
  have HR := hid hr3
  clear B2 hb3 d0 d1 d2 hr3
  go_wp2_with fail
  refine (toParcel_any x0 x1 x2 _).mono ?_
  rintro e v4 ⟨rfl, hb4⟩
  have B4 := B3.trans (hb4.mono B3.size)
  clear B3 hb4 e0 e1 e2
  go_wp2_with fail
  refine (implForged_any x0 x1 x2 key _ (hT.below B4 hT.pos) (hE.below B4 hE1) hk hs2).mono ?_
  rintro e v5 ⟨⟨r5, rfl, hr5⟩, hb5⟩
  have B5 := B4.trans (hb5.mono B4.size)
  obtain rfl : r5 = r3 := Bool.eq_iff_iff.2 (hr5.trans HR.out.symm)
  clear B4 hb5 hr5
  cases r5 <;> (go_wp2; go_ret; exact ⟨rfl, B5⟩)
end Go.Proofs.YtlgmkmegkojgbaaDoor
