import Derived.Test.YthopfmhagddhgaaGreatQNum
import Derived.Test.YthopfmhagddhgaaGreatQCel
import Derived.Deep.DeepCutAuto
namespace Go.Proofs.YthopfmhagddhgaaGreat
open Go.RowKit

def toB (ns : List Int) : List UInt8 := ns.map fun z => UInt8.ofNat z.toNat
theorem byteCells_toB (ns : List Int) (h : ∀ z ∈ ns, 0 ≤ z ∧ z < 256) : Lib.byteCells (toB ns) = ns.map (Value.int .u8) := by
  unfold Lib.byteCells toB
  rw [List.map_map]
  refine List.map_congr_left fun z hz => ?_
  have := h z hz
  simp only [Function.comp]
  congr 1
  rw [UInt8.toNat_ofNat_of_lt' (by simp [UInt8.size]; omega)]
  omega
theorem cells_toB (ns : List Int) (h : ∀ z ∈ ns, 0 ≤ z ∧ z < 256) : (bN (toB ns)) = ns := by
  unfold bN toB
  rw [List.map_map]
  conv => rhs; rw [← List.map_id ns]
  refine List.map_congr_left fun z hz => ?_
  have := h z hz
  simp only [Function.comp, id]
  rw [UInt8.toNat_ofNat_of_lt' (by simp [UInt8.size]; omega)]
  omega
theorem bN_append (l r : List UInt8) : bN (l ++ r) = bN l ++ bN r := by simp [bN]
end Go.Proofs.YthopfmhagddhgaaGreat

namespace Go.Proofs.YthopfmhagddhgaaGreat
open Go.RowKit

/-- A valid entry. -/
def vE (k e d : Int) (z : Nat) : Prop := (k = 1 ∧ 1 ≤ e ∧ e ≤ 300 ∧ d = 0 ∧ z = 0) ∨ (k = 2 ∧ 1 ≤ e ∧ e ≤ 300 ∧ 0 ≤ d ∧ d ≤ 39 ∧ z = 8)
theorem sz8_t {x : ByteArray} (h : ((x.size : Int) == 8) = true) : x.size = 8 := by
  have h1 : (x.size : Int) = 8 := by simpa using h
  omega
theorem sz8_f {x : ByteArray} (h : ((x.size : Int) == 8) = false) : ¬ x.size = 8 := fun hh => by rw [hh] at h; simp at h
theorem sz0_t {x : ByteArray} (h : x.toList.isEmpty = true) : x.size = 0 := Decidable.byContradiction fun hh => by rw [empty_f hh] at h; cases h
theorem sz0_f {x : ByteArray} (h : x.toList.isEmpty = false) : ¬ x.size = 0 := fun hh => by rw [empty_t hh] at h; cases h

set_option maxRecDepth 100000 in
set_option maxHeartbeats 2000000 in
theorem l4Ok_any (k e d : Int) (x : ByteArray) (w : World) :
    Calls Tryz.prog 136 #[.agg #[.int .i64 k, .int .i64 e, .int .i64 d, .string x]] w fun e' w' => RetB e' (vE k e d x.size) ∧ Below w.heap.size w w' := by
  have hb0 : Below w.heap.size w (w.alloc (.cells #[.int .i64 k, .int .i64 e, .int .i64 d, .string x] 135)) := (Below.refl _ _).alloc (Nat.le_refl _) _
  cases hE : inB e 1 300 with
  | false =>
    have GhE := hid (inB_f hE)
    go_enter Tryz.func136, Tryz.ntmps136
    go_wp2_with (first | (go_at_call 30; refine (l2In_any _ _ _ _).mono ?_; rintro e' w' ⟨rfl, rfl⟩))
    go_ret
    refine ⟨RetB.f fun hv => ?_, hb0⟩; unfold vE at hv; have := GhE.out; omega
  | true =>
    have GhE := hid (inB_t hE)
    cases hD : inB d 0 39 with
    | false =>
      have GhD := hid (inB_f hD)
      go_enter Tryz.func136, Tryz.ntmps136
      go_wp2_with (first | (go_at_call 30; refine (l2In_any _ _ _ _).mono ?_; rintro e' w' ⟨rfl, rfl⟩))
      go_ret
      refine ⟨RetB.f fun hv => ?_, hb0⟩; unfold vE at hv; have := GhD.out; omega
    | true =>
      have GhD := hid (inB_t hD)
      cases hK : (k == 1) with
      | false =>
        have GhK := hid (show ¬ k = 1 by simpa using hK)
        cases hJ : (k == 2) with
        | false =>
          have GhJ := hid (show ¬ k = 2 by simpa using hJ)
          go_enter Tryz.func136, Tryz.ntmps136
          go_wp2_with (first | (go_at_call 30; refine (l2In_any _ _ _ _).mono ?_; rintro e' w' ⟨rfl, rfl⟩))
          go_ret
          refine ⟨RetB.f fun hv => ?_, hb0⟩; unfold vE at hv; have := GhK.out; have := GhJ.out; omega
        | true =>
          have GhJ := hid (show k = 2 by simpa using hJ)
          have hk := GhJ.out
          subst hk
          cases hX : ((x.size : Int) == 8) with
          | false =>
            have GhX := hid (sz8_f hX)
            go_enter Tryz.func136, Tryz.ntmps136
            go_wp2_with (first | (go_at_call 30; refine (l2In_any _ _ _ _).mono ?_; rintro e' w' ⟨rfl, rfl⟩))
            go_ret
            refine ⟨RetB.f fun hv => ?_, hb0⟩; unfold vE at hv; have := GhX.out; omega
          | true =>
            have GhX := hid (sz8_t hX)
            go_enter Tryz.func136, Tryz.ntmps136
            go_wp2_with (first | (go_at_call 30; refine (l2In_any _ _ _ _).mono ?_; rintro e' w' ⟨rfl, rfl⟩))
            go_ret
            refine ⟨RetB.t ?_, hb0⟩; unfold vE; have := GhX.out; have := GhE.out; have := GhD.out; omega
      | true =>
        have GhK := hid (show k = 1 by simpa using hK)
        have hk := GhK.out
        subst hk
        cases hZ : (d == 0) with
        | false =>
          have GhZ := hid (show ¬ d = 0 by simpa using hZ)
          go_enter Tryz.func136, Tryz.ntmps136
          go_wp2_with (first | (go_at_call 30; refine (l2In_any _ _ _ _).mono ?_; rintro e' w' ⟨rfl, rfl⟩))
          go_ret
          refine ⟨RetB.f fun hv => ?_, hb0⟩; unfold vE at hv; have := GhZ.out; omega
        | true =>
          have GhZ := hid (show d = 0 by simpa using hZ)
          have hz := GhZ.out
          subst hz
          by_cases hX : x.size = 0
          · have hX' := empty_t hX
            have GhX := hid hX
            clear hX
            go_enter Tryz.func136, Tryz.ntmps136
            go_wp2_with (first | (go_at_call 30; refine (l2In_any _ _ _ _).mono ?_; rintro e' w' ⟨rfl, rfl⟩))
            go_ret
            refine ⟨RetB.t ?_, hb0⟩; unfold vE; have := GhX.out; have := GhE.out; have := GhD.out; omega
          · have hX' := empty_f hX
            have GhX := hid hX
            clear hX
            go_enter Tryz.func136, Tryz.ntmps136
            go_wp2_with (first | (go_at_call 30; refine (l2In_any _ _ _ _).mono ?_; rintro e' w' ⟨rfl, rfl⟩))
            go_ret
            refine ⟨RetB.f fun hv => ?_, hb0⟩; unfold vE at hv; have := GhX.out; omega

set_option maxRecDepth 100000 in
set_option maxHeartbeats 2000000 in
theorem validEntry_any (k e d : Int) (x : ByteArray) (w : World) :
    Calls Tryz.prog 142 #[.agg #[.int .i64 k, .int .i64 e, .int .i64 d, .string x]] w fun e' w' => RetB e' (vE k e d x.size) ∧ Below w.heap.size w w' := by
  have hb0 : Below w.heap.size w (w.alloc (.cells #[.int .i64 k, .int .i64 e, .int .i64 d, .string x] 135)) := (Below.refl _ _).alloc (Nat.le_refl _) _
  cases hK : (k == 2) with
  | false =>
    have GhK := hid (show ¬ k = 2 by simpa using hK)
    cases hJ : (k == 1) with
    | false =>
      have GhJ := hid (show ¬ k = 1 by simpa using hJ)
      go_enter Tryz.func142, Tryz.ntmps142
      go_wp2_with (first | (go_at_call 30; refine (l2In_any _ _ _ _).mono ?_; rintro e' w' ⟨rfl, rfl⟩))
      go_ret
      refine ⟨RetB.f fun hv => ?_, hb0⟩; unfold vE at hv; have := GhK.out; have := GhJ.out; omega
    | true =>
      have GhJ := hid (show k = 1 by simpa using hJ)
      have hk := GhJ.out
      subst hk
      cases hE : inB e 1 300 with
      | false =>
        have GhE := hid (inB_f hE)
        go_enter Tryz.func142, Tryz.ntmps142
        go_wp2_with (first | (go_at_call 85; refine (within_any _ _ _ _).mono ?_; rintro e' w' ⟨rfl, rfl⟩) | (go_at_call 120; refine (taskHolds_f _ _ _ hD).mono ?_; rintro e' w' ⟨rfl, rfl⟩) | (go_at_call 121; refine (textHolds_f _ _ _ hX).mono ?_; rintro e' w' ⟨rfl, rfl⟩))
        go_ret
        refine ⟨RetB.f fun hv => ?_, hb0⟩; unfold vE at hv; have := GhE.out; omega
      | true =>
        have GhE := hid (inB_t hE)
        cases hD : (d == 0) with
        | false =>
          have GhD := hid (show ¬ d = 0 by simpa using hD)
          go_enter Tryz.func142, Tryz.ntmps142
          go_wp2_with (first | (go_at_call 85; refine (within_any _ _ _ _).mono ?_; rintro e' w' ⟨rfl, rfl⟩) | (go_at_call 120; refine (taskHolds_f _ _ _ hD).mono ?_; rintro e' w' ⟨rfl, rfl⟩) | (go_at_call 121; refine (textHolds_f _ _ _ hX).mono ?_; rintro e' w' ⟨rfl, rfl⟩))
          go_ret
          refine ⟨RetB.f fun hv => ?_, hb0⟩; unfold vE at hv; have := GhD.out; omega
        | true =>
          have GhD := hid (show d = 0 by simpa using hD)
          cases hX : x.toList.isEmpty with
          | false =>
            have GhX := hid (sz0_f hX)
            go_enter Tryz.func142, Tryz.ntmps142
            go_wp2_with (first | (go_at_call 85; refine (within_any _ _ _ _).mono ?_; rintro e' w' ⟨rfl, rfl⟩) | (go_at_call 120; refine (taskHolds_f _ _ _ hD).mono ?_; rintro e' w' ⟨rfl, rfl⟩) | (go_at_call 121; refine (textHolds_f _ _ _ hX).mono ?_; rintro e' w' ⟨rfl, rfl⟩))
            go_ret
            refine ⟨RetB.f fun hv => ?_, hb0⟩; unfold vE at hv; have := GhX.out; omega
          | true =>
            have GhX := hid (sz0_t hX)
            go_enter Tryz.func142, Tryz.ntmps142
            go_wp2_with (first | (go_at_call 85; refine (within_any _ _ _ _).mono ?_; rintro e' w' ⟨rfl, rfl⟩) | (go_at_call 120; refine (taskHolds_f _ _ _ hD).mono ?_; rintro e' w' ⟨rfl, rfl⟩) | (go_at_call 121; refine (textHolds_f _ _ _ hX).mono ?_; rintro e' w' ⟨rfl, rfl⟩))
            go_ret
            refine ⟨RetB.t ?_, hb0⟩; unfold vE; have := GhX.out; have := GhE.out; have := GhD.out; omega
  | true =>
    have GhK := hid (show k = 2 by simpa using hK)
    have hk := GhK.out
    subst hk
    cases hE : inB e 1 300 with
    | false =>
      have GhE := hid (inB_f hE)
      go_enter Tryz.func142, Tryz.ntmps142
      go_wp2_with (first | (go_at_call 85; refine (within_any _ _ _ _).mono ?_; rintro e' w' ⟨rfl, rfl⟩) | (go_at_call 120; refine (taskHolds_t _ _ _ hD).mono ?_; rintro e' w' ⟨rfl, rfl⟩) | (go_at_call 121; refine (textHolds_t _ _ _ hX).mono ?_; rintro e' w' ⟨rfl, rfl⟩))
      go_ret
      refine ⟨RetB.f fun hv => ?_, hb0⟩; unfold vE at hv; have := GhE.out; omega
    | true =>
      have GhE := hid (inB_t hE)
      cases hD : inB d 0 39 with
      | false =>
        have GhD := hid (inB_f hD)
        go_enter Tryz.func142, Tryz.ntmps142
        go_wp2_with (first | (go_at_call 85; refine (within_any _ _ _ _).mono ?_; rintro e' w' ⟨rfl, rfl⟩) | (go_at_call 120; refine (taskHolds_t _ _ _ hD).mono ?_; rintro e' w' ⟨rfl, rfl⟩) | (go_at_call 121; refine (textHolds_t _ _ _ hX).mono ?_; rintro e' w' ⟨rfl, rfl⟩))
        go_ret
        refine ⟨RetB.f fun hv => ?_, hb0⟩; unfold vE at hv; have := GhD.out; omega
      | true =>
        have GhD := hid (inB_t hD)
        cases hX : ((x.size : Int) == 8) with
        | false =>
          have GhX := hid (sz8_f hX)
          go_enter Tryz.func142, Tryz.ntmps142
          go_wp2_with (first | (go_at_call 85; refine (within_any _ _ _ _).mono ?_; rintro e' w' ⟨rfl, rfl⟩) | (go_at_call 120; refine (taskHolds_t _ _ _ hD).mono ?_; rintro e' w' ⟨rfl, rfl⟩) | (go_at_call 121; refine (textHolds_t _ _ _ hX).mono ?_; rintro e' w' ⟨rfl, rfl⟩))
          go_ret
          refine ⟨RetB.f fun hv => ?_, hb0⟩; unfold vE at hv; have := GhX.out; omega
        | true =>
          have GhX := hid (sz8_t hX)
          go_enter Tryz.func142, Tryz.ntmps142
          go_wp2_with (first | (go_at_call 85; refine (within_any _ _ _ _).mono ?_; rintro e' w' ⟨rfl, rfl⟩) | (go_at_call 120; refine (taskHolds_t _ _ _ hD).mono ?_; rintro e' w' ⟨rfl, rfl⟩) | (go_at_call 121; refine (textHolds_t _ _ _ hX).mono ?_; rintro e' w' ⟨rfl, rfl⟩))
          go_ret
          refine ⟨RetB.t ?_, hb0⟩; unfold vE; have := GhX.out; have := GhE.out; have := GhD.out; omega
end Go.Proofs.YthopfmhagddhgaaGreat

namespace Go.Proofs.YthopfmhagddhgaaGreat
open Go.RowKit

/-- The bytes of an entry. -/
def entN (k e d : Int) : List Int := [k % 256, e / 256 % 256, e % 256, d % 256]
def entL (k e d : Int) (x : ByteArray) : List UInt8 := toB (entN k e d) ++ x.data.toList
def entS (k e d : Int) (x : ByteArray) : ByteArray := ⟨(entL k e d x).toArray⟩
theorem entN_range (k e d : Int) : ∀ z ∈ entN k e d, 0 ≤ z ∧ z < 256 := by
  intro z hz
  simp only [entN, List.mem_cons, List.not_mem_nil, or_false] at hz
  rcases hz with rfl | rfl | rfl | rfl <;> omega
theorem entL_length (k e d : Int) (x : ByteArray) : (entL k e d x).length = 4 + x.size := by
  simp only [entL, toB, entN, List.length_append, List.length_map, List.length_cons, List.length_nil, Array.length_toList]
  rfl
/-- What an entry is written as. -/
def IsEnt (k e d : Int) (x : ByteArray) (r : ByteArray) : Prop := (vE k e d x.size ∧ r = entS k e d x) ∨ (¬ vE k e d x.size ∧ r = ⟨#[]⟩)
theorem IsEnt.uniq {k e d : Int} {x r r' : ByteArray} (h : IsEnt k e d x r) (h' : IsEnt k e d x r') : r = r' := by
  rcases h with ⟨h1, rfl⟩ | ⟨h1, rfl⟩ <;> rcases h' with ⟨g1, rfl⟩ | ⟨g1, rfl⟩
  · rfl
  · exact absurd h1 g1
  · exact absurd g1 h1
  · rfl
theorem vE_rng {k e d : Int} {z : Nat} (h : vE k e d z) : 0 ≤ e ∧ e ≤ 300 ∧ 0 ≤ d ∧ d ≤ 39 ∧ z ≤ 8 := by unfold vE at h; omega
theorem ba_ext {a b : ByteArray} (h : a.data.toList = b.data.toList) : a = b := by
  cases a; cases b; simpa using h
theorem str_add (ns : List Int) (x : ByteArray) (h : ∀ z ∈ ns, 0 ≤ z ∧ z < 256) : strOfNums ns ++ x = ⟨(toB ns ++ x.data.toList).toArray⟩ := by
  have h1 := strOf_bN (toB ns)
  rw [cells_toB ns h] at h1
  rw [h1]
  refine ba_ext ?_
  simp

set_option maxHeartbeats 1000000 in
set_option maxRecDepth 100000 in
theorem specEnt_any (k e d : Int) (x : ByteArray) (w : World) :
    Calls Tryz.prog 125 #[.agg #[.int .i64 k, .int .i64 e, .int .i64 d, .string x]] w fun e' w' => (∃ r, e' = .returned (.string r) ∧ IsEnt k e d x r) ∧ Below w.heap.size w w' := by
  obtain ⟨W, hW⟩ : ∃ W, W = w.alloc (.cells #[.int .i64 k, .int .i64 e, .int .i64 d, .string x] 135) := ⟨_, rfl⟩
  have hsW : W.heap.size = w.heap.size + 1 := by rw [hW]; simp
  have hbW : Below w.heap.size w W := by rw [hW]; exact (Below.refl _ _).alloc (Nat.le_refl _) _
  have hMC : MC W w.heap.size [.int .i64 k, .int .i64 e, .int .i64 d, .string x] := by rw [hW]; exact MC.made w _ _
  have HM := hid hMC
  clear hMC
  go_enter Tryz.func125, Tryz.ntmps125
  go_wp2_with fail
  rw [← hW]
  refine (l4Ok_any k e d x _).mono ?_
  rintro e' w1 ⟨⟨r, rfl, hr⟩, hb1⟩
  clear hW
  have hB1 := hbW.trans (hb1.mono (by omega))
  cases r with
  | false =>
    have HV : Hid (¬ vE k e d x.size) := fun hv => by have := hr.2 hv; cases this
    clear hr
    go_wp2
    go_ret
    exact ⟨⟨_, rfl, .inr ⟨HV.out, rfl⟩⟩, hB1⟩
  | true =>
    have HV : Hid (vE k e d x.size) := hr.1 rfl
    obtain ⟨he0, he1, hd0, hd1, hz⟩ := vE_rng HV.out
    have HZ := hid hz
    clear hr hz
    have hm1 := MC.below HM.out hb1 (by omega)
    have c0 : w1.cell? ⟨w.heap.size, 0, none⟩ = some (.int .i64 k) := hm1 0 (by simp)
    have c1 : w1.cell? ⟨w.heap.size, 1, none⟩ = some (.int .i64 e) := hm1 1 (by simp)
    have c2 : w1.cell? ⟨w.heap.size, 2, none⟩ = some (.int .i64 d) := hm1 2 (by simp)
    have c3 : w1.cell? ⟨w.heap.size, 3, none⟩ = some (.string x) := hm1 3 (by simp)
    have hlt : w.heap.size < w1.heap.size := by have := hB1.size; have := hb1.size; omega
    clear hm1
    have hcell : ∀ i, i < 4 → (w1.alloc (.cells #[.int .u8 (k % 256), .int .u8 (e / 256), .int .u8 (e % 256), .int .u8 d] 5)).cell? ⟨w1.heap.size, 0 + i, none⟩ = some (.int .u8 ((entN k e d).getD i 0)) := by
      intro i hi
      have h1 : e / 256 % 256 = e / 256 := by omega
      have h2 : d % 256 = d := by omega
      rw [Nat.zero_add, show (w1.alloc (.cells #[.int .u8 (k % 256), .int .u8 (e / 256), .int .u8 (e % 256), .int .u8 d] 5)).cell? ⟨w1.heap.size, i, none⟩ = #[Value.int .u8 (k % 256), .int .u8 (e / 256), .int .u8 (e % 256), .int .u8 d][i]? from World.cell?_alloc_mark w1 _ _ (0, 0) i]
      unfold entN
      rw [h1, h2]
      match i, hi with
      | 0, _ => rfl
      | 1, _ => rfl
      | 2, _ => rfl
      | 3, _ => rfl
    have HC := hid hcell
    clear hcell
    go_wp2
    rw [run_convert_bytes_arg (P := Tryz.prog) _ 180 5 Tryz.underlying180 Tryz.underlying5 w1.heap.size 0 4 4 (entN k e d) rfl HC.out 9 Tryz.underlying9]
    have hzs : (strOfNums (entN k e d)).size = 4 := by simp [strOfNums_size, entN]
    have HS : Hid (strOfNums (entN k e d) ++ x = entS k e d x) := str_add _ x (entN_range k e d)
    obtain ⟨bs, hbs⟩ : ∃ bs, bs = strOfNums (entN k e d) := ⟨_, rfl⟩
    rw [← hbs] at hzs HS ⊢
    clear hbs
    have hz := HZ.out
    simp only [Result.andThen]
    rw [Oper.upon_value]
    go_wp2
    go_ret
    exact ⟨⟨_, rfl, .inl ⟨HV.out, HS.out⟩⟩, hB1.alloc (by omega) _⟩

end Go.Proofs.YthopfmhagddhgaaGreat
