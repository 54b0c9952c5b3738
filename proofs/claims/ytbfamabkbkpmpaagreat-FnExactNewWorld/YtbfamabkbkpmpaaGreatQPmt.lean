import Derived.Test.YtbfamabkbkpmpaaGreatQPlp
import Derived.Test.YtbfamabkbkpmpaaGreatQMark
import Derived.Test.YtbfamabkbkpmpaaGreatQBmb
namespace Go.Proofs.YtbfamabkbkpmpaaGreat
open Go.RowKit

def mki (k n : Nat) : List Int := (List.range n).map fun (i : Nat) => (k : Int) + i
theorem mki_length (k n : Nat) : (mki k n).length = n := by simp [mki]
theorem mki_get (k : Nat) {i n : Nat} (h : i < n) : (mki k n).getD i 0 = (k : Int) + i := by simp [mki, List.getD, h]
theorem mki_succ (k n : Nat) : mki k (n + 1) = mki k n ++ [(k : Int) + n] := by unfold mki; rw [List.range_succ, List.map_append]; rfl
theorem mki_set (k : Nat) {i n : Nat} {xs : List Value} (hi : i < n) (hl : xs.length = n) : ((mki k i).map (Value.int .i64) ++ xs.drop i).set i (.int .i64 ((k : Int) + i)) = (mki k (i + 1)).map (Value.int .i64) ++ xs.drop (i + 1) := by
  have e0 : i - ((mki k i).map (Value.int .i64)).length = 0 := by simp [mki_length]
  rw [List.set_append_right _ _ (by simp [mki_length]), e0, mki_succ, List.map_append]
  have e : xs.drop i = xs[i]'(by omega) :: xs.drop (i + 1) := List.drop_eq_getElem_cons (by omega)
  rw [e, List.set_cons_zero, List.append_assoc]
  rfl
theorem mki_rng (k n : Nat) (hk : k ≤ 2199023255552) (hn : n ≤ 1048576) : ∀ x ∈ mki k n, I64 x := by
  intro x hx
  simp only [mki, List.mem_map, List.mem_range] at hx
  obtain ⟨i, hi, rfl⟩ := hx
  exact ⟨by omega, by omega⟩
set_option maxHeartbeats 1000000 in
theorem markIntS_c (g o cap n c k : Nat) (B : Nat) (xs : List Value) (w : World) (h2 : k ≤ 2199023255552) (hn : n ≤ 1048576) (h : OwnC B w 1 g o cap n xs) :
    Calls Tryz.prog 97 #[.slice (some ⟨g, o, none⟩) n c, .int .i64 k] w fun e w' => e = .returned (.int .i64 ((k : Int) + n)) ∧ OwnC B w' 1 g o cap n ((mki k n).map (Value.int .i64)) ∧ w.grownBy w' (some g) := by
  go_enter Tryz.func97, Tryz.ntmps97
  go_wp2
  go_loopw [1, 5] (fun kv x wr => ∃ i : Nat, i ≤ n ∧ x = .int .i64 i ∧ kv = .int .i64 ((k : Int) + i) ∧ OwnC B wr 1 g o cap n ((mki k i).map (Value.int .i64) ++ xs.drop i) ∧ w.grownBy wr (some g)) (fun _ x _ => n - (intOf x).toNat)
  case atStart => exact ⟨0, Nat.zero_le _, rfl, by simp, by simpa [mki] using h, World.grownBy.refl w _⟩
  case round =>
    obtain ⟨i, hi, rfl, rfl, ho, hg⟩ := hrel
    by_cases hlt : i < n
    · have hlt' : (i : Int) < (n : Int) := by omega
      obtain ⟨u0, _, hq0⟩ := ho.cellSome (j := i) (by omega)
      have hf0 := ho.notFrozen (j := i) (by omega)
      have ho2 := ho.setCell (j := i) (by omega) (.int .i64 ((k : Int) + i))
      rw [mki_set k hlt (by have := h.len; omega)] at ho2
      have hg2 : w.grownBy (wr.setCell ⟨g, o + i, none⟩ (.int .i64 ((k : Int) + i))) (some g) := gset hg (o + i) _
      clear ho hg
      go_wp2
      go_roundw
      case rel => exact ⟨i + 1, by omega, by go_num, by go_num, ho2, hg2⟩
      case measure => simp [intOf]; omega
    · obtain rfl : i = n := by omega
      rw [List.drop_of_length_le (by have := h.len; omega), List.append_nil] at ho
      go_wp2
      go_ret
      exact ⟨rfl, ho, hg⟩
set_option maxHeartbeats 1000000 in
theorem markIntS_nil (k : Nat) (w : World) :
    Calls Tryz.prog 97 #[.slice none 0 0, .int .i64 k] w fun e w' => e = .returned (.int .i64 (k : Int)) ∧ w' = w := by
  go_enter Tryz.func97, Tryz.ntmps97
  go_wp2
  go_loop [1, 5] (fun kv x => x = .int .i64 0 ∧ kv = .int .i64 k) (fun _ _ => 0)
  case atStart => exact ⟨rfl, rfl⟩
  case round =>
    obtain ⟨rfl, rfl⟩ := hrel
    go_wp2
    go_ret
    exact ⟨rfl, rfl⟩
/-- A list of numbers of a call's own is marked. -/
theorem markIntS_own (v : Value) (n k : Nat) (B : Nat) (xs : List Value) (w : World) (h2 : k ≤ 2199023255552) (hn : n ≤ 1048576) (h : Own B w 1 v n xs) :
    Calls Tryz.prog 97 #[v, .int .i64 k] w fun e w' => e = .returned (.int .i64 ((k : Int) + n)) ∧ Own B w' 1 v n ((mki k n).map (Value.int .i64)) ∧ w.grownBy w' v.ownBlock := by
  rcases h with ⟨rfl, rfl, rfl⟩ | ⟨g, o, cap, rfl, hc⟩
  · refine (markIntS_nil k w).mono ?_
    rintro e w' ⟨rfl, rfl⟩
    exact ⟨by simp, .inl ⟨rfl, rfl, rfl⟩, World.grownBy.refl _ _⟩
  · refine (markIntS_c g o cap n cap k B xs w h2 hn hc).mono ?_
    rintro e w' ⟨rfl, ho, hg⟩
    exact ⟨rfl, .inr ⟨g, o, cap, rfl, ho⟩, hg⟩
set_option maxHeartbeats 1000000 in
theorem heldIntS_any (a : Option Addr) (b o n c k : Nat) (w : World) (h2 : k ≤ 2199023255552) (hn : n ≤ 1048576) (h : IntsAt w a b o n (mki k n)) :
    Calls Tryz.prog 124 #[.slice a n c, .int .i64 k] w fun e w' => e = .returned (.int .i64 ((k : Int) + n)) ∧ Below w.heap.size w w' := by
  go_enter Tryz.func124, Tryz.ntmps124
  go_wp2
  go_loopw [1, 5] (fun kv x wr => ∃ i : Nat, i ≤ n ∧ x = .int .i64 i ∧ kv = .int .i64 ((k : Int) + i) ∧ Below w.heap.size w wr) (fun _ x _ => n - (intOf x).toNat)
  case atStart => exact ⟨0, Nat.zero_le _, rfl, by simp, Below.refl _ _⟩
  case round =>
    obtain ⟨i, hi, rfl, rfl, hb⟩ := hrel
    by_cases hlt : i < n
    · have hlt' : (i : Int) < (n : Int) := by omega
      obtain rfl := h.ad (by omega)
      have hc := (h.below' hb).cell i hlt
      rw [mki_get k hlt] at hc
      go_wp2
      go_roundw
      case rel => exact ⟨i + 1, by omega, by go_num, by go_num, hb⟩
      case measure => simp [intOf]; omega
    · obtain rfl : i = n := by omega
      go_wp2
      go_ret
      exact ⟨rfl, hb⟩
end Go.Proofs.YtbfamabkbkpmpaaGreat

namespace Go.Proofs.YtbfamabkbkpmpaaGreat
open Go.RowKit

/-- The numbers of a plan's marks. -/
def kAt (k : Nat) (ts : List TaskD) : Nat → Nat
  | 0 => k
  | i + 1 => kAt k ts i + 2 + (ts.getD i dT).deps.length
theorem kAt_le (k : Nat) (ts : List TaskD) : ∀ i, i ≤ ts.length → k ≤ kAt k ts i ∧ kAt k ts i ≤ k + 2 * i + tssz (ts.take i)
  | 0, _ => ⟨Nat.le_refl _, Nat.le_add_right _ _⟩
  | i + 1, h => by
    have ih := kAt_le k ts i (by omega)
    rw [takeT_snoc (show i < ts.length by omega), tssz_snoc]
    simp only [kAt, tsz]
    omega
theorem kAt_max (k : Nat) (ts : List TaskD) {i : Nat} (h : i ≤ ts.length) : k ≤ kAt k ts i ∧ kAt k ts i ≤ k + 2 * ts.length + tssz ts := by
  have h1 := kAt_le k ts i h
  have h2 := tssz_take_le ts i
  omega
def mkt (k : Nat) (ts : List TaskD) (j : Nat) : TaskD := ⟨mtx (kAt k ts j), (kAt k ts j : Int) + 1, mki (kAt k ts j + 2) (ts.getD j dT).deps.length⟩
def mkTs (k : Nat) (ts : List TaskD) (i : Nat) : List TaskD := (List.range ts.length).map fun j => if j < i then mkt k ts j else ts.getD j dT
theorem mkTs_length (k : Nat) (ts : List TaskD) (i : Nat) : (mkTs k ts i).length = ts.length := by simp [mkTs]
theorem mkTs_get (k : Nat) (ts : List TaskD) (i : Nat) {j : Nat} (hj : j < ts.length) : (mkTs k ts i).getD j dT = if j < i then mkt k ts j else ts.getD j dT := by simp [mkTs, List.getD, hj]
theorem extT {xs ys : List TaskD} (hl : xs.length = ys.length) (h : ∀ j, j < xs.length → xs.getD j dT = ys.getD j dT) : xs = ys := by
  refine List.ext_getElem hl fun j h1 h2 => ?_
  have := h j h1
  simpa [List.getD, List.getElem?_eq_getElem h1, List.getElem?_eq_getElem h2] using this
theorem mkTs_zero (k : Nat) (ts : List TaskD) : mkTs k ts 0 = ts := extT (mkTs_length _ _ _) fun j hj => by
  rw [mkTs_length] at hj
  rw [mkTs_get _ _ _ hj, if_neg (by omega)]
theorem getD_setT (xs : List TaskD) (i : Nat) (t : TaskD) (h : i < xs.length) (j : Nat) : (xs.set i t).getD j dT = if i = j then t else xs.getD j dT := by
  by_cases e : i = j
  · subst e; simp [List.getD, h]
  · rw [if_neg e]; simp [List.getD, List.getElem?_set_ne e]
theorem mkTs_set (k : Nat) (ts : List TaskD) {i : Nat} (hi : i < ts.length) : (mkTs k ts i).set i (mkt k ts i) = mkTs k ts (i + 1) := extT (by simp [mkTs_length]) fun j hj => by
  rw [List.length_set, mkTs_length] at hj
  rw [getD_setT _ _ _ (by rw [mkTs_length]; exact hi), mkTs_get _ _ _ hj, mkTs_get _ _ _ hj]
  by_cases e : i = j
  · subst e; rw [if_pos rfl, if_pos (by omega)]
  · rw [if_neg e]
    by_cases e2 : j < i
    · rw [if_pos e2, if_pos (by omega)]
    · rw [if_neg e2, if_neg (by omega)]
theorem rowC_set2 (ts : List TaskD) (vs : List Value) (i : Nat) (hi : i < ts.length) (t : TaskD) : ((rowC ts vs).set (i * 3) (.string t.name)).set (i * 3 + 1) (.int .i64 t.cost) = rowC (ts.set i t) vs := by
  refine ext3 (n := ts.length) (by simp [rowC_length]) (by rw [rowC_length, List.length_set]) fun j r hj hr => ?_
  rw [rowC_get _ _ _ _ (by rw [List.length_set]; exact hj) hr, List.getElem?_set, List.getElem?_set, getD_setT _ _ _ hi, List.length_set, rowC_length]
  by_cases e : i = j
  · subst e
    rw [if_pos rfl]
    have : r = 0 ∨ r = 1 ∨ r = 2 := by omega
    rcases this with rfl | rfl | rfl
    · rw [if_neg (by omega), if_pos (by omega), if_pos (by omega)]; rfl
    · rw [if_pos (by omega), if_pos (by omega)]; rfl
    · rw [if_neg (by omega), if_neg (by omega), rowC_get _ _ _ _ hi hr]; rfl
  · rw [if_neg (by omega), if_neg (by omega), if_neg e, rowC_get _ _ _ _ hj hr]
theorem PlanO.upd {w w3 w4 : World} {B : Nat} {v : Value} {ts : List TaskD} {vs : List Value} {i : Nat} {t : TaskD} (h : PlanO w B v ts vs) (hi : i < ts.length) (hg3 : w.grownBy w3 v.ownBlock) (hrow : Own B w3 3 v ts.length (rowC (ts.set i t) vs)) (hg4 : w3.grownBy w4 (vs.getD i nilV).ownBlock) (hd : Own B w4 1 (vs.getD i nilV) t.deps.length (t.deps.map (Value.int .i64))) : PlanO w4 B v (ts.set i t) vs := by
  refine ⟨by rw [List.length_set]; exact h.len, ?_, fun j hj => ?_, fun j hj => h.dr j (by simpa using hj), fun a b hab hb => h.dd a b hab (by simpa using hb)⟩
  · rw [List.length_set]; exact hrow.grown hg4 (h.dr i hi).symm
  · rw [List.length_set] at hj
    rw [getD_setT _ _ _ hi]
    by_cases e : i = j
    · subst e; rw [if_pos rfl]; exact hd
    · rw [if_neg e]
      refine ((h.dep j hj).grown hg3 (h.dr j hj)).grown hg4 ?_
      rcases Nat.lt_or_ge i j with l | l
      · exact (h.dd i j l hj).symm
      · exact h.dd j i (by omega) hi
def rowsP (v : Value) (ts : List TaskD) (vs : List Value) : List (Option Nat) := v.ownBlock :: (List.range ts.length).map fun j => (vs.getD j nilV).ownBlock
theorem rowsP_v (v : Value) (ts : List TaskD) (vs : List Value) : v.ownBlock ∈ rowsP v ts vs := List.mem_cons_self
theorem rowsP_d (v : Value) (ts : List TaskD) (vs : List Value) {j : Nat} (hj : j < ts.length) : (vs.getD j nilV).ownBlock ∈ rowsP v ts vs := List.mem_cons_of_mem _ (List.mem_map.2 ⟨j, List.mem_range.2 hj, rfl⟩)
theorem rowsP_of {v : Value} {ts : List TaskD} {vs : List Value} {r : Option Nat} (h : r ∈ rowsP v ts vs) : r = v.ownBlock ∨ ∃ j, j < ts.length ∧ r = (vs.getD j nilV).ownBlock := by
  rcases List.mem_cons.1 h with h | h
  · exact .inl h
  · obtain ⟨j, hj, e⟩ := List.mem_map.1 h
    exact .inr ⟨j, List.mem_range.1 hj, e.symm⟩
theorem PlanO.lo {w : World} {B : Nat} {v : Value} {ts : List TaskD} {vs : List Value} (h : PlanO w B v ts vs) : ∀ r ∈ rowsP v ts vs, ∀ q, r = some q → B ≤ q ∧ q < w.heap.size := fun r hr q hq => by
  rcases rowsP_of hr with rfl | ⟨j, hj, rfl⟩
  · exact ⟨h.row.row_lo q hq, h.row.row_hi q hq⟩
  · exact ⟨(h.dep j hj).row_lo q hq, (h.dep j hj).row_hi q hq⟩
theorem PlanO.grew {w w' : World} {B : Nat} {v : Value} {ts : List TaskD} {vs : List Value} {rows : List (Option Nat)} (h : PlanO w B v ts vs) (hg : Grew rows w w') (hd : ∀ r ∈ rows, ∀ q, r = some q → ∀ r' ∈ rowsP v ts vs, r' ≠ some q) : PlanO w' B v ts vs :=
  ⟨h.len, h.row.blkP (fun q hq => hg.block q (h.row.row_hi q hq) (fun r hr e => hd r hr q e _ (rowsP_v v ts vs) hq)), fun j hj => (h.dep j hj).blkP (fun q hq => hg.block q ((h.dep j hj).row_hi q hq) (fun r hr e => hd r hr q e _ (rowsP_d v ts vs hj) hq)), h.dr, h.dd⟩

theorem Grew.bw {rows : List (Option Nat)} {w w' : World} (h : Below w.heap.size w w') : Grew rows w w' := ⟨h.size, fun q hq _ => h.block q hq, h.os, h.tape, h.output⟩
theorem Own.toC {B : Nat} {w : World} {size g o n c n' : Nat} {xs : List Value} (h : Own B w size (.slice (some ⟨g, o, none⟩) n c) n' xs) : OwnC B w size g o c n' xs ∧ n = n' := by
  rcases h with ⟨hv, _⟩ | ⟨g', o', cap, hv, hc⟩
  · cases hv
  · injection hv with e1 e2 e3
    injection e1 with e1
    injection e1 with e4 e5
    subst e3 e4 e5
    exact ⟨hc, e2⟩
set_option maxHeartbeats 2000000 in
theorem markTaskS_c (g o n c k : Nat) (B : Nat) (ts : List TaskD) (vs : List Value) (w : World) (hk0 : 0 < k) (hkm : k ≤ 1000000000) (hn : n ≤ 1048576) (hl : ts.length = n) (hs : tssz ts ≤ 1048576) (h : PlanO w B (.slice (some ⟨g, o, none⟩) n c) ts vs) :
    Calls Tryz.prog 51 #[.slice (some ⟨g, o, none⟩) n c, .int .i64 k] w fun e w' => e = .returned (.int .i64 (kAt k ts n : Nat)) ∧ PlanO w' B (.slice (some ⟨g, o, none⟩) n c) (mkTs k ts n) vs ∧ Grew (rowsP (.slice (some ⟨g, o, none⟩) n c) ts vs) w w' := by
  have HKA : Hid (∀ i, i ≤ n → k ≤ kAt k ts i ∧ kAt k ts i ≤ 1003145728) := fun i hi => by have := kAt_max k ts (i := i) (by omega); omega
  have HD : Hid (∀ i, i < n → (ts.getD i dT).deps.length ≤ 1048576) := fun i hi => by have := tsz_le (show i < ts.length by omega); unfold tsz at this; omega
  have HL := hid hl
  clear hl hs hkm
  go_enter Tryz.func51, Tryz.ntmps51
  go_wp2
  go_loopw [1, 5] (fun kv x wr => ∃ i : Nat, i ≤ n ∧ x = .int .i64 i ∧ kv = .int .i64 (kAt k ts i : Nat) ∧ PlanO wr B (.slice (some ⟨g, o, none⟩) n c) (mkTs k ts i) vs ∧ Grew (rowsP (.slice (some ⟨g, o, none⟩) n c) ts vs) w wr) (fun _ x _ => n - (intOf x).toNat)
  case atStart => exact ⟨0, Nat.zero_le _, rfl, rfl, by rw [mkTs_zero]; exact h, Grew.refl _ _⟩
  case round =>
    obtain ⟨i, hi, rfl, rfl, hP, hG⟩ := hrel
    by_cases hlt : i < n
    · have hlt' : (i : Int) < (n : Int) := by omega
      obtain ⟨m, hm⟩ : ∃ m, m = kAt k ts i := ⟨_, rfl⟩
      have hm1 := HKA.out i hi
      rw [← hm] at hm1
      rw [← hm]
      have HM := hid hm
      clear hm
      go_wp2_with fail
      refine (markText_any m _ (by omega) (by omega)).mono ?_
      rintro e w1 ⟨rfl, hb1⟩
      have hP1 := hP.below hb1
      have hG1 := hG.step (Grew.bw (rows := []) hb1) (by simp)
      clear hP hG hb1
      have HI : Hid (i < (mkTs k ts i).length) := by have := HL.out; show _ < _; rw [mkTs_length]; omega
      have hc1 := hP1.row.toC.1
      rw [mkTs_length, HL.out] at hc1
      obtain ⟨u0, _, hq0⟩ := hc1.cellSome (j := i * 3) (by omega)
      have hf0 := hc1.notFrozen (j := i * 3) (by omega)
      have hc2 := hc1.setCell (j := i * 3) (by omega) (.string (mtx m))
      obtain ⟨u1, _, hq1⟩ := hc2.cellSome (j := i * 3 + 1) (by omega)
      have hf1 := hc2.notFrozen (j := i * 3 + 1) (by omega)
      have hc3 := hc2.setCell (j := i * 3 + 1) (by omega) (.int .i64 ((m : Int) + 1))
      have hq2 := hc3.holds (i * 3 + 2) (by omega)
      have hrw : ((rowC (mkTs k ts i) vs).set (i * 3) (.string (mtx m))).set (i * 3 + 1) (.int .i64 ((m : Int) + 1)) = rowC ((mkTs k ts i).set i (mkt k ts i)) vs := by
        rw [← rowC_set2 _ _ _ HI.out]; simp only [mkt]; rw [← HM.out]
      rw [hrw] at hc3 hq2
      rw [rowC_get _ _ _ _ (by rw [List.length_set]; exact HI.out) (by omega)] at hq2
      obtain ⟨u, hu⟩ : ∃ u, u = vs.getD i nilV := ⟨_, rfl⟩
      rw [← hu] at hq2
      have hq2' : (tcell (((mkTs k ts i).set i (mkt k ts i)).getD i dT) u)[2]? = some u := rfl
      rw [hq2'] at hq2
      rw [← Nat.add_assoc] at hq1 hf1 hc3 hq2
      rw [← Nat.add_assoc] at hq2
      have hg3 : w1.grownBy ((w1.setCell ⟨g, o + i * 3, none⟩ (.string (mtx m))).setCell ⟨g, o + i * 3 + 1, none⟩ (.int .i64 ((m : Int) + 1))) (some g) := gset (gset (World.grownBy.refl _ _) _ _) _ _
      have hdp := (hP1.dep i HI.out).grown hg3 (hP1.dr i HI.out)
      have hdd : ((mkTs k ts i).getD i dT).deps = (ts.getD i dT).deps := by rw [mkTs_get _ _ _ (by rw [HL.out]; exact hlt), if_neg (by omega)]
      rw [hdd, ← hu] at hdp
      have hdn := HD.out i hlt
      obtain ⟨dn, hdn'⟩ : ∃ dn, dn = (ts.getD i dT).deps.length := ⟨_, rfl⟩
      rw [← hdn'] at hdp hdn
      have HU := hid hu
      have HC3 := hid hc3
      have HDN := hid hdn'
      clear hrw hq2' hu hc1 hc2 hc3 hdd hdn'
      go_wp2_with fail
      rw [show ((m : Int) + 1 + 1) = ((m + 2 : Nat) : Int) by omega]
      refine (markIntS_own u dn (m + 2) B _ _ (by omega) hdn hdp).mono ?_
      rintro e w4 ⟨rfl, ho4, hg4⟩
      have HP4 : Hid (PlanO w4 B (.slice (some ⟨g, o, none⟩) n c) (mkTs k ts (i + 1)) vs) := by
        rw [← mkTs_set k ts (by rw [HL.out]; exact hlt)]
        refine hP1.upd HI.out hg3 (.inr ⟨g, o, c, by rw [mkTs_length, HL.out], by rw [mkTs_length, HL.out]; exact HC3.out⟩) (by rw [← HU.out]; exact hg4) ?_
        rw [← HU.out]
        simp only [mkt, mki_length]
        rw [← HM.out, ← HDN.out]
        exact ho4
      have HG4 := hid ((hG1.step (Grew.of hg3) (by intro r hr; rw [List.mem_singleton.1 hr]; exact rowsP_v _ _ _)).step (Grew.of hg4) (by intro r hr; rw [List.mem_singleton.1 hr, HU.out]; exact rowsP_d _ _ _ (by rw [HL.out]; exact hlt)))
      clear hG1 hg3 hg4 ho4 hdp hP1 hq0 hq1 hq2 hf0 hf1
      go_wp2
      go_roundw
      case rel => exact ⟨i + 1, by omega, by go_num, by simp only [kAt]; rw [← HM.out, ← HDN.out]; congr 1, HP4.out, HG4.out⟩
      case measure => simp [intOf]; omega
    · obtain rfl : i = n := by omega
      go_wp2
      go_ret
      exact ⟨rfl, hP, hG⟩
set_option maxHeartbeats 1000000 in
theorem markTaskS_nil (k : Nat) (w : World) :
    Calls Tryz.prog 51 #[.slice none 0 0, .int .i64 k] w fun e w' => e = .returned (.int .i64 (k : Int)) ∧ w' = w := by
  go_enter Tryz.func51, Tryz.ntmps51
  go_wp2
  go_loop [1, 5] (fun kv x => x = .int .i64 0 ∧ kv = .int .i64 k) (fun _ _ => 0)
  case atStart => exact ⟨rfl, rfl⟩
  case round =>
    obtain ⟨rfl, rfl⟩ := hrel
    go_wp2
    go_ret
    exact ⟨rfl, rfl⟩
theorem PlanO.nil_of {w : World} {B : Nat} {v : Value} {ts : List TaskD} {vs : List Value} (h : PlanO w B v ts vs) : v = nilV ∧ ts = [] ∨ ∃ g o c, v = .slice (some ⟨g, o, none⟩) ts.length c := by
  rcases h.row with ⟨hv, hn, _⟩ | ⟨g, o, cap, hv, _⟩
  · exact .inl ⟨hv, List.length_eq_zero_iff.1 hn⟩
  · exact .inr ⟨g, o, cap, hv⟩
theorem markTaskS_own (v : Value) (k : Nat) (B : Nat) (ts : List TaskD) (vs : List Value) (w : World) (hk0 : 0 < k) (hkm : k ≤ 1000000000) (hn : ts.length ≤ 1048576) (hs : tssz ts ≤ 1048576) (h : PlanO w B v ts vs) :
    Calls Tryz.prog 51 #[v, .int .i64 k] w fun e w' => e = .returned (.int .i64 (kAt k ts ts.length : Nat)) ∧ PlanO w' B v (mkTs k ts ts.length) vs ∧ Grew (rowsP v ts vs) w w' := by
  rcases h.nil_of with ⟨rfl, rfl⟩ | ⟨g, o, c, rfl⟩
  · refine (markTaskS_nil k w).mono ?_
    rintro e w' ⟨rfl, rfl⟩
    exact ⟨rfl, h, Grew.refl _ _⟩
  · exact markTaskS_c g o _ c k B ts vs w hk0 hkm hn rfl hs h
set_option maxHeartbeats 1000000 in
theorem markPlan_own (v : Value) (k : Nat) (B : Nat) (ts : List TaskD) (vs : List Value) (w : World) (hk0 : 0 < k) (hkm : k ≤ 1000000000) (hn : ts.length ≤ 1048576) (hs : tssz ts ≤ 1048576) (h : PlanO w B v ts vs) :
    Calls Tryz.prog 14 #[.agg #[v], .int .i64 k] w fun e w' => e = .returned (.int .i64 (kAt k ts ts.length : Nat)) ∧ PlanO w' B v (mkTs k ts ts.length) vs ∧ Grew (rowsP v ts vs) w w' := by
  obtain ⟨a, n, c, rfl⟩ : ∃ a n c, v = .slice a n c := by
    rcases h.nil_of with ⟨rfl, rfl⟩ | ⟨g, o, c, rfl⟩
    · exact ⟨none, 0, 0, rfl⟩
    · exact ⟨_, _, _, rfl⟩
  have hb0 : Below w.heap.size w (w.alloc (.cells #[.slice a n c] 45)) := (Below.refl _ _).alloc (Nat.le_refl _) _
  have HC := hid (markTaskS_own (.slice a n c) k B ts vs _ hk0 hkm hn hs (h.below hb0))
  have HB := hid hb0
  clear h hb0 hk0 hkm hn hs
  go_enter Tryz.func14, Tryz.ntmps14
  go_wp2_with fail
  refine HC.out.mono ?_
  rintro e w1 ⟨rfl, hP, hG⟩
  go_wp2
  go_ret
  exact ⟨rfl, hP, (Grew.bw HB.out).step hG (fun _ h => h)⟩
theorem mtx_size (k : Nat) : (mtx k).size ≤ k + 1 := by
  have hl := lp_length k k []
  show (109 :: lp k k []).toArray.size ≤ k + 1
  simp only [List.size_toArray, List.length_cons] at hl ⊢
  simp at hl
  omega
theorem mkTs_fit (k : Nat) (ts : List TaskD) (hk : k ≤ 1000000000) (hn : ts.length ≤ 1048576) (hs : tssz ts ≤ 1048576) : fitT (mkTs k ts ts.length) := fun j hj => by
  rw [mkTs_length] at hj
  rw [mkTs_get _ _ _ hj, if_pos hj]
  have h1 := kAt_max k ts (i := j) (by omega)
  have h2 := mtx_size (kAt k ts j)
  have h3 := tsz_le hj
  unfold tsz at h3
  refine ⟨by simp only [mkt]; unfold maxLen; omega, by simp only [mkt]; exact ⟨by omega, by omega⟩, ?_⟩
  simp only [mkt]
  exact mki_rng _ _ (by omega) (by omega)
set_option maxHeartbeats 2000000 in
theorem heldTaskS_any (a : Option Addr) (b o n c k : Nat) (ts : List TaskD) (w : World) (hk0 : 0 < k) (hkm : k ≤ 1000000000) (hn : n ≤ 1048576) (hl : ts.length = n) (hs : tssz ts ≤ 1048576) (h : TasksAt w a b o n (mkTs k ts n)) :
    Calls Tryz.prog 104 #[.slice a n c, .int .i64 k] w fun e w' => e = .returned (.int .i64 (kAt k ts n : Nat)) ∧ Below w.heap.size w w' := by
  have HKA : Hid (∀ i, i ≤ n → k ≤ kAt k ts i ∧ kAt k ts i ≤ 1003145728) := fun i hi => by have := kAt_max k ts (i := i) (by omega); omega
  have HD : Hid (∀ i, i < n → (ts.getD i dT).deps.length ≤ 1048576) := fun i hi => by have := tsz_le (show i < ts.length by omega); unfold tsz at this; omega
  have HL := hid hl
  clear hl hs hkm
  go_enter Tryz.func104, Tryz.ntmps104
  go_wp2
  go_loopw [1, 5] (fun kv x wr => ∃ i : Nat, i ≤ n ∧ x = .int .i64 i ∧ kv = .int .i64 (kAt k ts i : Nat) ∧ Below w.heap.size w wr) (fun _ x _ => n - (intOf x).toNat)
  case atStart => exact ⟨0, Nat.zero_le _, rfl, rfl, Below.refl _ _⟩
  case round =>
    obtain ⟨i, hi, rfl, rfl, hB⟩ := hrel
    by_cases hlt : i < n
    · have hlt' : (i : Int) < (n : Int) := by omega
      have HM := hid (HKA.out i hi)
      have hdn := HD.out i hlt
      obtain rfl := h.ad (by omega)
      have hT := h.below' hB
      have c0 := hT.c0 i hlt
      have c1 := hT.c1 i hlt
      obtain ⟨a', b', o', n', c', c2, hI⟩ := hT.c2 i hlt
      have hg : (mkTs k ts n).getD i dT = mkt k ts i := by rw [mkTs_get _ _ _ (by rw [HL.out]; exact hlt), if_pos hlt]
      rw [hg] at c0 c1 hI
      simp only [mkt] at c0 c1 hI
      have hn' := hI.len
      rw [mki_length] at hn'
      subst hn'
      obtain ⟨m, hm⟩ : ∃ m, m = kAt k ts i := ⟨_, rfl⟩
      obtain ⟨dn, hdn'⟩ : ∃ dn, dn = (ts.getD i dT).deps.length := ⟨_, rfl⟩
      rw [← hm] at c0 c1 hI HM
      rw [← hdn'] at hdn hI c2
      rw [← hm]
      have HE := hid (show kAt k ts (i + 1) = m + 2 + dn by rw [kAt, ← hm, ← hdn'])
      have hm1 := HM.out
      have HMM := hid hm
      clear hm hdn' HM hT hg
      obtain ⟨s, hs⟩ : ∃ s, s = mtx m := ⟨_, rfl⟩
      rw [← hs] at c0
      have HC : Hid (∀ w1 : World, Calls Tryz.prog 96 #[.int .i64 (m : Nat)] w1 fun e w' => e = .returned (.string s) ∧ Below w1.heap.size w1 w') := fun w1 => by
        rw [hs]; exact markText_any m w1 (by omega) (by omega)
      clear hs
      have hBd : Below w.heap.size w wr.drew := hB.drew
      have HI := hid (hI.below' (Below.refl _ _).drew)
      clear hI
      go_wp2
      go_region_held3 (fun w' => w'.cell? ⟨b, o + i * 3, none⟩ = some (.string s)) (first | (simp [go_sem, *]; done) | assumption)
        (first
          | (go_at_call 96; refine (HC.out _).mono ?_; rintro e w1 ⟨rfl, hb1⟩; have d0 := keepC hb1 c0; have d1 := keepC hb1 c1; have d2 := keepC hb1 c2; have hI1 := HI.out.below' hb1; have hB1 := hBd.trans (hb1.mono hBd.size)))
      clear c0 c1 c2 HI hBd hb1 HC
      go_wp2_with fail
      rw [show ((m : Int) + 1 + 1) = ((m + 2 : Nat) : Int) by omega]
      refine (heldIntS_any a' b' o' dn c' (m + 2) _ (by omega) hdn hI1).mono ?_
      rintro e w2 ⟨rfl, hb2⟩
      have hB2 := hB1.trans (hb2.mono hB1.size)
      clear hB1 hb2 hI1 d0 d1 d2
      go_wp2
      go_roundw
      case rel => exact ⟨i + 1, by omega, by go_num, by rw [HE.out]; congr 1, hB2⟩
      case measure => simp [intOf]; omega
    · obtain rfl : i = n := by omega
      go_wp2
      go_ret
      exact ⟨rfl, hB⟩
set_option maxHeartbeats 1000000 in
theorem heldPlan_own (v : Value) (k : Nat) (B : Nat) (ts : List TaskD) (vs : List Value) (w : World) (hk0 : 0 < k) (hkm : k ≤ 1000000000) (hn : ts.length ≤ 1048576) (hs : tssz ts ≤ 1048576) (h : PlanO w B v (mkTs k ts ts.length) vs) :
    Calls Tryz.prog 67 #[.agg #[v], .int .i64 k] w fun e w' => e = .returned (.int .i64 (kAt k ts ts.length : Nat)) ∧ Below w.heap.size w w' := by
  obtain ⟨a, b, o, c, rfl, hT⟩ := h.tasks (mkTs_fit k ts hkm hn hs) (by rw [mkTs_length]; unfold maxLen; omega)
  rw [mkTs_length] at hT
  rw [mkTs_length]
  have hb0 : Below w.heap.size w (w.alloc (.cells #[.slice a ts.length c] 45)) := (Below.refl _ _).alloc (Nat.le_refl _) _
  have HC := hid (heldTaskS_any a b o _ c k ts _ hk0 hkm hn rfl hs (hT.below' hb0))
  have HB := hid hb0
  have hnn : ¬ ((kAt k ts ts.length : Nat) : Int) < 0 := by omega
  clear h hT hb0 hk0 hkm hn hs
  go_enter Tryz.func67, Tryz.ntmps67
  go_wp2_with fail
  refine HC.out.mono ?_
  rintro e w1 ⟨rfl, hb1⟩
  go_wp2
  go_ret
  exact ⟨rfl, HB.out.trans (hb1.mono HB.out.size)⟩
end Go.Proofs.YtbfamabkbkpmpaaGreat
