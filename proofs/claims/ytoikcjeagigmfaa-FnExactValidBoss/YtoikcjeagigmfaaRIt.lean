
/-
  impl's Log.entries: reading, ranged over.
-/
import Derived.RangeFuncNested
import Derived.RangeFuncBound
import Derived.RangeFuncCalls
import Derived.RangeFuncLeaves
import Derived.Shelf.Abstract
import Derived.Shelf.RegionOpen
import Derived.WalkKit
import Derived.OwnWalkIn
import Derived.TacticsInMore
import Derived.LoopNIn
import Derived.LoopIn
import Derived.Test.YtoikcjeagigmfaaRGo2
namespace Go.Proofs.Ytoikcjeagigmfaa
open Go.RowKit Go.Shelf
attribute [local go_sem] Oper.semAt_some

/-- What a text is read as. -/
noncomputable def eAgg (s : ByteArray) : Value := match evE s with
  | some (k, e, d, x) => .agg #[.int .i64 k, .int .i64 e, .int .i64 d, .string x]
  | none => .agg #[.int .i64 0, .int .i64 0, .int .i64 0, .string ⟨#[]⟩]
noncomputable def eOk (s : ByteArray) : Bool := (evE s).isSome
noncomputable def eV (s : ByteArray) : Array Value := #[eAgg s, .bool (eOk s)]
theorem RetE.ev {s : ByteArray} {e' : Ending} (h : RetE e' s) : e' = .returned (.tuple #[eAgg s, .bool (eOk s)]) := by
  rcases h with ⟨rfl, hn⟩ | ⟨k, e, d, x, rfl, hg⟩
  · simp [eAgg, eOk, evE_none hn]
  · simp [eAgg, eOk, evE_some hg]

/-- All cells but those of two blocks lie as they lay. -/
def KpB (sb rb : Nat) (W W' : World) : Prop := W.heap.size ≤ W'.heap.size ∧ ∀ (k : Nat) (o : Obj), W.heap[k]? = some o → o.isCells = true → k ≠ sb → k ≠ rb → W'.heap[k]? = some o
theorem KpB.trans {sb rb : Nat} {A B C : World} (h : KpB sb rb A B) (k : KpB sb rb B C) : KpB sb rb A C := ⟨Nat.le_trans h.1 k.1, fun i o hi ho h1 h2 => k.2 i o (h.2 i o hi ho h1 h2) ho h1 h2⟩
theorem KpB.refl (sb rb : Nat) (W : World) : KpB sb rb W W := ⟨Nat.le_refl _, fun _ _ h _ _ _ => h⟩
theorem KpB.of {sb rb : Nat} {W W' : World} (h : But sb rb W W') : KpB sb rb W W' := ⟨h.size, fun i _ hi _ h1 h2 => (h.block i (Array.getElem?_eq_some_iff.1 hi).1 h1 h2).trans hi⟩
theorem KpB.put {sb rb : Nat} (W : World) (l : Nat) (o o' : Obj) (h : W.heap[l]? = some o) (hc : o.isCells = false) : KpB sb rb W (W.putObj l o') :=
  ⟨(grownBy_putObj' W l o').size, fun i oi hi ho _ _ => ((grownBy_putObj' W l o').block i (Array.getElem?_eq_some_iff.1 hi).1 (fun e => by cases e; rw [h] at hi; cases hi; rw [hc] at ho; cases ho)).trans hi⟩
theorem KpB.cell {sb rb : Nat} {W W' : World} (h : KpB sb rb W W') {p : Addr} {v : Value} (hv : W.cell? p = some v) (h1 : p.block ≠ sb) (h2 : p.block ≠ rb) : W'.cell? p = some v := by
  obtain ⟨o, ho, hc⟩ := cells_of_cell hv
  exact (World.cell?_of_block (w := W) ((h.2 _ o ho hc h1 h2).trans ho.symm)).trans hv
theorem StrsAt.kp {sb rb : Nat} {W W' : World} {a : Option Addr} {b o n : Nat} {ss : List ByteArray} (h : StrsAt W a b o n ss) (hk : KpB sb rb W W') (hb : 0 < n → b ≠ sb ∧ b ≠ rb) : StrsAt W' a b o n ss :=
  ⟨h.ad, h.len, h.max, fun hn => Nat.lt_of_lt_of_le (h.lt hn) hk.1, fun j hj => hk.cell (h.cell j hj) (hb (by omega)).1 (hb (by omega)).2, h.sz⟩

/-- What the iterator reads. -/
structure ItS (q : Nat) (a1 a2 : Option Addr) (b1 o1 n1 c1 b2 o2 n2 c2 : Nat) (L1 L2 : List ByteArray) (w : World) : Prop where
  k0 : w.cell? ⟨q, 0, none⟩ = some (.slice a1 n1 c1)
  k1 : w.cell? ⟨q, 1, none⟩ = some (.slice a2 n2 c2)
  s1 : StrsAt w a1 b1 o1 n1 L1
  s2 : StrsAt w a2 b2 o2 n2 L2
section
variable {q : Nat} {a1 a2 : Option Addr} {b1 o1 n1 c1 b2 o2 n2 c2 : Nat} {L1 L2 : List ByteArray} {w w' : World}
theorem ItS.below (h : ItS q a1 a2 b1 o1 n1 c1 b2 o2 n2 c2 L1 L2 w) (hb : Below w.heap.size w w') : ItS q a1 a2 b1 o1 n1 c1 b2 o2 n2 c2 L1 L2 w' :=
  ⟨keepB hb h.k0, keepB hb h.k1, h.s1.below' hb, h.s2.below' hb⟩
theorem ItS.kp {sb rb : Nat} (h : ItS q a1 a2 b1 o1 n1 c1 b2 o2 n2 c2 L1 L2 w) (hk : KpB sb rb w w') (hq1 : q ≠ sb) (hq2 : q ≠ rb) (hb1 : 0 < n1 → b1 ≠ sb ∧ b1 ≠ rb) (hb2 : 0 < n2 → b2 ≠ sb ∧ b2 ≠ rb) : ItS q a1 a2 b1 o1 n1 c1 b2 o2 n2 c2 L1 L2 w' :=
  ⟨hk.cell h.k0 hq1 hq2, hk.cell h.k1 hq1 hq2, h.s1.kp hk hb1, h.s2.kp hk hb2⟩
end

theorem pfx1 {L1 L2 : List ByteArray} {j : Nat} {s : ByteArray} (hs : s = L1.getD j ByteArray.empty) (hj : j < L1.length) : L1.take j ++ [s] <+: L1 ++ L2 := by
  rw [hs, ← takeS_snoc hj]
  exact (List.take_prefix _ _).trans (List.prefix_append _ _)
theorem pfx2 {L1 L2 : List ByteArray} {j : Nat} {s : ByteArray} (hs : s = L2.getD j ByteArray.empty) (hj : j < L2.length) : L1 ++ L2.take j ++ [s] <+: L1 ++ L2 := by
  rw [hs, List.append_assoc, ← takeS_snoc hj]
  exact (List.prefix_append_right_inj L1).2 (List.take_prefix _ _)

set_option maxHeartbeats 2000000 in
set_option maxRecDepth 100000 in
theorem ents1_in (n : Nat) (hn : 1 ≤ n) (l Bl sb rb : Nat) (a1 a2 : Option Addr) (b1 o1 n1 c1 b2 o2 n2 c2 : Nat) (L1 L2 : List ByteArray) (J Jx : List ByteArray → World → Prop) (W : World) (hJ : AbidesFrom W.heap.size J)
    (hY : ∀ pre x W1, J pre W1 → pre.length < (L1 ++ L2).length → YieldAt Fence.wide (n - 1) Try.prog l (eV x) W1 fun e W' => (e = .returned (.bool true) ∧ J (pre ++ [x]) W' ∧ KpB sb rb W1 W') ∨ (e = .returned (.bool false) ∧ Jx (pre ++ [x]) W'))
    (hc0 : W.cell? ⟨Bl, 0, none⟩ = some (.slice a1 n1 c1)) (hc1 : W.cell? ⟨Bl, 1, none⟩ = some (.slice a2 n2 c2)) (h1 : StrsAt W a1 b1 o1 n1 L1) (h2 : StrsAt W a2 b2 o2 n2 L2)
    (hb1 : 0 < n1 → b1 ≠ sb ∧ b1 ≠ rb) (hb2 : 0 < n2 → b2 ≠ sb ∧ b2 ≠ rb) (hsb : sb < W.heap.size) (hrb : rb < W.heap.size) (h0 : J [] W) :
    CallsIn Fence.wide n Try.prog 102 #[.func (.yield l) #[] #[], .pointer (some ⟨Bl, 0, none⟩)] W fun e W' => (∃ v, e = .returned v) ∧ ((∃ xs, xs = L1 ++ L2 ∧ J xs W') ∨ (∃ pre, pre <+: L1 ++ L2 ∧ Jx pre W')) := by
  obtain ⟨V, hV⟩ : ∃ V, V = W.alloc (.cells #[.slice a1 n1 c1, .slice a2 n2 c2] 36) := ⟨_, rfl⟩
  have hbV : Below W.heap.size W V := by rw [hV]; exact (Below.refl _ _).alloc (Nat.le_refl _) _
  have hmc : MC V W.heap.size [.slice a1 n1 c1, .slice a2 n2 c2] := by rw [hV]; exact MC.made W _ _
  have hI0 : ItS W.heap.size a1 a2 b1 o1 n1 c1 b2 o2 n2 c2 L1 L2 V := ⟨hmc 0 (by simp), hmc 1 (by simp), h1.below' hbV, h2.below' hbV⟩
  have hJV : J [] V := by rw [hV]; exact hJ [] W _ none h0 (World.grownBy_alloc W _ none) (fun r hr => by cases hr)
  have hq1 : W.heap.size ≠ sb := by omega
  have hq2 : W.heap.size ≠ rb := by omega
  have hm1 := h1.max
  have hm2 := h2.max
  unfold maxLen at hm1 hm2
  have HL1 := hid h1.len
  have HL2 := hid h2.len
  clear hmc h0
  refine callsIn_of_wp Try.func102 rfl trivial ?_ rfl
  simp only [Try.ntmps102, List.size_toArray, List.length_cons, List.length_nil, Nat.reduceAdd, Nat.reduceSub, Array.replicate_succ, Array.replicate_zero, List.push_toArray, List.append_toArray, List.nil_append, List.cons_append]
  gi_wp2
  rw [← hV]
  have hszV : W.heap.size < V.heap.size := by rw [hV]; simp
  clear hV hc0 hc1 h1 h2 hbV
  gi_loopw [13] (fun i wr => ((i = .int .i64 0 ∧ J [] wr) ∨ (i = .int .i64 1 ∧ J L1 wr) ∨ (i = .int .i64 2 ∧ J (L1 ++ L2) wr)) ∧ ItS W.heap.size a1 a2 b1 o1 n1 c1 b2 o2 n2 c2 L1 L2 wr ∧ W.heap.size < wr.heap.size) (fun i _ => 2 - (intOf i).toNat)
  case atStart => exact ⟨.inl ⟨rfl, hJV⟩, hI0, hszV⟩
  case round =>
    clear hI0 hJV hszV
    obtain ⟨hcase, hI, hsz⟩ := hrel
    rcases hcase with ⟨rfl, hJw⟩ | ⟨rfl, hJw⟩ | ⟨rfl, hJw⟩
    · have k0 := hI.k0
      gi_wp2
      gi_loopw [19] (fun i wr => ∃ j : Nat, j ≤ n1 ∧ i = .int .i64 j ∧ ItS W.heap.size a1 a2 b1 o1 n1 c1 b2 o2 n2 c2 L1 L2 wr ∧ J (L1.take j) wr ∧ W.heap.size < wr.heap.size) (fun i _ => n1 - (intOf i).toNat)
      case atStart => exact ⟨0, Nat.zero_le _, rfl, hI, by simpa using hJw, hsz⟩
      case round =>
        obtain ⟨j, hj, rfl, hI, hJw, hsz⟩ := hrel
        by_cases hlt : j < n1
        · obtain rfl := hI.s1.ad (by omega)
          have hc := hI.s1.cell j hlt
          obtain ⟨s, hs⟩ : ∃ s, s = L1.getD j ByteArray.empty := ⟨_, rfl⟩
          rw [← hs] at hc
          have HS := hid hs
          clear hs
          have hlt' : (j : Int) < (n1 : Int) := by omega
          have HIw := hid hI
          have HJw := hid hJw
          clear hI hJw
          gi_wp2_with (refine ⟨trivial, ?_⟩; gi_at_call 12; refine (callsIn_wide.2 (implReadE_any s _)).mono ?_; rintro e' w1 ⟨hret, hb1'⟩; obtain rfl := hret.ev; have hI1 := (HIw.out).below hb1'; have hJ1 : J (L1.take j) w1 := hJ _ _ _ none (HJw.out) (grownBy_below hb1') (fun r hr => by cases hr); obtain ⟨fn, tmps, assign, body, hy, hR⟩ := hY _ s w1 hJ1 (by simp [List.length_take, HL1.out, HL2.out]; omega); dsimp only [eV] at hy; have hsz1 := hb1'.size)
          refine hR.mono ?_
          rintro e W3 (⟨rfl, hJ3, hk3⟩ | ⟨rfl, hJx3⟩)
          · have hI3 := hI1.kp hk3 hq1 hq2 hb1 hb2
            have hsz3 := hk3.1
            gi_wp2
            go_roundw
            case rel => exact ⟨j + 1, by omega, by go_num, hI3, by rw [takeS_snoc (by rw [HL1.out]; exact hlt), ← HS.out]; exact hJ3, by omega⟩
            case measure => simp [intOf]; omega
          · gi_wp2
            refine bodyPost_ret (results_none rfl _ _ _) rfl ?_
            exact ⟨⟨_, rfl⟩, .inr ⟨_, pfx1 HS.out (by rw [HL1.out]; exact hlt), hJx3⟩⟩
        · obtain rfl : j = n1 := by omega
          rw [List.take_of_length_le (by rw [HL1.out]; omega)] at hJw
          gi_wp2
          go_roundw
          case rel => exact ⟨.inr (.inl ⟨rfl, hJw⟩), hI, hsz⟩
          case measure => simp [intOf]
    · have k1 := hI.k1
      gi_wp2
      gi_loopw [19] (fun i wr => ∃ j : Nat, j ≤ n2 ∧ i = .int .i64 j ∧ ItS W.heap.size a1 a2 b1 o1 n1 c1 b2 o2 n2 c2 L1 L2 wr ∧ J (L1 ++ L2.take j) wr ∧ W.heap.size < wr.heap.size) (fun i _ => n2 - (intOf i).toNat)
      case atStart => exact ⟨0, Nat.zero_le _, rfl, hI, by simpa using hJw, hsz⟩
      case round =>
        obtain ⟨j, hj, rfl, hI, hJw, hsz⟩ := hrel
        by_cases hlt : j < n2
        · obtain rfl := hI.s2.ad (by omega)
          have hc := hI.s2.cell j hlt
          obtain ⟨s, hs⟩ : ∃ s, s = L2.getD j ByteArray.empty := ⟨_, rfl⟩
          rw [← hs] at hc
          have HS := hid hs
          clear hs
          have hlt' : (j : Int) < (n2 : Int) := by omega
          have HIw := hid hI
          have HJw := hid hJw
          clear hI hJw
          gi_wp2_with (refine ⟨trivial, ?_⟩; gi_at_call 12; refine (callsIn_wide.2 (implReadE_any s _)).mono ?_; rintro e' w1 ⟨hret, hb1'⟩; obtain rfl := hret.ev; have hI1 := (HIw.out).below hb1'; have hJ1 : J (L1 ++ L2.take j) w1 := hJ _ _ _ none (HJw.out) (grownBy_below hb1') (fun r hr => by cases hr); obtain ⟨fn, tmps, assign, body, hy, hR⟩ := hY _ s w1 hJ1 (by simp [List.length_take, HL1.out, HL2.out]; omega); dsimp only [eV] at hy; have hsz1 := hb1'.size)
          refine hR.mono ?_
          rintro e W3 (⟨rfl, hJ3, hk3⟩ | ⟨rfl, hJx3⟩)
          · have hI3 := hI1.kp hk3 hq1 hq2 hb1 hb2
            have hsz3 := hk3.1
            gi_wp2
            go_roundw
            case rel => exact ⟨j + 1, by omega, by go_num, hI3, by rw [takeS_snoc (by rw [HL2.out]; exact hlt), ← HS.out, ← List.append_assoc]; exact hJ3, by omega⟩
            case measure => simp [intOf]; omega
          · gi_wp2
            refine bodyPost_ret (results_none rfl _ _ _) rfl ?_
            exact ⟨⟨_, rfl⟩, .inr ⟨_, pfx2 HS.out (by rw [HL2.out]; exact hlt), hJx3⟩⟩
        · obtain rfl : j = n2 := by omega
          rw [List.take_of_length_le (by rw [HL2.out]; omega)] at hJw
          gi_wp2
          go_roundw
          case rel => exact ⟨.inr (.inr ⟨rfl, hJw⟩), hI, hsz⟩
          case measure => simp [intOf]
    · gi_wp2
      go_end0
      exact ⟨⟨_, rfl⟩, .inl ⟨_, rfl, hJw⟩⟩
end Go.Proofs.Ytoikcjeagigmfaa
