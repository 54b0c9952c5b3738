import Derived.RangeFuncNested
import Derived.RangeFuncBound
import Derived.RangeFuncCalls
import Derived.RangeFuncLeaves
import Derived.Shelf.Abstract
import Derived.Shelf.RegionOpen
import Derived.WalkKit
import Derived.OwnWalkIn
import Derived.TacticsInMore
import Derived.LoopNIn
import Derived.LoopIn
import Derived.Test.YthopfmhagddhgaaGreatQRGo2
namespace Go.Proofs.YthopfmhagddhgaaGreat
open Go.RowKit Go.Shelf
attribute [local go_sem] Oper.semAt_some

/-- What a text is read as. -/
noncomputable def eAgg (s : ByteArray) : Value := match evE s with
  | some (k, e, d, x) => .agg #[.int .i64 k, .int .i64 e, .int .i64 d, .string x]
  | none => .agg #[.int .i64 0, .int .i64 0, .int .i64 0, .string ⟨#[]⟩]
noncomputable def eOk (s : ByteArray) : Bool := (evE s).isSome
noncomputable def eV (s : ByteArray) : Array Value := #[eAgg s, .bool (eOk s)]
theorem RetE.ev {s : ByteArray} {e' : Ending} (h : RetE e' s) : e' = .returned (.tuple #[eAgg s, .bool (eOk s)]) := by
  rcases h with ⟨rfl, hn⟩ | ⟨k, e, d, x, rfl, hg⟩
  · simp [eAgg, eOk, evE_none hn]
  · simp [eAgg, eOk, evE_some hg]

/-- All cells but those of two blocks lie as they lay. -/
def KpB (sb rb : Nat) (W W' : World) : Prop := W.heap.size ≤ W'.heap.size ∧ ∀ (k : Nat) (o : Obj), W.heap[k]? = some o → o.isCells = true → k ≠ sb → k ≠ rb → W'.heap[k]? = some o
theorem KpB.trans {sb rb : Nat} {A B C : World} (h : KpB sb rb A B) (k : KpB sb rb B C) : KpB sb rb A C := ⟨Nat.le_trans h.1 k.1, fun i o hi ho h1 h2 => k.2 i o (h.2 i o hi ho h1 h2) ho h1 h2⟩
theorem KpB.refl (sb rb : Nat) (W : World) : KpB sb rb W W := ⟨Nat.le_refl _, fun _ _ h _ _ _ => h⟩
theorem KpB.of {sb rb : Nat} {W W' : World} (h : But sb rb W W') : KpB sb rb W W' := ⟨h.size, fun i _ hi _ h1 h2 => (h.block i (Array.getElem?_eq_some_iff.1 hi).1 h1 h2).trans hi⟩
theorem KpB.put {sb rb : Nat} (W : World) (l : Nat) (o o' : Obj) (h : W.heap[l]? = some o) (hc : o.isCells = false) : KpB sb rb W (W.putObj l o') :=
  ⟨(grownBy_putObj' W l o').size, fun i oi hi ho _ _ => ((grownBy_putObj' W l o').block i (Array.getElem?_eq_some_iff.1 hi).1 (fun e => by cases e; rw [h] at hi; cases hi; rw [hc] at ho; cases ho)).trans hi⟩
theorem KpB.cell {sb rb : Nat} {W W' : World} (h : KpB sb rb W W') {p : Addr} {v : Value} (hv : W.cell? p = some v) (h1 : p.block ≠ sb) (h2 : p.block ≠ rb) : W'.cell? p = some v := by
  obtain ⟨o, ho, hc⟩ := cells_of_cell hv
  exact (World.cell?_of_block (w := W) ((h.2 _ o ho hc h1 h2).trans ho.symm)).trans hv
theorem StrsAt.kp {sb rb : Nat} {W W' : World} {a : Option Addr} {b o n : Nat} {ss : List ByteArray} (h : StrsAt W a b o n ss) (hk : KpB sb rb W W') (hb : 0 < n → b ≠ sb ∧ b ≠ rb) : StrsAt W' a b o n ss :=
  ⟨h.ad, h.len, h.max, fun hn => Nat.lt_of_lt_of_le (h.lt hn) hk.1, fun j hj => hk.cell (h.cell j hj) (hb (by omega)).1 (hb (by omega)).2, h.sz⟩

/-- What the iterator reads. -/
structure ItS (q : Nat) (a1 a2 : Option Addr) (b1 o1 n1 c1 b2 o2 n2 c2 : Nat) (L1 L2 : List ByteArray) (w : World) : Prop where
  k0 : w.cell? ⟨q, 0, none⟩ = some (.slice a1 n1 c1)
  k1 : w.cell? ⟨q, 1, none⟩ = some (.slice a2 n2 c2)
  s1 : StrsAt w a1 b1 o1 n1 L1
  s2 : StrsAt w a2 b2 o2 n2 L2
section
variable {q : Nat} {a1 a2 : Option Addr} {b1 o1 n1 c1 b2 o2 n2 c2 : Nat} {L1 L2 : List ByteArray} {w w' : World}
theorem ItS.below (h : ItS q a1 a2 b1 o1 n1 c1 b2 o2 n2 c2 L1 L2 w) (hb : Below w.heap.size w w') : ItS q a1 a2 b1 o1 n1 c1 b2 o2 n2 c2 L1 L2 w' :=
  ⟨keepB hb h.k0, keepB hb h.k1, h.s1.below' hb, h.s2.below' hb⟩
theorem ItS.kp {sb rb : Nat} (h : ItS q a1 a2 b1 o1 n1 c1 b2 o2 n2 c2 L1 L2 w) (hk : KpB sb rb w w') (hq1 : q ≠ sb) (hq2 : q ≠ rb) (hb1 : 0 < n1 → b1 ≠ sb ∧ b1 ≠ rb) (hb2 : 0 < n2 → b2 ≠ sb ∧ b2 ≠ rb) : ItS q a1 a2 b1 o1 n1 c1 b2 o2 n2 c2 L1 L2 w' :=
  ⟨hk.cell h.k0 hq1 hq2, hk.cell h.k1 hq1 hq2, h.s1.kp hk hb1, h.s2.kp hk hb2⟩
end

theorem pfx1 {L1 L2 : List ByteArray} {j : Nat} {s : ByteArray} (hs : s = L1.getD j ByteArray.empty) (hj : j < L1.length) : L1.take j ++ [s] <+: L1 ++ L2 := by
  rw [hs, ← takeS_snoc hj]
  exact (List.take_prefix _ _).trans (List.prefix_append _ _)
theorem pfx2 {L1 L2 : List ByteArray} {j : Nat} {s : ByteArray} (hs : s = L2.getD j ByteArray.empty) (hj : j < L2.length) : L1 ++ L2.take j ++ [s] <+: L1 ++ L2 := by
  rw [hs, List.append_assoc, ← takeS_snoc hj]
  exact (List.prefix_append_right_inj L1).2 (List.take_prefix _ _)

set_option maxHeartbeats 2000000 in
set_option maxRecDepth 100000 in
theorem ents1_in (n : Nat) (hn : 1 ≤ n) (l Bl sb rb : Nat) (a1 a2 : Option Addr) (b1 o1 n1 c1 b2 o2 n2 c2 : Nat) (L1 L2 : List ByteArray) (J Jx : List ByteArray → World → Prop) (W : World) (hJ : AbidesFrom W.heap.size J)
    (hY : ∀ pre x W1, J pre W1 → pre.length < (L1 ++ L2).length → YieldAt Fence.wide (n - 1) Tryz.prog l (eV x) W1 fun e W' => (e = .returned (.bool true) ∧ J (pre ++ [x]) W' ∧ KpB sb rb W1 W') ∨ (e = .returned (.bool false) ∧ Jx (pre ++ [x]) W'))
    (hc0 : W.cell? ⟨Bl, 0, none⟩ = some (.slice a1 n1 c1)) (hc1 : W.cell? ⟨Bl, 1, none⟩ = some (.slice a2 n2 c2)) (h1 : StrsAt W a1 b1 o1 n1 L1) (h2 : StrsAt W a2 b2 o2 n2 L2)
    (hb1 : 0 < n1 → b1 ≠ sb ∧ b1 ≠ rb) (hb2 : 0 < n2 → b2 ≠ sb ∧ b2 ≠ rb) (hsb : sb < W.heap.size) (hrb : rb < W.heap.size) (h0 : J [] W) :
    CallsIn Fence.wide n Tryz.prog 129 #[.func (.yield l) #[] #[], .pointer (some ⟨Bl, 0, none⟩)] W fun e W' => (∃ v, e = .returned v) ∧ ((∃ xs, xs = L1 ++ L2 ∧ J xs W') ∨ (∃ pre, pre <+: L1 ++ L2 ∧ Jx pre W')) := by
  obtain ⟨V, hV⟩ : ∃ V, V = W.alloc (.cells #[.slice a1 n1 c1, .slice a2 n2 c2] 25) := ⟨_, rfl⟩
  have hbV : Below W.heap.size W V := by rw [hV]; exact (Below.refl _ _).alloc (Nat.le_refl _) _
  have hmc : MC V W.heap.size [.slice a1 n1 c1, .slice a2 n2 c2] := by rw [hV]; exact MC.made W _ _
  have hI0 : ItS W.heap.size a1 a2 b1 o1 n1 c1 b2 o2 n2 c2 L1 L2 V := ⟨hmc 0 (by simp), hmc 1 (by simp), h1.below' hbV, h2.below' hbV⟩
  have hJV : J [] V := by rw [hV]; exact hJ [] W _ none h0 (World.grownBy_alloc W _ none) (fun r hr => by cases hr)
  have hq1 : W.heap.size ≠ sb := by omega
  have hq2 : W.heap.size ≠ rb := by omega
  have hm1 := h1.max
  have hm2 := h2.max
  unfold maxLen at hm1 hm2
  have HL1 := hid h1.len
  have HL2 := hid h2.len
  clear hmc h0
  refine callsIn_of_wp Tryz.func129 rfl trivial ?_ rfl
  simp only [Tryz.ntmps129, List.size_toArray, List.length_cons, List.length_nil, Nat.reduceAdd, Nat.reduceSub, Array.replicate_succ, Array.replicate_zero, List.push_toArray, List.append_toArray, List.nil_append, List.cons_append]
  gi_wp2
  rw [← hV]
  have hszV : W.heap.size < V.heap.size := by rw [hV]; simp
  clear hV hc0 hc1 h1 h2 hbV
  gi_loopw [13] (fun i wr => ((i = .int .i64 0 ∧ J [] wr) ∨ (i = .int .i64 1 ∧ J L1 wr) ∨ (i = .int .i64 2 ∧ J (L1 ++ L2) wr)) ∧ ItS W.heap.size a1 a2 b1 o1 n1 c1 b2 o2 n2 c2 L1 L2 wr ∧ W.heap.size < wr.heap.size) (fun i _ => 2 - (intOf i).toNat)
  case atStart => exact ⟨.inl ⟨rfl, hJV⟩, hI0, hszV⟩
  case round =>
    clear hI0 hJV hszV
    obtain ⟨hcase, hI, hsz⟩ := hrel
    rcases hcase with ⟨rfl, hJw⟩ | ⟨rfl, hJw⟩ | ⟨rfl, hJw⟩
    · have k0 := hI.k0
      gi_wp2
      gi_loopw [19] (fun i wr => ∃ j : Nat, j ≤ n1 ∧ i = .int .i64 j ∧ ItS W.heap.size a1 a2 b1 o1 n1 c1 b2 o2 n2 c2 L1 L2 wr ∧ J (L1.take j) wr ∧ W.heap.size < wr.heap.size) (fun i _ => n1 - (intOf i).toNat)
      case atStart => exact ⟨0, Nat.zero_le _, rfl, hI, by simpa using hJw, hsz⟩
      case round =>
        obtain ⟨j, hj, rfl, hI, hJw, hsz⟩ := hrel
        by_cases hlt : j < n1
        · obtain rfl := hI.s1.ad (by omega)
          have hc := hI.s1.cell j hlt
          obtain ⟨s, hs⟩ : ∃ s, s = L1.getD j ByteArray.empty := ⟨_, rfl⟩
          rw [← hs] at hc
          have HS := hid hs
          clear hs
          have hlt' : (j : Int) < (n1 : Int) := by omega
          have HIw := hid hI
          have HJw := hid hJw
          clear hI hJw
          gi_wp2_with (refine ⟨trivial, ?_⟩; gi_at_call 130; refine (callsIn_wide.2 (implReadE_any s _)).mono ?_; rintro e' w1 ⟨hret, hb1'⟩; obtain rfl := hret.ev; have hI1 := (HIw.out).below hb1'; have hJ1 : J (L1.take j) w1 := hJ _ _ _ none (HJw.out) (grownBy_below hb1') (fun r hr => by cases hr); obtain ⟨fn, tmps, assign, body, hy, hR⟩ := hY _ s w1 hJ1 (by simp [List.length_take, HL1.out, HL2.out]; omega); dsimp only [eV] at hy; have hsz1 := hb1'.size)
          refine hR.mono ?_
          rintro e W3 (⟨rfl, hJ3, hk3⟩ | ⟨rfl, hJx3⟩)
          · have hI3 := hI1.kp hk3 hq1 hq2 hb1 hb2
            have hsz3 := hk3.1
            gi_wp2
            go_roundw
            case rel => exact ⟨j + 1, by omega, by go_num, hI3, by rw [takeS_snoc (by rw [HL1.out]; exact hlt), ← HS.out]; exact hJ3, by omega⟩
            case measure => simp [intOf]; omega
          · gi_wp2
            refine bodyPost_ret (results_none rfl _ _ _) rfl ?_
            exact ⟨⟨_, rfl⟩, .inr ⟨_, pfx1 HS.out (by rw [HL1.out]; exact hlt), hJx3⟩⟩
        · obtain rfl : j = n1 := by omega
          rw [List.take_of_length_le (by rw [HL1.out]; omega)] at hJw
          gi_wp2
          go_roundw
          case rel => exact ⟨.inr (.inl ⟨rfl, hJw⟩), hI, hsz⟩
          case measure => simp [intOf]
    · have k1 := hI.k1
      gi_wp2
      gi_loopw [19] (fun i wr => ∃ j : Nat, j ≤ n2 ∧ i = .int .i64 j ∧ ItS W.heap.size a1 a2 b1 o1 n1 c1 b2 o2 n2 c2 L1 L2 wr ∧ J (L1 ++ L2.take j) wr ∧ W.heap.size < wr.heap.size) (fun i _ => n2 - (intOf i).toNat)
      case atStart => exact ⟨0, Nat.zero_le _, rfl, hI, by simpa using hJw, hsz⟩
      case round =>
        obtain ⟨j, hj, rfl, hI, hJw, hsz⟩ := hrel
        by_cases hlt : j < n2
        · obtain rfl := hI.s2.ad (by omega)
          have hc := hI.s2.cell j hlt
          obtain ⟨s, hs⟩ : ∃ s, s = L2.getD j ByteArray.empty := ⟨_, rfl⟩
          rw [← hs] at hc
          have HS := hid hs
          clear hs
          have hlt' : (j : Int) < (n2 : Int) := by omega
          have HIw := hid hI
          have HJw := hid hJw
          clear hI hJw
          gi_wp2_with (refine ⟨trivial, ?_⟩; gi_at_call 130; refine (callsIn_wide.2 (implReadE_any s _)).mono ?_; rintro e' w1 ⟨hret, hb1'⟩; obtain rfl := hret.ev; have hI1 := (HIw.out).below hb1'; have hJ1 : J (L1 ++ L2.take j) w1 := hJ _ _ _ none (HJw.out) (grownBy_below hb1') (fun r hr => by cases hr); obtain ⟨fn, tmps, assign, body, hy, hR⟩ := hY _ s w1 hJ1 (by simp [List.length_take, HL1.out, HL2.out]; omega); dsimp only [eV] at hy; have hsz1 := hb1'.size)
          refine hR.mono ?_
          rintro e W3 (⟨rfl, hJ3, hk3⟩ | ⟨rfl, hJx3⟩)
          · have hI3 := hI1.kp hk3 hq1 hq2 hb1 hb2
            have hsz3 := hk3.1
            gi_wp2
            go_roundw
            case rel => exact ⟨j + 1, by omega, by go_num, hI3, by rw [takeS_snoc (by rw [HL2.out]; exact hlt), ← HS.out, ← List.append_assoc]; exact hJ3, by omega⟩
            case measure => simp [intOf]; omega
          · gi_wp2
            refine bodyPost_ret (results_none rfl _ _ _) rfl ?_
            exact ⟨⟨_, rfl⟩, .inr ⟨_, pfx2 HS.out (by rw [HL2.out]; exact hlt), hJx3⟩⟩
        · obtain rfl : j = n2 := by omega
          rw [List.take_of_length_le (by rw [HL2.out]; omega)] at hJw
          gi_wp2
          go_roundw
          case rel => exact ⟨.inr (.inr ⟨rfl, hJw⟩), hI, hsz⟩
          case measure => simp [intOf]
    · gi_wp2
      go_end0
      exact ⟨⟨_, rfl⟩, .inl ⟨_, rfl, hJw⟩⟩
end Go.Proofs.YthopfmhagddhgaaGreat

namespace Go.Proofs.YthopfmhagddhgaaGreat
open Go.RowKit Go.Shelf
attribute [local go_sem] Oper.semAt_some

theorem Tryz.sizeStory : (Tryz.prog.info? 85).map (·.size) = some 3 := by kernel_rfl
theorem one3 (k e : Int) (a : Option Addr) (n c : Nat) : ∀ v ∈ [Value.int .i64 k, .int .i64 e, .slice a n c], v.oneCell' = true := by
  intro v hv
  simp only [List.mem_cons, List.not_mem_nil, or_false] at hv
  rcases hv with rfl | rfl | rfl <;> rfl
theorem Own.row_far {B : Nat} {w : World} {size : Nat} {v : Value} {n : Nat} {xs : List Value} (h : Own B w size v n xs) {P : Nat} (hP : P < B) : v.ownBlock = none ∨ v.ownBlock ≠ some P := by
  rcases h with ⟨rfl, _⟩ | ⟨g, o, cap, rfl, hc⟩
  · exact .inl rfl
  · exact .inr (by have := hc.lo; simp [Value.ownBlock]; omega)
theorem size_any (a1 a2 : Option Addr) (n1 c1 n2 c2 : Nat) (w : World) (h1 : n1 ≤ 1048576) (h2 : n2 ≤ 1048576) :
    Calls Tryz.prog 99 #[.agg #[.slice a1 n1 c1, .slice a2 n2 c2]] w fun e w' => e = .returned (.int .i64 ((n1 + n2 : Nat) : Int)) ∧ Below w.heap.size w w' := by
  go_enter Tryz.func99, Tryz.ntmps99
  go_wp2
  go_ret
  exact ⟨ret_int (by omega), (Below.refl _ _).alloc (Nat.le_refl _) _⟩

theorem entries_any (a1 a2 : Option Addr) (n1 c1 n2 c2 : Nat) (w : World) :
    Calls Tryz.prog 100 #[.agg #[.slice a1 n1 c1, .slice a2 n2 c2]] w fun e w' => e = .returned (.func (.func 129) #[] #[.pointer (some ⟨w.heap.size, 0, none⟩)]) ∧ w' = w.alloc (.cells #[.slice a1 n1 c1, .slice a2 n2 c2] 42) := by
  go_enter Tryz.func100, Tryz.ntmps100
  go_wp2
  go_ret
  exact ⟨rfl, rfl⟩

/-- 'make([]T, n)', for the walk in a fence. -/
theorem wpListIn_make_c {F : Fence} {m : Nat} {P : Program} (w : World) {ops : Array Oper} {rest : List Oper} {o : Oper} {a : Act} {Q : Exit → Act → World → Prop}
    (hg : o.guard = none) (l c : Operand) (t : TypeId) (hop : o.op = Op.makeSlice t l c)
    (B : Nat) (e : TypeId) (i : TypeInfo) (z : Value) (size bytes : Nat) (h1 : P.underlying t = some (.slice e)) (h2 : P.info? e = some i) (h3 : i.zero = some z) (h4 : i.size = size) (h5 : i.bytes = bytes)
    (kl kc : IntKind) (L C : Int) (n : Nat) (hl : a.eval l = .int kl L) (hc : a.eval c = .int kc C) (hL : L = (n : Int)) (hC : C = (n : Int)) (b2 : bytes * n ≤ 281474976710656) (b3 : n ≤ maxLen) (b4 : B ≤ w.heap.size)
    (hK : ∀ w', OwnC B w' size w.heap.size 0 n n (madeCells z.cells (n * size)).toList → w.grownBy w' none → w'.heap.size = w.heap.size + 1 → wpListIn F m P ops Q rest (a.put o.dst (.slice (some ⟨w.heap.size, 0, none⟩) n n)) w') :
    wpListIn F m P ops Q (o :: rest) a w := by
  subst h4; subst h5; subst hL; subst hC
  refine wpListIn_plain hg fun K hK' => ?_
  have hb3 : (n : Int) ≤ 9223372036854775807 := by have := b3; simp only [maxLen] at this; omega
  have hb2 : (i.bytes : Int) * (n : Int) ≤ 281474976710656 := by
    have h : ((i.bytes * n : Nat) : Int) ≤ 281474976710656 := by omega
    rwa [Int.natCast_mul] at h
  have hrun := run_make (P := P) w t e i z h1 h2 h3 kl kc n n (by omega) (Int.le_refl _) hb2 hb3
  simp only [Int.toNat_natCast] at hrun
  unfold Oper.wpIn
  refine ⟨?_, ?_⟩
  · simp [Oper.about, hop]
  · rw [Oper.semAt_plain F _ _ (by rw [hop]; intro c hc'; cases hc')]
    simp [execOp, hop, hl, hc, hrun, Result.andThen]
    refine hK' _ _ (hK _ (OwnC.made w B e i.size n n _ _ b4 (Nat.le_refl _) b3 (size_madeCells _ _) (Nat.le_refl _) _ ?_ (0, 0) (.inl rfl)) (World.grownBy_alloc w _ none) (by simp))
    rw [List.take_of_length_le (by simp [size_madeCells])]

theorem eAgg_form (s : ByteArray) : ∃ (k e d : Int) (x : ByteArray), eAgg s = .agg #[.int .i64 k, .int .i64 e, .int .i64 d, .string x] := by
  unfold eAgg
  cases evE s with
  | none => exact ⟨_, _, _, _, rfl⟩
  | some q => obtain ⟨k, e, d, x⟩ := q; exact ⟨_, _, _, _, rfl⟩
theorem deps_of_code {ts : List TaskD} (h : Code ts 0) : allDeps ts ts.length := by
  rcases h with ⟨h, _⟩ | ⟨_, h⟩
  · cases h
  rcases h with ⟨h, _⟩ | ⟨_, h⟩
  · cases h
  rcases h with ⟨h, _⟩ | ⟨_, h⟩
  · cases h
  rcases h with ⟨h, _⟩ | ⟨h, _⟩
  · cases h
  · exact h

set_option maxHeartbeats 4000000 in
set_option maxRecDepth 100000 in
theorem storyOf_any (a : Option Addr) (b o n c : Nat) (ts : List TaskD) (a1 a2 : Option Addr) (b1 o1 n1 c1 b2 o2 n2 c2 : Nat) (L1 L2 : List ByteArray) (w : World) (h : TasksAt w a b o n ts) (h1 : StrsAt w a1 b1 o1 n1 L1) (h2 : StrsAt w a2 b2 o2 n2 L2)
    (hm1 : n1 ≤ 1048576) (hm2 : n2 ≤ 1048576) :
    Calls Tryz.prog 44 #[.agg #[.slice a n c], .agg #[.slice a1 n1 c1, .slice a2 n2 c2]] w fun e w' => RetS e w w' ts (L1 ++ L2) ∧ Below w.heap.size w w' := by
  obtain ⟨W, hW⟩ : ∃ W, W = ((w.alloc (.cells #[.slice a n c] 41)).alloc (.cells #[.slice a1 n1 c1, .slice a2 n2 c2] 42)).alloc (.cells #[.int .i64 0, .int .i64 0, .slice none 0 0] 85) := ⟨_, rfl⟩
  have hbW : Below w.heap.size w W := by rw [hW]; exact (((Below.refl _ _).alloc (Nat.le_refl _) _).alloc (by simp) _).alloc (by simp; omega) _
  refine (callsIn_wide (n := 12)).1 ?_
  refine callsIn_of_wp_marks Tryz.func44 rfl trivial ?_ rfl
  simp only [Tryz.ntmps44, List.size_toArray, List.length_cons, List.length_nil, Nat.reduceAdd, Nat.reduceSub, Array.replicate_succ, Array.replicate_zero, List.push_toArray, List.append_toArray, List.nil_append, List.cons_append]
  gi_wp2_with fail
  rw [← hW]
  refine ⟨trivial, ?_⟩
  refine (callsIn_wide.2 (implCheckPlan_any a b o n c ts _ (h.below' hbW))).mono ?_
  rintro e w1 ⟨⟨cc, rfl, hcode⟩, hb1⟩
  have hsW : W.heap.size = w.heap.size + 3 := by rw [hW]; simp
  have hq : CF W w.heap.size [.slice a n c] ∧ CF W (w.heap.size + 1) [.slice a1 n1 c1, .slice a2 n2 c2] ∧ CF W (w.heap.size + 2) [.int .i64 0, .int .i64 0, .slice none 0 0] := by
    have x1 := CF.made w #[.slice a n c] 41
    have x2 := CF.made (w.alloc (.cells #[.slice a n c] 41)) #[.slice a1 n1 c1, .slice a2 n2 c2] 42
    have x3 := CF.made ((w.alloc (.cells #[.slice a n c] 41)).alloc (.cells #[.slice a1 n1 c1, .slice a2 n2 c2] 42)) #[.int .i64 0, .int .i64 0, .slice none 0 0] 85
    simp only [World.size_alloc] at x2 x3
    rw [hW]
    exact ⟨(x1.block (Below.heap_alloc _ _ _ (by simp))).block (Below.heap_alloc _ _ _ (by simp; omega)), x2.block (Below.heap_alloc _ _ _ (by simp)), x3⟩
  have hq1 : CF w1 w.heap.size [.slice a n c] ∧ CF w1 (w.heap.size + 1) [.slice a1 n1 c1, .slice a2 n2 c2] ∧ CF w1 (w.heap.size + 2) [.int .i64 0, .int .i64 0, .slice none 0 0] :=
    ⟨hq.1.block (hb1.block _ (by omega)), hq.2.1.block (hb1.block _ (by omega)), hq.2.2.block (hb1.block _ (by omega))⟩
  have hB1 := hbW.trans (hb1.mono (by omega))
  have hs1 : w.heap.size + 3 ≤ w1.heap.size := by have := hb1.size; omega
  clear hW hq hb1 hbW
  by_cases hcc : cc = 0
  · subst hcc
    have k0 : w1.cell? ⟨w.heap.size + 1, 0, none⟩ = some (.slice a1 n1 c1) := (hq1.2.1 0 (by simp)).1
    have k1 : w1.cell? ⟨w.heap.size + 1, 1, none⟩ = some (.slice a2 n2 c2) := (hq1.2.1 1 (by simp)).1
    gi_wp2_with fail
    refine ⟨trivial, ?_⟩
    refine (callsIn_wide.2 (size_any a1 a2 n1 c1 n2 c2 _ hm1 hm2)).mono ?_
    rintro e w2 ⟨rfl, hb2⟩
    have hq2 : CF w2 w.heap.size [.slice a n c] ∧ CF w2 (w.heap.size + 1) [.slice a1 n1 c1, .slice a2 n2 c2] ∧ CF w2 (w.heap.size + 2) [.int .i64 0, .int .i64 0, .slice none 0 0] :=
      ⟨hq1.1.block (hb2.block _ (by omega)), hq1.2.1.block (hb2.block _ (by omega)), hq1.2.2.block (hb2.block _ (by omega))⟩
    have hB2 := hB1.trans (hb2.mono (by omega))
    have hs2 : w.heap.size + 3 ≤ w2.heap.size := by have := hb2.size; omega
    clear hq1 hB1 hb2 k0 k1 hs1
    by_cases h310 : 310 < n1 + n2
    · have h310' : (310 : Int) < ((n1 + n2 : Nat) : Int) := by omega
      have z0 : w2.cell? ⟨w.heap.size + 2, 0, none⟩ = some (.int .i64 0) := (hq2.2.2 0 (by simp)).1
      have z1 : w2.cell? ⟨w.heap.size + 2, 1, none⟩ = some (.int .i64 0) := (hq2.2.2 1 (by simp)).1
      have z2 : w2.cell? ⟨w.heap.size + 2, 2, none⟩ = some (.slice none 0 0) := (hq2.2.2 2 (by simp)).1
      have y0 := (hq2.2.2 0 (by simp)).2
      have y1 := (hq2.2.2 1 (by simp)).2
      have y2 := (hq2.2.2 2 (by simp)).2
      gi_wp2
      refine ⟨.agg #[.int .i64 1, .int .i64 0, .slice none 0 0], by simp [results, Tryz.results44, go_sem, z0, z1, z2], ⟨1, 0, [], _, rfl, .inl ⟨fun hh => ?_, rfl, rfl, rfl⟩, Own.nil _ _ _⟩, ((hB2.setCell (p := ⟨w.heap.size + 1 + 1, 0, none⟩) (by dsimp only; omega) _).setCell (p := ⟨w.heap.size + 1 + 1, 1, none⟩) (by dsimp only; omega) _).setCell (p := ⟨w.heap.size + 1 + 1, 2, none⟩) (by dsimp only; omega) _⟩
      have := hh.2
      rw [List.length_append, h1.len, h2.len] at this
      omega
    · obtain ⟨i0, hi0, hz0, hz1, hz2⟩ := info_parts Tryz.info9
      have hin : 1 ≤ n ∧ n ≤ 40 := by
        have := h.len
        rcases hcode with ⟨hh, _⟩ | ⟨hh, _⟩
        · cases hh
        · omega
      have h310' : ¬ ((310 : Int) < ((n1 + n2 : Nat) : Int)) := by omega
      have z0 : w2.cell? ⟨w.heap.size, 0, none⟩ = some (.slice a n c) := (hq2.1 0 (by simp)).1
      gi_wp2_with (refine wpListIn_make_c _ rfl _ _ 25 rfl w2.heap.size 9 i0 (.string ⟨#[]⟩) 1 16 Tryz.underlying25 hi0 hz0 hz1 hz2 .i64 .i64 n n n rfl rfl rfl rfl (by omega) (by unfold maxLen; omega) (Nat.le_refl _) ?_; intro w3 hown3 hgrow3 hsz3; have kk0 : w3.cell? ⟨w.heap.size + 1, 0, none⟩ = some (.slice a1 n1 c1) := (World.cell?_of_block (w := w2) (hgrow3.block _ (by show w.heap.size + 1 < _; omega) (by simp))).trans (hq2.2.1 0 (by simp)).1; have kk1 : w3.cell? ⟨w.heap.size + 1, 1, none⟩ = some (.slice a2 n2 c2) := (World.cell?_of_block (w := w2) (hgrow3.block _ (by show w.heap.size + 1 < _; omega) (by simp))).trans (hq2.2.1 1 (by simp)).1; have hl3 : w.heap.size + 1 < w3.heap.size := (by omega); have ka0 : (w3.alloc (.cells #[.int .i64 0, .int .i64 0, .slice (some ⟨w2.heap.size, 0, none⟩) n n] 85)).cell? ⟨w.heap.size + 1, 0, none⟩ = some (.slice a1 n1 c1) := (World.cell?_alloc_lt w3 _ ⟨w.heap.size + 1, 0, none⟩ hl3).trans kk0; have ka1 : (w3.alloc (.cells #[.int .i64 0, .int .i64 0, .slice (some ⟨w2.heap.size, 0, none⟩) n n] 85)).cell? ⟨w.heap.size + 1, 1, none⟩ = some (.slice a2 n2 c2) := (World.cell?_alloc_lt w3 _ ⟨w.heap.size + 1, 1, none⟩ hl3).trans kk1)
      refine ⟨trivial, ?_⟩
      refine (callsIn_wide.2 (entries_any a1 a2 n1 c1 n2 c2 _)).mono ?_
      rintro e w4 ⟨rfl, hw4⟩
      rw [World.size_alloc, hsz3]
      have hmd : (madeCells (Value.string ⟨#[]⟩).cells (n * 1)).toList = (List.replicate n (⟨#[]⟩ : ByteArray)).map Value.string := by rw [made_one _ rfl, List.map_replicate]
      rw [hmd] at hown3
      have hs4 : w4.heap.size = w2.heap.size + 3 := by rw [hw4, World.size_alloc, World.size_alloc, hsz3]
      have hg4 : ∀ k, k < w3.heap.size → w4.heap[k]? = w3.heap[k]? := fun k hk => by rw [hw4]; exact (Below.heap_alloc _ _ _ (by simp; omega)).trans (Below.heap_alloc _ _ _ hk)
      have hg24 : ∀ k, k < w2.heap.size → w4.heap[k]? = w2.heap[k]? := fun k hk => (hg4 k (by omega)).trans (hgrow3.block k hk (by simp))
      have hown4 : OwnC w2.heap.size w4 1 w2.heap.size 0 n n ((st0 n).2.map Value.string) := hown3.block (hg4 _ (by omega))
      have hsb4 : CF w4 (w2.heap.size + 1) [.int .i64 0, .int .i64 (st0 n).1, .slice (some ⟨w2.heap.size, 0, none⟩) n n] := by
        have x1 := CF.made w3 #[.int .i64 0, .int .i64 0, .slice (some ⟨w2.heap.size, 0, none⟩) n n] 85
        rw [hsz3] at x1
        rw [hw4]
        exact x1.block (Below.heap_alloc _ _ _ (by simp; omega))
      have hbl4 : CF w4 (w2.heap.size + 1 + 1) [.slice a1 n1 c1, .slice a2 n2 c2] := by
        have x1 := CF.made (w3.alloc (.cells #[.int .i64 0, .int .i64 0, .slice (some ⟨w2.heap.size, 0, none⟩) n n] 85)) #[.slice a1 n1 c1, .slice a2 n2 c2] 42
        rw [World.size_alloc, hsz3] at x1
        rw [hw4]
        exact x1
      have hB4 : Below w.heap.size w w4 := hB2.trans ⟨by rw [hw4]; exact hgrow3.os, by rw [hw4]; exact hgrow3.tape, by rw [hw4]; exact hgrow3.output, by omega, fun k hk => hg24 k (by omega)⟩
      have hq4 : CF w4 w.heap.size [.slice a n c] ∧ CF w4 (w.heap.size + 1 + 1) [.int .i64 0, .int .i64 0, .slice none 0 0] := ⟨hq2.1.block (hg24 _ (by omega)), hq2.2.2.block (hg24 _ (by omega))⟩
      have hst : SeqStopsK Fence.wide (12 - 1) Tryz.prog 129 #[.pointer (some ⟨w2.heap.size + 1 + 1, 0, none⟩)] eV (KpB (w2.heap.size + 1) w2.heap.size) (fun xs => xs = L1 ++ L2) (fun pre => pre <+: L1 ++ L2) (L1 ++ L2).length w4 := fun l J Jx V hV hJ _ hY h0 =>
        ents1_in (12 - 1) (by omega) l (w2.heap.size + 1 + 1) (w2.heap.size + 1) w2.heap.size a1 a2 b1 o1 n1 c1 b2 o2 n2 c2 L1 L2 J Jx V hJ hY (keepB hV (hbl4 0 (by simp)).1) (keepB hV (hbl4 1 (by simp)).1) ((h1.below' hB4).below' hV) ((h2.below' hB4).below' hV)
          (fun hn => by have := h1.lt hn; omega) (fun hn => by have := h2.lt hn; omega) (by have := hV.size; omega) (by have := hV.size; omega) h0
      have hl310 : (L1 ++ L2).length ≤ 310 := by rw [List.length_append, h1.len, h2.len]; omega
      have hA := deps_of_code hcode
      have HC : Hid (Code ts 0) := hcode
      have hnl : ts.length = n := h.len
      clear hw4 hg4 hg24 hgrow3 hown3 kk0 kk1 ka0 ka1 hl3 hq2 hmd z0 hcode
      have HST := hid hst
      clear hst
      gi_wp2
      refine wpIn_rangeFunc_ownH rfl (by omega) (gf := 129) (lb := #[.pointer (some ⟨w2.heap.size + 1 + 1, 0, none⟩)]) rfl trivial (enters_of Tryz.func129 (by kernel_rfl) rfl)
        HST.out (fun h k => KpB.trans h k) (fun V l o o' _ hl hc _ => KpB.put V l o o' hl hc) (Below.refl _ _) (fun _ => rfl)
        (fun pre V => (∃ E R, rep ts pre (st0 n) = some (E, R) ∧ CF V (w2.heap.size + 1) [.int .i64 0, .int .i64 E, .slice (some ⟨w2.heap.size, 0, none⟩) n n] ∧ OwnC w2.heap.size V 1 w2.heap.size 0 n n (R.map Value.string) ∧ CF V w.heap.size [.slice a n c] ∧ CF V (w.heap.size + 1 + 1) [.int .i64 0, .int .i64 0, .slice none 0 0] ∧ w2.heap.size + 3 ≤ V.heap.size) ∧ Below w.heap.size w V)
        (fun c pre V => (c = .ret ∧ rep ts pre (st0 n) = none ∧ CF V (w.heap.size + 1 + 1) [.int .i64 2, .int .i64 0, .slice none 0 0] ∧ w2.heap.size + 3 ≤ V.heap.size) ∧ Below w.heap.size w V)
        ?hI ?hIx ⟨⟨_, _, rfl, hsb4, hown4, hq4.1, hq4.2, by omega⟩, hB4⟩
        (fun x a' V => ∃ (k e d : Int) (s : ByteArray) (Bx : Nat), eAgg x = .agg #[.int .i64 k, .int .i64 e, .int .i64 d, .string s] ∧ w2.heap.size + 3 ≤ Bx ∧ CF V Bx [.int .i64 k, .int .i64 e, .int .i64 d, .string s] ∧ a' = { tmps := #[.agg #[.slice a n c], .agg #[.slice a1 n1 c1, .slice a2 n2 c2], .pointer (some ⟨w.heap.size, 0, none⟩), .pointer (some ⟨w.heap.size + 1, 0, none⟩), .pointer (some ⟨w.heap.size + 1 + 1, 0, none⟩), .pointer (some ⟨w2.heap.size + 1, 0, none⟩), .pointer (some ⟨Bx, 0, none⟩), .bool (eOk x), .agg #[.slice a n c], .int .i64 0, .bool false, .bool false, .agg #[.slice a1 n1 c1, .slice a2 n2 c2], .int .i64 (↑n1 + ↑n2), .bool (decide ((310 : Int) < ↑n1 + ↑n2)), .bool (decide ((310 : Int) < ↑n1 + ↑n2)), undef, .pointer (some ⟨w.heap.size, 0, none⟩), .slice a n c, .int .i64 n, .slice (some ⟨w2.heap.size, 0, none⟩) n n, .agg #[.int .i64 0, .int .i64 0, .slice (some ⟨w2.heap.size, 0, none⟩) n n], .agg #[.slice a1 n1 c1, .slice a2 n2 c2], .func (.func 129) #[] #[.pointer (some ⟨w2.heap.size + 1 + 1, 0, none⟩)], .agg #[.int .i64 k, .int .i64 e, .int .i64 d, .string s], .bool (eOk x), undef, undef, undef, undef, undef, undef, undef, undef, undef, undef], defers := [] })
        ?hAx ?assign ?body ?done ?stop
      case hI =>
        refine OwnFrom.and ?_ (ownFrom_below (Nat.le_refl _) (by omega))
        rintro s X Y row ⟨E, R, g1, g2, g3, g4, g5, g6⟩ hg hr
        have hne : ∀ k, k < w4.heap.size → some k ≠ row := fun k hk e => by have := (hr k e.symm).1; omega
        exact ⟨E, R, g1, g2.block (hg.block _ (by omega) (hne _ (by omega))), g3.block (hg.block _ (by omega) (hne _ (by omega))), g4.block (hg.block _ (by omega) (hne _ (by omega))), g5.block (hg.block _ (by omega) (hne _ (by omega))), Nat.le_trans g6 hg.size⟩
      case hIx =>
        intro c
        refine OwnFrom.and ?_ (ownFrom_below (Nat.le_refl _) (by omega))
        rintro s X Y row ⟨g1, g2, g3, g6⟩ hg hr
        have hne : ∀ k, k < w4.heap.size → some k ≠ row := fun k hk e => by have := (hr k e.symm).1; omega
        exact ⟨g1, g2, g3.block (hg.block _ (by omega) (hne _ (by omega))), Nat.le_trans g6 hg.size⟩
      case hAx =>
        rintro x a' _ X Y row ⟨k, e, d, s, Bx, g1, g2, g3, g4⟩ hg hr
        obtain ⟨o, ho, hc⟩ := cells_of_cell (g3 0 (by simp)).1
        exact ⟨k, e, d, s, Bx, g1, g2, g3.block (hg.block _ (Array.getElem?_eq_some_iff.1 ho).1 (fun e => by obtain ⟨_, o', ho', hc'⟩ := hr _ e.symm; rw [ho] at ho'; cases ho'; rw [hc] at hc'; cases hc')), g4⟩
      case assign =>
        rintro l pre x V K ⟨⟨E, R, g1, g2, g3, g4, g5, g6⟩, hB⟩ hK
        obtain ⟨k, e, d, s, hx⟩ := eAgg_form x
        simp only [eV, hx]
        gi_wp2
        exact hK _ _ ((KeepsOthers.alloc _ _).from _) (KpB.of (But.of ((Below.refl _ _).alloc (Nat.le_refl _) _)))
          ⟨⟨E, R, g1, g2.block (Below.heap_alloc _ _ _ (by omega)), g3.block (Below.heap_alloc _ _ _ (by omega)), g4.block (Below.heap_alloc _ _ _ (by omega)), g5.block (Below.heap_alloc _ _ _ (by omega)), by simp; omega⟩, hB.alloc hB.size _⟩
          ⟨k, e, d, s, V.heap.size, hx, g6, CF.made V #[.int .i64 k, .int .i64 e, .int .i64 d, .string s] 135, rfl⟩
      case body =>
        rintro l pre x a' V hl _ ⟨⟨E, R, g1, g2, g3, g4, g5, g6⟩, hB⟩ ⟨k, e, d, s, Bx, hx, hBx, gx, rfl⟩ hlt
        have hok0 := (rep_ok pre (st0_ok n) g1)
        have hzz : ∀ s ∈ R, s.size ≤ 8 := hok0.2.2.2
        have hE0 : 0 ≤ E := hok0.1
        have hE1 : E ≤ 100000 := by have := hok0.2.1; dsimp only at this; omega
        have HREP := hid g1
        clear g1 hok0
        cases hok : eOk x with
        | false =>
          have HN := hid (show rep ts (pre ++ [x]) (st0 n) = none by
            have : evE x = none := by unfold eOk at hok; simpa using hok
            rw [rep_snoc, HREP.out]
            simp [stepR, this])
          have z0 : V.cell? ⟨w.heap.size + 1 + 1, 0, none⟩ = some (.int .i64 0) := (g5 0 (by simp)).1
          have y0 := (g5 0 (by simp)).2
          have z1 : V.cell? ⟨w.heap.size + 1 + 1, 1, none⟩ = some (.int .i64 0) := (g5 1 (by simp)).1
          have y1 := (g5 1 (by simp)).2
          have z2 : V.cell? ⟨w.heap.size + 1 + 1, 2, none⟩ = some (.slice none 0 0) := (g5 2 (by simp)).1
          have y2 := (g5 2 (by simp)).2
          gi_wp2
          refine ⟨trivial, ?_⟩
          gi_wp2
          have hS := ((g5.set (j := 0) (by simp) (.int .i64 2)).set (j := 1) (by simp) (.int .i64 0)).set (j := 2) (by simp) (.slice none 0 0)
          exact ⟨(((KeepsOthers.setCell _ _ _).trans (KeepsOthers.setCell _ _ _)).trans (KeepsOthers.setCell _ _ _)).from _, ⟨rfl, HN.out, hS, by simp [World.setCell]; omega⟩,
            ((hB.setCell (p := ⟨w.heap.size + 1 + 1, 0, none⟩) (by dsimp only; omega) _).setCell (p := ⟨w.heap.size + 1 + 1, 1, none⟩) (by dsimp only; omega) _).setCell (p := ⟨w.heap.size + 1 + 1, 2, none⟩) (by dsimp only; omega) _⟩
        | true =>
          have hev : evE x = some (k, e, d, s) := by
            unfold eOk at hok
            unfold eAgg at hx
            cases hq : evE x with
            | none => rw [hq] at hok; cases hok
            | some q =>
              obtain ⟨k', e', d', s'⟩ := q
              rw [hq] at hx
              simp only [Value.agg.injEq] at hx
              injection hx with hx
              simp only [List.cons.injEq, Value.int.injEq, Value.string.injEq, and_true, true_and] at hx
              obtain ⟨rfl, rfl, rfl, rfl⟩ := hx
              rfl
          have hvE := (evE_good hev).1
          have HST2 := hid (show rep ts (pre ++ [x]) (st0 n) = step1 ts (E, R) (k, e, d, s) by
            rw [rep_snoc, HREP.out]
            simp [stepR, hev])
          have p0 : V.cell? ⟨w.heap.size, 0, none⟩ = some (.slice a n c) := (g4 0 (by simp)).1
          have e0 : V.cell? ⟨Bx, 0, none⟩ = some (.int .i64 k) := (gx 0 (by simp)).1
          have e1 : V.cell? ⟨Bx, 1, none⟩ = some (.int .i64 e) := (gx 1 (by simp)).1
          have e2 : V.cell? ⟨Bx, 2, none⟩ = some (.int .i64 d) := (gx 2 (by simp)).1
          have e3 : V.cell? ⟨Bx, 3, none⟩ = some (.string s) := (gx 3 (by simp)).1
          have HCALL := hid (goOn_any a b o n c ts w2.heap.size (w2.heap.size + 1) w2.heap.size E R k e d s V (h.below' hB) (hnl ▸ hA) g2 g3 hzz (by omega) hE0 hE1 hvE)
          clear hev hvE hx hzz
          gi_wp2_with fail
          refine ⟨trivial, ?_⟩
          refine (CallsIn.inRound l (callsIn_wide.2 HCALL.out)).mono ?_
          rintro e' V1 ⟨⟨r', rfl, hT, hF⟩, hbut⟩
          have hsz1 := hbut.size
          have hKF : KeepsFrom w4.heap.size V V1 := ⟨hbut.size, fun q oq hq1 hq2 _ => (hbut.block q (Array.getElem?_eq_some_iff.1 hq2).1 (by omega) (by omega)).trans hq2⟩
          have hB1 : Below w.heap.size w V1 := But.below hB hbut (by omega) (by omega) hB.size
          have g41 : CF V1 w.heap.size [.slice a n c] := g4.block (hbut.block _ (by omega) (by omega) (by omega))
          have g51 : CF V1 (w.heap.size + 1 + 1) [.int .i64 0, .int .i64 0, .slice none 0 0] := g5.block (hbut.block _ (by omega) (by omega) (by omega))
          clear e0 e1 e2 e3 p0 HCALL
          cases r' with
          | true =>
            obtain ⟨E', R', hs1, c1', c2'⟩ := hT rfl
            have HS1 := hid (HST2.out.trans hs1)
            clear hT hF hs1 HST2
            gi_wp2
            exact ⟨hKF, KpB.of hbut, ⟨E', R', HS1.out, c1', c2', g41, g51, by omega⟩, hB1⟩
          | false =>
            have HS1 := hid (HST2.out.trans (hF rfl))
            clear hT hF HST2
            have z0 : V1.cell? ⟨w.heap.size + 1 + 1, 0, none⟩ = some (.int .i64 0) := (g51 0 (by simp)).1
            have y0 := (g51 0 (by simp)).2
            have z1 : V1.cell? ⟨w.heap.size + 1 + 1, 1, none⟩ = some (.int .i64 0) := (g51 1 (by simp)).1
            have y1 := (g51 1 (by simp)).2
            have z2 : V1.cell? ⟨w.heap.size + 1 + 1, 2, none⟩ = some (.slice none 0 0) := (g51 2 (by simp)).1
            have y2 := (g51 2 (by simp)).2
            gi_wp2
            have hS := ((g51.set (j := 0) (by simp) (.int .i64 2)).set (j := 1) (by simp) (.int .i64 0)).set (j := 2) (by simp) (.slice none 0 0)
            exact ⟨hKF.trans ((((KeepsOthers.setCell _ _ _).trans (KeepsOthers.setCell _ _ _)).trans (KeepsOthers.setCell _ _ _)).from _), ⟨rfl, HS1.out, hS, by simp [World.setCell]; omega⟩,
              ((hB1.setCell (p := ⟨w.heap.size + 1 + 1, 0, none⟩) (by dsimp only; omega) _).setCell (p := ⟨w.heap.size + 1 + 1, 1, none⟩) (by dsimp only; omega) _).setCell (p := ⟨w.heap.size + 1 + 1, 2, none⟩) (by dsimp only; omega) _⟩
      case done =>
        rintro D xs V hD rfl ⟨⟨E, R, g1, g2, g3, g4, g5, g6⟩, hB⟩ hK
        have HREP := hid g1
        have hRl : R.length = n := (rep_ok _ (st0_ok n) g1).2.2.1
        have s0 : V.cell? ⟨w2.heap.size + 1, 0, none⟩ = some (.int .i64 0) := (g2 0 (by simp)).1
        have s1 : V.cell? ⟨w2.heap.size + 1, 1, none⟩ = some (.int .i64 E) := (g2 1 (by simp)).1
        have s2 : V.cell? ⟨w2.heap.size + 1, 2, none⟩ = some (.slice (some ⟨w2.heap.size, 0, none⟩) n n) := (g2 2 (by simp)).1
        have z0 : V.cell? ⟨w.heap.size + 1 + 1, 0, none⟩ = some (.int .i64 0) := (g5 0 (by simp)).1
        have y0 := (g5 0 (by simp)).2
        have z1 : V.cell? ⟨w.heap.size + 1 + 1, 1, none⟩ = some (.int .i64 0) := (g5 1 (by simp)).1
        have y1 := (g5 1 (by simp)).2
        have z2 : V.cell? ⟨w.heap.size + 1 + 1, 2, none⟩ = some (.slice none 0 0) := (g5 2 (by simp)).1
        have y2 := (g5 2 (by simp)).2
        clear g1
        gi_wp2
        have hS := ((g5.set (j := 0) (by simp) (.int .i64 0)).set (j := 1) (by simp) (.int .i64 E)).set (j := 2) (by simp) (.slice (some ⟨w2.heap.size, 0, none⟩) n n)
        have hR3 := ((g3.setOther (p := ⟨w.heap.size + 1 + 1, 0, none⟩) (by dsimp only; omega) (.int .i64 0)).setOther (p := ⟨w.heap.size + 1 + 1, 1, none⟩) (by dsimp only; omega) (.int .i64 E)).setOther (p := ⟨w.heap.size + 1 + 1, 2, none⟩) (by dsimp only; omega) (.slice (some ⟨w2.heap.size, 0, none⟩) n n)
        have hB3 := ((hB.setCell (p := ⟨w.heap.size + 1 + 1, 0, none⟩) (by dsimp only; omega) (.int .i64 0)).setCell (p := ⟨w.heap.size + 1 + 1, 1, none⟩) (by dsimp only; omega) (.int .i64 E)).setCell (p := ⟨w.heap.size + 1 + 1, 2, none⟩) (by dsimp only; omega) (.slice (some ⟨w2.heap.size, 0, none⟩) n n)
        have hK3 := (KeepsOthers.setCell _ ⟨w.heap.size + 1 + 1, 2, none⟩ (.slice (some ⟨w2.heap.size, 0, none⟩) n n)).same D _ ((KeepsOthers.setCell _ ⟨w.heap.size + 1 + 1, 1, none⟩ (.int .i64 E)).same D _ ((KeepsOthers.setCell V ⟨w.heap.size + 1 + 1, 0, none⟩ (.int .i64 0)).same D _ hK rfl) rfl) rfl
        obtain ⟨V3, hV3⟩ : ∃ V3, V3 = ((V.setCell ⟨w.heap.size + 1 + 1, 0, none⟩ (.int .i64 0)).setCell ⟨w.heap.size + 1 + 1, 1, none⟩ (.int .i64 E)).setCell ⟨w.heap.size + 1 + 1, 2, none⟩ (.slice (some ⟨w2.heap.size, 0, none⟩) n n) := ⟨_, rfl⟩
        have hV3s : V3.heap.size = V.heap.size := by rw [hV3]; simp [World.setCell]
        rw [← hV3] at hS hR3 hB3 hK3
        rw [← hV3]
        clear hV3 z0 z1 z2 y0 y1 y2 s0 s1 s2
        refine ⟨by simp, .inl ⟨_, _, rfl, run_takeDeferred hK3, ?_⟩⟩
        have hgp := grownBy_putObj' V3 D (.deferred none)
        have hS5 := hS.block (hgp.block _ (by omega) (by intro hh; injection hh with hh; omega))
        have hR5 := hR3.block (hgp.block _ (by omega) (by intro hh; injection hh with hh; omega))
        have c0 := (hS5 0 (by simp)).1
        have c1' := (hS5 1 (by simp)).1
        have c2' := (hS5 2 (by simp)).1
        refine ⟨.agg #[.int .i64 0, .int .i64 E, .slice (some ⟨w2.heap.size, 0, none⟩) n n], ?_, ⟨0, E, R, _, rfl, .inr ⟨⟨HC.out, hl310⟩, .inr ⟨by rw [hnl]; exact HREP.out, rfl⟩⟩, .inr ⟨w2.heap.size, 0, n, by rw [hRl], by rw [hRl]; exact (hR5.mono hB2.size)⟩⟩, hB3.trans (belowK_b (w := w) (Nat.le_refl _) V3 D _ _ (by omega) hK3 rfl rfl)⟩
        simp [results, Tryz.results44, go_sem, c0, c1', c2']
      case stop =>
        rintro D c' pre V hD hpre ⟨⟨rfl, hn0, g3, g6⟩, hB⟩ hK
        gi_wp2
        refine ⟨by simp, .inl ⟨_, _, rfl, run_takeDeferred hK, ?_⟩⟩
        have hgp := grownBy_putObj' V D (.deferred none)
        have hS5 := g3.block (hgp.block _ (by omega) (by intro hh; injection hh with hh; omega))
        have c0 := (hS5 0 (by simp)).1
        have c1' := (hS5 1 (by simp)).1
        have c2' := (hS5 2 (by simp)).1
        refine ⟨.agg #[.int .i64 2, .int .i64 0, .slice none 0 0], ?_, ⟨2, 0, [], _, rfl, .inr ⟨⟨HC.out, hl310⟩, .inl ⟨?_, rfl, rfl, rfl⟩⟩, Own.nil _ _ _⟩, hB.trans (belowK_b (w := w) (Nat.le_refl _) V D _ _ (by omega) hK rfl rfl)⟩
        · simp [results, Tryz.results44, go_sem, c0, c1', c2']
        · obtain ⟨t, ht⟩ := hpre
          rw [← ht, hnl]
          exact rep_none hn0
  · have hcc' : (cc == 0) = false := by simpa using hcc
    have HN : Hid (¬ Code ts 0) := fun hh => hcc (hcode.one hh)
    clear hcode
    have z0 : w1.cell? ⟨w.heap.size + 1 + 1, 0, none⟩ = some (.int .i64 0) := (hq1.2.2 0 (by simp)).1
    have z1 : w1.cell? ⟨w.heap.size + 1 + 1, 1, none⟩ = some (.int .i64 0) := (hq1.2.2 1 (by simp)).1
    have z2 : w1.cell? ⟨w.heap.size + 1 + 1, 2, none⟩ = some (.slice none 0 0) := (hq1.2.2 2 (by simp)).1
    have y0 := (hq1.2.2 0 (by simp)).2
    have y1 := (hq1.2.2 1 (by simp)).2
    have y2 := (hq1.2.2 2 (by simp)).2
    gi_wp2
    refine ⟨trivial, ?_⟩
    gi_wp2
    exact ⟨.agg #[.int .i64 1, .int .i64 0, .slice none 0 0], by simp [results, Tryz.results44, go_sem, z0, z1, z2], ⟨1, 0, [], _, rfl, .inl ⟨fun hh => HN.out hh.1, rfl, rfl, rfl⟩, Own.nil _ _ _⟩, ((hB1.setCell (p := ⟨w.heap.size + 1 + 1, 0, none⟩) (by dsimp only; omega) _).setCell (p := ⟨w.heap.size + 1 + 1, 1, none⟩) (by dsimp only; omega) _).setCell (p := ⟨w.heap.size + 1 + 1, 2, none⟩) (by dsimp only; omega) _⟩

end Go.Proofs.YthopfmhagddhgaaGreat
