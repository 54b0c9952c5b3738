import Derived.Test.YtlpmcjlcmjlbeaaQLwu
import Derived.Test.YtlpmcjlcmjlbeaaQLwb
namespace Go.Proofs.Ytlpmcjlcmjlbeaa
open Go.RowKit

set_option maxRecDepth 100000 in
set_option maxHeartbeats 4000000 in
theorem eqActed_any (nu ep : Int) (up : Bool) (st le ta co lf : Int) (x : ByteArray) (si : Int) (a a' : Option Addr) (b o n c b' o' c' : Nat) (ss : List ByteArray) (q : Option OM) (v v' : Value) (B B' : Nat) (w : World) (h : StrsAt w a b o n ss) (h' : StrsAt w a' b' o' n ss) (ho : Own B w 8 v (outN q) (outL q)) (ho' : Own B' w 8 v' (outN q) (outL q)) :
    Calls Try.prog 22 #[.agg #[.int .i64 nu, .int .i64 ep, .bool up, .int .i64 st, .int .i64 le, .int .i64 ta, .int .i64 co, .int .i64 lf, .slice a n c, .string x, .int .i64 si, v], .agg #[.int .i64 nu, .int .i64 ep, .bool up, .int .i64 st, .int .i64 le, .int .i64 ta, .int .i64 co, .int .i64 lf, .slice a' n c', .string x, .int .i64 si, v']] w fun e w' => e = .returned (.bool true) ∧ Below w.heap.size w w' := by
  obtain ⟨va, vc, rfl⟩ := ho.slc
  obtain ⟨va', vc', rfl⟩ := ho'.slc
  obtain ⟨N, hN⟩ : ∃ N, N = outN q := ⟨_, rfl⟩
  have HEQ : Hid (∀ w1 : World, Own B w1 8 (.slice va N vc) (outN q) (outL q) → Own B' w1 8 (.slice va' N vc') (outN q) (outL q) → Calls Try.prog 52 #[.slice va N vc, .slice va' N vc'] w1 fun e w' => e = .returned (.bool true) ∧ Below w1.heap.size w1 w') := fun w1 h1 h2 => eqMessageS_any q _ _ B B' w1 h1 h2
  have HO : Hid (Own B w 8 (.slice va N vc) (outN q) (outL q)) := by rw [hN]; exact ho
  have HO' : Hid (Own B' w 8 (.slice va' N vc') (outN q) (outL q)) := by rw [hN]; exact ho'
  rw [← hN]
  clear hN ho ho'
  obtain ⟨W, hW⟩ : ∃ W, W = (w.alloc (.cells #[.int .i64 nu, .int .i64 ep, .bool up, .int .i64 st, .int .i64 le, .int .i64 ta, .int .i64 co, .int .i64 lf, .slice a n c, .string x, .int .i64 si, .slice va N vc] 39)).alloc (.cells #[.int .i64 nu, .int .i64 ep, .bool up, .int .i64 st, .int .i64 le, .int .i64 ta, .int .i64 co, .int .i64 lf, .slice a' n c', .string x, .int .i64 si, .slice va' N vc'] 39) := ⟨_, rfl⟩
  have hb0 : Below w.heap.size w W := by rw [hW]; exact ((Below.refl _ _).alloc (Nat.le_refl _) _).alloc (by simp) _
  have c11 : W.cell? ⟨w.heap.size, 11, none⟩ = some (.slice va N vc) := by rw [hW]; simp [go_sem]
  have d11 : W.cell? ⟨w.heap.size + 1, 11, none⟩ = some (.slice va' N vc') := by rw [hW]; simp [go_sem]
  have HW := hid hW
  clear hW
  go_enter Try.func22, Try.ntmps22
  go_wp2_with fail
  rw [← HW.out]
  refine (eqWorker_any nu ep up st le ta co lf x si a a' b o n c b' o' c' ss _ (h.below' hb0) (h'.below' hb0)).mono ?_
  rintro e1 w1 ⟨rfl, hb1⟩
  clear HW
  have k11 := keepB hb1 c11
  have l11 := keepB hb1 d11
  have hB1 := hb0.trans (hb1.mono hb0.size)
  clear c11 d11
  go_wp2_with fail
  refine (HEQ.out _ (HO.out.below hB1 (Nat.le_refl _)) (HO'.out.below hB1 (Nat.le_refl _))).mono ?_
  rintro e2 w2 ⟨rfl, hb2⟩
  have hB2 := hB1.trans (hb2.mono hB1.size)
  clear k11 l11
  go_wp2
  go_ret
  exact ⟨rfl, hB2⟩

set_option maxHeartbeats 1000000 in
theorem markMessageS_none (va : Option Addr) (vc : Nat) (k : Int) (w : World) : Calls Try.prog 55 #[.slice va 0 vc, .int .i64 k] w fun e w' => e = .returned (.int .i64 k) ∧ w' = w := by
  go_enter Try.func55, Try.ntmps55
  go_wp2
  go_rounds 1
  go_ret
  exact ⟨rfl, rfl⟩
set_option maxHeartbeats 1000000 in
theorem heldMessageS_none (va : Option Addr) (vc : Nat) (k : Int) (w : World) : Calls Try.prog 56 #[.slice va 0 vc, .int .i64 k] w fun e w' => e = .returned (.int .i64 k) ∧ w' = w := by
  go_enter Try.func56, Try.ntmps56
  go_wp2
  go_rounds 1
  go_ret
  exact ⟨rfl, rfl⟩
/-- What is told, marked from k on. -/
def Marked (w : World) (k : Nat) (q : Option OM) (v : Value) : Prop := (q = none ∧ ∃ a c, v = .slice a 0 c) ∨ ∃ m g o c, q = some m ∧ v = .slice (some ⟨g, o, none⟩) 1 c ∧ g < w.heap.size ∧ M8 w g o (mkL k)
theorem Marked.block {w w' : World} {k : Nat} {q : Option OM} {v : Value} (h : Marked w k q v) (hb : Below w.heap.size w w') : Marked w' k q v := by
  rcases h with h | ⟨m, g, o, c, h1, h2, h3, h4⟩
  · exact .inl h
  · exact .inr ⟨m, g, o, c, h1, h2, Nat.lt_of_lt_of_le h3 hb.size, h4.block (hb.block g h3)⟩
theorem markMessageS_any (q : Option OM) (v : Value) (B k : Nat) (w : World) (h1 : 0 < k) (h2 : k ≤ 1099511000000) (h : Own B w 8 v (outN q) (outL q)) :
    Calls Try.prog 55 #[v, .int .i64 (k : Int)] w fun e w' => e = .returned (.int .i64 ((k : Int) + 7 * (outN q : Nat))) ∧ Marked w' k q v ∧ w.grownBy w' v.ownBlock := by
  cases q with
  | none =>
    obtain ⟨a, c, rfl⟩ := h.slc
    refine (markMessageS_none a c k w).mono ?_
    rintro e w' ⟨rfl, rfl⟩
    exact ⟨by simp [outN], .inl ⟨rfl, a, c, rfl⟩, World.grownBy.refl _ _⟩
  | some m =>
    rcases h with ⟨_, h0, _⟩ | ⟨g, o, cap, rfl, hc⟩
    · simp [outN] at h0
    refine (markMessageS_some m.k m.f 0 m.e m.l m.d m.x g o cap k w h1 h2 hc.hi hc.m8).mono ?_
    rintro e w' ⟨rfl, hm, hg⟩
    exact ⟨by simp [outN], .inr ⟨m, g, o, cap, rfl, rfl, Nat.lt_of_lt_of_le hc.hi hg.size, hm⟩, hg⟩
theorem heldMessageS_any (q : Option OM) (v : Value) (k : Nat) (w : World) (h1 : 0 < k) (h2 : k ≤ 1099511000000) (h : Marked w k q v) :
    Calls Try.prog 56 #[v, .int .i64 (k : Int)] w fun e w' => e = .returned (.int .i64 ((k : Int) + 7 * (outN q : Nat))) ∧ Below w.heap.size w w' := by
  rcases h with ⟨rfl, a, c, rfl⟩ | ⟨m, g, o, c, rfl, rfl, _, hm⟩
  · refine (heldMessageS_none a c k w).mono ?_
    rintro e w' ⟨rfl, rfl⟩
    exact ⟨by simp [outN], Below.refl _ _⟩
  · refine (heldMessageS_some g o c k w h1 h2 hm).mono ?_
    rintro e w' ⟨rfl, hb⟩
    exact ⟨by simp [outN], hb⟩

theorem ne_flip {x y : Option Nat} (h : x = none ∨ x ≠ y) : y = none ∨ y ≠ x := by
  cases y with
  | none => exact .inl rfl
  | some q =>
    rcases h with h | h
    · exact .inr (fun e => by rw [h] at e; cases e)
    · exact .inr (fun e => h e.symm)
set_option maxRecDepth 100000 in
set_option maxHeartbeats 4000000 in
theorem markActed_any (nu ep : Int) (up : Bool) (st le ta co lf : Int) (x : ByteArray) (si : Int) (a : Option Addr) (n c : Nat) (xs : List Value) (q : Option OM) (v : Value) (B B' : Nat) (w : World) (hn : n ≤ 1048576) (h : Own B w 1 (.slice a n c) n xs) (ho : Own B' w 8 v (outN q) (outL q)) (hne : (Value.slice a n c).ownBlock = none ∨ (Value.slice a n c).ownBlock ≠ v.ownBlock) :
    Calls Try.prog 25 #[.agg #[.int .i64 nu, .int .i64 ep, .bool up, .int .i64 st, .int .i64 le, .int .i64 ta, .int .i64 co, .int .i64 lf, .slice a n c, .string x, .int .i64 si, v], .int .i64 1] w fun e w' => e = .returned (.int .i64 (1 + (n : Int) + 7 * (outN q : Nat))) ∧ Own B w' 1 (.slice a n c) n ((mks 1 n).map Value.string) ∧ Marked w' (1 + n) q v ∧ ∃ w1, w.grownBy w1 (Value.slice a n c).ownBlock ∧ w1.grownBy w' v.ownBlock := by
  obtain ⟨va, vc, hv⟩ := ho.slc
  obtain ⟨N, hN⟩ : ∃ N, N = outN q := ⟨_, rfl⟩
  rw [← hN] at hv ⊢
  have HV : Hid (v = .slice va N vc) := hv
  have HMK : Hid (∀ w1 : World, Own B' w1 8 v (outN q) (outL q) → Calls Try.prog 55 #[.slice va N vc, .int .i64 (1 + (n : Int))] w1 fun e w' => e = .returned (.int .i64 (1 + (n : Int) + 7 * (N : Nat))) ∧ Marked w' (1 + n) q v ∧ w1.grownBy w' v.ownBlock) := fun w1 h1 => by
    have := markMessageS_any q v B' (1 + n) w1 (by omega) (by omega) h1
    rw [← hN] at this
    rw [← hv]
    simpa using this
  have HO := hid ho
  rw [show (Value.agg #[.int .i64 nu, .int .i64 ep, .bool up, .int .i64 st, .int .i64 le, .int .i64 ta, .int .i64 co, .int .i64 lf, .slice a n c, .string x, .int .i64 si, v]) = .agg #[.int .i64 nu, .int .i64 ep, .bool up, .int .i64 st, .int .i64 le, .int .i64 ta, .int .i64 co, .int .i64 lf, .slice a n c, .string x, .int .i64 si, .slice va N vc] by rw [← hv]]
  clear hN ho hv
  obtain ⟨W, hW⟩ : ∃ W, W = w.alloc (.cells #[.int .i64 nu, .int .i64 ep, .bool up, .int .i64 st, .int .i64 le, .int .i64 ta, .int .i64 co, .int .i64 lf, .slice a n c, .string x, .int .i64 si, .slice va N vc] 39) := ⟨_, rfl⟩
  have hgW : ∀ r, w.grownBy W r := fun r => by rw [hW]; exact galloc (World.grownBy.refl _ _) _
  have c11 : W.cell? ⟨w.heap.size, 11, none⟩ = some (.slice va N vc) := by rw [hW]; simp [go_sem]
  have hoW := h.alloc (.cells #[.int .i64 nu, .int .i64 ep, .bool up, .int .i64 st, .int .i64 le, .int .i64 ta, .int .i64 co, .int .i64 lf, .slice a n c, .string x, .int .i64 si, .slice va N vc] 39)
  have hoV := HO.out.alloc (.cells #[.int .i64 nu, .int .i64 ep, .bool up, .int .i64 st, .int .i64 le, .int .i64 ta, .int .i64 co, .int .i64 lf, .slice a n c, .string x, .int .i64 si, .slice va N vc] 39)
  rw [← hW] at hoW hoV
  have HOV := hid hoV
  clear hoV
  have hhi := h.row_hi
  have hsW : W.heap.size = w.heap.size + 1 := by rw [hW]; simp
  have HS := hid hsW
  have HGW := hid hgW
  have HW := hid hW
  clear hW hgW hsW
  go_enter Try.func25, Try.ntmps25
  go_wp2_with fail
  rw [← HW.out]
  refine (markWorker_own nu ep up st le ta co lf x si a n c B xs _ hn hoW).mono ?_
  rintro e1 w1 ⟨rfl, ho1, hg1⟩
  clear HW
  have k11 : w1.cell? ⟨w.heap.size, 11, none⟩ = some (.slice va N vc) := (World.cell?_of_block (w := W) (a := ⟨w.heap.size, 11, none⟩) (hg1.block w.heap.size (by have := HS.out; omega) (fun hh => by have := hhi _ hh.symm; omega))).trans c11
  have HO1 := hid (HOV.out.grown hg1 (ne_flip hne))
  have HG1 := hid (grownBy_trans (HGW.out _) hg1)
  have HL1 := hid ho1
  clear c11 hg1 ho1 hhi HOV HGW
  go_wp2_with fail
  refine (HMK.out _ HO1.out).mono ?_
  rintro e2 w2 ⟨rfl, hm2, hg2⟩
  have hl2 := HL1.out.grown hg2 hne
  have HM2 := hid hm2
  have HL2 := hid hl2
  have HG2 := hid hg2
  clear k11 hm2 hl2 hg2 HMK
  go_wp2
  go_ret
  exact ⟨rfl, HL2.out, HM2.out, w1, HG1.out, HG2.out⟩

set_option maxRecDepth 100000 in
set_option maxHeartbeats 4000000 in
theorem heldActed_any (nu ep : Int) (up : Bool) (st le ta co lf : Int) (x : ByteArray) (si : Int) (a : Option Addr) (b o n c : Nat) (q : Option OM) (v : Value) (w : World) (hn : n ≤ 1048576) (h : StrsAt w a b o n (mks 1 n)) (hm : Marked w (1 + n) q v) (hs : ∃ va vc, v = .slice va (outN q) vc) :
    Calls Try.prog 26 #[.agg #[.int .i64 nu, .int .i64 ep, .bool up, .int .i64 st, .int .i64 le, .int .i64 ta, .int .i64 co, .int .i64 lf, .slice a n c, .string x, .int .i64 si, v], .int .i64 1] w fun e w' => e = .returned (.int .i64 (1 + (n : Int) + 7 * (outN q : Nat))) ∧ Below w.heap.size w w' := by
  obtain ⟨va, vc, hv⟩ := hs
  obtain ⟨N, hN⟩ : ∃ N, N = outN q := ⟨_, rfl⟩
  rw [← hN] at hv ⊢
  have HMK : Hid (∀ w1 : World, Marked w1 (1 + n) q v → Calls Try.prog 56 #[.slice va N vc, .int .i64 (1 + (n : Int))] w1 fun e w' => e = .returned (.int .i64 (1 + (n : Int) + 7 * (N : Nat))) ∧ Below w1.heap.size w1 w') := fun w1 h1 => by
    have := heldMessageS_any q v (1 + n) w1 (by omega) (by omega) h1
    rw [← hN] at this
    rw [← hv]
    simpa using this
  have HM := hid hm
  rw [show (Value.agg #[.int .i64 nu, .int .i64 ep, .bool up, .int .i64 st, .int .i64 le, .int .i64 ta, .int .i64 co, .int .i64 lf, .slice a n c, .string x, .int .i64 si, v]) = .agg #[.int .i64 nu, .int .i64 ep, .bool up, .int .i64 st, .int .i64 le, .int .i64 ta, .int .i64 co, .int .i64 lf, .slice a n c, .string x, .int .i64 si, .slice va N vc] by rw [← hv]]
  clear hN hv hm
  obtain ⟨W, hW⟩ : ∃ W, W = w.alloc (.cells #[.int .i64 nu, .int .i64 ep, .bool up, .int .i64 st, .int .i64 le, .int .i64 ta, .int .i64 co, .int .i64 lf, .slice a n c, .string x, .int .i64 si, .slice va N vc] 39) := ⟨_, rfl⟩
  have hbW : Below w.heap.size w W := by rw [hW]; exact (Below.refl _ _).alloc (Nat.le_refl _) _
  have c11 : W.cell? ⟨w.heap.size, 11, none⟩ = some (.slice va N vc) := by rw [hW]; simp [go_sem]
  have HW := hid hW
  clear hW
  go_enter Try.func26, Try.ntmps26
  go_wp2_with fail
  rw [← HW.out]
  refine (heldWorker_any nu ep up st le ta co lf x si a b o n c _ hn (h.below' hbW)).mono ?_
  rintro e1 w1 ⟨rfl, hb1⟩
  clear HW
  have k11 := keepB hb1 c11
  have hB1 := hbW.trans (hb1.mono hbW.size)
  have hp : ¬ (1 + (n : Int)) < 0 := by omega
  clear c11
  go_wp2_with fail
  refine (HMK.out _ (HM.out.block hB1)).mono ?_
  rintro e2 w2 ⟨rfl, hb2⟩
  have hB2 := hB1.trans (hb2.mono hB1.size)
  have hp2 : ¬ (1 + (n : Int) + 7 * (N : Nat)) < 0 := by omega
  clear k11 HMK
  go_wp2
  go_ret
  exact ⟨rfl, hB2⟩
end Go.Proofs.Ytlpmcjlcmjlbeaa
