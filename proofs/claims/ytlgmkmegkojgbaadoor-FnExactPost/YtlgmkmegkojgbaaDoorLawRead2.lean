
/-
  FnExactReadMessage.
-/
import Derived.Test.YtlgmkmegkojgbaaDoorLawRead
import Derived.Deep.DeepCutAuto
namespace Go.Proofs.YtlgmkmegkojgbaaDoor
open Go.RowKit


set_option maxHeartbeats 4000000 in
set_option maxRecDepth 100000 in
theorem fnExactReadMessage_walk (s key : ByteArray) (w : World) (hT : Tab w) (hE : ErrT w) (hs : s.size ≤ maxLen) (hk : key.size ≤ maxLen) :
    Calls Tryd.prog 4 #[.string s, .string key] w fun e' w' => e' = .returned (.bool true) ∧ Below w.heap.size w w' := by
  have hk63 := hk
  have hs63 := hs
  have hE1 := hE.pos
  unfold maxLen at hk63 hs63
  by_cases h1 : 1048576 < s.size
  · have h1' : (1048576 : Int) < (s.size : Int) := by omega
    go_enter Tryd.func4, Tryd.ntmps4
    go_wp2
    go_ret
    exact ⟨rfl, Below.refl _ _⟩
  by_cases h2 : 1048576 < key.size
  · have h2' : (1048576 : Int) < (key.size : Int) := by omega
    have h1' : ¬ (1048576 : Int) < (s.size : Int) := by omega
    go_enter Tryd.func4, Tryd.ntmps4
    go_wp2
    go_ret
    exact ⟨rfl, Below.refl _ _⟩
  · have h2' : ¬ (1048576 : Int) < (key.size : Int) := by omega
    have h1' : ¬ (1048576 : Int) < (s.size : Int) := by omega
    go_enter Tryd.func4, Tryd.ntmps4
    go_wp2_with fail
    refine (specRead_any s key _ hk (by omega)).mono ?_
    rintro e' w1 ⟨hret, hB1⟩
    obtain ⟨k, f, t, e, l, d, x, ss, a1, c1, r, rfl, hres, ho1⟩ := hret.view
    have HR := hid hres
    obtain ⟨hn8, hsz⟩ := hres.small
    have HSZ := hid hsz
    obtain ⟨W1, hW1⟩ : ∃ W1, W1 = w1.alloc (.cells #[.int .i64 k, .int .i64 f, .int .i64 t, .int .i64 e, .int .i64 l, .int .i64 d, .string x, .slice a1 ss.length c1] 27) := ⟨_, rfl⟩
    have hb11 : Below w1.heap.size w1 W1 := by rw [hW1]; exact (Below.refl _ _).alloc (Nat.le_refl _) _
    have hs1 : W1.heap.size = w1.heap.size + 1 := by rw [hW1]; simp
    have HM1 := hid (show MC W1 w1.heap.size [.int .i64 k, .int .i64 f, .int .i64 t, .int .i64 e, .int .i64 l, .int .i64 d, .string x, .slice a1 ss.length c1] by rw [hW1]; exact MC.made w1 _ _)
    have hBW1 := hB1.trans (hb11.mono hB1.size)
    have HO1 := hid (ho1.below hb11 (Nat.le_refl _))
    clear hret hres hsz ho1
    go_wp2_with fail
    rw [← hW1]
    clear hW1
    refine (implRead_any s key _ (hT.below hBW1 hT.pos) (hE.below hBW1 hE1) hk hs).mono ?_
    rintro e' w2 ⟨hret, hb2⟩
    obtain ⟨k', f', t', e0', l', d', x', ss', a2, c2, r', rfl, hres, ho2⟩ := hret.view
    obtain ⟨rfl, rfl, rfl, rfl, rfl, rfl, rfl, rfl, rfl⟩ := HR.out.uniq hres
    clear hret hres
    have hB2 := hBW1.trans (hb2.mono hBW1.size)
    obtain ⟨W2, hW2⟩ : ∃ W2, W2 = w2.alloc (.cells #[.int .i64 k, .int .i64 f, .int .i64 t, .int .i64 e, .int .i64 l, .int .i64 d, .string x, .slice a2 ss.length c2] 27) := ⟨_, rfl⟩
    have hb22 : Below w2.heap.size w2 W2 := by rw [hW2]; exact (Below.refl _ _).alloc (Nat.le_refl _) _
    have hs2 : W2.heap.size = w2.heap.size + 1 := by rw [hW2]; simp
    have HM2 := hid (show MC W2 w2.heap.size [.int .i64 k, .int .i64 f, .int .i64 t, .int .i64 e, .int .i64 l, .int .i64 d, .string x, .slice a2 ss.length c2] by rw [hW2]; exact MC.made w2 _ _)
    have hBW2 := hB2.trans (hb22.mono hB2.size)
    have hl12 : w1.heap.size < w2.heap.size := by have := hb2.size; omega
    have HM1' := hid ((HM1.out.below hb2 (by omega)).below hb22 hl12)
    have HO1' := hid ((HO1.out.below hb2 (Nat.le_refl _)).below hb22 (Nat.le_refl _))
    have hhi2 := ho2.row_hi
    have hlo2 := ho2.row_lo
    have hhi1 := HO1.out.row_hi
    have HO2 := hid (ho2.below hb22 (Nat.le_refl _))
    have hne12 : (Value.slice a1 ss.length c1).ownBlock = none ∨ (Value.slice a1 ss.length c1).ownBlock ≠ (Value.slice a2 ss.length c2).ownBlock := by
      cases h : (Value.slice a1 ss.length c1).ownBlock with
      | none => exact .inl rfl
      | some q => exact .inr (fun hh => by have := hhi1 q h; have := hlo2 q hh.symm; omega)
    have hneB1 : some w1.heap.size ≠ (Value.slice a2 ss.length c2).ownBlock := fun hh => by have := hlo2 _ hh.symm; omega
    have hneB2 : some w2.heap.size ≠ (Value.slice a2 ss.length c2).ownBlock := fun hh => by have := hhi2 _ hh.symm; omega
    have HN := hid (And.intro hne12 (And.intro hneB1 hneB2))
    have HLO := hid hlo2
    clear HM1 HO1 ho2 hhi2 hlo2 hhi1 hne12 hneB1 hneB2
    go_upto_region 7 with fail
    rw [← hW2]
    clear hW2
    have p0 : W2.cell? ⟨w1.heap.size, 0, none⟩ = some (.int .i64 k) := HM1'.out 0 (by simp)
    have p1 : W2.cell? ⟨w1.heap.size, 1, none⟩ = some (.int .i64 f) := HM1'.out 1 (by simp)
    have p2 : W2.cell? ⟨w1.heap.size, 2, none⟩ = some (.int .i64 t) := HM1'.out 2 (by simp)
    have p3 : W2.cell? ⟨w1.heap.size, 3, none⟩ = some (.int .i64 e) := HM1'.out 3 (by simp)
    have p4 : W2.cell? ⟨w1.heap.size, 4, none⟩ = some (.int .i64 l) := HM1'.out 4 (by simp)
    have p5 : W2.cell? ⟨w1.heap.size, 5, none⟩ = some (.int .i64 d) := HM1'.out 5 (by simp)
    have p6 : W2.cell? ⟨w1.heap.size, 6, none⟩ = some (.string x) := HM1'.out 6 (by simp)
    have p7 : W2.cell? ⟨w1.heap.size, 7, none⟩ = some (.slice a1 ss.length c1) := HM1'.out 7 (by simp)
    have q0 : W2.cell? ⟨w2.heap.size, 0, none⟩ = some (.int .i64 k) := HM2.out 0 (by simp)
    have q1 : W2.cell? ⟨w2.heap.size, 1, none⟩ = some (.int .i64 f) := HM2.out 1 (by simp)
    have q2 : W2.cell? ⟨w2.heap.size, 2, none⟩ = some (.int .i64 t) := HM2.out 2 (by simp)
    have q3 : W2.cell? ⟨w2.heap.size, 3, none⟩ = some (.int .i64 e) := HM2.out 3 (by simp)
    have q4 : W2.cell? ⟨w2.heap.size, 4, none⟩ = some (.int .i64 l) := HM2.out 4 (by simp)
    have q5 : W2.cell? ⟨w2.heap.size, 5, none⟩ = some (.int .i64 d) := HM2.out 5 (by simp)
    have q6 : W2.cell? ⟨w2.heap.size, 6, none⟩ = some (.string x) := HM2.out 6 (by simp)
    have q7 : W2.cell? ⟨w2.heap.size, 7, none⟩ = some (.slice a2 ss.length c2) := HM2.out 7 (by simp)
    obtain ⟨bb1, oo1, hSt1⟩ := HO1'.out.strs HSZ.out
    obtain ⟨bb2, oo2, hSt2⟩ := HO2.out.strs HSZ.out
    go_wp2_with fail
    refine (eqMessage_any k f t e l d x a2 a1 bb2 oo2 ss.length c2 bb1 oo1 c1 ss _ hSt2 hSt1).mono ?_
    rintro e' w3 ⟨rfl, hb3⟩
    have hB3 := hBW2.trans (hb3.mono hBW2.size)
    have HM13 := hid (HM1'.out.below hb3 (by omega))
    have HM23 := hid (HM2.out.below hb3 (by omega))
    have HO13 := hid (HO1'.out.below hb3 (Nat.le_refl _))
    have HO23 := hid (HO2.out.below hb3 (Nat.le_refl _))
    have hs3 : w2.heap.size < w3.heap.size := by have := hb3.size; omega
    clear hSt1 hSt2 HM1' HM2 HO1' HO2 hb3
    clear p0 p1 p2 p3 p4 p5 p6 p7 q0 q1 q2 q3 q4 q5 q6 q7
    have q0 : w3.cell? ⟨w2.heap.size, 0, none⟩ = some (.int .i64 k) := HM23.out 0 (by simp)
    have q1 : w3.cell? ⟨w2.heap.size, 1, none⟩ = some (.int .i64 f) := HM23.out 1 (by simp)
    have q2 : w3.cell? ⟨w2.heap.size, 2, none⟩ = some (.int .i64 t) := HM23.out 2 (by simp)
    have q3 : w3.cell? ⟨w2.heap.size, 3, none⟩ = some (.int .i64 e) := HM23.out 3 (by simp)
    have q4 : w3.cell? ⟨w2.heap.size, 4, none⟩ = some (.int .i64 l) := HM23.out 4 (by simp)
    have q5 : w3.cell? ⟨w2.heap.size, 5, none⟩ = some (.int .i64 d) := HM23.out 5 (by simp)
    have q6 : w3.cell? ⟨w2.heap.size, 6, none⟩ = some (.string x) := HM23.out 6 (by simp)
    have q7 : w3.cell? ⟨w2.heap.size, 7, none⟩ = some (.slice a2 ss.length c2) := HM23.out 7 (by simp)
    go_wp2_with fail
    refine (markMessage_own k f t e l d x a2 ss.length c2 W1.heap.size _ _ (by omega) HO23.out).mono ?_
    rintro e' w4 ⟨rfl, ho4, hg4⟩
    obtain ⟨hne12, hneB1, hneB2⟩ := HN.out
    have HM14 := hid (HM13.out.block (hg4.block _ (by omega) hneB1))
    have HM24 := hid (HM23.out.block (hg4.block _ hs3 hneB2))
    have HO14 := hid (HO13.out.grown hg4 hne12)
    have hB4 := hB3.grown hg4 hB3.size (fun q hq => by have := HLO.out q hq; have := hBW1.size; omega)
    have hs4 : w2.heap.size < w4.heap.size := Nat.lt_of_lt_of_le hs3 hg4.size
    have HO4 := hid ho4
    obtain ⟨bb4, oo4, hSt4⟩ := ho4.strs (mks_sizes ss.length (by omega))
    clear HM13 HM23 HO13 HO23 hg4 ho4 hne12 hneB1 hneB2
    clear q0 q1 q2 q3 q4 q5 q6 q7
    have q0 : w4.cell? ⟨w2.heap.size, 0, none⟩ = some (.int .i64 k) := HM24.out 0 (by simp)
    have q1 : w4.cell? ⟨w2.heap.size, 1, none⟩ = some (.int .i64 f) := HM24.out 1 (by simp)
    have q2 : w4.cell? ⟨w2.heap.size, 2, none⟩ = some (.int .i64 t) := HM24.out 2 (by simp)
    have q3 : w4.cell? ⟨w2.heap.size, 3, none⟩ = some (.int .i64 e) := HM24.out 3 (by simp)
    have q4 : w4.cell? ⟨w2.heap.size, 4, none⟩ = some (.int .i64 l) := HM24.out 4 (by simp)
    have q5 : w4.cell? ⟨w2.heap.size, 5, none⟩ = some (.int .i64 d) := HM24.out 5 (by simp)
    have q6 : w4.cell? ⟨w2.heap.size, 6, none⟩ = some (.string x) := HM24.out 6 (by simp)
    have q7 : w4.cell? ⟨w2.heap.size, 7, none⟩ = some (.slice a2 ss.length c2) := HM24.out 7 (by simp)
    have hnn : ss.length ≤ 1048576 := by omega
    go_wp2_with fail
    refine (heldMessage_any k f t e l d x a2 bb4 oo4 ss.length c2 _ hnn hSt4).mono ?_
    rintro e' w5 ⟨rfl, hb5⟩
    have hB5 := hB4.trans (hb5.mono hB4.size)
    have hSt5 := hSt4.below' hb5
    have HM15 := hid (HM14.out.below hb5 (by omega))
    have HM25 := hid (HM24.out.below hb5 hs4)
    have HO15 := hid (HO14.out.below hb5 (Nat.le_refl _))
    have hs5 : w2.heap.size < w5.heap.size := Nat.lt_of_lt_of_le hs4 hb5.size
    have hp : ¬ (1 + (ss.length : Int)) < 0 := by omega
    clear HM14 HM24 HO14 hb5 hSt4
    clear q0 q1 q2 q3 q4 q5 q6 q7
    go_wp2_with fail
    refine (implRead_any s key _ (hT.below hB5 hT.pos) (hE.below hB5 hE1) hk hs).mono ?_
    rintro e' w6 ⟨hret, hb6⟩
    obtain ⟨k', f', t', e0', l', d', x', ss', a3, c3, r', rfl, hres, ho3⟩ := hret.view
    obtain ⟨rfl, rfl, rfl, rfl, rfl, rfl, rfl, rfl, rfl⟩ := HR.out.uniq hres
    clear hret hres
    have hB6 := hB5.trans (hb6.mono hB5.size)
    obtain ⟨W6, hW6⟩ : ∃ W6, W6 = w6.alloc (.cells #[.int .i64 k, .int .i64 f, .int .i64 t, .int .i64 e, .int .i64 l, .int .i64 d, .string x, .slice a3 ss.length c3] 27) := ⟨_, rfl⟩
    have hb66 : Below w6.heap.size w6 W6 := by rw [hW6]; exact (Below.refl _ _).alloc (Nat.le_refl _) _
    have hs6 : W6.heap.size = w6.heap.size + 1 := by rw [hW6]; simp
    have HM3 := hid (show MC W6 w6.heap.size [.int .i64 k, .int .i64 f, .int .i64 t, .int .i64 e, .int .i64 l, .int .i64 d, .string x, .slice a3 ss.length c3] by rw [hW6]; exact MC.made w6 _ _)
    have hBW6 := hB6.trans (hb66.mono hB6.size)
    have hs56 : w2.heap.size < w6.heap.size := Nat.lt_of_lt_of_le hs5 hb6.size
    have HM16 := hid ((HM15.out.below hb6 (by omega)).below hb66 (by omega))
    have HM26 := hid ((HM25.out.below hb6 hs5).below hb66 hs56)
    have HO16 := hid ((HO15.out.below hb6 (Nat.le_refl _)).below hb66 (Nat.le_refl _))
    have HO3 := hid (ho3.below hb66 (Nat.le_refl _))
    have hSt6 := (hSt5.below' hb6).below' hb66
    clear HM15 HM25 HO15 ho3 hSt5
    go_upto_region 18 with fail
    rw [← hW6]
    clear hW6
    have p0 : W6.cell? ⟨w1.heap.size, 0, none⟩ = some (.int .i64 k) := HM16.out 0 (by simp)
    have p1 : W6.cell? ⟨w1.heap.size, 1, none⟩ = some (.int .i64 f) := HM16.out 1 (by simp)
    have p2 : W6.cell? ⟨w1.heap.size, 2, none⟩ = some (.int .i64 t) := HM16.out 2 (by simp)
    have p3 : W6.cell? ⟨w1.heap.size, 3, none⟩ = some (.int .i64 e) := HM16.out 3 (by simp)
    have p4 : W6.cell? ⟨w1.heap.size, 4, none⟩ = some (.int .i64 l) := HM16.out 4 (by simp)
    have p5 : W6.cell? ⟨w1.heap.size, 5, none⟩ = some (.int .i64 d) := HM16.out 5 (by simp)
    have p6 : W6.cell? ⟨w1.heap.size, 6, none⟩ = some (.string x) := HM16.out 6 (by simp)
    have p7 : W6.cell? ⟨w1.heap.size, 7, none⟩ = some (.slice a1 ss.length c1) := HM16.out 7 (by simp)
    have q0 : W6.cell? ⟨w6.heap.size, 0, none⟩ = some (.int .i64 k) := HM3.out 0 (by simp)
    have q1 : W6.cell? ⟨w6.heap.size, 1, none⟩ = some (.int .i64 f) := HM3.out 1 (by simp)
    have q2 : W6.cell? ⟨w6.heap.size, 2, none⟩ = some (.int .i64 t) := HM3.out 2 (by simp)
    have q3 : W6.cell? ⟨w6.heap.size, 3, none⟩ = some (.int .i64 e) := HM3.out 3 (by simp)
    have q4 : W6.cell? ⟨w6.heap.size, 4, none⟩ = some (.int .i64 l) := HM3.out 4 (by simp)
    have q5 : W6.cell? ⟨w6.heap.size, 5, none⟩ = some (.int .i64 d) := HM3.out 5 (by simp)
    have q6 : W6.cell? ⟨w6.heap.size, 6, none⟩ = some (.string x) := HM3.out 6 (by simp)
    have q7 : W6.cell? ⟨w6.heap.size, 7, none⟩ = some (.slice a3 ss.length c3) := HM3.out 7 (by simp)
    obtain ⟨bb1, oo1, hSt1⟩ := HO16.out.strs HSZ.out
    obtain ⟨bb3, oo3, hSt3⟩ := HO3.out.strs HSZ.out
    go_wp2_with fail
    refine (eqMessage_any k f t e l d x a3 a1 bb3 oo3 ss.length c3 bb1 oo1 c1 ss _ hSt3 hSt1).mono ?_
    rintro e' w7 ⟨rfl, hb7⟩
    have hB7 := hBW6.trans (hb7.mono hBW6.size)
    have HM27 := hid (HM26.out.below hb7 (by omega))
    have hSt7 := hSt6.below' hb7
    clear hSt1 hSt3 HM16 HM26 HM3 HO16 HO3 hSt6 hb7
    clear p0 p1 p2 p3 p4 p5 p6 p7 q0 q1 q2 q3 q4 q5 q6 q7
    have q0 : w7.cell? ⟨w2.heap.size, 0, none⟩ = some (.int .i64 k) := HM27.out 0 (by simp)
    have q1 : w7.cell? ⟨w2.heap.size, 1, none⟩ = some (.int .i64 f) := HM27.out 1 (by simp)
    have q2 : w7.cell? ⟨w2.heap.size, 2, none⟩ = some (.int .i64 t) := HM27.out 2 (by simp)
    have q3 : w7.cell? ⟨w2.heap.size, 3, none⟩ = some (.int .i64 e) := HM27.out 3 (by simp)
    have q4 : w7.cell? ⟨w2.heap.size, 4, none⟩ = some (.int .i64 l) := HM27.out 4 (by simp)
    have q5 : w7.cell? ⟨w2.heap.size, 5, none⟩ = some (.int .i64 d) := HM27.out 5 (by simp)
    have q6 : w7.cell? ⟨w2.heap.size, 6, none⟩ = some (.string x) := HM27.out 6 (by simp)
    have q7 : w7.cell? ⟨w2.heap.size, 7, none⟩ = some (.slice a2 ss.length c2) := HM27.out 7 (by simp)
    go_wp2_with fail
    refine (heldMessage_any k f t e l d x a2 bb4 oo4 ss.length c2 _ hnn hSt7).mono ?_
    rintro e' w8 ⟨rfl, hb8⟩
    have hB8 := hB7.trans (hb8.mono hB7.size)
    clear q0 q1 q2 q3 q4 q5 q6 q7
    go_wp2
    go_ret
    exact ⟨rfl, hB8⟩
end Go.Proofs.YtlgmkmegkojgbaaDoor
