
/-
  laws.szMessage, toMessage, eqMessage; the law FnExactFormMessage's walk.
-/
import Derived.Test.YtlgmkmegkojgbaaDoorForm
import Derived.Test.YtlgmkmegkojgbaaDoorLawMs
namespace Go.Proofs.YtlgmkmegkojgbaaDoor
open Go.RowKit


set_option maxHeartbeats 2000000 in
set_option maxRecDepth 100000 in
theorem fnExactFormMessage_walk (k f t e l d : Int) (x : ByteArray) (a : Option Addr) (b o n c : Nat) (ss : List ByteArray) (key : ByteArray) (w : World) (hT : Tab w) (h : StrsAt w a b o n ss) (hx : x.size ≤ maxLen) (hk : key.size ≤ maxLen) :
    Calls Tryd.prog 3 #[.agg #[.int .i64 k, .int .i64 f, .int .i64 t, .int .i64 e, .int .i64 l, .int .i64 d, .string x, .slice a n c], .string key] w fun e' w' => e' = .returned (.bool true) ∧ Below w.heap.size w w' := by
  have hk63 := hk
  unfold maxLen at hk63
  obtain ⟨W, hW⟩ : ∃ W, W = w.alloc (.cells #[.int .i64 k, .int .i64 f, .int .i64 t, .int .i64 e, .int .i64 l, .int .i64 d, .string x, .slice a n c] 24) := ⟨_, rfl⟩
  have hbW : Below w.heap.size w W := by rw [hW]; exact (Below.refl _ _).alloc (Nat.le_refl _) _
  have hMC : MC W w.heap.size [.int .i64 k, .int .i64 f, .int .i64 t, .int .i64 e, .int .i64 l, .int .i64 d, .string x, .slice a n c] := by rw [hW]; exact MC.made w _ _
  by_cases h1 : 1048576 < key.size
  · go_enter Tryd.func3, Tryd.ntmps3
    go_wp2
    go_ret
    exact ⟨rfl, by rw [hW] at hbW; exact hbW⟩
  · go_enter Tryd.func3, Tryd.ntmps3
    go_wp2_with fail
    rw [← hW]
    refine (szMessage_any k f t e l d x a b o n c ss _ (h.below' hbW) hx).mono ?_
    rintro e' w1 ⟨⟨r, rfl, hr⟩, hb1⟩
    clear hW
    have hB1 := hbW.trans (hb1.mono hbW.size)
    have hlt : w.heap.size < W.heap.size := World.block_lt_of_cell? W ⟨w.heap.size, 0, none⟩ (hMC 0 (by simp))
    have hM1 := hMC.below hb1 hlt
    rcases hr with rfl | ⟨hr0, hs, hx1⟩
    · go_wp2
      go_ret
      exact ⟨rfl, hB1⟩
    · have HM1 := hid hM1
      have c0 : w1.cell? ⟨w.heap.size, 0, none⟩ = some (.int .i64 k) := hM1 0 (by simp)
      have c1 : w1.cell? ⟨w.heap.size, 1, none⟩ = some (.int .i64 f) := hM1 1 (by simp)
      have c2 : w1.cell? ⟨w.heap.size, 2, none⟩ = some (.int .i64 t) := hM1 2 (by simp)
      have c3 : w1.cell? ⟨w.heap.size, 3, none⟩ = some (.int .i64 e) := hM1 3 (by simp)
      have c4 : w1.cell? ⟨w.heap.size, 4, none⟩ = some (.int .i64 l) := hM1 4 (by simp)
      have c5 : w1.cell? ⟨w.heap.size, 5, none⟩ = some (.int .i64 d) := hM1 5 (by simp)
      have c6 : w1.cell? ⟨w.heap.size, 6, none⟩ = some (.string x) := hM1 6 (by simp)
      have c7 : w1.cell? ⟨w.heap.size, 7, none⟩ = some (.slice a n c) := hM1 7 (by simp)
      clear hM1 hMC
      go_wp2_with fail
      refine (toMessage_any k f t e l d x a b o n c ss _ (h.below' hB1) (by omega)).mono ?_
      rintro e' w2 ⟨⟨g2, rfl, ho2⟩, hb2⟩
      have hB2 := hB1.trans (hb2.mono hB1.size)
      have h2s := StrsAt.ofOwn ho2 h.sz
      clear c0 c1 c2 c3 c4 c5 c6 c7
      go_wp2_with fail
      refine (specForm_any k f t e l d x _ g2 0 n n ss key _ h2s hk).mono ?_
      rintro e' w3 ⟨⟨r1, rfl, hf1⟩, hb3⟩
      have hB3 := hB2.trans (hb3.mono hB2.size)
      have HF1 := hid hf1
      have hl1 : w.heap.size < w1.heap.size := Nat.lt_of_lt_of_le hlt hb1.size
      have hl2 : w.heap.size < w2.heap.size := Nat.lt_of_lt_of_le hl1 hb2.size
      have hl3 : w.heap.size < w3.heap.size := Nat.lt_of_lt_of_le hl2 hb3.size
      have HM3 := hid ((HM1.out.below hb2 hl1).below hb3 hl2)
      clear hf1 ho2 h2s
      have c0 : w3.cell? ⟨w.heap.size, 0, none⟩ = some (.int .i64 k) := HM3.out 0 (by simp)
      have c1 : w3.cell? ⟨w.heap.size, 1, none⟩ = some (.int .i64 f) := HM3.out 1 (by simp)
      have c2 : w3.cell? ⟨w.heap.size, 2, none⟩ = some (.int .i64 t) := HM3.out 2 (by simp)
      have c3 : w3.cell? ⟨w.heap.size, 3, none⟩ = some (.int .i64 e) := HM3.out 3 (by simp)
      have c4 : w3.cell? ⟨w.heap.size, 4, none⟩ = some (.int .i64 l) := HM3.out 4 (by simp)
      have c5 : w3.cell? ⟨w.heap.size, 5, none⟩ = some (.int .i64 d) := HM3.out 5 (by simp)
      have c6 : w3.cell? ⟨w.heap.size, 6, none⟩ = some (.string x) := HM3.out 6 (by simp)
      have c7 : w3.cell? ⟨w.heap.size, 7, none⟩ = some (.slice a n c) := HM3.out 7 (by simp)
      go_wp2_with fail
      refine (toMessage_any k f t e l d x a b o n c ss _ (h.below' hB3) (by omega)).mono ?_
      rintro e' w4 ⟨⟨g4, rfl, ho4⟩, hb4⟩
      have hB4 := hB3.trans (hb4.mono hB3.size)
      have h4s := StrsAt.ofOwn ho4 h.sz
      have hl4 : w.heap.size < w4.heap.size := Nat.lt_of_lt_of_le hl3 hb4.size
      have HM4 := hid (HM3.out.below hb4 hl3)
      clear c0 c1 c2 c3 c4 c5 c6 c7 ho4 HM1 HM3 hb1 hb2 hb3 hb4
      obtain ⟨W5, hW5⟩ : ∃ W5, W5 = w4.alloc (.cells #[.int .i64 k, .int .i64 f, .int .i64 t, .int .i64 e, .int .i64 l, .int .i64 d, .string x, .slice (some ⟨g4, 0, none⟩) n n] 27) := ⟨_, rfl⟩
      have hb45 : Below w4.heap.size w4 W5 := by rw [hW5]; exact (Below.refl _ _).alloc (Nat.le_refl _) _
      have hB5 := hB4.trans (hb45.mono hB4.size)
      have HX5 := hid (show MC W5 w4.heap.size [.int .i64 k, .int .i64 f, .int .i64 t, .int .i64 e, .int .i64 l, .int .i64 d, .string x, .slice (some ⟨g4, 0, none⟩) n n] by rw [hW5]; exact MC.made w4 _ _)
      have hs5 : W5.heap.size = w4.heap.size + 1 := by rw [hW5]; simp
      go_wp2_with fail
      rw [← hW5]
      refine (implForm_any k f t e l d x _ g4 0 n n ss key _ (hT.below hB5 hT.pos) (h4s.below' hb45) hk).mono ?_
      rintro e' w6 ⟨⟨r2, rfl, hf2⟩, hb6⟩
      clear hW5
      obtain rfl := HF1.out.uniq hf2
      have hB6 := hB5.trans (hb6.mono hB5.size)
      have h6s := (h4s.below' hb45).below' hb6
      have hx6 := HX5.out.below hb6 (by omega)
      have hm6 := ((HM4.out.below hb45 hl4).below hb6 (by omega))
      have c0 : w6.cell? ⟨w.heap.size, 0, none⟩ = some (.int .i64 k) := hm6 0 (by simp)
      have c1 : w6.cell? ⟨w.heap.size, 1, none⟩ = some (.int .i64 f) := hm6 1 (by simp)
      have c2 : w6.cell? ⟨w.heap.size, 2, none⟩ = some (.int .i64 t) := hm6 2 (by simp)
      have c3 : w6.cell? ⟨w.heap.size, 3, none⟩ = some (.int .i64 e) := hm6 3 (by simp)
      have c4 : w6.cell? ⟨w.heap.size, 4, none⟩ = some (.int .i64 l) := hm6 4 (by simp)
      have c5 : w6.cell? ⟨w.heap.size, 5, none⟩ = some (.int .i64 d) := hm6 5 (by simp)
      have c6 : w6.cell? ⟨w.heap.size, 6, none⟩ = some (.string x) := hm6 6 (by simp)
      have c7 : w6.cell? ⟨w.heap.size, 7, none⟩ = some (.slice a n c) := hm6 7 (by simp)
      have q0 : w6.cell? ⟨w4.heap.size, 0, none⟩ = some (.int .i64 k) := hx6 0 (by simp)
      have q1 : w6.cell? ⟨w4.heap.size, 1, none⟩ = some (.int .i64 f) := hx6 1 (by simp)
      have q2 : w6.cell? ⟨w4.heap.size, 2, none⟩ = some (.int .i64 t) := hx6 2 (by simp)
      have q3 : w6.cell? ⟨w4.heap.size, 3, none⟩ = some (.int .i64 e) := hx6 3 (by simp)
      have q4 : w6.cell? ⟨w4.heap.size, 4, none⟩ = some (.int .i64 l) := hx6 4 (by simp)
      have q5 : w6.cell? ⟨w4.heap.size, 5, none⟩ = some (.int .i64 d) := hx6 5 (by simp)
      have q6 : w6.cell? ⟨w4.heap.size, 6, none⟩ = some (.string x) := hx6 6 (by simp)
      have q7 : w6.cell? ⟨w4.heap.size, 7, none⟩ = some (.slice (some ⟨g4, 0, none⟩) n n) := hx6 7 (by simp)
      clear hx6 hm6 hf2 HF1
      go_wp2
      have hB6d := hB6.drew
      have h6d := h.below' hB6d
      have h6sd := h6s.drew
      have hnn : n ≤ 1048576 := by omega
      go_region_held3 (fun w' => w'.cell? ⟨w.heap.size, 0, none⟩ = some (.int .i64 k) ∧ w'.cell? ⟨w.heap.size, 1, none⟩ = some (.int .i64 f) ∧ w'.cell? ⟨w.heap.size, 2, none⟩ = some (.int .i64 t) ∧ w'.cell? ⟨w.heap.size, 3, none⟩ = some (.int .i64 e) ∧ w'.cell? ⟨w.heap.size, 4, none⟩ = some (.int .i64 l) ∧ w'.cell? ⟨w.heap.size, 5, none⟩ = some (.int .i64 d) ∧ w'.cell? ⟨w.heap.size, 6, none⟩ = some (.string x) ∧ w'.cell? ⟨w.heap.size, 7, none⟩ = some (.slice a n c) ∧ w'.cell? ⟨w4.heap.size, 0, none⟩ = some (.int .i64 k) ∧ w'.cell? ⟨w4.heap.size, 1, none⟩ = some (.int .i64 f) ∧ w'.cell? ⟨w4.heap.size, 2, none⟩ = some (.int .i64 t) ∧ w'.cell? ⟨w4.heap.size, 3, none⟩ = some (.int .i64 e) ∧ w'.cell? ⟨w4.heap.size, 4, none⟩ = some (.int .i64 l) ∧ w'.cell? ⟨w4.heap.size, 5, none⟩ = some (.int .i64 d) ∧ w'.cell? ⟨w4.heap.size, 6, none⟩ = some (.string x) ∧ w'.cell? ⟨w4.heap.size, 7, none⟩ = some (.slice (some ⟨g4, 0, none⟩) n n)) (first | (simp [go_sem, *]; done) | assumption)
        (first
          | (go_at_call 10; refine (toMessage_any k f t e l d x a b o n c ss _ h6d hnn).mono ?_; rintro e' w7 ⟨⟨g7, rfl, ho7⟩, hb7⟩; have y0 := keepC hb7 c0; have y1 := keepC hb7 c1; have y2 := keepC hb7 c2; have y3 := keepC hb7 c3; have y4 := keepC hb7 c4; have y5 := keepC hb7 c5; have y6 := keepC hb7 c6; have y7 := keepC hb7 c7; have z0 := keepC hb7 q0; have z1 := keepC hb7 q1; have z2 := keepC hb7 q2; have z3 := keepC hb7 q3; have z4 := keepC hb7 q4; have z5 := keepC hb7 q5; have z6 := keepC hb7 q6; have z7 := keepC hb7 q7; have hB7 := hB6d.trans (hb7.mono hB6d.size); have h7s := StrsAt.ofOwn ho7 h.sz; have h67 := h6sd.below' hb7)
          | (go_at_call 12; refine (eqMessage_any k f t e l d x _ _ g4 0 n n g7 0 n ss _ h67 h7s).mono ?_; rintro e' w8 ⟨rfl, hb8⟩; have y0a := keepB hb8 y0; have y1a := keepB hb8 y1; have y2a := keepB hb8 y2; have y3a := keepB hb8 y3; have y4a := keepB hb8 y4; have y5a := keepB hb8 y5; have y6a := keepB hb8 y6; have y7a := keepB hb8 y7; have z0a := keepB hb8 z0; have z1a := keepB hb8 z1; have z2a := keepB hb8 z2; have z3a := keepB hb8 z3; have z4a := keepB hb8 z4; have z5a := keepB hb8 z5; have z6a := keepB hb8 z6; have z7a := keepB hb8 z7; have hB8 := hB7.trans (hb8.mono hB7.size)))
      go_wp2
      go_ret
      exact ⟨rfl, hB8⟩
end Go.Proofs.YtlgmkmegkojgbaaDoor
