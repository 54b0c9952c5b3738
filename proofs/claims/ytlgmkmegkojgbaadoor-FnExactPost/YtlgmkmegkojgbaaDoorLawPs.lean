
/-
  The walk of FnExactPost.
-/
import Derived.Test.YtlgmkmegkojgbaaDoorNps
import Derived.Test.YtlgmkmegkojgbaaDoorNmm
namespace Go.Proofs.YtlgmkmegkojgbaaDoor
open Go.RowKit

theorem PcOk.snoc {P : List Pc} {x : Pc} (h : PcOk P) (hx : I64 x.1 ∧ x.2.1.size ≤ maxLen ∧ x.2.2.size ≤ maxLen) : PcOk (P ++ [x]) := fun j hj => by
  rw [List.length_append, List.length_singleton] at hj
  by_cases e : j < P.length
  · rw [show pc (P ++ [x]) j = pc P j by simp only [pc, List.getD]; rw [List.getElem?_append_left e]]
    exact h j e
  · obtain rfl : j = P.length := by omega
    rw [show pc (P ++ [x]) P.length = x by simp [pc]]
    exact hx
theorem pst1_ok {key : ByteArray} {P : List Pc} {d : MgD} (h : PcOk P) (hi : I64 d.tw) (hx : d.x.size ≤ 1048576) (hs : tot d.ss ≤ 1048576) : PcOk (pst1 key P d) := by
  have := frm_size key d hx hs
  unfold pst1
  split
  · exact h
  · split
    · exact h.snoc ⟨hi, by unfold maxLen; dsimp only; omega, by unfold maxLen; dsimp only; omega⟩
    · exact h
theorem pst_ok {key : ByteArray} (M : List MgD) : ∀ (P : List Pc), PcOk P → (∀ d ∈ M, I64 d.tw ∧ d.x.size ≤ 1048576 ∧ tot d.ss ≤ 1048576) → PcOk (pst key P M) := by
  induction M with
  | nil => intro P h _; exact h
  | cons d r ih =>
    intro P h hM
    obtain ⟨h1, h2, h3⟩ := hM d (List.mem_cons_self ..)
    exact ih _ (pst1_ok h h1 h2 h3) (fun d' hd' => hM d' (List.mem_cons_of_mem _ hd'))
theorem MsAt.all {w : World} {a : Option Addr} {b o n : Nat} {M : List MgD} (h : MsAt w a b o n M) (hsm : smallMs M) : ∀ d ∈ M, I64 d.tw ∧ d.x.size ≤ 1048576 ∧ tot d.ss ≤ 1048576 := by
  intro d hd
  obtain ⟨j, hj, rfl⟩ := List.mem_iff_getElem.1 hd
  have e : gMs M j = M[j] := by simp [gMs, List.getD, List.getElem?_eq_getElem hj]
  have h1 := h.i64 j (by rw [← h.len]; exact hj)
  have h2 := hsm j hj
  rw [e] at h1 h2
  exact ⟨h1.2.2.1, h2.2, by omega⟩
theorem PcAt.mid {w w' : World} {a : Option Addr} {b o n : Nat} {P : List Pc} {g H : Nat} (h : PcAt w a b o n P) (hM : Mid g H w w') (hb : 0 < n → b < g ∨ H ≤ b) : PcAt w' a b o n P :=
  h.block hM.size fun hn => hM.block b (h.lt hn) (hb hn)

set_option maxHeartbeats 4000000 in
set_option maxRecDepth 100000 in
theorem fnExactPost_walk (a : Option Addr) (b o n c : Nat) (P : List Pc) (a2 : Option Addr) (b2 o2 n2 c2 : Nat) (M : List MgD) (key : ByteArray) (w : World) (hT : Tab w) (h : PcAt w a b o n P) (hM : MsAt w a2 b2 o2 n2 M) (hk : key.size ≤ maxLen) :
    Calls Tryd.prog 7 #[.slice a n c, .slice a2 n2 c2, .string key] w fun e w' => e = .returned (.bool true) ∧ Below w.heap.size w w' := by
  have HL : Hid (P.length = n) := h.len
  have HLM : Hid (M.length = n2) := hM.len
  have HK : Hid (PcOk P) := h.ok
  have hk63 := hk
  unfold maxLen at hk63
  by_cases hkk : 1048576 < key.size
  · have hkk' : (1048576 : Int) < (key.size : Int) := by omega
    go_enter Tryd.func7, Tryd.ntmps7
    go_wp2
    go_ret
    exact ⟨rfl, Below.refl _ _⟩
  have hkk' : ¬ (1048576 : Int) < (key.size : Int) := by omega
  go_enter Tryd.func7, Tryd.ntmps7
  go_wp2_with fail
  refine (szParcelS_any a b o n c P 1048576 _ (by omega) (by omega) h).mono ?_
  rintro e v1 ⟨⟨r, rfl, hr⟩, B1⟩
  rcases hr with rfl | ⟨hr0, hr1, hn⟩
  · go_wp2
    go_ret
    exact ⟨rfl, B1⟩
  go_wp2_with fail
  refine (szMessageS_any a2 b2 o2 n2 c2 M r _ hr0 hr1 (hM.below' B1)).mono ?_
  rintro e v2 ⟨⟨r2, rfl, hr2⟩, hb2⟩
  have B2 := B1.trans (hb2.mono B1.size)
  clear B1 hb2
  rcases hr2 with rfl | ⟨hr20, hr21, hn2, hsm⟩
  · go_wp2
    go_ret
    exact ⟨rfl, B2⟩
  have HSM := hid hsm
  have QK := pst_ok (key := key) M P HK.out (hM.all hsm)
  have QL := pst_len key M P (by rw [HL.out]; exact hn)
  clear hsm
  obtain ⟨Q, hQ⟩ : ∃ Q, Q = pst key P M := ⟨_, rfl⟩
  rw [← hQ] at QK QL
  have HQ := hid hQ
  clear hQ
  go_wp2_with fail
  refine (toParcelS_any a b o n c P _ (h.below' B2) hn).mono ?_
  rintro e v3 ⟨g3, rfl, ho3, hb3⟩
  have B3 := B2.trans (hb3.mono B2.size)
  have P3 := PcAt.ofOwn ho3 HK.out
  clear B2 hb3 ho3
  go_wp2_with fail
  refine (toMessageS_any a2 b2 o2 n2 c2 M _ (hM.below' B3) hn2 HSM.out).mono ?_
  rintro e v4 ⟨g4, xs4, rfl, _, _, M4, hb4⟩
  have B4 := B3.trans (hb4.mono B3.size)
  have P4 := P3.below' hb4
  clear B3 hb4 P3
  go_wp2_with fail
  refine (specPost_any _ g3 0 n n P _ g4 0 n2 n2 M key _ P4 M4 hn hn2 hk).mono ?_
  rintro e v5 ⟨⟨vs, rfl, hos⟩, hb5⟩
  rw [← HQ.out] at hos
  have B5 := B4.trans (hb5.mono B4.size)
  have hz5 := B5.size
  obtain ⟨az, cs, rfl⟩ := hos.slc
  obtain ⟨bs, os, S5, _⟩ := hos.pcAt QK
  have hsl := S5.lt
  clear hos hb5 P4 M4 B4
  go_wp2_with fail
  refine (toParcelS_any a b o n c P _ (h.below' B5) hn).mono ?_
  rintro e v6 ⟨g6, rfl, O6, hb6⟩
  have B6 := B5.trans (hb6.mono B5.size)
  have S6 := S5.below' hb6
  have hg6l := O6.lo
  have hg6h := O6.hi
  clear S5 hb6 B5
  go_wp2_with fail
  refine (toMessageS_any a2 b2 o2 n2 c2 M _ (hM.below' B6) hn2 HSM.out).mono ?_
  rintro e v7 ⟨g7, xs7, rfl, hoM, hbuM, M7, hb7⟩
  have H7 := hbuM.shape hoM HLM.out HSM.out
  have hg7l := hoM.lo
  have hg7h := hoM.hi
  have B7 := B6.trans (hb7.mono B6.size)
  have S7 := S6.below' hb7
  have O7 := O6.below hb7 O6.hi
  clear S6 O6 hb7 B6 hoM hbuM
  obtain ⟨H, hH⟩ : ∃ H, H = v7.heap.size := ⟨_, rfl⟩
  rw [← hH] at H7 hg7h
  have HH := hid hH
  clear hH
  go_wp2_with fail
  refine (implPost_any _ g6 0 n n P _ g7 0 n2 n2 M key _ (hT.below B7 hT.pos) (PcAt.ofOwn O7 HK.out) M7 hn hn2 hk).mono ?_
  rintro e v8 ⟨⟨vg, rfl, hog⟩, hb8⟩
  rw [← HQ.out] at hog
  have B8 := B7.trans (hb8.mono B7.size)
  have S8 := S7.below' hb8
  have O8 := O7.below hb8 O7.hi
  have M8 := M7.below' hb8
  have H8 := H7.below hb8
  obtain ⟨ag, cg, rfl⟩ := hog.slc
  rw [← HH.out] at hog
  have hgl := hog.row_lo
  clear S7 O7 M7 H7 hb8 B7
  obtain ⟨bg, og, G8, _⟩ := hog.pcAt QK
  go_wp2_with fail
  refine (eqParcelS_any ag az bg og Q.length cg bs os cs Q _ G8 S8).mono ?_
  rintro e v9 ⟨rfl, hb9⟩
  have B9 := B8.trans (hb9.mono B8.size)
  have S9 := S8.below' hb9
  have O9 := O8.below hb9 O8.hi
  have M9 := M8.below' hb9
  have H9 := H8.below hb9
  have W9 := hog.below hb9 (Nat.le_refl _)
  clear S8 O8 M8 H8 hog G8 hb9 B8
  go_wp2_with fail
  refine (toParcelS_any a b o n c P _ (h.below' B9) hn).mono ?_
  rintro e v10 ⟨g10, rfl, O10', hb10⟩
  have B10 := B9.trans (hb10.mono B9.size)
  have S10 := S9.below' hb10
  have O10 := O9.below hb10 O9.hi
  have M10 := M9.below' hb10
  have H10 := H9.below hb10
  have W10 := W9.below hb10 (Nat.le_refl _)
  clear S9 O9 M9 H9 W9 hb10 B9
  go_wp2_with fail
  refine (eqParcelS_any _ _ g6 0 n n g10 0 n P _ (PcAt.ofOwn O10 HK.out) (PcAt.ofOwn O10' HK.out)).mono ?_
  rintro e v11 ⟨rfl, hb11⟩
  have B11 := B10.trans (hb11.mono B10.size)
  have S11 := S10.below' hb11
  have O11 := O10.below hb11 O10.hi
  have M11 := M10.below' hb11
  have H11 := H10.below hb11
  have W11 := W10.below hb11 (Nat.le_refl _)
  clear S10 O10 M10 H10 W10 hb11 B10 O10'
  go_wp2_with fail
  refine (toMessageS_any a2 b2 o2 n2 c2 M _ (hM.below' B11) hn2 HSM.out).mono ?_
  rintro e v12 ⟨g12, xs12, rfl, _, _, M12', hb12⟩
  have B12 := B11.trans (hb12.mono B11.size)
  have S12 := S11.below' hb12
  have O12 := O11.below hb12 O11.hi
  have M12 := M11.below' hb12
  have H12 := H11.below hb12
  have W12 := W11.below hb12 (Nat.le_refl _)
  clear S11 O11 M11 H11 W11 hb12 B11
  go_wp2_with fail
  refine (eqMessageS_any _ _ g7 0 n2 n2 g12 0 n2 M _ M12 M12').mono ?_
  rintro e v13 ⟨rfl, hb13⟩
  have B13 := B12.trans (hb13.mono B12.size)
  have S13 := S12.below' hb13
  have O13 := O12.below hb13 O12.hi
  have H13 := H12.below hb13
  have W13 := W12.below hb13 (Nat.le_refl _)
  clear S12 O12 M12 M12' H12 W12 hb13 B12
  have hm1 := markParcelS_any g6 0 n n n 1 _ _ v13 (by omega) (by omega) hn O13
  rw [show ((1 : Nat) : Int) = 1 from rfl] at hm1
  have HM1 := hid hm1
  clear hm1
  go_wp2_with fail
  refine HM1.out.mono ?_
  rintro e v14 ⟨rfl, _, hg14⟩
  have B14 := B13.grown hg14 B13.size (fun q hq => by injection hq with hq; omega)
  have S14 := S13.grown hg14 (fun hp => by have := hsl hp; simp; omega)
  have W14 := W13.grown hg14 (.inr (by intro hh; have := hgl _ hh; omega))
  have H14 : ShM g7 H n2 v14 := by
    have hbl : ∀ q, q ≠ g6 → q < v13.heap.size → v14.heap[q]? = v13.heap[q]? := fun q hq hl => hg14.block q hl (by simpa using hq)
    refine ⟨fun i hi => ?_, fun j hj => ?_⟩
    · obtain ⟨h1, h2⟩ := H13.row i hi
      obtain ⟨y, hy⟩ := Option.isSome_iff_exists.1 h1
      have := hbl g7 (by omega) (World.block_lt_of_cell? _ _ hy)
      rw [World.cell?_of_block (w := v13) this, World.frozen?_of_block (w := v13) this]
      exact ⟨h1, h2⟩
    · obtain ⟨b', n', e1, e2, e3, e4, e5⟩ := H13.s7 j hj
      refine ⟨b', n', (World.cell?_of_block (w := v13) (hbl g7 (by omega) (World.block_lt_of_cell? _ _ e1))).trans e1, e2, e3, e4, fun i hi => ?_⟩
      obtain ⟨h1, h2⟩ := e5 i hi
      obtain ⟨y, hy⟩ := Option.isSome_iff_exists.1 h1
      have := hbl b' (by omega) (World.block_lt_of_cell? _ _ hy)
      rw [World.cell?_of_block (w := v13) this, World.frozen?_of_block (w := v13) this]
      exact ⟨h1, h2⟩
  clear S13 W13 hg14 B13 O13 HM1 H13
  have hm2 := markMessageS_any g7 H n2 n2 (1 + n * 3) v14 (by omega) (by omega) hn2 hg7h H14
  rw [show ((1 + n * 3 : Nat) : Int) = 1 + (n : Int) * 3 by omega] at hm2
  have HM2 := hid hm2
  clear hm2
  have hn' : (n : Int) ≤ 1048576 := by omega
  go_wp2_with fail
  refine HM2.out.mono ?_
  rintro e v15 ⟨⟨rk, rfl, hrk0, hrk1⟩, hMd⟩
  have B15 := Mid.below B14 hMd (by omega) B14.size
  have S15 := S14.mid hMd (fun hp => .inl (by have := hsl hp; omega))
  have W15 := W14.mid hMd (Nat.le_refl _)
  obtain ⟨kk, rfl⟩ : ∃ kk : Nat, rk = kk := ⟨rk.toNat, by omega⟩
  clear S14 W14 hMd B14 H14 HM2
  obtain ⟨b15, o15, G15, _⟩ := W15.pcAt QK
  go_wp2_with fail
  refine (eqParcelS_any ag az b15 o15 Q.length cg bs os cs Q _ G15 S15).mono ?_
  rintro e v16 ⟨rfl, hb16⟩
  have B16 := B15.trans (hb16.mono B15.size)
  have S16 := S15.below' hb16
  have W16 := W15.below hb16 (Nat.le_refl _)
  clear S15 W15 G15 hb16 B15 hrk0 hrk1
  have hm3 := markParcelS_own ag Q.length cg 1 _ _ v16 (by omega) (by omega) QL W16
  rw [show ((1 : Nat) : Int) = 1 from rfl] at hm3
  have HM3 := hid hm3
  clear hm3
  go_wp2_with fail
  refine HM3.out.mono ?_
  rintro e v17 ⟨rfl, W17, hg17⟩
  have B17 := B16.grown hg17 B16.size (fun q hq => by have := hgl _ hq; omega)
  have S17 := S16.grown hg17 (fun hp e => by have := hsl hp; have := hgl _ e.symm; omega)
  obtain ⟨b17, o17, G17, _⟩ := W17.pcAt (mkP_ok 1 Q.length (by omega) QL)
  clear S16 W16 W17 hg17 B16 HM3
  have hh1 := heldParcelS_any ag b17 o17 Q.length cg 1 v17 (by omega) (by omega) QL G17
  rw [show ((1 : Nat) : Int) = 1 from rfl] at hh1
  have HH1 := hid hh1
  clear hh1
  have hQL : (Q.length : Int) ≤ 1048576 := by omega
  go_wp2_with fail
  refine HH1.out.mono ?_
  rintro e v18 ⟨rfl, hb18⟩
  have B18 := B17.trans (hb18.mono B17.size)
  have S18 := S17.below' hb18
  have G18 := G17.below' hb18
  clear S17 G17 hb18 B17 HH1
  go_wp2_with fail
  refine (toParcelS_any a b o n c P _ (h.below' B18) hn).mono ?_
  rintro e v19 ⟨g19, rfl, O19, hb19⟩
  have B19 := B18.trans (hb19.mono B18.size)
  have S19 := S18.below' hb19
  have G19 := G18.below' hb19
  clear S18 G18 hb19 B18
  go_wp2_with fail
  refine (toMessageS_any a2 b2 o2 n2 c2 M _ (hM.below' B19) hn2 HSM.out).mono ?_
  rintro e v20 ⟨g20, xs20, rfl, _, _, M20, hb20⟩
  have B20 := B19.trans (hb20.mono B19.size)
  have S20 := S19.below' hb20
  have G20 := G19.below' hb20
  have O20 := O19.below hb20 O19.hi
  clear S19 G19 O19 hb20 B19
  go_wp2_with fail
  refine (implPost_any _ g19 0 n n P _ g20 0 n2 n2 M key _ (hT.below B20 hT.pos) (PcAt.ofOwn O20 HK.out) M20 hn hn2 hk).mono ?_
  rintro e v21 ⟨⟨vh, rfl, hoh⟩, hb21⟩
  rw [← HQ.out] at hoh
  have B21 := B20.trans (hb21.mono B20.size)
  have S21 := S20.below' hb21
  have G21 := G20.below' hb21
  obtain ⟨ah, ch, rfl⟩ := hoh.slc
  obtain ⟨bh, oh, H21, _⟩ := hoh.pcAt QK
  clear S20 G20 O20 M20 hoh hb21 B20
  go_wp2_with fail
  refine (eqParcelS_any ah az bh oh Q.length ch bs os cs Q _ H21 S21).mono ?_
  rintro e v22 ⟨rfl, hb22⟩
  have B22 := B21.trans (hb22.mono B21.size)
  have G22 := G21.below' hb22
  clear S21 G21 H21 hb22 B21
  have hh2 := heldParcelS_any ag b17 o17 Q.length cg 1 v22 (by omega) (by omega) QL G22
  rw [show ((1 : Nat) : Int) = 1 from rfl] at hh2
  have HH2 := hid hh2
  clear hh2
  go_wp2_with fail
  refine HH2.out.mono ?_
  rintro e v23 ⟨rfl, hb23⟩
  have B23 := B22.trans (hb23.mono B22.size)
  clear G22 hb23 B22 HH2
  go_wp2
  go_ret
  exact ⟨rfl, B23⟩
end Go.Proofs.YtlgmkmegkojgbaaDoor
