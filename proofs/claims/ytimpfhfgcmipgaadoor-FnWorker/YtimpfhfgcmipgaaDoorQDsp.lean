
import Derived.Test.YtimpfhfgcmipgaaDoorQDso
import Derived.Deep.DeepCutAuto
namespace Go.Proofs.YtimpfhfgcmipgaaDoor
open Go.RowKit

def nineL (m : Nat) : List Int := [0, 1, 2, 3, 4, 5, 6, 7, 8].take m
/-- The list of nine numbers, or of eight of them, as a task's list. -/
theorem SP.nine {w u : World} {g Po k rb ro N rc qb rr : Nat} {ts : List TaskD} {vs : List Value} (h : SP w g Po (.slice (some ⟨rb, ro, none⟩) N rc) ts vs k u) (hi : 11 < ts.length) (hq : CF u qb [.int .i64 0, .int .i64 1, .int .i64 2, .int .i64 3, .int .i64 4, .int .i64 5, .int .i64 6, .int .i64 7, .int .i64 8]) (hz : qb < u.heap.size) (hlo : w.heap.size + 2 < qb) (h1 : qb ≠ Po) (h2 : qb ≠ rb) (h3 : ∀ j, j < ts.length → ∀ q, (vs.getD j nilV).ownBlock = some q → q ≠ qb) (hr : rr < 2) :
    SP w g Po (.slice (some ⟨rb, ro, none⟩) N rc) (ts.set 11 ⟨(ts.getD 11 dT).name, (ts.getD 11 dT).cost, nineL (8 + rr)⟩) (vs.set 11 (.slice (some ⟨qb, 0, none⟩) (8 + rr) 9)) k (u.setCell ⟨rb, ro + 11 * 3 + 2, none⟩ (.slice (some ⟨qb, 0, none⟩) (8 + rr) 9)) := by
  have hl : (nineL (8 + rr)).length = 8 + rr := by
    rcases (show rr = 0 ∨ rr = 1 by omega) with rfl | rfl <;> rfl
  have hb : (Value.slice (some ⟨qb, 0, none⟩) (8 + rr) 9).ownBlock = some qb := rfl
  have hcell : ∀ j, j < 8 + rr → u.cell? ⟨qb, 0 + j, none⟩ = ((nineL (8 + rr)).map (Value.int .i64))[j]? := fun j hj => by
    rw [Nat.zero_add, (hq j (by simp; omega)).1]
    rcases (show rr = 0 ∨ rr = 1 by omega) with rfl | rfl
    · rcases (show j = 0 ∨ j = 1 ∨ j = 2 ∨ j = 3 ∨ j = 4 ∨ j = 5 ∨ j = 6 ∨ j = 7 by omega) with rfl | rfl | rfl | rfl | rfl | rfl | rfl | rfl <;> rfl
    · rcases (show j = 0 ∨ j = 1 ∨ j = 2 ∨ j = 3 ∨ j = 4 ∨ j = 5 ∨ j = 6 ∨ j = 7 ∨ j = 8 by omega) with rfl | rfl | rfl | rfl | rfl | rfl | rfl | rfl | rfl <;> rfl
  have hown : OwnC (w.heap.size + 2) u 1 qb 0 9 (8 + rr) ((nineL (8 + rr)).map (Value.int .i64)) := {
    lo := by omega
    hi := hz
    le := by omega
    max := by unfold maxLen; omega
    len := by rw [List.length_map, hl]; omega
    holds := fun j hj => hcell j (by omega)
    there := fun j hj => by
      rw [Nat.zero_add]
      have := hq j (by simp; omega)
      exact ⟨by rw [this.1, List.getElem?_eq_getElem (by simp; omega)]; rfl, this.2⟩ }
  refine h.newD (ds := nineL (8 + rr)) hi (Below.refl _ _) rfl rfl (fun _ _ _ _ _ => rfl) (.inr ⟨qb, 0, 9, by rw [hl], by rw [hl]; exact hown⟩) (.inr (by rw [hb]; simpa using h2)) (.inr (by rw [hb]; simpa using h1)) (fun j hj _ => ?_) (by rw [hl]; omega) (fun x hx => ?_)
  · rw [hb]
    cases e : (vs.getD j nilV).ownBlock with
    | none => exact .inl rfl
    | some q => exact .inr (by simpa using h3 j hj q e)
  · have : x ∈ ([0, 1, 2, 3, 4, 5, 6, 7, 8] : List Int) := List.mem_of_mem_take hx
    simp only [List.mem_cons, List.not_mem_nil, or_false] at this
    omega

set_option maxHeartbeats 16000000 in
set_option maxRecDepth 100000 in
theorem l1Spoil_any (g k : Nat) (a : Option Addr) (b o c : Nat) (ts : List TaskD) (w : World) (h : RD w g k) (hk : k ≤ 900000) (hT : TasksAt w a b o ts.length ts) (hsm : smT ts) (h1 : 1 ≤ ts.length) (h40 : ts.length ≤ 40) (hdp : ∀ j, j < ts.length → (ts.getD j dT).deps.length ≤ 40) (hnm : ∀ j, j < ts.length → (ts.getD j dT).name.size ≤ 100) :
    Calls Tryd.prog 34 #[.pointer (some ⟨g, 0, none⟩), .agg #[.slice a ts.length c]] w fun e w' => RetPl e w.heap.size w' ∧ RD w' g (k + 200) ∧ w.grownBy w' (some g) := by
  have hgl := h.lt
  have hbig : ts.length + tssz ts ≤ 1048576 := by
    have := hsm.tssz ts.length (Nat.le_refl _)
    rw [List.take_length] at this
    omega
  obtain ⟨W, hW⟩ : ∃ W, W = (w.alloc (.cells #[.slice a ts.length c] 28)).alloc (.cells #[.slice none 0 0] 28) := ⟨_, rfl⟩
  have hBW : Below w.heap.size w W := by rw [hW]; exact ((Below.refl _ _).alloc (Nat.le_refl _) _).alloc (by simp) _
  have hzW : w.heap.size + 2 = W.heap.size := by rw [hW]; simp
  have hP : W.cell? ⟨w.heap.size, 0, none⟩ = some (.slice a ts.length c) := by
    rw [hW]; exact (((CF.made w #[.slice a ts.length c] 28).block (Below.heap_alloc _ _ _ (by simp))) 0 (by simp)).1
  have hR : CF W (w.heap.size + 1) [.slice none 0 0] := by
    rw [hW]
    have := CF.made (w.alloc (.cells #[.slice a ts.length c] 28)) #[.slice none 0 0] 28
    rw [World.size_alloc] at this
    exact this
  have HW := hid hW
  clear hW
  go_enter Tryd.func34, Tryd.ntmps34
  go_upto_region 1 with fail
  rw [← HW.out]
  clear HW
  go_wp2_with fail
  refine (l1Plan_any a b o ts.length c ts _ (hT.below' hBW) hbig).mono ?_
  rintro e w1 ⟨⟨v, vs, rfl, hpl⟩, hb1⟩
  obtain ⟨rb, ro, rc, rfl⟩ : ∃ rb ro rc, v = .slice (some ⟨rb, ro, none⟩) ts.length rc := by
    rcases hpl.row with ⟨_, hn, _⟩ | ⟨rb, ro, rc, hv, _⟩
    · omega
    · exact ⟨rb, ro, rc, hv⟩
  obtain ⟨W2, hW2⟩ : ∃ V, V = w1.alloc (.cells #[.slice (some ⟨rb, ro, none⟩) ts.length rc] 28) := ⟨_, rfl⟩
  obtain ⟨Po, hPo⟩ : ∃ q, q = w1.heap.size := ⟨_, rfl⟩
  have S2 : SP w g Po (.slice (some ⟨rb, ro, none⟩) ts.length rc) ts vs k W2 := by
    have hB1 := hBW.trans (hb1.mono hBW.size)
    have hz1 := hb1.size
    rw [hW2, hPo]
    have ba : Below w1.heap.size w1 (w1.alloc (.cells #[.slice (some ⟨rb, ro, none⟩) ts.length rc] 28)) := (Below.refl _ _).alloc (Nat.le_refl _) _
    have hBa := hB1.trans (ba.mono hB1.size)
    refine ⟨CF.made w1 _ _, (hR.block (hb1.block _ (by omega))).block (ba.block _ (by omega)), h.below hBa, grownBy_below hBa, (hpl.below ba).mono (by omega), hsm, by simp, hgl, by omega, ?_, fun j hj => ?_⟩
    · exact Dn.later hpl.row.row_hi (fun q hq => by injection hq with hq; omega)
    · exact Dn.later (hpl.dep j hj).row_hi (fun q hq => by injection hq with hq; omega)
  have HW2 := hid hW2
  have HPo := hid hPo
  clear hW2 hPo hP hR hBW hzW hb1 hpl h hT hbig
  go_upto_region 2 with fail
  rw [← HW2.out, ← HPo.out]
  clear HW2
  have p2 := S2.box
  go_wp2_with fail
  refine (pick_any g ts.length k _ S2.rd (by omega) (by omega) (by omega)).mono ?_
  rintro e w3 ⟨⟨kk, hkk, rfl⟩, hr3, hg3⟩
  have S3 := S2.call hr3 hg3
  clear hr3 hg3 S2 p2
  have p3 := S3.box
  have hne : ¬ (ts.length : Int) = 0 := by omega
  go_wp2_with fail
  refine (pick_any g 7 (k + 1) _ S3.rd (by omega) (by omega) (by omega)).mono ?_
  rintro e w4 ⟨⟨r7, hr7, rfl⟩, hr4, hg4⟩
  have S4 := S3.call hr4 hg4
  clear hr4 hg4 S3 p3 hne
  have hts0 : 0 < ts.length := by omega
  have hnmk : (ts.getD kk dT).name.size ≤ 100 := hnm kk hkk
  rcases (show r7 = 0 ∨ r7 = 1 ∨ r7 = 2 ∨ r7 = 3 ∨ r7 = 4 ∨ r7 = 5 ∨ r7 = 6 by omega) with rfl | rfl | rfl | rfl | rfl | rfl | rfl
  · go_upto_region 8 with fail
    refine wp_region_held (S := fun w' => w'.cell? ⟨Po, 0, none⟩ = some (.slice (some ⟨rb, ro, none⟩) ts.length rc)) (by kernel_rfl) ?_
    change wpAnyH _ _ _ _ _ _ _ _ (World.drew _)
    have s0 := S4.drew
    obtain ⟨x0, hx0⟩ : ∃ U, U = w4.drew := ⟨_, rfl⟩
    rw [← hx0] at s0
    rw [← hx0]
    clear hx0 S4
    refine hTk (i := 0) (d := some 37) (v := .pointer (some ⟨Po, 0, none⟩)) (l' := (bt 18 1)) rfl (fun _ hc => run_faP (.tmp 5) (by kernel_rfl) (by kernel_rfl)) s0.box ?_
    refine hTk (i := 1) (d := some 38) (v := (.slice (some ⟨rb, ro, none⟩) ts.length rc)) (l' := (bt 18 3)) rfl (fun _ hc => run_ldTs (.tmp 37) (by kernel_rfl) (by kernel_rfl) hc) s0.box ?_
    refine hTk (i := 2) (d := some 39) (v := .int .i64 (kk : Nat)) (l' := (bt 18 7)) rfl (fun _ hc => run_mvD (.tmp 6) (by kernel_rfl) (by kernel_rfl)) s0.box ?_
    refine hTk (i := 3) (d := some 40) (v := .pointer (some ⟨Po, 0, none⟩)) (l' := (bt 18 15)) rfl (fun _ hc => run_faP (.tmp 5) (by kernel_rfl) (by kernel_rfl)) s0.box ?_
    refine hTk (i := 4) (d := some 41) (v := (.slice (some ⟨rb, ro, none⟩) ts.length rc)) (l' := (bt 18 31)) rfl (fun _ hc => run_ldTs (.tmp 40) (by kernel_rfl) (by kernel_rfl) hc) s0.box ?_
    refine hTk (i := 5) (d := some 42) (v := .pointer (some ⟨rb, ro + 0 * 3, none⟩)) (l' := (bt 18 63)) rfl (fun _ hc => run_ixT (.tmp 41) (.const (.int .i64 0)) rb ro ts.length rc 0 (by kernel_rfl) (by kernel_rfl) (by kernel_rfl) hts0) s0.box ?_
    refine hTk (i := 6) (d := some 43) (v := .pointer (some ⟨rb, ro + 0 * 3, none⟩)) (l' := (bt 18 127)) rfl (fun _ hc => run_faT0 (.tmp 42) (by kernel_rfl) (by kernel_rfl)) s0.box ?_
    refine hTk (i := 11) (d := some 48) (v := .pointer (some ⟨g, 0, none⟩)) (l' := (bt 18 2175)) rfl (fun _ hc => run_mvD (.tmp 0) (by kernel_rfl) (by kernel_rfl)) s0.box ?_
    refine hTwo (i := 7) (j := 8) (by kernel_rfl) (hVal (i := 7) (d := some 44) (v := .string (ts.getD 0 dT).name) (w' := x0) (l' := (bt 18 2303)) rfl (by kernel_rfl) (by kernel_rfl) (by kernel_rfl) (run_ldSt (.tmp 43) (by kernel_rfl) (by kernel_rfl) (s0.pl.cell (i := 0) hts0 0 (by omega)).1) s0.box ?_) (hCall (i := 8) (d := some 45) (f := 47) (args := #[.string ⟨#[110]⟩, .int .i64 30]) (l' := (bt 18 2431)) (R := fun v w' => (∃ t : ByteArray, v = .string t ∧ t.size ≤ 1000) ∧ Below x0.heap.size x0 w') rfl (by kernel_rfl) (by kernel_rfl) (by kernel_rfl) (run_cl2 _ _ _ rfl (by kernel_rfl) (by kernel_rfl) rfl enter_l1Many) ((l1Many_any ⟨#[110]⟩ 30 x0 (by decide) (by omega)).mono fun e w' ⟨⟨t, he, ht⟩, hw⟩ => ⟨_, he, ⟨t, rfl, ht⟩, hw ▸ Below.refl _ _⟩) ?_)
    · refine hOne (by kernel_rfl) (hCall (i := 8) (d := some 45) (f := 47) (args := #[.string ⟨#[110]⟩, .int .i64 30]) (l' := (bt 18 2559)) (R := fun v w' => (∃ t : ByteArray, v = .string t ∧ t.size ≤ 1000) ∧ Below x0.heap.size x0 w') rfl (by kernel_rfl) (by kernel_rfl) (by kernel_rfl) (run_cl2 _ _ _ rfl (by kernel_rfl) (by kernel_rfl) rfl enter_l1Many) ((l1Many_any ⟨#[110]⟩ 30 x0 (by decide) (by omega)).mono fun e w' ⟨⟨t, he, ht⟩, hw⟩ => ⟨_, he, ⟨t, rfl, ht⟩, hw ▸ Below.refl _ _⟩) ?_)
      rintro _ xw1 ⟨⟨t30, rfl, ht30⟩, hbb⟩
      have s2 := s0.below hbb
      clear hbb s0
      refine ⟨s2.box, ?_⟩
      refine hOne (by kernel_rfl) (hCall (i := 9) (d := some 46) (f := 47) (args := #[.string ⟨#[110]⟩, .int .i64 31]) (l' := (bt 18 3071)) (R := fun v w' => (∃ t : ByteArray, v = .string t ∧ t.size ≤ 1000) ∧ Below xw1.heap.size xw1 w') rfl (by kernel_rfl) (by kernel_rfl) (by kernel_rfl) (run_cl2 _ _ _ rfl (by kernel_rfl) (by kernel_rfl) rfl enter_l1Many) ((l1Many_any ⟨#[110]⟩ 31 xw1 (by decide) (by omega)).mono fun e w' ⟨⟨t, he, ht⟩, hw⟩ => ⟨_, he, ⟨t, rfl, ht⟩, hw ▸ Below.refl _ _⟩) ?_)
      rintro _ xw3 ⟨⟨t31, rfl, ht31⟩, hbb⟩
      have s4 := s2.below hbb
      clear hbb s2
      refine ⟨s4.box, ?_⟩
      refine hTwo (i := 10) (j := 12) (by kernel_rfl) (hVal (i := 10) (d := some 47) (v := .slice (some ⟨xw3.heap.size, 0, none⟩) 5 5) (w' := xw3.alloc (.cells #[.string ⟨#[]⟩, .string ⟨#[97, 32, 98]⟩, .string (ts.getD 0 dT).name, .string t30, .string t31] 9)) (l' := (bt 18 4095)) rfl (by kernel_rfl) (by kernel_rfl) (by kernel_rfl) (run_bsS5 (.const (.string ⟨#[]⟩)) (.const (.string ⟨#[97, 32, 98]⟩)) (.tmp 44) (.tmp 45) (.tmp 46) ⟨#[]⟩ ⟨#[97, 32, 98]⟩ (ts.getD 0 dT).name t30 t31 (by kernel_rfl) (by kernel_rfl) (by kernel_rfl) (by kernel_rfl) (by kernel_rfl) (by kernel_rfl)) (s4.alloc (.cells #[.string ⟨#[]⟩, .string ⟨#[97, 32, 98]⟩, .string (ts.getD 0 dT).name, .string t30, .string t31] 9)).box ?_) (hCall (i := 12) (d := some 49) (f := 32) (args := #[.pointer (some ⟨g, 0, none⟩), .int .i64 5]) (l' := (bt 18 7167)) (R := fun v w' => (∃ r : Nat, r < 5 ∧ v = .int .i64 r) ∧ RD w' g (k + 2 + 1) ∧ xw3.grownBy w' (some g)) rfl (by kernel_rfl) (by kernel_rfl) (by kernel_rfl) (run_cl2 _ _ _ rfl (by kernel_rfl) (by kernel_rfl) rfl enter_pick) ((pick_any g 5 (k + 2) xw3 s4.rd (by omega) (by omega) (by omega)).mono fun e w' ⟨⟨r, hr, he⟩, h1, h2⟩ => ⟨_, he, ⟨r, hr, rfl⟩, h1, h2⟩) ?_)
      · have s6 := s4.alloc (.cells #[.string ⟨#[]⟩, .string ⟨#[97, 32, 98]⟩, .string (ts.getD 0 dT).name, .string t30, .string t31] 9)
        have hq7 := CF.made xw3 #[.string ⟨#[]⟩, .string ⟨#[97, 32, 98]⟩, .string (ts.getD 0 dT).name, .string t30, .string t31] 9
        have hq7z : xw3.heap.size < (xw3.alloc (.cells #[.string ⟨#[]⟩, .string ⟨#[97, 32, 98]⟩, .string (ts.getD 0 dT).name, .string t30, .string t31] 9)).heap.size := by simp
        have qlo : w.heap.size + 2 < xw3.heap.size := by have := s4.z; have := s4.lo; omega
        have qPo : xw3.heap.size ≠ Po ∧ xw3.heap.size ≠ rb := by have := s4.z; have := s4.inRow; omega
        obtain ⟨qb, hqb⟩ : ∃ q, q = xw3.heap.size := ⟨_, rfl⟩
        rw [← hqb] at hq7 hq7z qlo qPo
        rw [← hqb]
        obtain ⟨xw5, hxw5⟩ : ∃ V, V = xw3.alloc (.cells #[.string ⟨#[]⟩, .string ⟨#[97, 32, 98]⟩, .string (ts.getD 0 dT).name, .string t30, .string t31] 9) := ⟨_, rfl⟩
        have qrow : ∀ j, j < ts.length → ∀ q, (vs.getD j nilV).ownBlock = some q → q ≠ qb := fun j hj q hq => by have := (s4.pl.dep j hj).row_hi q hq; omega
        rw [← hxw5] at s6 hq7 hq7z
        rw [← hxw5]
        clear hxw5 hqb s4
        refine hOne (by kernel_rfl) (hCall (i := 12) (d := some 49) (f := 32) (args := #[.pointer (some ⟨g, 0, none⟩), .int .i64 5]) (l' := (bt 18 8191)) (R := fun v w' => (∃ r : Nat, r < 5 ∧ v = .int .i64 r) ∧ RD w' g (k + 2 + 1) ∧ xw5.grownBy w' (some g)) rfl (by kernel_rfl) (by kernel_rfl) (by kernel_rfl) (run_cl2 _ _ _ rfl (by kernel_rfl) (by kernel_rfl) rfl enter_pick) ((pick_any g 5 (k + 2) xw5 s6.rd (by omega) (by omega) (by omega)).mono fun e w' ⟨⟨r, hr, he⟩, h1, h2⟩ => ⟨_, he, ⟨r, hr, rfl⟩, h1, h2⟩) ?_)
        rintro _ xw8 ⟨⟨rr, hrr, rfl⟩, hrd, hgg⟩
        have s9 := s6.call hrd hgg
        have hq10 := hq7.block (hgg.block qb (by have := hq7z; omega) (by simp; have := s6.gl; have := qlo; omega))
        have hq10z : qb < xw8.heap.size := by have := hgg.size; have := hq7z; omega
        clear hrd hgg s6 hq7 hq7z
        refine ⟨s9.box, ?_⟩
        refine hOne (by kernel_rfl) (hVal (i := 13) (d := some 50) (v := .pointer (some ⟨qb, rr, none⟩)) (w' := xw8) (l' := (bt 18 16383)) rfl (by kernel_rfl) (by kernel_rfl) (by kernel_rfl) (run_ixS (.tmp 47) (.tmp 49) qb 5 5 rr (by kernel_rfl) (by kernel_rfl) (by kernel_rfl) hrr) s9.box ?_)
        obtain ⟨sx, hsx, hsc⟩ : ∃ sx : ByteArray, sx.size ≤ 1000 ∧ xw8.cell? ⟨qb, rr, none⟩ = some (.string sx) := by
          rcases (show rr = 0 ∨ rr = 1 ∨ rr = 2 ∨ rr = 3 ∨ rr = 4 by omega) with rfl | rfl | rfl | rfl | rfl
          · exact ⟨_, by decide, (hq10 0 (by simp)).1⟩
          · exact ⟨_, by decide, (hq10 1 (by simp)).1⟩
          · exact ⟨_, (s9.sm 0 hts0).1, (hq10 2 (by simp)).1⟩
          · exact ⟨_, ht30, (hq10 3 (by simp)).1⟩
          · exact ⟨_, ht31, (hq10 4 (by simp)).1⟩
        refine hOne (by kernel_rfl) (hVal (i := 14) (d := some 51) (v := .string sx) (w' := xw8) (l' := (bt 18 32767)) rfl (by kernel_rfl) (by kernel_rfl) (by kernel_rfl) (run_ldSt (.tmp 50) (by kernel_rfl) (by kernel_rfl) hsc) s9.box ?_)
        refine hOne (by kernel_rfl) (hVal (i := 15) (d := some 52) (v := .pointer (some ⟨rb, ro + kk * 3, none⟩)) (w' := xw8) (l' := (bt 18 65535)) rfl (by kernel_rfl) (by kernel_rfl) (by kernel_rfl) (run_ixT (.tmp 38) (.tmp 39) rb ro ts.length rc kk (by kernel_rfl) (by kernel_rfl) (by kernel_rfl) hkk) s9.box ?_)
        refine hOne (by kernel_rfl) (hVal (i := 16) (d := some 53) (v := .pointer (some ⟨rb, ro + kk * 3, none⟩)) (w' := xw8) (l' := (bt 18 131071)) rfl (by kernel_rfl) (by kernel_rfl) (by kernel_rfl) (run_faT0 (.tmp 52) (by kernel_rfl) (by kernel_rfl)) s9.box ?_)
        have hcP : xw8.cell? ⟨rb, ro + kk * 3, none⟩ = some (.string (ts.getD kk dT).name) := (s9.pl.cell hkk 0 (by omega)).1
        have hfP : xw8.frozen? ⟨rb, ro + kk * 3, none⟩ = false := (s9.pl.cell hkk 0 (by omega)).2
        have sN := s9.setN hkk sx hsx
        have bN := sN.box
        refine hOne (by kernel_rfl) (hSkip (i := 17) (w' := xw8.setCell ⟨rb, ro + kk * 3, none⟩ (.string sx)) (l' := (bt 18 262143)) rfl (by kernel_rfl) (by kernel_rfl) (by kernel_rfl) (run_stSt (.tmp 53) (.tmp 51) _ (by kernel_rfl) (by kernel_rfl) (by kernel_rfl) hcP hfP) bN ?_)
        obtain ⟨xw11, hxw11⟩ : ∃ V, V = xw8.setCell ⟨rb, ro + kk * 3, none⟩ (.string sx) := ⟨_, rfl⟩
        rw [← hxw11] at sN
        rw [← hxw11]
        clear hxw11 s9 hq10 hq10z bN hcP hfP
        refine wpAnyH_done (by kernel_rfl) ?_ _
        have HF := sN.fin (by simp; omega)
        have p0 := sN.box
        have k0 : xw11.cell? ⟨w.heap.size + 1, 0, none⟩ = some (.slice none 0 0) := (sN.R 0 (by simp)).1
        have f0 : xw11.frozen? ⟨w.heap.size + 1, 0, none⟩ = false := (sN.R 0 (by simp)).2
        have HFF := hid (HF.imp id (fun h => And.intro (h.1.mono (show _ ≤ k + 200 by omega)) h.2))
        clear HF sN
        go_wp2
        exact bodyPost_ret (v := .agg #[(.slice (some ⟨rb, ro, none⟩) ts.length rc)]) (by simp [results, Tryd.results34, go_sem, k0]) rfl HFF.out
      · rintro _ xw12 ⟨⟨rr, hrr, rfl⟩, hrd, hgg⟩
        have s13 := s4.call hrd hgg
        clear hrd hgg s4
        refine ⟨s13.box, ?_⟩
        refine hOne (by kernel_rfl) (hVal (i := 10) (d := some 47) (v := .slice (some ⟨xw12.heap.size, 0, none⟩) 5 5) (w' := xw12.alloc (.cells #[.string ⟨#[]⟩, .string ⟨#[97, 32, 98]⟩, .string (ts.getD 0 dT).name, .string t30, .string t31] 9)) (l' := (bt 18 8191)) rfl (by kernel_rfl) (by kernel_rfl) (by kernel_rfl) (run_bsS5 (.const (.string ⟨#[]⟩)) (.const (.string ⟨#[97, 32, 98]⟩)) (.tmp 44) (.tmp 45) (.tmp 46) ⟨#[]⟩ ⟨#[97, 32, 98]⟩ (ts.getD 0 dT).name t30 t31 (by kernel_rfl) (by kernel_rfl) (by kernel_rfl) (by kernel_rfl) (by kernel_rfl) (by kernel_rfl)) (s13.alloc (.cells #[.string ⟨#[]⟩, .string ⟨#[97, 32, 98]⟩, .string (ts.getD 0 dT).name, .string t30, .string t31] 9)).box ?_)
        have s15 := s13.alloc (.cells #[.string ⟨#[]⟩, .string ⟨#[97, 32, 98]⟩, .string (ts.getD 0 dT).name, .string t30, .string t31] 9)
        have hq16 := CF.made xw12 #[.string ⟨#[]⟩, .string ⟨#[97, 32, 98]⟩, .string (ts.getD 0 dT).name, .string t30, .string t31] 9
        have hq16z : xw12.heap.size < (xw12.alloc (.cells #[.string ⟨#[]⟩, .string ⟨#[97, 32, 98]⟩, .string (ts.getD 0 dT).name, .string t30, .string t31] 9)).heap.size := by simp
        have qlo : w.heap.size + 2 < xw12.heap.size := by have := s13.z; have := s13.lo; omega
        have qPo : xw12.heap.size ≠ Po ∧ xw12.heap.size ≠ rb := by have := s13.z; have := s13.inRow; omega
        obtain ⟨qb, hqb⟩ : ∃ q, q = xw12.heap.size := ⟨_, rfl⟩
        rw [← hqb] at hq16 hq16z qlo qPo
        rw [← hqb]
        obtain ⟨xw14, hxw14⟩ : ∃ V, V = xw12.alloc (.cells #[.string ⟨#[]⟩, .string ⟨#[97, 32, 98]⟩, .string (ts.getD 0 dT).name, .string t30, .string t31] 9) := ⟨_, rfl⟩
        have qrow : ∀ j, j < ts.length → ∀ q, (vs.getD j nilV).ownBlock = some q → q ≠ qb := fun j hj q hq => by have := (s13.pl.dep j hj).row_hi q hq; omega
        rw [← hxw14] at s15 hq16 hq16z
        rw [← hxw14]
        clear hxw14 hqb s13
        refine hOne (by kernel_rfl) (hVal (i := 13) (d := some 50) (v := .pointer (some ⟨qb, rr, none⟩)) (w' := xw14) (l' := (bt 18 16383)) rfl (by kernel_rfl) (by kernel_rfl) (by kernel_rfl) (run_ixS (.tmp 47) (.tmp 49) qb 5 5 rr (by kernel_rfl) (by kernel_rfl) (by kernel_rfl) hrr) s15.box ?_)
        obtain ⟨sx, hsx, hsc⟩ : ∃ sx : ByteArray, sx.size ≤ 1000 ∧ xw14.cell? ⟨qb, rr, none⟩ = some (.string sx) := by
          rcases (show rr = 0 ∨ rr = 1 ∨ rr = 2 ∨ rr = 3 ∨ rr = 4 by omega) with rfl | rfl | rfl | rfl | rfl
          · exact ⟨_, by decide, (hq16 0 (by simp)).1⟩
          · exact ⟨_, by decide, (hq16 1 (by simp)).1⟩
          · exact ⟨_, (s15.sm 0 hts0).1, (hq16 2 (by simp)).1⟩
          · exact ⟨_, ht30, (hq16 3 (by simp)).1⟩
          · exact ⟨_, ht31, (hq16 4 (by simp)).1⟩
        refine hOne (by kernel_rfl) (hVal (i := 14) (d := some 51) (v := .string sx) (w' := xw14) (l' := (bt 18 32767)) rfl (by kernel_rfl) (by kernel_rfl) (by kernel_rfl) (run_ldSt (.tmp 50) (by kernel_rfl) (by kernel_rfl) hsc) s15.box ?_)
        refine hOne (by kernel_rfl) (hVal (i := 15) (d := some 52) (v := .pointer (some ⟨rb, ro + kk * 3, none⟩)) (w' := xw14) (l' := (bt 18 65535)) rfl (by kernel_rfl) (by kernel_rfl) (by kernel_rfl) (run_ixT (.tmp 38) (.tmp 39) rb ro ts.length rc kk (by kernel_rfl) (by kernel_rfl) (by kernel_rfl) hkk) s15.box ?_)
        refine hOne (by kernel_rfl) (hVal (i := 16) (d := some 53) (v := .pointer (some ⟨rb, ro + kk * 3, none⟩)) (w' := xw14) (l' := (bt 18 131071)) rfl (by kernel_rfl) (by kernel_rfl) (by kernel_rfl) (run_faT0 (.tmp 52) (by kernel_rfl) (by kernel_rfl)) s15.box ?_)
        have hcP : xw14.cell? ⟨rb, ro + kk * 3, none⟩ = some (.string (ts.getD kk dT).name) := (s15.pl.cell hkk 0 (by omega)).1
        have hfP : xw14.frozen? ⟨rb, ro + kk * 3, none⟩ = false := (s15.pl.cell hkk 0 (by omega)).2
        have sN := s15.setN hkk sx hsx
        have bN := sN.box
        refine hOne (by kernel_rfl) (hSkip (i := 17) (w' := xw14.setCell ⟨rb, ro + kk * 3, none⟩ (.string sx)) (l' := (bt 18 262143)) rfl (by kernel_rfl) (by kernel_rfl) (by kernel_rfl) (run_stSt (.tmp 53) (.tmp 51) _ (by kernel_rfl) (by kernel_rfl) (by kernel_rfl) hcP hfP) bN ?_)
        obtain ⟨xw17, hxw17⟩ : ∃ V, V = xw14.setCell ⟨rb, ro + kk * 3, none⟩ (.string sx) := ⟨_, rfl⟩
        rw [← hxw17] at sN
        rw [← hxw17]
        clear hxw17 s15 hq16 hq16z bN hcP hfP
        refine wpAnyH_done (by kernel_rfl) ?_ _
        have HF := sN.fin (by simp; omega)
        have p0 := sN.box
        have k0 : xw17.cell? ⟨w.heap.size + 1, 0, none⟩ = some (.slice none 0 0) := (sN.R 0 (by simp)).1
        have f0 : xw17.frozen? ⟨w.heap.size + 1, 0, none⟩ = false := (sN.R 0 (by simp)).2
        have HFF := hid (HF.imp id (fun h => And.intro (h.1.mono (show _ ≤ k + 200 by omega)) h.2))
        clear HF sN
        go_wp2
        exact bodyPost_ret (v := .agg #[(.slice (some ⟨rb, ro, none⟩) ts.length rc)]) (by simp [results, Tryd.results34, go_sem, k0]) rfl HFF.out
    · rintro _ xw18 ⟨⟨t30, rfl, ht30⟩, hbb⟩
      have s19 := s0.below hbb
      clear hbb s0
      refine ⟨s19.box, ?_⟩
      refine hTwo (i := 7) (j := 9) (by kernel_rfl) (hVal (i := 7) (d := some 44) (v := .string (ts.getD 0 dT).name) (w' := xw18) (l' := (bt 18 2559)) rfl (by kernel_rfl) (by kernel_rfl) (by kernel_rfl) (run_ldSt (.tmp 43) (by kernel_rfl) (by kernel_rfl) (s19.pl.cell (i := 0) hts0 0 (by omega)).1) s19.box ?_) (hCall (i := 9) (d := some 46) (f := 47) (args := #[.string ⟨#[110]⟩, .int .i64 31]) (l' := (bt 18 2943)) (R := fun v w' => (∃ t : ByteArray, v = .string t ∧ t.size ≤ 1000) ∧ Below xw18.heap.size xw18 w') rfl (by kernel_rfl) (by kernel_rfl) (by kernel_rfl) (run_cl2 _ _ _ rfl (by kernel_rfl) (by kernel_rfl) rfl enter_l1Many) ((l1Many_any ⟨#[110]⟩ 31 xw18 (by decide) (by omega)).mono fun e w' ⟨⟨t, he, ht⟩, hw⟩ => ⟨_, he, ⟨t, rfl, ht⟩, hw ▸ Below.refl _ _⟩) ?_)
      · refine hOne (by kernel_rfl) (hCall (i := 9) (d := some 46) (f := 47) (args := #[.string ⟨#[110]⟩, .int .i64 31]) (l' := (bt 18 3071)) (R := fun v w' => (∃ t : ByteArray, v = .string t ∧ t.size ≤ 1000) ∧ Below xw18.heap.size xw18 w') rfl (by kernel_rfl) (by kernel_rfl) (by kernel_rfl) (run_cl2 _ _ _ rfl (by kernel_rfl) (by kernel_rfl) rfl enter_l1Many) ((l1Many_any ⟨#[110]⟩ 31 xw18 (by decide) (by omega)).mono fun e w' ⟨⟨t, he, ht⟩, hw⟩ => ⟨_, he, ⟨t, rfl, ht⟩, hw ▸ Below.refl _ _⟩) ?_)
        rintro _ xw20 ⟨⟨t31, rfl, ht31⟩, hbb⟩
        have s21 := s19.below hbb
        clear hbb s19
        refine ⟨s21.box, ?_⟩
        refine hTwo (i := 10) (j := 12) (by kernel_rfl) (hVal (i := 10) (d := some 47) (v := .slice (some ⟨xw20.heap.size, 0, none⟩) 5 5) (w' := xw20.alloc (.cells #[.string ⟨#[]⟩, .string ⟨#[97, 32, 98]⟩, .string (ts.getD 0 dT).name, .string t30, .string t31] 9)) (l' := (bt 18 4095)) rfl (by kernel_rfl) (by kernel_rfl) (by kernel_rfl) (run_bsS5 (.const (.string ⟨#[]⟩)) (.const (.string ⟨#[97, 32, 98]⟩)) (.tmp 44) (.tmp 45) (.tmp 46) ⟨#[]⟩ ⟨#[97, 32, 98]⟩ (ts.getD 0 dT).name t30 t31 (by kernel_rfl) (by kernel_rfl) (by kernel_rfl) (by kernel_rfl) (by kernel_rfl) (by kernel_rfl)) (s21.alloc (.cells #[.string ⟨#[]⟩, .string ⟨#[97, 32, 98]⟩, .string (ts.getD 0 dT).name, .string t30, .string t31] 9)).box ?_) (hCall (i := 12) (d := some 49) (f := 32) (args := #[.pointer (some ⟨g, 0, none⟩), .int .i64 5]) (l' := (bt 18 7167)) (R := fun v w' => (∃ r : Nat, r < 5 ∧ v = .int .i64 r) ∧ RD w' g (k + 2 + 1) ∧ xw20.grownBy w' (some g)) rfl (by kernel_rfl) (by kernel_rfl) (by kernel_rfl) (run_cl2 _ _ _ rfl (by kernel_rfl) (by kernel_rfl) rfl enter_pick) ((pick_any g 5 (k + 2) xw20 s21.rd (by omega) (by omega) (by omega)).mono fun e w' ⟨⟨r, hr, he⟩, h1, h2⟩ => ⟨_, he, ⟨r, hr, rfl⟩, h1, h2⟩) ?_)
        · have s23 := s21.alloc (.cells #[.string ⟨#[]⟩, .string ⟨#[97, 32, 98]⟩, .string (ts.getD 0 dT).name, .string t30, .string t31] 9)
          have hq24 := CF.made xw20 #[.string ⟨#[]⟩, .string ⟨#[97, 32, 98]⟩, .string (ts.getD 0 dT).name, .string t30, .string t31] 9
          have hq24z : xw20.heap.size < (xw20.alloc (.cells #[.string ⟨#[]⟩, .string ⟨#[97, 32, 98]⟩, .string (ts.getD 0 dT).name, .string t30, .string t31] 9)).heap.size := by simp
          have qlo : w.heap.size + 2 < xw20.heap.size := by have := s21.z; have := s21.lo; omega
          have qPo : xw20.heap.size ≠ Po ∧ xw20.heap.size ≠ rb := by have := s21.z; have := s21.inRow; omega
          obtain ⟨qb, hqb⟩ : ∃ q, q = xw20.heap.size := ⟨_, rfl⟩
          rw [← hqb] at hq24 hq24z qlo qPo
          rw [← hqb]
          obtain ⟨xw22, hxw22⟩ : ∃ V, V = xw20.alloc (.cells #[.string ⟨#[]⟩, .string ⟨#[97, 32, 98]⟩, .string (ts.getD 0 dT).name, .string t30, .string t31] 9) := ⟨_, rfl⟩
          have qrow : ∀ j, j < ts.length → ∀ q, (vs.getD j nilV).ownBlock = some q → q ≠ qb := fun j hj q hq => by have := (s21.pl.dep j hj).row_hi q hq; omega
          rw [← hxw22] at s23 hq24 hq24z
          rw [← hxw22]
          clear hxw22 hqb s21
          refine hOne (by kernel_rfl) (hCall (i := 12) (d := some 49) (f := 32) (args := #[.pointer (some ⟨g, 0, none⟩), .int .i64 5]) (l' := (bt 18 8191)) (R := fun v w' => (∃ r : Nat, r < 5 ∧ v = .int .i64 r) ∧ RD w' g (k + 2 + 1) ∧ xw22.grownBy w' (some g)) rfl (by kernel_rfl) (by kernel_rfl) (by kernel_rfl) (run_cl2 _ _ _ rfl (by kernel_rfl) (by kernel_rfl) rfl enter_pick) ((pick_any g 5 (k + 2) xw22 s23.rd (by omega) (by omega) (by omega)).mono fun e w' ⟨⟨r, hr, he⟩, h1, h2⟩ => ⟨_, he, ⟨r, hr, rfl⟩, h1, h2⟩) ?_)
          rintro _ xw25 ⟨⟨rr, hrr, rfl⟩, hrd, hgg⟩
          have s26 := s23.call hrd hgg
          have hq27 := hq24.block (hgg.block qb (by have := hq24z; omega) (by simp; have := s23.gl; have := qlo; omega))
          have hq27z : qb < xw25.heap.size := by have := hgg.size; have := hq24z; omega
          clear hrd hgg s23 hq24 hq24z
          refine ⟨s26.box, ?_⟩
          refine hOne (by kernel_rfl) (hVal (i := 13) (d := some 50) (v := .pointer (some ⟨qb, rr, none⟩)) (w' := xw25) (l' := (bt 18 16383)) rfl (by kernel_rfl) (by kernel_rfl) (by kernel_rfl) (run_ixS (.tmp 47) (.tmp 49) qb 5 5 rr (by kernel_rfl) (by kernel_rfl) (by kernel_rfl) hrr) s26.box ?_)
          obtain ⟨sx, hsx, hsc⟩ : ∃ sx : ByteArray, sx.size ≤ 1000 ∧ xw25.cell? ⟨qb, rr, none⟩ = some (.string sx) := by
            rcases (show rr = 0 ∨ rr = 1 ∨ rr = 2 ∨ rr = 3 ∨ rr = 4 by omega) with rfl | rfl | rfl | rfl | rfl
            · exact ⟨_, by decide, (hq27 0 (by simp)).1⟩
            · exact ⟨_, by decide, (hq27 1 (by simp)).1⟩
            · exact ⟨_, (s26.sm 0 hts0).1, (hq27 2 (by simp)).1⟩
            · exact ⟨_, ht30, (hq27 3 (by simp)).1⟩
            · exact ⟨_, ht31, (hq27 4 (by simp)).1⟩
          refine hOne (by kernel_rfl) (hVal (i := 14) (d := some 51) (v := .string sx) (w' := xw25) (l' := (bt 18 32767)) rfl (by kernel_rfl) (by kernel_rfl) (by kernel_rfl) (run_ldSt (.tmp 50) (by kernel_rfl) (by kernel_rfl) hsc) s26.box ?_)
          refine hOne (by kernel_rfl) (hVal (i := 15) (d := some 52) (v := .pointer (some ⟨rb, ro + kk * 3, none⟩)) (w' := xw25) (l' := (bt 18 65535)) rfl (by kernel_rfl) (by kernel_rfl) (by kernel_rfl) (run_ixT (.tmp 38) (.tmp 39) rb ro ts.length rc kk (by kernel_rfl) (by kernel_rfl) (by kernel_rfl) hkk) s26.box ?_)
          refine hOne (by kernel_rfl) (hVal (i := 16) (d := some 53) (v := .pointer (some ⟨rb, ro + kk * 3, none⟩)) (w' := xw25) (l' := (bt 18 131071)) rfl (by kernel_rfl) (by kernel_rfl) (by kernel_rfl) (run_faT0 (.tmp 52) (by kernel_rfl) (by kernel_rfl)) s26.box ?_)
          have hcP : xw25.cell? ⟨rb, ro + kk * 3, none⟩ = some (.string (ts.getD kk dT).name) := (s26.pl.cell hkk 0 (by omega)).1
          have hfP : xw25.frozen? ⟨rb, ro + kk * 3, none⟩ = false := (s26.pl.cell hkk 0 (by omega)).2
          have sN := s26.setN hkk sx hsx
          have bN := sN.box
          refine hOne (by kernel_rfl) (hSkip (i := 17) (w' := xw25.setCell ⟨rb, ro + kk * 3, none⟩ (.string sx)) (l' := (bt 18 262143)) rfl (by kernel_rfl) (by kernel_rfl) (by kernel_rfl) (run_stSt (.tmp 53) (.tmp 51) _ (by kernel_rfl) (by kernel_rfl) (by kernel_rfl) hcP hfP) bN ?_)
          obtain ⟨xw28, hxw28⟩ : ∃ V, V = xw25.setCell ⟨rb, ro + kk * 3, none⟩ (.string sx) := ⟨_, rfl⟩
          rw [← hxw28] at sN
          rw [← hxw28]
          clear hxw28 s26 hq27 hq27z bN hcP hfP
          refine wpAnyH_done (by kernel_rfl) ?_ _
          have HF := sN.fin (by simp; omega)
          have p0 := sN.box
          have k0 : xw28.cell? ⟨w.heap.size + 1, 0, none⟩ = some (.slice none 0 0) := (sN.R 0 (by simp)).1
          have f0 : xw28.frozen? ⟨w.heap.size + 1, 0, none⟩ = false := (sN.R 0 (by simp)).2
          have HFF := hid (HF.imp id (fun h => And.intro (h.1.mono (show _ ≤ k + 200 by omega)) h.2))
          clear HF sN
          go_wp2
          exact bodyPost_ret (v := .agg #[(.slice (some ⟨rb, ro, none⟩) ts.length rc)]) (by simp [results, Tryd.results34, go_sem, k0]) rfl HFF.out
        · rintro _ xw29 ⟨⟨rr, hrr, rfl⟩, hrd, hgg⟩
          have s30 := s21.call hrd hgg
          clear hrd hgg s21
          refine ⟨s30.box, ?_⟩
          refine hOne (by kernel_rfl) (hVal (i := 10) (d := some 47) (v := .slice (some ⟨xw29.heap.size, 0, none⟩) 5 5) (w' := xw29.alloc (.cells #[.string ⟨#[]⟩, .string ⟨#[97, 32, 98]⟩, .string (ts.getD 0 dT).name, .string t30, .string t31] 9)) (l' := (bt 18 8191)) rfl (by kernel_rfl) (by kernel_rfl) (by kernel_rfl) (run_bsS5 (.const (.string ⟨#[]⟩)) (.const (.string ⟨#[97, 32, 98]⟩)) (.tmp 44) (.tmp 45) (.tmp 46) ⟨#[]⟩ ⟨#[97, 32, 98]⟩ (ts.getD 0 dT).name t30 t31 (by kernel_rfl) (by kernel_rfl) (by kernel_rfl) (by kernel_rfl) (by kernel_rfl) (by kernel_rfl)) (s30.alloc (.cells #[.string ⟨#[]⟩, .string ⟨#[97, 32, 98]⟩, .string (ts.getD 0 dT).name, .string t30, .string t31] 9)).box ?_)
          have s32 := s30.alloc (.cells #[.string ⟨#[]⟩, .string ⟨#[97, 32, 98]⟩, .string (ts.getD 0 dT).name, .string t30, .string t31] 9)
          have hq33 := CF.made xw29 #[.string ⟨#[]⟩, .string ⟨#[97, 32, 98]⟩, .string (ts.getD 0 dT).name, .string t30, .string t31] 9
          have hq33z : xw29.heap.size < (xw29.alloc (.cells #[.string ⟨#[]⟩, .string ⟨#[97, 32, 98]⟩, .string (ts.getD 0 dT).name, .string t30, .string t31] 9)).heap.size := by simp
          have qlo : w.heap.size + 2 < xw29.heap.size := by have := s30.z; have := s30.lo; omega
          have qPo : xw29.heap.size ≠ Po ∧ xw29.heap.size ≠ rb := by have := s30.z; have := s30.inRow; omega
          obtain ⟨qb, hqb⟩ : ∃ q, q = xw29.heap.size := ⟨_, rfl⟩
          rw [← hqb] at hq33 hq33z qlo qPo
          rw [← hqb]
          obtain ⟨xw31, hxw31⟩ : ∃ V, V = xw29.alloc (.cells #[.string ⟨#[]⟩, .string ⟨#[97, 32, 98]⟩, .string (ts.getD 0 dT).name, .string t30, .string t31] 9) := ⟨_, rfl⟩
          have qrow : ∀ j, j < ts.length → ∀ q, (vs.getD j nilV).ownBlock = some q → q ≠ qb := fun j hj q hq => by have := (s30.pl.dep j hj).row_hi q hq; omega
          rw [← hxw31] at s32 hq33 hq33z
          rw [← hxw31]
          clear hxw31 hqb s30
          refine hOne (by kernel_rfl) (hVal (i := 13) (d := some 50) (v := .pointer (some ⟨qb, rr, none⟩)) (w' := xw31) (l' := (bt 18 16383)) rfl (by kernel_rfl) (by kernel_rfl) (by kernel_rfl) (run_ixS (.tmp 47) (.tmp 49) qb 5 5 rr (by kernel_rfl) (by kernel_rfl) (by kernel_rfl) hrr) s32.box ?_)
          obtain ⟨sx, hsx, hsc⟩ : ∃ sx : ByteArray, sx.size ≤ 1000 ∧ xw31.cell? ⟨qb, rr, none⟩ = some (.string sx) := by
            rcases (show rr = 0 ∨ rr = 1 ∨ rr = 2 ∨ rr = 3 ∨ rr = 4 by omega) with rfl | rfl | rfl | rfl | rfl
            · exact ⟨_, by decide, (hq33 0 (by simp)).1⟩
            · exact ⟨_, by decide, (hq33 1 (by simp)).1⟩
            · exact ⟨_, (s32.sm 0 hts0).1, (hq33 2 (by simp)).1⟩
            · exact ⟨_, ht30, (hq33 3 (by simp)).1⟩
            · exact ⟨_, ht31, (hq33 4 (by simp)).1⟩
          refine hOne (by kernel_rfl) (hVal (i := 14) (d := some 51) (v := .string sx) (w' := xw31) (l' := (bt 18 32767)) rfl (by kernel_rfl) (by kernel_rfl) (by kernel_rfl) (run_ldSt (.tmp 50) (by kernel_rfl) (by kernel_rfl) hsc) s32.box ?_)
          refine hOne (by kernel_rfl) (hVal (i := 15) (d := some 52) (v := .pointer (some ⟨rb, ro + kk * 3, none⟩)) (w' := xw31) (l' := (bt 18 65535)) rfl (by kernel_rfl) (by kernel_rfl) (by kernel_rfl) (run_ixT (.tmp 38) (.tmp 39) rb ro ts.length rc kk (by kernel_rfl) (by kernel_rfl) (by kernel_rfl) hkk) s32.box ?_)
          refine hOne (by kernel_rfl) (hVal (i := 16) (d := some 53) (v := .pointer (some ⟨rb, ro + kk * 3, none⟩)) (w' := xw31) (l' := (bt 18 131071)) rfl (by kernel_rfl) (by kernel_rfl) (by kernel_rfl) (run_faT0 (.tmp 52) (by kernel_rfl) (by kernel_rfl)) s32.box ?_)
          have hcP : xw31.cell? ⟨rb, ro + kk * 3, none⟩ = some (.string (ts.getD kk dT).name) := (s32.pl.cell hkk 0 (by omega)).1
          have hfP : xw31.frozen? ⟨rb, ro + kk * 3, none⟩ = false := (s32.pl.cell hkk 0 (by omega)).2
          have sN := s32.setN hkk sx hsx
          have bN := sN.box
          refine hOne (by kernel_rfl) (hSkip (i := 17) (w' := xw31.setCell ⟨rb, ro + kk * 3, none⟩ (.string sx)) (l' := (bt 18 262143)) rfl (by kernel_rfl) (by kernel_rfl) (by kernel_rfl) (run_stSt (.tmp 53) (.tmp 51) _ (by kernel_rfl) (by kernel_rfl) (by kernel_rfl) hcP hfP) bN ?_)
          obtain ⟨xw34, hxw34⟩ : ∃ V, V = xw31.setCell ⟨rb, ro + kk * 3, none⟩ (.string sx) := ⟨_, rfl⟩
          rw [← hxw34] at sN
          rw [← hxw34]
          clear hxw34 s32 hq33 hq33z bN hcP hfP
          refine wpAnyH_done (by kernel_rfl) ?_ _
          have HF := sN.fin (by simp; omega)
          have p0 := sN.box
          have k0 : xw34.cell? ⟨w.heap.size + 1, 0, none⟩ = some (.slice none 0 0) := (sN.R 0 (by simp)).1
          have f0 : xw34.frozen? ⟨w.heap.size + 1, 0, none⟩ = false := (sN.R 0 (by simp)).2
          have HFF := hid (HF.imp id (fun h => And.intro (h.1.mono (show _ ≤ k + 200 by omega)) h.2))
          clear HF sN
          go_wp2
          exact bodyPost_ret (v := .agg #[(.slice (some ⟨rb, ro, none⟩) ts.length rc)]) (by simp [results, Tryd.results34, go_sem, k0]) rfl HFF.out
      · rintro _ xw35 ⟨⟨t31, rfl, ht31⟩, hbb⟩
        have s36 := s19.below hbb
        clear hbb s19
        refine ⟨s36.box, ?_⟩
        refine hTwo (i := 7) (j := 12) (by kernel_rfl) (hVal (i := 7) (d := some 44) (v := .string (ts.getD 0 dT).name) (w' := xw35) (l' := (bt 18 3071)) rfl (by kernel_rfl) (by kernel_rfl) (by kernel_rfl) (run_ldSt (.tmp 43) (by kernel_rfl) (by kernel_rfl) (s36.pl.cell (i := 0) hts0 0 (by omega)).1) s36.box ?_) (hCall (i := 12) (d := some 49) (f := 32) (args := #[.pointer (some ⟨g, 0, none⟩), .int .i64 5]) (l' := (bt 18 7039)) (R := fun v w' => (∃ r : Nat, r < 5 ∧ v = .int .i64 r) ∧ RD w' g (k + 2 + 1) ∧ xw35.grownBy w' (some g)) rfl (by kernel_rfl) (by kernel_rfl) (by kernel_rfl) (run_cl2 _ _ _ rfl (by kernel_rfl) (by kernel_rfl) rfl enter_pick) ((pick_any g 5 (k + 2) xw35 s36.rd (by omega) (by omega) (by omega)).mono fun e w' ⟨⟨r, hr, he⟩, h1, h2⟩ => ⟨_, he, ⟨r, hr, rfl⟩, h1, h2⟩) ?_)
        · refine hTwo (i := 10) (j := 12) (by kernel_rfl) (hVal (i := 10) (d := some 47) (v := .slice (some ⟨xw35.heap.size, 0, none⟩) 5 5) (w' := xw35.alloc (.cells #[.string ⟨#[]⟩, .string ⟨#[97, 32, 98]⟩, .string (ts.getD 0 dT).name, .string t30, .string t31] 9)) (l' := (bt 18 4095)) rfl (by kernel_rfl) (by kernel_rfl) (by kernel_rfl) (run_bsS5 (.const (.string ⟨#[]⟩)) (.const (.string ⟨#[97, 32, 98]⟩)) (.tmp 44) (.tmp 45) (.tmp 46) ⟨#[]⟩ ⟨#[97, 32, 98]⟩ (ts.getD 0 dT).name t30 t31 (by kernel_rfl) (by kernel_rfl) (by kernel_rfl) (by kernel_rfl) (by kernel_rfl) (by kernel_rfl)) (s36.alloc (.cells #[.string ⟨#[]⟩, .string ⟨#[97, 32, 98]⟩, .string (ts.getD 0 dT).name, .string t30, .string t31] 9)).box ?_) (hCall (i := 12) (d := some 49) (f := 32) (args := #[.pointer (some ⟨g, 0, none⟩), .int .i64 5]) (l' := (bt 18 7167)) (R := fun v w' => (∃ r : Nat, r < 5 ∧ v = .int .i64 r) ∧ RD w' g (k + 2 + 1) ∧ xw35.grownBy w' (some g)) rfl (by kernel_rfl) (by kernel_rfl) (by kernel_rfl) (run_cl2 _ _ _ rfl (by kernel_rfl) (by kernel_rfl) rfl enter_pick) ((pick_any g 5 (k + 2) xw35 s36.rd (by omega) (by omega) (by omega)).mono fun e w' ⟨⟨r, hr, he⟩, h1, h2⟩ => ⟨_, he, ⟨r, hr, rfl⟩, h1, h2⟩) ?_)
          · have s38 := s36.alloc (.cells #[.string ⟨#[]⟩, .string ⟨#[97, 32, 98]⟩, .string (ts.getD 0 dT).name, .string t30, .string t31] 9)
            have hq39 := CF.made xw35 #[.string ⟨#[]⟩, .string ⟨#[97, 32, 98]⟩, .string (ts.getD 0 dT).name, .string t30, .string t31] 9
            have hq39z : xw35.heap.size < (xw35.alloc (.cells #[.string ⟨#[]⟩, .string ⟨#[97, 32, 98]⟩, .string (ts.getD 0 dT).name, .string t30, .string t31] 9)).heap.size := by simp
            have qlo : w.heap.size + 2 < xw35.heap.size := by have := s36.z; have := s36.lo; omega
            have qPo : xw35.heap.size ≠ Po ∧ xw35.heap.size ≠ rb := by have := s36.z; have := s36.inRow; omega
            obtain ⟨qb, hqb⟩ : ∃ q, q = xw35.heap.size := ⟨_, rfl⟩
            rw [← hqb] at hq39 hq39z qlo qPo
            rw [← hqb]
            obtain ⟨xw37, hxw37⟩ : ∃ V, V = xw35.alloc (.cells #[.string ⟨#[]⟩, .string ⟨#[97, 32, 98]⟩, .string (ts.getD 0 dT).name, .string t30, .string t31] 9) := ⟨_, rfl⟩
            have qrow : ∀ j, j < ts.length → ∀ q, (vs.getD j nilV).ownBlock = some q → q ≠ qb := fun j hj q hq => by have := (s36.pl.dep j hj).row_hi q hq; omega
            rw [← hxw37] at s38 hq39 hq39z
            rw [← hxw37]
            clear hxw37 hqb s36
            refine hOne (by kernel_rfl) (hCall (i := 12) (d := some 49) (f := 32) (args := #[.pointer (some ⟨g, 0, none⟩), .int .i64 5]) (l' := (bt 18 8191)) (R := fun v w' => (∃ r : Nat, r < 5 ∧ v = .int .i64 r) ∧ RD w' g (k + 2 + 1) ∧ xw37.grownBy w' (some g)) rfl (by kernel_rfl) (by kernel_rfl) (by kernel_rfl) (run_cl2 _ _ _ rfl (by kernel_rfl) (by kernel_rfl) rfl enter_pick) ((pick_any g 5 (k + 2) xw37 s38.rd (by omega) (by omega) (by omega)).mono fun e w' ⟨⟨r, hr, he⟩, h1, h2⟩ => ⟨_, he, ⟨r, hr, rfl⟩, h1, h2⟩) ?_)
            rintro _ xw40 ⟨⟨rr, hrr, rfl⟩, hrd, hgg⟩
            have s41 := s38.call hrd hgg
            have hq42 := hq39.block (hgg.block qb (by have := hq39z; omega) (by simp; have := s38.gl; have := qlo; omega))
            have hq42z : qb < xw40.heap.size := by have := hgg.size; have := hq39z; omega
            clear hrd hgg s38 hq39 hq39z
            refine ⟨s41.box, ?_⟩
            refine hOne (by kernel_rfl) (hVal (i := 13) (d := some 50) (v := .pointer (some ⟨qb, rr, none⟩)) (w' := xw40) (l' := (bt 18 16383)) rfl (by kernel_rfl) (by kernel_rfl) (by kernel_rfl) (run_ixS (.tmp 47) (.tmp 49) qb 5 5 rr (by kernel_rfl) (by kernel_rfl) (by kernel_rfl) hrr) s41.box ?_)
            obtain ⟨sx, hsx, hsc⟩ : ∃ sx : ByteArray, sx.size ≤ 1000 ∧ xw40.cell? ⟨qb, rr, none⟩ = some (.string sx) := by
              rcases (show rr = 0 ∨ rr = 1 ∨ rr = 2 ∨ rr = 3 ∨ rr = 4 by omega) with rfl | rfl | rfl | rfl | rfl
              · exact ⟨_, by decide, (hq42 0 (by simp)).1⟩
              · exact ⟨_, by decide, (hq42 1 (by simp)).1⟩
              · exact ⟨_, (s41.sm 0 hts0).1, (hq42 2 (by simp)).1⟩
              · exact ⟨_, ht30, (hq42 3 (by simp)).1⟩
              · exact ⟨_, ht31, (hq42 4 (by simp)).1⟩
            refine hOne (by kernel_rfl) (hVal (i := 14) (d := some 51) (v := .string sx) (w' := xw40) (l' := (bt 18 32767)) rfl (by kernel_rfl) (by kernel_rfl) (by kernel_rfl) (run_ldSt (.tmp 50) (by kernel_rfl) (by kernel_rfl) hsc) s41.box ?_)
            refine hOne (by kernel_rfl) (hVal (i := 15) (d := some 52) (v := .pointer (some ⟨rb, ro + kk * 3, none⟩)) (w' := xw40) (l' := (bt 18 65535)) rfl (by kernel_rfl) (by kernel_rfl) (by kernel_rfl) (run_ixT (.tmp 38) (.tmp 39) rb ro ts.length rc kk (by kernel_rfl) (by kernel_rfl) (by kernel_rfl) hkk) s41.box ?_)
            refine hOne (by kernel_rfl) (hVal (i := 16) (d := some 53) (v := .pointer (some ⟨rb, ro + kk * 3, none⟩)) (w' := xw40) (l' := (bt 18 131071)) rfl (by kernel_rfl) (by kernel_rfl) (by kernel_rfl) (run_faT0 (.tmp 52) (by kernel_rfl) (by kernel_rfl)) s41.box ?_)
            have hcP : xw40.cell? ⟨rb, ro + kk * 3, none⟩ = some (.string (ts.getD kk dT).name) := (s41.pl.cell hkk 0 (by omega)).1
            have hfP : xw40.frozen? ⟨rb, ro + kk * 3, none⟩ = false := (s41.pl.cell hkk 0 (by omega)).2
            have sN := s41.setN hkk sx hsx
            have bN := sN.box
            refine hOne (by kernel_rfl) (hSkip (i := 17) (w' := xw40.setCell ⟨rb, ro + kk * 3, none⟩ (.string sx)) (l' := (bt 18 262143)) rfl (by kernel_rfl) (by kernel_rfl) (by kernel_rfl) (run_stSt (.tmp 53) (.tmp 51) _ (by kernel_rfl) (by kernel_rfl) (by kernel_rfl) hcP hfP) bN ?_)
            obtain ⟨xw43, hxw43⟩ : ∃ V, V = xw40.setCell ⟨rb, ro + kk * 3, none⟩ (.string sx) := ⟨_, rfl⟩
            rw [← hxw43] at sN
            rw [← hxw43]
            clear hxw43 s41 hq42 hq42z bN hcP hfP
            refine wpAnyH_done (by kernel_rfl) ?_ _
            have HF := sN.fin (by simp; omega)
            have p0 := sN.box
            have k0 : xw43.cell? ⟨w.heap.size + 1, 0, none⟩ = some (.slice none 0 0) := (sN.R 0 (by simp)).1
            have f0 : xw43.frozen? ⟨w.heap.size + 1, 0, none⟩ = false := (sN.R 0 (by simp)).2
            have HFF := hid (HF.imp id (fun h => And.intro (h.1.mono (show _ ≤ k + 200 by omega)) h.2))
            clear HF sN
            go_wp2
            exact bodyPost_ret (v := .agg #[(.slice (some ⟨rb, ro, none⟩) ts.length rc)]) (by simp [results, Tryd.results34, go_sem, k0]) rfl HFF.out
          · rintro _ xw44 ⟨⟨rr, hrr, rfl⟩, hrd, hgg⟩
            have s45 := s36.call hrd hgg
            clear hrd hgg s36
            refine ⟨s45.box, ?_⟩
            refine hOne (by kernel_rfl) (hVal (i := 10) (d := some 47) (v := .slice (some ⟨xw44.heap.size, 0, none⟩) 5 5) (w' := xw44.alloc (.cells #[.string ⟨#[]⟩, .string ⟨#[97, 32, 98]⟩, .string (ts.getD 0 dT).name, .string t30, .string t31] 9)) (l' := (bt 18 8191)) rfl (by kernel_rfl) (by kernel_rfl) (by kernel_rfl) (run_bsS5 (.const (.string ⟨#[]⟩)) (.const (.string ⟨#[97, 32, 98]⟩)) (.tmp 44) (.tmp 45) (.tmp 46) ⟨#[]⟩ ⟨#[97, 32, 98]⟩ (ts.getD 0 dT).name t30 t31 (by kernel_rfl) (by kernel_rfl) (by kernel_rfl) (by kernel_rfl) (by kernel_rfl) (by kernel_rfl)) (s45.alloc (.cells #[.string ⟨#[]⟩, .string ⟨#[97, 32, 98]⟩, .string (ts.getD 0 dT).name, .string t30, .string t31] 9)).box ?_)
            have s47 := s45.alloc (.cells #[.string ⟨#[]⟩, .string ⟨#[97, 32, 98]⟩, .string (ts.getD 0 dT).name, .string t30, .string t31] 9)
            have hq48 := CF.made xw44 #[.string ⟨#[]⟩, .string ⟨#[97, 32, 98]⟩, .string (ts.getD 0 dT).name, .string t30, .string t31] 9
            have hq48z : xw44.heap.size < (xw44.alloc (.cells #[.string ⟨#[]⟩, .string ⟨#[97, 32, 98]⟩, .string (ts.getD 0 dT).name, .string t30, .string t31] 9)).heap.size := by simp
            have qlo : w.heap.size + 2 < xw44.heap.size := by have := s45.z; have := s45.lo; omega
            have qPo : xw44.heap.size ≠ Po ∧ xw44.heap.size ≠ rb := by have := s45.z; have := s45.inRow; omega
            obtain ⟨qb, hqb⟩ : ∃ q, q = xw44.heap.size := ⟨_, rfl⟩
            rw [← hqb] at hq48 hq48z qlo qPo
            rw [← hqb]
            obtain ⟨xw46, hxw46⟩ : ∃ V, V = xw44.alloc (.cells #[.string ⟨#[]⟩, .string ⟨#[97, 32, 98]⟩, .string (ts.getD 0 dT).name, .string t30, .string t31] 9) := ⟨_, rfl⟩
            have qrow : ∀ j, j < ts.length → ∀ q, (vs.getD j nilV).ownBlock = some q → q ≠ qb := fun j hj q hq => by have := (s45.pl.dep j hj).row_hi q hq; omega
            rw [← hxw46] at s47 hq48 hq48z
            rw [← hxw46]
            clear hxw46 hqb s45
            refine hOne (by kernel_rfl) (hVal (i := 13) (d := some 50) (v := .pointer (some ⟨qb, rr, none⟩)) (w' := xw46) (l' := (bt 18 16383)) rfl (by kernel_rfl) (by kernel_rfl) (by kernel_rfl) (run_ixS (.tmp 47) (.tmp 49) qb 5 5 rr (by kernel_rfl) (by kernel_rfl) (by kernel_rfl) hrr) s47.box ?_)
            obtain ⟨sx, hsx, hsc⟩ : ∃ sx : ByteArray, sx.size ≤ 1000 ∧ xw46.cell? ⟨qb, rr, none⟩ = some (.string sx) := by
              rcases (show rr = 0 ∨ rr = 1 ∨ rr = 2 ∨ rr = 3 ∨ rr = 4 by omega) with rfl | rfl | rfl | rfl | rfl
              · exact ⟨_, by decide, (hq48 0 (by simp)).1⟩
              · exact ⟨_, by decide, (hq48 1 (by simp)).1⟩
              · exact ⟨_, (s47.sm 0 hts0).1, (hq48 2 (by simp)).1⟩
              · exact ⟨_, ht30, (hq48 3 (by simp)).1⟩
              · exact ⟨_, ht31, (hq48 4 (by simp)).1⟩
            refine hOne (by kernel_rfl) (hVal (i := 14) (d := some 51) (v := .string sx) (w' := xw46) (l' := (bt 18 32767)) rfl (by kernel_rfl) (by kernel_rfl) (by kernel_rfl) (run_ldSt (.tmp 50) (by kernel_rfl) (by kernel_rfl) hsc) s47.box ?_)
            refine hOne (by kernel_rfl) (hVal (i := 15) (d := some 52) (v := .pointer (some ⟨rb, ro + kk * 3, none⟩)) (w' := xw46) (l' := (bt 18 65535)) rfl (by kernel_rfl) (by kernel_rfl) (by kernel_rfl) (run_ixT (.tmp 38) (.tmp 39) rb ro ts.length rc kk (by kernel_rfl) (by kernel_rfl) (by kernel_rfl) hkk) s47.box ?_)
            refine hOne (by kernel_rfl) (hVal (i := 16) (d := some 53) (v := .pointer (some ⟨rb, ro + kk * 3, none⟩)) (w' := xw46) (l' := (bt 18 131071)) rfl (by kernel_rfl) (by kernel_rfl) (by kernel_rfl) (run_faT0 (.tmp 52) (by kernel_rfl) (by kernel_rfl)) s47.box ?_)
            have hcP : xw46.cell? ⟨rb, ro + kk * 3, none⟩ = some (.string (ts.getD kk dT).name) := (s47.pl.cell hkk 0 (by omega)).1
            have hfP : xw46.frozen? ⟨rb, ro + kk * 3, none⟩ = false := (s47.pl.cell hkk 0 (by omega)).2
            have sN := s47.setN hkk sx hsx
            have bN := sN.box
            refine hOne (by kernel_rfl) (hSkip (i := 17) (w' := xw46.setCell ⟨rb, ro + kk * 3, none⟩ (.string sx)) (l' := (bt 18 262143)) rfl (by kernel_rfl) (by kernel_rfl) (by kernel_rfl) (run_stSt (.tmp 53) (.tmp 51) _ (by kernel_rfl) (by kernel_rfl) (by kernel_rfl) hcP hfP) bN ?_)
            obtain ⟨xw49, hxw49⟩ : ∃ V, V = xw46.setCell ⟨rb, ro + kk * 3, none⟩ (.string sx) := ⟨_, rfl⟩
            rw [← hxw49] at sN
            rw [← hxw49]
            clear hxw49 s47 hq48 hq48z bN hcP hfP
            refine wpAnyH_done (by kernel_rfl) ?_ _
            have HF := sN.fin (by simp; omega)
            have p0 := sN.box
            have k0 : xw49.cell? ⟨w.heap.size + 1, 0, none⟩ = some (.slice none 0 0) := (sN.R 0 (by simp)).1
            have f0 : xw49.frozen? ⟨w.heap.size + 1, 0, none⟩ = false := (sN.R 0 (by simp)).2
            have HFF := hid (HF.imp id (fun h => And.intro (h.1.mono (show _ ≤ k + 200 by omega)) h.2))
            clear HF sN
            go_wp2
            exact bodyPost_ret (v := .agg #[(.slice (some ⟨rb, ro, none⟩) ts.length rc)]) (by simp [results, Tryd.results34, go_sem, k0]) rfl HFF.out
        · rintro _ xw50 ⟨⟨rr, hrr, rfl⟩, hrd, hgg⟩
          have s51 := s36.call hrd hgg
          clear hrd hgg s36
          refine ⟨s51.box, ?_⟩
          refine hOne (by kernel_rfl) (hVal (i := 7) (d := some 44) (v := .string (ts.getD 0 dT).name) (w' := xw50) (l' := (bt 18 7167)) rfl (by kernel_rfl) (by kernel_rfl) (by kernel_rfl) (run_ldSt (.tmp 43) (by kernel_rfl) (by kernel_rfl) (s51.pl.cell (i := 0) hts0 0 (by omega)).1) s51.box ?_)
          refine hOne (by kernel_rfl) (hVal (i := 10) (d := some 47) (v := .slice (some ⟨xw50.heap.size, 0, none⟩) 5 5) (w' := xw50.alloc (.cells #[.string ⟨#[]⟩, .string ⟨#[97, 32, 98]⟩, .string (ts.getD 0 dT).name, .string t30, .string t31] 9)) (l' := (bt 18 8191)) rfl (by kernel_rfl) (by kernel_rfl) (by kernel_rfl) (run_bsS5 (.const (.string ⟨#[]⟩)) (.const (.string ⟨#[97, 32, 98]⟩)) (.tmp 44) (.tmp 45) (.tmp 46) ⟨#[]⟩ ⟨#[97, 32, 98]⟩ (ts.getD 0 dT).name t30 t31 (by kernel_rfl) (by kernel_rfl) (by kernel_rfl) (by kernel_rfl) (by kernel_rfl) (by kernel_rfl)) (s51.alloc (.cells #[.string ⟨#[]⟩, .string ⟨#[97, 32, 98]⟩, .string (ts.getD 0 dT).name, .string t30, .string t31] 9)).box ?_)
          have s53 := s51.alloc (.cells #[.string ⟨#[]⟩, .string ⟨#[97, 32, 98]⟩, .string (ts.getD 0 dT).name, .string t30, .string t31] 9)
          have hq54 := CF.made xw50 #[.string ⟨#[]⟩, .string ⟨#[97, 32, 98]⟩, .string (ts.getD 0 dT).name, .string t30, .string t31] 9
          have hq54z : xw50.heap.size < (xw50.alloc (.cells #[.string ⟨#[]⟩, .string ⟨#[97, 32, 98]⟩, .string (ts.getD 0 dT).name, .string t30, .string t31] 9)).heap.size := by simp
          have qlo : w.heap.size + 2 < xw50.heap.size := by have := s51.z; have := s51.lo; omega
          have qPo : xw50.heap.size ≠ Po ∧ xw50.heap.size ≠ rb := by have := s51.z; have := s51.inRow; omega
          obtain ⟨qb, hqb⟩ : ∃ q, q = xw50.heap.size := ⟨_, rfl⟩
          rw [← hqb] at hq54 hq54z qlo qPo
          rw [← hqb]
          obtain ⟨xw52, hxw52⟩ : ∃ V, V = xw50.alloc (.cells #[.string ⟨#[]⟩, .string ⟨#[97, 32, 98]⟩, .string (ts.getD 0 dT).name, .string t30, .string t31] 9) := ⟨_, rfl⟩
          have qrow : ∀ j, j < ts.length → ∀ q, (vs.getD j nilV).ownBlock = some q → q ≠ qb := fun j hj q hq => by have := (s51.pl.dep j hj).row_hi q hq; omega
          rw [← hxw52] at s53 hq54 hq54z
          rw [← hxw52]
          clear hxw52 hqb s51
          refine hOne (by kernel_rfl) (hVal (i := 13) (d := some 50) (v := .pointer (some ⟨qb, rr, none⟩)) (w' := xw52) (l' := (bt 18 16383)) rfl (by kernel_rfl) (by kernel_rfl) (by kernel_rfl) (run_ixS (.tmp 47) (.tmp 49) qb 5 5 rr (by kernel_rfl) (by kernel_rfl) (by kernel_rfl) hrr) s53.box ?_)
          obtain ⟨sx, hsx, hsc⟩ : ∃ sx : ByteArray, sx.size ≤ 1000 ∧ xw52.cell? ⟨qb, rr, none⟩ = some (.string sx) := by
            rcases (show rr = 0 ∨ rr = 1 ∨ rr = 2 ∨ rr = 3 ∨ rr = 4 by omega) with rfl | rfl | rfl | rfl | rfl
            · exact ⟨_, by decide, (hq54 0 (by simp)).1⟩
            · exact ⟨_, by decide, (hq54 1 (by simp)).1⟩
            · exact ⟨_, (s53.sm 0 hts0).1, (hq54 2 (by simp)).1⟩
            · exact ⟨_, ht30, (hq54 3 (by simp)).1⟩
            · exact ⟨_, ht31, (hq54 4 (by simp)).1⟩
          refine hOne (by kernel_rfl) (hVal (i := 14) (d := some 51) (v := .string sx) (w' := xw52) (l' := (bt 18 32767)) rfl (by kernel_rfl) (by kernel_rfl) (by kernel_rfl) (run_ldSt (.tmp 50) (by kernel_rfl) (by kernel_rfl) hsc) s53.box ?_)
          refine hOne (by kernel_rfl) (hVal (i := 15) (d := some 52) (v := .pointer (some ⟨rb, ro + kk * 3, none⟩)) (w' := xw52) (l' := (bt 18 65535)) rfl (by kernel_rfl) (by kernel_rfl) (by kernel_rfl) (run_ixT (.tmp 38) (.tmp 39) rb ro ts.length rc kk (by kernel_rfl) (by kernel_rfl) (by kernel_rfl) hkk) s53.box ?_)
          refine hOne (by kernel_rfl) (hVal (i := 16) (d := some 53) (v := .pointer (some ⟨rb, ro + kk * 3, none⟩)) (w' := xw52) (l' := (bt 18 131071)) rfl (by kernel_rfl) (by kernel_rfl) (by kernel_rfl) (run_faT0 (.tmp 52) (by kernel_rfl) (by kernel_rfl)) s53.box ?_)
          have hcP : xw52.cell? ⟨rb, ro + kk * 3, none⟩ = some (.string (ts.getD kk dT).name) := (s53.pl.cell hkk 0 (by omega)).1
          have hfP : xw52.frozen? ⟨rb, ro + kk * 3, none⟩ = false := (s53.pl.cell hkk 0 (by omega)).2
          have sN := s53.setN hkk sx hsx
          have bN := sN.box
          refine hOne (by kernel_rfl) (hSkip (i := 17) (w' := xw52.setCell ⟨rb, ro + kk * 3, none⟩ (.string sx)) (l' := (bt 18 262143)) rfl (by kernel_rfl) (by kernel_rfl) (by kernel_rfl) (run_stSt (.tmp 53) (.tmp 51) _ (by kernel_rfl) (by kernel_rfl) (by kernel_rfl) hcP hfP) bN ?_)
          obtain ⟨xw55, hxw55⟩ : ∃ V, V = xw52.setCell ⟨rb, ro + kk * 3, none⟩ (.string sx) := ⟨_, rfl⟩
          rw [← hxw55] at sN
          rw [← hxw55]
          clear hxw55 s53 hq54 hq54z bN hcP hfP
          refine wpAnyH_done (by kernel_rfl) ?_ _
          have HF := sN.fin (by simp; omega)
          have p0 := sN.box
          have k0 : xw55.cell? ⟨w.heap.size + 1, 0, none⟩ = some (.slice none 0 0) := (sN.R 0 (by simp)).1
          have f0 : xw55.frozen? ⟨w.heap.size + 1, 0, none⟩ = false := (sN.R 0 (by simp)).2
          have HFF := hid (HF.imp id (fun h => And.intro (h.1.mono (show _ ≤ k + 200 by omega)) h.2))
          clear HF sN
          go_wp2
          exact bodyPost_ret (v := .agg #[(.slice (some ⟨rb, ro, none⟩) ts.length rc)]) (by simp [results, Tryd.results34, go_sem, k0]) rfl HFF.out
  · go_upto_region 10 with fail
    refine wp_region_held (S := fun w' => w'.cell? ⟨Po, 0, none⟩ = some (.slice (some ⟨rb, ro, none⟩) ts.length rc)) (by kernel_rfl) ?_
    change wpAnyH _ _ _ _ _ _ _ _ (World.drew _)
    have s0 := S4.drew
    obtain ⟨x0, hx0⟩ : ∃ U, U = w4.drew := ⟨_, rfl⟩
    rw [← hx0] at s0
    rw [← hx0]
    clear hx0 S4
    refine hTk (i := 0) (d := some 56) (v := .pointer (some ⟨Po, 0, none⟩)) (l' := (bt 11 1)) rfl (fun _ hc => run_faP (.tmp 5) (by kernel_rfl) (by kernel_rfl)) s0.box ?_
    refine hTk (i := 1) (d := some 57) (v := (.slice (some ⟨rb, ro, none⟩) ts.length rc)) (l' := (bt 11 3)) rfl (fun _ hc => run_ldTs (.tmp 56) (by kernel_rfl) (by kernel_rfl) hc) s0.box ?_
    refine hTk (i := 2) (d := some 58) (v := .int .i64 (kk : Nat)) (l' := (bt 11 7)) rfl (fun _ hc => run_mvD (.tmp 6) (by kernel_rfl) (by kernel_rfl)) s0.box ?_
    refine hTk (i := 4) (d := some 60) (v := .pointer (some ⟨g, 0, none⟩)) (l' := (bt 11 23)) rfl (fun _ hc => run_mvD (.tmp 0) (by kernel_rfl) (by kernel_rfl)) s0.box ?_
    refine hTwo (i := 3) (j := 5) (by kernel_rfl) (hVal (i := 3) (d := some 59) (v := .slice (some ⟨x0.heap.size, 0, none⟩) 4 4) (w' := x0.alloc (.cells #[.int .i64 0, .int .i64 (-1), .int .i64 20, .int .i64 21] 3)) (l' := (bt 11 31)) rfl (by kernel_rfl) (by kernel_rfl) (by kernel_rfl) (run_bsI4 (.const (.int .i64 0)) (.const (.int .i64 (-1))) (.const (.int .i64 20)) (.const (.int .i64 21)) 0 (-1) 20 21 (by kernel_rfl) (by kernel_rfl) (by kernel_rfl) (by kernel_rfl) (by kernel_rfl)) (s0.alloc (.cells #[.int .i64 0, .int .i64 (-1), .int .i64 20, .int .i64 21] 3)).box ?_) (hCall (i := 5) (d := some 61) (f := 32) (args := #[.pointer (some ⟨g, 0, none⟩), .int .i64 4]) (l' := (bt 11 55)) (R := fun v w' => (∃ r : Nat, r < 4 ∧ v = .int .i64 r) ∧ RD w' g (k + 2 + 1) ∧ x0.grownBy w' (some g)) rfl (by kernel_rfl) (by kernel_rfl) (by kernel_rfl) (run_cl2 _ _ _ rfl (by kernel_rfl) (by kernel_rfl) rfl enter_pick) ((pick_any g 4 (k + 2) x0 s0.rd (by omega) (by omega) (by omega)).mono fun e w' ⟨⟨r, hr, he⟩, h1, h2⟩ => ⟨_, he, ⟨r, hr, rfl⟩, h1, h2⟩) ?_)
    · have s57 := s0.alloc (.cells #[.int .i64 0, .int .i64 (-1), .int .i64 20, .int .i64 21] 3)
      have hq58 := CF.made x0 #[.int .i64 0, .int .i64 (-1), .int .i64 20, .int .i64 21] 3
      have hq58z : x0.heap.size < (x0.alloc (.cells #[.int .i64 0, .int .i64 (-1), .int .i64 20, .int .i64 21] 3)).heap.size := by simp
      have qlo : w.heap.size + 2 < x0.heap.size := by have := s0.z; have := s0.lo; omega
      have qPo : x0.heap.size ≠ Po ∧ x0.heap.size ≠ rb := by have := s0.z; have := s0.inRow; omega
      obtain ⟨qb, hqb⟩ : ∃ q, q = x0.heap.size := ⟨_, rfl⟩
      rw [← hqb] at hq58 hq58z qlo qPo
      rw [← hqb]
      obtain ⟨xw56, hxw56⟩ : ∃ V, V = x0.alloc (.cells #[.int .i64 0, .int .i64 (-1), .int .i64 20, .int .i64 21] 3) := ⟨_, rfl⟩
      have qrow : ∀ j, j < ts.length → ∀ q, (vs.getD j nilV).ownBlock = some q → q ≠ qb := fun j hj q hq => by have := (s0.pl.dep j hj).row_hi q hq; omega
      rw [← hxw56] at s57 hq58 hq58z
      rw [← hxw56]
      clear hxw56 hqb s0
      refine hOne (by kernel_rfl) (hCall (i := 5) (d := some 61) (f := 32) (args := #[.pointer (some ⟨g, 0, none⟩), .int .i64 4]) (l' := (bt 11 63)) (R := fun v w' => (∃ r : Nat, r < 4 ∧ v = .int .i64 r) ∧ RD w' g (k + 2 + 1) ∧ xw56.grownBy w' (some g)) rfl (by kernel_rfl) (by kernel_rfl) (by kernel_rfl) (run_cl2 _ _ _ rfl (by kernel_rfl) (by kernel_rfl) rfl enter_pick) ((pick_any g 4 (k + 2) xw56 s57.rd (by omega) (by omega) (by omega)).mono fun e w' ⟨⟨r, hr, he⟩, h1, h2⟩ => ⟨_, he, ⟨r, hr, rfl⟩, h1, h2⟩) ?_)
      rintro _ xw59 ⟨⟨rr, hrr, rfl⟩, hrd, hgg⟩
      have s60 := s57.call hrd hgg
      have hq61 := hq58.block (hgg.block qb (by have := hq58z; omega) (by simp; have := s57.gl; have := qlo; omega))
      have hq61z : qb < xw59.heap.size := by have := hgg.size; have := hq58z; omega
      clear hrd hgg s57 hq58 hq58z
      refine ⟨s60.box, ?_⟩
      refine hOne (by kernel_rfl) (hVal (i := 6) (d := some 62) (v := .pointer (some ⟨qb, rr, none⟩)) (w' := xw59) (l' := (bt 11 127)) rfl (by kernel_rfl) (by kernel_rfl) (by kernel_rfl) (run_ixI (.tmp 59) (.tmp 61) qb 4 4 rr (by kernel_rfl) (by kernel_rfl) (by kernel_rfl) hrr) s60.box ?_)
      obtain ⟨xx, hxx, hxc⟩ : ∃ xx : Int, (-1000 ≤ xx ∧ xx ≤ 1000) ∧ xw59.cell? ⟨qb, rr, none⟩ = some (.int .i64 xx) := by
        rcases (show rr = 0 ∨ rr = 1 ∨ rr = 2 ∨ rr = 3 by omega) with rfl | rfl | rfl | rfl
        · exact ⟨0, by omega, (hq61 0 (by simp)).1⟩
        · exact ⟨-1, by omega, (hq61 1 (by simp)).1⟩
        · exact ⟨20, by omega, (hq61 2 (by simp)).1⟩
        · exact ⟨21, by omega, (hq61 3 (by simp)).1⟩
      refine hOne (by kernel_rfl) (hVal (i := 7) (d := some 63) (v := .int .i64 xx) (w' := xw59) (l' := (bt 11 255)) rfl (by kernel_rfl) (by kernel_rfl) (by kernel_rfl) (run_ldIn (.tmp 62) (by kernel_rfl) (by kernel_rfl) hxc) s60.box ?_)
      refine hOne (by kernel_rfl) (hVal (i := 8) (d := some 64) (v := .pointer (some ⟨rb, ro + kk * 3, none⟩)) (w' := xw59) (l' := (bt 11 511)) rfl (by kernel_rfl) (by kernel_rfl) (by kernel_rfl) (run_ixT (.tmp 57) (.tmp 58) rb ro ts.length rc kk (by kernel_rfl) (by kernel_rfl) (by kernel_rfl) hkk) s60.box ?_)
      refine hOne (by kernel_rfl) (hVal (i := 9) (d := some 65) (v := .pointer (some ⟨rb, ro + kk * 3 + 1, none⟩)) (w' := xw59) (l' := (bt 11 1023)) rfl (by kernel_rfl) (by kernel_rfl) (by kernel_rfl) (run_faT1 (.tmp 64) (by kernel_rfl) (by kernel_rfl)) s60.box ?_)
      have hcP : xw59.cell? ⟨rb, ro + kk * 3 + 1, none⟩ = some (.int .i64 (ts.getD kk dT).cost) := (s60.pl.cell hkk 1 (by omega)).1
      have hfP : xw59.frozen? ⟨rb, ro + kk * 3 + 1, none⟩ = false := (s60.pl.cell hkk 1 (by omega)).2
      have sN := s60.setC hkk xx hxx
      have bN := sN.box
      refine hOne (by kernel_rfl) (hSkip (i := 10) (w' := xw59.setCell ⟨rb, ro + kk * 3 + 1, none⟩ (.int .i64 xx)) (l' := (bt 11 2047)) rfl (by kernel_rfl) (by kernel_rfl) (by kernel_rfl) (run_stIn (.tmp 65) (.tmp 63) _ (by kernel_rfl) (by kernel_rfl) (by kernel_rfl) hcP hfP) bN ?_)
      obtain ⟨xw62, hxw62⟩ : ∃ V, V = xw59.setCell ⟨rb, ro + kk * 3 + 1, none⟩ (.int .i64 xx) := ⟨_, rfl⟩
      rw [← hxw62] at sN
      rw [← hxw62]
      clear hxw62 s60 hq61 hq61z bN hcP hfP
      refine wpAnyH_done (by kernel_rfl) ?_ _
      have HF := sN.fin (by simp; omega)
      have p0 := sN.box
      have k0 : xw62.cell? ⟨w.heap.size + 1, 0, none⟩ = some (.slice none 0 0) := (sN.R 0 (by simp)).1
      have f0 : xw62.frozen? ⟨w.heap.size + 1, 0, none⟩ = false := (sN.R 0 (by simp)).2
      have HFF := hid (HF.imp id (fun h => And.intro (h.1.mono (show _ ≤ k + 200 by omega)) h.2))
      clear HF sN
      go_wp2
      exact bodyPost_ret (v := .agg #[(.slice (some ⟨rb, ro, none⟩) ts.length rc)]) (by simp [results, Tryd.results34, go_sem, k0]) rfl HFF.out
    · rintro _ xw63 ⟨⟨rr, hrr, rfl⟩, hrd, hgg⟩
      have s64 := s0.call hrd hgg
      clear hrd hgg s0
      refine ⟨s64.box, ?_⟩
      refine hOne (by kernel_rfl) (hVal (i := 3) (d := some 59) (v := .slice (some ⟨xw63.heap.size, 0, none⟩) 4 4) (w' := xw63.alloc (.cells #[.int .i64 0, .int .i64 (-1), .int .i64 20, .int .i64 21] 3)) (l' := (bt 11 63)) rfl (by kernel_rfl) (by kernel_rfl) (by kernel_rfl) (run_bsI4 (.const (.int .i64 0)) (.const (.int .i64 (-1))) (.const (.int .i64 20)) (.const (.int .i64 21)) 0 (-1) 20 21 (by kernel_rfl) (by kernel_rfl) (by kernel_rfl) (by kernel_rfl) (by kernel_rfl)) (s64.alloc (.cells #[.int .i64 0, .int .i64 (-1), .int .i64 20, .int .i64 21] 3)).box ?_)
      have s66 := s64.alloc (.cells #[.int .i64 0, .int .i64 (-1), .int .i64 20, .int .i64 21] 3)
      have hq67 := CF.made xw63 #[.int .i64 0, .int .i64 (-1), .int .i64 20, .int .i64 21] 3
      have hq67z : xw63.heap.size < (xw63.alloc (.cells #[.int .i64 0, .int .i64 (-1), .int .i64 20, .int .i64 21] 3)).heap.size := by simp
      have qlo : w.heap.size + 2 < xw63.heap.size := by have := s64.z; have := s64.lo; omega
      have qPo : xw63.heap.size ≠ Po ∧ xw63.heap.size ≠ rb := by have := s64.z; have := s64.inRow; omega
      obtain ⟨qb, hqb⟩ : ∃ q, q = xw63.heap.size := ⟨_, rfl⟩
      rw [← hqb] at hq67 hq67z qlo qPo
      rw [← hqb]
      obtain ⟨xw65, hxw65⟩ : ∃ V, V = xw63.alloc (.cells #[.int .i64 0, .int .i64 (-1), .int .i64 20, .int .i64 21] 3) := ⟨_, rfl⟩
      have qrow : ∀ j, j < ts.length → ∀ q, (vs.getD j nilV).ownBlock = some q → q ≠ qb := fun j hj q hq => by have := (s64.pl.dep j hj).row_hi q hq; omega
      rw [← hxw65] at s66 hq67 hq67z
      rw [← hxw65]
      clear hxw65 hqb s64
      refine hOne (by kernel_rfl) (hVal (i := 6) (d := some 62) (v := .pointer (some ⟨qb, rr, none⟩)) (w' := xw65) (l' := (bt 11 127)) rfl (by kernel_rfl) (by kernel_rfl) (by kernel_rfl) (run_ixI (.tmp 59) (.tmp 61) qb 4 4 rr (by kernel_rfl) (by kernel_rfl) (by kernel_rfl) hrr) s66.box ?_)
      obtain ⟨xx, hxx, hxc⟩ : ∃ xx : Int, (-1000 ≤ xx ∧ xx ≤ 1000) ∧ xw65.cell? ⟨qb, rr, none⟩ = some (.int .i64 xx) := by
        rcases (show rr = 0 ∨ rr = 1 ∨ rr = 2 ∨ rr = 3 by omega) with rfl | rfl | rfl | rfl
        · exact ⟨0, by omega, (hq67 0 (by simp)).1⟩
        · exact ⟨-1, by omega, (hq67 1 (by simp)).1⟩
        · exact ⟨20, by omega, (hq67 2 (by simp)).1⟩
        · exact ⟨21, by omega, (hq67 3 (by simp)).1⟩
      refine hOne (by kernel_rfl) (hVal (i := 7) (d := some 63) (v := .int .i64 xx) (w' := xw65) (l' := (bt 11 255)) rfl (by kernel_rfl) (by kernel_rfl) (by kernel_rfl) (run_ldIn (.tmp 62) (by kernel_rfl) (by kernel_rfl) hxc) s66.box ?_)
      refine hOne (by kernel_rfl) (hVal (i := 8) (d := some 64) (v := .pointer (some ⟨rb, ro + kk * 3, none⟩)) (w' := xw65) (l' := (bt 11 511)) rfl (by kernel_rfl) (by kernel_rfl) (by kernel_rfl) (run_ixT (.tmp 57) (.tmp 58) rb ro ts.length rc kk (by kernel_rfl) (by kernel_rfl) (by kernel_rfl) hkk) s66.box ?_)
      refine hOne (by kernel_rfl) (hVal (i := 9) (d := some 65) (v := .pointer (some ⟨rb, ro + kk * 3 + 1, none⟩)) (w' := xw65) (l' := (bt 11 1023)) rfl (by kernel_rfl) (by kernel_rfl) (by kernel_rfl) (run_faT1 (.tmp 64) (by kernel_rfl) (by kernel_rfl)) s66.box ?_)
      have hcP : xw65.cell? ⟨rb, ro + kk * 3 + 1, none⟩ = some (.int .i64 (ts.getD kk dT).cost) := (s66.pl.cell hkk 1 (by omega)).1
      have hfP : xw65.frozen? ⟨rb, ro + kk * 3 + 1, none⟩ = false := (s66.pl.cell hkk 1 (by omega)).2
      have sN := s66.setC hkk xx hxx
      have bN := sN.box
      refine hOne (by kernel_rfl) (hSkip (i := 10) (w' := xw65.setCell ⟨rb, ro + kk * 3 + 1, none⟩ (.int .i64 xx)) (l' := (bt 11 2047)) rfl (by kernel_rfl) (by kernel_rfl) (by kernel_rfl) (run_stIn (.tmp 65) (.tmp 63) _ (by kernel_rfl) (by kernel_rfl) (by kernel_rfl) hcP hfP) bN ?_)
      obtain ⟨xw68, hxw68⟩ : ∃ V, V = xw65.setCell ⟨rb, ro + kk * 3 + 1, none⟩ (.int .i64 xx) := ⟨_, rfl⟩
      rw [← hxw68] at sN
      rw [← hxw68]
      clear hxw68 s66 hq67 hq67z bN hcP hfP
      refine wpAnyH_done (by kernel_rfl) ?_ _
      have HF := sN.fin (by simp; omega)
      have p0 := sN.box
      have k0 : xw68.cell? ⟨w.heap.size + 1, 0, none⟩ = some (.slice none 0 0) := (sN.R 0 (by simp)).1
      have f0 : xw68.frozen? ⟨w.heap.size + 1, 0, none⟩ = false := (sN.R 0 (by simp)).2
      have HFF := hid (HF.imp id (fun h => And.intro (h.1.mono (show _ ≤ k + 200 by omega)) h.2))
      clear HF sN
      go_wp2
      exact bodyPost_ret (v := .agg #[(.slice (some ⟨rb, ro, none⟩) ts.length rc)]) (by simp [results, Tryd.results34, go_sem, k0]) rfl HFF.out
  · go_upto_region 12 with fail
    obtain ⟨da, dc, hdv⟩ := (S4.pl.dep kk hkk).slc
    obtain ⟨dn, hdn'⟩ : ∃ dn, dn = (ts.getD kk dT).deps.length := ⟨_, rfl⟩
    rw [← hdn'] at hdv
    have hdn : dn ≤ 40 := by rw [hdn']; exact hdp kk hkk
    have HDV := hid hdv
    have HDL := hid hdn'.symm
    clear hdv hdn'
    refine wp_region_held (S := fun w' => w'.cell? ⟨Po, 0, none⟩ = some (.slice (some ⟨rb, ro, none⟩) ts.length rc)) (by kernel_rfl) ?_
    change wpAnyH _ _ _ _ _ _ _ _ (World.drew _)
    have s0 := S4.drew
    obtain ⟨x0, hx0⟩ : ∃ U, U = w4.drew := ⟨_, rfl⟩
    rw [← hx0] at s0
    rw [← hx0]
    clear hx0 S4
    refine hTk (i := 0) (d := some 68) (v := .pointer (some ⟨Po, 0, none⟩)) (l' := (bt 22 1)) rfl (fun _ hc => run_faP (.tmp 5) (by kernel_rfl) (by kernel_rfl)) s0.box ?_
    refine hTk (i := 1) (d := some 69) (v := (.slice (some ⟨rb, ro, none⟩) ts.length rc)) (l' := (bt 22 3)) rfl (fun _ hc => run_ldTs (.tmp 68) (by kernel_rfl) (by kernel_rfl) hc) s0.box ?_
    refine hTk (i := 2) (d := some 70) (v := .int .i64 (kk : Nat)) (l' := (bt 22 7)) rfl (fun _ hc => run_mvD (.tmp 6) (by kernel_rfl) (by kernel_rfl)) s0.box ?_
    refine hTk (i := 3) (d := some 71) (v := .pointer (some ⟨Po, 0, none⟩)) (l' := (bt 22 15)) rfl (fun _ hc => run_faP (.tmp 5) (by kernel_rfl) (by kernel_rfl)) s0.box ?_
    refine hTk (i := 4) (d := some 72) (v := (.slice (some ⟨rb, ro, none⟩) ts.length rc)) (l' := (bt 22 31)) rfl (fun _ hc => run_ldTs (.tmp 71) (by kernel_rfl) (by kernel_rfl) hc) s0.box ?_
    refine hTk (i := 5) (d := some 73) (v := .int .i64 (kk : Nat)) (l' := (bt 22 63)) rfl (fun _ hc => run_mvD (.tmp 6) (by kernel_rfl) (by kernel_rfl)) s0.box ?_
    refine hTk (i := 6) (d := some 74) (v := .pointer (some ⟨rb, ro + kk * 3, none⟩)) (l' := (bt 22 127)) rfl (fun _ hc => run_ixT (.tmp 72) (.tmp 73) rb ro ts.length rc kk (by kernel_rfl) (by kernel_rfl) (by kernel_rfl) hkk) s0.box ?_
    refine hTk (i := 7) (d := some 75) (v := .pointer (some ⟨rb, ro + kk * 3 + 2, none⟩)) (l' := (bt 22 255)) rfl (fun _ hc => run_faT2 (.tmp 74) (by kernel_rfl) (by kernel_rfl)) s0.box ?_
    refine hTk (i := 9) (d := some 77) (v := .int .i64 (kk : Nat)) (l' := (bt 22 767)) rfl (fun _ hc => run_mvD (.tmp 6) (by kernel_rfl) (by kernel_rfl)) s0.box ?_
    refine hTk (i := 10) (d := some 78) (v := .int .i64 (kk : Nat)) (l' := (bt 22 1791)) rfl (fun _ hc => run_mvD (.tmp 6) (by kernel_rfl) (by kernel_rfl)) s0.box ?_
    refine hTk (i := 11) (d := some 79) (v := .int .i64 ((kk : Int) + 1)) (l' := (bt 22 3839)) rfl (fun _ hc => run_addII (.tmp 78) (.const (.int .i64 1)) (kk : Nat) 1 (by kernel_rfl) (by kernel_rfl) (by kernel_rfl) (by omega)) s0.box ?_
    refine hTk (i := 13) (d := some 81) (v := .pointer (some ⟨g, 0, none⟩)) (l' := (bt 22 12031)) rfl (fun _ hc => run_mvD (.tmp 0) (by kernel_rfl) (by kernel_rfl)) s0.box ?_
    refine hThree (i := 8) (j := 12) (m := 14) (by kernel_rfl) (hVal (i := 8) (d := some 76) (v := .slice da dn dc) (w' := x0) (l' := (bt 22 12287)) rfl (by kernel_rfl) (by kernel_rfl) (by kernel_rfl) (run_ldIs (.tmp 75) (by kernel_rfl) (by kernel_rfl) (by have := (s0.pl.cell hkk 2 (by omega)).1; rw [HDV.out] at this; exact this)) s0.box ?_) (hVal (i := 12) (d := some 80) (v := .slice (some ⟨x0.heap.size, 0, none⟩) 4 4) (w' := x0.alloc (.cells #[.int .i64 (kk : Nat), .int .i64 (-1), .int .i64 0, .int .i64 ((kk : Int) + 1)] 3)) (l' := (bt 22 16127)) rfl (by kernel_rfl) (by kernel_rfl) (by kernel_rfl) (run_bsI4 (.tmp 77) (.const (.int .i64 (-1))) (.const (.int .i64 0)) (.tmp 79) (kk : Nat) (-1) 0 ((kk : Int) + 1) (by kernel_rfl) (by kernel_rfl) (by kernel_rfl) (by kernel_rfl) (by kernel_rfl)) (s0.alloc (.cells #[.int .i64 (kk : Nat), .int .i64 (-1), .int .i64 0, .int .i64 ((kk : Int) + 1)] 3)).box ?_) (hCall (i := 14) (d := some 82) (f := 32) (args := #[.pointer (some ⟨g, 0, none⟩), .int .i64 4]) (l' := (bt 22 28415)) (R := fun v w' => (∃ r : Nat, r < 4 ∧ v = .int .i64 r) ∧ RD w' g (k + 2 + 1) ∧ x0.grownBy w' (some g)) rfl (by kernel_rfl) (by kernel_rfl) (by kernel_rfl) (run_cl2 _ _ _ rfl (by kernel_rfl) (by kernel_rfl) rfl enter_pick) ((pick_any g 4 (k + 2) x0 s0.rd (by omega) (by omega) (by omega)).mono fun e w' ⟨⟨r, hr, he⟩, h1, h2⟩ => ⟨_, he, ⟨r, hr, rfl⟩, h1, h2⟩) ?_)
    · refine hTwo (i := 12) (j := 14) (by kernel_rfl) (hVal (i := 12) (d := some 80) (v := .slice (some ⟨x0.heap.size, 0, none⟩) 4 4) (w' := x0.alloc (.cells #[.int .i64 (kk : Nat), .int .i64 (-1), .int .i64 0, .int .i64 ((kk : Int) + 1)] 3)) (l' := (bt 22 16383)) rfl (by kernel_rfl) (by kernel_rfl) (by kernel_rfl) (run_bsI4 (.tmp 77) (.const (.int .i64 (-1))) (.const (.int .i64 0)) (.tmp 79) (kk : Nat) (-1) 0 ((kk : Int) + 1) (by kernel_rfl) (by kernel_rfl) (by kernel_rfl) (by kernel_rfl) (by kernel_rfl)) (s0.alloc (.cells #[.int .i64 (kk : Nat), .int .i64 (-1), .int .i64 0, .int .i64 ((kk : Int) + 1)] 3)).box ?_) (hCall (i := 14) (d := some 82) (f := 32) (args := #[.pointer (some ⟨g, 0, none⟩), .int .i64 4]) (l' := (bt 22 28671)) (R := fun v w' => (∃ r : Nat, r < 4 ∧ v = .int .i64 r) ∧ RD w' g (k + 2 + 1) ∧ x0.grownBy w' (some g)) rfl (by kernel_rfl) (by kernel_rfl) (by kernel_rfl) (run_cl2 _ _ _ rfl (by kernel_rfl) (by kernel_rfl) rfl enter_pick) ((pick_any g 4 (k + 2) x0 s0.rd (by omega) (by omega) (by omega)).mono fun e w' ⟨⟨r, hr, he⟩, h1, h2⟩ => ⟨_, he, ⟨r, hr, rfl⟩, h1, h2⟩) ?_)
      · have s70 := s0.alloc (.cells #[.int .i64 (kk : Nat), .int .i64 (-1), .int .i64 0, .int .i64 ((kk : Int) + 1)] 3)
        have hq71 := CF.made x0 #[.int .i64 (kk : Nat), .int .i64 (-1), .int .i64 0, .int .i64 ((kk : Int) + 1)] 3
        have hq71z : x0.heap.size < (x0.alloc (.cells #[.int .i64 (kk : Nat), .int .i64 (-1), .int .i64 0, .int .i64 ((kk : Int) + 1)] 3)).heap.size := by simp
        have qlo : w.heap.size + 2 < x0.heap.size := by have := s0.z; have := s0.lo; omega
        have qPo : x0.heap.size ≠ Po ∧ x0.heap.size ≠ rb := by have := s0.z; have := s0.inRow; omega
        obtain ⟨qb, hqb⟩ : ∃ q, q = x0.heap.size := ⟨_, rfl⟩
        rw [← hqb] at hq71 hq71z qlo qPo
        rw [← hqb]
        obtain ⟨xw69, hxw69⟩ : ∃ V, V = x0.alloc (.cells #[.int .i64 (kk : Nat), .int .i64 (-1), .int .i64 0, .int .i64 ((kk : Int) + 1)] 3) := ⟨_, rfl⟩
        have qrow : ∀ j, j < ts.length → ∀ q, (vs.getD j nilV).ownBlock = some q → q ≠ qb := fun j hj q hq => by have := (s0.pl.dep j hj).row_hi q hq; omega
        rw [← hxw69] at s70 hq71 hq71z
        rw [← hxw69]
        clear hxw69 hqb s0
        refine hOne (by kernel_rfl) (hCall (i := 14) (d := some 82) (f := 32) (args := #[.pointer (some ⟨g, 0, none⟩), .int .i64 4]) (l' := (bt 22 32767)) (R := fun v w' => (∃ r : Nat, r < 4 ∧ v = .int .i64 r) ∧ RD w' g (k + 2 + 1) ∧ xw69.grownBy w' (some g)) rfl (by kernel_rfl) (by kernel_rfl) (by kernel_rfl) (run_cl2 _ _ _ rfl (by kernel_rfl) (by kernel_rfl) rfl enter_pick) ((pick_any g 4 (k + 2) xw69 s70.rd (by omega) (by omega) (by omega)).mono fun e w' ⟨⟨r, hr, he⟩, h1, h2⟩ => ⟨_, he, ⟨r, hr, rfl⟩, h1, h2⟩) ?_)
        rintro _ xw72 ⟨⟨rr, hrr, rfl⟩, hrd, hgg⟩
        have s73 := s70.call hrd hgg
        have hq74 := hq71.block (hgg.block qb (by have := hq71z; omega) (by simp; have := s70.gl; have := qlo; omega))
        have hq74z : qb < xw72.heap.size := by have := hgg.size; have := hq71z; omega
        clear hrd hgg s70 hq71 hq71z
        refine ⟨s73.box, ?_⟩
        refine hTk (i := 15) (d := some 83) (v := .pointer (some ⟨qb, rr, none⟩)) (l' := (bt 22 65535)) rfl (fun _ hc => run_ixI (.tmp 80) (.tmp 82) qb 4 4 rr (by kernel_rfl) (by kernel_rfl) (by kernel_rfl) hrr) s73.box ?_
        refine hOne (by kernel_rfl) (hVal (i := 16) (d := some 84) (v := .int .i64 (x4 kk rr)) (w' := xw72) (l' := (bt 22 131071)) rfl (by kernel_rfl) (by kernel_rfl) (by kernel_rfl) (run_ldIn (.tmp 83) (by kernel_rfl) (by kernel_rfl) (x4_cell hq74 hrr)) s73.box ?_)
        refine hOne (by kernel_rfl) (hVal (i := 17) (d := some 85) (v := .slice (some ⟨xw72.heap.size, 0, none⟩) 1 1) (w' := xw72.alloc (.cells #[.int .i64 (x4 kk rr)] 3)) (l' := (bt 22 262143)) rfl (by kernel_rfl) (by kernel_rfl) (by kernel_rfl) (run_bsI1 (.tmp 84) (x4 kk rr) (by kernel_rfl) (by kernel_rfl)) (s73.alloc (.cells #[.int .i64 (x4 kk rr)] 3)).box ?_)
        have s76 := s73.alloc (.cells #[.int .i64 (x4 kk rr)] 3)
        have own1 : Own (w.heap.size + 2) (xw72.alloc (.cells #[.int .i64 (x4 kk rr)] 3)) 1 (.slice (some ⟨xw72.heap.size, 0, none⟩) 1 1) 1 [.int .i64 (x4 kk rr)] :=
          .inr ⟨_, 0, 1, rfl, OwnC.made xw72 (w.heap.size + 2) 3 1 1 1 _ 1 (by have := s73.z; have := s73.lo; omega) (Nat.le_refl _) (by unfold maxLen; omega) rfl (Nat.le_refl _) _ rfl _ (.inl rfl)⟩
        have src1 : Src Tryd.prog 1 35 _ 1 _ (xw72.alloc (.cells #[.int .i64 (x4 kk rr)] 3)) := own1.src Tryd.underlying35 (by intro x hx; simp only [List.mem_cons, List.not_mem_nil, or_false] at hx; subst hx; rfl)
        obtain ⟨qs, hqs⟩ : ∃ q, q = xw72.heap.size := ⟨_, rfl⟩
        rw [← hqs] at src1
        rw [← hqs]
        obtain ⟨xw75, hxw75⟩ : ∃ V, V = xw72.alloc (.cells #[.int .i64 (x4 kk rr)] 3) := ⟨_, rfl⟩
        rw [← hxw75] at s76 src1
        rw [← hxw75]
        clear hxw75 hqs s73 own1 hq74 hq74z qrow
        obtain ⟨aa, ac, aW, hap, hbx, ⟨v0, hrc⟩, hrf, ts', vs', hl', sE⟩ := s76.appD (x4 kk rr) hkk HDV.out HDL.out src1 (x4_rng (by omega) hrr) hdn
        refine hOne (by kernel_rfl) (hVal (i := 18) (d := some 86) (v := .slice aa (dn + 1) ac) (w' := aW) (l' := (bt 22 524287)) rfl (by kernel_rfl) (by kernel_rfl) (by kernel_rfl) (run_appT (.tmp 76) (.tmp 85) 35 35 35 (by kernel_rfl) (by kernel_rfl) (by kernel_rfl) (by kernel_rfl) hap) hbx ?_)
        clear hap s76 src1
        refine hOne (by kernel_rfl) (hVal (i := 19) (d := some 87) (v := .pointer (some ⟨rb, ro + kk * 3, none⟩)) (w' := aW) (l' := (bt 22 1048575)) rfl (by kernel_rfl) (by kernel_rfl) (by kernel_rfl) (run_ixT (.tmp 69) (.tmp 70) rb ro ts.length rc kk (by kernel_rfl) (by kernel_rfl) (by kernel_rfl) hkk) hbx ?_)
        refine hOne (by kernel_rfl) (hVal (i := 20) (d := some 88) (v := .pointer (some ⟨rb, ro + kk * 3 + 2, none⟩)) (w' := aW) (l' := (bt 22 2097151)) rfl (by kernel_rfl) (by kernel_rfl) (by kernel_rfl) (run_faT2 (.tmp 87) (by kernel_rfl) (by kernel_rfl)) hbx ?_)
        refine hOne (by kernel_rfl) (hSkip (i := 21) (w' := aW.setCell ⟨rb, ro + kk * 3 + 2, none⟩ (.slice aa (dn + 1) ac)) (l' := (bt 22 4194303)) rfl (by kernel_rfl) (by kernel_rfl) (by kernel_rfl) (run_stIs (.tmp 88) (.tmp 86) aa (dn + 1) ac (by kernel_rfl) (by kernel_rfl) (by kernel_rfl) hrc hrf) sE.box ?_)
        obtain ⟨xw77, hxw77⟩ : ∃ V, V = aW.setCell ⟨rb, ro + kk * 3 + 2, none⟩ (.slice aa (dn + 1) ac) := ⟨_, rfl⟩
        rw [← hxw77] at sE
        rw [← hxw77]
        clear hxw77 hrc hrf hbx
        refine wpAnyH_done (by kernel_rfl) ?_ _
        have HF := sE.fin (by omega)
        have p0 := sE.box
        have k0 : xw77.cell? ⟨w.heap.size + 1, 0, none⟩ = some (.slice none 0 0) := (sE.R 0 (by simp)).1
        have f0 : xw77.frozen? ⟨w.heap.size + 1, 0, none⟩ = false := (sE.R 0 (by simp)).2
        have HFF := hid (HF.imp id (fun h => And.intro (h.1.mono (show _ ≤ k + 200 by omega)) h.2))
        clear HF sE
        go_wp2
        exact bodyPost_ret (v := .agg #[(.slice (some ⟨rb, ro, none⟩) ts.length rc)]) (by simp [results, Tryd.results34, go_sem, k0]) rfl HFF.out
      · rintro _ xw78 ⟨⟨rr, hrr, rfl⟩, hrd, hgg⟩
        have s79 := s0.call hrd hgg
        clear hrd hgg s0
        refine ⟨s79.box, ?_⟩
        refine hOne (by kernel_rfl) (hVal (i := 12) (d := some 80) (v := .slice (some ⟨xw78.heap.size, 0, none⟩) 4 4) (w' := xw78.alloc (.cells #[.int .i64 (kk : Nat), .int .i64 (-1), .int .i64 0, .int .i64 ((kk : Int) + 1)] 3)) (l' := (bt 22 32767)) rfl (by kernel_rfl) (by kernel_rfl) (by kernel_rfl) (run_bsI4 (.tmp 77) (.const (.int .i64 (-1))) (.const (.int .i64 0)) (.tmp 79) (kk : Nat) (-1) 0 ((kk : Int) + 1) (by kernel_rfl) (by kernel_rfl) (by kernel_rfl) (by kernel_rfl) (by kernel_rfl)) (s79.alloc (.cells #[.int .i64 (kk : Nat), .int .i64 (-1), .int .i64 0, .int .i64 ((kk : Int) + 1)] 3)).box ?_)
        have s81 := s79.alloc (.cells #[.int .i64 (kk : Nat), .int .i64 (-1), .int .i64 0, .int .i64 ((kk : Int) + 1)] 3)
        have hq82 := CF.made xw78 #[.int .i64 (kk : Nat), .int .i64 (-1), .int .i64 0, .int .i64 ((kk : Int) + 1)] 3
        have hq82z : xw78.heap.size < (xw78.alloc (.cells #[.int .i64 (kk : Nat), .int .i64 (-1), .int .i64 0, .int .i64 ((kk : Int) + 1)] 3)).heap.size := by simp
        have qlo : w.heap.size + 2 < xw78.heap.size := by have := s79.z; have := s79.lo; omega
        have qPo : xw78.heap.size ≠ Po ∧ xw78.heap.size ≠ rb := by have := s79.z; have := s79.inRow; omega
        obtain ⟨qb, hqb⟩ : ∃ q, q = xw78.heap.size := ⟨_, rfl⟩
        rw [← hqb] at hq82 hq82z qlo qPo
        rw [← hqb]
        obtain ⟨xw80, hxw80⟩ : ∃ V, V = xw78.alloc (.cells #[.int .i64 (kk : Nat), .int .i64 (-1), .int .i64 0, .int .i64 ((kk : Int) + 1)] 3) := ⟨_, rfl⟩
        have qrow : ∀ j, j < ts.length → ∀ q, (vs.getD j nilV).ownBlock = some q → q ≠ qb := fun j hj q hq => by have := (s79.pl.dep j hj).row_hi q hq; omega
        rw [← hxw80] at s81 hq82 hq82z
        rw [← hxw80]
        clear hxw80 hqb s79
        refine hTk (i := 15) (d := some 83) (v := .pointer (some ⟨qb, rr, none⟩)) (l' := (bt 22 65535)) rfl (fun _ hc => run_ixI (.tmp 80) (.tmp 82) qb 4 4 rr (by kernel_rfl) (by kernel_rfl) (by kernel_rfl) hrr) s81.box ?_
        refine hOne (by kernel_rfl) (hVal (i := 16) (d := some 84) (v := .int .i64 (x4 kk rr)) (w' := xw80) (l' := (bt 22 131071)) rfl (by kernel_rfl) (by kernel_rfl) (by kernel_rfl) (run_ldIn (.tmp 83) (by kernel_rfl) (by kernel_rfl) (x4_cell hq82 hrr)) s81.box ?_)
        refine hOne (by kernel_rfl) (hVal (i := 17) (d := some 85) (v := .slice (some ⟨xw80.heap.size, 0, none⟩) 1 1) (w' := xw80.alloc (.cells #[.int .i64 (x4 kk rr)] 3)) (l' := (bt 22 262143)) rfl (by kernel_rfl) (by kernel_rfl) (by kernel_rfl) (run_bsI1 (.tmp 84) (x4 kk rr) (by kernel_rfl) (by kernel_rfl)) (s81.alloc (.cells #[.int .i64 (x4 kk rr)] 3)).box ?_)
        have s84 := s81.alloc (.cells #[.int .i64 (x4 kk rr)] 3)
        have own1 : Own (w.heap.size + 2) (xw80.alloc (.cells #[.int .i64 (x4 kk rr)] 3)) 1 (.slice (some ⟨xw80.heap.size, 0, none⟩) 1 1) 1 [.int .i64 (x4 kk rr)] :=
          .inr ⟨_, 0, 1, rfl, OwnC.made xw80 (w.heap.size + 2) 3 1 1 1 _ 1 (by have := s81.z; have := s81.lo; omega) (Nat.le_refl _) (by unfold maxLen; omega) rfl (Nat.le_refl _) _ rfl _ (.inl rfl)⟩
        have src1 : Src Tryd.prog 1 35 _ 1 _ (xw80.alloc (.cells #[.int .i64 (x4 kk rr)] 3)) := own1.src Tryd.underlying35 (by intro x hx; simp only [List.mem_cons, List.not_mem_nil, or_false] at hx; subst hx; rfl)
        obtain ⟨qs, hqs⟩ : ∃ q, q = xw80.heap.size := ⟨_, rfl⟩
        rw [← hqs] at src1
        rw [← hqs]
        obtain ⟨xw83, hxw83⟩ : ∃ V, V = xw80.alloc (.cells #[.int .i64 (x4 kk rr)] 3) := ⟨_, rfl⟩
        rw [← hxw83] at s84 src1
        rw [← hxw83]
        clear hxw83 hqs s81 own1 hq82 hq82z qrow
        obtain ⟨aa, ac, aW, hap, hbx, ⟨v0, hrc⟩, hrf, ts', vs', hl', sE⟩ := s84.appD (x4 kk rr) hkk HDV.out HDL.out src1 (x4_rng (by omega) hrr) hdn
        refine hOne (by kernel_rfl) (hVal (i := 18) (d := some 86) (v := .slice aa (dn + 1) ac) (w' := aW) (l' := (bt 22 524287)) rfl (by kernel_rfl) (by kernel_rfl) (by kernel_rfl) (run_appT (.tmp 76) (.tmp 85) 35 35 35 (by kernel_rfl) (by kernel_rfl) (by kernel_rfl) (by kernel_rfl) hap) hbx ?_)
        clear hap s84 src1
        refine hOne (by kernel_rfl) (hVal (i := 19) (d := some 87) (v := .pointer (some ⟨rb, ro + kk * 3, none⟩)) (w' := aW) (l' := (bt 22 1048575)) rfl (by kernel_rfl) (by kernel_rfl) (by kernel_rfl) (run_ixT (.tmp 69) (.tmp 70) rb ro ts.length rc kk (by kernel_rfl) (by kernel_rfl) (by kernel_rfl) hkk) hbx ?_)
        refine hOne (by kernel_rfl) (hVal (i := 20) (d := some 88) (v := .pointer (some ⟨rb, ro + kk * 3 + 2, none⟩)) (w' := aW) (l' := (bt 22 2097151)) rfl (by kernel_rfl) (by kernel_rfl) (by kernel_rfl) (run_faT2 (.tmp 87) (by kernel_rfl) (by kernel_rfl)) hbx ?_)
        refine hOne (by kernel_rfl) (hSkip (i := 21) (w' := aW.setCell ⟨rb, ro + kk * 3 + 2, none⟩ (.slice aa (dn + 1) ac)) (l' := (bt 22 4194303)) rfl (by kernel_rfl) (by kernel_rfl) (by kernel_rfl) (run_stIs (.tmp 88) (.tmp 86) aa (dn + 1) ac (by kernel_rfl) (by kernel_rfl) (by kernel_rfl) hrc hrf) sE.box ?_)
        obtain ⟨xw85, hxw85⟩ : ∃ V, V = aW.setCell ⟨rb, ro + kk * 3 + 2, none⟩ (.slice aa (dn + 1) ac) := ⟨_, rfl⟩
        rw [← hxw85] at sE
        rw [← hxw85]
        clear hxw85 hrc hrf hbx
        refine wpAnyH_done (by kernel_rfl) ?_ _
        have HF := sE.fin (by omega)
        have p0 := sE.box
        have k0 : xw85.cell? ⟨w.heap.size + 1, 0, none⟩ = some (.slice none 0 0) := (sE.R 0 (by simp)).1
        have f0 : xw85.frozen? ⟨w.heap.size + 1, 0, none⟩ = false := (sE.R 0 (by simp)).2
        have HFF := hid (HF.imp id (fun h => And.intro (h.1.mono (show _ ≤ k + 200 by omega)) h.2))
        clear HF sE
        go_wp2
        exact bodyPost_ret (v := .agg #[(.slice (some ⟨rb, ro, none⟩) ts.length rc)]) (by simp [results, Tryd.results34, go_sem, k0]) rfl HFF.out
    · have s87 := s0.alloc (.cells #[.int .i64 (kk : Nat), .int .i64 (-1), .int .i64 0, .int .i64 ((kk : Int) + 1)] 3)
      have hq88 := CF.made x0 #[.int .i64 (kk : Nat), .int .i64 (-1), .int .i64 0, .int .i64 ((kk : Int) + 1)] 3
      have hq88z : x0.heap.size < (x0.alloc (.cells #[.int .i64 (kk : Nat), .int .i64 (-1), .int .i64 0, .int .i64 ((kk : Int) + 1)] 3)).heap.size := by simp
      have qlo : w.heap.size + 2 < x0.heap.size := by have := s0.z; have := s0.lo; omega
      have qPo : x0.heap.size ≠ Po ∧ x0.heap.size ≠ rb := by have := s0.z; have := s0.inRow; omega
      obtain ⟨qb, hqb⟩ : ∃ q, q = x0.heap.size := ⟨_, rfl⟩
      rw [← hqb] at hq88 hq88z qlo qPo
      rw [← hqb]
      obtain ⟨xw86, hxw86⟩ : ∃ V, V = x0.alloc (.cells #[.int .i64 (kk : Nat), .int .i64 (-1), .int .i64 0, .int .i64 ((kk : Int) + 1)] 3) := ⟨_, rfl⟩
      have qrow : ∀ j, j < ts.length → ∀ q, (vs.getD j nilV).ownBlock = some q → q ≠ qb := fun j hj q hq => by have := (s0.pl.dep j hj).row_hi q hq; omega
      rw [← hxw86] at s87 hq88 hq88z
      rw [← hxw86]
      clear hxw86 hqb s0
      refine hTwo (i := 8) (j := 14) (by kernel_rfl) (hVal (i := 8) (d := some 76) (v := .slice da dn dc) (w' := xw86) (l' := (bt 22 16383)) rfl (by kernel_rfl) (by kernel_rfl) (by kernel_rfl) (run_ldIs (.tmp 75) (by kernel_rfl) (by kernel_rfl) (by have := (s87.pl.cell hkk 2 (by omega)).1; rw [HDV.out] at this; exact this)) s87.box ?_) (hCall (i := 14) (d := some 82) (f := 32) (args := #[.pointer (some ⟨g, 0, none⟩), .int .i64 4]) (l' := (bt 22 32511)) (R := fun v w' => (∃ r : Nat, r < 4 ∧ v = .int .i64 r) ∧ RD w' g (k + 2 + 1) ∧ xw86.grownBy w' (some g)) rfl (by kernel_rfl) (by kernel_rfl) (by kernel_rfl) (run_cl2 _ _ _ rfl (by kernel_rfl) (by kernel_rfl) rfl enter_pick) ((pick_any g 4 (k + 2) xw86 s87.rd (by omega) (by omega) (by omega)).mono fun e w' ⟨⟨r, hr, he⟩, h1, h2⟩ => ⟨_, he, ⟨r, hr, rfl⟩, h1, h2⟩) ?_)
      · refine hOne (by kernel_rfl) (hCall (i := 14) (d := some 82) (f := 32) (args := #[.pointer (some ⟨g, 0, none⟩), .int .i64 4]) (l' := (bt 22 32767)) (R := fun v w' => (∃ r : Nat, r < 4 ∧ v = .int .i64 r) ∧ RD w' g (k + 2 + 1) ∧ xw86.grownBy w' (some g)) rfl (by kernel_rfl) (by kernel_rfl) (by kernel_rfl) (run_cl2 _ _ _ rfl (by kernel_rfl) (by kernel_rfl) rfl enter_pick) ((pick_any g 4 (k + 2) xw86 s87.rd (by omega) (by omega) (by omega)).mono fun e w' ⟨⟨r, hr, he⟩, h1, h2⟩ => ⟨_, he, ⟨r, hr, rfl⟩, h1, h2⟩) ?_)
        rintro _ xw89 ⟨⟨rr, hrr, rfl⟩, hrd, hgg⟩
        have s90 := s87.call hrd hgg
        have hq91 := hq88.block (hgg.block qb (by have := hq88z; omega) (by simp; have := s87.gl; have := qlo; omega))
        have hq91z : qb < xw89.heap.size := by have := hgg.size; have := hq88z; omega
        clear hrd hgg s87 hq88 hq88z
        refine ⟨s90.box, ?_⟩
        refine hTk (i := 15) (d := some 83) (v := .pointer (some ⟨qb, rr, none⟩)) (l' := (bt 22 65535)) rfl (fun _ hc => run_ixI (.tmp 80) (.tmp 82) qb 4 4 rr (by kernel_rfl) (by kernel_rfl) (by kernel_rfl) hrr) s90.box ?_
        refine hOne (by kernel_rfl) (hVal (i := 16) (d := some 84) (v := .int .i64 (x4 kk rr)) (w' := xw89) (l' := (bt 22 131071)) rfl (by kernel_rfl) (by kernel_rfl) (by kernel_rfl) (run_ldIn (.tmp 83) (by kernel_rfl) (by kernel_rfl) (x4_cell hq91 hrr)) s90.box ?_)
        refine hOne (by kernel_rfl) (hVal (i := 17) (d := some 85) (v := .slice (some ⟨xw89.heap.size, 0, none⟩) 1 1) (w' := xw89.alloc (.cells #[.int .i64 (x4 kk rr)] 3)) (l' := (bt 22 262143)) rfl (by kernel_rfl) (by kernel_rfl) (by kernel_rfl) (run_bsI1 (.tmp 84) (x4 kk rr) (by kernel_rfl) (by kernel_rfl)) (s90.alloc (.cells #[.int .i64 (x4 kk rr)] 3)).box ?_)
        have s93 := s90.alloc (.cells #[.int .i64 (x4 kk rr)] 3)
        have own1 : Own (w.heap.size + 2) (xw89.alloc (.cells #[.int .i64 (x4 kk rr)] 3)) 1 (.slice (some ⟨xw89.heap.size, 0, none⟩) 1 1) 1 [.int .i64 (x4 kk rr)] :=
          .inr ⟨_, 0, 1, rfl, OwnC.made xw89 (w.heap.size + 2) 3 1 1 1 _ 1 (by have := s90.z; have := s90.lo; omega) (Nat.le_refl _) (by unfold maxLen; omega) rfl (Nat.le_refl _) _ rfl _ (.inl rfl)⟩
        have src1 : Src Tryd.prog 1 35 _ 1 _ (xw89.alloc (.cells #[.int .i64 (x4 kk rr)] 3)) := own1.src Tryd.underlying35 (by intro x hx; simp only [List.mem_cons, List.not_mem_nil, or_false] at hx; subst hx; rfl)
        obtain ⟨qs, hqs⟩ : ∃ q, q = xw89.heap.size := ⟨_, rfl⟩
        rw [← hqs] at src1
        rw [← hqs]
        obtain ⟨xw92, hxw92⟩ : ∃ V, V = xw89.alloc (.cells #[.int .i64 (x4 kk rr)] 3) := ⟨_, rfl⟩
        rw [← hxw92] at s93 src1
        rw [← hxw92]
        clear hxw92 hqs s90 own1 hq91 hq91z qrow
        obtain ⟨aa, ac, aW, hap, hbx, ⟨v0, hrc⟩, hrf, ts', vs', hl', sE⟩ := s93.appD (x4 kk rr) hkk HDV.out HDL.out src1 (x4_rng (by omega) hrr) hdn
        refine hOne (by kernel_rfl) (hVal (i := 18) (d := some 86) (v := .slice aa (dn + 1) ac) (w' := aW) (l' := (bt 22 524287)) rfl (by kernel_rfl) (by kernel_rfl) (by kernel_rfl) (run_appT (.tmp 76) (.tmp 85) 35 35 35 (by kernel_rfl) (by kernel_rfl) (by kernel_rfl) (by kernel_rfl) hap) hbx ?_)
        clear hap s93 src1
        refine hOne (by kernel_rfl) (hVal (i := 19) (d := some 87) (v := .pointer (some ⟨rb, ro + kk * 3, none⟩)) (w' := aW) (l' := (bt 22 1048575)) rfl (by kernel_rfl) (by kernel_rfl) (by kernel_rfl) (run_ixT (.tmp 69) (.tmp 70) rb ro ts.length rc kk (by kernel_rfl) (by kernel_rfl) (by kernel_rfl) hkk) hbx ?_)
        refine hOne (by kernel_rfl) (hVal (i := 20) (d := some 88) (v := .pointer (some ⟨rb, ro + kk * 3 + 2, none⟩)) (w' := aW) (l' := (bt 22 2097151)) rfl (by kernel_rfl) (by kernel_rfl) (by kernel_rfl) (run_faT2 (.tmp 87) (by kernel_rfl) (by kernel_rfl)) hbx ?_)
        refine hOne (by kernel_rfl) (hSkip (i := 21) (w' := aW.setCell ⟨rb, ro + kk * 3 + 2, none⟩ (.slice aa (dn + 1) ac)) (l' := (bt 22 4194303)) rfl (by kernel_rfl) (by kernel_rfl) (by kernel_rfl) (run_stIs (.tmp 88) (.tmp 86) aa (dn + 1) ac (by kernel_rfl) (by kernel_rfl) (by kernel_rfl) hrc hrf) sE.box ?_)
        obtain ⟨xw94, hxw94⟩ : ∃ V, V = aW.setCell ⟨rb, ro + kk * 3 + 2, none⟩ (.slice aa (dn + 1) ac) := ⟨_, rfl⟩
        rw [← hxw94] at sE
        rw [← hxw94]
        clear hxw94 hrc hrf hbx
        refine wpAnyH_done (by kernel_rfl) ?_ _
        have HF := sE.fin (by omega)
        have p0 := sE.box
        have k0 : xw94.cell? ⟨w.heap.size + 1, 0, none⟩ = some (.slice none 0 0) := (sE.R 0 (by simp)).1
        have f0 : xw94.frozen? ⟨w.heap.size + 1, 0, none⟩ = false := (sE.R 0 (by simp)).2
        have HFF := hid (HF.imp id (fun h => And.intro (h.1.mono (show _ ≤ k + 200 by omega)) h.2))
        clear HF sE
        go_wp2
        exact bodyPost_ret (v := .agg #[(.slice (some ⟨rb, ro, none⟩) ts.length rc)]) (by simp [results, Tryd.results34, go_sem, k0]) rfl HFF.out
      · rintro _ xw95 ⟨⟨rr, hrr, rfl⟩, hrd, hgg⟩
        have s96 := s87.call hrd hgg
        have hq97 := hq88.block (hgg.block qb (by have := hq88z; omega) (by simp; have := s87.gl; have := qlo; omega))
        have hq97z : qb < xw95.heap.size := by have := hgg.size; have := hq88z; omega
        clear hrd hgg s87 hq88 hq88z
        refine ⟨s96.box, ?_⟩
        refine hTk (i := 15) (d := some 83) (v := .pointer (some ⟨qb, rr, none⟩)) (l' := (bt 22 65279)) rfl (fun _ hc => run_ixI (.tmp 80) (.tmp 82) qb 4 4 rr (by kernel_rfl) (by kernel_rfl) (by kernel_rfl) hrr) s96.box ?_
        refine hTwo (i := 8) (j := 16) (by kernel_rfl) (hVal (i := 8) (d := some 76) (v := .slice da dn dc) (w' := xw95) (l' := (bt 22 65535)) rfl (by kernel_rfl) (by kernel_rfl) (by kernel_rfl) (run_ldIs (.tmp 75) (by kernel_rfl) (by kernel_rfl) (by have := (s96.pl.cell hkk 2 (by omega)).1; rw [HDV.out] at this; exact this)) s96.box ?_) (hVal (i := 16) (d := some 84) (v := .int .i64 (x4 kk rr)) (w' := xw95) (l' := (bt 22 130815)) rfl (by kernel_rfl) (by kernel_rfl) (by kernel_rfl) (run_ldIn (.tmp 83) (by kernel_rfl) (by kernel_rfl) (x4_cell hq97 hrr)) s96.box ?_)
        · refine hOne (by kernel_rfl) (hVal (i := 16) (d := some 84) (v := .int .i64 (x4 kk rr)) (w' := xw95) (l' := (bt 22 131071)) rfl (by kernel_rfl) (by kernel_rfl) (by kernel_rfl) (run_ldIn (.tmp 83) (by kernel_rfl) (by kernel_rfl) (x4_cell hq97 hrr)) s96.box ?_)
          refine hOne (by kernel_rfl) (hVal (i := 17) (d := some 85) (v := .slice (some ⟨xw95.heap.size, 0, none⟩) 1 1) (w' := xw95.alloc (.cells #[.int .i64 (x4 kk rr)] 3)) (l' := (bt 22 262143)) rfl (by kernel_rfl) (by kernel_rfl) (by kernel_rfl) (run_bsI1 (.tmp 84) (x4 kk rr) (by kernel_rfl) (by kernel_rfl)) (s96.alloc (.cells #[.int .i64 (x4 kk rr)] 3)).box ?_)
          have s99 := s96.alloc (.cells #[.int .i64 (x4 kk rr)] 3)
          have own1 : Own (w.heap.size + 2) (xw95.alloc (.cells #[.int .i64 (x4 kk rr)] 3)) 1 (.slice (some ⟨xw95.heap.size, 0, none⟩) 1 1) 1 [.int .i64 (x4 kk rr)] :=
            .inr ⟨_, 0, 1, rfl, OwnC.made xw95 (w.heap.size + 2) 3 1 1 1 _ 1 (by have := s96.z; have := s96.lo; omega) (Nat.le_refl _) (by unfold maxLen; omega) rfl (Nat.le_refl _) _ rfl _ (.inl rfl)⟩
          have src1 : Src Tryd.prog 1 35 _ 1 _ (xw95.alloc (.cells #[.int .i64 (x4 kk rr)] 3)) := own1.src Tryd.underlying35 (by intro x hx; simp only [List.mem_cons, List.not_mem_nil, or_false] at hx; subst hx; rfl)
          obtain ⟨qs, hqs⟩ : ∃ q, q = xw95.heap.size := ⟨_, rfl⟩
          rw [← hqs] at src1
          rw [← hqs]
          obtain ⟨xw98, hxw98⟩ : ∃ V, V = xw95.alloc (.cells #[.int .i64 (x4 kk rr)] 3) := ⟨_, rfl⟩
          rw [← hxw98] at s99 src1
          rw [← hxw98]
          clear hxw98 hqs s96 own1 hq97 hq97z qrow
          obtain ⟨aa, ac, aW, hap, hbx, ⟨v0, hrc⟩, hrf, ts', vs', hl', sE⟩ := s99.appD (x4 kk rr) hkk HDV.out HDL.out src1 (x4_rng (by omega) hrr) hdn
          refine hOne (by kernel_rfl) (hVal (i := 18) (d := some 86) (v := .slice aa (dn + 1) ac) (w' := aW) (l' := (bt 22 524287)) rfl (by kernel_rfl) (by kernel_rfl) (by kernel_rfl) (run_appT (.tmp 76) (.tmp 85) 35 35 35 (by kernel_rfl) (by kernel_rfl) (by kernel_rfl) (by kernel_rfl) hap) hbx ?_)
          clear hap s99 src1
          refine hOne (by kernel_rfl) (hVal (i := 19) (d := some 87) (v := .pointer (some ⟨rb, ro + kk * 3, none⟩)) (w' := aW) (l' := (bt 22 1048575)) rfl (by kernel_rfl) (by kernel_rfl) (by kernel_rfl) (run_ixT (.tmp 69) (.tmp 70) rb ro ts.length rc kk (by kernel_rfl) (by kernel_rfl) (by kernel_rfl) hkk) hbx ?_)
          refine hOne (by kernel_rfl) (hVal (i := 20) (d := some 88) (v := .pointer (some ⟨rb, ro + kk * 3 + 2, none⟩)) (w' := aW) (l' := (bt 22 2097151)) rfl (by kernel_rfl) (by kernel_rfl) (by kernel_rfl) (run_faT2 (.tmp 87) (by kernel_rfl) (by kernel_rfl)) hbx ?_)
          refine hOne (by kernel_rfl) (hSkip (i := 21) (w' := aW.setCell ⟨rb, ro + kk * 3 + 2, none⟩ (.slice aa (dn + 1) ac)) (l' := (bt 22 4194303)) rfl (by kernel_rfl) (by kernel_rfl) (by kernel_rfl) (run_stIs (.tmp 88) (.tmp 86) aa (dn + 1) ac (by kernel_rfl) (by kernel_rfl) (by kernel_rfl) hrc hrf) sE.box ?_)
          obtain ⟨xw100, hxw100⟩ : ∃ V, V = aW.setCell ⟨rb, ro + kk * 3 + 2, none⟩ (.slice aa (dn + 1) ac) := ⟨_, rfl⟩
          rw [← hxw100] at sE
          rw [← hxw100]
          clear hxw100 hrc hrf hbx
          refine wpAnyH_done (by kernel_rfl) ?_ _
          have HF := sE.fin (by omega)
          have p0 := sE.box
          have k0 : xw100.cell? ⟨w.heap.size + 1, 0, none⟩ = some (.slice none 0 0) := (sE.R 0 (by simp)).1
          have f0 : xw100.frozen? ⟨w.heap.size + 1, 0, none⟩ = false := (sE.R 0 (by simp)).2
          have HFF := hid (HF.imp id (fun h => And.intro (h.1.mono (show _ ≤ k + 200 by omega)) h.2))
          clear HF sE
          go_wp2
          exact bodyPost_ret (v := .agg #[(.slice (some ⟨rb, ro, none⟩) ts.length rc)]) (by simp [results, Tryd.results34, go_sem, k0]) rfl HFF.out
        · refine hTwo (i := 8) (j := 17) (by kernel_rfl) (hVal (i := 8) (d := some 76) (v := .slice da dn dc) (w' := xw95) (l' := (bt 22 131071)) rfl (by kernel_rfl) (by kernel_rfl) (by kernel_rfl) (run_ldIs (.tmp 75) (by kernel_rfl) (by kernel_rfl) (by have := (s96.pl.cell hkk 2 (by omega)).1; rw [HDV.out] at this; exact this)) s96.box ?_) (hVal (i := 17) (d := some 85) (v := .slice (some ⟨xw95.heap.size, 0, none⟩) 1 1) (w' := xw95.alloc (.cells #[.int .i64 (x4 kk rr)] 3)) (l' := (bt 22 261887)) rfl (by kernel_rfl) (by kernel_rfl) (by kernel_rfl) (run_bsI1 (.tmp 84) (x4 kk rr) (by kernel_rfl) (by kernel_rfl)) (s96.alloc (.cells #[.int .i64 (x4 kk rr)] 3)).box ?_)
          · refine hOne (by kernel_rfl) (hVal (i := 17) (d := some 85) (v := .slice (some ⟨xw95.heap.size, 0, none⟩) 1 1) (w' := xw95.alloc (.cells #[.int .i64 (x4 kk rr)] 3)) (l' := (bt 22 262143)) rfl (by kernel_rfl) (by kernel_rfl) (by kernel_rfl) (run_bsI1 (.tmp 84) (x4 kk rr) (by kernel_rfl) (by kernel_rfl)) (s96.alloc (.cells #[.int .i64 (x4 kk rr)] 3)).box ?_)
            have s102 := s96.alloc (.cells #[.int .i64 (x4 kk rr)] 3)
            have own1 : Own (w.heap.size + 2) (xw95.alloc (.cells #[.int .i64 (x4 kk rr)] 3)) 1 (.slice (some ⟨xw95.heap.size, 0, none⟩) 1 1) 1 [.int .i64 (x4 kk rr)] :=
              .inr ⟨_, 0, 1, rfl, OwnC.made xw95 (w.heap.size + 2) 3 1 1 1 _ 1 (by have := s96.z; have := s96.lo; omega) (Nat.le_refl _) (by unfold maxLen; omega) rfl (Nat.le_refl _) _ rfl _ (.inl rfl)⟩
            have src1 : Src Tryd.prog 1 35 _ 1 _ (xw95.alloc (.cells #[.int .i64 (x4 kk rr)] 3)) := own1.src Tryd.underlying35 (by intro x hx; simp only [List.mem_cons, List.not_mem_nil, or_false] at hx; subst hx; rfl)
            obtain ⟨qs, hqs⟩ : ∃ q, q = xw95.heap.size := ⟨_, rfl⟩
            rw [← hqs] at src1
            rw [← hqs]
            obtain ⟨xw101, hxw101⟩ : ∃ V, V = xw95.alloc (.cells #[.int .i64 (x4 kk rr)] 3) := ⟨_, rfl⟩
            rw [← hxw101] at s102 src1
            rw [← hxw101]
            clear hxw101 hqs s96 own1 hq97 hq97z qrow
            obtain ⟨aa, ac, aW, hap, hbx, ⟨v0, hrc⟩, hrf, ts', vs', hl', sE⟩ := s102.appD (x4 kk rr) hkk HDV.out HDL.out src1 (x4_rng (by omega) hrr) hdn
            refine hOne (by kernel_rfl) (hVal (i := 18) (d := some 86) (v := .slice aa (dn + 1) ac) (w' := aW) (l' := (bt 22 524287)) rfl (by kernel_rfl) (by kernel_rfl) (by kernel_rfl) (run_appT (.tmp 76) (.tmp 85) 35 35 35 (by kernel_rfl) (by kernel_rfl) (by kernel_rfl) (by kernel_rfl) hap) hbx ?_)
            clear hap s102 src1
            refine hOne (by kernel_rfl) (hVal (i := 19) (d := some 87) (v := .pointer (some ⟨rb, ro + kk * 3, none⟩)) (w' := aW) (l' := (bt 22 1048575)) rfl (by kernel_rfl) (by kernel_rfl) (by kernel_rfl) (run_ixT (.tmp 69) (.tmp 70) rb ro ts.length rc kk (by kernel_rfl) (by kernel_rfl) (by kernel_rfl) hkk) hbx ?_)
            refine hOne (by kernel_rfl) (hVal (i := 20) (d := some 88) (v := .pointer (some ⟨rb, ro + kk * 3 + 2, none⟩)) (w' := aW) (l' := (bt 22 2097151)) rfl (by kernel_rfl) (by kernel_rfl) (by kernel_rfl) (run_faT2 (.tmp 87) (by kernel_rfl) (by kernel_rfl)) hbx ?_)
            refine hOne (by kernel_rfl) (hSkip (i := 21) (w' := aW.setCell ⟨rb, ro + kk * 3 + 2, none⟩ (.slice aa (dn + 1) ac)) (l' := (bt 22 4194303)) rfl (by kernel_rfl) (by kernel_rfl) (by kernel_rfl) (run_stIs (.tmp 88) (.tmp 86) aa (dn + 1) ac (by kernel_rfl) (by kernel_rfl) (by kernel_rfl) hrc hrf) sE.box ?_)
            obtain ⟨xw103, hxw103⟩ : ∃ V, V = aW.setCell ⟨rb, ro + kk * 3 + 2, none⟩ (.slice aa (dn + 1) ac) := ⟨_, rfl⟩
            rw [← hxw103] at sE
            rw [← hxw103]
            clear hxw103 hrc hrf hbx
            refine wpAnyH_done (by kernel_rfl) ?_ _
            have HF := sE.fin (by omega)
            have p0 := sE.box
            have k0 : xw103.cell? ⟨w.heap.size + 1, 0, none⟩ = some (.slice none 0 0) := (sE.R 0 (by simp)).1
            have f0 : xw103.frozen? ⟨w.heap.size + 1, 0, none⟩ = false := (sE.R 0 (by simp)).2
            have HFF := hid (HF.imp id (fun h => And.intro (h.1.mono (show _ ≤ k + 200 by omega)) h.2))
            clear HF sE
            go_wp2
            exact bodyPost_ret (v := .agg #[(.slice (some ⟨rb, ro, none⟩) ts.length rc)]) (by simp [results, Tryd.results34, go_sem, k0]) rfl HFF.out
          · have s105 := s96.alloc (.cells #[.int .i64 (x4 kk rr)] 3)
            have own1 : Own (w.heap.size + 2) (xw95.alloc (.cells #[.int .i64 (x4 kk rr)] 3)) 1 (.slice (some ⟨xw95.heap.size, 0, none⟩) 1 1) 1 [.int .i64 (x4 kk rr)] :=
              .inr ⟨_, 0, 1, rfl, OwnC.made xw95 (w.heap.size + 2) 3 1 1 1 _ 1 (by have := s96.z; have := s96.lo; omega) (Nat.le_refl _) (by unfold maxLen; omega) rfl (Nat.le_refl _) _ rfl _ (.inl rfl)⟩
            have src1 : Src Tryd.prog 1 35 _ 1 _ (xw95.alloc (.cells #[.int .i64 (x4 kk rr)] 3)) := own1.src Tryd.underlying35 (by intro x hx; simp only [List.mem_cons, List.not_mem_nil, or_false] at hx; subst hx; rfl)
            obtain ⟨qs, hqs⟩ : ∃ q, q = xw95.heap.size := ⟨_, rfl⟩
            rw [← hqs] at src1
            rw [← hqs]
            obtain ⟨xw104, hxw104⟩ : ∃ V, V = xw95.alloc (.cells #[.int .i64 (x4 kk rr)] 3) := ⟨_, rfl⟩
            rw [← hxw104] at s105 src1
            rw [← hxw104]
            clear hxw104 hqs s96 own1 hq97 hq97z qrow
            refine hOne (by kernel_rfl) (hVal (i := 8) (d := some 76) (v := .slice da dn dc) (w' := xw104) (l' := (bt 22 262143)) rfl (by kernel_rfl) (by kernel_rfl) (by kernel_rfl) (run_ldIs (.tmp 75) (by kernel_rfl) (by kernel_rfl) (by have := (s105.pl.cell hkk 2 (by omega)).1; rw [HDV.out] at this; exact this)) s105.box ?_)
            obtain ⟨aa, ac, aW, hap, hbx, ⟨v0, hrc⟩, hrf, ts', vs', hl', sE⟩ := s105.appD (x4 kk rr) hkk HDV.out HDL.out src1 (x4_rng (by omega) hrr) hdn
            refine hOne (by kernel_rfl) (hVal (i := 18) (d := some 86) (v := .slice aa (dn + 1) ac) (w' := aW) (l' := (bt 22 524287)) rfl (by kernel_rfl) (by kernel_rfl) (by kernel_rfl) (run_appT (.tmp 76) (.tmp 85) 35 35 35 (by kernel_rfl) (by kernel_rfl) (by kernel_rfl) (by kernel_rfl) hap) hbx ?_)
            clear hap s105 src1
            refine hOne (by kernel_rfl) (hVal (i := 19) (d := some 87) (v := .pointer (some ⟨rb, ro + kk * 3, none⟩)) (w' := aW) (l' := (bt 22 1048575)) rfl (by kernel_rfl) (by kernel_rfl) (by kernel_rfl) (run_ixT (.tmp 69) (.tmp 70) rb ro ts.length rc kk (by kernel_rfl) (by kernel_rfl) (by kernel_rfl) hkk) hbx ?_)
            refine hOne (by kernel_rfl) (hVal (i := 20) (d := some 88) (v := .pointer (some ⟨rb, ro + kk * 3 + 2, none⟩)) (w' := aW) (l' := (bt 22 2097151)) rfl (by kernel_rfl) (by kernel_rfl) (by kernel_rfl) (run_faT2 (.tmp 87) (by kernel_rfl) (by kernel_rfl)) hbx ?_)
            refine hOne (by kernel_rfl) (hSkip (i := 21) (w' := aW.setCell ⟨rb, ro + kk * 3 + 2, none⟩ (.slice aa (dn + 1) ac)) (l' := (bt 22 4194303)) rfl (by kernel_rfl) (by kernel_rfl) (by kernel_rfl) (run_stIs (.tmp 88) (.tmp 86) aa (dn + 1) ac (by kernel_rfl) (by kernel_rfl) (by kernel_rfl) hrc hrf) sE.box ?_)
            obtain ⟨xw106, hxw106⟩ : ∃ V, V = aW.setCell ⟨rb, ro + kk * 3 + 2, none⟩ (.slice aa (dn + 1) ac) := ⟨_, rfl⟩
            rw [← hxw106] at sE
            rw [← hxw106]
            clear hxw106 hrc hrf hbx
            refine wpAnyH_done (by kernel_rfl) ?_ _
            have HF := sE.fin (by omega)
            have p0 := sE.box
            have k0 : xw106.cell? ⟨w.heap.size + 1, 0, none⟩ = some (.slice none 0 0) := (sE.R 0 (by simp)).1
            have f0 : xw106.frozen? ⟨w.heap.size + 1, 0, none⟩ = false := (sE.R 0 (by simp)).2
            have HFF := hid (HF.imp id (fun h => And.intro (h.1.mono (show _ ≤ k + 200 by omega)) h.2))
            clear HF sE
            go_wp2
            exact bodyPost_ret (v := .agg #[(.slice (some ⟨rb, ro, none⟩) ts.length rc)]) (by simp [results, Tryd.results34, go_sem, k0]) rfl HFF.out
    · rintro _ xw107 ⟨⟨rr, hrr, rfl⟩, hrd, hgg⟩
      have s108 := s0.call hrd hgg
      clear hrd hgg s0
      refine ⟨s108.box, ?_⟩
      refine hTwo (i := 8) (j := 12) (by kernel_rfl) (hVal (i := 8) (d := some 76) (v := .slice da dn dc) (w' := xw107) (l' := (bt 22 28671)) rfl (by kernel_rfl) (by kernel_rfl) (by kernel_rfl) (run_ldIs (.tmp 75) (by kernel_rfl) (by kernel_rfl) (by have := (s108.pl.cell hkk 2 (by omega)).1; rw [HDV.out] at this; exact this)) s108.box ?_) (hVal (i := 12) (d := some 80) (v := .slice (some ⟨xw107.heap.size, 0, none⟩) 4 4) (w' := xw107.alloc (.cells #[.int .i64 (kk : Nat), .int .i64 (-1), .int .i64 0, .int .i64 ((kk : Int) + 1)] 3)) (l' := (bt 22 32511)) rfl (by kernel_rfl) (by kernel_rfl) (by kernel_rfl) (run_bsI4 (.tmp 77) (.const (.int .i64 (-1))) (.const (.int .i64 0)) (.tmp 79) (kk : Nat) (-1) 0 ((kk : Int) + 1) (by kernel_rfl) (by kernel_rfl) (by kernel_rfl) (by kernel_rfl) (by kernel_rfl)) (s108.alloc (.cells #[.int .i64 (kk : Nat), .int .i64 (-1), .int .i64 0, .int .i64 ((kk : Int) + 1)] 3)).box ?_)
      · refine hOne (by kernel_rfl) (hVal (i := 12) (d := some 80) (v := .slice (some ⟨xw107.heap.size, 0, none⟩) 4 4) (w' := xw107.alloc (.cells #[.int .i64 (kk : Nat), .int .i64 (-1), .int .i64 0, .int .i64 ((kk : Int) + 1)] 3)) (l' := (bt 22 32767)) rfl (by kernel_rfl) (by kernel_rfl) (by kernel_rfl) (run_bsI4 (.tmp 77) (.const (.int .i64 (-1))) (.const (.int .i64 0)) (.tmp 79) (kk : Nat) (-1) 0 ((kk : Int) + 1) (by kernel_rfl) (by kernel_rfl) (by kernel_rfl) (by kernel_rfl) (by kernel_rfl)) (s108.alloc (.cells #[.int .i64 (kk : Nat), .int .i64 (-1), .int .i64 0, .int .i64 ((kk : Int) + 1)] 3)).box ?_)
        have s110 := s108.alloc (.cells #[.int .i64 (kk : Nat), .int .i64 (-1), .int .i64 0, .int .i64 ((kk : Int) + 1)] 3)
        have hq111 := CF.made xw107 #[.int .i64 (kk : Nat), .int .i64 (-1), .int .i64 0, .int .i64 ((kk : Int) + 1)] 3
        have hq111z : xw107.heap.size < (xw107.alloc (.cells #[.int .i64 (kk : Nat), .int .i64 (-1), .int .i64 0, .int .i64 ((kk : Int) + 1)] 3)).heap.size := by simp
        have qlo : w.heap.size + 2 < xw107.heap.size := by have := s108.z; have := s108.lo; omega
        have qPo : xw107.heap.size ≠ Po ∧ xw107.heap.size ≠ rb := by have := s108.z; have := s108.inRow; omega
        obtain ⟨qb, hqb⟩ : ∃ q, q = xw107.heap.size := ⟨_, rfl⟩
        rw [← hqb] at hq111 hq111z qlo qPo
        rw [← hqb]
        obtain ⟨xw109, hxw109⟩ : ∃ V, V = xw107.alloc (.cells #[.int .i64 (kk : Nat), .int .i64 (-1), .int .i64 0, .int .i64 ((kk : Int) + 1)] 3) := ⟨_, rfl⟩
        have qrow : ∀ j, j < ts.length → ∀ q, (vs.getD j nilV).ownBlock = some q → q ≠ qb := fun j hj q hq => by have := (s108.pl.dep j hj).row_hi q hq; omega
        rw [← hxw109] at s110 hq111 hq111z
        rw [← hxw109]
        clear hxw109 hqb s108
        refine hTk (i := 15) (d := some 83) (v := .pointer (some ⟨qb, rr, none⟩)) (l' := (bt 22 65535)) rfl (fun _ hc => run_ixI (.tmp 80) (.tmp 82) qb 4 4 rr (by kernel_rfl) (by kernel_rfl) (by kernel_rfl) hrr) s110.box ?_
        refine hOne (by kernel_rfl) (hVal (i := 16) (d := some 84) (v := .int .i64 (x4 kk rr)) (w' := xw109) (l' := (bt 22 131071)) rfl (by kernel_rfl) (by kernel_rfl) (by kernel_rfl) (run_ldIn (.tmp 83) (by kernel_rfl) (by kernel_rfl) (x4_cell hq111 hrr)) s110.box ?_)
        refine hOne (by kernel_rfl) (hVal (i := 17) (d := some 85) (v := .slice (some ⟨xw109.heap.size, 0, none⟩) 1 1) (w' := xw109.alloc (.cells #[.int .i64 (x4 kk rr)] 3)) (l' := (bt 22 262143)) rfl (by kernel_rfl) (by kernel_rfl) (by kernel_rfl) (run_bsI1 (.tmp 84) (x4 kk rr) (by kernel_rfl) (by kernel_rfl)) (s110.alloc (.cells #[.int .i64 (x4 kk rr)] 3)).box ?_)
        have s113 := s110.alloc (.cells #[.int .i64 (x4 kk rr)] 3)
        have own1 : Own (w.heap.size + 2) (xw109.alloc (.cells #[.int .i64 (x4 kk rr)] 3)) 1 (.slice (some ⟨xw109.heap.size, 0, none⟩) 1 1) 1 [.int .i64 (x4 kk rr)] :=
          .inr ⟨_, 0, 1, rfl, OwnC.made xw109 (w.heap.size + 2) 3 1 1 1 _ 1 (by have := s110.z; have := s110.lo; omega) (Nat.le_refl _) (by unfold maxLen; omega) rfl (Nat.le_refl _) _ rfl _ (.inl rfl)⟩
        have src1 : Src Tryd.prog 1 35 _ 1 _ (xw109.alloc (.cells #[.int .i64 (x4 kk rr)] 3)) := own1.src Tryd.underlying35 (by intro x hx; simp only [List.mem_cons, List.not_mem_nil, or_false] at hx; subst hx; rfl)
        obtain ⟨qs, hqs⟩ : ∃ q, q = xw109.heap.size := ⟨_, rfl⟩
        rw [← hqs] at src1
        rw [← hqs]
        obtain ⟨xw112, hxw112⟩ : ∃ V, V = xw109.alloc (.cells #[.int .i64 (x4 kk rr)] 3) := ⟨_, rfl⟩
        rw [← hxw112] at s113 src1
        rw [← hxw112]
        clear hxw112 hqs s110 own1 hq111 hq111z qrow
        obtain ⟨aa, ac, aW, hap, hbx, ⟨v0, hrc⟩, hrf, ts', vs', hl', sE⟩ := s113.appD (x4 kk rr) hkk HDV.out HDL.out src1 (x4_rng (by omega) hrr) hdn
        refine hOne (by kernel_rfl) (hVal (i := 18) (d := some 86) (v := .slice aa (dn + 1) ac) (w' := aW) (l' := (bt 22 524287)) rfl (by kernel_rfl) (by kernel_rfl) (by kernel_rfl) (run_appT (.tmp 76) (.tmp 85) 35 35 35 (by kernel_rfl) (by kernel_rfl) (by kernel_rfl) (by kernel_rfl) hap) hbx ?_)
        clear hap s113 src1
        refine hOne (by kernel_rfl) (hVal (i := 19) (d := some 87) (v := .pointer (some ⟨rb, ro + kk * 3, none⟩)) (w' := aW) (l' := (bt 22 1048575)) rfl (by kernel_rfl) (by kernel_rfl) (by kernel_rfl) (run_ixT (.tmp 69) (.tmp 70) rb ro ts.length rc kk (by kernel_rfl) (by kernel_rfl) (by kernel_rfl) hkk) hbx ?_)
        refine hOne (by kernel_rfl) (hVal (i := 20) (d := some 88) (v := .pointer (some ⟨rb, ro + kk * 3 + 2, none⟩)) (w' := aW) (l' := (bt 22 2097151)) rfl (by kernel_rfl) (by kernel_rfl) (by kernel_rfl) (run_faT2 (.tmp 87) (by kernel_rfl) (by kernel_rfl)) hbx ?_)
        refine hOne (by kernel_rfl) (hSkip (i := 21) (w' := aW.setCell ⟨rb, ro + kk * 3 + 2, none⟩ (.slice aa (dn + 1) ac)) (l' := (bt 22 4194303)) rfl (by kernel_rfl) (by kernel_rfl) (by kernel_rfl) (run_stIs (.tmp 88) (.tmp 86) aa (dn + 1) ac (by kernel_rfl) (by kernel_rfl) (by kernel_rfl) hrc hrf) sE.box ?_)
        obtain ⟨xw114, hxw114⟩ : ∃ V, V = aW.setCell ⟨rb, ro + kk * 3 + 2, none⟩ (.slice aa (dn + 1) ac) := ⟨_, rfl⟩
        rw [← hxw114] at sE
        rw [← hxw114]
        clear hxw114 hrc hrf hbx
        refine wpAnyH_done (by kernel_rfl) ?_ _
        have HF := sE.fin (by omega)
        have p0 := sE.box
        have k0 : xw114.cell? ⟨w.heap.size + 1, 0, none⟩ = some (.slice none 0 0) := (sE.R 0 (by simp)).1
        have f0 : xw114.frozen? ⟨w.heap.size + 1, 0, none⟩ = false := (sE.R 0 (by simp)).2
        have HFF := hid (HF.imp id (fun h => And.intro (h.1.mono (show _ ≤ k + 200 by omega)) h.2))
        clear HF sE
        go_wp2
        exact bodyPost_ret (v := .agg #[(.slice (some ⟨rb, ro, none⟩) ts.length rc)]) (by simp [results, Tryd.results34, go_sem, k0]) rfl HFF.out
      · have s116 := s108.alloc (.cells #[.int .i64 (kk : Nat), .int .i64 (-1), .int .i64 0, .int .i64 ((kk : Int) + 1)] 3)
        have hq117 := CF.made xw107 #[.int .i64 (kk : Nat), .int .i64 (-1), .int .i64 0, .int .i64 ((kk : Int) + 1)] 3
        have hq117z : xw107.heap.size < (xw107.alloc (.cells #[.int .i64 (kk : Nat), .int .i64 (-1), .int .i64 0, .int .i64 ((kk : Int) + 1)] 3)).heap.size := by simp
        have qlo : w.heap.size + 2 < xw107.heap.size := by have := s108.z; have := s108.lo; omega
        have qPo : xw107.heap.size ≠ Po ∧ xw107.heap.size ≠ rb := by have := s108.z; have := s108.inRow; omega
        obtain ⟨qb, hqb⟩ : ∃ q, q = xw107.heap.size := ⟨_, rfl⟩
        rw [← hqb] at hq117 hq117z qlo qPo
        rw [← hqb]
        obtain ⟨xw115, hxw115⟩ : ∃ V, V = xw107.alloc (.cells #[.int .i64 (kk : Nat), .int .i64 (-1), .int .i64 0, .int .i64 ((kk : Int) + 1)] 3) := ⟨_, rfl⟩
        have qrow : ∀ j, j < ts.length → ∀ q, (vs.getD j nilV).ownBlock = some q → q ≠ qb := fun j hj q hq => by have := (s108.pl.dep j hj).row_hi q hq; omega
        rw [← hxw115] at s116 hq117 hq117z
        rw [← hxw115]
        clear hxw115 hqb s108
        refine hTk (i := 15) (d := some 83) (v := .pointer (some ⟨qb, rr, none⟩)) (l' := (bt 22 65279)) rfl (fun _ hc => run_ixI (.tmp 80) (.tmp 82) qb 4 4 rr (by kernel_rfl) (by kernel_rfl) (by kernel_rfl) hrr) s116.box ?_
        refine hTwo (i := 8) (j := 16) (by kernel_rfl) (hVal (i := 8) (d := some 76) (v := .slice da dn dc) (w' := xw115) (l' := (bt 22 65535)) rfl (by kernel_rfl) (by kernel_rfl) (by kernel_rfl) (run_ldIs (.tmp 75) (by kernel_rfl) (by kernel_rfl) (by have := (s116.pl.cell hkk 2 (by omega)).1; rw [HDV.out] at this; exact this)) s116.box ?_) (hVal (i := 16) (d := some 84) (v := .int .i64 (x4 kk rr)) (w' := xw115) (l' := (bt 22 130815)) rfl (by kernel_rfl) (by kernel_rfl) (by kernel_rfl) (run_ldIn (.tmp 83) (by kernel_rfl) (by kernel_rfl) (x4_cell hq117 hrr)) s116.box ?_)
        · refine hOne (by kernel_rfl) (hVal (i := 16) (d := some 84) (v := .int .i64 (x4 kk rr)) (w' := xw115) (l' := (bt 22 131071)) rfl (by kernel_rfl) (by kernel_rfl) (by kernel_rfl) (run_ldIn (.tmp 83) (by kernel_rfl) (by kernel_rfl) (x4_cell hq117 hrr)) s116.box ?_)
          refine hOne (by kernel_rfl) (hVal (i := 17) (d := some 85) (v := .slice (some ⟨xw115.heap.size, 0, none⟩) 1 1) (w' := xw115.alloc (.cells #[.int .i64 (x4 kk rr)] 3)) (l' := (bt 22 262143)) rfl (by kernel_rfl) (by kernel_rfl) (by kernel_rfl) (run_bsI1 (.tmp 84) (x4 kk rr) (by kernel_rfl) (by kernel_rfl)) (s116.alloc (.cells #[.int .i64 (x4 kk rr)] 3)).box ?_)
          have s119 := s116.alloc (.cells #[.int .i64 (x4 kk rr)] 3)
          have own1 : Own (w.heap.size + 2) (xw115.alloc (.cells #[.int .i64 (x4 kk rr)] 3)) 1 (.slice (some ⟨xw115.heap.size, 0, none⟩) 1 1) 1 [.int .i64 (x4 kk rr)] :=
            .inr ⟨_, 0, 1, rfl, OwnC.made xw115 (w.heap.size + 2) 3 1 1 1 _ 1 (by have := s116.z; have := s116.lo; omega) (Nat.le_refl _) (by unfold maxLen; omega) rfl (Nat.le_refl _) _ rfl _ (.inl rfl)⟩
          have src1 : Src Tryd.prog 1 35 _ 1 _ (xw115.alloc (.cells #[.int .i64 (x4 kk rr)] 3)) := own1.src Tryd.underlying35 (by intro x hx; simp only [List.mem_cons, List.not_mem_nil, or_false] at hx; subst hx; rfl)
          obtain ⟨qs, hqs⟩ : ∃ q, q = xw115.heap.size := ⟨_, rfl⟩
          rw [← hqs] at src1
          rw [← hqs]
          obtain ⟨xw118, hxw118⟩ : ∃ V, V = xw115.alloc (.cells #[.int .i64 (x4 kk rr)] 3) := ⟨_, rfl⟩
          rw [← hxw118] at s119 src1
          rw [← hxw118]
          clear hxw118 hqs s116 own1 hq117 hq117z qrow
          obtain ⟨aa, ac, aW, hap, hbx, ⟨v0, hrc⟩, hrf, ts', vs', hl', sE⟩ := s119.appD (x4 kk rr) hkk HDV.out HDL.out src1 (x4_rng (by omega) hrr) hdn
          refine hOne (by kernel_rfl) (hVal (i := 18) (d := some 86) (v := .slice aa (dn + 1) ac) (w' := aW) (l' := (bt 22 524287)) rfl (by kernel_rfl) (by kernel_rfl) (by kernel_rfl) (run_appT (.tmp 76) (.tmp 85) 35 35 35 (by kernel_rfl) (by kernel_rfl) (by kernel_rfl) (by kernel_rfl) hap) hbx ?_)
          clear hap s119 src1
          refine hOne (by kernel_rfl) (hVal (i := 19) (d := some 87) (v := .pointer (some ⟨rb, ro + kk * 3, none⟩)) (w' := aW) (l' := (bt 22 1048575)) rfl (by kernel_rfl) (by kernel_rfl) (by kernel_rfl) (run_ixT (.tmp 69) (.tmp 70) rb ro ts.length rc kk (by kernel_rfl) (by kernel_rfl) (by kernel_rfl) hkk) hbx ?_)
          refine hOne (by kernel_rfl) (hVal (i := 20) (d := some 88) (v := .pointer (some ⟨rb, ro + kk * 3 + 2, none⟩)) (w' := aW) (l' := (bt 22 2097151)) rfl (by kernel_rfl) (by kernel_rfl) (by kernel_rfl) (run_faT2 (.tmp 87) (by kernel_rfl) (by kernel_rfl)) hbx ?_)
          refine hOne (by kernel_rfl) (hSkip (i := 21) (w' := aW.setCell ⟨rb, ro + kk * 3 + 2, none⟩ (.slice aa (dn + 1) ac)) (l' := (bt 22 4194303)) rfl (by kernel_rfl) (by kernel_rfl) (by kernel_rfl) (run_stIs (.tmp 88) (.tmp 86) aa (dn + 1) ac (by kernel_rfl) (by kernel_rfl) (by kernel_rfl) hrc hrf) sE.box ?_)
          obtain ⟨xw120, hxw120⟩ : ∃ V, V = aW.setCell ⟨rb, ro + kk * 3 + 2, none⟩ (.slice aa (dn + 1) ac) := ⟨_, rfl⟩
          rw [← hxw120] at sE
          rw [← hxw120]
          clear hxw120 hrc hrf hbx
          refine wpAnyH_done (by kernel_rfl) ?_ _
          have HF := sE.fin (by omega)
          have p0 := sE.box
          have k0 : xw120.cell? ⟨w.heap.size + 1, 0, none⟩ = some (.slice none 0 0) := (sE.R 0 (by simp)).1
          have f0 : xw120.frozen? ⟨w.heap.size + 1, 0, none⟩ = false := (sE.R 0 (by simp)).2
          have HFF := hid (HF.imp id (fun h => And.intro (h.1.mono (show _ ≤ k + 200 by omega)) h.2))
          clear HF sE
          go_wp2
          exact bodyPost_ret (v := .agg #[(.slice (some ⟨rb, ro, none⟩) ts.length rc)]) (by simp [results, Tryd.results34, go_sem, k0]) rfl HFF.out
        · refine hTwo (i := 8) (j := 17) (by kernel_rfl) (hVal (i := 8) (d := some 76) (v := .slice da dn dc) (w' := xw115) (l' := (bt 22 131071)) rfl (by kernel_rfl) (by kernel_rfl) (by kernel_rfl) (run_ldIs (.tmp 75) (by kernel_rfl) (by kernel_rfl) (by have := (s116.pl.cell hkk 2 (by omega)).1; rw [HDV.out] at this; exact this)) s116.box ?_) (hVal (i := 17) (d := some 85) (v := .slice (some ⟨xw115.heap.size, 0, none⟩) 1 1) (w' := xw115.alloc (.cells #[.int .i64 (x4 kk rr)] 3)) (l' := (bt 22 261887)) rfl (by kernel_rfl) (by kernel_rfl) (by kernel_rfl) (run_bsI1 (.tmp 84) (x4 kk rr) (by kernel_rfl) (by kernel_rfl)) (s116.alloc (.cells #[.int .i64 (x4 kk rr)] 3)).box ?_)
          · refine hOne (by kernel_rfl) (hVal (i := 17) (d := some 85) (v := .slice (some ⟨xw115.heap.size, 0, none⟩) 1 1) (w' := xw115.alloc (.cells #[.int .i64 (x4 kk rr)] 3)) (l' := (bt 22 262143)) rfl (by kernel_rfl) (by kernel_rfl) (by kernel_rfl) (run_bsI1 (.tmp 84) (x4 kk rr) (by kernel_rfl) (by kernel_rfl)) (s116.alloc (.cells #[.int .i64 (x4 kk rr)] 3)).box ?_)
            have s122 := s116.alloc (.cells #[.int .i64 (x4 kk rr)] 3)
            have own1 : Own (w.heap.size + 2) (xw115.alloc (.cells #[.int .i64 (x4 kk rr)] 3)) 1 (.slice (some ⟨xw115.heap.size, 0, none⟩) 1 1) 1 [.int .i64 (x4 kk rr)] :=
              .inr ⟨_, 0, 1, rfl, OwnC.made xw115 (w.heap.size + 2) 3 1 1 1 _ 1 (by have := s116.z; have := s116.lo; omega) (Nat.le_refl _) (by unfold maxLen; omega) rfl (Nat.le_refl _) _ rfl _ (.inl rfl)⟩
            have src1 : Src Tryd.prog 1 35 _ 1 _ (xw115.alloc (.cells #[.int .i64 (x4 kk rr)] 3)) := own1.src Tryd.underlying35 (by intro x hx; simp only [List.mem_cons, List.not_mem_nil, or_false] at hx; subst hx; rfl)
            obtain ⟨qs, hqs⟩ : ∃ q, q = xw115.heap.size := ⟨_, rfl⟩
            rw [← hqs] at src1
            rw [← hqs]
            obtain ⟨xw121, hxw121⟩ : ∃ V, V = xw115.alloc (.cells #[.int .i64 (x4 kk rr)] 3) := ⟨_, rfl⟩
            rw [← hxw121] at s122 src1
            rw [← hxw121]
            clear hxw121 hqs s116 own1 hq117 hq117z qrow
            obtain ⟨aa, ac, aW, hap, hbx, ⟨v0, hrc⟩, hrf, ts', vs', hl', sE⟩ := s122.appD (x4 kk rr) hkk HDV.out HDL.out src1 (x4_rng (by omega) hrr) hdn
            refine hOne (by kernel_rfl) (hVal (i := 18) (d := some 86) (v := .slice aa (dn + 1) ac) (w' := aW) (l' := (bt 22 524287)) rfl (by kernel_rfl) (by kernel_rfl) (by kernel_rfl) (run_appT (.tmp 76) (.tmp 85) 35 35 35 (by kernel_rfl) (by kernel_rfl) (by kernel_rfl) (by kernel_rfl) hap) hbx ?_)
            clear hap s122 src1
            refine hOne (by kernel_rfl) (hVal (i := 19) (d := some 87) (v := .pointer (some ⟨rb, ro + kk * 3, none⟩)) (w' := aW) (l' := (bt 22 1048575)) rfl (by kernel_rfl) (by kernel_rfl) (by kernel_rfl) (run_ixT (.tmp 69) (.tmp 70) rb ro ts.length rc kk (by kernel_rfl) (by kernel_rfl) (by kernel_rfl) hkk) hbx ?_)
            refine hOne (by kernel_rfl) (hVal (i := 20) (d := some 88) (v := .pointer (some ⟨rb, ro + kk * 3 + 2, none⟩)) (w' := aW) (l' := (bt 22 2097151)) rfl (by kernel_rfl) (by kernel_rfl) (by kernel_rfl) (run_faT2 (.tmp 87) (by kernel_rfl) (by kernel_rfl)) hbx ?_)
            refine hOne (by kernel_rfl) (hSkip (i := 21) (w' := aW.setCell ⟨rb, ro + kk * 3 + 2, none⟩ (.slice aa (dn + 1) ac)) (l' := (bt 22 4194303)) rfl (by kernel_rfl) (by kernel_rfl) (by kernel_rfl) (run_stIs (.tmp 88) (.tmp 86) aa (dn + 1) ac (by kernel_rfl) (by kernel_rfl) (by kernel_rfl) hrc hrf) sE.box ?_)
            obtain ⟨xw123, hxw123⟩ : ∃ V, V = aW.setCell ⟨rb, ro + kk * 3 + 2, none⟩ (.slice aa (dn + 1) ac) := ⟨_, rfl⟩
            rw [← hxw123] at sE
            rw [← hxw123]
            clear hxw123 hrc hrf hbx
            refine wpAnyH_done (by kernel_rfl) ?_ _
            have HF := sE.fin (by omega)
            have p0 := sE.box
            have k0 : xw123.cell? ⟨w.heap.size + 1, 0, none⟩ = some (.slice none 0 0) := (sE.R 0 (by simp)).1
            have f0 : xw123.frozen? ⟨w.heap.size + 1, 0, none⟩ = false := (sE.R 0 (by simp)).2
            have HFF := hid (HF.imp id (fun h => And.intro (h.1.mono (show _ ≤ k + 200 by omega)) h.2))
            clear HF sE
            go_wp2
            exact bodyPost_ret (v := .agg #[(.slice (some ⟨rb, ro, none⟩) ts.length rc)]) (by simp [results, Tryd.results34, go_sem, k0]) rfl HFF.out
          · have s125 := s116.alloc (.cells #[.int .i64 (x4 kk rr)] 3)
            have own1 : Own (w.heap.size + 2) (xw115.alloc (.cells #[.int .i64 (x4 kk rr)] 3)) 1 (.slice (some ⟨xw115.heap.size, 0, none⟩) 1 1) 1 [.int .i64 (x4 kk rr)] :=
              .inr ⟨_, 0, 1, rfl, OwnC.made xw115 (w.heap.size + 2) 3 1 1 1 _ 1 (by have := s116.z; have := s116.lo; omega) (Nat.le_refl _) (by unfold maxLen; omega) rfl (Nat.le_refl _) _ rfl _ (.inl rfl)⟩
            have src1 : Src Tryd.prog 1 35 _ 1 _ (xw115.alloc (.cells #[.int .i64 (x4 kk rr)] 3)) := own1.src Tryd.underlying35 (by intro x hx; simp only [List.mem_cons, List.not_mem_nil, or_false] at hx; subst hx; rfl)
            obtain ⟨qs, hqs⟩ : ∃ q, q = xw115.heap.size := ⟨_, rfl⟩
            rw [← hqs] at src1
            rw [← hqs]
            obtain ⟨xw124, hxw124⟩ : ∃ V, V = xw115.alloc (.cells #[.int .i64 (x4 kk rr)] 3) := ⟨_, rfl⟩
            rw [← hxw124] at s125 src1
            rw [← hxw124]
            clear hxw124 hqs s116 own1 hq117 hq117z qrow
            refine hOne (by kernel_rfl) (hVal (i := 8) (d := some 76) (v := .slice da dn dc) (w' := xw124) (l' := (bt 22 262143)) rfl (by kernel_rfl) (by kernel_rfl) (by kernel_rfl) (run_ldIs (.tmp 75) (by kernel_rfl) (by kernel_rfl) (by have := (s125.pl.cell hkk 2 (by omega)).1; rw [HDV.out] at this; exact this)) s125.box ?_)
            obtain ⟨aa, ac, aW, hap, hbx, ⟨v0, hrc⟩, hrf, ts', vs', hl', sE⟩ := s125.appD (x4 kk rr) hkk HDV.out HDL.out src1 (x4_rng (by omega) hrr) hdn
            refine hOne (by kernel_rfl) (hVal (i := 18) (d := some 86) (v := .slice aa (dn + 1) ac) (w' := aW) (l' := (bt 22 524287)) rfl (by kernel_rfl) (by kernel_rfl) (by kernel_rfl) (run_appT (.tmp 76) (.tmp 85) 35 35 35 (by kernel_rfl) (by kernel_rfl) (by kernel_rfl) (by kernel_rfl) hap) hbx ?_)
            clear hap s125 src1
            refine hOne (by kernel_rfl) (hVal (i := 19) (d := some 87) (v := .pointer (some ⟨rb, ro + kk * 3, none⟩)) (w' := aW) (l' := (bt 22 1048575)) rfl (by kernel_rfl) (by kernel_rfl) (by kernel_rfl) (run_ixT (.tmp 69) (.tmp 70) rb ro ts.length rc kk (by kernel_rfl) (by kernel_rfl) (by kernel_rfl) hkk) hbx ?_)
            refine hOne (by kernel_rfl) (hVal (i := 20) (d := some 88) (v := .pointer (some ⟨rb, ro + kk * 3 + 2, none⟩)) (w' := aW) (l' := (bt 22 2097151)) rfl (by kernel_rfl) (by kernel_rfl) (by kernel_rfl) (run_faT2 (.tmp 87) (by kernel_rfl) (by kernel_rfl)) hbx ?_)
            refine hOne (by kernel_rfl) (hSkip (i := 21) (w' := aW.setCell ⟨rb, ro + kk * 3 + 2, none⟩ (.slice aa (dn + 1) ac)) (l' := (bt 22 4194303)) rfl (by kernel_rfl) (by kernel_rfl) (by kernel_rfl) (run_stIs (.tmp 88) (.tmp 86) aa (dn + 1) ac (by kernel_rfl) (by kernel_rfl) (by kernel_rfl) hrc hrf) sE.box ?_)
            obtain ⟨xw126, hxw126⟩ : ∃ V, V = aW.setCell ⟨rb, ro + kk * 3 + 2, none⟩ (.slice aa (dn + 1) ac) := ⟨_, rfl⟩
            rw [← hxw126] at sE
            rw [← hxw126]
            clear hxw126 hrc hrf hbx
            refine wpAnyH_done (by kernel_rfl) ?_ _
            have HF := sE.fin (by omega)
            have p0 := sE.box
            have k0 : xw126.cell? ⟨w.heap.size + 1, 0, none⟩ = some (.slice none 0 0) := (sE.R 0 (by simp)).1
            have f0 : xw126.frozen? ⟨w.heap.size + 1, 0, none⟩ = false := (sE.R 0 (by simp)).2
            have HFF := hid (HF.imp id (fun h => And.intro (h.1.mono (show _ ≤ k + 200 by omega)) h.2))
            clear HF sE
            go_wp2
            exact bodyPost_ret (v := .agg #[(.slice (some ⟨rb, ro, none⟩) ts.length rc)]) (by simp [results, Tryd.results34, go_sem, k0]) rfl HFF.out
  · go_upto_region 14 with fail
    have sA := S4.alloc (.cells #[] 37)
    have c5 := sA.box
    have f5 := (sA.P 0 (by simp)).2
    have z4 := S4.z
    have l4 := S4.lo
    have s5 : SP w g Po (.slice (some ⟨w4.heap.size, 0, none⟩) 0 0) [] [] (k + 2) ((w4.alloc (.cells #[] 37)).setCell ⟨Po, 0, none⟩ (.slice (some ⟨w4.heap.size, 0, none⟩) 0 0)) :=
      sA.newP (Below.refl _ _) rfl ⟨rfl, .inr ⟨_, 0, 0, rfl, OwnC.made w4 (w.heap.size + 2) 37 3 0 0 _ 0 (by omega) (Nat.le_refl _) (by unfold maxLen; omega) rfl (Nat.le_refl _) _ rfl _ (.inl rfl)⟩, fun j hj => absurd hj (by simp), fun j hj => absurd hj (by simp), fun i j _ hj => absurd hj (by simp)⟩ (fun j hj => absurd hj (by simp)) (.inr (by simp [Value.ownBlock]; omega)) (fun j hj => absurd hj (by simp))
    have hcm : (w4.alloc (.cells #[] 37)).setCell ⟨Po, 0, none⟩ (.slice (some ⟨w4.heap.size, 0, none⟩) 0 0) = (w4.setCell ⟨Po, 0, none⟩ (.slice (some ⟨w4.heap.size, 0, none⟩) 0 0)).alloc (.cells #[] 37) := by
      simp [go_sem, z4]
    rw [hcm] at s5
    obtain ⟨w5, hw5⟩ : ∃ V, V = (w4.setCell ⟨Po, 0, none⟩ (.slice (some ⟨w4.heap.size, 0, none⟩) 0 0)).alloc (.cells #[] 37) := ⟨_, rfl⟩
    rw [← hw5] at s5
    have HW5 := hid hw5
    clear hw5 S4 sA hcm
    go_upto_region 26 with fail
    rw [← HW5.out]
    clear HW5 c5 f5
    have HF := s5.fin (by simp)
    have p0 := s5.box
    have k0 : w5.cell? ⟨w.heap.size + 1, 0, none⟩ = some (.slice none 0 0) := (s5.R 0 (by simp)).1
    have f0 : w5.frozen? ⟨w.heap.size + 1, 0, none⟩ = false := (s5.R 0 (by simp)).2
    have HFF := hid (HF.imp id (fun h => And.intro (h.1.mono (show _ ≤ k + 200 by omega)) h.2))
    clear HF s5
    go_wp2
    exact bodyPost_ret (v := .agg #[(.slice (some ⟨w4.heap.size, 0, none⟩) 0 0)]) (by simp [results, Tryd.results34, go_sem, k0]) rfl HFF.out
  · go_upto_region 16 with fail
    have HS4 := hid S4
    clear S4
    go_wp2
    go_loopw [7] (fun x wr => ∃ i : Nat, i ≤ 41 ∧ x = .int .i64 i ∧ ∃ (la : Option Addr) (lc : Nat) (tsn : List TaskD) (vsn : List Value), tsn.length = ts.length + i ∧ tsn.length ≤ 41 ∧ SP w g Po (.slice la tsn.length lc) tsn vsn (k + 2 + i) wr) (fun x _ => 42 - (intOf x).toNat)
    case atStart => exact ⟨0, by omega, rfl, _, _, ts, vs, rfl, by omega, HS4.out⟩
    case round =>
      clear HS4
      obtain ⟨i, hi, rfl, la, lc, tsn, vsn, hln, hl41, SL⟩ := hrel
      have HLN := hid hln
      have hi40 : i ≤ 40 := by omega
      clear hln
      go_upto_region 17 with fail
      refine wp_region_held (S := fun w' => w'.cell? ⟨Po, 0, none⟩ = some (.slice la tsn.length lc)) (by kernel_rfl) ?_
      change wpAnyH _ _ _ _ _ _ _ _ (World.drew _)
      have s0 := SL.drew
      obtain ⟨x0, hx0⟩ : ∃ U, U = wr.drew := ⟨_, rfl⟩
      rw [← hx0] at s0
      rw [← hx0]
      clear hx0 SL
      refine hTk (i := 0) (d := some 95) (v := .pointer (some ⟨Po, 0, none⟩)) (l' := (bt 7 1)) rfl (fun _ hc => run_faP (.tmp 5) (by kernel_rfl) (by kernel_rfl)) s0.box ?_
      refine hTk (i := 1) (d := some 96) (v := (.slice la tsn.length lc)) (l' := (bt 7 3)) rfl (fun _ hc => run_ldTs (.tmp 95) (by kernel_rfl) (by kernel_rfl) hc) s0.box ?_
      refine hTk (i := 2) (d := some 97) (v := .int .i64 (tsn.length : Nat)) (l' := (bt 7 7)) rfl (fun _ hc => run_lenT (.tmp 96) la tsn.length lc (by kernel_rfl) (by kernel_rfl)) s0.box ?_
      refine hTk (i := 3) (d := some 98) (v := .pointer (some ⟨g, 0, none⟩)) (l' := (bt 7 15)) rfl (fun _ hc => run_mvD (.tmp 0) (by kernel_rfl) (by kernel_rfl)) s0.box ?_
      refine hOne (by kernel_rfl) (hCall (i := 4) (d := some 99) (f := 32) (args := #[.pointer (some ⟨g, 0, none⟩), .int .i64 2]) (l' := (bt 7 31)) (R := fun v w' => (∃ r : Nat, r < 2 ∧ v = .int .i64 r) ∧ RD w' g (k + 2 + i + 1) ∧ x0.grownBy w' (some g)) rfl (by kernel_rfl) (by kernel_rfl) (by kernel_rfl) (run_cl2 _ _ _ rfl (by kernel_rfl) (by kernel_rfl) rfl enter_pick) ((pick_any g 2 (k + 2 + i) x0 s0.rd (by omega) (by omega) (by omega)).mono fun e w' ⟨⟨r, hr, he⟩, h1, h2⟩ => ⟨_, he, ⟨r, hr, rfl⟩, h1, h2⟩) ?_)
      rintro _ xw127 ⟨⟨rr, hrr, rfl⟩, hrd, hgg⟩
      have s128 := s0.call hrd hgg
      clear hrd hgg s0
      refine ⟨s128.box, ?_⟩
      refine hTk (i := 5) (d := some 100) (v := .int .i64 (40 + (rr : Int))) (l' := (bt 7 63)) rfl (fun _ hc => run_addII (.const (.int .i64 40)) (.tmp 99) 40 (rr : Int) (by kernel_rfl) (by kernel_rfl) (by kernel_rfl) (by omega)) s128.box ?_
      refine hTk (i := 6) (d := some 101) (v := .bool (decide ((tsn.length : Int) < 40 + (rr : Int)))) (l' := (bt 7 127)) rfl (fun _ hc => run_lssI (.tmp 97) (.tmp 100) (tsn.length : Int) (40 + (rr : Int)) (by kernel_rfl) (by kernel_rfl) (by kernel_rfl)) s128.box ?_
      refine wpAnyH_done (by kernel_rfl) ?_ _
      by_cases hlt : tsn.length < 40 + rr
      · have hlt' : (tsn.length : Int) < 40 + (rr : Int) := by omega
        have hdt : decide ((tsn.length : Int) < 40 + (rr : Int)) = true := decide_eq_true hlt'
        go_upto_if 101 with fail
        refine wp_cond_true (Eq.trans (b := Value.bool (decide ((tsn.length : Int) < 40 + (rr : Int)))) (by kernel_rfl) (by rw [hdt])) ?_
        clear hdt hlt'
        go_upto_region 19 with fail
        refine wp_region_held (S := fun _ => True) (by kernel_rfl) ?_
        change wpAnyH _ _ _ _ _ _ _ _ (World.drew _)
        have s0 := s128.drew
        obtain ⟨x0, hx0⟩ : ∃ U, U = xw127.drew := ⟨_, rfl⟩
        rw [← hx0] at s0
        rw [← hx0]
        clear hx0 s128
        refine hTk (i := 0) (d := some 104) (v := .pointer (some ⟨Po, 0, none⟩)) (l' := (bt 10 1)) rfl (fun _ hc => run_faP (.tmp 5) (by kernel_rfl) (by kernel_rfl)) trivial ?_
        refine hTk (i := 2) (d := some 106) (v := .int .i64 (i : Nat)) (l' := (bt 10 5)) rfl (fun _ hc => run_mvD (.tmp 7) (by kernel_rfl) (by kernel_rfl)) trivial ?_
        refine hTwo (i := 1) (j := 3) (by kernel_rfl) (hVal (i := 1) (d := some 105) (v := (.slice la tsn.length lc)) (w' := x0) (l' := (bt 10 7)) rfl (by kernel_rfl) (by kernel_rfl) (by kernel_rfl) (run_ldTs (.tmp 104) (by kernel_rfl) (by kernel_rfl) s0.box) trivial ?_) (hCall (i := 3) (d := some 107) (f := 44) (args := #[.int .i64 (i : Nat)]) (l' := (bt 10 13)) (R := fun v w' => (∃ t : ByteArray, v = .string t ∧ t.size ≤ 2) ∧ Below x0.heap.size x0 w') rfl (by kernel_rfl) (by kernel_rfl) (by kernel_rfl) (run_cl1 _ _ rfl (by kernel_rfl) rfl enter_l1Dec) ((l1Dec_2 i x0 (by omega)).mono fun e w' ⟨⟨t, he, ht⟩, hb⟩ => ⟨_, he, ⟨t, rfl, ht⟩, hb⟩) ?_)
        · refine hOne (by kernel_rfl) (hCall (i := 3) (d := some 107) (f := 44) (args := #[.int .i64 (i : Nat)]) (l' := (bt 10 15)) (R := fun v w' => (∃ t : ByteArray, v = .string t ∧ t.size ≤ 2) ∧ Below x0.heap.size x0 w') rfl (by kernel_rfl) (by kernel_rfl) (by kernel_rfl) (run_cl1 _ _ rfl (by kernel_rfl) rfl enter_l1Dec) ((l1Dec_2 i x0 (by omega)).mono fun e w' ⟨⟨t, he, ht⟩, hb⟩ => ⟨_, he, ⟨t, rfl, ht⟩, hb⟩) ?_)
          rintro _ xw129 ⟨⟨yd, rfl, hyd⟩, hbb⟩
          have s130 := s0.below hbb
          clear hbb s0
          refine ⟨trivial, ?_⟩
          refine hTk (i := 4) (d := some 108) (v := .string (⟨#[120]⟩ ++ yd)) (l' := (bt 10 31)) rfl (fun _ hc => run_addSS (.const (.string ⟨#[120]⟩)) (.tmp 107) ⟨#[120]⟩ yd (by kernel_rfl) (by kernel_rfl) (by kernel_rfl) (by have : (⟨#[120]⟩ : ByteArray).size = 1 := rfl; omega)) trivial ?_
          refine hTk (i := 5) (d := some 109) (v := .agg #[.string (⟨#[120]⟩ ++ yd), .int .i64 1, .slice none 0 0]) (l' := (bt 10 63)) rfl (fun _ hc => run_bT2 (.tmp 108) (.const (.int .i64 1)) (⟨#[120]⟩ ++ yd) 1 (by kernel_rfl) (by kernel_rfl) (by kernel_rfl)) trivial ?_
          refine hOne (by kernel_rfl) (hVal (i := 6) (d := some 110) (v := .slice (some ⟨xw129.heap.size, 0, none⟩) 1 1) (w' := xw129.alloc (.cells #[.string (⟨#[120]⟩ ++ yd), .int .i64 1, .slice none 0 0] 37)) (l' := (bt 10 127)) rfl (by kernel_rfl) (by kernel_rfl) (by kernel_rfl) (run_bsT (.tmp 109) (⟨#[120]⟩ ++ yd) 1 none 0 0 (by kernel_rfl) (by kernel_rfl)) trivial ?_)
          have s132 := s130.alloc (.cells #[.string (⟨#[120]⟩ ++ yd), .int .i64 1, .slice none 0 0] 37)
          have own1 : Own (w.heap.size + 2) (xw129.alloc (.cells #[.string (⟨#[120]⟩ ++ yd), .int .i64 1, .slice none 0 0] 37)) 3 (.slice (some ⟨xw129.heap.size, 0, none⟩) 1 1) 1 [.string (⟨#[120]⟩ ++ yd), .int .i64 1, .slice none 0 0] :=
            .inr ⟨_, 0, 1, rfl, OwnC.made xw129 (w.heap.size + 2) 37 3 1 1 _ 3 (by have := s130.z; have := s130.lo; omega) (Nat.le_refl _) (by unfold maxLen; omega) rfl (Nat.le_refl _) _ rfl _ (.inl rfl)⟩
          have src1 : Src Tryd.prog 3 26 _ 1 _ (xw129.alloc (.cells #[.string (⟨#[120]⟩ ++ yd), .int .i64 1, .slice none 0 0] 37)) := own1.src Tryd.underlying26 (by intro x hx; simp only [List.mem_cons, List.not_mem_nil, or_false] at hx; rcases hx with rfl | rfl | rfl <;> rfl)
          obtain ⟨qs, hqs⟩ : ∃ q, q = xw129.heap.size := ⟨_, rfl⟩
          rw [← hqs] at src1
          rw [← hqs]
          obtain ⟨xw131, hxw131⟩ : ∃ V, V = xw129.alloc (.cells #[.string (⟨#[120]⟩ ++ yd), .int .i64 1, .slice none 0 0] 37) := ⟨_, rfl⟩
          rw [← hxw131] at s132 src1
          rw [← hxw131]
          clear hxw131 hqs s130 own1
          obtain ⟨va, vc, aW, hap, hpc, hpf, sE⟩ := s132.appT (⟨#[120]⟩ ++ yd) 1 src1 (by omega) (by rw [ByteArray.size_append]; have : (⟨#[120]⟩ : ByteArray).size = 1 := rfl; omega) (by omega)
          refine hOne (by kernel_rfl) (hVal (i := 7) (d := some 111) (v := .slice va (tsn.length + 1) vc) (w' := aW) (l' := (bt 10 255)) rfl (by kernel_rfl) (by kernel_rfl) (by kernel_rfl) (run_appT (.tmp 105) (.tmp 110) 26 26 26 (by kernel_rfl) (by kernel_rfl) (by kernel_rfl) (by kernel_rfl) hap) trivial ?_)
          clear hap s132 src1
          refine hTk (i := 8) (d := some 112) (v := .pointer (some ⟨Po, 0, none⟩)) (l' := (bt 10 511)) rfl (fun _ hc => run_faP (.tmp 5) (by kernel_rfl) (by kernel_rfl)) trivial ?_
          refine hOne (by kernel_rfl) (hSkip (i := 9) (w' := aW.setCell ⟨Po, 0, none⟩ (.slice va (tsn.length + 1) vc)) (l' := (bt 10 1023)) rfl (by kernel_rfl) (by kernel_rfl) (by kernel_rfl) (run_stTs (.tmp 112) (.tmp 111) (by kernel_rfl) (by kernel_rfl) (by kernel_rfl) hpc hpf) trivial ?_)
          obtain ⟨xw133, hxw133⟩ : ∃ V, V = aW.setCell ⟨Po, 0, none⟩ (.slice va (tsn.length + 1) vc) := ⟨_, rfl⟩
          rw [← hxw133] at sE
          rw [← hxw133]
          clear hxw133 hpc hpf
          refine wpAnyH_done (by kernel_rfl) ?_ _
          have HSE := hid sE
          clear sE
          go_wp2
          go_roundw
          case rel => exact ⟨i + 1, by omega, by go_num, va, vc, tsn ++ [⟨⟨#[120]⟩ ++ yd, 1, []⟩], vsn ++ [.slice none 0 0], by rw [List.length_append, List.length_singleton, HLN.out]; omega, by rw [List.length_append, List.length_singleton]; omega, by rw [List.length_append, List.length_singleton]; exact HSE.out.more (by omega)⟩
          case measure => simp [intOf]; omega
        · rintro _ xw134 ⟨⟨yd, rfl, hyd⟩, hbb⟩
          have s135 := s0.below hbb
          clear hbb s0
          refine ⟨trivial, ?_⟩
          refine hTk (i := 4) (d := some 108) (v := .string (⟨#[120]⟩ ++ yd)) (l' := (bt 10 29)) rfl (fun _ hc => run_addSS (.const (.string ⟨#[120]⟩)) (.tmp 107) ⟨#[120]⟩ yd (by kernel_rfl) (by kernel_rfl) (by kernel_rfl) (by have : (⟨#[120]⟩ : ByteArray).size = 1 := rfl; omega)) trivial ?_
          refine hTk (i := 5) (d := some 109) (v := .agg #[.string (⟨#[120]⟩ ++ yd), .int .i64 1, .slice none 0 0]) (l' := (bt 10 61)) rfl (fun _ hc => run_bT2 (.tmp 108) (.const (.int .i64 1)) (⟨#[120]⟩ ++ yd) 1 (by kernel_rfl) (by kernel_rfl) (by kernel_rfl)) trivial ?_
          refine hTwo (i := 1) (j := 6) (by kernel_rfl) (hVal (i := 1) (d := some 105) (v := (.slice la tsn.length lc)) (w' := xw134) (l' := (bt 10 63)) rfl (by kernel_rfl) (by kernel_rfl) (by kernel_rfl) (run_ldTs (.tmp 104) (by kernel_rfl) (by kernel_rfl) s135.box) trivial ?_) (hVal (i := 6) (d := some 110) (v := .slice (some ⟨xw134.heap.size, 0, none⟩) 1 1) (w' := xw134.alloc (.cells #[.string (⟨#[120]⟩ ++ yd), .int .i64 1, .slice none 0 0] 37)) (l' := (bt 10 125)) rfl (by kernel_rfl) (by kernel_rfl) (by kernel_rfl) (run_bsT (.tmp 109) (⟨#[120]⟩ ++ yd) 1 none 0 0 (by kernel_rfl) (by kernel_rfl)) trivial ?_)
          · refine hOne (by kernel_rfl) (hVal (i := 6) (d := some 110) (v := .slice (some ⟨xw134.heap.size, 0, none⟩) 1 1) (w' := xw134.alloc (.cells #[.string (⟨#[120]⟩ ++ yd), .int .i64 1, .slice none 0 0] 37)) (l' := (bt 10 127)) rfl (by kernel_rfl) (by kernel_rfl) (by kernel_rfl) (run_bsT (.tmp 109) (⟨#[120]⟩ ++ yd) 1 none 0 0 (by kernel_rfl) (by kernel_rfl)) trivial ?_)
            have s137 := s135.alloc (.cells #[.string (⟨#[120]⟩ ++ yd), .int .i64 1, .slice none 0 0] 37)
            have own1 : Own (w.heap.size + 2) (xw134.alloc (.cells #[.string (⟨#[120]⟩ ++ yd), .int .i64 1, .slice none 0 0] 37)) 3 (.slice (some ⟨xw134.heap.size, 0, none⟩) 1 1) 1 [.string (⟨#[120]⟩ ++ yd), .int .i64 1, .slice none 0 0] :=
              .inr ⟨_, 0, 1, rfl, OwnC.made xw134 (w.heap.size + 2) 37 3 1 1 _ 3 (by have := s135.z; have := s135.lo; omega) (Nat.le_refl _) (by unfold maxLen; omega) rfl (Nat.le_refl _) _ rfl _ (.inl rfl)⟩
            have src1 : Src Tryd.prog 3 26 _ 1 _ (xw134.alloc (.cells #[.string (⟨#[120]⟩ ++ yd), .int .i64 1, .slice none 0 0] 37)) := own1.src Tryd.underlying26 (by intro x hx; simp only [List.mem_cons, List.not_mem_nil, or_false] at hx; rcases hx with rfl | rfl | rfl <;> rfl)
            obtain ⟨qs, hqs⟩ : ∃ q, q = xw134.heap.size := ⟨_, rfl⟩
            rw [← hqs] at src1
            rw [← hqs]
            obtain ⟨xw136, hxw136⟩ : ∃ V, V = xw134.alloc (.cells #[.string (⟨#[120]⟩ ++ yd), .int .i64 1, .slice none 0 0] 37) := ⟨_, rfl⟩
            rw [← hxw136] at s137 src1
            rw [← hxw136]
            clear hxw136 hqs s135 own1
            obtain ⟨va, vc, aW, hap, hpc, hpf, sE⟩ := s137.appT (⟨#[120]⟩ ++ yd) 1 src1 (by omega) (by rw [ByteArray.size_append]; have : (⟨#[120]⟩ : ByteArray).size = 1 := rfl; omega) (by omega)
            refine hOne (by kernel_rfl) (hVal (i := 7) (d := some 111) (v := .slice va (tsn.length + 1) vc) (w' := aW) (l' := (bt 10 255)) rfl (by kernel_rfl) (by kernel_rfl) (by kernel_rfl) (run_appT (.tmp 105) (.tmp 110) 26 26 26 (by kernel_rfl) (by kernel_rfl) (by kernel_rfl) (by kernel_rfl) hap) trivial ?_)
            clear hap s137 src1
            refine hTk (i := 8) (d := some 112) (v := .pointer (some ⟨Po, 0, none⟩)) (l' := (bt 10 511)) rfl (fun _ hc => run_faP (.tmp 5) (by kernel_rfl) (by kernel_rfl)) trivial ?_
            refine hOne (by kernel_rfl) (hSkip (i := 9) (w' := aW.setCell ⟨Po, 0, none⟩ (.slice va (tsn.length + 1) vc)) (l' := (bt 10 1023)) rfl (by kernel_rfl) (by kernel_rfl) (by kernel_rfl) (run_stTs (.tmp 112) (.tmp 111) (by kernel_rfl) (by kernel_rfl) (by kernel_rfl) hpc hpf) trivial ?_)
            obtain ⟨xw138, hxw138⟩ : ∃ V, V = aW.setCell ⟨Po, 0, none⟩ (.slice va (tsn.length + 1) vc) := ⟨_, rfl⟩
            rw [← hxw138] at sE
            rw [← hxw138]
            clear hxw138 hpc hpf
            refine wpAnyH_done (by kernel_rfl) ?_ _
            have HSE := hid sE
            clear sE
            go_wp2
            go_roundw
            case rel => exact ⟨i + 1, by omega, by go_num, va, vc, tsn ++ [⟨⟨#[120]⟩ ++ yd, 1, []⟩], vsn ++ [.slice none 0 0], by rw [List.length_append, List.length_singleton, HLN.out]; omega, by rw [List.length_append, List.length_singleton]; omega, by rw [List.length_append, List.length_singleton]; exact HSE.out.more (by omega)⟩
            case measure => simp [intOf]; omega
          · have s140 := s135.alloc (.cells #[.string (⟨#[120]⟩ ++ yd), .int .i64 1, .slice none 0 0] 37)
            have own1 : Own (w.heap.size + 2) (xw134.alloc (.cells #[.string (⟨#[120]⟩ ++ yd), .int .i64 1, .slice none 0 0] 37)) 3 (.slice (some ⟨xw134.heap.size, 0, none⟩) 1 1) 1 [.string (⟨#[120]⟩ ++ yd), .int .i64 1, .slice none 0 0] :=
              .inr ⟨_, 0, 1, rfl, OwnC.made xw134 (w.heap.size + 2) 37 3 1 1 _ 3 (by have := s135.z; have := s135.lo; omega) (Nat.le_refl _) (by unfold maxLen; omega) rfl (Nat.le_refl _) _ rfl _ (.inl rfl)⟩
            have src1 : Src Tryd.prog 3 26 _ 1 _ (xw134.alloc (.cells #[.string (⟨#[120]⟩ ++ yd), .int .i64 1, .slice none 0 0] 37)) := own1.src Tryd.underlying26 (by intro x hx; simp only [List.mem_cons, List.not_mem_nil, or_false] at hx; rcases hx with rfl | rfl | rfl <;> rfl)
            obtain ⟨qs, hqs⟩ : ∃ q, q = xw134.heap.size := ⟨_, rfl⟩
            rw [← hqs] at src1
            rw [← hqs]
            obtain ⟨xw139, hxw139⟩ : ∃ V, V = xw134.alloc (.cells #[.string (⟨#[120]⟩ ++ yd), .int .i64 1, .slice none 0 0] 37) := ⟨_, rfl⟩
            rw [← hxw139] at s140 src1
            rw [← hxw139]
            clear hxw139 hqs s135 own1
            refine hOne (by kernel_rfl) (hVal (i := 1) (d := some 105) (v := (.slice la tsn.length lc)) (w' := xw139) (l' := (bt 10 127)) rfl (by kernel_rfl) (by kernel_rfl) (by kernel_rfl) (run_ldTs (.tmp 104) (by kernel_rfl) (by kernel_rfl) s140.box) trivial ?_)
            obtain ⟨va, vc, aW, hap, hpc, hpf, sE⟩ := s140.appT (⟨#[120]⟩ ++ yd) 1 src1 (by omega) (by rw [ByteArray.size_append]; have : (⟨#[120]⟩ : ByteArray).size = 1 := rfl; omega) (by omega)
            refine hOne (by kernel_rfl) (hVal (i := 7) (d := some 111) (v := .slice va (tsn.length + 1) vc) (w' := aW) (l' := (bt 10 255)) rfl (by kernel_rfl) (by kernel_rfl) (by kernel_rfl) (run_appT (.tmp 105) (.tmp 110) 26 26 26 (by kernel_rfl) (by kernel_rfl) (by kernel_rfl) (by kernel_rfl) hap) trivial ?_)
            clear hap s140 src1
            refine hTk (i := 8) (d := some 112) (v := .pointer (some ⟨Po, 0, none⟩)) (l' := (bt 10 511)) rfl (fun _ hc => run_faP (.tmp 5) (by kernel_rfl) (by kernel_rfl)) trivial ?_
            refine hOne (by kernel_rfl) (hSkip (i := 9) (w' := aW.setCell ⟨Po, 0, none⟩ (.slice va (tsn.length + 1) vc)) (l' := (bt 10 1023)) rfl (by kernel_rfl) (by kernel_rfl) (by kernel_rfl) (run_stTs (.tmp 112) (.tmp 111) (by kernel_rfl) (by kernel_rfl) (by kernel_rfl) hpc hpf) trivial ?_)
            obtain ⟨xw141, hxw141⟩ : ∃ V, V = aW.setCell ⟨Po, 0, none⟩ (.slice va (tsn.length + 1) vc) := ⟨_, rfl⟩
            rw [← hxw141] at sE
            rw [← hxw141]
            clear hxw141 hpc hpf
            refine wpAnyH_done (by kernel_rfl) ?_ _
            have HSE := hid sE
            clear sE
            go_wp2
            go_roundw
            case rel => exact ⟨i + 1, by omega, by go_num, va, vc, tsn ++ [⟨⟨#[120]⟩ ++ yd, 1, []⟩], vsn ++ [.slice none 0 0], by rw [List.length_append, List.length_singleton, HLN.out]; omega, by rw [List.length_append, List.length_singleton]; omega, by rw [List.length_append, List.length_singleton]; exact HSE.out.more (by omega)⟩
            case measure => simp [intOf]; omega
      · have hlt' : ¬ (tsn.length : Int) < 40 + (rr : Int) := by omega
        have hdt : decide ((tsn.length : Int) < 40 + (rr : Int)) = false := decide_eq_false hlt'
        go_upto_if 101 with fail
        refine wp_cond_false (Eq.trans (b := Value.bool (decide ((tsn.length : Int) < 40 + (rr : Int)))) (by kernel_rfl) (by rw [hdt])) ?_
        clear hdt hlt'
        have HF := s128.fin (by omega)
        have p0 := s128.box
        have k0 : xw127.cell? ⟨w.heap.size + 1, 0, none⟩ = some (.slice none 0 0) := (s128.R 0 (by simp)).1
        have f0 : xw127.frozen? ⟨w.heap.size + 1, 0, none⟩ = false := (s128.R 0 (by simp)).2
        have HFF := hid (HF.imp id (fun h => And.intro (h.1.mono (show _ ≤ k + 200 by omega)) h.2))
        clear HF s128
        go_wp2
        exact bodyPost_ret (v := .agg #[(.slice la tsn.length lc)]) (by simp [results, Tryd.results34, go_sem, k0]) rfl HFF.out
  · go_upto_region 21 with fail
    have HS4 := hid S4
    clear S4
    go_wp2
    go_loopw [8] (fun x wr => ∃ i : Nat, i ≤ 12 ∧ x = .int .i64 i ∧ ∃ (la : Option Addr) (lc : Nat) (tsn : List TaskD) (vsn : List Value), tsn.length ≤ 40 ∧ i ≤ tsn.length ∧ SP w g Po (.slice la tsn.length lc) tsn vsn (k + 2) wr) (fun x _ => 13 - (intOf x).toNat)
    case atStart => exact ⟨0, by omega, rfl, _, _, ts, vs, by omega, by omega, HS4.out⟩
    case round =>
      clear HS4
      obtain ⟨i, hi, rfl, la, lc, tsn, vsn, hl40, hil, SL⟩ := hrel
      have cb := SL.box
      by_cases hlt : tsn.length < 12
      · have hlt' : (tsn.length : Int) < 12 := by omega
        go_upto_region 24 with fail
        clear cb
        refine wp_region_held (S := fun _ => True) (by kernel_rfl) ?_
        change wpAnyH _ _ _ _ _ _ _ _ (World.drew _)
        have s0 := SL.drew
        obtain ⟨x0, hx0⟩ : ∃ U, U = wr.drew := ⟨_, rfl⟩
        rw [← hx0] at s0
        rw [← hx0]
        clear hx0 SL
        refine hTk (i := 0) (d := some 121) (v := .pointer (some ⟨Po, 0, none⟩)) (l' := (bt 10 1)) rfl (fun _ hc => run_faP (.tmp 5) (by kernel_rfl) (by kernel_rfl)) trivial ?_
        refine hTk (i := 2) (d := some 123) (v := .int .i64 (i : Nat)) (l' := (bt 10 5)) rfl (fun _ hc => run_mvD (.tmp 8) (by kernel_rfl) (by kernel_rfl)) trivial ?_
        refine hTwo (i := 1) (j := 3) (by kernel_rfl) (hVal (i := 1) (d := some 122) (v := (.slice la tsn.length lc)) (w' := x0) (l' := (bt 10 7)) rfl (by kernel_rfl) (by kernel_rfl) (by kernel_rfl) (run_ldTs (.tmp 121) (by kernel_rfl) (by kernel_rfl) s0.box) trivial ?_) (hCall (i := 3) (d := some 124) (f := 44) (args := #[.int .i64 (i : Nat)]) (l' := (bt 10 13)) (R := fun v w' => (∃ t : ByteArray, v = .string t ∧ t.size ≤ 2) ∧ Below x0.heap.size x0 w') rfl (by kernel_rfl) (by kernel_rfl) (by kernel_rfl) (run_cl1 _ _ rfl (by kernel_rfl) rfl enter_l1Dec) ((l1Dec_2 i x0 (by omega)).mono fun e w' ⟨⟨t, he, ht⟩, hb⟩ => ⟨_, he, ⟨t, rfl, ht⟩, hb⟩) ?_)
        · refine hOne (by kernel_rfl) (hCall (i := 3) (d := some 124) (f := 44) (args := #[.int .i64 (i : Nat)]) (l' := (bt 10 15)) (R := fun v w' => (∃ t : ByteArray, v = .string t ∧ t.size ≤ 2) ∧ Below x0.heap.size x0 w') rfl (by kernel_rfl) (by kernel_rfl) (by kernel_rfl) (run_cl1 _ _ rfl (by kernel_rfl) rfl enter_l1Dec) ((l1Dec_2 i x0 (by omega)).mono fun e w' ⟨⟨t, he, ht⟩, hb⟩ => ⟨_, he, ⟨t, rfl, ht⟩, hb⟩) ?_)
          rintro _ xw142 ⟨⟨yd, rfl, hyd⟩, hbb⟩
          have s143 := s0.below hbb
          clear hbb s0
          refine ⟨trivial, ?_⟩
          refine hTk (i := 4) (d := some 125) (v := .string (⟨#[121]⟩ ++ yd)) (l' := (bt 10 31)) rfl (fun _ hc => run_addSS (.const (.string ⟨#[121]⟩)) (.tmp 124) ⟨#[121]⟩ yd (by kernel_rfl) (by kernel_rfl) (by kernel_rfl) (by have : (⟨#[121]⟩ : ByteArray).size = 1 := rfl; omega)) trivial ?_
          refine hTk (i := 5) (d := some 126) (v := .agg #[.string (⟨#[121]⟩ ++ yd), .int .i64 1, .slice none 0 0]) (l' := (bt 10 63)) rfl (fun _ hc => run_bT2 (.tmp 125) (.const (.int .i64 1)) (⟨#[121]⟩ ++ yd) 1 (by kernel_rfl) (by kernel_rfl) (by kernel_rfl)) trivial ?_
          refine hOne (by kernel_rfl) (hVal (i := 6) (d := some 127) (v := .slice (some ⟨xw142.heap.size, 0, none⟩) 1 1) (w' := xw142.alloc (.cells #[.string (⟨#[121]⟩ ++ yd), .int .i64 1, .slice none 0 0] 37)) (l' := (bt 10 127)) rfl (by kernel_rfl) (by kernel_rfl) (by kernel_rfl) (run_bsT (.tmp 126) (⟨#[121]⟩ ++ yd) 1 none 0 0 (by kernel_rfl) (by kernel_rfl)) trivial ?_)
          have s145 := s143.alloc (.cells #[.string (⟨#[121]⟩ ++ yd), .int .i64 1, .slice none 0 0] 37)
          have own1 : Own (w.heap.size + 2) (xw142.alloc (.cells #[.string (⟨#[121]⟩ ++ yd), .int .i64 1, .slice none 0 0] 37)) 3 (.slice (some ⟨xw142.heap.size, 0, none⟩) 1 1) 1 [.string (⟨#[121]⟩ ++ yd), .int .i64 1, .slice none 0 0] :=
            .inr ⟨_, 0, 1, rfl, OwnC.made xw142 (w.heap.size + 2) 37 3 1 1 _ 3 (by have := s143.z; have := s143.lo; omega) (Nat.le_refl _) (by unfold maxLen; omega) rfl (Nat.le_refl _) _ rfl _ (.inl rfl)⟩
          have src1 : Src Tryd.prog 3 26 _ 1 _ (xw142.alloc (.cells #[.string (⟨#[121]⟩ ++ yd), .int .i64 1, .slice none 0 0] 37)) := own1.src Tryd.underlying26 (by intro x hx; simp only [List.mem_cons, List.not_mem_nil, or_false] at hx; rcases hx with rfl | rfl | rfl <;> rfl)
          obtain ⟨qs, hqs⟩ : ∃ q, q = xw142.heap.size := ⟨_, rfl⟩
          rw [← hqs] at src1
          rw [← hqs]
          obtain ⟨xw144, hxw144⟩ : ∃ V, V = xw142.alloc (.cells #[.string (⟨#[121]⟩ ++ yd), .int .i64 1, .slice none 0 0] 37) := ⟨_, rfl⟩
          rw [← hxw144] at s145 src1
          rw [← hxw144]
          clear hxw144 hqs s143 own1
          obtain ⟨va, vc, aW, hap, hpc, hpf, sE⟩ := s145.appT (⟨#[121]⟩ ++ yd) 1 src1 (by omega) (by rw [ByteArray.size_append]; have : (⟨#[121]⟩ : ByteArray).size = 1 := rfl; omega) (by omega)
          refine hOne (by kernel_rfl) (hVal (i := 7) (d := some 128) (v := .slice va (tsn.length + 1) vc) (w' := aW) (l' := (bt 10 255)) rfl (by kernel_rfl) (by kernel_rfl) (by kernel_rfl) (run_appT (.tmp 122) (.tmp 127) 26 26 26 (by kernel_rfl) (by kernel_rfl) (by kernel_rfl) (by kernel_rfl) hap) trivial ?_)
          clear hap s145 src1
          refine hTk (i := 8) (d := some 129) (v := .pointer (some ⟨Po, 0, none⟩)) (l' := (bt 10 511)) rfl (fun _ hc => run_faP (.tmp 5) (by kernel_rfl) (by kernel_rfl)) trivial ?_
          refine hOne (by kernel_rfl) (hSkip (i := 9) (w' := aW.setCell ⟨Po, 0, none⟩ (.slice va (tsn.length + 1) vc)) (l' := (bt 10 1023)) rfl (by kernel_rfl) (by kernel_rfl) (by kernel_rfl) (run_stTs (.tmp 129) (.tmp 128) (by kernel_rfl) (by kernel_rfl) (by kernel_rfl) hpc hpf) trivial ?_)
          obtain ⟨xw146, hxw146⟩ : ∃ V, V = aW.setCell ⟨Po, 0, none⟩ (.slice va (tsn.length + 1) vc) := ⟨_, rfl⟩
          rw [← hxw146] at sE
          rw [← hxw146]
          clear hxw146 hpc hpf
          refine wpAnyH_done (by kernel_rfl) ?_ _
          have HSE := hid sE
          clear sE
          go_wp2
          go_roundw
          case rel => exact ⟨i + 1, by omega, by go_num, va, vc, tsn ++ [⟨⟨#[121]⟩ ++ yd, 1, []⟩], vsn ++ [.slice none 0 0], by rw [List.length_append, List.length_singleton]; omega, by rw [List.length_append, List.length_singleton]; omega, by rw [List.length_append, List.length_singleton]; exact HSE.out⟩
          case measure => simp [intOf]; omega
        · rintro _ xw147 ⟨⟨yd, rfl, hyd⟩, hbb⟩
          have s148 := s0.below hbb
          clear hbb s0
          refine ⟨trivial, ?_⟩
          refine hTk (i := 4) (d := some 125) (v := .string (⟨#[121]⟩ ++ yd)) (l' := (bt 10 29)) rfl (fun _ hc => run_addSS (.const (.string ⟨#[121]⟩)) (.tmp 124) ⟨#[121]⟩ yd (by kernel_rfl) (by kernel_rfl) (by kernel_rfl) (by have : (⟨#[121]⟩ : ByteArray).size = 1 := rfl; omega)) trivial ?_
          refine hTk (i := 5) (d := some 126) (v := .agg #[.string (⟨#[121]⟩ ++ yd), .int .i64 1, .slice none 0 0]) (l' := (bt 10 61)) rfl (fun _ hc => run_bT2 (.tmp 125) (.const (.int .i64 1)) (⟨#[121]⟩ ++ yd) 1 (by kernel_rfl) (by kernel_rfl) (by kernel_rfl)) trivial ?_
          refine hTwo (i := 1) (j := 6) (by kernel_rfl) (hVal (i := 1) (d := some 122) (v := (.slice la tsn.length lc)) (w' := xw147) (l' := (bt 10 63)) rfl (by kernel_rfl) (by kernel_rfl) (by kernel_rfl) (run_ldTs (.tmp 121) (by kernel_rfl) (by kernel_rfl) s148.box) trivial ?_) (hVal (i := 6) (d := some 127) (v := .slice (some ⟨xw147.heap.size, 0, none⟩) 1 1) (w' := xw147.alloc (.cells #[.string (⟨#[121]⟩ ++ yd), .int .i64 1, .slice none 0 0] 37)) (l' := (bt 10 125)) rfl (by kernel_rfl) (by kernel_rfl) (by kernel_rfl) (run_bsT (.tmp 126) (⟨#[121]⟩ ++ yd) 1 none 0 0 (by kernel_rfl) (by kernel_rfl)) trivial ?_)
          · refine hOne (by kernel_rfl) (hVal (i := 6) (d := some 127) (v := .slice (some ⟨xw147.heap.size, 0, none⟩) 1 1) (w' := xw147.alloc (.cells #[.string (⟨#[121]⟩ ++ yd), .int .i64 1, .slice none 0 0] 37)) (l' := (bt 10 127)) rfl (by kernel_rfl) (by kernel_rfl) (by kernel_rfl) (run_bsT (.tmp 126) (⟨#[121]⟩ ++ yd) 1 none 0 0 (by kernel_rfl) (by kernel_rfl)) trivial ?_)
            have s150 := s148.alloc (.cells #[.string (⟨#[121]⟩ ++ yd), .int .i64 1, .slice none 0 0] 37)
            have own1 : Own (w.heap.size + 2) (xw147.alloc (.cells #[.string (⟨#[121]⟩ ++ yd), .int .i64 1, .slice none 0 0] 37)) 3 (.slice (some ⟨xw147.heap.size, 0, none⟩) 1 1) 1 [.string (⟨#[121]⟩ ++ yd), .int .i64 1, .slice none 0 0] :=
              .inr ⟨_, 0, 1, rfl, OwnC.made xw147 (w.heap.size + 2) 37 3 1 1 _ 3 (by have := s148.z; have := s148.lo; omega) (Nat.le_refl _) (by unfold maxLen; omega) rfl (Nat.le_refl _) _ rfl _ (.inl rfl)⟩
            have src1 : Src Tryd.prog 3 26 _ 1 _ (xw147.alloc (.cells #[.string (⟨#[121]⟩ ++ yd), .int .i64 1, .slice none 0 0] 37)) := own1.src Tryd.underlying26 (by intro x hx; simp only [List.mem_cons, List.not_mem_nil, or_false] at hx; rcases hx with rfl | rfl | rfl <;> rfl)
            obtain ⟨qs, hqs⟩ : ∃ q, q = xw147.heap.size := ⟨_, rfl⟩
            rw [← hqs] at src1
            rw [← hqs]
            obtain ⟨xw149, hxw149⟩ : ∃ V, V = xw147.alloc (.cells #[.string (⟨#[121]⟩ ++ yd), .int .i64 1, .slice none 0 0] 37) := ⟨_, rfl⟩
            rw [← hxw149] at s150 src1
            rw [← hxw149]
            clear hxw149 hqs s148 own1
            obtain ⟨va, vc, aW, hap, hpc, hpf, sE⟩ := s150.appT (⟨#[121]⟩ ++ yd) 1 src1 (by omega) (by rw [ByteArray.size_append]; have : (⟨#[121]⟩ : ByteArray).size = 1 := rfl; omega) (by omega)
            refine hOne (by kernel_rfl) (hVal (i := 7) (d := some 128) (v := .slice va (tsn.length + 1) vc) (w' := aW) (l' := (bt 10 255)) rfl (by kernel_rfl) (by kernel_rfl) (by kernel_rfl) (run_appT (.tmp 122) (.tmp 127) 26 26 26 (by kernel_rfl) (by kernel_rfl) (by kernel_rfl) (by kernel_rfl) hap) trivial ?_)
            clear hap s150 src1
            refine hTk (i := 8) (d := some 129) (v := .pointer (some ⟨Po, 0, none⟩)) (l' := (bt 10 511)) rfl (fun _ hc => run_faP (.tmp 5) (by kernel_rfl) (by kernel_rfl)) trivial ?_
            refine hOne (by kernel_rfl) (hSkip (i := 9) (w' := aW.setCell ⟨Po, 0, none⟩ (.slice va (tsn.length + 1) vc)) (l' := (bt 10 1023)) rfl (by kernel_rfl) (by kernel_rfl) (by kernel_rfl) (run_stTs (.tmp 129) (.tmp 128) (by kernel_rfl) (by kernel_rfl) (by kernel_rfl) hpc hpf) trivial ?_)
            obtain ⟨xw151, hxw151⟩ : ∃ V, V = aW.setCell ⟨Po, 0, none⟩ (.slice va (tsn.length + 1) vc) := ⟨_, rfl⟩
            rw [← hxw151] at sE
            rw [← hxw151]
            clear hxw151 hpc hpf
            refine wpAnyH_done (by kernel_rfl) ?_ _
            have HSE := hid sE
            clear sE
            go_wp2
            go_roundw
            case rel => exact ⟨i + 1, by omega, by go_num, va, vc, tsn ++ [⟨⟨#[121]⟩ ++ yd, 1, []⟩], vsn ++ [.slice none 0 0], by rw [List.length_append, List.length_singleton]; omega, by rw [List.length_append, List.length_singleton]; omega, by rw [List.length_append, List.length_singleton]; exact HSE.out⟩
            case measure => simp [intOf]; omega
          · have s153 := s148.alloc (.cells #[.string (⟨#[121]⟩ ++ yd), .int .i64 1, .slice none 0 0] 37)
            have own1 : Own (w.heap.size + 2) (xw147.alloc (.cells #[.string (⟨#[121]⟩ ++ yd), .int .i64 1, .slice none 0 0] 37)) 3 (.slice (some ⟨xw147.heap.size, 0, none⟩) 1 1) 1 [.string (⟨#[121]⟩ ++ yd), .int .i64 1, .slice none 0 0] :=
              .inr ⟨_, 0, 1, rfl, OwnC.made xw147 (w.heap.size + 2) 37 3 1 1 _ 3 (by have := s148.z; have := s148.lo; omega) (Nat.le_refl _) (by unfold maxLen; omega) rfl (Nat.le_refl _) _ rfl _ (.inl rfl)⟩
            have src1 : Src Tryd.prog 3 26 _ 1 _ (xw147.alloc (.cells #[.string (⟨#[121]⟩ ++ yd), .int .i64 1, .slice none 0 0] 37)) := own1.src Tryd.underlying26 (by intro x hx; simp only [List.mem_cons, List.not_mem_nil, or_false] at hx; rcases hx with rfl | rfl | rfl <;> rfl)
            obtain ⟨qs, hqs⟩ : ∃ q, q = xw147.heap.size := ⟨_, rfl⟩
            rw [← hqs] at src1
            rw [← hqs]
            obtain ⟨xw152, hxw152⟩ : ∃ V, V = xw147.alloc (.cells #[.string (⟨#[121]⟩ ++ yd), .int .i64 1, .slice none 0 0] 37) := ⟨_, rfl⟩
            rw [← hxw152] at s153 src1
            rw [← hxw152]
            clear hxw152 hqs s148 own1
            refine hOne (by kernel_rfl) (hVal (i := 1) (d := some 122) (v := (.slice la tsn.length lc)) (w' := xw152) (l' := (bt 10 127)) rfl (by kernel_rfl) (by kernel_rfl) (by kernel_rfl) (run_ldTs (.tmp 121) (by kernel_rfl) (by kernel_rfl) s153.box) trivial ?_)
            obtain ⟨va, vc, aW, hap, hpc, hpf, sE⟩ := s153.appT (⟨#[121]⟩ ++ yd) 1 src1 (by omega) (by rw [ByteArray.size_append]; have : (⟨#[121]⟩ : ByteArray).size = 1 := rfl; omega) (by omega)
            refine hOne (by kernel_rfl) (hVal (i := 7) (d := some 128) (v := .slice va (tsn.length + 1) vc) (w' := aW) (l' := (bt 10 255)) rfl (by kernel_rfl) (by kernel_rfl) (by kernel_rfl) (run_appT (.tmp 122) (.tmp 127) 26 26 26 (by kernel_rfl) (by kernel_rfl) (by kernel_rfl) (by kernel_rfl) hap) trivial ?_)
            clear hap s153 src1
            refine hTk (i := 8) (d := some 129) (v := .pointer (some ⟨Po, 0, none⟩)) (l' := (bt 10 511)) rfl (fun _ hc => run_faP (.tmp 5) (by kernel_rfl) (by kernel_rfl)) trivial ?_
            refine hOne (by kernel_rfl) (hSkip (i := 9) (w' := aW.setCell ⟨Po, 0, none⟩ (.slice va (tsn.length + 1) vc)) (l' := (bt 10 1023)) rfl (by kernel_rfl) (by kernel_rfl) (by kernel_rfl) (run_stTs (.tmp 129) (.tmp 128) (by kernel_rfl) (by kernel_rfl) (by kernel_rfl) hpc hpf) trivial ?_)
            obtain ⟨xw154, hxw154⟩ : ∃ V, V = aW.setCell ⟨Po, 0, none⟩ (.slice va (tsn.length + 1) vc) := ⟨_, rfl⟩
            rw [← hxw154] at sE
            rw [← hxw154]
            clear hxw154 hpc hpf
            refine wpAnyH_done (by kernel_rfl) ?_ _
            have HSE := hid sE
            clear sE
            go_wp2
            go_roundw
            case rel => exact ⟨i + 1, by omega, by go_num, va, vc, tsn ++ [⟨⟨#[121]⟩ ++ yd, 1, []⟩], vsn ++ [.slice none 0 0], by rw [List.length_append, List.length_singleton]; omega, by rw [List.length_append, List.length_singleton]; omega, by rw [List.length_append, List.length_singleton]; exact HSE.out⟩
            case measure => simp [intOf]; omega
      · have hlt' : ¬ (tsn.length : Int) < 12 := by omega
        have h11 : 11 < tsn.length := by omega
        go_upto_region 25 with fail
        clear cb
        obtain ⟨rb, ro, rfl⟩ : ∃ rb ro, la = some ⟨rb, ro, none⟩ := by
          rcases SL.pl.row with ⟨hv, hn, _⟩ | ⟨rb, ro, cap, hv, _⟩
          · omega
          · injection hv with e1; exact ⟨rb, ro, e1⟩
        refine wp_region_held (S := fun w' => w'.cell? ⟨Po, 0, none⟩ = some (.slice (some ⟨rb, ro, none⟩) tsn.length lc)) (by kernel_rfl) ?_
        change wpAnyH _ _ _ _ _ _ _ _ (World.drew _)
        have s0 := SL.drew
        obtain ⟨x0, hx0⟩ : ∃ U, U = wr.drew := ⟨_, rfl⟩
        rw [← hx0] at s0
        rw [← hx0]
        clear hx0 SL
        refine hTk (i := 0) (d := some 130) (v := .pointer (some ⟨Po, 0, none⟩)) (l' := (bt 10 1)) rfl (fun _ hc => run_faP (.tmp 5) (by kernel_rfl) (by kernel_rfl)) s0.box ?_
        refine hTk (i := 1) (d := some 131) (v := (.slice (some ⟨rb, ro, none⟩) tsn.length lc)) (l' := (bt 10 3)) rfl (fun _ hc => run_ldTs (.tmp 130) (by kernel_rfl) (by kernel_rfl) hc) s0.box ?_
        refine hTk (i := 3) (d := some 133) (v := .pointer (some ⟨g, 0, none⟩)) (l' := (bt 10 11)) rfl (fun _ hc => run_mvD (.tmp 0) (by kernel_rfl) (by kernel_rfl)) s0.box ?_
        refine hTwo (i := 2) (j := 4) (by kernel_rfl) (hVal (i := 2) (d := some 132) (v := .slice (some ⟨x0.heap.size, 0, none⟩) 9 9) (w' := x0.alloc (.cells #[.int .i64 0, .int .i64 1, .int .i64 2, .int .i64 3, .int .i64 4, .int .i64 5, .int .i64 6, .int .i64 7, .int .i64 8] 3)) (l' := (bt 10 15)) rfl (by kernel_rfl) (by kernel_rfl) (by kernel_rfl) (run_bsI9 (.const (.int .i64 0)) (.const (.int .i64 1)) (.const (.int .i64 2)) (.const (.int .i64 3)) (.const (.int .i64 4)) (.const (.int .i64 5)) (.const (.int .i64 6)) (.const (.int .i64 7)) (.const (.int .i64 8)) (by kernel_rfl) (by kernel_rfl) (by kernel_rfl) (by kernel_rfl) (by kernel_rfl) (by kernel_rfl) (by kernel_rfl) (by kernel_rfl) (by kernel_rfl) (by kernel_rfl)) (s0.alloc (.cells #[.int .i64 0, .int .i64 1, .int .i64 2, .int .i64 3, .int .i64 4, .int .i64 5, .int .i64 6, .int .i64 7, .int .i64 8] 3)).box ?_) (hCall (i := 4) (d := some 134) (f := 32) (args := #[.pointer (some ⟨g, 0, none⟩), .int .i64 2]) (l' := (bt 10 27)) (R := fun v w' => (∃ r : Nat, r < 2 ∧ v = .int .i64 r) ∧ RD w' g (k + 2 + 1) ∧ x0.grownBy w' (some g)) rfl (by kernel_rfl) (by kernel_rfl) (by kernel_rfl) (run_cl2 _ _ _ rfl (by kernel_rfl) (by kernel_rfl) rfl enter_pick) ((pick_any g 2 (k + 2) x0 s0.rd (by omega) (by omega) (by omega)).mono fun e w' ⟨⟨r, hr, he⟩, h1, h2⟩ => ⟨_, he, ⟨r, hr, rfl⟩, h1, h2⟩) ?_)
        · have s156 := s0.alloc (.cells #[.int .i64 0, .int .i64 1, .int .i64 2, .int .i64 3, .int .i64 4, .int .i64 5, .int .i64 6, .int .i64 7, .int .i64 8] 3)
          have hq157 := CF.made x0 #[.int .i64 0, .int .i64 1, .int .i64 2, .int .i64 3, .int .i64 4, .int .i64 5, .int .i64 6, .int .i64 7, .int .i64 8] 3
          have hq157z : x0.heap.size < (x0.alloc (.cells #[.int .i64 0, .int .i64 1, .int .i64 2, .int .i64 3, .int .i64 4, .int .i64 5, .int .i64 6, .int .i64 7, .int .i64 8] 3)).heap.size := by simp
          have qlo : w.heap.size + 2 < x0.heap.size := by have := s0.z; have := s0.lo; omega
          have qPo : x0.heap.size ≠ Po ∧ x0.heap.size ≠ rb := by have := s0.z; have := s0.inRow; omega
          obtain ⟨qb, hqb⟩ : ∃ q, q = x0.heap.size := ⟨_, rfl⟩
          rw [← hqb] at hq157 hq157z qlo qPo
          rw [← hqb]
          obtain ⟨xw155, hxw155⟩ : ∃ V, V = x0.alloc (.cells #[.int .i64 0, .int .i64 1, .int .i64 2, .int .i64 3, .int .i64 4, .int .i64 5, .int .i64 6, .int .i64 7, .int .i64 8] 3) := ⟨_, rfl⟩
          have qrow : ∀ j, j < tsn.length → ∀ q, (vsn.getD j nilV).ownBlock = some q → q ≠ qb := fun j hj q hq => by have := (s0.pl.dep j hj).row_hi q hq; omega
          rw [← hxw155] at s156 hq157 hq157z
          rw [← hxw155]
          clear hxw155 hqb s0
          refine hOne (by kernel_rfl) (hCall (i := 4) (d := some 134) (f := 32) (args := #[.pointer (some ⟨g, 0, none⟩), .int .i64 2]) (l' := (bt 10 31)) (R := fun v w' => (∃ r : Nat, r < 2 ∧ v = .int .i64 r) ∧ RD w' g (k + 2 + 1) ∧ xw155.grownBy w' (some g)) rfl (by kernel_rfl) (by kernel_rfl) (by kernel_rfl) (run_cl2 _ _ _ rfl (by kernel_rfl) (by kernel_rfl) rfl enter_pick) ((pick_any g 2 (k + 2) xw155 s156.rd (by omega) (by omega) (by omega)).mono fun e w' ⟨⟨r, hr, he⟩, h1, h2⟩ => ⟨_, he, ⟨r, hr, rfl⟩, h1, h2⟩) ?_)
          rintro _ xw158 ⟨⟨rr, hrr, rfl⟩, hrd, hgg⟩
          have s159 := s156.call hrd hgg
          have hq160 := hq157.block (hgg.block qb (by have := hq157z; omega) (by simp; have := s156.gl; have := qlo; omega))
          have hq160z : qb < xw158.heap.size := by have := hgg.size; have := hq157z; omega
          clear hrd hgg s156 hq157 hq157z
          refine ⟨s159.box, ?_⟩
          refine hTk (i := 5) (d := some 135) (v := .int .i64 (8 + rr : Nat)) (l' := (bt 10 63)) rfl (fun _ hc => run_addII (.const (.int .i64 8)) (.tmp 134) 8 (rr : Int) (by kernel_rfl) (by kernel_rfl) (by kernel_rfl) (by omega)) s159.box ?_
          refine hOne (by kernel_rfl) (hVal (i := 6) (d := some 136) (v := .slice (some ⟨qb, 0, none⟩) (8 + rr) 9) (w' := xw158) (l' := (bt 10 127)) rfl (by kernel_rfl) (by kernel_rfl) (by kernel_rfl) (run_slI (.tmp 132) (.tmp 135) qb 9 9 (8 + rr) (by kernel_rfl) (by kernel_rfl) (by kernel_rfl) (by omega)) s159.box ?_)
          refine hOne (by kernel_rfl) (hVal (i := 7) (d := some 137) (v := .pointer (some ⟨rb, ro + 11 * 3, none⟩)) (w' := xw158) (l' := (bt 10 255)) rfl (by kernel_rfl) (by kernel_rfl) (by kernel_rfl) (run_ixT (.tmp 131) (.const (.int .i64 11)) rb ro tsn.length lc 11 (by kernel_rfl) (by kernel_rfl) (by kernel_rfl) h11) s159.box ?_)
          refine hOne (by kernel_rfl) (hVal (i := 8) (d := some 138) (v := .pointer (some ⟨rb, ro + 11 * 3 + 2, none⟩)) (w' := xw158) (l' := (bt 10 511)) rfl (by kernel_rfl) (by kernel_rfl) (by kernel_rfl) (run_faT2 (.tmp 137) (by kernel_rfl) (by kernel_rfl)) s159.box ?_)
          have hcP : xw158.cell? ⟨rb, ro + 11 * 3 + 2, none⟩ = some (vsn.getD 11 nilV) := (s159.pl.cell h11 2 (by omega)).1
          have hfP : xw158.frozen? ⟨rb, ro + 11 * 3 + 2, none⟩ = false := (s159.pl.cell h11 2 (by omega)).2
          have sN := s159.nine h11 hq160 hq160z qlo qPo.1 qPo.2 qrow hrr
          have bN := sN.box
          refine hOne (by kernel_rfl) (hSkip (i := 9) (w' := xw158.setCell ⟨rb, ro + 11 * 3 + 2, none⟩ (.slice (some ⟨qb, 0, none⟩) (8 + rr) 9)) (l' := (bt 10 1023)) rfl (by kernel_rfl) (by kernel_rfl) (by kernel_rfl) (run_stIs (.tmp 138) (.tmp 136) _ _ _ (by kernel_rfl) (by kernel_rfl) (by kernel_rfl) hcP hfP) bN ?_)
          obtain ⟨xw161, hxw161⟩ : ∃ V, V = xw158.setCell ⟨rb, ro + 11 * 3 + 2, none⟩ (.slice (some ⟨qb, 0, none⟩) (8 + rr) 9) := ⟨_, rfl⟩
          rw [← hxw161] at sN
          rw [← hxw161]
          clear hxw161 s159 hq160 hq160z bN hcP hfP
          refine wpAnyH_done (by kernel_rfl) ?_ _
          have HF := sN.fin (by simp; omega)
          have p0 := sN.box
          have k0 : xw161.cell? ⟨w.heap.size + 1, 0, none⟩ = some (.slice none 0 0) := (sN.R 0 (by simp)).1
          have f0 : xw161.frozen? ⟨w.heap.size + 1, 0, none⟩ = false := (sN.R 0 (by simp)).2
          have HFF := hid (HF.imp id (fun h => And.intro (h.1.mono (show _ ≤ k + 200 by omega)) h.2))
          clear HF sN
          go_wp2
          exact bodyPost_ret (v := .agg #[(.slice (some ⟨rb, ro, none⟩) tsn.length lc)]) (by simp [results, Tryd.results34, go_sem, k0]) rfl HFF.out
        · rintro _ xw162 ⟨⟨rr, hrr, rfl⟩, hrd, hgg⟩
          have s163 := s0.call hrd hgg
          clear hrd hgg s0
          refine ⟨s163.box, ?_⟩
          refine hTk (i := 5) (d := some 135) (v := .int .i64 (8 + rr : Nat)) (l' := (bt 10 59)) rfl (fun _ hc => run_addII (.const (.int .i64 8)) (.tmp 134) 8 (rr : Int) (by kernel_rfl) (by kernel_rfl) (by kernel_rfl) (by omega)) s163.box ?_
          refine hOne (by kernel_rfl) (hVal (i := 2) (d := some 132) (v := .slice (some ⟨xw162.heap.size, 0, none⟩) 9 9) (w' := xw162.alloc (.cells #[.int .i64 0, .int .i64 1, .int .i64 2, .int .i64 3, .int .i64 4, .int .i64 5, .int .i64 6, .int .i64 7, .int .i64 8] 3)) (l' := (bt 10 63)) rfl (by kernel_rfl) (by kernel_rfl) (by kernel_rfl) (run_bsI9 (.const (.int .i64 0)) (.const (.int .i64 1)) (.const (.int .i64 2)) (.const (.int .i64 3)) (.const (.int .i64 4)) (.const (.int .i64 5)) (.const (.int .i64 6)) (.const (.int .i64 7)) (.const (.int .i64 8)) (by kernel_rfl) (by kernel_rfl) (by kernel_rfl) (by kernel_rfl) (by kernel_rfl) (by kernel_rfl) (by kernel_rfl) (by kernel_rfl) (by kernel_rfl) (by kernel_rfl)) (s163.alloc (.cells #[.int .i64 0, .int .i64 1, .int .i64 2, .int .i64 3, .int .i64 4, .int .i64 5, .int .i64 6, .int .i64 7, .int .i64 8] 3)).box ?_)
          have s165 := s163.alloc (.cells #[.int .i64 0, .int .i64 1, .int .i64 2, .int .i64 3, .int .i64 4, .int .i64 5, .int .i64 6, .int .i64 7, .int .i64 8] 3)
          have hq166 := CF.made xw162 #[.int .i64 0, .int .i64 1, .int .i64 2, .int .i64 3, .int .i64 4, .int .i64 5, .int .i64 6, .int .i64 7, .int .i64 8] 3
          have hq166z : xw162.heap.size < (xw162.alloc (.cells #[.int .i64 0, .int .i64 1, .int .i64 2, .int .i64 3, .int .i64 4, .int .i64 5, .int .i64 6, .int .i64 7, .int .i64 8] 3)).heap.size := by simp
          have qlo : w.heap.size + 2 < xw162.heap.size := by have := s163.z; have := s163.lo; omega
          have qPo : xw162.heap.size ≠ Po ∧ xw162.heap.size ≠ rb := by have := s163.z; have := s163.inRow; omega
          obtain ⟨qb, hqb⟩ : ∃ q, q = xw162.heap.size := ⟨_, rfl⟩
          rw [← hqb] at hq166 hq166z qlo qPo
          rw [← hqb]
          obtain ⟨xw164, hxw164⟩ : ∃ V, V = xw162.alloc (.cells #[.int .i64 0, .int .i64 1, .int .i64 2, .int .i64 3, .int .i64 4, .int .i64 5, .int .i64 6, .int .i64 7, .int .i64 8] 3) := ⟨_, rfl⟩
          have qrow : ∀ j, j < tsn.length → ∀ q, (vsn.getD j nilV).ownBlock = some q → q ≠ qb := fun j hj q hq => by have := (s163.pl.dep j hj).row_hi q hq; omega
          rw [← hxw164] at s165 hq166 hq166z
          rw [← hxw164]
          clear hxw164 hqb s163
          refine hOne (by kernel_rfl) (hVal (i := 6) (d := some 136) (v := .slice (some ⟨qb, 0, none⟩) (8 + rr) 9) (w' := xw164) (l' := (bt 10 127)) rfl (by kernel_rfl) (by kernel_rfl) (by kernel_rfl) (run_slI (.tmp 132) (.tmp 135) qb 9 9 (8 + rr) (by kernel_rfl) (by kernel_rfl) (by kernel_rfl) (by omega)) s165.box ?_)
          refine hOne (by kernel_rfl) (hVal (i := 7) (d := some 137) (v := .pointer (some ⟨rb, ro + 11 * 3, none⟩)) (w' := xw164) (l' := (bt 10 255)) rfl (by kernel_rfl) (by kernel_rfl) (by kernel_rfl) (run_ixT (.tmp 131) (.const (.int .i64 11)) rb ro tsn.length lc 11 (by kernel_rfl) (by kernel_rfl) (by kernel_rfl) h11) s165.box ?_)
          refine hOne (by kernel_rfl) (hVal (i := 8) (d := some 138) (v := .pointer (some ⟨rb, ro + 11 * 3 + 2, none⟩)) (w' := xw164) (l' := (bt 10 511)) rfl (by kernel_rfl) (by kernel_rfl) (by kernel_rfl) (run_faT2 (.tmp 137) (by kernel_rfl) (by kernel_rfl)) s165.box ?_)
          have hcP : xw164.cell? ⟨rb, ro + 11 * 3 + 2, none⟩ = some (vsn.getD 11 nilV) := (s165.pl.cell h11 2 (by omega)).1
          have hfP : xw164.frozen? ⟨rb, ro + 11 * 3 + 2, none⟩ = false := (s165.pl.cell h11 2 (by omega)).2
          have sN := s165.nine h11 hq166 hq166z qlo qPo.1 qPo.2 qrow hrr
          have bN := sN.box
          refine hOne (by kernel_rfl) (hSkip (i := 9) (w' := xw164.setCell ⟨rb, ro + 11 * 3 + 2, none⟩ (.slice (some ⟨qb, 0, none⟩) (8 + rr) 9)) (l' := (bt 10 1023)) rfl (by kernel_rfl) (by kernel_rfl) (by kernel_rfl) (run_stIs (.tmp 138) (.tmp 136) _ _ _ (by kernel_rfl) (by kernel_rfl) (by kernel_rfl) hcP hfP) bN ?_)
          obtain ⟨xw167, hxw167⟩ : ∃ V, V = xw164.setCell ⟨rb, ro + 11 * 3 + 2, none⟩ (.slice (some ⟨qb, 0, none⟩) (8 + rr) 9) := ⟨_, rfl⟩
          rw [← hxw167] at sN
          rw [← hxw167]
          clear hxw167 s165 hq166 hq166z bN hcP hfP
          refine wpAnyH_done (by kernel_rfl) ?_ _
          have HF := sN.fin (by simp; omega)
          have p0 := sN.box
          have k0 : xw167.cell? ⟨w.heap.size + 1, 0, none⟩ = some (.slice none 0 0) := (sN.R 0 (by simp)).1
          have f0 : xw167.frozen? ⟨w.heap.size + 1, 0, none⟩ = false := (sN.R 0 (by simp)).2
          have HFF := hid (HF.imp id (fun h => And.intro (h.1.mono (show _ ≤ k + 200 by omega)) h.2))
          clear HF sN
          go_wp2
          exact bodyPost_ret (v := .agg #[(.slice (some ⟨rb, ro, none⟩) tsn.length lc)]) (by simp [results, Tryd.results34, go_sem, k0]) rfl HFF.out
  · go_upto_region 6 with fail
    have hnz1 : (ts.getD kk dT).name.size + (⟨#[122]⟩ : ByteArray).size ≤ 1000000 := by have := hnmk; have : (⟨#[122]⟩ : ByteArray).size = 1 := rfl; omega
    obtain ⟨nz, hnz⟩ : ∃ nz, nz = (ts.getD kk dT).name ++ (⟨#[122]⟩ : ByteArray) := ⟨_, rfl⟩
    have HNZ := hid hnz
    have hnz2 : nz.size ≤ 1000 := by rw [hnz, ByteArray.size_append]; have := hnmk; have : (⟨#[122]⟩ : ByteArray).size = 1 := rfl; omega
    clear hnz
    refine wp_region_held (S := fun w' => w'.cell? ⟨Po, 0, none⟩ = some (.slice (some ⟨rb, ro, none⟩) ts.length rc)) (by kernel_rfl) ?_
    change wpAnyH _ _ _ _ _ _ _ _ (World.drew _)
    have s0 := S4.drew
    obtain ⟨x0, hx0⟩ : ∃ U, U = w4.drew := ⟨_, rfl⟩
    rw [← hx0] at s0
    rw [← hx0]
    clear hx0 S4
    refine hTk (i := 0) (d := some 23) (v := .pointer (some ⟨Po, 0, none⟩)) (l' := (bt 13 1)) rfl (fun _ hc => run_faP (.tmp 5) (by kernel_rfl) (by kernel_rfl)) s0.box ?_
    refine hTk (i := 1) (d := some 24) (v := (.slice (some ⟨rb, ro, none⟩) ts.length rc)) (l' := (bt 13 3)) rfl (fun _ hc => run_ldTs (.tmp 23) (by kernel_rfl) (by kernel_rfl) hc) s0.box ?_
    refine hTk (i := 2) (d := some 25) (v := .int .i64 (kk : Nat)) (l' := (bt 13 7)) rfl (fun _ hc => run_mvD (.tmp 6) (by kernel_rfl) (by kernel_rfl)) s0.box ?_
    refine hTk (i := 3) (d := some 26) (v := .pointer (some ⟨Po, 0, none⟩)) (l' := (bt 13 15)) rfl (fun _ hc => run_faP (.tmp 5) (by kernel_rfl) (by kernel_rfl)) s0.box ?_
    refine hTk (i := 4) (d := some 27) (v := (.slice (some ⟨rb, ro, none⟩) ts.length rc)) (l' := (bt 13 31)) rfl (fun _ hc => run_ldTs (.tmp 26) (by kernel_rfl) (by kernel_rfl) hc) s0.box ?_
    refine hTk (i := 5) (d := some 28) (v := .int .i64 (kk : Nat)) (l' := (bt 13 63)) rfl (fun _ hc => run_mvD (.tmp 6) (by kernel_rfl) (by kernel_rfl)) s0.box ?_
    refine hTk (i := 6) (d := some 29) (v := .pointer (some ⟨rb, ro + kk * 3, none⟩)) (l' := (bt 13 127)) rfl (fun _ hc => run_ixT (.tmp 27) (.tmp 28) rb ro ts.length rc kk (by kernel_rfl) (by kernel_rfl) (by kernel_rfl) hkk) s0.box ?_
    refine hTk (i := 7) (d := some 30) (v := .pointer (some ⟨rb, ro + kk * 3, none⟩)) (l' := (bt 13 255)) rfl (fun _ hc => run_faT0 (.tmp 29) (by kernel_rfl) (by kernel_rfl)) s0.box ?_
    refine hOne (by kernel_rfl) (hVal (i := 8) (d := some 31) (v := .string (ts.getD kk dT).name) (w' := x0) (l' := (bt 13 511)) rfl (by kernel_rfl) (by kernel_rfl) (by kernel_rfl) (run_ldSt (.tmp 30) (by kernel_rfl) (by kernel_rfl) (s0.pl.cell hkk 0 (by omega)).1) s0.box ?_)
    refine hTk (i := 9) (d := some 32) (v := .string nz) (l' := (bt 13 1023)) rfl (fun _ hc => (by rw [HNZ.out]; exact run_addSS (.tmp 31) (.const (.string ⟨#[122]⟩)) (ts.getD kk dT).name ⟨#[122]⟩ (by kernel_rfl) (by kernel_rfl) (by kernel_rfl) hnz1)) s0.box ?_
    refine hTk (i := 10) (d := some 33) (v := .pointer (some ⟨rb, ro + kk * 3, none⟩)) (l' := (bt 13 2047)) rfl (fun _ hc => run_ixT (.tmp 24) (.tmp 25) rb ro ts.length rc kk (by kernel_rfl) (by kernel_rfl) (by kernel_rfl) hkk) s0.box ?_
    refine hTk (i := 11) (d := some 34) (v := .pointer (some ⟨rb, ro + kk * 3, none⟩)) (l' := (bt 13 4095)) rfl (fun _ hc => run_faT0 (.tmp 33) (by kernel_rfl) (by kernel_rfl)) s0.box ?_
    have hcP : x0.cell? ⟨rb, ro + kk * 3, none⟩ = some (.string (ts.getD kk dT).name) := (s0.pl.cell hkk 0 (by omega)).1
    have hfP : x0.frozen? ⟨rb, ro + kk * 3, none⟩ = false := (s0.pl.cell hkk 0 (by omega)).2
    have sN := s0.setN hkk nz hnz2
    have bN := sN.box
    refine hOne (by kernel_rfl) (hSkip (i := 12) (w' := x0.setCell ⟨rb, ro + kk * 3, none⟩ (.string nz)) (l' := (bt 13 8191)) rfl (by kernel_rfl) (by kernel_rfl) (by kernel_rfl) (run_stSt (.tmp 34) (.tmp 32) _ (by kernel_rfl) (by kernel_rfl) (by kernel_rfl) hcP hfP) bN ?_)
    obtain ⟨xw168, hxw168⟩ : ∃ V, V = x0.setCell ⟨rb, ro + kk * 3, none⟩ (.string nz) := ⟨_, rfl⟩
    rw [← hxw168] at sN
    rw [← hxw168]
    clear hxw168 s0 bN hcP hfP
    refine wpAnyH_done (by kernel_rfl) ?_ _
    have HF := sN.fin (by simp; omega)
    have p0 := sN.box
    have k0 : xw168.cell? ⟨w.heap.size + 1, 0, none⟩ = some (.slice none 0 0) := (sN.R 0 (by simp)).1
    have f0 : xw168.frozen? ⟨w.heap.size + 1, 0, none⟩ = false := (sN.R 0 (by simp)).2
    have HFF := hid (HF.imp id (fun h => And.intro (h.1.mono (show _ ≤ k + 200 by omega)) h.2))
    clear HF sN
    go_wp2
    exact bodyPost_ret (v := .agg #[(.slice (some ⟨rb, ro, none⟩) ts.length rc)]) (by simp [results, Tryd.results34, go_sem, k0]) rfl HFF.out
end Go.Proofs.YtimpfhfgcmipgaaDoor
