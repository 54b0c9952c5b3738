
/- impl.readBody, a case. -/
import Derived.Test.YtlgmkmegkojgbaaDoorRBody
namespace Go.Proofs.YtlgmkmegkojgbaaDoor
open Go.RowKit

set_option maxHeartbeats 4000000 in
set_option maxRecDepth 100000 in
theorem readBody_s (body : ByteArray) (w : World) (hT : Tab w) (hL : body.data.toList.length < 11) :
    Calls Tryd.prog 74 #[.string body] w fun e' w' => RetR e' w w' body.data.toList ∧ Below w.heap.size w w' := by
  obtain ⟨i0, hi, hz0, hz1, hz2⟩ := info_parts Tryd.info9
  obtain ⟨W, hW⟩ : ∃ W, W = ((w.alloc (.cells zM.toArray 27)).alloc (.cells #[.string body, .nilIface] 139)).alloc (.cells zM.toArray 27) := ⟨_, rfl⟩
  obtain ⟨hs0, hr00⟩ := rb_start w body W hW
  obtain ⟨N, hN⟩ : ∃ N, N = body.data.toList.length := ⟨_, rfl⟩
  have hr0 : RdQ W (w.heap.size + 1) N 0 := .inl ⟨_, hr00, by omega⟩
  clear hr00
  have hN11 : N < 11 := by omega
  simp only [zM] at hW
  have HN11 := hid hN11
  clear hN hN11
  go_enter Tryd.func74, Tryd.ntmps74
  go_wp2_with fail
  rw [← hW]
  clear hW
  refine (number_Q (w.heap.size + 1) 1 N 0 _ hr0 (by omega) (by omega)).mono ?_
  rintro e0 w1 ⟨⟨n0, rfl, hz0⟩, hr0', hg0⟩
  have hs0' := hs0.call hg0
  have c0 : w1.cell? ⟨w.heap.size + 1 + 1, 0, none⟩ = some (.int .i64 0) := (hs0'.m 0 (by simp [zM])).1
  have f0 := (hs0'.m 0 (by simp [zM])).2
  have hs1 := hs0'.store (j := 0) (by simp [zM]) (.int .i64 n0)
  have hr1 := hr0'.store (j := 0) (u := .int .i64 n0)
  simp only [zM, List.set_cons_zero] at hs1
  clear hs0' hr0' hg0 hs0 hr0
  go_wp2_with fail
  refine (number_Q (w.heap.size + 1) 1 N 1 _ hr1 (by omega) (by omega)).mono ?_
  rintro e0 w2 ⟨⟨n1, rfl, hz1⟩, hr1', hg1⟩
  have hs1' := hs1.call hg1
  have c1 : w2.cell? ⟨w.heap.size + 1 + 1, 1, none⟩ = some (.int .i64 0) := (hs1'.m 1 (by simp)).1
  have f1 := (hs1'.m 1 (by simp)).2
  have hs2 := hs1'.store (j := 1) (by simp) (.int .i64 n1)
  have hr2 := hr1'.store (j := 1) (u := .int .i64 n1)
  simp only [List.set_cons_zero, List.set_cons_succ] at hs2
  clear hs1' hr1' hg1 hs1 hr1
  clear c0 f0
  go_wp2_with fail
  refine (number_Q (w.heap.size + 1) 1 N 2 _ hr2 (by omega) (by omega)).mono ?_
  rintro e0 w3 ⟨⟨n2, rfl, hz2⟩, hr2', hg2⟩
  have hs2' := hs2.call hg2
  have c2 : w3.cell? ⟨w.heap.size + 1 + 1, 2, none⟩ = some (.int .i64 0) := (hs2'.m 2 (by simp)).1
  have f2 := (hs2'.m 2 (by simp)).2
  have hs3 := hs2'.store (j := 2) (by simp) (.int .i64 n2)
  have hr3 := hr2'.store (j := 2) (u := .int .i64 n2)
  simp only [List.set_cons_zero, List.set_cons_succ] at hs3
  clear hs2' hr2' hg2 hs2 hr2
  clear c1 f1
  go_wp2_with fail
  refine (number_Q (w.heap.size + 1) 2 N 3 _ hr3 (by omega) (by omega)).mono ?_
  rintro e0 w4 ⟨⟨n3, rfl, hz3⟩, hr3', hg3⟩
  have hs3' := hs3.call hg3
  have c3 : w4.cell? ⟨w.heap.size + 1 + 1, 3, none⟩ = some (.int .i64 0) := (hs3'.m 3 (by simp)).1
  have f3 := (hs3'.m 3 (by simp)).2
  have hs4 := hs3'.store (j := 3) (by simp) (.int .i64 n3)
  have hr4 := hr3'.store (j := 3) (u := .int .i64 n3)
  simp only [List.set_cons_zero, List.set_cons_succ] at hs4
  clear hs3' hr3' hg3 hs3 hr3
  clear c2 f2
  go_wp2_with fail
  refine (number_Q (w.heap.size + 1) 4 N 5 _ hr4 (by omega) (by omega)).mono ?_
  rintro e0 w5 ⟨⟨n4, rfl, hz4⟩, hr4', hg4⟩
  have hs4' := hs4.call hg4
  have c4 : w5.cell? ⟨w.heap.size + 1 + 1, 4, none⟩ = some (.int .i64 0) := (hs4'.m 4 (by simp)).1
  have f4 := (hs4'.m 4 (by simp)).2
  have hs5 := hs4'.store (j := 4) (by simp) (.int .i64 n4)
  have hr5 := hr4'.store (j := 4) (u := .int .i64 n4)
  simp only [List.set_cons_zero, List.set_cons_succ] at hs5
  clear hs4' hr4' hg4 hs4 hr4
  clear c3 f3
  go_wp2_with fail
  refine (number_Q (w.heap.size + 1) 1 N 9 _ hr5 (by omega) (by omega)).mono ?_
  rintro e0 w6 ⟨⟨n5, rfl, hz5⟩, hr5', hg5⟩
  have hs5' := hs5.call hg5
  have c5 : w6.cell? ⟨w.heap.size + 1 + 1, 5, none⟩ = some (.int .i64 0) := (hs5'.m 5 (by simp)).1
  have f5 := (hs5'.m 5 (by simp)).2
  have hs6 := hs5'.store (j := 5) (by simp) (.int .i64 n5)
  have hr6 := hr5'.store (j := 5) (u := .int .i64 n5)
  simp only [List.set_cons_zero, List.set_cons_succ] at hs6
  clear hs5' hr5' hg5 hs5 hr5
  clear c4 f4
  go_wp2_with fail
  refine (number_Q (w.heap.size + 1) 1 N 10 _ hr6 (by omega) (by omega)).mono ?_
  rintro e0 w7 ⟨⟨n6, rfl, hz6⟩, hr6', hg6⟩
  have hs6' := hs6.call hg6
  clear hg6 hs6 hr6
  clear c5 f5
  have hN11 := HN11.out
  obtain rfl := hz6 (by omega)
  have hX : RdX w7 (w.heap.size + 1) := by
    rcases hr6' with ⟨l, _, hc⟩ | h
    · omega
    · exact h
  clear hr6' hz0 hz1 hz2 hz3 hz4 hz5 hz6 hN11 HN11
  have ck : w7.cell? ⟨w.heap.size + 1 + 1, 0, none⟩ = some (.int .i64 n0) := (hs6'.m 0 (by simp)).1
  cases h0 : inB n0 1 5 with
  | false =>
    go_wp2_with (go_at_call 64; refine (isKind_any _ _).mono ?_; rintro e' w' ⟨rfl, rfl⟩)
    have hS := hs6'
    obtain ⟨Z, hZ0⟩ : ∃ Z : Prop, Z = True := ⟨_, rfl⟩
    obtain ⟨Rp, hRp⟩ : ∃ Rp : List UInt8, Rp = [0] := ⟨_, rfl⟩
    have hR : ST w' (w.heap.size + 1) Z Rp 0 [] := ⟨rfl, .inr ⟨hX, by rw [hZ0]; trivial⟩⟩
    have hZ : Rp.length < 8 * 0 → Z := by rw [hZ0]; exact fun _ => trivial
    have hNR := s_none hL
    have hgood : Rp.length = 8 * 0 → vM n0 n1 n2 n3 n4 n5 (⟨#[]⟩ : ByteArray).size (chk 0 Rp) → bodyL n0 n1 n2 n3 n4 n5 ⟨#[]⟩ (chk 0 Rp) = body.data.toList := by rw [hRp]; exact fun h _ => absurd h (by simp)
    have hinv : Rp.length = 8 * 0 → ¬ vM n0 n1 n2 n3 n4 n5 (⟨#[]⟩ : ByteArray).size (chk 0 Rp) → NoRead body.data.toList := fun _ _ => hNR
    have hlong : ¬ Rp.length = 8 * 0 → NoRead body.data.toList := fun _ => hNR
    have hbad : Z → NoRead body.data.toList := fun _ => hNR
    clear hRp hZ0 hNR
    go_loopw [36] (fun i wr => ∃ j : Nat, j ≤ 0 ∧ i = .int .i64 j ∧ ∃ v xs, RB w w.heap.size [.int .i64 n0, .int .i64 n1, .int .i64 n2, .int .i64 n3, .int .i64 n4, .int .i64 n5, .string ⟨#[]⟩, v] wr ∧ Own (w.heap.size + 1 + 1 + 1) wr 1 v j (xs.map Value.string) ∧ ST wr (w.heap.size + 1) Z Rp j xs) (fun i _ => 0 - (intOf i).toNat)
    case atStart => exact ⟨0, Nat.zero_le _, rfl, _, [], hS, Own.nil _ _ _, hR⟩
    case round =>
      obtain ⟨j, hj, rfl, v, xs, hSj, ho, hRj⟩ := hrel
      have cv : wr.cell? ⟨w.heap.size + 1 + 1, 7, none⟩ = some v := (hSj.m 7 (by simp)).1
      have fv : wr.frozen? ⟨w.heap.size + 1 + 1, 7, none⟩ = false := (hSj.m 7 (by simp)).2
      by_cases hlt : j < 0
      · exact absurd hlt (by omega)
      · obtain rfl : j = 0 := by omega
        obtain ⟨a7, c7, rfl⟩ := ho.slc
        clear cv fv
        rcases hRj.2 with ⟨hl, h8, hxs⟩ | ⟨hx, hz⟩
        · by_cases hfull : Rp.length = 8 * 0
          · rw [List.drop_of_length_le (by omega)] at hl
            obtain ⟨rest, hrl, hok⟩ := hl
            have hr0 : rest.size = 0 := by have : rest.data.toList.length = rest.size := by { rw [Array.length_toList]; rfl }
                                           rw [hrl] at this; simpa using this.symm
            go_wp2_with fail
            refine (end_ok (w.heap.size + 1) rest _ hok hr0).mono ?_
            rintro e' w8 ⟨rfl, hg8⟩
            have hS8 := hSj.call hg8
            have ho8 := ho.grown hg8 (.inr (by intro hh; have := ho.row_lo _ hh; omega))
            have y0 : w8.cell? ⟨w.heap.size + 1 + 1, 0, none⟩ = some (.int .i64 n0) := (hS8.m 0 (by simp)).1
            have y1 : w8.cell? ⟨w.heap.size + 1 + 1, 1, none⟩ = some (.int .i64 n1) := (hS8.m 1 (by simp)).1
            have y2 : w8.cell? ⟨w.heap.size + 1 + 1, 2, none⟩ = some (.int .i64 n2) := (hS8.m 2 (by simp)).1
            have y3 : w8.cell? ⟨w.heap.size + 1 + 1, 3, none⟩ = some (.int .i64 n3) := (hS8.m 3 (by simp)).1
            have y4 : w8.cell? ⟨w.heap.size + 1 + 1, 4, none⟩ = some (.int .i64 n4) := (hS8.m 4 (by simp)).1
            have y5 : w8.cell? ⟨w.heap.size + 1 + 1, 5, none⟩ = some (.int .i64 n5) := (hS8.m 5 (by simp)).1
            have y6 : w8.cell? ⟨w.heap.size + 1 + 1, 6, none⟩ = some (.string ⟨#[]⟩) := (hS8.m 6 (by simp)).1
            have y7 : w8.cell? ⟨w.heap.size + 1 + 1, 7, none⟩ = some (.slice a7 0 c7) := (hS8.m 7 (by simp)).1
            obtain ⟨bb, oo, hSt⟩ := ho8.strs (fun s hs => Nat.le_trans (by rw [hxs] at hs; exact chk_size _ _ s hs) (by decide))
            have hTw := hT.below hS8.be hT.pos
            go_wp2_with fail
            refine (valid_any n0 n1 n2 n3 n4 n5 (⟨#[]⟩ : ByteArray) a7 bb oo 0 c7 xs _ hTw hSt).mono ?_
            rintro e' w9 ⟨⟨r, rfl, hr⟩, hb9⟩
            have hS9 := hS8.below hb9
            have ho9 := ho8.below hb9 (Nat.le_refl _)
            clear y0 y1 y2 y3 y4 y5 y6 y7 hSt hTw
            cases r with
            | true =>
              have hv := hr.1 rfl
              have y0 : w9.cell? ⟨w.heap.size + 1 + 1, 0, none⟩ = some (.int .i64 n0) := (hS9.m 0 (by simp)).1
              have y1 : w9.cell? ⟨w.heap.size + 1 + 1, 1, none⟩ = some (.int .i64 n1) := (hS9.m 1 (by simp)).1
              have y2 : w9.cell? ⟨w.heap.size + 1 + 1, 2, none⟩ = some (.int .i64 n2) := (hS9.m 2 (by simp)).1
              have y3 : w9.cell? ⟨w.heap.size + 1 + 1, 3, none⟩ = some (.int .i64 n3) := (hS9.m 3 (by simp)).1
              have y4 : w9.cell? ⟨w.heap.size + 1 + 1, 4, none⟩ = some (.int .i64 n4) := (hS9.m 4 (by simp)).1
              have y5 : w9.cell? ⟨w.heap.size + 1 + 1, 5, none⟩ = some (.int .i64 n5) := (hS9.m 5 (by simp)).1
              have y6 : w9.cell? ⟨w.heap.size + 1 + 1, 6, none⟩ = some (.string ⟨#[]⟩) := (hS9.m 6 (by simp)).1
              have y7 : w9.cell? ⟨w.heap.size + 1 + 1, 7, none⟩ = some (.slice a7 0 c7) := (hS9.m 7 (by simp)).1
              have hbx := hS9.bx
              clear hS8 ho8 hb9 hr hok
              go_wp2_with (refine wpList_store_cf rfl 27 (.tmp 2) (.tmp 57) rfl w.heap.size zM [.int .i64 n0, .int .i64 n1, .int .i64 n2, .int .i64 n3, .int .i64 n4, .int .i64 n5, .string ⟨#[]⟩, .slice a7 0 c7] rfl rfl hbx rfl Tryd.sizeMsg (one8 _ _ _ _ _ _ _ _ _ _) ?_; intro w10 hc10 hg10)
              have k0 : w10.cell? ⟨w.heap.size, 0, none⟩ = some (.int .i64 n0) := (hc10 0 (by simp)).1
              have k1 : w10.cell? ⟨w.heap.size, 1, none⟩ = some (.int .i64 n1) := (hc10 1 (by simp)).1
              have k2 : w10.cell? ⟨w.heap.size, 2, none⟩ = some (.int .i64 n2) := (hc10 2 (by simp)).1
              have k3 : w10.cell? ⟨w.heap.size, 3, none⟩ = some (.int .i64 n3) := (hc10 3 (by simp)).1
              have k4 : w10.cell? ⟨w.heap.size, 4, none⟩ = some (.int .i64 n4) := (hc10 4 (by simp)).1
              have k5 : w10.cell? ⟨w.heap.size, 5, none⟩ = some (.int .i64 n5) := (hc10 5 (by simp)).1
              have k6 : w10.cell? ⟨w.heap.size, 6, none⟩ = some (.string ⟨#[]⟩) := (hc10 6 (by simp)).1
              have k7 : w10.cell? ⟨w.heap.size, 7, none⟩ = some (.slice a7 0 c7) := (hc10 7 (by simp)).1
              refine bodyPost_ret (v := .tuple #[.agg #[.int .i64 n0, .int .i64 n1, .int .i64 n2, .int .i64 n3, .int .i64 n4, .int .i64 n5, .string ⟨#[]⟩, .slice a7 0 c7], .nilIface]) (by simp [results, Tryd.results74, go_sem, k0, k1, k2, k3, k4, k5, k6, k7]) rfl ⟨.inr ⟨_, _, _, _, _, _, _, xs, _, rfl, hv, ?_, ?_⟩, ?_⟩
              · subst hxs; exact hgood hfull hv
              · have := (ho9.grown hg10 (.inr (by intro hh; have := ho9.row_lo _ hh; omega))).mono' (show w.heap.size ≤ w.heap.size + 1 + 1 + 1 by omega)
                rw [hRj.1]; exact this
              · exact hS9.be.grown hg10 (by have := hS9.lo; omega) (fun q hq => by simp at hq; omega)
            | false =>
              have hv : ¬ vM n0 n1 n2 n3 n4 n5 (⟨#[]⟩ : ByteArray).size xs := fun hv => by have := hr.2 hv; cases this
              have HN := hid (hinv hfull (by rw [← hxs]; exact hv))
              have hSA := hS9.below ((Below.refl _ _).alloc (Nat.le_refl _) (.cells #[.string ⟨#[105, 116, 115, 32, 98, 111, 100, 121, 32, 105, 115, 32, 110, 111, 116, 32, 118, 97, 108, 105, 100]⟩] 113))
              have hbx := hSA.bx
              clear hv hr hS8 ho8 hb9 hok
              go_wp2_with (refine wpList_store_cf rfl 27 (.tmp 2) (.tmp 53) rfl w.heap.size zM [.int .i64 0, .int .i64 0, .int .i64 0, .int .i64 0, .int .i64 0, .int .i64 0, .string ⟨#[]⟩, .slice none 0 0] rfl rfl hbx rfl Tryd.sizeMsg (one8 _ _ _ _ _ _ _ _ _ _) ?_; intro w10 hc10 hg10)
              have k0 : w10.cell? ⟨w.heap.size, 0, none⟩ = some (.int .i64 0) := (hc10 0 (by simp)).1
              have k1 : w10.cell? ⟨w.heap.size, 1, none⟩ = some (.int .i64 0) := (hc10 1 (by simp)).1
              have k2 : w10.cell? ⟨w.heap.size, 2, none⟩ = some (.int .i64 0) := (hc10 2 (by simp)).1
              have k3 : w10.cell? ⟨w.heap.size, 3, none⟩ = some (.int .i64 0) := (hc10 3 (by simp)).1
              have k4 : w10.cell? ⟨w.heap.size, 4, none⟩ = some (.int .i64 0) := (hc10 4 (by simp)).1
              have k5 : w10.cell? ⟨w.heap.size, 5, none⟩ = some (.int .i64 0) := (hc10 5 (by simp)).1
              have k6 : w10.cell? ⟨w.heap.size, 6, none⟩ = some (.string ⟨#[]⟩) := (hc10 6 (by simp)).1
              have k7 : w10.cell? ⟨w.heap.size, 7, none⟩ = some (.slice none 0 0) := (hc10 7 (by simp)).1
              refine bodyPost_ret (v := .tuple #[.agg zM.toArray, .iface 73 (.pointer (some ⟨w9.heap.size, 0, none⟩))]) (by simp [results, Tryd.results74, go_sem, zM, k0, k1, k2, k3, k4, k5, k6, k7]) rfl ⟨.inl ⟨_, rfl, HN.out⟩, ?_⟩
              exact hSA.be.grown hg10 (by have := hSA.lo; omega) (fun q hq => by simp at hq; omega)
          · obtain ⟨rest, hrl, hok⟩ := hl
            have hr0 : ¬ rest.size = 0 := fun h0 => by
              have h1 : rest.data.toList.length = rest.size := by rw [Array.length_toList]; rfl
              rw [hrl, List.length_drop] at h1; omega
            have HN := hid (hlong hfull)
            go_wp2_with fail
            refine (end_long (w.heap.size + 1) rest _ hok hr0).mono ?_
            rintro e' w8 ⟨⟨ae, rfl⟩, hg8⟩
            have hS8 := hSj.call hg8
            have hbx := hS8.bx
            clear hok hg8
            go_wp2_with (refine wpList_store_cf rfl 27 (.tmp 2) (.tmp 48) rfl w.heap.size zM [.int .i64 0, .int .i64 0, .int .i64 0, .int .i64 0, .int .i64 0, .int .i64 0, .string ⟨#[]⟩, .slice none 0 0] rfl rfl hbx rfl Tryd.sizeMsg (one8 _ _ _ _ _ _ _ _ _ _) ?_; intro w10 hc10 hg10)
            have k0 : w10.cell? ⟨w.heap.size, 0, none⟩ = some (.int .i64 0) := (hc10 0 (by simp)).1
            have k1 : w10.cell? ⟨w.heap.size, 1, none⟩ = some (.int .i64 0) := (hc10 1 (by simp)).1
            have k2 : w10.cell? ⟨w.heap.size, 2, none⟩ = some (.int .i64 0) := (hc10 2 (by simp)).1
            have k3 : w10.cell? ⟨w.heap.size, 3, none⟩ = some (.int .i64 0) := (hc10 3 (by simp)).1
            have k4 : w10.cell? ⟨w.heap.size, 4, none⟩ = some (.int .i64 0) := (hc10 4 (by simp)).1
            have k5 : w10.cell? ⟨w.heap.size, 5, none⟩ = some (.int .i64 0) := (hc10 5 (by simp)).1
            have k6 : w10.cell? ⟨w.heap.size, 6, none⟩ = some (.string ⟨#[]⟩) := (hc10 6 (by simp)).1
            have k7 : w10.cell? ⟨w.heap.size, 7, none⟩ = some (.slice none 0 0) := (hc10 7 (by simp)).1
            refine bodyPost_ret (v := .tuple #[.agg zM.toArray, .iface 73 (.pointer (some ae))]) (by simp [results, Tryd.results74, go_sem, zM, k0, k1, k2, k3, k4, k5, k6, k7]) rfl ⟨.inl ⟨_, rfl, HN.out⟩, ?_⟩
            exact hS8.be.grown hg10 (by have := hS8.lo; omega) (fun q hq => by simp at hq; omega)
        · obtain ⟨ae, rest, hok⟩ := hx
          have HN := hid (hbad hz)
          go_wp2_with fail
          refine (end_bad (w.heap.size + 1) ae rest _ hok).mono ?_
          rintro e' w8 ⟨rfl, hg8⟩
          have hS8 := hSj.call hg8
          have hbx := hS8.bx
          clear hok hg8
          go_wp2_with (refine wpList_store_cf rfl 27 (.tmp 2) (.tmp 48) rfl w.heap.size zM [.int .i64 0, .int .i64 0, .int .i64 0, .int .i64 0, .int .i64 0, .int .i64 0, .string ⟨#[]⟩, .slice none 0 0] rfl rfl hbx rfl Tryd.sizeMsg (one8 _ _ _ _ _ _ _ _ _ _) ?_; intro w10 hc10 hg10)
          have k0 : w10.cell? ⟨w.heap.size, 0, none⟩ = some (.int .i64 0) := (hc10 0 (by simp)).1
          have k1 : w10.cell? ⟨w.heap.size, 1, none⟩ = some (.int .i64 0) := (hc10 1 (by simp)).1
          have k2 : w10.cell? ⟨w.heap.size, 2, none⟩ = some (.int .i64 0) := (hc10 2 (by simp)).1
          have k3 : w10.cell? ⟨w.heap.size, 3, none⟩ = some (.int .i64 0) := (hc10 3 (by simp)).1
          have k4 : w10.cell? ⟨w.heap.size, 4, none⟩ = some (.int .i64 0) := (hc10 4 (by simp)).1
          have k5 : w10.cell? ⟨w.heap.size, 5, none⟩ = some (.int .i64 0) := (hc10 5 (by simp)).1
          have k6 : w10.cell? ⟨w.heap.size, 6, none⟩ = some (.string ⟨#[]⟩) := (hc10 6 (by simp)).1
          have k7 : w10.cell? ⟨w.heap.size, 7, none⟩ = some (.slice none 0 0) := (hc10 7 (by simp)).1
          refine bodyPost_ret (v := .tuple #[.agg zM.toArray, .iface 73 (.pointer (some ae))]) (by simp [results, Tryd.results74, go_sem, zM, k0, k1, k2, k3, k4, k5, k6, k7]) rfl ⟨.inl ⟨_, rfl, HN.out⟩, ?_⟩
          exact hS8.be.grown hg10 (by have := hS8.lo; omega) (fun q hq => by simp at hq; omega)
  | true =>
    have hin := inB_t h0
    obtain ⟨m, rfl⟩ : ∃ m : Nat, n0 = m := ⟨n0.toNat, by omega⟩
    have q1 := hin.1
    have q2 := hin.2
    by_cases h3 : m = 3
    · have q3 : w7.cell? ⟨0, m * 5 + 3, none⟩ = some (.bool true) := by rw [tab_text (hT.below hs6'.be hT.pos) (by omega) (by omega), decide_eq_true h3]
      have H3 := hid h3
      clear h3
      go_wp2_with (go_at_call 64; refine (isKind_any _ _).mono ?_; rintro e' w' ⟨rfl, rfl⟩)
      refine (text_X (w.heap.size + 1) 8 _ hX).mono ?_
      rintro e' w8 ⟨rfl, hr8, hg8⟩
      have hs8 := hs6'.call hg8
      have c6 : w8.cell? ⟨w.heap.size + 1 + 1, 6, none⟩ = some (.string ⟨#[]⟩) := (hs8.m 6 (by simp)).1
      have f6 : w8.frozen? ⟨w.heap.size + 1 + 1, 6, none⟩ = false := (hs8.m 6 (by simp)).2
      have hS := hs8.store (j := 6) (by simp) (.string ⟨#[]⟩)
      have hX := hr8.store (j := 6) (u := .string ⟨#[]⟩)
      simp only [List.set_cons_zero, List.set_cons_succ] at hS
      obtain ⟨Z, hZ0⟩ : ∃ Z : Prop, Z = True := ⟨_, rfl⟩
      obtain ⟨Rp, hRp⟩ : ∃ Rp : List UInt8, Rp = [0] := ⟨_, rfl⟩
      have hR : ST (w8.setCell ⟨w.heap.size + 1 + 1, 6, none⟩ (.string ⟨#[]⟩)) (w.heap.size + 1) Z Rp 0 [] := ⟨rfl, .inr ⟨hX, by rw [hZ0]; trivial⟩⟩
      have hZ : Rp.length < 8 * 0 → Z := by rw [hZ0]; exact fun _ => trivial
      have hNR := s_none hL
      have hgood : Rp.length = 8 * 0 → vM (m : Int) n1 n2 n3 n4 n5 (⟨#[]⟩ : ByteArray).size (chk 0 Rp) → bodyL (m : Int) n1 n2 n3 n4 n5 ⟨#[]⟩ (chk 0 Rp) = body.data.toList := by rw [hRp]; exact fun h _ => absurd h (by simp)
      have hinv : Rp.length = 8 * 0 → ¬ vM (m : Int) n1 n2 n3 n4 n5 (⟨#[]⟩ : ByteArray).size (chk 0 Rp) → NoRead body.data.toList := fun _ _ => hNR
      have hlong : ¬ Rp.length = 8 * 0 → NoRead body.data.toList := fun _ => hNR
      have hbad : Z → NoRead body.data.toList := fun _ => hNR
      clear hRp hZ0 hNR
      clear hr8 hs8 hg8 hs6'
      go_wp2
      go_loopw [36] (fun i wr => ∃ j : Nat, j ≤ 0 ∧ i = .int .i64 j ∧ ∃ v xs, RB w w.heap.size [.int .i64 (m : Int), .int .i64 n1, .int .i64 n2, .int .i64 n3, .int .i64 n4, .int .i64 n5, .string ⟨#[]⟩, v] wr ∧ Own (w.heap.size + 1 + 1 + 1) wr 1 v j (xs.map Value.string) ∧ ST wr (w.heap.size + 1) Z Rp j xs) (fun i _ => 0 - (intOf i).toNat)
      case atStart => exact ⟨0, Nat.zero_le _, rfl, _, [], hS, Own.nil _ _ _, hR⟩
      case round =>
        obtain ⟨j, hj, rfl, v, xs, hSj, ho, hRj⟩ := hrel
        have cv : wr.cell? ⟨w.heap.size + 1 + 1, 7, none⟩ = some v := (hSj.m 7 (by simp)).1
        have fv : wr.frozen? ⟨w.heap.size + 1 + 1, 7, none⟩ = false := (hSj.m 7 (by simp)).2
        by_cases hlt : j < 0
        · exact absurd hlt (by omega)
        · obtain rfl : j = 0 := by omega
          obtain ⟨a7, c7, rfl⟩ := ho.slc
          clear cv fv
          rcases hRj.2 with ⟨hl, h8, hxs⟩ | ⟨hx, hz⟩
          · by_cases hfull : Rp.length = 8 * 0
            · rw [List.drop_of_length_le (by omega)] at hl
              obtain ⟨rest, hrl, hok⟩ := hl
              have hr0 : rest.size = 0 := by have : rest.data.toList.length = rest.size := by { rw [Array.length_toList]; rfl }
                                             rw [hrl] at this; simpa using this.symm
              go_wp2_with fail
              refine (end_ok (w.heap.size + 1) rest _ hok hr0).mono ?_
              rintro e' w8 ⟨rfl, hg8⟩
              have hS8 := hSj.call hg8
              have ho8 := ho.grown hg8 (.inr (by intro hh; have := ho.row_lo _ hh; omega))
              have y0 : w8.cell? ⟨w.heap.size + 1 + 1, 0, none⟩ = some (.int .i64 (m : Int)) := (hS8.m 0 (by simp)).1
              have y1 : w8.cell? ⟨w.heap.size + 1 + 1, 1, none⟩ = some (.int .i64 n1) := (hS8.m 1 (by simp)).1
              have y2 : w8.cell? ⟨w.heap.size + 1 + 1, 2, none⟩ = some (.int .i64 n2) := (hS8.m 2 (by simp)).1
              have y3 : w8.cell? ⟨w.heap.size + 1 + 1, 3, none⟩ = some (.int .i64 n3) := (hS8.m 3 (by simp)).1
              have y4 : w8.cell? ⟨w.heap.size + 1 + 1, 4, none⟩ = some (.int .i64 n4) := (hS8.m 4 (by simp)).1
              have y5 : w8.cell? ⟨w.heap.size + 1 + 1, 5, none⟩ = some (.int .i64 n5) := (hS8.m 5 (by simp)).1
              have y6 : w8.cell? ⟨w.heap.size + 1 + 1, 6, none⟩ = some (.string ⟨#[]⟩) := (hS8.m 6 (by simp)).1
              have y7 : w8.cell? ⟨w.heap.size + 1 + 1, 7, none⟩ = some (.slice a7 0 c7) := (hS8.m 7 (by simp)).1
              obtain ⟨bb, oo, hSt⟩ := ho8.strs (fun s hs => Nat.le_trans (by rw [hxs] at hs; exact chk_size _ _ s hs) (by decide))
              have hTw := hT.below hS8.be hT.pos
              go_wp2_with fail
              refine (valid_any (m : Int) n1 n2 n3 n4 n5 (⟨#[]⟩ : ByteArray) a7 bb oo 0 c7 xs _ hTw hSt).mono ?_
              rintro e' w9 ⟨⟨r, rfl, hr⟩, hb9⟩
              have hS9 := hS8.below hb9
              have ho9 := ho8.below hb9 (Nat.le_refl _)
              clear y0 y1 y2 y3 y4 y5 y6 y7 hSt hTw
              cases r with
              | true =>
                have hv := hr.1 rfl
                have y0 : w9.cell? ⟨w.heap.size + 1 + 1, 0, none⟩ = some (.int .i64 (m : Int)) := (hS9.m 0 (by simp)).1
                have y1 : w9.cell? ⟨w.heap.size + 1 + 1, 1, none⟩ = some (.int .i64 n1) := (hS9.m 1 (by simp)).1
                have y2 : w9.cell? ⟨w.heap.size + 1 + 1, 2, none⟩ = some (.int .i64 n2) := (hS9.m 2 (by simp)).1
                have y3 : w9.cell? ⟨w.heap.size + 1 + 1, 3, none⟩ = some (.int .i64 n3) := (hS9.m 3 (by simp)).1
                have y4 : w9.cell? ⟨w.heap.size + 1 + 1, 4, none⟩ = some (.int .i64 n4) := (hS9.m 4 (by simp)).1
                have y5 : w9.cell? ⟨w.heap.size + 1 + 1, 5, none⟩ = some (.int .i64 n5) := (hS9.m 5 (by simp)).1
                have y6 : w9.cell? ⟨w.heap.size + 1 + 1, 6, none⟩ = some (.string ⟨#[]⟩) := (hS9.m 6 (by simp)).1
                have y7 : w9.cell? ⟨w.heap.size + 1 + 1, 7, none⟩ = some (.slice a7 0 c7) := (hS9.m 7 (by simp)).1
                have hbx := hS9.bx
                clear hS8 ho8 hb9 hr hok
                go_wp2_with (refine wpList_store_cf rfl 27 (.tmp 2) (.tmp 57) rfl w.heap.size zM [.int .i64 (m : Int), .int .i64 n1, .int .i64 n2, .int .i64 n3, .int .i64 n4, .int .i64 n5, .string ⟨#[]⟩, .slice a7 0 c7] rfl rfl hbx rfl Tryd.sizeMsg (one8 _ _ _ _ _ _ _ _ _ _) ?_; intro w10 hc10 hg10)
                have k0 : w10.cell? ⟨w.heap.size, 0, none⟩ = some (.int .i64 (m : Int)) := (hc10 0 (by simp)).1
                have k1 : w10.cell? ⟨w.heap.size, 1, none⟩ = some (.int .i64 n1) := (hc10 1 (by simp)).1
                have k2 : w10.cell? ⟨w.heap.size, 2, none⟩ = some (.int .i64 n2) := (hc10 2 (by simp)).1
                have k3 : w10.cell? ⟨w.heap.size, 3, none⟩ = some (.int .i64 n3) := (hc10 3 (by simp)).1
                have k4 : w10.cell? ⟨w.heap.size, 4, none⟩ = some (.int .i64 n4) := (hc10 4 (by simp)).1
                have k5 : w10.cell? ⟨w.heap.size, 5, none⟩ = some (.int .i64 n5) := (hc10 5 (by simp)).1
                have k6 : w10.cell? ⟨w.heap.size, 6, none⟩ = some (.string ⟨#[]⟩) := (hc10 6 (by simp)).1
                have k7 : w10.cell? ⟨w.heap.size, 7, none⟩ = some (.slice a7 0 c7) := (hc10 7 (by simp)).1
                refine bodyPost_ret (v := .tuple #[.agg #[.int .i64 (m : Int), .int .i64 n1, .int .i64 n2, .int .i64 n3, .int .i64 n4, .int .i64 n5, .string ⟨#[]⟩, .slice a7 0 c7], .nilIface]) (by simp [results, Tryd.results74, go_sem, k0, k1, k2, k3, k4, k5, k6, k7]) rfl ⟨.inr ⟨_, _, _, _, _, _, _, xs, _, rfl, hv, ?_, ?_⟩, ?_⟩
                · subst hxs; exact hgood hfull hv
                · have := (ho9.grown hg10 (.inr (by intro hh; have := ho9.row_lo _ hh; omega))).mono' (show w.heap.size ≤ w.heap.size + 1 + 1 + 1 by omega)
                  rw [hRj.1]; exact this
                · exact hS9.be.grown hg10 (by have := hS9.lo; omega) (fun q hq => by simp at hq; omega)
              | false =>
                have hv : ¬ vM (m : Int) n1 n2 n3 n4 n5 (⟨#[]⟩ : ByteArray).size xs := fun hv => by have := hr.2 hv; cases this
                have HN := hid (hinv hfull (by rw [← hxs]; exact hv))
                have hSA := hS9.below ((Below.refl _ _).alloc (Nat.le_refl _) (.cells #[.string ⟨#[105, 116, 115, 32, 98, 111, 100, 121, 32, 105, 115, 32, 110, 111, 116, 32, 118, 97, 108, 105, 100]⟩] 113))
                have hbx := hSA.bx
                clear hv hr hS8 ho8 hb9 hok
                go_wp2_with (refine wpList_store_cf rfl 27 (.tmp 2) (.tmp 53) rfl w.heap.size zM [.int .i64 0, .int .i64 0, .int .i64 0, .int .i64 0, .int .i64 0, .int .i64 0, .string ⟨#[]⟩, .slice none 0 0] rfl rfl hbx rfl Tryd.sizeMsg (one8 _ _ _ _ _ _ _ _ _ _) ?_; intro w10 hc10 hg10)
                have k0 : w10.cell? ⟨w.heap.size, 0, none⟩ = some (.int .i64 0) := (hc10 0 (by simp)).1
                have k1 : w10.cell? ⟨w.heap.size, 1, none⟩ = some (.int .i64 0) := (hc10 1 (by simp)).1
                have k2 : w10.cell? ⟨w.heap.size, 2, none⟩ = some (.int .i64 0) := (hc10 2 (by simp)).1
                have k3 : w10.cell? ⟨w.heap.size, 3, none⟩ = some (.int .i64 0) := (hc10 3 (by simp)).1
                have k4 : w10.cell? ⟨w.heap.size, 4, none⟩ = some (.int .i64 0) := (hc10 4 (by simp)).1
                have k5 : w10.cell? ⟨w.heap.size, 5, none⟩ = some (.int .i64 0) := (hc10 5 (by simp)).1
                have k6 : w10.cell? ⟨w.heap.size, 6, none⟩ = some (.string ⟨#[]⟩) := (hc10 6 (by simp)).1
                have k7 : w10.cell? ⟨w.heap.size, 7, none⟩ = some (.slice none 0 0) := (hc10 7 (by simp)).1
                refine bodyPost_ret (v := .tuple #[.agg zM.toArray, .iface 73 (.pointer (some ⟨w9.heap.size, 0, none⟩))]) (by simp [results, Tryd.results74, go_sem, zM, k0, k1, k2, k3, k4, k5, k6, k7]) rfl ⟨.inl ⟨_, rfl, HN.out⟩, ?_⟩
                exact hSA.be.grown hg10 (by have := hSA.lo; omega) (fun q hq => by simp at hq; omega)
            · obtain ⟨rest, hrl, hok⟩ := hl
              have hr0 : ¬ rest.size = 0 := fun h0 => by
                have h1 : rest.data.toList.length = rest.size := by rw [Array.length_toList]; rfl
                rw [hrl, List.length_drop] at h1; omega
              have HN := hid (hlong hfull)
              go_wp2_with fail
              refine (end_long (w.heap.size + 1) rest _ hok hr0).mono ?_
              rintro e' w8 ⟨⟨ae, rfl⟩, hg8⟩
              have hS8 := hSj.call hg8
              have hbx := hS8.bx
              clear hok hg8
              go_wp2_with (refine wpList_store_cf rfl 27 (.tmp 2) (.tmp 48) rfl w.heap.size zM [.int .i64 0, .int .i64 0, .int .i64 0, .int .i64 0, .int .i64 0, .int .i64 0, .string ⟨#[]⟩, .slice none 0 0] rfl rfl hbx rfl Tryd.sizeMsg (one8 _ _ _ _ _ _ _ _ _ _) ?_; intro w10 hc10 hg10)
              have k0 : w10.cell? ⟨w.heap.size, 0, none⟩ = some (.int .i64 0) := (hc10 0 (by simp)).1
              have k1 : w10.cell? ⟨w.heap.size, 1, none⟩ = some (.int .i64 0) := (hc10 1 (by simp)).1
              have k2 : w10.cell? ⟨w.heap.size, 2, none⟩ = some (.int .i64 0) := (hc10 2 (by simp)).1
              have k3 : w10.cell? ⟨w.heap.size, 3, none⟩ = some (.int .i64 0) := (hc10 3 (by simp)).1
              have k4 : w10.cell? ⟨w.heap.size, 4, none⟩ = some (.int .i64 0) := (hc10 4 (by simp)).1
              have k5 : w10.cell? ⟨w.heap.size, 5, none⟩ = some (.int .i64 0) := (hc10 5 (by simp)).1
              have k6 : w10.cell? ⟨w.heap.size, 6, none⟩ = some (.string ⟨#[]⟩) := (hc10 6 (by simp)).1
              have k7 : w10.cell? ⟨w.heap.size, 7, none⟩ = some (.slice none 0 0) := (hc10 7 (by simp)).1
              refine bodyPost_ret (v := .tuple #[.agg zM.toArray, .iface 73 (.pointer (some ae))]) (by simp [results, Tryd.results74, go_sem, zM, k0, k1, k2, k3, k4, k5, k6, k7]) rfl ⟨.inl ⟨_, rfl, HN.out⟩, ?_⟩
              exact hS8.be.grown hg10 (by have := hS8.lo; omega) (fun q hq => by simp at hq; omega)
          · obtain ⟨ae, rest, hok⟩ := hx
            have HN := hid (hbad hz)
            go_wp2_with fail
            refine (end_bad (w.heap.size + 1) ae rest _ hok).mono ?_
            rintro e' w8 ⟨rfl, hg8⟩
            have hS8 := hSj.call hg8
            have hbx := hS8.bx
            clear hok hg8
            go_wp2_with (refine wpList_store_cf rfl 27 (.tmp 2) (.tmp 48) rfl w.heap.size zM [.int .i64 0, .int .i64 0, .int .i64 0, .int .i64 0, .int .i64 0, .int .i64 0, .string ⟨#[]⟩, .slice none 0 0] rfl rfl hbx rfl Tryd.sizeMsg (one8 _ _ _ _ _ _ _ _ _ _) ?_; intro w10 hc10 hg10)
            have k0 : w10.cell? ⟨w.heap.size, 0, none⟩ = some (.int .i64 0) := (hc10 0 (by simp)).1
            have k1 : w10.cell? ⟨w.heap.size, 1, none⟩ = some (.int .i64 0) := (hc10 1 (by simp)).1
            have k2 : w10.cell? ⟨w.heap.size, 2, none⟩ = some (.int .i64 0) := (hc10 2 (by simp)).1
            have k3 : w10.cell? ⟨w.heap.size, 3, none⟩ = some (.int .i64 0) := (hc10 3 (by simp)).1
            have k4 : w10.cell? ⟨w.heap.size, 4, none⟩ = some (.int .i64 0) := (hc10 4 (by simp)).1
            have k5 : w10.cell? ⟨w.heap.size, 5, none⟩ = some (.int .i64 0) := (hc10 5 (by simp)).1
            have k6 : w10.cell? ⟨w.heap.size, 6, none⟩ = some (.string ⟨#[]⟩) := (hc10 6 (by simp)).1
            have k7 : w10.cell? ⟨w.heap.size, 7, none⟩ = some (.slice none 0 0) := (hc10 7 (by simp)).1
            refine bodyPost_ret (v := .tuple #[.agg zM.toArray, .iface 73 (.pointer (some ae))]) (by simp [results, Tryd.results74, go_sem, zM, k0, k1, k2, k3, k4, k5, k6, k7]) rfl ⟨.inl ⟨_, rfl, HN.out⟩, ?_⟩
            exact hS8.be.grown hg10 (by have := hS8.lo; omega) (fun q hq => by simp at hq; omega)
    · have q3 : w7.cell? ⟨0, m * 5 + 3, none⟩ = some (.bool false) := by rw [tab_text (hT.below hs6'.be hT.pos) (by omega) (by omega), decide_eq_false h3]
      go_wp2_with (go_at_call 64; refine (isKind_any _ _).mono ?_; rintro e' w' ⟨rfl, rfl⟩)
      have hS := hs6'
      obtain ⟨Z, hZ0⟩ : ∃ Z : Prop, Z = True := ⟨_, rfl⟩
      obtain ⟨Rp, hRp⟩ : ∃ Rp : List UInt8, Rp = [0] := ⟨_, rfl⟩
      have hR : ST w' (w.heap.size + 1) Z Rp 0 [] := ⟨rfl, .inr ⟨hX, by rw [hZ0]; trivial⟩⟩
      have hZ : Rp.length < 8 * 0 → Z := by rw [hZ0]; exact fun _ => trivial
      have hNR := s_none hL
      have hgood : Rp.length = 8 * 0 → vM (m : Int) n1 n2 n3 n4 n5 (⟨#[]⟩ : ByteArray).size (chk 0 Rp) → bodyL (m : Int) n1 n2 n3 n4 n5 ⟨#[]⟩ (chk 0 Rp) = body.data.toList := by rw [hRp]; exact fun h _ => absurd h (by simp)
      have hinv : Rp.length = 8 * 0 → ¬ vM (m : Int) n1 n2 n3 n4 n5 (⟨#[]⟩ : ByteArray).size (chk 0 Rp) → NoRead body.data.toList := fun _ _ => hNR
      have hlong : ¬ Rp.length = 8 * 0 → NoRead body.data.toList := fun _ => hNR
      have hbad : Z → NoRead body.data.toList := fun _ => hNR
      clear hRp hZ0 hNR
      go_loopw [36] (fun i wr => ∃ j : Nat, j ≤ 0 ∧ i = .int .i64 j ∧ ∃ v xs, RB w w.heap.size [.int .i64 (m : Int), .int .i64 n1, .int .i64 n2, .int .i64 n3, .int .i64 n4, .int .i64 n5, .string ⟨#[]⟩, v] wr ∧ Own (w.heap.size + 1 + 1 + 1) wr 1 v j (xs.map Value.string) ∧ ST wr (w.heap.size + 1) Z Rp j xs) (fun i _ => 0 - (intOf i).toNat)
      case atStart => exact ⟨0, Nat.zero_le _, rfl, _, [], hS, Own.nil _ _ _, hR⟩
      case round =>
        obtain ⟨j, hj, rfl, v, xs, hSj, ho, hRj⟩ := hrel
        have cv : wr.cell? ⟨w.heap.size + 1 + 1, 7, none⟩ = some v := (hSj.m 7 (by simp)).1
        have fv : wr.frozen? ⟨w.heap.size + 1 + 1, 7, none⟩ = false := (hSj.m 7 (by simp)).2
        by_cases hlt : j < 0
        · exact absurd hlt (by omega)
        · obtain rfl : j = 0 := by omega
          obtain ⟨a7, c7, rfl⟩ := ho.slc
          clear cv fv
          rcases hRj.2 with ⟨hl, h8, hxs⟩ | ⟨hx, hz⟩
          · by_cases hfull : Rp.length = 8 * 0
            · rw [List.drop_of_length_le (by omega)] at hl
              obtain ⟨rest, hrl, hok⟩ := hl
              have hr0 : rest.size = 0 := by have : rest.data.toList.length = rest.size := by { rw [Array.length_toList]; rfl }
                                             rw [hrl] at this; simpa using this.symm
              go_wp2_with fail
              refine (end_ok (w.heap.size + 1) rest _ hok hr0).mono ?_
              rintro e' w8 ⟨rfl, hg8⟩
              have hS8 := hSj.call hg8
              have ho8 := ho.grown hg8 (.inr (by intro hh; have := ho.row_lo _ hh; omega))
              have y0 : w8.cell? ⟨w.heap.size + 1 + 1, 0, none⟩ = some (.int .i64 (m : Int)) := (hS8.m 0 (by simp)).1
              have y1 : w8.cell? ⟨w.heap.size + 1 + 1, 1, none⟩ = some (.int .i64 n1) := (hS8.m 1 (by simp)).1
              have y2 : w8.cell? ⟨w.heap.size + 1 + 1, 2, none⟩ = some (.int .i64 n2) := (hS8.m 2 (by simp)).1
              have y3 : w8.cell? ⟨w.heap.size + 1 + 1, 3, none⟩ = some (.int .i64 n3) := (hS8.m 3 (by simp)).1
              have y4 : w8.cell? ⟨w.heap.size + 1 + 1, 4, none⟩ = some (.int .i64 n4) := (hS8.m 4 (by simp)).1
              have y5 : w8.cell? ⟨w.heap.size + 1 + 1, 5, none⟩ = some (.int .i64 n5) := (hS8.m 5 (by simp)).1
              have y6 : w8.cell? ⟨w.heap.size + 1 + 1, 6, none⟩ = some (.string ⟨#[]⟩) := (hS8.m 6 (by simp)).1
              have y7 : w8.cell? ⟨w.heap.size + 1 + 1, 7, none⟩ = some (.slice a7 0 c7) := (hS8.m 7 (by simp)).1
              obtain ⟨bb, oo, hSt⟩ := ho8.strs (fun s hs => Nat.le_trans (by rw [hxs] at hs; exact chk_size _ _ s hs) (by decide))
              have hTw := hT.below hS8.be hT.pos
              go_wp2_with fail
              refine (valid_any (m : Int) n1 n2 n3 n4 n5 (⟨#[]⟩ : ByteArray) a7 bb oo 0 c7 xs _ hTw hSt).mono ?_
              rintro e' w9 ⟨⟨r, rfl, hr⟩, hb9⟩
              have hS9 := hS8.below hb9
              have ho9 := ho8.below hb9 (Nat.le_refl _)
              clear y0 y1 y2 y3 y4 y5 y6 y7 hSt hTw
              cases r with
              | true =>
                have hv := hr.1 rfl
                have y0 : w9.cell? ⟨w.heap.size + 1 + 1, 0, none⟩ = some (.int .i64 (m : Int)) := (hS9.m 0 (by simp)).1
                have y1 : w9.cell? ⟨w.heap.size + 1 + 1, 1, none⟩ = some (.int .i64 n1) := (hS9.m 1 (by simp)).1
                have y2 : w9.cell? ⟨w.heap.size + 1 + 1, 2, none⟩ = some (.int .i64 n2) := (hS9.m 2 (by simp)).1
                have y3 : w9.cell? ⟨w.heap.size + 1 + 1, 3, none⟩ = some (.int .i64 n3) := (hS9.m 3 (by simp)).1
                have y4 : w9.cell? ⟨w.heap.size + 1 + 1, 4, none⟩ = some (.int .i64 n4) := (hS9.m 4 (by simp)).1
                have y5 : w9.cell? ⟨w.heap.size + 1 + 1, 5, none⟩ = some (.int .i64 n5) := (hS9.m 5 (by simp)).1
                have y6 : w9.cell? ⟨w.heap.size + 1 + 1, 6, none⟩ = some (.string ⟨#[]⟩) := (hS9.m 6 (by simp)).1
                have y7 : w9.cell? ⟨w.heap.size + 1 + 1, 7, none⟩ = some (.slice a7 0 c7) := (hS9.m 7 (by simp)).1
                have hbx := hS9.bx
                clear hS8 ho8 hb9 hr hok
                go_wp2_with (refine wpList_store_cf rfl 27 (.tmp 2) (.tmp 57) rfl w.heap.size zM [.int .i64 (m : Int), .int .i64 n1, .int .i64 n2, .int .i64 n3, .int .i64 n4, .int .i64 n5, .string ⟨#[]⟩, .slice a7 0 c7] rfl rfl hbx rfl Tryd.sizeMsg (one8 _ _ _ _ _ _ _ _ _ _) ?_; intro w10 hc10 hg10)
                have k0 : w10.cell? ⟨w.heap.size, 0, none⟩ = some (.int .i64 (m : Int)) := (hc10 0 (by simp)).1
                have k1 : w10.cell? ⟨w.heap.size, 1, none⟩ = some (.int .i64 n1) := (hc10 1 (by simp)).1
                have k2 : w10.cell? ⟨w.heap.size, 2, none⟩ = some (.int .i64 n2) := (hc10 2 (by simp)).1
                have k3 : w10.cell? ⟨w.heap.size, 3, none⟩ = some (.int .i64 n3) := (hc10 3 (by simp)).1
                have k4 : w10.cell? ⟨w.heap.size, 4, none⟩ = some (.int .i64 n4) := (hc10 4 (by simp)).1
                have k5 : w10.cell? ⟨w.heap.size, 5, none⟩ = some (.int .i64 n5) := (hc10 5 (by simp)).1
                have k6 : w10.cell? ⟨w.heap.size, 6, none⟩ = some (.string ⟨#[]⟩) := (hc10 6 (by simp)).1
                have k7 : w10.cell? ⟨w.heap.size, 7, none⟩ = some (.slice a7 0 c7) := (hc10 7 (by simp)).1
                refine bodyPost_ret (v := .tuple #[.agg #[.int .i64 (m : Int), .int .i64 n1, .int .i64 n2, .int .i64 n3, .int .i64 n4, .int .i64 n5, .string ⟨#[]⟩, .slice a7 0 c7], .nilIface]) (by simp [results, Tryd.results74, go_sem, k0, k1, k2, k3, k4, k5, k6, k7]) rfl ⟨.inr ⟨_, _, _, _, _, _, _, xs, _, rfl, hv, ?_, ?_⟩, ?_⟩
                · subst hxs; exact hgood hfull hv
                · have := (ho9.grown hg10 (.inr (by intro hh; have := ho9.row_lo _ hh; omega))).mono' (show w.heap.size ≤ w.heap.size + 1 + 1 + 1 by omega)
                  rw [hRj.1]; exact this
                · exact hS9.be.grown hg10 (by have := hS9.lo; omega) (fun q hq => by simp at hq; omega)
              | false =>
                have hv : ¬ vM (m : Int) n1 n2 n3 n4 n5 (⟨#[]⟩ : ByteArray).size xs := fun hv => by have := hr.2 hv; cases this
                have HN := hid (hinv hfull (by rw [← hxs]; exact hv))
                have hSA := hS9.below ((Below.refl _ _).alloc (Nat.le_refl _) (.cells #[.string ⟨#[105, 116, 115, 32, 98, 111, 100, 121, 32, 105, 115, 32, 110, 111, 116, 32, 118, 97, 108, 105, 100]⟩] 113))
                have hbx := hSA.bx
                clear hv hr hS8 ho8 hb9 hok
                go_wp2_with (refine wpList_store_cf rfl 27 (.tmp 2) (.tmp 53) rfl w.heap.size zM [.int .i64 0, .int .i64 0, .int .i64 0, .int .i64 0, .int .i64 0, .int .i64 0, .string ⟨#[]⟩, .slice none 0 0] rfl rfl hbx rfl Tryd.sizeMsg (one8 _ _ _ _ _ _ _ _ _ _) ?_; intro w10 hc10 hg10)
                have k0 : w10.cell? ⟨w.heap.size, 0, none⟩ = some (.int .i64 0) := (hc10 0 (by simp)).1
                have k1 : w10.cell? ⟨w.heap.size, 1, none⟩ = some (.int .i64 0) := (hc10 1 (by simp)).1
                have k2 : w10.cell? ⟨w.heap.size, 2, none⟩ = some (.int .i64 0) := (hc10 2 (by simp)).1
                have k3 : w10.cell? ⟨w.heap.size, 3, none⟩ = some (.int .i64 0) := (hc10 3 (by simp)).1
                have k4 : w10.cell? ⟨w.heap.size, 4, none⟩ = some (.int .i64 0) := (hc10 4 (by simp)).1
                have k5 : w10.cell? ⟨w.heap.size, 5, none⟩ = some (.int .i64 0) := (hc10 5 (by simp)).1
                have k6 : w10.cell? ⟨w.heap.size, 6, none⟩ = some (.string ⟨#[]⟩) := (hc10 6 (by simp)).1
                have k7 : w10.cell? ⟨w.heap.size, 7, none⟩ = some (.slice none 0 0) := (hc10 7 (by simp)).1
                refine bodyPost_ret (v := .tuple #[.agg zM.toArray, .iface 73 (.pointer (some ⟨w9.heap.size, 0, none⟩))]) (by simp [results, Tryd.results74, go_sem, zM, k0, k1, k2, k3, k4, k5, k6, k7]) rfl ⟨.inl ⟨_, rfl, HN.out⟩, ?_⟩
                exact hSA.be.grown hg10 (by have := hSA.lo; omega) (fun q hq => by simp at hq; omega)
            · obtain ⟨rest, hrl, hok⟩ := hl
              have hr0 : ¬ rest.size = 0 := fun h0 => by
                have h1 : rest.data.toList.length = rest.size := by rw [Array.length_toList]; rfl
                rw [hrl, List.length_drop] at h1; omega
              have HN := hid (hlong hfull)
              go_wp2_with fail
              refine (end_long (w.heap.size + 1) rest _ hok hr0).mono ?_
              rintro e' w8 ⟨⟨ae, rfl⟩, hg8⟩
              have hS8 := hSj.call hg8
              have hbx := hS8.bx
              clear hok hg8
              go_wp2_with (refine wpList_store_cf rfl 27 (.tmp 2) (.tmp 48) rfl w.heap.size zM [.int .i64 0, .int .i64 0, .int .i64 0, .int .i64 0, .int .i64 0, .int .i64 0, .string ⟨#[]⟩, .slice none 0 0] rfl rfl hbx rfl Tryd.sizeMsg (one8 _ _ _ _ _ _ _ _ _ _) ?_; intro w10 hc10 hg10)
              have k0 : w10.cell? ⟨w.heap.size, 0, none⟩ = some (.int .i64 0) := (hc10 0 (by simp)).1
              have k1 : w10.cell? ⟨w.heap.size, 1, none⟩ = some (.int .i64 0) := (hc10 1 (by simp)).1
              have k2 : w10.cell? ⟨w.heap.size, 2, none⟩ = some (.int .i64 0) := (hc10 2 (by simp)).1
              have k3 : w10.cell? ⟨w.heap.size, 3, none⟩ = some (.int .i64 0) := (hc10 3 (by simp)).1
              have k4 : w10.cell? ⟨w.heap.size, 4, none⟩ = some (.int .i64 0) := (hc10 4 (by simp)).1
              have k5 : w10.cell? ⟨w.heap.size, 5, none⟩ = some (.int .i64 0) := (hc10 5 (by simp)).1
              have k6 : w10.cell? ⟨w.heap.size, 6, none⟩ = some (.string ⟨#[]⟩) := (hc10 6 (by simp)).1
              have k7 : w10.cell? ⟨w.heap.size, 7, none⟩ = some (.slice none 0 0) := (hc10 7 (by simp)).1
              refine bodyPost_ret (v := .tuple #[.agg zM.toArray, .iface 73 (.pointer (some ae))]) (by simp [results, Tryd.results74, go_sem, zM, k0, k1, k2, k3, k4, k5, k6, k7]) rfl ⟨.inl ⟨_, rfl, HN.out⟩, ?_⟩
              exact hS8.be.grown hg10 (by have := hS8.lo; omega) (fun q hq => by simp at hq; omega)
          · obtain ⟨ae, rest, hok⟩ := hx
            have HN := hid (hbad hz)
            go_wp2_with fail
            refine (end_bad (w.heap.size + 1) ae rest _ hok).mono ?_
            rintro e' w8 ⟨rfl, hg8⟩
            have hS8 := hSj.call hg8
            have hbx := hS8.bx
            clear hok hg8
            go_wp2_with (refine wpList_store_cf rfl 27 (.tmp 2) (.tmp 48) rfl w.heap.size zM [.int .i64 0, .int .i64 0, .int .i64 0, .int .i64 0, .int .i64 0, .int .i64 0, .string ⟨#[]⟩, .slice none 0 0] rfl rfl hbx rfl Tryd.sizeMsg (one8 _ _ _ _ _ _ _ _ _ _) ?_; intro w10 hc10 hg10)
            have k0 : w10.cell? ⟨w.heap.size, 0, none⟩ = some (.int .i64 0) := (hc10 0 (by simp)).1
            have k1 : w10.cell? ⟨w.heap.size, 1, none⟩ = some (.int .i64 0) := (hc10 1 (by simp)).1
            have k2 : w10.cell? ⟨w.heap.size, 2, none⟩ = some (.int .i64 0) := (hc10 2 (by simp)).1
            have k3 : w10.cell? ⟨w.heap.size, 3, none⟩ = some (.int .i64 0) := (hc10 3 (by simp)).1
            have k4 : w10.cell? ⟨w.heap.size, 4, none⟩ = some (.int .i64 0) := (hc10 4 (by simp)).1
            have k5 : w10.cell? ⟨w.heap.size, 5, none⟩ = some (.int .i64 0) := (hc10 5 (by simp)).1
            have k6 : w10.cell? ⟨w.heap.size, 6, none⟩ = some (.string ⟨#[]⟩) := (hc10 6 (by simp)).1
            have k7 : w10.cell? ⟨w.heap.size, 7, none⟩ = some (.slice none 0 0) := (hc10 7 (by simp)).1
            refine bodyPost_ret (v := .tuple #[.agg zM.toArray, .iface 73 (.pointer (some ae))]) (by simp [results, Tryd.results74, go_sem, zM, k0, k1, k2, k3, k4, k5, k6, k7]) rfl ⟨.inl ⟨_, rfl, HN.out⟩, ?_⟩
            exact hS8.be.grown hg10 (by have := hS8.lo; omega) (fun q hq => by simp at hq; omega)
end Go.Proofs.YtlgmkmegkojgbaaDoor
