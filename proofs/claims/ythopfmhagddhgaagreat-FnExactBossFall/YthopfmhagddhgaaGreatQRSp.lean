import Derived.Test.YthopfmhagddhgaaGreatQSChk
import Derived.Test.YthopfmhagddhgaaGreatQRIm
namespace Go.Proofs.YthopfmhagddhgaaGreat
open Go.RowKit

theorem Own.setOther {B : Nat} {w : World} {size : Nat} {v : Value} {n : Nat} {xs : List Value} (h : Own B w size v n xs) {p : Addr} (hp : v.ownBlock ≠ some p.block) (u : Value) : Own B (w.setCell p u) size v n xs := by
  rcases h with h | ⟨g, o, cap, rfl, hc⟩
  · exact .inl h
  · exact .inr ⟨g, o, cap, rfl, hc.setOther (fun e => hp (by rw [← e]; rfl)) u⟩
theorem rep_stop {ts : List TaskD} {L : List ByteArray} {j : Nat} {st st' : St} {s : ByteArray} (h : rep ts (L.take j) st = some st') (hj : j < L.length) (hs : s = L.getD j ByteArray.empty) (hn : stepR ts st' s = none) : rep ts L st = none := by
  have : rep ts (L.take (j + 1)) st = none := by rw [takeS_snoc hj, ← hs, rep_snoc, h]; exact hn
  have h2 := rep_none (r := L.drop (j + 1)) this
  rwa [List.take_append_drop] at h2
theorem rep_go {ts : List TaskD} {L : List ByteArray} {j : Nat} {st st' st'' : St} {s : ByteArray} (h : rep ts (L.take j) st = some st') (hj : j < L.length) (hs : s = L.getD j ByteArray.empty) (hn : stepR ts st' s = some st'') : rep ts (L.take (j + 1)) st = some st'' := by
  rw [takeS_snoc hj, ← hs, rep_snoc, h]; exact hn

set_option maxHeartbeats 4000000 in
set_option maxRecDepth 100000 in
theorem specReplay_any (a : Option Addr) (b o n c : Nat) (ts : List TaskD) (a1 : Option Addr) (b1 o1 n1 c1 : Nat) (L : List ByteArray) (w : World) (h : TasksAt w a b o n ts) (h1 : StrsAt w a1 b1 o1 n1 L) (hm1 : n1 ≤ 1048576) :
    Calls Tryz.prog 42 #[.agg #[.slice a n c], .slice a1 n1 c1] w fun e w' => RetS e w w' ts L ∧ Below w.heap.size w w' := by
  obtain ⟨i0, hi, hz0, hz1, hz2⟩ := info_parts Tryz.info9
  obtain ⟨W, hW⟩ : ∃ W, W = (w.alloc (.cells #[.slice a n c] 41)).alloc (.cells #[.int .i64 0, .int .i64 0, .slice none 0 0] 85) := ⟨_, rfl⟩
  have hbW : Below w.heap.size w W := by rw [hW]; exact ((Below.refl _ _).alloc (Nat.le_refl _) _).alloc (by simp) _
  have hsW : W.heap.size = w.heap.size + 2 := by rw [hW]; simp
  have hq : CF W w.heap.size [.slice a n c] ∧ CF W (w.heap.size + 1) [.int .i64 0, .int .i64 0, .slice none 0 0] := by
    have x1 := CF.made w #[.slice a n c] 41
    have x3 := CF.made (w.alloc (.cells #[.slice a n c] 41)) #[.int .i64 0, .int .i64 0, .slice none 0 0] 85
    rw [World.size_alloc] at x3
    rw [hW]; exact ⟨x1.block (Below.heap_alloc _ _ _ (by simp)), x3⟩
  go_enter Tryz.func42, Tryz.ntmps42
  go_wp2_with fail
  rw [← hW]
  refine (specCheckPlan_any a b o n c ts _ (h.below' hbW)).mono ?_
  rintro e w1 ⟨⟨cc, rfl, hcode⟩, hb1⟩
  have hq1 : CF w1 w.heap.size [.slice a n c] ∧ CF w1 (w.heap.size + 1) [.int .i64 0, .int .i64 0, .slice none 0 0] := ⟨hq.1.block (hb1.block _ (by omega)), hq.2.block (hb1.block _ (by omega))⟩
  have hB1 := hbW.trans (hb1.mono (by omega))
  have hs1 : w.heap.size + 2 ≤ w1.heap.size := by have := hb1.size; omega
  have hmax1 := h1.max
  unfold maxLen at hmax1
  have HL1 := hid h1.len
  have hnl := h.len
  clear hW hq hb1 hbW hsW
  have HNL := hid hnl
  by_cases hcc : cc = 0
  · subst hcc
    by_cases h310 : 310 < n1
    · have HN := hid (show ¬ (Code ts 0 ∧ L.length ≤ 310) from fun hh => by have := hh.2; rw [HL1.out] at this; omega)
      clear hcode hnl
      go_wp2_with (refine wpList_store_cf rfl 85 (.tmp 4) (.tmp 18) rfl (w.heap.size + 1) [.int .i64 0, .int .i64 0, .slice none 0 0] [.int .i64 1, .int .i64 0, .slice none 0 0] rfl rfl hq1.2 rfl Tryz.sizeStory (one3 _ _ _ _ _) ?_; intro w10 hc10 hg10)
      have k0 : w10.cell? ⟨w.heap.size + 1, 0, none⟩ = some (.int .i64 1) := (hc10 0 (by simp)).1
      have k1 : w10.cell? ⟨w.heap.size + 1, 1, none⟩ = some (.int .i64 0) := (hc10 1 (by simp)).1
      have k2 : w10.cell? ⟨w.heap.size + 1, 2, none⟩ = some (.slice none 0 0) := (hc10 2 (by simp)).1
      exact bodyPost_ret (v := .agg #[.int .i64 1, .int .i64 0, .slice none 0 0]) (by simp [results, Tryz.results42, go_sem, k0, k1, k2]) rfl ⟨⟨1, 0, [], _, rfl, .inl ⟨HN.out, rfl, rfl, rfl⟩, Own.nil _ _ _⟩, (hB1).grown hg10 (by have := (hB1).size; omega) (fun q hq => by simp at hq; omega)⟩
    · have hin : 1 ≤ n ∧ n ≤ 40 := by
        rcases hcode with ⟨hh, _⟩ | ⟨hh, _⟩
        · cases hh
        · omega
      have hA : allDeps ts n := HNL.out ▸ deps_of_code hcode
      have HC := hid (show Code ts 0 ∧ L.length ≤ 310 from ⟨hcode, by rw [HL1.out]; omega⟩)
      clear hcode hnl
      obtain ⟨V, hV⟩ : ∃ V, V = w1.alloc (.cells #[.int .i64 0, .int .i64 0, .slice none 0 0] 85) := ⟨_, rfl⟩
      have hsV : V.heap.size = w1.heap.size + 1 := by rw [hV]; simp
      have hsb : CF V w1.heap.size [.int .i64 0, .int .i64 0, .slice none 0 0] := by rw [hV]; exact CF.made w1 #[.int .i64 0, .int .i64 0, .slice none 0 0] 85
      have hqV : CF V w.heap.size [.slice a n c] ∧ CF V (w.heap.size + 1) [.int .i64 0, .int .i64 0, .slice none 0 0] := by rw [hV]; exact ⟨hq1.1.block (Below.heap_alloc _ _ _ (by omega)), hq1.2.block (Below.heap_alloc _ _ _ (by omega))⟩
      have hBV : Below w.heap.size w V := by rw [hV]; exact hB1.alloc (by omega) _
      clear hq1 hB1
      have h310' : ¬ ((310 : Int) < (n1 : Int)) := by omega
      go_upto_region 4 with fail
      rw [← hV]
      clear hV
      go_wp2
      go_loopw [6] (fun i wr => ∃ k : Nat, k ≤ n ∧ i = .int .i64 k ∧ ∃ v, CF wr w1.heap.size [.int .i64 0, .int .i64 0, v] ∧ Own (w1.heap.size + 1) wr 1 v k ((List.replicate k (⟨#[]⟩ : ByteArray)).map Value.string) ∧ CF wr w.heap.size [.slice a n c] ∧ CF wr (w.heap.size + 1) [.int .i64 0, .int .i64 0, .slice none 0 0] ∧ Below w.heap.size w wr ∧ w1.heap.size < wr.heap.size) (fun i _ => n - (intOf i).toNat)
      case atStart => exact ⟨0, Nat.zero_le _, rfl, _, hsb, Own.nil _ _ _, hqV.1, hqV.2, hBV, by omega⟩
      case round =>
        clear hsb hqV hBV hsV
        obtain ⟨k, hk, rfl, v, hsb, hown, hp, hz, hB, hsz⟩ := hrel
        have p0 : wr.cell? ⟨w.heap.size, 0, none⟩ = some (.slice a n c) := (hp 0 (by simp)).1
        by_cases hlt : k < n
        · have hlt' : (k : Int) < (n : Int) := by omega
          obtain ⟨U, hU⟩ : ∃ U, U = wr.alloc (.cells #[.string ⟨#[]⟩] 9) := ⟨_, rfl⟩
          have hown1 : Own (w1.heap.size + 1) U 1 (.slice (some ⟨wr.heap.size, 0, none⟩) 1 1) 1 [.string ⟨#[]⟩] := by
            rw [hU]; exact .inr ⟨_, 0, 1, rfl, OwnC.made wr (w1.heap.size + 1) 9 1 1 1 _ 1 (by omega) (Nat.le_refl _) (by unfold maxLen; omega) rfl (Nat.le_refl _) _ rfl _ (.inl rfl)⟩
          have hsrc : Src Tryz.prog 1 25 _ 1 _ U := hown1.src Tryz.underlying25 (by simp; rfl)
          have hsU : U.heap.size = wr.heap.size + 1 := by rw [hU]; simp
          have hgU : ∀ q, q < wr.heap.size → U.heap[q]? = wr.heap[q]? := fun q hq => by rw [hU]; exact Below.heap_alloc _ _ _ hq
          have hownU : Own (w1.heap.size + 1) U 1 v k ((List.replicate k (⟨#[]⟩ : ByteArray)).map Value.string) := by rw [hU]; exact hown.alloc _
          have hsbU := hsb.block (hgU _ (by omega))
          have hpU := hp.block (hgU _ (by omega))
          have hzU := hz.block (hgU _ (by omega))
          have hBU : Below w.heap.size w U := by rw [hU]; exact hB.alloc (by have := hB.size; omega) _
          have c2 : wr.cell? ⟨w1.heap.size, 2, none⟩ = some v := (hsb 2 (by simp)).1
          have hrow := hownU.row_lo
          clear hown1 hown hsb hp hz
          obtain ⟨av, cv, rfl⟩ := hownU.slc
          go_wp2_with (at_builtin; rw [← hU]; refine wpList_append_c _ rfl _ _ 25 25 rfl (w1.heap.size + 1) 9 i0 (.string ⟨#[]⟩) 1 16 Tryz.underlying25 hi hz0 hz1 hz2 rfl _ k _ rfl hownU _ 1 _ rfl hsrc (by unfold maxLen; omega) (by omega) (by omega) ?_; intro v' w6 hown' hgrow hblk; have hs6 := hgrow.size; have hsb6 := hsbU.block (hgrow.block _ (by omega) (fun e => absurd (hrow _ e.symm) (by omega))); have q2 := (hsb6 2 (by simp)).1; have q2f := (hsb6 2 (by simp)).2; obtain ⟨av', cv', rfl⟩ := hown'.slc)
          have hB6 := hBU.grown hgrow (by omega) (fun q hq => by have := hrow q hq; omega)
          have hp6 := hpU.block (hgrow.block _ (by omega) (fun e => absurd (hrow _ e.symm) (by omega)))
          have hz6 := hzU.block (hgrow.block _ (by omega) (fun e => absurd (hrow _ e.symm) (by omega)))
          have hro6 := hown'.row_lo
          go_roundw
          case rel =>
            refine ⟨k + 1, by omega, by go_num, _, hsb6.set (j := 2) (by simp) _, ?_, hp6.block (Below.heap_setCell _ _ _ _ (by dsimp only; omega)), hz6.block (Below.heap_setCell _ _ _ _ (by dsimp only; omega)), hB6.setCell (by dsimp only; omega) _, by simp [World.setCell]; omega⟩
            have : (List.replicate (k + 1) (⟨#[]⟩ : ByteArray)).map Value.string = (List.replicate k (⟨#[]⟩ : ByteArray)).map Value.string ++ [.string ⟨#[]⟩] := by rw [List.replicate_succ', List.map_append]; rfl
            rw [this]
            exact hown'.setOther (fun e => absurd (hro6 _ e) (by dsimp only; omega)) _
          case measure => simp [intOf]; omega
        · obtain rfl : k = n := by omega
          obtain ⟨g, og, cap, rfl, hoc⟩ : ∃ g og cap, v = .slice (some ⟨g, og, none⟩) k cap ∧ OwnC (w1.heap.size + 1) wr 1 g og cap k ((st0 k).2.map Value.string) := by
            rcases hown with ⟨_, h0, _⟩ | ⟨g, og, cap, hv, hc⟩
            · omega
            · exact ⟨g, og, cap, hv, hc⟩
          have hgl := hoc.lo
          have hcm := hoc.le
          clear hown
          go_wp2
          go_loopw [7] (fun i wr => ∃ j : Nat, j ≤ n1 ∧ i = .int .i64 j ∧ ∃ E R, rep ts (L.take j) (st0 k) = some (E, R) ∧ CF wr w1.heap.size [.int .i64 0, .int .i64 E, .slice (some ⟨g, og, none⟩) k cap] ∧ OwnC (w1.heap.size + 1) wr 1 g og cap k (R.map Value.string) ∧ CF wr w.heap.size [.slice a k c] ∧ CF wr (w.heap.size + 1) [.int .i64 0, .int .i64 0, .slice none 0 0] ∧ Below w.heap.size w wr ∧ w1.heap.size < wr.heap.size) (fun i _ => n1 - (intOf i).toNat)
          case atStart => exact ⟨0, Nat.zero_le _, rfl, _, _, rfl, hsb, hoc, hp, hz, hB, hsz⟩
          case round =>
            clear hsb hoc hp hz hB p0 hlt hk
            obtain ⟨j, hj, rfl, E, R, hrep, hsb, hoc, hp, hz, hB, hsz⟩ := hrel
            have hok0 := rep_ok _ (st0_ok k) hrep
            have hRl : R.length = k := hok0.2.2.1
            have hRz : ∀ s ∈ R, s.size ≤ 8 := hok0.2.2.2
            have hE0 : 0 ≤ E := hok0.1
            have hE1 : E ≤ 100000 := by have h2 := hok0.2.1; rw [List.length_take] at h2; dsimp only at h2; omega
            have HREP := hid hrep
            clear hrep hok0
            by_cases hjl : j < n1
            · obtain rfl := h1.ad (by omega)
              have hcj := (h1.below' hB).cell j hjl
              have hszs := h1.szD hjl
              obtain ⟨s, hs⟩ : ∃ s, s = L.getD j ByteArray.empty := ⟨_, rfl⟩
              rw [← hs] at hcj hszs
              have HS := hid hs
              clear hs
              have hjl' : (j : Int) < (n1 : Int) := by omega
              have hjL : j < L.length := by rw [HL1.out]; exact hjl
              have HJL := hid hjL
              clear hjL
              go_wp2_with fail
              refine (specReadE_any s _ hszs).mono ?_
              rintro e' w2 ⟨hret, hb2⟩
              have hs2 := hb2.size
              have hsb2 := hsb.block (hb2.block _ hsz)
              have hoc2 := hoc.below hb2 hoc.hi
              have hp2 := hp.block (hb2.block _ (by omega))
              have hz2' := hz.block (hb2.block _ (by omega))
              have hB2 := hB.trans (hb2.mono hB.size)
              clear hsb hoc hp hz hb2 hcj hszs
              rcases hret with ⟨rfl, hno⟩ | ⟨ke, ee, de, xe, rfl, hgood⟩
              · have HN := hid (rep_stop HREP.out HJL.out HS.out (by unfold stepR; rw [evE_none hno]; rfl))
                clear hno
                obtain ⟨U, hU⟩ : ∃ U, U = w2.alloc (.cells #[.int .i64 0, .int .i64 0, .int .i64 0, .string ⟨#[]⟩] 135) := ⟨_, rfl⟩
                have hzU : CF U (w.heap.size + 1) [.int .i64 0, .int .i64 0, .slice none 0 0] := by rw [hU]; exact hz2'.block (Below.heap_alloc _ _ _ (by omega))
                have hBU : Below w.heap.size w U := by rw [hU]; exact hB2.alloc hB2.size _
                go_upto_region 12 with fail
                rw [← hU]
                clear hU
                go_wp2_with (refine wpList_store_cf rfl 85 (.tmp 4) (.tmp 48) rfl (w.heap.size + 1) [.int .i64 0, .int .i64 0, .slice none 0 0] [.int .i64 2, .int .i64 0, .slice none 0 0] rfl rfl hzU rfl Tryz.sizeStory (one3 _ _ _ _ _) ?_; intro w10 hc10 hg10)
                have k0 : w10.cell? ⟨w.heap.size + 1, 0, none⟩ = some (.int .i64 2) := (hc10 0 (by simp)).1
                have k1 : w10.cell? ⟨w.heap.size + 1, 1, none⟩ = some (.int .i64 0) := (hc10 1 (by simp)).1
                have k2 : w10.cell? ⟨w.heap.size + 1, 2, none⟩ = some (.slice none 0 0) := (hc10 2 (by simp)).1
                exact bodyPost_ret (v := .agg #[.int .i64 2, .int .i64 0, .slice none 0 0]) (by simp [results, Tryz.results42, go_sem, k0, k1, k2]) rfl ⟨⟨2, 0, [], _, rfl, .inr ⟨HC.out, .inl ⟨by rw [HNL.out]; exact HN.out, rfl, rfl, rfl⟩⟩, Own.nil _ _ _⟩, (hBU).grown hg10 (by have := (hBU).size; omega) (fun q hq => by simp at hq; omega)⟩
              · have hev := evE_some hgood
                have hvE := hgood.1
                have HEV := hid hev
                have HSTEP := hid (show stepR ts (E, R) s = step1 ts (E, R) (ke, ee, de, xe) by unfold stepR; rw [hev]; rfl)
                clear hev hgood
                obtain ⟨U, hU⟩ : ∃ U, U = w2.alloc (.cells #[.int .i64 ke, .int .i64 ee, .int .i64 de, .string xe] 135) := ⟨_, rfl⟩
                have hgU : ∀ q, q < w2.heap.size → U.heap[q]? = w2.heap[q]? := fun q hq => by rw [hU]; exact Below.heap_alloc _ _ _ hq
                have hsU : U.heap.size = w2.heap.size + 1 := by rw [hU]; simp
                have hzU := hz2'.block (hgU _ (by omega))
                have hpU := hp2.block (hgU _ (by omega))
                have hsbU := hsb2.block (hgU _ (by omega))
                have hocU := hoc2.block (hgU _ hoc2.hi)
                have hBU : Below w.heap.size w U := by rw [hU]; exact hB2.alloc hB2.size _
                have hmcU : MC U w2.heap.size [.int .i64 ke, .int .i64 ee, .int .i64 de, .string xe] := by rw [hU]; exact MC.made w2 _ _
                have x0 : U.cell? ⟨w2.heap.size, 0, none⟩ = some (.int .i64 ke) := hmcU 0 (by simp)
                have x1 : U.cell? ⟨w2.heap.size, 1, none⟩ = some (.int .i64 ee) := hmcU 1 (by simp)
                have x2 : U.cell? ⟨w2.heap.size, 2, none⟩ = some (.int .i64 de) := hmcU 2 (by simp)
                have x3 : U.cell? ⟨w2.heap.size, 3, none⟩ = some (.string xe) := hmcU 3 (by simp)
                have y1 : U.cell? ⟨w1.heap.size, 1, none⟩ = some (.int .i64 E) := (hsbU 1 (by simp)).1
                have y1f := (hsbU 1 (by simp)).2
                have y2 : U.cell? ⟨w1.heap.size, 2, none⟩ = some (.slice (some ⟨g, og, none⟩) k cap) := (hsbU 2 (by simp)).1
                have p0 : U.cell? ⟨w.heap.size, 0, none⟩ = some (.slice a k c) := (hpU 0 (by simp)).1
                have HSB := hid hsbU
                have HOC := hid hocU
                clear hmcU hz2' hp2 hsb2 hoc2 hB2 hgU
                go_upto_region 12 with fail
                rw [← hU]
                clear hU
                unfold vE at hvE
                by_cases hk1 : ke = 1
                · subst hk1
                  clear hvE
                  by_cases hee : ee = E + 1
                  · have hee' : (ee == E + 1) = true := by simpa using hee
                    have HST := hid (show step1 ts (E, R) (1, ee, de, xe) = some (ee, R) by unfold step1; simp [hee])
                    clear hee
                    go_wp2
                    go_roundw
                    case rel =>
                      exact ⟨j + 1, by omega, by go_num, ee, R, rep_go HREP.out HJL.out HS.out (HSTEP.out.trans HST.out), (HSB.out).set (j := 1) (by simp) _, (HOC.out).setOther (by dsimp only; omega) _, hpU.block (Below.heap_setCell _ _ _ _ (by dsimp only; omega)), hzU.block (Below.heap_setCell _ _ _ _ (by dsimp only; omega)), hBU.setCell (by dsimp only; omega) _, by simp [World.setCell]; omega⟩
                    case measure => simp [intOf]; omega
                  · have hee' : (ee == E + 1) = false := by simpa using hee
                    have HN := hid (rep_stop HREP.out HJL.out HS.out (HSTEP.out.trans (by unfold step1; simp [hee])))
                    clear hee
                    go_wp2_with (refine wpList_store_cf rfl 85 (.tmp 4) (.tmp 58) rfl (w.heap.size + 1) [.int .i64 0, .int .i64 0, .slice none 0 0] [.int .i64 2, .int .i64 0, .slice none 0 0] rfl rfl hzU rfl Tryz.sizeStory (one3 _ _ _ _ _) ?_; intro w10 hc10 hg10)
                    have k0 : w10.cell? ⟨w.heap.size + 1, 0, none⟩ = some (.int .i64 2) := (hc10 0 (by simp)).1
                    have k1 : w10.cell? ⟨w.heap.size + 1, 1, none⟩ = some (.int .i64 0) := (hc10 1 (by simp)).1
                    have k2 : w10.cell? ⟨w.heap.size + 1, 2, none⟩ = some (.slice none 0 0) := (hc10 2 (by simp)).1
                    exact bodyPost_ret (v := .agg #[.int .i64 2, .int .i64 0, .slice none 0 0]) (by simp [results, Tryz.results42, go_sem, k0, k1, k2]) rfl ⟨⟨2, 0, [], _, rfl, .inr ⟨HC.out, .inl ⟨by rw [HNL.out]; exact HN.out, rfl, rfl, rfl⟩⟩, Own.nil _ _ _⟩, (hBU).grown hg10 (by have := (hBU).size; omega) (fun q hq => by simp at hq; omega)⟩
                · have hk2 : ke = 2 := by omega
                  subst hk2
                  have hd0 : 0 ≤ de := by omega
                  have hd1 : de ≤ 39 := by omega
                  clear hvE hk1
                  by_cases hee : ee = E
                  · have hee' : (ee == E) = true := by simpa using hee
                    have HEE := hid hee
                    clear hee
                    by_cases hdk : de < k
                    · obtain ⟨dn, rfl⟩ : ∃ dn : Nat, de = dn := ⟨de.toNat, by omega⟩
                      have hdn : dn < k := by omega
                      have hdk' : ¬ ((k : Int) ≤ (dn : Int)) := by omega
                      obtain ⟨u, hu, hcu⟩ := (HOC.out).cellSome (j := dn) (by omega)
                      have hfu := (HOC.out).notFrozen (j := dn) (by omega)
                      have hu' : u = .string (rs R dn) := by
                        rw [List.getElem?_map, List.getElem?_eq_getElem (by omega)] at hu
                        simp only [Option.map_some, Option.some.injEq] at hu
                        rw [← hu]
                        unfold rs
                        simp [List.getD, List.getElem?_eq_getElem (show dn < R.length by omega)]
                      subst hu'
                      clear hu
                      obtain ⟨rd, hrd⟩ : ∃ rd, rd = rs R dn := ⟨_, rfl⟩
                      rw [← hrd] at hcu
                      have HRD := hid hrd
                      clear hrd
                      by_cases hz0' : rd.size = 0
                      · have hz1' := empty_t hz0'
                        have HZ := hid hz0'
                        clear hz0'
                        have hstr := StrsAt.ofOwn (HOC.out) (fun s hs => by have := hRz s hs; unfold maxLen; omega)
                        have htas := h.below' hBU
                        go_wp2_with fail
                        refine (l4Deps_any a b o k c ts _ g og cap R dn _ htas hstr hdn hA).mono ?_
                        rintro e' w4 ⟨⟨r, rfl, hr⟩, hb4⟩
                        have hs4 := hb4.size
                        have hz4 := hzU.block (hb4.block _ (by omega))
                        have hp4 := hpU.block (hb4.block _ (by omega))
                        have hsb4 := (HSB.out).block (hb4.block _ (by omega))
                        have hoc4 := (HOC.out).below hb4 (HOC.out).hi
                        have hB4 := hBU.trans (hb4.mono hBU.size)
                        cases r with
                        | false =>
                          have HN := hid (rep_stop HREP.out HJL.out HS.out (HSTEP.out.trans (by unfold step1; rw [if_neg (show ¬ (2 : Int) = 1 by decide), if_neg]; exact fun hh => by have := hr.2 hh.2.2.2; cases this)))
                          clear hr hstr htas
                          go_upto_region 19 with fail
                          go_wp2_with (refine wpList_store_cf rfl 85 (.tmp 4) (.tmp 93) rfl (w.heap.size + 1) [.int .i64 0, .int .i64 0, .slice none 0 0] [.int .i64 2, .int .i64 0, .slice none 0 0] rfl rfl hz4 rfl Tryz.sizeStory (one3 _ _ _ _ _) ?_; intro w10 hc10 hg10)
                          have k0 : w10.cell? ⟨w.heap.size + 1, 0, none⟩ = some (.int .i64 2) := (hc10 0 (by simp)).1
                          have k1 : w10.cell? ⟨w.heap.size + 1, 1, none⟩ = some (.int .i64 0) := (hc10 1 (by simp)).1
                          have k2 : w10.cell? ⟨w.heap.size + 1, 2, none⟩ = some (.slice none 0 0) := (hc10 2 (by simp)).1
                          exact bodyPost_ret (v := .agg #[.int .i64 2, .int .i64 0, .slice none 0 0]) (by simp [results, Tryz.results42, go_sem, k0, k1, k2]) rfl ⟨⟨2, 0, [], _, rfl, .inr ⟨HC.out, .inl ⟨by rw [HNL.out]; exact HN.out, rfl, rfl, rfl⟩⟩, Own.nil _ _ _⟩, (hB4).grown hg10 (by have := (hB4).size; omega) (fun q hq => by simp at hq; omega)⟩
                        | true =>
                          have HDH := hid (hr.1 rfl)
                          have HST := hid (show step1 ts (E, R) (2, ee, (dn : Int), xe) = some (E, R.set dn xe) by
                            unfold step1
                            rw [if_neg (show ¬ (2 : Int) = 1 by decide), if_pos]
                            · simp
                            · exact ⟨HEE.out, by show (dn : Int) < _; rw [HNL.out]; omega, by show (rs R dn).size = 0; rw [← HRD.out]; exact HZ.out, HDH.out⟩)
                          clear hr hstr htas
                          have z2 : w4.cell? ⟨w1.heap.size, 2, none⟩ = some (.slice (some ⟨g, og, none⟩) k cap) := (hsb4 2 (by simp)).1
                          have t2 : w4.cell? ⟨w2.heap.size, 2, none⟩ = some (.int .i64 dn) := keepB hb4 x2
                          have t3 : w4.cell? ⟨w2.heap.size, 3, none⟩ = some (.string xe) := keepB hb4 x3
                          have tu : w4.cell? ⟨g, og + dn, none⟩ = some (.string rd) := keepB hb4 hcu
                          have tf := hoc4.notFrozen (j := dn) (by omega)
                          have hocs := hoc4.setCell (j := dn) (by omega) (.string xe)
                          rw [← List.map_set] at hocs
                          have hdn' : (dn : Int) < (k : Int) := by omega
                          clear x0 x1 x2 x3 y1 y1f y2 p0 hcu hfu hb4 hz1'
                          go_wp2
                          go_roundw
                          case rel =>
                            exact ⟨j + 1, by omega, by go_num, E, R.set dn xe, rep_go HREP.out HJL.out HS.out (HSTEP.out.trans HST.out), hsb4.block (Below.heap_setCell _ _ _ _ (by dsimp only; omega)), hocs, hp4.block (Below.heap_setCell _ _ _ _ (by dsimp only; omega)), hz4.block (Below.heap_setCell _ _ _ _ (by dsimp only; omega)), hB4.setCell (by dsimp only; omega) _, by simp [World.setCell]; omega⟩
                          case measure => simp [intOf]; omega
                      · have hz1' := empty_f hz0'
                        have HN := hid (rep_stop HREP.out HJL.out HS.out (HSTEP.out.trans (by unfold step1; rw [if_neg (show ¬ (2 : Int) = 1 by decide), if_neg]; exact fun hh => by have h9 : (rs R dn).size = 0 := hh.2.2.1; rw [← HRD.out] at h9; exact hz0' h9)))
                        clear hz0'
                        go_upto_region 19 with fail
                        go_wp2_with (refine wpList_store_cf rfl 85 (.tmp 4) (.tmp 93) rfl (w.heap.size + 1) [.int .i64 0, .int .i64 0, .slice none 0 0] [.int .i64 2, .int .i64 0, .slice none 0 0] rfl rfl hzU rfl Tryz.sizeStory (one3 _ _ _ _ _) ?_; intro w10 hc10 hg10)
                        have k0 : w10.cell? ⟨w.heap.size + 1, 0, none⟩ = some (.int .i64 2) := (hc10 0 (by simp)).1
                        have k1 : w10.cell? ⟨w.heap.size + 1, 1, none⟩ = some (.int .i64 0) := (hc10 1 (by simp)).1
                        have k2 : w10.cell? ⟨w.heap.size + 1, 2, none⟩ = some (.slice none 0 0) := (hc10 2 (by simp)).1
                        exact bodyPost_ret (v := .agg #[.int .i64 2, .int .i64 0, .slice none 0 0]) (by simp [results, Tryz.results42, go_sem, k0, k1, k2]) rfl ⟨⟨2, 0, [], _, rfl, .inr ⟨HC.out, .inl ⟨by rw [HNL.out]; exact HN.out, rfl, rfl, rfl⟩⟩, Own.nil _ _ _⟩, (hBU).grown hg10 (by have := (hBU).size; omega) (fun q hq => by simp at hq; omega)⟩
                    · have hdk' : (k : Int) ≤ de := by omega
                      have HN := hid (rep_stop HREP.out HJL.out HS.out (HSTEP.out.trans (by unfold step1; rw [if_neg (show ¬ (2 : Int) = 1 by decide), if_neg]; exact fun hh => by have h9 : de < (ts.length : Int) := hh.2.1; rw [HNL.out] at h9; omega)))
                      go_upto_region 19 with fail
                      go_wp2_with (refine wpList_store_cf rfl 85 (.tmp 4) (.tmp 93) rfl (w.heap.size + 1) [.int .i64 0, .int .i64 0, .slice none 0 0] [.int .i64 2, .int .i64 0, .slice none 0 0] rfl rfl hzU rfl Tryz.sizeStory (one3 _ _ _ _ _) ?_; intro w10 hc10 hg10)
                      have k0 : w10.cell? ⟨w.heap.size + 1, 0, none⟩ = some (.int .i64 2) := (hc10 0 (by simp)).1
                      have k1 : w10.cell? ⟨w.heap.size + 1, 1, none⟩ = some (.int .i64 0) := (hc10 1 (by simp)).1
                      have k2 : w10.cell? ⟨w.heap.size + 1, 2, none⟩ = some (.slice none 0 0) := (hc10 2 (by simp)).1
                      exact bodyPost_ret (v := .agg #[.int .i64 2, .int .i64 0, .slice none 0 0]) (by simp [results, Tryz.results42, go_sem, k0, k1, k2]) rfl ⟨⟨2, 0, [], _, rfl, .inr ⟨HC.out, .inl ⟨by rw [HNL.out]; exact HN.out, rfl, rfl, rfl⟩⟩, Own.nil _ _ _⟩, (hBU).grown hg10 (by have := (hBU).size; omega) (fun q hq => by simp at hq; omega)⟩
                  · have hee' : (ee == E) = false := by simpa using hee
                    have HN := hid (rep_stop HREP.out HJL.out HS.out (HSTEP.out.trans (by unfold step1; rw [if_neg (show ¬ (2 : Int) = 1 by decide), if_neg]; exact fun hh => hee hh.1)))
                    clear y2 p0 x2 x3 hd0 hd1
                    go_upto_region 19 with fail
                    go_wp2_with (refine wpList_store_cf rfl 85 (.tmp 4) (.tmp 93) rfl (w.heap.size + 1) [.int .i64 0, .int .i64 0, .slice none 0 0] [.int .i64 2, .int .i64 0, .slice none 0 0] rfl rfl hzU rfl Tryz.sizeStory (one3 _ _ _ _ _) ?_; intro w10 hc10 hg10)
                    have k0 : w10.cell? ⟨w.heap.size + 1, 0, none⟩ = some (.int .i64 2) := (hc10 0 (by simp)).1
                    have k1 : w10.cell? ⟨w.heap.size + 1, 1, none⟩ = some (.int .i64 0) := (hc10 1 (by simp)).1
                    have k2 : w10.cell? ⟨w.heap.size + 1, 2, none⟩ = some (.slice none 0 0) := (hc10 2 (by simp)).1
                    exact bodyPost_ret (v := .agg #[.int .i64 2, .int .i64 0, .slice none 0 0]) (by simp [results, Tryz.results42, go_sem, k0, k1, k2]) rfl ⟨⟨2, 0, [], _, rfl, .inr ⟨HC.out, .inl ⟨by rw [HNL.out]; exact HN.out, rfl, rfl, rfl⟩⟩, Own.nil _ _ _⟩, (hBU).grown hg10 (by have := (hBU).size; omega) (fun q hq => by simp at hq; omega)⟩
            · obtain rfl : j = n1 := by omega
              have HREP2 := hid (show rep ts L (st0 k) = some (E, R) by have := HREP.out; rwa [List.take_of_length_le (by rw [HL1.out]; omega)] at this)
              have y0 : wr.cell? ⟨w1.heap.size, 0, none⟩ = some (.int .i64 0) := (hsb 0 (by simp)).1
              have y1 : wr.cell? ⟨w1.heap.size, 1, none⟩ = some (.int .i64 E) := (hsb 1 (by simp)).1
              have y2 : wr.cell? ⟨w1.heap.size, 2, none⟩ = some (.slice (some ⟨g, og, none⟩) k cap) := (hsb 2 (by simp)).1
              go_wp2_with (refine wpList_store_cf rfl 85 (.tmp 4) (.tmp 101) rfl (w.heap.size + 1) [.int .i64 0, .int .i64 0, .slice none 0 0] [.int .i64 0, .int .i64 E, .slice (some ⟨g, og, none⟩) k cap] rfl rfl hz rfl Tryz.sizeStory (one3 _ _ _ _ _) ?_; intro w10 hc10 hg10)
              have k0 : w10.cell? ⟨w.heap.size + 1, 0, none⟩ = some (.int .i64 0) := (hc10 0 (by simp)).1
              have k1 : w10.cell? ⟨w.heap.size + 1, 1, none⟩ = some (.int .i64 E) := (hc10 1 (by simp)).1
              have k2 : w10.cell? ⟨w.heap.size + 1, 2, none⟩ = some (.slice (some ⟨g, og, none⟩) k cap) := (hc10 2 (by simp)).1
              exact bodyPost_ret (v := .agg #[.int .i64 0, .int .i64 E, .slice (some ⟨g, og, none⟩) k cap]) (by simp [results, Tryz.results42, go_sem, k0, k1, k2]) rfl ⟨⟨0, E, R, _, rfl, .inr ⟨HC.out, .inr ⟨by rw [HNL.out]; exact HREP2.out, rfl⟩⟩, .inr ⟨g, og, cap, by rw [hRl], by rw [hRl]; exact (hoc.grown hg10 (by simp; omega)).mono (by omega)⟩⟩, hB.grown hg10 (by have := hB.size; omega) (fun q hq => by simp at hq; omega)⟩
  · have hcc' : (cc == 0) = false := by simpa using hcc
    have HN := hid (show ¬ (Code ts 0 ∧ L.length ≤ 310) from fun hh => hcc (hcode.one hh.1))
    clear hcode hnl
    go_wp2_with (refine wpList_store_cf rfl 85 (.tmp 4) (.tmp 18) rfl (w.heap.size + 1) [.int .i64 0, .int .i64 0, .slice none 0 0] [.int .i64 1, .int .i64 0, .slice none 0 0] rfl rfl hq1.2 rfl Tryz.sizeStory (one3 _ _ _ _ _) ?_; intro w10 hc10 hg10)
    have k0 : w10.cell? ⟨w.heap.size + 1, 0, none⟩ = some (.int .i64 1) := (hc10 0 (by simp)).1
    have k1 : w10.cell? ⟨w.heap.size + 1, 1, none⟩ = some (.int .i64 0) := (hc10 1 (by simp)).1
    have k2 : w10.cell? ⟨w.heap.size + 1, 2, none⟩ = some (.slice none 0 0) := (hc10 2 (by simp)).1
    exact bodyPost_ret (v := .agg #[.int .i64 1, .int .i64 0, .slice none 0 0]) (by simp [results, Tryz.results42, go_sem, k0, k1, k2]) rfl ⟨⟨1, 0, [], _, rfl, .inl ⟨HN.out, rfl, rfl, rfl⟩, Own.nil _ _ _⟩, (hB1).grown hg10 (by have := (hB1).size; omega) (fun q hq => by simp at hq; omega)⟩
end Go.Proofs.YthopfmhagddhgaaGreat
