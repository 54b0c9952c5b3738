
/-
  impl.bender, change, impl.Bend.
-/
import Derived.Test.YtfocmmiajcamiaaNsb
namespace Go.Proofs.Ytfocmmiajcamiaa
open Go.RowKit

set_option maxHeartbeats 1000000 in
set_option maxRecDepth 100000 in
theorem bendFn_any (x0 : Int) (x1 x2 : ByteArray) (p1 p2 : Nat) (place mask : Int) (w : World) (h1 : w.cell? ⟨p1, 0, none⟩ = some (.int .i64 place)) (h2 : w.cell? ⟨p2, 0, none⟩ = some (.int .i64 mask)) (hgs : x2.size ≤ maxLen) :
    Calls Try.prog 32 #[.agg #[.int .i64 x0, .string x1, .string x2], .pointer (some ⟨p1, 0, none⟩), .pointer (some ⟨p2, 0, none⟩)] w fun e w' => e = .returned (.agg #[.int .i64 x0, .string x1, .string (bendS x2 place mask)]) ∧ Below w.heap.size w w' := by
  have hl1 := World.block_lt_of_cell? _ _ h1
  have hl2 := World.block_lt_of_cell? _ _ h2
  dsimp only at hl1 hl2
  obtain ⟨W, hW⟩ : ∃ W, W = (w.alloc (.cells #[.int .i64 x0, .string x1, .string x2] 37)).alloc (.cells #[.int .i64 0, .string ⟨#[]⟩, .string ⟨#[]⟩] 37) := ⟨_, rfl⟩
  have hbW : Below w.heap.size w W := by rw [hW]; exact ((Below.refl _ _).alloc (Nat.le_refl _) _).alloc (by simp) _
  have hsW : W.heap.size = w.heap.size + 2 := by rw [hW]; simp
  have hA : CF W w.heap.size [.int .i64 x0, .string x1, .string x2] := by
    rw [hW]
    exact (CF.made w _ _).block (Below.heap_alloc _ _ _ (by simp))
  have hC : CF W (w.heap.size + 1) [.int .i64 0, .string ⟨#[]⟩, .string ⟨#[]⟩] := by
    rw [hW]
    have := CF.made (w.alloc (.cells #[.int .i64 x0, .string x1, .string x2] 37)) #[.int .i64 0, .string ⟨#[]⟩, .string ⟨#[]⟩] 37
    simpa using this
  have e1 : W.cell? ⟨p1, 0, none⟩ = some (.int .i64 place) := keepB hbW h1
  have e2 : W.cell? ⟨p2, 0, none⟩ = some (.int .i64 mask) := keepB hbW h2
  have hgs' := hgs
  unfold maxLen at hgs'
  by_cases hin : 0 ≤ place ∧ place < x2.size ∧ 0 ≤ mask
  · obtain ⟨hp0, hp1, hm⟩ := hin
    obtain ⟨q, rfl⟩ : ∃ q : Nat, place = q := ⟨place.toNat, by omega⟩
    have HS := hid (show bendS x2 q mask = strOfNums (bendN x2 q mask) by unfold bendS; rw [if_pos ⟨hp0, hp1, hm⟩, Int.toNat_natCast])
    have HI := hid (show inB (q : Int) 0 ((x2.size : Int) - 1) = true by simp [inB]; omega)
    have a0 : W.cell? ⟨w.heap.size, 0, none⟩ = some (.int .i64 x0) := (hA 0 (by simp)).1
    have a1 : W.cell? ⟨w.heap.size, 1, none⟩ = some (.string x1) := (hA 1 (by simp)).1
    have a2 : W.cell? ⟨w.heap.size, 2, none⟩ = some (.string x2) := (hA 2 (by simp)).1
    have hm' : 0 ≤ mask := hm
    go_enter Try.func32, Try.ntmps32
    go_upto_region 1 with fail
    rw [← hW]
    clear hW
    go_wp2_with fail
    refine (within_any _ _ _ _).mono ?_
    rintro e w9 ⟨rfl, hw9⟩
    rw [hw9, HI.out]
    clear hw9
    go_upto_region 3 with (refine wpList_bytes_c _ rfl _ 9 45 rfl W.heap.size 5 Try.underlying9 Try.underlying45 Try.underlying5 x2 rfl hgs (Nat.le_refl _) ?_; intro vb w3 hob hgb hnb; obtain ⟨gb, og, cb, rfl, hoc⟩ := bytes_row hob (by omega); obtain ⟨_, hbc⟩ := hoc.nums; have hbq := hbc q (by omega); obtain ⟨y, hy⟩ : ∃ y, y = (bn x2).getD q 0 := ⟨_, rfl⟩; rw [← hy] at hbq; have HY := hid hy; clear hy hbc; have hfz := hoc.notFrozen (j := q) (by omega))
    have f1 : w3.cell? ⟨p1, 0, none⟩ = some (.int .i64 q) := hgb.cell e1 (by simp)
    have f2 : w3.cell? ⟨p2, 0, none⟩ = some (.int .i64 mask) := hgb.cell e2 (by simp)
    have HO := hid hoc
    have HG := hid hgb
    clear hoc hgb hob
    go_region
    have hbx : bx x2 q mask = bits BinOp.xor IntKind.u8 y (mask % 256) := by unfold bx; rw [← HY.out]
    rw [← hbx]
    clear hbx
    have hoc' := HO.out.bent (mask := mask) (q := q) (by omega)
    have hg4 : W.grownBy (w3.setCell ⟨gb, og + q, none⟩ (.int .u8 (bx x2 q mask))).drew none := by
      refine ⟨HG.out.os, HG.out.tape, HG.out.output, by simpa [World.setCell] using HG.out.size, fun i hi hne => (Below.heap_setCell _ _ _ _ (fun e => ?_)).trans (HG.out.block i hi hne)⟩
      have := HO.out.lo
      simp at e
      omega
    obtain ⟨w4, hw4⟩ : ∃ w4, w4 = (w3.setCell ⟨gb, og + q, none⟩ (.int .u8 (bx x2 q mask))).drew := ⟨_, rfl⟩
    have hoc4 : OwnC W.heap.size w4 1 gb og cb x2.size ((bendN x2 q mask).map (Value.int .u8)) := by rw [hw4]; exact hoc'.block rfl
    rw [← hw4] at hg4 ⊢
    clear hw4 hoc' HO HG f1 f2 hbq hfz
    obtain ⟨_, hbc⟩ := hoc4.nums
    have hconv := run_convert_bytes_arg (P := Try.prog) w4 45 5 Try.underlying45 Try.underlying5 gb og x2.size cb (bendN x2 q mask) (bendN_length _ _ _) (fun i hi => by rw [hbc i hi]) 9 Try.underlying9
    obtain ⟨s', hs'⟩ : ∃ s', s' = strOfNums (bendN x2 q mask) := ⟨_, rfl⟩
    rw [← hs'] at hconv
    have HS' := hid (HS.out.trans hs'.symm)
    have hA4 : CF w4 w.heap.size [.int .i64 x0, .string x1, .string x2] := hA.block (hg4.block _ (by omega) (by simp))
    have hC4 : CF w4 (w.heap.size + 1) [.int .i64 0, .string ⟨#[]⟩, .string ⟨#[]⟩] := hC.block (hg4.block _ (by omega) (by simp))
    have hA5 := hA4.set (j := 2) (by simp) (.string s')
    have hC5 : CF (w4.setCell ⟨w.heap.size, 2, none⟩ (.string s')) (w.heap.size + 1) [.int .i64 0, .string ⟨#[]⟩, .string ⟨#[]⟩] := hC4.block (Below.heap_setCell _ _ _ _ (by simp))
    simp only [List.set_cons_succ, List.set_cons_zero] at hA5
    have hb5 : Below w.heap.size w (w4.setCell ⟨w.heap.size, 2, none⟩ (.string s')) := (hbW.grown hg4 (by omega) (by simp)).setCell (by simp) _
    have c2 := hA4 2 (by simp)
    have c20 : w4.cell? ⟨w.heap.size, 2, none⟩ = some (.string x2) := c2.1
    have c21 : w4.frozen? ⟨w.heap.size, 2, none⟩ = false := c2.2
    clear hs' HS hoc4 hbc hA hC hA4 hC4 hg4 c2 HY hnb e1 e2 h1 h2 a0 a1 a2
    go_upto_region 5 with fail
    obtain ⟨w5, hw5⟩ : ∃ w5, w5 = w4.setCell ⟨w.heap.size, 2, none⟩ (.string s') := ⟨_, rfl⟩
    rw [← hw5] at hA5 hC5 hb5 ⊢
    clear hw5 hconv c20 c21
    have b0 : w5.cell? ⟨w.heap.size, 0, none⟩ = some (.int .i64 x0) := (hA5 0 (by simp)).1
    have b1 : w5.cell? ⟨w.heap.size, 1, none⟩ = some (.string x1) := (hA5 1 (by simp)).1
    have b2 : w5.cell? ⟨w.heap.size, 2, none⟩ = some (.string s') := (hA5 2 (by simp)).1
    have hsz : (Try.prog.info? 37).map (·.size) = some 3 := by kernel_rfl
    go_wp2_with (refine wpList_store_cf rfl 37 _ _ rfl (w.heap.size + 1) [.int .i64 0, .string ⟨#[]⟩, .string ⟨#[]⟩] [.int .i64 x0, .string x1, .string s'] rfl rfl hC5 rfl hsz (by intro v hv; simp only [List.mem_cons, List.not_mem_nil, or_false] at hv; rcases hv with rfl | rfl | rfl <;> rfl) ?_; intro w6 hcf6 hg6)
    have d0 : w6.cell? ⟨w.heap.size + 1, 0, none⟩ = some (.int .i64 x0) := (hcf6 0 (by simp)).1
    have d1 : w6.cell? ⟨w.heap.size + 1, 1, none⟩ = some (.string x1) := (hcf6 1 (by simp)).1
    have d2 : w6.cell? ⟨w.heap.size + 1, 2, none⟩ = some (.string s') := (hcf6 2 (by simp)).1
    have hb6 := hb5.grown hg6 hb5.size (fun k hk => by injection hk with hk; omega)
    refine bodyPost_ret (v := .agg #[.int .i64 x0, .string x1, .string s']) (by simp [results, Try.results32, go_sem, d0, d1, d2]) rfl ⟨by rw [HS'.out], hb6⟩
  · have HS := hid (show bendS x2 place mask = x2 by unfold bendS; rw [if_neg hin])
    clear hW hbW hsW hA hC e1 e2
    cases hI : inB place 0 ((x2.size : Int) - 1) with
    | false =>
      have HI := hid hI
      clear hI
      go_enter Try.func32, Try.ntmps32
      go_wp2_with fail
      refine (within_any _ _ _ _).mono ?_
      rintro e w9 ⟨rfl, hw9⟩
      rw [hw9, HI.out]
      clear hw9
      go_wp2
      refine bodyPost_ret (v := .agg #[.int .i64 x0, .string x1, .string x2]) (by simp [results, Try.results32, go_sem]) rfl ⟨by rw [HS.out], ?_⟩
      repeat (first | exact Below.refl _ _ | refine Below.setCell ?_ (by first | exact Nat.le_refl _ | (dsimp only; omega) | (simp; done) | (simp; omega)) _ | refine Below.alloc ?_ (by first | (simp; done) | (simp; omega)) _)
    | true =>
      have hm : ¬ 0 ≤ mask := fun hh => hin (by
        have := inB_t hI
        omega)
      have HI := hid hI
      clear hI
      go_enter Try.func32, Try.ntmps32
      go_wp2_with fail
      refine (within_any _ _ _ _).mono ?_
      rintro e w9 ⟨rfl, hw9⟩
      rw [hw9, HI.out]
      clear hw9
      go_wp2
      refine bodyPost_ret (v := .agg #[.int .i64 x0, .string x1, .string x2]) (by simp [results, Try.results32, go_sem]) rfl ⟨by rw [HS.out], ?_⟩
      repeat (first | exact Below.refl _ _ | refine Below.setCell ?_ (by first | exact Nat.le_refl _ | (dsimp only; omega) | (simp; done) | (simp; omega)) _ | refine Below.alloc ?_ (by first | (simp; done) | (simp; omega)) _)
end Go.Proofs.Ytfocmmiajcamiaa
