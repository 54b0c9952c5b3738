import Derived.Test.YtaeomkpofcbmiaaGreatQBfk
import Derived.Test.YtaeomkpofcbmiaaGreatQBts
namespace Go.Proofs.YtaeomkpofcbmiaaGreat
open Go.RowKit

section
variable {ρ : Operand → Value} {o : Oper} {w : World}
theorem run_faB6 {g : Nat} (x : Operand) (h : o.op = .fieldAddr 40 x 6) (hx : ρ x = .pointer (some ⟨g, 0, none⟩)) : (execOp ρ o).run Tryz.prog w = .ok (.value (.pointer (some ⟨g, 6, none⟩))) w := by
  unfold execOp; rw [h]; simp [go_sem, hx]
theorem run_faL0 {g k : Nat} (x : Operand) (h : o.op = .fieldAddr 35 x 0) (hx : ρ x = .pointer (some ⟨g, k, none⟩)) : (execOp ρ o).run Tryz.prog w = .ok (.value (.pointer (some ⟨g, k, none⟩))) w := by
  unfold execOp; rw [h]; simp [go_sem, hx]
theorem run_faL1 {g k : Nat} (x : Operand) (h : o.op = .fieldAddr 35 x 1) (hx : ρ x = .pointer (some ⟨g, k, none⟩)) : (execOp ρ o).run Tryz.prog w = .ok (.value (.pointer (some ⟨g, k + 1, none⟩))) w := by
  unfold execOp; rw [h]; simp [go_sem, hx]
theorem run_stL2 {p q : Nat} (a : Option Addr) (n c : Nat) (x y : Operand) (h : o.op = .store 35 x y) (hx : ρ x = .pointer (some ⟨p, q, none⟩)) (hy : ρ y = .agg #[.slice a n c, .slice none 0 0]) (ht : w.there p q 2) :
    (execOp ρ o).run Tryz.prog w = .ok .skip (w.setCells p q [.slice a n c, .slice none 0 0]) := by
  have hi' : (Tryz.prog.info? 35).map (·.size) = some (#[Value.slice a n c, .slice none 0 0] : Array Value).size := by kernel_rfl
  have h1 : (#[Value.slice a n c, .slice none 0 0] : Array Value).all (·.oneCell') = true := by kernel_rfl
  unfold execOp
  rw [h]
  simp only [hx, hy, Instr.storeAt, Instr.sureAddr, Sem.run_bind, Sem.run_pure, Result.andThen_ok, run_storeVar_mid w p q 35 #[.slice a n c, .slice none 0 0] ht hi' h1]
end
set_option maxHeartbeats 8000000 in
set_option maxRecDepth 100000 in
theorem flush_any (w0 wK : World) (B Qm Qd Qp : Nat) (d : BD) (h : BH) (ts : List TaskD) (pa : Option Addr) (pc : Nat) (now sn : Int) (nb : Nat) (st : HSt) (v : Value) (vs : List Value) (w : World) (s : DkS w0 wK B Qm Qd Qp d h ts pa pc now sn nb st v vs w) (hsn : 0 ≤ sn ∧ sn ≤ 1) (hB : w0.heap.size ≤ B) (hml : st.M.length ≤ 40) (hol : d.O.length ≤ 2000) (hl1 : d.L1.length + d.L2.length ≤ 1048576) :
    Calls Tryz.prog 77 #[.pointer (some ⟨Qd, 0, none⟩)] w fun e w' => e = .returned (.tuple #[]) ∧ ∃ hF v' vs', DkF w0 B Qd (flB d st now sn).1 hF (.slice pa ts.length pc) (.map (some Qp)) v' (flB d st now sn).2 vs' w' := by
  obtain ⟨i0, hi0, hz00, hz01, hz02⟩ := info_parts Tryz.info9
  have y3 : w.cell? ⟨Qd, 3, none⟩ = some (.int .i64 sn) := (s.D 3 (by simp)).1
  have f3 : w.frozen? ⟨Qd, 3, none⟩ = false := (s.D 3 (by simp)).2
  go_enter Tryz.func77, Tryz.ntmps77
  go_upto_region 2 with fail
  have s1 := s.setSn (sn + 1)
  obtain ⟨W1, hW1⟩ : ∃ V, V = w.setCell ⟨Qd, 3, none⟩ (.int .i64 (sn + 1)) := ⟨_, rfl⟩
  rw [← hW1] at s1
  rw [← hW1]
  clear hW1 y3 f3 s
  have y3 : W1.cell? ⟨Qd, 3, none⟩ = some (.int .i64 (sn + 1)) := (s1.D 3 (by simp)).1
  have f3 : W1.frozen? ⟨Qd, 3, none⟩ = false := (s1.D 3 (by simp)).2
  by_cases hlt : sn + 1 < 2
  case pos =>
    have HF := hid (show DkF w0 B Qd (flB d st now sn).1 h (.slice pa ts.length pc) (.map (some Qp)) v (flB d st now sn).2 vs W1 by
      unfold flB; rw [if_pos hlt]; exact s1.fin hB)
    clear s1
    go_wp2_with fail
    (try simp only [Exit.inBlock, Exit.then])
    refine bodyPost_ret (results_none rfl _ _ _) rfl ?_
    exact ⟨rfl, h, v, vs, HF.out⟩
  case neg =>
    have HFL := hid (show flB d st now sn = (⟨d.wk, d.up, now, 0, d.ep, st.gv, d.L1 ++ d.L2, [], d.R, st.J, st.S, []⟩, st.M ++ d.O.map (thx d.ep)) by unfold flB; rw [if_neg hlt])
    go_upto_region 4 with fail
    have s2 := s1.setSn 0
    obtain ⟨W2, hW2⟩ : ∃ V, V = W1.setCell ⟨Qd, 3, none⟩ (.int .i64 0) := ⟨_, rfl⟩
    rw [← hW2] at s2
    rw [← hW2]
    clear hW2 y3 f3 s1 hlt
    go_cut [37] (fun _ wx => ∃ a9 c9, FlS w0 B Qm Qd Qp d h ts pa pc now a9 c9 (d.L1 ++ d.L2) st v vs wx)
    case first =>
      refine wp_region_held (S := fun _ => True) (by kernel_rfl) ?_
      change wpAnyH _ _ _ _ _ _ _ _ (World.drew _)
      have s0 := s2.below (Below.refl W2.heap.size W2).drew
      obtain ⟨x0, hx0⟩ : ∃ U, U = W2.drew := ⟨_, rfl⟩
      rw [← hx0] at s0
      rw [← hx0]
      clear hx0 s2
      have hS0 : x0.cell? ⟨Qd, 6, none⟩ = some (.slice h.a1 d.L1.length h.c1) ∧ x0.cell? ⟨Qd, 7, none⟩ = some (.slice h.a2 d.L2.length h.c2) := ⟨(s0.D 6 (by simp)).1, (s0.D 7 (by simp)).1⟩
      have hbz := s0.H.bs
      have hsz := s0.H.sz
      refine hTk (i := 0) (d := some 23) (v := .pointer (some ⟨Qd, 0, none⟩)) (l' := (bt 16 1)) rfl (fun _ hc => run_mvF (.tmp 2) (by kernel_rfl) (by kernel_rfl)) trivial ?_
      refine hTk (i := 1) (d := some 24) (v := .pointer (some ⟨Qd, 0, none⟩)) (l' := (bt 16 3)) rfl (fun _ hc => run_mvF (.tmp 2) (by kernel_rfl) (by kernel_rfl)) trivial ?_
      refine hTk (i := 2) (d := some 25) (v := .pointer (some ⟨Qd, 0, none⟩)) (l' := (bt 16 7)) rfl (fun _ hc => run_nc (.tmp 24) (by kernel_rfl) (by kernel_rfl)) trivial ?_
      refine hTk (i := 3) (d := some 26) (v := .pointer (some ⟨Qd, 6, none⟩)) (l' := (bt 16 15)) rfl (fun _ hc => run_faB6 (.tmp 25) (by kernel_rfl) (by kernel_rfl)) trivial ?_
      refine hTk (i := 4) (d := some 27) (v := .pointer (some ⟨Qd, 6, none⟩)) (l' := (bt 16 31)) rfl (fun _ hc => run_faL0 (.tmp 26) (by kernel_rfl) (by kernel_rfl)) trivial ?_
      refine hTk (i := 6) (d := some 29) (v := .pointer (some ⟨Qd, 0, none⟩)) (l' := (bt 16 95)) rfl (fun _ hc => run_mvF (.tmp 2) (by kernel_rfl) (by kernel_rfl)) trivial ?_
      refine hTk (i := 7) (d := some 30) (v := .pointer (some ⟨Qd, 0, none⟩)) (l' := (bt 16 223)) rfl (fun _ hc => run_nc (.tmp 29) (by kernel_rfl) (by kernel_rfl)) trivial ?_
      refine hTk (i := 8) (d := some 31) (v := .pointer (some ⟨Qd, 6, none⟩)) (l' := (bt 16 479)) rfl (fun _ hc => run_faB6 (.tmp 30) (by kernel_rfl) (by kernel_rfl)) trivial ?_
      refine hTk (i := 9) (d := some 32) (v := .pointer (some ⟨Qd, 7, none⟩)) (l' := (bt 16 991)) rfl (fun _ hc => run_faL1 (.tmp 31) (by kernel_rfl) (by kernel_rfl)) trivial ?_
      have hsrc : Src Tryz.prog 1 22 _ d.L2.length _ x0 := s0.H.bo.o1.src Tryz.underlying22 (fun u hu => by obtain ⟨y, _, rfl⟩ := List.mem_map.1 hu; rfl)
      obtain ⟨v9, w9, hrun, ho9, hg9, hbk9⟩ := run_append_c (P := Tryz.prog) x0 B 22 22 22 9 i0 (.string ⟨#[]⟩) 1 16 Tryz.underlying22 hi0 hz00 hz01 hz02 rfl _ d.L1.length _ s0.H.bo.o0 _ d.L2.length _ hsrc (by unfold maxLen; omega) (by omega) (by omega)
      obtain ⟨a9, c9, rfl⟩ := ho9.slc
      obtain ⟨hth, sF⟩ := s0.safe ho9 hg9 hbk9
      obtain ⟨wF, hwF⟩ : ∃ V, V = w9.setCells Qd 6 [.slice a9 (d.L1.length + d.L2.length) c9, .slice none 0 0] := ⟨_, rfl⟩
      rw [← hwF] at sF
      have HWF := hid hwF
      have HSF := hid sF
      clear hwF ho9 hg9 hbk9 hsrc s0 sF
      refine hTwo (i := 5) (j := 10) (by kernel_rfl) (hVal (i := 5) (d := some 28) (v := .slice h.a1 d.L1.length h.c1) (w' := x0) (l' := (bt 16 1023)) rfl (by kernel_rfl) (by kernel_rfl) (by kernel_rfl) (run_ldLsB (.tmp 27) (by kernel_rfl) (by kernel_rfl) hS0.1) trivial ?_) (hVal (i := 10) (d := some 33) (v := .slice h.a2 d.L2.length h.c2) (w' := x0) (l' := (bt 16 2015)) rfl (by kernel_rfl) (by kernel_rfl) (by kernel_rfl) (run_ldLsB (.tmp 32) (by kernel_rfl) (by kernel_rfl) hS0.2) trivial ?_)
      · refine hOne (i := 10) (by kernel_rfl) (hVal (i := 10) (d := some 33) (v := .slice h.a2 d.L2.length h.c2) (w' := x0) (l' := (bt 16 2047)) rfl (by kernel_rfl) (by kernel_rfl) (by kernel_rfl) (run_ldLsB (.tmp 32) (by kernel_rfl) (by kernel_rfl) hS0.2) trivial ?_)
        refine hOne (i := 11) (by kernel_rfl) (hVal (i := 11) (d := some 34) (v := .slice a9 (d.L1.length + d.L2.length) c9) (w' := w9) (l' := (bt 16 4095)) rfl (by kernel_rfl) (by kernel_rfl) (by kernel_rfl) (run_appB (.tmp 28) (.tmp 33) 22 22 22 (by kernel_rfl) (by kernel_rfl) (by kernel_rfl) (by kernel_rfl) hrun) trivial ?_)
        refine hTk (i := 12) (d := some 35) (v := .agg #[.slice a9 (d.L1.length + d.L2.length) c9, .slice none 0 0]) (l' := (bt 16 8191)) rfl (fun _ hc => run_b42 (.tmp 34) (by kernel_rfl) (by kernel_rfl)) trivial ?_
        refine hTk (i := 13) (d := some 36) (v := .pointer (some ⟨Qd, 0, none⟩)) (l' := (bt 16 16383)) rfl (fun _ hc => run_nc (.tmp 23) (by kernel_rfl) (by kernel_rfl)) trivial ?_
        refine hTk (i := 14) (d := some 37) (v := .pointer (some ⟨Qd, 6, none⟩)) (l' := (bt 16 32767)) rfl (fun _ hc => run_faB6 (.tmp 36) (by kernel_rfl) (by kernel_rfl)) trivial ?_
        refine hOne (i := 15) (by kernel_rfl) (hSkip (i := 15) (w' := wF) (l' := (bt 16 65535)) rfl (by kernel_rfl) (by kernel_rfl) (by kernel_rfl) (by rw [HWF.out]; exact run_stL2 a9 (d.L1.length + d.L2.length) c9 (.tmp 37) (.tmp 35) (by kernel_rfl) (by kernel_rfl) (by kernel_rfl) hth) trivial ?_)
        refine wpAnyH_done (by kernel_rfl) ?_ _
        clear hS0 hrun hth HWF
        go_simp
        go_wp2_with fail
        go_meet
        case rel => exact ⟨a9, c9, HSF.out⟩
      · refine hOne (i := 5) (by kernel_rfl) (hVal (i := 5) (d := some 28) (v := .slice h.a1 d.L1.length h.c1) (w' := x0) (l' := (bt 16 2047)) rfl (by kernel_rfl) (by kernel_rfl) (by kernel_rfl) (run_ldLsB (.tmp 27) (by kernel_rfl) (by kernel_rfl) hS0.1) trivial ?_)
        refine hOne (i := 11) (by kernel_rfl) (hVal (i := 11) (d := some 34) (v := .slice a9 (d.L1.length + d.L2.length) c9) (w' := w9) (l' := (bt 16 4095)) rfl (by kernel_rfl) (by kernel_rfl) (by kernel_rfl) (run_appB (.tmp 28) (.tmp 33) 22 22 22 (by kernel_rfl) (by kernel_rfl) (by kernel_rfl) (by kernel_rfl) hrun) trivial ?_)
        refine hTk (i := 12) (d := some 35) (v := .agg #[.slice a9 (d.L1.length + d.L2.length) c9, .slice none 0 0]) (l' := (bt 16 8191)) rfl (fun _ hc => run_b42 (.tmp 34) (by kernel_rfl) (by kernel_rfl)) trivial ?_
        refine hTk (i := 13) (d := some 36) (v := .pointer (some ⟨Qd, 0, none⟩)) (l' := (bt 16 16383)) rfl (fun _ hc => run_nc (.tmp 23) (by kernel_rfl) (by kernel_rfl)) trivial ?_
        refine hTk (i := 14) (d := some 37) (v := .pointer (some ⟨Qd, 6, none⟩)) (l' := (bt 16 32767)) rfl (fun _ hc => run_faB6 (.tmp 36) (by kernel_rfl) (by kernel_rfl)) trivial ?_
        refine hOne (i := 15) (by kernel_rfl) (hSkip (i := 15) (w' := wF) (l' := (bt 16 65535)) rfl (by kernel_rfl) (by kernel_rfl) (by kernel_rfl) (by rw [HWF.out]; exact run_stL2 a9 (d.L1.length + d.L2.length) c9 (.tmp 37) (.tmp 35) (by kernel_rfl) (by kernel_rfl) (by kernel_rfl) hth) trivial ?_)
        refine wpAnyH_done (by kernel_rfl) ?_ _
        clear hS0 hrun hth HWF
        go_simp
        go_wp2_with fail
        go_meet
        case rel => exact ⟨a9, c9, HSF.out⟩
    case rest =>
      obtain ⟨a9, c9, sF⟩ := hcut
      have y11 : wc.cell? ⟨Qd, 11, none⟩ = some (.slice h.ao d.O.length h.co) := (sF.D 11 (by simp)).1
      have HSF := hid sF
      clear sF s2
      go_wp2_with fail
      clear y11
      go_loopw [43] (fun x wq => ∃ (j : Nat) (v : Value) (vs : List Value) (M : List MgD), j ≤ d.O.length ∧ x = .int .i64 j ∧ M = st.M ++ (d.O.take j).map (thx d.ep) ∧ FlS w0 B Qm Qd Qp d h ts pa pc now a9 c9 (d.L1 ++ d.L2) ⟨st.gv, st.J, st.S, M⟩ v vs wq) (fun x _ => d.O.length - (intOf x).toNat)
      case atStart => exact ⟨0, _, _, st.M, Nat.zero_le _, rfl, by simp, HSF.out⟩
      case round =>
        clear HSF
        obtain ⟨j, v, vs, M, hj, rfl, hMe, hs⟩ := hrel
        obtain ⟨va, vc, rfl⟩ := hs.vm
        have HME := hid hMe
        have hMl : M.length ≤ 2100 := by rw [hMe]; simp; omega
        clear hMe
        by_cases hjn : j < d.O.length
        case pos =>
          have hjn' : (j : Int) < (d.O.length : Int) := by omega
          obtain ⟨bo, oo, co, hoe, _, _⟩ := hs.H.bo.o5.set3 (i := j) hjn
          have hoe1 : h.ao = some ⟨bo, oo, none⟩ := by injection hoe with e1 e2 e3
          have hc3 : ∀ r, r < 3 → wr.cell? ⟨bo, oo + (j * 3 + r), none⟩ = [Value.int .i64 (t3 d.O j).1, .int .i64 (t3 d.O j).2.1, .int .i64 (t3 d.O j).2.2][r]? := fun r hr => by
            rcases hs.H.bo.o5 with ⟨hx, _⟩ | ⟨g', o'', cap', hx, hc⟩
            · rw [hoe] at hx; cases hx
            · rw [hoe] at hx
              injection hx with e1 e2 e3
              injection e1 with e1
              injection e1 with e4 e5
              subst e4 e5
              rw [hc.holds (j * 3 + r) (by show j * 3 + r < d.O.length * 3; omega)]
              exact c3_get d.O j r hjn hr
          obtain ⟨x0, hx0⟩ : ∃ x, x = (t3 d.O j).1 := ⟨_, rfl⟩
          obtain ⟨x1, hx1⟩ : ∃ x, x = (t3 d.O j).2.1 := ⟨_, rfl⟩
          obtain ⟨x2, hx2⟩ : ∃ x, x = (t3 d.O j).2.2 := ⟨_, rfl⟩
          have oc0 : wr.cell? ⟨bo, oo + j * 3, none⟩ = some (.int .i64 x0) := by rw [hx0]; exact hc3 0 (by omega)
          have oc1 : wr.cell? ⟨bo, oo + j * 3 + 1, none⟩ = some (.int .i64 x1) := by rw [hx1]; exact hc3 1 (by omega)
          have oc2 : wr.cell? ⟨bo, oo + j * 3 + 2, none⟩ = some (.int .i64 x2) := by rw [hx2]; exact hc3 2 (by omega)
          have HX := hid (And.intro hx0 hx1)
          rw [hoe1]
          clear hx0 hx1 hx2 hc3 hoe hoe1
          go_upto_region 8 with fail
          obtain ⟨WB, hWB⟩ : ∃ V, V = wr.alloc (.cells #[.int .i64 x0, .int .i64 x1, .int .i64 x2] 69) := ⟨_, rfl⟩
          obtain ⟨Q9, hQ9⟩ : ∃ q, q = wr.heap.size := ⟨_, rfl⟩
          have hbB : Below wr.heap.size wr WB := by rw [hWB]; exact (Below.refl _ _).alloc (Nat.le_refl _) _
          have cB : CF WB Q9 [.int .i64 x0, .int .i64 x1, .int .i64 x2] := by rw [hWB, hQ9]; exact CF.made wr #[.int .i64 x0, .int .i64 x1, .int .i64 x2] 69
          have sB := hs.below hbB
          rw [← hWB, ← hQ9]
          clear hWB hQ9 hbB hs oc0 oc1 oc2
          have b0 : WB.cell? ⟨Q9, 0, none⟩ = some (.int .i64 x0) := (cB 0 (by simp)).1
          have b1 : WB.cell? ⟨Q9, 1, none⟩ = some (.int .i64 x1) := (cB 1 (by simp)).1
          have hsd := sendRaw_any Qm Qd M va vc vs 4 0 x0 0 d.ep x1 0 ⟨#[]⟩ none 0 0 WB (sB.D 4 (by simp)).1 ⟨(sB.D 14 (by simp)).1, (sB.D 14 (by simp)).2⟩ sB.H.ms.row sB.q.2 sB.H.sz (by omega)
          have HSD := hid hsd
          have HSB := hid sB
          clear hsd sB
          go_wp2_with fail
          refine HSD.out.mono ?_
          rintro _ w5 ⟨rfl, hsent⟩
          have hx := HX.out
          obtain ⟨v', hN⟩ := HSB.out.sent (m := thx d.ep (t3 d.O j)) rfl (by
            have e : mcell (thx d.ep (t3 d.O j)) (.slice none 0 0) = [.int .i64 4, .int .i64 0, .int .i64 x0, .int .i64 d.ep, .int .i64 x1, .int .i64 0, .string ⟨#[]⟩, .slice none 0 0] := by unfold thx mcell; rw [← hx.1, ← hx.2]
            rw [e]; exact hsent)
          have HN := hid hN
          clear hN hsent hx b0 b1 cB HSD HSB
          go_wp2_with fail
          go_roundw
          case rel => exact ⟨j + 1, _, _, M ++ [thx d.ep (t3 d.O j)], by omega, by go_num, by rw [thx_take hjn, HME.out, List.append_assoc], HN.out⟩
          case measure => simp [intOf]; omega
        case neg =>
          obtain rfl : j = d.O.length := by omega
          have hjn' : ¬ (d.O.length : Int) < (d.O.length : Int) := by omega
          have y11 : wr.cell? ⟨Qd, 11, none⟩ = some (.slice h.ao d.O.length h.co) := (hs.D 11 (by simp)).1
          have f11 : wr.frozen? ⟨Qd, 11, none⟩ = false := (hs.D 11 (by simp)).2
          have hfin := hs.fin hB
          have hMF : M = st.M ++ d.O.map (thx d.ep) := by rw [HME.out, List.take_length]
          have HF := hid (show DkF w0 B Qd (flB d st now sn).1 _ (.slice pa ts.length pc) (.map (some Qp)) _ (flB d st now sn).2 vs _ by rw [HFL.out, ← hMF]; exact hfin)
          clear hfin hs hMF
          go_wp2_with fail
          go_end0
          exact ⟨rfl, _, _, _, HF.out⟩
end Go.Proofs.YtaeomkpofcbmiaaGreat
