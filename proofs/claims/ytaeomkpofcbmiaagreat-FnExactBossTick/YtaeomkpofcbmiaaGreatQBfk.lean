import Derived.Test.YtaeomkpofcbmiaaGreatQBsr
namespace Go.Proofs.YtaeomkpofcbmiaaGreat
open Go.RowKit

theorem run_ldPl {ρ : Operand → Value} {o : Oper} {w : World} {p : Addr} {a : Option Addr} {n c : Nat} (x : Operand) (h : o.op = .load 48 x) (hx : ρ x = .pointer (some p)) (hc : w.cell? p = some (.slice a n c)) : (execOp ρ o).run Tryz.prog w = .ok (.value (.agg #[.slice a n c])) w := by
  unfold execOp; rw [h]; simp [go_sem, hx, hc]
theorem run_notB {ρ : Operand → Value} {o : Oper} {w : World} (x : Operand) (b : Bool) (h : o.op = .unOp .not 4 x) (hx : ρ x = .bool b) : (execOp ρ o).run Tryz.prog w = .ok (.value (.bool (!b))) w := by
  unfold execOp; rw [h]; simp [go_sem, hx]
theorem hOneC {P : Program} {md : Region.Mode} {ops : Array Oper} {Q : Exit → Act → World → Prop} {S : World → Prop} {i : Nat} {oi : Oper} {d : Option Nat} {fuel : Nat} {l l' : Array Bool} {a : Act} {w : World} {f : FuncId} {args : Array Value} {R : Value → World → Prop} (hr : Region.ready md ops l = [i]) (hi : ops[i]? = some oi) (hd : oi.dst = d) (hw : Region.wanted oi (yielded ops a.tmps) = true) (hl : l.setIfInBounds i true = l') (hy : (execOp a.eval oi).run P w = .ok (.enter f args) w) (hc : Calls P f args w fun e w' => ∃ v, e = .returned v ∧ R v w')
    (h : ∀ v w', R v w' → S w' ∧ wpAnyH P md ops Q S fuel l' (a.put d v) w') : wpAnyH P md ops Q S (fuel + 1) l a w :=
  hOne hr (hCall hi hd hw hl hy hc h)
/-- What the handing out keeps. -/
structure HkS (st : HSt) : Prop where
  o2 : Ok2 st.S
  g0 : 0 ≤ st.gv ∧ st.gv ≤ 1000000
theorem HkS.step {ep now : Int} {R : List ByteArray} {ts : List TaskD} {st : HSt} (h : HkS st) (i : Nat) : HkS (handS ep now R ts st i) := by
  by_cases hh : st.gv < 1000000 ∧ dueOk ts R i ∧ (t3 st.J i).1 = 0
  · cases hf : ffr st.S with
    | none => rw [handS_none hf]; exact h
    | some k =>
      rw [handS_yes hf hh]
      exact ⟨h.o2.set (ffr_lt hf) false, ⟨by have := h.g0; show 0 ≤ st.gv + 1; omega, by have := hh.1; show st.gv + 1 ≤ 1000000; omega⟩⟩
  · rw [handS_not hh]; exact h
theorem HkS.all {ep now : Int} {R : List ByteArray} {ts : List TaskD} {st : HSt} (h : HkS st) : ∀ n, HkS (handN ep now R ts st n)
  | 0 => h
  | n + 1 => (HkS.all h n).step n
theorem DkS.more {w0 wK : World} {B Qm Qd Qp : Nat} {d : BD} {h : BH} {ts : List TaskD} {pa : Option Addr} {pc : Nat} {now sn : Int} {nb nb' : Nat} {st : HSt} {v : Value} {vs : List Value} {wr : World} (s : DkS w0 wK B Qm Qd Qp d h ts pa pc now sn nb st v vs wr) (hn : nb ≤ nb') : DkS w0 wK B Qm Qd Qp d h ts pa pc now sn nb' st v vs wr := by
  obtain ⟨n, X, hn', hX⟩ := s.mp
  exact ⟨s.H, s.D, ⟨n, X, by omega, hX⟩, s.q, s.nr, s.vm, s.fx⟩
theorem hand_not {w0 wK u : World} {B Qm Qd Qp : Nat} {d : BD} {h : BH} {ts : List TaskD} {pa : Option Addr} {pc : Nat} {now sn : Int} {nb i : Nat} {st sg : HSt} {v : Value} {vs : List Value} (hsg : sg = handN d.ep now d.R ts st i) (hu : DkS w0 wK B Qm Qd Qp d h ts pa pc now sn (nb + i) sg v vs u) (hh : ¬ (sg.gv < 1000000 ∧ dueOk ts d.R i ∧ (t3 sg.J i).1 = 0)) : DkS w0 wK B Qm Qd Qp d h ts pa pc now sn (nb + (i + 1)) (handN d.ep now d.R ts st (i + 1)) v vs u := by
  show DkS w0 wK B Qm Qd Qp d h ts pa pc now sn (nb + (i + 1)) (handS d.ep now d.R ts (handN d.ep now d.R ts st i) i) v vs u
  rw [← hsg, handS_not hh]; exact hu.more (by omega)
theorem hand_stuck {w0 wK u : World} {B Qm Qd Qp : Nat} {d : BD} {h : BH} {ts : List TaskD} {pa : Option Addr} {pc : Nat} {now sn : Int} {nb i : Nat} {st sg : HSt} {v : Value} {vs : List Value} (hsg : sg = handN d.ep now d.R ts st i) (hi : i ≤ ts.length) (hu : DkS w0 wK B Qm Qd Qp d h ts pa pc now sn (nb + i) sg v vs u) (hh : ffr sg.S = none ∨ ¬ sg.gv < 1000000) : DkS w0 wK B Qm Qd Qp d h ts pa pc now sn (nb + ts.length) (handN d.ep now d.R ts st ts.length) v vs u := by
  have e := handN_stuck (ep := d.ep) (now := now) (R := d.R) (ts := ts) (st := st) (n := i) (by rw [← hsg]; exact hh) (ts.length - i)
  rw [show i + (ts.length - i) = ts.length by omega, ← hsg] at e
  rw [e]; exact hu.more (by omega)
set_option maxHeartbeats 8000000 in
set_option maxRecDepth 100000 in
theorem handOut_any (w0 wK : World) (B Qm Qd Qp : Nat) (d : BD) (h : BH) (ts : List TaskD) (pa : Option Addr) (pb po pc : Nat) (now sn : Int) (nb : Nat) (st : HSt) (v : Value) (vs : List Value) (w : World) (s : DkS w0 wK B Qm Qd Qp d h ts pa pc now sn nb st v vs w) (hk : HkS st) (hM : st.M = []) (h1 : 1 ≤ ts.length) (hf : d.fits) (hRl : d.R.length = ts.length) (hJd : d.J.length = ts.length) (hT : TasksAt w0 pa pb po ts.length ts) (hB : B = w0.heap.size) (hAD : allDeps ts ts.length) (h40 : ts.length ≤ 40) (hep : 1 ≤ d.ep ∧ d.ep ≤ 300) (hnow : 0 ≤ now ∧ now ≤ 1000000) (hS8 : d.S.length ≤ 8) (hnb : nb + 40 < maxLen) :
    Calls Tryz.prog 76 #[.pointer (some ⟨Qd, 0, none⟩)] w fun e w' => e = .returned (.tuple #[]) ∧ ∃ v' vs', DkS w0 wK B Qm Qd Qp d h ts pa pc now sn (nb + ts.length) (handN d.ep now d.R ts st ts.length) v' vs' w' := by
  have hpa := hT.ad (by omega)
  subst hpa
  obtain ⟨a1, a2, ar, aj, az, ao, c1, c2, cr, cj, cs, co⟩ := h
  obtain ⟨bj, oj, _, hje, _, _⟩ := s.H.bo.o3.set3 (i := 0) (by show 0 < st.J.length; have := s.H.lj.1; omega)
  obtain rfl : aj = some ⟨bj, oj, none⟩ := by injection hje with e1 e2 e3
  obtain ⟨br, or', hR1, _⟩ := s.H.bo.o2.statB hf.s3
  obtain rfl : ar = some ⟨br, or', none⟩ := hR1.ad (by show 0 < d.R.length; omega)
  clear hje hR1
  have y9 : w.cell? ⟨Qd, 9, none⟩ = some (.slice (some ⟨bj, oj, none⟩) ts.length cj) := by rw [← hJd]; exact (s.D 9 (by simp)).1
  have HB := hid hB
  have HRL := hid hRl
  have HJD := hid hJd
  have HTT := hid hT
  have HAD := hid hAD
  have HFF := hid hf
  have HKK := hid hk
  have HMM := hid hM
  clear hB hRl hJd hT hAD hf hk hM
  go_enter Tryz.func76, Tryz.ntmps76
  go_wp2_with fail
  clear y9
  go_loopw [11] (fun x wr => ∃ (i : Nat) (v : Value) (vs : List Value), i ≤ ts.length ∧ x = .int .i64 i ∧ DkS w0 wK B Qm Qd Qp d ⟨a1, a2, some ⟨br, or', none⟩, some ⟨bj, oj, none⟩, az, ao, c1, c2, cr, cj, cs, co⟩ ts (some ⟨pb, po, none⟩) pc now sn (nb + i) (handN d.ep now d.R ts st i) v vs wr) (fun x _ => ts.length - (intOf x).toNat)
  case atStart => exact ⟨0, _, _, Nat.zero_le _, rfl, s⟩
  case round =>
    clear s
    obtain ⟨i, v, vs, hi, rfl, hs⟩ := hrel
    by_cases hlt : i < ts.length
    case pos =>
      have hlt' : (i : Int) < (ts.length : Int) := by omega
      obtain ⟨sg, hsg⟩ : ∃ q, q = handN d.ep now d.R ts st i := ⟨_, rfl⟩
      rw [← hsg] at hs
      have hjl : sg.J.length = ts.length := hs.H.lj.1.trans HJD.out
      have hiJ : i < sg.J.length := by omega
      have hkk : HkS sg := by rw [hsg]; exact HKK.out.all i
      have hMl : sg.M.length ≤ 40 := by rw [hsg]; have := handN_lenM d.ep now d.R ts st i; rw [HMM.out] at this; simp at this; omega
      have HSG := hid hsg
      clear hsg
      obtain ⟨lea, hlea⟩ : ∃ q, q = (t3 sg.J i).1 := ⟨_, rfl⟩
      obtain ⟨wrk, hwrk⟩ : ∃ q, q = (t3 sg.J i).2.1 := ⟨_, rfl⟩
      obtain ⟨unt, hunt⟩ : ∃ q, q = (t3 sg.J i).2.2 := ⟨_, rfl⟩
      have hc3 : ∀ r, r < 3 → wr.cell? ⟨bj, oj + (i * 3 + r), none⟩ = [Value.int .i64 (t3 sg.J i).1, .int .i64 (t3 sg.J i).2.1, .int .i64 (t3 sg.J i).2.2][r]? := fun r hr => by
        rcases hs.H.bo.o3 with ⟨hx, _⟩ | ⟨g', o'', cap', hx, hc⟩
        · cases hx
        · injection hx with e1 e2 e3
          injection e1 with e1
          injection e1 with e4 e5
          subst e4 e5
          rw [hc.holds (i * 3 + r) (by show i * 3 + r < sg.J.length * 3; omega)]
          exact c3_get sg.J i r hiJ hr
      have j0 : wr.cell? ⟨bj, oj + i * 3, none⟩ = some (.int .i64 lea) := by rw [hlea]; exact hc3 0 (by omega)
      have j1 : wr.cell? ⟨bj, oj + i * 3 + 1, none⟩ = some (.int .i64 wrk) := by rw [hwrk]; exact hc3 1 (by omega)
      have j2 : wr.cell? ⟨bj, oj + i * 3 + 2, none⟩ = some (.int .i64 unt) := by rw [hunt]; exact hc3 2 (by omega)
      have HLE := hid hlea
      clear hlea hwrk hunt hc3
      go_upto_region 3 with fail
      obtain ⟨WB, hWB⟩ : ∃ V, V = wr.alloc (.cells #[.int .i64 lea, .int .i64 wrk, .int .i64 unt] 66) := ⟨_, rfl⟩
      obtain ⟨Qb, hQb⟩ : ∃ q, q = wr.heap.size := ⟨_, rfl⟩
      have hbB : Below wr.heap.size wr WB := by rw [hWB]; exact (Below.refl _ _).alloc (Nat.le_refl _) _
      have cB : CF WB Qb [.int .i64 lea, .int .i64 wrk, .int .i64 unt] := by rw [hWB, hQb]; exact CF.made wr #[.int .i64 lea, .int .i64 wrk, .int .i64 unt] 66
      have sB := hs.below hbB
      rw [← hWB, ← hQb]
      clear hWB hQb hbB hs j0 j1 j2
      refine wp_region_held (S := fun w' => (w'.cell? ⟨Qb, 0, none⟩ = some (.int .i64 lea)) ∧ w'.cell? ⟨Qd, 12, none⟩ = some (.slice (some ⟨pb, po, none⟩) ts.length pc) ∧ w'.cell? ⟨Qd, 8, none⟩ = some (.slice (some ⟨br, or', none⟩) ts.length cr)) (by kernel_rfl) ?_
      change wpAnyH _ _ _ _ _ _ _ _ (World.drew _)
      have s0 := sB.below (Below.refl WB.heap.size WB).drew
      have hS0 : (WB.drew.cell? ⟨Qb, 0, none⟩ = some (.int .i64 lea)) ∧ WB.drew.cell? ⟨Qd, 12, none⟩ = some (.slice (some ⟨pb, po, none⟩) ts.length pc) ∧ WB.drew.cell? ⟨Qd, 8, none⟩ = some (.slice (some ⟨br, or', none⟩) ts.length cr) := ⟨(cB 0 (by simp)).1, (sB.D 12 (by simp)).1, by have := (sB.D 8 (by simp)).1; rw [← HRL.out]; exact this⟩
      obtain ⟨x0, hx0⟩ : ∃ U, U = WB.drew := ⟨_, rfl⟩
      rw [← hx0] at s0 hS0
      rw [← hx0]
      clear hx0 sB cB
      by_cases hl0 : lea = 0
      case neg =>
        have hd1 : decide (lea ≠ 0) = true := decide_eq_true hl0
        refine hTk (i := 0) (d := some 16) (v := .pointer (some ⟨Qb, 0, none⟩)) (l' := (bt 17 1)) rfl (fun _ hc => run_faJ0 (.tmp 3) (by kernel_rfl) (by kernel_rfl)) hS0 ?_
        refine hTk (i := 1) (d := some 17) (v := .int .i64 lea) (l' := (bt 17 3)) rfl (fun _ hc => run_ldInB (.tmp 16) (by kernel_rfl) (by kernel_rfl) hc.1) hS0 ?_
        refine hTk (i := 2) (d := some 18) (v := .bool true) (l' := (bt 17 7)) rfl (fun _ hc => run_neB (.tmp 17) (.const (.int .i64 0)) lea 0 true (by kernel_rfl) (by kernel_rfl) (by kernel_rfl) hd1) hS0 ?_
        refine hTk (i := 3) (d := some 19) (v := .bool true) (l' := (bt 17 15)) rfl (fun _ hc => run_mvF (.tmp 18) (by kernel_rfl) (by kernel_rfl)) hS0 ?_
        refine hTn (i := 4) (d := some 20) (l' := (bt 17 31)) rfl hS0 ?_
        refine hTn (i := 5) (d := some 21) (l' := (bt 17 63)) rfl hS0 ?_
        refine hTn (i := 6) (d := some 22) (l' := (bt 17 127)) rfl hS0 ?_
        refine hTn (i := 7) (d := some 23) (l' := (bt 17 255)) rfl hS0 ?_
        refine hTn (i := 8) (d := some 24) (l' := (bt 17 511)) rfl hS0 ?_
        refine hTn (i := 9) (d := some 25) (l' := (bt 17 1023)) rfl hS0 ?_
        refine hTn (i := 10) (d := some 26) (l' := (bt 17 2047)) rfl hS0 ?_
        refine hTn (i := 11) (d := some 27) (l' := (bt 17 4095)) rfl hS0 ?_
        refine hTn (i := 12) (d := some 28) (l' := (bt 17 8191)) rfl hS0 ?_
        refine hTn (i := 13) (d := some 29) (l' := (bt 17 16383)) rfl hS0 ?_
        refine hTn (i := 14) (d := some 30) (l' := (bt 17 32767)) rfl hS0 ?_
        refine hTn (i := 15) (d := some 31) (l' := (bt 17 65535)) rfl hS0 ?_
        refine hTk (i := 16) (d := some 32) (v := .bool true) (l' := (bt 17 131071)) rfl (fun _ hc => run_pkB (.tmp 19) (.const (.bool true)) (.tmp 31) _ (by kernel_rfl) (by kernel_rfl) (by kernel_rfl)) hS0 ?_
        refine wpAnyH_done (by kernel_rfl) ?_ _
        have HNX := hid (hand_not HSG.out s0 (fun hh => hl0 (by rw [HLE.out]; exact hh.2.2)))
        clear s0 hS0 hd1 hl0
        go_simp
        go_wp2_with fail
        go_roundw
        case rel => exact ⟨i + 1, _, _, by omega, by go_num, HNX.out⟩
        case measure => simp [intOf]; omega
      case pos =>
        have hd1 : decide (lea ≠ 0) = false := decide_eq_false (by omega)
        have hTx : TasksAt x0 (some ⟨pb, po, none⟩) pb po ts.length ts := HTT.out.below' (HB.out ▸ s0.H.hb)
        obtain ⟨br', or2, hRy, _⟩ := s0.H.bo.o2.statB HFF.out.s3
        have hRy' : StrsAt x0 (some ⟨br, or', none⟩) br' or2 d.R.length d.R := hRy
        have hRe := hRy'.ad (by have := HRL.out; omega)
        injection hRe with hRe
        injection hRe with hRe1 hRe2
        subst hRe1 hRe2
        have hRx : StrsAt x0 (some ⟨br, or', none⟩) br or' ts.length d.R := by rw [← HRL.out]; exact hRy'
        clear hRy hRy'
        refine hTk (i := 0) (d := some 16) (v := .pointer (some ⟨Qb, 0, none⟩)) (l' := (bt 17 1)) rfl (fun _ hc => run_faJ0 (.tmp 3) (by kernel_rfl) (by kernel_rfl)) hS0 ?_
        refine hTk (i := 1) (d := some 17) (v := .int .i64 lea) (l' := (bt 17 3)) rfl (fun _ hc => run_ldInB (.tmp 16) (by kernel_rfl) (by kernel_rfl) hc.1) hS0 ?_
        refine hTk (i := 2) (d := some 18) (v := .bool false) (l' := (bt 17 7)) rfl (fun _ hc => run_neB (.tmp 17) (.const (.int .i64 0)) lea 0 false (by kernel_rfl) (by kernel_rfl) (by kernel_rfl) hd1) hS0 ?_
        refine hTk (i := 3) (d := some 19) (v := .bool false) (l' := (bt 17 15)) rfl (fun _ hc => run_mvF (.tmp 18) (by kernel_rfl) (by kernel_rfl)) hS0 ?_
        refine hTk (i := 4) (d := some 20) (v := .pointer (some ⟨Qd, 0, none⟩)) (l' := (bt 17 31)) rfl (fun _ hc => run_mvF (.tmp 0) (by kernel_rfl) (by kernel_rfl)) hS0 ?_
        refine hTk (i := 5) (d := some 21) (v := .pointer (some ⟨Qd, 0, none⟩)) (l' := (bt 17 63)) rfl (fun _ hc => run_nc (.tmp 20) (by kernel_rfl) (by kernel_rfl)) hS0 ?_
        refine hTk (i := 6) (d := some 22) (v := .pointer (some ⟨Qd, 12, none⟩)) (l' := (bt 17 127)) rfl (fun _ hc => run_faD1 (.tmp 21) (by kernel_rfl) (by kernel_rfl)) hS0 ?_
        refine hTk (i := 7) (d := some 23) (v := .agg #[.slice (some ⟨pb, po, none⟩) ts.length pc]) (l' := (bt 17 255)) rfl (fun _ hc => run_ldPl (.tmp 22) (by kernel_rfl) (by kernel_rfl) hc.2.1) hS0 ?_
        refine hTk (i := 8) (d := some 24) (v := .pointer (some ⟨Qd, 0, none⟩)) (l' := (bt 17 511)) rfl (fun _ hc => run_mvF (.tmp 0) (by kernel_rfl) (by kernel_rfl)) hS0 ?_
        refine hTk (i := 9) (d := some 25) (v := .pointer (some ⟨Qd, 0, none⟩)) (l' := (bt 17 1023)) rfl (fun _ hc => run_nc (.tmp 24) (by kernel_rfl) (by kernel_rfl)) hS0 ?_
        refine hTk (i := 10) (d := some 26) (v := .pointer (some ⟨Qd, 0, none⟩)) (l' := (bt 17 2047)) rfl (fun _ hc => run_faD0 (.tmp 25) (by kernel_rfl) (by kernel_rfl)) hS0 ?_
        refine hTk (i := 11) (d := some 27) (v := .pointer (some ⟨Qd, 8, none⟩)) (l' := (bt 17 4095)) rfl (fun _ hc => run_faB7 (.tmp 26) (by kernel_rfl) (by kernel_rfl)) hS0 ?_
        refine hTk (i := 12) (d := some 28) (v := (.slice (some ⟨br, or', none⟩) ts.length cr)) (l' := (bt 17 8191)) rfl (fun _ hc => run_ldLsB (.tmp 27) (by kernel_rfl) (by kernel_rfl) hc.2.2) hS0 ?_
        refine hTk (i := 13) (d := some 29) (v := .int .i64 (i : Nat)) (l' := (bt 17 16383)) rfl (fun _ hc => run_mvF (.tmp 2) (by kernel_rfl) (by kernel_rfl)) hS0 ?_
        refine hOneC (i := 14) (by kernel_rfl) (d := some 30) (f := 100) (args := #[.agg #[.slice (some ⟨pb, po, none⟩) ts.length pc], .slice (some ⟨br, or', none⟩) ts.length cr, .int .i64 (i : Nat)]) (l' := (bt 17 32767)) (R := fun v u => (∃ r : Bool, v = .bool r ∧ (r = true ↔ dueOk ts d.R i)) ∧ Below x0.heap.size x0 u) rfl (by kernel_rfl) (by kernel_rfl) (by kernel_rfl) (run_cl3 _ _ _ _ rfl (by kernel_rfl) (by kernel_rfl) (by kernel_rfl) rfl enter_isDue) ((isDue_any (some ⟨pb, po, none⟩) pb po ts.length pc ts (some ⟨br, or', none⟩) br or' cr d.R i x0 hTx hRx hlt HAD.out).mono fun _ _ ⟨⟨r, he, hr⟩, hb⟩ => ⟨_, he, ⟨r, rfl, hr⟩, hb⟩) ?_
        rintro _ x1 ⟨⟨r, rfl, hr⟩, hb1⟩
        have hS1 : (x1.cell? ⟨Qb, 0, none⟩ = some (.int .i64 lea)) ∧ x1.cell? ⟨Qd, 12, none⟩ = some (.slice (some ⟨pb, po, none⟩) ts.length pc) ∧ x1.cell? ⟨Qd, 8, none⟩ = some (.slice (some ⟨br, or', none⟩) ts.length cr) := ⟨keepB hb1 hS0.1, keepB hb1 hS0.2.1, keepB hb1 hS0.2.2⟩
        refine ⟨hS1, ?_⟩
        refine hTk (i := 15) (d := some 31) (v := .bool (!r)) (l' := (bt 17 65535)) rfl (fun _ hc => run_notB (.tmp 30) r (by kernel_rfl) (by kernel_rfl)) hS1 ?_
        refine hTk (i := 16) (d := some 32) (v := .bool (!r)) (l' := (bt 17 131071)) rfl (fun _ hc => run_pkfB (.tmp 19) (.const (.bool true)) (.tmp 31) _ (by kernel_rfl) (by kernel_rfl) (by kernel_rfl)) hS1 ?_
        refine wpAnyH_done (by kernel_rfl) ?_ _
        have s1 := s0.below hb1
        clear s0 hS0 hS1 hd1 hTx hRx hb1
        cases r with
        | false =>
          have HNX := hid (hand_not HSG.out s1 (fun hh => by have := hr.2 hh.2.1; cases this))
          clear s1 hr
          go_simp
          go_wp2_with fail
          go_roundw
          case rel => exact ⟨i + 1, _, _, by omega, by go_num, HNX.out⟩
          case measure => simp [intOf]; omega
        | true =>
          have HDU := hid (hr.1 rfl)
          have hSl : sg.S.length = d.S.length := s1.H.lj.2
          obtain ⟨bz, oz, hz, _⟩ := s1.H.bo.o4.t2At (show Ok2 (d.at sg).S from hkk.o2)
          rw [show (d.at sg).S.length = d.S.length from hSl] at hz
          have y10 : x1.cell? ⟨Qd, 10, none⟩ = some (.slice az d.S.length cs) := (s1.D 10 (by simp)).1
          have HZ := hid (idxSeat_any az d.S.length cs bz oz sg.S x1 hz)
          have HS1 := hid s1
          clear hz hSl s1 hr
          go_simp
          go_wp2_with fail
          refine HZ.out.mono ?_
          rintro _ x2 ⟨⟨qr, rfl, hqr⟩, hb2⟩
          have s2 := HS1.out.below hb2
          clear HZ HS1 hb2 y10
          rcases hqr with ⟨k, hk, rfl⟩ | ⟨hk, rfl⟩
          · have hkn : decide (((k : Nat) : Int) < 0) = false := decide_eq_false (by omega)
            obtain ⟨gg, hgg⟩ : ∃ g, g = sg.gv := ⟨_, rfl⟩
            have y5 : x2.cell? ⟨Qd, 5, none⟩ = some (.int .i64 gg) := by rw [hgg]; exact (s2.D 5 (by simp)).1
            have hg0 := hkk.g0
            rw [← hgg] at hg0
            by_cases hgl : gg = 1000000
            · have HF := hid (hand_stuck HSG.out (by omega) s2 (.inr (by rw [← hgg]; omega)))
              clear s2 hgg hg0
              subst hgl
              go_wp2_with fail
              (try simp only [Exit.inBlock, Exit.then])
              refine bodyPost_ret (results_none rfl _ _ _) rfl ?_
              exact ⟨rfl, v, vs, HF.out⟩
            · have hgb : (gg == 1000000) = false := by simpa using hgl
              have hkS : k < d.S.length := by have := ffr_lt hk; have := s2.H.lj.2; omega
              have HOF := hid (offer_any w0 wK B Qm Qd Qp d ⟨a1, a2, some ⟨br, or', none⟩, some ⟨bj, oj, none⟩, az, ao, c1, c2, cr, cj, cs, co⟩ ts (some ⟨pb, po, none⟩) pb po pc now sn (nb + i) sg v vs i k x2 s2 hlt hkS HFF.out HRL.out HJD.out HTT.out HB.out HAD.out h40 hep (by rw [← hgg]; omega) hnow hS8 hMl (by omega))
              have HGE := hid (show sg.gv < 1000000 ∧ dueOk ts d.R i ∧ (t3 sg.J i).1 = 0 from ⟨by rw [← hgg]; omega, HDU.out, by rw [← HLE.out]; exact hl0⟩)
              have HK := hid hk
              clear s2 hgg hg0 hk
              go_wp2_with fail
              refine HOF.out.mono ?_
              rintro _ x3 ⟨rfl, v', vs', s3⟩
              have HNX := hid (show DkS w0 wK B Qm Qd Qp d ⟨a1, a2, some ⟨br, or', none⟩, some ⟨bj, oj, none⟩, az, ao, c1, c2, cr, cj, cs, co⟩ ts (some ⟨pb, po, none⟩) pc now sn (nb + (i + 1)) (handN d.ep now d.R ts st (i + 1)) v' vs' x3 from by
                show DkS w0 wK B Qm Qd Qp d ⟨a1, a2, some ⟨br, or', none⟩, some ⟨bj, oj, none⟩, az, ao, c1, c2, cr, cj, cs, co⟩ ts (some ⟨pb, po, none⟩) pc now sn (nb + (i + 1)) (handS d.ep now d.R ts (handN d.ep now d.R ts st i) i) v' vs' x3
                rw [← HSG.out, handS_yes HK.out HGE.out]
                exact s3)
              clear s3 HOF y5
              go_wp2_with fail
              go_roundw
              case rel => exact ⟨i + 1, _, _, by omega, by go_num, HNX.out⟩
              case measure => simp [intOf]; omega
          · have hkn : (-1 : Int) < 0 := by omega
            have HF := hid (hand_stuck HSG.out (by omega) s2 (.inl hk))
            clear s2 hk
            go_wp2_with fail
            (try simp only [Exit.inBlock, Exit.then])
            refine bodyPost_ret (results_none rfl _ _ _) rfl ?_
            exact ⟨rfl, v, vs, HF.out⟩
    case neg =>
      obtain rfl : i = ts.length := by omega
      have hlt' : ¬ (ts.length : Int) < (ts.length : Int) := by omega
      have HF := hid hs
      clear hs
      go_wp2_with fail
      go_end0
      exact ⟨rfl, v, vs, HF.out⟩
end Go.Proofs.YtaeomkpofcbmiaaGreat

namespace Go.Proofs.YtaeomkpofcbmiaaGreat
open Go.RowKit

/-- A desk whose work is done: its coordinator and what it sends are an answer. -/
structure DkF (w0 : World) (B Qd : Nat) (dF : BD) (hF : BH) (x12 x13 v : Value) (M : List MgD) (vs : List Value) (wr : World) : Prop where
  L : LedO wr B dF hF v M vs
  D : CF wr Qd [.int .i64 dF.wk, .bool dF.up, .int .i64 dF.now, .int .i64 dF.sn, .int .i64 dF.ep, .int .i64 dF.gv, .slice hF.a1 dF.L1.length hF.c1, .slice hF.a2 dF.L2.length hF.c2, .slice hF.ar dF.R.length hF.cr, .slice hF.aj dF.J.length hF.cj, .slice hF.az dF.S.length hF.cs, .slice hF.ao dF.O.length hF.co, x12, x13, v]
  hb : Below B w0 wr
  nb : ∀ r ∈ rowsB dF hF, r ≠ some Qd
  nv : Dn v.ownBlock (some Qd)
  ns : ∀ j, j < M.length → Dn (vs.getD j nilV).ownBlock (some Qd)
  q : B ≤ Qd ∧ Qd < wr.heap.size ∧ w0.heap.size ≤ B
  vm : ∃ a c, v = .slice a M.length c
def BD.bd (d : BD) (now sn : Int) (st : HSt) : BD := ⟨d.wk, d.up, now, sn, d.ep, st.gv, d.L1, d.L2, d.R, st.J, st.S, d.O⟩
theorem DkS.fin {w0 wK : World} {B Qm Qd Qp : Nat} {d : BD} {h : BH} {ts : List TaskD} {pa : Option Addr} {pc : Nat} {now sn : Int} {nb : Nat} {st : HSt} {v : Value} {vs : List Value} {wr : World} (s : DkS w0 wK B Qm Qd Qp d h ts pa pc now sn nb st v vs wr) (hB : w0.heap.size ≤ B) : DkF w0 B Qd (d.bd now sn st) h (.slice pa ts.length pc) (.map (some Qp)) v st.M vs wr := by
  have hbo := s.H.bo
  have hr : rowsB (d.bd now sn st) h = rowsB d h := by unfold rowsB BD.bd; simp only [s.H.lj.1, s.H.lj.2]
  have hq := s.q
  have hsz := s.H.sz
  refine ⟨⟨⟨hbo.o0, hbo.o1, hbo.o2, hbo.o3, hbo.o4, hbo.o5, hbo.dis⟩, s.H.ms.mono s.H.bs, fun r hm => ?_, fun r hm j hj => ?_⟩, ?_, s.H.hb, fun r hm => ?_, ?_, fun j hj => ?_, ⟨hq.2.1, by omega, hB⟩, s.vm⟩
  · rw [hr] at hm; exact (s.H.rows hm).1.symm
  · rw [hr] at hm; exact ((s.H.rows hm).2 j hj).symm
  · have := s.D
    rw [← s.H.lj.1, ← s.H.lj.2] at this
    exact this
  · rw [hr] at hm; exact (s.nr r hm).2
  · exact (Dn.later (x := some Qd) (m := Qm) (fun k e => by injection e with e; omega) s.H.ms.row.row_lo).symm
  · exact (Dn.later (x := some Qd) (m := Qm) (fun k e => by injection e with e; omega) (s.H.ms.dep j hj).row_lo).symm
def BD.bare (d : BD) : BD := ⟨d.wk, d.up, d.now, d.sn, d.ep, d.gv, [], [], d.R, d.J, d.S, d.O⟩
def BH.bare (h : BH) : BH := ⟨none, none, h.ar, h.aj, h.az, h.ao, 0, 0, h.cr, h.cj, h.cs, h.co⟩
/-- Amid the thanks: what is safe lies in a list of its own. -/
structure FlS (w0 : World) (B Qm Qd Qp : Nat) (d : BD) (h : BH) (ts : List TaskD) (pa : Option Addr) (pc : Nat) (now : Int) (a1 : Option Addr) (c1 : Nat) (L : List ByteArray) (st : HSt) (v : Value) (vs : List Value) (wr : World) : Prop where
  H : HdI w0 B Qm d.bare h.bare st v vs wr
  D : CF wr Qd [.int .i64 d.wk, .bool d.up, .int .i64 now, .int .i64 0, .int .i64 d.ep, .int .i64 st.gv, .slice a1 L.length c1, .slice none 0 0, .slice h.ar d.R.length h.cr, .slice h.aj d.J.length h.cj, .slice h.az d.S.length h.cs, .slice h.ao d.O.length h.co, .slice pa ts.length pc, .map (some Qp), v]
  O1 : Own B wr 1 (.slice a1 L.length c1) L.length (L.map Value.string)
  d1 : Dn (Value.slice a1 L.length c1).ownBlock v.ownBlock
  d2 : ∀ j, j < st.M.length → Dn (Value.slice a1 L.length c1).ownBlock (vs.getD j nilV).ownBlock
  d3 : ∀ r ∈ rowsB d.bare h.bare, Dj r (Value.slice a1 L.length c1).ownBlock
  d4 : Dn (Value.slice a1 L.length c1).ownBlock (some Qd)
  q : B ≤ Qd ∧ Qd < Qm
  nr : ∀ r ∈ rowsB d.bare h.bare, r ≠ some Qd
  vm : ∃ a c, v = .slice a st.M.length c
theorem FlS.below {w0 : World} {B Qm Qd Qp : Nat} {d : BD} {h : BH} {ts : List TaskD} {pa : Option Addr} {pc : Nat} {now : Int} {a1 : Option Addr} {c1 : Nat} {L : List ByteArray} {st : HSt} {v : Value} {vs : List Value} {wr : World} {w' : World} (s : FlS w0 B Qm Qd Qp d h ts pa pc now a1 c1 L st v vs wr) (hb : Below wr.heap.size wr w') : FlS w0 B Qm Qd Qp d h ts pa pc now a1 c1 L st v vs w' :=
  have hq := s.q
  have hz := s.H.sz
  ⟨s.H.below hb, s.D.block (hb.block _ (by omega)), s.O1.below hb (Nat.le_refl _), s.d1, s.d2, s.d3, s.d4, s.q, s.nr, s.vm⟩
/-- Thanks are sent. -/
theorem FlS.sent {w0 : World} {B Qm Qd Qp : Nat} {d : BD} {h : BH} {ts : List TaskD} {pa : Option Addr} {pc : Nat} {now : Int} {a1 : Option Addr} {c1 : Nat} {L : List ByteArray} {st : HSt} {vs : List Value} {wr : World} {w' : World} {va : Option Addr} {vc : Nat} {m : MgD} (s : FlS w0 B Qm Qd Qp d h ts pa pc now a1 c1 L st (.slice va st.M.length vc) vs wr) (hm : m.ss = []) (hS : SentR Qm Qd st.M vs (mcell m (.slice none 0 0)) va vc wr w') :
    ∃ v', FlS w0 B Qm Qd Qp d h ts pa pc now a1 c1 L ⟨st.gv, st.J, st.S, st.M ++ [m]⟩ v' (vs ++ [.slice none 0 0]) w' := by
  obtain ⟨x0, w9, ob, a9, c9, hb, ho, hg, hbk, rfl⟩ := hS
  have s := s.below hb
  have hq := s.q
  have hbs := s.H.bs
  have hsz := s.H.sz
  have hlo := s.H.ms.row.row_lo
  have hzA : (x0.alloc ob).heap.size = x0.heap.size + 1 := by simp
  have hbA : Below x0.heap.size x0 (x0.alloc ob) := (Below.refl _ _).alloc (Nat.le_refl _) _
  have hgz := hg.size
  have gs := gset (World.grownBy.refl w9 (some Qd)) 14 (.slice a9 (st.M.length + 1) c9)
  have hnil : Own Qm x0 1 (.slice none 0 0) m.ss.length (m.ss.map Value.string) := by rw [hm]; exact Own.nil _ _ _
  have hH := s.H.snoc (t := m) hnil (.inl rfl) (fun j hj => Dn.symm (.inl rfl)) ho hg hbk
  have key : ∀ x : Option Nat, Dn x (Value.slice va st.M.length vc).ownBlock → (∀ q, x = some q → q < x0.heap.size) → Dn x (Value.slice a9 (st.M.length + 1) c9).ownBlock := fun x h1 h2 => by
    rcases hbk with e | e
    · rw [e]; exact h1
    · exact Dn.later h2 (fun q hq => by rw [e] at hq; injection hq with hq; omega)
  have gl : ∀ j, j < st.M.length → (vs ++ [Value.slice none 0 0]).getD j nilV = vs.getD j nilV := fun j hj => by simp [List.getD, List.getElem?_append_left (show j < vs.length by rw [s.H.ms.len]; exact hj)]
  have ge : (vs ++ [Value.slice none 0 0]).getD st.M.length nilV = .slice none 0 0 := by rw [← s.H.ms.len]; simp [List.getD]
  have hne : some Qd ≠ (Value.slice va st.M.length vc).ownBlock := fun e => by have := hlo Qd e.symm; omega
  refine ⟨.slice a9 (st.M.length + 1) c9, hH.farLo gs hq.1 hq.2 s.nr, ?_, ?_, ?_, fun j hj => ?_, s.d3, s.d4, s.q, s.nr, ⟨a9, c9, by rw [List.length_append, List.length_singleton]⟩⟩
  · exact ((s.D.block (hbA.block _ (by omega))).block (hg.block _ (by omega) hne)).set (j := 14) (by simp) _
  · exact ((s.O1.below hbA (Nat.le_refl _)).grown hg s.d1).grown gs s.d4
  · exact key _ s.d1 s.O1.row_hi
  · rw [List.length_append, List.length_singleton] at hj
    by_cases e : j < st.M.length
    · rw [gl j e]; exact s.d2 j e
    · obtain rfl : j = st.M.length := by omega
      rw [ge]; exact Dn.symm (.inl rfl)
/-- The answer behind the thanks. -/
theorem FlS.fin {w0 : World} {B Qm Qd Qp : Nat} {d : BD} {h : BH} {ts : List TaskD} {pa : Option Addr} {pc : Nat} {now : Int} {a1 : Option Addr} {c1 : Nat} {L : List ByteArray} {st : HSt} {v : Value} {vs : List Value} {wr : World} (s : FlS w0 B Qm Qd Qp d h ts pa pc now a1 c1 L st v vs wr) (hB : w0.heap.size ≤ B) : DkF w0 B Qd ⟨d.wk, d.up, now, 0, d.ep, st.gv, L, [], d.R, st.J, st.S, []⟩ ⟨a1, none, h.ar, h.aj, h.az, none, c1, 0, h.cr, h.cj, h.cs, 0⟩ (.slice pa ts.length pc) (.map (some Qp)) v st.M vs (wr.setCell ⟨Qd, 11, none⟩ (.slice none 0 0)) := by
  have hq := s.q
  have hsz := s.H.sz
  have gs := gset (World.grownBy.refl wr (some Qd)) 11 (.slice none 0 0)
  have hH := s.H.farLo gs hq.1 hq.2 s.nr
  have hbo := hH.bo
  have hlj : st.J.length = d.J.length ∧ st.S.length = d.S.length := s.H.lj
  have hrs : ∀ r ∈ rowsB ⟨d.wk, d.up, now, 0, d.ep, st.gv, L, [], d.R, st.J, st.S, []⟩ ⟨a1, none, h.ar, h.aj, h.az, none, c1, 0, h.cr, h.cj, h.cs, 0⟩, r = (Value.slice a1 L.length c1).ownBlock ∨ r = none ∨ r ∈ rowsB d.bare h.bare := fun r hr => by
    simp only [rowsB, List.mem_cons, List.not_mem_nil, or_false, hlj.1, hlj.2] at hr
    rcases hr with rfl | rfl | rfl | rfl | rfl | rfl
    · exact .inl rfl
    · exact .inr (.inl rfl)
    · exact .inr (.inr (by simp [rowsB, BD.bare, BH.bare]))
    · exact .inr (.inr (by simp [rowsB, BD.bare, BH.bare]))
    · exact .inr (.inr (by simp [rowsB, BD.bare, BH.bare]))
    · exact .inr (.inl rfl)
  have mr : (Value.slice h.ar d.R.length h.cr).ownBlock ∈ rowsB d.bare h.bare := by simp [rowsB, BD.bare, BH.bare]
  have mj : (Value.slice h.aj st.J.length h.cj).ownBlock ∈ rowsB d.bare h.bare := by rw [hlj.1]; simp [rowsB, BD.bare, BH.bare]
  have mz : (Value.slice h.az st.S.length h.cs).ownBlock ∈ rowsB d.bare h.bare := by rw [hlj.2]; simp [rowsB, BD.bare, BH.bare]
  have hd := hbo.dis
  simp only [BD.at, BD.bare, BH.bare, List.pairwise_cons, List.mem_cons, List.not_mem_nil, or_false, forall_eq_or_imp, forall_eq, List.Pairwise.nil, and_true, false_implies, implies_true] at hd
  obtain ⟨_, _, ⟨d23, d24, _⟩, ⟨d34, _⟩, _⟩ := hd
  refine ⟨⟨⟨s.O1.grown gs s.d4, Own.nil _ _ _, hbo.o2, hbo.o3, hbo.o4, Own.nil _ _ _, ?_⟩, hH.ms.mono s.H.bs, fun r hr => ?_, fun r hr j hj => ?_⟩, ?_, hH.hb, fun r hr => ?_, ?_, fun j hj => ?_, ⟨hq.1, by have := gs.size; omega, hB⟩, s.vm⟩
  · have n0 : ∀ x, Dj x (Value.slice none 0 0).ownBlock := fun x => Dj.symm (.inl rfl)
    simp only [List.pairwise_cons, List.mem_cons, List.not_mem_nil, or_false, forall_eq_or_imp, forall_eq, List.Pairwise.nil, and_true, false_implies, implies_true]
    exact ⟨⟨n0 _, (s.d3 _ mr).symm, (s.d3 _ mj).symm, (s.d3 _ mz).symm, n0 _⟩, ⟨.inl rfl, .inl rfl, .inl rfl, .inl rfl⟩, ⟨d23, d24, n0 _⟩, ⟨d34, n0 _⟩, n0 _⟩
  · rcases hrs r hr with rfl | rfl | hr
    · exact s.d1
    · exact .inl rfl
    · exact (s.H.rows hr).1.symm
  · rcases hrs r hr with rfl | rfl | hr
    · exact s.d2 j hj
    · exact .inl rfl
    · exact ((s.H.rows hr).2 j hj).symm
  · have := s.D.set (j := 11) (by simp) (.slice none 0 0)
    rw [← hlj.1, ← hlj.2] at this
    exact this
  · rcases hrs r hr with rfl | rfl | hr
    · rcases s.d4 with h | h
      · rw [h]; simp
      · exact h
    · simp
    · exact s.nr r hr
  · exact (Dn.later (x := some Qd) (m := Qm) (fun k e => by injection e with e; omega) s.H.ms.row.row_lo).symm
  · exact (Dn.later (x := some Qd) (m := Qm) (fun k e => by injection e with e; omega) (s.H.ms.dep j hj).row_lo).symm
def rowL (d : BD) (h : BH) : Option Nat := (Value.slice h.a1 d.L1.length h.c1).ownBlock
theorem rowL_mem (d : BD) (h : BH) : rowL d h ∈ rowsB d h := by unfold rowL rowsB; simp
theorem bare_mem {d : BD} {h : BH} {r : Option Nat} (hr : r ∈ rowsB d.bare h.bare) : r = none ∨ r ∈ rowsB d h := by
  simp only [rowsB, BD.bare, BH.bare, List.mem_cons, List.not_mem_nil, or_false] at hr
  rcases hr with rfl | rfl | rfl | rfl | rfl | rfl
  · exact .inl rfl
  · exact .inl rfl
  · exact .inr (by simp [rowsB])
  · exact .inr (by simp [rowsB])
  · exact .inr (by simp [rowsB])
  · exact .inr (by simp [rowsB])
/-- What was loose is safe. -/
theorem DkS.safe {w0 wK : World} {B Qm Qd Qp : Nat} {d : BD} {h : BH} {ts : List TaskD} {pa : Option Addr} {pc : Nat} {now : Int} {nb : Nat} {st : HSt} {v : Value} {vs : List Value} {x0 w9 : World} {a9 : Option Addr} {c9 : Nat} (s : DkS w0 wK B Qm Qd Qp d h ts pa pc now 0 nb st v vs x0)
    (ho : Own B w9 1 (.slice a9 (d.L1.length + d.L2.length) c9) (d.L1.length + d.L2.length) (d.L1.map Value.string ++ d.L2.map Value.string)) (hg : x0.grownBy w9 (rowL d h)) (hbk : (Value.slice a9 (d.L1.length + d.L2.length) c9).ownBlock = rowL d h ∨ (Value.slice a9 (d.L1.length + d.L2.length) c9).ownBlock = some x0.heap.size) :
    w9.there Qd 6 2 ∧ FlS w0 B Qm Qd Qp d h ts pa pc now a9 c9 (d.L1 ++ d.L2) st v vs (w9.setCells Qd 6 [.slice a9 (d.L1.length + d.L2.length) c9, .slice none 0 0]) := by
  have hq := s.q
  have hsz := s.H.sz
  have hbs := s.H.bs
  have hnr := s.nr _ (rowL_mem d h)
  have hlL := s.H.lo _ (rowL_mem d h)
  have hrL := s.H.rows (rowL_mem d h)
  have hd := s.H.bo.dis
  simp only [BD.at, List.pairwise_cons, List.mem_cons, List.not_mem_nil, or_false, forall_eq_or_imp, forall_eq, List.Pairwise.nil, and_true, false_implies, implies_true] at hd
  obtain ⟨⟨_, e02, e03, e04, e05⟩, _, ⟨d23, d24, d25⟩, ⟨d34, d35⟩, d45⟩ := hd
  have hgz := hg.size
  have hcr : ∀ r ∈ rowsB d.bare h.bare, Dj (rowL d h) r := fun r hr => by
    simp only [rowsB, BD.bare, BH.bare, List.mem_cons, List.not_mem_nil, or_false] at hr
    have hjl : (Value.slice h.aj st.J.length h.cj).ownBlock = (Value.slice h.aj d.J.length h.cj).ownBlock := by rw [s.H.lj.1]
    have hsl : (Value.slice h.az st.S.length h.cs).ownBlock = (Value.slice h.az d.S.length h.cs).ownBlock := by rw [s.H.lj.2]
    rw [hjl] at e03
    rw [hsl] at e04
    rcases hr with rfl | rfl | rfl | rfl | rfl | rfl
    · exact Dj.symm (.inl rfl)
    · exact Dj.symm (.inl rfl)
    · exact e02
    · exact e03
    · exact e04
    · exact e05
  have h1 : HdI w0 B Qm d.bare h.bare st v vs x0 := by
    have hbo := s.H.bo
    refine ⟨⟨Own.nil _ _ _, Own.nil _ _ _, hbo.o2, hbo.o3, hbo.o4, hbo.o5, ?_⟩, s.H.ms, s.H.hb, s.H.lj, fun r hr q e => ?_, hsz, hbs⟩
    · simp only [BD.at, BD.bare, BH.bare, List.pairwise_cons, List.mem_cons, List.not_mem_nil, or_false, forall_eq_or_imp, forall_eq, List.Pairwise.nil, and_true, false_implies, implies_true]
      exact ⟨⟨.inl rfl, .inl rfl, .inl rfl, .inl rfl, .inl rfl⟩, ⟨.inl rfl, .inl rfl, .inl rfl, .inl rfl⟩, ⟨d23, d24, d25⟩, ⟨d34, d35⟩, d45⟩
    · rcases bare_mem hr with rfl | hr
      · cases e
      · exact s.H.lo r hr q e
  have hnr' : ∀ r ∈ rowsB d.bare h.bare, r ≠ some Qd := fun r hr => by
    rcases bare_mem hr with rfl | hr
    · simp
    · exact (s.nr r hr).2
  have h2 := h1.farR hg (fun q e => (hlL q e).1) (fun r hr q e hh => by
    rcases hcr r hr with hx | hx
    · rw [hx] at hh; cases hh
    · exact hx (hh.trans e.symm)) hrL.1 hrL.2
  have gs : w9.grownBy (w9.setCells Qd 6 [.slice a9 (d.L1.length + d.L2.length) c9, .slice none 0 0]) (some Qd) := grown_setCells _ _ _ _ _ (World.grownBy.refl _ _)
  have h3 := h2.farLo gs hq.2.1 hq.2.2.2.1 hnr'
  have hD9 := s.D.block (hg.block _ (by omega) (fun e => hnr.2 e.symm))
  have key : ∀ x : Option Nat, Dn (rowL d h) x → (∀ q, x = some q → q < x0.heap.size) → Dn (Value.slice a9 (d.L1.length + d.L2.length) c9).ownBlock x := fun x k1 k2 => by
    rcases hbk with e | e
    · rw [e]; exact k1
    · rw [e]; exact (Dn.later k2 (fun q hq => by injection hq with hq; omega)).symm
  have hd4 := key (some Qd) (.inr hnr.2) (fun q e => by injection e with e; omega)
  refine ⟨fun j hj => ?_, h3, ?_, ?_, ?_, fun j hj => ?_, fun r hr => ?_, ?_, ⟨hq.2.1, hq.2.2.2.1⟩, hnr', s.vm⟩
  · have : j = 0 ∨ j = 1 := by omega
    rcases this with rfl | rfl
    · have := hD9 6 (by simp); exact ⟨by rw [this.1]; rfl, this.2⟩
    · have := hD9 7 (by simp); exact ⟨by rw [this.1]; rfl, this.2⟩
  · have := (hD9.set (j := 6) (by simp) (.slice a9 (d.L1.length + d.L2.length) c9)).set (j := 7) (by simp) (.slice none 0 0)
    rw [List.length_append]
    exact this
  · rw [List.length_append, List.map_append]; exact ho.grown gs hd4
  · rw [List.length_append]; exact key _ hrL.1.symm s.H.ms.row.row_hi
  · rw [List.length_append]; exact key _ (hrL.2 j hj).symm (s.H.ms.dep j hj).row_hi
  · rw [List.length_append]
    refine Dj.symm (key r (hcr r hr) (fun q e => ?_))
    rcases bare_mem hr with rfl | hr
    · cases e
    · have := s.H.lo r hr q e; omega
  · rw [List.length_append]; exact hd4
/-- What a flush gives. -/
def flB (d : BD) (st : HSt) (now sn : Int) : BD × List MgD :=
  if sn + 1 < 2 then (⟨d.wk, d.up, now, sn + 1, d.ep, st.gv, d.L1, d.L2, d.R, st.J, st.S, d.O⟩, st.M)
  else (⟨d.wk, d.up, now, 0, d.ep, st.gv, d.L1 ++ d.L2, [], d.R, st.J, st.S, []⟩, st.M ++ d.O.map (thx d.ep))
end Go.Proofs.YtaeomkpofcbmiaaGreat
