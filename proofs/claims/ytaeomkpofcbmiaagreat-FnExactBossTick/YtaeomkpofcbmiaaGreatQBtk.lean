import Derived.Test.YtaeomkpofcbmiaaGreatQBfl
import Derived.Test.YtaeomkpofcbmiaaGreatQBel
namespace Go.Proofs.YtaeomkpofcbmiaaGreat
open Go.RowKit

/-- While nothing is sent: what is sent will lie behind all that is there. -/
theorem DkS.raise {w0 wK wr : World} {B Qm Qd Qp : Nat} {d : BD} {h : BH} {ts : List TaskD} {pa : Option Addr} {pc : Nat} {now sn gv : Int} {nb : Nat} {J : List Tr} {S : List (Bool × Int)} (s : DkS w0 wK B Qm Qd Qp d h ts pa pc now sn nb ⟨gv, J, S, []⟩ (.slice none 0 0) [] wr) : DkS w0 wr B wr.heap.size Qd Qp d h ts pa pc now sn nb ⟨gv, J, S, []⟩ (.slice none 0 0) [] wr := by
  have hq := s.q
  have hz := s.H.sz
  exact ⟨⟨s.H.bo, MsO.nil _ _, s.H.hb, s.H.lj, fun r hr q e => by have := s.H.lo r hr q e; omega, Nat.le_refl _, Nat.le_trans s.H.bs hz⟩, s.D, s.mp, ⟨hq.1, hq.2.1, hq.2.2.1, by omega, by omega⟩, s.nr, s.vm, fun q _ _ _ _ => rfl⟩
theorem BD.jobsZ {d : BD} {ts : List TaskD} (h : d.ok ts) (hu : d.up = true) : ∀ i, i < d.J.length → jobZ (t3 d.J i) := by
  obtain ⟨wk, up, now, sn, ep, gv, L1, L2, R, J, S, O⟩ := d
  dsimp only at hu
  subst hu
  have h' := h
  obtain ⟨_, _, _, E, Q, hr, _⟩ := h'
  obtain ⟨_, e2, _, _, _, e6, _⟩ := vB_up h hr
  intro i hi
  dsimp only at e2 e6 hi ⊢
  rcases e6.2 i hi with hz | ⟨hj, _⟩
  · exact .inl hz
  · right
    have := hj.1
    omega
set_option maxHeartbeats 8000000 in
set_option maxRecDepth 100000 in
theorem tick_any (d : BD) (h : BH) (ts : List TaskD) (pa : Option Addr) (pb po pc : Nat) (w0 : World) (Qd Qp : Nat) (w : World) (s : DkS w0 w w0.heap.size w.heap.size Qd Qp d h ts pa pc d.now d.sn d.J.length ⟨d.gv, d.J, d.S, []⟩ (.slice none 0 0) [] w) (hok : d.ok ts) (hf : d.fits) (hsm : d.small) (hT : TasksAt w0 pa pb po ts.length ts) :
    Calls Tryz.prog 35 #[.pointer (some ⟨Qd, 0, none⟩)] w fun e w' => e = .returned (.tuple #[]) ∧ ∃ hF v' vs', DkF w0 w0.heap.size Qd (tickB d ts).1 hF (.slice pa ts.length pc) (.map (some Qp)) v' (tickB d ts).2 vs' w' := by
  have hok' := hok
  obtain ⟨⟨hcode, _⟩, _, hnow, _⟩ := hok'
  obtain ⟨h1, h40, _, _, hAD⟩ := hcode.namesB
  have y2 : w.cell? ⟨Qd, 2, none⟩ = some (.int .i64 d.now) := (s.D 2 (by simp)).1
  have f2 : w.frozen? ⟨Qd, 2, none⟩ = false := (s.D 2 (by simp)).2
  have HOK := hid hok
  have HFF := hid hf
  have HTT := hid hT
  have HAD := hid hAD
  have HSM := hid hsm
  clear hok hf hT hAD hcode hsm
  obtain ⟨nw, hnw⟩ : ∃ n, n = d.now := ⟨_, rfl⟩
  rw [← hnw] at hnow y2
  by_cases hlt : nw = 1000000
  case pos =>
    have HF := hid (show ∃ hF v' vs', DkF w0 w0.heap.size Qd (tickB d ts).1 hF (.slice pa ts.length pc) (.map (some Qp)) v' (tickB d ts).2 vs' w from ⟨h, _, _, by
      unfold tickB
      rw [if_pos (by omega)]
      exact s.fin (Nat.le_refl _)⟩)
    clear s hnw hnow
    subst hlt
    go_enter Tryz.func35, Tryz.ntmps35
    go_wp2_with fail
    (try simp only [Exit.inBlock, Exit.then])
    refine bodyPost_ret (results_none rfl _ _ _) rfl ?_
    exact ⟨rfl, HF.out⟩
  case neg =>
    have hb : (nw == 1000000) = false := by simpa using hlt
    have HLT := hid (show d.now < 1000000 by omega)
    have HNW := hid (show 0 ≤ d.now ∧ d.now ≤ 1000000 by omega)
    have HNN := hid hnw
    clear hnw
    go_enter Tryz.func35, Tryz.ntmps35
    go_upto_region 2 with fail
    have s1 := s.setNow (nw + 1)
    obtain ⟨W1, hW1⟩ : ∃ V, V = w.setCell ⟨Qd, 2, none⟩ (.int .i64 (nw + 1)) := ⟨_, rfl⟩
    rw [← hW1] at s1
    rw [← hW1]
    have s1 : DkS w0 w w0.heap.size w.heap.size Qd Qp d h ts pa pc (d.now + 1) d.sn d.J.length ⟨d.gv, d.J, d.S, []⟩ (.slice none 0 0) [] W1 := by rw [← HNN.out]; exact s1
    clear hW1 y2 f2 s hb
    clear HNN hnow hlt
    cases hup : d.up with
    | false =>
      have y1 : W1.cell? ⟨Qd, 1, none⟩ = some (.bool false) := by rw [← hup]; exact (s1.D 1 (by simp)).1
      have HF := hid (show ∃ hF v' vs', DkF w0 w0.heap.size Qd (tickB d ts).1 hF (.slice pa ts.length pc) (.map (some Qp)) v' (tickB d ts).2 vs' W1 from ⟨h, _, _, by
        unfold tickB
        rw [if_neg (by have := HLT.out; omega), if_pos hup]
        exact s1.fin (Nat.le_refl _)⟩)
      clear s1 hup
      go_wp2_with fail
      (try simp only [Exit.inBlock, Exit.then])
      refine bodyPost_ret (results_none rfl _ _ _) rfl ?_
      exact ⟨rfl, HF.out⟩
    | true =>
      have y1 : W1.cell? ⟨Qd, 1, none⟩ = some (.bool true) := by rw [← hup]; exact (s1.D 1 (by simp)).1
      have HUP := hid hup
      clear hup
      have HLO := hid (fun r hr q e => Nat.lt_of_lt_of_le (s1.H.lo r hr q e).2 s1.H.sz)
      have hsq := s1.q
      have hsz := s1.H.sz
      obtain ⟨WA, hWA⟩ : ∃ V, V = W1.alloc (.cells #[.func (.func 75) #[.pointer (some ⟨Qd, 0, none⟩)] #[], .func (.func 76) #[.pointer (some ⟨Qd, 0, none⟩)] #[], .func (.func 77) #[.pointer (some ⟨Qd, 0, none⟩)] #[]] 1) := ⟨_, rfl⟩
      obtain ⟨Qr, hQ⟩ : ∃ q, q = W1.heap.size := ⟨_, rfl⟩
      have hbA : Below W1.heap.size W1 WA := by rw [hWA]; exact (Below.refl _ _).alloc (Nat.le_refl _) _
      have HCR : Hid (CF WA Qr [.func (.func 75) #[.pointer (some ⟨Qd, 0, none⟩)] #[], .func (.func 76) #[.pointer (some ⟨Qd, 0, none⟩)] #[], .func (.func 77) #[.pointer (some ⟨Qd, 0, none⟩)] #[]]) := by rw [hWA, hQ]; exact CF.made W1 #[.func (.func 75) #[.pointer (some ⟨Qd, 0, none⟩)] #[], .func (.func 76) #[.pointer (some ⟨Qd, 0, none⟩)] #[], .func (.func 77) #[.pointer (some ⟨Qd, 0, none⟩)] #[]] 1
      have zA : WA.heap.size = W1.heap.size + 1 := by rw [hWA]; simp
      have s2 := (s1.below hbA).raise
      have hQr : Qr < WA.heap.size ∧ Qr ≠ Qd ∧ Qr ≠ Qp := ⟨by omega, by omega, by omega⟩
      have HNR : Hid (∀ r ∈ rowsB d h, r ≠ some Qr) := fun r hr e => by have := HLO.out r hr Qr e; omega
      have HWA := hid hWA
      have HQR := hid hQ
      clear s1 hbA hWA hQ hsq hsz zA HLO
      have HS2 := hid s2
      clear s2
      go_wp2_with fail
      rw [← HWA.out, ← HQR.out]
      clear HWA HQR y1
      go_loopw [33] (fun x wq => (x = .int .i64 0 ∧ DkS w0 WA w0.heap.size WA.heap.size Qd Qp d h ts pa pc (d.now + 1) d.sn d.J.length ⟨d.gv, d.J, d.S, []⟩ (.slice none 0 0) [] wq) ∨ (x = .int .i64 1 ∧ DkS w0 WA w0.heap.size WA.heap.size Qd Qp d h ts pa pc (d.now + 1) d.sn d.J.length ⟨d.gv, d.J.map (endJ (d.now + 1)), d.S, []⟩ (.slice none 0 0) [] wq) ∨ (x = .int .i64 2 ∧ ∃ v vs, DkS w0 WA w0.heap.size WA.heap.size Qd Qp d h ts pa pc (d.now + 1) d.sn (d.J.length + ts.length) (handN d.ep (d.now + 1) d.R ts ⟨d.gv, d.J.map (endJ (d.now + 1)), d.S, []⟩ ts.length) v vs wq) ∨ (x = .int .i64 3 ∧ ∃ hF v' vs', DkF w0 w0.heap.size Qd (tickB d ts).1 hF (.slice pa ts.length pc) (.map (some Qp)) v' (tickB d ts).2 vs' wq)) (fun x _ => 3 - (intOf x).toNat)
      case atStart => exact .inl ⟨rfl, HS2.out⟩
      case round =>
        clear HS2
        rcases hrel with ⟨rfl, hs⟩ | ⟨rfl, hs⟩ | ⟨rfl, v, vs, hs⟩ | ⟨rfl, hfin⟩
        · have hsm := HSM.out
          unfold BD.small at hsm
          have y0 : wr.cell? ⟨Qr, 0, none⟩ = some (.func (.func 75) #[.pointer (some ⟨Qd, 0, none⟩)] #[]) := ((HCR.out.block (hs.fx Qr hQr.1 hQr.2.1 hQr.2.2 HNR.out)) 0 (by simp)).1
          have HC := hid (endLeases_any w0 WA w0.heap.size WA.heap.size Qd Qp d h ts pa pc (d.now + 1) d.sn d.J.length ⟨d.gv, d.J, d.S, []⟩ (.slice none 0 0) [] wr hs (by omega) (BD.jobsZ HOK.out HUP.out) HFF.out.k3)
          clear hs
          go_wp2_with fail
          refine HC.out.mono ?_
          rintro _ w5 ⟨rfl, s5⟩
          have HS := hid s5
          clear s5 HC y0
          go_wp2_with fail
          go_roundw
          case rel => exact .inr (.inl ⟨by go_num, HS.out⟩)
          case measure => simp [intOf]
        · obtain ⟨hRl, hJl, hep, hgv, hS8, hsn, hO⟩ := BD.upFacts HOK.out HUP.out
          have y1 : wr.cell? ⟨Qr, 1, none⟩ = some (.func (.func 76) #[.pointer (some ⟨Qd, 0, none⟩)] #[]) := ((HCR.out.block (hs.fx Qr hQr.1 hQr.2.1 hQr.2.2 HNR.out)) 1 (by simp)).1
          have HC := hid (handOut_any w0 WA w0.heap.size WA.heap.size Qd Qp d h ts pa pb po pc (d.now + 1) d.sn d.J.length ⟨d.gv, d.J.map (endJ (d.now + 1)), d.S, []⟩ (.slice none 0 0) [] wr hs ⟨HFF.out.k2, hgv⟩ rfl h1 HFF.out hRl hJl HTT.out rfl HAD.out h40 hep (by have := HNW.out; have := HLT.out; omega) hS8 (by unfold maxLen; omega))
          clear hRl hJl hep hgv hS8 hsn hO
          clear hs
          go_wp2_with fail
          refine HC.out.mono ?_
          rintro _ w5 ⟨rfl, v', vs', s5⟩
          have HS := hid s5
          clear s5 HC y1
          go_wp2_with fail
          go_roundw
          case rel => exact .inr (.inr (.inl ⟨by go_num, _, _, HS.out⟩))
          case measure => simp [intOf]
        · obtain ⟨hRl, hJl, hep, hgv, hS8, hsn, hO⟩ := BD.upFacts HOK.out HUP.out
          have hsm := HSM.out
          unfold BD.small at hsm
          have hlm := handN_lenM d.ep (d.now + 1) d.R ts ⟨d.gv, d.J.map (endJ (d.now + 1)), d.S, []⟩ ts.length
          simp only [List.length_nil, Nat.zero_add] at hlm
          have y2 : wr.cell? ⟨Qr, 2, none⟩ = some (.func (.func 77) #[.pointer (some ⟨Qd, 0, none⟩)] #[]) := ((HCR.out.block (hs.fx Qr hQr.1 hQr.2.1 hQr.2.2 HNR.out)) 2 (by simp)).1
          have HC := hid (flush_any w0 WA w0.heap.size WA.heap.size Qd Qp d h ts pa pc (d.now + 1) d.sn (d.J.length + ts.length) (handN d.ep (d.now + 1) d.R ts ⟨d.gv, d.J.map (endJ (d.now + 1)), d.S, []⟩ ts.length) v vs wr hs hsn (Nat.le_refl _) (by omega) hO (by omega))
          clear hRl hJl hep hgv hS8 hsn hO hlm hsm
          clear hs
          go_wp2_with fail
          refine HC.out.mono ?_
          rintro _ w5 ⟨rfl, hF, v', vs', s5⟩
          have HS := hid (show ∃ hF v' vs', DkF w0 w0.heap.size Qd (tickB d ts).1 hF (.slice pa ts.length pc) (.map (some Qp)) v' (tickB d ts).2 vs' w5 from ⟨hF, v', vs', by
            have e : flB d (handN d.ep (d.now + 1) d.R ts ⟨d.gv, d.J.map (endJ (d.now + 1)), d.S, []⟩ ts.length) (d.now + 1) d.sn = tickB d ts := by
              unfold tickB
              rw [if_neg (by have := HLT.out; omega), if_neg (by rw [HUP.out]; simp)]
              rfl
            rw [← e]; exact s5⟩)
          clear s5 HC y2
          go_wp2_with fail
          go_roundw
          case rel => exact .inr (.inr (.inr ⟨by go_num, HS.out⟩))
          case measure => simp [intOf]
        · have HF := hid hfin
          clear hfin
          go_wp2_with fail
          go_end0
          exact ⟨rfl, HF.out⟩
end Go.Proofs.YtaeomkpofcbmiaaGreat
