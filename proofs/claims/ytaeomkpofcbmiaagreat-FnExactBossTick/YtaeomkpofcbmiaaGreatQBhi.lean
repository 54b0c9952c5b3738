import Derived.Test.YtaeomkpofcbmiaaGreatQBtd
namespace Go.Proofs.YtaeomkpofcbmiaaGreat
open Go.RowKit

/-- What l5Seat answers. -/
def seatR (S : List (Bool × Int)) (r : Int) : Prop := (∃ k : Nat, ffr S = some k ∧ r = k) ∨ (ffr S = none ∧ r = -1)
set_option maxHeartbeats 2000000 in
set_option maxRecDepth 100000 in
theorem l5Seat_any (wk : Int) (up : Bool) (now sn ep gv : Int) (a1 a2 ar aj az ao : Option Addr) (n1 c1 n2 c2 nr cr nj cj ns cs no co : Nat) (bs os' : Nat) (S : List (Bool × Int)) (w : World) (hS : T2At w az bs os' ns S) :
    Calls Tryz.prog 60 #[.agg #[.int .i64 wk, .bool up, .int .i64 now, .int .i64 sn, .int .i64 ep, .int .i64 gv, .slice a1 n1 c1, .slice a2 n2 c2, .slice ar nr cr, .slice aj nj cj, .slice az ns cs, .slice ao no co]] w fun e w' => (∃ r : Int, e = .returned (.int .i64 r) ∧ seatR S r) ∧ Below w.heap.size w w' := by
  have hmax := hS.max
  unfold maxLen at hmax
  obtain ⟨W, hW⟩ : ∃ W, W = w.alloc (.cells #[.int .i64 wk, .bool up, .int .i64 now, .int .i64 sn, .int .i64 ep, .int .i64 gv, .slice a1 n1 c1, .slice a2 n2 c2, .slice ar nr cr, .slice aj nj cj, .slice az ns cs, .slice ao no co] 40) := ⟨_, rfl⟩
  have hbW : Below w.heap.size w W := by rw [hW]; exact (Below.refl _ _).alloc (Nat.le_refl _) _
  have hMC : MC W w.heap.size [.int .i64 wk, .bool up, .int .i64 now, .int .i64 sn, .int .i64 ep, .int .i64 gv, .slice a1 n1 c1, .slice a2 n2 c2, .slice ar nr cr, .slice aj nj cj, .slice az ns cs, .slice ao no co] := by rw [hW]; exact MC.made w _ _
  have hlW : w.heap.size < W.heap.size := by rw [hW]; simp
  go_enter Tryz.func60, Tryz.ntmps60
  go_upto_region 1 with fail
  rw [← hW]
  clear hW
  have q10 : W.cell? ⟨w.heap.size, 10, none⟩ = some (.slice az ns cs) := hMC 10 (by simp)
  clear hMC
  go_wp2_with fail
  go_loopw [3] (fun i wr => ∃ k : Nat, k ≤ ns ∧ i = .int .i64 k ∧ (∀ j, j < k → (t2 S j).1 = false) ∧ wr = W) (fun i _ => ns - (intOf i).toNat)
  case atStart => exact ⟨0, Nat.zero_le _, rfl, fun j hj => absurd hj (by omega), rfl⟩
  case round =>
    obtain ⟨k, hk, rfl, hno, rfl⟩ := hrel
    by_cases hlt : k < ns
    · obtain rfl := hS.ad (by omega)
      have hc0 := (hS.below' hbW).c0 k hlt
      obtain ⟨fr, hfr⟩ : ∃ x, x = (t2 S k).1 := ⟨_, rfl⟩
      rw [← hfr] at hc0
      have HF := hid hfr
      clear hfr
      have hlt' : (k : Int) < (ns : Int) := by omega
      cases fr with
      | true =>
        have HR := hid (show seatR S (k : Nat) from .inl ⟨k, ffr_some (by rw [hS.len]; exact hlt) HF.out.symm hno, rfl⟩)
        go_wp2_with fail
        go_ret
        exact ⟨⟨_, rfl, HR.out⟩, hbW⟩
      | false =>
        go_wp2_with fail
        go_roundw
        case rel => exact ⟨k + 1, by omega, by go_num, fun j hj => (by rcases Nat.lt_or_ge j k with h | h; · exact hno j h
                                                                       · obtain rfl : j = k := by omega
                                                                         exact HF.out.symm), by trivial⟩
        case measure => simp [intOf]; omega
    · obtain rfl : k = ns := by omega
      have hlt' : ¬ (k : Int) < (k : Int) := by omega
      have HR := hid (show seatR S (-1) from .inr ⟨ffr_none (by rw [hS.len]; exact hno), rfl⟩)
      clear hno
      go_wp2_with fail
      go_ret
      exact ⟨⟨_, rfl, HR.out⟩, hbW⟩
end Go.Proofs.YtaeomkpofcbmiaaGreat

namespace Go.Proofs.YtaeomkpofcbmiaaGreat
open Go.RowKit

def BD.at (d : BD) (st : HSt) : BD := ⟨d.wk, d.up, d.now, d.sn, d.ep, st.gv, d.L1, d.L2, d.R, st.J, st.S, d.O⟩
theorem getD_set3 (J : List Tr) (i : Nat) (x : Tr) (hi : i < J.length) (j : Nat) : t3 (J.set i x) j = if i = j then x else t3 J j := by
  unfold t3
  by_cases e : i = j
  · subst e; simp [List.getD, hi]
  · rw [if_neg e]; simp [List.getD, List.getElem?_set_ne e]
theorem getD_set2 (S : List (Bool × Int)) (i : Nat) (x : Bool × Int) (hi : i < S.length) (j : Nat) : t2 (S.set i x) j = if i = j then x else t2 S j := by
  unfold t2
  by_cases e : i = j
  · subst e; simp [List.getD, hi]
  · rw [if_neg e]; simp [List.getD, List.getElem?_set_ne e]
theorem c3_set3 (J : List Tr) (i : Nat) (hi : i < J.length) (x : Tr) : (((c3 J).set (i * 3) (.int .i64 x.1)).set (i * 3 + 1) (.int .i64 x.2.1)).set (i * 3 + 2) (.int .i64 x.2.2) = c3 (J.set i x) := by
  refine c3_of (by simp [c3_length]) fun j hj => ?_
  rw [List.length_set] at hj
  rw [getD_set3 J i x hi j]
  have g0 := c3_get J j 0 hj (by omega)
  have g1 := c3_get J j 1 hj (by omega)
  have g2 := c3_get J j 2 hj (by omega)
  simp only [List.getElem?_set, List.length_set, c3_length]
  by_cases e : i = j
  · subst e
    refine ⟨?_, ?_, ?_⟩
    · rw [if_neg (by omega), if_neg (by omega), if_pos rfl, if_pos (by omega), if_pos rfl]
    · rw [if_neg (by omega), if_pos rfl, if_pos (by omega), if_pos rfl]
    · rw [if_pos rfl, if_pos (by omega), if_pos rfl]
  · refine ⟨?_, ?_, ?_⟩
    · rw [if_neg (by omega), if_neg (by omega), if_neg (by omega), if_neg e]; exact g0
    · rw [if_neg (by omega), if_neg (by omega), if_neg (by omega), if_neg e]; exact g1
    · rw [if_neg (by omega), if_neg (by omega), if_neg (by omega), if_neg e]; exact g2
theorem c2_set1 (S : List (Bool × Int)) (k : Nat) (hk : k < S.length) (b : Bool) : (c2 S).set (k * 2) (.bool b) = c2 (S.set k (b, (t2 S k).2)) := by
  refine c2_of (by simp [c2_length]) fun j hj => ?_
  rw [List.length_set] at hj
  rw [getD_set2 S k _ hk j]
  have g0 := c2_get S j 0 hj (by omega)
  have g1 := c2_get S j 1 hj (by omega)
  simp only [List.getElem?_set, c2_length]
  by_cases e : k = j
  · subst e
    exact ⟨by rw [if_pos rfl, if_pos (by omega), if_pos rfl], by rw [if_neg (by omega), if_pos rfl]; exact g1⟩
  · exact ⟨by rw [if_neg (by omega), if_neg e]; exact g0, by rw [if_neg (by omega), if_neg e]; exact g1⟩
/-- A job is written. -/
theorem Own.set3 {B : Nat} {w : World} {v : Value} {J : List Tr} (h : Own B w 3 v J.length (c3 J)) {i : Nat} (hi : i < J.length) : ∃ g o c, v = .slice (some ⟨g, o, none⟩) J.length c ∧ w.there g (o + i * 3) 3 ∧
    ∀ x : Tr, Own B (w.setCells g (o + i * 3) [.int .i64 x.1, .int .i64 x.2.1, .int .i64 x.2.2]) 3 v J.length (c3 (J.set i x)) := by
  rcases h with ⟨_, h0, _⟩ | ⟨g, o, cap, rfl, hc⟩
  · omega
  · have hl := hc.le
    refine ⟨g, o, cap, rfl, fun j hj => ?_, fun x => .inr ⟨g, o, cap, rfl, ?_⟩⟩
    · have := hc.there (i * 3 + j) (by omega)
      rw [← Nat.add_assoc] at this
      exact this
    · have h1 := hc.setCell (j := i * 3) (by omega) (.int .i64 x.1)
      have h2 := h1.setCell (j := i * 3 + 1) (by omega) (.int .i64 x.2.1)
      have h3 := h2.setCell (j := i * 3 + 2) (by omega) (.int .i64 x.2.2)
      rw [c3_set3 J i hi x] at h3
      exact h3
theorem Own.set2 {B : Nat} {w : World} {v : Value} {S : List (Bool × Int)} (h : Own B w 2 v S.length (c2 S)) {k : Nat} (hk : k < S.length) : ∃ g o c, v = .slice (some ⟨g, o, none⟩) S.length c ∧ w.cell? ⟨g, o + k * 2, none⟩ = some (.bool (t2 S k).1) ∧ w.frozen? ⟨g, o + k * 2, none⟩ = false ∧
    ∀ b : Bool, Own B (w.setCell ⟨g, o + k * 2, none⟩ (.bool b)) 2 v S.length (c2 (S.set k (b, (t2 S k).2))) := by
  rcases h with ⟨_, h0, _⟩ | ⟨g, o, cap, rfl, hc⟩
  · omega
  · have hl := hc.le
    refine ⟨g, o, cap, rfl, ?_, (hc.there (k * 2) (by omega)).2, fun b => .inr ⟨g, o, cap, rfl, ?_⟩⟩
    · rw [hc.holds (k * 2) (by omega)]
      exact c2_get S k 0 hk (by omega)
    · have h1 := hc.setCell (j := k * 2) (by omega) (.bool b)
      rw [c2_set1 S k hk b] at h1
      exact h1
/-- Other jobs and seats, their rows alone written. -/
theorem BossO.updJ {w w' : World} {B : Nat} {d : BD} {h : BH} {gv : Int} {J : List Tr} (hO : BossO w B d h) (hl : J.length = d.J.length) (hg : w.grownBy w' (Value.slice h.aj d.J.length h.cj).ownBlock) (hJ : Own B w' 3 (.slice h.aj d.J.length h.cj) d.J.length (c3 J)) : BossO w' B ⟨d.wk, d.up, d.now, d.sn, d.ep, gv, d.L1, d.L2, d.R, J, d.S, d.O⟩ h := by
  have hd := hO.dis
  simp only [List.pairwise_cons, List.mem_cons, List.not_mem_nil, or_false, forall_eq_or_imp, forall_eq, List.Pairwise.nil, and_true, false_implies, implies_true] at hd
  obtain ⟨⟨_, _, d03, _, _⟩, ⟨_, d13, _, _⟩, ⟨d23, _, _⟩, ⟨d34, d35⟩, _⟩ := hd
  refine ⟨hO.o0.grown hg d03, hO.o1.grown hg d13, hO.o2.grown hg d23, ?_, hO.o4.grown hg d34.symm, hO.o5.grown hg d35.symm, ?_⟩
  · show Own B w' 3 (.slice h.aj J.length h.cj) J.length (c3 J)
    rw [hl]; exact hJ
  · have := hO.dis
    show List.Pairwise Dj [_, _, _, (Value.slice h.aj J.length h.cj).ownBlock, _, _]
    rw [hl]; exact this
theorem BossO.updS {w w' : World} {B : Nat} {d : BD} {h : BH} {S : List (Bool × Int)} (hO : BossO w B d h) (hl : S.length = d.S.length) (hg : w.grownBy w' (Value.slice h.az d.S.length h.cs).ownBlock) (hJ : Own B w' 2 (.slice h.az d.S.length h.cs) d.S.length (c2 S)) : BossO w' B ⟨d.wk, d.up, d.now, d.sn, d.ep, d.gv, d.L1, d.L2, d.R, d.J, S, d.O⟩ h := by
  have hd := hO.dis
  simp only [List.pairwise_cons, List.mem_cons, List.not_mem_nil, or_false, forall_eq_or_imp, forall_eq, List.Pairwise.nil, and_true, false_implies, implies_true] at hd
  obtain ⟨⟨_, _, _, d04, _⟩, ⟨_, _, d14, _⟩, ⟨_, d24, _⟩, ⟨d34, _⟩, d45⟩ := hd
  refine ⟨hO.o0.grown hg d04, hO.o1.grown hg d14, hO.o2.grown hg d24, hO.o3.grown hg d34, ?_, hO.o5.grown hg d45.symm, ?_⟩
  · show Own B w' 2 (.slice h.az S.length h.cs) S.length (c2 S)
    rw [hl]; exact hJ
  · have := hO.dis
    show List.Pairwise Dj [_, _, _, _, (Value.slice h.az S.length h.cs).ownBlock, _]
    rw [hl]; exact this
def rowJ (d : BD) (h : BH) : Option Nat := (Value.slice h.aj d.J.length h.cj).ownBlock
def rowS (d : BD) (h : BH) : Option Nat := (Value.slice h.az d.S.length h.cs).ownBlock
/-- Amid the handing out. -/
structure HdM (w0 w : World) (B Qm : Nat) (d : BD) (h : BH) (st : HSt) (v : Value) (vs : List Value) (wr : World) : Prop where
  bo : BossO wr B (d.at st) h
  ms : MsO wr Qm v st.M vs
  hb : Below B w0 wr
  gr : Grew [rowJ d h, rowS d h] w wr
  lj : st.J.length = d.J.length ∧ st.S.length = d.S.length
  lo : ∀ r ∈ rowsB d h, ∀ q, r = some q → B ≤ q ∧ q < w.heap.size
  qm : w.heap.size ≤ Qm
  sz : Qm ≤ wr.heap.size
  bs : B ≤ w.heap.size
theorem rowsB_at {d : BD} {h : BH} {st : HSt} (hl : st.J.length = d.J.length ∧ st.S.length = d.S.length) : rowsB (d.at st) h = rowsB d h := by
  unfold rowsB BD.at
  simp only [hl.1, hl.2]
theorem rowJ_mem (d : BD) (h : BH) : rowJ d h ∈ rowsB d h := by unfold rowJ rowsB; simp
theorem rowS_mem (d : BD) (h : BH) : rowS d h ∈ rowsB d h := by unfold rowS rowsB; simp
theorem HdM.below {w0 w wr w' : World} {B Qm : Nat} {d : BD} {h : BH} {st : HSt} {v : Value} {vs : List Value} (H : HdM w0 w B Qm d h st v vs wr) (hb : Below wr.heap.size wr w') : HdM w0 w B Qm d h st v vs w' :=
  ⟨H.bo.below hb, H.ms.below hb, H.hb.trans (hb.mono (Nat.le_trans H.bs (Nat.le_trans H.qm H.sz))), ⟨Nat.le_trans H.gr.size hb.size, fun q hq hr => (hb.block q (Nat.lt_of_lt_of_le hq H.gr.size)).trans (H.gr.block q hq hr), hb.os.trans H.gr.os, hb.tape.trans H.gr.tape, hb.output.trans H.gr.output⟩, H.lj, H.lo, H.qm, Nat.le_trans H.sz hb.size, H.bs⟩
/-- Another block is written: a box of the call. -/
theorem HdM.far {w0 w wr w' : World} {B Qm q : Nat} {d : BD} {h : BH} {st : HSt} {v : Value} {vs : List Value} (H : HdM w0 w B Qm d h st v vs wr) (hg : wr.grownBy w' (some q)) (h1 : w.heap.size ≤ q) (h2 : Dn v.ownBlock (some q)) (h3 : ∀ j, j < st.M.length → Dn (vs.getD j nilV).ownBlock (some q)) : HdM w0 w B Qm d h st v vs w' :=
  have hbs := H.bs
  have hqm := H.qm
  have hsz := H.sz
  ⟨H.bo.blk (fun r hr p hp => by
      rw [rowsB_at H.lj] at hr
      have := H.lo r hr p hp
      exact hg.block p (by omega) (fun e => by injection e with e; omega)),
    H.ms.grown hg h2 h3, H.hb.grown hg (by omega) (fun k e => by injection e with e; omega),
    ⟨Nat.le_trans H.gr.size hg.size, fun p hp hr => (hg.block p (Nat.lt_of_lt_of_le hp H.gr.size) (fun e => by injection e with e; omega)).trans (H.gr.block p hp hr), hg.os.trans H.gr.os, hg.tape.trans H.gr.tape, hg.output.trans H.gr.output⟩, H.lj, H.lo, H.qm, Nat.le_trans hsz hg.size, H.bs⟩
theorem HdM.farLo {w0 w wr w' : World} {B Qm q : Nat} {d : BD} {h : BH} {st : HSt} {v : Value} {vs : List Value} (H : HdM w0 w B Qm d h st v vs wr) (hg : wr.grownBy w' (some q)) (h1 : w.heap.size ≤ q) (h2 : q < Qm) : HdM w0 w B Qm d h st v vs w' :=
  H.far hg h1 ((Dn.later (x := some q) (y := v.ownBlock) (m := Qm) (fun k e => by injection e with e; omega) H.ms.row.row_lo).symm) (fun j hj => (Dn.later (x := some q) (m := Qm) (fun k e => by injection e with e; omega) (H.ms.dep j hj).row_lo).symm)
theorem HdM.rows {w0 w wr : World} {B Qm : Nat} {d : BD} {h : BH} {st : HSt} {v : Value} {vs : List Value} (H : HdM w0 w B Qm d h st v vs wr) {r : Option Nat} (hr : r ∈ rowsB d h) : Dn v.ownBlock r ∧ ∀ j, j < st.M.length → Dn (vs.getD j nilV).ownBlock r :=
  ⟨(Dn.later (m := Qm) (fun q e => by have := H.lo r hr q e; have := H.qm; omega) H.ms.row.row_lo).symm, fun j hj => (Dn.later (m := Qm) (fun q e => by have := H.lo r hr q e; have := H.qm; omega) (H.ms.dep j hj).row_lo).symm⟩
theorem HdM.setJ {w0 w wr w' : World} {B Qm : Nat} {d : BD} {h : BH} {st : HSt} {v : Value} {vs : List Value} {gv : Int} {J : List Tr} (H : HdM w0 w B Qm d h st v vs wr) (hl : J.length = d.J.length) (hg : wr.grownBy w' (rowJ d h)) (hJ : Own B w' 3 (.slice h.aj d.J.length h.cj) d.J.length (c3 J)) : HdM w0 w B Qm d h ⟨gv, J, st.S, st.M⟩ v vs w' := by
  have hbs := H.bs
  have hqm := H.qm
  have hsz := H.sz
  have hbo := H.bo
  have hjl : (d.at st).J.length = d.J.length := H.lj.1
  refine ⟨hbo.updJ (gv := gv) (by rw [hjl]; exact hl) (by rw [hjl]; exact hg) (by rw [hjl]; exact hJ), H.ms.grown hg (H.rows (rowJ_mem d h)).1 (H.rows (rowJ_mem d h)).2, H.hb.grown hg (by omega) (fun k e => (H.lo _ (rowJ_mem d h) k e).1), ?_, ⟨hl, H.lj.2⟩, H.lo, H.qm, Nat.le_trans hsz hg.size, H.bs⟩
  exact H.gr.step (Grew.of hg) (by simp)
theorem HdM.setS {w0 w wr w' : World} {B Qm : Nat} {d : BD} {h : BH} {st : HSt} {v : Value} {vs : List Value} {S : List (Bool × Int)} (H : HdM w0 w B Qm d h st v vs wr) (hl : S.length = d.S.length) (hg : wr.grownBy w' (rowS d h)) (hJ : Own B w' 2 (.slice h.az d.S.length h.cs) d.S.length (c2 S)) : HdM w0 w B Qm d h ⟨st.gv, st.J, S, st.M⟩ v vs w' := by
  have hbs := H.bs
  have hqm := H.qm
  have hsz := H.sz
  have hbo := H.bo
  have hjl : (d.at st).S.length = d.S.length := H.lj.2
  refine ⟨hbo.updS (by rw [hjl]; exact hl) (by rw [hjl]; exact hg) (by rw [hjl]; exact hJ), H.ms.grown hg (H.rows (rowS_mem d h)).1 (H.rows (rowS_mem d h)).2, H.hb.grown hg (by omega) (fun k e => (H.lo _ (rowS_mem d h) k e).1), ?_, ⟨H.lj.1, hl⟩, H.lo, H.qm, Nat.le_trans hsz hg.size, H.bs⟩
  exact H.gr.step (Grew.of hg) (by simp)
/-- Some blocks of the call are written. -/
theorem HdM.farR {w0 w wr w' : World} {B Qm : Nat} {d : BD} {h : BH} {st : HSt} {v : Value} {vs : List Value} {row : Option Nat} (H : HdM w0 w B Qm d h st v vs wr) (hg : wr.grownBy w' row) (h1 : ∀ q, row = some q → w.heap.size ≤ q) (h2 : Dn v.ownBlock row) (h3 : ∀ j, j < st.M.length → Dn (vs.getD j nilV).ownBlock row) : HdM w0 w B Qm d h st v vs w' := by
  cases row with
  | some q => exact H.far hg (h1 q rfl) h2 h3
  | none =>
    have hbs := H.bs
    have hqm := H.qm
    have hsz := H.sz
    refine ⟨H.bo.blk (fun r hr p hp => ?_), H.ms.grown hg h2 h3, H.hb.grown hg (by omega) (fun k e => by cases e), ?_, H.lj, H.lo, H.qm, Nat.le_trans hsz hg.size, H.bs⟩
    · rw [rowsB_at H.lj] at hr
      have := H.lo r hr p hp
      exact hg.block p (by omega) (by simp)
    · exact ⟨Nat.le_trans H.gr.size hg.size, fun p hp hr => (hg.block p (Nat.lt_of_lt_of_le hp H.gr.size) (by simp)).trans (H.gr.block p hp hr), hg.os.trans H.gr.os, hg.tape.trans H.gr.tape, hg.output.trans H.gr.output⟩
/-- One message more, by append. -/
theorem MsO.app {w w9 : World} {B : Nat} {v v' : Value} {ts : List MgD} {vs : List Value} {t : MgD} {u : Value} {ob : Obj} (h : MsO w B v ts vs) (hu : Own B w 1 u t.ss.length (t.ss.map Value.string)) (hud : Dn u.ownBlock v.ownBlock) (hdu : ∀ j, j < ts.length → Dn (vs.getD j nilV).ownBlock u.ownBlock)
    (ho : Own B w9 8 v' (ts.length + 1) (rowM ts vs ++ mcell t u)) (hg : (w.alloc ob).grownBy w9 v.ownBlock) (hbk : v'.ownBlock = v.ownBlock ∨ v'.ownBlock = some (w.alloc ob).heap.size) : MsO w9 B v' (ts ++ [t]) (vs ++ [u]) := by
  have hb : Below w.heap.size w (w.alloc ob) := (Below.refl _ _).alloc (Nat.le_refl _) _
  have hz : (w.alloc ob).heap.size = w.heap.size + 1 := by simp
  have key : ∀ x : Value, Dn x.ownBlock v.ownBlock → (∀ q, x.ownBlock = some q → q < w.heap.size) → Dn x.ownBlock v'.ownBlock := fun x h1 h2 => by
    rcases hbk with e | e
    · rw [e]; exact h1
    · exact Dn.later h2 (fun q hq => by rw [e] at hq; injection hq with hq; omega)
  refine MsO.snoc h.len (fun j hj => ((h.dep j hj).below hb (Nat.le_refl _)).grown hg (h.dr j hj)) h.dd ho ((hu.below hb (Nat.le_refl _)).grown hg hud) (fun j hj => key _ (h.dr j hj) (h.dep j hj).row_hi) (key _ hud hu.row_hi) hdu
theorem HdM.snoc {w0 w wr w9 : World} {B Qm : Nat} {d : BD} {h : BH} {st : HSt} {v v' : Value} {vs : List Value} {t : MgD} {u : Value} {ob : Obj} (H : HdM w0 w B Qm d h st v vs wr) (hu : Own Qm wr 1 u t.ss.length (t.ss.map Value.string)) (hud : Dn u.ownBlock v.ownBlock) (hdu : ∀ j, j < st.M.length → Dn (vs.getD j nilV).ownBlock u.ownBlock)
    (ho : Own Qm w9 8 v' (st.M.length + 1) (rowM st.M vs ++ mcell t u)) (hg : (wr.alloc ob).grownBy w9 v.ownBlock) (hbk : v'.ownBlock = v.ownBlock ∨ v'.ownBlock = some (wr.alloc ob).heap.size) : HdM w0 w B Qm d h ⟨st.gv, st.J, st.S, st.M ++ [t]⟩ v' (vs ++ [u]) w9 := by
  have hms := H.ms.app hu hud hdu ho hg hbk
  have hbs := H.bs
  have hqm := H.qm
  have hsz := H.sz
  have hlo := H.ms.row.row_lo
  have hA := H.below (w' := wr.alloc ob) ((Below.refl _ _).alloc (Nat.le_refl _) _)
  have hz : (wr.alloc ob).heap.size = wr.heap.size + 1 := by simp
  refine ⟨?_, hms, hA.hb.grown hg (by omega) (fun q e => by have := hlo q e; omega), ?_, H.lj, H.lo, H.qm, by have := hg.size; omega, H.bs⟩
  · have := hA.bo.blk (w' := w9) (fun r hr p hp => by
      rw [rowsB_at H.lj] at hr
      have := H.lo r hr p hp
      exact hg.block p (by omega) (fun e => by have := hlo p e.symm; omega))
    exact this
  · exact ⟨Nat.le_trans hA.gr.size hg.size, fun p hp hr => (hg.block p (Nat.lt_of_lt_of_le hp hA.gr.size) (fun e => by have := hlo p e.symm; omega)).trans (hA.gr.block p hp hr), hg.os.trans hA.gr.os, hg.tape.trans hA.gr.tape, hg.output.trans hA.gr.output⟩
end Go.Proofs.YtaeomkpofcbmiaaGreat

namespace Go.Proofs.YtaeomkpofcbmiaaGreat
open Go.RowKit

structure HdI (w0 : World) (B Qm : Nat) (d : BD) (h : BH) (st : HSt) (v : Value) (vs : List Value) (wr : World) : Prop where
  bo : BossO wr B (d.at st) h
  ms : MsO wr Qm v st.M vs
  hb : Below B w0 wr
  lj : st.J.length = d.J.length ∧ st.S.length = d.S.length
  lo : ∀ r ∈ rowsB d h, ∀ q, r = some q → B ≤ q ∧ q < Qm
  sz : Qm ≤ wr.heap.size
  bs : B ≤ Qm
theorem HdI.below {w0 wr w' : World} {B Qm : Nat} {d : BD} {h : BH} {st : HSt} {v : Value} {vs : List Value} (H : HdI w0 B Qm d h st v vs wr) (hb : Below wr.heap.size wr w') : HdI w0 B Qm d h st v vs w' :=
  ⟨H.bo.below hb, H.ms.below hb, H.hb.trans (hb.mono (Nat.le_trans H.bs H.sz)), H.lj, H.lo, Nat.le_trans H.sz hb.size, H.bs⟩
theorem HdI.rows {w0 wr : World} {B Qm : Nat} {d : BD} {h : BH} {st : HSt} {v : Value} {vs : List Value} (H : HdI w0 B Qm d h st v vs wr) {r : Option Nat} (hr : r ∈ rowsB d h) : Dn v.ownBlock r ∧ ∀ j, j < st.M.length → Dn (vs.getD j nilV).ownBlock r :=
  ⟨(Dn.later (m := Qm) (fun q e => (H.lo r hr q e).2) H.ms.row.row_lo).symm, fun j hj => (Dn.later (m := Qm) (fun q e => (H.lo r hr q e).2) (H.ms.dep j hj).row_lo).symm⟩
/-- Another block is written. -/
theorem HdI.farR {w0 wr w' : World} {B Qm : Nat} {d : BD} {h : BH} {st : HSt} {v : Value} {vs : List Value} {row : Option Nat} (H : HdI w0 B Qm d h st v vs wr) (hg : wr.grownBy w' row) (h1 : ∀ q, row = some q → B ≤ q) (h0 : ∀ r ∈ rowsB d h, ∀ q, r = some q → row ≠ some q) (h2 : Dn v.ownBlock row) (h3 : ∀ j, j < st.M.length → Dn (vs.getD j nilV).ownBlock row) : HdI w0 B Qm d h st v vs w' := by
  have hbs := H.bs
  have hsz := H.sz
  refine ⟨H.bo.blk (fun r hr p hp => ?_), H.ms.grown hg h2 h3, H.hb.grown hg (by omega) h1, H.lj, H.lo, Nat.le_trans hsz hg.size, H.bs⟩
  rw [rowsB_at H.lj] at hr
  have := H.lo r hr p hp
  exact hg.block p (by omega) (fun e => h0 r hr p hp e.symm)
/-- .. below the messages. -/
theorem HdI.farLo {w0 wr w' : World} {B Qm q : Nat} {d : BD} {h : BH} {st : HSt} {v : Value} {vs : List Value} (H : HdI w0 B Qm d h st v vs wr) (hg : wr.grownBy w' (some q)) (h1 : B ≤ q) (h2 : q < Qm) (h0 : ∀ r ∈ rowsB d h, r ≠ some q) : HdI w0 B Qm d h st v vs w' :=
  H.farR hg (fun k e => by injection e with e; omega) (fun r hr p hp e => by rw [← e] at hp; exact h0 r hr hp) ((Dn.later (x := some q) (m := Qm) (fun k e => by injection e with e; omega) H.ms.row.row_lo).symm) (fun j hj => (Dn.later (x := some q) (m := Qm) (fun k e => by injection e with e; omega) (H.ms.dep j hj).row_lo).symm)
theorem HdI.setJ {w0 wr w' : World} {B Qm : Nat} {d : BD} {h : BH} {st : HSt} {v : Value} {vs : List Value} {gv : Int} {J : List Tr} (H : HdI w0 B Qm d h st v vs wr) (hl : J.length = d.J.length) (hg : wr.grownBy w' (rowJ d h)) (hJ : Own B w' 3 (.slice h.aj d.J.length h.cj) d.J.length (c3 J)) : HdI w0 B Qm d h ⟨gv, J, st.S, st.M⟩ v vs w' := by
  have hbs := H.bs
  have hsz := H.sz
  have hbo := H.bo
  have hjl : (d.at st).J.length = d.J.length := H.lj.1
  exact ⟨hbo.updJ (gv := gv) (by rw [hjl]; exact hl) (by rw [hjl]; exact hg) (by rw [hjl]; exact hJ), H.ms.grown hg (H.rows (rowJ_mem d h)).1 (H.rows (rowJ_mem d h)).2, H.hb.grown hg (by omega) (fun k e => (H.lo _ (rowJ_mem d h) k e).1), ⟨hl, H.lj.2⟩, H.lo, Nat.le_trans hsz hg.size, H.bs⟩
theorem HdI.setS {w0 wr w' : World} {B Qm : Nat} {d : BD} {h : BH} {st : HSt} {v : Value} {vs : List Value} {S : List (Bool × Int)} (H : HdI w0 B Qm d h st v vs wr) (hl : S.length = d.S.length) (hg : wr.grownBy w' (rowS d h)) (hJ : Own B w' 2 (.slice h.az d.S.length h.cs) d.S.length (c2 S)) : HdI w0 B Qm d h ⟨st.gv, st.J, S, st.M⟩ v vs w' := by
  have hbs := H.bs
  have hsz := H.sz
  have hbo := H.bo
  have hjl : (d.at st).S.length = d.S.length := H.lj.2
  exact ⟨hbo.updS (by rw [hjl]; exact hl) (by rw [hjl]; exact hg) (by rw [hjl]; exact hJ), H.ms.grown hg (H.rows (rowS_mem d h)).1 (H.rows (rowS_mem d h)).2, H.hb.grown hg (by omega) (fun k e => (H.lo _ (rowS_mem d h) k e).1), ⟨H.lj.1, hl⟩, H.lo, Nat.le_trans hsz hg.size, H.bs⟩
theorem HdI.snoc {w0 wr w9 : World} {B Qm : Nat} {d : BD} {h : BH} {st : HSt} {v v' : Value} {vs : List Value} {t : MgD} {u : Value} {ob : Obj} (H : HdI w0 B Qm d h st v vs wr) (hu : Own Qm wr 1 u t.ss.length (t.ss.map Value.string)) (hud : Dn u.ownBlock v.ownBlock) (hdu : ∀ j, j < st.M.length → Dn (vs.getD j nilV).ownBlock u.ownBlock)
    (ho : Own Qm w9 8 v' (st.M.length + 1) (rowM st.M vs ++ mcell t u)) (hg : (wr.alloc ob).grownBy w9 v.ownBlock) (hbk : v'.ownBlock = v.ownBlock ∨ v'.ownBlock = some (wr.alloc ob).heap.size) : HdI w0 B Qm d h ⟨st.gv, st.J, st.S, st.M ++ [t]⟩ v' (vs ++ [u]) w9 := by
  have hms := H.ms.app hu hud hdu ho hg hbk
  have hbs := H.bs
  have hsz := H.sz
  have hlo := H.ms.row.row_lo
  have hA := H.below (w' := wr.alloc ob) ((Below.refl _ _).alloc (Nat.le_refl _) _)
  have hz : (wr.alloc ob).heap.size = wr.heap.size + 1 := by simp
  refine ⟨?_, hms, hA.hb.grown hg (by omega) (fun q e => by have := hlo q e; omega), H.lj, H.lo, by have := hg.size; omega, H.bs⟩
  exact hA.bo.blk (w' := w9) (fun r hr p hp => by
    rw [rowsB_at H.lj] at hr
    have := H.lo r hr p hp
    exact hg.block p (by omega) (fun e => by have := hlo p e.symm; omega))
end Go.Proofs.YtaeomkpofcbmiaaGreat
