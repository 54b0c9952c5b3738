import Derived.Test.YtaeomkpofcbmiaaGreatQBhi
import Derived.Test.YtaeomkpofcbmiaaGreatQBdl
import Derived.Deep.DeepCutAuto
namespace Go.Proofs.YtaeomkpofcbmiaaGreat
open Go.RowKit

set_option maxRecDepth 100000 in
theorem isFree_any (f : Bool) (ep : Int) (w : World) :
    Calls Tryz.prog 104 #[.agg #[.bool f, .int .i64 ep]] w fun e w' => e = .returned (.bool f) ∧ Below w.heap.size w w' := by
  have hb : Below w.heap.size w (w.alloc (.cells #[.bool f, .int .i64 ep] 104)) := (Below.refl _ _).alloc (Nat.le_refl _) _
  go_enter Tryz.func104, Tryz.ntmps104
  go_wp2
  go_ret
  exact ⟨rfl, hb⟩
set_option maxHeartbeats 2000000 in
set_option maxRecDepth 100000 in
theorem idxSeat_any (az : Option Addr) (ns cs bs os' : Nat) (S : List (Bool × Int)) (w : World) (hS : T2At w az bs os' ns S) :
    Calls Tryz.prog 103 #[.slice az ns cs, .func (.func 104) #[] #[]] w fun e w' => (∃ r : Int, e = .returned (.int .i64 r) ∧ seatR S r) ∧ Below w.heap.size w w' := by
  have hmax := hS.max
  unfold maxLen at hmax
  go_enter Tryz.func103, Tryz.ntmps103
  go_wp2_with fail
  go_loopw [8] (fun i wr => ∃ k : Nat, k ≤ ns ∧ i = .int .i64 k ∧ (∀ j, j < k → (t2 S j).1 = false) ∧ Below w.heap.size w wr) (fun i _ => ns - (intOf i).toNat)
  case atStart => exact ⟨0, Nat.zero_le _, rfl, fun j hj => absurd hj (by omega), Below.refl _ _⟩
  case round =>
    obtain ⟨k, hk, rfl, hno, hb⟩ := hrel
    by_cases hlt : k < ns
    · obtain rfl := hS.ad (by omega)
      have hc0 := (hS.below' hb).c0 k hlt
      have hc1 := (hS.below' hb).c1 k hlt
      obtain ⟨⟨fr, ee⟩, hx⟩ : ∃ x, x = t2 S k := ⟨_, rfl⟩
      rw [← hx] at hc0 hc1
      dsimp only at hc0 hc1
      have HX := hid hx
      clear hx
      have hlt' : (k : Int) < (ns : Int) := by omega
      go_wp2_with fail
      refine (isFree_any fr ee _).mono ?_
      rintro e w1 ⟨rfl, hb1⟩
      have hb2 := hb.trans (hb1.mono hb.size)
      cases fr with
      | true =>
        have HR := hid (show seatR S (k : Nat) from .inl ⟨k, ffr_some (by rw [hS.len]; exact hlt) (by have := HX.out; show (t2 S k).1 = true; rw [← this]) hno, rfl⟩)
        clear hc0 hc1 hb1
        go_wp2_with fail
        go_ret
        exact ⟨⟨_, rfl, HR.out⟩, hb2⟩
      | false =>
        clear hc0 hc1 hb1
        go_wp2_with fail
        go_roundw
        case rel => exact ⟨k + 1, by omega, by go_num, fun j hj => (by rcases Nat.lt_or_ge j k with h | h; · exact hno j h
                                                                       · obtain rfl : j = k := by omega
                                                                         rw [← HX.out]), hb2⟩
        case measure => simp [intOf]; omega
    · obtain rfl : k = ns := by omega
      have hlt' : ¬ (k : Int) < (k : Int) := by omega
      have HR := hid (show seatR S (-1) from .inr ⟨ffr_none (by rw [hS.len]; exact hno), rfl⟩)
      clear hno
      go_wp2_with fail
      go_ret
      exact ⟨⟨_, rfl, HR.out⟩, hb⟩
end Go.Proofs.YtaeomkpofcbmiaaGreat

namespace Go.Proofs.YtaeomkpofcbmiaaGreat
open Go.RowKit

section
variable {ρ : Operand → Value} {o : Oper} {w : World}
theorem run_faB4 {g : Nat} (x : Operand) (h : o.op = .fieldAddr 40 x 4) (hx : ρ x = .pointer (some ⟨g, 0, none⟩)) : (execOp ρ o).run Tryz.prog w = .ok (.value (.pointer (some ⟨g, 4, none⟩))) w := by
  unfold execOp; rw [h]; simp [go_sem, hx]
theorem run_faB5 {g : Nat} (x : Operand) (h : o.op = .fieldAddr 40 x 5) (hx : ρ x = .pointer (some ⟨g, 0, none⟩)) : (execOp ρ o).run Tryz.prog w = .ok (.value (.pointer (some ⟨g, 5, none⟩))) w := by
  unfold execOp; rw [h]; simp [go_sem, hx]
theorem run_addB (x y : Operand) (a b : Int) (h : o.op = .binOp .add 3 x y 3) (hx : ρ x = .int .i64 a) (hy : ρ y = .int .i64 b) (hz : -9000000 ≤ a + b ∧ a + b ≤ 9000000) : (execOp ρ o).run Tryz.prog w = .ok (.value (.int .i64 (a + b))) w := by
  have hw : IntKind.i64.wrap (a + b) = a + b := by rw [IntKind.wrap_i64]; omega
  unfold execOp; rw [h]; simp [go_sem, hx, hy]
  first | done | exact hw | (rw [hw]) | omega
theorem run_bJ (x y z : Operand) (a b c : Int) (h : o.op = .build 66 #[(0, x), (1, y), (2, z)]) (hx : ρ x = .int .i64 a) (hy : ρ y = .int .i64 b) (hz : ρ z = .int .i64 c) : (execOp ρ o).run Tryz.prog w = .ok (.value (.agg #[.int .i64 a, .int .i64 b, .int .i64 c])) w := by
  unfold execOp; rw [h]; simp [go_sem, hx, hy, hz]
theorem run_alJ (h : o.op = .alloc 66) : (execOp ρ o).run Tryz.prog w = .ok (.value (.pointer (some ⟨w.heap.size, 0, none⟩))) (w.alloc (.cells #[.int .i64 0, .int .i64 0, .int .i64 0] 66)) := by
  unfold execOp; rw [h]; simp [go_sem]
end
theorem enter_leaseOf (v1 v2 : Value) (w : World) : Sem.run Tryz.prog (callFunc 114 #[v1, v2]) w = .ok (.enter 114 #[v1, v2]) w := by kernel_rfl
theorem one3B (a b c : Int) : ∀ v ∈ [Value.int .i64 a, .int .i64 b, .int .i64 c], v.oneCell' = true := by
  intro v hv
  simp only [List.mem_cons, List.not_mem_nil, or_false] at hv
  rcases hv with rfl | rfl | rfl <;> rfl
theorem DkS.rc {w0 wK : World} {B Qm Qd Qp : Nat} {d : BD} {h : BH} {ts : List TaskD} {pa : Option Addr} {pc : Nat} {now sn : Int} {nb : Nat} {st : HSt} {v : Value} {vs : List Value} {wr : World} (s : DkS w0 wK B Qm Qd Qp d h ts pa pc now sn nb st v vs wr) {br or' q : Nat} (ha : h.ar = some ⟨br, or', none⟩) (hq : q < d.R.length) : wr.cell? ⟨br, or' + q, none⟩ = some (.string (rs d.R q)) := by
  rcases s.H.bo.o2 with ⟨hx, _⟩ | ⟨g', o'', cap', hx, hc⟩
  · rw [ha] at hx; cases hx
  · rw [ha] at hx
    injection hx with e1 e2 e3
    injection e1 with e1
    injection e1 with e4 e5
    subst e4 e5
    rw [hc.holds q (by show q < d.R.length * 1; omega)]
    show (d.R.map Value.string)[q]? = _
    rw [List.getElem?_map, List.getElem?_eq_getElem hq]
    simp [rs, List.getD, hq]
/-- Amid the inputs of an offer: its box Q8. -/
structure OiS (w0 wK : World) (B Qm Qd Qp : Nat) (d : BD) (h : BH) (ts : List TaskD) (pa : Option Addr) (pc : Nat) (now sn : Int) (nb : Nat) (st : HSt) (v : Value) (vs : List Value) (Q8 : Nat) (tw le ti : Int) (ma : Option Addr) (mc : Nat) (ins : List ByteArray) (wr : World) : Prop where
  S : DkS w0 wK B Qm Qd Qp d h ts pa pc now sn nb st v vs wr
  M9 : CF wr Q8 [.int .i64 1, .int .i64 0, .int .i64 tw, .int .i64 0, .int .i64 le, .int .i64 ti, .string ⟨#[]⟩, .slice ma ins.length mc]
  I9 : Own (Q8 + 1) wr 1 (.slice ma ins.length mc) ins.length (ins.map Value.string)
  q9 : Qm ≤ Q8 ∧ Q8 < wr.heap.size
  v1 : ∀ q, v.ownBlock = some q → q < Q8
  v2 : ∀ j, j < st.M.length → ∀ q, (vs.getD j nilV).ownBlock = some q → q < Q8
theorem OiS.below {w0 wK : World} {B Qm Qd Qp : Nat} {d : BD} {h : BH} {ts : List TaskD} {pa : Option Addr} {pc : Nat} {now sn : Int} {nb : Nat} {st : HSt} {v : Value} {vs : List Value} {Q8 : Nat} {tw le ti : Int} {ma : Option Addr} {mc : Nat} {ins : List ByteArray} {wr w' : World} (s : OiS w0 wK B Qm Qd Qp d h ts pa pc now sn nb st v vs Q8 tw le ti ma mc ins wr) (hb : Below wr.heap.size wr w') : OiS w0 wK B Qm Qd Qp d h ts pa pc now sn nb st v vs Q8 tw le ti ma mc ins w' :=
  ⟨s.S.below hb, s.M9.block (hb.block _ s.q9.2), s.I9.below hb (Nat.le_refl _), ⟨s.q9.1, Nat.lt_of_lt_of_le s.q9.2 hb.size⟩, s.v1, s.v2⟩
theorem OiS.app {w0 wK : World} {B Qm Qd Qp : Nat} {d : BD} {h : BH} {ts : List TaskD} {pa : Option Addr} {pc : Nat} {now sn : Int} {nb : Nat} {st : HSt} {v : Value} {vs : List Value} {Q8 : Nat} {tw le ti : Int} {ma a9 : Option Addr} {mc c9 : Nat} {ins : List ByteArray} {wr w9 : World} {x : ByteArray} {ob : Obj} (s : OiS w0 wK B Qm Qd Qp d h ts pa pc now sn nb st v vs Q8 tw le ti ma mc ins wr)
    (ho : Own (Q8 + 1) w9 1 (.slice a9 (ins.length + 1) c9) (ins.length + 1) (ins.map Value.string ++ [.string x])) (hg : (wr.alloc ob).grownBy w9 (Value.slice ma ins.length mc).ownBlock) :
    (DkS w0 wK B Qm Qd Qp d h ts pa pc now sn nb st v vs w9 ∧ CF w9 Q8 [.int .i64 1, .int .i64 0, .int .i64 tw, .int .i64 0, .int .i64 le, .int .i64 ti, .string ⟨#[]⟩, .slice ma ins.length mc]) ∧ OiS w0 wK B Qm Qd Qp d h ts pa pc now sn nb st v vs Q8 tw le ti a9 c9 (ins ++ [x]) (w9.setCell ⟨Q8, 7, none⟩ (.slice a9 (ins.length + 1) c9)) := by
  have hlo := s.I9.row_lo
  have hq := s.q9
  have hsz := s.S.H.sz
  have hbA : Below wr.heap.size wr (wr.alloc ob) := (Below.refl _ _).alloc (Nat.le_refl _) _
  have sA := s.S.below hbA
  have hzA : (wr.alloc ob).heap.size = wr.heap.size + 1 := by simp
  have dv : Dn v.ownBlock (Value.slice ma ins.length mc).ownBlock := Dn.later (m := Q8) s.v1 (fun q e => by have := hlo q e; omega)
  have dvs : ∀ j, j < st.M.length → Dn (vs.getD j nilV).ownBlock (Value.slice ma ins.length mc).ownBlock := fun j hj => Dn.later (m := Q8) (s.v2 j hj) (fun q e => by have := hlo q e; omega)
  have d8 : Dn v.ownBlock (some Q8) := Dn.later (m := Q8) s.v1 (fun q e => by injection e with e; omega)
  have d8s : ∀ j, j < st.M.length → Dn (vs.getD j nilV).ownBlock (some Q8) := fun j hj => Dn.later (m := Q8) (s.v2 j hj) (fun q e => by injection e with e; omega)
  have hne : some Q8 ≠ (Value.slice ma ins.length mc).ownBlock := fun e => by have := hlo Q8 e.symm; omega
  have hH := sA.far hg (fun q e => by have := hlo q e; omega) dv dvs
  have gs := gset (World.grownBy.refl w9 (some Q8)) 7 (.slice a9 (ins.length + 1) c9)
  have hH2 := hH.far gs (fun q e => by injection e with e; omega) d8 d8s
  have hM9 := (s.M9.block (hbA.block Q8 hq.2)).block (hg.block Q8 (by omega) hne)
  refine ⟨⟨hH, hM9⟩, hH2, ?_, ?_, ⟨hq.1, ?_⟩, s.v1, s.v2⟩
  · have := hM9.set (j := 7) (by simp) (.slice a9 (ins.length + 1) c9)
    rw [List.length_append, List.length_singleton]
    exact this
  · rw [List.length_append, List.length_singleton, List.map_append]
    exact ho.grown gs (.inr (fun e => by have := ho.row_lo Q8 e; omega))
  · have h1 := hg.size
    have h2 := gs.size
    omega
set_option maxHeartbeats 8000000 in
set_option maxRecDepth 100000 in
theorem offer_any (w0 wK : World) (B Qm Qd Qp : Nat) (d : BD) (h : BH) (ts : List TaskD) (pa : Option Addr) (pb po pc : Nat) (now sn : Int) (nb : Nat) (st : HSt) (v : Value) (vs : List Value) (i k : Nat) (w : World) (s : DkS w0 wK B Qm Qd Qp d h ts pa pc now sn nb st v vs w) (hi : i < ts.length) (hk : k < d.S.length) (hf : d.fits) (hRl : d.R.length = ts.length) (hJd : d.J.length = ts.length) (hT : TasksAt w0 pa pb po ts.length ts) (hB : B = w0.heap.size) (hAD : allDeps ts ts.length) (h40 : ts.length ≤ 40) (hep : 1 ≤ d.ep ∧ d.ep ≤ 300) (hgv : 0 ≤ st.gv ∧ st.gv < 1000000) (hnow : 0 ≤ now ∧ now ≤ 1000000) (hS8 : d.S.length ≤ 8) (hml : st.M.length ≤ 40) (hnb : nb < maxLen) :
    Calls Tryz.prog 105 #[.pointer (some ⟨Qd, 0, none⟩), .int .i64 (i : Nat), .int .i64 (k : Nat)] w fun e w' => e = .returned (.tuple #[]) ∧ ∃ v' vs', DkS w0 wK B Qm Qd Qp d h ts pa pc now sn (nb + 1) ⟨st.gv + 1, st.J.set i ((((d.ep - 1) * 1000000 + (st.gv + 1)), (k : Int) + 1, now + 12) : Tr), st.S.set k (false, (t2 st.S k).2), st.M ++ [⟨1, 0, (k : Int) + 1, d.ep, ((d.ep - 1) * 1000000 + (st.gv + 1)), i, ⟨#[]⟩, insOf d.R (ts.getD i dT).deps⟩]⟩ v' vs' w' := by
  obtain ⟨i0, hi0, hz00, hz01, hz02⟩ := info_parts Tryz.info9
  have HB := hid hB
  have HRL := hid hRl
  have HJD := hid hJd
  have HTT := hid hT
  have HAD := hid hAD
  have HFF := hid hf
  clear hB hRl hJd hT hAD hf
  obtain ⟨va, vc, rfl⟩ := s.vm
  have hkl : k < st.S.length := by have := s.H.lj.2; omega
  have hk' : (k : Int) < (d.S.length : Int) := by omega
  have hq := s.q
  have y5 : w.cell? ⟨Qd, 5, none⟩ = some (.int .i64 st.gv) := (s.D 5 (by simp)).1
  have f5 : w.frozen? ⟨Qd, 5, none⟩ = false := (s.D 5 (by simp)).2
  go_enter Tryz.func105, Tryz.ntmps105
  go_upto_region 2 with fail
  have s1 := s.setGv (st.gv + 1)
  obtain ⟨W1, hW1⟩ : ∃ V, V = w.setCell ⟨Qd, 5, none⟩ (.int .i64 (st.gv + 1)) := ⟨_, rfl⟩
  rw [← hW1] at s1
  rw [← hW1]
  clear hW1 y5 f5 s
  obtain ⟨bz, oz, cz, hze, hzc, hzf, hzset⟩ := s1.H.bo.o4.set2 (k := k) hkl
  obtain ⟨hze1, hze2⟩ : h.az = some ⟨bz, oz, none⟩ ∧ h.cs = cz := by injection hze with e1 e2 e3; exact ⟨e1, e3⟩
  have hrz : rowS d h = some bz := by unfold rowS; rw [hze1]; rfl
  have y10 : W1.cell? ⟨Qd, 10, none⟩ = some (.slice (some ⟨bz, oz, none⟩) d.S.length h.cs) := by rw [← hze1]; exact (s1.D 10 (by simp)).1
  clear hze hze1 hze2
  go_upto_region 3 with fail
  obtain ⟨W2, hW2⟩ : ∃ V, V = W1.setCell ⟨bz, oz + k * 2, none⟩ (.bool false) := ⟨_, rfl⟩
  have g2 : W1.grownBy W2 (some bz) := by rw [hW2]; exact gset (World.grownBy.refl W1 _) _ _
  have s2 : DkS w0 wK B Qm Qd Qp d h ts pa pc now sn nb ⟨st.gv + 1, st.J, st.S.set k (false, (t2 st.S k).2), st.M⟩ (.slice va st.M.length vc) vs W2 := by
    refine s1.setS (by rw [List.length_set]; exact s1.H.lj.2) hrz g2 ?_
    have := hzset false
    rw [hW2]
    have e : (d.at ⟨st.gv + 1, st.J, st.S, st.M⟩).S.length = d.S.length := s1.H.lj.2
    rw [e] at this
    exact this
  rw [← hW2]
  clear hW2 g2 hzset hzc hzf y10 s1 hrz
  go_cut [7] (fun qv wx => ∃ Q7 : Nat, qv = .pointer (some ⟨Q7, 0, none⟩) ∧ Qm ≤ Q7 ∧ Q7 < wx.heap.size ∧ CF wx Q7 [.int .i64 ((d.ep - 1) * 1000000 + (st.gv + 1)), .int .i64 ((k : Int) + 1), .int .i64 (now + 12)] ∧ DkS w0 wK B Qm Qd Qp d h ts pa pc now sn nb ⟨st.gv + 1, st.J, st.S.set k (false, (t2 st.S k).2), st.M⟩ (.slice va st.M.length vc) vs wx)
  case first =>
    refine wp_region_held (S := fun w' => w'.cell? ⟨Qd, 4, none⟩ = some (.int .i64 d.ep) ∧ w'.cell? ⟨Qd, 5, none⟩ = some (.int .i64 (st.gv + 1)) ∧ w'.cell? ⟨Qd, 2, none⟩ = some (.int .i64 now)) (by kernel_rfl) ?_
    change wpAnyH _ _ _ _ _ _ _ _ (World.drew _)
    have s0 := s2.below (Below.refl W2.heap.size W2).drew
    obtain ⟨x0, hx0⟩ : ∃ U, U = W2.drew := ⟨_, rfl⟩
    rw [← hx0] at s0
    rw [← hx0]
    clear hx0 s2
    have hS0 : x0.cell? ⟨Qd, 4, none⟩ = some (.int .i64 d.ep) ∧ x0.cell? ⟨Qd, 5, none⟩ = some (.int .i64 (st.gv + 1)) ∧ x0.cell? ⟨Qd, 2, none⟩ = some (.int .i64 now) := ⟨(s0.D 4 (by simp)).1, (s0.D 5 (by simp)).1, (s0.D 2 (by simp)).1⟩
    have hz0 := s0.H.sz
    have hbA : Below x0.heap.size x0 (x0.alloc (.cells #[.int .i64 0, .int .i64 0, .int .i64 0] 66)) := (Below.refl _ _).alloc (Nat.le_refl _) _
    have cA := CF.made x0 #[.int .i64 0, .int .i64 0, .int .i64 0] 66
    have sA := s0.below hbA
    obtain ⟨xA, hxA⟩ : ∃ V, V = x0.alloc (.cells #[.int .i64 0, .int .i64 0, .int .i64 0] 66) := ⟨_, rfl⟩
    have zA : xA.heap.size = x0.heap.size + 1 := by rw [hxA]; simp
    rw [← hxA] at hbA cA sA
    have hSA : xA.cell? ⟨Qd, 4, none⟩ = some (.int .i64 d.ep) ∧ xA.cell? ⟨Qd, 5, none⟩ = some (.int .i64 (st.gv + 1)) ∧ xA.cell? ⟨Qd, 2, none⟩ = some (.int .i64 now) := ⟨(sA.D 4 (by simp)).1, (sA.D 5 (by simp)).1, (sA.D 2 (by simp)).1⟩
    obtain ⟨xF, hxF⟩ : ∃ V, V = xA.setCells x0.heap.size 0 [.int .i64 ((d.ep - 1) * 1000000 + (st.gv + 1)), .int .i64 ((k : Int) + 1), .int .i64 (now + 12)] := ⟨_, rfl⟩
    have gF : xA.grownBy xF (some x0.heap.size) := by rw [hxF]; exact grown_setCells _ _ _ _ _ (World.grownBy.refl _ _)
    have cF : CF xF x0.heap.size [.int .i64 ((d.ep - 1) * 1000000 + (st.gv + 1)), .int .i64 ((k : Int) + 1), .int .i64 (now + 12)] := by rw [hxF]; exact CF.stored cA rfl
    have sF := sA.far gF (fun q e => by injection e with e; omega) (Dn.later (m := x0.heap.size) s0.H.ms.row.row_hi (fun q e => by injection e with e; omega)) (fun j hj => Dn.later (m := x0.heap.size) (s0.H.ms.dep j hj).row_hi (fun q e => by injection e with e; omega))
    have hSF : xF.cell? ⟨Qd, 4, none⟩ = some (.int .i64 d.ep) ∧ xF.cell? ⟨Qd, 5, none⟩ = some (.int .i64 (st.gv + 1)) ∧ xF.cell? ⟨Qd, 2, none⟩ = some (.int .i64 now) := ⟨(sF.D 4 (by simp)).1, (sF.D 5 (by simp)).1, (sF.D 2 (by simp)).1⟩
    have HREL := hid (show ∃ Q7 : Nat, (.pointer (some ⟨x0.heap.size, 0, none⟩) : Value) = .pointer (some ⟨Q7, 0, none⟩) ∧ Qm ≤ Q7 ∧ Q7 < xF.heap.size ∧ CF xF Q7 [.int .i64 ((d.ep - 1) * 1000000 + (st.gv + 1)), .int .i64 ((k : Int) + 1), .int .i64 (now + 12)] ∧ DkS w0 wK B Qm Qd Qp d h ts pa pc now sn nb ⟨st.gv + 1, st.J, st.S.set k (false, (t2 st.S k).2), st.M⟩ (.slice va st.M.length vc) vs xF from ⟨_, rfl, hz0, by have := gF.size; omega, cF, sF⟩)
    have HXA := hid hxA
    have HXF := hid hxF
    clear hxA hxF gF cF sF sA hbA s0
    refine hTk (i := 0) (d := some 28) (v := .pointer (some ⟨Qd, 0, none⟩)) (l' := (bt 19 1)) rfl (fun _ hc => run_mvF (.tmp 6) (by kernel_rfl) (by kernel_rfl)) hS0 ?_
    refine hTk (i := 1) (d := some 29) (v := .pointer (some ⟨Qd, 0, none⟩)) (l' := (bt 19 3)) rfl (fun _ hc => run_nc (.tmp 28) (by kernel_rfl) (by kernel_rfl)) hS0 ?_
    refine hTk (i := 2) (d := some 30) (v := .pointer (some ⟨Qd, 4, none⟩)) (l' := (bt 19 7)) rfl (fun _ hc => run_faB4 (.tmp 29) (by kernel_rfl) (by kernel_rfl)) hS0 ?_
    refine hTk (i := 3) (d := some 31) (v := .int .i64 d.ep) (l' := (bt 19 15)) rfl (fun _ hc => run_ldInB (.tmp 30) (by kernel_rfl) (by kernel_rfl) hc.1) hS0 ?_
    refine hTk (i := 4) (d := some 32) (v := .pointer (some ⟨Qd, 0, none⟩)) (l' := (bt 19 31)) rfl (fun _ hc => run_mvF (.tmp 6) (by kernel_rfl) (by kernel_rfl)) hS0 ?_
    refine hTk (i := 5) (d := some 33) (v := .pointer (some ⟨Qd, 0, none⟩)) (l' := (bt 19 63)) rfl (fun _ hc => run_nc (.tmp 32) (by kernel_rfl) (by kernel_rfl)) hS0 ?_
    refine hTk (i := 6) (d := some 34) (v := .pointer (some ⟨Qd, 5, none⟩)) (l' := (bt 19 127)) rfl (fun _ hc => run_faB5 (.tmp 33) (by kernel_rfl) (by kernel_rfl)) hS0 ?_
    refine hTk (i := 7) (d := some 35) (v := .int .i64 (st.gv + 1)) (l' := (bt 19 255)) rfl (fun _ hc => run_ldInB (.tmp 34) (by kernel_rfl) (by kernel_rfl) hc.2.1) hS0 ?_
    refine hTk (i := 9) (d := some 37) (v := .int .i64 (k : Nat)) (l' := (bt 19 767)) rfl (fun _ hc => run_mvF (.tmp 2) (by kernel_rfl) (by kernel_rfl)) hS0 ?_
    refine hTk (i := 10) (d := some 38) (v := .int .i64 ((k : Int) + 1)) (l' := (bt 19 1791)) rfl (fun _ hc => run_addB (.tmp 37) (.const (.int .i64 1)) (k : Nat) 1 (by kernel_rfl) (by kernel_rfl) (by kernel_rfl) (by omega)) hS0 ?_
    refine hTk (i := 11) (d := some 39) (v := .pointer (some ⟨Qd, 0, none⟩)) (l' := (bt 19 3839)) rfl (fun _ hc => run_mvF (.tmp 6) (by kernel_rfl) (by kernel_rfl)) hS0 ?_
    refine hTk (i := 12) (d := some 40) (v := .pointer (some ⟨Qd, 0, none⟩)) (l' := (bt 19 7935)) rfl (fun _ hc => run_nc (.tmp 39) (by kernel_rfl) (by kernel_rfl)) hS0 ?_
    refine hTk (i := 13) (d := some 41) (v := .pointer (some ⟨Qd, 2, none⟩)) (l' := (bt 19 16127)) rfl (fun _ hc => run_faB2 (.tmp 40) (by kernel_rfl) (by kernel_rfl)) hS0 ?_
    refine hTk (i := 14) (d := some 42) (v := .int .i64 now) (l' := (bt 19 32511)) rfl (fun _ hc => run_ldInB (.tmp 41) (by kernel_rfl) (by kernel_rfl) hc.2.2) hS0 ?_
    refine hTk (i := 15) (d := some 43) (v := .int .i64 (now + 12)) (l' := (bt 19 65279)) rfl (fun _ hc => run_addB (.tmp 42) (.const (.int .i64 12)) now 12 (by kernel_rfl) (by kernel_rfl) (by kernel_rfl) (by omega)) hS0 ?_
    refine hTwo (i := 8) (j := 17) (by kernel_rfl) (hCall (i := 8) (d := some 36) (f := 114) (args := #[.int .i64 d.ep, .int .i64 (st.gv + 1)]) (l' := (bt 19 65535)) (R := fun v u => v = .int .i64 ((d.ep - 1) * 1000000 + (st.gv + 1)) ∧ u = x0) rfl (by kernel_rfl) (by kernel_rfl) (by kernel_rfl) (run_cl2 _ _ _ rfl (by kernel_rfl) (by kernel_rfl) rfl enter_leaseOf) ((leaseOf_any d.ep (st.gv + 1) x0 (by omega) (by omega) (by omega) (by omega)).mono fun _ _ ⟨he, hb⟩ => ⟨_, he, rfl, hb⟩) ?_) (hVal (i := 17) (d := some 7) (v := .pointer (some ⟨x0.heap.size, 0, none⟩)) (w' := xA) (l' := (bt 19 196351)) rfl (by kernel_rfl) (by kernel_rfl) (by kernel_rfl) (by rw [HXA.out]; exact run_alJ (by kernel_rfl)) hSA ?_)
    · rintro _ _ ⟨rfl, hu⟩
      rw [hu]
      clear hu
      refine ⟨hS0, ?_⟩
      refine hTk (i := 16) (d := some 44) (v := .agg #[.int .i64 ((d.ep - 1) * 1000000 + (st.gv + 1)), .int .i64 ((k : Int) + 1), .int .i64 (now + 12)]) (l' := (bt 19 131071)) rfl (fun _ hc => run_bJ (.tmp 36) (.tmp 38) (.tmp 43) ((d.ep - 1) * 1000000 + (st.gv + 1)) ((k : Int) + 1) (now + 12) (by kernel_rfl) (by kernel_rfl) (by kernel_rfl) (by kernel_rfl)) hS0 ?_
      refine hOne (i := 17) (by kernel_rfl) (hVal (i := 17) (d := some 7) (v := .pointer (some ⟨x0.heap.size, 0, none⟩)) (w' := xA) (l' := (bt 19 262143)) rfl (by kernel_rfl) (by kernel_rfl) (by kernel_rfl) (by rw [HXA.out]; exact run_alJ (by kernel_rfl)) hSA ?_)
      refine hOne (i := 18) (by kernel_rfl) (hSkip (i := 18) (w' := xF) (l' := (bt 19 524287)) rfl (by kernel_rfl) (by kernel_rfl) (by kernel_rfl) (by rw [HXF.out]; exact run_stT 66 [.int .i64 0, .int .i64 0, .int .i64 0] [.int .i64 ((d.ep - 1) * 1000000 + (st.gv + 1)), .int .i64 ((k : Int) + 1), .int .i64 (now + 12)] (.tmp 7) (.tmp 44) (by kernel_rfl) (by kernel_rfl) (by kernel_rfl) cA rfl Tryz.sizeJbB (one3B _ _ _)) hSF ?_)
      refine wpAnyH_done (by kernel_rfl) ?_ _
      clear hS0 hSA hSF cA zA hz0
      go_simp
      go_wp2_with fail
      go_meet
      case rel => exact HREL.out
    · refine hOne (i := 8) (by kernel_rfl) (hCall (i := 8) (d := some 36) (f := 114) (args := #[.int .i64 d.ep, .int .i64 (st.gv + 1)]) (l' := (bt 19 196607)) (R := fun v u => v = .int .i64 ((d.ep - 1) * 1000000 + (st.gv + 1)) ∧ u = xA) rfl (by kernel_rfl) (by kernel_rfl) (by kernel_rfl) (run_cl2 _ _ _ rfl (by kernel_rfl) (by kernel_rfl) rfl enter_leaseOf) ((leaseOf_any d.ep (st.gv + 1) xA (by omega) (by omega) (by omega) (by omega)).mono fun _ _ ⟨he, hb⟩ => ⟨_, he, rfl, hb⟩) ?_)
      rintro _ _ ⟨rfl, hu⟩
      rw [hu]
      clear hu
      refine ⟨hSA, ?_⟩
      refine hTk (i := 16) (d := some 44) (v := .agg #[.int .i64 ((d.ep - 1) * 1000000 + (st.gv + 1)), .int .i64 ((k : Int) + 1), .int .i64 (now + 12)]) (l' := (bt 19 262143)) rfl (fun _ hc => run_bJ (.tmp 36) (.tmp 38) (.tmp 43) ((d.ep - 1) * 1000000 + (st.gv + 1)) ((k : Int) + 1) (now + 12) (by kernel_rfl) (by kernel_rfl) (by kernel_rfl) (by kernel_rfl)) hSA ?_
      refine hOne (i := 18) (by kernel_rfl) (hSkip (i := 18) (w' := xF) (l' := (bt 19 524287)) rfl (by kernel_rfl) (by kernel_rfl) (by kernel_rfl) (by rw [HXF.out]; exact run_stT 66 [.int .i64 0, .int .i64 0, .int .i64 0] [.int .i64 ((d.ep - 1) * 1000000 + (st.gv + 1)), .int .i64 ((k : Int) + 1), .int .i64 (now + 12)] (.tmp 7) (.tmp 44) (by kernel_rfl) (by kernel_rfl) (by kernel_rfl) cA rfl Tryz.sizeJbB (one3B _ _ _)) hSF ?_)
      refine wpAnyH_done (by kernel_rfl) ?_ _
      clear hS0 hSA hSF cA zA hz0
      go_simp
      go_wp2_with fail
      go_meet
      case rel => exact HREL.out
  case rest =>
    obtain ⟨Q7, rfl, hQ7, hl7, c7, s3⟩ := hcut
    have j0 : wc.cell? ⟨Q7, 0, none⟩ = some (.int .i64 ((d.ep - 1) * 1000000 + (st.gv + 1))) := (c7 0 (by simp)).1
    have j1 : wc.cell? ⟨Q7, 1, none⟩ = some (.int .i64 ((k : Int) + 1)) := (c7 1 (by simp)).1
    have j2 : wc.cell? ⟨Q7, 2, none⟩ = some (.int .i64 (now + 12)) := (c7 2 (by simp)).1
    go_wp2_with fail
    refine (startJob_any w0 wK B Qm Qd Qp d h ts pa pc now sn nb ⟨st.gv + 1, st.J, st.S.set k (false, (t2 st.S k).2), st.M⟩ (.slice va st.M.length vc) vs i ((d.ep - 1) * 1000000 + (st.gv + 1)) ((k : Int) + 1) (now + 12) wc s3 (by rw [HJD.out]; exact hi) (by rw [HJD.out]; omega) ⟨by omega, by omega⟩ hnb).mono ?_
    rintro e w4 ⟨rfl, s4, g4⟩
    have hlo7 := s3.H.lo
    have c7' := c7.block (g4.block Q7 hl7 (fun r hr e => by
      simp only [List.mem_cons, List.not_mem_nil, or_false] at hr
      rcases hr with rfl | rfl
      · have := hlo7 _ (rowJ_mem d h) Q7 e; omega
      · injection e with e; omega))
    have z4 := g4.size
    clear j0 j1 j2 s3 c7 g4 hlo7
    have j0 : w4.cell? ⟨Q7, 0, none⟩ = some (.int .i64 ((d.ep - 1) * 1000000 + (st.gv + 1))) := (c7' 0 (by simp)).1
    have j1 : w4.cell? ⟨Q7, 1, none⟩ = some (.int .i64 ((k : Int) + 1)) := (c7' 1 (by simp)).1
    go_upto_region 6 with fail
    obtain ⟨wD, hwD⟩ : ∃ V, V = w4.alloc (.cells #[.int .i64 1, .int .i64 0, .int .i64 ((k : Int) + 1), .int .i64 0, .int .i64 ((d.ep - 1) * 1000000 + (st.gv + 1)), .int .i64 i, .string ⟨#[]⟩, .slice none 0 0] 71) := ⟨_, rfl⟩
    obtain ⟨Q8, hQ8⟩ : ∃ q, q = w4.heap.size := ⟨_, rfl⟩
    have hbD : Below w4.heap.size w4 wD := by rw [hwD]; exact (Below.refl _ _).alloc (Nat.le_refl _) _
    have hpa := HTT.out.ad (by omega)
    subst hpa
    have sD : OiS w0 wK B Qm Qd Qp d h ts (some ⟨pb, po, none⟩) pc now sn (nb + 1) ⟨st.gv + 1, st.J.set i ((((d.ep - 1) * 1000000 + (st.gv + 1)), (k : Int) + 1, now + 12) : Tr), st.S.set k (false, (t2 st.S k).2), st.M⟩ (.slice va st.M.length vc) vs Q8 ((k : Int) + 1) ((d.ep - 1) * 1000000 + (st.gv + 1)) i none 0 [] wD := by
      have hsm := s4.H.ms.row.row_hi
      have hsv := fun j hj => (s4.H.ms.dep j hj).row_hi
      have hz4 := s4.H.sz
      refine ⟨s4.below hbD, ?_, Own.nil _ _ _, ⟨by omega, by rw [hwD, hQ8]; simp⟩, fun q hq => by rw [hQ8]; exact hsm q hq, fun j hj q hq => by rw [hQ8]; exact hsv j hj q hq⟩
      rw [hwD, hQ8]
      exact CF.made w4 #[.int .i64 1, .int .i64 0, .int .i64 ((k : Int) + 1), .int .i64 0, .int .i64 ((d.ep - 1) * 1000000 + (st.gv + 1)), .int .i64 i, .string ⟨#[]⟩, .slice none 0 0] 71
    rw [← hwD, ← hQ8]
    clear hwD hQ8 hbD s4 c7' j0 j1
    obtain ⟨t, ta', tb', to', n', tc', ht, hx0, hx1, hx2, hti, htn, htc⟩ := HTT.out.get hi
    have HT := hid ht
    clear ht hx0 hx1
    have hdl : t.deps.length = n' := hti.len
    have hn8 : n' ≤ 8 := by have := (HAD.out i hi).1; rw [← HT.out] at this; omega
    have HDL := hid hdl
    clear hdl
    have hi' : (i : Int) < (ts.length : Int) := by omega
    have x2 : wD.cell? ⟨pb, po + i * 3 + 2, none⟩ = some (.slice ta' n' tc') := keepB (HB.out ▸ sD.S.H.hb) hx2
    have y12 : wD.cell? ⟨Qd, 12, none⟩ = some (.slice (some ⟨pb, po, none⟩) ts.length pc) := (sD.S.D 12 (by simp)).1
    obtain ⟨HTA⟩ : Nonempty (Hid (0 < n' → ta' = some ⟨tb', to', none⟩)) := ⟨hid hti.ad⟩
    go_wp2_with fail
    clear x2 y12
    go_loopw [65] (fun x wq => ∃ (j : Nat) (ma : Option Addr) (mc : Nat) (ins : List ByteArray), j ≤ n' ∧ x = .int .i64 j ∧ ins = (insOf d.R t.deps).take j ∧ OiS w0 wK B Qm Qd Qp d h ts (some ⟨pb, po, none⟩) pc now sn (nb + 1) ⟨st.gv + 1, st.J.set i ((((d.ep - 1) * 1000000 + (st.gv + 1)), (k : Int) + 1, now + 12) : Tr), st.S.set k (false, (t2 st.S k).2), st.M⟩ (.slice va st.M.length vc) vs Q8 ((k : Int) + 1) ((d.ep - 1) * 1000000 + (st.gv + 1)) i ma mc ins wq) (fun x _ => n' - (intOf x).toNat)
    case atStart => exact ⟨0, none, 0, [], Nat.zero_le _, rfl, rfl, sD⟩
    case round =>
      clear sD
      obtain ⟨j, ma, mc, ins, hj, rfl, hin, hI⟩ := hrel
      have hil : ins.length = j := by rw [hin, List.length_take]; unfold insOf; rw [List.length_map, HDL.out]; omega
      have HIN := hid hin
      have HIL := hid hil
      clear hin hil
      by_cases hjn : j < n'
      case pos =>
        have hjn' : (j : Int) < (n' : Int) := by omega
        have hta := HTA.out (by omega)
        subst hta
        obtain ⟨q, hq, hqn⟩ := dep_rng HAD.out hi (j := j) (by rw [← HT.out, HDL.out]; exact hjn)
        rw [← HT.out] at hq
        have hck : wr.cell? ⟨tb', to' + j, none⟩ = some (.int .i64 (q : Int)) := keepB (HB.out ▸ hI.S.H.hb) (by rw [← hq]; exact hti.cell j hjn)
        go_upto_region 9 with fail
        have hqR : q < d.R.length := by rw [HRL.out]; exact hqn
        obtain ⟨br, or', hR1, _⟩ := hI.S.H.bo.o2.statB HFF.out.s3
        have hRa : h.ar = some ⟨br, or', none⟩ := hR1.ad (by show 0 < d.R.length; omega)
        obtain ⟨s5, hs5⟩ : ∃ s, s = rs d.R q := ⟨_, rfl⟩
        have HNEW := hid (show ins ++ [s5] = (insOf d.R t.deps).take (j + 1) by rw [insOf_take (by rw [HDL.out]; exact hjn) hq, ← HIN.out, hs5])
        have HS5 := hid hs5
        have HRA := hid hRa
        clear hs5 hRa hR1 hq hck
        refine wp_region_held (S := fun w' => DkS w0 wK B Qm Qd Qp d h ts (some ⟨pb, po, none⟩) pc now sn (nb + 1) ⟨st.gv + 1, st.J.set i ((((d.ep - 1) * 1000000 + (st.gv + 1)), (k : Int) + 1, now + 12) : Tr), st.S.set k (false, (t2 st.S k).2), st.M⟩ (.slice va st.M.length vc) vs w') (by kernel_rfl) ?_
        change wpAnyH _ _ _ _ _ _ _ _ (World.drew _)
        have hI0 := hI.below (Below.refl wr.heap.size wr).drew
        obtain ⟨x0, hx0⟩ : ∃ U, U = wr.drew := ⟨_, rfl⟩
        rw [← hx0] at hI0
        rw [← hx0]
        clear hx0 hI
        have hS0 := hI0.S
        refine hTk (i := 0) (d := some 69) (v := .pointer (some ⟨Q8, 7, none⟩)) (l' := (bt 13 1)) rfl (fun _ hc => run_faM7 (.tmp 8) (by kernel_rfl) (by kernel_rfl)) hS0 ?_
        refine hTk (i := 2) (d := some 71) (v := .pointer (some ⟨Qd, 0, none⟩)) (l' := (bt 13 5)) rfl (fun _ hc => run_mvF (.tmp 6) (by kernel_rfl) (by kernel_rfl)) hS0 ?_
        refine hTk (i := 3) (d := some 72) (v := .pointer (some ⟨Qd, 0, none⟩)) (l' := (bt 13 13)) rfl (fun _ hc => run_nc (.tmp 71) (by kernel_rfl) (by kernel_rfl)) hS0 ?_
        refine hTk (i := 4) (d := some 73) (v := .pointer (some ⟨Qd, 8, none⟩)) (l' := (bt 13 29)) rfl (fun _ hc => run_faB7 (.tmp 72) (by kernel_rfl) (by kernel_rfl)) hS0 ?_
        refine hTk (i := 5) (d := some 74) (v := (.slice (some ⟨br, or', none⟩) d.R.length h.cr)) (l' := (bt 13 61)) rfl (fun _ hc => run_ldLsB (.tmp 73) (by kernel_rfl) (by kernel_rfl) (by rw [← HRA.out]; exact (hc.D 8 (by simp)).1)) hS0 ?_
        refine hTk (i := 6) (d := some 75) (v := .int .i64 (q : Nat)) (l' := (bt 13 125)) rfl (fun _ hc => run_mvF (.tmp 10) (by kernel_rfl) (by kernel_rfl)) hS0 ?_
        refine hTk (i := 7) (d := some 76) (v := .pointer (some ⟨br, or' + q, none⟩)) (l' := (bt 13 253)) rfl (fun _ hc => run_ixSo (.tmp 74) (.tmp 75) br or' d.R.length h.cr q (by kernel_rfl) (by kernel_rfl) (by kernel_rfl) hqR) hS0 ?_
        refine hTk (i := 8) (d := some 77) (v := .string s5) (l' := (bt 13 509)) rfl (fun _ hc => run_ldStB (.tmp 76) (by kernel_rfl) (by kernel_rfl) (by rw [HS5.out]; exact hc.rc HRA.out hqR)) hS0 ?_
        have hq9 := hI0.q9
        have hown1 : Own (Q8 + 1) (x0.alloc (.cells #[.string s5] 9)) 1 (.slice (some ⟨x0.heap.size, 0, none⟩) 1 1) 1 [.string s5] :=
          .inr ⟨_, 0, 1, rfl, OwnC.made x0 (Q8 + 1) 9 1 1 1 _ 1 (by omega) (Nat.le_refl _) (by unfold maxLen; omega) rfl (Nat.le_refl _) _ rfl _ (.inl rfl)⟩
        have hsrc : Src Tryz.prog 1 22 _ 1 _ (x0.alloc (.cells #[.string s5] 9)) := hown1.src Tryz.underlying22 (by simp; rfl)
        have hbA : Below x0.heap.size x0 (x0.alloc (.cells #[.string s5] 9)) := (Below.refl _ _).alloc (Nat.le_refl _) _
        have hSA := hS0.below hbA
        obtain ⟨v9, w9, hrun, ho9, hg9, _⟩ := run_append_c (P := Tryz.prog) (x0.alloc (.cells #[.string s5] 9)) (Q8 + 1) 22 22 22 9 i0 (.string ⟨#[]⟩) 1 16 Tryz.underlying22 hi0 hz00 hz01 hz02 rfl _ ins.length _ (hI0.I9.below hbA (Nat.le_refl _)) _ 1 _ hsrc (by have := HIL.out; unfold maxLen; omega) (by have := HIL.out; omega) (by simp; omega)
        obtain ⟨a9, c9, rfl⟩ := ho9.slc
        have hIF := (hI0.app ho9 hg9).2
        have hS9 := (hI0.app ho9 hg9).1
        have m7 : x0.cell? ⟨Q8, 7, none⟩ = some (.slice ma ins.length mc) := (hI0.M9 7 (by simp)).1
        refine hTwo (i := 1) (j := 9) (by kernel_rfl) (hVal (i := 1) (d := some 70) (v := .slice ma ins.length mc) (w' := x0) (l' := (bt 13 511)) rfl (by kernel_rfl) (by kernel_rfl) (by kernel_rfl) (run_ldLsB (.tmp 69) (by kernel_rfl) (by kernel_rfl) m7) hS0 ?_) (hVal (i := 9) (d := some 78) (v := .slice (some ⟨x0.heap.size, 0, none⟩) 1 1) (w' := x0.alloc (.cells #[.string s5] 9)) (l' := (bt 13 1021)) rfl (by kernel_rfl) (by kernel_rfl) (by kernel_rfl) (run_bsLB (.tmp 77) s5 (by kernel_rfl) (by kernel_rfl)) hSA ?_)
        · refine hOne (i := 9) (by kernel_rfl) (hVal (i := 9) (d := some 78) (v := .slice (some ⟨x0.heap.size, 0, none⟩) 1 1) (w' := x0.alloc (.cells #[.string s5] 9)) (l' := (bt 13 1023)) rfl (by kernel_rfl) (by kernel_rfl) (by kernel_rfl) (run_bsLB (.tmp 77) s5 (by kernel_rfl) (by kernel_rfl)) hSA ?_)
          refine hOne (i := 10) (by kernel_rfl) (hVal (i := 10) (d := some 79) (v := .slice a9 (ins.length + 1) c9) (w' := w9) (l' := (bt 13 2047)) rfl (by kernel_rfl) (by kernel_rfl) (by kernel_rfl) (run_appB (.tmp 70) (.tmp 78) 22 22 22 (by kernel_rfl) (by kernel_rfl) (by kernel_rfl) (by kernel_rfl) hrun) hS9.1 ?_)
          refine hTk (i := 11) (d := some 80) (v := .pointer (some ⟨Q8, 7, none⟩)) (l' := (bt 13 4095)) rfl (fun _ hc => run_faM7 (.tmp 8) (by kernel_rfl) (by kernel_rfl)) hS9.1 ?_
          refine hOne (i := 12) (by kernel_rfl) (hSkip (i := 12) (w' := w9.setCell ⟨Q8, 7, none⟩ (.slice a9 (ins.length + 1) c9)) (l' := (bt 13 8191)) rfl (by kernel_rfl) (by kernel_rfl) (by kernel_rfl) (run_stLsB (.tmp 80) (.tmp 79) a9 (ins.length + 1) c9 (by kernel_rfl) (by kernel_rfl) (by kernel_rfl) (hS9.2 7 (by simp)).1 (hS9.2 7 (by simp)).2) hIF.S ?_)
          refine wpAnyH_done (by kernel_rfl) ?_ _
          obtain ⟨wF, hwF⟩ : ∃ V, V = w9.setCell ⟨Q8, 7, none⟩ (.slice a9 (ins.length + 1) c9) := ⟨_, rfl⟩
          rw [← hwF] at hIF
          rw [← hwF]
          have HIF := hid hIF
          clear hwF hIF hS9 hSA hS0 hI0 ho9 hg9 hrun hsrc hown1 hbA
          go_simp
          go_wp2_with fail
          go_roundw
          case rel => exact ⟨j + 1, a9, c9, ins ++ [s5], by omega, by go_num, HNEW.out, HIF.out⟩
          case measure => simp [intOf]; omega
        · refine hOne (i := 1) (by kernel_rfl) (hVal (i := 1) (d := some 70) (v := .slice ma ins.length mc) (w' := (x0.alloc (.cells #[.string s5] 9))) (l' := (bt 13 1023)) rfl (by kernel_rfl) (by kernel_rfl) (by kernel_rfl) (run_ldLsB (.tmp 69) (by kernel_rfl) (by kernel_rfl) (keepB hbA m7)) hSA ?_)
          refine hOne (i := 10) (by kernel_rfl) (hVal (i := 10) (d := some 79) (v := .slice a9 (ins.length + 1) c9) (w' := w9) (l' := (bt 13 2047)) rfl (by kernel_rfl) (by kernel_rfl) (by kernel_rfl) (run_appB (.tmp 70) (.tmp 78) 22 22 22 (by kernel_rfl) (by kernel_rfl) (by kernel_rfl) (by kernel_rfl) hrun) hS9.1 ?_)
          refine hTk (i := 11) (d := some 80) (v := .pointer (some ⟨Q8, 7, none⟩)) (l' := (bt 13 4095)) rfl (fun _ hc => run_faM7 (.tmp 8) (by kernel_rfl) (by kernel_rfl)) hS9.1 ?_
          refine hOne (i := 12) (by kernel_rfl) (hSkip (i := 12) (w' := w9.setCell ⟨Q8, 7, none⟩ (.slice a9 (ins.length + 1) c9)) (l' := (bt 13 8191)) rfl (by kernel_rfl) (by kernel_rfl) (by kernel_rfl) (run_stLsB (.tmp 80) (.tmp 79) a9 (ins.length + 1) c9 (by kernel_rfl) (by kernel_rfl) (by kernel_rfl) (hS9.2 7 (by simp)).1 (hS9.2 7 (by simp)).2) hIF.S ?_)
          refine wpAnyH_done (by kernel_rfl) ?_ _
          obtain ⟨wF, hwF⟩ : ∃ V, V = w9.setCell ⟨Q8, 7, none⟩ (.slice a9 (ins.length + 1) c9) := ⟨_, rfl⟩
          rw [← hwF] at hIF
          rw [← hwF]
          have HIF := hid hIF
          clear hwF hIF hS9 hSA hS0 hI0 ho9 hg9 hrun hsrc hown1 hbA
          go_simp
          go_wp2_with fail
          go_roundw
          case rel => exact ⟨j + 1, a9, c9, ins ++ [s5], by omega, by go_num, HNEW.out, HIF.out⟩
          case measure => simp [intOf]; omega
      case neg =>
        obtain rfl : j = n' := by omega
        have hjn' : ¬ (j : Int) < (j : Int) := by omega
        have n0 : wr.cell? ⟨Q8, 0, none⟩ = some (.int .i64 1) := (hI.M9 0 (by simp)).1
        have n1 : wr.cell? ⟨Q8, 1, none⟩ = some (.int .i64 0) := (hI.M9 1 (by simp)).1
        have n2 : wr.cell? ⟨Q8, 2, none⟩ = some (.int .i64 ((k : Int) + 1)) := (hI.M9 2 (by simp)).1
        have n3 : wr.cell? ⟨Q8, 3, none⟩ = some (.int .i64 0) := (hI.M9 3 (by simp)).1
        have n4 : wr.cell? ⟨Q8, 4, none⟩ = some (.int .i64 ((d.ep - 1) * 1000000 + (st.gv + 1))) := (hI.M9 4 (by simp)).1
        have n5 : wr.cell? ⟨Q8, 5, none⟩ = some (.int .i64 i) := (hI.M9 5 (by simp)).1
        have n6 : wr.cell? ⟨Q8, 6, none⟩ = some (.string ⟨#[]⟩) := (hI.M9 6 (by simp)).1
        have n7 : wr.cell? ⟨Q8, 7, none⟩ = some (.slice ma ins.length mc) := (hI.M9 7 (by simp)).1
        have hq9 := hI.q9
        have hud : Dn (Value.slice ma ins.length mc).ownBlock (Value.slice va st.M.length vc).ownBlock := Dn.symm (Dn.later (m := Q8) hI.v1 (fun q e => by have := hI.I9.row_lo q e; omega))
        have hdu : ∀ j, j < st.M.length → Dn (vs.getD j nilV).ownBlock (Value.slice ma ins.length mc).ownBlock := fun j hj => Dn.later (m := Q8) (hI.v2 j hj) (fun q e => by have := hI.I9.row_lo q e; omega)
        have HSD := hid (send_any w0 wK B Qm Qd Qp d h ts (some ⟨pb, po, none⟩) pc now sn (nb + 1) ⟨st.gv + 1, st.J.set i ((((d.ep - 1) * 1000000 + (st.gv + 1)), (k : Int) + 1, now + 12) : Tr), st.S.set k (false, (t2 st.S k).2), st.M⟩ (.slice va st.M.length vc) vs 1 0 ((k : Int) + 1) 0 ((d.ep - 1) * 1000000 + (st.gv + 1)) i ⟨#[]⟩ ma mc ins wr hI.S (hI.I9.mono' (by omega)) hud hdu (by show st.M.length ≤ 3000; omega))
        clear hI hud hdu
        go_wp2_with fail
        refine HSD.out.mono ?_
        rintro e w5 ⟨rfl, v', s5⟩
        clear HSD n0 n1 n2 n3 n4 n5 n6 n7
        have HF := hid s5
        clear s5
        go_wp2_with fail
        go_end0
        refine ⟨rfl, v', vs ++ [.slice ma ins.length mc], ?_⟩
        have e : ins = insOf d.R (ts.getD i dT).deps := by
          rw [HIN.out, HT.out]
          refine List.take_of_length_le ?_
          unfold insOf
          rw [List.length_map, ← HT.out, HDL.out]
          exact Nat.le_refl _
        rw [← e]
        exact HF.out
end Go.Proofs.YtaeomkpofcbmiaaGreat

namespace Go.Proofs.YtaeomkpofcbmiaaGreat
open Go.RowKit

/-- A message was sent: its cells CS. -/
def SentR (Qm Qd : Nat) (M : List MgD) (vs CS : List Value) (va : Option Addr) (vc : Nat) (w w' : World) : Prop := ∃ (x0 w9 : World) (ob : Obj) (a9 : Option Addr) (c9 : Nat), Below w.heap.size w x0 ∧ Own Qm w9 8 (.slice a9 (M.length + 1) c9) (M.length + 1) (rowM M vs ++ CS) ∧ (x0.alloc ob).grownBy w9 (Value.slice va M.length vc).ownBlock ∧ ((Value.slice a9 (M.length + 1) c9).ownBlock = (Value.slice va M.length vc).ownBlock ∨ (Value.slice a9 (M.length + 1) c9).ownBlock = some (x0.alloc ob).heap.size) ∧ w' = w9.setCell ⟨Qd, 14, none⟩ (.slice a9 (M.length + 1) c9)

theorem CF.oneB {w w' : World} {p j : Nat} {v : Value} (h : w.cell? ⟨p, j, none⟩ = some v ∧ w.frozen? ⟨p, j, none⟩ = false) (hb : w'.heap[p]? = w.heap[p]?) : w'.cell? ⟨p, j, none⟩ = some v ∧ w'.frozen? ⟨p, j, none⟩ = false :=
  ⟨(World.cell?_of_block (w := w) (a := ⟨p, j, none⟩) hb).trans h.1, (World.frozen?_of_block (w := w) (a := ⟨p, j, none⟩) hb).trans h.2⟩
set_option maxHeartbeats 4000000 in
set_option maxRecDepth 100000 in
theorem sendRaw_any (Qm Qd : Nat) (M : List MgD) (va : Option Addr) (vc : Nat) (vs : List Value) (kd fm tw e0 ep le ta : Int) (x : ByteArray) (ua : Option Addr) (un uc : Nat) (w : World) (h4 : w.cell? ⟨Qd, 4, none⟩ = some (.int .i64 ep)) (h14 : w.cell? ⟨Qd, 14, none⟩ = some (.slice va M.length vc) ∧ w.frozen? ⟨Qd, 14, none⟩ = false) (hms : Own Qm w 8 (.slice va M.length vc) M.length (rowM M vs)) (hQd : Qd < Qm) (hz : Qm ≤ w.heap.size) (hml : M.length ≤ 3000) :
    Calls Tryz.prog 106 #[.pointer (some ⟨Qd, 0, none⟩), .agg #[.int .i64 kd, .int .i64 fm, .int .i64 tw, .int .i64 e0, .int .i64 le, .int .i64 ta, .string x, .slice ua un uc]] w fun e w' => e = .returned (.tuple #[]) ∧ SentR Qm Qd M vs [.int .i64 kd, .int .i64 fm, .int .i64 tw, .int .i64 ep, .int .i64 le, .int .i64 ta, .string x, .slice ua un uc] va vc w (w') := by
  obtain ⟨iM, hiM, hM0, hM1, hM2⟩ := info_parts Tryz.infoMs
  obtain ⟨W, hW⟩ : ∃ V, V = w.alloc (.cells #[.int .i64 kd, .int .i64 fm, .int .i64 tw, .int .i64 e0, .int .i64 le, .int .i64 ta, .string x, .slice ua un uc] 71) := ⟨_, rfl⟩
  obtain ⟨Qx, hQx⟩ : ∃ q, q = w.heap.size := ⟨_, rfl⟩
  have hbW : Below w.heap.size w W := by rw [hW]; exact (Below.refl _ _).alloc (Nat.le_refl _) _
  have cW : CF W Qx [.int .i64 kd, .int .i64 fm, .int .i64 tw, .int .i64 e0, .int .i64 le, .int .i64 ta, .string x, .slice ua un uc] := by rw [hW, hQx]; exact CF.made w #[.int .i64 kd, .int .i64 fm, .int .i64 tw, .int .i64 e0, .int .i64 le, .int .i64 ta, .string x, .slice ua un uc] 71
  have dv : Dn (Value.slice va M.length vc).ownBlock (some Qx) := Dn.later (m := Qx) (by rw [hQx]; exact hms.row_hi) (fun q e => by injection e with e; omega)
  have hQm : Qm ≤ Qx := by omega
  have lW : Qx < W.heap.size := by rw [hW, hQx]; simp
  have y4 : W.cell? ⟨Qd, 4, none⟩ = some (.int .i64 ep) := keepB hbW h4
  have HW := hid hW
  have HQ := hid hQx
  clear hW hQx h4
  go_enter Tryz.func106, Tryz.ntmps106
  go_upto_region 1 with fail
  rw [← HW.out, ← HQ.out]
  have m3 : W.cell? ⟨Qx, 3, none⟩ = some (.int .i64 e0) := (cW 3 (by simp)).1
  have f3 : W.frozen? ⟨Qx, 3, none⟩ = false := (cW 3 (by simp)).2
  go_upto_region 2 with fail
  obtain ⟨W1, hW1⟩ : ∃ V, V = W.setCell ⟨Qx, 3, none⟩ (.int .i64 ep) := ⟨_, rfl⟩
  have g1 : W.grownBy W1 (some Qx) := by rw [hW1]; exact gset (World.grownBy.refl W _) 3 _
  have c1 : CF W1 Qx [.int .i64 kd, .int .i64 fm, .int .i64 tw, .int .i64 ep, .int .i64 le, .int .i64 ta, .string x, .slice ua un uc] := by rw [hW1]; exact cW.set (j := 3) (by simp) _
  have z1 := g1.size
  have hb1 : Below w.heap.size w W1 := hbW.grown g1 hbW.size (fun q e => by injection e with e; rw [← e, HQ.out]; exact Nat.le_refl _)
  rw [← hW1]
  clear hW1 g1 cW y4 m3 f3
  refine wp_region_held (S := fun w' => CF w' Qx [.int .i64 kd, .int .i64 fm, .int .i64 tw, .int .i64 ep, .int .i64 le, .int .i64 ta, .string x, .slice ua un uc]) (by kernel_rfl) ?_
  change wpAnyH _ _ _ _ _ _ _ _ (World.drew _)
  have hbd : Below W1.heap.size W1 W1.drew := (Below.refl _ _).drew
  have hb0 : Below w.heap.size w W1.drew := hb1.trans (hbd.mono hb1.size)
  have hS0 : CF W1.drew Qx [.int .i64 kd, .int .i64 fm, .int .i64 tw, .int .i64 ep, .int .i64 le, .int .i64 ta, .string x, .slice ua un uc] := c1
  have l0 : Qx < W1.drew.heap.size := Nat.lt_of_lt_of_le (by omega) hbd.size
  obtain ⟨x0, hx0⟩ : ∃ U, U = W1.drew := ⟨_, rfl⟩
  rw [← hx0] at hb0 hS0 l0
  rw [← hx0]
  clear hx0 c1 hbd z1 lW hb1 hbW HW
  have lq := HQ.out
  have z0 := hb0.size
  refine hTk (i := 0) (d := some 10) (v := .pointer (some ⟨Qd, 0, none⟩)) (l' := (bt 11 1)) rfl (fun _ hc => run_mvF (.tmp 0) (by kernel_rfl) (by kernel_rfl)) hS0 ?_
  refine hTk (i := 1) (d := some 11) (v := .pointer (some ⟨Qd, 0, none⟩)) (l' := (bt 11 3)) rfl (fun _ hc => run_mvF (.tmp 0) (by kernel_rfl) (by kernel_rfl)) hS0 ?_
  refine hTk (i := 2) (d := some 12) (v := .pointer (some ⟨Qd, 0, none⟩)) (l' := (bt 11 7)) rfl (fun _ hc => run_nc (.tmp 11) (by kernel_rfl) (by kernel_rfl)) hS0 ?_
  refine hTk (i := 3) (d := some 13) (v := .pointer (some ⟨Qd, 14, none⟩)) (l' := (bt 11 15)) rfl (fun _ hc => run_faD3 (.tmp 12) (by kernel_rfl) (by kernel_rfl)) hS0 ?_
  refine hTk (i := 5) (d := some 15) (v := .agg #[.int .i64 kd, .int .i64 fm, .int .i64 tw, .int .i64 ep, .int .i64 le, .int .i64 ta, .string x, .slice ua un uc]) (l' := (bt 11 47)) rfl (fun _ hc => run_ldT 71 _ [.int .i64 kd, .int .i64 fm, .int .i64 tw, .int .i64 ep, .int .i64 le, .int .i64 ta, .string x, .slice ua un uc] (.tmp 3) (by kernel_rfl) (by kernel_rfl) hc Tryz.underlying71 rfl Tryz.sizeMgB) hS0 ?_
  have hbA : Below x0.heap.size x0 (x0.alloc (.cells #[.int .i64 kd, .int .i64 fm, .int .i64 tw, .int .i64 ep, .int .i64 le, .int .i64 ta, .string x, .slice ua un uc] 71)) := (Below.refl _ _).alloc (Nat.le_refl _) _
  have own1 : Own Qm (x0.alloc (.cells #[.int .i64 kd, .int .i64 fm, .int .i64 tw, .int .i64 ep, .int .i64 le, .int .i64 ta, .string x, .slice ua un uc] 71)) 8 (.slice (some ⟨x0.heap.size, 0, none⟩) 1 1) 1 [.int .i64 kd, .int .i64 fm, .int .i64 tw, .int .i64 ep, .int .i64 le, .int .i64 ta, .string x, .slice ua un uc] :=
    .inr ⟨_, 0, 1, rfl, OwnC.made x0 Qm 71 8 1 1 _ 8 (by omega) (Nat.le_refl _) (by unfold maxLen; omega) rfl (Nat.le_refl _) _ rfl _ (.inl rfl)⟩
  have src1 : Src Tryz.prog 8 41 _ 1 _ (x0.alloc (.cells #[.int .i64 kd, .int .i64 fm, .int .i64 tw, .int .i64 ep, .int .i64 le, .int .i64 ta, .string x, .slice ua un uc] 71)) := own1.src Tryz.underlying41 (one8 _ _ _ _ _ _ _ _ _ _)
  obtain ⟨v9, w9, hrun, ho9, hg9, hbk9⟩ := run_append_c (P := Tryz.prog) (x0.alloc (.cells #[.int .i64 kd, .int .i64 fm, .int .i64 tw, .int .i64 ep, .int .i64 le, .int .i64 ta, .string x, .slice ua un uc] 71)) Qm 41 41 41 71 iM (.agg #[.int .i64 0, .int .i64 0, .int .i64 0, .int .i64 0, .int .i64 0, .int .i64 0, .string ⟨#[]⟩, .slice none 0 0]) 8 88 Tryz.underlying41 hiM hM0 hM1 hM2 rfl _ M.length _ ((hms.below hb0 (Nat.le_refl _)).below hbA (Nat.le_refl _)) _ 1 _ src1 (by unfold maxLen; omega) (by omega) (by simp; omega)
  obtain ⟨a9, c9, rfl⟩ := ho9.slc
  have HF := hid (show SentR Qm Qd M vs [.int .i64 kd, .int .i64 fm, .int .i64 tw, .int .i64 ep, .int .i64 le, .int .i64 ta, .string x, .slice ua un uc] va vc w ((w9.setCell ⟨Qd, 14, none⟩ (.slice a9 (M.length + 1) c9))) from ⟨x0, w9, _, a9, c9, hb0, ho9, hg9, hbk9, rfl⟩)
  have hne : some Qd ≠ (Value.slice va M.length vc).ownBlock := fun e => by have := hms.row_lo Qd e.symm; omega
  have hnx : some Qx ≠ (Value.slice va M.length vc).ownBlock := fun e => by
    rcases dv with h | h
    · rw [h] at e; cases e
    · exact h e.symm
  have zA : (x0.alloc (.cells #[.int .i64 kd, .int .i64 fm, .int .i64 tw, .int .i64 ep, .int .i64 le, .int .i64 ta, .string x, .slice ua un uc] 71)).heap.size = x0.heap.size + 1 := by simp
  have m14 := CF.oneB h14 (hb0.block Qd (by omega))
  have m14A := CF.oneB m14 (hbA.block Qd (by omega))
  have hD9 := CF.oneB m14A (hg9.block Qd (by omega) hne)
  have hSA := hS0.block (hbA.block _ l0)
  have hS9 := hSA.block (hg9.block _ (by omega) hnx)
  have gs := gset (World.grownBy.refl w9 (some Qd)) 14 (.slice a9 (M.length + 1) c9)
  have hSF := hS9.block (gs.block _ (by have := hg9.size; omega) (fun e => by injection e with e; omega))
  have HM := hid (And.intro m14.1 m14A.1)
  clear gs hne hnx hbk9 own1 src1 hg9 ho9 m14 m14A h14 hms hb0
  obtain ⟨xA, hxA⟩ : ∃ V, V = x0.alloc (.cells #[.int .i64 kd, .int .i64 fm, .int .i64 tw, .int .i64 ep, .int .i64 le, .int .i64 ta, .string x, .slice ua un uc] 71) := ⟨_, rfl⟩
  rw [← hxA] at hbA hrun hSA zA HM
  have HXA := hid hxA
  clear hxA
  refine hTwo (i := 4) (j := 6) (by kernel_rfl) (hVal (i := 4) (d := some 14) (v := .slice va M.length vc) (w' := x0) (l' := (bt 11 63)) rfl (by kernel_rfl) (by kernel_rfl) (by kernel_rfl) (run_ldMsB (.tmp 13) (by kernel_rfl) (by kernel_rfl) HM.out.1) hS0 ?_) (hVal (i := 6) (d := some 16) (v := .slice (some ⟨x0.heap.size, 0, none⟩) 1 1) (w' := xA) (l' := (bt 11 111)) rfl (by kernel_rfl) (by kernel_rfl) (by kernel_rfl) (by rw [HXA.out]; exact run_bsM (.tmp 15) kd fm tw ep le ta x ua un uc (by kernel_rfl) (by kernel_rfl)) hSA ?_)
  · refine hOne (i := 6) (by kernel_rfl) (hVal (i := 6) (d := some 16) (v := .slice (some ⟨x0.heap.size, 0, none⟩) 1 1) (w' := xA) (l' := (bt 11 127)) rfl (by kernel_rfl) (by kernel_rfl) (by kernel_rfl) (by rw [HXA.out]; exact run_bsM (.tmp 15) kd fm tw ep le ta x ua un uc (by kernel_rfl) (by kernel_rfl)) hSA ?_)
    refine hOne (i := 7) (by kernel_rfl) (hVal (i := 7) (d := some 17) (v := .slice a9 (M.length + 1) c9) (w' := w9) (l' := (bt 11 255)) rfl (by kernel_rfl) (by kernel_rfl) (by kernel_rfl) (run_appB (.tmp 14) (.tmp 16) 41 41 41 (by kernel_rfl) (by kernel_rfl) (by kernel_rfl) (by kernel_rfl) hrun) hS9 ?_)
    refine hTk (i := 8) (d := some 18) (v := .pointer (some ⟨Qd, 0, none⟩)) (l' := (bt 11 511)) rfl (fun _ hc => run_nc (.tmp 10) (by kernel_rfl) (by kernel_rfl)) hS9 ?_
    refine hTk (i := 9) (d := some 19) (v := .pointer (some ⟨Qd, 14, none⟩)) (l' := (bt 11 1023)) rfl (fun _ hc => run_faD3 (.tmp 18) (by kernel_rfl) (by kernel_rfl)) hS9 ?_
    refine hOne (i := 10) (by kernel_rfl) (hSkip (i := 10) (w' := w9.setCell ⟨Qd, 14, none⟩ (.slice a9 (M.length + 1) c9)) (l' := (bt 11 2047)) rfl (by kernel_rfl) (by kernel_rfl) (by kernel_rfl) (run_stMsB (.tmp 19) (.tmp 17) a9 (M.length + 1) c9 (by kernel_rfl) (by kernel_rfl) (by kernel_rfl) hD9.1 hD9.2) hSF ?_)
    refine wpAnyH_done (by kernel_rfl) ?_ _
    clear hS9 hSA hS0 hD9 hrun hSF
    go_simp
    go_wp2_with fail
    go_end0
    exact ⟨rfl, HF.out⟩
  · refine hOne (i := 4) (by kernel_rfl) (hVal (i := 4) (d := some 14) (v := .slice va M.length vc) (w' := xA) (l' := (bt 11 127)) rfl (by kernel_rfl) (by kernel_rfl) (by kernel_rfl) (run_ldMsB (.tmp 13) (by kernel_rfl) (by kernel_rfl) HM.out.2) hSA ?_)
    refine hOne (i := 7) (by kernel_rfl) (hVal (i := 7) (d := some 17) (v := .slice a9 (M.length + 1) c9) (w' := w9) (l' := (bt 11 255)) rfl (by kernel_rfl) (by kernel_rfl) (by kernel_rfl) (run_appB (.tmp 14) (.tmp 16) 41 41 41 (by kernel_rfl) (by kernel_rfl) (by kernel_rfl) (by kernel_rfl) hrun) hS9 ?_)
    refine hTk (i := 8) (d := some 18) (v := .pointer (some ⟨Qd, 0, none⟩)) (l' := (bt 11 511)) rfl (fun _ hc => run_nc (.tmp 10) (by kernel_rfl) (by kernel_rfl)) hS9 ?_
    refine hTk (i := 9) (d := some 19) (v := .pointer (some ⟨Qd, 14, none⟩)) (l' := (bt 11 1023)) rfl (fun _ hc => run_faD3 (.tmp 18) (by kernel_rfl) (by kernel_rfl)) hS9 ?_
    refine hOne (i := 10) (by kernel_rfl) (hSkip (i := 10) (w' := w9.setCell ⟨Qd, 14, none⟩ (.slice a9 (M.length + 1) c9)) (l' := (bt 11 2047)) rfl (by kernel_rfl) (by kernel_rfl) (by kernel_rfl) (run_stMsB (.tmp 19) (.tmp 17) a9 (M.length + 1) c9 (by kernel_rfl) (by kernel_rfl) (by kernel_rfl) hD9.1 hD9.2) hSF ?_)
    refine wpAnyH_done (by kernel_rfl) ?_ _
    clear hS9 hSA hS0 hD9 hrun hSF
    go_simp
    go_wp2_with fail
    go_end0
    exact ⟨rfl, HF.out⟩
end Go.Proofs.YtaeomkpofcbmiaaGreat
