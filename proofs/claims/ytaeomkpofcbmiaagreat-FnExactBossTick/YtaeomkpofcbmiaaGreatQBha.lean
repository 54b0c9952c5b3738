import Derived.Test.YtaeomkpofcbmiaaGreatQBdk
import Derived.Deep.DeepCutAuto
namespace Go.Proofs.YtaeomkpofcbmiaaGreat
open Go.RowKit

theorem Tryz.sizeLd : (Tryz.prog.info? 43).map (·.size) = some 13 := by kernel_rfl
theorem wpList_store_j3 {ops : Array Oper} {rest : List Oper} {op : Oper} {a : Act} {w : World} {Q : Exit → Act → World → Prop} (hgd : op.guard = none) (x y : Operand) (ho : op.op = .store 66 x y) (b o : Nat) (p q r : Int) (hx : a.eval x = .pointer (some ⟨b, o, none⟩)) (hy : a.eval y = .agg #[.int .i64 p, .int .i64 q, .int .i64 r]) (ht : w.there b o 3)
    (hK : wpList Tryz.prog ops Q rest (a.put op.dst undef) (w.setCells b o [.int .i64 p, .int .i64 q, .int .i64 r])) : wpList Tryz.prog ops Q (op :: rest) a w :=
  wpList_store_mid hgd 66 x y ho b o #[.int .i64 p, .int .i64 q, .int .i64 r] hx hy ht (by kernel_rfl) (by kernel_rfl) hK
theorem handN_lenM (ep now : Int) (R : List ByteArray) (ts : List TaskD) (st : HSt) (n : Nat) : (handN ep now R ts st n).M.length ≤ st.M.length + n := by
  induction n with
  | zero => exact Nat.le_refl _
  | succ n ih =>
    show (handS ep now R ts (handN ep now R ts st n) n).M.length ≤ _
    unfold handS
    cases ffr (handN ep now R ts st n).S with
    | none => exact Nat.le_trans ih (by omega)
    | some k =>
      simp only
      split
      · simp; omega
      · exact Nat.le_trans ih (by omega)
theorem one13 (wk : Int) (up : Bool) (now sn ep gv : Int) (a0 a1 a2 a3 a4 a5 a6 : Option Addr) (n0 c0 n1 c1 n2 c2 n3 c3 n4 c4 n5 c5 n6 c6 : Nat) : ∀ v ∈ [Value.int .i64 wk, .bool up, .int .i64 now, .int .i64 sn, .int .i64 ep, .int .i64 gv, .slice a0 n0 c0, .slice a1 n1 c1, .slice a2 n2 c2, .slice a3 n3 c3, .slice a4 n4 c4, .slice a5 n5 c5, .slice a6 n6 c6], v.oneCell' = true := by
  intro v hv
  simp only [List.mem_cons, List.not_mem_nil, or_false] at hv
  rcases hv with rfl | rfl | rfl | rfl | rfl | rfl | rfl | rfl | rfl | rfl | rfl | rfl | rfl <;> rfl
theorem insOf_take {R : List ByteArray} {ds : List Int} {j q : Nat} (hj : j < ds.length) (hq : ds.getD j 0 = (q : Int)) : (insOf R ds).take (j + 1) = (insOf R ds).take j ++ [rs R q] := by
  unfold insOf
  rw [List.take_add_one, List.getElem?_map, List.getElem?_eq_getElem hj]
  have : ds[j] = (q : Int) := by rw [← hq]; simp [List.getD, hj]
  rw [this]
  rfl
/-- Amid l5Hand: the plan's box, the answer's box, the box of what is handed on. -/
structure HaS (w0 w : World) (B : Nat) (d : BD) (h : BH) (ts : List TaskD) (pa : Option Addr) (pc : Nat) (st : HSt) (v : Value) (vs : List Value) (wr : World) : Prop where
  H : HdM w0 w B (w.heap.size + 4) d h st v vs wr
  P3 : CF wr (w.heap.size + 1) [.slice pa ts.length pc]
  A4 : CF wr (w.heap.size + 2) [.int .i64 0, .bool false, .int .i64 0, .int .i64 0, .int .i64 0, .int .i64 0, .slice none 0 0, .slice none 0 0, .slice none 0 0, .slice none 0 0, .slice none 0 0, .slice none 0 0, .slice none 0 0]
  L5 : CF wr (w.heap.size + 3) [.int .i64 d.wk, .bool d.up, .int .i64 d.now, .int .i64 d.sn, .int .i64 d.ep, .int .i64 st.gv, .slice h.a1 d.L1.length h.c1, .slice h.a2 d.L2.length h.c2, .slice h.ar ts.length h.cr, .slice h.aj ts.length h.cj, .slice h.az d.S.length h.cs, .slice h.ao d.O.length h.co, v]
  o2 : Ok2 st.S
  g0 : 0 ≤ st.gv
  vm : ∃ a c, v = .slice a st.M.length c
theorem HaS.below {w0 w : World} {B : Nat} {d : BD} {h : BH} {ts : List TaskD} {pa : Option Addr} {pc : Nat} {st : HSt} {v : Value} {vs : List Value} {wr : World} {w' : World} (s : HaS w0 w B d h ts pa pc st v vs wr) (hb : Below wr.heap.size wr w') : HaS w0 w B d h ts pa pc st v vs w' :=
  have h1 := s.H.sz
  ⟨s.H.below hb, s.P3.block (hb.block _ (by omega)), s.A4.block (hb.block _ (by omega)), s.L5.block (hb.block _ (by omega)), s.o2, s.g0, s.vm⟩
/-- Amid the inputs of an offer: its box Q9. -/
structure HiS (w0 w : World) (B : Nat) (d : BD) (h : BH) (ts : List TaskD) (pa : Option Addr) (pc : Nat) (st : HSt) (v : Value) (vs : List Value) (Q9 : Nat) (tw le ti : Int) (ma : Option Addr) (mc : Nat) (ins : List ByteArray) (wr : World) : Prop where
  S : HaS w0 w B d h ts pa pc st v vs wr
  M9 : CF wr Q9 [.int .i64 1, .int .i64 0, .int .i64 tw, .int .i64 d.ep, .int .i64 le, .int .i64 ti, .string ⟨#[]⟩, .slice ma ins.length mc]
  I9 : Own (Q9 + 1) wr 1 (.slice ma ins.length mc) ins.length (ins.map Value.string)
  q9 : w.heap.size + 4 ≤ Q9 ∧ Q9 < wr.heap.size
  v1 : ∀ q, v.ownBlock = some q → q < Q9
  v2 : ∀ j, j < st.M.length → ∀ q, (vs.getD j nilV).ownBlock = some q → q < Q9
theorem HiS.drew {w0 w : World} {B : Nat} {d : BD} {h : BH} {ts : List TaskD} {pa : Option Addr} {pc : Nat} {st : HSt} {v : Value} {vs : List Value} {Q9 : Nat} {tw le ti : Int} {ma : Option Addr} {mc : Nat} {ins : List ByteArray} {wr : World} (s : HiS w0 w B d h ts pa pc st v vs Q9 tw le ti ma mc ins wr) : HiS w0 w B d h ts pa pc st v vs Q9 tw le ti ma mc ins wr.drew :=
  have hb : Below wr.heap.size wr wr.drew := (Below.refl _ _).drew
  ⟨s.S.below hb, s.M9.block (hb.block _ s.q9.2), s.I9.below hb (Nat.le_refl _), ⟨s.q9.1, Nat.lt_of_lt_of_le s.q9.2 hb.size⟩, s.v1, s.v2⟩
/-- .. between append and store. -/
theorem HiS.app9 {w0 w : World} {B : Nat} {d : BD} {h : BH} {ts : List TaskD} {pa : Option Addr} {pc : Nat} {st : HSt} {v : Value} {vs : List Value} {Q9 : Nat} {tw le ti : Int} {ma : Option Addr} {mc : Nat} {ins : List ByteArray} {wr w9 : World} {ob : Obj} (s : HiS w0 w B d h ts pa pc st v vs Q9 tw le ti ma mc ins wr)
    (hg : (wr.alloc ob).grownBy w9 (Value.slice ma ins.length mc).ownBlock) : HaS w0 w B d h ts pa pc st v vs w9 ∧ CF w9 Q9 [.int .i64 1, .int .i64 0, .int .i64 tw, .int .i64 d.ep, .int .i64 le, .int .i64 ti, .string ⟨#[]⟩, .slice ma ins.length mc] := by
  have hlo := s.I9.row_lo
  have hq := s.q9
  have hsz := s.S.H.sz
  have hqm := s.S.H.qm
  have hbA : Below wr.heap.size wr (wr.alloc ob) := (Below.refl _ _).alloc (Nat.le_refl _) _
  have sA := s.S.below hbA
  have hzA : (wr.alloc ob).heap.size = wr.heap.size + 1 := by simp
  have dv : Dn v.ownBlock (Value.slice ma ins.length mc).ownBlock := Dn.later (m := Q9) s.v1 (fun q e => by have := hlo q e; omega)
  have dvs : ∀ j, j < st.M.length → Dn (vs.getD j nilV).ownBlock (Value.slice ma ins.length mc).ownBlock := fun j hj => Dn.later (m := Q9) (s.v2 j hj) (fun q e => by have := hlo q e; omega)
  have hne : ∀ p, p ≤ Q9 → some p ≠ (Value.slice ma ins.length mc).ownBlock := fun p hp e => by have := hlo p e.symm; omega
  have cb : ∀ {p : Nat} {cs : List Value}, CF (wr.alloc ob) p cs → p ≤ Q9 → CF w9 p cs := fun hc hp => hc.block (hg.block _ (by omega) (hne _ hp))
  exact ⟨⟨sA.H.farR hg (fun q e => by have := hlo q e; omega) dv dvs, cb sA.P3 (by omega), cb sA.A4 (by omega), cb sA.L5 (by omega), s.S.o2, s.S.g0, s.S.vm⟩, cb (s.M9.block (hbA.block Q9 hq.2)) (Nat.le_refl _)⟩
theorem HaS.rc {w0 w : World} {B : Nat} {d : BD} {h : BH} {ts : List TaskD} {pa : Option Addr} {pc : Nat} {st : HSt} {v : Value} {vs : List Value} {wr : World} (s : HaS w0 w B d h ts pa pc st v vs wr) {br or' q : Nat} (ha : h.ar = some ⟨br, or', none⟩) (hq : q < d.R.length) : wr.cell? ⟨br, or' + q, none⟩ = some (.string (rs d.R q)) := by
  rcases s.H.bo.o2 with ⟨hx, _⟩ | ⟨g', o'', cap', hx, hc⟩
  · rw [ha] at hx; cases hx
  · rw [ha] at hx
    injection hx with e1 e2 e3
    injection e1 with e1
    injection e1 with e4 e5
    subst e4 e5
    rw [hc.holds q (by show q < d.R.length * 1; omega)]
    show (d.R.map Value.string)[q]? = _
    rw [List.getElem?_map, List.getElem?_eq_getElem hq]
    simp [rs, List.getD, hq]
/-- One input more. -/
theorem HiS.app {w0 w : World} {B : Nat} {d : BD} {h : BH} {ts : List TaskD} {pa : Option Addr} {pc : Nat} {st : HSt} {v : Value} {vs : List Value} {Q9 : Nat} {tw le ti : Int} {ma a9 : Option Addr} {mc c9 : Nat} {ins : List ByteArray} {wr w9 : World} {x : ByteArray} {ob : Obj} (s : HiS w0 w B d h ts pa pc st v vs Q9 tw le ti ma mc ins wr)
    (ho : Own (Q9 + 1) w9 1 (.slice a9 (ins.length + 1) c9) (ins.length + 1) (ins.map Value.string ++ [.string x])) (hg : (wr.alloc ob).grownBy w9 (Value.slice ma ins.length mc).ownBlock) : HiS w0 w B d h ts pa pc st v vs Q9 tw le ti a9 c9 (ins ++ [x]) (w9.setCell ⟨Q9, 7, none⟩ (.slice a9 (ins.length + 1) c9)) := by
  have hlo := s.I9.row_lo
  have hq := s.q9
  have hsz := s.S.H.sz
  have hqm := s.S.H.qm
  have hbA : Below wr.heap.size wr (wr.alloc ob) := (Below.refl _ _).alloc (Nat.le_refl _) _
  have sA := s.S.below hbA
  have hzA : (wr.alloc ob).heap.size = wr.heap.size + 1 := by simp
  have dv : Dn v.ownBlock (Value.slice ma ins.length mc).ownBlock := Dn.later (m := Q9) s.v1 (fun q e => by have := hlo q e; omega)
  have dvs : ∀ j, j < st.M.length → Dn (vs.getD j nilV).ownBlock (Value.slice ma ins.length mc).ownBlock := fun j hj => Dn.later (m := Q9) (s.v2 j hj) (fun q e => by have := hlo q e; omega)
  have hne : ∀ p, p ≤ Q9 → some p ≠ (Value.slice ma ins.length mc).ownBlock := fun p hp e => by have := hlo p e.symm; omega
  have hH := sA.H.farR hg (fun q e => by have := hlo q e; omega) dv dvs
  have gs := gset (World.grownBy.refl w9 (some Q9)) 7 (.slice a9 (ins.length + 1) c9)
  have hH2 := hH.far gs (by omega) (Dn.symm (Dn.later (x := some Q9) (m := Q9 + 1) (fun q e => by injection e with e; omega) (y := none) (fun q e => by cases e)) |> fun _ => (by
      cases hv : v.ownBlock with
      | none => exact .inl rfl
      | some q => exact .inr (fun e => by injection e with e; have := s.v1 q hv; omega))) (fun j hj => by
      cases hv : (vs.getD j nilV).ownBlock with
      | none => exact .inl rfl
      | some q => exact .inr (fun e => by injection e with e; have := s.v2 j hj q hv; omega))
  have cb : ∀ {p : Nat} {cs : List Value}, CF (wr.alloc ob) p cs → p < Q9 → CF (w9.setCell ⟨Q9, 7, none⟩ (.slice a9 (ins.length + 1) c9)) p cs := fun hc hp => (hc.block (hg.block _ (by omega) (hne _ (by omega)))).block (gs.block _ (by have := hg.size; omega) (fun e => by injection e with e; omega))
  refine ⟨⟨hH2, cb sA.P3 (by omega), cb sA.A4 (by omega), cb sA.L5 (by omega), s.S.o2, s.S.g0, s.S.vm⟩, ?_, ?_, ⟨hq.1, ?_⟩, s.v1, s.v2⟩
  · have := ((s.M9.block (hbA.block Q9 hq.2)).block (hg.block Q9 (by omega) (hne Q9 (Nat.le_refl _)))).set (j := 7) (by simp) (.slice a9 (ins.length + 1) c9)
    rw [List.length_append, List.length_singleton]
    exact this
  · rw [List.length_append, List.length_singleton, List.map_append]
    exact ho.grown gs (.inr (fun e => by have := ho.row_lo Q9 e; omega))
  · have h1 := hg.size
    have h2 := gs.size
    omega
theorem Ok2.set {S : List (Bool × Int)} (h : Ok2 S) {k : Nat} (hk : k < S.length) (b : Bool) : Ok2 (S.set k (b, (t2 S k).2)) := fun j hj => by
  rw [List.length_set] at hj
  rw [getD_set2 S k _ hk j]
  split
  · exact h k hk
  · exact h j hj
set_option maxHeartbeats 8000000 in
set_option maxRecDepth 100000 in
theorem l5Hand_any (d : BD) (h : BH) (pa : Option Addr) (pb po pc : Nat) (ts : List TaskD) (w0 w : World) (B : Nat) (hB : B = w0.heap.size) (hT : TasksAt w0 pa pb po ts.length ts) (hO : BossO w B d h) (hb : Below B w0 w) (hBw : B ≤ w.heap.size) (hf : d.fits) (hRl : d.R.length = ts.length) (hJd : d.J.length = ts.length) (hAD : allDeps ts ts.length) (h40 : ts.length ≤ 40) (hep : 1 ≤ d.ep ∧ d.ep ≤ 300) (hgv0 : 0 ≤ d.gv ∧ d.gv ≤ 1000000) (hnow : 0 ≤ d.now ∧ d.now ≤ 1000000) (hS8 : d.S.length ≤ 8) :
    Calls Tryz.prog 25 #[.agg #[.int .i64 d.wk, .bool d.up, .int .i64 d.now, .int .i64 d.sn, .int .i64 d.ep, .int .i64 d.gv, .slice h.a1 d.L1.length h.c1, .slice h.a2 d.L2.length h.c2, .slice h.ar ts.length h.cr, .slice h.aj ts.length h.cj, .slice h.az d.S.length h.cs, .slice h.ao d.O.length h.co], .agg #[.slice pa ts.length pc]] w fun e w' => ∃ v vs, e = .returned (.agg #[.int .i64 d.wk, .bool d.up, .int .i64 d.now, .int .i64 d.sn, .int .i64 d.ep, .int .i64 (handN d.ep d.now d.R ts ⟨d.gv, d.J, d.S, []⟩ ts.length).gv, .slice h.a1 d.L1.length h.c1, .slice h.a2 d.L2.length h.c2, .slice h.ar ts.length h.cr, .slice h.aj ts.length h.cj, .slice h.az d.S.length h.cs, .slice h.ao d.O.length h.co, v]) ∧ HdM w0 w B (w.heap.size + 4) d h (handN d.ep d.now d.R ts ⟨d.gv, d.J, d.S, []⟩ ts.length) v vs w' := by
  have h40' : ts.length ≤ 40 := h40
  obtain ⟨iM, hiM, hM0, hM1, hM2⟩ := info_parts Tryz.infoMs
  obtain ⟨i0, hi0, hz00, hz01, hz02⟩ := info_parts Tryz.info9
  obtain ⟨W, hW⟩ : ∃ W, W = (((w.alloc (.cells #[.int .i64 d.wk, .bool d.up, .int .i64 d.now, .int .i64 d.sn, .int .i64 d.ep, .int .i64 d.gv, .slice h.a1 d.L1.length h.c1, .slice h.a2 d.L2.length h.c2, .slice h.ar ts.length h.cr, .slice h.aj ts.length h.cj, .slice h.az d.S.length h.cs, .slice h.ao d.O.length h.co] 40)).alloc (.cells #[.slice pa ts.length pc] 48)).alloc (.cells #[.int .i64 0, .bool false, .int .i64 0, .int .i64 0, .int .i64 0, .int .i64 0, .slice none 0 0, .slice none 0 0, .slice none 0 0, .slice none 0 0, .slice none 0 0, .slice none 0 0, .slice none 0 0] 43)) := ⟨_, rfl⟩
  have hbW : Below w.heap.size w W := by rw [hW]; exact (((Below.refl _ _).alloc (Nat.le_refl _) _).alloc (by simp) _).alloc (by simp <;> omega) _
  have hzW : W.heap.size = w.heap.size + 3 := by rw [hW]; simp
  have c2 : CF W w.heap.size [.int .i64 d.wk, .bool d.up, .int .i64 d.now, .int .i64 d.sn, .int .i64 d.ep, .int .i64 d.gv, .slice h.a1 d.L1.length h.c1, .slice h.a2 d.L2.length h.c2, .slice h.ar ts.length h.cr, .slice h.aj ts.length h.cj, .slice h.az d.S.length h.cs, .slice h.ao d.O.length h.co] := by rw [hW]; exact ((CF.made w #[.int .i64 d.wk, .bool d.up, .int .i64 d.now, .int .i64 d.sn, .int .i64 d.ep, .int .i64 d.gv, .slice h.a1 d.L1.length h.c1, .slice h.a2 d.L2.length h.c2, .slice h.ar ts.length h.cr, .slice h.aj ts.length h.cj, .slice h.az d.S.length h.cs, .slice h.ao d.O.length h.co] 40).block (Below.heap_alloc _ _ _ (by simp))).block (Below.heap_alloc _ _ _ (by simp <;> omega))
  have c3' : CF W (w.heap.size + 1) [.slice pa ts.length pc] := by
    have := CF.made (w.alloc (.cells #[.int .i64 d.wk, .bool d.up, .int .i64 d.now, .int .i64 d.sn, .int .i64 d.ep, .int .i64 d.gv, .slice h.a1 d.L1.length h.c1, .slice h.a2 d.L2.length h.c2, .slice h.ar ts.length h.cr, .slice h.aj ts.length h.cj, .slice h.az d.S.length h.cs, .slice h.ao d.O.length h.co] 40)) #[.slice pa ts.length pc] 48
    rw [World.size_alloc] at this
    rw [hW]; exact this.block (Below.heap_alloc _ _ _ (by simp))
  have c4 : CF W (w.heap.size + 2) [.int .i64 0, .bool false, .int .i64 0, .int .i64 0, .int .i64 0, .int .i64 0, .slice none 0 0, .slice none 0 0, .slice none 0 0, .slice none 0 0, .slice none 0 0, .slice none 0 0, .slice none 0 0] := by
    have := CF.made ((w.alloc (.cells #[.int .i64 d.wk, .bool d.up, .int .i64 d.now, .int .i64 d.sn, .int .i64 d.ep, .int .i64 d.gv, .slice h.a1 d.L1.length h.c1, .slice h.a2 d.L2.length h.c2, .slice h.ar ts.length h.cr, .slice h.aj ts.length h.cj, .slice h.az d.S.length h.cs, .slice h.ao d.O.length h.co] 40)).alloc (.cells #[.slice pa ts.length pc] 48)) #[.int .i64 0, .bool false, .int .i64 0, .int .i64 0, .int .i64 0, .int .i64 0, .slice none 0 0, .slice none 0 0, .slice none 0 0, .slice none 0 0, .slice none 0 0, .slice none 0 0, .slice none 0 0] 43
    rw [World.size_alloc, World.size_alloc] at this
    rw [hW]; exact this
  have HW := hid hW
  clear hW
  go_enter Tryz.func25, Tryz.ntmps25
  go_upto_region 1 with fail
  rw [← HW.out]
  clear HW
  have b0 : W.cell? ⟨w.heap.size, 0, none⟩ = some (.int .i64 d.wk) := (c2 0 (by simp)).1
  have b1 : W.cell? ⟨w.heap.size, 1, none⟩ = some (.bool d.up) := (c2 1 (by simp)).1
  have b2 : W.cell? ⟨w.heap.size, 2, none⟩ = some (.int .i64 d.now) := (c2 2 (by simp)).1
  have b3 : W.cell? ⟨w.heap.size, 3, none⟩ = some (.int .i64 d.sn) := (c2 3 (by simp)).1
  have b4 : W.cell? ⟨w.heap.size, 4, none⟩ = some (.int .i64 d.ep) := (c2 4 (by simp)).1
  have b5 : W.cell? ⟨w.heap.size, 5, none⟩ = some (.int .i64 d.gv) := (c2 5 (by simp)).1
  have b6 : W.cell? ⟨w.heap.size, 6, none⟩ = some (.slice h.a1 d.L1.length h.c1) := (c2 6 (by simp)).1
  have b7 : W.cell? ⟨w.heap.size, 7, none⟩ = some (.slice h.a2 d.L2.length h.c2) := (c2 7 (by simp)).1
  have b8 : W.cell? ⟨w.heap.size, 8, none⟩ = some (.slice h.ar ts.length h.cr) := (c2 8 (by simp)).1
  have b9 : W.cell? ⟨w.heap.size, 9, none⟩ = some (.slice h.aj ts.length h.cj) := (c2 9 (by simp)).1
  have b10 : W.cell? ⟨w.heap.size, 10, none⟩ = some (.slice h.az d.S.length h.cs) := (c2 10 (by simp)).1
  have b11 : W.cell? ⟨w.heap.size, 11, none⟩ = some (.slice h.ao d.O.length h.co) := (c2 11 (by simp)).1
  go_upto_region 2 with fail
  obtain ⟨W5, hW5⟩ : ∃ V, V = W.alloc (.cells #[.int .i64 d.wk, .bool d.up, .int .i64 d.now, .int .i64 d.sn, .int .i64 d.ep, .int .i64 d.gv, .slice h.a1 d.L1.length h.c1, .slice h.a2 d.L2.length h.c2, .slice h.ar ts.length h.cr, .slice h.aj ts.length h.cj, .slice h.az d.S.length h.cs, .slice h.ao d.O.length h.co, .slice none 0 0] 43) := ⟨_, rfl⟩
  have hb5 : Below W.heap.size W W5 := by rw [hW5]; exact (Below.refl _ _).alloc (Nat.le_refl _) _
  have c5 : CF W5 (w.heap.size + 3) [.int .i64 d.wk, .bool d.up, .int .i64 d.now, .int .i64 d.sn, .int .i64 d.ep, .int .i64 d.gv, .slice h.a1 d.L1.length h.c1, .slice h.a2 d.L2.length h.c2, .slice h.ar ts.length h.cr, .slice h.aj ts.length h.cj, .slice h.az d.S.length h.cs, .slice h.ao d.O.length h.co, .slice none 0 0] := by rw [hW5, ← hzW]; exact CF.made W #[.int .i64 d.wk, .bool d.up, .int .i64 d.now, .int .i64 d.sn, .int .i64 d.ep, .int .i64 d.gv, .slice h.a1 d.L1.length h.c1, .slice h.a2 d.L2.length h.c2, .slice h.ar ts.length h.cr, .slice h.aj ts.length h.cj, .slice h.az d.S.length h.cs, .slice h.ao d.O.length h.co, .slice none 0 0] 43
  have hz5 : W5.heap.size = w.heap.size + 4 := by rw [hW5]; simp; omega
  have hS0 : HaS w0 w B d h ts pa pc (handN d.ep d.now d.R ts ⟨d.gv, d.J, d.S, []⟩ 0) (.slice none 0 0) [] W5 := by
    have hbb : Below w.heap.size w W5 := hbW.trans (hb5.mono (by omega))
    refine ⟨⟨(show BossO W5 B (d.at ⟨d.gv, d.J, d.S, []⟩) h from hO.below hbb), MsO.nil _ _, hb.trans (hbb.mono hBw), ?_, ⟨rfl, rfl⟩, fun r hr q hq => hO.lo r hr q hq, by omega, by omega, hBw⟩, c3'.block (hb5.block _ (by omega)), c4.block (hb5.block _ (by omega)), c5, hf.k2, hgv0.1, ⟨none, 0, rfl⟩⟩
    exact ⟨hbb.size, fun q hq _ => hbb.block q hq, hbb.os, hbb.tape, hbb.output⟩
  rw [← hW5]
  clear hW5 hb5 c5 hz5 c2 c3' c4 hzW hbW b0 b1 b2 b3 b4 b5 b6 b7 b8 b9 b10 b11
  go_wp2_with fail
  go_loopw [6] (fun x wr => ∃ (i : Nat) (v : Value) (vs : List Value), i ≤ ts.length ∧ x = .int .i64 i ∧ HaS w0 w B d h ts pa pc (handN d.ep d.now d.R ts ⟨d.gv, d.J, d.S, []⟩ i) v vs wr) (fun x _ => ts.length - (intOf x).toNat)
  case atStart => exact ⟨0, _, _, Nat.zero_le _, rfl, hS0⟩
  case round =>
    clear hS0
    obtain ⟨i, v, vs, hi, rfl, hs⟩ := hrel
    obtain ⟨st, hst⟩ : ∃ s, s = handN d.ep d.now d.R ts ⟨d.gv, d.J, d.S, []⟩ i := ⟨_, rfl⟩
    rw [← hst] at hs
    have HST := hid hst
    have HML := hid (show st.M.length ≤ 40 by rw [hst]; exact Nat.le_trans (handN_lenM _ _ _ _ _ _) (by show 0 + i ≤ 40; omega))
    clear hst
    obtain ⟨va, vc, rfl⟩ := hs.vm
    have z0 : wr.cell? ⟨w.heap.size + 1, 0, none⟩ = some (.slice pa ts.length pc) := (hs.P3 0 (by simp)).1
    by_cases hlt : i < ts.length
    case pos =>
      have hlt' : (i : Int) < (ts.length : Int) := by omega
      have y0 : wr.cell? ⟨w.heap.size + 3, 0, none⟩ = some (.int .i64 d.wk) := (hs.L5 0 (by simp)).1
      have y1 : wr.cell? ⟨w.heap.size + 3, 1, none⟩ = some (.bool d.up) := (hs.L5 1 (by simp)).1
      have y2 : wr.cell? ⟨w.heap.size + 3, 2, none⟩ = some (.int .i64 d.now) := (hs.L5 2 (by simp)).1
      have y3 : wr.cell? ⟨w.heap.size + 3, 3, none⟩ = some (.int .i64 d.sn) := (hs.L5 3 (by simp)).1
      have y4 : wr.cell? ⟨w.heap.size + 3, 4, none⟩ = some (.int .i64 d.ep) := (hs.L5 4 (by simp)).1
      have y5 : wr.cell? ⟨w.heap.size + 3, 5, none⟩ = some (.int .i64 st.gv) := (hs.L5 5 (by simp)).1
      have y6 : wr.cell? ⟨w.heap.size + 3, 6, none⟩ = some (.slice h.a1 d.L1.length h.c1) := (hs.L5 6 (by simp)).1
      have y7 : wr.cell? ⟨w.heap.size + 3, 7, none⟩ = some (.slice h.a2 d.L2.length h.c2) := (hs.L5 7 (by simp)).1
      have y8 : wr.cell? ⟨w.heap.size + 3, 8, none⟩ = some (.slice h.ar ts.length h.cr) := (hs.L5 8 (by simp)).1
      have y9 : wr.cell? ⟨w.heap.size + 3, 9, none⟩ = some (.slice h.aj ts.length h.cj) := (hs.L5 9 (by simp)).1
      have y10 : wr.cell? ⟨w.heap.size + 3, 10, none⟩ = some (.slice h.az d.S.length h.cs) := (hs.L5 10 (by simp)).1
      have y11 : wr.cell? ⟨w.heap.size + 3, 11, none⟩ = some (.slice h.ao d.O.length h.co) := (hs.L5 11 (by simp)).1
      obtain ⟨bs, os', hS2, _⟩ := hs.H.bo.o4.t2At hs.o2
      have hSl : st.S.length = d.S.length := hs.H.lj.2
      have hS3 : T2At wr h.az bs os' d.S.length st.S := by rw [← hSl]; exact hS2
      go_wp2_with fail
      refine (l5Seat_any d.wk d.up d.now d.sn d.ep st.gv h.a1 h.a2 h.ar h.aj h.az h.ao d.L1.length h.c1 d.L2.length h.c2 ts.length h.cr ts.length h.cj d.S.length h.cs d.O.length h.co bs os' st.S _ hS3).mono ?_
      rintro e w1 ⟨⟨r, rfl, hr⟩, hb1⟩
      have s1 := hs.below hb1
      clear hs hb1 hS2 hS3 z0 y0 y1 y2 y3 y4 y5 y6 y7 y8 y9 y10 y11
      have HSL := hid hSl
      clear hSl
      rcases hr with ⟨k, hk, rfl⟩ | ⟨hn, rfl⟩
      case inr =>
        have HNX := hid (show HaS w0 w B d h ts pa pc (handN d.ep d.now d.R ts ⟨d.gv, d.J, d.S, []⟩ (i + 1)) (.slice va st.M.length vc) vs w1 by
          show HaS w0 w B d h ts pa pc (handS d.ep d.now d.R ts (handN d.ep d.now d.R ts ⟨d.gv, d.J, d.S, []⟩ i) i) _ _ _
          rw [← HST.out, handS_none hn]; exact s1)
        clear s1 hn
        go_wp2_with fail
        go_roundw
        case rel => exact ⟨i + 1, _, _, by omega, by go_num, HNX.out⟩
        case measure => simp [intOf]; omega
      case inl =>
        have HK := hid hk
        have hkl : k < st.S.length := ffr_lt hk
        clear hk
        have hk0 : ¬ (k : Int) < 0 := by omega
        have hno : ∀ (hh : ¬ (st.gv < 1000000 ∧ dueOk ts d.R i ∧ (t3 st.J i).1 = 0)), HaS w0 w B d h ts pa pc (handN d.ep d.now d.R ts ⟨d.gv, d.J, d.S, []⟩ (i + 1)) (.slice va st.M.length vc) vs w1 := fun hh => by
          show HaS w0 w B d h ts pa pc (handS d.ep d.now d.R ts (handN d.ep d.now d.R ts ⟨d.gv, d.J, d.S, []⟩ i) i) _ _ _
          rw [← HST.out, handS_not hh]; exact s1
        have HNO := hid hno
        clear hno
        have z0 : w1.cell? ⟨w.heap.size + 1, 0, none⟩ = some (.slice pa ts.length pc) := (s1.P3 0 (by simp)).1
        have y2 : w1.cell? ⟨w.heap.size + 3, 2, none⟩ = some (.int .i64 d.now) := (s1.L5 2 (by simp)).1
        have y4 : w1.cell? ⟨w.heap.size + 3, 4, none⟩ = some (.int .i64 d.ep) := (s1.L5 4 (by simp)).1
        have y5 : w1.cell? ⟨w.heap.size + 3, 5, none⟩ = some (.int .i64 st.gv) := (s1.L5 5 (by simp)).1
        have y8 : w1.cell? ⟨w.heap.size + 3, 8, none⟩ = some (.slice h.ar ts.length h.cr) := (s1.L5 8 (by simp)).1
        have y9 : w1.cell? ⟨w.heap.size + 3, 9, none⟩ = some (.slice h.aj ts.length h.cj) := (s1.L5 9 (by simp)).1
        have y10 : w1.cell? ⟨w.heap.size + 3, 10, none⟩ = some (.slice h.az d.S.length h.cs) := (s1.L5 10 (by simp)).1
        by_cases hgv : st.gv < 1000000
        case neg =>
          have hgv' : st.gv ≥ 1000000 := by omega
          have HR := hid hgv
          clear s1 hgv
          go_wp2_with fail
          go_roundw
          case rel => exact ⟨i + 1, _, _, by omega, by go_num, HNO.out (fun hh => by have := HR.out; have := hh.1; omega)⟩
          case measure => simp [intOf]; omega
        have hgv' : ¬ st.gv ≥ 1000000 := by omega
        obtain ⟨br, or', hR1, hRb⟩ := s1.H.bo.o2.statB hf.s3
        have hR2 : StrsAt w1 h.ar br or' ts.length d.R := by rw [← hRl]; exact hR1
        have hRa := hR2.ad (by omega)
        have hrc := hR2.cell i hlt
        obtain ⟨s, hse⟩ : ∃ s, s = d.R.getD i ByteArray.empty := ⟨_, rfl⟩
        rw [← hse] at hrc
        have HS : Hid (rs d.R i = s) := by rw [hse]; rfl
        clear hse
        rw [hRa] at y8
        have HRA := hid hRa
        clear hRa
        by_cases h0 : s.size = 0
        case neg =>
          have h0' := empty_f h0
          have H0 := hid h0
          clear h0 s1 hgv
          go_wp2_with fail
          go_roundw
          case rel => exact ⟨i + 1, _, _, by omega, by go_num, HNO.out (fun hh => H0.out (by rw [← HS.out]; exact hh.2.1.1))⟩
          case measure => simp [intOf]; omega
        have h0' := empty_t h0
        have H0 := hid h0
        clear h0
        have hJl : st.J.length = ts.length := s1.H.lj.1.trans hJd
        have hiJ : i < st.J.length := by omega
        obtain ⟨bj, oj, cj, hje, hjth, hjset⟩ := s1.H.bo.o3.set3 hiJ
        obtain ⟨hje1, hje2⟩ : h.aj = some ⟨bj, oj, none⟩ ∧ h.cj = cj := by injection hje with e1 e2 e3; exact ⟨e1, e3⟩
        rw [hje1] at y9
        have HJE := hid (And.intro hje1 hje2)
        clear hje1 hje2
        have HJS := hid hjset
        have HJE' := hid hje
        clear hjset
        obtain ⟨lea, hlea⟩ : ∃ q, q = (t3 st.J i).1 := ⟨_, rfl⟩
        have hjc : w1.cell? ⟨bj, oj + i * 3, none⟩ = some (.int .i64 lea) := by
          rcases s1.H.bo.o3 with ⟨hx, _⟩ | ⟨g', o'', cap', hx, hc⟩
          · rw [hje] at hx; cases hx
          · rw [hje] at hx
            injection hx with e1 e2 e3
            injection e1 with e1
            injection e1 with e4 e5
            subst e4 e5
            rw [hc.holds (i * 3) (by show i * 3 < st.J.length * 3; omega), hlea]
            exact c3_get st.J i 0 hiJ (by omega)
        have HLEA := hid hlea
        clear hlea hje
        by_cases hl0 : lea = 0
        case neg =>
          have HL0 := hid hl0
          clear s1 hgv
          go_wp2_with fail
          go_roundw
          case rel => exact ⟨i + 1, _, _, by omega, by go_num, HNO.out (fun hh => HL0.out (by rw [HLEA.out]; exact hh.2.2))⟩
          case measure => simp [intOf]; omega
        subst hl0
        have F1 := hT.below' (hB ▸ s1.H.hb)
        go_wp2_with fail
        refine (l4Deps_any pa pb po ts.length pc ts _ br or' h.cr d.R i _ F1 (by rw [← HRA.out]; exact hR2) hlt hAD).mono ?_
        rintro e w2 ⟨⟨b2, rfl, hb2⟩, hbb2⟩
        have s2 := s1.below hbb2
        cases b2
        case false =>
          have HND := hid (show ¬ depsHave ts d.R i from fun hh => by have := hb2.2 hh; cases this)
          have HNX := hid (show HaS w0 w B d h ts pa pc (handN d.ep d.now d.R ts ⟨d.gv, d.J, d.S, []⟩ (i + 1)) (.slice va st.M.length vc) vs w2 by
            have h' := HNO.out (fun hh => HND.out hh.2.1.2)
            exact h'.below hbb2)
          clear s1 s2 hgv hb2 hbb2
          go_wp2_with fail
          go_roundw
          case rel => exact ⟨i + 1, _, _, by omega, by go_num, HNX.out⟩
          case measure => simp [intOf]; omega
        case true =>
          have HDUE := hid (show st.gv < 1000000 ∧ dueOk ts d.R i ∧ (t3 st.J i).1 = 0 from ⟨hgv, ⟨by rw [HS.out]; exact H0.out, hb2.1 rfl⟩, HLEA.out.symm⟩)
          clear s1 hb2 HNO hbb2
          have hz2 := s2.H.sz
          have hq2 := s2.H.qm
          have hg0 := s2.g0
          have hkS : k < d.S.length := by have := HSL.out; omega
          have hkS' : (k : Int) < (d.S.length : Int) := by omega
          clear z0 y2 y4 y5 y8 y9 y10 hrc hjc hjth HJS HJE HJE' h0' hR1 hR2 hRb
          have y2 : w2.cell? ⟨w.heap.size + 3, 2, none⟩ = some (.int .i64 d.now) := (s2.L5 2 (by simp)).1
          have y4 : w2.cell? ⟨w.heap.size + 3, 4, none⟩ = some (.int .i64 d.ep) := (s2.L5 4 (by simp)).1
          have y5 : w2.cell? ⟨w.heap.size + 3, 5, none⟩ = some (.int .i64 st.gv) := (s2.L5 5 (by simp)).1
          have f5 : w2.frozen? ⟨w.heap.size + 3, 5, none⟩ = false := (s2.L5 5 (by simp)).2
          go_upto_region 8 with fail
          obtain ⟨wA, hwA⟩ : ∃ V, V = w2.setCell ⟨w.heap.size + 3, 5, none⟩ (.int .i64 (st.gv + 1)) := ⟨_, rfl⟩
          have gA : w2.grownBy wA (some (w.heap.size + 3)) := by rw [hwA]; exact gset (World.grownBy.refl w2 _) 5 _
          have lA : CF wA (w.heap.size + 3) [.int .i64 d.wk, .bool d.up, .int .i64 d.now, .int .i64 d.sn, .int .i64 d.ep, .int .i64 (st.gv + 1), .slice h.a1 d.L1.length h.c1, .slice h.a2 d.L2.length h.c2, .slice h.ar ts.length h.cr, .slice h.aj ts.length h.cj, .slice h.az d.S.length h.cs, .slice h.ao d.O.length h.co, .slice va st.M.length vc] := by rw [hwA]; exact s2.L5.set (j := 5) (by simp) _
          have HA := s2.H.farLo gA (by omega) (by omega)
          have hzA := gA.size
          have pA := s2.P3.block (gA.block _ (by omega) (by simp))
          have aA := s2.A4.block (gA.block _ (by omega) (by simp))
          rw [← hwA]
          clear hwA y2 y4 y5 f5
          have hoS2 := s2.o2
          obtain ⟨bJ, oJ, cJ, hje, hth, hset⟩ := HA.bo.o3.set3 (i := i) hiJ
          obtain ⟨hje1, hje2⟩ : h.aj = some ⟨bJ, oJ, none⟩ ∧ h.cj = cJ := by injection hje with e1 e2 e3; exact ⟨e1, e3⟩
          have hrj : rowJ d h = some bJ := by unfold rowJ; rw [hje1]; rfl
          have hbJ := HA.lo _ (rowJ_mem d h) bJ hrj
          have y2 : wA.cell? ⟨w.heap.size + 3, 2, none⟩ = some (.int .i64 d.now) := (lA 2 (by simp)).1
          have y4 : wA.cell? ⟨w.heap.size + 3, 4, none⟩ = some (.int .i64 d.ep) := (lA 4 (by simp)).1
          have y5 : wA.cell? ⟨w.heap.size + 3, 5, none⟩ = some (.int .i64 (st.gv + 1)) := (lA 5 (by simp)).1
          have y9 : wA.cell? ⟨w.heap.size + 3, 9, none⟩ = some (.slice (some ⟨bJ, oJ, none⟩) ts.length h.cj) := by rw [← hje1]; exact (lA 9 (by simp)).1
          have HJE := hid hje1
          clear hje hje1 hje2 s2 gA
          go_upto_region 10 with (refine wpList_store_j3 rfl (.tmp 86) (.tmp 85) rfl bJ (oJ + i * 3) ((d.ep - 1) * 1000000 + (st.gv + 1)) ((k : Int) + 1) (d.now + 12) rfl rfl hth ?_)
          obtain ⟨wB, hwB⟩ : ∃ V, V = wA.setCells bJ (oJ + i * 3) [.int .i64 ((d.ep - 1) * 1000000 + (st.gv + 1)), .int .i64 ((k : Int) + 1), .int .i64 (d.now + 12)] := ⟨_, rfl⟩
          have gB : wA.grownBy wB (some bJ) := by rw [hwB]; exact grown_setCells _ _ _ _ _ (World.grownBy.refl _ _)
          have hJB : Own B wB 3 (.slice h.aj d.J.length h.cj) d.J.length (c3 (st.J.set i ((((d.ep - 1) * 1000000 + (st.gv + 1)), (k : Int) + 1, d.now + 12) : Tr))) := by
            have := hset ((((d.ep - 1) * 1000000 + (st.gv + 1)), (k : Int) + 1, d.now + 12) : Tr)
            rw [hwB]
            have e : (d.at st).J.length = d.J.length := HA.lj.1
            rw [e] at this
            exact this
          have HB := HA.setJ (gv := st.gv + 1) (J := st.J.set i ((((d.ep - 1) * 1000000 + (st.gv + 1)), (k : Int) + 1, d.now + 12) : Tr)) (by rw [List.length_set]; exact HA.lj.1) (hrj ▸ gB) hJB
          have lB := lA.block (gB.block _ (by omega) (by simp; omega))
          have pB := pA.block (gB.block _ (by omega) (by simp; omega))
          have aB := aA.block (gB.block _ (by omega) (by simp; omega))
          have hzB := gB.size
          rw [← hwB]
          clear hwB gB hJB hset hth y2 y4 y5 y9 HA lA pA aA hrj
          obtain ⟨bz, oz, cz, hze, hzc, hzf, hzset⟩ := HB.bo.o4.set2 (k := k) hkl
          obtain ⟨hze1, hze2⟩ : h.az = some ⟨bz, oz, none⟩ ∧ h.cs = cz := by injection hze with e1 e2 e3; exact ⟨e1, e3⟩
          have hrz : rowS d h = some bz := by unfold rowS; rw [hze1]; rfl
          have hbz := HB.lo _ (rowS_mem d h) bz hrz
          have y10 : wB.cell? ⟨w.heap.size + 3, 10, none⟩ = some (.slice (some ⟨bz, oz, none⟩) d.S.length h.cs) := by rw [← hze1]; exact (lB 10 (by simp)).1
          clear hze hze1 hze2
          go_upto_region 11 with fail
          obtain ⟨wC, hwC⟩ : ∃ V, V = wB.setCell ⟨bz, oz + k * 2, none⟩ (.bool false) := ⟨_, rfl⟩
          have gC : wB.grownBy wC (some bz) := by rw [hwC]; exact gset (World.grownBy.refl wB _) _ _
          have hSC : Own B wC 2 (.slice h.az d.S.length h.cs) d.S.length (c2 (st.S.set k (false, (t2 st.S k).2))) := by
            have := hzset false
            rw [hwC]
            have e : (d.at ⟨st.gv + 1, st.J.set i ((((d.ep - 1) * 1000000 + (st.gv + 1)), (k : Int) + 1, d.now + 12) : Tr), st.S, st.M⟩).S.length = d.S.length := HB.lj.2
            rw [e] at this
            exact this
          have HC := HB.setS (S := st.S.set k (false, (t2 st.S k).2)) (by rw [List.length_set]; exact HB.lj.2) (hrz ▸ gC) hSC
          have lC := lB.block (gC.block _ (by omega) (by simp; omega))
          have pC := pB.block (gC.block _ (by omega) (by simp; omega))
          have aC := aB.block (gC.block _ (by omega) (by simp; omega))
          have hzC := gC.size
          rw [← hwC]
          clear hwC gC hSC hzset hzc hzf y10 HB lB pB aB hrz
          have y4 : wC.cell? ⟨w.heap.size + 3, 4, none⟩ = some (.int .i64 d.ep) := (lC 4 (by simp)).1
          go_upto_region 12 with fail
          clear y4
          obtain ⟨wD, hwD⟩ : ∃ V, V = wC.alloc (.cells #[.int .i64 1, .int .i64 0, .int .i64 ((k : Int) + 1), .int .i64 d.ep, .int .i64 ((d.ep - 1) * 1000000 + (st.gv + 1)), .int .i64 i, .string ⟨#[]⟩, .slice none 0 0] 71) := ⟨_, rfl⟩
          obtain ⟨Q9, hQ9⟩ : ∃ q, q = wC.heap.size := ⟨_, rfl⟩
          have hbD : Below wC.heap.size wC wD := by rw [hwD]; exact (Below.refl _ _).alloc (Nat.le_refl _) _
          have sD : HiS w0 w B d h ts pa pc ⟨st.gv + 1, st.J.set i ((((d.ep - 1) * 1000000 + (st.gv + 1)), (k : Int) + 1, d.now + 12) : Tr), st.S.set k (false, (t2 st.S k).2), st.M⟩ (.slice va st.M.length vc) vs Q9 ((k : Int) + 1) ((d.ep - 1) * 1000000 + (st.gv + 1)) i none 0 [] wD := by
            have hsm := HC.ms.row.row_hi
            have hsv := fun j hj => (HC.ms.dep j hj).row_hi
            refine ⟨⟨HC.below hbD, pC.block (hbD.block _ (by omega)), aC.block (hbD.block _ (by omega)), lC.block (hbD.block _ (by omega)), hoS2.set hkl false, by show 0 ≤ st.gv + 1; omega, ⟨va, vc, rfl⟩⟩, ?_, Own.nil _ _ _, ⟨by omega, by rw [hwD, hQ9]; simp⟩, fun q hq => by rw [hQ9]; exact hsm q hq, fun j hj q hq => by rw [hQ9]; exact hsv j hj q hq⟩
            rw [hwD, hQ9]
            exact CF.made wC #[.int .i64 1, .int .i64 0, .int .i64 ((k : Int) + 1), .int .i64 d.ep, .int .i64 ((d.ep - 1) * 1000000 + (st.gv + 1)), .int .i64 i, .string ⟨#[]⟩, .slice none 0 0] 71
          rw [← hwD, ← hQ9]
          clear hwD hQ9 hbD HC lC pC aC
          obtain ⟨t, ta', tb', to', n', tc', ht, hx0, hx1, hx2, hti, htn, htc⟩ := hT.get hlt
          have hpa := hT.ad (by omega)
          subst hpa
          have HT := hid ht
          clear ht hx0 hx1
          have hdl : t.deps.length = n' := hti.len
          have hn8 : n' ≤ 8 := by have := (hAD i hlt).1; rw [← HT.out] at this; omega
          have HDL := hid hdl
          clear hdl hoS2
          go_wp2_with fail
          go_loopw [10] (fun x wq => ∃ (j : Nat) (ma : Option Addr) (mc : Nat) (ins : List ByteArray), j ≤ n' ∧ x = .int .i64 j ∧ ins = (insOf d.R t.deps).take j ∧ HiS w0 w B d h ts (some ⟨pb, po, none⟩) pc ⟨st.gv + 1, st.J.set i ((((d.ep - 1) * 1000000 + (st.gv + 1)), (k : Int) + 1, d.now + 12) : Tr), st.S.set k (false, (t2 st.S k).2), st.M⟩ (.slice va st.M.length vc) vs Q9 ((k : Int) + 1) ((d.ep - 1) * 1000000 + (st.gv + 1)) i ma mc ins wq) (fun x _ => n' - (intOf x).toNat)
          case atStart => exact ⟨0, none, 0, [], Nat.zero_le _, rfl, rfl, sD⟩
          case round =>
            clear sD
            obtain ⟨j, ma, mc, ins, hj, rfl, hin, hI⟩ := hrel
            have hil : ins.length = j := by rw [hin, List.length_take]; unfold insOf; rw [List.length_map, HDL.out]; omega
            have HIN := hid hin
            have HIL := hid hil
            clear hin hil
            have hBx : Below w0.heap.size w0 wr := hB ▸ hI.S.H.hb
            have z0 : wr.cell? ⟨w.heap.size + 1, 0, none⟩ = some (.slice (some ⟨pb, po, none⟩) ts.length pc) := (hI.S.P3 0 (by simp)).1
            have x2 : wr.cell? ⟨pb, po + i * 3 + 2, none⟩ = some (.slice ta' n' tc') := keepB hBx hx2
            by_cases hjn : j < n'
            case pos =>
              have hjn' : (j : Int) < (n' : Int) := by omega
              go_upto_region 15 with fail
              have hta := hti.ad (by omega)
              subst hta
              obtain ⟨q, hq, hqn⟩ := dep_rng hAD hlt (j := j) (by rw [← HT.out, HDL.out]; exact hjn)
              rw [← HT.out] at hq
              have hck : w0.cell? ⟨tb', to' + j, none⟩ = some (.int .i64 (q : Int)) := by rw [← hq]; exact hti.cell j hjn
              obtain ⟨br, or', hR1, _⟩ := hI.S.H.bo.o2.statB hf.s3
              have hRa : h.ar = some ⟨br, or', none⟩ := hR1.ad (by show 0 < d.R.length; omega)
              obtain ⟨s5, hs5⟩ : ∃ s, s = rs d.R q := ⟨_, rfl⟩
              have HNEW := hid (show ins ++ [s5] = (insOf d.R t.deps).take (j + 1) by rw [insOf_take (by rw [HDL.out]; exact hjn) hq, ← HIN.out, hs5])
              have HS5 := hid hs5
              have HRA := hid hRa
              clear hs5 hRa hR1 hq
              refine wp_region_held (S := fun w' => HaS w0 w B d h ts (some ⟨pb, po, none⟩) pc ⟨st.gv + 1, st.J.set i ((((d.ep - 1) * 1000000 + (st.gv + 1)), (k : Int) + 1, d.now + 12) : Tr), st.S.set k (false, (t2 st.S k).2), st.M⟩ (.slice va st.M.length vc) vs w') (by kernel_rfl) ?_
              change wpAnyH _ _ _ _ _ _ _ _ (World.drew _)
              have hI0 := hI.drew
              obtain ⟨x0, hx0⟩ : ∃ U, U = wr.drew := ⟨_, rfl⟩
              rw [← hx0] at hI0
              rw [← hx0]
              clear hx0 hI z0 x2 hBx
              have hS0 := hI0.S
              refine hTk (i := 0) (d := some 112) (v := .pointer (some ⟨Q9, 7, none⟩)) (l' := (bt 20 1)) rfl (fun _ hc => run_faM7 (.tmp 9) (by kernel_rfl) (by kernel_rfl)) hS0 ?_
              refine hTk (i := 2) (d := some 114) (v := .pointer (some ⟨w.heap.size + 3, 0, none⟩)) (l' := (bt 20 5)) rfl (fun _ hc => run_faLd0 (.tmp 5) (by kernel_rfl) (by kernel_rfl)) hS0 ?_
              refine hTk (i := 3) (d := some 115) (v := .pointer (some ⟨w.heap.size + 3, 8, none⟩)) (l' := (bt 20 13)) rfl (fun _ hc => run_faB7 (.tmp 114) (by kernel_rfl) (by kernel_rfl)) hS0 ?_
              refine hTk (i := 4) (d := some 116) (v := .slice (some ⟨br, or', none⟩) ts.length h.cr) (l' := (bt 20 29)) rfl (fun _ hc => run_ldLsB (.tmp 115) (by kernel_rfl) (by kernel_rfl) (by rw [← HRA.out]; exact (hc.L5 8 (by simp)).1)) hS0 ?_
              refine hTk (i := 5) (d := some 117) (v := .pointer (some ⟨w.heap.size + 1, 0, none⟩)) (l' := (bt 20 61)) rfl (fun _ hc => run_faP0 (.tmp 3) (by kernel_rfl) (by kernel_rfl)) hS0 ?_
              refine hTk (i := 6) (d := some 118) (v := .slice (some ⟨pb, po, none⟩) ts.length pc) (l' := (bt 20 125)) rfl (fun _ hc => run_ldTsB (.tmp 117) (by kernel_rfl) (by kernel_rfl) (hc.P3 0 (by simp)).1) hS0 ?_
              refine hTk (i := 7) (d := some 119) (v := .int .i64 (i : Nat)) (l' := (bt 20 253)) rfl (fun _ hc => run_mvF (.tmp 6) (by kernel_rfl) (by kernel_rfl)) hS0 ?_
              refine hTk (i := 8) (d := some 120) (v := .pointer (some ⟨pb, po + i * 3, none⟩)) (l' := (bt 20 509)) rfl (fun _ hc => run_ixK (.tmp 118) (.tmp 119) pb po ts.length pc i (by kernel_rfl) (by kernel_rfl) (by kernel_rfl) hlt) hS0 ?_
              refine hTk (i := 9) (d := some 121) (v := .pointer (some ⟨pb, po + i * 3 + 2, none⟩)) (l' := (bt 20 1021)) rfl (fun _ hc => run_faK2 (.tmp 120) (by kernel_rfl) (by kernel_rfl)) hS0 ?_
              refine hTk (i := 10) (d := some 122) (v := .slice (some ⟨tb', to', none⟩) n' tc') (l' := (bt 20 2045)) rfl (fun _ hc => run_ldIsB (.tmp 121) (by kernel_rfl) (by kernel_rfl) (keepB (hB ▸ hc.H.hb) hx2)) hS0 ?_
              refine hTk (i := 11) (d := some 123) (v := .int .i64 (j : Nat)) (l' := (bt 20 4093)) rfl (fun _ hc => run_mvF (.tmp 10) (by kernel_rfl) (by kernel_rfl)) hS0 ?_
              refine hTk (i := 12) (d := some 124) (v := .pointer (some ⟨tb', to' + j, none⟩)) (l' := (bt 20 8189)) rfl (fun _ hc => run_ixIo (.tmp 122) (.tmp 123) tb' to' n' tc' j (by kernel_rfl) (by kernel_rfl) (by kernel_rfl) hjn) hS0 ?_
              refine hTk (i := 13) (d := some 125) (v := .int .i64 (q : Nat)) (l' := (bt 20 16381)) rfl (fun _ hc => run_ldInB (.tmp 124) (by kernel_rfl) (by kernel_rfl) (keepB (hB ▸ hc.H.hb) hck)) hS0 ?_
              refine hTk (i := 14) (d := some 126) (v := .pointer (some ⟨br, or' + q, none⟩)) (l' := (bt 20 32765)) rfl (fun _ hc => run_ixSo (.tmp 116) (.tmp 125) br or' ts.length h.cr q (by kernel_rfl) (by kernel_rfl) (by kernel_rfl) hqn) hS0 ?_
              refine hTk (i := 15) (d := some 127) (v := .string s5) (l' := (bt 20 65533)) rfl (fun _ hc => run_ldStB (.tmp 126) (by kernel_rfl) (by kernel_rfl) (by rw [HS5.out]; exact hc.rc HRA.out (by rw [hRl]; exact hqn))) hS0 ?_
              have hq9 := hI0.q9
              have hown1 : Own (Q9 + 1) (x0.alloc (.cells #[.string s5] 9)) 1 (.slice (some ⟨x0.heap.size, 0, none⟩) 1 1) 1 [.string s5] :=
                .inr ⟨_, 0, 1, rfl, OwnC.made x0 (Q9 + 1) 9 1 1 1 _ 1 (by omega) (Nat.le_refl _) (by unfold maxLen; omega) rfl (Nat.le_refl _) _ rfl _ (.inl rfl)⟩
              have hsrc : Src Tryz.prog 1 22 _ 1 _ (x0.alloc (.cells #[.string s5] 9)) := hown1.src Tryz.underlying22 (by simp; rfl)
              have hbA : Below x0.heap.size x0 (x0.alloc (.cells #[.string s5] 9)) := (Below.refl _ _).alloc (Nat.le_refl _) _
              have hSA := hS0.below hbA
              obtain ⟨v9, w9, hrun, ho9, hg9, _⟩ := run_append_c (P := Tryz.prog) (x0.alloc (.cells #[.string s5] 9)) (Q9 + 1) 22 22 22 9 i0 (.string ⟨#[]⟩) 1 16 Tryz.underlying22 hi0 hz00 hz01 hz02 rfl _ ins.length _ (hI0.I9.below hbA (Nat.le_refl _)) _ 1 _ hsrc (by have := HIL.out; unfold maxLen; omega) (by have := HIL.out; omega) (by simp; omega)
              obtain ⟨a9, c9, rfl⟩ := ho9.slc
              have hIF := hI0.app ho9 hg9
              have hS9 := hI0.app9 hg9
              have m7 : x0.cell? ⟨Q9, 7, none⟩ = some (.slice ma ins.length mc) := (hI0.M9 7 (by simp)).1
              refine hTwo (i := 1) (j := 16) (by kernel_rfl) (hVal (i := 1) (d := some 113) (v := .slice ma ins.length mc) (w' := x0) (l' := (bt 20 65535)) rfl (by kernel_rfl) (by kernel_rfl) (by kernel_rfl) (run_ldLsB (.tmp 112) (by kernel_rfl) (by kernel_rfl) m7) hS0 ?_) (hVal (i := 16) (d := some 128) (v := .slice (some ⟨x0.heap.size, 0, none⟩) 1 1) (w' := x0.alloc (.cells #[.string s5] 9)) (l' := (bt 20 131069)) rfl (by kernel_rfl) (by kernel_rfl) (by kernel_rfl) (run_bsLB (.tmp 127) s5 (by kernel_rfl) (by kernel_rfl)) hSA ?_)
              · refine hOne (i := 16) (by kernel_rfl) (hVal (i := 16) (d := some 128) (v := .slice (some ⟨x0.heap.size, 0, none⟩) 1 1) (w' := x0.alloc (.cells #[.string s5] 9)) (l' := (bt 20 131071)) rfl (by kernel_rfl) (by kernel_rfl) (by kernel_rfl) (run_bsLB (.tmp 127) s5 (by kernel_rfl) (by kernel_rfl)) hSA ?_)
                refine hOne (i := 17) (by kernel_rfl) (hVal (i := 17) (d := some 129) (v := .slice a9 (ins.length + 1) c9) (w' := w9) (l' := (bt 20 262143)) rfl (by kernel_rfl) (by kernel_rfl) (by kernel_rfl) (run_appB (.tmp 113) (.tmp 128) 22 22 22 (by kernel_rfl) (by kernel_rfl) (by kernel_rfl) (by kernel_rfl) hrun) hS9.1 ?_)
                refine hTk (i := 18) (d := some 130) (v := .pointer (some ⟨Q9, 7, none⟩)) (l' := (bt 20 524287)) rfl (fun _ hc => run_faM7 (.tmp 9) (by kernel_rfl) (by kernel_rfl)) hS9.1 ?_
                refine hOne (i := 19) (by kernel_rfl) (hSkip (i := 19) (w' := w9.setCell ⟨Q9, 7, none⟩ (.slice a9 (ins.length + 1) c9)) (l' := (bt 20 1048575)) rfl (by kernel_rfl) (by kernel_rfl) (by kernel_rfl) (run_stLsB (.tmp 130) (.tmp 129) a9 (ins.length + 1) c9 (by kernel_rfl) (by kernel_rfl) (by kernel_rfl) (hS9.2 7 (by simp)).1 (hS9.2 7 (by simp)).2) hIF.S ?_)
                refine wpAnyH_done (by kernel_rfl) ?_ _
                obtain ⟨wF, hwF⟩ : ∃ V, V = w9.setCell ⟨Q9, 7, none⟩ (.slice a9 (ins.length + 1) c9) := ⟨_, rfl⟩
                rw [← hwF] at hIF
                rw [← hwF]
                have HIF := hid hIF
                clear hwF hIF hS9 hSA hS0 hI0 ho9 hg9 hrun hsrc hown1 hbA
                go_simp
                go_wp2_with fail
                go_roundw
                case rel => exact ⟨j + 1, a9, c9, ins ++ [s5], by omega, by go_num, HNEW.out, HIF.out⟩
                case measure => simp [intOf]; omega
              · refine hOne (i := 1) (by kernel_rfl) (hVal (i := 1) (d := some 113) (v := .slice ma ins.length mc) (w' := (x0.alloc (.cells #[.string s5] 9))) (l' := (bt 20 131071)) rfl (by kernel_rfl) (by kernel_rfl) (by kernel_rfl) (run_ldLsB (.tmp 112) (by kernel_rfl) (by kernel_rfl) (keepB hbA m7)) hSA ?_)
                refine hOne (i := 17) (by kernel_rfl) (hVal (i := 17) (d := some 129) (v := .slice a9 (ins.length + 1) c9) (w' := w9) (l' := (bt 20 262143)) rfl (by kernel_rfl) (by kernel_rfl) (by kernel_rfl) (run_appB (.tmp 113) (.tmp 128) 22 22 22 (by kernel_rfl) (by kernel_rfl) (by kernel_rfl) (by kernel_rfl) hrun) hS9.1 ?_)
                refine hTk (i := 18) (d := some 130) (v := .pointer (some ⟨Q9, 7, none⟩)) (l' := (bt 20 524287)) rfl (fun _ hc => run_faM7 (.tmp 9) (by kernel_rfl) (by kernel_rfl)) hS9.1 ?_
                refine hOne (i := 19) (by kernel_rfl) (hSkip (i := 19) (w' := w9.setCell ⟨Q9, 7, none⟩ (.slice a9 (ins.length + 1) c9)) (l' := (bt 20 1048575)) rfl (by kernel_rfl) (by kernel_rfl) (by kernel_rfl) (run_stLsB (.tmp 130) (.tmp 129) a9 (ins.length + 1) c9 (by kernel_rfl) (by kernel_rfl) (by kernel_rfl) (hS9.2 7 (by simp)).1 (hS9.2 7 (by simp)).2) hIF.S ?_)
                refine wpAnyH_done (by kernel_rfl) ?_ _
                obtain ⟨wF, hwF⟩ : ∃ V, V = w9.setCell ⟨Q9, 7, none⟩ (.slice a9 (ins.length + 1) c9) := ⟨_, rfl⟩
                rw [← hwF] at hIF
                rw [← hwF]
                have HIF := hid hIF
                clear hwF hIF hS9 hSA hS0 hI0 ho9 hg9 hrun hsrc hown1 hbA
                go_simp
                go_wp2_with fail
                go_roundw
                case rel => exact ⟨j + 1, a9, c9, ins ++ [s5], by omega, by go_num, HNEW.out, HIF.out⟩
                case measure => simp [intOf]; omega
            case neg =>
              obtain rfl : j = n' := by omega
              have hjn' : ¬ (j : Int) < (j : Int) := by omega
              have n0 : wr.cell? ⟨Q9, 0, none⟩ = some (.int .i64 1) := (hI.M9 0 (by simp)).1
              have n1 : wr.cell? ⟨Q9, 1, none⟩ = some (.int .i64 0) := (hI.M9 1 (by simp)).1
              have n2 : wr.cell? ⟨Q9, 2, none⟩ = some (.int .i64 ((k : Int) + 1)) := (hI.M9 2 (by simp)).1
              have n3 : wr.cell? ⟨Q9, 3, none⟩ = some (.int .i64 d.ep) := (hI.M9 3 (by simp)).1
              have n4 : wr.cell? ⟨Q9, 4, none⟩ = some (.int .i64 ((d.ep - 1) * 1000000 + (st.gv + 1))) := (hI.M9 4 (by simp)).1
              have n5 : wr.cell? ⟨Q9, 5, none⟩ = some (.int .i64 i) := (hI.M9 5 (by simp)).1
              have n6 : wr.cell? ⟨Q9, 6, none⟩ = some (.string ⟨#[]⟩) := (hI.M9 6 (by simp)).1
              have n7 : wr.cell? ⟨Q9, 7, none⟩ = some (.slice ma ins.length mc) := (hI.M9 7 (by simp)).1
              have y12 : wr.cell? ⟨w.heap.size + 3, 12, none⟩ = some (.slice va st.M.length vc) := (hI.S.L5 12 (by simp)).1
              have hq9 := hI.q9
              have hsz := hI.S.H.sz
              have hbA : Below wr.heap.size wr (wr.alloc (.cells #[.int .i64 1, .int .i64 0, .int .i64 ((k : Int) + 1), .int .i64 d.ep, .int .i64 ((d.ep - 1) * 1000000 + (st.gv + 1)), .int .i64 i, .string ⟨#[]⟩, .slice ma ins.length mc] 71)) := (Below.refl _ _).alloc (Nat.le_refl _) _
              have own1 : Own (w.heap.size + 4) (wr.alloc (.cells #[.int .i64 1, .int .i64 0, .int .i64 ((k : Int) + 1), .int .i64 d.ep, .int .i64 ((d.ep - 1) * 1000000 + (st.gv + 1)), .int .i64 i, .string ⟨#[]⟩, .slice ma ins.length mc] 71)) 8 (.slice (some ⟨wr.heap.size, 0, none⟩) 1 1) 1 [.int .i64 1, .int .i64 0, .int .i64 ((k : Int) + 1), .int .i64 d.ep, .int .i64 ((d.ep - 1) * 1000000 + (st.gv + 1)), .int .i64 i, .string ⟨#[]⟩, .slice ma ins.length mc] :=
                .inr ⟨_, 0, 1, rfl, OwnC.made wr (w.heap.size + 4) 71 8 1 1 _ 8 (by omega) (Nat.le_refl _) (by unfold maxLen; omega) rfl (Nat.le_refl _) _ rfl _ (.inl rfl)⟩
              have src1 : Src Tryz.prog 8 41 _ 1 _ (wr.alloc (.cells #[.int .i64 1, .int .i64 0, .int .i64 ((k : Int) + 1), .int .i64 d.ep, .int .i64 ((d.ep - 1) * 1000000 + (st.gv + 1)), .int .i64 i, .string ⟨#[]⟩, .slice ma ins.length mc] 71)) := own1.src Tryz.underlying41 (one8 _ _ _ _ _ _ _ _ _ _)
              have rowA := hI.S.H.ms.row.below hbA (Nat.le_refl _)
              have hml : st.M.length ≤ 40 := HML.out
              have L5A := hI.S.L5.block (hbA.block _ (by omega))
              have hvlo : ∀ q, (Value.slice va st.M.length vc).ownBlock = some q → w.heap.size + 4 ≤ q := hI.S.H.ms.row.row_lo
              have HIH := hid hI
              obtain ⟨wA, hwA⟩ : ∃ V, V = wr.alloc (.cells #[.int .i64 1, .int .i64 0, .int .i64 ((k : Int) + 1), .int .i64 d.ep, .int .i64 ((d.ep - 1) * 1000000 + (st.gv + 1)), .int .i64 i, .string ⟨#[]⟩, .slice ma ins.length mc] 71) := ⟨_, rfl⟩
              rw [← hwA] at hbA own1 src1 rowA L5A
              have hzA : wA.heap.size = wr.heap.size + 1 := by rw [hwA]; simp
              have HWA := hid hwA
              clear hwA hI own1
              go_wp2_with (at_builtin; rw [← HWA.out]; refine wpList_append_c _ rfl _ _ 41 41 rfl (w.heap.size + 4) 71 iM (.agg #[.int .i64 0, .int .i64 0, .int .i64 0, .int .i64 0, .int .i64 0, .int .i64 0, .string ⟨#[]⟩, .slice none 0 0]) 8 88 Tryz.underlying41 hiM hM0 hM1 hM2 rfl _ st.M.length _ rfl rowA _ 1 _ rfl src1 (by unfold maxLen; omega) (by omega) (by omega) ?_; intro v' w9 ho9 hg9 hbk9; obtain ⟨a9, c9, rfl⟩ := ho9.slc; have L9 := L5A.block (hg9.block _ (by omega) (fun e => by have := hvlo _ e.symm; omega)); have f12 : w9.frozen? ⟨w.heap.size + 3, 12, none⟩ = false := (L9 12 (by simp)).2; have l12 : w9.cell? ⟨w.heap.size + 3, 12, none⟩ = some (.slice va st.M.length vc) := (L9 12 (by simp)).1)
              have HNXT := hid (show HaS w0 w B d h ts (some ⟨pb, po, none⟩) pc (handN d.ep d.now d.R ts ⟨d.gv, d.J, d.S, []⟩ (i + 1)) (.slice a9 (st.M.length + 1) c9) (vs ++ [.slice ma ins.length mc]) (w9.setCell ⟨w.heap.size + 3, 12, none⟩ (.slice a9 (st.M.length + 1) c9)) by
                have hI := HIH.out
                have hw := HWA.out
                subst hw
                have hu : Own (w.heap.size + 4) wr 1 (.slice ma ins.length mc) ins.length (ins.map Value.string) := hI.I9.mono' (by omega)
                have hud : Dn (Value.slice ma ins.length mc).ownBlock (Value.slice va st.M.length vc).ownBlock := Dn.symm (Dn.later (m := Q9) hI.v1 (fun q e => by have := hI.I9.row_lo q e; omega))
                have hdu : ∀ j, j < st.M.length → Dn (vs.getD j nilV).ownBlock (Value.slice ma ins.length mc).ownBlock := fun j hj => Dn.later (m := Q9) (hI.v2 j hj) (fun q e => by have := hI.I9.row_lo q e; omega)
                have hH := hI.S.H.snoc (t := ⟨1, 0, (k : Int) + 1, d.ep, ((d.ep - 1) * 1000000 + (st.gv + 1)), i, ⟨#[]⟩, ins⟩) hu hud hdu ho9 hg9 hbk9
                have gs := gset (World.grownBy.refl w9 (some (w.heap.size + 3))) 12 (.slice a9 (st.M.length + 1) c9)
                have hH2 := hH.farLo gs (by omega) (by omega)
                have cb : ∀ {p : Nat} {cs : List Value}, CF wr p cs → p < w.heap.size + 3 → CF (w9.setCell ⟨w.heap.size + 3, 12, none⟩ (.slice a9 (st.M.length + 1) c9)) p cs := fun hc hp => ((hc.block (hbA.block _ (by omega))).block (hg9.block _ (by omega) (fun e => by have := hvlo _ e.symm; omega))).block (gs.block _ (by have := hg9.size; omega) (fun e => by injection e with e; omega))
                have hst : handN d.ep d.now d.R ts ⟨d.gv, d.J, d.S, []⟩ (i + 1) = ⟨st.gv + 1, st.J.set i ((((d.ep - 1) * 1000000 + (st.gv + 1)), (k : Int) + 1, d.now + 12) : Tr), st.S.set k (false, (t2 st.S k).2), st.M ++ [(⟨1, 0, (k : Int) + 1, d.ep, ((d.ep - 1) * 1000000 + (st.gv + 1)), i, ⟨#[]⟩, ins⟩ : MgD)]⟩ := by
                  show handS d.ep d.now d.R ts (handN d.ep d.now d.R ts ⟨d.gv, d.J, d.S, []⟩ i) i = _
                  rw [← HST.out, handS_yes HK.out HDUE.out]
                  have e : ins = insOf d.R (ts.getD i dT).deps := by
                    rw [HIN.out, HT.out]
                    refine List.take_of_length_le ?_
                    unfold insOf
                    rw [List.length_map, ← HT.out, HDL.out]
                    exact Nat.le_refl _
                  rw [e]
                  rfl
                rw [hst]
                exact ⟨hH2, cb hI.S.P3 (by omega), cb hI.S.A4 (by omega), L9.set (j := 12) (by simp) _, hI.S.o2, hI.S.g0, ⟨a9, c9, by rw [List.length_append, List.length_singleton]⟩⟩)
              clear L9 f12 l12 ho9 hg9 hbk9 L5A rowA src1 hbA HIH y12 n0 n1 n2 n3 n4 n5 n6 n7
              go_wp2_with fail
              go_roundw
              case rel => exact ⟨i + 1, _, _, by omega, by go_num, HNXT.out⟩
              case measure => simp [intOf]; omega
    case neg =>
      obtain rfl : i = ts.length := by omega
      have hlt' : ¬ (ts.length : Int) < (ts.length : Int) := by omega
      have y0 : wr.cell? ⟨w.heap.size + 3, 0, none⟩ = some (.int .i64 d.wk) := (hs.L5 0 (by simp)).1
      have y1 : wr.cell? ⟨w.heap.size + 3, 1, none⟩ = some (.bool d.up) := (hs.L5 1 (by simp)).1
      have y2 : wr.cell? ⟨w.heap.size + 3, 2, none⟩ = some (.int .i64 d.now) := (hs.L5 2 (by simp)).1
      have y3 : wr.cell? ⟨w.heap.size + 3, 3, none⟩ = some (.int .i64 d.sn) := (hs.L5 3 (by simp)).1
      have y4 : wr.cell? ⟨w.heap.size + 3, 4, none⟩ = some (.int .i64 d.ep) := (hs.L5 4 (by simp)).1
      have y5 : wr.cell? ⟨w.heap.size + 3, 5, none⟩ = some (.int .i64 st.gv) := (hs.L5 5 (by simp)).1
      have y6 : wr.cell? ⟨w.heap.size + 3, 6, none⟩ = some (.slice h.a1 d.L1.length h.c1) := (hs.L5 6 (by simp)).1
      have y7 : wr.cell? ⟨w.heap.size + 3, 7, none⟩ = some (.slice h.a2 d.L2.length h.c2) := (hs.L5 7 (by simp)).1
      have y8 : wr.cell? ⟨w.heap.size + 3, 8, none⟩ = some (.slice h.ar ts.length h.cr) := (hs.L5 8 (by simp)).1
      have y9 : wr.cell? ⟨w.heap.size + 3, 9, none⟩ = some (.slice h.aj ts.length h.cj) := (hs.L5 9 (by simp)).1
      have y10 : wr.cell? ⟨w.heap.size + 3, 10, none⟩ = some (.slice h.az d.S.length h.cs) := (hs.L5 10 (by simp)).1
      have y11 : wr.cell? ⟨w.heap.size + 3, 11, none⟩ = some (.slice h.ao d.O.length h.co) := (hs.L5 11 (by simp)).1
      have y12 : wr.cell? ⟨w.heap.size + 3, 12, none⟩ = some (.slice va st.M.length vc) := (hs.L5 12 (by simp)).1
      have hqm := hs.H.qm
      have hsz := hs.H.sz
      go_wp2_with (refine wpList_store_cf rfl 43 (.tmp 4) (.tmp 137) rfl (w.heap.size + 2) [.int .i64 0, .bool false, .int .i64 0, .int .i64 0, .int .i64 0, .int .i64 0, .slice none 0 0, .slice none 0 0, .slice none 0 0, .slice none 0 0, .slice none 0 0, .slice none 0 0, .slice none 0 0] [.int .i64 d.wk, .bool d.up, .int .i64 d.now, .int .i64 d.sn, .int .i64 d.ep, .int .i64 st.gv, .slice h.a1 d.L1.length h.c1, .slice h.a2 d.L2.length h.c2, .slice h.ar ts.length h.cr, .slice h.aj ts.length h.cj, .slice h.az d.S.length h.cs, .slice h.ao d.O.length h.co, .slice va st.M.length vc] rfl rfl hs.A4 rfl Tryz.sizeLd (one13 _ _ _ _ _ _ _ _ _ _ _ _ _ _ _ _ _ _ _ _ _ _ _ _ _ _ _) ?_; intro w10 hc10 hg10)
      clear y0 y1 y2 y3 y4 y5 y6 y7 y8 y9 y10 y11 y12
      have k0 : w10.cell? ⟨w.heap.size + 2, 0, none⟩ = some (.int .i64 d.wk) := (hc10 0 (by simp)).1
      have k1 : w10.cell? ⟨w.heap.size + 2, 1, none⟩ = some (.bool d.up) := (hc10 1 (by simp)).1
      have k2 : w10.cell? ⟨w.heap.size + 2, 2, none⟩ = some (.int .i64 d.now) := (hc10 2 (by simp)).1
      have k3 : w10.cell? ⟨w.heap.size + 2, 3, none⟩ = some (.int .i64 d.sn) := (hc10 3 (by simp)).1
      have k4 : w10.cell? ⟨w.heap.size + 2, 4, none⟩ = some (.int .i64 d.ep) := (hc10 4 (by simp)).1
      have k5 : w10.cell? ⟨w.heap.size + 2, 5, none⟩ = some (.int .i64 st.gv) := (hc10 5 (by simp)).1
      have k6 : w10.cell? ⟨w.heap.size + 2, 6, none⟩ = some (.slice h.a1 d.L1.length h.c1) := (hc10 6 (by simp)).1
      have k7 : w10.cell? ⟨w.heap.size + 2, 7, none⟩ = some (.slice h.a2 d.L2.length h.c2) := (hc10 7 (by simp)).1
      have k8 : w10.cell? ⟨w.heap.size + 2, 8, none⟩ = some (.slice h.ar ts.length h.cr) := (hc10 8 (by simp)).1
      have k9 : w10.cell? ⟨w.heap.size + 2, 9, none⟩ = some (.slice h.aj ts.length h.cj) := (hc10 9 (by simp)).1
      have k10 : w10.cell? ⟨w.heap.size + 2, 10, none⟩ = some (.slice h.az d.S.length h.cs) := (hc10 10 (by simp)).1
      have k11 : w10.cell? ⟨w.heap.size + 2, 11, none⟩ = some (.slice h.ao d.O.length h.co) := (hc10 11 (by simp)).1
      have k12 : w10.cell? ⟨w.heap.size + 2, 12, none⟩ = some (.slice va st.M.length vc) := (hc10 12 (by simp)).1
      have HF := hs.H.farLo hg10 (by omega) (by omega)
      refine bodyPost_ret (v := .agg #[.int .i64 d.wk, .bool d.up, .int .i64 d.now, .int .i64 d.sn, .int .i64 d.ep, .int .i64 st.gv, .slice h.a1 d.L1.length h.c1, .slice h.a2 d.L2.length h.c2, .slice h.ar ts.length h.cr, .slice h.aj ts.length h.cj, .slice h.az d.S.length h.cs, .slice h.ao d.O.length h.co, .slice va st.M.length vc]) (by simp [results, Tryz.results25, go_sem, k0, k1, k2, k3, k4, k5, k6, k7, k8, k9, k10, k11, k12]) rfl ?_
      first | exact ⟨.slice va st.M.length vc, vs, by rw [← HST.out], by rw [← HST.out]; exact HF⟩ | exact ⟨.slice va st.M.length vc, by rw [← HST.out], vs, by rw [← HST.out]; first | exact HF | (have h9 := HF; rw [hB] at h9; exact h9)⟩
end Go.Proofs.YtaeomkpofcbmiaaGreat
