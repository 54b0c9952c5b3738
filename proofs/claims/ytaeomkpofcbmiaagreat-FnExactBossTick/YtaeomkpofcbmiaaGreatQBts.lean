import Derived.Test.YtaeomkpofcbmiaaGreatQBha
import Derived.Test.YtaeomkpofcbmiaaGreatQBlc
import Derived.Test.YtaeomkpofcbmiaaGreatQBoo
namespace Go.Proofs.YtaeomkpofcbmiaaGreat
open Go.RowKit

/-- The jobs when the leases of the first i were looked at. -/
def jE (now : Int) (J : List Tr) (i : Nat) : List Tr := (J.take i).map (endJ now) ++ J.drop i
theorem t3_get {J : List Tr} {i : Nat} (hi : i < J.length) : t3 J i = J[i] := by simp [t3, List.getD, hi]
theorem jE_len (now : Int) (J : List Tr) (i : Nat) : (jE now J i).length = J.length := by unfold jE; simp; omega
theorem jE_get {now : Int} {J : List Tr} {i : Nat} (hi : i < J.length) : t3 (jE now J i) i = t3 J i := by
  have hl : ((J.take i).map (endJ now)).length = i := by simp; omega
  unfold jE t3
  rw [List.getD_eq_getElem?_getD, List.getElem?_append_right (by omega), hl, Nat.sub_self, List.getElem?_drop]
  simp [List.getD]
theorem jE_set {now : Int} {J : List Tr} {i : Nat} (hi : i < J.length) : (jE now J i).set i (endJ now (t3 J i)) = jE now J (i + 1) := by
  have hl : ((J.take i).map (endJ now)).length = i := by simp; omega
  unfold jE
  rw [List.drop_eq_getElem_cons hi, List.set_append_right _ _ (by omega), hl, Nat.sub_self, List.set_cons_zero, List.take_succ_eq_append_getElem hi, List.map_append, t3_get hi]
  simp
theorem jE_same {now : Int} {J : List Tr} {i : Nat} (hi : i < J.length) (h : endJ now (t3 J i) = t3 J i) : jE now J (i + 1) = jE now J i := by
  rw [← jE_set hi, h, ← jE_get (now := now) hi]
  have hl : i < (jE now J i).length := by rw [jE_len]; exact hi
  rw [t3_get hl]
  exact List.set_getElem_self hl
theorem jE_all (now : Int) (J : List Tr) : jE now J J.length = J.map (endJ now) := by unfold jE; simp
theorem jE_zero (now : Int) (J : List Tr) : jE now J 0 = J := by unfold jE; simp
def BD.nj (d : BD) (now : Int) (J : List Tr) : BD := ⟨d.wk, d.up, now, d.sn, d.ep, d.gv, d.L1, d.L2, d.R, J, d.S, d.O⟩
/-- Amid BossTick: the plan's box, the answer's box, the copy's box Q5. -/
structure BtS (w w1 : World) (d : BD) (h' : BH) (pa : Option Addr) (pn pc Q5 : Nat) (now : Int) (J : List Tr) (wr : World) : Prop where
  P3 : CF wr (w.heap.size + 1) [.slice pa pn pc]
  A4 : CF wr (w.heap.size + 2) [.int .i64 0, .bool false, .int .i64 0, .int .i64 0, .int .i64 0, .int .i64 0, .slice none 0 0, .slice none 0 0, .slice none 0 0, .slice none 0 0, .slice none 0 0, .slice none 0 0, .slice none 0 0]
  X5 : CF wr Q5 [.int .i64 d.wk, .bool d.up, .int .i64 now, .int .i64 d.sn, .int .i64 d.ep, .int .i64 d.gv, .slice h'.a1 d.L1.length h'.c1, .slice h'.a2 d.L2.length h'.c2, .slice h'.ar d.R.length h'.cr, .slice h'.aj d.J.length h'.cj, .slice h'.az d.S.length h'.cs, .slice h'.ao d.O.length h'.co]
  bo : BossO wr w1.heap.size (d.nj now J) h'
  jl : J.length = d.J.length
  hb : Below w1.heap.size w1 wr
  lo : ∀ r ∈ rowsB d h', ∀ q, r = some q → w1.heap.size ≤ q ∧ q < Q5
  od : w.heap.size + 3 ≤ w1.heap.size ∧ w1.heap.size ≤ Q5 ∧ Q5 < wr.heap.size
theorem BtS.drew {w w1 : World} {d : BD} {h' : BH} {pa : Option Addr} {pn pc Q5 : Nat} {now : Int} {J : List Tr} {wr : World} (s : BtS w w1 d h' pa pn pc Q5 now J wr) : BtS w w1 d h' pa pn pc Q5 now J wr.drew :=
  have hb : Below wr.heap.size wr wr.drew := (Below.refl _ _).drew
  have ho := s.od
  ⟨s.P3.block (hb.block _ (by omega)), s.A4.block (hb.block _ (by omega)), s.X5.block (hb.block _ (by omega)), s.bo.below hb, s.jl, s.hb.trans (hb.mono (by omega)), s.lo, ⟨ho.1, ho.2.1, Nat.lt_of_lt_of_le ho.2.2 hb.size⟩⟩
/-- The tick's time is written. -/
theorem BtS.setNow {w w1 : World} {d : BD} {h' : BH} {pa : Option Addr} {pn pc Q5 : Nat} {now : Int} {J : List Tr} {wr : World} (s : BtS w w1 d h' pa pn pc Q5 now J wr) (n2 : Int) : BtS w w1 d h' pa pn pc Q5 n2 J (wr.setCell ⟨Q5, 2, none⟩ (.int .i64 n2)) := by
  have ho := s.od
  have gs := gset (World.grownBy.refl wr (some Q5)) 2 (.int .i64 n2)
  refine ⟨s.P3.block (gs.block _ (by omega) (by simp; omega)), s.A4.block (gs.block _ (by omega) (by simp; omega)), s.X5.set (j := 2) (by simp) _, ?_, s.jl, s.hb.grown gs (by omega) (fun q e => by injection e with e; omega), s.lo, ⟨ho.1, ho.2.1, Nat.lt_of_lt_of_le ho.2.2 gs.size⟩⟩
  have hr : rowsB (d.nj now J) h' = rowsB d h' := by unfold rowsB BD.nj; simp only [s.jl]
  have := s.bo.blk (w' := wr.setCell ⟨Q5, 2, none⟩ (.int .i64 n2)) (fun r hm q hq => by
    rw [hr] at hm
    have := s.lo r hm q hq
    exact gs.block q (by omega) (fun e => by injection e with e; omega))
  exact ⟨this.o0, this.o1, this.o2, this.o3, this.o4, this.o5, this.dis⟩
/-- A lease ends. -/
theorem BtS.endOne {w w1 : World} {d : BD} {h' : BH} {pa : Option Addr} {pn pc Q5 : Nat} {now : Int} {J J' : List Tr} {wr wr' : World} {bj : Nat} (s : BtS w w1 d h' pa pn pc Q5 now J wr) (hl : J'.length = d.J.length) (hr : rowJ d h' = some bj) (hg : wr.grownBy wr' (some bj)) (hJ : Own w1.heap.size wr' 3 (.slice h'.aj J.length h'.cj) J.length (c3 J')) : BtS w w1 d h' pa pn pc Q5 now J' wr' := by
  have ho := s.od
  have hbj := s.lo _ (rowJ_mem d h') bj hr
  refine ⟨s.P3.block (hg.block _ (by omega) (by simp; omega)), s.A4.block (hg.block _ (by omega) (by simp; omega)), s.X5.block (hg.block _ (by omega) (by simp; omega)), ?_, hl, s.hb.grown hg (by omega) (fun q e => by injection e with e; omega), s.lo, ⟨ho.1, ho.2.1, Nat.lt_of_lt_of_le ho.2.2 hg.size⟩⟩
  have e : (Value.slice h'.aj (d.nj now J).J.length h'.cj).ownBlock = some bj := by
    show (Value.slice h'.aj J.length h'.cj).ownBlock = _
    rw [s.jl]; exact hr
  exact s.bo.updJ (gv := d.gv) (by show J'.length = J.length; rw [hl, s.jl]) (by rw [e]; exact hg) hJ
theorem Code.namesB {ts : List TaskD} (h : Code ts 0) : 1 ≤ ts.length ∧ ts.length ≤ 40 ∧ namesOk ts ts.length ∧ costsOk ts ts.length ∧ allDeps ts ts.length := by
  rcases h with ⟨h, _⟩ | ⟨h1, ⟨h, _⟩ | ⟨h2, ⟨h, _⟩ | ⟨h3, ⟨h, _⟩ | ⟨h4, _⟩⟩⟩⟩
  · omega
  · omega
  · omega
  · omega
  · exact ⟨h1.1, h1.2, h2, h3, h4⟩
theorem BD.upFacts {d : BD} {ts : List TaskD} (h : d.ok ts) (hu : d.up = true) : d.R.length = ts.length ∧ d.J.length = ts.length ∧ (1 ≤ d.ep ∧ d.ep ≤ 300) ∧ (0 ≤ d.gv ∧ d.gv ≤ 1000000) ∧ d.S.length ≤ 8 ∧ (0 ≤ d.sn ∧ d.sn ≤ 1) ∧ d.O.length ≤ 2000 := by
  obtain ⟨wk, up, now, sn, ep, gv, L1, L2, R, J, S, O⟩ := d
  dsimp only at hu
  subst hu
  have h' := h
  obtain ⟨_, hwk, _, E, Q, hr, _⟩ := h'
  obtain ⟨e1, e2, e3, e4, e5, e6, e7, e8⟩ := vB_up h hr
  have hk := rep_ok (n := ts.length) (m := 0) _ (st0_ok ts.length) hr
  have h3 := rep_300 _ (by simp [st0]) hr
  dsimp only at e1 e2 e3 e4 e5 e6 e7 e8 hwk ⊢
  refine ⟨by rw [e3]; exact hk.2.2.1, e6.1, ⟨e2, by rw [e1]; exact h3⟩, e5, by omega, e4, e8.1⟩
theorem BD.nj_fits {d : BD} (hf : d.fits) (now n2 : Int) : (d.nj now (d.J.map (endJ n2))).fits := by
  refine ⟨hf.s1, hf.s2, hf.s3, ?_, hf.k2, hf.k4⟩
  intro j hj
  have hj' : j < d.J.length := by simpa [BD.nj] using hj
  have e : t3 (d.J.map (endJ n2)) j = endJ n2 (t3 d.J j) := by rw [t3_get (by simpa using hj'), t3_get hj', List.getElem_map]
  show I64 (t3 (d.J.map (endJ n2)) j).1 ∧ I64 (t3 (d.J.map (endJ n2)) j).2.1 ∧ I64 (t3 (d.J.map (endJ n2)) j).2.2
  rw [e]
  have key : ∀ x : Tr, (I64 x.1 ∧ I64 x.2.1 ∧ I64 x.2.2) → I64 (endJ n2 x).1 ∧ I64 (endJ n2 x).2.1 ∧ I64 (endJ n2 x).2.2 := fun x hx => by
    unfold endJ
    split
    · exact ⟨by show I64 0; unfold I64; decide, by show I64 0; unfold I64; decide, by show I64 0; unfold I64; decide⟩
    · exact hx
  exact key _ (hf.k3 j hj')
/-- An answer that sends nothing. -/
theorem BtS.led {w w1 : World} {d : BD} {h' : BH} {pa : Option Addr} {pn pc Q5 : Nat} {now : Int} {J : List Tr} {wr w10 : World} (s : BtS w w1 d h' pa pn pc Q5 now J wr) (hb : Below w.heap.size w w1) (hg : wr.grownBy w10 (some (w.heap.size + 2))) : LedO w10 w.heap.size (d.nj now J) h' (.slice none 0 0) [] [] ∧ Below w.heap.size w w10 := by
  have ho := s.od
  have hr : rowsB (d.nj now J) h' = rowsB d h' := by unfold rowsB BD.nj; simp only [s.jl]
  have hbo := s.bo.blk (w' := w10) (fun r hm q hq => by
    rw [hr] at hm
    have := s.lo r hm q hq
    exact hg.block q (by omega) (fun e => by injection e with e; omega))
  refine ⟨⟨hbo.mono hb.size, MsO.nil _ _, fun r hr => Dj.symm (.inl rfl), fun r hr j hj => absurd hj (by simp)⟩, ?_⟩
  exact (hb.trans (s.hb.mono hb.size)).grown hg (by omega) (fun q e => by injection e with e; omega)
/-- What is handed on is an answer. -/
theorem HdM.led {w0 w wr w10 : World} {B B' Qm q : Nat} {d : BD} {h : BH} {st : HSt} {v : Value} {vs : List Value} (H : HdM w0 w B Qm d h st v vs wr) (sn : Int) (hg : wr.grownBy w10 (some q)) (hq : q < B) (hB : B' ≤ B) : LedO w10 B' ⟨d.wk, d.up, d.now, sn, d.ep, st.gv, d.L1, d.L2, d.R, st.J, st.S, d.O⟩ h v st.M vs := by
  have hbs := H.bs
  have hqm := H.qm
  have hr : rowsB ⟨d.wk, d.up, d.now, sn, d.ep, st.gv, d.L1, d.L2, d.R, st.J, st.S, d.O⟩ h = rowsB d h := by unfold rowsB; simp only [H.lj.1, H.lj.2]
  have hbo := H.bo.blk (w' := w10) (fun r hm p hp => by
    rw [rowsB_at H.lj] at hm
    have := H.lo r hm p hp
    have := H.sz
    exact hg.block p (by omega) (fun e => by injection e with e; omega))
  refine ⟨BossO.mono ⟨hbo.o0, hbo.o1, hbo.o2, hbo.o3, hbo.o4, hbo.o5, hbo.dis⟩ hB, ?_, fun r hm => ?_, fun r hm j hj => ?_⟩
  · refine (H.ms.grown hg ?_ (fun j hj => ?_)).mono (by omega)
    · exact (Dn.later (x := some q) (m := Qm) (fun k e => by injection e with e; omega) H.ms.row.row_lo).symm
    · exact (Dn.later (x := some q) (m := Qm) (fun k e => by injection e with e; omega) (H.ms.dep j hj).row_lo).symm
  · rw [hr] at hm
    exact (H.rows hm).1.symm
  · rw [hr] at hm
    exact ((H.rows hm).2 j hj).symm
theorem wpList_store_l2 {ops : Array Oper} {rest : List Oper} {op : Oper} {a : Act} {w : World} {Q : Exit → Act → World → Prop} (hgd : op.guard = none) (x y : Operand) (ho : op.op = .store 35 x y) (b o : Nat) (a1 : Option Addr) (n1 c1 : Nat) (hx : a.eval x = .pointer (some ⟨b, o, none⟩)) (hy : a.eval y = .agg #[.slice a1 n1 c1, .slice none 0 0]) (ht : w.there b o 2)
    (hK : wpList Tryz.prog ops Q rest (a.put op.dst undef) (w.setCells b o [.slice a1 n1 c1, .slice none 0 0])) : wpList Tryz.prog ops Q (op :: rest) a w :=
  wpList_store_mid hgd 35 x y ho b o #[.slice a1 n1 c1, .slice none 0 0] hx hy ht (by kernel_rfl) (by kernel_rfl) hK
theorem thx_take {O : List Tr} {ep : Int} {j : Nat} (hj : j < O.length) : (O.take (j + 1)).map (thx ep) = (O.take j).map (thx ep) ++ [thx ep (t3 O j)] := by
  rw [List.take_add_one, List.getElem?_eq_getElem hj, List.map_append, t3_get hj]
  rfl
/-- Amid the thanks: the box Q7 of what is handed on, the list of what is safe. -/
structure ThS (w1 wr : World) (Q4 Q7 nn : Nat) (d dN : BD) (h' : BH) (now gv : Int) (st : HSt) (a1 : Option Addr) (c1 : Nat) (L : List ByteArray) (v : Value) (vs : List Value) (W : World) : Prop where
  H : HdM w1 wr w1.heap.size (wr.heap.size + 4) dN h' st v vs W
  A : CF W Q4 [.int .i64 0, .bool false, .int .i64 0, .int .i64 0, .int .i64 0, .int .i64 0, .slice none 0 0, .slice none 0 0, .slice none 0 0, .slice none 0 0, .slice none 0 0, .slice none 0 0, .slice none 0 0]
  L7 : CF W Q7 [.int .i64 d.wk, .bool d.up, .int .i64 now, .int .i64 0, .int .i64 d.ep, .int .i64 gv, .slice a1 L.length c1, .slice none 0 0, .slice h'.ar nn h'.cr, .slice h'.aj nn h'.cj, .slice h'.az d.S.length h'.cs, .slice h'.ao d.O.length h'.co, v]
  O1 : Own (Q7 + 1) W 1 (.slice a1 L.length c1) L.length (L.map Value.string)
  d1 : Dn (Value.slice a1 L.length c1).ownBlock v.ownBlock
  d2 : ∀ j, j < st.M.length → Dn (Value.slice a1 L.length c1).ownBlock (vs.getD j nilV).ownBlock
  n1 : Dn v.ownBlock (some Q7)
  n2 : ∀ j, j < st.M.length → Dn (vs.getD j nilV).ownBlock (some Q7)
  q : wr.heap.size + 4 ≤ Q7 ∧ Q7 < W.heap.size ∧ Q4 < w1.heap.size
  vm : ∃ a c, v = .slice a st.M.length c
theorem ThS.below {w1 wr : World} {Q4 Q7 nn : Nat} {d dN : BD} {h' : BH} {now gv : Int} {st : HSt} {a1 : Option Addr} {c1 : Nat} {L : List ByteArray} {v : Value} {vs : List Value} {W : World} {W' : World} (s : ThS w1 wr Q4 Q7 nn d dN h' now gv st a1 c1 L v vs W) (hb : Below W.heap.size W W') : ThS w1 wr Q4 Q7 nn d dN h' now gv st a1 c1 L v vs W' :=
  have hq := s.q
  have hbs := s.H.bs
  ⟨s.H.below hb, s.A.block (hb.block _ (by omega)), s.L7.block (hb.block _ (by omega)), s.O1.below hb (Nat.le_refl _), s.d1, s.d2, s.n1, s.n2, ⟨hq.1, Nat.lt_of_lt_of_le hq.2.1 hb.size, hq.2.2⟩, s.vm⟩
/-- Thanks are sent. -/
theorem ThS.app {w1 wr : World} {Q4 Q7 nn : Nat} {d dN : BD} {h' : BH} {now gv : Int} {st : HSt} {a1 : Option Addr} {c1 : Nat} {L : List ByteArray} {v : Value} {vs : List Value} {W : World} {W9 : World} {m : MgD} {a9 : Option Addr} {c9 : Nat} {ob : Obj} (s : ThS w1 wr Q4 Q7 nn d dN h' now gv st a1 c1 L v vs W) (hm : m.ss = [])
    (ho : Own (wr.heap.size + 4) W9 8 (.slice a9 (st.M.length + 1) c9) (st.M.length + 1) (rowM st.M vs ++ mcell m (.slice none 0 0))) (hg : (W.alloc ob).grownBy W9 v.ownBlock) (hbk : (Value.slice a9 (st.M.length + 1) c9).ownBlock = v.ownBlock ∨ (Value.slice a9 (st.M.length + 1) c9).ownBlock = some (W.alloc ob).heap.size) :
    ThS w1 wr Q4 Q7 nn d dN h' now gv ⟨st.gv, st.J, st.S, st.M ++ [m]⟩ a1 c1 L (.slice a9 (st.M.length + 1) c9) (vs ++ [.slice none 0 0]) (W9.setCell ⟨Q7, 12, none⟩ (.slice a9 (st.M.length + 1) c9)) := by
  have hq := s.q
  have hbs := s.H.bs
  have hlo := s.H.ms.row.row_lo
  have hzA : (W.alloc ob).heap.size = W.heap.size + 1 := by simp
  have hbA : Below W.heap.size W (W.alloc ob) := (Below.refl _ _).alloc (Nat.le_refl _) _
  have hgz := hg.size
  have gs := gset (World.grownBy.refl W9 (some Q7)) 12 (.slice a9 (st.M.length + 1) c9)
  have hnil : Own (wr.heap.size + 4) W 1 (.slice none 0 0) m.ss.length (m.ss.map Value.string) := by rw [hm]; exact Own.nil _ _ _
  have hH := s.H.snoc (t := m) hnil (.inl rfl) (fun j hj => Dn.symm (.inl rfl)) ho hg hbk
  have key : ∀ x : Option Nat, Dn x v.ownBlock → (∀ q, x = some q → q < W.heap.size) → Dn x (Value.slice a9 (st.M.length + 1) c9).ownBlock := fun x h1 h2 => by
    rcases hbk with e | e
    · rw [e]; exact h1
    · exact Dn.later h2 (fun q hq => by rw [e] at hq; injection hq with hq; omega)
  have n1' : Dn (Value.slice a9 (st.M.length + 1) c9).ownBlock (some Q7) := (key (some Q7) s.n1.symm (fun q e => by injection e with e; omega)).symm
  have gl : ∀ j, j < st.M.length → (vs ++ [Value.slice none 0 0]).getD j nilV = vs.getD j nilV := fun j hj => by simp [List.getD, List.getElem?_append_left (show j < vs.length by rw [s.H.ms.len]; exact hj)]
  have ge : (vs ++ [Value.slice none 0 0]).getD st.M.length nilV = .slice none 0 0 := by rw [← s.H.ms.len]; simp [List.getD]
  have n2' : ∀ j, j < (st.M ++ [m]).length → Dn ((vs ++ [Value.slice none 0 0]).getD j nilV).ownBlock (some Q7) := fun j hj => by
    rw [List.length_append, List.length_singleton] at hj
    by_cases e : j < st.M.length
    · rw [gl j e]; exact s.n2 j e
    · obtain rfl : j = st.M.length := by omega
      rw [ge]; exact .inl rfl
  have hne : ∀ p, p < wr.heap.size + 4 ∨ p = Q7 → some p ≠ v.ownBlock := fun p hp e => by
    rcases hp with hp | rfl
    · have := hlo p e.symm; omega
    · rcases s.n1 with h | h
      · rw [h] at e; cases e
      · exact h e.symm
  refine ⟨hH.far gs (by omega) n1' n2', ?_, ?_, ?_, ?_, fun j hj => ?_, n1', n2', ⟨hq.1, by have := gs.size; omega, hq.2.2⟩, ⟨a9, c9, by rw [List.length_append, List.length_singleton]⟩⟩
  · exact ((s.A.block (hbA.block _ (by omega))).block (hg.block _ (by omega) (hne _ (.inl (by omega))))).block (gs.block _ (by omega) (fun e => by injection e with e; omega))
  · exact ((s.L7.block (hbA.block _ hq.2.1)).block (hg.block _ (by omega) (hne _ (.inr rfl)))).set (j := 12) (by simp) _
  · refine ((s.O1.below hbA (Nat.le_refl _)).grown hg s.d1).grown gs (.inr (fun e => ?_))
    have := s.O1.row_lo Q7 e
    omega
  · exact key _ s.d1 s.O1.row_hi
  · rw [List.length_append, List.length_singleton] at hj
    by_cases e : j < st.M.length
    · rw [gl j e]; exact s.d2 j e
    · obtain rfl : j = st.M.length := by omega
      rw [ge]; exact Dn.symm (.inl rfl)
/-- The answer behind the thanks. -/
theorem ThS.led {w1 wr : World} {Q4 Q7 nn : Nat} {d dN : BD} {h' : BH} {now gv : Int} {st : HSt} {a1 : Option Addr} {c1 : Nat} {L : List ByteArray} {v : Value} {vs : List Value} {W : World} {w10 : World} {B' G : Nat} (s : ThS w1 wr Q4 Q7 nn d dN h' now gv st a1 c1 L v vs W) (hk : ∀ q, q < W.heap.size → q ≠ Q7 → q ≠ Q4 → w10.heap[q]? = W.heap[q]?) (hG : OwnC W.heap.size w10 3 G 0 0 0 []) (hGe : G = W.heap.size) (hB : B' ≤ w1.heap.size) :
    LedO w10 B' ⟨dN.wk, dN.up, dN.now, 0, dN.ep, st.gv, L, [], dN.R, st.J, st.S, []⟩ ⟨a1, none, h'.ar, h'.aj, h'.az, some ⟨G, 0, none⟩, c1, 0, h'.cr, h'.cj, h'.cs, 0⟩ v st.M vs := by
  have hq := s.q
  have hbs := s.H.bs
  have hqm := s.H.qm
  have hsz := s.H.sz
  have hgr := s.H.gr.size
  have hlo : ∀ r ∈ rowsB dN h', ∀ q, r = some q → w1.heap.size ≤ q ∧ q < wr.heap.size := s.H.lo
  have m2 : (Value.slice h'.ar dN.R.length h'.cr).ownBlock ∈ rowsB dN h' := by unfold rowsB; simp
  have m3 : (Value.slice h'.aj st.J.length h'.cj).ownBlock ∈ rowsB dN h' := by rw [s.H.lj.1]; exact rowJ_mem dN h'
  have m4 : (Value.slice h'.az st.S.length h'.cs).ownBlock ∈ rowsB dN h' := by rw [s.H.lj.2]; exact rowS_mem dN h'
  have kr : ∀ r ∈ rowsB dN h', ∀ q, r = some q → w10.heap[q]? = W.heap[q]? := fun r hr q e => by have := hlo r hr q e; exact hk q (by omega) (by omega) (by omega)
  have k0 : ∀ q, (Value.slice a1 L.length c1).ownBlock = some q → w10.heap[q]? = W.heap[q]? := fun q e => by have h1 := s.O1.row_lo q e; have h2 := s.O1.row_hi q e; exact hk q h2 (by omega) (by omega)
  have kv : ∀ x : Value, Dn x.ownBlock (some Q7) → (∀ q, x.ownBlock = some q → wr.heap.size + 4 ≤ q ∧ q < W.heap.size) → ∀ q, x.ownBlock = some q → w10.heap[q]? = W.heap[q]? := fun x hx hb q e => by
    have := hb q e
    refine hk q (by omega) (fun hh => ?_) (by omega)
    subst hh
    rcases hx with h | h
    · rw [h] at e; cases e
    · exact h e
  have lt0 : ∀ r : Option Nat, r ∈ rowsB dN h' → Dj (Value.slice a1 L.length c1).ownBlock r := fun r hr => Dn.symm (Dn.later (m := Q7) (fun q e => by have := hlo r hr q e; omega) (fun q e => by have := s.O1.row_lo q e; omega))
  have ltG : ∀ x : Option Nat, (∀ q, x = some q → q < W.heap.size) → Dj x (some G) := fun x hx => Dn.later (m := W.heap.size) hx (fun q e => by injection e with e; omega)
  have rG : ∀ r : Option Nat, r ∈ rowsB dN h' → Dj r (some G) := fun r hr => ltG r (fun q e => by have := hlo r hr q e; omega)
  have hd := s.H.bo.dis
  simp only [List.pairwise_cons, List.mem_cons, List.not_mem_nil, or_false, forall_eq_or_imp, forall_eq, List.Pairwise.nil, and_true, false_implies, implies_true] at hd
  obtain ⟨_, _, ⟨d23, d24, _⟩, ⟨d34, _⟩, _⟩ := hd
  have hv10 : ∀ q, v.ownBlock = some q → wr.heap.size + 4 ≤ q ∧ q < W.heap.size := fun q e => ⟨s.H.ms.row.row_lo q e, s.H.ms.row.row_hi q e⟩
  have hvs10 : ∀ j, j < st.M.length → ∀ q, (vs.getD j nilV).ownBlock = some q → wr.heap.size + 4 ≤ q ∧ q < W.heap.size := fun j hj q e => ⟨(s.H.ms.dep j hj).row_lo q e, (s.H.ms.dep j hj).row_hi q e⟩
  have hrows : ∀ r, r ∈ rowsB ⟨dN.wk, dN.up, dN.now, 0, dN.ep, st.gv, L, [], dN.R, st.J, st.S, []⟩ (⟨a1, none, h'.ar, h'.aj, h'.az, some ⟨G, 0, none⟩, c1, 0, h'.cr, h'.cj, h'.cs, 0⟩ : BH) → r = (Value.slice a1 L.length c1).ownBlock ∨ r = none ∨ r ∈ rowsB dN h' ∨ r = some G := fun r hr => by
    unfold rowsB at hr
    simp only [List.mem_cons, List.not_mem_nil, or_false] at hr
    rcases hr with rfl | rfl | rfl | rfl | rfl | rfl
    · exact .inl rfl
    · exact .inr (.inl rfl)
    · exact .inr (.inr (.inl m2))
    · exact .inr (.inr (.inl m3))
    · exact .inr (.inr (.inl m4))
    · exact .inr (.inr (.inr rfl))
  refine ⟨⟨(s.O1.blk k0).mono' (by omega), Own.nil _ _ _, (s.H.bo.o2.blk (kr _ m2)).mono' hB, (s.H.bo.o3.blk (kr _ m3)).mono' hB, (s.H.bo.o4.blk (kr _ m4)).mono' hB, .inr ⟨G, 0, 0, rfl, hG.mono (by omega)⟩, ?_⟩, ?_, fun r hr => ?_, fun r hr j hj => ?_⟩
  · show List.Pairwise Dj [(Value.slice a1 L.length c1).ownBlock, none, (Value.slice h'.ar dN.R.length h'.cr).ownBlock, (Value.slice h'.aj st.J.length h'.cj).ownBlock, (Value.slice h'.az st.S.length h'.cs).ownBlock, some G]
    simp only [List.pairwise_cons, List.mem_cons, List.not_mem_nil, or_false, forall_eq_or_imp, forall_eq, List.Pairwise.nil, and_true, false_implies, implies_true]
    exact ⟨⟨Dj.symm (.inl rfl), lt0 _ m2, lt0 _ m3, lt0 _ m4, ltG _ s.O1.row_hi⟩, ⟨.inl rfl, .inl rfl, .inl rfl, .inl rfl⟩, ⟨d23, d24, rG _ m2⟩, ⟨d34, rG _ m3⟩, rG _ m4⟩
  · exact MsO.mono ⟨s.H.ms.len, s.H.ms.row.blk (kv v s.n1 hv10), fun j hj => (s.H.ms.dep j hj).blk (kv _ (s.n2 j hj) (hvs10 j hj)), s.H.ms.dr, s.H.ms.dd⟩ (by omega)
  · rcases hrows r hr with rfl | rfl | h | rfl
    · exact s.d1
    · exact .inl rfl
    · exact (s.H.rows h).1.symm
    · exact (ltG _ (fun q e => (hv10 q e).2)).symm
  · rcases hrows r hr with rfl | rfl | h | rfl
    · exact s.d2 j hj
    · exact .inl rfl
    · exact ((s.H.rows h).2 j hj).symm
    · exact (ltG _ (fun q e => (hvs10 j hj q e).2)).symm
set_option maxHeartbeats 8000000 in
set_option maxRecDepth 100000 in
theorem sTickB_any (d : BD) (h : BH) (pa : Option Addr) (pb po pn pc : Nat) (ts : List TaskD) (w : World) (hM : BossM w d h) (hT : TasksAt w pa pb po pn ts) (hs : d.small) :
    Calls Tryz.prog 6 #[.agg #[.int .i64 d.wk, .bool d.up, .int .i64 d.now, .int .i64 d.sn, .int .i64 d.ep, .int .i64 d.gv, .slice h.a1 d.L1.length h.c1, .slice h.a2 d.L2.length h.c2, .slice h.ar d.R.length h.cr, .slice h.aj d.J.length h.cj, .slice h.az d.S.length h.cs, .slice h.ao d.O.length h.co], .agg #[.slice pa pn pc]] w fun e w' => RetLd e w.heap.size w' (tickBR d ts) ∧ Below w.heap.size w w' := by
  obtain ⟨W, hW⟩ : ∃ W, W = ((w.alloc (.cells #[.int .i64 d.wk, .bool d.up, .int .i64 d.now, .int .i64 d.sn, .int .i64 d.ep, .int .i64 d.gv, .slice h.a1 d.L1.length h.c1, .slice h.a2 d.L2.length h.c2, .slice h.ar d.R.length h.cr, .slice h.aj d.J.length h.cj, .slice h.az d.S.length h.cs, .slice h.ao d.O.length h.co] 40)).alloc (.cells #[.slice pa pn pc] 48)).alloc (.cells #[.int .i64 0, .bool false, .int .i64 0, .int .i64 0, .int .i64 0, .int .i64 0, .slice none 0 0, .slice none 0 0, .slice none 0 0, .slice none 0 0, .slice none 0 0, .slice none 0 0, .slice none 0 0] 43) := ⟨_, rfl⟩
  have B0 : Below w.heap.size w W := by rw [hW]; exact (((Below.refl _ _).alloc (Nat.le_refl _) _).alloc (by simp) _).alloc (by simp; omega) _
  have z0 : W.heap.size = w.heap.size + 3 := by rw [hW]; simp
  have P0 : CF W w.heap.size [.int .i64 d.wk, .bool d.up, .int .i64 d.now, .int .i64 d.sn, .int .i64 d.ep, .int .i64 d.gv, .slice h.a1 d.L1.length h.c1, .slice h.a2 d.L2.length h.c2, .slice h.ar d.R.length h.cr, .slice h.aj d.J.length h.cj, .slice h.az d.S.length h.cs, .slice h.ao d.O.length h.co] := by
    rw [hW]; exact ((CF.made w #[.int .i64 d.wk, .bool d.up, .int .i64 d.now, .int .i64 d.sn, .int .i64 d.ep, .int .i64 d.gv, .slice h.a1 d.L1.length h.c1, .slice h.a2 d.L2.length h.c2, .slice h.ar d.R.length h.cr, .slice h.aj d.J.length h.cj, .slice h.az d.S.length h.cs, .slice h.ao d.O.length h.co] 40).block (Below.heap_alloc _ _ _ (by simp))).block (Below.heap_alloc _ _ _ (by simp; omega))
  have L0 : CF W (w.heap.size + 1) [.slice pa pn pc] := by
    have := CF.made (w.alloc (.cells #[.int .i64 d.wk, .bool d.up, .int .i64 d.now, .int .i64 d.sn, .int .i64 d.ep, .int .i64 d.gv, .slice h.a1 d.L1.length h.c1, .slice h.a2 d.L2.length h.c2, .slice h.ar d.R.length h.cr, .slice h.aj d.J.length h.cj, .slice h.az d.S.length h.cs, .slice h.ao d.O.length h.co] 40)) #[.slice pa pn pc] 48
    rw [World.size_alloc] at this
    rw [hW]; exact this.block (Below.heap_alloc _ _ _ (by simp))
  have R0 : CF W (w.heap.size + 2) [.int .i64 0, .bool false, .int .i64 0, .int .i64 0, .int .i64 0, .int .i64 0, .slice none 0 0, .slice none 0 0, .slice none 0 0, .slice none 0 0, .slice none 0 0, .slice none 0 0, .slice none 0 0] := by
    have := CF.made ((w.alloc (.cells #[.int .i64 d.wk, .bool d.up, .int .i64 d.now, .int .i64 d.sn, .int .i64 d.ep, .int .i64 d.gv, .slice h.a1 d.L1.length h.c1, .slice h.a2 d.L2.length h.c2, .slice h.ar d.R.length h.cr, .slice h.aj d.J.length h.cj, .slice h.az d.S.length h.cs, .slice h.ao d.O.length h.co] 40)).alloc (.cells #[.slice pa pn pc] 48)) #[.int .i64 0, .bool false, .int .i64 0, .int .i64 0, .int .i64 0, .int .i64 0, .slice none 0 0, .slice none 0 0, .slice none 0 0, .slice none 0 0, .slice none 0 0, .slice none 0 0, .slice none 0 0] 43
    rw [World.size_alloc, World.size_alloc] at this
    rw [hW]; exact this
  have hf := hid hM.fits
  have hV0 : BossV w d [.int .i64 d.wk, .bool d.up, .int .i64 d.now, .int .i64 d.sn, .int .i64 d.ep, .int .i64 d.gv, .slice h.a1 d.L1.length h.c1, .slice h.a2 d.L2.length h.c2, .slice h.ar d.R.length h.cr, .slice h.aj d.J.length h.cj, .slice h.az d.S.length h.cs, .slice h.ao d.O.length h.co] := ⟨h, rfl, hM⟩
  have hV := hid (hV0.below' B0)
  have hs' := hid hs
  clear hV0 hs
  have HW := hid hW
  clear hW
  go_enter Tryz.func6, Tryz.ntmps6
  go_upto_region 1 with fail
  rw [← HW.out]
  clear HW
  have y0 : W.cell? ⟨w.heap.size, 0, none⟩ = some (.int .i64 d.wk) := (P0 0 (by simp)).1
  have y1 : W.cell? ⟨w.heap.size, 1, none⟩ = some (.bool d.up) := (P0 1 (by simp)).1
  have y2 : W.cell? ⟨w.heap.size, 2, none⟩ = some (.int .i64 d.now) := (P0 2 (by simp)).1
  have y3 : W.cell? ⟨w.heap.size, 3, none⟩ = some (.int .i64 d.sn) := (P0 3 (by simp)).1
  have y4 : W.cell? ⟨w.heap.size, 4, none⟩ = some (.int .i64 d.ep) := (P0 4 (by simp)).1
  have y5 : W.cell? ⟨w.heap.size, 5, none⟩ = some (.int .i64 d.gv) := (P0 5 (by simp)).1
  have y6 : W.cell? ⟨w.heap.size, 6, none⟩ = some (.slice h.a1 d.L1.length h.c1) := (P0 6 (by simp)).1
  have y7 : W.cell? ⟨w.heap.size, 7, none⟩ = some (.slice h.a2 d.L2.length h.c2) := (P0 7 (by simp)).1
  have y8 : W.cell? ⟨w.heap.size, 8, none⟩ = some (.slice h.ar d.R.length h.cr) := (P0 8 (by simp)).1
  have y9 : W.cell? ⟨w.heap.size, 9, none⟩ = some (.slice h.aj d.J.length h.cj) := (P0 9 (by simp)).1
  have y10 : W.cell? ⟨w.heap.size, 10, none⟩ = some (.slice h.az d.S.length h.cs) := (P0 10 (by simp)).1
  have y11 : W.cell? ⟨w.heap.size, 11, none⟩ = some (.slice h.ao d.O.length h.co) := (P0 11 (by simp)).1
  have kp : W.cell? ⟨w.heap.size + 1, 0, none⟩ = some (.slice pa pn pc) := (L0 0 (by simp)).1
  go_wp2_with fail
  refine (sValBV_any d _ _ _ _ _ _ _ _ _ _ _ _ pa pb po pn pc ts _ hV.out (hT.below' B0) hs'.out).mono ?_
  rintro e w1 ⟨⟨r, rfl, hr⟩, hb1⟩
  clear y0 y1 y2 y3 y4 y5 y6 y7 y8 y9 y10 y11 kp
  have P1 := P0.block (hb1.block w.heap.size (by omega))
  have L1 := L0.block (hb1.block (w.heap.size + 1) (by omega))
  have R1 := R0.block (hb1.block (w.heap.size + 2) (by omega))
  have B1 := B0.trans (hb1.mono B0.size)
  have z1 : w.heap.size + 3 ≤ w1.heap.size := by have := hb1.size; omega
  have HR := hid hr
  clear hr hb1 P0 R0 B0 z0 L0
  cases r with
  | false =>
    have HN := hid (show ¬ d.ok ts from fun hh => by have := HR.out.2 hh; cases this)
    go_upto_region 2 with fail
    go_wp2_with (refine wpList_store_cf rfl 43 (.tmp 4) (.tmp 14) rfl (w.heap.size + 2) [.int .i64 0, .bool false, .int .i64 0, .int .i64 0, .int .i64 0, .int .i64 0, .slice none 0 0, .slice none 0 0, .slice none 0 0, .slice none 0 0, .slice none 0 0, .slice none 0 0, .slice none 0 0] [.int .i64 0, .bool false, .int .i64 0, .int .i64 0, .int .i64 0, .int .i64 0, .slice none 0 0, .slice none 0 0, .slice none 0 0, .slice none 0 0, .slice none 0 0, .slice none 0 0, .slice none 0 0] rfl rfl R1 rfl Tryz.sizeLd (one13 _ _ _ _ _ _ _ _ _ _ _ _ _ _ _ _ _ _ _ _ _ _ _ _ _ _ _) ?_; intro w10 hc10 hg10)
    have k0 : w10.cell? ⟨w.heap.size + 2, 0, none⟩ = some (.int .i64 0) := (hc10 0 (by simp)).1
    have k1 : w10.cell? ⟨w.heap.size + 2, 1, none⟩ = some (.bool false) := (hc10 1 (by simp)).1
    have k2 : w10.cell? ⟨w.heap.size + 2, 2, none⟩ = some (.int .i64 0) := (hc10 2 (by simp)).1
    have k3 : w10.cell? ⟨w.heap.size + 2, 3, none⟩ = some (.int .i64 0) := (hc10 3 (by simp)).1
    have k4 : w10.cell? ⟨w.heap.size + 2, 4, none⟩ = some (.int .i64 0) := (hc10 4 (by simp)).1
    have k5 : w10.cell? ⟨w.heap.size + 2, 5, none⟩ = some (.int .i64 0) := (hc10 5 (by simp)).1
    have k6 : w10.cell? ⟨w.heap.size + 2, 6, none⟩ = some (.slice none 0 0) := (hc10 6 (by simp)).1
    have k7 : w10.cell? ⟨w.heap.size + 2, 7, none⟩ = some (.slice none 0 0) := (hc10 7 (by simp)).1
    have k8 : w10.cell? ⟨w.heap.size + 2, 8, none⟩ = some (.slice none 0 0) := (hc10 8 (by simp)).1
    have k9 : w10.cell? ⟨w.heap.size + 2, 9, none⟩ = some (.slice none 0 0) := (hc10 9 (by simp)).1
    have k10 : w10.cell? ⟨w.heap.size + 2, 10, none⟩ = some (.slice none 0 0) := (hc10 10 (by simp)).1
    have k11 : w10.cell? ⟨w.heap.size + 2, 11, none⟩ = some (.slice none 0 0) := (hc10 11 (by simp)).1
    have k12 : w10.cell? ⟨w.heap.size + 2, 12, none⟩ = some (.slice none 0 0) := (hc10 12 (by simp)).1
    exact bodyPost_ret (v := .agg #[.int .i64 0, .bool false, .int .i64 0, .int .i64 0, .int .i64 0, .int .i64 0, .slice none 0 0, .slice none 0 0, .slice none 0 0, .slice none 0 0, .slice none 0 0, .slice none 0 0, .slice none 0 0]) (by simp [results, Tryz.results6, go_sem, k0, k1, k2, k3, k4, k5, k6, k7, k8, k9, k10, k11, k12]) rfl ⟨⟨zBD, ⟨none, none, none, none, none, none, 0, 0, 0, 0, 0, 0⟩, .slice none 0 0, [], [], rfl, ⟨zBO _ _, MsO.nil _ _, fun r hr => Dj.symm (.inl rfl), fun r hr j hj => absurd hj (by simp)⟩, .inr ⟨HN.out, rfl⟩⟩, below_grown B1 hg10 (by omega) (fun q hq => by simp at hq; omega)⟩
  | true =>
    have HV := hid (show d.ok ts from HR.out.1 rfl)
    have hsm := hs'.out
    unfold BD.small at hsm
    obtain ⟨⟨b1, o1, h1⟩, ⟨b2, o2, h2⟩, ⟨b3, o3, h3⟩, ⟨b4, o4, h4⟩, ⟨b5, o5, h5⟩, ⟨b6, o6, h6⟩⟩ := hM
    have y0 : w1.cell? ⟨w.heap.size, 0, none⟩ = some (.int .i64 d.wk) := (P1 0 (by simp)).1
    have y1 : w1.cell? ⟨w.heap.size, 1, none⟩ = some (.bool d.up) := (P1 1 (by simp)).1
    have y2 : w1.cell? ⟨w.heap.size, 2, none⟩ = some (.int .i64 d.now) := (P1 2 (by simp)).1
    have y3 : w1.cell? ⟨w.heap.size, 3, none⟩ = some (.int .i64 d.sn) := (P1 3 (by simp)).1
    have y4 : w1.cell? ⟨w.heap.size, 4, none⟩ = some (.int .i64 d.ep) := (P1 4 (by simp)).1
    have y5 : w1.cell? ⟨w.heap.size, 5, none⟩ = some (.int .i64 d.gv) := (P1 5 (by simp)).1
    have y6 : w1.cell? ⟨w.heap.size, 6, none⟩ = some (.slice h.a1 d.L1.length h.c1) := (P1 6 (by simp)).1
    have y7 : w1.cell? ⟨w.heap.size, 7, none⟩ = some (.slice h.a2 d.L2.length h.c2) := (P1 7 (by simp)).1
    have y8 : w1.cell? ⟨w.heap.size, 8, none⟩ = some (.slice h.ar d.R.length h.cr) := (P1 8 (by simp)).1
    have y9 : w1.cell? ⟨w.heap.size, 9, none⟩ = some (.slice h.aj d.J.length h.cj) := (P1 9 (by simp)).1
    have y10 : w1.cell? ⟨w.heap.size, 10, none⟩ = some (.slice h.az d.S.length h.cs) := (P1 10 (by simp)).1
    have y11 : w1.cell? ⟨w.heap.size, 11, none⟩ = some (.slice h.ao d.O.length h.co) := (P1 11 (by simp)).1
    go_wp2_with fail
    refine (l5Copy_any d.wk d.up d.now d.sn d.ep d.gv h.a1 h.a2 h.ar h.aj h.az h.ao b1 o1 _ h.c1 b2 o2 _ h.c2 b3 o3 _ h.cr b4 o4 _ h.cj b5 o5 _ h.cs b6 o6 _ h.co d.L1 d.L2 d.R d.J d.S d.O _ (h1.below' B1) (h2.below' B1) (h3.below' B1) (h4.below' B1) (h5.below' B1) (h6.below' B1) (by omega) (by omega) (by omega) (by omega) (by omega) (by omega)).mono ?_
    rintro e w2 ⟨a0_, c0_, a1_, c1_, a2_, c2_, a3_, c3_, a4_, c4_, a5_, c5_, rfl, ⟨q0, q1, q2, q3, q4, q5⟩, hdis, hb2⟩
    clear y0 y1 y2 y3 y4 y5 y6 y7 y8 y9 y10 y11
    go_upto_region 4 with fail
    obtain ⟨W3, hW3⟩ : ∃ V, V = w2.alloc (.cells #[.int .i64 d.wk, .bool d.up, .int .i64 d.now, .int .i64 d.sn, .int .i64 d.ep, .int .i64 d.gv, .slice a0_ d.L1.length c0_, .slice a1_ d.L2.length c1_, .slice a2_ d.R.length c2_, .slice a3_ d.J.length c3_, .slice a4_ d.S.length c4_, .slice a5_ d.O.length c5_] 40) := ⟨_, rfl⟩
    obtain ⟨Q5, hQ5⟩ : ∃ q, q = w2.heap.size := ⟨_, rfl⟩
    have hb3 : Below w2.heap.size w2 W3 := by rw [hW3]; exact (Below.refl _ _).alloc (Nat.le_refl _) _
    obtain ⟨h', hh'⟩ : ∃ x : BH, x = ⟨a0_, a1_, a2_, a3_, a4_, a5_, c0_, c1_, c2_, c3_, c4_, c5_⟩ := ⟨_, rfl⟩
    have hz2 := hb2.size
    have s0 : BtS w w1 d h' pa pn pc Q5 d.now d.J W3 := by
      subst hh'
      have bo2 : BossO w2 w1.heap.size d ⟨a0_, a1_, a2_, a3_, a4_, a5_, c0_, c1_, c2_, c3_, c4_, c5_⟩ := ⟨q0, q1, q2, q3, q4, q5, hdis⟩
      refine ⟨(L1.block (hb2.block _ (by omega))).block (hb3.block _ (by omega)), (R1.block (hb2.block _ (by omega))).block (hb3.block _ (by omega)), ?_, bo2.below hb3, rfl, hb2.trans (hb3.mono hz2), fun r hr q hq => by rw [hQ5]; exact bo2.lo r hr q hq, ⟨z1, by omega, by rw [hW3, hQ5]; simp⟩⟩
      rw [hW3, hQ5]
      exact CF.made w2 #[.int .i64 d.wk, .bool d.up, .int .i64 d.now, .int .i64 d.sn, .int .i64 d.ep, .int .i64 d.gv, .slice a0_ d.L1.length c0_, .slice a1_ d.L2.length c1_, .slice a2_ d.R.length c2_, .slice a3_ d.J.length c3_, .slice a4_ d.S.length c4_, .slice a5_ d.O.length c5_] 40
    rw [← hW3, ← hQ5]
    have HH := hid hh'
    clear hW3 hQ5 hb3 hb2 q0 q1 q2 q3 q4 q5 hdis hh' hz2 L1 R1 P1
    have y1 : W3.cell? ⟨Q5, 1, none⟩ = some (.bool d.up) := (s0.X5 1 (by simp)).1
    have y2 : W3.cell? ⟨Q5, 2, none⟩ = some (.int .i64 d.now) := (s0.X5 2 (by simp)).1
    by_cases hnow : d.now < 1000000
    case neg =>
      have hnow' : d.now ≥ 1000000 := by omega
      have HNW := hid hnow
      clear hnow y1 y2
      have y2 : W3.cell? ⟨Q5, 2, none⟩ = some (.int .i64 d.now) := (s0.X5 2 (by simp)).1
      go_upto_region 5 with fail
      clear y2
      have y0 : W3.cell? ⟨Q5, 0, none⟩ = some (.int .i64 d.wk) := (s0.X5 0 (by simp)).1
      have y1 : W3.cell? ⟨Q5, 1, none⟩ = some (.bool d.up) := (s0.X5 1 (by simp)).1
      have y2 : W3.cell? ⟨Q5, 2, none⟩ = some (.int .i64 d.now) := (s0.X5 2 (by simp)).1
      have y3 : W3.cell? ⟨Q5, 3, none⟩ = some (.int .i64 d.sn) := (s0.X5 3 (by simp)).1
      have y4 : W3.cell? ⟨Q5, 4, none⟩ = some (.int .i64 d.ep) := (s0.X5 4 (by simp)).1
      have y5 : W3.cell? ⟨Q5, 5, none⟩ = some (.int .i64 d.gv) := (s0.X5 5 (by simp)).1
      have y6 : W3.cell? ⟨Q5, 6, none⟩ = some (.slice h'.a1 d.L1.length h'.c1) := (s0.X5 6 (by simp)).1
      have y7 : W3.cell? ⟨Q5, 7, none⟩ = some (.slice h'.a2 d.L2.length h'.c2) := (s0.X5 7 (by simp)).1
      have y8 : W3.cell? ⟨Q5, 8, none⟩ = some (.slice h'.ar d.R.length h'.cr) := (s0.X5 8 (by simp)).1
      have y9 : W3.cell? ⟨Q5, 9, none⟩ = some (.slice h'.aj d.J.length h'.cj) := (s0.X5 9 (by simp)).1
      have y10 : W3.cell? ⟨Q5, 10, none⟩ = some (.slice h'.az d.S.length h'.cs) := (s0.X5 10 (by simp)).1
      have y11 : W3.cell? ⟨Q5, 11, none⟩ = some (.slice h'.ao d.O.length h'.co) := (s0.X5 11 (by simp)).1
      go_wp2_with (refine wpList_store_cf rfl 43 (.tmp 4) (.tmp 21) rfl (w.heap.size + 2) [.int .i64 0, .bool false, .int .i64 0, .int .i64 0, .int .i64 0, .int .i64 0, .slice none 0 0, .slice none 0 0, .slice none 0 0, .slice none 0 0, .slice none 0 0, .slice none 0 0, .slice none 0 0] [.int .i64 d.wk, .bool d.up, .int .i64 d.now, .int .i64 d.sn, .int .i64 d.ep, .int .i64 d.gv, .slice h'.a1 d.L1.length h'.c1, .slice h'.a2 d.L2.length h'.c2, .slice h'.ar d.R.length h'.cr, .slice h'.aj d.J.length h'.cj, .slice h'.az d.S.length h'.cs, .slice h'.ao d.O.length h'.co, .slice none 0 0] rfl rfl s0.A4 rfl Tryz.sizeLd (one13 _ _ _ _ _ _ _ _ _ _ _ _ _ _ _ _ _ _ _ _ _ _ _ _ _ _ _) ?_; intro w10 hc10 hg10)
      clear y0 y1 y2 y3 y4 y5 y6 y7 y8 y9 y10 y11
      have k0 : w10.cell? ⟨w.heap.size + 2, 0, none⟩ = some (.int .i64 d.wk) := (hc10 0 (by simp)).1
      have k1 : w10.cell? ⟨w.heap.size + 2, 1, none⟩ = some (.bool d.up) := (hc10 1 (by simp)).1
      have k2 : w10.cell? ⟨w.heap.size + 2, 2, none⟩ = some (.int .i64 d.now) := (hc10 2 (by simp)).1
      have k3 : w10.cell? ⟨w.heap.size + 2, 3, none⟩ = some (.int .i64 d.sn) := (hc10 3 (by simp)).1
      have k4 : w10.cell? ⟨w.heap.size + 2, 4, none⟩ = some (.int .i64 d.ep) := (hc10 4 (by simp)).1
      have k5 : w10.cell? ⟨w.heap.size + 2, 5, none⟩ = some (.int .i64 d.gv) := (hc10 5 (by simp)).1
      have k6 : w10.cell? ⟨w.heap.size + 2, 6, none⟩ = some (.slice h'.a1 d.L1.length h'.c1) := (hc10 6 (by simp)).1
      have k7 : w10.cell? ⟨w.heap.size + 2, 7, none⟩ = some (.slice h'.a2 d.L2.length h'.c2) := (hc10 7 (by simp)).1
      have k8 : w10.cell? ⟨w.heap.size + 2, 8, none⟩ = some (.slice h'.ar d.R.length h'.cr) := (hc10 8 (by simp)).1
      have k9 : w10.cell? ⟨w.heap.size + 2, 9, none⟩ = some (.slice h'.aj d.J.length h'.cj) := (hc10 9 (by simp)).1
      have k10 : w10.cell? ⟨w.heap.size + 2, 10, none⟩ = some (.slice h'.az d.S.length h'.cs) := (hc10 10 (by simp)).1
      have k11 : w10.cell? ⟨w.heap.size + 2, 11, none⟩ = some (.slice h'.ao d.O.length h'.co) := (hc10 11 (by simp)).1
      have k12 : w10.cell? ⟨w.heap.size + 2, 12, none⟩ = some (.slice none 0 0) := (hc10 12 (by simp)).1
      have hL := s0.led B1 hg10
      exact bodyPost_ret (v := .agg #[.int .i64 d.wk, .bool d.up, .int .i64 d.now, .int .i64 d.sn, .int .i64 d.ep, .int .i64 d.gv, .slice h'.a1 d.L1.length h'.c1, .slice h'.a2 d.L2.length h'.c2, .slice h'.ar d.R.length h'.cr, .slice h'.aj d.J.length h'.cj, .slice h'.az d.S.length h'.cs, .slice h'.ao d.O.length h'.co, .slice none 0 0]) (by simp [results, Tryz.results6, go_sem, k0, k1, k2, k3, k4, k5, k6, k7, k8, k9, k10, k11, k12]) rfl ⟨⟨d.nj d.now d.J, h', .slice none 0 0, [], [], rfl, hL.1, .inl ⟨HV.out, by unfold tickB; rw [if_pos (by have := HNW.out; omega)]; rfl⟩⟩, hL.2⟩
    have hnow' : ¬ d.now ≥ 1000000 := by omega
    have hnow0 : 0 ≤ d.now := HV.out.2.2.1.1
    have f2 : W3.frozen? ⟨Q5, 2, none⟩ = false := (s0.X5 2 (by simp)).2
    go_upto_region 7 with fail
    have s1 := s0.setNow (d.now + 1)
    obtain ⟨W4, hW4⟩ : ∃ V, V = W3.setCell ⟨Q5, 2, none⟩ (.int .i64 (d.now + 1)) := ⟨_, rfl⟩
    rw [← hW4] at s1
    rw [← hW4]
    clear hW4 s0 y1 y2 f2
    have y1 : W4.cell? ⟨Q5, 1, none⟩ = some (.bool d.up) := (s1.X5 1 (by simp)).1
    cases hup : d.up with
    | false =>
      rw [hup] at y1
      have HUP := hid hup
      clear hup
      go_upto_region 8 with fail
      clear y1
      have y0 : W4.cell? ⟨Q5, 0, none⟩ = some (.int .i64 d.wk) := (s1.X5 0 (by simp)).1
      have y1 : W4.cell? ⟨Q5, 1, none⟩ = some (.bool d.up) := (s1.X5 1 (by simp)).1
      have y2 : W4.cell? ⟨Q5, 2, none⟩ = some (.int .i64 (d.now + 1)) := (s1.X5 2 (by simp)).1
      have y3 : W4.cell? ⟨Q5, 3, none⟩ = some (.int .i64 d.sn) := (s1.X5 3 (by simp)).1
      have y4 : W4.cell? ⟨Q5, 4, none⟩ = some (.int .i64 d.ep) := (s1.X5 4 (by simp)).1
      have y5 : W4.cell? ⟨Q5, 5, none⟩ = some (.int .i64 d.gv) := (s1.X5 5 (by simp)).1
      have y6 : W4.cell? ⟨Q5, 6, none⟩ = some (.slice h'.a1 d.L1.length h'.c1) := (s1.X5 6 (by simp)).1
      have y7 : W4.cell? ⟨Q5, 7, none⟩ = some (.slice h'.a2 d.L2.length h'.c2) := (s1.X5 7 (by simp)).1
      have y8 : W4.cell? ⟨Q5, 8, none⟩ = some (.slice h'.ar d.R.length h'.cr) := (s1.X5 8 (by simp)).1
      have y9 : W4.cell? ⟨Q5, 9, none⟩ = some (.slice h'.aj d.J.length h'.cj) := (s1.X5 9 (by simp)).1
      have y10 : W4.cell? ⟨Q5, 10, none⟩ = some (.slice h'.az d.S.length h'.cs) := (s1.X5 10 (by simp)).1
      have y11 : W4.cell? ⟨Q5, 11, none⟩ = some (.slice h'.ao d.O.length h'.co) := (s1.X5 11 (by simp)).1
      go_wp2_with (refine wpList_store_cf rfl 43 (.tmp 4) (.tmp 30) rfl (w.heap.size + 2) [.int .i64 0, .bool false, .int .i64 0, .int .i64 0, .int .i64 0, .int .i64 0, .slice none 0 0, .slice none 0 0, .slice none 0 0, .slice none 0 0, .slice none 0 0, .slice none 0 0, .slice none 0 0] [.int .i64 d.wk, .bool d.up, .int .i64 (d.now + 1), .int .i64 d.sn, .int .i64 d.ep, .int .i64 d.gv, .slice h'.a1 d.L1.length h'.c1, .slice h'.a2 d.L2.length h'.c2, .slice h'.ar d.R.length h'.cr, .slice h'.aj d.J.length h'.cj, .slice h'.az d.S.length h'.cs, .slice h'.ao d.O.length h'.co, .slice none 0 0] rfl rfl s1.A4 rfl Tryz.sizeLd (one13 _ _ _ _ _ _ _ _ _ _ _ _ _ _ _ _ _ _ _ _ _ _ _ _ _ _ _) ?_; intro w10 hc10 hg10)
      clear y0 y1 y2 y3 y4 y5 y6 y7 y8 y9 y10 y11
      have k0 : w10.cell? ⟨w.heap.size + 2, 0, none⟩ = some (.int .i64 d.wk) := (hc10 0 (by simp)).1
      have k1 : w10.cell? ⟨w.heap.size + 2, 1, none⟩ = some (.bool d.up) := (hc10 1 (by simp)).1
      have k2 : w10.cell? ⟨w.heap.size + 2, 2, none⟩ = some (.int .i64 (d.now + 1)) := (hc10 2 (by simp)).1
      have k3 : w10.cell? ⟨w.heap.size + 2, 3, none⟩ = some (.int .i64 d.sn) := (hc10 3 (by simp)).1
      have k4 : w10.cell? ⟨w.heap.size + 2, 4, none⟩ = some (.int .i64 d.ep) := (hc10 4 (by simp)).1
      have k5 : w10.cell? ⟨w.heap.size + 2, 5, none⟩ = some (.int .i64 d.gv) := (hc10 5 (by simp)).1
      have k6 : w10.cell? ⟨w.heap.size + 2, 6, none⟩ = some (.slice h'.a1 d.L1.length h'.c1) := (hc10 6 (by simp)).1
      have k7 : w10.cell? ⟨w.heap.size + 2, 7, none⟩ = some (.slice h'.a2 d.L2.length h'.c2) := (hc10 7 (by simp)).1
      have k8 : w10.cell? ⟨w.heap.size + 2, 8, none⟩ = some (.slice h'.ar d.R.length h'.cr) := (hc10 8 (by simp)).1
      have k9 : w10.cell? ⟨w.heap.size + 2, 9, none⟩ = some (.slice h'.aj d.J.length h'.cj) := (hc10 9 (by simp)).1
      have k10 : w10.cell? ⟨w.heap.size + 2, 10, none⟩ = some (.slice h'.az d.S.length h'.cs) := (hc10 10 (by simp)).1
      have k11 : w10.cell? ⟨w.heap.size + 2, 11, none⟩ = some (.slice h'.ao d.O.length h'.co) := (hc10 11 (by simp)).1
      have k12 : w10.cell? ⟨w.heap.size + 2, 12, none⟩ = some (.slice none 0 0) := (hc10 12 (by simp)).1
      have hL := s1.led B1 hg10
      exact bodyPost_ret (v := .agg #[.int .i64 d.wk, .bool d.up, .int .i64 (d.now + 1), .int .i64 d.sn, .int .i64 d.ep, .int .i64 d.gv, .slice h'.a1 d.L1.length h'.c1, .slice h'.a2 d.L2.length h'.c2, .slice h'.ar d.R.length h'.cr, .slice h'.aj d.J.length h'.cj, .slice h'.az d.S.length h'.cs, .slice h'.ao d.O.length h'.co, .slice none 0 0]) (by simp [results, Tryz.results6, go_sem, k0, k1, k2, k3, k4, k5, k6, k7, k8, k9, k10, k11, k12]) rfl ⟨⟨d.nj (d.now + 1) d.J, h', .slice none 0 0, [], [], rfl, hL.1, .inl ⟨HV.out, by unfold tickB; rw [if_neg (by omega), if_pos HUP.out]; rfl⟩⟩, hL.2⟩
    | true =>
      rw [hup] at y1
      have HUP := hid hup
      clear hup
      go_wp2_with fail
      clear y1
      go_loopw [6] (fun x wr => ∃ i : Nat, i ≤ d.J.length ∧ x = .int .i64 i ∧ BtS w w1 d h' pa pn pc Q5 (d.now + 1) (jE (d.now + 1) d.J i) wr) (fun x _ => d.J.length - (intOf x).toNat)
      case atStart => exact ⟨0, Nat.zero_le _, rfl, by rw [jE_zero]; exact s1⟩
      case round =>
        clear s1
        obtain ⟨i, hi, rfl, hs⟩ := hrel
        have hjm : d.J.length ≤ 1048576 := by omega
        have y9' : wr.cell? ⟨Q5, 9, none⟩ = some (.slice h'.aj d.J.length h'.cj) := (hs.X5 9 (by simp)).1
        by_cases hlt : i < d.J.length
        case pos =>
          have hlt' : (i : Int) < (d.J.length : Int) := by omega
          go_upto_region 12 with fail
          obtain ⟨bj, oj, cj, hje, _, _⟩ := hs.bo.o3.set3 (i := i) (by show i < (jE (d.now + 1) d.J i).length; rw [jE_len]; exact hlt)
          obtain ⟨lea, hlea⟩ : ∃ q, q = (t3 d.J i).1 := ⟨_, rfl⟩
          obtain ⟨unt, hunt⟩ : ∃ q, q = (t3 d.J i).2.2 := ⟨_, rfl⟩
          have hje1 : h'.aj = some ⟨bj, oj, none⟩ := by injection hje with e1 e2 e3
          have hc3 : ∀ r, r < 3 → wr.cell? ⟨bj, oj + (i * 3 + r), none⟩ = [Value.int .i64 (t3 d.J i).1, .int .i64 (t3 d.J i).2.1, .int .i64 (t3 d.J i).2.2][r]? := fun r hr => by
            rcases hs.bo.o3 with ⟨hx, _⟩ | ⟨g', o'', cap', hx, hc⟩
            · rw [hje] at hx; cases hx
            · rw [hje] at hx
              injection hx with e1 e2 e3
              injection e1 with e1
              injection e1 with e4 e5
              subst e4 e5
              have hl : i < (jE (d.now + 1) d.J i).length := by rw [jE_len]; exact hlt
              rw [hc.holds (i * 3 + r) (by show i * 3 + r < (jE (d.now + 1) d.J i).length * 3; omega), ← jE_get (now := (d.now + 1)) hlt]
              exact c3_get (jE (d.now + 1) d.J i) i r hl hr
          have jc0 : wr.cell? ⟨bj, oj + i * 3, none⟩ = some (.int .i64 lea) := by rw [hlea]; exact hc3 0 (by omega)
          have jc2 : wr.cell? ⟨bj, oj + i * 3 + 2, none⟩ = some (.int .i64 unt) := by rw [hunt]; exact hc3 2 (by omega)
          have y9 : wr.cell? ⟨Q5, 9, none⟩ = some (.slice (some ⟨bj, oj, none⟩) d.J.length h'.cj) := by rw [← hje1]; exact y9'
          have y2 : wr.cell? ⟨Q5, 2, none⟩ = some (.int .i64 (d.now + 1)) := (hs.X5 2 (by simp)).1
          have HLE := hid hlea
          have HUN := hid hunt
          clear hlea hunt hc3 hje hje1 y9'
          by_cases hl0 : lea = 0
          case pos =>
            have hd1 : decide (lea ≠ 0) = false := decide_eq_false (by omega)
            have HSAME := hid (show endJ (d.now + 1) (t3 d.J i) = t3 d.J i by unfold endJ; rw [if_neg]; intro hh; exact hh.1 (by rw [← HLE.out]; exact hl0))
            refine wp_region_held (S := fun w' => w'.cell? ⟨Q5, 9, none⟩ = some (.slice (some ⟨bj, oj, none⟩) d.J.length h'.cj) ∧ w'.cell? ⟨Q5, 2, none⟩ = some (.int .i64 (d.now + 1)) ∧ w'.cell? ⟨bj, oj + i * 3, none⟩ = some (.int .i64 lea) ∧ w'.cell? ⟨bj, oj + i * 3 + 2, none⟩ = some (.int .i64 unt)) (by kernel_rfl) ?_
            change wpAnyH _ _ _ _ _ _ _ _ (World.drew _)
            have hS0 : wr.drew.cell? ⟨Q5, 9, none⟩ = some (.slice (some ⟨bj, oj, none⟩) d.J.length h'.cj) ∧ wr.drew.cell? ⟨Q5, 2, none⟩ = some (.int .i64 (d.now + 1)) ∧ wr.drew.cell? ⟨bj, oj + i * 3, none⟩ = some (.int .i64 lea) ∧ wr.drew.cell? ⟨bj, oj + i * 3 + 2, none⟩ = some (.int .i64 unt) := ⟨y9, y2, jc0, jc2⟩
            refine hTk (i := 0) (d := some 38) (v := .pointer (some ⟨Q5, 9, none⟩)) (l' := (bt 18 1)) rfl (fun _ hc => run_faB8 (.tmp 5) (by kernel_rfl) (by kernel_rfl)) hS0 ?_
            refine hTk (i := 1) (d := some 39) (v := (.slice (some ⟨bj, oj, none⟩) d.J.length h'.cj)) (l' := (bt 18 3)) rfl (fun _ hc => run_ldJsB (.tmp 38) (by kernel_rfl) (by kernel_rfl) hc.1) hS0 ?_
            refine hTk (i := 2) (d := some 40) (v := .int .i64 (i : Nat)) (l' := (bt 18 7)) rfl (fun _ hc => run_mvF (.tmp 6) (by kernel_rfl) (by kernel_rfl)) hS0 ?_
            refine hTk (i := 3) (d := some 41) (v := .pointer (some ⟨bj, oj + i * 3, none⟩)) (l' := (bt 18 15)) rfl (fun _ hc => run_ixJ (.tmp 39) (.tmp 40) bj oj d.J.length h'.cj i (by kernel_rfl) (by kernel_rfl) (by kernel_rfl) hlt) hS0 ?_
            refine hTk (i := 4) (d := some 42) (v := .pointer (some ⟨bj, oj + i * 3, none⟩)) (l' := (bt 18 31)) rfl (fun _ hc => run_faJ0 (.tmp 41) (by kernel_rfl) (by kernel_rfl)) hS0 ?_
            refine hTk (i := 5) (d := some 43) (v := .int .i64 lea) (l' := (bt 18 63)) rfl (fun _ hc => run_ldInB (.tmp 42) (by kernel_rfl) (by kernel_rfl) hc.2.2.1) hS0 ?_
            refine hTk (i := 6) (d := some 44) (v := .bool false) (l' := (bt 18 127)) rfl (fun _ hc => run_neB (.tmp 43) (.const (.int .i64 0)) lea 0 false (by kernel_rfl) (by kernel_rfl) (by kernel_rfl) hd1) hS0 ?_
            refine hTk (i := 7) (d := some 45) (v := .bool false) (l' := (bt 18 255)) rfl (fun _ hc => run_mvF (.tmp 44) (by kernel_rfl) (by kernel_rfl)) hS0 ?_
            refine hTn (i := 8) (d := some 46) (l' := (bt 18 511)) rfl hS0 ?_
            refine hTn (i := 9) (d := some 47) (l' := (bt 18 1023)) rfl hS0 ?_
            refine hTn (i := 10) (d := some 48) (l' := (bt 18 2047)) rfl hS0 ?_
            refine hTn (i := 11) (d := some 49) (l' := (bt 18 4095)) rfl hS0 ?_
            refine hTn (i := 12) (d := some 50) (l' := (bt 18 8191)) rfl hS0 ?_
            refine hTn (i := 13) (d := some 51) (l' := (bt 18 16383)) rfl hS0 ?_
            refine hTn (i := 14) (d := some 52) (l' := (bt 18 32767)) rfl hS0 ?_
            refine hTn (i := 15) (d := some 53) (l' := (bt 18 65535)) rfl hS0 ?_
            refine hTn (i := 16) (d := some 54) (l' := (bt 18 131071)) rfl hS0 ?_
            refine hTk (i := 17) (d := some 55) (v := .bool false) (l' := (bt 18 262143)) rfl (fun _ hc => run_pkfB (.tmp 45) (.tmp 54) (.const (.bool false)) _ (by kernel_rfl) (by kernel_rfl) (by kernel_rfl)) hS0 ?_
            refine wpAnyH_done (by kernel_rfl) ?_ _
            have sd := hs.drew
            obtain ⟨u, hu⟩ : ∃ U, U = wr.drew := ⟨_, rfl⟩
            rw [← hu] at sd
            rw [← hu]
            clear hu hS0 hs y9 y2 jc0 jc2
            clear hl0 hd1 HLE HUN
            have HS := hid sd
            clear sd
            go_simp
            go_wp2_with fail
            go_roundw
            case rel => exact ⟨i + 1, by omega, by go_num, by rw [jE_same hlt (HSAME.out)]; exact HS.out⟩
            case measure => simp [intOf]; omega
          case neg =>
            have hd1 : decide (lea ≠ 0) = true := decide_eq_true hl0
            obtain ⟨b2, hd2⟩ : ∃ b, decide (unt ≤ (d.now + 1)) = b := ⟨_, rfl⟩
            refine wp_region_held (S := fun w' => w'.cell? ⟨Q5, 9, none⟩ = some (.slice (some ⟨bj, oj, none⟩) d.J.length h'.cj) ∧ w'.cell? ⟨Q5, 2, none⟩ = some (.int .i64 (d.now + 1)) ∧ w'.cell? ⟨bj, oj + i * 3, none⟩ = some (.int .i64 lea) ∧ w'.cell? ⟨bj, oj + i * 3 + 2, none⟩ = some (.int .i64 unt)) (by kernel_rfl) ?_
            change wpAnyH _ _ _ _ _ _ _ _ (World.drew _)
            have hS0 : wr.drew.cell? ⟨Q5, 9, none⟩ = some (.slice (some ⟨bj, oj, none⟩) d.J.length h'.cj) ∧ wr.drew.cell? ⟨Q5, 2, none⟩ = some (.int .i64 (d.now + 1)) ∧ wr.drew.cell? ⟨bj, oj + i * 3, none⟩ = some (.int .i64 lea) ∧ wr.drew.cell? ⟨bj, oj + i * 3 + 2, none⟩ = some (.int .i64 unt) := ⟨y9, y2, jc0, jc2⟩
            refine hTk (i := 0) (d := some 38) (v := .pointer (some ⟨Q5, 9, none⟩)) (l' := (bt 18 1)) rfl (fun _ hc => run_faB8 (.tmp 5) (by kernel_rfl) (by kernel_rfl)) hS0 ?_
            refine hTk (i := 1) (d := some 39) (v := (.slice (some ⟨bj, oj, none⟩) d.J.length h'.cj)) (l' := (bt 18 3)) rfl (fun _ hc => run_ldJsB (.tmp 38) (by kernel_rfl) (by kernel_rfl) hc.1) hS0 ?_
            refine hTk (i := 2) (d := some 40) (v := .int .i64 (i : Nat)) (l' := (bt 18 7)) rfl (fun _ hc => run_mvF (.tmp 6) (by kernel_rfl) (by kernel_rfl)) hS0 ?_
            refine hTk (i := 3) (d := some 41) (v := .pointer (some ⟨bj, oj + i * 3, none⟩)) (l' := (bt 18 15)) rfl (fun _ hc => run_ixJ (.tmp 39) (.tmp 40) bj oj d.J.length h'.cj i (by kernel_rfl) (by kernel_rfl) (by kernel_rfl) hlt) hS0 ?_
            refine hTk (i := 4) (d := some 42) (v := .pointer (some ⟨bj, oj + i * 3, none⟩)) (l' := (bt 18 31)) rfl (fun _ hc => run_faJ0 (.tmp 41) (by kernel_rfl) (by kernel_rfl)) hS0 ?_
            refine hTk (i := 5) (d := some 43) (v := .int .i64 lea) (l' := (bt 18 63)) rfl (fun _ hc => run_ldInB (.tmp 42) (by kernel_rfl) (by kernel_rfl) hc.2.2.1) hS0 ?_
            refine hTk (i := 6) (d := some 44) (v := .bool true) (l' := (bt 18 127)) rfl (fun _ hc => run_neB (.tmp 43) (.const (.int .i64 0)) lea 0 true (by kernel_rfl) (by kernel_rfl) (by kernel_rfl) hd1) hS0 ?_
            refine hTk (i := 7) (d := some 45) (v := .bool true) (l' := (bt 18 255)) rfl (fun _ hc => run_mvF (.tmp 44) (by kernel_rfl) (by kernel_rfl)) hS0 ?_
            refine hTk (i := 8) (d := some 46) (v := .pointer (some ⟨Q5, 9, none⟩)) (l' := (bt 18 511)) rfl (fun _ hc => run_faB8 (.tmp 5) (by kernel_rfl) (by kernel_rfl)) hS0 ?_
            refine hTk (i := 9) (d := some 47) (v := (.slice (some ⟨bj, oj, none⟩) d.J.length h'.cj)) (l' := (bt 18 1023)) rfl (fun _ hc => run_ldJsB (.tmp 46) (by kernel_rfl) (by kernel_rfl) hc.1) hS0 ?_
            refine hTk (i := 10) (d := some 48) (v := .int .i64 (i : Nat)) (l' := (bt 18 2047)) rfl (fun _ hc => run_mvF (.tmp 6) (by kernel_rfl) (by kernel_rfl)) hS0 ?_
            refine hTk (i := 11) (d := some 49) (v := .pointer (some ⟨bj, oj + i * 3, none⟩)) (l' := (bt 18 4095)) rfl (fun _ hc => run_ixJ (.tmp 47) (.tmp 48) bj oj d.J.length h'.cj i (by kernel_rfl) (by kernel_rfl) (by kernel_rfl) hlt) hS0 ?_
            refine hTk (i := 12) (d := some 50) (v := .pointer (some ⟨bj, oj + i * 3 + 2, none⟩)) (l' := (bt 18 8191)) rfl (fun _ hc => run_faJ2 (.tmp 49) (by kernel_rfl) (by kernel_rfl)) hS0 ?_
            refine hTk (i := 13) (d := some 51) (v := .int .i64 unt) (l' := (bt 18 16383)) rfl (fun _ hc => run_ldInB (.tmp 50) (by kernel_rfl) (by kernel_rfl) hc.2.2.2) hS0 ?_
            refine hTk (i := 14) (d := some 52) (v := .pointer (some ⟨Q5, 2, none⟩)) (l' := (bt 18 32767)) rfl (fun _ hc => run_faB2 (.tmp 5) (by kernel_rfl) (by kernel_rfl)) hS0 ?_
            refine hTk (i := 15) (d := some 53) (v := .int .i64 (d.now + 1)) (l' := (bt 18 65535)) rfl (fun _ hc => run_ldInB (.tmp 52) (by kernel_rfl) (by kernel_rfl) hc.2.1) hS0 ?_
            refine hTk (i := 16) (d := some 54) (v := .bool b2) (l' := (bt 18 131071)) rfl (fun _ hc => run_leB (.tmp 51) (.tmp 53) unt (d.now + 1) b2 (by kernel_rfl) (by kernel_rfl) (by kernel_rfl) hd2) hS0 ?_
            refine hTk (i := 17) (d := some 55) (v := .bool b2) (l' := (bt 18 262143)) rfl (fun _ hc => run_pkB (.tmp 45) (.tmp 54) (.const (.bool false)) _ (by kernel_rfl) (by kernel_rfl) (by kernel_rfl)) hS0 ?_
            refine wpAnyH_done (by kernel_rfl) ?_ _
            have sd := hs.drew
            obtain ⟨u, hu⟩ : ∃ U, U = wr.drew := ⟨_, rfl⟩
            rw [← hu] at sd
            rw [← hu]
            clear hu hS0 hs y9 y2 jc0 jc2
            cases b2
            case false =>
              have HSAME := hid (show endJ (d.now + 1) (t3 d.J i) = t3 d.J i by unfold endJ; rw [if_neg]; intro hh; have h9 := hh.2; rw [← HUN.out] at h9; exact (of_decide_eq_false hd2) h9)
              clear hl0 hd1 HLE HUN hd2
              have HS := hid sd
              clear sd
              go_simp
              go_wp2_with fail
              go_roundw
              case rel => exact ⟨i + 1, by omega, by go_num, by rw [jE_same hlt (HSAME.out)]; exact HS.out⟩
              case measure => simp [intOf]; omega
            case true =>
              have HEND := hid (show endJ (d.now + 1) (t3 d.J i) = (0, 0, 0) by unfold endJ; rw [if_pos ⟨by rw [← HLE.out]; exact hl0, by rw [← HUN.out]; exact of_decide_eq_true hd2⟩])
              clear hl0 hd1 HLE HUN hd2
              obtain ⟨bJ, oJ, cJ, hje, hth, hset⟩ := sd.bo.o3.set3 (i := i) (by show i < (jE (d.now + 1) d.J i).length; rw [jE_len]; exact hlt)
              obtain ⟨hje1, hje2⟩ : h'.aj = some ⟨bJ, oJ, none⟩ ∧ h'.cj = cJ := by injection hje with e1 e2 e3; exact ⟨e1, e3⟩
              have hrj : rowJ d h' = some bJ := by unfold rowJ; rw [hje1]; rfl
              have y9 : u.cell? ⟨Q5, 9, none⟩ = some (.slice (some ⟨bJ, oJ, none⟩) d.J.length h'.cj) := by rw [← hje1]; exact (sd.X5 9 (by simp)).1
              have HS := hid sd
              have HST := hid hset
              have HRJ := hid hrj
              clear hje hje1 hje2 sd hset hrj
              go_simp
              go_wp2_with (refine wpList_store_j3 rfl (.tmp 60) (.tmp 59) rfl bJ (oJ + i * 3) 0 0 0 rfl rfl hth ?_)
              have HNX := hid (show BtS w w1 d h' pa pn pc Q5 (d.now + 1) (jE (d.now + 1) d.J (i + 1)) (u.setCells bJ (oJ + i * 3) [.int .i64 0, .int .i64 0, .int .i64 0]) by
                have hq := HST.out ((0, 0, 0) : Tr)
                rw [← jE_set hlt, HEND.out]
                exact HS.out.endOne (by rw [List.length_set, jE_len]) HRJ.out (grown_setCells _ _ _ _ _ (World.grownBy.refl _ _)) hq)
              go_roundw
              case rel => exact ⟨i + 1, by omega, by go_num, HNX.out⟩
              case measure => simp [intOf]; omega
        case neg =>
          obtain rfl : i = d.J.length := by omega
          have hlt' : ¬ (d.J.length : Int) < (d.J.length : Int) := by omega
          go_upto_region 14 with fail
          clear y9'
          obtain ⟨hRl, hJl, hep, hgv, hS8, hsn, hO2⟩ := BD.upFacts HV.out HUP.out
          have hnm := Code.namesB HV.out.1.1
          have hpn := hT.len
          subst hpn
          have s2 : BtS w w1 d h' pa ts.length pc Q5 (d.now + 1) (d.J.map (endJ (d.now + 1))) wr := by rw [← jE_all]; exact hs
          clear hs
          have y0 : wr.cell? ⟨Q5, 0, none⟩ = some (.int .i64 d.wk) := (s2.X5 0 (by simp)).1
          have y1 : wr.cell? ⟨Q5, 1, none⟩ = some (.bool d.up) := (s2.X5 1 (by simp)).1
          have y2 : wr.cell? ⟨Q5, 2, none⟩ = some (.int .i64 (d.now + 1)) := (s2.X5 2 (by simp)).1
          have y3 : wr.cell? ⟨Q5, 3, none⟩ = some (.int .i64 d.sn) := (s2.X5 3 (by simp)).1
          have y4 : wr.cell? ⟨Q5, 4, none⟩ = some (.int .i64 d.ep) := (s2.X5 4 (by simp)).1
          have y5 : wr.cell? ⟨Q5, 5, none⟩ = some (.int .i64 d.gv) := (s2.X5 5 (by simp)).1
          have y6 : wr.cell? ⟨Q5, 6, none⟩ = some (.slice h'.a1 d.L1.length h'.c1) := (s2.X5 6 (by simp)).1
          have y7 : wr.cell? ⟨Q5, 7, none⟩ = some (.slice h'.a2 d.L2.length h'.c2) := (s2.X5 7 (by simp)).1
          have y8 : wr.cell? ⟨Q5, 8, none⟩ = some (.slice h'.ar d.R.length h'.cr) := (s2.X5 8 (by simp)).1
          have y9 : wr.cell? ⟨Q5, 9, none⟩ = some (.slice h'.aj d.J.length h'.cj) := (s2.X5 9 (by simp)).1
          have y10 : wr.cell? ⟨Q5, 10, none⟩ = some (.slice h'.az d.S.length h'.cs) := (s2.X5 10 (by simp)).1
          have y11 : wr.cell? ⟨Q5, 11, none⟩ = some (.slice h'.ao d.O.length h'.co) := (s2.X5 11 (by simp)).1
          rw [hRl] at y8
          rw [hJl] at y9
          have kp : wr.cell? ⟨w.heap.size + 1, 0, none⟩ = some (.slice pa ts.length pc) := (s2.P3 0 (by simp)).1
          obtain ⟨st, hst⟩ : ∃ s, s = handN d.ep (d.now + 1) d.R ts ⟨d.gv, (d.J.map (endJ (d.now + 1))), d.S, []⟩ ts.length := ⟨_, rfl⟩
          have hod := s2.od
          have hc : Calls Tryz.prog 25 #[.agg #[.int .i64 d.wk, .bool d.up, .int .i64 (d.now + 1), .int .i64 d.sn, .int .i64 d.ep, .int .i64 d.gv, .slice h'.a1 d.L1.length h'.c1, .slice h'.a2 d.L2.length h'.c2, .slice h'.ar ts.length h'.cr, .slice h'.aj ts.length h'.cj, .slice h'.az d.S.length h'.cs, .slice h'.ao d.O.length h'.co], .agg #[.slice pa ts.length pc]] wr fun e w' => ∃ v vs, e = .returned (.agg #[.int .i64 d.wk, .bool d.up, .int .i64 (d.now + 1), .int .i64 d.sn, .int .i64 d.ep, .int .i64 st.gv, .slice h'.a1 d.L1.length h'.c1, .slice h'.a2 d.L2.length h'.c2, .slice h'.ar ts.length h'.cr, .slice h'.aj ts.length h'.cj, .slice h'.az d.S.length h'.cs, .slice h'.ao d.O.length h'.co, v]) ∧ HdM w1 wr w1.heap.size (wr.heap.size + 4) (d.nj (d.now + 1) (d.J.map (endJ (d.now + 1)))) h' st v vs w' := by
            rw [hst]
            exact l5Hand_any (d.nj (d.now + 1) (d.J.map (endJ (d.now + 1)))) h' pa pb po pc ts w1 wr w1.heap.size rfl (hT.below' B1) s2.bo s2.hb (by omega) (BD.nj_fits hf.out _ _) hRl (by show (d.J.map (endJ (d.now + 1))).length = _; rw [List.length_map]; exact hJl) hnm.2.2.2.2 hnm.2.1 hep hgv ⟨by show 0 ≤ (d.now + 1); omega, by show (d.now + 1) ≤ 1000000; omega⟩ hS8
          have HCC := hid hc
          have HST := hid hst
          have HS2 := hid s2
          have HNM := hid hnm
          clear hc hst hnm s2 hRl hJl
          go_wp2_with fail
          refine HCC.out.mono ?_
          rintro e w3 ⟨v, vs, rfl, hH⟩
          clear HCC y0 y1 y2 y3 y4 y5 y6 y7 y8 y9 y10 y11 kp
          obtain ⟨va, vc, rfl⟩ := hH.ms.row.slc
          have s2 := HS2.out
          have A3 : CF w3 (w.heap.size + 2) [.int .i64 0, .bool false, .int .i64 0, .int .i64 0, .int .i64 0, .int .i64 0, .slice none 0 0, .slice none 0 0, .slice none 0 0, .slice none 0 0, .slice none 0 0, .slice none 0 0, .slice none 0 0] := s2.A4.block (hH.gr.block _ (by omega) (fun r hr e => by
            simp only [List.mem_cons, List.not_mem_nil, or_false] at hr
            rcases hr with rfl | rfl
            · have := s2.lo _ (rowJ_mem d h') (w.heap.size + 2) (by rw [← e]; unfold rowJ; show _ = (Value.slice h'.aj (d.J.map (endJ (d.now + 1))).length h'.cj).ownBlock; rw [List.length_map])
              omega
            · have := s2.lo _ (rowS_mem d h') (w.heap.size + 2) e
              omega))
          have hz3 := hH.sz
          clear s2 HS2
          go_upto_region 15 with fail
          obtain ⟨W7, hW7⟩ : ∃ V, V = w3.alloc (.cells #[.int .i64 d.wk, .bool d.up, .int .i64 (d.now + 1), .int .i64 d.sn, .int .i64 d.ep, .int .i64 st.gv, .slice h'.a1 d.L1.length h'.c1, .slice h'.a2 d.L2.length h'.c2, .slice h'.ar ts.length h'.cr, .slice h'.aj ts.length h'.cj, .slice h'.az d.S.length h'.cs, .slice h'.ao d.O.length h'.co, .slice va st.M.length vc] 43) := ⟨_, rfl⟩
          obtain ⟨Q7, hQ7⟩ : ∃ q, q = w3.heap.size := ⟨_, rfl⟩
          have hb7 : Below w3.heap.size w3 W7 := by rw [hW7]; exact (Below.refl _ _).alloc (Nat.le_refl _) _
          have L7 : CF W7 Q7 [.int .i64 d.wk, .bool d.up, .int .i64 (d.now + 1), .int .i64 d.sn, .int .i64 d.ep, .int .i64 st.gv, .slice h'.a1 d.L1.length h'.c1, .slice h'.a2 d.L2.length h'.c2, .slice h'.ar ts.length h'.cr, .slice h'.aj ts.length h'.cj, .slice h'.az d.S.length h'.cs, .slice h'.ao d.O.length h'.co, .slice va st.M.length vc] := by rw [hW7, hQ7]; exact CF.made w3 #[.int .i64 d.wk, .bool d.up, .int .i64 (d.now + 1), .int .i64 d.sn, .int .i64 d.ep, .int .i64 st.gv, .slice h'.a1 d.L1.length h'.c1, .slice h'.a2 d.L2.length h'.c2, .slice h'.ar ts.length h'.cr, .slice h'.aj ts.length h'.cj, .slice h'.az d.S.length h'.cs, .slice h'.ao d.O.length h'.co, .slice va st.M.length vc] 43
          have H7 := hH.below hb7
          have A7 := A3.block (hb7.block _ (by omega))
          have hv7 : ∀ q, (Value.slice va st.M.length vc).ownBlock = some q → q < Q7 := by rw [hQ7]; exact hH.ms.row.row_hi
          have hvs7 : ∀ j, j < st.M.length → ∀ q, (vs.getD j nilV).ownBlock = some q → q < Q7 := by rw [hQ7]; exact fun j hj => (hH.ms.dep j hj).row_hi
          have hq7 : wr.heap.size + 4 ≤ Q7 := by rw [hQ7]; exact hz3
          have hl7 : Q7 < W7.heap.size := by rw [hW7, hQ7]; simp
          rw [← hW7, ← hQ7]
          clear hW7 hQ7 hb7 hH A3 hz3
          have y3 : W7.cell? ⟨Q7, 3, none⟩ = some (.int .i64 d.sn) := (L7 3 (by simp)).1
          have f3 : W7.frozen? ⟨Q7, 3, none⟩ = false := (L7 3 (by simp)).2
          go_upto_region 16 with fail
          obtain ⟨W8, hW8⟩ : ∃ V, V = W7.setCell ⟨Q7, 3, none⟩ (.int .i64 (d.sn + 1)) := ⟨_, rfl⟩
          have g8 : W7.grownBy W8 (some Q7) := by rw [hW8]; exact gset (World.grownBy.refl W7 _) 3 _
          have L8 : CF W8 Q7 [.int .i64 d.wk, .bool d.up, .int .i64 (d.now + 1), .int .i64 (d.sn + 1), .int .i64 d.ep, .int .i64 st.gv, .slice h'.a1 d.L1.length h'.c1, .slice h'.a2 d.L2.length h'.c2, .slice h'.ar ts.length h'.cr, .slice h'.aj ts.length h'.cj, .slice h'.az d.S.length h'.cs, .slice h'.ao d.O.length h'.co, .slice va st.M.length vc] := by rw [hW8]; exact L7.set (j := 3) (by simp) _
          have dn7 : ∀ x : Value, (∀ q, x.ownBlock = some q → q < Q7) → Dn x.ownBlock (some Q7) := fun x hx => Dn.later (m := Q7) hx (fun q e => by injection e with e; omega)
          have H8 := H7.far g8 (by omega) (dn7 _ hv7) (fun j hj => dn7 _ (hvs7 j hj))
          have A8 := A7.block (g8.block _ (by omega) (by simp; omega))
          have z8 := g8.size
          rw [← hW8]
          clear hW8 g8 L7 H7 A7 y3 f3
          have y3 : W8.cell? ⟨Q7, 3, none⟩ = some (.int .i64 (d.sn + 1)) := (L8 3 (by simp)).1
          by_cases hfl : d.sn + 1 < 2
          case pos =>
            go_upto_region 17 with fail
            clear y3
            have y0 : W8.cell? ⟨Q7, 0, none⟩ = some (.int .i64 d.wk) := (L8 0 (by simp)).1
            have y1 : W8.cell? ⟨Q7, 1, none⟩ = some (.bool d.up) := (L8 1 (by simp)).1
            have y2 : W8.cell? ⟨Q7, 2, none⟩ = some (.int .i64 (d.now + 1)) := (L8 2 (by simp)).1
            have y3 : W8.cell? ⟨Q7, 3, none⟩ = some (.int .i64 (d.sn + 1)) := (L8 3 (by simp)).1
            have y4 : W8.cell? ⟨Q7, 4, none⟩ = some (.int .i64 d.ep) := (L8 4 (by simp)).1
            have y5 : W8.cell? ⟨Q7, 5, none⟩ = some (.int .i64 st.gv) := (L8 5 (by simp)).1
            have y6 : W8.cell? ⟨Q7, 6, none⟩ = some (.slice h'.a1 d.L1.length h'.c1) := (L8 6 (by simp)).1
            have y7 : W8.cell? ⟨Q7, 7, none⟩ = some (.slice h'.a2 d.L2.length h'.c2) := (L8 7 (by simp)).1
            have y8 : W8.cell? ⟨Q7, 8, none⟩ = some (.slice h'.ar ts.length h'.cr) := (L8 8 (by simp)).1
            have y9 : W8.cell? ⟨Q7, 9, none⟩ = some (.slice h'.aj ts.length h'.cj) := (L8 9 (by simp)).1
            have y10 : W8.cell? ⟨Q7, 10, none⟩ = some (.slice h'.az d.S.length h'.cs) := (L8 10 (by simp)).1
            have y11 : W8.cell? ⟨Q7, 11, none⟩ = some (.slice h'.ao d.O.length h'.co) := (L8 11 (by simp)).1
            have y12 : W8.cell? ⟨Q7, 12, none⟩ = some (.slice va st.M.length vc) := (L8 12 (by simp)).1
            go_wp2_with (refine wpList_store_cf rfl 43 (.tmp 4) (.tmp 74) rfl (w.heap.size + 2) [.int .i64 0, .bool false, .int .i64 0, .int .i64 0, .int .i64 0, .int .i64 0, .slice none 0 0, .slice none 0 0, .slice none 0 0, .slice none 0 0, .slice none 0 0, .slice none 0 0, .slice none 0 0] [.int .i64 d.wk, .bool d.up, .int .i64 (d.now + 1), .int .i64 (d.sn + 1), .int .i64 d.ep, .int .i64 st.gv, .slice h'.a1 d.L1.length h'.c1, .slice h'.a2 d.L2.length h'.c2, .slice h'.ar ts.length h'.cr, .slice h'.aj ts.length h'.cj, .slice h'.az d.S.length h'.cs, .slice h'.ao d.O.length h'.co, .slice va st.M.length vc] rfl rfl A8 rfl Tryz.sizeLd (one13 _ _ _ _ _ _ _ _ _ _ _ _ _ _ _ _ _ _ _ _ _ _ _ _ _ _ _) ?_; intro w10 hc10 hg10)
            clear y0 y1 y2 y3 y4 y5 y6 y7 y8 y9 y10 y11 y12
            have k0 : w10.cell? ⟨w.heap.size + 2, 0, none⟩ = some (.int .i64 d.wk) := (hc10 0 (by simp)).1
            have k1 : w10.cell? ⟨w.heap.size + 2, 1, none⟩ = some (.bool d.up) := (hc10 1 (by simp)).1
            have k2 : w10.cell? ⟨w.heap.size + 2, 2, none⟩ = some (.int .i64 (d.now + 1)) := (hc10 2 (by simp)).1
            have k3 : w10.cell? ⟨w.heap.size + 2, 3, none⟩ = some (.int .i64 (d.sn + 1)) := (hc10 3 (by simp)).1
            have k4 : w10.cell? ⟨w.heap.size + 2, 4, none⟩ = some (.int .i64 d.ep) := (hc10 4 (by simp)).1
            have k5 : w10.cell? ⟨w.heap.size + 2, 5, none⟩ = some (.int .i64 st.gv) := (hc10 5 (by simp)).1
            have k6 : w10.cell? ⟨w.heap.size + 2, 6, none⟩ = some (.slice h'.a1 d.L1.length h'.c1) := (hc10 6 (by simp)).1
            have k7 : w10.cell? ⟨w.heap.size + 2, 7, none⟩ = some (.slice h'.a2 d.L2.length h'.c2) := (hc10 7 (by simp)).1
            have k8 : w10.cell? ⟨w.heap.size + 2, 8, none⟩ = some (.slice h'.ar ts.length h'.cr) := (hc10 8 (by simp)).1
            have k9 : w10.cell? ⟨w.heap.size + 2, 9, none⟩ = some (.slice h'.aj ts.length h'.cj) := (hc10 9 (by simp)).1
            have k10 : w10.cell? ⟨w.heap.size + 2, 10, none⟩ = some (.slice h'.az d.S.length h'.cs) := (hc10 10 (by simp)).1
            have k11 : w10.cell? ⟨w.heap.size + 2, 11, none⟩ = some (.slice h'.ao d.O.length h'.co) := (hc10 11 (by simp)).1
            have k12 : w10.cell? ⟨w.heap.size + 2, 12, none⟩ = some (.slice va st.M.length vc) := (hc10 12 (by simp)).1
            have hL := H8.led (d.sn + 1) hg10 (by omega) (B' := w.heap.size) (by omega)
            have hBl : Below w.heap.size w w10 := (B1.trans (H8.hb.mono (by omega))).grown hg10 (by omega) (fun q e => by injection e with e; omega)
            have hjl : st.J.length = ts.length := by have := H8.lj.1; rw [this]; show (d.J.map (endJ (d.now + 1))).length = _; rw [List.length_map]; exact (BD.upFacts HV.out HUP.out).2.1
            have hsl : st.S.length = d.S.length := H8.lj.2
            refine bodyPost_ret (v := .agg #[.int .i64 d.wk, .bool d.up, .int .i64 (d.now + 1), .int .i64 (d.sn + 1), .int .i64 d.ep, .int .i64 st.gv, .slice h'.a1 d.L1.length h'.c1, .slice h'.a2 d.L2.length h'.c2, .slice h'.ar ts.length h'.cr, .slice h'.aj ts.length h'.cj, .slice h'.az d.S.length h'.cs, .slice h'.ao d.O.length h'.co, .slice va st.M.length vc]) (by simp [results, Tryz.results6, go_sem, k0, k1, k2, k3, k4, k5, k6, k7, k8, k9, k10, k11, k12]) rfl ⟨⟨_, h', .slice va st.M.length vc, st.M, vs, ?_, hL, .inl ⟨HV.out, ?_⟩⟩, hBl⟩
            · show Ending.returned (.agg _) = Ending.returned (.agg #[.int .i64 d.wk, .bool d.up, .int .i64 (d.now + 1), .int .i64 (d.sn + 1), .int .i64 d.ep, .int .i64 st.gv, .slice h'.a1 d.L1.length h'.c1, .slice h'.a2 d.L2.length h'.c2, .slice h'.ar d.R.length h'.cr, .slice h'.aj st.J.length h'.cj, .slice h'.az st.S.length h'.cs, .slice h'.ao d.O.length h'.co, .slice va st.M.length vc])
              rw [hjl, hsl, (BD.upFacts HV.out HUP.out).1]
            · unfold tickB
              rw [if_neg (by omega), if_neg (by rw [HUP.out]; simp), if_pos hfl, ← HST.out]
              rfl
          case neg =>
            have f3 : W8.frozen? ⟨Q7, 3, none⟩ = false := (L8 3 (by simp)).2
            go_upto_region 19 with fail
            have HFL := hid hfl
            obtain ⟨W9, hW9⟩ : ∃ V, V = W8.setCell ⟨Q7, 3, none⟩ (.int .i64 0) := ⟨_, rfl⟩
            have g9 : W8.grownBy W9 (some Q7) := by rw [hW9]; exact gset (World.grownBy.refl W8 _) 3 _
            have L9 : CF W9 Q7 [.int .i64 d.wk, .bool d.up, .int .i64 (d.now + 1), .int .i64 0, .int .i64 d.ep, .int .i64 st.gv, .slice h'.a1 d.L1.length h'.c1, .slice h'.a2 d.L2.length h'.c2, .slice h'.ar ts.length h'.cr, .slice h'.aj ts.length h'.cj, .slice h'.az d.S.length h'.cs, .slice h'.ao d.O.length h'.co, .slice va st.M.length vc] := by rw [hW9]; exact L8.set (j := 3) (by simp) _
            have H9 := H8.far g9 (by omega) (dn7 _ hv7) (fun j hj => dn7 _ (hvs7 j hj))
            have A9 := A8.block (g9.block _ (by omega) (by simp; omega))
            have z9 := g9.size
            rw [← hW9]
            clear hW9 g9 L8 H8 A8 y3 f3 hfl
            obtain ⟨bA, oA, hsA, _⟩ := H9.bo.o0.statB hf.out.s1
            obtain ⟨bB, oB, hsB, _⟩ := H9.bo.o1.statB hf.out.s2
            have y6 : W9.cell? ⟨Q7, 6, none⟩ = some (.slice h'.a1 d.L1.length h'.c1) := (L9 6 (by simp)).1
            have y7 : W9.cell? ⟨Q7, 7, none⟩ = some (.slice h'.a2 d.L2.length h'.c2) := (L9 7 (by simp)).1
            go_wp2_with fail
            refine (l4All_any h'.a1 h'.a2 bA oA d.L1.length h'.c1 bB oB d.L2.length h'.c2 d.L1 d.L2 _ hsA hsB (by omega) (by omega)).mono ?_
            rintro e w4 ⟨⟨v1, rfl, hv1⟩, hb4⟩
            obtain ⟨a1', c1', rfl⟩ := hv1.slc
            obtain ⟨L, hL, hLl⟩ : ∃ L, L = d.L1 ++ d.L2 ∧ L.length = d.L1.length + d.L2.length := ⟨_, rfl, List.length_append⟩
            rw [← hLl] at hv1
            rw [← hL] at hv1
            have L4 := L9.block (hb4.block _ (by omega))
            have H4 := H9.below hb4
            have A4 := A9.block (hb4.block _ (by omega))
            have z4 := hb4.size
            have hth : w4.there Q7 6 2 := fun j hj => by
              rcases (show j = 0 ∨ j = 1 by omega) with rfl | rfl
              · exact ⟨by rw [(L4 6 (by simp)).1]; rfl, (L4 6 (by simp)).2⟩
              · exact ⟨by rw [(L4 7 (by simp)).1]; rfl, (L4 7 (by simp)).2⟩
            clear y6 y7 hsA hsB
            go_upto_region 20 with (refine wpList_store_l2 rfl (.tmp 83) (.tmp 81) rfl Q7 6 a1' (d.L1.length + d.L2.length) c1' rfl rfl hth ?_)
            rw [← hLl]
            have HLL := hid (And.intro hL hLl)
            obtain ⟨wh, rfl⟩ : ∃ V, V = wr := ⟨_, rfl⟩
            obtain ⟨WT, hWT⟩ : ∃ V, V = w4.setCells Q7 6 [.slice a1' L.length c1', .slice none 0 0] := ⟨_, rfl⟩
            have gT : w4.grownBy WT (some Q7) := by rw [hWT]; exact grown_setCells _ _ _ _ _ (World.grownBy.refl _ _)
            have sT : ThS w1 wh (w.heap.size + 2) Q7 ts.length d (d.nj (d.now + 1) (d.J.map (endJ (d.now + 1)))) h' (d.now + 1) st.gv ⟨st.gv, st.J, st.S, st.M⟩ a1' c1' L (.slice va st.M.length vc) vs WT := by
              refine ⟨H4.far gT (by omega) (dn7 _ hv7) (fun j hj => dn7 _ (hvs7 j hj)), A4.block (gT.block _ (by omega) (by simp; omega)), ?_, (hv1.mono' (by omega)).grown gT (.inr (fun e => by have := hv1.row_lo Q7 e; omega)), ?_, fun j hj => ?_, dn7 _ hv7, fun j hj => dn7 _ (hvs7 j hj), ⟨hq7, by have := gT.size; omega, by omega⟩, ⟨va, vc, rfl⟩⟩
              · rw [hWT]
                exact (L4.set (j := 6) (by simp) (.slice a1' L.length c1')).set (j := 7) (by simp) (.slice none 0 0)
              · exact (Dn.later (m := Q7) hv7 (fun q e => by have := hv1.row_lo q e; omega)).symm
              · exact (Dn.later (m := Q7) (hvs7 j hj) (fun q e => by have := hv1.row_lo q e; omega)).symm
            rw [← hWT]
            clear hWT gT L4 H4 A4 hth hv1 hb4 L9 H9 A9 hL hLl
            obtain ⟨iM, hiM, hM0, hM1, hM2⟩ := info_parts Tryz.infoMs
            have hml : st.M.length ≤ 40 := by rw [HST.out]; exact Nat.le_trans (handN_lenM _ _ _ _ _ _) (by show 0 + ts.length ≤ 40; have := HNM.out.2.1; omega)
            go_wp2_with fail
            go_loopw [8] (fun x wq => ∃ (j : Nat) (v : Value) (vs : List Value) (M : List MgD), j ≤ d.O.length ∧ x = .int .i64 j ∧ M = st.M ++ (d.O.take j).map (thx d.ep) ∧ ThS w1 wh (w.heap.size + 2) Q7 ts.length d (d.nj (d.now + 1) (d.J.map (endJ (d.now + 1)))) h' (d.now + 1) st.gv ⟨st.gv, st.J, st.S, M⟩ a1' c1' L v vs wq) (fun x _ => d.O.length - (intOf x).toNat)
            case atStart => exact ⟨0, _, _, st.M, Nat.zero_le _, rfl, by simp, sT⟩
            case round =>
              clear sT
              obtain ⟨j, v, vs, M, hj, rfl, hMe, hs⟩ := hrel
              obtain ⟨va, vc, rfl⟩ := hs.vm
              have HME := hid hMe
              have hMl : M.length ≤ 2100 := by rw [hMe]; simp; omega
              clear hMe
              have y11' : wr.cell? ⟨Q7, 11, none⟩ = some (.slice h'.ao d.O.length h'.co) := (hs.L7 11 (by simp)).1
              by_cases hjn : j < d.O.length
              case pos =>
                have hjn' : (j : Int) < (d.O.length : Int) := by omega
                obtain ⟨bo, oo, co, hoe, _, _⟩ := hs.H.bo.o5.set3 (i := j) hjn
                have hoe1 : h'.ao = some ⟨bo, oo, none⟩ := by injection hoe with e1 e2 e3
                have hc3 : ∀ r, r < 3 → wr.cell? ⟨bo, oo + (j * 3 + r), none⟩ = [Value.int .i64 (t3 d.O j).1, .int .i64 (t3 d.O j).2.1, .int .i64 (t3 d.O j).2.2][r]? := fun r hr => by
                  rcases hs.H.bo.o5 with ⟨hx, _⟩ | ⟨g', o'', cap', hx, hc⟩
                  · rw [hoe] at hx; cases hx
                  · rw [hoe] at hx
                    injection hx with e1 e2 e3
                    injection e1 with e1
                    injection e1 with e4 e5
                    subst e4 e5
                    rw [hc.holds (j * 3 + r) (by show j * 3 + r < d.O.length * 3; omega)]
                    exact c3_get d.O j r hjn hr
                obtain ⟨x0, hx0⟩ : ∃ x, x = (t3 d.O j).1 := ⟨_, rfl⟩
                obtain ⟨x1, hx1⟩ : ∃ x, x = (t3 d.O j).2.1 := ⟨_, rfl⟩
                obtain ⟨x2, hx2⟩ : ∃ x, x = (t3 d.O j).2.2 := ⟨_, rfl⟩
                have oc0 : wr.cell? ⟨bo, oo + j * 3, none⟩ = some (.int .i64 x0) := by rw [hx0]; exact hc3 0 (by omega)
                have oc1 : wr.cell? ⟨bo, oo + j * 3 + 1, none⟩ = some (.int .i64 x1) := by rw [hx1]; exact hc3 1 (by omega)
                have oc2 : wr.cell? ⟨bo, oo + j * 3 + 2, none⟩ = some (.int .i64 x2) := by rw [hx2]; exact hc3 2 (by omega)
                have y11 : wr.cell? ⟨Q7, 11, none⟩ = some (.slice (some ⟨bo, oo, none⟩) d.O.length h'.co) := by rw [← hoe1]; exact y11'
                have HX := hid (And.intro hx0 hx1)
                clear hx0 hx1 hx2 hc3 hoe hoe1 y11'
                go_upto_region 24 with fail
                obtain ⟨WB, hWB⟩ : ∃ V, V = wr.alloc (.cells #[.int .i64 x0, .int .i64 x1, .int .i64 x2] 69) := ⟨_, rfl⟩
                obtain ⟨Q9, hQ9⟩ : ∃ q, q = wr.heap.size := ⟨_, rfl⟩
                have hbB : Below wr.heap.size wr WB := by rw [hWB]; exact (Below.refl _ _).alloc (Nat.le_refl _) _
                have cB : CF WB Q9 [.int .i64 x0, .int .i64 x1, .int .i64 x2] := by rw [hWB, hQ9]; exact CF.made wr #[.int .i64 x0, .int .i64 x1, .int .i64 x2] 69
                have sB := hs.below hbB
                rw [← hWB, ← hQ9]
                clear hWB hQ9 hbB hs oc0 oc1 oc2 y11
                have b0 : WB.cell? ⟨Q9, 0, none⟩ = some (.int .i64 x0) := (cB 0 (by simp)).1
                have b1 : WB.cell? ⟨Q9, 1, none⟩ = some (.int .i64 x1) := (cB 1 (by simp)).1
                have y4 : WB.cell? ⟨Q7, 4, none⟩ = some (.int .i64 d.ep) := (sB.L7 4 (by simp)).1
                have y12 : WB.cell? ⟨Q7, 12, none⟩ = some (.slice va M.length vc) := (sB.L7 12 (by simp)).1
                have hq := sB.q
                have hbA : Below WB.heap.size WB (WB.alloc (.cells #[.int .i64 4, .int .i64 0, .int .i64 x0, .int .i64 d.ep, .int .i64 x1, .int .i64 0, .string ⟨#[]⟩, .slice none 0 0] 71)) := (Below.refl _ _).alloc (Nat.le_refl _) _
                have own1 : Own (wh.heap.size + 4) (WB.alloc (.cells #[.int .i64 4, .int .i64 0, .int .i64 x0, .int .i64 d.ep, .int .i64 x1, .int .i64 0, .string ⟨#[]⟩, .slice none 0 0] 71)) 8 (.slice (some ⟨WB.heap.size, 0, none⟩) 1 1) 1 [.int .i64 4, .int .i64 0, .int .i64 x0, .int .i64 d.ep, .int .i64 x1, .int .i64 0, .string ⟨#[]⟩, .slice none 0 0] :=
                  .inr ⟨_, 0, 1, rfl, OwnC.made WB (wh.heap.size + 4) 71 8 1 1 _ 8 (by omega) (Nat.le_refl _) (by unfold maxLen; omega) rfl (Nat.le_refl _) _ rfl _ (.inl rfl)⟩
                have src1 : Src Tryz.prog 8 41 _ 1 _ (WB.alloc (.cells #[.int .i64 4, .int .i64 0, .int .i64 x0, .int .i64 d.ep, .int .i64 x1, .int .i64 0, .string ⟨#[]⟩, .slice none 0 0] 71)) := own1.src Tryz.underlying41 (one8 _ _ _ _ _ _ _ _ _ _)
                have rowA : Own (wh.heap.size + 4) (WB.alloc (.cells #[.int .i64 4, .int .i64 0, .int .i64 x0, .int .i64 d.ep, .int .i64 x1, .int .i64 0, .string ⟨#[]⟩, .slice none 0 0] 71)) 8 (.slice va M.length vc) M.length (rowM M vs) := sB.H.ms.row.below hbA (Nat.le_refl _)
                have L7A := sB.L7.block (hbA.block _ (by omega))
                have hne7 : some Q7 ≠ (Value.slice va M.length vc).ownBlock := fun e => by
                  rcases sB.n1 with h | h
                  · rw [h] at e; cases e
                  · exact h e.symm
                have HSB := hid sB
                obtain ⟨wA, hwA⟩ : ∃ V, V = WB.alloc (.cells #[.int .i64 4, .int .i64 0, .int .i64 x0, .int .i64 d.ep, .int .i64 x1, .int .i64 0, .string ⟨#[]⟩, .slice none 0 0] 71) := ⟨_, rfl⟩
                rw [← hwA] at hbA own1 src1 rowA L7A
                have hzA : wA.heap.size = WB.heap.size + 1 := by rw [hwA]; simp
                have HWA := hid hwA
                clear hwA sB own1 cB
                go_wp2_with (at_builtin; rw [← HWA.out]; refine wpList_append_c _ rfl _ _ 41 41 rfl (wh.heap.size + 4) 71 iM (.agg #[.int .i64 0, .int .i64 0, .int .i64 0, .int .i64 0, .int .i64 0, .int .i64 0, .string ⟨#[]⟩, .slice none 0 0]) 8 88 Tryz.underlying41 hiM hM0 hM1 hM2 rfl _ M.length _ rfl rowA _ 1 _ rfl src1 (by unfold maxLen; omega) (by omega) (by omega) ?_; intro v' w9 ho9 hg9 hbk9; obtain ⟨a9, c9, rfl⟩ := ho9.slc; have L9' := L7A.block (hg9.block _ (by omega) hne7); have f12 : w9.frozen? ⟨Q7, 12, none⟩ = false := (L9' 12 (by simp)).2; have l12 : w9.cell? ⟨Q7, 12, none⟩ = some (.slice va M.length vc) := (L9' 12 (by simp)).1)
                have HNXT := hid (show ThS w1 wh (w.heap.size + 2) Q7 ts.length d (d.nj (d.now + 1) (d.J.map (endJ (d.now + 1)))) h' (d.now + 1) st.gv ⟨st.gv, st.J, st.S, (M ++ [thx d.ep (t3 d.O j)])⟩ a1' c1' L (.slice a9 (M.length + 1) c9) (vs ++ [.slice none 0 0]) (w9.setCell ⟨Q7, 12, none⟩ (.slice a9 (M.length + 1) c9)) by
                  have hw := HWA.out
                  subst hw
                  have hx := HX.out
                  refine HSB.out.app (m := thx d.ep (t3 d.O j)) rfl ?_ hg9 hbk9
                  have e : mcell (thx d.ep (t3 d.O j)) (.slice none 0 0) = [.int .i64 4, .int .i64 0, .int .i64 x0, .int .i64 d.ep, .int .i64 x1, .int .i64 0, .string ⟨#[]⟩, .slice none 0 0] := by unfold thx mcell; rw [← hx.1, ← hx.2]
                  rw [e]; exact ho9)
                clear L9' f12 l12 ho9 hg9 hbk9 L7A rowA src1 hbA HSB y12 y4 b0 b1 hne7
                go_wp2_with fail
                go_roundw
                case rel => exact ⟨j + 1, _, _, M ++ [thx d.ep (t3 d.O j)], by omega, by go_num, by rw [thx_take hjn, HME.out, List.append_assoc], HNXT.out⟩
                case measure => simp [intOf]; omega
              case neg =>
                obtain rfl : j = d.O.length := by omega
                have hjn' : ¬ (d.O.length : Int) < (d.O.length : Int) := by omega
                have hq := hs.q
                have hbA : Below wr.heap.size wr (wr.alloc (.cells #[] 69)) := (Below.refl _ _).alloc (Nat.le_refl _) _
                have LA := hs.L7.block (hbA.block _ hq.2.1)
                have y11A : (wr.alloc (.cells #[] 69)).cell? ⟨Q7, 11, none⟩ = some (.slice h'.ao d.O.length h'.co) := (LA 11 (by simp)).1
                have f11A : (wr.alloc (.cells #[] 69)).frozen? ⟨Q7, 11, none⟩ = false := (LA 11 (by simp)).2
                go_upto_region 26 with fail
                obtain ⟨G, hG⟩ : ∃ q, q = wr.heap.size := ⟨_, rfl⟩
                obtain ⟨WS, hWS⟩ : ∃ V, V = wr.setCell ⟨Q7, 11, none⟩ (.slice (some ⟨G, 0, none⟩) 0 0) := ⟨_, rfl⟩
                have gS : wr.grownBy WS (some Q7) := by rw [hWS]; exact gset (World.grownBy.refl _ _) 11 _
                have zS : WS.heap.size = wr.heap.size := by rw [hWS]; simp
                obtain ⟨WE, hWE⟩ : ∃ V, V = WS.alloc (.cells #[] 69) := ⟨_, rfl⟩
                have hbE : Below WS.heap.size WS WE := by rw [hWE]; exact (Below.refl _ _).alloc (Nat.le_refl _) _
                have LE' : CF WE Q7 [.int .i64 d.wk, .bool d.up, .int .i64 (d.now + 1), .int .i64 0, .int .i64 d.ep, .int .i64 st.gv, .slice a1' L.length c1', .slice none 0 0, .slice h'.ar ts.length h'.cr, .slice h'.aj ts.length h'.cj, .slice h'.az d.S.length h'.cs, .slice (some ⟨G, 0, none⟩) 0 0, .slice va M.length vc] := by
                  have h0 : CF WS Q7 [.int .i64 d.wk, .bool d.up, .int .i64 (d.now + 1), .int .i64 0, .int .i64 d.ep, .int .i64 st.gv, .slice a1' L.length c1', .slice none 0 0, .slice h'.ar ts.length h'.cr, .slice h'.aj ts.length h'.cj, .slice h'.az d.S.length h'.cs, .slice (some ⟨G, 0, none⟩) 0 0, .slice va M.length vc] := by rw [hWS]; exact hs.L7.set (j := 11) (by simp) _
                  exact h0.block (hbE.block _ (by omega))
                have AE := (hs.A.block (gS.block _ (by have := hs.H.bs; have := hs.H.gr.size; omega) (by simp; have := hs.H.bs; omega))).block (hbE.block _ (by have := hs.H.bs; have := hs.H.gr.size; omega))
                have oE : OwnC wr.heap.size WE 3 G 0 0 0 [] := by
                  have := OwnC.made WS wr.heap.size 69 3 0 0 #[] 0 (by omega) (Nat.le_refl _) (Nat.zero_le _) rfl (Nat.le_refl _) [] rfl (0, 0) (.inl rfl)
                  rw [hG, ← zS, hWE]
                  rw [← zS] at this
                  exact this
                have kE : ∀ q, q < wr.heap.size → q ≠ Q7 → WE.heap[q]? = wr.heap[q]? := fun q h1 h2 => (hbE.block q (by omega)).trans (gS.block q h1 (fun e => by injection e with e; omega))
                have zE := hbE.size
                rw [← hG, ← hWS, ← hWE]
                have HSS := hid hs
                have BE : Below w.heap.size w WE := by
                  have h1 := B1.trans (hs.H.hb.mono (by omega))
                  have h2 := h1.grown gS h1.size (fun q e => by injection e with e; have := hs.H.bs; omega)
                  exact h2.trans (hbE.mono h2.size)
                have HG := hid hG
                clear hWE hWS gS hbE LA y11A f11A hbA y11' hG
                have y0 : WE.cell? ⟨Q7, 0, none⟩ = some (.int .i64 d.wk) := (LE' 0 (by simp)).1
                have y1 : WE.cell? ⟨Q7, 1, none⟩ = some (.bool d.up) := (LE' 1 (by simp)).1
                have y2 : WE.cell? ⟨Q7, 2, none⟩ = some (.int .i64 (d.now + 1)) := (LE' 2 (by simp)).1
                have y3 : WE.cell? ⟨Q7, 3, none⟩ = some (.int .i64 0) := (LE' 3 (by simp)).1
                have y4 : WE.cell? ⟨Q7, 4, none⟩ = some (.int .i64 d.ep) := (LE' 4 (by simp)).1
                have y5 : WE.cell? ⟨Q7, 5, none⟩ = some (.int .i64 st.gv) := (LE' 5 (by simp)).1
                have y6 : WE.cell? ⟨Q7, 6, none⟩ = some (.slice a1' L.length c1') := (LE' 6 (by simp)).1
                have y7 : WE.cell? ⟨Q7, 7, none⟩ = some (.slice none 0 0) := (LE' 7 (by simp)).1
                have y8 : WE.cell? ⟨Q7, 8, none⟩ = some (.slice h'.ar ts.length h'.cr) := (LE' 8 (by simp)).1
                have y9 : WE.cell? ⟨Q7, 9, none⟩ = some (.slice h'.aj ts.length h'.cj) := (LE' 9 (by simp)).1
                have y10 : WE.cell? ⟨Q7, 10, none⟩ = some (.slice h'.az d.S.length h'.cs) := (LE' 10 (by simp)).1
                have y11 : WE.cell? ⟨Q7, 11, none⟩ = some (.slice (some ⟨G, 0, none⟩) 0 0) := (LE' 11 (by simp)).1
                have y12 : WE.cell? ⟨Q7, 12, none⟩ = some (.slice va M.length vc) := (LE' 12 (by simp)).1
                go_wp2_with (refine wpList_store_cf rfl 43 (.tmp 4) (.tmp 114) rfl (w.heap.size + 2) [.int .i64 0, .bool false, .int .i64 0, .int .i64 0, .int .i64 0, .int .i64 0, .slice none 0 0, .slice none 0 0, .slice none 0 0, .slice none 0 0, .slice none 0 0, .slice none 0 0, .slice none 0 0] [.int .i64 d.wk, .bool d.up, .int .i64 (d.now + 1), .int .i64 0, .int .i64 d.ep, .int .i64 st.gv, .slice a1' L.length c1', .slice none 0 0, .slice h'.ar ts.length h'.cr, .slice h'.aj ts.length h'.cj, .slice h'.az d.S.length h'.cs, .slice (some ⟨G, 0, none⟩) 0 0, .slice va M.length vc] rfl rfl AE rfl Tryz.sizeLd (one13 _ _ _ _ _ _ _ _ _ _ _ _ _ _ _ _ _ _ _ _ _ _ _ _ _ _ _) ?_; intro w10 hc10 hg10)
                clear y0 y1 y2 y3 y4 y5 y6 y7 y8 y9 y10 y11 y12
                have k0 : w10.cell? ⟨w.heap.size + 2, 0, none⟩ = some (.int .i64 d.wk) := (hc10 0 (by simp)).1
                have k1 : w10.cell? ⟨w.heap.size + 2, 1, none⟩ = some (.bool d.up) := (hc10 1 (by simp)).1
                have k2 : w10.cell? ⟨w.heap.size + 2, 2, none⟩ = some (.int .i64 (d.now + 1)) := (hc10 2 (by simp)).1
                have k3 : w10.cell? ⟨w.heap.size + 2, 3, none⟩ = some (.int .i64 0) := (hc10 3 (by simp)).1
                have k4 : w10.cell? ⟨w.heap.size + 2, 4, none⟩ = some (.int .i64 d.ep) := (hc10 4 (by simp)).1
                have k5 : w10.cell? ⟨w.heap.size + 2, 5, none⟩ = some (.int .i64 st.gv) := (hc10 5 (by simp)).1
                have k6 : w10.cell? ⟨w.heap.size + 2, 6, none⟩ = some (.slice a1' L.length c1') := (hc10 6 (by simp)).1
                have k7 : w10.cell? ⟨w.heap.size + 2, 7, none⟩ = some (.slice none 0 0) := (hc10 7 (by simp)).1
                have k8 : w10.cell? ⟨w.heap.size + 2, 8, none⟩ = some (.slice h'.ar ts.length h'.cr) := (hc10 8 (by simp)).1
                have k9 : w10.cell? ⟨w.heap.size + 2, 9, none⟩ = some (.slice h'.aj ts.length h'.cj) := (hc10 9 (by simp)).1
                have k10 : w10.cell? ⟨w.heap.size + 2, 10, none⟩ = some (.slice h'.az d.S.length h'.cs) := (hc10 10 (by simp)).1
                have k11 : w10.cell? ⟨w.heap.size + 2, 11, none⟩ = some (.slice (some ⟨G, 0, none⟩) 0 0) := (hc10 11 (by simp)).1
                have k12 : w10.cell? ⟨w.heap.size + 2, 12, none⟩ = some (.slice va M.length vc) := (hc10 12 (by simp)).1
                have hs := HSS.out
                have hbs := hs.H.bs
                have hL := hs.led (w10 := w10) (B' := w.heap.size) (G := G) (fun q h1 h2 h3 => (hg10.block q (by omega) (fun e => by injection e with e; omega)).trans (kE q h1 h2)) (oE.grown hg10 (fun e => by injection e with e; have := HG.out; omega)) HG.out (by omega)
                have hBl : Below w.heap.size w w10 := BE.grown hg10 BE.size (fun q e => by injection e with e; omega)
                have hjl : st.J.length = ts.length := by have := hs.H.lj.1; rw [show st.J.length = _ from this]; show (d.J.map (endJ (d.now + 1))).length = _; rw [List.length_map]; exact (BD.upFacts HV.out HUP.out).2.1
                have hsl : st.S.length = d.S.length := hs.H.lj.2
                refine bodyPost_ret (v := .agg #[.int .i64 d.wk, .bool d.up, .int .i64 (d.now + 1), .int .i64 0, .int .i64 d.ep, .int .i64 st.gv, .slice a1' L.length c1', .slice none 0 0, .slice h'.ar ts.length h'.cr, .slice h'.aj ts.length h'.cj, .slice h'.az d.S.length h'.cs, .slice (some ⟨G, 0, none⟩) 0 0, .slice va M.length vc]) (by simp [results, Tryz.results6, go_sem, k0, k1, k2, k3, k4, k5, k6, k7, k8, k9, k10, k11, k12]) rfl ⟨⟨_, _, .slice va M.length vc, M, vs, ?_, hL, .inl ⟨HV.out, ?_⟩⟩, hBl⟩
                · show Ending.returned (.agg _) = Ending.returned (.agg #[.int .i64 d.wk, .bool d.up, .int .i64 (d.now + 1), .int .i64 0, .int .i64 d.ep, .int .i64 st.gv, .slice a1' L.length c1', .slice none 0 0, .slice h'.ar d.R.length h'.cr, .slice h'.aj st.J.length h'.cj, .slice h'.az st.S.length h'.cs, .slice (some ⟨G, 0, none⟩) 0 0, .slice va M.length vc])
                  rw [hjl, hsl, (BD.upFacts HV.out HUP.out).1]
                · unfold tickB
                  rw [if_neg (by omega), if_neg (by rw [HUP.out]; simp), if_neg (by have := HFL.out; omega), ← HST.out, HME.out, List.take_length, ← HLL.out.1]
                  rfl
end Go.Proofs.YtaeomkpofcbmiaaGreat
