
import Derived.Test.YtimpfhfgcmipgaaDoorQPlp
import Derived.Test.YtimpfhfgcmipgaaDoorQDrw
import Derived.Deep.DeepCutAuto
namespace Go.Proofs.YtimpfhfgcmipgaaDoor
open Go.RowKit

/-- A plan with small parts. -/
def smT (ts : List TaskD) : Prop := ∀ j, j < ts.length → (ts.getD j dT).name.size ≤ 1000 ∧ (-1000 ≤ (ts.getD j dT).cost ∧ (ts.getD j dT).cost ≤ 1000) ∧ (ts.getD j dT).deps.length ≤ 50 ∧ ∀ x ∈ (ts.getD j dT).deps, -1000 ≤ x ∧ x ≤ 1000
theorem smT.fit {ts : List TaskD} (h : smT ts) : fitT ts := fun j hj => by
  obtain ⟨h1, h2, _, h3⟩ := h j hj
  exact ⟨by unfold maxLen; omega, ⟨by omega, by omega⟩, fun x hx => by have := h3 x hx; exact ⟨by omega, by omega⟩⟩
theorem smT.tssz {ts : List TaskD} (h : smT ts) : ∀ i, i ≤ ts.length → tssz (ts.take i) ≤ i * 1050
  | 0, _ => by simp [Go.Proofs.YtimpfhfgcmipgaaDoor.tssz]
  | i + 1, hi => by
    have ih := smT.tssz h i (by omega)
    obtain ⟨h1, _, h2, _⟩ := h i (by omega)
    rw [takeT_snoc (show i < ts.length by omega), tssz_snoc]
    unfold tsz
    omega
theorem smT.snoc {ts : List TaskD} {t : TaskD} (h : smT ts) (h1 : t.name.size ≤ 1000) (h2 : -1000 ≤ t.cost ∧ t.cost ≤ 1000) (h3 : t.deps.length ≤ 50) (h4 : ∀ x ∈ t.deps, -1000 ≤ x ∧ x ≤ 1000) : smT (ts ++ [t]) := fun j hj => by
  rw [List.length_append, List.length_singleton] at hj
  by_cases e : j < ts.length
  · rw [show (ts ++ [t]).getD j dT = ts.getD j dT by simp [List.getD, List.getElem?_append_left e]]; exact h j e
  · obtain rfl : j = ts.length := by omega
    rw [show (ts ++ [t]).getD ts.length dT = t by simp [List.getD]]
    exact ⟨h1, h2, h3, h4⟩
def smD (ts : List TaskD) : Prop := ∀ j, j < ts.length → (ts.getD j dT).name.size ≤ 100 ∧ (ts.getD j dT).deps.length ≤ 40
theorem smD.snoc {ts : List TaskD} {t : TaskD} (h : smD ts) (h1 : t.name.size ≤ 100) (h3 : t.deps.length ≤ 40) : smD (ts ++ [t]) := fun j hj => by
  rw [List.length_append, List.length_singleton] at hj
  by_cases e : j < ts.length
  · rw [show (ts ++ [t]).getD j dT = ts.getD j dT by simp [List.getD, List.getElem?_append_left e]]; exact h j e
  · obtain rfl : j = ts.length := by omega
    rw [show (ts ++ [t]).getD ts.length dT = t by simp [List.getD]]
    exact ⟨h1, h3⟩
/-- One task more, by append. -/
theorem PlanO.app {w w9 : World} {B : Nat} {v v' : Value} {ts : List TaskD} {vs : List Value} {t : TaskD} {u : Value} {ob : Obj} (h : PlanO w B v ts vs) (hu : Own B w 1 u t.deps.length (t.deps.map (Value.int .i64))) (hud : Dn u.ownBlock v.ownBlock) (hdu : ∀ j, j < ts.length → Dn (vs.getD j nilV).ownBlock u.ownBlock)
    (ho : Own B w9 3 v' (ts.length + 1) (rowC ts vs ++ tcell t u)) (hg : (w.alloc ob).grownBy w9 v.ownBlock) (hbk : v'.ownBlock = v.ownBlock ∨ v'.ownBlock = some (w.alloc ob).heap.size) : PlanO w9 B v' (ts ++ [t]) (vs ++ [u]) := by
  have hb : Below w.heap.size w (w.alloc ob) := (Below.refl _ _).alloc (Nat.le_refl _) _
  have hz : (w.alloc ob).heap.size = w.heap.size + 1 := by simp
  have key : ∀ x : Value, Dn x.ownBlock v.ownBlock → (∀ q, x.ownBlock = some q → q < w.heap.size) → Dn x.ownBlock v'.ownBlock := fun x h1 h2 => by
    rcases hbk with e | e
    · rw [e]; exact h1
    · exact Dn.later h2 (fun q hq => by rw [e] at hq; injection hq with hq; omega)
  refine PlanO.snoc h.len (fun j hj => ((h.dep j hj).below hb (Nat.le_refl _)).grown hg (h.dr j hj)) h.dd ho ((hu.below hb (Nat.le_refl _)).grown hg hud) (fun j hj => key _ (h.dr j hj) (h.dep j hj).row_hi) (key _ hud hu.row_hi) hdu
/-- Amid the draw of a task: the task so far in block T, the reader in g; wi: the world at the round's start. -/
structure TD (wi : World) (g T : Nat) (vs : List Value) (k : Nat) (w : World) : Prop where
  m : CF w T vs
  rd : RD w g k
  gr : wi.grownBy w (some g)
  h1 : g < wi.heap.size
  hT : wi.heap.size ≤ T
  h3 : T < w.heap.size
section
variable {wi w w' : World} {g T k k' : Nat} {vs : List Value}
theorem TD.call (h : TD wi g T vs k w) (hg : w.grownBy w' (some g)) (hr : RD w' g k') : TD wi g T vs k' w' :=
  have := h.h1; have := h.hT; have := h.h3
  ⟨h.m.block (hg.block _ (by omega) (by simp; omega)), hr, grownBy_trans h.gr hg, h.h1, h.hT, Nat.lt_of_lt_of_le h.h3 hg.size⟩
theorem TD.store (h : TD wi g T vs k w) {j : Nat} (hj : j < vs.length) (u : Value) : TD wi g T (vs.set j u) k (w.setCell ⟨T, j, none⟩ u) :=
  have := h.h1; have := h.hT; have := h.h3
  ⟨h.m.set hj u, h.rd.set (by dsimp only; omega) u, ⟨h.gr.os, h.gr.tape, h.gr.output, by simpa [World.setCell] using h.gr.size, fun q hq hne => by rw [Below.heap_setCell _ _ _ _ (by dsimp only; omega)]; exact h.gr.block q hq hne⟩, h.h1, h.hT, by simpa [World.setCell] using h.h3⟩
theorem TD.grown (h : TD wi g T vs k w) {row : Option Nat} (hg : w.grownBy w' row) (hr : ∀ q, row = some q → T < q) : TD wi g T vs k w' :=
  have := h.h1; have := h.hT; have := h.h3
  ⟨h.m.block (hg.block _ (by omega) (fun e => by have := hr _ e.symm; omega)), h.rd.grown hg (fun q hq => by have := hr q hq; omega),
    ⟨hg.os.trans h.gr.os, hg.tape.trans h.gr.tape, hg.output.trans h.gr.output, Nat.le_trans h.gr.size hg.size, fun q hq hne => (hg.block q (Nat.lt_of_lt_of_le hq h.gr.size) (fun e => by have := hr q e.symm; omega)).trans (h.gr.block q hq hne)⟩, h.h1, h.hT, Nat.lt_of_lt_of_le h.h3 hg.size⟩
theorem TD.alloc (h : TD wi g T vs k w) (o : Obj) : TD wi g T vs k (w.alloc o) := h.grown (World.grownBy_alloc w o none) (fun q hq => by cases hq)
theorem TD.more (h : TD wi g T vs k w) (hk : k ≤ k') : TD wi g T vs k' w := ⟨h.m, h.rd.mono hk, h.gr, h.h1, h.hT, h.h3⟩
end
/-- Amid the draw of a plan: the plan's box Pp, the answer's box X. -/
structure DP (w : World) (g X Pp : Nat) (v : Value) (ts : List TaskD) (vs : List Value) (k : Nat) (wr : World) : Prop where
  P : CF wr Pp [v]
  R : CF wr X [.slice none 0 0]
  rd : RD wr g k
  gr : w.grownBy wr (some g)
  pl : PlanO wr (Pp + 1) v ts vs
  sm : smT ts
  sd : smD ts
  z : Pp < wr.heap.size
  gl : g < w.heap.size
  XP : w.heap.size ≤ X ∧ X < Pp

set_option maxHeartbeats 8000000 in
set_option maxRecDepth 100000 in
theorem l1Draw_any (g k : Nat) (w : World) (h : RD w g k) (hk : k ≤ 900000) :
    Calls Tryd.prog 30 #[.pointer (some ⟨g, 0, none⟩)] w fun e' w' => (∃ v ts vs, e' = .returned (.agg #[v]) ∧ PlanO w' w.heap.size v ts vs ∧ smT ts ∧ smD ts ∧ 1 ≤ ts.length ∧ ts.length ≤ 40) ∧ RD w' g (k + 5000) ∧ w.grownBy w' (some g) := by
  obtain ⟨q0, hq, hy0, hy1, hy2⟩ := info_parts Tryd.info3
  obtain ⟨iT, hiT, hT0, hT1, hT2⟩ := info_parts Tryd.info37
  have hgl := h.lt
  obtain ⟨W, hW⟩ : ∃ W, W = w.alloc (.cells #[.slice none 0 0] 28) := ⟨_, rfl⟩
  have hRW : RD W g k := by rw [hW]; exact h.keep (fun q hq => Below.heap_alloc _ _ _ (by omega))
  have hgW : w.grownBy W (some g) := by rw [hW]; exact galloc (World.grownBy.refl _ _) _
  have hbW : CF W w.heap.size [.slice none 0 0] := by rw [hW]; exact CF.made w #[.slice none 0 0] _
  have hsW : w.heap.size < W.heap.size := by rw [hW]; simp
  have HW := hid hW
  clear hW
  go_enter Tryd.func30, Tryd.ntmps30
  go_wp2_with fail
  rw [← HW.out]
  refine (pick_any g 6 k _ hRW (by omega) (by omega) (by omega)).mono ?_
  rintro e1 w1 ⟨⟨r1, hq1, rfl⟩, hr1, hg1⟩
  go_wp2_with fail
  refine (pick_any g 12 (k + 1) _ hr1 (by omega) (by omega) (by omega)).mono ?_
  rintro e2 w2 ⟨⟨r2, hq2, rfl⟩, hr2, hg2⟩
  have hg12 := grownBy_trans hg1 hg2
  have hs2 := hg12.size
  have HR : Hid (RD w2 g (k + 2) ∧ w.grownBy w2 (some g) ∧ CF w2 w.heap.size [.slice none 0 0] ∧ w.heap.size < w2.heap.size) := ⟨hr2, grownBy_trans hgW hg12, hbW.block (hg12.block _ hsW (by simp; omega)), by omega⟩
  clear hr1 hr2 hg1 hg2 hg12 hRW hgW hbW HW h hsW hs2
  go_upto_if 13 with fail
  go_cut [3] (fun nv wx => ∃ n : Nat, nv = .int .i64 n ∧ 1 ≤ n ∧ n ≤ 40 ∧ RD wx g (k + 2) ∧ w.grownBy wx (some g) ∧ CF wx w.heap.size [.slice none 0 0] ∧ w.heap.size < wx.heap.size)
  case first =>
    by_cases h20 : r2 = 0
    · subst h20
      go_wp2
      go_meet
      case rel => exact ⟨40, rfl, by omega, by omega, HR.out⟩
    · have h20' : ¬ (r2 : Int) = 0 := by omega
      go_wp2
      go_meet
      case rel => exact ⟨r1 + 1, by go_num, by omega, by omega, HR.out⟩
  case rest =>
    obtain ⟨n, rfl, hn1, hn40, hr2, hg2, hb2, hs2⟩ := hcut
    obtain ⟨W3, hW3⟩ : ∃ W, W = wc.alloc (.cells #[.slice none 0 0] 28) := ⟨_, rfl⟩
    obtain ⟨Pp, hPp⟩ : ∃ Pp, Pp = wc.heap.size := ⟨_, rfl⟩
    have S0 : DP w g w.heap.size Pp nilV [] [] (k + 2 + 0 * 100) W3 := by
      rw [hW3, hPp]
      exact ⟨CF.made wc #[.slice none 0 0] _, hb2.block (Below.heap_alloc _ _ _ (by omega)), (hr2.keep (fun q hq => Below.heap_alloc _ _ _ (by omega))).mono (by omega), galloc hg2 _, PlanO.nil _ _, fun j hj => absurd hj (by simp), fun j hj => absurd hj (by simp), by simp, hgl, ⟨Nat.le_refl _, hs2⟩⟩
    have HW3 := hid hW3
    have HPP := hid hPp
    have HS0 := hid S0
    clear hW3 hPp hr2 hg2 hb2 hs2 S0
    go_upto_region 5 with fail
    rw [← HW3.out]
    rw [← HPP.out]
    clear HW3 HPP
    go_wp2
    go_loopw [5] (fun x wr => ∃ i : Nat, i ≤ n ∧ x = .int .i64 i ∧ ∃ (v : Value) (ts : List TaskD) (vs : List Value), ts.length = i ∧ DP w g w.heap.size Pp v ts vs (k + 2 + i * 100) wr) (fun x _ => n - (intOf x).toNat)
    case atStart => exact ⟨0, Nat.zero_le _, rfl, _, _, _, rfl, HS0.out⟩
    case round =>
      clear HS0
      obtain ⟨wi, rfl⟩ : ∃ wi, wi = wr := ⟨_, rfl⟩
      obtain ⟨i, hin, rfl, v, ts, vs, rfl, S⟩ := hrel
      have HTS := hid (show ts.length ≤ 40 by omega)
      by_cases hlt : ts.length < n
      · have hlt' : (ts.length : Int) < (n : Int) := by omega
        have hrd := S.rd
        have HS := hid S
        clear S
        have hi40 : ts.length ≤ 40 := by omega
        go_wp2_with fail
        refine (l1Dec_2 ts.length _ (by omega)).mono ?_
        rintro e1 w11 ⟨⟨yd, rfl, hyd⟩, hb11⟩
        have hrd1 := hrd.below hb11
        have hg11 := grownBy_below (r := some g) hb11
        have hcat : ¬ 9223372036854775807 < 1 + yd.size := by omega
        obtain ⟨nmt, hnmt⟩ : ∃ nmt, nmt = (⟨#[116]⟩ ++ yd : ByteArray) := ⟨_, rfl⟩
        have hnz : nmt.size ≤ 10 := by rw [hnmt, ByteArray.size_append]; have : (⟨#[116]⟩ : ByteArray).size = 1 := rfl; omega
        have HNM := hid hnmt
        clear hnmt
        go_wp2_with fail
        refine (pick_any g 5 _ _ hrd1 (by omega) (by omega) (by omega)).mono ?_
        rintro e2 w12 ⟨⟨r12, hq12, rfl⟩, hr12, hg12⟩
        have hg12i := grownBy_trans hg11 hg12
        have hgi := hrd.lt
        have h12s := hg12i.size
        obtain ⟨W13, hW13⟩ : ∃ W, W = w12.alloc (.cells #[.string nmt, .int .i64 (1 + (r12 : Int)), .slice none 0 0] 37) := ⟨_, rfl⟩
        have hTD : TD wi g w12.heap.size [.string nmt, .int .i64 (1 + (r12 : Int)), .slice none 0 0] (k + 2 + ts.length * 100 + 1) W13 := by
          rw [hW13]
          exact ⟨CF.made w12 _ _, hr12.keep (fun q hq => Below.heap_alloc _ _ _ (by omega)), galloc hg12i _, hgi, h12s, by simp⟩
        obtain ⟨T, hT⟩ : ∃ T, T = w12.heap.size := ⟨_, rfl⟩
        rw [← hT] at hTD
        have HW13 := hid hW13
        have HT := hid hT
        clear hW13 hT hr12 hg12 hg11 hb11 hrd1 hrd
        go_wp2_with fail
        rw [← HNM.out]
        rw [← HW13.out]
        rw [← HT.out]
        refine (pick_any g 8 _ _ hTD.rd (by omega) (by omega) (by omega)).mono ?_
        rintro e3 w14 ⟨⟨r14, hq14, rfl⟩, hr14, hg14⟩
        have hS4 := hTD.call hg14 hr14
        clear hr14 hg14 hTD
        by_cases h140 : r14 = 0
        · subst h140
          have c1 : w14.cell? ⟨T, 1, none⟩ = some (.int .i64 (1 + (r12 : Int))) := (hS4.m 1 (by simp)).1
          have f1 : w14.frozen? ⟨T, 1, none⟩ = false := (hS4.m 1 (by simp)).2
          have hS5 := hS4.store (j := 1) (by simp) (.int .i64 20)
          simp only [List.set_cons_zero, List.set_cons_succ] at hS5
          clear hS4
          have HTD := hid hS5
          go_wp2
          go_loopw [7] (fun x wx => ∃ j : Nat, j ≤ ts.length ∧ x = .int .i64 j ∧ ∃ (dv : Value) (ds : List Int), ds.length ≤ 8 ∧ (∀ d ∈ ds, -1000 ≤ d ∧ d ≤ 1000) ∧ TD wi g T [.string nmt, .int .i64 20, dv] (k + 2 + ts.length * 100 + 2 + 2 * j) wx ∧ Own (T + 1) wx 1 dv ds.length (ds.map (Value.int .i64))) (fun x _ => ts.length - (intOf x).toNat)
          case atStart => exact ⟨0, Nat.zero_le _, rfl, _, [], by simp, (fun _ h => by cases h), HTD.out.more (by omega), Own.nil _ _ _⟩
          case round =>
            obtain ⟨j, hj, rfl, dv, ds, hd8, hds, hSj, ho⟩ := hrel
            obtain ⟨da, dc, rfl⟩ := ho.slc
            clear HTD
            have cd : wr.cell? ⟨T, 2, none⟩ = some (.slice da ds.length dc) := (hSj.m 2 (by simp)).1
            by_cases hji : j < ts.length
            · have hji' : (j : Int) < (ts.length : Int) := by omega
              by_cases hl8 : ds.length < 8
              · have hl8' : (ds.length : Int) < 8 := by omega
                go_wp2_with fail
                refine (pick_any g 3 _ _ hSj.rd (by omega) (by omega) (by omega)).mono ?_
                rintro e6 w6 ⟨⟨r6, hq6, rfl⟩, hr6, hg6⟩
                have hS6 := hSj.call hg6 hr6
                have hgT : g < T := by have := hSj.h1; have := hSj.hT; omega
                have ho6 := ho.grown hg6 (.inr (by intro hh; have := ho.row_lo _ hh; omega))
                clear hr6 hg6 cd hSj ho
                by_cases h60 : r6 = 0
                · subst h60
                  have cd1 : w6.cell? ⟨T, 2, none⟩ = some (.slice da ds.length dc) := (hS6.m 2 (by simp)).1
                  have hA := hS6.alloc (.cells #[.int .i64 (j : Int)] 3)
                  have cdA : (w6.alloc (.cells #[.int .i64 (j : Int)] 3)).cell? ⟨T, 2, none⟩ = some (.slice da ds.length dc) := (hA.m 2 (by simp)).1
                  have hoA := ho6.alloc (.cells #[.int .i64 (j : Int)] 3)
                  have hsrc : Src Tryd.prog 1 35 (.slice (some ⟨w6.heap.size, 0, none⟩) 1 1) 1 [.int .i64 (j : Int)] (w6.alloc (.cells #[.int .i64 (j : Int)] 3)) :=
                    Own.src (B := 0) (.inr ⟨_, 0, 1, rfl, OwnC.made w6 0 3 1 1 1 _ 1 (by omega) (Nat.le_refl _) (by unfold maxLen; omega) rfl (Nat.le_refl _) _ rfl _ (.inl rfl)⟩) Tryd.underlying35 (by simp; rfl)
                  have hTlt := hS6.h3
                  go_wp2_with (at_builtin; refine wpList_append_c _ rfl _ _ 35 35 rfl (T + 1) 3 q0 (.int .i64 0) 1 8 Tryd.underlying35 hq hy0 hy1 hy2 rfl _ ds.length _ rfl hoA _ 1 _ rfl hsrc (by unfold maxLen; omega) (by omega) (by simp; omega) ?_; intro v2 w9 ho9 hg9 hbk9; obtain ⟨a9, c9, rfl⟩ := ho9.slc; have hS9 := hA.grown hg9 (fun q hq => by have := hoA.row_lo q hq; omega); have c92 : w9.cell? ⟨T, 2, none⟩ = some (.slice da ds.length dc) := (hS9.m 2 (by simp)).1; have f92 : w9.frozen? ⟨T, 2, none⟩ = false := (hS9.m 2 (by simp)).2)
                  have hSf := hS9.store (j := 2) (by simp) (.slice a9 (ds.length + 1) c9)
                  simp only [List.set_cons_zero, List.set_cons_succ] at hSf
                  have hof := ho9.grown (gset (World.grownBy.refl w9 (some T)) 2 (.slice a9 (ds.length + 1) c9)) (.inr (by intro hh; have := ho9.row_lo _ hh; omega))
                  rw [show ds.map (Value.int .i64) ++ [.int .i64 (j : Int)] = (ds ++ [(j : Int)]).map (Value.int .i64) by simp] at hof
                  have hdy : ∀ d ∈ ds ++ [(j : Int)], -1000 ≤ d ∧ d ≤ 1000 := fun d hd => by
                    rcases List.mem_append.1 hd with hd | hd
                    · exact hds d hd
                    · rw [List.mem_singleton.1 hd]; omega
                  clear hA hoA hsrc hS9 ho9 hg9 hbk9 cd1 cdA c92 f92 hS6 ho6
                  go_wp2
                  go_roundw
                  case rel => exact ⟨j + 1, by omega, by go_num, _, ds ++ [(j : Int)], by simp; omega, hdy, hSf.more (by omega), by rw [List.length_append]; exact hof⟩
                  case measure => simp [intOf]; omega
                · have h60' : ¬ (r6 : Int) = 0 := by omega
                  have h60b : (((r6 : Nat) : Int) == 0) = false := by simp; omega
                  by_cases hjl : j = ts.length - 1
                  · have hjl' : (j : Int) = (ts.length : Int) - 1 := by omega
                    have hjb : ((j : Int) == (ts.length : Int) - 1) = true := by rw [hjl']; exact beq_self_eq_true _
                    clear hjl hjl'
                    go_wp2_with fail
                    refine (pick_any g 2 _ _ hS6.rd (by omega) (by omega) (by omega)).mono ?_
                    rintro e7 w7 ⟨⟨r7, hq7, rfl⟩, hr7, hg7⟩
                    have hS7 := hS6.call hg7 hr7
                    have ho7 := ho6.grown hg7 (.inr (by intro hh; have := ho6.row_lo _ hh; omega))
                    clear hr7 hg7 hS6 ho6
                    by_cases h70 : r7 = 0
                    · subst h70
                      have cd1 : w7.cell? ⟨T, 2, none⟩ = some (.slice da ds.length dc) := (hS7.m 2 (by simp)).1
                      have hA := hS7.alloc (.cells #[.int .i64 (j : Int)] 3)
                      have cdA : (w7.alloc (.cells #[.int .i64 (j : Int)] 3)).cell? ⟨T, 2, none⟩ = some (.slice da ds.length dc) := (hA.m 2 (by simp)).1
                      have hoA := ho7.alloc (.cells #[.int .i64 (j : Int)] 3)
                      have hsrc : Src Tryd.prog 1 35 (.slice (some ⟨w7.heap.size, 0, none⟩) 1 1) 1 [.int .i64 (j : Int)] (w7.alloc (.cells #[.int .i64 (j : Int)] 3)) :=
                        Own.src (B := 0) (.inr ⟨_, 0, 1, rfl, OwnC.made w7 0 3 1 1 1 _ 1 (by omega) (Nat.le_refl _) (by unfold maxLen; omega) rfl (Nat.le_refl _) _ rfl _ (.inl rfl)⟩) Tryd.underlying35 (by simp; rfl)
                      have hTlt := hS7.h3
                      go_wp2_with (at_builtin; refine wpList_append_c _ rfl _ _ 35 35 rfl (T + 1) 3 q0 (.int .i64 0) 1 8 Tryd.underlying35 hq hy0 hy1 hy2 rfl _ ds.length _ rfl hoA _ 1 _ rfl hsrc (by unfold maxLen; omega) (by omega) (by simp; omega) ?_; intro v2 w9 ho9 hg9 hbk9; obtain ⟨a9, c9, rfl⟩ := ho9.slc; have hS9 := hA.grown hg9 (fun q hq => by have := hoA.row_lo q hq; omega); have c92 : w9.cell? ⟨T, 2, none⟩ = some (.slice da ds.length dc) := (hS9.m 2 (by simp)).1; have f92 : w9.frozen? ⟨T, 2, none⟩ = false := (hS9.m 2 (by simp)).2)
                      have hSf := hS9.store (j := 2) (by simp) (.slice a9 (ds.length + 1) c9)
                      simp only [List.set_cons_zero, List.set_cons_succ] at hSf
                      have hof := ho9.grown (gset (World.grownBy.refl w9 (some T)) 2 (.slice a9 (ds.length + 1) c9)) (.inr (by intro hh; have := ho9.row_lo _ hh; omega))
                      rw [show ds.map (Value.int .i64) ++ [.int .i64 (j : Int)] = (ds ++ [(j : Int)]).map (Value.int .i64) by simp] at hof
                      have hdy : ∀ d ∈ ds ++ [(j : Int)], -1000 ≤ d ∧ d ≤ 1000 := fun d hd => by
                        rcases List.mem_append.1 hd with hd | hd
                        · exact hds d hd
                        · rw [List.mem_singleton.1 hd]; omega
                      clear hA hoA hsrc hS9 ho9 hg9 hbk9 cd1 cdA c92 f92 hS7 ho7
                      go_wp2
                      go_roundw
                      case rel => exact ⟨j + 1, by omega, by go_num, _, ds ++ [(j : Int)], by simp; omega, hdy, hSf.more (by omega), by rw [List.length_append]; exact hof⟩
                      case measure => simp [intOf]; omega
                    · have h70' : ¬ (r7 : Int) = 0 := by omega
                      have h70b : (((r7 : Nat) : Int) == 0) = false := by simp; omega
                      go_wp2
                      go_roundw
                      case rel => exact ⟨j + 1, by omega, by go_num, _, ds, hd8, hds, hS7.more (by omega), ho7⟩
                      case measure => simp [intOf]; omega
                  · have hjl' : ¬ (j : Int) = (ts.length : Int) - 1 := by omega
                    go_wp2
                    go_roundw
                    case rel => exact ⟨j + 1, by omega, by go_num, _, ds, hd8, hds, hS6.more (by omega), ho6⟩
                    case measure => simp [intOf]; omega
              · have hl8' : ¬ (ds.length : Int) < 8 := by omega
                have t0 : wr.cell? ⟨T, 0, none⟩ = some (.string nmt) := (hSj.m 0 (by simp)).1
                have t1 : wr.cell? ⟨T, 1, none⟩ = some (.int .i64 20) := (hSj.m 1 (by simp)).1
                have S := HS.out
                have hgl := S.gl
                have hXP := S.XP
                have hPz := S.z
                have hTh := hSj.hT
                have hT3 := hSj.h3
                have hgr := hSj.gr
                have hwz := S.gr.size
                have cP := S.P.block (hgr.block Pp hPz (by simp; omega))
                have cR := S.R.block (hgr.block w.heap.size (by omega) (by simp; omega))
                have pl := S.pl.grownNew hgr (fun x h1 _ => by omega)
                obtain ⟨va, vc, rfl⟩ := pl.row.slc
                have p0 : wr.cell? ⟨Pp, 0, none⟩ = some (.slice va ts.length vc) := (cP 0 (by simp)).1
                obtain ⟨WA, hWA⟩ : ∃ V, V = wr.alloc (.cells #[.string nmt, .int .i64 20, .slice da ds.length dc] 37) := ⟨_, rfl⟩
                have bA : Below wr.heap.size wr WA := by rw [hWA]; exact (Below.refl _ _).alloc (Nat.le_refl _) _
                have zA : WA.heap.size = wr.heap.size + 1 := by rw [hWA]; simp
                have own1 : Own (Pp + 1) WA 3 (.slice (some ⟨wr.heap.size, 0, none⟩) 1 1) 1 [.string nmt, .int .i64 20, .slice da ds.length dc] := by
                  rw [hWA]; exact .inr ⟨_, 0, 1, rfl, OwnC.made wr (Pp + 1) 37 3 1 1 _ 3 (by omega) (Nat.le_refl _) (by unfold maxLen; omega) rfl (Nat.le_refl _) _ rfl _ (.inl rfl)⟩
                have src1 : Src Tryd.prog 3 26 _ 1 _ WA := own1.src Tryd.underlying26 (by intro x hx; simp only [List.mem_cons, List.not_mem_nil, or_false] at hx; rcases hx with rfl | rfl | rfl <;> rfl)
                have plA := pl.row.below bA (Nat.le_refl _)
                have hdn : ds.length ≤ 50 := by omega
                have HU : Hid (PlanO wr (Pp + 1) (.slice va ts.length vc) ts vs ∧ Own (Pp + 1) wr 1 (.slice da ds.length dc) ds.length (ds.map (Value.int .i64)) ∧ Dn (Value.slice da ds.length dc).ownBlock (Value.slice va ts.length vc).ownBlock ∧ ∀ j, j < ts.length → Dn (vs.getD j nilV).ownBlock (Value.slice da ds.length dc).ownBlock) := by
                  have hlo : ∀ q, (Value.slice da ds.length dc).ownBlock = some q → T + 1 ≤ q := ho.row_lo
                  refine ⟨pl, ho.mono' (by omega), Dn.symm (Dn.later (m := wi.heap.size) S.pl.row.row_hi (fun q hq => by have := hlo q hq; omega)), fun j hj => Dn.later (m := wi.heap.size) (S.pl.dep j hj).row_hi (fun q hq => by have := hlo q hq; omega)⟩
                have HWA := hid hWA
                have cd2 := cd
                clear hWA own1 pl S
                go_wp2_with (at_builtin; rw [← HWA.out]; refine wpList_append_c _ rfl _ _ 26 26 rfl (Pp + 1) 37 iT (.agg #[.string ⟨#[]⟩, .int .i64 0, .slice none 0 0]) 3 48 Tryd.underlying26 hiT hT0 hT1 hT2 rfl _ ts.length _ rfl plA _ 1 _ rfl src1 (by have := HTS.out; unfold maxLen; omega) (by have := HTS.out; omega) (by omega) ?_; intro v' w9 ho9 hg9 hbk9; obtain ⟨va', vc', rfl⟩ := ho9.slc; have cP9 := (cP.block (bA.block Pp (by omega))).block (hg9.block Pp (by omega) (fun e => by have := plA.row_lo _ e.symm; omega)); have p9 : w9.cell? ⟨Pp, 0, none⟩ = some (.slice va ts.length vc) := (cP9 0 (by simp)).1; have f9 : w9.frozen? ⟨Pp, 0, none⟩ = false := (cP9 0 (by simp)).2)
                have gs := gset (World.grownBy.refl w9 (some Pp)) 0 (.slice va' (ts.length + 1) vc')
                have PL9 : PlanO w9 (Pp + 1) (.slice va' (ts.length + 1) vc') (ts ++ [⟨nmt, 20, ds⟩]) (vs ++ [.slice da ds.length dc]) := by
                  have hw := HWA.out
                  subst hw
                  exact PlanO.app HU.out.1 HU.out.2.1 HU.out.2.2.1 HU.out.2.2.2 ho9 hg9 hbk9
                have g9z := hg9.size
                have blk : ∀ x, x < wr.heap.size → x ≤ Pp → w9.heap[x]? = wr.heap[x]? := fun x hx hp => (hg9.block x (by omega) (fun e => by have := plA.row_lo _ e.symm; omega)).trans (bA.block x hx)
                have SN : DP w g w.heap.size Pp (.slice va' (ts.length + 1) vc') (ts ++ [⟨nmt, 20, ds⟩]) (vs ++ [.slice da ds.length dc]) (k + 2 + (ts.length + 1) * 100) (w9.setCell ⟨Pp, 0, none⟩ (.slice va' (ts.length + 1) vc')) := by
                  refine ⟨cP9.set (j := 0) (by simp) _, (cR.block (blk w.heap.size (by omega) (by omega))).block (gs.block w.heap.size (by omega) (by simp; omega)), ?_, ?_, ?_, HS.out.sm.snoc (by show nmt.size ≤ 1000; omega) (by show -1000 ≤ 20 ∧ 20 ≤ (1000 : Int); omega) hdn hds, HS.out.sd.snoc (by show nmt.size ≤ 100; omega) (by show ds.length ≤ 40; omega), by have := gs.size; omega, hgl, hXP⟩
                  · refine (hSj.rd.keep (fun q hq => (gs.block q (by omega) (by simp; omega)).trans (blk q (by omega) (by omega)))).mono ?_
                    have := HTS.out
                    omega
                  · have g1 := hgr
                    refine ⟨?_, ?_, ?_, ?_, fun q hq hne => ?_⟩
                    · exact (gs.os.trans (hg9.os.trans (bA.os.trans g1.os))).trans HS.out.gr.os
                    · exact (gs.tape.trans (hg9.tape.trans (bA.tape.trans g1.tape))).trans HS.out.gr.tape
                    · exact (gs.output.trans (hg9.output.trans (bA.output.trans g1.output))).trans HS.out.gr.output
                    · have := gs.size; omega
                    · exact (gs.block q (by omega) (by simp; omega)).trans ((blk q (by omega) (by omega)).trans ((g1.block q (by omega) hne).trans (HS.out.gr.block q hq hne)))
                  · exact PL9.grownNew gs (fun x h1 _ => by omega)
                have HSN := hid SN
                clear SN PL9 gs cP9 p9 f9 ho9 hg9 hbk9 HU plA src1 bA cP cR p0 t0 t1 cd cd2 hSj ho blk
                go_wp2
                go_roundw
                case rel => exact ⟨ts.length + 1, by omega, by go_num, _, _, _, by simp, HSN.out⟩
                case measure => simp [intOf]; omega
            · have hji' : ¬ (j : Int) < (ts.length : Int) := by omega
              have t0 : wr.cell? ⟨T, 0, none⟩ = some (.string nmt) := (hSj.m 0 (by simp)).1
              have t1 : wr.cell? ⟨T, 1, none⟩ = some (.int .i64 20) := (hSj.m 1 (by simp)).1
              have S := HS.out
              have hgl := S.gl
              have hXP := S.XP
              have hPz := S.z
              have hTh := hSj.hT
              have hT3 := hSj.h3
              have hgr := hSj.gr
              have hwz := S.gr.size
              have cP := S.P.block (hgr.block Pp hPz (by simp; omega))
              have cR := S.R.block (hgr.block w.heap.size (by omega) (by simp; omega))
              have pl := S.pl.grownNew hgr (fun x h1 _ => by omega)
              obtain ⟨va, vc, rfl⟩ := pl.row.slc
              have p0 : wr.cell? ⟨Pp, 0, none⟩ = some (.slice va ts.length vc) := (cP 0 (by simp)).1
              obtain ⟨WA, hWA⟩ : ∃ V, V = wr.alloc (.cells #[.string nmt, .int .i64 20, .slice da ds.length dc] 37) := ⟨_, rfl⟩
              have bA : Below wr.heap.size wr WA := by rw [hWA]; exact (Below.refl _ _).alloc (Nat.le_refl _) _
              have zA : WA.heap.size = wr.heap.size + 1 := by rw [hWA]; simp
              have own1 : Own (Pp + 1) WA 3 (.slice (some ⟨wr.heap.size, 0, none⟩) 1 1) 1 [.string nmt, .int .i64 20, .slice da ds.length dc] := by
                rw [hWA]; exact .inr ⟨_, 0, 1, rfl, OwnC.made wr (Pp + 1) 37 3 1 1 _ 3 (by omega) (Nat.le_refl _) (by unfold maxLen; omega) rfl (Nat.le_refl _) _ rfl _ (.inl rfl)⟩
              have src1 : Src Tryd.prog 3 26 _ 1 _ WA := own1.src Tryd.underlying26 (by intro x hx; simp only [List.mem_cons, List.not_mem_nil, or_false] at hx; rcases hx with rfl | rfl | rfl <;> rfl)
              have plA := pl.row.below bA (Nat.le_refl _)
              have hdn : ds.length ≤ 50 := by omega
              have HU : Hid (PlanO wr (Pp + 1) (.slice va ts.length vc) ts vs ∧ Own (Pp + 1) wr 1 (.slice da ds.length dc) ds.length (ds.map (Value.int .i64)) ∧ Dn (Value.slice da ds.length dc).ownBlock (Value.slice va ts.length vc).ownBlock ∧ ∀ j, j < ts.length → Dn (vs.getD j nilV).ownBlock (Value.slice da ds.length dc).ownBlock) := by
                have hlo : ∀ q, (Value.slice da ds.length dc).ownBlock = some q → T + 1 ≤ q := ho.row_lo
                refine ⟨pl, ho.mono' (by omega), Dn.symm (Dn.later (m := wi.heap.size) S.pl.row.row_hi (fun q hq => by have := hlo q hq; omega)), fun j hj => Dn.later (m := wi.heap.size) (S.pl.dep j hj).row_hi (fun q hq => by have := hlo q hq; omega)⟩
              have HWA := hid hWA
              have cd2 := cd
              clear hWA own1 pl S
              go_wp2_with (at_builtin; rw [← HWA.out]; refine wpList_append_c _ rfl _ _ 26 26 rfl (Pp + 1) 37 iT (.agg #[.string ⟨#[]⟩, .int .i64 0, .slice none 0 0]) 3 48 Tryd.underlying26 hiT hT0 hT1 hT2 rfl _ ts.length _ rfl plA _ 1 _ rfl src1 (by have := HTS.out; unfold maxLen; omega) (by have := HTS.out; omega) (by omega) ?_; intro v' w9 ho9 hg9 hbk9; obtain ⟨va', vc', rfl⟩ := ho9.slc; have cP9 := (cP.block (bA.block Pp (by omega))).block (hg9.block Pp (by omega) (fun e => by have := plA.row_lo _ e.symm; omega)); have p9 : w9.cell? ⟨Pp, 0, none⟩ = some (.slice va ts.length vc) := (cP9 0 (by simp)).1; have f9 : w9.frozen? ⟨Pp, 0, none⟩ = false := (cP9 0 (by simp)).2)
              have gs := gset (World.grownBy.refl w9 (some Pp)) 0 (.slice va' (ts.length + 1) vc')
              have PL9 : PlanO w9 (Pp + 1) (.slice va' (ts.length + 1) vc') (ts ++ [⟨nmt, 20, ds⟩]) (vs ++ [.slice da ds.length dc]) := by
                have hw := HWA.out
                subst hw
                exact PlanO.app HU.out.1 HU.out.2.1 HU.out.2.2.1 HU.out.2.2.2 ho9 hg9 hbk9
              have g9z := hg9.size
              have blk : ∀ x, x < wr.heap.size → x ≤ Pp → w9.heap[x]? = wr.heap[x]? := fun x hx hp => (hg9.block x (by omega) (fun e => by have := plA.row_lo _ e.symm; omega)).trans (bA.block x hx)
              have SN : DP w g w.heap.size Pp (.slice va' (ts.length + 1) vc') (ts ++ [⟨nmt, 20, ds⟩]) (vs ++ [.slice da ds.length dc]) (k + 2 + (ts.length + 1) * 100) (w9.setCell ⟨Pp, 0, none⟩ (.slice va' (ts.length + 1) vc')) := by
                refine ⟨cP9.set (j := 0) (by simp) _, (cR.block (blk w.heap.size (by omega) (by omega))).block (gs.block w.heap.size (by omega) (by simp; omega)), ?_, ?_, ?_, HS.out.sm.snoc (by show nmt.size ≤ 1000; omega) (by show -1000 ≤ 20 ∧ 20 ≤ (1000 : Int); omega) hdn hds, HS.out.sd.snoc (by show nmt.size ≤ 100; omega) (by show ds.length ≤ 40; omega), by have := gs.size; omega, hgl, hXP⟩
                · refine (hSj.rd.keep (fun q hq => (gs.block q (by omega) (by simp; omega)).trans (blk q (by omega) (by omega)))).mono ?_
                  have := HTS.out
                  omega
                · have g1 := hgr
                  refine ⟨?_, ?_, ?_, ?_, fun q hq hne => ?_⟩
                  · exact (gs.os.trans (hg9.os.trans (bA.os.trans g1.os))).trans HS.out.gr.os
                  · exact (gs.tape.trans (hg9.tape.trans (bA.tape.trans g1.tape))).trans HS.out.gr.tape
                  · exact (gs.output.trans (hg9.output.trans (bA.output.trans g1.output))).trans HS.out.gr.output
                  · have := gs.size; omega
                  · exact (gs.block q (by omega) (by simp; omega)).trans ((blk q (by omega) (by omega)).trans ((g1.block q (by omega) hne).trans (HS.out.gr.block q hq hne)))
                · exact PL9.grownNew gs (fun x h1 _ => by omega)
              have HSN := hid SN
              clear SN PL9 gs cP9 p9 f9 ho9 hg9 hbk9 HU plA src1 bA cP cR p0 t0 t1 cd cd2 hSj ho blk
              go_wp2
              go_roundw
              case rel => exact ⟨ts.length + 1, by omega, by go_num, _, _, _, by simp, HSN.out⟩
              case measure => simp [intOf]; omega
        · have h140' : ¬ (r14 : Int) = 0 := by omega
          have h140b : (((r14 : Nat) : Int) == 0) = false := by simp; omega
          have HTD := hid hS4
          go_wp2
          go_loopw [7] (fun x wx => ∃ j : Nat, j ≤ ts.length ∧ x = .int .i64 j ∧ ∃ (dv : Value) (ds : List Int), ds.length ≤ 8 ∧ (∀ d ∈ ds, -1000 ≤ d ∧ d ≤ 1000) ∧ TD wi g T [.string nmt, .int .i64 (1 + (r12 : Int)), dv] (k + 2 + ts.length * 100 + 2 + 2 * j) wx ∧ Own (T + 1) wx 1 dv ds.length (ds.map (Value.int .i64))) (fun x _ => ts.length - (intOf x).toNat)
          case atStart => exact ⟨0, Nat.zero_le _, rfl, _, [], by simp, (fun _ h => by cases h), HTD.out.more (by omega), Own.nil _ _ _⟩
          case round =>
            obtain ⟨j, hj, rfl, dv, ds, hd8, hds, hSj, ho⟩ := hrel
            obtain ⟨da, dc, rfl⟩ := ho.slc
            clear HTD
            have cd : wr.cell? ⟨T, 2, none⟩ = some (.slice da ds.length dc) := (hSj.m 2 (by simp)).1
            by_cases hji : j < ts.length
            · have hji' : (j : Int) < (ts.length : Int) := by omega
              by_cases hl8 : ds.length < 8
              · have hl8' : (ds.length : Int) < 8 := by omega
                go_wp2_with fail
                refine (pick_any g 3 _ _ hSj.rd (by omega) (by omega) (by omega)).mono ?_
                rintro e6 w6 ⟨⟨r6, hq6, rfl⟩, hr6, hg6⟩
                have hS6 := hSj.call hg6 hr6
                have hgT : g < T := by have := hSj.h1; have := hSj.hT; omega
                have ho6 := ho.grown hg6 (.inr (by intro hh; have := ho.row_lo _ hh; omega))
                clear hr6 hg6 cd hSj ho
                by_cases h60 : r6 = 0
                · subst h60
                  have cd1 : w6.cell? ⟨T, 2, none⟩ = some (.slice da ds.length dc) := (hS6.m 2 (by simp)).1
                  have hA := hS6.alloc (.cells #[.int .i64 (j : Int)] 3)
                  have cdA : (w6.alloc (.cells #[.int .i64 (j : Int)] 3)).cell? ⟨T, 2, none⟩ = some (.slice da ds.length dc) := (hA.m 2 (by simp)).1
                  have hoA := ho6.alloc (.cells #[.int .i64 (j : Int)] 3)
                  have hsrc : Src Tryd.prog 1 35 (.slice (some ⟨w6.heap.size, 0, none⟩) 1 1) 1 [.int .i64 (j : Int)] (w6.alloc (.cells #[.int .i64 (j : Int)] 3)) :=
                    Own.src (B := 0) (.inr ⟨_, 0, 1, rfl, OwnC.made w6 0 3 1 1 1 _ 1 (by omega) (Nat.le_refl _) (by unfold maxLen; omega) rfl (Nat.le_refl _) _ rfl _ (.inl rfl)⟩) Tryd.underlying35 (by simp; rfl)
                  have hTlt := hS6.h3
                  go_wp2_with (at_builtin; refine wpList_append_c _ rfl _ _ 35 35 rfl (T + 1) 3 q0 (.int .i64 0) 1 8 Tryd.underlying35 hq hy0 hy1 hy2 rfl _ ds.length _ rfl hoA _ 1 _ rfl hsrc (by unfold maxLen; omega) (by omega) (by simp; omega) ?_; intro v2 w9 ho9 hg9 hbk9; obtain ⟨a9, c9, rfl⟩ := ho9.slc; have hS9 := hA.grown hg9 (fun q hq => by have := hoA.row_lo q hq; omega); have c92 : w9.cell? ⟨T, 2, none⟩ = some (.slice da ds.length dc) := (hS9.m 2 (by simp)).1; have f92 : w9.frozen? ⟨T, 2, none⟩ = false := (hS9.m 2 (by simp)).2)
                  have hSf := hS9.store (j := 2) (by simp) (.slice a9 (ds.length + 1) c9)
                  simp only [List.set_cons_zero, List.set_cons_succ] at hSf
                  have hof := ho9.grown (gset (World.grownBy.refl w9 (some T)) 2 (.slice a9 (ds.length + 1) c9)) (.inr (by intro hh; have := ho9.row_lo _ hh; omega))
                  rw [show ds.map (Value.int .i64) ++ [.int .i64 (j : Int)] = (ds ++ [(j : Int)]).map (Value.int .i64) by simp] at hof
                  have hdy : ∀ d ∈ ds ++ [(j : Int)], -1000 ≤ d ∧ d ≤ 1000 := fun d hd => by
                    rcases List.mem_append.1 hd with hd | hd
                    · exact hds d hd
                    · rw [List.mem_singleton.1 hd]; omega
                  clear hA hoA hsrc hS9 ho9 hg9 hbk9 cd1 cdA c92 f92 hS6 ho6
                  go_wp2
                  go_roundw
                  case rel => exact ⟨j + 1, by omega, by go_num, _, ds ++ [(j : Int)], by simp; omega, hdy, hSf.more (by omega), by rw [List.length_append]; exact hof⟩
                  case measure => simp [intOf]; omega
                · have h60' : ¬ (r6 : Int) = 0 := by omega
                  have h60b : (((r6 : Nat) : Int) == 0) = false := by simp; omega
                  by_cases hjl : j = ts.length - 1
                  · have hjl' : (j : Int) = (ts.length : Int) - 1 := by omega
                    have hjb : ((j : Int) == (ts.length : Int) - 1) = true := by rw [hjl']; exact beq_self_eq_true _
                    clear hjl hjl'
                    go_wp2_with fail
                    refine (pick_any g 2 _ _ hS6.rd (by omega) (by omega) (by omega)).mono ?_
                    rintro e7 w7 ⟨⟨r7, hq7, rfl⟩, hr7, hg7⟩
                    have hS7 := hS6.call hg7 hr7
                    have ho7 := ho6.grown hg7 (.inr (by intro hh; have := ho6.row_lo _ hh; omega))
                    clear hr7 hg7 hS6 ho6
                    by_cases h70 : r7 = 0
                    · subst h70
                      have cd1 : w7.cell? ⟨T, 2, none⟩ = some (.slice da ds.length dc) := (hS7.m 2 (by simp)).1
                      have hA := hS7.alloc (.cells #[.int .i64 (j : Int)] 3)
                      have cdA : (w7.alloc (.cells #[.int .i64 (j : Int)] 3)).cell? ⟨T, 2, none⟩ = some (.slice da ds.length dc) := (hA.m 2 (by simp)).1
                      have hoA := ho7.alloc (.cells #[.int .i64 (j : Int)] 3)
                      have hsrc : Src Tryd.prog 1 35 (.slice (some ⟨w7.heap.size, 0, none⟩) 1 1) 1 [.int .i64 (j : Int)] (w7.alloc (.cells #[.int .i64 (j : Int)] 3)) :=
                        Own.src (B := 0) (.inr ⟨_, 0, 1, rfl, OwnC.made w7 0 3 1 1 1 _ 1 (by omega) (Nat.le_refl _) (by unfold maxLen; omega) rfl (Nat.le_refl _) _ rfl _ (.inl rfl)⟩) Tryd.underlying35 (by simp; rfl)
                      have hTlt := hS7.h3
                      go_wp2_with (at_builtin; refine wpList_append_c _ rfl _ _ 35 35 rfl (T + 1) 3 q0 (.int .i64 0) 1 8 Tryd.underlying35 hq hy0 hy1 hy2 rfl _ ds.length _ rfl hoA _ 1 _ rfl hsrc (by unfold maxLen; omega) (by omega) (by simp; omega) ?_; intro v2 w9 ho9 hg9 hbk9; obtain ⟨a9, c9, rfl⟩ := ho9.slc; have hS9 := hA.grown hg9 (fun q hq => by have := hoA.row_lo q hq; omega); have c92 : w9.cell? ⟨T, 2, none⟩ = some (.slice da ds.length dc) := (hS9.m 2 (by simp)).1; have f92 : w9.frozen? ⟨T, 2, none⟩ = false := (hS9.m 2 (by simp)).2)
                      have hSf := hS9.store (j := 2) (by simp) (.slice a9 (ds.length + 1) c9)
                      simp only [List.set_cons_zero, List.set_cons_succ] at hSf
                      have hof := ho9.grown (gset (World.grownBy.refl w9 (some T)) 2 (.slice a9 (ds.length + 1) c9)) (.inr (by intro hh; have := ho9.row_lo _ hh; omega))
                      rw [show ds.map (Value.int .i64) ++ [.int .i64 (j : Int)] = (ds ++ [(j : Int)]).map (Value.int .i64) by simp] at hof
                      have hdy : ∀ d ∈ ds ++ [(j : Int)], -1000 ≤ d ∧ d ≤ 1000 := fun d hd => by
                        rcases List.mem_append.1 hd with hd | hd
                        · exact hds d hd
                        · rw [List.mem_singleton.1 hd]; omega
                      clear hA hoA hsrc hS9 ho9 hg9 hbk9 cd1 cdA c92 f92 hS7 ho7
                      go_wp2
                      go_roundw
                      case rel => exact ⟨j + 1, by omega, by go_num, _, ds ++ [(j : Int)], by simp; omega, hdy, hSf.more (by omega), by rw [List.length_append]; exact hof⟩
                      case measure => simp [intOf]; omega
                    · have h70' : ¬ (r7 : Int) = 0 := by omega
                      have h70b : (((r7 : Nat) : Int) == 0) = false := by simp; omega
                      go_wp2
                      go_roundw
                      case rel => exact ⟨j + 1, by omega, by go_num, _, ds, hd8, hds, hS7.more (by omega), ho7⟩
                      case measure => simp [intOf]; omega
                  · have hjl' : ¬ (j : Int) = (ts.length : Int) - 1 := by omega
                    go_wp2
                    go_roundw
                    case rel => exact ⟨j + 1, by omega, by go_num, _, ds, hd8, hds, hS6.more (by omega), ho6⟩
                    case measure => simp [intOf]; omega
              · have hl8' : ¬ (ds.length : Int) < 8 := by omega
                have t0 : wr.cell? ⟨T, 0, none⟩ = some (.string nmt) := (hSj.m 0 (by simp)).1
                have t1 : wr.cell? ⟨T, 1, none⟩ = some (.int .i64 (1 + (r12 : Int))) := (hSj.m 1 (by simp)).1
                have S := HS.out
                have hgl := S.gl
                have hXP := S.XP
                have hPz := S.z
                have hTh := hSj.hT
                have hT3 := hSj.h3
                have hgr := hSj.gr
                have hwz := S.gr.size
                have cP := S.P.block (hgr.block Pp hPz (by simp; omega))
                have cR := S.R.block (hgr.block w.heap.size (by omega) (by simp; omega))
                have pl := S.pl.grownNew hgr (fun x h1 _ => by omega)
                obtain ⟨va, vc, rfl⟩ := pl.row.slc
                have p0 : wr.cell? ⟨Pp, 0, none⟩ = some (.slice va ts.length vc) := (cP 0 (by simp)).1
                obtain ⟨WA, hWA⟩ : ∃ V, V = wr.alloc (.cells #[.string nmt, .int .i64 (1 + (r12 : Int)), .slice da ds.length dc] 37) := ⟨_, rfl⟩
                have bA : Below wr.heap.size wr WA := by rw [hWA]; exact (Below.refl _ _).alloc (Nat.le_refl _) _
                have zA : WA.heap.size = wr.heap.size + 1 := by rw [hWA]; simp
                have own1 : Own (Pp + 1) WA 3 (.slice (some ⟨wr.heap.size, 0, none⟩) 1 1) 1 [.string nmt, .int .i64 (1 + (r12 : Int)), .slice da ds.length dc] := by
                  rw [hWA]; exact .inr ⟨_, 0, 1, rfl, OwnC.made wr (Pp + 1) 37 3 1 1 _ 3 (by omega) (Nat.le_refl _) (by unfold maxLen; omega) rfl (Nat.le_refl _) _ rfl _ (.inl rfl)⟩
                have src1 : Src Tryd.prog 3 26 _ 1 _ WA := own1.src Tryd.underlying26 (by intro x hx; simp only [List.mem_cons, List.not_mem_nil, or_false] at hx; rcases hx with rfl | rfl | rfl <;> rfl)
                have plA := pl.row.below bA (Nat.le_refl _)
                have hdn : ds.length ≤ 50 := by omega
                have HU : Hid (PlanO wr (Pp + 1) (.slice va ts.length vc) ts vs ∧ Own (Pp + 1) wr 1 (.slice da ds.length dc) ds.length (ds.map (Value.int .i64)) ∧ Dn (Value.slice da ds.length dc).ownBlock (Value.slice va ts.length vc).ownBlock ∧ ∀ j, j < ts.length → Dn (vs.getD j nilV).ownBlock (Value.slice da ds.length dc).ownBlock) := by
                  have hlo : ∀ q, (Value.slice da ds.length dc).ownBlock = some q → T + 1 ≤ q := ho.row_lo
                  refine ⟨pl, ho.mono' (by omega), Dn.symm (Dn.later (m := wi.heap.size) S.pl.row.row_hi (fun q hq => by have := hlo q hq; omega)), fun j hj => Dn.later (m := wi.heap.size) (S.pl.dep j hj).row_hi (fun q hq => by have := hlo q hq; omega)⟩
                have HWA := hid hWA
                have cd2 := cd
                clear hWA own1 pl S
                go_wp2_with (at_builtin; rw [← HWA.out]; refine wpList_append_c _ rfl _ _ 26 26 rfl (Pp + 1) 37 iT (.agg #[.string ⟨#[]⟩, .int .i64 0, .slice none 0 0]) 3 48 Tryd.underlying26 hiT hT0 hT1 hT2 rfl _ ts.length _ rfl plA _ 1 _ rfl src1 (by have := HTS.out; unfold maxLen; omega) (by have := HTS.out; omega) (by omega) ?_; intro v' w9 ho9 hg9 hbk9; obtain ⟨va', vc', rfl⟩ := ho9.slc; have cP9 := (cP.block (bA.block Pp (by omega))).block (hg9.block Pp (by omega) (fun e => by have := plA.row_lo _ e.symm; omega)); have p9 : w9.cell? ⟨Pp, 0, none⟩ = some (.slice va ts.length vc) := (cP9 0 (by simp)).1; have f9 : w9.frozen? ⟨Pp, 0, none⟩ = false := (cP9 0 (by simp)).2)
                have gs := gset (World.grownBy.refl w9 (some Pp)) 0 (.slice va' (ts.length + 1) vc')
                have PL9 : PlanO w9 (Pp + 1) (.slice va' (ts.length + 1) vc') (ts ++ [⟨nmt, (1 + (r12 : Int)), ds⟩]) (vs ++ [.slice da ds.length dc]) := by
                  have hw := HWA.out
                  subst hw
                  exact PlanO.app HU.out.1 HU.out.2.1 HU.out.2.2.1 HU.out.2.2.2 ho9 hg9 hbk9
                have g9z := hg9.size
                have blk : ∀ x, x < wr.heap.size → x ≤ Pp → w9.heap[x]? = wr.heap[x]? := fun x hx hp => (hg9.block x (by omega) (fun e => by have := plA.row_lo _ e.symm; omega)).trans (bA.block x hx)
                have SN : DP w g w.heap.size Pp (.slice va' (ts.length + 1) vc') (ts ++ [⟨nmt, (1 + (r12 : Int)), ds⟩]) (vs ++ [.slice da ds.length dc]) (k + 2 + (ts.length + 1) * 100) (w9.setCell ⟨Pp, 0, none⟩ (.slice va' (ts.length + 1) vc')) := by
                  refine ⟨cP9.set (j := 0) (by simp) _, (cR.block (blk w.heap.size (by omega) (by omega))).block (gs.block w.heap.size (by omega) (by simp; omega)), ?_, ?_, ?_, HS.out.sm.snoc (by show nmt.size ≤ 1000; omega) (by show -1000 ≤ (1 + (r12 : Int)) ∧ (1 + (r12 : Int)) ≤ (1000 : Int); omega) hdn hds, HS.out.sd.snoc (by show nmt.size ≤ 100; omega) (by show ds.length ≤ 40; omega), by have := gs.size; omega, hgl, hXP⟩
                  · refine (hSj.rd.keep (fun q hq => (gs.block q (by omega) (by simp; omega)).trans (blk q (by omega) (by omega)))).mono ?_
                    have := HTS.out
                    omega
                  · have g1 := hgr
                    refine ⟨?_, ?_, ?_, ?_, fun q hq hne => ?_⟩
                    · exact (gs.os.trans (hg9.os.trans (bA.os.trans g1.os))).trans HS.out.gr.os
                    · exact (gs.tape.trans (hg9.tape.trans (bA.tape.trans g1.tape))).trans HS.out.gr.tape
                    · exact (gs.output.trans (hg9.output.trans (bA.output.trans g1.output))).trans HS.out.gr.output
                    · have := gs.size; omega
                    · exact (gs.block q (by omega) (by simp; omega)).trans ((blk q (by omega) (by omega)).trans ((g1.block q (by omega) hne).trans (HS.out.gr.block q hq hne)))
                  · exact PL9.grownNew gs (fun x h1 _ => by omega)
                have HSN := hid SN
                clear SN PL9 gs cP9 p9 f9 ho9 hg9 hbk9 HU plA src1 bA cP cR p0 t0 t1 cd cd2 hSj ho blk
                go_wp2
                go_roundw
                case rel => exact ⟨ts.length + 1, by omega, by go_num, _, _, _, by simp, HSN.out⟩
                case measure => simp [intOf]; omega
            · have hji' : ¬ (j : Int) < (ts.length : Int) := by omega
              have t0 : wr.cell? ⟨T, 0, none⟩ = some (.string nmt) := (hSj.m 0 (by simp)).1
              have t1 : wr.cell? ⟨T, 1, none⟩ = some (.int .i64 (1 + (r12 : Int))) := (hSj.m 1 (by simp)).1
              have S := HS.out
              have hgl := S.gl
              have hXP := S.XP
              have hPz := S.z
              have hTh := hSj.hT
              have hT3 := hSj.h3
              have hgr := hSj.gr
              have hwz := S.gr.size
              have cP := S.P.block (hgr.block Pp hPz (by simp; omega))
              have cR := S.R.block (hgr.block w.heap.size (by omega) (by simp; omega))
              have pl := S.pl.grownNew hgr (fun x h1 _ => by omega)
              obtain ⟨va, vc, rfl⟩ := pl.row.slc
              have p0 : wr.cell? ⟨Pp, 0, none⟩ = some (.slice va ts.length vc) := (cP 0 (by simp)).1
              obtain ⟨WA, hWA⟩ : ∃ V, V = wr.alloc (.cells #[.string nmt, .int .i64 (1 + (r12 : Int)), .slice da ds.length dc] 37) := ⟨_, rfl⟩
              have bA : Below wr.heap.size wr WA := by rw [hWA]; exact (Below.refl _ _).alloc (Nat.le_refl _) _
              have zA : WA.heap.size = wr.heap.size + 1 := by rw [hWA]; simp
              have own1 : Own (Pp + 1) WA 3 (.slice (some ⟨wr.heap.size, 0, none⟩) 1 1) 1 [.string nmt, .int .i64 (1 + (r12 : Int)), .slice da ds.length dc] := by
                rw [hWA]; exact .inr ⟨_, 0, 1, rfl, OwnC.made wr (Pp + 1) 37 3 1 1 _ 3 (by omega) (Nat.le_refl _) (by unfold maxLen; omega) rfl (Nat.le_refl _) _ rfl _ (.inl rfl)⟩
              have src1 : Src Tryd.prog 3 26 _ 1 _ WA := own1.src Tryd.underlying26 (by intro x hx; simp only [List.mem_cons, List.not_mem_nil, or_false] at hx; rcases hx with rfl | rfl | rfl <;> rfl)
              have plA := pl.row.below bA (Nat.le_refl _)
              have hdn : ds.length ≤ 50 := by omega
              have HU : Hid (PlanO wr (Pp + 1) (.slice va ts.length vc) ts vs ∧ Own (Pp + 1) wr 1 (.slice da ds.length dc) ds.length (ds.map (Value.int .i64)) ∧ Dn (Value.slice da ds.length dc).ownBlock (Value.slice va ts.length vc).ownBlock ∧ ∀ j, j < ts.length → Dn (vs.getD j nilV).ownBlock (Value.slice da ds.length dc).ownBlock) := by
                have hlo : ∀ q, (Value.slice da ds.length dc).ownBlock = some q → T + 1 ≤ q := ho.row_lo
                refine ⟨pl, ho.mono' (by omega), Dn.symm (Dn.later (m := wi.heap.size) S.pl.row.row_hi (fun q hq => by have := hlo q hq; omega)), fun j hj => Dn.later (m := wi.heap.size) (S.pl.dep j hj).row_hi (fun q hq => by have := hlo q hq; omega)⟩
              have HWA := hid hWA
              have cd2 := cd
              clear hWA own1 pl S
              go_wp2_with (at_builtin; rw [← HWA.out]; refine wpList_append_c _ rfl _ _ 26 26 rfl (Pp + 1) 37 iT (.agg #[.string ⟨#[]⟩, .int .i64 0, .slice none 0 0]) 3 48 Tryd.underlying26 hiT hT0 hT1 hT2 rfl _ ts.length _ rfl plA _ 1 _ rfl src1 (by have := HTS.out; unfold maxLen; omega) (by have := HTS.out; omega) (by omega) ?_; intro v' w9 ho9 hg9 hbk9; obtain ⟨va', vc', rfl⟩ := ho9.slc; have cP9 := (cP.block (bA.block Pp (by omega))).block (hg9.block Pp (by omega) (fun e => by have := plA.row_lo _ e.symm; omega)); have p9 : w9.cell? ⟨Pp, 0, none⟩ = some (.slice va ts.length vc) := (cP9 0 (by simp)).1; have f9 : w9.frozen? ⟨Pp, 0, none⟩ = false := (cP9 0 (by simp)).2)
              have gs := gset (World.grownBy.refl w9 (some Pp)) 0 (.slice va' (ts.length + 1) vc')
              have PL9 : PlanO w9 (Pp + 1) (.slice va' (ts.length + 1) vc') (ts ++ [⟨nmt, (1 + (r12 : Int)), ds⟩]) (vs ++ [.slice da ds.length dc]) := by
                have hw := HWA.out
                subst hw
                exact PlanO.app HU.out.1 HU.out.2.1 HU.out.2.2.1 HU.out.2.2.2 ho9 hg9 hbk9
              have g9z := hg9.size
              have blk : ∀ x, x < wr.heap.size → x ≤ Pp → w9.heap[x]? = wr.heap[x]? := fun x hx hp => (hg9.block x (by omega) (fun e => by have := plA.row_lo _ e.symm; omega)).trans (bA.block x hx)
              have SN : DP w g w.heap.size Pp (.slice va' (ts.length + 1) vc') (ts ++ [⟨nmt, (1 + (r12 : Int)), ds⟩]) (vs ++ [.slice da ds.length dc]) (k + 2 + (ts.length + 1) * 100) (w9.setCell ⟨Pp, 0, none⟩ (.slice va' (ts.length + 1) vc')) := by
                refine ⟨cP9.set (j := 0) (by simp) _, (cR.block (blk w.heap.size (by omega) (by omega))).block (gs.block w.heap.size (by omega) (by simp; omega)), ?_, ?_, ?_, HS.out.sm.snoc (by show nmt.size ≤ 1000; omega) (by show -1000 ≤ (1 + (r12 : Int)) ∧ (1 + (r12 : Int)) ≤ (1000 : Int); omega) hdn hds, HS.out.sd.snoc (by show nmt.size ≤ 100; omega) (by show ds.length ≤ 40; omega), by have := gs.size; omega, hgl, hXP⟩
                · refine (hSj.rd.keep (fun q hq => (gs.block q (by omega) (by simp; omega)).trans (blk q (by omega) (by omega)))).mono ?_
                  have := HTS.out
                  omega
                · have g1 := hgr
                  refine ⟨?_, ?_, ?_, ?_, fun q hq hne => ?_⟩
                  · exact (gs.os.trans (hg9.os.trans (bA.os.trans g1.os))).trans HS.out.gr.os
                  · exact (gs.tape.trans (hg9.tape.trans (bA.tape.trans g1.tape))).trans HS.out.gr.tape
                  · exact (gs.output.trans (hg9.output.trans (bA.output.trans g1.output))).trans HS.out.gr.output
                  · have := gs.size; omega
                  · exact (gs.block q (by omega) (by simp; omega)).trans ((blk q (by omega) (by omega)).trans ((g1.block q (by omega) hne).trans (HS.out.gr.block q hq hne)))
                · exact PL9.grownNew gs (fun x h1 _ => by omega)
              have HSN := hid SN
              clear SN PL9 gs cP9 p9 f9 ho9 hg9 hbk9 HU plA src1 bA cP cR p0 t0 t1 cd cd2 hSj ho blk
              go_wp2
              go_roundw
              case rel => exact ⟨ts.length + 1, by omega, by go_num, _, _, _, by simp, HSN.out⟩
              case measure => simp [intOf]; omega
      · have hlt' : ¬ (ts.length : Int) < (n : Int) := by omega
        obtain ⟨va, vc, rfl⟩ := S.pl.row.slc
        have p0 : wi.cell? ⟨Pp, 0, none⟩ = some (.slice va ts.length vc) := (S.P 0 (by simp)).1
        have k0 : wi.cell? ⟨w.heap.size, 0, none⟩ = some (.slice none 0 0) := (S.R 0 (by simp)).1
        have f0 : wi.frozen? ⟨w.heap.size, 0, none⟩ = false := (S.R 0 (by simp)).2
        have hXP := S.XP
        have gs := gset (World.grownBy.refl wi (some w.heap.size)) 0 (.slice va ts.length vc)
        have hz := S.z
        have hgl2 := S.gl
        have HF : Hid ((∃ v' ts' vs', Ending.returned (.agg #[.slice va ts.length vc]) = Ending.returned (.agg #[v']) ∧ PlanO (wi.setCell ⟨w.heap.size, 0, none⟩ (.slice va ts.length vc)) w.heap.size v' ts' vs' ∧ smT ts' ∧ smD ts' ∧ 1 ≤ ts'.length ∧ ts'.length ≤ 40) ∧ RD (wi.setCell ⟨w.heap.size, 0, none⟩ (.slice va ts.length vc)) g (k + 5000) ∧ w.grownBy (wi.setCell ⟨w.heap.size, 0, none⟩ (.slice va ts.length vc)) (some g)) := by
          refine ⟨⟨_, ts, vs, rfl, (S.pl.grownNew gs (fun x h1 _ => by omega)).mono (by omega), S.sm, S.sd, by omega, by omega⟩, (S.rd.set (by show g < w.heap.size; omega) _).mono (by omega), ?_⟩
          refine ⟨S.gr.os, S.gr.tape, S.gr.output, by simpa [World.setCell] using S.gr.size, fun q hq hne => (gs.block q (by have := S.gr.size; omega) (by simp; omega)).trans (S.gr.block q hq hne)⟩
        clear S gs
        go_wp2
        obtain ⟨⟨v', ts', vs', e1, e2, e3⟩, h2, h3⟩ := HF.out
        exact bodyPost_ret (v := .agg #[.slice va ts.length vc]) (by simp [results, Tryd.results30, go_sem, k0]) rfl ⟨⟨v', e1, ts', ⟨vs', e2⟩, e3⟩, h2, h3⟩
end Go.Proofs.YtimpfhfgcmipgaaDoor
