
import Derived.Test.YtimpfhfgcmipgaaDoorQWsp
import Derived.Test.YtimpfhfgcmipgaaDoorQDsp
import Derived.Deep.DeepCutAuto
namespace Go.Proofs.YtimpfhfgcmipgaaDoor
open Go.RowKit

/-- Amid l3Any: the answers' boxes, the plan's box Qp, the worker's box Qw. -/
structure AS (w : World) (g Qp Qw : Nat) (pv : Value) (ts : List TaskD) (vs : List Value) (d : WD) (a : Option Addr) (c b o : Nat) (k : Nat) (wr : World) : Prop where
  A1 : CF wr w.heap.size [.int .i64 0, .int .i64 0, .bool false, .int .i64 0, .int .i64 0, .int .i64 0, .int .i64 0, .int .i64 0, .slice none 0 0, .string ⟨#[]⟩, .int .i64 0]
  A2 : CF wr (w.heap.size + 1) [.slice none 0 0]
  P : CF wr Qp [pv]
  E : CF wr Qw [.int .i64 d.nu, .int .i64 d.ep, .bool d.up, .int .i64 d.st, .int .i64 d.le, .int .i64 d.ta, .int .i64 d.co, .int .i64 d.lf, .slice a d.ss.length c, .string d.x, .int .i64 d.si]
  pl : PlanO wr (w.heap.size + 2) pv ts vs
  p1 : ∀ q, pv.ownBlock = some q → q ≠ Qp ∧ q ≠ Qw
  p2 : ∀ j, j < ts.length → ∀ q, (vs.getD j nilV).ownBlock = some q → q ≠ Qp ∧ q ≠ Qw
  st : StrsAt wr a b o d.ss.length d.ss
  sb : 0 < d.ss.length → w.heap.size + 2 ≤ b ∧ b ≠ Qp ∧ b ≠ Qw
  bd : bndW d
  sm : smT ts
  rd : RD wr g k
  gr : w.grownBy wr (some g)
  ord : g < w.heap.size ∧ w.heap.size + 1 < Qp ∧ Qp < Qw ∧ Qw < wr.heap.size
theorem StrsAt.blkS {w w' : World} {a : Option Addr} {b o n : Nat} {ss : List ByteArray} (h : StrsAt w a b o n ss) (hz : w.heap.size ≤ w'.heap.size) (hb : 0 < n → w'.heap[b]? = w.heap[b]?) : StrsAt w' a b o n ss :=
  ⟨h.ad, h.len, h.max, fun h0 => Nat.lt_of_lt_of_le (h.lt h0) hz, fun j hj => (World.cell?_of_block (w := w) (a := ⟨b, o + j, none⟩) (hb (by omega))).trans (h.cell j hj), h.sz⟩
theorem AS.call {w wr w' : World} {g Qp Qw : Nat} {pv : Value} {ts : List TaskD} {vs : List Value} {d : WD} {a : Option Addr} {c b o k k' : Nat} (h : AS w g Qp Qw pv ts vs d a c b o k wr) (hr : RD w' g k') (hg : wr.grownBy w' (some g)) : AS w g Qp Qw pv ts vs d a c b o k' w' :=
  have hd := h.ord
  ⟨h.A1.block (hg.block _ (by omega) (by simp; omega)), h.A2.block (hg.block _ (by omega) (by simp; omega)), h.P.block (hg.block _ (by omega) (by simp; omega)), h.E.block (hg.block _ (by omega) (by simp; omega)), h.pl.grownNew hg (fun x h1 _ => by omega), h.p1, h.p2, h.st.blkS hg.size (fun h0 => hg.block b (h.st.lt h0) (by have := h.sb h0; simp; omega)), h.sb, h.bd, h.sm, hr, grownBy_trans h.gr hg, hd.1, hd.2.1, hd.2.2.1, Nat.lt_of_lt_of_le hd.2.2.2 hg.size⟩
/-- Another worker in the box. -/
theorem AS.newW {w wr w5 w6 : World} {g Qp Qw : Nat} {pv : Value} {ts : List TaskD} {vs : List Value} {d d' : WD} {a a' : Option Addr} {c c' b b' o o' k k' : Nat} (h : AS w g Qp Qw pv ts vs d a c b o k wr) (hg : wr.grownBy w5 (some g)) (hr : RD w5 g k') (hs : StrsAt w5 a' b' o' d'.ss.length d'.ss) (hb : 0 < d'.ss.length → w.heap.size + 2 ≤ b' ∧ b' ≠ Qp ∧ b' ≠ Qw) (hd' : bndW d') (hE : CF w6 Qw [.int .i64 d'.nu, .int .i64 d'.ep, .bool d'.up, .int .i64 d'.st, .int .i64 d'.le, .int .i64 d'.ta, .int .i64 d'.co, .int .i64 d'.lf, .slice a' d'.ss.length c', .string d'.x, .int .i64 d'.si]) (hg6 : w5.grownBy w6 (some Qw)) : AS w g Qp Qw pv ts vs d' a' c' b' o' k' w6 :=
  have h5 := h.call hr hg
  have hd := h5.ord
  ⟨h5.A1.block (hg6.block _ (by omega) (by simp; omega)), h5.A2.block (hg6.block _ (by omega) (by simp; omega)), h5.P.block (hg6.block _ (by omega) (by simp; omega)), hE, ⟨h5.pl.len, h5.pl.row.blkP (fun q hq => hg6.block q (h5.pl.row.row_hi q hq) (by have := h5.p1 q hq; simp; omega)), fun j hj => (h5.pl.dep j hj).blkP (fun q hq => hg6.block q ((h5.pl.dep j hj).row_hi q hq) (by have := h5.p2 j hj q hq; simp; omega)), h5.pl.dr, h5.pl.dd⟩, h5.p1, h5.p2, hs.blkS hg6.size (fun h0 => hg6.block b' (hs.lt h0) (by have := hb h0; simp; omega)), hb, hd', h5.sm, h5.rd.grown hg6 (fun q hq => by injection hq with hq; omega), ⟨hg6.os.trans h5.gr.os, hg6.tape.trans h5.gr.tape, hg6.output.trans h5.gr.output, Nat.le_trans h5.gr.size hg6.size, fun q hq hne => (hg6.block q (by have := h5.gr.size; omega) (by simp; omega)).trans (h5.gr.block q hq hne)⟩, hd.1, hd.2.1, hd.2.2.1, Nat.lt_of_lt_of_le hd.2.2.2 hg6.size⟩
/-- Another plan in the box. -/
theorem AS.newP {w wr w6 : World} {g Qp Qw : Nat} {pv v' : Value} {ts ts' : List TaskD} {vs vs' : List Value} {d : WD} {a : Option Addr} {c b o k k' : Nat} (h : AS w g Qp Qw pv ts vs d a c b o k wr) (hg : wr.grownBy w6 (some g)) (hr : RD w6 g k') (hpl : PlanO w6 wr.heap.size v' ts' vs') (hsm : smT ts') : AS w g Qp Qw v' ts' vs' d a c b o k' (w6.setCell ⟨Qp, 0, none⟩ v') :=
  have h5 := h.call hr hg
  have hd := h.ord
  have hz := hg.size
  have gs := gset (World.grownBy.refl w6 (some Qp)) 0 v'
  ⟨h5.A1.block (gs.block _ (by omega) (by simp; omega)), h5.A2.block (gs.block _ (by omega) (by simp; omega)), h5.P.set (j := 0) (by simp) v', h5.E.block (gs.block _ (by omega) (by simp; omega)), (hpl.grownNew gs (fun x h1 _ => by omega)).mono (by omega), fun q hq => by have := hpl.row.row_lo q hq; omega, fun j hj q hq => by have := (hpl.dep j hj).row_lo q hq; omega, h5.st.blkS gs.size (fun h0 => gs.block b (h5.st.lt h0) (by have := h5.sb h0; simp; omega)), h5.sb, h5.bd, hsm, h5.rd.set (by dsimp only; omega) v', ⟨h5.gr.os, h5.gr.tape, h5.gr.output, by simpa [World.setCell] using h5.gr.size, fun q hq hne => (gs.block q (by have := h5.gr.size; omega) (by simp; omega)).trans (h5.gr.block q hq hne)⟩, hd.1, hd.2.1, hd.2.2.1, by have := gs.size; omega⟩
theorem Tryd.sizePn : (Tryd.prog.info? 28).map (·.size) = some 1 := by kernel_rfl
def RetWP (e : Ending) (B : Nat) (w' : World) : Prop := ∃ (d : WD) (a : Option Addr) (c b o : Nat) (pa : Option Addr) (pc : Nat) (ts : List TaskD) (vs : List Value), e = .returned (.tuple #[.agg #[.int .i64 d.nu, .int .i64 d.ep, .bool d.up, .int .i64 d.st, .int .i64 d.le, .int .i64 d.ta, .int .i64 d.co, .int .i64 d.lf, .slice a d.ss.length c, .string d.x, .int .i64 d.si], .agg #[.slice pa ts.length pc]]) ∧ StrsAt w' a b o d.ss.length d.ss ∧ (0 < d.ss.length → B ≤ b) ∧ PlanO w' B (.slice pa ts.length pc) ts vs ∧ bndW d ∧ smT ts ∧ ts.length ≤ 64

set_option maxHeartbeats 8000000 in
set_option maxRecDepth 100000 in
theorem l3Any_any (g k : Nat) (w : World) (h : RD w g k) (hk : k ≤ 800000) :
    Calls Tryd.prog 12 #[.pointer (some ⟨g, 0, none⟩)] w fun e w' => RetWP e w.heap.size w' ∧ RD w' g (k + 6000) ∧ w.grownBy w' (some g) := by
  have hgl := h.lt
  obtain ⟨W, hW⟩ : ∃ W, W = (w.alloc (.cells #[.int .i64 0, .int .i64 0, .bool false, .int .i64 0, .int .i64 0, .int .i64 0, .int .i64 0, .int .i64 0, .slice none 0 0, .string ⟨#[]⟩, .int .i64 0] 25)).alloc (.cells #[.slice none 0 0] 28) := ⟨_, rfl⟩
  have hBW : Below w.heap.size w W := by rw [hW]; exact ((Below.refl _ _).alloc (Nat.le_refl _) _).alloc (by simp) _
  have hzW : W.heap.size = w.heap.size + 2 := by rw [hW]; simp
  have hA1 : CF W w.heap.size [.int .i64 0, .int .i64 0, .bool false, .int .i64 0, .int .i64 0, .int .i64 0, .int .i64 0, .int .i64 0, .slice none 0 0, .string ⟨#[]⟩, .int .i64 0] := by rw [hW]; exact (CF.made w #[.int .i64 0, .int .i64 0, .bool false, .int .i64 0, .int .i64 0, .int .i64 0, .int .i64 0, .int .i64 0, .slice none 0 0, .string ⟨#[]⟩, .int .i64 0] 25).block (Below.heap_alloc _ _ _ (by simp))
  have hA2 : CF W (w.heap.size + 1) [.slice none 0 0] := by
    rw [hW]
    have := CF.made (w.alloc (.cells #[.int .i64 0, .int .i64 0, .bool false, .int .i64 0, .int .i64 0, .int .i64 0, .int .i64 0, .int .i64 0, .slice none 0 0, .string ⟨#[]⟩, .int .i64 0] 25)) #[.slice none 0 0] 28
    rw [World.size_alloc] at this
    exact this
  have hrd0 := h.below hBW
  have HW := hid hW
  clear hW h
  go_enter Tryd.func12, Tryd.ntmps12
  go_wp2_with fail
  rw [← HW.out]
  clear HW
  refine (l1Draw_any g k _ hrd0 (by omega)).mono ?_
  rintro e w1 ⟨⟨pv, ts, vs, rfl, hpl, hsm, hsd, h1, h40⟩, hrd1, hg1⟩
  obtain ⟨pa, pc, rfl⟩ := hpl.row.slc
  have hz1 := hg1.size
  obtain ⟨W1, hW1⟩ : ∃ V, V = w1.alloc (.cells #[.slice pa ts.length pc] 28) := ⟨_, rfl⟩
  have ba1 : Below w1.heap.size w1 W1 := by rw [hW1]; exact (Below.refl _ _).alloc (Nat.le_refl _) _
  have cP : CF W1 w1.heap.size [.slice pa ts.length pc] := by rw [hW1]; exact CF.made w1 #[.slice pa ts.length pc] 28
  have zP : W1.heap.size = w1.heap.size + 1 := by rw [hW1]; simp
  have hA1' := (hA1.block (hg1.block _ (by omega) (by simp; omega))).block (ba1.block _ (by omega))
  have hA2' := (hA2.block (hg1.block _ (by omega) (by simp; omega))).block (ba1.block _ (by omega))
  have hpl1 := (hpl.below ba1).mono (show w.heap.size + 2 ≤ W.heap.size by omega)
  have hp1 : ∀ q, (Value.slice pa ts.length pc).ownBlock = some q → q < w1.heap.size := hpl.row.row_hi
  have hp2 : ∀ j, j < ts.length → ∀ q, (vs.getD j nilV).ownBlock = some q → q < w1.heap.size := fun j hj => (hpl.dep j hj).row_hi
  have hgr1 := grownBy_trans (grownBy_trans (grownBy_below (r := some g) hBW) hg1) (grownBy_below ba1)
  have hrd2 := hrd1.below ba1
  obtain ⟨Qp, hQp⟩ : ∃ q, q = w1.heap.size := ⟨_, rfl⟩
  rw [← hQp] at cP zP hp1 hp2
  have hQ0 : w.heap.size + 1 < Qp := by omega
  have HQp := hid hQp
  have HW1 := hid hW1
  have HSD := hid hsd
  clear hW1 hQp hpl hrd1 hg1 hA1 hA2 ba1 hBW hrd0 hz1 hzW hsd
  go_upto_region 2 with fail
  rw [← HW1.out, ← HQp.out]
  clear HW1 HQp
  have p0 : W1.cell? ⟨Qp, 0, none⟩ = some (.slice pa ts.length pc) := (cP 0 (by simp)).1
  go_wp2_with fail
  refine (l3Draw_any g (k + 5000) pa ts.length pc _ hrd2 (by omega) h1 (by omega)).mono ?_
  rintro e w2 ⟨⟨d, a, c, b, o, rfl, hst, hsb, hbd, hbs⟩, hrd3, hg2⟩
  have hz2 := hg2.size
  obtain ⟨W2, hW2⟩ : ∃ V, V = w2.alloc (.cells #[.int .i64 d.nu, .int .i64 d.ep, .bool d.up, .int .i64 d.st, .int .i64 d.le, .int .i64 d.ta, .int .i64 d.co, .int .i64 d.lf, .slice a d.ss.length c, .string d.x, .int .i64 d.si] 25) := ⟨_, rfl⟩
  have S2 : AS w g Qp w2.heap.size (.slice pa ts.length pc) ts vs d a c b o (k + 5030) W2 := by
    have ba2 : Below w2.heap.size w2 W2 := by rw [hW2]; exact (Below.refl _ _).alloc (Nat.le_refl _) _
    have far : ∀ q, q < W1.heap.size → q ≠ g → W2.heap[q]? = W1.heap[q]? := fun q hq hne => (ba2.block q (by omega)).trans (hg2.block q hq (by simpa using hne))
    have hrow := hpl1.row.row_lo
    refine ⟨hA1'.block (far _ (by omega) (by omega)), hA2'.block (far _ (by omega) (by omega)), cP.block (far _ (by omega) (by omega)), by rw [hW2]; exact CF.made w2 #[.int .i64 d.nu, .int .i64 d.ep, .bool d.up, .int .i64 d.st, .int .i64 d.le, .int .i64 d.ta, .int .i64 d.co, .int .i64 d.lf, .slice a d.ss.length c, .string d.x, .int .i64 d.si] 25, (hpl1.grownNew hg2 (fun x h1 _ => by omega)).below ba2, fun q hq => by have := hp1 q hq; omega, fun j hj q hq => by have := hp2 j hj q hq; omega, hst.below' ba2, fun h0 => by have h1 := hsb h0; have h2 := hst.lt h0; have h3 : W1.heap.size < b := h1; omega, hbd, hsm, hrd3.below ba2, grownBy_trans (grownBy_trans hgr1 hg2) (grownBy_below ba2), hgl, hQ0, by omega, by rw [hW2]; simp⟩
  obtain ⟨Qw, hQw⟩ : ∃ q, q = w2.heap.size := ⟨_, rfl⟩
  rw [← hQw] at S2
  have HBS := hid hbs
  have HQw := hid hQw
  have HW2 := hid hW2
  clear hW2 hQw hA1' hA2' cP zP hpl1 hp1 hp2 hgr1 hrd2 hrd3 hg2 hst hsb hbd hbs p0 hz2 hQ0 hsm
  go_upto_region 3 with fail
  rw [← HW2.out, ← HQw.out]
  clear HW2 HQw
  go_wp2_with fail
  refine (pick_any g 6 (k + 5030) _ S2.rd (by omega) (by omega) (by omega)).mono ?_
  rintro e w3 ⟨⟨r3, hr3, rfl⟩, hrd3, hg3⟩
  have S3 := S2.call hrd3 hg3
  clear hrd3 hg3 S2
  go_upto_if 13 with fail
  go_cut [5] (fun pw wx => pw = .pointer (some ⟨Qw, 0, none⟩) ∧ ∃ (d' : WD) (a' : Option Addr) (c' b' o' : Nat), AS w g Qp Qw (.slice pa ts.length pc) ts vs d' a' c' b' o' (k + 5050) wx)
  case first =>
    by_cases h0 : r3 = 0
    · subst h0
      have y0 : w3.cell? ⟨Qw, 0, none⟩ = some (.int .i64 d.nu) := (S3.E 0 (by simp)).1
      have y1 : w3.cell? ⟨Qw, 1, none⟩ = some (.int .i64 d.ep) := (S3.E 1 (by simp)).1
      have y2 : w3.cell? ⟨Qw, 2, none⟩ = some (.bool d.up) := (S3.E 2 (by simp)).1
      have y3 : w3.cell? ⟨Qw, 3, none⟩ = some (.int .i64 d.st) := (S3.E 3 (by simp)).1
      have y4 : w3.cell? ⟨Qw, 4, none⟩ = some (.int .i64 d.le) := (S3.E 4 (by simp)).1
      have y5 : w3.cell? ⟨Qw, 5, none⟩ = some (.int .i64 d.ta) := (S3.E 5 (by simp)).1
      have y6 : w3.cell? ⟨Qw, 6, none⟩ = some (.int .i64 d.co) := (S3.E 6 (by simp)).1
      have y7 : w3.cell? ⟨Qw, 7, none⟩ = some (.int .i64 d.lf) := (S3.E 7 (by simp)).1
      have y8 : w3.cell? ⟨Qw, 8, none⟩ = some (.slice a d.ss.length c) := (S3.E 8 (by simp)).1
      have y9 : w3.cell? ⟨Qw, 9, none⟩ = some (.string d.x) := (S3.E 9 (by simp)).1
      have y10 : w3.cell? ⟨Qw, 10, none⟩ = some (.int .i64 d.si) := (S3.E 10 (by simp)).1
      have hEE := S3.E
      have hord := S3.ord
      go_wp2_with fail
      refine (l3Spoil_any g (k + 5031) (fun q => w.heap.size + 2 ≤ q ∧ q ≠ Qp ∧ q ≠ Qw) d a b o c _ S3.rd (by omega) S3.st (fun h0 => by have := S3.sb h0; omega) S3.sb (fun q hq => ⟨by omega, by omega, by omega⟩) S3.bd HBS.out).mono ?_
      rintro e w5 ⟨⟨d', a', c', b', o', rfl, hst', hsb', hbd', _⟩, hrd5, hg5⟩
      have hE5 := hEE.block (hg5.block _ (by omega) (by simp; omega))
      clear y0 y1 y2 y3 y4 y5 y6 y7 y8 y9 y10 hEE
      have HS3 := hid S3
      clear S3
      go_wp2_with (refine wpList_store_cf rfl 25 (.tmp 5) (.tmp 16) rfl Qw [.int .i64 d.nu, .int .i64 d.ep, .bool d.up, .int .i64 d.st, .int .i64 d.le, .int .i64 d.ta, .int .i64 d.co, .int .i64 d.lf, .slice a d.ss.length c, .string d.x, .int .i64 d.si] [.int .i64 d'.nu, .int .i64 d'.ep, .bool d'.up, .int .i64 d'.st, .int .i64 d'.le, .int .i64 d'.ta, .int .i64 d'.co, .int .i64 d'.lf, .slice a' d'.ss.length c', .string d'.x, .int .i64 d'.si] rfl rfl hE5 rfl Tryd.sizeWk (oneWk _ _ _ _ _ _ _ _ _ _ _ _ _) ?_; intro w6 hc6 hg6)
      go_meet
      case rel => exact ⟨rfl, d', a', c', b', o', (HS3.out.newW hg5 (hrd5.mono (by omega)) hst' hsb' hbd' hc6 hg6)⟩
    · have h0' : ¬ (r3 : Int) = 0 := by omega
      have h0b : (((r3 : Nat) : Int) == 0) = false := by simp; omega
      have HS3 := hid S3
      clear S3
      go_wp2
      go_meet
      case rel => exact ⟨rfl, d, a, c, b, o, HS3.out.call (HS3.out.rd.mono (by omega)) (World.grownBy.refl _ _)⟩
  case rest =>
    clear S3
    obtain ⟨rfl, d, a, c, b, o, S4⟩ := hcut
    obtain ⟨w4, rfl⟩ : ∃ V, V = wc := ⟨_, rfl⟩
    go_wp2_with fail
    refine (pick_any g 24 (k + 5050) _ S4.rd (by omega) (by omega) (by omega)).mono ?_
    rintro e w5 ⟨⟨r5, hr5, rfl⟩, hrd5, hg5⟩
    have S5 := S4.call hrd5 hg5
    clear hrd5 hg5 S4
    go_upto_if 19 with fail
    go_cut [4] (fun pp wx => pp = .pointer (some ⟨Qp, 0, none⟩) ∧ ∃ (pa' : Option Addr) (pc' : Nat) (ts' : List TaskD) (vs' : List Value), ts'.length ≤ 64 ∧ AS w g Qp Qw (.slice pa' ts'.length pc') ts' vs' d a c b o (k + 5900) wx)
    case first =>
      by_cases h0 : r5 = 0
      · subst h0
        have p0 : w5.cell? ⟨Qp, 0, none⟩ = some (.slice pa ts.length pc) := (S5.P 0 (by simp)).1
        obtain ⟨a', b', o', c', he, hT⟩ := S5.pl.tasks S5.sm.fit (by unfold maxLen; omega)
        cases he
        go_wp2_with fail
        refine (l1Spoil_any g (k + 5051) pa b' o' pc ts _ S5.rd (by omega) hT S5.sm h1 h40 (fun j hj => (HSD.out j hj).2) (fun j hj => (HSD.out j hj).1)).mono ?_
        rintro e w6 ⟨⟨v6, ts6, vs6, rfl, hpl6, hsm6, hl6⟩, hrd6, hg6⟩
        obtain ⟨pa6, pc6, rfl⟩ := hpl6.row.slc
        have hord := S5.ord
        have hP6 := S5.P.block (hg6.block _ (by omega) (by simp; omega))
        have z6 : w6.cell? ⟨Qp, 0, none⟩ = some (.slice pa ts.length pc) := (hP6 0 (by simp)).1
        have f6 : w6.frozen? ⟨Qp, 0, none⟩ = false := (hP6 0 (by simp)).2
        have HN := hid (S5.newP hg6 (hrd6.mono (show k + 5051 + 200 ≤ k + 5900 by omega)) hpl6 hsm6)
        clear p0 hT S5 hP6 hpl6 hrd6 hg6
        go_wp2
        go_meet
        case rel => exact ⟨rfl, pa6, pc6, ts6, vs6, hl6, HN.out⟩
      · have h0' : ¬ (r5 : Int) = 0 := by omega
        have h0b : (((r5 : Nat) : Int) == 0) = false := by simp; omega
        have HS5 := hid S5
        clear S5
        go_wp2
        go_meet
        case rel => exact ⟨rfl, pa, pc, ts, vs, by omega, HS5.out.call (HS5.out.rd.mono (by omega)) (World.grownBy.refl _ _)⟩
    case rest =>
      clear S5
      obtain ⟨rfl, pa, pc, ts, vs, hl64, S6⟩ := hcut
      go_upto_region 7 with fail
      refine wp_region_held (S := fun w' => CF w' Qw [.int .i64 d.nu, .int .i64 d.ep, .bool d.up, .int .i64 d.st, .int .i64 d.le, .int .i64 d.ta, .int .i64 d.co, .int .i64 d.lf, .slice a d.ss.length c, .string d.x, .int .i64 d.si] ∧ CF w' Qp [.slice pa ts.length pc]) (by kernel_rfl) ?_
      change wpAnyH _ _ _ _ _ _ _ _ (World.drew _)
      have s0 := S6.call (S6.rd.keep (w' := wc.drew) (fun _ _ => rfl)) (grownBy_below (Below.refl _ _).drew)
      obtain ⟨x0, hx0⟩ : ∃ U, U = wc.drew := ⟨_, rfl⟩
      rw [← hx0] at s0
      rw [← hx0]
      clear hx0 S6
      have hord := s0.ord
      refine hTk (i := 0) (d := some 23) (v := .agg #[.int .i64 d.nu, .int .i64 d.ep, .bool d.up, .int .i64 d.st, .int .i64 d.le, .int .i64 d.ta, .int .i64 d.co, .int .i64 d.lf, .slice a d.ss.length c, .string d.x, .int .i64 d.si]) (l' := (bt 4 1)) rfl (fun _ hc => run_ldT 25 _ [.int .i64 d.nu, .int .i64 d.ep, .bool d.up, .int .i64 d.st, .int .i64 d.le, .int .i64 d.ta, .int .i64 d.co, .int .i64 d.lf, .slice a d.ss.length c, .string d.x, .int .i64 d.si] (.tmp 5) (by kernel_rfl) (by kernel_rfl) hc.1 Tryd.underlying25 rfl Tryd.sizeWk) ⟨s0.E, s0.P⟩ ?_
      refine hTk (i := 1) (d := some 24) (v := .agg #[.slice pa ts.length pc]) (l' := (bt 4 3)) rfl (fun _ hc => run_ldT 28 _ [.slice pa ts.length pc] (.tmp 4) (by kernel_rfl) (by kernel_rfl) hc.2 Tryd.underlying28 rfl Tryd.sizePn) ⟨s0.E, s0.P⟩ ?_
      obtain ⟨x1, hx1⟩ : ∃ U, U = x0.setCells w.heap.size 0 [.int .i64 d.nu, .int .i64 d.ep, .bool d.up, .int .i64 d.st, .int .i64 d.le, .int .i64 d.ta, .int .i64 d.co, .int .i64 d.lf, .slice a d.ss.length c, .string d.x, .int .i64 d.si] := ⟨_, rfl⟩
      have g1 : x0.grownBy x1 (some w.heap.size) := by rw [hx1]; exact grown_setCells _ _ _ _ _ (World.grownBy.refl _ _)
      have c1 : CF x1 w.heap.size [.int .i64 d.nu, .int .i64 d.ep, .bool d.up, .int .i64 d.st, .int .i64 d.le, .int .i64 d.ta, .int .i64 d.co, .int .i64 d.lf, .slice a d.ss.length c, .string d.x, .int .i64 d.si] := by rw [hx1]; exact s0.A1.stored rfl
      have E1 := s0.E.block (g1.block _ (by omega) (by simp; omega))
      have P1 := s0.P.block (g1.block _ (by omega) (by simp; omega))
      have A21 := s0.A2.block (g1.block _ (by omega) (by simp))
      refine hOne (by kernel_rfl) (hSkip (i := 2) (w' := x1) (l' := (bt 4 7)) rfl (by kernel_rfl) (by kernel_rfl) (by kernel_rfl) (by rw [hx1]; exact run_stT 25 [.int .i64 0, .int .i64 0, .bool false, .int .i64 0, .int .i64 0, .int .i64 0, .int .i64 0, .int .i64 0, .slice none 0 0, .string ⟨#[]⟩, .int .i64 0] [.int .i64 d.nu, .int .i64 d.ep, .bool d.up, .int .i64 d.st, .int .i64 d.le, .int .i64 d.ta, .int .i64 d.co, .int .i64 d.lf, .slice a d.ss.length c, .string d.x, .int .i64 d.si] (.tmp 2) (.tmp 23) (by kernel_rfl) (by kernel_rfl) (by kernel_rfl) s0.A1 rfl Tryd.sizeWk (oneWk _ _ _ _ _ _ _ _ _ _ _ _ _)) ⟨E1, P1⟩ ?_)
      have z1 := g1.size
      obtain ⟨x2, hx2⟩ : ∃ U, U = x1.setCells (w.heap.size + 1) 0 [.slice pa ts.length pc] := ⟨_, rfl⟩
      have g2 : x1.grownBy x2 (some (w.heap.size + 1)) := by rw [hx2]; exact grown_setCells _ _ _ _ _ (World.grownBy.refl _ _)
      have c2 : CF x2 (w.heap.size + 1) [.slice pa ts.length pc] := by rw [hx2]; exact A21.stored rfl
      have E2 := E1.block (g2.block _ (by omega) (by simp; omega))
      have P2 := P1.block (g2.block _ (by omega) (by simp; omega))
      have c12 := c1.block (g2.block _ (by omega) (by simp))
      refine hOne (by kernel_rfl) (hSkip (i := 3) (w' := x2) (l' := (bt 4 15)) rfl (by kernel_rfl) (by kernel_rfl) (by kernel_rfl) (by rw [hx2]; exact run_stT 28 [.slice none 0 0] [.slice pa ts.length pc] (.tmp 3) (.tmp 24) (by kernel_rfl) (by kernel_rfl) (by kernel_rfl) A21 rfl Tryd.sizePn (by intro v hv; rw [List.mem_singleton.1 hv]; rfl)) ⟨E2, P2⟩ ?_)
      refine wpAnyH_done (by kernel_rfl) ?_ _
      simp only [Act.put, List.setIfInBounds_toArray, List.set_cons_succ, List.set_cons_zero]
      have HF : Hid (RetWP (.returned (.tuple #[.agg #[.int .i64 d.nu, .int .i64 d.ep, .bool d.up, .int .i64 d.st, .int .i64 d.le, .int .i64 d.ta, .int .i64 d.co, .int .i64 d.lf, .slice a d.ss.length c, .string d.x, .int .i64 d.si], .agg #[.slice pa ts.length pc]])) w.heap.size x2 ∧ RD x2 g (k + 6000) ∧ w.grownBy x2 (some g)) := by
        have far : ∀ q, q < x0.heap.size → q ≠ w.heap.size → q ≠ w.heap.size + 1 → x2.heap[q]? = x0.heap[q]? := fun q h1 h2 h3 => (g2.block q (by omega) (by simpa using h3)).trans (g1.block q h1 (by simpa using h2))
        have z2 := g2.size
        exact ⟨⟨d, a, c, b, o, pa, pc, ts, vs, rfl, s0.st.blkS (by omega) (fun h0 => far b (s0.st.lt h0) (by have := s0.sb h0; omega) (by have := s0.sb h0; omega)), fun h0 => by have := s0.sb h0; omega, (s0.pl.blk (w' := x2) (fun q h1 h2 => far q h2 (by omega) (by omega))).mono (by omega), s0.bd, s0.sm, hl64⟩, (s0.rd.keep (fun q hq => far q (by omega) (by omega) (by omega))).mono (by omega), ⟨g2.os.trans (g1.os.trans s0.gr.os), g2.tape.trans (g1.tape.trans s0.gr.tape), g2.output.trans (g1.output.trans s0.gr.output), by have := s0.gr.size; omega, fun q hq hne => (far q (by have := s0.gr.size; omega) (by omega) (by omega)).trans (s0.gr.block q hq hne)⟩⟩
      have k0 : x2.cell? ⟨w.heap.size, 0, none⟩ = some (.int .i64 d.nu) := (c12 0 (by simp)).1
      have k1 : x2.cell? ⟨w.heap.size, 1, none⟩ = some (.int .i64 d.ep) := (c12 1 (by simp)).1
      have k2 : x2.cell? ⟨w.heap.size, 2, none⟩ = some (.bool d.up) := (c12 2 (by simp)).1
      have k3 : x2.cell? ⟨w.heap.size, 3, none⟩ = some (.int .i64 d.st) := (c12 3 (by simp)).1
      have k4 : x2.cell? ⟨w.heap.size, 4, none⟩ = some (.int .i64 d.le) := (c12 4 (by simp)).1
      have k5 : x2.cell? ⟨w.heap.size, 5, none⟩ = some (.int .i64 d.ta) := (c12 5 (by simp)).1
      have k6 : x2.cell? ⟨w.heap.size, 6, none⟩ = some (.int .i64 d.co) := (c12 6 (by simp)).1
      have k7 : x2.cell? ⟨w.heap.size, 7, none⟩ = some (.int .i64 d.lf) := (c12 7 (by simp)).1
      have k8 : x2.cell? ⟨w.heap.size, 8, none⟩ = some (.slice a d.ss.length c) := (c12 8 (by simp)).1
      have k9 : x2.cell? ⟨w.heap.size, 9, none⟩ = some (.string d.x) := (c12 9 (by simp)).1
      have k10 : x2.cell? ⟨w.heap.size, 10, none⟩ = some (.int .i64 d.si) := (c12 10 (by simp)).1
      have kp : x2.cell? ⟨w.heap.size + 1, 0, none⟩ = some (.slice pa ts.length pc) := (c2 0 (by simp)).1
      clear s0 c1 c2 c12 E1 P1 A21 E2 P2 g1 g2 hx1 hx2
      go_wp2
      exact bodyPost_ret (v := .tuple #[.agg #[.int .i64 d.nu, .int .i64 d.ep, .bool d.up, .int .i64 d.st, .int .i64 d.le, .int .i64 d.ta, .int .i64 d.co, .int .i64 d.lf, .slice a d.ss.length c, .string d.x, .int .i64 d.si], .agg #[.slice pa ts.length pc]]) (by simp [results, Tryd.results12, go_sem, k0, k1, k2, k3, k4, k5, k6, k7, k8, k9, k10, kp]) rfl HF.out

set_option maxHeartbeats 4000000 in
set_option maxRecDepth 100000 in
theorem drawWorkerTick_any (ad : Option Addr) (b o n cc : Nat) (w : World) (h : BytesAt w ad b o n) (hb : 0 < n → b < w.heap.size) (hcc : n ≤ cc) (hn : n ≤ 1048576) :
    Calls Tryd.prog 4 #[.slice ad n cc] w fun e' w' => RetWP e' w.heap.size w' ∧ Below w.heap.size w w' := by
  obtain ⟨W, hW⟩ : ∃ W, W = (w.alloc (.cells #[.int .i64 0, .int .i64 0, .bool false, .int .i64 0, .int .i64 0, .int .i64 0, .int .i64 0, .int .i64 0, .slice none 0 0, .string ⟨#[]⟩, .int .i64 0] 25)).alloc (.cells #[.slice none 0 0] 28) := ⟨_, rfl⟩
  have hBW : Below w.heap.size w W := by rw [hW]; exact ((Below.refl _ _).alloc (Nat.le_refl _) _).alloc (by simp) _
  have hzW : W.heap.size = w.heap.size + 2 := by rw [hW]; simp
  have hA1 : CF W w.heap.size [.int .i64 0, .int .i64 0, .bool false, .int .i64 0, .int .i64 0, .int .i64 0, .int .i64 0, .int .i64 0, .slice none 0 0, .string ⟨#[]⟩, .int .i64 0] := by rw [hW]; exact (CF.made w #[.int .i64 0, .int .i64 0, .bool false, .int .i64 0, .int .i64 0, .int .i64 0, .int .i64 0, .int .i64 0, .slice none 0 0, .string ⟨#[]⟩, .int .i64 0] 25).block (Below.heap_alloc _ _ _ (by simp))
  have hA2 : CF W (w.heap.size + 1) [.slice none 0 0] := by
    rw [hW]
    have := CF.made (w.alloc (.cells #[.int .i64 0, .int .i64 0, .bool false, .int .i64 0, .int .i64 0, .int .i64 0, .int .i64 0, .int .i64 0, .slice none 0 0, .string ⟨#[]⟩, .int .i64 0] 25)) #[.slice none 0 0] 28
    rw [World.size_alloc] at this
    exact this
  have hWb : BytesAt W ad b o n := ⟨h.1, fun j hj => by
    obtain ⟨v, hv, hc⟩ := h.2 j hj
    exact ⟨v, hv, keepB hBW hc⟩⟩
  have HW := hid hW
  clear hW h
  go_enter Tryd.func4, Tryd.ntmps4
  go_wp2_with fail
  rw [← HW.out]
  clear HW
  refine (l1Open_any ad b o n cc _ hWb (fun h0 => by have := hb h0; omega) hcc hn).mono ?_
  rintro e w1 ⟨rfl, hrd1, hb1⟩
  obtain ⟨g, hg⟩ : ∃ g, g = W.heap.size := ⟨_, rfl⟩
  rw [← hg] at hrd1
  rw [← hg]
  have hA11 := hA1.block (hb1.block _ (by omega))
  have hA21 := hA2.block (hb1.block _ (by omega))
  have hB1 := hBW.trans (hb1.mono hBW.size)
  have hgl : w.heap.size + 1 < g := by omega
  have hg1 := hrd1.lt
  clear hb1 hBW hA1 hA2 hWb hg hzW
  go_wp2_with fail
  refine (l3Any_any g 0 _ hrd1 (by omega)).mono ?_
  rintro e w2 ⟨⟨d, a, c, b, o, pa, pc, ts, vs, rfl, hst, hsb, hpl, hbd, hsm, hl⟩, hrd2, hg2⟩
  have hA12 := hA11.block (hg2.block _ (by omega) (by simp; omega))
  have hA22 := hA21.block (hg2.block _ (by omega) (by simp; omega))
  have hB2 := below_grown hB1 hg2 hB1.size (fun q hq => by injection hq with hq; omega)
  have hz2 := hg2.size
  have f22 : w2.cell? ⟨w.heap.size + 1, 0, none⟩ = some (.slice none 0 0) := (hA22 0 (by simp)).1
  clear hrd1 hrd2 hg2 hA11 hA21 hB1
  go_wp2_with (refine wpList_store_cf rfl 25 (.tmp 2) (.tmp 7) rfl w.heap.size [.int .i64 0, .int .i64 0, .bool false, .int .i64 0, .int .i64 0, .int .i64 0, .int .i64 0, .int .i64 0, .slice none 0 0, .string ⟨#[]⟩, .int .i64 0] [.int .i64 d.nu, .int .i64 d.ep, .bool d.up, .int .i64 d.st, .int .i64 d.le, .int .i64 d.ta, .int .i64 d.co, .int .i64 d.lf, .slice a d.ss.length c, .string d.x, .int .i64 d.si] rfl rfl hA12 rfl Tryd.sizeWk (oneWk _ _ _ _ _ _ _ _ _ _ _ _ _) ?_; intro w3 hc3 hg3; have hA23 := hA22.block (hg3.block _ (by omega) (by simp)); have q3 : w3.cell? ⟨w.heap.size + 1, 0, none⟩ = some (.slice none 0 0) := (hA23 0 (by simp)).1; have qf3 : w3.frozen? ⟨w.heap.size + 1, 0, none⟩ = false := (hA23 0 (by simp)).2)
  obtain ⟨w4, hw4⟩ : ∃ V, V = w3.setCell ⟨w.heap.size + 1, 0, none⟩ (.slice pa ts.length pc) := ⟨_, rfl⟩
  have g4 : w3.grownBy w4 (some (w.heap.size + 1)) := by rw [hw4]; exact gset (World.grownBy.refl _ _) 0 _
  have c4 := hc3.block (g4.block _ (by have := hg3.size; omega) (by simp))
  have kp : w4.cell? ⟨w.heap.size + 1, 0, none⟩ = some (.slice pa ts.length pc) := by rw [hw4]; exact World.cell?_setCell_same _ _ _ q3
  have k0 : w4.cell? ⟨w.heap.size, 0, none⟩ = some (.int .i64 d.nu) := (c4 0 (by simp)).1
  have k1 : w4.cell? ⟨w.heap.size, 1, none⟩ = some (.int .i64 d.ep) := (c4 1 (by simp)).1
  have k2 : w4.cell? ⟨w.heap.size, 2, none⟩ = some (.bool d.up) := (c4 2 (by simp)).1
  have k3 : w4.cell? ⟨w.heap.size, 3, none⟩ = some (.int .i64 d.st) := (c4 3 (by simp)).1
  have k4 : w4.cell? ⟨w.heap.size, 4, none⟩ = some (.int .i64 d.le) := (c4 4 (by simp)).1
  have k5 : w4.cell? ⟨w.heap.size, 5, none⟩ = some (.int .i64 d.ta) := (c4 5 (by simp)).1
  have k6 : w4.cell? ⟨w.heap.size, 6, none⟩ = some (.int .i64 d.co) := (c4 6 (by simp)).1
  have k7 : w4.cell? ⟨w.heap.size, 7, none⟩ = some (.int .i64 d.lf) := (c4 7 (by simp)).1
  have k8 : w4.cell? ⟨w.heap.size, 8, none⟩ = some (.slice a d.ss.length c) := (c4 8 (by simp)).1
  have k9 : w4.cell? ⟨w.heap.size, 9, none⟩ = some (.string d.x) := (c4 9 (by simp)).1
  have k10 : w4.cell? ⟨w.heap.size, 10, none⟩ = some (.int .i64 d.si) := (c4 10 (by simp)).1
  have HF : Hid (RetWP (.returned (.tuple #[.agg #[.int .i64 d.nu, .int .i64 d.ep, .bool d.up, .int .i64 d.st, .int .i64 d.le, .int .i64 d.ta, .int .i64 d.co, .int .i64 d.lf, .slice a d.ss.length c, .string d.x, .int .i64 d.si], .agg #[.slice pa ts.length pc]])) w.heap.size w4 ∧ Below w.heap.size w w4) := by
    have z3 := hg3.size
    have z4 := g4.size
    have far : ∀ q, q < w2.heap.size → q ≠ w.heap.size → q ≠ w.heap.size + 1 → w4.heap[q]? = w2.heap[q]? := fun q h1 h2 h3 => (g4.block q (by omega) (by simpa using h3)).trans (hg3.block q h1 (by simpa using h2))
    refine ⟨⟨d, a, c, b, o, pa, pc, ts, vs, rfl, hst.blkS (by omega) (fun h0 => far b (hst.lt h0) (by have := hsb h0; omega) (by have := hsb h0; omega)), fun h0 => by have := hsb h0; omega, (hpl.blk (w' := w4) (fun q h1 h2 => far q h2 (by omega) (by omega))).mono (by omega), hbd, hsm, hl⟩, below_grown (below_grown hB2 hg3 hB2.size (fun q hq => by injection hq with hq; omega)) g4 (by omega) (fun q hq => by injection hq with hq; omega)⟩
  rw [← hw4]
  exact bodyPost_ret (v := .tuple #[.agg #[.int .i64 d.nu, .int .i64 d.ep, .bool d.up, .int .i64 d.st, .int .i64 d.le, .int .i64 d.ta, .int .i64 d.co, .int .i64 d.lf, .slice a d.ss.length c, .string d.x, .int .i64 d.si], .agg #[.slice pa ts.length pc]]) (by simp [results, Tryd.results4, go_sem, k0, k1, k2, k3, k4, k5, k6, k7, k8, k9, k10, kp]) rfl HF.out
end Go.Proofs.YtimpfhfgcmipgaaDoor
