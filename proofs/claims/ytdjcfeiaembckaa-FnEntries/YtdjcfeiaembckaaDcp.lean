
/-
  spec.DrawCheckPlan.
-/
import Derived.Test.YtdjcfeiaembckaaDsp
namespace Go.Proofs.Ytdjcfeiaembckaa
open Go.RowKit

set_option maxHeartbeats 4000000 in
set_option maxRecDepth 100000 in
theorem drawCheckPlan_any (ad : Option Addr) (b o n cc : Nat) (w : World) (h : BytesAt w ad b o n) (hb : 0 < n → b < w.heap.size) (hcc : n ≤ cc) (hn : n ≤ 1048576) :
    Calls Try.prog 5 #[.slice ad n cc] w fun e' w' => RetPl e' w.heap.size w' ∧ Below w.heap.size w w' := by
  obtain ⟨W, hW⟩ : ∃ W, W = w.alloc (.cells #[.slice none 0 0] 25) := ⟨_, rfl⟩
  have hBW : Below w.heap.size w W := by rw [hW]; exact (Below.refl _ _).alloc (Nat.le_refl _) _
  have hR : CF W w.heap.size [.slice none 0 0] := by rw [hW]; exact CF.made w #[.slice none 0 0] 25
  have hz : W.heap.size = w.heap.size + 1 := by rw [hW]; simp
  have hWb : BytesAt W ad b o n := ⟨h.1, fun j hj => by
    obtain ⟨v, hv, hc⟩ := h.2 j hj
    exact ⟨v, hv, keepB hBW hc⟩⟩
  have HW := hid hW
  clear hW h
  go_enter Try.func5, Try.ntmps5
  go_wp2_with fail
  rw [← HW.out]
  clear HW
  refine (l1Open_any ad b o n cc _ hWb (fun h0 => by have := hb h0; omega) hcc hn).mono ?_
  rintro e w1 ⟨rfl, hrd1, hb1⟩
  obtain ⟨g, hg⟩ : ∃ g, g = W.heap.size := ⟨_, rfl⟩
  rw [← hg] at hrd1
  rw [← hg]
  have hR1 := hR.block (hb1.block _ (by omega))
  have hB1 := hBW.trans (hb1.mono hBW.size)
  have hgl : w.heap.size < g := by omega
  clear hb1 hBW hR hWb hg hz
  go_wp2_with fail
  refine (l1Draw_any g 0 _ hrd1 (by omega)).mono ?_
  rintro e w2 ⟨⟨v, ts, vs, rfl, hpl, hsm, hsd, h1, h40⟩, hrd2, hg2⟩
  have hz1 := hrd1.lt
  obtain ⟨va, vc, rfl⟩ := hpl.row.slc
  have hR2 := hR1.block (hg2.block _ (by omega) (by simp; omega))
  have hB2 := below_grown hB1 hg2 hB1.size (fun q hq => by injection hq with hq; omega)
  have hz2 := hg2.size
  obtain ⟨W2, hW2⟩ : ∃ V, V = w2.alloc (.cells #[.slice va ts.length vc] 25) := ⟨_, rfl⟩
  have ba : Below w2.heap.size w2 W2 := by rw [hW2]; exact (Below.refl _ _).alloc (Nat.le_refl _) _
  have cP : CF W2 w2.heap.size [.slice va ts.length vc] := by rw [hW2]; exact CF.made w2 #[.slice va ts.length vc] 25
  have zP : w2.heap.size < W2.heap.size := by rw [hW2]; simp
  have hR3 := hR2.block (ba.block _ (by omega))
  have hB3 := hB2.trans (ba.mono hB2.size)
  have hrd3 := hrd2.below ba
  have hpl3 := hpl.below ba
  have HW2 := hid hW2
  clear hW2 hpl hrd2 hg2 hR2 hR1 hB2 hB1 ba
  go_upto_region 3 with fail
  rw [← HW2.out]
  clear HW2
  go_wp2_with fail
  refine (pick_any g 2 _ _ hrd3 (by omega) (by omega) (by omega)).mono ?_
  rintro e w4 ⟨⟨r, hr, rfl⟩, hrd4, hg4⟩
  have cP4 := cP.block (hg4.block _ zP (by simp; omega))
  have hR4 := hR3.block (hg4.block _ (by omega) (by simp; omega))
  have hB4 := below_grown hB3 hg4 hB3.size (fun q hq => by injection hq with hq; omega)
  have hpl4 := hpl3.grownNew hg4 (fun x h1 _ => by omega)
  have hz4 := hg4.size
  clear cP hR3 hB3 hpl3 hg4 hrd3
  have p4 : w4.cell? ⟨w2.heap.size, 0, none⟩ = some (.slice va ts.length vc) := (cP4 0 (by simp)).1
  by_cases hr0 : r = 0
  · subst hr0
    obtain ⟨a', b', o', c', he, hT⟩ := hpl4.tasks hsm.fit (by unfold maxLen; omega)
    cases he
    go_wp2_with fail
    refine (l1Spoil_any g _ va b' o' vc ts _ hrd4 (by omega) hT hsm h1 h40 (fun j hj => (hsd j hj).2) (fun j hj => (hsd j hj).1)).mono ?_
    rintro e w5 ⟨⟨v5, ts5, vs5, rfl, hpl5, hsm5, hl5⟩, hrd5, hg5⟩
    obtain ⟨va5, vc5, rfl⟩ := hpl5.row.slc
    have hR5 := hR4.block (hg5.block _ (by omega) (by simp; omega))
    have hB5 := below_grown hB4 hg5 hB4.size (fun q hq => by injection hq with hq; omega)
    have k5 : w5.cell? ⟨w.heap.size, 0, none⟩ = some (.slice none 0 0) := (hR5 0 (by simp)).1
    have f5 : w5.frozen? ⟨w.heap.size, 0, none⟩ = false := (hR5 0 (by simp)).2
    have gs := gset (World.grownBy.refl w5 (some w.heap.size)) 0 (.slice va5 ts5.length vc5)
    have HF : Hid (RetPl (.returned (.agg #[.slice va5 ts5.length vc5])) w.heap.size (w5.setCell ⟨w.heap.size, 0, none⟩ (.slice va5 ts5.length vc5)) ∧ Below w.heap.size w (w5.setCell ⟨w.heap.size, 0, none⟩ (.slice va5 ts5.length vc5))) :=
      ⟨⟨_, ts5, vs5, rfl, (hpl5.grownNew gs (fun x h1 _ => by omega)).mono (by omega), hsm5, hl5⟩, below_grown hB5 gs hB5.size (fun q hq => by injection hq with hq; omega)⟩
    clear gs hR5 hB5 hpl5 hpl4 hT hg5 hrd5
    go_wp2
    exact bodyPost_ret (v := .agg #[.slice va5 ts5.length vc5]) (by simp [results, Try.results5, go_sem, k5]) rfl HF.out
  · have hr0' : ¬ (r : Int) = 0 := by omega
    have k5 : w4.cell? ⟨w.heap.size, 0, none⟩ = some (.slice none 0 0) := (hR4 0 (by simp)).1
    have f5 : w4.frozen? ⟨w.heap.size, 0, none⟩ = false := (hR4 0 (by simp)).2
    have gs := gset (World.grownBy.refl w4 (some w.heap.size)) 0 (.slice va ts.length vc)
    have HF : Hid (RetPl (.returned (.agg #[.slice va ts.length vc])) w.heap.size (w4.setCell ⟨w.heap.size, 0, none⟩ (.slice va ts.length vc)) ∧ Below w.heap.size w (w4.setCell ⟨w.heap.size, 0, none⟩ (.slice va ts.length vc))) :=
      ⟨⟨_, ts, vs, rfl, (hpl4.grownNew gs (fun x h1 _ => by omega)).mono (by omega), hsm, by omega⟩, below_grown hB4 gs hB4.size (fun q hq => by injection hq with hq; omega)⟩
    clear gs hR4 hB4 hpl4
    go_wp2
    exact bodyPost_ret (v := .agg #[.slice va ts.length vc]) (by simp [results, Try.results5, go_sem, k5]) rfl HF.out
theorem RetPl.tasks {e : Ending} {B : Nat} {w : World} (h : RetPl e B w) : ∃ a b o m c ts, e = .returned (.agg #[.slice a m c]) ∧ TasksAt w a b o m ts := by
  obtain ⟨v, ts, vs, rfl, hpl, hsm, hl⟩ := h
  obtain ⟨a, b, o, c, rfl, hT⟩ := hpl.tasks hsm.fit (by unfold maxLen; omega)
  exact ⟨a, b, o, _, c, ts, rfl, hT⟩
end Go.Proofs.Ytdjcfeiaembckaa
