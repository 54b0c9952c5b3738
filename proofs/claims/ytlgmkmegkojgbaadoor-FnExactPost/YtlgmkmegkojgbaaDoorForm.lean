
/-
  spec.FormMessage, impl.seal, impl.FormMessage.
-/
import Derived.Test.YtlgmkmegkojgbaaDoorBody2
namespace Go.Proofs.YtlgmkmegkojgbaaDoor
open Go.RowKit

def bodyS (k f t e l d : Int) (x : ByteArray) (ss : List ByteArray) : ByteArray := ⟨(bodyL k f t e l d x ss).toArray⟩
theorem bodyS_size (k f t e l d : Int) (x : ByteArray) (ss : List ByteArray) : (bodyS k f t e l d x ss).size = 11 + x.size + tot ss := by
  rw [← bodyL_length k f t e l d x ss]
  show (bodyL k f t e l d x ss).toArray.size = _
  simp
theorem vM_parts {k f t e l d : Int} {z : Nat} {ss : List ByteArray} (h : vM k f t e l d z ss) : z ≤ 8 ∧ inOk ss ∧ 0 ≤ e ∧ e ≤ 300 ∧ 0 ≤ l ∧ l ≤ 300000000 := by
  have nil : ∀ {ss : List ByteArray}, ss.length = 0 → inOk ss := fun h => ⟨by omega, fun j hj => by omega⟩
  unfold vM at h
  rcases h with ⟨_, _, _, _, _, _, _, _, _, _, _, hi⟩ | ⟨_, _, _, _, _, _, _, _, _, _, hi⟩ | ⟨_, _, _, _, _, _, _, _, _, _, _, hi⟩ | ⟨_, _, _, _, _, _, _, _, _, _, hi⟩ | ⟨_, _, _, _, _, _, _, _, _, hi⟩
  · exact ⟨by omega, hi, by omega, by omega, by omega, by omega⟩
  · exact ⟨by omega, nil hi, by omega, by omega, by omega, by omega⟩
  · exact ⟨by omega, nil hi, by omega, by omega, by omega, by omega⟩
  · exact ⟨by omega, nil hi, by omega, by omega, by omega, by omega⟩
  · exact ⟨by omega, nil hi, by omega, by omega, by omega, by omega⟩

/-- What a message is written as. -/
def IsForm (key : ByteArray) (k f t e l d : Int) (x : ByteArray) (ss : List ByteArray) (r : ByteArray) : Prop :=
  (vM k f t e l d x.size ss ∧ key.size ≤ 30 ∧ r = valS key [bodyS k f t e l d x ss] ++ bodyS k f t e l d x ss) ∨ (¬ (vM k f t e l d x.size ss ∧ key.size ≤ 30) ∧ r = ⟨#[]⟩)
theorem IsForm.uniq {key : ByteArray} {k f t e l d : Int} {x : ByteArray} {ss : List ByteArray} {r r' : ByteArray} (h : IsForm key k f t e l d x ss r) (h' : IsForm key k f t e l d x ss r') : r = r' := by
  rcases h with ⟨h1, h2, rfl⟩ | ⟨h1, rfl⟩ <;> rcases h' with ⟨g1, g2, rfl⟩ | ⟨g1, rfl⟩
  · rfl
  · exact absurd ⟨h1, h2⟩ g1
  · exact absurd ⟨g1, g2⟩ h1
  · rfl
def RetF (e' : Ending) (key : ByteArray) (k f t e l d : Int) (x : ByteArray) (ss : List ByteArray) : Prop := ∃ r, e' = .returned (.string r) ∧ IsForm key k f t e l d x ss r

theorem seal_any (body key : ByteArray) (w : World) (hk : key.size ≤ maxLen) (hb : body.size ≤ maxLen) :
    Calls Tryd.prog 42 #[.string body, .string key] w fun e w' => e = .returned (.string (valS key [body])) ∧ Below w.heap.size w w' := by
  have hS : StrsAt (w.alloc (.cells #[.string body] 9)) (some ⟨w.heap.size, 0, none⟩) w.heap.size 0 1 [body] := by
    refine ⟨fun _ => rfl, rfl, by unfold maxLen; omega, fun _ => by simp, fun j hj => ?_, fun s hs => by simp at hs; subst hs; exact hb⟩
    obtain rfl : j = 0 := by omega
    rw [Nat.zero_add]
    exact World.cell?_alloc_mark w #[.string body] 9 (0, 0) 0
  have hbA : Below w.heap.size w (w.alloc (.cells #[.string body] 9)) := (Below.refl _ _).alloc (Nat.le_refl _) _
  go_enter Tryd.func42, Tryd.ntmps42
  go_wp2_with fail
  refine (implValue_any key _ w.heap.size 0 1 1 [body] _ hk hS).mono ?_
  rintro e w' ⟨rfl, hb'⟩
  go_wp2
  go_ret
  exact ⟨rfl, hbA.trans (hb'.mono hbA.size)⟩

set_option maxHeartbeats 1000000 in
set_option maxRecDepth 100000 in
theorem implForm_any (k f t e l d : Int) (x : ByteArray) (a : Option Addr) (b o n c : Nat) (ss : List ByteArray) (key : ByteArray) (w : World) (hT : Tab w) (h : StrsAt w a b o n ss) (hk : key.size ≤ maxLen) :
    Calls Tryd.prog 11 #[.agg #[.int .i64 k, .int .i64 f, .int .i64 t, .int .i64 e, .int .i64 l, .int .i64 d, .string x, .slice a n c], .string key] w fun e' w' => RetF e' key k f t e l d x ss ∧ Below w.heap.size w w' := by
  have hk63 := hk
  unfold maxLen at hk63
  obtain ⟨W, hW⟩ : ∃ W, W = w.alloc (.cells #[.int .i64 k, .int .i64 f, .int .i64 t, .int .i64 e, .int .i64 l, .int .i64 d, .string x, .slice a n c] 27) := ⟨_, rfl⟩
  have hsW : W.heap.size = w.heap.size + 1 := by rw [hW]; simp
  have hbW : Below w.heap.size w W := by rw [hW]; exact (Below.refl _ _).alloc (Nat.le_refl _) _
  have hMC : MC W w.heap.size [.int .i64 k, .int .i64 f, .int .i64 t, .int .i64 e, .int .i64 l, .int .i64 d, .string x, .slice a n c] := by rw [hW]; exact MC.made w _ _
  have HM := hid hMC
  clear hMC
  go_enter Tryd.func11, Tryd.ntmps11
  go_wp2_with fail
  rw [← hW]
  refine (valid_any k f t e l d x a b o n c ss _ (hT.below hbW hT.pos) (h.below' hbW)).mono ?_
  rintro e' w1 ⟨⟨r, rfl, hr⟩, hb1⟩
  clear hW
  have hB1 := hbW.trans (hb1.mono (by omega))
  cases r with
  | false =>
    have hv : ¬ vM k f t e l d x.size ss := fun hv => by have := hr.2 hv; cases this
    have HV := hid hv
    clear hv hr
    go_wp2
    go_ret
    exact ⟨⟨_, rfl, .inr ⟨fun hh => HV.out hh.1, rfl⟩⟩, hB1⟩
  | true =>
    have hv : vM k f t e l d x.size ss := hr.1 rfl
    have HV := hid hv
    obtain ⟨hz, hio, he0, he1, hl0, hl1⟩ := vM_parts hv
    have HO := hid hio
    have HZ := hid hz
    clear hv hr hio hz
    by_cases hkk : key.size ≤ 30
    · have hm1 := MC.below HM.out hb1 (by omega)
      have c0 : w1.cell? ⟨w.heap.size, 0, none⟩ = some (.int .i64 k) := hm1 0 (by simp)
      have c1 : w1.cell? ⟨w.heap.size, 1, none⟩ = some (.int .i64 f) := hm1 1 (by simp)
      have c2 : w1.cell? ⟨w.heap.size, 2, none⟩ = some (.int .i64 t) := hm1 2 (by simp)
      have c3 : w1.cell? ⟨w.heap.size, 3, none⟩ = some (.int .i64 e) := hm1 3 (by simp)
      have c4 : w1.cell? ⟨w.heap.size, 4, none⟩ = some (.int .i64 l) := hm1 4 (by simp)
      have c5 : w1.cell? ⟨w.heap.size, 5, none⟩ = some (.int .i64 d) := hm1 5 (by simp)
      have c6 : w1.cell? ⟨w.heap.size, 6, none⟩ = some (.string x) := hm1 6 (by simp)
      have c7 : w1.cell? ⟨w.heap.size, 7, none⟩ = some (.slice a n c) := hm1 7 (by simp)
      have hsz1 := hB1.size
      clear hm1
      go_wp2_with fail
      refine (formBody_any k f t e l d x a b o n c ss _ (h.below' hB1) HZ.out HO.out).mono ?_
      rintro e' w2 ⟨rfl, hb2⟩
      have hB2 := hB1.trans (hb2.mono hB1.size)
      have hsb := bodyS_size k f t e l d x ss
      have htl := tot_le HO.out
      have hz2 := HZ.out
      have HB : Hid (bodyS k f t e l d x ss = ⟨(bodyL k f t e l d x ss).toArray⟩) := rfl
      have hbb : ∃ bs, bs = bodyS k f t e l d x ss := ⟨_, rfl⟩
      rw [← HB.out]
      obtain ⟨bs, hbs⟩ := hbb
      rw [← hbs] at hsb ⊢
      have hbm : bs.size ≤ maxLen := by unfold maxLen; omega
      have HBS := hid hbs
      clear hbs c0 c1 c2 c3 c4 c5 c6 c7 HB
      go_wp2_with fail
      refine (seal_any bs key _ hk hbm).mono ?_
      rintro e' w3 ⟨rfl, hb3⟩
      have hvs := valS_size key [bs]
      obtain ⟨v, hv⟩ : ∃ v, v = valS key [bs] := ⟨_, rfl⟩
      rw [← hv] at hvs ⊢
      have HVS := hid hv
      clear hv
      have hB3 := hB2.trans (hb3.mono hB2.size)
      go_wp2
      go_ret
      exact ⟨⟨_, rfl, .inl ⟨HV.out, hkk, by rw [← HBS.out, ← HVS.out]⟩⟩, hB3⟩
    · go_wp2
      go_ret
      exact ⟨⟨_, rfl, .inr ⟨fun hh => hkk hh.2, rfl⟩⟩, hB1⟩

set_option maxHeartbeats 1000000 in
set_option maxRecDepth 100000 in
theorem specForm_any (k f t e l d : Int) (x : ByteArray) (a : Option Addr) (b o n c : Nat) (ss : List ByteArray) (key : ByteArray) (w : World) (h : StrsAt w a b o n ss) (hk : key.size ≤ maxLen) :
    Calls Tryd.prog 9 #[.agg #[.int .i64 k, .int .i64 f, .int .i64 t, .int .i64 e, .int .i64 l, .int .i64 d, .string x, .slice a n c], .string key] w fun e' w' => RetF e' key k f t e l d x ss ∧ Below w.heap.size w w' := by
  have hk63 := hk
  unfold maxLen at hk63
  obtain ⟨W, hW⟩ : ∃ W, W = w.alloc (.cells #[.int .i64 k, .int .i64 f, .int .i64 t, .int .i64 e, .int .i64 l, .int .i64 d, .string x, .slice a n c] 27) := ⟨_, rfl⟩
  have hsW : W.heap.size = w.heap.size + 1 := by rw [hW]; simp
  have hbW : Below w.heap.size w W := by rw [hW]; exact (Below.refl _ _).alloc (Nat.le_refl _) _
  have hMC : MC W w.heap.size [.int .i64 k, .int .i64 f, .int .i64 t, .int .i64 e, .int .i64 l, .int .i64 d, .string x, .slice a n c] := by rw [hW]; exact MC.made w _ _
  have HM := hid hMC
  clear hMC
  go_enter Tryd.func9, Tryd.ntmps9
  go_wp2_with fail
  rw [← hW]
  refine (l2Ok_any k f t e l d x a b o n c ss _ (h.below' hbW)).mono ?_
  rintro e' w1 ⟨⟨r, rfl, hr⟩, hb1⟩
  clear hW
  have hB1 := hbW.trans (hb1.mono (by omega))
  cases r with
  | false =>
    have hv : ¬ vM k f t e l d x.size ss := fun hv => by have := hr.2 hv; cases this
    have HV := hid hv
    clear hv hr
    go_wp2
    go_ret
    exact ⟨⟨_, rfl, .inr ⟨fun hh => HV.out hh.1, rfl⟩⟩, hB1⟩
  | true =>
    have hv : vM k f t e l d x.size ss := hr.1 rfl
    have HV := hid hv
    obtain ⟨hz, hio, he0, he1, hl0, hl1⟩ := vM_parts hv
    have HO := hid hio
    have HZ := hid hz
    clear hv hr hio hz
    by_cases hkk : key.size ≤ 30
    · have hm1 := MC.below HM.out hb1 (by omega)
      have c0 : w1.cell? ⟨w.heap.size, 0, none⟩ = some (.int .i64 k) := hm1 0 (by simp)
      have c1 : w1.cell? ⟨w.heap.size, 1, none⟩ = some (.int .i64 f) := hm1 1 (by simp)
      have c2 : w1.cell? ⟨w.heap.size, 2, none⟩ = some (.int .i64 t) := hm1 2 (by simp)
      have c3 : w1.cell? ⟨w.heap.size, 3, none⟩ = some (.int .i64 e) := hm1 3 (by simp)
      have c4 : w1.cell? ⟨w.heap.size, 4, none⟩ = some (.int .i64 l) := hm1 4 (by simp)
      have c5 : w1.cell? ⟨w.heap.size, 5, none⟩ = some (.int .i64 d) := hm1 5 (by simp)
      have c6 : w1.cell? ⟨w.heap.size, 6, none⟩ = some (.string x) := hm1 6 (by simp)
      have c7 : w1.cell? ⟨w.heap.size, 7, none⟩ = some (.slice a n c) := hm1 7 (by simp)
      have hsz1 := hB1.size
      clear hm1
      go_wp2_with fail
      refine (l2Body_any k f t e l d x a b o n c ss _ (h.below' hB1) HZ.out HO.out he0 he1 hl0 hl1).mono ?_
      rintro e' w2 ⟨rfl, hb2⟩
      have hB2 := hB1.trans (hb2.mono hB1.size)
      have hsb := bodyS_size k f t e l d x ss
      have htl := tot_le HO.out
      have hz2 := HZ.out
      have HB : Hid (bodyS k f t e l d x ss = ⟨(bodyL k f t e l d x ss).toArray⟩) := rfl
      have hbb : ∃ bs, bs = bodyS k f t e l d x ss := ⟨_, rfl⟩
      rw [← HB.out]
      obtain ⟨bs, hbs⟩ := hbb
      rw [← hbs] at hsb ⊢
      have hbm : bs.size ≤ maxLen := by unfold maxLen; omega
      have HBS := hid hbs
      clear hbs c0 c1 c2 c3 c4 c5 c6 c7 HB
      have hcat : valS key [bs] = sumS (fnv start (key ++ ⟨#[0]⟩ ++ bs).data.toList) := by
        unfold valS addL
        simp
      have hcs : (key ++ ⟨#[0]⟩ ++ bs).size ≤ maxLen := by
        rw [ByteArray.size_append, ByteArray.size_append]
        have : (⟨#[0]⟩ : ByteArray).size = 1 := rfl
        unfold maxLen; omega
      have HC := hid hcat
      have HCS := hid hcs
      clear hcat hcs
      go_wp2_with fail
      refine (l1Sum_any _ _ HCS.out).mono ?_
      rintro e' w3 ⟨rfl, hb3⟩
      have hB3 := hB2.trans (hb3.mono hB2.size)
      rw [← HC.out]
      have hvs := valS_size key [bs]
      obtain ⟨v, hv⟩ : ∃ v, v = valS key [bs] := ⟨_, rfl⟩
      rw [← hv] at hvs ⊢
      have HVS := hid hv
      clear hv
      go_wp2
      go_ret
      exact ⟨⟨_, rfl, .inl ⟨HV.out, hkk, by rw [← HBS.out, ← HVS.out]⟩⟩, hB3⟩
    · go_wp2
      go_ret
      exact ⟨⟨_, rfl, .inr ⟨fun hh => hkk hh.2, rfl⟩⟩, hB1⟩

end Go.Proofs.YtlgmkmegkojgbaaDoor
