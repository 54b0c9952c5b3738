
/-
  impl.ReadEntry.
-/
import Derived.Test.YtoikcjeagigmfaaERd
import Derived.Deep.DeepCutAuto
import Derived.Deep.MidRow
namespace Go.Proofs.Ytoikcjeagigmfaa
open Go.RowKit

theorem Try.sizeEnt : (Try.prog.info? 26).map (·.size) = some 4 := by kernel_rfl
def zE : List Value := [.int .i64 0, .int .i64 0, .int .i64 0, .string ⟨#[]⟩]
theorem one4 (k e d : Int) (x : ByteArray) : ∀ v ∈ [Value.int .i64 k, .int .i64 e, .int .i64 d, .string x], v.oneCell' = true := by
  intro v hv
  simp only [List.mem_cons, List.not_mem_nil, or_false] at hv
  rcases hv with rfl | rfl | rfl | rfl <;> rfl
/-- Amid ReadEntry: the entry so far in block P + 1 + 1, the answer's box in block P. -/
structure RE (w0 : World) (P : Nat) (vs : List Value) (w : World) : Prop where
  m : CF w (P + 1 + 1) vs
  bx : CF w P zE
  lo : P + 1 + 1 < w.heap.size
  be : Below P w0 w
theorem RE.call {w0 w w' : World} {P : Nat} {vs : List Value} (h : RE w0 P vs w) (hg : w.grownBy w' (some (P + 1))) : RE w0 P vs w' :=
  ⟨h.m.block (hg.block _ h.lo (by simp)), h.bx.block (hg.block _ (by have := h.lo; omega) (by simp)), Nat.lt_of_lt_of_le h.lo hg.size,
    h.be.grown hg (by have := h.lo; omega) (fun k hk => by simp at hk; omega)⟩
theorem RE.store {w0 w : World} {P : Nat} {vs : List Value} (h : RE w0 P vs w) {j : Nat} (hj : j < vs.length) (u : Value) : RE w0 P (vs.set j u) (w.setCell ⟨P + 1 + 1, j, none⟩ u) :=
  ⟨h.m.set hj u, h.bx.block (Below.heap_setCell _ _ _ _ (by dsimp only; omega)), by simpa [World.setCell] using h.lo, h.be.setCell (by dsimp only; omega) _⟩
theorem RE.below {w0 w w' : World} {P : Nat} {vs : List Value} (h : RE w0 P vs w) (hb : Below w.heap.size w w') : RE w0 P vs w' :=
  ⟨h.m.block (hb.block _ h.lo), h.bx.block (hb.block _ (by have := h.lo; omega)), Nat.lt_of_lt_of_le h.lo hb.size, h.be.trans (hb.mono (by have := h.lo; omega))⟩
theorem re_start (w : World) (s : ByteArray) (W : World) (hW : W = ((w.alloc (.cells zE.toArray 26)).alloc (.cells #[.string s, .nilIface] 85)).alloc (.cells zE.toArray 26)) :
    RE w w.heap.size zE W ∧ RdU W (w.heap.size + 1) (q0 s) := by
  have h1 : CF (w.alloc (.cells zE.toArray 26)) w.heap.size zE := CF.made w zE.toArray _
  have e1 : (w.alloc (.cells zE.toArray 26)).heap.size = w.heap.size + 1 := by simp
  have h2 := CF.made (w.alloc (.cells zE.toArray 26)) #[.string s, .nilIface] 85
  rw [e1] at h2
  have e2 : ((w.alloc (.cells zE.toArray 26)).alloc (.cells #[.string s, .nilIface] 85)).heap.size = w.heap.size + 1 + 1 := by simp
  have h3 := CF.made ((w.alloc (.cells zE.toArray 26)).alloc (.cells #[.string s, .nilIface] 85)) zE.toArray 26
  rw [e2] at h3
  subst hW
  have k1 := (h1.block (Below.heap_alloc _ (.cells #[.string s, .nilIface] 85) w.heap.size (by simp))).block (Below.heap_alloc _ (.cells zE.toArray 26) w.heap.size (by simp; omega))
  have k2 := h2.block (Below.heap_alloc _ (.cells zE.toArray 26) (w.heap.size + 1) (by simp))
  exact ⟨⟨h3, k1, by simp, (((Below.refl _ _).alloc (Nat.le_refl _) _).alloc (by simp) _).alloc (by simp; omega) _⟩, .inl ⟨rfl, s, rfl, (k2 0 (by simp)).1, (k2 1 (by simp)).1, (k2 0 (by simp)).2, (k2 1 (by simp)).2⟩⟩

set_option maxHeartbeats 2000000 in
set_option maxRecDepth 100000 in
theorem implReadE_any (s : ByteArray) (w : World) :
    Calls Try.prog 12 #[.string s] w fun e' w' => RetE e' s ∧ Below w.heap.size w w' := by
  obtain ⟨W, hW⟩ : ∃ W, W = ((w.alloc (.cells zE.toArray 26)).alloc (.cells #[.string s, .nilIface] 85)).alloc (.cells zE.toArray 26) := ⟨_, rfl⟩
  obtain ⟨hs0, hr0⟩ := re_start w s W hW
  simp only [zE] at hW
  go_enter Try.func12, Try.ntmps12
  go_wp2_with fail
  rw [← hW]
  clear hW
  refine (number_U (w.heap.size + 1) 1 (q0 s) _ hr0 (by omega) (by omega)).mono ?_
  rintro e0 w1 ⟨rfl, hr0', hg0⟩
  rw [show rdN 1 (q0 s) = n0 s from rfl]
  rw [show rdA 1 (q0 s) = q1 s from rfl] at hr0'
  have hs0' := hs0.call hg0
  have c0 : w1.cell? ⟨w.heap.size + 1 + 1, 0, none⟩ = some (.int .i64 0) := (hs0'.m 0 (by simp [zE])).1
  have f0 := (hs0'.m 0 (by simp [zE])).2
  have hs1 := hs0'.store (j := 0) (by simp [zE]) (.int .i64 (n0 s))
  have hr1 := hr0'.store (j := 0) (u := .int .i64 (n0 s))
  simp only [zE, List.set_cons_zero] at hs1

  clear hs0' hr0' hg0 hs0 hr0
  go_wp2_with fail
  refine (number_U (w.heap.size + 1) 2 (q1 s) _ hr1 (by omega) (by omega)).mono ?_
  rintro e0 w2 ⟨rfl, hr1', hg1⟩
  rw [show rdN 2 (q1 s) = n1 s from rfl]
  rw [show rdA 2 (q1 s) = q2 s from rfl] at hr1'
  have hs1' := hs1.call hg1
  have c1 : w2.cell? ⟨w.heap.size + 1 + 1, 1, none⟩ = some (.int .i64 0) := (hs1'.m 1 (by simp)).1
  have f1 := (hs1'.m 1 (by simp)).2
  have hs2 := hs1'.store (j := 1) (by simp) (.int .i64 (n1 s))
  have hr2 := hr1'.store (j := 1) (u := .int .i64 (n1 s))
  simp only [List.set_cons_zero, List.set_cons_succ] at hs2

  clear hs1' hr1' hg1 hs1 hr1
  clear c0 f0
  go_wp2_with fail
  refine (number_U (w.heap.size + 1) 1 (q2 s) _ hr2 (by omega) (by omega)).mono ?_
  rintro e0 w3 ⟨rfl, hr2', hg2⟩
  rw [show rdN 1 (q2 s) = n2 s from rfl]
  rw [show rdA 1 (q2 s) = q3 s from rfl] at hr2'
  have hs2' := hs2.call hg2
  have c2 : w3.cell? ⟨w.heap.size + 1 + 1, 2, none⟩ = some (.int .i64 0) := (hs2'.m 2 (by simp)).1
  have f2 := (hs2'.m 2 (by simp)).2
  have hs3 := hs2'.store (j := 2) (by simp) (.int .i64 (n2 s))
  have hr3 := hr2'.store (j := 2) (u := .int .i64 (n2 s))
  simp only [List.set_cons_zero, List.set_cons_succ] at hs3
  have d0 : w3.cell? ⟨w.heap.size + 1 + 1, 0, none⟩ = some (.int .i64 (n0 s)) := (hs2'.m 0 (by simp)).1
  clear hs2' hr2' hg2 hs2 hr2
  clear c1 f1
  cases hK : (n0 s == 2) with
  | false =>
    have GK := hid (show ¬ n0 s = 2 by simpa using hK)
    go_wp2_with fail
    refine (end_U (w.heap.size + 1) _ _ hr3).mono ?_
    rintro e0 w7 ⟨hend, hg7⟩
    clear c2 f2 d0
    have hs7 := hs3.call hg7
    rcases hend with ⟨hq, rfl⟩ | ⟨hq, a, rfl⟩
    · have HQ := hid hq
      clear hq
      have c0 : w7.cell? ⟨w.heap.size + 1 + 1, 0, none⟩ = some (.int .i64 (n0 s)) := (hs7.m 0 (by simp)).1
      have c1 : w7.cell? ⟨w.heap.size + 1 + 1, 1, none⟩ = some (.int .i64 (n1 s)) := (hs7.m 1 (by simp)).1
      have c2 : w7.cell? ⟨w.heap.size + 1 + 1, 2, none⟩ = some (.int .i64 (n2 s)) := (hs7.m 2 (by simp)).1
      have c3 : w7.cell? ⟨w.heap.size + 1 + 1, 3, none⟩ = some (.string ⟨#[]⟩) := (hs7.m 3 (by simp)).1
      go_wp2_with fail
      refine (validEntry_any _ _ _ _ _).mono ?_
      rintro e' w8 ⟨⟨r, rfl, hr⟩, hb8⟩
      have hs8 := hs7.below hb8
      have hbx := hs8.bx
      have hbe := hs8.be
      have hlo := hs8.lo
      clear c0 c1 c2 c3
      cases r with
      | true =>
        have HG := hid (one_good HQ.out (hr.1 rfl))
        clear hr
        have c0 : w8.cell? ⟨w.heap.size + 1 + 1, 0, none⟩ = some (.int .i64 (n0 s)) := (hs8.m 0 (by simp)).1
        have c1 : w8.cell? ⟨w.heap.size + 1 + 1, 1, none⟩ = some (.int .i64 (n1 s)) := (hs8.m 1 (by simp)).1
        have c2 : w8.cell? ⟨w.heap.size + 1 + 1, 2, none⟩ = some (.int .i64 (n2 s)) := (hs8.m 2 (by simp)).1
        have c3 : w8.cell? ⟨w.heap.size + 1 + 1, 3, none⟩ = some (.string ⟨#[]⟩) := (hs8.m 3 (by simp)).1
        go_wp2_with (refine wpList_store_cf rfl 26 (.tmp 2) (.tmp 27) rfl w.heap.size zE [.int .i64 (n0 s), .int .i64 (n1 s), .int .i64 (n2 s), .string ⟨#[]⟩] rfl rfl hbx rfl Try.sizeEnt (one4 _ _ _ _) ?_; intro w10 hc10 hg10)
        have k0 : w10.cell? ⟨w.heap.size, 0, none⟩ = some (.int .i64 (n0 s)) := (hc10 0 (by simp)).1
        have k1 : w10.cell? ⟨w.heap.size, 1, none⟩ = some (.int .i64 (n1 s)) := (hc10 1 (by simp)).1
        have k2 : w10.cell? ⟨w.heap.size, 2, none⟩ = some (.int .i64 (n2 s)) := (hc10 2 (by simp)).1
        have k3 : w10.cell? ⟨w.heap.size, 3, none⟩ = some (.string ⟨#[]⟩) := (hc10 3 (by simp)).1
        exact bodyPost_ret (v := .tuple #[.agg #[.int .i64 (n0 s), .int .i64 (n1 s), .int .i64 (n2 s), .string ⟨#[]⟩], .bool true]) (by simp [results, Try.results12, go_sem, k0, k1, k2, k3]) rfl ⟨.inr ⟨_, _, _, _, rfl, HG.out⟩, hbe.grown hg10 (by omega) (fun q hq => by simp at hq; omega)⟩
      | false =>
        have HN := hid (one_no GK.out (fun hh => by have := hr.2 hh.2; cases this))
        clear hr
        go_wp2_with (refine wpList_store_cf rfl 26 (.tmp 2) (.tmp 26) rfl w.heap.size zE [.int .i64 0, .int .i64 0, .int .i64 0, .string ⟨#[]⟩] rfl rfl hbx rfl Try.sizeEnt (one4 _ _ _ _) ?_; intro w10 hc10 hg10)
        have k0 : w10.cell? ⟨w.heap.size, 0, none⟩ = some (.int .i64 0) := (hc10 0 (by simp)).1
        have k1 : w10.cell? ⟨w.heap.size, 1, none⟩ = some (.int .i64 0) := (hc10 1 (by simp)).1
        have k2 : w10.cell? ⟨w.heap.size, 2, none⟩ = some (.int .i64 0) := (hc10 2 (by simp)).1
        have k3 : w10.cell? ⟨w.heap.size, 3, none⟩ = some (.string ⟨#[]⟩) := (hc10 3 (by simp)).1
        exact bodyPost_ret (v := .tuple #[.agg #[.int .i64 0, .int .i64 0, .int .i64 0, .string ⟨#[]⟩], .bool false]) (by simp [results, Try.results12, go_sem, k0, k1, k2, k3]) rfl ⟨.inl ⟨rfl, HN.out⟩, hbe.grown hg10 (by omega) (fun q hq => by simp at hq; omega)⟩
    · have HN := hid (one_no GK.out (fun hh => hq hh.1))
      clear hq
      have hbx := hs7.bx
      have hbe := hs7.be
      have hlo := hs7.lo
      go_wp2_with (refine wpList_store_cf rfl 26 (.tmp 2) (.tmp 26) rfl w.heap.size zE [.int .i64 0, .int .i64 0, .int .i64 0, .string ⟨#[]⟩] rfl rfl hbx rfl Try.sizeEnt (one4 _ _ _ _) ?_; intro w10 hc10 hg10)
      have k0 : w10.cell? ⟨w.heap.size, 0, none⟩ = some (.int .i64 0) := (hc10 0 (by simp)).1
      have k1 : w10.cell? ⟨w.heap.size, 1, none⟩ = some (.int .i64 0) := (hc10 1 (by simp)).1
      have k2 : w10.cell? ⟨w.heap.size, 2, none⟩ = some (.int .i64 0) := (hc10 2 (by simp)).1
      have k3 : w10.cell? ⟨w.heap.size, 3, none⟩ = some (.string ⟨#[]⟩) := (hc10 3 (by simp)).1
      exact bodyPost_ret (v := .tuple #[.agg #[.int .i64 0, .int .i64 0, .int .i64 0, .string ⟨#[]⟩], .bool false]) (by simp [results, Try.results12, go_sem, k0, k1, k2, k3]) rfl ⟨.inl ⟨rfl, HN.out⟩, hbe.grown hg10 (by omega) (fun q hq => by simp at hq; omega)⟩
  | true =>
    have GK := hid (show n0 s = 2 by simpa using hK)
    go_wp2_with fail
    refine (text_U (w.heap.size + 1) 8 (q3 s) _ hr3 (by omega) (by omega)).mono ?_
    rintro e0 w4 ⟨rfl, hr3', hg3⟩
    have hs3' := hs3.call hg3
    have c3 : w4.cell? ⟨w.heap.size + 1 + 1, 3, none⟩ = some (.string ⟨#[]⟩) := (hs3'.m 3 (by simp)).1
    have f3 := (hs3'.m 3 (by simp)).2
    obtain ⟨x, hx⟩ : ∃ x, x = rdT 8 (q3 s) := ⟨_, rfl⟩
    rw [← hx]
    have HX := hid hx
    have hs4 := hs3'.store (j := 3) (by simp) (.string x)
    have hr4 := hr3'.store (j := 3) (u := .string x)
    simp only [List.set_cons_zero, List.set_cons_succ] at hs4
    clear hs3' hr3' hg3 hs3 hr3 hx c2 f2 d0
    go_wp2_with fail
    refine (end_U (w.heap.size + 1) _ _ hr4).mono ?_
    rintro e0 w7 ⟨hend, hg7⟩
    clear c3 f3
    have hs7 := hs4.call hg7
    rcases hend with ⟨hq, rfl⟩ | ⟨hq, a, rfl⟩
    · have HQ := hid hq
      clear hq
      have c0 : w7.cell? ⟨w.heap.size + 1 + 1, 0, none⟩ = some (.int .i64 (n0 s)) := (hs7.m 0 (by simp)).1
      have c1 : w7.cell? ⟨w.heap.size + 1 + 1, 1, none⟩ = some (.int .i64 (n1 s)) := (hs7.m 1 (by simp)).1
      have c2 : w7.cell? ⟨w.heap.size + 1 + 1, 2, none⟩ = some (.int .i64 (n2 s)) := (hs7.m 2 (by simp)).1
      have c3 : w7.cell? ⟨w.heap.size + 1 + 1, 3, none⟩ = some (.string x) := (hs7.m 3 (by simp)).1
      go_wp2_with fail
      refine (validEntry_any _ _ _ _ _).mono ?_
      rintro e' w8 ⟨⟨r, rfl, hr⟩, hb8⟩
      have hs8 := hs7.below hb8
      have hbx := hs8.bx
      have hbe := hs8.be
      have hlo := hs8.lo
      clear c0 c1 c2 c3
      cases r with
      | true =>
        have HG := hid (show GoodE s (n0 s) (n1 s) (n2 s) x by rw [HX.out]; exact two_good HQ.out (by rw [← HX.out]; exact hr.1 rfl))
        clear hr
        have c0 : w8.cell? ⟨w.heap.size + 1 + 1, 0, none⟩ = some (.int .i64 (n0 s)) := (hs8.m 0 (by simp)).1
        have c1 : w8.cell? ⟨w.heap.size + 1 + 1, 1, none⟩ = some (.int .i64 (n1 s)) := (hs8.m 1 (by simp)).1
        have c2 : w8.cell? ⟨w.heap.size + 1 + 1, 2, none⟩ = some (.int .i64 (n2 s)) := (hs8.m 2 (by simp)).1
        have c3 : w8.cell? ⟨w.heap.size + 1 + 1, 3, none⟩ = some (.string x) := (hs8.m 3 (by simp)).1
        go_wp2_with (refine wpList_store_cf rfl 26 (.tmp 2) (.tmp 27) rfl w.heap.size zE [.int .i64 (n0 s), .int .i64 (n1 s), .int .i64 (n2 s), .string x] rfl rfl hbx rfl Try.sizeEnt (one4 _ _ _ _) ?_; intro w10 hc10 hg10)
        have k0 : w10.cell? ⟨w.heap.size, 0, none⟩ = some (.int .i64 (n0 s)) := (hc10 0 (by simp)).1
        have k1 : w10.cell? ⟨w.heap.size, 1, none⟩ = some (.int .i64 (n1 s)) := (hc10 1 (by simp)).1
        have k2 : w10.cell? ⟨w.heap.size, 2, none⟩ = some (.int .i64 (n2 s)) := (hc10 2 (by simp)).1
        have k3 : w10.cell? ⟨w.heap.size, 3, none⟩ = some (.string x) := (hc10 3 (by simp)).1
        exact bodyPost_ret (v := .tuple #[.agg #[.int .i64 (n0 s), .int .i64 (n1 s), .int .i64 (n2 s), .string x], .bool true]) (by simp [results, Try.results12, go_sem, k0, k1, k2, k3]) rfl ⟨.inr ⟨_, _, _, _, rfl, HG.out⟩, hbe.grown hg10 (by omega) (fun q hq => by simp at hq; omega)⟩
      | false =>
        have HN := hid (two_no GK.out (fun hh => by have := hr.2 (by rw [HX.out]; exact hh.2); cases this))
        clear hr
        go_wp2_with (refine wpList_store_cf rfl 26 (.tmp 2) (.tmp 26) rfl w.heap.size zE [.int .i64 0, .int .i64 0, .int .i64 0, .string ⟨#[]⟩] rfl rfl hbx rfl Try.sizeEnt (one4 _ _ _ _) ?_; intro w10 hc10 hg10)
        have k0 : w10.cell? ⟨w.heap.size, 0, none⟩ = some (.int .i64 0) := (hc10 0 (by simp)).1
        have k1 : w10.cell? ⟨w.heap.size, 1, none⟩ = some (.int .i64 0) := (hc10 1 (by simp)).1
        have k2 : w10.cell? ⟨w.heap.size, 2, none⟩ = some (.int .i64 0) := (hc10 2 (by simp)).1
        have k3 : w10.cell? ⟨w.heap.size, 3, none⟩ = some (.string ⟨#[]⟩) := (hc10 3 (by simp)).1
        exact bodyPost_ret (v := .tuple #[.agg #[.int .i64 0, .int .i64 0, .int .i64 0, .string ⟨#[]⟩], .bool false]) (by simp [results, Try.results12, go_sem, k0, k1, k2, k3]) rfl ⟨.inl ⟨rfl, HN.out⟩, hbe.grown hg10 (by omega) (fun q hq => by simp at hq; omega)⟩
    · have HN := hid (two_no GK.out (fun hh => hq hh.1))
      clear hq
      have hbx := hs7.bx
      have hbe := hs7.be
      have hlo := hs7.lo
      go_wp2_with (refine wpList_store_cf rfl 26 (.tmp 2) (.tmp 26) rfl w.heap.size zE [.int .i64 0, .int .i64 0, .int .i64 0, .string ⟨#[]⟩] rfl rfl hbx rfl Try.sizeEnt (one4 _ _ _ _) ?_; intro w10 hc10 hg10)
      have k0 : w10.cell? ⟨w.heap.size, 0, none⟩ = some (.int .i64 0) := (hc10 0 (by simp)).1
      have k1 : w10.cell? ⟨w.heap.size, 1, none⟩ = some (.int .i64 0) := (hc10 1 (by simp)).1
      have k2 : w10.cell? ⟨w.heap.size, 2, none⟩ = some (.int .i64 0) := (hc10 2 (by simp)).1
      have k3 : w10.cell? ⟨w.heap.size, 3, none⟩ = some (.string ⟨#[]⟩) := (hc10 3 (by simp)).1
      exact bodyPost_ret (v := .tuple #[.agg #[.int .i64 0, .int .i64 0, .int .i64 0, .string ⟨#[]⟩], .bool false]) (by simp [results, Try.results12, go_sem, k0, k1, k2, k3]) rfl ⟨.inl ⟨rfl, HN.out⟩, hbe.grown hg10 (by omega) (fun q hq => by simp at hq; omega)⟩
end Go.Proofs.Ytoikcjeagigmfaa
