import Derived.Test.YthopfmhagddhgaaGreatQERd
import Derived.Deep.DeepCutAuto
import Derived.Deep.MidRow
import Derived.BigQuiet
import Derived.Deep.QuietTactic
namespace Go.Proofs.YthopfmhagddhgaaGreat
open Go.RowKit

theorem Tryz.sizeEnt : (Tryz.prog.info? 135).map (·.size) = some 4 := by kernel_rfl
def zE : List Value := [.int .i64 0, .int .i64 0, .int .i64 0, .string ⟨#[]⟩]
theorem one4 (k e d : Int) (x : ByteArray) : ∀ v ∈ [Value.int .i64 k, .int .i64 e, .int .i64 d, .string x], v.oneCell' = true := by
  intro v hv
  simp only [List.mem_cons, List.not_mem_nil, or_false] at hv
  rcases hv with rfl | rfl | rfl | rfl <;> rfl
/-- Amid ReadEntry: the entry so far in block P + 1 + 1, the answer's box in block P. -/
structure RE (w0 : World) (P : Nat) (vs : List Value) (w : World) : Prop where
  m : CF w (P + 1 + 1) vs
  bx : CF w P zE
  lo : P + 1 + 1 < w.heap.size
  be : Below P w0 w
theorem RE.call {w0 w w' : World} {P : Nat} {vs : List Value} (h : RE w0 P vs w) (hg : w.grownBy w' (some (P + 1))) : RE w0 P vs w' :=
  ⟨h.m.block (hg.block _ h.lo (by simp)), h.bx.block (hg.block _ (by have := h.lo; omega) (by simp)), Nat.lt_of_lt_of_le h.lo hg.size,
    h.be.grown hg (by have := h.lo; omega) (fun k hk => by simp at hk; omega)⟩
theorem RE.store {w0 w : World} {P : Nat} {vs : List Value} (h : RE w0 P vs w) {j : Nat} (hj : j < vs.length) (u : Value) : RE w0 P (vs.set j u) (w.setCell ⟨P + 1 + 1, j, none⟩ u) :=
  ⟨h.m.set hj u, h.bx.block (Below.heap_setCell _ _ _ _ (by dsimp only; omega)), by simpa [World.setCell] using h.lo, h.be.setCell (by dsimp only; omega) _⟩
theorem RE.below {w0 w w' : World} {P : Nat} {vs : List Value} (h : RE w0 P vs w) (hb : Below w.heap.size w w') : RE w0 P vs w' :=
  ⟨h.m.block (hb.block _ h.lo), h.bx.block (hb.block _ (by have := h.lo; omega)), Nat.lt_of_lt_of_le h.lo hb.size, h.be.trans (hb.mono (by have := h.lo; omega))⟩
theorem re_start (w : World) (s : ByteArray) (W : World) (hW : W = ((w.alloc (.cells zE.toArray 135)).alloc (.cells #[.string s, .nilIface] 205)).alloc (.cells zE.toArray 135)) :
    RE w w.heap.size zE W ∧ RdU W (w.heap.size + 1) (q0 s) := by
  have h1 : CF (w.alloc (.cells zE.toArray 135)) w.heap.size zE := CF.made w zE.toArray _
  have e1 : (w.alloc (.cells zE.toArray 135)).heap.size = w.heap.size + 1 := by simp
  have h2 := CF.made (w.alloc (.cells zE.toArray 135)) #[.string s, .nilIface] 205
  rw [e1] at h2
  have e2 : ((w.alloc (.cells zE.toArray 135)).alloc (.cells #[.string s, .nilIface] 205)).heap.size = w.heap.size + 1 + 1 := by simp
  have h3 := CF.made ((w.alloc (.cells zE.toArray 135)).alloc (.cells #[.string s, .nilIface] 205)) zE.toArray 135
  rw [e2] at h3
  subst hW
  have k1 := (h1.block (Below.heap_alloc _ (.cells #[.string s, .nilIface] 205) w.heap.size (by simp))).block (Below.heap_alloc _ (.cells zE.toArray 135) w.heap.size (by simp; omega))
  have k2 := h2.block (Below.heap_alloc _ (.cells zE.toArray 135) (w.heap.size + 1) (by simp))
  exact ⟨⟨h3, k1, by simp, (((Below.refl _ _).alloc (Nat.le_refl _) _).alloc (by simp) _).alloc (by simp; omega) _⟩, .inl ⟨rfl, s, rfl, (k2 0 (by simp)).1, (k2 1 (by simp)).1, (k2 0 (by simp)).2, (k2 1 (by simp)).2⟩⟩

set_option maxHeartbeats 2000000 in
set_option maxRecDepth 100000 in
theorem implReadE_any (s : ByteArray) (w : World) :
    Calls Tryz.prog 130 #[.string s] w fun e' w' => RetE e' s ∧ Below w.heap.size w w' := by
  obtain ⟨W, hW⟩ : ∃ W, W = ((w.alloc (.cells zE.toArray 135)).alloc (.cells #[.string s, .nilIface] 205)).alloc (.cells zE.toArray 135) := ⟨_, rfl⟩
  obtain ⟨hs0, hr0⟩ := re_start w s W hW
  simp only [zE] at hW
  go_enter Tryz.func130, Tryz.ntmps130
  go_wp2_with fail
  rw [← hW]
  clear hW
  refine (number_U (w.heap.size + 1) 1 (q0 s) _ hr0 (by omega) (by omega)).mono ?_
  rintro e0 w1 ⟨rfl, hr0', hg0⟩
  rw [show rdN 1 (q0 s) = n0 s from rfl]
  rw [show rdA 1 (q0 s) = q1 s from rfl] at hr0'
  have hs0' := hs0.call hg0
  have c0 : w1.cell? ⟨w.heap.size + 1 + 1, 0, none⟩ = some (.int .i64 0) := (hs0'.m 0 (by simp [zE])).1
  have f0 := (hs0'.m 0 (by simp [zE])).2
  have hs1 := hs0'.store (j := 0) (by simp [zE]) (.int .i64 (n0 s))
  have hr1 := hr0'.store (j := 0) (u := .int .i64 (n0 s))
  simp only [zE, List.set_cons_zero] at hs1

  clear hs0' hr0' hg0 hs0 hr0
  go_wp2_with fail
  refine (number_U (w.heap.size + 1) 2 (q1 s) _ hr1 (by omega) (by omega)).mono ?_
  rintro e0 w2 ⟨rfl, hr1', hg1⟩
  rw [show rdN 2 (q1 s) = n1 s from rfl]
  rw [show rdA 2 (q1 s) = q2 s from rfl] at hr1'
  have hs1' := hs1.call hg1
  have c1 : w2.cell? ⟨w.heap.size + 1 + 1, 1, none⟩ = some (.int .i64 0) := (hs1'.m 1 (by simp)).1
  have f1 := (hs1'.m 1 (by simp)).2
  have hs2 := hs1'.store (j := 1) (by simp) (.int .i64 (n1 s))
  have hr2 := hr1'.store (j := 1) (u := .int .i64 (n1 s))
  simp only [List.set_cons_zero, List.set_cons_succ] at hs2

  clear hs1' hr1' hg1 hs1 hr1
  clear c0 f0
  go_wp2_with fail
  refine (number_U (w.heap.size + 1) 1 (q2 s) _ hr2 (by omega) (by omega)).mono ?_
  rintro e0 w3 ⟨rfl, hr2', hg2⟩
  rw [show rdN 1 (q2 s) = n2 s from rfl]
  rw [show rdA 1 (q2 s) = q3 s from rfl] at hr2'
  have hs2' := hs2.call hg2
  have c2 : w3.cell? ⟨w.heap.size + 1 + 1, 2, none⟩ = some (.int .i64 0) := (hs2'.m 2 (by simp)).1
  have f2 := (hs2'.m 2 (by simp)).2
  have hs3 := hs2'.store (j := 2) (by simp) (.int .i64 (n2 s))
  have hr3 := hr2'.store (j := 2) (u := .int .i64 (n2 s))
  simp only [List.set_cons_zero, List.set_cons_succ] at hs3
  have d0 : w3.cell? ⟨w.heap.size + 1 + 1, 0, none⟩ = some (.int .i64 (n0 s)) := (hs2'.m 0 (by simp)).1
  clear hs2' hr2' hg2 hs2 hr2
  clear c1 f1
  cases hK : (n0 s == 2) with
  | false =>
    have GK := hid (show ¬ n0 s = 2 by simpa using hK)
    go_wp2_with fail
    refine (end_U (w.heap.size + 1) _ _ hr3).mono ?_
    rintro e0 w7 ⟨hend, hg7⟩
    clear c2 f2 d0
    have hs7 := hs3.call hg7
    rcases hend with ⟨hq, rfl⟩ | ⟨hq, a, rfl⟩
    · have HQ := hid hq
      clear hq
      have c0 : w7.cell? ⟨w.heap.size + 1 + 1, 0, none⟩ = some (.int .i64 (n0 s)) := (hs7.m 0 (by simp)).1
      have c1 : w7.cell? ⟨w.heap.size + 1 + 1, 1, none⟩ = some (.int .i64 (n1 s)) := (hs7.m 1 (by simp)).1
      have c2 : w7.cell? ⟨w.heap.size + 1 + 1, 2, none⟩ = some (.int .i64 (n2 s)) := (hs7.m 2 (by simp)).1
      have c3 : w7.cell? ⟨w.heap.size + 1 + 1, 3, none⟩ = some (.string ⟨#[]⟩) := (hs7.m 3 (by simp)).1
      go_wp2_with fail
      refine (validEntry_any _ _ _ _ _).mono ?_
      rintro e' w8 ⟨⟨r, rfl, hr⟩, hb8⟩
      have hs8 := hs7.below hb8
      have hbx := hs8.bx
      have hbe := hs8.be
      have hlo := hs8.lo
      clear c0 c1 c2 c3
      cases r with
      | true =>
        have HG := hid (one_good HQ.out (hr.1 rfl))
        clear hr
        have c0 : w8.cell? ⟨w.heap.size + 1 + 1, 0, none⟩ = some (.int .i64 (n0 s)) := (hs8.m 0 (by simp)).1
        have c1 : w8.cell? ⟨w.heap.size + 1 + 1, 1, none⟩ = some (.int .i64 (n1 s)) := (hs8.m 1 (by simp)).1
        have c2 : w8.cell? ⟨w.heap.size + 1 + 1, 2, none⟩ = some (.int .i64 (n2 s)) := (hs8.m 2 (by simp)).1
        have c3 : w8.cell? ⟨w.heap.size + 1 + 1, 3, none⟩ = some (.string ⟨#[]⟩) := (hs8.m 3 (by simp)).1
        go_wp2_with (refine wpList_store_cf rfl 135 (.tmp 2) (.tmp 27) rfl w.heap.size zE [.int .i64 (n0 s), .int .i64 (n1 s), .int .i64 (n2 s), .string ⟨#[]⟩] rfl rfl hbx rfl Tryz.sizeEnt (one4 _ _ _ _) ?_; intro w10 hc10 hg10)
        have k0 : w10.cell? ⟨w.heap.size, 0, none⟩ = some (.int .i64 (n0 s)) := (hc10 0 (by simp)).1
        have k1 : w10.cell? ⟨w.heap.size, 1, none⟩ = some (.int .i64 (n1 s)) := (hc10 1 (by simp)).1
        have k2 : w10.cell? ⟨w.heap.size, 2, none⟩ = some (.int .i64 (n2 s)) := (hc10 2 (by simp)).1
        have k3 : w10.cell? ⟨w.heap.size, 3, none⟩ = some (.string ⟨#[]⟩) := (hc10 3 (by simp)).1
        exact bodyPost_ret (v := .tuple #[.agg #[.int .i64 (n0 s), .int .i64 (n1 s), .int .i64 (n2 s), .string ⟨#[]⟩], .bool true]) (by simp [results, Tryz.results130, go_sem, k0, k1, k2, k3]) rfl ⟨.inr ⟨_, _, _, _, rfl, HG.out⟩, hbe.grown hg10 (by omega) (fun q hq => by simp at hq; omega)⟩
      | false =>
        have HN := hid (one_no GK.out (fun hh => by have := hr.2 hh.2; cases this))
        clear hr
        go_wp2_with (refine wpList_store_cf rfl 135 (.tmp 2) (.tmp 26) rfl w.heap.size zE [.int .i64 0, .int .i64 0, .int .i64 0, .string ⟨#[]⟩] rfl rfl hbx rfl Tryz.sizeEnt (one4 _ _ _ _) ?_; intro w10 hc10 hg10)
        have k0 : w10.cell? ⟨w.heap.size, 0, none⟩ = some (.int .i64 0) := (hc10 0 (by simp)).1
        have k1 : w10.cell? ⟨w.heap.size, 1, none⟩ = some (.int .i64 0) := (hc10 1 (by simp)).1
        have k2 : w10.cell? ⟨w.heap.size, 2, none⟩ = some (.int .i64 0) := (hc10 2 (by simp)).1
        have k3 : w10.cell? ⟨w.heap.size, 3, none⟩ = some (.string ⟨#[]⟩) := (hc10 3 (by simp)).1
        exact bodyPost_ret (v := .tuple #[.agg #[.int .i64 0, .int .i64 0, .int .i64 0, .string ⟨#[]⟩], .bool false]) (by simp [results, Tryz.results130, go_sem, k0, k1, k2, k3]) rfl ⟨.inl ⟨rfl, HN.out⟩, hbe.grown hg10 (by omega) (fun q hq => by simp at hq; omega)⟩
    · have HN := hid (one_no GK.out (fun hh => hq hh.1))
      clear hq
      have hbx := hs7.bx
      have hbe := hs7.be
      have hlo := hs7.lo
      go_wp2_with (refine wpList_store_cf rfl 135 (.tmp 2) (.tmp 26) rfl w.heap.size zE [.int .i64 0, .int .i64 0, .int .i64 0, .string ⟨#[]⟩] rfl rfl hbx rfl Tryz.sizeEnt (one4 _ _ _ _) ?_; intro w10 hc10 hg10)
      have k0 : w10.cell? ⟨w.heap.size, 0, none⟩ = some (.int .i64 0) := (hc10 0 (by simp)).1
      have k1 : w10.cell? ⟨w.heap.size, 1, none⟩ = some (.int .i64 0) := (hc10 1 (by simp)).1
      have k2 : w10.cell? ⟨w.heap.size, 2, none⟩ = some (.int .i64 0) := (hc10 2 (by simp)).1
      have k3 : w10.cell? ⟨w.heap.size, 3, none⟩ = some (.string ⟨#[]⟩) := (hc10 3 (by simp)).1
      exact bodyPost_ret (v := .tuple #[.agg #[.int .i64 0, .int .i64 0, .int .i64 0, .string ⟨#[]⟩], .bool false]) (by simp [results, Tryz.results130, go_sem, k0, k1, k2, k3]) rfl ⟨.inl ⟨rfl, HN.out⟩, hbe.grown hg10 (by omega) (fun q hq => by simp at hq; omega)⟩
  | true =>
    have GK := hid (show n0 s = 2 by simpa using hK)
    go_wp2_with fail
    refine (text_U (w.heap.size + 1) 8 (q3 s) _ hr3 (by omega) (by omega)).mono ?_
    rintro e0 w4 ⟨rfl, hr3', hg3⟩
    have hs3' := hs3.call hg3
    have c3 : w4.cell? ⟨w.heap.size + 1 + 1, 3, none⟩ = some (.string ⟨#[]⟩) := (hs3'.m 3 (by simp)).1
    have f3 := (hs3'.m 3 (by simp)).2
    obtain ⟨x, hx⟩ : ∃ x, x = rdT 8 (q3 s) := ⟨_, rfl⟩
    rw [← hx]
    have HX := hid hx
    have hs4 := hs3'.store (j := 3) (by simp) (.string x)
    have hr4 := hr3'.store (j := 3) (u := .string x)
    simp only [List.set_cons_zero, List.set_cons_succ] at hs4
    clear hs3' hr3' hg3 hs3 hr3 hx c2 f2 d0
    go_wp2_with fail
    refine (end_U (w.heap.size + 1) _ _ hr4).mono ?_
    rintro e0 w7 ⟨hend, hg7⟩
    clear c3 f3
    have hs7 := hs4.call hg7
    rcases hend with ⟨hq, rfl⟩ | ⟨hq, a, rfl⟩
    · have HQ := hid hq
      clear hq
      have c0 : w7.cell? ⟨w.heap.size + 1 + 1, 0, none⟩ = some (.int .i64 (n0 s)) := (hs7.m 0 (by simp)).1
      have c1 : w7.cell? ⟨w.heap.size + 1 + 1, 1, none⟩ = some (.int .i64 (n1 s)) := (hs7.m 1 (by simp)).1
      have c2 : w7.cell? ⟨w.heap.size + 1 + 1, 2, none⟩ = some (.int .i64 (n2 s)) := (hs7.m 2 (by simp)).1
      have c3 : w7.cell? ⟨w.heap.size + 1 + 1, 3, none⟩ = some (.string x) := (hs7.m 3 (by simp)).1
      go_wp2_with fail
      refine (validEntry_any _ _ _ _ _).mono ?_
      rintro e' w8 ⟨⟨r, rfl, hr⟩, hb8⟩
      have hs8 := hs7.below hb8
      have hbx := hs8.bx
      have hbe := hs8.be
      have hlo := hs8.lo
      clear c0 c1 c2 c3
      cases r with
      | true =>
        have HG := hid (show GoodE s (n0 s) (n1 s) (n2 s) x by rw [HX.out]; exact two_good HQ.out (by rw [← HX.out]; exact hr.1 rfl))
        clear hr
        have c0 : w8.cell? ⟨w.heap.size + 1 + 1, 0, none⟩ = some (.int .i64 (n0 s)) := (hs8.m 0 (by simp)).1
        have c1 : w8.cell? ⟨w.heap.size + 1 + 1, 1, none⟩ = some (.int .i64 (n1 s)) := (hs8.m 1 (by simp)).1
        have c2 : w8.cell? ⟨w.heap.size + 1 + 1, 2, none⟩ = some (.int .i64 (n2 s)) := (hs8.m 2 (by simp)).1
        have c3 : w8.cell? ⟨w.heap.size + 1 + 1, 3, none⟩ = some (.string x) := (hs8.m 3 (by simp)).1
        go_wp2_with (refine wpList_store_cf rfl 135 (.tmp 2) (.tmp 27) rfl w.heap.size zE [.int .i64 (n0 s), .int .i64 (n1 s), .int .i64 (n2 s), .string x] rfl rfl hbx rfl Tryz.sizeEnt (one4 _ _ _ _) ?_; intro w10 hc10 hg10)
        have k0 : w10.cell? ⟨w.heap.size, 0, none⟩ = some (.int .i64 (n0 s)) := (hc10 0 (by simp)).1
        have k1 : w10.cell? ⟨w.heap.size, 1, none⟩ = some (.int .i64 (n1 s)) := (hc10 1 (by simp)).1
        have k2 : w10.cell? ⟨w.heap.size, 2, none⟩ = some (.int .i64 (n2 s)) := (hc10 2 (by simp)).1
        have k3 : w10.cell? ⟨w.heap.size, 3, none⟩ = some (.string x) := (hc10 3 (by simp)).1
        exact bodyPost_ret (v := .tuple #[.agg #[.int .i64 (n0 s), .int .i64 (n1 s), .int .i64 (n2 s), .string x], .bool true]) (by simp [results, Tryz.results130, go_sem, k0, k1, k2, k3]) rfl ⟨.inr ⟨_, _, _, _, rfl, HG.out⟩, hbe.grown hg10 (by omega) (fun q hq => by simp at hq; omega)⟩
      | false =>
        have HN := hid (two_no GK.out (fun hh => by have := hr.2 (by rw [HX.out]; exact hh.2); cases this))
        clear hr
        go_wp2_with (refine wpList_store_cf rfl 135 (.tmp 2) (.tmp 26) rfl w.heap.size zE [.int .i64 0, .int .i64 0, .int .i64 0, .string ⟨#[]⟩] rfl rfl hbx rfl Tryz.sizeEnt (one4 _ _ _ _) ?_; intro w10 hc10 hg10)
        have k0 : w10.cell? ⟨w.heap.size, 0, none⟩ = some (.int .i64 0) := (hc10 0 (by simp)).1
        have k1 : w10.cell? ⟨w.heap.size, 1, none⟩ = some (.int .i64 0) := (hc10 1 (by simp)).1
        have k2 : w10.cell? ⟨w.heap.size, 2, none⟩ = some (.int .i64 0) := (hc10 2 (by simp)).1
        have k3 : w10.cell? ⟨w.heap.size, 3, none⟩ = some (.string ⟨#[]⟩) := (hc10 3 (by simp)).1
        exact bodyPost_ret (v := .tuple #[.agg #[.int .i64 0, .int .i64 0, .int .i64 0, .string ⟨#[]⟩], .bool false]) (by simp [results, Tryz.results130, go_sem, k0, k1, k2, k3]) rfl ⟨.inl ⟨rfl, HN.out⟩, hbe.grown hg10 (by omega) (fun q hq => by simp at hq; omega)⟩
    · have HN := hid (two_no GK.out (fun hh => hq hh.1))
      clear hq
      have hbx := hs7.bx
      have hbe := hs7.be
      have hlo := hs7.lo
      go_wp2_with (refine wpList_store_cf rfl 135 (.tmp 2) (.tmp 26) rfl w.heap.size zE [.int .i64 0, .int .i64 0, .int .i64 0, .string ⟨#[]⟩] rfl rfl hbx rfl Tryz.sizeEnt (one4 _ _ _ _) ?_; intro w10 hc10 hg10)
      have k0 : w10.cell? ⟨w.heap.size, 0, none⟩ = some (.int .i64 0) := (hc10 0 (by simp)).1
      have k1 : w10.cell? ⟨w.heap.size, 1, none⟩ = some (.int .i64 0) := (hc10 1 (by simp)).1
      have k2 : w10.cell? ⟨w.heap.size, 2, none⟩ = some (.int .i64 0) := (hc10 2 (by simp)).1
      have k3 : w10.cell? ⟨w.heap.size, 3, none⟩ = some (.string ⟨#[]⟩) := (hc10 3 (by simp)).1
      exact bodyPost_ret (v := .tuple #[.agg #[.int .i64 0, .int .i64 0, .int .i64 0, .string ⟨#[]⟩], .bool false]) (by simp [results, Tryz.results130, go_sem, k0, k1, k2, k3]) rfl ⟨.inl ⟨rfl, HN.out⟩, hbe.grown hg10 (by omega) (fun q hq => by simp at hq; omega)⟩
end Go.Proofs.YthopfmhagddhgaaGreat

namespace Go.Proofs.YthopfmhagddhgaaGreat
open Go.RowKit

theorem at_listE {b : ByteArray} {L : List UInt8} {c : UInt8} {i : Nat} (h : b.data.toList = L) (hi : i < b.size) (hc : L[i]? = some c) : b[i] = c := by
  subst h
  have h1 : b.data[i]? = some c := by rw [← Array.getElem?_toList]; exact hc
  rw [Array.getElem?_eq_getElem hi] at h1
  exact Option.some.inj h1
theorem str_ne {r s : ByteArray} (h : ¬ r = s) : (r.toList == s.toList) = false := by
  rw [ByteArray.toList_eq, ByteArray.toList_eq, beq_eq_false_iff_ne]
  exact fun hh => h (ba_ext hh)
theorem wrap64_small (x : Int) (h0 : 0 ≤ x) (h1 : x < 4294967296) : wrap64 x = x := by unfold wrap64; omega
set_option maxHeartbeats 2000000 in
set_option maxRecDepth 100000 in
theorem specReadE_1 (s : ByteArray) (w : World) (b0 b1 b2 b3 : UInt8) (R : List UInt8) (hL : s.data.toList = b0 :: b1 :: b2 :: b3 :: R) (hm : s.size ≤ maxLen) :
    Calls Tryz.prog 96 #[.string s] w fun e' w' => RetE e' s ∧ Below w.heap.size w w' := by
  unfold maxLen at hm
  have hsz : s.size = 4 + R.length := by have := congrArg List.length hL; rw [Array.length_toList] at this; simp only [List.length_cons] at this; have h2 : s.data.size = s.size := rfl; omega
  have l0 : 0 < s.size := by omega
  have l1 : 1 < s.size := by omega
  have l2 : 2 < s.size := by omega
  have l3 : 3 < s.size := by omega
  have l4 : 4 ≤ s.size := by omega
  have l5 : ¬ s.size < 4 := by omega
  have e0 : s[0] = b0 := at_listE hL l0 rfl
  have e1 : s[1] = b1 := at_listE hL l1 rfl
  have e2 : s[2] = b2 := at_listE hL l2 rfl
  have e3 : s[3] = b3 := at_listE hL l3 rfl
  have HZ := hid hsz
  clear hsz
  go_enter Tryz.func96, Tryz.ntmps96
  go_upto_region 3 with fail
  go_region
  have t0 : b0.toNat < 256 := b0.toNat_lt
  have t1 : b1.toNat < 256 := b1.toNat_lt
  have t2 : b2.toNat < 256 := b2.toNat_lt
  have t3 : b3.toNat < 256 := b3.toNat_lt
  have v0 := wrap64_small (b0.toNat : Int) (by omega) (by omega)
  have v3 := wrap64_small (b3.toNat : Int) (by omega) (by omega)
  have v1 : wrap64 (wrap64 (wrap64 (b1.toNat : Int) * 256) + wrap64 (b2.toNat : Int)) = nX b1 b2 := by
    rw [wrap64_small (b1.toNat : Int) (by omega) (by omega), wrap64_small (b2.toNat : Int) (by omega) (by omega), wrap64_small ((b1.toNat : Int) * 256) (by omega) (by omega), wrap64_small _ (by omega) (by omega)]
    rfl
  have hx : (s.extract 4 s.size).data.toList = R := by
    rw [ext_list, List.take_of_length_le (by rw [Array.length_toList]; exact Nat.le_refl _), hL]; rfl
  obtain ⟨x, hx0⟩ : ∃ x, x = s.extract 4 s.size := ⟨_, rfl⟩
  rw [← hx0] at hx ⊢
  clear hx0
  rw [v0, v1, v3]
  obtain ⟨k, hk⟩ : ∃ k : Int, k = b0.toNat := ⟨_, rfl⟩
  obtain ⟨e, he⟩ : ∃ e : Int, e = nX b1 b2 := ⟨_, rfl⟩
  obtain ⟨d, hd⟩ : ∃ d : Int, d = b3.toNat := ⟨_, rfl⟩
  have HK : Hid (k = b0.toNat ∧ e = nX b1 b2 ∧ d = b3.toNat ∧ x.data.toList = R) := ⟨hk, he, hd, hx⟩
  have HE : Hid (entL k e d x = s.data.toList) := by rw [hL, hk, he, hd]; exact ent_mk b0 b1 b2 b3 R x hx
  rw [← hk, ← he, ← hd]
  obtain ⟨W, hW⟩ : ∃ W, W = ((w.alloc (.cells #[.int .i64 0, .int .i64 0, .int .i64 0, .string ⟨#[]⟩] 135)).alloc (.cells #[.int .i64 k, .int .i64 e, .int .i64 d, .string x] 135)).drew := ⟨_, rfl⟩
  rw [← hW]
  have hbx : CF W w.heap.size zE := by
    rw [hW]
    exact ((CF.made w zE.toArray 135).block (Below.heap_alloc _ _ w.heap.size (by simp))).block rfl
  have hbe : Below w.heap.size w W := by rw [hW]; exact (((Below.refl _ _).alloc (Nat.le_refl _) _).alloc (by simp) _).drew
  have hsW : W.heap.size = w.heap.size + 2 := by rw [hW]; show (World.alloc _ _).heap.size = _; simp
  have hmc : MC W (w.heap.size + 1) [.int .i64 k, .int .i64 e, .int .i64 d, .string x] := by
    rw [hW]
    have := MC.made (w.alloc (.cells #[.int .i64 0, .int .i64 0, .int .i64 0, .string ⟨#[]⟩] 135)) #[.int .i64 k, .int .i64 e, .int .i64 d, .string x] 135
    rw [World.size_alloc] at this
    exact this.block rfl
  have HMC := hid hmc
  have c0 : W.cell? ⟨w.heap.size + 1, 0, none⟩ = some (.int .i64 k) := hmc 0 (by simp)
  have c1 : W.cell? ⟨w.heap.size + 1, 1, none⟩ = some (.int .i64 e) := hmc 1 (by simp)
  have c2 : W.cell? ⟨w.heap.size + 1, 2, none⟩ = some (.int .i64 d) := hmc 2 (by simp)
  have c3 : W.cell? ⟨w.heap.size + 1, 3, none⟩ = some (.string x) := hmc 3 (by simp)
  have HL := hid hL
  clear hW hmc v0 v1 v3 t0 t1 t2 t3 hk he hd hL e0 e1 e2 e3 l0 l1 l2 l3 l4 l5 hx
  go_wp2_with fail
  refine (specEnt_any k e d x _).mono ?_
  rintro e' w1 ⟨⟨r, rfl, hr⟩, hb1⟩
  have hbe1 := hbe.trans (hb1.mono hbe.size)
  have hbx1 : CF w1 w.heap.size zE := hbx.block (hb1.block _ (by omega))
  have hmc1 := MC.below HMC.out hb1 (by omega)
  have hl1 : w.heap.size + 1 < w1.heap.size := by have := hb1.size; omega
  clear c0 c1 c2 c3 hbx hbe
  rcases hr with ⟨hv, hr⟩ | ⟨hv, hr⟩
  · have hrs : r = s := by rw [hr]; exact (GoodE.mk' hv HE.out).2.symm
    have HG := hid (GoodE.mk' hv HE.out)
    subst hrs
    clear hr hv
    have c0 : w1.cell? ⟨w.heap.size + 1, 0, none⟩ = some (.int .i64 k) := hmc1 0 (by simp)
    have c1 : w1.cell? ⟨w.heap.size + 1, 1, none⟩ = some (.int .i64 e) := hmc1 1 (by simp)
    have c2 : w1.cell? ⟨w.heap.size + 1, 2, none⟩ = some (.int .i64 d) := hmc1 2 (by simp)
    have c3 : w1.cell? ⟨w.heap.size + 1, 3, none⟩ = some (.string x) := hmc1 3 (by simp)
    clear hmc1
    go_wp2_with (refine wpList_store_cf rfl 135 (.tmp 2) (.tmp 31) rfl w.heap.size zE [.int .i64 k, .int .i64 e, .int .i64 d, .string x] rfl rfl hbx1 rfl Tryz.sizeEnt (one4 _ _ _ _) ?_; intro w10 hc10 hg10)
    have k0 : w10.cell? ⟨w.heap.size, 0, none⟩ = some (.int .i64 k) := (hc10 0 (by simp)).1
    have k1 : w10.cell? ⟨w.heap.size, 1, none⟩ = some (.int .i64 e) := (hc10 1 (by simp)).1
    have k2 : w10.cell? ⟨w.heap.size, 2, none⟩ = some (.int .i64 d) := (hc10 2 (by simp)).1
    have k3 : w10.cell? ⟨w.heap.size, 3, none⟩ = some (.string x) := (hc10 3 (by simp)).1
    exact bodyPost_ret (v := .tuple #[.agg #[.int .i64 k, .int .i64 e, .int .i64 d, .string x], .bool true]) (by simp [results, Tryz.results96, go_sem, k0, k1, k2, k3]) rfl ⟨.inr ⟨_, _, _, _, rfl, HG.out⟩, hbe1.grown hg10 (by omega) (fun q hq => by simp at hq; omega)⟩
  · have hrs : ¬ r = s := by
      intro hh
      have := HZ.out
      rw [← hh, hr] at this
      have h0 : (⟨#[]⟩ : ByteArray).size = 0 := rfl
      omega
    have HN : Hid (NoE s) := by
      rintro ⟨k', e', d', x', hg⟩
      obtain ⟨h1, h2, h3, h4⟩ := ent_says hg.1 (hg.list.trans HL.out)
      obtain ⟨i1, i2, i3, i4⟩ := HK.out
      refine hv ?_
      rw [i1, i2, i3, ← h1, ← h2, ← h3, show x = x' from ba_ext (i4.trans h4.symm)]
      exact hg.1
    have hrs' : (r.toList == s.toList) = false := str_ne hrs
    clear hr hv hmc1 hrs
    go_wp2_with (refine wpList_store_cf rfl 135 (.tmp 2) (.tmp 30) rfl w.heap.size zE [.int .i64 0, .int .i64 0, .int .i64 0, .string ⟨#[]⟩] rfl rfl hbx1 rfl Tryz.sizeEnt (one4 _ _ _ _) ?_; intro w10 hc10 hg10)
    have k0 : w10.cell? ⟨w.heap.size, 0, none⟩ = some (.int .i64 0) := (hc10 0 (by simp)).1
    have k1 : w10.cell? ⟨w.heap.size, 1, none⟩ = some (.int .i64 0) := (hc10 1 (by simp)).1
    have k2 : w10.cell? ⟨w.heap.size, 2, none⟩ = some (.int .i64 0) := (hc10 2 (by simp)).1
    have k3 : w10.cell? ⟨w.heap.size, 3, none⟩ = some (.string ⟨#[]⟩) := (hc10 3 (by simp)).1
    exact bodyPost_ret (v := .tuple #[.agg #[.int .i64 0, .int .i64 0, .int .i64 0, .string ⟨#[]⟩], .bool false]) (by simp [results, Tryz.results96, go_sem, k0, k1, k2, k3]) rfl ⟨.inl ⟨rfl, HN.out⟩, hbe1.grown hg10 (by omega) (fun q hq => by simp at hq; omega)⟩

set_option maxHeartbeats 400000 in
theorem specReadE_0 (s : ByteArray) (w : World) (h4 : s.size < 4) :
    Calls Tryz.prog 96 #[.string s] w fun e' w' => RetE e' s ∧ Below w.heap.size w w' := by
  have HN : Hid (NoE s) := by
    rintro ⟨k', e', d', x', hg⟩
    have h1 := congrArg List.length hg.list
    rw [entL_length, Array.length_toList] at h1
    have h2 : s.data.size = s.size := rfl
    omega
  go_enter Tryz.func96, Tryz.ntmps96
  go_wp2
  exact bodyPost_ret (v := .tuple #[.agg #[.int .i64 0, .int .i64 0, .int .i64 0, .string ⟨#[]⟩], .bool false]) (by simp [results, Tryz.results96, go_sem]) rfl ⟨.inl ⟨rfl, HN.out⟩, by repeat (first | exact Below.refl _ _ | refine Below.setCell ?_ (by first | exact Nat.le_refl _ | (dsimp only; omega)) _ | refine Below.alloc ?_ (by first | exact Nat.le_refl _ | (simp; done)) _)⟩

theorem specReadE_any (s : ByteArray) (w : World) (hm : s.size ≤ maxLen) :
    Calls Tryz.prog 96 #[.string s] w fun e' w' => RetE e' s ∧ Below w.heap.size w w' := by
  by_cases h4 : s.size < 4
  · exact specReadE_0 s w h4
  · obtain ⟨b0, b1, b2, b3, R, hL⟩ := split4 s.data.toList (by rw [Array.length_toList]; show 4 ≤ s.size; omega)
    exact specReadE_1 s w b0 b1 b2 b3 R hL hm
end Go.Proofs.YthopfmhagddhgaaGreat
