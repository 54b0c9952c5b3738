
/-
  impl.Double, impl.Lose, impl.Bend.
-/
import Derived.Test.YtfocmmiajcamiaaNdl
namespace Go.Proofs.Ytfocmmiajcamiaa
open Go.RowKit

def dblP (P : List Pc) (k : Int) : List Pc := if thereB P.length k = true then (if P.length < 2000 then P ++ [pc P k.toNat] else P) else P
/-- What 'show' to 'put' leaves. -/
def Shw (B : Nat) (w w' : World) (p f : Nat) (v : Value) (P : List Pc) (k : Int) : Prop :=
  (∃ v', LsAt B w' p f v' (dblP P k) ∧ (v'.ownBlock = v.ownBlock ∨ ∀ q, v'.ownBlock = some q → w.heap.size ≤ q)) ∧ Only w w' p f v.ownBlock

set_option maxHeartbeats 1000000 in
set_option maxRecDepth 100000 in
theorem showPut_any (B : Nat) (p f : Nat) (a : Option Addr) (n c : Nat) (P : List Pc) (k : Int) (w : World) (h : LsAt B w p f (.slice a n c) P) (hn : n = P.length) (hm : n ≤ 1048577) (hk : PcOk P) (hB : B ≤ w.heap.size) :
    Calls Try.prog 22 #[.pointer (some ⟨p, f, none⟩), .int .i64 k, .func (.func 23) #[.pointer (some ⟨p, f, none⟩)] #[]] w fun e w' => e = .returned (.tuple #[]) ∧ Shw B w w' p f (.slice a n c) P k := by
  have hc := h.c
  cases hE : thereB n k with
  | true =>
    obtain ⟨h1, h2, h3⟩ := thereB_t hE
    obtain ⟨j, rfl⟩ : ∃ j : Nat, k = j := ⟨k.toNat, by omega⟩
    have hown := h.own
    rw [← hn] at hown
    obtain ⟨b, o, hat, _⟩ := hown.pcAt hk
    have hj : j < n := by omega
    obtain rfl := hat.ad (by omega)
    have hc0 := hat.c0 j hj
    have hc1 := hat.c1 j hj
    have hc2 := hat.c2 j hj
    obtain ⟨⟨x0, x1, x2⟩, hx⟩ : ∃ x, x = pc P j := ⟨_, rfl⟩
    rw [← hx] at hc0 hc1 hc2
    dsimp only at hc0 hc1 hc2
    have HQ : ∀ w', Put1 B w w' p f (.slice (some ⟨b, o, none⟩) n c) P (x0, x1, x2) → Shw B w w' p f (.slice (some ⟨b, o, none⟩) n c) P j := fun w' hh => by
      unfold Shw dblP
      rw [← hn, hE, if_pos rfl, Int.toNat_natCast, ← hx, hn]
      rw [hn] at hh
      exact hh
    have HQ' := hid HQ
    have HP := hid (put_any B p f (some ⟨b, o, none⟩) n c P x0 x1 x2 w h hn hB)
    have hlt' : (j : Int) < (n : Int) := by omega
    have HE := hid hE
    have HH := hid (has_any p f (some ⟨b, o, none⟩) n c j w hc hm)
    clear hx hn HQ h hown hat hE h1 hk hB hm
    go_enter Try.func22, Try.ntmps22
    go_wp2_with fail
    refine HH.out.mono ?_
    rintro e w1 ⟨rfl, hw1⟩
    rw [hw1, HE.out]
    go_wp2_with fail
    refine HP.out.mono ?_
    rintro e w2 ⟨rfl, hP⟩
    go_wp2
    go_end0
    exact ⟨rfl, HQ'.out _ hP⟩
  | false =>
    have HQ : Shw B w w p f (.slice a n c) P k := by
      unfold Shw dblP
      rw [← hn, hE, if_neg (by simp)]
      exact ⟨⟨_, h, .inl rfl⟩, Only.refl _ _ _ _⟩
    have HE := hid hE
    have HH := hid (has_any p f a n c k w hc hm)
    clear h hn hE hk hB hm
    go_enter Try.func22, Try.ntmps22
    go_wp2_with fail
    refine HH.out.mono ?_
    rintro e w1 ⟨rfl, hw1⟩
    rw [hw1, HE.out]
    go_wp2
    go_end0
    exact ⟨rfl, HQ⟩

/-- An answer: a list of parcels of its own. -/
def RetP (e : Ending) (B : Nat) (w' : World) (P : List Pc) : Prop := ∃ v, e = .returned v ∧ Own B w' 3 v P.length (pcs P)

set_option maxHeartbeats 1000000 in
set_option maxRecDepth 100000 in
theorem implDouble_any (a : Option Addr) (b o n c : Nat) (P : List Pc) (k : Int) (w : World) (h : PcAt w a b o n P) (hn : n ≤ 1048576) :
    Calls Try.prog 9 #[.slice a n c, .int .i64 k] w fun e w' => RetP e w.heap.size w' (dblP P k) ∧ Below w.heap.size w w' := by
  have hl := h.len
  have hk := h.ok
  have hmf : ∀ (fn : Fn) (first cap : Array Value) (w : World), (Instr.makeFunc fn first cap).run Try.prog w = .ok (.func fn first cap) w := fun _ _ _ _ => rfl
  go_enter Try.func9, Try.ntmps9
  go_wp2_with fail
  refine (listOf_any a b o n c P w h hn).mono ?_
  rintro e w1 ⟨⟨v, rfl, hown, hne⟩, hb1⟩
  obtain ⟨a1, c1, rfl⟩ := hown.slc
  obtain ⟨w2, hw2⟩ : ∃ w2, w2 = w1.alloc (.cells #[.slice a1 n c1] 39) := ⟨_, rfl⟩
  have hls : LsAt w.heap.size w2 w1.heap.size 0 (.slice a1 n c1) P := by
    have hcf : CF w2 w1.heap.size [.slice a1 n c1] := by rw [hw2]; exact CF.made w1 _ _
    exact ⟨(hcf 0 (by simp)).1, (hcf 0 (by simp)).2, by rw [hw2, hl]; exact hown.alloc _, hb1.size, by rw [hw2]; simp, hne⟩
  have hb2 : Below w.heap.size w w2 := by rw [hw2]; exact hb1.alloc hb1.size _
  have hB := hb2.size
  have hrow := hown.row_lo
  have hq := hb1.size
  go_upto_region 2 with fail
  rw [← hw2]
  clear hw2 hown hne hb1
  have HP := hid (showPut_any w.heap.size w1.heap.size 0 a1 n c1 P k w2 hls hl.symm (by omega) hk hB)
  obtain ⟨q, hq'⟩ : ∃ q, q = w1.heap.size := ⟨_, rfl⟩
  rw [← hq'] at HP hls hq ⊢
  clear hq'
  go_wp2_with fail
  refine HP.out.mono ?_
  rintro e w3 ⟨rfl, ⟨v', hls', _⟩, hon⟩
  have hc3 := hls'.c
  have hb3 := hb2.trans (hon.below hq hrow hB)
  have HR : RetP (.returned v') w.heap.size w3 (dblP P k) := ⟨_, rfl, hls'.own⟩
  obtain ⟨a3, c3, rfl⟩ := hls'.own.slc
  clear hls' hon hls hk hl HP h
  go_wp2
  go_ret
  exact ⟨HR, hb3⟩

/-! ### Lose -/
def losP (P : List Pc) (k : Int) : List Pc := if thereB P.length k = true then P.take k.toNat ++ P.drop (k.toNat + 1) else P
/-- What 'give' leaves. -/
def Giv (B : Nat) (w w' : World) (p f : Nat) (v : Value) (P : List Pc) (k : Int) : Prop :=
  (∃ v', LsAt B w' p f v' (losP P k) ∧ v'.ownBlock = v.ownBlock) ∧ Only w w' p f v.ownBlock

theorem Only.trans {w w1 w2 : World} {p f : Nat} {r : Option Nat} (h : Only w w1 p f r) (k : Only w1 w2 p f r) : Only w w2 p f r :=
  ⟨k.os.trans h.os, k.tape.trans h.tape, k.output.trans h.output, Nat.le_trans h.size k.size, fun i hi h1 h2 => (k.block i (Nat.lt_of_lt_of_le hi h.size) h1 h2).trans (h.block i hi h1 h2), fun j hj => (k.cell j hj).trans (h.cell j hj), fun j => (k.frz j).trans (h.frz j)⟩
theorem Only.alloc {w w' : World} {p f : Nat} {r : Option Nat} (h : Only w w' p f r) (hp : p < w.heap.size) (ob : Obj) : Only w (w'.alloc ob) p f r :=
  ⟨h.os, h.tape, h.output, by have := h.size; simp; omega, fun k hk h1 h2 => (Below.heap_alloc w' ob k (Nat.lt_of_lt_of_le hk h.size)).trans (h.block k hk h1 h2), fun j hj => (World.cell?_of_block (w := w') (Below.heap_alloc w' ob p (Nat.lt_of_lt_of_le hp h.size))).trans (h.cell j hj), fun j => (World.frozen?_of_block (w := w') (Below.heap_alloc w' ob p (Nat.lt_of_lt_of_le hp h.size))).trans (h.frz j)⟩

set_option maxHeartbeats 1000000 in
set_option maxRecDepth 100000 in
theorem giveForget_any (B : Nat) (p f : Nat) (a : Option Addr) (n c : Nat) (P : List Pc) (k : Int) (w : World) (h : LsAt B w p f (.slice a n c) P) (hn : n = P.length) (hm : n ≤ 1048577) (hk : PcOk P) :
    Calls Try.prog 26 #[.pointer (some ⟨p, f, none⟩), .int .i64 k, .func (.func 27) #[] #[]] w fun e w' => e = .returned (.tuple #[]) ∧ Giv B w w' p f (.slice a n c) P k := by
  have hc := h.c
  cases hE : thereB n k with
  | true =>
    obtain ⟨h1, h2, h3⟩ := thereB_t hE
    obtain ⟨j, rfl⟩ : ∃ j : Nat, k = j := ⟨k.toNat, by omega⟩
    have hown := h.own
    rw [← hn] at hown
    have hj : j < n := by omega
    rcases hown with ⟨_, h0, _⟩ | ⟨g, o, cap, hv, hoc⟩
    · omega
    injection hv with hv1 _ hv3
    subst hv1; subst hv3
    have hat := PcAt.ofOwn hoc hk
    have hc0 := hat.c0 j hj
    have hc1 := hat.c1 j hj
    have hc2 := hat.c2 j hj
    obtain ⟨⟨x0, x1, x2⟩, hx⟩ : ∃ x, x = pc P j := ⟨_, rfl⟩
    rw [← hx] at hc0 hc1 hc2
    dsimp only at hc0 hc1 hc2
    obtain ⟨W, hW⟩ : ∃ W, W = w.alloc (.cells #[.int .i64 x0, .string x1, .string x2] 37) := ⟨_, rfl⟩
    have hsW : W.heap.size = w.heap.size + 1 := by rw [hW]; simp
    have hgW : w.grownBy W (some g) := by rw [hW]; exact World.grownBy_alloc w _ _
    have hoW : OwnC B W 3 g o c n (pcs P) := hoc.block (by rw [hW]; exact Below.heap_alloc _ _ _ hoc.hi)
    have hbx : CF W w.heap.size [.int .i64 x0, .string x1, .string x2] := by rw [hW]; exact CF.made w _ _
    have hne : p ≠ g := fun e => h.ne (by rw [e]; rfl)
    have hcW : W.cell? ⟨p, f, none⟩ = some (.slice (some ⟨g, o, none⟩) n c) := by rw [hW]; exact keepA h.hi h.c _
    have hfW : W.frozen? ⟨p, f, none⟩ = false := (World.frozen?_of_block (w := w) (by rw [hW]; exact Below.heap_alloc _ _ _ h.hi)).trans h.nf
    have hph := h.hi
    have hgh := hoc.hi
    have HQ : ∀ w2, OwnC B w2 3 g o c (n - 1) (pcs (P.take j ++ P.drop (j + 1))) → W.grownBy w2 (some g) → Giv B w ((w2.setCell ⟨p, f, none⟩ (.slice (some ⟨g, o, none⟩) (n - 1) c)).alloc (.cells #[.int .i64 x0, .string x1, .string x2] 37)) p f (.slice (some ⟨g, o, none⟩) n c) P j := fun w2 hh hg => by
      have hon : Only w (w2.setCell ⟨p, f, none⟩ (.slice (some ⟨g, o, none⟩) (n - 1) c)) p f (some g) := (Only.ofGrown (grownBy_trans hgW hg) hph (by simpa using fun e => hne e.symm)).setCell _
      have hpc : w2.cell? ⟨p, f, none⟩ = some (.slice (some ⟨g, o, none⟩) n c) := keepP hg hcW hne
      refine ⟨⟨.slice (some ⟨g, o, none⟩) (n - 1) c, ⟨keepA (by have := hon.size; show p < _; omega) (World.cell?_setCell_same _ _ _ hpc) _, ?_, ?_, h.lo, ?_, ?_⟩, rfl⟩, hon.alloc hph _⟩
      · rw [World.frozen?_of_block (w := w2.setCell ⟨p, f, none⟩ (.slice (some ⟨g, o, none⟩) (n - 1) c)) (Below.heap_alloc _ _ _ (by have := hon.size; show p < _; omega)), World.frozen?_setCell]
        exact (World.frozen?_of_block (w := W) (hg.block p (by omega) (by simpa using hne))).trans hfW
      · unfold losP
        rw [← hn, hE, if_pos rfl, Int.toNat_natCast, List.length_append, List.length_take, List.length_drop, ← hn, show min j n + (n - (j + 1)) = n - 1 by omega]
        refine .inr ⟨g, o, c, rfl, (hh.setOther (fun e => hne e.symm) _).block (Below.heap_alloc _ _ _ ?_)⟩
        have := hh.hi
        simpa [World.setCell] using this
      · have := hon.size; show p < (World.alloc _ _).heap.size; rw [World.size_alloc]; omega
      · simpa [Value.ownBlock] using fun e => hne e.symm
    have HQ' := hid HQ
    have HD := hid (delete_any B g o c n j P W hoW hn.symm hj hm)
    have hj9 : (j : Int) ≤ 2000 := by omega
    have hlt' : (j : Int) < (n : Int) := by omega
    have HE := hid hE
    have HH := hid (has_any p f (some ⟨g, o, none⟩) n c j w hc hm)
    have q0 : W.cell? ⟨w.heap.size, 0, none⟩ = some (.int .i64 x0) := (hbx 0 (by simp)).1
    have q1 : W.cell? ⟨w.heap.size, 1, none⟩ = some (.string x1) := (hbx 1 (by simp)).1
    have q2 : W.cell? ⟨w.heap.size, 2, none⟩ = some (.string x2) := (hbx 2 (by simp)).1
    clear hx hn HQ h hoc hoW hat hE h1 hk hm hgW hbx
    go_enter Try.func26, Try.ntmps26
    go_wp2_with fail
    refine HH.out.mono ?_
    rintro e w1 ⟨rfl, hw1⟩
    rw [hw1, HE.out]
    go_upto_region 2 with fail
    rw [← hW]
    clear hW hc hc0 hc1 hc2 hw1
    go_wp2_with fail
    refine HD.out.mono ?_
    rintro e w2 ⟨rfl, ho2, hg2⟩
    have hR := HQ'.out w2 ho2 hg2
    have hpc : w2.cell? ⟨p, f, none⟩ = some (.slice (some ⟨g, o, none⟩) n c) := keepP hg2 hcW hne
    have hpf : w2.frozen? ⟨p, f, none⟩ = false := (World.frozen?_of_block (w := W) (hg2.block p (by omega) (by simpa using hne))).trans hfW
    have hneq : w.heap.size ≠ g := by omega
    have r0 := keepP hg2 q0 hneq
    have r1 := keepP hg2 q1 hneq
    have r2 := keepP hg2 q2 hneq
    have hneqp : w.heap.size ≠ p := by omega
    have s0 : (w2.setCell ⟨p, f, none⟩ (.slice (some ⟨g, o, none⟩) (n - 1) c)).cell? ⟨w.heap.size, 0, none⟩ = some (.int .i64 x0) := by rw [World.cell?_setCell_other _ _ _ _ (by intro e; injection e with e1; exact hneqp e1.symm)]; exact r0
    have s1 : (w2.setCell ⟨p, f, none⟩ (.slice (some ⟨g, o, none⟩) (n - 1) c)).cell? ⟨w.heap.size, 1, none⟩ = some (.string x1) := by rw [World.cell?_setCell_other _ _ _ _ (by intro e; injection e with e1; exact hneqp e1.symm)]; exact r1
    have s2 : (w2.setCell ⟨p, f, none⟩ (.slice (some ⟨g, o, none⟩) (n - 1) c)).cell? ⟨w.heap.size, 2, none⟩ = some (.string x2) := by rw [World.cell?_setCell_other _ _ _ _ (by intro e; injection e with e1; exact hneqp e1.symm)]; exact r2
    obtain ⟨w3, hw3⟩ : ∃ w3, w3 = w2.setCell ⟨p, f, none⟩ (.slice (some ⟨g, o, none⟩) (n - 1) c) := ⟨_, rfl⟩
    rw [← hw3] at hR s0 s1 s2
    clear HQ' HD ho2 hg2 q0 q1 q2 r0 r1 r2 hcW hfW
    go_upto_region 3 with fail
    rw [← hw3]
    clear hw3 hpc hpf
    go_wp2
    go_end0
    exact ⟨rfl, hR⟩
  | false =>
    have HQ : Giv B w w p f (.slice a n c) P k := by
      unfold Giv losP
      rw [← hn, hE, if_neg (by simp)]
      exact ⟨⟨_, h, rfl⟩, Only.refl _ _ _ _⟩
    have HE := hid hE
    have HH := hid (has_any p f a n c k w hc hm)
    clear h hn hE hk hm
    go_enter Try.func26, Try.ntmps26
    go_wp2_with fail
    refine HH.out.mono ?_
    rintro e w1 ⟨rfl, hw1⟩
    rw [hw1, HE.out]
    go_wp2
    go_end0
    exact ⟨rfl, HQ⟩

set_option maxHeartbeats 1000000 in
set_option maxRecDepth 100000 in
theorem implLose_any (a : Option Addr) (b o n c : Nat) (P : List Pc) (k : Int) (w : World) (h : PcAt w a b o n P) (hn : n ≤ 1048576) :
    Calls Try.prog 14 #[.slice a n c, .int .i64 k] w fun e w' => RetP e w.heap.size w' (losP P k) ∧ Below w.heap.size w w' := by
  have hl := h.len
  have hk := h.ok
  go_enter Try.func14, Try.ntmps14
  go_wp2_with fail
  refine (listOf_any a b o n c P w h hn).mono ?_
  rintro e w1 ⟨⟨v, rfl, hown, hne⟩, hb1⟩
  obtain ⟨a1, c1, rfl⟩ := hown.slc
  obtain ⟨w2, hw2⟩ : ∃ w2, w2 = w1.alloc (.cells #[.slice a1 n c1] 39) := ⟨_, rfl⟩
  have hls : LsAt w.heap.size w2 w1.heap.size 0 (.slice a1 n c1) P := by
    have hcf : CF w2 w1.heap.size [.slice a1 n c1] := by rw [hw2]; exact CF.made w1 _ _
    exact ⟨(hcf 0 (by simp)).1, (hcf 0 (by simp)).2, by rw [hw2, hl]; exact hown.alloc _, hb1.size, by rw [hw2]; simp, hne⟩
  have hb2 : Below w.heap.size w w2 := by rw [hw2]; exact hb1.alloc hb1.size _
  have hB := hb2.size
  have hrow := hown.row_lo
  have hq := hb1.size
  go_upto_region 2 with fail
  rw [← hw2]
  clear hw2 hown hne hb1
  have HP := hid (giveForget_any w.heap.size w1.heap.size 0 a1 n c1 P k w2 hls hl.symm (by omega) hk)
  obtain ⟨q, hq'⟩ : ∃ q, q = w1.heap.size := ⟨_, rfl⟩
  rw [← hq'] at HP hls hq ⊢
  clear hq'
  go_wp2_with fail
  refine HP.out.mono ?_
  rintro e w3 ⟨rfl, ⟨v', hls', _⟩, hon⟩
  have hc3 := hls'.c
  have hb3 := hb2.trans (hon.below hq hrow hB)
  have HR : RetP (.returned v') w.heap.size w3 (losP P k) := ⟨_, rfl, hls'.own⟩
  obtain ⟨a3, c3, rfl⟩ := hls'.own.slc
  clear hls' hon hls hk hl HP h
  go_wp2
  go_ret
  exact ⟨HR, hb3⟩
end Go.Proofs.Ytfocmmiajcamiaa
