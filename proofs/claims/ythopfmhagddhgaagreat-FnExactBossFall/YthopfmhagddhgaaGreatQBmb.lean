import Derived.Test.YthopfmhagddhgaaGreatQBos
import Derived.Test.YthopfmhagddhgaaGreatQMark
import Derived.Test.YthopfmhagddhgaaGreatQCel
namespace Go.Proofs.YthopfmhagddhgaaGreat
open Go.RowKit

def c3 (J : List Tr) : List Value := J.flatMap fun x => [.int .i64 x.1, .int .i64 x.2.1, .int .i64 x.2.2]
def c2 (S : List (Bool × Int)) : List Value := S.flatMap fun x => [.bool x.1, .int .i64 x.2]
theorem c3_length (J : List Tr) : (c3 J).length = J.length * 3 := by
  induction J with
  | nil => rfl
  | cons x r ih => simp only [c3, List.flatMap_cons, List.length_append, List.length_cons] at ih ⊢; rw [ih]; simp; omega
theorem c2_length (J : List (Bool × Int)) : (c2 J).length = J.length * 2 := by
  induction J with
  | nil => rfl
  | cons x r ih => simp only [c2, List.flatMap_cons, List.length_append, List.length_cons] at ih ⊢; rw [ih]; simp; omega
theorem c3_get (J : List Tr) : ∀ (j r : Nat), j < J.length → r < 3 → (c3 J)[j * 3 + r]? = [Value.int .i64 (t3 J j).1, .int .i64 (t3 J j).2.1, .int .i64 (t3 J j).2.2][r]? := by
  induction J with
  | nil => intro j r h; simp at h
  | cons x t ih =>
    intro j r hj hr
    have e : c3 (x :: t) = [Value.int .i64 x.1, .int .i64 x.2.1, .int .i64 x.2.2] ++ c3 t := rfl
    rw [e]
    cases j with
    | zero => rw [List.getElem?_append_left (by simp; omega), Nat.zero_mul, Nat.zero_add]; rfl
    | succ j => rw [List.getElem?_append_right (by simp; omega), show (j + 1) * 3 + r - [Value.int .i64 x.1, .int .i64 x.2.1, .int .i64 x.2.2].length = j * 3 + r by simp; omega, ih j r (by simpa using hj) hr]; simp [t3]
theorem c2_get (J : List (Bool × Int)) : ∀ (j r : Nat), j < J.length → r < 2 → (c2 J)[j * 2 + r]? = [Value.bool (t2 J j).1, .int .i64 (t2 J j).2][r]? := by
  induction J with
  | nil => intro j r h; simp at h
  | cons x t ih =>
    intro j r hj hr
    have e : c2 (x :: t) = [Value.bool x.1, .int .i64 x.2] ++ c2 t := rfl
    rw [e]
    cases j with
    | zero => rw [List.getElem?_append_left (by simp; omega), Nat.zero_mul, Nat.zero_add]; rfl
    | succ j => rw [List.getElem?_append_right (by simp; omega), show (j + 1) * 2 + r - [Value.bool x.1, .int .i64 x.2].length = j * 2 + r by simp; omega, ih j r (by simpa using hj) hr]; simp [t2]
theorem c3_of {J : List Tr} {xs : List Value} (hl : xs.length = J.length * 3) (h : ∀ j, j < J.length → xs[j * 3]? = some (.int .i64 (t3 J j).1) ∧ xs[j * 3 + 1]? = some (.int .i64 (t3 J j).2.1) ∧ xs[j * 3 + 2]? = some (.int .i64 (t3 J j).2.2)) : xs = c3 J := by
  apply List.ext_getElem?
  intro i
  by_cases hi : i < J.length * 3
  · obtain ⟨h0, h1, h2⟩ := h (i / 3) (by omega)
    have hr : i % 3 = 0 ∨ i % 3 = 1 ∨ i % 3 = 2 := by omega
    have hg := c3_get J (i / 3) (i % 3) (by omega) (by omega)
    rw [show i / 3 * 3 + i % 3 = i by omega] at hg
    rw [hg]
    rcases hr with e | e | e
    · rw [show i / 3 * 3 = i by omega] at h0; rw [h0, e]; rfl
    · rw [show i / 3 * 3 + 1 = i by omega] at h1; rw [h1, e]; rfl
    · rw [show i / 3 * 3 + 2 = i by omega] at h2; rw [h2, e]; rfl
  · rw [List.getElem?_eq_none (by omega), List.getElem?_eq_none (by rw [c3_length]; omega)]
theorem c2_of {J : List (Bool × Int)} {xs : List Value} (hl : xs.length = J.length * 2) (h : ∀ j, j < J.length → xs[j * 2]? = some (.bool (t2 J j).1) ∧ xs[j * 2 + 1]? = some (.int .i64 (t2 J j).2)) : xs = c2 J := by
  apply List.ext_getElem?
  intro i
  by_cases hi : i < J.length * 2
  · obtain ⟨h0, h1⟩ := h (i / 2) (by omega)
    have hr : i % 2 = 0 ∨ i % 2 = 1 := by omega
    have hg := c2_get J (i / 2) (i % 2) (by omega) (by omega)
    rw [show i / 2 * 2 + i % 2 = i by omega] at hg
    rw [hg]
    rcases hr with e | e
    · rw [show i / 2 * 2 = i by omega] at h0; rw [h0, e]; rfl
    · rw [show i / 2 * 2 + 1 = i by omega] at h1; rw [h1, e]; rfl
  · rw [List.getElem?_eq_none (by omega), List.getElem?_eq_none (by rw [c2_length]; omega)]
def Ok3 (J : List Tr) : Prop := ∀ j, j < J.length → I64 (t3 J j).1 ∧ I64 (t3 J j).2.1 ∧ I64 (t3 J j).2.2
def Ok2 (J : List (Bool × Int)) : Prop := ∀ j, j < J.length → I64 (t2 J j).2
theorem T3At.ofOwn {B : Nat} {w : World} {g o cap n : Nat} {J : List Tr} (h : OwnC B w 3 g o cap n (c3 J)) (hk : Ok3 J) : T3At w (some ⟨g, o, none⟩) g o n J := by
  have hl : J.length = n := by have := h.len; rw [c3_length] at this; omega
  refine ⟨fun _ => rfl, hl, Nat.le_trans h.le h.max, fun _ => h.hi, fun j hj => ?_, fun j hj => ?_, fun j hj => ?_, fun j hj => hk j (by omega)⟩
  · have := h.holds (j * 3 + 0) (by omega); rw [c3_get J j 0 (by omega) (by omega)] at this; exact this
  · have := h.holds (j * 3 + 1) (by omega); rw [c3_get J j 1 (by omega) (by omega)] at this; rw [Nat.add_assoc]; exact this
  · have := h.holds (j * 3 + 2) (by omega); rw [c3_get J j 2 (by omega) (by omega)] at this; rw [Nat.add_assoc]; exact this
theorem T2At.ofOwn {B : Nat} {w : World} {g o cap n : Nat} {J : List (Bool × Int)} (h : OwnC B w 2 g o cap n (c2 J)) (hk : Ok2 J) : T2At w (some ⟨g, o, none⟩) g o n J := by
  have hl : J.length = n := by have := h.len; rw [c2_length] at this; omega
  refine ⟨fun _ => rfl, hl, Nat.le_trans h.le h.max, fun _ => h.hi, fun j hj => ?_, fun j hj => ?_, fun j hj => hk j (by omega)⟩
  · have := h.holds (j * 2 + 0) (by omega); rw [c2_get J j 0 (by omega) (by omega)] at this; exact this
  · have := h.holds (j * 2 + 1) (by omega); rw [c2_get J j 1 (by omega) (by omega)] at this; rw [Nat.add_assoc]; exact this
theorem Own.t3At {B : Nat} {w : World} {a : Option Addr} {n c : Nat} {J : List Tr} (h : Own B w 3 (.slice a n c) n (c3 J)) (hk : Ok3 J) : ∃ b o, T3At w a b o n J ∧ (0 < n → B ≤ b) := by
  rcases h with ⟨hv, rfl, hx⟩ | ⟨g, o, cap, hv, hc⟩
  · injection hv with h1 _ _
    have : J = [] := List.eq_nil_of_length_eq_zero (by have := congrArg List.length hx; rw [c3_length, List.length_nil] at this; omega)
    subst this
    exact ⟨0, 0, ⟨fun h => absurd h (by omega), rfl, Nat.zero_le _, fun h => absurd h (by omega), fun j hj => absurd hj (by omega), fun j hj => absurd hj (by omega), fun j hj => absurd hj (by omega), fun j hj => absurd hj (by omega)⟩, fun h => absurd h (by omega)⟩
  · injection hv with h1 _ _
    subst h1
    exact ⟨g, o, T3At.ofOwn hc hk, fun _ => hc.lo⟩
theorem Own.t2At {B : Nat} {w : World} {a : Option Addr} {n c : Nat} {J : List (Bool × Int)} (h : Own B w 2 (.slice a n c) n (c2 J)) (hk : Ok2 J) : ∃ b o, T2At w a b o n J ∧ (0 < n → B ≤ b) := by
  rcases h with ⟨hv, rfl, hx⟩ | ⟨g, o, cap, hv, hc⟩
  · injection hv with h1 _ _
    have : J = [] := List.eq_nil_of_length_eq_zero (by have := congrArg List.length hx; rw [c2_length, List.length_nil] at this; omega)
    subst this
    exact ⟨0, 0, ⟨fun h => absurd h (by omega), rfl, Nat.zero_le _, fun h => absurd h (by omega), fun j hj => absurd hj (by omega), fun j hj => absurd hj (by omega), fun j hj => absurd hj (by omega)⟩, fun h => absurd h (by omega)⟩
  · injection hv with h1 _ _
    subst h1
    exact ⟨g, o, T2At.ofOwn hc hk, fun _ => hc.lo⟩
def mk3 (k n : Nat) : List Tr := (List.range n).map fun (i : Nat) => ((k : Int) + i * 3, (k : Int) + i * 3 + 1, (k : Int) + i * 3 + 1 + 1)
def mk2 (k n : Nat) : List (Bool × Int) := (List.range n).map fun (i : Nat) => (((k : Int) + i * 2) % 3 == 0, (k : Int) + i * 2 + 1)
theorem mk3_length (k n : Nat) : (mk3 k n).length = n := by simp [mk3]
theorem mk2_length (k n : Nat) : (mk2 k n).length = n := by simp [mk2]
theorem mk3_get (k : Nat) {i n : Nat} (h : i < n) : t3 (mk3 k n) i = ((k : Int) + i * 3, (k : Int) + i * 3 + 1, (k : Int) + i * 3 + 1 + 1) := by simp [t3, mk3, List.getD, h]
theorem mk2_get (k : Nat) {i n : Nat} (h : i < n) : t2 (mk2 k n) i = (((k : Int) + i * 2) % 3 == 0, (k : Int) + i * 2 + 1) := by simp [t2, mk2, List.getD, h]
theorem mk3_ok (k n : Nat) (hk : k ≤ 2199023255552) (hn : n ≤ 1048576) : Ok3 (mk3 k n) := fun j hj => by
  rw [mk3_length] at hj
  rw [mk3_get k hj]
  exact ⟨⟨by dsimp only; omega, by dsimp only; omega⟩, ⟨by dsimp only; omega, by dsimp only; omega⟩, ⟨by dsimp only; omega, by dsimp only; omega⟩⟩
theorem mk2_ok (k n : Nat) (hk : k ≤ 2199023255552) (hn : n ≤ 1048576) : Ok2 (mk2 k n) := fun j hj => by
  rw [mk2_length] at hj
  rw [mk2_get k hj]
  exact ⟨by dsimp only; omega, by dsimp only; omega⟩

set_option maxHeartbeats 1000000 in
set_option maxRecDepth 100000 in
theorem markJobS_any (g o cap n c k : Nat) (B : Nat) (xs : List Value) (w : World) (h1 : 0 < k) (h2 : k ≤ 2199023255552) (hn : n ≤ 1048576) (h : OwnC B w 3 g o cap n xs) :
    Calls Tryz.prog 68 #[.slice (some ⟨g, o, none⟩) n c, .int .i64 k] w fun e w' => e = .returned (.int .i64 ((k : Int) + n * 3)) ∧ OwnC B w' 3 g o cap n (c3 (mk3 k n)) ∧ w.grownBy w' (some g) := by
  go_enter Tryz.func68, Tryz.ntmps68
  go_wp2
  go_loopw [1, 5] (fun kv x wr => ∃ i : Nat, i ≤ n ∧ x = .int .i64 i ∧ kv = .int .i64 ((k : Int) + i * 3) ∧ (∃ ys, OwnC B wr 3 g o cap n ys ∧ Hid (∀ j : Nat, j < i → ys[j * 3]? = some (.int .i64 ((k : Int) + j * 3)) ∧ ys[j * 3 + 1]? = some (.int .i64 ((k : Int) + j * 3 + 1)) ∧ ys[j * 3 + 2]? = some (.int .i64 ((k : Int) + j * 3 + 1 + 1)))) ∧ w.grownBy wr (some g)) (fun _ x _ => n - (intOf x).toNat)
  case atStart => exact ⟨0, Nat.zero_le _, rfl, by simp, ⟨xs, h, hid (fun j hj => absurd hj (by omega))⟩, World.grownBy.refl w _⟩
  case round =>
    obtain ⟨i, hi, rfl, rfl, ⟨ys, ho, HBU⟩, hg⟩ := hrel
    by_cases hlt : i < n
    · have hlt' : (i : Int) < (n : Int) := by omega
      have hlen : i * 3 + 2 < ys.length := by rw [ho.len]; omega
      have HLEN := hid hlen
      clear hlen
      obtain ⟨u0, _, hq0⟩ := ho.cellSome (j := i * 3) (by omega)
      have hf0 := ho.notFrozen (j := i * 3) (by omega)
      have ho0 := ho.setCell (j := i * 3) (by omega) (.int .i64 ((k : Int) + i * 3))
      have hg0 := gset hg (o + (i * 3)) (.int .i64 ((k : Int) + i * 3))
      obtain ⟨w0, hw0⟩ : ∃ V, V = wr.setCell ⟨g, o + i * 3, none⟩ (.int .i64 ((k : Int) + i * 3)) := ⟨_, rfl⟩
      go_upto_region 6 with fail
      rw [← hw0] at ho0 hg0 ⊢
      clear hw0 hq0 hf0 ho hg
      obtain ⟨u1, _, hq1⟩ := ho0.cellSome (j := i * 3 + 1) (by omega)
      have hf1 := ho0.notFrozen (j := i * 3 + 1) (by omega)
      have ho1 := ho0.setCell (j := i * 3 + 1) (by omega) (.int .i64 ((k : Int) + i * 3 + 1))
      have hg1 := gset hg0 (o + (i * 3 + 1)) (.int .i64 ((k : Int) + i * 3 + 1))
      rw [← Nat.add_assoc] at hq1 hf1 ho1 hg1
      obtain ⟨w1, hw1⟩ : ∃ V, V = w0.setCell ⟨g, o + i * 3 + 1, none⟩ (.int .i64 ((k : Int) + i * 3 + 1)) := ⟨_, rfl⟩
      go_upto_region 8 with fail
      rw [← hw1] at ho1 hg1 ⊢
      clear hw1 hq1 hf1 ho0 hg0
      obtain ⟨u2, _, hq2⟩ := ho1.cellSome (j := i * 3 + 2) (by omega)
      have hf2 := ho1.notFrozen (j := i * 3 + 2) (by omega)
      have ho2 := ho1.setCell (j := i * 3 + 2) (by omega) (.int .i64 ((k : Int) + i * 3 + 1 + 1))
      have hg2 := gset hg1 (o + (i * 3 + 2)) (.int .i64 ((k : Int) + i * 3 + 1 + 1))
      rw [← Nat.add_assoc] at hq2 hf2 ho2 hg2
      clear ho1 hg1
      go_wp2
      go_roundw
      case rel =>
        refine ⟨i + 1, by omega, by go_num, by go_num, ⟨_, ho2, hid (fun j hj => ?_)⟩, hg2⟩
        have hl := HLEN.out
        by_cases e : j = i
        · subst e
          exact ⟨by simp [List.getElem?_set]; omega, by simp [List.getElem?_set]; omega, by simp [List.getElem?_set]; omega⟩
        · obtain ⟨g0, g1, g2⟩ := HBU.out j (by omega)
          exact ⟨by rw [List.getElem?_set_ne (by omega), List.getElem?_set_ne (by omega), List.getElem?_set_ne (by omega)]; exact g0, by rw [List.getElem?_set_ne (by omega), List.getElem?_set_ne (by omega), List.getElem?_set_ne (by omega)]; exact g1, by rw [List.getElem?_set_ne (by omega), List.getElem?_set_ne (by omega), List.getElem?_set_ne (by omega)]; exact g2⟩
      case measure => simp [intOf]; omega
    · obtain rfl : i = n := by omega
      obtain rfl : ys = c3 (mk3 k i) := c3_of (by rw [ho.len, mk3_length]) (fun j hj => by
        rw [mk3_length] at hj
        rw [mk3_get k hj]
        exact HBU.out j hj)
      go_wp2
      go_ret
      exact ⟨rfl, ho, hg⟩

set_option maxHeartbeats 1000000 in
theorem markJobS_nil (k : Nat) (w : World) :
    Calls Tryz.prog 68 #[.slice none 0 0, .int .i64 k] w fun e w' => e = .returned (.int .i64 (k : Int)) ∧ w' = w := by
  go_enter Tryz.func68, Tryz.ntmps68
  go_wp2
  go_loop [1, 5] (fun kv x => x = .int .i64 0 ∧ kv = .int .i64 k) (fun _ _ => 0)
  case atStart => exact ⟨rfl, rfl⟩
  case round =>
    obtain ⟨rfl, rfl⟩ := hrel
    go_wp2
    go_ret
    exact ⟨rfl, rfl⟩
theorem markJobS_own (a : Option Addr) (n c k : Nat) (B : Nat) (xs : List Value) (w : World) (h1 : 0 < k) (h2 : k ≤ 2199023255552) (hn : n ≤ 1048576) (h : Own B w 3 (.slice a n c) n xs) :
    Calls Tryz.prog 68 #[.slice a n c, .int .i64 k] w fun e w' => e = .returned (.int .i64 ((k : Int) + n * 3)) ∧ Own B w' 3 (.slice a n c) n (c3 (mk3 k n)) ∧ w.grownBy w' (Value.slice a n c).ownBlock := by
  rcases h with ⟨hv, rfl, rfl⟩ | ⟨g, o, cap, hv, hc⟩
  · simp only [Value.slice.injEq] at hv
    obtain ⟨rfl, _, rfl⟩ := hv
    refine (markJobS_nil k w).mono ?_
    rintro e w' ⟨rfl, rfl⟩
    exact ⟨by simp, .inl ⟨rfl, rfl, by simp [c3, mk3]⟩, World.grownBy.refl _ _⟩
  · simp only [Value.slice.injEq] at hv
    obtain ⟨rfl, _, rfl⟩ := hv
    refine (markJobS_any g o c n c k B xs w h1 h2 hn hc).mono ?_
    rintro e w' ⟨rfl, ho, hg⟩
    exact ⟨rfl, .inr ⟨g, o, c, rfl, ho⟩, hg⟩

set_option maxHeartbeats 1000000 in
theorem heldJobS_any (a : Option Addr) (b o n c k : Nat) (w : World) (h1 : 0 < k) (h2 : k ≤ 2199023255552) (hn : n ≤ 1048576) (h : T3At w a b o n (mk3 k n)) :
    Calls Tryz.prog 74 #[.slice a n c, .int .i64 k] w fun e w' => e = .returned (.int .i64 ((k : Int) + n * 3)) ∧ w' = w := by
  go_enter Tryz.func74, Tryz.ntmps74
  go_wp2
  go_loop [1, 5] (fun kv x => ∃ i : Nat, i ≤ n ∧ x = .int .i64 i ∧ kv = .int .i64 ((k : Int) + i * 3)) (fun _ x => n - (intOf x).toNat)
  case atStart => exact ⟨0, Nat.zero_le _, rfl, by simp⟩
  case round =>
    obtain ⟨i, hi, rfl, rfl⟩ := hrel
    by_cases hlt : i < n
    · have hlt' : (i : Int) < (n : Int) := by omega
      obtain rfl := h.ad (by omega)
      have hc0 := h.c0 i hlt
      have hc1 := h.c1 i hlt
      have hc2 := h.c2 i hlt
      rw [mk3_get k hlt] at hc0 hc1 hc2
      dsimp only at hc0 hc1 hc2
      go_wp2
      go_round
      case rel => exact ⟨i + 1, by omega, by go_num, by go_num⟩
      case measure => simp [intOf]; omega
    · obtain rfl : i = n := by omega
      go_wp2
      go_ret
      exact ⟨rfl, rfl⟩

set_option maxHeartbeats 1000000 in
set_option maxRecDepth 100000 in
theorem markOwedS_any (g o cap n c k : Nat) (B : Nat) (xs : List Value) (w : World) (h1 : 0 < k) (h2 : k ≤ 2199023255552) (hn : n ≤ 1048576) (h : OwnC B w 3 g o cap n xs) :
    Calls Tryz.prog 70 #[.slice (some ⟨g, o, none⟩) n c, .int .i64 k] w fun e w' => e = .returned (.int .i64 ((k : Int) + n * 3)) ∧ OwnC B w' 3 g o cap n (c3 (mk3 k n)) ∧ w.grownBy w' (some g) := by
  go_enter Tryz.func70, Tryz.ntmps70
  go_wp2
  go_loopw [1, 5] (fun kv x wr => ∃ i : Nat, i ≤ n ∧ x = .int .i64 i ∧ kv = .int .i64 ((k : Int) + i * 3) ∧ (∃ ys, OwnC B wr 3 g o cap n ys ∧ Hid (∀ j : Nat, j < i → ys[j * 3]? = some (.int .i64 ((k : Int) + j * 3)) ∧ ys[j * 3 + 1]? = some (.int .i64 ((k : Int) + j * 3 + 1)) ∧ ys[j * 3 + 2]? = some (.int .i64 ((k : Int) + j * 3 + 1 + 1)))) ∧ w.grownBy wr (some g)) (fun _ x _ => n - (intOf x).toNat)
  case atStart => exact ⟨0, Nat.zero_le _, rfl, by simp, ⟨xs, h, hid (fun j hj => absurd hj (by omega))⟩, World.grownBy.refl w _⟩
  case round =>
    obtain ⟨i, hi, rfl, rfl, ⟨ys, ho, HBU⟩, hg⟩ := hrel
    by_cases hlt : i < n
    · have hlt' : (i : Int) < (n : Int) := by omega
      have hlen : i * 3 + 2 < ys.length := by rw [ho.len]; omega
      have HLEN := hid hlen
      clear hlen
      obtain ⟨u0, _, hq0⟩ := ho.cellSome (j := i * 3) (by omega)
      have hf0 := ho.notFrozen (j := i * 3) (by omega)
      have ho0 := ho.setCell (j := i * 3) (by omega) (.int .i64 ((k : Int) + i * 3))
      have hg0 := gset hg (o + (i * 3)) (.int .i64 ((k : Int) + i * 3))
      obtain ⟨w0, hw0⟩ : ∃ V, V = wr.setCell ⟨g, o + i * 3, none⟩ (.int .i64 ((k : Int) + i * 3)) := ⟨_, rfl⟩
      go_upto_region 6 with fail
      rw [← hw0] at ho0 hg0 ⊢
      clear hw0 hq0 hf0 ho hg
      obtain ⟨u1, _, hq1⟩ := ho0.cellSome (j := i * 3 + 1) (by omega)
      have hf1 := ho0.notFrozen (j := i * 3 + 1) (by omega)
      have ho1 := ho0.setCell (j := i * 3 + 1) (by omega) (.int .i64 ((k : Int) + i * 3 + 1))
      have hg1 := gset hg0 (o + (i * 3 + 1)) (.int .i64 ((k : Int) + i * 3 + 1))
      rw [← Nat.add_assoc] at hq1 hf1 ho1 hg1
      obtain ⟨w1, hw1⟩ : ∃ V, V = w0.setCell ⟨g, o + i * 3 + 1, none⟩ (.int .i64 ((k : Int) + i * 3 + 1)) := ⟨_, rfl⟩
      go_upto_region 8 with fail
      rw [← hw1] at ho1 hg1 ⊢
      clear hw1 hq1 hf1 ho0 hg0
      obtain ⟨u2, _, hq2⟩ := ho1.cellSome (j := i * 3 + 2) (by omega)
      have hf2 := ho1.notFrozen (j := i * 3 + 2) (by omega)
      have ho2 := ho1.setCell (j := i * 3 + 2) (by omega) (.int .i64 ((k : Int) + i * 3 + 1 + 1))
      have hg2 := gset hg1 (o + (i * 3 + 2)) (.int .i64 ((k : Int) + i * 3 + 1 + 1))
      rw [← Nat.add_assoc] at hq2 hf2 ho2 hg2
      clear ho1 hg1
      go_wp2
      go_roundw
      case rel =>
        refine ⟨i + 1, by omega, by go_num, by go_num, ⟨_, ho2, hid (fun j hj => ?_)⟩, hg2⟩
        have hl := HLEN.out
        by_cases e : j = i
        · subst e
          exact ⟨by simp [List.getElem?_set]; omega, by simp [List.getElem?_set]; omega, by simp [List.getElem?_set]; omega⟩
        · obtain ⟨g0, g1, g2⟩ := HBU.out j (by omega)
          exact ⟨by rw [List.getElem?_set_ne (by omega), List.getElem?_set_ne (by omega), List.getElem?_set_ne (by omega)]; exact g0, by rw [List.getElem?_set_ne (by omega), List.getElem?_set_ne (by omega), List.getElem?_set_ne (by omega)]; exact g1, by rw [List.getElem?_set_ne (by omega), List.getElem?_set_ne (by omega), List.getElem?_set_ne (by omega)]; exact g2⟩
      case measure => simp [intOf]; omega
    · obtain rfl : i = n := by omega
      obtain rfl : ys = c3 (mk3 k i) := c3_of (by rw [ho.len, mk3_length]) (fun j hj => by
        rw [mk3_length] at hj
        rw [mk3_get k hj]
        exact HBU.out j hj)
      go_wp2
      go_ret
      exact ⟨rfl, ho, hg⟩

set_option maxHeartbeats 1000000 in
theorem markOwedS_nil (k : Nat) (w : World) :
    Calls Tryz.prog 70 #[.slice none 0 0, .int .i64 k] w fun e w' => e = .returned (.int .i64 (k : Int)) ∧ w' = w := by
  go_enter Tryz.func70, Tryz.ntmps70
  go_wp2
  go_loop [1, 5] (fun kv x => x = .int .i64 0 ∧ kv = .int .i64 k) (fun _ _ => 0)
  case atStart => exact ⟨rfl, rfl⟩
  case round =>
    obtain ⟨rfl, rfl⟩ := hrel
    go_wp2
    go_ret
    exact ⟨rfl, rfl⟩
theorem markOwedS_own (a : Option Addr) (n c k : Nat) (B : Nat) (xs : List Value) (w : World) (h1 : 0 < k) (h2 : k ≤ 2199023255552) (hn : n ≤ 1048576) (h : Own B w 3 (.slice a n c) n xs) :
    Calls Tryz.prog 70 #[.slice a n c, .int .i64 k] w fun e w' => e = .returned (.int .i64 ((k : Int) + n * 3)) ∧ Own B w' 3 (.slice a n c) n (c3 (mk3 k n)) ∧ w.grownBy w' (Value.slice a n c).ownBlock := by
  rcases h with ⟨hv, rfl, rfl⟩ | ⟨g, o, cap, hv, hc⟩
  · simp only [Value.slice.injEq] at hv
    obtain ⟨rfl, _, rfl⟩ := hv
    refine (markOwedS_nil k w).mono ?_
    rintro e w' ⟨rfl, rfl⟩
    exact ⟨by simp, .inl ⟨rfl, rfl, by simp [c3, mk3]⟩, World.grownBy.refl _ _⟩
  · simp only [Value.slice.injEq] at hv
    obtain ⟨rfl, _, rfl⟩ := hv
    refine (markOwedS_any g o c n c k B xs w h1 h2 hn hc).mono ?_
    rintro e w' ⟨rfl, ho, hg⟩
    exact ⟨rfl, .inr ⟨g, o, c, rfl, ho⟩, hg⟩

set_option maxHeartbeats 1000000 in
theorem heldOwedS_any (a : Option Addr) (b o n c k : Nat) (w : World) (h1 : 0 < k) (h2 : k ≤ 2199023255552) (hn : n ≤ 1048576) (h : T3At w a b o n (mk3 k n)) :
    Calls Tryz.prog 76 #[.slice a n c, .int .i64 k] w fun e w' => e = .returned (.int .i64 ((k : Int) + n * 3)) ∧ w' = w := by
  go_enter Tryz.func76, Tryz.ntmps76
  go_wp2
  go_loop [1, 5] (fun kv x => ∃ i : Nat, i ≤ n ∧ x = .int .i64 i ∧ kv = .int .i64 ((k : Int) + i * 3)) (fun _ x => n - (intOf x).toNat)
  case atStart => exact ⟨0, Nat.zero_le _, rfl, by simp⟩
  case round =>
    obtain ⟨i, hi, rfl, rfl⟩ := hrel
    by_cases hlt : i < n
    · have hlt' : (i : Int) < (n : Int) := by omega
      obtain rfl := h.ad (by omega)
      have hc0 := h.c0 i hlt
      have hc1 := h.c1 i hlt
      have hc2 := h.c2 i hlt
      rw [mk3_get k hlt] at hc0 hc1 hc2
      dsimp only at hc0 hc1 hc2
      go_wp2
      go_round
      case rel => exact ⟨i + 1, by omega, by go_num, by go_num⟩
      case measure => simp [intOf]; omega
    · obtain rfl : i = n := by omega
      go_wp2
      go_ret
      exact ⟨rfl, rfl⟩

set_option maxHeartbeats 1000000 in
set_option maxRecDepth 100000 in
theorem markSeatS_any (g o cap n c k : Nat) (B : Nat) (xs : List Value) (w : World) (h1 : 0 < k) (h2 : k ≤ 2199023255552) (hn : n ≤ 1048576) (h : OwnC B w 2 g o cap n xs) :
    Calls Tryz.prog 69 #[.slice (some ⟨g, o, none⟩) n c, .int .i64 k] w fun e w' => e = .returned (.int .i64 ((k : Int) + n * 2)) ∧ OwnC B w' 2 g o cap n (c2 (mk2 k n)) ∧ w.grownBy w' (some g) := by
  go_enter Tryz.func69, Tryz.ntmps69
  go_wp2
  go_loopw [1, 5] (fun kv x wr => ∃ i : Nat, i ≤ n ∧ x = .int .i64 i ∧ kv = .int .i64 ((k : Int) + i * 2) ∧ (∃ ys, OwnC B wr 2 g o cap n ys ∧ Hid (∀ j : Nat, j < i → ys[j * 2]? = some (.bool (((k : Int) + j * 2) % 3 == 0)) ∧ ys[j * 2 + 1]? = some (.int .i64 ((k : Int) + j * 2 + 1)))) ∧ w.grownBy wr (some g)) (fun _ x _ => n - (intOf x).toNat)
  case atStart => exact ⟨0, Nat.zero_le _, rfl, by simp, ⟨xs, h, hid (fun j hj => absurd hj (by omega))⟩, World.grownBy.refl w _⟩
  case round =>
    obtain ⟨i, hi, rfl, rfl, ⟨ys, ho, HBU⟩, hg⟩ := hrel
    by_cases hlt : i < n
    · have hlt' : (i : Int) < (n : Int) := by omega
      have hlen : i * 2 + 1 < ys.length := by rw [ho.len]; omega
      have HLEN := hid hlen
      clear hlen
      obtain ⟨u0, _, hq0⟩ := ho.cellSome (j := i * 2) (by omega)
      have hf0 := ho.notFrozen (j := i * 2) (by omega)
      have ho0 := ho.setCell (j := i * 2) (by omega) (.bool (((k : Int) + i * 2) % 3 == 0))
      have hg0 := gset hg (o + (i * 2)) (.bool (((k : Int) + i * 2) % 3 == 0))
      obtain ⟨w0, hw0⟩ : ∃ V, V = wr.setCell ⟨g, o + i * 2, none⟩ (.bool (((k : Int) + i * 2) % 3 == 0)) := ⟨_, rfl⟩
      go_upto_region 6 with fail
      rw [← hw0] at ho0 hg0 ⊢
      clear hw0 hq0 hf0 ho hg
      obtain ⟨u1, _, hq1⟩ := ho0.cellSome (j := i * 2 + 1) (by omega)
      have hf1 := ho0.notFrozen (j := i * 2 + 1) (by omega)
      have ho1 := ho0.setCell (j := i * 2 + 1) (by omega) (.int .i64 ((k : Int) + i * 2 + 1))
      have hg1 := gset hg0 (o + (i * 2 + 1)) (.int .i64 ((k : Int) + i * 2 + 1))
      rw [← Nat.add_assoc] at hq1 hf1 ho1 hg1
      clear ho0 hg0
      go_wp2
      go_roundw
      case rel =>
        refine ⟨i + 1, by omega, by go_num, by go_num, ⟨_, ho1, hid (fun j hj => ?_)⟩, hg1⟩
        have hl := HLEN.out
        by_cases e : j = i
        · subst e
          exact ⟨by simp [List.getElem?_set]; omega, by simp [List.getElem?_set]; omega⟩
        · obtain ⟨g0, g1⟩ := HBU.out j (by omega)
          exact ⟨by rw [List.getElem?_set_ne (by omega), List.getElem?_set_ne (by omega)]; exact g0, by rw [List.getElem?_set_ne (by omega), List.getElem?_set_ne (by omega)]; exact g1⟩
      case measure => simp [intOf]; omega
    · obtain rfl : i = n := by omega
      obtain rfl : ys = c2 (mk2 k i) := c2_of (by rw [ho.len, mk2_length]) (fun j hj => by
        rw [mk2_length] at hj
        rw [mk2_get k hj]
        exact HBU.out j hj)
      go_wp2
      go_ret
      exact ⟨rfl, ho, hg⟩

set_option maxHeartbeats 1000000 in
theorem markSeatS_nil (k : Nat) (w : World) :
    Calls Tryz.prog 69 #[.slice none 0 0, .int .i64 k] w fun e w' => e = .returned (.int .i64 (k : Int)) ∧ w' = w := by
  go_enter Tryz.func69, Tryz.ntmps69
  go_wp2
  go_loop [1, 5] (fun kv x => x = .int .i64 0 ∧ kv = .int .i64 k) (fun _ _ => 0)
  case atStart => exact ⟨rfl, rfl⟩
  case round =>
    obtain ⟨rfl, rfl⟩ := hrel
    go_wp2
    go_ret
    exact ⟨rfl, rfl⟩
theorem markSeatS_own (a : Option Addr) (n c k : Nat) (B : Nat) (xs : List Value) (w : World) (h1 : 0 < k) (h2 : k ≤ 2199023255552) (hn : n ≤ 1048576) (h : Own B w 2 (.slice a n c) n xs) :
    Calls Tryz.prog 69 #[.slice a n c, .int .i64 k] w fun e w' => e = .returned (.int .i64 ((k : Int) + n * 2)) ∧ Own B w' 2 (.slice a n c) n (c2 (mk2 k n)) ∧ w.grownBy w' (Value.slice a n c).ownBlock := by
  rcases h with ⟨hv, rfl, rfl⟩ | ⟨g, o, cap, hv, hc⟩
  · simp only [Value.slice.injEq] at hv
    obtain ⟨rfl, _, rfl⟩ := hv
    refine (markSeatS_nil k w).mono ?_
    rintro e w' ⟨rfl, rfl⟩
    exact ⟨by simp, .inl ⟨rfl, rfl, by simp [c2, mk2]⟩, World.grownBy.refl _ _⟩
  · simp only [Value.slice.injEq] at hv
    obtain ⟨rfl, _, rfl⟩ := hv
    refine (markSeatS_any g o c n c k B xs w h1 h2 hn hc).mono ?_
    rintro e w' ⟨rfl, ho, hg⟩
    exact ⟨rfl, .inr ⟨g, o, c, rfl, ho⟩, hg⟩

set_option maxHeartbeats 1000000 in
theorem heldSeatS_any (a : Option Addr) (b o n c k : Nat) (w : World) (h1 : 0 < k) (h2 : k ≤ 2199023255552) (hn : n ≤ 1048576) (h : T2At w a b o n (mk2 k n)) :
    Calls Tryz.prog 75 #[.slice a n c, .int .i64 k] w fun e w' => e = .returned (.int .i64 ((k : Int) + n * 2)) ∧ w' = w := by
  go_enter Tryz.func75, Tryz.ntmps75
  go_wp2
  go_loop [1, 5] (fun kv x => ∃ i : Nat, i ≤ n ∧ x = .int .i64 i ∧ kv = .int .i64 ((k : Int) + i * 2)) (fun _ x => n - (intOf x).toNat)
  case atStart => exact ⟨0, Nat.zero_le _, rfl, by simp⟩
  case round =>
    obtain ⟨i, hi, rfl, rfl⟩ := hrel
    by_cases hlt : i < n
    · have hlt' : (i : Int) < (n : Int) := by omega
      obtain rfl := h.ad (by omega)
      have hc0 := h.c0 i hlt
      have hc1 := h.c1 i hlt
      rw [mk2_get k hlt] at hc0 hc1
      dsimp only at hc0 hc1
      go_wp2
      go_round
      case rel => exact ⟨i + 1, by omega, by go_num, by go_num⟩
      case measure => simp [intOf]; omega
    · obtain rfl : i = n := by omega
      go_wp2
      go_ret
      exact ⟨rfl, rfl⟩

end Go.Proofs.YthopfmhagddhgaaGreat

namespace Go.Proofs.YthopfmhagddhgaaGreat
open Go.RowKit

/-- Only blocks of some rows were written. -/
structure Grew (rows : List (Option Nat)) (w w' : World) : Prop where
  size : w.heap.size ≤ w'.heap.size
  block : ∀ q, q < w.heap.size → (∀ r ∈ rows, r ≠ some q) → w'.heap[q]? = w.heap[q]?
  os : w'.os = w.os
  tape : w'.tape = w.tape
  output : w'.output = w.output
theorem Grew.of {w w' : World} {r : Option Nat} (h : w.grownBy w' r) : Grew [r] w w' := ⟨h.size, fun q hq hr => h.block q hq (fun e => hr r (by simp) e.symm), h.os, h.tape, h.output⟩
theorem Grew.refl (rows : List (Option Nat)) (w : World) : Grew rows w w := ⟨Nat.le_refl _, fun _ _ _ => rfl, rfl, rfl, rfl⟩
theorem Grew.alloc {rows : List (Option Nat)} {w w' : World} (h : Grew rows w w') (ob : Obj) : Grew rows w (w'.alloc ob) := ⟨by simp; have := h.1; omega, fun q hq hr => (Below.heap_alloc _ _ _ (by have := h.1; omega)).trans (h.2 q hq hr), h.os, h.tape, h.output⟩
theorem Grew.step {rows s : List (Option Nat)} {w w1 w2 : World} (h : Grew rows w w1) (h' : Grew s w1 w2) (hs : ∀ r ∈ s, r ∈ rows) : Grew rows w w2 :=
  ⟨Nat.le_trans h.1 h'.1, fun q hq hr => (h'.2 q (by have := h.1; omega) (fun r hm => hr r (hs r hm))).trans (h.2 q hq hr), h'.os.trans h.os, h'.tape.trans h.tape, h'.output.trans h.output⟩
theorem Grew.below {rows : List (Option Nat)} {B : Nat} {w w1 w2 : World} (h : Below B w w1) (hg : Grew rows w1 w2) (hB : B ≤ w1.heap.size) (hr : ∀ r ∈ rows, ∀ q, r = some q → B ≤ q) : Below B w w2 :=
  ⟨hg.os.trans h.os, hg.tape.trans h.tape, hg.output.trans h.output, Nat.le_trans h.size hg.size, fun k hk => (hg.block k (by omega) (fun r hm e => by have := hr r hm k e; omega)).trans (h.block k hk)⟩
def Dj (x y : Option Nat) : Prop := x = none ∨ x ≠ y
theorem Dj.symm {x y : Option Nat} (h : Dj x y) : Dj y x := by
  rcases h with rfl | h
  · cases y with
    | none => exact .inl rfl
    | some q => exact .inr (by simp)
  · exact .inr (fun e => h e.symm)
theorem Own.grew {B : Nat} {w w' : World} {size : Nat} {v : Value} {n : Nat} {xs : List Value} {rows : List (Option Nat)} (h : Own B w size v n xs) (hg : Grew rows w w') (hd : ∀ r ∈ rows, Dj v.ownBlock r) : Own B w' size v n xs := by
  rcases h with h | ⟨g, o, cap, rfl, hc⟩
  · exact .inl h
  · refine .inr ⟨g, o, cap, rfl, hc.block (hg.2 g hc.hi (fun r hr e => ?_))⟩
    rcases hd r hr with h | h
    · cases h
    · exact h (by rw [e]; rfl)

set_option maxHeartbeats 2000000 in
set_option maxRecDepth 100000 in
theorem markLog_own (a1 : Option Addr) (n1 ca : Nat) (x1 : List Value) (a2 : Option Addr) (n2 cb : Nat) (x2 : List Value) (k k1 k2 : Nat) (B : Nat) (w : World) (e0 : k1 = k + n1) (e1 : k2 = k1 + n2) (hk0 : 0 < k) (hkm : k ≤ 1000000000000) (m0 : n1 ≤ 1048576) (m1 : n2 ≤ 1048576) (o0 : Own B w 1 (.slice a1 n1 ca) n1 x1) (o1 : Own B w 1 (.slice a2 n2 cb) n2 x2) (hd : List.Pairwise Dj [(Value.slice a1 n1 ca).ownBlock, (Value.slice a2 n2 cb).ownBlock]) :
    Calls Tryz.prog 66 #[.agg #[.slice a1 n1 ca, .slice a2 n2 cb], .int .i64 (k : Nat)] w fun e w' => e = .returned (.int .i64 (k2 : Nat)) ∧ (Own B w' 1 (.slice a1 n1 ca) n1 ((mks k n1).map Value.string) ∧ Own B w' 1 (.slice a2 n2 cb) n2 ((mks k1 n2).map Value.string)) ∧ Grew [(Value.slice a1 n1 ca).ownBlock, (Value.slice a2 n2 cb).ownBlock] w w' := by
  simp only [List.pairwise_cons, List.mem_cons, List.not_mem_nil, or_false, forall_eq, List.Pairwise.nil, and_true, false_implies, implies_true] at hd
  have d01 := hd
  have l0 := o0.row_hi
  have l1 := o1.row_hi
  have HLO : Hid (¬ (Value.slice a1 n1 ca).ownBlock = some w.heap.size ∧ ¬ (Value.slice a2 n2 cb).ownBlock = some w.heap.size) := ⟨fun hh => Nat.lt_irrefl _ (l0 _ hh), fun hh => Nat.lt_irrefl _ (l1 _ hh)⟩
  clear l0 l1
  have K0 : ∀ w1 : World, Own B w1 1 (.slice a1 n1 ca) n1 x1 → Calls Tryz.prog 67 #[.slice a1 n1 ca, .int .i64 (k : Nat)] w1 fun e w' => e = .returned (.int .i64 (k1 : Nat)) ∧ Own B w' 1 (.slice a1 n1 ca) n1 ((mks k n1).map Value.string) ∧ Grew [(Value.slice a1 n1 ca).ownBlock] w1 w' := fun w1 h1 => (markStringS_own2 a1 n1 ca k B x1 w1 (by omega) (by omega) m0 h1).mono fun e w' ⟨he, ho, hg⟩ => ⟨by rw [he, e0]; simp, ho, Grew.of hg⟩
  have HK0 := hid K0
  have K1 : ∀ w1 : World, Own B w1 1 (.slice a2 n2 cb) n2 x2 → Calls Tryz.prog 67 #[.slice a2 n2 cb, .int .i64 (k1 : Nat)] w1 fun e w' => e = .returned (.int .i64 (k2 : Nat)) ∧ Own B w' 1 (.slice a2 n2 cb) n2 ((mks k1 n2).map Value.string) ∧ Grew [(Value.slice a2 n2 cb).ownBlock] w1 w' := fun w1 h1 => (markStringS_own2 a2 n2 cb k1 B x2 w1 (by omega) (by omega) m1 h1).mono fun e w' ⟨he, ho, hg⟩ => ⟨by rw [he, e1]; simp, ho, Grew.of hg⟩
  have HK1 := hid K1
  clear K0 K1 e0 m0 e1 m1 hk0 hkm
  have Hd01 := hid d01
  clear d01
  obtain ⟨W, hW⟩ : ∃ W, W = w.alloc (.cells #[.slice a1 n1 ca, .slice a2 n2 cb] 42) := ⟨_, rfl⟩
  have G0 : Grew [(Value.slice a1 n1 ca).ownBlock, (Value.slice a2 n2 cb).ownBlock] w W := by rw [hW]; exact (Grew.refl _ _).alloc _
  have P0 : CF W w.heap.size [.slice a1 n1 ca, .slice a2 n2 cb] := by rw [hW]; exact CF.made w #[.slice a1 n1 ca, .slice a2 n2 cb] 42
  have z0 : w.heap.size < W.heap.size := by rw [hW]; simp
  have q0_0 := o0.alloc (.cells #[.slice a1 n1 ca, .slice a2 n2 cb] 42)
  have q1_0 := o1.alloc (.cells #[.slice a1 n1 ca, .slice a2 n2 cb] 42)
  rw [← hW] at q0_0 q1_0
  have HW := hid hW
  clear hW o0 o1
  go_enter Tryz.func66, Tryz.ntmps66
  go_upto_region 1 with fail
  rw [← HW.out]
  clear HW
  have y0 : W.cell? ⟨w.heap.size, 0, none⟩ = some (.slice a1 n1 ca) := (P0 0 (by simp)).1
  go_upto_region 2 with (go_at_call 67; refine (HK0.out _ q0_0).mono ?_; rintro e w1 ⟨rfl, q0_1, g1⟩)
  have P1 := P0.block (g1.2 w.heap.size (by omega) (by
    intro r hr; simp only [List.mem_cons, List.not_mem_nil, or_false] at hr; subst hr; exact HLO.out.1))
  have z1 : w.heap.size < w1.heap.size := by have := g1.1; omega
  have G1 : Grew [(Value.slice a1 n1 ca).ownBlock, (Value.slice a2 n2 cb).ownBlock] w w1 := G0.step g1 (by intro r hr; simp only [List.mem_cons, List.not_mem_nil, or_false] at hr ⊢; subst hr; simp)
  have q1_1 := q1_0.grew g1 (by
    intro r hr; simp only [List.mem_cons, List.not_mem_nil, or_false] at hr; subst hr; exact Hd01.out.symm)
  clear P0 z0 G0 g1 q0_0 q1_0 y0
  have y1 : w1.cell? ⟨w.heap.size, 1, none⟩ = some (.slice a2 n2 cb) := (P1 1 (by simp)).1
  go_upto_region 3 with (go_at_call 67; refine (HK1.out _ q1_1).mono ?_; rintro e w2 ⟨rfl, q1_2, g2⟩)
  have P2 := P1.block (g2.2 w.heap.size (by omega) (by
    intro r hr; simp only [List.mem_cons, List.not_mem_nil, or_false] at hr; subst hr; exact HLO.out.2))
  have z2 : w.heap.size < w2.heap.size := by have := g2.1; omega
  have G2 : Grew [(Value.slice a1 n1 ca).ownBlock, (Value.slice a2 n2 cb).ownBlock] w w2 := G1.step g2 (by intro r hr; simp only [List.mem_cons, List.not_mem_nil, or_false] at hr ⊢; subst hr; simp)
  have q0_2 := q0_1.grew g2 (by
    intro r hr; simp only [List.mem_cons, List.not_mem_nil, or_false] at hr; subst hr; exact Hd01.out)
  clear P1 z1 G1 g2 q0_1 q1_1 y1
  go_wp2
  go_ret
  exact ⟨rfl, ⟨q0_2, q1_2⟩, G2⟩

set_option maxHeartbeats 2000000 in
set_option maxRecDepth 100000 in
theorem markBoss_own (wk : Int) (up : Bool) (now sn ep gv : Int) (a1 : Option Addr) (n1 ca : Nat) (x1 : List Value) (a2 : Option Addr) (n2 cb : Nat) (x2 : List Value) (ar : Option Addr) (nr cr : Nat) (xr : List Value) (aj : Option Addr) (nj cj : Nat) (xj : List Value) (az : Option Addr) (ns cs : Nat) (xz : List Value) (ao : Option Addr) (no co : Nat) (xo : List Value) (k k1 k2 k3 k4 k5 k6 : Nat) (B : Nat) (w : World) (e0 : k1 = k + n1) (e1 : k2 = k1 + n2) (e2 : k3 = k2 + nr) (e3 : k4 = k3 + nj * 3) (e4 : k5 = k4 + ns * 2) (e5 : k6 = k5 + no * 3) (hk0 : 0 < k) (hkm : k ≤ 1000000000000) (m0 : n1 ≤ 1048576) (m1 : n2 ≤ 1048576) (m2 : nr ≤ 1048576) (m3 : nj ≤ 1048576) (m4 : ns ≤ 1048576) (m5 : no ≤ 1048576) (o0 : Own B w 1 (.slice a1 n1 ca) n1 x1) (o1 : Own B w 1 (.slice a2 n2 cb) n2 x2) (o2 : Own B w 1 (.slice ar nr cr) nr xr) (o3 : Own B w 3 (.slice aj nj cj) nj xj) (o4 : Own B w 2 (.slice az ns cs) ns xz) (o5 : Own B w 3 (.slice ao no co) no xo) (hd : List.Pairwise Dj [(Value.slice a1 n1 ca).ownBlock, (Value.slice a2 n2 cb).ownBlock, (Value.slice ar nr cr).ownBlock, (Value.slice aj nj cj).ownBlock, (Value.slice az ns cs).ownBlock, (Value.slice ao no co).ownBlock]) :
    Calls Tryz.prog 24 #[.agg #[.int .i64 wk, .bool up, .int .i64 now, .int .i64 sn, .int .i64 ep, .int .i64 gv, .slice a1 n1 ca, .slice a2 n2 cb, .slice ar nr cr, .slice aj nj cj, .slice az ns cs, .slice ao no co], .int .i64 (k : Nat)] w fun e w' => e = .returned (.int .i64 (k6 : Nat)) ∧ (Own B w' 1 (.slice a1 n1 ca) n1 ((mks k n1).map Value.string) ∧ Own B w' 1 (.slice a2 n2 cb) n2 ((mks k1 n2).map Value.string) ∧ Own B w' 1 (.slice ar nr cr) nr ((mks k2 nr).map Value.string) ∧ Own B w' 3 (.slice aj nj cj) nj (c3 (mk3 k3 nj)) ∧ Own B w' 2 (.slice az ns cs) ns (c2 (mk2 k4 ns)) ∧ Own B w' 3 (.slice ao no co) no (c3 (mk3 k5 no))) ∧ Grew [(Value.slice a1 n1 ca).ownBlock, (Value.slice a2 n2 cb).ownBlock, (Value.slice ar nr cr).ownBlock, (Value.slice aj nj cj).ownBlock, (Value.slice az ns cs).ownBlock, (Value.slice ao no co).ownBlock] w w' := by
  simp only [List.pairwise_cons, List.mem_cons, List.not_mem_nil, or_false, forall_eq_or_imp, forall_eq, List.Pairwise.nil, and_true, false_implies, implies_true] at hd
  obtain ⟨⟨d01, d02, d03, d04, d05⟩, ⟨d12, d13, d14, d15⟩, ⟨d23, d24, d25⟩, ⟨d34, d35⟩, d45⟩ := hd
  have l0 := o0.row_hi
  have l1 := o1.row_hi
  have l2 := o2.row_hi
  have l3 := o3.row_hi
  have l4 := o4.row_hi
  have l5 := o5.row_hi
  have HLO : Hid (¬ (Value.slice a1 n1 ca).ownBlock = some w.heap.size ∧ ¬ (Value.slice a2 n2 cb).ownBlock = some w.heap.size ∧ ¬ (Value.slice ar nr cr).ownBlock = some w.heap.size ∧ ¬ (Value.slice aj nj cj).ownBlock = some w.heap.size ∧ ¬ (Value.slice az ns cs).ownBlock = some w.heap.size ∧ ¬ (Value.slice ao no co).ownBlock = some w.heap.size) := ⟨fun hh => Nat.lt_irrefl _ (l0 _ hh), fun hh => Nat.lt_irrefl _ (l1 _ hh), fun hh => Nat.lt_irrefl _ (l2 _ hh), fun hh => Nat.lt_irrefl _ (l3 _ hh), fun hh => Nat.lt_irrefl _ (l4 _ hh), fun hh => Nat.lt_irrefl _ (l5 _ hh)⟩
  clear l0 l1 l2 l3 l4 l5
  have K0 : ∀ w1 : World, Own B w1 1 (.slice a1 n1 ca) n1 x1 → Own B w1 1 (.slice a2 n2 cb) n2 x2 → Calls Tryz.prog 66 #[.agg #[.slice a1 n1 ca, .slice a2 n2 cb], .int .i64 (k : Nat)] w1 fun e w' => e = .returned (.int .i64 (k2 : Nat)) ∧ (Own B w' 1 (.slice a1 n1 ca) n1 ((mks k n1).map Value.string) ∧ Own B w' 1 (.slice a2 n2 cb) n2 ((mks k1 n2).map Value.string)) ∧ Grew [(Value.slice a1 n1 ca).ownBlock, (Value.slice a2 n2 cb).ownBlock] w1 w' := fun w1 h1 h2 => markLog_own a1 n1 ca x1 a2 n2 cb x2 k k1 k2 B w1 e0 e1 hk0 hkm m0 m1 h1 h2 (by simp [d01])
  have HK0 := hid K0
  have K2 : ∀ w1 : World, Own B w1 1 (.slice ar nr cr) nr xr → Calls Tryz.prog 67 #[.slice ar nr cr, .int .i64 (k2 : Nat)] w1 fun e w' => e = .returned (.int .i64 (k3 : Nat)) ∧ Own B w' 1 (.slice ar nr cr) nr ((mks k2 nr).map Value.string) ∧ Grew [(Value.slice ar nr cr).ownBlock] w1 w' := fun w1 h1 => (markStringS_own2 ar nr cr k2 B xr w1 (by omega) (by omega) m2 h1).mono fun e w' ⟨he, ho, hg⟩ => ⟨by rw [he, e2]; simp, ho, Grew.of hg⟩
  have HK2 := hid K2
  have K3 : ∀ w1 : World, Own B w1 3 (.slice aj nj cj) nj xj → Calls Tryz.prog 68 #[.slice aj nj cj, .int .i64 (k3 : Nat)] w1 fun e w' => e = .returned (.int .i64 (k4 : Nat)) ∧ Own B w' 3 (.slice aj nj cj) nj (c3 (mk3 k3 nj)) ∧ Grew [(Value.slice aj nj cj).ownBlock] w1 w' := fun w1 h1 => (markJobS_own aj nj cj k3 B xj w1 (by omega) (by omega) m3 h1).mono fun e w' ⟨he, ho, hg⟩ => ⟨by rw [he, e3]; simp, ho, Grew.of hg⟩
  have HK3 := hid K3
  have K4 : ∀ w1 : World, Own B w1 2 (.slice az ns cs) ns xz → Calls Tryz.prog 69 #[.slice az ns cs, .int .i64 (k4 : Nat)] w1 fun e w' => e = .returned (.int .i64 (k5 : Nat)) ∧ Own B w' 2 (.slice az ns cs) ns (c2 (mk2 k4 ns)) ∧ Grew [(Value.slice az ns cs).ownBlock] w1 w' := fun w1 h1 => (markSeatS_own az ns cs k4 B xz w1 (by omega) (by omega) m4 h1).mono fun e w' ⟨he, ho, hg⟩ => ⟨by rw [he, e4]; simp, ho, Grew.of hg⟩
  have HK4 := hid K4
  have K5 : ∀ w1 : World, Own B w1 3 (.slice ao no co) no xo → Calls Tryz.prog 70 #[.slice ao no co, .int .i64 (k5 : Nat)] w1 fun e w' => e = .returned (.int .i64 (k6 : Nat)) ∧ Own B w' 3 (.slice ao no co) no (c3 (mk3 k5 no)) ∧ Grew [(Value.slice ao no co).ownBlock] w1 w' := fun w1 h1 => (markOwedS_own ao no co k5 B xo w1 (by omega) (by omega) m5 h1).mono fun e w' ⟨he, ho, hg⟩ => ⟨by rw [he, e5]; simp, ho, Grew.of hg⟩
  have HK5 := hid K5
  clear K0 K2 K3 K4 K5 e0 m0 e1 m1 e2 m2 e3 m3 e4 m4 e5 m5 hk0 hkm
  have Hd01 := hid d01
  have Hd02 := hid d02
  have Hd03 := hid d03
  have Hd04 := hid d04
  have Hd05 := hid d05
  have Hd12 := hid d12
  have Hd13 := hid d13
  have Hd14 := hid d14
  have Hd15 := hid d15
  have Hd23 := hid d23
  have Hd24 := hid d24
  have Hd25 := hid d25
  have Hd34 := hid d34
  have Hd35 := hid d35
  have Hd45 := hid d45
  clear d01 d02 d03 d04 d05 d12 d13 d14 d15 d23 d24 d25 d34 d35 d45
  obtain ⟨W, hW⟩ : ∃ W, W = w.alloc (.cells #[.int .i64 wk, .bool up, .int .i64 now, .int .i64 sn, .int .i64 ep, .int .i64 gv, .slice a1 n1 ca, .slice a2 n2 cb, .slice ar nr cr, .slice aj nj cj, .slice az ns cs, .slice ao no co] 47) := ⟨_, rfl⟩
  have G0 : Grew [(Value.slice a1 n1 ca).ownBlock, (Value.slice a2 n2 cb).ownBlock, (Value.slice ar nr cr).ownBlock, (Value.slice aj nj cj).ownBlock, (Value.slice az ns cs).ownBlock, (Value.slice ao no co).ownBlock] w W := by rw [hW]; exact (Grew.refl _ _).alloc _
  have P0 : CF W w.heap.size [.int .i64 wk, .bool up, .int .i64 now, .int .i64 sn, .int .i64 ep, .int .i64 gv, .slice a1 n1 ca, .slice a2 n2 cb, .slice ar nr cr, .slice aj nj cj, .slice az ns cs, .slice ao no co] := by rw [hW]; exact CF.made w #[.int .i64 wk, .bool up, .int .i64 now, .int .i64 sn, .int .i64 ep, .int .i64 gv, .slice a1 n1 ca, .slice a2 n2 cb, .slice ar nr cr, .slice aj nj cj, .slice az ns cs, .slice ao no co] 47
  have z0 : w.heap.size < W.heap.size := by rw [hW]; simp
  have q0_0 := o0.alloc (.cells #[.int .i64 wk, .bool up, .int .i64 now, .int .i64 sn, .int .i64 ep, .int .i64 gv, .slice a1 n1 ca, .slice a2 n2 cb, .slice ar nr cr, .slice aj nj cj, .slice az ns cs, .slice ao no co] 47)
  have q1_0 := o1.alloc (.cells #[.int .i64 wk, .bool up, .int .i64 now, .int .i64 sn, .int .i64 ep, .int .i64 gv, .slice a1 n1 ca, .slice a2 n2 cb, .slice ar nr cr, .slice aj nj cj, .slice az ns cs, .slice ao no co] 47)
  have q2_0 := o2.alloc (.cells #[.int .i64 wk, .bool up, .int .i64 now, .int .i64 sn, .int .i64 ep, .int .i64 gv, .slice a1 n1 ca, .slice a2 n2 cb, .slice ar nr cr, .slice aj nj cj, .slice az ns cs, .slice ao no co] 47)
  have q3_0 := o3.alloc (.cells #[.int .i64 wk, .bool up, .int .i64 now, .int .i64 sn, .int .i64 ep, .int .i64 gv, .slice a1 n1 ca, .slice a2 n2 cb, .slice ar nr cr, .slice aj nj cj, .slice az ns cs, .slice ao no co] 47)
  have q4_0 := o4.alloc (.cells #[.int .i64 wk, .bool up, .int .i64 now, .int .i64 sn, .int .i64 ep, .int .i64 gv, .slice a1 n1 ca, .slice a2 n2 cb, .slice ar nr cr, .slice aj nj cj, .slice az ns cs, .slice ao no co] 47)
  have q5_0 := o5.alloc (.cells #[.int .i64 wk, .bool up, .int .i64 now, .int .i64 sn, .int .i64 ep, .int .i64 gv, .slice a1 n1 ca, .slice a2 n2 cb, .slice ar nr cr, .slice aj nj cj, .slice az ns cs, .slice ao no co] 47)
  rw [← hW] at q0_0 q1_0 q2_0 q3_0 q4_0 q5_0
  have HW := hid hW
  clear hW o0 o1 o2 o3 o4 o5
  go_enter Tryz.func24, Tryz.ntmps24
  go_upto_region 1 with fail
  rw [← HW.out]
  clear HW
  have y6 : W.cell? ⟨w.heap.size, 6, none⟩ = some (.slice a1 n1 ca) := (P0 6 (by simp)).1
  have y7 : W.cell? ⟨w.heap.size, 7, none⟩ = some (.slice a2 n2 cb) := (P0 7 (by simp)).1
  go_upto_region 2 with (go_at_call 66; refine (HK0.out _ q0_0 q1_0).mono ?_; rintro e w1 ⟨rfl, ⟨q0_1, q1_1⟩, g1⟩)
  have P1 := P0.block (g1.2 w.heap.size (by omega) (by
    intro r hr; simp only [List.mem_cons, List.not_mem_nil, or_false] at hr; rcases hr with rfl | rfl
    · exact HLO.out.1
    · exact HLO.out.2.1))
  have z1 : w.heap.size < w1.heap.size := by have := g1.1; omega
  have G1 : Grew [(Value.slice a1 n1 ca).ownBlock, (Value.slice a2 n2 cb).ownBlock, (Value.slice ar nr cr).ownBlock, (Value.slice aj nj cj).ownBlock, (Value.slice az ns cs).ownBlock, (Value.slice ao no co).ownBlock] w w1 := G0.step g1 (by intro r hr; simp only [List.mem_cons, List.not_mem_nil, or_false] at hr ⊢; rcases hr with rfl | rfl <;> simp)
  have q2_1 := q2_0.grew g1 (by
    intro r hr; simp only [List.mem_cons, List.not_mem_nil, or_false] at hr; rcases hr with rfl | rfl
    · exact Hd02.out.symm
    · exact Hd12.out.symm)
  have q3_1 := q3_0.grew g1 (by
    intro r hr; simp only [List.mem_cons, List.not_mem_nil, or_false] at hr; rcases hr with rfl | rfl
    · exact Hd03.out.symm
    · exact Hd13.out.symm)
  have q4_1 := q4_0.grew g1 (by
    intro r hr; simp only [List.mem_cons, List.not_mem_nil, or_false] at hr; rcases hr with rfl | rfl
    · exact Hd04.out.symm
    · exact Hd14.out.symm)
  have q5_1 := q5_0.grew g1 (by
    intro r hr; simp only [List.mem_cons, List.not_mem_nil, or_false] at hr; rcases hr with rfl | rfl
    · exact Hd05.out.symm
    · exact Hd15.out.symm)
  clear P0 z0 G0 g1 q0_0 q1_0 q2_0 q3_0 q4_0 q5_0 y6 y7
  have y8 : w1.cell? ⟨w.heap.size, 8, none⟩ = some (.slice ar nr cr) := (P1 8 (by simp)).1
  go_upto_region 3 with (go_at_call 67; refine (HK2.out _ q2_1).mono ?_; rintro e w2 ⟨rfl, q2_2, g2⟩)
  have P2 := P1.block (g2.2 w.heap.size (by omega) (by
    intro r hr; simp only [List.mem_cons, List.not_mem_nil, or_false] at hr; subst hr; exact HLO.out.2.2.1))
  have z2 : w.heap.size < w2.heap.size := by have := g2.1; omega
  have G2 : Grew [(Value.slice a1 n1 ca).ownBlock, (Value.slice a2 n2 cb).ownBlock, (Value.slice ar nr cr).ownBlock, (Value.slice aj nj cj).ownBlock, (Value.slice az ns cs).ownBlock, (Value.slice ao no co).ownBlock] w w2 := G1.step g2 (by intro r hr; simp only [List.mem_cons, List.not_mem_nil, or_false] at hr ⊢; subst hr; simp)
  have q0_2 := q0_1.grew g2 (by
    intro r hr; simp only [List.mem_cons, List.not_mem_nil, or_false] at hr; subst hr; exact Hd02.out)
  have q1_2 := q1_1.grew g2 (by
    intro r hr; simp only [List.mem_cons, List.not_mem_nil, or_false] at hr; subst hr; exact Hd12.out)
  have q3_2 := q3_1.grew g2 (by
    intro r hr; simp only [List.mem_cons, List.not_mem_nil, or_false] at hr; subst hr; exact Hd23.out.symm)
  have q4_2 := q4_1.grew g2 (by
    intro r hr; simp only [List.mem_cons, List.not_mem_nil, or_false] at hr; subst hr; exact Hd24.out.symm)
  have q5_2 := q5_1.grew g2 (by
    intro r hr; simp only [List.mem_cons, List.not_mem_nil, or_false] at hr; subst hr; exact Hd25.out.symm)
  clear P1 z1 G1 g2 q0_1 q1_1 q2_1 q3_1 q4_1 q5_1 y8
  have y9 : w2.cell? ⟨w.heap.size, 9, none⟩ = some (.slice aj nj cj) := (P2 9 (by simp)).1
  go_upto_region 4 with (go_at_call 68; refine (HK3.out _ q3_2).mono ?_; rintro e w3 ⟨rfl, q3_3, g3⟩)
  have P3 := P2.block (g3.2 w.heap.size (by omega) (by
    intro r hr; simp only [List.mem_cons, List.not_mem_nil, or_false] at hr; subst hr; exact HLO.out.2.2.2.1))
  have z3 : w.heap.size < w3.heap.size := by have := g3.1; omega
  have G3 : Grew [(Value.slice a1 n1 ca).ownBlock, (Value.slice a2 n2 cb).ownBlock, (Value.slice ar nr cr).ownBlock, (Value.slice aj nj cj).ownBlock, (Value.slice az ns cs).ownBlock, (Value.slice ao no co).ownBlock] w w3 := G2.step g3 (by intro r hr; simp only [List.mem_cons, List.not_mem_nil, or_false] at hr ⊢; subst hr; simp)
  have q0_3 := q0_2.grew g3 (by
    intro r hr; simp only [List.mem_cons, List.not_mem_nil, or_false] at hr; subst hr; exact Hd03.out)
  have q1_3 := q1_2.grew g3 (by
    intro r hr; simp only [List.mem_cons, List.not_mem_nil, or_false] at hr; subst hr; exact Hd13.out)
  have q2_3 := q2_2.grew g3 (by
    intro r hr; simp only [List.mem_cons, List.not_mem_nil, or_false] at hr; subst hr; exact Hd23.out)
  have q4_3 := q4_2.grew g3 (by
    intro r hr; simp only [List.mem_cons, List.not_mem_nil, or_false] at hr; subst hr; exact Hd34.out.symm)
  have q5_3 := q5_2.grew g3 (by
    intro r hr; simp only [List.mem_cons, List.not_mem_nil, or_false] at hr; subst hr; exact Hd35.out.symm)
  clear P2 z2 G2 g3 q0_2 q1_2 q2_2 q3_2 q4_2 q5_2 y9
  have y10 : w3.cell? ⟨w.heap.size, 10, none⟩ = some (.slice az ns cs) := (P3 10 (by simp)).1
  go_upto_region 5 with (go_at_call 69; refine (HK4.out _ q4_3).mono ?_; rintro e w4 ⟨rfl, q4_4, g4⟩)
  have P4 := P3.block (g4.2 w.heap.size (by omega) (by
    intro r hr; simp only [List.mem_cons, List.not_mem_nil, or_false] at hr; subst hr; exact HLO.out.2.2.2.2.1))
  have z4 : w.heap.size < w4.heap.size := by have := g4.1; omega
  have G4 : Grew [(Value.slice a1 n1 ca).ownBlock, (Value.slice a2 n2 cb).ownBlock, (Value.slice ar nr cr).ownBlock, (Value.slice aj nj cj).ownBlock, (Value.slice az ns cs).ownBlock, (Value.slice ao no co).ownBlock] w w4 := G3.step g4 (by intro r hr; simp only [List.mem_cons, List.not_mem_nil, or_false] at hr ⊢; subst hr; simp)
  have q0_4 := q0_3.grew g4 (by
    intro r hr; simp only [List.mem_cons, List.not_mem_nil, or_false] at hr; subst hr; exact Hd04.out)
  have q1_4 := q1_3.grew g4 (by
    intro r hr; simp only [List.mem_cons, List.not_mem_nil, or_false] at hr; subst hr; exact Hd14.out)
  have q2_4 := q2_3.grew g4 (by
    intro r hr; simp only [List.mem_cons, List.not_mem_nil, or_false] at hr; subst hr; exact Hd24.out)
  have q3_4 := q3_3.grew g4 (by
    intro r hr; simp only [List.mem_cons, List.not_mem_nil, or_false] at hr; subst hr; exact Hd34.out)
  have q5_4 := q5_3.grew g4 (by
    intro r hr; simp only [List.mem_cons, List.not_mem_nil, or_false] at hr; subst hr; exact Hd45.out.symm)
  clear P3 z3 G3 g4 q0_3 q1_3 q2_3 q3_3 q4_3 q5_3 y10
  have y11 : w4.cell? ⟨w.heap.size, 11, none⟩ = some (.slice ao no co) := (P4 11 (by simp)).1
  go_upto_region 6 with (go_at_call 70; refine (HK5.out _ q5_4).mono ?_; rintro e w5 ⟨rfl, q5_5, g5⟩)
  have P5 := P4.block (g5.2 w.heap.size (by omega) (by
    intro r hr; simp only [List.mem_cons, List.not_mem_nil, or_false] at hr; subst hr; exact HLO.out.2.2.2.2.2))
  have z5 : w.heap.size < w5.heap.size := by have := g5.1; omega
  have G5 : Grew [(Value.slice a1 n1 ca).ownBlock, (Value.slice a2 n2 cb).ownBlock, (Value.slice ar nr cr).ownBlock, (Value.slice aj nj cj).ownBlock, (Value.slice az ns cs).ownBlock, (Value.slice ao no co).ownBlock] w w5 := G4.step g5 (by intro r hr; simp only [List.mem_cons, List.not_mem_nil, or_false] at hr ⊢; subst hr; simp)
  have q0_5 := q0_4.grew g5 (by
    intro r hr; simp only [List.mem_cons, List.not_mem_nil, or_false] at hr; subst hr; exact Hd05.out)
  have q1_5 := q1_4.grew g5 (by
    intro r hr; simp only [List.mem_cons, List.not_mem_nil, or_false] at hr; subst hr; exact Hd15.out)
  have q2_5 := q2_4.grew g5 (by
    intro r hr; simp only [List.mem_cons, List.not_mem_nil, or_false] at hr; subst hr; exact Hd25.out)
  have q3_5 := q3_4.grew g5 (by
    intro r hr; simp only [List.mem_cons, List.not_mem_nil, or_false] at hr; subst hr; exact Hd35.out)
  have q4_5 := q4_4.grew g5 (by
    intro r hr; simp only [List.mem_cons, List.not_mem_nil, or_false] at hr; subst hr; exact Hd45.out)
  clear P4 z4 G4 g5 q0_4 q1_4 q2_4 q3_4 q4_4 q5_4 y11
  go_wp2
  go_ret
  exact ⟨rfl, ⟨q0_5, q1_5, q2_5, q3_5, q4_5, q5_5⟩, G5⟩

set_option maxHeartbeats 2000000 in
set_option maxRecDepth 100000 in
theorem heldLog_any (a1 : Option Addr) (b1 o1 n1 ca : Nat) (a2 : Option Addr) (b2 o2 n2 cb : Nat) (k k1 k2 : Nat) (w : World) (e0 : k1 = k + n1) (e1 : k2 = k1 + n2) (hk0 : 0 < k) (hkm : k ≤ 1000000000000) (m0 : n1 ≤ 1048576) (m1 : n2 ≤ 1048576) (q0 : StrsAt w a1 b1 o1 n1 (mks k n1)) (q1 : StrsAt w a2 b2 o2 n2 (mks k1 n2)) :
    Calls Tryz.prog 72 #[.agg #[.slice a1 n1 ca, .slice a2 n2 cb], .int .i64 (k : Nat)] w fun e w' => e = .returned (.int .i64 (k2 : Nat)) ∧ Below w.heap.size w w' := by
  have K0 : ∀ w1 : World, StrsAt w1 a1 b1 o1 n1 (mks k n1) → Calls Tryz.prog 73 #[.slice a1 n1 ca, .int .i64 (k : Nat)] w1 fun e w' => e = .returned (.int .i64 (k1 : Nat)) ∧ Below w1.heap.size w1 w' := fun w1 h1 => (heldStringS_any a1 b1 o1 n1 ca k w1 (by omega) (by omega) m0 h1).mono fun e w' ⟨he, hw⟩ => ⟨by rw [he, e0]; simp, hw⟩
  have HK0 := hid K0
  have K1 : ∀ w1 : World, StrsAt w1 a2 b2 o2 n2 (mks k1 n2) → Calls Tryz.prog 73 #[.slice a2 n2 cb, .int .i64 (k1 : Nat)] w1 fun e w' => e = .returned (.int .i64 (k2 : Nat)) ∧ Below w1.heap.size w1 w' := fun w1 h1 => (heldStringS_any a2 b2 o2 n2 cb k1 w1 (by omega) (by omega) m1 h1).mono fun e w' ⟨he, hw⟩ => ⟨by rw [he, e1]; simp, hw⟩
  have HK1 := hid K1
  clear K0 K1 e0 m0 e1 m1 hk0 hkm
  obtain ⟨W, hW⟩ : ∃ W, W = w.alloc (.cells #[.slice a1 n1 ca, .slice a2 n2 cb] 42) := ⟨_, rfl⟩
  have B0 : Below w.heap.size w W := by rw [hW]; exact (Below.refl _ _).alloc (Nat.le_refl _) _
  have P0 : CF W w.heap.size [.slice a1 n1 ca, .slice a2 n2 cb] := by rw [hW]; exact CF.made w #[.slice a1 n1 ca, .slice a2 n2 cb] 42
  have z0 : w.heap.size < W.heap.size := by rw [hW]; simp
  have HW := hid hW
  clear hW
  go_enter Tryz.func72, Tryz.ntmps72
  go_upto_region 1 with fail
  rw [← HW.out]
  clear HW
  have y0 : W.cell? ⟨w.heap.size, 0, none⟩ = some (.slice a1 n1 ca) := (P0 0 (by simp)).1
  have t0 : ¬ ((k1 : Nat) : Int) < 0 := by omega
  go_upto_region 4 with (go_at_call 73; refine (HK0.out _ (q0.below' B0)).mono ?_; rintro e w1 ⟨rfl, hb1⟩)
  have P1 := P0.block (hb1.block w.heap.size (by omega))
  have z1 : w.heap.size < w1.heap.size := by have := hb1.size; omega
  have B1 := B0.trans (hb1.mono B0.size)
  clear P0 z0 B0 hb1 t0 y0
  have y1 : w1.cell? ⟨w.heap.size, 1, none⟩ = some (.slice a2 n2 cb) := (P1 1 (by simp)).1
  have t1 : ¬ ((k2 : Nat) : Int) < 0 := by omega
  go_upto_region 7 with (go_at_call 73; refine (HK1.out _ (q1.below' B1)).mono ?_; rintro e w2 ⟨rfl, hb2⟩)
  have P2 := P1.block (hb2.block w.heap.size (by omega))
  have z2 : w.heap.size < w2.heap.size := by have := hb2.size; omega
  have B2 := B1.trans (hb2.mono B1.size)
  clear P1 z1 B1 hb2 t1 y1
  go_wp2
  go_ret
  exact ⟨rfl, B2⟩

set_option maxHeartbeats 2000000 in
set_option maxRecDepth 100000 in
theorem heldBoss_any (wk : Int) (up : Bool) (now sn ep gv : Int) (a1 : Option Addr) (b1 o1 n1 ca : Nat) (a2 : Option Addr) (b2 o2 n2 cb : Nat) (ar : Option Addr) (br or' nr cr : Nat) (aj : Option Addr) (bj oj nj cj : Nat) (az : Option Addr) (bs os' ns cs : Nat) (ao : Option Addr) (bo oo no co : Nat) (k k1 k2 k3 k4 k5 k6 : Nat) (w : World) (e0 : k1 = k + n1) (e1 : k2 = k1 + n2) (e2 : k3 = k2 + nr) (e3 : k4 = k3 + nj * 3) (e4 : k5 = k4 + ns * 2) (e5 : k6 = k5 + no * 3) (hk0 : 0 < k) (hkm : k ≤ 1000000000000) (m0 : n1 ≤ 1048576) (m1 : n2 ≤ 1048576) (m2 : nr ≤ 1048576) (m3 : nj ≤ 1048576) (m4 : ns ≤ 1048576) (m5 : no ≤ 1048576) (q0 : StrsAt w a1 b1 o1 n1 (mks k n1)) (q1 : StrsAt w a2 b2 o2 n2 (mks k1 n2)) (q2 : StrsAt w ar br or' nr (mks k2 nr)) (q3 : T3At w aj bj oj nj (mk3 k3 nj)) (q4 : T2At w az bs os' ns (mk2 k4 ns)) (q5 : T3At w ao bo oo no (mk3 k5 no)) :
    Calls Tryz.prog 26 #[.agg #[.int .i64 wk, .bool up, .int .i64 now, .int .i64 sn, .int .i64 ep, .int .i64 gv, .slice a1 n1 ca, .slice a2 n2 cb, .slice ar nr cr, .slice aj nj cj, .slice az ns cs, .slice ao no co], .int .i64 (k : Nat)] w fun e w' => e = .returned (.int .i64 (k6 : Nat)) ∧ Below w.heap.size w w' := by
  have K0 : ∀ w1 : World, StrsAt w1 a1 b1 o1 n1 (mks k n1) → StrsAt w1 a2 b2 o2 n2 (mks k1 n2) → Calls Tryz.prog 72 #[.agg #[.slice a1 n1 ca, .slice a2 n2 cb], .int .i64 (k : Nat)] w1 fun e w' => e = .returned (.int .i64 (k2 : Nat)) ∧ Below w1.heap.size w1 w' := fun w1 h1 h2 => heldLog_any a1 b1 o1 n1 ca a2 b2 o2 n2 cb k k1 k2 w1 e0 e1 hk0 hkm m0 m1 h1 h2
  have HK0 := hid K0
  have K2 : ∀ w1 : World, StrsAt w1 ar br or' nr (mks k2 nr) → Calls Tryz.prog 73 #[.slice ar nr cr, .int .i64 (k2 : Nat)] w1 fun e w' => e = .returned (.int .i64 (k3 : Nat)) ∧ Below w1.heap.size w1 w' := fun w1 h1 => (heldStringS_any ar br or' nr cr k2 w1 (by omega) (by omega) m2 h1).mono fun e w' ⟨he, hw⟩ => ⟨by rw [he, e2]; simp, hw⟩
  have HK2 := hid K2
  have K3 : ∀ w1 : World, T3At w1 aj bj oj nj (mk3 k3 nj) → Calls Tryz.prog 74 #[.slice aj nj cj, .int .i64 (k3 : Nat)] w1 fun e w' => e = .returned (.int .i64 (k4 : Nat)) ∧ Below w1.heap.size w1 w' := fun w1 h1 => (heldJobS_any aj bj oj nj cj k3 w1 (by omega) (by omega) m3 h1).mono fun e w' ⟨he, hw⟩ => ⟨by rw [he, e3]; simp, by rw [hw]; exact Below.refl _ _⟩
  have HK3 := hid K3
  have K4 : ∀ w1 : World, T2At w1 az bs os' ns (mk2 k4 ns) → Calls Tryz.prog 75 #[.slice az ns cs, .int .i64 (k4 : Nat)] w1 fun e w' => e = .returned (.int .i64 (k5 : Nat)) ∧ Below w1.heap.size w1 w' := fun w1 h1 => (heldSeatS_any az bs os' ns cs k4 w1 (by omega) (by omega) m4 h1).mono fun e w' ⟨he, hw⟩ => ⟨by rw [he, e4]; simp, by rw [hw]; exact Below.refl _ _⟩
  have HK4 := hid K4
  have K5 : ∀ w1 : World, T3At w1 ao bo oo no (mk3 k5 no) → Calls Tryz.prog 76 #[.slice ao no co, .int .i64 (k5 : Nat)] w1 fun e w' => e = .returned (.int .i64 (k6 : Nat)) ∧ Below w1.heap.size w1 w' := fun w1 h1 => (heldOwedS_any ao bo oo no co k5 w1 (by omega) (by omega) m5 h1).mono fun e w' ⟨he, hw⟩ => ⟨by rw [he, e5]; simp, by rw [hw]; exact Below.refl _ _⟩
  have HK5 := hid K5
  clear K0 K2 K3 K4 K5 e0 m0 e1 m1 e2 m2 e3 m3 e4 m4 e5 m5 hk0 hkm
  obtain ⟨W, hW⟩ : ∃ W, W = w.alloc (.cells #[.int .i64 wk, .bool up, .int .i64 now, .int .i64 sn, .int .i64 ep, .int .i64 gv, .slice a1 n1 ca, .slice a2 n2 cb, .slice ar nr cr, .slice aj nj cj, .slice az ns cs, .slice ao no co] 47) := ⟨_, rfl⟩
  have B0 : Below w.heap.size w W := by rw [hW]; exact (Below.refl _ _).alloc (Nat.le_refl _) _
  have P0 : CF W w.heap.size [.int .i64 wk, .bool up, .int .i64 now, .int .i64 sn, .int .i64 ep, .int .i64 gv, .slice a1 n1 ca, .slice a2 n2 cb, .slice ar nr cr, .slice aj nj cj, .slice az ns cs, .slice ao no co] := by rw [hW]; exact CF.made w #[.int .i64 wk, .bool up, .int .i64 now, .int .i64 sn, .int .i64 ep, .int .i64 gv, .slice a1 n1 ca, .slice a2 n2 cb, .slice ar nr cr, .slice aj nj cj, .slice az ns cs, .slice ao no co] 47
  have z0 : w.heap.size < W.heap.size := by rw [hW]; simp
  have HW := hid hW
  clear hW
  go_enter Tryz.func26, Tryz.ntmps26
  go_upto_region 1 with fail
  rw [← HW.out]
  clear HW
  have y6 : W.cell? ⟨w.heap.size, 6, none⟩ = some (.slice a1 n1 ca) := (P0 6 (by simp)).1
  have y7 : W.cell? ⟨w.heap.size, 7, none⟩ = some (.slice a2 n2 cb) := (P0 7 (by simp)).1
  have t0 : ¬ ((k2 : Nat) : Int) < 0 := by omega
  go_upto_region 4 with (go_at_call 72; refine (HK0.out _ (q0.below' B0) (q1.below' B0)).mono ?_; rintro e w1 ⟨rfl, hb1⟩)
  have P1 := P0.block (hb1.block w.heap.size (by omega))
  have z1 : w.heap.size < w1.heap.size := by have := hb1.size; omega
  have B1 := B0.trans (hb1.mono B0.size)
  clear P0 z0 B0 hb1 t0 y6 y7
  have y8 : w1.cell? ⟨w.heap.size, 8, none⟩ = some (.slice ar nr cr) := (P1 8 (by simp)).1
  have t1 : ¬ ((k3 : Nat) : Int) < 0 := by omega
  go_upto_region 7 with (go_at_call 73; refine (HK2.out _ (q2.below' B1)).mono ?_; rintro e w2 ⟨rfl, hb2⟩)
  have P2 := P1.block (hb2.block w.heap.size (by omega))
  have z2 : w.heap.size < w2.heap.size := by have := hb2.size; omega
  have B2 := B1.trans (hb2.mono B1.size)
  clear P1 z1 B1 hb2 t1 y8
  have y9 : w2.cell? ⟨w.heap.size, 9, none⟩ = some (.slice aj nj cj) := (P2 9 (by simp)).1
  have t2 : ¬ ((k4 : Nat) : Int) < 0 := by omega
  go_upto_region 10 with (go_at_call 74; refine (HK3.out _ (q3.below' B2)).mono ?_; rintro e w3 ⟨rfl, hb3⟩)
  have P3 := P2.block (hb3.block w.heap.size (by omega))
  have z3 : w.heap.size < w3.heap.size := by have := hb3.size; omega
  have B3 := B2.trans (hb3.mono B2.size)
  clear P2 z2 B2 hb3 t2 y9
  have y10 : w3.cell? ⟨w.heap.size, 10, none⟩ = some (.slice az ns cs) := (P3 10 (by simp)).1
  have t3 : ¬ ((k5 : Nat) : Int) < 0 := by omega
  go_upto_region 13 with (go_at_call 75; refine (HK4.out _ (q4.below' B3)).mono ?_; rintro e w4 ⟨rfl, hb4⟩)
  have P4 := P3.block (hb4.block w.heap.size (by omega))
  have z4 : w.heap.size < w4.heap.size := by have := hb4.size; omega
  have B4 := B3.trans (hb4.mono B3.size)
  clear P3 z3 B3 hb4 t3 y10
  have y11 : w4.cell? ⟨w.heap.size, 11, none⟩ = some (.slice ao no co) := (P4 11 (by simp)).1
  have t4 : ¬ ((k6 : Nat) : Int) < 0 := by omega
  go_upto_region 16 with (go_at_call 76; refine (HK5.out _ (q5.below' B4)).mono ?_; rintro e w5 ⟨rfl, hb5⟩)
  have P5 := P4.block (hb5.block w.heap.size (by omega))
  have z5 : w.heap.size < w5.heap.size := by have := hb5.size; omega
  have B5 := B4.trans (hb5.mono B4.size)
  clear P4 z4 B4 hb5 t4 y11
  go_wp2
  go_ret
  exact ⟨rfl, B5⟩

end Go.Proofs.YthopfmhagddhgaaGreat
