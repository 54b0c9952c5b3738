import Derived.Test.YtbfamabkbkpmpaaGreatQBol
import Derived.Test.YtbfamabkbkpmpaaGreatQMark
import Derived.Test.YtbfamabkbkpmpaaGreatQCel
namespace Go.Proofs.YtbfamabkbkpmpaaGreat
open Go.RowKit

def c3 (J : List Tr) : List Value := J.flatMap fun x => [.int .i64 x.1, .int .i64 x.2.1, .int .i64 x.2.2]
def c2 (S : List (Bool × Int)) : List Value := S.flatMap fun x => [.bool x.1, .int .i64 x.2]
theorem c3_length (J : List Tr) : (c3 J).length = J.length * 3 := by
  induction J with
  | nil => rfl
  | cons x r ih => simp only [c3, List.flatMap_cons, List.length_append, List.length_cons] at ih ⊢; rw [ih]; simp; omega
theorem c2_length (J : List (Bool × Int)) : (c2 J).length = J.length * 2 := by
  induction J with
  | nil => rfl
  | cons x r ih => simp only [c2, List.flatMap_cons, List.length_append, List.length_cons] at ih ⊢; rw [ih]; simp; omega
theorem c3_get (J : List Tr) : ∀ (j r : Nat), j < J.length → r < 3 → (c3 J)[j * 3 + r]? = [Value.int .i64 (t3 J j).1, .int .i64 (t3 J j).2.1, .int .i64 (t3 J j).2.2][r]? := by
  induction J with
  | nil => intro j r h; simp at h
  | cons x t ih =>
    intro j r hj hr
    have e : c3 (x :: t) = [Value.int .i64 x.1, .int .i64 x.2.1, .int .i64 x.2.2] ++ c3 t := rfl
    rw [e]
    cases j with
    | zero => rw [List.getElem?_append_left (by simp; omega), Nat.zero_mul, Nat.zero_add]; rfl
    | succ j => rw [List.getElem?_append_right (by simp; omega), show (j + 1) * 3 + r - [Value.int .i64 x.1, .int .i64 x.2.1, .int .i64 x.2.2].length = j * 3 + r by simp; omega, ih j r (by simpa using hj) hr]; simp [t3]
theorem c2_get (J : List (Bool × Int)) : ∀ (j r : Nat), j < J.length → r < 2 → (c2 J)[j * 2 + r]? = [Value.bool (t2 J j).1, .int .i64 (t2 J j).2][r]? := by
  induction J with
  | nil => intro j r h; simp at h
  | cons x t ih =>
    intro j r hj hr
    have e : c2 (x :: t) = [Value.bool x.1, .int .i64 x.2] ++ c2 t := rfl
    rw [e]
    cases j with
    | zero => rw [List.getElem?_append_left (by simp; omega), Nat.zero_mul, Nat.zero_add]; rfl
    | succ j => rw [List.getElem?_append_right (by simp; omega), show (j + 1) * 2 + r - [Value.bool x.1, .int .i64 x.2].length = j * 2 + r by simp; omega, ih j r (by simpa using hj) hr]; simp [t2]
theorem c3_of {J : List Tr} {xs : List Value} (hl : xs.length = J.length * 3) (h : ∀ j, j < J.length → xs[j * 3]? = some (.int .i64 (t3 J j).1) ∧ xs[j * 3 + 1]? = some (.int .i64 (t3 J j).2.1) ∧ xs[j * 3 + 2]? = some (.int .i64 (t3 J j).2.2)) : xs = c3 J := by
  apply List.ext_getElem?
  intro i
  by_cases hi : i < J.length * 3
  · obtain ⟨h0, h1, h2⟩ := h (i / 3) (by omega)
    have hr : i % 3 = 0 ∨ i % 3 = 1 ∨ i % 3 = 2 := by omega
    have hg := c3_get J (i / 3) (i % 3) (by omega) (by omega)
    rw [show i / 3 * 3 + i % 3 = i by omega] at hg
    rw [hg]
    rcases hr with e | e | e
    · rw [show i / 3 * 3 = i by omega] at h0; rw [h0, e]; rfl
    · rw [show i / 3 * 3 + 1 = i by omega] at h1; rw [h1, e]; rfl
    · rw [show i / 3 * 3 + 2 = i by omega] at h2; rw [h2, e]; rfl
  · rw [List.getElem?_eq_none (by omega), List.getElem?_eq_none (by rw [c3_length]; omega)]
theorem c2_of {J : List (Bool × Int)} {xs : List Value} (hl : xs.length = J.length * 2) (h : ∀ j, j < J.length → xs[j * 2]? = some (.bool (t2 J j).1) ∧ xs[j * 2 + 1]? = some (.int .i64 (t2 J j).2)) : xs = c2 J := by
  apply List.ext_getElem?
  intro i
  by_cases hi : i < J.length * 2
  · obtain ⟨h0, h1⟩ := h (i / 2) (by omega)
    have hr : i % 2 = 0 ∨ i % 2 = 1 := by omega
    have hg := c2_get J (i / 2) (i % 2) (by omega) (by omega)
    rw [show i / 2 * 2 + i % 2 = i by omega] at hg
    rw [hg]
    rcases hr with e | e
    · rw [show i / 2 * 2 = i by omega] at h0; rw [h0, e]; rfl
    · rw [show i / 2 * 2 + 1 = i by omega] at h1; rw [h1, e]; rfl
  · rw [List.getElem?_eq_none (by omega), List.getElem?_eq_none (by rw [c2_length]; omega)]
def Ok3 (J : List Tr) : Prop := ∀ j, j < J.length → I64 (t3 J j).1 ∧ I64 (t3 J j).2.1 ∧ I64 (t3 J j).2.2
def Ok2 (J : List (Bool × Int)) : Prop := ∀ j, j < J.length → I64 (t2 J j).2
theorem T3At.ofOwn {B : Nat} {w : World} {g o cap n : Nat} {J : List Tr} (h : OwnC B w 3 g o cap n (c3 J)) (hk : Ok3 J) : T3At w (some ⟨g, o, none⟩) g o n J := by
  have hl : J.length = n := by have := h.len; rw [c3_length] at this; omega
  refine ⟨fun _ => rfl, hl, Nat.le_trans h.le h.max, fun _ => h.hi, fun j hj => ?_, fun j hj => ?_, fun j hj => ?_, fun j hj => hk j (by omega)⟩
  · have := h.holds (j * 3 + 0) (by omega); rw [c3_get J j 0 (by omega) (by omega)] at this; exact this
  · have := h.holds (j * 3 + 1) (by omega); rw [c3_get J j 1 (by omega) (by omega)] at this; rw [Nat.add_assoc]; exact this
  · have := h.holds (j * 3 + 2) (by omega); rw [c3_get J j 2 (by omega) (by omega)] at this; rw [Nat.add_assoc]; exact this
theorem T2At.ofOwn {B : Nat} {w : World} {g o cap n : Nat} {J : List (Bool × Int)} (h : OwnC B w 2 g o cap n (c2 J)) (hk : Ok2 J) : T2At w (some ⟨g, o, none⟩) g o n J := by
  have hl : J.length = n := by have := h.len; rw [c2_length] at this; omega
  refine ⟨fun _ => rfl, hl, Nat.le_trans h.le h.max, fun _ => h.hi, fun j hj => ?_, fun j hj => ?_, fun j hj => hk j (by omega)⟩
  · have := h.holds (j * 2 + 0) (by omega); rw [c2_get J j 0 (by omega) (by omega)] at this; exact this
  · have := h.holds (j * 2 + 1) (by omega); rw [c2_get J j 1 (by omega) (by omega)] at this; rw [Nat.add_assoc]; exact this
theorem Own.t3At {B : Nat} {w : World} {a : Option Addr} {n c : Nat} {J : List Tr} (h : Own B w 3 (.slice a n c) n (c3 J)) (hk : Ok3 J) : ∃ b o, T3At w a b o n J ∧ (0 < n → B ≤ b) := by
  rcases h with ⟨hv, rfl, hx⟩ | ⟨g, o, cap, hv, hc⟩
  · injection hv with h1 _ _
    have : J = [] := List.eq_nil_of_length_eq_zero (by have := congrArg List.length hx; rw [c3_length, List.length_nil] at this; omega)
    subst this
    exact ⟨0, 0, ⟨fun h => absurd h (by omega), rfl, Nat.zero_le _, fun h => absurd h (by omega), fun j hj => absurd hj (by omega), fun j hj => absurd hj (by omega), fun j hj => absurd hj (by omega), fun j hj => absurd hj (by omega)⟩, fun h => absurd h (by omega)⟩
  · injection hv with h1 _ _
    subst h1
    exact ⟨g, o, T3At.ofOwn hc hk, fun _ => hc.lo⟩
theorem Own.t2At {B : Nat} {w : World} {a : Option Addr} {n c : Nat} {J : List (Bool × Int)} (h : Own B w 2 (.slice a n c) n (c2 J)) (hk : Ok2 J) : ∃ b o, T2At w a b o n J ∧ (0 < n → B ≤ b) := by
  rcases h with ⟨hv, rfl, hx⟩ | ⟨g, o, cap, hv, hc⟩
  · injection hv with h1 _ _
    have : J = [] := List.eq_nil_of_length_eq_zero (by have := congrArg List.length hx; rw [c2_length, List.length_nil] at this; omega)
    subst this
    exact ⟨0, 0, ⟨fun h => absurd h (by omega), rfl, Nat.zero_le _, fun h => absurd h (by omega), fun j hj => absurd hj (by omega), fun j hj => absurd hj (by omega), fun j hj => absurd hj (by omega)⟩, fun h => absurd h (by omega)⟩
  · injection hv with h1 _ _
    subst h1
    exact ⟨g, o, T2At.ofOwn hc hk, fun _ => hc.lo⟩
def mk3 (k n : Nat) : List Tr := (List.range n).map fun (i : Nat) => ((k : Int) + i * 3, (k : Int) + i * 3 + 1, (k : Int) + i * 3 + 1 + 1)
def mk2 (k n : Nat) : List (Bool × Int) := (List.range n).map fun (i : Nat) => (((k : Int) + i * 2) % 3 == 0, (k : Int) + i * 2 + 1)
theorem mk3_length (k n : Nat) : (mk3 k n).length = n := by simp [mk3]
theorem mk2_length (k n : Nat) : (mk2 k n).length = n := by simp [mk2]
theorem mk3_get (k : Nat) {i n : Nat} (h : i < n) : t3 (mk3 k n) i = ((k : Int) + i * 3, (k : Int) + i * 3 + 1, (k : Int) + i * 3 + 1 + 1) := by simp [t3, mk3, List.getD, h]
theorem mk2_get (k : Nat) {i n : Nat} (h : i < n) : t2 (mk2 k n) i = (((k : Int) + i * 2) % 3 == 0, (k : Int) + i * 2 + 1) := by simp [t2, mk2, List.getD, h]
theorem mk3_ok (k n : Nat) (hk : k ≤ 2199023255552) (hn : n ≤ 1048576) : Ok3 (mk3 k n) := fun j hj => by
  rw [mk3_length] at hj
  rw [mk3_get k hj]
  exact ⟨⟨by dsimp only; omega, by dsimp only; omega⟩, ⟨by dsimp only; omega, by dsimp only; omega⟩, ⟨by dsimp only; omega, by dsimp only; omega⟩⟩
theorem mk2_ok (k n : Nat) (hk : k ≤ 2199023255552) (hn : n ≤ 1048576) : Ok2 (mk2 k n) := fun j hj => by
  rw [mk2_length] at hj
  rw [mk2_get k hj]
  exact ⟨by dsimp only; omega, by dsimp only; omega⟩

set_option maxHeartbeats 1000000 in
set_option maxRecDepth 100000 in
theorem markJobS_any (g o cap n c k : Nat) (B : Nat) (xs : List Value) (w : World) (h1 : 0 < k) (h2 : k ≤ 2199023255552) (hn : n ≤ 1048576) (h : OwnC B w 3 g o cap n xs) :
    Calls Tryz.prog 48 #[.slice (some ⟨g, o, none⟩) n c, .int .i64 k] w fun e w' => e = .returned (.int .i64 ((k : Int) + n * 3)) ∧ OwnC B w' 3 g o cap n (c3 (mk3 k n)) ∧ w.grownBy w' (some g) := by
  go_enter Tryz.func48, Tryz.ntmps48
  go_wp2
  go_loopw [1, 5] (fun kv x wr => ∃ i : Nat, i ≤ n ∧ x = .int .i64 i ∧ kv = .int .i64 ((k : Int) + i * 3) ∧ (∃ ys, OwnC B wr 3 g o cap n ys ∧ Hid (∀ j : Nat, j < i → ys[j * 3]? = some (.int .i64 ((k : Int) + j * 3)) ∧ ys[j * 3 + 1]? = some (.int .i64 ((k : Int) + j * 3 + 1)) ∧ ys[j * 3 + 2]? = some (.int .i64 ((k : Int) + j * 3 + 1 + 1)))) ∧ w.grownBy wr (some g)) (fun _ x _ => n - (intOf x).toNat)
  case atStart => exact ⟨0, Nat.zero_le _, rfl, by simp, ⟨xs, h, hid (fun j hj => absurd hj (by omega))⟩, World.grownBy.refl w _⟩
  case round =>
    obtain ⟨i, hi, rfl, rfl, ⟨ys, ho, HBU⟩, hg⟩ := hrel
    by_cases hlt : i < n
    · have hlt' : (i : Int) < (n : Int) := by omega
      have hlen : i * 3 + 2 < ys.length := by rw [ho.len]; omega
      have HLEN := hid hlen
      clear hlen
      obtain ⟨u0, _, hq0⟩ := ho.cellSome (j := i * 3) (by omega)
      have hf0 := ho.notFrozen (j := i * 3) (by omega)
      have ho0 := ho.setCell (j := i * 3) (by omega) (.int .i64 ((k : Int) + i * 3))
      have hg0 := gset hg (o + (i * 3)) (.int .i64 ((k : Int) + i * 3))
      obtain ⟨w0, hw0⟩ : ∃ V, V = wr.setCell ⟨g, o + i * 3, none⟩ (.int .i64 ((k : Int) + i * 3)) := ⟨_, rfl⟩
      go_upto_region 6 with fail
      rw [← hw0] at ho0 hg0 ⊢
      clear hw0 hq0 hf0 ho hg
      obtain ⟨u1, _, hq1⟩ := ho0.cellSome (j := i * 3 + 1) (by omega)
      have hf1 := ho0.notFrozen (j := i * 3 + 1) (by omega)
      have ho1 := ho0.setCell (j := i * 3 + 1) (by omega) (.int .i64 ((k : Int) + i * 3 + 1))
      have hg1 := gset hg0 (o + (i * 3 + 1)) (.int .i64 ((k : Int) + i * 3 + 1))
      rw [← Nat.add_assoc] at hq1 hf1 ho1 hg1
      obtain ⟨w1, hw1⟩ : ∃ V, V = w0.setCell ⟨g, o + i * 3 + 1, none⟩ (.int .i64 ((k : Int) + i * 3 + 1)) := ⟨_, rfl⟩
      go_upto_region 8 with fail
      rw [← hw1] at ho1 hg1 ⊢
      clear hw1 hq1 hf1 ho0 hg0
      obtain ⟨u2, _, hq2⟩ := ho1.cellSome (j := i * 3 + 2) (by omega)
      have hf2 := ho1.notFrozen (j := i * 3 + 2) (by omega)
      have ho2 := ho1.setCell (j := i * 3 + 2) (by omega) (.int .i64 ((k : Int) + i * 3 + 1 + 1))
      have hg2 := gset hg1 (o + (i * 3 + 2)) (.int .i64 ((k : Int) + i * 3 + 1 + 1))
      rw [← Nat.add_assoc] at hq2 hf2 ho2 hg2
      clear ho1 hg1
      go_wp2
      go_roundw
      case rel =>
        refine ⟨i + 1, by omega, by go_num, by go_num, ⟨_, ho2, hid (fun j hj => ?_)⟩, hg2⟩
        have hl := HLEN.out
        by_cases e : j = i
        · subst e
          exact ⟨by simp [List.getElem?_set]; omega, by simp [List.getElem?_set]; omega, by simp [List.getElem?_set]; omega⟩
        · obtain ⟨g0, g1, g2⟩ := HBU.out j (by omega)
          exact ⟨by rw [List.getElem?_set_ne (by omega), List.getElem?_set_ne (by omega), List.getElem?_set_ne (by omega)]; exact g0, by rw [List.getElem?_set_ne (by omega), List.getElem?_set_ne (by omega), List.getElem?_set_ne (by omega)]; exact g1, by rw [List.getElem?_set_ne (by omega), List.getElem?_set_ne (by omega), List.getElem?_set_ne (by omega)]; exact g2⟩
      case measure => simp [intOf]; omega
    · obtain rfl : i = n := by omega
      obtain rfl : ys = c3 (mk3 k i) := c3_of (by rw [ho.len, mk3_length]) (fun j hj => by
        rw [mk3_length] at hj
        rw [mk3_get k hj]
        exact HBU.out j hj)
      go_wp2
      go_ret
      exact ⟨rfl, ho, hg⟩

set_option maxHeartbeats 1000000 in
theorem markJobS_nil (k : Nat) (w : World) :
    Calls Tryz.prog 48 #[.slice none 0 0, .int .i64 k] w fun e w' => e = .returned (.int .i64 (k : Int)) ∧ w' = w := by
  go_enter Tryz.func48, Tryz.ntmps48
  go_wp2
  go_loop [1, 5] (fun kv x => x = .int .i64 0 ∧ kv = .int .i64 k) (fun _ _ => 0)
  case atStart => exact ⟨rfl, rfl⟩
  case round =>
    obtain ⟨rfl, rfl⟩ := hrel
    go_wp2
    go_ret
    exact ⟨rfl, rfl⟩
theorem markJobS_own (a : Option Addr) (n c k : Nat) (B : Nat) (xs : List Value) (w : World) (h1 : 0 < k) (h2 : k ≤ 2199023255552) (hn : n ≤ 1048576) (h : Own B w 3 (.slice a n c) n xs) :
    Calls Tryz.prog 48 #[.slice a n c, .int .i64 k] w fun e w' => e = .returned (.int .i64 ((k : Int) + n * 3)) ∧ Own B w' 3 (.slice a n c) n (c3 (mk3 k n)) ∧ w.grownBy w' (Value.slice a n c).ownBlock := by
  rcases h with ⟨hv, rfl, rfl⟩ | ⟨g, o, cap, hv, hc⟩
  · simp only [Value.slice.injEq] at hv
    obtain ⟨rfl, _, rfl⟩ := hv
    refine (markJobS_nil k w).mono ?_
    rintro e w' ⟨rfl, rfl⟩
    exact ⟨by simp, .inl ⟨rfl, rfl, by simp [c3, mk3]⟩, World.grownBy.refl _ _⟩
  · simp only [Value.slice.injEq] at hv
    obtain ⟨rfl, _, rfl⟩ := hv
    refine (markJobS_any g o c n c k B xs w h1 h2 hn hc).mono ?_
    rintro e w' ⟨rfl, ho, hg⟩
    exact ⟨rfl, .inr ⟨g, o, c, rfl, ho⟩, hg⟩

set_option maxHeartbeats 1000000 in
theorem heldJobS_any (a : Option Addr) (b o n c k : Nat) (w : World) (h1 : 0 < k) (h2 : k ≤ 2199023255552) (hn : n ≤ 1048576) (h : T3At w a b o n (mk3 k n)) :
    Calls Tryz.prog 54 #[.slice a n c, .int .i64 k] w fun e w' => e = .returned (.int .i64 ((k : Int) + n * 3)) ∧ w' = w := by
  go_enter Tryz.func54, Tryz.ntmps54
  go_wp2
  go_loop [1, 5] (fun kv x => ∃ i : Nat, i ≤ n ∧ x = .int .i64 i ∧ kv = .int .i64 ((k : Int) + i * 3)) (fun _ x => n - (intOf x).toNat)
  case atStart => exact ⟨0, Nat.zero_le _, rfl, by simp⟩
  case round =>
    obtain ⟨i, hi, rfl, rfl⟩ := hrel
    by_cases hlt : i < n
    · have hlt' : (i : Int) < (n : Int) := by omega
      obtain rfl := h.ad (by omega)
      have hc0 := h.c0 i hlt
      have hc1 := h.c1 i hlt
      have hc2 := h.c2 i hlt
      rw [mk3_get k hlt] at hc0 hc1 hc2
      dsimp only at hc0 hc1 hc2
      go_wp2
      go_round
      case rel => exact ⟨i + 1, by omega, by go_num, by go_num⟩
      case measure => simp [intOf]; omega
    · obtain rfl : i = n := by omega
      go_wp2
      go_ret
      exact ⟨rfl, rfl⟩

set_option maxHeartbeats 1000000 in
set_option maxRecDepth 100000 in
theorem markOwedS_any (g o cap n c k : Nat) (B : Nat) (xs : List Value) (w : World) (h1 : 0 < k) (h2 : k ≤ 2199023255552) (hn : n ≤ 1048576) (h : OwnC B w 3 g o cap n xs) :
    Calls Tryz.prog 50 #[.slice (some ⟨g, o, none⟩) n c, .int .i64 k] w fun e w' => e = .returned (.int .i64 ((k : Int) + n * 3)) ∧ OwnC B w' 3 g o cap n (c3 (mk3 k n)) ∧ w.grownBy w' (some g) := by
  go_enter Tryz.func50, Tryz.ntmps50
  go_wp2
  go_loopw [1, 5] (fun kv x wr => ∃ i : Nat, i ≤ n ∧ x = .int .i64 i ∧ kv = .int .i64 ((k : Int) + i * 3) ∧ (∃ ys, OwnC B wr 3 g o cap n ys ∧ Hid (∀ j : Nat, j < i → ys[j * 3]? = some (.int .i64 ((k : Int) + j * 3)) ∧ ys[j * 3 + 1]? = some (.int .i64 ((k : Int) + j * 3 + 1)) ∧ ys[j * 3 + 2]? = some (.int .i64 ((k : Int) + j * 3 + 1 + 1)))) ∧ w.grownBy wr (some g)) (fun _ x _ => n - (intOf x).toNat)
  case atStart => exact ⟨0, Nat.zero_le _, rfl, by simp, ⟨xs, h, hid (fun j hj => absurd hj (by omega))⟩, World.grownBy.refl w _⟩
  case round =>
    obtain ⟨i, hi, rfl, rfl, ⟨ys, ho, HBU⟩, hg⟩ := hrel
    by_cases hlt : i < n
    · have hlt' : (i : Int) < (n : Int) := by omega
      have hlen : i * 3 + 2 < ys.length := by rw [ho.len]; omega
      have HLEN := hid hlen
      clear hlen
      obtain ⟨u0, _, hq0⟩ := ho.cellSome (j := i * 3) (by omega)
      have hf0 := ho.notFrozen (j := i * 3) (by omega)
      have ho0 := ho.setCell (j := i * 3) (by omega) (.int .i64 ((k : Int) + i * 3))
      have hg0 := gset hg (o + (i * 3)) (.int .i64 ((k : Int) + i * 3))
      obtain ⟨w0, hw0⟩ : ∃ V, V = wr.setCell ⟨g, o + i * 3, none⟩ (.int .i64 ((k : Int) + i * 3)) := ⟨_, rfl⟩
      go_upto_region 6 with fail
      rw [← hw0] at ho0 hg0 ⊢
      clear hw0 hq0 hf0 ho hg
      obtain ⟨u1, _, hq1⟩ := ho0.cellSome (j := i * 3 + 1) (by omega)
      have hf1 := ho0.notFrozen (j := i * 3 + 1) (by omega)
      have ho1 := ho0.setCell (j := i * 3 + 1) (by omega) (.int .i64 ((k : Int) + i * 3 + 1))
      have hg1 := gset hg0 (o + (i * 3 + 1)) (.int .i64 ((k : Int) + i * 3 + 1))
      rw [← Nat.add_assoc] at hq1 hf1 ho1 hg1
      obtain ⟨w1, hw1⟩ : ∃ V, V = w0.setCell ⟨g, o + i * 3 + 1, none⟩ (.int .i64 ((k : Int) + i * 3 + 1)) := ⟨_, rfl⟩
      go_upto_region 8 with fail
      rw [← hw1] at ho1 hg1 ⊢
      clear hw1 hq1 hf1 ho0 hg0
      obtain ⟨u2, _, hq2⟩ := ho1.cellSome (j := i * 3 + 2) (by omega)
      have hf2 := ho1.notFrozen (j := i * 3 + 2) (by omega)
      have ho2 := ho1.setCell (j := i * 3 + 2) (by omega) (.int .i64 ((k : Int) + i * 3 + 1 + 1))
      have hg2 := gset hg1 (o + (i * 3 + 2)) (.int .i64 ((k : Int) + i * 3 + 1 + 1))
      rw [← Nat.add_assoc] at hq2 hf2 ho2 hg2
      clear ho1 hg1
      go_wp2
      go_roundw
      case rel =>
        refine ⟨i + 1, by omega, by go_num, by go_num, ⟨_, ho2, hid (fun j hj => ?_)⟩, hg2⟩
        have hl := HLEN.out
        by_cases e : j = i
        · subst e
          exact ⟨by simp [List.getElem?_set]; omega, by simp [List.getElem?_set]; omega, by simp [List.getElem?_set]; omega⟩
        · obtain ⟨g0, g1, g2⟩ := HBU.out j (by omega)
          exact ⟨by rw [List.getElem?_set_ne (by omega), List.getElem?_set_ne (by omega), List.getElem?_set_ne (by omega)]; exact g0, by rw [List.getElem?_set_ne (by omega), List.getElem?_set_ne (by omega), List.getElem?_set_ne (by omega)]; exact g1, by rw [List.getElem?_set_ne (by omega), List.getElem?_set_ne (by omega), List.getElem?_set_ne (by omega)]; exact g2⟩
      case measure => simp [intOf]; omega
    · obtain rfl : i = n := by omega
      obtain rfl : ys = c3 (mk3 k i) := c3_of (by rw [ho.len, mk3_length]) (fun j hj => by
        rw [mk3_length] at hj
        rw [mk3_get k hj]
        exact HBU.out j hj)
      go_wp2
      go_ret
      exact ⟨rfl, ho, hg⟩

set_option maxHeartbeats 1000000 in
theorem markOwedS_nil (k : Nat) (w : World) :
    Calls Tryz.prog 50 #[.slice none 0 0, .int .i64 k] w fun e w' => e = .returned (.int .i64 (k : Int)) ∧ w' = w := by
  go_enter Tryz.func50, Tryz.ntmps50
  go_wp2
  go_loop [1, 5] (fun kv x => x = .int .i64 0 ∧ kv = .int .i64 k) (fun _ _ => 0)
  case atStart => exact ⟨rfl, rfl⟩
  case round =>
    obtain ⟨rfl, rfl⟩ := hrel
    go_wp2
    go_ret
    exact ⟨rfl, rfl⟩
theorem markOwedS_own (a : Option Addr) (n c k : Nat) (B : Nat) (xs : List Value) (w : World) (h1 : 0 < k) (h2 : k ≤ 2199023255552) (hn : n ≤ 1048576) (h : Own B w 3 (.slice a n c) n xs) :
    Calls Tryz.prog 50 #[.slice a n c, .int .i64 k] w fun e w' => e = .returned (.int .i64 ((k : Int) + n * 3)) ∧ Own B w' 3 (.slice a n c) n (c3 (mk3 k n)) ∧ w.grownBy w' (Value.slice a n c).ownBlock := by
  rcases h with ⟨hv, rfl, rfl⟩ | ⟨g, o, cap, hv, hc⟩
  · simp only [Value.slice.injEq] at hv
    obtain ⟨rfl, _, rfl⟩ := hv
    refine (markOwedS_nil k w).mono ?_
    rintro e w' ⟨rfl, rfl⟩
    exact ⟨by simp, .inl ⟨rfl, rfl, by simp [c3, mk3]⟩, World.grownBy.refl _ _⟩
  · simp only [Value.slice.injEq] at hv
    obtain ⟨rfl, _, rfl⟩ := hv
    refine (markOwedS_any g o c n c k B xs w h1 h2 hn hc).mono ?_
    rintro e w' ⟨rfl, ho, hg⟩
    exact ⟨rfl, .inr ⟨g, o, c, rfl, ho⟩, hg⟩

set_option maxHeartbeats 1000000 in
theorem heldOwedS_any (a : Option Addr) (b o n c k : Nat) (w : World) (h1 : 0 < k) (h2 : k ≤ 2199023255552) (hn : n ≤ 1048576) (h : T3At w a b o n (mk3 k n)) :
    Calls Tryz.prog 56 #[.slice a n c, .int .i64 k] w fun e w' => e = .returned (.int .i64 ((k : Int) + n * 3)) ∧ w' = w := by
  go_enter Tryz.func56, Tryz.ntmps56
  go_wp2
  go_loop [1, 5] (fun kv x => ∃ i : Nat, i ≤ n ∧ x = .int .i64 i ∧ kv = .int .i64 ((k : Int) + i * 3)) (fun _ x => n - (intOf x).toNat)
  case atStart => exact ⟨0, Nat.zero_le _, rfl, by simp⟩
  case round =>
    obtain ⟨i, hi, rfl, rfl⟩ := hrel
    by_cases hlt : i < n
    · have hlt' : (i : Int) < (n : Int) := by omega
      obtain rfl := h.ad (by omega)
      have hc0 := h.c0 i hlt
      have hc1 := h.c1 i hlt
      have hc2 := h.c2 i hlt
      rw [mk3_get k hlt] at hc0 hc1 hc2
      dsimp only at hc0 hc1 hc2
      go_wp2
      go_round
      case rel => exact ⟨i + 1, by omega, by go_num, by go_num⟩
      case measure => simp [intOf]; omega
    · obtain rfl : i = n := by omega
      go_wp2
      go_ret
      exact ⟨rfl, rfl⟩

set_option maxHeartbeats 1000000 in
set_option maxRecDepth 100000 in
theorem markSeatS_any (g o cap n c k : Nat) (B : Nat) (xs : List Value) (w : World) (h1 : 0 < k) (h2 : k ≤ 2199023255552) (hn : n ≤ 1048576) (h : OwnC B w 2 g o cap n xs) :
    Calls Tryz.prog 49 #[.slice (some ⟨g, o, none⟩) n c, .int .i64 k] w fun e w' => e = .returned (.int .i64 ((k : Int) + n * 2)) ∧ OwnC B w' 2 g o cap n (c2 (mk2 k n)) ∧ w.grownBy w' (some g) := by
  go_enter Tryz.func49, Tryz.ntmps49
  go_wp2
  go_loopw [1, 5] (fun kv x wr => ∃ i : Nat, i ≤ n ∧ x = .int .i64 i ∧ kv = .int .i64 ((k : Int) + i * 2) ∧ (∃ ys, OwnC B wr 2 g o cap n ys ∧ Hid (∀ j : Nat, j < i → ys[j * 2]? = some (.bool (((k : Int) + j * 2) % 3 == 0)) ∧ ys[j * 2 + 1]? = some (.int .i64 ((k : Int) + j * 2 + 1)))) ∧ w.grownBy wr (some g)) (fun _ x _ => n - (intOf x).toNat)
  case atStart => exact ⟨0, Nat.zero_le _, rfl, by simp, ⟨xs, h, hid (fun j hj => absurd hj (by omega))⟩, World.grownBy.refl w _⟩
  case round =>
    obtain ⟨i, hi, rfl, rfl, ⟨ys, ho, HBU⟩, hg⟩ := hrel
    by_cases hlt : i < n
    · have hlt' : (i : Int) < (n : Int) := by omega
      have hlen : i * 2 + 1 < ys.length := by rw [ho.len]; omega
      have HLEN := hid hlen
      clear hlen
      obtain ⟨u0, _, hq0⟩ := ho.cellSome (j := i * 2) (by omega)
      have hf0 := ho.notFrozen (j := i * 2) (by omega)
      have ho0 := ho.setCell (j := i * 2) (by omega) (.bool (((k : Int) + i * 2) % 3 == 0))
      have hg0 := gset hg (o + (i * 2)) (.bool (((k : Int) + i * 2) % 3 == 0))
      obtain ⟨w0, hw0⟩ : ∃ V, V = wr.setCell ⟨g, o + i * 2, none⟩ (.bool (((k : Int) + i * 2) % 3 == 0)) := ⟨_, rfl⟩
      go_upto_region 6 with fail
      rw [← hw0] at ho0 hg0 ⊢
      clear hw0 hq0 hf0 ho hg
      obtain ⟨u1, _, hq1⟩ := ho0.cellSome (j := i * 2 + 1) (by omega)
      have hf1 := ho0.notFrozen (j := i * 2 + 1) (by omega)
      have ho1 := ho0.setCell (j := i * 2 + 1) (by omega) (.int .i64 ((k : Int) + i * 2 + 1))
      have hg1 := gset hg0 (o + (i * 2 + 1)) (.int .i64 ((k : Int) + i * 2 + 1))
      rw [← Nat.add_assoc] at hq1 hf1 ho1 hg1
      clear ho0 hg0
      go_wp2
      go_roundw
      case rel =>
        refine ⟨i + 1, by omega, by go_num, by go_num, ⟨_, ho1, hid (fun j hj => ?_)⟩, hg1⟩
        have hl := HLEN.out
        by_cases e : j = i
        · subst e
          exact ⟨by simp [List.getElem?_set]; omega, by simp [List.getElem?_set]; omega⟩
        · obtain ⟨g0, g1⟩ := HBU.out j (by omega)
          exact ⟨by rw [List.getElem?_set_ne (by omega), List.getElem?_set_ne (by omega)]; exact g0, by rw [List.getElem?_set_ne (by omega), List.getElem?_set_ne (by omega)]; exact g1⟩
      case measure => simp [intOf]; omega
    · obtain rfl : i = n := by omega
      obtain rfl : ys = c2 (mk2 k i) := c2_of (by rw [ho.len, mk2_length]) (fun j hj => by
        rw [mk2_length] at hj
        rw [mk2_get k hj]
        exact HBU.out j hj)
      go_wp2
      go_ret
      exact ⟨rfl, ho, hg⟩

set_option maxHeartbeats 1000000 in
theorem markSeatS_nil (k : Nat) (w : World) :
    Calls Tryz.prog 49 #[.slice none 0 0, .int .i64 k] w fun e w' => e = .returned (.int .i64 (k : Int)) ∧ w' = w := by
  go_enter Tryz.func49, Tryz.ntmps49
  go_wp2
  go_loop [1, 5] (fun kv x => x = .int .i64 0 ∧ kv = .int .i64 k) (fun _ _ => 0)
  case atStart => exact ⟨rfl, rfl⟩
  case round =>
    obtain ⟨rfl, rfl⟩ := hrel
    go_wp2
    go_ret
    exact ⟨rfl, rfl⟩
theorem markSeatS_own (a : Option Addr) (n c k : Nat) (B : Nat) (xs : List Value) (w : World) (h1 : 0 < k) (h2 : k ≤ 2199023255552) (hn : n ≤ 1048576) (h : Own B w 2 (.slice a n c) n xs) :
    Calls Tryz.prog 49 #[.slice a n c, .int .i64 k] w fun e w' => e = .returned (.int .i64 ((k : Int) + n * 2)) ∧ Own B w' 2 (.slice a n c) n (c2 (mk2 k n)) ∧ w.grownBy w' (Value.slice a n c).ownBlock := by
  rcases h with ⟨hv, rfl, rfl⟩ | ⟨g, o, cap, hv, hc⟩
  · simp only [Value.slice.injEq] at hv
    obtain ⟨rfl, _, rfl⟩ := hv
    refine (markSeatS_nil k w).mono ?_
    rintro e w' ⟨rfl, rfl⟩
    exact ⟨by simp, .inl ⟨rfl, rfl, by simp [c2, mk2]⟩, World.grownBy.refl _ _⟩
  · simp only [Value.slice.injEq] at hv
    obtain ⟨rfl, _, rfl⟩ := hv
    refine (markSeatS_any g o c n c k B xs w h1 h2 hn hc).mono ?_
    rintro e w' ⟨rfl, ho, hg⟩
    exact ⟨rfl, .inr ⟨g, o, c, rfl, ho⟩, hg⟩

set_option maxHeartbeats 1000000 in
theorem heldSeatS_any (a : Option Addr) (b o n c k : Nat) (w : World) (h1 : 0 < k) (h2 : k ≤ 2199023255552) (hn : n ≤ 1048576) (h : T2At w a b o n (mk2 k n)) :
    Calls Tryz.prog 55 #[.slice a n c, .int .i64 k] w fun e w' => e = .returned (.int .i64 ((k : Int) + n * 2)) ∧ w' = w := by
  go_enter Tryz.func55, Tryz.ntmps55
  go_wp2
  go_loop [1, 5] (fun kv x => ∃ i : Nat, i ≤ n ∧ x = .int .i64 i ∧ kv = .int .i64 ((k : Int) + i * 2)) (fun _ x => n - (intOf x).toNat)
  case atStart => exact ⟨0, Nat.zero_le _, rfl, by simp⟩
  case round =>
    obtain ⟨i, hi, rfl, rfl⟩ := hrel
    by_cases hlt : i < n
    · have hlt' : (i : Int) < (n : Int) := by omega
      obtain rfl := h.ad (by omega)
      have hc0 := h.c0 i hlt
      have hc1 := h.c1 i hlt
      rw [mk2_get k hlt] at hc0 hc1
      dsimp only at hc0 hc1
      go_wp2
      go_round
      case rel => exact ⟨i + 1, by omega, by go_num, by go_num⟩
      case measure => simp [intOf]; omega
    · obtain rfl : i = n := by omega
      go_wp2
      go_ret
      exact ⟨rfl, rfl⟩

end Go.Proofs.YtbfamabkbkpmpaaGreat
