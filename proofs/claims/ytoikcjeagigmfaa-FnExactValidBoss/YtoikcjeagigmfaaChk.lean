
/-
  CheckPlan's parts: spec.l1NameOk, impl.isName, costsHold, depsHold, allDepsHold.
-/
import Derived.Test.YtoikcjeagigmfaaEq
namespace Go.Proofs.Ytoikcjeagigmfaa
open Go.RowKit


def byteOk (b : UInt8) : Prop := 33 ≤ (b.toNat : Int) ∧ (b.toNat : Int) ≤ 126
def bytesOk (s : ByteArray) (k : Nat) : Prop := ∀ j (h : j < s.size), j < k → byteOk s[j]
def nameOk (s : ByteArray) : Prop := bytesOk s s.size ∧ 1 ≤ s.size ∧ s.size ≤ 30
theorem bytesOk_succ {s : ByteArray} {k : Nat} (h : bytesOk s k) (hk : k < s.size) (h1 : (33 : Int) ≤ (s[k].toNat : Int)) (h2 : (s[k].toNat : Int) ≤ 126) : bytesOk s (k + 1) := fun j hj hlt => by
  by_cases e : j = k
  · subst e; exact ⟨h1, h2⟩
  · exact h j hj (by omega)
theorem not_nameOk {s : ByteArray} {k : Nat} (hk : k < s.size) (h : (s[k].toNat : Int) < 33 ∨ 126 < (s[k].toNat : Int)) : ¬ nameOk s := fun hn => by
  have := hn.1 k hk hk
  unfold byteOk at this
  omega

set_option maxHeartbeats 400000 in
theorem l1NameOk_any (s : ByteArray) (w : World) (hs : s.size ≤ maxLen) :
    Calls Try.prog 77 #[.string s] w fun e w' => RetB e (nameOk s) ∧ w' = w := by
  unfold maxLen at hs
  go_enter Try.func77, Try.ntmps77
  go_wp2
  go_loop [3] (fun i => ∃ k : Nat, k ≤ s.size ∧ i = .int .i64 k ∧ bytesOk s k) (fun i => s.size - (intOf i).toNat)
  case atStart => exact ⟨0, Nat.zero_le _, rfl, fun j _ hj => absurd hj (by omega)⟩
  case round =>
    obtain ⟨k, hk, rfl, hok⟩ := hrel
    by_cases hlt : k < s.size
    · by_cases h1 : (s[k].toNat : Int) < 33
      · go_wp2
        go_ret
        exact ⟨RetB.f (not_nameOk hlt (.inl h1)), rfl⟩
      by_cases h2 : 126 < (s[k].toNat : Int)
      · go_wp2
        go_ret
        exact ⟨RetB.f (not_nameOk hlt (.inr h2)), rfl⟩
      · go_wp2
        go_round
        case rel => exact ⟨k + 1, by omega, by go_num, bytesOk_succ hok hlt (by omega) (by omega)⟩
        case measure => simp [intOf]; omega
    · obtain rfl : k = s.size := by omega
      by_cases h3 : 1 ≤ s.size
      · by_cases h4 : s.size ≤ 30
        · go_wp2
          go_ret
          exact ⟨RetB.d ⟨fun _ => ⟨hok, h3, h4⟩, fun _ => by omega⟩, rfl⟩
        · go_wp2
          go_ret
          exact ⟨RetB.d ⟨fun _ => absurd h4 (by omega), fun h => absurd h.2.2 h4⟩, rfl⟩
      · go_wp2
        go_ret
        exact ⟨RetB.f fun h => h3 h.2.1, rfl⟩

set_option maxHeartbeats 400000 in
theorem isName_any (s : ByteArray) (w : World) (hs : s.size ≤ maxLen) :
    Calls Try.prog 105 #[.string s] w fun e w' => RetB e (nameOk s) ∧ w' = w := by
  unfold maxLen at hs
  by_cases h3 : 1 ≤ s.size
  · by_cases h4 : s.size ≤ 30
    · go_enter Try.func105, Try.ntmps105
      go_wp2
      go_loop [3] (fun i => ∃ k : Nat, k ≤ s.size ∧ i = .int .i64 k ∧ bytesOk s k) (fun i => s.size - (intOf i).toNat)
      case atStart => exact ⟨0, Nat.zero_le _, rfl, fun j _ hj => absurd hj (by omega)⟩
      case round =>
        obtain ⟨k, hk, rfl, hok⟩ := hrel
        by_cases hlt : k < s.size
        · by_cases h1 : (s[k].toNat : Int) < 33
          · go_wp2
            go_ret
            exact ⟨RetB.f (not_nameOk hlt (.inl h1)), rfl⟩
          by_cases h2 : 126 < (s[k].toNat : Int)
          · go_wp2
            go_ret
            exact ⟨RetB.f (not_nameOk hlt (.inr h2)), rfl⟩
          · go_wp2
            go_round
            case rel => exact ⟨k + 1, by omega, by go_num, bytesOk_succ hok hlt (by omega) (by omega)⟩
            case measure => simp [intOf]; omega
        · obtain rfl : k = s.size := by omega
          go_wp2
          go_ret
          exact ⟨RetB.t ⟨hok, h3, h4⟩, rfl⟩
    · go_enter Try.func105, Try.ntmps105
      go_wp2
      go_ret
      exact ⟨RetB.f fun h => h4 h.2.2, rfl⟩
  · go_enter Try.func105, Try.ntmps105
    go_wp2
    go_ret
    exact ⟨RetB.f fun h => h3 h.2.1, rfl⟩

def costOk (t : TaskD) : Prop := 1 ≤ t.cost ∧ t.cost ≤ 20
def costsOk (ts : List TaskD) (k : Nat) : Prop := ∀ j, j < k → costOk (ts.getD j dT)

set_option maxHeartbeats 400000 in
theorem costsHold_any (a : Option Addr) (b o n c : Nat) (ts : List TaskD) (w : World) (h : TasksAt w a b o n ts) :
    Calls Try.prog 100 #[.slice a n c] w fun e w' => RetB e (costsOk ts n) ∧ Below w.heap.size w w' := by
  have hmax := h.max
  unfold maxLen at hmax
  go_enter Try.func100, Try.ntmps100
  go_wp2
  go_loopw [7] (fun i wr => ∃ k : Nat, k ≤ n ∧ i = .int .i64 k ∧ costsOk ts k ∧ Below w.heap.size w wr) (fun i _ => n - (intOf i).toNat)
  case atStart => exact ⟨0, Nat.zero_le _, rfl, fun j hj => absurd hj (by omega), Below.refl _ _⟩
  case round =>
    obtain ⟨k, hk, rfl, hok, hb⟩ := hrel
    by_cases hlt : k < n
    · obtain rfl := h.ad (by omega)
      obtain ⟨t, a', b', o', n', c', ht, hc0, hc1, hc2, hi', _, hr1, hr2⟩ := (h.below' hb).get hlt
      have hb' : Below w.heap.size w (wr.alloc (.cells #[.string t.name, .int .i64 t.cost, .slice a' n' c'] 131)) := hb.alloc hb.size _
      have HT : Hid (t = ts.getD k dT) := ht
      clear ht
      by_cases h1 : t.cost < 1
      · go_wp2
        go_ret
        refine ⟨RetB.f ?_, hb'⟩
        intro hh; have := (hh k hlt).1; rw [← HT.out] at this; omega
      by_cases h2 : 20 < t.cost
      · go_wp2
        go_ret
        refine ⟨RetB.f ?_, hb'⟩
        intro hh; have := (hh k hlt).2; rw [← HT.out] at this; omega
      · go_wp2
        go_roundw
        case rel =>
          refine ⟨k + 1, by omega, by go_num, fun j hj => ?_, hb'⟩
          by_cases e : j = k
          · subst e; rw [← HT.out]; exact ⟨by omega, by omega⟩
          · exact hok j (by omega)
        case measure => simp [intOf]; omega
    · obtain rfl : k = n := by omega
      go_wp2
      go_ret
      exact ⟨RetB.t hok, hb⟩

/-- The first k numbers ascend and lie in front of i. -/
def asc (i : Nat) (ds : List Int) (k : Nat) : Prop := ∀ j, j < k → 0 ≤ ds.getD j 0 ∧ ds.getD j 0 < i ∧ (0 < j → ds.getD (j - 1) 0 < ds.getD j 0)
def depsOk (i : Nat) (ds : List Int) : Prop := ds.length ≤ 8 ∧ asc i ds ds.length

set_option maxHeartbeats 400000 in
theorem depsHold_any (a : Option Addr) (b o n c i : Nat) (ds : List Int) (w : World) (h : IntsAt w a b o n ds) (hi : i ≤ maxLen) :
    Calls Try.prog 106 #[.slice a n c, .int .i64 i] w fun e w' => RetB e (depsOk i ds) ∧ w' = w := by
  have hmax := h.max
  unfold maxLen at hmax hi
  have hlen := h.len
  by_cases h8 : 8 < n
  · clear hlen
    go_enter Try.func106, Try.ntmps106
    go_wp2
    go_ret
    exact ⟨RetB.f fun hd => by have := hd.1; have := h.len; omega, rfl⟩
  · clear hlen
    go_enter Try.func106, Try.ntmps106
    go_wp2
    go_loop [5, 13] (fun l x => ∃ k : Nat, k ≤ n ∧ x = .int .i64 k ∧ (∃ m : Int, l = .int .i64 m ∧ 0 ≤ m ∧ m ≤ i ∧ (k = 0 → m = 0) ∧ (0 < k → m = ds.getD (k - 1) 0 + 1)) ∧ asc i ds k) (fun _ x => n - (intOf x).toNat)
    case atStart => exact ⟨0, Nat.zero_le _, rfl, ⟨0, rfl, by omega, by omega, fun _ => rfl, fun h => absurd h (by omega)⟩, fun j hj => absurd hj (by omega)⟩
    case round =>
      obtain ⟨k, hk, rfl, ⟨m, rfl, hm0, hmi, hmz, hms⟩, hok⟩ := hrel
      have HZ : Hid (k = 0 → m = 0) := hmz
      have HS : Hid (0 < k → m = ds.getD (k - 1) 0 + 1) := hms
      clear hmz hms
      by_cases hlt : k < n
      · obtain rfl := h.ad (by omega)
        have hc := h.cell k hlt
        obtain ⟨d, hd⟩ : ∃ d, d = ds.getD k 0 := ⟨_, rfl⟩
        rw [← hd] at hc
        have HD : Hid (d = ds.getD k 0) := hd
        clear hd
        by_cases h1 : d < m
        · go_wp2
          go_ret
          refine ⟨RetB.f ?_, rfl⟩
          intro hh
          have := hh.2 k (by rw [h.len]; exact hlt)
          rw [← HD.out] at this
          by_cases e : k = 0
          · have := HZ.out e; omega
          · have h5 := HS.out (by omega); have := this.2.2 (by omega); omega
        by_cases h2 : (i : Int) ≤ d
        · go_wp2
          go_ret
          refine ⟨RetB.f ?_, rfl⟩
          intro hh
          have := hh.2 k (by rw [h.len]; exact hlt)
          rw [← HD.out] at this
          omega
        · go_wp2
          go_round
          case rel =>
            refine ⟨k + 1, by omega, by go_num, ⟨d + 1, rfl, by omega, by omega, fun h => absurd h (by omega), fun _ => by rw [HD.out]; simp⟩, fun j hj => ?_⟩
            by_cases e : j = k
            · subst e
              rw [← HD.out]
              refine ⟨by omega, by omega, fun hj0 => ?_⟩
              have := HS.out hj0; omega
            · exact hok j (by omega)
          case measure => simp [intOf]; omega
      · obtain rfl : k = n := by omega
        go_wp2
        go_ret
        exact ⟨RetB.t ⟨by rw [h.len]; omega, by rw [h.len]; exact hok⟩, rfl⟩

def allDeps (ts : List TaskD) (k : Nat) : Prop := ∀ j, j < k → depsOk j (ts.getD j dT).deps

set_option maxHeartbeats 400000 in
theorem allDepsHold_any (a : Option Addr) (b o n c : Nat) (ts : List TaskD) (w : World) (h : TasksAt w a b o n ts) :
    Calls Try.prog 101 #[.slice a n c] w fun e w' => RetB e (allDeps ts n) ∧ Below w.heap.size w w' := by
  have hmax := h.max
  unfold maxLen at hmax
  go_enter Try.func101, Try.ntmps101
  go_wp2
  go_loopw [7] (fun i wr => ∃ k : Nat, k ≤ n ∧ i = .int .i64 k ∧ allDeps ts k ∧ Below w.heap.size w wr) (fun i _ => n - (intOf i).toNat)
  case atStart => exact ⟨0, Nat.zero_le _, rfl, fun j hj => absurd hj (by omega), Below.refl _ _⟩
  case round =>
    obtain ⟨k, hk, rfl, hok, hb⟩ := hrel
    by_cases hlt : k < n
    · obtain rfl := h.ad (by omega)
      obtain ⟨t, a', b', o', n', c', ht, hc0, hc1, hc2, hi', _, hr1, hr2⟩ := (h.below' hb).get hlt
      have hb' : Below w.heap.size w (wr.alloc (.cells #[.string t.name, .int .i64 t.cost, .slice a' n' c'] 131)) := hb.alloc hb.size _
      have HT : Hid (t = ts.getD k dT) := ht
      clear ht
      go_wp2_with fail
      refine (depsHold_any a' b' o' n' c' k t.deps _ (hi'.below' ((Below.refl _ _).alloc (Nat.le_refl _) _)) (by unfold maxLen; omega)).mono ?_
      rintro e w1 ⟨⟨r, rfl, hr⟩, rfl⟩
      have HR : Hid _ := hr
      clear hr
      cases r
      · go_wp2
        go_ret
        refine ⟨RetB.f ?_, hb'⟩
        intro hh; have := hh k hlt; rw [← HT.out] at this; exact absurd (HR.out.2 this) (by simp)
      · go_wp2
        go_roundw
        case rel =>
          refine ⟨k + 1, by omega, by go_num, fun j hj => ?_, hb'⟩
          by_cases e : j = k
          · subst e; rw [← HT.out]; exact HR.out.1 (by simp)
          · exact hok j (by omega)
        case measure => simp [intOf]; omega
    · obtain rfl : k = n := by omega
      go_wp2
      go_ret
      exact ⟨RetB.t hok, hb⟩
end Go.Proofs.Ytoikcjeagigmfaa
