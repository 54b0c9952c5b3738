import Derived.Test.YthopfmhagddhgaaGreatQEq
import Derived.Maps.OwnSet
namespace Go.Proofs.YthopfmhagddhgaaGreat
open Go.RowKit


def byteOk (b : UInt8) : Prop := 33 ≤ (b.toNat : Int) ∧ (b.toNat : Int) ≤ 126
def bytesOk (s : ByteArray) (k : Nat) : Prop := ∀ j (h : j < s.size), j < k → byteOk s[j]
def nameOk (s : ByteArray) : Prop := bytesOk s s.size ∧ 1 ≤ s.size ∧ s.size ≤ 30
theorem bytesOk_succ {s : ByteArray} {k : Nat} (h : bytesOk s k) (hk : k < s.size) (h1 : (33 : Int) ≤ (s[k].toNat : Int)) (h2 : (s[k].toNat : Int) ≤ 126) : bytesOk s (k + 1) := fun j hj hlt => by
  by_cases e : j = k
  · subst e; exact ⟨h1, h2⟩
  · exact h j hj (by omega)
theorem not_nameOk {s : ByteArray} {k : Nat} (hk : k < s.size) (h : (s[k].toNat : Int) < 33 ∨ 126 < (s[k].toNat : Int)) : ¬ nameOk s := fun hn => by
  have := hn.1 k hk hk
  unfold byteOk at this
  omega

set_option maxHeartbeats 400000 in
theorem l1NameOk_any (s : ByteArray) (w : World) (hs : s.size ≤ maxLen) :
    Calls Tryz.prog 79 #[.string s] w fun e w' => RetB e (nameOk s) ∧ w' = w := by
  unfold maxLen at hs
  go_enter Tryz.func79, Tryz.ntmps79
  go_wp2
  go_loop [3] (fun i => ∃ k : Nat, k ≤ s.size ∧ i = .int .i64 k ∧ bytesOk s k) (fun i => s.size - (intOf i).toNat)
  case atStart => exact ⟨0, Nat.zero_le _, rfl, fun j _ hj => absurd hj (by omega)⟩
  case round =>
    obtain ⟨k, hk, rfl, hok⟩ := hrel
    by_cases hlt : k < s.size
    · by_cases h1 : (s[k].toNat : Int) < 33
      · go_wp2
        go_ret
        exact ⟨RetB.f (not_nameOk hlt (.inl h1)), rfl⟩
      by_cases h2 : 126 < (s[k].toNat : Int)
      · go_wp2
        go_ret
        exact ⟨RetB.f (not_nameOk hlt (.inr h2)), rfl⟩
      · go_wp2
        go_round
        case rel => exact ⟨k + 1, by omega, by go_num, bytesOk_succ hok hlt (by omega) (by omega)⟩
        case measure => simp [intOf]; omega
    · obtain rfl : k = s.size := by omega
      by_cases h3 : 1 ≤ s.size
      · by_cases h4 : s.size ≤ 30
        · go_wp2
          go_ret
          exact ⟨RetB.d ⟨fun _ => ⟨hok, h3, h4⟩, fun _ => by omega⟩, rfl⟩
        · go_wp2
          go_ret
          exact ⟨RetB.d ⟨fun _ => absurd h4 (by omega), fun h => absurd h.2.2 h4⟩, rfl⟩
      · go_wp2
        go_ret
        exact ⟨RetB.f fun h => h3 h.2.1, rfl⟩

set_option maxHeartbeats 400000 in
theorem isName_any (s : ByteArray) (w : World) (hs : s.size ≤ maxLen) :
    Calls Tryz.prog 137 #[.string s] w fun e w' => RetB e (nameOk s) ∧ w' = w := by
  unfold maxLen at hs
  by_cases h3 : 1 ≤ s.size
  · by_cases h4 : s.size ≤ 30
    · go_enter Tryz.func137, Tryz.ntmps137
      go_wp2
      go_loop [3] (fun i => ∃ k : Nat, k ≤ s.size ∧ i = .int .i64 k ∧ bytesOk s k) (fun i => s.size - (intOf i).toNat)
      case atStart => exact ⟨0, Nat.zero_le _, rfl, fun j _ hj => absurd hj (by omega)⟩
      case round =>
        obtain ⟨k, hk, rfl, hok⟩ := hrel
        by_cases hlt : k < s.size
        · by_cases h1 : (s[k].toNat : Int) < 33
          · go_wp2
            go_ret
            exact ⟨RetB.f (not_nameOk hlt (.inl h1)), rfl⟩
          by_cases h2 : 126 < (s[k].toNat : Int)
          · go_wp2
            go_ret
            exact ⟨RetB.f (not_nameOk hlt (.inr h2)), rfl⟩
          · go_wp2
            go_round
            case rel => exact ⟨k + 1, by omega, by go_num, bytesOk_succ hok hlt (by omega) (by omega)⟩
            case measure => simp [intOf]; omega
        · obtain rfl : k = s.size := by omega
          go_wp2
          go_ret
          exact ⟨RetB.t ⟨hok, h3, h4⟩, rfl⟩
    · go_enter Tryz.func137, Tryz.ntmps137
      go_wp2
      go_ret
      exact ⟨RetB.f fun h => h4 h.2.2, rfl⟩
  · go_enter Tryz.func137, Tryz.ntmps137
    go_wp2
    go_ret
    exact ⟨RetB.f fun h => h3 h.2.1, rfl⟩

def costOk (t : TaskD) : Prop := 1 ≤ t.cost ∧ t.cost ≤ 20
def costsOk (ts : List TaskD) (k : Nat) : Prop := ∀ j, j < k → costOk (ts.getD j dT)

set_option maxHeartbeats 400000 in
theorem costsHold_any (a : Option Addr) (b o n c : Nat) (ts : List TaskD) (w : World) (h : TasksAt w a b o n ts) :
    Calls Tryz.prog 127 #[.slice a n c] w fun e w' => RetB e (costsOk ts n) ∧ Below w.heap.size w w' := by
  have hmax := h.max
  unfold maxLen at hmax
  go_enter Tryz.func127, Tryz.ntmps127
  go_wp2
  go_loopw [7] (fun i wr => ∃ k : Nat, k ≤ n ∧ i = .int .i64 k ∧ costsOk ts k ∧ Below w.heap.size w wr) (fun i _ => n - (intOf i).toNat)
  case atStart => exact ⟨0, Nat.zero_le _, rfl, fun j hj => absurd hj (by omega), Below.refl _ _⟩
  case round =>
    obtain ⟨k, hk, rfl, hok, hb⟩ := hrel
    by_cases hlt : k < n
    · obtain rfl := h.ad (by omega)
      obtain ⟨t, a', b', o', n', c', ht, hc0, hc1, hc2, hi', _, hr1, hr2⟩ := (h.below' hb).get hlt
      have hb' : Below w.heap.size w (wr.alloc (.cells #[.string t.name, .int .i64 t.cost, .slice a' n' c'] 120)) := hb.alloc hb.size _
      have HT : Hid (t = ts.getD k dT) := ht
      clear ht
      by_cases h1 : t.cost < 1
      · go_wp2
        go_ret
        refine ⟨RetB.f ?_, hb'⟩
        intro hh; have := (hh k hlt).1; rw [← HT.out] at this; omega
      by_cases h2 : 20 < t.cost
      · go_wp2
        go_ret
        refine ⟨RetB.f ?_, hb'⟩
        intro hh; have := (hh k hlt).2; rw [← HT.out] at this; omega
      · go_wp2
        go_roundw
        case rel =>
          refine ⟨k + 1, by omega, by go_num, fun j hj => ?_, hb'⟩
          by_cases e : j = k
          · subst e; rw [← HT.out]; exact ⟨by omega, by omega⟩
          · exact hok j (by omega)
        case measure => simp [intOf]; omega
    · obtain rfl : k = n := by omega
      go_wp2
      go_ret
      exact ⟨RetB.t hok, hb⟩

/-- The first k numbers ascend and lie in front of i. -/
def asc (i : Nat) (ds : List Int) (k : Nat) : Prop := ∀ j, j < k → 0 ≤ ds.getD j 0 ∧ ds.getD j 0 < i ∧ (0 < j → ds.getD (j - 1) 0 < ds.getD j 0)
def depsOk (i : Nat) (ds : List Int) : Prop := ds.length ≤ 8 ∧ asc i ds ds.length

set_option maxHeartbeats 400000 in
theorem depsHold_any (a : Option Addr) (b o n c i : Nat) (ds : List Int) (w : World) (h : IntsAt w a b o n ds) (hi : i ≤ maxLen) :
    Calls Tryz.prog 138 #[.slice a n c, .int .i64 i] w fun e w' => RetB e (depsOk i ds) ∧ w' = w := by
  have hmax := h.max
  unfold maxLen at hmax hi
  have hlen := h.len
  by_cases h8 : 8 < n
  · clear hlen
    go_enter Tryz.func138, Tryz.ntmps138
    go_wp2
    go_ret
    exact ⟨RetB.f fun hd => by have := hd.1; have := h.len; omega, rfl⟩
  · clear hlen
    go_enter Tryz.func138, Tryz.ntmps138
    go_wp2
    go_loop [5, 13] (fun l x => ∃ k : Nat, k ≤ n ∧ x = .int .i64 k ∧ (∃ m : Int, l = .int .i64 m ∧ 0 ≤ m ∧ m ≤ i ∧ (k = 0 → m = 0) ∧ (0 < k → m = ds.getD (k - 1) 0 + 1)) ∧ asc i ds k) (fun _ x => n - (intOf x).toNat)
    case atStart => exact ⟨0, Nat.zero_le _, rfl, ⟨0, rfl, by omega, by omega, fun _ => rfl, fun h => absurd h (by omega)⟩, fun j hj => absurd hj (by omega)⟩
    case round =>
      obtain ⟨k, hk, rfl, ⟨m, rfl, hm0, hmi, hmz, hms⟩, hok⟩ := hrel
      have HZ : Hid (k = 0 → m = 0) := hmz
      have HS : Hid (0 < k → m = ds.getD (k - 1) 0 + 1) := hms
      clear hmz hms
      by_cases hlt : k < n
      · obtain rfl := h.ad (by omega)
        have hc := h.cell k hlt
        obtain ⟨d, hd⟩ : ∃ d, d = ds.getD k 0 := ⟨_, rfl⟩
        rw [← hd] at hc
        have HD : Hid (d = ds.getD k 0) := hd
        clear hd
        by_cases h1 : d < m
        · go_wp2
          go_ret
          refine ⟨RetB.f ?_, rfl⟩
          intro hh
          have := hh.2 k (by rw [h.len]; exact hlt)
          rw [← HD.out] at this
          by_cases e : k = 0
          · have := HZ.out e; omega
          · have h5 := HS.out (by omega); have := this.2.2 (by omega); omega
        by_cases h2 : (i : Int) ≤ d
        · go_wp2
          go_ret
          refine ⟨RetB.f ?_, rfl⟩
          intro hh
          have := hh.2 k (by rw [h.len]; exact hlt)
          rw [← HD.out] at this
          omega
        · go_wp2
          go_round
          case rel =>
            refine ⟨k + 1, by omega, by go_num, ⟨d + 1, rfl, by omega, by omega, fun h => absurd h (by omega), fun _ => by rw [HD.out]; simp⟩, fun j hj => ?_⟩
            by_cases e : j = k
            · subst e
              rw [← HD.out]
              refine ⟨by omega, by omega, fun hj0 => ?_⟩
              have := HS.out hj0; omega
            · exact hok j (by omega)
          case measure => simp [intOf]; omega
      · obtain rfl : k = n := by omega
        go_wp2
        go_ret
        exact ⟨RetB.t ⟨by rw [h.len]; omega, by rw [h.len]; exact hok⟩, rfl⟩

def allDeps (ts : List TaskD) (k : Nat) : Prop := ∀ j, j < k → depsOk j (ts.getD j dT).deps

set_option maxHeartbeats 400000 in
theorem allDepsHold_any (a : Option Addr) (b o n c : Nat) (ts : List TaskD) (w : World) (h : TasksAt w a b o n ts) :
    Calls Tryz.prog 128 #[.slice a n c] w fun e w' => RetB e (allDeps ts n) ∧ Below w.heap.size w w' := by
  have hmax := h.max
  unfold maxLen at hmax
  go_enter Tryz.func128, Tryz.ntmps128
  go_wp2
  go_loopw [7] (fun i wr => ∃ k : Nat, k ≤ n ∧ i = .int .i64 k ∧ allDeps ts k ∧ Below w.heap.size w wr) (fun i _ => n - (intOf i).toNat)
  case atStart => exact ⟨0, Nat.zero_le _, rfl, fun j hj => absurd hj (by omega), Below.refl _ _⟩
  case round =>
    obtain ⟨k, hk, rfl, hok, hb⟩ := hrel
    by_cases hlt : k < n
    · obtain rfl := h.ad (by omega)
      obtain ⟨t, a', b', o', n', c', ht, hc0, hc1, hc2, hi', _, hr1, hr2⟩ := (h.below' hb).get hlt
      have hb' : Below w.heap.size w (wr.alloc (.cells #[.string t.name, .int .i64 t.cost, .slice a' n' c'] 120)) := hb.alloc hb.size _
      have HT : Hid (t = ts.getD k dT) := ht
      clear ht
      go_wp2_with fail
      refine (depsHold_any a' b' o' n' c' k t.deps _ (hi'.below' ((Below.refl _ _).alloc (Nat.le_refl _) _)) (by unfold maxLen; omega)).mono ?_
      rintro e w1 ⟨⟨r, rfl, hr⟩, rfl⟩
      have HR : Hid _ := hr
      clear hr
      cases r
      · go_wp2
        go_ret
        refine ⟨RetB.f ?_, hb'⟩
        intro hh; have := hh k hlt; rw [← HT.out] at this; exact absurd (HR.out.2 this) (by simp)
      · go_wp2
        go_roundw
        case rel =>
          refine ⟨k + 1, by omega, by go_num, fun j hj => ?_, hb'⟩
          by_cases e : j = k
          · subst e; rw [← HT.out]; exact HR.out.1 (by simp)
          · exact hok j (by omega)
        case measure => simp [intOf]; omega
    · obtain rfl : k = n := by omega
      go_wp2
      go_ret
      exact ⟨RetB.t hok, hb⟩
end Go.Proofs.YthopfmhagddhgaaGreat

namespace Go.Proofs.YthopfmhagddhgaaGreat
open Go.RowKit Go.Maps

theorem mapLaw : Keyed Tryz.prog 9 := string_keyed Tryz.underlying9
theorem zeroI (w : World) : (zeroValue 3).run Tryz.prog w = .ok (.int .i64 0) w := by kernel_rfl
def nm (ts : List TaskD) (j : Nat) : ByteArray := (ts.getD j dT).name
def namesOk (ts : List TaskD) (k : Nat) : Prop := ∀ i, i < k → nameOk (nm ts i) ∧ ∀ j, j < i → nm ts j ≠ nm ts i
/-- The map has met just the first k names. -/
def Met (D : DataW Unit) (ts : List TaskD) (k : Nat) : Prop := IsMap D ∧ ∀ l, Maps.has D (.string l) = true ↔ ∃ j, j < k ∧ (nm ts j).data.toList = l
theorem met_nil (ts : List TaskD) : Met (.map []) ts 0 := ⟨⟨_, rfl⟩, fun l => by
  constructor
  · intro h; simp [Maps.has] at h
  · rintro ⟨j, hj, _⟩; omega⟩
theorem isKey (l : List UInt8) : WideAt.IsKeyLit (.string l) := by trivial
theorem isMap_put (D : DataW Unit) (h : IsMap D) (k : Lit) (d : DataW Unit) : IsMap (D.put k d) := by
  obtain ⟨es, rfl⟩ := h
  exact ⟨_, rfl⟩
theorem Met.put {D : DataW Unit} {ts : List TaskD} {k : Nat} {t : TaskD} (h : Met D ts k) (ht : t = ts.getD k dT) (d : DataW Unit) : Met (D.put (.string t.name.data.toList) d) ts (k + 1) := by
  refine ⟨isMap_put D h.1 _ _, fun l => ?_⟩
  by_cases e : l = t.name.data.toList
  · subst e
    rw [has_put_same h.1 (isKey _)]
    exact ⟨fun _ => ⟨k, by omega, by rw [nm, ht]⟩, fun _ => rfl⟩
  · rw [has_put_other (by simpa using e), h.2]
    constructor
    · rintro ⟨j, hj, hl⟩; exact ⟨j, by omega, hl⟩
    · rintro ⟨j, hj, hl⟩
      by_cases ej : j = k
      · subst ej; exact absurd (by rw [← hl, nm, ← ht]) e
      · exact ⟨j, by omega, hl⟩
theorem bytes_ext {s t : ByteArray} (h : s.data.toList = t.data.toList) : s = t := by
  cases s; cases t; simp only [ByteArray.mk.injEq]; exact Array.toList_inj.1 h

set_option maxHeartbeats 1000000 in
theorem namesHold_any (a : Option Addr) (b o n c : Nat) (ts : List TaskD) (w : World) (h : TasksAt w a b o n ts) (hn : n ≤ 1048576) :
    Calls Tryz.prog 126 #[.slice a n c] w fun e w' => RetB e (namesOk ts n) ∧ Below w.heap.size w w' := by
  have hmm := @run_makeMap Tryz.prog
  go_enter Tryz.func126, Tryz.ntmps126
  go_wp2
  go_loopw [11] (fun i wr => ∃ k : Nat, k ≤ n ∧ i = .int .i64 k ∧ (∃ D : DataW Unit, wr.ownsMap Tryz.prog 9 (plainElem Tryz.prog 3) w.heap.size k D ∧ Met D ts k) ∧ namesOk ts k ∧ Below w.heap.size w wr) (fun i _ => n - (intOf i).toNat)
  case atStart => exact ⟨0, Nat.zero_le _, rfl, ⟨_, World.ownsMap_made _ _ _ _, met_nil ts⟩, fun j hj => absurd hj (by omega), (Below.refl _ _).alloc (Nat.le_refl _) _⟩
  case round =>
    obtain ⟨k, hk, rfl, ⟨D, hown, hmet⟩, hok, hb⟩ := hrel
    by_cases hlt : k < n
    · obtain rfl := h.ad (by omega)
      obtain ⟨t, a', b', o', n', c', ht, hc0, hc1, hc2, hi', hsz, hr1, hr2⟩ := (h.below' hb).get hlt
      have hb' : Below w.heap.size w (wr.alloc (.cells #[.string t.name, .int .i64 t.cost, .slice a' n' c'] 120)) := hb.alloc hb.size _
      have hown' := hown.alloc (.cells #[.string t.name, .int .i64 t.cost, .slice a' n' c'] 120)
      have HT : Hid (t = ts.getD k dT) := ht
      clear ht
      have hkey := WideMaps.keyOf_string_mk (P := Tryz.prog) Tryz.underlying9 hsz
      have hml := hown.lt
      cases hhas : Maps.has D (.string t.name.data.toList) with
      | true =>
        go_wp2_with (at_lookup; refine wpList_lookup_own_ok_int _ rfl _ _ 199 rfl 9 3 .i64 mapLaw Tryz.underlying199 Tryz.underlying3 (zeroI _) w.heap.size k D rfl hown' _ _ rfl hkey ?_; intro c0 hat hwc)
        go_wp2
        go_ret
        refine ⟨RetB.f ?_, hb'⟩
        intro hh
        obtain ⟨j, hj, hl⟩ := (hmet.2 _).1 hhas
        refine (hh k hlt).2 j hj (bytes_ext ?_)
        rw [hl, HT.out]; rfl
      | false =>
        have HH : Hid (Maps.has D (.string t.name.data.toList) = false) := hhas
        clear hhas
        go_wp2_with (at_lookup; refine wpList_lookup_own_ok_int _ rfl _ _ 199 rfl 9 3 .i64 mapLaw Tryz.underlying199 Tryz.underlying3 (zeroI _) w.heap.size k D rfl hown' _ _ rfl hkey ?_; intro c0 hat hwc; rw [HH.out])
        refine (isName_any t.name _ hsz).mono ?_
        rintro e w1 ⟨⟨r, rfl, hr⟩, rfl⟩
        have HR : Hid _ := hr
        clear hr hat hwc
        cases r
        · go_wp2
          go_ret
          refine ⟨RetB.f ?_, hb'⟩
          intro hh; have := (hh k hlt).1; rw [nm, ← HT.out] at this; exact absurd (HR.out.2 this) (by simp)
        · go_wp2_with (at_mapUpdate; refine wpList_mapUpdate_own _ rfl _ _ _ 199 rfl 9 3 mapLaw Tryz.underlying199 _ w.heap.size k D rfl hown' (by unfold maxLen; omega) _ _ _ rfl rfl hkey _ [] (plainElem_int Tryz.underlying3 (WalkArith.wf_i64 (by omega))) ?_; intro w1 hown1 hgrow1)
          have hb1 : Below w.heap.size w w1 := hb'.grown hgrow1 (by simp; omega) (by intro k hk; cases hk; exact Nat.le_refl _)
          have hmet1 := hmet.put HT.out (.lit (.int .i64 k))
          clear hgrow1 hown' hown
          go_wp2
          go_roundw
          case rel =>
            refine ⟨k + 1, by omega, by go_num, ⟨_, hown1, hmet1⟩, fun j hj => ?_, hb1⟩
            by_cases e : j = k
            · subst e
              refine ⟨by rw [nm, ← HT.out]; exact HR.out.1 (by simp), fun i hi he => ?_⟩
              have := (hmet.2 t.name.data.toList).2 ⟨i, hi, by rw [he, nm, ← HT.out]⟩
              rw [HH.out] at this; exact absurd this (by simp)
            · exact hok j (by omega)
          case measure => simp [intOf]; omega
    · obtain rfl : k = n := by omega
      go_wp2
      go_ret
      exact ⟨RetB.t hok, hb⟩

/-- The code of a plan. -/
def Code (ts : List TaskD) (c : Int) : Prop :=
  (c = 1 ∧ ¬ (1 ≤ ts.length ∧ ts.length ≤ 40)) ∨ ((1 ≤ ts.length ∧ ts.length ≤ 40) ∧
    ((c = 2 ∧ ¬ namesOk ts ts.length) ∨ (namesOk ts ts.length ∧
      ((c = 3 ∧ ¬ costsOk ts ts.length) ∨ (costsOk ts ts.length ∧
        ((c = 4 ∧ ¬ allDeps ts ts.length) ∨ (allDeps ts ts.length ∧ c = 0)))))))
theorem Code.one {ts : List TaskD} {c d : Int} (h : Code ts c) (h' : Code ts d) : c = d := by
  rcases h with ⟨rfl, h1⟩ | ⟨h1, h⟩ <;> rcases h' with ⟨rfl, h1'⟩ | ⟨h1', h'⟩
  · rfl
  · exact absurd h1' h1
  · exact absurd h1 h1'
  rcases h with ⟨rfl, h2⟩ | ⟨h2, h⟩ <;> rcases h' with ⟨rfl, h2'⟩ | ⟨h2', h'⟩
  · rfl
  · exact absurd h2' h2
  · exact absurd h2 h2'
  rcases h with ⟨rfl, h3⟩ | ⟨h3, h⟩ <;> rcases h' with ⟨rfl, h3'⟩ | ⟨h3', h'⟩
  · rfl
  · exact absurd h3' h3
  · exact absurd h3 h3'
  rcases h with ⟨rfl, h4⟩ | ⟨h4, h⟩ <;> rcases h' with ⟨rfl, h4'⟩ | ⟨h4', h'⟩
  · rfl
  · exact absurd h4' h4
  · exact absurd h4 h4'
  rw [h, h']
/-- An answer that is the code. -/
def RetC (e : Ending) (ts : List TaskD) : Prop := ∃ c, e = .returned (.int .i64 c) ∧ Code ts c
theorem RetC.mk {ts : List TaskD} {c : Int} (h : Code ts c) : RetC (.returned (.int .i64 c)) ts := ⟨c, rfl, h⟩

set_option maxHeartbeats 1000000 in
theorem implCheckPlan_any (a : Option Addr) (b o n c : Nat) (ts : List TaskD) (w : World) (h : TasksAt w a b o n ts) :
    Calls Tryz.prog 98 #[.agg #[.slice a n c]] w fun e w' => RetC e ts ∧ Below w.heap.size w w' := by
  have hmax := h.max
  unfold maxLen at hmax
  have hb0 : Below w.heap.size w (w.alloc (.cells #[.slice a n c] 41)) := (Below.refl _ _).alloc (Nat.le_refl _) _
  have HL : Hid (ts.length = n) := h.len
  by_cases h1 : n < 1
  · go_enter Tryz.func98, Tryz.ntmps98
    go_wp2
    go_ret
    exact ⟨RetC.mk (.inl ⟨rfl, by rw [HL.out]; omega⟩), hb0⟩
  by_cases h2 : 40 < n
  · go_enter Tryz.func98, Tryz.ntmps98
    go_wp2
    go_ret
    exact ⟨RetC.mk (.inl ⟨rfl, by rw [HL.out]; omega⟩), hb0⟩
  have hin : 1 ≤ ts.length ∧ ts.length ≤ 40 := by rw [HL.out]; omega
  go_enter Tryz.func98, Tryz.ntmps98
  go_wp2_with fail
  refine (namesHold_any a b o n c ts _ (h.below' hb0) (by omega)).mono ?_
  rintro e w1 ⟨⟨r, rfl, hr⟩, hb1⟩
  have HR : Hid _ := hr
  clear hr
  have hb01 := hb0.trans (hb1.mono (by simp))
  have hq1 : w1.cell? ⟨w.heap.size, 0, none⟩ = some (.slice a n c) := (hb1.cell (p := ⟨w.heap.size, 0, none⟩) (by simp)).trans (by simp)
  cases r
  · go_wp2
    go_ret
    exact ⟨RetC.mk (.inr ⟨hin, .inl ⟨rfl, fun hh => absurd (HR.out.2 (HL.out ▸ hh)) (by simp)⟩⟩), hb01⟩
  go_wp2_with fail
  refine (costsHold_any a b o n c ts _ (h.below' hb01)).mono ?_
  rintro e w2 ⟨⟨r, rfl, hr⟩, hb2⟩
  have HR2 : Hid _ := hr
  clear hr
  have hb02 := hb01.trans (hb2.mono hb01.size)
  have hz1 : w.heap.size < w1.heap.size := by have := hb1.size; simp at this; omega
  have hq2 : w2.cell? ⟨w.heap.size, 0, none⟩ = some (.slice a n c) := (hb2.cell (p := ⟨w.heap.size, 0, none⟩) hz1).trans hq1
  have hN : namesOk ts ts.length := by rw [HL.out]; exact HR.out.1 (by simp)
  cases r
  · go_wp2
    go_ret
    exact ⟨RetC.mk (.inr ⟨hin, .inr ⟨hN, .inl ⟨rfl, fun hh => absurd (HR2.out.2 (HL.out ▸ hh)) (by simp)⟩⟩⟩), hb02⟩
  go_wp2_with fail
  refine (allDepsHold_any a b o n c ts _ (h.below' hb02)).mono ?_
  rintro e w3 ⟨⟨r, rfl, hr⟩, hb3⟩
  have HR3 : Hid _ := hr
  clear hr
  have hb03 := hb02.trans (hb3.mono hb02.size)
  have hC : costsOk ts ts.length := by rw [HL.out]; exact HR2.out.1 (by simp)
  cases r
  · go_wp2
    go_ret
    exact ⟨RetC.mk (.inr ⟨hin, .inr ⟨hN, .inr ⟨hC, .inl ⟨rfl, fun hh => absurd (HR3.out.2 (HL.out ▸ hh)) (by simp)⟩⟩⟩⟩), hb03⟩
  · have hD : allDeps ts ts.length := by rw [HL.out]; exact HR3.out.1 (by simp)
    go_wp2
    go_ret
    exact ⟨RetC.mk (.inr ⟨hin, .inr ⟨hN, .inr ⟨hC, .inr ⟨hD, rfl⟩⟩⟩⟩), hb03⟩
end Go.Proofs.YthopfmhagddhgaaGreat
