
/-
  impl.openMessage, impl.ReadMessage.
-/
import Derived.Test.YtlgmkmegkojgbaaDoorRBn0
import Derived.Test.YtlgmkmegkojgbaaDoorRBn1
import Derived.Test.YtlgmkmegkojgbaaDoorRBt
import Derived.Test.YtlgmkmegkojgbaaDoorRBu
import Derived.Test.YtlgmkmegkojgbaaDoorRBs
import Derived.Test.YtlgmkmegkojgbaaDoorAs
namespace Go.Proofs.YtlgmkmegkojgbaaDoor
open Go.RowKit

theorem readBody_any (body : ByteArray) (w : World) (hT : Tab w) :
    Calls Tryd.prog 74 #[.string body] w fun e' w' => RetR e' w w' body.data.toList ∧ Below w.heap.size w w' := by
  by_cases h11 : body.data.toList.length < 11
  · exact readBody_s body w hT h11
  · obtain ⟨b0, b1, b2, b3, b4, b5, b6, b7, b8, b9, b10, R, hL⟩ := split11 body.data.toList (by omega)
    by_cases h3 : b0.toNat = 3
    · by_cases h8 : 8 ≤ R.length
      · exact readBody_t body w hT b0 b1 b2 b3 b4 b5 b6 b7 b8 b9 b10 R hL h3 h8
      · exact readBody_u body w hT b0 b1 b2 b3 b4 b5 b6 b7 b8 b9 b10 R hL h3 (by omega)
    · cases h0 : inB (b0.toNat : Int) 1 5 with
      | false => exact readBody_n0 body w hT b0 b1 b2 b3 b4 b5 b6 b7 b8 b9 b10 R hL h3 h0
      | true => exact readBody_n1 body w hT b0 b1 b2 b3 b4 b5 b6 b7 b8 b9 b10 R hL h3 h0

/-- A text is the message's, under the key. -/
def Good (s key : ByteArray) (k f t e l d : Int) (x : ByteArray) (ss : List ByteArray) : Prop := vM k f t e l d x.size ss ∧ key.size ≤ 30 ∧ s = valS key [bodyS k f t e l d x ss] ++ bodyS k f t e l d x ss
def NoGood (s key : ByteArray) : Prop := ¬ ∃ (k f t e l d : Int) (x : ByteArray) (ss : List ByteArray), Good s key k f t e l d x ss
theorem good_body {s key : ByteArray} {k f t e l d : Int} {x : ByteArray} {ss : List ByteArray} (h : Good s key k f t e l d x ss) : 19 ≤ s.size ∧ s.data.toList.drop 8 = bodyL k f t e l d x ss ∧ s.extract 0 8 = valS key [s.extract 8 s.size] := by
  obtain ⟨hv, hk, hs⟩ := h
  have h8 := valS_size key [bodyS k f t e l d x ss]
  have hb := bodyS_size k f t e l d x ss
  have hl : (valS key [bodyS k f t e l d x ss]).data.toList.length = 8 := by rw [Array.length_toList]; exact h8
  have hsl : s.data.toList = (valS key [bodyS k f t e l d x ss]).data.toList ++ bodyL k f t e l d x ss := by rw [hs]; simp [bodyS]
  have hd : s.data.toList.drop 8 = bodyL k f t e l d x ss := by rw [hsl, List.drop_append_of_le_length (by omega), List.drop_of_length_le (by omega), List.nil_append]
  have he : s.extract 8 s.size = bodyS k f t e l d x ss := by
    apply ba_eq
    rw [ext_list, List.take_of_length_le (by rw [Array.length_toList]; exact Nat.le_refl _), hd]
    rfl
  refine ⟨?_, hd, ?_⟩
  · rw [hs, ByteArray.size_append, h8, hb]; omega
  · rw [he]
    apply ba_eq
    rw [ext_list, List.drop_zero, hsl, List.take_append_of_le_length (by omega), List.take_of_length_le (by omega)]
theorem good_mk {s key : ByteArray} {k f t e l d : Int} {x : ByteArray} {ss : List ByteArray} (hk : key.size ≤ 30) (hs : s.extract 0 8 = valS key [s.extract 8 s.size]) (hv : vM k f t e l d x.size ss) (hb : bodyL k f t e l d x ss = (s.extract 8 s.size).data.toList) : Good s key k f t e l d x ss := by
  have he : bodyS k f t e l d x ss = s.extract 8 s.size := by apply ba_eq; rw [← hb]; rfl
  refine ⟨hv, hk, ?_⟩
  rw [he, ← hs]
  apply ba_eq
  simp
theorem noGood_of {s key : ByteArray} (h : NoRead (s.extract 8 s.size).data.toList) : NoGood s key := by
  rintro ⟨k, f, t, e, l, d, x, ss, hg⟩
  obtain ⟨h19, hd, _⟩ := good_body hg
  exact h ⟨k, f, t, e, l, d, x, ss, hg.1, by rw [← hd, ext_list, List.take_of_length_le (by rw [Array.length_toList]; exact Nat.le_refl _)]⟩

/-- What openMessage answers. -/
def RetO (e' : Ending) (w w' : World) (s key : ByteArray) : Prop :=
  (∃ a, e' = .returned (.tuple #[.agg zM.toArray, .iface 73 (.pointer (some a))]) ∧ NoGood s key) ∨
  (∃ (k f t e l d : Int) (x : ByteArray) (ss : List ByteArray) (v : Value), e' = .returned (.tuple #[.agg #[.int .i64 k, .int .i64 f, .int .i64 t, .int .i64 e, .int .i64 l, .int .i64 d, .string x, v], .nilIface]) ∧ Good s key k f t e l d x ss ∧ Own w.heap.size w' 1 v ss.length (ss.map Value.string))

set_option maxHeartbeats 1000000 in
set_option maxRecDepth 100000 in
theorem open_1 (s key : ByteArray) (w : World) (h : 30 < key.size) (hk : key.size ≤ maxLen) :
    Calls Tryd.prog 44 #[.string s, .string key] w fun e' w' => RetO e' w w' s key ∧ Below w.heap.size w w' := by
  unfold maxLen at hk
  have HN : Hid (NoGood s key) := by
    rintro ⟨k, f, t, e, l, d, x, ss, hg⟩
    have := hg.2.1; omega
  go_enter Tryd.func44, Tryd.ntmps44
  go_wp2
  exact bodyPost_ret (v := .tuple #[.agg zM.toArray, .iface 73 (.pointer (some ⟨w.heap.size + 1, 0, none⟩))]) (by simp [results, Tryd.results44, go_sem, zM]) rfl ⟨.inl ⟨_, rfl, HN.out⟩, ((Below.refl _ _).alloc (Nat.le_refl _) _).alloc (by simp) _⟩

set_option maxHeartbeats 1000000 in
set_option maxRecDepth 100000 in
theorem open_2 (s key : ByteArray) (w : World) (h : key.size ≤ 30) (hs : s.size < 8) :
    Calls Tryd.prog 44 #[.string s, .string key] w fun e' w' => RetO e' w w' s key ∧ Below w.heap.size w w' := by
  have HN : Hid (NoGood s key) := by
    rintro ⟨k, f, t, e, l, d, x, ss, hg⟩
    have := (good_body hg).1; omega
  go_enter Tryd.func44, Tryd.ntmps44
  go_wp2
  exact bodyPost_ret (v := .tuple #[.agg zM.toArray, .iface 73 (.pointer (some ⟨w.heap.size + 1, 0, none⟩))]) (by simp [results, Tryd.results44, go_sem, zM]) rfl ⟨.inl ⟨_, rfl, HN.out⟩, ((Below.refl _ _).alloc (Nat.le_refl _) _).alloc (by simp) _⟩

set_option maxHeartbeats 1000000 in
set_option maxRecDepth 100000 in
theorem open_3 (s key : ByteArray) (w : World) (hT : Tab w) (h : key.size ≤ 30) (hs : 8 ≤ s.size) (hm : s.size ≤ maxLen) :
    Calls Tryd.prog 44 #[.string s, .string key] w fun e' w' => RetO e' w w' s key ∧ Below w.heap.size w w' := by
  have hm63 := hm
  unfold maxLen at hm63
  obtain ⟨W, hW⟩ : ∃ W, W = w.alloc (.cells zM.toArray 27) := ⟨_, rfl⟩
  have hbW : Below w.heap.size w W := by rw [hW]; exact (Below.refl _ _).alloc (Nat.le_refl _) _
  have hsW : W.heap.size = w.heap.size + 1 := by rw [hW]; simp
  have hcf : CF W w.heap.size zM := by rw [hW]; exact CF.made w zM.toArray _
  have hes : (s.extract 8 s.size).size ≤ maxLen := by rw [ByteArray.size_extract]; unfold maxLen; omega
  by_cases he : s.extract 0 8 = valS key [s.extract 8 s.size]
  · have hseal : ∀ w1 : World, Calls Tryd.prog 42 #[.string (s.extract 8 s.size), .string key] w1 fun e w' => e = .returned (.string (s.extract 0 8)) ∧ Below w1.heap.size w1 w' := fun w1 => by
      rw [he]; exact seal_any _ _ w1 (by unfold maxLen; omega) hes
    have HE := hid he
    have HS := hid hseal
    have hTd := hT.below hbW.drew hT.pos
    have hbWd := hbW.drew
    clear he hseal
    simp only [zM] at hW
    go_enter Tryd.func44, Tryd.ntmps44
    go_wp2_with fail
    rw [← hW]
    clear hW
    go_region_held3 (fun _ => True) (trivial) (first | (go_at_call 42; refine (HS.out _).mono ?_; rintro e' w1 ⟨rfl, hb1⟩; have hB1 := hbWd.trans (hb1.mono hbWd.size)))
    have hcf1 : CF w1 w.heap.size zM := hcf.block (hb1.block _ (by rw [show W.drew.heap.size = W.heap.size from rfl]; omega))
    go_wp2_with fail
    refine (readBody_any _ _ (hT.below hB1 hT.pos)).mono ?_
    rintro e' w2 ⟨hret, hb2⟩
    have hB2 := hB1.trans (hb2.mono hB1.size)
    have hlt1 : w.heap.size < w1.heap.size := by have := hb1.size; have : W.drew.heap.size = W.heap.size := rfl; omega
    have hcf2 : CF w2 w.heap.size zM := hcf1.block (hb2.block _ hlt1)
    rcases hret with ⟨a, rfl, hno⟩ | ⟨k, f, t, e, l, d, x, ss, v, rfl, hv, hbd, hown⟩
    · have HN := hid (noGood_of (key := key) hno)
      clear hno hcf hcf1
      go_wp2_with (refine wpList_store_cf rfl 27 (.tmp 4) (.tmp 35) rfl w.heap.size zM [.int .i64 0, .int .i64 0, .int .i64 0, .int .i64 0, .int .i64 0, .int .i64 0, .string ⟨#[]⟩, .slice none 0 0] rfl rfl hcf2 rfl Tryd.sizeMsg (one8 _ _ _ _ _ _ _ _ _ _) ?_; intro w10 hc10 hg10)
      have k0 : w10.cell? ⟨w.heap.size, 0, none⟩ = some (.int .i64 0) := (hc10 0 (by simp)).1
      have k1 : w10.cell? ⟨w.heap.size, 1, none⟩ = some (.int .i64 0) := (hc10 1 (by simp)).1
      have k2 : w10.cell? ⟨w.heap.size, 2, none⟩ = some (.int .i64 0) := (hc10 2 (by simp)).1
      have k3 : w10.cell? ⟨w.heap.size, 3, none⟩ = some (.int .i64 0) := (hc10 3 (by simp)).1
      have k4 : w10.cell? ⟨w.heap.size, 4, none⟩ = some (.int .i64 0) := (hc10 4 (by simp)).1
      have k5 : w10.cell? ⟨w.heap.size, 5, none⟩ = some (.int .i64 0) := (hc10 5 (by simp)).1
      have k6 : w10.cell? ⟨w.heap.size, 6, none⟩ = some (.string ⟨#[]⟩) := (hc10 6 (by simp)).1
      have k7 : w10.cell? ⟨w.heap.size, 7, none⟩ = some (.slice none 0 0) := (hc10 7 (by simp)).1
      exact bodyPost_ret (v := .tuple #[.agg zM.toArray, .iface 73 (.pointer (some a))]) (by simp [results, Tryd.results44, go_sem, zM, k0, k1, k2, k3, k4, k5, k6, k7]) rfl ⟨.inl ⟨_, rfl, HN.out⟩, hB2.grown hg10 (by have := hB2.size; omega) (fun q hq => by simp at hq; omega)⟩
    · have HG := hid (good_mk (s := s) (key := key) h HE.out hv hbd)
      obtain ⟨a7, c7, rfl⟩ := hown.slc
      clear hcf hcf1 hv hbd
      go_wp2_with (refine wpList_store_cf rfl 27 (.tmp 4) (.tmp 35) rfl w.heap.size zM [.int .i64 k, .int .i64 f, .int .i64 t, .int .i64 e, .int .i64 l, .int .i64 d, .string x, .slice a7 ss.length c7] rfl rfl hcf2 rfl Tryd.sizeMsg (one8 _ _ _ _ _ _ _ _ _ _) ?_; intro w10 hc10 hg10)
      have k0 : w10.cell? ⟨w.heap.size, 0, none⟩ = some (.int .i64 k) := (hc10 0 (by simp)).1
      have k1 : w10.cell? ⟨w.heap.size, 1, none⟩ = some (.int .i64 f) := (hc10 1 (by simp)).1
      have k2 : w10.cell? ⟨w.heap.size, 2, none⟩ = some (.int .i64 t) := (hc10 2 (by simp)).1
      have k3 : w10.cell? ⟨w.heap.size, 3, none⟩ = some (.int .i64 e) := (hc10 3 (by simp)).1
      have k4 : w10.cell? ⟨w.heap.size, 4, none⟩ = some (.int .i64 l) := (hc10 4 (by simp)).1
      have k5 : w10.cell? ⟨w.heap.size, 5, none⟩ = some (.int .i64 d) := (hc10 5 (by simp)).1
      have k6 : w10.cell? ⟨w.heap.size, 6, none⟩ = some (.string x) := (hc10 6 (by simp)).1
      have k7 : w10.cell? ⟨w.heap.size, 7, none⟩ = some (.slice a7 ss.length c7) := (hc10 7 (by simp)).1
      refine bodyPost_ret (v := .tuple #[.agg #[.int .i64 k, .int .i64 f, .int .i64 t, .int .i64 e, .int .i64 l, .int .i64 d, .string x, .slice a7 ss.length c7], .nilIface]) (by simp [results, Tryd.results44, go_sem, k0, k1, k2, k3, k4, k5, k6, k7]) rfl ⟨.inr ⟨_, _, _, _, _, _, _, ss, _, rfl, HG.out, ?_⟩, hB2.grown hg10 (by have := hB2.size; omega) (fun q hq => by simp at hq; omega)⟩
      exact (hown.grown hg10 (.inr (by intro hh; have := hown.row_lo _ hh; omega))).mono' (by omega)
  · have HN : Hid (NoGood s key) := by
      rintro ⟨k, f, t, e, l, d, x, ss, hg⟩
      exact he (good_body hg).2.2
    obtain ⟨v, hv⟩ : ∃ v, v = valS key [s.extract 8 s.size] := ⟨_, rfl⟩
    have hseal : ∀ w1 : World, Calls Tryd.prog 42 #[.string (s.extract 8 s.size), .string key] w1 fun e w' => e = .returned (.string v) ∧ Below w1.heap.size w1 w' := fun w1 => by
      rw [hv]; exact seal_any _ _ w1 (by unfold maxLen; omega) hes
    have HS := hid hseal
    have hbWd := hbW.drew
    rw [← hv] at he
    have he' : ((s.extract 0 8).toList == v.toList) = false := beq_false_of_ne (fun hh => he (ba_eq (by rw [← ByteArray.toList_eq, ← ByteArray.toList_eq]; exact hh)))
    clear hv hseal
    simp only [zM] at hW
    go_enter Tryd.func44, Tryd.ntmps44
    go_wp2_with fail
    rw [← hW]
    clear hW
    go_region_held3 (fun _ => True) (trivial) (first | (go_at_call 42; refine (HS.out _).mono ?_; rintro e' w1 ⟨rfl, hb1⟩; have hB1 := hbWd.trans (hb1.mono hbWd.size)))
    have hcf1 : CF w1 w.heap.size zM := hcf.block (hb1.block _ (by rw [show W.drew.heap.size = W.heap.size from rfl]; omega))
    have hlt1 : w.heap.size < w1.heap.size := by have := hb1.size; have : W.drew.heap.size = W.heap.size := rfl; omega
    have hcf2 : CF (w1.alloc (.cells #[.string ⟨#[105, 116, 115, 32, 115, 101, 97, 108, 32, 105, 115, 32, 119, 114, 111, 110, 103]⟩] 113)) w.heap.size zM := hcf1.block (Below.heap_alloc _ _ _ hlt1)
    have hB2 := hB1.alloc (o := .cells #[.string ⟨#[105, 116, 115, 32, 115, 101, 97, 108, 32, 105, 115, 32, 119, 114, 111, 110, 103]⟩] 113) (by omega)
    clear hcf hcf1
    go_wp2_with (refine wpList_store_cf rfl 27 (.tmp 4) (.tmp 29) rfl w.heap.size zM [.int .i64 0, .int .i64 0, .int .i64 0, .int .i64 0, .int .i64 0, .int .i64 0, .string ⟨#[]⟩, .slice none 0 0] rfl rfl hcf2 rfl Tryd.sizeMsg (one8 _ _ _ _ _ _ _ _ _ _) ?_; intro w10 hc10 hg10)
    have k0 : w10.cell? ⟨w.heap.size, 0, none⟩ = some (.int .i64 0) := (hc10 0 (by simp)).1
    have k1 : w10.cell? ⟨w.heap.size, 1, none⟩ = some (.int .i64 0) := (hc10 1 (by simp)).1
    have k2 : w10.cell? ⟨w.heap.size, 2, none⟩ = some (.int .i64 0) := (hc10 2 (by simp)).1
    have k3 : w10.cell? ⟨w.heap.size, 3, none⟩ = some (.int .i64 0) := (hc10 3 (by simp)).1
    have k4 : w10.cell? ⟨w.heap.size, 4, none⟩ = some (.int .i64 0) := (hc10 4 (by simp)).1
    have k5 : w10.cell? ⟨w.heap.size, 5, none⟩ = some (.int .i64 0) := (hc10 5 (by simp)).1
    have k6 : w10.cell? ⟨w.heap.size, 6, none⟩ = some (.string ⟨#[]⟩) := (hc10 6 (by simp)).1
    have k7 : w10.cell? ⟨w.heap.size, 7, none⟩ = some (.slice none 0 0) := (hc10 7 (by simp)).1
    exact bodyPost_ret (v := .tuple #[.agg zM.toArray, .iface 73 (.pointer (some ⟨w1.heap.size, 0, none⟩))]) (by simp [results, Tryd.results44, go_sem, zM, k0, k1, k2, k3, k4, k5, k6, k7]) rfl ⟨.inl ⟨_, rfl, HN.out⟩, hB2.grown hg10 (by simp; omega) (fun q hq => by simp at hq; omega)⟩

theorem open_any (s key : ByteArray) (w : World) (hT : Tab w) (hk : key.size ≤ maxLen) (hm : s.size ≤ maxLen) :
    Calls Tryd.prog 44 #[.string s, .string key] w fun e' w' => RetO e' w w' s key ∧ Below w.heap.size w w' := by
  by_cases h : 30 < key.size
  · exact open_1 s key w h hk
  · by_cases hs : s.size < 8
    · exact open_2 s key w (by omega) hs
    · exact open_3 s key w hT (by omega) (by omega) hm

/-- What ReadMessage answers. -/
def RetM (e' : Ending) (w w' : World) (s key : ByteArray) : Prop :=
  (e' = .returned (.tuple #[.agg zM.toArray, .bool false]) ∧ NoGood s key) ∨
  (∃ (k f t e l d : Int) (x : ByteArray) (ss : List ByteArray) (v : Value), e' = .returned (.tuple #[.agg #[.int .i64 k, .int .i64 f, .int .i64 t, .int .i64 e, .int .i64 l, .int .i64 d, .string x, v], .bool true]) ∧ Good s key k f t e l d x ss ∧ Own w.heap.size w' 1 v ss.length (ss.map Value.string))

theorem as_hit2 (e : Addr) (g : Nat) (old : Value) (w : World) (hg : ErrT w) (ht0 : w.cell? ⟨g, 0, none⟩ = some old) (hf0 : w.frozen? ⟨g, 0, none⟩ = false) :
    Calls Tryd.prog 45 #[.iface 73 (.pointer (some e)), .iface 75 (.pointer (some ⟨g, 0, none⟩))] w fun ev w' => ev = .returned (.bool true) ∧ w.grownBy w' (some g) := by
  refine (as_hit e ⟨g, 0, none⟩ old w hg ht0 hf0).mono ?_
  rintro ev w' ⟨rfl, rfl⟩
  exact ⟨rfl, gset (galloc (galloc (galloc (galloc (World.grownBy.refl w (some g)) _) _) _) _) 0 _⟩
theorem ErrT.below {w w' : World} {C : Nat} (h : ErrT w) (hb : Below C w w') (hC : 1 < C) : ErrT w' := (hb.cell (p := ⟨1, 0, none⟩) hC).trans h
theorem ErrT.pos {w : World} (h : ErrT w) : 1 < w.heap.size := World.block_lt_of_cell? _ _ h

set_option maxHeartbeats 1000000 in
set_option maxRecDepth 100000 in
theorem implRead_any (s key : ByteArray) (w : World) (hT : Tab w) (hE : ErrT w) (hk : key.size ≤ maxLen) (hm : s.size ≤ maxLen) :
    Calls Tryd.prog 14 #[.string s, .string key] w fun e' w' => RetM e' w w' s key ∧ Below w.heap.size w w' := by
  obtain ⟨W, hW⟩ : ∃ W, W = w.alloc (.cells zM.toArray 27) := ⟨_, rfl⟩
  have hbW : Below w.heap.size w W := by rw [hW]; exact (Below.refl _ _).alloc (Nat.le_refl _) _
  have hsW : W.heap.size = w.heap.size + 1 := by rw [hW]; simp
  have hcf : CF W w.heap.size zM := by rw [hW]; exact CF.made w zM.toArray _
  have hTW := hT.below hbW hT.pos
  have hpos := hE.pos
  simp only [zM] at hW
  go_enter Tryd.func14, Tryd.ntmps14
  go_wp2_with fail
  rw [← hW]
  clear hW
  refine (open_any s key _ hTW hk hm).mono ?_
  rintro e' w1 ⟨hret, hb1⟩
  have hlt1 : w.heap.size < w1.heap.size := by have := hb1.size; omega
  have hB1 := hbW.trans (hb1.mono (by omega))
  have hW2 : ∀ cs : Array Value, CF ((w1.alloc (.cells cs 27)).alloc (.cells #[.pointer none] 73)) w.heap.size zM ∧ Below w.heap.size w ((w1.alloc (.cells cs 27)).alloc (.cells #[.pointer none] 73)) := fun cs =>
    ⟨((hcf.block (hb1.block _ (by omega))).block (Below.heap_alloc _ _ _ hlt1)).block (Below.heap_alloc _ _ _ (by simp; omega)), (hB1.alloc (by omega) _).alloc (by simp; omega) _⟩
  clear hcf hb1
  rcases hret with ⟨a, rfl, hno⟩ | ⟨k, f, t, e, l, d, x, ss, v, rfl, hgd, hown⟩
  · have HN := hid hno
    clear hno
    obtain ⟨hcf1, hB1'⟩ := hW2 #[.int .i64 0, .int .i64 0, .int .i64 0, .int .i64 0, .int .i64 0, .int .i64 0, .string ⟨#[]⟩, .slice none 0 0]
    have hE1 := hE.below hB1' hpos
    have hct : ((w1.alloc (.cells #[.int .i64 0, .int .i64 0, .int .i64 0, .int .i64 0, .int .i64 0, .int .i64 0, .string ⟨#[]⟩, .slice none 0 0] 27)).alloc (.cells #[.pointer none] 73)).cell? ⟨w1.heap.size + 1, 0, none⟩ = some (.pointer none) := by simp
    have hft : ((w1.alloc (.cells #[.int .i64 0, .int .i64 0, .int .i64 0, .int .i64 0, .int .i64 0, .int .i64 0, .string ⟨#[]⟩, .slice none 0 0] 27)).alloc (.cells #[.pointer none] 73)).frozen? ⟨w1.heap.size + 1, 0, none⟩ = false := by simp
    clear hW2
    simp only [zM]
    go_wp2_with fail
    refine (as_hit2 a (w1.heap.size + 1) _ _ hE1 hct hft).mono ?_
    rintro e' w2 ⟨rfl, hg2⟩
    have hcf2 := hcf1.block (hg2.block w.heap.size (by simp; omega) (by simp; omega))
    have hB2 := hB1'.grown hg2 (by simp; omega) (fun q hq => by simp at hq; omega)
    clear hcf1 hct hft
    go_wp2_with (refine wpList_store_cf rfl 27 (.tmp 4) _ rfl w.heap.size zM [.int .i64 0, .int .i64 0, .int .i64 0, .int .i64 0, .int .i64 0, .int .i64 0, .string ⟨#[]⟩, .slice none 0 0] rfl rfl hcf2 rfl Tryd.sizeMsg (one8 _ _ _ _ _ _ _ _ _ _) ?_; intro w10 hc10 hg10)
    have k0 : w10.cell? ⟨w.heap.size, 0, none⟩ = some (.int .i64 0) := (hc10 0 (by simp)).1
    have k1 : w10.cell? ⟨w.heap.size, 1, none⟩ = some (.int .i64 0) := (hc10 1 (by simp)).1
    have k2 : w10.cell? ⟨w.heap.size, 2, none⟩ = some (.int .i64 0) := (hc10 2 (by simp)).1
    have k3 : w10.cell? ⟨w.heap.size, 3, none⟩ = some (.int .i64 0) := (hc10 3 (by simp)).1
    have k4 : w10.cell? ⟨w.heap.size, 4, none⟩ = some (.int .i64 0) := (hc10 4 (by simp)).1
    have k5 : w10.cell? ⟨w.heap.size, 5, none⟩ = some (.int .i64 0) := (hc10 5 (by simp)).1
    have k6 : w10.cell? ⟨w.heap.size, 6, none⟩ = some (.string ⟨#[]⟩) := (hc10 6 (by simp)).1
    have k7 : w10.cell? ⟨w.heap.size, 7, none⟩ = some (.slice none 0 0) := (hc10 7 (by simp)).1
    exact bodyPost_ret (v := .tuple #[.agg zM.toArray, .bool false]) (by simp [results, Tryd.results14, go_sem, zM, k0, k1, k2, k3, k4, k5, k6, k7]) rfl ⟨.inl ⟨rfl, HN.out⟩, hB2.grown hg10 (by have := hB2.size; omega) (fun q hq => by simp at hq; omega)⟩
  · have HG := hid hgd
    obtain ⟨a7, c7, rfl⟩ := hown.slc
    have hown1 := (hown.alloc (.cells #[.int .i64 k, .int .i64 f, .int .i64 t, .int .i64 e, .int .i64 l, .int .i64 d, .string x, .slice a7 ss.length c7] 27)).alloc (.cells #[.pointer none] 73)
    obtain ⟨hcf1, hB1'⟩ := hW2 #[.int .i64 k, .int .i64 f, .int .i64 t, .int .i64 e, .int .i64 l, .int .i64 d, .string x, .slice a7 ss.length c7]
    clear hW2
    clear hgd
    go_wp2_with fail
    refine (as_nil _ _).mono ?_
    rintro e' w2 ⟨rfl, rfl⟩
    go_wp2_with (refine wpList_store_cf rfl 27 (.tmp 4) _ rfl w.heap.size zM [.int .i64 k, .int .i64 f, .int .i64 t, .int .i64 e, .int .i64 l, .int .i64 d, .string x, .slice a7 ss.length c7] rfl rfl hcf1 rfl Tryd.sizeMsg (one8 _ _ _ _ _ _ _ _ _ _) ?_; intro w10 hc10 hg10)
    have k0 : w10.cell? ⟨w.heap.size, 0, none⟩ = some (.int .i64 k) := (hc10 0 (by simp)).1
    have k1 : w10.cell? ⟨w.heap.size, 1, none⟩ = some (.int .i64 f) := (hc10 1 (by simp)).1
    have k2 : w10.cell? ⟨w.heap.size, 2, none⟩ = some (.int .i64 t) := (hc10 2 (by simp)).1
    have k3 : w10.cell? ⟨w.heap.size, 3, none⟩ = some (.int .i64 e) := (hc10 3 (by simp)).1
    have k4 : w10.cell? ⟨w.heap.size, 4, none⟩ = some (.int .i64 l) := (hc10 4 (by simp)).1
    have k5 : w10.cell? ⟨w.heap.size, 5, none⟩ = some (.int .i64 d) := (hc10 5 (by simp)).1
    have k6 : w10.cell? ⟨w.heap.size, 6, none⟩ = some (.string x) := (hc10 6 (by simp)).1
    have k7 : w10.cell? ⟨w.heap.size, 7, none⟩ = some (.slice a7 ss.length c7) := (hc10 7 (by simp)).1
    refine bodyPost_ret (v := .tuple #[.agg #[.int .i64 k, .int .i64 f, .int .i64 t, .int .i64 e, .int .i64 l, .int .i64 d, .string x, .slice a7 ss.length c7], .bool true]) (by simp [results, Tryd.results14, go_sem, k0, k1, k2, k3, k4, k5, k6, k7]) rfl ⟨.inr ⟨_, _, _, _, _, _, _, ss, _, rfl, HG.out, ?_⟩, hB1'.grown hg10 (by simp; omega) (fun q hq => by simp at hq; omega)⟩
    exact (hown1.grown hg10 (.inr (by intro hh; have := hown.row_lo _ hh; omega))).mono' (by omega)
end Go.Proofs.YtlgmkmegkojgbaaDoor
