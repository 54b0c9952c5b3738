
/-
  WorkerTake's contracts with lengths by name; a message's size and marks from any number on.
-/
import Derived.Test.YthogdlabinnndaaDoorTas
import Derived.Test.YthogdlabinnndaaDoorTai
import Derived.Test.YthogdlabinnndaaDoorLwv
import Derived.Test.YthogdlabinnndaaDoorMid
namespace Go.Proofs.YthogdlabinnndaaDoor
open Go.RowKit

def takeR2 (d : WD) (ts : List TaskD) (k f t e l dd : Int) (y : ByteArray) (ms : List ByteArray) (r : WD × Option OM) : Prop := takeR d ts k f t e l dd y ms r.1 ∧ r.2 = none
theorem takeR2.uniq {d : WD} {ts : List TaskD} {k f t e l dd : Int} {y : ByteArray} {ms : List ByteArray} {r r' : WD × Option OM} (h : takeR2 d ts k f t e l dd y ms r) (h' : takeR2 d ts k f t e l dd y ms r') : r = r' :=
  Prod.ext (h.1.uniq h'.1) (h.2.trans h'.2.symm)
theorem takeR2.small {d : WD} {ts : List TaskD} {k f t e l dd : Int} {y : ByteArray} {ms : List ByteArray} {r : WD × Option OM} (h : takeR2 d ts k f t e l dd y ms r) : r.1.ss.length ≤ 8 ∧ ∀ s ∈ r.1.ss, s.size ≤ maxLen := h.1.small
theorem sTakeN_any (nu ep : Int) (up : Bool) (st le ta co lf : Int) (a : Option Addr) (b o n c : Nat) (ss : List ByteArray) (x : ByteArray) (si : Int) (pa : Option Addr) (pb po pn pc : Nat) (ts : List TaskD) (k f t e l dd : Int) (y : ByteArray) (ma : Option Addr) (mb mo mn mc : Nat) (ms : List ByteArray) (w : World)
    (h : StrsAt w a b o n ss) (hp : TasksAt w pa pb po pn ts) (hm : StrsAt w ma mb mo mn ms) (hn : n ≤ 1048576) (hmn : mn ≤ 1048576) :
    Calls Tryd.prog 7 #[.agg #[.int .i64 nu, .int .i64 ep, .bool up, .int .i64 st, .int .i64 le, .int .i64 ta, .int .i64 co, .int .i64 lf, .slice a n c, .string x, .int .i64 si], .agg #[.slice pa pn pc], .agg #[.int .i64 k, .int .i64 f, .int .i64 t, .int .i64 e, .int .i64 l, .int .i64 dd, .string y, .slice ma mn mc]] w fun e' w' => RetA e' w.heap.size w' (takeR2 ⟨nu, ep, up, st, le, ta, co, lf, ss, x, si⟩ ts k f t e l dd y ms) ∧ Below w.heap.size w w' := by
  obtain rfl := h.len
  obtain rfl := hm.len
  exact sTake_any ⟨nu, ep, up, st, le, ta, co, lf, ss, x, si⟩ a b o c pa pb po pn pc ts k f t e l dd y ma mb mo mc ms w h hp hm hn hmn
theorem iTakeN_any (nu ep : Int) (up : Bool) (st le ta co lf : Int) (a : Option Addr) (b o n c : Nat) (ss : List ByteArray) (x : ByteArray) (si : Int) (pa : Option Addr) (pb po pn pc : Nat) (ts : List TaskD) (k f t e l dd : Int) (y : ByteArray) (ma : Option Addr) (mb mo mn mc : Nat) (ms : List ByteArray) (w : World)
    (h : StrsAt w a b o n ss) (hp : TasksAt w pa pb po pn ts) (hm : StrsAt w ma mb mo mn ms) (hn : n ≤ 1048576) (hmn : mn ≤ 1048576) (hTab : Tab w) :
    Calls Tryd.prog 11 #[.agg #[.int .i64 nu, .int .i64 ep, .bool up, .int .i64 st, .int .i64 le, .int .i64 ta, .int .i64 co, .int .i64 lf, .slice a n c, .string x, .int .i64 si], .agg #[.slice pa pn pc], .agg #[.int .i64 k, .int .i64 f, .int .i64 t, .int .i64 e, .int .i64 l, .int .i64 dd, .string y, .slice ma mn mc]] w fun e' w' => RetA e' w.heap.size w' (takeR2 ⟨nu, ep, up, st, le, ta, co, lf, ss, x, si⟩ ts k f t e l dd y ms) ∧ Below w.heap.size w w' := by
  obtain rfl := h.len
  obtain rfl := hm.len
  exact iTake_any ⟨nu, ep, up, st, le, ta, co, lf, ss, x, si⟩ a b o c pa pb po pn pc ts k f t e l dd y ma mb mo mc ms w h hp hm hn hmn hTab
set_option maxHeartbeats 1000000 in
theorem szMessageL_any (k f t e l d : Int) (x : ByteArray) (a : Option Addr) (b o n c : Nat) (ss : List ByteArray) (left : Int) (w : World) (h0 : 0 ≤ left) (h9 : left ≤ 1048576) (h : StrsAt w a b o n ss) (hx : x.size ≤ maxLen) :
    Calls Tryd.prog 6 #[.agg #[.int .i64 k, .int .i64 f, .int .i64 t, .int .i64 e, .int .i64 l, .int .i64 d, .string x, .slice a n c], .int .i64 left] w fun e w' => (∃ r, e = .returned (.int .i64 r) ∧ (r = -1 ∨ 0 ≤ r ∧ n + tot ss ≤ 1048576 ∧ x.size ≤ 1048576)) ∧ Below w.heap.size w w' := by
  unfold maxLen at hx
  obtain ⟨W, hW⟩ : ∃ W, W = w.alloc (.cells #[.int .i64 k, .int .i64 f, .int .i64 t, .int .i64 e, .int .i64 l, .int .i64 d, .string x, .slice a n c] 29) := ⟨_, rfl⟩
  have hbW : Below w.heap.size w W := by rw [hW]; exact (Below.refl _ _).alloc (Nat.le_refl _) _
  by_cases h1 : left - x.size < 0
  · go_enter Tryd.func6, Tryd.ntmps6
    go_wp2
    go_ret
    exact ⟨⟨_, rfl, .inl rfl⟩, by rw [hW] at hbW; exact hbW⟩
  · go_enter Tryd.func6, Tryd.ntmps6
    go_wp2_with fail
    rw [← hW]
    refine (szStringS_any a b o n c ss _ _ (by omega) (by omega) (h.below' hbW)).mono ?_
    rintro e w' ⟨⟨r, rfl, hr⟩, rfl⟩
    clear hW
    rcases hr with rfl | ⟨hr, hr0⟩
    · go_wp2
      go_ret
      exact ⟨⟨_, rfl, .inl rfl⟩, hbW⟩
    · have hs : n + tot ss ≤ 1048576 := by omega
      clear hr
      go_wp2
      go_ret
      exact ⟨⟨_, rfl, .inr ⟨hr0, hs, by omega⟩⟩, hbW⟩
set_option maxHeartbeats 1000000 in
set_option maxRecDepth 100000 in
theorem markMessageK_own (k f t e l d : Int) (x : ByteArray) (a : Option Addr) (n c m : Nat) (B : Nat) (xs : List Value) (w : World) (hm0 : 0 < m) (hm1 : m ≤ 2199023255552) (hn : n ≤ 1048576) (h : Own B w 1 (.slice a n c) n xs) :
    Calls Tryd.prog 18 #[.agg #[.int .i64 k, .int .i64 f, .int .i64 t, .int .i64 e, .int .i64 l, .int .i64 d, .string x, .slice a n c], .int .i64 (m : Int)] w fun e' w' => (∃ r : Int, e' = .returned (.int .i64 r) ∧ 0 ≤ r) ∧ w.grownBy w' (Value.slice a n c).ownBlock := by
  obtain ⟨W, hW⟩ : ∃ W, W = w.alloc (.cells #[.int .i64 k, .int .i64 f, .int .i64 t, .int .i64 e, .int .i64 l, .int .i64 d, .string x, .slice a n c] 43) := ⟨_, rfl⟩
  have hgW : w.grownBy W (Value.slice a n c).ownBlock := by rw [hW]; exact galloc (World.grownBy.refl _ _) _
  have hoW : Own B W 1 (.slice a n c) n xs := by rw [hW]; exact h.alloc _
  have HK : Hid (∀ w1 : World, Own B w1 1 (.slice a n c) n xs → Calls Tryd.prog 36 #[.slice a n c, .int .i64 (m : Int)] w1 fun e w' => (∃ r : Int, e = .returned (.int .i64 r) ∧ 0 ≤ r) ∧ w1.grownBy w' (Value.slice a n c).ownBlock) := hid fun w1 h1 => (markStringS_own2 a n c m B xs w1 (by omega) (by omega) hn h1).mono fun e w' ⟨he, _, hg⟩ => ⟨⟨_, he, by omega⟩, hg⟩
  go_enter Tryd.func18, Tryd.ntmps18
  go_wp2_with fail
  rw [← hW]
  refine (HK.out _ hoW).mono ?_
  rintro e' w1 ⟨⟨r, rfl, hr⟩, hg1⟩
  clear hW
  go_wp2
  go_ret
  exact ⟨⟨r, rfl, hr⟩, grownBy_trans hgW hg1⟩
end Go.Proofs.YthogdlabinnndaaDoor
