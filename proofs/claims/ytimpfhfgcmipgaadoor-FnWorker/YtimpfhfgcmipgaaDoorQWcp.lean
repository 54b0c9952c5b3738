
import Derived.Test.YtimpfhfgcmipgaaDoorQWst
import Derived.Test.YtimpfhfgcmipgaaDoorQCel
namespace Go.Proofs.YtimpfhfgcmipgaaDoor
open Go.RowKit

theorem StrsAt.src {w : World} {a : Option Addr} {b o n : Nat} {ss : List ByteArray} (h : StrsAt w a b o n ss) (c : Nat) : Src Tryd.prog 1 23 (.slice a n c) n (ss.map Value.string) w := by
  have h1 : ∀ u ∈ ss.map Value.string, u.oneCell' = true := fun u hu => by obtain ⟨y, _, rfl⟩ := List.mem_map.1 hu; rfl
  cases a with
  | none =>
    have h0 : n = 0 := Nat.eq_zero_of_not_pos fun hh => by have := h.ad hh; cases this
    subst h0
    have : ss = [] := List.eq_nil_of_length_eq_zero h.len
    subst this
    exact Src.ofNil w Tryd.underlying23 c
  | some y =>
    refine Src.ofSlice w Tryd.underlying23 y n c (ss.map Value.string) (by simp [h.len]) (fun j u hu => ?_) h1
    have hj : j < n := by have := (List.getElem?_eq_some_iff.1 hu).1; simp [h.len] at this; exact this
    have hy := h.ad (by omega)
    injection hy with hy
    subst hy
    rw [Addr.add_lit, h.cell j hj]
    rw [← hu]; simp [List.getD, h.len, hj]
theorem one11 (nu ep : Int) (up : Bool) (st le ta co lf : Int) (a : Option Addr) (n c : Nat) (x : ByteArray) (si : Int) : ∀ v ∈ [Value.int .i64 nu, .int .i64 ep, .bool up, .int .i64 st, .int .i64 le, .int .i64 ta, .int .i64 co, .int .i64 lf, .slice a n c, .string x, .int .i64 si], v.oneCell' = true := by
  intro v hv
  simp only [List.mem_cons, List.not_mem_nil, or_false] at hv
  rcases hv with rfl | rfl | rfl | rfl | rfl | rfl | rfl | rfl | rfl | rfl | rfl <;> rfl
theorem Tryd.sizeWk : (Tryd.prog.info? 25).map (·.size) = some 11 := by kernel_rfl
def zW : List Value := [.int .i64 0, .int .i64 0, .bool false, .int .i64 0, .int .i64 0, .int .i64 0, .int .i64 0, .int .i64 0, .slice none 0 0, .string ⟨#[]⟩, .int .i64 0]
end Go.Proofs.YtimpfhfgcmipgaaDoor
