import Derived.Test.YtbfamabkbkpmpaaGreatQCel
import Derived.Deep.QuietTactic
import Derived.BigQuiet
import Derived.Handy
namespace Go.Proofs.YtbfamabkbkpmpaaGreat
open Go.RowKit

/-- What is valid. -/
def vW (nu ep : Int) (up : Bool) (st le ta co lf : Int) (ss : List ByteArray) (z : Nat) (si : Int) : Prop :=
  1 ≤ nu ∧ nu ≤ 8 ∧ 1 ≤ ep ∧ ep ≤ 300 ∧ 0 ≤ si ∧ si ≤ 1000000 ∧ (up = false → st = 0 ∧ si = 0) ∧
  ((st = 0 ∧ le = 0 ∧ ta = 0 ∧ co = 0 ∧ lf = 0 ∧ ss.length = 0 ∧ z = 0) ∨
   (st = 1 ∧ 1 ≤ le ∧ le ≤ 300000000 ∧ 0 ≤ ta ∧ ta ≤ 39 ∧ 1 ≤ co ∧ co ≤ 20 ∧ 1 ≤ lf ∧ lf ≤ co ∧ z = 0 ∧ inOk ss) ∨
   (st = 2 ∧ 1 ≤ le ∧ le ≤ 300000000 ∧ 0 ≤ ta ∧ ta ≤ 39 ∧ z = 8 ∧ co = 0 ∧ lf = 0 ∧ ss.length = 0))
theorem vW_st {nu ep : Int} {up : Bool} {st le ta co lf : Int} {ss : List ByteArray} {z : Nat} {si : Int} (h : vW nu ep up st le ta co lf ss z si) : st = 0 ∨ st = 1 ∨ st = 2 := by
  rcases h.2.2.2.2.2.2.2 with h | h | h
  · exact .inl h.1
  · exact .inr (.inl h.1)
  · exact .inr (.inr h.1)
def vWt (nu ep : Int) (up : Bool) (st si : Int) : Prop := 1 ≤ nu ∧ nu ≤ 8 ∧ 1 ≤ ep ∧ ep ≤ 300 ∧ 0 ≤ si ∧ si ≤ 1000000 ∧ (up = false → st = 0 ∧ si = 0)
theorem vW0 (nu ep : Int) (up : Bool) (le ta co lf : Int) (ss : List ByteArray) (z : Nat) (si : Int) : vW nu ep up 0 le ta co lf ss z si ↔ (vWt nu ep up 0 si ∧ le = 0 ∧ ta = 0 ∧ co = 0 ∧ lf = 0 ∧ ss.length = 0 ∧ z = 0) := by
  unfold vW vWt
  constructor
  · rintro ⟨h1, h2, h3, h4, h5, h6, h7, h | h | h⟩
    · exact ⟨⟨h1, h2, h3, h4, h5, h6, h7⟩, h.2⟩
    · exact absurd h.1 (by decide)
    · exact absurd h.1 (by decide)
  · rintro ⟨⟨h1, h2, h3, h4, h5, h6, h7⟩, h⟩; exact ⟨h1, h2, h3, h4, h5, h6, h7, .inl ⟨rfl, h⟩⟩
theorem vW1 (nu ep : Int) (up : Bool) (le ta co lf : Int) (ss : List ByteArray) (z : Nat) (si : Int) : vW nu ep up 1 le ta co lf ss z si ↔ (vWt nu ep up 1 si ∧ 1 ≤ le ∧ le ≤ 300000000 ∧ 0 ≤ ta ∧ ta ≤ 39 ∧ 1 ≤ co ∧ co ≤ 20 ∧ 1 ≤ lf ∧ lf ≤ co ∧ z = 0 ∧ inOk ss) := by
  unfold vW vWt
  constructor
  · rintro ⟨h1, h2, h3, h4, h5, h6, h7, h | h | h⟩
    · exact absurd h.1 (by decide)
    · exact ⟨⟨h1, h2, h3, h4, h5, h6, h7⟩, h.2⟩
    · exact absurd h.1 (by decide)
  · rintro ⟨⟨h1, h2, h3, h4, h5, h6, h7⟩, h⟩; exact ⟨h1, h2, h3, h4, h5, h6, h7, .inr (.inl ⟨rfl, h⟩)⟩
theorem vW2 (nu ep : Int) (up : Bool) (le ta co lf : Int) (ss : List ByteArray) (z : Nat) (si : Int) : vW nu ep up 2 le ta co lf ss z si ↔ (vWt nu ep up 2 si ∧ 1 ≤ le ∧ le ≤ 300000000 ∧ 0 ≤ ta ∧ ta ≤ 39 ∧ z = 8 ∧ co = 0 ∧ lf = 0 ∧ ss.length = 0) := by
  unfold vW vWt
  constructor
  · rintro ⟨h1, h2, h3, h4, h5, h6, h7, h | h | h⟩
    · exact absurd h.1 (by decide)
    · exact absurd h.1 (by decide)
    · exact ⟨⟨h1, h2, h3, h4, h5, h6, h7⟩, h.2⟩
  · rintro ⟨⟨h1, h2, h3, h4, h5, h6, h7⟩, h⟩; exact ⟨h1, h2, h3, h4, h5, h6, h7, .inr (.inr ⟨rfl, h⟩)⟩

end Go.Proofs.YtbfamabkbkpmpaaGreat

namespace Go.Proofs.YtbfamabkbkpmpaaGreat
open Go.RowKit

end Go.Proofs.YtbfamabkbkpmpaaGreat
