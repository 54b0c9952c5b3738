
import Derived.Test.YtaeomkpofcbmiaaGreatDoorQEq
import Derived.Test.YtaeomkpofcbmiaaGreatDoorQCel
namespace Go.Proofs.YtaeomkpofcbmiaaGreatDoor
open Go.RowKit
def Dn (x y : Option Nat) : Prop:=x = none ∨ x ≠ y
theorem Dn.symm {x y : Option Nat} (h : Dn x y) : Dn y x:=by
 rcases h with rfl | h
 ·cases y with
  | none=>exact .inl rfl
  | some q=>exact .inr (by simp)
 ·exact .inr (fun e=>h e.symm)
theorem Dn.later {x y : Option Nat} {m : Nat} (hx : ∀ q,x = some q → q < m) (hy : ∀ q,y = some q → m ≤ q) : Dn x y:=by
 cases x with
 | none=>exact .inl rfl
 | some q=>exact .inr (fun e=>by have h5:=hx q rfl;have h6:=hy q e.symm;omega)
def nilV : Value:=.slice none 0 0
theorem Own.blkP {B : Nat} {w w' : World} {size : Nat} {v : Value} {n : Nat} {xs : List Value} (h : Own B w size v n xs) (hb : ∀ q,v.ownBlock = some q → w'.heap[q]? = w.heap[q]?) : Own B w' size v n xs:=by
 rcases h with h | ⟨g,o,cap,rfl,hc⟩
 ·exact .inl h
 ·exact .inr ⟨g,o,cap,rfl,hc.block (hb g rfl)⟩
theorem Own.toC {B : Nat} {w : World} {size g o n c n' : Nat} {xs : List Value} (h : Own B w size (.slice (some ⟨g,o,none⟩) n c) n' xs) : OwnC B w size g o c n' xs ∧ n = n':=by
 rcases h with ⟨hv,_⟩ | ⟨g',o',cap,hv,hc⟩
 ·cases hv
 ·injection hv with e1 e2 e3
  injection e1 with e1
  injection e1 with e4 e5
  subst e3 e4 e5
  exact ⟨hc,e2⟩
end Go.Proofs.YtaeomkpofcbmiaaGreatDoor
