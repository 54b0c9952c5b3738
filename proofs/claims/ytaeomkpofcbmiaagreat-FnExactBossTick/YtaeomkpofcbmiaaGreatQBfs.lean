import Derived.Test.YtaeomkpofcbmiaaGreatQBlc
namespace Go.Proofs.YtaeomkpofcbmiaaGreat
open Go.RowKit

theorem BD.down {d : BD} {ts : List TaskD} (h : d.ok ts) (hu : d.up = false) (keep : Int) : d = fallB d keep := by
  obtain ⟨wk, up, now, sn, ep, gv, L1, L2, R, J, S, O⟩ := d
  dsimp only at hu
  subst hu
  have hd := vB_dn h
  unfold isDown at hd
  dsimp only at hd
  obtain ⟨h1, rfl, rfl, rfl, h2, h3, h4, h5⟩ := hd
  have e1 := List.eq_nil_of_length_eq_zero (by omega : L2.length = 0)
  have e2 := List.eq_nil_of_length_eq_zero (by omega : R.length = 0)
  have e3 := List.eq_nil_of_length_eq_zero (by omega : J.length = 0)
  have e4 := List.eq_nil_of_length_eq_zero (by omega : S.length = 0)
  have e5 := List.eq_nil_of_length_eq_zero (by omega : O.length = 0)
  subst e1; subst e2; subst e3; subst e4; subst e5
  simp [fallB]

end Go.Proofs.YtaeomkpofcbmiaaGreat
