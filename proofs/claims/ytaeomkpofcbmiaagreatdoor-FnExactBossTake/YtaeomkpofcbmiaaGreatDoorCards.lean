/-
  DERIVED. GIVEN WITH THE SEED: THE CARDS: each row of YtaeomkpofcbmiaaGreatDoorRows.lean that lists a variable, with what it lists TIED to the program's text (the seventh form; the later family's looks); each row that meets fmt, with fmt's text TOLD by the authors' own Lean function (tested against real Go, not proved from fmt's source: count such statements apart). THE CARD IS WHAT COUNTS. Prove the row's statement (the work); the ties are given (YtaeomkpofcbmiaaGreatDoorTie.lean); close each card by the builder's one call (the guide's Derived/Test/ToyasCard.lean, 'card_holds'). Laid BY PROGRAM, IN A SANDBOX (cutbox-door.mjs). By AI agents, Wed Nov 11 2026. No macro, syntax, notation, axiom, sorry.
-/
import Derived.Test.YtaeomkpofcbmiaaGreatDoorRows
import GoSem.ClaimSeven
namespace Go.Proofs.YtaeomkpofcbmiaaGreatDoor
namespace Rows

/-- THE TIED CARD OF 'laws.FnExactBossTake'. -/
def fnExactBossTakeCard : Claim7 := { stood := { row := fnExactBossTakeRow, standIns := [], harness := (true, "b344607d719e7e67d8ec17d192aeb7d3dd1a8ad22883d9be392f3ed41898372c"), looks := false }, kinds := [], alts := [], laidByText := true, laidKinds := [.data], laidTests := true, laidLooks := .later }
def FnExactBossTakeCardSaid : Prop := Claim7.holds Tryz.pinned (.plain (OpenSpec.ofChange fnExactBossTakeSpec)) fnExactBossTakeCard

/-- THE SECOND FORM's CARD OF 'laws.FnExactBossTake'. -/
def fnExactBossTakeUptoCard : Claim7 := { stood := { row := fnExactBossTakeUptoRow, standIns := [], harness := (true, "b344607d719e7e67d8ec17d192aeb7d3dd1a8ad22883d9be392f3ed41898372c"), looks := false }, kinds := [], alts := [], laidByText := true, laidKinds := [.data], laidTests := true, laidLooks := .later }
def FnExactBossTakeUptoCardSaid : Prop := Claim7.holds Tryz.pinned (.plain (OpenSpec.upto fnExactBossTakeSpec)) fnExactBossTakeUptoCard
end Rows
end Go.Proofs.YtaeomkpofcbmiaaGreatDoor
