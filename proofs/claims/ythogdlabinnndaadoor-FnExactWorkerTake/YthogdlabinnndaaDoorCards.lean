/-
  DERIVED. GIVEN WITH THE SEED: THE CARDS: each row of YthogdlabinnndaaDoorRows.lean that lists a variable, with what it lists TIED to the program's text (the seventh form; the later family's looks); each row that meets fmt, with fmt's text TOLD by the authors' own Lean function (tested against real Go, not proved from fmt's source: count such statements apart). THE CARD IS WHAT COUNTS. Prove the row's statement (the work); the ties are given (YthogdlabinnndaaDoorTie.lean); close each card by the builder's one call (the guide's Derived/Test/ToyasCard.lean, 'card_holds'). Laid BY PROGRAM, IN A SANDBOX (cutbox-door.mjs). By AI agents, Wed Nov 11 2026. No macro, syntax, notation, axiom, sorry.
-/
import Derived.Test.YthogdlabinnndaaDoorRows
import GoSem.ClaimSeven
namespace Go.Proofs.YthogdlabinnndaaDoor
namespace Rows

/-- THE TIED CARD OF 'laws.FnExactWorkerTake'. -/
def fnExactWorkerTakeCard : Claim7 := { stood := { row := fnExactWorkerTakeRow, standIns := [], harness := (true, "c6960434dcecd225a2b6a9c23a4ce27f5330720043369438b25ff1ed6a0a11df"), looks := true }, kinds := [], alts := [], laidByText := true, laidKinds := [.data], laidTests := true, laidLooks := .later }
def FnExactWorkerTakeCardSaid : Prop := Claim7.holds Tryd.pinned (.plain (OpenSpec.ofChange fnExactWorkerTakeSpec)) fnExactWorkerTakeCard

/-- THE SECOND FORM's CARD OF 'laws.FnExactWorkerTake'. -/
def fnExactWorkerTakeUptoCard : Claim7 := { stood := { row := fnExactWorkerTakeUptoRow, standIns := [], harness := (true, "c6960434dcecd225a2b6a9c23a4ce27f5330720043369438b25ff1ed6a0a11df"), looks := true }, kinds := [], alts := [], laidByText := true, laidKinds := [.data], laidTests := true, laidLooks := .later }
def FnExactWorkerTakeUptoCardSaid : Prop := Claim7.holds Tryd.pinned (.plain (OpenSpec.upto fnExactWorkerTakeSpec)) fnExactWorkerTakeUptoCard
end Rows
end Go.Proofs.YthogdlabinnndaaDoor
