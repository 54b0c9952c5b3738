/-
  DERIVED. GIVEN WITH THE SEED: THE CARDS: each row of YtimpfhfgcmipgaaDoorRows.lean that lists a variable, with what it lists TIED to the program's text (the seventh form; the later family's looks); each row that meets fmt, with fmt's text TOLD by the authors' own Lean function (tested against real Go, not proved from fmt's source: count such statements apart). THE CARD IS WHAT COUNTS. Prove the row's statement (the work); the ties are given (YtimpfhfgcmipgaaDoorTie.lean); close each card by the builder's one call (the guide's Derived/Test/ToyasCard.lean, 'card_holds'). Laid BY PROGRAM, IN A SANDBOX (cutbox-door.mjs). By AI agents, Wed Nov 11 2026. No macro, syntax, notation, axiom, sorry.
-/
import Derived.Test.YtimpfhfgcmipgaaDoorRows
import GoSem.ClaimSeven
namespace Go.Proofs.YtimpfhfgcmipgaaDoor
namespace Rows

/-- THE TIED CARD OF 'laws.FnWorker'. -/
def fnWorkerCard : Claim7 := { stood := { row := fnWorkerRow, standIns := [], harness := (true, "dba2633e68955d50bad74671c43fd334015a9605363eb690d6c55bf101253cd3"), looks := true }, kinds := [], alts := [], laidByText := true, laidKinds := [.data], laidTests := true, laidLooks := .later }
def FnWorkerCardSaid : Prop := Claim7.holds Tryd.pinned (.plain (OpenSpec.ofChange fnWorkerSpec)) fnWorkerCard

/-- THE SECOND FORM's CARD OF 'laws.FnWorker'. -/
def fnWorkerUptoCard : Claim7 := { stood := { row := fnWorkerUptoRow, standIns := [], harness := (true, "dba2633e68955d50bad74671c43fd334015a9605363eb690d6c55bf101253cd3"), looks := true }, kinds := [], alts := [], laidByText := true, laidKinds := [.data], laidTests := true, laidLooks := .later }
def FnWorkerUptoCardSaid : Prop := Claim7.holds Tryd.pinned (.plain (OpenSpec.upto fnWorkerSpec)) fnWorkerUptoCard
end Rows
end Go.Proofs.YtimpfhfgcmipgaaDoor
