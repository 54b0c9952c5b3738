/-
  DERIVED. GIVEN WITH THE SEED: THE CARDS: each row of YtbmjpplnoifipaaDoorRows.lean that lists a variable, with what it lists TIED to the program's text (the seventh form; the later family's looks); each row that meets fmt, with fmt's text TOLD by the authors' own Lean function (tested against real Go, not proved from fmt's source: count such statements apart). THE CARD IS WHAT COUNTS. Prove the row's statement (the work); the ties are given (YtbmjpplnoifipaaDoorTie.lean); close each card by the builder's one call (the guide's Derived/Test/ToyasCard.lean, 'card_holds'). Laid BY PROGRAM, IN A SANDBOX (cutbox-door.mjs). By AI agents, Wed Nov 11 2026. No macro, syntax, notation, axiom, sorry.
-/
import Derived.Test.YtbmjpplnoifipaaDoorRows
import GoSem.ClaimSeven
namespace Go.Proofs.YtbmjpplnoifipaaDoor
namespace Rows

/-- THE TIED CARD OF 'laws.FnExactFormMessage'. -/
def fnExactFormMessageCard : Claim7 := { stood := { row := fnExactFormMessageRow, standIns := [], harness := (true, "3ac69298acc715787fb766be17c0812cbd7f1fe730234396ffd5fbe84db8f08f"), looks := true }, kinds := [], alts := [], laidByText := true, laidKinds := [.data], laidTests := true, laidLooks := .later }
def FnExactFormMessageCardSaid : Prop := Claim7.holds Tryd.pinned (.plain (OpenSpec.ofChange fnExactFormMessageSpec)) fnExactFormMessageCard

/-- THE TIED CARD OF 'laws.FnExactReadMessage'. -/
def fnExactReadMessageCard : Claim7 := { stood := { row := fnExactReadMessageRow, standIns := [], harness := (true, "3ac69298acc715787fb766be17c0812cbd7f1fe730234396ffd5fbe84db8f08f"), looks := true }, kinds := [], alts := [], laidByText := true, laidKinds := [.handle, .data], laidTests := true, laidLooks := .later }
def FnExactReadMessageCardSaid : Prop := Claim7.holds Tryd.pinned (.plain (OpenSpec.ofChange fnExactReadMessageSpec)) fnExactReadMessageCard

/-- THE TIED CARD OF 'laws.FnMessages'. -/
def fnMessagesCard : Claim7 := { stood := { row := fnMessagesRow, standIns := [], harness := (true, "3ac69298acc715787fb766be17c0812cbd7f1fe730234396ffd5fbe84db8f08f"), looks := true }, kinds := [], alts := [], laidByText := true, laidKinds := [.handle, .data], laidTests := true, laidLooks := .later }
def FnMessagesCardSaid : Prop := Claim7.holds Tryd.pinned (.plain (OpenSpec.ofChange fnMessagesSpec)) fnMessagesCard

/-- THE SECOND FORM's CARD OF 'laws.FnExactFormMessage'. -/
def fnExactFormMessageUptoCard : Claim7 := { stood := { row := fnExactFormMessageUptoRow, standIns := [], harness := (true, "3ac69298acc715787fb766be17c0812cbd7f1fe730234396ffd5fbe84db8f08f"), looks := true }, kinds := [], alts := [], laidByText := true, laidKinds := [.data], laidTests := true, laidLooks := .later }
def FnExactFormMessageUptoCardSaid : Prop := Claim7.holds Tryd.pinned (.plain (OpenSpec.upto fnExactFormMessageSpec)) fnExactFormMessageUptoCard

/-- THE SECOND FORM's CARD OF 'laws.FnExactReadMessage'. -/
def fnExactReadMessageUptoCard : Claim7 := { stood := { row := fnExactReadMessageUptoRow, standIns := [], harness := (true, "3ac69298acc715787fb766be17c0812cbd7f1fe730234396ffd5fbe84db8f08f"), looks := true }, kinds := [], alts := [], laidByText := true, laidKinds := [.handle, .data], laidTests := true, laidLooks := .later }
def FnExactReadMessageUptoCardSaid : Prop := Claim7.holds Tryd.pinned (.plain (OpenSpec.upto fnExactReadMessageSpec)) fnExactReadMessageUptoCard

/-- THE SECOND FORM's CARD OF 'laws.FnMessages'. -/
def fnMessagesUptoCard : Claim7 := { stood := { row := fnMessagesUptoRow, standIns := [], harness := (true, "3ac69298acc715787fb766be17c0812cbd7f1fe730234396ffd5fbe84db8f08f"), looks := true }, kinds := [], alts := [], laidByText := true, laidKinds := [.handle, .data], laidTests := true, laidLooks := .later }
def FnMessagesUptoCardSaid : Prop := Claim7.holds Tryd.pinned (.plain (OpenSpec.upto fnMessagesSpec)) fnMessagesUptoCard
end Rows
end Go.Proofs.YtbmjpplnoifipaaDoor
