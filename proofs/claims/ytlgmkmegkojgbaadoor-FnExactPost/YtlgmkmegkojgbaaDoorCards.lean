/-
  DERIVED. GIVEN WITH THE SEED: THE CARDS: each row of YtlgmkmegkojgbaaDoorRows.lean that lists a variable, with what it lists TIED to the program's text (the seventh form; the later family's looks); each row that meets fmt, with fmt's text TOLD by the authors' own Lean function (tested against real Go, not proved from fmt's source: count such statements apart). THE CARD IS WHAT COUNTS. Prove the row's statement (the work); the ties are given (YtlgmkmegkojgbaaDoorTie.lean); close each card by the builder's one call (the guide's Derived/Test/ToyasCard.lean, 'card_holds'). Laid BY PROGRAM, IN A SANDBOX (cutbox-door.mjs). By AI agents, Wed Nov 11 2026. No macro, syntax, notation, axiom, sorry.
-/
import Derived.Test.YtlgmkmegkojgbaaDoorRows
import GoSem.ClaimSeven
namespace Go.Proofs.YtlgmkmegkojgbaaDoor
namespace Rows

/-- THE TIED CARD OF 'laws.FnExactFormMessage'. -/
def fnExactFormMessageCard : Claim7 := { stood := { row := fnExactFormMessageRow, standIns := [], harness := (true, "88625c25e12456ae7f1478fb0d24274c6bd917514d4fc2d92cb42c2043fa90e5"), looks := true }, kinds := [], alts := [], laidByText := true, laidKinds := [.data], laidTests := true, laidLooks := .later }
def FnExactFormMessageCardSaid : Prop := Claim7.holds Tryd.pinned (.plain (OpenSpec.ofChange fnExactFormMessageSpec)) fnExactFormMessageCard

/-- THE TIED CARD OF 'laws.FnExactReadMessage'. -/
def fnExactReadMessageCard : Claim7 := { stood := { row := fnExactReadMessageRow, standIns := [], harness := (true, "88625c25e12456ae7f1478fb0d24274c6bd917514d4fc2d92cb42c2043fa90e5"), looks := true }, kinds := [], alts := [], laidByText := true, laidKinds := [.handle, .data], laidTests := true, laidLooks := .later }
def FnExactReadMessageCardSaid : Prop := Claim7.holds Tryd.pinned (.plain (OpenSpec.ofChange fnExactReadMessageSpec)) fnExactReadMessageCard

/-- THE TIED CARD OF 'laws.FnMessages'. -/
def fnMessagesCard : Claim7 := { stood := { row := fnMessagesRow, standIns := [], harness := (true, "88625c25e12456ae7f1478fb0d24274c6bd917514d4fc2d92cb42c2043fa90e5"), looks := true }, kinds := [], alts := [], laidByText := true, laidKinds := [.handle, .data], laidTests := true, laidLooks := .later }
def FnMessagesCardSaid : Prop := Claim7.holds Tryd.pinned (.plain (OpenSpec.ofChange fnMessagesSpec)) fnMessagesCard

/-- THE TIED CARD OF 'laws.FnExactForged'. -/
def fnExactForgedCard : Claim7 := { stood := { row := fnExactForgedRow, standIns := [], harness := (true, "88625c25e12456ae7f1478fb0d24274c6bd917514d4fc2d92cb42c2043fa90e5"), looks := true }, kinds := [], alts := [], laidByText := true, laidKinds := [.handle, .data], laidTests := true, laidLooks := .later }
def FnExactForgedCardSaid : Prop := Claim7.holds Tryd.pinned (.plain (OpenSpec.ofChange fnExactForgedSpec)) fnExactForgedCard

/-- THE TIED CARD OF 'laws.FnExactPost'. -/
def fnExactPostCard : Claim7 := { stood := { row := fnExactPostRow, standIns := [], harness := (true, "88625c25e12456ae7f1478fb0d24274c6bd917514d4fc2d92cb42c2043fa90e5"), looks := true }, kinds := [], alts := [], laidByText := true, laidKinds := [.data], laidTests := true, laidLooks := .later }
def FnExactPostCardSaid : Prop := Claim7.holds Tryd.pinned (.plain (OpenSpec.ofChange fnExactPostSpec)) fnExactPostCard

/-- THE SECOND FORM's CARD OF 'laws.FnExactFormMessage'. -/
def fnExactFormMessageUptoCard : Claim7 := { stood := { row := fnExactFormMessageUptoRow, standIns := [], harness := (true, "88625c25e12456ae7f1478fb0d24274c6bd917514d4fc2d92cb42c2043fa90e5"), looks := true }, kinds := [], alts := [], laidByText := true, laidKinds := [.data], laidTests := true, laidLooks := .later }
def FnExactFormMessageUptoCardSaid : Prop := Claim7.holds Tryd.pinned (.plain (OpenSpec.upto fnExactFormMessageSpec)) fnExactFormMessageUptoCard

/-- THE SECOND FORM's CARD OF 'laws.FnExactReadMessage'. -/
def fnExactReadMessageUptoCard : Claim7 := { stood := { row := fnExactReadMessageUptoRow, standIns := [], harness := (true, "88625c25e12456ae7f1478fb0d24274c6bd917514d4fc2d92cb42c2043fa90e5"), looks := true }, kinds := [], alts := [], laidByText := true, laidKinds := [.handle, .data], laidTests := true, laidLooks := .later }
def FnExactReadMessageUptoCardSaid : Prop := Claim7.holds Tryd.pinned (.plain (OpenSpec.upto fnExactReadMessageSpec)) fnExactReadMessageUptoCard

/-- THE SECOND FORM's CARD OF 'laws.FnMessages'. -/
def fnMessagesUptoCard : Claim7 := { stood := { row := fnMessagesUptoRow, standIns := [], harness := (true, "88625c25e12456ae7f1478fb0d24274c6bd917514d4fc2d92cb42c2043fa90e5"), looks := true }, kinds := [], alts := [], laidByText := true, laidKinds := [.handle, .data], laidTests := true, laidLooks := .later }
def FnMessagesUptoCardSaid : Prop := Claim7.holds Tryd.pinned (.plain (OpenSpec.upto fnMessagesSpec)) fnMessagesUptoCard

/-- THE SECOND FORM's CARD OF 'laws.FnExactForged'. -/
def fnExactForgedUptoCard : Claim7 := { stood := { row := fnExactForgedUptoRow, standIns := [], harness := (true, "88625c25e12456ae7f1478fb0d24274c6bd917514d4fc2d92cb42c2043fa90e5"), looks := true }, kinds := [], alts := [], laidByText := true, laidKinds := [.handle, .data], laidTests := true, laidLooks := .later }
def FnExactForgedUptoCardSaid : Prop := Claim7.holds Tryd.pinned (.plain (OpenSpec.upto fnExactForgedSpec)) fnExactForgedUptoCard

/-- THE SECOND FORM's CARD OF 'laws.FnExactPost'. -/
def fnExactPostUptoCard : Claim7 := { stood := { row := fnExactPostUptoRow, standIns := [], harness := (true, "88625c25e12456ae7f1478fb0d24274c6bd917514d4fc2d92cb42c2043fa90e5"), looks := true }, kinds := [], alts := [], laidByText := true, laidKinds := [.data], laidTests := true, laidLooks := .later }
def FnExactPostUptoCardSaid : Prop := Claim7.holds Tryd.pinned (.plain (OpenSpec.upto fnExactPostSpec)) fnExactPostUptoCard
end Rows
end Go.Proofs.YtlgmkmegkojgbaaDoor
