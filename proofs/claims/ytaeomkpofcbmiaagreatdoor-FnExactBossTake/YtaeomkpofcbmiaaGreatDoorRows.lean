/-
  NARROWER THAN 'FOR EVERY INPUT', by the rows' own cells (each row's printed sentence says how): FnExactBossTake: laid.
  DERIVED. THE GIVEN ROWS OF THIS SEAT. 1 by the template 'for every input the law returns true; each argument reads behind the call as it read before'; 0 by the template 'total and deterministic' (their statements: YtaeomkpofcbmiaaGreatDoorTotals.lean).
  GIVEN WITH THE SEED: the statements are not yours to turn. If you find one false, say at which input.
  Laid BY PROGRAM, IN A SANDBOX (cutbox-rows.mjs): the forced cells as the released guide's own fill.sh prints them over the translation 4373eb2d38f4c4cb… (all of the seat's roots in one cut). By AI agents, Wed Nov 11 2026. No macro, syntax, notation, axiom, sorry.
-/
import Derived.Test.YtaeomkpofcbmiaaGreatDoorChecked
import GoSem.Claim
import GoSem.ClaimJoined
import GoSem.ClaimMapViews
import Derived.JoinedTies
import Derived.KernelRfl
namespace Go.Proofs.YtaeomkpofcbmiaaGreatDoor
/- THE CELL 'sum', in the pinned program and in every row, IS THE sha256 OF THE DUMP (.gsa) THAT YtaeomkpofcbmiaaGreatDoorProg.lean LOADS. Nothing in Lean hashes anything: it is a label: what it is worth is what the hold of that sum in a sandbox is worth. -/
noncomputable def Tryz.pinned : Pinned := { name := "ytaeomkpofcbmiaagreatdoor", sum := "4373eb2d38f4c4cb52ea411c6b1a9e29615bed79b44ff26ca19ee842d3b77b98", checked := Tryz.checked }
namespace Rows
def none {H : Type} : Left H := { results := [], args := [] }

/- WHAT THE LISTED PACKAGE-LEVEL VARIABLES READ AS WHEN THE CALL BEGINS. Each datum BY PROGRAM (the guide's laid-datum.mjs) off the statement by which the dump's own 'gosem.cut.vars' lays the variable. In a bare row this is a premise. The card (YtaeomkpofcbmiaaGreatDoorCards.lean) ties it to the program's text. -/
def laid_loop_example_kilncrew_impl_usages {H : Type} : DataW H := .agg [.agg [.lit (.bool false), .lit (.bool false), .lit (.bool false), .lit (.bool false), .lit (.bool false)], .agg [.lit (.bool true), .lit (.bool true), .lit (.bool true), .lit (.bool false), .lit (.bool true)], .agg [.lit (.bool false), .lit (.bool true), .lit (.bool false), .lit (.bool false), .lit (.bool false)], .agg [.lit (.bool false), .lit (.bool true), .lit (.bool true), .lit (.bool true), .lit (.bool false)], .agg [.lit (.bool true), .lit (.bool true), .lit (.bool false), .lit (.bool false), .lit (.bool false)], .agg [.lit (.bool false), .lit (.bool false), .lit (.bool false), .lit (.bool false), .lit (.bool false)]]

/-- 'laws.FnExactBossTake': WHATEVER THE INPUT: true; the input reads as it did. -/
def fnExactBossTakeSpec : ChangeSpec := { name := "fnExactBossTake", vars := ["loop.example/kilncrew/impl.usages"], fn := fun _ => fun
  | [d1, d2, d3, g1] => { results := [.lit (.bool true)], args := [d1, d2, d3], vars := [g1] }
  | _ => none }
def fnExactBossTakeRow : OpenClaim := { program := "ytaeomkpofcbmiaagreatdoor", sum := "4373eb2d38f4c4cb52ea411c6b1a9e29615bed79b44ff26ca19ee842d3b77b98", func := "loop.example/kilncrew/laws.FnExactBossTake", spec := "fnExactBossTake", inPlace := ["internal/abi.NoEscape"], unfollowed := true, recurses := true, named := ["loop.example/kilncrew/impl.usages"], apart := false, laid := [("loop.example/kilncrew/impl.usages", laid_loop_example_kilncrew_impl_usages)] }
def FnExactBossTakeSaid : Prop := fnExactBossTakeRow.holds Tryz.pinned (OpenSpec.ofChange fnExactBossTakeSpec)

/-- ITS FALSE NEIGHBOUR: 'it returns false'. Refute it at one input. -/
def fnExactBossTakeWrong : ChangeSpec := { name := "fnExactBossTake", vars := ["loop.example/kilncrew/impl.usages"], fn := fun _ => fun
  | [d1, d2, d3, g1] => { results := [.lit (.bool false)], args := [d1, d2, d3], vars := [g1] }
  | _ => none }
def FnExactBossTakeWrongFalsely : Prop := fnExactBossTakeRow.holds Tryz.pinned (OpenSpec.ofChange fnExactBossTakeWrong)

/- THE SECOND FORM. 'bulk': how many values and letters a reading holds, each counted each time it is reached (what is shared counts as often as it is met; a slice's spare places count too). A statement '..UptoSaid' is the law's where the arguments, and the package variables that the reading takes, are together of bulk at most 1048576: NARROWER than '..Said'. Prove '..Said' where nothing that the law and all that it calls make is longer than what came in: it says more and counts as full. Else prove '..UptoSaid'. A law counts once. -/
mutual
def uptoBulk {H : Type} : DataW H → Nat
  | .lit (.string bytes) => bytes.length + 1
  | .lit _ => 1
  | .nil => 1
  | .ptr d => uptoBulk d + 1
  | .slice elems spare => uptoBulkAll elems + uptoBulkAll spare + 1
  | .agg parts => uptoBulkAll parts + 1
  | .iface _ d => uptoBulk d + 1
  | .map entries => uptoBulkEntries entries + 1
  | .held _ => 1
def uptoBulkAll {H : Type} : List (DataW H) → Nat
  | [] => 0
  | d :: r => uptoBulk d + uptoBulkAll r
def uptoBulkEntries {H : Type} : List (Lit × DataW H) → Nat
  | [] => 0
  | x :: r => uptoBulkEntry x + uptoBulkEntries r
def uptoBulkEntry {H : Type} : Lit × DataW H → Nat
  | (.string bytes, d) => bytes.length + uptoBulk d + 1
  | (_, d) => uptoBulk d + 1
 end
def uptoSmall : (H : Type) → List (DataW H) → Bool := fun _ ds => decide (uptoBulkAll ds ≤ 1048576)
def OpenSpec.upto (s : _root_.Go.ChangeSpec) : _root_.Go.OpenSpec := { _root_.Go.OpenSpec.ofChange s with cond := some uptoSmall }

/-- 'laws.FnExactBossTake', WHERE WHAT IT READS IS OF BULK AT MOST 1048576: true; the input reads as it did. -/
def fnExactBossTakeUptoRow : OpenClaim := { program := "ytaeomkpofcbmiaagreatdoor", sum := "4373eb2d38f4c4cb52ea411c6b1a9e29615bed79b44ff26ca19ee842d3b77b98", func := "loop.example/kilncrew/laws.FnExactBossTake", spec := "fnExactBossTake", inPlace := ["internal/abi.NoEscape"], unfollowed := true, recurses := true, named := ["loop.example/kilncrew/impl.usages"], apart := false, laid := [("loop.example/kilncrew/impl.usages", laid_loop_example_kilncrew_impl_usages)], narrowed := true }
def FnExactBossTakeUptoSaid : Prop := fnExactBossTakeUptoRow.holds Tryz.pinned (OpenSpec.upto fnExactBossTakeSpec)

end Rows
end Go.Proofs.YtaeomkpofcbmiaaGreatDoor
