/-
  NARROWER THAN 'FOR EVERY INPUT', by the rows' own cells (each row's printed sentence says how): FnExactFormMessage: laid · FnExactReadMessage: laid · FnMessages: laid · FnExactForged: laid · FnExactPost: laid.
  DERIVED. THE GIVEN ROWS OF THIS SEAT. 5 by the template 'for every input the law returns true; each argument reads behind the call as it read before'; 0 by the template 'total and deterministic' (their statements: YtlgmkmegkojgbaaDoorTotals.lean).
  GIVEN WITH THE SEED: the statements are not yours to turn. If you find one false, say at which input.
  Laid BY PROGRAM, IN A SANDBOX (cutbox-rows.mjs): the forced cells as the released guide's own fill.sh prints them over the translation 2809373ad0185bc0… (all of the seat's roots in one cut). By AI agents, Wed Nov 11 2026. No macro, syntax, notation, axiom, sorry.
-/
import Derived.Test.YtlgmkmegkojgbaaDoorChecked
import GoSem.Claim
import GoSem.ClaimJoined
import GoSem.ClaimMapViews
import Derived.JoinedTies
import Derived.KernelRfl
namespace Go.Proofs.YtlgmkmegkojgbaaDoor
/- THE CELL 'sum', in the pinned program and in every row, IS THE sha256 OF THE DUMP (.gsa) THAT YtlgmkmegkojgbaaDoorProg.lean LOADS. Nothing in Lean hashes anything: it is a label: what it is worth is what the hold of that sum in a sandbox is worth. -/
noncomputable def Tryd.pinned : Pinned := { name := "ytlgmkmegkojgbaadoor", sum := "2809373ad0185bc028f537dea4f17f346f215d7828144c829cfe07ab1f643ee4", checked := Tryd.checked }
namespace Rows
def none {H : Type} : Left H := { results := [], args := [] }

/- WHAT THE LISTED PACKAGE-LEVEL VARIABLES READ AS WHEN THE CALL BEGINS. Each datum BY PROGRAM (the guide's laid-datum.mjs) off the statement by which the dump's own 'gosem.cut.vars' lays the variable. In a bare row this is a premise. The card (YtlgmkmegkojgbaaDoorCards.lean) ties it to the program's text. -/
def laid_loop_example_kilncrew_impl_usages {H : Type} : DataW H := .agg [.agg [.lit (.bool false), .lit (.bool false), .lit (.bool false), .lit (.bool false), .lit (.bool false)], .agg [.lit (.bool true), .lit (.bool true), .lit (.bool true), .lit (.bool false), .lit (.bool true)], .agg [.lit (.bool false), .lit (.bool true), .lit (.bool false), .lit (.bool false), .lit (.bool false)], .agg [.lit (.bool false), .lit (.bool true), .lit (.bool true), .lit (.bool true), .lit (.bool false)], .agg [.lit (.bool true), .lit (.bool true), .lit (.bool false), .lit (.bool false), .lit (.bool false)], .agg [.lit (.bool false), .lit (.bool false), .lit (.bool false), .lit (.bool false), .lit (.bool false)]]
def laid_errors_errorType {H : Type} : DataW H := .iface "internal/reflectlite.rtype" (.agg [.ptr (.lit (.string [101, 114, 114, 111, 114]))])

/-- 'laws.FnExactFormMessage': WHATEVER THE INPUT: true; the input reads as it did. -/
def fnExactFormMessageSpec : ChangeSpec := { name := "fnExactFormMessage", vars := ["loop.example/kilncrew/impl.usages"], fn := fun _ => fun
  | [d1, d2, g1] => { results := [.lit (.bool true)], args := [d1, d2], vars := [g1] }
  | _ => none }
def fnExactFormMessageRow : OpenClaim := { program := "ytlgmkmegkojgbaadoor", sum := "2809373ad0185bc028f537dea4f17f346f215d7828144c829cfe07ab1f643ee4", func := "loop.example/kilncrew/laws.FnExactFormMessage", spec := "fnExactFormMessage", inPlace := ["internal/abi.NoEscape"], named := ["loop.example/kilncrew/impl.usages"], apart := false, laid := [("loop.example/kilncrew/impl.usages", laid_loop_example_kilncrew_impl_usages)] }
def FnExactFormMessageSaid : Prop := fnExactFormMessageRow.holds Tryd.pinned (OpenSpec.ofChange fnExactFormMessageSpec)

/-- ITS FALSE NEIGHBOUR: 'it returns false'. Refute it at one input. -/
def fnExactFormMessageWrong : ChangeSpec := { name := "fnExactFormMessage", vars := ["loop.example/kilncrew/impl.usages"], fn := fun _ => fun
  | [d1, d2, g1] => { results := [.lit (.bool false)], args := [d1, d2], vars := [g1] }
  | _ => none }
def FnExactFormMessageWrongFalsely : Prop := fnExactFormMessageRow.holds Tryd.pinned (OpenSpec.ofChange fnExactFormMessageWrong)

/-- 'laws.FnExactReadMessage': WHATEVER THE INPUT: true; the input reads as it did. -/
def fnExactReadMessageSpec : ChangeSpec := { name := "fnExactReadMessage", vars := ["loop.example/kilncrew/impl.usages"], fn := fun _ => fun
  | [d1, d2, g1] => { results := [.lit (.bool true)], args := [d1, d2], vars := [g1] }
  | _ => none }
def fnExactReadMessageRow : OpenClaim := { program := "ytlgmkmegkojgbaadoor", sum := "2809373ad0185bc028f537dea4f17f346f215d7828144c829cfe07ab1f643ee4", func := "loop.example/kilncrew/laws.FnExactReadMessage", spec := "fnExactReadMessage", inPlace := ["internal/reflectlite.ValueOf", "(internal/reflectlite.Value).Type", "(internal/reflectlite.Value).IsNil", "internal/reflectlite.TypeOf", "(internal/reflectlite.Value).Elem", "(internal/reflectlite.Value).Set"], unfollowed := true, recurses := true, named := ["loop.example/kilncrew/impl.usages", "errors.errorType"], apart := false, laid := [("errors.errorType", laid_errors_errorType), ("loop.example/kilncrew/impl.usages", laid_loop_example_kilncrew_impl_usages)] }
def FnExactReadMessageSaid : Prop := fnExactReadMessageRow.holds Tryd.pinned (OpenSpec.ofChange fnExactReadMessageSpec)

/-- ITS FALSE NEIGHBOUR: 'it returns false'. Refute it at one input. -/
def fnExactReadMessageWrong : ChangeSpec := { name := "fnExactReadMessage", vars := ["loop.example/kilncrew/impl.usages"], fn := fun _ => fun
  | [d1, d2, g1] => { results := [.lit (.bool false)], args := [d1, d2], vars := [g1] }
  | _ => none }
def FnExactReadMessageWrongFalsely : Prop := fnExactReadMessageRow.holds Tryd.pinned (OpenSpec.ofChange fnExactReadMessageWrong)

/-- 'laws.FnMessages': WHATEVER THE INPUT: true; the input reads as it did. -/
def fnMessagesSpec : ChangeSpec := { name := "fnMessages", vars := ["loop.example/kilncrew/impl.usages"], fn := fun _ => fun
  | [d, g1] => { results := [.lit (.bool true)], args := [d], vars := [g1] }
  | _ => none }
def fnMessagesRow : OpenClaim := { program := "ytlgmkmegkojgbaadoor", sum := "2809373ad0185bc028f537dea4f17f346f215d7828144c829cfe07ab1f643ee4", func := "loop.example/kilncrew/laws.FnMessages", spec := "fnMessages", inPlace := ["internal/abi.NoEscape", "internal/reflectlite.ValueOf", "(internal/reflectlite.Value).Type", "(internal/reflectlite.Value).IsNil", "internal/reflectlite.TypeOf", "(internal/reflectlite.Value).Elem", "(internal/reflectlite.Value).Set"], unfollowed := true, recurses := true, named := ["loop.example/kilncrew/impl.usages", "errors.errorType"], apart := false, laid := [("errors.errorType", laid_errors_errorType), ("loop.example/kilncrew/impl.usages", laid_loop_example_kilncrew_impl_usages)] }
def FnMessagesSaid : Prop := fnMessagesRow.holds Tryd.pinned (OpenSpec.ofChange fnMessagesSpec)

/-- ITS FALSE NEIGHBOUR: 'it returns false'. Refute it at one input. -/
def fnMessagesWrong : ChangeSpec := { name := "fnMessages", vars := ["loop.example/kilncrew/impl.usages"], fn := fun _ => fun
  | [d, g1] => { results := [.lit (.bool false)], args := [d], vars := [g1] }
  | _ => none }
def FnMessagesWrongFalsely : Prop := fnMessagesRow.holds Tryd.pinned (OpenSpec.ofChange fnMessagesWrong)

/-- 'laws.FnExactForged': WHATEVER THE INPUT: true; the input reads as it did. -/
def fnExactForgedSpec : ChangeSpec := { name := "fnExactForged", vars := ["loop.example/kilncrew/impl.usages"], fn := fun _ => fun
  | [d1, d2, g1] => { results := [.lit (.bool true)], args := [d1, d2], vars := [g1] }
  | _ => none }
def fnExactForgedRow : OpenClaim := { program := "ytlgmkmegkojgbaadoor", sum := "2809373ad0185bc028f537dea4f17f346f215d7828144c829cfe07ab1f643ee4", func := "loop.example/kilncrew/laws.FnExactForged", spec := "fnExactForged", inPlace := ["internal/reflectlite.ValueOf", "(internal/reflectlite.Value).Type", "(internal/reflectlite.Value).IsNil", "internal/reflectlite.TypeOf", "(internal/reflectlite.Value).Elem", "(internal/reflectlite.Value).Set"], unfollowed := true, recurses := true, named := ["loop.example/kilncrew/impl.usages", "errors.errorType"], apart := false, laid := [("errors.errorType", laid_errors_errorType), ("loop.example/kilncrew/impl.usages", laid_loop_example_kilncrew_impl_usages)] }
def FnExactForgedSaid : Prop := fnExactForgedRow.holds Tryd.pinned (OpenSpec.ofChange fnExactForgedSpec)

/-- ITS FALSE NEIGHBOUR: 'it returns false'. Refute it at one input. -/
def fnExactForgedWrong : ChangeSpec := { name := "fnExactForged", vars := ["loop.example/kilncrew/impl.usages"], fn := fun _ => fun
  | [d1, d2, g1] => { results := [.lit (.bool false)], args := [d1, d2], vars := [g1] }
  | _ => none }
def FnExactForgedWrongFalsely : Prop := fnExactForgedRow.holds Tryd.pinned (OpenSpec.ofChange fnExactForgedWrong)

/-- 'laws.FnExactPost': WHATEVER THE INPUT: true; the input reads as it did. -/
def fnExactPostSpec : ChangeSpec := { name := "fnExactPost", vars := ["loop.example/kilncrew/impl.usages"], fn := fun _ => fun
  | [d1, d2, d3, g1] => { results := [.lit (.bool true)], args := [d1, d2, d3], vars := [g1] }
  | _ => none }
def fnExactPostRow : OpenClaim := { program := "ytlgmkmegkojgbaadoor", sum := "2809373ad0185bc028f537dea4f17f346f215d7828144c829cfe07ab1f643ee4", func := "loop.example/kilncrew/laws.FnExactPost", spec := "fnExactPost", inPlace := ["internal/abi.NoEscape"], named := ["loop.example/kilncrew/impl.usages"], apart := false, laid := [("loop.example/kilncrew/impl.usages", laid_loop_example_kilncrew_impl_usages)] }
def FnExactPostSaid : Prop := fnExactPostRow.holds Tryd.pinned (OpenSpec.ofChange fnExactPostSpec)

/-- ITS FALSE NEIGHBOUR: 'it returns false'. Refute it at one input. -/
def fnExactPostWrong : ChangeSpec := { name := "fnExactPost", vars := ["loop.example/kilncrew/impl.usages"], fn := fun _ => fun
  | [d1, d2, d3, g1] => { results := [.lit (.bool false)], args := [d1, d2, d3], vars := [g1] }
  | _ => none }
def FnExactPostWrongFalsely : Prop := fnExactPostRow.holds Tryd.pinned (OpenSpec.ofChange fnExactPostWrong)

/- THE SECOND FORM. 'bulk': how many values and letters a reading holds, each counted each time it is reached (what is shared counts as often as it is met; a slice's spare places count too). A statement '..UptoSaid' is the law's where the arguments, and the package variables that the reading takes, are together of bulk at most 1048576: NARROWER than '..Said'. Prove '..Said' where nothing that the law and all that it calls make is longer than what came in: it says more and counts as full. Else prove '..UptoSaid'. A law counts once. -/
mutual
def uptoBulk {H : Type} : DataW H → Nat
  | .lit (.string bytes) => bytes.length + 1
  | .lit _ => 1
  | .nil => 1
  | .ptr d => uptoBulk d + 1
  | .slice elems spare => uptoBulkAll elems + uptoBulkAll spare + 1
  | .agg parts => uptoBulkAll parts + 1
  | .iface _ d => uptoBulk d + 1
  | .map entries => uptoBulkEntries entries + 1
  | .held _ => 1
def uptoBulkAll {H : Type} : List (DataW H) → Nat
  | [] => 0
  | d :: r => uptoBulk d + uptoBulkAll r
def uptoBulkEntries {H : Type} : List (Lit × DataW H) → Nat
  | [] => 0
  | x :: r => uptoBulkEntry x + uptoBulkEntries r
def uptoBulkEntry {H : Type} : Lit × DataW H → Nat
  | (.string bytes, d) => bytes.length + uptoBulk d + 1
  | (_, d) => uptoBulk d + 1
 end
def uptoSmall : (H : Type) → List (DataW H) → Bool := fun _ ds => decide (uptoBulkAll ds ≤ 1048576)
def OpenSpec.upto (s : _root_.Go.ChangeSpec) : _root_.Go.OpenSpec := { _root_.Go.OpenSpec.ofChange s with cond := some uptoSmall }

/-- 'laws.FnExactFormMessage', WHERE WHAT IT READS IS OF BULK AT MOST 1048576: true; the input reads as it did. -/
def fnExactFormMessageUptoRow : OpenClaim := { program := "ytlgmkmegkojgbaadoor", sum := "2809373ad0185bc028f537dea4f17f346f215d7828144c829cfe07ab1f643ee4", func := "loop.example/kilncrew/laws.FnExactFormMessage", spec := "fnExactFormMessage", inPlace := ["internal/abi.NoEscape"], named := ["loop.example/kilncrew/impl.usages"], apart := false, laid := [("loop.example/kilncrew/impl.usages", laid_loop_example_kilncrew_impl_usages)], narrowed := true }
def FnExactFormMessageUptoSaid : Prop := fnExactFormMessageUptoRow.holds Tryd.pinned (OpenSpec.upto fnExactFormMessageSpec)

/-- 'laws.FnExactReadMessage', WHERE WHAT IT READS IS OF BULK AT MOST 1048576: true; the input reads as it did. -/
def fnExactReadMessageUptoRow : OpenClaim := { program := "ytlgmkmegkojgbaadoor", sum := "2809373ad0185bc028f537dea4f17f346f215d7828144c829cfe07ab1f643ee4", func := "loop.example/kilncrew/laws.FnExactReadMessage", spec := "fnExactReadMessage", inPlace := ["internal/reflectlite.ValueOf", "(internal/reflectlite.Value).Type", "(internal/reflectlite.Value).IsNil", "internal/reflectlite.TypeOf", "(internal/reflectlite.Value).Elem", "(internal/reflectlite.Value).Set"], unfollowed := true, recurses := true, named := ["loop.example/kilncrew/impl.usages", "errors.errorType"], apart := false, laid := [("errors.errorType", laid_errors_errorType), ("loop.example/kilncrew/impl.usages", laid_loop_example_kilncrew_impl_usages)], narrowed := true }
def FnExactReadMessageUptoSaid : Prop := fnExactReadMessageUptoRow.holds Tryd.pinned (OpenSpec.upto fnExactReadMessageSpec)

/-- 'laws.FnMessages', WHERE WHAT IT READS IS OF BULK AT MOST 1048576: true; the input reads as it did. -/
def fnMessagesUptoRow : OpenClaim := { program := "ytlgmkmegkojgbaadoor", sum := "2809373ad0185bc028f537dea4f17f346f215d7828144c829cfe07ab1f643ee4", func := "loop.example/kilncrew/laws.FnMessages", spec := "fnMessages", inPlace := ["internal/abi.NoEscape", "internal/reflectlite.ValueOf", "(internal/reflectlite.Value).Type", "(internal/reflectlite.Value).IsNil", "internal/reflectlite.TypeOf", "(internal/reflectlite.Value).Elem", "(internal/reflectlite.Value).Set"], unfollowed := true, recurses := true, named := ["loop.example/kilncrew/impl.usages", "errors.errorType"], apart := false, laid := [("errors.errorType", laid_errors_errorType), ("loop.example/kilncrew/impl.usages", laid_loop_example_kilncrew_impl_usages)], narrowed := true }
def FnMessagesUptoSaid : Prop := fnMessagesUptoRow.holds Tryd.pinned (OpenSpec.upto fnMessagesSpec)

/-- 'laws.FnExactForged', WHERE WHAT IT READS IS OF BULK AT MOST 1048576: true; the input reads as it did. -/
def fnExactForgedUptoRow : OpenClaim := { program := "ytlgmkmegkojgbaadoor", sum := "2809373ad0185bc028f537dea4f17f346f215d7828144c829cfe07ab1f643ee4", func := "loop.example/kilncrew/laws.FnExactForged", spec := "fnExactForged", inPlace := ["internal/reflectlite.ValueOf", "(internal/reflectlite.Value).Type", "(internal/reflectlite.Value).IsNil", "internal/reflectlite.TypeOf", "(internal/reflectlite.Value).Elem", "(internal/reflectlite.Value).Set"], unfollowed := true, recurses := true, named := ["loop.example/kilncrew/impl.usages", "errors.errorType"], apart := false, laid := [("errors.errorType", laid_errors_errorType), ("loop.example/kilncrew/impl.usages", laid_loop_example_kilncrew_impl_usages)], narrowed := true }
def FnExactForgedUptoSaid : Prop := fnExactForgedUptoRow.holds Tryd.pinned (OpenSpec.upto fnExactForgedSpec)

/-- 'laws.FnExactPost', WHERE WHAT IT READS IS OF BULK AT MOST 1048576: true; the input reads as it did. -/
def fnExactPostUptoRow : OpenClaim := { program := "ytlgmkmegkojgbaadoor", sum := "2809373ad0185bc028f537dea4f17f346f215d7828144c829cfe07ab1f643ee4", func := "loop.example/kilncrew/laws.FnExactPost", spec := "fnExactPost", inPlace := ["internal/abi.NoEscape"], named := ["loop.example/kilncrew/impl.usages"], apart := false, laid := [("loop.example/kilncrew/impl.usages", laid_loop_example_kilncrew_impl_usages)], narrowed := true }
def FnExactPostUptoSaid : Prop := fnExactPostUptoRow.holds Tryd.pinned (OpenSpec.upto fnExactPostSpec)

end Rows
end Go.Proofs.YtlgmkmegkojgbaaDoor
