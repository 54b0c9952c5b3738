/-
  No cell of these rows narrows 'for every input' (looked for: loops, veiled, ifaces, maps, wideKeys, modest, calm, conditions, laid).
  DERIVED. THE GIVEN ROWS OF THIS SEAT. 4 by the template 'for every input the law returns true; each argument reads behind the call as it read before'; 0 by the template 'total and deterministic' (their statements: YtoikcjeagigmfaaTotals.lean).
  GIVEN WITH THE SEED: the statements are not yours to turn. If you find one false, say at which input.
  Laid BY PROGRAM, IN A SANDBOX (cutbox-rows.mjs): the forced cells as the released guide's own fill.sh prints them over the translation a7a4bb40008ef832… (all of the seat's roots in one cut). By AI agents, Wed Nov 11 2026. No macro, syntax, notation, axiom, sorry.
-/
import Derived.Test.YtoikcjeagigmfaaChecked
import GoSem.Claim
import GoSem.ClaimJoined
import GoSem.ClaimMapViews
import Derived.JoinedTies
import Derived.KernelRfl
namespace Go.Proofs.Ytoikcjeagigmfaa
/- THE CELL 'sum', in the pinned program and in every row, IS THE sha256 OF THE DUMP (.gsa) THAT YtoikcjeagigmfaaProg.lean LOADS. Nothing in Lean hashes anything: it is a label: what it is worth is what the hold of that sum in a sandbox is worth. -/
noncomputable def Try.pinned : Pinned := { name := "ytoikcjeagigmfaa", sum := "a7a4bb40008ef8324e52ac52b595d3c6d9e86d452d1e08c39a94acb8b48c5f97", checked := Try.checked }
namespace Rows
def none {H : Type} : Left H := { results := [], args := [] }

/-- 'laws.FnExactFormEntry': WHATEVER THE INPUT: true; the input reads as it did. -/
def fnExactFormEntrySpec : ChangeSpec := { name := "fnExactFormEntry", fn := fun _ => fun
  | [d] => { results := [.lit (.bool true)], args := [d] }
  | _ => none }
def fnExactFormEntryRow : OpenClaim := { program := "ytoikcjeagigmfaa", sum := "a7a4bb40008ef8324e52ac52b595d3c6d9e86d452d1e08c39a94acb8b48c5f97", func := "loop.example/kilncrew/laws.FnExactFormEntry", spec := "fnExactFormEntry", inPlace := ["internal/abi.NoEscape"], apart := false }
def FnExactFormEntrySaid : Prop := fnExactFormEntryRow.holds Try.pinned (OpenSpec.ofChange fnExactFormEntrySpec)

/-- ITS FALSE NEIGHBOUR: 'it returns false'. Refute it at one input. -/
def fnExactFormEntryWrong : ChangeSpec := { name := "fnExactFormEntry", fn := fun _ => fun
  | [d] => { results := [.lit (.bool false)], args := [d] }
  | _ => none }
def FnExactFormEntryWrongFalsely : Prop := fnExactFormEntryRow.holds Try.pinned (OpenSpec.ofChange fnExactFormEntryWrong)

/-- 'laws.FnExactReadEntry': WHATEVER THE INPUT: true; the input reads as it did. -/
def fnExactReadEntrySpec : ChangeSpec := { name := "fnExactReadEntry", fn := fun _ => fun
  | [d] => { results := [.lit (.bool true)], args := [d] }
  | _ => none }
def fnExactReadEntryRow : OpenClaim := { program := "ytoikcjeagigmfaa", sum := "a7a4bb40008ef8324e52ac52b595d3c6d9e86d452d1e08c39a94acb8b48c5f97", func := "loop.example/kilncrew/laws.FnExactReadEntry", spec := "fnExactReadEntry", apart := false }
def FnExactReadEntrySaid : Prop := fnExactReadEntryRow.holds Try.pinned (OpenSpec.ofChange fnExactReadEntrySpec)

/-- ITS FALSE NEIGHBOUR: 'it returns false'. Refute it at one input. -/
def fnExactReadEntryWrong : ChangeSpec := { name := "fnExactReadEntry", fn := fun _ => fun
  | [d] => { results := [.lit (.bool false)], args := [d] }
  | _ => none }
def FnExactReadEntryWrongFalsely : Prop := fnExactReadEntryRow.holds Try.pinned (OpenSpec.ofChange fnExactReadEntryWrong)

/-- 'laws.FnExactReplay': WHATEVER THE INPUT: true; the input reads as it did. -/
def fnExactReplaySpec : ChangeSpec := { name := "fnExactReplay", fn := fun _ => fun
  | [d1, d2] => { results := [.lit (.bool true)], args := [d1, d2] }
  | _ => none }
def fnExactReplayRow : OpenClaim := { program := "ytoikcjeagigmfaa", sum := "a7a4bb40008ef8324e52ac52b595d3c6d9e86d452d1e08c39a94acb8b48c5f97", func := "loop.example/kilncrew/laws.FnExactReplay", spec := "fnExactReplay", unfollowed := true, recurses := true, apart := false }
def FnExactReplaySaid : Prop := fnExactReplayRow.holds Try.pinned (OpenSpec.ofChange fnExactReplaySpec)

/-- ITS FALSE NEIGHBOUR: 'it returns false'. Refute it at one input. -/
def fnExactReplayWrong : ChangeSpec := { name := "fnExactReplay", fn := fun _ => fun
  | [d1, d2] => { results := [.lit (.bool false)], args := [d1, d2] }
  | _ => none }
def FnExactReplayWrongFalsely : Prop := fnExactReplayRow.holds Try.pinned (OpenSpec.ofChange fnExactReplayWrong)

/-- 'laws.FnExactValidBoss': WHATEVER THE INPUT: true; the input reads as it did. -/
def fnExactValidBossSpec : ChangeSpec := { name := "fnExactValidBoss", fn := fun _ => fun
  | [d1, d2] => { results := [.lit (.bool true)], args := [d1, d2] }
  | _ => none }
def fnExactValidBossRow : OpenClaim := { program := "ytoikcjeagigmfaa", sum := "a7a4bb40008ef8324e52ac52b595d3c6d9e86d452d1e08c39a94acb8b48c5f97", func := "loop.example/kilncrew/laws.FnExactValidBoss", spec := "fnExactValidBoss", unfollowed := true, recurses := true, apart := false }
def FnExactValidBossSaid : Prop := fnExactValidBossRow.holds Try.pinned (OpenSpec.ofChange fnExactValidBossSpec)

/-- ITS FALSE NEIGHBOUR: 'it returns false'. Refute it at one input. -/
def fnExactValidBossWrong : ChangeSpec := { name := "fnExactValidBoss", fn := fun _ => fun
  | [d1, d2] => { results := [.lit (.bool false)], args := [d1, d2] }
  | _ => none }
def FnExactValidBossWrongFalsely : Prop := fnExactValidBossRow.holds Try.pinned (OpenSpec.ofChange fnExactValidBossWrong)

/- THE SECOND FORM. 'bulk': how many values and letters a reading holds, each counted each time it is reached (what is shared counts as often as it is met; a slice's spare places count too). A statement '..UptoSaid' is the law's where the arguments, and the package variables that the reading takes, are together of bulk at most 1048576: NARROWER than '..Said'. Prove '..Said' where nothing that the law and all that it calls make is longer than what came in: it says more and counts as full. Else prove '..UptoSaid'. A law counts once. -/
mutual
def uptoBulk {H : Type} : DataW H → Nat
  | .lit (.string bytes) => bytes.length + 1
  | .lit _ => 1
  | .nil => 1
  | .ptr d => uptoBulk d + 1
  | .slice elems spare => uptoBulkAll elems + uptoBulkAll spare + 1
  | .agg parts => uptoBulkAll parts + 1
  | .iface _ d => uptoBulk d + 1
  | .map entries => uptoBulkEntries entries + 1
  | .held _ => 1
def uptoBulkAll {H : Type} : List (DataW H) → Nat
  | [] => 0
  | d :: r => uptoBulk d + uptoBulkAll r
def uptoBulkEntries {H : Type} : List (Lit × DataW H) → Nat
  | [] => 0
  | x :: r => uptoBulkEntry x + uptoBulkEntries r
def uptoBulkEntry {H : Type} : Lit × DataW H → Nat
  | (.string bytes, d) => bytes.length + uptoBulk d + 1
  | (_, d) => uptoBulk d + 1
 end
def uptoSmall : (H : Type) → List (DataW H) → Bool := fun _ ds => decide (uptoBulkAll ds ≤ 1048576)
def OpenSpec.upto (s : _root_.Go.ChangeSpec) : _root_.Go.OpenSpec := { _root_.Go.OpenSpec.ofChange s with cond := some uptoSmall }

/-- 'laws.FnExactFormEntry', WHERE WHAT IT READS IS OF BULK AT MOST 1048576: true; the input reads as it did. -/
def fnExactFormEntryUptoRow : OpenClaim := { program := "ytoikcjeagigmfaa", sum := "a7a4bb40008ef8324e52ac52b595d3c6d9e86d452d1e08c39a94acb8b48c5f97", func := "loop.example/kilncrew/laws.FnExactFormEntry", spec := "fnExactFormEntry", inPlace := ["internal/abi.NoEscape"], apart := false, narrowed := true }
def FnExactFormEntryUptoSaid : Prop := fnExactFormEntryUptoRow.holds Try.pinned (OpenSpec.upto fnExactFormEntrySpec)

/-- 'laws.FnExactReadEntry', WHERE WHAT IT READS IS OF BULK AT MOST 1048576: true; the input reads as it did. -/
def fnExactReadEntryUptoRow : OpenClaim := { program := "ytoikcjeagigmfaa", sum := "a7a4bb40008ef8324e52ac52b595d3c6d9e86d452d1e08c39a94acb8b48c5f97", func := "loop.example/kilncrew/laws.FnExactReadEntry", spec := "fnExactReadEntry", apart := false, narrowed := true }
def FnExactReadEntryUptoSaid : Prop := fnExactReadEntryUptoRow.holds Try.pinned (OpenSpec.upto fnExactReadEntrySpec)

/-- 'laws.FnExactReplay', WHERE WHAT IT READS IS OF BULK AT MOST 1048576: true; the input reads as it did. -/
def fnExactReplayUptoRow : OpenClaim := { program := "ytoikcjeagigmfaa", sum := "a7a4bb40008ef8324e52ac52b595d3c6d9e86d452d1e08c39a94acb8b48c5f97", func := "loop.example/kilncrew/laws.FnExactReplay", spec := "fnExactReplay", unfollowed := true, recurses := true, apart := false, narrowed := true }
def FnExactReplayUptoSaid : Prop := fnExactReplayUptoRow.holds Try.pinned (OpenSpec.upto fnExactReplaySpec)

/-- 'laws.FnExactValidBoss', WHERE WHAT IT READS IS OF BULK AT MOST 1048576: true; the input reads as it did. -/
def fnExactValidBossUptoRow : OpenClaim := { program := "ytoikcjeagigmfaa", sum := "a7a4bb40008ef8324e52ac52b595d3c6d9e86d452d1e08c39a94acb8b48c5f97", func := "loop.example/kilncrew/laws.FnExactValidBoss", spec := "fnExactValidBoss", unfollowed := true, recurses := true, apart := false, narrowed := true }
def FnExactValidBossUptoSaid : Prop := fnExactValidBossUptoRow.holds Try.pinned (OpenSpec.upto fnExactValidBossSpec)

end Rows
end Go.Proofs.Ytoikcjeagigmfaa
