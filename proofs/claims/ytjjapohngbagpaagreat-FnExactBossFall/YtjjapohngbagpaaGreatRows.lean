/-
  No cell of these rows narrows 'for every input' (looked for: loops, veiled, ifaces, maps, wideKeys, modest, calm, conditions, laid).
  DERIVED. THE GIVEN ROWS OF THIS SEAT. 6 by the template 'for every input the law returns true; each argument reads behind the call as it read before'; 0 by the template 'total and deterministic' (their statements: YtjjapohngbagpaaGreatTotals.lean).
  GIVEN WITH THE SEED: the statements are not yours to turn. If you find one false, say at which input.
  Laid BY PROGRAM, IN A SANDBOX (cutbox-rows.mjs): the forced cells as the released guide's own fill.sh prints them over the translation 2215e5d88abcf8fe… (all of the seat's roots in one cut). By AI agents, Wed Nov 11 2026. No macro, syntax, notation, axiom, sorry.
-/
import Derived.Test.YtjjapohngbagpaaGreatChecked
import GoSem.Claim
import GoSem.ClaimJoined
import GoSem.ClaimMapViews
import Derived.JoinedTies
import Derived.KernelRfl
namespace Go.Proofs.YtjjapohngbagpaaGreat
/- THE CELL 'sum', in the pinned program and in every row, IS THE sha256 OF THE DUMP (.gsa) THAT YtjjapohngbagpaaGreatProg.lean LOADS. Nothing in Lean hashes anything: it is a label: what it is worth is what the hold of that sum in a sandbox is worth. -/
noncomputable def Tryz.pinned : Pinned := { name := "ytjjapohngbagpaagreat", sum := "2215e5d88abcf8fe07c01af3f7c42dcf0729eed434ad47e4ad40d668331b7b95", checked := Tryz.checked }
namespace Rows
def none {H : Type} : Left H := { results := [], args := [] }

/-- 'laws.FnExactValidWorld': WHATEVER THE INPUT: true; the input reads as it did. -/
def fnExactValidWorldSpec : ChangeSpec := { name := "fnExactValidWorld", fn := fun _ => fun
  | [d] => { results := [.lit (.bool true)], args := [d] }
  | _ => none }
def fnExactValidWorldRow : OpenClaim := { program := "ytjjapohngbagpaagreat", sum := "2215e5d88abcf8fe07c01af3f7c42dcf0729eed434ad47e4ad40d668331b7b95", func := "loop.example/kilncrew/laws.FnExactValidWorld", spec := "fnExactValidWorld", unfollowed := true, recurses := true, apart := false }
def FnExactValidWorldSaid : Prop := fnExactValidWorldRow.holds Tryz.pinned (OpenSpec.ofChange fnExactValidWorldSpec)

/-- ITS FALSE NEIGHBOUR: 'it returns false'. Refute it at one input. -/
def fnExactValidWorldWrong : ChangeSpec := { name := "fnExactValidWorld", fn := fun _ => fun
  | [d] => { results := [.lit (.bool false)], args := [d] }
  | _ => none }
def FnExactValidWorldWrongFalsely : Prop := fnExactValidWorldRow.holds Tryz.pinned (OpenSpec.ofChange fnExactValidWorldWrong)

/-- 'laws.FnExactFinished': WHATEVER THE INPUT: true; the input reads as it did. -/
def fnExactFinishedSpec : ChangeSpec := { name := "fnExactFinished", fn := fun _ => fun
  | [d] => { results := [.lit (.bool true)], args := [d] }
  | _ => none }
def fnExactFinishedRow : OpenClaim := { program := "ytjjapohngbagpaagreat", sum := "2215e5d88abcf8fe07c01af3f7c42dcf0729eed434ad47e4ad40d668331b7b95", func := "loop.example/kilncrew/laws.FnExactFinished", spec := "fnExactFinished", unfollowed := true, recurses := true, apart := false }
def FnExactFinishedSaid : Prop := fnExactFinishedRow.holds Tryz.pinned (OpenSpec.ofChange fnExactFinishedSpec)

/-- ITS FALSE NEIGHBOUR: 'it returns false'. Refute it at one input. -/
def fnExactFinishedWrong : ChangeSpec := { name := "fnExactFinished", fn := fun _ => fun
  | [d] => { results := [.lit (.bool false)], args := [d] }
  | _ => none }
def FnExactFinishedWrongFalsely : Prop := fnExactFinishedRow.holds Tryz.pinned (OpenSpec.ofChange fnExactFinishedWrong)

/-- 'laws.FnExactWrong': WHATEVER THE INPUT: true; the input reads as it did. -/
def fnExactWrongSpec : ChangeSpec := { name := "fnExactWrong", fn := fun _ => fun
  | [d] => { results := [.lit (.bool true)], args := [d] }
  | _ => none }
def fnExactWrongRow : OpenClaim := { program := "ytjjapohngbagpaagreat", sum := "2215e5d88abcf8fe07c01af3f7c42dcf0729eed434ad47e4ad40d668331b7b95", func := "loop.example/kilncrew/laws.FnExactWrong", spec := "fnExactWrong", unfollowed := true, recurses := true, apart := false }
def FnExactWrongSaid : Prop := fnExactWrongRow.holds Tryz.pinned (OpenSpec.ofChange fnExactWrongSpec)

/-- ITS FALSE NEIGHBOUR: 'it returns false'. Refute it at one input. -/
def fnExactWrongWrong : ChangeSpec := { name := "fnExactWrong", fn := fun _ => fun
  | [d] => { results := [.lit (.bool false)], args := [d] }
  | _ => none }
def FnExactWrongWrongFalsely : Prop := fnExactWrongRow.holds Tryz.pinned (OpenSpec.ofChange fnExactWrongWrong)

/-- 'laws.FnExactNewWorld': WHATEVER THE INPUT: true; the input reads as it did. -/
def fnExactNewWorldSpec : ChangeSpec := { name := "fnExactNewWorld", fn := fun _ => fun
  | [d1, d2, d3] => { results := [.lit (.bool true)], args := [d1, d2, d3] }
  | _ => none }
def fnExactNewWorldRow : OpenClaim := { program := "ytjjapohngbagpaagreat", sum := "2215e5d88abcf8fe07c01af3f7c42dcf0729eed434ad47e4ad40d668331b7b95", func := "loop.example/kilncrew/laws.FnExactNewWorld", spec := "fnExactNewWorld", inPlace := ["internal/abi.NoEscape"], unfollowed := true, recurses := true, apart := false }
def FnExactNewWorldSaid : Prop := fnExactNewWorldRow.holds Tryz.pinned (OpenSpec.ofChange fnExactNewWorldSpec)

/-- ITS FALSE NEIGHBOUR: 'it returns false'. Refute it at one input. -/
def fnExactNewWorldWrong : ChangeSpec := { name := "fnExactNewWorld", fn := fun _ => fun
  | [d1, d2, d3] => { results := [.lit (.bool false)], args := [d1, d2, d3] }
  | _ => none }
def FnExactNewWorldWrongFalsely : Prop := fnExactNewWorldRow.holds Tryz.pinned (OpenSpec.ofChange fnExactNewWorldWrong)

/-- 'laws.FnExactBossFall': WHATEVER THE INPUT: true; the input reads as it did. -/
def fnExactBossFallSpec : ChangeSpec := { name := "fnExactBossFall", fn := fun _ => fun
  | [d1, d2, d3] => { results := [.lit (.bool true)], args := [d1, d2, d3] }
  | _ => none }
def fnExactBossFallRow : OpenClaim := { program := "ytjjapohngbagpaagreat", sum := "2215e5d88abcf8fe07c01af3f7c42dcf0729eed434ad47e4ad40d668331b7b95", func := "loop.example/kilncrew/laws.FnExactBossFall", spec := "fnExactBossFall", unfollowed := true, recurses := true, apart := false }
def FnExactBossFallSaid : Prop := fnExactBossFallRow.holds Tryz.pinned (OpenSpec.ofChange fnExactBossFallSpec)

/-- ITS FALSE NEIGHBOUR: 'it returns false'. Refute it at one input. -/
def fnExactBossFallWrong : ChangeSpec := { name := "fnExactBossFall", fn := fun _ => fun
  | [d1, d2, d3] => { results := [.lit (.bool false)], args := [d1, d2, d3] }
  | _ => none }
def FnExactBossFallWrongFalsely : Prop := fnExactBossFallRow.holds Tryz.pinned (OpenSpec.ofChange fnExactBossFallWrong)

/-- 'laws.FnExactBossRise': WHATEVER THE INPUT: true; the input reads as it did. -/
def fnExactBossRiseSpec : ChangeSpec := { name := "fnExactBossRise", fn := fun _ => fun
  | [d1, d2] => { results := [.lit (.bool true)], args := [d1, d2] }
  | _ => none }
def fnExactBossRiseRow : OpenClaim := { program := "ytjjapohngbagpaagreat", sum := "2215e5d88abcf8fe07c01af3f7c42dcf0729eed434ad47e4ad40d668331b7b95", func := "loop.example/kilncrew/laws.FnExactBossRise", spec := "fnExactBossRise", inPlace := ["internal/abi.NoEscape"], unfollowed := true, recurses := true, apart := false }
def FnExactBossRiseSaid : Prop := fnExactBossRiseRow.holds Tryz.pinned (OpenSpec.ofChange fnExactBossRiseSpec)

/-- ITS FALSE NEIGHBOUR: 'it returns false'. Refute it at one input. -/
def fnExactBossRiseWrong : ChangeSpec := { name := "fnExactBossRise", fn := fun _ => fun
  | [d1, d2] => { results := [.lit (.bool false)], args := [d1, d2] }
  | _ => none }
def FnExactBossRiseWrongFalsely : Prop := fnExactBossRiseRow.holds Tryz.pinned (OpenSpec.ofChange fnExactBossRiseWrong)

/- THE SECOND FORM. 'bulk': how many values and letters a reading holds, each counted each time it is reached (what is shared counts as often as it is met; a slice's spare places count too). A statement '..UptoSaid' is the law's where the arguments, and the package variables that the reading takes, are together of bulk at most 1048576: NARROWER than '..Said'. Prove '..Said' where nothing that the law and all that it calls make is longer than what came in: it says more and counts as full. Else prove '..UptoSaid'. A law counts once. -/
mutual
def uptoBulk {H : Type} : DataW H → Nat
  | .lit (.string bytes) => bytes.length + 1
  | .lit _ => 1
  | .nil => 1
  | .ptr d => uptoBulk d + 1
  | .slice elems spare => uptoBulkAll elems + uptoBulkAll spare + 1
  | .agg parts => uptoBulkAll parts + 1
  | .iface _ d => uptoBulk d + 1
  | .map entries => uptoBulkEntries entries + 1
  | .held _ => 1
def uptoBulkAll {H : Type} : List (DataW H) → Nat
  | [] => 0
  | d :: r => uptoBulk d + uptoBulkAll r
def uptoBulkEntries {H : Type} : List (Lit × DataW H) → Nat
  | [] => 0
  | x :: r => uptoBulkEntry x + uptoBulkEntries r
def uptoBulkEntry {H : Type} : Lit × DataW H → Nat
  | (.string bytes, d) => bytes.length + uptoBulk d + 1
  | (_, d) => uptoBulk d + 1
 end
def uptoSmall : (H : Type) → List (DataW H) → Bool := fun _ ds => decide (uptoBulkAll ds ≤ 1048576)
def OpenSpec.upto (s : _root_.Go.ChangeSpec) : _root_.Go.OpenSpec := { _root_.Go.OpenSpec.ofChange s with cond := some uptoSmall }

/-- 'laws.FnExactValidWorld', WHERE WHAT IT READS IS OF BULK AT MOST 1048576: true; the input reads as it did. -/
def fnExactValidWorldUptoRow : OpenClaim := { program := "ytjjapohngbagpaagreat", sum := "2215e5d88abcf8fe07c01af3f7c42dcf0729eed434ad47e4ad40d668331b7b95", func := "loop.example/kilncrew/laws.FnExactValidWorld", spec := "fnExactValidWorld", unfollowed := true, recurses := true, apart := false, narrowed := true }
def FnExactValidWorldUptoSaid : Prop := fnExactValidWorldUptoRow.holds Tryz.pinned (OpenSpec.upto fnExactValidWorldSpec)

/-- 'laws.FnExactFinished', WHERE WHAT IT READS IS OF BULK AT MOST 1048576: true; the input reads as it did. -/
def fnExactFinishedUptoRow : OpenClaim := { program := "ytjjapohngbagpaagreat", sum := "2215e5d88abcf8fe07c01af3f7c42dcf0729eed434ad47e4ad40d668331b7b95", func := "loop.example/kilncrew/laws.FnExactFinished", spec := "fnExactFinished", unfollowed := true, recurses := true, apart := false, narrowed := true }
def FnExactFinishedUptoSaid : Prop := fnExactFinishedUptoRow.holds Tryz.pinned (OpenSpec.upto fnExactFinishedSpec)

/-- 'laws.FnExactWrong', WHERE WHAT IT READS IS OF BULK AT MOST 1048576: true; the input reads as it did. -/
def fnExactWrongUptoRow : OpenClaim := { program := "ytjjapohngbagpaagreat", sum := "2215e5d88abcf8fe07c01af3f7c42dcf0729eed434ad47e4ad40d668331b7b95", func := "loop.example/kilncrew/laws.FnExactWrong", spec := "fnExactWrong", unfollowed := true, recurses := true, apart := false, narrowed := true }
def FnExactWrongUptoSaid : Prop := fnExactWrongUptoRow.holds Tryz.pinned (OpenSpec.upto fnExactWrongSpec)

/-- 'laws.FnExactNewWorld', WHERE WHAT IT READS IS OF BULK AT MOST 1048576: true; the input reads as it did. -/
def fnExactNewWorldUptoRow : OpenClaim := { program := "ytjjapohngbagpaagreat", sum := "2215e5d88abcf8fe07c01af3f7c42dcf0729eed434ad47e4ad40d668331b7b95", func := "loop.example/kilncrew/laws.FnExactNewWorld", spec := "fnExactNewWorld", inPlace := ["internal/abi.NoEscape"], unfollowed := true, recurses := true, apart := false, narrowed := true }
def FnExactNewWorldUptoSaid : Prop := fnExactNewWorldUptoRow.holds Tryz.pinned (OpenSpec.upto fnExactNewWorldSpec)

/-- 'laws.FnExactBossFall', WHERE WHAT IT READS IS OF BULK AT MOST 1048576: true; the input reads as it did. -/
def fnExactBossFallUptoRow : OpenClaim := { program := "ytjjapohngbagpaagreat", sum := "2215e5d88abcf8fe07c01af3f7c42dcf0729eed434ad47e4ad40d668331b7b95", func := "loop.example/kilncrew/laws.FnExactBossFall", spec := "fnExactBossFall", unfollowed := true, recurses := true, apart := false, narrowed := true }
def FnExactBossFallUptoSaid : Prop := fnExactBossFallUptoRow.holds Tryz.pinned (OpenSpec.upto fnExactBossFallSpec)

/-- 'laws.FnExactBossRise', WHERE WHAT IT READS IS OF BULK AT MOST 1048576: true; the input reads as it did. -/
def fnExactBossRiseUptoRow : OpenClaim := { program := "ytjjapohngbagpaagreat", sum := "2215e5d88abcf8fe07c01af3f7c42dcf0729eed434ad47e4ad40d668331b7b95", func := "loop.example/kilncrew/laws.FnExactBossRise", spec := "fnExactBossRise", inPlace := ["internal/abi.NoEscape"], unfollowed := true, recurses := true, apart := false, narrowed := true }
def FnExactBossRiseUptoSaid : Prop := fnExactBossRiseUptoRow.holds Tryz.pinned (OpenSpec.upto fnExactBossRiseSpec)

end Rows
end Go.Proofs.YtjjapohngbagpaaGreat
