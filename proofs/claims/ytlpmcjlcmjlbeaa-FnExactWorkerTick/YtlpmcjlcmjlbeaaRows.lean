/-
  No cell of these rows narrows 'for every input' (looked for: loops, veiled, ifaces, maps, wideKeys, modest, calm, conditions, laid).
  DERIVED. THE GIVEN ROWS OF THIS SEAT. 4 by the template 'for every input the law returns true; each argument reads behind the call as it read before'; 0 by the template 'total and deterministic' (their statements: YtlpmcjlcmjlbeaaTotals.lean).
  GIVEN WITH THE SEED: the statements are not yours to turn. If you find one false, say at which input.
  Laid BY PROGRAM, IN A SANDBOX (cutbox-rows.mjs): the forced cells as the released guide's own fill.sh prints them over the translation 37a261d03ae329dc… (all of the seat's roots in one cut). By AI agents, Wed Nov 11 2026. No macro, syntax, notation, axiom, sorry.
-/
import Derived.Test.YtlpmcjlcmjlbeaaChecked
import GoSem.Claim
import GoSem.ClaimJoined
import GoSem.ClaimMapViews
import Derived.JoinedTies
import Derived.KernelRfl
namespace Go.Proofs.Ytlpmcjlcmjlbeaa
/- THE CELL 'sum', in the pinned program and in every row, IS THE sha256 OF THE DUMP (.gsa) THAT YtlpmcjlcmjlbeaaProg.lean LOADS. Nothing in Lean hashes anything: it is a label: what it is worth is what the hold of that sum in a sandbox is worth. -/
noncomputable def Try.pinned : Pinned := { name := "ytlpmcjlcmjlbeaa", sum := "37a261d03ae329dc50486b9b006e9c6d0f981745197d40aca66f5177687cb0ef", checked := Try.checked }
namespace Rows
def none {H : Type} : Left H := { results := [], args := [] }

/-- 'laws.FnExactValidWorker': WHATEVER THE INPUT: true; the input reads as it did. -/
def fnExactValidWorkerSpec : ChangeSpec := { name := "fnExactValidWorker", fn := fun _ => fun
  | [d] => { results := [.lit (.bool true)], args := [d] }
  | _ => none }
def fnExactValidWorkerRow : OpenClaim := { program := "ytlpmcjlcmjlbeaa", sum := "37a261d03ae329dc50486b9b006e9c6d0f981745197d40aca66f5177687cb0ef", func := "loop.example/kilncrew/laws.FnExactValidWorker", spec := "fnExactValidWorker", unfollowed := true, recurses := true, apart := false }
def FnExactValidWorkerSaid : Prop := fnExactValidWorkerRow.holds Try.pinned (OpenSpec.ofChange fnExactValidWorkerSpec)

/-- ITS FALSE NEIGHBOUR: 'it returns false'. Refute it at one input. -/
def fnExactValidWorkerWrong : ChangeSpec := { name := "fnExactValidWorker", fn := fun _ => fun
  | [d] => { results := [.lit (.bool false)], args := [d] }
  | _ => none }
def FnExactValidWorkerWrongFalsely : Prop := fnExactValidWorkerRow.holds Try.pinned (OpenSpec.ofChange fnExactValidWorkerWrong)

/-- 'laws.FnExactWorkerFall': WHATEVER THE INPUT: true; the input reads as it did. -/
def fnExactWorkerFallSpec : ChangeSpec := { name := "fnExactWorkerFall", fn := fun _ => fun
  | [d] => { results := [.lit (.bool true)], args := [d] }
  | _ => none }
def fnExactWorkerFallRow : OpenClaim := { program := "ytlpmcjlcmjlbeaa", sum := "37a261d03ae329dc50486b9b006e9c6d0f981745197d40aca66f5177687cb0ef", func := "loop.example/kilncrew/laws.FnExactWorkerFall", spec := "fnExactWorkerFall", unfollowed := true, recurses := true, apart := false }
def FnExactWorkerFallSaid : Prop := fnExactWorkerFallRow.holds Try.pinned (OpenSpec.ofChange fnExactWorkerFallSpec)

/-- ITS FALSE NEIGHBOUR: 'it returns false'. Refute it at one input. -/
def fnExactWorkerFallWrong : ChangeSpec := { name := "fnExactWorkerFall", fn := fun _ => fun
  | [d] => { results := [.lit (.bool false)], args := [d] }
  | _ => none }
def FnExactWorkerFallWrongFalsely : Prop := fnExactWorkerFallRow.holds Try.pinned (OpenSpec.ofChange fnExactWorkerFallWrong)

/-- 'laws.FnExactWorkerRise': WHATEVER THE INPUT: true; the input reads as it did. -/
def fnExactWorkerRiseSpec : ChangeSpec := { name := "fnExactWorkerRise", fn := fun _ => fun
  | [d] => { results := [.lit (.bool true)], args := [d] }
  | _ => none }
def fnExactWorkerRiseRow : OpenClaim := { program := "ytlpmcjlcmjlbeaa", sum := "37a261d03ae329dc50486b9b006e9c6d0f981745197d40aca66f5177687cb0ef", func := "loop.example/kilncrew/laws.FnExactWorkerRise", spec := "fnExactWorkerRise", unfollowed := true, recurses := true, apart := false }
def FnExactWorkerRiseSaid : Prop := fnExactWorkerRiseRow.holds Try.pinned (OpenSpec.ofChange fnExactWorkerRiseSpec)

/-- ITS FALSE NEIGHBOUR: 'it returns false'. Refute it at one input. -/
def fnExactWorkerRiseWrong : ChangeSpec := { name := "fnExactWorkerRise", fn := fun _ => fun
  | [d] => { results := [.lit (.bool false)], args := [d] }
  | _ => none }
def FnExactWorkerRiseWrongFalsely : Prop := fnExactWorkerRiseRow.holds Try.pinned (OpenSpec.ofChange fnExactWorkerRiseWrong)

/-- 'laws.FnExactWorkerTick': WHATEVER THE INPUT: true; the input reads as it did. -/
def fnExactWorkerTickSpec : ChangeSpec := { name := "fnExactWorkerTick", fn := fun _ => fun
  | [d1, d2] => { results := [.lit (.bool true)], args := [d1, d2] }
  | _ => none }
def fnExactWorkerTickRow : OpenClaim := { program := "ytlpmcjlcmjlbeaa", sum := "37a261d03ae329dc50486b9b006e9c6d0f981745197d40aca66f5177687cb0ef", func := "loop.example/kilncrew/laws.FnExactWorkerTick", spec := "fnExactWorkerTick", unfollowed := true, recurses := true, apart := false }
def FnExactWorkerTickSaid : Prop := fnExactWorkerTickRow.holds Try.pinned (OpenSpec.ofChange fnExactWorkerTickSpec)

/-- ITS FALSE NEIGHBOUR: 'it returns false'. Refute it at one input. -/
def fnExactWorkerTickWrong : ChangeSpec := { name := "fnExactWorkerTick", fn := fun _ => fun
  | [d1, d2] => { results := [.lit (.bool false)], args := [d1, d2] }
  | _ => none }
def FnExactWorkerTickWrongFalsely : Prop := fnExactWorkerTickRow.holds Try.pinned (OpenSpec.ofChange fnExactWorkerTickWrong)

/- THE SECOND FORM. 'bulk': how many values and letters a reading holds, each counted each time it is reached (what is shared counts as often as it is met; a slice's spare places count too). A statement '..UptoSaid' is the law's where the arguments, and the package variables that the reading takes, are together of bulk at most 1048576: NARROWER than '..Said'. Prove '..Said' where nothing that the law and all that it calls make is longer than what came in: it says more and counts as full. Else prove '..UptoSaid'. A law counts once. -/
mutual
def uptoBulk {H : Type} : DataW H → Nat
  | .lit (.string bytes) => bytes.length + 1
  | .lit _ => 1
  | .nil => 1
  | .ptr d => uptoBulk d + 1
  | .slice elems spare => uptoBulkAll elems + uptoBulkAll spare + 1
  | .agg parts => uptoBulkAll parts + 1
  | .iface _ d => uptoBulk d + 1
  | .map entries => uptoBulkEntries entries + 1
  | .held _ => 1
def uptoBulkAll {H : Type} : List (DataW H) → Nat
  | [] => 0
  | d :: r => uptoBulk d + uptoBulkAll r
def uptoBulkEntries {H : Type} : List (Lit × DataW H) → Nat
  | [] => 0
  | x :: r => uptoBulkEntry x + uptoBulkEntries r
def uptoBulkEntry {H : Type} : Lit × DataW H → Nat
  | (.string bytes, d) => bytes.length + uptoBulk d + 1
  | (_, d) => uptoBulk d + 1
 end
def uptoSmall : (H : Type) → List (DataW H) → Bool := fun _ ds => decide (uptoBulkAll ds ≤ 1048576)
def OpenSpec.upto (s : _root_.Go.ChangeSpec) : _root_.Go.OpenSpec := { _root_.Go.OpenSpec.ofChange s with cond := some uptoSmall }

/-- 'laws.FnExactValidWorker', WHERE WHAT IT READS IS OF BULK AT MOST 1048576: true; the input reads as it did. -/
def fnExactValidWorkerUptoRow : OpenClaim := { program := "ytlpmcjlcmjlbeaa", sum := "37a261d03ae329dc50486b9b006e9c6d0f981745197d40aca66f5177687cb0ef", func := "loop.example/kilncrew/laws.FnExactValidWorker", spec := "fnExactValidWorker", unfollowed := true, recurses := true, apart := false, narrowed := true }
def FnExactValidWorkerUptoSaid : Prop := fnExactValidWorkerUptoRow.holds Try.pinned (OpenSpec.upto fnExactValidWorkerSpec)

/-- 'laws.FnExactWorkerFall', WHERE WHAT IT READS IS OF BULK AT MOST 1048576: true; the input reads as it did. -/
def fnExactWorkerFallUptoRow : OpenClaim := { program := "ytlpmcjlcmjlbeaa", sum := "37a261d03ae329dc50486b9b006e9c6d0f981745197d40aca66f5177687cb0ef", func := "loop.example/kilncrew/laws.FnExactWorkerFall", spec := "fnExactWorkerFall", unfollowed := true, recurses := true, apart := false, narrowed := true }
def FnExactWorkerFallUptoSaid : Prop := fnExactWorkerFallUptoRow.holds Try.pinned (OpenSpec.upto fnExactWorkerFallSpec)

/-- 'laws.FnExactWorkerRise', WHERE WHAT IT READS IS OF BULK AT MOST 1048576: true; the input reads as it did. -/
def fnExactWorkerRiseUptoRow : OpenClaim := { program := "ytlpmcjlcmjlbeaa", sum := "37a261d03ae329dc50486b9b006e9c6d0f981745197d40aca66f5177687cb0ef", func := "loop.example/kilncrew/laws.FnExactWorkerRise", spec := "fnExactWorkerRise", unfollowed := true, recurses := true, apart := false, narrowed := true }
def FnExactWorkerRiseUptoSaid : Prop := fnExactWorkerRiseUptoRow.holds Try.pinned (OpenSpec.upto fnExactWorkerRiseSpec)

/-- 'laws.FnExactWorkerTick', WHERE WHAT IT READS IS OF BULK AT MOST 1048576: true; the input reads as it did. -/
def fnExactWorkerTickUptoRow : OpenClaim := { program := "ytlpmcjlcmjlbeaa", sum := "37a261d03ae329dc50486b9b006e9c6d0f981745197d40aca66f5177687cb0ef", func := "loop.example/kilncrew/laws.FnExactWorkerTick", spec := "fnExactWorkerTick", unfollowed := true, recurses := true, apart := false, narrowed := true }
def FnExactWorkerTickUptoSaid : Prop := fnExactWorkerTickUptoRow.holds Try.pinned (OpenSpec.upto fnExactWorkerTickSpec)

end Rows
end Go.Proofs.Ytlpmcjlcmjlbeaa
