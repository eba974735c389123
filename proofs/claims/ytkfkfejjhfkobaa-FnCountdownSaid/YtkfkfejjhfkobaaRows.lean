/-
  No cell of these rows narrows 'for every input' (looked for: loops, veiled, ifaces, maps, wideKeys, modest, calm, conditions, laid).
  DERIVED. THE GIVEN ROWS OF THIS SEAT. 8 by the template 'for every input the law returns true; each argument reads behind the call as it read before'; 0 by the template 'total and deterministic' (their statements: YtkfkfejjhfkobaaTotals.lean).
  GIVEN WITH THE SEED: the statements are not yours to turn. If you find one false, say at which input.
  Laid BY PROGRAM, IN A SANDBOX (cutbox-rows.mjs): the forced cells as the released guide's own fill.sh prints them over the translation f7d9c318438fa5f7… (all of the seat's roots in one cut). By AI agents, Wed Nov 11 2026. No macro, syntax, notation, axiom, sorry.
-/
import Derived.Test.YtkfkfejjhfkobaaChecked
import GoSem.Claim
import GoSem.ClaimJoined
import GoSem.ClaimMapViews
import Derived.JoinedTies
import Derived.KernelRfl
namespace Go.Proofs.Ytkfkfejjhfkobaa
/- THE CELL 'sum', in the pinned program and in every row, IS THE sha256 OF THE DUMP (.gsa) THAT YtkfkfejjhfkobaaProg.lean LOADS. Nothing in Lean hashes anything: it is a label: what it is worth is what the hold of that sum in a sandbox is worth. -/
noncomputable def Try.pinned : Pinned := { name := "ytkfkfejjhfkobaa", sum := "f7d9c318438fa5f708af15ad31ac3f72997561089969f4a2f402840492eebc71", checked := Try.checked }
namespace Rows
def none {H : Type} : Left H := { results := [], args := [] }

/-- 'laws.FnCountdown': WHATEVER THE INPUT: true; the input reads as it did. -/
def fnCountdownSpec : ChangeSpec := { name := "fnCountdown", fn := fun _ => fun
  | [d] => { results := [.lit (.bool true)], args := [d] }
  | _ => none }
def fnCountdownRow : OpenClaim := { program := "ytkfkfejjhfkobaa", sum := "f7d9c318438fa5f708af15ad31ac3f72997561089969f4a2f402840492eebc71", func := "loop.example/g00511/laws.FnCountdown", spec := "fnCountdown", apart := false }
def FnCountdownSaid : Prop := fnCountdownRow.holds Try.pinned (OpenSpec.ofChange fnCountdownSpec)

/-- ITS FALSE NEIGHBOUR: 'it returns false'. Refute it at one input. -/
def fnCountdownWrong : ChangeSpec := { name := "fnCountdown", fn := fun _ => fun
  | [d] => { results := [.lit (.bool false)], args := [d] }
  | _ => none }
def FnCountdownWrongFalsely : Prop := fnCountdownRow.holds Try.pinned (OpenSpec.ofChange fnCountdownWrong)

/-- 'laws.FnExactIsValidBackoff': WHATEVER THE INPUT: true; the input reads as it did. -/
def fnExactIsValidBackoffSpec : ChangeSpec := { name := "fnExactIsValidBackoff", fn := fun _ => fun
  | [d] => { results := [.lit (.bool true)], args := [d] }
  | _ => none }
def fnExactIsValidBackoffRow : OpenClaim := { program := "ytkfkfejjhfkobaa", sum := "f7d9c318438fa5f708af15ad31ac3f72997561089969f4a2f402840492eebc71", func := "loop.example/g00511/laws.FnExactIsValidBackoff", spec := "fnExactIsValidBackoff", apart := false }
def FnExactIsValidBackoffSaid : Prop := fnExactIsValidBackoffRow.holds Try.pinned (OpenSpec.ofChange fnExactIsValidBackoffSpec)

/-- ITS FALSE NEIGHBOUR: 'it returns false'. Refute it at one input. -/
def fnExactIsValidBackoffWrong : ChangeSpec := { name := "fnExactIsValidBackoff", fn := fun _ => fun
  | [d] => { results := [.lit (.bool false)], args := [d] }
  | _ => none }
def FnExactIsValidBackoffWrongFalsely : Prop := fnExactIsValidBackoffRow.holds Try.pinned (OpenSpec.ofChange fnExactIsValidBackoffWrong)

/-- 'laws.FnExactRandomWait': WHATEVER THE INPUT: true; the input reads as it did. -/
def fnExactRandomWaitSpec : ChangeSpec := { name := "fnExactRandomWait", fn := fun _ => fun
  | [d1, d2, d3] => { results := [.lit (.bool true)], args := [d1, d2, d3] }
  | _ => none }
def fnExactRandomWaitRow : OpenClaim := { program := "ytkfkfejjhfkobaa", sum := "f7d9c318438fa5f708af15ad31ac3f72997561089969f4a2f402840492eebc71", func := "loop.example/g00511/laws.FnExactRandomWait", spec := "fnExactRandomWait", apart := false }
def FnExactRandomWaitSaid : Prop := fnExactRandomWaitRow.holds Try.pinned (OpenSpec.ofChange fnExactRandomWaitSpec)

/-- ITS FALSE NEIGHBOUR: 'it returns false'. Refute it at one input. -/
def fnExactRandomWaitWrong : ChangeSpec := { name := "fnExactRandomWait", fn := fun _ => fun
  | [d1, d2, d3] => { results := [.lit (.bool false)], args := [d1, d2, d3] }
  | _ => none }
def FnExactRandomWaitWrongFalsely : Prop := fnExactRandomWaitRow.holds Try.pinned (OpenSpec.ofChange fnExactRandomWaitWrong)

/-- 'laws.FnExactTickBackoff': WHATEVER THE INPUT: true; the input reads as it did. -/
def fnExactTickBackoffSpec : ChangeSpec := { name := "fnExactTickBackoff", fn := fun _ => fun
  | [d1, d2] => { results := [.lit (.bool true)], args := [d1, d2] }
  | _ => none }
def fnExactTickBackoffRow : OpenClaim := { program := "ytkfkfejjhfkobaa", sum := "f7d9c318438fa5f708af15ad31ac3f72997561089969f4a2f402840492eebc71", func := "loop.example/g00511/laws.FnExactTickBackoff", spec := "fnExactTickBackoff", apart := false }
def FnExactTickBackoffSaid : Prop := fnExactTickBackoffRow.holds Try.pinned (OpenSpec.ofChange fnExactTickBackoffSpec)

/-- ITS FALSE NEIGHBOUR: 'it returns false'. Refute it at one input. -/
def fnExactTickBackoffWrong : ChangeSpec := { name := "fnExactTickBackoff", fn := fun _ => fun
  | [d1, d2] => { results := [.lit (.bool false)], args := [d1, d2] }
  | _ => none }
def FnExactTickBackoffWrongFalsely : Prop := fnExactTickBackoffRow.holds Try.pinned (OpenSpec.ofChange fnExactTickBackoffWrong)

/-- 'laws.FnExactIsReady': WHATEVER THE INPUT: true; the input reads as it did. -/
def fnExactIsReadySpec : ChangeSpec := { name := "fnExactIsReady", fn := fun _ => fun
  | [d] => { results := [.lit (.bool true)], args := [d] }
  | _ => none }
def fnExactIsReadyRow : OpenClaim := { program := "ytkfkfejjhfkobaa", sum := "f7d9c318438fa5f708af15ad31ac3f72997561089969f4a2f402840492eebc71", func := "loop.example/g00511/laws.FnExactIsReady", spec := "fnExactIsReady", apart := false }
def FnExactIsReadySaid : Prop := fnExactIsReadyRow.holds Try.pinned (OpenSpec.ofChange fnExactIsReadySpec)

/-- ITS FALSE NEIGHBOUR: 'it returns false'. Refute it at one input. -/
def fnExactIsReadyWrong : ChangeSpec := { name := "fnExactIsReady", fn := fun _ => fun
  | [d] => { results := [.lit (.bool false)], args := [d] }
  | _ => none }
def FnExactIsReadyWrongFalsely : Prop := fnExactIsReadyRow.holds Try.pinned (OpenSpec.ofChange fnExactIsReadyWrong)

/-- 'laws.FnExactBackoffSucceeded': WHATEVER THE INPUT: true; the input reads as it did. -/
def fnExactBackoffSucceededSpec : ChangeSpec := { name := "fnExactBackoffSucceeded", fn := fun _ => fun
  | [d1, d2] => { results := [.lit (.bool true)], args := [d1, d2] }
  | _ => none }
def fnExactBackoffSucceededRow : OpenClaim := { program := "ytkfkfejjhfkobaa", sum := "f7d9c318438fa5f708af15ad31ac3f72997561089969f4a2f402840492eebc71", func := "loop.example/g00511/laws.FnExactBackoffSucceeded", spec := "fnExactBackoffSucceeded", apart := false }
def FnExactBackoffSucceededSaid : Prop := fnExactBackoffSucceededRow.holds Try.pinned (OpenSpec.ofChange fnExactBackoffSucceededSpec)

/-- ITS FALSE NEIGHBOUR: 'it returns false'. Refute it at one input. -/
def fnExactBackoffSucceededWrong : ChangeSpec := { name := "fnExactBackoffSucceeded", fn := fun _ => fun
  | [d1, d2] => { results := [.lit (.bool false)], args := [d1, d2] }
  | _ => none }
def FnExactBackoffSucceededWrongFalsely : Prop := fnExactBackoffSucceededRow.holds Try.pinned (OpenSpec.ofChange fnExactBackoffSucceededWrong)

/-- 'laws.FnExactBackoffFailed': WHATEVER THE INPUT: true; the input reads as it did. -/
def fnExactBackoffFailedSpec : ChangeSpec := { name := "fnExactBackoffFailed", fn := fun _ => fun
  | [d1, d2] => { results := [.lit (.bool true)], args := [d1, d2] }
  | _ => none }
def fnExactBackoffFailedRow : OpenClaim := { program := "ytkfkfejjhfkobaa", sum := "f7d9c318438fa5f708af15ad31ac3f72997561089969f4a2f402840492eebc71", func := "loop.example/g00511/laws.FnExactBackoffFailed", spec := "fnExactBackoffFailed", apart := false }
def FnExactBackoffFailedSaid : Prop := fnExactBackoffFailedRow.holds Try.pinned (OpenSpec.ofChange fnExactBackoffFailedSpec)

/-- ITS FALSE NEIGHBOUR: 'it returns false'. Refute it at one input. -/
def fnExactBackoffFailedWrong : ChangeSpec := { name := "fnExactBackoffFailed", fn := fun _ => fun
  | [d1, d2] => { results := [.lit (.bool false)], args := [d1, d2] }
  | _ => none }
def FnExactBackoffFailedWrongFalsely : Prop := fnExactBackoffFailedRow.holds Try.pinned (OpenSpec.ofChange fnExactBackoffFailedWrong)

/-- 'laws.FnExactSlotsUntilReady': WHATEVER THE INPUT: true; the input reads as it did. -/
def fnExactSlotsUntilReadySpec : ChangeSpec := { name := "fnExactSlotsUntilReady", fn := fun _ => fun
  | [d] => { results := [.lit (.bool true)], args := [d] }
  | _ => none }
def fnExactSlotsUntilReadyRow : OpenClaim := { program := "ytkfkfejjhfkobaa", sum := "f7d9c318438fa5f708af15ad31ac3f72997561089969f4a2f402840492eebc71", func := "loop.example/g00511/laws.FnExactSlotsUntilReady", spec := "fnExactSlotsUntilReady", apart := false }
def FnExactSlotsUntilReadySaid : Prop := fnExactSlotsUntilReadyRow.holds Try.pinned (OpenSpec.ofChange fnExactSlotsUntilReadySpec)

/-- ITS FALSE NEIGHBOUR: 'it returns false'. Refute it at one input. -/
def fnExactSlotsUntilReadyWrong : ChangeSpec := { name := "fnExactSlotsUntilReady", fn := fun _ => fun
  | [d] => { results := [.lit (.bool false)], args := [d] }
  | _ => none }
def FnExactSlotsUntilReadyWrongFalsely : Prop := fnExactSlotsUntilReadyRow.holds Try.pinned (OpenSpec.ofChange fnExactSlotsUntilReadyWrong)

/- THE SECOND FORM. 'bulk': how many values and letters a reading holds, each counted each time it is reached (what is shared counts as often as it is met; a slice's spare places count too). A statement '..UptoSaid' is the law's where the arguments, and the package variables that the reading takes, are together of bulk at most 1048576: NARROWER than '..Said'. Prove '..Said' where nothing that the law and all that it calls make is longer than what came in: it says more and counts as full. Else prove '..UptoSaid'. A law counts once. -/
mutual
def uptoBulk {H : Type} : DataW H → Nat
  | .lit (.string bytes) => bytes.length + 1
  | .lit _ => 1
  | .nil => 1
  | .ptr d => uptoBulk d + 1
  | .slice elems spare => uptoBulkAll elems + uptoBulkAll spare + 1
  | .agg parts => uptoBulkAll parts + 1
  | .iface _ d => uptoBulk d + 1
  | .map entries => uptoBulkEntries entries + 1
  | .held _ => 1
def uptoBulkAll {H : Type} : List (DataW H) → Nat
  | [] => 0
  | d :: r => uptoBulk d + uptoBulkAll r
def uptoBulkEntries {H : Type} : List (Lit × DataW H) → Nat
  | [] => 0
  | x :: r => uptoBulkEntry x + uptoBulkEntries r
def uptoBulkEntry {H : Type} : Lit × DataW H → Nat
  | (.string bytes, d) => bytes.length + uptoBulk d + 1
  | (_, d) => uptoBulk d + 1
 end
def uptoSmall : (H : Type) → List (DataW H) → Bool := fun _ ds => decide (uptoBulkAll ds ≤ 1048576)
def OpenSpec.upto (s : _root_.Go.ChangeSpec) : _root_.Go.OpenSpec := { _root_.Go.OpenSpec.ofChange s with cond := some uptoSmall }

/-- 'laws.FnCountdown', WHERE WHAT IT READS IS OF BULK AT MOST 1048576: true; the input reads as it did. -/
def fnCountdownUptoRow : OpenClaim := { program := "ytkfkfejjhfkobaa", sum := "f7d9c318438fa5f708af15ad31ac3f72997561089969f4a2f402840492eebc71", func := "loop.example/g00511/laws.FnCountdown", spec := "fnCountdown", apart := false, narrowed := true }
def FnCountdownUptoSaid : Prop := fnCountdownUptoRow.holds Try.pinned (OpenSpec.upto fnCountdownSpec)

/-- 'laws.FnExactIsValidBackoff', WHERE WHAT IT READS IS OF BULK AT MOST 1048576: true; the input reads as it did. -/
def fnExactIsValidBackoffUptoRow : OpenClaim := { program := "ytkfkfejjhfkobaa", sum := "f7d9c318438fa5f708af15ad31ac3f72997561089969f4a2f402840492eebc71", func := "loop.example/g00511/laws.FnExactIsValidBackoff", spec := "fnExactIsValidBackoff", apart := false, narrowed := true }
def FnExactIsValidBackoffUptoSaid : Prop := fnExactIsValidBackoffUptoRow.holds Try.pinned (OpenSpec.upto fnExactIsValidBackoffSpec)

/-- 'laws.FnExactRandomWait', WHERE WHAT IT READS IS OF BULK AT MOST 1048576: true; the input reads as it did. -/
def fnExactRandomWaitUptoRow : OpenClaim := { program := "ytkfkfejjhfkobaa", sum := "f7d9c318438fa5f708af15ad31ac3f72997561089969f4a2f402840492eebc71", func := "loop.example/g00511/laws.FnExactRandomWait", spec := "fnExactRandomWait", apart := false, narrowed := true }
def FnExactRandomWaitUptoSaid : Prop := fnExactRandomWaitUptoRow.holds Try.pinned (OpenSpec.upto fnExactRandomWaitSpec)

/-- 'laws.FnExactTickBackoff', WHERE WHAT IT READS IS OF BULK AT MOST 1048576: true; the input reads as it did. -/
def fnExactTickBackoffUptoRow : OpenClaim := { program := "ytkfkfejjhfkobaa", sum := "f7d9c318438fa5f708af15ad31ac3f72997561089969f4a2f402840492eebc71", func := "loop.example/g00511/laws.FnExactTickBackoff", spec := "fnExactTickBackoff", apart := false, narrowed := true }
def FnExactTickBackoffUptoSaid : Prop := fnExactTickBackoffUptoRow.holds Try.pinned (OpenSpec.upto fnExactTickBackoffSpec)

/-- 'laws.FnExactIsReady', WHERE WHAT IT READS IS OF BULK AT MOST 1048576: true; the input reads as it did. -/
def fnExactIsReadyUptoRow : OpenClaim := { program := "ytkfkfejjhfkobaa", sum := "f7d9c318438fa5f708af15ad31ac3f72997561089969f4a2f402840492eebc71", func := "loop.example/g00511/laws.FnExactIsReady", spec := "fnExactIsReady", apart := false, narrowed := true }
def FnExactIsReadyUptoSaid : Prop := fnExactIsReadyUptoRow.holds Try.pinned (OpenSpec.upto fnExactIsReadySpec)

/-- 'laws.FnExactBackoffSucceeded', WHERE WHAT IT READS IS OF BULK AT MOST 1048576: true; the input reads as it did. -/
def fnExactBackoffSucceededUptoRow : OpenClaim := { program := "ytkfkfejjhfkobaa", sum := "f7d9c318438fa5f708af15ad31ac3f72997561089969f4a2f402840492eebc71", func := "loop.example/g00511/laws.FnExactBackoffSucceeded", spec := "fnExactBackoffSucceeded", apart := false, narrowed := true }
def FnExactBackoffSucceededUptoSaid : Prop := fnExactBackoffSucceededUptoRow.holds Try.pinned (OpenSpec.upto fnExactBackoffSucceededSpec)

/-- 'laws.FnExactBackoffFailed', WHERE WHAT IT READS IS OF BULK AT MOST 1048576: true; the input reads as it did. -/
def fnExactBackoffFailedUptoRow : OpenClaim := { program := "ytkfkfejjhfkobaa", sum := "f7d9c318438fa5f708af15ad31ac3f72997561089969f4a2f402840492eebc71", func := "loop.example/g00511/laws.FnExactBackoffFailed", spec := "fnExactBackoffFailed", apart := false, narrowed := true }
def FnExactBackoffFailedUptoSaid : Prop := fnExactBackoffFailedUptoRow.holds Try.pinned (OpenSpec.upto fnExactBackoffFailedSpec)

/-- 'laws.FnExactSlotsUntilReady', WHERE WHAT IT READS IS OF BULK AT MOST 1048576: true; the input reads as it did. -/
def fnExactSlotsUntilReadyUptoRow : OpenClaim := { program := "ytkfkfejjhfkobaa", sum := "f7d9c318438fa5f708af15ad31ac3f72997561089969f4a2f402840492eebc71", func := "loop.example/g00511/laws.FnExactSlotsUntilReady", spec := "fnExactSlotsUntilReady", apart := false, narrowed := true }
def FnExactSlotsUntilReadyUptoSaid : Prop := fnExactSlotsUntilReadyUptoRow.holds Try.pinned (OpenSpec.upto fnExactSlotsUntilReadySpec)

end Rows
end Go.Proofs.Ytkfkfejjhfkobaa
