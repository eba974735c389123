/-
  No cell of these rows narrows 'for every input' (looked for: loops, veiled, ifaces, maps, wideKeys, modest, calm, conditions, laid).
  DERIVED. THE GIVEN ROWS OF THIS SEAT. 8 by the template 'for every input the law returns true; each argument reads behind the call as it read before'; 0 by the template 'total and deterministic' (their statements: YtgdmfpahaccamaaTotals.lean).
  GIVEN WITH THE SEED: the statements are not yours to turn. If you find one false, say at which input.
  Laid BY PROGRAM, IN A SANDBOX (cutbox-rows.mjs): the forced cells as the released guide's own fill.sh prints them over the translation 042c0161b02ee9eb… (all of the seat's roots in one cut). By AI agents, Wed Nov 11 2026. No macro, syntax, notation, axiom, sorry.
-/
import Derived.Test.YtgdmfpahaccamaaChecked
import GoSem.Claim
import GoSem.ClaimJoined
import GoSem.ClaimMapViews
import Derived.JoinedTies
import Derived.KernelRfl
namespace Go.Proofs.Ytgdmfpahaccamaa
/- THE CELL 'sum', in the pinned program and in every row, IS THE sha256 OF THE DUMP (.gsa) THAT YtgdmfpahaccamaaProg.lean LOADS. Nothing in Lean hashes anything: it is a label: what it is worth is what the hold of that sum in a sandbox is worth. -/
noncomputable def Try.pinned : Pinned := { name := "ytgdmfpahaccamaa", sum := "042c0161b02ee9eb700face9e93e5450151b77faf388ffa3477acd77cd37f849", checked := Try.checked }
namespace Rows
def none {H : Type} : Left H := { results := [], args := [] }

/-- 'laws.FnDecoding': WHATEVER THE INPUT: true; the input reads as it did. -/
def fnDecodingSpec : ChangeSpec := { name := "fnDecoding", fn := fun _ => fun
  | [d] => { results := [.lit (.bool true)], args := [d] }
  | _ => none }
def fnDecodingRow : OpenClaim := { program := "ytgdmfpahaccamaa", sum := "042c0161b02ee9eb700face9e93e5450151b77faf388ffa3477acd77cd37f849", func := "loop.example/g00511/laws.FnDecoding", spec := "fnDecoding", plainKeys := false, apart := false }
def FnDecodingSaid : Prop := fnDecodingRow.holds Try.pinned (OpenSpec.ofChange fnDecodingSpec)

/-- ITS FALSE NEIGHBOUR: 'it returns false'. Refute it at one input. -/
def fnDecodingWrong : ChangeSpec := { name := "fnDecoding", fn := fun _ => fun
  | [d] => { results := [.lit (.bool false)], args := [d] }
  | _ => none }
def FnDecodingWrongFalsely : Prop := fnDecodingRow.holds Try.pinned (OpenSpec.ofChange fnDecodingWrong)

/-- 'laws.FnNearestWord': WHATEVER THE INPUT: true; the input reads as it did. -/
def fnNearestWordSpec : ChangeSpec := { name := "fnNearestWord", fn := fun _ => fun
  | [d] => { results := [.lit (.bool true)], args := [d] }
  | _ => none }
def fnNearestWordRow : OpenClaim := { program := "ytgdmfpahaccamaa", sum := "042c0161b02ee9eb700face9e93e5450151b77faf388ffa3477acd77cd37f849", func := "loop.example/g00511/laws.FnNearestWord", spec := "fnNearestWord", plainKeys := false, apart := false }
def FnNearestWordSaid : Prop := fnNearestWordRow.holds Try.pinned (OpenSpec.ofChange fnNearestWordSpec)

/-- ITS FALSE NEIGHBOUR: 'it returns false'. Refute it at one input. -/
def fnNearestWordWrong : ChangeSpec := { name := "fnNearestWord", fn := fun _ => fun
  | [d] => { results := [.lit (.bool false)], args := [d] }
  | _ => none }
def FnNearestWordWrongFalsely : Prop := fnNearestWordRow.holds Try.pinned (OpenSpec.ofChange fnNearestWordWrong)

/-- 'laws.FnExactBranchDistance': WHATEVER THE INPUT: true; the input reads as it did. -/
def fnExactBranchDistanceSpec : ChangeSpec := { name := "fnExactBranchDistance", fn := fun _ => fun
  | [d1, d2, d3, d4] => { results := [.lit (.bool true)], args := [d1, d2, d3, d4] }
  | _ => none }
def fnExactBranchDistanceRow : OpenClaim := { program := "ytgdmfpahaccamaa", sum := "042c0161b02ee9eb700face9e93e5450151b77faf388ffa3477acd77cd37f849", func := "loop.example/g00511/laws.FnExactBranchDistance", spec := "fnExactBranchDistance", plainKeys := false, apart := false }
def FnExactBranchDistanceSaid : Prop := fnExactBranchDistanceRow.holds Try.pinned (OpenSpec.ofChange fnExactBranchDistanceSpec)

/-- ITS FALSE NEIGHBOUR: 'it returns false'. Refute it at one input. -/
def fnExactBranchDistanceWrong : ChangeSpec := { name := "fnExactBranchDistance", fn := fun _ => fun
  | [d1, d2, d3, d4] => { results := [.lit (.bool false)], args := [d1, d2, d3, d4] }
  | _ => none }
def FnExactBranchDistanceWrongFalsely : Prop := fnExactBranchDistanceRow.holds Try.pinned (OpenSpec.ofChange fnExactBranchDistanceWrong)

/-- 'laws.FnExactPathDistance': WHATEVER THE INPUT: true; the input reads as it did. -/
def fnExactPathDistanceSpec : ChangeSpec := { name := "fnExactPathDistance", fn := fun _ => fun
  | [d1, d2] => { results := [.lit (.bool true)], args := [d1, d2] }
  | _ => none }
def fnExactPathDistanceRow : OpenClaim := { program := "ytgdmfpahaccamaa", sum := "042c0161b02ee9eb700face9e93e5450151b77faf388ffa3477acd77cd37f849", func := "loop.example/g00511/laws.FnExactPathDistance", spec := "fnExactPathDistance", plainKeys := false, apart := false }
def FnExactPathDistanceSaid : Prop := fnExactPathDistanceRow.holds Try.pinned (OpenSpec.ofChange fnExactPathDistanceSpec)

/-- ITS FALSE NEIGHBOUR: 'it returns false'. Refute it at one input. -/
def fnExactPathDistanceWrong : ChangeSpec := { name := "fnExactPathDistance", fn := fun _ => fun
  | [d1, d2] => { results := [.lit (.bool false)], args := [d1, d2] }
  | _ => none }
def FnExactPathDistanceWrongFalsely : Prop := fnExactPathDistanceRow.holds Try.pinned (OpenSpec.ofChange fnExactPathDistanceWrong)

/-- 'laws.FnExactInputLength': WHATEVER THE INPUT: true; the input reads as it did. -/
def fnExactInputLengthSpec : ChangeSpec := { name := "fnExactInputLength", fn := fun _ => fun
  | [d] => { results := [.lit (.bool true)], args := [d] }
  | _ => none }
def fnExactInputLengthRow : OpenClaim := { program := "ytgdmfpahaccamaa", sum := "042c0161b02ee9eb700face9e93e5450151b77faf388ffa3477acd77cd37f849", func := "loop.example/g00511/laws.FnExactInputLength", spec := "fnExactInputLength", plainKeys := false, apart := false }
def FnExactInputLengthSaid : Prop := fnExactInputLengthRow.holds Try.pinned (OpenSpec.ofChange fnExactInputLengthSpec)

/-- ITS FALSE NEIGHBOUR: 'it returns false'. Refute it at one input. -/
def fnExactInputLengthWrong : ChangeSpec := { name := "fnExactInputLength", fn := fun _ => fun
  | [d] => { results := [.lit (.bool false)], args := [d] }
  | _ => none }
def FnExactInputLengthWrongFalsely : Prop := fnExactInputLengthRow.holds Try.pinned (OpenSpec.ofChange fnExactInputLengthWrong)

/-- 'laws.FnExactViterbiDecode': WHATEVER THE INPUT: true; the input reads as it did. -/
def fnExactViterbiDecodeSpec : ChangeSpec := { name := "fnExactViterbiDecode", fn := fun _ => fun
  | [d] => { results := [.lit (.bool true)], args := [d] }
  | _ => none }
def fnExactViterbiDecodeRow : OpenClaim := { program := "ytgdmfpahaccamaa", sum := "042c0161b02ee9eb700face9e93e5450151b77faf388ffa3477acd77cd37f849", func := "loop.example/g00511/laws.FnExactViterbiDecode", spec := "fnExactViterbiDecode", plainKeys := false, apart := false }
def FnExactViterbiDecodeSaid : Prop := fnExactViterbiDecodeRow.holds Try.pinned (OpenSpec.ofChange fnExactViterbiDecodeSpec)

/-- ITS FALSE NEIGHBOUR: 'it returns false'. Refute it at one input. -/
def fnExactViterbiDecodeWrong : ChangeSpec := { name := "fnExactViterbiDecode", fn := fun _ => fun
  | [d] => { results := [.lit (.bool false)], args := [d] }
  | _ => none }
def FnExactViterbiDecodeWrongFalsely : Prop := fnExactViterbiDecodeRow.holds Try.pinned (OpenSpec.ofChange fnExactViterbiDecodeWrong)

/-- 'laws.FnExactCorrectableErrors': WHATEVER THE INPUT: true; the input reads as it did. -/
def fnExactCorrectableErrorsSpec : ChangeSpec := { name := "fnExactCorrectableErrors", fn := fun _ => fun
  | [] => { results := [.lit (.bool true)], args := [] }
  | _ => none }
def fnExactCorrectableErrorsRow : OpenClaim := { program := "ytgdmfpahaccamaa", sum := "042c0161b02ee9eb700face9e93e5450151b77faf388ffa3477acd77cd37f849", func := "loop.example/g00511/laws.FnExactCorrectableErrors", spec := "fnExactCorrectableErrors", plainKeys := false, apart := false }
def FnExactCorrectableErrorsSaid : Prop := fnExactCorrectableErrorsRow.holds Try.pinned (OpenSpec.ofChange fnExactCorrectableErrorsSpec)

/-- ITS FALSE NEIGHBOUR: 'it returns false'. Refute it at one input. -/
def fnExactCorrectableErrorsWrong : ChangeSpec := { name := "fnExactCorrectableErrors", fn := fun _ => fun
  | [] => { results := [.lit (.bool false)], args := [] }
  | _ => none }
def FnExactCorrectableErrorsWrongFalsely : Prop := fnExactCorrectableErrorsRow.holds Try.pinned (OpenSpec.ofChange fnExactCorrectableErrorsWrong)

/-- 'laws.FnExactMinimumDistance': WHATEVER THE INPUT: true; the input reads as it did. -/
def fnExactMinimumDistanceSpec : ChangeSpec := { name := "fnExactMinimumDistance", fn := fun _ => fun
  | [d] => { results := [.lit (.bool true)], args := [d] }
  | _ => none }
def fnExactMinimumDistanceRow : OpenClaim := { program := "ytgdmfpahaccamaa", sum := "042c0161b02ee9eb700face9e93e5450151b77faf388ffa3477acd77cd37f849", func := "loop.example/g00511/laws.FnExactMinimumDistance", spec := "fnExactMinimumDistance", plainKeys := false, apart := false }
def FnExactMinimumDistanceSaid : Prop := fnExactMinimumDistanceRow.holds Try.pinned (OpenSpec.ofChange fnExactMinimumDistanceSpec)

/-- ITS FALSE NEIGHBOUR: 'it returns false'. Refute it at one input. -/
def fnExactMinimumDistanceWrong : ChangeSpec := { name := "fnExactMinimumDistance", fn := fun _ => fun
  | [d] => { results := [.lit (.bool false)], args := [d] }
  | _ => none }
def FnExactMinimumDistanceWrongFalsely : Prop := fnExactMinimumDistanceRow.holds Try.pinned (OpenSpec.ofChange fnExactMinimumDistanceWrong)

/- THE SECOND FORM. 'bulk': how many values and letters a reading holds, each counted each time it is reached (what is shared counts as often as it is met; a slice's spare places count too). A statement '..UptoSaid' is the law's where the arguments, and the package variables that the reading takes, are together of bulk at most 1048576: NARROWER than '..Said'. Prove '..Said' where nothing that the law and all that it calls make is longer than what came in: it says more and counts as full. Else prove '..UptoSaid'. A law counts once. -/
mutual
def uptoBulk {H : Type} : DataW H → Nat
  | .lit (.string bytes) => bytes.length + 1
  | .lit _ => 1
  | .nil => 1
  | .ptr d => uptoBulk d + 1
  | .slice elems spare => uptoBulkAll elems + uptoBulkAll spare + 1
  | .agg parts => uptoBulkAll parts + 1
  | .iface _ d => uptoBulk d + 1
  | .map entries => uptoBulkEntries entries + 1
  | .held _ => 1
def uptoBulkAll {H : Type} : List (DataW H) → Nat
  | [] => 0
  | d :: r => uptoBulk d + uptoBulkAll r
def uptoBulkEntries {H : Type} : List (Lit × DataW H) → Nat
  | [] => 0
  | x :: r => uptoBulkEntry x + uptoBulkEntries r
def uptoBulkEntry {H : Type} : Lit × DataW H → Nat
  | (.string bytes, d) => bytes.length + uptoBulk d + 1
  | (_, d) => uptoBulk d + 1
 end
def uptoSmall : (H : Type) → List (DataW H) → Bool := fun _ ds => decide (uptoBulkAll ds ≤ 1048576)
def OpenSpec.upto (s : _root_.Go.ChangeSpec) : _root_.Go.OpenSpec := { _root_.Go.OpenSpec.ofChange s with cond := some uptoSmall }

/-- 'laws.FnDecoding', WHERE WHAT IT READS IS OF BULK AT MOST 1048576: true; the input reads as it did. -/
def fnDecodingUptoRow : OpenClaim := { program := "ytgdmfpahaccamaa", sum := "042c0161b02ee9eb700face9e93e5450151b77faf388ffa3477acd77cd37f849", func := "loop.example/g00511/laws.FnDecoding", spec := "fnDecoding", plainKeys := false, apart := false, narrowed := true }
def FnDecodingUptoSaid : Prop := fnDecodingUptoRow.holds Try.pinned (OpenSpec.upto fnDecodingSpec)

/-- 'laws.FnNearestWord', WHERE WHAT IT READS IS OF BULK AT MOST 1048576: true; the input reads as it did. -/
def fnNearestWordUptoRow : OpenClaim := { program := "ytgdmfpahaccamaa", sum := "042c0161b02ee9eb700face9e93e5450151b77faf388ffa3477acd77cd37f849", func := "loop.example/g00511/laws.FnNearestWord", spec := "fnNearestWord", plainKeys := false, apart := false, narrowed := true }
def FnNearestWordUptoSaid : Prop := fnNearestWordUptoRow.holds Try.pinned (OpenSpec.upto fnNearestWordSpec)

/-- 'laws.FnExactBranchDistance', WHERE WHAT IT READS IS OF BULK AT MOST 1048576: true; the input reads as it did. -/
def fnExactBranchDistanceUptoRow : OpenClaim := { program := "ytgdmfpahaccamaa", sum := "042c0161b02ee9eb700face9e93e5450151b77faf388ffa3477acd77cd37f849", func := "loop.example/g00511/laws.FnExactBranchDistance", spec := "fnExactBranchDistance", plainKeys := false, apart := false, narrowed := true }
def FnExactBranchDistanceUptoSaid : Prop := fnExactBranchDistanceUptoRow.holds Try.pinned (OpenSpec.upto fnExactBranchDistanceSpec)

/-- 'laws.FnExactPathDistance', WHERE WHAT IT READS IS OF BULK AT MOST 1048576: true; the input reads as it did. -/
def fnExactPathDistanceUptoRow : OpenClaim := { program := "ytgdmfpahaccamaa", sum := "042c0161b02ee9eb700face9e93e5450151b77faf388ffa3477acd77cd37f849", func := "loop.example/g00511/laws.FnExactPathDistance", spec := "fnExactPathDistance", plainKeys := false, apart := false, narrowed := true }
def FnExactPathDistanceUptoSaid : Prop := fnExactPathDistanceUptoRow.holds Try.pinned (OpenSpec.upto fnExactPathDistanceSpec)

/-- 'laws.FnExactInputLength', WHERE WHAT IT READS IS OF BULK AT MOST 1048576: true; the input reads as it did. -/
def fnExactInputLengthUptoRow : OpenClaim := { program := "ytgdmfpahaccamaa", sum := "042c0161b02ee9eb700face9e93e5450151b77faf388ffa3477acd77cd37f849", func := "loop.example/g00511/laws.FnExactInputLength", spec := "fnExactInputLength", plainKeys := false, apart := false, narrowed := true }
def FnExactInputLengthUptoSaid : Prop := fnExactInputLengthUptoRow.holds Try.pinned (OpenSpec.upto fnExactInputLengthSpec)

/-- 'laws.FnExactViterbiDecode', WHERE WHAT IT READS IS OF BULK AT MOST 1048576: true; the input reads as it did. -/
def fnExactViterbiDecodeUptoRow : OpenClaim := { program := "ytgdmfpahaccamaa", sum := "042c0161b02ee9eb700face9e93e5450151b77faf388ffa3477acd77cd37f849", func := "loop.example/g00511/laws.FnExactViterbiDecode", spec := "fnExactViterbiDecode", plainKeys := false, apart := false, narrowed := true }
def FnExactViterbiDecodeUptoSaid : Prop := fnExactViterbiDecodeUptoRow.holds Try.pinned (OpenSpec.upto fnExactViterbiDecodeSpec)

/-- 'laws.FnExactCorrectableErrors', WHERE WHAT IT READS IS OF BULK AT MOST 1048576: true; the input reads as it did. -/
def fnExactCorrectableErrorsUptoRow : OpenClaim := { program := "ytgdmfpahaccamaa", sum := "042c0161b02ee9eb700face9e93e5450151b77faf388ffa3477acd77cd37f849", func := "loop.example/g00511/laws.FnExactCorrectableErrors", spec := "fnExactCorrectableErrors", plainKeys := false, apart := false, narrowed := true }
def FnExactCorrectableErrorsUptoSaid : Prop := fnExactCorrectableErrorsUptoRow.holds Try.pinned (OpenSpec.upto fnExactCorrectableErrorsSpec)

/-- 'laws.FnExactMinimumDistance', WHERE WHAT IT READS IS OF BULK AT MOST 1048576: true; the input reads as it did. -/
def fnExactMinimumDistanceUptoRow : OpenClaim := { program := "ytgdmfpahaccamaa", sum := "042c0161b02ee9eb700face9e93e5450151b77faf388ffa3477acd77cd37f849", func := "loop.example/g00511/laws.FnExactMinimumDistance", spec := "fnExactMinimumDistance", plainKeys := false, apart := false, narrowed := true }
def FnExactMinimumDistanceUptoSaid : Prop := fnExactMinimumDistanceUptoRow.holds Try.pinned (OpenSpec.upto fnExactMinimumDistanceSpec)

end Rows
end Go.Proofs.Ytgdmfpahaccamaa
