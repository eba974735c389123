/-
  No cell of these rows narrows 'for every input' (looked for: loops, veiled, ifaces, maps, wideKeys, modest, calm, conditions, laid).
  DERIVED. THE GIVEN ROWS OF THIS SEAT. 10 by the template 'for every input the law returns true; each argument reads behind the call as it read before'; 0 by the template 'total and deterministic' (their statements: YtnffklompocflaaTotals.lean).
  GIVEN WITH THE SEED: the statements are not yours to turn. If you find one false, say at which input.
  Laid BY PROGRAM, IN A SANDBOX (cutbox-rows.mjs): the forced cells as the released guide's own fill.sh prints them over the translation 7c74355660bd849f… (all of the seat's roots in one cut). By AI agents, Wed Nov 11 2026. No macro, syntax, notation, axiom, sorry.
-/
import Derived.Test.YtnffklompocflaaChecked
import GoSem.Claim
import GoSem.ClaimJoined
import GoSem.ClaimMapViews
import Derived.JoinedTies
import Derived.KernelRfl
namespace Go.Proofs.Ytnffklompocflaa
/- THE CELL 'sum', in the pinned program and in every row, IS THE sha256 OF THE DUMP (.gsa) THAT YtnffklompocflaaProg.lean LOADS. Nothing in Lean hashes anything: it is a label: what it is worth is what the hold of that sum in a sandbox is worth. -/
noncomputable def Try.pinned : Pinned := { name := "ytnffklompocflaa", sum := "7c74355660bd849fefbb471d35eae521001f14913098f9daf86db910bebefb76", checked := Try.checked }
namespace Rows
def none {H : Type} : Left H := { results := [], args := [] }

/-- 'laws.FnConvolution': WHATEVER THE INPUT: true; the input reads as it did. -/
def fnConvolutionSpec : ChangeSpec := { name := "fnConvolution", fn := fun _ => fun
  | [d] => { results := [.lit (.bool true)], args := [d] }
  | _ => none }
def fnConvolutionRow : OpenClaim := { program := "ytnffklompocflaa", sum := "7c74355660bd849fefbb471d35eae521001f14913098f9daf86db910bebefb76", func := "loop.example/g00511/laws.FnConvolution", spec := "fnConvolution", apart := false }
def FnConvolutionSaid : Prop := fnConvolutionRow.holds Try.pinned (OpenSpec.ofChange fnConvolutionSpec)

/-- ITS FALSE NEIGHBOUR: 'it returns false'. Refute it at one input. -/
def fnConvolutionWrong : ChangeSpec := { name := "fnConvolution", fn := fun _ => fun
  | [d] => { results := [.lit (.bool false)], args := [d] }
  | _ => none }
def FnConvolutionWrongFalsely : Prop := fnConvolutionRow.holds Try.pinned (OpenSpec.ofChange fnConvolutionWrong)

/-- 'laws.FnPuncturing': WHATEVER THE INPUT: true; the input reads as it did. -/
def fnPuncturingSpec : ChangeSpec := { name := "fnPuncturing", fn := fun _ => fun
  | [d] => { results := [.lit (.bool true)], args := [d] }
  | _ => none }
def fnPuncturingRow : OpenClaim := { program := "ytnffklompocflaa", sum := "7c74355660bd849fefbb471d35eae521001f14913098f9daf86db910bebefb76", func := "loop.example/g00511/laws.FnPuncturing", spec := "fnPuncturing", apart := false }
def FnPuncturingSaid : Prop := fnPuncturingRow.holds Try.pinned (OpenSpec.ofChange fnPuncturingSpec)

/-- ITS FALSE NEIGHBOUR: 'it returns false'. Refute it at one input. -/
def fnPuncturingWrong : ChangeSpec := { name := "fnPuncturing", fn := fun _ => fun
  | [d] => { results := [.lit (.bool false)], args := [d] }
  | _ => none }
def FnPuncturingWrongFalsely : Prop := fnPuncturingRow.holds Try.pinned (OpenSpec.ofChange fnPuncturingWrong)

/-- 'laws.FnExactNextState': WHATEVER THE INPUT: true; the input reads as it did. -/
def fnExactNextStateSpec : ChangeSpec := { name := "fnExactNextState", fn := fun _ => fun
  | [d1, d2] => { results := [.lit (.bool true)], args := [d1, d2] }
  | _ => none }
def fnExactNextStateRow : OpenClaim := { program := "ytnffklompocflaa", sum := "7c74355660bd849fefbb471d35eae521001f14913098f9daf86db910bebefb76", func := "loop.example/g00511/laws.FnExactNextState", spec := "fnExactNextState", apart := false }
def FnExactNextStateSaid : Prop := fnExactNextStateRow.holds Try.pinned (OpenSpec.ofChange fnExactNextStateSpec)

/-- ITS FALSE NEIGHBOUR: 'it returns false'. Refute it at one input. -/
def fnExactNextStateWrong : ChangeSpec := { name := "fnExactNextState", fn := fun _ => fun
  | [d1, d2] => { results := [.lit (.bool false)], args := [d1, d2] }
  | _ => none }
def FnExactNextStateWrongFalsely : Prop := fnExactNextStateRow.holds Try.pinned (OpenSpec.ofChange fnExactNextStateWrong)

/-- 'laws.FnExactOutputPair': WHATEVER THE INPUT: true; the input reads as it did. -/
def fnExactOutputPairSpec : ChangeSpec := { name := "fnExactOutputPair", fn := fun _ => fun
  | [d1, d2] => { results := [.lit (.bool true)], args := [d1, d2] }
  | _ => none }
def fnExactOutputPairRow : OpenClaim := { program := "ytnffklompocflaa", sum := "7c74355660bd849fefbb471d35eae521001f14913098f9daf86db910bebefb76", func := "loop.example/g00511/laws.FnExactOutputPair", spec := "fnExactOutputPair", apart := false }
def FnExactOutputPairSaid : Prop := fnExactOutputPairRow.holds Try.pinned (OpenSpec.ofChange fnExactOutputPairSpec)

/-- ITS FALSE NEIGHBOUR: 'it returns false'. Refute it at one input. -/
def fnExactOutputPairWrong : ChangeSpec := { name := "fnExactOutputPair", fn := fun _ => fun
  | [d1, d2] => { results := [.lit (.bool false)], args := [d1, d2] }
  | _ => none }
def FnExactOutputPairWrongFalsely : Prop := fnExactOutputPairRow.holds Try.pinned (OpenSpec.ofChange fnExactOutputPairWrong)

/-- 'laws.FnExactConvolutionalEncode': WHATEVER THE INPUT: true; the input reads as it did. -/
def fnExactConvolutionalEncodeSpec : ChangeSpec := { name := "fnExactConvolutionalEncode", fn := fun _ => fun
  | [d] => { results := [.lit (.bool true)], args := [d] }
  | _ => none }
def fnExactConvolutionalEncodeRow : OpenClaim := { program := "ytnffklompocflaa", sum := "7c74355660bd849fefbb471d35eae521001f14913098f9daf86db910bebefb76", func := "loop.example/g00511/laws.FnExactConvolutionalEncode", spec := "fnExactConvolutionalEncode", apart := false }
def FnExactConvolutionalEncodeSaid : Prop := fnExactConvolutionalEncodeRow.holds Try.pinned (OpenSpec.ofChange fnExactConvolutionalEncodeSpec)

/-- ITS FALSE NEIGHBOUR: 'it returns false'. Refute it at one input. -/
def fnExactConvolutionalEncodeWrong : ChangeSpec := { name := "fnExactConvolutionalEncode", fn := fun _ => fun
  | [d] => { results := [.lit (.bool false)], args := [d] }
  | _ => none }
def FnExactConvolutionalEncodeWrongFalsely : Prop := fnExactConvolutionalEncodeRow.holds Try.pinned (OpenSpec.ofChange fnExactConvolutionalEncodeWrong)

/-- 'laws.FnExactEncodedLength': WHATEVER THE INPUT: true; the input reads as it did. -/
def fnExactEncodedLengthSpec : ChangeSpec := { name := "fnExactEncodedLength", fn := fun _ => fun
  | [d] => { results := [.lit (.bool true)], args := [d] }
  | _ => none }
def fnExactEncodedLengthRow : OpenClaim := { program := "ytnffklompocflaa", sum := "7c74355660bd849fefbb471d35eae521001f14913098f9daf86db910bebefb76", func := "loop.example/g00511/laws.FnExactEncodedLength", spec := "fnExactEncodedLength", apart := false }
def FnExactEncodedLengthSaid : Prop := fnExactEncodedLengthRow.holds Try.pinned (OpenSpec.ofChange fnExactEncodedLengthSpec)

/-- ITS FALSE NEIGHBOUR: 'it returns false'. Refute it at one input. -/
def fnExactEncodedLengthWrong : ChangeSpec := { name := "fnExactEncodedLength", fn := fun _ => fun
  | [d] => { results := [.lit (.bool false)], args := [d] }
  | _ => none }
def FnExactEncodedLengthWrongFalsely : Prop := fnExactEncodedLengthRow.holds Try.pinned (OpenSpec.ofChange fnExactEncodedLengthWrong)

/-- 'laws.FnExactPuncture': WHATEVER THE INPUT: true; the input reads as it did. -/
def fnExactPunctureSpec : ChangeSpec := { name := "fnExactPuncture", fn := fun _ => fun
  | [d] => { results := [.lit (.bool true)], args := [d] }
  | _ => none }
def fnExactPunctureRow : OpenClaim := { program := "ytnffklompocflaa", sum := "7c74355660bd849fefbb471d35eae521001f14913098f9daf86db910bebefb76", func := "loop.example/g00511/laws.FnExactPuncture", spec := "fnExactPuncture", apart := false }
def FnExactPunctureSaid : Prop := fnExactPunctureRow.holds Try.pinned (OpenSpec.ofChange fnExactPunctureSpec)

/-- ITS FALSE NEIGHBOUR: 'it returns false'. Refute it at one input. -/
def fnExactPunctureWrong : ChangeSpec := { name := "fnExactPuncture", fn := fun _ => fun
  | [d] => { results := [.lit (.bool false)], args := [d] }
  | _ => none }
def FnExactPunctureWrongFalsely : Prop := fnExactPunctureRow.holds Try.pinned (OpenSpec.ofChange fnExactPunctureWrong)

/-- 'laws.FnExactDepuncture': WHATEVER THE INPUT: true; the input reads as it did. -/
def fnExactDepunctureSpec : ChangeSpec := { name := "fnExactDepuncture", fn := fun _ => fun
  | [d1, d2] => { results := [.lit (.bool true)], args := [d1, d2] }
  | _ => none }
def fnExactDepunctureRow : OpenClaim := { program := "ytnffklompocflaa", sum := "7c74355660bd849fefbb471d35eae521001f14913098f9daf86db910bebefb76", func := "loop.example/g00511/laws.FnExactDepuncture", spec := "fnExactDepuncture", apart := false }
def FnExactDepunctureSaid : Prop := fnExactDepunctureRow.holds Try.pinned (OpenSpec.ofChange fnExactDepunctureSpec)

/-- ITS FALSE NEIGHBOUR: 'it returns false'. Refute it at one input. -/
def fnExactDepunctureWrong : ChangeSpec := { name := "fnExactDepuncture", fn := fun _ => fun
  | [d1, d2] => { results := [.lit (.bool false)], args := [d1, d2] }
  | _ => none }
def FnExactDepunctureWrongFalsely : Prop := fnExactDepunctureRow.holds Try.pinned (OpenSpec.ofChange fnExactDepunctureWrong)

/-- 'laws.FnExactPuncturedLength': WHATEVER THE INPUT: true; the input reads as it did. -/
def fnExactPuncturedLengthSpec : ChangeSpec := { name := "fnExactPuncturedLength", fn := fun _ => fun
  | [d] => { results := [.lit (.bool true)], args := [d] }
  | _ => none }
def fnExactPuncturedLengthRow : OpenClaim := { program := "ytnffklompocflaa", sum := "7c74355660bd849fefbb471d35eae521001f14913098f9daf86db910bebefb76", func := "loop.example/g00511/laws.FnExactPuncturedLength", spec := "fnExactPuncturedLength", apart := false }
def FnExactPuncturedLengthSaid : Prop := fnExactPuncturedLengthRow.holds Try.pinned (OpenSpec.ofChange fnExactPuncturedLengthSpec)

/-- ITS FALSE NEIGHBOUR: 'it returns false'. Refute it at one input. -/
def fnExactPuncturedLengthWrong : ChangeSpec := { name := "fnExactPuncturedLength", fn := fun _ => fun
  | [d] => { results := [.lit (.bool false)], args := [d] }
  | _ => none }
def FnExactPuncturedLengthWrongFalsely : Prop := fnExactPuncturedLengthRow.holds Try.pinned (OpenSpec.ofChange fnExactPuncturedLengthWrong)

/-- 'laws.FnExactIsSymbolString': WHATEVER THE INPUT: true; the input reads as it did. -/
def fnExactIsSymbolStringSpec : ChangeSpec := { name := "fnExactIsSymbolString", fn := fun _ => fun
  | [d] => { results := [.lit (.bool true)], args := [d] }
  | _ => none }
def fnExactIsSymbolStringRow : OpenClaim := { program := "ytnffklompocflaa", sum := "7c74355660bd849fefbb471d35eae521001f14913098f9daf86db910bebefb76", func := "loop.example/g00511/laws.FnExactIsSymbolString", spec := "fnExactIsSymbolString", apart := false }
def FnExactIsSymbolStringSaid : Prop := fnExactIsSymbolStringRow.holds Try.pinned (OpenSpec.ofChange fnExactIsSymbolStringSpec)

/-- ITS FALSE NEIGHBOUR: 'it returns false'. Refute it at one input. -/
def fnExactIsSymbolStringWrong : ChangeSpec := { name := "fnExactIsSymbolString", fn := fun _ => fun
  | [d] => { results := [.lit (.bool false)], args := [d] }
  | _ => none }
def FnExactIsSymbolStringWrongFalsely : Prop := fnExactIsSymbolStringRow.holds Try.pinned (OpenSpec.ofChange fnExactIsSymbolStringWrong)

/- THE SECOND FORM. 'bulk': how many values and letters a reading holds, each counted each time it is reached (what is shared counts as often as it is met; a slice's spare places count too). A statement '..UptoSaid' is the law's where the arguments, and the package variables that the reading takes, are together of bulk at most 1048576: NARROWER than '..Said'. Prove '..Said' where nothing that the law and all that it calls make is longer than what came in: it says more and counts as full. Else prove '..UptoSaid'. A law counts once. -/
mutual
def uptoBulk {H : Type} : DataW H → Nat
  | .lit (.string bytes) => bytes.length + 1
  | .lit _ => 1
  | .nil => 1
  | .ptr d => uptoBulk d + 1
  | .slice elems spare => uptoBulkAll elems + uptoBulkAll spare + 1
  | .agg parts => uptoBulkAll parts + 1
  | .iface _ d => uptoBulk d + 1
  | .map entries => uptoBulkEntries entries + 1
  | .held _ => 1
def uptoBulkAll {H : Type} : List (DataW H) → Nat
  | [] => 0
  | d :: r => uptoBulk d + uptoBulkAll r
def uptoBulkEntries {H : Type} : List (Lit × DataW H) → Nat
  | [] => 0
  | x :: r => uptoBulkEntry x + uptoBulkEntries r
def uptoBulkEntry {H : Type} : Lit × DataW H → Nat
  | (.string bytes, d) => bytes.length + uptoBulk d + 1
  | (_, d) => uptoBulk d + 1
 end
def uptoSmall : (H : Type) → List (DataW H) → Bool := fun _ ds => decide (uptoBulkAll ds ≤ 1048576)
def OpenSpec.upto (s : _root_.Go.ChangeSpec) : _root_.Go.OpenSpec := { _root_.Go.OpenSpec.ofChange s with cond := some uptoSmall }

/-- 'laws.FnConvolution', WHERE WHAT IT READS IS OF BULK AT MOST 1048576: true; the input reads as it did. -/
def fnConvolutionUptoRow : OpenClaim := { program := "ytnffklompocflaa", sum := "7c74355660bd849fefbb471d35eae521001f14913098f9daf86db910bebefb76", func := "loop.example/g00511/laws.FnConvolution", spec := "fnConvolution", apart := false, narrowed := true }
def FnConvolutionUptoSaid : Prop := fnConvolutionUptoRow.holds Try.pinned (OpenSpec.upto fnConvolutionSpec)

/-- 'laws.FnPuncturing', WHERE WHAT IT READS IS OF BULK AT MOST 1048576: true; the input reads as it did. -/
def fnPuncturingUptoRow : OpenClaim := { program := "ytnffklompocflaa", sum := "7c74355660bd849fefbb471d35eae521001f14913098f9daf86db910bebefb76", func := "loop.example/g00511/laws.FnPuncturing", spec := "fnPuncturing", apart := false, narrowed := true }
def FnPuncturingUptoSaid : Prop := fnPuncturingUptoRow.holds Try.pinned (OpenSpec.upto fnPuncturingSpec)

/-- 'laws.FnExactNextState', WHERE WHAT IT READS IS OF BULK AT MOST 1048576: true; the input reads as it did. -/
def fnExactNextStateUptoRow : OpenClaim := { program := "ytnffklompocflaa", sum := "7c74355660bd849fefbb471d35eae521001f14913098f9daf86db910bebefb76", func := "loop.example/g00511/laws.FnExactNextState", spec := "fnExactNextState", apart := false, narrowed := true }
def FnExactNextStateUptoSaid : Prop := fnExactNextStateUptoRow.holds Try.pinned (OpenSpec.upto fnExactNextStateSpec)

/-- 'laws.FnExactOutputPair', WHERE WHAT IT READS IS OF BULK AT MOST 1048576: true; the input reads as it did. -/
def fnExactOutputPairUptoRow : OpenClaim := { program := "ytnffklompocflaa", sum := "7c74355660bd849fefbb471d35eae521001f14913098f9daf86db910bebefb76", func := "loop.example/g00511/laws.FnExactOutputPair", spec := "fnExactOutputPair", apart := false, narrowed := true }
def FnExactOutputPairUptoSaid : Prop := fnExactOutputPairUptoRow.holds Try.pinned (OpenSpec.upto fnExactOutputPairSpec)

/-- 'laws.FnExactConvolutionalEncode', WHERE WHAT IT READS IS OF BULK AT MOST 1048576: true; the input reads as it did. -/
def fnExactConvolutionalEncodeUptoRow : OpenClaim := { program := "ytnffklompocflaa", sum := "7c74355660bd849fefbb471d35eae521001f14913098f9daf86db910bebefb76", func := "loop.example/g00511/laws.FnExactConvolutionalEncode", spec := "fnExactConvolutionalEncode", apart := false, narrowed := true }
def FnExactConvolutionalEncodeUptoSaid : Prop := fnExactConvolutionalEncodeUptoRow.holds Try.pinned (OpenSpec.upto fnExactConvolutionalEncodeSpec)

/-- 'laws.FnExactEncodedLength', WHERE WHAT IT READS IS OF BULK AT MOST 1048576: true; the input reads as it did. -/
def fnExactEncodedLengthUptoRow : OpenClaim := { program := "ytnffklompocflaa", sum := "7c74355660bd849fefbb471d35eae521001f14913098f9daf86db910bebefb76", func := "loop.example/g00511/laws.FnExactEncodedLength", spec := "fnExactEncodedLength", apart := false, narrowed := true }
def FnExactEncodedLengthUptoSaid : Prop := fnExactEncodedLengthUptoRow.holds Try.pinned (OpenSpec.upto fnExactEncodedLengthSpec)

/-- 'laws.FnExactPuncture', WHERE WHAT IT READS IS OF BULK AT MOST 1048576: true; the input reads as it did. -/
def fnExactPunctureUptoRow : OpenClaim := { program := "ytnffklompocflaa", sum := "7c74355660bd849fefbb471d35eae521001f14913098f9daf86db910bebefb76", func := "loop.example/g00511/laws.FnExactPuncture", spec := "fnExactPuncture", apart := false, narrowed := true }
def FnExactPunctureUptoSaid : Prop := fnExactPunctureUptoRow.holds Try.pinned (OpenSpec.upto fnExactPunctureSpec)

/-- 'laws.FnExactDepuncture', WHERE WHAT IT READS IS OF BULK AT MOST 1048576: true; the input reads as it did. -/
def fnExactDepunctureUptoRow : OpenClaim := { program := "ytnffklompocflaa", sum := "7c74355660bd849fefbb471d35eae521001f14913098f9daf86db910bebefb76", func := "loop.example/g00511/laws.FnExactDepuncture", spec := "fnExactDepuncture", apart := false, narrowed := true }
def FnExactDepunctureUptoSaid : Prop := fnExactDepunctureUptoRow.holds Try.pinned (OpenSpec.upto fnExactDepunctureSpec)

/-- 'laws.FnExactPuncturedLength', WHERE WHAT IT READS IS OF BULK AT MOST 1048576: true; the input reads as it did. -/
def fnExactPuncturedLengthUptoRow : OpenClaim := { program := "ytnffklompocflaa", sum := "7c74355660bd849fefbb471d35eae521001f14913098f9daf86db910bebefb76", func := "loop.example/g00511/laws.FnExactPuncturedLength", spec := "fnExactPuncturedLength", apart := false, narrowed := true }
def FnExactPuncturedLengthUptoSaid : Prop := fnExactPuncturedLengthUptoRow.holds Try.pinned (OpenSpec.upto fnExactPuncturedLengthSpec)

/-- 'laws.FnExactIsSymbolString', WHERE WHAT IT READS IS OF BULK AT MOST 1048576: true; the input reads as it did. -/
def fnExactIsSymbolStringUptoRow : OpenClaim := { program := "ytnffklompocflaa", sum := "7c74355660bd849fefbb471d35eae521001f14913098f9daf86db910bebefb76", func := "loop.example/g00511/laws.FnExactIsSymbolString", spec := "fnExactIsSymbolString", apart := false, narrowed := true }
def FnExactIsSymbolStringUptoSaid : Prop := fnExactIsSymbolStringUptoRow.holds Try.pinned (OpenSpec.upto fnExactIsSymbolStringSpec)

end Rows
end Go.Proofs.Ytnffklompocflaa
