/-
  No cell of these rows narrows 'for every input' (looked for: loops, veiled, ifaces, maps, wideKeys, modest, calm, conditions, laid).
  DERIVED. THE GIVEN ROWS OF THIS SEAT. 8 by the template 'for every input the law returns true; each argument reads behind the call as it read before'; 0 by the template 'total and deterministic' (their statements: YtdelpepepbkjmaaTotals.lean).
  GIVEN WITH THE SEED: the statements are not yours to turn. If you find one false, say at which input.
  Laid BY PROGRAM, IN A SANDBOX (cutbox-rows.mjs): the forced cells as the released guide's own fill.sh prints them over the translation 28c8d3d1f673e9dd… (all of the seat's roots in one cut). By AI agents, Wed Nov 11 2026. No macro, syntax, notation, axiom, sorry.
-/
import Derived.Test.YtdelpepepbkjmaaChecked
import GoSem.Claim
import GoSem.ClaimJoined
import GoSem.ClaimMapViews
import Derived.JoinedTies
import Derived.KernelRfl
namespace Go.Proofs.Ytdelpepepbkjmaa
/- THE CELL 'sum', in the pinned program and in every row, IS THE sha256 OF THE DUMP (.gsa) THAT YtdelpepepbkjmaaProg.lean LOADS. Nothing in Lean hashes anything: it is a label: what it is worth is what the hold of that sum in a sandbox is worth. -/
noncomputable def Try.pinned : Pinned := { name := "ytdelpepepbkjmaa", sum := "28c8d3d1f673e9dd57ae49fe128b2536bcd2315dd1b6db76a7343bdc34f8a1a2", checked := Try.checked }
namespace Rows
def none {H : Type} : Left H := { results := [], args := [] }

/-- 'laws.FnHeaderErrors': WHATEVER THE INPUT: true; the input reads as it did. -/
def fnHeaderErrorsSpec : ChangeSpec := { name := "fnHeaderErrors", fn := fun _ => fun
  | [d] => { results := [.lit (.bool true)], args := [d] }
  | _ => none }
def fnHeaderErrorsRow : OpenClaim := { program := "ytdelpepepbkjmaa", sum := "28c8d3d1f673e9dd57ae49fe128b2536bcd2315dd1b6db76a7343bdc34f8a1a2", func := "loop.example/g00511/laws.FnHeaderErrors", spec := "fnHeaderErrors", apart := false }
def FnHeaderErrorsSaid : Prop := fnHeaderErrorsRow.holds Try.pinned (OpenSpec.ofChange fnHeaderErrorsSpec)

/-- ITS FALSE NEIGHBOUR: 'it returns false'. Refute it at one input. -/
def fnHeaderErrorsWrong : ChangeSpec := { name := "fnHeaderErrors", fn := fun _ => fun
  | [d] => { results := [.lit (.bool false)], args := [d] }
  | _ => none }
def FnHeaderErrorsWrongFalsely : Prop := fnHeaderErrorsRow.holds Try.pinned (OpenSpec.ofChange fnHeaderErrorsWrong)

/-- 'laws.FnExactIsValidHeader': WHATEVER THE INPUT: true; the input reads as it did. -/
def fnExactIsValidHeaderSpec : ChangeSpec := { name := "fnExactIsValidHeader", fn := fun _ => fun
  | [d] => { results := [.lit (.bool true)], args := [d] }
  | _ => none }
def fnExactIsValidHeaderRow : OpenClaim := { program := "ytdelpepepbkjmaa", sum := "28c8d3d1f673e9dd57ae49fe128b2536bcd2315dd1b6db76a7343bdc34f8a1a2", func := "loop.example/g00511/laws.FnExactIsValidHeader", spec := "fnExactIsValidHeader", apart := false }
def FnExactIsValidHeaderSaid : Prop := fnExactIsValidHeaderRow.holds Try.pinned (OpenSpec.ofChange fnExactIsValidHeaderSpec)

/-- ITS FALSE NEIGHBOUR: 'it returns false'. Refute it at one input. -/
def fnExactIsValidHeaderWrong : ChangeSpec := { name := "fnExactIsValidHeader", fn := fun _ => fun
  | [d] => { results := [.lit (.bool false)], args := [d] }
  | _ => none }
def FnExactIsValidHeaderWrongFalsely : Prop := fnExactIsValidHeaderRow.holds Try.pinned (OpenSpec.ofChange fnExactIsValidHeaderWrong)

/-- 'laws.FnExactEncodeHeader': WHATEVER THE INPUT: true; the input reads as it did. -/
def fnExactEncodeHeaderSpec : ChangeSpec := { name := "fnExactEncodeHeader", fn := fun _ => fun
  | [d] => { results := [.lit (.bool true)], args := [d] }
  | _ => none }
def fnExactEncodeHeaderRow : OpenClaim := { program := "ytdelpepepbkjmaa", sum := "28c8d3d1f673e9dd57ae49fe128b2536bcd2315dd1b6db76a7343bdc34f8a1a2", func := "loop.example/g00511/laws.FnExactEncodeHeader", spec := "fnExactEncodeHeader", apart := false }
def FnExactEncodeHeaderSaid : Prop := fnExactEncodeHeaderRow.holds Try.pinned (OpenSpec.ofChange fnExactEncodeHeaderSpec)

/-- ITS FALSE NEIGHBOUR: 'it returns false'. Refute it at one input. -/
def fnExactEncodeHeaderWrong : ChangeSpec := { name := "fnExactEncodeHeader", fn := fun _ => fun
  | [d] => { results := [.lit (.bool false)], args := [d] }
  | _ => none }
def FnExactEncodeHeaderWrongFalsely : Prop := fnExactEncodeHeaderRow.holds Try.pinned (OpenSpec.ofChange fnExactEncodeHeaderWrong)

/-- 'laws.FnExactDecodeHeader': WHATEVER THE INPUT: true; the input reads as it did. -/
def fnExactDecodeHeaderSpec : ChangeSpec := { name := "fnExactDecodeHeader", fn := fun _ => fun
  | [d] => { results := [.lit (.bool true)], args := [d] }
  | _ => none }
def fnExactDecodeHeaderRow : OpenClaim := { program := "ytdelpepepbkjmaa", sum := "28c8d3d1f673e9dd57ae49fe128b2536bcd2315dd1b6db76a7343bdc34f8a1a2", func := "loop.example/g00511/laws.FnExactDecodeHeader", spec := "fnExactDecodeHeader", apart := false }
def FnExactDecodeHeaderSaid : Prop := fnExactDecodeHeaderRow.holds Try.pinned (OpenSpec.ofChange fnExactDecodeHeaderSpec)

/-- ITS FALSE NEIGHBOUR: 'it returns false'. Refute it at one input. -/
def fnExactDecodeHeaderWrong : ChangeSpec := { name := "fnExactDecodeHeader", fn := fun _ => fun
  | [d] => { results := [.lit (.bool false)], args := [d] }
  | _ => none }
def FnExactDecodeHeaderWrongFalsely : Prop := fnExactDecodeHeaderRow.holds Try.pinned (OpenSpec.ofChange fnExactDecodeHeaderWrong)

/-- 'laws.FnExactPayloadSymbols': WHATEVER THE INPUT: true; the input reads as it did. -/
def fnExactPayloadSymbolsSpec : ChangeSpec := { name := "fnExactPayloadSymbols", fn := fun _ => fun
  | [d] => { results := [.lit (.bool true)], args := [d] }
  | _ => none }
def fnExactPayloadSymbolsRow : OpenClaim := { program := "ytdelpepepbkjmaa", sum := "28c8d3d1f673e9dd57ae49fe128b2536bcd2315dd1b6db76a7343bdc34f8a1a2", func := "loop.example/g00511/laws.FnExactPayloadSymbols", spec := "fnExactPayloadSymbols", apart := false }
def FnExactPayloadSymbolsSaid : Prop := fnExactPayloadSymbolsRow.holds Try.pinned (OpenSpec.ofChange fnExactPayloadSymbolsSpec)

/-- ITS FALSE NEIGHBOUR: 'it returns false'. Refute it at one input. -/
def fnExactPayloadSymbolsWrong : ChangeSpec := { name := "fnExactPayloadSymbols", fn := fun _ => fun
  | [d] => { results := [.lit (.bool false)], args := [d] }
  | _ => none }
def FnExactPayloadSymbolsWrongFalsely : Prop := fnExactPayloadSymbolsRow.holds Try.pinned (OpenSpec.ofChange fnExactPayloadSymbolsWrong)

/-- 'laws.FnExactTransmitFrame': WHATEVER THE INPUT: true; the input reads as it did. -/
def fnExactTransmitFrameSpec : ChangeSpec := { name := "fnExactTransmitFrame", fn := fun _ => fun
  | [d1, d2] => { results := [.lit (.bool true)], args := [d1, d2] }
  | _ => none }
def fnExactTransmitFrameRow : OpenClaim := { program := "ytdelpepepbkjmaa", sum := "28c8d3d1f673e9dd57ae49fe128b2536bcd2315dd1b6db76a7343bdc34f8a1a2", func := "loop.example/g00511/laws.FnExactTransmitFrame", spec := "fnExactTransmitFrame", unfollowed := true, recurses := true, apart := false }
def FnExactTransmitFrameSaid : Prop := fnExactTransmitFrameRow.holds Try.pinned (OpenSpec.ofChange fnExactTransmitFrameSpec)

/-- ITS FALSE NEIGHBOUR: 'it returns false'. Refute it at one input. -/
def fnExactTransmitFrameWrong : ChangeSpec := { name := "fnExactTransmitFrame", fn := fun _ => fun
  | [d1, d2] => { results := [.lit (.bool false)], args := [d1, d2] }
  | _ => none }
def FnExactTransmitFrameWrongFalsely : Prop := fnExactTransmitFrameRow.holds Try.pinned (OpenSpec.ofChange fnExactTransmitFrameWrong)

/-- 'laws.FnExactFrameSymbols': WHATEVER THE INPUT: true; the input reads as it did. -/
def fnExactFrameSymbolsSpec : ChangeSpec := { name := "fnExactFrameSymbols", fn := fun _ => fun
  | [d] => { results := [.lit (.bool true)], args := [d] }
  | _ => none }
def fnExactFrameSymbolsRow : OpenClaim := { program := "ytdelpepepbkjmaa", sum := "28c8d3d1f673e9dd57ae49fe128b2536bcd2315dd1b6db76a7343bdc34f8a1a2", func := "loop.example/g00511/laws.FnExactFrameSymbols", spec := "fnExactFrameSymbols", apart := false }
def FnExactFrameSymbolsSaid : Prop := fnExactFrameSymbolsRow.holds Try.pinned (OpenSpec.ofChange fnExactFrameSymbolsSpec)

/-- ITS FALSE NEIGHBOUR: 'it returns false'. Refute it at one input. -/
def fnExactFrameSymbolsWrong : ChangeSpec := { name := "fnExactFrameSymbols", fn := fun _ => fun
  | [d] => { results := [.lit (.bool false)], args := [d] }
  | _ => none }
def FnExactFrameSymbolsWrongFalsely : Prop := fnExactFrameSymbolsRow.holds Try.pinned (OpenSpec.ofChange fnExactFrameSymbolsWrong)

/-- 'laws.FnExactEqualHeaders': WHATEVER THE INPUT: true; the input reads as it did. -/
def fnExactEqualHeadersSpec : ChangeSpec := { name := "fnExactEqualHeaders", fn := fun _ => fun
  | [d1, d2] => { results := [.lit (.bool true)], args := [d1, d2] }
  | _ => none }
def fnExactEqualHeadersRow : OpenClaim := { program := "ytdelpepepbkjmaa", sum := "28c8d3d1f673e9dd57ae49fe128b2536bcd2315dd1b6db76a7343bdc34f8a1a2", func := "loop.example/g00511/laws.FnExactEqualHeaders", spec := "fnExactEqualHeaders", apart := false }
def FnExactEqualHeadersSaid : Prop := fnExactEqualHeadersRow.holds Try.pinned (OpenSpec.ofChange fnExactEqualHeadersSpec)

/-- ITS FALSE NEIGHBOUR: 'it returns false'. Refute it at one input. -/
def fnExactEqualHeadersWrong : ChangeSpec := { name := "fnExactEqualHeaders", fn := fun _ => fun
  | [d1, d2] => { results := [.lit (.bool false)], args := [d1, d2] }
  | _ => none }
def FnExactEqualHeadersWrongFalsely : Prop := fnExactEqualHeadersRow.holds Try.pinned (OpenSpec.ofChange fnExactEqualHeadersWrong)

/- THE SECOND FORM. 'bulk': how many values and letters a reading holds, each counted each time it is reached (what is shared counts as often as it is met; a slice's spare places count too). A statement '..UptoSaid' is the law's where the arguments, and the package variables that the reading takes, are together of bulk at most 1048576: NARROWER than '..Said'. Prove '..Said' where nothing that the law and all that it calls make is longer than what came in: it says more and counts as full. Else prove '..UptoSaid'. A law counts once. -/
mutual
def uptoBulk {H : Type} : DataW H → Nat
  | .lit (.string bytes) => bytes.length + 1
  | .lit _ => 1
  | .nil => 1
  | .ptr d => uptoBulk d + 1
  | .slice elems spare => uptoBulkAll elems + uptoBulkAll spare + 1
  | .agg parts => uptoBulkAll parts + 1
  | .iface _ d => uptoBulk d + 1
  | .map entries => uptoBulkEntries entries + 1
  | .held _ => 1
def uptoBulkAll {H : Type} : List (DataW H) → Nat
  | [] => 0
  | d :: r => uptoBulk d + uptoBulkAll r
def uptoBulkEntries {H : Type} : List (Lit × DataW H) → Nat
  | [] => 0
  | x :: r => uptoBulkEntry x + uptoBulkEntries r
def uptoBulkEntry {H : Type} : Lit × DataW H → Nat
  | (.string bytes, d) => bytes.length + uptoBulk d + 1
  | (_, d) => uptoBulk d + 1
 end
def uptoSmall : (H : Type) → List (DataW H) → Bool := fun _ ds => decide (uptoBulkAll ds ≤ 1048576)
def OpenSpec.upto (s : _root_.Go.ChangeSpec) : _root_.Go.OpenSpec := { _root_.Go.OpenSpec.ofChange s with cond := some uptoSmall }

/-- 'laws.FnHeaderErrors', WHERE WHAT IT READS IS OF BULK AT MOST 1048576: true; the input reads as it did. -/
def fnHeaderErrorsUptoRow : OpenClaim := { program := "ytdelpepepbkjmaa", sum := "28c8d3d1f673e9dd57ae49fe128b2536bcd2315dd1b6db76a7343bdc34f8a1a2", func := "loop.example/g00511/laws.FnHeaderErrors", spec := "fnHeaderErrors", apart := false, narrowed := true }
def FnHeaderErrorsUptoSaid : Prop := fnHeaderErrorsUptoRow.holds Try.pinned (OpenSpec.upto fnHeaderErrorsSpec)

/-- 'laws.FnExactIsValidHeader', WHERE WHAT IT READS IS OF BULK AT MOST 1048576: true; the input reads as it did. -/
def fnExactIsValidHeaderUptoRow : OpenClaim := { program := "ytdelpepepbkjmaa", sum := "28c8d3d1f673e9dd57ae49fe128b2536bcd2315dd1b6db76a7343bdc34f8a1a2", func := "loop.example/g00511/laws.FnExactIsValidHeader", spec := "fnExactIsValidHeader", apart := false, narrowed := true }
def FnExactIsValidHeaderUptoSaid : Prop := fnExactIsValidHeaderUptoRow.holds Try.pinned (OpenSpec.upto fnExactIsValidHeaderSpec)

/-- 'laws.FnExactEncodeHeader', WHERE WHAT IT READS IS OF BULK AT MOST 1048576: true; the input reads as it did. -/
def fnExactEncodeHeaderUptoRow : OpenClaim := { program := "ytdelpepepbkjmaa", sum := "28c8d3d1f673e9dd57ae49fe128b2536bcd2315dd1b6db76a7343bdc34f8a1a2", func := "loop.example/g00511/laws.FnExactEncodeHeader", spec := "fnExactEncodeHeader", apart := false, narrowed := true }
def FnExactEncodeHeaderUptoSaid : Prop := fnExactEncodeHeaderUptoRow.holds Try.pinned (OpenSpec.upto fnExactEncodeHeaderSpec)

/-- 'laws.FnExactDecodeHeader', WHERE WHAT IT READS IS OF BULK AT MOST 1048576: true; the input reads as it did. -/
def fnExactDecodeHeaderUptoRow : OpenClaim := { program := "ytdelpepepbkjmaa", sum := "28c8d3d1f673e9dd57ae49fe128b2536bcd2315dd1b6db76a7343bdc34f8a1a2", func := "loop.example/g00511/laws.FnExactDecodeHeader", spec := "fnExactDecodeHeader", apart := false, narrowed := true }
def FnExactDecodeHeaderUptoSaid : Prop := fnExactDecodeHeaderUptoRow.holds Try.pinned (OpenSpec.upto fnExactDecodeHeaderSpec)

/-- 'laws.FnExactPayloadSymbols', WHERE WHAT IT READS IS OF BULK AT MOST 1048576: true; the input reads as it did. -/
def fnExactPayloadSymbolsUptoRow : OpenClaim := { program := "ytdelpepepbkjmaa", sum := "28c8d3d1f673e9dd57ae49fe128b2536bcd2315dd1b6db76a7343bdc34f8a1a2", func := "loop.example/g00511/laws.FnExactPayloadSymbols", spec := "fnExactPayloadSymbols", apart := false, narrowed := true }
def FnExactPayloadSymbolsUptoSaid : Prop := fnExactPayloadSymbolsUptoRow.holds Try.pinned (OpenSpec.upto fnExactPayloadSymbolsSpec)

/-- 'laws.FnExactTransmitFrame', WHERE WHAT IT READS IS OF BULK AT MOST 1048576: true; the input reads as it did. -/
def fnExactTransmitFrameUptoRow : OpenClaim := { program := "ytdelpepepbkjmaa", sum := "28c8d3d1f673e9dd57ae49fe128b2536bcd2315dd1b6db76a7343bdc34f8a1a2", func := "loop.example/g00511/laws.FnExactTransmitFrame", spec := "fnExactTransmitFrame", unfollowed := true, recurses := true, apart := false, narrowed := true }
def FnExactTransmitFrameUptoSaid : Prop := fnExactTransmitFrameUptoRow.holds Try.pinned (OpenSpec.upto fnExactTransmitFrameSpec)

/-- 'laws.FnExactFrameSymbols', WHERE WHAT IT READS IS OF BULK AT MOST 1048576: true; the input reads as it did. -/
def fnExactFrameSymbolsUptoRow : OpenClaim := { program := "ytdelpepepbkjmaa", sum := "28c8d3d1f673e9dd57ae49fe128b2536bcd2315dd1b6db76a7343bdc34f8a1a2", func := "loop.example/g00511/laws.FnExactFrameSymbols", spec := "fnExactFrameSymbols", apart := false, narrowed := true }
def FnExactFrameSymbolsUptoSaid : Prop := fnExactFrameSymbolsUptoRow.holds Try.pinned (OpenSpec.upto fnExactFrameSymbolsSpec)

/-- 'laws.FnExactEqualHeaders', WHERE WHAT IT READS IS OF BULK AT MOST 1048576: true; the input reads as it did. -/
def fnExactEqualHeadersUptoRow : OpenClaim := { program := "ytdelpepepbkjmaa", sum := "28c8d3d1f673e9dd57ae49fe128b2536bcd2315dd1b6db76a7343bdc34f8a1a2", func := "loop.example/g00511/laws.FnExactEqualHeaders", spec := "fnExactEqualHeaders", apart := false, narrowed := true }
def FnExactEqualHeadersUptoSaid : Prop := fnExactEqualHeadersUptoRow.holds Try.pinned (OpenSpec.upto fnExactEqualHeadersSpec)

end Rows
end Go.Proofs.Ytdelpepepbkjmaa
