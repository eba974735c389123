/-
  No cell of these rows narrows 'for every input' (looked for: loops, veiled, ifaces, maps, wideKeys, modest, calm, conditions, laid).
  DERIVED. THE GIVEN ROWS OF THIS SEAT. 8 by the template 'for every input the law returns true; each argument reads behind the call as it read before'; 0 by the template 'total and deterministic' (their statements: YtnnlkkohbjolaaaTotals.lean).
  GIVEN WITH THE SEED: the statements are not yours to turn. If you find one false, say at which input.
  Laid BY PROGRAM, IN A SANDBOX (cutbox-rows.mjs): the forced cells as the released guide's own fill.sh prints them over the translation 9e9181b9ef7535e3… (all of the seat's roots in one cut). By AI agents, Wed Nov 11 2026. No macro, syntax, notation, axiom, sorry.
-/
import Derived.Test.YtnnlkkohbjolaaaChecked
import GoSem.Claim
import GoSem.ClaimJoined
import GoSem.ClaimMapViews
import Derived.JoinedTies
import Derived.KernelRfl
namespace Go.Proofs.Ytnnlkkohbjolaaa
/- THE CELL 'sum', in the pinned program and in every row, IS THE sha256 OF THE DUMP (.gsa) THAT YtnnlkkohbjolaaaProg.lean LOADS. Nothing in Lean hashes anything: it is a label: what it is worth is what the hold of that sum in a sandbox is worth. -/
noncomputable def Try.pinned : Pinned := { name := "ytnnlkkohbjolaaa", sum := "9e9181b9ef7535e373607cd7e81e24251e4b84c3b7f17ed76f7c95597fb8dc99", checked := Try.checked }
namespace Rows
def none {H : Type} : Left H := { results := [], args := [] }

/-- 'laws.FnMacFrames': WHATEVER THE INPUT: true; the input reads as it did. -/
def fnMacFramesSpec : ChangeSpec := { name := "fnMacFrames", fn := fun _ => fun
  | [d] => { results := [.lit (.bool true)], args := [d] }
  | _ => none }
def fnMacFramesRow : OpenClaim := { program := "ytnnlkkohbjolaaa", sum := "9e9181b9ef7535e373607cd7e81e24251e4b84c3b7f17ed76f7c95597fb8dc99", func := "loop.example/g00511/laws.FnMacFrames", spec := "fnMacFrames", unfollowed := true, recurses := true, apart := false }
def FnMacFramesSaid : Prop := fnMacFramesRow.holds Try.pinned (OpenSpec.ofChange fnMacFramesSpec)

/-- ITS FALSE NEIGHBOUR: 'it returns false'. Refute it at one input. -/
def fnMacFramesWrong : ChangeSpec := { name := "fnMacFrames", fn := fun _ => fun
  | [d] => { results := [.lit (.bool false)], args := [d] }
  | _ => none }
def FnMacFramesWrongFalsely : Prop := fnMacFramesRow.holds Try.pinned (OpenSpec.ofChange fnMacFramesWrong)

/-- 'laws.FnExactIsValidFrame': WHATEVER THE INPUT: true; the input reads as it did. -/
def fnExactIsValidFrameSpec : ChangeSpec := { name := "fnExactIsValidFrame", fn := fun _ => fun
  | [d] => { results := [.lit (.bool true)], args := [d] }
  | _ => none }
def fnExactIsValidFrameRow : OpenClaim := { program := "ytnnlkkohbjolaaa", sum := "9e9181b9ef7535e373607cd7e81e24251e4b84c3b7f17ed76f7c95597fb8dc99", func := "loop.example/g00511/laws.FnExactIsValidFrame", spec := "fnExactIsValidFrame", unfollowed := true, recurses := true, apart := false }
def FnExactIsValidFrameSaid : Prop := fnExactIsValidFrameRow.holds Try.pinned (OpenSpec.ofChange fnExactIsValidFrameSpec)

/-- ITS FALSE NEIGHBOUR: 'it returns false'. Refute it at one input. -/
def fnExactIsValidFrameWrong : ChangeSpec := { name := "fnExactIsValidFrame", fn := fun _ => fun
  | [d] => { results := [.lit (.bool false)], args := [d] }
  | _ => none }
def FnExactIsValidFrameWrongFalsely : Prop := fnExactIsValidFrameRow.holds Try.pinned (OpenSpec.ofChange fnExactIsValidFrameWrong)

/-- 'laws.FnExactEncodeFrame': WHATEVER THE INPUT: true; the input reads as it did. -/
def fnExactEncodeFrameSpec : ChangeSpec := { name := "fnExactEncodeFrame", fn := fun _ => fun
  | [d] => { results := [.lit (.bool true)], args := [d] }
  | _ => none }
def fnExactEncodeFrameRow : OpenClaim := { program := "ytnnlkkohbjolaaa", sum := "9e9181b9ef7535e373607cd7e81e24251e4b84c3b7f17ed76f7c95597fb8dc99", func := "loop.example/g00511/laws.FnExactEncodeFrame", spec := "fnExactEncodeFrame", unfollowed := true, recurses := true, apart := false }
def FnExactEncodeFrameSaid : Prop := fnExactEncodeFrameRow.holds Try.pinned (OpenSpec.ofChange fnExactEncodeFrameSpec)

/-- ITS FALSE NEIGHBOUR: 'it returns false'. Refute it at one input. -/
def fnExactEncodeFrameWrong : ChangeSpec := { name := "fnExactEncodeFrame", fn := fun _ => fun
  | [d] => { results := [.lit (.bool false)], args := [d] }
  | _ => none }
def FnExactEncodeFrameWrongFalsely : Prop := fnExactEncodeFrameRow.holds Try.pinned (OpenSpec.ofChange fnExactEncodeFrameWrong)

/-- 'laws.FnExactDecodeFrame': WHATEVER THE INPUT: true; the input reads as it did. -/
def fnExactDecodeFrameSpec : ChangeSpec := { name := "fnExactDecodeFrame", fn := fun _ => fun
  | [d] => { results := [.lit (.bool true)], args := [d] }
  | _ => none }
def fnExactDecodeFrameRow : OpenClaim := { program := "ytnnlkkohbjolaaa", sum := "9e9181b9ef7535e373607cd7e81e24251e4b84c3b7f17ed76f7c95597fb8dc99", func := "loop.example/g00511/laws.FnExactDecodeFrame", spec := "fnExactDecodeFrame", unfollowed := true, recurses := true, apart := false }
def FnExactDecodeFrameSaid : Prop := fnExactDecodeFrameRow.holds Try.pinned (OpenSpec.ofChange fnExactDecodeFrameSpec)

/-- ITS FALSE NEIGHBOUR: 'it returns false'. Refute it at one input. -/
def fnExactDecodeFrameWrong : ChangeSpec := { name := "fnExactDecodeFrame", fn := fun _ => fun
  | [d] => { results := [.lit (.bool false)], args := [d] }
  | _ => none }
def FnExactDecodeFrameWrongFalsely : Prop := fnExactDecodeFrameRow.holds Try.pinned (OpenSpec.ofChange fnExactDecodeFrameWrong)

/-- 'laws.FnExactNeedsAck': WHATEVER THE INPUT: true; the input reads as it did. -/
def fnExactNeedsAckSpec : ChangeSpec := { name := "fnExactNeedsAck", fn := fun _ => fun
  | [d] => { results := [.lit (.bool true)], args := [d] }
  | _ => none }
def fnExactNeedsAckRow : OpenClaim := { program := "ytnnlkkohbjolaaa", sum := "9e9181b9ef7535e373607cd7e81e24251e4b84c3b7f17ed76f7c95597fb8dc99", func := "loop.example/g00511/laws.FnExactNeedsAck", spec := "fnExactNeedsAck", apart := false }
def FnExactNeedsAckSaid : Prop := fnExactNeedsAckRow.holds Try.pinned (OpenSpec.ofChange fnExactNeedsAckSpec)

/-- ITS FALSE NEIGHBOUR: 'it returns false'. Refute it at one input. -/
def fnExactNeedsAckWrong : ChangeSpec := { name := "fnExactNeedsAck", fn := fun _ => fun
  | [d] => { results := [.lit (.bool false)], args := [d] }
  | _ => none }
def FnExactNeedsAckWrongFalsely : Prop := fnExactNeedsAckRow.holds Try.pinned (OpenSpec.ofChange fnExactNeedsAckWrong)

/-- 'laws.FnExactReplyKind': WHATEVER THE INPUT: true; the input reads as it did. -/
def fnExactReplyKindSpec : ChangeSpec := { name := "fnExactReplyKind", fn := fun _ => fun
  | [d] => { results := [.lit (.bool true)], args := [d] }
  | _ => none }
def fnExactReplyKindRow : OpenClaim := { program := "ytnnlkkohbjolaaa", sum := "9e9181b9ef7535e373607cd7e81e24251e4b84c3b7f17ed76f7c95597fb8dc99", func := "loop.example/g00511/laws.FnExactReplyKind", spec := "fnExactReplyKind", apart := false }
def FnExactReplyKindSaid : Prop := fnExactReplyKindRow.holds Try.pinned (OpenSpec.ofChange fnExactReplyKindSpec)

/-- ITS FALSE NEIGHBOUR: 'it returns false'. Refute it at one input. -/
def fnExactReplyKindWrong : ChangeSpec := { name := "fnExactReplyKind", fn := fun _ => fun
  | [d] => { results := [.lit (.bool false)], args := [d] }
  | _ => none }
def FnExactReplyKindWrongFalsely : Prop := fnExactReplyKindRow.holds Try.pinned (OpenSpec.ofChange fnExactReplyKindWrong)

/-- 'laws.FnExactReplyTo': WHATEVER THE INPUT: true; the input reads as it did. -/
def fnExactReplyToSpec : ChangeSpec := { name := "fnExactReplyTo", fn := fun _ => fun
  | [d] => { results := [.lit (.bool true)], args := [d] }
  | _ => none }
def fnExactReplyToRow : OpenClaim := { program := "ytnnlkkohbjolaaa", sum := "9e9181b9ef7535e373607cd7e81e24251e4b84c3b7f17ed76f7c95597fb8dc99", func := "loop.example/g00511/laws.FnExactReplyTo", spec := "fnExactReplyTo", unfollowed := true, recurses := true, apart := false }
def FnExactReplyToSaid : Prop := fnExactReplyToRow.holds Try.pinned (OpenSpec.ofChange fnExactReplyToSpec)

/-- ITS FALSE NEIGHBOUR: 'it returns false'. Refute it at one input. -/
def fnExactReplyToWrong : ChangeSpec := { name := "fnExactReplyTo", fn := fun _ => fun
  | [d] => { results := [.lit (.bool false)], args := [d] }
  | _ => none }
def FnExactReplyToWrongFalsely : Prop := fnExactReplyToRow.holds Try.pinned (OpenSpec.ofChange fnExactReplyToWrong)

/-- 'laws.FnExactEqualFrames': WHATEVER THE INPUT: true; the input reads as it did. -/
def fnExactEqualFramesSpec : ChangeSpec := { name := "fnExactEqualFrames", fn := fun _ => fun
  | [d1, d2] => { results := [.lit (.bool true)], args := [d1, d2] }
  | _ => none }
def fnExactEqualFramesRow : OpenClaim := { program := "ytnnlkkohbjolaaa", sum := "9e9181b9ef7535e373607cd7e81e24251e4b84c3b7f17ed76f7c95597fb8dc99", func := "loop.example/g00511/laws.FnExactEqualFrames", spec := "fnExactEqualFrames", apart := false }
def FnExactEqualFramesSaid : Prop := fnExactEqualFramesRow.holds Try.pinned (OpenSpec.ofChange fnExactEqualFramesSpec)

/-- ITS FALSE NEIGHBOUR: 'it returns false'. Refute it at one input. -/
def fnExactEqualFramesWrong : ChangeSpec := { name := "fnExactEqualFrames", fn := fun _ => fun
  | [d1, d2] => { results := [.lit (.bool false)], args := [d1, d2] }
  | _ => none }
def FnExactEqualFramesWrongFalsely : Prop := fnExactEqualFramesRow.holds Try.pinned (OpenSpec.ofChange fnExactEqualFramesWrong)

/- THE SECOND FORM. 'bulk': how many values and letters a reading holds, each counted each time it is reached (what is shared counts as often as it is met; a slice's spare places count too). A statement '..UptoSaid' is the law's where the arguments, and the package variables that the reading takes, are together of bulk at most 1048576: NARROWER than '..Said'. Prove '..Said' where nothing that the law and all that it calls make is longer than what came in: it says more and counts as full. Else prove '..UptoSaid'. A law counts once. -/
mutual
def uptoBulk {H : Type} : DataW H → Nat
  | .lit (.string bytes) => bytes.length + 1
  | .lit _ => 1
  | .nil => 1
  | .ptr d => uptoBulk d + 1
  | .slice elems spare => uptoBulkAll elems + uptoBulkAll spare + 1
  | .agg parts => uptoBulkAll parts + 1
  | .iface _ d => uptoBulk d + 1
  | .map entries => uptoBulkEntries entries + 1
  | .held _ => 1
def uptoBulkAll {H : Type} : List (DataW H) → Nat
  | [] => 0
  | d :: r => uptoBulk d + uptoBulkAll r
def uptoBulkEntries {H : Type} : List (Lit × DataW H) → Nat
  | [] => 0
  | x :: r => uptoBulkEntry x + uptoBulkEntries r
def uptoBulkEntry {H : Type} : Lit × DataW H → Nat
  | (.string bytes, d) => bytes.length + uptoBulk d + 1
  | (_, d) => uptoBulk d + 1
 end
def uptoSmall : (H : Type) → List (DataW H) → Bool := fun _ ds => decide (uptoBulkAll ds ≤ 1048576)
def OpenSpec.upto (s : _root_.Go.ChangeSpec) : _root_.Go.OpenSpec := { _root_.Go.OpenSpec.ofChange s with cond := some uptoSmall }

/-- 'laws.FnMacFrames', WHERE WHAT IT READS IS OF BULK AT MOST 1048576: true; the input reads as it did. -/
def fnMacFramesUptoRow : OpenClaim := { program := "ytnnlkkohbjolaaa", sum := "9e9181b9ef7535e373607cd7e81e24251e4b84c3b7f17ed76f7c95597fb8dc99", func := "loop.example/g00511/laws.FnMacFrames", spec := "fnMacFrames", unfollowed := true, recurses := true, apart := false, narrowed := true }
def FnMacFramesUptoSaid : Prop := fnMacFramesUptoRow.holds Try.pinned (OpenSpec.upto fnMacFramesSpec)

/-- 'laws.FnExactIsValidFrame', WHERE WHAT IT READS IS OF BULK AT MOST 1048576: true; the input reads as it did. -/
def fnExactIsValidFrameUptoRow : OpenClaim := { program := "ytnnlkkohbjolaaa", sum := "9e9181b9ef7535e373607cd7e81e24251e4b84c3b7f17ed76f7c95597fb8dc99", func := "loop.example/g00511/laws.FnExactIsValidFrame", spec := "fnExactIsValidFrame", unfollowed := true, recurses := true, apart := false, narrowed := true }
def FnExactIsValidFrameUptoSaid : Prop := fnExactIsValidFrameUptoRow.holds Try.pinned (OpenSpec.upto fnExactIsValidFrameSpec)

/-- 'laws.FnExactEncodeFrame', WHERE WHAT IT READS IS OF BULK AT MOST 1048576: true; the input reads as it did. -/
def fnExactEncodeFrameUptoRow : OpenClaim := { program := "ytnnlkkohbjolaaa", sum := "9e9181b9ef7535e373607cd7e81e24251e4b84c3b7f17ed76f7c95597fb8dc99", func := "loop.example/g00511/laws.FnExactEncodeFrame", spec := "fnExactEncodeFrame", unfollowed := true, recurses := true, apart := false, narrowed := true }
def FnExactEncodeFrameUptoSaid : Prop := fnExactEncodeFrameUptoRow.holds Try.pinned (OpenSpec.upto fnExactEncodeFrameSpec)

/-- 'laws.FnExactDecodeFrame', WHERE WHAT IT READS IS OF BULK AT MOST 1048576: true; the input reads as it did. -/
def fnExactDecodeFrameUptoRow : OpenClaim := { program := "ytnnlkkohbjolaaa", sum := "9e9181b9ef7535e373607cd7e81e24251e4b84c3b7f17ed76f7c95597fb8dc99", func := "loop.example/g00511/laws.FnExactDecodeFrame", spec := "fnExactDecodeFrame", unfollowed := true, recurses := true, apart := false, narrowed := true }
def FnExactDecodeFrameUptoSaid : Prop := fnExactDecodeFrameUptoRow.holds Try.pinned (OpenSpec.upto fnExactDecodeFrameSpec)

/-- 'laws.FnExactNeedsAck', WHERE WHAT IT READS IS OF BULK AT MOST 1048576: true; the input reads as it did. -/
def fnExactNeedsAckUptoRow : OpenClaim := { program := "ytnnlkkohbjolaaa", sum := "9e9181b9ef7535e373607cd7e81e24251e4b84c3b7f17ed76f7c95597fb8dc99", func := "loop.example/g00511/laws.FnExactNeedsAck", spec := "fnExactNeedsAck", apart := false, narrowed := true }
def FnExactNeedsAckUptoSaid : Prop := fnExactNeedsAckUptoRow.holds Try.pinned (OpenSpec.upto fnExactNeedsAckSpec)

/-- 'laws.FnExactReplyKind', WHERE WHAT IT READS IS OF BULK AT MOST 1048576: true; the input reads as it did. -/
def fnExactReplyKindUptoRow : OpenClaim := { program := "ytnnlkkohbjolaaa", sum := "9e9181b9ef7535e373607cd7e81e24251e4b84c3b7f17ed76f7c95597fb8dc99", func := "loop.example/g00511/laws.FnExactReplyKind", spec := "fnExactReplyKind", apart := false, narrowed := true }
def FnExactReplyKindUptoSaid : Prop := fnExactReplyKindUptoRow.holds Try.pinned (OpenSpec.upto fnExactReplyKindSpec)

/-- 'laws.FnExactReplyTo', WHERE WHAT IT READS IS OF BULK AT MOST 1048576: true; the input reads as it did. -/
def fnExactReplyToUptoRow : OpenClaim := { program := "ytnnlkkohbjolaaa", sum := "9e9181b9ef7535e373607cd7e81e24251e4b84c3b7f17ed76f7c95597fb8dc99", func := "loop.example/g00511/laws.FnExactReplyTo", spec := "fnExactReplyTo", unfollowed := true, recurses := true, apart := false, narrowed := true }
def FnExactReplyToUptoSaid : Prop := fnExactReplyToUptoRow.holds Try.pinned (OpenSpec.upto fnExactReplyToSpec)

/-- 'laws.FnExactEqualFrames', WHERE WHAT IT READS IS OF BULK AT MOST 1048576: true; the input reads as it did. -/
def fnExactEqualFramesUptoRow : OpenClaim := { program := "ytnnlkkohbjolaaa", sum := "9e9181b9ef7535e373607cd7e81e24251e4b84c3b7f17ed76f7c95597fb8dc99", func := "loop.example/g00511/laws.FnExactEqualFrames", spec := "fnExactEqualFrames", apart := false, narrowed := true }
def FnExactEqualFramesUptoSaid : Prop := fnExactEqualFramesUptoRow.holds Try.pinned (OpenSpec.upto fnExactEqualFramesSpec)

end Rows
end Go.Proofs.Ytnnlkkohbjolaaa
