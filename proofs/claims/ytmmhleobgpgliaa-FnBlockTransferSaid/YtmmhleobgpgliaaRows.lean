/-
  No cell of these rows narrows 'for every input' (looked for: loops, veiled, ifaces, maps, wideKeys, modest, calm, conditions, laid).
  DERIVED. THE GIVEN ROWS OF THIS SEAT. 9 by the template 'for every input the law returns true; each argument reads behind the call as it read before'; 0 by the template 'total and deterministic' (their statements: YtmmhleobgpgliaaTotals.lean).
  GIVEN WITH THE SEED: the statements are not yours to turn. If you find one false, say at which input.
  Laid BY PROGRAM, IN A SANDBOX (cutbox-rows.mjs): the forced cells as the released guide's own fill.sh prints them over the translation dcd832b3acad93ae… (all of the seat's roots in one cut). By AI agents, Wed Nov 11 2026. No macro, syntax, notation, axiom, sorry.
-/
import Derived.Test.YtmmhleobgpgliaaChecked
import GoSem.Claim
import GoSem.ClaimJoined
import GoSem.ClaimMapViews
import Derived.JoinedTies
import Derived.KernelRfl
namespace Go.Proofs.Ytmmhleobgpgliaa
/- THE CELL 'sum', in the pinned program and in every row, IS THE sha256 OF THE DUMP (.gsa) THAT YtmmhleobgpgliaaProg.lean LOADS. Nothing in Lean hashes anything: it is a label: what it is worth is what the hold of that sum in a sandbox is worth. -/
noncomputable def Try.pinned : Pinned := { name := "ytmmhleobgpgliaa", sum := "dcd832b3acad93ae467380d7f3e9c57443413d45d3c608ec3be71dbf17850a02", checked := Try.checked }
namespace Rows
def none {H : Type} : Left H := { results := [], args := [] }

/-- 'laws.FnBlockTransfer': WHATEVER THE INPUT: true; the input reads as it did. -/
def fnBlockTransferSpec : ChangeSpec := { name := "fnBlockTransfer", fn := fun _ => fun
  | [d] => { results := [.lit (.bool true)], args := [d] }
  | _ => none }
def fnBlockTransferRow : OpenClaim := { program := "ytmmhleobgpgliaa", sum := "dcd832b3acad93ae467380d7f3e9c57443413d45d3c608ec3be71dbf17850a02", func := "loop.example/g00511/laws.FnBlockTransfer", spec := "fnBlockTransfer", unfollowed := true, recurses := true, apart := false }
def FnBlockTransferSaid : Prop := fnBlockTransferRow.holds Try.pinned (OpenSpec.ofChange fnBlockTransferSpec)

/-- ITS FALSE NEIGHBOUR: 'it returns false'. Refute it at one input. -/
def fnBlockTransferWrong : ChangeSpec := { name := "fnBlockTransfer", fn := fun _ => fun
  | [d] => { results := [.lit (.bool false)], args := [d] }
  | _ => none }
def FnBlockTransferWrongFalsely : Prop := fnBlockTransferRow.holds Try.pinned (OpenSpec.ofChange fnBlockTransferWrong)

/-- 'laws.FnReorderBuffers': WHATEVER THE INPUT: true; the input reads as it did. -/
def fnReorderBuffersSpec : ChangeSpec := { name := "fnReorderBuffers", fn := fun _ => fun
  | [d] => { results := [.lit (.bool true)], args := [d] }
  | _ => none }
def fnReorderBuffersRow : OpenClaim := { program := "ytmmhleobgpgliaa", sum := "dcd832b3acad93ae467380d7f3e9c57443413d45d3c608ec3be71dbf17850a02", func := "loop.example/g00511/laws.FnReorderBuffers", spec := "fnReorderBuffers", unfollowed := true, recurses := true, apart := false }
def FnReorderBuffersSaid : Prop := fnReorderBuffersRow.holds Try.pinned (OpenSpec.ofChange fnReorderBuffersSpec)

/-- ITS FALSE NEIGHBOUR: 'it returns false'. Refute it at one input. -/
def fnReorderBuffersWrong : ChangeSpec := { name := "fnReorderBuffers", fn := fun _ => fun
  | [d] => { results := [.lit (.bool false)], args := [d] }
  | _ => none }
def FnReorderBuffersWrongFalsely : Prop := fnReorderBuffersRow.holds Try.pinned (OpenSpec.ofChange fnReorderBuffersWrong)

/-- 'laws.FnExactNewReorderBuffer': WHATEVER THE INPUT: true; the input reads as it did. -/
def fnExactNewReorderBufferSpec : ChangeSpec := { name := "fnExactNewReorderBuffer", fn := fun _ => fun
  | [d] => { results := [.lit (.bool true)], args := [d] }
  | _ => none }
def fnExactNewReorderBufferRow : OpenClaim := { program := "ytmmhleobgpgliaa", sum := "dcd832b3acad93ae467380d7f3e9c57443413d45d3c608ec3be71dbf17850a02", func := "loop.example/g00511/laws.FnExactNewReorderBuffer", spec := "fnExactNewReorderBuffer", apart := false }
def FnExactNewReorderBufferSaid : Prop := fnExactNewReorderBufferRow.holds Try.pinned (OpenSpec.ofChange fnExactNewReorderBufferSpec)

/-- ITS FALSE NEIGHBOUR: 'it returns false'. Refute it at one input. -/
def fnExactNewReorderBufferWrong : ChangeSpec := { name := "fnExactNewReorderBuffer", fn := fun _ => fun
  | [d] => { results := [.lit (.bool false)], args := [d] }
  | _ => none }
def FnExactNewReorderBufferWrongFalsely : Prop := fnExactNewReorderBufferRow.holds Try.pinned (OpenSpec.ofChange fnExactNewReorderBufferWrong)

/-- 'laws.FnExactIsValidReorderBuffer': WHATEVER THE INPUT: true; the input reads as it did. -/
def fnExactIsValidReorderBufferSpec : ChangeSpec := { name := "fnExactIsValidReorderBuffer", fn := fun _ => fun
  | [d] => { results := [.lit (.bool true)], args := [d] }
  | _ => none }
def fnExactIsValidReorderBufferRow : OpenClaim := { program := "ytmmhleobgpgliaa", sum := "dcd832b3acad93ae467380d7f3e9c57443413d45d3c608ec3be71dbf17850a02", func := "loop.example/g00511/laws.FnExactIsValidReorderBuffer", spec := "fnExactIsValidReorderBuffer", apart := false }
def FnExactIsValidReorderBufferSaid : Prop := fnExactIsValidReorderBufferRow.holds Try.pinned (OpenSpec.ofChange fnExactIsValidReorderBufferSpec)

/-- ITS FALSE NEIGHBOUR: 'it returns false'. Refute it at one input. -/
def fnExactIsValidReorderBufferWrong : ChangeSpec := { name := "fnExactIsValidReorderBuffer", fn := fun _ => fun
  | [d] => { results := [.lit (.bool false)], args := [d] }
  | _ => none }
def FnExactIsValidReorderBufferWrongFalsely : Prop := fnExactIsValidReorderBufferRow.holds Try.pinned (OpenSpec.ofChange fnExactIsValidReorderBufferWrong)

/-- 'laws.FnExactReceiveNumbered': WHATEVER THE INPUT: true; the input reads as it did. -/
def fnExactReceiveNumberedSpec : ChangeSpec := { name := "fnExactReceiveNumbered", fn := fun _ => fun
  | [d1, d2, d3] => { results := [.lit (.bool true)], args := [d1, d2, d3] }
  | _ => none }
def fnExactReceiveNumberedRow : OpenClaim := { program := "ytmmhleobgpgliaa", sum := "dcd832b3acad93ae467380d7f3e9c57443413d45d3c608ec3be71dbf17850a02", func := "loop.example/g00511/laws.FnExactReceiveNumbered", spec := "fnExactReceiveNumbered", apart := false }
def FnExactReceiveNumberedSaid : Prop := fnExactReceiveNumberedRow.holds Try.pinned (OpenSpec.ofChange fnExactReceiveNumberedSpec)

/-- ITS FALSE NEIGHBOUR: 'it returns false'. Refute it at one input. -/
def fnExactReceiveNumberedWrong : ChangeSpec := { name := "fnExactReceiveNumbered", fn := fun _ => fun
  | [d1, d2, d3] => { results := [.lit (.bool false)], args := [d1, d2, d3] }
  | _ => none }
def FnExactReceiveNumberedWrongFalsely : Prop := fnExactReceiveNumberedRow.holds Try.pinned (OpenSpec.ofChange fnExactReceiveNumberedWrong)

/-- 'laws.FnExactMoveStart': WHATEVER THE INPUT: true; the input reads as it did. -/
def fnExactMoveStartSpec : ChangeSpec := { name := "fnExactMoveStart", fn := fun _ => fun
  | [d1, d2] => { results := [.lit (.bool true)], args := [d1, d2] }
  | _ => none }
def fnExactMoveStartRow : OpenClaim := { program := "ytmmhleobgpgliaa", sum := "dcd832b3acad93ae467380d7f3e9c57443413d45d3c608ec3be71dbf17850a02", func := "loop.example/g00511/laws.FnExactMoveStart", spec := "fnExactMoveStart", apart := false }
def FnExactMoveStartSaid : Prop := fnExactMoveStartRow.holds Try.pinned (OpenSpec.ofChange fnExactMoveStartSpec)

/-- ITS FALSE NEIGHBOUR: 'it returns false'. Refute it at one input. -/
def fnExactMoveStartWrong : ChangeSpec := { name := "fnExactMoveStart", fn := fun _ => fun
  | [d1, d2] => { results := [.lit (.bool false)], args := [d1, d2] }
  | _ => none }
def FnExactMoveStartWrongFalsely : Prop := fnExactMoveStartRow.holds Try.pinned (OpenSpec.ofChange fnExactMoveStartWrong)

/-- 'laws.FnExactBlockAckOf': WHATEVER THE INPUT: true; the input reads as it did. -/
def fnExactBlockAckOfSpec : ChangeSpec := { name := "fnExactBlockAckOf", fn := fun _ => fun
  | [d] => { results := [.lit (.bool true)], args := [d] }
  | _ => none }
def fnExactBlockAckOfRow : OpenClaim := { program := "ytmmhleobgpgliaa", sum := "dcd832b3acad93ae467380d7f3e9c57443413d45d3c608ec3be71dbf17850a02", func := "loop.example/g00511/laws.FnExactBlockAckOf", spec := "fnExactBlockAckOf", apart := false }
def FnExactBlockAckOfSaid : Prop := fnExactBlockAckOfRow.holds Try.pinned (OpenSpec.ofChange fnExactBlockAckOfSpec)

/-- ITS FALSE NEIGHBOUR: 'it returns false'. Refute it at one input. -/
def fnExactBlockAckOfWrong : ChangeSpec := { name := "fnExactBlockAckOf", fn := fun _ => fun
  | [d] => { results := [.lit (.bool false)], args := [d] }
  | _ => none }
def FnExactBlockAckOfWrongFalsely : Prop := fnExactBlockAckOfRow.holds Try.pinned (OpenSpec.ofChange fnExactBlockAckOfWrong)

/-- 'laws.FnExactMissingNumbers': WHATEVER THE INPUT: true; the input reads as it did. -/
def fnExactMissingNumbersSpec : ChangeSpec := { name := "fnExactMissingNumbers", fn := fun _ => fun
  | [d] => { results := [.lit (.bool true)], args := [d] }
  | _ => none }
def fnExactMissingNumbersRow : OpenClaim := { program := "ytmmhleobgpgliaa", sum := "dcd832b3acad93ae467380d7f3e9c57443413d45d3c608ec3be71dbf17850a02", func := "loop.example/g00511/laws.FnExactMissingNumbers", spec := "fnExactMissingNumbers", apart := false }
def FnExactMissingNumbersSaid : Prop := fnExactMissingNumbersRow.holds Try.pinned (OpenSpec.ofChange fnExactMissingNumbersSpec)

/-- ITS FALSE NEIGHBOUR: 'it returns false'. Refute it at one input. -/
def fnExactMissingNumbersWrong : ChangeSpec := { name := "fnExactMissingNumbers", fn := fun _ => fun
  | [d] => { results := [.lit (.bool false)], args := [d] }
  | _ => none }
def FnExactMissingNumbersWrongFalsely : Prop := fnExactMissingNumbersRow.holds Try.pinned (OpenSpec.ofChange fnExactMissingNumbersWrong)

/-- 'laws.FnExactEqualReorderBuffers': WHATEVER THE INPUT: true; the input reads as it did. -/
def fnExactEqualReorderBuffersSpec : ChangeSpec := { name := "fnExactEqualReorderBuffers", fn := fun _ => fun
  | [d1, d2] => { results := [.lit (.bool true)], args := [d1, d2] }
  | _ => none }
def fnExactEqualReorderBuffersRow : OpenClaim := { program := "ytmmhleobgpgliaa", sum := "dcd832b3acad93ae467380d7f3e9c57443413d45d3c608ec3be71dbf17850a02", func := "loop.example/g00511/laws.FnExactEqualReorderBuffers", spec := "fnExactEqualReorderBuffers", unfollowed := true, recurses := true, apart := false }
def FnExactEqualReorderBuffersSaid : Prop := fnExactEqualReorderBuffersRow.holds Try.pinned (OpenSpec.ofChange fnExactEqualReorderBuffersSpec)

/-- ITS FALSE NEIGHBOUR: 'it returns false'. Refute it at one input. -/
def fnExactEqualReorderBuffersWrong : ChangeSpec := { name := "fnExactEqualReorderBuffers", fn := fun _ => fun
  | [d1, d2] => { results := [.lit (.bool false)], args := [d1, d2] }
  | _ => none }
def FnExactEqualReorderBuffersWrongFalsely : Prop := fnExactEqualReorderBuffersRow.holds Try.pinned (OpenSpec.ofChange fnExactEqualReorderBuffersWrong)

/- THE SECOND FORM. 'bulk': how many values and letters a reading holds, each counted each time it is reached (what is shared counts as often as it is met; a slice's spare places count too). A statement '..UptoSaid' is the law's where the arguments, and the package variables that the reading takes, are together of bulk at most 1048576: NARROWER than '..Said'. Prove '..Said' where nothing that the law and all that it calls make is longer than what came in: it says more and counts as full. Else prove '..UptoSaid'. A law counts once. -/
mutual
def uptoBulk {H : Type} : DataW H → Nat
  | .lit (.string bytes) => bytes.length + 1
  | .lit _ => 1
  | .nil => 1
  | .ptr d => uptoBulk d + 1
  | .slice elems spare => uptoBulkAll elems + uptoBulkAll spare + 1
  | .agg parts => uptoBulkAll parts + 1
  | .iface _ d => uptoBulk d + 1
  | .map entries => uptoBulkEntries entries + 1
  | .held _ => 1
def uptoBulkAll {H : Type} : List (DataW H) → Nat
  | [] => 0
  | d :: r => uptoBulk d + uptoBulkAll r
def uptoBulkEntries {H : Type} : List (Lit × DataW H) → Nat
  | [] => 0
  | x :: r => uptoBulkEntry x + uptoBulkEntries r
def uptoBulkEntry {H : Type} : Lit × DataW H → Nat
  | (.string bytes, d) => bytes.length + uptoBulk d + 1
  | (_, d) => uptoBulk d + 1
 end
def uptoSmall : (H : Type) → List (DataW H) → Bool := fun _ ds => decide (uptoBulkAll ds ≤ 1048576)
def OpenSpec.upto (s : _root_.Go.ChangeSpec) : _root_.Go.OpenSpec := { _root_.Go.OpenSpec.ofChange s with cond := some uptoSmall }

/-- 'laws.FnBlockTransfer', WHERE WHAT IT READS IS OF BULK AT MOST 1048576: true; the input reads as it did. -/
def fnBlockTransferUptoRow : OpenClaim := { program := "ytmmhleobgpgliaa", sum := "dcd832b3acad93ae467380d7f3e9c57443413d45d3c608ec3be71dbf17850a02", func := "loop.example/g00511/laws.FnBlockTransfer", spec := "fnBlockTransfer", unfollowed := true, recurses := true, apart := false, narrowed := true }
def FnBlockTransferUptoSaid : Prop := fnBlockTransferUptoRow.holds Try.pinned (OpenSpec.upto fnBlockTransferSpec)

/-- 'laws.FnReorderBuffers', WHERE WHAT IT READS IS OF BULK AT MOST 1048576: true; the input reads as it did. -/
def fnReorderBuffersUptoRow : OpenClaim := { program := "ytmmhleobgpgliaa", sum := "dcd832b3acad93ae467380d7f3e9c57443413d45d3c608ec3be71dbf17850a02", func := "loop.example/g00511/laws.FnReorderBuffers", spec := "fnReorderBuffers", unfollowed := true, recurses := true, apart := false, narrowed := true }
def FnReorderBuffersUptoSaid : Prop := fnReorderBuffersUptoRow.holds Try.pinned (OpenSpec.upto fnReorderBuffersSpec)

/-- 'laws.FnExactNewReorderBuffer', WHERE WHAT IT READS IS OF BULK AT MOST 1048576: true; the input reads as it did. -/
def fnExactNewReorderBufferUptoRow : OpenClaim := { program := "ytmmhleobgpgliaa", sum := "dcd832b3acad93ae467380d7f3e9c57443413d45d3c608ec3be71dbf17850a02", func := "loop.example/g00511/laws.FnExactNewReorderBuffer", spec := "fnExactNewReorderBuffer", apart := false, narrowed := true }
def FnExactNewReorderBufferUptoSaid : Prop := fnExactNewReorderBufferUptoRow.holds Try.pinned (OpenSpec.upto fnExactNewReorderBufferSpec)

/-- 'laws.FnExactIsValidReorderBuffer', WHERE WHAT IT READS IS OF BULK AT MOST 1048576: true; the input reads as it did. -/
def fnExactIsValidReorderBufferUptoRow : OpenClaim := { program := "ytmmhleobgpgliaa", sum := "dcd832b3acad93ae467380d7f3e9c57443413d45d3c608ec3be71dbf17850a02", func := "loop.example/g00511/laws.FnExactIsValidReorderBuffer", spec := "fnExactIsValidReorderBuffer", apart := false, narrowed := true }
def FnExactIsValidReorderBufferUptoSaid : Prop := fnExactIsValidReorderBufferUptoRow.holds Try.pinned (OpenSpec.upto fnExactIsValidReorderBufferSpec)

/-- 'laws.FnExactReceiveNumbered', WHERE WHAT IT READS IS OF BULK AT MOST 1048576: true; the input reads as it did. -/
def fnExactReceiveNumberedUptoRow : OpenClaim := { program := "ytmmhleobgpgliaa", sum := "dcd832b3acad93ae467380d7f3e9c57443413d45d3c608ec3be71dbf17850a02", func := "loop.example/g00511/laws.FnExactReceiveNumbered", spec := "fnExactReceiveNumbered", apart := false, narrowed := true }
def FnExactReceiveNumberedUptoSaid : Prop := fnExactReceiveNumberedUptoRow.holds Try.pinned (OpenSpec.upto fnExactReceiveNumberedSpec)

/-- 'laws.FnExactMoveStart', WHERE WHAT IT READS IS OF BULK AT MOST 1048576: true; the input reads as it did. -/
def fnExactMoveStartUptoRow : OpenClaim := { program := "ytmmhleobgpgliaa", sum := "dcd832b3acad93ae467380d7f3e9c57443413d45d3c608ec3be71dbf17850a02", func := "loop.example/g00511/laws.FnExactMoveStart", spec := "fnExactMoveStart", apart := false, narrowed := true }
def FnExactMoveStartUptoSaid : Prop := fnExactMoveStartUptoRow.holds Try.pinned (OpenSpec.upto fnExactMoveStartSpec)

/-- 'laws.FnExactBlockAckOf', WHERE WHAT IT READS IS OF BULK AT MOST 1048576: true; the input reads as it did. -/
def fnExactBlockAckOfUptoRow : OpenClaim := { program := "ytmmhleobgpgliaa", sum := "dcd832b3acad93ae467380d7f3e9c57443413d45d3c608ec3be71dbf17850a02", func := "loop.example/g00511/laws.FnExactBlockAckOf", spec := "fnExactBlockAckOf", apart := false, narrowed := true }
def FnExactBlockAckOfUptoSaid : Prop := fnExactBlockAckOfUptoRow.holds Try.pinned (OpenSpec.upto fnExactBlockAckOfSpec)

/-- 'laws.FnExactMissingNumbers', WHERE WHAT IT READS IS OF BULK AT MOST 1048576: true; the input reads as it did. -/
def fnExactMissingNumbersUptoRow : OpenClaim := { program := "ytmmhleobgpgliaa", sum := "dcd832b3acad93ae467380d7f3e9c57443413d45d3c608ec3be71dbf17850a02", func := "loop.example/g00511/laws.FnExactMissingNumbers", spec := "fnExactMissingNumbers", apart := false, narrowed := true }
def FnExactMissingNumbersUptoSaid : Prop := fnExactMissingNumbersUptoRow.holds Try.pinned (OpenSpec.upto fnExactMissingNumbersSpec)

/-- 'laws.FnExactEqualReorderBuffers', WHERE WHAT IT READS IS OF BULK AT MOST 1048576: true; the input reads as it did. -/
def fnExactEqualReorderBuffersUptoRow : OpenClaim := { program := "ytmmhleobgpgliaa", sum := "dcd832b3acad93ae467380d7f3e9c57443413d45d3c608ec3be71dbf17850a02", func := "loop.example/g00511/laws.FnExactEqualReorderBuffers", spec := "fnExactEqualReorderBuffers", unfollowed := true, recurses := true, apart := false, narrowed := true }
def FnExactEqualReorderBuffersUptoSaid : Prop := fnExactEqualReorderBuffersUptoRow.holds Try.pinned (OpenSpec.upto fnExactEqualReorderBuffersSpec)

end Rows
end Go.Proofs.Ytmmhleobgpgliaa
