/-
  No cell of these rows narrows 'for every input' (looked for: loops, veiled, ifaces, maps, wideKeys, modest, calm, conditions, laid).
  DERIVED. THE GIVEN ROWS OF THIS SEAT. 9 by the template 'for every input the law returns true; each argument reads behind the call as it read before'; 0 by the template 'total and deterministic' (their statements: YthbmnhbnoipdfaaTotals.lean).
  GIVEN WITH THE SEED: the statements are not yours to turn. If you find one false, say at which input.
  Laid BY PROGRAM, IN A SANDBOX (cutbox-rows.mjs): the forced cells as the released guide's own fill.sh prints them over the translation 82d698aa909be74c… (all of the seat's roots in one cut). By AI agents, Wed Nov 11 2026. No macro, syntax, notation, axiom, sorry.
-/
import Derived.Test.YthbmnhbnoipdfaaChecked
import GoSem.Claim
import GoSem.ClaimJoined
import GoSem.ClaimMapViews
import Derived.JoinedTies
import Derived.KernelRfl
namespace Go.Proofs.Ythbmnhbnoipdfaa
/- THE CELL 'sum', in the pinned program and in every row, IS THE sha256 OF THE DUMP (.gsa) THAT YthbmnhbnoipdfaaProg.lean LOADS. Nothing in Lean hashes anything: it is a label: what it is worth is what the hold of that sum in a sandbox is worth. -/
noncomputable def Try.pinned : Pinned := { name := "ythbmnhbnoipdfaa", sum := "82d698aa909be74ca5cbad33e9bba8de8cf332a875bfbc5a15843ba054bdd063", checked := Try.checked }
namespace Rows
def none {H : Type} : Left H := { results := [], args := [] }

/-- 'laws.FnBlockSenders': WHATEVER THE INPUT: true; the input reads as it did. -/
def fnBlockSendersSpec : ChangeSpec := { name := "fnBlockSenders", fn := fun _ => fun
  | [d] => { results := [.lit (.bool true)], args := [d] }
  | _ => none }
def fnBlockSendersRow : OpenClaim := { program := "ythbmnhbnoipdfaa", sum := "82d698aa909be74ca5cbad33e9bba8de8cf332a875bfbc5a15843ba054bdd063", func := "loop.example/g00511/laws.FnBlockSenders", spec := "fnBlockSenders", unfollowed := true, recurses := true, apart := false }
def FnBlockSendersSaid : Prop := fnBlockSendersRow.holds Try.pinned (OpenSpec.ofChange fnBlockSendersSpec)

/-- ITS FALSE NEIGHBOUR: 'it returns false'. Refute it at one input. -/
def fnBlockSendersWrong : ChangeSpec := { name := "fnBlockSenders", fn := fun _ => fun
  | [d] => { results := [.lit (.bool false)], args := [d] }
  | _ => none }
def FnBlockSendersWrongFalsely : Prop := fnBlockSendersRow.holds Try.pinned (OpenSpec.ofChange fnBlockSendersWrong)

/-- 'laws.FnExactNewBlockSender': WHATEVER THE INPUT: true; the input reads as it did. -/
def fnExactNewBlockSenderSpec : ChangeSpec := { name := "fnExactNewBlockSender", fn := fun _ => fun
  | [d] => { results := [.lit (.bool true)], args := [d] }
  | _ => none }
def fnExactNewBlockSenderRow : OpenClaim := { program := "ythbmnhbnoipdfaa", sum := "82d698aa909be74ca5cbad33e9bba8de8cf332a875bfbc5a15843ba054bdd063", func := "loop.example/g00511/laws.FnExactNewBlockSender", spec := "fnExactNewBlockSender", apart := false }
def FnExactNewBlockSenderSaid : Prop := fnExactNewBlockSenderRow.holds Try.pinned (OpenSpec.ofChange fnExactNewBlockSenderSpec)

/-- ITS FALSE NEIGHBOUR: 'it returns false'. Refute it at one input. -/
def fnExactNewBlockSenderWrong : ChangeSpec := { name := "fnExactNewBlockSender", fn := fun _ => fun
  | [d] => { results := [.lit (.bool false)], args := [d] }
  | _ => none }
def FnExactNewBlockSenderWrongFalsely : Prop := fnExactNewBlockSenderRow.holds Try.pinned (OpenSpec.ofChange fnExactNewBlockSenderWrong)

/-- 'laws.FnExactIsValidBlockSender': WHATEVER THE INPUT: true; the input reads as it did. -/
def fnExactIsValidBlockSenderSpec : ChangeSpec := { name := "fnExactIsValidBlockSender", fn := fun _ => fun
  | [d] => { results := [.lit (.bool true)], args := [d] }
  | _ => none }
def fnExactIsValidBlockSenderRow : OpenClaim := { program := "ythbmnhbnoipdfaa", sum := "82d698aa909be74ca5cbad33e9bba8de8cf332a875bfbc5a15843ba054bdd063", func := "loop.example/g00511/laws.FnExactIsValidBlockSender", spec := "fnExactIsValidBlockSender", apart := false }
def FnExactIsValidBlockSenderSaid : Prop := fnExactIsValidBlockSenderRow.holds Try.pinned (OpenSpec.ofChange fnExactIsValidBlockSenderSpec)

/-- ITS FALSE NEIGHBOUR: 'it returns false'. Refute it at one input. -/
def fnExactIsValidBlockSenderWrong : ChangeSpec := { name := "fnExactIsValidBlockSender", fn := fun _ => fun
  | [d] => { results := [.lit (.bool false)], args := [d] }
  | _ => none }
def FnExactIsValidBlockSenderWrongFalsely : Prop := fnExactIsValidBlockSenderRow.holds Try.pinned (OpenSpec.ofChange fnExactIsValidBlockSenderWrong)

/-- 'laws.FnExactIsValidBlockAck': WHATEVER THE INPUT: true; the input reads as it did. -/
def fnExactIsValidBlockAckSpec : ChangeSpec := { name := "fnExactIsValidBlockAck", fn := fun _ => fun
  | [d] => { results := [.lit (.bool true)], args := [d] }
  | _ => none }
def fnExactIsValidBlockAckRow : OpenClaim := { program := "ythbmnhbnoipdfaa", sum := "82d698aa909be74ca5cbad33e9bba8de8cf332a875bfbc5a15843ba054bdd063", func := "loop.example/g00511/laws.FnExactIsValidBlockAck", spec := "fnExactIsValidBlockAck", apart := false }
def FnExactIsValidBlockAckSaid : Prop := fnExactIsValidBlockAckRow.holds Try.pinned (OpenSpec.ofChange fnExactIsValidBlockAckSpec)

/-- ITS FALSE NEIGHBOUR: 'it returns false'. Refute it at one input. -/
def fnExactIsValidBlockAckWrong : ChangeSpec := { name := "fnExactIsValidBlockAck", fn := fun _ => fun
  | [d] => { results := [.lit (.bool false)], args := [d] }
  | _ => none }
def FnExactIsValidBlockAckWrongFalsely : Prop := fnExactIsValidBlockAckRow.holds Try.pinned (OpenSpec.ofChange fnExactIsValidBlockAckWrong)

/-- 'laws.FnExactSendNext': WHATEVER THE INPUT: true; the input reads as it did. -/
def fnExactSendNextSpec : ChangeSpec := { name := "fnExactSendNext", fn := fun _ => fun
  | [d] => { results := [.lit (.bool true)], args := [d] }
  | _ => none }
def fnExactSendNextRow : OpenClaim := { program := "ythbmnhbnoipdfaa", sum := "82d698aa909be74ca5cbad33e9bba8de8cf332a875bfbc5a15843ba054bdd063", func := "loop.example/g00511/laws.FnExactSendNext", spec := "fnExactSendNext", apart := false }
def FnExactSendNextSaid : Prop := fnExactSendNextRow.holds Try.pinned (OpenSpec.ofChange fnExactSendNextSpec)

/-- ITS FALSE NEIGHBOUR: 'it returns false'. Refute it at one input. -/
def fnExactSendNextWrong : ChangeSpec := { name := "fnExactSendNext", fn := fun _ => fun
  | [d] => { results := [.lit (.bool false)], args := [d] }
  | _ => none }
def FnExactSendNextWrongFalsely : Prop := fnExactSendNextRow.holds Try.pinned (OpenSpec.ofChange fnExactSendNextWrong)

/-- 'laws.FnExactOutstanding': WHATEVER THE INPUT: true; the input reads as it did. -/
def fnExactOutstandingSpec : ChangeSpec := { name := "fnExactOutstanding", fn := fun _ => fun
  | [d] => { results := [.lit (.bool true)], args := [d] }
  | _ => none }
def fnExactOutstandingRow : OpenClaim := { program := "ythbmnhbnoipdfaa", sum := "82d698aa909be74ca5cbad33e9bba8de8cf332a875bfbc5a15843ba054bdd063", func := "loop.example/g00511/laws.FnExactOutstanding", spec := "fnExactOutstanding", apart := false }
def FnExactOutstandingSaid : Prop := fnExactOutstandingRow.holds Try.pinned (OpenSpec.ofChange fnExactOutstandingSpec)

/-- ITS FALSE NEIGHBOUR: 'it returns false'. Refute it at one input. -/
def fnExactOutstandingWrong : ChangeSpec := { name := "fnExactOutstanding", fn := fun _ => fun
  | [d] => { results := [.lit (.bool false)], args := [d] }
  | _ => none }
def FnExactOutstandingWrongFalsely : Prop := fnExactOutstandingRow.holds Try.pinned (OpenSpec.ofChange fnExactOutstandingWrong)

/-- 'laws.FnExactReceiveBlockAck': WHATEVER THE INPUT: true; the input reads as it did. -/
def fnExactReceiveBlockAckSpec : ChangeSpec := { name := "fnExactReceiveBlockAck", fn := fun _ => fun
  | [d1, d2] => { results := [.lit (.bool true)], args := [d1, d2] }
  | _ => none }
def fnExactReceiveBlockAckRow : OpenClaim := { program := "ythbmnhbnoipdfaa", sum := "82d698aa909be74ca5cbad33e9bba8de8cf332a875bfbc5a15843ba054bdd063", func := "loop.example/g00511/laws.FnExactReceiveBlockAck", spec := "fnExactReceiveBlockAck", unfollowed := true, recurses := true, apart := false }
def FnExactReceiveBlockAckSaid : Prop := fnExactReceiveBlockAckRow.holds Try.pinned (OpenSpec.ofChange fnExactReceiveBlockAckSpec)

/-- ITS FALSE NEIGHBOUR: 'it returns false'. Refute it at one input. -/
def fnExactReceiveBlockAckWrong : ChangeSpec := { name := "fnExactReceiveBlockAck", fn := fun _ => fun
  | [d1, d2] => { results := [.lit (.bool false)], args := [d1, d2] }
  | _ => none }
def FnExactReceiveBlockAckWrongFalsely : Prop := fnExactReceiveBlockAckRow.holds Try.pinned (OpenSpec.ofChange fnExactReceiveBlockAckWrong)

/-- 'laws.FnExactGiveUp': WHATEVER THE INPUT: true; the input reads as it did. -/
def fnExactGiveUpSpec : ChangeSpec := { name := "fnExactGiveUp", fn := fun _ => fun
  | [d1, d2] => { results := [.lit (.bool true)], args := [d1, d2] }
  | _ => none }
def fnExactGiveUpRow : OpenClaim := { program := "ythbmnhbnoipdfaa", sum := "82d698aa909be74ca5cbad33e9bba8de8cf332a875bfbc5a15843ba054bdd063", func := "loop.example/g00511/laws.FnExactGiveUp", spec := "fnExactGiveUp", unfollowed := true, recurses := true, apart := false }
def FnExactGiveUpSaid : Prop := fnExactGiveUpRow.holds Try.pinned (OpenSpec.ofChange fnExactGiveUpSpec)

/-- ITS FALSE NEIGHBOUR: 'it returns false'. Refute it at one input. -/
def fnExactGiveUpWrong : ChangeSpec := { name := "fnExactGiveUp", fn := fun _ => fun
  | [d1, d2] => { results := [.lit (.bool false)], args := [d1, d2] }
  | _ => none }
def FnExactGiveUpWrongFalsely : Prop := fnExactGiveUpRow.holds Try.pinned (OpenSpec.ofChange fnExactGiveUpWrong)

/-- 'laws.FnExactIsDone': WHATEVER THE INPUT: true; the input reads as it did. -/
def fnExactIsDoneSpec : ChangeSpec := { name := "fnExactIsDone", fn := fun _ => fun
  | [d] => { results := [.lit (.bool true)], args := [d] }
  | _ => none }
def fnExactIsDoneRow : OpenClaim := { program := "ythbmnhbnoipdfaa", sum := "82d698aa909be74ca5cbad33e9bba8de8cf332a875bfbc5a15843ba054bdd063", func := "loop.example/g00511/laws.FnExactIsDone", spec := "fnExactIsDone", apart := false }
def FnExactIsDoneSaid : Prop := fnExactIsDoneRow.holds Try.pinned (OpenSpec.ofChange fnExactIsDoneSpec)

/-- ITS FALSE NEIGHBOUR: 'it returns false'. Refute it at one input. -/
def fnExactIsDoneWrong : ChangeSpec := { name := "fnExactIsDone", fn := fun _ => fun
  | [d] => { results := [.lit (.bool false)], args := [d] }
  | _ => none }
def FnExactIsDoneWrongFalsely : Prop := fnExactIsDoneRow.holds Try.pinned (OpenSpec.ofChange fnExactIsDoneWrong)

/- THE SECOND FORM. 'bulk': how many values and letters a reading holds, each counted each time it is reached (what is shared counts as often as it is met; a slice's spare places count too). A statement '..UptoSaid' is the law's where the arguments, and the package variables that the reading takes, are together of bulk at most 1048576: NARROWER than '..Said'. Prove '..Said' where nothing that the law and all that it calls make is longer than what came in: it says more and counts as full. Else prove '..UptoSaid'. A law counts once. -/
mutual
def uptoBulk {H : Type} : DataW H → Nat
  | .lit (.string bytes) => bytes.length + 1
  | .lit _ => 1
  | .nil => 1
  | .ptr d => uptoBulk d + 1
  | .slice elems spare => uptoBulkAll elems + uptoBulkAll spare + 1
  | .agg parts => uptoBulkAll parts + 1
  | .iface _ d => uptoBulk d + 1
  | .map entries => uptoBulkEntries entries + 1
  | .held _ => 1
def uptoBulkAll {H : Type} : List (DataW H) → Nat
  | [] => 0
  | d :: r => uptoBulk d + uptoBulkAll r
def uptoBulkEntries {H : Type} : List (Lit × DataW H) → Nat
  | [] => 0
  | x :: r => uptoBulkEntry x + uptoBulkEntries r
def uptoBulkEntry {H : Type} : Lit × DataW H → Nat
  | (.string bytes, d) => bytes.length + uptoBulk d + 1
  | (_, d) => uptoBulk d + 1
 end
def uptoSmall : (H : Type) → List (DataW H) → Bool := fun _ ds => decide (uptoBulkAll ds ≤ 1048576)
def OpenSpec.upto (s : _root_.Go.ChangeSpec) : _root_.Go.OpenSpec := { _root_.Go.OpenSpec.ofChange s with cond := some uptoSmall }

/-- 'laws.FnBlockSenders', WHERE WHAT IT READS IS OF BULK AT MOST 1048576: true; the input reads as it did. -/
def fnBlockSendersUptoRow : OpenClaim := { program := "ythbmnhbnoipdfaa", sum := "82d698aa909be74ca5cbad33e9bba8de8cf332a875bfbc5a15843ba054bdd063", func := "loop.example/g00511/laws.FnBlockSenders", spec := "fnBlockSenders", unfollowed := true, recurses := true, apart := false, narrowed := true }
def FnBlockSendersUptoSaid : Prop := fnBlockSendersUptoRow.holds Try.pinned (OpenSpec.upto fnBlockSendersSpec)

/-- 'laws.FnExactNewBlockSender', WHERE WHAT IT READS IS OF BULK AT MOST 1048576: true; the input reads as it did. -/
def fnExactNewBlockSenderUptoRow : OpenClaim := { program := "ythbmnhbnoipdfaa", sum := "82d698aa909be74ca5cbad33e9bba8de8cf332a875bfbc5a15843ba054bdd063", func := "loop.example/g00511/laws.FnExactNewBlockSender", spec := "fnExactNewBlockSender", apart := false, narrowed := true }
def FnExactNewBlockSenderUptoSaid : Prop := fnExactNewBlockSenderUptoRow.holds Try.pinned (OpenSpec.upto fnExactNewBlockSenderSpec)

/-- 'laws.FnExactIsValidBlockSender', WHERE WHAT IT READS IS OF BULK AT MOST 1048576: true; the input reads as it did. -/
def fnExactIsValidBlockSenderUptoRow : OpenClaim := { program := "ythbmnhbnoipdfaa", sum := "82d698aa909be74ca5cbad33e9bba8de8cf332a875bfbc5a15843ba054bdd063", func := "loop.example/g00511/laws.FnExactIsValidBlockSender", spec := "fnExactIsValidBlockSender", apart := false, narrowed := true }
def FnExactIsValidBlockSenderUptoSaid : Prop := fnExactIsValidBlockSenderUptoRow.holds Try.pinned (OpenSpec.upto fnExactIsValidBlockSenderSpec)

/-- 'laws.FnExactIsValidBlockAck', WHERE WHAT IT READS IS OF BULK AT MOST 1048576: true; the input reads as it did. -/
def fnExactIsValidBlockAckUptoRow : OpenClaim := { program := "ythbmnhbnoipdfaa", sum := "82d698aa909be74ca5cbad33e9bba8de8cf332a875bfbc5a15843ba054bdd063", func := "loop.example/g00511/laws.FnExactIsValidBlockAck", spec := "fnExactIsValidBlockAck", apart := false, narrowed := true }
def FnExactIsValidBlockAckUptoSaid : Prop := fnExactIsValidBlockAckUptoRow.holds Try.pinned (OpenSpec.upto fnExactIsValidBlockAckSpec)

/-- 'laws.FnExactSendNext', WHERE WHAT IT READS IS OF BULK AT MOST 1048576: true; the input reads as it did. -/
def fnExactSendNextUptoRow : OpenClaim := { program := "ythbmnhbnoipdfaa", sum := "82d698aa909be74ca5cbad33e9bba8de8cf332a875bfbc5a15843ba054bdd063", func := "loop.example/g00511/laws.FnExactSendNext", spec := "fnExactSendNext", apart := false, narrowed := true }
def FnExactSendNextUptoSaid : Prop := fnExactSendNextUptoRow.holds Try.pinned (OpenSpec.upto fnExactSendNextSpec)

/-- 'laws.FnExactOutstanding', WHERE WHAT IT READS IS OF BULK AT MOST 1048576: true; the input reads as it did. -/
def fnExactOutstandingUptoRow : OpenClaim := { program := "ythbmnhbnoipdfaa", sum := "82d698aa909be74ca5cbad33e9bba8de8cf332a875bfbc5a15843ba054bdd063", func := "loop.example/g00511/laws.FnExactOutstanding", spec := "fnExactOutstanding", apart := false, narrowed := true }
def FnExactOutstandingUptoSaid : Prop := fnExactOutstandingUptoRow.holds Try.pinned (OpenSpec.upto fnExactOutstandingSpec)

/-- 'laws.FnExactReceiveBlockAck', WHERE WHAT IT READS IS OF BULK AT MOST 1048576: true; the input reads as it did. -/
def fnExactReceiveBlockAckUptoRow : OpenClaim := { program := "ythbmnhbnoipdfaa", sum := "82d698aa909be74ca5cbad33e9bba8de8cf332a875bfbc5a15843ba054bdd063", func := "loop.example/g00511/laws.FnExactReceiveBlockAck", spec := "fnExactReceiveBlockAck", unfollowed := true, recurses := true, apart := false, narrowed := true }
def FnExactReceiveBlockAckUptoSaid : Prop := fnExactReceiveBlockAckUptoRow.holds Try.pinned (OpenSpec.upto fnExactReceiveBlockAckSpec)

/-- 'laws.FnExactGiveUp', WHERE WHAT IT READS IS OF BULK AT MOST 1048576: true; the input reads as it did. -/
def fnExactGiveUpUptoRow : OpenClaim := { program := "ythbmnhbnoipdfaa", sum := "82d698aa909be74ca5cbad33e9bba8de8cf332a875bfbc5a15843ba054bdd063", func := "loop.example/g00511/laws.FnExactGiveUp", spec := "fnExactGiveUp", unfollowed := true, recurses := true, apart := false, narrowed := true }
def FnExactGiveUpUptoSaid : Prop := fnExactGiveUpUptoRow.holds Try.pinned (OpenSpec.upto fnExactGiveUpSpec)

/-- 'laws.FnExactIsDone', WHERE WHAT IT READS IS OF BULK AT MOST 1048576: true; the input reads as it did. -/
def fnExactIsDoneUptoRow : OpenClaim := { program := "ythbmnhbnoipdfaa", sum := "82d698aa909be74ca5cbad33e9bba8de8cf332a875bfbc5a15843ba054bdd063", func := "loop.example/g00511/laws.FnExactIsDone", spec := "fnExactIsDone", apart := false, narrowed := true }
def FnExactIsDoneUptoSaid : Prop := fnExactIsDoneUptoRow.holds Try.pinned (OpenSpec.upto fnExactIsDoneSpec)

end Rows
end Go.Proofs.Ythbmnhbnoipdfaa
