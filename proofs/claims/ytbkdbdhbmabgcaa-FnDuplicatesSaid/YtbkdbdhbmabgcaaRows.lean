/-
  No cell of these rows narrows 'for every input' (looked for: loops, veiled, ifaces, maps, wideKeys, modest, calm, conditions, laid).
  DERIVED. THE GIVEN ROWS OF THIS SEAT. 10 by the template 'for every input the law returns true; each argument reads behind the call as it read before'; 0 by the template 'total and deterministic' (their statements: YtbkdbdhbmabgcaaTotals.lean).
  GIVEN WITH THE SEED: the statements are not yours to turn. If you find one false, say at which input.
  Laid BY PROGRAM, IN A SANDBOX (cutbox-rows.mjs): the forced cells as the released guide's own fill.sh prints them over the translation 9c17cb6e100fc9c6… (all of the seat's roots in one cut). By AI agents, Wed Nov 11 2026. No macro, syntax, notation, axiom, sorry.
-/
import Derived.Test.YtbkdbdhbmabgcaaChecked
import GoSem.Claim
import GoSem.ClaimJoined
import GoSem.ClaimMapViews
import Derived.JoinedTies
import Derived.KernelRfl
namespace Go.Proofs.Ytbkdbdhbmabgcaa
/- THE CELL 'sum', in the pinned program and in every row, IS THE sha256 OF THE DUMP (.gsa) THAT YtbkdbdhbmabgcaaProg.lean LOADS. Nothing in Lean hashes anything: it is a label: what it is worth is what the hold of that sum in a sandbox is worth. -/
noncomputable def Try.pinned : Pinned := { name := "ytbkdbdhbmabgcaa", sum := "9c17cb6e100fc9c6965265d4d5a0deea4c3bb279076530f2c479a08b06405d0c", checked := Try.checked }
namespace Rows
def none {H : Type} : Left H := { results := [], args := [] }

/-- 'laws.FnFragments': WHATEVER THE INPUT: true; the input reads as it did. -/
def fnFragmentsSpec : ChangeSpec := { name := "fnFragments", fn := fun _ => fun
  | [d] => { results := [.lit (.bool true)], args := [d] }
  | _ => none }
def fnFragmentsRow : OpenClaim := { program := "ytbkdbdhbmabgcaa", sum := "9c17cb6e100fc9c6965265d4d5a0deea4c3bb279076530f2c479a08b06405d0c", func := "loop.example/g00511/laws.FnFragments", spec := "fnFragments", unfollowed := true, recurses := true, plainKeys := false, apart := false }
def FnFragmentsSaid : Prop := fnFragmentsRow.holds Try.pinned (OpenSpec.ofChange fnFragmentsSpec)

/-- ITS FALSE NEIGHBOUR: 'it returns false'. Refute it at one input. -/
def fnFragmentsWrong : ChangeSpec := { name := "fnFragments", fn := fun _ => fun
  | [d] => { results := [.lit (.bool false)], args := [d] }
  | _ => none }
def FnFragmentsWrongFalsely : Prop := fnFragmentsRow.holds Try.pinned (OpenSpec.ofChange fnFragmentsWrong)

/-- 'laws.FnDuplicates': WHATEVER THE INPUT: true; the input reads as it did. -/
def fnDuplicatesSpec : ChangeSpec := { name := "fnDuplicates", fn := fun _ => fun
  | [d] => { results := [.lit (.bool true)], args := [d] }
  | _ => none }
def fnDuplicatesRow : OpenClaim := { program := "ytbkdbdhbmabgcaa", sum := "9c17cb6e100fc9c6965265d4d5a0deea4c3bb279076530f2c479a08b06405d0c", func := "loop.example/g00511/laws.FnDuplicates", spec := "fnDuplicates", unfollowed := true, recurses := true, plainKeys := false, apart := false }
def FnDuplicatesSaid : Prop := fnDuplicatesRow.holds Try.pinned (OpenSpec.ofChange fnDuplicatesSpec)

/-- ITS FALSE NEIGHBOUR: 'it returns false'. Refute it at one input. -/
def fnDuplicatesWrong : ChangeSpec := { name := "fnDuplicates", fn := fun _ => fun
  | [d] => { results := [.lit (.bool false)], args := [d] }
  | _ => none }
def FnDuplicatesWrongFalsely : Prop := fnDuplicatesRow.holds Try.pinned (OpenSpec.ofChange fnDuplicatesWrong)

/-- 'laws.FnSequenceNumbers': WHATEVER THE INPUT: true; the input reads as it did. -/
def fnSequenceNumbersSpec : ChangeSpec := { name := "fnSequenceNumbers", fn := fun _ => fun
  | [d] => { results := [.lit (.bool true)], args := [d] }
  | _ => none }
def fnSequenceNumbersRow : OpenClaim := { program := "ytbkdbdhbmabgcaa", sum := "9c17cb6e100fc9c6965265d4d5a0deea4c3bb279076530f2c479a08b06405d0c", func := "loop.example/g00511/laws.FnSequenceNumbers", spec := "fnSequenceNumbers", plainKeys := false, apart := false }
def FnSequenceNumbersSaid : Prop := fnSequenceNumbersRow.holds Try.pinned (OpenSpec.ofChange fnSequenceNumbersSpec)

/-- ITS FALSE NEIGHBOUR: 'it returns false'. Refute it at one input. -/
def fnSequenceNumbersWrong : ChangeSpec := { name := "fnSequenceNumbers", fn := fun _ => fun
  | [d] => { results := [.lit (.bool false)], args := [d] }
  | _ => none }
def FnSequenceNumbersWrongFalsely : Prop := fnSequenceNumbersRow.holds Try.pinned (OpenSpec.ofChange fnSequenceNumbersWrong)

/-- 'laws.FnExactAreValidSeen': WHATEVER THE INPUT: true; the input reads as it did. -/
def fnExactAreValidSeenSpec : ChangeSpec := { name := "fnExactAreValidSeen", fn := fun _ => fun
  | [d] => { results := [.lit (.bool true)], args := [d] }
  | _ => none }
def fnExactAreValidSeenRow : OpenClaim := { program := "ytbkdbdhbmabgcaa", sum := "9c17cb6e100fc9c6965265d4d5a0deea4c3bb279076530f2c479a08b06405d0c", func := "loop.example/g00511/laws.FnExactAreValidSeen", spec := "fnExactAreValidSeen", plainKeys := false, apart := false }
def FnExactAreValidSeenSaid : Prop := fnExactAreValidSeenRow.holds Try.pinned (OpenSpec.ofChange fnExactAreValidSeenSpec)

/-- ITS FALSE NEIGHBOUR: 'it returns false'. Refute it at one input. -/
def fnExactAreValidSeenWrong : ChangeSpec := { name := "fnExactAreValidSeen", fn := fun _ => fun
  | [d] => { results := [.lit (.bool false)], args := [d] }
  | _ => none }
def FnExactAreValidSeenWrongFalsely : Prop := fnExactAreValidSeenRow.holds Try.pinned (OpenSpec.ofChange fnExactAreValidSeenWrong)

/-- 'laws.FnExactIsDuplicate': WHATEVER THE INPUT: true; the input reads as it did. -/
def fnExactIsDuplicateSpec : ChangeSpec := { name := "fnExactIsDuplicate", fn := fun _ => fun
  | [d1, d2, d3] => { results := [.lit (.bool true)], args := [d1, d2, d3] }
  | _ => none }
def fnExactIsDuplicateRow : OpenClaim := { program := "ytbkdbdhbmabgcaa", sum := "9c17cb6e100fc9c6965265d4d5a0deea4c3bb279076530f2c479a08b06405d0c", func := "loop.example/g00511/laws.FnExactIsDuplicate", spec := "fnExactIsDuplicate", unfollowed := true, recurses := true, plainKeys := false, apart := false }
def FnExactIsDuplicateSaid : Prop := fnExactIsDuplicateRow.holds Try.pinned (OpenSpec.ofChange fnExactIsDuplicateSpec)

/-- ITS FALSE NEIGHBOUR: 'it returns false'. Refute it at one input. -/
def fnExactIsDuplicateWrong : ChangeSpec := { name := "fnExactIsDuplicate", fn := fun _ => fun
  | [d1, d2, d3] => { results := [.lit (.bool false)], args := [d1, d2, d3] }
  | _ => none }
def FnExactIsDuplicateWrongFalsely : Prop := fnExactIsDuplicateRow.holds Try.pinned (OpenSpec.ofChange fnExactIsDuplicateWrong)

/-- 'laws.FnExactRememberFrame': WHATEVER THE INPUT: true; the input reads as it did. -/
def fnExactRememberFrameSpec : ChangeSpec := { name := "fnExactRememberFrame", fn := fun _ => fun
  | [d1, d2, d3] => { results := [.lit (.bool true)], args := [d1, d2, d3] }
  | _ => none }
def fnExactRememberFrameRow : OpenClaim := { program := "ytbkdbdhbmabgcaa", sum := "9c17cb6e100fc9c6965265d4d5a0deea4c3bb279076530f2c479a08b06405d0c", func := "loop.example/g00511/laws.FnExactRememberFrame", spec := "fnExactRememberFrame", unfollowed := true, recurses := true, plainKeys := false, apart := false }
def FnExactRememberFrameSaid : Prop := fnExactRememberFrameRow.holds Try.pinned (OpenSpec.ofChange fnExactRememberFrameSpec)

/-- ITS FALSE NEIGHBOUR: 'it returns false'. Refute it at one input. -/
def fnExactRememberFrameWrong : ChangeSpec := { name := "fnExactRememberFrame", fn := fun _ => fun
  | [d1, d2, d3] => { results := [.lit (.bool false)], args := [d1, d2, d3] }
  | _ => none }
def FnExactRememberFrameWrongFalsely : Prop := fnExactRememberFrameRow.holds Try.pinned (OpenSpec.ofChange fnExactRememberFrameWrong)

/-- 'laws.FnExactAcceptFrame': WHATEVER THE INPUT: true; the input reads as it did. -/
def fnExactAcceptFrameSpec : ChangeSpec := { name := "fnExactAcceptFrame", fn := fun _ => fun
  | [d1, d2, d3] => { results := [.lit (.bool true)], args := [d1, d2, d3] }
  | _ => none }
def fnExactAcceptFrameRow : OpenClaim := { program := "ytbkdbdhbmabgcaa", sum := "9c17cb6e100fc9c6965265d4d5a0deea4c3bb279076530f2c479a08b06405d0c", func := "loop.example/g00511/laws.FnExactAcceptFrame", spec := "fnExactAcceptFrame", unfollowed := true, recurses := true, plainKeys := false, apart := false }
def FnExactAcceptFrameSaid : Prop := fnExactAcceptFrameRow.holds Try.pinned (OpenSpec.ofChange fnExactAcceptFrameSpec)

/-- ITS FALSE NEIGHBOUR: 'it returns false'. Refute it at one input. -/
def fnExactAcceptFrameWrong : ChangeSpec := { name := "fnExactAcceptFrame", fn := fun _ => fun
  | [d1, d2, d3] => { results := [.lit (.bool false)], args := [d1, d2, d3] }
  | _ => none }
def FnExactAcceptFrameWrongFalsely : Prop := fnExactAcceptFrameRow.holds Try.pinned (OpenSpec.ofChange fnExactAcceptFrameWrong)

/-- 'laws.FnExactNextSeq': WHATEVER THE INPUT: true; the input reads as it did. -/
def fnExactNextSeqSpec : ChangeSpec := { name := "fnExactNextSeq", fn := fun _ => fun
  | [d] => { results := [.lit (.bool true)], args := [d] }
  | _ => none }
def fnExactNextSeqRow : OpenClaim := { program := "ytbkdbdhbmabgcaa", sum := "9c17cb6e100fc9c6965265d4d5a0deea4c3bb279076530f2c479a08b06405d0c", func := "loop.example/g00511/laws.FnExactNextSeq", spec := "fnExactNextSeq", plainKeys := false, apart := false }
def FnExactNextSeqSaid : Prop := fnExactNextSeqRow.holds Try.pinned (OpenSpec.ofChange fnExactNextSeqSpec)

/-- ITS FALSE NEIGHBOUR: 'it returns false'. Refute it at one input. -/
def fnExactNextSeqWrong : ChangeSpec := { name := "fnExactNextSeq", fn := fun _ => fun
  | [d] => { results := [.lit (.bool false)], args := [d] }
  | _ => none }
def FnExactNextSeqWrongFalsely : Prop := fnExactNextSeqRow.holds Try.pinned (OpenSpec.ofChange fnExactNextSeqWrong)

/-- 'laws.FnExactSeqDistance': WHATEVER THE INPUT: true; the input reads as it did. -/
def fnExactSeqDistanceSpec : ChangeSpec := { name := "fnExactSeqDistance", fn := fun _ => fun
  | [d1, d2] => { results := [.lit (.bool true)], args := [d1, d2] }
  | _ => none }
def fnExactSeqDistanceRow : OpenClaim := { program := "ytbkdbdhbmabgcaa", sum := "9c17cb6e100fc9c6965265d4d5a0deea4c3bb279076530f2c479a08b06405d0c", func := "loop.example/g00511/laws.FnExactSeqDistance", spec := "fnExactSeqDistance", plainKeys := false, apart := false }
def FnExactSeqDistanceSaid : Prop := fnExactSeqDistanceRow.holds Try.pinned (OpenSpec.ofChange fnExactSeqDistanceSpec)

/-- ITS FALSE NEIGHBOUR: 'it returns false'. Refute it at one input. -/
def fnExactSeqDistanceWrong : ChangeSpec := { name := "fnExactSeqDistance", fn := fun _ => fun
  | [d1, d2] => { results := [.lit (.bool false)], args := [d1, d2] }
  | _ => none }
def FnExactSeqDistanceWrongFalsely : Prop := fnExactSeqDistanceRow.holds Try.pinned (OpenSpec.ofChange fnExactSeqDistanceWrong)

/-- 'laws.FnExactIsNewer': WHATEVER THE INPUT: true; the input reads as it did. -/
def fnExactIsNewerSpec : ChangeSpec := { name := "fnExactIsNewer", fn := fun _ => fun
  | [d1, d2] => { results := [.lit (.bool true)], args := [d1, d2] }
  | _ => none }
def fnExactIsNewerRow : OpenClaim := { program := "ytbkdbdhbmabgcaa", sum := "9c17cb6e100fc9c6965265d4d5a0deea4c3bb279076530f2c479a08b06405d0c", func := "loop.example/g00511/laws.FnExactIsNewer", spec := "fnExactIsNewer", plainKeys := false, apart := false }
def FnExactIsNewerSaid : Prop := fnExactIsNewerRow.holds Try.pinned (OpenSpec.ofChange fnExactIsNewerSpec)

/-- ITS FALSE NEIGHBOUR: 'it returns false'. Refute it at one input. -/
def fnExactIsNewerWrong : ChangeSpec := { name := "fnExactIsNewer", fn := fun _ => fun
  | [d1, d2] => { results := [.lit (.bool false)], args := [d1, d2] }
  | _ => none }
def FnExactIsNewerWrongFalsely : Prop := fnExactIsNewerRow.holds Try.pinned (OpenSpec.ofChange fnExactIsNewerWrong)

/- THE SECOND FORM. 'bulk': how many values and letters a reading holds, each counted each time it is reached (what is shared counts as often as it is met; a slice's spare places count too). A statement '..UptoSaid' is the law's where the arguments, and the package variables that the reading takes, are together of bulk at most 1048576: NARROWER than '..Said'. Prove '..Said' where nothing that the law and all that it calls make is longer than what came in: it says more and counts as full. Else prove '..UptoSaid'. A law counts once. -/
mutual
def uptoBulk {H : Type} : DataW H → Nat
  | .lit (.string bytes) => bytes.length + 1
  | .lit _ => 1
  | .nil => 1
  | .ptr d => uptoBulk d + 1
  | .slice elems spare => uptoBulkAll elems + uptoBulkAll spare + 1
  | .agg parts => uptoBulkAll parts + 1
  | .iface _ d => uptoBulk d + 1
  | .map entries => uptoBulkEntries entries + 1
  | .held _ => 1
def uptoBulkAll {H : Type} : List (DataW H) → Nat
  | [] => 0
  | d :: r => uptoBulk d + uptoBulkAll r
def uptoBulkEntries {H : Type} : List (Lit × DataW H) → Nat
  | [] => 0
  | x :: r => uptoBulkEntry x + uptoBulkEntries r
def uptoBulkEntry {H : Type} : Lit × DataW H → Nat
  | (.string bytes, d) => bytes.length + uptoBulk d + 1
  | (_, d) => uptoBulk d + 1
 end
def uptoSmall : (H : Type) → List (DataW H) → Bool := fun _ ds => decide (uptoBulkAll ds ≤ 1048576)
def OpenSpec.upto (s : _root_.Go.ChangeSpec) : _root_.Go.OpenSpec := { _root_.Go.OpenSpec.ofChange s with cond := some uptoSmall }

/-- 'laws.FnFragments', WHERE WHAT IT READS IS OF BULK AT MOST 1048576: true; the input reads as it did. -/
def fnFragmentsUptoRow : OpenClaim := { program := "ytbkdbdhbmabgcaa", sum := "9c17cb6e100fc9c6965265d4d5a0deea4c3bb279076530f2c479a08b06405d0c", func := "loop.example/g00511/laws.FnFragments", spec := "fnFragments", unfollowed := true, recurses := true, plainKeys := false, apart := false, narrowed := true }
def FnFragmentsUptoSaid : Prop := fnFragmentsUptoRow.holds Try.pinned (OpenSpec.upto fnFragmentsSpec)

/-- 'laws.FnDuplicates', WHERE WHAT IT READS IS OF BULK AT MOST 1048576: true; the input reads as it did. -/
def fnDuplicatesUptoRow : OpenClaim := { program := "ytbkdbdhbmabgcaa", sum := "9c17cb6e100fc9c6965265d4d5a0deea4c3bb279076530f2c479a08b06405d0c", func := "loop.example/g00511/laws.FnDuplicates", spec := "fnDuplicates", unfollowed := true, recurses := true, plainKeys := false, apart := false, narrowed := true }
def FnDuplicatesUptoSaid : Prop := fnDuplicatesUptoRow.holds Try.pinned (OpenSpec.upto fnDuplicatesSpec)

/-- 'laws.FnSequenceNumbers', WHERE WHAT IT READS IS OF BULK AT MOST 1048576: true; the input reads as it did. -/
def fnSequenceNumbersUptoRow : OpenClaim := { program := "ytbkdbdhbmabgcaa", sum := "9c17cb6e100fc9c6965265d4d5a0deea4c3bb279076530f2c479a08b06405d0c", func := "loop.example/g00511/laws.FnSequenceNumbers", spec := "fnSequenceNumbers", plainKeys := false, apart := false, narrowed := true }
def FnSequenceNumbersUptoSaid : Prop := fnSequenceNumbersUptoRow.holds Try.pinned (OpenSpec.upto fnSequenceNumbersSpec)

/-- 'laws.FnExactAreValidSeen', WHERE WHAT IT READS IS OF BULK AT MOST 1048576: true; the input reads as it did. -/
def fnExactAreValidSeenUptoRow : OpenClaim := { program := "ytbkdbdhbmabgcaa", sum := "9c17cb6e100fc9c6965265d4d5a0deea4c3bb279076530f2c479a08b06405d0c", func := "loop.example/g00511/laws.FnExactAreValidSeen", spec := "fnExactAreValidSeen", plainKeys := false, apart := false, narrowed := true }
def FnExactAreValidSeenUptoSaid : Prop := fnExactAreValidSeenUptoRow.holds Try.pinned (OpenSpec.upto fnExactAreValidSeenSpec)

/-- 'laws.FnExactIsDuplicate', WHERE WHAT IT READS IS OF BULK AT MOST 1048576: true; the input reads as it did. -/
def fnExactIsDuplicateUptoRow : OpenClaim := { program := "ytbkdbdhbmabgcaa", sum := "9c17cb6e100fc9c6965265d4d5a0deea4c3bb279076530f2c479a08b06405d0c", func := "loop.example/g00511/laws.FnExactIsDuplicate", spec := "fnExactIsDuplicate", unfollowed := true, recurses := true, plainKeys := false, apart := false, narrowed := true }
def FnExactIsDuplicateUptoSaid : Prop := fnExactIsDuplicateUptoRow.holds Try.pinned (OpenSpec.upto fnExactIsDuplicateSpec)

/-- 'laws.FnExactRememberFrame', WHERE WHAT IT READS IS OF BULK AT MOST 1048576: true; the input reads as it did. -/
def fnExactRememberFrameUptoRow : OpenClaim := { program := "ytbkdbdhbmabgcaa", sum := "9c17cb6e100fc9c6965265d4d5a0deea4c3bb279076530f2c479a08b06405d0c", func := "loop.example/g00511/laws.FnExactRememberFrame", spec := "fnExactRememberFrame", unfollowed := true, recurses := true, plainKeys := false, apart := false, narrowed := true }
def FnExactRememberFrameUptoSaid : Prop := fnExactRememberFrameUptoRow.holds Try.pinned (OpenSpec.upto fnExactRememberFrameSpec)

/-- 'laws.FnExactAcceptFrame', WHERE WHAT IT READS IS OF BULK AT MOST 1048576: true; the input reads as it did. -/
def fnExactAcceptFrameUptoRow : OpenClaim := { program := "ytbkdbdhbmabgcaa", sum := "9c17cb6e100fc9c6965265d4d5a0deea4c3bb279076530f2c479a08b06405d0c", func := "loop.example/g00511/laws.FnExactAcceptFrame", spec := "fnExactAcceptFrame", unfollowed := true, recurses := true, plainKeys := false, apart := false, narrowed := true }
def FnExactAcceptFrameUptoSaid : Prop := fnExactAcceptFrameUptoRow.holds Try.pinned (OpenSpec.upto fnExactAcceptFrameSpec)

/-- 'laws.FnExactNextSeq', WHERE WHAT IT READS IS OF BULK AT MOST 1048576: true; the input reads as it did. -/
def fnExactNextSeqUptoRow : OpenClaim := { program := "ytbkdbdhbmabgcaa", sum := "9c17cb6e100fc9c6965265d4d5a0deea4c3bb279076530f2c479a08b06405d0c", func := "loop.example/g00511/laws.FnExactNextSeq", spec := "fnExactNextSeq", plainKeys := false, apart := false, narrowed := true }
def FnExactNextSeqUptoSaid : Prop := fnExactNextSeqUptoRow.holds Try.pinned (OpenSpec.upto fnExactNextSeqSpec)

/-- 'laws.FnExactSeqDistance', WHERE WHAT IT READS IS OF BULK AT MOST 1048576: true; the input reads as it did. -/
def fnExactSeqDistanceUptoRow : OpenClaim := { program := "ytbkdbdhbmabgcaa", sum := "9c17cb6e100fc9c6965265d4d5a0deea4c3bb279076530f2c479a08b06405d0c", func := "loop.example/g00511/laws.FnExactSeqDistance", spec := "fnExactSeqDistance", plainKeys := false, apart := false, narrowed := true }
def FnExactSeqDistanceUptoSaid : Prop := fnExactSeqDistanceUptoRow.holds Try.pinned (OpenSpec.upto fnExactSeqDistanceSpec)

/-- 'laws.FnExactIsNewer', WHERE WHAT IT READS IS OF BULK AT MOST 1048576: true; the input reads as it did. -/
def fnExactIsNewerUptoRow : OpenClaim := { program := "ytbkdbdhbmabgcaa", sum := "9c17cb6e100fc9c6965265d4d5a0deea4c3bb279076530f2c479a08b06405d0c", func := "loop.example/g00511/laws.FnExactIsNewer", spec := "fnExactIsNewer", plainKeys := false, apart := false, narrowed := true }
def FnExactIsNewerUptoSaid : Prop := fnExactIsNewerUptoRow.holds Try.pinned (OpenSpec.upto fnExactIsNewerSpec)

end Rows
end Go.Proofs.Ytbkdbdhbmabgcaa
