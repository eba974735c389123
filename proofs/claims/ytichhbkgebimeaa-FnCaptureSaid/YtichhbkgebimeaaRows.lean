/-
  No cell of these rows narrows 'for every input' (looked for: loops, veiled, ifaces, maps, wideKeys, modest, calm, conditions, laid).
  DERIVED. THE GIVEN ROWS OF THIS SEAT. 9 by the template 'for every input the law returns true; each argument reads behind the call as it read before'; 0 by the template 'total and deterministic' (their statements: YtichhbkgebimeaaTotals.lean).
  GIVEN WITH THE SEED: the statements are not yours to turn. If you find one false, say at which input.
  Laid BY PROGRAM, IN A SANDBOX (cutbox-rows.mjs): the forced cells as the released guide's own fill.sh prints them over the translation 79ce245379c34de8… (all of the seat's roots in one cut). By AI agents, Wed Nov 11 2026. No macro, syntax, notation, axiom, sorry.
-/
import Derived.Test.YtichhbkgebimeaaChecked
import GoSem.Claim
import GoSem.ClaimJoined
import GoSem.ClaimMapViews
import Derived.JoinedTies
import Derived.KernelRfl
namespace Go.Proofs.Ytichhbkgebimeaa
/- THE CELL 'sum', in the pinned program and in every row, IS THE sha256 OF THE DUMP (.gsa) THAT YtichhbkgebimeaaProg.lean LOADS. Nothing in Lean hashes anything: it is a label: what it is worth is what the hold of that sum in a sandbox is worth. -/
noncomputable def Try.pinned : Pinned := { name := "ytichhbkgebimeaa", sum := "79ce245379c34de82a32c29e7430e33793484050ea0056ae905a7d16b9e9bc07", checked := Try.checked }
namespace Rows
def none {H : Type} : Left H := { results := [], args := [] }

/-- 'laws.FnHearing': WHATEVER THE INPUT: true; the input reads as it did. -/
def fnHearingSpec : ChangeSpec := { name := "fnHearing", fn := fun _ => fun
  | [d] => { results := [.lit (.bool true)], args := [d] }
  | _ => none }
def fnHearingRow : OpenClaim := { program := "ytichhbkgebimeaa", sum := "79ce245379c34de82a32c29e7430e33793484050ea0056ae905a7d16b9e9bc07", func := "loop.example/g00511/laws.FnHearing", spec := "fnHearing", apart := false }
def FnHearingSaid : Prop := fnHearingRow.holds Try.pinned (OpenSpec.ofChange fnHearingSpec)

/-- ITS FALSE NEIGHBOUR: 'it returns false'. Refute it at one input. -/
def fnHearingWrong : ChangeSpec := { name := "fnHearing", fn := fun _ => fun
  | [d] => { results := [.lit (.bool false)], args := [d] }
  | _ => none }
def FnHearingWrongFalsely : Prop := fnHearingRow.holds Try.pinned (OpenSpec.ofChange fnHearingWrong)

/-- 'laws.FnCapture': WHATEVER THE INPUT: true; the input reads as it did. -/
def fnCaptureSpec : ChangeSpec := { name := "fnCapture", fn := fun _ => fun
  | [d] => { results := [.lit (.bool true)], args := [d] }
  | _ => none }
def fnCaptureRow : OpenClaim := { program := "ytichhbkgebimeaa", sum := "79ce245379c34de82a32c29e7430e33793484050ea0056ae905a7d16b9e9bc07", func := "loop.example/g00511/laws.FnCapture", spec := "fnCapture", unfollowed := true, recurses := true, apart := false }
def FnCaptureSaid : Prop := fnCaptureRow.holds Try.pinned (OpenSpec.ofChange fnCaptureSpec)

/-- ITS FALSE NEIGHBOUR: 'it returns false'. Refute it at one input. -/
def fnCaptureWrong : ChangeSpec := { name := "fnCapture", fn := fun _ => fun
  | [d] => { results := [.lit (.bool false)], args := [d] }
  | _ => none }
def FnCaptureWrongFalsely : Prop := fnCaptureRow.holds Try.pinned (OpenSpec.ofChange fnCaptureWrong)

/-- 'laws.FnExactIsValidPlacement': WHATEVER THE INPUT: true; the input reads as it did. -/
def fnExactIsValidPlacementSpec : ChangeSpec := { name := "fnExactIsValidPlacement", fn := fun _ => fun
  | [d] => { results := [.lit (.bool true)], args := [d] }
  | _ => none }
def fnExactIsValidPlacementRow : OpenClaim := { program := "ytichhbkgebimeaa", sum := "79ce245379c34de82a32c29e7430e33793484050ea0056ae905a7d16b9e9bc07", func := "loop.example/g00511/laws.FnExactIsValidPlacement", spec := "fnExactIsValidPlacement", apart := false }
def FnExactIsValidPlacementSaid : Prop := fnExactIsValidPlacementRow.holds Try.pinned (OpenSpec.ofChange fnExactIsValidPlacementSpec)

/-- ITS FALSE NEIGHBOUR: 'it returns false'. Refute it at one input. -/
def fnExactIsValidPlacementWrong : ChangeSpec := { name := "fnExactIsValidPlacement", fn := fun _ => fun
  | [d] => { results := [.lit (.bool false)], args := [d] }
  | _ => none }
def FnExactIsValidPlacementWrongFalsely : Prop := fnExactIsValidPlacementRow.holds Try.pinned (OpenSpec.ofChange fnExactIsValidPlacementWrong)

/-- 'laws.FnExactDistance': WHATEVER THE INPUT: true; the input reads as it did. -/
def fnExactDistanceSpec : ChangeSpec := { name := "fnExactDistance", fn := fun _ => fun
  | [d1, d2, d3] => { results := [.lit (.bool true)], args := [d1, d2, d3] }
  | _ => none }
def fnExactDistanceRow : OpenClaim := { program := "ytichhbkgebimeaa", sum := "79ce245379c34de82a32c29e7430e33793484050ea0056ae905a7d16b9e9bc07", func := "loop.example/g00511/laws.FnExactDistance", spec := "fnExactDistance", apart := false }
def FnExactDistanceSaid : Prop := fnExactDistanceRow.holds Try.pinned (OpenSpec.ofChange fnExactDistanceSpec)

/-- ITS FALSE NEIGHBOUR: 'it returns false'. Refute it at one input. -/
def fnExactDistanceWrong : ChangeSpec := { name := "fnExactDistance", fn := fun _ => fun
  | [d1, d2, d3] => { results := [.lit (.bool false)], args := [d1, d2, d3] }
  | _ => none }
def FnExactDistanceWrongFalsely : Prop := fnExactDistanceRow.holds Try.pinned (OpenSpec.ofChange fnExactDistanceWrong)

/-- 'laws.FnExactCanReceive': WHATEVER THE INPUT: true; the input reads as it did. -/
def fnExactCanReceiveSpec : ChangeSpec := { name := "fnExactCanReceive", fn := fun _ => fun
  | [d1, d2, d3] => { results := [.lit (.bool true)], args := [d1, d2, d3] }
  | _ => none }
def fnExactCanReceiveRow : OpenClaim := { program := "ytichhbkgebimeaa", sum := "79ce245379c34de82a32c29e7430e33793484050ea0056ae905a7d16b9e9bc07", func := "loop.example/g00511/laws.FnExactCanReceive", spec := "fnExactCanReceive", apart := false }
def FnExactCanReceiveSaid : Prop := fnExactCanReceiveRow.holds Try.pinned (OpenSpec.ofChange fnExactCanReceiveSpec)

/-- ITS FALSE NEIGHBOUR: 'it returns false'. Refute it at one input. -/
def fnExactCanReceiveWrong : ChangeSpec := { name := "fnExactCanReceive", fn := fun _ => fun
  | [d1, d2, d3] => { results := [.lit (.bool false)], args := [d1, d2, d3] }
  | _ => none }
def FnExactCanReceiveWrongFalsely : Prop := fnExactCanReceiveRow.holds Try.pinned (OpenSpec.ofChange fnExactCanReceiveWrong)

/-- 'laws.FnExactCanSense': WHATEVER THE INPUT: true; the input reads as it did. -/
def fnExactCanSenseSpec : ChangeSpec := { name := "fnExactCanSense", fn := fun _ => fun
  | [d1, d2, d3] => { results := [.lit (.bool true)], args := [d1, d2, d3] }
  | _ => none }
def fnExactCanSenseRow : OpenClaim := { program := "ytichhbkgebimeaa", sum := "79ce245379c34de82a32c29e7430e33793484050ea0056ae905a7d16b9e9bc07", func := "loop.example/g00511/laws.FnExactCanSense", spec := "fnExactCanSense", apart := false }
def FnExactCanSenseSaid : Prop := fnExactCanSenseRow.holds Try.pinned (OpenSpec.ofChange fnExactCanSenseSpec)

/-- ITS FALSE NEIGHBOUR: 'it returns false'. Refute it at one input. -/
def fnExactCanSenseWrong : ChangeSpec := { name := "fnExactCanSense", fn := fun _ => fun
  | [d1, d2, d3] => { results := [.lit (.bool false)], args := [d1, d2, d3] }
  | _ => none }
def FnExactCanSenseWrongFalsely : Prop := fnExactCanSenseRow.holds Try.pinned (OpenSpec.ofChange fnExactCanSenseWrong)

/-- 'laws.FnExactNeighborsOf': WHATEVER THE INPUT: true; the input reads as it did. -/
def fnExactNeighborsOfSpec : ChangeSpec := { name := "fnExactNeighborsOf", fn := fun _ => fun
  | [d1, d2] => { results := [.lit (.bool true)], args := [d1, d2] }
  | _ => none }
def fnExactNeighborsOfRow : OpenClaim := { program := "ytichhbkgebimeaa", sum := "79ce245379c34de82a32c29e7430e33793484050ea0056ae905a7d16b9e9bc07", func := "loop.example/g00511/laws.FnExactNeighborsOf", spec := "fnExactNeighborsOf", apart := false }
def FnExactNeighborsOfSaid : Prop := fnExactNeighborsOfRow.holds Try.pinned (OpenSpec.ofChange fnExactNeighborsOfSpec)

/-- ITS FALSE NEIGHBOUR: 'it returns false'. Refute it at one input. -/
def fnExactNeighborsOfWrong : ChangeSpec := { name := "fnExactNeighborsOf", fn := fun _ => fun
  | [d1, d2] => { results := [.lit (.bool false)], args := [d1, d2] }
  | _ => none }
def FnExactNeighborsOfWrongFalsely : Prop := fnExactNeighborsOfRow.holds Try.pinned (OpenSpec.ofChange fnExactNeighborsOfWrong)

/-- 'laws.FnExactIsHidden': WHATEVER THE INPUT: true; the input reads as it did. -/
def fnExactIsHiddenSpec : ChangeSpec := { name := "fnExactIsHidden", fn := fun _ => fun
  | [d1, d2, d3, d4] => { results := [.lit (.bool true)], args := [d1, d2, d3, d4] }
  | _ => none }
def fnExactIsHiddenRow : OpenClaim := { program := "ytichhbkgebimeaa", sum := "79ce245379c34de82a32c29e7430e33793484050ea0056ae905a7d16b9e9bc07", func := "loop.example/g00511/laws.FnExactIsHidden", spec := "fnExactIsHidden", apart := false }
def FnExactIsHiddenSaid : Prop := fnExactIsHiddenRow.holds Try.pinned (OpenSpec.ofChange fnExactIsHiddenSpec)

/-- ITS FALSE NEIGHBOUR: 'it returns false'. Refute it at one input. -/
def fnExactIsHiddenWrong : ChangeSpec := { name := "fnExactIsHidden", fn := fun _ => fun
  | [d1, d2, d3, d4] => { results := [.lit (.bool false)], args := [d1, d2, d3, d4] }
  | _ => none }
def FnExactIsHiddenWrongFalsely : Prop := fnExactIsHiddenRow.holds Try.pinned (OpenSpec.ofChange fnExactIsHiddenWrong)

/-- 'laws.FnExactReceivedFrom': WHATEVER THE INPUT: true; the input reads as it did. -/
def fnExactReceivedFromSpec : ChangeSpec := { name := "fnExactReceivedFrom", fn := fun _ => fun
  | [d1, d2, d3] => { results := [.lit (.bool true)], args := [d1, d2, d3] }
  | _ => none }
def fnExactReceivedFromRow : OpenClaim := { program := "ytichhbkgebimeaa", sum := "79ce245379c34de82a32c29e7430e33793484050ea0056ae905a7d16b9e9bc07", func := "loop.example/g00511/laws.FnExactReceivedFrom", spec := "fnExactReceivedFrom", unfollowed := true, recurses := true, apart := false }
def FnExactReceivedFromSaid : Prop := fnExactReceivedFromRow.holds Try.pinned (OpenSpec.ofChange fnExactReceivedFromSpec)

/-- ITS FALSE NEIGHBOUR: 'it returns false'. Refute it at one input. -/
def fnExactReceivedFromWrong : ChangeSpec := { name := "fnExactReceivedFrom", fn := fun _ => fun
  | [d1, d2, d3] => { results := [.lit (.bool false)], args := [d1, d2, d3] }
  | _ => none }
def FnExactReceivedFromWrongFalsely : Prop := fnExactReceivedFromRow.holds Try.pinned (OpenSpec.ofChange fnExactReceivedFromWrong)

/- THE SECOND FORM. 'bulk': how many values and letters a reading holds, each counted each time it is reached (what is shared counts as often as it is met; a slice's spare places count too). A statement '..UptoSaid' is the law's where the arguments, and the package variables that the reading takes, are together of bulk at most 1048576: NARROWER than '..Said'. Prove '..Said' where nothing that the law and all that it calls make is longer than what came in: it says more and counts as full. Else prove '..UptoSaid'. A law counts once. -/
mutual
def uptoBulk {H : Type} : DataW H → Nat
  | .lit (.string bytes) => bytes.length + 1
  | .lit _ => 1
  | .nil => 1
  | .ptr d => uptoBulk d + 1
  | .slice elems spare => uptoBulkAll elems + uptoBulkAll spare + 1
  | .agg parts => uptoBulkAll parts + 1
  | .iface _ d => uptoBulk d + 1
  | .map entries => uptoBulkEntries entries + 1
  | .held _ => 1
def uptoBulkAll {H : Type} : List (DataW H) → Nat
  | [] => 0
  | d :: r => uptoBulk d + uptoBulkAll r
def uptoBulkEntries {H : Type} : List (Lit × DataW H) → Nat
  | [] => 0
  | x :: r => uptoBulkEntry x + uptoBulkEntries r
def uptoBulkEntry {H : Type} : Lit × DataW H → Nat
  | (.string bytes, d) => bytes.length + uptoBulk d + 1
  | (_, d) => uptoBulk d + 1
 end
def uptoSmall : (H : Type) → List (DataW H) → Bool := fun _ ds => decide (uptoBulkAll ds ≤ 1048576)
def OpenSpec.upto (s : _root_.Go.ChangeSpec) : _root_.Go.OpenSpec := { _root_.Go.OpenSpec.ofChange s with cond := some uptoSmall }

/-- 'laws.FnHearing', WHERE WHAT IT READS IS OF BULK AT MOST 1048576: true; the input reads as it did. -/
def fnHearingUptoRow : OpenClaim := { program := "ytichhbkgebimeaa", sum := "79ce245379c34de82a32c29e7430e33793484050ea0056ae905a7d16b9e9bc07", func := "loop.example/g00511/laws.FnHearing", spec := "fnHearing", apart := false, narrowed := true }
def FnHearingUptoSaid : Prop := fnHearingUptoRow.holds Try.pinned (OpenSpec.upto fnHearingSpec)

/-- 'laws.FnCapture', WHERE WHAT IT READS IS OF BULK AT MOST 1048576: true; the input reads as it did. -/
def fnCaptureUptoRow : OpenClaim := { program := "ytichhbkgebimeaa", sum := "79ce245379c34de82a32c29e7430e33793484050ea0056ae905a7d16b9e9bc07", func := "loop.example/g00511/laws.FnCapture", spec := "fnCapture", unfollowed := true, recurses := true, apart := false, narrowed := true }
def FnCaptureUptoSaid : Prop := fnCaptureUptoRow.holds Try.pinned (OpenSpec.upto fnCaptureSpec)

/-- 'laws.FnExactIsValidPlacement', WHERE WHAT IT READS IS OF BULK AT MOST 1048576: true; the input reads as it did. -/
def fnExactIsValidPlacementUptoRow : OpenClaim := { program := "ytichhbkgebimeaa", sum := "79ce245379c34de82a32c29e7430e33793484050ea0056ae905a7d16b9e9bc07", func := "loop.example/g00511/laws.FnExactIsValidPlacement", spec := "fnExactIsValidPlacement", apart := false, narrowed := true }
def FnExactIsValidPlacementUptoSaid : Prop := fnExactIsValidPlacementUptoRow.holds Try.pinned (OpenSpec.upto fnExactIsValidPlacementSpec)

/-- 'laws.FnExactDistance', WHERE WHAT IT READS IS OF BULK AT MOST 1048576: true; the input reads as it did. -/
def fnExactDistanceUptoRow : OpenClaim := { program := "ytichhbkgebimeaa", sum := "79ce245379c34de82a32c29e7430e33793484050ea0056ae905a7d16b9e9bc07", func := "loop.example/g00511/laws.FnExactDistance", spec := "fnExactDistance", apart := false, narrowed := true }
def FnExactDistanceUptoSaid : Prop := fnExactDistanceUptoRow.holds Try.pinned (OpenSpec.upto fnExactDistanceSpec)

/-- 'laws.FnExactCanReceive', WHERE WHAT IT READS IS OF BULK AT MOST 1048576: true; the input reads as it did. -/
def fnExactCanReceiveUptoRow : OpenClaim := { program := "ytichhbkgebimeaa", sum := "79ce245379c34de82a32c29e7430e33793484050ea0056ae905a7d16b9e9bc07", func := "loop.example/g00511/laws.FnExactCanReceive", spec := "fnExactCanReceive", apart := false, narrowed := true }
def FnExactCanReceiveUptoSaid : Prop := fnExactCanReceiveUptoRow.holds Try.pinned (OpenSpec.upto fnExactCanReceiveSpec)

/-- 'laws.FnExactCanSense', WHERE WHAT IT READS IS OF BULK AT MOST 1048576: true; the input reads as it did. -/
def fnExactCanSenseUptoRow : OpenClaim := { program := "ytichhbkgebimeaa", sum := "79ce245379c34de82a32c29e7430e33793484050ea0056ae905a7d16b9e9bc07", func := "loop.example/g00511/laws.FnExactCanSense", spec := "fnExactCanSense", apart := false, narrowed := true }
def FnExactCanSenseUptoSaid : Prop := fnExactCanSenseUptoRow.holds Try.pinned (OpenSpec.upto fnExactCanSenseSpec)

/-- 'laws.FnExactNeighborsOf', WHERE WHAT IT READS IS OF BULK AT MOST 1048576: true; the input reads as it did. -/
def fnExactNeighborsOfUptoRow : OpenClaim := { program := "ytichhbkgebimeaa", sum := "79ce245379c34de82a32c29e7430e33793484050ea0056ae905a7d16b9e9bc07", func := "loop.example/g00511/laws.FnExactNeighborsOf", spec := "fnExactNeighborsOf", apart := false, narrowed := true }
def FnExactNeighborsOfUptoSaid : Prop := fnExactNeighborsOfUptoRow.holds Try.pinned (OpenSpec.upto fnExactNeighborsOfSpec)

/-- 'laws.FnExactIsHidden', WHERE WHAT IT READS IS OF BULK AT MOST 1048576: true; the input reads as it did. -/
def fnExactIsHiddenUptoRow : OpenClaim := { program := "ytichhbkgebimeaa", sum := "79ce245379c34de82a32c29e7430e33793484050ea0056ae905a7d16b9e9bc07", func := "loop.example/g00511/laws.FnExactIsHidden", spec := "fnExactIsHidden", apart := false, narrowed := true }
def FnExactIsHiddenUptoSaid : Prop := fnExactIsHiddenUptoRow.holds Try.pinned (OpenSpec.upto fnExactIsHiddenSpec)

/-- 'laws.FnExactReceivedFrom', WHERE WHAT IT READS IS OF BULK AT MOST 1048576: true; the input reads as it did. -/
def fnExactReceivedFromUptoRow : OpenClaim := { program := "ytichhbkgebimeaa", sum := "79ce245379c34de82a32c29e7430e33793484050ea0056ae905a7d16b9e9bc07", func := "loop.example/g00511/laws.FnExactReceivedFrom", spec := "fnExactReceivedFrom", unfollowed := true, recurses := true, apart := false, narrowed := true }
def FnExactReceivedFromUptoSaid : Prop := fnExactReceivedFromUptoRow.holds Try.pinned (OpenSpec.upto fnExactReceivedFromSpec)

end Rows
end Go.Proofs.Ytichhbkgebimeaa
