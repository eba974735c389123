/-
  No cell of these rows narrows 'for every input' (looked for: loops, veiled, ifaces, maps, wideKeys, modest, calm, conditions, laid).
  DERIVED. THE GIVEN ROWS OF THIS SEAT. 9 by the template 'for every input the law returns true; each argument reads behind the call as it read before'; 0 by the template 'total and deterministic' (their statements: YtebbnopconbnlaaTotals.lean).
  GIVEN WITH THE SEED: the statements are not yours to turn. If you find one false, say at which input.
  Laid BY PROGRAM, IN A SANDBOX (cutbox-rows.mjs): the forced cells as the released guide's own fill.sh prints them over the translation 14fe0377b72292f4… (all of the seat's roots in one cut). By AI agents, Wed Nov 11 2026. No macro, syntax, notation, axiom, sorry.
-/
import Derived.Test.YtebbnopconbnlaaChecked
import GoSem.Claim
import GoSem.ClaimJoined
import GoSem.ClaimMapViews
import Derived.JoinedTies
import Derived.KernelRfl
namespace Go.Proofs.Ytebbnopconbnlaa
/- THE CELL 'sum', in the pinned program and in every row, IS THE sha256 OF THE DUMP (.gsa) THAT YtebbnopconbnlaaProg.lean LOADS. Nothing in Lean hashes anything: it is a label: what it is worth is what the hold of that sum in a sandbox is worth. -/
noncomputable def Try.pinned : Pinned := { name := "ytebbnopconbnlaa", sum := "14fe0377b72292f4dbd438be9496d9bb1a992a241b89d7c68b97791b71967b44", checked := Try.checked }
namespace Rows
def none {H : Type} : Left H := { results := [], args := [] }

/-- 'laws.FnReservations': WHATEVER THE INPUT: true; the input reads as it did. -/
def fnReservationsSpec : ChangeSpec := { name := "fnReservations", fn := fun _ => fun
  | [d] => { results := [.lit (.bool true)], args := [d] }
  | _ => none }
def fnReservationsRow : OpenClaim := { program := "ytebbnopconbnlaa", sum := "14fe0377b72292f4dbd438be9496d9bb1a992a241b89d7c68b97791b71967b44", func := "loop.example/g00511/laws.FnReservations", spec := "fnReservations", unfollowed := true, recurses := true, apart := false }
def FnReservationsSaid : Prop := fnReservationsRow.holds Try.pinned (OpenSpec.ofChange fnReservationsSpec)

/-- ITS FALSE NEIGHBOUR: 'it returns false'. Refute it at one input. -/
def fnReservationsWrong : ChangeSpec := { name := "fnReservations", fn := fun _ => fun
  | [d] => { results := [.lit (.bool false)], args := [d] }
  | _ => none }
def FnReservationsWrongFalsely : Prop := fnReservationsRow.holds Try.pinned (OpenSpec.ofChange fnReservationsWrong)

/-- 'laws.FnExactIsValidReservation': WHATEVER THE INPUT: true; the input reads as it did. -/
def fnExactIsValidReservationSpec : ChangeSpec := { name := "fnExactIsValidReservation", fn := fun _ => fun
  | [d] => { results := [.lit (.bool true)], args := [d] }
  | _ => none }
def fnExactIsValidReservationRow : OpenClaim := { program := "ytebbnopconbnlaa", sum := "14fe0377b72292f4dbd438be9496d9bb1a992a241b89d7c68b97791b71967b44", func := "loop.example/g00511/laws.FnExactIsValidReservation", spec := "fnExactIsValidReservation", apart := false }
def FnExactIsValidReservationSaid : Prop := fnExactIsValidReservationRow.holds Try.pinned (OpenSpec.ofChange fnExactIsValidReservationSpec)

/-- ITS FALSE NEIGHBOUR: 'it returns false'. Refute it at one input. -/
def fnExactIsValidReservationWrong : ChangeSpec := { name := "fnExactIsValidReservation", fn := fun _ => fun
  | [d] => { results := [.lit (.bool false)], args := [d] }
  | _ => none }
def FnExactIsValidReservationWrongFalsely : Prop := fnExactIsValidReservationRow.holds Try.pinned (OpenSpec.ofChange fnExactIsValidReservationWrong)

/-- 'laws.FnExactIsReserved': WHATEVER THE INPUT: true; the input reads as it did. -/
def fnExactIsReservedSpec : ChangeSpec := { name := "fnExactIsReserved", fn := fun _ => fun
  | [d1, d2] => { results := [.lit (.bool true)], args := [d1, d2] }
  | _ => none }
def fnExactIsReservedRow : OpenClaim := { program := "ytebbnopconbnlaa", sum := "14fe0377b72292f4dbd438be9496d9bb1a992a241b89d7c68b97791b71967b44", func := "loop.example/g00511/laws.FnExactIsReserved", spec := "fnExactIsReserved", apart := false }
def FnExactIsReservedSaid : Prop := fnExactIsReservedRow.holds Try.pinned (OpenSpec.ofChange fnExactIsReservedSpec)

/-- ITS FALSE NEIGHBOUR: 'it returns false'. Refute it at one input. -/
def fnExactIsReservedWrong : ChangeSpec := { name := "fnExactIsReserved", fn := fun _ => fun
  | [d1, d2] => { results := [.lit (.bool false)], args := [d1, d2] }
  | _ => none }
def FnExactIsReservedWrongFalsely : Prop := fnExactIsReservedRow.holds Try.pinned (OpenSpec.ofChange fnExactIsReservedWrong)

/-- 'laws.FnExactHearFrame': WHATEVER THE INPUT: true; the input reads as it did. -/
def fnExactHearFrameSpec : ChangeSpec := { name := "fnExactHearFrame", fn := fun _ => fun
  | [d1, d2, d3, d4] => { results := [.lit (.bool true)], args := [d1, d2, d3, d4] }
  | _ => none }
def fnExactHearFrameRow : OpenClaim := { program := "ytebbnopconbnlaa", sum := "14fe0377b72292f4dbd438be9496d9bb1a992a241b89d7c68b97791b71967b44", func := "loop.example/g00511/laws.FnExactHearFrame", spec := "fnExactHearFrame", unfollowed := true, recurses := true, apart := false }
def FnExactHearFrameSaid : Prop := fnExactHearFrameRow.holds Try.pinned (OpenSpec.ofChange fnExactHearFrameSpec)

/-- ITS FALSE NEIGHBOUR: 'it returns false'. Refute it at one input. -/
def fnExactHearFrameWrong : ChangeSpec := { name := "fnExactHearFrame", fn := fun _ => fun
  | [d1, d2, d3, d4] => { results := [.lit (.bool false)], args := [d1, d2, d3, d4] }
  | _ => none }
def FnExactHearFrameWrongFalsely : Prop := fnExactHearFrameRow.holds Try.pinned (OpenSpec.ofChange fnExactHearFrameWrong)

/-- 'laws.FnExactReleaseUnused': WHATEVER THE INPUT: true; the input reads as it did. -/
def fnExactReleaseUnusedSpec : ChangeSpec := { name := "fnExactReleaseUnused", fn := fun _ => fun
  | [d1, d2, d3] => { results := [.lit (.bool true)], args := [d1, d2, d3] }
  | _ => none }
def fnExactReleaseUnusedRow : OpenClaim := { program := "ytebbnopconbnlaa", sum := "14fe0377b72292f4dbd438be9496d9bb1a992a241b89d7c68b97791b71967b44", func := "loop.example/g00511/laws.FnExactReleaseUnused", spec := "fnExactReleaseUnused", apart := false }
def FnExactReleaseUnusedSaid : Prop := fnExactReleaseUnusedRow.holds Try.pinned (OpenSpec.ofChange fnExactReleaseUnusedSpec)

/-- ITS FALSE NEIGHBOUR: 'it returns false'. Refute it at one input. -/
def fnExactReleaseUnusedWrong : ChangeSpec := { name := "fnExactReleaseUnused", fn := fun _ => fun
  | [d1, d2, d3] => { results := [.lit (.bool false)], args := [d1, d2, d3] }
  | _ => none }
def FnExactReleaseUnusedWrongFalsely : Prop := fnExactReleaseUnusedRow.holds Try.pinned (OpenSpec.ofChange fnExactReleaseUnusedWrong)

/-- 'laws.FnExactMayTransmit': WHATEVER THE INPUT: true; the input reads as it did. -/
def fnExactMayTransmitSpec : ChangeSpec := { name := "fnExactMayTransmit", fn := fun _ => fun
  | [d1, d2, d3] => { results := [.lit (.bool true)], args := [d1, d2, d3] }
  | _ => none }
def fnExactMayTransmitRow : OpenClaim := { program := "ytebbnopconbnlaa", sum := "14fe0377b72292f4dbd438be9496d9bb1a992a241b89d7c68b97791b71967b44", func := "loop.example/g00511/laws.FnExactMayTransmit", spec := "fnExactMayTransmit", apart := false }
def FnExactMayTransmitSaid : Prop := fnExactMayTransmitRow.holds Try.pinned (OpenSpec.ofChange fnExactMayTransmitSpec)

/-- ITS FALSE NEIGHBOUR: 'it returns false'. Refute it at one input. -/
def fnExactMayTransmitWrong : ChangeSpec := { name := "fnExactMayTransmit", fn := fun _ => fun
  | [d1, d2, d3] => { results := [.lit (.bool false)], args := [d1, d2, d3] }
  | _ => none }
def FnExactMayTransmitWrongFalsely : Prop := fnExactMayTransmitRow.holds Try.pinned (OpenSpec.ofChange fnExactMayTransmitWrong)

/-- 'laws.FnExactRequestDuration': WHATEVER THE INPUT: true; the input reads as it did. -/
def fnExactRequestDurationSpec : ChangeSpec := { name := "fnExactRequestDuration", fn := fun _ => fun
  | [d1, d2] => { results := [.lit (.bool true)], args := [d1, d2] }
  | _ => none }
def fnExactRequestDurationRow : OpenClaim := { program := "ytebbnopconbnlaa", sum := "14fe0377b72292f4dbd438be9496d9bb1a992a241b89d7c68b97791b71967b44", func := "loop.example/g00511/laws.FnExactRequestDuration", spec := "fnExactRequestDuration", apart := false }
def FnExactRequestDurationSaid : Prop := fnExactRequestDurationRow.holds Try.pinned (OpenSpec.ofChange fnExactRequestDurationSpec)

/-- ITS FALSE NEIGHBOUR: 'it returns false'. Refute it at one input. -/
def fnExactRequestDurationWrong : ChangeSpec := { name := "fnExactRequestDuration", fn := fun _ => fun
  | [d1, d2] => { results := [.lit (.bool false)], args := [d1, d2] }
  | _ => none }
def FnExactRequestDurationWrongFalsely : Prop := fnExactRequestDurationRow.holds Try.pinned (OpenSpec.ofChange fnExactRequestDurationWrong)

/-- 'laws.FnExactGrantDuration': WHATEVER THE INPUT: true; the input reads as it did. -/
def fnExactGrantDurationSpec : ChangeSpec := { name := "fnExactGrantDuration", fn := fun _ => fun
  | [d] => { results := [.lit (.bool true)], args := [d] }
  | _ => none }
def fnExactGrantDurationRow : OpenClaim := { program := "ytebbnopconbnlaa", sum := "14fe0377b72292f4dbd438be9496d9bb1a992a241b89d7c68b97791b71967b44", func := "loop.example/g00511/laws.FnExactGrantDuration", spec := "fnExactGrantDuration", apart := false }
def FnExactGrantDurationSaid : Prop := fnExactGrantDurationRow.holds Try.pinned (OpenSpec.ofChange fnExactGrantDurationSpec)

/-- ITS FALSE NEIGHBOUR: 'it returns false'. Refute it at one input. -/
def fnExactGrantDurationWrong : ChangeSpec := { name := "fnExactGrantDuration", fn := fun _ => fun
  | [d] => { results := [.lit (.bool false)], args := [d] }
  | _ => none }
def FnExactGrantDurationWrongFalsely : Prop := fnExactGrantDurationRow.holds Try.pinned (OpenSpec.ofChange fnExactGrantDurationWrong)

/-- 'laws.FnExactCombineReservations': WHATEVER THE INPUT: true; the input reads as it did. -/
def fnExactCombineReservationsSpec : ChangeSpec := { name := "fnExactCombineReservations", fn := fun _ => fun
  | [d1, d2] => { results := [.lit (.bool true)], args := [d1, d2] }
  | _ => none }
def fnExactCombineReservationsRow : OpenClaim := { program := "ytebbnopconbnlaa", sum := "14fe0377b72292f4dbd438be9496d9bb1a992a241b89d7c68b97791b71967b44", func := "loop.example/g00511/laws.FnExactCombineReservations", spec := "fnExactCombineReservations", unfollowed := true, recurses := true, apart := false }
def FnExactCombineReservationsSaid : Prop := fnExactCombineReservationsRow.holds Try.pinned (OpenSpec.ofChange fnExactCombineReservationsSpec)

/-- ITS FALSE NEIGHBOUR: 'it returns false'. Refute it at one input. -/
def fnExactCombineReservationsWrong : ChangeSpec := { name := "fnExactCombineReservations", fn := fun _ => fun
  | [d1, d2] => { results := [.lit (.bool false)], args := [d1, d2] }
  | _ => none }
def FnExactCombineReservationsWrongFalsely : Prop := fnExactCombineReservationsRow.holds Try.pinned (OpenSpec.ofChange fnExactCombineReservationsWrong)

/- THE SECOND FORM. 'bulk': how many values and letters a reading holds, each counted each time it is reached (what is shared counts as often as it is met; a slice's spare places count too). A statement '..UptoSaid' is the law's where the arguments, and the package variables that the reading takes, are together of bulk at most 1048576: NARROWER than '..Said'. Prove '..Said' where nothing that the law and all that it calls make is longer than what came in: it says more and counts as full. Else prove '..UptoSaid'. A law counts once. -/
mutual
def uptoBulk {H : Type} : DataW H → Nat
  | .lit (.string bytes) => bytes.length + 1
  | .lit _ => 1
  | .nil => 1
  | .ptr d => uptoBulk d + 1
  | .slice elems spare => uptoBulkAll elems + uptoBulkAll spare + 1
  | .agg parts => uptoBulkAll parts + 1
  | .iface _ d => uptoBulk d + 1
  | .map entries => uptoBulkEntries entries + 1
  | .held _ => 1
def uptoBulkAll {H : Type} : List (DataW H) → Nat
  | [] => 0
  | d :: r => uptoBulk d + uptoBulkAll r
def uptoBulkEntries {H : Type} : List (Lit × DataW H) → Nat
  | [] => 0
  | x :: r => uptoBulkEntry x + uptoBulkEntries r
def uptoBulkEntry {H : Type} : Lit × DataW H → Nat
  | (.string bytes, d) => bytes.length + uptoBulk d + 1
  | (_, d) => uptoBulk d + 1
 end
def uptoSmall : (H : Type) → List (DataW H) → Bool := fun _ ds => decide (uptoBulkAll ds ≤ 1048576)
def OpenSpec.upto (s : _root_.Go.ChangeSpec) : _root_.Go.OpenSpec := { _root_.Go.OpenSpec.ofChange s with cond := some uptoSmall }

/-- 'laws.FnReservations', WHERE WHAT IT READS IS OF BULK AT MOST 1048576: true; the input reads as it did. -/
def fnReservationsUptoRow : OpenClaim := { program := "ytebbnopconbnlaa", sum := "14fe0377b72292f4dbd438be9496d9bb1a992a241b89d7c68b97791b71967b44", func := "loop.example/g00511/laws.FnReservations", spec := "fnReservations", unfollowed := true, recurses := true, apart := false, narrowed := true }
def FnReservationsUptoSaid : Prop := fnReservationsUptoRow.holds Try.pinned (OpenSpec.upto fnReservationsSpec)

/-- 'laws.FnExactIsValidReservation', WHERE WHAT IT READS IS OF BULK AT MOST 1048576: true; the input reads as it did. -/
def fnExactIsValidReservationUptoRow : OpenClaim := { program := "ytebbnopconbnlaa", sum := "14fe0377b72292f4dbd438be9496d9bb1a992a241b89d7c68b97791b71967b44", func := "loop.example/g00511/laws.FnExactIsValidReservation", spec := "fnExactIsValidReservation", apart := false, narrowed := true }
def FnExactIsValidReservationUptoSaid : Prop := fnExactIsValidReservationUptoRow.holds Try.pinned (OpenSpec.upto fnExactIsValidReservationSpec)

/-- 'laws.FnExactIsReserved', WHERE WHAT IT READS IS OF BULK AT MOST 1048576: true; the input reads as it did. -/
def fnExactIsReservedUptoRow : OpenClaim := { program := "ytebbnopconbnlaa", sum := "14fe0377b72292f4dbd438be9496d9bb1a992a241b89d7c68b97791b71967b44", func := "loop.example/g00511/laws.FnExactIsReserved", spec := "fnExactIsReserved", apart := false, narrowed := true }
def FnExactIsReservedUptoSaid : Prop := fnExactIsReservedUptoRow.holds Try.pinned (OpenSpec.upto fnExactIsReservedSpec)

/-- 'laws.FnExactHearFrame', WHERE WHAT IT READS IS OF BULK AT MOST 1048576: true; the input reads as it did. -/
def fnExactHearFrameUptoRow : OpenClaim := { program := "ytebbnopconbnlaa", sum := "14fe0377b72292f4dbd438be9496d9bb1a992a241b89d7c68b97791b71967b44", func := "loop.example/g00511/laws.FnExactHearFrame", spec := "fnExactHearFrame", unfollowed := true, recurses := true, apart := false, narrowed := true }
def FnExactHearFrameUptoSaid : Prop := fnExactHearFrameUptoRow.holds Try.pinned (OpenSpec.upto fnExactHearFrameSpec)

/-- 'laws.FnExactReleaseUnused', WHERE WHAT IT READS IS OF BULK AT MOST 1048576: true; the input reads as it did. -/
def fnExactReleaseUnusedUptoRow : OpenClaim := { program := "ytebbnopconbnlaa", sum := "14fe0377b72292f4dbd438be9496d9bb1a992a241b89d7c68b97791b71967b44", func := "loop.example/g00511/laws.FnExactReleaseUnused", spec := "fnExactReleaseUnused", apart := false, narrowed := true }
def FnExactReleaseUnusedUptoSaid : Prop := fnExactReleaseUnusedUptoRow.holds Try.pinned (OpenSpec.upto fnExactReleaseUnusedSpec)

/-- 'laws.FnExactMayTransmit', WHERE WHAT IT READS IS OF BULK AT MOST 1048576: true; the input reads as it did. -/
def fnExactMayTransmitUptoRow : OpenClaim := { program := "ytebbnopconbnlaa", sum := "14fe0377b72292f4dbd438be9496d9bb1a992a241b89d7c68b97791b71967b44", func := "loop.example/g00511/laws.FnExactMayTransmit", spec := "fnExactMayTransmit", apart := false, narrowed := true }
def FnExactMayTransmitUptoSaid : Prop := fnExactMayTransmitUptoRow.holds Try.pinned (OpenSpec.upto fnExactMayTransmitSpec)

/-- 'laws.FnExactRequestDuration', WHERE WHAT IT READS IS OF BULK AT MOST 1048576: true; the input reads as it did. -/
def fnExactRequestDurationUptoRow : OpenClaim := { program := "ytebbnopconbnlaa", sum := "14fe0377b72292f4dbd438be9496d9bb1a992a241b89d7c68b97791b71967b44", func := "loop.example/g00511/laws.FnExactRequestDuration", spec := "fnExactRequestDuration", apart := false, narrowed := true }
def FnExactRequestDurationUptoSaid : Prop := fnExactRequestDurationUptoRow.holds Try.pinned (OpenSpec.upto fnExactRequestDurationSpec)

/-- 'laws.FnExactGrantDuration', WHERE WHAT IT READS IS OF BULK AT MOST 1048576: true; the input reads as it did. -/
def fnExactGrantDurationUptoRow : OpenClaim := { program := "ytebbnopconbnlaa", sum := "14fe0377b72292f4dbd438be9496d9bb1a992a241b89d7c68b97791b71967b44", func := "loop.example/g00511/laws.FnExactGrantDuration", spec := "fnExactGrantDuration", apart := false, narrowed := true }
def FnExactGrantDurationUptoSaid : Prop := fnExactGrantDurationUptoRow.holds Try.pinned (OpenSpec.upto fnExactGrantDurationSpec)

/-- 'laws.FnExactCombineReservations', WHERE WHAT IT READS IS OF BULK AT MOST 1048576: true; the input reads as it did. -/
def fnExactCombineReservationsUptoRow : OpenClaim := { program := "ytebbnopconbnlaa", sum := "14fe0377b72292f4dbd438be9496d9bb1a992a241b89d7c68b97791b71967b44", func := "loop.example/g00511/laws.FnExactCombineReservations", spec := "fnExactCombineReservations", unfollowed := true, recurses := true, apart := false, narrowed := true }
def FnExactCombineReservationsUptoSaid : Prop := fnExactCombineReservationsUptoRow.holds Try.pinned (OpenSpec.upto fnExactCombineReservationsSpec)

end Rows
end Go.Proofs.Ytebbnopconbnlaa
