/-
  No cell of these rows narrows 'for every input' (looked for: loops, veiled, ifaces, maps, wideKeys, modest, calm, conditions, laid).
  DERIVED. THE GIVEN ROWS OF THIS SEAT. 9 by the template 'for every input the law returns true; each argument reads behind the call as it read before'; 0 by the template 'total and deterministic' (their statements: YtmhfcjdjkpoheaaTotals.lean).
  GIVEN WITH THE SEED: the statements are not yours to turn. If you find one false, say at which input.
  Laid BY PROGRAM, IN A SANDBOX (cutbox-rows.mjs): the forced cells as the released guide's own fill.sh prints them over the translation 9c0cb36e142c665e… (all of the seat's roots in one cut). By AI agents, Wed Nov 11 2026. No macro, syntax, notation, axiom, sorry.
-/
import Derived.Test.YtmhfcjdjkpoheaaChecked
import GoSem.Claim
import GoSem.ClaimJoined
import GoSem.ClaimMapViews
import Derived.JoinedTies
import Derived.KernelRfl
namespace Go.Proofs.Ytmhfcjdjkpoheaa
/- THE CELL 'sum', in the pinned program and in every row, IS THE sha256 OF THE DUMP (.gsa) THAT YtmhfcjdjkpoheaaProg.lean LOADS. Nothing in Lean hashes anything: it is a label: what it is worth is what the hold of that sum in a sandbox is worth. -/
noncomputable def Try.pinned : Pinned := { name := "ytmhfcjdjkpoheaa", sum := "9c0cb36e142c665e5ab08b6203b453bbb182183068f2a37ba3155aafa65ccdef", checked := Try.checked }
namespace Rows
def none {H : Type} : Left H := { results := [], args := [] }

/-- 'laws.FnAirtime': WHATEVER THE INPUT: true; the input reads as it did. -/
def fnAirtimeSpec : ChangeSpec := { name := "fnAirtime", fn := fun _ => fun
  | [d] => { results := [.lit (.bool true)], args := [d] }
  | _ => none }
def fnAirtimeRow : OpenClaim := { program := "ytmhfcjdjkpoheaa", sum := "9c0cb36e142c665e5ab08b6203b453bbb182183068f2a37ba3155aafa65ccdef", func := "loop.example/g00511/laws.FnAirtime", spec := "fnAirtime", apart := false }
def FnAirtimeSaid : Prop := fnAirtimeRow.holds Try.pinned (OpenSpec.ofChange fnAirtimeSpec)

/-- ITS FALSE NEIGHBOUR: 'it returns false'. Refute it at one input. -/
def fnAirtimeWrong : ChangeSpec := { name := "fnAirtime", fn := fun _ => fun
  | [d] => { results := [.lit (.bool false)], args := [d] }
  | _ => none }
def FnAirtimeWrongFalsely : Prop := fnAirtimeRow.holds Try.pinned (OpenSpec.ofChange fnAirtimeWrong)

/-- 'laws.FnExactIsValidRateIndex': WHATEVER THE INPUT: true; the input reads as it did. -/
def fnExactIsValidRateIndexSpec : ChangeSpec := { name := "fnExactIsValidRateIndex", fn := fun _ => fun
  | [d] => { results := [.lit (.bool true)], args := [d] }
  | _ => none }
def fnExactIsValidRateIndexRow : OpenClaim := { program := "ytmhfcjdjkpoheaa", sum := "9c0cb36e142c665e5ab08b6203b453bbb182183068f2a37ba3155aafa65ccdef", func := "loop.example/g00511/laws.FnExactIsValidRateIndex", spec := "fnExactIsValidRateIndex", apart := false }
def FnExactIsValidRateIndexSaid : Prop := fnExactIsValidRateIndexRow.holds Try.pinned (OpenSpec.ofChange fnExactIsValidRateIndexSpec)

/-- ITS FALSE NEIGHBOUR: 'it returns false'. Refute it at one input. -/
def fnExactIsValidRateIndexWrong : ChangeSpec := { name := "fnExactIsValidRateIndex", fn := fun _ => fun
  | [d] => { results := [.lit (.bool false)], args := [d] }
  | _ => none }
def FnExactIsValidRateIndexWrongFalsely : Prop := fnExactIsValidRateIndexRow.holds Try.pinned (OpenSpec.ofChange fnExactIsValidRateIndexWrong)

/-- 'laws.FnExactBytesPerSlot': WHATEVER THE INPUT: true; the input reads as it did. -/
def fnExactBytesPerSlotSpec : ChangeSpec := { name := "fnExactBytesPerSlot", fn := fun _ => fun
  | [d] => { results := [.lit (.bool true)], args := [d] }
  | _ => none }
def fnExactBytesPerSlotRow : OpenClaim := { program := "ytmhfcjdjkpoheaa", sum := "9c0cb36e142c665e5ab08b6203b453bbb182183068f2a37ba3155aafa65ccdef", func := "loop.example/g00511/laws.FnExactBytesPerSlot", spec := "fnExactBytesPerSlot", apart := false }
def FnExactBytesPerSlotSaid : Prop := fnExactBytesPerSlotRow.holds Try.pinned (OpenSpec.ofChange fnExactBytesPerSlotSpec)

/-- ITS FALSE NEIGHBOUR: 'it returns false'. Refute it at one input. -/
def fnExactBytesPerSlotWrong : ChangeSpec := { name := "fnExactBytesPerSlot", fn := fun _ => fun
  | [d] => { results := [.lit (.bool false)], args := [d] }
  | _ => none }
def FnExactBytesPerSlotWrongFalsely : Prop := fnExactBytesPerSlotRow.holds Try.pinned (OpenSpec.ofChange fnExactBytesPerSlotWrong)

/-- 'laws.FnExactRequiredQuality': WHATEVER THE INPUT: true; the input reads as it did. -/
def fnExactRequiredQualitySpec : ChangeSpec := { name := "fnExactRequiredQuality", fn := fun _ => fun
  | [d] => { results := [.lit (.bool true)], args := [d] }
  | _ => none }
def fnExactRequiredQualityRow : OpenClaim := { program := "ytmhfcjdjkpoheaa", sum := "9c0cb36e142c665e5ab08b6203b453bbb182183068f2a37ba3155aafa65ccdef", func := "loop.example/g00511/laws.FnExactRequiredQuality", spec := "fnExactRequiredQuality", apart := false }
def FnExactRequiredQualitySaid : Prop := fnExactRequiredQualityRow.holds Try.pinned (OpenSpec.ofChange fnExactRequiredQualitySpec)

/-- ITS FALSE NEIGHBOUR: 'it returns false'. Refute it at one input. -/
def fnExactRequiredQualityWrong : ChangeSpec := { name := "fnExactRequiredQuality", fn := fun _ => fun
  | [d] => { results := [.lit (.bool false)], args := [d] }
  | _ => none }
def FnExactRequiredQualityWrongFalsely : Prop := fnExactRequiredQualityRow.holds Try.pinned (OpenSpec.ofChange fnExactRequiredQualityWrong)

/-- 'laws.FnExactFrameSlots': WHATEVER THE INPUT: true; the input reads as it did. -/
def fnExactFrameSlotsSpec : ChangeSpec := { name := "fnExactFrameSlots", fn := fun _ => fun
  | [d1, d2] => { results := [.lit (.bool true)], args := [d1, d2] }
  | _ => none }
def fnExactFrameSlotsRow : OpenClaim := { program := "ytmhfcjdjkpoheaa", sum := "9c0cb36e142c665e5ab08b6203b453bbb182183068f2a37ba3155aafa65ccdef", func := "loop.example/g00511/laws.FnExactFrameSlots", spec := "fnExactFrameSlots", apart := false }
def FnExactFrameSlotsSaid : Prop := fnExactFrameSlotsRow.holds Try.pinned (OpenSpec.ofChange fnExactFrameSlotsSpec)

/-- ITS FALSE NEIGHBOUR: 'it returns false'. Refute it at one input. -/
def fnExactFrameSlotsWrong : ChangeSpec := { name := "fnExactFrameSlots", fn := fun _ => fun
  | [d1, d2] => { results := [.lit (.bool false)], args := [d1, d2] }
  | _ => none }
def FnExactFrameSlotsWrongFalsely : Prop := fnExactFrameSlotsRow.holds Try.pinned (OpenSpec.ofChange fnExactFrameSlotsWrong)

/-- 'laws.FnExactExchangeSlots': WHATEVER THE INPUT: true; the input reads as it did. -/
def fnExactExchangeSlotsSpec : ChangeSpec := { name := "fnExactExchangeSlots", fn := fun _ => fun
  | [d1, d2, d3] => { results := [.lit (.bool true)], args := [d1, d2, d3] }
  | _ => none }
def fnExactExchangeSlotsRow : OpenClaim := { program := "ytmhfcjdjkpoheaa", sum := "9c0cb36e142c665e5ab08b6203b453bbb182183068f2a37ba3155aafa65ccdef", func := "loop.example/g00511/laws.FnExactExchangeSlots", spec := "fnExactExchangeSlots", apart := false }
def FnExactExchangeSlotsSaid : Prop := fnExactExchangeSlotsRow.holds Try.pinned (OpenSpec.ofChange fnExactExchangeSlotsSpec)

/-- ITS FALSE NEIGHBOUR: 'it returns false'. Refute it at one input. -/
def fnExactExchangeSlotsWrong : ChangeSpec := { name := "fnExactExchangeSlots", fn := fun _ => fun
  | [d1, d2, d3] => { results := [.lit (.bool false)], args := [d1, d2, d3] }
  | _ => none }
def FnExactExchangeSlotsWrongFalsely : Prop := fnExactExchangeSlotsRow.holds Try.pinned (OpenSpec.ofChange fnExactExchangeSlotsWrong)

/-- 'laws.FnExactHighestRate': WHATEVER THE INPUT: true; the input reads as it did. -/
def fnExactHighestRateSpec : ChangeSpec := { name := "fnExactHighestRate", fn := fun _ => fun
  | [d] => { results := [.lit (.bool true)], args := [d] }
  | _ => none }
def fnExactHighestRateRow : OpenClaim := { program := "ytmhfcjdjkpoheaa", sum := "9c0cb36e142c665e5ab08b6203b453bbb182183068f2a37ba3155aafa65ccdef", func := "loop.example/g00511/laws.FnExactHighestRate", spec := "fnExactHighestRate", apart := false }
def FnExactHighestRateSaid : Prop := fnExactHighestRateRow.holds Try.pinned (OpenSpec.ofChange fnExactHighestRateSpec)

/-- ITS FALSE NEIGHBOUR: 'it returns false'. Refute it at one input. -/
def fnExactHighestRateWrong : ChangeSpec := { name := "fnExactHighestRate", fn := fun _ => fun
  | [d] => { results := [.lit (.bool false)], args := [d] }
  | _ => none }
def FnExactHighestRateWrongFalsely : Prop := fnExactHighestRateRow.holds Try.pinned (OpenSpec.ofChange fnExactHighestRateWrong)

/-- 'laws.FnExactFrameDelivered': WHATEVER THE INPUT: true; the input reads as it did. -/
def fnExactFrameDeliveredSpec : ChangeSpec := { name := "fnExactFrameDelivered", fn := fun _ => fun
  | [d1, d2, d3] => { results := [.lit (.bool true)], args := [d1, d2, d3] }
  | _ => none }
def fnExactFrameDeliveredRow : OpenClaim := { program := "ytmhfcjdjkpoheaa", sum := "9c0cb36e142c665e5ab08b6203b453bbb182183068f2a37ba3155aafa65ccdef", func := "loop.example/g00511/laws.FnExactFrameDelivered", spec := "fnExactFrameDelivered", apart := false }
def FnExactFrameDeliveredSaid : Prop := fnExactFrameDeliveredRow.holds Try.pinned (OpenSpec.ofChange fnExactFrameDeliveredSpec)

/-- ITS FALSE NEIGHBOUR: 'it returns false'. Refute it at one input. -/
def fnExactFrameDeliveredWrong : ChangeSpec := { name := "fnExactFrameDelivered", fn := fun _ => fun
  | [d1, d2, d3] => { results := [.lit (.bool false)], args := [d1, d2, d3] }
  | _ => none }
def FnExactFrameDeliveredWrongFalsely : Prop := fnExactFrameDeliveredRow.holds Try.pinned (OpenSpec.ofChange fnExactFrameDeliveredWrong)

/-- 'laws.FnExactExpectedSlots': WHATEVER THE INPUT: true; the input reads as it did. -/
def fnExactExpectedSlotsSpec : ChangeSpec := { name := "fnExactExpectedSlots", fn := fun _ => fun
  | [d1, d2, d3] => { results := [.lit (.bool true)], args := [d1, d2, d3] }
  | _ => none }
def fnExactExpectedSlotsRow : OpenClaim := { program := "ytmhfcjdjkpoheaa", sum := "9c0cb36e142c665e5ab08b6203b453bbb182183068f2a37ba3155aafa65ccdef", func := "loop.example/g00511/laws.FnExactExpectedSlots", spec := "fnExactExpectedSlots", apart := false }
def FnExactExpectedSlotsSaid : Prop := fnExactExpectedSlotsRow.holds Try.pinned (OpenSpec.ofChange fnExactExpectedSlotsSpec)

/-- ITS FALSE NEIGHBOUR: 'it returns false'. Refute it at one input. -/
def fnExactExpectedSlotsWrong : ChangeSpec := { name := "fnExactExpectedSlots", fn := fun _ => fun
  | [d1, d2, d3] => { results := [.lit (.bool false)], args := [d1, d2, d3] }
  | _ => none }
def FnExactExpectedSlotsWrongFalsely : Prop := fnExactExpectedSlotsRow.holds Try.pinned (OpenSpec.ofChange fnExactExpectedSlotsWrong)

/- THE SECOND FORM. 'bulk': how many values and letters a reading holds, each counted each time it is reached (what is shared counts as often as it is met; a slice's spare places count too). A statement '..UptoSaid' is the law's where the arguments, and the package variables that the reading takes, are together of bulk at most 1048576: NARROWER than '..Said'. Prove '..Said' where nothing that the law and all that it calls make is longer than what came in: it says more and counts as full. Else prove '..UptoSaid'. A law counts once. -/
mutual
def uptoBulk {H : Type} : DataW H → Nat
  | .lit (.string bytes) => bytes.length + 1
  | .lit _ => 1
  | .nil => 1
  | .ptr d => uptoBulk d + 1
  | .slice elems spare => uptoBulkAll elems + uptoBulkAll spare + 1
  | .agg parts => uptoBulkAll parts + 1
  | .iface _ d => uptoBulk d + 1
  | .map entries => uptoBulkEntries entries + 1
  | .held _ => 1
def uptoBulkAll {H : Type} : List (DataW H) → Nat
  | [] => 0
  | d :: r => uptoBulk d + uptoBulkAll r
def uptoBulkEntries {H : Type} : List (Lit × DataW H) → Nat
  | [] => 0
  | x :: r => uptoBulkEntry x + uptoBulkEntries r
def uptoBulkEntry {H : Type} : Lit × DataW H → Nat
  | (.string bytes, d) => bytes.length + uptoBulk d + 1
  | (_, d) => uptoBulk d + 1
 end
def uptoSmall : (H : Type) → List (DataW H) → Bool := fun _ ds => decide (uptoBulkAll ds ≤ 1048576)
def OpenSpec.upto (s : _root_.Go.ChangeSpec) : _root_.Go.OpenSpec := { _root_.Go.OpenSpec.ofChange s with cond := some uptoSmall }

/-- 'laws.FnAirtime', WHERE WHAT IT READS IS OF BULK AT MOST 1048576: true; the input reads as it did. -/
def fnAirtimeUptoRow : OpenClaim := { program := "ytmhfcjdjkpoheaa", sum := "9c0cb36e142c665e5ab08b6203b453bbb182183068f2a37ba3155aafa65ccdef", func := "loop.example/g00511/laws.FnAirtime", spec := "fnAirtime", apart := false, narrowed := true }
def FnAirtimeUptoSaid : Prop := fnAirtimeUptoRow.holds Try.pinned (OpenSpec.upto fnAirtimeSpec)

/-- 'laws.FnExactIsValidRateIndex', WHERE WHAT IT READS IS OF BULK AT MOST 1048576: true; the input reads as it did. -/
def fnExactIsValidRateIndexUptoRow : OpenClaim := { program := "ytmhfcjdjkpoheaa", sum := "9c0cb36e142c665e5ab08b6203b453bbb182183068f2a37ba3155aafa65ccdef", func := "loop.example/g00511/laws.FnExactIsValidRateIndex", spec := "fnExactIsValidRateIndex", apart := false, narrowed := true }
def FnExactIsValidRateIndexUptoSaid : Prop := fnExactIsValidRateIndexUptoRow.holds Try.pinned (OpenSpec.upto fnExactIsValidRateIndexSpec)

/-- 'laws.FnExactBytesPerSlot', WHERE WHAT IT READS IS OF BULK AT MOST 1048576: true; the input reads as it did. -/
def fnExactBytesPerSlotUptoRow : OpenClaim := { program := "ytmhfcjdjkpoheaa", sum := "9c0cb36e142c665e5ab08b6203b453bbb182183068f2a37ba3155aafa65ccdef", func := "loop.example/g00511/laws.FnExactBytesPerSlot", spec := "fnExactBytesPerSlot", apart := false, narrowed := true }
def FnExactBytesPerSlotUptoSaid : Prop := fnExactBytesPerSlotUptoRow.holds Try.pinned (OpenSpec.upto fnExactBytesPerSlotSpec)

/-- 'laws.FnExactRequiredQuality', WHERE WHAT IT READS IS OF BULK AT MOST 1048576: true; the input reads as it did. -/
def fnExactRequiredQualityUptoRow : OpenClaim := { program := "ytmhfcjdjkpoheaa", sum := "9c0cb36e142c665e5ab08b6203b453bbb182183068f2a37ba3155aafa65ccdef", func := "loop.example/g00511/laws.FnExactRequiredQuality", spec := "fnExactRequiredQuality", apart := false, narrowed := true }
def FnExactRequiredQualityUptoSaid : Prop := fnExactRequiredQualityUptoRow.holds Try.pinned (OpenSpec.upto fnExactRequiredQualitySpec)

/-- 'laws.FnExactFrameSlots', WHERE WHAT IT READS IS OF BULK AT MOST 1048576: true; the input reads as it did. -/
def fnExactFrameSlotsUptoRow : OpenClaim := { program := "ytmhfcjdjkpoheaa", sum := "9c0cb36e142c665e5ab08b6203b453bbb182183068f2a37ba3155aafa65ccdef", func := "loop.example/g00511/laws.FnExactFrameSlots", spec := "fnExactFrameSlots", apart := false, narrowed := true }
def FnExactFrameSlotsUptoSaid : Prop := fnExactFrameSlotsUptoRow.holds Try.pinned (OpenSpec.upto fnExactFrameSlotsSpec)

/-- 'laws.FnExactExchangeSlots', WHERE WHAT IT READS IS OF BULK AT MOST 1048576: true; the input reads as it did. -/
def fnExactExchangeSlotsUptoRow : OpenClaim := { program := "ytmhfcjdjkpoheaa", sum := "9c0cb36e142c665e5ab08b6203b453bbb182183068f2a37ba3155aafa65ccdef", func := "loop.example/g00511/laws.FnExactExchangeSlots", spec := "fnExactExchangeSlots", apart := false, narrowed := true }
def FnExactExchangeSlotsUptoSaid : Prop := fnExactExchangeSlotsUptoRow.holds Try.pinned (OpenSpec.upto fnExactExchangeSlotsSpec)

/-- 'laws.FnExactHighestRate', WHERE WHAT IT READS IS OF BULK AT MOST 1048576: true; the input reads as it did. -/
def fnExactHighestRateUptoRow : OpenClaim := { program := "ytmhfcjdjkpoheaa", sum := "9c0cb36e142c665e5ab08b6203b453bbb182183068f2a37ba3155aafa65ccdef", func := "loop.example/g00511/laws.FnExactHighestRate", spec := "fnExactHighestRate", apart := false, narrowed := true }
def FnExactHighestRateUptoSaid : Prop := fnExactHighestRateUptoRow.holds Try.pinned (OpenSpec.upto fnExactHighestRateSpec)

/-- 'laws.FnExactFrameDelivered', WHERE WHAT IT READS IS OF BULK AT MOST 1048576: true; the input reads as it did. -/
def fnExactFrameDeliveredUptoRow : OpenClaim := { program := "ytmhfcjdjkpoheaa", sum := "9c0cb36e142c665e5ab08b6203b453bbb182183068f2a37ba3155aafa65ccdef", func := "loop.example/g00511/laws.FnExactFrameDelivered", spec := "fnExactFrameDelivered", apart := false, narrowed := true }
def FnExactFrameDeliveredUptoSaid : Prop := fnExactFrameDeliveredUptoRow.holds Try.pinned (OpenSpec.upto fnExactFrameDeliveredSpec)

/-- 'laws.FnExactExpectedSlots', WHERE WHAT IT READS IS OF BULK AT MOST 1048576: true; the input reads as it did. -/
def fnExactExpectedSlotsUptoRow : OpenClaim := { program := "ytmhfcjdjkpoheaa", sum := "9c0cb36e142c665e5ab08b6203b453bbb182183068f2a37ba3155aafa65ccdef", func := "loop.example/g00511/laws.FnExactExpectedSlots", spec := "fnExactExpectedSlots", apart := false, narrowed := true }
def FnExactExpectedSlotsUptoSaid : Prop := fnExactExpectedSlotsUptoRow.holds Try.pinned (OpenSpec.upto fnExactExpectedSlotsSpec)

end Rows
end Go.Proofs.Ytmhfcjdjkpoheaa
