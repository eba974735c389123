/-
  No cell of these rows narrows 'for every input' (looked for: loops, veiled, ifaces, maps, wideKeys, modest, calm, conditions, laid).
  DERIVED. THE GIVEN ROWS OF THIS SEAT. 9 by the template 'for every input the law returns true; each argument reads behind the call as it read before'; 0 by the template 'total and deterministic' (their statements: YtalfihfielgmpaaTotals.lean).
  GIVEN WITH THE SEED: the statements are not yours to turn. If you find one false, say at which input.
  Laid BY PROGRAM, IN A SANDBOX (cutbox-rows.mjs): the forced cells as the released guide's own fill.sh prints them over the translation a3a6ddac69762db7… (all of the seat's roots in one cut). By AI agents, Wed Nov 11 2026. No macro, syntax, notation, axiom, sorry.
-/
import Derived.Test.YtalfihfielgmpaaChecked
import GoSem.Claim
import GoSem.ClaimJoined
import GoSem.ClaimMapViews
import Derived.JoinedTies
import Derived.KernelRfl
namespace Go.Proofs.Ytalfihfielgmpaa
/- THE CELL 'sum', in the pinned program and in every row, IS THE sha256 OF THE DUMP (.gsa) THAT YtalfihfielgmpaaProg.lean LOADS. Nothing in Lean hashes anything: it is a label: what it is worth is what the hold of that sum in a sandbox is worth. -/
noncomputable def Try.pinned : Pinned := { name := "ytalfihfielgmpaa", sum := "a3a6ddac69762db7cce4591783605f00a42f5f7e19ccb303989979126ac00b1c", checked := Try.checked }
namespace Rows
def none {H : Type} : Left H := { results := [], args := [] }

/-- 'laws.FnBeacons': WHATEVER THE INPUT: true; the input reads as it did. -/
def fnBeaconsSpec : ChangeSpec := { name := "fnBeacons", fn := fun _ => fun
  | [d] => { results := [.lit (.bool true)], args := [d] }
  | _ => none }
def fnBeaconsRow : OpenClaim := { program := "ytalfihfielgmpaa", sum := "a3a6ddac69762db7cce4591783605f00a42f5f7e19ccb303989979126ac00b1c", func := "loop.example/g00511/laws.FnBeacons", spec := "fnBeacons", unfollowed := true, recurses := true, apart := false }
def FnBeaconsSaid : Prop := fnBeaconsRow.holds Try.pinned (OpenSpec.ofChange fnBeaconsSpec)

/-- ITS FALSE NEIGHBOUR: 'it returns false'. Refute it at one input. -/
def fnBeaconsWrong : ChangeSpec := { name := "fnBeacons", fn := fun _ => fun
  | [d] => { results := [.lit (.bool false)], args := [d] }
  | _ => none }
def FnBeaconsWrongFalsely : Prop := fnBeaconsRow.holds Try.pinned (OpenSpec.ofChange fnBeaconsWrong)

/-- 'laws.FnExactIsValidBeacon': WHATEVER THE INPUT: true; the input reads as it did. -/
def fnExactIsValidBeaconSpec : ChangeSpec := { name := "fnExactIsValidBeacon", fn := fun _ => fun
  | [d] => { results := [.lit (.bool true)], args := [d] }
  | _ => none }
def fnExactIsValidBeaconRow : OpenClaim := { program := "ytalfihfielgmpaa", sum := "a3a6ddac69762db7cce4591783605f00a42f5f7e19ccb303989979126ac00b1c", func := "loop.example/g00511/laws.FnExactIsValidBeacon", spec := "fnExactIsValidBeacon", apart := false }
def FnExactIsValidBeaconSaid : Prop := fnExactIsValidBeaconRow.holds Try.pinned (OpenSpec.ofChange fnExactIsValidBeaconSpec)

/-- ITS FALSE NEIGHBOUR: 'it returns false'. Refute it at one input. -/
def fnExactIsValidBeaconWrong : ChangeSpec := { name := "fnExactIsValidBeacon", fn := fun _ => fun
  | [d] => { results := [.lit (.bool false)], args := [d] }
  | _ => none }
def FnExactIsValidBeaconWrongFalsely : Prop := fnExactIsValidBeaconRow.holds Try.pinned (OpenSpec.ofChange fnExactIsValidBeaconWrong)

/-- 'laws.FnExactEncodeBeacon': WHATEVER THE INPUT: true; the input reads as it did. -/
def fnExactEncodeBeaconSpec : ChangeSpec := { name := "fnExactEncodeBeacon", fn := fun _ => fun
  | [d] => { results := [.lit (.bool true)], args := [d] }
  | _ => none }
def fnExactEncodeBeaconRow : OpenClaim := { program := "ytalfihfielgmpaa", sum := "a3a6ddac69762db7cce4591783605f00a42f5f7e19ccb303989979126ac00b1c", func := "loop.example/g00511/laws.FnExactEncodeBeacon", spec := "fnExactEncodeBeacon", apart := false }
def FnExactEncodeBeaconSaid : Prop := fnExactEncodeBeaconRow.holds Try.pinned (OpenSpec.ofChange fnExactEncodeBeaconSpec)

/-- ITS FALSE NEIGHBOUR: 'it returns false'. Refute it at one input. -/
def fnExactEncodeBeaconWrong : ChangeSpec := { name := "fnExactEncodeBeacon", fn := fun _ => fun
  | [d] => { results := [.lit (.bool false)], args := [d] }
  | _ => none }
def FnExactEncodeBeaconWrongFalsely : Prop := fnExactEncodeBeaconRow.holds Try.pinned (OpenSpec.ofChange fnExactEncodeBeaconWrong)

/-- 'laws.FnExactDecodeBeacon': WHATEVER THE INPUT: true; the input reads as it did. -/
def fnExactDecodeBeaconSpec : ChangeSpec := { name := "fnExactDecodeBeacon", fn := fun _ => fun
  | [d] => { results := [.lit (.bool true)], args := [d] }
  | _ => none }
def fnExactDecodeBeaconRow : OpenClaim := { program := "ytalfihfielgmpaa", sum := "a3a6ddac69762db7cce4591783605f00a42f5f7e19ccb303989979126ac00b1c", func := "loop.example/g00511/laws.FnExactDecodeBeacon", spec := "fnExactDecodeBeacon", apart := false }
def FnExactDecodeBeaconSaid : Prop := fnExactDecodeBeaconRow.holds Try.pinned (OpenSpec.ofChange fnExactDecodeBeaconSpec)

/-- ITS FALSE NEIGHBOUR: 'it returns false'. Refute it at one input. -/
def fnExactDecodeBeaconWrong : ChangeSpec := { name := "fnExactDecodeBeacon", fn := fun _ => fun
  | [d] => { results := [.lit (.bool false)], args := [d] }
  | _ => none }
def FnExactDecodeBeaconWrongFalsely : Prop := fnExactDecodeBeaconRow.holds Try.pinned (OpenSpec.ofChange fnExactDecodeBeaconWrong)

/-- 'laws.FnExactTimContains': WHATEVER THE INPUT: true; the input reads as it did. -/
def fnExactTimContainsSpec : ChangeSpec := { name := "fnExactTimContains", fn := fun _ => fun
  | [d1, d2] => { results := [.lit (.bool true)], args := [d1, d2] }
  | _ => none }
def fnExactTimContainsRow : OpenClaim := { program := "ytalfihfielgmpaa", sum := "a3a6ddac69762db7cce4591783605f00a42f5f7e19ccb303989979126ac00b1c", func := "loop.example/g00511/laws.FnExactTimContains", spec := "fnExactTimContains", unfollowed := true, recurses := true, apart := false }
def FnExactTimContainsSaid : Prop := fnExactTimContainsRow.holds Try.pinned (OpenSpec.ofChange fnExactTimContainsSpec)

/-- ITS FALSE NEIGHBOUR: 'it returns false'. Refute it at one input. -/
def fnExactTimContainsWrong : ChangeSpec := { name := "fnExactTimContains", fn := fun _ => fun
  | [d1, d2] => { results := [.lit (.bool false)], args := [d1, d2] }
  | _ => none }
def FnExactTimContainsWrongFalsely : Prop := fnExactTimContainsRow.holds Try.pinned (OpenSpec.ofChange fnExactTimContainsWrong)

/-- 'laws.FnExactSetTim': WHATEVER THE INPUT: true; the input reads as it did. -/
def fnExactSetTimSpec : ChangeSpec := { name := "fnExactSetTim", fn := fun _ => fun
  | [d1, d2, d3] => { results := [.lit (.bool true)], args := [d1, d2, d3] }
  | _ => none }
def fnExactSetTimRow : OpenClaim := { program := "ytalfihfielgmpaa", sum := "a3a6ddac69762db7cce4591783605f00a42f5f7e19ccb303989979126ac00b1c", func := "loop.example/g00511/laws.FnExactSetTim", spec := "fnExactSetTim", unfollowed := true, recurses := true, apart := false }
def FnExactSetTimSaid : Prop := fnExactSetTimRow.holds Try.pinned (OpenSpec.ofChange fnExactSetTimSpec)

/-- ITS FALSE NEIGHBOUR: 'it returns false'. Refute it at one input. -/
def fnExactSetTimWrong : ChangeSpec := { name := "fnExactSetTim", fn := fun _ => fun
  | [d1, d2, d3] => { results := [.lit (.bool false)], args := [d1, d2, d3] }
  | _ => none }
def FnExactSetTimWrongFalsely : Prop := fnExactSetTimRow.holds Try.pinned (OpenSpec.ofChange fnExactSetTimWrong)

/-- 'laws.FnExactNextBeaconSlot': WHATEVER THE INPUT: true; the input reads as it did. -/
def fnExactNextBeaconSlotSpec : ChangeSpec := { name := "fnExactNextBeaconSlot", fn := fun _ => fun
  | [d] => { results := [.lit (.bool true)], args := [d] }
  | _ => none }
def fnExactNextBeaconSlotRow : OpenClaim := { program := "ytalfihfielgmpaa", sum := "a3a6ddac69762db7cce4591783605f00a42f5f7e19ccb303989979126ac00b1c", func := "loop.example/g00511/laws.FnExactNextBeaconSlot", spec := "fnExactNextBeaconSlot", apart := false }
def FnExactNextBeaconSlotSaid : Prop := fnExactNextBeaconSlotRow.holds Try.pinned (OpenSpec.ofChange fnExactNextBeaconSlotSpec)

/-- ITS FALSE NEIGHBOUR: 'it returns false'. Refute it at one input. -/
def fnExactNextBeaconSlotWrong : ChangeSpec := { name := "fnExactNextBeaconSlot", fn := fun _ => fun
  | [d] => { results := [.lit (.bool false)], args := [d] }
  | _ => none }
def FnExactNextBeaconSlotWrongFalsely : Prop := fnExactNextBeaconSlotRow.holds Try.pinned (OpenSpec.ofChange fnExactNextBeaconSlotWrong)

/-- 'laws.FnExactDtimCountAt': WHATEVER THE INPUT: true; the input reads as it did. -/
def fnExactDtimCountAtSpec : ChangeSpec := { name := "fnExactDtimCountAt", fn := fun _ => fun
  | [d1, d2] => { results := [.lit (.bool true)], args := [d1, d2] }
  | _ => none }
def fnExactDtimCountAtRow : OpenClaim := { program := "ytalfihfielgmpaa", sum := "a3a6ddac69762db7cce4591783605f00a42f5f7e19ccb303989979126ac00b1c", func := "loop.example/g00511/laws.FnExactDtimCountAt", spec := "fnExactDtimCountAt", apart := false }
def FnExactDtimCountAtSaid : Prop := fnExactDtimCountAtRow.holds Try.pinned (OpenSpec.ofChange fnExactDtimCountAtSpec)

/-- ITS FALSE NEIGHBOUR: 'it returns false'. Refute it at one input. -/
def fnExactDtimCountAtWrong : ChangeSpec := { name := "fnExactDtimCountAt", fn := fun _ => fun
  | [d1, d2] => { results := [.lit (.bool false)], args := [d1, d2] }
  | _ => none }
def FnExactDtimCountAtWrongFalsely : Prop := fnExactDtimCountAtRow.holds Try.pinned (OpenSpec.ofChange fnExactDtimCountAtWrong)

/-- 'laws.FnExactNextDelivery': WHATEVER THE INPUT: true; the input reads as it did. -/
def fnExactNextDeliverySpec : ChangeSpec := { name := "fnExactNextDelivery", fn := fun _ => fun
  | [d] => { results := [.lit (.bool true)], args := [d] }
  | _ => none }
def fnExactNextDeliveryRow : OpenClaim := { program := "ytalfihfielgmpaa", sum := "a3a6ddac69762db7cce4591783605f00a42f5f7e19ccb303989979126ac00b1c", func := "loop.example/g00511/laws.FnExactNextDelivery", spec := "fnExactNextDelivery", apart := false }
def FnExactNextDeliverySaid : Prop := fnExactNextDeliveryRow.holds Try.pinned (OpenSpec.ofChange fnExactNextDeliverySpec)

/-- ITS FALSE NEIGHBOUR: 'it returns false'. Refute it at one input. -/
def fnExactNextDeliveryWrong : ChangeSpec := { name := "fnExactNextDelivery", fn := fun _ => fun
  | [d] => { results := [.lit (.bool false)], args := [d] }
  | _ => none }
def FnExactNextDeliveryWrongFalsely : Prop := fnExactNextDeliveryRow.holds Try.pinned (OpenSpec.ofChange fnExactNextDeliveryWrong)

/- THE SECOND FORM. 'bulk': how many values and letters a reading holds, each counted each time it is reached (what is shared counts as often as it is met; a slice's spare places count too). A statement '..UptoSaid' is the law's where the arguments, and the package variables that the reading takes, are together of bulk at most 1048576: NARROWER than '..Said'. Prove '..Said' where nothing that the law and all that it calls make is longer than what came in: it says more and counts as full. Else prove '..UptoSaid'. A law counts once. -/
mutual
def uptoBulk {H : Type} : DataW H → Nat
  | .lit (.string bytes) => bytes.length + 1
  | .lit _ => 1
  | .nil => 1
  | .ptr d => uptoBulk d + 1
  | .slice elems spare => uptoBulkAll elems + uptoBulkAll spare + 1
  | .agg parts => uptoBulkAll parts + 1
  | .iface _ d => uptoBulk d + 1
  | .map entries => uptoBulkEntries entries + 1
  | .held _ => 1
def uptoBulkAll {H : Type} : List (DataW H) → Nat
  | [] => 0
  | d :: r => uptoBulk d + uptoBulkAll r
def uptoBulkEntries {H : Type} : List (Lit × DataW H) → Nat
  | [] => 0
  | x :: r => uptoBulkEntry x + uptoBulkEntries r
def uptoBulkEntry {H : Type} : Lit × DataW H → Nat
  | (.string bytes, d) => bytes.length + uptoBulk d + 1
  | (_, d) => uptoBulk d + 1
 end
def uptoSmall : (H : Type) → List (DataW H) → Bool := fun _ ds => decide (uptoBulkAll ds ≤ 1048576)
def OpenSpec.upto (s : _root_.Go.ChangeSpec) : _root_.Go.OpenSpec := { _root_.Go.OpenSpec.ofChange s with cond := some uptoSmall }

/-- 'laws.FnBeacons', WHERE WHAT IT READS IS OF BULK AT MOST 1048576: true; the input reads as it did. -/
def fnBeaconsUptoRow : OpenClaim := { program := "ytalfihfielgmpaa", sum := "a3a6ddac69762db7cce4591783605f00a42f5f7e19ccb303989979126ac00b1c", func := "loop.example/g00511/laws.FnBeacons", spec := "fnBeacons", unfollowed := true, recurses := true, apart := false, narrowed := true }
def FnBeaconsUptoSaid : Prop := fnBeaconsUptoRow.holds Try.pinned (OpenSpec.upto fnBeaconsSpec)

/-- 'laws.FnExactIsValidBeacon', WHERE WHAT IT READS IS OF BULK AT MOST 1048576: true; the input reads as it did. -/
def fnExactIsValidBeaconUptoRow : OpenClaim := { program := "ytalfihfielgmpaa", sum := "a3a6ddac69762db7cce4591783605f00a42f5f7e19ccb303989979126ac00b1c", func := "loop.example/g00511/laws.FnExactIsValidBeacon", spec := "fnExactIsValidBeacon", apart := false, narrowed := true }
def FnExactIsValidBeaconUptoSaid : Prop := fnExactIsValidBeaconUptoRow.holds Try.pinned (OpenSpec.upto fnExactIsValidBeaconSpec)

/-- 'laws.FnExactEncodeBeacon', WHERE WHAT IT READS IS OF BULK AT MOST 1048576: true; the input reads as it did. -/
def fnExactEncodeBeaconUptoRow : OpenClaim := { program := "ytalfihfielgmpaa", sum := "a3a6ddac69762db7cce4591783605f00a42f5f7e19ccb303989979126ac00b1c", func := "loop.example/g00511/laws.FnExactEncodeBeacon", spec := "fnExactEncodeBeacon", apart := false, narrowed := true }
def FnExactEncodeBeaconUptoSaid : Prop := fnExactEncodeBeaconUptoRow.holds Try.pinned (OpenSpec.upto fnExactEncodeBeaconSpec)

/-- 'laws.FnExactDecodeBeacon', WHERE WHAT IT READS IS OF BULK AT MOST 1048576: true; the input reads as it did. -/
def fnExactDecodeBeaconUptoRow : OpenClaim := { program := "ytalfihfielgmpaa", sum := "a3a6ddac69762db7cce4591783605f00a42f5f7e19ccb303989979126ac00b1c", func := "loop.example/g00511/laws.FnExactDecodeBeacon", spec := "fnExactDecodeBeacon", apart := false, narrowed := true }
def FnExactDecodeBeaconUptoSaid : Prop := fnExactDecodeBeaconUptoRow.holds Try.pinned (OpenSpec.upto fnExactDecodeBeaconSpec)

/-- 'laws.FnExactTimContains', WHERE WHAT IT READS IS OF BULK AT MOST 1048576: true; the input reads as it did. -/
def fnExactTimContainsUptoRow : OpenClaim := { program := "ytalfihfielgmpaa", sum := "a3a6ddac69762db7cce4591783605f00a42f5f7e19ccb303989979126ac00b1c", func := "loop.example/g00511/laws.FnExactTimContains", spec := "fnExactTimContains", unfollowed := true, recurses := true, apart := false, narrowed := true }
def FnExactTimContainsUptoSaid : Prop := fnExactTimContainsUptoRow.holds Try.pinned (OpenSpec.upto fnExactTimContainsSpec)

/-- 'laws.FnExactSetTim', WHERE WHAT IT READS IS OF BULK AT MOST 1048576: true; the input reads as it did. -/
def fnExactSetTimUptoRow : OpenClaim := { program := "ytalfihfielgmpaa", sum := "a3a6ddac69762db7cce4591783605f00a42f5f7e19ccb303989979126ac00b1c", func := "loop.example/g00511/laws.FnExactSetTim", spec := "fnExactSetTim", unfollowed := true, recurses := true, apart := false, narrowed := true }
def FnExactSetTimUptoSaid : Prop := fnExactSetTimUptoRow.holds Try.pinned (OpenSpec.upto fnExactSetTimSpec)

/-- 'laws.FnExactNextBeaconSlot', WHERE WHAT IT READS IS OF BULK AT MOST 1048576: true; the input reads as it did. -/
def fnExactNextBeaconSlotUptoRow : OpenClaim := { program := "ytalfihfielgmpaa", sum := "a3a6ddac69762db7cce4591783605f00a42f5f7e19ccb303989979126ac00b1c", func := "loop.example/g00511/laws.FnExactNextBeaconSlot", spec := "fnExactNextBeaconSlot", apart := false, narrowed := true }
def FnExactNextBeaconSlotUptoSaid : Prop := fnExactNextBeaconSlotUptoRow.holds Try.pinned (OpenSpec.upto fnExactNextBeaconSlotSpec)

/-- 'laws.FnExactDtimCountAt', WHERE WHAT IT READS IS OF BULK AT MOST 1048576: true; the input reads as it did. -/
def fnExactDtimCountAtUptoRow : OpenClaim := { program := "ytalfihfielgmpaa", sum := "a3a6ddac69762db7cce4591783605f00a42f5f7e19ccb303989979126ac00b1c", func := "loop.example/g00511/laws.FnExactDtimCountAt", spec := "fnExactDtimCountAt", apart := false, narrowed := true }
def FnExactDtimCountAtUptoSaid : Prop := fnExactDtimCountAtUptoRow.holds Try.pinned (OpenSpec.upto fnExactDtimCountAtSpec)

/-- 'laws.FnExactNextDelivery', WHERE WHAT IT READS IS OF BULK AT MOST 1048576: true; the input reads as it did. -/
def fnExactNextDeliveryUptoRow : OpenClaim := { program := "ytalfihfielgmpaa", sum := "a3a6ddac69762db7cce4591783605f00a42f5f7e19ccb303989979126ac00b1c", func := "loop.example/g00511/laws.FnExactNextDelivery", spec := "fnExactNextDelivery", apart := false, narrowed := true }
def FnExactNextDeliveryUptoSaid : Prop := fnExactNextDeliveryUptoRow.holds Try.pinned (OpenSpec.upto fnExactNextDeliverySpec)

end Rows
end Go.Proofs.Ytalfihfielgmpaa
