/-
  No cell of these rows narrows 'for every input' (looked for: loops, veiled, ifaces, maps, wideKeys, modest, calm, conditions, laid).
  DERIVED. THE GIVEN ROWS OF THIS SEAT. 10 by the template 'for every input the law returns true; each argument reads behind the call as it read before'; 0 by the template 'total and deterministic' (their statements: YtoecglgcehcfoaaTotals.lean).
  GIVEN WITH THE SEED: the statements are not yours to turn. If you find one false, say at which input.
  Laid BY PROGRAM, IN A SANDBOX (cutbox-rows.mjs): the forced cells as the released guide's own fill.sh prints them over the translation e402bff49a015d92… (all of the seat's roots in one cut). By AI agents, Wed Nov 11 2026. No macro, syntax, notation, axiom, sorry.
-/
import Derived.Test.YtoecglgcehcfoaaChecked
import GoSem.Claim
import GoSem.ClaimJoined
import GoSem.ClaimMapViews
import Derived.JoinedTies
import Derived.KernelRfl
namespace Go.Proofs.Ytoecglgcehcfoaa
/- THE CELL 'sum', in the pinned program and in every row, IS THE sha256 OF THE DUMP (.gsa) THAT YtoecglgcehcfoaaProg.lean LOADS. Nothing in Lean hashes anything: it is a label: what it is worth is what the hold of that sum in a sandbox is worth. -/
noncomputable def Try.pinned : Pinned := { name := "ytoecglgcehcfoaa", sum := "e402bff49a015d92b40f434b1ab7debffe0fb502b6536d4ceefb239583223923", checked := Try.checked }
namespace Rows
def none {H : Type} : Left H := { results := [], args := [] }

/-- 'laws.FnBits': WHATEVER THE INPUT: true; the input reads as it did. -/
def fnBitsSpec : ChangeSpec := { name := "fnBits", fn := fun _ => fun
  | [d] => { results := [.lit (.bool true)], args := [d] }
  | _ => none }
def fnBitsRow : OpenClaim := { program := "ytoecglgcehcfoaa", sum := "e402bff49a015d92b40f434b1ab7debffe0fb502b6536d4ceefb239583223923", func := "loop.example/g00511/laws.FnBits", spec := "fnBits", unfollowed := true, recurses := true, apart := false }
def FnBitsSaid : Prop := fnBitsRow.holds Try.pinned (OpenSpec.ofChange fnBitsSpec)

/-- ITS FALSE NEIGHBOUR: 'it returns false'. Refute it at one input. -/
def fnBitsWrong : ChangeSpec := { name := "fnBits", fn := fun _ => fun
  | [d] => { results := [.lit (.bool false)], args := [d] }
  | _ => none }
def FnBitsWrongFalsely : Prop := fnBitsRow.holds Try.pinned (OpenSpec.ofChange fnBitsWrong)

/-- 'laws.FnExactIsBitString': WHATEVER THE INPUT: true; the input reads as it did. -/
def fnExactIsBitStringSpec : ChangeSpec := { name := "fnExactIsBitString", fn := fun _ => fun
  | [d] => { results := [.lit (.bool true)], args := [d] }
  | _ => none }
def fnExactIsBitStringRow : OpenClaim := { program := "ytoecglgcehcfoaa", sum := "e402bff49a015d92b40f434b1ab7debffe0fb502b6536d4ceefb239583223923", func := "loop.example/g00511/laws.FnExactIsBitString", spec := "fnExactIsBitString", apart := false }
def FnExactIsBitStringSaid : Prop := fnExactIsBitStringRow.holds Try.pinned (OpenSpec.ofChange fnExactIsBitStringSpec)

/-- ITS FALSE NEIGHBOUR: 'it returns false'. Refute it at one input. -/
def fnExactIsBitStringWrong : ChangeSpec := { name := "fnExactIsBitString", fn := fun _ => fun
  | [d] => { results := [.lit (.bool false)], args := [d] }
  | _ => none }
def FnExactIsBitStringWrongFalsely : Prop := fnExactIsBitStringRow.holds Try.pinned (OpenSpec.ofChange fnExactIsBitStringWrong)

/-- 'laws.FnExactBytesToBits': WHATEVER THE INPUT: true; the input reads as it did. -/
def fnExactBytesToBitsSpec : ChangeSpec := { name := "fnExactBytesToBits", fn := fun _ => fun
  | [d] => { results := [.lit (.bool true)], args := [d] }
  | _ => none }
def fnExactBytesToBitsRow : OpenClaim := { program := "ytoecglgcehcfoaa", sum := "e402bff49a015d92b40f434b1ab7debffe0fb502b6536d4ceefb239583223923", func := "loop.example/g00511/laws.FnExactBytesToBits", spec := "fnExactBytesToBits", unfollowed := true, recurses := true, apart := false }
def FnExactBytesToBitsSaid : Prop := fnExactBytesToBitsRow.holds Try.pinned (OpenSpec.ofChange fnExactBytesToBitsSpec)

/-- ITS FALSE NEIGHBOUR: 'it returns false'. Refute it at one input. -/
def fnExactBytesToBitsWrong : ChangeSpec := { name := "fnExactBytesToBits", fn := fun _ => fun
  | [d] => { results := [.lit (.bool false)], args := [d] }
  | _ => none }
def FnExactBytesToBitsWrongFalsely : Prop := fnExactBytesToBitsRow.holds Try.pinned (OpenSpec.ofChange fnExactBytesToBitsWrong)

/-- 'laws.FnExactBitsToBytes': WHATEVER THE INPUT: true; the input reads as it did. -/
def fnExactBitsToBytesSpec : ChangeSpec := { name := "fnExactBitsToBytes", fn := fun _ => fun
  | [d] => { results := [.lit (.bool true)], args := [d] }
  | _ => none }
def fnExactBitsToBytesRow : OpenClaim := { program := "ytoecglgcehcfoaa", sum := "e402bff49a015d92b40f434b1ab7debffe0fb502b6536d4ceefb239583223923", func := "loop.example/g00511/laws.FnExactBitsToBytes", spec := "fnExactBitsToBytes", apart := false }
def FnExactBitsToBytesSaid : Prop := fnExactBitsToBytesRow.holds Try.pinned (OpenSpec.ofChange fnExactBitsToBytesSpec)

/-- ITS FALSE NEIGHBOUR: 'it returns false'. Refute it at one input. -/
def fnExactBitsToBytesWrong : ChangeSpec := { name := "fnExactBitsToBytes", fn := fun _ => fun
  | [d] => { results := [.lit (.bool false)], args := [d] }
  | _ => none }
def FnExactBitsToBytesWrongFalsely : Prop := fnExactBitsToBytesRow.holds Try.pinned (OpenSpec.ofChange fnExactBitsToBytesWrong)

/-- 'laws.FnExactXorBits': WHATEVER THE INPUT: true; the input reads as it did. -/
def fnExactXorBitsSpec : ChangeSpec := { name := "fnExactXorBits", fn := fun _ => fun
  | [d1, d2] => { results := [.lit (.bool true)], args := [d1, d2] }
  | _ => none }
def fnExactXorBitsRow : OpenClaim := { program := "ytoecglgcehcfoaa", sum := "e402bff49a015d92b40f434b1ab7debffe0fb502b6536d4ceefb239583223923", func := "loop.example/g00511/laws.FnExactXorBits", spec := "fnExactXorBits", apart := false }
def FnExactXorBitsSaid : Prop := fnExactXorBitsRow.holds Try.pinned (OpenSpec.ofChange fnExactXorBitsSpec)

/-- ITS FALSE NEIGHBOUR: 'it returns false'. Refute it at one input. -/
def fnExactXorBitsWrong : ChangeSpec := { name := "fnExactXorBits", fn := fun _ => fun
  | [d1, d2] => { results := [.lit (.bool false)], args := [d1, d2] }
  | _ => none }
def FnExactXorBitsWrongFalsely : Prop := fnExactXorBitsRow.holds Try.pinned (OpenSpec.ofChange fnExactXorBitsWrong)

/-- 'laws.FnExactWeight': WHATEVER THE INPUT: true; the input reads as it did. -/
def fnExactWeightSpec : ChangeSpec := { name := "fnExactWeight", fn := fun _ => fun
  | [d] => { results := [.lit (.bool true)], args := [d] }
  | _ => none }
def fnExactWeightRow : OpenClaim := { program := "ytoecglgcehcfoaa", sum := "e402bff49a015d92b40f434b1ab7debffe0fb502b6536d4ceefb239583223923", func := "loop.example/g00511/laws.FnExactWeight", spec := "fnExactWeight", apart := false }
def FnExactWeightSaid : Prop := fnExactWeightRow.holds Try.pinned (OpenSpec.ofChange fnExactWeightSpec)

/-- ITS FALSE NEIGHBOUR: 'it returns false'. Refute it at one input. -/
def fnExactWeightWrong : ChangeSpec := { name := "fnExactWeight", fn := fun _ => fun
  | [d] => { results := [.lit (.bool false)], args := [d] }
  | _ => none }
def FnExactWeightWrongFalsely : Prop := fnExactWeightRow.holds Try.pinned (OpenSpec.ofChange fnExactWeightWrong)

/-- 'laws.FnExactHammingDistance': WHATEVER THE INPUT: true; the input reads as it did. -/
def fnExactHammingDistanceSpec : ChangeSpec := { name := "fnExactHammingDistance", fn := fun _ => fun
  | [d1, d2] => { results := [.lit (.bool true)], args := [d1, d2] }
  | _ => none }
def fnExactHammingDistanceRow : OpenClaim := { program := "ytoecglgcehcfoaa", sum := "e402bff49a015d92b40f434b1ab7debffe0fb502b6536d4ceefb239583223923", func := "loop.example/g00511/laws.FnExactHammingDistance", spec := "fnExactHammingDistance", apart := false }
def FnExactHammingDistanceSaid : Prop := fnExactHammingDistanceRow.holds Try.pinned (OpenSpec.ofChange fnExactHammingDistanceSpec)

/-- ITS FALSE NEIGHBOUR: 'it returns false'. Refute it at one input. -/
def fnExactHammingDistanceWrong : ChangeSpec := { name := "fnExactHammingDistance", fn := fun _ => fun
  | [d1, d2] => { results := [.lit (.bool false)], args := [d1, d2] }
  | _ => none }
def FnExactHammingDistanceWrongFalsely : Prop := fnExactHammingDistanceRow.holds Try.pinned (OpenSpec.ofChange fnExactHammingDistanceWrong)

/-- 'laws.FnExactParity': WHATEVER THE INPUT: true; the input reads as it did. -/
def fnExactParitySpec : ChangeSpec := { name := "fnExactParity", fn := fun _ => fun
  | [d] => { results := [.lit (.bool true)], args := [d] }
  | _ => none }
def fnExactParityRow : OpenClaim := { program := "ytoecglgcehcfoaa", sum := "e402bff49a015d92b40f434b1ab7debffe0fb502b6536d4ceefb239583223923", func := "loop.example/g00511/laws.FnExactParity", spec := "fnExactParity", apart := false }
def FnExactParitySaid : Prop := fnExactParityRow.holds Try.pinned (OpenSpec.ofChange fnExactParitySpec)

/-- ITS FALSE NEIGHBOUR: 'it returns false'. Refute it at one input. -/
def fnExactParityWrong : ChangeSpec := { name := "fnExactParity", fn := fun _ => fun
  | [d] => { results := [.lit (.bool false)], args := [d] }
  | _ => none }
def FnExactParityWrongFalsely : Prop := fnExactParityRow.holds Try.pinned (OpenSpec.ofChange fnExactParityWrong)

/-- 'laws.FnExactIntToBits': WHATEVER THE INPUT: true; the input reads as it did. -/
def fnExactIntToBitsSpec : ChangeSpec := { name := "fnExactIntToBits", fn := fun _ => fun
  | [d1, d2] => { results := [.lit (.bool true)], args := [d1, d2] }
  | _ => none }
def fnExactIntToBitsRow : OpenClaim := { program := "ytoecglgcehcfoaa", sum := "e402bff49a015d92b40f434b1ab7debffe0fb502b6536d4ceefb239583223923", func := "loop.example/g00511/laws.FnExactIntToBits", spec := "fnExactIntToBits", apart := false }
def FnExactIntToBitsSaid : Prop := fnExactIntToBitsRow.holds Try.pinned (OpenSpec.ofChange fnExactIntToBitsSpec)

/-- ITS FALSE NEIGHBOUR: 'it returns false'. Refute it at one input. -/
def fnExactIntToBitsWrong : ChangeSpec := { name := "fnExactIntToBits", fn := fun _ => fun
  | [d1, d2] => { results := [.lit (.bool false)], args := [d1, d2] }
  | _ => none }
def FnExactIntToBitsWrongFalsely : Prop := fnExactIntToBitsRow.holds Try.pinned (OpenSpec.ofChange fnExactIntToBitsWrong)

/-- 'laws.FnExactBitsToInt': WHATEVER THE INPUT: true; the input reads as it did. -/
def fnExactBitsToIntSpec : ChangeSpec := { name := "fnExactBitsToInt", fn := fun _ => fun
  | [d] => { results := [.lit (.bool true)], args := [d] }
  | _ => none }
def fnExactBitsToIntRow : OpenClaim := { program := "ytoecglgcehcfoaa", sum := "e402bff49a015d92b40f434b1ab7debffe0fb502b6536d4ceefb239583223923", func := "loop.example/g00511/laws.FnExactBitsToInt", spec := "fnExactBitsToInt", apart := false }
def FnExactBitsToIntSaid : Prop := fnExactBitsToIntRow.holds Try.pinned (OpenSpec.ofChange fnExactBitsToIntSpec)

/-- ITS FALSE NEIGHBOUR: 'it returns false'. Refute it at one input. -/
def fnExactBitsToIntWrong : ChangeSpec := { name := "fnExactBitsToInt", fn := fun _ => fun
  | [d] => { results := [.lit (.bool false)], args := [d] }
  | _ => none }
def FnExactBitsToIntWrongFalsely : Prop := fnExactBitsToIntRow.holds Try.pinned (OpenSpec.ofChange fnExactBitsToIntWrong)

/- THE SECOND FORM. 'bulk': how many values and letters a reading holds, each counted each time it is reached (what is shared counts as often as it is met; a slice's spare places count too). A statement '..UptoSaid' is the law's where the arguments, and the package variables that the reading takes, are together of bulk at most 1048576: NARROWER than '..Said'. Prove '..Said' where nothing that the law and all that it calls make is longer than what came in: it says more and counts as full. Else prove '..UptoSaid'. A law counts once. -/
mutual
def uptoBulk {H : Type} : DataW H → Nat
  | .lit (.string bytes) => bytes.length + 1
  | .lit _ => 1
  | .nil => 1
  | .ptr d => uptoBulk d + 1
  | .slice elems spare => uptoBulkAll elems + uptoBulkAll spare + 1
  | .agg parts => uptoBulkAll parts + 1
  | .iface _ d => uptoBulk d + 1
  | .map entries => uptoBulkEntries entries + 1
  | .held _ => 1
def uptoBulkAll {H : Type} : List (DataW H) → Nat
  | [] => 0
  | d :: r => uptoBulk d + uptoBulkAll r
def uptoBulkEntries {H : Type} : List (Lit × DataW H) → Nat
  | [] => 0
  | x :: r => uptoBulkEntry x + uptoBulkEntries r
def uptoBulkEntry {H : Type} : Lit × DataW H → Nat
  | (.string bytes, d) => bytes.length + uptoBulk d + 1
  | (_, d) => uptoBulk d + 1
 end
def uptoSmall : (H : Type) → List (DataW H) → Bool := fun _ ds => decide (uptoBulkAll ds ≤ 1048576)
def OpenSpec.upto (s : _root_.Go.ChangeSpec) : _root_.Go.OpenSpec := { _root_.Go.OpenSpec.ofChange s with cond := some uptoSmall }

/-- 'laws.FnBits', WHERE WHAT IT READS IS OF BULK AT MOST 1048576: true; the input reads as it did. -/
def fnBitsUptoRow : OpenClaim := { program := "ytoecglgcehcfoaa", sum := "e402bff49a015d92b40f434b1ab7debffe0fb502b6536d4ceefb239583223923", func := "loop.example/g00511/laws.FnBits", spec := "fnBits", unfollowed := true, recurses := true, apart := false, narrowed := true }
def FnBitsUptoSaid : Prop := fnBitsUptoRow.holds Try.pinned (OpenSpec.upto fnBitsSpec)

/-- 'laws.FnExactIsBitString', WHERE WHAT IT READS IS OF BULK AT MOST 1048576: true; the input reads as it did. -/
def fnExactIsBitStringUptoRow : OpenClaim := { program := "ytoecglgcehcfoaa", sum := "e402bff49a015d92b40f434b1ab7debffe0fb502b6536d4ceefb239583223923", func := "loop.example/g00511/laws.FnExactIsBitString", spec := "fnExactIsBitString", apart := false, narrowed := true }
def FnExactIsBitStringUptoSaid : Prop := fnExactIsBitStringUptoRow.holds Try.pinned (OpenSpec.upto fnExactIsBitStringSpec)

/-- 'laws.FnExactBytesToBits', WHERE WHAT IT READS IS OF BULK AT MOST 1048576: true; the input reads as it did. -/
def fnExactBytesToBitsUptoRow : OpenClaim := { program := "ytoecglgcehcfoaa", sum := "e402bff49a015d92b40f434b1ab7debffe0fb502b6536d4ceefb239583223923", func := "loop.example/g00511/laws.FnExactBytesToBits", spec := "fnExactBytesToBits", unfollowed := true, recurses := true, apart := false, narrowed := true }
def FnExactBytesToBitsUptoSaid : Prop := fnExactBytesToBitsUptoRow.holds Try.pinned (OpenSpec.upto fnExactBytesToBitsSpec)

/-- 'laws.FnExactBitsToBytes', WHERE WHAT IT READS IS OF BULK AT MOST 1048576: true; the input reads as it did. -/
def fnExactBitsToBytesUptoRow : OpenClaim := { program := "ytoecglgcehcfoaa", sum := "e402bff49a015d92b40f434b1ab7debffe0fb502b6536d4ceefb239583223923", func := "loop.example/g00511/laws.FnExactBitsToBytes", spec := "fnExactBitsToBytes", apart := false, narrowed := true }
def FnExactBitsToBytesUptoSaid : Prop := fnExactBitsToBytesUptoRow.holds Try.pinned (OpenSpec.upto fnExactBitsToBytesSpec)

/-- 'laws.FnExactXorBits', WHERE WHAT IT READS IS OF BULK AT MOST 1048576: true; the input reads as it did. -/
def fnExactXorBitsUptoRow : OpenClaim := { program := "ytoecglgcehcfoaa", sum := "e402bff49a015d92b40f434b1ab7debffe0fb502b6536d4ceefb239583223923", func := "loop.example/g00511/laws.FnExactXorBits", spec := "fnExactXorBits", apart := false, narrowed := true }
def FnExactXorBitsUptoSaid : Prop := fnExactXorBitsUptoRow.holds Try.pinned (OpenSpec.upto fnExactXorBitsSpec)

/-- 'laws.FnExactWeight', WHERE WHAT IT READS IS OF BULK AT MOST 1048576: true; the input reads as it did. -/
def fnExactWeightUptoRow : OpenClaim := { program := "ytoecglgcehcfoaa", sum := "e402bff49a015d92b40f434b1ab7debffe0fb502b6536d4ceefb239583223923", func := "loop.example/g00511/laws.FnExactWeight", spec := "fnExactWeight", apart := false, narrowed := true }
def FnExactWeightUptoSaid : Prop := fnExactWeightUptoRow.holds Try.pinned (OpenSpec.upto fnExactWeightSpec)

/-- 'laws.FnExactHammingDistance', WHERE WHAT IT READS IS OF BULK AT MOST 1048576: true; the input reads as it did. -/
def fnExactHammingDistanceUptoRow : OpenClaim := { program := "ytoecglgcehcfoaa", sum := "e402bff49a015d92b40f434b1ab7debffe0fb502b6536d4ceefb239583223923", func := "loop.example/g00511/laws.FnExactHammingDistance", spec := "fnExactHammingDistance", apart := false, narrowed := true }
def FnExactHammingDistanceUptoSaid : Prop := fnExactHammingDistanceUptoRow.holds Try.pinned (OpenSpec.upto fnExactHammingDistanceSpec)

/-- 'laws.FnExactParity', WHERE WHAT IT READS IS OF BULK AT MOST 1048576: true; the input reads as it did. -/
def fnExactParityUptoRow : OpenClaim := { program := "ytoecglgcehcfoaa", sum := "e402bff49a015d92b40f434b1ab7debffe0fb502b6536d4ceefb239583223923", func := "loop.example/g00511/laws.FnExactParity", spec := "fnExactParity", apart := false, narrowed := true }
def FnExactParityUptoSaid : Prop := fnExactParityUptoRow.holds Try.pinned (OpenSpec.upto fnExactParitySpec)

/-- 'laws.FnExactIntToBits', WHERE WHAT IT READS IS OF BULK AT MOST 1048576: true; the input reads as it did. -/
def fnExactIntToBitsUptoRow : OpenClaim := { program := "ytoecglgcehcfoaa", sum := "e402bff49a015d92b40f434b1ab7debffe0fb502b6536d4ceefb239583223923", func := "loop.example/g00511/laws.FnExactIntToBits", spec := "fnExactIntToBits", apart := false, narrowed := true }
def FnExactIntToBitsUptoSaid : Prop := fnExactIntToBitsUptoRow.holds Try.pinned (OpenSpec.upto fnExactIntToBitsSpec)

/-- 'laws.FnExactBitsToInt', WHERE WHAT IT READS IS OF BULK AT MOST 1048576: true; the input reads as it did. -/
def fnExactBitsToIntUptoRow : OpenClaim := { program := "ytoecglgcehcfoaa", sum := "e402bff49a015d92b40f434b1ab7debffe0fb502b6536d4ceefb239583223923", func := "loop.example/g00511/laws.FnExactBitsToInt", spec := "fnExactBitsToInt", apart := false, narrowed := true }
def FnExactBitsToIntUptoSaid : Prop := fnExactBitsToIntUptoRow.holds Try.pinned (OpenSpec.upto fnExactBitsToIntSpec)

end Rows
end Go.Proofs.Ytoecglgcehcfoaa
