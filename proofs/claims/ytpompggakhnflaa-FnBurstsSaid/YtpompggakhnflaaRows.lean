/-
  No cell of these rows narrows 'for every input' (looked for: loops, veiled, ifaces, maps, wideKeys, modest, calm, conditions, laid).
  DERIVED. THE GIVEN ROWS OF THIS SEAT. 8 by the template 'for every input the law returns true; each argument reads behind the call as it read before'; 0 by the template 'total and deterministic' (their statements: YtpompggakhnflaaTotals.lean).
  GIVEN WITH THE SEED: the statements are not yours to turn. If you find one false, say at which input.
  Laid BY PROGRAM, IN A SANDBOX (cutbox-rows.mjs): the forced cells as the released guide's own fill.sh prints them over the translation e00452cf9003884d… (all of the seat's roots in one cut). By AI agents, Wed Nov 11 2026. No macro, syntax, notation, axiom, sorry.
-/
import Derived.Test.YtpompggakhnflaaChecked
import GoSem.Claim
import GoSem.ClaimJoined
import GoSem.ClaimMapViews
import Derived.JoinedTies
import Derived.KernelRfl
namespace Go.Proofs.Ytpompggakhnflaa
/- THE CELL 'sum', in the pinned program and in every row, IS THE sha256 OF THE DUMP (.gsa) THAT YtpompggakhnflaaProg.lean LOADS. Nothing in Lean hashes anything: it is a label: what it is worth is what the hold of that sum in a sandbox is worth. -/
noncomputable def Try.pinned : Pinned := { name := "ytpompggakhnflaa", sum := "e00452cf9003884ddb6b9fda03d5268f2921431c6be710fbc760cd207760745f", checked := Try.checked }
namespace Rows
def none {H : Type} : Left H := { results := [], args := [] }

/-- 'laws.FnInterleaving': WHATEVER THE INPUT: true; the input reads as it did. -/
def fnInterleavingSpec : ChangeSpec := { name := "fnInterleaving", fn := fun _ => fun
  | [d] => { results := [.lit (.bool true)], args := [d] }
  | _ => none }
def fnInterleavingRow : OpenClaim := { program := "ytpompggakhnflaa", sum := "e00452cf9003884ddb6b9fda03d5268f2921431c6be710fbc760cd207760745f", func := "loop.example/g00511/laws.FnInterleaving", spec := "fnInterleaving", unfollowed := true, recurses := true, apart := false }
def FnInterleavingSaid : Prop := fnInterleavingRow.holds Try.pinned (OpenSpec.ofChange fnInterleavingSpec)

/-- ITS FALSE NEIGHBOUR: 'it returns false'. Refute it at one input. -/
def fnInterleavingWrong : ChangeSpec := { name := "fnInterleaving", fn := fun _ => fun
  | [d] => { results := [.lit (.bool false)], args := [d] }
  | _ => none }
def FnInterleavingWrongFalsely : Prop := fnInterleavingRow.holds Try.pinned (OpenSpec.ofChange fnInterleavingWrong)

/-- 'laws.FnBursts': WHATEVER THE INPUT: true; the input reads as it did. -/
def fnBurstsSpec : ChangeSpec := { name := "fnBursts", fn := fun _ => fun
  | [d] => { results := [.lit (.bool true)], args := [d] }
  | _ => none }
def fnBurstsRow : OpenClaim := { program := "ytpompggakhnflaa", sum := "e00452cf9003884ddb6b9fda03d5268f2921431c6be710fbc760cd207760745f", func := "loop.example/g00511/laws.FnBursts", spec := "fnBursts", unfollowed := true, recurses := true, apart := false }
def FnBurstsSaid : Prop := fnBurstsRow.holds Try.pinned (OpenSpec.ofChange fnBurstsSpec)

/-- ITS FALSE NEIGHBOUR: 'it returns false'. Refute it at one input. -/
def fnBurstsWrong : ChangeSpec := { name := "fnBursts", fn := fun _ => fun
  | [d] => { results := [.lit (.bool false)], args := [d] }
  | _ => none }
def FnBurstsWrongFalsely : Prop := fnBurstsRow.holds Try.pinned (OpenSpec.ofChange fnBurstsWrong)

/-- 'laws.FnExactInterleavedIndex': WHATEVER THE INPUT: true; the input reads as it did. -/
def fnExactInterleavedIndexSpec : ChangeSpec := { name := "fnExactInterleavedIndex", fn := fun _ => fun
  | [d1, d2, d3] => { results := [.lit (.bool true)], args := [d1, d2, d3] }
  | _ => none }
def fnExactInterleavedIndexRow : OpenClaim := { program := "ytpompggakhnflaa", sum := "e00452cf9003884ddb6b9fda03d5268f2921431c6be710fbc760cd207760745f", func := "loop.example/g00511/laws.FnExactInterleavedIndex", spec := "fnExactInterleavedIndex", unfollowed := true, recurses := true, apart := false }
def FnExactInterleavedIndexSaid : Prop := fnExactInterleavedIndexRow.holds Try.pinned (OpenSpec.ofChange fnExactInterleavedIndexSpec)

/-- ITS FALSE NEIGHBOUR: 'it returns false'. Refute it at one input. -/
def fnExactInterleavedIndexWrong : ChangeSpec := { name := "fnExactInterleavedIndex", fn := fun _ => fun
  | [d1, d2, d3] => { results := [.lit (.bool false)], args := [d1, d2, d3] }
  | _ => none }
def FnExactInterleavedIndexWrongFalsely : Prop := fnExactInterleavedIndexRow.holds Try.pinned (OpenSpec.ofChange fnExactInterleavedIndexWrong)

/-- 'laws.FnExactInterleave': WHATEVER THE INPUT: true; the input reads as it did. -/
def fnExactInterleaveSpec : ChangeSpec := { name := "fnExactInterleave", fn := fun _ => fun
  | [d1, d2] => { results := [.lit (.bool true)], args := [d1, d2] }
  | _ => none }
def fnExactInterleaveRow : OpenClaim := { program := "ytpompggakhnflaa", sum := "e00452cf9003884ddb6b9fda03d5268f2921431c6be710fbc760cd207760745f", func := "loop.example/g00511/laws.FnExactInterleave", spec := "fnExactInterleave", unfollowed := true, recurses := true, apart := false }
def FnExactInterleaveSaid : Prop := fnExactInterleaveRow.holds Try.pinned (OpenSpec.ofChange fnExactInterleaveSpec)

/-- ITS FALSE NEIGHBOUR: 'it returns false'. Refute it at one input. -/
def fnExactInterleaveWrong : ChangeSpec := { name := "fnExactInterleave", fn := fun _ => fun
  | [d1, d2] => { results := [.lit (.bool false)], args := [d1, d2] }
  | _ => none }
def FnExactInterleaveWrongFalsely : Prop := fnExactInterleaveRow.holds Try.pinned (OpenSpec.ofChange fnExactInterleaveWrong)

/-- 'laws.FnExactDeinterleave': WHATEVER THE INPUT: true; the input reads as it did. -/
def fnExactDeinterleaveSpec : ChangeSpec := { name := "fnExactDeinterleave", fn := fun _ => fun
  | [d1, d2] => { results := [.lit (.bool true)], args := [d1, d2] }
  | _ => none }
def fnExactDeinterleaveRow : OpenClaim := { program := "ytpompggakhnflaa", sum := "e00452cf9003884ddb6b9fda03d5268f2921431c6be710fbc760cd207760745f", func := "loop.example/g00511/laws.FnExactDeinterleave", spec := "fnExactDeinterleave", unfollowed := true, recurses := true, apart := false }
def FnExactDeinterleaveSaid : Prop := fnExactDeinterleaveRow.holds Try.pinned (OpenSpec.ofChange fnExactDeinterleaveSpec)

/-- ITS FALSE NEIGHBOUR: 'it returns false'. Refute it at one input. -/
def fnExactDeinterleaveWrong : ChangeSpec := { name := "fnExactDeinterleave", fn := fun _ => fun
  | [d1, d2] => { results := [.lit (.bool false)], args := [d1, d2] }
  | _ => none }
def FnExactDeinterleaveWrongFalsely : Prop := fnExactDeinterleaveRow.holds Try.pinned (OpenSpec.ofChange fnExactDeinterleaveWrong)

/-- 'laws.FnExactMinimumSpread': WHATEVER THE INPUT: true; the input reads as it did. -/
def fnExactMinimumSpreadSpec : ChangeSpec := { name := "fnExactMinimumSpread", fn := fun _ => fun
  | [d1, d2] => { results := [.lit (.bool true)], args := [d1, d2] }
  | _ => none }
def fnExactMinimumSpreadRow : OpenClaim := { program := "ytpompggakhnflaa", sum := "e00452cf9003884ddb6b9fda03d5268f2921431c6be710fbc760cd207760745f", func := "loop.example/g00511/laws.FnExactMinimumSpread", spec := "fnExactMinimumSpread", unfollowed := true, recurses := true, apart := false }
def FnExactMinimumSpreadSaid : Prop := fnExactMinimumSpreadRow.holds Try.pinned (OpenSpec.ofChange fnExactMinimumSpreadSpec)

/-- ITS FALSE NEIGHBOUR: 'it returns false'. Refute it at one input. -/
def fnExactMinimumSpreadWrong : ChangeSpec := { name := "fnExactMinimumSpread", fn := fun _ => fun
  | [d1, d2] => { results := [.lit (.bool false)], args := [d1, d2] }
  | _ => none }
def FnExactMinimumSpreadWrongFalsely : Prop := fnExactMinimumSpreadRow.holds Try.pinned (OpenSpec.ofChange fnExactMinimumSpreadWrong)

/-- 'laws.FnExactBurstHits': WHATEVER THE INPUT: true; the input reads as it did. -/
def fnExactBurstHitsSpec : ChangeSpec := { name := "fnExactBurstHits", fn := fun _ => fun
  | [d1, d2, d3, d4] => { results := [.lit (.bool true)], args := [d1, d2, d3, d4] }
  | _ => none }
def fnExactBurstHitsRow : OpenClaim := { program := "ytpompggakhnflaa", sum := "e00452cf9003884ddb6b9fda03d5268f2921431c6be710fbc760cd207760745f", func := "loop.example/g00511/laws.FnExactBurstHits", spec := "fnExactBurstHits", unfollowed := true, recurses := true, apart := false }
def FnExactBurstHitsSaid : Prop := fnExactBurstHitsRow.holds Try.pinned (OpenSpec.ofChange fnExactBurstHitsSpec)

/-- ITS FALSE NEIGHBOUR: 'it returns false'. Refute it at one input. -/
def fnExactBurstHitsWrong : ChangeSpec := { name := "fnExactBurstHits", fn := fun _ => fun
  | [d1, d2, d3, d4] => { results := [.lit (.bool false)], args := [d1, d2, d3, d4] }
  | _ => none }
def FnExactBurstHitsWrongFalsely : Prop := fnExactBurstHitsRow.holds Try.pinned (OpenSpec.ofChange fnExactBurstHitsWrong)

/-- 'laws.FnExactIsPermutation': WHATEVER THE INPUT: true; the input reads as it did. -/
def fnExactIsPermutationSpec : ChangeSpec := { name := "fnExactIsPermutation", fn := fun _ => fun
  | [d] => { results := [.lit (.bool true)], args := [d] }
  | _ => none }
def fnExactIsPermutationRow : OpenClaim := { program := "ytpompggakhnflaa", sum := "e00452cf9003884ddb6b9fda03d5268f2921431c6be710fbc760cd207760745f", func := "loop.example/g00511/laws.FnExactIsPermutation", spec := "fnExactIsPermutation", apart := false }
def FnExactIsPermutationSaid : Prop := fnExactIsPermutationRow.holds Try.pinned (OpenSpec.ofChange fnExactIsPermutationSpec)

/-- ITS FALSE NEIGHBOUR: 'it returns false'. Refute it at one input. -/
def fnExactIsPermutationWrong : ChangeSpec := { name := "fnExactIsPermutation", fn := fun _ => fun
  | [d] => { results := [.lit (.bool false)], args := [d] }
  | _ => none }
def FnExactIsPermutationWrongFalsely : Prop := fnExactIsPermutationRow.holds Try.pinned (OpenSpec.ofChange fnExactIsPermutationWrong)

/- THE SECOND FORM. 'bulk': how many values and letters a reading holds, each counted each time it is reached (what is shared counts as often as it is met; a slice's spare places count too). A statement '..UptoSaid' is the law's where the arguments, and the package variables that the reading takes, are together of bulk at most 1048576: NARROWER than '..Said'. Prove '..Said' where nothing that the law and all that it calls make is longer than what came in: it says more and counts as full. Else prove '..UptoSaid'. A law counts once. -/
mutual
def uptoBulk {H : Type} : DataW H → Nat
  | .lit (.string bytes) => bytes.length + 1
  | .lit _ => 1
  | .nil => 1
  | .ptr d => uptoBulk d + 1
  | .slice elems spare => uptoBulkAll elems + uptoBulkAll spare + 1
  | .agg parts => uptoBulkAll parts + 1
  | .iface _ d => uptoBulk d + 1
  | .map entries => uptoBulkEntries entries + 1
  | .held _ => 1
def uptoBulkAll {H : Type} : List (DataW H) → Nat
  | [] => 0
  | d :: r => uptoBulk d + uptoBulkAll r
def uptoBulkEntries {H : Type} : List (Lit × DataW H) → Nat
  | [] => 0
  | x :: r => uptoBulkEntry x + uptoBulkEntries r
def uptoBulkEntry {H : Type} : Lit × DataW H → Nat
  | (.string bytes, d) => bytes.length + uptoBulk d + 1
  | (_, d) => uptoBulk d + 1
 end
def uptoSmall : (H : Type) → List (DataW H) → Bool := fun _ ds => decide (uptoBulkAll ds ≤ 1048576)
def OpenSpec.upto (s : _root_.Go.ChangeSpec) : _root_.Go.OpenSpec := { _root_.Go.OpenSpec.ofChange s with cond := some uptoSmall }

/-- 'laws.FnInterleaving', WHERE WHAT IT READS IS OF BULK AT MOST 1048576: true; the input reads as it did. -/
def fnInterleavingUptoRow : OpenClaim := { program := "ytpompggakhnflaa", sum := "e00452cf9003884ddb6b9fda03d5268f2921431c6be710fbc760cd207760745f", func := "loop.example/g00511/laws.FnInterleaving", spec := "fnInterleaving", unfollowed := true, recurses := true, apart := false, narrowed := true }
def FnInterleavingUptoSaid : Prop := fnInterleavingUptoRow.holds Try.pinned (OpenSpec.upto fnInterleavingSpec)

/-- 'laws.FnBursts', WHERE WHAT IT READS IS OF BULK AT MOST 1048576: true; the input reads as it did. -/
def fnBurstsUptoRow : OpenClaim := { program := "ytpompggakhnflaa", sum := "e00452cf9003884ddb6b9fda03d5268f2921431c6be710fbc760cd207760745f", func := "loop.example/g00511/laws.FnBursts", spec := "fnBursts", unfollowed := true, recurses := true, apart := false, narrowed := true }
def FnBurstsUptoSaid : Prop := fnBurstsUptoRow.holds Try.pinned (OpenSpec.upto fnBurstsSpec)

/-- 'laws.FnExactInterleavedIndex', WHERE WHAT IT READS IS OF BULK AT MOST 1048576: true; the input reads as it did. -/
def fnExactInterleavedIndexUptoRow : OpenClaim := { program := "ytpompggakhnflaa", sum := "e00452cf9003884ddb6b9fda03d5268f2921431c6be710fbc760cd207760745f", func := "loop.example/g00511/laws.FnExactInterleavedIndex", spec := "fnExactInterleavedIndex", unfollowed := true, recurses := true, apart := false, narrowed := true }
def FnExactInterleavedIndexUptoSaid : Prop := fnExactInterleavedIndexUptoRow.holds Try.pinned (OpenSpec.upto fnExactInterleavedIndexSpec)

/-- 'laws.FnExactInterleave', WHERE WHAT IT READS IS OF BULK AT MOST 1048576: true; the input reads as it did. -/
def fnExactInterleaveUptoRow : OpenClaim := { program := "ytpompggakhnflaa", sum := "e00452cf9003884ddb6b9fda03d5268f2921431c6be710fbc760cd207760745f", func := "loop.example/g00511/laws.FnExactInterleave", spec := "fnExactInterleave", unfollowed := true, recurses := true, apart := false, narrowed := true }
def FnExactInterleaveUptoSaid : Prop := fnExactInterleaveUptoRow.holds Try.pinned (OpenSpec.upto fnExactInterleaveSpec)

/-- 'laws.FnExactDeinterleave', WHERE WHAT IT READS IS OF BULK AT MOST 1048576: true; the input reads as it did. -/
def fnExactDeinterleaveUptoRow : OpenClaim := { program := "ytpompggakhnflaa", sum := "e00452cf9003884ddb6b9fda03d5268f2921431c6be710fbc760cd207760745f", func := "loop.example/g00511/laws.FnExactDeinterleave", spec := "fnExactDeinterleave", unfollowed := true, recurses := true, apart := false, narrowed := true }
def FnExactDeinterleaveUptoSaid : Prop := fnExactDeinterleaveUptoRow.holds Try.pinned (OpenSpec.upto fnExactDeinterleaveSpec)

/-- 'laws.FnExactMinimumSpread', WHERE WHAT IT READS IS OF BULK AT MOST 1048576: true; the input reads as it did. -/
def fnExactMinimumSpreadUptoRow : OpenClaim := { program := "ytpompggakhnflaa", sum := "e00452cf9003884ddb6b9fda03d5268f2921431c6be710fbc760cd207760745f", func := "loop.example/g00511/laws.FnExactMinimumSpread", spec := "fnExactMinimumSpread", unfollowed := true, recurses := true, apart := false, narrowed := true }
def FnExactMinimumSpreadUptoSaid : Prop := fnExactMinimumSpreadUptoRow.holds Try.pinned (OpenSpec.upto fnExactMinimumSpreadSpec)

/-- 'laws.FnExactBurstHits', WHERE WHAT IT READS IS OF BULK AT MOST 1048576: true; the input reads as it did. -/
def fnExactBurstHitsUptoRow : OpenClaim := { program := "ytpompggakhnflaa", sum := "e00452cf9003884ddb6b9fda03d5268f2921431c6be710fbc760cd207760745f", func := "loop.example/g00511/laws.FnExactBurstHits", spec := "fnExactBurstHits", unfollowed := true, recurses := true, apart := false, narrowed := true }
def FnExactBurstHitsUptoSaid : Prop := fnExactBurstHitsUptoRow.holds Try.pinned (OpenSpec.upto fnExactBurstHitsSpec)

/-- 'laws.FnExactIsPermutation', WHERE WHAT IT READS IS OF BULK AT MOST 1048576: true; the input reads as it did. -/
def fnExactIsPermutationUptoRow : OpenClaim := { program := "ytpompggakhnflaa", sum := "e00452cf9003884ddb6b9fda03d5268f2921431c6be710fbc760cd207760745f", func := "loop.example/g00511/laws.FnExactIsPermutation", spec := "fnExactIsPermutation", apart := false, narrowed := true }
def FnExactIsPermutationUptoSaid : Prop := fnExactIsPermutationUptoRow.holds Try.pinned (OpenSpec.upto fnExactIsPermutationSpec)

end Rows
end Go.Proofs.Ytpompggakhnflaa
