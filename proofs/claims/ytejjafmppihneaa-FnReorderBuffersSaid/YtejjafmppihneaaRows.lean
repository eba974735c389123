/-
  No cell of these rows narrows 'for every input' (looked for: loops, veiled, ifaces, maps, wideKeys, modest, calm, conditions, laid).
  DERIVED. THE GIVEN ROWS OF THIS SEAT. 9 by the template 'for every input the law returns true; each argument reads behind the call as it read before'; 0 by the template 'total and deterministic' (their statements: YtejjafmppihneaaTotals.lean).
  GIVEN WITH THE SEED: the statements are not yours to turn. If you find one false, say at which input.
  Laid BY PROGRAM, IN A SANDBOX (cutbox-rows.mjs): the forced cells as the released guide's own fill.sh prints them over the translation 20f120f5856c8136… (all of the seat's roots in one cut). By AI agents, Wed Nov 11 2026. No macro, syntax, notation, axiom, sorry.
-/
import Derived.Test.YtejjafmppihneaaChecked
import GoSem.Claim
import GoSem.ClaimJoined
import GoSem.ClaimMapViews
import Derived.JoinedTies
import Derived.KernelRfl
namespace Go.Proofs.Ytejjafmppihneaa
/- THE CELL 'sum', in the pinned program and in every row, IS THE sha256 OF THE DUMP (.gsa) THAT YtejjafmppihneaaProg.lean LOADS. Nothing in Lean hashes anything: it is a label: what it is worth is what the hold of that sum in a sandbox is worth. -/
noncomputable def Try.pinned : Pinned := { name := "ytejjafmppihneaa", sum := "20f120f5856c81367c2b394202a49d583c90ef19c43f18b614e9c7b3bc09be77", checked := Try.checked }
namespace Rows
def none {H : Type} : Left H := { results := [], args := [] }

/-- 'laws.FnRates': WHATEVER THE INPUT: true; the input reads as it did. -/
def fnRatesSpec : ChangeSpec := { name := "fnRates", fn := fun _ => fun
  | [d] => { results := [.lit (.bool true)], args := [d] }
  | _ => none }
def fnRatesRow : OpenClaim := { program := "ytejjafmppihneaa", sum := "20f120f5856c81367c2b394202a49d583c90ef19c43f18b614e9c7b3bc09be77", func := "loop.example/g00511/laws.FnRates", spec := "fnRates", unfollowed := true, recurses := true, apart := false }
def FnRatesSaid : Prop := fnRatesRow.holds Try.pinned (OpenSpec.ofChange fnRatesSpec)

/-- ITS FALSE NEIGHBOUR: 'it returns false'. Refute it at one input. -/
def fnRatesWrong : ChangeSpec := { name := "fnRates", fn := fun _ => fun
  | [d] => { results := [.lit (.bool false)], args := [d] }
  | _ => none }
def FnRatesWrongFalsely : Prop := fnRatesRow.holds Try.pinned (OpenSpec.ofChange fnRatesWrong)

/-- 'laws.FnRateAdaptation': WHATEVER THE INPUT: true; the input reads as it did. -/
def fnRateAdaptationSpec : ChangeSpec := { name := "fnRateAdaptation", fn := fun _ => fun
  | [d] => { results := [.lit (.bool true)], args := [d] }
  | _ => none }
def fnRateAdaptationRow : OpenClaim := { program := "ytejjafmppihneaa", sum := "20f120f5856c81367c2b394202a49d583c90ef19c43f18b614e9c7b3bc09be77", func := "loop.example/g00511/laws.FnRateAdaptation", spec := "fnRateAdaptation", apart := false }
def FnRateAdaptationSaid : Prop := fnRateAdaptationRow.holds Try.pinned (OpenSpec.ofChange fnRateAdaptationSpec)

/-- ITS FALSE NEIGHBOUR: 'it returns false'. Refute it at one input. -/
def fnRateAdaptationWrong : ChangeSpec := { name := "fnRateAdaptation", fn := fun _ => fun
  | [d] => { results := [.lit (.bool false)], args := [d] }
  | _ => none }
def FnRateAdaptationWrongFalsely : Prop := fnRateAdaptationRow.holds Try.pinned (OpenSpec.ofChange fnRateAdaptationWrong)

/-- 'laws.FnExactNewRateState': WHATEVER THE INPUT: true; the input reads as it did. -/
def fnExactNewRateStateSpec : ChangeSpec := { name := "fnExactNewRateState", fn := fun _ => fun
  | [d] => { results := [.lit (.bool true)], args := [d] }
  | _ => none }
def fnExactNewRateStateRow : OpenClaim := { program := "ytejjafmppihneaa", sum := "20f120f5856c81367c2b394202a49d583c90ef19c43f18b614e9c7b3bc09be77", func := "loop.example/g00511/laws.FnExactNewRateState", spec := "fnExactNewRateState", apart := false }
def FnExactNewRateStateSaid : Prop := fnExactNewRateStateRow.holds Try.pinned (OpenSpec.ofChange fnExactNewRateStateSpec)

/-- ITS FALSE NEIGHBOUR: 'it returns false'. Refute it at one input. -/
def fnExactNewRateStateWrong : ChangeSpec := { name := "fnExactNewRateState", fn := fun _ => fun
  | [d] => { results := [.lit (.bool false)], args := [d] }
  | _ => none }
def FnExactNewRateStateWrongFalsely : Prop := fnExactNewRateStateRow.holds Try.pinned (OpenSpec.ofChange fnExactNewRateStateWrong)

/-- 'laws.FnExactIsValidRateState': WHATEVER THE INPUT: true; the input reads as it did. -/
def fnExactIsValidRateStateSpec : ChangeSpec := { name := "fnExactIsValidRateState", fn := fun _ => fun
  | [d] => { results := [.lit (.bool true)], args := [d] }
  | _ => none }
def fnExactIsValidRateStateRow : OpenClaim := { program := "ytejjafmppihneaa", sum := "20f120f5856c81367c2b394202a49d583c90ef19c43f18b614e9c7b3bc09be77", func := "loop.example/g00511/laws.FnExactIsValidRateState", spec := "fnExactIsValidRateState", apart := false }
def FnExactIsValidRateStateSaid : Prop := fnExactIsValidRateStateRow.holds Try.pinned (OpenSpec.ofChange fnExactIsValidRateStateSpec)

/-- ITS FALSE NEIGHBOUR: 'it returns false'. Refute it at one input. -/
def fnExactIsValidRateStateWrong : ChangeSpec := { name := "fnExactIsValidRateState", fn := fun _ => fun
  | [d] => { results := [.lit (.bool false)], args := [d] }
  | _ => none }
def FnExactIsValidRateStateWrongFalsely : Prop := fnExactIsValidRateStateRow.holds Try.pinned (OpenSpec.ofChange fnExactIsValidRateStateWrong)

/-- 'laws.FnExactRateSucceeded': WHATEVER THE INPUT: true; the input reads as it did. -/
def fnExactRateSucceededSpec : ChangeSpec := { name := "fnExactRateSucceeded", fn := fun _ => fun
  | [d] => { results := [.lit (.bool true)], args := [d] }
  | _ => none }
def fnExactRateSucceededRow : OpenClaim := { program := "ytejjafmppihneaa", sum := "20f120f5856c81367c2b394202a49d583c90ef19c43f18b614e9c7b3bc09be77", func := "loop.example/g00511/laws.FnExactRateSucceeded", spec := "fnExactRateSucceeded", apart := false }
def FnExactRateSucceededSaid : Prop := fnExactRateSucceededRow.holds Try.pinned (OpenSpec.ofChange fnExactRateSucceededSpec)

/-- ITS FALSE NEIGHBOUR: 'it returns false'. Refute it at one input. -/
def fnExactRateSucceededWrong : ChangeSpec := { name := "fnExactRateSucceeded", fn := fun _ => fun
  | [d] => { results := [.lit (.bool false)], args := [d] }
  | _ => none }
def FnExactRateSucceededWrongFalsely : Prop := fnExactRateSucceededRow.holds Try.pinned (OpenSpec.ofChange fnExactRateSucceededWrong)

/-- 'laws.FnExactRateFailed': WHATEVER THE INPUT: true; the input reads as it did. -/
def fnExactRateFailedSpec : ChangeSpec := { name := "fnExactRateFailed", fn := fun _ => fun
  | [d] => { results := [.lit (.bool true)], args := [d] }
  | _ => none }
def fnExactRateFailedRow : OpenClaim := { program := "ytejjafmppihneaa", sum := "20f120f5856c81367c2b394202a49d583c90ef19c43f18b614e9c7b3bc09be77", func := "loop.example/g00511/laws.FnExactRateFailed", spec := "fnExactRateFailed", apart := false }
def FnExactRateFailedSaid : Prop := fnExactRateFailedRow.holds Try.pinned (OpenSpec.ofChange fnExactRateFailedSpec)

/-- ITS FALSE NEIGHBOUR: 'it returns false'. Refute it at one input. -/
def fnExactRateFailedWrong : ChangeSpec := { name := "fnExactRateFailed", fn := fun _ => fun
  | [d] => { results := [.lit (.bool false)], args := [d] }
  | _ => none }
def FnExactRateFailedWrongFalsely : Prop := fnExactRateFailedRow.holds Try.pinned (OpenSpec.ofChange fnExactRateFailedWrong)

/-- 'laws.FnExactApplyOutcomes': WHATEVER THE INPUT: true; the input reads as it did. -/
def fnExactApplyOutcomesSpec : ChangeSpec := { name := "fnExactApplyOutcomes", fn := fun _ => fun
  | [d1, d2] => { results := [.lit (.bool true)], args := [d1, d2] }
  | _ => none }
def fnExactApplyOutcomesRow : OpenClaim := { program := "ytejjafmppihneaa", sum := "20f120f5856c81367c2b394202a49d583c90ef19c43f18b614e9c7b3bc09be77", func := "loop.example/g00511/laws.FnExactApplyOutcomes", spec := "fnExactApplyOutcomes", apart := false }
def FnExactApplyOutcomesSaid : Prop := fnExactApplyOutcomesRow.holds Try.pinned (OpenSpec.ofChange fnExactApplyOutcomesSpec)

/-- ITS FALSE NEIGHBOUR: 'it returns false'. Refute it at one input. -/
def fnExactApplyOutcomesWrong : ChangeSpec := { name := "fnExactApplyOutcomes", fn := fun _ => fun
  | [d1, d2] => { results := [.lit (.bool false)], args := [d1, d2] }
  | _ => none }
def FnExactApplyOutcomesWrongFalsely : Prop := fnExactApplyOutcomesRow.holds Try.pinned (OpenSpec.ofChange fnExactApplyOutcomesWrong)

/-- 'laws.FnExactFastestRate': WHATEVER THE INPUT: true; the input reads as it did. -/
def fnExactFastestRateSpec : ChangeSpec := { name := "fnExactFastestRate", fn := fun _ => fun
  | [d1, d2] => { results := [.lit (.bool true)], args := [d1, d2] }
  | _ => none }
def fnExactFastestRateRow : OpenClaim := { program := "ytejjafmppihneaa", sum := "20f120f5856c81367c2b394202a49d583c90ef19c43f18b614e9c7b3bc09be77", func := "loop.example/g00511/laws.FnExactFastestRate", spec := "fnExactFastestRate", unfollowed := true, recurses := true, apart := false }
def FnExactFastestRateSaid : Prop := fnExactFastestRateRow.holds Try.pinned (OpenSpec.ofChange fnExactFastestRateSpec)

/-- ITS FALSE NEIGHBOUR: 'it returns false'. Refute it at one input. -/
def fnExactFastestRateWrong : ChangeSpec := { name := "fnExactFastestRate", fn := fun _ => fun
  | [d1, d2] => { results := [.lit (.bool false)], args := [d1, d2] }
  | _ => none }
def FnExactFastestRateWrongFalsely : Prop := fnExactFastestRateRow.holds Try.pinned (OpenSpec.ofChange fnExactFastestRateWrong)

/-- 'laws.FnReorderBuffers': WHATEVER THE INPUT: true; the input reads as it did. -/
def fnReorderBuffersSpec : ChangeSpec := { name := "fnReorderBuffers", fn := fun _ => fun
  | [d] => { results := [.lit (.bool true)], args := [d] }
  | _ => none }
def fnReorderBuffersRow : OpenClaim := { program := "ytejjafmppihneaa", sum := "20f120f5856c81367c2b394202a49d583c90ef19c43f18b614e9c7b3bc09be77", func := "loop.example/g00511/laws.FnReorderBuffers", spec := "fnReorderBuffers", unfollowed := true, recurses := true, apart := false }
def FnReorderBuffersSaid : Prop := fnReorderBuffersRow.holds Try.pinned (OpenSpec.ofChange fnReorderBuffersSpec)

/-- ITS FALSE NEIGHBOUR: 'it returns false'. Refute it at one input. -/
def fnReorderBuffersWrong : ChangeSpec := { name := "fnReorderBuffers", fn := fun _ => fun
  | [d] => { results := [.lit (.bool false)], args := [d] }
  | _ => none }
def FnReorderBuffersWrongFalsely : Prop := fnReorderBuffersRow.holds Try.pinned (OpenSpec.ofChange fnReorderBuffersWrong)

/- THE SECOND FORM. 'bulk': how many values and letters a reading holds, each counted each time it is reached (what is shared counts as often as it is met; a slice's spare places count too). A statement '..UptoSaid' is the law's where the arguments, and the package variables that the reading takes, are together of bulk at most 1048576: NARROWER than '..Said'. Prove '..Said' where nothing that the law and all that it calls make is longer than what came in: it says more and counts as full. Else prove '..UptoSaid'. A law counts once. -/
mutual
def uptoBulk {H : Type} : DataW H → Nat
  | .lit (.string bytes) => bytes.length + 1
  | .lit _ => 1
  | .nil => 1
  | .ptr d => uptoBulk d + 1
  | .slice elems spare => uptoBulkAll elems + uptoBulkAll spare + 1
  | .agg parts => uptoBulkAll parts + 1
  | .iface _ d => uptoBulk d + 1
  | .map entries => uptoBulkEntries entries + 1
  | .held _ => 1
def uptoBulkAll {H : Type} : List (DataW H) → Nat
  | [] => 0
  | d :: r => uptoBulk d + uptoBulkAll r
def uptoBulkEntries {H : Type} : List (Lit × DataW H) → Nat
  | [] => 0
  | x :: r => uptoBulkEntry x + uptoBulkEntries r
def uptoBulkEntry {H : Type} : Lit × DataW H → Nat
  | (.string bytes, d) => bytes.length + uptoBulk d + 1
  | (_, d) => uptoBulk d + 1
 end
def uptoSmall : (H : Type) → List (DataW H) → Bool := fun _ ds => decide (uptoBulkAll ds ≤ 1048576)
def OpenSpec.upto (s : _root_.Go.ChangeSpec) : _root_.Go.OpenSpec := { _root_.Go.OpenSpec.ofChange s with cond := some uptoSmall }

/-- 'laws.FnRates', WHERE WHAT IT READS IS OF BULK AT MOST 1048576: true; the input reads as it did. -/
def fnRatesUptoRow : OpenClaim := { program := "ytejjafmppihneaa", sum := "20f120f5856c81367c2b394202a49d583c90ef19c43f18b614e9c7b3bc09be77", func := "loop.example/g00511/laws.FnRates", spec := "fnRates", unfollowed := true, recurses := true, apart := false, narrowed := true }
def FnRatesUptoSaid : Prop := fnRatesUptoRow.holds Try.pinned (OpenSpec.upto fnRatesSpec)

/-- 'laws.FnRateAdaptation', WHERE WHAT IT READS IS OF BULK AT MOST 1048576: true; the input reads as it did. -/
def fnRateAdaptationUptoRow : OpenClaim := { program := "ytejjafmppihneaa", sum := "20f120f5856c81367c2b394202a49d583c90ef19c43f18b614e9c7b3bc09be77", func := "loop.example/g00511/laws.FnRateAdaptation", spec := "fnRateAdaptation", apart := false, narrowed := true }
def FnRateAdaptationUptoSaid : Prop := fnRateAdaptationUptoRow.holds Try.pinned (OpenSpec.upto fnRateAdaptationSpec)

/-- 'laws.FnExactNewRateState', WHERE WHAT IT READS IS OF BULK AT MOST 1048576: true; the input reads as it did. -/
def fnExactNewRateStateUptoRow : OpenClaim := { program := "ytejjafmppihneaa", sum := "20f120f5856c81367c2b394202a49d583c90ef19c43f18b614e9c7b3bc09be77", func := "loop.example/g00511/laws.FnExactNewRateState", spec := "fnExactNewRateState", apart := false, narrowed := true }
def FnExactNewRateStateUptoSaid : Prop := fnExactNewRateStateUptoRow.holds Try.pinned (OpenSpec.upto fnExactNewRateStateSpec)

/-- 'laws.FnExactIsValidRateState', WHERE WHAT IT READS IS OF BULK AT MOST 1048576: true; the input reads as it did. -/
def fnExactIsValidRateStateUptoRow : OpenClaim := { program := "ytejjafmppihneaa", sum := "20f120f5856c81367c2b394202a49d583c90ef19c43f18b614e9c7b3bc09be77", func := "loop.example/g00511/laws.FnExactIsValidRateState", spec := "fnExactIsValidRateState", apart := false, narrowed := true }
def FnExactIsValidRateStateUptoSaid : Prop := fnExactIsValidRateStateUptoRow.holds Try.pinned (OpenSpec.upto fnExactIsValidRateStateSpec)

/-- 'laws.FnExactRateSucceeded', WHERE WHAT IT READS IS OF BULK AT MOST 1048576: true; the input reads as it did. -/
def fnExactRateSucceededUptoRow : OpenClaim := { program := "ytejjafmppihneaa", sum := "20f120f5856c81367c2b394202a49d583c90ef19c43f18b614e9c7b3bc09be77", func := "loop.example/g00511/laws.FnExactRateSucceeded", spec := "fnExactRateSucceeded", apart := false, narrowed := true }
def FnExactRateSucceededUptoSaid : Prop := fnExactRateSucceededUptoRow.holds Try.pinned (OpenSpec.upto fnExactRateSucceededSpec)

/-- 'laws.FnExactRateFailed', WHERE WHAT IT READS IS OF BULK AT MOST 1048576: true; the input reads as it did. -/
def fnExactRateFailedUptoRow : OpenClaim := { program := "ytejjafmppihneaa", sum := "20f120f5856c81367c2b394202a49d583c90ef19c43f18b614e9c7b3bc09be77", func := "loop.example/g00511/laws.FnExactRateFailed", spec := "fnExactRateFailed", apart := false, narrowed := true }
def FnExactRateFailedUptoSaid : Prop := fnExactRateFailedUptoRow.holds Try.pinned (OpenSpec.upto fnExactRateFailedSpec)

/-- 'laws.FnExactApplyOutcomes', WHERE WHAT IT READS IS OF BULK AT MOST 1048576: true; the input reads as it did. -/
def fnExactApplyOutcomesUptoRow : OpenClaim := { program := "ytejjafmppihneaa", sum := "20f120f5856c81367c2b394202a49d583c90ef19c43f18b614e9c7b3bc09be77", func := "loop.example/g00511/laws.FnExactApplyOutcomes", spec := "fnExactApplyOutcomes", apart := false, narrowed := true }
def FnExactApplyOutcomesUptoSaid : Prop := fnExactApplyOutcomesUptoRow.holds Try.pinned (OpenSpec.upto fnExactApplyOutcomesSpec)

/-- 'laws.FnExactFastestRate', WHERE WHAT IT READS IS OF BULK AT MOST 1048576: true; the input reads as it did. -/
def fnExactFastestRateUptoRow : OpenClaim := { program := "ytejjafmppihneaa", sum := "20f120f5856c81367c2b394202a49d583c90ef19c43f18b614e9c7b3bc09be77", func := "loop.example/g00511/laws.FnExactFastestRate", spec := "fnExactFastestRate", unfollowed := true, recurses := true, apart := false, narrowed := true }
def FnExactFastestRateUptoSaid : Prop := fnExactFastestRateUptoRow.holds Try.pinned (OpenSpec.upto fnExactFastestRateSpec)

/-- 'laws.FnReorderBuffers', WHERE WHAT IT READS IS OF BULK AT MOST 1048576: true; the input reads as it did. -/
def fnReorderBuffersUptoRow : OpenClaim := { program := "ytejjafmppihneaa", sum := "20f120f5856c81367c2b394202a49d583c90ef19c43f18b614e9c7b3bc09be77", func := "loop.example/g00511/laws.FnReorderBuffers", spec := "fnReorderBuffers", unfollowed := true, recurses := true, apart := false, narrowed := true }
def FnReorderBuffersUptoSaid : Prop := fnReorderBuffersUptoRow.holds Try.pinned (OpenSpec.upto fnReorderBuffersSpec)

end Rows
end Go.Proofs.Ytejjafmppihneaa
