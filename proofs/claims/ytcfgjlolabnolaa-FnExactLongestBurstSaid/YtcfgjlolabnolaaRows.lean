/-
  No cell of these rows narrows 'for every input' (looked for: loops, veiled, ifaces, maps, wideKeys, modest, calm, conditions, laid).
  DERIVED. THE GIVEN ROWS OF THIS SEAT. 7 by the template 'for every input the law returns true; each argument reads behind the call as it read before'; 0 by the template 'total and deterministic' (their statements: YtcfgjlolabnolaaTotals.lean).
  GIVEN WITH THE SEED: the statements are not yours to turn. If you find one false, say at which input.
  Laid BY PROGRAM, IN A SANDBOX (cutbox-rows.mjs): the forced cells as the released guide's own fill.sh prints them over the translation f0eeadc15a0d24cc… (all of the seat's roots in one cut). By AI agents, Wed Nov 11 2026. No macro, syntax, notation, axiom, sorry.
-/
import Derived.Test.YtcfgjlolabnolaaChecked
import GoSem.Claim
import GoSem.ClaimJoined
import GoSem.ClaimMapViews
import Derived.JoinedTies
import Derived.KernelRfl
namespace Go.Proofs.Ytcfgjlolabnolaa
/- THE CELL 'sum', in the pinned program and in every row, IS THE sha256 OF THE DUMP (.gsa) THAT YtcfgjlolabnolaaProg.lean LOADS. Nothing in Lean hashes anything: it is a label: what it is worth is what the hold of that sum in a sandbox is worth. -/
noncomputable def Try.pinned : Pinned := { name := "ytcfgjlolabnolaa", sum := "f0eeadc15a0d24cc213d4295214e4bf615c0645011092d6b59e5110a8faae3b3", checked := Try.checked }
namespace Rows
def none {H : Type} : Left H := { results := [], args := [] }

/-- 'laws.FnErrorPatterns': WHATEVER THE INPUT: true; the input reads as it did. -/
def fnErrorPatternsSpec : ChangeSpec := { name := "fnErrorPatterns", fn := fun _ => fun
  | [d] => { results := [.lit (.bool true)], args := [d] }
  | _ => none }
def fnErrorPatternsRow : OpenClaim := { program := "ytcfgjlolabnolaa", sum := "f0eeadc15a0d24cc213d4295214e4bf615c0645011092d6b59e5110a8faae3b3", func := "loop.example/g00511/laws.FnErrorPatterns", spec := "fnErrorPatterns", unfollowed := true, recurses := true, apart := false }
def FnErrorPatternsSaid : Prop := fnErrorPatternsRow.holds Try.pinned (OpenSpec.ofChange fnErrorPatternsSpec)

/-- ITS FALSE NEIGHBOUR: 'it returns false'. Refute it at one input. -/
def fnErrorPatternsWrong : ChangeSpec := { name := "fnErrorPatterns", fn := fun _ => fun
  | [d] => { results := [.lit (.bool false)], args := [d] }
  | _ => none }
def FnErrorPatternsWrongFalsely : Prop := fnErrorPatternsRow.holds Try.pinned (OpenSpec.ofChange fnErrorPatternsWrong)

/-- 'laws.FnExactFlipBits': WHATEVER THE INPUT: true; the input reads as it did. -/
def fnExactFlipBitsSpec : ChangeSpec := { name := "fnExactFlipBits", fn := fun _ => fun
  | [d1, d2] => { results := [.lit (.bool true)], args := [d1, d2] }
  | _ => none }
def fnExactFlipBitsRow : OpenClaim := { program := "ytcfgjlolabnolaa", sum := "f0eeadc15a0d24cc213d4295214e4bf615c0645011092d6b59e5110a8faae3b3", func := "loop.example/g00511/laws.FnExactFlipBits", spec := "fnExactFlipBits", apart := false }
def FnExactFlipBitsSaid : Prop := fnExactFlipBitsRow.holds Try.pinned (OpenSpec.ofChange fnExactFlipBitsSpec)

/-- ITS FALSE NEIGHBOUR: 'it returns false'. Refute it at one input. -/
def fnExactFlipBitsWrong : ChangeSpec := { name := "fnExactFlipBits", fn := fun _ => fun
  | [d1, d2] => { results := [.lit (.bool false)], args := [d1, d2] }
  | _ => none }
def FnExactFlipBitsWrongFalsely : Prop := fnExactFlipBitsRow.holds Try.pinned (OpenSpec.ofChange fnExactFlipBitsWrong)

/-- 'laws.FnExactErrorPattern': WHATEVER THE INPUT: true; the input reads as it did. -/
def fnExactErrorPatternSpec : ChangeSpec := { name := "fnExactErrorPattern", fn := fun _ => fun
  | [d1, d2, d3] => { results := [.lit (.bool true)], args := [d1, d2, d3] }
  | _ => none }
def fnExactErrorPatternRow : OpenClaim := { program := "ytcfgjlolabnolaa", sum := "f0eeadc15a0d24cc213d4295214e4bf615c0645011092d6b59e5110a8faae3b3", func := "loop.example/g00511/laws.FnExactErrorPattern", spec := "fnExactErrorPattern", apart := false }
def FnExactErrorPatternSaid : Prop := fnExactErrorPatternRow.holds Try.pinned (OpenSpec.ofChange fnExactErrorPatternSpec)

/-- ITS FALSE NEIGHBOUR: 'it returns false'. Refute it at one input. -/
def fnExactErrorPatternWrong : ChangeSpec := { name := "fnExactErrorPattern", fn := fun _ => fun
  | [d1, d2, d3] => { results := [.lit (.bool false)], args := [d1, d2, d3] }
  | _ => none }
def FnExactErrorPatternWrongFalsely : Prop := fnExactErrorPatternRow.holds Try.pinned (OpenSpec.ofChange fnExactErrorPatternWrong)

/-- 'laws.FnExactBurstPattern': WHATEVER THE INPUT: true; the input reads as it did. -/
def fnExactBurstPatternSpec : ChangeSpec := { name := "fnExactBurstPattern", fn := fun _ => fun
  | [d1, d2] => { results := [.lit (.bool true)], args := [d1, d2] }
  | _ => none }
def fnExactBurstPatternRow : OpenClaim := { program := "ytcfgjlolabnolaa", sum := "f0eeadc15a0d24cc213d4295214e4bf615c0645011092d6b59e5110a8faae3b3", func := "loop.example/g00511/laws.FnExactBurstPattern", spec := "fnExactBurstPattern", apart := false }
def FnExactBurstPatternSaid : Prop := fnExactBurstPatternRow.holds Try.pinned (OpenSpec.ofChange fnExactBurstPatternSpec)

/-- ITS FALSE NEIGHBOUR: 'it returns false'. Refute it at one input. -/
def fnExactBurstPatternWrong : ChangeSpec := { name := "fnExactBurstPattern", fn := fun _ => fun
  | [d1, d2] => { results := [.lit (.bool false)], args := [d1, d2] }
  | _ => none }
def FnExactBurstPatternWrongFalsely : Prop := fnExactBurstPatternRow.holds Try.pinned (OpenSpec.ofChange fnExactBurstPatternWrong)

/-- 'laws.FnExactMergePatterns': WHATEVER THE INPUT: true; the input reads as it did. -/
def fnExactMergePatternsSpec : ChangeSpec := { name := "fnExactMergePatterns", fn := fun _ => fun
  | [d1, d2] => { results := [.lit (.bool true)], args := [d1, d2] }
  | _ => none }
def fnExactMergePatternsRow : OpenClaim := { program := "ytcfgjlolabnolaa", sum := "f0eeadc15a0d24cc213d4295214e4bf615c0645011092d6b59e5110a8faae3b3", func := "loop.example/g00511/laws.FnExactMergePatterns", spec := "fnExactMergePatterns", recurses := true, apart := false }
def FnExactMergePatternsSaid : Prop := fnExactMergePatternsRow.holds Try.pinned (OpenSpec.ofChange fnExactMergePatternsSpec)

/-- ITS FALSE NEIGHBOUR: 'it returns false'. Refute it at one input. -/
def fnExactMergePatternsWrong : ChangeSpec := { name := "fnExactMergePatterns", fn := fun _ => fun
  | [d1, d2] => { results := [.lit (.bool false)], args := [d1, d2] }
  | _ => none }
def FnExactMergePatternsWrongFalsely : Prop := fnExactMergePatternsRow.holds Try.pinned (OpenSpec.ofChange fnExactMergePatternsWrong)

/-- 'laws.FnExactIsValidPattern': WHATEVER THE INPUT: true; the input reads as it did. -/
def fnExactIsValidPatternSpec : ChangeSpec := { name := "fnExactIsValidPattern", fn := fun _ => fun
  | [d1, d2] => { results := [.lit (.bool true)], args := [d1, d2] }
  | _ => none }
def fnExactIsValidPatternRow : OpenClaim := { program := "ytcfgjlolabnolaa", sum := "f0eeadc15a0d24cc213d4295214e4bf615c0645011092d6b59e5110a8faae3b3", func := "loop.example/g00511/laws.FnExactIsValidPattern", spec := "fnExactIsValidPattern", unfollowed := true, recurses := true, apart := false }
def FnExactIsValidPatternSaid : Prop := fnExactIsValidPatternRow.holds Try.pinned (OpenSpec.ofChange fnExactIsValidPatternSpec)

/-- ITS FALSE NEIGHBOUR: 'it returns false'. Refute it at one input. -/
def fnExactIsValidPatternWrong : ChangeSpec := { name := "fnExactIsValidPattern", fn := fun _ => fun
  | [d1, d2] => { results := [.lit (.bool false)], args := [d1, d2] }
  | _ => none }
def FnExactIsValidPatternWrongFalsely : Prop := fnExactIsValidPatternRow.holds Try.pinned (OpenSpec.ofChange fnExactIsValidPatternWrong)

/-- 'laws.FnExactLongestBurst': WHATEVER THE INPUT: true; the input reads as it did. -/
def fnExactLongestBurstSpec : ChangeSpec := { name := "fnExactLongestBurst", fn := fun _ => fun
  | [d] => { results := [.lit (.bool true)], args := [d] }
  | _ => none }
def fnExactLongestBurstRow : OpenClaim := { program := "ytcfgjlolabnolaa", sum := "f0eeadc15a0d24cc213d4295214e4bf615c0645011092d6b59e5110a8faae3b3", func := "loop.example/g00511/laws.FnExactLongestBurst", spec := "fnExactLongestBurst", apart := false }
def FnExactLongestBurstSaid : Prop := fnExactLongestBurstRow.holds Try.pinned (OpenSpec.ofChange fnExactLongestBurstSpec)

/-- ITS FALSE NEIGHBOUR: 'it returns false'. Refute it at one input. -/
def fnExactLongestBurstWrong : ChangeSpec := { name := "fnExactLongestBurst", fn := fun _ => fun
  | [d] => { results := [.lit (.bool false)], args := [d] }
  | _ => none }
def FnExactLongestBurstWrongFalsely : Prop := fnExactLongestBurstRow.holds Try.pinned (OpenSpec.ofChange fnExactLongestBurstWrong)

/- THE SECOND FORM. 'bulk': how many values and letters a reading holds, each counted each time it is reached (what is shared counts as often as it is met; a slice's spare places count too). A statement '..UptoSaid' is the law's where the arguments, and the package variables that the reading takes, are together of bulk at most 1048576: NARROWER than '..Said'. Prove '..Said' where nothing that the law and all that it calls make is longer than what came in: it says more and counts as full. Else prove '..UptoSaid'. A law counts once. -/
mutual
def uptoBulk {H : Type} : DataW H → Nat
  | .lit (.string bytes) => bytes.length + 1
  | .lit _ => 1
  | .nil => 1
  | .ptr d => uptoBulk d + 1
  | .slice elems spare => uptoBulkAll elems + uptoBulkAll spare + 1
  | .agg parts => uptoBulkAll parts + 1
  | .iface _ d => uptoBulk d + 1
  | .map entries => uptoBulkEntries entries + 1
  | .held _ => 1
def uptoBulkAll {H : Type} : List (DataW H) → Nat
  | [] => 0
  | d :: r => uptoBulk d + uptoBulkAll r
def uptoBulkEntries {H : Type} : List (Lit × DataW H) → Nat
  | [] => 0
  | x :: r => uptoBulkEntry x + uptoBulkEntries r
def uptoBulkEntry {H : Type} : Lit × DataW H → Nat
  | (.string bytes, d) => bytes.length + uptoBulk d + 1
  | (_, d) => uptoBulk d + 1
 end
def uptoSmall : (H : Type) → List (DataW H) → Bool := fun _ ds => decide (uptoBulkAll ds ≤ 1048576)
def OpenSpec.upto (s : _root_.Go.ChangeSpec) : _root_.Go.OpenSpec := { _root_.Go.OpenSpec.ofChange s with cond := some uptoSmall }

/-- 'laws.FnErrorPatterns', WHERE WHAT IT READS IS OF BULK AT MOST 1048576: true; the input reads as it did. -/
def fnErrorPatternsUptoRow : OpenClaim := { program := "ytcfgjlolabnolaa", sum := "f0eeadc15a0d24cc213d4295214e4bf615c0645011092d6b59e5110a8faae3b3", func := "loop.example/g00511/laws.FnErrorPatterns", spec := "fnErrorPatterns", unfollowed := true, recurses := true, apart := false, narrowed := true }
def FnErrorPatternsUptoSaid : Prop := fnErrorPatternsUptoRow.holds Try.pinned (OpenSpec.upto fnErrorPatternsSpec)

/-- 'laws.FnExactFlipBits', WHERE WHAT IT READS IS OF BULK AT MOST 1048576: true; the input reads as it did. -/
def fnExactFlipBitsUptoRow : OpenClaim := { program := "ytcfgjlolabnolaa", sum := "f0eeadc15a0d24cc213d4295214e4bf615c0645011092d6b59e5110a8faae3b3", func := "loop.example/g00511/laws.FnExactFlipBits", spec := "fnExactFlipBits", apart := false, narrowed := true }
def FnExactFlipBitsUptoSaid : Prop := fnExactFlipBitsUptoRow.holds Try.pinned (OpenSpec.upto fnExactFlipBitsSpec)

/-- 'laws.FnExactErrorPattern', WHERE WHAT IT READS IS OF BULK AT MOST 1048576: true; the input reads as it did. -/
def fnExactErrorPatternUptoRow : OpenClaim := { program := "ytcfgjlolabnolaa", sum := "f0eeadc15a0d24cc213d4295214e4bf615c0645011092d6b59e5110a8faae3b3", func := "loop.example/g00511/laws.FnExactErrorPattern", spec := "fnExactErrorPattern", apart := false, narrowed := true }
def FnExactErrorPatternUptoSaid : Prop := fnExactErrorPatternUptoRow.holds Try.pinned (OpenSpec.upto fnExactErrorPatternSpec)

/-- 'laws.FnExactBurstPattern', WHERE WHAT IT READS IS OF BULK AT MOST 1048576: true; the input reads as it did. -/
def fnExactBurstPatternUptoRow : OpenClaim := { program := "ytcfgjlolabnolaa", sum := "f0eeadc15a0d24cc213d4295214e4bf615c0645011092d6b59e5110a8faae3b3", func := "loop.example/g00511/laws.FnExactBurstPattern", spec := "fnExactBurstPattern", apart := false, narrowed := true }
def FnExactBurstPatternUptoSaid : Prop := fnExactBurstPatternUptoRow.holds Try.pinned (OpenSpec.upto fnExactBurstPatternSpec)

/-- 'laws.FnExactMergePatterns', WHERE WHAT IT READS IS OF BULK AT MOST 1048576: true; the input reads as it did. -/
def fnExactMergePatternsUptoRow : OpenClaim := { program := "ytcfgjlolabnolaa", sum := "f0eeadc15a0d24cc213d4295214e4bf615c0645011092d6b59e5110a8faae3b3", func := "loop.example/g00511/laws.FnExactMergePatterns", spec := "fnExactMergePatterns", recurses := true, apart := false, narrowed := true }
def FnExactMergePatternsUptoSaid : Prop := fnExactMergePatternsUptoRow.holds Try.pinned (OpenSpec.upto fnExactMergePatternsSpec)

/-- 'laws.FnExactIsValidPattern', WHERE WHAT IT READS IS OF BULK AT MOST 1048576: true; the input reads as it did. -/
def fnExactIsValidPatternUptoRow : OpenClaim := { program := "ytcfgjlolabnolaa", sum := "f0eeadc15a0d24cc213d4295214e4bf615c0645011092d6b59e5110a8faae3b3", func := "loop.example/g00511/laws.FnExactIsValidPattern", spec := "fnExactIsValidPattern", unfollowed := true, recurses := true, apart := false, narrowed := true }
def FnExactIsValidPatternUptoSaid : Prop := fnExactIsValidPatternUptoRow.holds Try.pinned (OpenSpec.upto fnExactIsValidPatternSpec)

/-- 'laws.FnExactLongestBurst', WHERE WHAT IT READS IS OF BULK AT MOST 1048576: true; the input reads as it did. -/
def fnExactLongestBurstUptoRow : OpenClaim := { program := "ytcfgjlolabnolaa", sum := "f0eeadc15a0d24cc213d4295214e4bf615c0645011092d6b59e5110a8faae3b3", func := "loop.example/g00511/laws.FnExactLongestBurst", spec := "fnExactLongestBurst", apart := false, narrowed := true }
def FnExactLongestBurstUptoSaid : Prop := fnExactLongestBurstUptoRow.holds Try.pinned (OpenSpec.upto fnExactLongestBurstSpec)

end Rows
end Go.Proofs.Ytcfgjlolabnolaa
