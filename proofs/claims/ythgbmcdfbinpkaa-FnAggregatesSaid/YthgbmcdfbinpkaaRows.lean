/-
  No cell of these rows narrows 'for every input' (looked for: loops, veiled, ifaces, maps, wideKeys, modest, calm, conditions, laid).
  DERIVED. THE GIVEN ROWS OF THIS SEAT. 9 by the template 'for every input the law returns true; each argument reads behind the call as it read before'; 0 by the template 'total and deterministic' (their statements: YthgbmcdfbinpkaaTotals.lean).
  GIVEN WITH THE SEED: the statements are not yours to turn. If you find one false, say at which input.
  Laid BY PROGRAM, IN A SANDBOX (cutbox-rows.mjs): the forced cells as the released guide's own fill.sh prints them over the translation b1188699229d41d6… (all of the seat's roots in one cut). By AI agents, Wed Nov 11 2026. No macro, syntax, notation, axiom, sorry.
-/
import Derived.Test.YthgbmcdfbinpkaaChecked
import GoSem.Claim
import GoSem.ClaimJoined
import GoSem.ClaimMapViews
import Derived.JoinedTies
import Derived.KernelRfl
namespace Go.Proofs.Ythgbmcdfbinpkaa
/- THE CELL 'sum', in the pinned program and in every row, IS THE sha256 OF THE DUMP (.gsa) THAT YthgbmcdfbinpkaaProg.lean LOADS. Nothing in Lean hashes anything: it is a label: what it is worth is what the hold of that sum in a sandbox is worth. -/
noncomputable def Try.pinned : Pinned := { name := "ythgbmcdfbinpkaa", sum := "b1188699229d41d69742c7ebf378ad54cd3e47095a84722c3dea4d5e2b2087f0", checked := Try.checked }
namespace Rows
def none {H : Type} : Left H := { results := [], args := [] }

/-- 'laws.FnAggregates': WHATEVER THE INPUT: true; the input reads as it did. -/
def fnAggregatesSpec : ChangeSpec := { name := "fnAggregates", fn := fun _ => fun
  | [d] => { results := [.lit (.bool true)], args := [d] }
  | _ => none }
def fnAggregatesRow : OpenClaim := { program := "ythgbmcdfbinpkaa", sum := "b1188699229d41d69742c7ebf378ad54cd3e47095a84722c3dea4d5e2b2087f0", func := "loop.example/g00511/laws.FnAggregates", spec := "fnAggregates", unfollowed := true, recurses := true, apart := false }
def FnAggregatesSaid : Prop := fnAggregatesRow.holds Try.pinned (OpenSpec.ofChange fnAggregatesSpec)

/-- ITS FALSE NEIGHBOUR: 'it returns false'. Refute it at one input. -/
def fnAggregatesWrong : ChangeSpec := { name := "fnAggregates", fn := fun _ => fun
  | [d] => { results := [.lit (.bool false)], args := [d] }
  | _ => none }
def FnAggregatesWrongFalsely : Prop := fnAggregatesRow.holds Try.pinned (OpenSpec.ofChange fnAggregatesWrong)

/-- 'laws.FnDamagedAggregates': WHATEVER THE INPUT: true; the input reads as it did. -/
def fnDamagedAggregatesSpec : ChangeSpec := { name := "fnDamagedAggregates", fn := fun _ => fun
  | [d] => { results := [.lit (.bool true)], args := [d] }
  | _ => none }
def fnDamagedAggregatesRow : OpenClaim := { program := "ythgbmcdfbinpkaa", sum := "b1188699229d41d69742c7ebf378ad54cd3e47095a84722c3dea4d5e2b2087f0", func := "loop.example/g00511/laws.FnDamagedAggregates", spec := "fnDamagedAggregates", unfollowed := true, recurses := true, apart := false }
def FnDamagedAggregatesSaid : Prop := fnDamagedAggregatesRow.holds Try.pinned (OpenSpec.ofChange fnDamagedAggregatesSpec)

/-- ITS FALSE NEIGHBOUR: 'it returns false'. Refute it at one input. -/
def fnDamagedAggregatesWrong : ChangeSpec := { name := "fnDamagedAggregates", fn := fun _ => fun
  | [d] => { results := [.lit (.bool false)], args := [d] }
  | _ => none }
def FnDamagedAggregatesWrongFalsely : Prop := fnDamagedAggregatesRow.holds Try.pinned (OpenSpec.ofChange fnDamagedAggregatesWrong)

/-- 'laws.FnExactDelimiterBytes': WHATEVER THE INPUT: true; the input reads as it did. -/
def fnExactDelimiterBytesSpec : ChangeSpec := { name := "fnExactDelimiterBytes", fn := fun _ => fun
  | [d] => { results := [.lit (.bool true)], args := [d] }
  | _ => none }
def fnExactDelimiterBytesRow : OpenClaim := { program := "ythgbmcdfbinpkaa", sum := "b1188699229d41d69742c7ebf378ad54cd3e47095a84722c3dea4d5e2b2087f0", func := "loop.example/g00511/laws.FnExactDelimiterBytes", spec := "fnExactDelimiterBytes", unfollowed := true, recurses := true, apart := false }
def FnExactDelimiterBytesSaid : Prop := fnExactDelimiterBytesRow.holds Try.pinned (OpenSpec.ofChange fnExactDelimiterBytesSpec)

/-- ITS FALSE NEIGHBOUR: 'it returns false'. Refute it at one input. -/
def fnExactDelimiterBytesWrong : ChangeSpec := { name := "fnExactDelimiterBytes", fn := fun _ => fun
  | [d] => { results := [.lit (.bool false)], args := [d] }
  | _ => none }
def FnExactDelimiterBytesWrongFalsely : Prop := fnExactDelimiterBytesRow.holds Try.pinned (OpenSpec.ofChange fnExactDelimiterBytesWrong)

/-- 'laws.FnExactParseDelimiter': WHATEVER THE INPUT: true; the input reads as it did. -/
def fnExactParseDelimiterSpec : ChangeSpec := { name := "fnExactParseDelimiter", fn := fun _ => fun
  | [d1, d2] => { results := [.lit (.bool true)], args := [d1, d2] }
  | _ => none }
def fnExactParseDelimiterRow : OpenClaim := { program := "ythgbmcdfbinpkaa", sum := "b1188699229d41d69742c7ebf378ad54cd3e47095a84722c3dea4d5e2b2087f0", func := "loop.example/g00511/laws.FnExactParseDelimiter", spec := "fnExactParseDelimiter", unfollowed := true, recurses := true, apart := false }
def FnExactParseDelimiterSaid : Prop := fnExactParseDelimiterRow.holds Try.pinned (OpenSpec.ofChange fnExactParseDelimiterSpec)

/-- ITS FALSE NEIGHBOUR: 'it returns false'. Refute it at one input. -/
def fnExactParseDelimiterWrong : ChangeSpec := { name := "fnExactParseDelimiter", fn := fun _ => fun
  | [d1, d2] => { results := [.lit (.bool false)], args := [d1, d2] }
  | _ => none }
def FnExactParseDelimiterWrongFalsely : Prop := fnExactParseDelimiterRow.holds Try.pinned (OpenSpec.ofChange fnExactParseDelimiterWrong)

/-- 'laws.FnExactAggregateFrames': WHATEVER THE INPUT: true; the input reads as it did. -/
def fnExactAggregateFramesSpec : ChangeSpec := { name := "fnExactAggregateFrames", fn := fun _ => fun
  | [d] => { results := [.lit (.bool true)], args := [d] }
  | _ => none }
def fnExactAggregateFramesRow : OpenClaim := { program := "ythgbmcdfbinpkaa", sum := "b1188699229d41d69742c7ebf378ad54cd3e47095a84722c3dea4d5e2b2087f0", func := "loop.example/g00511/laws.FnExactAggregateFrames", spec := "fnExactAggregateFrames", unfollowed := true, recurses := true, apart := false }
def FnExactAggregateFramesSaid : Prop := fnExactAggregateFramesRow.holds Try.pinned (OpenSpec.ofChange fnExactAggregateFramesSpec)

/-- ITS FALSE NEIGHBOUR: 'it returns false'. Refute it at one input. -/
def fnExactAggregateFramesWrong : ChangeSpec := { name := "fnExactAggregateFrames", fn := fun _ => fun
  | [d] => { results := [.lit (.bool false)], args := [d] }
  | _ => none }
def FnExactAggregateFramesWrongFalsely : Prop := fnExactAggregateFramesRow.holds Try.pinned (OpenSpec.ofChange fnExactAggregateFramesWrong)

/-- 'laws.FnExactSplitAggregate': WHATEVER THE INPUT: true; the input reads as it did. -/
def fnExactSplitAggregateSpec : ChangeSpec := { name := "fnExactSplitAggregate", fn := fun _ => fun
  | [d] => { results := [.lit (.bool true)], args := [d] }
  | _ => none }
def fnExactSplitAggregateRow : OpenClaim := { program := "ythgbmcdfbinpkaa", sum := "b1188699229d41d69742c7ebf378ad54cd3e47095a84722c3dea4d5e2b2087f0", func := "loop.example/g00511/laws.FnExactSplitAggregate", spec := "fnExactSplitAggregate", unfollowed := true, recurses := true, apart := false }
def FnExactSplitAggregateSaid : Prop := fnExactSplitAggregateRow.holds Try.pinned (OpenSpec.ofChange fnExactSplitAggregateSpec)

/-- ITS FALSE NEIGHBOUR: 'it returns false'. Refute it at one input. -/
def fnExactSplitAggregateWrong : ChangeSpec := { name := "fnExactSplitAggregate", fn := fun _ => fun
  | [d] => { results := [.lit (.bool false)], args := [d] }
  | _ => none }
def FnExactSplitAggregateWrongFalsely : Prop := fnExactSplitAggregateRow.holds Try.pinned (OpenSpec.ofChange fnExactSplitAggregateWrong)

/-- 'laws.FnExactSubframeSize': WHATEVER THE INPUT: true; the input reads as it did. -/
def fnExactSubframeSizeSpec : ChangeSpec := { name := "fnExactSubframeSize", fn := fun _ => fun
  | [d] => { results := [.lit (.bool true)], args := [d] }
  | _ => none }
def fnExactSubframeSizeRow : OpenClaim := { program := "ythgbmcdfbinpkaa", sum := "b1188699229d41d69742c7ebf378ad54cd3e47095a84722c3dea4d5e2b2087f0", func := "loop.example/g00511/laws.FnExactSubframeSize", spec := "fnExactSubframeSize", apart := false }
def FnExactSubframeSizeSaid : Prop := fnExactSubframeSizeRow.holds Try.pinned (OpenSpec.ofChange fnExactSubframeSizeSpec)

/-- ITS FALSE NEIGHBOUR: 'it returns false'. Refute it at one input. -/
def fnExactSubframeSizeWrong : ChangeSpec := { name := "fnExactSubframeSize", fn := fun _ => fun
  | [d] => { results := [.lit (.bool false)], args := [d] }
  | _ => none }
def FnExactSubframeSizeWrongFalsely : Prop := fnExactSubframeSizeRow.holds Try.pinned (OpenSpec.ofChange fnExactSubframeSizeWrong)

/-- 'laws.FnExactAggregateSize': WHATEVER THE INPUT: true; the input reads as it did. -/
def fnExactAggregateSizeSpec : ChangeSpec := { name := "fnExactAggregateSize", fn := fun _ => fun
  | [d] => { results := [.lit (.bool true)], args := [d] }
  | _ => none }
def fnExactAggregateSizeRow : OpenClaim := { program := "ythgbmcdfbinpkaa", sum := "b1188699229d41d69742c7ebf378ad54cd3e47095a84722c3dea4d5e2b2087f0", func := "loop.example/g00511/laws.FnExactAggregateSize", spec := "fnExactAggregateSize", apart := false }
def FnExactAggregateSizeSaid : Prop := fnExactAggregateSizeRow.holds Try.pinned (OpenSpec.ofChange fnExactAggregateSizeSpec)

/-- ITS FALSE NEIGHBOUR: 'it returns false'. Refute it at one input. -/
def fnExactAggregateSizeWrong : ChangeSpec := { name := "fnExactAggregateSize", fn := fun _ => fun
  | [d] => { results := [.lit (.bool false)], args := [d] }
  | _ => none }
def FnExactAggregateSizeWrongFalsely : Prop := fnExactAggregateSizeRow.holds Try.pinned (OpenSpec.ofChange fnExactAggregateSizeWrong)

/-- 'laws.FnExactFitsAggregate': WHATEVER THE INPUT: true; the input reads as it did. -/
def fnExactFitsAggregateSpec : ChangeSpec := { name := "fnExactFitsAggregate", fn := fun _ => fun
  | [d1, d2, d3] => { results := [.lit (.bool true)], args := [d1, d2, d3] }
  | _ => none }
def fnExactFitsAggregateRow : OpenClaim := { program := "ythgbmcdfbinpkaa", sum := "b1188699229d41d69742c7ebf378ad54cd3e47095a84722c3dea4d5e2b2087f0", func := "loop.example/g00511/laws.FnExactFitsAggregate", spec := "fnExactFitsAggregate", apart := false }
def FnExactFitsAggregateSaid : Prop := fnExactFitsAggregateRow.holds Try.pinned (OpenSpec.ofChange fnExactFitsAggregateSpec)

/-- ITS FALSE NEIGHBOUR: 'it returns false'. Refute it at one input. -/
def fnExactFitsAggregateWrong : ChangeSpec := { name := "fnExactFitsAggregate", fn := fun _ => fun
  | [d1, d2, d3] => { results := [.lit (.bool false)], args := [d1, d2, d3] }
  | _ => none }
def FnExactFitsAggregateWrongFalsely : Prop := fnExactFitsAggregateRow.holds Try.pinned (OpenSpec.ofChange fnExactFitsAggregateWrong)

/- THE SECOND FORM. 'bulk': how many values and letters a reading holds, each counted each time it is reached (what is shared counts as often as it is met; a slice's spare places count too). A statement '..UptoSaid' is the law's where the arguments, and the package variables that the reading takes, are together of bulk at most 1048576: NARROWER than '..Said'. Prove '..Said' where nothing that the law and all that it calls make is longer than what came in: it says more and counts as full. Else prove '..UptoSaid'. A law counts once. -/
mutual
def uptoBulk {H : Type} : DataW H → Nat
  | .lit (.string bytes) => bytes.length + 1
  | .lit _ => 1
  | .nil => 1
  | .ptr d => uptoBulk d + 1
  | .slice elems spare => uptoBulkAll elems + uptoBulkAll spare + 1
  | .agg parts => uptoBulkAll parts + 1
  | .iface _ d => uptoBulk d + 1
  | .map entries => uptoBulkEntries entries + 1
  | .held _ => 1
def uptoBulkAll {H : Type} : List (DataW H) → Nat
  | [] => 0
  | d :: r => uptoBulk d + uptoBulkAll r
def uptoBulkEntries {H : Type} : List (Lit × DataW H) → Nat
  | [] => 0
  | x :: r => uptoBulkEntry x + uptoBulkEntries r
def uptoBulkEntry {H : Type} : Lit × DataW H → Nat
  | (.string bytes, d) => bytes.length + uptoBulk d + 1
  | (_, d) => uptoBulk d + 1
 end
def uptoSmall : (H : Type) → List (DataW H) → Bool := fun _ ds => decide (uptoBulkAll ds ≤ 1048576)
def OpenSpec.upto (s : _root_.Go.ChangeSpec) : _root_.Go.OpenSpec := { _root_.Go.OpenSpec.ofChange s with cond := some uptoSmall }

/-- 'laws.FnAggregates', WHERE WHAT IT READS IS OF BULK AT MOST 1048576: true; the input reads as it did. -/
def fnAggregatesUptoRow : OpenClaim := { program := "ythgbmcdfbinpkaa", sum := "b1188699229d41d69742c7ebf378ad54cd3e47095a84722c3dea4d5e2b2087f0", func := "loop.example/g00511/laws.FnAggregates", spec := "fnAggregates", unfollowed := true, recurses := true, apart := false, narrowed := true }
def FnAggregatesUptoSaid : Prop := fnAggregatesUptoRow.holds Try.pinned (OpenSpec.upto fnAggregatesSpec)

/-- 'laws.FnDamagedAggregates', WHERE WHAT IT READS IS OF BULK AT MOST 1048576: true; the input reads as it did. -/
def fnDamagedAggregatesUptoRow : OpenClaim := { program := "ythgbmcdfbinpkaa", sum := "b1188699229d41d69742c7ebf378ad54cd3e47095a84722c3dea4d5e2b2087f0", func := "loop.example/g00511/laws.FnDamagedAggregates", spec := "fnDamagedAggregates", unfollowed := true, recurses := true, apart := false, narrowed := true }
def FnDamagedAggregatesUptoSaid : Prop := fnDamagedAggregatesUptoRow.holds Try.pinned (OpenSpec.upto fnDamagedAggregatesSpec)

/-- 'laws.FnExactDelimiterBytes', WHERE WHAT IT READS IS OF BULK AT MOST 1048576: true; the input reads as it did. -/
def fnExactDelimiterBytesUptoRow : OpenClaim := { program := "ythgbmcdfbinpkaa", sum := "b1188699229d41d69742c7ebf378ad54cd3e47095a84722c3dea4d5e2b2087f0", func := "loop.example/g00511/laws.FnExactDelimiterBytes", spec := "fnExactDelimiterBytes", unfollowed := true, recurses := true, apart := false, narrowed := true }
def FnExactDelimiterBytesUptoSaid : Prop := fnExactDelimiterBytesUptoRow.holds Try.pinned (OpenSpec.upto fnExactDelimiterBytesSpec)

/-- 'laws.FnExactParseDelimiter', WHERE WHAT IT READS IS OF BULK AT MOST 1048576: true; the input reads as it did. -/
def fnExactParseDelimiterUptoRow : OpenClaim := { program := "ythgbmcdfbinpkaa", sum := "b1188699229d41d69742c7ebf378ad54cd3e47095a84722c3dea4d5e2b2087f0", func := "loop.example/g00511/laws.FnExactParseDelimiter", spec := "fnExactParseDelimiter", unfollowed := true, recurses := true, apart := false, narrowed := true }
def FnExactParseDelimiterUptoSaid : Prop := fnExactParseDelimiterUptoRow.holds Try.pinned (OpenSpec.upto fnExactParseDelimiterSpec)

/-- 'laws.FnExactAggregateFrames', WHERE WHAT IT READS IS OF BULK AT MOST 1048576: true; the input reads as it did. -/
def fnExactAggregateFramesUptoRow : OpenClaim := { program := "ythgbmcdfbinpkaa", sum := "b1188699229d41d69742c7ebf378ad54cd3e47095a84722c3dea4d5e2b2087f0", func := "loop.example/g00511/laws.FnExactAggregateFrames", spec := "fnExactAggregateFrames", unfollowed := true, recurses := true, apart := false, narrowed := true }
def FnExactAggregateFramesUptoSaid : Prop := fnExactAggregateFramesUptoRow.holds Try.pinned (OpenSpec.upto fnExactAggregateFramesSpec)

/-- 'laws.FnExactSplitAggregate', WHERE WHAT IT READS IS OF BULK AT MOST 1048576: true; the input reads as it did. -/
def fnExactSplitAggregateUptoRow : OpenClaim := { program := "ythgbmcdfbinpkaa", sum := "b1188699229d41d69742c7ebf378ad54cd3e47095a84722c3dea4d5e2b2087f0", func := "loop.example/g00511/laws.FnExactSplitAggregate", spec := "fnExactSplitAggregate", unfollowed := true, recurses := true, apart := false, narrowed := true }
def FnExactSplitAggregateUptoSaid : Prop := fnExactSplitAggregateUptoRow.holds Try.pinned (OpenSpec.upto fnExactSplitAggregateSpec)

/-- 'laws.FnExactSubframeSize', WHERE WHAT IT READS IS OF BULK AT MOST 1048576: true; the input reads as it did. -/
def fnExactSubframeSizeUptoRow : OpenClaim := { program := "ythgbmcdfbinpkaa", sum := "b1188699229d41d69742c7ebf378ad54cd3e47095a84722c3dea4d5e2b2087f0", func := "loop.example/g00511/laws.FnExactSubframeSize", spec := "fnExactSubframeSize", apart := false, narrowed := true }
def FnExactSubframeSizeUptoSaid : Prop := fnExactSubframeSizeUptoRow.holds Try.pinned (OpenSpec.upto fnExactSubframeSizeSpec)

/-- 'laws.FnExactAggregateSize', WHERE WHAT IT READS IS OF BULK AT MOST 1048576: true; the input reads as it did. -/
def fnExactAggregateSizeUptoRow : OpenClaim := { program := "ythgbmcdfbinpkaa", sum := "b1188699229d41d69742c7ebf378ad54cd3e47095a84722c3dea4d5e2b2087f0", func := "loop.example/g00511/laws.FnExactAggregateSize", spec := "fnExactAggregateSize", apart := false, narrowed := true }
def FnExactAggregateSizeUptoSaid : Prop := fnExactAggregateSizeUptoRow.holds Try.pinned (OpenSpec.upto fnExactAggregateSizeSpec)

/-- 'laws.FnExactFitsAggregate', WHERE WHAT IT READS IS OF BULK AT MOST 1048576: true; the input reads as it did. -/
def fnExactFitsAggregateUptoRow : OpenClaim := { program := "ythgbmcdfbinpkaa", sum := "b1188699229d41d69742c7ebf378ad54cd3e47095a84722c3dea4d5e2b2087f0", func := "loop.example/g00511/laws.FnExactFitsAggregate", spec := "fnExactFitsAggregate", apart := false, narrowed := true }
def FnExactFitsAggregateUptoSaid : Prop := fnExactFitsAggregateUptoRow.holds Try.pinned (OpenSpec.upto fnExactFitsAggregateSpec)

end Rows
end Go.Proofs.Ythgbmcdfbinpkaa
