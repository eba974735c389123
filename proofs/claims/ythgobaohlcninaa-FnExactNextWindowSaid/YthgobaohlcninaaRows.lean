/-
  No cell of these rows narrows 'for every input' (looked for: loops, veiled, ifaces, maps, wideKeys, modest, calm, conditions, laid).
  DERIVED. THE GIVEN ROWS OF THIS SEAT. 6 by the template 'for every input the law returns true; each argument reads behind the call as it read before'; 0 by the template 'total and deterministic' (their statements: YthgobaohlcninaaTotals.lean).
  GIVEN WITH THE SEED: the statements are not yours to turn. If you find one false, say at which input.
  Laid BY PROGRAM, IN A SANDBOX (cutbox-rows.mjs): the forced cells as the released guide's own fill.sh prints them over the translation e4061cd79b907be7… (all of the seat's roots in one cut). By AI agents, Wed Nov 11 2026. No macro, syntax, notation, axiom, sorry.
-/
import Derived.Test.YthgobaohlcninaaChecked
import GoSem.Claim
import GoSem.ClaimJoined
import GoSem.ClaimMapViews
import Derived.JoinedTies
import Derived.KernelRfl
namespace Go.Proofs.Ythgobaohlcninaa
/- THE CELL 'sum', in the pinned program and in every row, IS THE sha256 OF THE DUMP (.gsa) THAT YthgobaohlcninaaProg.lean LOADS. Nothing in Lean hashes anything: it is a label: what it is worth is what the hold of that sum in a sandbox is worth. -/
noncomputable def Try.pinned : Pinned := { name := "ythgobaohlcninaa", sum := "e4061cd79b907be7a0d6762210baadb6876697a69f269dc519eaf124ab077f4d", checked := Try.checked }
namespace Rows
def none {H : Type} : Left H := { results := [], args := [] }

/-- 'laws.FnExactIsValidParams': WHATEVER THE INPUT: true; the input reads as it did. -/
def fnExactIsValidParamsSpec : ChangeSpec := { name := "fnExactIsValidParams", fn := fun _ => fun
  | [d] => { results := [.lit (.bool true)], args := [d] }
  | _ => none }
def fnExactIsValidParamsRow : OpenClaim := { program := "ythgobaohlcninaa", sum := "e4061cd79b907be7a0d6762210baadb6876697a69f269dc519eaf124ab077f4d", func := "loop.example/g00511/laws.FnExactIsValidParams", spec := "fnExactIsValidParams", apart := false }
def FnExactIsValidParamsSaid : Prop := fnExactIsValidParamsRow.holds Try.pinned (OpenSpec.ofChange fnExactIsValidParamsSpec)

/-- ITS FALSE NEIGHBOUR: 'it returns false'. Refute it at one input. -/
def fnExactIsValidParamsWrong : ChangeSpec := { name := "fnExactIsValidParams", fn := fun _ => fun
  | [d] => { results := [.lit (.bool false)], args := [d] }
  | _ => none }
def FnExactIsValidParamsWrongFalsely : Prop := fnExactIsValidParamsRow.holds Try.pinned (OpenSpec.ofChange fnExactIsValidParamsWrong)

/-- 'laws.FnExactCategoryOfPriority': WHATEVER THE INPUT: true; the input reads as it did. -/
def fnExactCategoryOfPrioritySpec : ChangeSpec := { name := "fnExactCategoryOfPriority", fn := fun _ => fun
  | [d] => { results := [.lit (.bool true)], args := [d] }
  | _ => none }
def fnExactCategoryOfPriorityRow : OpenClaim := { program := "ythgobaohlcninaa", sum := "e4061cd79b907be7a0d6762210baadb6876697a69f269dc519eaf124ab077f4d", func := "loop.example/g00511/laws.FnExactCategoryOfPriority", spec := "fnExactCategoryOfPriority", apart := false }
def FnExactCategoryOfPrioritySaid : Prop := fnExactCategoryOfPriorityRow.holds Try.pinned (OpenSpec.ofChange fnExactCategoryOfPrioritySpec)

/-- ITS FALSE NEIGHBOUR: 'it returns false'. Refute it at one input. -/
def fnExactCategoryOfPriorityWrong : ChangeSpec := { name := "fnExactCategoryOfPriority", fn := fun _ => fun
  | [d] => { results := [.lit (.bool false)], args := [d] }
  | _ => none }
def FnExactCategoryOfPriorityWrongFalsely : Prop := fnExactCategoryOfPriorityRow.holds Try.pinned (OpenSpec.ofChange fnExactCategoryOfPriorityWrong)

/-- 'laws.FnExactCategoryName': WHATEVER THE INPUT: true; the input reads as it did. -/
def fnExactCategoryNameSpec : ChangeSpec := { name := "fnExactCategoryName", fn := fun _ => fun
  | [d] => { results := [.lit (.bool true)], args := [d] }
  | _ => none }
def fnExactCategoryNameRow : OpenClaim := { program := "ythgobaohlcninaa", sum := "e4061cd79b907be7a0d6762210baadb6876697a69f269dc519eaf124ab077f4d", func := "loop.example/g00511/laws.FnExactCategoryName", spec := "fnExactCategoryName", apart := false }
def FnExactCategoryNameSaid : Prop := fnExactCategoryNameRow.holds Try.pinned (OpenSpec.ofChange fnExactCategoryNameSpec)

/-- ITS FALSE NEIGHBOUR: 'it returns false'. Refute it at one input. -/
def fnExactCategoryNameWrong : ChangeSpec := { name := "fnExactCategoryName", fn := fun _ => fun
  | [d] => { results := [.lit (.bool false)], args := [d] }
  | _ => none }
def FnExactCategoryNameWrongFalsely : Prop := fnExactCategoryNameRow.holds Try.pinned (OpenSpec.ofChange fnExactCategoryNameWrong)

/-- 'laws.FnExactNextWindow': WHATEVER THE INPUT: true; the input reads as it did. -/
def fnExactNextWindowSpec : ChangeSpec := { name := "fnExactNextWindow", fn := fun _ => fun
  | [d1, d2] => { results := [.lit (.bool true)], args := [d1, d2] }
  | _ => none }
def fnExactNextWindowRow : OpenClaim := { program := "ythgobaohlcninaa", sum := "e4061cd79b907be7a0d6762210baadb6876697a69f269dc519eaf124ab077f4d", func := "loop.example/g00511/laws.FnExactNextWindow", spec := "fnExactNextWindow", apart := false }
def FnExactNextWindowSaid : Prop := fnExactNextWindowRow.holds Try.pinned (OpenSpec.ofChange fnExactNextWindowSpec)

/-- ITS FALSE NEIGHBOUR: 'it returns false'. Refute it at one input. -/
def fnExactNextWindowWrong : ChangeSpec := { name := "fnExactNextWindow", fn := fun _ => fun
  | [d1, d2] => { results := [.lit (.bool false)], args := [d1, d2] }
  | _ => none }
def FnExactNextWindowWrongFalsely : Prop := fnExactNextWindowRow.holds Try.pinned (OpenSpec.ofChange fnExactNextWindowWrong)

/-- 'laws.FnExactWindowAfter': WHATEVER THE INPUT: true; the input reads as it did. -/
def fnExactWindowAfterSpec : ChangeSpec := { name := "fnExactWindowAfter", fn := fun _ => fun
  | [d1, d2] => { results := [.lit (.bool true)], args := [d1, d2] }
  | _ => none }
def fnExactWindowAfterRow : OpenClaim := { program := "ythgobaohlcninaa", sum := "e4061cd79b907be7a0d6762210baadb6876697a69f269dc519eaf124ab077f4d", func := "loop.example/g00511/laws.FnExactWindowAfter", spec := "fnExactWindowAfter", apart := false }
def FnExactWindowAfterSaid : Prop := fnExactWindowAfterRow.holds Try.pinned (OpenSpec.ofChange fnExactWindowAfterSpec)

/-- ITS FALSE NEIGHBOUR: 'it returns false'. Refute it at one input. -/
def fnExactWindowAfterWrong : ChangeSpec := { name := "fnExactWindowAfter", fn := fun _ => fun
  | [d1, d2] => { results := [.lit (.bool false)], args := [d1, d2] }
  | _ => none }
def FnExactWindowAfterWrongFalsely : Prop := fnExactWindowAfterRow.holds Try.pinned (OpenSpec.ofChange fnExactWindowAfterWrong)

/-- 'laws.FnExactInternalWinner': WHATEVER THE INPUT: true; the input reads as it did. -/
def fnExactInternalWinnerSpec : ChangeSpec := { name := "fnExactInternalWinner", fn := fun _ => fun
  | [d] => { results := [.lit (.bool true)], args := [d] }
  | _ => none }
def fnExactInternalWinnerRow : OpenClaim := { program := "ythgobaohlcninaa", sum := "e4061cd79b907be7a0d6762210baadb6876697a69f269dc519eaf124ab077f4d", func := "loop.example/g00511/laws.FnExactInternalWinner", spec := "fnExactInternalWinner", apart := false }
def FnExactInternalWinnerSaid : Prop := fnExactInternalWinnerRow.holds Try.pinned (OpenSpec.ofChange fnExactInternalWinnerSpec)

/-- ITS FALSE NEIGHBOUR: 'it returns false'. Refute it at one input. -/
def fnExactInternalWinnerWrong : ChangeSpec := { name := "fnExactInternalWinner", fn := fun _ => fun
  | [d] => { results := [.lit (.bool false)], args := [d] }
  | _ => none }
def FnExactInternalWinnerWrongFalsely : Prop := fnExactInternalWinnerRow.holds Try.pinned (OpenSpec.ofChange fnExactInternalWinnerWrong)

/- THE SECOND FORM. 'bulk': how many values and letters a reading holds, each counted each time it is reached (what is shared counts as often as it is met; a slice's spare places count too). A statement '..UptoSaid' is the law's where the arguments, and the package variables that the reading takes, are together of bulk at most 1048576: NARROWER than '..Said'. Prove '..Said' where nothing that the law and all that it calls make is longer than what came in: it says more and counts as full. Else prove '..UptoSaid'. A law counts once. -/
mutual
def uptoBulk {H : Type} : DataW H → Nat
  | .lit (.string bytes) => bytes.length + 1
  | .lit _ => 1
  | .nil => 1
  | .ptr d => uptoBulk d + 1
  | .slice elems spare => uptoBulkAll elems + uptoBulkAll spare + 1
  | .agg parts => uptoBulkAll parts + 1
  | .iface _ d => uptoBulk d + 1
  | .map entries => uptoBulkEntries entries + 1
  | .held _ => 1
def uptoBulkAll {H : Type} : List (DataW H) → Nat
  | [] => 0
  | d :: r => uptoBulk d + uptoBulkAll r
def uptoBulkEntries {H : Type} : List (Lit × DataW H) → Nat
  | [] => 0
  | x :: r => uptoBulkEntry x + uptoBulkEntries r
def uptoBulkEntry {H : Type} : Lit × DataW H → Nat
  | (.string bytes, d) => bytes.length + uptoBulk d + 1
  | (_, d) => uptoBulk d + 1
 end
def uptoSmall : (H : Type) → List (DataW H) → Bool := fun _ ds => decide (uptoBulkAll ds ≤ 1048576)
def OpenSpec.upto (s : _root_.Go.ChangeSpec) : _root_.Go.OpenSpec := { _root_.Go.OpenSpec.ofChange s with cond := some uptoSmall }

/-- 'laws.FnExactIsValidParams', WHERE WHAT IT READS IS OF BULK AT MOST 1048576: true; the input reads as it did. -/
def fnExactIsValidParamsUptoRow : OpenClaim := { program := "ythgobaohlcninaa", sum := "e4061cd79b907be7a0d6762210baadb6876697a69f269dc519eaf124ab077f4d", func := "loop.example/g00511/laws.FnExactIsValidParams", spec := "fnExactIsValidParams", apart := false, narrowed := true }
def FnExactIsValidParamsUptoSaid : Prop := fnExactIsValidParamsUptoRow.holds Try.pinned (OpenSpec.upto fnExactIsValidParamsSpec)

/-- 'laws.FnExactCategoryOfPriority', WHERE WHAT IT READS IS OF BULK AT MOST 1048576: true; the input reads as it did. -/
def fnExactCategoryOfPriorityUptoRow : OpenClaim := { program := "ythgobaohlcninaa", sum := "e4061cd79b907be7a0d6762210baadb6876697a69f269dc519eaf124ab077f4d", func := "loop.example/g00511/laws.FnExactCategoryOfPriority", spec := "fnExactCategoryOfPriority", apart := false, narrowed := true }
def FnExactCategoryOfPriorityUptoSaid : Prop := fnExactCategoryOfPriorityUptoRow.holds Try.pinned (OpenSpec.upto fnExactCategoryOfPrioritySpec)

/-- 'laws.FnExactCategoryName', WHERE WHAT IT READS IS OF BULK AT MOST 1048576: true; the input reads as it did. -/
def fnExactCategoryNameUptoRow : OpenClaim := { program := "ythgobaohlcninaa", sum := "e4061cd79b907be7a0d6762210baadb6876697a69f269dc519eaf124ab077f4d", func := "loop.example/g00511/laws.FnExactCategoryName", spec := "fnExactCategoryName", apart := false, narrowed := true }
def FnExactCategoryNameUptoSaid : Prop := fnExactCategoryNameUptoRow.holds Try.pinned (OpenSpec.upto fnExactCategoryNameSpec)

/-- 'laws.FnExactNextWindow', WHERE WHAT IT READS IS OF BULK AT MOST 1048576: true; the input reads as it did. -/
def fnExactNextWindowUptoRow : OpenClaim := { program := "ythgobaohlcninaa", sum := "e4061cd79b907be7a0d6762210baadb6876697a69f269dc519eaf124ab077f4d", func := "loop.example/g00511/laws.FnExactNextWindow", spec := "fnExactNextWindow", apart := false, narrowed := true }
def FnExactNextWindowUptoSaid : Prop := fnExactNextWindowUptoRow.holds Try.pinned (OpenSpec.upto fnExactNextWindowSpec)

/-- 'laws.FnExactWindowAfter', WHERE WHAT IT READS IS OF BULK AT MOST 1048576: true; the input reads as it did. -/
def fnExactWindowAfterUptoRow : OpenClaim := { program := "ythgobaohlcninaa", sum := "e4061cd79b907be7a0d6762210baadb6876697a69f269dc519eaf124ab077f4d", func := "loop.example/g00511/laws.FnExactWindowAfter", spec := "fnExactWindowAfter", apart := false, narrowed := true }
def FnExactWindowAfterUptoSaid : Prop := fnExactWindowAfterUptoRow.holds Try.pinned (OpenSpec.upto fnExactWindowAfterSpec)

/-- 'laws.FnExactInternalWinner', WHERE WHAT IT READS IS OF BULK AT MOST 1048576: true; the input reads as it did. -/
def fnExactInternalWinnerUptoRow : OpenClaim := { program := "ythgobaohlcninaa", sum := "e4061cd79b907be7a0d6762210baadb6876697a69f269dc519eaf124ab077f4d", func := "loop.example/g00511/laws.FnExactInternalWinner", spec := "fnExactInternalWinner", apart := false, narrowed := true }
def FnExactInternalWinnerUptoSaid : Prop := fnExactInternalWinnerUptoRow.holds Try.pinned (OpenSpec.upto fnExactInternalWinnerSpec)

end Rows
end Go.Proofs.Ythgobaohlcninaa
