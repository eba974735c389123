/-
  No cell of these rows narrows 'for every input' (looked for: loops, veiled, ifaces, maps, wideKeys, modest, calm, conditions, laid).
  DERIVED. THE GIVEN ROWS OF THIS SEAT. 9 by the template 'for every input the law returns true; each argument reads behind the call as it read before'; 0 by the template 'total and deterministic' (their statements: YtnpkobchbdmppaaTotals.lean).
  GIVEN WITH THE SEED: the statements are not yours to turn. If you find one false, say at which input.
  Laid BY PROGRAM, IN A SANDBOX (cutbox-rows.mjs): the forced cells as the released guide's own fill.sh prints them over the translation 08919d53f59c22d2… (all of the seat's roots in one cut). By AI agents, Wed Nov 11 2026. No macro, syntax, notation, axiom, sorry.
-/
import Derived.Test.YtnpkobchbdmppaaChecked
import GoSem.Claim
import GoSem.ClaimJoined
import GoSem.ClaimMapViews
import Derived.JoinedTies
import Derived.KernelRfl
namespace Go.Proofs.Ytnpkobchbdmppaa
/- THE CELL 'sum', in the pinned program and in every row, IS THE sha256 OF THE DUMP (.gsa) THAT YtnpkobchbdmppaaProg.lean LOADS. Nothing in Lean hashes anything: it is a label: what it is worth is what the hold of that sum in a sandbox is worth. -/
noncomputable def Try.pinned : Pinned := { name := "ytnpkobchbdmppaa", sum := "08919d53f59c22d2433dafda09313baee310891b59b21a7b9c1562881d8a51e4", checked := Try.checked }
namespace Rows
def none {H : Type} : Left H := { results := [], args := [] }

/-- 'laws.FnChecksums': WHATEVER THE INPUT: true; the input reads as it did. -/
def fnChecksumsSpec : ChangeSpec := { name := "fnChecksums", fn := fun _ => fun
  | [d] => { results := [.lit (.bool true)], args := [d] }
  | _ => none }
def fnChecksumsRow : OpenClaim := { program := "ytnpkobchbdmppaa", sum := "08919d53f59c22d2433dafda09313baee310891b59b21a7b9c1562881d8a51e4", func := "loop.example/g00511/laws.FnChecksums", spec := "fnChecksums", apart := false }
def FnChecksumsSaid : Prop := fnChecksumsRow.holds Try.pinned (OpenSpec.ofChange fnChecksumsSpec)

/-- ITS FALSE NEIGHBOUR: 'it returns false'. Refute it at one input. -/
def fnChecksumsWrong : ChangeSpec := { name := "fnChecksums", fn := fun _ => fun
  | [d] => { results := [.lit (.bool false)], args := [d] }
  | _ => none }
def FnChecksumsWrongFalsely : Prop := fnChecksumsRow.holds Try.pinned (OpenSpec.ofChange fnChecksumsWrong)

/-- 'laws.FnScrambling': WHATEVER THE INPUT: true; the input reads as it did. -/
def fnScramblingSpec : ChangeSpec := { name := "fnScrambling", fn := fun _ => fun
  | [d] => { results := [.lit (.bool true)], args := [d] }
  | _ => none }
def fnScramblingRow : OpenClaim := { program := "ytnpkobchbdmppaa", sum := "08919d53f59c22d2433dafda09313baee310891b59b21a7b9c1562881d8a51e4", func := "loop.example/g00511/laws.FnScrambling", spec := "fnScrambling", apart := false }
def FnScramblingSaid : Prop := fnScramblingRow.holds Try.pinned (OpenSpec.ofChange fnScramblingSpec)

/-- ITS FALSE NEIGHBOUR: 'it returns false'. Refute it at one input. -/
def fnScramblingWrong : ChangeSpec := { name := "fnScrambling", fn := fun _ => fun
  | [d] => { results := [.lit (.bool false)], args := [d] }
  | _ => none }
def FnScramblingWrongFalsely : Prop := fnScramblingRow.holds Try.pinned (OpenSpec.ofChange fnScramblingWrong)

/-- 'laws.FnExactCrc16': WHATEVER THE INPUT: true; the input reads as it did. -/
def fnExactCrc16Spec : ChangeSpec := { name := "fnExactCrc16", fn := fun _ => fun
  | [d] => { results := [.lit (.bool true)], args := [d] }
  | _ => none }
def fnExactCrc16Row : OpenClaim := { program := "ytnpkobchbdmppaa", sum := "08919d53f59c22d2433dafda09313baee310891b59b21a7b9c1562881d8a51e4", func := "loop.example/g00511/laws.FnExactCrc16", spec := "fnExactCrc16", apart := false }
def FnExactCrc16Said : Prop := fnExactCrc16Row.holds Try.pinned (OpenSpec.ofChange fnExactCrc16Spec)

/-- ITS FALSE NEIGHBOUR: 'it returns false'. Refute it at one input. -/
def fnExactCrc16Wrong : ChangeSpec := { name := "fnExactCrc16", fn := fun _ => fun
  | [d] => { results := [.lit (.bool false)], args := [d] }
  | _ => none }
def FnExactCrc16WrongFalsely : Prop := fnExactCrc16Row.holds Try.pinned (OpenSpec.ofChange fnExactCrc16Wrong)

/-- 'laws.FnExactAppendCrc': WHATEVER THE INPUT: true; the input reads as it did. -/
def fnExactAppendCrcSpec : ChangeSpec := { name := "fnExactAppendCrc", fn := fun _ => fun
  | [d] => { results := [.lit (.bool true)], args := [d] }
  | _ => none }
def fnExactAppendCrcRow : OpenClaim := { program := "ytnpkobchbdmppaa", sum := "08919d53f59c22d2433dafda09313baee310891b59b21a7b9c1562881d8a51e4", func := "loop.example/g00511/laws.FnExactAppendCrc", spec := "fnExactAppendCrc", apart := false }
def FnExactAppendCrcSaid : Prop := fnExactAppendCrcRow.holds Try.pinned (OpenSpec.ofChange fnExactAppendCrcSpec)

/-- ITS FALSE NEIGHBOUR: 'it returns false'. Refute it at one input. -/
def fnExactAppendCrcWrong : ChangeSpec := { name := "fnExactAppendCrc", fn := fun _ => fun
  | [d] => { results := [.lit (.bool false)], args := [d] }
  | _ => none }
def FnExactAppendCrcWrongFalsely : Prop := fnExactAppendCrcRow.holds Try.pinned (OpenSpec.ofChange fnExactAppendCrcWrong)

/-- 'laws.FnExactCheckCrc': WHATEVER THE INPUT: true; the input reads as it did. -/
def fnExactCheckCrcSpec : ChangeSpec := { name := "fnExactCheckCrc", fn := fun _ => fun
  | [d] => { results := [.lit (.bool true)], args := [d] }
  | _ => none }
def fnExactCheckCrcRow : OpenClaim := { program := "ytnpkobchbdmppaa", sum := "08919d53f59c22d2433dafda09313baee310891b59b21a7b9c1562881d8a51e4", func := "loop.example/g00511/laws.FnExactCheckCrc", spec := "fnExactCheckCrc", apart := false }
def FnExactCheckCrcSaid : Prop := fnExactCheckCrcRow.holds Try.pinned (OpenSpec.ofChange fnExactCheckCrcSpec)

/-- ITS FALSE NEIGHBOUR: 'it returns false'. Refute it at one input. -/
def fnExactCheckCrcWrong : ChangeSpec := { name := "fnExactCheckCrc", fn := fun _ => fun
  | [d] => { results := [.lit (.bool false)], args := [d] }
  | _ => none }
def FnExactCheckCrcWrongFalsely : Prop := fnExactCheckCrcRow.holds Try.pinned (OpenSpec.ofChange fnExactCheckCrcWrong)

/-- 'laws.FnExactNextScramblerState': WHATEVER THE INPUT: true; the input reads as it did. -/
def fnExactNextScramblerStateSpec : ChangeSpec := { name := "fnExactNextScramblerState", fn := fun _ => fun
  | [d] => { results := [.lit (.bool true)], args := [d] }
  | _ => none }
def fnExactNextScramblerStateRow : OpenClaim := { program := "ytnpkobchbdmppaa", sum := "08919d53f59c22d2433dafda09313baee310891b59b21a7b9c1562881d8a51e4", func := "loop.example/g00511/laws.FnExactNextScramblerState", spec := "fnExactNextScramblerState", apart := false }
def FnExactNextScramblerStateSaid : Prop := fnExactNextScramblerStateRow.holds Try.pinned (OpenSpec.ofChange fnExactNextScramblerStateSpec)

/-- ITS FALSE NEIGHBOUR: 'it returns false'. Refute it at one input. -/
def fnExactNextScramblerStateWrong : ChangeSpec := { name := "fnExactNextScramblerState", fn := fun _ => fun
  | [d] => { results := [.lit (.bool false)], args := [d] }
  | _ => none }
def FnExactNextScramblerStateWrongFalsely : Prop := fnExactNextScramblerStateRow.holds Try.pinned (OpenSpec.ofChange fnExactNextScramblerStateWrong)

/-- 'laws.FnExactScramble': WHATEVER THE INPUT: true; the input reads as it did. -/
def fnExactScrambleSpec : ChangeSpec := { name := "fnExactScramble", fn := fun _ => fun
  | [d1, d2] => { results := [.lit (.bool true)], args := [d1, d2] }
  | _ => none }
def fnExactScrambleRow : OpenClaim := { program := "ytnpkobchbdmppaa", sum := "08919d53f59c22d2433dafda09313baee310891b59b21a7b9c1562881d8a51e4", func := "loop.example/g00511/laws.FnExactScramble", spec := "fnExactScramble", apart := false }
def FnExactScrambleSaid : Prop := fnExactScrambleRow.holds Try.pinned (OpenSpec.ofChange fnExactScrambleSpec)

/-- ITS FALSE NEIGHBOUR: 'it returns false'. Refute it at one input. -/
def fnExactScrambleWrong : ChangeSpec := { name := "fnExactScramble", fn := fun _ => fun
  | [d1, d2] => { results := [.lit (.bool false)], args := [d1, d2] }
  | _ => none }
def FnExactScrambleWrongFalsely : Prop := fnExactScrambleRow.holds Try.pinned (OpenSpec.ofChange fnExactScrambleWrong)

/-- 'laws.FnExactScramblerStateAfter': WHATEVER THE INPUT: true; the input reads as it did. -/
def fnExactScramblerStateAfterSpec : ChangeSpec := { name := "fnExactScramblerStateAfter", fn := fun _ => fun
  | [d1, d2] => { results := [.lit (.bool true)], args := [d1, d2] }
  | _ => none }
def fnExactScramblerStateAfterRow : OpenClaim := { program := "ytnpkobchbdmppaa", sum := "08919d53f59c22d2433dafda09313baee310891b59b21a7b9c1562881d8a51e4", func := "loop.example/g00511/laws.FnExactScramblerStateAfter", spec := "fnExactScramblerStateAfter", apart := false }
def FnExactScramblerStateAfterSaid : Prop := fnExactScramblerStateAfterRow.holds Try.pinned (OpenSpec.ofChange fnExactScramblerStateAfterSpec)

/-- ITS FALSE NEIGHBOUR: 'it returns false'. Refute it at one input. -/
def fnExactScramblerStateAfterWrong : ChangeSpec := { name := "fnExactScramblerStateAfter", fn := fun _ => fun
  | [d1, d2] => { results := [.lit (.bool false)], args := [d1, d2] }
  | _ => none }
def FnExactScramblerStateAfterWrongFalsely : Prop := fnExactScramblerStateAfterRow.holds Try.pinned (OpenSpec.ofChange fnExactScramblerStateAfterWrong)

/-- 'laws.FnExactLongestRun': WHATEVER THE INPUT: true; the input reads as it did. -/
def fnExactLongestRunSpec : ChangeSpec := { name := "fnExactLongestRun", fn := fun _ => fun
  | [d] => { results := [.lit (.bool true)], args := [d] }
  | _ => none }
def fnExactLongestRunRow : OpenClaim := { program := "ytnpkobchbdmppaa", sum := "08919d53f59c22d2433dafda09313baee310891b59b21a7b9c1562881d8a51e4", func := "loop.example/g00511/laws.FnExactLongestRun", spec := "fnExactLongestRun", apart := false }
def FnExactLongestRunSaid : Prop := fnExactLongestRunRow.holds Try.pinned (OpenSpec.ofChange fnExactLongestRunSpec)

/-- ITS FALSE NEIGHBOUR: 'it returns false'. Refute it at one input. -/
def fnExactLongestRunWrong : ChangeSpec := { name := "fnExactLongestRun", fn := fun _ => fun
  | [d] => { results := [.lit (.bool false)], args := [d] }
  | _ => none }
def FnExactLongestRunWrongFalsely : Prop := fnExactLongestRunRow.holds Try.pinned (OpenSpec.ofChange fnExactLongestRunWrong)

/- THE SECOND FORM. 'bulk': how many values and letters a reading holds, each counted each time it is reached (what is shared counts as often as it is met; a slice's spare places count too). A statement '..UptoSaid' is the law's where the arguments, and the package variables that the reading takes, are together of bulk at most 1048576: NARROWER than '..Said'. Prove '..Said' where nothing that the law and all that it calls make is longer than what came in: it says more and counts as full. Else prove '..UptoSaid'. A law counts once. -/
mutual
def uptoBulk {H : Type} : DataW H → Nat
  | .lit (.string bytes) => bytes.length + 1
  | .lit _ => 1
  | .nil => 1
  | .ptr d => uptoBulk d + 1
  | .slice elems spare => uptoBulkAll elems + uptoBulkAll spare + 1
  | .agg parts => uptoBulkAll parts + 1
  | .iface _ d => uptoBulk d + 1
  | .map entries => uptoBulkEntries entries + 1
  | .held _ => 1
def uptoBulkAll {H : Type} : List (DataW H) → Nat
  | [] => 0
  | d :: r => uptoBulk d + uptoBulkAll r
def uptoBulkEntries {H : Type} : List (Lit × DataW H) → Nat
  | [] => 0
  | x :: r => uptoBulkEntry x + uptoBulkEntries r
def uptoBulkEntry {H : Type} : Lit × DataW H → Nat
  | (.string bytes, d) => bytes.length + uptoBulk d + 1
  | (_, d) => uptoBulk d + 1
 end
def uptoSmall : (H : Type) → List (DataW H) → Bool := fun _ ds => decide (uptoBulkAll ds ≤ 1048576)
def OpenSpec.upto (s : _root_.Go.ChangeSpec) : _root_.Go.OpenSpec := { _root_.Go.OpenSpec.ofChange s with cond := some uptoSmall }

/-- 'laws.FnChecksums', WHERE WHAT IT READS IS OF BULK AT MOST 1048576: true; the input reads as it did. -/
def fnChecksumsUptoRow : OpenClaim := { program := "ytnpkobchbdmppaa", sum := "08919d53f59c22d2433dafda09313baee310891b59b21a7b9c1562881d8a51e4", func := "loop.example/g00511/laws.FnChecksums", spec := "fnChecksums", apart := false, narrowed := true }
def FnChecksumsUptoSaid : Prop := fnChecksumsUptoRow.holds Try.pinned (OpenSpec.upto fnChecksumsSpec)

/-- 'laws.FnScrambling', WHERE WHAT IT READS IS OF BULK AT MOST 1048576: true; the input reads as it did. -/
def fnScramblingUptoRow : OpenClaim := { program := "ytnpkobchbdmppaa", sum := "08919d53f59c22d2433dafda09313baee310891b59b21a7b9c1562881d8a51e4", func := "loop.example/g00511/laws.FnScrambling", spec := "fnScrambling", apart := false, narrowed := true }
def FnScramblingUptoSaid : Prop := fnScramblingUptoRow.holds Try.pinned (OpenSpec.upto fnScramblingSpec)

/-- 'laws.FnExactCrc16', WHERE WHAT IT READS IS OF BULK AT MOST 1048576: true; the input reads as it did. -/
def fnExactCrc16UptoRow : OpenClaim := { program := "ytnpkobchbdmppaa", sum := "08919d53f59c22d2433dafda09313baee310891b59b21a7b9c1562881d8a51e4", func := "loop.example/g00511/laws.FnExactCrc16", spec := "fnExactCrc16", apart := false, narrowed := true }
def FnExactCrc16UptoSaid : Prop := fnExactCrc16UptoRow.holds Try.pinned (OpenSpec.upto fnExactCrc16Spec)

/-- 'laws.FnExactAppendCrc', WHERE WHAT IT READS IS OF BULK AT MOST 1048576: true; the input reads as it did. -/
def fnExactAppendCrcUptoRow : OpenClaim := { program := "ytnpkobchbdmppaa", sum := "08919d53f59c22d2433dafda09313baee310891b59b21a7b9c1562881d8a51e4", func := "loop.example/g00511/laws.FnExactAppendCrc", spec := "fnExactAppendCrc", apart := false, narrowed := true }
def FnExactAppendCrcUptoSaid : Prop := fnExactAppendCrcUptoRow.holds Try.pinned (OpenSpec.upto fnExactAppendCrcSpec)

/-- 'laws.FnExactCheckCrc', WHERE WHAT IT READS IS OF BULK AT MOST 1048576: true; the input reads as it did. -/
def fnExactCheckCrcUptoRow : OpenClaim := { program := "ytnpkobchbdmppaa", sum := "08919d53f59c22d2433dafda09313baee310891b59b21a7b9c1562881d8a51e4", func := "loop.example/g00511/laws.FnExactCheckCrc", spec := "fnExactCheckCrc", apart := false, narrowed := true }
def FnExactCheckCrcUptoSaid : Prop := fnExactCheckCrcUptoRow.holds Try.pinned (OpenSpec.upto fnExactCheckCrcSpec)

/-- 'laws.FnExactNextScramblerState', WHERE WHAT IT READS IS OF BULK AT MOST 1048576: true; the input reads as it did. -/
def fnExactNextScramblerStateUptoRow : OpenClaim := { program := "ytnpkobchbdmppaa", sum := "08919d53f59c22d2433dafda09313baee310891b59b21a7b9c1562881d8a51e4", func := "loop.example/g00511/laws.FnExactNextScramblerState", spec := "fnExactNextScramblerState", apart := false, narrowed := true }
def FnExactNextScramblerStateUptoSaid : Prop := fnExactNextScramblerStateUptoRow.holds Try.pinned (OpenSpec.upto fnExactNextScramblerStateSpec)

/-- 'laws.FnExactScramble', WHERE WHAT IT READS IS OF BULK AT MOST 1048576: true; the input reads as it did. -/
def fnExactScrambleUptoRow : OpenClaim := { program := "ytnpkobchbdmppaa", sum := "08919d53f59c22d2433dafda09313baee310891b59b21a7b9c1562881d8a51e4", func := "loop.example/g00511/laws.FnExactScramble", spec := "fnExactScramble", apart := false, narrowed := true }
def FnExactScrambleUptoSaid : Prop := fnExactScrambleUptoRow.holds Try.pinned (OpenSpec.upto fnExactScrambleSpec)

/-- 'laws.FnExactScramblerStateAfter', WHERE WHAT IT READS IS OF BULK AT MOST 1048576: true; the input reads as it did. -/
def fnExactScramblerStateAfterUptoRow : OpenClaim := { program := "ytnpkobchbdmppaa", sum := "08919d53f59c22d2433dafda09313baee310891b59b21a7b9c1562881d8a51e4", func := "loop.example/g00511/laws.FnExactScramblerStateAfter", spec := "fnExactScramblerStateAfter", apart := false, narrowed := true }
def FnExactScramblerStateAfterUptoSaid : Prop := fnExactScramblerStateAfterUptoRow.holds Try.pinned (OpenSpec.upto fnExactScramblerStateAfterSpec)

/-- 'laws.FnExactLongestRun', WHERE WHAT IT READS IS OF BULK AT MOST 1048576: true; the input reads as it did. -/
def fnExactLongestRunUptoRow : OpenClaim := { program := "ytnpkobchbdmppaa", sum := "08919d53f59c22d2433dafda09313baee310891b59b21a7b9c1562881d8a51e4", func := "loop.example/g00511/laws.FnExactLongestRun", spec := "fnExactLongestRun", apart := false, narrowed := true }
def FnExactLongestRunUptoSaid : Prop := fnExactLongestRunUptoRow.holds Try.pinned (OpenSpec.upto fnExactLongestRunSpec)

end Rows
end Go.Proofs.Ytnpkobchbdmppaa
