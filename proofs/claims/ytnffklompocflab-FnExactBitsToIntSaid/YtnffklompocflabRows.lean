/-
  No cell of these rows narrows 'for every input' (looked for: loops, veiled, ifaces, maps, wideKeys, modest, calm, conditions, laid).
  DERIVED. THE GIVEN ROWS OF THIS SEAT. 6 by the template 'for every input the law returns true; each argument reads behind the call as it read before'; 0 by the template 'total and deterministic' (their statements: YtnffklompocflabTotals.lean).
  GIVEN WITH THE SEED: the statements are not yours to turn. If you find one false, say at which input.
  Laid BY PROGRAM, IN A SANDBOX (cutbox-rows.mjs): the forced cells as the released guide's own fill.sh prints them over the translation 352f552bb70d74b0… (all of the seat's roots in one cut). By AI agents, Wed Nov 11 2026. No macro, syntax, notation, axiom, sorry.
-/
import Derived.Test.YtnffklompocflabChecked
import GoSem.Claim
import GoSem.ClaimJoined
import GoSem.ClaimMapViews
import Derived.JoinedTies
import Derived.KernelRfl
namespace Go.Proofs.Ytnffklompocflab
/- THE CELL 'sum', in the pinned program and in every row, IS THE sha256 OF THE DUMP (.gsa) THAT YtnffklompocflabProg.lean LOADS. Nothing in Lean hashes anything: it is a label: what it is worth is what the hold of that sum in a sandbox is worth. -/
noncomputable def Try.pinned : Pinned := { name := "ytnffklompocflab", sum := "352f552bb70d74b03520c74b857de6c9584a05f1abdea4fbcc1f2eabc10ff413", checked := Try.checked }
namespace Rows
def none {H : Type} : Left H := { results := [], args := [] }

/-- 'laws.FnExactIsBitString': WHATEVER THE INPUT: true; the input reads as it did. -/
def fnExactIsBitStringSpec : ChangeSpec := { name := "fnExactIsBitString", fn := fun _ => fun
  | [d] => { results := [.lit (.bool true)], args := [d] }
  | _ => none }
def fnExactIsBitStringRow : OpenClaim := { program := "ytnffklompocflab", sum := "352f552bb70d74b03520c74b857de6c9584a05f1abdea4fbcc1f2eabc10ff413", func := "loop.example/g00511/laws.FnExactIsBitString", spec := "fnExactIsBitString", apart := false }
def FnExactIsBitStringSaid : Prop := fnExactIsBitStringRow.holds Try.pinned (OpenSpec.ofChange fnExactIsBitStringSpec)

/-- ITS FALSE NEIGHBOUR: 'it returns false'. Refute it at one input. -/
def fnExactIsBitStringWrong : ChangeSpec := { name := "fnExactIsBitString", fn := fun _ => fun
  | [d] => { results := [.lit (.bool false)], args := [d] }
  | _ => none }
def FnExactIsBitStringWrongFalsely : Prop := fnExactIsBitStringRow.holds Try.pinned (OpenSpec.ofChange fnExactIsBitStringWrong)

/-- 'laws.FnExactBitsToBytes': WHATEVER THE INPUT: true; the input reads as it did. -/
def fnExactBitsToBytesSpec : ChangeSpec := { name := "fnExactBitsToBytes", fn := fun _ => fun
  | [d] => { results := [.lit (.bool true)], args := [d] }
  | _ => none }
def fnExactBitsToBytesRow : OpenClaim := { program := "ytnffklompocflab", sum := "352f552bb70d74b03520c74b857de6c9584a05f1abdea4fbcc1f2eabc10ff413", func := "loop.example/g00511/laws.FnExactBitsToBytes", spec := "fnExactBitsToBytes", apart := false }
def FnExactBitsToBytesSaid : Prop := fnExactBitsToBytesRow.holds Try.pinned (OpenSpec.ofChange fnExactBitsToBytesSpec)

/-- ITS FALSE NEIGHBOUR: 'it returns false'. Refute it at one input. -/
def fnExactBitsToBytesWrong : ChangeSpec := { name := "fnExactBitsToBytes", fn := fun _ => fun
  | [d] => { results := [.lit (.bool false)], args := [d] }
  | _ => none }
def FnExactBitsToBytesWrongFalsely : Prop := fnExactBitsToBytesRow.holds Try.pinned (OpenSpec.ofChange fnExactBitsToBytesWrong)

/-- 'laws.FnExactBitsToInt': WHATEVER THE INPUT: true; the input reads as it did. -/
def fnExactBitsToIntSpec : ChangeSpec := { name := "fnExactBitsToInt", fn := fun _ => fun
  | [d] => { results := [.lit (.bool true)], args := [d] }
  | _ => none }
def fnExactBitsToIntRow : OpenClaim := { program := "ytnffklompocflab", sum := "352f552bb70d74b03520c74b857de6c9584a05f1abdea4fbcc1f2eabc10ff413", func := "loop.example/g00511/laws.FnExactBitsToInt", spec := "fnExactBitsToInt", apart := false }
def FnExactBitsToIntSaid : Prop := fnExactBitsToIntRow.holds Try.pinned (OpenSpec.ofChange fnExactBitsToIntSpec)

/-- ITS FALSE NEIGHBOUR: 'it returns false'. Refute it at one input. -/
def fnExactBitsToIntWrong : ChangeSpec := { name := "fnExactBitsToInt", fn := fun _ => fun
  | [d] => { results := [.lit (.bool false)], args := [d] }
  | _ => none }
def FnExactBitsToIntWrongFalsely : Prop := fnExactBitsToIntRow.holds Try.pinned (OpenSpec.ofChange fnExactBitsToIntWrong)

/-- 'laws.FnBits': WHATEVER THE INPUT: true; the input reads as it did. -/
def fnBitsSpec : ChangeSpec := { name := "fnBits", fn := fun _ => fun
  | [d] => { results := [.lit (.bool true)], args := [d] }
  | _ => none }
def fnBitsRow : OpenClaim := { program := "ytnffklompocflab", sum := "352f552bb70d74b03520c74b857de6c9584a05f1abdea4fbcc1f2eabc10ff413", func := "loop.example/g00511/laws.FnBits", spec := "fnBits", unfollowed := true, recurses := true, apart := false }
def FnBitsSaid : Prop := fnBitsRow.holds Try.pinned (OpenSpec.ofChange fnBitsSpec)

/-- ITS FALSE NEIGHBOUR: 'it returns false'. Refute it at one input. -/
def fnBitsWrong : ChangeSpec := { name := "fnBits", fn := fun _ => fun
  | [d] => { results := [.lit (.bool false)], args := [d] }
  | _ => none }
def FnBitsWrongFalsely : Prop := fnBitsRow.holds Try.pinned (OpenSpec.ofChange fnBitsWrong)

/-- 'laws.FnExactScramble': WHATEVER THE INPUT: true; the input reads as it did. -/
def fnExactScrambleSpec : ChangeSpec := { name := "fnExactScramble", fn := fun _ => fun
  | [d1, d2] => { results := [.lit (.bool true)], args := [d1, d2] }
  | _ => none }
def fnExactScrambleRow : OpenClaim := { program := "ytnffklompocflab", sum := "352f552bb70d74b03520c74b857de6c9584a05f1abdea4fbcc1f2eabc10ff413", func := "loop.example/g00511/laws.FnExactScramble", spec := "fnExactScramble", apart := false }
def FnExactScrambleSaid : Prop := fnExactScrambleRow.holds Try.pinned (OpenSpec.ofChange fnExactScrambleSpec)

/-- ITS FALSE NEIGHBOUR: 'it returns false'. Refute it at one input. -/
def fnExactScrambleWrong : ChangeSpec := { name := "fnExactScramble", fn := fun _ => fun
  | [d1, d2] => { results := [.lit (.bool false)], args := [d1, d2] }
  | _ => none }
def FnExactScrambleWrongFalsely : Prop := fnExactScrambleRow.holds Try.pinned (OpenSpec.ofChange fnExactScrambleWrong)

/-- 'laws.FnScrambling': WHATEVER THE INPUT: true; the input reads as it did. -/
def fnScramblingSpec : ChangeSpec := { name := "fnScrambling", fn := fun _ => fun
  | [d] => { results := [.lit (.bool true)], args := [d] }
  | _ => none }
def fnScramblingRow : OpenClaim := { program := "ytnffklompocflab", sum := "352f552bb70d74b03520c74b857de6c9584a05f1abdea4fbcc1f2eabc10ff413", func := "loop.example/g00511/laws.FnScrambling", spec := "fnScrambling", apart := false }
def FnScramblingSaid : Prop := fnScramblingRow.holds Try.pinned (OpenSpec.ofChange fnScramblingSpec)

/-- ITS FALSE NEIGHBOUR: 'it returns false'. Refute it at one input. -/
def fnScramblingWrong : ChangeSpec := { name := "fnScrambling", fn := fun _ => fun
  | [d] => { results := [.lit (.bool false)], args := [d] }
  | _ => none }
def FnScramblingWrongFalsely : Prop := fnScramblingRow.holds Try.pinned (OpenSpec.ofChange fnScramblingWrong)

/- THE SECOND FORM. 'bulk': how many values and letters a reading holds, each counted each time it is reached (what is shared counts as often as it is met; a slice's spare places count too). A statement '..UptoSaid' is the law's where the arguments, and the package variables that the reading takes, are together of bulk at most 1048576: NARROWER than '..Said'. Prove '..Said' where nothing that the law and all that it calls make is longer than what came in: it says more and counts as full. Else prove '..UptoSaid'. A law counts once. -/
mutual
def uptoBulk {H : Type} : DataW H → Nat
  | .lit (.string bytes) => bytes.length + 1
  | .lit _ => 1
  | .nil => 1
  | .ptr d => uptoBulk d + 1
  | .slice elems spare => uptoBulkAll elems + uptoBulkAll spare + 1
  | .agg parts => uptoBulkAll parts + 1
  | .iface _ d => uptoBulk d + 1
  | .map entries => uptoBulkEntries entries + 1
  | .held _ => 1
def uptoBulkAll {H : Type} : List (DataW H) → Nat
  | [] => 0
  | d :: r => uptoBulk d + uptoBulkAll r
def uptoBulkEntries {H : Type} : List (Lit × DataW H) → Nat
  | [] => 0
  | x :: r => uptoBulkEntry x + uptoBulkEntries r
def uptoBulkEntry {H : Type} : Lit × DataW H → Nat
  | (.string bytes, d) => bytes.length + uptoBulk d + 1
  | (_, d) => uptoBulk d + 1
 end
def uptoSmall : (H : Type) → List (DataW H) → Bool := fun _ ds => decide (uptoBulkAll ds ≤ 1048576)
def OpenSpec.upto (s : _root_.Go.ChangeSpec) : _root_.Go.OpenSpec := { _root_.Go.OpenSpec.ofChange s with cond := some uptoSmall }

/-- 'laws.FnExactIsBitString', WHERE WHAT IT READS IS OF BULK AT MOST 1048576: true; the input reads as it did. -/
def fnExactIsBitStringUptoRow : OpenClaim := { program := "ytnffklompocflab", sum := "352f552bb70d74b03520c74b857de6c9584a05f1abdea4fbcc1f2eabc10ff413", func := "loop.example/g00511/laws.FnExactIsBitString", spec := "fnExactIsBitString", apart := false, narrowed := true }
def FnExactIsBitStringUptoSaid : Prop := fnExactIsBitStringUptoRow.holds Try.pinned (OpenSpec.upto fnExactIsBitStringSpec)

/-- 'laws.FnExactBitsToBytes', WHERE WHAT IT READS IS OF BULK AT MOST 1048576: true; the input reads as it did. -/
def fnExactBitsToBytesUptoRow : OpenClaim := { program := "ytnffklompocflab", sum := "352f552bb70d74b03520c74b857de6c9584a05f1abdea4fbcc1f2eabc10ff413", func := "loop.example/g00511/laws.FnExactBitsToBytes", spec := "fnExactBitsToBytes", apart := false, narrowed := true }
def FnExactBitsToBytesUptoSaid : Prop := fnExactBitsToBytesUptoRow.holds Try.pinned (OpenSpec.upto fnExactBitsToBytesSpec)

/-- 'laws.FnExactBitsToInt', WHERE WHAT IT READS IS OF BULK AT MOST 1048576: true; the input reads as it did. -/
def fnExactBitsToIntUptoRow : OpenClaim := { program := "ytnffklompocflab", sum := "352f552bb70d74b03520c74b857de6c9584a05f1abdea4fbcc1f2eabc10ff413", func := "loop.example/g00511/laws.FnExactBitsToInt", spec := "fnExactBitsToInt", apart := false, narrowed := true }
def FnExactBitsToIntUptoSaid : Prop := fnExactBitsToIntUptoRow.holds Try.pinned (OpenSpec.upto fnExactBitsToIntSpec)

/-- 'laws.FnBits', WHERE WHAT IT READS IS OF BULK AT MOST 1048576: true; the input reads as it did. -/
def fnBitsUptoRow : OpenClaim := { program := "ytnffklompocflab", sum := "352f552bb70d74b03520c74b857de6c9584a05f1abdea4fbcc1f2eabc10ff413", func := "loop.example/g00511/laws.FnBits", spec := "fnBits", unfollowed := true, recurses := true, apart := false, narrowed := true }
def FnBitsUptoSaid : Prop := fnBitsUptoRow.holds Try.pinned (OpenSpec.upto fnBitsSpec)

/-- 'laws.FnExactScramble', WHERE WHAT IT READS IS OF BULK AT MOST 1048576: true; the input reads as it did. -/
def fnExactScrambleUptoRow : OpenClaim := { program := "ytnffklompocflab", sum := "352f552bb70d74b03520c74b857de6c9584a05f1abdea4fbcc1f2eabc10ff413", func := "loop.example/g00511/laws.FnExactScramble", spec := "fnExactScramble", apart := false, narrowed := true }
def FnExactScrambleUptoSaid : Prop := fnExactScrambleUptoRow.holds Try.pinned (OpenSpec.upto fnExactScrambleSpec)

/-- 'laws.FnScrambling', WHERE WHAT IT READS IS OF BULK AT MOST 1048576: true; the input reads as it did. -/
def fnScramblingUptoRow : OpenClaim := { program := "ytnffklompocflab", sum := "352f552bb70d74b03520c74b857de6c9584a05f1abdea4fbcc1f2eabc10ff413", func := "loop.example/g00511/laws.FnScrambling", spec := "fnScrambling", apart := false, narrowed := true }
def FnScramblingUptoSaid : Prop := fnScramblingUptoRow.holds Try.pinned (OpenSpec.upto fnScramblingSpec)

end Rows
end Go.Proofs.Ytnffklompocflab
