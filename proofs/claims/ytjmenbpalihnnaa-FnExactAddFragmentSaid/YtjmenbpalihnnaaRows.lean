/-
  No cell of these rows narrows 'for every input' (looked for: loops, veiled, ifaces, maps, wideKeys, modest, calm, conditions, laid).
  DERIVED. THE GIVEN ROWS OF THIS SEAT. 9 by the template 'for every input the law returns true; each argument reads behind the call as it read before'; 0 by the template 'total and deterministic' (their statements: YtjmenbpalihnnaaTotals.lean).
  GIVEN WITH THE SEED: the statements are not yours to turn. If you find one false, say at which input.
  Laid BY PROGRAM, IN A SANDBOX (cutbox-rows.mjs): the forced cells as the released guide's own fill.sh prints them over the translation 0c035fea240645ca… (all of the seat's roots in one cut). By AI agents, Wed Nov 11 2026. No macro, syntax, notation, axiom, sorry.
-/
import Derived.Test.YtjmenbpalihnnaaChecked
import GoSem.Claim
import GoSem.ClaimJoined
import GoSem.ClaimMapViews
import Derived.JoinedTies
import Derived.KernelRfl
namespace Go.Proofs.Ytjmenbpalihnnaa
/- THE CELL 'sum', in the pinned program and in every row, IS THE sha256 OF THE DUMP (.gsa) THAT YtjmenbpalihnnaaProg.lean LOADS. Nothing in Lean hashes anything: it is a label: what it is worth is what the hold of that sum in a sandbox is worth. -/
noncomputable def Try.pinned : Pinned := { name := "ytjmenbpalihnnaa", sum := "0c035fea240645ca79394269122d8c3bdea82ef81d86ad6d7309f569c1c2d288", checked := Try.checked }
namespace Rows
def none {H : Type} : Left H := { results := [], args := [] }

/-- 'laws.FnQueues': WHATEVER THE INPUT: true; the input reads as it did. -/
def fnQueuesSpec : ChangeSpec := { name := "fnQueues", fn := fun _ => fun
  | [d] => { results := [.lit (.bool true)], args := [d] }
  | _ => none }
def fnQueuesRow : OpenClaim := { program := "ytjmenbpalihnnaa", sum := "0c035fea240645ca79394269122d8c3bdea82ef81d86ad6d7309f569c1c2d288", func := "loop.example/g00511/laws.FnQueues", spec := "fnQueues", unfollowed := true, recurses := true, apart := false }
def FnQueuesSaid : Prop := fnQueuesRow.holds Try.pinned (OpenSpec.ofChange fnQueuesSpec)

/-- ITS FALSE NEIGHBOUR: 'it returns false'. Refute it at one input. -/
def fnQueuesWrong : ChangeSpec := { name := "fnQueues", fn := fun _ => fun
  | [d] => { results := [.lit (.bool false)], args := [d] }
  | _ => none }
def FnQueuesWrongFalsely : Prop := fnQueuesRow.holds Try.pinned (OpenSpec.ofChange fnQueuesWrong)

/-- 'laws.FnQueueOrder': WHATEVER THE INPUT: true; the input reads as it did. -/
def fnQueueOrderSpec : ChangeSpec := { name := "fnQueueOrder", fn := fun _ => fun
  | [d] => { results := [.lit (.bool true)], args := [d] }
  | _ => none }
def fnQueueOrderRow : OpenClaim := { program := "ytjmenbpalihnnaa", sum := "0c035fea240645ca79394269122d8c3bdea82ef81d86ad6d7309f569c1c2d288", func := "loop.example/g00511/laws.FnQueueOrder", spec := "fnQueueOrder", unfollowed := true, recurses := true, apart := false }
def FnQueueOrderSaid : Prop := fnQueueOrderRow.holds Try.pinned (OpenSpec.ofChange fnQueueOrderSpec)

/-- ITS FALSE NEIGHBOUR: 'it returns false'. Refute it at one input. -/
def fnQueueOrderWrong : ChangeSpec := { name := "fnQueueOrder", fn := fun _ => fun
  | [d] => { results := [.lit (.bool false)], args := [d] }
  | _ => none }
def FnQueueOrderWrongFalsely : Prop := fnQueueOrderRow.holds Try.pinned (OpenSpec.ofChange fnQueueOrderWrong)

/-- 'laws.FnFragments': WHATEVER THE INPUT: true; the input reads as it did. -/
def fnFragmentsSpec : ChangeSpec := { name := "fnFragments", fn := fun _ => fun
  | [d] => { results := [.lit (.bool true)], args := [d] }
  | _ => none }
def fnFragmentsRow : OpenClaim := { program := "ytjmenbpalihnnaa", sum := "0c035fea240645ca79394269122d8c3bdea82ef81d86ad6d7309f569c1c2d288", func := "loop.example/g00511/laws.FnFragments", spec := "fnFragments", unfollowed := true, recurses := true, apart := false }
def FnFragmentsSaid : Prop := fnFragmentsRow.holds Try.pinned (OpenSpec.ofChange fnFragmentsSpec)

/-- ITS FALSE NEIGHBOUR: 'it returns false'. Refute it at one input. -/
def fnFragmentsWrong : ChangeSpec := { name := "fnFragments", fn := fun _ => fun
  | [d] => { results := [.lit (.bool false)], args := [d] }
  | _ => none }
def FnFragmentsWrongFalsely : Prop := fnFragmentsRow.holds Try.pinned (OpenSpec.ofChange fnFragmentsWrong)

/-- 'laws.FnExactFragments': WHATEVER THE INPUT: true; the input reads as it did. -/
def fnExactFragmentsSpec : ChangeSpec := { name := "fnExactFragments", fn := fun _ => fun
  | [d1, d2] => { results := [.lit (.bool true)], args := [d1, d2] }
  | _ => none }
def fnExactFragmentsRow : OpenClaim := { program := "ytjmenbpalihnnaa", sum := "0c035fea240645ca79394269122d8c3bdea82ef81d86ad6d7309f569c1c2d288", func := "loop.example/g00511/laws.FnExactFragments", spec := "fnExactFragments", apart := false }
def FnExactFragmentsSaid : Prop := fnExactFragmentsRow.holds Try.pinned (OpenSpec.ofChange fnExactFragmentsSpec)

/-- ITS FALSE NEIGHBOUR: 'it returns false'. Refute it at one input. -/
def fnExactFragmentsWrong : ChangeSpec := { name := "fnExactFragments", fn := fun _ => fun
  | [d1, d2] => { results := [.lit (.bool false)], args := [d1, d2] }
  | _ => none }
def FnExactFragmentsWrongFalsely : Prop := fnExactFragmentsRow.holds Try.pinned (OpenSpec.ofChange fnExactFragmentsWrong)

/-- 'laws.FnExactFragmentCount': WHATEVER THE INPUT: true; the input reads as it did. -/
def fnExactFragmentCountSpec : ChangeSpec := { name := "fnExactFragmentCount", fn := fun _ => fun
  | [d1, d2] => { results := [.lit (.bool true)], args := [d1, d2] }
  | _ => none }
def fnExactFragmentCountRow : OpenClaim := { program := "ytjmenbpalihnnaa", sum := "0c035fea240645ca79394269122d8c3bdea82ef81d86ad6d7309f569c1c2d288", func := "loop.example/g00511/laws.FnExactFragmentCount", spec := "fnExactFragmentCount", apart := false }
def FnExactFragmentCountSaid : Prop := fnExactFragmentCountRow.holds Try.pinned (OpenSpec.ofChange fnExactFragmentCountSpec)

/-- ITS FALSE NEIGHBOUR: 'it returns false'. Refute it at one input. -/
def fnExactFragmentCountWrong : ChangeSpec := { name := "fnExactFragmentCount", fn := fun _ => fun
  | [d1, d2] => { results := [.lit (.bool false)], args := [d1, d2] }
  | _ => none }
def FnExactFragmentCountWrongFalsely : Prop := fnExactFragmentCountRow.holds Try.pinned (OpenSpec.ofChange fnExactFragmentCountWrong)

/-- 'laws.FnExactStartReassembly': WHATEVER THE INPUT: true; the input reads as it did. -/
def fnExactStartReassemblySpec : ChangeSpec := { name := "fnExactStartReassembly", fn := fun _ => fun
  | [d1, d2] => { results := [.lit (.bool true)], args := [d1, d2] }
  | _ => none }
def fnExactStartReassemblyRow : OpenClaim := { program := "ytjmenbpalihnnaa", sum := "0c035fea240645ca79394269122d8c3bdea82ef81d86ad6d7309f569c1c2d288", func := "loop.example/g00511/laws.FnExactStartReassembly", spec := "fnExactStartReassembly", apart := false }
def FnExactStartReassemblySaid : Prop := fnExactStartReassemblyRow.holds Try.pinned (OpenSpec.ofChange fnExactStartReassemblySpec)

/-- ITS FALSE NEIGHBOUR: 'it returns false'. Refute it at one input. -/
def fnExactStartReassemblyWrong : ChangeSpec := { name := "fnExactStartReassembly", fn := fun _ => fun
  | [d1, d2] => { results := [.lit (.bool false)], args := [d1, d2] }
  | _ => none }
def FnExactStartReassemblyWrongFalsely : Prop := fnExactStartReassemblyRow.holds Try.pinned (OpenSpec.ofChange fnExactStartReassemblyWrong)

/-- 'laws.FnExactAddFragment': WHATEVER THE INPUT: true; the input reads as it did. -/
def fnExactAddFragmentSpec : ChangeSpec := { name := "fnExactAddFragment", fn := fun _ => fun
  | [d1, d2, d3] => { results := [.lit (.bool true)], args := [d1, d2, d3] }
  | _ => none }
def fnExactAddFragmentRow : OpenClaim := { program := "ytjmenbpalihnnaa", sum := "0c035fea240645ca79394269122d8c3bdea82ef81d86ad6d7309f569c1c2d288", func := "loop.example/g00511/laws.FnExactAddFragment", spec := "fnExactAddFragment", apart := false }
def FnExactAddFragmentSaid : Prop := fnExactAddFragmentRow.holds Try.pinned (OpenSpec.ofChange fnExactAddFragmentSpec)

/-- ITS FALSE NEIGHBOUR: 'it returns false'. Refute it at one input. -/
def fnExactAddFragmentWrong : ChangeSpec := { name := "fnExactAddFragment", fn := fun _ => fun
  | [d1, d2, d3] => { results := [.lit (.bool false)], args := [d1, d2, d3] }
  | _ => none }
def FnExactAddFragmentWrongFalsely : Prop := fnExactAddFragmentRow.holds Try.pinned (OpenSpec.ofChange fnExactAddFragmentWrong)

/-- 'laws.FnExactExpireReassemblies': WHATEVER THE INPUT: true; the input reads as it did. -/
def fnExactExpireReassembliesSpec : ChangeSpec := { name := "fnExactExpireReassemblies", fn := fun _ => fun
  | [d1, d2] => { results := [.lit (.bool true)], args := [d1, d2] }
  | _ => none }
def fnExactExpireReassembliesRow : OpenClaim := { program := "ytjmenbpalihnnaa", sum := "0c035fea240645ca79394269122d8c3bdea82ef81d86ad6d7309f569c1c2d288", func := "loop.example/g00511/laws.FnExactExpireReassemblies", spec := "fnExactExpireReassemblies", apart := false }
def FnExactExpireReassembliesSaid : Prop := fnExactExpireReassembliesRow.holds Try.pinned (OpenSpec.ofChange fnExactExpireReassembliesSpec)

/-- ITS FALSE NEIGHBOUR: 'it returns false'. Refute it at one input. -/
def fnExactExpireReassembliesWrong : ChangeSpec := { name := "fnExactExpireReassemblies", fn := fun _ => fun
  | [d1, d2] => { results := [.lit (.bool false)], args := [d1, d2] }
  | _ => none }
def FnExactExpireReassembliesWrongFalsely : Prop := fnExactExpireReassembliesRow.holds Try.pinned (OpenSpec.ofChange fnExactExpireReassembliesWrong)

/-- 'laws.FnExactEqualReassemblies': WHATEVER THE INPUT: true; the input reads as it did. -/
def fnExactEqualReassembliesSpec : ChangeSpec := { name := "fnExactEqualReassemblies", fn := fun _ => fun
  | [d1, d2] => { results := [.lit (.bool true)], args := [d1, d2] }
  | _ => none }
def fnExactEqualReassembliesRow : OpenClaim := { program := "ytjmenbpalihnnaa", sum := "0c035fea240645ca79394269122d8c3bdea82ef81d86ad6d7309f569c1c2d288", func := "loop.example/g00511/laws.FnExactEqualReassemblies", spec := "fnExactEqualReassemblies", unfollowed := true, recurses := true, apart := false }
def FnExactEqualReassembliesSaid : Prop := fnExactEqualReassembliesRow.holds Try.pinned (OpenSpec.ofChange fnExactEqualReassembliesSpec)

/-- ITS FALSE NEIGHBOUR: 'it returns false'. Refute it at one input. -/
def fnExactEqualReassembliesWrong : ChangeSpec := { name := "fnExactEqualReassemblies", fn := fun _ => fun
  | [d1, d2] => { results := [.lit (.bool false)], args := [d1, d2] }
  | _ => none }
def FnExactEqualReassembliesWrongFalsely : Prop := fnExactEqualReassembliesRow.holds Try.pinned (OpenSpec.ofChange fnExactEqualReassembliesWrong)

/- THE SECOND FORM. 'bulk': how many values and letters a reading holds, each counted each time it is reached (what is shared counts as often as it is met; a slice's spare places count too). A statement '..UptoSaid' is the law's where the arguments, and the package variables that the reading takes, are together of bulk at most 1048576: NARROWER than '..Said'. Prove '..Said' where nothing that the law and all that it calls make is longer than what came in: it says more and counts as full. Else prove '..UptoSaid'. A law counts once. -/
mutual
def uptoBulk {H : Type} : DataW H → Nat
  | .lit (.string bytes) => bytes.length + 1
  | .lit _ => 1
  | .nil => 1
  | .ptr d => uptoBulk d + 1
  | .slice elems spare => uptoBulkAll elems + uptoBulkAll spare + 1
  | .agg parts => uptoBulkAll parts + 1
  | .iface _ d => uptoBulk d + 1
  | .map entries => uptoBulkEntries entries + 1
  | .held _ => 1
def uptoBulkAll {H : Type} : List (DataW H) → Nat
  | [] => 0
  | d :: r => uptoBulk d + uptoBulkAll r
def uptoBulkEntries {H : Type} : List (Lit × DataW H) → Nat
  | [] => 0
  | x :: r => uptoBulkEntry x + uptoBulkEntries r
def uptoBulkEntry {H : Type} : Lit × DataW H → Nat
  | (.string bytes, d) => bytes.length + uptoBulk d + 1
  | (_, d) => uptoBulk d + 1
 end
def uptoSmall : (H : Type) → List (DataW H) → Bool := fun _ ds => decide (uptoBulkAll ds ≤ 1048576)
def OpenSpec.upto (s : _root_.Go.ChangeSpec) : _root_.Go.OpenSpec := { _root_.Go.OpenSpec.ofChange s with cond := some uptoSmall }

/-- 'laws.FnQueues', WHERE WHAT IT READS IS OF BULK AT MOST 1048576: true; the input reads as it did. -/
def fnQueuesUptoRow : OpenClaim := { program := "ytjmenbpalihnnaa", sum := "0c035fea240645ca79394269122d8c3bdea82ef81d86ad6d7309f569c1c2d288", func := "loop.example/g00511/laws.FnQueues", spec := "fnQueues", unfollowed := true, recurses := true, apart := false, narrowed := true }
def FnQueuesUptoSaid : Prop := fnQueuesUptoRow.holds Try.pinned (OpenSpec.upto fnQueuesSpec)

/-- 'laws.FnQueueOrder', WHERE WHAT IT READS IS OF BULK AT MOST 1048576: true; the input reads as it did. -/
def fnQueueOrderUptoRow : OpenClaim := { program := "ytjmenbpalihnnaa", sum := "0c035fea240645ca79394269122d8c3bdea82ef81d86ad6d7309f569c1c2d288", func := "loop.example/g00511/laws.FnQueueOrder", spec := "fnQueueOrder", unfollowed := true, recurses := true, apart := false, narrowed := true }
def FnQueueOrderUptoSaid : Prop := fnQueueOrderUptoRow.holds Try.pinned (OpenSpec.upto fnQueueOrderSpec)

/-- 'laws.FnFragments', WHERE WHAT IT READS IS OF BULK AT MOST 1048576: true; the input reads as it did. -/
def fnFragmentsUptoRow : OpenClaim := { program := "ytjmenbpalihnnaa", sum := "0c035fea240645ca79394269122d8c3bdea82ef81d86ad6d7309f569c1c2d288", func := "loop.example/g00511/laws.FnFragments", spec := "fnFragments", unfollowed := true, recurses := true, apart := false, narrowed := true }
def FnFragmentsUptoSaid : Prop := fnFragmentsUptoRow.holds Try.pinned (OpenSpec.upto fnFragmentsSpec)

/-- 'laws.FnExactFragments', WHERE WHAT IT READS IS OF BULK AT MOST 1048576: true; the input reads as it did. -/
def fnExactFragmentsUptoRow : OpenClaim := { program := "ytjmenbpalihnnaa", sum := "0c035fea240645ca79394269122d8c3bdea82ef81d86ad6d7309f569c1c2d288", func := "loop.example/g00511/laws.FnExactFragments", spec := "fnExactFragments", apart := false, narrowed := true }
def FnExactFragmentsUptoSaid : Prop := fnExactFragmentsUptoRow.holds Try.pinned (OpenSpec.upto fnExactFragmentsSpec)

/-- 'laws.FnExactFragmentCount', WHERE WHAT IT READS IS OF BULK AT MOST 1048576: true; the input reads as it did. -/
def fnExactFragmentCountUptoRow : OpenClaim := { program := "ytjmenbpalihnnaa", sum := "0c035fea240645ca79394269122d8c3bdea82ef81d86ad6d7309f569c1c2d288", func := "loop.example/g00511/laws.FnExactFragmentCount", spec := "fnExactFragmentCount", apart := false, narrowed := true }
def FnExactFragmentCountUptoSaid : Prop := fnExactFragmentCountUptoRow.holds Try.pinned (OpenSpec.upto fnExactFragmentCountSpec)

/-- 'laws.FnExactStartReassembly', WHERE WHAT IT READS IS OF BULK AT MOST 1048576: true; the input reads as it did. -/
def fnExactStartReassemblyUptoRow : OpenClaim := { program := "ytjmenbpalihnnaa", sum := "0c035fea240645ca79394269122d8c3bdea82ef81d86ad6d7309f569c1c2d288", func := "loop.example/g00511/laws.FnExactStartReassembly", spec := "fnExactStartReassembly", apart := false, narrowed := true }
def FnExactStartReassemblyUptoSaid : Prop := fnExactStartReassemblyUptoRow.holds Try.pinned (OpenSpec.upto fnExactStartReassemblySpec)

/-- 'laws.FnExactAddFragment', WHERE WHAT IT READS IS OF BULK AT MOST 1048576: true; the input reads as it did. -/
def fnExactAddFragmentUptoRow : OpenClaim := { program := "ytjmenbpalihnnaa", sum := "0c035fea240645ca79394269122d8c3bdea82ef81d86ad6d7309f569c1c2d288", func := "loop.example/g00511/laws.FnExactAddFragment", spec := "fnExactAddFragment", apart := false, narrowed := true }
def FnExactAddFragmentUptoSaid : Prop := fnExactAddFragmentUptoRow.holds Try.pinned (OpenSpec.upto fnExactAddFragmentSpec)

/-- 'laws.FnExactExpireReassemblies', WHERE WHAT IT READS IS OF BULK AT MOST 1048576: true; the input reads as it did. -/
def fnExactExpireReassembliesUptoRow : OpenClaim := { program := "ytjmenbpalihnnaa", sum := "0c035fea240645ca79394269122d8c3bdea82ef81d86ad6d7309f569c1c2d288", func := "loop.example/g00511/laws.FnExactExpireReassemblies", spec := "fnExactExpireReassemblies", apart := false, narrowed := true }
def FnExactExpireReassembliesUptoSaid : Prop := fnExactExpireReassembliesUptoRow.holds Try.pinned (OpenSpec.upto fnExactExpireReassembliesSpec)

/-- 'laws.FnExactEqualReassemblies', WHERE WHAT IT READS IS OF BULK AT MOST 1048576: true; the input reads as it did. -/
def fnExactEqualReassembliesUptoRow : OpenClaim := { program := "ytjmenbpalihnnaa", sum := "0c035fea240645ca79394269122d8c3bdea82ef81d86ad6d7309f569c1c2d288", func := "loop.example/g00511/laws.FnExactEqualReassemblies", spec := "fnExactEqualReassemblies", unfollowed := true, recurses := true, apart := false, narrowed := true }
def FnExactEqualReassembliesUptoSaid : Prop := fnExactEqualReassembliesUptoRow.holds Try.pinned (OpenSpec.upto fnExactEqualReassembliesSpec)

end Rows
end Go.Proofs.Ytjmenbpalihnnaa
