/-
  No cell of these rows narrows 'for every input' (looked for: loops, veiled, ifaces, maps, wideKeys, modest, calm, conditions, laid).
  DERIVED. THE GIVEN ROWS OF THIS SEAT. 10 by the template 'for every input the law returns true; each argument reads behind the call as it read before'; 0 by the template 'total and deterministic' (their statements: YtbifggfmfiocoaaTotals.lean).
  GIVEN WITH THE SEED: the statements are not yours to turn. If you find one false, say at which input.
  Laid BY PROGRAM, IN A SANDBOX (cutbox-rows.mjs): the forced cells as the released guide's own fill.sh prints them over the translation e05d7785e6366747… (all of the seat's roots in one cut). By AI agents, Wed Nov 11 2026. No macro, syntax, notation, axiom, sorry.
-/
import Derived.Test.YtbifggfmfiocoaaChecked
import GoSem.Claim
import GoSem.ClaimJoined
import GoSem.ClaimMapViews
import Derived.JoinedTies
import Derived.KernelRfl
namespace Go.Proofs.Ytbifggfmfiocoaa
/- THE CELL 'sum', in the pinned program and in every row, IS THE sha256 OF THE DUMP (.gsa) THAT YtbifggfmfiocoaaProg.lean LOADS. Nothing in Lean hashes anything: it is a label: what it is worth is what the hold of that sum in a sandbox is worth. -/
noncomputable def Try.pinned : Pinned := { name := "ytbifggfmfiocoaa", sum := "e05d7785e63667477a5bd804ddab37ebc9b53aefdfe82f22844bed52f3844be5", checked := Try.checked }
namespace Rows
def none {H : Type} : Left H := { results := [], args := [] }

/-- 'laws.FnQueues': WHATEVER THE INPUT: true; the input reads as it did. -/
def fnQueuesSpec : ChangeSpec := { name := "fnQueues", fn := fun _ => fun
  | [d] => { results := [.lit (.bool true)], args := [d] }
  | _ => none }
def fnQueuesRow : OpenClaim := { program := "ytbifggfmfiocoaa", sum := "e05d7785e63667477a5bd804ddab37ebc9b53aefdfe82f22844bed52f3844be5", func := "loop.example/g00511/laws.FnQueues", spec := "fnQueues", unfollowed := true, recurses := true, apart := false }
def FnQueuesSaid : Prop := fnQueuesRow.holds Try.pinned (OpenSpec.ofChange fnQueuesSpec)

/-- ITS FALSE NEIGHBOUR: 'it returns false'. Refute it at one input. -/
def fnQueuesWrong : ChangeSpec := { name := "fnQueues", fn := fun _ => fun
  | [d] => { results := [.lit (.bool false)], args := [d] }
  | _ => none }
def FnQueuesWrongFalsely : Prop := fnQueuesRow.holds Try.pinned (OpenSpec.ofChange fnQueuesWrong)

/-- 'laws.FnQueueOrder': WHATEVER THE INPUT: true; the input reads as it did. -/
def fnQueueOrderSpec : ChangeSpec := { name := "fnQueueOrder", fn := fun _ => fun
  | [d] => { results := [.lit (.bool true)], args := [d] }
  | _ => none }
def fnQueueOrderRow : OpenClaim := { program := "ytbifggfmfiocoaa", sum := "e05d7785e63667477a5bd804ddab37ebc9b53aefdfe82f22844bed52f3844be5", func := "loop.example/g00511/laws.FnQueueOrder", spec := "fnQueueOrder", unfollowed := true, recurses := true, apart := false }
def FnQueueOrderSaid : Prop := fnQueueOrderRow.holds Try.pinned (OpenSpec.ofChange fnQueueOrderSpec)

/-- ITS FALSE NEIGHBOUR: 'it returns false'. Refute it at one input. -/
def fnQueueOrderWrong : ChangeSpec := { name := "fnQueueOrder", fn := fun _ => fun
  | [d] => { results := [.lit (.bool false)], args := [d] }
  | _ => none }
def FnQueueOrderWrongFalsely : Prop := fnQueueOrderRow.holds Try.pinned (OpenSpec.ofChange fnQueueOrderWrong)

/-- 'laws.FnExactIsValidMessage': WHATEVER THE INPUT: true; the input reads as it did. -/
def fnExactIsValidMessageSpec : ChangeSpec := { name := "fnExactIsValidMessage", fn := fun _ => fun
  | [d] => { results := [.lit (.bool true)], args := [d] }
  | _ => none }
def fnExactIsValidMessageRow : OpenClaim := { program := "ytbifggfmfiocoaa", sum := "e05d7785e63667477a5bd804ddab37ebc9b53aefdfe82f22844bed52f3844be5", func := "loop.example/g00511/laws.FnExactIsValidMessage", spec := "fnExactIsValidMessage", apart := false }
def FnExactIsValidMessageSaid : Prop := fnExactIsValidMessageRow.holds Try.pinned (OpenSpec.ofChange fnExactIsValidMessageSpec)

/-- ITS FALSE NEIGHBOUR: 'it returns false'. Refute it at one input. -/
def fnExactIsValidMessageWrong : ChangeSpec := { name := "fnExactIsValidMessage", fn := fun _ => fun
  | [d] => { results := [.lit (.bool false)], args := [d] }
  | _ => none }
def FnExactIsValidMessageWrongFalsely : Prop := fnExactIsValidMessageRow.holds Try.pinned (OpenSpec.ofChange fnExactIsValidMessageWrong)

/-- 'laws.FnExactIsValidQueue': WHATEVER THE INPUT: true; the input reads as it did. -/
def fnExactIsValidQueueSpec : ChangeSpec := { name := "fnExactIsValidQueue", fn := fun _ => fun
  | [d] => { results := [.lit (.bool true)], args := [d] }
  | _ => none }
def fnExactIsValidQueueRow : OpenClaim := { program := "ytbifggfmfiocoaa", sum := "e05d7785e63667477a5bd804ddab37ebc9b53aefdfe82f22844bed52f3844be5", func := "loop.example/g00511/laws.FnExactIsValidQueue", spec := "fnExactIsValidQueue", apart := false }
def FnExactIsValidQueueSaid : Prop := fnExactIsValidQueueRow.holds Try.pinned (OpenSpec.ofChange fnExactIsValidQueueSpec)

/-- ITS FALSE NEIGHBOUR: 'it returns false'. Refute it at one input. -/
def fnExactIsValidQueueWrong : ChangeSpec := { name := "fnExactIsValidQueue", fn := fun _ => fun
  | [d] => { results := [.lit (.bool false)], args := [d] }
  | _ => none }
def FnExactIsValidQueueWrongFalsely : Prop := fnExactIsValidQueueRow.holds Try.pinned (OpenSpec.ofChange fnExactIsValidQueueWrong)

/-- 'laws.FnExactEnqueueMessage': WHATEVER THE INPUT: true; the input reads as it did. -/
def fnExactEnqueueMessageSpec : ChangeSpec := { name := "fnExactEnqueueMessage", fn := fun _ => fun
  | [d1, d2] => { results := [.lit (.bool true)], args := [d1, d2] }
  | _ => none }
def fnExactEnqueueMessageRow : OpenClaim := { program := "ytbifggfmfiocoaa", sum := "e05d7785e63667477a5bd804ddab37ebc9b53aefdfe82f22844bed52f3844be5", func := "loop.example/g00511/laws.FnExactEnqueueMessage", spec := "fnExactEnqueueMessage", unfollowed := true, recurses := true, apart := false }
def FnExactEnqueueMessageSaid : Prop := fnExactEnqueueMessageRow.holds Try.pinned (OpenSpec.ofChange fnExactEnqueueMessageSpec)

/-- ITS FALSE NEIGHBOUR: 'it returns false'. Refute it at one input. -/
def fnExactEnqueueMessageWrong : ChangeSpec := { name := "fnExactEnqueueMessage", fn := fun _ => fun
  | [d1, d2] => { results := [.lit (.bool false)], args := [d1, d2] }
  | _ => none }
def FnExactEnqueueMessageWrongFalsely : Prop := fnExactEnqueueMessageRow.holds Try.pinned (OpenSpec.ofChange fnExactEnqueueMessageWrong)

/-- 'laws.FnExactNextMessage': WHATEVER THE INPUT: true; the input reads as it did. -/
def fnExactNextMessageSpec : ChangeSpec := { name := "fnExactNextMessage", fn := fun _ => fun
  | [d] => { results := [.lit (.bool true)], args := [d] }
  | _ => none }
def fnExactNextMessageRow : OpenClaim := { program := "ytbifggfmfiocoaa", sum := "e05d7785e63667477a5bd804ddab37ebc9b53aefdfe82f22844bed52f3844be5", func := "loop.example/g00511/laws.FnExactNextMessage", spec := "fnExactNextMessage", unfollowed := true, recurses := true, apart := false }
def FnExactNextMessageSaid : Prop := fnExactNextMessageRow.holds Try.pinned (OpenSpec.ofChange fnExactNextMessageSpec)

/-- ITS FALSE NEIGHBOUR: 'it returns false'. Refute it at one input. -/
def fnExactNextMessageWrong : ChangeSpec := { name := "fnExactNextMessage", fn := fun _ => fun
  | [d] => { results := [.lit (.bool false)], args := [d] }
  | _ => none }
def FnExactNextMessageWrongFalsely : Prop := fnExactNextMessageRow.holds Try.pinned (OpenSpec.ofChange fnExactNextMessageWrong)

/-- 'laws.FnExactTakeMessage': WHATEVER THE INPUT: true; the input reads as it did. -/
def fnExactTakeMessageSpec : ChangeSpec := { name := "fnExactTakeMessage", fn := fun _ => fun
  | [d1, d2] => { results := [.lit (.bool true)], args := [d1, d2] }
  | _ => none }
def fnExactTakeMessageRow : OpenClaim := { program := "ytbifggfmfiocoaa", sum := "e05d7785e63667477a5bd804ddab37ebc9b53aefdfe82f22844bed52f3844be5", func := "loop.example/g00511/laws.FnExactTakeMessage", spec := "fnExactTakeMessage", apart := false }
def FnExactTakeMessageSaid : Prop := fnExactTakeMessageRow.holds Try.pinned (OpenSpec.ofChange fnExactTakeMessageSpec)

/-- ITS FALSE NEIGHBOUR: 'it returns false'. Refute it at one input. -/
def fnExactTakeMessageWrong : ChangeSpec := { name := "fnExactTakeMessage", fn := fun _ => fun
  | [d1, d2] => { results := [.lit (.bool false)], args := [d1, d2] }
  | _ => none }
def FnExactTakeMessageWrongFalsely : Prop := fnExactTakeMessageRow.holds Try.pinned (OpenSpec.ofChange fnExactTakeMessageWrong)

/-- 'laws.FnExactExpireMessages': WHATEVER THE INPUT: true; the input reads as it did. -/
def fnExactExpireMessagesSpec : ChangeSpec := { name := "fnExactExpireMessages", fn := fun _ => fun
  | [d1, d2] => { results := [.lit (.bool true)], args := [d1, d2] }
  | _ => none }
def fnExactExpireMessagesRow : OpenClaim := { program := "ytbifggfmfiocoaa", sum := "e05d7785e63667477a5bd804ddab37ebc9b53aefdfe82f22844bed52f3844be5", func := "loop.example/g00511/laws.FnExactExpireMessages", spec := "fnExactExpireMessages", apart := false }
def FnExactExpireMessagesSaid : Prop := fnExactExpireMessagesRow.holds Try.pinned (OpenSpec.ofChange fnExactExpireMessagesSpec)

/-- ITS FALSE NEIGHBOUR: 'it returns false'. Refute it at one input. -/
def fnExactExpireMessagesWrong : ChangeSpec := { name := "fnExactExpireMessages", fn := fun _ => fun
  | [d1, d2] => { results := [.lit (.bool false)], args := [d1, d2] }
  | _ => none }
def FnExactExpireMessagesWrongFalsely : Prop := fnExactExpireMessagesRow.holds Try.pinned (OpenSpec.ofChange fnExactExpireMessagesWrong)

/-- 'laws.FnExactCountCategory': WHATEVER THE INPUT: true; the input reads as it did. -/
def fnExactCountCategorySpec : ChangeSpec := { name := "fnExactCountCategory", fn := fun _ => fun
  | [d1, d2] => { results := [.lit (.bool true)], args := [d1, d2] }
  | _ => none }
def fnExactCountCategoryRow : OpenClaim := { program := "ytbifggfmfiocoaa", sum := "e05d7785e63667477a5bd804ddab37ebc9b53aefdfe82f22844bed52f3844be5", func := "loop.example/g00511/laws.FnExactCountCategory", spec := "fnExactCountCategory", apart := false }
def FnExactCountCategorySaid : Prop := fnExactCountCategoryRow.holds Try.pinned (OpenSpec.ofChange fnExactCountCategorySpec)

/-- ITS FALSE NEIGHBOUR: 'it returns false'. Refute it at one input. -/
def fnExactCountCategoryWrong : ChangeSpec := { name := "fnExactCountCategory", fn := fun _ => fun
  | [d1, d2] => { results := [.lit (.bool false)], args := [d1, d2] }
  | _ => none }
def FnExactCountCategoryWrongFalsely : Prop := fnExactCountCategoryRow.holds Try.pinned (OpenSpec.ofChange fnExactCountCategoryWrong)

/-- 'laws.FnExactEqualQueues': WHATEVER THE INPUT: true; the input reads as it did. -/
def fnExactEqualQueuesSpec : ChangeSpec := { name := "fnExactEqualQueues", fn := fun _ => fun
  | [d1, d2] => { results := [.lit (.bool true)], args := [d1, d2] }
  | _ => none }
def fnExactEqualQueuesRow : OpenClaim := { program := "ytbifggfmfiocoaa", sum := "e05d7785e63667477a5bd804ddab37ebc9b53aefdfe82f22844bed52f3844be5", func := "loop.example/g00511/laws.FnExactEqualQueues", spec := "fnExactEqualQueues", unfollowed := true, recurses := true, apart := false }
def FnExactEqualQueuesSaid : Prop := fnExactEqualQueuesRow.holds Try.pinned (OpenSpec.ofChange fnExactEqualQueuesSpec)

/-- ITS FALSE NEIGHBOUR: 'it returns false'. Refute it at one input. -/
def fnExactEqualQueuesWrong : ChangeSpec := { name := "fnExactEqualQueues", fn := fun _ => fun
  | [d1, d2] => { results := [.lit (.bool false)], args := [d1, d2] }
  | _ => none }
def FnExactEqualQueuesWrongFalsely : Prop := fnExactEqualQueuesRow.holds Try.pinned (OpenSpec.ofChange fnExactEqualQueuesWrong)

/- THE SECOND FORM. 'bulk': how many values and letters a reading holds, each counted each time it is reached (what is shared counts as often as it is met; a slice's spare places count too). A statement '..UptoSaid' is the law's where the arguments, and the package variables that the reading takes, are together of bulk at most 1048576: NARROWER than '..Said'. Prove '..Said' where nothing that the law and all that it calls make is longer than what came in: it says more and counts as full. Else prove '..UptoSaid'. A law counts once. -/
mutual
def uptoBulk {H : Type} : DataW H → Nat
  | .lit (.string bytes) => bytes.length + 1
  | .lit _ => 1
  | .nil => 1
  | .ptr d => uptoBulk d + 1
  | .slice elems spare => uptoBulkAll elems + uptoBulkAll spare + 1
  | .agg parts => uptoBulkAll parts + 1
  | .iface _ d => uptoBulk d + 1
  | .map entries => uptoBulkEntries entries + 1
  | .held _ => 1
def uptoBulkAll {H : Type} : List (DataW H) → Nat
  | [] => 0
  | d :: r => uptoBulk d + uptoBulkAll r
def uptoBulkEntries {H : Type} : List (Lit × DataW H) → Nat
  | [] => 0
  | x :: r => uptoBulkEntry x + uptoBulkEntries r
def uptoBulkEntry {H : Type} : Lit × DataW H → Nat
  | (.string bytes, d) => bytes.length + uptoBulk d + 1
  | (_, d) => uptoBulk d + 1
 end
def uptoSmall : (H : Type) → List (DataW H) → Bool := fun _ ds => decide (uptoBulkAll ds ≤ 1048576)
def OpenSpec.upto (s : _root_.Go.ChangeSpec) : _root_.Go.OpenSpec := { _root_.Go.OpenSpec.ofChange s with cond := some uptoSmall }

/-- 'laws.FnQueues', WHERE WHAT IT READS IS OF BULK AT MOST 1048576: true; the input reads as it did. -/
def fnQueuesUptoRow : OpenClaim := { program := "ytbifggfmfiocoaa", sum := "e05d7785e63667477a5bd804ddab37ebc9b53aefdfe82f22844bed52f3844be5", func := "loop.example/g00511/laws.FnQueues", spec := "fnQueues", unfollowed := true, recurses := true, apart := false, narrowed := true }
def FnQueuesUptoSaid : Prop := fnQueuesUptoRow.holds Try.pinned (OpenSpec.upto fnQueuesSpec)

/-- 'laws.FnQueueOrder', WHERE WHAT IT READS IS OF BULK AT MOST 1048576: true; the input reads as it did. -/
def fnQueueOrderUptoRow : OpenClaim := { program := "ytbifggfmfiocoaa", sum := "e05d7785e63667477a5bd804ddab37ebc9b53aefdfe82f22844bed52f3844be5", func := "loop.example/g00511/laws.FnQueueOrder", spec := "fnQueueOrder", unfollowed := true, recurses := true, apart := false, narrowed := true }
def FnQueueOrderUptoSaid : Prop := fnQueueOrderUptoRow.holds Try.pinned (OpenSpec.upto fnQueueOrderSpec)

/-- 'laws.FnExactIsValidMessage', WHERE WHAT IT READS IS OF BULK AT MOST 1048576: true; the input reads as it did. -/
def fnExactIsValidMessageUptoRow : OpenClaim := { program := "ytbifggfmfiocoaa", sum := "e05d7785e63667477a5bd804ddab37ebc9b53aefdfe82f22844bed52f3844be5", func := "loop.example/g00511/laws.FnExactIsValidMessage", spec := "fnExactIsValidMessage", apart := false, narrowed := true }
def FnExactIsValidMessageUptoSaid : Prop := fnExactIsValidMessageUptoRow.holds Try.pinned (OpenSpec.upto fnExactIsValidMessageSpec)

/-- 'laws.FnExactIsValidQueue', WHERE WHAT IT READS IS OF BULK AT MOST 1048576: true; the input reads as it did. -/
def fnExactIsValidQueueUptoRow : OpenClaim := { program := "ytbifggfmfiocoaa", sum := "e05d7785e63667477a5bd804ddab37ebc9b53aefdfe82f22844bed52f3844be5", func := "loop.example/g00511/laws.FnExactIsValidQueue", spec := "fnExactIsValidQueue", apart := false, narrowed := true }
def FnExactIsValidQueueUptoSaid : Prop := fnExactIsValidQueueUptoRow.holds Try.pinned (OpenSpec.upto fnExactIsValidQueueSpec)

/-- 'laws.FnExactEnqueueMessage', WHERE WHAT IT READS IS OF BULK AT MOST 1048576: true; the input reads as it did. -/
def fnExactEnqueueMessageUptoRow : OpenClaim := { program := "ytbifggfmfiocoaa", sum := "e05d7785e63667477a5bd804ddab37ebc9b53aefdfe82f22844bed52f3844be5", func := "loop.example/g00511/laws.FnExactEnqueueMessage", spec := "fnExactEnqueueMessage", unfollowed := true, recurses := true, apart := false, narrowed := true }
def FnExactEnqueueMessageUptoSaid : Prop := fnExactEnqueueMessageUptoRow.holds Try.pinned (OpenSpec.upto fnExactEnqueueMessageSpec)

/-- 'laws.FnExactNextMessage', WHERE WHAT IT READS IS OF BULK AT MOST 1048576: true; the input reads as it did. -/
def fnExactNextMessageUptoRow : OpenClaim := { program := "ytbifggfmfiocoaa", sum := "e05d7785e63667477a5bd804ddab37ebc9b53aefdfe82f22844bed52f3844be5", func := "loop.example/g00511/laws.FnExactNextMessage", spec := "fnExactNextMessage", unfollowed := true, recurses := true, apart := false, narrowed := true }
def FnExactNextMessageUptoSaid : Prop := fnExactNextMessageUptoRow.holds Try.pinned (OpenSpec.upto fnExactNextMessageSpec)

/-- 'laws.FnExactTakeMessage', WHERE WHAT IT READS IS OF BULK AT MOST 1048576: true; the input reads as it did. -/
def fnExactTakeMessageUptoRow : OpenClaim := { program := "ytbifggfmfiocoaa", sum := "e05d7785e63667477a5bd804ddab37ebc9b53aefdfe82f22844bed52f3844be5", func := "loop.example/g00511/laws.FnExactTakeMessage", spec := "fnExactTakeMessage", apart := false, narrowed := true }
def FnExactTakeMessageUptoSaid : Prop := fnExactTakeMessageUptoRow.holds Try.pinned (OpenSpec.upto fnExactTakeMessageSpec)

/-- 'laws.FnExactExpireMessages', WHERE WHAT IT READS IS OF BULK AT MOST 1048576: true; the input reads as it did. -/
def fnExactExpireMessagesUptoRow : OpenClaim := { program := "ytbifggfmfiocoaa", sum := "e05d7785e63667477a5bd804ddab37ebc9b53aefdfe82f22844bed52f3844be5", func := "loop.example/g00511/laws.FnExactExpireMessages", spec := "fnExactExpireMessages", apart := false, narrowed := true }
def FnExactExpireMessagesUptoSaid : Prop := fnExactExpireMessagesUptoRow.holds Try.pinned (OpenSpec.upto fnExactExpireMessagesSpec)

/-- 'laws.FnExactCountCategory', WHERE WHAT IT READS IS OF BULK AT MOST 1048576: true; the input reads as it did. -/
def fnExactCountCategoryUptoRow : OpenClaim := { program := "ytbifggfmfiocoaa", sum := "e05d7785e63667477a5bd804ddab37ebc9b53aefdfe82f22844bed52f3844be5", func := "loop.example/g00511/laws.FnExactCountCategory", spec := "fnExactCountCategory", apart := false, narrowed := true }
def FnExactCountCategoryUptoSaid : Prop := fnExactCountCategoryUptoRow.holds Try.pinned (OpenSpec.upto fnExactCountCategorySpec)

/-- 'laws.FnExactEqualQueues', WHERE WHAT IT READS IS OF BULK AT MOST 1048576: true; the input reads as it did. -/
def fnExactEqualQueuesUptoRow : OpenClaim := { program := "ytbifggfmfiocoaa", sum := "e05d7785e63667477a5bd804ddab37ebc9b53aefdfe82f22844bed52f3844be5", func := "loop.example/g00511/laws.FnExactEqualQueues", spec := "fnExactEqualQueues", unfollowed := true, recurses := true, apart := false, narrowed := true }
def FnExactEqualQueuesUptoSaid : Prop := fnExactEqualQueuesUptoRow.holds Try.pinned (OpenSpec.upto fnExactEqualQueuesSpec)

end Rows
end Go.Proofs.Ytbifggfmfiocoaa
