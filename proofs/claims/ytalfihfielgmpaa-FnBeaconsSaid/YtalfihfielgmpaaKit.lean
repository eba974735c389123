/- What a walk is told of a slice of integers that came in, and small closings. Condition: none. -/
import Derived.Test.YtalfihfielgmpaaRows
import Derived.WalkKit
import Derived.Below
namespace Go.Proofs.Ytalfihfielgmpaa.kit

/-- A slice of integers: nil, or a row of 'cap' cells that hold the numbers 'zs', each fitting its kind. -/
def IsRow (k : IntKind) (w : World) (a : Option Addr) (len cap : Nat) (zs : List Int) : Prop :=
  (a = none ∧ len = 0 ∧ cap = 0 ∧ zs = []) ∨
  ∃ x, a = some x ∧ len ≤ cap ∧ cap ≤ maxLen ∧ zs.length = cap ∧ (∀ i, i < zs.length → w.cell? (x.add i) = some (.int k (zs.getD i 0))) ∧ ∀ n ∈ zs, (Lit.int k n).wf = true
end Go.Proofs.Ytalfihfielgmpaa.kit
