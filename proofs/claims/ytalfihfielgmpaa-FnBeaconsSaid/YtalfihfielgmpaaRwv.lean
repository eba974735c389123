/- A value of a region that holds a row which is read, wherever it lies. Condition: none. -/
import Derived.Test.YtalfihfielgmpaaStv
namespace Go.Proofs.Ytalfihfielgmpaa.stw
open Go.RowKit sl harn bx
set_option linter.unusedVariables false

/-- A value with a row of numbers in it, that stays as what was there stays. -/
def rowv (k : IntKind) (zs : List Int) (f : Option Addr → Nat → Nat → Value) : reg.Stay reg.Bel :=
  ⟨fun v w => ∃ A n c lo hi, v = f A n c ∧ Rd k w lo hi A n c zs, fun v w w' ⟨A, n, c, lo, hi, e, h⟩ hb => ⟨A, n, c, lo, hi, e, h.below hb⟩⟩
end Go.Proofs.Ytalfihfielgmpaa.stw
