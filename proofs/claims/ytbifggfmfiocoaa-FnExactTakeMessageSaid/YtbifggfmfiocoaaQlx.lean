/- A queue of the call's own as a value of a region. Condition: none. -/
import Derived.Test.YtbifggfmfiocoaaQlw
import Derived.Test.YtbifggfmfiocoaaReg
import Derived.Test.YtbifggfmfiocoaaStw
import Derived.Test.YtbifggfmfiocoaaRwv
namespace Go.Proofs.Ytbifggfmfiocoaa.mq
open Go.RowKit sl harn bx mrw
set_option linter.unusedVariables false
set_option linter.unusedSimpArgs false
theorem szLQ : (Try.prog.info? 50).map (·.size) = some 2 := by kernel_rfl
/-- A queue of the call's own, somewhere. -/
def qrow (l : List Msg) (d : Int) : reg.Stay reg.Bel := ⟨fun v w => ∃ (A : Option Addr) (n c lo hi : Nat) (es : List (El Msg)), v = qV A n c d ∧ es.map (·.x) = l ∧ Oe msg w lo hi A n c es, fun v w w' ⟨A, n, c, lo, hi, es, h1, h2, h3⟩ hb => ⟨A, n, c, lo, hi, es, h1, h2, h3.below hb⟩⟩
end Go.Proofs.Ytbifggfmfiocoaa.mq
