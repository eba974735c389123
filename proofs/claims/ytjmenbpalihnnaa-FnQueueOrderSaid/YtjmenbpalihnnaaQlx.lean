/- A queue of the call's own as a value of a region. Condition: none. -/
import Derived.Test.YtjmenbpalihnnaaQlw
import Derived.Test.YtjmenbpalihnnaaReg
import Derived.Test.YtjmenbpalihnnaaStw
import Derived.Test.YtjmenbpalihnnaaRwv
namespace Go.Proofs.Ytjmenbpalihnnaa.mq
open Go.RowKit sl harn bx mrw
set_option linter.unusedVariables false
set_option linter.unusedSimpArgs false
/-- A queue of the call's own, somewhere. -/
def qrow (l : List Msg) (d : Int) : reg.Stay reg.Bel := ⟨fun v w => ∃ (A : Option Addr) (n c lo hi : Nat) (es : List (El Msg)), v = qV A n c d ∧ es.map (·.x) = l ∧ Oe msg w lo hi A n c es, fun v w w' ⟨A, n, c, lo, hi, es, h1, h2, h3⟩ hb => ⟨A, n, c, lo, hi, es, h1, h2, h3.below hb⟩⟩
end Go.Proofs.Ytjmenbpalihnnaa.mq
