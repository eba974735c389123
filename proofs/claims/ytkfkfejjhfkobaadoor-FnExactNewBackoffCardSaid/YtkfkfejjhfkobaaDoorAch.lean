/- The harness's copy of parameters, parameters in a block of their own. Condition: none. -/
import Derived.Test.YtkfkfejjhfkobaaDoorAc3
namespace Go.Proofs.YtkfkfejjhfkobaaDoor.acp
open Go.RowKit sl harn
set_option linter.unusedVariables false
theorem below_box (w : World) (o : Obj) : Below w.heap.size w (w.alloc o) := bx.below_box w o
theorem below_box2 (w : World) (o o' : Obj) : Below w.heap.size w ((w.alloc o).alloc o') := bx.below_box2 w o o'
section
variable {w w' : World} {b : Nat} {p q r s : Int}
end
end Go.Proofs.YtkfkfejjhfkobaaDoor.acp
