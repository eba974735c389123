/- Removal of one message: slices.Delete, withoutMessage. Condition: at most 2^26 messages. -/
import Derived.Test.YtbkdbdhbmabgcaaQc5
import Derived.Test.YtbkdbdhbmabgcaaMrd
namespace Go.Proofs.Ytbkdbdhbmabgcaa.mq
open Go.RowKit sl harn bx mrw
set_option linter.unusedVariables false
set_option linter.unusedSimpArgs false

end Go.Proofs.Ytbkdbdhbmabgcaa.mq
