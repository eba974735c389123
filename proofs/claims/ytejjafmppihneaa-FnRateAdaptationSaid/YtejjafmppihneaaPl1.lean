/- Who exists, and distances: program and specification. Condition: none. -/
import Derived.Test.YtejjafmppihneaaBox
import Derived.Test.YtejjafmppihneaaPlm
import Derived.BigQuiet
namespace Go.Proofs.Ytejjafmppihneaa.bx
open Go.RowKit sl harn rng plm
set_option linter.unusedVariables false

end Go.Proofs.Ytejjafmppihneaa.bx
