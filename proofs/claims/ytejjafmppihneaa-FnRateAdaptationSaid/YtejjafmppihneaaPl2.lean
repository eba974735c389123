/- Who hears whom: program and specification. Condition: none. -/
import Derived.Test.YtejjafmppihneaaPl1
import Derived.Deep.RegionHeld3
import Derived.Deep.RegionWith
namespace Go.Proofs.Ytejjafmppihneaa.bx
open Go.RowKit sl harn rng plm
set_option linter.unusedVariables false

end Go.Proofs.Ytejjafmppihneaa.bx
