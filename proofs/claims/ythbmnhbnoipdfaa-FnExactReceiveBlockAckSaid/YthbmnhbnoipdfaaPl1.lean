/- Who exists, and distances: program and specification. Condition: none. -/
import Derived.Test.YthbmnhbnoipdfaaBox
import Derived.Test.YthbmnhbnoipdfaaPlm
import Derived.BigQuiet
namespace Go.Proofs.Ythbmnhbnoipdfaa.bx
open Go.RowKit sl harn rng plm
set_option linter.unusedVariables false

end Go.Proofs.Ythbmnhbnoipdfaa.bx
