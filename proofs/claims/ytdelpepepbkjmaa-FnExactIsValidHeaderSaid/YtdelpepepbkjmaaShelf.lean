/- No library contract is used by the texts of this seat. Condition: none. -/
import Derived.Test.YtdelpepepbkjmaaRows
import Derived.Shelf.Bytes.SlEqualAll
namespace Go.Proofs
end Go.Proofs
