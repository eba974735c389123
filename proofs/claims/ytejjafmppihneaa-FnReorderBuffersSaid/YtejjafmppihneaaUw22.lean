/- The harness over numbered frames, slices of them and reorder buffers. Condition: sizes up to 2^26. -/
import Derived.Test.YtejjafmppihneaaUs22
import Derived.Deep.QuietTactic
import Derived.Test.YtejjafmppihneaaQh1
namespace Go.Proofs.Ytejjafmppihneaa.ux
open Go.RowKit sl harn bx stw
set_option linter.unusedVariables false
set_option linter.unusedSimpArgs false

theorem infoNf : (Try.prog.info? 90).map (fun i => (i.zero, i.size, i.bytes)) = some (some (.agg #[.int .i64 0, .slice none 0 0]), 2, 32) := by kernel_rfl
theorem infoRob : (Try.prog.info? 50).map (fun i => (i.zero, i.size, i.bytes)) = some (some (.agg #[.int .i64 0, .slice none 0 0]), 2, 32) := by kernel_rfl
def rob_mv (q : Int) (x : Rob) : Rob := { x with Pending := rowNf.mkx (q) x.Pending }
def rob_tv (x : Rob) : Nat := rowNf.tot x.Pending
end Go.Proofs.Ytejjafmppihneaa.ux
