/- ExpireMessages of both sides. Condition: sizes up to 2^26. -/
import Derived.Test.YtbkdbdhbmabgcaaQc4
import Derived.Test.YtbkdbdhbmabgcaaRgp
import Derived.Test.YtbkdbdhbmabgcaaStv
namespace Go.Proofs.Ytbkdbdhbmabgcaa.mq
open Go.RowKit sl harn bx mrw
set_option linter.unusedVariables false
set_option linter.unusedSimpArgs false

theorem drp_wf {t : Int} {ms : List Msg} {d : Int} (hd : (Lit.int .i64 d).wf = true) : ∀ k, (Lit.int .i64 (drp t ms d k)).wf = true
  | 0 => hd
  | k + 1 => by
    unfold drp
    split
    · exact wf_wrap .i64 _
    · exact drp_wf hd k
end Go.Proofs.Ytbkdbdhbmabgcaa.mq
