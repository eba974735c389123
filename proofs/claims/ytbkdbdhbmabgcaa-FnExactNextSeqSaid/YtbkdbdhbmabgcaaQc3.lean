/- Copies of messages and of queues, program and specification. Condition: bodies up to 2^26 bytes. -/
import Derived.Test.YtbkdbdhbmabgcaaQh2
import Derived.Test.YtbkdbdhbmabgcaaMra
import Derived.Test.YtbkdbdhbmabgcaaUv
namespace Go.Proofs.Ytbkdbdhbmabgcaa.mq
open Go.RowKit sl harn bx mrw
set_option linter.unusedVariables false
set_option linter.unusedSimpArgs false

theorem x_parts {x : Msg} {w w' : World} {e : Ending} (h : XPost x w e w') : ∃ A n cap, e = .returned (mV x A n cap) ∧ Ow 5 .u8 w' w.heap.size w'.heap.size A n cap x.2.2.2 ∧ Below w.heap.size w w' := h
theorem copyAll (lo hi : Nat) (A : Option Addr) (n cap : Nat) (zs : List Int) (w : World) (h : Rd .u8 w lo hi A n cap zs) (hn : n ≤ 134217728) :
    Calls Try.prog 52 #[.slice A n cap, .int .i64 0, .int .i64 n] w (SlPost 5 .u8 w zs) := by
  have hh := uvs.copyPart lo hi A n cap zs 0 n w h (by omega) (Nat.le_refl _) hn
  have e : (zs.drop 0).take (n - 0) = zs := by rw [List.drop_zero]; exact List.take_of_length_le (by rw [h.len]; omega)
  rw [e] at hh
  exact hh
end Go.Proofs.Ytbkdbdhbmabgcaa.mq
