/- Copies of queues, program and specification. Condition: sizes up to 2^26. -/
import Derived.Test.YtbkdbdhbmabgcaaQc3
import Derived.Test.YtbkdbdhbmabgcaaRgp
namespace Go.Proofs.Ytbkdbdhbmabgcaa.mq
open Go.RowKit sl harn bx mrw
set_option linter.unusedVariables false
set_option linter.unusedSimpArgs false

/-- A block without cells is an empty row. -/
theorem oe_box {α : Type} {S : Sh α} {w : World} {b : Nat} (h : Bx S.T w b #[]) : Oe S w b w.heap.size (some ⟨b, 0, none⟩) 0 0 [] :=
  ⟨⟨by simp [flat], .inr ⟨b, 0, #[], rfl, Nat.le_refl _, h, Nat.le_refl _, by unfold maxLen; omega, by simp, by simp [flat]⟩⟩, fun _ h => (by cases h), List.Pairwise.nil, Nat.le_refl _, fun g o e => by
    injection e with e; injection e with e _; subst e; exact h.lt⟩
end Go.Proofs.Ytbkdbdhbmabgcaa.mq
