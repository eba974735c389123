/- IsValidMessage, IsValidQueue, NextMessage of both sides. Condition: none. -/
import Derived.Test.YtejjafmppihneaaQc1
namespace Go.Proofs.Ytejjafmppihneaa.mq
open Go.RowKit sl harn bx mrw
set_option linter.unusedVariables false
set_option linter.unusedSimpArgs false

theorem all_vm {ms : List Msg} {n : Nat} (hl : ms.length = n) (h : ∀ j, j < n → vm (ms.getD j zm) = true) : ms.all vm = true := by
  rw [List.all_eq_true]
  intro x hx
  obtain ⟨j, hj, e⟩ := List.getElem_of_mem hx
  have := h j (by omega)
  rw [List.getD_eq_getElem?_getD, List.getElem?_eq_getElem hj] at this
  simpa [e] using this
theorem not_vm {ms : List Msg} {n j : Nat} (hl : ms.length = n) (hj : j < n) (h : vm (ms.getD j zm) = false) : ms.all vm = false := by
  rw [List.all_eq_false]
  refine ⟨ms[j], List.getElem_mem (by omega), ?_⟩
  rw [List.getD_eq_getElem?_getD, List.getElem?_eq_getElem (show j < ms.length by omega)] at h
  simpa using h
end Go.Proofs.Ytejjafmppihneaa.mq
