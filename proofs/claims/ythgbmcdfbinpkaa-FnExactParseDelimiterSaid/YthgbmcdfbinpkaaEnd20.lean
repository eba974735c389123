/- What the exact laws of stage 20 ask of the contracts. Condition: none. -/
import Derived.Test.YthgbmcdfbinpkaaAg3
namespace Go.Proofs.Ythgbmcdfbinpkaa.ag
open Go.RowKit sl harn bx
theorem neq {a b : Int} (ht : a = b) {w w' : World} {e : Ending} (h : e = .returned (.int .i64 a) ∧ w = w') : e = .returned (.int .i64 b) ∧ Below w.heap.size w w' := by
  obtain ⟨h1, h2⟩ := h
  subst h2 ht
  exact ⟨h1, Below.refl _ _⟩
theorem beq {a b : Bool} (ht : a = b) {w w' : World} {e : Ending} (h : e = .returned (.bool a) ∧ w = w') : e = .returned (.bool b) ∧ Below w.heap.size w w' := by
  obtain ⟨h1, h2⟩ := h
  subst h2 ht
  exact ⟨h1, Below.refl _ _⟩
end Go.Proofs.Ythgbmcdfbinpkaa.ag
