/- What the walks of stage 8 hand to the exact laws. Condition: none. -/
import Derived.Test.YtpompggakhnflaaItl2
import Derived.Test.YtpompggakhnflaaItl3
import Derived.Test.YtpompggakhnflaaItl4
import Derived.Test.YtpompggakhnflaaItl5
import Derived.Test.YtpompggakhnflaaItl6
namespace Go.Proofs.Ytpompggakhnflaa.fin8
open Go.RowKit sl harn

theorem num_below {a r : Int} (ht : a = r) {w w' : World} {e : Ending} (h : e = .returned (.int .i64 a) ∧ Below w.heap.size w w') : e = .returned (.int .i64 r) ∧ Below w.heap.size w w' := by
  subst ht; exact h
theorem num_idx {n c i r : Int} (ht : itm.idx n c i = r) {w w' : World} {e : Ending} (h : itl.IdxPost n c i w e w') : e = .returned (.int .i64 r) ∧ Below w.heap.size w w' := by
  subst ht
  obtain ⟨h1, m, rfl⟩ := h
  exact ⟨h1, ⟨rfl, rfl, rfl, Nat.le_refl _, fun _ _ => rfl⟩⟩
theorem num_spr {n c r : Int} (ht : itm.spread n c = r) {w w' : World} {e : Ending} (h : itl.SprPost n c w e w') : e = .returned (.int .i64 r) ∧ Below w.heap.size w w' := by
  subst ht; exact h
theorem bool_below {a r : Bool} (ht : a = r) {w w' : World} {e : Ending} (h : e = .returned (.bool a) ∧ Below w.heap.size w w') : e = .returned (.bool r) ∧ Below w.heap.size w w' := by
  subst ht; exact h
end Go.Proofs.Ytpompggakhnflaa.fin8
