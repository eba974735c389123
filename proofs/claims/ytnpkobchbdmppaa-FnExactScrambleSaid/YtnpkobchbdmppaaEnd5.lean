/- What the walks of stage 5 hand to the exact laws. Condition: none. -/
import Derived.Test.YtnpkobchbdmppaaCrc2
import Derived.Test.YtnpkobchbdmppaaScr2
import Derived.Test.YtnpkobchbdmppaaRun
namespace Go.Proofs.Ytnpkobchbdmppaa.fin5
open Go.RowKit sl harn crcm

theorem num_same {a r : Int} (ht : a = r) {w w' : World} {e : Ending} (h : e = .returned (.int .i64 a) ∧ w = w') : e = .returned (.int .i64 r) ∧ Below w.heap.size w w' := by
  obtain ⟨h1, rfl⟩ := h
  subst ht; exact ⟨h1, Below.refl _ _⟩
theorem num_below {a r : Int} (ht : a = r) {w w' : World} {e : Ending} (h : e = .returned (.int .i64 a) ∧ Below w.heap.size w w') : e = .returned (.int .i64 r) ∧ Below w.heap.size w w' := by
  subst ht; exact h
theorem chk_len_of {l ys : List Int} {b : Bool} (h : crcs.chk l = (ys, b)) : ys.length ≤ l.length := by
  have := crcs.chk_len l
  rw [h] at this; exact this
end Go.Proofs.Ytnpkobchbdmppaa.fin5
