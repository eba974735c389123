/- BytesToBits of the specification; the results' parts for the exact laws. Condition: lengths up to 2^26. -/
import Derived.Test.YtnffklompocflabBits5
import Derived.Test.YtnffklompocflabBits6
namespace Go.Proofs.Ytnffklompocflab.bits
open Go.RowKit sl harn bm rng

theorem bool_parts {a r : Bool} (ht : a = r) {w w' : World} {e : Ending} (h : e = .returned (.bool a) ∧ w = w') : e = .returned (.bool r) ∧ Below w.heap.size w w' := by
  obtain ⟨h1, rfl⟩ := h
  subst ht; exact ⟨h1, Below.refl _ _⟩
theorem num_parts {a r : Int} (ht : a = r) {w w' : World} {e : Ending} (h : e = .returned (.int .i64 a) ∧ w = w') : e = .returned (.int .i64 r) ∧ Below w.heap.size w w' := by
  obtain ⟨h1, rfl⟩ := h
  subst ht; exact ⟨h1, Below.refl _ _⟩
theorem bb_len_of {l ys : List Int} {b : Bool} (h : bb l = (ys, b)) : ys.length ≤ l.length := by
  have := bb_len l
  rw [h] at this; exact this
end Go.Proofs.Ytnffklompocflab.bits
