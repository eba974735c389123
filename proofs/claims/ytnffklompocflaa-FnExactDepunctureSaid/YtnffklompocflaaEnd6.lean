/- What the walks of stage 6 hand to the exact laws. Condition: none. -/
import Derived.Test.YtnffklompocflaaCnv2
import Derived.Test.YtnffklompocflaaCnv3
namespace Go.Proofs.Ytnffklompocflaa.fin6
open Go.RowKit sl harn

theorem num_same {a r : Int} (ht : a = r) {w w' : World} {e : Ending} (h : e = .returned (.int .i64 a) ∧ w = w') : e = .returned (.int .i64 r) ∧ Below w.heap.size w w' := by
  obtain ⟨h1, rfl⟩ := h
  subst ht; exact ⟨h1, Below.refl _ _⟩
theorem num_below {a r : Int} (ht : a = r) {w w' : World} {e : Ending} (h : e = .returned (.int .i64 a) ∧ Below w.heap.size w w') : e = .returned (.int .i64 r) ∧ Below w.heap.size w w' := by
  subst ht; exact h
theorem bool_same {a r : Bool} (ht : a = r) {w w' : World} {e : Ending} (h : e = .returned (.bool a) ∧ w = w') : e = .returned (.bool r) ∧ Below w.heap.size w w' := by
  obtain ⟨h1, rfl⟩ := h
  subst ht; exact ⟨h1, Below.refl _ _⟩
theorem two_same {t : Int × Int} {p q : Int} (ht : t = (p, q)) {w w' : World} {e : Ending} (h : cvs.TwoPost t w e w') : e = .returned (.tuple #[.int .i64 p, .int .i64 q]) ∧ Below w.heap.size w w' := by
  obtain ⟨h1, rfl⟩ := cvs.TwoPost.parts ht h
  exact ⟨h1, Below.refl _ _⟩
theorem punc_le (l : List Int) : (cvm.punc l).length ≤ l.length := by rw [cvm.punc_len]; omega
end Go.Proofs.Ytnffklompocflaa.fin6
