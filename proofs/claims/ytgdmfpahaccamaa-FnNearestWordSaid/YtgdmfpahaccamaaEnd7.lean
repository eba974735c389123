/- What the walks of stage 7 hand to the exact laws. Condition: none. -/
import Derived.Test.YtgdmfpahaccamaaVit2
import Derived.Test.YtgdmfpahaccamaaVit5
import Derived.Test.YtgdmfpahaccamaaVit8
namespace Go.Proofs.Ytgdmfpahaccamaa.fin7
open Go.RowKit sl harn

theorem num_same {a r : Int} (ht : a = r) {w w' : World} {e : Ending} (h : e = .returned (.int .i64 a) ∧ w = w') : e = .returned (.int .i64 r) ∧ Below w.heap.size w w' := by
  obtain ⟨h1, rfl⟩ := h
  subst ht; exact ⟨h1, Below.refl _ _⟩
theorem num_below {a r : Int} (ht : a = r) {w w' : World} {e : Ending} (h : e = .returned (.int .i64 a) ∧ Below w.heap.size w w') : e = .returned (.int .i64 r) ∧ Below w.heap.size w w' := by
  subst ht; exact h
theorem vit_parts {t : List Int × Int} {l : List Int} {d : Int} (ht : t = (l, d)) {w w' : World} {e : Ending} (h : vts.VitPost t w e w') :
    ∃ A m c, e = .returned (.tuple #[.slice A m c, .int .i64 d]) ∧ Ow 3 .i64 w' w.heap.size w'.heap.size A m c l ∧ Below w.heap.size w w' := by
  subst ht; exact h
theorem vits_parts {t : List Int × Int} {l : List Int} {d : Int} (ht : t = (l, d)) {w w' : World} {e : Ending} (h : vts.VitPostS t w e w') :
    ∃ A m c, e = .returned (.tuple #[.slice A m c, .int .i64 d]) ∧ Ow 3 .i64 w' w.heap.size w'.heap.size A m c l ∧ Below w.heap.size w w' := by
  subst ht; exact h
theorem vit_len {zs l : List Int} {d : Int} (ht : vit.vit zs = (l, d)) : l.length ≤ zs.length := by
  rcases vit.vit_cases zs with ⟨m, hm, hs⟩ | hno
  · rw [vit.vit_yes hm hs] at ht
    injection ht with h1 _
    rw [← h1, vit.dec_len]
    have := (vit.inl_nat hm).1
    omega
  · rw [vit.vit_no hno] at ht
    injection ht with h1 _
    rw [← h1]; simp
end Go.Proofs.Ytgdmfpahaccamaa.fin7
