/- What the laws of stage 9 take of the contracts: everything under one import, results under one name. Condition: none. -/
import Derived.Test.YtcfgjlolabnolaaChw2
import Derived.Test.YtcfgjlolabnolaaChw3
import Derived.Test.YtcfgjlolabnolaaChw4
import Derived.Test.YtcfgjlolabnolaaChw6
import Derived.Test.YtcfgjlolabnolaaChw9
import Derived.Test.YtcfgjlolabnolaaChwB
namespace Go.Proofs.Ytcfgjlolabnolaa.fin9
open Go.RowKit sl harn chm chw
theorem num_below {a r : Int} (ht : a = r) {w w' : World} {e : Ending} (h : e = .returned (.int .i64 a) ∧ Below w.heap.size w w') : e = .returned (.int .i64 r) ∧ Below w.heap.size w w' := by
  subst ht; exact h
theorem bool_below {a r : Bool} (ht : a = r) {w w' : World} {e : Ending} (h : e = .returned (.bool a) ∧ Below w.heap.size w w') : e = .returned (.bool r) ∧ Below w.heap.size w w' := by
  subst ht; exact h
/-- There are elements that occur an odd number of times. -/
theorem odds_take {S : List Int} (hp : S.Pairwise (· ≤ ·)) : ∀ k, k ≤ S.length → ∃ o, Odds o (S.take k)
  | 0, _ => ⟨[], by simpa using canc_start⟩
  | k + 1, h => by
    obtain ⟨o, ho⟩ := odds_take hp k (by omega)
    rw [take_next S (show k < S.length by omega)]
    by_cases h0 : 0 < o.length ∧ o.getD (o.length - 1) 0 = S.getD k 0
    · exact ⟨_, canc_drop ho h0.1 h0.2⟩
    · exact ⟨_, canc_push ho (srt_le hp (by omega) rfl) fun y hy e1 e2 => h0 ⟨hy, by rw [e1, e2]⟩⟩
theorem odds_ex (l : List Int) : ∃ m, Odds m l := by
  obtain ⟨o, ho⟩ := odds_take (srt_pair l) (srt l).length (Nat.le_refl _)
  rw [List.take_length] at ho
  exact ⟨o, ho.perm (srt_perm l)⟩
theorem mrg_odds (l : List Int) : Odds (mrg l) l := by
  obtain ⟨m, h⟩ := odds_ex l
  rw [h.eq]; exact h
theorem mrg_len (l m : List Int) : (mrg (l ++ m)).length ≤ l.length + m.length := by
  have := (mrg_odds (l ++ m)).len
  rwa [List.length_append] at this
end Go.Proofs.Ytcfgjlolabnolaa.fin9
