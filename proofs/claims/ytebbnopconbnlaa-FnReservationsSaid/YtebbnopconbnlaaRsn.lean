/- What a heard frame does to a reservation, told by cases. No program. -/
import Derived.Test.YtebbnopconbnlaaRsm
namespace Go.Proofs.Ytebbnopconbnlaa.rsm
open Go.RowKit frm
set_option linter.unusedVariables false

theorem hea_cases (q : Rv) (s : Int) (x : Fm) (n : Int) : (hea q s x n = q ∧ (cnt q s x n = true → ¬ q.u < n + 1 + x.d)) ∨ (cnt q s x n = true ∧ q.u < n + 1 + x.d ∧ hea q s x n = ann x n) := by
  unfold hea
  by_cases hc : cnt q s x n = true
  · rw [if_pos hc]
    unfold com
    by_cases hl : q.u < (ann x n).u
    · rw [if_pos hl]; exact .inr ⟨hc, hl, rfl⟩
    · rw [if_neg hl]; exact .inl ⟨rfl, fun _ => hl⟩
  · rw [if_neg hc]; exact .inl ⟨rfl, fun h => absurd h hc⟩
theorem ann_holder {x : Fm} (hv : Vf x) : 0 ≤ (if x.k = 4 then x.t else x.f) ∧ (if x.k = 4 then x.t else x.f) ≤ 15 := by
  obtain ⟨_, hf, ht, _, _⟩ := hv
  split
  · rename_i h4
    rcases ht with ht | ht
    · exact ht.1
    · exact absurd (Or.inr (Or.inr (Or.inl h4))) ht.2
  · exact hf
theorem ann_vr {x : Fm} {n : Int} (hv : Vf x) (hn : 0 ≤ n ∧ n ≤ 999999998999) : vr (ann x n) = true := by
  have h1 := ann_holder hv
  obtain ⟨_, hf, _, hN, _⟩ := hv
  have hd := hN.2.2
  refine vr_iff.2 ⟨?_, h1, hf⟩
  show 0 ≤ n + 1 + x.d ∧ n + 1 + x.d ≤ 1000000000000
  omega
theorem may_own (q : Rv) (n : Int) : may q q.h n = true := by unfold may; rw [decide_eq_true rfl, Bool.or_true]
theorem may_next {q : Rv} {n : Int} (h : isr q n = true) : may q (q.h + 1) n = false := by
  unfold may; rw [h, decide_eq_false (by omega)]; rfl
theorem rel_yes (q : Rv) (n : Int) : rel q n true = q := by
  unfold rel; cases isr q n <;> rfl
theorem com_u (a b : Rv) : (com a b).u = if a.u < b.u then b.u else a.u := by unfold com; split <;> rfl
/-- A released reservation is over. -/
theorem rel_no (q : Rv) (n m : Int) (hm : m = if 0 < n then n else 0) : isr (rel q n false) m = false := by
  unfold rel
  cases h : isr q n with
  | true =>
    show isr ⟨0, 0, 0⟩ m = false
    unfold isr; exact decide_eq_false (by show ¬ m < 0; rw [hm]; split <;> omega)
  | false =>
    show isr q m = false
    have h1 : ¬ n < q.u := by unfold isr at h; exact of_decide_eq_false h
    unfold isr; exact decide_eq_false (by rw [hm]; split <;> omega)
end Go.Proofs.Ytebbnopconbnlaa.rsm
