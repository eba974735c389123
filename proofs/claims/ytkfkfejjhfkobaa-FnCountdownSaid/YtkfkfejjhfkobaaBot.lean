/- Ticks of a backoff as numbers: after so many idle slots it is ready, not earlier. No program. -/
import Derived.Test.YtkfkfejjhfkobaaBom
namespace Go.Proofs.Ytkfkfejjhfkobaa.bom
open Go.RowKit acm
set_option linter.unusedVariables false

/-- After k idle slots. -/
def itk (q : Bo) : Nat → Bo
  | 0 => q
  | k + 1 => tik (itk q k) false
theorem itk_vb {q : Bo} (h : Vb q) (k : Nat) : Vb (itk q k) := by
  induction k with
  | zero => exact h
  | succ k ih => exact tik_vb ih false
theorem wait_in {q : Bo} (h : Vb q) : 0 ≤ q.a ∧ q.a ≤ 15 ∧ 0 ≤ q.t ∧ q.t ≤ 1023 := by
  have h1 := h.par.aifs
  have h2 := h.wait
  have h3 := h.le
  have h4 := win_in h.par.high
  omega
theorem slo_yes {q : Bo} (h : Vb q) : slo q = q.a - q.j + q.t := by unfold slo; rw [if_pos (vb_iff.2 h)]
theorem slo_in {q : Bo} (h : Vb q) : 0 ≤ slo q ∧ slo q ≤ 1038 := by
  rw [slo_yes h]
  have h1 := h.idle
  have h2 := h.wait
  have h3 := h.par.aifs
  have h4 := h.le
  have h5 := win_in h.par.high
  omega
theorem rdy_slo {q : Bo} (h : Vb q) : rdy q = decide (slo q = 0) := by
  have h1 := h.idle
  have h2 := h.wait
  unfold rdy
  rw [vb_iff.2 h, slo_yes h]
  by_cases e : q.a - q.j + q.t = 0
  · rw [decide_eq_true e, decide_eq_true (show q.j = q.a by omega), decide_eq_true (show q.t = 0 by omega)]; rfl
  · rw [decide_eq_false e]
    by_cases e1 : q.j = q.a
    · rw [decide_eq_true e1, decide_eq_false (show ¬ q.t = 0 by omega)]; rfl
    · rw [decide_eq_false e1]; rfl
theorem slo_tik {q : Bo} (h : Vb q) (hp : 0 < slo q) : slo (tik q false) = slo q - 1 := by
  have hv := tik_vb h false
  rw [slo_yes hv, slo_yes h]
  rw [slo_yes h] at hp
  have h1 := h.idle
  have h2 := h.wait
  unfold tik
  rw [if_pos (vb_iff.2 h), if_neg (by decide)]
  split
  · show q.a - (q.j + 1) + q.t = _; omega
  · split
    · show q.a - q.j + (q.t - 1) = _; omega
    · omega
theorem slo_itk {q : Bo} (h : Vb q) (k : Nat) (hk : (k : Int) ≤ slo q) : slo (itk q k) = slo q - k := by
  induction k with
  | zero => simp [itk]
  | succ k ih =>
    have h1 := ih (by omega)
    show slo (tik (itk q k) false) = _
    rw [slo_tik (itk_vb h k) (by omega), h1]
    omega
theorem tik_busy {q : Bo} (h : Vb q) : tik q true = ⟨q.a, q.b, q.c, q.d, q.x, q.t, 0, q.r, q.n⟩ := by unfold tik; rw [if_pos (vb_iff.2 h), if_pos rfl]
theorem tik_no {q : Bo} {y : Bool} (h : vb q = false) : tik q y = q := by unfold tik; rw [h]; rfl
theorem slo_no {q : Bo} (h : vb q = false) : slo q = -1 := by unfold slo; rw [h]; rfl
theorem rdy_no {q : Bo} (h : vb q = false) : rdy q = false := by unfold rdy; rw [h]; rfl
end Go.Proofs.Ytkfkfejjhfkobaa.bom
