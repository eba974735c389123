/- The best path through the trellis: its cost, the path, that no other is nearer; two code words differ in at least five symbols. Condition: none (no program). -/
import Derived.Test.YtdelpepepbkjmaaConvm
namespace Go.Proofs.Ytdelpepepbkjmaa.vit
open Go.RowKit sl bm cvm
set_option linter.unusedVariables false

/-- A symbol against a bit. -/
def sd (b x : Int) : Int := if x = b ∨ x = 2 then 0 else 1
theorem sd_in (b x : Int) : 0 ≤ sd b x ∧ sd b x ≤ 1 := by unfold sd; split <;> omega
/-- A pair of symbols against a step. -/
def bd (s b x y : Int) : Int := sd (outp s b).1 x + sd (outp s b).2 y
theorem bd_in (s b x y : Int) : 0 ≤ bd s b x y ∧ bd s b x y ≤ 2 := by
  have h1 := sd_in (outp s b).1 x
  have h2 := sd_in (outp s b).2 y
  unfold bd; omega
/-- Symbols against bits. -/
def hd : List Int → List Int → Int
  | b :: r, x :: q => sd b x + hd r q
  | _, _ => 0
theorem hd_in : ∀ (a b : List Int), 0 ≤ hd a b ∧ hd a b ≤ a.length
  | [], _ => by simp [hd]
  | _ :: _, [] => by simp [hd]; omega
  | x :: a, y :: b => by
    have h1 := sd_in x y
    have h2 := hd_in a b
    simp only [hd, List.length_cons]; omega
theorem hd_append : ∀ (a b c d : List Int), a.length = c.length → hd (a ++ b) (c ++ d) = hd a c + hd b d
  | [], b, [], d, _ => by simp [hd]
  | [], _, _ :: _, _, h => by simp at h
  | _ :: _, _, [], _, h => by simp at h
  | x :: a, b, y :: c, d, h => by
    have ih := hd_append a b c d (by simpa using h)
    simp only [List.cons_append, hd, ih]; omega
theorem hd_take {a b : List Int} {k : Nat} (ha : k < a.length) (hb : k < b.length) : hd (a.take (k + 1)) (b.take (k + 1)) = hd (a.take k) (b.take k) + sd (a.getD k 0) (b.getD k 0) := by
  rw [take_one ha, take_one hb, hd_append _ _ _ _ (by simp; omega)]
  simp [hd]
/-- The better of two costs (a negative one: none); of equal ones the first. -/
def comb (a b : Int) : Int := if 0 ≤ b ∧ (a < 0 ∨ b < a) then b else a
def plus (c d : Int) : Int := if c < 0 then -1 else c + d
def via (c : Int → Int) (x y t s : Int) : Int := plus (c s) (bd s (t % 2) x y)
/-- The cost of a state behind a step, by the states below m. -/
def part (c : Int → Int) (x y m t : Int) : Int := comb (if t / 2 < m then via c x y t (t / 2) else -1) (if t / 2 + 2 < m then via c x y t (t / 2 + 2) else -1)
/-- The state ahead of it. -/
def from_ (c : Int → Int) (x y m t : Int) : Int := if 0 ≤ (if t / 2 + 2 < m then via c x y t (t / 2 + 2) else -1) ∧ ((if t / 2 < m then via c x y t (t / 2) else -1) < 0 ∨ (if t / 2 + 2 < m then via c x y t (t / 2 + 2) else -1) < (if t / 2 < m then via c x y t (t / 2) else -1)) then t / 2 + 2 else t / 2
def cost (zs : List Int) : Nat → Int → Int
  | 0, s => if s = 0 then 0 else -1
  | k + 1, t => part (cost zs k) (zs.getD (2 * k) 0) (zs.getD (2 * k + 1) 0) 4 t
def pre (zs : List Int) (k : Nat) (t : Int) : Int := from_ (cost zs k) (zs.getD (2 * k) 0) (zs.getD (2 * k + 1) 0) 4 t

theorem via_in {c : Int → Int} {x y t s : Int} {u : Int} (h : -1 ≤ c s ∧ c s ≤ u) : -1 ≤ via c x y t s ∧ via c x y t s ≤ u + 2 := by
  have := bd_in s (t % 2) x y
  unfold via plus; split <;> omega
theorem part_in {c : Int → Int} {x y m t : Int} {u : Int} (h : ∀ s, -1 ≤ c s ∧ c s ≤ u) : -1 ≤ part c x y m t ∧ part c x y m t ≤ u + 2 := by
  have h1 := via_in (x := x) (y := y) (t := t) (h (t / 2))
  have h2 := via_in (x := x) (y := y) (t := t) (h (t / 2 + 2))
  have h3 := h 0
  unfold part comb; split <;> split <;> (try split) <;> omega
theorem cost_in (zs : List Int) : ∀ (k : Nat) (t : Int), -1 ≤ cost zs k t ∧ cost zs k t ≤ 2 * k
  | 0, t => by unfold cost; split <;> omega
  | k + 1, t => by
    have := part_in (x := zs.getD (2 * k) 0) (y := zs.getD (2 * k + 1) 0) (m := 4) (t := t) (cost_in zs k)
    unfold cost; omega
theorem part_zero (c : Int → Int) (x y t : Int) (h : 0 ≤ t) : part c x y 0 t = -1 := by
  unfold part; rw [if_neg (by omega), if_neg (by omega)]; rfl
theorem part_wide (c : Int → Int) (x y t : Int) (h : 0 ≤ t ∧ t ≤ 3) : part c x y 4 t = comb (via c x y t (t / 2)) (via c x y t (t / 2 + 2)) := by
  unfold part; rw [if_pos (by omega), if_pos (by omega)]
theorem from_wide (c : Int → Int) (x y t : Int) (h : 0 ≤ t ∧ t ≤ 3) : from_ c x y 4 t = if 0 ≤ via c x y t (t / 2 + 2) ∧ (via c x y t (t / 2) < 0 ∨ via c x y t (t / 2 + 2) < via c x y t (t / 2)) then t / 2 + 2 else t / 2 := by
  unfold from_; rw [if_pos (show t / 2 < 4 by omega), if_pos (show t / 2 + 2 < 4 by omega)]
/-- A state that does not lead to t changes nothing. -/
theorem part_other (c : Int → Int) (x y : Int) {m t : Int} (h : 0 ≤ t ∧ t ≤ 3) (h1 : ¬ t / 2 = m) (h2 : ¬ t / 2 + 2 = m) : part c x y (m + 1) t = part c x y m t := by
  unfold part
  simp only [show (t / 2 < m + 1) = (t / 2 < m) from propext (by omega), show (t / 2 + 2 < m + 1) = (t / 2 + 2 < m) from propext (by omega)]
theorem from_other (c : Int → Int) (x y : Int) {m t : Int} (h : 0 ≤ t ∧ t ≤ 3) (h1 : ¬ t / 2 = m) (h2 : ¬ t / 2 + 2 = m) : from_ c x y (m + 1) t = from_ c x y m t := by
  unfold from_
  simp only [show (t / 2 < m + 1) = (t / 2 < m) from propext (by omega), show (t / 2 + 2 < m + 1) = (t / 2 + 2 < m) from propext (by omega)]
/-- What the state m does to the cost of its successor t. -/
theorem part_step (c : Int → Int) (x y : Int) {m t d : Int} (h : 0 ≤ t ∧ t ≤ 3) (hm : t / 2 = m ∨ t / 2 + 2 = m) (hd : via c x y t m = d) :
    part c x y (m + 1) t = (if 0 ≤ d ∧ (part c x y m t < 0 ∨ d < part c x y m t) then d else part c x y m t) ∨ part c x y m t = -1 ∧ d < 0 ∧ part c x y (m + 1) t = d := by
  subst hd
  rcases hm with rfl | rfl
  · have e1 : part c x y (t / 2) t = -1 := by unfold part; rw [if_neg (by omega), if_neg (by omega)]; rfl
    have e2 : part c x y (t / 2 + 1) t = via c x y t (t / 2) := by
      unfold part; rw [if_pos (by omega), if_neg (by omega)]; unfold comb; rw [if_neg (by omega)]
    rw [e1, e2]
    by_cases h0 : 0 ≤ via c x y t (t / 2)
    · left; rw [if_pos ⟨h0, Or.inl (by omega)⟩]
    · right; exact ⟨rfl, by omega, rfl⟩
  · have e1 : part c x y (t / 2 + 2) t = via c x y t (t / 2) := by
      unfold part; rw [if_pos (by omega), if_neg (by omega)]; unfold comb; rw [if_neg (by omega)]
    have e2 : part c x y (t / 2 + 2 + 1) t = comb (via c x y t (t / 2)) (via c x y t (t / 2 + 2)) := by
      unfold part; rw [if_pos (by omega), if_pos (by omega)]
    left
    rw [e1, e2]; rfl
theorem via_neg {c : Int → Int} {x y t s : Int} (h : c s < 0) : via c x y t s = -1 := by unfold via plus; rw [if_pos h]
theorem via_pos {c : Int → Int} {x y t s : Int} (h : 0 ≤ c s) : via c x y t s = c s + bd s (t % 2) x y := by unfold via plus; rw [if_neg (by omega)]
/-- .. a state that is not reached: nothing. -/
theorem part_none (c : Int → Int) (x y : Int) {m t : Int} (h : 0 ≤ t ∧ t ≤ 3) (hc : c m < 0) : part c x y (m + 1) t = part c x y m t := by
  by_cases h1 : t / 2 = m
  · subst h1
    unfold part; rw [if_pos (by omega), if_neg (by omega), if_neg (by omega), if_neg (by omega), via_neg hc]
  · by_cases h2 : t / 2 + 2 = m
    · subst h2
      unfold part; rw [if_pos (by omega), if_pos (by omega), if_pos (by omega), if_neg (by omega), via_neg hc]
    · exact part_other c x y h h1 h2
theorem from_none (c : Int → Int) (x y : Int) {m t : Int} (h : 0 ≤ t ∧ t ≤ 3) (hc : c m < 0) : from_ c x y (m + 1) t = from_ c x y m t := by
  by_cases h1 : t / 2 = m
  · subst h1
    unfold from_
    rw [if_pos (show t / 2 < t / 2 + 1 by omega), if_neg (show ¬ t / 2 + 2 < t / 2 + 1 by omega), if_neg (show ¬ t / 2 < t / 2 by omega), if_neg (show ¬ t / 2 + 2 < t / 2 by omega), via_neg hc]
  · by_cases h2 : t / 2 + 2 = m
    · subst h2
      unfold from_
      rw [if_pos (show t / 2 < t / 2 + 2 + 1 by omega), if_pos (show t / 2 + 2 < t / 2 + 2 + 1 by omega), if_pos (show t / 2 < t / 2 + 2 by omega), if_neg (show ¬ t / 2 + 2 < t / 2 + 2 by omega), via_neg hc]
    · exact from_other c x y h h1 h2
/-- .. one that is reached, by a better way. -/
theorem part_better (c : Int → Int) (x y : Int) {m t b d : Int} (ht : t = nst m b) (hs : Sb m b) (hc : 0 ≤ c m) (hd : c m + bd m b x y = d) (hl : part c x y m t < 0 ∨ d < part c x y m t) :
    part c x y (m + 1) t = d ∧ from_ c x y (m + 1) t = m := by
  obtain ⟨⟨hm0, hm3⟩, hb0, hb1⟩ := hs
  have hb : t % 2 = b := by subst ht; unfold nst; omega
  have h2 : t / 2 = m ∨ t / 2 + 2 = m := by subst ht; unfold nst; omega
  have hv : via c x y t m = d := by rw [via_pos hc, hb]; exact hd
  have hdp := bd_in m b x y
  clear ht
  rcases h2 with rfl | rfl
  · constructor
    · unfold part; rw [if_pos (by omega), if_neg (by omega)]; unfold comb; rw [if_neg (by omega)]; exact hv
    · unfold from_; rw [if_pos (show t / 2 < t / 2 + 1 by omega), if_neg (show ¬ t / 2 + 2 < t / 2 + 1 by omega), if_neg (by omega)]
  · have e1 : part c x y (t / 2 + 2) t = via c x y t (t / 2) := by
      unfold part; rw [if_pos (by omega), if_neg (by omega)]; unfold comb; rw [if_neg (by omega)]
    rw [e1] at hl
    constructor
    · unfold part; rw [if_pos (by omega), if_pos (by omega)]; unfold comb; rw [hv, if_pos ⟨by omega, hl⟩]
    · unfold from_; rw [if_pos (show t / 2 < t / 2 + 2 + 1 by omega), if_pos (show t / 2 + 2 < t / 2 + 2 + 1 by omega), hv, if_pos ⟨by omega, hl⟩]
/-- .. one that is reached, by no better way. -/
theorem part_worse (c : Int → Int) (x y : Int) {m t b d : Int} (ht : t = nst m b) (hs : Sb m b) (hc : 0 ≤ c m) (hd : c m + bd m b x y = d) (hl : ¬ (part c x y m t < 0 ∨ d < part c x y m t)) :
    part c x y (m + 1) t = part c x y m t ∧ from_ c x y (m + 1) t = from_ c x y m t := by
  obtain ⟨⟨hm0, hm3⟩, hb0, hb1⟩ := hs
  have hb : t % 2 = b := by subst ht; unfold nst; omega
  have h2 : t / 2 = m ∨ t / 2 + 2 = m := by subst ht; unfold nst; omega
  have hv : via c x y t m = d := by rw [via_pos hc, hb]; exact hd
  have hdp := bd_in m b x y
  clear ht
  rcases h2 with rfl | rfl
  · exfalso
    apply hl
    left
    unfold part; rw [if_neg (by omega), if_neg (by omega)]; decide
  · have e1 : part c x y (t / 2 + 2) t = via c x y t (t / 2) := by
      unfold part; rw [if_pos (by omega), if_neg (by omega)]; unfold comb; rw [if_neg (by omega)]
    have hl2 := hl
    rw [e1] at hl2
    constructor
    · rw [e1]; unfold part; rw [if_pos (by omega), if_pos (by omega)]; unfold comb; rw [hv, if_neg (fun g => hl2 g.2)]
    · unfold from_; rw [if_pos (show t / 2 < t / 2 + 2 + 1 by omega), if_pos (show t / 2 + 2 < t / 2 + 2 + 1 by omega), hv, if_neg (fun g => hl2 g.2), if_neg (show ¬ t / 2 + 2 < t / 2 + 2 by omega), if_neg (by omega)]
/-- The state ahead: one of two, reached, and the way through it has the cost. -/
theorem from_ok {c : Int → Int} {x y t : Int} (h : 0 ≤ t ∧ t ≤ 3) (hp : 0 ≤ part c x y 4 t) :
    0 ≤ c (from_ c x y 4 t) ∧ (0 ≤ from_ c x y 4 t ∧ from_ c x y 4 t ≤ 3) ∧ nst (from_ c x y 4 t) (t % 2) = t ∧ part c x y 4 t = c (from_ c x y 4 t) + bd (from_ c x y 4 t) (t % 2) x y := by
  rw [part_wide c x y t h] at hp ⊢
  rw [from_wide c x y t h]
  unfold comb at hp ⊢
  by_cases hq : 0 ≤ via c x y t (t / 2 + 2) ∧ (via c x y t (t / 2) < 0 ∨ via c x y t (t / 2 + 2) < via c x y t (t / 2))
  · rw [if_pos hq] at hp ⊢
    rw [if_pos hq]
    have h0 : 0 ≤ c (t / 2 + 2) := by
      rcases Int.lt_or_le (c (t / 2 + 2)) 0 with g | g
      · rw [via_neg g] at hp; omega
      · exact g
    exact ⟨h0, by omega, by unfold nst; omega, via_pos h0⟩
  · rw [if_neg hq] at hp ⊢
    rw [if_neg hq]
    have h0 : 0 ≤ c (t / 2) := by
      rcases Int.lt_or_le (c (t / 2)) 0 with g | g
      · rw [via_neg g] at hp; omega
      · exact g
    exact ⟨h0, by omega, by unfold nst; omega, via_pos h0⟩
/-- No way into t is better. -/
theorem part_least {c : Int → Int} {x y s b : Int} (hs : Sb s b) (h0 : 0 ≤ c s) : 0 ≤ part c x y 4 (nst s b) ∧ part c x y 4 (nst s b) ≤ c s + bd s b x y := by
  obtain ⟨⟨hs0, hs3⟩, hb0, hb1⟩ := hs
  rw [part_wide c x y _ (nst_in s b)]
  have hb : nst s b % 2 = b := by unfold nst; omega
  have h2 : nst s b / 2 = s ∨ nst s b / 2 + 2 = s := by unfold nst; omega
  have hd := bd_in s b x y
  have hv : via c x y (nst s b) s = c s + bd s b x y := by rw [via_pos h0, hb]
  unfold comb
  rcases h2 with h2 | h2
  · rw [h2, hv]; split <;> omega
  · rw [h2, hv]; split <;> omega
end Go.Proofs.Ytdelpepepbkjmaa.vit
