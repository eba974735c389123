/- The costs as the specification's table has them: in the tail no bit 1. Condition: none (no program). -/
import Derived.Test.YtgdmfpahaccamaaVitp
namespace Go.Proofs.Ytgdmfpahaccamaa.vit
open Go.RowKit sl bm cvm
set_option linter.unusedVariables false

def scost (zs : List Int) (n : Nat) : Nat → Int → Int
  | 0, s => if s = 0 then 0 else -1
  | k + 1, t => if t % 2 = 1 ∧ n ≤ k then -1 else part (scost zs n k) (zs.getD (2 * k) 0) (zs.getD (2 * k + 1) 0) 4 t
theorem scost_in (zs : List Int) (n : Nat) : ∀ (k : Nat) (t : Int), -1 ≤ scost zs n k t ∧ scost zs n k t ≤ 2 * k
  | 0, t => by unfold scost; split <;> omega
  | k + 1, t => by
    have := part_in (x := zs.getD (2 * k) 0) (y := zs.getD (2 * k + 1) 0) (m := 4) (t := t) (scost_in zs n k)
    unfold scost; split <;> omega
theorem scost_low (zs : List Int) (n : Nat) : ∀ (k : Nat), k ≤ n → scost zs n k = cost zs k
  | 0, _ => by funext t; rfl
  | k + 1, h => by
    funext t
    show (if t % 2 = 1 ∧ n ≤ k then -1 else part (scost zs n k) (zs.getD (2 * k) 0) (zs.getD (2 * k + 1) 0) 4 t) = part (cost zs k) _ _ 4 t
    rw [if_neg (by omega), scost_low zs n k (by omega)]
theorem scost_even (zs : List Int) (n : Nat) {t : Int} (h : t % 2 = 0) : scost zs n (n + 1) t = cost zs (n + 1) t := by
  show (if t % 2 = 1 ∧ n ≤ n then -1 else part (scost zs n n) (zs.getD (2 * n) 0) (zs.getD (2 * n + 1) 0) 4 t) = part (cost zs n) _ _ 4 t
  rw [if_neg (by omega), scost_low zs n n (Nat.le_refl _)]
theorem via_congr {c c' : Int → Int} {x y t s : Int} (h : c s = c' s) : via c x y t s = via c' x y t s := by unfold via; rw [h]
theorem part_congr {c c' : Int → Int} {x y t : Int} (h1 : c (t / 2) = c' (t / 2)) (h2 : c (t / 2 + 2) = c' (t / 2 + 2)) (m : Int) : part c x y m t = part c' x y m t := by
  unfold part; rw [via_congr h1, via_congr h2]
theorem from_congr {c c' : Int → Int} {x y t : Int} (h1 : c (t / 2) = c' (t / 2)) (h2 : c (t / 2 + 2) = c' (t / 2 + 2)) (m : Int) : from_ c x y m t = from_ c' x y m t := by
  unfold from_; rw [via_congr h1, via_congr h2]
theorem scost_end (zs : List Int) (n : Nat) : scost zs n (n + 2) 0 = cost zs (n + 2) 0 := by
  show (if (0 : Int) % 2 = 1 ∧ n ≤ n + 1 then -1 else part (scost zs n (n + 1)) (zs.getD (2 * (n + 1)) 0) (zs.getD (2 * (n + 1) + 1) 0) 4 0) = part (cost zs (n + 1)) _ _ 4 0
  rw [if_neg (by omega)]
  exact part_congr (scost_even zs n (by decide)) (scost_even zs n (by decide)) 4
/-- A node of the best path. -/
def On (zs : List Int) (m j : Nat) (t : Int) : Prop := Live zs j t ∧ j ≤ m ∧ ∃ rest, path zs m 0 = path zs j t ++ rest
theorem On.start {zs : List Int} {n : Nat} (hz : zs.length = 2 * (n + 2)) : On zs (n + 2) (n + 2) 0 := ⟨end_live hz, Nat.le_refl _, [], by simp⟩
theorem On.next {zs : List Int} {m j : Nat} {t : Int} (h : On zs m (j + 1) t) : On zs m j (pre zs j t) ∧ (path zs m 0).getD j 0 = t % 2 := by
  obtain ⟨h1, h2, rest, h3⟩ := h
  refine ⟨⟨h1.pre.1, by omega, t % 2 :: rest, ?_⟩, ?_⟩
  · rw [h3]; simp [path]
  · rw [h3]
    show (path zs j _ ++ [t % 2] ++ rest).getD j 0 = _
    rw [List.append_assoc, List.getD_eq_getElem?_getD, List.getElem?_append_right (by rw [path_len]; exact Nat.le_refl _), path_len, Nat.sub_self]
    rfl
theorem On.zero {zs : List Int} {m : Nat} {t : Int} (h : On zs m 0 t) : t = 0 := h.1.zero
theorem On.top {zs : List Int} {n : Nat} {t : Int} (hz : zs.length = 2 * (n + 2)) (h : On zs (n + 2) (n + 2) t) : t = 0 := by
  obtain ⟨h1, h2, rest, h3⟩ := h
  have hl := congrArg List.length h3
  rw [List.length_append, path_len, path_len] at hl
  have : rest = [] := List.eq_nil_of_length_eq_zero (by omega)
  subst this
  rw [List.append_nil] at h3
  have e1 := (path_ok zs (n + 2) 0 (by omega) (end_live hz)).2.1
  have e2 := (path_ok zs (n + 2) t (by omega) h1).2.1
  rw [h3, e2] at e1
  exact e1
theorem On.even {zs : List Int} {n j : Nat} {t : Int} (hz : zs.length = 2 * (n + 2)) (h : On zs (n + 2) (j + 1) t) (hj : n ≤ j) : t % 2 = 0 := by
  have h1 := h.next.2
  have h2 := h.2.1
  rw [path_tail hz, tail_zero _ (by rw [dec_len]; omega)] at h1
  exact h1.symm
theorem dec_at (zs : List Int) {n i : Nat} (h : i < n) : (dec zs n).getD i 0 = (path zs (n + 2) 0).getD i 0 := by
  unfold dec
  rw [List.getD_eq_getElem?_getD, List.getElem?_take, if_pos h, List.getD_eq_getElem?_getD]
/-- What the specification's backtracking meets on the best path. -/
theorem On.spec {zs : List Int} {n i : Nat} {t : Int} (hz : zs.length = 2 * (n + 2)) (h : On zs (n + 2) (i + 1) t) :
    part (scost zs n i) (zs.getD (2 * i) 0) (zs.getD (2 * i + 1) 0) 4 t = scost zs n (i + 1) t ∧ 0 ≤ scost zs n (i + 1) t ∧ from_ (scost zs n i) (zs.getD (2 * i) 0) (zs.getD (2 * i + 1) 0) 4 t = pre zs i t ∧ (i < n ∨ t % 2 = 0) := by
  have hi := h.2.1
  have hc := h.1.2
  have h4 : i < n ∨ t % 2 = 0 := by
    rcases Nat.lt_or_ge i n with g | g
    · exact Or.inl g
    · exact Or.inr (h.even hz g)
  have h1 : scost zs n (i + 1) t = part (scost zs n i) (zs.getD (2 * i) 0) (zs.getD (2 * i + 1) 0) 4 t := by
    show (if t % 2 = 1 ∧ n ≤ i then -1 else _) = _
    rw [if_neg (by omega)]
  have hin : scost zs n i (t / 2) = cost zs i (t / 2) ∧ scost zs n i (t / 2 + 2) = cost zs i (t / 2 + 2) := by
    rcases Nat.lt_or_ge n i with g | g
    · obtain rfl : i = n + 1 := by omega
      obtain rfl := h.top hz
      exact ⟨scost_even zs n (by decide), scost_even zs n (by decide)⟩
    · rw [scost_low zs n i g]; exact ⟨rfl, rfl⟩
  have h2 : scost zs n (i + 1) t = cost zs (i + 1) t := by
    rw [h1, part_congr hin.1 hin.2]; rfl
  exact ⟨h1.symm, by rw [h2]; exact hc, from_congr hin.1 hin.2 4, h4⟩
/-- A row being filled. -/
def nx (zs : List Int) (n k : Nat) (s b t : Int) : Int :=
  if t % 2 = 1 ∧ n ≤ k then -1 else if t % 2 < b then part (scost zs n k) (zs.getD (2 * k) 0) (zs.getD (2 * k + 1) 0) (s + 1) t else part (scost zs n k) (zs.getD (2 * k) 0) (zs.getD (2 * k + 1) 0) s t
theorem nx_start (zs : List Int) (n k : Nat) {t : Int} (h : 0 ≤ t ∧ t ≤ 3) : nx zs n k 0 0 t = -1 := by
  unfold nx; rw [if_neg (show ¬ t % 2 < 0 by omega), part_zero _ _ _ _ h.1, ite_self]
theorem nx_next (zs : List Int) (n k : Nat) (s t : Int) : nx zs n k s 2 t = nx zs n k (s + 1) 0 t := by
  unfold nx; rw [if_pos (show t % 2 < 2 by omega), if_neg (show ¬ t % 2 < 0 by omega)]
theorem nx_end (zs : List Int) (n k : Nat) (t : Int) : nx zs n k 4 0 t = scost zs n (k + 1) t := by
  unfold nx; rw [if_neg (show ¬ t % 2 < 0 by omega)]; rfl
theorem nx_none (zs : List Int) (n k : Nat) {s b t : Int} (ht : 0 ≤ t ∧ t ≤ 3) (hc : scost zs n k s < 0) : nx zs n k s b t = nx zs n k s (b + 1) t := by
  unfold nx; rw [part_none _ _ _ ht hc]; split
  · rfl
  · rw [ite_self, ite_self]
theorem nx_tail (zs : List Int) (n k : Nat) {s t : Int} (hk : n ≤ k) : nx zs n k s 1 t = nx zs n k s 2 t := by
  unfold nx
  by_cases h : t % 2 = 1
  · rw [if_pos ⟨h, hk⟩, if_pos ⟨h, hk⟩]
  · have h0 : ¬ (t % 2 = 1 ∧ n ≤ k) := fun g => h g.1
    have h1 : t % 2 < 1 := by omega
    have h2 : t % 2 < 2 := by omega
    simp only [if_neg h0, if_pos h1, if_pos h2]
theorem nx_at (zs : List Int) (n k : Nat) {s b t : Int} (hs : Sb s b) (ht : t = nst s b) (hf : b = 0 ∨ k < n) : nx zs n k s b t = part (scost zs n k) (zs.getD (2 * k) 0) (zs.getD (2 * k + 1) 0) s t ∧ nx zs n k s (b + 1) t = part (scost zs n k) (zs.getD (2 * k) 0) (zs.getD (2 * k + 1) 0) (s + 1) t := by
  obtain ⟨⟨h0, h3⟩, hb0, hb1⟩ := hs
  have : t % 2 = b := by subst ht; unfold nst; omega
  unfold nx
  rw [if_neg (by omega), if_neg (by omega), if_neg (by omega), if_pos (by omega)]
  exact ⟨rfl, rfl⟩
theorem nx_other (zs : List Int) (n k : Nat) {s b t : Int} (hs : Sb s b) (h : 0 ≤ t ∧ t ≤ 3) (ht : ¬ t = nst s b) : nx zs n k s b t = nx zs n k s (b + 1) t := by
  obtain ⟨⟨h0, h3⟩, hb0, hb1⟩ := hs
  unfold nst at ht
  unfold nx
  by_cases hb : t % 2 = b
  · rw [part_other (m := s) (t := t) _ _ _ h (by omega) (by omega), ite_self, ite_self]
  · simp only [show (t % 2 < b) = (t % 2 < b + 1) from propext (by omega)]
theorem nx_better (zs : List Int) (n k : Nat) {s b d : Int} (hs : Sb s b) (hf : b = 0 ∨ k < n) (hc : 0 ≤ scost zs n k s) (hd : scost zs n k s + bd s b (zs.getD (2 * k) 0) (zs.getD (2 * k + 1) 0) = d)
    (hl : nx zs n k s b (nst s b) < 0 ∨ d < nx zs n k s b (nst s b)) {t : Int} (ht : 0 ≤ t ∧ t ≤ 3) : (if t = nst s b then d else nx zs n k s b t) = nx zs n k s (b + 1) t := by
  by_cases e : t = nst s b
  · rw [if_pos e, (nx_at zs n k hs e hf).2, (part_better _ _ _ e hs hc hd (by rw [← (nx_at zs n k hs e hf).1, e]; exact hl)).1]
  · rw [if_neg e]; exact nx_other zs n k hs ht e
theorem nx_worse (zs : List Int) (n k : Nat) {s b d : Int} (hs : Sb s b) (hf : b = 0 ∨ k < n) (hc : 0 ≤ scost zs n k s) (hd : scost zs n k s + bd s b (zs.getD (2 * k) 0) (zs.getD (2 * k + 1) 0) = d)
    (hl : ¬ (nx zs n k s b (nst s b) < 0 ∨ d < nx zs n k s b (nst s b))) {t : Int} (ht : 0 ≤ t ∧ t ≤ 3) : nx zs n k s b t = nx zs n k s (b + 1) t := by
  by_cases e : t = nst s b
  · rw [(nx_at zs n k hs e hf).2, (nx_at zs n k hs e hf).1, (part_worse _ _ _ e hs hc hd (by rw [← (nx_at zs n k hs e hf).1, e]; exact hl)).1]
  · exact nx_other zs n k hs ht e
theorem nx_in (zs : List Int) (n k : Nat) (s b t : Int) : -1 ≤ nx zs n k s b t ∧ nx zs n k s b t ≤ 2 * k + 2 := by
  have h1 := part_in (x := zs.getD (2 * k) 0) (y := zs.getD (2 * k + 1) 0) (m := s) (t := t) (scost_in zs n k)
  have h2 := part_in (x := zs.getD (2 * k) 0) (y := zs.getD (2 * k + 1) 0) (m := s + 1) (t := t) (scost_in zs n k)
  unfold nx; split <;> (try split) <;> omega
/-- Ahead of the chosen state no other one fits. -/
theorem from_first {f : Int → Int} {x y t C s : Int} (h : 0 ≤ t ∧ t ≤ 3) (hC : part f x y 4 t = C) (h0 : 0 ≤ C) (hs0 : 0 ≤ s) (hs : s < from_ f x y 4 t) (hn : nst s (t % 2) = t) : f s < 0 ∨ ¬ f s + bd s (t % 2) x y = C := by
  rw [part_wide f x y t h] at hC
  rw [from_wide f x y t h] at hs
  unfold comb at hC
  have hs2 : s = t / 2 ∨ s = t / 2 + 2 := by unfold nst at hn; split at hs <;> omega
  by_cases hq : 0 ≤ via f x y t (t / 2 + 2) ∧ (via f x y t (t / 2) < 0 ∨ via f x y t (t / 2 + 2) < via f x y t (t / 2))
  · rw [if_pos hq] at hC hs
    obtain rfl : s = t / 2 := by omega
    by_cases hf : f (t / 2) < 0
    · exact Or.inl hf
    · right
      rw [← via_pos (c := f) (x := x) (y := y) (t := t) (s := t / 2) (by omega)]
      rcases hq.2 with g | g <;> omega
  · rw [if_neg hq] at hs
    omega
end Go.Proofs.Ytgdmfpahaccamaa.vit
