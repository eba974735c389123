/- Access categories as numbers: windows, parameters, the window after a failure, the winner. No program. -/
import Derived.Test.YtkfkfejjhfkobaaDoorSl
namespace Go.Proofs.YtkfkfejjhfkobaaDoor.acm
open Go.RowKit
set_option linter.unusedVariables false

/-- A contention window: a power of two minus one, from 1 to 1023. -/
def win (n : Int) : Bool := decide (1 ≤ n ∧ n ≤ 1023) && (bits .and .i64 n (n + 1) == 0)
/-- Valid parameters. -/
def vp (a b c d : Int) : Bool := decide (1 ≤ a ∧ a ≤ 15) && win b && win c && decide (b ≤ c) && decide (1 ≤ d ∧ d ≤ 1000)
def mn (x y : Int) : Int := if y < x then y else x
/-- The window after a failure, of valid parameters. -/
def nx (b c x : Int) : Int := if b ≤ x ∧ x ≤ c then mn (2 * x + 1) c else b
def nw (a b c d x : Int) : Int := if vp a b c d = true then nx b c x else 0
/-- The window after k failures, of valid parameters. -/
def it (b c : Int) : Nat → Int
  | 0 => b
  | k + 1 => nx b c (it b c k)
def cap (f : Int) : Nat := (if f < 20 then f else 20).toNat
def wa (a b c d f : Int) : Int := if vp a b c d = true then it b c (cap f) else 0
/-- The greatest category among the first k numbers, or -1. -/
def best (l : List Int) : Nat → Int
  | 0 => -1
  | k + 1 => if 0 ≤ l.getD k 0 ∧ l.getD k 0 ≤ 3 then (if best l k < l.getD k 0 then l.getD k 0 else best l k) else best l k
def cop (x : Int) : Int := if x = 1 ∨ x = 2 then 0 else if x = 0 ∨ x = 3 then 1 else if x = 4 ∨ x = 5 then 2 else if x = 6 ∨ x = 7 then 3 else -1

theorem win_in {n : Int} (h : win n = true) : 1 ≤ n ∧ n ≤ 1023 := by
  unfold win at h
  rw [Bool.and_eq_true] at h
  exact of_decide_eq_true h.1
structure Vp (a b c d : Int) : Prop where
  aifs : 1 ≤ a ∧ a ≤ 15
  low : win b = true
  high : win c = true
  le : b ≤ c
  burst : 1 ≤ d ∧ d ≤ 1000
theorem vp_iff {a b c d : Int} : vp a b c d = true ↔ Vp a b c d := by
  unfold vp
  simp only [Bool.and_eq_true, decide_eq_true_eq]
  exact ⟨fun h => ⟨h.1.1.1.1, h.1.1.1.2, h.1.1.2, h.1.2, h.2⟩, fun h => ⟨⟨⟨⟨h.aifs, h.low⟩, h.high⟩, h.le⟩, h.burst⟩⟩
theorem nx_in {b c x : Int} (hb : 1 ≤ b ∧ b ≤ 1023) (hc : 1 ≤ c ∧ c ≤ 1023) (hbc : b ≤ c) : b ≤ nx b c x ∧ nx b c x ≤ c := by
  unfold nx mn
  split
  · split <;> omega
  · omega
theorem it_in {b c : Int} (hb : 1 ≤ b ∧ b ≤ 1023) (hc : 1 ≤ c ∧ c ≤ 1023) (hbc : b ≤ c) (k : Nat) : b ≤ it b c k ∧ it b c k ≤ c := by
  cases k with
  | zero => exact ⟨Int.le_refl _, hbc⟩
  | succ k => exact nx_in hb hc hbc
theorem nw_yes {a b c d x : Int} (h : vp a b c d = true) : nw a b c d x = nx b c x := by unfold nw; rw [if_pos h]
theorem nw_no {a b c d x : Int} (h : vp a b c d = false) : nw a b c d x = 0 := by unfold nw; rw [h]; rfl
theorem wa_yes {a b c d f : Int} (h : vp a b c d = true) : wa a b c d f = it b c (cap f) := by unfold wa; rw [if_pos h]
theorem wa_no {a b c d f : Int} (h : vp a b c d = false) : wa a b c d f = 0 := by unfold wa; rw [h]; rfl
theorem nx_yes {b c x : Int} (h : b ≤ x ∧ x ≤ c) : nx b c x = mn (2 * x + 1) c := by unfold nx; rw [if_pos h]
theorem nx_no {b c x : Int} (h : ¬ (b ≤ x ∧ x ≤ c)) : nx b c x = b := by unfold nx; rw [if_neg h]
theorem best_in (l : List Int) (k : Nat) : -1 ≤ best l k ∧ best l k ≤ 3 := by
  induction k with
  | zero => exact ⟨Int.le_refl _, by unfold best; omega⟩
  | succ k ih => unfold best; split <;> (try split) <;> omega
theorem best_yes {l : List Int} {k : Nat} {x b : Int} (hx : l.getD k 0 = x) (hb : best l k = b) (h : 0 ≤ x ∧ x ≤ 3) : best l (k + 1) = if b < x then x else b := by
  show (if 0 ≤ l.getD k 0 ∧ l.getD k 0 ≤ 3 then _ else _) = _
  rw [hx, hb, if_pos h]
theorem best_no {l : List Int} {k : Nat} {x b : Int} (hx : l.getD k 0 = x) (hb : best l k = b) (h : ¬ (0 ≤ x ∧ x ≤ 3)) : best l (k + 1) = b := by
  show (if 0 ≤ l.getD k 0 ∧ l.getD k 0 ≤ 3 then _ else _) = _
  rw [hx, hb, if_neg h]
theorem cap_lt {f : Int} {k : Nat} : k < cap f ↔ (k : Int) < f ∧ (k : Int) < 20 := by unfold cap; split <;> omega
theorem cap_le (f : Int) : cap f ≤ 20 := by unfold cap; split <;> omega
end Go.Proofs.YtkfkfejjhfkobaaDoor.acm
