/- Plain facts on decimal numerals as lists of bytes: how a numeral grows by a digit, and which lists of bytes are the numeral of a number from 0 to 1000000000000. No condition: nothing here speaks of a program. -/
import Derived.Lib.ItoaNum
import Derived.Lib.ItoaLen
import Derived.Lib.AtoiTie
import Derived.Lib.AtoiAllCases
namespace Go.Proofs.YtnnlkkohbjolaaaDoor.nums
open Go.Lib

def digs (u : Nat) : List UInt8 := if u = 0 then [] else decDigits u
theorem digs_zero : digs 0 = [] := rfl
theorem decDigits_small {u : Nat} (h : u < 10) : decDigits u = [UInt8.ofNat (48 + u)] := by rw [decDigits, dif_pos h]
theorem decDigits_big {u : Nat} (h : ¬ u < 10) : decDigits u = decDigits (u / 10) ++ [UInt8.ofNat (48 + u % 10)] := by rw [decDigits, dif_neg h]
theorem digs_step (u : Nat) (h : u ≠ 0) : digs u = digs (u / 10) ++ [UInt8.ofNat (48 + u % 10)] := by
  unfold digs
  rw [if_neg h]
  by_cases hs : u < 10
  · rw [if_pos (by omega), decDigits_small hs, Nat.mod_eq_of_lt hs]; rfl
  · rw [if_neg (by omega), decDigits_big hs]
theorem decDigits_length (u : Nat) : (decDigits u).length = nDigits u := by rw [decDigits_eq]; simp
theorem digs_length (u : Nat) (h : u < 18446744073709551616) : (digs u).length ≤ 20 := by
  unfold digs
  split
  · simp
  · rw [decDigits_length]; exact nDigits_le20 u h
theorem itoa_zero : itoa 0 = [48] := by
  unfold itoa
  rw [if_neg (by omega), show (0 : Int).toNat = 0 from rfl, decDigits_small (by omega)]; rfl
theorem itoa_pos {n : Int} (h : 0 < n) : itoa n = digs n.natAbs := by
  unfold itoa digs
  rw [if_neg (by omega), if_neg (by omega), show n.toNat = n.natAbs by omega]
theorem itoa_neg {n : Int} (h : n < 0) : itoa n = 45 :: digs n.natAbs := by
  unfold itoa digs
  rw [if_pos h, if_neg (by omega)]

theorem digit_ofNat {d : Nat} (h : d < 10) : digitVal (UInt8.ofNat (48 + d)) = some d := by
  have e : (UInt8.ofNat (48 + d)).toNat = 48 + d := by simp; omega
  unfold digitVal
  rw [e, if_pos (by omega)]
  congr 1; omega
theorem decFrom_append : ∀ (a b : List UInt8) (acc : Nat), decFrom acc (a ++ b) = (decFrom acc a).bind fun m => decFrom m b
  | [], b, acc => by simp [decFrom]
  | c :: a, b, acc => by
    simp only [List.cons_append, decFrom]
    cases digitVal c with
    | none => rfl
    | some d => simp only; exact decFrom_append a b _
theorem decFrom_one (acc : Nat) {c : UInt8} {d : Nat} (h : digitVal c = some d) : decFrom acc [c] = some (acc * 10 + d) := by
  simp only [decFrom, h]
theorem decFrom_decDigits (u : Nat) : decFrom 0 (decDigits u) = some u := by
  induction u using Nat.strongRecOn with
  | _ u ih =>
    by_cases h : u < 10
    · rw [decDigits_small h, decFrom_one _ (digit_ofNat h)]; simp
    · rw [decDigits_big h, decFrom_append, ih (u / 10) (by omega), Option.bind_some, decFrom_one _ (digit_ofNat (Nat.mod_lt u (show 0 < 10 by omega)))]
      congr 1; omega
theorem decDigits_ne (u : Nat) : decDigits u ≠ [] := by
  intro h
  have h1 := congrArg List.length h
  have h2 := nDigits_pos u
  rw [decDigits_length] at h1
  simp at h1; omega
theorem decNat_decDigits (u : Nat) : decNat (decDigits u) = some u := by
  unfold decNat
  have h := decDigits_ne u
  rw [if_neg (by simpa using h), decFrom_decDigits]

/-- The number from 0 to 1000000000000 whose numeral l is. -/
def num (l : List UInt8) : Option Int :=
  match decNat l with
  | some u => if u ≤ 1000000000000 ∧ decDigits u = l then some (u : Int) else none
  | none => none
theorem num_itoa {v : Int} (h0 : 0 ≤ v) (h1 : v ≤ 1000000000000) : num (itoa v) = some v := by
  have e : itoa v = decDigits v.toNat := by unfold itoa; rw [if_neg (by omega)]
  unfold num
  rw [e, decNat_decDigits]
  simp only
  rw [if_pos (by simp; omega)]
  congr 1; omega
theorem itoa_num {l : List UInt8} {v : Int} (h : num l = some v) : 0 ≤ v ∧ v ≤ 1000000000000 ∧ itoa v = l := by
  unfold num at h
  cases hd : decNat l with
  | none => rw [hd] at h; cases h
  | some u =>
    rw [hd] at h
    simp only at h
    split at h
    · rename_i hc
      injection h with h
      subst h
      refine ⟨by omega, by omega, ?_⟩
      unfold itoa
      rw [if_neg (by omega)]
      exact hc.2
    · cases h
theorem nDigits_le13 {u : Nat} (h : u ≤ 1000000000000) : nDigits u ≤ 13 := by
  rcases Nat.lt_or_ge (nDigits u) 14 with h1 | h1
  · omega
  · exfalso
    have h2 : nDigits u = 13 + (nDigits u - 13) := by omega
    have hp : ∀ k w, nDigits w = k + 1 → 10 ^ k ≤ w ∨ (k = 0) := by
      intro k
      induction k with
      | zero => intro w _; exact Or.inr rfl
      | succ k ih =>
        intro w hw
        by_cases hs : w < 10
        · rw [nDigits_small hs] at hw; omega
        · rw [nDigits_big hs] at hw
          rcases ih (w / 10) (by omega) with h3 | h3
          · left; rw [Nat.pow_succ]; omega
          · left; subst h3; simp; omega
    rcases hp (nDigits u - 1) u (by omega) with h3 | h3
    · have h4 : 10 ^ 13 ≤ 10 ^ (nDigits u - 1) := Nat.pow_le_pow_right (by omega) (by omega)
      have h5 : (10 : Nat) ^ 13 = 10000000000000 := by decide
      omega
    · omega
theorem num_length {l : List UInt8} {v : Int} (h : num l = some v) : 1 ≤ l.length ∧ l.length ≤ 13 := by
  obtain ⟨h0, h1, rfl⟩ := itoa_num h
  have e : itoa v = decDigits v.toNat := by unfold itoa; rw [if_neg (by omega)]
  rw [e, decDigits_length]
  exact ⟨nDigits_pos _, nDigits_le13 (by omega)⟩

/-- strconv.Atoi at a numeral. -/
theorem atoiAll_num {l : List UInt8} {v : Int} (h : num l = some v) : atoiAll l = .ok v := by
  have hl := num_length h
  obtain ⟨h0, h1, rfl⟩ := itoa_num h
  have e : itoa v = decDigits v.toNat := by unfold itoa; rw [if_neg (by omega)]
  rw [e] at hl ⊢
  have hd := decFrom_decDigits v.toNat
  match hl0 : decDigits v.toNat, hl, hd with
  | c :: r, hl, hd =>
    have hc : 48 ≤ c.toNat ∧ c.toNat ≤ 57 := by
      simp only [decFrom] at hd
      cases hv : digitVal c with
      | none => rw [hv] at hd; cases hd
      | some d => exact ⟨(digitVal_eq hv).1, (digitVal_eq hv).2.1⟩
    rw [atoiAll_plain c r (by omega) (by omega), signless_short (by simpa using (by omega : (c :: r).length ≤ 18))]
    have : decNat (c :: r) = some v.toNat := by rw [← hl0]; exact decNat_decDigits _
    rw [this]
    simp [NumEnd.ofOption]
    omega
  | [], hl, hd => simp at hl
theorem num_of_atoi {l : List UInt8} {v : Int} (h : atoiAll l = .ok v) : num l = if 0 ≤ v ∧ v ≤ 1000000000000 ∧ itoa v = l then some v else none := by
  split
  · rename_i hc
    rw [← hc.2.2]; exact num_itoa hc.1 hc.2.1
  · rename_i hc
    cases hn : num l with
    | none => rfl
    | some u =>
      exfalso
      have h1 := atoiAll_num hn
      rw [h] at h1
      injection h1 with h1
      subst h1
      exact hc (itoa_num hn)
theorem num_none_of_fault {l : List UInt8} (h : ∀ v, atoiAll l ≠ .ok v) : num l = none := by
  cases hn : num l with
  | none => rfl
  | some u => exact absurd (atoiAll_num hn) (h u)
end Go.Proofs.YtnnlkkohbjolaaaDoor.nums
