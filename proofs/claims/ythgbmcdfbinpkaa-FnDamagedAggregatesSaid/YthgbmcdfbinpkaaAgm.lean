/- Aggregates as lists of bytes, no program: delimiters, sizes, subframes, how an aggregate is split. Condition: none. -/
import Derived.Test.YthgbmcdfbinpkaaCrcm
namespace Go.Proofs.Ythgbmcdfbinpkaa.ag
open crcm
set_option linter.unusedVariables false

/-- The delimiter of a length. -/
def dlm (n : Int) : List Int := if 0 ≤ n ∧ n ≤ 200 then [n, 0, ((crc [n, 0] : Nat) : Int) % 256, 78] else []
theorem dlm_yes {n : Int} (h : 0 ≤ n ∧ n ≤ 200) : dlm n = [n, 0, ((crc [n, 0] : Nat) : Int) % 256, 78] := if_pos h
theorem dlm_no {n : Int} (h : ¬ (0 ≤ n ∧ n ≤ 200)) : dlm n = [] := if_neg h
theorem dlm_len (n : Int) : (dlm n).length ≤ 4 := by unfold dlm; split <;> simp
/-- The size of a subframe. -/
def sub (n : Int) : Int := if 0 ≤ n ∧ n ≤ 200 then 4 + 4 * ((n + 3) / 4) else 0
theorem sub_yes {n : Int} (h : 0 ≤ n ∧ n ≤ 200) : sub n = 4 + 4 * ((n + 3) / 4) := if_pos h
theorem sub_no {n : Int} (h : ¬ (0 ≤ n ∧ n ≤ 200)) : sub n = 0 := if_neg h
theorem sub_rng (n : Int) : 0 ≤ sub n ∧ sub n ≤ 204 := by
  by_cases h : 0 ≤ n ∧ n ≤ 200
  · rw [sub_yes h]; omega
  · rw [sub_no h]; omega
theorem sub_in {n : Int} (h : 0 ≤ n ∧ n ≤ 200) : n + 4 ≤ sub n ∧ sub n ≤ n + 7 ∧ sub n % 4 = 0 := by rw [sub_yes h]; omega
/-- The sizes of several subframes. -/
def sumS : List Int → Int
  | [] => 0
  | n :: r => sub n + sumS r
theorem sumS_snoc (l : List Int) (n : Int) : sumS (l ++ [n]) = sumS l + sub n := by
  induction l with
  | nil => simp [sumS]
  | cons a r ih => rw [List.cons_append, sumS, sumS, ih]; omega
theorem sumS_rng (l : List Int) : 0 ≤ sumS l ∧ sumS l ≤ 204 * l.length := by
  induction l with
  | nil => simp [sumS]
  | cons a r ih => have := sub_rng a; rw [sumS, List.length_cons]; omega
theorem sumS_take {l : List Int} {k : Nat} (h : k < l.length) : sumS (l.take (k + 1)) = sumS (l.take k) + sub (l.getD k 0) := by
  rw [List.take_add_one, List.getElem?_eq_getElem h, List.getD_eq_getElem?_getD, List.getElem?_eq_getElem h]
  exact sumS_snoc _ _
/-- Whether one more frame fits. -/
def fits (l : List Int) (x lim : Int) : Bool := decide ((0 ≤ x ∧ x ≤ 200) ∧ l.length < 8 ∧ sumS l + sub x ≤ lim)

/-- The length that two bytes state. -/
def at2 (l : List Int) (o : Nat) : Int := l.getD o 0 + l.getD (o + 1) 0 * 256
/-- The length in the delimiter at a place, if there is one. -/
def pd (l : List Int) (o : Int) : Int × Bool :=
  if (0 ≤ o ∧ o ≤ (l.length : Int) - 4) ∧ dlm (at2 l o.toNat) = (l.drop o.toNat).take 4 then (at2 l o.toNat, true) else (0, false)
theorem pd_out {l : List Int} {o : Int} (h : ¬ (0 ≤ o ∧ o ≤ (l.length : Int) - 4)) : pd l o = (0, false) := if_neg fun h2 => h h2.1
theorem pd_no {l : List Int} {o : Nat} (h : dlm (at2 l o) ≠ (l.drop o).take 4) : pd l o = (0, false) := if_neg fun h2 => h (by simpa using h2.2)
theorem pd_yes {l : List Int} {o : Nat} (h : (o : Int) ≤ (l.length : Int) - 4) (h2 : dlm (at2 l o) = (l.drop o).take 4) : pd l o = (at2 l o, true) := by
  unfold pd
  rw [if_pos ⟨⟨by omega, h⟩, by simpa using h2⟩]
  simp
theorem at2_drop (l : List Int) (o : Nat) : at2 (l.drop o) 0 = at2 l o := by
  unfold at2
  rw [List.getD_eq_getElem?_getD, List.getD_eq_getElem?_getD, List.getElem?_drop, List.getElem?_drop, List.getD_eq_getElem?_getD, List.getD_eq_getElem?_getD]
  rfl
theorem pd_drop (l : List Int) (o : Nat) : pd (l.drop o) 0 = pd l o := by
  unfold pd
  rw [Int.toNat_zero, Int.toNat_natCast, at2_drop, List.drop_zero, List.length_drop]
  by_cases h : (o : Int) ≤ (l.length : Int) - 4
  · simp only [show (0 : Int) ≤ 0 ∧ (0 : Int) ≤ ((l.length - o : Nat) : Int) - 4 from ⟨by omega, by omega⟩, show (0 : Int) ≤ o ∧ (o : Int) ≤ (l.length : Int) - 4 from ⟨by omega, h⟩]
  · rw [if_neg (by omega), if_neg (by omega)]
/-- What a delimiter says lies in the range. -/
theorem pd_rng {l : List Int} {o n : Int} (h : pd l o = (n, true)) : 0 ≤ n ∧ n ≤ 200 ∧ 0 ≤ o ∧ o ≤ (l.length : Int) - 4 := by
  unfold pd at h
  split at h
  · rename_i hc
    injection h with h1 _
    rw [h1] at hc
    by_cases hr : 0 ≤ n ∧ n ≤ 200
    · exact ⟨hr.1, hr.2, hc.1.1, hc.1.2⟩
    · exfalso
      have := congrArg List.length hc.2
      rw [dlm_no hr, List.length_take, List.length_drop] at this
      simp at this
      omega
  · cases h
/-- The frame at a place: its delimiter is there and all of it is there. -/
def fa (l : List Int) (o : Nat) : Option (List Int) :=
  if (pd l o).2 = true ∧ (pd l o).1 ≤ (l.length : Int) - o - 4 then some ((l.drop (o + 4)).take (pd l o).1.toNat) else none
theorem fa_no {l : List Int} {o : Nat} (h : (pd l o).2 = false) : fa l o = none := if_neg fun h2 => by rw [h] at h2; cases h2.1
theorem fa_long {l : List Int} {o : Nat} (h : ¬ (pd l o).1 ≤ (l.length : Int) - o - 4) : fa l o = none := if_neg fun h2 => h h2.2
theorem fa_yes {l : List Int} {o n : Nat} (h : pd l o = ((n : Int), true)) (h2 : (n : Int) ≤ (l.length : Int) - o - 4) : fa l o = some ((l.drop (o + 4)).take n) := by
  unfold fa
  rw [h]
  rw [if_pos ⟨rfl, h2⟩, Int.toNat_natCast]
theorem fa_len {l : List Int} {o n : Nat} (h : pd l o = ((n : Int), true)) (h2 : (n : Int) ≤ (l.length : Int) - o - 4) : ((l.drop (o + 4)).take n).length = n := by
  have := pd_rng h
  rw [List.length_take, List.length_drop]; omega
theorem fa_drop (l : List Int) (o : Nat) : fa (l.drop o) 0 = fa l o := by
  by_cases ho : o ≤ l.length
  · unfold fa
    rw [show ((0 : Nat) : Int) = 0 from rfl, pd_drop, List.length_drop, List.drop_drop, show o + (0 + 4) = o + 4 by omega]
    congr 1
    apply propext
    constructor <;> intro h <;> exact ⟨h.1, by omega⟩
  · have e : pd l (o : Int) = (0, false) := pd_out (by omega)
    have e2 : pd (l.drop o) ((0 : Nat) : Int) = (0, false) := (pd_drop l o).trans e
    rw [fa_no (l := l) (o := o) (by rw [e]), fa_no (o := 0) (by rw [e2])]
theorem fa_bd {l f : List Int} {o : Nat} (h : fa l o = some f) : f.length ≤ 200 ∧ f.length + 4 ≤ l.length := by
  unfold fa at h
  split at h
  · rename_i hc
    obtain ⟨n, b⟩ : ∃ n, (pd l o).1 = n := ⟨_, rfl⟩
    have hp : pd l o = (n, true) := Prod.ext b hc.1
    have := pd_rng hp
    obtain rfl := Option.some.inj h
    rw [b, List.length_take, List.length_drop]; omega
  · cases h
/-- How at most m frames are found, k steps at most. -/
def spl : Nat → Nat → List Int → List (List Int)
  | 0, _, _ => []
  | k + 1, m, r => if r = [] ∨ m = 0 then [] else match fa r 0 with
    | some f => f :: spl k (m - 1) (r.drop (sub f.length).toNat)
    | none => spl k m (r.drop 4)
theorem sub_nat {n : Nat} (h : n ≤ 200) : n + 4 ≤ (sub n).toNat := by have := sub_in (n := (n : Int)) (by omega); omega
theorem spl_fuel : ∀ (k m : Nat) (r : List Int), r.length ≤ k → ∀ j, r.length ≤ j → spl k m r = spl j m r
  | 0, m, r, h, j, _ => by
    obtain rfl : r = [] := List.length_eq_zero_iff.1 (by omega)
    cases j with
    | zero => rfl
    | succ j => rw [spl, spl, if_pos (.inl rfl)]
  | k + 1, m, r, h, 0, hj => by
    obtain rfl : r = [] := List.length_eq_zero_iff.1 (by omega)
    have e : spl (k + 1) m [] = [] := by unfold spl; rw [if_pos (.inl rfl)]
    rw [e]; rfl
  | k + 1, m, r, h, j + 1, hj => by
    rw [spl, spl]
    by_cases hc : r = [] ∨ m = 0
    · rw [if_pos hc, if_pos hc]
    · rw [if_neg hc, if_neg hc]
      cases hf : fa r 0 with
      | none => exact spl_fuel k m _ (by rw [List.length_drop]; omega) j (by rw [List.length_drop]; omega)
      | some f =>
        have h1 := sub_nat (fa_bd hf).1
        have e := spl_fuel k (m - 1) (r.drop (sub f.length).toNat) (by rw [List.length_drop]; omega) j (by rw [List.length_drop]; omega)
        show f :: _ = f :: _
        rw [e]
/-- How an aggregate is split. -/
def split (m : Nat) (r : List Int) : List (List Int) := spl r.length m r
theorem split_end {m : Nat} {r : List Int} (h : r = [] ∨ m = 0) : split m r = [] := by
  unfold split
  cases hl : r.length with
  | zero => rfl
  | succ k => rw [spl, if_pos h]
theorem split_none {m : Nat} {r : List Int} (h : r ≠ []) (hm : m ≠ 0) (hf : fa r 0 = none) : split m r = split m (r.drop 4) := by
  unfold split
  cases hl : r.length with
  | zero => exact absurd (List.length_eq_zero_iff.1 hl) h
  | succ k =>
    rw [spl, if_neg (fun hc => hc.elim h hm), hf]
    exact spl_fuel _ _ _ (by rw [List.length_drop]; omega) _ (Nat.le_refl _)
theorem split_some {m : Nat} {r f : List Int} (h : r ≠ []) (hm : m ≠ 0) (hf : fa r 0 = some f) : split m r = f :: split (m - 1) (r.drop (sub f.length).toNat) := by
  unfold split
  cases hl : r.length with
  | zero => exact absurd (List.length_eq_zero_iff.1 hl) h
  | succ k =>
    rw [spl, if_neg (fun hc => hc.elim h hm), hf]
    have h1 := sub_nat (fa_bd hf).1
    show f :: _ = f :: _
    rw [spl_fuel k _ _ (by rw [List.length_drop]; omega) _ (Nat.le_refl _)]
/-- The same, at a place of the aggregate. -/
theorem at_end {l : List Int} {o m : Nat} (h : l.length ≤ o ∨ m = 0) : split m (l.drop o) = [] := split_end (h.imp List.drop_eq_nil_of_le id)
theorem drop_ne {l : List Int} {o : Nat} (h : o < l.length) : l.drop o ≠ [] := fun e => by
  have := congrArg List.length e
  rw [List.length_drop] at this
  simp at this; omega
theorem at_none {l : List Int} {o m : Nat} (h : o < l.length) (hm : m ≠ 0) (hf : fa l o = none) : split m (l.drop o) = split m (l.drop (o + 4)) := by
  rw [split_none (drop_ne h) hm (by rw [fa_drop]; exact hf), List.drop_drop]
theorem at_some {l f : List Int} {o m : Nat} (h : o < l.length) (hm : m ≠ 0) (hf : fa l o = some f) : split m (l.drop o) = f :: split (m - 1) (l.drop (o + (sub f.length).toNat)) := by
  rw [split_some (drop_ne h) hm (by rw [fa_drop]; exact hf), List.drop_drop]
theorem spl_bd : ∀ (k m : Nat) (r : List Int), (spl k m r).length ≤ m ∧ ∀ f ∈ spl k m r, f.length ≤ 200
  | 0, m, r => ⟨Nat.zero_le _, fun _ h => by cases h⟩
  | k + 1, m, r => by
    rw [spl]
    by_cases hc : r = [] ∨ m = 0
    · rw [if_pos hc]; exact ⟨Nat.zero_le _, fun _ h => by cases h⟩
    · rw [if_neg hc]
      cases hf : fa r 0 with
      | none => exact spl_bd k m _
      | some f =>
        have h1 := spl_bd k (m - 1) (r.drop (sub f.length).toNat)
        refine ⟨?_, fun g hg => ?_⟩
        · show (f :: _).length ≤ m
          rw [List.length_cons]
          have : m ≠ 0 := fun h => hc (.inr h)
          omega
        · rcases List.mem_cons.1 hg with rfl | hg
          · exact (fa_bd hf).1
          · exact h1.2 g hg
theorem split_bd (m : Nat) (r : List Int) : (split m r).length ≤ m ∧ ∀ f ∈ split m r, f.length ≤ 200 := spl_bd _ _ _

/-- A subframe. -/
def sfr (f : List Int) : List Int := dlm f.length ++ f ++ List.replicate ((sub f.length).toNat - 4 - f.length) 0
theorem sfr_len {f : List Int} (h : f.length ≤ 200) : (sfr f).length = (sub f.length).toNat := by
  have h1 := sub_nat h
  unfold sfr
  rw [dlm_yes (by omega), List.length_append, List.length_append, List.length_replicate]
  simp only [List.length_cons, List.length_nil]
  omega
/-- An aggregate. -/
def agg (l : List (List Int)) : List Int := if l.length ≤ 8 ∧ ∀ f ∈ l, f.length ≤ 200 then l.flatMap sfr else []
theorem agg_yes {l : List (List Int)} (h : l.length ≤ 8) (h2 : ∀ f ∈ l, f.length ≤ 200) : agg l = l.flatMap sfr := if_pos ⟨h, h2⟩
theorem agg_no {l : List (List Int)} (h : ¬ (l.length ≤ 8 ∧ ∀ f ∈ l, f.length ≤ 200)) : agg l = [] := if_neg h
theorem flat_snoc (l : List (List Int)) (f : List Int) : (l ++ [f]).flatMap sfr = l.flatMap sfr ++ sfr f := by rw [List.flatMap_append]; simp
theorem flat_len {l : List (List Int)} (h : ∀ f ∈ l, f.length ≤ 200) : ((l.flatMap sfr).length : Int) = sumS (l.map fun f => (f.length : Int)) := by
  induction l with
  | nil => rfl
  | cons f r ih =>
    have h1 : (f :: r).flatMap sfr = sfr f ++ r.flatMap sfr := rfl
    have h2 := sfr_len (h f List.mem_cons_self)
    have h3 := sub_rng f.length
    have h4 := ih fun g hg => h g (List.mem_cons_of_mem _ hg)
    rw [h1, List.length_append, List.map_cons, sumS, h2]
    omega
theorem flat_le {l : List (List Int)} (h : ∀ f ∈ l, f.length ≤ 200) : (l.flatMap sfr).length ≤ 204 * l.length := by
  have h1 := flat_len h
  have h2 := sumS_rng (l.map fun f => (f.length : Int))
  rw [List.length_map] at h2
  omega
theorem agg_le (l : List (List Int)) : (agg l).length ≤ 1632 := by
  unfold agg
  split
  · rename_i h
    have := flat_le h.2
    omega
  · simp
theorem fa_sfr {f r : List Int} (h : f.length ≤ 200) : fa (sfr f ++ r) 0 = some f := by
  have e : sfr f ++ r = (f.length : Int) :: 0 :: (((crc [(f.length : Int), 0] : Nat) : Int) % 256) :: 78 :: (f ++ (List.replicate ((sub f.length).toNat - 4 - f.length) 0 ++ r)) := by
    unfold sfr
    rw [dlm_yes (by omega)]
    simp
  have h1 : pd (sfr f ++ r) ((0 : Nat) : Int) = ((f.length : Int), true) := by
    have e2 : at2 (sfr f ++ r) 0 = f.length := by rw [e]; simp [at2]
    rw [pd_yes (by rw [e]; simp only [List.length_cons]; omega) (by rw [e2, dlm_yes (by omega), e]; rfl), e2]
  rw [fa_yes h1 (by rw [e]; simp only [List.length_cons, List.length_append]; omega), e]
  simp
theorem split_sfr {f r : List Int} {m : Nat} (h : f.length ≤ 200) (hm : m ≠ 0) : split m (sfr f ++ r) = f :: split (m - 1) r := by
  have hl := sfr_len h
  have h1 := sub_nat h
  rw [split_some (fun e => by have h9 := congrArg List.length e; rw [List.length_append, List.length_nil] at h9; omega) hm (fa_sfr h), ← hl, List.drop_left]
theorem split_flat : ∀ {l : List (List Int)} {m : Nat} {r : List Int}, (∀ f ∈ l, f.length ≤ 200) → l.length ≤ m → split m (l.flatMap sfr ++ r) = l ++ split (m - l.length) r
  | [], m, r, _, _ => by simp
  | f :: l, m, r, h, hm => by
    have h1 : (f :: l).flatMap sfr ++ r = sfr f ++ (l.flatMap sfr ++ r) := by rw [List.flatMap_cons, List.append_assoc]
    rw [List.length_cons] at hm
    rw [h1, split_sfr (h f List.mem_cons_self) (by omega), split_flat (fun g hg => h g (List.mem_cons_of_mem _ hg)) (by omega), List.cons_append, List.length_cons, show m - 1 - l.length = m - (l.length + 1) by omega]
/-- No delimiter where the fourth byte is another one. -/
theorem fa_bad {r : List Int} (h : r.getD 3 0 ≠ 78) : fa r 0 = none := by
  refine fa_no ?_
  by_cases hl : (0 : Int) ≤ (r.length : Int) - 4
  · rw [pd_no (o := 0) (fun e => ?_)]
    unfold dlm at e
    split at e
    · match r, hl with
      | a :: b :: c :: d :: r', _ =>
        have e2 : [at2 (a :: b :: c :: d :: r') 0, 0, ((crc [at2 (a :: b :: c :: d :: r') 0, 0] : Nat) : Int) % 256, 78] = [a, b, c, d] := e
        injection e2 with _ e2
        injection e2 with _ e2
        injection e2 with _ e2
        injection e2 with e2 _
        exact h e2.symm
      | [], hl => simp at hl
      | [_], hl => simp at hl
      | [_, _], hl => simp at hl
      | [_, _, _], hl => simp at hl
    · have := congrArg List.length e
      rw [List.length_take, List.length_drop] at this
      simp at this
      omega
  · rw [pd_out (by simpa using hl)]
end Go.Proofs.Ythgbmcdfbinpkaa.ag
