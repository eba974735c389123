/- Rate adaptation as numbers: what a state is, successes, failures, rows of outcomes; the fastest rate. No program. -/
import Derived.Test.YtejjafmppihneaaAir3
namespace Go.Proofs.Ytejjafmppihneaa.ra
open airs
set_option linter.unusedVariables false

/-- A state: rate, good, bad, threshold, probing. -/
structure Rs where
  r : Int
  g : Int
  b : Int
  t : Int
  p : Bool
def Vt (t : Int) : Prop := t = 10 ∨ t = 20 ∨ t = 40
instance (t : Int) : Decidable (Vt t) := by unfold Vt; infer_instance
def Va (q : Rs) : Prop := (0 ≤ q.r ∧ q.r ≤ 3) ∧ Vt q.t ∧ (0 ≤ q.g ∧ q.g ≤ q.t) ∧ (0 ≤ q.b ∧ q.b ≤ 1) ∧ (q.g = 0 ∨ q.b = 0) ∧ (q.p = true → q.g = 0 ∧ q.b = 0)
instance (q : Rs) : Decidable (Va q) := by unfold Va; infer_instance
def va (q : Rs) : Bool := decide (Va q)
def new (r : Int) : Rs := ⟨if 0 ≤ r ∧ r ≤ 3 then r else 0, 0, 0, 10, false⟩
def su (q : Rs) : Rs :=
  if Va q then (if q.g + 1 < q.t then ⟨q.r, q.g + 1, 0, q.t, false⟩ else if q.r < 3 then ⟨q.r + 1, 0, 0, q.t, true⟩ else ⟨q.r, q.t, 0, q.t, false⟩) else q
def fa (q : Rs) : Rs :=
  if Va q then (if q.p = true ∧ 0 < q.r then ⟨q.r - 1, 0, 0, (if q.t = 10 then 20 else 40), false⟩ else if q.b = 1 then ⟨(if 0 < q.r then q.r - 1 else 0), 0, 0, 10, false⟩ else ⟨q.r, 0, 1, q.t, false⟩) else q
def step (q : Rs) (x : Bool) : Rs := if x then su q else fa q
def app (q : Rs) (l : List Bool) : Rs := l.foldl step q
theorem app_nil (q : Rs) : app q [] = q := rfl
theorem app_snoc (q : Rs) (l : List Bool) (x : Bool) : app q (l ++ [x]) = step (app q l) x := by unfold app; simp
theorem app_take {q : Rs} {l : List Bool} {k : Nat} (hk : k < l.length) : app q (l.take (k + 1)) = step (app q (l.take k)) (l.getD k false) := by
  rw [show l.take (k + 1) = l.take k ++ [l.getD k false] by rw [List.take_add_one, List.getD_eq_getElem?_getD, List.getElem?_eq_getElem hk]; rfl, app_snoc]
theorem su_va {q : Rs} (h : Va q) : Va (su q) := by
  obtain ⟨⟨a1, a2⟩, a3, ⟨a4, a5⟩, ⟨a6, a7⟩, a8, a9⟩ := h
  have h : Va q := ⟨⟨a1, a2⟩, a3, ⟨a4, a5⟩, ⟨a6, a7⟩, a8, a9⟩
  unfold su
  rw [if_pos h]
  unfold Vt at a3
  split
  · exact ⟨⟨a1, a2⟩, a3, ⟨by dsimp only; omega, by dsimp only; omega⟩, ⟨by dsimp only; omega, by dsimp only; omega⟩, Or.inr rfl, fun e => by cases e⟩
  · split
    · exact ⟨⟨by dsimp only; omega, by dsimp only; omega⟩, a3, ⟨by dsimp only; omega, by dsimp only; omega⟩, ⟨by dsimp only; omega, by dsimp only; omega⟩, Or.inl rfl, fun _ => ⟨rfl, rfl⟩⟩
    · exact ⟨⟨a1, a2⟩, a3, ⟨by dsimp only; omega, by dsimp only; omega⟩, ⟨by dsimp only; omega, by dsimp only; omega⟩, Or.inr rfl, fun e => by cases e⟩
theorem fa_va {q : Rs} (h : Va q) : Va (fa q) := by
  obtain ⟨⟨a1, a2⟩, a3, ⟨a4, a5⟩, ⟨a6, a7⟩, a8, a9⟩ := h
  have h : Va q := ⟨⟨a1, a2⟩, a3, ⟨a4, a5⟩, ⟨a6, a7⟩, a8, a9⟩
  unfold fa
  rw [if_pos h]
  split
  · rename_i h1
    refine ⟨⟨by dsimp only; omega, by dsimp only; omega⟩, ?_, ⟨by dsimp only; omega, ?_⟩, ⟨by dsimp only; omega, by dsimp only; omega⟩, Or.inl rfl, fun e => by cases e⟩
    · unfold Vt; dsimp only; split <;> omega
    · dsimp only; split <;> omega
  · split
    · refine ⟨⟨?_, ?_⟩, Or.inl rfl, ⟨by dsimp only; omega, by dsimp only; omega⟩, ⟨by dsimp only; omega, by dsimp only; omega⟩, Or.inl rfl, fun e => by cases e⟩
      · dsimp only; split <;> omega
      · dsimp only; split <;> omega
    · exact ⟨⟨a1, a2⟩, a3, ⟨by dsimp only; omega, by dsimp only; omega⟩, ⟨by dsimp only; omega, by dsimp only; omega⟩, Or.inl rfl, fun e => by cases e⟩
/-- Enough successes lead to the highest rate. -/
theorem rise : ∀ (n : Nat) (q : Rs), Va q → ((3 - q.r) * 41 + (q.t - q.g) ≤ n ∨ q.r = 3) → (app q (List.replicate n true)).r = 3 := by
  intro n
  induction n with
  | zero =>
    intro q h hm
    obtain ⟨⟨a1, a2⟩, a3, ⟨a4, a5⟩, _⟩ := h
    show q.r = 3
    omega
  | succ n ih =>
    intro q h hm
    show (app (step q true) (List.replicate n true)).r = 3
    refine ih _ (su_va h) ?_
    obtain ⟨⟨a1, a2⟩, a3, ⟨a4, a5⟩, _⟩ := id h
    unfold Vt at a3
    show (3 - (su q).r) * 41 + ((su q).t - (su q).g) ≤ n ∨ (su q).r = 3
    unfold su
    rw [if_pos h]
    split
    · dsimp only; omega
    · split
      · dsimp only; omega
      · dsimp only; omega
theorem fall : ∀ (n : Nat) (q : Rs), Va q → (2 * q.r - q.b ≤ n ∨ q.r = 0) → (app q (List.replicate n false)).r = 0 := by
  intro n
  induction n with
  | zero =>
    intro q h hm
    obtain ⟨⟨a1, a2⟩, a3, ⟨a4, a5⟩, ⟨a6, a7⟩, _⟩ := h
    show q.r = 0
    omega
  | succ n ih =>
    intro q h hm
    show (app (step q false) (List.replicate n false)).r = 0
    refine ih _ (fa_va h) ?_
    obtain ⟨⟨a1, a2⟩, a3, ⟨a4, a5⟩, ⟨a6, a7⟩, a8, a9⟩ := id h
    show 2 * (fa q).r - (fa q).b ≤ n ∨ (fa q).r = 0
    unfold fa
    rw [if_pos h]
    split
    · dsimp only; omega
    · split
      · dsimp only; split <;> omega
      · dsimp only; omega
theorem rise200 {q : Rs} (h : Va q) : (app q (List.replicate 200 true)).r = 3 := by
  refine rise 200 q h ?_
  obtain ⟨⟨a1, a2⟩, a3, ⟨a4, a5⟩, _⟩ := h
  unfold Vt at a3
  omega
theorem fall20 {q : Rs} (h : Va q) : (app q (List.replicate 20 false)).r = 0 := by
  refine fall 20 q h ?_
  obtain ⟨⟨a1, a2⟩, a3, ⟨a4, a5⟩, ⟨a6, a7⟩, _⟩ := h
  omega
end Go.Proofs.Ytejjafmppihneaa.ra
