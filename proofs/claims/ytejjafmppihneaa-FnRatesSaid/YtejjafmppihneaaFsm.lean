/- The fastest rate as a number: the rates that deliver, in order, and the first of the least. No program. -/
import Derived.Test.YtejjafmppihneaaAir3
namespace Go.Proofs.Ytejjafmppihneaa.ra
open airs
set_option linter.unusedVariables false

def stp (b q f r : Int) : Int := if f < 0 ∨ ex r b q < ex f b q then r else f
def bk (b q : Int) (l : List Int) : Int := l.foldl (stp b q) (-1)
/-- The rates below k that deliver frames. -/
def ks (b q : Int) : Nat → List Int
  | 0 => []
  | k + 1 => if 0 ≤ ex k b q then ks b q k ++ [(k : Int)] else ks b q k
def fastest (b q : Int) : Int := bk b q (ks b q 4)
/-- The rates and their slots. -/
def tk (b q : Int) (l : List Int) : List (Int × Int) := l.map fun r => (r, ex r b q)
section
variable {b q : Int}
theorem bk_nil : bk b q [] = -1 := rfl
theorem bk_snoc (l : List Int) (r : Int) : bk b q (l ++ [r]) = stp b q (bk b q l) r := by unfold bk; simp
theorem ks_yes {k : Nat} (h : 0 ≤ ex k b q) : ks b q (k + 1) = ks b q k ++ [(k : Int)] := by rw [ks, if_pos h]
theorem ks_no {k : Nat} (h : ¬ 0 ≤ ex k b q) : ks b q (k + 1) = ks b q k := by rw [ks, if_neg h]
theorem ks_mem {k : Nat} {x : Int} : x ∈ ks b q k ↔ ∃ r : Nat, r < k ∧ x = r ∧ 0 ≤ ex r b q := by
  induction k with
  | zero => simp [ks]
  | succ k ih =>
    by_cases h : 0 ≤ ex k b q
    · rw [ks_yes h, List.mem_append, ih]
      constructor
      · rintro (⟨r, h1, h2, h3⟩ | h1)
        · exact ⟨r, by omega, h2, h3⟩
        · exact ⟨k, by omega, by simpa using h1, h⟩
      · rintro ⟨r, h1, rfl, h3⟩
        by_cases e : r = k
        · subst e; right; simp
        · left; exact ⟨r, by omega, rfl, h3⟩
    · rw [ks_no h, ih]
      constructor
      · rintro ⟨r, h1, h2, h3⟩
        exact ⟨r, by omega, h2, h3⟩
      · rintro ⟨r, h1, rfl, h3⟩
        exact ⟨r, by have : r ≠ k := fun e => h (e ▸ h3); omega, rfl, h3⟩
theorem ks_lt {k : Nat} : ∀ x ∈ ks b q k, 0 ≤ x ∧ x < k := fun x hx => by
  obtain ⟨r, h1, rfl, _⟩ := ks_mem.1 hx
  omega
theorem ks_ex {k : Nat} : ∀ x ∈ ks b q k, 0 ≤ ex x b q := fun x hx => by
  obtain ⟨r, h1, rfl, h3⟩ := ks_mem.1 hx
  exact h3
theorem ks_pair (k : Nat) : (ks b q k).Pairwise (· < ·) := by
  induction k with
  | zero => exact List.Pairwise.nil
  | succ k ih =>
    by_cases h : 0 ≤ ex k b q
    · rw [ks_yes h, List.pairwise_append]
      exact ⟨ih, by simp, fun x hx y hy => by have := ks_lt x hx; have : y = k := by simpa using hy
                                              omega⟩
    · rw [ks_no h]; exact ih
theorem ks_len (k : Nat) : (ks b q k).length ≤ k := by
  induction k with
  | zero => simp [ks]
  | succ k ih =>
    by_cases h : 0 ≤ ex k b q
    · rw [ks_yes h]; simp; omega
    · rw [ks_no h]; omega
theorem ks_new (k : Nat) : (k : Int) ∉ ks b q k := fun h => by have := ks_lt _ h; omega
theorem ks_nodup (k : Nat) : (ks b q k).Nodup := (ks_pair k).imp fun h e => by omega
theorem snocRec {P : List Int → Prop} (h0 : P []) (h1 : ∀ l r, P l → P (l ++ [r])) (l : List Int) : P l := by
  have h : ∀ l : List Int, P l.reverse := fun l => by
    induction l with
    | nil => exact h0
    | cons a l ih => rw [List.reverse_cons]; exact h1 _ _ ih
  have := h l.reverse
  rwa [List.reverse_reverse] at this
theorem bk_in (l : List Int) : (bk b q l = -1 ∧ l = []) ∨ bk b q l ∈ l := by
  refine snocRec (P := fun l => (bk b q l = -1 ∧ l = []) ∨ bk b q l ∈ l) ?_ ?_ l
  · exact Or.inl ⟨rfl, rfl⟩
  · intro l r ih
    right
    rw [bk_snoc]
    unfold stp
    split
    · simp
    · rename_i h
      rcases ih with ⟨h1, _⟩ | h1
      · exact absurd (Or.inl (by omega)) h
      · simp [h1]
theorem bk_least (l : List Int) : (∀ x ∈ l, 0 ≤ x) → ∀ x ∈ l, 0 ≤ bk b q l ∧ ex (bk b q l) b q ≤ ex x b q := by
  refine snocRec (P := fun l => (∀ x ∈ l, 0 ≤ x) → ∀ x ∈ l, 0 ≤ bk b q l ∧ ex (bk b q l) b q ≤ ex x b q) ?_ ?_ l
  · simp
  · intro l r ih hl
    have hr : 0 ≤ r := hl r (by simp)
    have ih := ih fun x hx => hl x (by simp [hx])
    intro x hx
    rw [bk_snoc]
    unfold stp
    split
    · rename_i h
      refine ⟨hr, ?_⟩
      rcases List.mem_append.1 hx with h1 | h1
      · have := ih x h1
        rcases h with h | h <;> omega
      · have : x = r := by simpa using h1
        subst this; exact Int.le_refl _
    · rename_i h
      refine ⟨by omega, ?_⟩
      rcases List.mem_append.1 hx with h1 | h1
      · exact (ih x h1).2
      · have : x = r := by simpa using h1
        subst this; omega
/-- One of the rates' list, and a shorter one. -/
theorem bk_take {l : List Int} {k : Nat} (hk : k < l.length) : bk b q (l.take (k + 1)) = stp b q (bk b q (l.take k)) (l.getD k 0) := by
  rw [show l.take (k + 1) = l.take k ++ [l.getD k 0] by rw [List.take_add_one, List.getD_eq_getElem?_getD, List.getElem?_eq_getElem hk]; rfl, bk_snoc]
theorem fastest_least {r : Nat} (h : r < 4) (he : 0 ≤ ex r b q) : (0 ≤ fastest b q ∧ fastest b q < 4) ∧ 0 ≤ ex (fastest b q) b q ∧ ex (fastest b q) b q ≤ ex r b q := by
  have hm : (r : Int) ∈ ks b q 4 := ks_mem.2 ⟨r, h, rfl, he⟩
  have h1 := bk_least (b := b) (q := q) (ks b q 4) (fun x hx => (ks_lt x hx).1) _ hm
  rcases bk_in (b := b) (q := q) (ks b q 4) with ⟨h2, h3⟩ | h2
  · rw [h3] at hm; cases hm
  · have h4 := ks_lt _ h2
    exact ⟨⟨h1.1, h4.2⟩, ks_ex _ h2, h1.2⟩
theorem fastest_none (h : ∀ r : Nat, r < 4 → ¬ 0 ≤ ex r b q) : fastest b q = -1 := by
  have : ks b q 4 = [] := by
    apply List.eq_nil_iff_forall_not_mem.2
    intro x hx
    obtain ⟨r, h1, rfl, h3⟩ := ks_mem.1 hx
    exact h r h1 h3
  unfold fastest
  rw [this]; rfl
end
end Go.Proofs.Ytejjafmppihneaa.ra
