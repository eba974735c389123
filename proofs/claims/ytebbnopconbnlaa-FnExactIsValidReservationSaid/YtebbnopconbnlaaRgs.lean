/- A region that draws its order, makes one variable and stores into it: the store may come before what does not hang on it. Condition: the region's form. -/
import Derived.Test.YtebbnopconbnlaaStw
namespace Go.Proofs.Ytebbnopconbnlaa.stw
open Go.RowKit sl harn bx
set_option linter.unusedVariables false

/-- A whole variable above block B was stored. -/
def PutR (T : TypeId) (B n : Nat) (w w' : World) : Prop := ∃ (N : Nat) (cs : Array Value), B < N ∧ cs.size = n ∧ Put T w N cs w'
/-- What is right of a value, and stays so behind either. -/
structure St2 (T : TypeId) (B n : Nat) where
  p : Value → World → Prop
  h1 : ∀ v w w', p v w → Below w.heap.size w w' → p v w'
  h2 : ∀ v w w', p v w → PutR T B n w w' → p v w'
section
variable {T : TypeId} {B n : Nat}
def is2 (x : Value) : St2 T B n := ⟨fun v _ => v = x, fun _ _ _ h _ => h, fun _ _ _ h _ => h⟩
def val2 (p : Value → Prop) : St2 T B n := ⟨fun v _ => p v, fun _ _ _ h _ => h, fun _ _ _ h _ => h⟩
/-- The variable that is made: where it lies, whatever it holds. -/
def mk2 : St2 T B n := ⟨fun v w => ∃ (N : Nat) (cs : Array Value), v = .pointer (some ⟨N, 0, none⟩) ∧ B < N ∧ cs.size = n ∧ Bx T w N cs, fun v w w' ⟨N, cs, h1, h2, h3, h4⟩ hb => ⟨N, cs, h1, h2, h3, h4.below hb⟩,
  fun v w w' ⟨N, cs, h1, h2, h3, h4⟩ ⟨M, ds, g1, g2, g3⟩ => by
    by_cases h : N = M
    · subst h; exact ⟨N, ds, h1, h2, g2, g3.box⟩
    · exact ⟨N, cs, h1, h2, h3, g3.keep h4 h⟩⟩
/-- The variable, stored. -/
def Own2 (T : TypeId) (B : Nat) (p : Array Value → Prop) (v : Value) (w : World) : Prop := ∃ (N : Nat) (cs : Array Value), v = .pointer (some ⟨N, 0, none⟩) ∧ B < N ∧ p cs ∧ Bx T w N cs
theorem Own2.below {p : Array Value → Prop} {v : Value} {w w' : World} (h : Own2 T B p v w) (hb : Below w.heap.size w w') : Own2 T B p v w' := by
  obtain ⟨N, cs, h1, h2, h3, h4⟩ := h; exact ⟨N, cs, h1, h2, h3, h4.below hb⟩
def E2 (T : TypeId) (B n s : Nat) (i : Nat) (w w' : World) : Prop := if i = s then PutR T B n w w' else Below w.heap.size w w'
def r2 (s : Nat) (l : List (St2 T B n)) (p : Array Value → Prop) (j : Nat) (v : Value) (w : World) : Prop := if j = s then Own2 T B p v w else (l.getD j (val2 fun _ => True)).p v w
theorem r2_keep (s : Nat) (l : List (St2 T B n)) (p : Array Value → Prop) (i j : Nat) (v : Value) (w w' : World) (hij : i ≠ j) (h : r2 s l p j v w) (he : E2 T B n s i w w') : r2 s l p j v w' := by
  unfold r2 at h ⊢
  unfold E2 at he
  by_cases hj : j = s
  · rw [if_pos hj] at h ⊢
    rw [if_neg (by omega)] at he
    exact h.below he
  · rw [if_neg hj] at h ⊢
    by_cases hi : i = s
    · rw [if_pos hi] at he; exact (l.getD j (val2 fun _ => True)).h2 v w w' h he
    · rw [if_neg hi] at he; exact (l.getD j (val2 fun _ => True)).h1 v w w' h he
theorem r2_ne {s : Nat} {l : List (St2 T B n)} {p : Array Value → Prop} {j : Nat} {v : Value} {w : World} (hj : Nat.beq j s = false) (h : (l.getD j (val2 fun _ => True)).p v w) : r2 s l p j v w := by
  unfold r2; rw [if_neg (Nat.ne_of_beq_eq_false hj)]; exact h
theorem r2_out {s : Nat} {l : List (St2 T B n)} {p : Array Value → Prop} {j : Nat} {v : Value} {w : World} (hj : Nat.beq j s = false) (h : r2 s l p j v w) : (l.getD j (val2 fun _ => True)).p v w := by
  unfold r2 at h; rwa [if_neg (Nat.ne_of_beq_eq_false hj)] at h
theorem r2_own {s : Nat} {l : List (St2 T B n)} {p : Array Value → Prop} {v : Value} {w : World} (h : Own2 T B p v w) : r2 s l p s v w := by
  unfold r2; rw [if_pos rfl]; exact h
theorem r2_got {s : Nat} {l : List (St2 T B n)} {p : Array Value → Prop} {v : Value} {w : World} (h : r2 s l p s v w) : Own2 T B p v w := by
  unfold r2 at h; rwa [if_pos rfl] at h
theorem e2_ne {s i : Nat} {w w' : World} (hj : Nat.beq i s = false) (h : Below w.heap.size w w') : E2 T B n s i w w' := by
  unfold E2; rw [if_neg (Nat.ne_of_beq_eq_false hj)]; exact h
theorem e2_own {s : Nat} {w w' : World} (h : PutR T B n w w') : E2 T B n s s w w' := by
  unfold E2; rw [if_pos rfl]; exact h
theorem E2.cases {s i : Nat} {w w' : World} {X : Prop} (h : E2 T B n s i w w') (h1 : PutR T B n w w' → X) (h2 : Below w.heap.size w w' → X) : X := by
  unfold E2 at h
  split at h
  · exact h1 h
  · exact h2 h
theorem PutR.keep {U : TypeId} {w w' : World} {b : Nat} {cs : Array Value} (h : PutR T B n w w') (hX : Bx U w b cs) (hb : b ≤ B) : Bx U w' b cs := by
  obtain ⟨N, ds, h1, h2, h3⟩ := h; exact h3.keep hX (by omega)
theorem PutR.on {v w w' : World} {A : Nat} (h : PutR T B n w w') (hb : Below A v w) (hA : A ≤ B + 1) : Below A v w' := by
  obtain ⟨N, ds, h1, h2, h3⟩ := h; exact h3.on hb (by omega)
end
end Go.Proofs.Ytebbnopconbnlaa.stw
