/- Categories by priority and their names, program and specification. Condition: none. -/
import Derived.Test.YtkfkfejjhfkobaaDoorAc2
namespace Go.Proofs.YtkfkfejjhfkobaaDoor.bx
open Go.RowKit sl harn rng acm
set_option linter.unusedVariables false

/-- A category's name. -/
def cnm (x : Int) : ByteArray := if x = 0 then ⟨#[98, 97, 99, 107, 103, 114, 111, 117, 110, 100]⟩ else if x = 1 then ⟨#[98, 101, 115, 116, 45, 101, 102, 102, 111, 114, 116]⟩ else if x = 2 then ⟨#[118, 105, 100, 101, 111]⟩ else if x = 3 then ⟨#[118, 111, 105, 99, 101]⟩ else ⟨#[]⟩
/-- What a function hands back that is a string. -/
def TPost (s : ByteArray) (w : World) (e : Ending) (w' : World) : Prop := e = .returned (.string s) ∧ Below w.heap.size w w'
theorem t_parts {a b : ByteArray} (ht : a = b) {w w' : World} {e : Ending} (h : TPost a w e w') : e = .returned (.string b) ∧ Below w.heap.size w w' := by subst ht; exact h
theorem eight {x : Int} (h : 0 ≤ x ∧ x ≤ 7) : x = 0 ∨ x = 1 ∨ x = 2 ∨ x = 3 ∨ x = 4 ∨ x = 5 ∨ x = 6 ∨ x = 7 := by omega
theorem four {x : Int} (h : 0 ≤ x ∧ x ≤ 3) : x = 0 ∨ x = 1 ∨ x = 2 ∨ x = 3 := by omega
theorem cop_out {x : Int} (h : ¬ (0 ≤ x ∧ x ≤ 7)) : cop x = -1 := by
  unfold cop
  rw [if_neg (by omega), if_neg (by omega), if_neg (by omega), if_neg (by omega)]
theorem cnm_out {x : Int} (h : ¬ (0 ≤ x ∧ x ≤ 3)) : cnm x = ⟨#[]⟩ := by
  unfold cnm
  rw [if_neg (by omega), if_neg (by omega), if_neg (by omega), if_neg (by omega)]
end Go.Proofs.YtkfkfejjhfkobaaDoor.bx
