/- Categories by priority and their names, program and specification. Condition: none. -/
import Derived.Test.YthgobaohlcninaaDoorAc2
namespace Go.Proofs.YthgobaohlcninaaDoor.bx
open Go.RowKit sl harn rng acm
set_option linter.unusedVariables false

/-- A category's name. -/
def cnm (x : Int) : ByteArray := if x = 0 then ⟨#[98, 97, 99, 107, 103, 114, 111, 117, 110, 100]⟩ else if x = 1 then ⟨#[98, 101, 115, 116, 45, 101, 102, 102, 111, 114, 116]⟩ else if x = 2 then ⟨#[118, 105, 100, 101, 111]⟩ else if x = 3 then ⟨#[118, 111, 105, 99, 101]⟩ else ⟨#[]⟩
/-- What a function hands back that is a string. -/
def TPost (s : ByteArray) (w : World) (e : Ending) (w' : World) : Prop := e = .returned (.string s) ∧ Below w.heap.size w w'
theorem t_parts {a b : ByteArray} (ht : a = b) {w w' : World} {e : Ending} (h : TPost a w e w') : e = .returned (.string b) ∧ Below w.heap.size w w' := by subst ht; exact h
theorem eight {x : Int} (h : 0 ≤ x ∧ x ≤ 7) : x = 0 ∨ x = 1 ∨ x = 2 ∨ x = 3 ∨ x = 4 ∨ x = 5 ∨ x = 6 ∨ x = 7 := by omega
theorem four {x : Int} (h : 0 ≤ x ∧ x ≤ 3) : x = 0 ∨ x = 1 ∨ x = 2 ∨ x = 3 := by omega
theorem cop_out {x : Int} (h : ¬ (0 ≤ x ∧ x ≤ 7)) : cop x = -1 := by
  unfold cop
  rw [if_neg (by omega), if_neg (by omega), if_neg (by omega), if_neg (by omega)]
theorem cnm_out {x : Int} (h : ¬ (0 ≤ x ∧ x ≤ 3)) : cnm x = ⟨#[]⟩ := by
  unfold cnm
  rw [if_neg (by omega), if_neg (by omega), if_neg (by omega), if_neg (by omega)]
set_option maxRecDepth 100000 in
set_option maxHeartbeats 4000000 in
theorem implCop (x : Int) (w : World) :
    Calls Tryd.prog 14 #[.int .i64 x] w (NPost (cop x) w) := by
  by_cases hr : 0 ≤ x ∧ x ≤ 7
  · rcases eight hr with rfl | rfl | rfl | rfl | rfl | rfl | rfl | rfl
    · clear hr
      go_enter Tryd.func14, Tryd.ntmps14
      go_wp2_with fail
      go_ret
      exact ⟨rfl, Below.refl _ _⟩
    · clear hr
      go_enter Tryd.func14, Tryd.ntmps14
      go_wp2_with fail
      go_ret
      exact ⟨rfl, Below.refl _ _⟩
    · clear hr
      go_enter Tryd.func14, Tryd.ntmps14
      go_wp2_with fail
      go_ret
      exact ⟨rfl, Below.refl _ _⟩
    · clear hr
      go_enter Tryd.func14, Tryd.ntmps14
      go_wp2_with fail
      go_ret
      exact ⟨rfl, Below.refl _ _⟩
    · clear hr
      go_enter Tryd.func14, Tryd.ntmps14
      go_wp2_with fail
      go_ret
      exact ⟨rfl, Below.refl _ _⟩
    · clear hr
      go_enter Tryd.func14, Tryd.ntmps14
      go_wp2_with fail
      go_ret
      exact ⟨rfl, Below.refl _ _⟩
    · clear hr
      go_enter Tryd.func14, Tryd.ntmps14
      go_wp2_with fail
      go_ret
      exact ⟨rfl, Below.refl _ _⟩
    · clear hr
      go_enter Tryd.func14, Tryd.ntmps14
      go_wp2_with fail
      go_ret
      exact ⟨rfl, Below.refl _ _⟩
  · have HC := Lib.hid (cop_out hr)
    have e0 : (x == 0) = false := by simp; omega
    have e1 : (x == 1) = false := by simp; omega
    have e2 : (x == 2) = false := by simp; omega
    have e3 : (x == 3) = false := by simp; omega
    have e4 : (x == 4) = false := by simp; omega
    have e5 : (x == 5) = false := by simp; omega
    have e6 : (x == 6) = false := by simp; omega
    have e7 : (x == 7) = false := by simp; omega
    clear hr
    go_enter Tryd.func14, Tryd.ntmps14
    go_wp2_with fail
    go_ret
    exact ⟨by rw [HC.out]; rfl, Below.refl _ _⟩
set_option maxRecDepth 100000 in
set_option maxHeartbeats 4000000 in
theorem implCnm (x : Int) (w : World) :
    Calls Tryd.prog 12 #[.int .i64 x] w (TPost (cnm x) w) := by
  by_cases hr : 0 ≤ x ∧ x ≤ 3
  · rcases four hr with rfl | rfl | rfl | rfl
    · clear hr
      go_enter Tryd.func12, Tryd.ntmps12
      go_wp2_with fail
      (with_reducible refine (isCat 0 true _ rfl).mono ?_)
      rintro e w1 ⟨rfl, rfl⟩
      go_wp2_with fail
      go_ret
      exact ⟨rfl, below_box _ _⟩
    · clear hr
      go_enter Tryd.func12, Tryd.ntmps12
      go_wp2_with fail
      (with_reducible refine (isCat 1 true _ rfl).mono ?_)
      rintro e w1 ⟨rfl, rfl⟩
      go_wp2_with fail
      go_ret
      exact ⟨rfl, below_box _ _⟩
    · clear hr
      go_enter Tryd.func12, Tryd.ntmps12
      go_wp2_with fail
      (with_reducible refine (isCat 2 true _ rfl).mono ?_)
      rintro e w1 ⟨rfl, rfl⟩
      go_wp2_with fail
      go_ret
      exact ⟨rfl, below_box _ _⟩
    · clear hr
      go_enter Tryd.func12, Tryd.ntmps12
      go_wp2_with fail
      (with_reducible refine (isCat 3 true _ rfl).mono ?_)
      rintro e w1 ⟨rfl, rfl⟩
      go_wp2_with fail
      go_ret
      exact ⟨rfl, below_box _ _⟩
  · have HD := Lib.hid (decide_eq_false hr)
    have HC := Lib.hid (cnm_out hr)
    clear hr
    go_enter Tryd.func12, Tryd.ntmps12
    go_wp2_with fail
    (with_reducible refine (isCat x false _ HD.out).mono ?_)
    rintro e w1 ⟨rfl, rfl⟩
    go_wp2_with fail
    go_ret
    exact ⟨by rw [HC.out]; rfl, Below.refl _ _⟩
end Go.Proofs.YthgobaohlcninaaDoor.bx
