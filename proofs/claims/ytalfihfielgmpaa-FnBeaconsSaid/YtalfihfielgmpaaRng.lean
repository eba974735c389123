/- Ranges, least and greatest: the program's and the specification's functions. Condition: none. -/
import Derived.Test.YtalfihfielgmpaaApp
namespace Go.Proofs.Ytalfihfielgmpaa.rng
open Go.RowKit sl harn

theorem inRange_yes (n a b : Int) (h : a ≤ n ∧ n ≤ b) (w : World) :
    Calls Try.prog 56 #[.int .i64 n, .int .i64 a, .int .i64 b] w fun e w' => e = .returned (.bool true) ∧ w = w' := by
  obtain ⟨h1, h2⟩ := h
  go_enter Try.func56, Try.ntmps56
  go_wp2
  go_ret
  exact ⟨rfl, rfl⟩
theorem inRange_no (n a b : Int) (h : ¬ (a ≤ n ∧ n ≤ b)) (w : World) :
    Calls Try.prog 56 #[.int .i64 n, .int .i64 a, .int .i64 b] w fun e w' => e = .returned (.bool false) ∧ w = w' := by
  by_cases h1 : a ≤ n
  · have h2 : ¬ n ≤ b := by omega
    clear h
    go_enter Try.func56, Try.ntmps56
    go_wp2
    go_ret
    exact ⟨rfl, rfl⟩
  · clear h
    go_enter Try.func56, Try.ntmps56
    go_wp2
    go_ret
    exact ⟨rfl, rfl⟩
theorem l1In_yes (n a b : Int) (h : a ≤ n ∧ n ≤ b) (w : World) :
    Calls Try.prog 54 #[.int .i64 n, .int .i64 a, .int .i64 b] w fun e w' => e = .returned (.bool true) ∧ w = w' := by
  obtain ⟨h1, h2⟩ := h
  go_enter Try.func54, Try.ntmps54
  go_wp2
  go_ret
  exact ⟨rfl, rfl⟩
theorem l1In_no (n a b : Int) (h : ¬ (a ≤ n ∧ n ≤ b)) (w : World) :
    Calls Try.prog 54 #[.int .i64 n, .int .i64 a, .int .i64 b] w fun e w' => e = .returned (.bool false) ∧ w = w' := by
  by_cases h1 : a ≤ n
  · have h2 : ¬ n ≤ b := by omega
    clear h
    go_enter Try.func54, Try.ntmps54
    go_wp2
    go_ret
    exact ⟨rfl, rfl⟩
  · clear h
    go_enter Try.func54, Try.ntmps54
    go_wp2
    go_ret
    exact ⟨rfl, rfl⟩

theorem extremes (x y lo hi : Int) (b : Nat) (w : World) (hlo : lo = if y < x then y else x) (hhi : hi = if x < y then y else x) (hc : w.cell? ⟨b, 0, none⟩ = some (.int .i64 y)) :
    Calls Try.prog 72 #[.int .i64 x, .slice (some ⟨b, 0, none⟩) 1 1] w fun e w' => e = .returned (.tuple #[.int .i64 lo, .int .i64 hi]) ∧ w = w' := by
  rcases Int.lt_trichotomy y x with h | h | h
  · have h2 : ¬ x < y := by omega
    rw [if_pos h] at hlo; rw [if_neg h2] at hhi
    subst hlo hhi
    go_enter Try.func72, Try.ntmps72
    go_wp2
    go_loop [6, 7, 14] (fun l g i => (l = .int .i64 hi ∧ g = .int .i64 hi ∧ i = .int .i64 0) ∨ (l = .int .i64 lo ∧ g = .int .i64 hi ∧ i = .int .i64 1)) (fun _ _ i => (1 - intOf i).toNat)
    case atStart => exact Or.inl ⟨rfl, rfl, rfl⟩
    case round =>
      rcases hrel with ⟨rfl, rfl, rfl⟩ | ⟨rfl, rfl, rfl⟩
      · go_wp2
        go_round
        case rel => exact Or.inr ⟨rfl, rfl, rfl⟩
        case measure => simp [intOf]
      · go_wp2
        go_ret2
        exact ⟨rfl, rfl⟩
  · subst h
    have h2 : ¬ y < y := by omega
    rw [if_neg h2] at hlo hhi
    subst lo hi
    go_enter Try.func72, Try.ntmps72
    go_wp2
    go_loop [6, 7, 14] (fun l g i => (l = .int .i64 y ∧ g = .int .i64 y ∧ i = .int .i64 0) ∨ (l = .int .i64 y ∧ g = .int .i64 y ∧ i = .int .i64 1)) (fun _ _ i => (1 - intOf i).toNat)
    case atStart => exact Or.inl ⟨rfl, rfl, rfl⟩
    case round =>
      rcases hrel with ⟨rfl, rfl, rfl⟩ | ⟨rfl, rfl, rfl⟩
      · go_wp2
        go_round
        case rel => exact Or.inr ⟨rfl, rfl, rfl⟩
        case measure => simp [intOf]
      · go_wp2
        go_ret2
        exact ⟨rfl, rfl⟩
  · have h2 : ¬ y < x := by omega
    rw [if_neg h2] at hlo; rw [if_pos h] at hhi
    subst hlo hhi
    go_enter Try.func72, Try.ntmps72
    go_wp2
    go_loop [6, 7, 14] (fun l g i => (l = .int .i64 lo ∧ g = .int .i64 lo ∧ i = .int .i64 0) ∨ (l = .int .i64 lo ∧ g = .int .i64 hi ∧ i = .int .i64 1)) (fun _ _ i => (1 - intOf i).toNat)
    case atStart => exact Or.inl ⟨rfl, rfl, rfl⟩
    case round =>
      rcases hrel with ⟨rfl, rfl, rfl⟩ | ⟨rfl, rfl, rfl⟩
      · go_wp2
        go_round
        case rel => exact Or.inr ⟨rfl, rfl, rfl⟩
        case measure => simp [intOf]
      · go_wp2
        go_ret2
        exact ⟨rfl, rfl⟩
theorem implMin (x y m : Int) (hm : m = if y < x then y else x) (w : World) :
    Calls Try.prog 71 #[.int .i64 x, .int .i64 y] w fun e w' => e = .returned (.int .i64 m) ∧ Below w.heap.size w w' := by
  obtain ⟨g, hg⟩ : ∃ g, g = if x < y then y else x := ⟨_, rfl⟩
  have HG := Lib.hid hg
  have HM := Lib.hid hm
  clear hm hg
  go_enter Try.func71, Try.ntmps71
  go_wp2_with (first | (go_at_call 72; refine (extremes x y m g _ _ HM.out HG.out (by go_simp)).mono ?_; rintro e w' ⟨rfl, rfl⟩))
  go_ret
  exact ⟨rfl, (Below.refl _ _).alloc (Nat.le_refl _) _⟩
end Go.Proofs.Ytalfihfielgmpaa.rng
