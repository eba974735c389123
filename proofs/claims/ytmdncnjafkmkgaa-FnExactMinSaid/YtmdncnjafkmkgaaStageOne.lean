/- The law functions of Min, Max, CeilDiv, Mod and InRange return true and leave memory as it was, but for new blocks. Conditions: the arguments are 64-bit integers. -/
import Derived.Test.YtmdncnjafkmkgaaRows
import Derived.WalkKit
import Derived.ProofKit
import Derived.LoopTactic
import Derived.BigQuiet
import Derived.Deep.QuietTactic
namespace Go.Proofs.Ytmdncnjafkmkgaa.stageOne
open Go.RowKit

theorem ext_less (x y : Int) (b : Nat) (w : World) (h : y < x) (hc : w.cell? ⟨b, 0, none⟩ = some (.int .i64 y)) :
    Calls Try.prog 18 #[.int .i64 x, .slice (some ⟨b, 0, none⟩) 1 1] w fun e w' => e = .returned (.tuple #[.int .i64 y, .int .i64 x]) ∧ w = w' := by
  have h2 : ¬ x < y := by omega
  go_enter Try.func18, Try.ntmps18
  go_wp2
  go_loop [6, 7, 14] (fun l g i => (l = .int .i64 x ∧ g = .int .i64 x ∧ i = .int .i64 0) ∨ (l = .int .i64 y ∧ g = .int .i64 x ∧ i = .int .i64 1)) (fun _ _ i => (1 - intOf i).toNat)
  case atStart => exact Or.inl ⟨rfl, rfl, rfl⟩
  case round =>
    rcases hrel with ⟨rfl, rfl, rfl⟩ | ⟨rfl, rfl, rfl⟩
    · go_wp2
      go_round
      case rel => exact Or.inr ⟨rfl, rfl, rfl⟩
      case measure => simp [intOf]
    · go_wp2
      go_ret2
      exact ⟨rfl, rfl⟩

theorem ext_more (x y : Int) (b : Nat) (w : World) (h : x < y) (hc : w.cell? ⟨b, 0, none⟩ = some (.int .i64 y)) :
    Calls Try.prog 18 #[.int .i64 x, .slice (some ⟨b, 0, none⟩) 1 1] w fun e w' => e = .returned (.tuple #[.int .i64 x, .int .i64 y]) ∧ w = w' := by
  have h2 : ¬ y < x := by omega
  go_enter Try.func18, Try.ntmps18
  go_wp2
  go_loop [6, 7, 14] (fun l g i => (l = .int .i64 x ∧ g = .int .i64 x ∧ i = .int .i64 0) ∨ (l = .int .i64 x ∧ g = .int .i64 y ∧ i = .int .i64 1)) (fun _ _ i => (1 - intOf i).toNat)
  case atStart => exact Or.inl ⟨rfl, rfl, rfl⟩
  case round =>
    rcases hrel with ⟨rfl, rfl, rfl⟩ | ⟨rfl, rfl, rfl⟩
    · go_wp2
      go_round
      case rel => exact Or.inr ⟨rfl, rfl, rfl⟩
      case measure => simp [intOf]
    · go_wp2
      go_ret2
      exact ⟨rfl, rfl⟩

theorem ext_same (x : Int) (b : Nat) (w : World) (hc : w.cell? ⟨b, 0, none⟩ = some (.int .i64 x)) :
    Calls Try.prog 18 #[.int .i64 x, .slice (some ⟨b, 0, none⟩) 1 1] w fun e w' => e = .returned (.tuple #[.int .i64 x, .int .i64 x]) ∧ w = w' := by
  have h2 : ¬ x < x := by omega
  go_enter Try.func18, Try.ntmps18
  go_wp2
  go_loop [6, 7, 14] (fun l g i => (l = .int .i64 x ∧ g = .int .i64 x ∧ i = .int .i64 0) ∨ (l = .int .i64 x ∧ g = .int .i64 x ∧ i = .int .i64 1)) (fun _ _ i => (1 - intOf i).toNat)
  case atStart => exact Or.inl ⟨rfl, rfl, rfl⟩
  case round =>
    rcases hrel with ⟨rfl, rfl, rfl⟩ | ⟨rfl, rfl, rfl⟩
    · go_wp2
      go_round
      case rel => exact Or.inr ⟨rfl, rfl, rfl⟩
      case measure => simp [intOf]
    · go_wp2
      go_ret2
      exact ⟨rfl, rfl⟩

theorem walkMin (a0 a1 : Int) (w : World) :
    Calls Try.prog 3 #[.int .i64 a0, .int .i64 a1] w fun e w' => e = .returned (.bool true) ∧ Grown w w' := by
  rcases Int.lt_trichotomy a1 a0 with h | rfl | h
  · go_enter Try.func3, Try.ntmps3
    go_wp2_with (first | (go_at_call 18; refine (ext_less _ _ _ _ h (by go_simp)).mono ?_; rintro e w' ⟨rfl, rfl⟩) | go_in)
    go_ret
    exact ⟨rfl, by repeat (first | exact Grown.refl _ | apply Grown.drew | apply Grown.alloc)⟩
  · go_enter Try.func3, Try.ntmps3
    go_wp2_with (first | (go_at_call 18; refine (ext_same _ _ _ (by go_simp)).mono ?_; rintro e w' ⟨rfl, rfl⟩) | go_in)
    go_ret
    exact ⟨rfl, by repeat (first | exact Grown.refl _ | apply Grown.drew | apply Grown.alloc)⟩
  · have h2 : ¬ a1 < a0 := by omega
    go_enter Try.func3, Try.ntmps3
    go_wp2_with (first | (go_at_call 18; refine (ext_more _ _ _ _ h (by go_simp)).mono ?_; rintro e w' ⟨rfl, rfl⟩) | go_in)
    go_ret
    exact ⟨rfl, by repeat (first | exact Grown.refl _ | apply Grown.drew | apply Grown.alloc)⟩
theorem walkMax (a0 a1 : Int) (w : World) :
    Calls Try.prog 4 #[.int .i64 a0, .int .i64 a1] w fun e w' => e = .returned (.bool true) ∧ Grown w w' := by
  rcases Int.lt_trichotomy a1 a0 with h | rfl | h
  · have h2 : ¬ a0 < a1 := by omega
    go_enter Try.func4, Try.ntmps4
    go_wp2_with (first | (go_at_call 18; refine (ext_less _ _ _ _ h (by go_simp)).mono ?_; rintro e w' ⟨rfl, rfl⟩) | go_in)
    go_ret
    exact ⟨rfl, by repeat (first | exact Grown.refl _ | apply Grown.drew | apply Grown.alloc)⟩
  · go_enter Try.func4, Try.ntmps4
    go_wp2_with (first | (go_at_call 18; refine (ext_same _ _ _ (by go_simp)).mono ?_; rintro e w' ⟨rfl, rfl⟩) | go_in)
    go_ret
    exact ⟨rfl, by repeat (first | exact Grown.refl _ | apply Grown.drew | apply Grown.alloc)⟩
  · go_enter Try.func4, Try.ntmps4
    go_wp2_with (first | (go_at_call 18; refine (ext_more _ _ _ _ h (by go_simp)).mono ?_; rintro e w' ⟨rfl, rfl⟩) | go_in)
    go_ret
    exact ⟨rfl, by repeat (first | exact Grown.refl _ | apply Grown.drew | apply Grown.alloc)⟩

theorem walkInRange (a0 a1 a2 : Int) (w : World) :
    Calls Try.prog 7 #[.int .i64 a0, .int .i64 a1, .int .i64 a2] w fun e w' => e = .returned (.bool true) ∧ Grown w w' := by
  by_cases h1 : a1 ≤ a0
  · by_cases h2 : a0 ≤ a2
    all_goals
      go_enter Try.func7, Try.ntmps7
      go_wp2
      go_ret
      exact ⟨rfl, by repeat (first | exact Grown.refl _ | apply Grown.drew | apply Grown.alloc)⟩
  · go_enter Try.func7, Try.ntmps7
    go_wp2
    go_ret
    exact ⟨rfl, by repeat (first | exact Grown.refl _ | apply Grown.drew | apply Grown.alloc)⟩

theorem walkCeilDiv (a0 a1 : Int) (w : World) :
    Calls Try.prog 5 #[.int .i64 a0, .int .i64 a1] w fun e w' => e = .returned (.bool true) ∧ Grown w w' := by
  by_cases h1 : 0 ≤ a0
  · by_cases h2 : a0 ≤ 1000000000000
    · by_cases h3 : 1 ≤ a1
      · by_cases h4 : a1 ≤ 1000000000000
        all_goals
          go_enter Try.func5, Try.ntmps5
          go_wp2
          go_ret
          exact ⟨rfl, by repeat (first | exact Grown.refl _ | apply Grown.drew | apply Grown.alloc)⟩
      · go_enter Try.func5, Try.ntmps5
        go_wp2
        go_ret
        exact ⟨rfl, by repeat (first | exact Grown.refl _ | apply Grown.drew | apply Grown.alloc)⟩
    · go_enter Try.func5, Try.ntmps5
      go_wp2
      go_ret
      exact ⟨rfl, by repeat (first | exact Grown.refl _ | apply Grown.drew | apply Grown.alloc)⟩
  · go_enter Try.func5, Try.ntmps5
    go_wp2
    go_ret
    exact ⟨rfl, by repeat (first | exact Grown.refl _ | apply Grown.drew | apply Grown.alloc)⟩

theorem walkMod (a0 a1 : Int) (w : World) :
    Calls Try.prog 6 #[.int .i64 a0, .int .i64 a1] w fun e w' => e = .returned (.bool true) ∧ Grown w w' := by
  by_cases h3 : 1 ≤ a1
  · by_cases h4 : a1 ≤ 1000000000000
    · have b1 : a0.tmod a1 < a1 := by have := Int.tmod_lt_of_pos a0 (show 0 < a1 by omega); omega
      have b2 : -a1 < a0.tmod a1 := by
        have := Int.tmod_lt_of_pos (-a0) (show 0 < a1 by omega)
        rw [Int.neg_tmod] at this; omega
      obtain ⟨r, hr⟩ : ∃ r, a0.tmod a1 = r := ⟨_, rfl⟩
      rw [hr] at b1 b2
      by_cases h5 : r < 0
      · have e1 : (r + a1) % a1 = r + a1 := Int.emod_eq_of_lt (by omega) (by omega)
        go_enter Try.func6, Try.ntmps6
        go_wp2
        go_ret
        exact ⟨rfl, by repeat (first | exact Grown.refl _ | apply Grown.drew | apply Grown.alloc)⟩
      · have e1 : (r + a1) % a1 = r := by rw [Int.add_emod_right]; exact Int.emod_eq_of_lt (by omega) (by omega)
        go_enter Try.func6, Try.ntmps6
        go_wp2
        go_ret
        exact ⟨rfl, by repeat (first | exact Grown.refl _ | apply Grown.drew | apply Grown.alloc)⟩
    · go_enter Try.func6, Try.ntmps6
      go_wp2
      go_ret
      exact ⟨rfl, by repeat (first | exact Grown.refl _ | apply Grown.drew | apply Grown.alloc)⟩
  · go_enter Try.func6, Try.ntmps6
    go_wp2
    go_ret
    exact ⟨rfl, by repeat (first | exact Grown.refl _ | apply Grown.drew | apply Grown.alloc)⟩
end Go.Proofs.Ytmdncnjafkmkgaa.stageOne
