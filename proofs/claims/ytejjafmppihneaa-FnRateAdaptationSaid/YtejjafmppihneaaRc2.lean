/- Comparison, search, the nearest of several, disturbance: the program's and the library's functions at integers. Condition: none. -/
import Derived.Test.YtejjafmppihneaaRc1
namespace Go.Proofs.Ytejjafmppihneaa.bx
open Go.RowKit sl harn rng plm rfm
set_option linter.unusedVariables false

/-- Less, equal or greater. -/
def cmp3 (x y : Int) : Int := if x < y then -1 else if x = y then 0 else 1
theorem cmp3_neg {x y : Int} : decide (cmp3 x y < 0) = decide (x < y) := by
  unfold cmp3
  split
  · rename_i h; exact decide_eq_decide.2 ⟨fun _ => h, fun _ => by omega⟩
  · rename_i h; split <;> exact decide_eq_decide.2 ⟨fun h2 => by omega, fun h2 => absurd h2 h⟩
theorem nanI (x : Int) (w : World) : Calls Try.prog 133 #[.int .i64 x] w fun e w' => e = .returned (.bool false) ∧ w = w' := by
  go_enter Try.func133, Try.ntmps133
  go_wp2
  go_ret
  exact ⟨by simp, rfl⟩
theorem none_yet {l : List Int} {k : Nat} {x y : Int} (h : ∀ j, j < k → l.getD j 0 ≠ x) (hy : l.getD k 0 = y) (hn : ¬ y = x) : ∀ j, j < k + 1 → l.getD j 0 ≠ x := fun j hj => by
  rcases Nat.lt_or_ge j k with h1 | h1
  · exact h j h1
  · obtain rfl : j = k := by omega
    rw [hy]; exact hn
def IdxPost (l : List Int) (x : Int) (w : World) (e : Ending) (w' : World) : Prop := ∃ v : Int, e = .returned (.int .i64 v) ∧ (0 ≤ v ↔ x ∈ l) ∧ w = w'
theorem idxI (l : List Int) (x : Int) (lo hi : Nat) (A : Option Addr) (n cap : Nat) (w : World) (h : Rd .i64 w lo hi A n cap l) :
    Calls Try.prog 104 #[.slice A n cap, .int .i64 x] w (IdxPost l x w) := by
  have hc := h.cap_
  have HR := Lib.hid h
  have HL := Lib.hid h.len
  clear h
  go_enter Try.func104, Try.ntmps104
  go_wp2
  go_loop [8] (fun i => ∃ k : Nat, i = .int .i64 k ∧ k ≤ n ∧ ∀ j, j < k → l.getD j 0 ≠ x) (fun i => n - (intOf i).toNat)
  case atStart => exact ⟨0, rfl, by omega, fun j h => absurd h (by omega)⟩
  case round =>
    obtain ⟨k, rfl, hk, hall⟩ := hrel
    have HA := Lib.hid hall
    clear hall
    by_cases hlt : k < n
    · obtain ⟨b, off, rfl, _, _, hcl⟩ := HR.out.at_ hlt
      obtain ⟨y, hy⟩ : ∃ y, l.getD k 0 = y := ⟨_, rfl⟩
      rw [hy] at hcl
      have HY := Lib.hid hy
      clear hy
      have hlt2 : (k : Int) < n := by omega
      by_cases he : y = x
      · subst he
        go_wp2_with fail
        go_ret
        exact ⟨_, rfl, ⟨fun _ => by rw [← HY.out]; exact mem_getD (by rw [HL.out]; exact hlt), fun _ => by omega⟩, rfl⟩
      · have HE := Lib.hid he
        have he1 : (x == y) = false := by simpa using fun e : x = y => he e.symm
        clear he
        go_wp2_with fail
        go_round
        case rel => exact ⟨k + 1, by go_num, by omega, none_yet HA.out HY.out HE.out⟩
        case measure => simp [intOf]; omega
    · have hlt2 : ¬ (k : Int) < n := by omega
      obtain rfl : k = n := by omega
      go_wp2
      go_ret
      refine ⟨_, rfl, ⟨fun h => by omega, fun h => ?_⟩, rfl⟩
      obtain ⟨j, hj, e⟩ := ex_getD h
      exact absurd e (HA.out j (by rw [← HL.out]; exact hj))
theorem containsI (l : List Int) (x : Int) (lo hi : Nat) (A : Option Addr) (n cap : Nat) (w : World) (h : Rd .i64 w lo hi A n cap l) :
    Calls Try.prog 89 #[.slice A n cap, .int .i64 x] w fun e w' => e = .returned (.bool (decide (x ∈ l))) ∧ w = w' := by
  have HR := Lib.hid h
  clear h
  go_enter Try.func89, Try.ntmps89
  go_wp2_with fail
  (with_reducible refine (idxI l x _ _ A n cap _ HR.out).mono ?_)
  rintro e w1 ⟨v, rfl, hv, rfl⟩
  have HV := Lib.hid hv
  clear hv
  go_wp2_with fail
  go_ret
  exact ⟨congrArg (fun b => Ending.returned (.bool b)) (decide_eq_decide.2 HV.out), rfl⟩
end Go.Proofs.Ytejjafmppihneaa.bx
