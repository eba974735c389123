/- Rates and airtime: the program's and the specification's functions. Condition: none. -/
import Derived.Test.YtejjafmppihneaaRng
import Derived.Test.YtejjafmppihneaaDraw
namespace Go.Proofs.Ytejjafmppihneaa.airs
open Go.RowKit sl harn rng

def Vr (r : Int) : Prop := 0 ≤ r ∧ r ≤ 3
instance (r : Int) : Decidable (Vr r) := by unfold Vr; infer_instance
def bps (r : Int) : Int := if r = 0 then 4 else if r = 1 then 8 else if r = 2 then 12 else if r = 3 then 24 else 0
def req (r : Int) : Int := if r = 0 then 10 else if r = 1 then 30 else if r = 2 then 50 else if r = 3 then 80 else 0
theorem vr_cases {r : Int} (h : Vr r) : r = 0 ∨ r = 1 ∨ r = 2 ∨ r = 3 := by unfold Vr at h; omega
theorem not_vr {r : Int} (h : ¬ Vr r) : r ≠ 0 ∧ r ≠ 1 ∧ r ≠ 2 ∧ r ≠ 3 := by unfold Vr at h; omega
theorem bps_no {r : Int} (h : ¬ Vr r) : bps r = 0 := by obtain ⟨a, b, c, d⟩ := not_vr h; simp [bps, a, b, c, d]
theorem req_no {r : Int} (h : ¬ Vr r) : req r = 0 := by obtain ⟨a, b, c, d⟩ := not_vr h; simp [req, a, b, c, d]
def Num (v : Int) (w : World) (e : Ending) (w' : World) : Prop := e = .returned (.int .i64 v) ∧ Below w.heap.size w w'
def Bit (v : Bool) (w : World) (e : Ending) (w' : World) : Prop := e = .returned (.bool v) ∧ Below w.heap.size w w'
theorem Num.parts {v u : Int} {w w' : World} {e : Ending} (hv : v = u) (h : Num v w e w') : e = .returned (.int .i64 u) ∧ Below w.heap.size w w' := by subst hv; exact h
theorem Bit.parts {v u : Bool} {w w' : World} {e : Ending} (hv : v = u) (h : Bit v w e w') : e = .returned (.bool u) ∧ Below w.heap.size w w' := by subst hv; exact h
theorem num_end {v u : Int} {w w' : World} (hv : v = u) (h : Below w.heap.size w w') : Num v w (.returned (.int .i64 u)) w' := by subst hv; exact ⟨rfl, h⟩
theorem bit_end {v u : Bool} {w w' : World} (hv : v = u) (h : Below w.heap.size w w') : Bit v w (.returned (.bool u)) w' := by subst hv; exact ⟨rfl, h⟩

theorem implVr_yes (r : Int) (h : Vr r) (w : World) :
    Calls Try.prog 61 #[.int .i64 r] w fun e w' => e = .returned (.bool true) ∧ w = w' := by
  have H := Lib.hid (show (0 ≤ r ∧ r ≤ 3) from h)
  clear h
  go_enter Try.func61, Try.ntmps61
  go_wp2_with fail
  (with_reducible refine (inRange_yes r 0 3 H.out _).mono ?_)
  rintro e w1 ⟨rfl, rfl⟩
  go_wp2_with fail
  go_ret
  exact ⟨rfl, rfl⟩
theorem implVr_no (r : Int) (h : ¬ Vr r) (w : World) :
    Calls Try.prog 61 #[.int .i64 r] w fun e w' => e = .returned (.bool false) ∧ w = w' := by
  have H := Lib.hid (show ¬ (0 ≤ r ∧ r ≤ 3) from h)
  clear h
  go_enter Try.func61, Try.ntmps61
  go_wp2_with fail
  (with_reducible refine (inRange_no r 0 3 H.out _).mono ?_)
  rintro e w1 ⟨rfl, rfl⟩
  go_wp2_with fail
  go_ret
  exact ⟨rfl, rfl⟩
theorem implVr (r : Int) (w : World) :
    Calls Try.prog 61 #[.int .i64 r] w (Bit (decide (Vr r)) w) := by
  by_cases h : Vr r
  · refine (implVr_yes r h w).mono ?_
    rintro e w1 ⟨rfl, rfl⟩
    exact bit_end (by simp [h]) (Below.refl _ _)
  · refine (implVr_no r h w).mono ?_
    rintro e w1 ⟨rfl, rfl⟩
    exact bit_end (by simp [h]) (Below.refl _ _)
theorem specVr_yes (r : Int) (h : Vr r) (w : World) :
    Calls Try.prog 59 #[.int .i64 r] w fun e w' => e = .returned (.bool true) ∧ w = w' := by
  have H := Lib.hid (show (0 ≤ r ∧ r ≤ 3) from h)
  clear h
  go_enter Try.func59, Try.ntmps59
  go_wp2_with fail
  (with_reducible refine (l1In_yes r 0 3 H.out _).mono ?_)
  rintro e w1 ⟨rfl, rfl⟩
  go_wp2_with fail
  go_ret
  exact ⟨rfl, rfl⟩
theorem specVr_no (r : Int) (h : ¬ Vr r) (w : World) :
    Calls Try.prog 59 #[.int .i64 r] w fun e w' => e = .returned (.bool false) ∧ w = w' := by
  have H := Lib.hid (show ¬ (0 ≤ r ∧ r ≤ 3) from h)
  clear h
  go_enter Try.func59, Try.ntmps59
  go_wp2_with fail
  (with_reducible refine (l1In_no r 0 3 H.out _).mono ?_)
  rintro e w1 ⟨rfl, rfl⟩
  go_wp2_with fail
  go_ret
  exact ⟨rfl, rfl⟩
theorem specVr (r : Int) (w : World) :
    Calls Try.prog 59 #[.int .i64 r] w (Bit (decide (Vr r)) w) := by
  by_cases h : Vr r
  · refine (specVr_yes r h w).mono ?_
    rintro e w1 ⟨rfl, rfl⟩
    exact bit_end (by simp [h]) (Below.refl _ _)
  · refine (specVr_no r h w).mono ?_
    rintro e w1 ⟨rfl, rfl⟩
    exact bit_end (by simp [h]) (Below.refl _ _)
theorem valueOf_no (x0 x1 x2 x3 r : Int) (h : ¬ Vr r) (w : World) :
    Calls Try.prog 49 #[.agg #[.int .i64 x0, .int .i64 x1, .int .i64 x2, .int .i64 x3], .int .i64 r] w (Num 0 w) := by
  have H := Lib.hid h
  clear h
  go_enter Try.func49, Try.ntmps49
  go_wp2_with fail
  (with_reducible refine (implVr_no r H.out _).mono ?_)
  rintro e w1 ⟨rfl, rfl⟩
  go_wp2_with fail
  go_ret
  exact ⟨rfl, (Below.refl _ _).alloc (Nat.le_refl _) _⟩
theorem valueOf_yes (x0 x1 x2 x3 r v : Int) (h : (r = 0 ∧ v = x0) ∨ (r = 1 ∧ v = x1) ∨ (r = 2 ∧ v = x2) ∨ (r = 3 ∧ v = x3)) (w : World) :
    Calls Try.prog 49 #[.agg #[.int .i64 x0, .int .i64 x1, .int .i64 x2, .int .i64 x3], .int .i64 r] w (Num v w) := by
  rcases h with ⟨rfl, rfl⟩ | ⟨rfl, rfl⟩ | ⟨rfl, rfl⟩ | ⟨rfl, rfl⟩
  all_goals
    go_enter Try.func49, Try.ntmps49
    go_wp2_with fail
    (with_reducible refine (implVr_yes _ (by unfold Vr; omega) _).mono ?_)
    rintro e w1 ⟨rfl, rfl⟩
    go_wp2_with fail
    go_ret
    exact ⟨rfl, (Below.refl _ _).alloc (Nat.le_refl _) _⟩
theorem implBps (r : Int) (w : World) :
    Calls Try.prog 86 #[.int .i64 r] w (Num (bps r) w) := by
  obtain ⟨v, hv⟩ : ∃ v, bps r = v := ⟨_, rfl⟩
  by_cases h : Vr r
  · have H := Lib.hid (show (r = 0 ∧ v = 4) ∨ (r = 1 ∧ v = 8) ∨ (r = 2 ∧ v = 12) ∨ (r = 3 ∧ v = 24) by rw [← hv]; rcases vr_cases h with rfl | rfl | rfl | rfl <;> simp [bps])
    rw [hv]
    clear h hv
    go_enter Try.func86, Try.ntmps86
    go_wp2_with fail
    (with_reducible refine (valueOf_yes 4 8 12 24 r v H.out _).mono ?_)
    rintro e w1 ⟨rfl, hb⟩
    have B := Lib.hid hb
    clear hb
    go_wp2_with fail
    go_ret
    exact ⟨rfl, B.out⟩
  · have H := Lib.hid h
    rw [bps_no h]
    clear h hv
    go_enter Try.func86, Try.ntmps86
    go_wp2_with fail
    (with_reducible refine (valueOf_no 4 8 12 24 r H.out _).mono ?_)
    rintro e w1 ⟨rfl, hb⟩
    have B := Lib.hid hb
    clear hb
    go_wp2_with fail
    go_ret
    exact ⟨rfl, B.out⟩
theorem specBps (r : Int) (w : World) :
    Calls Try.prog 124 #[.int .i64 r] w (Num (bps r) w) := by
  by_cases h : Vr r
  · rcases vr_cases h with rfl | rfl | rfl | rfl
    all_goals
      clear h
      go_enter Try.func124, Try.ntmps124
      go_wp2_with fail
      (with_reducible refine (specVr_yes _ (by unfold Vr; omega) _).mono ?_)
      rintro e w1 ⟨rfl, rfl⟩
      go_wp2_with fail
      go_ret
      exact ⟨rfl, (Below.refl _ _).alloc (Nat.le_refl _) _⟩
  · have H := Lib.hid h
    rw [bps_no h]
    clear h
    go_enter Try.func124, Try.ntmps124
    go_wp2_with fail
    (with_reducible refine (specVr_no r H.out _).mono ?_)
    rintro e w1 ⟨rfl, rfl⟩
    go_wp2_with fail
    go_ret
    exact ⟨rfl, Below.refl _ _⟩
theorem implReq (r : Int) (w : World) :
    Calls Try.prog 15 #[.int .i64 r] w (Num (req r) w) := by
  obtain ⟨v, hv⟩ : ∃ v, req r = v := ⟨_, rfl⟩
  by_cases h : Vr r
  · have H := Lib.hid (show (r = 0 ∧ v = 10) ∨ (r = 1 ∧ v = 30) ∨ (r = 2 ∧ v = 50) ∨ (r = 3 ∧ v = 80) by rw [← hv]; rcases vr_cases h with rfl | rfl | rfl | rfl <;> simp [req])
    rw [hv]
    clear h hv
    go_enter Try.func15, Try.ntmps15
    go_wp2_with fail
    (with_reducible refine (valueOf_yes 10 30 50 80 r v H.out _).mono ?_)
    rintro e w1 ⟨rfl, hb⟩
    have B := Lib.hid hb
    clear hb
    go_wp2_with fail
    go_ret
    exact ⟨rfl, B.out⟩
  · have H := Lib.hid h
    rw [req_no h]
    clear h hv
    go_enter Try.func15, Try.ntmps15
    go_wp2_with fail
    (with_reducible refine (valueOf_no 10 30 50 80 r H.out _).mono ?_)
    rintro e w1 ⟨rfl, hb⟩
    have B := Lib.hid hb
    clear hb
    go_wp2_with fail
    go_ret
    exact ⟨rfl, B.out⟩
theorem specReq (r : Int) (w : World) :
    Calls Try.prog 91 #[.int .i64 r] w (Num (req r) w) := by
  by_cases h : Vr r
  · rcases vr_cases h with rfl | rfl | rfl | rfl
    all_goals
      clear h
      go_enter Try.func91, Try.ntmps91
      go_wp2_with fail
      (with_reducible refine (specVr_yes _ (by unfold Vr; omega) _).mono ?_)
      rintro e w1 ⟨rfl, rfl⟩
      go_wp2_with fail
      go_ret
      exact ⟨rfl, (Below.refl _ _).alloc (Nat.le_refl _) _⟩
  · have H := Lib.hid h
    rw [req_no h]
    clear h
    go_enter Try.func91, Try.ntmps91
    go_wp2_with fail
    (with_reducible refine (specVr_no r H.out _).mono ?_)
    rintro e w1 ⟨rfl, rfl⟩
    go_wp2_with fail
    go_ret
    exact ⟨rfl, Below.refl _ _⟩
end Go.Proofs.Ytejjafmppihneaa.airs
