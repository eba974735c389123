/- IsValidFrame of the specification. Condition: none. -/
import Derived.Test.YtebbnopconbnlaaFbx
namespace Go.Proofs.Ytebbnopconbnlaa.fbx
open Go.RowKit sl harn rng frm
set_option linter.unusedVariables false

set_option maxRecDepth 100000 in
set_option maxHeartbeats 4000000 in
theorem specVf_a (k f t s g : Int) (m r : Bool) (d : Int) (A : Option Addr) (n cap : Nat) (z : List Int) (hz : z.length = n) (w : World) (h1 : 0 ≤ t ∧ t ≤ 15) (h2 : ¬ t = f) :
    Calls Try.prog 18 #[.agg #[.int .i64 k, .int .i64 f, .int .i64 t, .int .i64 s, .int .i64 g, .bool m, .bool r, .int .i64 d, .slice A n cap]] w (BPost (decide (Vf ⟨k, f, t, s, g, m, r, d, z⟩)) w) := by
  obtain ⟨v, hv⟩ : ∃ v, decide (Vf ⟨k, f, t, s, g, m, r, d, z⟩) = v := ⟨_, rfl⟩
  have VAL := Lib.hid hv
  have HV2 := Lib.hid (show (((1 ≤ k ∧ k ≤ 7) ∧ (0 ≤ f ∧ f ≤ 15) ∧ To k f t ∧ Nr s g d ∧ Bd k n) → v = true) ∧ (¬ ((1 ≤ k ∧ k ≤ 7) ∧ (0 ≤ f ∧ f ≤ 15) ∧ To k f t ∧ Nr s g d ∧ Bd k n) → v = false) from
    ⟨fun h => by rw [← hv]; exact decide_eq_true (show Vf _ by unfold Vf; rw [hz]; exact h), fun h => by rw [← hv]; exact decide_eq_false (show ¬ Vf _ by unfold Vf; rw [hz]; exact h)⟩)
  rw [hv]
  clear hv hz
  have HT := Lib.hid (decide_eq_true h1)
  have PTO := Lib.hid (show To k f t from .inl ⟨h1, h2⟩)
  have e1 : (t != f) = true := by simpa using h2
  clear h1 h2
  by_cases hh : 1 ≤ k ∧ k ≤ 7
  · have HK := Lib.hid (decide_eq_true hh)
    have PHK := Lib.hid hh
    clear hh
    by_cases hh : 0 ≤ f ∧ f ≤ 15
    · have HF := Lib.hid (decide_eq_true hh)
      have PHF := Lib.hid hh
      clear hh
      by_cases hh : 0 ≤ s ∧ s ≤ 4095
      · have HS := Lib.hid (decide_eq_true hh)
        have PHS := Lib.hid hh
        clear hh
        by_cases hh : 0 ≤ g ∧ g ≤ 15
        · have HG := Lib.hid (decide_eq_true hh)
          have PHG := Lib.hid hh
          clear hh
          by_cases hh : 0 ≤ d ∧ d ≤ 1000
          · have HD := Lib.hid (decide_eq_true hh)
            have PHD := Lib.hid hh
            clear hh
            by_cases h1 : n ≤ 100
            · have d1 : decide ((n : Int) ≤ 100) = true := decide_eq_true (by omega)
              by_cases h0 : n = 0
              · have d0 : ((n : Int) == 0) = true := by simpa using h0
                have E := Lib.hid (HV2.out.1 ⟨PHK.out, PHF.out, PTO.out, ⟨PHS.out, PHG.out, PHD.out⟩, by omega, .inl (by omega)⟩)
                clear HV2 VAL
                go_enter Try.func18, Try.ntmps18
                go_wp2_with (first
                  | (go_at_call 46; (with_reducible refine (l1R _ _ _ _ _ (by first | exact HT.out | exact HK.out | exact HF.out | exact HS.out | exact HG.out | exact HD.out)).mono ?_); rintro e w1 ⟨rfl, rfl⟩)
                  | (go_at_call 47; (with_reducible refine (specCtl _ _ _ HC.out).mono ?_); rintro e w1 ⟨rfl, rfl⟩))
                go_ret
                rw [E.out]
                exact ⟨rfl, below_box _ _⟩
              · have d0 : ((n : Int) == 0) = false := by simpa using h0
                by_cases hh : Ctl k
                · have HC := Lib.hid (decide_eq_true hh)
                  have PHC := Lib.hid hh
                  clear hh
                  have E := Lib.hid (HV2.out.2 fun h => h.2.2.2.2.2.elim h0 (fun g => g PHC.out))
                  clear HV2 VAL
                  go_enter Try.func18, Try.ntmps18
                  go_wp2_with (first
                    | (go_at_call 46; (with_reducible refine (l1R _ _ _ _ _ (by first | exact HT.out | exact HK.out | exact HF.out | exact HS.out | exact HG.out | exact HD.out)).mono ?_); rintro e w1 ⟨rfl, rfl⟩)
                    | (go_at_call 47; (with_reducible refine (specCtl _ _ _ HC.out).mono ?_); rintro e w1 ⟨rfl, rfl⟩))
                  go_ret
                  rw [E.out]
                  exact ⟨rfl, below_box _ _⟩
                · have HC := Lib.hid (decide_eq_false hh)
                  have PHC := Lib.hid hh
                  clear hh
                  have E := Lib.hid (HV2.out.1 ⟨PHK.out, PHF.out, PTO.out, ⟨PHS.out, PHG.out, PHD.out⟩, h1, .inr PHC.out⟩)
                  clear HV2 VAL
                  go_enter Try.func18, Try.ntmps18
                  go_wp2_with (first
                    | (go_at_call 46; (with_reducible refine (l1R _ _ _ _ _ (by first | exact HT.out | exact HK.out | exact HF.out | exact HS.out | exact HG.out | exact HD.out)).mono ?_); rintro e w1 ⟨rfl, rfl⟩)
                    | (go_at_call 47; (with_reducible refine (specCtl _ _ _ HC.out).mono ?_); rintro e w1 ⟨rfl, rfl⟩))
                  go_ret
                  rw [E.out]
                  exact ⟨rfl, below_box _ _⟩
            · have d1 : decide ((n : Int) ≤ 100) = false := decide_eq_false (by omega)
              have E := Lib.hid (HV2.out.2 fun h => h1 h.2.2.2.2.1)
              clear HV2 VAL
              go_enter Try.func18, Try.ntmps18
              go_wp2_with (first
                | (go_at_call 46; (with_reducible refine (l1R _ _ _ _ _ (by first | exact HT.out | exact HK.out | exact HF.out | exact HS.out | exact HG.out | exact HD.out)).mono ?_); rintro e w1 ⟨rfl, rfl⟩)
                | (go_at_call 47; (with_reducible refine (specCtl _ _ _ HC.out).mono ?_); rintro e w1 ⟨rfl, rfl⟩))
              go_ret
              rw [E.out]
              exact ⟨rfl, below_box _ _⟩
          · have HD := Lib.hid (decide_eq_false hh)
            have PHD := Lib.hid hh
            clear hh
            have E := Lib.hid (HV2.out.2 fun h => PHD.out h.2.2.2.1.2.2)
            clear HV2 VAL
            go_enter Try.func18, Try.ntmps18
            go_wp2_with (first
              | (go_at_call 46; (with_reducible refine (l1R _ _ _ _ _ (by first | exact HT.out | exact HK.out | exact HF.out | exact HS.out | exact HG.out | exact HD.out)).mono ?_); rintro e w1 ⟨rfl, rfl⟩)
              | (go_at_call 47; (with_reducible refine (specCtl _ _ _ HC.out).mono ?_); rintro e w1 ⟨rfl, rfl⟩))
            go_ret
            rw [E.out]
            exact ⟨rfl, below_box _ _⟩
        · have HG := Lib.hid (decide_eq_false hh)
          have PHG := Lib.hid hh
          clear hh
          have E := Lib.hid (HV2.out.2 fun h => PHG.out h.2.2.2.1.2.1)
          clear HV2 VAL
          go_enter Try.func18, Try.ntmps18
          go_wp2_with (first
            | (go_at_call 46; (with_reducible refine (l1R _ _ _ _ _ (by first | exact HT.out | exact HK.out | exact HF.out | exact HS.out | exact HG.out | exact HD.out)).mono ?_); rintro e w1 ⟨rfl, rfl⟩)
            | (go_at_call 47; (with_reducible refine (specCtl _ _ _ HC.out).mono ?_); rintro e w1 ⟨rfl, rfl⟩))
          go_ret
          rw [E.out]
          exact ⟨rfl, below_box _ _⟩
      · have HS := Lib.hid (decide_eq_false hh)
        have PHS := Lib.hid hh
        clear hh
        have E := Lib.hid (HV2.out.2 fun h => PHS.out h.2.2.2.1.1)
        clear HV2 VAL
        go_enter Try.func18, Try.ntmps18
        go_wp2_with (first
          | (go_at_call 46; (with_reducible refine (l1R _ _ _ _ _ (by first | exact HT.out | exact HK.out | exact HF.out | exact HS.out | exact HG.out | exact HD.out)).mono ?_); rintro e w1 ⟨rfl, rfl⟩)
          | (go_at_call 47; (with_reducible refine (specCtl _ _ _ HC.out).mono ?_); rintro e w1 ⟨rfl, rfl⟩))
        go_ret
        rw [E.out]
        exact ⟨rfl, below_box _ _⟩
    · have HF := Lib.hid (decide_eq_false hh)
      have PHF := Lib.hid hh
      clear hh
      have E := Lib.hid (HV2.out.2 fun h => PHF.out h.2.1)
      clear HV2 VAL
      go_enter Try.func18, Try.ntmps18
      go_wp2_with (first
        | (go_at_call 46; (with_reducible refine (l1R _ _ _ _ _ (by first | exact HT.out | exact HK.out | exact HF.out | exact HS.out | exact HG.out | exact HD.out)).mono ?_); rintro e w1 ⟨rfl, rfl⟩)
        | (go_at_call 47; (with_reducible refine (specCtl _ _ _ HC.out).mono ?_); rintro e w1 ⟨rfl, rfl⟩))
      go_ret
      rw [E.out]
      exact ⟨rfl, below_box _ _⟩
  · have HK := Lib.hid (decide_eq_false hh)
    have PHK := Lib.hid hh
    clear hh
    have E := Lib.hid (HV2.out.2 fun h => PHK.out h.1)
    clear HV2 VAL
    go_enter Try.func18, Try.ntmps18
    go_wp2_with (first
      | (go_at_call 46; (with_reducible refine (l1R _ _ _ _ _ (by first | exact HT.out | exact HK.out | exact HF.out | exact HS.out | exact HG.out | exact HD.out)).mono ?_); rintro e w1 ⟨rfl, rfl⟩)
      | (go_at_call 47; (with_reducible refine (specCtl _ _ _ HC.out).mono ?_); rintro e w1 ⟨rfl, rfl⟩))
    go_ret
    rw [E.out]
    exact ⟨rfl, below_box _ _⟩
set_option maxRecDepth 100000 in
set_option maxHeartbeats 4000000 in
theorem specVf_b (k f t s g : Int) (m r : Bool) (d : Int) (A : Option Addr) (n cap : Nat) (z : List Int) (hz : z.length = n) (w : World) (h1 : 0 ≤ t ∧ t ≤ 15) (h2 : t = f) :
    Calls Try.prog 18 #[.agg #[.int .i64 k, .int .i64 f, .int .i64 t, .int .i64 s, .int .i64 g, .bool m, .bool r, .int .i64 d, .slice A n cap]] w (BPost (decide (Vf ⟨k, f, t, s, g, m, r, d, z⟩)) w) := by
  obtain ⟨v, hv⟩ : ∃ v, decide (Vf ⟨k, f, t, s, g, m, r, d, z⟩) = v := ⟨_, rfl⟩
  have VAL := Lib.hid hv
  have HV2 := Lib.hid (show (((1 ≤ k ∧ k ≤ 7) ∧ (0 ≤ f ∧ f ≤ 15) ∧ To k f t ∧ Nr s g d ∧ Bd k n) → v = true) ∧ (¬ ((1 ≤ k ∧ k ≤ 7) ∧ (0 ≤ f ∧ f ≤ 15) ∧ To k f t ∧ Nr s g d ∧ Bd k n) → v = false) from
    ⟨fun h => by rw [← hv]; exact decide_eq_true (show Vf _ by unfold Vf; rw [hz]; exact h), fun h => by rw [← hv]; exact decide_eq_false (show ¬ Vf _ by unfold Vf; rw [hz]; exact h)⟩)
  rw [hv]
  clear hv hz
  have HT := Lib.hid (decide_eq_true h1)
  have PTO := Lib.hid (show ¬ To k f t from fun h => h.elim (fun h => h.2 h2) (fun h => by omega))
  have e1 : (t != f) = false := by simpa using h2
  have e2 : (t == 63) = false := by simp; omega
  clear h1 h2
  by_cases hh : 1 ≤ k ∧ k ≤ 7
  · have HK := Lib.hid (decide_eq_true hh)
    have PHK := Lib.hid hh
    clear hh
    by_cases hh : 0 ≤ f ∧ f ≤ 15
    · have HF := Lib.hid (decide_eq_true hh)
      have PHF := Lib.hid hh
      clear hh
      have E := Lib.hid (HV2.out.2 fun h => PTO.out h.2.2.1)
      clear HV2 VAL
      go_enter Try.func18, Try.ntmps18
      go_wp2_with (first
        | (go_at_call 46; (with_reducible refine (l1R _ _ _ _ _ (by first | exact HT.out | exact HK.out | exact HF.out | exact HS.out | exact HG.out | exact HD.out)).mono ?_); rintro e w1 ⟨rfl, rfl⟩)
        | (go_at_call 47; (with_reducible refine (specCtl _ _ _ HC.out).mono ?_); rintro e w1 ⟨rfl, rfl⟩))
      go_ret
      rw [E.out]
      exact ⟨rfl, below_box _ _⟩
    · have HF := Lib.hid (decide_eq_false hh)
      have PHF := Lib.hid hh
      clear hh
      have E := Lib.hid (HV2.out.2 fun h => PHF.out h.2.1)
      clear HV2 VAL
      go_enter Try.func18, Try.ntmps18
      go_wp2_with (first
        | (go_at_call 46; (with_reducible refine (l1R _ _ _ _ _ (by first | exact HT.out | exact HK.out | exact HF.out | exact HS.out | exact HG.out | exact HD.out)).mono ?_); rintro e w1 ⟨rfl, rfl⟩)
        | (go_at_call 47; (with_reducible refine (specCtl _ _ _ HC.out).mono ?_); rintro e w1 ⟨rfl, rfl⟩))
      go_ret
      rw [E.out]
      exact ⟨rfl, below_box _ _⟩
  · have HK := Lib.hid (decide_eq_false hh)
    have PHK := Lib.hid hh
    clear hh
    have E := Lib.hid (HV2.out.2 fun h => PHK.out h.1)
    clear HV2 VAL
    go_enter Try.func18, Try.ntmps18
    go_wp2_with (first
      | (go_at_call 46; (with_reducible refine (l1R _ _ _ _ _ (by first | exact HT.out | exact HK.out | exact HF.out | exact HS.out | exact HG.out | exact HD.out)).mono ?_); rintro e w1 ⟨rfl, rfl⟩)
      | (go_at_call 47; (with_reducible refine (specCtl _ _ _ HC.out).mono ?_); rintro e w1 ⟨rfl, rfl⟩))
    go_ret
    rw [E.out]
    exact ⟨rfl, below_box _ _⟩
set_option maxRecDepth 100000 in
set_option maxHeartbeats 4000000 in
theorem specVf_c (k f t s g : Int) (m r : Bool) (d : Int) (A : Option Addr) (n cap : Nat) (z : List Int) (hz : z.length = n) (w : World) (h1 : t = 63) (h2 : Ctl k) :
    Calls Try.prog 18 #[.agg #[.int .i64 k, .int .i64 f, .int .i64 t, .int .i64 s, .int .i64 g, .bool m, .bool r, .int .i64 d, .slice A n cap]] w (BPost (decide (Vf ⟨k, f, t, s, g, m, r, d, z⟩)) w) := by
  obtain ⟨v, hv⟩ : ∃ v, decide (Vf ⟨k, f, t, s, g, m, r, d, z⟩) = v := ⟨_, rfl⟩
  have VAL := Lib.hid hv
  have HV2 := Lib.hid (show (((1 ≤ k ∧ k ≤ 7) ∧ (0 ≤ f ∧ f ≤ 15) ∧ To k f t ∧ Nr s g d ∧ Bd k n) → v = true) ∧ (¬ ((1 ≤ k ∧ k ≤ 7) ∧ (0 ≤ f ∧ f ≤ 15) ∧ To k f t ∧ Nr s g d ∧ Bd k n) → v = false) from
    ⟨fun h => by rw [← hv]; exact decide_eq_true (show Vf _ by unfold Vf; rw [hz]; exact h), fun h => by rw [← hv]; exact decide_eq_false (show ¬ Vf _ by unfold Vf; rw [hz]; exact h)⟩)
  rw [hv]
  clear hv hz
  have HT := Lib.hid (decide_eq_false (show ¬ (0 ≤ t ∧ t ≤ 15) by omega))
  have PTO := Lib.hid (show ¬ To k f t from fun h => h.elim (fun h => by omega) (fun h => h.2 h2))
  have HC := Lib.hid (decide_eq_true h2)
  have e2 : (t == 63) = true := by simpa using h1
  clear h1 h2
  by_cases hh : 1 ≤ k ∧ k ≤ 7
  · have HK := Lib.hid (decide_eq_true hh)
    have PHK := Lib.hid hh
    clear hh
    by_cases hh : 0 ≤ f ∧ f ≤ 15
    · have HF := Lib.hid (decide_eq_true hh)
      have PHF := Lib.hid hh
      clear hh
      have E := Lib.hid (HV2.out.2 fun h => PTO.out h.2.2.1)
      clear HV2 VAL
      go_enter Try.func18, Try.ntmps18
      go_wp2_with (first
        | (go_at_call 46; (with_reducible refine (l1R _ _ _ _ _ (by first | exact HT.out | exact HK.out | exact HF.out | exact HS.out | exact HG.out | exact HD.out)).mono ?_); rintro e w1 ⟨rfl, rfl⟩)
        | (go_at_call 47; (with_reducible refine (specCtl _ _ _ HC.out).mono ?_); rintro e w1 ⟨rfl, rfl⟩))
      go_ret
      rw [E.out]
      exact ⟨rfl, below_box _ _⟩
    · have HF := Lib.hid (decide_eq_false hh)
      have PHF := Lib.hid hh
      clear hh
      have E := Lib.hid (HV2.out.2 fun h => PHF.out h.2.1)
      clear HV2 VAL
      go_enter Try.func18, Try.ntmps18
      go_wp2_with (first
        | (go_at_call 46; (with_reducible refine (l1R _ _ _ _ _ (by first | exact HT.out | exact HK.out | exact HF.out | exact HS.out | exact HG.out | exact HD.out)).mono ?_); rintro e w1 ⟨rfl, rfl⟩)
        | (go_at_call 47; (with_reducible refine (specCtl _ _ _ HC.out).mono ?_); rintro e w1 ⟨rfl, rfl⟩))
      go_ret
      rw [E.out]
      exact ⟨rfl, below_box _ _⟩
  · have HK := Lib.hid (decide_eq_false hh)
    have PHK := Lib.hid hh
    clear hh
    have E := Lib.hid (HV2.out.2 fun h => PHK.out h.1)
    clear HV2 VAL
    go_enter Try.func18, Try.ntmps18
    go_wp2_with (first
      | (go_at_call 46; (with_reducible refine (l1R _ _ _ _ _ (by first | exact HT.out | exact HK.out | exact HF.out | exact HS.out | exact HG.out | exact HD.out)).mono ?_); rintro e w1 ⟨rfl, rfl⟩)
      | (go_at_call 47; (with_reducible refine (specCtl _ _ _ HC.out).mono ?_); rintro e w1 ⟨rfl, rfl⟩))
    go_ret
    rw [E.out]
    exact ⟨rfl, below_box _ _⟩
set_option maxRecDepth 100000 in
set_option maxHeartbeats 4000000 in
theorem specVf_d (k f t s g : Int) (m r : Bool) (d : Int) (A : Option Addr) (n cap : Nat) (z : List Int) (hz : z.length = n) (w : World) (h1 : t = 63) (h2 : ¬ Ctl k) :
    Calls Try.prog 18 #[.agg #[.int .i64 k, .int .i64 f, .int .i64 t, .int .i64 s, .int .i64 g, .bool m, .bool r, .int .i64 d, .slice A n cap]] w (BPost (decide (Vf ⟨k, f, t, s, g, m, r, d, z⟩)) w) := by
  obtain ⟨v, hv⟩ : ∃ v, decide (Vf ⟨k, f, t, s, g, m, r, d, z⟩) = v := ⟨_, rfl⟩
  have VAL := Lib.hid hv
  have HV2 := Lib.hid (show (((1 ≤ k ∧ k ≤ 7) ∧ (0 ≤ f ∧ f ≤ 15) ∧ To k f t ∧ Nr s g d ∧ Bd k n) → v = true) ∧ (¬ ((1 ≤ k ∧ k ≤ 7) ∧ (0 ≤ f ∧ f ≤ 15) ∧ To k f t ∧ Nr s g d ∧ Bd k n) → v = false) from
    ⟨fun h => by rw [← hv]; exact decide_eq_true (show Vf _ by unfold Vf; rw [hz]; exact h), fun h => by rw [← hv]; exact decide_eq_false (show ¬ Vf _ by unfold Vf; rw [hz]; exact h)⟩)
  rw [hv]
  clear hv hz
  have HT := Lib.hid (decide_eq_false (show ¬ (0 ≤ t ∧ t ≤ 15) by omega))
  have PTO := Lib.hid (show To k f t from .inr ⟨h1, h2⟩)
  have HC := Lib.hid (decide_eq_false h2)
  have e2 : (t == 63) = true := by simpa using h1
  clear h1 h2
  by_cases hh : 1 ≤ k ∧ k ≤ 7
  · have HK := Lib.hid (decide_eq_true hh)
    have PHK := Lib.hid hh
    clear hh
    by_cases hh : 0 ≤ f ∧ f ≤ 15
    · have HF := Lib.hid (decide_eq_true hh)
      have PHF := Lib.hid hh
      clear hh
      by_cases hh : 0 ≤ s ∧ s ≤ 4095
      · have HS := Lib.hid (decide_eq_true hh)
        have PHS := Lib.hid hh
        clear hh
        by_cases hh : 0 ≤ g ∧ g ≤ 15
        · have HG := Lib.hid (decide_eq_true hh)
          have PHG := Lib.hid hh
          clear hh
          by_cases hh : 0 ≤ d ∧ d ≤ 1000
          · have HD := Lib.hid (decide_eq_true hh)
            have PHD := Lib.hid hh
            clear hh
            have PB := Lib.hid (show n = 0 ∨ ¬ Ctl k from .inr (of_decide_eq_false HC.out))
            by_cases h1 : n ≤ 100
            · have d1 : decide ((n : Int) ≤ 100) = true := decide_eq_true (by omega)
              by_cases h0 : n = 0
              · have d0 : ((n : Int) == 0) = true := by simpa using h0
                have E := Lib.hid (HV2.out.1 ⟨PHK.out, PHF.out, PTO.out, ⟨PHS.out, PHG.out, PHD.out⟩, h1, PB.out⟩)
                clear HV2 VAL
                go_enter Try.func18, Try.ntmps18
                go_wp2_with (first
                  | (go_at_call 46; (with_reducible refine (l1R _ _ _ _ _ (by first | exact HT.out | exact HK.out | exact HF.out | exact HS.out | exact HG.out | exact HD.out)).mono ?_); rintro e w1 ⟨rfl, rfl⟩)
                  | (go_at_call 47; (with_reducible refine (specCtl _ _ _ HC.out).mono ?_); rintro e w1 ⟨rfl, rfl⟩))
                go_ret
                rw [E.out]
                exact ⟨rfl, below_box _ _⟩
              · have d0 : ((n : Int) == 0) = false := by simpa using h0
                have E := Lib.hid (HV2.out.1 ⟨PHK.out, PHF.out, PTO.out, ⟨PHS.out, PHG.out, PHD.out⟩, h1, PB.out⟩)
                clear HV2 VAL
                go_enter Try.func18, Try.ntmps18
                go_wp2_with (first
                  | (go_at_call 46; (with_reducible refine (l1R _ _ _ _ _ (by first | exact HT.out | exact HK.out | exact HF.out | exact HS.out | exact HG.out | exact HD.out)).mono ?_); rintro e w1 ⟨rfl, rfl⟩)
                  | (go_at_call 47; (with_reducible refine (specCtl _ _ _ HC.out).mono ?_); rintro e w1 ⟨rfl, rfl⟩))
                go_ret
                rw [E.out]
                exact ⟨rfl, below_box _ _⟩
            · have d1 : decide ((n : Int) ≤ 100) = false := decide_eq_false (by omega)
              have E := Lib.hid (HV2.out.2 fun h => h1 h.2.2.2.2.1)
              clear HV2 VAL
              go_enter Try.func18, Try.ntmps18
              go_wp2_with (first
                | (go_at_call 46; (with_reducible refine (l1R _ _ _ _ _ (by first | exact HT.out | exact HK.out | exact HF.out | exact HS.out | exact HG.out | exact HD.out)).mono ?_); rintro e w1 ⟨rfl, rfl⟩)
                | (go_at_call 47; (with_reducible refine (specCtl _ _ _ HC.out).mono ?_); rintro e w1 ⟨rfl, rfl⟩))
              go_ret
              rw [E.out]
              exact ⟨rfl, below_box _ _⟩
          · have HD := Lib.hid (decide_eq_false hh)
            have PHD := Lib.hid hh
            clear hh
            have E := Lib.hid (HV2.out.2 fun h => PHD.out h.2.2.2.1.2.2)
            clear HV2 VAL
            go_enter Try.func18, Try.ntmps18
            go_wp2_with (first
              | (go_at_call 46; (with_reducible refine (l1R _ _ _ _ _ (by first | exact HT.out | exact HK.out | exact HF.out | exact HS.out | exact HG.out | exact HD.out)).mono ?_); rintro e w1 ⟨rfl, rfl⟩)
              | (go_at_call 47; (with_reducible refine (specCtl _ _ _ HC.out).mono ?_); rintro e w1 ⟨rfl, rfl⟩))
            go_ret
            rw [E.out]
            exact ⟨rfl, below_box _ _⟩
        · have HG := Lib.hid (decide_eq_false hh)
          have PHG := Lib.hid hh
          clear hh
          have E := Lib.hid (HV2.out.2 fun h => PHG.out h.2.2.2.1.2.1)
          clear HV2 VAL
          go_enter Try.func18, Try.ntmps18
          go_wp2_with (first
            | (go_at_call 46; (with_reducible refine (l1R _ _ _ _ _ (by first | exact HT.out | exact HK.out | exact HF.out | exact HS.out | exact HG.out | exact HD.out)).mono ?_); rintro e w1 ⟨rfl, rfl⟩)
            | (go_at_call 47; (with_reducible refine (specCtl _ _ _ HC.out).mono ?_); rintro e w1 ⟨rfl, rfl⟩))
          go_ret
          rw [E.out]
          exact ⟨rfl, below_box _ _⟩
      · have HS := Lib.hid (decide_eq_false hh)
        have PHS := Lib.hid hh
        clear hh
        have E := Lib.hid (HV2.out.2 fun h => PHS.out h.2.2.2.1.1)
        clear HV2 VAL
        go_enter Try.func18, Try.ntmps18
        go_wp2_with (first
          | (go_at_call 46; (with_reducible refine (l1R _ _ _ _ _ (by first | exact HT.out | exact HK.out | exact HF.out | exact HS.out | exact HG.out | exact HD.out)).mono ?_); rintro e w1 ⟨rfl, rfl⟩)
          | (go_at_call 47; (with_reducible refine (specCtl _ _ _ HC.out).mono ?_); rintro e w1 ⟨rfl, rfl⟩))
        go_ret
        rw [E.out]
        exact ⟨rfl, below_box _ _⟩
    · have HF := Lib.hid (decide_eq_false hh)
      have PHF := Lib.hid hh
      clear hh
      have E := Lib.hid (HV2.out.2 fun h => PHF.out h.2.1)
      clear HV2 VAL
      go_enter Try.func18, Try.ntmps18
      go_wp2_with (first
        | (go_at_call 46; (with_reducible refine (l1R _ _ _ _ _ (by first | exact HT.out | exact HK.out | exact HF.out | exact HS.out | exact HG.out | exact HD.out)).mono ?_); rintro e w1 ⟨rfl, rfl⟩)
        | (go_at_call 47; (with_reducible refine (specCtl _ _ _ HC.out).mono ?_); rintro e w1 ⟨rfl, rfl⟩))
      go_ret
      rw [E.out]
      exact ⟨rfl, below_box _ _⟩
  · have HK := Lib.hid (decide_eq_false hh)
    have PHK := Lib.hid hh
    clear hh
    have E := Lib.hid (HV2.out.2 fun h => PHK.out h.1)
    clear HV2 VAL
    go_enter Try.func18, Try.ntmps18
    go_wp2_with (first
      | (go_at_call 46; (with_reducible refine (l1R _ _ _ _ _ (by first | exact HT.out | exact HK.out | exact HF.out | exact HS.out | exact HG.out | exact HD.out)).mono ?_); rintro e w1 ⟨rfl, rfl⟩)
      | (go_at_call 47; (with_reducible refine (specCtl _ _ _ HC.out).mono ?_); rintro e w1 ⟨rfl, rfl⟩))
    go_ret
    rw [E.out]
    exact ⟨rfl, below_box _ _⟩
set_option maxRecDepth 100000 in
set_option maxHeartbeats 4000000 in
theorem specVf_e (k f t s g : Int) (m r : Bool) (d : Int) (A : Option Addr) (n cap : Nat) (z : List Int) (hz : z.length = n) (w : World) (h1 : ¬ (0 ≤ t ∧ t ≤ 15)) (h2 : ¬ t = 63) :
    Calls Try.prog 18 #[.agg #[.int .i64 k, .int .i64 f, .int .i64 t, .int .i64 s, .int .i64 g, .bool m, .bool r, .int .i64 d, .slice A n cap]] w (BPost (decide (Vf ⟨k, f, t, s, g, m, r, d, z⟩)) w) := by
  obtain ⟨v, hv⟩ : ∃ v, decide (Vf ⟨k, f, t, s, g, m, r, d, z⟩) = v := ⟨_, rfl⟩
  have VAL := Lib.hid hv
  have HV2 := Lib.hid (show (((1 ≤ k ∧ k ≤ 7) ∧ (0 ≤ f ∧ f ≤ 15) ∧ To k f t ∧ Nr s g d ∧ Bd k n) → v = true) ∧ (¬ ((1 ≤ k ∧ k ≤ 7) ∧ (0 ≤ f ∧ f ≤ 15) ∧ To k f t ∧ Nr s g d ∧ Bd k n) → v = false) from
    ⟨fun h => by rw [← hv]; exact decide_eq_true (show Vf _ by unfold Vf; rw [hz]; exact h), fun h => by rw [← hv]; exact decide_eq_false (show ¬ Vf _ by unfold Vf; rw [hz]; exact h)⟩)
  rw [hv]
  clear hv hz
  have HT := Lib.hid (decide_eq_false h1)
  have PTO := Lib.hid (show ¬ To k f t from fun h => h.elim (fun h => h1 h.1) (fun h => h2 h.1))
  have e2 : (t == 63) = false := by simpa using h2
  clear h1 h2
  by_cases hh : 1 ≤ k ∧ k ≤ 7
  · have HK := Lib.hid (decide_eq_true hh)
    have PHK := Lib.hid hh
    clear hh
    by_cases hh : 0 ≤ f ∧ f ≤ 15
    · have HF := Lib.hid (decide_eq_true hh)
      have PHF := Lib.hid hh
      clear hh
      have E := Lib.hid (HV2.out.2 fun h => PTO.out h.2.2.1)
      clear HV2 VAL
      go_enter Try.func18, Try.ntmps18
      go_wp2_with (first
        | (go_at_call 46; (with_reducible refine (l1R _ _ _ _ _ (by first | exact HT.out | exact HK.out | exact HF.out | exact HS.out | exact HG.out | exact HD.out)).mono ?_); rintro e w1 ⟨rfl, rfl⟩)
        | (go_at_call 47; (with_reducible refine (specCtl _ _ _ HC.out).mono ?_); rintro e w1 ⟨rfl, rfl⟩))
      go_ret
      rw [E.out]
      exact ⟨rfl, below_box _ _⟩
    · have HF := Lib.hid (decide_eq_false hh)
      have PHF := Lib.hid hh
      clear hh
      have E := Lib.hid (HV2.out.2 fun h => PHF.out h.2.1)
      clear HV2 VAL
      go_enter Try.func18, Try.ntmps18
      go_wp2_with (first
        | (go_at_call 46; (with_reducible refine (l1R _ _ _ _ _ (by first | exact HT.out | exact HK.out | exact HF.out | exact HS.out | exact HG.out | exact HD.out)).mono ?_); rintro e w1 ⟨rfl, rfl⟩)
        | (go_at_call 47; (with_reducible refine (specCtl _ _ _ HC.out).mono ?_); rintro e w1 ⟨rfl, rfl⟩))
      go_ret
      rw [E.out]
      exact ⟨rfl, below_box _ _⟩
  · have HK := Lib.hid (decide_eq_false hh)
    have PHK := Lib.hid hh
    clear hh
    have E := Lib.hid (HV2.out.2 fun h => PHK.out h.1)
    clear HV2 VAL
    go_enter Try.func18, Try.ntmps18
    go_wp2_with (first
      | (go_at_call 46; (with_reducible refine (l1R _ _ _ _ _ (by first | exact HT.out | exact HK.out | exact HF.out | exact HS.out | exact HG.out | exact HD.out)).mono ?_); rintro e w1 ⟨rfl, rfl⟩)
      | (go_at_call 47; (with_reducible refine (specCtl _ _ _ HC.out).mono ?_); rintro e w1 ⟨rfl, rfl⟩))
    go_ret
    rw [E.out]
    exact ⟨rfl, below_box _ _⟩
theorem specVf (k f t s g : Int) (m r : Bool) (d : Int) (A : Option Addr) (n cap : Nat) (z : List Int) (hz : z.length = n) (w : World) :
    Calls Try.prog 18 #[.agg #[.int .i64 k, .int .i64 f, .int .i64 t, .int .i64 s, .int .i64 g, .bool m, .bool r, .int .i64 d, .slice A n cap]] w (BPost (decide (Vf ⟨k, f, t, s, g, m, r, d, z⟩)) w) := by
  by_cases h1 : 0 ≤ t ∧ t ≤ 15
  · by_cases h2 : t = f
    · exact specVf_b k f t s g m r d A n cap z hz w h1 h2
    · exact specVf_a k f t s g m r d A n cap z hz w h1 h2
  · by_cases h2 : t = 63
    · by_cases h3 : Ctl k
      · exact specVf_c k f t s g m r d A n cap z hz w h2 h3
      · exact specVf_d k f t s g m r d A n cap z hz w h2 h3
    · exact specVf_e k f t s g m r d A n cap z hz w h1 h2
end Go.Proofs.Ytebbnopconbnlaa.fbx
