/- Windows, valid parameters, the window after a failure: program and specification. Condition: none. -/
import Derived.Test.YtkfkfejjhfkobaaDoorBox
import Derived.Test.YtkfkfejjhfkobaaDoorAcm
namespace Go.Proofs.YtkfkfejjhfkobaaDoor.bx
open Go.RowKit sl harn rng acm
set_option linter.unusedVariables false

theorem implWin (n : Int) (v : Bool) (hv : win n = v) (w : World) :
    Calls Tryd.prog 34 #[.int .i64 n] w fun e w' => e = .returned (.bool v) ∧ w = w' := by
  by_cases hr : 1 ≤ n ∧ n ≤ 1023
  · obtain ⟨h0, h1⟩ := hr
    obtain ⟨g, hg⟩ : ∃ g, bits .and .i64 n (n + 1) = g := ⟨_, rfl⟩
    have HV := Lib.hid (show (g == 0) = v by rw [← hv, win, hg, decide_eq_true (show 1 ≤ n ∧ n ≤ 1023 from ⟨h0, h1⟩)]; rfl)
    clear hv
    go_enter Tryd.func34, Tryd.ntmps34
    go_wp2_with fail
    (with_reducible refine (inR n 1 1023 true _ (decide_eq_true ⟨h0, h1⟩)).mono ?_)
    rintro e w1 ⟨rfl, rfl⟩
    cases v with
    | true =>
      have hz : (g == 0) = true := HV.out
      have hz1 : g = 0 := by simpa using hz
      subst hz1
      clear hz HV
      go_wp2_with fail
      go_ret
      exact ⟨rfl, rfl⟩
    | false =>
      have hz : (g == 0) = false := HV.out
      go_wp2_with fail
      go_ret
      exact ⟨rfl, rfl⟩
  · have HV := Lib.hid (show v = false by rw [← hv, win, decide_eq_false hr]; rfl)
    rw [HV.out]
    go_enter Tryd.func34, Tryd.ntmps34
    go_wp2_with fail
    (with_reducible refine (inR n 1 1023 false _ (decide_eq_false hr)).mono ?_)
    rintro e w1 ⟨rfl, rfl⟩
    go_wp2_with fail
    go_ret
    exact ⟨rfl, rfl⟩
theorem specWin (n : Int) (v : Bool) (hv : win n = v) (w : World) :
    Calls Tryd.prog 39 #[.int .i64 n] w fun e w' => e = .returned (.bool v) ∧ w = w' := by
  by_cases hr : 1 ≤ n ∧ n ≤ 1023
  · obtain ⟨h0, h1⟩ := hr
    obtain ⟨g, hg⟩ : ∃ g, bits .and .i64 n (n + 1) = g := ⟨_, rfl⟩
    have HV := Lib.hid (show (g == 0) = v by rw [← hv, win, hg, decide_eq_true (show 1 ≤ n ∧ n ≤ 1023 from ⟨h0, h1⟩)]; rfl)
    clear hv
    go_enter Tryd.func39, Tryd.ntmps39
    go_wp2_with fail
    (with_reducible refine (l1R n 1 1023 true _ (decide_eq_true ⟨h0, h1⟩)).mono ?_)
    rintro e w1 ⟨rfl, rfl⟩
    cases v with
    | true =>
      have hz : (g == 0) = true := HV.out
      have hz1 : g = 0 := by simpa using hz
      subst hz1
      clear hz HV
      go_wp2_with fail
      go_ret
      exact ⟨rfl, rfl⟩
    | false =>
      have hz : (g == 0) = false := HV.out
      go_wp2_with fail
      go_ret
      exact ⟨rfl, rfl⟩
  · have HV := Lib.hid (show v = false by rw [← hv, win, decide_eq_false hr]; rfl)
    rw [HV.out]
    go_enter Tryd.func39, Tryd.ntmps39
    go_wp2_with fail
    (with_reducible refine (l1R n 1 1023 false _ (decide_eq_false hr)).mono ?_)
    rintro e w1 ⟨rfl, rfl⟩
    go_wp2_with fail
    go_ret
    exact ⟨rfl, rfl⟩
set_option maxHeartbeats 2000000 in
theorem specVp (a b c d : Int) (w : World) :
    Calls Tryd.prog 26 #[.agg #[.int .i64 a, .int .i64 b, .int .i64 c, .int .i64 d]] w (BPost (vp a b c d) w) := by
  obtain ⟨v1, h1⟩ : ∃ v, decide (1 ≤ a ∧ a ≤ 15) = v := ⟨_, rfl⟩
  obtain ⟨v2, h2⟩ : ∃ v, win b = v := ⟨_, rfl⟩
  obtain ⟨v3, h3⟩ : ∃ v, win c = v := ⟨_, rfl⟩
  obtain ⟨v4, h4⟩ : ∃ v, decide (b ≤ c) = v := ⟨_, rfl⟩
  obtain ⟨v5, h5⟩ : ∃ v, decide (1 ≤ d ∧ d ≤ 1000) = v := ⟨_, rfl⟩
  have HV := Lib.hid (show vp a b c d = (v1 && v2 && v3 && v4 && v5) by unfold vp; rw [h1, h2, h3, h4, h5])
  have H1 := Lib.hid h1
  have H2 := Lib.hid h2
  have H3 := Lib.hid h3
  have H4 := Lib.hid h4
  have H5 := Lib.hid h5
  clear h1 h2 h3 h4 h5
  go_enter Tryd.func26, Tryd.ntmps26
  go_wp2_with fail
  (with_reducible refine (l1R a 1 15 v1 _ H1.out).mono ?_)
  rintro e w1 ⟨rfl, rfl⟩
  cases v1 with
  | true =>
    go_wp2_with fail
    (with_reducible refine (specWin b v2 H2.out _).mono ?_)
    rintro e w1 ⟨rfl, rfl⟩
    cases v2 with
    | true =>
      go_wp2_with fail
      (with_reducible refine (specWin c v3 H3.out _).mono ?_)
      rintro e w1 ⟨rfl, rfl⟩
      cases v3 with
      | true =>
        cases v4 with
        | true =>
          have hq : b ≤ c := of_decide_eq_true H4.out
          go_wp2_with fail
          (with_reducible refine (l1R d 1 1000 v5 _ H5.out).mono ?_)
          rintro e w1 ⟨rfl, rfl⟩
          cases v5 with
          | true =>
            go_wp2_with fail
            go_ret
            rw [HV.out]
            exact ⟨by simp <;> omega, below_box _ _⟩
          | false =>
            go_wp2_with fail
            go_ret
            rw [HV.out]
            exact ⟨by simp <;> omega, below_box _ _⟩
        | false =>
          have hq : ¬ b ≤ c := of_decide_eq_false H4.out
          go_wp2_with fail
          go_ret
          rw [HV.out]
          exact ⟨by simp <;> omega, below_box _ _⟩
      | false =>
        go_wp2_with fail
        go_ret
        rw [HV.out]
        exact ⟨by simp <;> omega, below_box _ _⟩
    | false =>
      go_wp2_with fail
      go_ret
      rw [HV.out]
      exact ⟨by simp <;> omega, below_box _ _⟩
  | false =>
    go_wp2_with fail
    go_ret
    rw [HV.out]
    exact ⟨by simp <;> omega, below_box _ _⟩
set_option maxHeartbeats 2000000 in
theorem implVp (a b c d : Int) (w : World) :
    Calls Tryd.prog 20 #[.agg #[.int .i64 a, .int .i64 b, .int .i64 c, .int .i64 d]] w (BPost (vp a b c d) w) := by
  obtain ⟨v1, h1⟩ : ∃ v, decide (1 ≤ a ∧ a ≤ 15) = v := ⟨_, rfl⟩
  obtain ⟨v2, h2⟩ : ∃ v, win b = v := ⟨_, rfl⟩
  obtain ⟨v3, h3⟩ : ∃ v, win c = v := ⟨_, rfl⟩
  obtain ⟨v4, h4⟩ : ∃ v, decide (b ≤ c) = v := ⟨_, rfl⟩
  obtain ⟨v5, h5⟩ : ∃ v, decide (1 ≤ d ∧ d ≤ 1000) = v := ⟨_, rfl⟩
  have HV := Lib.hid (show vp a b c d = (v1 && v2 && v3 && v4 && v5) by unfold vp; rw [h1, h2, h3, h4, h5])
  have H1 := Lib.hid h1
  have H2 := Lib.hid h2
  have H3 := Lib.hid h3
  have H4 := Lib.hid h4
  have H5 := Lib.hid h5
  clear h1 h2 h3 h4 h5
  go_enter Tryd.func20, Tryd.ntmps20
  go_wp2_with fail
  (with_reducible refine (inR a 1 15 v1 _ H1.out).mono ?_)
  rintro e w1 ⟨rfl, rfl⟩
  cases v1 with
  | true =>
    go_wp2_with fail
    (with_reducible refine (inR d 1 1000 v5 _ H5.out).mono ?_)
    rintro e w1 ⟨rfl, rfl⟩
    cases v5 with
    | true =>
      go_wp2_with fail
      (with_reducible refine (implWin b v2 H2.out _).mono ?_)
      rintro e w1 ⟨rfl, rfl⟩
      cases v2 with
      | true =>
        go_wp2_with fail
        (with_reducible refine (implWin c v3 H3.out _).mono ?_)
        rintro e w1 ⟨rfl, rfl⟩
        cases v3 with
        | true =>
          cases v4 with
          | true =>
            have hq : b ≤ c := of_decide_eq_true H4.out
            go_wp2_with fail
            go_ret
            rw [HV.out]
            exact ⟨by simp <;> omega, below_box _ _⟩
          | false =>
            have hq : ¬ b ≤ c := of_decide_eq_false H4.out
            go_wp2_with fail
            go_ret
            rw [HV.out]
            exact ⟨by simp <;> omega, below_box _ _⟩
        | false =>
          go_wp2_with fail
          go_ret
          rw [HV.out]
          exact ⟨by simp <;> omega, below_box _ _⟩
      | false =>
        go_wp2_with fail
        go_ret
        rw [HV.out]
        exact ⟨by simp <;> omega, below_box _ _⟩
    | false =>
      go_wp2_with fail
      go_ret
      rw [HV.out]
      exact ⟨by simp <;> omega, below_box _ _⟩
  | false =>
    go_wp2_with fail
    go_ret
    rw [HV.out]
    exact ⟨by simp <;> omega, below_box _ _⟩
theorem mn_flip (x y : Int) : mn x y = if x < y then x else y := by unfold mn; split <;> split <;> omega
set_option maxHeartbeats 2000000 in
theorem specNw (a b c d x : Int) (w : World) :
    Calls Tryd.prog 40 #[.agg #[.int .i64 a, .int .i64 b, .int .i64 c, .int .i64 d], .int .i64 x] w (NPost (nw a b c d x) w) := by
  obtain ⟨v, hv⟩ : ∃ v, vp a b c d = v := ⟨_, rfl⟩
  have HV := Lib.hid hv
  clear hv
  go_enter Tryd.func40, Tryd.ntmps40
  go_wp2_with fail
  obtain ⟨w0, hW⟩ : ∃ w0, w.alloc (.cells #[.int .i64 a, .int .i64 b, .int .i64 c, .int .i64 d] 26) = w0 := ⟨_, rfl⟩
  rw [hW]
  have B0 := Lib.hid (show Below w.heap.size w w0 by rw [← hW]; exact below_box _ _)
  have X0 := Lib.hid (show Bx 26 w0 w.heap.size #[.int .i64 a, .int .i64 b, .int .i64 c, .int .i64 d] by rw [← hW]; exact Bx.made _ _ _)
  clear hW
  (with_reducible refine (specVp a b c d _).mono ?_)
  rintro e w1 hp
  obtain ⟨rfl, hb⟩ := b_parts HV.out hp
  have B1 := Lib.hid (B0.out.trans (hb.mono B0.out.size))
  have X1 := Lib.hid (X0.out.below hb)
  clear hb hp B0 X0
  have c0 : w1.cell? ⟨w.heap.size, 0, none⟩ = some (.int .i64 a) := X1.out.cell 0
  have c1 : w1.cell? ⟨w.heap.size, 1, none⟩ = some (.int .i64 b) := X1.out.cell 1
  have c2 : w1.cell? ⟨w.heap.size, 2, none⟩ = some (.int .i64 c) := X1.out.cell 2
  have c3 : w1.cell? ⟨w.heap.size, 3, none⟩ = some (.int .i64 d) := X1.out.cell 3
  cases v with
  | false =>
    go_wp2_with fail
    go_ret
    exact ⟨by rw [nw_no HV.out]; rfl, B1.out⟩
  | true =>
    have HQ := Lib.hid (vp_iff.1 HV.out)
    go_wp2_with fail
    by_cases hr : b ≤ x ∧ x ≤ c
    · have hc := win_in HQ.out.high
      have hb := win_in HQ.out.low
      obtain ⟨q, hq⟩ : ∃ q, 2 * x + 1 = q := ⟨_, rfl⟩
      have HN := Lib.hid (show nw a b c d x = mn q c by rw [nw_yes HV.out, nx_yes hr, hq])
      have h2 : IntKind.i64.wrap (2 * x) = 2 * x := IntWalk.i64_in _ (by omega)
      have h3 : IntKind.i64.wrap q = q := IntWalk.i64_in _ (by omega)
      have HR := Lib.hid hr
      clear hr hc hb
      (with_reducible refine (l1R x b c true _ (decide_eq_true HR.out)).mono ?_)
      rintro e w2 ⟨rfl, rfl⟩
      go_wp2_with fail
      (with_reducible refine (specMin c q (mn q c) (mn_flip q c) _).mono ?_)
      rintro e w2 ⟨rfl, rfl⟩
      go_wp2_with fail
      go_ret
      exact ⟨by rw [HN.out]; rfl, B1.out⟩
    · (with_reducible refine (l1R x b c false _ (decide_eq_false hr)).mono ?_)
      rintro e w2 ⟨rfl, rfl⟩
      go_wp2_with fail
      go_ret
      exact ⟨by rw [nw_yes HV.out, nx_no hr]; rfl, B1.out⟩
set_option maxHeartbeats 2000000 in
theorem implNw (a b c d x : Int) (w : World) :
    Calls Tryd.prog 9 #[.agg #[.int .i64 a, .int .i64 b, .int .i64 c, .int .i64 d], .int .i64 x] w (NPost (nw a b c d x) w) := by
  obtain ⟨v, hv⟩ : ∃ v, vp a b c d = v := ⟨_, rfl⟩
  have HV := Lib.hid hv
  clear hv
  go_enter Tryd.func9, Tryd.ntmps9
  go_wp2_with fail
  obtain ⟨w0, hW⟩ : ∃ w0, w.alloc (.cells #[.int .i64 a, .int .i64 b, .int .i64 c, .int .i64 d] 26) = w0 := ⟨_, rfl⟩
  rw [hW]
  have B0 := Lib.hid (show Below w.heap.size w w0 by rw [← hW]; exact below_box _ _)
  have X0 := Lib.hid (show Bx 26 w0 w.heap.size #[.int .i64 a, .int .i64 b, .int .i64 c, .int .i64 d] by rw [← hW]; exact Bx.made _ _ _)
  clear hW
  (with_reducible refine (implVp a b c d _).mono ?_)
  rintro e w1 hp
  obtain ⟨rfl, hb⟩ := b_parts HV.out hp
  have B1 := Lib.hid (B0.out.trans (hb.mono B0.out.size))
  have X1 := Lib.hid (X0.out.below hb)
  clear hb hp B0 X0
  have c0 : w1.cell? ⟨w.heap.size, 0, none⟩ = some (.int .i64 a) := X1.out.cell 0
  have c1 : w1.cell? ⟨w.heap.size, 1, none⟩ = some (.int .i64 b) := X1.out.cell 1
  have c2 : w1.cell? ⟨w.heap.size, 2, none⟩ = some (.int .i64 c) := X1.out.cell 2
  have c3 : w1.cell? ⟨w.heap.size, 3, none⟩ = some (.int .i64 d) := X1.out.cell 3
  cases v with
  | false =>
    go_wp2_with fail
    go_ret
    exact ⟨by rw [nw_no HV.out]; rfl, B1.out⟩
  | true =>
    have HQ := Lib.hid (vp_iff.1 HV.out)
    go_wp2_with fail
    by_cases hr : b ≤ x ∧ x ≤ c
    · have hc := win_in HQ.out.high
      have hb := win_in HQ.out.low
      obtain ⟨q, hq⟩ : ∃ q, 2 * x + 1 = q := ⟨_, rfl⟩
      have HN := Lib.hid (show nw a b c d x = mn q c by rw [nw_yes HV.out, nx_yes hr, hq])
      have h2 : IntKind.i64.wrap (2 * x) = 2 * x := IntWalk.i64_in _ (by omega)
      have h3 : IntKind.i64.wrap q = q := IntWalk.i64_in _ (by omega)
      have HR := Lib.hid hr
      clear hr hc hb
      (with_reducible refine (inR x b c true _ (decide_eq_true HR.out)).mono ?_)
      rintro e w2 ⟨rfl, rfl⟩
      go_wp2_with fail
      (with_reducible refine (implMin q c (mn q c) rfl _).mono ?_)
      rintro e w2 ⟨rfl, hb2⟩
      go_wp2_with fail
      go_ret
      exact ⟨by rw [HN.out]; rfl, B1.out.trans (hb2.mono B1.out.size)⟩
    · (with_reducible refine (inR x b c false _ (decide_eq_false hr)).mono ?_)
      rintro e w2 ⟨rfl, rfl⟩
      go_wp2_with fail
      go_ret
      exact ⟨by rw [nw_yes HV.out, nx_no hr]; rfl, B1.out⟩
end Go.Proofs.YtkfkfejjhfkobaaDoor.bx
