/- The distances of symbols and steps, the number of bits, the constants, program and specification. Condition: none. -/
import Derived.Test.YtgdmfpahaccamaaVitp
import Derived.Test.YtgdmfpahaccamaaCnv2
namespace Go.Proofs.Ytgdmfpahaccamaa.vts
open Go.RowKit sl harn bm rng cvm cvs vit

theorem sd_yes {b x : Int} (h : x = b ∨ x = 2) : sd b x = 0 := if_pos h
theorem sd_no {b x : Int} (h : ¬ x = b) (h2 : ¬ x = 2) : sd b x = 1 := if_neg (by intro g; rcases g with g | g; exact h g; exact h2 g)
theorem implSd (b x : Int) (w : World) :
    Calls Try.prog 50 #[.int .i64 b, .int .i64 x] w fun e w' => e = .returned (.int .i64 (sd b x)) ∧ w = w' := by
  by_cases h : x = b
  · subst h
    have HE := Lib.hid (sd_yes (b := x) (x := x) (Or.inl rfl))
    go_enter Try.func50, Try.ntmps50
    go_wp2
    go_ret
    exact ⟨ret_num HE.out.symm, rfl⟩
  · have hne : (x == b) = false := by simpa using h
    by_cases h2 : x = 2
    · subst h2
      have HE := Lib.hid (sd_yes (b := b) (x := 2) (Or.inr rfl))
      clear h
      go_enter Try.func50, Try.ntmps50
      go_wp2
      go_ret
      exact ⟨ret_num HE.out.symm, rfl⟩
    · have hn2 : (x == 2) = false := by simpa using h2
      have HE := Lib.hid (sd_no h h2)
      clear h h2
      go_enter Try.func50, Try.ntmps50
      go_wp2
      go_ret
      exact ⟨ret_num HE.out.symm, rfl⟩
theorem bd_parts {s b x y p q : Int} (h : outp s b = (p, q)) : bd s b x y = sd p x + sd q y := by unfold bd; rw [h]
theorem implBd (s b x y : Int) (w : World) :
    Calls Try.prog 24 #[.int .i64 s, .int .i64 b, .int .i64 x, .int .i64 y] w fun e w' => e = .returned (.int .i64 (bd s b x y)) ∧ w = w' := by
  obtain ⟨p, q, hpq⟩ : ∃ p q, outp s b = (p, q) := ⟨_, _, rfl⟩
  have HO := Lib.hid hpq
  have HE := Lib.hid (bd_parts (x := x) (y := y) hpq)
  clear hpq
  go_enter Try.func24, Try.ntmps24
  go_wp2_with fail
  (with_reducible refine (implOut s b _).mono ?_)
  intro e w1 h1
  obtain ⟨rfl, rfl⟩ := TwoPost.parts HO.out h1
  clear h1
  go_wp2_with fail
  (with_reducible refine (implSd p x _).mono ?_)
  rintro e w1 ⟨rfl, rfl⟩
  go_wp2_with fail
  (with_reducible refine (implSd q y _).mono ?_)
  rintro e w1 ⟨rfl, rfl⟩
  have h1 := sd_in p x
  have h2 := sd_in q y
  obtain ⟨u, hu⟩ : ∃ u, sd p x = u := ⟨_, rfl⟩
  obtain ⟨v, hv⟩ : ∃ v, sd q y = v := ⟨_, rfl⟩
  rw [hu] at HE h1 ⊢
  rw [hv] at HE h2 ⊢
  clear hu hv
  go_wp2_with fail
  go_ret
  exact ⟨ret_num HE.out.symm, rfl⟩
set_option maxHeartbeats 1000000 in
theorem specBd (s b x y : Int) (w : World) :
    Calls Try.prog 23 #[.int .i64 s, .int .i64 b, .int .i64 x, .int .i64 y] w fun e w' => e = .returned (.int .i64 (bd s b x y)) ∧ w = w' := by
  obtain ⟨p, q, hpq⟩ : ∃ p q, outp s b = (p, q) := ⟨_, _, rfl⟩
  have HO := Lib.hid hpq
  have HE := Lib.hid (bd_parts (x := x) (y := y) hpq)
  clear hpq
  have hx : (x = 2 ∨ p = x ∧ (x != 2) = true ∧ (x == 2) = false ∧ ¬ x = 2) ∨ ((x != 2) = true ∧ (x == 2) = false ∧ ¬ x = 2) ∧ (x != p) = true ∧ ¬ x = p := by
    by_cases h : x = 2
    · exact Or.inl (Or.inl h)
    · by_cases h2 : x = p
      · exact Or.inl (Or.inr ⟨h2.symm, by simpa using h, by simpa using h, h⟩)
      · exact Or.inr ⟨⟨by simpa using h, by simpa using h, h⟩, by simpa using h2, h2⟩
  have hy : (y = 2 ∨ q = y ∧ (y != 2) = true ∧ (y == 2) = false ∧ ¬ y = 2) ∨ ((y != 2) = true ∧ (y == 2) = false ∧ ¬ y = 2) ∧ (y != q) = true ∧ ¬ y = q := by
    by_cases h : y = 2
    · exact Or.inl (Or.inl h)
    · by_cases h2 : y = q
      · exact Or.inl (Or.inr ⟨h2.symm, by simpa using h, by simpa using h, h⟩)
      · exact Or.inr ⟨⟨by simpa using h, by simpa using h, h⟩, by simpa using h2, h2⟩
  rcases hx with (rfl | ⟨rfl, h1, h1', n1⟩) | ⟨⟨h1, h1', n1⟩, h2, n2⟩ <;> rcases hy with (rfl | ⟨rfl, h3, h3', n3⟩) | ⟨⟨h3, h3', n3⟩, h4, n4⟩
  all_goals
   (first
      | rw [sd_yes (b := p) (x := 2) (Or.inr rfl)] at HE
      | rw [sd_yes (b := p) (x := p) (Or.inl rfl)] at HE
      | rw [sd_no n2 n1] at HE
    first
      | rw [sd_yes (b := q) (x := 2) (Or.inr rfl)] at HE
      | rw [sd_yes (b := q) (x := q) (Or.inl rfl)] at HE
      | rw [sd_no n4 n3] at HE
    (try clear n1)
    (try clear n2)
    (try clear n3)
    (try clear n4)
    go_enter Try.func23, Try.ntmps23
    go_wp2_with fail
    (with_reducible refine (specOut s b _).mono ?_)
    intro e w1 h1
    obtain ⟨rfl, rfl⟩ := TwoPost.parts HO.out h1
    clear h1
    go_wp2_with fail
    go_ret
    exact ⟨ret_num (by rw [HE.out]; rfl), rfl⟩)
theorem inl_half {c : Int} (hw : (Lit.int .i64 c).wf = true) (h : ¬ c < 0) : ∃ v : Int, c / 2 = v ∧ c.tdiv 2 = v ∧ 0 ≤ v ∧ v ≤ 4611686018427387903 ∧ (c = 2 * v ∨ c = 2 * v + 1) := by
  have := bounds_i64 hw
  exact ⟨c / 2, rfl, Int.tdiv_eq_ediv_of_nonneg (by omega), by omega, by omega, by omega⟩
theorem half_neg {c : Int} (hw : (Lit.int .i64 c).wf = true) (h : c < 0) : ∃ v : Int, c.tdiv 2 = v ∧ -4611686018427387904 ≤ v ∧ v ≤ 0 := by
  have := bounds_i64 hw
  have e2 : c.tdiv 2 = -((-c) / 2) := by
    have := Int.neg_tdiv (-c) 2
    rw [Int.neg_neg] at this
    rw [this, Int.tdiv_eq_ediv_of_nonneg (by omega)]
  exact ⟨_, e2, by omega, by omega⟩
theorem implInl (c : Int) (hw : (Lit.int .i64 c).wf = true) (w : World) :
    Calls Try.prog 17 #[.int .i64 c] w fun e w' => e = .returned (.int .i64 (inl c)) ∧ w = w' := by
  by_cases h : c < 0
  · obtain ⟨v, hv, h1, h2⟩ := half_neg hw h
    have HE := Lib.hid (inl_no (c := c) (by omega))
    clear hw h
    go_enter Try.func17, Try.ntmps17
    go_wp2_with fail
    (with_reducible refine (inRange_no (v - 2) 0 1000 (by omega) _).mono ?_)
    rintro e w1 ⟨rfl, rfl⟩
    go_wp2_with fail
    go_ret
    exact ⟨ret_num HE.out.symm, rfl⟩
  · obtain ⟨v, hv0, hv, h1, h2, h3⟩ := inl_half hw h
    have HC := Lib.hid h3
    clear hw h h3
    by_cases hr : 0 ≤ v - 2 ∧ v - 2 ≤ 1000
    · have HR := Lib.hid hr
      have HN := Lib.hid (enl_yes (show 0 ≤ v - 2 ∧ v - 2 ≤ 1000000000000 by omega))
      by_cases he : 2 * v = c
      · have HE := Lib.hid (show v - 2 = inl c by rw [inl_yes (by omega)]; omega)
        have hp : 2 * (v - 2 + 2) = c := by omega
        clear hr
        go_enter Try.func17, Try.ntmps17
        go_wp2_with fail
        (with_reducible refine (inRange_yes (v - 2) 0 1000 HR.out _).mono ?_)
        rintro e w1 ⟨rfl, rfl⟩
        go_wp2_with fail
        (with_reducible refine (implEnl (v - 2) _).mono ?_)
        rw [HN.out, hp]
        rintro e w1 ⟨rfl, rfl⟩
        go_wp2_with fail
        go_ret
        exact ⟨ret_num HE.out, rfl⟩
      · have HE := Lib.hid (inl_no (c := c) (by have := HC.out; omega))
        have hp : (2 * (v - 2 + 2) == c) = false := by
          have : ¬ 2 * (v - 2 + 2) = c := by omega
          simpa using this
        clear hr he
        obtain ⟨u, hu⟩ : ∃ u, 2 * (v - 2 + 2) = u := ⟨_, rfl⟩
        rw [hu] at hp HN
        clear hu
        go_enter Try.func17, Try.ntmps17
        go_wp2_with fail
        (with_reducible refine (inRange_yes (v - 2) 0 1000 HR.out _).mono ?_)
        rintro e w1 ⟨rfl, rfl⟩
        go_wp2_with fail
        (with_reducible refine (implEnl (v - 2) _).mono ?_)
        rw [HN.out]
        rintro e w1 ⟨rfl, rfl⟩
        go_wp2_with fail
        go_ret
        exact ⟨ret_num HE.out.symm, rfl⟩
    · have HR := Lib.hid hr
      have HE := Lib.hid (inl_no (c := c) (by have := HC.out; omega))
      clear hr
      go_enter Try.func17, Try.ntmps17
      go_wp2_with fail
      (with_reducible refine (inRange_no (v - 2) 0 1000 HR.out _).mono ?_)
      rintro e w1 ⟨rfl, rfl⟩
      go_wp2_with fail
      go_ret
      exact ⟨ret_num HE.out.symm, rfl⟩
theorem specInl (c : Int) (hw : (Lit.int .i64 c).wf = true) (w : World) :
    Calls Try.prog 19 #[.int .i64 c] w fun e w' => e = .returned (.int .i64 (inl c)) ∧ w = w' := by
  by_cases h : c < 0
  · obtain ⟨v, hv, h1, h2⟩ := half_neg hw h
    have HE := Lib.hid (inl_no (c := c) (by omega))
    clear hw
    go_enter Try.func19, Try.ntmps19
    go_wp2_with fail
    go_ret
    exact ⟨ret_num HE.out.symm, rfl⟩
  · obtain ⟨v, hv0, hv, h1, h2, h3⟩ := inl_half hw h
    have HC := Lib.hid h3
    clear hw
    have h0 : 0 ≤ c := by omega
    rcases h3 with h3 | h3
    · have hm : c % 2 = 0 := by omega
      have hm2 : c.tmod 2 = 0 := by rw [Int.tmod_eq_emod_of_nonneg h0]; exact hm
      by_cases hr : 0 ≤ v - 2 ∧ v - 2 ≤ 1000
      · have HR := Lib.hid hr
        have HE := Lib.hid (show v - 2 = inl c by rw [inl_yes (by omega)]; omega)
        clear hr h3
        go_enter Try.func19, Try.ntmps19
        go_wp2_with fail
        (with_reducible refine (l1In_yes (v - 2) 0 1000 HR.out _).mono ?_)
        rintro e w1 ⟨rfl, rfl⟩
        go_wp2_with fail
        go_ret
        exact ⟨ret_num HE.out, rfl⟩
      · have HR := Lib.hid hr
        have HE := Lib.hid (inl_no (c := c) (by omega))
        clear hr h3
        go_enter Try.func19, Try.ntmps19
        go_wp2_with fail
        (with_reducible refine (l1In_no (v - 2) 0 1000 HR.out _).mono ?_)
        rintro e w1 ⟨rfl, rfl⟩
        go_wp2_with fail
        go_ret
        exact ⟨ret_num HE.out.symm, rfl⟩
    · have hm : c % 2 = 1 := by omega
      have hm2 : c.tmod 2 = 1 := by rw [Int.tmod_eq_emod_of_nonneg h0]; exact hm
      have HE := Lib.hid (inl_no (c := c) (by omega))
      clear h3
      go_enter Try.func19, Try.ntmps19
      go_wp2_with fail
      go_ret
      exact ⟨ret_num HE.out.symm, rfl⟩
def mind (c : Int) : Int := if 1 ≤ c ∧ c ≤ 1000 then 5 else 0
theorem implCe (w : World) : Calls Try.prog 16 #[] w fun e w' => e = .returned (.int .i64 2) ∧ w = w' := by
  go_enter Try.func16, Try.ntmps16
  go_wp2
  go_ret
  exact ⟨rfl, rfl⟩
theorem specCe (w : World) : Calls Try.prog 31 #[] w fun e w' => e = .returned (.int .i64 2) ∧ w = w' := by
  go_enter Try.func31, Try.ntmps31
  go_wp2
  go_ret
  exact ⟨rfl, rfl⟩
theorem implMd (c : Int) (w : World) :
    Calls Try.prog 33 #[.int .i64 c] w fun e w' => e = .returned (.int .i64 (mind c)) ∧ w = w' := by
  by_cases h : 1 ≤ c ∧ c ≤ 1000
  · have H := Lib.hid h
    have HE := Lib.hid (show mind c = 5 from if_pos h)
    clear h
    go_enter Try.func33, Try.ntmps33
    go_wp2_with fail
    (with_reducible refine (inRange_yes c 1 1000 H.out _).mono ?_)
    rintro e w1 ⟨rfl, rfl⟩
    go_wp2_with fail
    go_ret
    exact ⟨ret_num HE.out.symm, rfl⟩
  · have H := Lib.hid h
    have HE := Lib.hid (show mind c = 0 from if_neg h)
    clear h
    go_enter Try.func33, Try.ntmps33
    go_wp2_with fail
    (with_reducible refine (inRange_no c 1 1000 H.out _).mono ?_)
    rintro e w1 ⟨rfl, rfl⟩
    go_wp2_with fail
    go_ret
    exact ⟨ret_num HE.out.symm, rfl⟩
theorem specMd (c : Int) (w : World) :
    Calls Try.prog 32 #[.int .i64 c] w fun e w' => e = .returned (.int .i64 (mind c)) ∧ w = w' := by
  by_cases h : 1 ≤ c ∧ c ≤ 1000
  · have H := Lib.hid h
    have HE := Lib.hid (show mind c = 5 from if_pos h)
    clear h
    go_enter Try.func32, Try.ntmps32
    go_wp2_with fail
    (with_reducible refine (l1In_yes c 1 1000 H.out _).mono ?_)
    rintro e w1 ⟨rfl, rfl⟩
    go_wp2_with fail
    go_ret
    exact ⟨ret_num HE.out.symm, rfl⟩
  · have H := Lib.hid h
    have HE := Lib.hid (show mind c = 0 from if_neg h)
    clear h
    go_enter Try.func32, Try.ntmps32
    go_wp2_with fail
    (with_reducible refine (l1In_no c 1 1000 H.out _).mono ?_)
    rintro e w1 ⟨rfl, rfl⟩
    go_wp2_with fail
    go_ret
    exact ⟨ret_num HE.out.symm, rfl⟩
end Go.Proofs.Ytgdmfpahaccamaa.vts
