/- Delivery and the expected number of slots: the program's and the specification's functions. Condition: none. -/
import Derived.Test.YtejjafmppihneaaAir2
namespace Go.Proofs.Ytejjafmppihneaa.airs
open Go.RowKit sl harn rng

theorem pct_off {r q : Int} (h : ¬ (Vr r ∧ 0 ≤ q ∧ q ≤ 100)) : pct r q = 0 := by unfold pct; rw [if_neg fun k => h ⟨k.1, k.2.1⟩]
theorem pct_low {r q : Int} (h : ¬ req r ≤ q) : pct r q = 0 := by unfold pct; rw [if_neg fun k => h k.2.2]
theorem pct_on {r q m v : Int} (h : Vr r ∧ 0 ≤ q ∧ q ≤ 100) (hm : q - req r = m) (h0 : 0 ≤ m) (hv : 50 + 5 * m = v) : pct r q = if v < 100 then v else 100 := by
  unfold pct; subst hm hv; rw [if_pos ⟨h.1, h.2, by omega⟩]

theorem implPct (r q : Int) (w : World) :
    Calls Try.prog 51 #[.int .i64 r, .int .i64 q] w (Num (pct r q) w) := by
  by_cases h : Vr r
  · by_cases hq : 0 ≤ q ∧ q ≤ 100
    · obtain ⟨c, hc⟩ : ∃ c, req r = c := ⟨_, rfl⟩
      have hr := req_rng h
      rw [hc] at hr
      obtain ⟨m, hm⟩ : ∃ m, q - c = m := ⟨_, rfl⟩
      obtain ⟨q1, q2⟩ := hq
      obtain ⟨c1, c2⟩ := hr
      have m1 : -80 ≤ m := by omega
      have m2 : m ≤ 90 := by omega
      have H := Lib.hid h
      have HQ := Lib.hid (show 0 ≤ q ∧ q ≤ 100 from ⟨q1, q2⟩)
      have HC := Lib.hid hc
      by_cases h0 : m < 0
      · have hp : pct r q = 0 := pct_low (by rw [hc]; omega)
        rw [hp]
        have HM := Lib.hid hm
        clear hp h hc
        go_enter Try.func51, Try.ntmps51
        go_wp2_with fail
        (with_reducible refine (implVr_yes r H.out _).mono ?_)
        rintro e w1 ⟨rfl, rfl⟩
        go_wp2_with fail
        (with_reducible refine (inRange_yes q 0 100 HQ.out _).mono ?_)
        rintro e w1 ⟨rfl, rfl⟩
        go_wp2_with fail
        (with_reducible refine (implReq r _).mono ?_)
        intro e w1 hpost
        obtain ⟨rfl, hb⟩ := hpost.parts HC.out
        have B := Lib.hid hb
        clear hpost hb
        go_wp2_with fail
        go_ret
        exact ⟨rfl, B.out⟩
      · obtain ⟨v, hv⟩ : ∃ v, 50 + 5 * m = v := ⟨_, rfl⟩
        have m3 : 0 ≤ m := by omega
        have hp : pct r q = if v < 100 then v else 100 := pct_on ⟨h, q1, q2⟩ (by rw [hc]; exact hm) m3 hv
        obtain ⟨p, hpp⟩ : ∃ p, pct r q = p := ⟨_, rfl⟩
        rw [hpp] at hp ⊢
        have HP := Lib.hid hp
        have HM := Lib.hid hm
        clear hp hpp h hc
        go_enter Try.func51, Try.ntmps51
        go_wp2_with fail
        (with_reducible refine (implVr_yes r H.out _).mono ?_)
        rintro e w1 ⟨rfl, rfl⟩
        go_wp2_with fail
        (with_reducible refine (inRange_yes q 0 100 HQ.out _).mono ?_)
        rintro e w1 ⟨rfl, rfl⟩
        go_wp2_with fail
        (with_reducible refine (implReq r _).mono ?_)
        intro e w1 hpost
        obtain ⟨rfl, hb⟩ := hpost.parts HC.out
        have B := Lib.hid hb
        clear hpost hb
        go_wp2_with fail
        (with_reducible refine (implMin 100 v p HP.out _).mono ?_)
        rintro e w2 ⟨rfl, hb⟩
        have B1 := Lib.hid (B.out.trans (hb.mono B.out.size))
        clear hb
        go_wp2_with fail
        go_ret
        exact ⟨rfl, B1.out⟩
    · have hp : pct r q = 0 := pct_off fun k => hq k.2
      rw [hp]
      have H := Lib.hid h
      have HQ := Lib.hid hq
      clear h hq hp
      go_enter Try.func51, Try.ntmps51
      go_wp2_with fail
      (with_reducible refine (implVr_yes r H.out _).mono ?_)
      rintro e w1 ⟨rfl, rfl⟩
      go_wp2_with fail
      (with_reducible refine (inRange_no q 0 100 HQ.out _).mono ?_)
      rintro e w1 ⟨rfl, rfl⟩
      go_wp2_with fail
      go_ret
      exact ⟨rfl, Below.refl _ _⟩
  · have hp : pct r q = 0 := pct_off fun k => h k.1
    rw [hp]
    have H := Lib.hid h
    clear h hp
    go_enter Try.func51, Try.ntmps51
    go_wp2_with fail
    (with_reducible refine (implVr_no r H.out _).mono ?_)
    rintro e w1 ⟨rfl, rfl⟩
    go_wp2_with fail
    go_ret
    exact ⟨rfl, Below.refl _ _⟩
theorem implFd (r q t : Int) (w : World) :
    Calls Try.prog 16 #[.int .i64 r, .int .i64 q, .int .i64 t] w (Bit (fd r q t) w) := by
  obtain ⟨p, hp⟩ : ∃ p, pct r q = p := ⟨_, rfl⟩
  have hr := pct_rng r q
  rw [hp] at hr
  have hfd : fd r q t = decide (0 ≤ t ∧ t ≤ p - 1) := by unfold fd; rw [hp]
  obtain ⟨u, hu⟩ : ∃ u, p - 1 = u := ⟨_, rfl⟩
  rw [hu] at hfd
  have p1 : 0 ≤ p := by omega
  have p2 : p ≤ 100 := by omega
  have HP := Lib.hid hp
  clear hp hr
  by_cases h : 0 ≤ t ∧ t ≤ u
  · rw [decide_eq_true h] at hfd
    rw [hfd]
    have H := Lib.hid h
    clear hfd h
    go_enter Try.func16, Try.ntmps16
    go_wp2_with fail
    (with_reducible refine (implPct r q _).mono ?_)
    intro e w1 hpost
    obtain ⟨rfl, hb⟩ := hpost.parts HP.out
    have B := Lib.hid hb
    clear hpost hb
    go_wp2_with fail
    (with_reducible refine (inRange_yes t 0 u H.out _).mono ?_)
    rintro e w2 ⟨rfl, rfl⟩
    go_wp2_with fail
    go_ret
    exact ⟨rfl, B.out⟩
  · rw [decide_eq_false h] at hfd
    rw [hfd]
    have H := Lib.hid h
    clear hfd h
    go_enter Try.func16, Try.ntmps16
    go_wp2_with fail
    (with_reducible refine (implPct r q _).mono ?_)
    intro e w1 hpost
    obtain ⟨rfl, hb⟩ := hpost.parts HP.out
    have B := Lib.hid hb
    clear hpost hb
    go_wp2_with fail
    (with_reducible refine (inRange_no t 0 u H.out _).mono ?_)
    rintro e w2 ⟨rfl, rfl⟩
    go_wp2_with fail
    go_ret
    exact ⟨rfl, B.out⟩
theorem ex_rng {g x : Int} (hg : 1 ≤ g ∧ g ≤ 1000000000001) (hx : (g + 1) * 100 = x) : 100 ≤ x ∧ x ≤ 100000000000200 := by omega
theorem es_false {r n g : Int} (hg : fs r n = g) (h : ¬ g = 0) : es r n false = g + 1 := by unfold es; rw [hg, if_neg h]; simp
theorem es_zero {r n : Int} {b : Bool} (hg : fs r n = 0) : es r n b = 0 := by unfold es; rw [hg, if_pos rfl]
theorem fs_vr {r n : Int} (h : ¬ fs r n = 0) : Vr r := by
  by_cases k : Vr r
  · exact k
  · exact absurd (by unfold fs; rw [if_neg fun j => k j.1]) h
theorem implEx (r n q : Int) (w : World) :
    Calls Try.prog 19 #[.int .i64 r, .int .i64 n, .int .i64 q] w (Num (ex r n q) w) := by
  obtain ⟨g, hg⟩ : ∃ g, fs r n = g := ⟨_, rfl⟩
  obtain ⟨p, hp⟩ : ∃ p, pct r q = p := ⟨_, rfl⟩
  have rg := fs_rng r n
  have rp := pct_rng r q
  have he : ex r n q = if g = 0 ∨ p = 0 then -1 else ((g + 1) * 100 + p - 1) / p := by unfold ex; rw [hg, hp]
  rw [hg] at rg
  rw [hp] at rp
  have HP := Lib.hid hp
  rcases rg with rfl | rg
  · rw [he, if_pos (Or.inl rfl)]
    have HE := Lib.hid (es_zero (b := false) hg)
    clear hg hp rp he
    go_enter Try.func19, Try.ntmps19
    go_wp2_with fail
    (with_reducible refine (implEs r n false _).mono ?_)
    intro e w1 hpost
    obtain ⟨rfl, hb⟩ := hpost.parts HE.out
    have B1 := Lib.hid hb
    clear hpost hb
    go_wp2_with fail
    (with_reducible refine (implPct r q _).mono ?_)
    intro e w2 hpost
    obtain ⟨rfl, hb⟩ := hpost.parts HP.out
    have B2 := Lib.hid (B1.out.trans (hb.mono B1.out.size))
    clear hpost hb B1
    go_wp2_with fail
    go_ret
    exact ⟨rfl, B2.out⟩
  · have g0 : ¬ g = 0 := by omega
    obtain ⟨y, hy⟩ : ∃ y, g + 1 = y := ⟨_, rfl⟩
    have HE := Lib.hid (show es r n false = y by rw [es_false hg g0, hy])
    rcases rp with rfl | rp
    · rw [he, if_pos (Or.inr rfl)]
      have y0 : (y == 0) = false := by rw [beq_eq_false_iff_ne]; omega
      clear hg hp he rg hy
      go_enter Try.func19, Try.ntmps19
      go_wp2_with fail
      (with_reducible refine (implEs r n false _).mono ?_)
      intro e w1 hpost
      obtain ⟨rfl, hb⟩ := hpost.parts HE.out
      have B1 := Lib.hid hb
      clear hpost hb
      go_wp2_with fail
      (with_reducible refine (implPct r q _).mono ?_)
      intro e w2 hpost
      obtain ⟨rfl, hb⟩ := hpost.parts HP.out
      have B2 := Lib.hid (B1.out.trans (hb.mono B1.out.size))
      clear hpost hb B1
      go_wp2_with fail
      go_ret
      exact ⟨rfl, B2.out⟩
    · have p0 : (p == 0) = false := by rw [beq_eq_false_iff_ne]; omega
      rw [he, if_neg (by omega), hy]
      obtain ⟨v, hv⟩ : ∃ v, (y * 100 + p - 1) / p = v := ⟨_, rfl⟩
      rw [hv]
      have HV := Lib.hid hv
      have y0 : (y == 0) = false := by rw [beq_eq_false_iff_ne]; omega
      obtain ⟨p1, p2⟩ := rp
      have y1 : 2 ≤ y := by omega
      have y2 : y ≤ 1000000000002 := by omega
      clear hg hp he rg hy hv
      go_enter Try.func19, Try.ntmps19
      go_wp2_with fail
      (with_reducible refine (implEs r n false _).mono ?_)
      intro e w1 hpost
      obtain ⟨rfl, hb⟩ := hpost.parts HE.out
      have B1 := Lib.hid hb
      clear hpost hb
      go_wp2_with fail
      (with_reducible refine (implPct r q _).mono ?_)
      intro e w2 hpost
      obtain ⟨rfl, hb⟩ := hpost.parts HP.out
      have B2 := Lib.hid (B1.out.trans (hb.mono B1.out.size))
      clear hpost hb B1
      go_wp2_with fail
      go_ret
      exact num_end HV.out.symm B2.out
theorem specEx (r n q : Int) (w : World) :
    Calls Try.prog 65 #[.int .i64 r, .int .i64 n, .int .i64 q] w (Num (ex r n q) w) := by
  obtain ⟨g, hg⟩ : ∃ g, fs r n = g := ⟨_, rfl⟩
  obtain ⟨p, hp⟩ : ∃ p, pct r q = p := ⟨_, rfl⟩
  obtain ⟨c, hc⟩ : ∃ c, req r = c := ⟨_, rfl⟩
  have rg := fs_rng r n
  have rc := req_rng0 r
  have rp := pct_rng r q
  have he : ex r n q = if g = 0 ∨ p = 0 then -1 else ((g + 1) * 100 + p - 1) / p := by unfold ex; rw [hg, hp]
  rw [hg] at rg
  rw [hp] at rp
  rw [hc] at rc
  have HC := Lib.hid hc
  rcases rg with rfl | rg
  · rw [he, if_pos (Or.inl rfl)]
    have HE := Lib.hid (es_zero (b := false) hg)
    clear hg hp rp he hc rc
    go_enter Try.func65, Try.ntmps65
    go_wp2_with fail
    (with_reducible refine (specEs r n false _).mono ?_)
    intro e w1 hpost
    obtain ⟨rfl, hb⟩ := hpost.parts HE.out
    have B1 := Lib.hid hb
    clear hpost hb
    go_wp2_with fail
    (with_reducible refine (specReq r _).mono ?_)
    intro e w2 hpost
    obtain ⟨rfl, hb⟩ := hpost.parts HC.out
    have B2 := Lib.hid (B1.out.trans (hb.mono B1.out.size))
    clear hpost hb B1
    generalize wrap64 (q - c) = d
    go_wp2_with fail
    go_ret
    exact ⟨rfl, B2.out⟩
  · have g0 : ¬ g = 0 := by omega
    obtain ⟨y, hy⟩ : ∃ y, g + 1 = y := ⟨_, rfl⟩
    have HE := Lib.hid (show es r n false = y by rw [es_false hg g0, hy])
    have y0 : (y == 0) = false := by rw [beq_eq_false_iff_ne]; omega
    have hvr := fs_vr (by rw [hg]; exact g0)
    by_cases hq : 0 ≤ q ∧ q ≤ 100
    · have HQ := Lib.hid hq
      obtain ⟨m, hm⟩ : ∃ m, q - c = m := ⟨_, rfl⟩
      have m1 : -80 ≤ m := by omega
      have m2 : m ≤ 100 := by omega
      obtain ⟨q1, q2⟩ := hq
      obtain ⟨c1, c2⟩ := rc
      by_cases h0 : m < 0
      · have hp0 : p = 0 := by rw [← hp]; exact pct_low (by rw [hc]; omega)
        rw [he, if_pos (Or.inr hp0)]
        have HM := Lib.hid hm
        clear hg hp he rg hy hp0 hc rp hvr
        go_enter Try.func65, Try.ntmps65
        go_wp2_with fail
        (with_reducible refine (specEs r n false _).mono ?_)
        intro e w1 hpost
        obtain ⟨rfl, hb⟩ := hpost.parts HE.out
        have B1 := Lib.hid hb
        clear hpost hb
        go_wp2_with fail
        (with_reducible refine (specReq r _).mono ?_)
        intro e w2 hpost
        obtain ⟨rfl, hb⟩ := hpost.parts HC.out
        have B2 := Lib.hid (B1.out.trans (hb.mono B1.out.size))
        clear hpost hb B1
        go_wp2_with fail
        (with_reducible refine (l1In_yes q 0 100 HQ.out _).mono ?_)
        rintro e w1 ⟨rfl, rfl⟩
        go_wp2_with fail
        go_ret
        exact ⟨rfl, B2.out⟩
      · have m3 : 0 ≤ m := by omega
        obtain ⟨u, hu⟩ : ∃ u, 50 + 5 * m = u := ⟨_, rfl⟩
        have hpu : p = if u < 100 then u else 100 := by rw [← hp]; exact pct_on ⟨hvr, q1, q2⟩ (by rw [hc]; exact hm) m3 hu
        have rp : 50 ≤ p ∧ p ≤ 100 := by rw [hpu]; split <;> omega
        rw [he, if_neg (by omega), hy]
        obtain ⟨v, hv⟩ : ∃ v, (y * 100 + p - 1) / p = v := ⟨_, rfl⟩
        rw [hv]
        have HV := Lib.hid hv
        have HPU := Lib.hid hpu
        have HM := Lib.hid hm
        obtain ⟨p1, p2⟩ := rp
        have y1 : 2 ≤ y := by omega
        have y2 : y ≤ 1000000000002 := by omega
        clear hg hp he rg hy hv hc hvr hpu h0
        go_enter Try.func65, Try.ntmps65
        go_wp2_with fail
        (with_reducible refine (specEs r n false _).mono ?_)
        intro e w1 hpost
        obtain ⟨rfl, hb⟩ := hpost.parts HE.out
        have B1 := Lib.hid hb
        clear hpost hb
        go_wp2_with fail
        (with_reducible refine (specReq r _).mono ?_)
        intro e w2 hpost
        obtain ⟨rfl, hb⟩ := hpost.parts HC.out
        have B2 := Lib.hid (B1.out.trans (hb.mono B1.out.size))
        clear hpost hb B1
        go_wp2_with fail
        (with_reducible refine (l1In_yes q 0 100 HQ.out _).mono ?_)
        rintro e w1 ⟨rfl, rfl⟩
        go_wp2_with fail
        (with_reducible refine (specMin 100 u p HPU.out _).mono ?_)
        rintro e w3 ⟨rfl, rfl⟩
        go_wp2_with fail
        go_ret
        exact num_end HV.out.symm B2.out
    · have HQ := Lib.hid hq
      have hp0 : p = 0 := by rw [← hp]; exact pct_off fun k => hq k.2
      rw [he, if_pos (Or.inr hp0)]
      clear hg hp rp he hc rc hq hy rg hp0 hvr
      go_enter Try.func65, Try.ntmps65
      go_wp2_with fail
      (with_reducible refine (specEs r n false _).mono ?_)
      intro e w1 hpost
      obtain ⟨rfl, hb⟩ := hpost.parts HE.out
      have B1 := Lib.hid hb
      clear hpost hb
      go_wp2_with fail
      (with_reducible refine (specReq r _).mono ?_)
      intro e w2 hpost
      obtain ⟨rfl, hb⟩ := hpost.parts HC.out
      have B2 := Lib.hid (B1.out.trans (hb.mono B1.out.size))
      clear hpost hb B1
      generalize wrap64 (q - c) = d
      go_wp2_with fail
      (with_reducible refine (l1In_no q 0 100 HQ.out _).mono ?_)
      rintro e w1 ⟨rfl, rfl⟩
      go_wp2_with fail
      go_ret
      exact ⟨rfl, B2.out⟩
end Go.Proofs.Ytejjafmppihneaa.airs
