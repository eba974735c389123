/- FragmentCount of both sides. Condition: none. -/
import Derived.Test.YtjmenbpalihnnaaRam
import Derived.Test.YtjmenbpalihnnaaRng
namespace Go.Proofs.Ytjmenbpalihnnaa.fr
open Go.RowKit sl harn bx mrw drk stw rng
set_option linter.unusedVariables false
set_option linter.unusedSimpArgs false

theorem cd_le {b t q : Int} (ht : 1 ≤ t) (hq : (b + t - 1) / t = q) : q ≤ 16 ↔ b ≤ t * 16 := by
  have h := Int.ediv_lt_iff_lt_mul (a := b + t - 1) (b := 17) (c := t) (by omega)
  rw [hq] at h
  omega
theorem cd_nn {b t q : Int} (hb : 0 ≤ b) (ht : 1 ≤ t) (hq : (b + t - 1) / t = q) : 0 ≤ q := by
  rw [← hq]; exact Int.ediv_nonneg (by omega) (by omega)
theorem cd_hi {b t q : Int} (hb : b ≤ 1000000000000) (ht : 1 ≤ t) (hq : (b + t - 1) / t = q) : q ≤ 1000000000000 := by
  have h := Int.ediv_lt_iff_lt_mul (a := b + t - 1) (b := 1000000000001) (c := t) (by omega)
  rw [hq] at h
  have h2 : b + t - 1 < 1000000000001 * t := by omega
  omega
theorem fcnt_no {b t : Int} (h : ¬ ((1 ≤ t ∧ t ≤ 100) ∧ (0 ≤ b ∧ b ≤ t * 16))) : fcnt b t = 0 := if_neg h
theorem fcnt_yes {b t q : Int} (h : (1 ≤ t ∧ t ≤ 100) ∧ (0 ≤ b ∧ b ≤ t * 16)) (hq : (b + t - 1) / t = q) : fcnt b t = if 1 < q then q else 1 := by unfold fcnt; rw [if_pos h, hq]
theorem fcnt_rng (b t : Int) : 0 ≤ fcnt b t ∧ fcnt b t ≤ 16 := by
  by_cases h : (1 ≤ t ∧ t ≤ 100) ∧ (0 ≤ b ∧ b ≤ t * 16)
  · have h1 := (cd_le h.1.1 (b := b) (t := t) rfl).2 h.2.2
    rw [fcnt_yes h rfl]; split <;> omega
  · rw [fcnt_no h]; omega
theorem implCd (n c q : Int) (h : (0 ≤ n ∧ n ≤ 1000000000000) ∧ (1 ≤ c ∧ c ≤ 100)) (hq : (n + c - 1) / c = q) (w : World) :
    Calls Try.prog 78 #[.int .i64 n, .int .i64 c] w fun e w' => e = .returned (.int .i64 q) ∧ w = w' := by
  have H1 := Lib.hid h.1
  have H2 := Lib.hid (show 1 ≤ c ∧ c ≤ 1000000000000 by omega)
  have HQ := Lib.hid hq
  obtain ⟨⟨h1, h2⟩, h3, h4⟩ := h
  clear hq
  go_enter Try.func78, Try.ntmps78
  go_wp2_with fail
  (with_reducible refine (inRange_yes n 0 1000000000000 H1.out _).mono ?_)
  rintro e w1 ⟨rfl, rfl⟩
  go_wp2_with fail
  (with_reducible refine (inRange_yes c 1 1000000000000 H2.out _).mono ?_)
  rintro e w1 ⟨rfl, rfl⟩
  go_wp2_with fail
  go_ret
  exact ⟨by rw [← HQ.out]; rfl, rfl⟩
theorem specCd (n c q : Int) (h : (0 ≤ n ∧ n ≤ 1000000000000) ∧ (1 ≤ c ∧ c ≤ 100)) (hq : (n + c - 1) / c = q) (w : World) :
    Calls Try.prog 80 #[.int .i64 n, .int .i64 c] w fun e w' => e = .returned (.int .i64 q) ∧ w = w' := by
  have H1 := Lib.hid h.1
  have H2 := Lib.hid (show 1 ≤ c ∧ c ≤ 1000000000000 by omega)
  have HQ := Lib.hid hq
  obtain ⟨⟨h1, h2⟩, h3, h4⟩ := h
  clear hq
  go_enter Try.func80, Try.ntmps80
  go_wp2_with fail
  (with_reducible refine (l1In_yes n 0 1000000000000 H1.out _).mono ?_)
  rintro e w1 ⟨rfl, rfl⟩
  go_wp2_with fail
  (with_reducible refine (l1In_yes c 1 1000000000000 H2.out _).mono ?_)
  rintro e w1 ⟨rfl, rfl⟩
  go_wp2_with fail
  go_ret
  exact ⟨by rw [← HQ.out]; rfl, rfl⟩
theorem specCd0 (n c : Int) (h : ¬ (0 ≤ n ∧ n ≤ 1000000000000)) (w : World) :
    Calls Try.prog 80 #[.int .i64 n, .int .i64 c] w fun e w' => e = .returned (.int .i64 0) ∧ w = w' := by
  have H := Lib.hid h
  clear h
  go_enter Try.func80, Try.ntmps80
  go_wp2_with fail
  (with_reducible refine (l1In_no n 0 1000000000000 H.out _).mono ?_)
  rintro e w1 ⟨rfl, rfl⟩
  go_wp2_with fail
  go_ret
  exact ⟨rfl, rfl⟩
set_option maxRecDepth 100000 in
set_option maxHeartbeats 4000000 in
theorem implFc (b t : Int) (w : World) :
    Calls Try.prog 29 #[.int .i64 b, .int .i64 t] w (NPost (fcnt b t) w) := by
  obtain ⟨v, hv⟩ : ∃ v, fcnt b t = v := ⟨_, rfl⟩
  have HV := Lib.hid hv
  rw [hv]
  clear hv
  by_cases ht : 1 ≤ t ∧ t ≤ 100
  · have HT := Lib.hid ht
    obtain ⟨ht1, ht2⟩ := ht
    by_cases hb : 0 ≤ b ∧ b ≤ t * 16
    · have HB := Lib.hid hb
      obtain ⟨hb1, hb2⟩ := hb
      obtain ⟨q, hq⟩ : ∃ q, (b + t - 1) / t = q := ⟨_, rfl⟩
      have HQ := Lib.hid hq
      have hq1 := (cd_le ht1 hq).2 hb2
      have hq0 := cd_nn hb1 ht1 hq
      have HE := Lib.hid (show v = if 1 < q then q else 1 by rw [← HV.out]; exact fcnt_yes ⟨HT.out, HB.out⟩ hq)
      clear hq
      go_enter Try.func29, Try.ntmps29
      go_wp2_with fail
      (with_reducible refine (inRange_yes t 1 100 HT.out _).mono ?_)
      rintro e w1 ⟨rfl, rfl⟩
      go_wp2_with fail
      (with_reducible refine (inRange_yes b 0 (t * 16) HB.out _).mono ?_)
      rintro e w1 ⟨rfl, rfl⟩
      go_wp2_with fail
      (with_reducible refine (implCd b t q ⟨⟨hb1, by omega⟩, HT.out⟩ HQ.out _).mono ?_)
      rintro e w1 ⟨rfl, rfl⟩
      go_wp2_with fail
      (with_reducible refine (implMax 1 q v HE.out _).mono ?_)
      rintro e w2 ⟨rfl, hb⟩
      have B := Lib.hid hb
      clear hb
      go_wp2_with fail
      go_ret
      exact ⟨rfl, B.out⟩
    · have HB := Lib.hid hb
      have HE := Lib.hid (show v = 0 by rw [← HV.out]; exact fcnt_no fun h => hb h.2)
      clear hb
      go_enter Try.func29, Try.ntmps29
      go_wp2_with fail
      (with_reducible refine (inRange_yes t 1 100 HT.out _).mono ?_)
      rintro e w1 ⟨rfl, rfl⟩
      go_wp2_with fail
      (with_reducible refine (inRange_no b 0 (t * 16) HB.out _).mono ?_)
      rintro e w1 ⟨rfl, rfl⟩
      go_wp2_with fail
      go_ret
      exact ⟨by rw [HE.out]; rfl, Below.refl _ _⟩
  · have HT := Lib.hid ht
    have HE := Lib.hid (show v = 0 by rw [← HV.out]; exact fcnt_no fun h => ht h.1)
    clear ht
    go_enter Try.func29, Try.ntmps29
    go_wp2_with fail
    (with_reducible refine (inRange_no t 1 100 HT.out _).mono ?_)
    rintro e w1 ⟨rfl, rfl⟩
    go_wp2_with fail
    go_ret
    exact ⟨by rw [HE.out]; rfl, Below.refl _ _⟩
set_option maxRecDepth 100000 in
set_option maxHeartbeats 4000000 in
theorem specFc (b t : Int) (w : World) :
    Calls Try.prog 30 #[.int .i64 b, .int .i64 t] w (NPost (fcnt b t) w) := by
  obtain ⟨v, hv⟩ : ∃ v, fcnt b t = v := ⟨_, rfl⟩
  have HV := Lib.hid hv
  rw [hv]
  clear hv
  by_cases hneg : b < 0
  · have HE := Lib.hid (show v = 0 by rw [← HV.out]; exact fcnt_no fun h => by omega)
    go_enter Try.func30, Try.ntmps30
    go_wp2_with fail
    go_ret
    exact ⟨by rw [HE.out]; rfl, Below.refl _ _⟩
  · have hb1 : 0 ≤ b := by omega
    by_cases ht : 1 ≤ t ∧ t ≤ 100
    · have HT := Lib.hid ht
      obtain ⟨ht1, ht2⟩ := ht
      by_cases hb3 : b ≤ 1000000000000
      · obtain ⟨q, hq⟩ : ∃ q, (b + t - 1) / t = q := ⟨_, rfl⟩
        have HQ := Lib.hid hq
        have hqq := cd_le ht1 hq
        have hq0 := cd_nn hb1 ht1 hq
        have hq9 := cd_hi hb3 ht1 hq
        have HY := Lib.hid (fun h : b ≤ t * 16 => (fcnt_yes ⟨HT.out, hb1, h⟩ hq : fcnt b t = if 1 < q then q else 1))
        clear hq
        obtain ⟨m, hm⟩ : ∃ m, (if 1 < q then q else 1) = m := ⟨_, rfl⟩
        have HM := Lib.hid hm
        have hm1 : 1 ≤ m ∧ (m ≤ 16 ↔ b ≤ t * 16) := by rw [← hm]; split <;> omega
        clear hm hqq
        obtain ⟨hm1, hm2⟩ := hm1
        have HM2 := Lib.hid hm2
        by_cases hg : m ≤ 16
        · have HE := Lib.hid (show v = m by rw [← HV.out, HY.out (HM2.out.1 hg)]; exact HM.out)
          clear hm2
          go_enter Try.func30, Try.ntmps30
          go_wp2_with fail
          (with_reducible refine (l1In_yes t 1 100 HT.out _).mono ?_)
          rintro e w1 ⟨rfl, rfl⟩
          go_wp2_with fail
          (with_reducible refine (specCd b t q ⟨⟨hb1, hb3⟩, HT.out⟩ HQ.out _).mono ?_)
          rintro e w1 ⟨rfl, rfl⟩
          go_wp2_with fail
          (with_reducible refine (specMax 1 q m HM.out.symm _).mono ?_)
          rintro e w1 ⟨rfl, rfl⟩
          go_wp2_with fail
          go_ret
          exact ⟨by rw [HE.out]; rfl, Below.refl _ _⟩
        · have HE := Lib.hid (show v = 0 by rw [← HV.out]; exact fcnt_no fun h => hg (HM2.out.2 h.2.2))
          clear hm2
          go_enter Try.func30, Try.ntmps30
          go_wp2_with fail
          (with_reducible refine (l1In_yes t 1 100 HT.out _).mono ?_)
          rintro e w1 ⟨rfl, rfl⟩
          go_wp2_with fail
          (with_reducible refine (specCd b t q ⟨⟨hb1, hb3⟩, HT.out⟩ HQ.out _).mono ?_)
          rintro e w1 ⟨rfl, rfl⟩
          go_wp2_with fail
          (with_reducible refine (specMax 1 q m HM.out.symm _).mono ?_)
          rintro e w1 ⟨rfl, rfl⟩
          go_wp2_with fail
          go_ret
          exact ⟨by rw [HE.out]; rfl, Below.refl _ _⟩
      · have HE := Lib.hid (show v = 0 by rw [← HV.out]; exact fcnt_no fun h => by omega)
        go_enter Try.func30, Try.ntmps30
        go_wp2_with fail
        (with_reducible refine (l1In_yes t 1 100 HT.out _).mono ?_)
        rintro e w1 ⟨rfl, rfl⟩
        go_wp2_with fail
        (with_reducible refine (specCd0 b t (by omega) _).mono ?_)
        rintro e w1 ⟨rfl, rfl⟩
        go_wp2_with fail
        (with_reducible refine (specMax 1 0 1 rfl _).mono ?_)
        rintro e w1 ⟨rfl, rfl⟩
        go_wp2_with fail
        go_ret
        exact ⟨by rw [HE.out]; rfl, Below.refl _ _⟩
    · have HT := Lib.hid ht
      have HE := Lib.hid (show v = 0 by rw [← HV.out]; exact fcnt_no fun h => ht h.1)
      clear ht
      go_enter Try.func30, Try.ntmps30
      go_wp2_with fail
      (with_reducible refine (l1In_no t 1 100 HT.out _).mono ?_)
      rintro e w1 ⟨rfl, rfl⟩
      go_wp2_with fail
      go_ret
      exact ⟨by rw [HE.out]; rfl, Below.refl _ _⟩
end Go.Proofs.Ytjmenbpalihnnaa.fr
