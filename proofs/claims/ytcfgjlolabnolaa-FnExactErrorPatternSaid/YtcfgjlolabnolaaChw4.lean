/- ErrorPattern, program and specification. Condition: the seed is a number of the machine. -/
import Derived.Test.YtcfgjlolabnolaaOwn
import Derived.Test.YtcfgjlolabnolaaKeyed
import Derived.Test.YtcfgjlolabnolaaRng
import Derived.Test.YtcfgjlolabnolaaChw3
namespace Go.Proofs.Ytcfgjlolabnolaa.chw
open Go.RowKit sl harn rng chm own
set_option linter.unusedVariables false

/-- The level of a position. -/
def level (seed : Int) (i : Nat) : Int := lev (hsh.kh seed [(i : Int)])
theorem square {x : Int} (h : 0 ≤ x ∧ x < 2147483647) : 0 ≤ x * x ∧ x * x ≤ 4611686014132420609 := by
  have h1 := Int.mul_nonneg h.1 h.1
  have h2 : x * x ≤ 2147483647 * 2147483647 := Int.mul_le_mul (by omega) (by omega) h.1 (by omega)
  omega
/-- What the program reckons of the hash. -/
theorem parts {x : Int} (h : 0 ≤ x ∧ x < 2147483647) : ∃ p q r : Int, x * x = p ∧ 0 ≤ p ∧ p ≤ 4611686014132420609 ∧ p % 2147483647 = q ∧ p.tmod 2147483647 = q ∧ 0 ≤ q ∧ q ≤ 2147483646 ∧ q % 1000 = r ∧ q.tmod 1000 = r ∧ 0 ≤ r ∧ r ≤ 999 ∧ lev x = r := by
  have h1 := square h
  have h2 := Int.emod_nonneg (x * x) (show (2147483647 : Int) ≠ 0 by omega)
  have h3 := Int.emod_lt_of_pos (x * x) (show (0 : Int) < 2147483647 by omega)
  have h4 := Int.emod_nonneg (x * x % 2147483647) (show (1000 : Int) ≠ 0 by omega)
  have h5 := Int.emod_lt_of_pos (x * x % 2147483647) (show (0 : Int) < 1000 by omega)
  exact ⟨_, _, _, rfl, h1.1, h1.2, rfl, Int.tmod_eq_emod_of_nonneg h1.1, h2, by omega, rfl, Int.tmod_eq_emod_of_nonneg h2, h4, by omega, rfl⟩

theorem errorLevel (seed : Int) (hs : (Lit.int .i64 seed).wf = true) (k : Nat) (hk : k ≤ 10000) (w : World) :
    Calls Try.prog 39 #[.int .i64 seed, .int .i64 k] w fun e w' => e = .returned (.int .i64 (level seed k)) ∧ Below w.heap.size w w' := by
  have HW := Lib.hid (show (Lit.int .i64 (k : Int)).wf = true from WalkArith.wf_i64 (by omega))
  have HB := Lib.hid ((Below.refl w.heap.size w).alloc (Nat.le_refl _) (.cells #[.int .i64 k] 3))
  obtain ⟨x, hx⟩ : ∃ x, hsh.kh seed [(k : Int)] = x := ⟨_, rfl⟩
  have HX := Lib.hid hx
  obtain ⟨p, q, r, e1, g1, g2, e2, e3, g3, g4, e4, e5, g5, g6, e6⟩ := parts (show 0 ≤ x ∧ x < 2147483647 by rw [← hx]; exact hsh.kh_in _ _)
  have HE := Lib.hid (show level seed k = r by unfold level; rw [hx]; exact e6)
  have hx0 : 0 ≤ x ∧ x < 2147483647 := by rw [← hx]; exact hsh.kh_in _ _
  have HS := Lib.hid hs
  clear hx e6 hs
  go_enter Try.func39, Try.ntmps39
  go_wp2_with fail
  (with_reducible refine (hsh.implKh seed HS.out [(k : Int)] _ _ _ 1 1 _ (Rd.one .i64 _ _ _ HW.out) (by omega)).mono ?_)
  rintro e w2 hpost
  obtain ⟨rfl, hb⟩ := hpost.parts HX.out
  have HB2 := Lib.hid (HB.out.trans (hb.mono HB.out.size))
  clear hb
  go_wp2_with fail
  go_ret
  rw [HE.out]
  exact ⟨rfl, HB2.out⟩
set_option maxRecDepth 100000 in
set_option maxHeartbeats 4000000 in
theorem implErr (seed c rate : Int) (hs : (Lit.int .i64 seed).wf = true) (w : World) :
    Calls Try.prog 16 #[.int .i64 seed, .int .i64 c, .int .i64 rate] w (SlPost 3 .i64 w (errs (level seed) c rate)) := by
  obtain ⟨i0, hi0, hz0, hz1, hz2⟩ := info_parts intInfo
  have HZ := Lib.hid (And.intro hi0 (And.intro hz0 (And.intro hz1 hz2)))
  have HS := Lib.hid hs
  clear hi0 hz0 hz1 hz2 hs
  by_cases hc : 0 ≤ c ∧ c ≤ 10000
  · have HC := Lib.hid hc
    obtain ⟨n, rfl⟩ := Int.eq_ofNat_of_zero_le hc.1
    have hn : n ≤ 10000 := by omega
    have HY := Lib.hid (errs_yes (f := level seed) (rate := rate) hn)
    clear hc
    go_enter Try.func16, Try.ntmps16
    go_wp2_with fail
    (with_reducible refine (inRange_yes n 0 10000 HC.out _).mono ?_)
    rintro e w1 ⟨rfl, rfl⟩
    go_wp2_with fail
    go_loopw [7, 15] (fun v i wr => ∃ k : Nat, i = .int .i64 k ∧ k ≤ n ∧ Got w wr (errN (level seed) rate k) v) (fun _ i _ => n - (intOf i).toNat)
    case atStart => exact ⟨0, rfl, by omega, _, _, _, rfl, (Ow.empty 3 .i64 w).up, (Below.refl _ _).alloc (Nat.le_refl _) _⟩
    case round =>
      obtain ⟨k, rfl, hk, A, q, cp, rfl, ho, hb⟩ := hrel
      have HO := Lib.hid ho
      have HB := Lib.hid hb
      have hq : q ≤ 10000 := by have h1 := ho.len; have := errN_len (level seed) rate k; omega
      clear ho hb
      by_cases hlt : k < n
      · have hlt2 : (k : Int) < n := by omega
        have HK := Lib.hid (show k ≤ 10000 by omega)
        have HW := Lib.hid (show (Lit.int .i64 (k : Int)).wf = true from WalkArith.wf_i64 (by omega))
        obtain ⟨v, hv⟩ : ∃ v, level seed k = v := ⟨_, rfl⟩
        have HV := Lib.hid hv
        by_cases hr : v < rate
        · have HN := Lib.hid (errN_more (f := level seed) (rate := rate) (k := k) (by rw [hv]; exact hr))
          clear hv
          go_wp2_with fail
          (with_reducible refine (errorLevel seed HS.out k HK.out _).mono ?_)
          rw [HV.out]
          rintro e w2 ⟨rfl, hb⟩
          have HO2 := Lib.hid (HO.out.below hb).up
          have HB2 := Lib.hid (HB.out.trans (hb.mono HB.out.size))
          clear hb HO HB
          go_wp2_with (at_builtin; refine wpList_app _ rfl _ _ 24 rfl 3 i0 _ .i64 Try.underlying24 HZ.out.1 HZ.out.2.1 HZ.out.2.2.1 (by rw [HZ.out.2.2.2]; omega) rfl rfl rfl (HO2.out.alloc _) (Rd.one .i64 _ _ _ HW.out) (by omega) (by have := HB2.out.size; simp; omega) ?_; intro A1 cap1 w6 ho hb1; have O6 := Lib.hid ho; have B6 := Lib.hid ((HB2.out.alloc HB2.out.size _).trans hb1); clear ho hb1)
          go_roundw
          case rel => exact ⟨k + 1, by go_num, by omega, _, _, _, rfl, by rw [HN.out]; exact O6.out, B6.out⟩
          case measure => simp [intOf]; omega
        · have HN := Lib.hid (errN_less (f := level seed) (rate := rate) (k := k) (by rw [hv]; exact hr))
          clear hv
          go_wp2_with fail
          (with_reducible refine (errorLevel seed HS.out k HK.out _).mono ?_)
          rw [HV.out]
          rintro e w2 ⟨rfl, hb⟩
          have HO2 := Lib.hid (HO.out.below hb).up
          have HB2 := Lib.hid (HB.out.trans (hb.mono HB.out.size))
          clear hb HO HB
          go_wp2_with fail
          go_roundw
          case rel => exact ⟨k + 1, by go_num, by omega, _, _, _, rfl, by rw [HN.out]; exact HO2.out, HB2.out⟩
          case measure => simp [intOf]; omega
      · have hlt2 : ¬ (k : Int) < n := by omega
        obtain rfl : k = n := by omega
        go_wp2_with fail
        go_ret
        rw [HY.out]
        exact ⟨_, _, _, rfl, HO.out, HB.out⟩
  · have HC := Lib.hid hc
    have HY := Lib.hid (errs_no (f := level seed) (rate := rate) hc)
    clear hc
    go_enter Try.func16, Try.ntmps16
    go_wp2_with fail
    (with_reducible refine (inRange_no c 0 10000 HC.out _).mono ?_)
    rintro e w1 ⟨rfl, rfl⟩
    go_wp2_with fail
    go_ret
    rw [HY.out]
    exact ⟨_, _, _, rfl, (Ow.empty 3 .i64 w).up, (Below.refl _ _).alloc (Nat.le_refl _) _⟩
set_option maxRecDepth 100000 in
set_option maxHeartbeats 4000000 in
theorem specErr (seed c rate : Int) (hs : (Lit.int .i64 seed).wf = true) (w : World) :
    Calls Try.prog 27 #[.int .i64 seed, .int .i64 c, .int .i64 rate] w (SlPost 3 .i64 w (errs (level seed) c rate)) := by
  obtain ⟨i0, hi0, hz0, hz1, hz2⟩ := info_parts intInfo
  have HZ := Lib.hid (And.intro hi0 (And.intro hz0 (And.intro hz1 hz2)))
  have HS := Lib.hid hs
  clear hi0 hz0 hz1 hz2 hs
  by_cases hc0 : 0 < c
  · by_cases hc : c ≤ 10000
    · have HC := Lib.hid (show 0 ≤ c ∧ c ≤ 10000 by omega)
      obtain ⟨n, rfl⟩ := Int.eq_ofNat_of_zero_le (show 0 ≤ c by omega)
      have hn : n ≤ 10000 := by omega
      have HY := Lib.hid (errs_yes (f := level seed) (rate := rate) hn)
      go_enter Try.func27, Try.ntmps27
      go_wp2_with fail
      go_loopw [7, 8] (fun v i wr => ∃ k : Nat, i = .int .i64 k ∧ k ≤ n ∧ Got w wr (errN (level seed) rate k) v) (fun _ i _ => n - (intOf i).toNat)
      case atStart => exact ⟨0, rfl, by omega, _, _, _, rfl, (Ow.empty 3 .i64 w).up, (Below.refl _ _).alloc (Nat.le_refl _) _⟩
      case round =>
        obtain ⟨k, rfl, hk, A, q, cp, rfl, ho, hb⟩ := hrel
        have HO := Lib.hid ho
        have HB := Lib.hid hb
        have hq : q ≤ 10000 := by have h1 := ho.len; have := errN_len (level seed) rate k; omega
        clear ho hb
        by_cases hlt : k < n
        · have hlt2 : (k : Int) < n := by omega
          have HW := Lib.hid (show (Lit.int .i64 (k : Int)).wf = true from WalkArith.wf_i64 (by omega))
          obtain ⟨x, hx⟩ : ∃ x, hsh.kh seed [(k : Int)] = x := ⟨_, rfl⟩
          have HX := Lib.hid hx
          have hx0 : 0 ≤ x ∧ x < 2147483647 := by rw [← hx]; exact hsh.kh_in _ _
          obtain ⟨p, q1, r, e1, g1, g2, e2, e3, g3, g4, e4, e5, g5, g6, e6⟩ := parts hx0
          have hv : level seed k = r := by unfold level; rw [hx]; exact e6
          have HO0 := Lib.hid (HO.out.alloc (.cells #[.int .i64 k] 3)).up
          have HB0 := Lib.hid (HB.out.alloc HB.out.size (.cells #[.int .i64 k] 3))
          clear HO HB
          by_cases hr : r < rate
          · have HN := Lib.hid (errN_more (f := level seed) (rate := rate) (k := k) (by rw [hv]; exact hr))
            clear hv hx e6
            go_wp2_with fail
            (with_reducible refine (l1In_yes n 0 10000 HC.out _).mono ?_)
            rintro e w2 ⟨rfl, rfl⟩
            go_wp2_with fail
            (with_reducible refine (hsh.specKh seed HS.out [(k : Int)] _ _ _ 1 1 _ (Rd.one .i64 _ _ _ HW.out) (by omega)).mono ?_)
            rintro e w2 hpost
            obtain ⟨rfl, hb⟩ := hpost.parts HX.out
            have HO2 := Lib.hid (HO0.out.below hb).up
            have HB2 := Lib.hid (HB0.out.trans (hb.mono HB0.out.size))
            clear hb HO0 HB0
            go_wp2_with (at_builtin; refine wpList_app _ rfl _ _ 24 rfl 3 i0 _ .i64 Try.underlying24 HZ.out.1 HZ.out.2.1 HZ.out.2.2.1 (by rw [HZ.out.2.2.2]; omega) rfl rfl rfl (HO2.out.alloc _) (Rd.one .i64 _ _ _ HW.out) (by omega) (by have := HB2.out.size; simp; omega) ?_; intro A1 cap1 w6 ho hb1; have O6 := Lib.hid ho; have B6 := Lib.hid ((HB2.out.alloc HB2.out.size _).trans hb1); clear ho hb1)
            go_roundw
            case rel => exact ⟨k + 1, by go_num, by omega, _, _, _, rfl, by rw [HN.out]; exact O6.out, B6.out⟩
            case measure => simp [intOf]; omega
          · have HN := Lib.hid (errN_less (f := level seed) (rate := rate) (k := k) (by rw [hv]; exact hr))
            clear hv hx e6
            go_wp2_with fail
            (with_reducible refine (l1In_yes n 0 10000 HC.out _).mono ?_)
            rintro e w2 ⟨rfl, rfl⟩
            go_wp2_with fail
            (with_reducible refine (hsh.specKh seed HS.out [(k : Int)] _ _ _ 1 1 _ (Rd.one .i64 _ _ _ HW.out) (by omega)).mono ?_)
            rintro e w2 hpost
            obtain ⟨rfl, hb⟩ := hpost.parts HX.out
            have HO2 := Lib.hid (HO0.out.below hb).up
            have HB2 := Lib.hid (HB0.out.trans (hb.mono HB0.out.size))
            clear hb HO0 HB0
            go_wp2_with fail
            go_roundw
            case rel => exact ⟨k + 1, by go_num, by omega, _, _, _, rfl, by rw [HN.out]; exact HO2.out, HB2.out⟩
            case measure => simp [intOf]; omega
        · have hlt2 : ¬ (k : Int) < n := by omega
          obtain rfl : k = n := by omega
          go_wp2_with fail
          go_ret
          rw [HY.out]
          exact ⟨_, _, _, rfl, HO.out, HB.out⟩
    · have HC := Lib.hid (show ¬ (0 ≤ c ∧ c ≤ 10000) from fun g => hc g.2)
      have HY := Lib.hid (errs_no (f := level seed) (rate := rate) HC.out)
      go_enter Try.func27, Try.ntmps27
      go_wp2_with fail
      go_loopw [7, 8] (fun v i wr => v = .slice (some ⟨w.heap.size, 0, none⟩) 0 0 ∧ i = .int .i64 0 ∧ wr = w.alloc (.cells #[] 3)) (fun _ _ _ => 0)
      case atStart => exact ⟨rfl, rfl, rfl⟩
      case round =>
        obtain ⟨rfl, rfl, rfl⟩ := hrel
        go_wp2_with fail
        (with_reducible refine (l1In_no c 0 10000 HC.out _).mono ?_)
        rintro e w1 ⟨rfl, rfl⟩
        go_wp2_with fail
        go_ret
        rw [HY.out]
        exact ⟨_, _, _, rfl, (Ow.empty 3 .i64 w).up, (Below.refl _ _).alloc (Nat.le_refl _) _⟩
  · have HY : Hid (errs (level seed) c rate = []) := by
      unfold Hid
      by_cases h0 : c = 0
      · subst h0
        exact (errs_yes (n := 0) (by omega)).trans rfl
      · exact errs_no fun g => by omega
    go_enter Try.func27, Try.ntmps27
    go_wp2_with fail
    go_loopw [7, 8] (fun v i wr => v = .slice (some ⟨w.heap.size, 0, none⟩) 0 0 ∧ i = .int .i64 0 ∧ wr = w.alloc (.cells #[] 3)) (fun _ _ _ => 0)
    case atStart => exact ⟨rfl, rfl, rfl⟩
    case round =>
      obtain ⟨rfl, rfl, rfl⟩ := hrel
      go_wp2_with fail
      go_ret
      rw [HY.out]
      exact ⟨_, _, _, rfl, (Ow.empty 3 .i64 w).up, (Below.refl _ _).alloc (Nat.le_refl _) _⟩
end Go.Proofs.Ytcfgjlolabnolaa.chw
