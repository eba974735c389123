/- SubframeSize, AggregateSize and FitsAggregate of both sides. Condition: up to 2^26 lengths. -/
import Derived.Test.YthgbmcdfbinpkaaAgm
import Derived.Test.YthgbmcdfbinpkaaRng
import Derived.Test.YthgbmcdfbinpkaaBox
namespace Go.Proofs.Ythgbmcdfbinpkaa.ag
open Go.RowKit sl harn rng bx
set_option linter.unusedVariables false
set_option linter.unusedSimpArgs false

set_option maxRecDepth 100000 in
set_option maxHeartbeats 4000000 in
theorem implCd (n c q : Int) (h : (0 ≤ n ∧ n ≤ 1000000000000) ∧ (1 ≤ c ∧ c ≤ 100)) (hq : (n + c - 1) / c = q) (w : World) :
    Calls Try.prog 47 #[.int .i64 n, .int .i64 c] w fun e w' => e = .returned (.int .i64 q) ∧ w = w' := by
  have H1 := Lib.hid h.1
  have H2 := Lib.hid (show 1 ≤ c ∧ c ≤ 1000000000000 by omega)
  have HQ := Lib.hid hq
  obtain ⟨⟨h1, h2⟩, h3, h4⟩ := h
  clear hq
  go_enter Try.func47, Try.ntmps47
  go_wp2_with fail
  (with_reducible refine (inRange_yes n 0 1000000000000 H1.out _).mono ?_)
  rintro e w1 ⟨rfl, rfl⟩
  go_wp2_with fail
  (with_reducible refine (inRange_yes c 1 1000000000000 H2.out _).mono ?_)
  rintro e w1 ⟨rfl, rfl⟩
  go_wp2_with fail
  go_ret
  exact ⟨by rw [← HQ.out]; rfl, rfl⟩
set_option maxRecDepth 100000 in
set_option maxHeartbeats 4000000 in
theorem specCd (n c q : Int) (h : (0 ≤ n ∧ n ≤ 1000000000000) ∧ (1 ≤ c ∧ c ≤ 100)) (hq : (n + c - 1) / c = q) (w : World) :
    Calls Try.prog 58 #[.int .i64 n, .int .i64 c] w fun e w' => e = .returned (.int .i64 q) ∧ w = w' := by
  have H1 := Lib.hid h.1
  have H2 := Lib.hid (show 1 ≤ c ∧ c ≤ 1000000000000 by omega)
  have HQ := Lib.hid hq
  obtain ⟨⟨h1, h2⟩, h3, h4⟩ := h
  clear hq
  go_enter Try.func58, Try.ntmps58
  go_wp2_with fail
  (with_reducible refine (l1In_yes n 0 1000000000000 H1.out _).mono ?_)
  rintro e w1 ⟨rfl, rfl⟩
  go_wp2_with fail
  (with_reducible refine (l1In_yes c 1 1000000000000 H2.out _).mono ?_)
  rintro e w1 ⟨rfl, rfl⟩
  go_wp2_with fail
  go_ret
  exact ⟨by rw [← HQ.out]; rfl, rfl⟩
set_option maxRecDepth 100000 in
set_option maxHeartbeats 4000000 in
theorem implFl (n : Int) (v : Bool) (h : decide (0 ≤ n ∧ n ≤ 200) = v) (w : World) :
    Calls Try.prog 46 #[.int .i64 n] w (fun e w' => e = .returned (.bool v) ∧ w = w') := by
  cases v with
  | true =>
    have H := Lib.hid (of_decide_eq_true h)
    clear h
    go_enter Try.func46, Try.ntmps46
    go_wp2_with fail
    (with_reducible refine (inRange_yes n 0 200 H.out _).mono ?_)
    rintro e w1 ⟨rfl, rfl⟩
    go_wp2_with fail
    go_ret
    exact ⟨rfl, rfl⟩
  | false =>
    have H := Lib.hid (of_decide_eq_false h)
    clear h
    go_enter Try.func46, Try.ntmps46
    go_wp2_with fail
    (with_reducible refine (inRange_no n 0 200 H.out _).mono ?_)
    rintro e w1 ⟨rfl, rfl⟩
    go_wp2_with fail
    go_ret
    exact ⟨rfl, rfl⟩
theorem specFl (n : Int) (v : Bool) (h : decide (0 ≤ n ∧ n ≤ 200) = v) (w : World) :
    Calls Try.prog 54 #[.int .i64 n, .int .i64 0, .int .i64 200] w fun e w' => e = .returned (.bool v) ∧ w = w' := by
  cases v with
  | true => exact l1In_yes n 0 200 (of_decide_eq_true h) w
  | false => exact l1In_no n 0 200 (of_decide_eq_false h) w
set_option maxRecDepth 100000 in
set_option maxHeartbeats 4000000 in
theorem implSs (n : Int) (w : World) :
    Calls Try.prog 17 #[.int .i64 n] w (fun e w' => e = .returned (.int .i64 (sub n)) ∧ w = w') := by
  by_cases hr : 0 ≤ n ∧ n ≤ 200
  · have HT := Lib.hid (decide_eq_true hr)
    obtain ⟨hr0, hr1⟩ := hr
    obtain ⟨q, hq⟩ : ∃ q, (4 + n + 4 - 1) / 4 = q := ⟨_, rfl⟩
    have HQ := Lib.hid hq
    have HV := Lib.hid (show q * 4 = sub n by rw [sub_yes ⟨hr0, hr1⟩]; omega)
    have hq0 : 0 ≤ q ∧ q ≤ 60 := by omega
    clear hq
    have hw1 : IntKind.i64.wrap (4 + n) = 4 + n := IntWalk.i64_in _ (by omega)
    have hw2 : IntKind.i64.wrap (q * 4) = q * 4 := IntWalk.i64_in _ (by omega)
    go_enter Try.func17, Try.ntmps17
    go_wp2_with fail
    (with_reducible refine (implFl n true HT.out _).mono ?_)
    rintro e w1 ⟨rfl, rfl⟩
    go_wp2_with fail
    (with_reducible refine (implCd (4 + n) 4 q (by omega) HQ.out _).mono ?_)
    rintro e w1 ⟨rfl, rfl⟩
    go_wp2_with fail
    go_ret
    exact ⟨by rw [HV.out]; try rfl, rfl⟩
  · have HT := Lib.hid (decide_eq_false hr)
    have HV := Lib.hid (sub_no hr)
    clear hr
    go_enter Try.func17, Try.ntmps17
    go_wp2_with fail
    (with_reducible refine (implFl n false HT.out _).mono ?_)
    rintro e w1 ⟨rfl, rfl⟩
    go_wp2_with fail
    go_ret
    exact ⟨by rw [HV.out]; try rfl, rfl⟩
set_option maxRecDepth 100000 in
set_option maxHeartbeats 4000000 in
theorem specSs (n : Int) (w : World) :
    Calls Try.prog 36 #[.int .i64 n] w (fun e w' => e = .returned (.int .i64 (sub n)) ∧ w = w') := by
  by_cases hr : 0 ≤ n ∧ n ≤ 200
  · have HT := Lib.hid (decide_eq_true hr)
    obtain ⟨hr0, hr1⟩ := hr
    obtain ⟨q, hq⟩ : ∃ q, (n + 4 - 1) / 4 = q := ⟨_, rfl⟩
    have HQ := Lib.hid hq
    have HV := Lib.hid (show 4 + 4 * q = sub n by rw [sub_yes ⟨hr0, hr1⟩]; omega)
    have hq0 : 0 ≤ q ∧ q ≤ 60 := by omega
    clear hq
    have hw1 : IntKind.i64.wrap (4 * q) = 4 * q := IntWalk.i64_in _ (by omega)
    have hw2 : IntKind.i64.wrap (4 + 4 * q) = 4 + 4 * q := IntWalk.i64_in _ (by omega)
    go_enter Try.func36, Try.ntmps36
    go_wp2_with fail
    (with_reducible refine (specFl n true HT.out _).mono ?_)
    rintro e w1 ⟨rfl, rfl⟩
    go_wp2_with fail
    (with_reducible refine (specCd (n) 4 q (by omega) HQ.out _).mono ?_)
    rintro e w1 ⟨rfl, rfl⟩
    go_wp2_with fail
    go_ret
    exact ⟨by rw [HV.out]; try rfl, rfl⟩
  · have HT := Lib.hid (decide_eq_false hr)
    have HV := Lib.hid (sub_no hr)
    clear hr
    go_enter Try.func36, Try.ntmps36
    go_wp2_with fail
    (with_reducible refine (specFl n false HT.out _).mono ?_)
    rintro e w1 ⟨rfl, rfl⟩
    go_wp2_with fail
    go_ret
    exact ⟨by rw [HV.out]; try rfl, rfl⟩
set_option maxRecDepth 100000 in
set_option maxHeartbeats 4000000 in
theorem implAs (zs : List Int) (lo hi : Nat) (A : Option Addr) (n cap : Nat) (w : World) (h : Rd .i64 w lo hi A n cap zs) (hn : n ≤ 67108864) :
    Calls Try.prog 16 #[.slice A n cap] w (fun e w' => e = .returned (.int .i64 (sumS zs)) ∧ w = w') := by
  have hb := h.cap_
  have HL := Lib.hid h.len
  have HR := Lib.hid h
  clear h
  go_enter Try.func16, Try.ntmps16
  go_wp2_with fail
  go_loop [3, 8] (fun s i => ∃ (k : Nat) (y : Int), i = .int .i64 k ∧ s = .int .i64 y ∧ k ≤ n ∧ y = sumS (zs.take k)) (fun _ i => n - (intOf i).toNat)
  case atStart => exact ⟨0, 0, rfl, rfl, by omega, rfl⟩
  case round =>
    obtain ⟨k, y, rfl, rfl, hk, hy⟩ := hrel
    have hyr : 0 ≤ y ∧ y ≤ 204 * n := by have h1 := sumS_rng (zs.take k); rw [← hy, List.length_take] at h1; omega
    have HY := Lib.hid hy
    clear hy
    by_cases hlt : k < n
    · obtain ⟨b, off, rfl, h1, h2, hc⟩ := HR.out.at_ hlt
      obtain ⟨x, hx⟩ : ∃ x, zs.getD k 0 = x := ⟨_, rfl⟩
      rw [hx] at hc
      obtain ⟨s, hs⟩ : ∃ s, sub x = s := ⟨_, rfl⟩
      have HS := Lib.hid hs
      have hsr : 0 ≤ s ∧ s ≤ 204 := by rw [← hs]; exact sub_rng x
      have HN := Lib.hid (show y + s = sumS (zs.take (k + 1)) by rw [sumS_take (by rw [HL.out]; exact hlt), ← HY.out, hx, hs])
      have hw : IntKind.i64.wrap (y + s) = y + s := IntWalk.i64_in _ (by omega)
      clear hx hs
      have hlt2 : (k : Int) < n := by omega
      go_wp2_with fail
      (with_reducible refine (implSs x _).mono ?_)
      rw [HS.out]
      rintro e w1 ⟨rfl, rfl⟩
      go_wp2_with fail
      go_round
      case rel => exact ⟨k + 1, y + s, by go_num, rfl, by omega, HN.out⟩
      case measure => simp [intOf]; omega
    · have hlt2 : ¬ (k : Int) < n := by omega
      obtain rfl : k = n := by omega
      have HF := Lib.hid (show y = sumS zs by rw [HY.out, List.take_of_length_le (by rw [HL.out]; exact Nat.le_refl _)])
      go_wp2_with fail
      go_ret
      exact ⟨by rw [HF.out]; try rfl, rfl⟩
set_option maxRecDepth 100000 in
set_option maxHeartbeats 4000000 in
theorem specAs (zs : List Int) (lo hi : Nat) (A : Option Addr) (n cap : Nat) (w : World) (h : Rd .i64 w lo hi A n cap zs) (hn : n ≤ 67108864) :
    Calls Try.prog 37 #[.slice A n cap] w (fun e w' => e = .returned (.int .i64 (sumS zs)) ∧ w = w') := by
  have hb := h.cap_
  have HL := Lib.hid h.len
  have HR := Lib.hid h
  clear h
  go_enter Try.func37, Try.ntmps37
  go_wp2_with fail
  go_loop [3, 4] (fun s i => ∃ (k : Nat) (y : Int), i = .int .i64 k ∧ s = .int .i64 y ∧ k ≤ n ∧ y = sumS (zs.take k)) (fun _ i => n - (intOf i).toNat)
  case atStart => exact ⟨0, 0, rfl, rfl, by omega, rfl⟩
  case round =>
    obtain ⟨k, y, rfl, rfl, hk, hy⟩ := hrel
    have hyr : 0 ≤ y ∧ y ≤ 204 * n := by have h1 := sumS_rng (zs.take k); rw [← hy, List.length_take] at h1; omega
    have HY := Lib.hid hy
    clear hy
    by_cases hlt : k < n
    · obtain ⟨b, off, rfl, h1, h2, hc⟩ := HR.out.at_ hlt
      obtain ⟨x, hx⟩ : ∃ x, zs.getD k 0 = x := ⟨_, rfl⟩
      rw [hx] at hc
      obtain ⟨s, hs⟩ : ∃ s, sub x = s := ⟨_, rfl⟩
      have HS := Lib.hid hs
      have hsr : 0 ≤ s ∧ s ≤ 204 := by rw [← hs]; exact sub_rng x
      have HN := Lib.hid (show y + s = sumS (zs.take (k + 1)) by rw [sumS_take (by rw [HL.out]; exact hlt), ← HY.out, hx, hs])
      have hw : IntKind.i64.wrap (y + s) = y + s := IntWalk.i64_in _ (by omega)
      clear hx hs
      have hlt2 : (k : Int) < n := by omega
      go_wp2_with fail
      (with_reducible refine (specSs x _).mono ?_)
      rw [HS.out]
      rintro e w1 ⟨rfl, rfl⟩
      go_wp2_with fail
      go_round
      case rel => exact ⟨k + 1, y + s, by go_num, rfl, by omega, HN.out⟩
      case measure => simp [intOf]; omega
    · have hlt2 : ¬ (k : Int) < n := by omega
      obtain rfl : k = n := by omega
      have HF := Lib.hid (show y = sumS zs by rw [HY.out, List.take_of_length_le (by rw [HL.out]; exact Nat.le_refl _)])
      go_wp2_with fail
      go_ret
      exact ⟨by rw [HF.out]; try rfl, rfl⟩
set_option maxRecDepth 100000 in
set_option maxHeartbeats 4000000 in
theorem implFa (zs : List Int) (lo hi : Nat) (A : Option Addr) (n cap : Nat) (x lim : Int) (w : World) (h : Rd .i64 w lo hi A n cap zs) (hn : n ≤ 67108864) :
    Calls Try.prog 15 #[.slice A n cap, .int .i64 x, .int .i64 lim] w (fun e w' => e = .returned (.bool (fits zs x lim)) ∧ w = w') := by
  have hb := h.cap_
  have HL := Lib.hid h.len
  have HR := Lib.hid h
  have HNN := Lib.hid hn
  clear h hn
  obtain ⟨v, hv⟩ : ∃ v, fits zs x lim = v := ⟨_, rfl⟩
  have HV := Lib.hid hv
  rw [hv]
  clear hv
  by_cases hr : 0 ≤ x ∧ x ≤ 200
  · have HT := Lib.hid (decide_eq_true hr)
    have HR0 := Lib.hid hr
    clear hr
    by_cases hg0 : n < 8
    · have hg : (n : Int) < 8 := by omega
      obtain ⟨s, hs⟩ : ∃ s, sumS zs = s := ⟨_, rfl⟩
      have HS := Lib.hid hs
      have hsr : 0 ≤ s ∧ s ≤ 204 * n := by have h1 := sumS_rng zs; rw [hs, HL.out] at h1; exact h1
      obtain ⟨u, hu⟩ : ∃ u, sub x = u := ⟨_, rfl⟩
      have HX := Lib.hid hu
      have hur : 0 ≤ u ∧ u ≤ 204 := by rw [← hu]; exact sub_rng x
      have hw : IntKind.i64.wrap (s + u) = s + u := IntWalk.i64_in _ (by omega)
      have HE := Lib.hid (show v = decide (s + u ≤ lim) by rw [← HV.out]; unfold fits; rw [HL.out, hs, hu]; simp [HR0.out.1, HR0.out.2, hg0])
      clear hs hu
      go_enter Try.func15, Try.ntmps15
      go_wp2_with fail
      (with_reducible refine (implFl x true HT.out _).mono ?_)
      rintro e w1 ⟨rfl, rfl⟩
      go_wp2_with fail
      (with_reducible refine (implAs zs lo hi A n cap _ HR.out HNN.out).mono ?_)
      rw [HS.out]
      rintro e w1 ⟨rfl, rfl⟩
      go_wp2_with fail
      (with_reducible refine (implSs x _).mono ?_)
      rw [HX.out]
      rintro e w1 ⟨rfl, rfl⟩
      go_wp2_with fail
      go_ret
      exact ⟨by rw [HE.out]; try rfl, rfl⟩
    · have hg : ¬ (n : Int) < 8 := by omega
      have HE := Lib.hid (show v = false by rw [← HV.out]; unfold fits; exact decide_eq_false (fun hh => by have h1 := hh.2.1; rw [HL.out] at h1; omega))
      go_enter Try.func15, Try.ntmps15
      go_wp2_with fail
      (with_reducible refine (implFl x true HT.out _).mono ?_)
      rintro e w1 ⟨rfl, rfl⟩
      go_wp2_with fail
      go_ret
      exact ⟨by rw [HE.out]; try rfl, rfl⟩
  · have HT := Lib.hid (decide_eq_false hr)
    have HE := Lib.hid (show v = false by rw [← HV.out]; unfold fits; exact decide_eq_false (fun hh => hr hh.1))
    clear hr
    go_enter Try.func15, Try.ntmps15
    go_wp2_with fail
    (with_reducible refine (implFl x false HT.out _).mono ?_)
    rintro e w1 ⟨rfl, rfl⟩
    go_wp2_with fail
    go_ret
    exact ⟨by rw [HE.out]; try rfl, rfl⟩
set_option maxRecDepth 100000 in
set_option maxHeartbeats 4000000 in
theorem specFa (zs : List Int) (lo hi : Nat) (A : Option Addr) (n cap : Nat) (x lim : Int) (w : World) (h : Rd .i64 w lo hi A n cap zs) (hn : n ≤ 67108864) :
    Calls Try.prog 40 #[.slice A n cap, .int .i64 x, .int .i64 lim] w (fun e w' => e = .returned (.bool (fits zs x lim)) ∧ w = w') := by
  have hb := h.cap_
  have HL := Lib.hid h.len
  have HR := Lib.hid h
  have HNN := Lib.hid hn
  clear h hn
  obtain ⟨v, hv⟩ : ∃ v, fits zs x lim = v := ⟨_, rfl⟩
  have HV := Lib.hid hv
  rw [hv]
  clear hv
  by_cases hr : 0 ≤ x ∧ x ≤ 200
  · have HT := Lib.hid (decide_eq_true hr)
    have HR0 := Lib.hid hr
    clear hr
    by_cases hg0 : n < 8
    · have hg : (n : Int) < 8 := by omega
      obtain ⟨s, hs⟩ : ∃ s, sumS zs = s := ⟨_, rfl⟩
      have HS := Lib.hid hs
      have hsr : 0 ≤ s ∧ s ≤ 204 * n := by have h1 := sumS_rng zs; rw [hs, HL.out] at h1; exact h1
      obtain ⟨u, hu⟩ : ∃ u, sub x = u := ⟨_, rfl⟩
      have HX := Lib.hid hu
      have hur : 0 ≤ u ∧ u ≤ 204 := by rw [← hu]; exact sub_rng x
      have hw : IntKind.i64.wrap (s + u) = s + u := IntWalk.i64_in _ (by omega)
      have HE := Lib.hid (show v = decide (s + u ≤ lim) by rw [← HV.out]; unfold fits; rw [HL.out, hs, hu]; simp [HR0.out.1, HR0.out.2, hg0])
      clear hs hu
      go_enter Try.func40, Try.ntmps40
      go_wp2_with fail
      (with_reducible refine (specFl x true HT.out _).mono ?_)
      rintro e w1 ⟨rfl, rfl⟩
      go_wp2_with fail
      (with_reducible refine (specAs zs lo hi A n cap _ HR.out HNN.out).mono ?_)
      rw [HS.out]
      rintro e w1 ⟨rfl, rfl⟩
      go_wp2_with fail
      (with_reducible refine (specSs x _).mono ?_)
      rw [HX.out]
      rintro e w1 ⟨rfl, rfl⟩
      go_wp2_with fail
      go_ret
      exact ⟨by rw [HE.out]; try rfl, rfl⟩
    · have hg : ¬ (n : Int) < 8 := by omega
      have HE := Lib.hid (show v = false by rw [← HV.out]; unfold fits; exact decide_eq_false (fun hh => by have h1 := hh.2.1; rw [HL.out] at h1; omega))
      go_enter Try.func40, Try.ntmps40
      go_wp2_with fail
      (with_reducible refine (specFl x true HT.out _).mono ?_)
      rintro e w1 ⟨rfl, rfl⟩
      go_wp2_with fail
      go_ret
      exact ⟨by rw [HE.out]; try rfl, rfl⟩
  · have HT := Lib.hid (decide_eq_false hr)
    have HE := Lib.hid (show v = false by rw [← HV.out]; unfold fits; exact decide_eq_false (fun hh => hr hh.1))
    clear hr
    go_enter Try.func40, Try.ntmps40
    go_wp2_with fail
    (with_reducible refine (specFl x false HT.out _).mono ?_)
    rintro e w1 ⟨rfl, rfl⟩
    go_wp2_with fail
    go_ret
    exact ⟨by rw [HE.out]; try rfl, rfl⟩
end Go.Proofs.Ythgbmcdfbinpkaa.ag
