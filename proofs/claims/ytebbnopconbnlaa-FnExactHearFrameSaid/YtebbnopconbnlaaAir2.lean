/- Slots of frames and exchanges, the highest rate, delivery: the program's and the specification's functions. Condition: none. -/
import Derived.Test.YtebbnopconbnlaaAir1
namespace Go.Proofs.Ytebbnopconbnlaa.airs
open Go.RowKit sl harn rng

def fs (r n : Int) : Int := if Vr r ∧ (0 ≤ n ∧ n ≤ 1000000000000) then 1 + (n + bps r - 1) / bps r else 0
def es (r n : Int) (b : Bool) : Int := if fs r n = 0 then 0 else fs r n + (if b then 3 else 1)
def hi (q : Int) : Int := if 80 ≤ q then 3 else if 50 ≤ q then 2 else if 30 ≤ q then 1 else if 10 ≤ q then 0 else -1
def pct (r q : Int) : Int := if Vr r ∧ (0 ≤ q ∧ q ≤ 100) ∧ req r ≤ q then (if 50 + 5 * (q - req r) < 100 then 50 + 5 * (q - req r) else 100) else 0
def fd (r q t : Int) : Bool := decide (0 ≤ t ∧ t ≤ pct r q - 1)
def ex (r n q : Int) : Int := if fs r n = 0 ∨ pct r q = 0 then -1 else ((fs r n + 1) * 100 + pct r q - 1) / pct r q
theorem bps_rng {r : Int} (h : Vr r) : 4 ≤ bps r ∧ bps r ≤ 24 := by rcases vr_cases h with rfl | rfl | rfl | rfl <;> decide
theorem req_rng {r : Int} (h : Vr r) : 10 ≤ req r ∧ req r ≤ 80 := by rcases vr_cases h with rfl | rfl | rfl | rfl <;> decide
theorem req_rng0 (r : Int) : 0 ≤ req r ∧ req r ≤ 80 := by
  by_cases h : Vr r
  · have := req_rng h; omega
  · rw [req_no h]; omega
theorem quo_rng {n c q : Int} (hn : 0 ≤ n ∧ n ≤ 1000000000000) (hc : 4 ≤ c ∧ c ≤ 24) (hq : (n + c - 1) / c = q) : 0 ≤ q ∧ q ≤ 1000000000000 := by
  subst hq
  constructor
  · exact Int.ediv_nonneg (by omega) (by omega)
  · have : (n + c - 1) / c < 1000000000001 := Int.ediv_lt_of_lt_mul (by omega) (by omega)
    omega
theorem fs_rng (r n : Int) : fs r n = 0 ∨ (1 ≤ fs r n ∧ fs r n ≤ 1000000000001) := by
  unfold fs
  split
  · next h =>
    have := quo_rng h.2 (bps_rng h.1) rfl
    right; omega
  · exact Or.inl rfl
theorem pct_rng (r q : Int) : pct r q = 0 ∨ (50 ≤ pct r q ∧ pct r q ≤ 100) := by
  unfold pct
  split
  · next h =>
    right; split <;> omega
  · exact Or.inl rfl

theorem implCd (n c q : Int) (h : (0 ≤ n ∧ n ≤ 1000000000000) ∧ (4 ≤ c ∧ c ≤ 24)) (hq : (n + c - 1) / c = q) (w : World) :
    Calls Try.prog 52 #[.int .i64 n, .int .i64 c] w fun e w' => e = .returned (.int .i64 q) ∧ w = w' := by
  have H1 := Lib.hid h.1
  have H2 := Lib.hid (show 1 ≤ c ∧ c ≤ 1000000000000 by omega)
  have HQ := Lib.hid hq
  obtain ⟨⟨h1, h2⟩, h3, h4⟩ := h
  clear hq
  go_enter Try.func52, Try.ntmps52
  go_wp2_with fail
  (with_reducible refine (inRange_yes n 0 1000000000000 H1.out _).mono ?_)
  rintro e w1 ⟨rfl, rfl⟩
  go_wp2_with fail
  (with_reducible refine (inRange_yes c 1 1000000000000 H2.out _).mono ?_)
  rintro e w1 ⟨rfl, rfl⟩
  go_wp2_with fail
  go_ret
  exact ⟨by rw [← HQ.out]; rfl, rfl⟩
theorem implFs (r n : Int) (w : World) :
    Calls Try.prog 25 #[.int .i64 r, .int .i64 n] w (Num (fs r n) w) := by
  by_cases h : Vr r
  · by_cases hn : 0 ≤ n ∧ n ≤ 1000000000000
    · obtain ⟨q, hq⟩ : ∃ q, (n + bps r - 1) / bps r = q := ⟨_, rfl⟩
      have hf : fs r n = 1 + q := by unfold fs; rw [if_pos ⟨h, hn⟩, hq]
      obtain ⟨g, hg⟩ : ∃ g, fs r n = g := ⟨_, rfl⟩
      rw [hg] at hf ⊢
      obtain ⟨c, hc⟩ : ∃ c, bps r = c := ⟨_, rfl⟩
      rw [hc] at hq
      have HC := Lib.hid hc
      have HR := Lib.hid (hc ▸ bps_rng h)
      have HQR := quo_rng hn HR.out hq
      have HQ := Lib.hid hq
      have HN := Lib.hid hn
      have H := Lib.hid h
      have HG := Lib.hid hf
      obtain ⟨q1, q2⟩ := HQR
      clear hf hg hc hq hn h
      go_enter Try.func25, Try.ntmps25
      go_wp2_with fail
      (with_reducible refine (implVr_yes r H.out _).mono ?_)
      rintro e w1 ⟨rfl, rfl⟩
      go_wp2_with fail
      (with_reducible refine (inRange_yes n 0 1000000000000 HN.out _).mono ?_)
      rintro e w1 ⟨rfl, rfl⟩
      go_wp2_with fail
      (with_reducible refine (implBps r _).mono ?_)
      intro e w1 hpost
      obtain ⟨rfl, hb⟩ := hpost.parts HC.out
      have B := Lib.hid hb
      clear hpost hb
      go_wp2_with fail
      (with_reducible refine (implCd n c q ⟨HN.out, HR.out⟩ HQ.out _).mono ?_)
      rintro e w2 ⟨rfl, rfl⟩
      go_wp2_with fail
      go_ret
      exact num_end HG.out B.out
    · have hf : fs r n = 0 := by unfold fs; rw [if_neg (fun k => hn k.2)]
      rw [hf]
      have HN := Lib.hid hn
      have H := Lib.hid h
      clear hf hn h
      go_enter Try.func25, Try.ntmps25
      go_wp2_with fail
      (with_reducible refine (implVr_yes r H.out _).mono ?_)
      rintro e w1 ⟨rfl, rfl⟩
      go_wp2_with fail
      (with_reducible refine (inRange_no n 0 1000000000000 HN.out _).mono ?_)
      rintro e w1 ⟨rfl, rfl⟩
      go_wp2_with fail
      go_ret
      exact ⟨rfl, Below.refl _ _⟩
  · have hf : fs r n = 0 := by unfold fs; rw [if_neg (fun k => h k.1)]
    rw [hf]
    have H := Lib.hid h
    clear hf h
    go_enter Try.func25, Try.ntmps25
    go_wp2_with fail
    (with_reducible refine (implVr_no r H.out _).mono ?_)
    rintro e w1 ⟨rfl, rfl⟩
    go_wp2_with fail
    go_ret
    exact ⟨rfl, Below.refl _ _⟩
theorem specCd (n c q : Int) (h : (0 ≤ n ∧ n ≤ 1000000000000) ∧ (4 ≤ c ∧ c ≤ 24)) (hq : (n + c - 1) / c = q) (w : World) :
    Calls Try.prog 69 #[.int .i64 n, .int .i64 c] w fun e w' => e = .returned (.int .i64 q) ∧ w = w' := by
  have H1 := Lib.hid h.1
  have H2 := Lib.hid (show 1 ≤ c ∧ c ≤ 1000000000000 by omega)
  have HQ := Lib.hid hq
  obtain ⟨⟨h1, h2⟩, h3, h4⟩ := h
  clear hq
  go_enter Try.func69, Try.ntmps69
  go_wp2_with fail
  (with_reducible refine (l1In_yes n 0 1000000000000 H1.out _).mono ?_)
  rintro e w1 ⟨rfl, rfl⟩
  go_wp2_with fail
  (with_reducible refine (l1In_yes c 1 1000000000000 H2.out _).mono ?_)
  rintro e w1 ⟨rfl, rfl⟩
  go_wp2_with fail
  go_ret
  exact ⟨by rw [← HQ.out]; rfl, rfl⟩
theorem specFs (r n : Int) (w : World) :
    Calls Try.prog 57 #[.int .i64 r, .int .i64 n] w (Num (fs r n) w) := by
  by_cases h : Vr r
  · by_cases hn : 0 ≤ n ∧ n ≤ 1000000000000
    · obtain ⟨q, hq⟩ : ∃ q, (n + bps r - 1) / bps r = q := ⟨_, rfl⟩
      have hf : fs r n = 1 + q := by unfold fs; rw [if_pos ⟨h, hn⟩, hq]
      obtain ⟨g, hg⟩ : ∃ g, fs r n = g := ⟨_, rfl⟩
      rw [hg] at hf ⊢
      obtain ⟨c, hc⟩ : ∃ c, bps r = c := ⟨_, rfl⟩
      rw [hc] at hq
      have HC := Lib.hid hc
      have HR := Lib.hid (hc ▸ bps_rng h)
      have HQR := quo_rng hn HR.out hq
      have HQ := Lib.hid hq
      have HN := Lib.hid hn
      have H := Lib.hid h
      have HG := Lib.hid hf
      obtain ⟨q1, q2⟩ := HQR
      clear hf hg hc hq hn h
      go_enter Try.func57, Try.ntmps57
      go_wp2_with fail
      (with_reducible refine (specVr_yes r H.out _).mono ?_)
      rintro e w1 ⟨rfl, rfl⟩
      go_wp2_with fail
      (with_reducible refine (l1In_yes n 0 1000000000000 HN.out _).mono ?_)
      rintro e w1 ⟨rfl, rfl⟩
      go_wp2_with fail
      (with_reducible refine (specBps r _).mono ?_)
      intro e w1 hpost
      obtain ⟨rfl, hb⟩ := hpost.parts HC.out
      have B := Lib.hid hb
      clear hpost hb
      go_wp2_with fail
      (with_reducible refine (specCd n c q ⟨HN.out, HR.out⟩ HQ.out _).mono ?_)
      rintro e w2 ⟨rfl, rfl⟩
      go_wp2_with fail
      go_ret
      exact num_end HG.out B.out
    · have hf : fs r n = 0 := by unfold fs; rw [if_neg (fun k => hn k.2)]
      rw [hf]
      have HN := Lib.hid hn
      have H := Lib.hid h
      clear hf hn h
      go_enter Try.func57, Try.ntmps57
      go_wp2_with fail
      (with_reducible refine (specVr_yes r H.out _).mono ?_)
      rintro e w1 ⟨rfl, rfl⟩
      go_wp2_with fail
      (with_reducible refine (l1In_no n 0 1000000000000 HN.out _).mono ?_)
      rintro e w1 ⟨rfl, rfl⟩
      go_wp2_with fail
      go_ret
      exact ⟨rfl, Below.refl _ _⟩
  · have hf : fs r n = 0 := by unfold fs; rw [if_neg (fun k => h k.1)]
    rw [hf]
    have H := Lib.hid h
    clear hf h
    go_enter Try.func57, Try.ntmps57
    go_wp2_with fail
    (with_reducible refine (specVr_no r H.out _).mono ?_)
    rintro e w1 ⟨rfl, rfl⟩
    go_wp2_with fail
    go_ret
    exact ⟨rfl, Below.refl _ _⟩
/-- The highest rate among the first k. -/
def bst (q : Int) : Nat → Int
  | 0 => -1
  | k + 1 => if req k ≤ q then (k : Int) else bst q k
theorem bst_hi (q : Int) : bst q 4 = hi q := by simp [bst, hi, req]
end Go.Proofs.Ytebbnopconbnlaa.airs
