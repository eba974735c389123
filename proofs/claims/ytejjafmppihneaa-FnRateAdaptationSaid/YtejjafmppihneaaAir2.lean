/- Slots of frames and exchanges, the highest rate, delivery: the program's and the specification's functions. Condition: none. -/
import Derived.Test.YtejjafmppihneaaAir1
namespace Go.Proofs.Ytejjafmppihneaa.airs
open Go.RowKit sl harn rng

def fs (r n : Int) : Int := if Vr r ∧ (0 ≤ n ∧ n ≤ 1000000000000) then 1 + (n + bps r - 1) / bps r else 0
def es (r n : Int) (b : Bool) : Int := if fs r n = 0 then 0 else fs r n + (if b then 3 else 1)
def hi (q : Int) : Int := if 80 ≤ q then 3 else if 50 ≤ q then 2 else if 30 ≤ q then 1 else if 10 ≤ q then 0 else -1
def pct (r q : Int) : Int := if Vr r ∧ (0 ≤ q ∧ q ≤ 100) ∧ req r ≤ q then (if 50 + 5 * (q - req r) < 100 then 50 + 5 * (q - req r) else 100) else 0
def fd (r q t : Int) : Bool := decide (0 ≤ t ∧ t ≤ pct r q - 1)
def ex (r n q : Int) : Int := if fs r n = 0 ∨ pct r q = 0 then -1 else ((fs r n + 1) * 100 + pct r q - 1) / pct r q
theorem bps_rng {r : Int} (h : Vr r) : 4 ≤ bps r ∧ bps r ≤ 24 := by rcases vr_cases h with rfl | rfl | rfl | rfl <;> decide
theorem req_rng {r : Int} (h : Vr r) : 10 ≤ req r ∧ req r ≤ 80 := by rcases vr_cases h with rfl | rfl | rfl | rfl <;> decide
theorem req_rng0 (r : Int) : 0 ≤ req r ∧ req r ≤ 80 := by
  by_cases h : Vr r
  · have := req_rng h; omega
  · rw [req_no h]; omega
theorem quo_rng {n c q : Int} (hn : 0 ≤ n ∧ n ≤ 1000000000000) (hc : 4 ≤ c ∧ c ≤ 24) (hq : (n + c - 1) / c = q) : 0 ≤ q ∧ q ≤ 1000000000000 := by
  subst hq
  constructor
  · exact Int.ediv_nonneg (by omega) (by omega)
  · have : (n + c - 1) / c < 1000000000001 := Int.ediv_lt_of_lt_mul (by omega) (by omega)
    omega
theorem fs_rng (r n : Int) : fs r n = 0 ∨ (1 ≤ fs r n ∧ fs r n ≤ 1000000000001) := by
  unfold fs
  split
  · next h =>
    have := quo_rng h.2 (bps_rng h.1) rfl
    right; omega
  · exact Or.inl rfl
theorem pct_rng (r q : Int) : pct r q = 0 ∨ (50 ≤ pct r q ∧ pct r q ≤ 100) := by
  unfold pct
  split
  · next h =>
    right; split <;> omega
  · exact Or.inl rfl

theorem implCd (n c q : Int) (h : (0 ≤ n ∧ n ≤ 1000000000000) ∧ (4 ≤ c ∧ c ≤ 24)) (hq : (n + c - 1) / c = q) (w : World) :
    Calls Try.prog 85 #[.int .i64 n, .int .i64 c] w fun e w' => e = .returned (.int .i64 q) ∧ w = w' := by
  have H1 := Lib.hid h.1
  have H2 := Lib.hid (show 1 ≤ c ∧ c ≤ 1000000000000 by omega)
  have HQ := Lib.hid hq
  obtain ⟨⟨h1, h2⟩, h3, h4⟩ := h
  clear hq
  go_enter Try.func85, Try.ntmps85
  go_wp2_with fail
  (with_reducible refine (inRange_yes n 0 1000000000000 H1.out _).mono ?_)
  rintro e w1 ⟨rfl, rfl⟩
  go_wp2_with fail
  (with_reducible refine (inRange_yes c 1 1000000000000 H2.out _).mono ?_)
  rintro e w1 ⟨rfl, rfl⟩
  go_wp2_with fail
  go_ret
  exact ⟨by rw [← HQ.out]; rfl, rfl⟩
theorem implFs (r n : Int) (w : World) :
    Calls Try.prog 55 #[.int .i64 r, .int .i64 n] w (Num (fs r n) w) := by
  by_cases h : Vr r
  · by_cases hn : 0 ≤ n ∧ n ≤ 1000000000000
    · obtain ⟨q, hq⟩ : ∃ q, (n + bps r - 1) / bps r = q := ⟨_, rfl⟩
      have hf : fs r n = 1 + q := by unfold fs; rw [if_pos ⟨h, hn⟩, hq]
      obtain ⟨g, hg⟩ : ∃ g, fs r n = g := ⟨_, rfl⟩
      rw [hg] at hf ⊢
      obtain ⟨c, hc⟩ : ∃ c, bps r = c := ⟨_, rfl⟩
      rw [hc] at hq
      have HC := Lib.hid hc
      have HR := Lib.hid (hc ▸ bps_rng h)
      have HQR := quo_rng hn HR.out hq
      have HQ := Lib.hid hq
      have HN := Lib.hid hn
      have H := Lib.hid h
      have HG := Lib.hid hf
      obtain ⟨q1, q2⟩ := HQR
      clear hf hg hc hq hn h
      go_enter Try.func55, Try.ntmps55
      go_wp2_with fail
      (with_reducible refine (implVr_yes r H.out _).mono ?_)
      rintro e w1 ⟨rfl, rfl⟩
      go_wp2_with fail
      (with_reducible refine (inRange_yes n 0 1000000000000 HN.out _).mono ?_)
      rintro e w1 ⟨rfl, rfl⟩
      go_wp2_with fail
      (with_reducible refine (implBps r _).mono ?_)
      intro e w1 hpost
      obtain ⟨rfl, hb⟩ := hpost.parts HC.out
      have B := Lib.hid hb
      clear hpost hb
      go_wp2_with fail
      (with_reducible refine (implCd n c q ⟨HN.out, HR.out⟩ HQ.out _).mono ?_)
      rintro e w2 ⟨rfl, rfl⟩
      go_wp2_with fail
      go_ret
      exact num_end HG.out B.out
    · have hf : fs r n = 0 := by unfold fs; rw [if_neg (fun k => hn k.2)]
      rw [hf]
      have HN := Lib.hid hn
      have H := Lib.hid h
      clear hf hn h
      go_enter Try.func55, Try.ntmps55
      go_wp2_with fail
      (with_reducible refine (implVr_yes r H.out _).mono ?_)
      rintro e w1 ⟨rfl, rfl⟩
      go_wp2_with fail
      (with_reducible refine (inRange_no n 0 1000000000000 HN.out _).mono ?_)
      rintro e w1 ⟨rfl, rfl⟩
      go_wp2_with fail
      go_ret
      exact ⟨rfl, Below.refl _ _⟩
  · have hf : fs r n = 0 := by unfold fs; rw [if_neg (fun k => h k.1)]
    rw [hf]
    have H := Lib.hid h
    clear hf h
    go_enter Try.func55, Try.ntmps55
    go_wp2_with fail
    (with_reducible refine (implVr_no r H.out _).mono ?_)
    rintro e w1 ⟨rfl, rfl⟩
    go_wp2_with fail
    go_ret
    exact ⟨rfl, Below.refl _ _⟩
theorem implEs (r n : Int) (b : Bool) (w : World) :
    Calls Try.prog 20 #[.int .i64 r, .int .i64 n, .bool b] w (Num (es r n b) w) := by
  obtain ⟨g, hg⟩ : ∃ g, fs r n = g := ⟨_, rfl⟩
  have hr := fs_rng r n
  have he : es r n b = if g = 0 then 0 else g + (if b then 3 else 1) := by unfold es; rw [hg]
  obtain ⟨v, hv⟩ : ∃ v, es r n b = v := ⟨_, rfl⟩
  rw [hg] at hr
  rw [hv] at he ⊢
  have HG := Lib.hid hg
  clear hg hv
  rcases hr with rfl | ⟨h1, h2⟩
  · rw [if_pos rfl] at he
    subst he
    go_enter Try.func20, Try.ntmps20
    go_wp2_with fail
    (with_reducible refine (implFs r n _).mono ?_)
    intro e w1 hpost
    obtain ⟨rfl, hb⟩ := hpost.parts HG.out
    have B := Lib.hid hb
    clear hpost hb
    go_wp2_with fail
    go_ret
    exact ⟨rfl, B.out⟩
  · rw [if_neg (by omega)] at he
    have hne : ¬ g = 0 := by omega
    cases b with
    | false =>
      have HE := Lib.hid (show v = g + 1 by simpa using he)
      clear he
      go_enter Try.func20, Try.ntmps20
      go_wp2_with fail
      (with_reducible refine (implFs r n _).mono ?_)
      intro e w1 hpost
      obtain ⟨rfl, hb⟩ := hpost.parts HG.out
      have B := Lib.hid hb
      clear hpost hb
      go_wp2_with fail
      go_ret
      exact num_end HE.out B.out
    | true =>
      have HE := Lib.hid (show v = g + 3 by simpa using he)
      clear he
      go_enter Try.func20, Try.ntmps20
      go_wp2_with fail
      (with_reducible refine (implFs r n _).mono ?_)
      intro e w1 hpost
      obtain ⟨rfl, hb⟩ := hpost.parts HG.out
      have B := Lib.hid hb
      clear hpost hb
      go_wp2_with fail
      go_ret
      first
        | exact num_end HE.out B.out
        | exact num_end (by rw [HE.out]; omega) B.out
theorem specCd (n c q : Int) (h : (0 ≤ n ∧ n ≤ 1000000000000) ∧ (4 ≤ c ∧ c ≤ 24)) (hq : (n + c - 1) / c = q) (w : World) :
    Calls Try.prog 123 #[.int .i64 n, .int .i64 c] w fun e w' => e = .returned (.int .i64 q) ∧ w = w' := by
  have H1 := Lib.hid h.1
  have H2 := Lib.hid (show 1 ≤ c ∧ c ≤ 1000000000000 by omega)
  have HQ := Lib.hid hq
  obtain ⟨⟨h1, h2⟩, h3, h4⟩ := h
  clear hq
  go_enter Try.func123, Try.ntmps123
  go_wp2_with fail
  (with_reducible refine (l1In_yes n 0 1000000000000 H1.out _).mono ?_)
  rintro e w1 ⟨rfl, rfl⟩
  go_wp2_with fail
  (with_reducible refine (l1In_yes c 1 1000000000000 H2.out _).mono ?_)
  rintro e w1 ⟨rfl, rfl⟩
  go_wp2_with fail
  go_ret
  exact ⟨by rw [← HQ.out]; rfl, rfl⟩
theorem specFs (r n : Int) (w : World) :
    Calls Try.prog 105 #[.int .i64 r, .int .i64 n] w (Num (fs r n) w) := by
  by_cases h : Vr r
  · by_cases hn : 0 ≤ n ∧ n ≤ 1000000000000
    · obtain ⟨q, hq⟩ : ∃ q, (n + bps r - 1) / bps r = q := ⟨_, rfl⟩
      have hf : fs r n = 1 + q := by unfold fs; rw [if_pos ⟨h, hn⟩, hq]
      obtain ⟨g, hg⟩ : ∃ g, fs r n = g := ⟨_, rfl⟩
      rw [hg] at hf ⊢
      obtain ⟨c, hc⟩ : ∃ c, bps r = c := ⟨_, rfl⟩
      rw [hc] at hq
      have HC := Lib.hid hc
      have HR := Lib.hid (hc ▸ bps_rng h)
      have HQR := quo_rng hn HR.out hq
      have HQ := Lib.hid hq
      have HN := Lib.hid hn
      have H := Lib.hid h
      have HG := Lib.hid hf
      obtain ⟨q1, q2⟩ := HQR
      clear hf hg hc hq hn h
      go_enter Try.func105, Try.ntmps105
      go_wp2_with fail
      (with_reducible refine (specVr_yes r H.out _).mono ?_)
      rintro e w1 ⟨rfl, rfl⟩
      go_wp2_with fail
      (with_reducible refine (l1In_yes n 0 1000000000000 HN.out _).mono ?_)
      rintro e w1 ⟨rfl, rfl⟩
      go_wp2_with fail
      (with_reducible refine (specBps r _).mono ?_)
      intro e w1 hpost
      obtain ⟨rfl, hb⟩ := hpost.parts HC.out
      have B := Lib.hid hb
      clear hpost hb
      go_wp2_with fail
      (with_reducible refine (specCd n c q ⟨HN.out, HR.out⟩ HQ.out _).mono ?_)
      rintro e w2 ⟨rfl, rfl⟩
      go_wp2_with fail
      go_ret
      exact num_end HG.out B.out
    · have hf : fs r n = 0 := by unfold fs; rw [if_neg (fun k => hn k.2)]
      rw [hf]
      have HN := Lib.hid hn
      have H := Lib.hid h
      clear hf hn h
      go_enter Try.func105, Try.ntmps105
      go_wp2_with fail
      (with_reducible refine (specVr_yes r H.out _).mono ?_)
      rintro e w1 ⟨rfl, rfl⟩
      go_wp2_with fail
      (with_reducible refine (l1In_no n 0 1000000000000 HN.out _).mono ?_)
      rintro e w1 ⟨rfl, rfl⟩
      go_wp2_with fail
      go_ret
      exact ⟨rfl, Below.refl _ _⟩
  · have hf : fs r n = 0 := by unfold fs; rw [if_neg (fun k => h k.1)]
    rw [hf]
    have H := Lib.hid h
    clear hf h
    go_enter Try.func105, Try.ntmps105
    go_wp2_with fail
    (with_reducible refine (specVr_no r H.out _).mono ?_)
    rintro e w1 ⟨rfl, rfl⟩
    go_wp2_with fail
    go_ret
    exact ⟨rfl, Below.refl _ _⟩
theorem specEs (r n : Int) (b : Bool) (w : World) :
    Calls Try.prog 90 #[.int .i64 r, .int .i64 n, .bool b] w (Num (es r n b) w) := by
  obtain ⟨g, hg⟩ : ∃ g, fs r n = g := ⟨_, rfl⟩
  have hr := fs_rng r n
  have he : es r n b = if g = 0 then 0 else g + (if b then 3 else 1) := by unfold es; rw [hg]
  obtain ⟨v, hv⟩ : ∃ v, es r n b = v := ⟨_, rfl⟩
  rw [hg] at hr
  rw [hv] at he ⊢
  have HG := Lib.hid hg
  clear hg hv
  rcases hr with rfl | ⟨h1, h2⟩
  · rw [if_pos rfl] at he
    subst he
    go_enter Try.func90, Try.ntmps90
    go_wp2_with fail
    (with_reducible refine (specFs r n _).mono ?_)
    intro e w1 hpost
    obtain ⟨rfl, hb⟩ := hpost.parts HG.out
    have B := Lib.hid hb
    clear hpost hb
    go_wp2_with fail
    go_ret
    exact ⟨rfl, B.out⟩
  · rw [if_neg (by omega)] at he
    have hne : ¬ g = 0 := by omega
    cases b with
    | false =>
      have HE := Lib.hid (show v = g + 1 by simpa using he)
      clear he
      go_enter Try.func90, Try.ntmps90
      go_wp2_with fail
      (with_reducible refine (specFs r n _).mono ?_)
      intro e w1 hpost
      obtain ⟨rfl, hb⟩ := hpost.parts HG.out
      have B := Lib.hid hb
      clear hpost hb
      go_wp2_with fail
      go_ret
      exact num_end HE.out B.out
    | true =>
      have HE := Lib.hid (show v = g + 3 by simpa using he)
      clear he
      go_enter Try.func90, Try.ntmps90
      go_wp2_with fail
      (with_reducible refine (specFs r n _).mono ?_)
      intro e w1 hpost
      obtain ⟨rfl, hb⟩ := hpost.parts HG.out
      have B := Lib.hid hb
      clear hpost hb
      go_wp2_with fail
      go_ret
      first
        | exact num_end HE.out B.out
        | exact num_end (by rw [HE.out]; omega) B.out
theorem implHi (q : Int) (w : World) :
    Calls Try.prog 14 #[.int .i64 q] w (Num (hi q) w) := by
  obtain ⟨v, hv⟩ : ∃ v, hi q = v := ⟨_, rfl⟩
  rw [hv]
  have HR := fun r W => implReq r W
  have e0 := Lib.hid (show req 0 = 10 from rfl)
  have e1 := Lib.hid (show req 1 = 30 from rfl)
  have e2 := Lib.hid (show req 2 = 50 from rfl)
  have e3 := Lib.hid (show req 3 = 80 from rfl)
  have HV := Lib.hid hv
  clear hv
  go_enter Try.func14, Try.ntmps14
  go_wp2_with fail
  go_loopw [3] (fun i W => Below w.heap.size w W ∧ ((i = .int .i64 3) ∨ (i = .int .i64 2 ∧ q < 80) ∨ (i = .int .i64 1 ∧ q < 50) ∨ (i = .int .i64 0 ∧ q < 30) ∨ (i = .int .i64 (-1) ∧ q < 10))) (fun i _ => (intOf i + 1).toNat)
  case atStart => exact ⟨Below.refl _ _, Or.inl rfl⟩
  case round =>
    obtain ⟨hb, hrel⟩ := hrel
    have B := Lib.hid hb
    clear hb
    rcases hrel with rfl | ⟨rfl, hq⟩ | ⟨rfl, hq⟩ | ⟨rfl, hq⟩ | ⟨rfl, hq⟩
    · by_cases hc : 80 ≤ q
      · have HF := Lib.hid (show v = 3 by rw [← HV.out]; unfold hi;  rw [if_pos hc])
        go_wp2_with fail
        (with_reducible refine (HR _ _).mono ?_)
        intro e w1 hpost
        obtain ⟨rfl, hb⟩ := hpost.parts e3.out
        have B1 := Lib.hid (B.out.trans (hb.mono B.out.size))
        clear hpost hb
        go_wp2_with fail
        go_ret
        exact num_end HF.out B1.out
      · have hc2 : q < 80 := by omega
        have HC := Lib.hid hc2
        clear hc2
        go_wp2_with fail
        (with_reducible refine (HR _ _).mono ?_)
        intro e w1 hpost
        obtain ⟨rfl, hb⟩ := hpost.parts e3.out
        have B1 := Lib.hid (B.out.trans (hb.mono B.out.size))
        clear hpost hb
        go_wp2_with fail

        go_roundw
        case rel => exact ⟨B1.out, Or.inr (Or.inl ⟨rfl, HC.out⟩)⟩
        case measure => simp [intOf]
    · by_cases hc : 50 ≤ q
      · have HF := Lib.hid (show v = 2 by rw [← HV.out]; unfold hi; rw [if_neg (by omega)]; rw [if_pos hc])
        go_wp2_with fail
        (with_reducible refine (HR _ _).mono ?_)
        intro e w1 hpost
        obtain ⟨rfl, hb⟩ := hpost.parts e2.out
        have B1 := Lib.hid (B.out.trans (hb.mono B.out.size))
        clear hpost hb
        go_wp2_with fail
        go_ret
        exact num_end HF.out B1.out
      · have hc2 : q < 50 := by omega
        have HC := Lib.hid hc2
        clear hc2
        go_wp2_with fail
        (with_reducible refine (HR _ _).mono ?_)
        intro e w1 hpost
        obtain ⟨rfl, hb⟩ := hpost.parts e2.out
        have B1 := Lib.hid (B.out.trans (hb.mono B.out.size))
        clear hpost hb
        go_wp2_with fail

        go_roundw
        case rel => exact ⟨B1.out, Or.inr (Or.inr (Or.inl ⟨rfl, HC.out⟩))⟩
        case measure => simp [intOf]
    · by_cases hc : 30 ≤ q
      · have HF := Lib.hid (show v = 1 by rw [← HV.out]; unfold hi; rw [if_neg (by omega)]; rw [if_neg (by omega)]; rw [if_pos hc])
        go_wp2_with fail
        (with_reducible refine (HR _ _).mono ?_)
        intro e w1 hpost
        obtain ⟨rfl, hb⟩ := hpost.parts e1.out
        have B1 := Lib.hid (B.out.trans (hb.mono B.out.size))
        clear hpost hb
        go_wp2_with fail
        go_ret
        exact num_end HF.out B1.out
      · have hc2 : q < 30 := by omega
        have HC := Lib.hid hc2
        clear hc2
        go_wp2_with fail
        (with_reducible refine (HR _ _).mono ?_)
        intro e w1 hpost
        obtain ⟨rfl, hb⟩ := hpost.parts e1.out
        have B1 := Lib.hid (B.out.trans (hb.mono B.out.size))
        clear hpost hb
        go_wp2_with fail

        go_roundw
        case rel => exact ⟨B1.out, Or.inr (Or.inr (Or.inr (Or.inl ⟨rfl, HC.out⟩)))⟩
        case measure => simp [intOf]
    · by_cases hc : 10 ≤ q
      · have HF := Lib.hid (show v = 0 by rw [← HV.out]; unfold hi; rw [if_neg (by omega)]; rw [if_neg (by omega)]; rw [if_neg (by omega)]; rw [if_pos hc])
        go_wp2_with fail
        (with_reducible refine (HR _ _).mono ?_)
        intro e w1 hpost
        obtain ⟨rfl, hb⟩ := hpost.parts e0.out
        have B1 := Lib.hid (B.out.trans (hb.mono B.out.size))
        clear hpost hb
        go_wp2_with fail
        go_ret
        exact num_end HF.out B1.out
      · have hc2 : q < 10 := by omega
        have HC := Lib.hid hc2
        clear hc2
        go_wp2_with fail
        (with_reducible refine (HR _ _).mono ?_)
        intro e w1 hpost
        obtain ⟨rfl, hb⟩ := hpost.parts e0.out
        have B1 := Lib.hid (B.out.trans (hb.mono B.out.size))
        clear hpost hb
        go_wp2_with fail

        go_roundw
        case rel => exact ⟨B1.out, Or.inr (Or.inr (Or.inr (Or.inr ⟨rfl, HC.out⟩)))⟩
        case measure => simp [intOf]
    · have HF := Lib.hid (show v = -1 by rw [← HV.out]; unfold hi; rw [if_neg (by omega), if_neg (by omega), if_neg (by omega), if_neg (by omega)])
      go_wp2_with fail
      go_ret
      exact num_end HF.out B.out
/-- The highest rate among the first k. -/
def bst (q : Int) : Nat → Int
  | 0 => -1
  | k + 1 => if req k ≤ q then (k : Int) else bst q k
theorem bst_hi (q : Int) : bst q 4 = hi q := by simp [bst, hi, req]
end Go.Proofs.Ytejjafmppihneaa.airs
