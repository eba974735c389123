/- The encoder's steps and the lengths, program and specification. Condition: none. -/
import Derived.Test.YtdelpepepbkjmaaConvm
import Derived.Test.YtdelpepepbkjmaaBits1
import Derived.Test.YtdelpepepbkjmaaDraw
namespace Go.Proofs.Ytdelpepepbkjmaa.cvs
open Go.RowKit sl harn bm rng cvm

theorem isEnc_yes (s b : Int) (h : Sb s b) (w : World) :
    Calls Try.prog 100 #[.int .i64 s, .int .i64 b] w fun e w' => e = .returned (.bool true) ∧ w = w' := by
  have H := Lib.hid h
  clear h
  go_enter Try.func100, Try.ntmps100
  go_wp2_with fail
  (with_reducible refine (inRange_yes s 0 3 (Sb.st H.out) _).mono ?_)
  rintro e w1 ⟨rfl, rfl⟩
  go_wp2_with fail
  (with_reducible refine (inRange_yes b 0 1 (Sb.bit H.out) _).mono ?_)
  rintro e w1 ⟨rfl, rfl⟩
  go_wp2_with fail
  go_ret
  exact ⟨rfl, rfl⟩
theorem isEnc_no (s b : Int) (h : ¬ Sb s b) (w : World) :
    Calls Try.prog 100 #[.int .i64 s, .int .i64 b] w fun e w' => e = .returned (.bool false) ∧ w = w' := by
  by_cases h1 : 0 ≤ s ∧ s ≤ 3
  · have H1 := Lib.hid h1
    have H2 := Lib.hid (show ¬ (0 ≤ b ∧ b ≤ 1) from fun g => h ⟨h1, g⟩)
    clear h h1
    go_enter Try.func100, Try.ntmps100
    go_wp2_with fail
    (with_reducible refine (inRange_yes s 0 3 H1.out _).mono ?_)
    rintro e w1 ⟨rfl, rfl⟩
    go_wp2_with fail
    (with_reducible refine (inRange_no b 0 1 H2.out _).mono ?_)
    rintro e w1 ⟨rfl, rfl⟩
    go_wp2_with fail
    go_ret
    exact ⟨rfl, rfl⟩
  · have H1 := Lib.hid h1
    clear h h1
    go_enter Try.func100, Try.ntmps100
    go_wp2_with fail
    (with_reducible refine (inRange_no s 0 3 H1.out _).mono ?_)
    rintro e w1 ⟨rfl, rfl⟩
    go_wp2_with fail
    go_ret
    exact ⟨rfl, rfl⟩
theorem low2 (n : Int) : bits .and .i64 n 3 = n % 4 := draw.low_bits 2 (by omega) n
theorem implNext (s b : Int) (w : World) :
    Calls Try.prog 91 #[.int .i64 s, .int .i64 b] w fun e w' => e = .returned (.int .i64 (nxt s b)) ∧ w = w' := by
  by_cases h : Sb s b
  · have H := Lib.hid h
    obtain ⟨⟨h1, h2⟩, h3, h4⟩ := h
    have hl := low2 (2 * s + b)
    have HE := Lib.hid (nxt_yes H.out)
    obtain ⟨v, hv⟩ : ∃ v, (2 * s + b) % 4 = v := ⟨_, rfl⟩
    have HV := Lib.hid (show nst s b = v from hv)
    rw [hv] at hl
    clear hv
    go_enter Try.func91, Try.ntmps91
    go_wp2_with fail
    (with_reducible refine (isEnc_yes s b H.out _).mono ?_)
    rintro e w1 ⟨rfl, rfl⟩
    go_wp2_with fail
    go_ret
    exact ⟨ret_num (by rw [HE.out, HV.out]), rfl⟩
  · have H := Lib.hid h
    have HE := Lib.hid (nxt_no h)
    clear h
    go_enter Try.func91, Try.ntmps91
    go_wp2_with fail
    (with_reducible refine (isEnc_no s b H.out _).mono ?_)
    rintro e w1 ⟨rfl, rfl⟩
    go_wp2_with fail
    go_ret
    exact ⟨ret_num HE.out.symm, rfl⟩
theorem specNext (s b : Int) (w : World) :
    Calls Try.prog 71 #[.int .i64 s, .int .i64 b] w fun e w' => e = .returned (.int .i64 (nxt s b)) ∧ w = w' := by
  by_cases hs : 0 ≤ s ∧ s ≤ 3
  · by_cases hb : 0 ≤ b ∧ b ≤ 1
    · have H := Lib.hid hs
      have H' := Lib.hid hb
      obtain ⟨h1, h2⟩ := hs
      obtain ⟨h3, h4⟩ := hb
      have hl := low2 (2 * s + b)
      have HE := Lib.hid (nxt_yes ⟨H.out, H'.out⟩)
      obtain ⟨v, hv⟩ : ∃ v, (2 * s + b) % 4 = v := ⟨_, rfl⟩
      have HV := Lib.hid (show nst s b = v from hv)
      rw [hv] at hl
      clear hv
      go_enter Try.func71, Try.ntmps71
      go_wp2_with fail
      (with_reducible refine (l1In_yes s 0 3 H.out _).mono ?_)
      rintro e w1 ⟨rfl, rfl⟩
      go_wp2_with fail
      (with_reducible refine (l1In_yes b 0 1 H'.out _).mono ?_)
      rintro e w1 ⟨rfl, rfl⟩
      go_wp2_with fail
      go_ret
      exact ⟨ret_num (by rw [HE.out, HV.out]), rfl⟩
    · have H := Lib.hid hs
      have H' := Lib.hid hb
      have HE := Lib.hid (nxt_no (s := s) (b := b) fun g => hb g.2)
      clear hs hb
      go_enter Try.func71, Try.ntmps71
      go_wp2_with fail
      (with_reducible refine (l1In_yes s 0 3 H.out _).mono ?_)
      rintro e w1 ⟨rfl, rfl⟩
      go_wp2_with fail
      (with_reducible refine (l1In_no b 0 1 H'.out _).mono ?_)
      rintro e w1 ⟨rfl, rfl⟩
      go_wp2_with fail
      go_ret
      exact ⟨ret_num HE.out.symm, rfl⟩
  · have H := Lib.hid hs
    have HE := Lib.hid (nxt_no (s := s) (b := b) fun g => hs g.1)
    clear hs
    go_enter Try.func71, Try.ntmps71
    go_wp2_with fail
    (with_reducible refine (l1In_no s 0 3 H.out _).mono ?_)
    rintro e w1 ⟨rfl, rfl⟩
    go_wp2_with fail
    go_ret
    exact ⟨ret_num HE.out.symm, rfl⟩

/-- Two results: two numbers. -/
def two (t : Int × Int) : Value := .tuple #[.int .i64 t.1, .int .i64 t.2]
def TwoPost (t : Int × Int) (w : World) (e : Ending) (w' : World) : Prop := e = .returned (two t) ∧ w = w'
theorem TwoPost.parts {t : Int × Int} {p q : Int} (ht : t = (p, q)) {w : World} {e : Ending} {w' : World} (h : TwoPost t w e w') : e = .returned (.tuple #[.int .i64 p, .int .i64 q]) ∧ w = w' := by
  subst ht; exact h
/-- The facts of the bits of a state and a bit. -/
theorem st_facts {s b : Int} (h : Sb s b) : ∃ p q r u v : Int, bits .and .i64 s 1 = p ∧ s / 2 = q ∧ bits .xor .i64 b p = r ∧ bits .xor .i64 r q = u ∧ bits .xor .i64 b q = v ∧ u = op1 s b ∧ v = op2 s b := by
  obtain ⟨⟨h1, h2⟩, h3, h4⟩ := h
  have hs : s = 0 ∨ s = 1 ∨ s = 2 ∨ s = 3 := by omega
  have hb : b = 0 ∨ b = 1 := by omega
  refine ⟨_, _, _, _, _, rfl, rfl, rfl, rfl, rfl, ?_, ?_⟩ <;> rcases hs with rfl | rfl | rfl | rfl <;> rcases hb with rfl | rfl <;> decide +kernel
theorem implOut (s b : Int) (w : World) :
    Calls Try.prog 90 #[.int .i64 s, .int .i64 b] w (TwoPost (outp s b) w) := by
  by_cases h : Sb s b
  · have H := Lib.hid h
    have HE := Lib.hid (outp_yes h)
    obtain ⟨p, q, r, u, v, e1, e2, e3, e4, e5, e6, e7⟩ := st_facts h
    have HU := Lib.hid (And.intro e6 e7)
    obtain ⟨⟨h1, h2⟩, h3, h4⟩ := h
    clear e6 e7
    go_enter Try.func90, Try.ntmps90
    go_wp2_with fail
    (with_reducible refine (isEnc_yes s b H.out _).mono ?_)
    rintro e w1 ⟨rfl, rfl⟩
    go_wp2_with fail
    go_ret2
    exact ⟨by rw [HE.out, ← HU.out.1, ← HU.out.2]; rfl, rfl⟩
  · have H := Lib.hid h
    have HE := Lib.hid (outp_no h)
    clear h
    go_enter Try.func90, Try.ntmps90
    go_wp2_with fail
    (with_reducible refine (isEnc_no s b H.out _).mono ?_)
    rintro e w1 ⟨rfl, rfl⟩
    go_wp2_with fail
    go_ret2
    exact ⟨by rw [HE.out]; rfl, rfl⟩
theorem specOut (s b : Int) (w : World) :
    Calls Try.prog 70 #[.int .i64 s, .int .i64 b] w (TwoPost (outp s b) w) := by
  by_cases hs : 0 ≤ s ∧ s ≤ 3
  · by_cases hb : 0 ≤ b ∧ b ≤ 1
    · have H := Lib.hid hs
      have H' := Lib.hid hb
      have h : Sb s b := ⟨hs, hb⟩
      have HE := Lib.hid (outp_yes h)
      obtain ⟨p, q, r, u, v, e1, e2, e3, e4, e5, e6, e7⟩ := st_facts h
      have HU := Lib.hid (And.intro e6 e7)
      obtain ⟨h1, h2⟩ := hs
      obtain ⟨h3, h4⟩ := hb
      clear e6 e7 h
      go_enter Try.func70, Try.ntmps70
      go_wp2_with fail
      (with_reducible refine (l1In_yes s 0 3 H.out _).mono ?_)
      rintro e w1 ⟨rfl, rfl⟩
      go_wp2_with fail
      (with_reducible refine (l1In_yes b 0 1 H'.out _).mono ?_)
      rintro e w1 ⟨rfl, rfl⟩
      go_wp2_with fail
      go_ret2
      exact ⟨by rw [HE.out, ← HU.out.1, ← HU.out.2]; rfl, rfl⟩
    · have H := Lib.hid hs
      have H' := Lib.hid hb
      have HE := Lib.hid (outp_no (s := s) (b := b) fun g => hb g.2)
      clear hs hb
      go_enter Try.func70, Try.ntmps70
      go_wp2_with fail
      (with_reducible refine (l1In_yes s 0 3 H.out _).mono ?_)
      rintro e w1 ⟨rfl, rfl⟩
      go_wp2_with fail
      (with_reducible refine (l1In_no b 0 1 H'.out _).mono ?_)
      rintro e w1 ⟨rfl, rfl⟩
      go_wp2_with fail
      go_ret2
      exact ⟨by rw [HE.out]; rfl, rfl⟩
  · have H := Lib.hid hs
    have HE := Lib.hid (outp_no (s := s) (b := b) fun g => hs g.1)
    clear hs
    go_enter Try.func70, Try.ntmps70
    go_wp2_with fail
    (with_reducible refine (l1In_no s 0 3 H.out _).mono ?_)
    rintro e w1 ⟨rfl, rfl⟩
    go_wp2_with fail
    go_ret2
    exact ⟨by rw [HE.out]; rfl, rfl⟩

theorem implEnl (c : Int) (w : World) :
    Calls Try.prog 69 #[.int .i64 c] w fun e w' => e = .returned (.int .i64 (enl c)) ∧ w = w' := by
  by_cases h : 0 ≤ c ∧ c ≤ 1000000000000
  · have H := Lib.hid h
    have HE := Lib.hid (enl_yes h)
    obtain ⟨h1, h2⟩ := h
    go_enter Try.func69, Try.ntmps69
    go_wp2_with fail
    (with_reducible refine (inRange_yes c 0 1000000000000 H.out _).mono ?_)
    rintro e w1 ⟨rfl, rfl⟩
    go_wp2_with fail
    go_ret
    exact ⟨ret_num (by rw [HE.out]), rfl⟩
  · have H := Lib.hid h
    have HE := Lib.hid (enl_no h)
    clear h
    go_enter Try.func69, Try.ntmps69
    go_wp2_with fail
    (with_reducible refine (inRange_no c 0 1000000000000 H.out _).mono ?_)
    rintro e w1 ⟨rfl, rfl⟩
    go_wp2_with fail
    go_ret
    exact ⟨ret_num HE.out.symm, rfl⟩
theorem specEnl (c : Int) (w : World) :
    Calls Try.prog 51 #[.int .i64 c] w fun e w' => e = .returned (.int .i64 (enl c)) ∧ w = w' := by
  by_cases h : 0 ≤ c ∧ c ≤ 1000000000000
  · have H := Lib.hid h
    have HE := Lib.hid (enl_yes h)
    obtain ⟨h1, h2⟩ := h
    go_enter Try.func51, Try.ntmps51
    go_wp2_with fail
    (with_reducible refine (l1In_yes c 0 1000000000000 H.out _).mono ?_)
    rintro e w1 ⟨rfl, rfl⟩
    go_wp2_with fail
    go_ret
    exact ⟨ret_num (by rw [HE.out]), rfl⟩
  · have H := Lib.hid h
    have HE := Lib.hid (enl_no h)
    clear h
    go_enter Try.func51, Try.ntmps51
    go_wp2_with fail
    (with_reducible refine (l1In_no c 0 1000000000000 H.out _).mono ?_)
    rintro e w1 ⟨rfl, rfl⟩
    go_wp2_with fail
    go_ret
    exact ⟨ret_num HE.out.symm, rfl⟩
theorem plen_pos {c v : Int} (h : 0 ≤ c) (hv : c / 4 = v) : plen c = c - v := by rw [← hv]; unfold plen; rw [if_neg (by omega)]
theorem quarter {c v : Int} (h : 0 ≤ c) (hv : c / 4 = v) : 0 ≤ v ∧ v ≤ c := by omega
theorem implPln (c : Int) (hw : (Lit.int .i64 c).wf = true) (w : World) :
    Calls Try.prog 53 #[.int .i64 c] w fun e w' => e = .returned (.int .i64 (plen c)) ∧ w = w' := by
  by_cases h : c < 0
  · have HE := Lib.hid (plen_neg h)
    go_enter Try.func53, Try.ntmps53
    go_wp2_with fail
    go_ret
    exact ⟨ret_num HE.out.symm, rfl⟩
  · obtain ⟨v, hv⟩ : ∃ v, c / 4 = v := ⟨_, rfl⟩
    have h0 : 0 ≤ c := by omega
    have HE := Lib.hid (plen_pos h0 hv)
    obtain ⟨hv0, hv1⟩ := quarter h0 hv
    have hc := bounds_i64 hw
    obtain ⟨_, hc2⟩ := hc
    clear hw
    have hv2 : c.tdiv 4 = v := by rw [Int.tdiv_eq_ediv_of_nonneg h0]; exact hv
    go_enter Try.func53, Try.ntmps53
    go_wp2_with fail
    go_ret
    exact ⟨ret_num HE.out.symm, rfl⟩
theorem specPln (c : Int) (hw : (Lit.int .i64 c).wf = true) (w : World) :
    Calls Try.prog 52 #[.int .i64 c] w fun e w' => e = .returned (.int .i64 (plen c)) ∧ w = w' := by
  by_cases h : c < 0
  · have HE := Lib.hid (plen_neg h)
    go_enter Try.func52, Try.ntmps52
    go_wp2_with fail
    go_ret
    exact ⟨ret_num HE.out.symm, rfl⟩
  · obtain ⟨v, hv⟩ : ∃ v, c / 4 = v := ⟨_, rfl⟩
    have h0 : 0 ≤ c := by omega
    have HE := Lib.hid (plen_pos h0 hv)
    obtain ⟨hv0, hv1⟩ := quarter h0 hv
    have hc := bounds_i64 hw
    obtain ⟨_, hc2⟩ := hc
    clear hw
    have hv2 : c.tdiv 4 = v := by rw [Int.tdiv_eq_ediv_of_nonneg h0]; exact hv
    go_enter Try.func52, Try.ntmps52
    go_wp2_with fail
    go_ret
    exact ⟨ret_num HE.out.symm, rfl⟩
theorem isPun_yes (k : Nat) (h : k % 4 = 3) (w : World) :
    Calls Try.prog 97 #[.int .i64 k] w fun e w' => e = .returned (.bool true) ∧ w = w' := by
  have h2 : (k : Int) % 4 = 3 := by omega
  have h0 : 0 ≤ (k : Int) := by omega
  clear h
  go_enter Try.func97, Try.ntmps97
  go_wp2_with fail
  go_ret
  exact ⟨rfl, rfl⟩
theorem isPun_no (k : Nat) (h : ¬ k % 4 = 3) (w : World) :
    Calls Try.prog 97 #[.int .i64 k] w fun e w' => e = .returned (.bool false) ∧ w = w' := by
  obtain ⟨r, hr⟩ : ∃ r, (k : Int) % 4 = r := ⟨_, rfl⟩
  have h0 : 0 ≤ (k : Int) := by omega
  have h2 : (r == 3) = false := by
    have : r ≠ 3 := by omega
    simpa using this
  clear h
  go_enter Try.func97, Try.ntmps97
  go_wp2_with fail
  go_ret
  exact ⟨rfl, rfl⟩
end Go.Proofs.Ytdelpepepbkjmaa.cvs
