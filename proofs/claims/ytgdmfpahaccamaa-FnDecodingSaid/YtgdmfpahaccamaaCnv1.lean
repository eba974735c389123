/- The encoder's steps and the lengths, program and specification. Condition: none. -/
import Derived.Test.YtgdmfpahaccamaaConvm
import Derived.Test.YtgdmfpahaccamaaBits1
import Derived.Test.YtgdmfpahaccamaaDraw
namespace Go.Proofs.Ytgdmfpahaccamaa.cvs
open Go.RowKit sl harn bm rng cvm

theorem isEnc_yes (s b : Int) (h : Sb s b) (w : World) :
    Calls Try.prog 60 #[.int .i64 s, .int .i64 b] w fun e w' => e = .returned (.bool true) ∧ w = w' := by
  have H := Lib.hid h
  clear h
  go_enter Try.func60, Try.ntmps60
  go_wp2_with fail
  (with_reducible refine (inRange_yes s 0 3 (Sb.st H.out) _).mono ?_)
  rintro e w1 ⟨rfl, rfl⟩
  go_wp2_with fail
  (with_reducible refine (inRange_yes b 0 1 (Sb.bit H.out) _).mono ?_)
  rintro e w1 ⟨rfl, rfl⟩
  go_wp2_with fail
  go_ret
  exact ⟨rfl, rfl⟩
theorem isEnc_no (s b : Int) (h : ¬ Sb s b) (w : World) :
    Calls Try.prog 60 #[.int .i64 s, .int .i64 b] w fun e w' => e = .returned (.bool false) ∧ w = w' := by
  by_cases h1 : 0 ≤ s ∧ s ≤ 3
  · have H1 := Lib.hid h1
    have H2 := Lib.hid (show ¬ (0 ≤ b ∧ b ≤ 1) from fun g => h ⟨h1, g⟩)
    clear h h1
    go_enter Try.func60, Try.ntmps60
    go_wp2_with fail
    (with_reducible refine (inRange_yes s 0 3 H1.out _).mono ?_)
    rintro e w1 ⟨rfl, rfl⟩
    go_wp2_with fail
    (with_reducible refine (inRange_no b 0 1 H2.out _).mono ?_)
    rintro e w1 ⟨rfl, rfl⟩
    go_wp2_with fail
    go_ret
    exact ⟨rfl, rfl⟩
  · have H1 := Lib.hid h1
    clear h h1
    go_enter Try.func60, Try.ntmps60
    go_wp2_with fail
    (with_reducible refine (inRange_no s 0 3 H1.out _).mono ?_)
    rintro e w1 ⟨rfl, rfl⟩
    go_wp2_with fail
    go_ret
    exact ⟨rfl, rfl⟩
theorem low2 (n : Int) : bits .and .i64 n 3 = n % 4 := draw.low_bits 2 (by omega) n
theorem implNext (s b : Int) (w : World) :
    Calls Try.prog 56 #[.int .i64 s, .int .i64 b] w fun e w' => e = .returned (.int .i64 (nxt s b)) ∧ w = w' := by
  by_cases h : Sb s b
  · have H := Lib.hid h
    obtain ⟨⟨h1, h2⟩, h3, h4⟩ := h
    have hl := low2 (2 * s + b)
    have HE := Lib.hid (nxt_yes H.out)
    obtain ⟨v, hv⟩ : ∃ v, (2 * s + b) % 4 = v := ⟨_, rfl⟩
    have HV := Lib.hid (show nst s b = v from hv)
    rw [hv] at hl
    clear hv
    go_enter Try.func56, Try.ntmps56
    go_wp2_with fail
    (with_reducible refine (isEnc_yes s b H.out _).mono ?_)
    rintro e w1 ⟨rfl, rfl⟩
    go_wp2_with fail
    go_ret
    exact ⟨ret_num (by rw [HE.out, HV.out]), rfl⟩
  · have H := Lib.hid h
    have HE := Lib.hid (nxt_no h)
    clear h
    go_enter Try.func56, Try.ntmps56
    go_wp2_with fail
    (with_reducible refine (isEnc_no s b H.out _).mono ?_)
    rintro e w1 ⟨rfl, rfl⟩
    go_wp2_with fail
    go_ret
    exact ⟨ret_num HE.out.symm, rfl⟩
theorem specNext (s b : Int) (w : World) :
    Calls Try.prog 40 #[.int .i64 s, .int .i64 b] w fun e w' => e = .returned (.int .i64 (nxt s b)) ∧ w = w' := by
  by_cases hs : 0 ≤ s ∧ s ≤ 3
  · by_cases hb : 0 ≤ b ∧ b ≤ 1
    · have H := Lib.hid hs
      have H' := Lib.hid hb
      obtain ⟨h1, h2⟩ := hs
      obtain ⟨h3, h4⟩ := hb
      have hl := low2 (2 * s + b)
      have HE := Lib.hid (nxt_yes ⟨H.out, H'.out⟩)
      obtain ⟨v, hv⟩ : ∃ v, (2 * s + b) % 4 = v := ⟨_, rfl⟩
      have HV := Lib.hid (show nst s b = v from hv)
      rw [hv] at hl
      clear hv
      go_enter Try.func40, Try.ntmps40
      go_wp2_with fail
      (with_reducible refine (l1In_yes s 0 3 H.out _).mono ?_)
      rintro e w1 ⟨rfl, rfl⟩
      go_wp2_with fail
      (with_reducible refine (l1In_yes b 0 1 H'.out _).mono ?_)
      rintro e w1 ⟨rfl, rfl⟩
      go_wp2_with fail
      go_ret
      exact ⟨ret_num (by rw [HE.out, HV.out]), rfl⟩
    · have H := Lib.hid hs
      have H' := Lib.hid hb
      have HE := Lib.hid (nxt_no (s := s) (b := b) fun g => hb g.2)
      clear hs hb
      go_enter Try.func40, Try.ntmps40
      go_wp2_with fail
      (with_reducible refine (l1In_yes s 0 3 H.out _).mono ?_)
      rintro e w1 ⟨rfl, rfl⟩
      go_wp2_with fail
      (with_reducible refine (l1In_no b 0 1 H'.out _).mono ?_)
      rintro e w1 ⟨rfl, rfl⟩
      go_wp2_with fail
      go_ret
      exact ⟨ret_num HE.out.symm, rfl⟩
  · have H := Lib.hid hs
    have HE := Lib.hid (nxt_no (s := s) (b := b) fun g => hs g.1)
    clear hs
    go_enter Try.func40, Try.ntmps40
    go_wp2_with fail
    (with_reducible refine (l1In_no s 0 3 H.out _).mono ?_)
    rintro e w1 ⟨rfl, rfl⟩
    go_wp2_with fail
    go_ret
    exact ⟨ret_num HE.out.symm, rfl⟩

/-- Two results: two numbers. -/
def two (t : Int × Int) : Value := .tuple #[.int .i64 t.1, .int .i64 t.2]
def TwoPost (t : Int × Int) (w : World) (e : Ending) (w' : World) : Prop := e = .returned (two t) ∧ w = w'
theorem TwoPost.parts {t : Int × Int} {p q : Int} (ht : t = (p, q)) {w : World} {e : Ending} {w' : World} (h : TwoPost t w e w') : e = .returned (.tuple #[.int .i64 p, .int .i64 q]) ∧ w = w' := by
  subst ht; exact h
/-- The facts of the bits of a state and a bit. -/
theorem st_facts {s b : Int} (h : Sb s b) : ∃ p q r u v : Int, bits .and .i64 s 1 = p ∧ s / 2 = q ∧ bits .xor .i64 b p = r ∧ bits .xor .i64 r q = u ∧ bits .xor .i64 b q = v ∧ u = op1 s b ∧ v = op2 s b := by
  obtain ⟨⟨h1, h2⟩, h3, h4⟩ := h
  have hs : s = 0 ∨ s = 1 ∨ s = 2 ∨ s = 3 := by omega
  have hb : b = 0 ∨ b = 1 := by omega
  refine ⟨_, _, _, _, _, rfl, rfl, rfl, rfl, rfl, ?_, ?_⟩ <;> rcases hs with rfl | rfl | rfl | rfl <;> rcases hb with rfl | rfl <;> decide +kernel
theorem implOut (s b : Int) (w : World) :
    Calls Try.prog 51 #[.int .i64 s, .int .i64 b] w (TwoPost (outp s b) w) := by
  by_cases h : Sb s b
  · have H := Lib.hid h
    have HE := Lib.hid (outp_yes h)
    obtain ⟨p, q, r, u, v, e1, e2, e3, e4, e5, e6, e7⟩ := st_facts h
    have HU := Lib.hid (And.intro e6 e7)
    obtain ⟨⟨h1, h2⟩, h3, h4⟩ := h
    clear e6 e7
    go_enter Try.func51, Try.ntmps51
    go_wp2_with fail
    (with_reducible refine (isEnc_yes s b H.out _).mono ?_)
    rintro e w1 ⟨rfl, rfl⟩
    go_wp2_with fail
    go_ret2
    exact ⟨by rw [HE.out, ← HU.out.1, ← HU.out.2]; rfl, rfl⟩
  · have H := Lib.hid h
    have HE := Lib.hid (outp_no h)
    clear h
    go_enter Try.func51, Try.ntmps51
    go_wp2_with fail
    (with_reducible refine (isEnc_no s b H.out _).mono ?_)
    rintro e w1 ⟨rfl, rfl⟩
    go_wp2_with fail
    go_ret2
    exact ⟨by rw [HE.out]; rfl, rfl⟩
theorem specOut (s b : Int) (w : World) :
    Calls Try.prog 39 #[.int .i64 s, .int .i64 b] w (TwoPost (outp s b) w) := by
  by_cases hs : 0 ≤ s ∧ s ≤ 3
  · by_cases hb : 0 ≤ b ∧ b ≤ 1
    · have H := Lib.hid hs
      have H' := Lib.hid hb
      have h : Sb s b := ⟨hs, hb⟩
      have HE := Lib.hid (outp_yes h)
      obtain ⟨p, q, r, u, v, e1, e2, e3, e4, e5, e6, e7⟩ := st_facts h
      have HU := Lib.hid (And.intro e6 e7)
      obtain ⟨h1, h2⟩ := hs
      obtain ⟨h3, h4⟩ := hb
      clear e6 e7 h
      go_enter Try.func39, Try.ntmps39
      go_wp2_with fail
      (with_reducible refine (l1In_yes s 0 3 H.out _).mono ?_)
      rintro e w1 ⟨rfl, rfl⟩
      go_wp2_with fail
      (with_reducible refine (l1In_yes b 0 1 H'.out _).mono ?_)
      rintro e w1 ⟨rfl, rfl⟩
      go_wp2_with fail
      go_ret2
      exact ⟨by rw [HE.out, ← HU.out.1, ← HU.out.2]; rfl, rfl⟩
    · have H := Lib.hid hs
      have H' := Lib.hid hb
      have HE := Lib.hid (outp_no (s := s) (b := b) fun g => hb g.2)
      clear hs hb
      go_enter Try.func39, Try.ntmps39
      go_wp2_with fail
      (with_reducible refine (l1In_yes s 0 3 H.out _).mono ?_)
      rintro e w1 ⟨rfl, rfl⟩
      go_wp2_with fail
      (with_reducible refine (l1In_no b 0 1 H'.out _).mono ?_)
      rintro e w1 ⟨rfl, rfl⟩
      go_wp2_with fail
      go_ret2
      exact ⟨by rw [HE.out]; rfl, rfl⟩
  · have H := Lib.hid hs
    have HE := Lib.hid (outp_no (s := s) (b := b) fun g => hs g.1)
    clear hs
    go_enter Try.func39, Try.ntmps39
    go_wp2_with fail
    (with_reducible refine (l1In_no s 0 3 H.out _).mono ?_)
    rintro e w1 ⟨rfl, rfl⟩
    go_wp2_with fail
    go_ret2
    exact ⟨by rw [HE.out]; rfl, rfl⟩

theorem implEnl (c : Int) (w : World) :
    Calls Try.prog 45 #[.int .i64 c] w fun e w' => e = .returned (.int .i64 (enl c)) ∧ w = w' := by
  by_cases h : 0 ≤ c ∧ c ≤ 1000000000000
  · have H := Lib.hid h
    have HE := Lib.hid (enl_yes h)
    obtain ⟨h1, h2⟩ := h
    go_enter Try.func45, Try.ntmps45
    go_wp2_with fail
    (with_reducible refine (inRange_yes c 0 1000000000000 H.out _).mono ?_)
    rintro e w1 ⟨rfl, rfl⟩
    go_wp2_with fail
    go_ret
    exact ⟨ret_num (by rw [HE.out]), rfl⟩
  · have H := Lib.hid h
    have HE := Lib.hid (enl_no h)
    clear h
    go_enter Try.func45, Try.ntmps45
    go_wp2_with fail
    (with_reducible refine (inRange_no c 0 1000000000000 H.out _).mono ?_)
    rintro e w1 ⟨rfl, rfl⟩
    go_wp2_with fail
    go_ret
    exact ⟨ret_num HE.out.symm, rfl⟩
theorem specEnl (c : Int) (w : World) :
    Calls Try.prog 37 #[.int .i64 c] w fun e w' => e = .returned (.int .i64 (enl c)) ∧ w = w' := by
  by_cases h : 0 ≤ c ∧ c ≤ 1000000000000
  · have H := Lib.hid h
    have HE := Lib.hid (enl_yes h)
    obtain ⟨h1, h2⟩ := h
    go_enter Try.func37, Try.ntmps37
    go_wp2_with fail
    (with_reducible refine (l1In_yes c 0 1000000000000 H.out _).mono ?_)
    rintro e w1 ⟨rfl, rfl⟩
    go_wp2_with fail
    go_ret
    exact ⟨ret_num (by rw [HE.out]), rfl⟩
  · have H := Lib.hid h
    have HE := Lib.hid (enl_no h)
    clear h
    go_enter Try.func37, Try.ntmps37
    go_wp2_with fail
    (with_reducible refine (l1In_no c 0 1000000000000 H.out _).mono ?_)
    rintro e w1 ⟨rfl, rfl⟩
    go_wp2_with fail
    go_ret
    exact ⟨ret_num HE.out.symm, rfl⟩
theorem plen_pos {c v : Int} (h : 0 ≤ c) (hv : c / 4 = v) : plen c = c - v := by rw [← hv]; unfold plen; rw [if_neg (by omega)]
theorem quarter {c v : Int} (h : 0 ≤ c) (hv : c / 4 = v) : 0 ≤ v ∧ v ≤ c := by omega
end Go.Proofs.Ytgdmfpahaccamaa.cvs
