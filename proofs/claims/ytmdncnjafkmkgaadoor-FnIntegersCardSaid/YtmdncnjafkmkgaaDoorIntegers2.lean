/- The law function of integers (FnIntegers) returns true and leaves what was there. Conditions: the argument is a slice of bytes that came in; the listed library variables hold what was laid. -/
import Derived.Test.YtmdncnjafkmkgaaDoorIntegers
namespace Go.Proofs.YtmdncnjafkmkgaaDoor.integers
open Go.RowKit nums facts
open Go.Lib (itoa)

/-- What the last tests of the law see. -/
inductive Ways (a b q r : Int) : Prop
  | low (h : b < 1) (hq : q = 0) (hr : r = 0)
  | high (h : 1 ≤ b) (h2 : 1000000000000 < b) (hq : q = 0) (hr : r = 0)
  | under (h : 1 ≤ b) (h2 : b ≤ 1000000000000) (ha : a < 0) (hq : q = 0) (h3 : 0 ≤ r) (h4 : r < b) (t : Int) (ht : a.tmod b = t) (h5 : -b < t) (h6 : t < b) (h7 : (t - r).tmod b = 0)
  | over (h : 1 ≤ b) (h2 : b ≤ 1000000000000) (ha : 0 ≤ a) (ha2 : 1000000000000 < a) (hq : q = 0) (h3 : 0 ≤ r) (h4 : r < b) (h7 : a % b = r)
  | fits (h : 1 ≤ b) (h2 : b ≤ 1000000000000) (ha : 0 ≤ a) (ha2 : a ≤ 1000000000000) (h3 : 0 ≤ r) (h4 : r < b) (h7 : a % b = r) (v : Int) (hv : q * b = v) (h8 : a ≤ v) (h9 : v - a < b)
theorem ways {a b q r : Int} (hq : Up a b q) (hr : Rem a b r) : Ways a b q r := by
  rcases hr with ⟨h, hr⟩ | ⟨h1, h2, h3, h4, h5, h6⟩
  · rcases hq with ⟨h', hq⟩ | ⟨h1, h2, h3⟩
    · by_cases hb : b < 1
      · exact .low hb hq hr
      · exact .high (by omega) (by omega) hq hr
    · exfalso; omega
  · by_cases ha : a < 0
    · rcases hq with ⟨h', hq⟩ | ⟨_, _, h7, _⟩
      · refine .under h1 h2 ha hq h3 h4 _ rfl h6 ?_ ?_
        · have := Int.tmod_lt_of_pos a (show 0 < b by omega); omega
        · rcases h5 with h5 | h5
          · rw [h5, Int.sub_self]; simp
          · rw [h5, show r - b - r = -b by omega, Int.neg_tmod, Int.tmod_self]; rfl
      · exfalso; omega
    · have e : a % b = r := by
        rw [Int.tmod_eq_emod_of_nonneg (by omega)] at h5
        have h8 := Int.emod_nonneg a (show b ≠ 0 by omega)
        omega
      rcases hq with ⟨h', hq⟩ | ⟨_, _, h7, h8, h9, h10⟩
      · exact .over h1 h2 (by omega) (by omega) hq h3 h4 e
      · exact .fits h1 h2 (by omega) h8 h3 h4 e _ rfl h9 (by omega)

def Good (ok : Bool) (n : Int) (s : ByteArray) : Prop := ok = true → 0 ≤ n ∧ n ≤ 1000000000000 ∧ itoa n = s.data.toList
theorem good {ok : Bool} {n : Int} {s : ByteArray} (h : ok = true → 0 ≤ n ∧ n ≤ 1000000000000 ∧ itoa n = s.data.toList) : Good ok n s := h
set_option maxHeartbeats 2000000 in
theorem walkLaw (a : Option Addr) (len cap : Nat) (zs : List Int) (w : World) (hrow : kit.IsRow .u8 w a len cap zs) (ht : Tab w) (he : Errs w) :
    Calls Tryd.prog 3 #[.slice a len cap] w fun e w' => e = .returned (.bool true) ∧ Below w.heap.size w w' := by
  have HC := Lib.hid (draw.code_of_row hrow)
  have HT := Lib.hid ht
  have HE := Lib.hid he
  have hlen : (len : Int) ≤ 9223372036854775807 := by have := HC.out.1; omega
  clear hrow ht he
  by_cases hbig : 1048576 < (len : Int)
  · go_enter Tryd.func3, Tryd.ntmps3
    go_wp2
    go_ret
    exact ⟨rfl, Below.refl _ _⟩
  · go_enter Tryd.func3, Tryd.ntmps3
    go_wp2_with (first
      | (go_at_call 7; refine (draw.drawParse _ a len cap HC.out).mono ?_; rintro e w1 ⟨s, rfl, h1, hb⟩; have B1 := Lib.hid hb; have S1 := Lib.hid h1; clear hb h1)
      | (go_at_call 6; go_in))
    clear hbig hlen
    go_wp2_with (go_at_call 8; refine (parseRel s (by have := S1.out; omega) _ (HT.out.below B1.out) (HE.out.below B1.out)).mono ?_; rintro e w2 ⟨n, ok, rfl, h1, h2, hb⟩; have B2 := Lib.hid (B1.out.trans (hb.mono B1.out.size)); have P1 := Lib.hid (good h1); clear h1 h2 hb B1)
    go_wp2_with (go_at_call 9; refine (draw.drawFormat _ a len cap (draw.code_later HC.out B2.out)).mono ?_; rintro e w3 ⟨m, rfl, h1, h2, hb⟩; have B3 := Lib.hid (B2.out.trans (hb.mono B2.out.size)); have M1 := Lib.hid (And.intro h1 h2); clear h1 h2 hb B2)
    go_wp2_with (go_at_call 10; refine (form.implFormat m M1.out.1 M1.out.2 _ (HT.out.below B3.out)).mono ?_; rintro e w4 ⟨rfl, hb⟩; have B4 := Lib.hid (B3.out.trans (hb.mono B3.out.size)); clear hb B3)
    go_wp2_with (go_at_call 8; refine (parseRel ⟨(itoa m).toArray⟩ (by have := Lib.itoa_length_le m M1.out.1 M1.out.2; simp [ByteArray.size]; omega) _ (HT.out.below B4.out) (HE.out.below B4.out)).mono ?_; rintro e w5 ⟨k, fine, rfl, h1, h2, hb⟩; have B5 := Lib.hid (B4.out.trans (hb.mono B4.out.size)); have P2 := Lib.hid (fine_cases h1 h2); clear h1 h2 hb B4)
    go_wp2_with (go_at_call 11; refine (draw.drawCeil _ a len cap (draw.code_later HC.out B5.out)).mono ?_; rintro e w6 ⟨x, y, rfl, h1, hb⟩; have B6 := Lib.hid (B5.out.trans (hb.mono B5.out.size)); have X1 := Lib.hid h1; clear h1 hb B5)
    go_wp2_with (go_at_call 12; refine (up x y _).mono ?_; rintro e w7 ⟨q, rfl, h1, rfl⟩; have Q1 := Lib.hid h1; clear h1)
    go_wp2_with (go_at_call 13; refine (mod x y _).mono ?_; rintro e w7 ⟨r, rfl, h1, rfl⟩; have W1 := Lib.hid (ways Q1.out h1); clear h1 Q1 X1 S1 HC HE; cases ok; all_goals (rcases P2.out with ⟨rfl, rfl, hm0, hm1⟩ | ⟨rfl, hm0⟩ | ⟨rfl, hm0, hm1⟩); all_goals clear P2 M1; all_goals (rcases W1.out with ⟨h, rfl, rfl⟩ | ⟨h, h2, rfl, rfl⟩ | ⟨h, h2, ha, rfl, h3, h4, t, ht, h5, h6, h7⟩ | ⟨h, h2, ha, ha2, rfl, h3, h4, h7⟩ | ⟨h, h2, ha, ha2, h3, h4, h7, v, hv, h8, h9⟩); all_goals clear W1)
    all_goals (try (go_ret; exact ⟨rfl, B6.out⟩))
    all_goals
      have P := P1.out rfl
      have hqs : (!itoa n == s.toList) = false := by rw [ByteArray.toList_eq, P.2.2]; simp
      have PN := Lib.hid (And.intro P.1 P.2.1)
      clear P P1
      go_wp2_with (go_at_call 10; refine (form.implFormat n (by have := PN.out; omega) (by have := PN.out; omega) _ (HT.out.below B6.out)).mono ?_; rintro e w8 ⟨rfl, hb⟩; have B7 := Lib.hid (B6.out.trans (hb.mono B6.out.size)); clear hb)
      go_ret
      exact ⟨rfl, B7.out⟩
end Go.Proofs.YtmdncnjafkmkgaaDoor.integers
