/- The law function of FnExactParseDelimiter returns true and leaves what was there. Condition: the slices among the arguments are slices that came in. -/
import Derived.Test.YthgbmcdfbinpkaaEnd20
namespace Go.Proofs.Ythgbmcdfbinpkaa.xExactParseDelimiter
open Go.RowKit sl harn
set_option linter.unusedVariables false
set_option maxRecDepth 100000 in
set_option maxHeartbeats 4000000 in
theorem walk (a0 : Option Addr) (len0 cap0 : Nat) (z0 : List Int) (n1 : Int) (wn1 : (Lit.int .i64 n1).wf = true) (w : World) (r0 : kit.IsRow .u8 w a0 len0 cap0 z0) :
    Calls Try.prog 6 #[.slice a0 len0 cap0, .int .i64 n1] w fun e w' => e = .returned (.bool true) ∧ Below w.heap.size w w' := by
  obtain ⟨y0, hr0⟩ := Rd.of_row r0
  have R0 := Lib.hid hr0
  have hl0 : (len0 : Int) ≤ 9223372036854775807 := by have := hr0.cap_; omega
  clear r0 hr0
  have W1 := Lib.hid wn1
  clear wn1
  by_cases hbig0 : 1048576 < (len0 : Int)
  · go_enter Try.func6, Try.ntmps6
    go_wp2
    go_ret
    exact ⟨rfl, Below.refl _ _⟩
  have LY0 : Hid (y0.length ≤ 1048576) := by have := R0.out.len; unfold Hid; omega
  obtain ⟨t10a, t10b, ht⟩ : ∃ x0 x1, ag.pd y0 n1 = (x0, x1) := ⟨_, _, rfl⟩
  have t10h := Lib.hid ht
  clear ht
  have B0 := Lib.hid (Below.refl w.heap.size w)
  go_enter Try.func6, Try.ntmps6
  go_wp2_with fail
  (with_reducible refine (harn.toByteS y0 _ _ a0 len0 cap0 _ R0.out (by have l1 := R0.out.len; have q0 := LY0.out; omega)).mono ?_)
  rintro e w1 ⟨A2, m3, c4, rfl, ho, hb⟩
  have F5 := Lib.hid ho
  clear ho
  have S6 := Lib.hid (hb.size)
  have B7 := Lib.hid (B0.out.trans (hb.mono B0.out.size))
  have F8 := Lib.hid (R0.out.below hb)
  clear R0
  clear hb B0
  go_wp2_with fail
  (with_reducible refine (ag.specPd y0 _ _ A2 m3 c4 n1 _ F5.out.rd (by have l1 := F5.out.len; have q0 := LY0.out; omega)).mono ?_)
  rintro e w9 hpost
  obtain ⟨rfl, hb⟩ := ag.pd_parts t10h.out hpost
  have S11 := Lib.hid (hb.size)
  have B12 := Lib.hid (B7.out.trans (hb.mono B7.out.size))
  have F13 := Lib.hid (F8.out.below hb)
  clear F8
  have F14 := Lib.hid (F5.out.below hb)
  clear F5
  clear hb B7
  go_wp2_with fail
  (with_reducible refine (harn.toByteS y0 _ _ a0 len0 cap0 _ F13.out (by have l1 := F13.out.len; have q0 := LY0.out; omega)).mono ?_)
  rintro e w15 ⟨A16, m17, c18, rfl, ho, hb⟩
  have F19 := Lib.hid ho
  clear ho
  have S20 := Lib.hid (hb.size)
  have B21 := Lib.hid (B12.out.trans (hb.mono B12.out.size))
  have F22 := Lib.hid (F13.out.below hb)
  clear F13
  clear hb B12
  go_wp2_with fail
  (with_reducible refine (ag.implPd y0 _ _ A16 m17 c18 n1 _ F19.out.rd (by have l1 := F19.out.len; have q0 := LY0.out; omega)).mono ?_)
  rintro e w23 hpost
  obtain ⟨rfl, hb⟩ := ag.pd_parts t10h.out hpost
  have S24 := Lib.hid (hb.size)
  have B25 := Lib.hid (B21.out.trans (hb.mono B21.out.size))
  have F26 := Lib.hid (F22.out.below hb)
  clear F22
  have F27 := Lib.hid (F19.out.below hb)
  clear F19
  clear hb B21
  go_wp2_with fail
  (with_reducible refine (harn.toByteS y0 _ _ a0 len0 cap0 _ F26.out (by have l1 := F26.out.len; have q0 := LY0.out; omega)).mono ?_)
  rintro e w28 ⟨A29, m30, c31, rfl, ho, hb⟩
  have F32 := Lib.hid ho
  clear ho
  have S33 := Lib.hid (hb.size)
  have B34 := Lib.hid (B25.out.trans (hb.mono B25.out.size))
  have F35 := Lib.hid (F26.out.below hb)
  clear F26
  have F36 := Lib.hid (F27.out.below hb)
  clear F27
  clear hb B25
  go_wp2_with fail
  (with_reducible refine (harn.eqByteS_yes y0 _ _ _ _ A16 A29 m17 c18 m30 c31 _ F36.out.rd F32.out.rd).mono ?_)
  rintro e w37 ⟨rfl, hb⟩
  have S38 := Lib.hid (hb.size)
  have B39 := Lib.hid (B34.out.trans (hb.mono B34.out.size))
  have F40 := Lib.hid (F35.out.below hb)
  clear F35
  have F41 := Lib.hid (F36.out.below hb)
  clear F36
  have F42 := Lib.hid (F32.out.below hb)
  clear F32
  clear hb B34
  go_wp2_with fail
  go_ret
  exact ⟨rfl, B39.out⟩
end Go.Proofs.Ythgbmcdfbinpkaa.xExactParseDelimiter
