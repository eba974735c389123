/- The law function of FnExactPathDistance returns true and leaves what was there. Condition: the slices among the arguments are slices that came in. -/
import Derived.Test.YtgdmfpahaccamaaEnd7
namespace Go.Proofs.Ytgdmfpahaccamaa.xExactPathDistance
open Go.RowKit sl harn
set_option linter.unusedVariables false
set_option maxRecDepth 100000 in
set_option maxHeartbeats 4000000 in
theorem walk (a0 : Option Addr) (len0 cap0 : Nat) (z0 : List Int) (a1 : Option Addr) (len1 cap1 : Nat) (z1 : List Int) (w : World) (r0 : kit.IsRow .i64 w a0 len0 cap0 z0) (r1 : kit.IsRow .i64 w a1 len1 cap1 z1) :
    Calls Try.prog 6 #[.slice a0 len0 cap0, .slice a1 len1 cap1] w fun e w' => e = .returned (.bool true) ∧ Below w.heap.size w w' := by
  obtain ⟨y0, hr0⟩ := Rd.of_row r0
  have R0 := Lib.hid hr0
  have hl0 : (len0 : Int) ≤ 9223372036854775807 := by have := hr0.cap_; omega
  clear r0 hr0
  obtain ⟨y1, hr1⟩ := Rd.of_row r1
  have R1 := Lib.hid hr1
  have hl1 : (len1 : Int) ≤ 9223372036854775807 := by have := hr1.cap_; omega
  clear r1 hr1
  by_cases hbig0 : 1048576 < (len0 : Int)
  · go_enter Try.func6, Try.ntmps6
    go_wp2
    go_ret
    exact ⟨rfl, Below.refl _ _⟩
  by_cases hbig1 : 1048576 < (len1 : Int)
  · go_enter Try.func6, Try.ntmps6
    go_wp2
    go_ret
    exact ⟨rfl, Below.refl _ _⟩
  have LY0 : Hid (y0.length ≤ 1048576) := by have := R0.out.len; unfold Hid; omega
  have LY1 : Hid (y1.length ≤ 1048576) := by have := R1.out.len; unfold Hid; omega
  obtain ⟨t21a, ht⟩ : ∃ x0, vit.pd y0 y1 = x0 := ⟨_, rfl⟩
  have t21h := Lib.hid ht
  clear ht
  have B0 := Lib.hid (Below.refl w.heap.size w)
  go_enter Try.func6, Try.ntmps6
  go_wp2_with fail
  (with_reducible refine (harn.toIntS y0 _ _ a0 len0 cap0 _ R0.out (by have l1 := R0.out.len; have q0 := LY0.out; omega)).mono ?_)
  rintro e w1 ⟨A2, m3, c4, rfl, ho, hb⟩
  have F5 := Lib.hid ho
  clear ho
  have S6 := Lib.hid (hb.size)
  have B7 := Lib.hid (B0.out.trans (hb.mono B0.out.size))
  have F8 := Lib.hid (R0.out.below hb)
  clear R0
  have F9 := Lib.hid (R1.out.below hb)
  clear R1
  clear hb B0
  go_wp2_with fail
  (with_reducible refine (harn.toIntS y1 _ _ a1 len1 cap1 _ F9.out (by have l1 := F9.out.len; have q1 := LY1.out; omega)).mono ?_)
  rintro e w10 ⟨A11, m12, c13, rfl, ho, hb⟩
  have F14 := Lib.hid ho
  clear ho
  have S15 := Lib.hid (hb.size)
  have B16 := Lib.hid (B7.out.trans (hb.mono B7.out.size))
  have F17 := Lib.hid (F8.out.below hb)
  clear F8
  have F18 := Lib.hid (F9.out.below hb)
  clear F9
  have F19 := Lib.hid (F5.out.below hb)
  clear F5
  clear hb B7
  go_wp2_with fail
  (with_reducible refine (vts.specPd y0 y1 _ _ _ _ A2 A11 m3 c4 m12 c13 _ F19.out.rd F14.out.rd (by have l1 := F19.out.len; have q0 := LY0.out; omega)).mono ?_)
  rintro e w20 hpost
  obtain ⟨rfl, hb⟩ := fin7.num_below t21h.out hpost
  have S22 := Lib.hid (hb.size)
  have B23 := Lib.hid (B16.out.trans (hb.mono B16.out.size))
  have F24 := Lib.hid (F17.out.below hb)
  clear F17
  have F25 := Lib.hid (F18.out.below hb)
  clear F18
  have F26 := Lib.hid (F19.out.below hb)
  clear F19
  have F27 := Lib.hid (F14.out.below hb)
  clear F14
  clear hb B16
  go_wp2_with fail
  (with_reducible refine (harn.toIntS y0 _ _ a0 len0 cap0 _ F24.out (by have l1 := F24.out.len; have q0 := LY0.out; omega)).mono ?_)
  rintro e w28 ⟨A29, m30, c31, rfl, ho, hb⟩
  have F32 := Lib.hid ho
  clear ho
  have S33 := Lib.hid (hb.size)
  have B34 := Lib.hid (B23.out.trans (hb.mono B23.out.size))
  have F35 := Lib.hid (F24.out.below hb)
  clear F24
  have F36 := Lib.hid (F25.out.below hb)
  clear F25
  clear hb B23
  go_wp2_with fail
  (with_reducible refine (harn.toIntS y1 _ _ a1 len1 cap1 _ F36.out (by have l1 := F36.out.len; have q1 := LY1.out; omega)).mono ?_)
  rintro e w37 ⟨A38, m39, c40, rfl, ho, hb⟩
  have F41 := Lib.hid ho
  clear ho
  have S42 := Lib.hid (hb.size)
  have B43 := Lib.hid (B34.out.trans (hb.mono B34.out.size))
  have F44 := Lib.hid (F35.out.below hb)
  clear F35
  have F45 := Lib.hid (F36.out.below hb)
  clear F36
  have F46 := Lib.hid (F32.out.below hb)
  clear F32
  clear hb B34
  go_wp2_with fail
  (with_reducible refine (vts.implPd y0 y1 _ _ _ _ A29 A38 m30 c31 m39 c40 _ F46.out.rd F41.out.rd (by have l1 := F46.out.len; have q0 := LY0.out; omega)).mono ?_)
  rintro e w47 hpost
  obtain ⟨rfl, hb⟩ := fin7.num_below t21h.out hpost
  have S48 := Lib.hid (hb.size)
  have B49 := Lib.hid (B43.out.trans (hb.mono B43.out.size))
  have F50 := Lib.hid (F44.out.below hb)
  clear F44
  have F51 := Lib.hid (F45.out.below hb)
  clear F45
  have F52 := Lib.hid (F46.out.below hb)
  clear F46
  have F53 := Lib.hid (F41.out.below hb)
  clear F41
  clear hb B43
  go_wp2_with fail
  (with_reducible refine (harn.toIntS y0 _ _ a0 len0 cap0 _ F50.out (by have l1 := F50.out.len; have q0 := LY0.out; omega)).mono ?_)
  rintro e w54 ⟨A55, m56, c57, rfl, ho, hb⟩
  have F58 := Lib.hid ho
  clear ho
  have S59 := Lib.hid (hb.size)
  have B60 := Lib.hid (B49.out.trans (hb.mono B49.out.size))
  have F61 := Lib.hid (F50.out.below hb)
  clear F50
  have F62 := Lib.hid (F51.out.below hb)
  clear F51
  have F63 := Lib.hid (F52.out.below hb)
  clear F52
  have F64 := Lib.hid (F53.out.below hb)
  clear F53
  clear hb B49
  go_wp2_with fail
  (with_reducible refine (harn.eqIntS_yes y0 _ _ _ _ A29 A55 m30 c31 m56 c57 _ F63.out.rd F58.out.rd).mono ?_)
  rintro e w65 ⟨rfl, hb⟩
  have S66 := Lib.hid (hb.size)
  have B67 := Lib.hid (B60.out.trans (hb.mono B60.out.size))
  have F68 := Lib.hid (F61.out.below hb)
  clear F61
  have F69 := Lib.hid (F62.out.below hb)
  clear F62
  have F70 := Lib.hid (F63.out.below hb)
  clear F63
  have F71 := Lib.hid (F64.out.below hb)
  clear F64
  have F72 := Lib.hid (F58.out.below hb)
  clear F58
  clear hb B60
  go_wp2_with fail
  (with_reducible refine (harn.toIntS y1 _ _ a1 len1 cap1 _ F69.out (by have l1 := F69.out.len; have q1 := LY1.out; omega)).mono ?_)
  rintro e w73 ⟨A74, m75, c76, rfl, ho, hb⟩
  have F77 := Lib.hid ho
  clear ho
  have S78 := Lib.hid (hb.size)
  have B79 := Lib.hid (B67.out.trans (hb.mono B67.out.size))
  have F80 := Lib.hid (F69.out.below hb)
  clear F69
  have F81 := Lib.hid (F71.out.below hb)
  clear F71
  clear hb B67
  go_wp2_with fail
  (with_reducible refine (harn.eqIntS_yes y1 _ _ _ _ A38 A74 m39 c40 m75 c76 _ F81.out.rd F77.out.rd).mono ?_)
  rintro e w82 ⟨rfl, hb⟩
  have S83 := Lib.hid (hb.size)
  have B84 := Lib.hid (B79.out.trans (hb.mono B79.out.size))
  have F85 := Lib.hid (F80.out.below hb)
  clear F80
  have F86 := Lib.hid (F81.out.below hb)
  clear F81
  have F87 := Lib.hid (F77.out.below hb)
  clear F77
  clear hb B79
  go_wp2_with fail
  go_ret
  exact ⟨rfl, B84.out⟩
end Go.Proofs.Ytgdmfpahaccamaa.xExactPathDistance
