/- The law function of FnExactDeinterleave returns true and leaves what was there. Condition: the slices among the arguments are slices that came in. -/
import Derived.Test.YtpompggakhnflaaEnd8
namespace Go.Proofs.Ytpompggakhnflaa.xExactDeinterleave
open Go.RowKit sl harn
set_option linter.unusedVariables false
set_option maxRecDepth 100000 in
set_option maxHeartbeats 4000000 in
theorem walk (a0 : Option Addr) (len0 cap0 : Nat) (z0 : List Int) (n1 : Int) (wn1 : (Lit.int .i64 n1).wf = true) (w : World) (r0 : kit.IsRow .i64 w a0 len0 cap0 z0) :
    Calls Try.prog 7 #[.slice a0 len0 cap0, .int .i64 n1] w fun e w' => e = .returned (.bool true) ∧ Below w.heap.size w w' := by
  obtain ⟨y0, hr0⟩ := Rd.of_row r0
  have R0 := Lib.hid hr0
  have hl0 : (len0 : Int) ≤ 9223372036854775807 := by have := hr0.cap_; omega
  clear r0 hr0
  have W1 := Lib.hid wn1
  clear wn1
  by_cases hbig0 : 1048576 < (len0 : Int)
  · go_enter Try.func7, Try.ntmps7
    go_wp2
    go_ret
    exact ⟨rfl, Below.refl _ _⟩
  have LY0 : Hid (y0.length ≤ 1048576) := by have := R0.out.len; unfold Hid; omega
  have B0 := Lib.hid (Below.refl w.heap.size w)
  go_enter Try.func7, Try.ntmps7
  go_wp2_with fail
  (with_reducible refine (harn.toIntS y0 _ _ a0 len0 cap0 _ R0.out (by have l1 := R0.out.len; have q0 := LY0.out; omega)).mono ?_)
  rintro e w1 ⟨A2, m3, c4, rfl, ho, hb⟩
  have F5 := Lib.hid ho
  clear ho
  have S6 := Lib.hid (hb.size)
  have B7 := Lib.hid (B0.out.trans (hb.mono B0.out.size))
  have F8 := Lib.hid (R0.out.below hb)
  clear R0
  clear hb B0
  go_wp2_with fail
  (with_reducible refine (itl.specDei y0 n1 _ _ A2 m3 c4 _ F5.out.rd (by have l1 := F5.out.len; have q0 := LY0.out; omega)).mono ?_)
  rintro e w9 ⟨A10, m11, c12, rfl, ho, hb⟩
  have F13 := Lib.hid ho
  clear ho
  have S14 := Lib.hid (hb.size)
  have B15 := Lib.hid (B7.out.trans (hb.mono B7.out.size))
  have F16 := Lib.hid (F8.out.below hb)
  clear F8
  have F17 := Lib.hid (F5.out.below hb)
  clear F5
  clear hb B7
  go_wp2_with fail
  (with_reducible refine (harn.toIntS y0 _ _ a0 len0 cap0 _ F16.out (by have l1 := F16.out.len; have q0 := LY0.out; omega)).mono ?_)
  rintro e w18 ⟨A19, m20, c21, rfl, ho, hb⟩
  have F22 := Lib.hid ho
  clear ho
  have S23 := Lib.hid (hb.size)
  have B24 := Lib.hid (B15.out.trans (hb.mono B15.out.size))
  have F25 := Lib.hid (F16.out.below hb)
  clear F16
  have F26 := Lib.hid (F13.out.below hb)
  clear F13
  clear hb B15
  go_wp2_with fail
  (with_reducible refine (itl.implDei y0 n1 _ _ A19 m20 c21 _ F22.out.rd (by have l1 := F22.out.len; have q0 := LY0.out; omega)).mono ?_)
  rintro e w27 ⟨A28, m29, c30, rfl, ho, hb⟩
  have F31 := Lib.hid ho
  clear ho
  have S32 := Lib.hid (hb.size)
  have B33 := Lib.hid (B24.out.trans (hb.mono B24.out.size))
  have F34 := Lib.hid (F25.out.below hb)
  clear F25
  have F35 := Lib.hid (F26.out.below hb)
  clear F26
  have F36 := Lib.hid (F22.out.below hb)
  clear F22
  clear hb B24
  go_wp2_with fail
  (with_reducible refine (harn.eqIntS_yes (itm.dei y0 n1) _ _ _ _ A28 A10 m29 c30 m11 c12 _ F31.out.rd F35.out.rd).mono ?_)
  rintro e w37 ⟨rfl, hb⟩
  have S38 := Lib.hid (hb.size)
  have B39 := Lib.hid (B33.out.trans (hb.mono B33.out.size))
  have F40 := Lib.hid (F34.out.below hb)
  clear F34
  have F41 := Lib.hid (F35.out.below hb)
  clear F35
  have F42 := Lib.hid (F36.out.below hb)
  clear F36
  have F43 := Lib.hid (F31.out.below hb)
  clear F31
  clear hb B33
  go_wp2_with fail
  (with_reducible refine (harn.toIntS y0 _ _ a0 len0 cap0 _ F40.out (by have l1 := F40.out.len; have q0 := LY0.out; omega)).mono ?_)
  rintro e w44 ⟨A45, m46, c47, rfl, ho, hb⟩
  have F48 := Lib.hid ho
  clear ho
  have S49 := Lib.hid (hb.size)
  have B50 := Lib.hid (B39.out.trans (hb.mono B39.out.size))
  have F51 := Lib.hid (F40.out.below hb)
  clear F40
  have F52 := Lib.hid (F41.out.below hb)
  clear F41
  have F53 := Lib.hid (F42.out.below hb)
  clear F42
  have F54 := Lib.hid (F43.out.below hb)
  clear F43
  clear hb B39
  go_wp2_with fail
  (with_reducible refine (harn.eqIntS_yes y0 _ _ _ _ A19 A45 m20 c21 m46 c47 _ F53.out.rd F48.out.rd).mono ?_)
  rintro e w55 ⟨rfl, hb⟩
  have S56 := Lib.hid (hb.size)
  have B57 := Lib.hid (B50.out.trans (hb.mono B50.out.size))
  have F58 := Lib.hid (F51.out.below hb)
  clear F51
  have F59 := Lib.hid (F52.out.below hb)
  clear F52
  have F60 := Lib.hid (F53.out.below hb)
  clear F53
  have F61 := Lib.hid (F54.out.below hb)
  clear F54
  have F62 := Lib.hid (F48.out.below hb)
  clear F48
  clear hb B50
  go_wp2_with fail
  (with_reducible refine (harn.markIntS y0 _ _ A19 m20 c21 1 _ F60.out (by omega) (by  omega) (by have l1 := F60.out.len; have q0 := LY0.out; omega)).mono ?_)
  rintro e w63 ⟨rfl, ho, hb⟩
  have N65 := Lib.hid (show m20 ≤ 67108864 from (by have l1 := F60.out.len; have q0 := LY0.out; omega))
  have F64 := Lib.hid ho
  clear ho
  have S66 := Lib.hid (hb.size)
  have B67 := Lib.hid (B57.out.trans (hb.below (by have s0 := S6.out; have s1 := S14.out; have s2 := S23.out; have s3 := S32.out; have s4 := S38.out; have s5 := S49.out; have s6 := S56.out; omega) B57.out.size))
  have F68 := Lib.hid (F58.out.tch hb (by have s0 := S6.out; have s1 := S14.out; have s2 := S23.out; have s3 := S32.out; have s4 := S38.out; have s5 := S49.out; have s6 := S56.out; have s7 := S66.out; omega))
  clear F58
  have F69 := Lib.hid (F59.out.tch hb (by have s0 := S6.out; have s1 := S14.out; have s2 := S23.out; have s3 := S32.out; have s4 := S38.out; have s5 := S49.out; have s6 := S56.out; have s7 := S66.out; omega))
  clear F59
  have F70 := Lib.hid (F61.out.tch hb (by have s0 := S6.out; have s1 := S14.out; have s2 := S23.out; have s3 := S32.out; have s4 := S38.out; have s5 := S49.out; have s6 := S56.out; have s7 := S66.out; omega))
  clear F61
  clear hb B57
  clear F60
  go_wp2_with fail
  (with_reducible refine (harn.eqIntS_yes (itm.dei y0 n1) _ _ _ _ A28 A10 m29 c30 m11 c12 _ F70.out.rd F69.out.rd).mono ?_)
  rintro e w71 ⟨rfl, hb⟩
  have S72 := Lib.hid (hb.size)
  have B73 := Lib.hid (B67.out.trans (hb.mono B67.out.size))
  have F74 := Lib.hid (F68.out.below hb)
  clear F68
  have F75 := Lib.hid (F69.out.below hb)
  clear F69
  have F76 := Lib.hid (F70.out.below hb)
  clear F70
  clear hb B67
  go_wp2_with fail
  (with_reducible refine (harn.markIntS (itm.dei y0 n1) _ _ A28 m29 c30 1 _ F76.out (by omega) (by have n0 := N65.out; omega) (by have l1 := F76.out.len; have u1 := itm.dei_len y0 n1; have q0 := LY0.out; omega)).mono ?_)
  rintro e w77 ⟨rfl, ho, hb⟩
  have N79 := Lib.hid (show m29 ≤ 67108864 from (by have l1 := F76.out.len; have u1 := itm.dei_len y0 n1; have q0 := LY0.out; omega))
  have F78 := Lib.hid ho
  clear ho
  have S80 := Lib.hid (hb.size)
  have B81 := Lib.hid (B73.out.trans (hb.below (by have s0 := S6.out; have s1 := S14.out; have s2 := S23.out; have s3 := S32.out; have s4 := S38.out; have s5 := S49.out; have s6 := S56.out; have s7 := S66.out; have s8 := S72.out; omega) B73.out.size))
  have F82 := Lib.hid (F74.out.tch hb (by have s0 := S6.out; have s1 := S14.out; have s2 := S23.out; have s3 := S32.out; have s4 := S38.out; have s5 := S49.out; have s6 := S56.out; have s7 := S66.out; have s8 := S72.out; have s9 := S80.out; omega))
  clear F74
  have F83 := Lib.hid (F75.out.tch hb (by have s0 := S6.out; have s1 := S14.out; have s2 := S23.out; have s3 := S32.out; have s4 := S38.out; have s5 := S49.out; have s6 := S56.out; have s7 := S66.out; have s8 := S72.out; have s9 := S80.out; omega))
  clear F75
  clear hb B73
  clear F76
  go_wp2_with fail
  (with_reducible refine (harn.heldIntS _ _ A28 m29 c30 1 _ F78.out.rd (by omega) (by have n0 := N65.out; have n1 := N79.out; omega) N79.out).mono ?_)
  rintro e w84 ⟨rfl, rfl⟩
  go_wp2_with fail
  (with_reducible refine (harn.toIntS y0 _ _ a0 len0 cap0 _ F82.out (by have l1 := F82.out.len; have q0 := LY0.out; omega)).mono ?_)
  rintro e w85 ⟨A86, m87, c88, rfl, ho, hb⟩
  have F89 := Lib.hid ho
  clear ho
  have S90 := Lib.hid (hb.size)
  have B91 := Lib.hid (B81.out.trans (hb.mono B81.out.size))
  have F92 := Lib.hid (F82.out.below hb)
  clear F82
  have F93 := Lib.hid (F83.out.below hb)
  clear F83
  have F94 := Lib.hid (F78.out.below hb)
  clear F78
  clear hb B81
  go_wp2_with fail
  (with_reducible refine (itl.implDei y0 n1 _ _ A86 m87 c88 _ F89.out.rd (by have l1 := F89.out.len; have q0 := LY0.out; omega)).mono ?_)
  rintro e w95 ⟨A96, m97, c98, rfl, ho, hb⟩
  have F99 := Lib.hid ho
  clear ho
  have S100 := Lib.hid (hb.size)
  have B101 := Lib.hid (B91.out.trans (hb.mono B91.out.size))
  have F102 := Lib.hid (F92.out.below hb)
  clear F92
  have F103 := Lib.hid (F93.out.below hb)
  clear F93
  have F104 := Lib.hid (F94.out.below hb)
  clear F94
  have F105 := Lib.hid (F89.out.below hb)
  clear F89
  clear hb B91
  go_wp2_with fail
  (with_reducible refine (harn.eqIntS_yes (itm.dei y0 n1) _ _ _ _ A96 A10 m97 c98 m11 c12 _ F99.out.rd F103.out.rd).mono ?_)
  rintro e w106 ⟨rfl, hb⟩
  have S107 := Lib.hid (hb.size)
  have B108 := Lib.hid (B101.out.trans (hb.mono B101.out.size))
  have F109 := Lib.hid (F103.out.below hb)
  clear F103
  have F110 := Lib.hid (F104.out.below hb)
  clear F104
  have F111 := Lib.hid (F99.out.below hb)
  clear F99
  clear hb B101
  go_wp2_with fail
  (with_reducible refine (harn.heldIntS _ _ A28 m29 c30 1 _ F110.out.rd (by omega) (by have n0 := N65.out; have n1 := N79.out; omega) N79.out).mono ?_)
  rintro e w112 ⟨rfl, rfl⟩
  go_wp2_with fail
  go_ret
  exact ⟨rfl, B108.out⟩
end Go.Proofs.Ytpompggakhnflaa.xExactDeinterleave
