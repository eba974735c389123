/- The law function of FnExactViterbiDecode returns true and leaves what was there. Condition: the slices among the arguments are slices that came in. -/
import Derived.Test.YtgdmfpahaccamaaEnd7
namespace Go.Proofs.Ytgdmfpahaccamaa.xExactViterbiDecode
open Go.RowKit sl harn
set_option linter.unusedVariables false
set_option maxRecDepth 100000 in
set_option maxHeartbeats 4000000 in
theorem walk (a0 : Option Addr) (len0 cap0 : Nat) (z0 : List Int) (w : World) (r0 : kit.IsRow .i64 w a0 len0 cap0 z0) :
    Calls Try.prog 8 #[.slice a0 len0 cap0] w fun e w' => e = .returned (.bool true) ∧ Below w.heap.size w w' := by
  obtain ⟨y0, hr0⟩ := Rd.of_row r0
  have R0 := Lib.hid hr0
  have hl0 : (len0 : Int) ≤ 9223372036854775807 := by have := hr0.cap_; omega
  clear r0 hr0
  by_cases hbig0 : 1048576 < (len0 : Int)
  · go_enter Try.func8, Try.ntmps8
    go_wp2
    go_ret
    exact ⟨rfl, Below.refl _ _⟩
  have LY0 : Hid (y0.length ≤ 1048576) := by have := R0.out.len; unfold Hid; omega
  obtain ⟨t10l, t10b, ht⟩ : ∃ l b, vit.vit y0 = (l, b) := ⟨_, _, rfl⟩
  have t10h := Lib.hid ht
  clear ht
  have B0 := Lib.hid (Below.refl w.heap.size w)
  go_enter Try.func8, Try.ntmps8
  go_wp2_with fail
  (with_reducible refine (harn.toIntS y0 _ _ a0 len0 cap0 _ R0.out (by have l1 := R0.out.len; have q0 := LY0.out; omega)).mono ?_)
  rintro e w1 ⟨A2, m3, c4, rfl, ho, hb⟩
  have F5 := Lib.hid ho
  clear ho
  have S6 := Lib.hid (hb.size)
  have B7 := Lib.hid (B0.out.trans (hb.mono B0.out.size))
  have F8 := Lib.hid (R0.out.below hb)
  clear R0
  clear hb B0
  go_wp2_with fail
  (with_reducible refine (vts.specVit y0 _ _ A2 m3 c4 _ F5.out.rd).mono ?_)
  rintro e w9 hpost
  obtain ⟨A11, m12, c13, rfl, ho, hb⟩ := fin7.vits_parts t10h.out hpost
  have F14 := Lib.hid ho
  clear ho
  have S15 := Lib.hid (hb.size)
  have B16 := Lib.hid (B7.out.trans (hb.mono B7.out.size))
  have F17 := Lib.hid (F8.out.below hb)
  clear F8
  have F18 := Lib.hid (F5.out.below hb)
  clear F5
  clear hb B7
  go_wp2_with fail
  (with_reducible refine (harn.toIntS y0 _ _ a0 len0 cap0 _ F17.out (by have l1 := F17.out.len; have q0 := LY0.out; omega)).mono ?_)
  rintro e w19 ⟨A20, m21, c22, rfl, ho, hb⟩
  have F23 := Lib.hid ho
  clear ho
  have S24 := Lib.hid (hb.size)
  have B25 := Lib.hid (B16.out.trans (hb.mono B16.out.size))
  have F26 := Lib.hid (F17.out.below hb)
  clear F17
  have F27 := Lib.hid (F14.out.below hb)
  clear F14
  clear hb B16
  go_wp2_with fail
  (with_reducible refine (vts.implVit y0 _ _ A20 m21 c22 _ F23.out.rd).mono ?_)
  rintro e w28 hpost
  obtain ⟨A29, m30, c31, rfl, ho, hb⟩ := fin7.vit_parts t10h.out hpost
  have F32 := Lib.hid ho
  clear ho
  have S33 := Lib.hid (hb.size)
  have B34 := Lib.hid (B25.out.trans (hb.mono B25.out.size))
  have F35 := Lib.hid (F26.out.below hb)
  clear F26
  have F36 := Lib.hid (F27.out.below hb)
  clear F27
  have F37 := Lib.hid (F23.out.below hb)
  clear F23
  clear hb B25
  go_wp2_with fail
  (with_reducible refine (harn.eqIntS_yes t10l _ _ _ _ A29 A11 m30 c31 m12 c13 _ F32.out.rd F36.out.rd).mono ?_)
  rintro e w38 ⟨rfl, hb⟩
  have S39 := Lib.hid (hb.size)
  have B40 := Lib.hid (B34.out.trans (hb.mono B34.out.size))
  have F41 := Lib.hid (F35.out.below hb)
  clear F35
  have F42 := Lib.hid (F36.out.below hb)
  clear F36
  have F43 := Lib.hid (F37.out.below hb)
  clear F37
  have F44 := Lib.hid (F32.out.below hb)
  clear F32
  clear hb B34
  go_wp2_with fail
  (with_reducible refine (harn.toIntS y0 _ _ a0 len0 cap0 _ F41.out (by have l1 := F41.out.len; have q0 := LY0.out; omega)).mono ?_)
  rintro e w45 ⟨A46, m47, c48, rfl, ho, hb⟩
  have F49 := Lib.hid ho
  clear ho
  have S50 := Lib.hid (hb.size)
  have B51 := Lib.hid (B40.out.trans (hb.mono B40.out.size))
  have F52 := Lib.hid (F41.out.below hb)
  clear F41
  have F53 := Lib.hid (F42.out.below hb)
  clear F42
  have F54 := Lib.hid (F43.out.below hb)
  clear F43
  have F55 := Lib.hid (F44.out.below hb)
  clear F44
  clear hb B40
  go_wp2_with fail
  (with_reducible refine (harn.eqIntS_yes y0 _ _ _ _ A20 A46 m21 c22 m47 c48 _ F54.out.rd F49.out.rd).mono ?_)
  rintro e w56 ⟨rfl, hb⟩
  have S57 := Lib.hid (hb.size)
  have B58 := Lib.hid (B51.out.trans (hb.mono B51.out.size))
  have F59 := Lib.hid (F52.out.below hb)
  clear F52
  have F60 := Lib.hid (F53.out.below hb)
  clear F53
  have F61 := Lib.hid (F54.out.below hb)
  clear F54
  have F62 := Lib.hid (F55.out.below hb)
  clear F55
  have F63 := Lib.hid (F49.out.below hb)
  clear F49
  clear hb B51
  go_wp2_with fail
  (with_reducible refine (harn.markIntS y0 _ _ A20 m21 c22 1 _ F61.out (by omega) (by  omega) (by have l1 := F61.out.len; have q0 := LY0.out; omega)).mono ?_)
  rintro e w64 ⟨rfl, ho, hb⟩
  have N66 := Lib.hid (show m21 ≤ 67108864 from (by have l1 := F61.out.len; have q0 := LY0.out; omega))
  have F65 := Lib.hid ho
  clear ho
  have S67 := Lib.hid (hb.size)
  have B68 := Lib.hid (B58.out.trans (hb.below (by have s0 := S6.out; have s1 := S15.out; have s2 := S24.out; have s3 := S33.out; have s4 := S39.out; have s5 := S50.out; have s6 := S57.out; omega) B58.out.size))
  have F69 := Lib.hid (F59.out.tch hb (by have s0 := S6.out; have s1 := S15.out; have s2 := S24.out; have s3 := S33.out; have s4 := S39.out; have s5 := S50.out; have s6 := S57.out; have s7 := S67.out; omega))
  clear F59
  have F70 := Lib.hid (F60.out.tch hb (by have s0 := S6.out; have s1 := S15.out; have s2 := S24.out; have s3 := S33.out; have s4 := S39.out; have s5 := S50.out; have s6 := S57.out; have s7 := S67.out; omega))
  clear F60
  have F71 := Lib.hid (F62.out.tch hb (by have s0 := S6.out; have s1 := S15.out; have s2 := S24.out; have s3 := S33.out; have s4 := S39.out; have s5 := S50.out; have s6 := S57.out; have s7 := S67.out; omega))
  clear F62
  clear hb B58
  clear F61
  go_wp2_with fail
  (with_reducible refine (harn.eqIntS_yes t10l _ _ _ _ A29 A11 m30 c31 m12 c13 _ F71.out.rd F70.out.rd).mono ?_)
  rintro e w72 ⟨rfl, hb⟩
  have S73 := Lib.hid (hb.size)
  have B74 := Lib.hid (B68.out.trans (hb.mono B68.out.size))
  have F75 := Lib.hid (F69.out.below hb)
  clear F69
  have F76 := Lib.hid (F70.out.below hb)
  clear F70
  have F77 := Lib.hid (F71.out.below hb)
  clear F71
  clear hb B68
  go_wp2_with fail
  (with_reducible refine (harn.markIntS t10l _ _ A29 m30 c31 1 _ F77.out (by omega) (by have n0 := N66.out; omega) (by have l1 := F77.out.len; have u1 := fin7.vit_len t10h.out; have q0 := LY0.out; omega)).mono ?_)
  rintro e w78 ⟨rfl, ho, hb⟩
  have N80 := Lib.hid (show m30 ≤ 67108864 from (by have l1 := F77.out.len; have u1 := fin7.vit_len t10h.out; have q0 := LY0.out; omega))
  have F79 := Lib.hid ho
  clear ho
  have S81 := Lib.hid (hb.size)
  have B82 := Lib.hid (B74.out.trans (hb.below (by have s0 := S6.out; have s1 := S15.out; have s2 := S24.out; have s3 := S33.out; have s4 := S39.out; have s5 := S50.out; have s6 := S57.out; have s7 := S67.out; have s8 := S73.out; omega) B74.out.size))
  have F83 := Lib.hid (F75.out.tch hb (by have s0 := S6.out; have s1 := S15.out; have s2 := S24.out; have s3 := S33.out; have s4 := S39.out; have s5 := S50.out; have s6 := S57.out; have s7 := S67.out; have s8 := S73.out; have s9 := S81.out; omega))
  clear F75
  have F84 := Lib.hid (F76.out.tch hb (by have s0 := S6.out; have s1 := S15.out; have s2 := S24.out; have s3 := S33.out; have s4 := S39.out; have s5 := S50.out; have s6 := S57.out; have s7 := S67.out; have s8 := S73.out; have s9 := S81.out; omega))
  clear F76
  clear hb B74
  clear F77
  go_wp2_with fail
  (with_reducible refine (harn.heldIntS _ _ A29 m30 c31 1 _ F79.out.rd (by omega) (by have n0 := N66.out; have n1 := N80.out; omega) N80.out).mono ?_)
  rintro e w85 ⟨rfl, rfl⟩
  go_wp2_with fail
  (with_reducible refine (harn.toIntS y0 _ _ a0 len0 cap0 _ F83.out (by have l1 := F83.out.len; have q0 := LY0.out; omega)).mono ?_)
  rintro e w86 ⟨A87, m88, c89, rfl, ho, hb⟩
  have F90 := Lib.hid ho
  clear ho
  have S91 := Lib.hid (hb.size)
  have B92 := Lib.hid (B82.out.trans (hb.mono B82.out.size))
  have F93 := Lib.hid (F83.out.below hb)
  clear F83
  have F94 := Lib.hid (F84.out.below hb)
  clear F84
  have F95 := Lib.hid (F79.out.below hb)
  clear F79
  clear hb B82
  go_wp2_with fail
  (with_reducible refine (vts.implVit y0 _ _ A87 m88 c89 _ F90.out.rd).mono ?_)
  rintro e w96 hpost
  obtain ⟨A97, m98, c99, rfl, ho, hb⟩ := fin7.vit_parts t10h.out hpost
  have F100 := Lib.hid ho
  clear ho
  have S101 := Lib.hid (hb.size)
  have B102 := Lib.hid (B92.out.trans (hb.mono B92.out.size))
  have F103 := Lib.hid (F93.out.below hb)
  clear F93
  have F104 := Lib.hid (F94.out.below hb)
  clear F94
  have F105 := Lib.hid (F95.out.below hb)
  clear F95
  have F106 := Lib.hid (F90.out.below hb)
  clear F90
  clear hb B92
  go_wp2_with fail
  (with_reducible refine (harn.eqIntS_yes t10l _ _ _ _ A97 A11 m98 c99 m12 c13 _ F100.out.rd F104.out.rd).mono ?_)
  rintro e w107 ⟨rfl, hb⟩
  have S108 := Lib.hid (hb.size)
  have B109 := Lib.hid (B102.out.trans (hb.mono B102.out.size))
  have F110 := Lib.hid (F104.out.below hb)
  clear F104
  have F111 := Lib.hid (F105.out.below hb)
  clear F105
  have F112 := Lib.hid (F100.out.below hb)
  clear F100
  clear hb B102
  go_wp2_with fail
  (with_reducible refine (harn.heldIntS _ _ A29 m30 c31 1 _ F111.out.rd (by omega) (by have n0 := N66.out; have n1 := N80.out; omega) N80.out).mono ?_)
  rintro e w113 ⟨rfl, rfl⟩
  go_wp2_with fail
  go_ret
  exact ⟨rfl, B109.out⟩
end Go.Proofs.Ytgdmfpahaccamaa.xExactViterbiDecode
