/- The law function of FnExactMergePatterns returns true and leaves what was there. Condition: the slices among the arguments are slices that came in. -/
import Derived.Test.YtcfgjlolabnolaaEnd9
namespace Go.Proofs.Ytcfgjlolabnolaa.xExactMergePatterns
open Go.RowKit sl harn
set_option linter.unusedVariables false
set_option maxRecDepth 100000 in
set_option maxHeartbeats 4000000 in
theorem walk (a0 : Option Addr) (len0 cap0 : Nat) (z0 : List Int) (a1 : Option Addr) (len1 cap1 : Nat) (z1 : List Int) (w : World) (r0 : kit.IsRow .i64 w a0 len0 cap0 z0) (r1 : kit.IsRow .i64 w a1 len1 cap1 z1) :
    Calls Try.prog 7 #[.slice a0 len0 cap0, .slice a1 len1 cap1] w fun e w' => e = .returned (.bool true) ∧ Below w.heap.size w w' := by
  obtain ⟨y0, hr0⟩ := Rd.of_row r0
  have R0 := Lib.hid hr0
  have hl0 : (len0 : Int) ≤ 9223372036854775807 := by have := hr0.cap_; omega
  clear r0 hr0
  obtain ⟨y1, hr1⟩ := Rd.of_row r1
  have R1 := Lib.hid hr1
  have hl1 : (len1 : Int) ≤ 9223372036854775807 := by have := hr1.cap_; omega
  clear r1 hr1
  by_cases hbig0 : 1048576 < (len0 : Int)
  · go_enter Try.func7, Try.ntmps7
    go_wp2
    go_ret
    exact ⟨rfl, Below.refl _ _⟩
  by_cases hbig1 : 1048576 < (len1 : Int)
  · go_enter Try.func7, Try.ntmps7
    go_wp2
    go_ret
    exact ⟨rfl, Below.refl _ _⟩
  have LY0 : Hid (y0.length ≤ 1048576) := by have := R0.out.len; unfold Hid; omega
  have LY1 : Hid (y1.length ≤ 1048576) := by have := R1.out.len; unfold Hid; omega
  have B0 := Lib.hid (Below.refl w.heap.size w)
  go_enter Try.func7, Try.ntmps7
  go_wp2_with fail
  (with_reducible refine (harn.toIntS y0 _ _ a0 len0 cap0 _ R0.out (by have l1 := R0.out.len; have q0 := LY0.out; omega)).mono ?_)
  rintro e w1 ⟨A2, m3, c4, rfl, ho, hb⟩
  have F5 := Lib.hid ho
  clear ho
  have S6 := Lib.hid (hb.size)
  have B7 := Lib.hid (B0.out.trans (hb.mono B0.out.size))
  have F8 := Lib.hid (R0.out.below hb)
  clear R0
  have F9 := Lib.hid (R1.out.below hb)
  clear R1
  clear hb B0
  go_wp2_with fail
  (with_reducible refine (harn.toIntS y1 _ _ a1 len1 cap1 _ F9.out (by have l1 := F9.out.len; have q1 := LY1.out; omega)).mono ?_)
  rintro e w10 ⟨A11, m12, c13, rfl, ho, hb⟩
  have F14 := Lib.hid ho
  clear ho
  have S15 := Lib.hid (hb.size)
  have B16 := Lib.hid (B7.out.trans (hb.mono B7.out.size))
  have F17 := Lib.hid (F8.out.below hb)
  clear F8
  have F18 := Lib.hid (F9.out.below hb)
  clear F9
  have F19 := Lib.hid (F5.out.below hb)
  clear F5
  clear hb B7
  go_wp2_with fail
  (with_reducible refine (chw.specMerge y0 y1 _ _ _ _ A2 A11 m3 c4 m12 c13 _ F19.out.rd F14.out.rd (by have l1 := F19.out.len; have q0 := LY0.out; omega) (by have l1 := F14.out.len; have q1 := LY1.out; omega)).mono ?_)
  rintro e w20 ⟨A21, m22, c23, rfl, ho, hb⟩
  have F24 := Lib.hid ho
  clear ho
  have S25 := Lib.hid (hb.size)
  have B26 := Lib.hid (B16.out.trans (hb.mono B16.out.size))
  have F27 := Lib.hid (F17.out.below hb)
  clear F17
  have F28 := Lib.hid (F18.out.below hb)
  clear F18
  have F29 := Lib.hid (F19.out.below hb)
  clear F19
  have F30 := Lib.hid (F14.out.below hb)
  clear F14
  clear hb B16
  go_wp2_with fail
  (with_reducible refine (harn.toIntS y0 _ _ a0 len0 cap0 _ F27.out (by have l1 := F27.out.len; have q0 := LY0.out; omega)).mono ?_)
  rintro e w31 ⟨A32, m33, c34, rfl, ho, hb⟩
  have F35 := Lib.hid ho
  clear ho
  have S36 := Lib.hid (hb.size)
  have B37 := Lib.hid (B26.out.trans (hb.mono B26.out.size))
  have F38 := Lib.hid (F27.out.below hb)
  clear F27
  have F39 := Lib.hid (F28.out.below hb)
  clear F28
  have F40 := Lib.hid (F24.out.below hb)
  clear F24
  clear hb B26
  go_wp2_with fail
  (with_reducible refine (harn.toIntS y1 _ _ a1 len1 cap1 _ F39.out (by have l1 := F39.out.len; have q1 := LY1.out; omega)).mono ?_)
  rintro e w41 ⟨A42, m43, c44, rfl, ho, hb⟩
  have F45 := Lib.hid ho
  clear ho
  have S46 := Lib.hid (hb.size)
  have B47 := Lib.hid (B37.out.trans (hb.mono B37.out.size))
  have F48 := Lib.hid (F38.out.below hb)
  clear F38
  have F49 := Lib.hid (F39.out.below hb)
  clear F39
  have F50 := Lib.hid (F40.out.below hb)
  clear F40
  have F51 := Lib.hid (F35.out.below hb)
  clear F35
  clear hb B37
  go_wp2_with fail
  (with_reducible refine (chw.implMerge y0 y1 _ _ _ _ A32 A42 m33 c34 m43 c44 _ F51.out.rd F45.out.rd (by have l1 := F51.out.len; have q0 := LY0.out; omega) (by have l1 := F45.out.len; have q1 := LY1.out; omega)).mono ?_)
  rintro e w52 ⟨A53, m54, c55, rfl, ho, hb⟩
  have F56 := Lib.hid ho
  clear ho
  have S57 := Lib.hid (hb.size)
  have B58 := Lib.hid (B47.out.trans (hb.mono B47.out.size))
  have F59 := Lib.hid (F48.out.below hb)
  clear F48
  have F60 := Lib.hid (F49.out.below hb)
  clear F49
  have F61 := Lib.hid (F50.out.below hb)
  clear F50
  have F62 := Lib.hid (F51.out.below hb)
  clear F51
  have F63 := Lib.hid (F45.out.below hb)
  clear F45
  clear hb B47
  go_wp2_with fail
  (with_reducible refine (harn.eqIntS_yes (chm.mrg (y0 ++ y1)) _ _ _ _ A53 A21 m54 c55 m22 c23 _ F56.out.rd F61.out.rd).mono ?_)
  rintro e w64 ⟨rfl, hb⟩
  have S65 := Lib.hid (hb.size)
  have B66 := Lib.hid (B58.out.trans (hb.mono B58.out.size))
  have F67 := Lib.hid (F59.out.below hb)
  clear F59
  have F68 := Lib.hid (F60.out.below hb)
  clear F60
  have F69 := Lib.hid (F61.out.below hb)
  clear F61
  have F70 := Lib.hid (F62.out.below hb)
  clear F62
  have F71 := Lib.hid (F63.out.below hb)
  clear F63
  have F72 := Lib.hid (F56.out.below hb)
  clear F56
  clear hb B58
  go_wp2_with fail
  (with_reducible refine (harn.toIntS y0 _ _ a0 len0 cap0 _ F67.out (by have l1 := F67.out.len; have q0 := LY0.out; omega)).mono ?_)
  rintro e w73 ⟨A74, m75, c76, rfl, ho, hb⟩
  have F77 := Lib.hid ho
  clear ho
  have S78 := Lib.hid (hb.size)
  have B79 := Lib.hid (B66.out.trans (hb.mono B66.out.size))
  have F80 := Lib.hid (F67.out.below hb)
  clear F67
  have F81 := Lib.hid (F68.out.below hb)
  clear F68
  have F82 := Lib.hid (F69.out.below hb)
  clear F69
  have F83 := Lib.hid (F70.out.below hb)
  clear F70
  have F84 := Lib.hid (F71.out.below hb)
  clear F71
  have F85 := Lib.hid (F72.out.below hb)
  clear F72
  clear hb B66
  go_wp2_with fail
  (with_reducible refine (harn.eqIntS_yes y0 _ _ _ _ A32 A74 m33 c34 m75 c76 _ F83.out.rd F77.out.rd).mono ?_)
  rintro e w86 ⟨rfl, hb⟩
  have S87 := Lib.hid (hb.size)
  have B88 := Lib.hid (B79.out.trans (hb.mono B79.out.size))
  have F89 := Lib.hid (F80.out.below hb)
  clear F80
  have F90 := Lib.hid (F81.out.below hb)
  clear F81
  have F91 := Lib.hid (F82.out.below hb)
  clear F82
  have F92 := Lib.hid (F83.out.below hb)
  clear F83
  have F93 := Lib.hid (F84.out.below hb)
  clear F84
  have F94 := Lib.hid (F85.out.below hb)
  clear F85
  have F95 := Lib.hid (F77.out.below hb)
  clear F77
  clear hb B79
  go_wp2_with fail
  (with_reducible refine (harn.toIntS y1 _ _ a1 len1 cap1 _ F90.out (by have l1 := F90.out.len; have q1 := LY1.out; omega)).mono ?_)
  rintro e w96 ⟨A97, m98, c99, rfl, ho, hb⟩
  have F100 := Lib.hid ho
  clear ho
  have S101 := Lib.hid (hb.size)
  have B102 := Lib.hid (B88.out.trans (hb.mono B88.out.size))
  have F103 := Lib.hid (F89.out.below hb)
  clear F89
  have F104 := Lib.hid (F90.out.below hb)
  clear F90
  have F105 := Lib.hid (F91.out.below hb)
  clear F91
  have F106 := Lib.hid (F92.out.below hb)
  clear F92
  have F107 := Lib.hid (F93.out.below hb)
  clear F93
  have F108 := Lib.hid (F94.out.below hb)
  clear F94
  clear hb B88
  go_wp2_with fail
  (with_reducible refine (harn.eqIntS_yes y1 _ _ _ _ A42 A97 m43 c44 m98 c99 _ F107.out.rd F100.out.rd).mono ?_)
  rintro e w109 ⟨rfl, hb⟩
  have S110 := Lib.hid (hb.size)
  have B111 := Lib.hid (B102.out.trans (hb.mono B102.out.size))
  have F112 := Lib.hid (F103.out.below hb)
  clear F103
  have F113 := Lib.hid (F104.out.below hb)
  clear F104
  have F114 := Lib.hid (F105.out.below hb)
  clear F105
  have F115 := Lib.hid (F106.out.below hb)
  clear F106
  have F116 := Lib.hid (F107.out.below hb)
  clear F107
  have F117 := Lib.hid (F108.out.below hb)
  clear F108
  have F118 := Lib.hid (F100.out.below hb)
  clear F100
  clear hb B102
  go_wp2_with fail
  (with_reducible refine (harn.markIntS y0 _ _ A32 m33 c34 1 _ F115.out (by omega) (by  omega) (by have l1 := F115.out.len; have q0 := LY0.out; omega)).mono ?_)
  rintro e w119 ⟨rfl, ho, hb⟩
  have N121 := Lib.hid (show m33 ≤ 67108864 from (by have l1 := F115.out.len; have q0 := LY0.out; omega))
  have F120 := Lib.hid ho
  clear ho
  have S122 := Lib.hid (hb.size)
  have B123 := Lib.hid (B111.out.trans (hb.below (by have s0 := S6.out; have s1 := S15.out; have s2 := S25.out; have s3 := S36.out; have s4 := S46.out; have s5 := S57.out; have s6 := S65.out; have s7 := S78.out; have s8 := S87.out; have s9 := S101.out; have s10 := S110.out; omega) B111.out.size))
  have F124 := Lib.hid (F112.out.tch hb (by have s0 := S6.out; have s1 := S15.out; have s2 := S25.out; have s3 := S36.out; have s4 := S46.out; have s5 := S57.out; have s6 := S65.out; have s7 := S78.out; have s8 := S87.out; have s9 := S101.out; have s10 := S110.out; have s11 := S122.out; omega))
  clear F112
  have F125 := Lib.hid (F113.out.tch hb (by have s0 := S6.out; have s1 := S15.out; have s2 := S25.out; have s3 := S36.out; have s4 := S46.out; have s5 := S57.out; have s6 := S65.out; have s7 := S78.out; have s8 := S87.out; have s9 := S101.out; have s10 := S110.out; have s11 := S122.out; omega))
  clear F113
  have F126 := Lib.hid (F114.out.tch hb (by have s0 := S6.out; have s1 := S15.out; have s2 := S25.out; have s3 := S36.out; have s4 := S46.out; have s5 := S57.out; have s6 := S65.out; have s7 := S78.out; have s8 := S87.out; have s9 := S101.out; have s10 := S110.out; have s11 := S122.out; omega))
  clear F114
  have F127 := Lib.hid (F116.out.tch hb (by have s0 := S6.out; have s1 := S15.out; have s2 := S25.out; have s3 := S36.out; have s4 := S46.out; have s5 := S57.out; have s6 := S65.out; have s7 := S78.out; have s8 := S87.out; have s9 := S101.out; have s10 := S110.out; have s11 := S122.out; omega))
  clear F116
  have F128 := Lib.hid (F117.out.tch hb (by have s0 := S6.out; have s1 := S15.out; have s2 := S25.out; have s3 := S36.out; have s4 := S46.out; have s5 := S57.out; have s6 := S65.out; have s7 := S78.out; have s8 := S87.out; have s9 := S101.out; have s10 := S110.out; have s11 := S122.out; omega))
  clear F117
  clear hb B111
  clear F115
  go_wp2_with fail
  (with_reducible refine (harn.markIntS y1 _ _ A42 m43 c44 (1 + m33) _ F127.out (by omega) (by have n0 := N121.out; omega) (by have l1 := F127.out.len; have q1 := LY1.out; omega)).mono ?_)
  rintro e w129 ⟨rfl, ho, hb⟩
  have N131 := Lib.hid (show m43 ≤ 67108864 from (by have l1 := F127.out.len; have q1 := LY1.out; omega))
  have F130 := Lib.hid ho
  clear ho
  have S132 := Lib.hid (hb.size)
  have B133 := Lib.hid (B123.out.trans (hb.below (by have s0 := S6.out; have s1 := S15.out; have s2 := S25.out; have s3 := S36.out; have s4 := S46.out; have s5 := S57.out; have s6 := S65.out; have s7 := S78.out; have s8 := S87.out; have s9 := S101.out; have s10 := S110.out; have s11 := S122.out; omega) B123.out.size))
  have F134 := Lib.hid (F124.out.tch hb (by have s0 := S6.out; have s1 := S15.out; have s2 := S25.out; have s3 := S36.out; have s4 := S46.out; have s5 := S57.out; have s6 := S65.out; have s7 := S78.out; have s8 := S87.out; have s9 := S101.out; have s10 := S110.out; have s11 := S122.out; have s12 := S132.out; omega))
  clear F124
  have F135 := Lib.hid (F125.out.tch hb (by have s0 := S6.out; have s1 := S15.out; have s2 := S25.out; have s3 := S36.out; have s4 := S46.out; have s5 := S57.out; have s6 := S65.out; have s7 := S78.out; have s8 := S87.out; have s9 := S101.out; have s10 := S110.out; have s11 := S122.out; have s12 := S132.out; omega))
  clear F125
  have F136 := Lib.hid (F126.out.tch hb (by have s0 := S6.out; have s1 := S15.out; have s2 := S25.out; have s3 := S36.out; have s4 := S46.out; have s5 := S57.out; have s6 := S65.out; have s7 := S78.out; have s8 := S87.out; have s9 := S101.out; have s10 := S110.out; have s11 := S122.out; have s12 := S132.out; omega))
  clear F126
  have F137 := Lib.hid (F128.out.tch hb (by have s0 := S6.out; have s1 := S15.out; have s2 := S25.out; have s3 := S36.out; have s4 := S46.out; have s5 := S57.out; have s6 := S65.out; have s7 := S78.out; have s8 := S87.out; have s9 := S101.out; have s10 := S110.out; have s11 := S122.out; have s12 := S132.out; omega))
  clear F128
  clear hb B123
  clear F127
  go_wp2_with fail
  (with_reducible refine (harn.eqIntS_yes (chm.mrg (y0 ++ y1)) _ _ _ _ A53 A21 m54 c55 m22 c23 _ F137.out.rd F136.out.rd).mono ?_)
  rintro e w138 ⟨rfl, hb⟩
  have S139 := Lib.hid (hb.size)
  have B140 := Lib.hid (B133.out.trans (hb.mono B133.out.size))
  have F141 := Lib.hid (F134.out.below hb)
  clear F134
  have F142 := Lib.hid (F135.out.below hb)
  clear F135
  have F143 := Lib.hid (F136.out.below hb)
  clear F136
  have F144 := Lib.hid (F137.out.below hb)
  clear F137
  clear hb B133
  go_wp2_with fail
  (with_reducible refine (harn.markIntS (chm.mrg (y0 ++ y1)) _ _ A53 m54 c55 1 _ F144.out (by omega) (by have n0 := N121.out; have n1 := N131.out; omega) (by have l1 := F144.out.len; have u1 := fin9.mrg_len y0 y1; have q0 := LY0.out; have q1 := LY1.out; omega)).mono ?_)
  rintro e w145 ⟨rfl, ho, hb⟩
  have N147 := Lib.hid (show m54 ≤ 67108864 from (by have l1 := F144.out.len; have u1 := fin9.mrg_len y0 y1; have q0 := LY0.out; have q1 := LY1.out; omega))
  have F146 := Lib.hid ho
  clear ho
  have S148 := Lib.hid (hb.size)
  have B149 := Lib.hid (B140.out.trans (hb.below (by have s0 := S6.out; have s1 := S15.out; have s2 := S25.out; have s3 := S36.out; have s4 := S46.out; have s5 := S57.out; have s6 := S65.out; have s7 := S78.out; have s8 := S87.out; have s9 := S101.out; have s10 := S110.out; have s11 := S122.out; have s12 := S132.out; have s13 := S139.out; omega) B140.out.size))
  have F150 := Lib.hid (F141.out.tch hb (by have s0 := S6.out; have s1 := S15.out; have s2 := S25.out; have s3 := S36.out; have s4 := S46.out; have s5 := S57.out; have s6 := S65.out; have s7 := S78.out; have s8 := S87.out; have s9 := S101.out; have s10 := S110.out; have s11 := S122.out; have s12 := S132.out; have s13 := S139.out; have s14 := S148.out; omega))
  clear F141
  have F151 := Lib.hid (F142.out.tch hb (by have s0 := S6.out; have s1 := S15.out; have s2 := S25.out; have s3 := S36.out; have s4 := S46.out; have s5 := S57.out; have s6 := S65.out; have s7 := S78.out; have s8 := S87.out; have s9 := S101.out; have s10 := S110.out; have s11 := S122.out; have s12 := S132.out; have s13 := S139.out; have s14 := S148.out; omega))
  clear F142
  have F152 := Lib.hid (F143.out.tch hb (by have s0 := S6.out; have s1 := S15.out; have s2 := S25.out; have s3 := S36.out; have s4 := S46.out; have s5 := S57.out; have s6 := S65.out; have s7 := S78.out; have s8 := S87.out; have s9 := S101.out; have s10 := S110.out; have s11 := S122.out; have s12 := S132.out; have s13 := S139.out; have s14 := S148.out; omega))
  clear F143
  clear hb B140
  clear F144
  go_wp2_with fail
  (with_reducible refine (harn.heldIntS _ _ A53 m54 c55 1 _ F146.out.rd (by omega) (by have n0 := N121.out; have n1 := N131.out; have n2 := N147.out; omega) N147.out).mono ?_)
  rintro e w153 ⟨rfl, rfl⟩
  go_wp2_with fail
  (with_reducible refine (harn.toIntS y0 _ _ a0 len0 cap0 _ F150.out (by have l1 := F150.out.len; have q0 := LY0.out; omega)).mono ?_)
  rintro e w154 ⟨A155, m156, c157, rfl, ho, hb⟩
  have F158 := Lib.hid ho
  clear ho
  have S159 := Lib.hid (hb.size)
  have B160 := Lib.hid (B149.out.trans (hb.mono B149.out.size))
  have F161 := Lib.hid (F150.out.below hb)
  clear F150
  have F162 := Lib.hid (F151.out.below hb)
  clear F151
  have F163 := Lib.hid (F152.out.below hb)
  clear F152
  have F164 := Lib.hid (F146.out.below hb)
  clear F146
  clear hb B149
  go_wp2_with fail
  (with_reducible refine (harn.toIntS y1 _ _ a1 len1 cap1 _ F162.out (by have l1 := F162.out.len; have q1 := LY1.out; omega)).mono ?_)
  rintro e w165 ⟨A166, m167, c168, rfl, ho, hb⟩
  have F169 := Lib.hid ho
  clear ho
  have S170 := Lib.hid (hb.size)
  have B171 := Lib.hid (B160.out.trans (hb.mono B160.out.size))
  have F172 := Lib.hid (F161.out.below hb)
  clear F161
  have F173 := Lib.hid (F162.out.below hb)
  clear F162
  have F174 := Lib.hid (F163.out.below hb)
  clear F163
  have F175 := Lib.hid (F164.out.below hb)
  clear F164
  have F176 := Lib.hid (F158.out.below hb)
  clear F158
  clear hb B160
  go_wp2_with fail
  (with_reducible refine (chw.implMerge y0 y1 _ _ _ _ A155 A166 m156 c157 m167 c168 _ F176.out.rd F169.out.rd (by have l1 := F176.out.len; have q0 := LY0.out; omega) (by have l1 := F169.out.len; have q1 := LY1.out; omega)).mono ?_)
  rintro e w177 ⟨A178, m179, c180, rfl, ho, hb⟩
  have F181 := Lib.hid ho
  clear ho
  have S182 := Lib.hid (hb.size)
  have B183 := Lib.hid (B171.out.trans (hb.mono B171.out.size))
  have F184 := Lib.hid (F172.out.below hb)
  clear F172
  have F185 := Lib.hid (F173.out.below hb)
  clear F173
  have F186 := Lib.hid (F174.out.below hb)
  clear F174
  have F187 := Lib.hid (F175.out.below hb)
  clear F175
  have F188 := Lib.hid (F176.out.below hb)
  clear F176
  have F189 := Lib.hid (F169.out.below hb)
  clear F169
  clear hb B171
  go_wp2_with fail
  (with_reducible refine (harn.eqIntS_yes (chm.mrg (y0 ++ y1)) _ _ _ _ A178 A21 m179 c180 m22 c23 _ F181.out.rd F186.out.rd).mono ?_)
  rintro e w190 ⟨rfl, hb⟩
  have S191 := Lib.hid (hb.size)
  have B192 := Lib.hid (B183.out.trans (hb.mono B183.out.size))
  have F193 := Lib.hid (F186.out.below hb)
  clear F186
  have F194 := Lib.hid (F187.out.below hb)
  clear F187
  have F195 := Lib.hid (F181.out.below hb)
  clear F181
  clear hb B183
  go_wp2_with fail
  (with_reducible refine (harn.heldIntS _ _ A53 m54 c55 1 _ F194.out.rd (by omega) (by have n0 := N121.out; have n1 := N131.out; have n2 := N147.out; omega) N147.out).mono ?_)
  rintro e w196 ⟨rfl, rfl⟩
  go_wp2_with fail
  go_ret
  exact ⟨rfl, B192.out⟩
end Go.Proofs.Ytcfgjlolabnolaa.xExactMergePatterns
