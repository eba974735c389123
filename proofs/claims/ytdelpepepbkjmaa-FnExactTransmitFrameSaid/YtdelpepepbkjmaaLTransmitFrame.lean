/- The law function of FnExactTransmitFrame returns true and leaves what was there. Condition: the slices among the arguments are slices that came in. -/
import Derived.Test.YtdelpepepbkjmaaEnd10
namespace Go.Proofs.Ytdelpepepbkjmaa.xExactTransmitFrame
open Go.RowKit sl harn
set_option linter.unusedVariables false
set_option maxRecDepth 100000 in
set_option maxHeartbeats 4000000 in
theorem walk (n0_0 : Int) (wn0_0 : (Lit.int .i64 n0_0).wf = true) (n0_1 : Int) (wn0_1 : (Lit.int .i64 n0_1).wf = true) (n0_2 : Int) (wn0_2 : (Lit.int .i64 n0_2).wf = true) (a1 : Option Addr) (len1 cap1 : Nat) (z1 : List Int) (w : World) (r1 : kit.IsRow .u8 w a1 len1 cap1 z1) :
    Calls Try.prog 8 #[.agg #[.int .i64 n0_0, .int .i64 n0_1, .int .i64 n0_2], .slice a1 len1 cap1] w fun e w' => e = .returned (.bool true) ∧ Below w.heap.size w w' := by
  have Wn0_0 := Lib.hid wn0_0
  clear wn0_0
  have Wn0_1 := Lib.hid wn0_1
  clear wn0_1
  have Wn0_2 := Lib.hid wn0_2
  clear wn0_2
  obtain ⟨y1, hr1⟩ := Rd.of_row r1
  have R1 := Lib.hid hr1
  have hl1 : (len1 : Int) ≤ 9223372036854775807 := by have := hr1.cap_; omega
  clear r1 hr1
  by_cases hbig1 : 1048576 < (len1 : Int)
  · go_enter Try.func8, Try.ntmps8
    go_wp2
    go_ret
    exact ⟨rfl, phs.below_box _ _⟩
  have LY1 : Hid (y1.length ≤ 1048576) := by have := R1.out.len; unfold Hid; omega
  have B0 := Lib.hid (Below.refl w.heap.size w)
  go_enter Try.func8, Try.ntmps8
  go_wp2_with fail
  generalize hW0 : w.alloc (.cells #[.int .i64 n0_0, .int .i64 n0_1, .int .i64 n0_2] 34) = W0
  have S00 := Lib.hid (show w.heap.size + 1 ≤ W0.heap.size by rw [← hW0]; simp)
  have hb0 : Below w.heap.size w W0 := by rw [← hW0]; exact phs.below_box _ _
  have B1_0 := Lib.hid hb0
  have X0 := Lib.hid (show phs.LBox W0 (w.heap.size) n0_0 n0_1 n0_2 by rw [← hW0]; exact phs.LBox.made _ _ _ _)
  clear hW0
  have F1 := Lib.hid (R1.out.below hb0)
  clear R1
  clear hb0
  (with_reducible refine (phs.toHdr n0_0 n0_1 n0_2 _).mono ?_)
  rintro e w2 ⟨rfl, hb⟩
  have S3 := Lib.hid (hb.size)
  have B4 := Lib.hid (B1_0.out.trans (hb.mono B1_0.out.size))
  have X5 := Lib.hid (X0.out.below hb)
  clear X0
  have F6 := Lib.hid (F1.out.below hb)
  clear F1
  clear hb B1_0
  go_wp2_with fail
  (with_reducible refine (harn.toByteS y1 _ _ a1 len1 cap1 _ F6.out (by have l1 := F6.out.len; have q1 := LY1.out; omega)).mono ?_)
  rintro e w7 ⟨A8, m9, c10, rfl, ho, hb⟩
  have F11 := Lib.hid ho
  clear ho
  have S12 := Lib.hid (hb.size)
  have B13 := Lib.hid (B4.out.trans (hb.mono B4.out.size))
  have X14 := Lib.hid (X5.out.below hb)
  clear X5
  have F15 := Lib.hid (F6.out.below hb)
  clear F6
  clear hb B4
  go_wp2_with fail
  (with_reducible refine (phs.specTx n0_0 n0_1 n0_2 y1 _ _ A8 m9 c10 _ F11.out.rd (by have l1 := F11.out.len; have q1 := LY1.out; omega)).mono ?_)
  rintro e w16 ⟨A17, m18, c19, rfl, ho, hb⟩
  have F20 := Lib.hid ho
  clear ho
  have S21 := Lib.hid (hb.size)
  have B22 := Lib.hid (B13.out.trans (hb.mono B13.out.size))
  have X23 := Lib.hid (X14.out.below hb)
  clear X14
  have F24 := Lib.hid (F15.out.below hb)
  clear F15
  have F25 := Lib.hid (F11.out.below hb)
  clear F11
  clear hb B13
  go_wp2_with fail
  (with_reducible refine (harn.toByteS y1 _ _ a1 len1 cap1 _ F24.out (by have l1 := F24.out.len; have q1 := LY1.out; omega)).mono ?_)
  rintro e w26 ⟨A27, m28, c29, rfl, ho, hb⟩
  have F30 := Lib.hid ho
  clear ho
  have S31 := Lib.hid (hb.size)
  have B32 := Lib.hid (B22.out.trans (hb.mono B22.out.size))
  have X33 := Lib.hid (X23.out.below hb)
  clear X23
  have F34 := Lib.hid (F24.out.below hb)
  clear F24
  have F35 := Lib.hid (F20.out.below hb)
  clear F20
  clear hb B22
  have cc0 := X33.out.c0
  have cc1 := X33.out.c1
  have cc2 := X33.out.c2
  go_wp2_with fail
  clear cc0 cc1 cc2
  (with_reducible refine (phs.toHdr n0_0 n0_1 n0_2 _).mono ?_)
  rintro e w36 ⟨rfl, hb⟩
  have S37 := Lib.hid (hb.size)
  have B38 := Lib.hid (B32.out.trans (hb.mono B32.out.size))
  have X39 := Lib.hid (X33.out.below hb)
  clear X33
  have F40 := Lib.hid (F34.out.below hb)
  clear F34
  have F41 := Lib.hid (F35.out.below hb)
  clear F35
  have F42 := Lib.hid (F30.out.below hb)
  clear F30
  clear hb B32
  go_wp2_with fail
  (with_reducible refine (phs.implTx n0_0 n0_1 n0_2 y1 _ _ A27 m28 c29 _ F42.out.rd (by have l1 := F42.out.len; have q1 := LY1.out; omega)).mono ?_)
  rintro e w43 ⟨A44, m45, c46, rfl, ho, hb⟩
  have F47 := Lib.hid ho
  clear ho
  have S48 := Lib.hid (hb.size)
  have B49 := Lib.hid (B38.out.trans (hb.mono B38.out.size))
  have X50 := Lib.hid (X39.out.below hb)
  clear X39
  have F51 := Lib.hid (F40.out.below hb)
  clear F40
  have F52 := Lib.hid (F41.out.below hb)
  clear F41
  have F53 := Lib.hid (F42.out.below hb)
  clear F42
  clear hb B38
  go_wp2_with fail
  (with_reducible refine (harn.eqIntS_yes (phm.tx n0_0 n0_1 n0_2 y1) _ _ _ _ A44 A17 m45 c46 m18 c19 _ F47.out.rd F52.out.rd).mono ?_)
  rintro e w54 ⟨rfl, hb⟩
  have S55 := Lib.hid (hb.size)
  have B56 := Lib.hid (B49.out.trans (hb.mono B49.out.size))
  have X57 := Lib.hid (X50.out.below hb)
  clear X50
  have F58 := Lib.hid (F51.out.below hb)
  clear F51
  have F59 := Lib.hid (F52.out.below hb)
  clear F52
  have F60 := Lib.hid (F53.out.below hb)
  clear F53
  have F61 := Lib.hid (F47.out.below hb)
  clear F47
  clear hb B49
  go_wp2_with fail
  (with_reducible refine (harn.toByteS y1 _ _ a1 len1 cap1 _ F58.out (by have l1 := F58.out.len; have q1 := LY1.out; omega)).mono ?_)
  rintro e w62 ⟨A63, m64, c65, rfl, ho, hb⟩
  have F66 := Lib.hid ho
  clear ho
  have S67 := Lib.hid (hb.size)
  have B68 := Lib.hid (B56.out.trans (hb.mono B56.out.size))
  have X69 := Lib.hid (X57.out.below hb)
  clear X57
  have F70 := Lib.hid (F58.out.below hb)
  clear F58
  have F71 := Lib.hid (F59.out.below hb)
  clear F59
  have F72 := Lib.hid (F60.out.below hb)
  clear F60
  have F73 := Lib.hid (F61.out.below hb)
  clear F61
  clear hb B56
  go_wp2_with fail
  (with_reducible refine (harn.eqByteS_yes y1 _ _ _ _ A27 A63 m28 c29 m64 c65 _ F72.out.rd F66.out.rd).mono ?_)
  rintro e w74 ⟨rfl, hb⟩
  have S75 := Lib.hid (hb.size)
  have B76 := Lib.hid (B68.out.trans (hb.mono B68.out.size))
  have X77 := Lib.hid (X69.out.below hb)
  clear X69
  have F78 := Lib.hid (F70.out.below hb)
  clear F70
  have F79 := Lib.hid (F71.out.below hb)
  clear F71
  have F80 := Lib.hid (F72.out.below hb)
  clear F72
  have F81 := Lib.hid (F73.out.below hb)
  clear F73
  have F82 := Lib.hid (F66.out.below hb)
  clear F66
  clear hb B68
  go_wp2_with fail
  (with_reducible refine (harn.markByteS y1 _ _ A27 m28 c29 1 _ F80.out (by omega) (by  omega) (by have l1 := F80.out.len; have q1 := LY1.out; omega)).mono ?_)
  rintro e w83 ⟨rfl, ho, hb⟩
  have N85 := Lib.hid (show m28 ≤ 67108864 from (by have l1 := F80.out.len; have q1 := LY1.out; omega))
  have F84 := Lib.hid ho
  clear ho
  have S86 := Lib.hid (hb.size)
  have B87 := Lib.hid (B76.out.trans (hb.below (by have s0 := S00.out; have s1 := S3.out; have s2 := S12.out; have s3 := S21.out; have s4 := S31.out; have s5 := S37.out; have s6 := S48.out; have s7 := S55.out; have s8 := S67.out; have s9 := S75.out; omega) B76.out.size))
  have X88 := Lib.hid (X77.out.tch hb (by have s0 := S00.out; have s1 := S3.out; have s2 := S12.out; have s3 := S21.out; have s4 := S31.out; have s5 := S37.out; have s6 := S48.out; have s7 := S55.out; have s8 := S67.out; have s9 := S75.out; have s10 := S86.out; omega))
  clear X77
  have F89 := Lib.hid (F78.out.tch hb (by have s0 := S00.out; have s1 := S3.out; have s2 := S12.out; have s3 := S21.out; have s4 := S31.out; have s5 := S37.out; have s6 := S48.out; have s7 := S55.out; have s8 := S67.out; have s9 := S75.out; have s10 := S86.out; omega))
  clear F78
  have F90 := Lib.hid (F79.out.tch hb (by have s0 := S00.out; have s1 := S3.out; have s2 := S12.out; have s3 := S21.out; have s4 := S31.out; have s5 := S37.out; have s6 := S48.out; have s7 := S55.out; have s8 := S67.out; have s9 := S75.out; have s10 := S86.out; omega))
  clear F79
  have F91 := Lib.hid (F81.out.tch hb (by have s0 := S00.out; have s1 := S3.out; have s2 := S12.out; have s3 := S21.out; have s4 := S31.out; have s5 := S37.out; have s6 := S48.out; have s7 := S55.out; have s8 := S67.out; have s9 := S75.out; have s10 := S86.out; omega))
  clear F81
  clear hb B76
  clear F80
  go_wp2_with fail
  (with_reducible refine (harn.eqIntS_yes (phm.tx n0_0 n0_1 n0_2 y1) _ _ _ _ A44 A17 m45 c46 m18 c19 _ F91.out.rd F90.out.rd).mono ?_)
  rintro e w92 ⟨rfl, hb⟩
  have S93 := Lib.hid (hb.size)
  have B94 := Lib.hid (B87.out.trans (hb.mono B87.out.size))
  have X95 := Lib.hid (X88.out.below hb)
  clear X88
  have F96 := Lib.hid (F89.out.below hb)
  clear F89
  have F97 := Lib.hid (F90.out.below hb)
  clear F90
  have F98 := Lib.hid (F91.out.below hb)
  clear F91
  clear hb B87
  go_wp2_with fail
  (with_reducible refine (harn.markIntS (phm.tx n0_0 n0_1 n0_2 y1) _ _ A44 m45 c46 1 _ F98.out (by omega) (by have n0 := N85.out; omega) (by have l1 := F98.out.len; have u1 := phm.tx_len n0_0 n0_1 n0_2 y1; have q1 := LY1.out; omega)).mono ?_)
  rintro e w99 ⟨rfl, ho, hb⟩
  have N101 := Lib.hid (show m45 ≤ 67108864 from (by have l1 := F98.out.len; have u1 := phm.tx_len n0_0 n0_1 n0_2 y1; have q1 := LY1.out; omega))
  have F100 := Lib.hid ho
  clear ho
  have S102 := Lib.hid (hb.size)
  have B103 := Lib.hid (B94.out.trans (hb.below (by have s0 := S00.out; have s1 := S3.out; have s2 := S12.out; have s3 := S21.out; have s4 := S31.out; have s5 := S37.out; have s6 := S48.out; have s7 := S55.out; have s8 := S67.out; have s9 := S75.out; have s10 := S86.out; have s11 := S93.out; omega) B94.out.size))
  have X104 := Lib.hid (X95.out.tch hb (by have s0 := S00.out; have s1 := S3.out; have s2 := S12.out; have s3 := S21.out; have s4 := S31.out; have s5 := S37.out; have s6 := S48.out; have s7 := S55.out; have s8 := S67.out; have s9 := S75.out; have s10 := S86.out; have s11 := S93.out; have s12 := S102.out; omega))
  clear X95
  have F105 := Lib.hid (F96.out.tch hb (by have s0 := S00.out; have s1 := S3.out; have s2 := S12.out; have s3 := S21.out; have s4 := S31.out; have s5 := S37.out; have s6 := S48.out; have s7 := S55.out; have s8 := S67.out; have s9 := S75.out; have s10 := S86.out; have s11 := S93.out; have s12 := S102.out; omega))
  clear F96
  have F106 := Lib.hid (F97.out.tch hb (by have s0 := S00.out; have s1 := S3.out; have s2 := S12.out; have s3 := S21.out; have s4 := S31.out; have s5 := S37.out; have s6 := S48.out; have s7 := S55.out; have s8 := S67.out; have s9 := S75.out; have s10 := S86.out; have s11 := S93.out; have s12 := S102.out; omega))
  clear F97
  clear hb B94
  clear F98
  go_wp2_with fail
  (with_reducible refine (harn.heldIntS _ _ A44 m45 c46 1 _ F100.out.rd (by omega) (by have n0 := N85.out; have n1 := N101.out; omega) N101.out).mono ?_)
  rintro e w107 ⟨rfl, rfl⟩
  have cc0 := X104.out.c0
  have cc1 := X104.out.c1
  have cc2 := X104.out.c2
  go_wp2_with fail
  clear cc0 cc1 cc2
  (with_reducible refine (phs.toHdr n0_0 n0_1 n0_2 _).mono ?_)
  rintro e w108 ⟨rfl, hb⟩
  have S109 := Lib.hid (hb.size)
  have B110 := Lib.hid (B103.out.trans (hb.mono B103.out.size))
  have X111 := Lib.hid (X104.out.below hb)
  clear X104
  have F112 := Lib.hid (F105.out.below hb)
  clear F105
  have F113 := Lib.hid (F106.out.below hb)
  clear F106
  have F114 := Lib.hid (F100.out.below hb)
  clear F100
  clear hb B103
  go_wp2_with fail
  (with_reducible refine (harn.toByteS y1 _ _ a1 len1 cap1 _ F112.out (by have l1 := F112.out.len; have q1 := LY1.out; omega)).mono ?_)
  rintro e w115 ⟨A116, m117, c118, rfl, ho, hb⟩
  have F119 := Lib.hid ho
  clear ho
  have S120 := Lib.hid (hb.size)
  have B121 := Lib.hid (B110.out.trans (hb.mono B110.out.size))
  have X122 := Lib.hid (X111.out.below hb)
  clear X111
  have F123 := Lib.hid (F112.out.below hb)
  clear F112
  have F124 := Lib.hid (F113.out.below hb)
  clear F113
  have F125 := Lib.hid (F114.out.below hb)
  clear F114
  clear hb B110
  go_wp2_with fail
  (with_reducible refine (phs.implTx n0_0 n0_1 n0_2 y1 _ _ A116 m117 c118 _ F119.out.rd (by have l1 := F119.out.len; have q1 := LY1.out; omega)).mono ?_)
  rintro e w126 ⟨A127, m128, c129, rfl, ho, hb⟩
  have F130 := Lib.hid ho
  clear ho
  have S131 := Lib.hid (hb.size)
  have B132 := Lib.hid (B121.out.trans (hb.mono B121.out.size))
  have X133 := Lib.hid (X122.out.below hb)
  clear X122
  have F134 := Lib.hid (F123.out.below hb)
  clear F123
  have F135 := Lib.hid (F124.out.below hb)
  clear F124
  have F136 := Lib.hid (F125.out.below hb)
  clear F125
  have F137 := Lib.hid (F119.out.below hb)
  clear F119
  clear hb B121
  go_wp2_with fail
  (with_reducible refine (harn.eqIntS_yes (phm.tx n0_0 n0_1 n0_2 y1) _ _ _ _ A127 A17 m128 c129 m18 c19 _ F130.out.rd F135.out.rd).mono ?_)
  rintro e w138 ⟨rfl, hb⟩
  have S139 := Lib.hid (hb.size)
  have B140 := Lib.hid (B132.out.trans (hb.mono B132.out.size))
  have F141 := Lib.hid (F135.out.below hb)
  clear F135
  have F142 := Lib.hid (F136.out.below hb)
  clear F136
  have F143 := Lib.hid (F130.out.below hb)
  clear F130
  clear hb B132
  go_wp2_with fail
  (with_reducible refine (harn.heldIntS _ _ A44 m45 c46 1 _ F142.out.rd (by omega) (by have n0 := N85.out; have n1 := N101.out; omega) N101.out).mono ?_)
  rintro e w144 ⟨rfl, rfl⟩
  go_wp2_with fail
  go_ret
  exact ⟨rfl, B140.out⟩
end Go.Proofs.Ytdelpepepbkjmaa.xExactTransmitFrame
