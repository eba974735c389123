/- The law function of FnExactDecodeFrame returns true and leaves what was there. Condition: the slices among the arguments are slices that came in. -/
import Derived.Test.YtnnlkkohbjolaaaFds
import Derived.Deep.RegionHeld3
namespace Go.Proofs.Ytnnlkkohbjolaaa.xExactDecodeFrame
open Go.RowKit sl harn frm
set_option linter.unusedVariables false
set_option maxRecDepth 100000 in
set_option maxHeartbeats 4000000 in
theorem walk (a0 : Option Addr) (len0 cap0 : Nat) (z0 : List Int) (w : World) (row0 : kit.IsRow .u8 w a0 len0 cap0 z0) :
    Calls Try.prog 6 #[.slice a0 len0 cap0] w fun e w' => e = .returned (.bool true) ∧ Below w.heap.size w w' := by
  obtain ⟨y0, hr0⟩ := Rd.of_row row0
  have R0 := Lib.hid hr0
  have hl0 : (len0 : Int) ≤ 9223372036854775807 := by have := hr0.cap_; omega
  clear row0 hr0
  by_cases hbig0 : 1048576 < (len0 : Int)
  · go_enter Try.func6, Try.ntmps6
    go_wp2
    go_ret
    exact ⟨rfl, Below.refl _ _⟩
  have LY0 : Hid (y0.length ≤ 1048576) := by have := R0.out.len; unfold Hid; omega
  have B0 := Lib.hid (Below.refl w.heap.size w)
  obtain ⟨⟨⟨fd0, fd1, fd2, fd3, fd4, fd5, fd6, fd7, zz⟩, bb⟩, ht⟩ : ∃ x, df y0 = x := ⟨_, rfl⟩
  have HT := Lib.hid ht
  have HL := Lib.hid (show zz.length ≤ 100 from df_len ht)
  clear ht
  go_enter Try.func6, Try.ntmps6
  go_wp2_with fail
  (with_reducible refine (harn.toByteS y0 _ _ a0 len0 cap0 _ R0.out (by have l1 := R0.out.len; have q0 := LY0.out; omega)).mono ?_)
  rintro e w4 ⟨A1, m2, c3, rfl, ho, hb⟩
  have F5 := Lib.hid ho
  clear ho
  have S7 := Lib.hid (hb.size)
  have B6 := Lib.hid (B0.out.trans (hb.mono B0.out.size))
  clear B0
  have F8 := Lib.hid (R0.out.below hb)
  clear R0
  clear hb
  go_wp2_with fail
  (with_reducible refine (fbx.specDf y0 _ _ A1 m2 c3 _ F5.out.rd (by have l1 := F5.out.len; have q0 := LY0.out; omega)).mono ?_)
  rintro e w12 hpost
  obtain ⟨A9, m10, c11, rfl, ho, hb⟩ := fbx.DPost.parts HT.out hpost
  have F13 := Lib.hid ho
  clear ho hpost
  have S15 := Lib.hid (hb.size)
  have B14 := Lib.hid (B6.out.trans (hb.mono B6.out.size))
  clear B6
  have F16 := Lib.hid (F8.out.below hb)
  clear F8
  have F17 := Lib.hid (F5.out.below hb)
  clear F5
  clear hb
  clear F17
  obtain ⟨V18, hV18⟩ : ∃ x, x = w12.alloc (.cells #[.int .i64 fd0, .int .i64 fd1, .int .i64 fd2, .int .i64 fd3, .int .i64 fd4, .bool fd5, .bool fd6, .int .i64 fd7, .slice A9 m10 c11] 25) := ⟨_, rfl⟩
  have hbV18 : Below w12.heap.size w12 V18 := by rw [hV18]; exact fbx.below_box _ _
  have S19 := Lib.hid (show w12.heap.size + 1 ≤ V18.heap.size by rw [hV18]; simp)
  have S21 := Lib.hid (hbV18.size)
  have B20 := Lib.hid (B14.out.trans (hbV18.mono B14.out.size))
  clear B14
  have F22 := Lib.hid (F16.out.below hbV18)
  clear F16
  have F23 := Lib.hid (F13.out.below hbV18)
  clear F13
  have X24 := Lib.hid (show fbx.Bx 25 V18 w12.heap.size #[.int .i64 fd0, .int .i64 fd1, .int .i64 fd2, .int .i64 fd3, .int .i64 fd4, .bool fd5, .bool fd6, .int .i64 fd7, .slice A9 m10 c11] by rw [hV18]; exact fbx.Bx.made _ _ _)
  clear hbV18
  go_wp2_with fail
  rw [← hV18]
  clear hV18 
  (with_reducible refine (harn.toByteS y0 _ _ a0 len0 cap0 _ F22.out (by have l1 := F22.out.len; have q0 := LY0.out; omega)).mono ?_)
  rintro e w28 ⟨A25, m26, c27, rfl, ho, hb⟩
  have F29 := Lib.hid ho
  clear ho
  have S31 := Lib.hid (hb.size)
  have B30 := Lib.hid (B20.out.trans (hb.mono B20.out.size))
  clear B20
  have F32 := Lib.hid (F22.out.below hb)
  clear F22
  have F33 := Lib.hid (F23.out.below hb)
  clear F23
  have F34 := Lib.hid (X24.out.below hb)
  clear X24
  clear hb
  go_wp2_with fail
  (with_reducible refine (fbx.implDf y0 _ _ A25 m26 c27 _ F29.out.rd (by have l1 := F29.out.len; have q0 := LY0.out; omega)).mono ?_)
  rintro e w38 hpost
  obtain ⟨A35, m36, c37, rfl, ho, hb⟩ := fbx.DPost.parts HT.out hpost
  have F39 := Lib.hid ho
  clear ho hpost
  have S41 := Lib.hid (hb.size)
  have B40 := Lib.hid (B30.out.trans (hb.mono B30.out.size))
  clear B30
  have F42 := Lib.hid (F32.out.below hb)
  clear F32
  have F43 := Lib.hid (F33.out.below hb)
  clear F33
  have F44 := Lib.hid (F34.out.below hb)
  clear F34
  have F45 := Lib.hid (F29.out.below hb)
  clear F29
  clear hb
  obtain ⟨V46, hV46⟩ : ∃ x, x = w38.alloc (.cells #[.int .i64 fd0, .int .i64 fd1, .int .i64 fd2, .int .i64 fd3, .int .i64 fd4, .bool fd5, .bool fd6, .int .i64 fd7, .slice A35 m36 c37] 25) := ⟨_, rfl⟩
  have hbV46 : Below w38.heap.size w38 V46 := by rw [hV46]; exact fbx.below_box _ _
  have S47 := Lib.hid (show w38.heap.size + 1 ≤ V46.heap.size by rw [hV46]; simp)
  have S49 := Lib.hid (hbV46.size)
  have B48 := Lib.hid (B40.out.trans (hbV46.mono B40.out.size))
  clear B40
  have F50 := Lib.hid (F42.out.below hbV46)
  clear F42
  have F51 := Lib.hid (F43.out.below hbV46)
  clear F43
  have F52 := Lib.hid (F44.out.below hbV46)
  clear F44
  have F53 := Lib.hid (F45.out.below hbV46)
  clear F45
  have F54 := Lib.hid (F39.out.below hbV46)
  clear F39
  have X55 := Lib.hid (show fbx.Bx 25 V46 w38.heap.size #[.int .i64 fd0, .int .i64 fd1, .int .i64 fd2, .int .i64 fd3, .int .i64 fd4, .bool fd5, .bool fd6, .int .i64 fd7, .slice A35 m36 c37] by rw [hV46]; exact fbx.Bx.made _ _ _)
  clear hbV46
  have cc0_0 : (w38.alloc (.cells #[.int .i64 fd0, .int .i64 fd1, .int .i64 fd2, .int .i64 fd3, .int .i64 fd4, .bool fd5, .bool fd6, .int .i64 fd7, .slice A35 m36 c37] 25)).cell? ⟨w38.heap.size, 0, none⟩ = some (.int .i64 fd0) := by rw [← hV46]; exact X55.out.cell 0
  have cc0_1 : (w38.alloc (.cells #[.int .i64 fd0, .int .i64 fd1, .int .i64 fd2, .int .i64 fd3, .int .i64 fd4, .bool fd5, .bool fd6, .int .i64 fd7, .slice A35 m36 c37] 25)).cell? ⟨w38.heap.size, 1, none⟩ = some (.int .i64 fd1) := by rw [← hV46]; exact X55.out.cell 1
  have cc0_2 : (w38.alloc (.cells #[.int .i64 fd0, .int .i64 fd1, .int .i64 fd2, .int .i64 fd3, .int .i64 fd4, .bool fd5, .bool fd6, .int .i64 fd7, .slice A35 m36 c37] 25)).cell? ⟨w38.heap.size, 2, none⟩ = some (.int .i64 fd2) := by rw [← hV46]; exact X55.out.cell 2
  have cc0_3 : (w38.alloc (.cells #[.int .i64 fd0, .int .i64 fd1, .int .i64 fd2, .int .i64 fd3, .int .i64 fd4, .bool fd5, .bool fd6, .int .i64 fd7, .slice A35 m36 c37] 25)).cell? ⟨w38.heap.size, 3, none⟩ = some (.int .i64 fd3) := by rw [← hV46]; exact X55.out.cell 3
  have cc0_4 : (w38.alloc (.cells #[.int .i64 fd0, .int .i64 fd1, .int .i64 fd2, .int .i64 fd3, .int .i64 fd4, .bool fd5, .bool fd6, .int .i64 fd7, .slice A35 m36 c37] 25)).cell? ⟨w38.heap.size, 4, none⟩ = some (.int .i64 fd4) := by rw [← hV46]; exact X55.out.cell 4
  have cc0_5 : (w38.alloc (.cells #[.int .i64 fd0, .int .i64 fd1, .int .i64 fd2, .int .i64 fd3, .int .i64 fd4, .bool fd5, .bool fd6, .int .i64 fd7, .slice A35 m36 c37] 25)).cell? ⟨w38.heap.size, 5, none⟩ = some (.bool fd5) := by rw [← hV46]; exact X55.out.cell 5
  have cc0_6 : (w38.alloc (.cells #[.int .i64 fd0, .int .i64 fd1, .int .i64 fd2, .int .i64 fd3, .int .i64 fd4, .bool fd5, .bool fd6, .int .i64 fd7, .slice A35 m36 c37] 25)).cell? ⟨w38.heap.size, 6, none⟩ = some (.bool fd6) := by rw [← hV46]; exact X55.out.cell 6
  have cc0_7 : (w38.alloc (.cells #[.int .i64 fd0, .int .i64 fd1, .int .i64 fd2, .int .i64 fd3, .int .i64 fd4, .bool fd5, .bool fd6, .int .i64 fd7, .slice A35 m36 c37] 25)).cell? ⟨w38.heap.size, 7, none⟩ = some (.int .i64 fd7) := by rw [← hV46]; exact X55.out.cell 7
  have cc0_8 : (w38.alloc (.cells #[.int .i64 fd0, .int .i64 fd1, .int .i64 fd2, .int .i64 fd3, .int .i64 fd4, .bool fd5, .bool fd6, .int .i64 fd7, .slice A35 m36 c37] 25)).cell? ⟨w38.heap.size, 8, none⟩ = some (.slice A35 m36 c37) := by rw [← hV46]; exact X55.out.cell 8
  have cc1_0 : (w38.alloc (.cells #[.int .i64 fd0, .int .i64 fd1, .int .i64 fd2, .int .i64 fd3, .int .i64 fd4, .bool fd5, .bool fd6, .int .i64 fd7, .slice A35 m36 c37] 25)).cell? ⟨w12.heap.size, 0, none⟩ = some (.int .i64 fd0) := by rw [← hV46]; exact F52.out.cell 0
  have cc1_1 : (w38.alloc (.cells #[.int .i64 fd0, .int .i64 fd1, .int .i64 fd2, .int .i64 fd3, .int .i64 fd4, .bool fd5, .bool fd6, .int .i64 fd7, .slice A35 m36 c37] 25)).cell? ⟨w12.heap.size, 1, none⟩ = some (.int .i64 fd1) := by rw [← hV46]; exact F52.out.cell 1
  have cc1_2 : (w38.alloc (.cells #[.int .i64 fd0, .int .i64 fd1, .int .i64 fd2, .int .i64 fd3, .int .i64 fd4, .bool fd5, .bool fd6, .int .i64 fd7, .slice A35 m36 c37] 25)).cell? ⟨w12.heap.size, 2, none⟩ = some (.int .i64 fd2) := by rw [← hV46]; exact F52.out.cell 2
  have cc1_3 : (w38.alloc (.cells #[.int .i64 fd0, .int .i64 fd1, .int .i64 fd2, .int .i64 fd3, .int .i64 fd4, .bool fd5, .bool fd6, .int .i64 fd7, .slice A35 m36 c37] 25)).cell? ⟨w12.heap.size, 3, none⟩ = some (.int .i64 fd3) := by rw [← hV46]; exact F52.out.cell 3
  have cc1_4 : (w38.alloc (.cells #[.int .i64 fd0, .int .i64 fd1, .int .i64 fd2, .int .i64 fd3, .int .i64 fd4, .bool fd5, .bool fd6, .int .i64 fd7, .slice A35 m36 c37] 25)).cell? ⟨w12.heap.size, 4, none⟩ = some (.int .i64 fd4) := by rw [← hV46]; exact F52.out.cell 4
  have cc1_5 : (w38.alloc (.cells #[.int .i64 fd0, .int .i64 fd1, .int .i64 fd2, .int .i64 fd3, .int .i64 fd4, .bool fd5, .bool fd6, .int .i64 fd7, .slice A35 m36 c37] 25)).cell? ⟨w12.heap.size, 5, none⟩ = some (.bool fd5) := by rw [← hV46]; exact F52.out.cell 5
  have cc1_6 : (w38.alloc (.cells #[.int .i64 fd0, .int .i64 fd1, .int .i64 fd2, .int .i64 fd3, .int .i64 fd4, .bool fd5, .bool fd6, .int .i64 fd7, .slice A35 m36 c37] 25)).cell? ⟨w12.heap.size, 6, none⟩ = some (.bool fd6) := by rw [← hV46]; exact F52.out.cell 6
  have cc1_7 : (w38.alloc (.cells #[.int .i64 fd0, .int .i64 fd1, .int .i64 fd2, .int .i64 fd3, .int .i64 fd4, .bool fd5, .bool fd6, .int .i64 fd7, .slice A35 m36 c37] 25)).cell? ⟨w12.heap.size, 7, none⟩ = some (.int .i64 fd7) := by rw [← hV46]; exact F52.out.cell 7
  have cc1_8 : (w38.alloc (.cells #[.int .i64 fd0, .int .i64 fd1, .int .i64 fd2, .int .i64 fd3, .int .i64 fd4, .bool fd5, .bool fd6, .int .i64 fd7, .slice A35 m36 c37] 25)).cell? ⟨w12.heap.size, 8, none⟩ = some (.slice A9 m10 c11) := by rw [← hV46]; exact F52.out.cell 8
  go_wp2_with fail
  rw [← hV46]
  clear hV46 cc0_0 cc0_1 cc0_2 cc0_3 cc0_4 cc0_5 cc0_6 cc0_7 cc0_8 cc1_0 cc1_1 cc1_2 cc1_3 cc1_4 cc1_5 cc1_6 cc1_7 cc1_8
  (with_reducible refine (fbx.eqMac fd0 fd1 fd2 fd3 fd4 fd5 fd6 fd7 A35 m36 c37 A9 m10 c11 zz _ _ _ _ _ F54.out.rd F51.out.rd).mono ?_)
  rintro e w56 ⟨rfl, hb⟩
  have S58 := Lib.hid (hb.size)
  have B57 := Lib.hid (B48.out.trans (hb.mono B48.out.size))
  clear B48
  have F59 := Lib.hid (F50.out.below hb)
  clear F50
  have F60 := Lib.hid (F51.out.below hb)
  clear F51
  have F61 := Lib.hid (F52.out.below hb)
  clear F52
  have F62 := Lib.hid (F53.out.below hb)
  clear F53
  have F63 := Lib.hid (F54.out.below hb)
  clear F54
  have F64 := Lib.hid (X55.out.below hb)
  clear X55
  clear hb
  go_wp2_with fail
  (with_reducible refine (harn.toByteS y0 _ _ a0 len0 cap0 _ F59.out (by have l1 := F59.out.len; have q0 := LY0.out; omega)).mono ?_)
  rintro e w68 ⟨A65, m66, c67, rfl, ho, hb⟩
  have F69 := Lib.hid ho
  clear ho
  have S71 := Lib.hid (hb.size)
  have B70 := Lib.hid (B57.out.trans (hb.mono B57.out.size))
  clear B57
  have F72 := Lib.hid (F59.out.below hb)
  clear F59
  have F73 := Lib.hid (F60.out.below hb)
  clear F60
  have F74 := Lib.hid (F61.out.below hb)
  clear F61
  have F75 := Lib.hid (F62.out.below hb)
  clear F62
  have F76 := Lib.hid (F63.out.below hb)
  clear F63
  have F77 := Lib.hid (F64.out.below hb)
  clear F64
  clear hb
  go_wp2_with fail
  (with_reducible refine (harn.eqByteS_yes y0 _ _ _ _ A25 A65 m26 c27 m66 c67 _ F75.out.rd F69.out.rd).mono ?_)
  rintro e w78 ⟨rfl, hb⟩
  have S80 := Lib.hid (hb.size)
  have B79 := Lib.hid (B70.out.trans (hb.mono B70.out.size))
  clear B70
  have F81 := Lib.hid (F72.out.below hb)
  clear F72
  have F82 := Lib.hid (F73.out.below hb)
  clear F73
  have F83 := Lib.hid (F74.out.below hb)
  clear F74
  have F84 := Lib.hid (F75.out.below hb)
  clear F75
  have F85 := Lib.hid (F76.out.below hb)
  clear F76
  have F86 := Lib.hid (F77.out.below hb)
  clear F77
  have F87 := Lib.hid (F69.out.below hb)
  clear F69
  clear hb
  clear F87
  go_wp2_with fail
  (with_reducible refine (harn.markByteS y0 _ _ A25 m26 c27 1 _ F84.out (by omega) (by  omega) (by have l1 := F84.out.len; have q0 := LY0.out; omega)).mono ?_)
  rintro e w88 ⟨rfl, ho, hb⟩
  have N89 := Lib.hid (show m26 ≤ 67108864 from (by have l1 := F84.out.len; have q0 := LY0.out; omega))
  have F90 := Lib.hid ho
  clear ho
  have S92 := Lib.hid (hb.size)
  have B91 := Lib.hid (B79.out.trans (hb.below (by have s0 := S7.out; have s1 := S15.out; have s2 := S19.out; have s3 := S21.out; have s4 := S31.out; have s5 := S41.out; have s6 := S47.out; have s7 := S49.out; have s8 := S58.out; have s9 := S71.out; have s10 := S80.out; omega) B79.out.size))
  clear B79
  have F93 := Lib.hid (F81.out.tch hb (by have s0 := S7.out; have s1 := S15.out; have s2 := S19.out; have s3 := S21.out; have s4 := S31.out; have s5 := S41.out; have s6 := S47.out; have s7 := S49.out; have s8 := S58.out; have s9 := S71.out; have s10 := S80.out; have s11 := S92.out; omega))
  clear F81
  have F94 := Lib.hid (F82.out.tch hb (by have s0 := S7.out; have s1 := S15.out; have s2 := S19.out; have s3 := S21.out; have s4 := S31.out; have s5 := S41.out; have s6 := S47.out; have s7 := S49.out; have s8 := S58.out; have s9 := S71.out; have s10 := S80.out; have s11 := S92.out; omega))
  clear F82
  have F95 := Lib.hid (F83.out.tch hb (by have s0 := S7.out; have s1 := S15.out; have s2 := S19.out; have s3 := S21.out; have s4 := S31.out; have s5 := S41.out; have s6 := S47.out; have s7 := S49.out; have s8 := S58.out; have s9 := S71.out; have s10 := S80.out; have s11 := S92.out; omega))
  clear F83
  have F96 := Lib.hid (F85.out.tch hb (by have s0 := S7.out; have s1 := S15.out; have s2 := S19.out; have s3 := S21.out; have s4 := S31.out; have s5 := S41.out; have s6 := S47.out; have s7 := S49.out; have s8 := S58.out; have s9 := S71.out; have s10 := S80.out; have s11 := S92.out; omega))
  clear F85
  have F97 := Lib.hid (F86.out.tch hb (by have s0 := S7.out; have s1 := S15.out; have s2 := S19.out; have s3 := S21.out; have s4 := S31.out; have s5 := S41.out; have s6 := S47.out; have s7 := S49.out; have s8 := S58.out; have s9 := S71.out; have s10 := S80.out; have s11 := S92.out; omega))
  clear F86
  clear hb
  clear F84
  clear F90
  have cc0_0 : w88.cell? ⟨w38.heap.size, 0, none⟩ = some (.int .i64 fd0) := F97.out.cell 0
  have cc0_1 : w88.cell? ⟨w38.heap.size, 1, none⟩ = some (.int .i64 fd1) := F97.out.cell 1
  have cc0_2 : w88.cell? ⟨w38.heap.size, 2, none⟩ = some (.int .i64 fd2) := F97.out.cell 2
  have cc0_3 : w88.cell? ⟨w38.heap.size, 3, none⟩ = some (.int .i64 fd3) := F97.out.cell 3
  have cc0_4 : w88.cell? ⟨w38.heap.size, 4, none⟩ = some (.int .i64 fd4) := F97.out.cell 4
  have cc0_5 : w88.cell? ⟨w38.heap.size, 5, none⟩ = some (.bool fd5) := F97.out.cell 5
  have cc0_6 : w88.cell? ⟨w38.heap.size, 6, none⟩ = some (.bool fd6) := F97.out.cell 6
  have cc0_7 : w88.cell? ⟨w38.heap.size, 7, none⟩ = some (.int .i64 fd7) := F97.out.cell 7
  have cc0_8 : w88.cell? ⟨w38.heap.size, 8, none⟩ = some (.slice A35 m36 c37) := F97.out.cell 8
  have cc1_0 : w88.cell? ⟨w12.heap.size, 0, none⟩ = some (.int .i64 fd0) := F95.out.cell 0
  have cc1_1 : w88.cell? ⟨w12.heap.size, 1, none⟩ = some (.int .i64 fd1) := F95.out.cell 1
  have cc1_2 : w88.cell? ⟨w12.heap.size, 2, none⟩ = some (.int .i64 fd2) := F95.out.cell 2
  have cc1_3 : w88.cell? ⟨w12.heap.size, 3, none⟩ = some (.int .i64 fd3) := F95.out.cell 3
  have cc1_4 : w88.cell? ⟨w12.heap.size, 4, none⟩ = some (.int .i64 fd4) := F95.out.cell 4
  have cc1_5 : w88.cell? ⟨w12.heap.size, 5, none⟩ = some (.bool fd5) := F95.out.cell 5
  have cc1_6 : w88.cell? ⟨w12.heap.size, 6, none⟩ = some (.bool fd6) := F95.out.cell 6
  have cc1_7 : w88.cell? ⟨w12.heap.size, 7, none⟩ = some (.int .i64 fd7) := F95.out.cell 7
  have cc1_8 : w88.cell? ⟨w12.heap.size, 8, none⟩ = some (.slice A9 m10 c11) := F95.out.cell 8
  go_wp2_with fail
  clear cc0_0 cc0_1 cc0_2 cc0_3 cc0_4 cc0_5 cc0_6 cc0_7 cc0_8 cc1_0 cc1_1 cc1_2 cc1_3 cc1_4 cc1_5 cc1_6 cc1_7 cc1_8
  (with_reducible refine (fbx.eqMac fd0 fd1 fd2 fd3 fd4 fd5 fd6 fd7 A35 m36 c37 A9 m10 c11 zz _ _ _ _ _ F96.out.rd F94.out.rd).mono ?_)
  rintro e w98 ⟨rfl, hb⟩
  have S100 := Lib.hid (hb.size)
  have B99 := Lib.hid (B91.out.trans (hb.mono B91.out.size))
  clear B91
  have F101 := Lib.hid (F93.out.below hb)
  clear F93
  have F102 := Lib.hid (F94.out.below hb)
  clear F94
  have F103 := Lib.hid (F95.out.below hb)
  clear F95
  have F104 := Lib.hid (F96.out.below hb)
  clear F96
  have F105 := Lib.hid (F97.out.below hb)
  clear F97
  clear hb
  have cc0_0 : w98.cell? ⟨w38.heap.size, 0, none⟩ = some (.int .i64 fd0) := F105.out.cell 0
  have cc0_1 : w98.cell? ⟨w38.heap.size, 1, none⟩ = some (.int .i64 fd1) := F105.out.cell 1
  have cc0_2 : w98.cell? ⟨w38.heap.size, 2, none⟩ = some (.int .i64 fd2) := F105.out.cell 2
  have cc0_3 : w98.cell? ⟨w38.heap.size, 3, none⟩ = some (.int .i64 fd3) := F105.out.cell 3
  have cc0_4 : w98.cell? ⟨w38.heap.size, 4, none⟩ = some (.int .i64 fd4) := F105.out.cell 4
  have cc0_5 : w98.cell? ⟨w38.heap.size, 5, none⟩ = some (.bool fd5) := F105.out.cell 5
  have cc0_6 : w98.cell? ⟨w38.heap.size, 6, none⟩ = some (.bool fd6) := F105.out.cell 6
  have cc0_7 : w98.cell? ⟨w38.heap.size, 7, none⟩ = some (.int .i64 fd7) := F105.out.cell 7
  have cc0_8 : w98.cell? ⟨w38.heap.size, 8, none⟩ = some (.slice A35 m36 c37) := F105.out.cell 8
  go_wp2_with fail
  clear cc0_0 cc0_1 cc0_2 cc0_3 cc0_4 cc0_5 cc0_6 cc0_7 cc0_8
  (with_reducible refine (fbx.markMac fd0 fd1 fd2 fd3 fd4 fd5 fd6 fd7 A35 m36 c37 zz _ _ 1 _ F104.out (by omega) (by have n0 := N89.out; omega) (by have l1 := F104.out.len; have u1 := HL.out; omega)).mono ?_)
  rintro e w106 ⟨rfl, ho, hb⟩
  have N107 := Lib.hid (show m36 ≤ 67108864 from (by have l1 := F104.out.len; have u1 := HL.out; omega))
  have F108 := Lib.hid ho
  clear ho
  have S110 := Lib.hid (hb.size)
  have B109 := Lib.hid (B99.out.trans (hb.below (by have s0 := S7.out; have s1 := S15.out; have s2 := S19.out; have s3 := S21.out; have s4 := S31.out; have s5 := S41.out; have s6 := S47.out; have s7 := S49.out; have s8 := S58.out; have s9 := S71.out; have s10 := S80.out; have s11 := S92.out; have s12 := S100.out; omega) B99.out.size))
  clear B99
  have F111 := Lib.hid (F101.out.tch hb (by have s0 := S7.out; have s1 := S15.out; have s2 := S19.out; have s3 := S21.out; have s4 := S31.out; have s5 := S41.out; have s6 := S47.out; have s7 := S49.out; have s8 := S58.out; have s9 := S71.out; have s10 := S80.out; have s11 := S92.out; have s12 := S100.out; have s13 := S110.out; omega))
  clear F101
  have F112 := Lib.hid (F102.out.tch hb (by have s0 := S7.out; have s1 := S15.out; have s2 := S19.out; have s3 := S21.out; have s4 := S31.out; have s5 := S41.out; have s6 := S47.out; have s7 := S49.out; have s8 := S58.out; have s9 := S71.out; have s10 := S80.out; have s11 := S92.out; have s12 := S100.out; have s13 := S110.out; omega))
  clear F102
  have F113 := Lib.hid (F103.out.tch hb (by have s0 := S7.out; have s1 := S15.out; have s2 := S19.out; have s3 := S21.out; have s4 := S31.out; have s5 := S41.out; have s6 := S47.out; have s7 := S49.out; have s8 := S58.out; have s9 := S71.out; have s10 := S80.out; have s11 := S92.out; have s12 := S100.out; have s13 := S110.out; omega))
  clear F103
  have F114 := Lib.hid (F105.out.tch hb (by have s0 := S7.out; have s1 := S15.out; have s2 := S19.out; have s3 := S21.out; have s4 := S31.out; have s5 := S41.out; have s6 := S47.out; have s7 := S49.out; have s8 := S58.out; have s9 := S71.out; have s10 := S80.out; have s11 := S92.out; have s12 := S100.out; have s13 := S110.out; omega))
  clear F105
  clear hb
  clear F104
  have cc0_0 : w106.cell? ⟨w38.heap.size, 0, none⟩ = some (.int .i64 fd0) := F114.out.cell 0
  have cc0_1 : w106.cell? ⟨w38.heap.size, 1, none⟩ = some (.int .i64 fd1) := F114.out.cell 1
  have cc0_2 : w106.cell? ⟨w38.heap.size, 2, none⟩ = some (.int .i64 fd2) := F114.out.cell 2
  have cc0_3 : w106.cell? ⟨w38.heap.size, 3, none⟩ = some (.int .i64 fd3) := F114.out.cell 3
  have cc0_4 : w106.cell? ⟨w38.heap.size, 4, none⟩ = some (.int .i64 fd4) := F114.out.cell 4
  have cc0_5 : w106.cell? ⟨w38.heap.size, 5, none⟩ = some (.bool fd5) := F114.out.cell 5
  have cc0_6 : w106.cell? ⟨w38.heap.size, 6, none⟩ = some (.bool fd6) := F114.out.cell 6
  have cc0_7 : w106.cell? ⟨w38.heap.size, 7, none⟩ = some (.int .i64 fd7) := F114.out.cell 7
  have cc0_8 : w106.cell? ⟨w38.heap.size, 8, none⟩ = some (.slice A35 m36 c37) := F114.out.cell 8
  go_wp2_with fail
  clear cc0_0 cc0_1 cc0_2 cc0_3 cc0_4 cc0_5 cc0_6 cc0_7 cc0_8
  (with_reducible refine (fbx.heldMac fd0 fd1 fd2 fd3 fd4 fd5 fd6 fd7 A35 m36 c37 _ _ 1 _ F108.out.rd (by omega) (by have n0 := N89.out; have n1 := N107.out; omega) N107.out).mono ?_)
  rintro e w115 ⟨rfl, hb⟩
  have S117 := Lib.hid (hb.size)
  have B116 := Lib.hid (B109.out.trans (hb.mono B109.out.size))
  clear B109
  have F118 := Lib.hid (F111.out.below hb)
  clear F111
  have F119 := Lib.hid (F112.out.below hb)
  clear F112
  have F120 := Lib.hid (F113.out.below hb)
  clear F113
  have F121 := Lib.hid (F108.out.below hb)
  clear F108
  have F122 := Lib.hid (F114.out.below hb)
  clear F114
  clear hb
  go_wp2_with fail
  (with_reducible refine (harn.toByteS y0 _ _ a0 len0 cap0 _ F118.out (by have l1 := F118.out.len; have q0 := LY0.out; omega)).mono ?_)
  rintro e w126 ⟨A123, m124, c125, rfl, ho, hb⟩
  have F127 := Lib.hid ho
  clear ho
  have S129 := Lib.hid (hb.size)
  have B128 := Lib.hid (B116.out.trans (hb.mono B116.out.size))
  clear B116
  have F130 := Lib.hid (F118.out.below hb)
  clear F118
  have F131 := Lib.hid (F119.out.below hb)
  clear F119
  have F132 := Lib.hid (F120.out.below hb)
  clear F120
  have F133 := Lib.hid (F121.out.below hb)
  clear F121
  have F134 := Lib.hid (F122.out.below hb)
  clear F122
  clear hb
  go_wp2_with fail
  (with_reducible refine (fbx.implDf y0 _ _ A123 m124 c125 _ F127.out.rd (by have l1 := F127.out.len; have q0 := LY0.out; omega)).mono ?_)
  rintro e w138 hpost
  obtain ⟨A135, m136, c137, rfl, ho, hb⟩ := fbx.DPost.parts HT.out hpost
  have F139 := Lib.hid ho
  clear ho hpost
  have S141 := Lib.hid (hb.size)
  have B140 := Lib.hid (B128.out.trans (hb.mono B128.out.size))
  clear B128
  have F142 := Lib.hid (F130.out.below hb)
  clear F130
  have F143 := Lib.hid (F131.out.below hb)
  clear F131
  have F144 := Lib.hid (F132.out.below hb)
  clear F132
  have F145 := Lib.hid (F133.out.below hb)
  clear F133
  have F146 := Lib.hid (F134.out.below hb)
  clear F134
  have F147 := Lib.hid (F127.out.below hb)
  clear F127
  clear hb
  clear F147
  obtain ⟨V148, hV148⟩ : ∃ x, x = w138.alloc (.cells #[.int .i64 fd0, .int .i64 fd1, .int .i64 fd2, .int .i64 fd3, .int .i64 fd4, .bool fd5, .bool fd6, .int .i64 fd7, .slice A135 m136 c137] 25) := ⟨_, rfl⟩
  have hbV148 : Below w138.heap.size w138 V148 := by rw [hV148]; exact fbx.below_box _ _
  have S149 := Lib.hid (show w138.heap.size + 1 ≤ V148.heap.size by rw [hV148]; simp)
  have S151 := Lib.hid (hbV148.size)
  have B150 := Lib.hid (B140.out.trans (hbV148.mono B140.out.size))
  clear B140
  have F152 := Lib.hid (F142.out.below hbV148)
  clear F142
  have F153 := Lib.hid (F143.out.below hbV148)
  clear F143
  have F154 := Lib.hid (F144.out.below hbV148)
  clear F144
  have F155 := Lib.hid (F145.out.below hbV148)
  clear F145
  have F156 := Lib.hid (F146.out.below hbV148)
  clear F146
  have F157 := Lib.hid (F139.out.below hbV148)
  clear F139
  have X158 := Lib.hid (show fbx.Bx 25 V148 w138.heap.size #[.int .i64 fd0, .int .i64 fd1, .int .i64 fd2, .int .i64 fd3, .int .i64 fd4, .bool fd5, .bool fd6, .int .i64 fd7, .slice A135 m136 c137] by rw [hV148]; exact fbx.Bx.made _ _ _)
  clear hbV148
  have cc0_0 : (w138.alloc (.cells #[.int .i64 fd0, .int .i64 fd1, .int .i64 fd2, .int .i64 fd3, .int .i64 fd4, .bool fd5, .bool fd6, .int .i64 fd7, .slice A135 m136 c137] 25)).cell? ⟨w138.heap.size, 0, none⟩ = some (.int .i64 fd0) := by rw [← hV148]; exact X158.out.cell 0
  have cc0_1 : (w138.alloc (.cells #[.int .i64 fd0, .int .i64 fd1, .int .i64 fd2, .int .i64 fd3, .int .i64 fd4, .bool fd5, .bool fd6, .int .i64 fd7, .slice A135 m136 c137] 25)).cell? ⟨w138.heap.size, 1, none⟩ = some (.int .i64 fd1) := by rw [← hV148]; exact X158.out.cell 1
  have cc0_2 : (w138.alloc (.cells #[.int .i64 fd0, .int .i64 fd1, .int .i64 fd2, .int .i64 fd3, .int .i64 fd4, .bool fd5, .bool fd6, .int .i64 fd7, .slice A135 m136 c137] 25)).cell? ⟨w138.heap.size, 2, none⟩ = some (.int .i64 fd2) := by rw [← hV148]; exact X158.out.cell 2
  have cc0_3 : (w138.alloc (.cells #[.int .i64 fd0, .int .i64 fd1, .int .i64 fd2, .int .i64 fd3, .int .i64 fd4, .bool fd5, .bool fd6, .int .i64 fd7, .slice A135 m136 c137] 25)).cell? ⟨w138.heap.size, 3, none⟩ = some (.int .i64 fd3) := by rw [← hV148]; exact X158.out.cell 3
  have cc0_4 : (w138.alloc (.cells #[.int .i64 fd0, .int .i64 fd1, .int .i64 fd2, .int .i64 fd3, .int .i64 fd4, .bool fd5, .bool fd6, .int .i64 fd7, .slice A135 m136 c137] 25)).cell? ⟨w138.heap.size, 4, none⟩ = some (.int .i64 fd4) := by rw [← hV148]; exact X158.out.cell 4
  have cc0_5 : (w138.alloc (.cells #[.int .i64 fd0, .int .i64 fd1, .int .i64 fd2, .int .i64 fd3, .int .i64 fd4, .bool fd5, .bool fd6, .int .i64 fd7, .slice A135 m136 c137] 25)).cell? ⟨w138.heap.size, 5, none⟩ = some (.bool fd5) := by rw [← hV148]; exact X158.out.cell 5
  have cc0_6 : (w138.alloc (.cells #[.int .i64 fd0, .int .i64 fd1, .int .i64 fd2, .int .i64 fd3, .int .i64 fd4, .bool fd5, .bool fd6, .int .i64 fd7, .slice A135 m136 c137] 25)).cell? ⟨w138.heap.size, 6, none⟩ = some (.bool fd6) := by rw [← hV148]; exact X158.out.cell 6
  have cc0_7 : (w138.alloc (.cells #[.int .i64 fd0, .int .i64 fd1, .int .i64 fd2, .int .i64 fd3, .int .i64 fd4, .bool fd5, .bool fd6, .int .i64 fd7, .slice A135 m136 c137] 25)).cell? ⟨w138.heap.size, 7, none⟩ = some (.int .i64 fd7) := by rw [← hV148]; exact X158.out.cell 7
  have cc0_8 : (w138.alloc (.cells #[.int .i64 fd0, .int .i64 fd1, .int .i64 fd2, .int .i64 fd3, .int .i64 fd4, .bool fd5, .bool fd6, .int .i64 fd7, .slice A135 m136 c137] 25)).cell? ⟨w138.heap.size, 8, none⟩ = some (.slice A135 m136 c137) := by rw [← hV148]; exact X158.out.cell 8
  have cc1_0 : (w138.alloc (.cells #[.int .i64 fd0, .int .i64 fd1, .int .i64 fd2, .int .i64 fd3, .int .i64 fd4, .bool fd5, .bool fd6, .int .i64 fd7, .slice A135 m136 c137] 25)).cell? ⟨w12.heap.size, 0, none⟩ = some (.int .i64 fd0) := by rw [← hV148]; exact F154.out.cell 0
  have cc1_1 : (w138.alloc (.cells #[.int .i64 fd0, .int .i64 fd1, .int .i64 fd2, .int .i64 fd3, .int .i64 fd4, .bool fd5, .bool fd6, .int .i64 fd7, .slice A135 m136 c137] 25)).cell? ⟨w12.heap.size, 1, none⟩ = some (.int .i64 fd1) := by rw [← hV148]; exact F154.out.cell 1
  have cc1_2 : (w138.alloc (.cells #[.int .i64 fd0, .int .i64 fd1, .int .i64 fd2, .int .i64 fd3, .int .i64 fd4, .bool fd5, .bool fd6, .int .i64 fd7, .slice A135 m136 c137] 25)).cell? ⟨w12.heap.size, 2, none⟩ = some (.int .i64 fd2) := by rw [← hV148]; exact F154.out.cell 2
  have cc1_3 : (w138.alloc (.cells #[.int .i64 fd0, .int .i64 fd1, .int .i64 fd2, .int .i64 fd3, .int .i64 fd4, .bool fd5, .bool fd6, .int .i64 fd7, .slice A135 m136 c137] 25)).cell? ⟨w12.heap.size, 3, none⟩ = some (.int .i64 fd3) := by rw [← hV148]; exact F154.out.cell 3
  have cc1_4 : (w138.alloc (.cells #[.int .i64 fd0, .int .i64 fd1, .int .i64 fd2, .int .i64 fd3, .int .i64 fd4, .bool fd5, .bool fd6, .int .i64 fd7, .slice A135 m136 c137] 25)).cell? ⟨w12.heap.size, 4, none⟩ = some (.int .i64 fd4) := by rw [← hV148]; exact F154.out.cell 4
  have cc1_5 : (w138.alloc (.cells #[.int .i64 fd0, .int .i64 fd1, .int .i64 fd2, .int .i64 fd3, .int .i64 fd4, .bool fd5, .bool fd6, .int .i64 fd7, .slice A135 m136 c137] 25)).cell? ⟨w12.heap.size, 5, none⟩ = some (.bool fd5) := by rw [← hV148]; exact F154.out.cell 5
  have cc1_6 : (w138.alloc (.cells #[.int .i64 fd0, .int .i64 fd1, .int .i64 fd2, .int .i64 fd3, .int .i64 fd4, .bool fd5, .bool fd6, .int .i64 fd7, .slice A135 m136 c137] 25)).cell? ⟨w12.heap.size, 6, none⟩ = some (.bool fd6) := by rw [← hV148]; exact F154.out.cell 6
  have cc1_7 : (w138.alloc (.cells #[.int .i64 fd0, .int .i64 fd1, .int .i64 fd2, .int .i64 fd3, .int .i64 fd4, .bool fd5, .bool fd6, .int .i64 fd7, .slice A135 m136 c137] 25)).cell? ⟨w12.heap.size, 7, none⟩ = some (.int .i64 fd7) := by rw [← hV148]; exact F154.out.cell 7
  have cc1_8 : (w138.alloc (.cells #[.int .i64 fd0, .int .i64 fd1, .int .i64 fd2, .int .i64 fd3, .int .i64 fd4, .bool fd5, .bool fd6, .int .i64 fd7, .slice A135 m136 c137] 25)).cell? ⟨w12.heap.size, 8, none⟩ = some (.slice A9 m10 c11) := by rw [← hV148]; exact F154.out.cell 8
  go_wp2_with fail
  rw [← hV148]
  clear hV148 cc0_0 cc0_1 cc0_2 cc0_3 cc0_4 cc0_5 cc0_6 cc0_7 cc0_8 cc1_0 cc1_1 cc1_2 cc1_3 cc1_4 cc1_5 cc1_6 cc1_7 cc1_8
  (with_reducible refine (fbx.eqMac fd0 fd1 fd2 fd3 fd4 fd5 fd6 fd7 A135 m136 c137 A9 m10 c11 zz _ _ _ _ _ F157.out.rd F153.out.rd).mono ?_)
  rintro e w159 ⟨rfl, hb⟩
  have S161 := Lib.hid (hb.size)
  have B160 := Lib.hid (B150.out.trans (hb.mono B150.out.size))
  clear B150
  have F162 := Lib.hid (F152.out.below hb)
  clear F152
  have F163 := Lib.hid (F153.out.below hb)
  clear F153
  have F164 := Lib.hid (F154.out.below hb)
  clear F154
  have F165 := Lib.hid (F155.out.below hb)
  clear F155
  have F166 := Lib.hid (F156.out.below hb)
  clear F156
  have F167 := Lib.hid (F157.out.below hb)
  clear F157
  have F168 := Lib.hid (X158.out.below hb)
  clear X158
  clear hb
  clear F168
  clear F167
  have cc0_0 : w159.cell? ⟨w38.heap.size, 0, none⟩ = some (.int .i64 fd0) := F166.out.cell 0
  have cc0_1 : w159.cell? ⟨w38.heap.size, 1, none⟩ = some (.int .i64 fd1) := F166.out.cell 1
  have cc0_2 : w159.cell? ⟨w38.heap.size, 2, none⟩ = some (.int .i64 fd2) := F166.out.cell 2
  have cc0_3 : w159.cell? ⟨w38.heap.size, 3, none⟩ = some (.int .i64 fd3) := F166.out.cell 3
  have cc0_4 : w159.cell? ⟨w38.heap.size, 4, none⟩ = some (.int .i64 fd4) := F166.out.cell 4
  have cc0_5 : w159.cell? ⟨w38.heap.size, 5, none⟩ = some (.bool fd5) := F166.out.cell 5
  have cc0_6 : w159.cell? ⟨w38.heap.size, 6, none⟩ = some (.bool fd6) := F166.out.cell 6
  have cc0_7 : w159.cell? ⟨w38.heap.size, 7, none⟩ = some (.int .i64 fd7) := F166.out.cell 7
  have cc0_8 : w159.cell? ⟨w38.heap.size, 8, none⟩ = some (.slice A35 m36 c37) := F166.out.cell 8
  go_wp2_with fail
  clear cc0_0 cc0_1 cc0_2 cc0_3 cc0_4 cc0_5 cc0_6 cc0_7 cc0_8
  (with_reducible refine (fbx.heldMac fd0 fd1 fd2 fd3 fd4 fd5 fd6 fd7 A35 m36 c37 _ _ 1 _ F165.out.rd (by omega) (by have n0 := N89.out; have n1 := N107.out; omega) N107.out).mono ?_)
  rintro e w169 ⟨rfl, hb⟩
  have S171 := Lib.hid (hb.size)
  have B170 := Lib.hid (B160.out.trans (hb.mono B160.out.size))
  clear B160
  have F172 := Lib.hid (F162.out.below hb)
  clear F162
  have F173 := Lib.hid (F163.out.below hb)
  clear F163
  have F174 := Lib.hid (F164.out.below hb)
  clear F164
  have F175 := Lib.hid (F165.out.below hb)
  clear F165
  have F176 := Lib.hid (F166.out.below hb)
  clear F166
  clear hb
  go_wp2_with fail
  go_ret
  exact ⟨rfl, B170.out⟩
end Go.Proofs.Ytnnlkkohbjolaaa.xExactDecodeFrame
