/- The law function of FnExactEncodeBeacon returns true and leaves what was there. Condition: the slices among the arguments are slices that came in. -/
import Derived.Test.YtalfihfielgmpaaEnd24
namespace Go.Proofs.Ytalfihfielgmpaa.xExactEncodeBeacon
open Go.RowKit sl harn
set_option linter.unusedVariables false
set_option maxRecDepth 100000 in
set_option maxHeartbeats 4000000 in
theorem walk (n0_0 : Int) (wn0_0 : (Lit.int .i64 n0_0).wf = true) (n0_1 : Int) (wn0_1 : (Lit.int .i64 n0_1).wf = true) (n0_2 : Int) (wn0_2 : (Lit.int .i64 n0_2).wf = true) (n0_3 : Int) (wn0_3 : (Lit.int .i64 n0_3).wf = true) (n0_4 : Bool) (n0_5 : Int) (wn0_5 : (Lit.int .i64 n0_5).wf = true) (w : World)  :
    Calls Try.prog 5 #[.agg #[.int .i64 n0_0, .int .i64 n0_1, .int .i64 n0_2, .int .i64 n0_3, .bool n0_4, .int .i64 n0_5]] w fun e w' => e = .returned (.bool true) ∧ Below w.heap.size w w' := by
  have Wn0_0 := Lib.hid wn0_0
  clear wn0_0
  have Wn0_1 := Lib.hid wn0_1
  clear wn0_1
  have Wn0_2 := Lib.hid wn0_2
  clear wn0_2
  have Wn0_3 := Lib.hid wn0_3
  clear wn0_3
  have Wn0_5 := Lib.hid wn0_5
  clear wn0_5
  have B0 := Lib.hid (Below.refl w.heap.size w)
  go_enter Try.func5, Try.ntmps5
  go_wp2_with fail
  generalize hW0 : w.alloc (.cells #[.int .i64 n0_0, .int .i64 n0_1, .int .i64 n0_2, .int .i64 n0_3, .bool n0_4, .int .i64 n0_5] 36) = W0
  have S00 := Lib.hid (show w.heap.size + 1 ≤ W0.heap.size by rw [← hW0]; simp)
  have hb0 : Below w.heap.size w W0 := by rw [← hW0]; exact be.below_box _ _
  have B1_0 := Lib.hid hb0
  have X0 := Lib.hid (show be.LBox W0 (w.heap.size) n0_0 n0_1 n0_2 n0_3 n0_4 n0_5 by rw [← hW0]; exact be.LBox.made _ _ _ _ _ _ _)
  clear hW0
  clear hb0
  (with_reducible refine (be.toB n0_0 n0_1 n0_2 n0_3 n0_4 n0_5 _).mono ?_)
  rintro e w1 ⟨rfl, hb⟩
  have S2 := Lib.hid (hb.size)
  have B3 := Lib.hid (B1_0.out.trans (hb.mono B1_0.out.size))
  have X4 := Lib.hid (X0.out.below hb)
  clear X0
  clear hb B1_0
  go_wp2_with fail
  (with_reducible refine (be.specEb n0_0 n0_1 n0_2 n0_3 n0_4 n0_5 _).mono ?_)
  rintro e w5 ⟨A6, m7, c8, rfl, ho, hb⟩
  have F9 := Lib.hid ho
  clear ho
  have S10 := Lib.hid (hb.size)
  have B11 := Lib.hid (B3.out.trans (hb.mono B3.out.size))
  have X12 := Lib.hid (X4.out.below hb)
  clear X4
  clear hb B3
  have cc0 := X12.out.c0
  have cc1 := X12.out.c1
  have cc2 := X12.out.c2
  have cc3 := X12.out.c3
  have cc4 := X12.out.c4
  have cc5 := X12.out.c5
  go_wp2_with fail
  clear cc0 cc1 cc2 cc3 cc4 cc5
  (with_reducible refine (be.toB n0_0 n0_1 n0_2 n0_3 n0_4 n0_5 _).mono ?_)
  rintro e w13 ⟨rfl, hb⟩
  have S14 := Lib.hid (hb.size)
  have B15 := Lib.hid (B11.out.trans (hb.mono B11.out.size))
  have X16 := Lib.hid (X12.out.below hb)
  clear X12
  have F17 := Lib.hid (F9.out.below hb)
  clear F9
  clear hb B11
  go_wp2_with fail
  (with_reducible refine (be.implEb n0_0 n0_1 n0_2 n0_3 n0_4 n0_5 _).mono ?_)
  rintro e w18 ⟨A19, m20, c21, rfl, ho, hb⟩
  have F22 := Lib.hid ho
  clear ho
  have S23 := Lib.hid (hb.size)
  have B24 := Lib.hid (B15.out.trans (hb.mono B15.out.size))
  have X25 := Lib.hid (X16.out.below hb)
  clear X16
  have F26 := Lib.hid (F17.out.below hb)
  clear F17
  clear hb B15
  go_wp2_with fail
  (with_reducible refine (harn.eqByteS_yes (bcm.eb (⟨n0_0, n0_1, n0_2, n0_3, n0_4, n0_5⟩ : bcm.Bc)) _ _ _ _ A19 A6 m20 c21 m7 c8 _ F22.out.rd F26.out.rd).mono ?_)
  rintro e w27 ⟨rfl, hb⟩
  have S28 := Lib.hid (hb.size)
  have B29 := Lib.hid (B24.out.trans (hb.mono B24.out.size))
  have X30 := Lib.hid (X25.out.below hb)
  clear X25
  have F31 := Lib.hid (F26.out.below hb)
  clear F26
  have F32 := Lib.hid (F22.out.below hb)
  clear F22
  clear hb B24
  go_wp2_with fail
  (with_reducible refine (harn.markByteS (bcm.eb (⟨n0_0, n0_1, n0_2, n0_3, n0_4, n0_5⟩ : bcm.Bc)) _ _ A19 m20 c21 1 _ F32.out (by omega) (by  omega) (by have l1 := F32.out.len; have := bcm.eb_len (⟨n0_0, n0_1, n0_2, n0_3, n0_4, n0_5⟩ : bcm.Bc);  omega)).mono ?_)
  rintro e w33 ⟨rfl, ho, hb⟩
  have N35 := Lib.hid (show m20 ≤ 67108864 from (by have l1 := F32.out.len; have := bcm.eb_len (⟨n0_0, n0_1, n0_2, n0_3, n0_4, n0_5⟩ : bcm.Bc);  omega))
  have F34 := Lib.hid ho
  clear ho
  have S36 := Lib.hid (hb.size)
  have B37 := Lib.hid (B29.out.trans (hb.below (by have s0 := S00.out; have s1 := S2.out; have s2 := S10.out; have s3 := S14.out; have s4 := S23.out; have s5 := S28.out; omega) B29.out.size))
  have X38 := Lib.hid (X30.out.tch hb (by have s0 := S00.out; have s1 := S2.out; have s2 := S10.out; have s3 := S14.out; have s4 := S23.out; have s5 := S28.out; have s6 := S36.out; omega))
  clear X30
  have F39 := Lib.hid (F31.out.tch hb (by have s0 := S00.out; have s1 := S2.out; have s2 := S10.out; have s3 := S14.out; have s4 := S23.out; have s5 := S28.out; have s6 := S36.out; omega))
  clear F31
  clear hb B29
  clear F32
  go_wp2_with fail
  (with_reducible refine (harn.heldByteS _ _ A19 m20 c21 1 _ F34.out.rd (by omega) (by have n0 := N35.out; omega) N35.out).mono ?_)
  rintro e w40 ⟨rfl, rfl⟩
  have cc0 := X38.out.c0
  have cc1 := X38.out.c1
  have cc2 := X38.out.c2
  have cc3 := X38.out.c3
  have cc4 := X38.out.c4
  have cc5 := X38.out.c5
  go_wp2_with fail
  clear cc0 cc1 cc2 cc3 cc4 cc5
  (with_reducible refine (be.toB n0_0 n0_1 n0_2 n0_3 n0_4 n0_5 _).mono ?_)
  rintro e w41 ⟨rfl, hb⟩
  have S42 := Lib.hid (hb.size)
  have B43 := Lib.hid (B37.out.trans (hb.mono B37.out.size))
  have X44 := Lib.hid (X38.out.below hb)
  clear X38
  have F45 := Lib.hid (F39.out.below hb)
  clear F39
  have F46 := Lib.hid (F34.out.below hb)
  clear F34
  clear hb B37
  go_wp2_with fail
  (with_reducible refine (be.implEb n0_0 n0_1 n0_2 n0_3 n0_4 n0_5 _).mono ?_)
  rintro e w47 ⟨A48, m49, c50, rfl, ho, hb⟩
  have F51 := Lib.hid ho
  clear ho
  have S52 := Lib.hid (hb.size)
  have B53 := Lib.hid (B43.out.trans (hb.mono B43.out.size))
  have X54 := Lib.hid (X44.out.below hb)
  clear X44
  have F55 := Lib.hid (F45.out.below hb)
  clear F45
  have F56 := Lib.hid (F46.out.below hb)
  clear F46
  clear hb B43
  go_wp2_with fail
  (with_reducible refine (harn.eqByteS_yes (bcm.eb (⟨n0_0, n0_1, n0_2, n0_3, n0_4, n0_5⟩ : bcm.Bc)) _ _ _ _ A48 A6 m49 c50 m7 c8 _ F51.out.rd F55.out.rd).mono ?_)
  rintro e w57 ⟨rfl, hb⟩
  have S58 := Lib.hid (hb.size)
  have B59 := Lib.hid (B53.out.trans (hb.mono B53.out.size))
  have F60 := Lib.hid (F55.out.below hb)
  clear F55
  have F61 := Lib.hid (F56.out.below hb)
  clear F56
  have F62 := Lib.hid (F51.out.below hb)
  clear F51
  clear hb B53
  go_wp2_with fail
  (with_reducible refine (harn.heldByteS _ _ A19 m20 c21 1 _ F61.out.rd (by omega) (by have n0 := N35.out; omega) N35.out).mono ?_)
  rintro e w63 ⟨rfl, rfl⟩
  go_wp2_with fail
  go_ret
  exact ⟨rfl, B59.out⟩
end Go.Proofs.Ytalfihfielgmpaa.xExactEncodeBeacon
