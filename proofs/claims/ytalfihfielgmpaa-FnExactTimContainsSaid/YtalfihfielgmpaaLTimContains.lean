/- The law function of FnExactTimContains returns true and leaves what was there. Condition: the slices among the arguments are slices that came in. -/
import Derived.Test.YtalfihfielgmpaaEnd24
namespace Go.Proofs.Ytalfihfielgmpaa.xExactTimContains
open Go.RowKit sl harn
set_option linter.unusedVariables false
set_option maxRecDepth 100000 in
set_option maxHeartbeats 4000000 in
theorem walk (n0_0 : Int) (wn0_0 : (Lit.int .i64 n0_0).wf = true) (n0_1 : Int) (wn0_1 : (Lit.int .i64 n0_1).wf = true) (n0_2 : Int) (wn0_2 : (Lit.int .i64 n0_2).wf = true) (n0_3 : Int) (wn0_3 : (Lit.int .i64 n0_3).wf = true) (n0_4 : Bool) (n0_5 : Int) (wn0_5 : (Lit.int .i64 n0_5).wf = true) (n1 : Int) (wn1 : (Lit.int .i64 n1).wf = true) (w : World)  :
    Calls Try.prog 7 #[.agg #[.int .i64 n0_0, .int .i64 n0_1, .int .i64 n0_2, .int .i64 n0_3, .bool n0_4, .int .i64 n0_5], .int .i64 n1] w fun e w' => e = .returned (.bool true) ∧ Below w.heap.size w w' := by
  have Wn0_0 := Lib.hid wn0_0
  clear wn0_0
  have Wn0_1 := Lib.hid wn0_1
  clear wn0_1
  have Wn0_2 := Lib.hid wn0_2
  clear wn0_2
  have Wn0_3 := Lib.hid wn0_3
  clear wn0_3
  have Wn0_5 := Lib.hid wn0_5
  clear wn0_5
  have W1 := Lib.hid wn1
  clear wn1
  obtain ⟨t6a, ht⟩ : ∃ x0, bcm.tc (⟨n0_0, n0_1, n0_2, n0_3, n0_4, n0_5⟩ : bcm.Bc) n1 = x0 := ⟨_, rfl⟩
  have t6h := Lib.hid ht
  clear ht
  have B0 := Lib.hid (Below.refl w.heap.size w)
  go_enter Try.func7, Try.ntmps7
  go_wp2_with fail
  generalize hW0 : w.alloc (.cells #[.int .i64 n0_0, .int .i64 n0_1, .int .i64 n0_2, .int .i64 n0_3, .bool n0_4, .int .i64 n0_5] 36) = W0
  have S00 := Lib.hid (show w.heap.size + 1 ≤ W0.heap.size by rw [← hW0]; simp)
  have hb0 : Below w.heap.size w W0 := by rw [← hW0]; exact be.below_box _ _
  have B1_0 := Lib.hid hb0
  have X0 := Lib.hid (show be.LBox W0 (w.heap.size) n0_0 n0_1 n0_2 n0_3 n0_4 n0_5 by rw [← hW0]; exact be.LBox.made _ _ _ _ _ _ _)
  clear hW0
  clear hb0
  (with_reducible refine (be.toB n0_0 n0_1 n0_2 n0_3 n0_4 n0_5 _).mono ?_)
  rintro e w1 ⟨rfl, hb⟩
  have S2 := Lib.hid (hb.size)
  have B3 := Lib.hid (B1_0.out.trans (hb.mono B1_0.out.size))
  have X4 := Lib.hid (X0.out.below hb)
  clear X0
  clear hb B1_0
  go_wp2_with fail
  (with_reducible refine (be.specTc n0_0 n0_1 n0_2 n0_3 n0_4 n0_5 n1 _).mono ?_)
  rintro e w5 hpost
  obtain ⟨rfl, hb⟩ := bx.b_parts t6h.out hpost
  have S7 := Lib.hid (hb.size)
  have B8 := Lib.hid (B3.out.trans (hb.mono B3.out.size))
  have X9 := Lib.hid (X4.out.below hb)
  clear X4
  clear hb B3
  have cc0 := X9.out.c0
  have cc1 := X9.out.c1
  have cc2 := X9.out.c2
  have cc3 := X9.out.c3
  have cc4 := X9.out.c4
  have cc5 := X9.out.c5
  go_wp2_with fail
  clear cc0 cc1 cc2 cc3 cc4 cc5
  (with_reducible refine (be.toB n0_0 n0_1 n0_2 n0_3 n0_4 n0_5 _).mono ?_)
  rintro e w10 ⟨rfl, hb⟩
  have S11 := Lib.hid (hb.size)
  have B12 := Lib.hid (B8.out.trans (hb.mono B8.out.size))
  have X13 := Lib.hid (X9.out.below hb)
  clear X9
  clear hb B8
  go_wp2_with fail
  (with_reducible refine (be.implTc n0_0 n0_1 n0_2 n0_3 n0_4 n0_5 n1 _).mono ?_)
  rintro e w14 hpost
  obtain ⟨rfl, hb⟩ := bx.b_parts t6h.out hpost
  have S15 := Lib.hid (hb.size)
  have B16 := Lib.hid (B12.out.trans (hb.mono B12.out.size))
  have X17 := Lib.hid (X13.out.below hb)
  clear X13
  clear hb B12
  go_wp2_with fail
  go_ret
  exact ⟨rfl, B16.out⟩
end Go.Proofs.Ytalfihfielgmpaa.xExactTimContains
