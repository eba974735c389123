/- The law function of FnExactSetTim returns true and leaves what was there. Condition: the slices among the arguments are slices that came in. -/
import Derived.Test.YtalfihfielgmpaaEnd24
namespace Go.Proofs.Ytalfihfielgmpaa.xExactSetTim
open Go.RowKit sl harn
set_option linter.unusedVariables false
set_option maxRecDepth 100000 in
set_option maxHeartbeats 4000000 in
theorem walk (n0_0 : Int) (wn0_0 : (Lit.int .i64 n0_0).wf = true) (n0_1 : Int) (wn0_1 : (Lit.int .i64 n0_1).wf = true) (n0_2 : Int) (wn0_2 : (Lit.int .i64 n0_2).wf = true) (n0_3 : Int) (wn0_3 : (Lit.int .i64 n0_3).wf = true) (n0_4 : Bool) (n0_5 : Int) (wn0_5 : (Lit.int .i64 n0_5).wf = true) (n1 : Int) (wn1 : (Lit.int .i64 n1).wf = true) (b2 : Bool) (w : World)  :
    Calls Try.prog 8 #[.agg #[.int .i64 n0_0, .int .i64 n0_1, .int .i64 n0_2, .int .i64 n0_3, .bool n0_4, .int .i64 n0_5], .int .i64 n1, .bool b2] w fun e w' => e = .returned (.bool true) ∧ Below w.heap.size w w' := by
  have Wn0_0 := Lib.hid wn0_0
  clear wn0_0
  have Wn0_1 := Lib.hid wn0_1
  clear wn0_1
  have Wn0_2 := Lib.hid wn0_2
  clear wn0_2
  have Wn0_3 := Lib.hid wn0_3
  clear wn0_3
  have Wn0_5 := Lib.hid wn0_5
  clear wn0_5
  have W1 := Lib.hid wn1
  clear wn1
  obtain ⟨t6a, t6b, t6c, t6d, t6e, t6f, ht⟩ : ∃ x0 x1 x2 x3 x4 x5, bcm.stm (⟨n0_0, n0_1, n0_2, n0_3, n0_4, n0_5⟩ : bcm.Bc) n1 b2 = ⟨x0, x1, x2, x3, x4, x5⟩ := ⟨_, _, _, _, _, _, rfl⟩
  have t6HH := Lib.hid ht
  clear ht
  have B0 := Lib.hid (Below.refl w.heap.size w)
  go_enter Try.func8, Try.ntmps8
  go_wp2_with fail
  generalize hW0 : w.alloc (.cells #[.int .i64 n0_0, .int .i64 n0_1, .int .i64 n0_2, .int .i64 n0_3, .bool n0_4, .int .i64 n0_5] 36) = W0
  have S00 := Lib.hid (show w.heap.size + 1 ≤ W0.heap.size by rw [← hW0]; simp)
  have hb0 : Below w.heap.size w W0 := by rw [← hW0]; exact be.below_box _ _
  have B1_0 := Lib.hid hb0
  have X0 := Lib.hid (show be.LBox W0 (w.heap.size) n0_0 n0_1 n0_2 n0_3 n0_4 n0_5 by rw [← hW0]; exact be.LBox.made _ _ _ _ _ _ _)
  clear hW0
  clear hb0
  (with_reducible refine (be.toB n0_0 n0_1 n0_2 n0_3 n0_4 n0_5 _).mono ?_)
  rintro e w1 ⟨rfl, hb⟩
  have S2 := Lib.hid (hb.size)
  have B3 := Lib.hid (B1_0.out.trans (hb.mono B1_0.out.size))
  have X4 := Lib.hid (X0.out.below hb)
  clear X0
  clear hb B1_0
  go_wp2_with fail
  (with_reducible refine (be.specSm n0_0 n0_1 n0_2 n0_3 n0_4 n0_5 n1 b2 _).mono ?_)
  rintro e w5 hpost
  obtain ⟨rfl, hb⟩ := be.c_parts t6HH.out hpost
  have S7 := Lib.hid (hb.size)
  have B8 := Lib.hid (B3.out.trans (hb.mono B3.out.size))
  have X9 := Lib.hid (X4.out.below hb)
  clear X4
  clear hb B3
  obtain ⟨V10, hV10⟩ : ∃ x, x = w5.alloc (.cells #[.int .i64 t6a, .int .i64 t6b, .int .i64 t6c, .int .i64 t6d, .bool t6e, .int .i64 t6f] 25) := ⟨_, rfl⟩
  have hbV10 : Below w5.heap.size w5 V10 := by rw [hV10]; exact be.below_box _ _
  have S11 := Lib.hid (show w5.heap.size + 1 ≤ V10.heap.size by rw [hV10]; simp)
  have B12 := Lib.hid (B8.out.trans (hbV10.mono B8.out.size))
  have X13 := Lib.hid (X9.out.below hbV10)
  clear X9
  have X14 := Lib.hid (show be.Box V10 w5.heap.size t6a t6b t6c t6d t6e t6f by rw [hV10]; exact be.Box.made _ _ _ _ _ _ _)
  clear hbV10 B8
  have cc0 : (w5.alloc (.cells #[.int .i64 t6a, .int .i64 t6b, .int .i64 t6c, .int .i64 t6d, .bool t6e, .int .i64 t6f] 25)).cell? ⟨w.heap.size, 0, none⟩ = some (.int .i64 n0_0) := by rw [← hV10]; exact X13.out.c0
  have cc1 : (w5.alloc (.cells #[.int .i64 t6a, .int .i64 t6b, .int .i64 t6c, .int .i64 t6d, .bool t6e, .int .i64 t6f] 25)).cell? ⟨w.heap.size, 1, none⟩ = some (.int .i64 n0_1) := by rw [← hV10]; exact X13.out.c1
  have cc2 : (w5.alloc (.cells #[.int .i64 t6a, .int .i64 t6b, .int .i64 t6c, .int .i64 t6d, .bool t6e, .int .i64 t6f] 25)).cell? ⟨w.heap.size, 2, none⟩ = some (.int .i64 n0_2) := by rw [← hV10]; exact X13.out.c2
  have cc3 : (w5.alloc (.cells #[.int .i64 t6a, .int .i64 t6b, .int .i64 t6c, .int .i64 t6d, .bool t6e, .int .i64 t6f] 25)).cell? ⟨w.heap.size, 3, none⟩ = some (.int .i64 n0_3) := by rw [← hV10]; exact X13.out.c3
  have cc4 : (w5.alloc (.cells #[.int .i64 t6a, .int .i64 t6b, .int .i64 t6c, .int .i64 t6d, .bool t6e, .int .i64 t6f] 25)).cell? ⟨w.heap.size, 4, none⟩ = some (.bool n0_4) := by rw [← hV10]; exact X13.out.c4
  have cc5 : (w5.alloc (.cells #[.int .i64 t6a, .int .i64 t6b, .int .i64 t6c, .int .i64 t6d, .bool t6e, .int .i64 t6f] 25)).cell? ⟨w.heap.size, 5, none⟩ = some (.int .i64 n0_5) := by rw [← hV10]; exact X13.out.c5
  go_wp2_with fail
  rw [← hV10]
  clear hV10 cc0 cc1 cc2 cc3 cc4 cc5
  (with_reducible refine (be.toB n0_0 n0_1 n0_2 n0_3 n0_4 n0_5 _).mono ?_)
  rintro e w15 ⟨rfl, hb⟩
  have S16 := Lib.hid (hb.size)
  have B17 := Lib.hid (B12.out.trans (hb.mono B12.out.size))
  have X18 := Lib.hid (X13.out.below hb)
  clear X13
  have X19 := Lib.hid (X14.out.below hb)
  clear X14
  clear hb B12
  go_wp2_with fail
  (with_reducible refine (be.implSm n0_0 n0_1 n0_2 n0_3 n0_4 n0_5 n1 b2 _).mono ?_)
  rintro e w20 hpost
  obtain ⟨rfl, hb⟩ := be.c_parts t6HH.out hpost
  have S21 := Lib.hid (hb.size)
  have B22 := Lib.hid (B17.out.trans (hb.mono B17.out.size))
  have X23 := Lib.hid (X18.out.below hb)
  clear X18
  have X24 := Lib.hid (X19.out.below hb)
  clear X19
  clear hb B17
  obtain ⟨V25, hV25⟩ : ∃ x, x = w20.alloc (.cells #[.int .i64 t6a, .int .i64 t6b, .int .i64 t6c, .int .i64 t6d, .bool t6e, .int .i64 t6f] 25) := ⟨_, rfl⟩
  have hbV25 : Below w20.heap.size w20 V25 := by rw [hV25]; exact be.below_box _ _
  have S26 := Lib.hid (show w20.heap.size + 1 ≤ V25.heap.size by rw [hV25]; simp)
  have B27 := Lib.hid (B22.out.trans (hbV25.mono B22.out.size))
  have X28 := Lib.hid (X23.out.below hbV25)
  clear X23
  have X29 := Lib.hid (X24.out.below hbV25)
  clear X24
  have X30 := Lib.hid (show be.Box V25 w20.heap.size t6a t6b t6c t6d t6e t6f by rw [hV25]; exact be.Box.made _ _ _ _ _ _ _)
  clear hbV25 B22
  have cc0 : (w20.alloc (.cells #[.int .i64 t6a, .int .i64 t6b, .int .i64 t6c, .int .i64 t6d, .bool t6e, .int .i64 t6f] 25)).cell? ⟨w.heap.size, 0, none⟩ = some (.int .i64 n0_0) := by rw [← hV25]; exact X28.out.c0
  have cc1 : (w20.alloc (.cells #[.int .i64 t6a, .int .i64 t6b, .int .i64 t6c, .int .i64 t6d, .bool t6e, .int .i64 t6f] 25)).cell? ⟨w.heap.size, 1, none⟩ = some (.int .i64 n0_1) := by rw [← hV25]; exact X28.out.c1
  have cc2 : (w20.alloc (.cells #[.int .i64 t6a, .int .i64 t6b, .int .i64 t6c, .int .i64 t6d, .bool t6e, .int .i64 t6f] 25)).cell? ⟨w.heap.size, 2, none⟩ = some (.int .i64 n0_2) := by rw [← hV25]; exact X28.out.c2
  have cc3 : (w20.alloc (.cells #[.int .i64 t6a, .int .i64 t6b, .int .i64 t6c, .int .i64 t6d, .bool t6e, .int .i64 t6f] 25)).cell? ⟨w.heap.size, 3, none⟩ = some (.int .i64 n0_3) := by rw [← hV25]; exact X28.out.c3
  have cc4 : (w20.alloc (.cells #[.int .i64 t6a, .int .i64 t6b, .int .i64 t6c, .int .i64 t6d, .bool t6e, .int .i64 t6f] 25)).cell? ⟨w.heap.size, 4, none⟩ = some (.bool n0_4) := by rw [← hV25]; exact X28.out.c4
  have cc5 : (w20.alloc (.cells #[.int .i64 t6a, .int .i64 t6b, .int .i64 t6c, .int .i64 t6d, .bool t6e, .int .i64 t6f] 25)).cell? ⟨w.heap.size, 5, none⟩ = some (.int .i64 n0_5) := by rw [← hV25]; exact X28.out.c5
  have cc6 : (w20.alloc (.cells #[.int .i64 t6a, .int .i64 t6b, .int .i64 t6c, .int .i64 t6d, .bool t6e, .int .i64 t6f] 25)).cell? ⟨w5.heap.size, 0, none⟩ = some (.int .i64 t6a) := by rw [← hV25]; exact X29.out.c0
  have cc7 : (w20.alloc (.cells #[.int .i64 t6a, .int .i64 t6b, .int .i64 t6c, .int .i64 t6d, .bool t6e, .int .i64 t6f] 25)).cell? ⟨w5.heap.size, 1, none⟩ = some (.int .i64 t6b) := by rw [← hV25]; exact X29.out.c1
  have cc8 : (w20.alloc (.cells #[.int .i64 t6a, .int .i64 t6b, .int .i64 t6c, .int .i64 t6d, .bool t6e, .int .i64 t6f] 25)).cell? ⟨w5.heap.size, 2, none⟩ = some (.int .i64 t6c) := by rw [← hV25]; exact X29.out.c2
  have cc9 : (w20.alloc (.cells #[.int .i64 t6a, .int .i64 t6b, .int .i64 t6c, .int .i64 t6d, .bool t6e, .int .i64 t6f] 25)).cell? ⟨w5.heap.size, 3, none⟩ = some (.int .i64 t6d) := by rw [← hV25]; exact X29.out.c3
  have cc10 : (w20.alloc (.cells #[.int .i64 t6a, .int .i64 t6b, .int .i64 t6c, .int .i64 t6d, .bool t6e, .int .i64 t6f] 25)).cell? ⟨w5.heap.size, 4, none⟩ = some (.bool t6e) := by rw [← hV25]; exact X29.out.c4
  have cc11 : (w20.alloc (.cells #[.int .i64 t6a, .int .i64 t6b, .int .i64 t6c, .int .i64 t6d, .bool t6e, .int .i64 t6f] 25)).cell? ⟨w5.heap.size, 5, none⟩ = some (.int .i64 t6f) := by rw [← hV25]; exact X29.out.c5
  go_wp2_with fail
  rw [← hV25]
  clear hV25 cc0 cc1 cc2 cc3 cc4 cc5 cc6 cc7 cc8 cc9 cc10 cc11
  (with_reducible refine (be.eqB_yes t6a t6b t6c t6d t6e t6f _).mono ?_)
  rintro e w31 ⟨rfl, hb⟩
  have S32 := Lib.hid (hb.size)
  have B33 := Lib.hid (B27.out.trans (hb.mono B27.out.size))
  have X34 := Lib.hid (X29.out.below hb)
  clear X29
  have X35 := Lib.hid (X30.out.below hb)
  clear X30
  clear hb B27
  go_wp2_with fail
  go_ret
  exact ⟨rfl, B33.out⟩
end Go.Proofs.Ytalfihfielgmpaa.xExactSetTim
