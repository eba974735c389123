/- The law function of FnExactNewBlockSender returns true and leaves what was there. Condition: the slices among the arguments are slices that came in. -/
import Derived.Test.YthbmnhbnoipdfaaBsh
namespace Go.Proofs.Ythbmnhbnoipdfaa.xExactNewBlockSender
open Go.RowKit sl harn
set_option linter.unusedVariables false
set_option maxRecDepth 100000 in
set_option maxHeartbeats 4000000 in
theorem walk (n0 : Int) (wn0 : (Lit.int .i64 n0).wf = true) (w : World)  :
    Calls Try.prog 4 #[.int .i64 n0] w fun e w' => e = .returned (.bool true) ∧ Below w.heap.size w w' := by
  have W0 := Lib.hid wn0
  clear wn0
  obtain ⟨t2a, t2b, t2c, ht⟩ : ∃ x0 x1 x2, bs.new n0 = ⟨x0, x1, x2⟩ := ⟨_, _, _, rfl⟩
  have t2HH := Lib.hid ht
  clear ht
  have B0 := Lib.hid (Below.refl w.heap.size w)
  go_enter Try.func4, Try.ntmps4
  go_wp2_with fail
  (with_reducible refine (bs.specNew n0 _).mono ?_)
  rintro e w1 hpost
  obtain ⟨rfl, hb⟩ := bs.s_parts t2HH.out hpost
  have S3 := Lib.hid (hb.size)
  have B4 := Lib.hid (B0.out.trans (hb.mono B0.out.size))
  clear hb B0
  obtain ⟨V5, hV5⟩ : ∃ x, x = w1.alloc (.cells #[.int .i64 t2a, .int .i64 t2b, .int .i64 t2c] 25) := ⟨_, rfl⟩
  have hbV5 : Below w1.heap.size w1 V5 := by rw [hV5]; exact bs.below_box _ _
  have S6 := Lib.hid (show w1.heap.size + 1 ≤ V5.heap.size by rw [hV5]; simp)
  have B7 := Lib.hid (B4.out.trans (hbV5.mono B4.out.size))
  have X8 := Lib.hid (show bs.Box V5 w1.heap.size t2a t2b t2c by rw [hV5]; exact bs.Box.made _ _ _ _)
  clear hbV5 B4
  go_wp2_with fail
  rw [← hV5]
  clear hV5 
  (with_reducible refine (bs.implNew n0 _).mono ?_)
  rintro e w9 hpost
  obtain ⟨rfl, hb⟩ := bs.s_parts t2HH.out hpost
  have S10 := Lib.hid (hb.size)
  have B11 := Lib.hid (B7.out.trans (hb.mono B7.out.size))
  have X12 := Lib.hid (X8.out.below hb)
  clear X8
  clear hb B7
  obtain ⟨V13, hV13⟩ : ∃ x, x = w9.alloc (.cells #[.int .i64 t2a, .int .i64 t2b, .int .i64 t2c] 25) := ⟨_, rfl⟩
  have hbV13 : Below w9.heap.size w9 V13 := by rw [hV13]; exact bs.below_box _ _
  have S14 := Lib.hid (show w9.heap.size + 1 ≤ V13.heap.size by rw [hV13]; simp)
  have B15 := Lib.hid (B11.out.trans (hbV13.mono B11.out.size))
  have X16 := Lib.hid (X12.out.below hbV13)
  clear X12
  have X17 := Lib.hid (show bs.Box V13 w9.heap.size t2a t2b t2c by rw [hV13]; exact bs.Box.made _ _ _ _)
  clear hbV13 B11
  have cc0 : (w9.alloc (.cells #[.int .i64 t2a, .int .i64 t2b, .int .i64 t2c] 25)).cell? ⟨w1.heap.size, 0, none⟩ = some (.int .i64 t2a) := by rw [← hV13]; exact X16.out.c0
  have cc1 : (w9.alloc (.cells #[.int .i64 t2a, .int .i64 t2b, .int .i64 t2c] 25)).cell? ⟨w1.heap.size, 1, none⟩ = some (.int .i64 t2b) := by rw [← hV13]; exact X16.out.c1
  have cc2 : (w9.alloc (.cells #[.int .i64 t2a, .int .i64 t2b, .int .i64 t2c] 25)).cell? ⟨w1.heap.size, 2, none⟩ = some (.int .i64 t2c) := by rw [← hV13]; exact X16.out.c2
  go_wp2_with fail
  rw [← hV13]
  clear hV13 cc0 cc1 cc2
  (with_reducible refine (bs.eqS_yes t2a t2b t2c _).mono ?_)
  rintro e w18 ⟨rfl, hb⟩
  have S19 := Lib.hid (hb.size)
  have B20 := Lib.hid (B15.out.trans (hb.mono B15.out.size))
  have X21 := Lib.hid (X16.out.below hb)
  clear X16
  have X22 := Lib.hid (X17.out.below hb)
  clear X17
  clear hb B15
  go_wp2_with fail
  go_ret
  exact ⟨rfl, B20.out⟩
end Go.Proofs.Ythbmnhbnoipdfaa.xExactNewBlockSender
