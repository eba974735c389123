/- The law function of FnExactCanReceive returns true and leaves what was there. Condition: the slices among the arguments are slices that came in. -/
import Derived.Test.YtichhbkgebimeaaPlh
import Derived.Test.YtichhbkgebimeaaPl3
import Derived.Deep.RegionHeld3
namespace Go.Proofs.Ytichhbkgebimeaa.xExactCanReceive
open Go.RowKit sl harn plm
set_option linter.unusedVariables false
set_option maxRecDepth 100000 in
set_option maxHeartbeats 4000000 in
theorem walk (a0 : Option Addr) (len0 cap0 : Nat) (z0 : List Int) (r0 : Int) (s0 : Int) (p q : Int) (w : World) (row0 : kit.IsRow .i64 w a0 len0 cap0 z0) :
    Calls Try.prog 7 #[.agg #[.slice a0 len0 cap0, .int .i64 r0, .int .i64 s0], .int .i64 p, .int .i64 q] w fun e w' => e = .returned (.bool true) ∧ Below w.heap.size w w' := by
  obtain ⟨y0, hr0⟩ := Rd.of_row row0
  have R0 := Lib.hid hr0
  have hl0 : (len0 : Int) ≤ 9223372036854775807 := by have := hr0.cap_; omega
  clear row0 hr0
  go_enter Try.func7, Try.ntmps7
  go_wp2_with fail
  obtain ⟨W0, hW0⟩ : ∃ x, w.alloc (.cells #[.slice a0 len0 cap0, .int .i64 r0, .int .i64 s0] 39) = x := ⟨_, rfl⟩
  rw [hW0]
  have hb0 : Below w.heap.size w W0 := by rw [← hW0]; exact bx.below_box _ _
  have LB0 := Lib.hid (show bx.Bx 39 W0 w.heap.size #[.slice a0 len0 cap0, .int .i64 r0, .int .i64 s0] by rw [← hW0]; exact bx.Bx.made _ _ _)
  have S00 := Lib.hid (show w.heap.size + 1 ≤ W0.heap.size by rw [← hW0]; simp)
  clear hW0
  by_cases hbig0 : 1048576 < (len0 : Int)
  · (with_reducible refine (bx.sz_out a0 len0 cap0 r0 s0 1048576 (by omega) hl0 (by omega) _).mono ?_)
    rintro e w1 ⟨rfl, hb⟩
    go_wp2_with fail
    go_ret
    exact ⟨rfl, hb0.trans (hb.mono hb0.size)⟩
  (with_reducible refine (bx.sz_in a0 len0 cap0 r0 s0 1048576 (by omega) hl0 (by omega) _).mono ?_)
  rintro e w1 ⟨rfl, hb⟩
  have hq0 : ¬ 1048576 - (len0 : Int) < 0 := by omega
  have hb1 : Below w.heap.size w w1 := hb0.trans (hb.mono hb0.size)
  have LB0 := Lib.hid (LB0.out.below hb)
  have S01 := Lib.hid (hb.size)
  clear hb0
  have hb0 := hb1
  clear hb1 hb
  have LY0 : Hid (y0.length ≤ 1048576) := by have := R0.out.len; unfold Hid; omega
  have R0 := Lib.hid (R0.out.below hb0)
  have B0 := Lib.hid hb0
  clear hb0
  obtain ⟨vb, hvb⟩ : ∃ vb, win y0 r0 p q = vb := ⟨_, rfl⟩
  have VB := Lib.hid hvb
  clear hvb
  have cc0_0 : w1.cell? ⟨w.heap.size, 0, none⟩ = some (.slice a0 len0 cap0) := LB0.out.cell 0
  have cc0_1 : w1.cell? ⟨w.heap.size, 1, none⟩ = some (.int .i64 r0) := LB0.out.cell 1
  have cc0_2 : w1.cell? ⟨w.heap.size, 2, none⟩ = some (.int .i64 s0) := LB0.out.cell 2
  go_wp2_with fail
  clear cc0_0 cc0_1 cc0_2
  (with_reducible refine (bx.toPla a0 len0 cap0 r0 s0 y0 _ _ _ R0.out (by have l1 := R0.out.len; have q0 := LY0.out; omega)).mono ?_)
  rintro e w4 ⟨A1, m2, c3, rfl, ho, hb⟩
  have F5 := Lib.hid ho
  clear ho
  have S7 := Lib.hid (hb.size)
  have B6 := Lib.hid (B0.out.trans (hb.mono B0.out.size))
  clear B0
  have F8 := Lib.hid (LB0.out.below hb)
  clear LB0
  have F9 := Lib.hid (R0.out.below hb)
  clear R0
  clear hb
  go_wp2_with fail
  (with_reducible refine (bx.specCr A1 m2 c3 r0 s0 y0 p q _ _ _ F5.out.rd).mono ?_)
  rw [VB.out]
  rintro e w10 ⟨rfl, hb⟩
  have S12 := Lib.hid (hb.size)
  have B11 := Lib.hid (B6.out.trans (hb.mono B6.out.size))
  clear B6
  have F13 := Lib.hid (F8.out.below hb)
  clear F8
  have F14 := Lib.hid (F9.out.below hb)
  clear F9
  have F15 := Lib.hid (F5.out.below hb)
  clear F5
  clear hb
  clear F15
  have cc0_0 : w10.cell? ⟨w.heap.size, 0, none⟩ = some (.slice a0 len0 cap0) := F13.out.cell 0
  have cc0_1 : w10.cell? ⟨w.heap.size, 1, none⟩ = some (.int .i64 r0) := F13.out.cell 1
  have cc0_2 : w10.cell? ⟨w.heap.size, 2, none⟩ = some (.int .i64 s0) := F13.out.cell 2
  go_wp2_with fail
  clear cc0_0 cc0_1 cc0_2
  (with_reducible refine (bx.toPla a0 len0 cap0 r0 s0 y0 _ _ _ F14.out (by have l1 := F14.out.len; have q0 := LY0.out; omega)).mono ?_)
  rintro e w19 ⟨A16, m17, c18, rfl, ho, hb⟩
  have F20 := Lib.hid ho
  clear ho
  have S22 := Lib.hid (hb.size)
  have B21 := Lib.hid (B11.out.trans (hb.mono B11.out.size))
  clear B11
  have F23 := Lib.hid (F13.out.below hb)
  clear F13
  have F24 := Lib.hid (F14.out.below hb)
  clear F14
  clear hb
  obtain ⟨V25, hV25⟩ : ∃ x, x = w19.alloc (.cells #[.slice A16 m17 c18, .int .i64 r0, .int .i64 s0] 26) := ⟨_, rfl⟩
  have hbV25 : Below w19.heap.size w19 V25 := by rw [hV25]; exact bx.below_box _ _
  have S26 := Lib.hid (show w19.heap.size + 1 ≤ V25.heap.size by rw [hV25]; simp)
  have S28 := Lib.hid (hbV25.size)
  have B27 := Lib.hid (B21.out.trans (hbV25.mono B21.out.size))
  clear B21
  have F29 := Lib.hid (F23.out.below hbV25)
  clear F23
  have F30 := Lib.hid (F24.out.below hbV25)
  clear F24
  have F31 := Lib.hid (F20.out.below hbV25)
  clear F20
  have X32 := Lib.hid (show bx.Bx 26 V25 w19.heap.size #[.slice A16 m17 c18, .int .i64 r0, .int .i64 s0] by rw [hV25]; exact bx.Bx.made _ _ _)
  clear hbV25
  go_wp2_with fail
  rw [← hV25]
  clear hV25 
  (with_reducible refine (bx.implCr A16 m17 c18 r0 s0 y0 p q _ _ _ F31.out.rd).mono ?_)
  rw [VB.out]
  rintro e w33 ⟨rfl, hb⟩
  have S35 := Lib.hid (hb.size)
  have B34 := Lib.hid (B27.out.trans (hb.mono B27.out.size))
  clear B27
  have F36 := Lib.hid (F29.out.below hb)
  clear F29
  have F37 := Lib.hid (F30.out.below hb)
  clear F30
  have F38 := Lib.hid (F31.out.below hb)
  clear F31
  have F39 := Lib.hid (X32.out.below hb)
  clear X32
  clear hb
  go_wp2_with fail
  have hbd : Below w33.heap.size w33 w33.drew := own.below_drew (Below.refl _ _)
  have S41 := Lib.hid (hbd.size)
  have B40 := Lib.hid (B34.out.trans (hbd.mono B34.out.size))
  clear B34
  have F42 := Lib.hid (F36.out.below hbd)
  clear F36
  have F43 := Lib.hid (F37.out.below hbd)
  clear F37
  have F44 := Lib.hid (F38.out.below hbd)
  clear F38
  have F45 := Lib.hid (F39.out.below hbd)
  clear F39
  clear hbd
  have ca0_0 : w33.drew.cell? ⟨w19.heap.size, 0, none⟩ = some (.slice A16 m17 c18) := F45.out.cell 0
  have ca0_1 : w33.drew.cell? ⟨w19.heap.size, 1, none⟩ = some (.int .i64 r0) := F45.out.cell 1
  have ca0_2 : w33.drew.cell? ⟨w19.heap.size, 2, none⟩ = some (.int .i64 s0) := F45.out.cell 2
  have ca1_0 : w33.drew.cell? ⟨w.heap.size, 0, none⟩ = some (.slice a0 len0 cap0) := F42.out.cell 0
  have ca1_1 : w33.drew.cell? ⟨w.heap.size, 1, none⟩ = some (.int .i64 r0) := F42.out.cell 1
  have ca1_2 : w33.drew.cell? ⟨w.heap.size, 2, none⟩ = some (.int .i64 s0) := F42.out.cell 2
  go_region_held3 (fun w' => w'.cell? ⟨w19.heap.size, 0, none⟩ = some (.slice A16 m17 c18) ∧ w'.cell? ⟨w19.heap.size, 1, none⟩ = some (.int .i64 r0) ∧ w'.cell? ⟨w19.heap.size, 2, none⟩ = some (.int .i64 s0) ∧ w'.cell? ⟨w.heap.size, 0, none⟩ = some (.slice a0 len0 cap0) ∧ w'.cell? ⟨w.heap.size, 1, none⟩ = some (.int .i64 r0) ∧ w'.cell? ⟨w.heap.size, 2, none⟩ = some (.int .i64 s0)) (first | (with_reducible exact ⟨ca0_0, ca0_1, ca0_2, ca1_0, ca1_1, ca1_2⟩) | (with_reducible exact ⟨cb0_0, cb0_1, cb0_2, cb1_0, cb1_1, cb1_2⟩) | (with_reducible exact ⟨cd0_0, cd0_1, cd0_2, cd1_0, cd1_1, cd1_2⟩))
    (first
    | (go_at_call 29; refine (bx.toPla a0 len0 cap0 r0 s0 y0 _ _ _ F43.out (by have l1 := F43.out.len; have q0 := LY0.out; omega)).mono ?_; rintro e w49 ⟨A46, m47, c48, rfl, ho, hb⟩; have F51 := Lib.hid ho; clear ho; have S53 := Lib.hid (hb.size); have B52 := Lib.hid (B40.out.trans (hb.mono B40.out.size)); clear B40; have F54 := Lib.hid (F42.out.below hb); clear F42; have F55 := Lib.hid (F43.out.below hb); clear F43; have F56 := Lib.hid (F44.out.below hb); clear F44; have F57 := Lib.hid (F45.out.below hb); clear F45; clear hb; have cb0_0 : w49.cell? ⟨w19.heap.size, 0, none⟩ = some (.slice A16 m17 c18) := F57.out.cell 0; have cb0_1 : w49.cell? ⟨w19.heap.size, 1, none⟩ = some (.int .i64 r0) := F57.out.cell 1; have cb0_2 : w49.cell? ⟨w19.heap.size, 2, none⟩ = some (.int .i64 s0) := F57.out.cell 2; have cb1_0 : w49.cell? ⟨w.heap.size, 0, none⟩ = some (.slice a0 len0 cap0) := F54.out.cell 0; have cb1_1 : w49.cell? ⟨w.heap.size, 1, none⟩ = some (.int .i64 r0) := F54.out.cell 1; have cb1_2 : w49.cell? ⟨w.heap.size, 2, none⟩ = some (.int .i64 s0) := F54.out.cell 2)
    | (go_at_call 30; refine (bx.eqPla A16 m17 c18 r0 s0 A46 m47 c48 y0 _ _ _ _ _ F56.out.rd F51.out.rd).mono ?_; rintro e w50 ⟨rfl, hb⟩; have S59 := Lib.hid (hb.size); have B58 := Lib.hid (B52.out.trans (hb.mono B52.out.size)); clear B52; have F60 := Lib.hid (F54.out.below hb); clear F54; have F61 := Lib.hid (F55.out.below hb); clear F55; have F62 := Lib.hid (F56.out.below hb); clear F56; have F63 := Lib.hid (F57.out.below hb); clear F57; clear hb; have cd0_0 : w50.cell? ⟨w19.heap.size, 0, none⟩ = some (.slice A16 m17 c18) := F63.out.cell 0; have cd0_1 : w50.cell? ⟨w19.heap.size, 1, none⟩ = some (.int .i64 r0) := F63.out.cell 1; have cd0_2 : w50.cell? ⟨w19.heap.size, 2, none⟩ = some (.int .i64 s0) := F63.out.cell 2; have cd1_0 : w50.cell? ⟨w.heap.size, 0, none⟩ = some (.slice a0 len0 cap0) := F60.out.cell 0; have cd1_1 : w50.cell? ⟨w.heap.size, 1, none⟩ = some (.int .i64 r0) := F60.out.cell 1; have cd1_2 : w50.cell? ⟨w.heap.size, 2, none⟩ = some (.int .i64 s0) := F60.out.cell 2))
  clear ca0_0 ca0_1 ca0_2 ca1_0 ca1_1 ca1_2 cb0_0 cb0_1 cb0_2 cb1_0 cb1_1 cb1_2 cd0_0 cd0_1 cd0_2 cd1_0 cd1_1 cd1_2
  go_wp2_with fail
  go_ret
  exact ⟨rfl, B58.out⟩
end Go.Proofs.Ytichhbkgebimeaa.xExactCanReceive
