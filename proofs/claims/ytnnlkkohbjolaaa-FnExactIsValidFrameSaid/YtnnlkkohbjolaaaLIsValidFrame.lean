/- The law function of FnExactIsValidFrame returns true and leaves what was there. Condition: the slices among the arguments are slices that came in. -/
import Derived.Test.YtnnlkkohbjolaaaFhr
import Derived.Test.YtnnlkkohbjolaaaFb2
import Derived.Test.YtnnlkkohbjolaaaFb3
import Derived.Deep.RegionHeld3
namespace Go.Proofs.Ytnnlkkohbjolaaa.xExactIsValidFrame
open Go.RowKit sl harn frm
set_option linter.unusedVariables false
set_option maxRecDepth 100000 in
set_option maxHeartbeats 4000000 in
theorem walk (k0 : Int) (wk0 : (Lit.int .i64 k0).wf = true) (f0 : Int) (wf0 : (Lit.int .i64 f0).wf = true) (t0 : Int) (wt0 : (Lit.int .i64 t0).wf = true) (s0 : Int) (ws0 : (Lit.int .i64 s0).wf = true) (g0 : Int) (wg0 : (Lit.int .i64 g0).wf = true) (m0 : Bool) (r0 : Bool) (d0 : Int) (wd0 : (Lit.int .i64 d0).wf = true) (a0 : Option Addr) (len0 cap0 : Nat) (z0 : List Int) (w : World) (row0 : kit.IsRow .u8 w a0 len0 cap0 z0) :
    Calls Try.prog 4 #[.agg #[.int .i64 k0, .int .i64 f0, .int .i64 t0, .int .i64 s0, .int .i64 g0, .bool m0, .bool r0, .int .i64 d0, .slice a0 len0 cap0]] w fun e w' => e = .returned (.bool true) ∧ Below w.heap.size w w' := by
  obtain ⟨y0, hr0⟩ := Rd.of_row row0
  have R0 := Lib.hid hr0
  have hl0 : (len0 : Int) ≤ 9223372036854775807 := by have := hr0.cap_; omega
  clear row0 hr0
  have Wk0 := Lib.hid wk0
  have Wf0 := Lib.hid wf0
  have Wt0 := Lib.hid wt0
  have Ws0 := Lib.hid ws0
  have Wg0 := Lib.hid wg0
  have Wd0 := Lib.hid wd0
  clear wk0 wf0 wt0 ws0 wg0 wd0
  go_enter Try.func4, Try.ntmps4
  go_wp2_with fail
  obtain ⟨W0, hW0⟩ : ∃ x, w.alloc (.cells #[.int .i64 k0, .int .i64 f0, .int .i64 t0, .int .i64 s0, .int .i64 g0, .bool m0, .bool r0, .int .i64 d0, .slice a0 len0 cap0] 35) = x := ⟨_, rfl⟩
  rw [hW0]
  have hb0 : Below w.heap.size w W0 := by rw [← hW0]; exact fbx.below_box _ _
  have LB0 := Lib.hid (show fbx.Bx 35 W0 (w.heap.size) #[.int .i64 k0, .int .i64 f0, .int .i64 t0, .int .i64 s0, .int .i64 g0, .bool m0, .bool r0, .int .i64 d0, .slice a0 len0 cap0] by rw [← hW0]; exact fbx.Bx.made _ _ _)
  have S00 := Lib.hid (show w.heap.size + 1 ≤ W0.heap.size by rw [← hW0]; simp)
  clear hW0
  by_cases hbig0 : 1048576 < (len0 : Int)
  · (with_reducible refine (fbx.sz_out k0 f0 t0 s0 g0 m0 r0 d0 a0 len0 cap0 1048576 (by omega) hl0 (by omega) _).mono ?_)
    rintro e w1 ⟨rfl, hb⟩
    go_wp2_with fail
    go_ret
    exact ⟨rfl, hb0.trans (hb.mono hb0.size)⟩
  (with_reducible refine (fbx.sz_in k0 f0 t0 s0 g0 m0 r0 d0 a0 len0 cap0 1048576 (by omega) hl0 (by omega) _).mono ?_)
  rintro e w1 ⟨rfl, hb⟩
  have hq0 : ¬ 1048576 - (len0 : Int) < 0 := by omega
  have hb1 : Below w.heap.size w w1 := hb0.trans (hb.mono hb0.size)
  have LB0 := Lib.hid (LB0.out.below hb)
  have S01 := Lib.hid (hb.size)
  clear hb0
  have hb0 := hb1
  clear hb1 hb
  have LY0 : Hid (y0.length ≤ 1048576) := by have := R0.out.len; unfold Hid; omega
  have R0 := Lib.hid (R0.out.below hb0)
  have B0 := Lib.hid hb0
  clear hb0
  obtain ⟨vb, hvb⟩ : ∃ vb, decide (Vf ⟨k0, f0, t0, s0, g0, m0, r0, d0, y0⟩) = vb := ⟨_, rfl⟩
  have VB := Lib.hid hvb
  clear hvb
  have cc0_0 : w1.cell? ⟨w.heap.size, 0, none⟩ = some (.int .i64 k0) := LB0.out.cell 0
  have cc0_1 : w1.cell? ⟨w.heap.size, 1, none⟩ = some (.int .i64 f0) := LB0.out.cell 1
  have cc0_2 : w1.cell? ⟨w.heap.size, 2, none⟩ = some (.int .i64 t0) := LB0.out.cell 2
  have cc0_3 : w1.cell? ⟨w.heap.size, 3, none⟩ = some (.int .i64 s0) := LB0.out.cell 3
  have cc0_4 : w1.cell? ⟨w.heap.size, 4, none⟩ = some (.int .i64 g0) := LB0.out.cell 4
  have cc0_5 : w1.cell? ⟨w.heap.size, 5, none⟩ = some (.bool m0) := LB0.out.cell 5
  have cc0_6 : w1.cell? ⟨w.heap.size, 6, none⟩ = some (.bool r0) := LB0.out.cell 6
  have cc0_7 : w1.cell? ⟨w.heap.size, 7, none⟩ = some (.int .i64 d0) := LB0.out.cell 7
  have cc0_8 : w1.cell? ⟨w.heap.size, 8, none⟩ = some (.slice a0 len0 cap0) := LB0.out.cell 8
  go_wp2_with fail
  clear cc0_0 cc0_1 cc0_2 cc0_3 cc0_4 cc0_5 cc0_6 cc0_7 cc0_8
  (with_reducible refine (fbx.toMac k0 f0 t0 s0 g0 m0 r0 d0 a0 len0 cap0 y0 _ _ _ R0.out (by have l1 := R0.out.len; have q0 := LY0.out; omega)).mono ?_)
  rintro e w4 ⟨A1, m2, c3, rfl, ho, hb⟩
  have F5 := Lib.hid ho
  clear ho
  have S7 := Lib.hid (hb.size)
  have B6 := Lib.hid (B0.out.trans (hb.mono B0.out.size))
  clear B0
  have F8 := Lib.hid (LB0.out.below hb)
  clear LB0
  have F9 := Lib.hid (R0.out.below hb)
  clear R0
  clear hb
  go_wp2_with fail
  (with_reducible refine (fbx.specVf k0 f0 t0 s0 g0 m0 r0 d0 A1 m2 c3 y0 (by have h1 := F5.out.len; exact h1) _).mono ?_)
  rw [VB.out]
  rintro e w10 ⟨rfl, hb⟩
  have S12 := Lib.hid (hb.size)
  have B11 := Lib.hid (B6.out.trans (hb.mono B6.out.size))
  clear B6
  have F13 := Lib.hid (F8.out.below hb)
  clear F8
  have F14 := Lib.hid (F9.out.below hb)
  clear F9
  have F15 := Lib.hid (F5.out.below hb)
  clear F5
  clear hb
  clear F15
  have cc0_0 : w10.cell? ⟨w.heap.size, 0, none⟩ = some (.int .i64 k0) := F13.out.cell 0
  have cc0_1 : w10.cell? ⟨w.heap.size, 1, none⟩ = some (.int .i64 f0) := F13.out.cell 1
  have cc0_2 : w10.cell? ⟨w.heap.size, 2, none⟩ = some (.int .i64 t0) := F13.out.cell 2
  have cc0_3 : w10.cell? ⟨w.heap.size, 3, none⟩ = some (.int .i64 s0) := F13.out.cell 3
  have cc0_4 : w10.cell? ⟨w.heap.size, 4, none⟩ = some (.int .i64 g0) := F13.out.cell 4
  have cc0_5 : w10.cell? ⟨w.heap.size, 5, none⟩ = some (.bool m0) := F13.out.cell 5
  have cc0_6 : w10.cell? ⟨w.heap.size, 6, none⟩ = some (.bool r0) := F13.out.cell 6
  have cc0_7 : w10.cell? ⟨w.heap.size, 7, none⟩ = some (.int .i64 d0) := F13.out.cell 7
  have cc0_8 : w10.cell? ⟨w.heap.size, 8, none⟩ = some (.slice a0 len0 cap0) := F13.out.cell 8
  go_wp2_with fail
  clear cc0_0 cc0_1 cc0_2 cc0_3 cc0_4 cc0_5 cc0_6 cc0_7 cc0_8
  (with_reducible refine (fbx.toMac k0 f0 t0 s0 g0 m0 r0 d0 a0 len0 cap0 y0 _ _ _ F14.out (by have l1 := F14.out.len; have q0 := LY0.out; omega)).mono ?_)
  rintro e w19 ⟨A16, m17, c18, rfl, ho, hb⟩
  have F20 := Lib.hid ho
  clear ho
  have S22 := Lib.hid (hb.size)
  have B21 := Lib.hid (B11.out.trans (hb.mono B11.out.size))
  clear B11
  have F23 := Lib.hid (F13.out.below hb)
  clear F13
  have F24 := Lib.hid (F14.out.below hb)
  clear F14
  clear hb
  obtain ⟨V25, hV25⟩ : ∃ x, x = w19.alloc (.cells #[.int .i64 k0, .int .i64 f0, .int .i64 t0, .int .i64 s0, .int .i64 g0, .bool m0, .bool r0, .int .i64 d0, .slice A16 m17 c18] 25) := ⟨_, rfl⟩
  have hbV25 : Below w19.heap.size w19 V25 := by rw [hV25]; exact fbx.below_box _ _
  have S26 := Lib.hid (show w19.heap.size + 1 ≤ V25.heap.size by rw [hV25]; simp)
  have S28 := Lib.hid (hbV25.size)
  have B27 := Lib.hid (B21.out.trans (hbV25.mono B21.out.size))
  clear B21
  have F29 := Lib.hid (F23.out.below hbV25)
  clear F23
  have F30 := Lib.hid (F24.out.below hbV25)
  clear F24
  have F31 := Lib.hid (F20.out.below hbV25)
  clear F20
  have X32 := Lib.hid (show fbx.Bx 25 V25 w19.heap.size #[.int .i64 k0, .int .i64 f0, .int .i64 t0, .int .i64 s0, .int .i64 g0, .bool m0, .bool r0, .int .i64 d0, .slice A16 m17 c18] by rw [hV25]; exact fbx.Bx.made _ _ _)
  clear hbV25
  go_wp2_with fail
  rw [← hV25]
  clear hV25 
  (with_reducible refine (fbx.implVf k0 f0 t0 s0 g0 m0 r0 d0 A16 m17 c18 y0 (by have h1 := F31.out.len; exact h1) _).mono ?_)
  rw [VB.out]
  rintro e w33 ⟨rfl, hb⟩
  have S35 := Lib.hid (hb.size)
  have B34 := Lib.hid (B27.out.trans (hb.mono B27.out.size))
  clear B27
  have F36 := Lib.hid (F29.out.below hb)
  clear F29
  have F37 := Lib.hid (F30.out.below hb)
  clear F30
  have F38 := Lib.hid (F31.out.below hb)
  clear F31
  have F39 := Lib.hid (X32.out.below hb)
  clear X32
  clear hb
  go_wp2_with fail
  have hbd : Below w33.heap.size w33 w33.drew := own.below_drew (Below.refl _ _)
  have S41 := Lib.hid (hbd.size)
  have B40 := Lib.hid (B34.out.trans (hbd.mono B34.out.size))
  clear B34
  have F42 := Lib.hid (F36.out.below hbd)
  clear F36
  have F43 := Lib.hid (F37.out.below hbd)
  clear F37
  have F44 := Lib.hid (F38.out.below hbd)
  clear F38
  have F45 := Lib.hid (F39.out.below hbd)
  clear F39
  clear hbd
  have ca0_0 : w33.drew.cell? ⟨w19.heap.size, 0, none⟩ = some (.int .i64 k0) := F45.out.cell 0
  have ca0_1 : w33.drew.cell? ⟨w19.heap.size, 1, none⟩ = some (.int .i64 f0) := F45.out.cell 1
  have ca0_2 : w33.drew.cell? ⟨w19.heap.size, 2, none⟩ = some (.int .i64 t0) := F45.out.cell 2
  have ca0_3 : w33.drew.cell? ⟨w19.heap.size, 3, none⟩ = some (.int .i64 s0) := F45.out.cell 3
  have ca0_4 : w33.drew.cell? ⟨w19.heap.size, 4, none⟩ = some (.int .i64 g0) := F45.out.cell 4
  have ca0_5 : w33.drew.cell? ⟨w19.heap.size, 5, none⟩ = some (.bool m0) := F45.out.cell 5
  have ca0_6 : w33.drew.cell? ⟨w19.heap.size, 6, none⟩ = some (.bool r0) := F45.out.cell 6
  have ca0_7 : w33.drew.cell? ⟨w19.heap.size, 7, none⟩ = some (.int .i64 d0) := F45.out.cell 7
  have ca0_8 : w33.drew.cell? ⟨w19.heap.size, 8, none⟩ = some (.slice A16 m17 c18) := F45.out.cell 8
  have ca1_0 : w33.drew.cell? ⟨w.heap.size, 0, none⟩ = some (.int .i64 k0) := F42.out.cell 0
  have ca1_1 : w33.drew.cell? ⟨w.heap.size, 1, none⟩ = some (.int .i64 f0) := F42.out.cell 1
  have ca1_2 : w33.drew.cell? ⟨w.heap.size, 2, none⟩ = some (.int .i64 t0) := F42.out.cell 2
  have ca1_3 : w33.drew.cell? ⟨w.heap.size, 3, none⟩ = some (.int .i64 s0) := F42.out.cell 3
  have ca1_4 : w33.drew.cell? ⟨w.heap.size, 4, none⟩ = some (.int .i64 g0) := F42.out.cell 4
  have ca1_5 : w33.drew.cell? ⟨w.heap.size, 5, none⟩ = some (.bool m0) := F42.out.cell 5
  have ca1_6 : w33.drew.cell? ⟨w.heap.size, 6, none⟩ = some (.bool r0) := F42.out.cell 6
  have ca1_7 : w33.drew.cell? ⟨w.heap.size, 7, none⟩ = some (.int .i64 d0) := F42.out.cell 7
  have ca1_8 : w33.drew.cell? ⟨w.heap.size, 8, none⟩ = some (.slice a0 len0 cap0) := F42.out.cell 8
  go_region_held3 (fun w' => w'.cell? ⟨w19.heap.size, 0, none⟩ = some (.int .i64 k0) ∧ w'.cell? ⟨w19.heap.size, 1, none⟩ = some (.int .i64 f0) ∧ w'.cell? ⟨w19.heap.size, 2, none⟩ = some (.int .i64 t0) ∧ w'.cell? ⟨w19.heap.size, 3, none⟩ = some (.int .i64 s0) ∧ w'.cell? ⟨w19.heap.size, 4, none⟩ = some (.int .i64 g0) ∧ w'.cell? ⟨w19.heap.size, 5, none⟩ = some (.bool m0) ∧ w'.cell? ⟨w19.heap.size, 6, none⟩ = some (.bool r0) ∧ w'.cell? ⟨w19.heap.size, 7, none⟩ = some (.int .i64 d0) ∧ w'.cell? ⟨w19.heap.size, 8, none⟩ = some (.slice A16 m17 c18) ∧ w'.cell? ⟨w.heap.size, 0, none⟩ = some (.int .i64 k0) ∧ w'.cell? ⟨w.heap.size, 1, none⟩ = some (.int .i64 f0) ∧ w'.cell? ⟨w.heap.size, 2, none⟩ = some (.int .i64 t0) ∧ w'.cell? ⟨w.heap.size, 3, none⟩ = some (.int .i64 s0) ∧ w'.cell? ⟨w.heap.size, 4, none⟩ = some (.int .i64 g0) ∧ w'.cell? ⟨w.heap.size, 5, none⟩ = some (.bool m0) ∧ w'.cell? ⟨w.heap.size, 6, none⟩ = some (.bool r0) ∧ w'.cell? ⟨w.heap.size, 7, none⟩ = some (.int .i64 d0) ∧ w'.cell? ⟨w.heap.size, 8, none⟩ = some (.slice a0 len0 cap0)) (first | (with_reducible exact ⟨ca0_0, ca0_1, ca0_2, ca0_3, ca0_4, ca0_5, ca0_6, ca0_7, ca0_8, ca1_0, ca1_1, ca1_2, ca1_3, ca1_4, ca1_5, ca1_6, ca1_7, ca1_8⟩) | (with_reducible exact ⟨cb0_0, cb0_1, cb0_2, cb0_3, cb0_4, cb0_5, cb0_6, cb0_7, cb0_8, cb1_0, cb1_1, cb1_2, cb1_3, cb1_4, cb1_5, cb1_6, cb1_7, cb1_8⟩) | (with_reducible exact ⟨cd0_0, cd0_1, cd0_2, cd0_3, cd0_4, cd0_5, cd0_6, cd0_7, cd0_8, cd1_0, cd1_1, cd1_2, cd1_3, cd1_4, cd1_5, cd1_6, cd1_7, cd1_8⟩))
    (first
    | (go_at_call 23; refine (fbx.toMac k0 f0 t0 s0 g0 m0 r0 d0 a0 len0 cap0 y0 _ _ _ F43.out (by have l1 := F43.out.len; have q0 := LY0.out; omega)).mono ?_; rintro e w49 ⟨A46, m47, c48, rfl, ho, hb⟩; have F51 := Lib.hid ho; clear ho; have S53 := Lib.hid (hb.size); have B52 := Lib.hid (B40.out.trans (hb.mono B40.out.size)); clear B40; have F54 := Lib.hid (F42.out.below hb); clear F42; have F55 := Lib.hid (F43.out.below hb); clear F43; have F56 := Lib.hid (F44.out.below hb); clear F44; have F57 := Lib.hid (F45.out.below hb); clear F45; clear hb; have cb0_0 : w49.cell? ⟨w19.heap.size, 0, none⟩ = some (.int .i64 k0) := F57.out.cell 0; have cb0_1 : w49.cell? ⟨w19.heap.size, 1, none⟩ = some (.int .i64 f0) := F57.out.cell 1; have cb0_2 : w49.cell? ⟨w19.heap.size, 2, none⟩ = some (.int .i64 t0) := F57.out.cell 2; have cb0_3 : w49.cell? ⟨w19.heap.size, 3, none⟩ = some (.int .i64 s0) := F57.out.cell 3; have cb0_4 : w49.cell? ⟨w19.heap.size, 4, none⟩ = some (.int .i64 g0) := F57.out.cell 4; have cb0_5 : w49.cell? ⟨w19.heap.size, 5, none⟩ = some (.bool m0) := F57.out.cell 5; have cb0_6 : w49.cell? ⟨w19.heap.size, 6, none⟩ = some (.bool r0) := F57.out.cell 6; have cb0_7 : w49.cell? ⟨w19.heap.size, 7, none⟩ = some (.int .i64 d0) := F57.out.cell 7; have cb0_8 : w49.cell? ⟨w19.heap.size, 8, none⟩ = some (.slice A16 m17 c18) := F57.out.cell 8; have cb1_0 : w49.cell? ⟨w.heap.size, 0, none⟩ = some (.int .i64 k0) := F54.out.cell 0; have cb1_1 : w49.cell? ⟨w.heap.size, 1, none⟩ = some (.int .i64 f0) := F54.out.cell 1; have cb1_2 : w49.cell? ⟨w.heap.size, 2, none⟩ = some (.int .i64 t0) := F54.out.cell 2; have cb1_3 : w49.cell? ⟨w.heap.size, 3, none⟩ = some (.int .i64 s0) := F54.out.cell 3; have cb1_4 : w49.cell? ⟨w.heap.size, 4, none⟩ = some (.int .i64 g0) := F54.out.cell 4; have cb1_5 : w49.cell? ⟨w.heap.size, 5, none⟩ = some (.bool m0) := F54.out.cell 5; have cb1_6 : w49.cell? ⟨w.heap.size, 6, none⟩ = some (.bool r0) := F54.out.cell 6; have cb1_7 : w49.cell? ⟨w.heap.size, 7, none⟩ = some (.int .i64 d0) := F54.out.cell 7; have cb1_8 : w49.cell? ⟨w.heap.size, 8, none⟩ = some (.slice a0 len0 cap0) := F54.out.cell 8)
    | (go_at_call 25; refine (fbx.eqMac k0 f0 t0 s0 g0 m0 r0 d0 A16 m17 c18 A46 m47 c48 y0 _ _ _ _ _ F56.out.rd F51.out.rd).mono ?_; rintro e w50 ⟨rfl, hb⟩; have S59 := Lib.hid (hb.size); have B58 := Lib.hid (B52.out.trans (hb.mono B52.out.size)); clear B52; have F60 := Lib.hid (F54.out.below hb); clear F54; have F61 := Lib.hid (F55.out.below hb); clear F55; have F62 := Lib.hid (F56.out.below hb); clear F56; have F63 := Lib.hid (F57.out.below hb); clear F57; clear hb; have cd0_0 : w50.cell? ⟨w19.heap.size, 0, none⟩ = some (.int .i64 k0) := F63.out.cell 0; have cd0_1 : w50.cell? ⟨w19.heap.size, 1, none⟩ = some (.int .i64 f0) := F63.out.cell 1; have cd0_2 : w50.cell? ⟨w19.heap.size, 2, none⟩ = some (.int .i64 t0) := F63.out.cell 2; have cd0_3 : w50.cell? ⟨w19.heap.size, 3, none⟩ = some (.int .i64 s0) := F63.out.cell 3; have cd0_4 : w50.cell? ⟨w19.heap.size, 4, none⟩ = some (.int .i64 g0) := F63.out.cell 4; have cd0_5 : w50.cell? ⟨w19.heap.size, 5, none⟩ = some (.bool m0) := F63.out.cell 5; have cd0_6 : w50.cell? ⟨w19.heap.size, 6, none⟩ = some (.bool r0) := F63.out.cell 6; have cd0_7 : w50.cell? ⟨w19.heap.size, 7, none⟩ = some (.int .i64 d0) := F63.out.cell 7; have cd0_8 : w50.cell? ⟨w19.heap.size, 8, none⟩ = some (.slice A16 m17 c18) := F63.out.cell 8; have cd1_0 : w50.cell? ⟨w.heap.size, 0, none⟩ = some (.int .i64 k0) := F60.out.cell 0; have cd1_1 : w50.cell? ⟨w.heap.size, 1, none⟩ = some (.int .i64 f0) := F60.out.cell 1; have cd1_2 : w50.cell? ⟨w.heap.size, 2, none⟩ = some (.int .i64 t0) := F60.out.cell 2; have cd1_3 : w50.cell? ⟨w.heap.size, 3, none⟩ = some (.int .i64 s0) := F60.out.cell 3; have cd1_4 : w50.cell? ⟨w.heap.size, 4, none⟩ = some (.int .i64 g0) := F60.out.cell 4; have cd1_5 : w50.cell? ⟨w.heap.size, 5, none⟩ = some (.bool m0) := F60.out.cell 5; have cd1_6 : w50.cell? ⟨w.heap.size, 6, none⟩ = some (.bool r0) := F60.out.cell 6; have cd1_7 : w50.cell? ⟨w.heap.size, 7, none⟩ = some (.int .i64 d0) := F60.out.cell 7; have cd1_8 : w50.cell? ⟨w.heap.size, 8, none⟩ = some (.slice a0 len0 cap0) := F60.out.cell 8))
  clear ca0_0 ca0_1 ca0_2 ca0_3 ca0_4 ca0_5 ca0_6 ca0_7 ca0_8 ca1_0 ca1_1 ca1_2 ca1_3 ca1_4 ca1_5 ca1_6 ca1_7 ca1_8 cb0_0 cb0_1 cb0_2 cb0_3 cb0_4 cb0_5 cb0_6 cb0_7 cb0_8 cb1_0 cb1_1 cb1_2 cb1_3 cb1_4 cb1_5 cb1_6 cb1_7 cb1_8 cd0_0 cd0_1 cd0_2 cd0_3 cd0_4 cd0_5 cd0_6 cd0_7 cd0_8 cd1_0 cd1_1 cd1_2 cd1_3 cd1_4 cd1_5 cd1_6 cd1_7 cd1_8
  go_wp2_with fail
  go_ret
  exact ⟨rfl, B58.out⟩
end Go.Proofs.Ytnnlkkohbjolaaa.xExactIsValidFrame
