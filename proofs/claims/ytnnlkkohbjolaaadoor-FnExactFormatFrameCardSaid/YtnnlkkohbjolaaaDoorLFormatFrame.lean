/- The law function of FnExactFormatFrame returns true and leaves what was there. Condition: the slices among the arguments are slices that came in. -/
import Derived.Test.YtnnlkkohbjolaaaDoorFhr
import Derived.Test.YtnnlkkohbjolaaaDoorFmt
import Derived.Deep.RegionHeld3
namespace Go.Proofs.YtnnlkkohbjolaaaDoor.xExactFormatFrame
open Go.RowKit sl harn frm
set_option linter.unusedVariables false
set_option maxRecDepth 100000 in
set_option maxHeartbeats 4000000 in
theorem walk (k0 : Int) (wk0 : (Lit.int .i64 k0).wf = true) (f0 : Int) (wf0 : (Lit.int .i64 f0).wf = true) (t0 : Int) (wt0 : (Lit.int .i64 t0).wf = true) (s0 : Int) (ws0 : (Lit.int .i64 s0).wf = true) (g0 : Int) (wg0 : (Lit.int .i64 g0).wf = true) (m0 : Bool) (r0 : Bool) (d0 : Int) (wd0 : (Lit.int .i64 d0).wf = true) (a0 : Option Addr) (len0 cap0 : Nat) (z0 : List Int) (w : World) (row0 : kit.IsRow .u8 w a0 len0 cap0 z0) (ht0 : facts.Tab w) :
    Calls Tryd.prog 3 #[.agg #[.int .i64 k0, .int .i64 f0, .int .i64 t0, .int .i64 s0, .int .i64 g0, .bool m0, .bool r0, .int .i64 d0, .slice a0 len0 cap0]] w fun e w' => e = .returned (.bool true) ∧ Below w.heap.size w w' := by
  have TB := Lib.hid ht0
  clear ht0
  obtain ⟨y0, hr0⟩ := Rd.of_row row0
  have R0 := Lib.hid hr0
  have hl0 : (len0 : Int) ≤ 9223372036854775807 := by have := hr0.cap_; omega
  clear row0 hr0
  have Wk0 := Lib.hid wk0
  have Wf0 := Lib.hid wf0
  have Wt0 := Lib.hid wt0
  have Ws0 := Lib.hid ws0
  have Wg0 := Lib.hid wg0
  have Wd0 := Lib.hid wd0
  clear wk0 wf0 wt0 ws0 wg0 wd0
  go_enter Tryd.func3, Tryd.ntmps3
  go_wp2_with fail
  obtain ⟨W0, hW0⟩ : ∃ x, w.alloc (.cells #[.int .i64 k0, .int .i64 f0, .int .i64 t0, .int .i64 s0, .int .i64 g0, .bool m0, .bool r0, .int .i64 d0, .slice a0 len0 cap0] 24) = x := ⟨_, rfl⟩
  rw [hW0]
  have hb0 : Below w.heap.size w W0 := by rw [← hW0]; exact fbx.below_box _ _
  have LB0 := Lib.hid (show fbx.Bx 24 W0 (w.heap.size) #[.int .i64 k0, .int .i64 f0, .int .i64 t0, .int .i64 s0, .int .i64 g0, .bool m0, .bool r0, .int .i64 d0, .slice a0 len0 cap0] by rw [← hW0]; exact fbx.Bx.made _ _ _)
  have S00 := Lib.hid (show w.heap.size + 1 ≤ W0.heap.size by rw [← hW0]; simp)
  clear hW0
  by_cases hbig0 : 1048576 < (len0 : Int)
  · (with_reducible refine (fbx.sz_out k0 f0 t0 s0 g0 m0 r0 d0 a0 len0 cap0 1048576 (by omega) hl0 (by omega) _).mono ?_)
    rintro e w1 ⟨rfl, hb⟩
    go_wp2_with fail
    go_ret
    exact ⟨rfl, hb0.trans (hb.mono hb0.size)⟩
  (with_reducible refine (fbx.sz_in k0 f0 t0 s0 g0 m0 r0 d0 a0 len0 cap0 1048576 (by omega) hl0 (by omega) _).mono ?_)
  rintro e w1 ⟨rfl, hb⟩
  have hq0 : ¬ 1048576 - (len0 : Int) < 0 := by omega
  have hb1 : Below w.heap.size w w1 := hb0.trans (hb.mono hb0.size)
  have LB0 := Lib.hid (LB0.out.below hb)
  have S01 := Lib.hid (hb.size)
  clear hb0
  have hb0 := hb1
  clear hb1 hb
  have LY0 : Hid (y0.length ≤ 1048576) := by have := R0.out.len; unfold Hid; omega
  have R0 := Lib.hid (R0.out.below hb0)
  have TB := Lib.hid (TB.out.below hb0)
  have B0 := Lib.hid hb0
  clear hb0
  obtain ⟨vb, hvb⟩ : ∃ vb, fmt.fst_ k0 f0 t0 s0 g0 m0 r0 = vb := ⟨_, rfl⟩
  have VB := Lib.hid hvb
  clear hvb
  have cc0_0 : w1.cell? ⟨w.heap.size, 0, none⟩ = some (.int .i64 k0) := LB0.out.cell 0
  have cc0_1 : w1.cell? ⟨w.heap.size, 1, none⟩ = some (.int .i64 f0) := LB0.out.cell 1
  have cc0_2 : w1.cell? ⟨w.heap.size, 2, none⟩ = some (.int .i64 t0) := LB0.out.cell 2
  have cc0_3 : w1.cell? ⟨w.heap.size, 3, none⟩ = some (.int .i64 s0) := LB0.out.cell 3
  have cc0_4 : w1.cell? ⟨w.heap.size, 4, none⟩ = some (.int .i64 g0) := LB0.out.cell 4
  have cc0_5 : w1.cell? ⟨w.heap.size, 5, none⟩ = some (.bool m0) := LB0.out.cell 5
  have cc0_6 : w1.cell? ⟨w.heap.size, 6, none⟩ = some (.bool r0) := LB0.out.cell 6
  have cc0_7 : w1.cell? ⟨w.heap.size, 7, none⟩ = some (.int .i64 d0) := LB0.out.cell 7
  have cc0_8 : w1.cell? ⟨w.heap.size, 8, none⟩ = some (.slice a0 len0 cap0) := LB0.out.cell 8
  go_wp2_with fail
  clear cc0_0 cc0_1 cc0_2 cc0_3 cc0_4 cc0_5 cc0_6 cc0_7 cc0_8
  (with_reducible refine (fbx.toMac k0 f0 t0 s0 g0 m0 r0 d0 a0 len0 cap0 y0 _ _ _ R0.out (by have l1 := R0.out.len; have q0 := LY0.out; omega)).mono ?_)
  rintro e w4 ⟨A1, m2, c3, rfl, ho, hb⟩
  have F5 := Lib.hid ho
  clear ho
  have S7 := Lib.hid (hb.size)
  have B6 := Lib.hid (B0.out.trans (hb.mono B0.out.size))
  clear B0
  have F8 := Lib.hid (LB0.out.below hb)
  clear LB0
  have F9 := Lib.hid (R0.out.below hb)
  clear R0
  have F10 := Lib.hid (TB.out.below hb)
  clear TB
  clear hb
  go_wp2_with fail
  (with_reducible refine (fmt.specFmt k0 f0 t0 s0 g0 m0 r0 d0 A1 m2 c3 _ (own.wf_in Wf0.out) (own.wf_in Wt0.out) (own.wf_in Ws0.out) (own.wf_in Wg0.out)).mono ?_)
  rw [VB.out]
  rintro e w11 ⟨rfl, hb⟩
  have S13 := Lib.hid (hb.size)
  have B12 := Lib.hid (B6.out.trans (hb.mono B6.out.size))
  clear B6
  have F14 := Lib.hid (F8.out.below hb)
  clear F8
  have F15 := Lib.hid (F9.out.below hb)
  clear F9
  have F16 := Lib.hid (F10.out.below hb)
  clear F10
  have F17 := Lib.hid (F5.out.below hb)
  clear F5
  clear hb
  clear F17
  have cc0_0 : w11.cell? ⟨w.heap.size, 0, none⟩ = some (.int .i64 k0) := F14.out.cell 0
  have cc0_1 : w11.cell? ⟨w.heap.size, 1, none⟩ = some (.int .i64 f0) := F14.out.cell 1
  have cc0_2 : w11.cell? ⟨w.heap.size, 2, none⟩ = some (.int .i64 t0) := F14.out.cell 2
  have cc0_3 : w11.cell? ⟨w.heap.size, 3, none⟩ = some (.int .i64 s0) := F14.out.cell 3
  have cc0_4 : w11.cell? ⟨w.heap.size, 4, none⟩ = some (.int .i64 g0) := F14.out.cell 4
  have cc0_5 : w11.cell? ⟨w.heap.size, 5, none⟩ = some (.bool m0) := F14.out.cell 5
  have cc0_6 : w11.cell? ⟨w.heap.size, 6, none⟩ = some (.bool r0) := F14.out.cell 6
  have cc0_7 : w11.cell? ⟨w.heap.size, 7, none⟩ = some (.int .i64 d0) := F14.out.cell 7
  have cc0_8 : w11.cell? ⟨w.heap.size, 8, none⟩ = some (.slice a0 len0 cap0) := F14.out.cell 8
  go_wp2_with fail
  clear cc0_0 cc0_1 cc0_2 cc0_3 cc0_4 cc0_5 cc0_6 cc0_7 cc0_8
  (with_reducible refine (fbx.toMac k0 f0 t0 s0 g0 m0 r0 d0 a0 len0 cap0 y0 _ _ _ F15.out (by have l1 := F15.out.len; have q0 := LY0.out; omega)).mono ?_)
  rintro e w21 ⟨A18, m19, c20, rfl, ho, hb⟩
  have F22 := Lib.hid ho
  clear ho
  have S24 := Lib.hid (hb.size)
  have B23 := Lib.hid (B12.out.trans (hb.mono B12.out.size))
  clear B12
  have F25 := Lib.hid (F14.out.below hb)
  clear F14
  have F26 := Lib.hid (F15.out.below hb)
  clear F15
  have F27 := Lib.hid (F16.out.below hb)
  clear F16
  clear hb
  obtain ⟨V28, hV28⟩ : ∃ x, x = w21.alloc (.cells #[.int .i64 k0, .int .i64 f0, .int .i64 t0, .int .i64 s0, .int .i64 g0, .bool m0, .bool r0, .int .i64 d0, .slice A18 m19 c20] 27) := ⟨_, rfl⟩
  have hbV28 : Below w21.heap.size w21 V28 := by rw [hV28]; exact fbx.below_box _ _
  have S29 := Lib.hid (show w21.heap.size + 1 ≤ V28.heap.size by rw [hV28]; simp)
  have S31 := Lib.hid (hbV28.size)
  have B30 := Lib.hid (B23.out.trans (hbV28.mono B23.out.size))
  clear B23
  have F32 := Lib.hid (F25.out.below hbV28)
  clear F25
  have F33 := Lib.hid (F26.out.below hbV28)
  clear F26
  have F34 := Lib.hid (F27.out.below hbV28)
  clear F27
  have F35 := Lib.hid (F22.out.below hbV28)
  clear F22
  have X36 := Lib.hid (show fbx.Bx 27 V28 w21.heap.size #[.int .i64 k0, .int .i64 f0, .int .i64 t0, .int .i64 s0, .int .i64 g0, .bool m0, .bool r0, .int .i64 d0, .slice A18 m19 c20] by rw [hV28]; exact fbx.Bx.made _ _ _)
  clear hbV28
  go_wp2_with fail
  rw [← hV28]
  clear hV28 
  (with_reducible refine (fmt.implFmt k0 f0 t0 s0 g0 m0 r0 d0 A18 m19 c20 _ (own.wf_in Wf0.out) (own.wf_in Wt0.out) (own.wf_in Ws0.out) (own.wf_in Wg0.out) F34.out).mono ?_)
  rw [VB.out]
  rintro e w37 ⟨rfl, hb⟩
  have S39 := Lib.hid (hb.size)
  have B38 := Lib.hid (B30.out.trans (hb.mono B30.out.size))
  clear B30
  have F40 := Lib.hid (F32.out.below hb)
  clear F32
  have F41 := Lib.hid (F33.out.below hb)
  clear F33
  have F42 := Lib.hid (F34.out.below hb)
  clear F34
  have F43 := Lib.hid (F35.out.below hb)
  clear F35
  have F44 := Lib.hid (X36.out.below hb)
  clear X36
  clear hb
  go_wp2_with fail
  have hbd : Below w37.heap.size w37 w37.drew := own.below_drew (Below.refl _ _)
  have S46 := Lib.hid (hbd.size)
  have B45 := Lib.hid (B38.out.trans (hbd.mono B38.out.size))
  clear B38
  have F47 := Lib.hid (F40.out.below hbd)
  clear F40
  have F48 := Lib.hid (F41.out.below hbd)
  clear F41
  have F49 := Lib.hid (F42.out.below hbd)
  clear F42
  have F50 := Lib.hid (F43.out.below hbd)
  clear F43
  have F51 := Lib.hid (F44.out.below hbd)
  clear F44
  clear hbd
  have ca0_0 : w37.drew.cell? ⟨w21.heap.size, 0, none⟩ = some (.int .i64 k0) := F51.out.cell 0
  have ca0_1 : w37.drew.cell? ⟨w21.heap.size, 1, none⟩ = some (.int .i64 f0) := F51.out.cell 1
  have ca0_2 : w37.drew.cell? ⟨w21.heap.size, 2, none⟩ = some (.int .i64 t0) := F51.out.cell 2
  have ca0_3 : w37.drew.cell? ⟨w21.heap.size, 3, none⟩ = some (.int .i64 s0) := F51.out.cell 3
  have ca0_4 : w37.drew.cell? ⟨w21.heap.size, 4, none⟩ = some (.int .i64 g0) := F51.out.cell 4
  have ca0_5 : w37.drew.cell? ⟨w21.heap.size, 5, none⟩ = some (.bool m0) := F51.out.cell 5
  have ca0_6 : w37.drew.cell? ⟨w21.heap.size, 6, none⟩ = some (.bool r0) := F51.out.cell 6
  have ca0_7 : w37.drew.cell? ⟨w21.heap.size, 7, none⟩ = some (.int .i64 d0) := F51.out.cell 7
  have ca0_8 : w37.drew.cell? ⟨w21.heap.size, 8, none⟩ = some (.slice A18 m19 c20) := F51.out.cell 8
  have ca1_0 : w37.drew.cell? ⟨w.heap.size, 0, none⟩ = some (.int .i64 k0) := F47.out.cell 0
  have ca1_1 : w37.drew.cell? ⟨w.heap.size, 1, none⟩ = some (.int .i64 f0) := F47.out.cell 1
  have ca1_2 : w37.drew.cell? ⟨w.heap.size, 2, none⟩ = some (.int .i64 t0) := F47.out.cell 2
  have ca1_3 : w37.drew.cell? ⟨w.heap.size, 3, none⟩ = some (.int .i64 s0) := F47.out.cell 3
  have ca1_4 : w37.drew.cell? ⟨w.heap.size, 4, none⟩ = some (.int .i64 g0) := F47.out.cell 4
  have ca1_5 : w37.drew.cell? ⟨w.heap.size, 5, none⟩ = some (.bool m0) := F47.out.cell 5
  have ca1_6 : w37.drew.cell? ⟨w.heap.size, 6, none⟩ = some (.bool r0) := F47.out.cell 6
  have ca1_7 : w37.drew.cell? ⟨w.heap.size, 7, none⟩ = some (.int .i64 d0) := F47.out.cell 7
  have ca1_8 : w37.drew.cell? ⟨w.heap.size, 8, none⟩ = some (.slice a0 len0 cap0) := F47.out.cell 8
  go_region_held3 (fun w' => w'.cell? ⟨w21.heap.size, 0, none⟩ = some (.int .i64 k0) ∧ w'.cell? ⟨w21.heap.size, 1, none⟩ = some (.int .i64 f0) ∧ w'.cell? ⟨w21.heap.size, 2, none⟩ = some (.int .i64 t0) ∧ w'.cell? ⟨w21.heap.size, 3, none⟩ = some (.int .i64 s0) ∧ w'.cell? ⟨w21.heap.size, 4, none⟩ = some (.int .i64 g0) ∧ w'.cell? ⟨w21.heap.size, 5, none⟩ = some (.bool m0) ∧ w'.cell? ⟨w21.heap.size, 6, none⟩ = some (.bool r0) ∧ w'.cell? ⟨w21.heap.size, 7, none⟩ = some (.int .i64 d0) ∧ w'.cell? ⟨w21.heap.size, 8, none⟩ = some (.slice A18 m19 c20) ∧ w'.cell? ⟨w.heap.size, 0, none⟩ = some (.int .i64 k0) ∧ w'.cell? ⟨w.heap.size, 1, none⟩ = some (.int .i64 f0) ∧ w'.cell? ⟨w.heap.size, 2, none⟩ = some (.int .i64 t0) ∧ w'.cell? ⟨w.heap.size, 3, none⟩ = some (.int .i64 s0) ∧ w'.cell? ⟨w.heap.size, 4, none⟩ = some (.int .i64 g0) ∧ w'.cell? ⟨w.heap.size, 5, none⟩ = some (.bool m0) ∧ w'.cell? ⟨w.heap.size, 6, none⟩ = some (.bool r0) ∧ w'.cell? ⟨w.heap.size, 7, none⟩ = some (.int .i64 d0) ∧ w'.cell? ⟨w.heap.size, 8, none⟩ = some (.slice a0 len0 cap0)) (first | (with_reducible exact ⟨ca0_0, ca0_1, ca0_2, ca0_3, ca0_4, ca0_5, ca0_6, ca0_7, ca0_8, ca1_0, ca1_1, ca1_2, ca1_3, ca1_4, ca1_5, ca1_6, ca1_7, ca1_8⟩) | (with_reducible exact ⟨cb0_0, cb0_1, cb0_2, cb0_3, cb0_4, cb0_5, cb0_6, cb0_7, cb0_8, cb1_0, cb1_1, cb1_2, cb1_3, cb1_4, cb1_5, cb1_6, cb1_7, cb1_8⟩) | (with_reducible exact ⟨cd0_0, cd0_1, cd0_2, cd0_3, cd0_4, cd0_5, cd0_6, cd0_7, cd0_8, cd1_0, cd1_1, cd1_2, cd1_3, cd1_4, cd1_5, cd1_6, cd1_7, cd1_8⟩))
    (first
    | (go_at_call 6; refine (fbx.toMac k0 f0 t0 s0 g0 m0 r0 d0 a0 len0 cap0 y0 _ _ _ F48.out (by have l1 := F48.out.len; have q0 := LY0.out; omega)).mono ?_; rintro e w55 ⟨A52, m53, c54, rfl, ho, hb⟩; have F57 := Lib.hid ho; clear ho; have S59 := Lib.hid (hb.size); have B58 := Lib.hid (B45.out.trans (hb.mono B45.out.size)); clear B45; have F60 := Lib.hid (F47.out.below hb); clear F47; have F61 := Lib.hid (F48.out.below hb); clear F48; have F62 := Lib.hid (F49.out.below hb); clear F49; have F63 := Lib.hid (F50.out.below hb); clear F50; have F64 := Lib.hid (F51.out.below hb); clear F51; clear hb; have cb0_0 : w55.cell? ⟨w21.heap.size, 0, none⟩ = some (.int .i64 k0) := F64.out.cell 0; have cb0_1 : w55.cell? ⟨w21.heap.size, 1, none⟩ = some (.int .i64 f0) := F64.out.cell 1; have cb0_2 : w55.cell? ⟨w21.heap.size, 2, none⟩ = some (.int .i64 t0) := F64.out.cell 2; have cb0_3 : w55.cell? ⟨w21.heap.size, 3, none⟩ = some (.int .i64 s0) := F64.out.cell 3; have cb0_4 : w55.cell? ⟨w21.heap.size, 4, none⟩ = some (.int .i64 g0) := F64.out.cell 4; have cb0_5 : w55.cell? ⟨w21.heap.size, 5, none⟩ = some (.bool m0) := F64.out.cell 5; have cb0_6 : w55.cell? ⟨w21.heap.size, 6, none⟩ = some (.bool r0) := F64.out.cell 6; have cb0_7 : w55.cell? ⟨w21.heap.size, 7, none⟩ = some (.int .i64 d0) := F64.out.cell 7; have cb0_8 : w55.cell? ⟨w21.heap.size, 8, none⟩ = some (.slice A18 m19 c20) := F64.out.cell 8; have cb1_0 : w55.cell? ⟨w.heap.size, 0, none⟩ = some (.int .i64 k0) := F60.out.cell 0; have cb1_1 : w55.cell? ⟨w.heap.size, 1, none⟩ = some (.int .i64 f0) := F60.out.cell 1; have cb1_2 : w55.cell? ⟨w.heap.size, 2, none⟩ = some (.int .i64 t0) := F60.out.cell 2; have cb1_3 : w55.cell? ⟨w.heap.size, 3, none⟩ = some (.int .i64 s0) := F60.out.cell 3; have cb1_4 : w55.cell? ⟨w.heap.size, 4, none⟩ = some (.int .i64 g0) := F60.out.cell 4; have cb1_5 : w55.cell? ⟨w.heap.size, 5, none⟩ = some (.bool m0) := F60.out.cell 5; have cb1_6 : w55.cell? ⟨w.heap.size, 6, none⟩ = some (.bool r0) := F60.out.cell 6; have cb1_7 : w55.cell? ⟨w.heap.size, 7, none⟩ = some (.int .i64 d0) := F60.out.cell 7; have cb1_8 : w55.cell? ⟨w.heap.size, 8, none⟩ = some (.slice a0 len0 cap0) := F60.out.cell 8)
    | (go_at_call 8; refine (fbx.eqMac k0 f0 t0 s0 g0 m0 r0 d0 A18 m19 c20 A52 m53 c54 y0 _ _ _ _ _ F63.out.rd F57.out.rd).mono ?_; rintro e w56 ⟨rfl, hb⟩; have S66 := Lib.hid (hb.size); have B65 := Lib.hid (B58.out.trans (hb.mono B58.out.size)); clear B58; have F67 := Lib.hid (F60.out.below hb); clear F60; have F68 := Lib.hid (F61.out.below hb); clear F61; have F69 := Lib.hid (F62.out.below hb); clear F62; have F70 := Lib.hid (F63.out.below hb); clear F63; have F71 := Lib.hid (F64.out.below hb); clear F64; clear hb; have cd0_0 : w56.cell? ⟨w21.heap.size, 0, none⟩ = some (.int .i64 k0) := F71.out.cell 0; have cd0_1 : w56.cell? ⟨w21.heap.size, 1, none⟩ = some (.int .i64 f0) := F71.out.cell 1; have cd0_2 : w56.cell? ⟨w21.heap.size, 2, none⟩ = some (.int .i64 t0) := F71.out.cell 2; have cd0_3 : w56.cell? ⟨w21.heap.size, 3, none⟩ = some (.int .i64 s0) := F71.out.cell 3; have cd0_4 : w56.cell? ⟨w21.heap.size, 4, none⟩ = some (.int .i64 g0) := F71.out.cell 4; have cd0_5 : w56.cell? ⟨w21.heap.size, 5, none⟩ = some (.bool m0) := F71.out.cell 5; have cd0_6 : w56.cell? ⟨w21.heap.size, 6, none⟩ = some (.bool r0) := F71.out.cell 6; have cd0_7 : w56.cell? ⟨w21.heap.size, 7, none⟩ = some (.int .i64 d0) := F71.out.cell 7; have cd0_8 : w56.cell? ⟨w21.heap.size, 8, none⟩ = some (.slice A18 m19 c20) := F71.out.cell 8; have cd1_0 : w56.cell? ⟨w.heap.size, 0, none⟩ = some (.int .i64 k0) := F67.out.cell 0; have cd1_1 : w56.cell? ⟨w.heap.size, 1, none⟩ = some (.int .i64 f0) := F67.out.cell 1; have cd1_2 : w56.cell? ⟨w.heap.size, 2, none⟩ = some (.int .i64 t0) := F67.out.cell 2; have cd1_3 : w56.cell? ⟨w.heap.size, 3, none⟩ = some (.int .i64 s0) := F67.out.cell 3; have cd1_4 : w56.cell? ⟨w.heap.size, 4, none⟩ = some (.int .i64 g0) := F67.out.cell 4; have cd1_5 : w56.cell? ⟨w.heap.size, 5, none⟩ = some (.bool m0) := F67.out.cell 5; have cd1_6 : w56.cell? ⟨w.heap.size, 6, none⟩ = some (.bool r0) := F67.out.cell 6; have cd1_7 : w56.cell? ⟨w.heap.size, 7, none⟩ = some (.int .i64 d0) := F67.out.cell 7; have cd1_8 : w56.cell? ⟨w.heap.size, 8, none⟩ = some (.slice a0 len0 cap0) := F67.out.cell 8))
  clear ca0_0 ca0_1 ca0_2 ca0_3 ca0_4 ca0_5 ca0_6 ca0_7 ca0_8 ca1_0 ca1_1 ca1_2 ca1_3 ca1_4 ca1_5 ca1_6 ca1_7 ca1_8 cb0_0 cb0_1 cb0_2 cb0_3 cb0_4 cb0_5 cb0_6 cb0_7 cb0_8 cb1_0 cb1_1 cb1_2 cb1_3 cb1_4 cb1_5 cb1_6 cb1_7 cb1_8 cd0_0 cd0_1 cd0_2 cd0_3 cd0_4 cd0_5 cd0_6 cd0_7 cd0_8 cd1_0 cd1_1 cd1_2 cd1_3 cd1_4 cd1_5 cd1_6 cd1_7 cd1_8
  go_wp2_with fail
  go_ret
  exact ⟨rfl, B65.out⟩
end Go.Proofs.YtnnlkkohbjolaaaDoor.xExactFormatFrame
