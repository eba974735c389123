/- The law function of FnExactNeighborsOf returns true and leaves what was there. Condition: the slices among the arguments are slices that came in. -/
import Derived.Test.YtichhbkgebimeaaPlh
import Derived.Test.YtichhbkgebimeaaPl3
import Derived.Deep.RegionHeld3
namespace Go.Proofs.Ytichhbkgebimeaa.xExactNeighborsOf
open Go.RowKit sl harn plm
set_option linter.unusedVariables false
set_option maxRecDepth 100000 in
set_option maxHeartbeats 4000000 in
theorem walk (a0 : Option Addr) (len0 cap0 : Nat) (z0 : List Int) (r0 : Int) (s0 : Int) (p : Int) (w : World) (row0 : kit.IsRow .i64 w a0 len0 cap0 z0) :
    Calls Try.prog 9 #[.agg #[.slice a0 len0 cap0, .int .i64 r0, .int .i64 s0], .int .i64 p] w fun e w' => e = .returned (.bool true) ∧ Below w.heap.size w w' := by
  obtain ⟨y0, hr0⟩ := Rd.of_row row0
  have R0 := Lib.hid hr0
  have hl0 : (len0 : Int) ≤ 9223372036854775807 := by have := hr0.cap_; omega
  clear row0 hr0
  go_enter Try.func9, Try.ntmps9
  go_wp2_with fail
  obtain ⟨W0, hW0⟩ : ∃ x, w.alloc (.cells #[.slice a0 len0 cap0, .int .i64 r0, .int .i64 s0] 39) = x := ⟨_, rfl⟩
  rw [hW0]
  have hb0 : Below w.heap.size w W0 := by rw [← hW0]; exact bx.below_box _ _
  have LB0 := Lib.hid (show bx.Bx 39 W0 w.heap.size #[.slice a0 len0 cap0, .int .i64 r0, .int .i64 s0] by rw [← hW0]; exact bx.Bx.made _ _ _)
  have S00 := Lib.hid (show w.heap.size + 1 ≤ W0.heap.size by rw [← hW0]; simp)
  clear hW0
  by_cases hbig0 : 1048576 < (len0 : Int)
  · (with_reducible refine (bx.sz_out a0 len0 cap0 r0 s0 1048576 (by omega) hl0 (by omega) _).mono ?_)
    rintro e w1 ⟨rfl, hb⟩
    go_wp2_with fail
    go_ret
    exact ⟨rfl, hb0.trans (hb.mono hb0.size)⟩
  (with_reducible refine (bx.sz_in a0 len0 cap0 r0 s0 1048576 (by omega) hl0 (by omega) _).mono ?_)
  rintro e w1 ⟨rfl, hb⟩
  have hq0 : ¬ 1048576 - (len0 : Int) < 0 := by omega
  have hb1 : Below w.heap.size w w1 := hb0.trans (hb.mono hb0.size)
  have LB0 := Lib.hid (LB0.out.below hb)
  have S01 := Lib.hid (hb.size)
  clear hb0
  have hb0 := hb1
  clear hb1 hb
  have LY0 : Hid (y0.length ≤ 1048576) := by have := R0.out.len; unfold Hid; omega
  have R0 := Lib.hid (R0.out.below hb0)
  have B0 := Lib.hid hb0
  clear hb0
  have cc0_0 : w1.cell? ⟨w.heap.size, 0, none⟩ = some (.slice a0 len0 cap0) := LB0.out.cell 0
  have cc0_1 : w1.cell? ⟨w.heap.size, 1, none⟩ = some (.int .i64 r0) := LB0.out.cell 1
  have cc0_2 : w1.cell? ⟨w.heap.size, 2, none⟩ = some (.int .i64 s0) := LB0.out.cell 2
  go_wp2_with fail
  clear cc0_0 cc0_1 cc0_2
  (with_reducible refine (bx.toPla a0 len0 cap0 r0 s0 y0 _ _ _ R0.out (by have l1 := R0.out.len; have q0 := LY0.out; omega)).mono ?_)
  rintro e w4 ⟨A1, m2, c3, rfl, ho, hb⟩
  have F5 := Lib.hid ho
  clear ho
  have S7 := Lib.hid (hb.size)
  have B6 := Lib.hid (B0.out.trans (hb.mono B0.out.size))
  clear B0
  have F8 := Lib.hid (LB0.out.below hb)
  clear LB0
  have F9 := Lib.hid (R0.out.below hb)
  clear R0
  clear hb
  go_wp2_with fail
  (with_reducible refine (bx.specNb A1 m2 c3 r0 s0 y0 p _ _ _ F5.out.rd (by have l1 := F5.out.len; have q0 := LY0.out; omega)).mono ?_)
  rintro e w13 ⟨A10, m11, c12, rfl, ho, hb⟩
  have F14 := Lib.hid ho
  clear ho
  have S16 := Lib.hid (hb.size)
  have B15 := Lib.hid (B6.out.trans (hb.mono B6.out.size))
  clear B6
  have F17 := Lib.hid (F8.out.below hb)
  clear F8
  have F18 := Lib.hid (F9.out.below hb)
  clear F9
  have F19 := Lib.hid (F5.out.below hb)
  clear F5
  clear hb
  clear F19
  have cc0_0 : w13.cell? ⟨w.heap.size, 0, none⟩ = some (.slice a0 len0 cap0) := F17.out.cell 0
  have cc0_1 : w13.cell? ⟨w.heap.size, 1, none⟩ = some (.int .i64 r0) := F17.out.cell 1
  have cc0_2 : w13.cell? ⟨w.heap.size, 2, none⟩ = some (.int .i64 s0) := F17.out.cell 2
  go_wp2_with fail
  clear cc0_0 cc0_1 cc0_2
  (with_reducible refine (bx.toPla a0 len0 cap0 r0 s0 y0 _ _ _ F18.out (by have l1 := F18.out.len; have q0 := LY0.out; omega)).mono ?_)
  rintro e w23 ⟨A20, m21, c22, rfl, ho, hb⟩
  have F24 := Lib.hid ho
  clear ho
  have S26 := Lib.hid (hb.size)
  have B25 := Lib.hid (B15.out.trans (hb.mono B15.out.size))
  clear B15
  have F27 := Lib.hid (F17.out.below hb)
  clear F17
  have F28 := Lib.hid (F18.out.below hb)
  clear F18
  have F29 := Lib.hid (F14.out.below hb)
  clear F14
  clear hb
  obtain ⟨V30, hV30⟩ : ∃ x, x = w23.alloc (.cells #[.slice A20 m21 c22, .int .i64 r0, .int .i64 s0] 26) := ⟨_, rfl⟩
  have hbV30 : Below w23.heap.size w23 V30 := by rw [hV30]; exact bx.below_box _ _
  have S31 := Lib.hid (show w23.heap.size + 1 ≤ V30.heap.size by rw [hV30]; simp)
  have S33 := Lib.hid (hbV30.size)
  have B32 := Lib.hid (B25.out.trans (hbV30.mono B25.out.size))
  clear B25
  have F34 := Lib.hid (F27.out.below hbV30)
  clear F27
  have F35 := Lib.hid (F28.out.below hbV30)
  clear F28
  have F36 := Lib.hid (F29.out.below hbV30)
  clear F29
  have F37 := Lib.hid (F24.out.below hbV30)
  clear F24
  have X38 := Lib.hid (show bx.Bx 26 V30 w23.heap.size #[.slice A20 m21 c22, .int .i64 r0, .int .i64 s0] by rw [hV30]; exact bx.Bx.made _ _ _)
  clear hbV30
  go_wp2_with fail
  rw [← hV30]
  clear hV30 
  (with_reducible refine (bx.implNb A20 m21 c22 r0 s0 y0 p _ _ _ F37.out.rd (by have l1 := F37.out.len; have q0 := LY0.out; omega)).mono ?_)
  rintro e w42 ⟨A39, m40, c41, rfl, ho, hb⟩
  have F43 := Lib.hid ho
  clear ho
  have S45 := Lib.hid (hb.size)
  have B44 := Lib.hid (B32.out.trans (hb.mono B32.out.size))
  clear B32
  have F46 := Lib.hid (F34.out.below hb)
  clear F34
  have F47 := Lib.hid (F35.out.below hb)
  clear F35
  have F48 := Lib.hid (F36.out.below hb)
  clear F36
  have F49 := Lib.hid (F37.out.below hb)
  clear F37
  have F50 := Lib.hid (X38.out.below hb)
  clear X38
  clear hb
  go_wp2_with fail
  (with_reducible refine (harn.eqIntS_yes (nbs y0 r0 p y0.length) _ _ _ _ A39 A10 m40 c41 m11 c12 _ F43.out.rd F48.out.rd).mono ?_)
  rintro e w51 ⟨rfl, hb⟩
  have S53 := Lib.hid (hb.size)
  have B52 := Lib.hid (B44.out.trans (hb.mono B44.out.size))
  clear B44
  have F54 := Lib.hid (F46.out.below hb)
  clear F46
  have F55 := Lib.hid (F47.out.below hb)
  clear F47
  have F56 := Lib.hid (F48.out.below hb)
  clear F48
  have F57 := Lib.hid (F49.out.below hb)
  clear F49
  have F58 := Lib.hid (F50.out.below hb)
  clear F50
  have F59 := Lib.hid (F43.out.below hb)
  clear F43
  clear hb
  go_wp2_with fail
  have hbd : Below w51.heap.size w51 w51.drew := own.below_drew (Below.refl _ _)
  have S61 := Lib.hid (hbd.size)
  have B60 := Lib.hid (B52.out.trans (hbd.mono B52.out.size))
  clear B52
  have F62 := Lib.hid (F54.out.below hbd)
  clear F54
  have F63 := Lib.hid (F55.out.below hbd)
  clear F55
  have F64 := Lib.hid (F56.out.below hbd)
  clear F56
  have F65 := Lib.hid (F57.out.below hbd)
  clear F57
  have F66 := Lib.hid (F58.out.below hbd)
  clear F58
  have F67 := Lib.hid (F59.out.below hbd)
  clear F59
  clear hbd
  have ca0_0 : w51.drew.cell? ⟨w23.heap.size, 0, none⟩ = some (.slice A20 m21 c22) := F66.out.cell 0
  have ca0_1 : w51.drew.cell? ⟨w23.heap.size, 1, none⟩ = some (.int .i64 r0) := F66.out.cell 1
  have ca0_2 : w51.drew.cell? ⟨w23.heap.size, 2, none⟩ = some (.int .i64 s0) := F66.out.cell 2
  have ca1_0 : w51.drew.cell? ⟨w.heap.size, 0, none⟩ = some (.slice a0 len0 cap0) := F62.out.cell 0
  have ca1_1 : w51.drew.cell? ⟨w.heap.size, 1, none⟩ = some (.int .i64 r0) := F62.out.cell 1
  have ca1_2 : w51.drew.cell? ⟨w.heap.size, 2, none⟩ = some (.int .i64 s0) := F62.out.cell 2
  go_region_held3 (fun w' => w'.cell? ⟨w23.heap.size, 0, none⟩ = some (.slice A20 m21 c22) ∧ w'.cell? ⟨w23.heap.size, 1, none⟩ = some (.int .i64 r0) ∧ w'.cell? ⟨w23.heap.size, 2, none⟩ = some (.int .i64 s0) ∧ w'.cell? ⟨w.heap.size, 0, none⟩ = some (.slice a0 len0 cap0) ∧ w'.cell? ⟨w.heap.size, 1, none⟩ = some (.int .i64 r0) ∧ w'.cell? ⟨w.heap.size, 2, none⟩ = some (.int .i64 s0)) (first | (with_reducible exact ⟨ca0_0, ca0_1, ca0_2, ca1_0, ca1_1, ca1_2⟩) | (with_reducible exact ⟨cb0_0, cb0_1, cb0_2, cb1_0, cb1_1, cb1_2⟩) | (with_reducible exact ⟨cd0_0, cd0_1, cd0_2, cd1_0, cd1_1, cd1_2⟩))
    (first
    | (go_at_call 29; refine (bx.toPla a0 len0 cap0 r0 s0 y0 _ _ _ F63.out (by have l1 := F63.out.len; have q0 := LY0.out; omega)).mono ?_; rintro e w71 ⟨A68, m69, c70, rfl, ho, hb⟩; have F73 := Lib.hid ho; clear ho; have S75 := Lib.hid (hb.size); have B74 := Lib.hid (B60.out.trans (hb.mono B60.out.size)); clear B60; have F76 := Lib.hid (F62.out.below hb); clear F62; have F77 := Lib.hid (F63.out.below hb); clear F63; have F78 := Lib.hid (F64.out.below hb); clear F64; have F79 := Lib.hid (F65.out.below hb); clear F65; have F80 := Lib.hid (F66.out.below hb); clear F66; have F81 := Lib.hid (F67.out.below hb); clear F67; clear hb; have cb0_0 : w71.cell? ⟨w23.heap.size, 0, none⟩ = some (.slice A20 m21 c22) := F80.out.cell 0; have cb0_1 : w71.cell? ⟨w23.heap.size, 1, none⟩ = some (.int .i64 r0) := F80.out.cell 1; have cb0_2 : w71.cell? ⟨w23.heap.size, 2, none⟩ = some (.int .i64 s0) := F80.out.cell 2; have cb1_0 : w71.cell? ⟨w.heap.size, 0, none⟩ = some (.slice a0 len0 cap0) := F76.out.cell 0; have cb1_1 : w71.cell? ⟨w.heap.size, 1, none⟩ = some (.int .i64 r0) := F76.out.cell 1; have cb1_2 : w71.cell? ⟨w.heap.size, 2, none⟩ = some (.int .i64 s0) := F76.out.cell 2)
    | (go_at_call 30; refine (bx.eqPla A20 m21 c22 r0 s0 A68 m69 c70 y0 _ _ _ _ _ F79.out.rd F73.out.rd).mono ?_; rintro e w72 ⟨rfl, hb⟩; have S83 := Lib.hid (hb.size); have B82 := Lib.hid (B74.out.trans (hb.mono B74.out.size)); clear B74; have F84 := Lib.hid (F76.out.below hb); clear F76; have F85 := Lib.hid (F77.out.below hb); clear F77; have F86 := Lib.hid (F78.out.below hb); clear F78; have F87 := Lib.hid (F79.out.below hb); clear F79; have F88 := Lib.hid (F80.out.below hb); clear F80; have F89 := Lib.hid (F81.out.below hb); clear F81; clear hb; have cd0_0 : w72.cell? ⟨w23.heap.size, 0, none⟩ = some (.slice A20 m21 c22) := F88.out.cell 0; have cd0_1 : w72.cell? ⟨w23.heap.size, 1, none⟩ = some (.int .i64 r0) := F88.out.cell 1; have cd0_2 : w72.cell? ⟨w23.heap.size, 2, none⟩ = some (.int .i64 s0) := F88.out.cell 2; have cd1_0 : w72.cell? ⟨w.heap.size, 0, none⟩ = some (.slice a0 len0 cap0) := F84.out.cell 0; have cd1_1 : w72.cell? ⟨w.heap.size, 1, none⟩ = some (.int .i64 r0) := F84.out.cell 1; have cd1_2 : w72.cell? ⟨w.heap.size, 2, none⟩ = some (.int .i64 s0) := F84.out.cell 2))
  clear ca0_0 ca0_1 ca0_2 ca1_0 ca1_1 ca1_2 cb0_0 cb0_1 cb0_2 cb1_0 cb1_1 cb1_2 cd0_0 cd0_1 cd0_2 cd1_0 cd1_1 cd1_2
  have cc0_0 : w72.cell? ⟨w23.heap.size, 0, none⟩ = some (.slice A20 m21 c22) := F88.out.cell 0
  have cc0_1 : w72.cell? ⟨w23.heap.size, 1, none⟩ = some (.int .i64 r0) := F88.out.cell 1
  have cc0_2 : w72.cell? ⟨w23.heap.size, 2, none⟩ = some (.int .i64 s0) := F88.out.cell 2
  go_wp2_with fail
  clear cc0_0 cc0_1 cc0_2
  (with_reducible refine (bx.markPla A20 m21 c22 r0 s0 y0 _ _ 1 _ F87.out (by omega) (by  omega) (by have l1 := F87.out.len; have q0 := LY0.out; omega)).mono ?_)
  rintro e w90 ⟨rfl, ho, hb⟩
  have N91 := Lib.hid (show m21 ≤ 67108864 from (by have l1 := F87.out.len; have q0 := LY0.out; omega))
  have F92 := Lib.hid ho
  clear ho
  have S94 := Lib.hid (hb.size)
  have B93 := Lib.hid (B82.out.trans (hb.below (by have s0 := S00.out; have s1 := S01.out; have s2 := S7.out; have s3 := S16.out; have s4 := S26.out; have s5 := S31.out; have s6 := S33.out; have s7 := S45.out; have s8 := S53.out; have s9 := S61.out; have s10 := S75.out; have s11 := S83.out; omega) B82.out.size))
  clear B82
  have F95 := Lib.hid (F84.out.tch hb (by have s0 := S00.out; have s1 := S01.out; have s2 := S7.out; have s3 := S16.out; have s4 := S26.out; have s5 := S31.out; have s6 := S33.out; have s7 := S45.out; have s8 := S53.out; have s9 := S61.out; have s10 := S75.out; have s11 := S83.out; have s12 := S94.out; omega))
  clear F84
  have F96 := Lib.hid (F85.out.tch hb (by have s0 := S00.out; have s1 := S01.out; have s2 := S7.out; have s3 := S16.out; have s4 := S26.out; have s5 := S31.out; have s6 := S33.out; have s7 := S45.out; have s8 := S53.out; have s9 := S61.out; have s10 := S75.out; have s11 := S83.out; have s12 := S94.out; omega))
  clear F85
  have F97 := Lib.hid (F86.out.tch hb (by have s0 := S00.out; have s1 := S01.out; have s2 := S7.out; have s3 := S16.out; have s4 := S26.out; have s5 := S31.out; have s6 := S33.out; have s7 := S45.out; have s8 := S53.out; have s9 := S61.out; have s10 := S75.out; have s11 := S83.out; have s12 := S94.out; omega))
  clear F86
  have F98 := Lib.hid (F88.out.tch hb (by have s0 := S00.out; have s1 := S01.out; have s2 := S7.out; have s3 := S16.out; have s4 := S26.out; have s5 := S31.out; have s6 := S33.out; have s7 := S45.out; have s8 := S53.out; have s9 := S61.out; have s10 := S75.out; have s11 := S83.out; have s12 := S94.out; omega))
  clear F88
  have F99 := Lib.hid (F89.out.tch hb (by have s0 := S00.out; have s1 := S01.out; have s2 := S7.out; have s3 := S16.out; have s4 := S26.out; have s5 := S31.out; have s6 := S33.out; have s7 := S45.out; have s8 := S53.out; have s9 := S61.out; have s10 := S75.out; have s11 := S83.out; have s12 := S94.out; omega))
  clear F89
  clear hb
  clear F87
  clear F98
  clear F92
  go_wp2_with fail
  (with_reducible refine (harn.eqIntS_yes (nbs y0 r0 p y0.length) _ _ _ _ A39 A10 m40 c41 m11 c12 _ F99.out.rd F97.out.rd).mono ?_)
  rintro e w100 ⟨rfl, hb⟩
  have S102 := Lib.hid (hb.size)
  have B101 := Lib.hid (B93.out.trans (hb.mono B93.out.size))
  clear B93
  have F103 := Lib.hid (F95.out.below hb)
  clear F95
  have F104 := Lib.hid (F96.out.below hb)
  clear F96
  have F105 := Lib.hid (F97.out.below hb)
  clear F97
  have F106 := Lib.hid (F99.out.below hb)
  clear F99
  clear hb
  go_wp2_with fail
  (with_reducible refine (harn.markIntS (nbs y0 r0 p y0.length) _ _ A39 m40 c41 1 _ F106.out (by omega) (by have n0 := N91.out; omega) (by have l1 := F106.out.len; have u1 := nbs_len y0 r0 p y0.length; have u2 := LY0.out; omega)).mono ?_)
  rintro e w107 ⟨rfl, ho, hb⟩
  have N108 := Lib.hid (show m40 ≤ 67108864 from (by have l1 := F106.out.len; have u1 := nbs_len y0 r0 p y0.length; have u2 := LY0.out; omega))
  have F109 := Lib.hid ho
  clear ho
  have S111 := Lib.hid (hb.size)
  have B110 := Lib.hid (B101.out.trans (hb.below (by have s0 := S00.out; have s1 := S01.out; have s2 := S7.out; have s3 := S16.out; have s4 := S26.out; have s5 := S31.out; have s6 := S33.out; have s7 := S45.out; have s8 := S53.out; have s9 := S61.out; have s10 := S75.out; have s11 := S83.out; have s12 := S94.out; have s13 := S102.out; omega) B101.out.size))
  clear B101
  have F112 := Lib.hid (F103.out.tch hb (by have s0 := S00.out; have s1 := S01.out; have s2 := S7.out; have s3 := S16.out; have s4 := S26.out; have s5 := S31.out; have s6 := S33.out; have s7 := S45.out; have s8 := S53.out; have s9 := S61.out; have s10 := S75.out; have s11 := S83.out; have s12 := S94.out; have s13 := S102.out; have s14 := S111.out; omega))
  clear F103
  have F113 := Lib.hid (F104.out.tch hb (by have s0 := S00.out; have s1 := S01.out; have s2 := S7.out; have s3 := S16.out; have s4 := S26.out; have s5 := S31.out; have s6 := S33.out; have s7 := S45.out; have s8 := S53.out; have s9 := S61.out; have s10 := S75.out; have s11 := S83.out; have s12 := S94.out; have s13 := S102.out; have s14 := S111.out; omega))
  clear F104
  have F114 := Lib.hid (F105.out.tch hb (by have s0 := S00.out; have s1 := S01.out; have s2 := S7.out; have s3 := S16.out; have s4 := S26.out; have s5 := S31.out; have s6 := S33.out; have s7 := S45.out; have s8 := S53.out; have s9 := S61.out; have s10 := S75.out; have s11 := S83.out; have s12 := S94.out; have s13 := S102.out; have s14 := S111.out; omega))
  clear F105
  clear hb
  clear F106
  go_wp2_with fail
  (with_reducible refine (harn.heldIntS _ _ A39 m40 c41 1 _ F109.out.rd (by omega) (by have n0 := N91.out; have n1 := N108.out; omega) N108.out).mono ?_)
  rintro e w115 ⟨rfl, rfl⟩
  have cc0_0 : w107.cell? ⟨w.heap.size, 0, none⟩ = some (.slice a0 len0 cap0) := F112.out.cell 0
  have cc0_1 : w107.cell? ⟨w.heap.size, 1, none⟩ = some (.int .i64 r0) := F112.out.cell 1
  have cc0_2 : w107.cell? ⟨w.heap.size, 2, none⟩ = some (.int .i64 s0) := F112.out.cell 2
  go_wp2_with fail
  clear cc0_0 cc0_1 cc0_2
  (with_reducible refine (bx.toPla a0 len0 cap0 r0 s0 y0 _ _ _ F113.out (by have l1 := F113.out.len; have q0 := LY0.out; omega)).mono ?_)
  rintro e w119 ⟨A116, m117, c118, rfl, ho, hb⟩
  have F120 := Lib.hid ho
  clear ho
  have S122 := Lib.hid (hb.size)
  have B121 := Lib.hid (B110.out.trans (hb.mono B110.out.size))
  clear B110
  have F123 := Lib.hid (F112.out.below hb)
  clear F112
  have F124 := Lib.hid (F113.out.below hb)
  clear F113
  have F125 := Lib.hid (F114.out.below hb)
  clear F114
  have F126 := Lib.hid (F109.out.below hb)
  clear F109
  clear hb
  go_wp2_with fail
  (with_reducible refine (bx.implNb A116 m117 c118 r0 s0 y0 p _ _ _ F120.out.rd (by have l1 := F120.out.len; have q0 := LY0.out; omega)).mono ?_)
  rintro e w130 ⟨A127, m128, c129, rfl, ho, hb⟩
  have F131 := Lib.hid ho
  clear ho
  have S133 := Lib.hid (hb.size)
  have B132 := Lib.hid (B121.out.trans (hb.mono B121.out.size))
  clear B121
  have F134 := Lib.hid (F123.out.below hb)
  clear F123
  have F135 := Lib.hid (F124.out.below hb)
  clear F124
  have F136 := Lib.hid (F125.out.below hb)
  clear F125
  have F137 := Lib.hid (F126.out.below hb)
  clear F126
  have F138 := Lib.hid (F120.out.below hb)
  clear F120
  clear hb
  clear F138
  go_wp2_with fail
  (with_reducible refine (harn.eqIntS_yes (nbs y0 r0 p y0.length) _ _ _ _ A127 A10 m128 c129 m11 c12 _ F131.out.rd F136.out.rd).mono ?_)
  rintro e w139 ⟨rfl, hb⟩
  have S141 := Lib.hid (hb.size)
  have B140 := Lib.hid (B132.out.trans (hb.mono B132.out.size))
  clear B132
  have F142 := Lib.hid (F134.out.below hb)
  clear F134
  have F143 := Lib.hid (F135.out.below hb)
  clear F135
  have F144 := Lib.hid (F136.out.below hb)
  clear F136
  have F145 := Lib.hid (F137.out.below hb)
  clear F137
  have F146 := Lib.hid (F131.out.below hb)
  clear F131
  clear hb
  go_wp2_with fail
  (with_reducible refine (harn.heldIntS _ _ A39 m40 c41 1 _ F145.out.rd (by omega) (by have n0 := N91.out; have n1 := N108.out; omega) N108.out).mono ?_)
  rintro e w147 ⟨rfl, rfl⟩
  go_wp2_with fail
  go_ret
  exact ⟨rfl, B140.out⟩
end Go.Proofs.Ytichhbkgebimeaa.xExactNeighborsOf
