/- The law function of FnExactEqualFrames returns true and leaves what was there. Condition: the slices among the arguments are slices that came in. -/
import Derived.Test.YtnnlkkohbjolaaaFhr
import Derived.Test.YtnnlkkohbjolaaaEnd12
import Derived.Deep.RegionHeld3
namespace Go.Proofs.Ytnnlkkohbjolaaa.xExactEqualFrames
open Go.RowKit sl harn frm
set_option linter.unusedVariables false
set_option maxRecDepth 100000 in
set_option maxHeartbeats 4000000 in
theorem walk (k0 : Int) (wk0 : (Lit.int .i64 k0).wf = true) (f0 : Int) (wf0 : (Lit.int .i64 f0).wf = true) (t0 : Int) (wt0 : (Lit.int .i64 t0).wf = true) (s0 : Int) (ws0 : (Lit.int .i64 s0).wf = true) (g0 : Int) (wg0 : (Lit.int .i64 g0).wf = true) (m0 : Bool) (r0 : Bool) (d0 : Int) (wd0 : (Lit.int .i64 d0).wf = true) (a0 : Option Addr) (len0 cap0 : Nat) (z0 : List Int) (k1 : Int) (wk1 : (Lit.int .i64 k1).wf = true) (f1 : Int) (wf1 : (Lit.int .i64 f1).wf = true) (t1 : Int) (wt1 : (Lit.int .i64 t1).wf = true) (s1 : Int) (ws1 : (Lit.int .i64 s1).wf = true) (g1 : Int) (wg1 : (Lit.int .i64 g1).wf = true) (m1 : Bool) (r1 : Bool) (d1 : Int) (wd1 : (Lit.int .i64 d1).wf = true) (a1 : Option Addr) (len1 cap1 : Nat) (z1 : List Int) (w : World) (row0 : kit.IsRow .u8 w a0 len0 cap0 z0) (row1 : kit.IsRow .u8 w a1 len1 cap1 z1) :
    Calls Try.prog 10 #[.agg #[.int .i64 k0, .int .i64 f0, .int .i64 t0, .int .i64 s0, .int .i64 g0, .bool m0, .bool r0, .int .i64 d0, .slice a0 len0 cap0], .agg #[.int .i64 k1, .int .i64 f1, .int .i64 t1, .int .i64 s1, .int .i64 g1, .bool m1, .bool r1, .int .i64 d1, .slice a1 len1 cap1]] w fun e w' => e = .returned (.bool true) ∧ Below w.heap.size w w' := by
  obtain ⟨y0, hr0⟩ := Rd.of_row row0
  have R0 := Lib.hid hr0
  have hl0 : (len0 : Int) ≤ 9223372036854775807 := by have := hr0.cap_; omega
  clear row0 hr0
  have Wk0 := Lib.hid wk0
  have Wf0 := Lib.hid wf0
  have Wt0 := Lib.hid wt0
  have Ws0 := Lib.hid ws0
  have Wg0 := Lib.hid wg0
  have Wd0 := Lib.hid wd0
  clear wk0 wf0 wt0 ws0 wg0 wd0
  obtain ⟨y1, hr1⟩ := Rd.of_row row1
  have R1 := Lib.hid hr1
  have hl1 : (len1 : Int) ≤ 9223372036854775807 := by have := hr1.cap_; omega
  clear row1 hr1
  have Wk1 := Lib.hid wk1
  have Wf1 := Lib.hid wf1
  have Wt1 := Lib.hid wt1
  have Ws1 := Lib.hid ws1
  have Wg1 := Lib.hid wg1
  have Wd1 := Lib.hid wd1
  clear wk1 wf1 wt1 ws1 wg1 wd1
  go_enter Try.func10, Try.ntmps10
  go_wp2_with fail
  obtain ⟨W0, hW0⟩ : ∃ x, (w.alloc (.cells #[.int .i64 k0, .int .i64 f0, .int .i64 t0, .int .i64 s0, .int .i64 g0, .bool m0, .bool r0, .int .i64 d0, .slice a0 len0 cap0] 35)).alloc (.cells #[.int .i64 k1, .int .i64 f1, .int .i64 t1, .int .i64 s1, .int .i64 g1, .bool m1, .bool r1, .int .i64 d1, .slice a1 len1 cap1] 35) = x := ⟨_, rfl⟩
  rw [hW0]
  have hb0 : Below w.heap.size w W0 := by rw [← hW0]; exact fbx.below_box2 _ _ _
  have LB0 := Lib.hid (show fbx.Bx 35 W0 (w.heap.size) #[.int .i64 k0, .int .i64 f0, .int .i64 t0, .int .i64 s0, .int .i64 g0, .bool m0, .bool r0, .int .i64 d0, .slice a0 len0 cap0] by rw [← hW0]; exact (fbx.Bx.made _ _ _).below (fbx.below_box _ _))
  have LB1 := Lib.hid (show fbx.Bx 35 W0 (w.heap.size + 1) #[.int .i64 k1, .int .i64 f1, .int .i64 t1, .int .i64 s1, .int .i64 g1, .bool m1, .bool r1, .int .i64 d1, .slice a1 len1 cap1] by rw [← hW0]; have hh := fbx.Bx.made 35 (w.alloc (.cells #[.int .i64 k0, .int .i64 f0, .int .i64 t0, .int .i64 s0, .int .i64 g0, .bool m0, .bool r0, .int .i64 d0, .slice a0 len0 cap0] 35)) #[.int .i64 k1, .int .i64 f1, .int .i64 t1, .int .i64 s1, .int .i64 g1, .bool m1, .bool r1, .int .i64 d1, .slice a1 len1 cap1]; simpa using hh)
  have S00 := Lib.hid (show w.heap.size + 2 ≤ W0.heap.size by rw [← hW0]; simp)
  clear hW0
  by_cases hbig0 : 1048576 < (len0 : Int)
  · (with_reducible refine (fbx.sz_out k0 f0 t0 s0 g0 m0 r0 d0 a0 len0 cap0 1048576 (by omega) hl0 (by omega) _).mono ?_)
    rintro e w1 ⟨rfl, hb⟩
    go_wp2_with fail
    go_ret
    exact ⟨rfl, hb0.trans (hb.mono hb0.size)⟩
  (with_reducible refine (fbx.sz_in k0 f0 t0 s0 g0 m0 r0 d0 a0 len0 cap0 1048576 (by omega) hl0 (by omega) _).mono ?_)
  rintro e w1 ⟨rfl, hb⟩
  have hq0 : ¬ 1048576 - (len0 : Int) < 0 := by omega
  have hb1 : Below w.heap.size w w1 := hb0.trans (hb.mono hb0.size)
  have LB0 := Lib.hid (LB0.out.below hb)
  have LB1 := Lib.hid (LB1.out.below hb)
  have S01 := Lib.hid (hb.size)
  clear hb0
  have hb0 := hb1
  clear hb1 hb
  have bc0_0 : w1.cell? ⟨w.heap.size, 0, none⟩ = some (.int .i64 k0) := LB0.out.cell 0
  have bc0_1 : w1.cell? ⟨w.heap.size, 1, none⟩ = some (.int .i64 f0) := LB0.out.cell 1
  have bc0_2 : w1.cell? ⟨w.heap.size, 2, none⟩ = some (.int .i64 t0) := LB0.out.cell 2
  have bc0_3 : w1.cell? ⟨w.heap.size, 3, none⟩ = some (.int .i64 s0) := LB0.out.cell 3
  have bc0_4 : w1.cell? ⟨w.heap.size, 4, none⟩ = some (.int .i64 g0) := LB0.out.cell 4
  have bc0_5 : w1.cell? ⟨w.heap.size, 5, none⟩ = some (.bool m0) := LB0.out.cell 5
  have bc0_6 : w1.cell? ⟨w.heap.size, 6, none⟩ = some (.bool r0) := LB0.out.cell 6
  have bc0_7 : w1.cell? ⟨w.heap.size, 7, none⟩ = some (.int .i64 d0) := LB0.out.cell 7
  have bc0_8 : w1.cell? ⟨w.heap.size, 8, none⟩ = some (.slice a0 len0 cap0) := LB0.out.cell 8
  have bc1_0 : w1.cell? ⟨w.heap.size + 1, 0, none⟩ = some (.int .i64 k1) := LB1.out.cell 0
  have bc1_1 : w1.cell? ⟨w.heap.size + 1, 1, none⟩ = some (.int .i64 f1) := LB1.out.cell 1
  have bc1_2 : w1.cell? ⟨w.heap.size + 1, 2, none⟩ = some (.int .i64 t1) := LB1.out.cell 2
  have bc1_3 : w1.cell? ⟨w.heap.size + 1, 3, none⟩ = some (.int .i64 s1) := LB1.out.cell 3
  have bc1_4 : w1.cell? ⟨w.heap.size + 1, 4, none⟩ = some (.int .i64 g1) := LB1.out.cell 4
  have bc1_5 : w1.cell? ⟨w.heap.size + 1, 5, none⟩ = some (.bool m1) := LB1.out.cell 5
  have bc1_6 : w1.cell? ⟨w.heap.size + 1, 6, none⟩ = some (.bool r1) := LB1.out.cell 6
  have bc1_7 : w1.cell? ⟨w.heap.size + 1, 7, none⟩ = some (.int .i64 d1) := LB1.out.cell 7
  have bc1_8 : w1.cell? ⟨w.heap.size + 1, 8, none⟩ = some (.slice a1 len1 cap1) := LB1.out.cell 8
  go_wp2_with fail
  by_cases hbig1 : 1048576 - (len0 : Int) < (len1 : Int)
  · (with_reducible refine (fbx.sz_out k1 f1 t1 s1 g1 m1 r1 d1 a1 len1 cap1 (1048576 - (len0 : Int)) (by omega) hl1 (by omega) _).mono ?_)
    rintro e w2 ⟨rfl, hb⟩
    go_wp2_with fail
    go_ret
    exact ⟨rfl, hb0.trans (hb.mono hb0.size)⟩
  clear bc0_0 bc0_1 bc0_2 bc0_3 bc0_4 bc0_5 bc0_6 bc0_7 bc0_8 bc1_0 bc1_1 bc1_2 bc1_3 bc1_4 bc1_5 bc1_6 bc1_7 bc1_8
  (with_reducible refine (fbx.sz_in k1 f1 t1 s1 g1 m1 r1 d1 a1 len1 cap1 (1048576 - (len0 : Int)) (by omega) hl1 (by omega) _).mono ?_)
  rintro e w2 ⟨rfl, hb⟩
  have hq1 : ¬ 1048576 - (len0 : Int) - (len1 : Int) < 0 := by omega
  have hb1 : Below w.heap.size w w2 := hb0.trans (hb.mono hb0.size)
  have LB0 := Lib.hid (LB0.out.below hb)
  have LB1 := Lib.hid (LB1.out.below hb)
  have S02 := Lib.hid (hb.size)
  clear hb0
  have hb0 := hb1
  clear hb1 hb
  have LY0 : Hid (y0.length ≤ 1048576) := by have := R0.out.len; unfold Hid; omega
  have R0 := Lib.hid (R0.out.below hb0)
  have LY1 : Hid (y1.length ≤ 1048576) := by have := R1.out.len; unfold Hid; omega
  have R1 := Lib.hid (R1.out.below hb0)
  have B0 := Lib.hid hb0
  clear hb0
  obtain ⟨vb, hvb⟩ : ∃ vb, fbx.eqf ⟨k0, f0, t0, s0, g0, m0, r0, d0, y0⟩ ⟨k1, f1, t1, s1, g1, m1, r1, d1, y1⟩ = vb := ⟨_, rfl⟩
  have VB := Lib.hid hvb
  clear hvb
  have WN0 := Lib.hid (wf7 m0 r0 Wk0.out Wf0.out Wt0.out Ws0.out Wg0.out Wd0.out)
  have WN1 := Lib.hid (wf7 m1 r1 Wk1.out Wf1.out Wt1.out Ws1.out Wg1.out Wd1.out)
  have cc0_0 : w2.cell? ⟨w.heap.size, 0, none⟩ = some (.int .i64 k0) := LB0.out.cell 0
  have cc0_1 : w2.cell? ⟨w.heap.size, 1, none⟩ = some (.int .i64 f0) := LB0.out.cell 1
  have cc0_2 : w2.cell? ⟨w.heap.size, 2, none⟩ = some (.int .i64 t0) := LB0.out.cell 2
  have cc0_3 : w2.cell? ⟨w.heap.size, 3, none⟩ = some (.int .i64 s0) := LB0.out.cell 3
  have cc0_4 : w2.cell? ⟨w.heap.size, 4, none⟩ = some (.int .i64 g0) := LB0.out.cell 4
  have cc0_5 : w2.cell? ⟨w.heap.size, 5, none⟩ = some (.bool m0) := LB0.out.cell 5
  have cc0_6 : w2.cell? ⟨w.heap.size, 6, none⟩ = some (.bool r0) := LB0.out.cell 6
  have cc0_7 : w2.cell? ⟨w.heap.size, 7, none⟩ = some (.int .i64 d0) := LB0.out.cell 7
  have cc0_8 : w2.cell? ⟨w.heap.size, 8, none⟩ = some (.slice a0 len0 cap0) := LB0.out.cell 8
  have cc1_0 : w2.cell? ⟨(w.heap.size + 1), 0, none⟩ = some (.int .i64 k1) := LB1.out.cell 0
  have cc1_1 : w2.cell? ⟨(w.heap.size + 1), 1, none⟩ = some (.int .i64 f1) := LB1.out.cell 1
  have cc1_2 : w2.cell? ⟨(w.heap.size + 1), 2, none⟩ = some (.int .i64 t1) := LB1.out.cell 2
  have cc1_3 : w2.cell? ⟨(w.heap.size + 1), 3, none⟩ = some (.int .i64 s1) := LB1.out.cell 3
  have cc1_4 : w2.cell? ⟨(w.heap.size + 1), 4, none⟩ = some (.int .i64 g1) := LB1.out.cell 4
  have cc1_5 : w2.cell? ⟨(w.heap.size + 1), 5, none⟩ = some (.bool m1) := LB1.out.cell 5
  have cc1_6 : w2.cell? ⟨(w.heap.size + 1), 6, none⟩ = some (.bool r1) := LB1.out.cell 6
  have cc1_7 : w2.cell? ⟨(w.heap.size + 1), 7, none⟩ = some (.int .i64 d1) := LB1.out.cell 7
  have cc1_8 : w2.cell? ⟨(w.heap.size + 1), 8, none⟩ = some (.slice a1 len1 cap1) := LB1.out.cell 8
  go_wp2_with fail
  clear cc0_0 cc0_1 cc0_2 cc0_3 cc0_4 cc0_5 cc0_6 cc0_7 cc0_8 cc1_0 cc1_1 cc1_2 cc1_3 cc1_4 cc1_5 cc1_6 cc1_7 cc1_8
  have hbd : Below w2.heap.size w2 w2.drew := own.below_drew (Below.refl _ _)
  have S2 := Lib.hid (hbd.size)
  have B1 := Lib.hid (B0.out.trans (hbd.mono B0.out.size))
  clear B0
  have F3 := Lib.hid (LB0.out.below hbd)
  clear LB0
  have F4 := Lib.hid (R0.out.below hbd)
  clear R0
  have F5 := Lib.hid (LB1.out.below hbd)
  clear LB1
  have F6 := Lib.hid (R1.out.below hbd)
  clear R1
  clear hbd
  have ca0_0 : w2.drew.cell? ⟨w.heap.size, 0, none⟩ = some (.int .i64 k0) := F3.out.cell 0
  have ca0_1 : w2.drew.cell? ⟨w.heap.size, 1, none⟩ = some (.int .i64 f0) := F3.out.cell 1
  have ca0_2 : w2.drew.cell? ⟨w.heap.size, 2, none⟩ = some (.int .i64 t0) := F3.out.cell 2
  have ca0_3 : w2.drew.cell? ⟨w.heap.size, 3, none⟩ = some (.int .i64 s0) := F3.out.cell 3
  have ca0_4 : w2.drew.cell? ⟨w.heap.size, 4, none⟩ = some (.int .i64 g0) := F3.out.cell 4
  have ca0_5 : w2.drew.cell? ⟨w.heap.size, 5, none⟩ = some (.bool m0) := F3.out.cell 5
  have ca0_6 : w2.drew.cell? ⟨w.heap.size, 6, none⟩ = some (.bool r0) := F3.out.cell 6
  have ca0_7 : w2.drew.cell? ⟨w.heap.size, 7, none⟩ = some (.int .i64 d0) := F3.out.cell 7
  have ca0_8 : w2.drew.cell? ⟨w.heap.size, 8, none⟩ = some (.slice a0 len0 cap0) := F3.out.cell 8
  have ca1_0 : w2.drew.cell? ⟨(w.heap.size + 1), 0, none⟩ = some (.int .i64 k1) := F5.out.cell 0
  have ca1_1 : w2.drew.cell? ⟨(w.heap.size + 1), 1, none⟩ = some (.int .i64 f1) := F5.out.cell 1
  have ca1_2 : w2.drew.cell? ⟨(w.heap.size + 1), 2, none⟩ = some (.int .i64 t1) := F5.out.cell 2
  have ca1_3 : w2.drew.cell? ⟨(w.heap.size + 1), 3, none⟩ = some (.int .i64 s1) := F5.out.cell 3
  have ca1_4 : w2.drew.cell? ⟨(w.heap.size + 1), 4, none⟩ = some (.int .i64 g1) := F5.out.cell 4
  have ca1_5 : w2.drew.cell? ⟨(w.heap.size + 1), 5, none⟩ = some (.bool m1) := F5.out.cell 5
  have ca1_6 : w2.drew.cell? ⟨(w.heap.size + 1), 6, none⟩ = some (.bool r1) := F5.out.cell 6
  have ca1_7 : w2.drew.cell? ⟨(w.heap.size + 1), 7, none⟩ = some (.int .i64 d1) := F5.out.cell 7
  have ca1_8 : w2.drew.cell? ⟨(w.heap.size + 1), 8, none⟩ = some (.slice a1 len1 cap1) := F5.out.cell 8
  go_region_held3 (fun w' => w'.cell? ⟨w.heap.size, 0, none⟩ = some (.int .i64 k0) ∧ w'.cell? ⟨w.heap.size, 1, none⟩ = some (.int .i64 f0) ∧ w'.cell? ⟨w.heap.size, 2, none⟩ = some (.int .i64 t0) ∧ w'.cell? ⟨w.heap.size, 3, none⟩ = some (.int .i64 s0) ∧ w'.cell? ⟨w.heap.size, 4, none⟩ = some (.int .i64 g0) ∧ w'.cell? ⟨w.heap.size, 5, none⟩ = some (.bool m0) ∧ w'.cell? ⟨w.heap.size, 6, none⟩ = some (.bool r0) ∧ w'.cell? ⟨w.heap.size, 7, none⟩ = some (.int .i64 d0) ∧ w'.cell? ⟨w.heap.size, 8, none⟩ = some (.slice a0 len0 cap0) ∧ w'.cell? ⟨(w.heap.size + 1), 0, none⟩ = some (.int .i64 k1) ∧ w'.cell? ⟨(w.heap.size + 1), 1, none⟩ = some (.int .i64 f1) ∧ w'.cell? ⟨(w.heap.size + 1), 2, none⟩ = some (.int .i64 t1) ∧ w'.cell? ⟨(w.heap.size + 1), 3, none⟩ = some (.int .i64 s1) ∧ w'.cell? ⟨(w.heap.size + 1), 4, none⟩ = some (.int .i64 g1) ∧ w'.cell? ⟨(w.heap.size + 1), 5, none⟩ = some (.bool m1) ∧ w'.cell? ⟨(w.heap.size + 1), 6, none⟩ = some (.bool r1) ∧ w'.cell? ⟨(w.heap.size + 1), 7, none⟩ = some (.int .i64 d1) ∧ w'.cell? ⟨(w.heap.size + 1), 8, none⟩ = some (.slice a1 len1 cap1)) (first | (with_reducible exact ⟨ca0_0, ca0_1, ca0_2, ca0_3, ca0_4, ca0_5, ca0_6, ca0_7, ca0_8, ca1_0, ca1_1, ca1_2, ca1_3, ca1_4, ca1_5, ca1_6, ca1_7, ca1_8⟩) | (with_reducible exact ⟨cb0_0, cb0_1, cb0_2, cb0_3, cb0_4, cb0_5, cb0_6, cb0_7, cb0_8, cb1_0, cb1_1, cb1_2, cb1_3, cb1_4, cb1_5, cb1_6, cb1_7, cb1_8⟩) | (with_reducible exact ⟨ce0_0, ce0_1, ce0_2, ce0_3, ce0_4, ce0_5, ce0_6, ce0_7, ce0_8, ce1_0, ce1_1, ce1_2, ce1_3, ce1_4, ce1_5, ce1_6, ce1_7, ce1_8⟩) | (with_reducible exact ⟨cd0_0, cd0_1, cd0_2, cd0_3, cd0_4, cd0_5, cd0_6, cd0_7, cd0_8, cd1_0, cd1_1, cd1_2, cd1_3, cd1_4, cd1_5, cd1_6, cd1_7, cd1_8⟩))
    (first
    | (have g9 := cb0_0; clear g9; go_at_call 23; refine (fbx.toMac k1 f1 t1 s1 g1 m1 r1 d1 a1 len1 cap1 y1 _ _ _ F17.out (by have l1 := F17.out.len; have q1 := LY1.out; omega)).mono ?_; rintro e w21 ⟨A18, m19, c20, rfl, ho, hb⟩; have F22 := Lib.hid ho; clear ho; have S24 := Lib.hid (hb.size); have B23 := Lib.hid (B12.out.trans (hb.mono B12.out.size)); clear B12; have F25 := Lib.hid (F14.out.below hb); clear F14; have F26 := Lib.hid (F15.out.below hb); clear F15; have F27 := Lib.hid (F16.out.below hb); clear F16; have F28 := Lib.hid (F17.out.below hb); clear F17; have F29 := Lib.hid (F11.out.below hb); clear F11; clear hb; have ce0_0 : w21.cell? ⟨w.heap.size, 0, none⟩ = some (.int .i64 k0) := F25.out.cell 0; have ce0_1 : w21.cell? ⟨w.heap.size, 1, none⟩ = some (.int .i64 f0) := F25.out.cell 1; have ce0_2 : w21.cell? ⟨w.heap.size, 2, none⟩ = some (.int .i64 t0) := F25.out.cell 2; have ce0_3 : w21.cell? ⟨w.heap.size, 3, none⟩ = some (.int .i64 s0) := F25.out.cell 3; have ce0_4 : w21.cell? ⟨w.heap.size, 4, none⟩ = some (.int .i64 g0) := F25.out.cell 4; have ce0_5 : w21.cell? ⟨w.heap.size, 5, none⟩ = some (.bool m0) := F25.out.cell 5; have ce0_6 : w21.cell? ⟨w.heap.size, 6, none⟩ = some (.bool r0) := F25.out.cell 6; have ce0_7 : w21.cell? ⟨w.heap.size, 7, none⟩ = some (.int .i64 d0) := F25.out.cell 7; have ce0_8 : w21.cell? ⟨w.heap.size, 8, none⟩ = some (.slice a0 len0 cap0) := F25.out.cell 8; have ce1_0 : w21.cell? ⟨(w.heap.size + 1), 0, none⟩ = some (.int .i64 k1) := F27.out.cell 0; have ce1_1 : w21.cell? ⟨(w.heap.size + 1), 1, none⟩ = some (.int .i64 f1) := F27.out.cell 1; have ce1_2 : w21.cell? ⟨(w.heap.size + 1), 2, none⟩ = some (.int .i64 t1) := F27.out.cell 2; have ce1_3 : w21.cell? ⟨(w.heap.size + 1), 3, none⟩ = some (.int .i64 s1) := F27.out.cell 3; have ce1_4 : w21.cell? ⟨(w.heap.size + 1), 4, none⟩ = some (.int .i64 g1) := F27.out.cell 4; have ce1_5 : w21.cell? ⟨(w.heap.size + 1), 5, none⟩ = some (.bool m1) := F27.out.cell 5; have ce1_6 : w21.cell? ⟨(w.heap.size + 1), 6, none⟩ = some (.bool r1) := F27.out.cell 6; have ce1_7 : w21.cell? ⟨(w.heap.size + 1), 7, none⟩ = some (.int .i64 d1) := F27.out.cell 7; have ce1_8 : w21.cell? ⟨(w.heap.size + 1), 8, none⟩ = some (.slice a1 len1 cap1) := F27.out.cell 8)
    | (go_at_call 23; refine (fbx.toMac k0 f0 t0 s0 g0 m0 r0 d0 a0 len0 cap0 y0 _ _ _ F4.out (by have l1 := F4.out.len; have q0 := LY0.out; omega)).mono ?_; rintro e w10 ⟨A7, m8, c9, rfl, ho, hb⟩; have F11 := Lib.hid ho; clear ho; have S13 := Lib.hid (hb.size); have B12 := Lib.hid (B1.out.trans (hb.mono B1.out.size)); clear B1; have F14 := Lib.hid (F3.out.below hb); clear F3; have F15 := Lib.hid (F4.out.below hb); clear F4; have F16 := Lib.hid (F5.out.below hb); clear F5; have F17 := Lib.hid (F6.out.below hb); clear F6; clear hb; have cb0_0 : w10.cell? ⟨w.heap.size, 0, none⟩ = some (.int .i64 k0) := F14.out.cell 0; have cb0_1 : w10.cell? ⟨w.heap.size, 1, none⟩ = some (.int .i64 f0) := F14.out.cell 1; have cb0_2 : w10.cell? ⟨w.heap.size, 2, none⟩ = some (.int .i64 t0) := F14.out.cell 2; have cb0_3 : w10.cell? ⟨w.heap.size, 3, none⟩ = some (.int .i64 s0) := F14.out.cell 3; have cb0_4 : w10.cell? ⟨w.heap.size, 4, none⟩ = some (.int .i64 g0) := F14.out.cell 4; have cb0_5 : w10.cell? ⟨w.heap.size, 5, none⟩ = some (.bool m0) := F14.out.cell 5; have cb0_6 : w10.cell? ⟨w.heap.size, 6, none⟩ = some (.bool r0) := F14.out.cell 6; have cb0_7 : w10.cell? ⟨w.heap.size, 7, none⟩ = some (.int .i64 d0) := F14.out.cell 7; have cb0_8 : w10.cell? ⟨w.heap.size, 8, none⟩ = some (.slice a0 len0 cap0) := F14.out.cell 8; have cb1_0 : w10.cell? ⟨(w.heap.size + 1), 0, none⟩ = some (.int .i64 k1) := F16.out.cell 0; have cb1_1 : w10.cell? ⟨(w.heap.size + 1), 1, none⟩ = some (.int .i64 f1) := F16.out.cell 1; have cb1_2 : w10.cell? ⟨(w.heap.size + 1), 2, none⟩ = some (.int .i64 t1) := F16.out.cell 2; have cb1_3 : w10.cell? ⟨(w.heap.size + 1), 3, none⟩ = some (.int .i64 s1) := F16.out.cell 3; have cb1_4 : w10.cell? ⟨(w.heap.size + 1), 4, none⟩ = some (.int .i64 g1) := F16.out.cell 4; have cb1_5 : w10.cell? ⟨(w.heap.size + 1), 5, none⟩ = some (.bool m1) := F16.out.cell 5; have cb1_6 : w10.cell? ⟨(w.heap.size + 1), 6, none⟩ = some (.bool r1) := F16.out.cell 6; have cb1_7 : w10.cell? ⟨(w.heap.size + 1), 7, none⟩ = some (.int .i64 d1) := F16.out.cell 7; have cb1_8 : w10.cell? ⟨(w.heap.size + 1), 8, none⟩ = some (.slice a1 len1 cap1) := F16.out.cell 8)
    | (go_at_call 39; refine (fbx.specEqf k0 f0 t0 s0 g0 m0 r0 d0 A7 m8 c9 k1 f1 t1 s1 g1 m1 r1 d1 A18 m19 c20 y0 y1 _ _ _ _ _ F29.out.rd F22.out.rd).mono ?_; rw [VB.out]; rintro e w30 ⟨rfl, hb⟩; have S32 := Lib.hid (hb.size); have B31 := Lib.hid (B23.out.trans (hb.mono B23.out.size)); clear B23; have F33 := Lib.hid (F25.out.below hb); clear F25; have F34 := Lib.hid (F26.out.below hb); clear F26; have F35 := Lib.hid (F27.out.below hb); clear F27; have F36 := Lib.hid (F28.out.below hb); clear F28; clear hb; have cd0_0 : w30.cell? ⟨w.heap.size, 0, none⟩ = some (.int .i64 k0) := F33.out.cell 0; have cd0_1 : w30.cell? ⟨w.heap.size, 1, none⟩ = some (.int .i64 f0) := F33.out.cell 1; have cd0_2 : w30.cell? ⟨w.heap.size, 2, none⟩ = some (.int .i64 t0) := F33.out.cell 2; have cd0_3 : w30.cell? ⟨w.heap.size, 3, none⟩ = some (.int .i64 s0) := F33.out.cell 3; have cd0_4 : w30.cell? ⟨w.heap.size, 4, none⟩ = some (.int .i64 g0) := F33.out.cell 4; have cd0_5 : w30.cell? ⟨w.heap.size, 5, none⟩ = some (.bool m0) := F33.out.cell 5; have cd0_6 : w30.cell? ⟨w.heap.size, 6, none⟩ = some (.bool r0) := F33.out.cell 6; have cd0_7 : w30.cell? ⟨w.heap.size, 7, none⟩ = some (.int .i64 d0) := F33.out.cell 7; have cd0_8 : w30.cell? ⟨w.heap.size, 8, none⟩ = some (.slice a0 len0 cap0) := F33.out.cell 8; have cd1_0 : w30.cell? ⟨(w.heap.size + 1), 0, none⟩ = some (.int .i64 k1) := F35.out.cell 0; have cd1_1 : w30.cell? ⟨(w.heap.size + 1), 1, none⟩ = some (.int .i64 f1) := F35.out.cell 1; have cd1_2 : w30.cell? ⟨(w.heap.size + 1), 2, none⟩ = some (.int .i64 t1) := F35.out.cell 2; have cd1_3 : w30.cell? ⟨(w.heap.size + 1), 3, none⟩ = some (.int .i64 s1) := F35.out.cell 3; have cd1_4 : w30.cell? ⟨(w.heap.size + 1), 4, none⟩ = some (.int .i64 g1) := F35.out.cell 4; have cd1_5 : w30.cell? ⟨(w.heap.size + 1), 5, none⟩ = some (.bool m1) := F35.out.cell 5; have cd1_6 : w30.cell? ⟨(w.heap.size + 1), 6, none⟩ = some (.bool r1) := F35.out.cell 6; have cd1_7 : w30.cell? ⟨(w.heap.size + 1), 7, none⟩ = some (.int .i64 d1) := F35.out.cell 7; have cd1_8 : w30.cell? ⟨(w.heap.size + 1), 8, none⟩ = some (.slice a1 len1 cap1) := F35.out.cell 8))
  clear ca0_0 ca0_1 ca0_2 ca0_3 ca0_4 ca0_5 ca0_6 ca0_7 ca0_8 ca1_0 ca1_1 ca1_2 ca1_3 ca1_4 ca1_5 ca1_6 ca1_7 ca1_8 cb0_0 cb0_1 cb0_2 cb0_3 cb0_4 cb0_5 cb0_6 cb0_7 cb0_8 cb1_0 cb1_1 cb1_2 cb1_3 cb1_4 cb1_5 cb1_6 cb1_7 cb1_8 ce0_0 ce0_1 ce0_2 ce0_3 ce0_4 ce0_5 ce0_6 ce0_7 ce0_8 ce1_0 ce1_1 ce1_2 ce1_3 ce1_4 ce1_5 ce1_6 ce1_7 ce1_8 cd0_0 cd0_1 cd0_2 cd0_3 cd0_4 cd0_5 cd0_6 cd0_7 cd0_8 cd1_0 cd1_1 cd1_2 cd1_3 cd1_4 cd1_5 cd1_6 cd1_7 cd1_8
  have cc0_0 : w30.cell? ⟨w.heap.size, 0, none⟩ = some (.int .i64 k0) := F33.out.cell 0
  have cc0_1 : w30.cell? ⟨w.heap.size, 1, none⟩ = some (.int .i64 f0) := F33.out.cell 1
  have cc0_2 : w30.cell? ⟨w.heap.size, 2, none⟩ = some (.int .i64 t0) := F33.out.cell 2
  have cc0_3 : w30.cell? ⟨w.heap.size, 3, none⟩ = some (.int .i64 s0) := F33.out.cell 3
  have cc0_4 : w30.cell? ⟨w.heap.size, 4, none⟩ = some (.int .i64 g0) := F33.out.cell 4
  have cc0_5 : w30.cell? ⟨w.heap.size, 5, none⟩ = some (.bool m0) := F33.out.cell 5
  have cc0_6 : w30.cell? ⟨w.heap.size, 6, none⟩ = some (.bool r0) := F33.out.cell 6
  have cc0_7 : w30.cell? ⟨w.heap.size, 7, none⟩ = some (.int .i64 d0) := F33.out.cell 7
  have cc0_8 : w30.cell? ⟨w.heap.size, 8, none⟩ = some (.slice a0 len0 cap0) := F33.out.cell 8
  go_wp2_with fail
  clear cc0_0 cc0_1 cc0_2 cc0_3 cc0_4 cc0_5 cc0_6 cc0_7 cc0_8
  (with_reducible refine (fbx.toMac k0 f0 t0 s0 g0 m0 r0 d0 a0 len0 cap0 y0 _ _ _ F34.out (by have l1 := F34.out.len; have q0 := LY0.out; omega)).mono ?_)
  rintro e w40 ⟨A37, m38, c39, rfl, ho, hb⟩
  have F41 := Lib.hid ho
  clear ho
  have S43 := Lib.hid (hb.size)
  have B42 := Lib.hid (B31.out.trans (hb.mono B31.out.size))
  clear B31
  have F44 := Lib.hid (F33.out.below hb)
  clear F33
  have F45 := Lib.hid (F34.out.below hb)
  clear F34
  have F46 := Lib.hid (F35.out.below hb)
  clear F35
  have F47 := Lib.hid (F36.out.below hb)
  clear F36
  clear hb
  obtain ⟨V48, hV48⟩ : ∃ x, x = w40.alloc (.cells #[.int .i64 k0, .int .i64 f0, .int .i64 t0, .int .i64 s0, .int .i64 g0, .bool m0, .bool r0, .int .i64 d0, .slice A37 m38 c39] 25) := ⟨_, rfl⟩
  have hbV48 : Below w40.heap.size w40 V48 := by rw [hV48]; exact fbx.below_box _ _
  have S49 := Lib.hid (show w40.heap.size + 1 ≤ V48.heap.size by rw [hV48]; simp)
  have S51 := Lib.hid (hbV48.size)
  have B50 := Lib.hid (B42.out.trans (hbV48.mono B42.out.size))
  clear B42
  have F52 := Lib.hid (F44.out.below hbV48)
  clear F44
  have F53 := Lib.hid (F45.out.below hbV48)
  clear F45
  have F54 := Lib.hid (F46.out.below hbV48)
  clear F46
  have F55 := Lib.hid (F47.out.below hbV48)
  clear F47
  have F56 := Lib.hid (F41.out.below hbV48)
  clear F41
  have X57 := Lib.hid (show fbx.Bx 25 V48 w40.heap.size #[.int .i64 k0, .int .i64 f0, .int .i64 t0, .int .i64 s0, .int .i64 g0, .bool m0, .bool r0, .int .i64 d0, .slice A37 m38 c39] by rw [hV48]; exact fbx.Bx.made _ _ _)
  clear hbV48
  have cc0_0 : (w40.alloc (.cells #[.int .i64 k0, .int .i64 f0, .int .i64 t0, .int .i64 s0, .int .i64 g0, .bool m0, .bool r0, .int .i64 d0, .slice A37 m38 c39] 25)).cell? ⟨(w.heap.size + 1), 0, none⟩ = some (.int .i64 k1) := by rw [← hV48]; exact F54.out.cell 0
  have cc0_1 : (w40.alloc (.cells #[.int .i64 k0, .int .i64 f0, .int .i64 t0, .int .i64 s0, .int .i64 g0, .bool m0, .bool r0, .int .i64 d0, .slice A37 m38 c39] 25)).cell? ⟨(w.heap.size + 1), 1, none⟩ = some (.int .i64 f1) := by rw [← hV48]; exact F54.out.cell 1
  have cc0_2 : (w40.alloc (.cells #[.int .i64 k0, .int .i64 f0, .int .i64 t0, .int .i64 s0, .int .i64 g0, .bool m0, .bool r0, .int .i64 d0, .slice A37 m38 c39] 25)).cell? ⟨(w.heap.size + 1), 2, none⟩ = some (.int .i64 t1) := by rw [← hV48]; exact F54.out.cell 2
  have cc0_3 : (w40.alloc (.cells #[.int .i64 k0, .int .i64 f0, .int .i64 t0, .int .i64 s0, .int .i64 g0, .bool m0, .bool r0, .int .i64 d0, .slice A37 m38 c39] 25)).cell? ⟨(w.heap.size + 1), 3, none⟩ = some (.int .i64 s1) := by rw [← hV48]; exact F54.out.cell 3
  have cc0_4 : (w40.alloc (.cells #[.int .i64 k0, .int .i64 f0, .int .i64 t0, .int .i64 s0, .int .i64 g0, .bool m0, .bool r0, .int .i64 d0, .slice A37 m38 c39] 25)).cell? ⟨(w.heap.size + 1), 4, none⟩ = some (.int .i64 g1) := by rw [← hV48]; exact F54.out.cell 4
  have cc0_5 : (w40.alloc (.cells #[.int .i64 k0, .int .i64 f0, .int .i64 t0, .int .i64 s0, .int .i64 g0, .bool m0, .bool r0, .int .i64 d0, .slice A37 m38 c39] 25)).cell? ⟨(w.heap.size + 1), 5, none⟩ = some (.bool m1) := by rw [← hV48]; exact F54.out.cell 5
  have cc0_6 : (w40.alloc (.cells #[.int .i64 k0, .int .i64 f0, .int .i64 t0, .int .i64 s0, .int .i64 g0, .bool m0, .bool r0, .int .i64 d0, .slice A37 m38 c39] 25)).cell? ⟨(w.heap.size + 1), 6, none⟩ = some (.bool r1) := by rw [← hV48]; exact F54.out.cell 6
  have cc0_7 : (w40.alloc (.cells #[.int .i64 k0, .int .i64 f0, .int .i64 t0, .int .i64 s0, .int .i64 g0, .bool m0, .bool r0, .int .i64 d0, .slice A37 m38 c39] 25)).cell? ⟨(w.heap.size + 1), 7, none⟩ = some (.int .i64 d1) := by rw [← hV48]; exact F54.out.cell 7
  have cc0_8 : (w40.alloc (.cells #[.int .i64 k0, .int .i64 f0, .int .i64 t0, .int .i64 s0, .int .i64 g0, .bool m0, .bool r0, .int .i64 d0, .slice A37 m38 c39] 25)).cell? ⟨(w.heap.size + 1), 8, none⟩ = some (.slice a1 len1 cap1) := by rw [← hV48]; exact F54.out.cell 8
  go_wp2_with fail
  rw [← hV48]
  clear hV48 cc0_0 cc0_1 cc0_2 cc0_3 cc0_4 cc0_5 cc0_6 cc0_7 cc0_8
  (with_reducible refine (fbx.toMac k1 f1 t1 s1 g1 m1 r1 d1 a1 len1 cap1 y1 _ _ _ F55.out (by have l1 := F55.out.len; have q1 := LY1.out; omega)).mono ?_)
  rintro e w61 ⟨A58, m59, c60, rfl, ho, hb⟩
  have F62 := Lib.hid ho
  clear ho
  have S64 := Lib.hid (hb.size)
  have B63 := Lib.hid (B50.out.trans (hb.mono B50.out.size))
  clear B50
  have F65 := Lib.hid (F52.out.below hb)
  clear F52
  have F66 := Lib.hid (F53.out.below hb)
  clear F53
  have F67 := Lib.hid (F54.out.below hb)
  clear F54
  have F68 := Lib.hid (F55.out.below hb)
  clear F55
  have F69 := Lib.hid (F56.out.below hb)
  clear F56
  have F70 := Lib.hid (X57.out.below hb)
  clear X57
  clear hb
  obtain ⟨V71, hV71⟩ : ∃ x, x = w61.alloc (.cells #[.int .i64 k1, .int .i64 f1, .int .i64 t1, .int .i64 s1, .int .i64 g1, .bool m1, .bool r1, .int .i64 d1, .slice A58 m59 c60] 25) := ⟨_, rfl⟩
  have hbV71 : Below w61.heap.size w61 V71 := by rw [hV71]; exact fbx.below_box _ _
  have S72 := Lib.hid (show w61.heap.size + 1 ≤ V71.heap.size by rw [hV71]; simp)
  have S74 := Lib.hid (hbV71.size)
  have B73 := Lib.hid (B63.out.trans (hbV71.mono B63.out.size))
  clear B63
  have F75 := Lib.hid (F65.out.below hbV71)
  clear F65
  have F76 := Lib.hid (F66.out.below hbV71)
  clear F66
  have F77 := Lib.hid (F67.out.below hbV71)
  clear F67
  have F78 := Lib.hid (F68.out.below hbV71)
  clear F68
  have F79 := Lib.hid (F69.out.below hbV71)
  clear F69
  have F80 := Lib.hid (F70.out.below hbV71)
  clear F70
  have F81 := Lib.hid (F62.out.below hbV71)
  clear F62
  have X82 := Lib.hid (show fbx.Bx 25 V71 w61.heap.size #[.int .i64 k1, .int .i64 f1, .int .i64 t1, .int .i64 s1, .int .i64 g1, .bool m1, .bool r1, .int .i64 d1, .slice A58 m59 c60] by rw [hV71]; exact fbx.Bx.made _ _ _)
  clear hbV71
  have cc0_0 : (w61.alloc (.cells #[.int .i64 k1, .int .i64 f1, .int .i64 t1, .int .i64 s1, .int .i64 g1, .bool m1, .bool r1, .int .i64 d1, .slice A58 m59 c60] 25)).cell? ⟨w40.heap.size, 0, none⟩ = some (.int .i64 k0) := by rw [← hV71]; exact F80.out.cell 0
  have cc0_1 : (w61.alloc (.cells #[.int .i64 k1, .int .i64 f1, .int .i64 t1, .int .i64 s1, .int .i64 g1, .bool m1, .bool r1, .int .i64 d1, .slice A58 m59 c60] 25)).cell? ⟨w40.heap.size, 1, none⟩ = some (.int .i64 f0) := by rw [← hV71]; exact F80.out.cell 1
  have cc0_2 : (w61.alloc (.cells #[.int .i64 k1, .int .i64 f1, .int .i64 t1, .int .i64 s1, .int .i64 g1, .bool m1, .bool r1, .int .i64 d1, .slice A58 m59 c60] 25)).cell? ⟨w40.heap.size, 2, none⟩ = some (.int .i64 t0) := by rw [← hV71]; exact F80.out.cell 2
  have cc0_3 : (w61.alloc (.cells #[.int .i64 k1, .int .i64 f1, .int .i64 t1, .int .i64 s1, .int .i64 g1, .bool m1, .bool r1, .int .i64 d1, .slice A58 m59 c60] 25)).cell? ⟨w40.heap.size, 3, none⟩ = some (.int .i64 s0) := by rw [← hV71]; exact F80.out.cell 3
  have cc0_4 : (w61.alloc (.cells #[.int .i64 k1, .int .i64 f1, .int .i64 t1, .int .i64 s1, .int .i64 g1, .bool m1, .bool r1, .int .i64 d1, .slice A58 m59 c60] 25)).cell? ⟨w40.heap.size, 4, none⟩ = some (.int .i64 g0) := by rw [← hV71]; exact F80.out.cell 4
  have cc0_5 : (w61.alloc (.cells #[.int .i64 k1, .int .i64 f1, .int .i64 t1, .int .i64 s1, .int .i64 g1, .bool m1, .bool r1, .int .i64 d1, .slice A58 m59 c60] 25)).cell? ⟨w40.heap.size, 5, none⟩ = some (.bool m0) := by rw [← hV71]; exact F80.out.cell 5
  have cc0_6 : (w61.alloc (.cells #[.int .i64 k1, .int .i64 f1, .int .i64 t1, .int .i64 s1, .int .i64 g1, .bool m1, .bool r1, .int .i64 d1, .slice A58 m59 c60] 25)).cell? ⟨w40.heap.size, 6, none⟩ = some (.bool r0) := by rw [← hV71]; exact F80.out.cell 6
  have cc0_7 : (w61.alloc (.cells #[.int .i64 k1, .int .i64 f1, .int .i64 t1, .int .i64 s1, .int .i64 g1, .bool m1, .bool r1, .int .i64 d1, .slice A58 m59 c60] 25)).cell? ⟨w40.heap.size, 7, none⟩ = some (.int .i64 d0) := by rw [← hV71]; exact F80.out.cell 7
  have cc0_8 : (w61.alloc (.cells #[.int .i64 k1, .int .i64 f1, .int .i64 t1, .int .i64 s1, .int .i64 g1, .bool m1, .bool r1, .int .i64 d1, .slice A58 m59 c60] 25)).cell? ⟨w40.heap.size, 8, none⟩ = some (.slice A37 m38 c39) := by rw [← hV71]; exact F80.out.cell 8
  have cc1_0 : (w61.alloc (.cells #[.int .i64 k1, .int .i64 f1, .int .i64 t1, .int .i64 s1, .int .i64 g1, .bool m1, .bool r1, .int .i64 d1, .slice A58 m59 c60] 25)).cell? ⟨w61.heap.size, 0, none⟩ = some (.int .i64 k1) := by rw [← hV71]; exact X82.out.cell 0
  have cc1_1 : (w61.alloc (.cells #[.int .i64 k1, .int .i64 f1, .int .i64 t1, .int .i64 s1, .int .i64 g1, .bool m1, .bool r1, .int .i64 d1, .slice A58 m59 c60] 25)).cell? ⟨w61.heap.size, 1, none⟩ = some (.int .i64 f1) := by rw [← hV71]; exact X82.out.cell 1
  have cc1_2 : (w61.alloc (.cells #[.int .i64 k1, .int .i64 f1, .int .i64 t1, .int .i64 s1, .int .i64 g1, .bool m1, .bool r1, .int .i64 d1, .slice A58 m59 c60] 25)).cell? ⟨w61.heap.size, 2, none⟩ = some (.int .i64 t1) := by rw [← hV71]; exact X82.out.cell 2
  have cc1_3 : (w61.alloc (.cells #[.int .i64 k1, .int .i64 f1, .int .i64 t1, .int .i64 s1, .int .i64 g1, .bool m1, .bool r1, .int .i64 d1, .slice A58 m59 c60] 25)).cell? ⟨w61.heap.size, 3, none⟩ = some (.int .i64 s1) := by rw [← hV71]; exact X82.out.cell 3
  have cc1_4 : (w61.alloc (.cells #[.int .i64 k1, .int .i64 f1, .int .i64 t1, .int .i64 s1, .int .i64 g1, .bool m1, .bool r1, .int .i64 d1, .slice A58 m59 c60] 25)).cell? ⟨w61.heap.size, 4, none⟩ = some (.int .i64 g1) := by rw [← hV71]; exact X82.out.cell 4
  have cc1_5 : (w61.alloc (.cells #[.int .i64 k1, .int .i64 f1, .int .i64 t1, .int .i64 s1, .int .i64 g1, .bool m1, .bool r1, .int .i64 d1, .slice A58 m59 c60] 25)).cell? ⟨w61.heap.size, 5, none⟩ = some (.bool m1) := by rw [← hV71]; exact X82.out.cell 5
  have cc1_6 : (w61.alloc (.cells #[.int .i64 k1, .int .i64 f1, .int .i64 t1, .int .i64 s1, .int .i64 g1, .bool m1, .bool r1, .int .i64 d1, .slice A58 m59 c60] 25)).cell? ⟨w61.heap.size, 6, none⟩ = some (.bool r1) := by rw [← hV71]; exact X82.out.cell 6
  have cc1_7 : (w61.alloc (.cells #[.int .i64 k1, .int .i64 f1, .int .i64 t1, .int .i64 s1, .int .i64 g1, .bool m1, .bool r1, .int .i64 d1, .slice A58 m59 c60] 25)).cell? ⟨w61.heap.size, 7, none⟩ = some (.int .i64 d1) := by rw [← hV71]; exact X82.out.cell 7
  have cc1_8 : (w61.alloc (.cells #[.int .i64 k1, .int .i64 f1, .int .i64 t1, .int .i64 s1, .int .i64 g1, .bool m1, .bool r1, .int .i64 d1, .slice A58 m59 c60] 25)).cell? ⟨w61.heap.size, 8, none⟩ = some (.slice A58 m59 c60) := by rw [← hV71]; exact X82.out.cell 8
  go_wp2_with fail
  rw [← hV71]
  clear hV71 cc0_0 cc0_1 cc0_2 cc0_3 cc0_4 cc0_5 cc0_6 cc0_7 cc0_8 cc1_0 cc1_1 cc1_2 cc1_3 cc1_4 cc1_5 cc1_6 cc1_7 cc1_8
  (with_reducible refine (fbx.implEqf k0 f0 t0 s0 g0 m0 r0 d0 A37 m38 c39 k1 f1 t1 s1 g1 m1 r1 d1 A58 m59 c60 y0 y1 _ _ _ _ _ WN0.out WN1.out F79.out.rd F81.out.rd).mono ?_)
  rw [VB.out]
  rintro e w83 ⟨rfl, hb⟩
  have S85 := Lib.hid (hb.size)
  have B84 := Lib.hid (B73.out.trans (hb.mono B73.out.size))
  clear B73
  have F86 := Lib.hid (F75.out.below hb)
  clear F75
  have F87 := Lib.hid (F76.out.below hb)
  clear F76
  have F88 := Lib.hid (F77.out.below hb)
  clear F77
  have F89 := Lib.hid (F78.out.below hb)
  clear F78
  have F90 := Lib.hid (F79.out.below hb)
  clear F79
  have F91 := Lib.hid (F80.out.below hb)
  clear F80
  have F92 := Lib.hid (F81.out.below hb)
  clear F81
  have F93 := Lib.hid (X82.out.below hb)
  clear X82
  clear hb
  go_wp2_with fail
  have hbd : Below w83.heap.size w83 w83.drew := own.below_drew (Below.refl _ _)
  have S95 := Lib.hid (hbd.size)
  have B94 := Lib.hid (B84.out.trans (hbd.mono B84.out.size))
  clear B84
  have F96 := Lib.hid (F86.out.below hbd)
  clear F86
  have F97 := Lib.hid (F87.out.below hbd)
  clear F87
  have F98 := Lib.hid (F88.out.below hbd)
  clear F88
  have F99 := Lib.hid (F89.out.below hbd)
  clear F89
  have F100 := Lib.hid (F90.out.below hbd)
  clear F90
  have F101 := Lib.hid (F91.out.below hbd)
  clear F91
  have F102 := Lib.hid (F92.out.below hbd)
  clear F92
  have F103 := Lib.hid (F93.out.below hbd)
  clear F93
  clear hbd
  have ca0_0 : w83.drew.cell? ⟨w40.heap.size, 0, none⟩ = some (.int .i64 k0) := F101.out.cell 0
  have ca0_1 : w83.drew.cell? ⟨w40.heap.size, 1, none⟩ = some (.int .i64 f0) := F101.out.cell 1
  have ca0_2 : w83.drew.cell? ⟨w40.heap.size, 2, none⟩ = some (.int .i64 t0) := F101.out.cell 2
  have ca0_3 : w83.drew.cell? ⟨w40.heap.size, 3, none⟩ = some (.int .i64 s0) := F101.out.cell 3
  have ca0_4 : w83.drew.cell? ⟨w40.heap.size, 4, none⟩ = some (.int .i64 g0) := F101.out.cell 4
  have ca0_5 : w83.drew.cell? ⟨w40.heap.size, 5, none⟩ = some (.bool m0) := F101.out.cell 5
  have ca0_6 : w83.drew.cell? ⟨w40.heap.size, 6, none⟩ = some (.bool r0) := F101.out.cell 6
  have ca0_7 : w83.drew.cell? ⟨w40.heap.size, 7, none⟩ = some (.int .i64 d0) := F101.out.cell 7
  have ca0_8 : w83.drew.cell? ⟨w40.heap.size, 8, none⟩ = some (.slice A37 m38 c39) := F101.out.cell 8
  have ca1_0 : w83.drew.cell? ⟨w.heap.size, 0, none⟩ = some (.int .i64 k0) := F96.out.cell 0
  have ca1_1 : w83.drew.cell? ⟨w.heap.size, 1, none⟩ = some (.int .i64 f0) := F96.out.cell 1
  have ca1_2 : w83.drew.cell? ⟨w.heap.size, 2, none⟩ = some (.int .i64 t0) := F96.out.cell 2
  have ca1_3 : w83.drew.cell? ⟨w.heap.size, 3, none⟩ = some (.int .i64 s0) := F96.out.cell 3
  have ca1_4 : w83.drew.cell? ⟨w.heap.size, 4, none⟩ = some (.int .i64 g0) := F96.out.cell 4
  have ca1_5 : w83.drew.cell? ⟨w.heap.size, 5, none⟩ = some (.bool m0) := F96.out.cell 5
  have ca1_6 : w83.drew.cell? ⟨w.heap.size, 6, none⟩ = some (.bool r0) := F96.out.cell 6
  have ca1_7 : w83.drew.cell? ⟨w.heap.size, 7, none⟩ = some (.int .i64 d0) := F96.out.cell 7
  have ca1_8 : w83.drew.cell? ⟨w.heap.size, 8, none⟩ = some (.slice a0 len0 cap0) := F96.out.cell 8
  go_region_held3 (fun w' => w'.cell? ⟨w40.heap.size, 0, none⟩ = some (.int .i64 k0) ∧ w'.cell? ⟨w40.heap.size, 1, none⟩ = some (.int .i64 f0) ∧ w'.cell? ⟨w40.heap.size, 2, none⟩ = some (.int .i64 t0) ∧ w'.cell? ⟨w40.heap.size, 3, none⟩ = some (.int .i64 s0) ∧ w'.cell? ⟨w40.heap.size, 4, none⟩ = some (.int .i64 g0) ∧ w'.cell? ⟨w40.heap.size, 5, none⟩ = some (.bool m0) ∧ w'.cell? ⟨w40.heap.size, 6, none⟩ = some (.bool r0) ∧ w'.cell? ⟨w40.heap.size, 7, none⟩ = some (.int .i64 d0) ∧ w'.cell? ⟨w40.heap.size, 8, none⟩ = some (.slice A37 m38 c39) ∧ w'.cell? ⟨w.heap.size, 0, none⟩ = some (.int .i64 k0) ∧ w'.cell? ⟨w.heap.size, 1, none⟩ = some (.int .i64 f0) ∧ w'.cell? ⟨w.heap.size, 2, none⟩ = some (.int .i64 t0) ∧ w'.cell? ⟨w.heap.size, 3, none⟩ = some (.int .i64 s0) ∧ w'.cell? ⟨w.heap.size, 4, none⟩ = some (.int .i64 g0) ∧ w'.cell? ⟨w.heap.size, 5, none⟩ = some (.bool m0) ∧ w'.cell? ⟨w.heap.size, 6, none⟩ = some (.bool r0) ∧ w'.cell? ⟨w.heap.size, 7, none⟩ = some (.int .i64 d0) ∧ w'.cell? ⟨w.heap.size, 8, none⟩ = some (.slice a0 len0 cap0)) (first | (with_reducible exact ⟨ca0_0, ca0_1, ca0_2, ca0_3, ca0_4, ca0_5, ca0_6, ca0_7, ca0_8, ca1_0, ca1_1, ca1_2, ca1_3, ca1_4, ca1_5, ca1_6, ca1_7, ca1_8⟩) | (with_reducible exact ⟨cb0_0, cb0_1, cb0_2, cb0_3, cb0_4, cb0_5, cb0_6, cb0_7, cb0_8, cb1_0, cb1_1, cb1_2, cb1_3, cb1_4, cb1_5, cb1_6, cb1_7, cb1_8⟩) | (with_reducible exact ⟨cd0_0, cd0_1, cd0_2, cd0_3, cd0_4, cd0_5, cd0_6, cd0_7, cd0_8, cd1_0, cd1_1, cd1_2, cd1_3, cd1_4, cd1_5, cd1_6, cd1_7, cd1_8⟩))
    (first
    | (go_at_call 23; refine (fbx.toMac k0 f0 t0 s0 g0 m0 r0 d0 a0 len0 cap0 y0 _ _ _ F97.out (by have l1 := F97.out.len; have q0 := LY0.out; omega)).mono ?_; rintro e w107 ⟨A104, m105, c106, rfl, ho, hb⟩; have F109 := Lib.hid ho; clear ho; have S111 := Lib.hid (hb.size); have B110 := Lib.hid (B94.out.trans (hb.mono B94.out.size)); clear B94; have F112 := Lib.hid (F96.out.below hb); clear F96; have F113 := Lib.hid (F97.out.below hb); clear F97; have F114 := Lib.hid (F98.out.below hb); clear F98; have F115 := Lib.hid (F99.out.below hb); clear F99; have F116 := Lib.hid (F100.out.below hb); clear F100; have F117 := Lib.hid (F101.out.below hb); clear F101; have F118 := Lib.hid (F102.out.below hb); clear F102; have F119 := Lib.hid (F103.out.below hb); clear F103; clear hb; have cb0_0 : w107.cell? ⟨w40.heap.size, 0, none⟩ = some (.int .i64 k0) := F117.out.cell 0; have cb0_1 : w107.cell? ⟨w40.heap.size, 1, none⟩ = some (.int .i64 f0) := F117.out.cell 1; have cb0_2 : w107.cell? ⟨w40.heap.size, 2, none⟩ = some (.int .i64 t0) := F117.out.cell 2; have cb0_3 : w107.cell? ⟨w40.heap.size, 3, none⟩ = some (.int .i64 s0) := F117.out.cell 3; have cb0_4 : w107.cell? ⟨w40.heap.size, 4, none⟩ = some (.int .i64 g0) := F117.out.cell 4; have cb0_5 : w107.cell? ⟨w40.heap.size, 5, none⟩ = some (.bool m0) := F117.out.cell 5; have cb0_6 : w107.cell? ⟨w40.heap.size, 6, none⟩ = some (.bool r0) := F117.out.cell 6; have cb0_7 : w107.cell? ⟨w40.heap.size, 7, none⟩ = some (.int .i64 d0) := F117.out.cell 7; have cb0_8 : w107.cell? ⟨w40.heap.size, 8, none⟩ = some (.slice A37 m38 c39) := F117.out.cell 8; have cb1_0 : w107.cell? ⟨w.heap.size, 0, none⟩ = some (.int .i64 k0) := F112.out.cell 0; have cb1_1 : w107.cell? ⟨w.heap.size, 1, none⟩ = some (.int .i64 f0) := F112.out.cell 1; have cb1_2 : w107.cell? ⟨w.heap.size, 2, none⟩ = some (.int .i64 t0) := F112.out.cell 2; have cb1_3 : w107.cell? ⟨w.heap.size, 3, none⟩ = some (.int .i64 s0) := F112.out.cell 3; have cb1_4 : w107.cell? ⟨w.heap.size, 4, none⟩ = some (.int .i64 g0) := F112.out.cell 4; have cb1_5 : w107.cell? ⟨w.heap.size, 5, none⟩ = some (.bool m0) := F112.out.cell 5; have cb1_6 : w107.cell? ⟨w.heap.size, 6, none⟩ = some (.bool r0) := F112.out.cell 6; have cb1_7 : w107.cell? ⟨w.heap.size, 7, none⟩ = some (.int .i64 d0) := F112.out.cell 7; have cb1_8 : w107.cell? ⟨w.heap.size, 8, none⟩ = some (.slice a0 len0 cap0) := F112.out.cell 8)
    | (go_at_call 25; refine (fbx.eqMac k0 f0 t0 s0 g0 m0 r0 d0 A37 m38 c39 A104 m105 c106 y0 _ _ _ _ _ F116.out.rd F109.out.rd).mono ?_; rintro e w108 ⟨rfl, hb⟩; have S121 := Lib.hid (hb.size); have B120 := Lib.hid (B110.out.trans (hb.mono B110.out.size)); clear B110; have F122 := Lib.hid (F112.out.below hb); clear F112; have F123 := Lib.hid (F113.out.below hb); clear F113; have F124 := Lib.hid (F114.out.below hb); clear F114; have F125 := Lib.hid (F115.out.below hb); clear F115; have F126 := Lib.hid (F116.out.below hb); clear F116; have F127 := Lib.hid (F117.out.below hb); clear F117; have F128 := Lib.hid (F118.out.below hb); clear F118; have F129 := Lib.hid (F119.out.below hb); clear F119; clear hb; have cd0_0 : w108.cell? ⟨w40.heap.size, 0, none⟩ = some (.int .i64 k0) := F127.out.cell 0; have cd0_1 : w108.cell? ⟨w40.heap.size, 1, none⟩ = some (.int .i64 f0) := F127.out.cell 1; have cd0_2 : w108.cell? ⟨w40.heap.size, 2, none⟩ = some (.int .i64 t0) := F127.out.cell 2; have cd0_3 : w108.cell? ⟨w40.heap.size, 3, none⟩ = some (.int .i64 s0) := F127.out.cell 3; have cd0_4 : w108.cell? ⟨w40.heap.size, 4, none⟩ = some (.int .i64 g0) := F127.out.cell 4; have cd0_5 : w108.cell? ⟨w40.heap.size, 5, none⟩ = some (.bool m0) := F127.out.cell 5; have cd0_6 : w108.cell? ⟨w40.heap.size, 6, none⟩ = some (.bool r0) := F127.out.cell 6; have cd0_7 : w108.cell? ⟨w40.heap.size, 7, none⟩ = some (.int .i64 d0) := F127.out.cell 7; have cd0_8 : w108.cell? ⟨w40.heap.size, 8, none⟩ = some (.slice A37 m38 c39) := F127.out.cell 8; have cd1_0 : w108.cell? ⟨w.heap.size, 0, none⟩ = some (.int .i64 k0) := F122.out.cell 0; have cd1_1 : w108.cell? ⟨w.heap.size, 1, none⟩ = some (.int .i64 f0) := F122.out.cell 1; have cd1_2 : w108.cell? ⟨w.heap.size, 2, none⟩ = some (.int .i64 t0) := F122.out.cell 2; have cd1_3 : w108.cell? ⟨w.heap.size, 3, none⟩ = some (.int .i64 s0) := F122.out.cell 3; have cd1_4 : w108.cell? ⟨w.heap.size, 4, none⟩ = some (.int .i64 g0) := F122.out.cell 4; have cd1_5 : w108.cell? ⟨w.heap.size, 5, none⟩ = some (.bool m0) := F122.out.cell 5; have cd1_6 : w108.cell? ⟨w.heap.size, 6, none⟩ = some (.bool r0) := F122.out.cell 6; have cd1_7 : w108.cell? ⟨w.heap.size, 7, none⟩ = some (.int .i64 d0) := F122.out.cell 7; have cd1_8 : w108.cell? ⟨w.heap.size, 8, none⟩ = some (.slice a0 len0 cap0) := F122.out.cell 8))
  clear ca0_0 ca0_1 ca0_2 ca0_3 ca0_4 ca0_5 ca0_6 ca0_7 ca0_8 ca1_0 ca1_1 ca1_2 ca1_3 ca1_4 ca1_5 ca1_6 ca1_7 ca1_8 cb0_0 cb0_1 cb0_2 cb0_3 cb0_4 cb0_5 cb0_6 cb0_7 cb0_8 cb1_0 cb1_1 cb1_2 cb1_3 cb1_4 cb1_5 cb1_6 cb1_7 cb1_8 cd0_0 cd0_1 cd0_2 cd0_3 cd0_4 cd0_5 cd0_6 cd0_7 cd0_8 cd1_0 cd1_1 cd1_2 cd1_3 cd1_4 cd1_5 cd1_6 cd1_7 cd1_8
  clear F127
  clear F126
  go_wp2_with fail
  have hbd : Below w108.heap.size w108 w108.drew := own.below_drew (Below.refl _ _)
  have S131 := Lib.hid (hbd.size)
  have B130 := Lib.hid (B120.out.trans (hbd.mono B120.out.size))
  clear B120
  have F132 := Lib.hid (F122.out.below hbd)
  clear F122
  have F133 := Lib.hid (F123.out.below hbd)
  clear F123
  have F134 := Lib.hid (F124.out.below hbd)
  clear F124
  have F135 := Lib.hid (F125.out.below hbd)
  clear F125
  have F136 := Lib.hid (F128.out.below hbd)
  clear F128
  have F137 := Lib.hid (F129.out.below hbd)
  clear F129
  clear hbd
  have ca0_0 : w108.drew.cell? ⟨w61.heap.size, 0, none⟩ = some (.int .i64 k1) := F137.out.cell 0
  have ca0_1 : w108.drew.cell? ⟨w61.heap.size, 1, none⟩ = some (.int .i64 f1) := F137.out.cell 1
  have ca0_2 : w108.drew.cell? ⟨w61.heap.size, 2, none⟩ = some (.int .i64 t1) := F137.out.cell 2
  have ca0_3 : w108.drew.cell? ⟨w61.heap.size, 3, none⟩ = some (.int .i64 s1) := F137.out.cell 3
  have ca0_4 : w108.drew.cell? ⟨w61.heap.size, 4, none⟩ = some (.int .i64 g1) := F137.out.cell 4
  have ca0_5 : w108.drew.cell? ⟨w61.heap.size, 5, none⟩ = some (.bool m1) := F137.out.cell 5
  have ca0_6 : w108.drew.cell? ⟨w61.heap.size, 6, none⟩ = some (.bool r1) := F137.out.cell 6
  have ca0_7 : w108.drew.cell? ⟨w61.heap.size, 7, none⟩ = some (.int .i64 d1) := F137.out.cell 7
  have ca0_8 : w108.drew.cell? ⟨w61.heap.size, 8, none⟩ = some (.slice A58 m59 c60) := F137.out.cell 8
  have ca1_0 : w108.drew.cell? ⟨(w.heap.size + 1), 0, none⟩ = some (.int .i64 k1) := F134.out.cell 0
  have ca1_1 : w108.drew.cell? ⟨(w.heap.size + 1), 1, none⟩ = some (.int .i64 f1) := F134.out.cell 1
  have ca1_2 : w108.drew.cell? ⟨(w.heap.size + 1), 2, none⟩ = some (.int .i64 t1) := F134.out.cell 2
  have ca1_3 : w108.drew.cell? ⟨(w.heap.size + 1), 3, none⟩ = some (.int .i64 s1) := F134.out.cell 3
  have ca1_4 : w108.drew.cell? ⟨(w.heap.size + 1), 4, none⟩ = some (.int .i64 g1) := F134.out.cell 4
  have ca1_5 : w108.drew.cell? ⟨(w.heap.size + 1), 5, none⟩ = some (.bool m1) := F134.out.cell 5
  have ca1_6 : w108.drew.cell? ⟨(w.heap.size + 1), 6, none⟩ = some (.bool r1) := F134.out.cell 6
  have ca1_7 : w108.drew.cell? ⟨(w.heap.size + 1), 7, none⟩ = some (.int .i64 d1) := F134.out.cell 7
  have ca1_8 : w108.drew.cell? ⟨(w.heap.size + 1), 8, none⟩ = some (.slice a1 len1 cap1) := F134.out.cell 8
  go_region_held3 (fun w' => w'.cell? ⟨w61.heap.size, 0, none⟩ = some (.int .i64 k1) ∧ w'.cell? ⟨w61.heap.size, 1, none⟩ = some (.int .i64 f1) ∧ w'.cell? ⟨w61.heap.size, 2, none⟩ = some (.int .i64 t1) ∧ w'.cell? ⟨w61.heap.size, 3, none⟩ = some (.int .i64 s1) ∧ w'.cell? ⟨w61.heap.size, 4, none⟩ = some (.int .i64 g1) ∧ w'.cell? ⟨w61.heap.size, 5, none⟩ = some (.bool m1) ∧ w'.cell? ⟨w61.heap.size, 6, none⟩ = some (.bool r1) ∧ w'.cell? ⟨w61.heap.size, 7, none⟩ = some (.int .i64 d1) ∧ w'.cell? ⟨w61.heap.size, 8, none⟩ = some (.slice A58 m59 c60) ∧ w'.cell? ⟨(w.heap.size + 1), 0, none⟩ = some (.int .i64 k1) ∧ w'.cell? ⟨(w.heap.size + 1), 1, none⟩ = some (.int .i64 f1) ∧ w'.cell? ⟨(w.heap.size + 1), 2, none⟩ = some (.int .i64 t1) ∧ w'.cell? ⟨(w.heap.size + 1), 3, none⟩ = some (.int .i64 s1) ∧ w'.cell? ⟨(w.heap.size + 1), 4, none⟩ = some (.int .i64 g1) ∧ w'.cell? ⟨(w.heap.size + 1), 5, none⟩ = some (.bool m1) ∧ w'.cell? ⟨(w.heap.size + 1), 6, none⟩ = some (.bool r1) ∧ w'.cell? ⟨(w.heap.size + 1), 7, none⟩ = some (.int .i64 d1) ∧ w'.cell? ⟨(w.heap.size + 1), 8, none⟩ = some (.slice a1 len1 cap1)) (first | (with_reducible exact ⟨ca0_0, ca0_1, ca0_2, ca0_3, ca0_4, ca0_5, ca0_6, ca0_7, ca0_8, ca1_0, ca1_1, ca1_2, ca1_3, ca1_4, ca1_5, ca1_6, ca1_7, ca1_8⟩) | (with_reducible exact ⟨cb0_0, cb0_1, cb0_2, cb0_3, cb0_4, cb0_5, cb0_6, cb0_7, cb0_8, cb1_0, cb1_1, cb1_2, cb1_3, cb1_4, cb1_5, cb1_6, cb1_7, cb1_8⟩) | (with_reducible exact ⟨cd0_0, cd0_1, cd0_2, cd0_3, cd0_4, cd0_5, cd0_6, cd0_7, cd0_8, cd1_0, cd1_1, cd1_2, cd1_3, cd1_4, cd1_5, cd1_6, cd1_7, cd1_8⟩))
    (first
    | (go_at_call 23; refine (fbx.toMac k1 f1 t1 s1 g1 m1 r1 d1 a1 len1 cap1 y1 _ _ _ F135.out (by have l1 := F135.out.len; have q1 := LY1.out; omega)).mono ?_; rintro e w141 ⟨A138, m139, c140, rfl, ho, hb⟩; have F143 := Lib.hid ho; clear ho; have S145 := Lib.hid (hb.size); have B144 := Lib.hid (B130.out.trans (hb.mono B130.out.size)); clear B130; have F146 := Lib.hid (F132.out.below hb); clear F132; have F147 := Lib.hid (F133.out.below hb); clear F133; have F148 := Lib.hid (F134.out.below hb); clear F134; have F149 := Lib.hid (F135.out.below hb); clear F135; have F150 := Lib.hid (F136.out.below hb); clear F136; have F151 := Lib.hid (F137.out.below hb); clear F137; clear hb; have cb0_0 : w141.cell? ⟨w61.heap.size, 0, none⟩ = some (.int .i64 k1) := F151.out.cell 0; have cb0_1 : w141.cell? ⟨w61.heap.size, 1, none⟩ = some (.int .i64 f1) := F151.out.cell 1; have cb0_2 : w141.cell? ⟨w61.heap.size, 2, none⟩ = some (.int .i64 t1) := F151.out.cell 2; have cb0_3 : w141.cell? ⟨w61.heap.size, 3, none⟩ = some (.int .i64 s1) := F151.out.cell 3; have cb0_4 : w141.cell? ⟨w61.heap.size, 4, none⟩ = some (.int .i64 g1) := F151.out.cell 4; have cb0_5 : w141.cell? ⟨w61.heap.size, 5, none⟩ = some (.bool m1) := F151.out.cell 5; have cb0_6 : w141.cell? ⟨w61.heap.size, 6, none⟩ = some (.bool r1) := F151.out.cell 6; have cb0_7 : w141.cell? ⟨w61.heap.size, 7, none⟩ = some (.int .i64 d1) := F151.out.cell 7; have cb0_8 : w141.cell? ⟨w61.heap.size, 8, none⟩ = some (.slice A58 m59 c60) := F151.out.cell 8; have cb1_0 : w141.cell? ⟨(w.heap.size + 1), 0, none⟩ = some (.int .i64 k1) := F148.out.cell 0; have cb1_1 : w141.cell? ⟨(w.heap.size + 1), 1, none⟩ = some (.int .i64 f1) := F148.out.cell 1; have cb1_2 : w141.cell? ⟨(w.heap.size + 1), 2, none⟩ = some (.int .i64 t1) := F148.out.cell 2; have cb1_3 : w141.cell? ⟨(w.heap.size + 1), 3, none⟩ = some (.int .i64 s1) := F148.out.cell 3; have cb1_4 : w141.cell? ⟨(w.heap.size + 1), 4, none⟩ = some (.int .i64 g1) := F148.out.cell 4; have cb1_5 : w141.cell? ⟨(w.heap.size + 1), 5, none⟩ = some (.bool m1) := F148.out.cell 5; have cb1_6 : w141.cell? ⟨(w.heap.size + 1), 6, none⟩ = some (.bool r1) := F148.out.cell 6; have cb1_7 : w141.cell? ⟨(w.heap.size + 1), 7, none⟩ = some (.int .i64 d1) := F148.out.cell 7; have cb1_8 : w141.cell? ⟨(w.heap.size + 1), 8, none⟩ = some (.slice a1 len1 cap1) := F148.out.cell 8)
    | (go_at_call 25; refine (fbx.eqMac k1 f1 t1 s1 g1 m1 r1 d1 A58 m59 c60 A138 m139 c140 y1 _ _ _ _ _ F150.out.rd F143.out.rd).mono ?_; rintro e w142 ⟨rfl, hb⟩; have S153 := Lib.hid (hb.size); have B152 := Lib.hid (B144.out.trans (hb.mono B144.out.size)); clear B144; have F154 := Lib.hid (F146.out.below hb); clear F146; have F155 := Lib.hid (F147.out.below hb); clear F147; have F156 := Lib.hid (F148.out.below hb); clear F148; have F157 := Lib.hid (F149.out.below hb); clear F149; have F158 := Lib.hid (F150.out.below hb); clear F150; have F159 := Lib.hid (F151.out.below hb); clear F151; clear hb; have cd0_0 : w142.cell? ⟨w61.heap.size, 0, none⟩ = some (.int .i64 k1) := F159.out.cell 0; have cd0_1 : w142.cell? ⟨w61.heap.size, 1, none⟩ = some (.int .i64 f1) := F159.out.cell 1; have cd0_2 : w142.cell? ⟨w61.heap.size, 2, none⟩ = some (.int .i64 t1) := F159.out.cell 2; have cd0_3 : w142.cell? ⟨w61.heap.size, 3, none⟩ = some (.int .i64 s1) := F159.out.cell 3; have cd0_4 : w142.cell? ⟨w61.heap.size, 4, none⟩ = some (.int .i64 g1) := F159.out.cell 4; have cd0_5 : w142.cell? ⟨w61.heap.size, 5, none⟩ = some (.bool m1) := F159.out.cell 5; have cd0_6 : w142.cell? ⟨w61.heap.size, 6, none⟩ = some (.bool r1) := F159.out.cell 6; have cd0_7 : w142.cell? ⟨w61.heap.size, 7, none⟩ = some (.int .i64 d1) := F159.out.cell 7; have cd0_8 : w142.cell? ⟨w61.heap.size, 8, none⟩ = some (.slice A58 m59 c60) := F159.out.cell 8; have cd1_0 : w142.cell? ⟨(w.heap.size + 1), 0, none⟩ = some (.int .i64 k1) := F156.out.cell 0; have cd1_1 : w142.cell? ⟨(w.heap.size + 1), 1, none⟩ = some (.int .i64 f1) := F156.out.cell 1; have cd1_2 : w142.cell? ⟨(w.heap.size + 1), 2, none⟩ = some (.int .i64 t1) := F156.out.cell 2; have cd1_3 : w142.cell? ⟨(w.heap.size + 1), 3, none⟩ = some (.int .i64 s1) := F156.out.cell 3; have cd1_4 : w142.cell? ⟨(w.heap.size + 1), 4, none⟩ = some (.int .i64 g1) := F156.out.cell 4; have cd1_5 : w142.cell? ⟨(w.heap.size + 1), 5, none⟩ = some (.bool m1) := F156.out.cell 5; have cd1_6 : w142.cell? ⟨(w.heap.size + 1), 6, none⟩ = some (.bool r1) := F156.out.cell 6; have cd1_7 : w142.cell? ⟨(w.heap.size + 1), 7, none⟩ = some (.int .i64 d1) := F156.out.cell 7; have cd1_8 : w142.cell? ⟨(w.heap.size + 1), 8, none⟩ = some (.slice a1 len1 cap1) := F156.out.cell 8))
  clear ca0_0 ca0_1 ca0_2 ca0_3 ca0_4 ca0_5 ca0_6 ca0_7 ca0_8 ca1_0 ca1_1 ca1_2 ca1_3 ca1_4 ca1_5 ca1_6 ca1_7 ca1_8 cb0_0 cb0_1 cb0_2 cb0_3 cb0_4 cb0_5 cb0_6 cb0_7 cb0_8 cb1_0 cb1_1 cb1_2 cb1_3 cb1_4 cb1_5 cb1_6 cb1_7 cb1_8 cd0_0 cd0_1 cd0_2 cd0_3 cd0_4 cd0_5 cd0_6 cd0_7 cd0_8 cd1_0 cd1_1 cd1_2 cd1_3 cd1_4 cd1_5 cd1_6 cd1_7 cd1_8
  go_wp2_with fail
  go_ret
  exact ⟨rfl, B152.out⟩
end Go.Proofs.Ytnnlkkohbjolaaa.xExactEqualFrames
