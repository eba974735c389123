/- The law function of FnExactReplyTo returns true and leaves what was there. Condition: the slices among the arguments are slices that came in. -/
import Derived.Test.YtnnlkkohbjolaaaFhr
import Derived.Test.YtnnlkkohbjolaaaEnd12
import Derived.Deep.RegionHeld3
namespace Go.Proofs.Ytnnlkkohbjolaaa.xExactReplyTo
open Go.RowKit sl harn frm
set_option linter.unusedVariables false
set_option maxRecDepth 100000 in
set_option maxHeartbeats 4000000 in
theorem walk (k0 : Int) (wk0 : (Lit.int .i64 k0).wf = true) (f0 : Int) (wf0 : (Lit.int .i64 f0).wf = true) (t0 : Int) (wt0 : (Lit.int .i64 t0).wf = true) (s0 : Int) (ws0 : (Lit.int .i64 s0).wf = true) (g0 : Int) (wg0 : (Lit.int .i64 g0).wf = true) (m0 : Bool) (r0 : Bool) (d0 : Int) (wd0 : (Lit.int .i64 d0).wf = true) (a0 : Option Addr) (len0 cap0 : Nat) (z0 : List Int) (w : World) (row0 : kit.IsRow .u8 w a0 len0 cap0 z0) :
    Calls Try.prog 9 #[.agg #[.int .i64 k0, .int .i64 f0, .int .i64 t0, .int .i64 s0, .int .i64 g0, .bool m0, .bool r0, .int .i64 d0, .slice a0 len0 cap0]] w fun e w' => e = .returned (.bool true) ∧ Below w.heap.size w w' := by
  obtain ⟨y0, hr0⟩ := Rd.of_row row0
  have R0 := Lib.hid hr0
  have hl0 : (len0 : Int) ≤ 9223372036854775807 := by have := hr0.cap_; omega
  clear row0 hr0
  have Wk0 := Lib.hid wk0
  have Wf0 := Lib.hid wf0
  have Wt0 := Lib.hid wt0
  have Ws0 := Lib.hid ws0
  have Wg0 := Lib.hid wg0
  have Wd0 := Lib.hid wd0
  clear wk0 wf0 wt0 ws0 wg0 wd0
  go_enter Try.func9, Try.ntmps9
  go_wp2_with fail
  obtain ⟨W0, hW0⟩ : ∃ x, w.alloc (.cells #[.int .i64 k0, .int .i64 f0, .int .i64 t0, .int .i64 s0, .int .i64 g0, .bool m0, .bool r0, .int .i64 d0, .slice a0 len0 cap0] 35) = x := ⟨_, rfl⟩
  rw [hW0]
  have hb0 : Below w.heap.size w W0 := by rw [← hW0]; exact fbx.below_box _ _
  have LB0 := Lib.hid (show fbx.Bx 35 W0 (w.heap.size) #[.int .i64 k0, .int .i64 f0, .int .i64 t0, .int .i64 s0, .int .i64 g0, .bool m0, .bool r0, .int .i64 d0, .slice a0 len0 cap0] by rw [← hW0]; exact fbx.Bx.made _ _ _)
  have S00 := Lib.hid (show w.heap.size + 1 ≤ W0.heap.size by rw [← hW0]; simp)
  clear hW0
  by_cases hbig0 : 1048576 < (len0 : Int)
  · (with_reducible refine (fbx.sz_out k0 f0 t0 s0 g0 m0 r0 d0 a0 len0 cap0 1048576 (by omega) hl0 (by omega) _).mono ?_)
    rintro e w1 ⟨rfl, hb⟩
    go_wp2_with fail
    go_ret
    exact ⟨rfl, hb0.trans (hb.mono hb0.size)⟩
  (with_reducible refine (fbx.sz_in k0 f0 t0 s0 g0 m0 r0 d0 a0 len0 cap0 1048576 (by omega) hl0 (by omega) _).mono ?_)
  rintro e w1 ⟨rfl, hb⟩
  have hq0 : ¬ 1048576 - (len0 : Int) < 0 := by omega
  have hb1 : Below w.heap.size w w1 := hb0.trans (hb.mono hb0.size)
  have LB0 := Lib.hid (LB0.out.below hb)
  have S01 := Lib.hid (hb.size)
  clear hb0
  have hb0 := hb1
  clear hb1 hb
  have LY0 : Hid (y0.length ≤ 1048576) := by have := R0.out.len; unfold Hid; omega
  have R0 := Lib.hid (R0.out.below hb0)
  have B0 := Lib.hid hb0
  clear hb0
  obtain ⟨⟨⟨fd0, fd1, fd2, fd3, fd4, fd5, fd6, fd7, zz⟩, bb⟩, ht⟩ : ∃ x, rt ⟨k0, f0, t0, s0, g0, m0, r0, d0, y0⟩ = x := ⟨_, rfl⟩
  have HT := Lib.hid ht
  have HL := Lib.hid (show zz.length ≤ 100 by have h1 := rt_len ⟨k0, f0, t0, s0, g0, m0, r0, d0, y0⟩; rw [ht] at h1; exact h1)
  clear ht
  have cc0_0 : w1.cell? ⟨w.heap.size, 0, none⟩ = some (.int .i64 k0) := LB0.out.cell 0
  have cc0_1 : w1.cell? ⟨w.heap.size, 1, none⟩ = some (.int .i64 f0) := LB0.out.cell 1
  have cc0_2 : w1.cell? ⟨w.heap.size, 2, none⟩ = some (.int .i64 t0) := LB0.out.cell 2
  have cc0_3 : w1.cell? ⟨w.heap.size, 3, none⟩ = some (.int .i64 s0) := LB0.out.cell 3
  have cc0_4 : w1.cell? ⟨w.heap.size, 4, none⟩ = some (.int .i64 g0) := LB0.out.cell 4
  have cc0_5 : w1.cell? ⟨w.heap.size, 5, none⟩ = some (.bool m0) := LB0.out.cell 5
  have cc0_6 : w1.cell? ⟨w.heap.size, 6, none⟩ = some (.bool r0) := LB0.out.cell 6
  have cc0_7 : w1.cell? ⟨w.heap.size, 7, none⟩ = some (.int .i64 d0) := LB0.out.cell 7
  have cc0_8 : w1.cell? ⟨w.heap.size, 8, none⟩ = some (.slice a0 len0 cap0) := LB0.out.cell 8
  go_wp2_with fail
  clear cc0_0 cc0_1 cc0_2 cc0_3 cc0_4 cc0_5 cc0_6 cc0_7 cc0_8
  (with_reducible refine (fbx.toMac k0 f0 t0 s0 g0 m0 r0 d0 a0 len0 cap0 y0 _ _ _ R0.out (by have l1 := R0.out.len; have q0 := LY0.out; omega)).mono ?_)
  rintro e w4 ⟨A1, m2, c3, rfl, ho, hb⟩
  have F5 := Lib.hid ho
  clear ho
  have S7 := Lib.hid (hb.size)
  have B6 := Lib.hid (B0.out.trans (hb.mono B0.out.size))
  clear B0
  have F8 := Lib.hid (LB0.out.below hb)
  clear LB0
  have F9 := Lib.hid (R0.out.below hb)
  clear R0
  clear hb
  go_wp2_with fail
  (with_reducible refine (fbx.specRt k0 f0 t0 s0 g0 m0 r0 d0 A1 m2 c3 y0 (by have h1 := F5.out.len; exact h1) Wd0.out _).mono ?_)
  rintro e w13 hpost
  obtain ⟨A10, m11, c12, rfl, ho, hb⟩ := fbx.DPost.parts HT.out hpost
  have F14 := Lib.hid ho
  clear ho hpost
  have S16 := Lib.hid (hb.size)
  have B15 := Lib.hid (B6.out.trans (hb.mono B6.out.size))
  clear B6
  have F17 := Lib.hid (F8.out.below hb)
  clear F8
  have F18 := Lib.hid (F9.out.below hb)
  clear F9
  have F19 := Lib.hid (F5.out.below hb)
  clear F5
  clear hb
  clear F19
  obtain ⟨V20, hV20⟩ : ∃ x, x = w13.alloc (.cells #[.int .i64 fd0, .int .i64 fd1, .int .i64 fd2, .int .i64 fd3, .int .i64 fd4, .bool fd5, .bool fd6, .int .i64 fd7, .slice A10 m11 c12] 25) := ⟨_, rfl⟩
  have hbV20 : Below w13.heap.size w13 V20 := by rw [hV20]; exact fbx.below_box _ _
  have S21 := Lib.hid (show w13.heap.size + 1 ≤ V20.heap.size by rw [hV20]; simp)
  have S23 := Lib.hid (hbV20.size)
  have B22 := Lib.hid (B15.out.trans (hbV20.mono B15.out.size))
  clear B15
  have F24 := Lib.hid (F17.out.below hbV20)
  clear F17
  have F25 := Lib.hid (F18.out.below hbV20)
  clear F18
  have F26 := Lib.hid (F14.out.below hbV20)
  clear F14
  have X27 := Lib.hid (show fbx.Bx 25 V20 w13.heap.size #[.int .i64 fd0, .int .i64 fd1, .int .i64 fd2, .int .i64 fd3, .int .i64 fd4, .bool fd5, .bool fd6, .int .i64 fd7, .slice A10 m11 c12] by rw [hV20]; exact fbx.Bx.made _ _ _)
  clear hbV20
  have cc0_0 : (w13.alloc (.cells #[.int .i64 fd0, .int .i64 fd1, .int .i64 fd2, .int .i64 fd3, .int .i64 fd4, .bool fd5, .bool fd6, .int .i64 fd7, .slice A10 m11 c12] 25)).cell? ⟨w.heap.size, 0, none⟩ = some (.int .i64 k0) := by rw [← hV20]; exact F24.out.cell 0
  have cc0_1 : (w13.alloc (.cells #[.int .i64 fd0, .int .i64 fd1, .int .i64 fd2, .int .i64 fd3, .int .i64 fd4, .bool fd5, .bool fd6, .int .i64 fd7, .slice A10 m11 c12] 25)).cell? ⟨w.heap.size, 1, none⟩ = some (.int .i64 f0) := by rw [← hV20]; exact F24.out.cell 1
  have cc0_2 : (w13.alloc (.cells #[.int .i64 fd0, .int .i64 fd1, .int .i64 fd2, .int .i64 fd3, .int .i64 fd4, .bool fd5, .bool fd6, .int .i64 fd7, .slice A10 m11 c12] 25)).cell? ⟨w.heap.size, 2, none⟩ = some (.int .i64 t0) := by rw [← hV20]; exact F24.out.cell 2
  have cc0_3 : (w13.alloc (.cells #[.int .i64 fd0, .int .i64 fd1, .int .i64 fd2, .int .i64 fd3, .int .i64 fd4, .bool fd5, .bool fd6, .int .i64 fd7, .slice A10 m11 c12] 25)).cell? ⟨w.heap.size, 3, none⟩ = some (.int .i64 s0) := by rw [← hV20]; exact F24.out.cell 3
  have cc0_4 : (w13.alloc (.cells #[.int .i64 fd0, .int .i64 fd1, .int .i64 fd2, .int .i64 fd3, .int .i64 fd4, .bool fd5, .bool fd6, .int .i64 fd7, .slice A10 m11 c12] 25)).cell? ⟨w.heap.size, 4, none⟩ = some (.int .i64 g0) := by rw [← hV20]; exact F24.out.cell 4
  have cc0_5 : (w13.alloc (.cells #[.int .i64 fd0, .int .i64 fd1, .int .i64 fd2, .int .i64 fd3, .int .i64 fd4, .bool fd5, .bool fd6, .int .i64 fd7, .slice A10 m11 c12] 25)).cell? ⟨w.heap.size, 5, none⟩ = some (.bool m0) := by rw [← hV20]; exact F24.out.cell 5
  have cc0_6 : (w13.alloc (.cells #[.int .i64 fd0, .int .i64 fd1, .int .i64 fd2, .int .i64 fd3, .int .i64 fd4, .bool fd5, .bool fd6, .int .i64 fd7, .slice A10 m11 c12] 25)).cell? ⟨w.heap.size, 6, none⟩ = some (.bool r0) := by rw [← hV20]; exact F24.out.cell 6
  have cc0_7 : (w13.alloc (.cells #[.int .i64 fd0, .int .i64 fd1, .int .i64 fd2, .int .i64 fd3, .int .i64 fd4, .bool fd5, .bool fd6, .int .i64 fd7, .slice A10 m11 c12] 25)).cell? ⟨w.heap.size, 7, none⟩ = some (.int .i64 d0) := by rw [← hV20]; exact F24.out.cell 7
  have cc0_8 : (w13.alloc (.cells #[.int .i64 fd0, .int .i64 fd1, .int .i64 fd2, .int .i64 fd3, .int .i64 fd4, .bool fd5, .bool fd6, .int .i64 fd7, .slice A10 m11 c12] 25)).cell? ⟨w.heap.size, 8, none⟩ = some (.slice a0 len0 cap0) := by rw [← hV20]; exact F24.out.cell 8
  go_wp2_with fail
  rw [← hV20]
  clear hV20 cc0_0 cc0_1 cc0_2 cc0_3 cc0_4 cc0_5 cc0_6 cc0_7 cc0_8
  (with_reducible refine (fbx.toMac k0 f0 t0 s0 g0 m0 r0 d0 a0 len0 cap0 y0 _ _ _ F25.out (by have l1 := F25.out.len; have q0 := LY0.out; omega)).mono ?_)
  rintro e w31 ⟨A28, m29, c30, rfl, ho, hb⟩
  have F32 := Lib.hid ho
  clear ho
  have S34 := Lib.hid (hb.size)
  have B33 := Lib.hid (B22.out.trans (hb.mono B22.out.size))
  clear B22
  have F35 := Lib.hid (F24.out.below hb)
  clear F24
  have F36 := Lib.hid (F25.out.below hb)
  clear F25
  have F37 := Lib.hid (F26.out.below hb)
  clear F26
  have F38 := Lib.hid (X27.out.below hb)
  clear X27
  clear hb
  obtain ⟨V39, hV39⟩ : ∃ x, x = w31.alloc (.cells #[.int .i64 k0, .int .i64 f0, .int .i64 t0, .int .i64 s0, .int .i64 g0, .bool m0, .bool r0, .int .i64 d0, .slice A28 m29 c30] 25) := ⟨_, rfl⟩
  have hbV39 : Below w31.heap.size w31 V39 := by rw [hV39]; exact fbx.below_box _ _
  have S40 := Lib.hid (show w31.heap.size + 1 ≤ V39.heap.size by rw [hV39]; simp)
  have S42 := Lib.hid (hbV39.size)
  have B41 := Lib.hid (B33.out.trans (hbV39.mono B33.out.size))
  clear B33
  have F43 := Lib.hid (F35.out.below hbV39)
  clear F35
  have F44 := Lib.hid (F36.out.below hbV39)
  clear F36
  have F45 := Lib.hid (F37.out.below hbV39)
  clear F37
  have F46 := Lib.hid (F38.out.below hbV39)
  clear F38
  have F47 := Lib.hid (F32.out.below hbV39)
  clear F32
  have X48 := Lib.hid (show fbx.Bx 25 V39 w31.heap.size #[.int .i64 k0, .int .i64 f0, .int .i64 t0, .int .i64 s0, .int .i64 g0, .bool m0, .bool r0, .int .i64 d0, .slice A28 m29 c30] by rw [hV39]; exact fbx.Bx.made _ _ _)
  clear hbV39
  go_wp2_with fail
  rw [← hV39]
  clear hV39 
  (with_reducible refine (fbx.implRt k0 f0 t0 s0 g0 m0 r0 d0 A28 m29 c30 y0 (by have h1 := F47.out.len; exact h1) Wd0.out _).mono ?_)
  rintro e w52 hpost
  obtain ⟨A49, m50, c51, rfl, ho, hb⟩ := fbx.DPost.parts HT.out hpost
  have F53 := Lib.hid ho
  clear ho hpost
  have S55 := Lib.hid (hb.size)
  have B54 := Lib.hid (B41.out.trans (hb.mono B41.out.size))
  clear B41
  have F56 := Lib.hid (F43.out.below hb)
  clear F43
  have F57 := Lib.hid (F44.out.below hb)
  clear F44
  have F58 := Lib.hid (F45.out.below hb)
  clear F45
  have F59 := Lib.hid (F46.out.below hb)
  clear F46
  have F60 := Lib.hid (F47.out.below hb)
  clear F47
  have F61 := Lib.hid (X48.out.below hb)
  clear X48
  clear hb
  obtain ⟨V62, hV62⟩ : ∃ x, x = w52.alloc (.cells #[.int .i64 fd0, .int .i64 fd1, .int .i64 fd2, .int .i64 fd3, .int .i64 fd4, .bool fd5, .bool fd6, .int .i64 fd7, .slice A49 m50 c51] 25) := ⟨_, rfl⟩
  have hbV62 : Below w52.heap.size w52 V62 := by rw [hV62]; exact fbx.below_box _ _
  have S63 := Lib.hid (show w52.heap.size + 1 ≤ V62.heap.size by rw [hV62]; simp)
  have S65 := Lib.hid (hbV62.size)
  have B64 := Lib.hid (B54.out.trans (hbV62.mono B54.out.size))
  clear B54
  have F66 := Lib.hid (F56.out.below hbV62)
  clear F56
  have F67 := Lib.hid (F57.out.below hbV62)
  clear F57
  have F68 := Lib.hid (F58.out.below hbV62)
  clear F58
  have F69 := Lib.hid (F59.out.below hbV62)
  clear F59
  have F70 := Lib.hid (F60.out.below hbV62)
  clear F60
  have F71 := Lib.hid (F61.out.below hbV62)
  clear F61
  have F72 := Lib.hid (F53.out.below hbV62)
  clear F53
  have X73 := Lib.hid (show fbx.Bx 25 V62 w52.heap.size #[.int .i64 fd0, .int .i64 fd1, .int .i64 fd2, .int .i64 fd3, .int .i64 fd4, .bool fd5, .bool fd6, .int .i64 fd7, .slice A49 m50 c51] by rw [hV62]; exact fbx.Bx.made _ _ _)
  clear hbV62
  have cc0_0 : (w52.alloc (.cells #[.int .i64 fd0, .int .i64 fd1, .int .i64 fd2, .int .i64 fd3, .int .i64 fd4, .bool fd5, .bool fd6, .int .i64 fd7, .slice A49 m50 c51] 25)).cell? ⟨w52.heap.size, 0, none⟩ = some (.int .i64 fd0) := by rw [← hV62]; exact X73.out.cell 0
  have cc0_1 : (w52.alloc (.cells #[.int .i64 fd0, .int .i64 fd1, .int .i64 fd2, .int .i64 fd3, .int .i64 fd4, .bool fd5, .bool fd6, .int .i64 fd7, .slice A49 m50 c51] 25)).cell? ⟨w52.heap.size, 1, none⟩ = some (.int .i64 fd1) := by rw [← hV62]; exact X73.out.cell 1
  have cc0_2 : (w52.alloc (.cells #[.int .i64 fd0, .int .i64 fd1, .int .i64 fd2, .int .i64 fd3, .int .i64 fd4, .bool fd5, .bool fd6, .int .i64 fd7, .slice A49 m50 c51] 25)).cell? ⟨w52.heap.size, 2, none⟩ = some (.int .i64 fd2) := by rw [← hV62]; exact X73.out.cell 2
  have cc0_3 : (w52.alloc (.cells #[.int .i64 fd0, .int .i64 fd1, .int .i64 fd2, .int .i64 fd3, .int .i64 fd4, .bool fd5, .bool fd6, .int .i64 fd7, .slice A49 m50 c51] 25)).cell? ⟨w52.heap.size, 3, none⟩ = some (.int .i64 fd3) := by rw [← hV62]; exact X73.out.cell 3
  have cc0_4 : (w52.alloc (.cells #[.int .i64 fd0, .int .i64 fd1, .int .i64 fd2, .int .i64 fd3, .int .i64 fd4, .bool fd5, .bool fd6, .int .i64 fd7, .slice A49 m50 c51] 25)).cell? ⟨w52.heap.size, 4, none⟩ = some (.int .i64 fd4) := by rw [← hV62]; exact X73.out.cell 4
  have cc0_5 : (w52.alloc (.cells #[.int .i64 fd0, .int .i64 fd1, .int .i64 fd2, .int .i64 fd3, .int .i64 fd4, .bool fd5, .bool fd6, .int .i64 fd7, .slice A49 m50 c51] 25)).cell? ⟨w52.heap.size, 5, none⟩ = some (.bool fd5) := by rw [← hV62]; exact X73.out.cell 5
  have cc0_6 : (w52.alloc (.cells #[.int .i64 fd0, .int .i64 fd1, .int .i64 fd2, .int .i64 fd3, .int .i64 fd4, .bool fd5, .bool fd6, .int .i64 fd7, .slice A49 m50 c51] 25)).cell? ⟨w52.heap.size, 6, none⟩ = some (.bool fd6) := by rw [← hV62]; exact X73.out.cell 6
  have cc0_7 : (w52.alloc (.cells #[.int .i64 fd0, .int .i64 fd1, .int .i64 fd2, .int .i64 fd3, .int .i64 fd4, .bool fd5, .bool fd6, .int .i64 fd7, .slice A49 m50 c51] 25)).cell? ⟨w52.heap.size, 7, none⟩ = some (.int .i64 fd7) := by rw [← hV62]; exact X73.out.cell 7
  have cc0_8 : (w52.alloc (.cells #[.int .i64 fd0, .int .i64 fd1, .int .i64 fd2, .int .i64 fd3, .int .i64 fd4, .bool fd5, .bool fd6, .int .i64 fd7, .slice A49 m50 c51] 25)).cell? ⟨w52.heap.size, 8, none⟩ = some (.slice A49 m50 c51) := by rw [← hV62]; exact X73.out.cell 8
  have cc1_0 : (w52.alloc (.cells #[.int .i64 fd0, .int .i64 fd1, .int .i64 fd2, .int .i64 fd3, .int .i64 fd4, .bool fd5, .bool fd6, .int .i64 fd7, .slice A49 m50 c51] 25)).cell? ⟨w13.heap.size, 0, none⟩ = some (.int .i64 fd0) := by rw [← hV62]; exact F69.out.cell 0
  have cc1_1 : (w52.alloc (.cells #[.int .i64 fd0, .int .i64 fd1, .int .i64 fd2, .int .i64 fd3, .int .i64 fd4, .bool fd5, .bool fd6, .int .i64 fd7, .slice A49 m50 c51] 25)).cell? ⟨w13.heap.size, 1, none⟩ = some (.int .i64 fd1) := by rw [← hV62]; exact F69.out.cell 1
  have cc1_2 : (w52.alloc (.cells #[.int .i64 fd0, .int .i64 fd1, .int .i64 fd2, .int .i64 fd3, .int .i64 fd4, .bool fd5, .bool fd6, .int .i64 fd7, .slice A49 m50 c51] 25)).cell? ⟨w13.heap.size, 2, none⟩ = some (.int .i64 fd2) := by rw [← hV62]; exact F69.out.cell 2
  have cc1_3 : (w52.alloc (.cells #[.int .i64 fd0, .int .i64 fd1, .int .i64 fd2, .int .i64 fd3, .int .i64 fd4, .bool fd5, .bool fd6, .int .i64 fd7, .slice A49 m50 c51] 25)).cell? ⟨w13.heap.size, 3, none⟩ = some (.int .i64 fd3) := by rw [← hV62]; exact F69.out.cell 3
  have cc1_4 : (w52.alloc (.cells #[.int .i64 fd0, .int .i64 fd1, .int .i64 fd2, .int .i64 fd3, .int .i64 fd4, .bool fd5, .bool fd6, .int .i64 fd7, .slice A49 m50 c51] 25)).cell? ⟨w13.heap.size, 4, none⟩ = some (.int .i64 fd4) := by rw [← hV62]; exact F69.out.cell 4
  have cc1_5 : (w52.alloc (.cells #[.int .i64 fd0, .int .i64 fd1, .int .i64 fd2, .int .i64 fd3, .int .i64 fd4, .bool fd5, .bool fd6, .int .i64 fd7, .slice A49 m50 c51] 25)).cell? ⟨w13.heap.size, 5, none⟩ = some (.bool fd5) := by rw [← hV62]; exact F69.out.cell 5
  have cc1_6 : (w52.alloc (.cells #[.int .i64 fd0, .int .i64 fd1, .int .i64 fd2, .int .i64 fd3, .int .i64 fd4, .bool fd5, .bool fd6, .int .i64 fd7, .slice A49 m50 c51] 25)).cell? ⟨w13.heap.size, 6, none⟩ = some (.bool fd6) := by rw [← hV62]; exact F69.out.cell 6
  have cc1_7 : (w52.alloc (.cells #[.int .i64 fd0, .int .i64 fd1, .int .i64 fd2, .int .i64 fd3, .int .i64 fd4, .bool fd5, .bool fd6, .int .i64 fd7, .slice A49 m50 c51] 25)).cell? ⟨w13.heap.size, 7, none⟩ = some (.int .i64 fd7) := by rw [← hV62]; exact F69.out.cell 7
  have cc1_8 : (w52.alloc (.cells #[.int .i64 fd0, .int .i64 fd1, .int .i64 fd2, .int .i64 fd3, .int .i64 fd4, .bool fd5, .bool fd6, .int .i64 fd7, .slice A49 m50 c51] 25)).cell? ⟨w13.heap.size, 8, none⟩ = some (.slice A10 m11 c12) := by rw [← hV62]; exact F69.out.cell 8
  go_wp2_with fail
  rw [← hV62]
  clear hV62 cc0_0 cc0_1 cc0_2 cc0_3 cc0_4 cc0_5 cc0_6 cc0_7 cc0_8 cc1_0 cc1_1 cc1_2 cc1_3 cc1_4 cc1_5 cc1_6 cc1_7 cc1_8
  (with_reducible refine (fbx.eqMac fd0 fd1 fd2 fd3 fd4 fd5 fd6 fd7 A49 m50 c51 A10 m11 c12 zz _ _ _ _ _ F72.out.rd F68.out.rd).mono ?_)
  rintro e w74 ⟨rfl, hb⟩
  have S76 := Lib.hid (hb.size)
  have B75 := Lib.hid (B64.out.trans (hb.mono B64.out.size))
  clear B64
  have F77 := Lib.hid (F66.out.below hb)
  clear F66
  have F78 := Lib.hid (F67.out.below hb)
  clear F67
  have F79 := Lib.hid (F68.out.below hb)
  clear F68
  have F80 := Lib.hid (F69.out.below hb)
  clear F69
  have F81 := Lib.hid (F70.out.below hb)
  clear F70
  have F82 := Lib.hid (F71.out.below hb)
  clear F71
  have F83 := Lib.hid (F72.out.below hb)
  clear F72
  have F84 := Lib.hid (X73.out.below hb)
  clear X73
  clear hb
  go_wp2_with fail
  have hbd : Below w74.heap.size w74 w74.drew := own.below_drew (Below.refl _ _)
  have S86 := Lib.hid (hbd.size)
  have B85 := Lib.hid (B75.out.trans (hbd.mono B75.out.size))
  clear B75
  have F87 := Lib.hid (F77.out.below hbd)
  clear F77
  have F88 := Lib.hid (F78.out.below hbd)
  clear F78
  have F89 := Lib.hid (F79.out.below hbd)
  clear F79
  have F90 := Lib.hid (F80.out.below hbd)
  clear F80
  have F91 := Lib.hid (F81.out.below hbd)
  clear F81
  have F92 := Lib.hid (F82.out.below hbd)
  clear F82
  have F93 := Lib.hid (F83.out.below hbd)
  clear F83
  have F94 := Lib.hid (F84.out.below hbd)
  clear F84
  clear hbd
  have ca0_0 : w74.drew.cell? ⟨w31.heap.size, 0, none⟩ = some (.int .i64 k0) := F92.out.cell 0
  have ca0_1 : w74.drew.cell? ⟨w31.heap.size, 1, none⟩ = some (.int .i64 f0) := F92.out.cell 1
  have ca0_2 : w74.drew.cell? ⟨w31.heap.size, 2, none⟩ = some (.int .i64 t0) := F92.out.cell 2
  have ca0_3 : w74.drew.cell? ⟨w31.heap.size, 3, none⟩ = some (.int .i64 s0) := F92.out.cell 3
  have ca0_4 : w74.drew.cell? ⟨w31.heap.size, 4, none⟩ = some (.int .i64 g0) := F92.out.cell 4
  have ca0_5 : w74.drew.cell? ⟨w31.heap.size, 5, none⟩ = some (.bool m0) := F92.out.cell 5
  have ca0_6 : w74.drew.cell? ⟨w31.heap.size, 6, none⟩ = some (.bool r0) := F92.out.cell 6
  have ca0_7 : w74.drew.cell? ⟨w31.heap.size, 7, none⟩ = some (.int .i64 d0) := F92.out.cell 7
  have ca0_8 : w74.drew.cell? ⟨w31.heap.size, 8, none⟩ = some (.slice A28 m29 c30) := F92.out.cell 8
  have ca1_0 : w74.drew.cell? ⟨w.heap.size, 0, none⟩ = some (.int .i64 k0) := F87.out.cell 0
  have ca1_1 : w74.drew.cell? ⟨w.heap.size, 1, none⟩ = some (.int .i64 f0) := F87.out.cell 1
  have ca1_2 : w74.drew.cell? ⟨w.heap.size, 2, none⟩ = some (.int .i64 t0) := F87.out.cell 2
  have ca1_3 : w74.drew.cell? ⟨w.heap.size, 3, none⟩ = some (.int .i64 s0) := F87.out.cell 3
  have ca1_4 : w74.drew.cell? ⟨w.heap.size, 4, none⟩ = some (.int .i64 g0) := F87.out.cell 4
  have ca1_5 : w74.drew.cell? ⟨w.heap.size, 5, none⟩ = some (.bool m0) := F87.out.cell 5
  have ca1_6 : w74.drew.cell? ⟨w.heap.size, 6, none⟩ = some (.bool r0) := F87.out.cell 6
  have ca1_7 : w74.drew.cell? ⟨w.heap.size, 7, none⟩ = some (.int .i64 d0) := F87.out.cell 7
  have ca1_8 : w74.drew.cell? ⟨w.heap.size, 8, none⟩ = some (.slice a0 len0 cap0) := F87.out.cell 8
  go_region_held3 (fun w' => w'.cell? ⟨w31.heap.size, 0, none⟩ = some (.int .i64 k0) ∧ w'.cell? ⟨w31.heap.size, 1, none⟩ = some (.int .i64 f0) ∧ w'.cell? ⟨w31.heap.size, 2, none⟩ = some (.int .i64 t0) ∧ w'.cell? ⟨w31.heap.size, 3, none⟩ = some (.int .i64 s0) ∧ w'.cell? ⟨w31.heap.size, 4, none⟩ = some (.int .i64 g0) ∧ w'.cell? ⟨w31.heap.size, 5, none⟩ = some (.bool m0) ∧ w'.cell? ⟨w31.heap.size, 6, none⟩ = some (.bool r0) ∧ w'.cell? ⟨w31.heap.size, 7, none⟩ = some (.int .i64 d0) ∧ w'.cell? ⟨w31.heap.size, 8, none⟩ = some (.slice A28 m29 c30) ∧ w'.cell? ⟨w.heap.size, 0, none⟩ = some (.int .i64 k0) ∧ w'.cell? ⟨w.heap.size, 1, none⟩ = some (.int .i64 f0) ∧ w'.cell? ⟨w.heap.size, 2, none⟩ = some (.int .i64 t0) ∧ w'.cell? ⟨w.heap.size, 3, none⟩ = some (.int .i64 s0) ∧ w'.cell? ⟨w.heap.size, 4, none⟩ = some (.int .i64 g0) ∧ w'.cell? ⟨w.heap.size, 5, none⟩ = some (.bool m0) ∧ w'.cell? ⟨w.heap.size, 6, none⟩ = some (.bool r0) ∧ w'.cell? ⟨w.heap.size, 7, none⟩ = some (.int .i64 d0) ∧ w'.cell? ⟨w.heap.size, 8, none⟩ = some (.slice a0 len0 cap0)) (first | (with_reducible exact ⟨ca0_0, ca0_1, ca0_2, ca0_3, ca0_4, ca0_5, ca0_6, ca0_7, ca0_8, ca1_0, ca1_1, ca1_2, ca1_3, ca1_4, ca1_5, ca1_6, ca1_7, ca1_8⟩) | (with_reducible exact ⟨cb0_0, cb0_1, cb0_2, cb0_3, cb0_4, cb0_5, cb0_6, cb0_7, cb0_8, cb1_0, cb1_1, cb1_2, cb1_3, cb1_4, cb1_5, cb1_6, cb1_7, cb1_8⟩) | (with_reducible exact ⟨cd0_0, cd0_1, cd0_2, cd0_3, cd0_4, cd0_5, cd0_6, cd0_7, cd0_8, cd1_0, cd1_1, cd1_2, cd1_3, cd1_4, cd1_5, cd1_6, cd1_7, cd1_8⟩))
    (first
    | (go_at_call 23; refine (fbx.toMac k0 f0 t0 s0 g0 m0 r0 d0 a0 len0 cap0 y0 _ _ _ F88.out (by have l1 := F88.out.len; have q0 := LY0.out; omega)).mono ?_; rintro e w98 ⟨A95, m96, c97, rfl, ho, hb⟩; have F100 := Lib.hid ho; clear ho; have S102 := Lib.hid (hb.size); have B101 := Lib.hid (B85.out.trans (hb.mono B85.out.size)); clear B85; have F103 := Lib.hid (F87.out.below hb); clear F87; have F104 := Lib.hid (F88.out.below hb); clear F88; have F105 := Lib.hid (F89.out.below hb); clear F89; have F106 := Lib.hid (F90.out.below hb); clear F90; have F107 := Lib.hid (F91.out.below hb); clear F91; have F108 := Lib.hid (F92.out.below hb); clear F92; have F109 := Lib.hid (F93.out.below hb); clear F93; have F110 := Lib.hid (F94.out.below hb); clear F94; clear hb; have cb0_0 : w98.cell? ⟨w31.heap.size, 0, none⟩ = some (.int .i64 k0) := F108.out.cell 0; have cb0_1 : w98.cell? ⟨w31.heap.size, 1, none⟩ = some (.int .i64 f0) := F108.out.cell 1; have cb0_2 : w98.cell? ⟨w31.heap.size, 2, none⟩ = some (.int .i64 t0) := F108.out.cell 2; have cb0_3 : w98.cell? ⟨w31.heap.size, 3, none⟩ = some (.int .i64 s0) := F108.out.cell 3; have cb0_4 : w98.cell? ⟨w31.heap.size, 4, none⟩ = some (.int .i64 g0) := F108.out.cell 4; have cb0_5 : w98.cell? ⟨w31.heap.size, 5, none⟩ = some (.bool m0) := F108.out.cell 5; have cb0_6 : w98.cell? ⟨w31.heap.size, 6, none⟩ = some (.bool r0) := F108.out.cell 6; have cb0_7 : w98.cell? ⟨w31.heap.size, 7, none⟩ = some (.int .i64 d0) := F108.out.cell 7; have cb0_8 : w98.cell? ⟨w31.heap.size, 8, none⟩ = some (.slice A28 m29 c30) := F108.out.cell 8; have cb1_0 : w98.cell? ⟨w.heap.size, 0, none⟩ = some (.int .i64 k0) := F103.out.cell 0; have cb1_1 : w98.cell? ⟨w.heap.size, 1, none⟩ = some (.int .i64 f0) := F103.out.cell 1; have cb1_2 : w98.cell? ⟨w.heap.size, 2, none⟩ = some (.int .i64 t0) := F103.out.cell 2; have cb1_3 : w98.cell? ⟨w.heap.size, 3, none⟩ = some (.int .i64 s0) := F103.out.cell 3; have cb1_4 : w98.cell? ⟨w.heap.size, 4, none⟩ = some (.int .i64 g0) := F103.out.cell 4; have cb1_5 : w98.cell? ⟨w.heap.size, 5, none⟩ = some (.bool m0) := F103.out.cell 5; have cb1_6 : w98.cell? ⟨w.heap.size, 6, none⟩ = some (.bool r0) := F103.out.cell 6; have cb1_7 : w98.cell? ⟨w.heap.size, 7, none⟩ = some (.int .i64 d0) := F103.out.cell 7; have cb1_8 : w98.cell? ⟨w.heap.size, 8, none⟩ = some (.slice a0 len0 cap0) := F103.out.cell 8)
    | (go_at_call 25; refine (fbx.eqMac k0 f0 t0 s0 g0 m0 r0 d0 A28 m29 c30 A95 m96 c97 y0 _ _ _ _ _ F107.out.rd F100.out.rd).mono ?_; rintro e w99 ⟨rfl, hb⟩; have S112 := Lib.hid (hb.size); have B111 := Lib.hid (B101.out.trans (hb.mono B101.out.size)); clear B101; have F113 := Lib.hid (F103.out.below hb); clear F103; have F114 := Lib.hid (F104.out.below hb); clear F104; have F115 := Lib.hid (F105.out.below hb); clear F105; have F116 := Lib.hid (F106.out.below hb); clear F106; have F117 := Lib.hid (F107.out.below hb); clear F107; have F118 := Lib.hid (F108.out.below hb); clear F108; have F119 := Lib.hid (F109.out.below hb); clear F109; have F120 := Lib.hid (F110.out.below hb); clear F110; clear hb; have cd0_0 : w99.cell? ⟨w31.heap.size, 0, none⟩ = some (.int .i64 k0) := F118.out.cell 0; have cd0_1 : w99.cell? ⟨w31.heap.size, 1, none⟩ = some (.int .i64 f0) := F118.out.cell 1; have cd0_2 : w99.cell? ⟨w31.heap.size, 2, none⟩ = some (.int .i64 t0) := F118.out.cell 2; have cd0_3 : w99.cell? ⟨w31.heap.size, 3, none⟩ = some (.int .i64 s0) := F118.out.cell 3; have cd0_4 : w99.cell? ⟨w31.heap.size, 4, none⟩ = some (.int .i64 g0) := F118.out.cell 4; have cd0_5 : w99.cell? ⟨w31.heap.size, 5, none⟩ = some (.bool m0) := F118.out.cell 5; have cd0_6 : w99.cell? ⟨w31.heap.size, 6, none⟩ = some (.bool r0) := F118.out.cell 6; have cd0_7 : w99.cell? ⟨w31.heap.size, 7, none⟩ = some (.int .i64 d0) := F118.out.cell 7; have cd0_8 : w99.cell? ⟨w31.heap.size, 8, none⟩ = some (.slice A28 m29 c30) := F118.out.cell 8; have cd1_0 : w99.cell? ⟨w.heap.size, 0, none⟩ = some (.int .i64 k0) := F113.out.cell 0; have cd1_1 : w99.cell? ⟨w.heap.size, 1, none⟩ = some (.int .i64 f0) := F113.out.cell 1; have cd1_2 : w99.cell? ⟨w.heap.size, 2, none⟩ = some (.int .i64 t0) := F113.out.cell 2; have cd1_3 : w99.cell? ⟨w.heap.size, 3, none⟩ = some (.int .i64 s0) := F113.out.cell 3; have cd1_4 : w99.cell? ⟨w.heap.size, 4, none⟩ = some (.int .i64 g0) := F113.out.cell 4; have cd1_5 : w99.cell? ⟨w.heap.size, 5, none⟩ = some (.bool m0) := F113.out.cell 5; have cd1_6 : w99.cell? ⟨w.heap.size, 6, none⟩ = some (.bool r0) := F113.out.cell 6; have cd1_7 : w99.cell? ⟨w.heap.size, 7, none⟩ = some (.int .i64 d0) := F113.out.cell 7; have cd1_8 : w99.cell? ⟨w.heap.size, 8, none⟩ = some (.slice a0 len0 cap0) := F113.out.cell 8))
  clear ca0_0 ca0_1 ca0_2 ca0_3 ca0_4 ca0_5 ca0_6 ca0_7 ca0_8 ca1_0 ca1_1 ca1_2 ca1_3 ca1_4 ca1_5 ca1_6 ca1_7 ca1_8 cb0_0 cb0_1 cb0_2 cb0_3 cb0_4 cb0_5 cb0_6 cb0_7 cb0_8 cb1_0 cb1_1 cb1_2 cb1_3 cb1_4 cb1_5 cb1_6 cb1_7 cb1_8 cd0_0 cd0_1 cd0_2 cd0_3 cd0_4 cd0_5 cd0_6 cd0_7 cd0_8 cd1_0 cd1_1 cd1_2 cd1_3 cd1_4 cd1_5 cd1_6 cd1_7 cd1_8
  have cc0_0 : w99.cell? ⟨w31.heap.size, 0, none⟩ = some (.int .i64 k0) := F118.out.cell 0
  have cc0_1 : w99.cell? ⟨w31.heap.size, 1, none⟩ = some (.int .i64 f0) := F118.out.cell 1
  have cc0_2 : w99.cell? ⟨w31.heap.size, 2, none⟩ = some (.int .i64 t0) := F118.out.cell 2
  have cc0_3 : w99.cell? ⟨w31.heap.size, 3, none⟩ = some (.int .i64 s0) := F118.out.cell 3
  have cc0_4 : w99.cell? ⟨w31.heap.size, 4, none⟩ = some (.int .i64 g0) := F118.out.cell 4
  have cc0_5 : w99.cell? ⟨w31.heap.size, 5, none⟩ = some (.bool m0) := F118.out.cell 5
  have cc0_6 : w99.cell? ⟨w31.heap.size, 6, none⟩ = some (.bool r0) := F118.out.cell 6
  have cc0_7 : w99.cell? ⟨w31.heap.size, 7, none⟩ = some (.int .i64 d0) := F118.out.cell 7
  have cc0_8 : w99.cell? ⟨w31.heap.size, 8, none⟩ = some (.slice A28 m29 c30) := F118.out.cell 8
  go_wp2_with fail
  clear cc0_0 cc0_1 cc0_2 cc0_3 cc0_4 cc0_5 cc0_6 cc0_7 cc0_8
  (with_reducible refine (fbx.markMac k0 f0 t0 s0 g0 m0 r0 d0 A28 m29 c30 y0 _ _ 1 _ F117.out (by omega) (by  omega) (by have l1 := F117.out.len; have q0 := LY0.out; omega)).mono ?_)
  rintro e w121 ⟨rfl, ho, hb⟩
  have N122 := Lib.hid (show m29 ≤ 67108864 from (by have l1 := F117.out.len; have q0 := LY0.out; omega))
  have F123 := Lib.hid ho
  clear ho
  have S125 := Lib.hid (hb.size)
  have B124 := Lib.hid (B111.out.trans (hb.below (by have s0 := S00.out; have s1 := S01.out; have s2 := S7.out; have s3 := S16.out; have s4 := S21.out; have s5 := S23.out; have s6 := S34.out; have s7 := S40.out; have s8 := S42.out; have s9 := S55.out; have s10 := S63.out; have s11 := S65.out; have s12 := S76.out; have s13 := S86.out; have s14 := S102.out; have s15 := S112.out; omega) B111.out.size))
  clear B111
  have F126 := Lib.hid (F113.out.tch hb (by have s0 := S00.out; have s1 := S01.out; have s2 := S7.out; have s3 := S16.out; have s4 := S21.out; have s5 := S23.out; have s6 := S34.out; have s7 := S40.out; have s8 := S42.out; have s9 := S55.out; have s10 := S63.out; have s11 := S65.out; have s12 := S76.out; have s13 := S86.out; have s14 := S102.out; have s15 := S112.out; have s16 := S125.out; omega))
  clear F113
  have F127 := Lib.hid (F114.out.tch hb (by have s0 := S00.out; have s1 := S01.out; have s2 := S7.out; have s3 := S16.out; have s4 := S21.out; have s5 := S23.out; have s6 := S34.out; have s7 := S40.out; have s8 := S42.out; have s9 := S55.out; have s10 := S63.out; have s11 := S65.out; have s12 := S76.out; have s13 := S86.out; have s14 := S102.out; have s15 := S112.out; have s16 := S125.out; omega))
  clear F114
  have F128 := Lib.hid (F115.out.tch hb (by have s0 := S00.out; have s1 := S01.out; have s2 := S7.out; have s3 := S16.out; have s4 := S21.out; have s5 := S23.out; have s6 := S34.out; have s7 := S40.out; have s8 := S42.out; have s9 := S55.out; have s10 := S63.out; have s11 := S65.out; have s12 := S76.out; have s13 := S86.out; have s14 := S102.out; have s15 := S112.out; have s16 := S125.out; omega))
  clear F115
  have F129 := Lib.hid (F116.out.tch hb (by have s0 := S00.out; have s1 := S01.out; have s2 := S7.out; have s3 := S16.out; have s4 := S21.out; have s5 := S23.out; have s6 := S34.out; have s7 := S40.out; have s8 := S42.out; have s9 := S55.out; have s10 := S63.out; have s11 := S65.out; have s12 := S76.out; have s13 := S86.out; have s14 := S102.out; have s15 := S112.out; have s16 := S125.out; omega))
  clear F116
  have F130 := Lib.hid (F118.out.tch hb (by have s0 := S00.out; have s1 := S01.out; have s2 := S7.out; have s3 := S16.out; have s4 := S21.out; have s5 := S23.out; have s6 := S34.out; have s7 := S40.out; have s8 := S42.out; have s9 := S55.out; have s10 := S63.out; have s11 := S65.out; have s12 := S76.out; have s13 := S86.out; have s14 := S102.out; have s15 := S112.out; have s16 := S125.out; omega))
  clear F118
  have F131 := Lib.hid (F119.out.tch hb (by have s0 := S00.out; have s1 := S01.out; have s2 := S7.out; have s3 := S16.out; have s4 := S21.out; have s5 := S23.out; have s6 := S34.out; have s7 := S40.out; have s8 := S42.out; have s9 := S55.out; have s10 := S63.out; have s11 := S65.out; have s12 := S76.out; have s13 := S86.out; have s14 := S102.out; have s15 := S112.out; have s16 := S125.out; omega))
  clear F119
  have F132 := Lib.hid (F120.out.tch hb (by have s0 := S00.out; have s1 := S01.out; have s2 := S7.out; have s3 := S16.out; have s4 := S21.out; have s5 := S23.out; have s6 := S34.out; have s7 := S40.out; have s8 := S42.out; have s9 := S55.out; have s10 := S63.out; have s11 := S65.out; have s12 := S76.out; have s13 := S86.out; have s14 := S102.out; have s15 := S112.out; have s16 := S125.out; omega))
  clear F120
  clear hb
  clear F117
  clear F130
  clear F123
  have cc0_0 : w121.cell? ⟨w52.heap.size, 0, none⟩ = some (.int .i64 fd0) := F132.out.cell 0
  have cc0_1 : w121.cell? ⟨w52.heap.size, 1, none⟩ = some (.int .i64 fd1) := F132.out.cell 1
  have cc0_2 : w121.cell? ⟨w52.heap.size, 2, none⟩ = some (.int .i64 fd2) := F132.out.cell 2
  have cc0_3 : w121.cell? ⟨w52.heap.size, 3, none⟩ = some (.int .i64 fd3) := F132.out.cell 3
  have cc0_4 : w121.cell? ⟨w52.heap.size, 4, none⟩ = some (.int .i64 fd4) := F132.out.cell 4
  have cc0_5 : w121.cell? ⟨w52.heap.size, 5, none⟩ = some (.bool fd5) := F132.out.cell 5
  have cc0_6 : w121.cell? ⟨w52.heap.size, 6, none⟩ = some (.bool fd6) := F132.out.cell 6
  have cc0_7 : w121.cell? ⟨w52.heap.size, 7, none⟩ = some (.int .i64 fd7) := F132.out.cell 7
  have cc0_8 : w121.cell? ⟨w52.heap.size, 8, none⟩ = some (.slice A49 m50 c51) := F132.out.cell 8
  have cc1_0 : w121.cell? ⟨w13.heap.size, 0, none⟩ = some (.int .i64 fd0) := F129.out.cell 0
  have cc1_1 : w121.cell? ⟨w13.heap.size, 1, none⟩ = some (.int .i64 fd1) := F129.out.cell 1
  have cc1_2 : w121.cell? ⟨w13.heap.size, 2, none⟩ = some (.int .i64 fd2) := F129.out.cell 2
  have cc1_3 : w121.cell? ⟨w13.heap.size, 3, none⟩ = some (.int .i64 fd3) := F129.out.cell 3
  have cc1_4 : w121.cell? ⟨w13.heap.size, 4, none⟩ = some (.int .i64 fd4) := F129.out.cell 4
  have cc1_5 : w121.cell? ⟨w13.heap.size, 5, none⟩ = some (.bool fd5) := F129.out.cell 5
  have cc1_6 : w121.cell? ⟨w13.heap.size, 6, none⟩ = some (.bool fd6) := F129.out.cell 6
  have cc1_7 : w121.cell? ⟨w13.heap.size, 7, none⟩ = some (.int .i64 fd7) := F129.out.cell 7
  have cc1_8 : w121.cell? ⟨w13.heap.size, 8, none⟩ = some (.slice A10 m11 c12) := F129.out.cell 8
  go_wp2_with fail
  clear cc0_0 cc0_1 cc0_2 cc0_3 cc0_4 cc0_5 cc0_6 cc0_7 cc0_8 cc1_0 cc1_1 cc1_2 cc1_3 cc1_4 cc1_5 cc1_6 cc1_7 cc1_8
  (with_reducible refine (fbx.eqMac fd0 fd1 fd2 fd3 fd4 fd5 fd6 fd7 A49 m50 c51 A10 m11 c12 zz _ _ _ _ _ F131.out.rd F128.out.rd).mono ?_)
  rintro e w133 ⟨rfl, hb⟩
  have S135 := Lib.hid (hb.size)
  have B134 := Lib.hid (B124.out.trans (hb.mono B124.out.size))
  clear B124
  have F136 := Lib.hid (F126.out.below hb)
  clear F126
  have F137 := Lib.hid (F127.out.below hb)
  clear F127
  have F138 := Lib.hid (F128.out.below hb)
  clear F128
  have F139 := Lib.hid (F129.out.below hb)
  clear F129
  have F140 := Lib.hid (F131.out.below hb)
  clear F131
  have F141 := Lib.hid (F132.out.below hb)
  clear F132
  clear hb
  have cc0_0 : w133.cell? ⟨w52.heap.size, 0, none⟩ = some (.int .i64 fd0) := F141.out.cell 0
  have cc0_1 : w133.cell? ⟨w52.heap.size, 1, none⟩ = some (.int .i64 fd1) := F141.out.cell 1
  have cc0_2 : w133.cell? ⟨w52.heap.size, 2, none⟩ = some (.int .i64 fd2) := F141.out.cell 2
  have cc0_3 : w133.cell? ⟨w52.heap.size, 3, none⟩ = some (.int .i64 fd3) := F141.out.cell 3
  have cc0_4 : w133.cell? ⟨w52.heap.size, 4, none⟩ = some (.int .i64 fd4) := F141.out.cell 4
  have cc0_5 : w133.cell? ⟨w52.heap.size, 5, none⟩ = some (.bool fd5) := F141.out.cell 5
  have cc0_6 : w133.cell? ⟨w52.heap.size, 6, none⟩ = some (.bool fd6) := F141.out.cell 6
  have cc0_7 : w133.cell? ⟨w52.heap.size, 7, none⟩ = some (.int .i64 fd7) := F141.out.cell 7
  have cc0_8 : w133.cell? ⟨w52.heap.size, 8, none⟩ = some (.slice A49 m50 c51) := F141.out.cell 8
  go_wp2_with fail
  clear cc0_0 cc0_1 cc0_2 cc0_3 cc0_4 cc0_5 cc0_6 cc0_7 cc0_8
  (with_reducible refine (fbx.markMac fd0 fd1 fd2 fd3 fd4 fd5 fd6 fd7 A49 m50 c51 zz _ _ 1 _ F140.out (by omega) (by have n0 := N122.out; omega) (by have l1 := F140.out.len; have u1 := HL.out; omega)).mono ?_)
  rintro e w142 ⟨rfl, ho, hb⟩
  have N143 := Lib.hid (show m50 ≤ 67108864 from (by have l1 := F140.out.len; have u1 := HL.out; omega))
  have F144 := Lib.hid ho
  clear ho
  have S146 := Lib.hid (hb.size)
  have B145 := Lib.hid (B134.out.trans (hb.below (by have s0 := S00.out; have s1 := S01.out; have s2 := S7.out; have s3 := S16.out; have s4 := S21.out; have s5 := S23.out; have s6 := S34.out; have s7 := S40.out; have s8 := S42.out; have s9 := S55.out; have s10 := S63.out; have s11 := S65.out; have s12 := S76.out; have s13 := S86.out; have s14 := S102.out; have s15 := S112.out; have s16 := S125.out; have s17 := S135.out; omega) B134.out.size))
  clear B134
  have F147 := Lib.hid (F136.out.tch hb (by have s0 := S00.out; have s1 := S01.out; have s2 := S7.out; have s3 := S16.out; have s4 := S21.out; have s5 := S23.out; have s6 := S34.out; have s7 := S40.out; have s8 := S42.out; have s9 := S55.out; have s10 := S63.out; have s11 := S65.out; have s12 := S76.out; have s13 := S86.out; have s14 := S102.out; have s15 := S112.out; have s16 := S125.out; have s17 := S135.out; have s18 := S146.out; omega))
  clear F136
  have F148 := Lib.hid (F137.out.tch hb (by have s0 := S00.out; have s1 := S01.out; have s2 := S7.out; have s3 := S16.out; have s4 := S21.out; have s5 := S23.out; have s6 := S34.out; have s7 := S40.out; have s8 := S42.out; have s9 := S55.out; have s10 := S63.out; have s11 := S65.out; have s12 := S76.out; have s13 := S86.out; have s14 := S102.out; have s15 := S112.out; have s16 := S125.out; have s17 := S135.out; have s18 := S146.out; omega))
  clear F137
  have F149 := Lib.hid (F138.out.tch hb (by have s0 := S00.out; have s1 := S01.out; have s2 := S7.out; have s3 := S16.out; have s4 := S21.out; have s5 := S23.out; have s6 := S34.out; have s7 := S40.out; have s8 := S42.out; have s9 := S55.out; have s10 := S63.out; have s11 := S65.out; have s12 := S76.out; have s13 := S86.out; have s14 := S102.out; have s15 := S112.out; have s16 := S125.out; have s17 := S135.out; have s18 := S146.out; omega))
  clear F138
  have F150 := Lib.hid (F139.out.tch hb (by have s0 := S00.out; have s1 := S01.out; have s2 := S7.out; have s3 := S16.out; have s4 := S21.out; have s5 := S23.out; have s6 := S34.out; have s7 := S40.out; have s8 := S42.out; have s9 := S55.out; have s10 := S63.out; have s11 := S65.out; have s12 := S76.out; have s13 := S86.out; have s14 := S102.out; have s15 := S112.out; have s16 := S125.out; have s17 := S135.out; have s18 := S146.out; omega))
  clear F139
  have F151 := Lib.hid (F141.out.tch hb (by have s0 := S00.out; have s1 := S01.out; have s2 := S7.out; have s3 := S16.out; have s4 := S21.out; have s5 := S23.out; have s6 := S34.out; have s7 := S40.out; have s8 := S42.out; have s9 := S55.out; have s10 := S63.out; have s11 := S65.out; have s12 := S76.out; have s13 := S86.out; have s14 := S102.out; have s15 := S112.out; have s16 := S125.out; have s17 := S135.out; have s18 := S146.out; omega))
  clear F141
  clear hb
  clear F140
  have cc0_0 : w142.cell? ⟨w52.heap.size, 0, none⟩ = some (.int .i64 fd0) := F151.out.cell 0
  have cc0_1 : w142.cell? ⟨w52.heap.size, 1, none⟩ = some (.int .i64 fd1) := F151.out.cell 1
  have cc0_2 : w142.cell? ⟨w52.heap.size, 2, none⟩ = some (.int .i64 fd2) := F151.out.cell 2
  have cc0_3 : w142.cell? ⟨w52.heap.size, 3, none⟩ = some (.int .i64 fd3) := F151.out.cell 3
  have cc0_4 : w142.cell? ⟨w52.heap.size, 4, none⟩ = some (.int .i64 fd4) := F151.out.cell 4
  have cc0_5 : w142.cell? ⟨w52.heap.size, 5, none⟩ = some (.bool fd5) := F151.out.cell 5
  have cc0_6 : w142.cell? ⟨w52.heap.size, 6, none⟩ = some (.bool fd6) := F151.out.cell 6
  have cc0_7 : w142.cell? ⟨w52.heap.size, 7, none⟩ = some (.int .i64 fd7) := F151.out.cell 7
  have cc0_8 : w142.cell? ⟨w52.heap.size, 8, none⟩ = some (.slice A49 m50 c51) := F151.out.cell 8
  go_wp2_with fail
  clear cc0_0 cc0_1 cc0_2 cc0_3 cc0_4 cc0_5 cc0_6 cc0_7 cc0_8
  (with_reducible refine (fbx.heldMac fd0 fd1 fd2 fd3 fd4 fd5 fd6 fd7 A49 m50 c51 _ _ 1 _ F144.out.rd (by omega) (by have n0 := N122.out; have n1 := N143.out; omega) N143.out).mono ?_)
  rintro e w152 ⟨rfl, hb⟩
  have S154 := Lib.hid (hb.size)
  have B153 := Lib.hid (B145.out.trans (hb.mono B145.out.size))
  clear B145
  have F155 := Lib.hid (F147.out.below hb)
  clear F147
  have F156 := Lib.hid (F148.out.below hb)
  clear F148
  have F157 := Lib.hid (F149.out.below hb)
  clear F149
  have F158 := Lib.hid (F150.out.below hb)
  clear F150
  have F159 := Lib.hid (F144.out.below hb)
  clear F144
  have F160 := Lib.hid (F151.out.below hb)
  clear F151
  clear hb
  have cc0_0 : w152.cell? ⟨w.heap.size, 0, none⟩ = some (.int .i64 k0) := F155.out.cell 0
  have cc0_1 : w152.cell? ⟨w.heap.size, 1, none⟩ = some (.int .i64 f0) := F155.out.cell 1
  have cc0_2 : w152.cell? ⟨w.heap.size, 2, none⟩ = some (.int .i64 t0) := F155.out.cell 2
  have cc0_3 : w152.cell? ⟨w.heap.size, 3, none⟩ = some (.int .i64 s0) := F155.out.cell 3
  have cc0_4 : w152.cell? ⟨w.heap.size, 4, none⟩ = some (.int .i64 g0) := F155.out.cell 4
  have cc0_5 : w152.cell? ⟨w.heap.size, 5, none⟩ = some (.bool m0) := F155.out.cell 5
  have cc0_6 : w152.cell? ⟨w.heap.size, 6, none⟩ = some (.bool r0) := F155.out.cell 6
  have cc0_7 : w152.cell? ⟨w.heap.size, 7, none⟩ = some (.int .i64 d0) := F155.out.cell 7
  have cc0_8 : w152.cell? ⟨w.heap.size, 8, none⟩ = some (.slice a0 len0 cap0) := F155.out.cell 8
  go_wp2_with fail
  clear cc0_0 cc0_1 cc0_2 cc0_3 cc0_4 cc0_5 cc0_6 cc0_7 cc0_8
  (with_reducible refine (fbx.toMac k0 f0 t0 s0 g0 m0 r0 d0 a0 len0 cap0 y0 _ _ _ F156.out (by have l1 := F156.out.len; have q0 := LY0.out; omega)).mono ?_)
  rintro e w164 ⟨A161, m162, c163, rfl, ho, hb⟩
  have F165 := Lib.hid ho
  clear ho
  have S167 := Lib.hid (hb.size)
  have B166 := Lib.hid (B153.out.trans (hb.mono B153.out.size))
  clear B153
  have F168 := Lib.hid (F155.out.below hb)
  clear F155
  have F169 := Lib.hid (F156.out.below hb)
  clear F156
  have F170 := Lib.hid (F157.out.below hb)
  clear F157
  have F171 := Lib.hid (F158.out.below hb)
  clear F158
  have F172 := Lib.hid (F159.out.below hb)
  clear F159
  have F173 := Lib.hid (F160.out.below hb)
  clear F160
  clear hb
  go_wp2_with fail
  (with_reducible refine (fbx.implRt k0 f0 t0 s0 g0 m0 r0 d0 A161 m162 c163 y0 (by have h1 := F165.out.len; exact h1) Wd0.out _).mono ?_)
  rintro e w177 hpost
  obtain ⟨A174, m175, c176, rfl, ho, hb⟩ := fbx.DPost.parts HT.out hpost
  have F178 := Lib.hid ho
  clear ho hpost
  have S180 := Lib.hid (hb.size)
  have B179 := Lib.hid (B166.out.trans (hb.mono B166.out.size))
  clear B166
  have F181 := Lib.hid (F168.out.below hb)
  clear F168
  have F182 := Lib.hid (F169.out.below hb)
  clear F169
  have F183 := Lib.hid (F170.out.below hb)
  clear F170
  have F184 := Lib.hid (F171.out.below hb)
  clear F171
  have F185 := Lib.hid (F172.out.below hb)
  clear F172
  have F186 := Lib.hid (F173.out.below hb)
  clear F173
  have F187 := Lib.hid (F165.out.below hb)
  clear F165
  clear hb
  clear F187
  obtain ⟨V188, hV188⟩ : ∃ x, x = w177.alloc (.cells #[.int .i64 fd0, .int .i64 fd1, .int .i64 fd2, .int .i64 fd3, .int .i64 fd4, .bool fd5, .bool fd6, .int .i64 fd7, .slice A174 m175 c176] 25) := ⟨_, rfl⟩
  have hbV188 : Below w177.heap.size w177 V188 := by rw [hV188]; exact fbx.below_box _ _
  have S189 := Lib.hid (show w177.heap.size + 1 ≤ V188.heap.size by rw [hV188]; simp)
  have S191 := Lib.hid (hbV188.size)
  have B190 := Lib.hid (B179.out.trans (hbV188.mono B179.out.size))
  clear B179
  have F192 := Lib.hid (F181.out.below hbV188)
  clear F181
  have F193 := Lib.hid (F182.out.below hbV188)
  clear F182
  have F194 := Lib.hid (F183.out.below hbV188)
  clear F183
  have F195 := Lib.hid (F184.out.below hbV188)
  clear F184
  have F196 := Lib.hid (F185.out.below hbV188)
  clear F185
  have F197 := Lib.hid (F186.out.below hbV188)
  clear F186
  have F198 := Lib.hid (F178.out.below hbV188)
  clear F178
  have X199 := Lib.hid (show fbx.Bx 25 V188 w177.heap.size #[.int .i64 fd0, .int .i64 fd1, .int .i64 fd2, .int .i64 fd3, .int .i64 fd4, .bool fd5, .bool fd6, .int .i64 fd7, .slice A174 m175 c176] by rw [hV188]; exact fbx.Bx.made _ _ _)
  clear hbV188
  have cc0_0 : (w177.alloc (.cells #[.int .i64 fd0, .int .i64 fd1, .int .i64 fd2, .int .i64 fd3, .int .i64 fd4, .bool fd5, .bool fd6, .int .i64 fd7, .slice A174 m175 c176] 25)).cell? ⟨w177.heap.size, 0, none⟩ = some (.int .i64 fd0) := by rw [← hV188]; exact X199.out.cell 0
  have cc0_1 : (w177.alloc (.cells #[.int .i64 fd0, .int .i64 fd1, .int .i64 fd2, .int .i64 fd3, .int .i64 fd4, .bool fd5, .bool fd6, .int .i64 fd7, .slice A174 m175 c176] 25)).cell? ⟨w177.heap.size, 1, none⟩ = some (.int .i64 fd1) := by rw [← hV188]; exact X199.out.cell 1
  have cc0_2 : (w177.alloc (.cells #[.int .i64 fd0, .int .i64 fd1, .int .i64 fd2, .int .i64 fd3, .int .i64 fd4, .bool fd5, .bool fd6, .int .i64 fd7, .slice A174 m175 c176] 25)).cell? ⟨w177.heap.size, 2, none⟩ = some (.int .i64 fd2) := by rw [← hV188]; exact X199.out.cell 2
  have cc0_3 : (w177.alloc (.cells #[.int .i64 fd0, .int .i64 fd1, .int .i64 fd2, .int .i64 fd3, .int .i64 fd4, .bool fd5, .bool fd6, .int .i64 fd7, .slice A174 m175 c176] 25)).cell? ⟨w177.heap.size, 3, none⟩ = some (.int .i64 fd3) := by rw [← hV188]; exact X199.out.cell 3
  have cc0_4 : (w177.alloc (.cells #[.int .i64 fd0, .int .i64 fd1, .int .i64 fd2, .int .i64 fd3, .int .i64 fd4, .bool fd5, .bool fd6, .int .i64 fd7, .slice A174 m175 c176] 25)).cell? ⟨w177.heap.size, 4, none⟩ = some (.int .i64 fd4) := by rw [← hV188]; exact X199.out.cell 4
  have cc0_5 : (w177.alloc (.cells #[.int .i64 fd0, .int .i64 fd1, .int .i64 fd2, .int .i64 fd3, .int .i64 fd4, .bool fd5, .bool fd6, .int .i64 fd7, .slice A174 m175 c176] 25)).cell? ⟨w177.heap.size, 5, none⟩ = some (.bool fd5) := by rw [← hV188]; exact X199.out.cell 5
  have cc0_6 : (w177.alloc (.cells #[.int .i64 fd0, .int .i64 fd1, .int .i64 fd2, .int .i64 fd3, .int .i64 fd4, .bool fd5, .bool fd6, .int .i64 fd7, .slice A174 m175 c176] 25)).cell? ⟨w177.heap.size, 6, none⟩ = some (.bool fd6) := by rw [← hV188]; exact X199.out.cell 6
  have cc0_7 : (w177.alloc (.cells #[.int .i64 fd0, .int .i64 fd1, .int .i64 fd2, .int .i64 fd3, .int .i64 fd4, .bool fd5, .bool fd6, .int .i64 fd7, .slice A174 m175 c176] 25)).cell? ⟨w177.heap.size, 7, none⟩ = some (.int .i64 fd7) := by rw [← hV188]; exact X199.out.cell 7
  have cc0_8 : (w177.alloc (.cells #[.int .i64 fd0, .int .i64 fd1, .int .i64 fd2, .int .i64 fd3, .int .i64 fd4, .bool fd5, .bool fd6, .int .i64 fd7, .slice A174 m175 c176] 25)).cell? ⟨w177.heap.size, 8, none⟩ = some (.slice A174 m175 c176) := by rw [← hV188]; exact X199.out.cell 8
  have cc1_0 : (w177.alloc (.cells #[.int .i64 fd0, .int .i64 fd1, .int .i64 fd2, .int .i64 fd3, .int .i64 fd4, .bool fd5, .bool fd6, .int .i64 fd7, .slice A174 m175 c176] 25)).cell? ⟨w13.heap.size, 0, none⟩ = some (.int .i64 fd0) := by rw [← hV188]; exact F195.out.cell 0
  have cc1_1 : (w177.alloc (.cells #[.int .i64 fd0, .int .i64 fd1, .int .i64 fd2, .int .i64 fd3, .int .i64 fd4, .bool fd5, .bool fd6, .int .i64 fd7, .slice A174 m175 c176] 25)).cell? ⟨w13.heap.size, 1, none⟩ = some (.int .i64 fd1) := by rw [← hV188]; exact F195.out.cell 1
  have cc1_2 : (w177.alloc (.cells #[.int .i64 fd0, .int .i64 fd1, .int .i64 fd2, .int .i64 fd3, .int .i64 fd4, .bool fd5, .bool fd6, .int .i64 fd7, .slice A174 m175 c176] 25)).cell? ⟨w13.heap.size, 2, none⟩ = some (.int .i64 fd2) := by rw [← hV188]; exact F195.out.cell 2
  have cc1_3 : (w177.alloc (.cells #[.int .i64 fd0, .int .i64 fd1, .int .i64 fd2, .int .i64 fd3, .int .i64 fd4, .bool fd5, .bool fd6, .int .i64 fd7, .slice A174 m175 c176] 25)).cell? ⟨w13.heap.size, 3, none⟩ = some (.int .i64 fd3) := by rw [← hV188]; exact F195.out.cell 3
  have cc1_4 : (w177.alloc (.cells #[.int .i64 fd0, .int .i64 fd1, .int .i64 fd2, .int .i64 fd3, .int .i64 fd4, .bool fd5, .bool fd6, .int .i64 fd7, .slice A174 m175 c176] 25)).cell? ⟨w13.heap.size, 4, none⟩ = some (.int .i64 fd4) := by rw [← hV188]; exact F195.out.cell 4
  have cc1_5 : (w177.alloc (.cells #[.int .i64 fd0, .int .i64 fd1, .int .i64 fd2, .int .i64 fd3, .int .i64 fd4, .bool fd5, .bool fd6, .int .i64 fd7, .slice A174 m175 c176] 25)).cell? ⟨w13.heap.size, 5, none⟩ = some (.bool fd5) := by rw [← hV188]; exact F195.out.cell 5
  have cc1_6 : (w177.alloc (.cells #[.int .i64 fd0, .int .i64 fd1, .int .i64 fd2, .int .i64 fd3, .int .i64 fd4, .bool fd5, .bool fd6, .int .i64 fd7, .slice A174 m175 c176] 25)).cell? ⟨w13.heap.size, 6, none⟩ = some (.bool fd6) := by rw [← hV188]; exact F195.out.cell 6
  have cc1_7 : (w177.alloc (.cells #[.int .i64 fd0, .int .i64 fd1, .int .i64 fd2, .int .i64 fd3, .int .i64 fd4, .bool fd5, .bool fd6, .int .i64 fd7, .slice A174 m175 c176] 25)).cell? ⟨w13.heap.size, 7, none⟩ = some (.int .i64 fd7) := by rw [← hV188]; exact F195.out.cell 7
  have cc1_8 : (w177.alloc (.cells #[.int .i64 fd0, .int .i64 fd1, .int .i64 fd2, .int .i64 fd3, .int .i64 fd4, .bool fd5, .bool fd6, .int .i64 fd7, .slice A174 m175 c176] 25)).cell? ⟨w13.heap.size, 8, none⟩ = some (.slice A10 m11 c12) := by rw [← hV188]; exact F195.out.cell 8
  go_wp2_with fail
  rw [← hV188]
  clear hV188 cc0_0 cc0_1 cc0_2 cc0_3 cc0_4 cc0_5 cc0_6 cc0_7 cc0_8 cc1_0 cc1_1 cc1_2 cc1_3 cc1_4 cc1_5 cc1_6 cc1_7 cc1_8
  (with_reducible refine (fbx.eqMac fd0 fd1 fd2 fd3 fd4 fd5 fd6 fd7 A174 m175 c176 A10 m11 c12 zz _ _ _ _ _ F198.out.rd F194.out.rd).mono ?_)
  rintro e w200 ⟨rfl, hb⟩
  have S202 := Lib.hid (hb.size)
  have B201 := Lib.hid (B190.out.trans (hb.mono B190.out.size))
  clear B190
  have F203 := Lib.hid (F192.out.below hb)
  clear F192
  have F204 := Lib.hid (F193.out.below hb)
  clear F193
  have F205 := Lib.hid (F194.out.below hb)
  clear F194
  have F206 := Lib.hid (F195.out.below hb)
  clear F195
  have F207 := Lib.hid (F196.out.below hb)
  clear F196
  have F208 := Lib.hid (F197.out.below hb)
  clear F197
  have F209 := Lib.hid (F198.out.below hb)
  clear F198
  have F210 := Lib.hid (X199.out.below hb)
  clear X199
  clear hb
  clear F210
  clear F209
  have cc0_0 : w200.cell? ⟨w52.heap.size, 0, none⟩ = some (.int .i64 fd0) := F208.out.cell 0
  have cc0_1 : w200.cell? ⟨w52.heap.size, 1, none⟩ = some (.int .i64 fd1) := F208.out.cell 1
  have cc0_2 : w200.cell? ⟨w52.heap.size, 2, none⟩ = some (.int .i64 fd2) := F208.out.cell 2
  have cc0_3 : w200.cell? ⟨w52.heap.size, 3, none⟩ = some (.int .i64 fd3) := F208.out.cell 3
  have cc0_4 : w200.cell? ⟨w52.heap.size, 4, none⟩ = some (.int .i64 fd4) := F208.out.cell 4
  have cc0_5 : w200.cell? ⟨w52.heap.size, 5, none⟩ = some (.bool fd5) := F208.out.cell 5
  have cc0_6 : w200.cell? ⟨w52.heap.size, 6, none⟩ = some (.bool fd6) := F208.out.cell 6
  have cc0_7 : w200.cell? ⟨w52.heap.size, 7, none⟩ = some (.int .i64 fd7) := F208.out.cell 7
  have cc0_8 : w200.cell? ⟨w52.heap.size, 8, none⟩ = some (.slice A49 m50 c51) := F208.out.cell 8
  go_wp2_with fail
  clear cc0_0 cc0_1 cc0_2 cc0_3 cc0_4 cc0_5 cc0_6 cc0_7 cc0_8
  (with_reducible refine (fbx.heldMac fd0 fd1 fd2 fd3 fd4 fd5 fd6 fd7 A49 m50 c51 _ _ 1 _ F207.out.rd (by omega) (by have n0 := N122.out; have n1 := N143.out; omega) N143.out).mono ?_)
  rintro e w211 ⟨rfl, hb⟩
  have S213 := Lib.hid (hb.size)
  have B212 := Lib.hid (B201.out.trans (hb.mono B201.out.size))
  clear B201
  have F214 := Lib.hid (F203.out.below hb)
  clear F203
  have F215 := Lib.hid (F204.out.below hb)
  clear F204
  have F216 := Lib.hid (F205.out.below hb)
  clear F205
  have F217 := Lib.hid (F206.out.below hb)
  clear F206
  have F218 := Lib.hid (F207.out.below hb)
  clear F207
  have F219 := Lib.hid (F208.out.below hb)
  clear F208
  clear hb
  go_wp2_with fail
  go_ret
  exact ⟨rfl, B212.out⟩
end Go.Proofs.Ytnnlkkohbjolaaa.xExactReplyTo
