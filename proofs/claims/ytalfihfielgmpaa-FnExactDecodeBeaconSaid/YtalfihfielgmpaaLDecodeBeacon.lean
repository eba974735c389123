/- The law function of FnExactDecodeBeacon returns true and leaves what was there. Condition: the slices among the arguments are slices that came in. -/
import Derived.Test.YtalfihfielgmpaaEnd24
namespace Go.Proofs.Ytalfihfielgmpaa.xExactDecodeBeacon
open Go.RowKit sl harn
set_option linter.unusedVariables false
set_option maxRecDepth 100000 in
set_option maxHeartbeats 4000000 in
theorem walk (a0 : Option Addr) (len0 cap0 : Nat) (z0 : List Int) (w : World) (r0 : kit.IsRow .u8 w a0 len0 cap0 z0) :
    Calls Try.prog 6 #[.slice a0 len0 cap0] w fun e w' => e = .returned (.bool true) ∧ Below w.heap.size w w' := by
  obtain ⟨y0, hr0⟩ := Rd.of_row r0
  have R0 := Lib.hid hr0
  have hl0 : (len0 : Int) ≤ 9223372036854775807 := by have := hr0.cap_; omega
  clear r0 hr0
  by_cases hbig0 : 1048576 < (len0 : Int)
  · go_enter Try.func6, Try.ntmps6
    go_wp2
    go_ret
    exact ⟨rfl, Below.refl _ _⟩
  have LY0 : Hid (y0.length ≤ 1048576) := by have := R0.out.len; unfold Hid; omega
  obtain ⟨t10a, t10b, t10c, t10d, t10e, t10f, ht⟩ : ∃ x0 x1 x2 x3 x4 x5, (bcm.db y0).1 = ⟨x0, x1, x2, x3, x4, x5⟩ := ⟨_, _, _, _, _, _, rfl⟩
  have t10HH := Lib.hid ht
  clear ht
  obtain ⟨t10ZZ, ht⟩ : ∃ b, (bcm.db y0).2 = b := ⟨_, rfl⟩
  have t10KK := Lib.hid ht
  clear ht
  have B0 := Lib.hid (Below.refl w.heap.size w)
  go_enter Try.func6, Try.ntmps6
  go_wp2_with fail
  (with_reducible refine (harn.toByteS y0 _ _ a0 len0 cap0 _ R0.out (by have l1 := R0.out.len; have q0 := LY0.out; omega)).mono ?_)
  rintro e w1 ⟨A2, m3, c4, rfl, ho, hb⟩
  have F5 := Lib.hid ho
  clear ho
  have S6 := Lib.hid (hb.size)
  have B7 := Lib.hid (B0.out.trans (hb.mono B0.out.size))
  have F8 := Lib.hid (R0.out.below hb)
  clear R0
  clear hb B0
  go_wp2_with fail
  (with_reducible refine (be.specDb y0 _ _ A2 m3 c4 _ F5.out.rd (by have l1 := F5.out.len; have q0 := LY0.out; omega)).mono ?_)
  rintro e w9 hpost
  obtain ⟨rfl, hb⟩ := be.d_parts t10HH.out t10KK.out hpost
  have S11 := Lib.hid (hb.size)
  have B12 := Lib.hid (B7.out.trans (hb.mono B7.out.size))
  have F13 := Lib.hid (F8.out.below hb)
  clear F8
  have F14 := Lib.hid (F5.out.below hb)
  clear F5
  clear hb B7
  obtain ⟨V15, hV15⟩ : ∃ x, x = w9.alloc (.cells #[.int .i64 t10a, .int .i64 t10b, .int .i64 t10c, .int .i64 t10d, .bool t10e, .int .i64 t10f] 25) := ⟨_, rfl⟩
  have hbV15 : Below w9.heap.size w9 V15 := by rw [hV15]; exact be.below_box _ _
  have S16 := Lib.hid (show w9.heap.size + 1 ≤ V15.heap.size by rw [hV15]; simp)
  have B17 := Lib.hid (B12.out.trans (hbV15.mono B12.out.size))
  have F18 := Lib.hid (F13.out.below hbV15)
  clear F13
  have F19 := Lib.hid (F14.out.below hbV15)
  clear F14
  have X20 := Lib.hid (show be.Box V15 w9.heap.size t10a t10b t10c t10d t10e t10f by rw [hV15]; exact be.Box.made _ _ _ _ _ _ _)
  clear hbV15 B12
  go_wp2_with fail
  rw [← hV15]
  clear hV15 
  (with_reducible refine (harn.toByteS y0 _ _ a0 len0 cap0 _ F18.out (by have l1 := F18.out.len; have q0 := LY0.out; omega)).mono ?_)
  rintro e w21 ⟨A22, m23, c24, rfl, ho, hb⟩
  have F25 := Lib.hid ho
  clear ho
  have S26 := Lib.hid (hb.size)
  have B27 := Lib.hid (B17.out.trans (hb.mono B17.out.size))
  have F28 := Lib.hid (F18.out.below hb)
  clear F18
  have X29 := Lib.hid (X20.out.below hb)
  clear X20
  clear hb B17
  go_wp2_with fail
  (with_reducible refine (be.implDb y0 _ _ A22 m23 c24 _ F25.out.rd (by have l1 := F25.out.len; have q0 := LY0.out; omega)).mono ?_)
  rintro e w30 hpost
  obtain ⟨rfl, hb⟩ := be.d_parts t10HH.out t10KK.out hpost
  have S31 := Lib.hid (hb.size)
  have B32 := Lib.hid (B27.out.trans (hb.mono B27.out.size))
  have F33 := Lib.hid (F28.out.below hb)
  clear F28
  have X34 := Lib.hid (X29.out.below hb)
  clear X29
  have F35 := Lib.hid (F25.out.below hb)
  clear F25
  clear hb B27
  obtain ⟨V36, hV36⟩ : ∃ x, x = w30.alloc (.cells #[.int .i64 t10a, .int .i64 t10b, .int .i64 t10c, .int .i64 t10d, .bool t10e, .int .i64 t10f] 25) := ⟨_, rfl⟩
  have hbV36 : Below w30.heap.size w30 V36 := by rw [hV36]; exact be.below_box _ _
  have S37 := Lib.hid (show w30.heap.size + 1 ≤ V36.heap.size by rw [hV36]; simp)
  have B38 := Lib.hid (B32.out.trans (hbV36.mono B32.out.size))
  have F39 := Lib.hid (F33.out.below hbV36)
  clear F33
  have X40 := Lib.hid (X34.out.below hbV36)
  clear X34
  have F41 := Lib.hid (F35.out.below hbV36)
  clear F35
  have X42 := Lib.hid (show be.Box V36 w30.heap.size t10a t10b t10c t10d t10e t10f by rw [hV36]; exact be.Box.made _ _ _ _ _ _ _)
  clear hbV36 B32
  have cc0 : (w30.alloc (.cells #[.int .i64 t10a, .int .i64 t10b, .int .i64 t10c, .int .i64 t10d, .bool t10e, .int .i64 t10f] 25)).cell? ⟨w9.heap.size, 0, none⟩ = some (.int .i64 t10a) := by rw [← hV36]; exact X40.out.c0
  have cc1 : (w30.alloc (.cells #[.int .i64 t10a, .int .i64 t10b, .int .i64 t10c, .int .i64 t10d, .bool t10e, .int .i64 t10f] 25)).cell? ⟨w9.heap.size, 1, none⟩ = some (.int .i64 t10b) := by rw [← hV36]; exact X40.out.c1
  have cc2 : (w30.alloc (.cells #[.int .i64 t10a, .int .i64 t10b, .int .i64 t10c, .int .i64 t10d, .bool t10e, .int .i64 t10f] 25)).cell? ⟨w9.heap.size, 2, none⟩ = some (.int .i64 t10c) := by rw [← hV36]; exact X40.out.c2
  have cc3 : (w30.alloc (.cells #[.int .i64 t10a, .int .i64 t10b, .int .i64 t10c, .int .i64 t10d, .bool t10e, .int .i64 t10f] 25)).cell? ⟨w9.heap.size, 3, none⟩ = some (.int .i64 t10d) := by rw [← hV36]; exact X40.out.c3
  have cc4 : (w30.alloc (.cells #[.int .i64 t10a, .int .i64 t10b, .int .i64 t10c, .int .i64 t10d, .bool t10e, .int .i64 t10f] 25)).cell? ⟨w9.heap.size, 4, none⟩ = some (.bool t10e) := by rw [← hV36]; exact X40.out.c4
  have cc5 : (w30.alloc (.cells #[.int .i64 t10a, .int .i64 t10b, .int .i64 t10c, .int .i64 t10d, .bool t10e, .int .i64 t10f] 25)).cell? ⟨w9.heap.size, 5, none⟩ = some (.int .i64 t10f) := by rw [← hV36]; exact X40.out.c5
  go_wp2_with fail
  rw [← hV36]
  clear hV36 cc0 cc1 cc2 cc3 cc4 cc5
  (with_reducible refine (be.eqB_yes t10a t10b t10c t10d t10e t10f _).mono ?_)
  rintro e w43 ⟨rfl, hb⟩
  have S44 := Lib.hid (hb.size)
  have B45 := Lib.hid (B38.out.trans (hb.mono B38.out.size))
  have F46 := Lib.hid (F39.out.below hb)
  clear F39
  have X47 := Lib.hid (X40.out.below hb)
  clear X40
  have F48 := Lib.hid (F41.out.below hb)
  clear F41
  have X49 := Lib.hid (X42.out.below hb)
  clear X42
  clear hb B38
  go_wp2_with fail
  (with_reducible refine (harn.toByteS y0 _ _ a0 len0 cap0 _ F46.out (by have l1 := F46.out.len; have q0 := LY0.out; omega)).mono ?_)
  rintro e w50 ⟨A51, m52, c53, rfl, ho, hb⟩
  have F54 := Lib.hid ho
  clear ho
  have S55 := Lib.hid (hb.size)
  have B56 := Lib.hid (B45.out.trans (hb.mono B45.out.size))
  have F57 := Lib.hid (F46.out.below hb)
  clear F46
  have F58 := Lib.hid (F48.out.below hb)
  clear F48
  clear hb B45
  go_wp2_with fail
  (with_reducible refine (harn.eqByteS_yes y0 _ _ _ _ A22 A51 m23 c24 m52 c53 _ F58.out.rd F54.out.rd).mono ?_)
  rintro e w59 ⟨rfl, hb⟩
  have S60 := Lib.hid (hb.size)
  have B61 := Lib.hid (B56.out.trans (hb.mono B56.out.size))
  have F62 := Lib.hid (F57.out.below hb)
  clear F57
  have F63 := Lib.hid (F58.out.below hb)
  clear F58
  have F64 := Lib.hid (F54.out.below hb)
  clear F54
  clear hb B56
  go_wp2_with fail
  go_ret
  exact ⟨rfl, B61.out⟩
end Go.Proofs.Ytalfihfielgmpaa.xExactDecodeBeacon
