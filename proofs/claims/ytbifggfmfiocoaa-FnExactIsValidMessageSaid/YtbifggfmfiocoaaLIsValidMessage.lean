/- The law function of FnExactIsValidMessage returns true and leaves what was there. Condition: the slices among the arguments are slices that came in. -/
import Derived.Test.YtbifggfmfiocoaaQlw
import Derived.Deep.RegionHeld3
namespace Go.Proofs.Ytbifggfmfiocoaa.xExactIsValidMessage
open Go.RowKit sl harn bx mrw mq
set_option linter.unusedVariables false
set_option maxRecDepth 100000 in
set_option maxHeartbeats 4000000 in
theorem walk (mx : Msg) (Am : Option Addr) (nm cm : Nat) (w : World) (rowx : Rd .u8 w 0 w.heap.size Am nm cm mx.2.2.2) :
    Calls Try.prog 5 #[mV mx Am nm cm] w fun e w' => e = .returned (.bool true) ∧ Below w.heap.size w w' := by
  have R1 := Lib.hid rowx
  have HXL := Lib.hid rowx.len
  have hx0 : nm ≤ cm ∧ cm ≤ 9223372036854775807 := rowx.cap_
  clear rowx
  have B0 := Lib.hid (Below.refl w.heap.size w)
  go_enter Try.func5, Try.ntmps5
  go_wp2_with fail
  obtain ⟨W0, hW0⟩ : ∃ y, w.alloc (.cells #[.int .i64 mx.1, .int .i64 mx.2.1, .int .i64 mx.2.2.1, .slice Am nm cm] 44) = y := ⟨_, rfl⟩
  rw [hW0]
  have hb0 : Below w.heap.size w W0 := by rw [← hW0]; exact bx.below_box _ _
  have LB0 := Lib.hid (show bx.Bx 44 W0 w.heap.size #[.int .i64 mx.1, .int .i64 mx.2.1, .int .i64 mx.2.2.1, .slice Am nm cm] by rw [← hW0]; exact bx.Bx.made _ _ _)
  have S00 := Lib.hid (show w.heap.size + 1 ≤ W0.heap.size by rw [← hW0]; simp)
  clear hW0
  have R1 := Lib.hid (R1.out.below hb0)
  have B0 := Lib.hid hb0
  clear hb0
  (with_reducible refine (szMsg mx Am nm cm 1048576 (by omega) (by omega) _).mono ?_)
  rintro e w1 ⟨r0, rfl, hr, hb⟩
  rcases hr with ⟨hr1, hlt⟩ | ⟨hrl, hle⟩
  · subst hr1
    go_wp2_with fail
    go_ret
    exact ⟨rfl, B0.out.trans (hb.mono B0.out.size)⟩
  have hng0 : ¬ r0 < 0 := by omega
  have S3 := Lib.hid (hb.size)
  have B2 := Lib.hid (B0.out.trans (hb.mono B0.out.size))
  clear B0
  have F4 := Lib.hid (LB0.out.below hb)
  clear LB0
  have F5 := Lib.hid (R1.out.below hb)
  clear R1
  clear hb
  have hq1 : nm ≤ 1048576 := by omega
  have HR0 := Lib.hid (show 0 ≤ r0 ∧ r0 ≤ 1048576 by omega)
  clear hrl hle
  have HXN := Lib.hid (show nm ≤ 67108864 by omega)
  have HQ1 := Lib.hid hq1
  clear hq1
  obtain ⟨vb, hvb⟩ : ∃ vb, vm mx = vb := ⟨_, rfl⟩
  have VB := Lib.hid hvb
  clear hvb
  have cc0_0 : w1.cell? ⟨w.heap.size, 0, none⟩ = some (.int .i64 mx.1) := F4.out.cell 0
  have cc0_1 : w1.cell? ⟨w.heap.size, 1, none⟩ = some (.int .i64 mx.2.1) := F4.out.cell 1
  have cc0_2 : w1.cell? ⟨w.heap.size, 2, none⟩ = some (.int .i64 mx.2.2.1) := F4.out.cell 2
  have cc0_3 : w1.cell? ⟨w.heap.size, 3, none⟩ = some (.slice Am nm cm) := F4.out.cell 3
  go_wp2_with fail
  clear cc0_0 cc0_1 cc0_2 cc0_3
  (with_reducible refine (toMsg mx Am nm cm _ _ _ F5.out HXN.out).mono ?_)
  rintro e w6 hp
  obtain ⟨A7, m8, c9, rfl, ho, hb⟩ := x_parts hp
  clear hp
  obtain rfl : nm = m8 := (by have h1 := ho.len; have h2 := HXL.out; omega)
  have F10 := Lib.hid ho
  clear ho
  have S12 := Lib.hid (hb.size)
  have B11 := Lib.hid (B2.out.trans (hb.mono B2.out.size))
  clear B2
  have F13 := Lib.hid (F4.out.below hb)
  clear F4
  have F14 := Lib.hid (F5.out.below hb)
  clear F5
  clear hb
  go_wp2_with fail
  (with_reducible refine (specVm mx A7 nm c9 HXL.out _).mono ?_)
  rintro e w15 hp
  obtain ⟨rfl, hb⟩ := b_parts VB.out hp
  clear hp
  have S17 := Lib.hid (hb.size)
  have B16 := Lib.hid (B11.out.trans (hb.mono B11.out.size))
  clear B11
  have F18 := Lib.hid (F13.out.below hb)
  clear F13
  have F19 := Lib.hid (F14.out.below hb)
  clear F14
  have F20 := Lib.hid (F10.out.below hb)
  clear F10
  clear hb
  clear F20
  have cc0_0 : w15.cell? ⟨w.heap.size, 0, none⟩ = some (.int .i64 mx.1) := F18.out.cell 0
  have cc0_1 : w15.cell? ⟨w.heap.size, 1, none⟩ = some (.int .i64 mx.2.1) := F18.out.cell 1
  have cc0_2 : w15.cell? ⟨w.heap.size, 2, none⟩ = some (.int .i64 mx.2.2.1) := F18.out.cell 2
  have cc0_3 : w15.cell? ⟨w.heap.size, 3, none⟩ = some (.slice Am nm cm) := F18.out.cell 3
  go_wp2_with fail
  clear cc0_0 cc0_1 cc0_2 cc0_3
  (with_reducible refine (toMsg mx Am nm cm _ _ _ F19.out HXN.out).mono ?_)
  rintro e w21 hp
  obtain ⟨A22, m23, c24, rfl, ho, hb⟩ := x_parts hp
  clear hp
  obtain rfl : nm = m23 := (by have h1 := ho.len; have h2 := HXL.out; omega)
  have F25 := Lib.hid ho
  clear ho
  have S27 := Lib.hid (hb.size)
  have B26 := Lib.hid (B16.out.trans (hb.mono B16.out.size))
  clear B16
  have F28 := Lib.hid (F18.out.below hb)
  clear F18
  have F29 := Lib.hid (F19.out.below hb)
  clear F19
  clear hb
  obtain ⟨V30, hV30⟩ : ∃ x, x = w21.alloc (.cells #[.int .i64 mx.1, .int .i64 mx.2.1, .int .i64 mx.2.2.1, .slice A22 nm c24] 28) := ⟨_, rfl⟩
  have hbV30 : Below w21.heap.size w21 V30 := by rw [hV30]; exact bx.below_box _ _
  have S31 := Lib.hid (show w21.heap.size + 1 ≤ V30.heap.size by rw [hV30]; simp)
  have S33 := Lib.hid (hbV30.size)
  have B32 := Lib.hid (B26.out.trans (hbV30.mono B26.out.size))
  clear B26
  have F34 := Lib.hid (F28.out.below hbV30)
  clear F28
  have F35 := Lib.hid (F29.out.below hbV30)
  clear F29
  have F36 := Lib.hid (F25.out.below hbV30)
  clear F25
  have X37 := Lib.hid (show bx.Bx 28 V30 w21.heap.size #[.int .i64 mx.1, .int .i64 mx.2.1, .int .i64 mx.2.2.1, .slice A22 nm c24] by rw [hV30]; exact bx.Bx.made _ _ _)
  clear hbV30
  go_wp2_with fail
  rw [← hV30]
  clear hV30 
  (with_reducible refine (implVm mx A22 nm c24 HXL.out _).mono ?_)
  rintro e w38 hp
  obtain ⟨rfl, hb⟩ := b_parts VB.out hp
  clear hp
  have S40 := Lib.hid (hb.size)
  have B39 := Lib.hid (B32.out.trans (hb.mono B32.out.size))
  clear B32
  have F41 := Lib.hid (F34.out.below hb)
  clear F34
  have F42 := Lib.hid (F35.out.below hb)
  clear F35
  have F43 := Lib.hid (F36.out.below hb)
  clear F36
  have F44 := Lib.hid (X37.out.below hb)
  clear X37
  clear hb
  go_wp2_with fail
  have hbd : Below w38.heap.size w38 w38.drew := own.below_drew (Below.refl _ _)
  have S46 := Lib.hid (hbd.size)
  have B45 := Lib.hid (B39.out.trans (hbd.mono B39.out.size))
  clear B39
  have F47 := Lib.hid (F41.out.below hbd)
  clear F41
  have F48 := Lib.hid (F42.out.below hbd)
  clear F42
  have F49 := Lib.hid (F43.out.below hbd)
  clear F43
  have F50 := Lib.hid (F44.out.below hbd)
  clear F44
  clear hbd
  have ca0_0 : w38.drew.cell? ⟨w21.heap.size, 0, none⟩ = some (.int .i64 mx.1) := F50.out.cell 0
  have ca0_1 : w38.drew.cell? ⟨w21.heap.size, 1, none⟩ = some (.int .i64 mx.2.1) := F50.out.cell 1
  have ca0_2 : w38.drew.cell? ⟨w21.heap.size, 2, none⟩ = some (.int .i64 mx.2.2.1) := F50.out.cell 2
  have ca0_3 : w38.drew.cell? ⟨w21.heap.size, 3, none⟩ = some (.slice A22 nm c24) := F50.out.cell 3
  have ca1_0 : w38.drew.cell? ⟨w.heap.size, 0, none⟩ = some (.int .i64 mx.1) := F47.out.cell 0
  have ca1_1 : w38.drew.cell? ⟨w.heap.size, 1, none⟩ = some (.int .i64 mx.2.1) := F47.out.cell 1
  have ca1_2 : w38.drew.cell? ⟨w.heap.size, 2, none⟩ = some (.int .i64 mx.2.2.1) := F47.out.cell 2
  have ca1_3 : w38.drew.cell? ⟨w.heap.size, 3, none⟩ = some (.slice Am nm cm) := F47.out.cell 3
  go_region_held3 (fun w' => w'.cell? ⟨w21.heap.size, 0, none⟩ = some (.int .i64 mx.1) ∧ w'.cell? ⟨w21.heap.size, 1, none⟩ = some (.int .i64 mx.2.1) ∧ w'.cell? ⟨w21.heap.size, 2, none⟩ = some (.int .i64 mx.2.2.1) ∧ w'.cell? ⟨w21.heap.size, 3, none⟩ = some (.slice A22 nm c24) ∧ w'.cell? ⟨w.heap.size, 0, none⟩ = some (.int .i64 mx.1) ∧ w'.cell? ⟨w.heap.size, 1, none⟩ = some (.int .i64 mx.2.1) ∧ w'.cell? ⟨w.heap.size, 2, none⟩ = some (.int .i64 mx.2.2.1) ∧ w'.cell? ⟨w.heap.size, 3, none⟩ = some (.slice Am nm cm)) (first | (with_reducible exact ⟨ca0_0, ca0_1, ca0_2, ca0_3, ca1_0, ca1_1, ca1_2, ca1_3⟩) | (with_reducible exact ⟨cb0_0, cb0_1, cb0_2, cb0_3, cb1_0, cb1_1, cb1_2, cb1_3⟩) | (with_reducible exact ⟨cd0_0, cd0_1, cd0_2, cd0_3, cd1_0, cd1_1, cd1_2, cd1_3⟩))
    (first
    | (go_at_call 29; refine (toMsg mx Am nm cm _ _ _ F48.out HXN.out).mono ?_; rintro e w51 hp; obtain ⟨A53, m54, c55, rfl, ho, hb⟩ := x_parts hp; clear hp; obtain rfl : nm = m54 := (by have h1 := ho.len; have h2 := HXL.out; omega); have F56 := Lib.hid ho; clear ho; have S58 := Lib.hid (hb.size); have B57 := Lib.hid (B45.out.trans (hb.mono B45.out.size)); clear B45; have F59 := Lib.hid (F47.out.below hb); clear F47; have F60 := Lib.hid (F48.out.below hb); clear F48; have F61 := Lib.hid (F49.out.below hb); clear F49; have F62 := Lib.hid (F50.out.below hb); clear F50; clear hb; have cb0_0 : w51.cell? ⟨w21.heap.size, 0, none⟩ = some (.int .i64 mx.1) := F62.out.cell 0; have cb0_1 : w51.cell? ⟨w21.heap.size, 1, none⟩ = some (.int .i64 mx.2.1) := F62.out.cell 1; have cb0_2 : w51.cell? ⟨w21.heap.size, 2, none⟩ = some (.int .i64 mx.2.2.1) := F62.out.cell 2; have cb0_3 : w51.cell? ⟨w21.heap.size, 3, none⟩ = some (.slice A22 nm c24) := F62.out.cell 3; have cb1_0 : w51.cell? ⟨w.heap.size, 0, none⟩ = some (.int .i64 mx.1) := F59.out.cell 0; have cb1_1 : w51.cell? ⟨w.heap.size, 1, none⟩ = some (.int .i64 mx.2.1) := F59.out.cell 1; have cb1_2 : w51.cell? ⟨w.heap.size, 2, none⟩ = some (.int .i64 mx.2.2.1) := F59.out.cell 2; have cb1_3 : w51.cell? ⟨w.heap.size, 3, none⟩ = some (.slice Am nm cm) := F59.out.cell 3)
    | (go_at_call 31; refine (eqMsg_yes mx A22 nm c24 A53 nm c55 _ _ _ _ _ F61.out.rd F56.out.rd).mono ?_; rintro e w52 ⟨rfl, hb⟩; have S64 := Lib.hid (hb.size); have B63 := Lib.hid (B57.out.trans (hb.mono B57.out.size)); clear B57; have F65 := Lib.hid (F59.out.below hb); clear F59; have F66 := Lib.hid (F60.out.below hb); clear F60; have F67 := Lib.hid (F61.out.below hb); clear F61; have F68 := Lib.hid (F62.out.below hb); clear F62; clear hb; have cd0_0 : w52.cell? ⟨w21.heap.size, 0, none⟩ = some (.int .i64 mx.1) := F68.out.cell 0; have cd0_1 : w52.cell? ⟨w21.heap.size, 1, none⟩ = some (.int .i64 mx.2.1) := F68.out.cell 1; have cd0_2 : w52.cell? ⟨w21.heap.size, 2, none⟩ = some (.int .i64 mx.2.2.1) := F68.out.cell 2; have cd0_3 : w52.cell? ⟨w21.heap.size, 3, none⟩ = some (.slice A22 nm c24) := F68.out.cell 3; have cd1_0 : w52.cell? ⟨w.heap.size, 0, none⟩ = some (.int .i64 mx.1) := F65.out.cell 0; have cd1_1 : w52.cell? ⟨w.heap.size, 1, none⟩ = some (.int .i64 mx.2.1) := F65.out.cell 1; have cd1_2 : w52.cell? ⟨w.heap.size, 2, none⟩ = some (.int .i64 mx.2.2.1) := F65.out.cell 2; have cd1_3 : w52.cell? ⟨w.heap.size, 3, none⟩ = some (.slice Am nm cm) := F65.out.cell 3))
  clear ca0_0 ca0_1 ca0_2 ca0_3 ca1_0 ca1_1 ca1_2 ca1_3 cb0_0 cb0_1 cb0_2 cb0_3 cb1_0 cb1_1 cb1_2 cb1_3 cd0_0 cd0_1 cd0_2 cd0_3 cd1_0 cd1_1 cd1_2 cd1_3
  go_wp2_with fail
  go_ret
  exact ⟨rfl, B63.out⟩
theorem walkA (ma mb mc : Int) (Am : Option Addr) (nm cm : Nat) (mz : List Int) (w : World) (rowx : kit.IsRow .u8 w Am nm cm mz) :
    Calls Try.prog 5 #[.agg #[.int .i64 ma, .int .i64 mb, .int .i64 mc, .slice Am nm cm]] w fun e w' => e = .returned (.bool true) ∧ Below w.heap.size w w' := by
  obtain ⟨y, hr⟩ := Rd.of_row rowx
  exact walk (ma, mb, mc, y) Am nm cm w hr
end Go.Proofs.Ytbifggfmfiocoaa.xExactIsValidMessage
