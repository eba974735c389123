/- The law function of FnExactDelimiterBytes returns true and leaves what was there. Condition: the slices among the arguments are slices that came in. -/
import Derived.Test.YthgbmcdfbinpkaaEnd20
namespace Go.Proofs.Ythgbmcdfbinpkaa.xExactDelimiterBytes
open Go.RowKit sl harn
set_option linter.unusedVariables false
set_option maxRecDepth 100000 in
set_option maxHeartbeats 4000000 in
theorem walk (n0 : Int) (wn0 : (Lit.int .i64 n0).wf = true) (w : World)  :
    Calls Try.prog 5 #[.int .i64 n0] w fun e w' => e = .returned (.bool true) ∧ Below w.heap.size w w' := by
  have W0 := Lib.hid wn0
  clear wn0
  have B0 := Lib.hid (Below.refl w.heap.size w)
  go_enter Try.func5, Try.ntmps5
  go_wp2_with fail
  (with_reducible refine (ag.specDb n0 _).mono ?_)
  rintro e w1 ⟨A2, m3, c4, rfl, ho, hb⟩
  have F5 := Lib.hid ho
  clear ho
  have S6 := Lib.hid (hb.size)
  have B7 := Lib.hid (B0.out.trans (hb.mono B0.out.size))
  clear hb B0
  go_wp2_with fail
  (with_reducible refine (ag.implDb n0 _).mono ?_)
  rintro e w8 ⟨A9, m10, c11, rfl, ho, hb⟩
  have F12 := Lib.hid ho
  clear ho
  have S13 := Lib.hid (hb.size)
  have B14 := Lib.hid (B7.out.trans (hb.mono B7.out.size))
  have F15 := Lib.hid (F5.out.below hb)
  clear F5
  clear hb B7
  go_wp2_with fail
  (with_reducible refine (harn.eqByteS_yes (ag.dlm n0) _ _ _ _ A9 A2 m10 c11 m3 c4 _ F12.out.rd F15.out.rd).mono ?_)
  rintro e w16 ⟨rfl, hb⟩
  have S17 := Lib.hid (hb.size)
  have B18 := Lib.hid (B14.out.trans (hb.mono B14.out.size))
  have F19 := Lib.hid (F15.out.below hb)
  clear F15
  have F20 := Lib.hid (F12.out.below hb)
  clear F12
  clear hb B14
  go_wp2_with fail
  (with_reducible refine (harn.markByteS (ag.dlm n0) _ _ A9 m10 c11 1 _ F20.out (by omega) (by  omega) (by have l1 := F20.out.len; have u1 := ag.dlm_len n0;  omega)).mono ?_)
  rintro e w21 ⟨rfl, ho, hb⟩
  have N23 := Lib.hid (show m10 ≤ 67108864 from (by have l1 := F20.out.len; have u1 := ag.dlm_len n0;  omega))
  have F22 := Lib.hid ho
  clear ho
  have S24 := Lib.hid (hb.size)
  have B25 := Lib.hid (B18.out.trans (hb.below (by have s0 := S6.out; have s1 := S13.out; have s2 := S17.out; omega) B18.out.size))
  have F26 := Lib.hid (F19.out.tch hb (by have s0 := S6.out; have s1 := S13.out; have s2 := S17.out; have s3 := S24.out; omega))
  clear F19
  clear hb B18
  clear F20
  go_wp2_with fail
  (with_reducible refine (harn.heldByteS _ _ A9 m10 c11 1 _ F22.out.rd (by omega) (by have n0 := N23.out; omega) N23.out).mono ?_)
  rintro e w27 ⟨rfl, rfl⟩
  go_wp2_with fail
  (with_reducible refine (ag.implDb n0 _).mono ?_)
  rintro e w28 ⟨A29, m30, c31, rfl, ho, hb⟩
  have F32 := Lib.hid ho
  clear ho
  have S33 := Lib.hid (hb.size)
  have B34 := Lib.hid (B25.out.trans (hb.mono B25.out.size))
  have F35 := Lib.hid (F26.out.below hb)
  clear F26
  have F36 := Lib.hid (F22.out.below hb)
  clear F22
  clear hb B25
  go_wp2_with fail
  (with_reducible refine (harn.eqByteS_yes (ag.dlm n0) _ _ _ _ A29 A2 m30 c31 m3 c4 _ F32.out.rd F35.out.rd).mono ?_)
  rintro e w37 ⟨rfl, hb⟩
  have S38 := Lib.hid (hb.size)
  have B39 := Lib.hid (B34.out.trans (hb.mono B34.out.size))
  have F40 := Lib.hid (F35.out.below hb)
  clear F35
  have F41 := Lib.hid (F36.out.below hb)
  clear F36
  have F42 := Lib.hid (F32.out.below hb)
  clear F32
  clear hb B34
  go_wp2_with fail
  (with_reducible refine (harn.heldByteS _ _ A9 m10 c11 1 _ F41.out.rd (by omega) (by have n0 := N23.out; omega) N23.out).mono ?_)
  rintro e w43 ⟨rfl, rfl⟩
  go_wp2_with fail
  go_ret
  exact ⟨rfl, B39.out⟩
end Go.Proofs.Ythgbmcdfbinpkaa.xExactDelimiterBytes
