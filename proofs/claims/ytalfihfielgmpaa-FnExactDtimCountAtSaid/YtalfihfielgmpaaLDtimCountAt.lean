/- The law function of FnExactDtimCountAt returns true and leaves what was there. Condition: the slices among the arguments are slices that came in. -/
import Derived.Test.YtalfihfielgmpaaEnd24
namespace Go.Proofs.Ytalfihfielgmpaa.xExactDtimCountAt
open Go.RowKit sl harn
set_option linter.unusedVariables false
set_option maxRecDepth 100000 in
set_option maxHeartbeats 4000000 in
theorem walk (n0 : Int) (wn0 : (Lit.int .i64 n0).wf = true) (n1 : Int) (wn1 : (Lit.int .i64 n1).wf = true) (w : World)  :
    Calls Try.prog 10 #[.int .i64 n0, .int .i64 n1] w fun e w' => e = .returned (.bool true) ∧ Below w.heap.size w w' := by
  have W0 := Lib.hid wn0
  clear wn0
  have W1 := Lib.hid wn1
  clear wn1
  obtain ⟨t2a, ht⟩ : ∃ x0, bcm.dca n0 n1 = x0 := ⟨_, rfl⟩
  have t2h := Lib.hid ht
  clear ht
  have B0 := Lib.hid (Below.refl w.heap.size w)
  go_enter Try.func10, Try.ntmps10
  go_wp2_with fail
  (with_reducible refine (be.specDcB n0 n1 _).mono ?_)
  rintro e w1 hpost
  obtain ⟨rfl, hb⟩ := bx.n_parts t2h.out hpost
  have S3 := Lib.hid (hb.size)
  have B4 := Lib.hid (B0.out.trans (hb.mono B0.out.size))
  clear hb B0
  go_wp2_with fail
  (with_reducible refine (be.implDcB n0 n1 _).mono ?_)
  rintro e w5 hpost
  obtain ⟨rfl, hb⟩ := bx.n_parts t2h.out hpost
  have S6 := Lib.hid (hb.size)
  have B7 := Lib.hid (B4.out.trans (hb.mono B4.out.size))
  clear hb B4
  go_wp2_with fail
  go_ret
  exact ⟨rfl, B7.out⟩
end Go.Proofs.Ytalfihfielgmpaa.xExactDtimCountAt
