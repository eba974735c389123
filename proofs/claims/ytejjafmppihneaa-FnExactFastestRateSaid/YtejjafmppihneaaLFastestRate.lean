/- The law function of FnExactFastestRate returns true and leaves what was there. Condition: none. -/
import Derived.Test.YtejjafmppihneaaFr1
namespace Go.Proofs.Ytejjafmppihneaa.xExactFastestRate
open Go.RowKit sl harn ra
set_option linter.unusedVariables false
set_option maxRecDepth 100000 in
set_option maxHeartbeats 4000000 in
theorem walk (b q : Int) (w : World) : Calls Try.prog 10 #[.int .i64 b, .int .i64 q] w fun e w' => e = .returned (.bool true) ∧ Below w.heap.size w w' := by
  obtain ⟨v, hv⟩ : ∃ v, fastest b q = v := ⟨_, rfl⟩
  have HV := Lib.hid hv
  clear hv
  go_enter Try.func10, Try.ntmps10
  go_wp2_with fail
  (with_reducible refine (specFr b q _).mono ?_)
  rintro e w1 hp
  obtain ⟨rfl, hb⟩ := airs.Num.parts HV.out hp
  have B1 := Lib.hid hb
  clear hp hb
  go_wp2_with fail
  (with_reducible refine (implFr b q _).mono ?_)
  rintro e w2 hp
  obtain ⟨rfl, hb⟩ := airs.Num.parts HV.out hp
  have B2 := Lib.hid (B1.out.trans (hb.mono B1.out.size))
  clear hp hb B1
  go_wp2_with fail
  go_ret
  exact ⟨rfl, B2.out⟩
end Go.Proofs.Ytejjafmppihneaa.xExactFastestRate
