/- The law function of FormatInt returns true and leaves memory as it was, but for new blocks. Conditions: the argument is a 64-bit integer; the table of powers of ten reads as laid. -/
import Derived.Test.YtmdncnjafkmkgaaDoorForm
import Derived.Test.YtmdncnjafkmkgaaDoorFacts
namespace Go.Proofs.YtmdncnjafkmkgaaDoor.formLaw
open Go.RowKit

theorem walk (n : Int) (wn : (Lit.int .i64 n).wf = true) (w : World) (ht : facts.Tab w) :
    Calls Tryd.prog 4 #[.int .i64 n] w fun e w' => e = .returned (.bool true) ∧ Below w.heap.size w w' := by
  obtain ⟨h0, h1⟩ : -9223372036854775808 ≤ n ∧ n ≤ 9223372036854775807 := by
    have e1 : IntKind.i64.min = -9223372036854775808 := rfl
    have e2 : IntKind.i64.max = 9223372036854775807 := rfl
    simp [Lit.wf, e1, e2] at wn; omega
  have HA := Lib.hid (And.intro h0 h1)
  have HT := Lib.hid ht
  clear h0 h1 ht wn
  go_enter Tryd.func4, Tryd.ntmps4
  go_wp2_with (first
    | (go_at_call 14; refine (form.specFormat n HA.out.1 HA.out.2 _).mono ?_; rintro e w1 ⟨rfl, hb1⟩; have B1 := Lib.hid hb1; clear hb1)
    | (go_at_call 10; refine (form.implFormat n HA.out.1 HA.out.2 _ (HT.out.below B1.out)).mono ?_; rintro e w2 ⟨rfl, hb2⟩; have B2 := Lib.hid hb2; clear hb2))
  go_ret
  exact ⟨rfl, B1.out.trans (B2.out.mono B1.out.size)⟩
end Go.Proofs.YtmdncnjafkmkgaaDoor.formLaw
