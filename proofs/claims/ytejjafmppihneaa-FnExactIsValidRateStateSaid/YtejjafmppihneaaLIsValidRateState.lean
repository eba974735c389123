/- The law function of FnExactIsValidRateState returns true and leaves what was there. Condition: none. -/
import Derived.Test.YtejjafmppihneaaRt4
namespace Go.Proofs.Ytejjafmppihneaa.xExactIsValidRateState
open Go.RowKit sl harn bx stw ra
set_option linter.unusedVariables false
set_option linter.unusedSimpArgs false

set_option maxRecDepth 100000 in
set_option maxHeartbeats 4000000 in
theorem walk (r g b t : Int) (p : Bool) (w : World) :
    Calls Try.prog 6 #[.agg #[.int .i64 r, .int .i64 g, .int .i64 b, .int .i64 t, .bool p]] w (fun e w' => e = .returned (.bool true) ∧ Below w.heap.size w w') := by
  obtain ⟨v, hv⟩ : ∃ x, va ⟨r, g, b, t, p⟩ = x := ⟨_, rfl⟩
  have HV := Lib.hid hv
  clear hv
  go_enter Try.func6, Try.ntmps6
  go_wp2_with fail
  obtain ⟨w0, hW⟩ : ∃ w0, w.alloc (.cells #[.int .i64 r, .int .i64 g, .int .i64 b, .int .i64 t, .bool p] 41) = w0 := ⟨_, rfl⟩
  rw [hW]
  have B0 := Lib.hid (show Below w.heap.size w w0 by rw [← hW]; exact (Below.refl _ _).alloc (by simp <;> omega) _)
  have X0 := Lib.hid (show Bx 41 w0 (w.heap.size) #[.int .i64 r, .int .i64 g, .int .i64 b, .int .i64 t, .bool p] by
      rw [← hW]
      have hh := Bx.made 41 w #[.int .i64 r, .int .i64 g, .int .i64 b, .int .i64 t, .bool p]
      exact hh)
  clear hW
  have LTX := Lib.hid X0.out.lt
  go_wp2_with (refine stw.list_load rfl 41 _ rfl (w.heap.size) rfl 41 _ X0.out Try.underlying41 rfl szLR ?_)
  (with_reducible refine (toR r g b t p _).mono ?_)
  rintro e w1 ⟨rfl, hb⟩
  have SS1 := Lib.hid hb.size
  have B1 := Lib.hid (B0.out.trans (hb.mono B0.out.size))
  have X1 := Lib.hid (X0.out.below hb)
  clear hb  B0 X0
  go_wp2_with fail
  (with_reducible refine (specVa r g b t p _).mono ?_)
  rintro e w2 hp
  obtain ⟨rfl, hb⟩ := b_parts HV.out hp
  clear hp
  have SS2 := Lib.hid hb.size
  have B2 := Lib.hid (B1.out.trans (hb.mono B1.out.size))
  have X2 := Lib.hid (X1.out.below hb)
  clear hb  B1 X1
  go_wp2_with (refine stw.list_load rfl 41 _ rfl (w.heap.size) rfl 41 _ X2.out Try.underlying41 rfl szLR ?_)
  (with_reducible refine (toR r g b t p _).mono ?_)
  rintro e w3 ⟨rfl, hb⟩
  have SS3 := Lib.hid hb.size
  have B3 := Lib.hid (B2.out.trans (hb.mono B2.out.size))
  have X3 := Lib.hid (X2.out.below hb)
  clear hb  B2 X2
  go_wp2_with fail
  (with_reducible refine (implVa r g b t p _).mono ?_)
  rintro e w4 hp
  obtain ⟨rfl, hb⟩ := b_parts HV.out hp
  clear hp
  have SS4 := Lib.hid hb.size
  have B4 := Lib.hid (B3.out.trans (hb.mono B3.out.size))
  have X4 := Lib.hid (X3.out.below hb)
  clear hb  B3 X3
  cases v with
  | true =>
    go_wp2_with fail
    go_ret
    exact ⟨rfl, B4.out⟩
  | false =>
    go_wp2_with fail
    go_ret
    exact ⟨rfl, B4.out⟩
end Go.Proofs.Ytejjafmppihneaa.xExactIsValidRateState
