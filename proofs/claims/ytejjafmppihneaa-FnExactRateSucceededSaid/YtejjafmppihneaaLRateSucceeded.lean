/- The law function of FnExactRateSucceeded returns true and leaves what was there. Condition: none. -/
import Derived.Test.YtejjafmppihneaaRt4
namespace Go.Proofs.Ytejjafmppihneaa.xExactRateSucceeded
open Go.RowKit sl harn bx stw ra
set_option linter.unusedVariables false
set_option linter.unusedSimpArgs false

set_option maxRecDepth 100000 in
set_option maxHeartbeats 4000000 in
theorem walk (r g b t : Int) (p : Bool) (w : World) :
    Calls Try.prog 7 #[.agg #[.int .i64 r, .int .i64 g, .int .i64 b, .int .i64 t, .bool p]] w (fun e w' => e = .returned (.bool true) ∧ Below w.heap.size w w') := by
  obtain ⟨⟨x0, x1, x2, x3, x4⟩, hx⟩ : ∃ x, su ⟨r, g, b, t, p⟩ = x := ⟨_, rfl⟩
  have HX := Lib.hid hx
  clear hx
  go_enter Try.func7, Try.ntmps7
  go_wp2_with fail
  obtain ⟨w0, hW⟩ : ∃ w0, w.alloc (.cells #[.int .i64 r, .int .i64 g, .int .i64 b, .int .i64 t, .bool p] 41) = w0 := ⟨_, rfl⟩
  rw [hW]
  have B0 := Lib.hid (show Below w.heap.size w w0 by rw [← hW]; exact (Below.refl _ _).alloc (by simp <;> omega) _)
  have X0 := Lib.hid (show Bx 41 w0 (w.heap.size) #[.int .i64 r, .int .i64 g, .int .i64 b, .int .i64 t, .bool p] by
      rw [← hW]
      have hh := Bx.made 41 w #[.int .i64 r, .int .i64 g, .int .i64 b, .int .i64 t, .bool p]
      exact hh)
  clear hW
  have LTX := Lib.hid X0.out.lt
  go_wp2_with (refine stw.list_load rfl 41 _ rfl (w.heap.size) rfl 41 _ X0.out Try.underlying41 rfl szLR ?_)
  (with_reducible refine (toR r g b t p _).mono ?_)
  rintro e w1 ⟨rfl, hb⟩
  have SS1 := Lib.hid hb.size
  have B1 := Lib.hid (B0.out.trans (hb.mono B0.out.size))
  have X1 := Lib.hid (X0.out.below hb)
  clear hb  B0 X0
  go_wp2_with fail
  (with_reducible refine (specSu r g b t p _).mono ?_)
  rintro e w2 hp
  obtain ⟨rfl, hb⟩ := r_parts HX.out hp
  clear hp
  have SS2 := Lib.hid hb.size
  have B2 := Lib.hid (B1.out.trans (hb.mono B1.out.size))
  have X2 := Lib.hid (X1.out.below hb)
  clear hb  B1 X1
  obtain ⟨bN, hbb⟩ : ∃ b, w2.heap.size = b := ⟨_, rfl⟩
  go_upto_region 2 with fail
  generalize hW : w2.alloc (.cells #[.int .i64 x0, .int .i64 x1, .int .i64 x2, .int .i64 x3, .bool x4] 32) = w3
  have LN := Lib.hid (show w.heap.size ≤ bN ∧ w.heap.size < bN by have h1 := B2.out.size; have h2X := X2.out.lt; have h3 := hbb; omega)
  have N3 := Lib.hid (show Bx 32 w3 bN #[.int .i64 x0, .int .i64 x1, .int .i64 x2, .int .i64 x3, .bool x4] by rw [← hW, ← hbb]; exact Bx.made _ _ _)
  have hb : Below w2.heap.size w2 w3 := by rw [← hW]; exact below_box _ _
  (try rw [hbb])
  clear hW hbb
  have SS3 := Lib.hid hb.size
  have B3 := Lib.hid (B2.out.trans (hb.mono B2.out.size))
  have X3 := Lib.hid (X2.out.below hb)
  clear hb B2 X2
  have LWN := Lib.hid N3.out.lt
  go_wp2_with (refine stw.list_load rfl 41 _ rfl (w.heap.size) rfl 41 _ X3.out Try.underlying41 rfl szLR ?_)
  (with_reducible refine (toR r g b t p _).mono ?_)
  rintro e w4 ⟨rfl, hb⟩
  have SS4 := Lib.hid hb.size
  have B4 := Lib.hid (B3.out.trans (hb.mono B3.out.size))
  have X4 := Lib.hid (X3.out.below hb)
  have N4 := Lib.hid (N3.out.below hb)
  clear hb  B3 X3 N3
  go_wp2_with fail
  (with_reducible refine (implSu r g b t p _).mono ?_)
  rintro e w5 hp
  obtain ⟨rfl, hb⟩ := r_parts HX.out hp
  clear hp
  have SS5 := Lib.hid hb.size
  have B5 := Lib.hid (B4.out.trans (hb.mono B4.out.size))
  have X5 := Lib.hid (X4.out.below hb)
  have N5 := Lib.hid (N4.out.below hb)
  clear hb  B4 X4 N4
  obtain ⟨bM, hbb⟩ : ∃ b, w5.heap.size = b := ⟨_, rfl⟩
  go_upto_region 3 with fail
  generalize hW : w5.alloc (.cells #[.int .i64 x0, .int .i64 x1, .int .i64 x2, .int .i64 x3, .bool x4] 32) = w6
  have LM := Lib.hid (show w.heap.size ≤ bM ∧ w.heap.size < bM ∧ bN < bM by have h1 := B5.out.size; have h2X := X5.out.lt; have h2N := N5.out.lt; have h3 := hbb; omega)
  have M6 := Lib.hid (show Bx 32 w6 bM #[.int .i64 x0, .int .i64 x1, .int .i64 x2, .int .i64 x3, .bool x4] by rw [← hW, ← hbb]; exact Bx.made _ _ _)
  have hb : Below w5.heap.size w5 w6 := by rw [← hW]; exact below_box _ _
  (try rw [hbb])
  clear hW hbb
  have SS6 := Lib.hid hb.size
  have B6 := Lib.hid (B5.out.trans (hb.mono B5.out.size))
  have X6 := Lib.hid (X5.out.below hb)
  have N6 := Lib.hid (N5.out.below hb)
  clear hb B5 X5 N5
  have LWM := Lib.hid M6.out.lt
  go_wp2_with (first | (refine stw.list_load rfl 32 _ rfl (bM) rfl 32 _ M6.out Try.underlying32 rfl szR ?_) | (refine stw.list_load rfl 32 _ rfl (bN) rfl 32 _ N6.out Try.underlying32 rfl szR ?_))
  (with_reducible refine (eqR_yes x0 x1 x2 x3 x4 _).mono ?_)
  rintro e w7 ⟨rfl, hb⟩
  have SS7 := Lib.hid hb.size
  have B7 := Lib.hid (B6.out.trans (hb.mono B6.out.size))
  have X7 := Lib.hid (X6.out.below hb)
  have N7 := Lib.hid (N6.out.below hb)
  have M7 := Lib.hid (M6.out.below hb)
  clear hb  B6 X6 N6 M6
  go_wp2_with fail
  go_ret
  exact ⟨rfl, B7.out⟩
end Go.Proofs.Ytejjafmppihneaa.xExactRateSucceeded
