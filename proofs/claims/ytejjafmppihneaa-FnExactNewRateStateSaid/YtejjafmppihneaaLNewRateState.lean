/- The law function of FnExactNewRateState returns true and leaves what was there. Condition: none. -/
import Derived.Test.YtejjafmppihneaaRt4
namespace Go.Proofs.Ytejjafmppihneaa.xExactNewRateState
open Go.RowKit sl harn bx stw ra
set_option linter.unusedVariables false
set_option linter.unusedSimpArgs false

set_option maxRecDepth 100000 in
set_option maxHeartbeats 4000000 in
theorem walk (n0 : Int) (w : World) :
    Calls Try.prog 5 #[.int .i64 n0] w (fun e w' => e = .returned (.bool true) ∧ Below w.heap.size w w') := by
  obtain ⟨⟨x0, x1, x2, x3, x4⟩, hx⟩ : ∃ x, new n0 = x := ⟨_, rfl⟩
  have HX := Lib.hid hx
  clear hx
  go_enter Try.func5, Try.ntmps5
  go_wp2_with fail
  (with_reducible refine (specNew n0 _).mono ?_)
  rintro e w1 hp
  obtain ⟨rfl, hb⟩ := r_parts HX.out hp
  clear hp
  have B1 := Lib.hid hb
  clear hb
  obtain ⟨bN, hbb⟩ : ∃ b, w1.heap.size = b := ⟨_, rfl⟩
  go_upto_region 2 with fail
  generalize hW : w1.alloc (.cells #[.int .i64 x0, .int .i64 x1, .int .i64 x2, .int .i64 x3, .bool x4] 32) = w2
  have LN := Lib.hid (show w.heap.size ≤ bN by have h1 := B1.out.size;  have h3 := hbb; omega)
  have N2 := Lib.hid (show Bx 32 w2 bN #[.int .i64 x0, .int .i64 x1, .int .i64 x2, .int .i64 x3, .bool x4] by rw [← hW, ← hbb]; exact Bx.made _ _ _)
  have hb : Below w1.heap.size w1 w2 := by rw [← hW]; exact below_box _ _
  (try rw [hbb])
  clear hW hbb
  have SS2 := Lib.hid hb.size
  have B2 := Lib.hid (B1.out.trans (hb.mono B1.out.size))
  clear hb B1 
  have LWN := Lib.hid N2.out.lt
  go_wp2_with fail
  (with_reducible refine (implNew n0 _).mono ?_)
  rintro e w3 hp
  obtain ⟨rfl, hb⟩ := r_parts HX.out hp
  clear hp
  have SS3 := Lib.hid hb.size
  have B3 := Lib.hid (B2.out.trans (hb.mono B2.out.size))
  have N3 := Lib.hid (N2.out.below hb)
  clear hb  B2 N2
  obtain ⟨bM, hbb⟩ : ∃ b, w3.heap.size = b := ⟨_, rfl⟩
  go_upto_region 3 with fail
  generalize hW : w3.alloc (.cells #[.int .i64 x0, .int .i64 x1, .int .i64 x2, .int .i64 x3, .bool x4] 32) = w4
  have LM := Lib.hid (show w.heap.size ≤ bM ∧ bN < bM by have h1 := B3.out.size; have h2N := N3.out.lt; have h3 := hbb; omega)
  have M4 := Lib.hid (show Bx 32 w4 bM #[.int .i64 x0, .int .i64 x1, .int .i64 x2, .int .i64 x3, .bool x4] by rw [← hW, ← hbb]; exact Bx.made _ _ _)
  have hb : Below w3.heap.size w3 w4 := by rw [← hW]; exact below_box _ _
  (try rw [hbb])
  clear hW hbb
  have SS4 := Lib.hid hb.size
  have B4 := Lib.hid (B3.out.trans (hb.mono B3.out.size))
  have N4 := Lib.hid (N3.out.below hb)
  clear hb B3 N3
  have LWM := Lib.hid M4.out.lt
  go_wp2_with (first | (refine stw.list_load rfl 32 _ rfl (bM) rfl 32 _ M4.out Try.underlying32 rfl szR ?_) | (refine stw.list_load rfl 32 _ rfl (bN) rfl 32 _ N4.out Try.underlying32 rfl szR ?_))
  (with_reducible refine (eqR_yes x0 x1 x2 x3 x4 _).mono ?_)
  rintro e w5 ⟨rfl, hb⟩
  have SS5 := Lib.hid hb.size
  have B5 := Lib.hid (B4.out.trans (hb.mono B4.out.size))
  have N5 := Lib.hid (N4.out.below hb)
  have M5 := Lib.hid (M4.out.below hb)
  clear hb  B4 N4 M4
  go_wp2_with fail
  go_ret
  exact ⟨rfl, B5.out⟩
end Go.Proofs.Ytejjafmppihneaa.xExactNewRateState
