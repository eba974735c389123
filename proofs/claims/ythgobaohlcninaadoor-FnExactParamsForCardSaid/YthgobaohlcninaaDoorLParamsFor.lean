/- The law function of FnExactParamsFor returns true and leaves what was there. Condition: the table of parameters reads as laid. -/
import Derived.Test.YthgobaohlcninaaDoorAc4
namespace Go.Proofs.YthgobaohlcninaaDoor.xExactParamsFor
open Go.RowKit sl harn
set_option linter.unusedVariables false
set_option maxRecDepth 100000 in
set_option maxHeartbeats 4000000 in
theorem walk (n : Int) (wn : (Lit.int .i64 n).wf = true) (w : World) (h : bx.Tbl w) :
    Calls Tryd.prog 4 #[.int .i64 n] w fun e w' => e = .returned (.bool true) ∧ Below w.heap.size w w' := by
  have HT := Lib.hid h
  clear h wn
  obtain ⟨q, hq⟩ : ∃ q, bx.pvs n = q := ⟨_, rfl⟩
  obtain ⟨q1, q2, q3, q4⟩ := q
  have HQ := Lib.hid hq
  clear hq
  go_enter Tryd.func4, Tryd.ntmps4
  go_wp2_with fail
  (with_reducible refine (bx.specPar n _).mono ?_)
  rw [HQ.out]
  rintro e w1 ⟨rfl, hb⟩
  have B1 := Lib.hid hb
  clear hb
  obtain ⟨w2, hW⟩ : ∃ w2, w2 = w1.alloc (.cells #[.int .i64 q1, .int .i64 q2, .int .i64 q3, .int .i64 q4] 25) := ⟨_, rfl⟩
  have B2 := Lib.hid (show Below w.heap.size w w2 by rw [hW]; exact B1.out.alloc B1.out.size _)
  have X2 := Lib.hid (show bx.Bx 25 w2 w1.heap.size #[.int .i64 q1, .int .i64 q2, .int .i64 q3, .int .i64 q4] by rw [hW]; exact bx.Bx.made _ _ _)
  go_wp2_with fail
  rw [← hW]
  have T2 := Lib.hid (HT.out.below B2.out)
  clear hW B1
  (with_reducible refine (bx.implPar n _ T2.out).mono ?_)
  rw [HQ.out]
  rintro e w3 ⟨rfl, hb⟩
  have B3 := Lib.hid (B2.out.trans (hb.mono B2.out.size))
  have X3 := Lib.hid (X2.out.below hb)
  have X4 := Lib.hid (X3.out.below (bx.below_box w3 (.cells #[.int .i64 q1, .int .i64 q2, .int .i64 q3, .int .i64 q4] 25)))
  have B4 := Lib.hid (B3.out.alloc B3.out.size (.cells #[.int .i64 q1, .int .i64 q2, .int .i64 q3, .int .i64 q4] 25))
  clear hb B2 X2 T2 X3
  have x0 : (w3.alloc (.cells #[.int .i64 q1, .int .i64 q2, .int .i64 q3, .int .i64 q4] 25)).cell? ⟨w1.heap.size, 0, none⟩ = some (.int .i64 q1) := X4.out.cell 0
  have x1 : (w3.alloc (.cells #[.int .i64 q1, .int .i64 q2, .int .i64 q3, .int .i64 q4] 25)).cell? ⟨w1.heap.size, 1, none⟩ = some (.int .i64 q2) := X4.out.cell 1
  have x2 : (w3.alloc (.cells #[.int .i64 q1, .int .i64 q2, .int .i64 q3, .int .i64 q4] 25)).cell? ⟨w1.heap.size, 2, none⟩ = some (.int .i64 q3) := X4.out.cell 2
  have x3 : (w3.alloc (.cells #[.int .i64 q1, .int .i64 q2, .int .i64 q3, .int .i64 q4] 25)).cell? ⟨w1.heap.size, 3, none⟩ = some (.int .i64 q4) := X4.out.cell 3
  go_wp2_with fail
  (with_reducible refine (bx.eqAp q1 q2 q3 q4 _).mono ?_)
  rintro e w5 ⟨rfl, hb⟩
  have B5 := Lib.hid (B4.out.trans (hb.mono B4.out.size))
  go_wp2_with fail
  go_ret
  exact ⟨rfl, B5.out⟩
end Go.Proofs.YthgobaohlcninaaDoor.xExactParamsFor
