/- The law function of EqualHeaders returns true and leaves what was there. Condition: none. -/
import Derived.Test.YtdelpepepbkjmaaPh1
import Derived.Deep.RegionHeld3
namespace Go.Proofs.Ytdelpepepbkjmaa.xExactEqualHeaders
open Go.RowKit sl harn phs
set_option linter.unusedVariables false
set_option maxRecDepth 100000 in
set_option maxHeartbeats 4000000 in
theorem walk (r : Int) (w0_0 : (Lit.int .i64 r).wf = true) (l : Int) (w0_1 : (Lit.int .i64 l).wf = true) (s : Int) (w0_2 : (Lit.int .i64 s).wf = true) (r' : Int) (w1_0 : (Lit.int .i64 r').wf = true) (l' : Int) (w1_1 : (Lit.int .i64 l').wf = true) (s' : Int) (w1_2 : (Lit.int .i64 s').wf = true) (w : World) :
    Calls Try.prog 10 #[.agg #[.int .i64 r, .int .i64 l, .int .i64 s], .agg #[.int .i64 r', .int .i64 l', .int .i64 s']] w fun e w' => e = .returned (.bool true) ∧ Below w.heap.size w w' := by
  obtain ⟨v, hv⟩ : ∃ v, eqh r l s r' l' s' = v := ⟨_, rfl⟩
  have HV := Lib.hid hv
  clear hv w0_0 w0_1 w0_2 w1_0 w1_1 w1_2
  go_enter Try.func10, Try.ntmps10
  go_wp2_with fail
  obtain ⟨w1, hW⟩ : ∃ w1, (w.alloc (.cells #[.int .i64 r, .int .i64 l, .int .i64 s] 34)).alloc (.cells #[.int .i64 r', .int .i64 l', .int .i64 s'] 34) = w1 := ⟨_, rfl⟩
  rw [hW]
  have B1 := Lib.hid (show Below w.heap.size w w1.drew from Below.drew (show Below w.heap.size w w1 by rw [← hW]; exact below_box2 _ _ _))
  have X1 := Lib.hid (show LBox w1.drew w.heap.size r l s from (show LBox w1 w.heap.size r l s by rw [← hW]; exact (LBox.made w r l s).below (below_box _ _)))
  have Y1 := Lib.hid (show LBox w1.drew (w.heap.size + 1) r' l' s' from (show LBox w1 (w.heap.size + 1) r' l' s' by rw [← hW]; have := LBox.made (w.alloc (.cells #[.int .i64 r, .int .i64 l, .int .i64 s] 34)) r' l' s'; simpa using this))
  clear hW
  have x0 := X1.out.c0
  have x1 := X1.out.c1
  have x2 := X1.out.c2
  have y0 := Y1.out.c0
  have y1 := Y1.out.c1
  have y2 := Y1.out.c2
  go_region_held3 (fun w' => (w'.cell? ⟨w.heap.size, 0, none⟩ = some (.int .i64 r) ∧ w'.cell? ⟨w.heap.size, 1, none⟩ = some (.int .i64 l) ∧ w'.cell? ⟨w.heap.size, 2, none⟩ = some (.int .i64 s)) ∧ w'.cell? ⟨w.heap.size + 1, 0, none⟩ = some (.int .i64 r') ∧ w'.cell? ⟨w.heap.size + 1, 1, none⟩ = some (.int .i64 l') ∧ w'.cell? ⟨w.heap.size + 1, 2, none⟩ = some (.int .i64 s')) (first | exact ⟨⟨x0, x1, x2⟩, y0, y1, y2⟩ | exact ⟨⟨a0, a1, a2⟩, b0, b1, b2⟩ | exact ⟨⟨c0, c1, c2⟩, d0, d1, d2⟩ | exact ⟨⟨e0, e1, e2⟩, f0, f1, f2⟩)
    (first
    | (have g9 := a0; clear g9; go_at_call 19; refine (toHdr r' l' s' _).mono ?_; rintro e w3 ⟨rfl, hb⟩; have X3 := Lib.hid (X2.out.below hb); have Y3 := Lib.hid (Y2.out.below hb); have B3 := Lib.hid (B2.out.trans (hb.mono B2.out.size)); have c0 := X3.out.c0; have c1 := X3.out.c1; have c2 := X3.out.c2; have d0 := Y3.out.c0; have d1 := Y3.out.c1; have d2 := Y3.out.c2; clear hb)
    | (go_at_call 19; refine (toHdr r l s _).mono ?_; rintro e w2 ⟨rfl, hb⟩; have X2 := Lib.hid (X1.out.below hb); have Y2 := Lib.hid (Y1.out.below hb); have B2 := Lib.hid (B1.out.trans (hb.mono B1.out.size)); have a0 := X2.out.c0; have a1 := X2.out.c1; have a2 := X2.out.c2; have b0 := Y2.out.c0; have b1 := Y2.out.c1; have b2 := Y2.out.c2; clear hb)
    | (go_at_call 36; refine (specEqh r l s r' l' s' _).mono ?_; rw [HV.out]; rintro e w4 ⟨rfl, hb⟩; have X4 := Lib.hid (X3.out.below hb); have Y4 := Lib.hid (Y3.out.below hb); have B4 := Lib.hid (B3.out.trans (hb.mono B3.out.size)); have e0 := X4.out.c0; have e1 := X4.out.c1; have e2 := X4.out.c2; have f0 := Y4.out.c0; have f1 := Y4.out.c1; have f2 := Y4.out.c2; clear hb))
  have X5 := Lib.hid (show LBox w4.drew w.heap.size r l s from X4.out)
  have Y5 := Lib.hid (show LBox w4.drew (w.heap.size + 1) r' l' s' from Y4.out)
  have B5 := Lib.hid (Below.drew B4.out)
  clear x0 x1 x2 y0 y1 y2 a0 a1 a2 b0 b1 b2 c0 c1 c2 d0 d1 d2
  have z0 := e0
  have z1 := e1
  have z2 := e2
  have u0 := f0
  have u1 := f1
  have u2 := f2
  clear e0 e1 e2 f0 f1 f2 X1 Y1 B1 X2 Y2 B2 X3 Y3 B3
  go_wp2_with fail
  have x0 := X5.out.c0
  have x1 := X5.out.c1
  have x2 := X5.out.c2
  have y0 := Y5.out.c0
  have y1 := Y5.out.c1
  have y2 := Y5.out.c2
  go_region_held3 (fun w' => (w'.cell? ⟨w.heap.size, 0, none⟩ = some (.int .i64 r) ∧ w'.cell? ⟨w.heap.size, 1, none⟩ = some (.int .i64 l) ∧ w'.cell? ⟨w.heap.size, 2, none⟩ = some (.int .i64 s)) ∧ w'.cell? ⟨w.heap.size + 1, 0, none⟩ = some (.int .i64 r') ∧ w'.cell? ⟨w.heap.size + 1, 1, none⟩ = some (.int .i64 l') ∧ w'.cell? ⟨w.heap.size + 1, 2, none⟩ = some (.int .i64 s')) (first | exact ⟨⟨x0, x1, x2⟩, y0, y1, y2⟩ | exact ⟨⟨a0, a1, a2⟩, b0, b1, b2⟩ | exact ⟨⟨c0, c1, c2⟩, d0, d1, d2⟩ | exact ⟨⟨e0, e1, e2⟩, f0, f1, f2⟩)
    (first
    | (have g9 := a0; clear g9; go_at_call 19; refine (toHdr r' l' s' _).mono ?_; rintro e w7 ⟨rfl, hb⟩; have X7 := Lib.hid (X6.out.below hb); have Y7 := Lib.hid (Y6.out.below hb); have B7 := Lib.hid (B6.out.trans (hb.mono B6.out.size)); have c0 := X7.out.c0; have c1 := X7.out.c1; have c2 := X7.out.c2; have d0 := Y7.out.c0; have d1 := Y7.out.c1; have d2 := Y7.out.c2; clear hb)
    | (go_at_call 19; refine (toHdr r l s _).mono ?_; rintro e w6 ⟨rfl, hb⟩; have X6 := Lib.hid (X5.out.below hb); have Y6 := Lib.hid (Y5.out.below hb); have B6 := Lib.hid (B5.out.trans (hb.mono B5.out.size)); have a0 := X6.out.c0; have a1 := X6.out.c1; have a2 := X6.out.c2; have b0 := Y6.out.c0; have b1 := Y6.out.c1; have b2 := Y6.out.c2; clear hb)
    | (go_at_call 18; refine (implEqh r l s r' l' s' _).mono ?_; rw [HV.out]; rintro e w8 ⟨rfl, hb⟩; have X8 := Lib.hid (X7.out.below hb); have Y8 := Lib.hid (Y7.out.below hb); have B8 := Lib.hid (B7.out.trans (hb.mono B7.out.size)); have e0 := X8.out.c0; have e1 := X8.out.c1; have e2 := X8.out.c2; have f0 := Y8.out.c0; have f1 := Y8.out.c1; have f2 := Y8.out.c2; clear hb))
  go_wp2_with fail
  go_ret
  exact ⟨rfl, B8.out⟩
end Go.Proofs.Ytdelpepepbkjmaa.xExactEqualHeaders
