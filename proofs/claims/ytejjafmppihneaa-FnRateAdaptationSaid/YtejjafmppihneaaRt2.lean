/- New states, successes, program and specification. Condition: none. -/
import Derived.Test.YtejjafmppihneaaRt1
namespace Go.Proofs.Ytejjafmppihneaa.ra
open Go.RowKit sl harn rng bx stw airs
set_option linter.unusedVariables false
set_option linter.unusedSimpArgs false

set_option maxRecDepth 100000 in
set_option maxHeartbeats 4000000 in
theorem implNew (r : Int) (w : World) :
    Calls Try.prog 28 #[.int .i64 r] w (RPost (new r) w) := by
  by_cases h : Vr r
  · have H1 := Lib.hid (show decide (Vr r) = true from decide_eq_true h)
    have HE := Lib.hid (show new r = ⟨r, 0, 0, 10, false⟩ by unfold Vr at h; unfold new; rw [if_pos h])
    clear h
    go_enter Try.func28, Try.ntmps28
    go_wp2_with fail
    obtain ⟨w0, hW⟩ : ∃ w0, w.alloc (.cells #[.int .i64 0, .int .i64 0, .int .i64 0, .int .i64 0, .bool false] 32) = w0 := ⟨_, rfl⟩
    rw [hW]
    have B0 := Lib.hid (show Below w.heap.size w w0 by rw [← hW]; exact (Below.refl _ _).alloc (by simp <;> omega) _)
    have Z0 := Lib.hid (show Bx 32 w0 (w.heap.size) #[.int .i64 0, .int .i64 0, .int .i64 0, .int .i64 0, .bool false] by
        rw [← hW]
        have hh := Bx.made 32 w #[.int .i64 0, .int .i64 0, .int .i64 0, .int .i64 0, .bool false]
        exact hh)
    clear hW
    have LTZ := Lib.hid Z0.out.lt
    (with_reducible refine (airs.implVr r _).mono ?_)
    rintro e w1 hp
    obtain ⟨rfl, hb⟩ := airs.Bit.parts H1.out hp
    clear hp
    have SS1 := Lib.hid hb.size
    have B1 := Lib.hid (B0.out.trans (hb.mono B0.out.size))
    have Z1 := Lib.hid (Z0.out.below hb)
    clear hb  B0 Z0
    go_wp2_with (first | (refine stw.list_store rfl 32 _ _ rfl (w.heap.size) #[.int .i64 r, .int .i64 0, .int .i64 0, .int .i64 10, .bool false] rfl rfl 32 _ Z1.out rfl szR (oneR _ _ _ _ _) ?_; intro wz2 hz))
    have B2 := Lib.hid (hz.on B1.out (by have hs0 := LTZ.out; have hs1 := SS1.out; first | omega | (simp <;> omega)))
    have Z2 := Lib.hid (hz.box)
    clear hz B1 Z1
    (try simp only [Exit.inBlock, Exit.then])
    refine bodyPost_ret (v := .agg #[.int .i64 r, .int .i64 0, .int .i64 0, .int .i64 10, .bool false]) ?_ rfl ?_
    · rw [results_cell1 rfl]
      exact stw.back Z2.out Try.underlying32 rfl szR
    · exact ⟨by rw [HE.out], B2.out⟩
  · have H1 := Lib.hid (show decide (Vr r) = false from decide_eq_false h)
    have HE := Lib.hid (show new r = ⟨0, 0, 0, 10, false⟩ by unfold Vr at h; unfold new; rw [if_neg h])
    clear h
    go_enter Try.func28, Try.ntmps28
    go_wp2_with fail
    obtain ⟨w0, hW⟩ : ∃ w0, w.alloc (.cells #[.int .i64 0, .int .i64 0, .int .i64 0, .int .i64 0, .bool false] 32) = w0 := ⟨_, rfl⟩
    rw [hW]
    have B0 := Lib.hid (show Below w.heap.size w w0 by rw [← hW]; exact (Below.refl _ _).alloc (by simp <;> omega) _)
    have Z0 := Lib.hid (show Bx 32 w0 (w.heap.size) #[.int .i64 0, .int .i64 0, .int .i64 0, .int .i64 0, .bool false] by
        rw [← hW]
        have hh := Bx.made 32 w #[.int .i64 0, .int .i64 0, .int .i64 0, .int .i64 0, .bool false]
        exact hh)
    clear hW
    have LTZ := Lib.hid Z0.out.lt
    (with_reducible refine (airs.implVr r _).mono ?_)
    rintro e w1 hp
    obtain ⟨rfl, hb⟩ := airs.Bit.parts H1.out hp
    clear hp
    have SS1 := Lib.hid hb.size
    have B1 := Lib.hid (B0.out.trans (hb.mono B0.out.size))
    have Z1 := Lib.hid (Z0.out.below hb)
    clear hb  B0 Z0
    go_wp2_with (first | (refine stw.list_store rfl 32 _ _ rfl (w.heap.size) #[.int .i64 0, .int .i64 0, .int .i64 0, .int .i64 10, .bool false] rfl rfl 32 _ Z1.out rfl szR (oneR _ _ _ _ _) ?_; intro wz2 hz))
    have B2 := Lib.hid (hz.on B1.out (by have hs0 := LTZ.out; have hs1 := SS1.out; first | omega | (simp <;> omega)))
    have Z2 := Lib.hid (hz.box)
    clear hz B1 Z1
    (try simp only [Exit.inBlock, Exit.then])
    refine bodyPost_ret (v := .agg #[.int .i64 0, .int .i64 0, .int .i64 0, .int .i64 10, .bool false]) ?_ rfl ?_
    · rw [results_cell1 rfl]
      exact stw.back Z2.out Try.underlying32 rfl szR
    · exact ⟨by rw [HE.out], B2.out⟩
set_option maxRecDepth 100000 in
set_option maxHeartbeats 4000000 in
theorem specNew (r : Int) (w : World) :
    Calls Try.prog 27 #[.int .i64 r] w (RPost (new r) w) := by
  by_cases h : Vr r
  · have H1 := Lib.hid (show decide (Vr r) = true from decide_eq_true h)
    have HE := Lib.hid (show new r = ⟨r, 0, 0, 10, false⟩ by unfold Vr at h; unfold new; rw [if_pos h])
    clear h
    go_enter Try.func27, Try.ntmps27
    go_wp2_with fail
    obtain ⟨w0, hW⟩ : ∃ w0, w.alloc (.cells #[.int .i64 0, .int .i64 0, .int .i64 0, .int .i64 0, .bool false] 32) = w0 := ⟨_, rfl⟩
    rw [hW]
    have B0 := Lib.hid (show Below w.heap.size w w0 by rw [← hW]; exact (Below.refl _ _).alloc (by simp <;> omega) _)
    have Z0 := Lib.hid (show Bx 32 w0 (w.heap.size) #[.int .i64 0, .int .i64 0, .int .i64 0, .int .i64 0, .bool false] by
        rw [← hW]
        have hh := Bx.made 32 w #[.int .i64 0, .int .i64 0, .int .i64 0, .int .i64 0, .bool false]
        exact hh)
    clear hW
    have LTZ := Lib.hid Z0.out.lt
    (with_reducible refine (airs.specVr r _).mono ?_)
    rintro e w1 hp
    obtain ⟨rfl, hb⟩ := airs.Bit.parts H1.out hp
    clear hp
    have SS1 := Lib.hid hb.size
    have B1 := Lib.hid (B0.out.trans (hb.mono B0.out.size))
    have Z1 := Lib.hid (Z0.out.below hb)
    clear hb  B0 Z0
    go_wp2_with (first | (refine stw.list_store rfl 32 _ _ rfl (w.heap.size) #[.int .i64 r, .int .i64 0, .int .i64 0, .int .i64 10, .bool false] rfl rfl 32 _ Z1.out rfl szR (oneR _ _ _ _ _) ?_; intro wz2 hz))
    have B2 := Lib.hid (hz.on B1.out (by have hs0 := LTZ.out; have hs1 := SS1.out; first | omega | (simp <;> omega)))
    have Z2 := Lib.hid (hz.box)
    clear hz B1 Z1
    (try simp only [Exit.inBlock, Exit.then])
    refine bodyPost_ret (v := .agg #[.int .i64 r, .int .i64 0, .int .i64 0, .int .i64 10, .bool false]) ?_ rfl ?_
    · rw [results_cell1 rfl]
      exact stw.back Z2.out Try.underlying32 rfl szR
    · exact ⟨by rw [HE.out], B2.out⟩
  · have H1 := Lib.hid (show decide (Vr r) = false from decide_eq_false h)
    have HE := Lib.hid (show new r = ⟨0, 0, 0, 10, false⟩ by unfold Vr at h; unfold new; rw [if_neg h])
    clear h
    go_enter Try.func27, Try.ntmps27
    go_wp2_with fail
    obtain ⟨w0, hW⟩ : ∃ w0, w.alloc (.cells #[.int .i64 0, .int .i64 0, .int .i64 0, .int .i64 0, .bool false] 32) = w0 := ⟨_, rfl⟩
    rw [hW]
    have B0 := Lib.hid (show Below w.heap.size w w0 by rw [← hW]; exact (Below.refl _ _).alloc (by simp <;> omega) _)
    have Z0 := Lib.hid (show Bx 32 w0 (w.heap.size) #[.int .i64 0, .int .i64 0, .int .i64 0, .int .i64 0, .bool false] by
        rw [← hW]
        have hh := Bx.made 32 w #[.int .i64 0, .int .i64 0, .int .i64 0, .int .i64 0, .bool false]
        exact hh)
    clear hW
    have LTZ := Lib.hid Z0.out.lt
    (with_reducible refine (airs.specVr r _).mono ?_)
    rintro e w1 hp
    obtain ⟨rfl, hb⟩ := airs.Bit.parts H1.out hp
    clear hp
    have SS1 := Lib.hid hb.size
    have B1 := Lib.hid (B0.out.trans (hb.mono B0.out.size))
    have Z1 := Lib.hid (Z0.out.below hb)
    clear hb  B0 Z0
    go_wp2_with (first | (refine stw.list_store rfl 32 _ _ rfl (w.heap.size) #[.int .i64 0, .int .i64 0, .int .i64 0, .int .i64 10, .bool false] rfl rfl 32 _ Z1.out rfl szR (oneR _ _ _ _ _) ?_; intro wz2 hz))
    have B2 := Lib.hid (hz.on B1.out (by have hs0 := LTZ.out; have hs1 := SS1.out; first | omega | (simp <;> omega)))
    have Z2 := Lib.hid (hz.box)
    clear hz B1 Z1
    (try simp only [Exit.inBlock, Exit.then])
    refine bodyPost_ret (v := .agg #[.int .i64 0, .int .i64 0, .int .i64 0, .int .i64 10, .bool false]) ?_ rfl ?_
    · rw [results_cell1 rfl]
      exact stw.back Z2.out Try.underlying32 rfl szR
    · exact ⟨by rw [HE.out], B2.out⟩
set_option maxRecDepth 100000 in
set_option maxHeartbeats 4000000 in
theorem implSu (r g b t : Int) (p : Bool) (w : World) :
    Calls Try.prog 22 #[.agg #[.int .i64 r, .int .i64 g, .int .i64 b, .int .i64 t, .bool p]] w (RPost (su ⟨r, g, b, t, p⟩) w) := by
  obtain ⟨v, hv⟩ : ∃ x, va ⟨r, g, b, t, p⟩ = x := ⟨_, rfl⟩
  have HV := Lib.hid hv
  clear hv
  go_enter Try.func22, Try.ntmps22
  go_wp2_with fail
  obtain ⟨w0, hW⟩ : ∃ w0, (w.alloc (.cells #[.int .i64 r, .int .i64 g, .int .i64 b, .int .i64 t, .bool p] 32)).alloc (.cells #[.int .i64 0, .int .i64 0, .int .i64 0, .int .i64 0, .bool false] 32) = w0 := ⟨_, rfl⟩
  rw [hW]
  have B0 := Lib.hid (show Below w.heap.size w w0 by rw [← hW]; exact ((Below.refl _ _).alloc (by simp <;> omega) _).alloc (by simp <;> omega) _)
  have X0 := Lib.hid (show Bx 32 w0 (w.heap.size) #[.int .i64 r, .int .i64 g, .int .i64 b, .int .i64 t, .bool p] by
      rw [← hW]
      have hh := Bx.made 32 w #[.int .i64 r, .int .i64 g, .int .i64 b, .int .i64 t, .bool p]
      exact (hh.below (below_box _ _)))
  have Z0 := Lib.hid (show Bx 32 w0 (w.heap.size + 1) #[.int .i64 0, .int .i64 0, .int .i64 0, .int .i64 0, .bool false] by
      rw [← hW]
      have hh : Bx 32 ((w.alloc (.cells #[.int .i64 r, .int .i64 g, .int .i64 b, .int .i64 t, .bool p] 32)).alloc (.cells #[.int .i64 0, .int .i64 0, .int .i64 0, .int .i64 0, .bool false] 32)) (w.heap.size + 1) #[.int .i64 0, .int .i64 0, .int .i64 0, .int .i64 0, .bool false] := by have hh := Bx.made 32 (w.alloc (.cells #[.int .i64 r, .int .i64 g, .int .i64 b, .int .i64 t, .bool p] 32)) #[.int .i64 0, .int .i64 0, .int .i64 0, .int .i64 0, .bool false]; simpa using hh
      exact hh)
  clear hW
  have LTX := Lib.hid X0.out.lt
  have LTZ := Lib.hid Z0.out.lt
  go_wp2_with (refine stw.list_load rfl 32 _ rfl (w.heap.size) rfl 32 _ X0.out Try.underlying32 rfl szR ?_)
  (with_reducible refine (implVa r g b t p _).mono ?_)
  rintro e w1 hp
  obtain ⟨rfl, hb⟩ := b_parts HV.out hp
  clear hp
  have SS1 := Lib.hid hb.size
  have B1 := Lib.hid (B0.out.trans (hb.mono B0.out.size))
  have X1 := Lib.hid (X0.out.below hb)
  have Z1 := Lib.hid (Z0.out.below hb)
  clear hb  B0 X0 Z0
  cases v with
  | true =>
    have hv := of_decide_eq_true HV.out
    obtain ⟨⟨a1, a2⟩, a3, ⟨a4, a5⟩, ⟨a6, a7⟩, a8, a9⟩ := hv
    dsimp only at a1 a2 a3 a4 a5 a6 a7 a8 a9
    unfold Vt at a3
    have m1 : IntKind.i64.wrap (g + 1) = g + 1 := IntWalk.i64_in _ (by omega)
    have m2 : IntKind.i64.wrap (r + 1) = r + 1 := IntWalk.i64_in _ (by omega)
    clear a4 a6 a7 a8 a9
    by_cases h1 : g + 1 < t
    · have HE := Lib.hid (show su ⟨r, g, b, t, p⟩ = ⟨r, ((g + 1)), 0, t, false⟩ by unfold su; rw [if_pos (of_decide_eq_true HV.out), if_pos h1])
      have HM := Lib.hid (show (g + 1) = if t < g + 1 then t else (g + 1) by split <;> omega)
      have n1 : ¬ (g + 1 = t) := by omega
      have cX1 : w1.cell? ⟨w.heap.size, 1, none⟩ = some (.int .i64 g) := X1.out.cell 1
      have cX3 : w1.cell? ⟨w.heap.size, 3, none⟩ = some (.int .i64 t) := X1.out.cell 3
      go_wp2_with fail
      clear cX1 cX3
      (with_reducible refine (implMin (g + 1) t (g + 1) HM.out _).mono ?_)
      rintro e w2 ⟨rfl, hb⟩
      have SS2 := Lib.hid hb.size
      have B2 := Lib.hid (B1.out.trans (hb.mono B1.out.size))
      have X2 := Lib.hid (X1.out.below hb)
      have Z2 := Lib.hid (Z1.out.below hb)
      clear hb  B1 X1 Z1
      have cX0 : w2.cell? ⟨w.heap.size, 0, none⟩ = some (.int .i64 r) := X2.out.cell 0
      have cX3 : w2.cell? ⟨w.heap.size, 3, none⟩ = some (.int .i64 t) := X2.out.cell 3
      go_wp2_with (first | (refine stw.list_store rfl 32 _ _ rfl (w.heap.size + 1) #[.int .i64 r, .int .i64 ((g + 1)), .int .i64 0, .int .i64 t, .bool false] rfl rfl 32 _ Z2.out rfl szR (oneR _ _ _ _ _) ?_; intro wz3 hz))
      clear cX0 cX3
      have B3 := Lib.hid (hz.on B2.out (by have hs0 := LTX.out; have hs1 := LTZ.out; have hs2 := SS1.out; have hs3 := SS2.out; first | omega | (simp <;> omega)))
      have X3 := Lib.hid (hz.keep X2.out (by have hs0 := LTX.out; have hs1 := LTZ.out; have hs2 := SS1.out; have hs3 := SS2.out; first | omega | (simp <;> omega)))
      have Z3 := Lib.hid (hz.box)
      clear hz B2 X2 Z2
      (try simp only [Exit.inBlock, Exit.then])
      refine bodyPost_ret (v := .agg #[.int .i64 r, .int .i64 ((g + 1)), .int .i64 0, .int .i64 t, .bool false]) ?_ rfl ?_
      · rw [results_cell1 rfl]
        exact stw.back Z3.out Try.underlying32 rfl szR
      · exact ⟨by rw [HE.out], B3.out⟩
    · by_cases h2 : r < 3
      · have HE := Lib.hid (show su ⟨r, g, b, t, p⟩ = ⟨((r + 1)), 0, 0, t, true⟩ by unfold su; rw [if_pos (of_decide_eq_true HV.out), if_neg h1, if_pos h2])
        have HM := Lib.hid (show t = if t < g + 1 then t else (g + 1) by split <;> omega)
        have cX1 : w1.cell? ⟨w.heap.size, 1, none⟩ = some (.int .i64 g) := X1.out.cell 1
        have cX3 : w1.cell? ⟨w.heap.size, 3, none⟩ = some (.int .i64 t) := X1.out.cell 3
        go_wp2_with fail
        clear cX1 cX3
        (with_reducible refine (implMin (g + 1) t t HM.out _).mono ?_)
        rintro e w2 ⟨rfl, hb⟩
        have SS2 := Lib.hid hb.size
        have B2 := Lib.hid (B1.out.trans (hb.mono B1.out.size))
        have X2 := Lib.hid (X1.out.below hb)
        have Z2 := Lib.hid (Z1.out.below hb)
        clear hb  B1 X1 Z1
        have cX0 : w2.cell? ⟨w.heap.size, 0, none⟩ = some (.int .i64 r) := X2.out.cell 0
        have cX3 : w2.cell? ⟨w.heap.size, 3, none⟩ = some (.int .i64 t) := X2.out.cell 3
        go_wp2_with (first | (refine stw.list_store rfl 32 _ _ rfl (w.heap.size + 1) #[.int .i64 ((r + 1)), .int .i64 0, .int .i64 0, .int .i64 t, .bool true] rfl rfl 32 _ Z2.out rfl szR (oneR _ _ _ _ _) ?_; intro wz3 hz))
        clear cX0 cX3
        have B3 := Lib.hid (hz.on B2.out (by have hs0 := LTX.out; have hs1 := LTZ.out; have hs2 := SS1.out; have hs3 := SS2.out; first | omega | (simp <;> omega)))
        have X3 := Lib.hid (hz.keep X2.out (by have hs0 := LTX.out; have hs1 := LTZ.out; have hs2 := SS1.out; have hs3 := SS2.out; first | omega | (simp <;> omega)))
        have Z3 := Lib.hid (hz.box)
        clear hz B2 X2 Z2
        (try simp only [Exit.inBlock, Exit.then])
        refine bodyPost_ret (v := .agg #[.int .i64 ((r + 1)), .int .i64 0, .int .i64 0, .int .i64 t, .bool true]) ?_ rfl ?_
        · rw [results_cell1 rfl]
          exact stw.back Z3.out Try.underlying32 rfl szR
        · exact ⟨by rw [HE.out], B3.out⟩
      · have HE := Lib.hid (show su ⟨r, g, b, t, p⟩ = ⟨r, t, 0, t, false⟩ by unfold su; rw [if_pos (of_decide_eq_true HV.out), if_neg h1, if_neg h2])
        have HM := Lib.hid (show t = if t < g + 1 then t else (g + 1) by split <;> omega)
        have cX1 : w1.cell? ⟨w.heap.size, 1, none⟩ = some (.int .i64 g) := X1.out.cell 1
        have cX3 : w1.cell? ⟨w.heap.size, 3, none⟩ = some (.int .i64 t) := X1.out.cell 3
        go_wp2_with fail
        clear cX1 cX3
        (with_reducible refine (implMin (g + 1) t t HM.out _).mono ?_)
        rintro e w2 ⟨rfl, hb⟩
        have SS2 := Lib.hid hb.size
        have B2 := Lib.hid (B1.out.trans (hb.mono B1.out.size))
        have X2 := Lib.hid (X1.out.below hb)
        have Z2 := Lib.hid (Z1.out.below hb)
        clear hb  B1 X1 Z1
        have cX0 : w2.cell? ⟨w.heap.size, 0, none⟩ = some (.int .i64 r) := X2.out.cell 0
        have cX3 : w2.cell? ⟨w.heap.size, 3, none⟩ = some (.int .i64 t) := X2.out.cell 3
        go_wp2_with (first | (refine stw.list_store rfl 32 _ _ rfl (w.heap.size + 1) #[.int .i64 r, .int .i64 t, .int .i64 0, .int .i64 t, .bool false] rfl rfl 32 _ Z2.out rfl szR (oneR _ _ _ _ _) ?_; intro wz3 hz))
        clear cX0 cX3
        have B3 := Lib.hid (hz.on B2.out (by have hs0 := LTX.out; have hs1 := LTZ.out; have hs2 := SS1.out; have hs3 := SS2.out; first | omega | (simp <;> omega)))
        have X3 := Lib.hid (hz.keep X2.out (by have hs0 := LTX.out; have hs1 := LTZ.out; have hs2 := SS1.out; have hs3 := SS2.out; first | omega | (simp <;> omega)))
        have Z3 := Lib.hid (hz.box)
        clear hz B2 X2 Z2
        (try simp only [Exit.inBlock, Exit.then])
        refine bodyPost_ret (v := .agg #[.int .i64 r, .int .i64 t, .int .i64 0, .int .i64 t, .bool false]) ?_ rfl ?_
        · rw [results_cell1 rfl]
          exact stw.back Z3.out Try.underlying32 rfl szR
        · exact ⟨by rw [HE.out], B3.out⟩
  | false =>
    have HE := Lib.hid (show su ⟨r, g, b, t, p⟩ = ⟨r, g, b, t, p⟩ by unfold su; rw [if_neg (of_decide_eq_false HV.out)])
    go_wp2_with (first | (refine stw.list_load rfl 32 _ rfl (w.heap.size) rfl 32 _ X1.out Try.underlying32 rfl szR ?_) | (refine stw.list_store rfl 32 _ _ rfl (w.heap.size + 1) #[.int .i64 r, .int .i64 g, .int .i64 b, .int .i64 t, .bool p] rfl rfl 32 _ Z1.out rfl szR (oneR _ _ _ _ _) ?_; intro wz2 hz))
    have B2 := Lib.hid (hz.on B1.out (by have hs0 := LTX.out; have hs1 := LTZ.out; have hs2 := SS1.out; first | omega | (simp <;> omega)))
    have X2 := Lib.hid (hz.keep X1.out (by have hs0 := LTX.out; have hs1 := LTZ.out; have hs2 := SS1.out; first | omega | (simp <;> omega)))
    have Z2 := Lib.hid (hz.box)
    clear hz B1 X1 Z1
    (try simp only [Exit.inBlock, Exit.then])
    refine bodyPost_ret (v := .agg #[.int .i64 r, .int .i64 g, .int .i64 b, .int .i64 t, .bool p]) ?_ rfl ?_
    · rw [results_cell1 rfl]
      exact stw.back Z2.out Try.underlying32 rfl szR
    · exact ⟨by rw [HE.out], B2.out⟩
set_option maxRecDepth 100000 in
set_option maxHeartbeats 4000000 in
theorem specSu (r g b t : Int) (p : Bool) (w : World) :
    Calls Try.prog 31 #[.agg #[.int .i64 r, .int .i64 g, .int .i64 b, .int .i64 t, .bool p]] w (RPost (su ⟨r, g, b, t, p⟩) w) := by
  obtain ⟨v, hv⟩ : ∃ x, va ⟨r, g, b, t, p⟩ = x := ⟨_, rfl⟩
  have HV := Lib.hid hv
  clear hv
  go_enter Try.func31, Try.ntmps31
  go_wp2_with fail
  obtain ⟨w0, hW⟩ : ∃ w0, (w.alloc (.cells #[.int .i64 r, .int .i64 g, .int .i64 b, .int .i64 t, .bool p] 32)).alloc (.cells #[.int .i64 0, .int .i64 0, .int .i64 0, .int .i64 0, .bool false] 32) = w0 := ⟨_, rfl⟩
  rw [hW]
  have B0 := Lib.hid (show Below w.heap.size w w0 by rw [← hW]; exact ((Below.refl _ _).alloc (by simp <;> omega) _).alloc (by simp <;> omega) _)
  have X0 := Lib.hid (show Bx 32 w0 (w.heap.size) #[.int .i64 r, .int .i64 g, .int .i64 b, .int .i64 t, .bool p] by
      rw [← hW]
      have hh := Bx.made 32 w #[.int .i64 r, .int .i64 g, .int .i64 b, .int .i64 t, .bool p]
      exact (hh.below (below_box _ _)))
  have Z0 := Lib.hid (show Bx 32 w0 (w.heap.size + 1) #[.int .i64 0, .int .i64 0, .int .i64 0, .int .i64 0, .bool false] by
      rw [← hW]
      have hh : Bx 32 ((w.alloc (.cells #[.int .i64 r, .int .i64 g, .int .i64 b, .int .i64 t, .bool p] 32)).alloc (.cells #[.int .i64 0, .int .i64 0, .int .i64 0, .int .i64 0, .bool false] 32)) (w.heap.size + 1) #[.int .i64 0, .int .i64 0, .int .i64 0, .int .i64 0, .bool false] := by have hh := Bx.made 32 (w.alloc (.cells #[.int .i64 r, .int .i64 g, .int .i64 b, .int .i64 t, .bool p] 32)) #[.int .i64 0, .int .i64 0, .int .i64 0, .int .i64 0, .bool false]; simpa using hh
      exact hh)
  clear hW
  have LTX := Lib.hid X0.out.lt
  have LTZ := Lib.hid Z0.out.lt
  go_wp2_with (refine stw.list_load rfl 32 _ rfl (w.heap.size) rfl 32 _ X0.out Try.underlying32 rfl szR ?_)
  (with_reducible refine (specVa r g b t p _).mono ?_)
  rintro e w1 hp
  obtain ⟨rfl, hb⟩ := b_parts HV.out hp
  clear hp
  have SS1 := Lib.hid hb.size
  have B1 := Lib.hid (B0.out.trans (hb.mono B0.out.size))
  have X1 := Lib.hid (X0.out.below hb)
  have Z1 := Lib.hid (Z0.out.below hb)
  clear hb  B0 X0 Z0
  cases v with
  | true =>
    have hv := of_decide_eq_true HV.out
    obtain ⟨⟨a1, a2⟩, a3, ⟨a4, a5⟩, ⟨a6, a7⟩, a8, a9⟩ := hv
    dsimp only at a1 a2 a3 a4 a5 a6 a7 a8 a9
    unfold Vt at a3
    have m1 : IntKind.i64.wrap (g + 1) = g + 1 := IntWalk.i64_in _ (by omega)
    have m2 : IntKind.i64.wrap (r + 1) = r + 1 := IntWalk.i64_in _ (by omega)
    clear a4 a6 a7 a8 a9
    by_cases h1 : g + 1 < t
    · have HE := Lib.hid (show su ⟨r, g, b, t, p⟩ = ⟨r, ((g + 1)), 0, t, false⟩ by unfold su; rw [if_pos (of_decide_eq_true HV.out), if_pos h1])
      have HM := Lib.hid (show (g + 1) = if g + 1 < t then (g + 1) else t by split <;> omega)
      have n1 : ¬ (g + 1 = t) := by omega
      obtain ⟨bo, hbb⟩ : ∃ b, w1.heap.size = b := ⟨_, rfl⟩
      go_upto_region 4 with (refine stw.list_load rfl 32 _ rfl (w.heap.size) rfl 32 _ X1.out Try.underlying32 rfl szR ?_)
      generalize hW : w1.alloc (.cells #[.int .i64 r, .int .i64 g, .int .i64 b, .int .i64 t, .bool p] 32) = w2
      have LY := Lib.hid (show w.heap.size ≤ bo ∧ w.heap.size < bo ∧ w.heap.size + 1 < bo by have h1 := B1.out.size; have h2X := X1.out.lt; have h2Z := Z1.out.lt; have h3 := hbb; omega)
      have Y2 := Lib.hid (show Bx 32 w2 bo #[.int .i64 r, .int .i64 g, .int .i64 b, .int .i64 t, .bool p] by rw [← hW, ← hbb]; exact Bx.made _ _ _)
      have hb : Below w1.heap.size w1 w2 := by rw [← hW]; exact below_box _ _
      (try rw [hbb])
      clear hW hbb
      have SS2 := Lib.hid hb.size
      have B2 := Lib.hid (B1.out.trans (hb.mono B1.out.size))
      have X2 := Lib.hid (X1.out.below hb)
      have Z2 := Lib.hid (Z1.out.below hb)
      clear hb B1 X1 Z1
      have LWY := Lib.hid Y2.out.lt
      have cX1 : w2.cell? ⟨w.heap.size, 1, none⟩ = some (.int .i64 g) := X2.out.cell 1
      have cX3 : w2.cell? ⟨w.heap.size, 3, none⟩ = some (.int .i64 t) := X2.out.cell 3
      go_wp2_with fail
      clear cX1 cX3
      (with_reducible refine (specMin t (g + 1) (g + 1) HM.out _).mono ?_)
      rintro e wq ⟨rfl, rfl⟩
      have cX0 : w2.cell? ⟨w.heap.size, 0, none⟩ = some (.int .i64 r) := X2.out.cell 0
      have cX3 : w2.cell? ⟨w.heap.size, 3, none⟩ = some (.int .i64 t) := X2.out.cell 3
      have cY0 : w2.cell? ⟨bo, 0, none⟩ = some (.int .i64 r) := Y2.out.cell 0
      have cY1 : w2.cell? ⟨bo, 1, none⟩ = some (.int .i64 g) := Y2.out.cell 1
      have cY2 : w2.cell? ⟨bo, 2, none⟩ = some (.int .i64 b) := Y2.out.cell 2
      have cY3 : w2.cell? ⟨bo, 3, none⟩ = some (.int .i64 t) := Y2.out.cell 3
      have cY4 : w2.cell? ⟨bo, 4, none⟩ = some (.bool p) := Y2.out.cell 4
      have fY0 : w2.frozen? ⟨bo, 0, none⟩ = false := Y2.out.free 0
      have fY1 : w2.frozen? ⟨bo, 1, none⟩ = false := Y2.out.free 1
      have fY2 : w2.frozen? ⟨bo, 2, none⟩ = false := Y2.out.free 2
      have fY3 : w2.frozen? ⟨bo, 3, none⟩ = false := Y2.out.free 3
      have fY4 : w2.frozen? ⟨bo, 4, none⟩ = false := Y2.out.free 4
      go_upto_region 5 with fail
      clear cX0 cX3 cY0 cY1 cY2 cY3 cY4 fY0 fY1 fY2 fY3 fY4
      have hWW : (w2.setCell ⟨bo, 1, none⟩ (.int .i64 ((g + 1)))) = (w2.setCell ⟨bo, 1, none⟩ (.int .i64 ((g + 1)))) := rfl
      obtain ⟨w3, hW⟩ : ∃ wy, (w2.setCell ⟨bo, 1, none⟩ (.int .i64 ((g + 1)))) = wy := ⟨_, rfl⟩
      rw [hW]
      clear hWW
      have B3 := Lib.hid (show Below w.heap.size w w3 by rw [← hW]; exact (B2.out.setCell (p := ⟨bo, 1, none⟩) (by have hlY := LY.out; have hs0 := LTX.out; have hs1 := LTZ.out; have hs2 := SS1.out; have hs3 := SS2.out; have hs4 := LWY.out; first | omega | (simp <;> omega)) _))
      have X3 := Lib.hid (show Bx 32 w3 (w.heap.size) #[.int .i64 r, .int .i64 g, .int .i64 b, .int .i64 t, .bool p] by rw [← hW]; exact (X2.out.other (by have hlY := LY.out; have hs0 := LTX.out; have hs1 := LTZ.out; have hs2 := SS1.out; have hs3 := SS2.out; have hs4 := LWY.out; first | omega | (simp <;> omega)) _ _))
      have Z3 := Lib.hid (show Bx 32 w3 (w.heap.size + 1) #[.int .i64 0, .int .i64 0, .int .i64 0, .int .i64 0, .bool false] by rw [← hW]; exact (Z2.out.other (by have hlY := LY.out; have hs0 := LTX.out; have hs1 := LTZ.out; have hs2 := SS1.out; have hs3 := SS2.out; have hs4 := LWY.out; first | omega | (simp <;> omega)) _ _))
      have Y3 := Lib.hid (show Bx 32 w3 (bo) #[.int .i64 r, .int .i64 ((g + 1)), .int .i64 b, .int .i64 t, .bool p] by rw [← hW]; exact (Y2.out.set 1 _))
      clear hW B2 X2 Z2 Y2
      have cX0 : w3.cell? ⟨w.heap.size, 0, none⟩ = some (.int .i64 r) := X3.out.cell 0
      have cX3 : w3.cell? ⟨w.heap.size, 3, none⟩ = some (.int .i64 t) := X3.out.cell 3
      have cY0 : w3.cell? ⟨bo, 0, none⟩ = some (.int .i64 r) := Y3.out.cell 0
      have cY1 : w3.cell? ⟨bo, 1, none⟩ = some (.int .i64 ((g + 1))) := Y3.out.cell 1
      have cY2 : w3.cell? ⟨bo, 2, none⟩ = some (.int .i64 b) := Y3.out.cell 2
      have cY3 : w3.cell? ⟨bo, 3, none⟩ = some (.int .i64 t) := Y3.out.cell 3
      have cY4 : w3.cell? ⟨bo, 4, none⟩ = some (.bool p) := Y3.out.cell 4
      have fY0 : w3.frozen? ⟨bo, 0, none⟩ = false := Y3.out.free 0
      have fY1 : w3.frozen? ⟨bo, 1, none⟩ = false := Y3.out.free 1
      have fY2 : w3.frozen? ⟨bo, 2, none⟩ = false := Y3.out.free 2
      have fY3 : w3.frozen? ⟨bo, 3, none⟩ = false := Y3.out.free 3
      have fY4 : w3.frozen? ⟨bo, 4, none⟩ = false := Y3.out.free 4
      go_upto_region 7 with fail
      clear cX0 cX3 cY0 cY1 cY2 cY3 cY4 fY0 fY1 fY2 fY3 fY4
      have hWW : ((w3.setCell ⟨bo, 2, none⟩ (.int .i64 0)).setCell ⟨bo, 4, none⟩ (.bool false)) = ((w3.setCell ⟨bo, 2, none⟩ (.int .i64 0)).setCell ⟨bo, 4, none⟩ (.bool false)) := rfl
      obtain ⟨w4, hW⟩ : ∃ wy, ((w3.setCell ⟨bo, 2, none⟩ (.int .i64 0)).setCell ⟨bo, 4, none⟩ (.bool false)) = wy := ⟨_, rfl⟩
      rw [hW]
      clear hWW
      have B4 := Lib.hid (show Below w.heap.size w w4 by rw [← hW]; exact ((B3.out.setCell (p := ⟨bo, 2, none⟩) (by have hlY := LY.out; have hs0 := LTX.out; have hs1 := LTZ.out; have hs2 := SS1.out; have hs3 := SS2.out; have hs4 := LWY.out; first | omega | (simp <;> omega)) _).setCell (p := ⟨bo, 4, none⟩) (by have hlY := LY.out; have hs0 := LTX.out; have hs1 := LTZ.out; have hs2 := SS1.out; have hs3 := SS2.out; have hs4 := LWY.out; first | omega | (simp <;> omega)) _))
      have X4 := Lib.hid (show Bx 32 w4 (w.heap.size) #[.int .i64 r, .int .i64 g, .int .i64 b, .int .i64 t, .bool p] by rw [← hW]; exact ((X3.out.other (by have hlY := LY.out; have hs0 := LTX.out; have hs1 := LTZ.out; have hs2 := SS1.out; have hs3 := SS2.out; have hs4 := LWY.out; first | omega | (simp <;> omega)) _ _).other (by have hlY := LY.out; have hs0 := LTX.out; have hs1 := LTZ.out; have hs2 := SS1.out; have hs3 := SS2.out; have hs4 := LWY.out; first | omega | (simp <;> omega)) _ _))
      have Z4 := Lib.hid (show Bx 32 w4 (w.heap.size + 1) #[.int .i64 0, .int .i64 0, .int .i64 0, .int .i64 0, .bool false] by rw [← hW]; exact ((Z3.out.other (by have hlY := LY.out; have hs0 := LTX.out; have hs1 := LTZ.out; have hs2 := SS1.out; have hs3 := SS2.out; have hs4 := LWY.out; first | omega | (simp <;> omega)) _ _).other (by have hlY := LY.out; have hs0 := LTX.out; have hs1 := LTZ.out; have hs2 := SS1.out; have hs3 := SS2.out; have hs4 := LWY.out; first | omega | (simp <;> omega)) _ _))
      have Y4 := Lib.hid (show Bx 32 w4 (bo) #[.int .i64 r, .int .i64 ((g + 1)), .int .i64 0, .int .i64 t, .bool false] by rw [← hW]; exact ((Y3.out.set 2 _).set 4 _))
      clear hW B3 X3 Z3 Y3
      have cX0 : w4.cell? ⟨w.heap.size, 0, none⟩ = some (.int .i64 r) := X4.out.cell 0
      have cX3 : w4.cell? ⟨w.heap.size, 3, none⟩ = some (.int .i64 t) := X4.out.cell 3
      have cY0 : w4.cell? ⟨bo, 0, none⟩ = some (.int .i64 r) := Y4.out.cell 0
      have cY1 : w4.cell? ⟨bo, 1, none⟩ = some (.int .i64 ((g + 1))) := Y4.out.cell 1
      have cY2 : w4.cell? ⟨bo, 2, none⟩ = some (.int .i64 0) := Y4.out.cell 2
      have cY3 : w4.cell? ⟨bo, 3, none⟩ = some (.int .i64 t) := Y4.out.cell 3
      have cY4 : w4.cell? ⟨bo, 4, none⟩ = some (.bool false) := Y4.out.cell 4
      have fY0 : w4.frozen? ⟨bo, 0, none⟩ = false := Y4.out.free 0
      have fY1 : w4.frozen? ⟨bo, 1, none⟩ = false := Y4.out.free 1
      have fY2 : w4.frozen? ⟨bo, 2, none⟩ = false := Y4.out.free 2
      have fY3 : w4.frozen? ⟨bo, 3, none⟩ = false := Y4.out.free 3
      have fY4 : w4.frozen? ⟨bo, 4, none⟩ = false := Y4.out.free 4
      go_wp2_with (first | (refine stw.list_load rfl 32 _ rfl (bo) rfl 32 _ Y4.out Try.underlying32 rfl szR ?_) | (refine stw.list_store rfl 32 _ _ rfl (w.heap.size + 1) #[.int .i64 r, .int .i64 ((g + 1)), .int .i64 0, .int .i64 t, .bool false] rfl rfl 32 _ Z4.out rfl szR (oneR _ _ _ _ _) ?_; intro wz5 hz))
      clear cX0 cX3 cY0 cY1 cY2 cY3 cY4 fY0 fY1 fY2 fY3 fY4
      have B5 := Lib.hid (hz.on B4.out (by have hlY := LY.out; have hs0 := LTX.out; have hs1 := LTZ.out; have hs2 := SS1.out; have hs3 := SS2.out; have hs4 := LWY.out; first | omega | (simp <;> omega)))
      have X5 := Lib.hid (hz.keep X4.out (by have hlY := LY.out; have hs0 := LTX.out; have hs1 := LTZ.out; have hs2 := SS1.out; have hs3 := SS2.out; have hs4 := LWY.out; first | omega | (simp <;> omega)))
      have Z5 := Lib.hid (hz.box)
      have Y5 := Lib.hid (hz.keep Y4.out (by have hlY := LY.out; have hs0 := LTX.out; have hs1 := LTZ.out; have hs2 := SS1.out; have hs3 := SS2.out; have hs4 := LWY.out; first | omega | (simp <;> omega)))
      clear hz B4 X4 Z4 Y4
      (try simp only [Exit.inBlock, Exit.then])
      refine bodyPost_ret (v := .agg #[.int .i64 r, .int .i64 ((g + 1)), .int .i64 0, .int .i64 t, .bool false]) ?_ rfl ?_
      · rw [results_cell1 rfl]
        exact stw.back Z5.out Try.underlying32 rfl szR
      · exact ⟨by rw [HE.out], B5.out⟩
    · by_cases h2 : r < 3
      · have HE := Lib.hid (show su ⟨r, g, b, t, p⟩ = ⟨((r + 1)), 0, 0, t, true⟩ by unfold su; rw [if_pos (of_decide_eq_true HV.out), if_neg h1, if_pos h2])
        have HM := Lib.hid (show t = if g + 1 < t then (g + 1) else t by split <;> omega)
        obtain ⟨bo, hbb⟩ : ∃ b, w1.heap.size = b := ⟨_, rfl⟩
        go_upto_region 4 with (refine stw.list_load rfl 32 _ rfl (w.heap.size) rfl 32 _ X1.out Try.underlying32 rfl szR ?_)
        generalize hW : w1.alloc (.cells #[.int .i64 r, .int .i64 g, .int .i64 b, .int .i64 t, .bool p] 32) = w2
        have LY := Lib.hid (show w.heap.size ≤ bo ∧ w.heap.size < bo ∧ w.heap.size + 1 < bo by have h1 := B1.out.size; have h2X := X1.out.lt; have h2Z := Z1.out.lt; have h3 := hbb; omega)
        have Y2 := Lib.hid (show Bx 32 w2 bo #[.int .i64 r, .int .i64 g, .int .i64 b, .int .i64 t, .bool p] by rw [← hW, ← hbb]; exact Bx.made _ _ _)
        have hb : Below w1.heap.size w1 w2 := by rw [← hW]; exact below_box _ _
        (try rw [hbb])
        clear hW hbb
        have SS2 := Lib.hid hb.size
        have B2 := Lib.hid (B1.out.trans (hb.mono B1.out.size))
        have X2 := Lib.hid (X1.out.below hb)
        have Z2 := Lib.hid (Z1.out.below hb)
        clear hb B1 X1 Z1
        have LWY := Lib.hid Y2.out.lt
        have cX1 : w2.cell? ⟨w.heap.size, 1, none⟩ = some (.int .i64 g) := X2.out.cell 1
        have cX3 : w2.cell? ⟨w.heap.size, 3, none⟩ = some (.int .i64 t) := X2.out.cell 3
        go_wp2_with fail
        clear cX1 cX3
        (with_reducible refine (specMin t (g + 1) t HM.out _).mono ?_)
        rintro e wq ⟨rfl, rfl⟩
        have cX0 : w2.cell? ⟨w.heap.size, 0, none⟩ = some (.int .i64 r) := X2.out.cell 0
        have cX3 : w2.cell? ⟨w.heap.size, 3, none⟩ = some (.int .i64 t) := X2.out.cell 3
        have cY0 : w2.cell? ⟨bo, 0, none⟩ = some (.int .i64 r) := Y2.out.cell 0
        have cY1 : w2.cell? ⟨bo, 1, none⟩ = some (.int .i64 g) := Y2.out.cell 1
        have cY2 : w2.cell? ⟨bo, 2, none⟩ = some (.int .i64 b) := Y2.out.cell 2
        have cY3 : w2.cell? ⟨bo, 3, none⟩ = some (.int .i64 t) := Y2.out.cell 3
        have cY4 : w2.cell? ⟨bo, 4, none⟩ = some (.bool p) := Y2.out.cell 4
        have fY0 : w2.frozen? ⟨bo, 0, none⟩ = false := Y2.out.free 0
        have fY1 : w2.frozen? ⟨bo, 1, none⟩ = false := Y2.out.free 1
        have fY2 : w2.frozen? ⟨bo, 2, none⟩ = false := Y2.out.free 2
        have fY3 : w2.frozen? ⟨bo, 3, none⟩ = false := Y2.out.free 3
        have fY4 : w2.frozen? ⟨bo, 4, none⟩ = false := Y2.out.free 4
        go_upto_region 5 with fail
        clear cX0 cX3 cY0 cY1 cY2 cY3 cY4 fY0 fY1 fY2 fY3 fY4
        have hWW : (w2.setCell ⟨bo, 1, none⟩ (.int .i64 t)) = (w2.setCell ⟨bo, 1, none⟩ (.int .i64 t)) := rfl
        obtain ⟨w3, hW⟩ : ∃ wy, (w2.setCell ⟨bo, 1, none⟩ (.int .i64 t)) = wy := ⟨_, rfl⟩
        rw [hW]
        clear hWW
        have B3 := Lib.hid (show Below w.heap.size w w3 by rw [← hW]; exact (B2.out.setCell (p := ⟨bo, 1, none⟩) (by have hlY := LY.out; have hs0 := LTX.out; have hs1 := LTZ.out; have hs2 := SS1.out; have hs3 := SS2.out; have hs4 := LWY.out; first | omega | (simp <;> omega)) _))
        have X3 := Lib.hid (show Bx 32 w3 (w.heap.size) #[.int .i64 r, .int .i64 g, .int .i64 b, .int .i64 t, .bool p] by rw [← hW]; exact (X2.out.other (by have hlY := LY.out; have hs0 := LTX.out; have hs1 := LTZ.out; have hs2 := SS1.out; have hs3 := SS2.out; have hs4 := LWY.out; first | omega | (simp <;> omega)) _ _))
        have Z3 := Lib.hid (show Bx 32 w3 (w.heap.size + 1) #[.int .i64 0, .int .i64 0, .int .i64 0, .int .i64 0, .bool false] by rw [← hW]; exact (Z2.out.other (by have hlY := LY.out; have hs0 := LTX.out; have hs1 := LTZ.out; have hs2 := SS1.out; have hs3 := SS2.out; have hs4 := LWY.out; first | omega | (simp <;> omega)) _ _))
        have Y3 := Lib.hid (show Bx 32 w3 (bo) #[.int .i64 r, .int .i64 t, .int .i64 b, .int .i64 t, .bool p] by rw [← hW]; exact (Y2.out.set 1 _))
        clear hW B2 X2 Z2 Y2
        have cX0 : w3.cell? ⟨w.heap.size, 0, none⟩ = some (.int .i64 r) := X3.out.cell 0
        have cX3 : w3.cell? ⟨w.heap.size, 3, none⟩ = some (.int .i64 t) := X3.out.cell 3
        have cY0 : w3.cell? ⟨bo, 0, none⟩ = some (.int .i64 r) := Y3.out.cell 0
        have cY1 : w3.cell? ⟨bo, 1, none⟩ = some (.int .i64 t) := Y3.out.cell 1
        have cY2 : w3.cell? ⟨bo, 2, none⟩ = some (.int .i64 b) := Y3.out.cell 2
        have cY3 : w3.cell? ⟨bo, 3, none⟩ = some (.int .i64 t) := Y3.out.cell 3
        have cY4 : w3.cell? ⟨bo, 4, none⟩ = some (.bool p) := Y3.out.cell 4
        have fY0 : w3.frozen? ⟨bo, 0, none⟩ = false := Y3.out.free 0
        have fY1 : w3.frozen? ⟨bo, 1, none⟩ = false := Y3.out.free 1
        have fY2 : w3.frozen? ⟨bo, 2, none⟩ = false := Y3.out.free 2
        have fY3 : w3.frozen? ⟨bo, 3, none⟩ = false := Y3.out.free 3
        have fY4 : w3.frozen? ⟨bo, 4, none⟩ = false := Y3.out.free 4
        go_upto_region 7 with fail
        clear cX0 cX3 cY0 cY1 cY2 cY3 cY4 fY0 fY1 fY2 fY3 fY4
        have hWW : ((w3.setCell ⟨bo, 2, none⟩ (.int .i64 0)).setCell ⟨bo, 4, none⟩ (.bool false)) = ((w3.setCell ⟨bo, 2, none⟩ (.int .i64 0)).setCell ⟨bo, 4, none⟩ (.bool false)) := rfl
        obtain ⟨w4, hW⟩ : ∃ wy, ((w3.setCell ⟨bo, 2, none⟩ (.int .i64 0)).setCell ⟨bo, 4, none⟩ (.bool false)) = wy := ⟨_, rfl⟩
        rw [hW]
        clear hWW
        have B4 := Lib.hid (show Below w.heap.size w w4 by rw [← hW]; exact ((B3.out.setCell (p := ⟨bo, 2, none⟩) (by have hlY := LY.out; have hs0 := LTX.out; have hs1 := LTZ.out; have hs2 := SS1.out; have hs3 := SS2.out; have hs4 := LWY.out; first | omega | (simp <;> omega)) _).setCell (p := ⟨bo, 4, none⟩) (by have hlY := LY.out; have hs0 := LTX.out; have hs1 := LTZ.out; have hs2 := SS1.out; have hs3 := SS2.out; have hs4 := LWY.out; first | omega | (simp <;> omega)) _))
        have X4 := Lib.hid (show Bx 32 w4 (w.heap.size) #[.int .i64 r, .int .i64 g, .int .i64 b, .int .i64 t, .bool p] by rw [← hW]; exact ((X3.out.other (by have hlY := LY.out; have hs0 := LTX.out; have hs1 := LTZ.out; have hs2 := SS1.out; have hs3 := SS2.out; have hs4 := LWY.out; first | omega | (simp <;> omega)) _ _).other (by have hlY := LY.out; have hs0 := LTX.out; have hs1 := LTZ.out; have hs2 := SS1.out; have hs3 := SS2.out; have hs4 := LWY.out; first | omega | (simp <;> omega)) _ _))
        have Z4 := Lib.hid (show Bx 32 w4 (w.heap.size + 1) #[.int .i64 0, .int .i64 0, .int .i64 0, .int .i64 0, .bool false] by rw [← hW]; exact ((Z3.out.other (by have hlY := LY.out; have hs0 := LTX.out; have hs1 := LTZ.out; have hs2 := SS1.out; have hs3 := SS2.out; have hs4 := LWY.out; first | omega | (simp <;> omega)) _ _).other (by have hlY := LY.out; have hs0 := LTX.out; have hs1 := LTZ.out; have hs2 := SS1.out; have hs3 := SS2.out; have hs4 := LWY.out; first | omega | (simp <;> omega)) _ _))
        have Y4 := Lib.hid (show Bx 32 w4 (bo) #[.int .i64 r, .int .i64 t, .int .i64 0, .int .i64 t, .bool false] by rw [← hW]; exact ((Y3.out.set 2 _).set 4 _))
        clear hW B3 X3 Z3 Y3
        have cX0 : w4.cell? ⟨w.heap.size, 0, none⟩ = some (.int .i64 r) := X4.out.cell 0
        have cX3 : w4.cell? ⟨w.heap.size, 3, none⟩ = some (.int .i64 t) := X4.out.cell 3
        have cY0 : w4.cell? ⟨bo, 0, none⟩ = some (.int .i64 r) := Y4.out.cell 0
        have cY1 : w4.cell? ⟨bo, 1, none⟩ = some (.int .i64 t) := Y4.out.cell 1
        have cY2 : w4.cell? ⟨bo, 2, none⟩ = some (.int .i64 0) := Y4.out.cell 2
        have cY3 : w4.cell? ⟨bo, 3, none⟩ = some (.int .i64 t) := Y4.out.cell 3
        have cY4 : w4.cell? ⟨bo, 4, none⟩ = some (.bool false) := Y4.out.cell 4
        have fY0 : w4.frozen? ⟨bo, 0, none⟩ = false := Y4.out.free 0
        have fY1 : w4.frozen? ⟨bo, 1, none⟩ = false := Y4.out.free 1
        have fY2 : w4.frozen? ⟨bo, 2, none⟩ = false := Y4.out.free 2
        have fY3 : w4.frozen? ⟨bo, 3, none⟩ = false := Y4.out.free 3
        have fY4 : w4.frozen? ⟨bo, 4, none⟩ = false := Y4.out.free 4
        go_upto_region 11 with fail
        clear cX0 cX3 cY0 cY1 cY2 cY3 cY4 fY0 fY1 fY2 fY3 fY4
        have hWW : (((w4.setCell ⟨bo, 0, none⟩ (.int .i64 ((r + 1)))).setCell ⟨bo, 1, none⟩ (.int .i64 0)).setCell ⟨bo, 4, none⟩ (.bool true)) = (((w4.setCell ⟨bo, 0, none⟩ (.int .i64 ((r + 1)))).setCell ⟨bo, 1, none⟩ (.int .i64 0)).setCell ⟨bo, 4, none⟩ (.bool true)) := rfl
        obtain ⟨w5, hW⟩ : ∃ wy, (((w4.setCell ⟨bo, 0, none⟩ (.int .i64 ((r + 1)))).setCell ⟨bo, 1, none⟩ (.int .i64 0)).setCell ⟨bo, 4, none⟩ (.bool true)) = wy := ⟨_, rfl⟩
        rw [hW]
        clear hWW
        have B5 := Lib.hid (show Below w.heap.size w w5 by rw [← hW]; exact (((B4.out.setCell (p := ⟨bo, 0, none⟩) (by have hlY := LY.out; have hs0 := LTX.out; have hs1 := LTZ.out; have hs2 := SS1.out; have hs3 := SS2.out; have hs4 := LWY.out; first | omega | (simp <;> omega)) _).setCell (p := ⟨bo, 1, none⟩) (by have hlY := LY.out; have hs0 := LTX.out; have hs1 := LTZ.out; have hs2 := SS1.out; have hs3 := SS2.out; have hs4 := LWY.out; first | omega | (simp <;> omega)) _).setCell (p := ⟨bo, 4, none⟩) (by have hlY := LY.out; have hs0 := LTX.out; have hs1 := LTZ.out; have hs2 := SS1.out; have hs3 := SS2.out; have hs4 := LWY.out; first | omega | (simp <;> omega)) _))
        have X5 := Lib.hid (show Bx 32 w5 (w.heap.size) #[.int .i64 r, .int .i64 g, .int .i64 b, .int .i64 t, .bool p] by rw [← hW]; exact (((X4.out.other (by have hlY := LY.out; have hs0 := LTX.out; have hs1 := LTZ.out; have hs2 := SS1.out; have hs3 := SS2.out; have hs4 := LWY.out; first | omega | (simp <;> omega)) _ _).other (by have hlY := LY.out; have hs0 := LTX.out; have hs1 := LTZ.out; have hs2 := SS1.out; have hs3 := SS2.out; have hs4 := LWY.out; first | omega | (simp <;> omega)) _ _).other (by have hlY := LY.out; have hs0 := LTX.out; have hs1 := LTZ.out; have hs2 := SS1.out; have hs3 := SS2.out; have hs4 := LWY.out; first | omega | (simp <;> omega)) _ _))
        have Z5 := Lib.hid (show Bx 32 w5 (w.heap.size + 1) #[.int .i64 0, .int .i64 0, .int .i64 0, .int .i64 0, .bool false] by rw [← hW]; exact (((Z4.out.other (by have hlY := LY.out; have hs0 := LTX.out; have hs1 := LTZ.out; have hs2 := SS1.out; have hs3 := SS2.out; have hs4 := LWY.out; first | omega | (simp <;> omega)) _ _).other (by have hlY := LY.out; have hs0 := LTX.out; have hs1 := LTZ.out; have hs2 := SS1.out; have hs3 := SS2.out; have hs4 := LWY.out; first | omega | (simp <;> omega)) _ _).other (by have hlY := LY.out; have hs0 := LTX.out; have hs1 := LTZ.out; have hs2 := SS1.out; have hs3 := SS2.out; have hs4 := LWY.out; first | omega | (simp <;> omega)) _ _))
        have Y5 := Lib.hid (show Bx 32 w5 (bo) #[.int .i64 ((r + 1)), .int .i64 0, .int .i64 0, .int .i64 t, .bool true] by rw [← hW]; exact (((Y4.out.set 0 _).set 1 _).set 4 _))
        clear hW B4 X4 Z4 Y4
        go_wp2_with (first | (refine stw.list_load rfl 32 _ rfl (bo) rfl 32 _ Y5.out Try.underlying32 rfl szR ?_) | (refine stw.list_store rfl 32 _ _ rfl (w.heap.size + 1) #[.int .i64 ((r + 1)), .int .i64 0, .int .i64 0, .int .i64 t, .bool true] rfl rfl 32 _ Z5.out rfl szR (oneR _ _ _ _ _) ?_; intro wz6 hz))
        have B6 := Lib.hid (hz.on B5.out (by have hlY := LY.out; have hs0 := LTX.out; have hs1 := LTZ.out; have hs2 := SS1.out; have hs3 := SS2.out; have hs4 := LWY.out; first | omega | (simp <;> omega)))
        have X6 := Lib.hid (hz.keep X5.out (by have hlY := LY.out; have hs0 := LTX.out; have hs1 := LTZ.out; have hs2 := SS1.out; have hs3 := SS2.out; have hs4 := LWY.out; first | omega | (simp <;> omega)))
        have Z6 := Lib.hid (hz.box)
        have Y6 := Lib.hid (hz.keep Y5.out (by have hlY := LY.out; have hs0 := LTX.out; have hs1 := LTZ.out; have hs2 := SS1.out; have hs3 := SS2.out; have hs4 := LWY.out; first | omega | (simp <;> omega)))
        clear hz B5 X5 Z5 Y5
        (try simp only [Exit.inBlock, Exit.then])
        refine bodyPost_ret (v := .agg #[.int .i64 ((r + 1)), .int .i64 0, .int .i64 0, .int .i64 t, .bool true]) ?_ rfl ?_
        · rw [results_cell1 rfl]
          exact stw.back Z6.out Try.underlying32 rfl szR
        · exact ⟨by rw [HE.out], B6.out⟩
      · have HE := Lib.hid (show su ⟨r, g, b, t, p⟩ = ⟨r, t, 0, t, false⟩ by unfold su; rw [if_pos (of_decide_eq_true HV.out), if_neg h1, if_neg h2])
        have HM := Lib.hid (show t = if g + 1 < t then (g + 1) else t by split <;> omega)
        obtain ⟨bo, hbb⟩ : ∃ b, w1.heap.size = b := ⟨_, rfl⟩
        go_upto_region 4 with (refine stw.list_load rfl 32 _ rfl (w.heap.size) rfl 32 _ X1.out Try.underlying32 rfl szR ?_)
        generalize hW : w1.alloc (.cells #[.int .i64 r, .int .i64 g, .int .i64 b, .int .i64 t, .bool p] 32) = w2
        have LY := Lib.hid (show w.heap.size ≤ bo ∧ w.heap.size < bo ∧ w.heap.size + 1 < bo by have h1 := B1.out.size; have h2X := X1.out.lt; have h2Z := Z1.out.lt; have h3 := hbb; omega)
        have Y2 := Lib.hid (show Bx 32 w2 bo #[.int .i64 r, .int .i64 g, .int .i64 b, .int .i64 t, .bool p] by rw [← hW, ← hbb]; exact Bx.made _ _ _)
        have hb : Below w1.heap.size w1 w2 := by rw [← hW]; exact below_box _ _
        (try rw [hbb])
        clear hW hbb
        have SS2 := Lib.hid hb.size
        have B2 := Lib.hid (B1.out.trans (hb.mono B1.out.size))
        have X2 := Lib.hid (X1.out.below hb)
        have Z2 := Lib.hid (Z1.out.below hb)
        clear hb B1 X1 Z1
        have LWY := Lib.hid Y2.out.lt
        have cX1 : w2.cell? ⟨w.heap.size, 1, none⟩ = some (.int .i64 g) := X2.out.cell 1
        have cX3 : w2.cell? ⟨w.heap.size, 3, none⟩ = some (.int .i64 t) := X2.out.cell 3
        go_wp2_with fail
        clear cX1 cX3
        (with_reducible refine (specMin t (g + 1) t HM.out _).mono ?_)
        rintro e wq ⟨rfl, rfl⟩
        have cX0 : w2.cell? ⟨w.heap.size, 0, none⟩ = some (.int .i64 r) := X2.out.cell 0
        have cX3 : w2.cell? ⟨w.heap.size, 3, none⟩ = some (.int .i64 t) := X2.out.cell 3
        have cY0 : w2.cell? ⟨bo, 0, none⟩ = some (.int .i64 r) := Y2.out.cell 0
        have cY1 : w2.cell? ⟨bo, 1, none⟩ = some (.int .i64 g) := Y2.out.cell 1
        have cY2 : w2.cell? ⟨bo, 2, none⟩ = some (.int .i64 b) := Y2.out.cell 2
        have cY3 : w2.cell? ⟨bo, 3, none⟩ = some (.int .i64 t) := Y2.out.cell 3
        have cY4 : w2.cell? ⟨bo, 4, none⟩ = some (.bool p) := Y2.out.cell 4
        have fY0 : w2.frozen? ⟨bo, 0, none⟩ = false := Y2.out.free 0
        have fY1 : w2.frozen? ⟨bo, 1, none⟩ = false := Y2.out.free 1
        have fY2 : w2.frozen? ⟨bo, 2, none⟩ = false := Y2.out.free 2
        have fY3 : w2.frozen? ⟨bo, 3, none⟩ = false := Y2.out.free 3
        have fY4 : w2.frozen? ⟨bo, 4, none⟩ = false := Y2.out.free 4
        go_upto_region 5 with fail
        clear cX0 cX3 cY0 cY1 cY2 cY3 cY4 fY0 fY1 fY2 fY3 fY4
        have hWW : (w2.setCell ⟨bo, 1, none⟩ (.int .i64 t)) = (w2.setCell ⟨bo, 1, none⟩ (.int .i64 t)) := rfl
        obtain ⟨w3, hW⟩ : ∃ wy, (w2.setCell ⟨bo, 1, none⟩ (.int .i64 t)) = wy := ⟨_, rfl⟩
        rw [hW]
        clear hWW
        have B3 := Lib.hid (show Below w.heap.size w w3 by rw [← hW]; exact (B2.out.setCell (p := ⟨bo, 1, none⟩) (by have hlY := LY.out; have hs0 := LTX.out; have hs1 := LTZ.out; have hs2 := SS1.out; have hs3 := SS2.out; have hs4 := LWY.out; first | omega | (simp <;> omega)) _))
        have X3 := Lib.hid (show Bx 32 w3 (w.heap.size) #[.int .i64 r, .int .i64 g, .int .i64 b, .int .i64 t, .bool p] by rw [← hW]; exact (X2.out.other (by have hlY := LY.out; have hs0 := LTX.out; have hs1 := LTZ.out; have hs2 := SS1.out; have hs3 := SS2.out; have hs4 := LWY.out; first | omega | (simp <;> omega)) _ _))
        have Z3 := Lib.hid (show Bx 32 w3 (w.heap.size + 1) #[.int .i64 0, .int .i64 0, .int .i64 0, .int .i64 0, .bool false] by rw [← hW]; exact (Z2.out.other (by have hlY := LY.out; have hs0 := LTX.out; have hs1 := LTZ.out; have hs2 := SS1.out; have hs3 := SS2.out; have hs4 := LWY.out; first | omega | (simp <;> omega)) _ _))
        have Y3 := Lib.hid (show Bx 32 w3 (bo) #[.int .i64 r, .int .i64 t, .int .i64 b, .int .i64 t, .bool p] by rw [← hW]; exact (Y2.out.set 1 _))
        clear hW B2 X2 Z2 Y2
        have cX0 : w3.cell? ⟨w.heap.size, 0, none⟩ = some (.int .i64 r) := X3.out.cell 0
        have cX3 : w3.cell? ⟨w.heap.size, 3, none⟩ = some (.int .i64 t) := X3.out.cell 3
        have cY0 : w3.cell? ⟨bo, 0, none⟩ = some (.int .i64 r) := Y3.out.cell 0
        have cY1 : w3.cell? ⟨bo, 1, none⟩ = some (.int .i64 t) := Y3.out.cell 1
        have cY2 : w3.cell? ⟨bo, 2, none⟩ = some (.int .i64 b) := Y3.out.cell 2
        have cY3 : w3.cell? ⟨bo, 3, none⟩ = some (.int .i64 t) := Y3.out.cell 3
        have cY4 : w3.cell? ⟨bo, 4, none⟩ = some (.bool p) := Y3.out.cell 4
        have fY0 : w3.frozen? ⟨bo, 0, none⟩ = false := Y3.out.free 0
        have fY1 : w3.frozen? ⟨bo, 1, none⟩ = false := Y3.out.free 1
        have fY2 : w3.frozen? ⟨bo, 2, none⟩ = false := Y3.out.free 2
        have fY3 : w3.frozen? ⟨bo, 3, none⟩ = false := Y3.out.free 3
        have fY4 : w3.frozen? ⟨bo, 4, none⟩ = false := Y3.out.free 4
        go_upto_region 7 with fail
        clear cX0 cX3 cY0 cY1 cY2 cY3 cY4 fY0 fY1 fY2 fY3 fY4
        have hWW : ((w3.setCell ⟨bo, 2, none⟩ (.int .i64 0)).setCell ⟨bo, 4, none⟩ (.bool false)) = ((w3.setCell ⟨bo, 2, none⟩ (.int .i64 0)).setCell ⟨bo, 4, none⟩ (.bool false)) := rfl
        obtain ⟨w4, hW⟩ : ∃ wy, ((w3.setCell ⟨bo, 2, none⟩ (.int .i64 0)).setCell ⟨bo, 4, none⟩ (.bool false)) = wy := ⟨_, rfl⟩
        rw [hW]
        clear hWW
        have B4 := Lib.hid (show Below w.heap.size w w4 by rw [← hW]; exact ((B3.out.setCell (p := ⟨bo, 2, none⟩) (by have hlY := LY.out; have hs0 := LTX.out; have hs1 := LTZ.out; have hs2 := SS1.out; have hs3 := SS2.out; have hs4 := LWY.out; first | omega | (simp <;> omega)) _).setCell (p := ⟨bo, 4, none⟩) (by have hlY := LY.out; have hs0 := LTX.out; have hs1 := LTZ.out; have hs2 := SS1.out; have hs3 := SS2.out; have hs4 := LWY.out; first | omega | (simp <;> omega)) _))
        have X4 := Lib.hid (show Bx 32 w4 (w.heap.size) #[.int .i64 r, .int .i64 g, .int .i64 b, .int .i64 t, .bool p] by rw [← hW]; exact ((X3.out.other (by have hlY := LY.out; have hs0 := LTX.out; have hs1 := LTZ.out; have hs2 := SS1.out; have hs3 := SS2.out; have hs4 := LWY.out; first | omega | (simp <;> omega)) _ _).other (by have hlY := LY.out; have hs0 := LTX.out; have hs1 := LTZ.out; have hs2 := SS1.out; have hs3 := SS2.out; have hs4 := LWY.out; first | omega | (simp <;> omega)) _ _))
        have Z4 := Lib.hid (show Bx 32 w4 (w.heap.size + 1) #[.int .i64 0, .int .i64 0, .int .i64 0, .int .i64 0, .bool false] by rw [← hW]; exact ((Z3.out.other (by have hlY := LY.out; have hs0 := LTX.out; have hs1 := LTZ.out; have hs2 := SS1.out; have hs3 := SS2.out; have hs4 := LWY.out; first | omega | (simp <;> omega)) _ _).other (by have hlY := LY.out; have hs0 := LTX.out; have hs1 := LTZ.out; have hs2 := SS1.out; have hs3 := SS2.out; have hs4 := LWY.out; first | omega | (simp <;> omega)) _ _))
        have Y4 := Lib.hid (show Bx 32 w4 (bo) #[.int .i64 r, .int .i64 t, .int .i64 0, .int .i64 t, .bool false] by rw [← hW]; exact ((Y3.out.set 2 _).set 4 _))
        clear hW B3 X3 Z3 Y3
        have cX0 : w4.cell? ⟨w.heap.size, 0, none⟩ = some (.int .i64 r) := X4.out.cell 0
        have cX3 : w4.cell? ⟨w.heap.size, 3, none⟩ = some (.int .i64 t) := X4.out.cell 3
        have cY0 : w4.cell? ⟨bo, 0, none⟩ = some (.int .i64 r) := Y4.out.cell 0
        have cY1 : w4.cell? ⟨bo, 1, none⟩ = some (.int .i64 t) := Y4.out.cell 1
        have cY2 : w4.cell? ⟨bo, 2, none⟩ = some (.int .i64 0) := Y4.out.cell 2
        have cY3 : w4.cell? ⟨bo, 3, none⟩ = some (.int .i64 t) := Y4.out.cell 3
        have cY4 : w4.cell? ⟨bo, 4, none⟩ = some (.bool false) := Y4.out.cell 4
        have fY0 : w4.frozen? ⟨bo, 0, none⟩ = false := Y4.out.free 0
        have fY1 : w4.frozen? ⟨bo, 1, none⟩ = false := Y4.out.free 1
        have fY2 : w4.frozen? ⟨bo, 2, none⟩ = false := Y4.out.free 2
        have fY3 : w4.frozen? ⟨bo, 3, none⟩ = false := Y4.out.free 3
        have fY4 : w4.frozen? ⟨bo, 4, none⟩ = false := Y4.out.free 4
        go_wp2_with (first | (refine stw.list_load rfl 32 _ rfl (bo) rfl 32 _ Y4.out Try.underlying32 rfl szR ?_) | (refine stw.list_store rfl 32 _ _ rfl (w.heap.size + 1) #[.int .i64 r, .int .i64 t, .int .i64 0, .int .i64 t, .bool false] rfl rfl 32 _ Z4.out rfl szR (oneR _ _ _ _ _) ?_; intro wz5 hz))
        clear cX0 cX3 cY0 cY1 cY2 cY3 cY4 fY0 fY1 fY2 fY3 fY4
        have B5 := Lib.hid (hz.on B4.out (by have hlY := LY.out; have hs0 := LTX.out; have hs1 := LTZ.out; have hs2 := SS1.out; have hs3 := SS2.out; have hs4 := LWY.out; first | omega | (simp <;> omega)))
        have X5 := Lib.hid (hz.keep X4.out (by have hlY := LY.out; have hs0 := LTX.out; have hs1 := LTZ.out; have hs2 := SS1.out; have hs3 := SS2.out; have hs4 := LWY.out; first | omega | (simp <;> omega)))
        have Z5 := Lib.hid (hz.box)
        have Y5 := Lib.hid (hz.keep Y4.out (by have hlY := LY.out; have hs0 := LTX.out; have hs1 := LTZ.out; have hs2 := SS1.out; have hs3 := SS2.out; have hs4 := LWY.out; first | omega | (simp <;> omega)))
        clear hz B4 X4 Z4 Y4
        (try simp only [Exit.inBlock, Exit.then])
        refine bodyPost_ret (v := .agg #[.int .i64 r, .int .i64 t, .int .i64 0, .int .i64 t, .bool false]) ?_ rfl ?_
        · rw [results_cell1 rfl]
          exact stw.back Z5.out Try.underlying32 rfl szR
        · exact ⟨by rw [HE.out], B5.out⟩
  | false =>
    have HE := Lib.hid (show su ⟨r, g, b, t, p⟩ = ⟨r, g, b, t, p⟩ by unfold su; rw [if_neg (of_decide_eq_false HV.out)])
    go_wp2_with (first | (refine stw.list_load rfl 32 _ rfl (w.heap.size) rfl 32 _ X1.out Try.underlying32 rfl szR ?_) | (refine stw.list_store rfl 32 _ _ rfl (w.heap.size + 1) #[.int .i64 r, .int .i64 g, .int .i64 b, .int .i64 t, .bool p] rfl rfl 32 _ Z1.out rfl szR (oneR _ _ _ _ _) ?_; intro wz2 hz))
    have B2 := Lib.hid (hz.on B1.out (by have hs0 := LTX.out; have hs1 := LTZ.out; have hs2 := SS1.out; first | omega | (simp <;> omega)))
    have X2 := Lib.hid (hz.keep X1.out (by have hs0 := LTX.out; have hs1 := LTZ.out; have hs2 := SS1.out; first | omega | (simp <;> omega)))
    have Z2 := Lib.hid (hz.box)
    clear hz B1 X1 Z1
    (try simp only [Exit.inBlock, Exit.then])
    refine bodyPost_ret (v := .agg #[.int .i64 r, .int .i64 g, .int .i64 b, .int .i64 t, .bool p]) ?_ rfl ?_
    · rw [results_cell1 rfl]
      exact stw.back Z2.out Try.underlying32 rfl szR
    · exact ⟨by rw [HE.out], B2.out⟩
end Go.Proofs.Ytejjafmppihneaa.ra
