/- The law function of FnExactReceiveBlockAck returns true and leaves what was there. Condition: none. -/
import Derived.Test.YthbmnhbnoipdfaaBsh
namespace Go.Proofs.Ythbmnhbnoipdfaa.xExactReceiveBlockAck
open Go.RowKit sl harn bx stw
set_option linter.unusedVariables false
open bs hiding below_box below_box2
set_option linter.unusedSimpArgs false

set_option maxRecDepth 100000 in
set_option maxHeartbeats 4000000 in
theorem walk (n0_0 : Int) (wn0_0 : (Lit.int .i64 n0_0).wf = true) (n0_1 : Int) (wn0_1 : (Lit.int .i64 n0_1).wf = true) (n0_2 : Int) (wn0_2 : (Lit.int .i64 n0_2).wf = true) (n1_0 : Int) (wn1_0 : (Lit.int .i64 n1_0).wf = true) (n1_1 : Int) (wn1_1 : (Lit.int .i64 n1_1).wf = true) (w : World) :
    Calls Try.prog 9 #[.agg #[.int .i64 n0_0, .int .i64 n0_1, .int .i64 n0_2], .agg #[.int .i64 n1_0, .int .i64 n1_1]] w (fun e w' => e = .returned (.bool true) ∧ Below w.heap.size w w') := by
  obtain ⟨⟨x0, x1, x2⟩, hx⟩ : ∃ x, rcv ⟨n0_0, n0_1, n0_2⟩ n1_0 n1_1 = x := ⟨_, rfl⟩
  have HX := Lib.hid hx
  clear hx wn0_0 wn0_1 wn0_2 wn1_0 wn1_1
  go_enter Try.func9, Try.ntmps9
  go_wp2_with fail
  obtain ⟨w0, hW⟩ : ∃ w0, (w.alloc (.cells #[.int .i64 n0_0, .int .i64 n0_1, .int .i64 n0_2] 42)).alloc (.cells #[.int .i64 n1_0, .int .i64 n1_1] 45) = w0 := ⟨_, rfl⟩
  rw [hW]
  have B0 := Lib.hid (show Below w.heap.size w w0 by rw [← hW]; exact ((Below.refl _ _).alloc (by simp <;> omega) _).alloc (by simp <;> omega) _)
  have X0 := Lib.hid (show Bx 42 w0 (w.heap.size) #[.int .i64 n0_0, .int .i64 n0_1, .int .i64 n0_2] by
      rw [← hW]
      have hh := Bx.made 42 w #[.int .i64 n0_0, .int .i64 n0_1, .int .i64 n0_2]
      exact (hh.below (below_box _ _)))
  have Y0 := Lib.hid (show Bx 45 w0 (w.heap.size + 1) #[.int .i64 n1_0, .int .i64 n1_1] by
      rw [← hW]
      have hh : Bx 45 ((w.alloc (.cells #[.int .i64 n0_0, .int .i64 n0_1, .int .i64 n0_2] 42)).alloc (.cells #[.int .i64 n1_0, .int .i64 n1_1] 45)) (w.heap.size + 1) #[.int .i64 n1_0, .int .i64 n1_1] := by have hh := Bx.made 45 (w.alloc (.cells #[.int .i64 n0_0, .int .i64 n0_1, .int .i64 n0_2] 42)) #[.int .i64 n1_0, .int .i64 n1_1]; simpa using hh
      exact hh)
  clear hW
  have LTX := Lib.hid X0.out.lt
  have LTY := Lib.hid Y0.out.lt
  refine reg.region_tail reg.Bel 6 21 [some [], some [(0, 7)], some [], some [(2, 9)], some [(1, 8), (3, 10)], some [], none] [(0, 7), (1, 8), (2, 9), (3, 10), (4, 11), (5, 5)]
    (fun w' => Below w.heap.size w w' ∧ Bx 42 w' (w.heap.size) #[.int .i64 n0_0, .int .i64 n0_1, .int .i64 n0_2] ∧ Bx 45 w' (w.heap.size + 1) #[.int .i64 n1_0, .int .i64 n1_1] ∧ True)
    (reg.rl [reg.is (.agg #[.int .i64 n0_0, .int .i64 n0_1, .int .i64 n0_2]), reg.is (.agg #[.int .i64 n0_0, .int .i64 n0_1, .int .i64 n0_2]), reg.is (.agg #[.int .i64 n1_0, .int .i64 n1_1]), reg.is (.agg #[.int .i64 n1_0, .int .i64 n1_1]), reg.is (.agg #[.int .i64 x0, .int .i64 x1, .int .i64 x2]), stw.mk 25 (w.heap.size + 1) #[.int .i64 0, .int .i64 0, .int .i64 0], reg.free])
    (by kernel_rfl) rfl (by kernel_rfl) (by kernel_rfl) rfl
    (fun w1 w2 hc hb => ⟨hc.1.trans (hb.mono hc.1.size), hc.2.1.below hb, hc.2.2.1.below hb, trivial⟩) (reg.rl_keep _) (⟨own.below_drew B0.out, X0.out.same rfl, Y0.out.same rfl, trivial⟩) (by kernel_rfl) ⟨?_, ?_, ?_, ?_, ?_, ?_, trivial⟩ ?_
  · refine fun w8 hc  K hK => ?_
    (try simp only [Act.put, List.setIfInBounds_toArray, List.set_cons_zero, List.set_cons_succ])
    rw [if_pos (by rfl)]
    refine stw.wp_load_bx 42 _ rfl (w.heap.size) rfl 42 _ hc.2.1 Try.underlying42 rfl szLS ?_
    exact hK _ _ rfl (Below.refl _ _)
  · refine fun w8 hc v0 h0 K hK => ?_
    obtain rfl : v0 = .agg #[.int .i64 n0_0, .int .i64 n0_1, .int .i64 n0_2] := h0
    (try simp only [Act.put, List.setIfInBounds_toArray, List.set_cons_zero, List.set_cons_succ])
    go_simp
    (with_reducible refine (toS n0_0 n0_1 n0_2 _).mono ?_)
    rintro e w3 ⟨rfl, hb⟩
    exact hK _ _ rfl hb
  · refine fun w8 hc  K hK => ?_
    (try simp only [Act.put, List.setIfInBounds_toArray, List.set_cons_zero, List.set_cons_succ])
    rw [if_pos (by rfl)]
    refine stw.wp_load_bx 45 _ rfl (w.heap.size + 1) rfl 45 _ hc.2.2.1 Try.underlying45 rfl szLA ?_
    exact hK _ _ rfl (Below.refl _ _)
  · refine fun w8 hc v2 h2 K hK => ?_
    obtain rfl : v2 = .agg #[.int .i64 n1_0, .int .i64 n1_1] := h2
    (try simp only [Act.put, List.setIfInBounds_toArray, List.set_cons_zero, List.set_cons_succ])
    go_simp
    (with_reducible refine (toA n1_0 n1_1 _).mono ?_)
    rintro e w3 ⟨rfl, hb⟩
    exact hK _ _ rfl hb
  · refine fun w8 hc v1 h1 v3 h3 K hK => ?_
    obtain rfl : v1 = .agg #[.int .i64 n0_0, .int .i64 n0_1, .int .i64 n0_2] := h1
    obtain rfl : v3 = .agg #[.int .i64 n1_0, .int .i64 n1_1] := h3
    (try simp only [Act.put, List.setIfInBounds_toArray, List.set_cons_zero, List.set_cons_succ])
    go_simp
    (with_reducible refine (specRcv n0_0 n0_1 n0_2 n1_0 n1_1 _).mono ?_)
    rintro e w3 hp
    obtain ⟨rfl, hb⟩ := s_parts HX.out hp
    exact hK _ _ rfl hb
  · refine fun w8 hc  K hK => ?_
    (try simp only [Act.put, List.setIfInBounds_toArray, List.set_cons_zero, List.set_cons_succ])
    rw [if_pos (by rfl)]
    have hlt := hc.2.2.1.lt
    go_simp
    exact hK (.pointer (some ⟨w8.heap.size, 0, none⟩)) _ ⟨w8.heap.size, rfl, hlt, Bx.made _ _ _⟩ (below_box _ _)
  refine fun wg1 hc v0 h0 v1 h1 v2 h2 v3 h3 v4 h4 v5 h5 => ?_
  obtain rfl : v0 = .agg #[.int .i64 n0_0, .int .i64 n0_1, .int .i64 n0_2] := h0
  obtain rfl : v1 = .agg #[.int .i64 n0_0, .int .i64 n0_1, .int .i64 n0_2] := h1
  obtain rfl : v2 = .agg #[.int .i64 n1_0, .int .i64 n1_1] := h2
  obtain rfl : v3 = .agg #[.int .i64 n1_0, .int .i64 n1_1] := h3
  obtain rfl : v4 = .agg #[.int .i64 x0, .int .i64 x1, .int .i64 x2] := h4
  obtain ⟨qN, rfl, hq, hP⟩ : ∃ q, v5 = .pointer (some ⟨q, 0, none⟩) ∧ w.heap.size + 1 < q ∧ Bx 25 wg1 q #[.int .i64 0, .int .i64 0, .int .i64 0] := h5
  (try simp only [reg.Obs])
  (try simp only [Act.put, List.setIfInBounds_toArray, List.set_cons_zero, List.set_cons_succ])
  simp only [List.drop_succ_cons, List.drop_zero]
  have B1 := Lib.hid hc.1
  have X1 := Lib.hid hc.2.1
  have Y1 := Lib.hid hc.2.2.1
  clear hc B0 X0 Y0
  have LN := Lib.hid hq
  have N1 := Lib.hid hP
  clear hq hP
  refine stw.list_store rfl 25 _ _ rfl (qN) #[.int .i64 x0, .int .i64 x1, .int .i64 x2] rfl rfl 25 _ N1.out rfl szS (oneS _ _ _) ?_
  intro wz2 hz
  (try simp only [Act.put])
  have B2 := Lib.hid (hz.on B1.out (by have hlN := LN.out; have hs0 := LTX.out; have hs1 := LTY.out; first | omega | (simp <;> omega)))
  have X2 := Lib.hid (hz.keep X1.out (by have hlN := LN.out; have hs0 := LTX.out; have hs1 := LTY.out; first | omega | (simp <;> omega)))
  have Y2 := Lib.hid (hz.keep Y1.out (by have hlN := LN.out; have hs0 := LTX.out; have hs1 := LTY.out; first | omega | (simp <;> omega)))
  have N2 := Lib.hid (hz.box)
  clear hz B1 X1 Y1 N1
  go_wp2_with fail
  refine reg.region_tail reg.Bel 6 21 [some [], some [(0, 12)], some [], some [(2, 14)], some [(1, 13), (3, 15)], some [], none] [(0, 12), (1, 13), (2, 14), (3, 15), (4, 16), (5, 6)]
    (fun w' => Below w.heap.size w w' ∧ Bx 42 w' (w.heap.size) #[.int .i64 n0_0, .int .i64 n0_1, .int .i64 n0_2] ∧ Bx 45 w' (w.heap.size + 1) #[.int .i64 n1_0, .int .i64 n1_1] ∧ Bx 25 w' (qN) #[.int .i64 x0, .int .i64 x1, .int .i64 x2] ∧ True)
    (reg.rl [reg.is (.agg #[.int .i64 n0_0, .int .i64 n0_1, .int .i64 n0_2]), reg.is (.agg #[.int .i64 n0_0, .int .i64 n0_1, .int .i64 n0_2]), reg.is (.agg #[.int .i64 n1_0, .int .i64 n1_1]), reg.is (.agg #[.int .i64 n1_0, .int .i64 n1_1]), reg.is (.agg #[.int .i64 x0, .int .i64 x1, .int .i64 x2]), stw.mk 25 (qN) #[.int .i64 0, .int .i64 0, .int .i64 0], reg.free])
    (by kernel_rfl) rfl (by kernel_rfl) (by kernel_rfl) rfl
    (fun w1 w2 hc hb => ⟨hc.1.trans (hb.mono hc.1.size), hc.2.1.below hb, hc.2.2.1.below hb, hc.2.2.2.1.below hb, trivial⟩) (reg.rl_keep _) (⟨own.below_drew B2.out, X2.out.same rfl, Y2.out.same rfl, N2.out.same rfl, trivial⟩) (by kernel_rfl) ⟨?_, ?_, ?_, ?_, ?_, ?_, trivial⟩ ?_
  · refine fun w8 hc  K hK => ?_
    (try simp only [Act.put, List.setIfInBounds_toArray, List.set_cons_zero, List.set_cons_succ])
    rw [if_pos (by rfl)]
    refine stw.wp_load_bx 42 _ rfl (w.heap.size) rfl 42 _ hc.2.1 Try.underlying42 rfl szLS ?_
    exact hK _ _ rfl (Below.refl _ _)
  · refine fun w8 hc v0 h0 K hK => ?_
    obtain rfl : v0 = .agg #[.int .i64 n0_0, .int .i64 n0_1, .int .i64 n0_2] := h0
    (try simp only [Act.put, List.setIfInBounds_toArray, List.set_cons_zero, List.set_cons_succ])
    go_simp
    (with_reducible refine (toS n0_0 n0_1 n0_2 _).mono ?_)
    rintro e w3 ⟨rfl, hb⟩
    exact hK _ _ rfl hb
  · refine fun w8 hc  K hK => ?_
    (try simp only [Act.put, List.setIfInBounds_toArray, List.set_cons_zero, List.set_cons_succ])
    rw [if_pos (by rfl)]
    refine stw.wp_load_bx 45 _ rfl (w.heap.size + 1) rfl 45 _ hc.2.2.1 Try.underlying45 rfl szLA ?_
    exact hK _ _ rfl (Below.refl _ _)
  · refine fun w8 hc v2 h2 K hK => ?_
    obtain rfl : v2 = .agg #[.int .i64 n1_0, .int .i64 n1_1] := h2
    (try simp only [Act.put, List.setIfInBounds_toArray, List.set_cons_zero, List.set_cons_succ])
    go_simp
    (with_reducible refine (toA n1_0 n1_1 _).mono ?_)
    rintro e w3 ⟨rfl, hb⟩
    exact hK _ _ rfl hb
  · refine fun w8 hc v1 h1 v3 h3 K hK => ?_
    obtain rfl : v1 = .agg #[.int .i64 n0_0, .int .i64 n0_1, .int .i64 n0_2] := h1
    obtain rfl : v3 = .agg #[.int .i64 n1_0, .int .i64 n1_1] := h3
    (try simp only [Act.put, List.setIfInBounds_toArray, List.set_cons_zero, List.set_cons_succ])
    go_simp
    (with_reducible refine (implRcv n0_0 n0_1 n0_2 n1_0 n1_1 _).mono ?_)
    rintro e w3 hp
    obtain ⟨rfl, hb⟩ := s_parts HX.out hp
    exact hK _ _ rfl hb
  · refine fun w8 hc  K hK => ?_
    (try simp only [Act.put, List.setIfInBounds_toArray, List.set_cons_zero, List.set_cons_succ])
    rw [if_pos (by rfl)]
    have hlt := hc.2.2.2.1.lt
    go_simp
    exact hK (.pointer (some ⟨w8.heap.size, 0, none⟩)) _ ⟨w8.heap.size, rfl, hlt, Bx.made _ _ _⟩ (below_box _ _)
  refine fun wg3 hc v0 h0 v1 h1 v2 h2 v3 h3 v4 h4 v5 h5 => ?_
  obtain rfl : v0 = .agg #[.int .i64 n0_0, .int .i64 n0_1, .int .i64 n0_2] := h0
  obtain rfl : v1 = .agg #[.int .i64 n0_0, .int .i64 n0_1, .int .i64 n0_2] := h1
  obtain rfl : v2 = .agg #[.int .i64 n1_0, .int .i64 n1_1] := h2
  obtain rfl : v3 = .agg #[.int .i64 n1_0, .int .i64 n1_1] := h3
  obtain rfl : v4 = .agg #[.int .i64 x0, .int .i64 x1, .int .i64 x2] := h4
  obtain ⟨qM, rfl, hq, hP⟩ : ∃ q, v5 = .pointer (some ⟨q, 0, none⟩) ∧ qN < q ∧ Bx 25 wg3 q #[.int .i64 0, .int .i64 0, .int .i64 0] := h5
  (try simp only [reg.Obs])
  (try simp only [Act.put, List.setIfInBounds_toArray, List.set_cons_zero, List.set_cons_succ])
  simp only [List.drop_succ_cons, List.drop_zero]
  have B3 := Lib.hid hc.1
  have X3 := Lib.hid hc.2.1
  have Y3 := Lib.hid hc.2.2.1
  have N3 := Lib.hid hc.2.2.2.1
  clear hc B2 X2 Y2 N2
  have LM := Lib.hid hq
  have M3 := Lib.hid hP
  clear hq hP
  refine stw.list_store rfl 25 _ _ rfl (qM) #[.int .i64 x0, .int .i64 x1, .int .i64 x2] rfl rfl 25 _ M3.out rfl szS (oneS _ _ _) ?_
  intro wz4 hz
  (try simp only [Act.put])
  have B4 := Lib.hid (hz.on B3.out (by have hlN := LN.out; have hlM := LM.out; have hs0 := LTX.out; have hs1 := LTY.out; first | omega | (simp <;> omega)))
  have X4 := Lib.hid (hz.keep X3.out (by have hlN := LN.out; have hlM := LM.out; have hs0 := LTX.out; have hs1 := LTY.out; first | omega | (simp <;> omega)))
  have Y4 := Lib.hid (hz.keep Y3.out (by have hlN := LN.out; have hlM := LM.out; have hs0 := LTX.out; have hs1 := LTY.out; first | omega | (simp <;> omega)))
  have N4 := Lib.hid (hz.keep N3.out (by have hlN := LN.out; have hlM := LM.out; have hs0 := LTX.out; have hs1 := LTY.out; first | omega | (simp <;> omega)))
  have M4 := Lib.hid (hz.box)
  clear hz B3 X3 Y3 N3 M3
  go_wp2_with (first | (refine stw.list_load rfl 25 _ rfl (qM) rfl 25 _ M4.out Try.underlying25 rfl szS ?_) | (refine stw.list_load rfl 25 _ rfl (qN) rfl 25 _ N4.out Try.underlying25 rfl szS ?_))
  (with_reducible refine (eqS_yes x0 x1 x2 _).mono ?_)
  rintro e w5 ⟨rfl, hb⟩
  have SS5 := Lib.hid hb.size
  have B5 := Lib.hid (B4.out.trans (hb.mono B4.out.size))
  have X5 := Lib.hid (X4.out.below hb)
  have Y5 := Lib.hid (Y4.out.below hb)
  have N5 := Lib.hid (N4.out.below hb)
  have M5 := Lib.hid (M4.out.below hb)
  clear hb  B4 X4 Y4 N4 M4
  go_wp2_with fail
  go_ret
  exact ⟨rfl, B5.out⟩
end Go.Proofs.Ythbmnhbnoipdfaa.xExactReceiveBlockAck
