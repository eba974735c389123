/- Failures, program and specification. Condition: none. -/
import Derived.Test.YtejjafmppihneaaRt2
namespace Go.Proofs.Ytejjafmppihneaa.ra
open Go.RowKit sl harn rng bx stw airs
set_option linter.unusedVariables false
set_option linter.unusedSimpArgs false

set_option maxRecDepth 100000 in
set_option maxHeartbeats 4000000 in
theorem implFa (r g b t : Int) (p : Bool) (w : World) :
    Calls Try.prog 23 #[.agg #[.int .i64 r, .int .i64 g, .int .i64 b, .int .i64 t, .bool p]] w (RPost (fa ⟨r, g, b, t, p⟩) w) := by
  obtain ⟨v, hv⟩ : ∃ x, va ⟨r, g, b, t, p⟩ = x := ⟨_, rfl⟩
  have HV := Lib.hid hv
  clear hv
  go_enter Try.func23, Try.ntmps23
  go_wp2_with fail
  obtain ⟨w0, hW⟩ : ∃ w0, (w.alloc (.cells #[.int .i64 r, .int .i64 g, .int .i64 b, .int .i64 t, .bool p] 32)).alloc (.cells #[.int .i64 0, .int .i64 0, .int .i64 0, .int .i64 0, .bool false] 32) = w0 := ⟨_, rfl⟩
  rw [hW]
  have B0 := Lib.hid (show Below w.heap.size w w0 by rw [← hW]; exact ((Below.refl _ _).alloc (by simp <;> omega) _).alloc (by simp <;> omega) _)
  have X0 := Lib.hid (show Bx 32 w0 (w.heap.size) #[.int .i64 r, .int .i64 g, .int .i64 b, .int .i64 t, .bool p] by
      rw [← hW]
      have hh := Bx.made 32 w #[.int .i64 r, .int .i64 g, .int .i64 b, .int .i64 t, .bool p]
      exact (hh.below (below_box _ _)))
  have Z0 := Lib.hid (show Bx 32 w0 (w.heap.size + 1) #[.int .i64 0, .int .i64 0, .int .i64 0, .int .i64 0, .bool false] by
      rw [← hW]
      have hh : Bx 32 ((w.alloc (.cells #[.int .i64 r, .int .i64 g, .int .i64 b, .int .i64 t, .bool p] 32)).alloc (.cells #[.int .i64 0, .int .i64 0, .int .i64 0, .int .i64 0, .bool false] 32)) (w.heap.size + 1) #[.int .i64 0, .int .i64 0, .int .i64 0, .int .i64 0, .bool false] := by have hh := Bx.made 32 (w.alloc (.cells #[.int .i64 r, .int .i64 g, .int .i64 b, .int .i64 t, .bool p] 32)) #[.int .i64 0, .int .i64 0, .int .i64 0, .int .i64 0, .bool false]; simpa using hh
      exact hh)
  clear hW
  have LTX := Lib.hid X0.out.lt
  have LTZ := Lib.hid Z0.out.lt
  go_wp2_with (refine stw.list_load rfl 32 _ rfl (w.heap.size) rfl 32 _ X0.out Try.underlying32 rfl szR ?_)
  (with_reducible refine (implVa r g b t p _).mono ?_)
  rintro e w1 hp
  obtain ⟨rfl, hb⟩ := b_parts HV.out hp
  clear hp
  have SS1 := Lib.hid hb.size
  have B1 := Lib.hid (B0.out.trans (hb.mono B0.out.size))
  have X1 := Lib.hid (X0.out.below hb)
  have Z1 := Lib.hid (Z0.out.below hb)
  clear hb  B0 X0 Z0
  cases v with
  | true =>
    have hv := of_decide_eq_true HV.out
    obtain ⟨⟨a1, a2⟩, a3, ⟨a4, a5⟩, ⟨a6, a7⟩, a8, a9⟩ := hv
    dsimp only at a1 a2 a3 a4 a5 a6 a7 a8 a9
    unfold Vt at a3
    have m1 : IntKind.i64.wrap (r - 1) = r - 1 := IntWalk.i64_in _ (by omega)
    have m2 : IntKind.i64.wrap (2 * t) = 2 * t := IntWalk.i64_in _ (by omega)
    obtain ⟨t2, ht2⟩ : ∃ x : Int, (if t = 10 then 20 else 40) = x := ⟨_, rfl⟩
    obtain ⟨r2, hr2⟩ : ∃ x : Int, (if 0 < r then r - 1 else 0) = x := ⟨_, rfl⟩
    have HT2 := Lib.hid ht2
    have HR2 := Lib.hid hr2
    cases p with
    | true =>
      by_cases h1 : 0 < r
      · obtain ⟨rfl, rfl⟩ := a9 rfl
        clear a9
        have HE := Lib.hid (show fa ⟨r, 0, 0, t, true⟩ = ⟨((r - 1)), 0, 0, t2, false⟩ by unfold fa; rw [if_pos (of_decide_eq_true HV.out), if_pos ⟨rfl, h1⟩, ← HT2.out])
        have HM := Lib.hid (show t2 = if 40 < 2 * t then 40 else 2 * t by rw [← ht2]; split <;> split <;> omega)
        clear ht2 hr2
        have cX0 : w1.cell? ⟨w.heap.size, 0, none⟩ = some (.int .i64 r) := X1.out.cell 0
        have cX4 : w1.cell? ⟨w.heap.size, 4, none⟩ = some (.bool true) := X1.out.cell 4
        go_upto_region 4 with fail
        clear cX0 cX4
        refine reg.region_tail reg.Bel 8 39 [some [], some [(0, 15)], some [(1, 16)], some [], some [(3, 18)], some [(4, 19)], some [(5, 20)], some [(2, 17), (6, 21)], none] [(0, 15), (1, 16), (2, 17), (3, 18), (4, 19), (5, 20), (6, 21), (7, 22)]
          (fun w' => Below w.heap.size w w' ∧ Bx 32 w' (w.heap.size) #[.int .i64 r, .int .i64 0, .int .i64 0, .int .i64 t, .bool true] ∧ Bx 32 w' (w.heap.size + 1) #[.int .i64 0, .int .i64 0, .int .i64 0, .int .i64 0, .bool false] ∧ True)
          (reg.rl [reg.is (.pointer (some ⟨w.heap.size, 0, none⟩)), reg.is (.int .i64 r), reg.is (.int .i64 ((r - 1))), reg.is (.pointer (some ⟨w.heap.size, 3, none⟩)), reg.is (.int .i64 t), reg.is (.int .i64 ((2 * t))), reg.is (.int .i64 t2), reg.is (.agg #[.int .i64 ((r - 1)), .int .i64 0, .int .i64 0, .int .i64 t2, .bool false]), reg.free])
          (by kernel_rfl) rfl (by kernel_rfl) (by kernel_rfl) rfl
          (fun w1 w2 hc hb => ⟨hc.1.trans (hb.mono hc.1.size), hc.2.1.below hb, hc.2.2.1.below hb, trivial⟩) (reg.rl_keep _) (⟨own.below_drew B1.out, X1.out.same rfl, Z1.out.same rfl, trivial⟩) (by kernel_rfl) ⟨?_, ?_, ?_, ?_, ?_, ?_, ?_, ?_, trivial⟩ ?_
        · refine fun w8 hc  K hK => ?_
          (try simp only [Act.put, List.setIfInBounds_toArray, List.set_cons_zero, List.set_cons_succ])
          go_simp
          exact hK (.pointer (some ⟨w.heap.size, 0, none⟩)) _ rfl (Below.refl _ _)
        · refine fun w8 hc v0 h0 K hK => ?_
          obtain rfl : v0 = .pointer (some ⟨w.heap.size, 0, none⟩) := h0
          (try simp only [Act.put, List.setIfInBounds_toArray, List.set_cons_zero, List.set_cons_succ])
          have c0 : w8.cell? ⟨w.heap.size, 0, none⟩ = some (.int .i64 r) := hc.2.1.cell 0
          go_simp
          exact hK (.int .i64 r) _ rfl (Below.refl _ _)
        · refine fun w8 hc v1 h1 K hK => ?_
          obtain rfl : v1 = .int .i64 r := h1
          (try simp only [Act.put, List.setIfInBounds_toArray, List.set_cons_zero, List.set_cons_succ])
          go_simp
          (try rw [m1])
          (try rw [m2])
          exact hK (.int .i64 ((r - 1))) _ rfl (Below.refl _ _)
        · refine fun w8 hc  K hK => ?_
          (try simp only [Act.put, List.setIfInBounds_toArray, List.set_cons_zero, List.set_cons_succ])
          go_simp
          exact hK (.pointer (some ⟨w.heap.size, 3, none⟩)) _ rfl (Below.refl _ _)
        · refine fun w8 hc v3 h3 K hK => ?_
          obtain rfl : v3 = .pointer (some ⟨w.heap.size, 3, none⟩) := h3
          (try simp only [Act.put, List.setIfInBounds_toArray, List.set_cons_zero, List.set_cons_succ])
          have c0 : w8.cell? ⟨w.heap.size, 3, none⟩ = some (.int .i64 t) := hc.2.1.cell 3
          go_simp
          exact hK (.int .i64 t) _ rfl (Below.refl _ _)
        · refine fun w8 hc v4 h4 K hK => ?_
          obtain rfl : v4 = .int .i64 t := h4
          (try simp only [Act.put, List.setIfInBounds_toArray, List.set_cons_zero, List.set_cons_succ])
          go_simp
          (try rw [m1])
          (try rw [m2])
          exact hK (.int .i64 ((2 * t))) _ rfl (Below.refl _ _)
        · refine fun w8 hc v5 h5 K hK => ?_
          obtain rfl : v5 = .int .i64 ((2 * t)) := h5
          (try simp only [Act.put, List.setIfInBounds_toArray, List.set_cons_zero, List.set_cons_succ])
          go_simp
          (with_reducible refine (implMin (2 * t) 40 t2 HM.out _).mono ?_)
          rintro e w3 ⟨rfl, hb⟩
          exact hK _ _ rfl hb
        · refine fun w8 hc v2 h2 v6 h6 K hK => ?_
          obtain rfl : v2 = .int .i64 ((r - 1)) := h2
          obtain rfl : v6 = .int .i64 t2 := h6
          (try simp only [Act.put, List.setIfInBounds_toArray, List.set_cons_zero, List.set_cons_succ])
          go_simp
          exact hK (.agg #[.int .i64 ((r - 1)), .int .i64 0, .int .i64 0, .int .i64 t2, .bool false]) _ rfl (Below.refl _ _)
        refine fun wg2 hc v0 h0 v1 h1 v2 h2 v3 h3 v4 h4 v5 h5 v6 h6 v7 h7 => ?_
        obtain rfl : v0 = .pointer (some ⟨w.heap.size, 0, none⟩) := h0
        obtain rfl : v1 = .int .i64 r := h1
        obtain rfl : v2 = .int .i64 ((r - 1)) := h2
        obtain rfl : v3 = .pointer (some ⟨w.heap.size, 3, none⟩) := h3
        obtain rfl : v4 = .int .i64 t := h4
        obtain rfl : v5 = .int .i64 ((2 * t)) := h5
        obtain rfl : v6 = .int .i64 t2 := h6
        obtain rfl : v7 = .agg #[.int .i64 ((r - 1)), .int .i64 0, .int .i64 0, .int .i64 t2, .bool false] := h7
        (try simp only [reg.Obs])
        (try simp only [Act.put, List.setIfInBounds_toArray, List.set_cons_zero, List.set_cons_succ])
        simp only [List.drop_succ_cons, List.drop_zero]
        have B2 := Lib.hid hc.1
        have X2 := Lib.hid hc.2.1
        have Z2 := Lib.hid hc.2.2.1
        clear hc B1 X1 Z1
        refine stw.list_store rfl 32 _ _ rfl (w.heap.size + 1) #[.int .i64 ((r - 1)), .int .i64 0, .int .i64 0, .int .i64 t2, .bool false] rfl rfl 32 _ Z2.out rfl szR (oneR _ _ _ _ _) ?_
        intro wz3 hz
        (try simp only [Act.put])
        have B3 := Lib.hid (hz.on B2.out (by have hs0 := LTX.out; have hs1 := LTZ.out; have hs2 := SS1.out; first | omega | (simp <;> omega)))
        have X3 := Lib.hid (hz.keep X2.out (by have hs0 := LTX.out; have hs1 := LTZ.out; have hs2 := SS1.out; first | omega | (simp <;> omega)))
        have Z3 := Lib.hid (hz.box)
        clear hz B2 X2 Z2
        go_wp2_with fail
        (try simp only [Exit.inBlock, Exit.then])
        refine bodyPost_ret (v := .agg #[.int .i64 ((r - 1)), .int .i64 0, .int .i64 0, .int .i64 t2, .bool false]) ?_ rfl ?_
        · rw [results_cell1 rfl]
          exact stw.back Z3.out Try.underlying32 rfl szR
        · exact ⟨by rw [HE.out], B3.out⟩
      · obtain ⟨rfl, rfl⟩ := a9 rfl
        clear a9
        have HE := Lib.hid (show fa ⟨r, 0, 0, t, true⟩ = ⟨r, 0, 1, t, false⟩ by unfold fa; rw [if_pos (of_decide_eq_true HV.out), if_neg (fun h => h1 h.2), if_neg (show ¬ (0 : Int) = 1 by decide)])
        clear ht2 hr2
        have cX0 : w1.cell? ⟨w.heap.size, 0, none⟩ = some (.int .i64 r) := X1.out.cell 0
        have cX1 : w1.cell? ⟨w.heap.size, 1, none⟩ = some (.int .i64 0) := X1.out.cell 1
        have cX2 : w1.cell? ⟨w.heap.size, 2, none⟩ = some (.int .i64 0) := X1.out.cell 2
        have cX3 : w1.cell? ⟨w.heap.size, 3, none⟩ = some (.int .i64 t) := X1.out.cell 3
        have cX4 : w1.cell? ⟨w.heap.size, 4, none⟩ = some (.bool true) := X1.out.cell 4
        go_wp2_with (first | (refine stw.list_store rfl 32 _ _ rfl (w.heap.size + 1) #[.int .i64 r, .int .i64 0, .int .i64 1, .int .i64 t, .bool false] rfl rfl 32 _ Z1.out rfl szR (oneR _ _ _ _ _) ?_; intro wz2 hz))
        clear cX0 cX1 cX2 cX3 cX4
        have B2 := Lib.hid (hz.on B1.out (by have hs0 := LTX.out; have hs1 := LTZ.out; have hs2 := SS1.out; first | omega | (simp <;> omega)))
        have X2 := Lib.hid (hz.keep X1.out (by have hs0 := LTX.out; have hs1 := LTZ.out; have hs2 := SS1.out; first | omega | (simp <;> omega)))
        have Z2 := Lib.hid (hz.box)
        clear hz B1 X1 Z1
        (try simp only [Exit.inBlock, Exit.then])
        refine bodyPost_ret (v := .agg #[.int .i64 r, .int .i64 0, .int .i64 1, .int .i64 t, .bool false]) ?_ rfl ?_
        · rw [results_cell1 rfl]
          exact stw.back Z2.out Try.underlying32 rfl szR
        · exact ⟨by rw [HE.out], B2.out⟩
    | false =>
      by_cases hb1 : b = 1
      · have HE := Lib.hid (show fa ⟨r, g, b, t, false⟩ = ⟨r2, 0, 0, 10, false⟩ by unfold fa; rw [if_pos (of_decide_eq_true HV.out), if_neg (fun h => by simp at h), if_pos hb1, ← HR2.out])
        have HM := Lib.hid (show r2 = if r - 1 < 0 then 0 else r - 1 by rw [← hr2]; split <;> split <;> omega)
        have HN := Lib.hid (show new r2 = ⟨r2, 0, 0, 10, false⟩ by unfold new; rw [if_pos (by rw [← hr2]; split <;> omega)])
        obtain rfl : b = 1 := by omega
        clear ht2 hr2
        have cX0 : w1.cell? ⟨w.heap.size, 0, none⟩ = some (.int .i64 r) := X1.out.cell 0
        have cX1 : w1.cell? ⟨w.heap.size, 1, none⟩ = some (.int .i64 g) := X1.out.cell 1
        have cX2 : w1.cell? ⟨w.heap.size, 2, none⟩ = some (.int .i64 1) := X1.out.cell 2
        have cX3 : w1.cell? ⟨w.heap.size, 3, none⟩ = some (.int .i64 t) := X1.out.cell 3
        have cX4 : w1.cell? ⟨w.heap.size, 4, none⟩ = some (.bool false) := X1.out.cell 4
        go_wp2_with fail
        clear cX0 cX1 cX2 cX3 cX4
        (with_reducible refine (implMax (r - 1) 0 r2 HM.out _).mono ?_)
        rintro e w2 ⟨rfl, hb⟩
        have SS2 := Lib.hid hb.size
        have B2 := Lib.hid (B1.out.trans (hb.mono B1.out.size))
        have X2 := Lib.hid (X1.out.below hb)
        have Z2 := Lib.hid (Z1.out.below hb)
        clear hb  B1 X1 Z1
        go_wp2_with fail
        (with_reducible refine (implNew r2 _).mono ?_)
        rintro e w3 hp
        obtain ⟨rfl, hb⟩ := r_parts HN.out hp
        clear hp
        have SS3 := Lib.hid hb.size
        have B3 := Lib.hid (B2.out.trans (hb.mono B2.out.size))
        have X3 := Lib.hid (X2.out.below hb)
        have Z3 := Lib.hid (Z2.out.below hb)
        clear hb  B2 X2 Z2
        go_wp2_with (first | (refine stw.list_store rfl 32 _ _ rfl (w.heap.size + 1) #[.int .i64 r2, .int .i64 0, .int .i64 0, .int .i64 10, .bool false] rfl rfl 32 _ Z3.out rfl szR (oneR _ _ _ _ _) ?_; intro wz4 hz))
        have B4 := Lib.hid (hz.on B3.out (by have hs0 := LTX.out; have hs1 := LTZ.out; have hs2 := SS1.out; have hs3 := SS2.out; have hs4 := SS3.out; first | omega | (simp <;> omega)))
        have X4 := Lib.hid (hz.keep X3.out (by have hs0 := LTX.out; have hs1 := LTZ.out; have hs2 := SS1.out; have hs3 := SS2.out; have hs4 := SS3.out; first | omega | (simp <;> omega)))
        have Z4 := Lib.hid (hz.box)
        clear hz B3 X3 Z3
        (try simp only [Exit.inBlock, Exit.then])
        refine bodyPost_ret (v := .agg #[.int .i64 r2, .int .i64 0, .int .i64 0, .int .i64 10, .bool false]) ?_ rfl ?_
        · rw [results_cell1 rfl]
          exact stw.back Z4.out Try.underlying32 rfl szR
        · exact ⟨by rw [HE.out], B4.out⟩
      · have HE := Lib.hid (show fa ⟨r, g, b, t, false⟩ = ⟨r, 0, 1, t, false⟩ by unfold fa; rw [if_pos (of_decide_eq_true HV.out), if_neg (fun h => by simp at h), if_neg hb1])
        obtain rfl : b = 0 := by omega
        clear ht2 hr2
        have cX0 : w1.cell? ⟨w.heap.size, 0, none⟩ = some (.int .i64 r) := X1.out.cell 0
        have cX1 : w1.cell? ⟨w.heap.size, 1, none⟩ = some (.int .i64 g) := X1.out.cell 1
        have cX2 : w1.cell? ⟨w.heap.size, 2, none⟩ = some (.int .i64 0) := X1.out.cell 2
        have cX3 : w1.cell? ⟨w.heap.size, 3, none⟩ = some (.int .i64 t) := X1.out.cell 3
        have cX4 : w1.cell? ⟨w.heap.size, 4, none⟩ = some (.bool false) := X1.out.cell 4
        go_wp2_with (first | (refine stw.list_store rfl 32 _ _ rfl (w.heap.size + 1) #[.int .i64 r, .int .i64 0, .int .i64 1, .int .i64 t, .bool false] rfl rfl 32 _ Z1.out rfl szR (oneR _ _ _ _ _) ?_; intro wz2 hz))
        clear cX0 cX1 cX2 cX3 cX4
        have B2 := Lib.hid (hz.on B1.out (by have hs0 := LTX.out; have hs1 := LTZ.out; have hs2 := SS1.out; first | omega | (simp <;> omega)))
        have X2 := Lib.hid (hz.keep X1.out (by have hs0 := LTX.out; have hs1 := LTZ.out; have hs2 := SS1.out; first | omega | (simp <;> omega)))
        have Z2 := Lib.hid (hz.box)
        clear hz B1 X1 Z1
        (try simp only [Exit.inBlock, Exit.then])
        refine bodyPost_ret (v := .agg #[.int .i64 r, .int .i64 0, .int .i64 1, .int .i64 t, .bool false]) ?_ rfl ?_
        · rw [results_cell1 rfl]
          exact stw.back Z2.out Try.underlying32 rfl szR
        · exact ⟨by rw [HE.out], B2.out⟩
  | false =>
    have HE := Lib.hid (show fa ⟨r, g, b, t, p⟩ = ⟨r, g, b, t, p⟩ by unfold fa; rw [if_neg (of_decide_eq_false HV.out)])
    go_wp2_with (first | (refine stw.list_load rfl 32 _ rfl (w.heap.size) rfl 32 _ X1.out Try.underlying32 rfl szR ?_) | (refine stw.list_store rfl 32 _ _ rfl (w.heap.size + 1) #[.int .i64 r, .int .i64 g, .int .i64 b, .int .i64 t, .bool p] rfl rfl 32 _ Z1.out rfl szR (oneR _ _ _ _ _) ?_; intro wz2 hz))
    have B2 := Lib.hid (hz.on B1.out (by have hs0 := LTX.out; have hs1 := LTZ.out; have hs2 := SS1.out; first | omega | (simp <;> omega)))
    have X2 := Lib.hid (hz.keep X1.out (by have hs0 := LTX.out; have hs1 := LTZ.out; have hs2 := SS1.out; first | omega | (simp <;> omega)))
    have Z2 := Lib.hid (hz.box)
    clear hz B1 X1 Z1
    (try simp only [Exit.inBlock, Exit.then])
    refine bodyPost_ret (v := .agg #[.int .i64 r, .int .i64 g, .int .i64 b, .int .i64 t, .bool p]) ?_ rfl ?_
    · rw [results_cell1 rfl]
      exact stw.back Z2.out Try.underlying32 rfl szR
    · exact ⟨by rw [HE.out], B2.out⟩
set_option maxRecDepth 100000 in
set_option maxHeartbeats 4000000 in
theorem specFa (r g b t : Int) (p : Bool) (w : World) :
    Calls Try.prog 32 #[.agg #[.int .i64 r, .int .i64 g, .int .i64 b, .int .i64 t, .bool p]] w (RPost (fa ⟨r, g, b, t, p⟩) w) := by
  obtain ⟨v, hv⟩ : ∃ x, va ⟨r, g, b, t, p⟩ = x := ⟨_, rfl⟩
  have HV := Lib.hid hv
  clear hv
  go_enter Try.func32, Try.ntmps32
  go_wp2_with fail
  obtain ⟨w0, hW⟩ : ∃ w0, (w.alloc (.cells #[.int .i64 r, .int .i64 g, .int .i64 b, .int .i64 t, .bool p] 32)).alloc (.cells #[.int .i64 0, .int .i64 0, .int .i64 0, .int .i64 0, .bool false] 32) = w0 := ⟨_, rfl⟩
  rw [hW]
  have B0 := Lib.hid (show Below w.heap.size w w0 by rw [← hW]; exact ((Below.refl _ _).alloc (by simp <;> omega) _).alloc (by simp <;> omega) _)
  have X0 := Lib.hid (show Bx 32 w0 (w.heap.size) #[.int .i64 r, .int .i64 g, .int .i64 b, .int .i64 t, .bool p] by
      rw [← hW]
      have hh := Bx.made 32 w #[.int .i64 r, .int .i64 g, .int .i64 b, .int .i64 t, .bool p]
      exact (hh.below (below_box _ _)))
  have Z0 := Lib.hid (show Bx 32 w0 (w.heap.size + 1) #[.int .i64 0, .int .i64 0, .int .i64 0, .int .i64 0, .bool false] by
      rw [← hW]
      have hh : Bx 32 ((w.alloc (.cells #[.int .i64 r, .int .i64 g, .int .i64 b, .int .i64 t, .bool p] 32)).alloc (.cells #[.int .i64 0, .int .i64 0, .int .i64 0, .int .i64 0, .bool false] 32)) (w.heap.size + 1) #[.int .i64 0, .int .i64 0, .int .i64 0, .int .i64 0, .bool false] := by have hh := Bx.made 32 (w.alloc (.cells #[.int .i64 r, .int .i64 g, .int .i64 b, .int .i64 t, .bool p] 32)) #[.int .i64 0, .int .i64 0, .int .i64 0, .int .i64 0, .bool false]; simpa using hh
      exact hh)
  clear hW
  have LTX := Lib.hid X0.out.lt
  have LTZ := Lib.hid Z0.out.lt
  go_wp2_with (refine stw.list_load rfl 32 _ rfl (w.heap.size) rfl 32 _ X0.out Try.underlying32 rfl szR ?_)
  (with_reducible refine (specVa r g b t p _).mono ?_)
  rintro e w1 hp
  obtain ⟨rfl, hb⟩ := b_parts HV.out hp
  clear hp
  have SS1 := Lib.hid hb.size
  have B1 := Lib.hid (B0.out.trans (hb.mono B0.out.size))
  have X1 := Lib.hid (X0.out.below hb)
  have Z1 := Lib.hid (Z0.out.below hb)
  clear hb  B0 X0 Z0
  cases v with
  | true =>
    have hv := of_decide_eq_true HV.out
    obtain ⟨⟨a1, a2⟩, a3, ⟨a4, a5⟩, ⟨a6, a7⟩, a8, a9⟩ := hv
    dsimp only at a1 a2 a3 a4 a5 a6 a7 a8 a9
    unfold Vt at a3
    have m1 : IntKind.i64.wrap (r - 1) = r - 1 := IntWalk.i64_in _ (by omega)
    have m2 : IntKind.i64.wrap (2 * t) = 2 * t := IntWalk.i64_in _ (by omega)
    obtain ⟨t2, ht2⟩ : ∃ x : Int, (if t = 10 then 20 else 40) = x := ⟨_, rfl⟩
    obtain ⟨r2, hr2⟩ : ∃ x : Int, (if 0 < r then r - 1 else 0) = x := ⟨_, rfl⟩
    have HT2 := Lib.hid ht2
    have HR2 := Lib.hid hr2
    cases p with
    | true =>
      by_cases h1 : 0 < r
      · obtain ⟨rfl, rfl⟩ := a9 rfl
        clear a9
        have HE := Lib.hid (show fa ⟨r, 0, 0, t, true⟩ = ⟨((r - 1)), 0, 0, t2, false⟩ by unfold fa; rw [if_pos (of_decide_eq_true HV.out), if_pos ⟨rfl, h1⟩, ← HT2.out])
        have HM := Lib.hid (show t2 = if 2 * t < 40 then 2 * t else 40 by rw [← ht2]; split <;> split <;> omega)
        clear ht2 hr2
        obtain ⟨bo, hbb⟩ : ∃ b, w1.heap.size = b := ⟨_, rfl⟩
        go_upto_region 4 with (refine stw.list_load rfl 32 _ rfl (w.heap.size) rfl 32 _ X1.out Try.underlying32 rfl szR ?_)
        generalize hW : w1.alloc (.cells #[.int .i64 r, .int .i64 0, .int .i64 0, .int .i64 t, .bool true] 32) = w2
        have LY := Lib.hid (show w.heap.size ≤ bo ∧ w.heap.size < bo ∧ w.heap.size + 1 < bo by have h1 := B1.out.size; have h2X := X1.out.lt; have h2Z := Z1.out.lt; have h3 := hbb; omega)
        have Y2 := Lib.hid (show Bx 32 w2 bo #[.int .i64 r, .int .i64 0, .int .i64 0, .int .i64 t, .bool true] by rw [← hW, ← hbb]; exact Bx.made _ _ _)
        have hb : Below w1.heap.size w1 w2 := by rw [← hW]; exact below_box _ _
        (try rw [hbb])
        clear hW hbb
        have SS2 := Lib.hid hb.size
        have B2 := Lib.hid (B1.out.trans (hb.mono B1.out.size))
        have X2 := Lib.hid (X1.out.below hb)
        have Z2 := Lib.hid (Z1.out.below hb)
        clear hb B1 X1 Z1
        have LWY := Lib.hid Y2.out.lt
        have cX0 : w2.cell? ⟨w.heap.size, 0, none⟩ = some (.int .i64 r) := X2.out.cell 0
        have cX1 : w2.cell? ⟨w.heap.size, 1, none⟩ = some (.int .i64 0) := X2.out.cell 1
        have cX2 : w2.cell? ⟨w.heap.size, 2, none⟩ = some (.int .i64 0) := X2.out.cell 2
        have cX3 : w2.cell? ⟨w.heap.size, 3, none⟩ = some (.int .i64 t) := X2.out.cell 3
        have cX4 : w2.cell? ⟨w.heap.size, 4, none⟩ = some (.bool true) := X2.out.cell 4
        have cY0 : w2.cell? ⟨bo, 0, none⟩ = some (.int .i64 r) := Y2.out.cell 0
        have cY1 : w2.cell? ⟨bo, 1, none⟩ = some (.int .i64 0) := Y2.out.cell 1
        have cY2 : w2.cell? ⟨bo, 2, none⟩ = some (.int .i64 0) := Y2.out.cell 2
        have cY3 : w2.cell? ⟨bo, 3, none⟩ = some (.int .i64 t) := Y2.out.cell 3
        have cY4 : w2.cell? ⟨bo, 4, none⟩ = some (.bool true) := Y2.out.cell 4
        have fY0 : w2.frozen? ⟨bo, 0, none⟩ = false := Y2.out.free 0
        have fY1 : w2.frozen? ⟨bo, 1, none⟩ = false := Y2.out.free 1
        have fY2 : w2.frozen? ⟨bo, 2, none⟩ = false := Y2.out.free 2
        have fY3 : w2.frozen? ⟨bo, 3, none⟩ = false := Y2.out.free 3
        have fY4 : w2.frozen? ⟨bo, 4, none⟩ = false := Y2.out.free 4
        go_upto_region 6 with fail
        clear cX0 cX1 cX2 cX3 cX4 cY0 cY1 cY2 cY3 cY4 fY0 fY1 fY2 fY3 fY4
        have hWW : ((w2.setCell ⟨bo, 1, none⟩ (.int .i64 0)).setCell ⟨bo, 4, none⟩ (.bool false)) = ((w2.setCell ⟨bo, 1, none⟩ (.int .i64 0)).setCell ⟨bo, 4, none⟩ (.bool false)) := rfl
        obtain ⟨w3, hW⟩ : ∃ wy, ((w2.setCell ⟨bo, 1, none⟩ (.int .i64 0)).setCell ⟨bo, 4, none⟩ (.bool false)) = wy := ⟨_, rfl⟩
        rw [hW]
        clear hWW
        have B3 := Lib.hid (show Below w.heap.size w w3 by rw [← hW]; exact ((B2.out.setCell (p := ⟨bo, 1, none⟩) (by have hlY := LY.out; have hs0 := LTX.out; have hs1 := LTZ.out; have hs2 := SS1.out; have hs3 := SS2.out; have hs4 := LWY.out; first | omega | (simp <;> omega)) _).setCell (p := ⟨bo, 4, none⟩) (by have hlY := LY.out; have hs0 := LTX.out; have hs1 := LTZ.out; have hs2 := SS1.out; have hs3 := SS2.out; have hs4 := LWY.out; first | omega | (simp <;> omega)) _))
        have X3 := Lib.hid (show Bx 32 w3 (w.heap.size) #[.int .i64 r, .int .i64 0, .int .i64 0, .int .i64 t, .bool true] by rw [← hW]; exact ((X2.out.other (by have hlY := LY.out; have hs0 := LTX.out; have hs1 := LTZ.out; have hs2 := SS1.out; have hs3 := SS2.out; have hs4 := LWY.out; first | omega | (simp <;> omega)) _ _).other (by have hlY := LY.out; have hs0 := LTX.out; have hs1 := LTZ.out; have hs2 := SS1.out; have hs3 := SS2.out; have hs4 := LWY.out; first | omega | (simp <;> omega)) _ _))
        have Z3 := Lib.hid (show Bx 32 w3 (w.heap.size + 1) #[.int .i64 0, .int .i64 0, .int .i64 0, .int .i64 0, .bool false] by rw [← hW]; exact ((Z2.out.other (by have hlY := LY.out; have hs0 := LTX.out; have hs1 := LTZ.out; have hs2 := SS1.out; have hs3 := SS2.out; have hs4 := LWY.out; first | omega | (simp <;> omega)) _ _).other (by have hlY := LY.out; have hs0 := LTX.out; have hs1 := LTZ.out; have hs2 := SS1.out; have hs3 := SS2.out; have hs4 := LWY.out; first | omega | (simp <;> omega)) _ _))
        have Y3 := Lib.hid (show Bx 32 w3 (bo) #[.int .i64 r, .int .i64 0, .int .i64 0, .int .i64 t, .bool false] by rw [← hW]; exact ((Y2.out.set 1 _).set 4 _))
        clear hW B2 X2 Z2 Y2
        have cX0 : w3.cell? ⟨w.heap.size, 0, none⟩ = some (.int .i64 r) := X3.out.cell 0
        have cX1 : w3.cell? ⟨w.heap.size, 1, none⟩ = some (.int .i64 0) := X3.out.cell 1
        have cX2 : w3.cell? ⟨w.heap.size, 2, none⟩ = some (.int .i64 0) := X3.out.cell 2
        have cX3 : w3.cell? ⟨w.heap.size, 3, none⟩ = some (.int .i64 t) := X3.out.cell 3
        have cX4 : w3.cell? ⟨w.heap.size, 4, none⟩ = some (.bool true) := X3.out.cell 4
        have cY0 : w3.cell? ⟨bo, 0, none⟩ = some (.int .i64 r) := Y3.out.cell 0
        have cY1 : w3.cell? ⟨bo, 1, none⟩ = some (.int .i64 0) := Y3.out.cell 1
        have cY2 : w3.cell? ⟨bo, 2, none⟩ = some (.int .i64 0) := Y3.out.cell 2
        have cY3 : w3.cell? ⟨bo, 3, none⟩ = some (.int .i64 t) := Y3.out.cell 3
        have cY4 : w3.cell? ⟨bo, 4, none⟩ = some (.bool false) := Y3.out.cell 4
        have fY0 : w3.frozen? ⟨bo, 0, none⟩ = false := Y3.out.free 0
        have fY1 : w3.frozen? ⟨bo, 1, none⟩ = false := Y3.out.free 1
        have fY2 : w3.frozen? ⟨bo, 2, none⟩ = false := Y3.out.free 2
        have fY3 : w3.frozen? ⟨bo, 3, none⟩ = false := Y3.out.free 3
        have fY4 : w3.frozen? ⟨bo, 4, none⟩ = false := Y3.out.free 4
        go_upto_region 8 with fail
        clear cX0 cX1 cX2 cX3 cX4 cY0 cY1 cY2 cY3 cY4 fY0 fY1 fY2 fY3 fY4
        have hWW : (w3.setCell ⟨bo, 0, none⟩ (.int .i64 ((r - 1)))) = (w3.setCell ⟨bo, 0, none⟩ (.int .i64 ((r - 1)))) := rfl
        obtain ⟨w4, hW⟩ : ∃ wy, (w3.setCell ⟨bo, 0, none⟩ (.int .i64 ((r - 1)))) = wy := ⟨_, rfl⟩
        rw [hW]
        clear hWW
        have B4 := Lib.hid (show Below w.heap.size w w4 by rw [← hW]; exact (B3.out.setCell (p := ⟨bo, 0, none⟩) (by have hlY := LY.out; have hs0 := LTX.out; have hs1 := LTZ.out; have hs2 := SS1.out; have hs3 := SS2.out; have hs4 := LWY.out; first | omega | (simp <;> omega)) _))
        have X4 := Lib.hid (show Bx 32 w4 (w.heap.size) #[.int .i64 r, .int .i64 0, .int .i64 0, .int .i64 t, .bool true] by rw [← hW]; exact (X3.out.other (by have hlY := LY.out; have hs0 := LTX.out; have hs1 := LTZ.out; have hs2 := SS1.out; have hs3 := SS2.out; have hs4 := LWY.out; first | omega | (simp <;> omega)) _ _))
        have Z4 := Lib.hid (show Bx 32 w4 (w.heap.size + 1) #[.int .i64 0, .int .i64 0, .int .i64 0, .int .i64 0, .bool false] by rw [← hW]; exact (Z3.out.other (by have hlY := LY.out; have hs0 := LTX.out; have hs1 := LTZ.out; have hs2 := SS1.out; have hs3 := SS2.out; have hs4 := LWY.out; first | omega | (simp <;> omega)) _ _))
        have Y4 := Lib.hid (show Bx 32 w4 (bo) #[.int .i64 ((r - 1)), .int .i64 0, .int .i64 0, .int .i64 t, .bool false] by rw [← hW]; exact (Y3.out.set 0 _))
        clear hW B3 X3 Z3 Y3
        have cX0 : w4.cell? ⟨w.heap.size, 0, none⟩ = some (.int .i64 r) := X4.out.cell 0
        have cX1 : w4.cell? ⟨w.heap.size, 1, none⟩ = some (.int .i64 0) := X4.out.cell 1
        have cX2 : w4.cell? ⟨w.heap.size, 2, none⟩ = some (.int .i64 0) := X4.out.cell 2
        have cX3 : w4.cell? ⟨w.heap.size, 3, none⟩ = some (.int .i64 t) := X4.out.cell 3
        have cX4 : w4.cell? ⟨w.heap.size, 4, none⟩ = some (.bool true) := X4.out.cell 4
        have cY0 : w4.cell? ⟨bo, 0, none⟩ = some (.int .i64 ((r - 1))) := Y4.out.cell 0
        have cY1 : w4.cell? ⟨bo, 1, none⟩ = some (.int .i64 0) := Y4.out.cell 1
        have cY2 : w4.cell? ⟨bo, 2, none⟩ = some (.int .i64 0) := Y4.out.cell 2
        have cY3 : w4.cell? ⟨bo, 3, none⟩ = some (.int .i64 t) := Y4.out.cell 3
        have cY4 : w4.cell? ⟨bo, 4, none⟩ = some (.bool false) := Y4.out.cell 4
        have fY0 : w4.frozen? ⟨bo, 0, none⟩ = false := Y4.out.free 0
        have fY1 : w4.frozen? ⟨bo, 1, none⟩ = false := Y4.out.free 1
        have fY2 : w4.frozen? ⟨bo, 2, none⟩ = false := Y4.out.free 2
        have fY3 : w4.frozen? ⟨bo, 3, none⟩ = false := Y4.out.free 3
        have fY4 : w4.frozen? ⟨bo, 4, none⟩ = false := Y4.out.free 4
        go_wp2_with fail
        clear cX0 cX1 cX2 cX3 cX4 cY0 cY1 cY2 cY3 cY4 fY0 fY1 fY2 fY3 fY4
        (with_reducible refine (specMin 40 (2 * t) t2 HM.out _).mono ?_)
        rintro e wq ⟨rfl, rfl⟩
        have cX0 : w4.cell? ⟨w.heap.size, 0, none⟩ = some (.int .i64 r) := X4.out.cell 0
        have cX1 : w4.cell? ⟨w.heap.size, 1, none⟩ = some (.int .i64 0) := X4.out.cell 1
        have cX2 : w4.cell? ⟨w.heap.size, 2, none⟩ = some (.int .i64 0) := X4.out.cell 2
        have cX3 : w4.cell? ⟨w.heap.size, 3, none⟩ = some (.int .i64 t) := X4.out.cell 3
        have cX4 : w4.cell? ⟨w.heap.size, 4, none⟩ = some (.bool true) := X4.out.cell 4
        have cY0 : w4.cell? ⟨bo, 0, none⟩ = some (.int .i64 ((r - 1))) := Y4.out.cell 0
        have cY1 : w4.cell? ⟨bo, 1, none⟩ = some (.int .i64 0) := Y4.out.cell 1
        have cY2 : w4.cell? ⟨bo, 2, none⟩ = some (.int .i64 0) := Y4.out.cell 2
        have cY3 : w4.cell? ⟨bo, 3, none⟩ = some (.int .i64 t) := Y4.out.cell 3
        have cY4 : w4.cell? ⟨bo, 4, none⟩ = some (.bool false) := Y4.out.cell 4
        have fY0 : w4.frozen? ⟨bo, 0, none⟩ = false := Y4.out.free 0
        have fY1 : w4.frozen? ⟨bo, 1, none⟩ = false := Y4.out.free 1
        have fY2 : w4.frozen? ⟨bo, 2, none⟩ = false := Y4.out.free 2
        have fY3 : w4.frozen? ⟨bo, 3, none⟩ = false := Y4.out.free 3
        have fY4 : w4.frozen? ⟨bo, 4, none⟩ = false := Y4.out.free 4
        go_upto_region 10 with fail
        clear cX0 cX1 cX2 cX3 cX4 cY0 cY1 cY2 cY3 cY4 fY0 fY1 fY2 fY3 fY4
        have hWW : ((w4.setCell ⟨bo, 3, none⟩ (.int .i64 t2)).setCell ⟨bo, 2, none⟩ (.int .i64 0)) = ((w4.setCell ⟨bo, 3, none⟩ (.int .i64 t2)).setCell ⟨bo, 2, none⟩ (.int .i64 0)) := rfl
        obtain ⟨w5, hW⟩ : ∃ wy, ((w4.setCell ⟨bo, 3, none⟩ (.int .i64 t2)).setCell ⟨bo, 2, none⟩ (.int .i64 0)) = wy := ⟨_, rfl⟩
        rw [hW]
        clear hWW
        have B5 := Lib.hid (show Below w.heap.size w w5 by rw [← hW]; exact ((B4.out.setCell (p := ⟨bo, 3, none⟩) (by have hlY := LY.out; have hs0 := LTX.out; have hs1 := LTZ.out; have hs2 := SS1.out; have hs3 := SS2.out; have hs4 := LWY.out; first | omega | (simp <;> omega)) _).setCell (p := ⟨bo, 2, none⟩) (by have hlY := LY.out; have hs0 := LTX.out; have hs1 := LTZ.out; have hs2 := SS1.out; have hs3 := SS2.out; have hs4 := LWY.out; first | omega | (simp <;> omega)) _))
        have X5 := Lib.hid (show Bx 32 w5 (w.heap.size) #[.int .i64 r, .int .i64 0, .int .i64 0, .int .i64 t, .bool true] by rw [← hW]; exact ((X4.out.other (by have hlY := LY.out; have hs0 := LTX.out; have hs1 := LTZ.out; have hs2 := SS1.out; have hs3 := SS2.out; have hs4 := LWY.out; first | omega | (simp <;> omega)) _ _).other (by have hlY := LY.out; have hs0 := LTX.out; have hs1 := LTZ.out; have hs2 := SS1.out; have hs3 := SS2.out; have hs4 := LWY.out; first | omega | (simp <;> omega)) _ _))
        have Z5 := Lib.hid (show Bx 32 w5 (w.heap.size + 1) #[.int .i64 0, .int .i64 0, .int .i64 0, .int .i64 0, .bool false] by rw [← hW]; exact ((Z4.out.other (by have hlY := LY.out; have hs0 := LTX.out; have hs1 := LTZ.out; have hs2 := SS1.out; have hs3 := SS2.out; have hs4 := LWY.out; first | omega | (simp <;> omega)) _ _).other (by have hlY := LY.out; have hs0 := LTX.out; have hs1 := LTZ.out; have hs2 := SS1.out; have hs3 := SS2.out; have hs4 := LWY.out; first | omega | (simp <;> omega)) _ _))
        have Y5 := Lib.hid (show Bx 32 w5 (bo) #[.int .i64 ((r - 1)), .int .i64 0, .int .i64 0, .int .i64 t2, .bool false] by rw [← hW]; exact ((Y4.out.set 3 _).set 2 _))
        clear hW B4 X4 Z4 Y4
        go_wp2_with (first | (refine stw.list_load rfl 32 _ rfl (bo) rfl 32 _ Y5.out Try.underlying32 rfl szR ?_) | (refine stw.list_store rfl 32 _ _ rfl (w.heap.size + 1) #[.int .i64 ((r - 1)), .int .i64 0, .int .i64 0, .int .i64 t2, .bool false] rfl rfl 32 _ Z5.out rfl szR (oneR _ _ _ _ _) ?_; intro wz6 hz))
        have B6 := Lib.hid (hz.on B5.out (by have hlY := LY.out; have hs0 := LTX.out; have hs1 := LTZ.out; have hs2 := SS1.out; have hs3 := SS2.out; have hs4 := LWY.out; first | omega | (simp <;> omega)))
        have X6 := Lib.hid (hz.keep X5.out (by have hlY := LY.out; have hs0 := LTX.out; have hs1 := LTZ.out; have hs2 := SS1.out; have hs3 := SS2.out; have hs4 := LWY.out; first | omega | (simp <;> omega)))
        have Z6 := Lib.hid (hz.box)
        have Y6 := Lib.hid (hz.keep Y5.out (by have hlY := LY.out; have hs0 := LTX.out; have hs1 := LTZ.out; have hs2 := SS1.out; have hs3 := SS2.out; have hs4 := LWY.out; first | omega | (simp <;> omega)))
        clear hz B5 X5 Z5 Y5
        (try simp only [Exit.inBlock, Exit.then])
        refine bodyPost_ret (v := .agg #[.int .i64 ((r - 1)), .int .i64 0, .int .i64 0, .int .i64 t2, .bool false]) ?_ rfl ?_
        · rw [results_cell1 rfl]
          exact stw.back Z6.out Try.underlying32 rfl szR
        · exact ⟨by rw [HE.out], B6.out⟩
      · obtain ⟨rfl, rfl⟩ := a9 rfl
        clear a9
        have HE := Lib.hid (show fa ⟨r, 0, 0, t, true⟩ = ⟨r, 0, 1, t, false⟩ by unfold fa; rw [if_pos (of_decide_eq_true HV.out), if_neg (fun h => h1 h.2), if_neg (show ¬ (0 : Int) = 1 by decide)])
        clear ht2 hr2
        obtain ⟨bo, hbb⟩ : ∃ b, w1.heap.size = b := ⟨_, rfl⟩
        go_upto_region 4 with (refine stw.list_load rfl 32 _ rfl (w.heap.size) rfl 32 _ X1.out Try.underlying32 rfl szR ?_)
        generalize hW : w1.alloc (.cells #[.int .i64 r, .int .i64 0, .int .i64 0, .int .i64 t, .bool true] 32) = w2
        have LY := Lib.hid (show w.heap.size ≤ bo ∧ w.heap.size < bo ∧ w.heap.size + 1 < bo by have h1 := B1.out.size; have h2X := X1.out.lt; have h2Z := Z1.out.lt; have h3 := hbb; omega)
        have Y2 := Lib.hid (show Bx 32 w2 bo #[.int .i64 r, .int .i64 0, .int .i64 0, .int .i64 t, .bool true] by rw [← hW, ← hbb]; exact Bx.made _ _ _)
        have hb : Below w1.heap.size w1 w2 := by rw [← hW]; exact below_box _ _
        (try rw [hbb])
        clear hW hbb
        have SS2 := Lib.hid hb.size
        have B2 := Lib.hid (B1.out.trans (hb.mono B1.out.size))
        have X2 := Lib.hid (X1.out.below hb)
        have Z2 := Lib.hid (Z1.out.below hb)
        clear hb B1 X1 Z1
        have LWY := Lib.hid Y2.out.lt
        have cX0 : w2.cell? ⟨w.heap.size, 0, none⟩ = some (.int .i64 r) := X2.out.cell 0
        have cX1 : w2.cell? ⟨w.heap.size, 1, none⟩ = some (.int .i64 0) := X2.out.cell 1
        have cX2 : w2.cell? ⟨w.heap.size, 2, none⟩ = some (.int .i64 0) := X2.out.cell 2
        have cX3 : w2.cell? ⟨w.heap.size, 3, none⟩ = some (.int .i64 t) := X2.out.cell 3
        have cX4 : w2.cell? ⟨w.heap.size, 4, none⟩ = some (.bool true) := X2.out.cell 4
        have cY0 : w2.cell? ⟨bo, 0, none⟩ = some (.int .i64 r) := Y2.out.cell 0
        have cY1 : w2.cell? ⟨bo, 1, none⟩ = some (.int .i64 0) := Y2.out.cell 1
        have cY2 : w2.cell? ⟨bo, 2, none⟩ = some (.int .i64 0) := Y2.out.cell 2
        have cY3 : w2.cell? ⟨bo, 3, none⟩ = some (.int .i64 t) := Y2.out.cell 3
        have cY4 : w2.cell? ⟨bo, 4, none⟩ = some (.bool true) := Y2.out.cell 4
        have fY0 : w2.frozen? ⟨bo, 0, none⟩ = false := Y2.out.free 0
        have fY1 : w2.frozen? ⟨bo, 1, none⟩ = false := Y2.out.free 1
        have fY2 : w2.frozen? ⟨bo, 2, none⟩ = false := Y2.out.free 2
        have fY3 : w2.frozen? ⟨bo, 3, none⟩ = false := Y2.out.free 3
        have fY4 : w2.frozen? ⟨bo, 4, none⟩ = false := Y2.out.free 4
        go_upto_region 6 with fail
        clear cX0 cX1 cX2 cX3 cX4 cY0 cY1 cY2 cY3 cY4 fY0 fY1 fY2 fY3 fY4
        have hWW : ((w2.setCell ⟨bo, 1, none⟩ (.int .i64 0)).setCell ⟨bo, 4, none⟩ (.bool false)) = ((w2.setCell ⟨bo, 1, none⟩ (.int .i64 0)).setCell ⟨bo, 4, none⟩ (.bool false)) := rfl
        obtain ⟨w3, hW⟩ : ∃ wy, ((w2.setCell ⟨bo, 1, none⟩ (.int .i64 0)).setCell ⟨bo, 4, none⟩ (.bool false)) = wy := ⟨_, rfl⟩
        rw [hW]
        clear hWW
        have B3 := Lib.hid (show Below w.heap.size w w3 by rw [← hW]; exact ((B2.out.setCell (p := ⟨bo, 1, none⟩) (by have hlY := LY.out; have hs0 := LTX.out; have hs1 := LTZ.out; have hs2 := SS1.out; have hs3 := SS2.out; have hs4 := LWY.out; first | omega | (simp <;> omega)) _).setCell (p := ⟨bo, 4, none⟩) (by have hlY := LY.out; have hs0 := LTX.out; have hs1 := LTZ.out; have hs2 := SS1.out; have hs3 := SS2.out; have hs4 := LWY.out; first | omega | (simp <;> omega)) _))
        have X3 := Lib.hid (show Bx 32 w3 (w.heap.size) #[.int .i64 r, .int .i64 0, .int .i64 0, .int .i64 t, .bool true] by rw [← hW]; exact ((X2.out.other (by have hlY := LY.out; have hs0 := LTX.out; have hs1 := LTZ.out; have hs2 := SS1.out; have hs3 := SS2.out; have hs4 := LWY.out; first | omega | (simp <;> omega)) _ _).other (by have hlY := LY.out; have hs0 := LTX.out; have hs1 := LTZ.out; have hs2 := SS1.out; have hs3 := SS2.out; have hs4 := LWY.out; first | omega | (simp <;> omega)) _ _))
        have Z3 := Lib.hid (show Bx 32 w3 (w.heap.size + 1) #[.int .i64 0, .int .i64 0, .int .i64 0, .int .i64 0, .bool false] by rw [← hW]; exact ((Z2.out.other (by have hlY := LY.out; have hs0 := LTX.out; have hs1 := LTZ.out; have hs2 := SS1.out; have hs3 := SS2.out; have hs4 := LWY.out; first | omega | (simp <;> omega)) _ _).other (by have hlY := LY.out; have hs0 := LTX.out; have hs1 := LTZ.out; have hs2 := SS1.out; have hs3 := SS2.out; have hs4 := LWY.out; first | omega | (simp <;> omega)) _ _))
        have Y3 := Lib.hid (show Bx 32 w3 (bo) #[.int .i64 r, .int .i64 0, .int .i64 0, .int .i64 t, .bool false] by rw [← hW]; exact ((Y2.out.set 1 _).set 4 _))
        clear hW B2 X2 Z2 Y2
        have cX0 : w3.cell? ⟨w.heap.size, 0, none⟩ = some (.int .i64 r) := X3.out.cell 0
        have cX1 : w3.cell? ⟨w.heap.size, 1, none⟩ = some (.int .i64 0) := X3.out.cell 1
        have cX2 : w3.cell? ⟨w.heap.size, 2, none⟩ = some (.int .i64 0) := X3.out.cell 2
        have cX3 : w3.cell? ⟨w.heap.size, 3, none⟩ = some (.int .i64 t) := X3.out.cell 3
        have cX4 : w3.cell? ⟨w.heap.size, 4, none⟩ = some (.bool true) := X3.out.cell 4
        have cY0 : w3.cell? ⟨bo, 0, none⟩ = some (.int .i64 r) := Y3.out.cell 0
        have cY1 : w3.cell? ⟨bo, 1, none⟩ = some (.int .i64 0) := Y3.out.cell 1
        have cY2 : w3.cell? ⟨bo, 2, none⟩ = some (.int .i64 0) := Y3.out.cell 2
        have cY3 : w3.cell? ⟨bo, 3, none⟩ = some (.int .i64 t) := Y3.out.cell 3
        have cY4 : w3.cell? ⟨bo, 4, none⟩ = some (.bool false) := Y3.out.cell 4
        have fY0 : w3.frozen? ⟨bo, 0, none⟩ = false := Y3.out.free 0
        have fY1 : w3.frozen? ⟨bo, 1, none⟩ = false := Y3.out.free 1
        have fY2 : w3.frozen? ⟨bo, 2, none⟩ = false := Y3.out.free 2
        have fY3 : w3.frozen? ⟨bo, 3, none⟩ = false := Y3.out.free 3
        have fY4 : w3.frozen? ⟨bo, 4, none⟩ = false := Y3.out.free 4
        go_upto_region 12 with fail
        clear cX0 cX1 cX2 cX3 cX4 cY0 cY1 cY2 cY3 cY4 fY0 fY1 fY2 fY3 fY4
        have hWW : (w3.setCell ⟨bo, 2, none⟩ (.int .i64 1)) = (w3.setCell ⟨bo, 2, none⟩ (.int .i64 1)) := rfl
        obtain ⟨w4, hW⟩ : ∃ wy, (w3.setCell ⟨bo, 2, none⟩ (.int .i64 1)) = wy := ⟨_, rfl⟩
        rw [hW]
        clear hWW
        have B4 := Lib.hid (show Below w.heap.size w w4 by rw [← hW]; exact (B3.out.setCell (p := ⟨bo, 2, none⟩) (by have hlY := LY.out; have hs0 := LTX.out; have hs1 := LTZ.out; have hs2 := SS1.out; have hs3 := SS2.out; have hs4 := LWY.out; first | omega | (simp <;> omega)) _))
        have X4 := Lib.hid (show Bx 32 w4 (w.heap.size) #[.int .i64 r, .int .i64 0, .int .i64 0, .int .i64 t, .bool true] by rw [← hW]; exact (X3.out.other (by have hlY := LY.out; have hs0 := LTX.out; have hs1 := LTZ.out; have hs2 := SS1.out; have hs3 := SS2.out; have hs4 := LWY.out; first | omega | (simp <;> omega)) _ _))
        have Z4 := Lib.hid (show Bx 32 w4 (w.heap.size + 1) #[.int .i64 0, .int .i64 0, .int .i64 0, .int .i64 0, .bool false] by rw [← hW]; exact (Z3.out.other (by have hlY := LY.out; have hs0 := LTX.out; have hs1 := LTZ.out; have hs2 := SS1.out; have hs3 := SS2.out; have hs4 := LWY.out; first | omega | (simp <;> omega)) _ _))
        have Y4 := Lib.hid (show Bx 32 w4 (bo) #[.int .i64 r, .int .i64 0, .int .i64 1, .int .i64 t, .bool false] by rw [← hW]; exact (Y3.out.set 2 _))
        clear hW B3 X3 Z3 Y3
        have cX0 : w4.cell? ⟨w.heap.size, 0, none⟩ = some (.int .i64 r) := X4.out.cell 0
        have cX1 : w4.cell? ⟨w.heap.size, 1, none⟩ = some (.int .i64 0) := X4.out.cell 1
        have cX2 : w4.cell? ⟨w.heap.size, 2, none⟩ = some (.int .i64 0) := X4.out.cell 2
        have cX3 : w4.cell? ⟨w.heap.size, 3, none⟩ = some (.int .i64 t) := X4.out.cell 3
        have cX4 : w4.cell? ⟨w.heap.size, 4, none⟩ = some (.bool true) := X4.out.cell 4
        have cY0 : w4.cell? ⟨bo, 0, none⟩ = some (.int .i64 r) := Y4.out.cell 0
        have cY1 : w4.cell? ⟨bo, 1, none⟩ = some (.int .i64 0) := Y4.out.cell 1
        have cY2 : w4.cell? ⟨bo, 2, none⟩ = some (.int .i64 1) := Y4.out.cell 2
        have cY3 : w4.cell? ⟨bo, 3, none⟩ = some (.int .i64 t) := Y4.out.cell 3
        have cY4 : w4.cell? ⟨bo, 4, none⟩ = some (.bool false) := Y4.out.cell 4
        have fY0 : w4.frozen? ⟨bo, 0, none⟩ = false := Y4.out.free 0
        have fY1 : w4.frozen? ⟨bo, 1, none⟩ = false := Y4.out.free 1
        have fY2 : w4.frozen? ⟨bo, 2, none⟩ = false := Y4.out.free 2
        have fY3 : w4.frozen? ⟨bo, 3, none⟩ = false := Y4.out.free 3
        have fY4 : w4.frozen? ⟨bo, 4, none⟩ = false := Y4.out.free 4
        go_upto_region 16 with fail
        clear cX0 cX1 cX2 cX3 cX4 cY0 cY1 cY2 cY3 cY4 fY0 fY1 fY2 fY3 fY4
        go_wp2_with (first | (refine stw.list_load rfl 32 _ rfl (bo) rfl 32 _ Y4.out Try.underlying32 rfl szR ?_) | (refine stw.list_store rfl 32 _ _ rfl (w.heap.size + 1) #[.int .i64 r, .int .i64 0, .int .i64 1, .int .i64 t, .bool false] rfl rfl 32 _ Z4.out rfl szR (oneR _ _ _ _ _) ?_; intro wz5 hz))
        have B5 := Lib.hid (hz.on B4.out (by have hlY := LY.out; have hs0 := LTX.out; have hs1 := LTZ.out; have hs2 := SS1.out; have hs3 := SS2.out; have hs4 := LWY.out; first | omega | (simp <;> omega)))
        have X5 := Lib.hid (hz.keep X4.out (by have hlY := LY.out; have hs0 := LTX.out; have hs1 := LTZ.out; have hs2 := SS1.out; have hs3 := SS2.out; have hs4 := LWY.out; first | omega | (simp <;> omega)))
        have Z5 := Lib.hid (hz.box)
        have Y5 := Lib.hid (hz.keep Y4.out (by have hlY := LY.out; have hs0 := LTX.out; have hs1 := LTZ.out; have hs2 := SS1.out; have hs3 := SS2.out; have hs4 := LWY.out; first | omega | (simp <;> omega)))
        clear hz B4 X4 Z4 Y4
        (try simp only [Exit.inBlock, Exit.then])
        refine bodyPost_ret (v := .agg #[.int .i64 r, .int .i64 0, .int .i64 1, .int .i64 t, .bool false]) ?_ rfl ?_
        · rw [results_cell1 rfl]
          exact stw.back Z5.out Try.underlying32 rfl szR
        · exact ⟨by rw [HE.out], B5.out⟩
    | false =>
      by_cases hb1 : b = 1
      · have HE := Lib.hid (show fa ⟨r, g, b, t, false⟩ = ⟨r2, 0, 0, 10, false⟩ by unfold fa; rw [if_pos (of_decide_eq_true HV.out), if_neg (fun h => by simp at h), if_pos hb1, ← HR2.out])
        have HM := Lib.hid (show r2 = if 0 < r - 1 then r - 1 else 0 by rw [← hr2]; split <;> split <;> omega)
        have HN := Lib.hid (show new r2 = ⟨r2, 0, 0, 10, false⟩ by unfold new; rw [if_pos (by rw [← hr2]; split <;> omega)])
        obtain rfl : b = 1 := by omega
        clear ht2 hr2
        obtain ⟨bo, hbb⟩ : ∃ b, w1.heap.size = b := ⟨_, rfl⟩
        go_upto_region 4 with (refine stw.list_load rfl 32 _ rfl (w.heap.size) rfl 32 _ X1.out Try.underlying32 rfl szR ?_)
        generalize hW : w1.alloc (.cells #[.int .i64 r, .int .i64 g, .int .i64 1, .int .i64 t, .bool false] 32) = w2
        have LY := Lib.hid (show w.heap.size ≤ bo ∧ w.heap.size < bo ∧ w.heap.size + 1 < bo by have h1 := B1.out.size; have h2X := X1.out.lt; have h2Z := Z1.out.lt; have h3 := hbb; omega)
        have Y2 := Lib.hid (show Bx 32 w2 bo #[.int .i64 r, .int .i64 g, .int .i64 1, .int .i64 t, .bool false] by rw [← hW, ← hbb]; exact Bx.made _ _ _)
        have hb : Below w1.heap.size w1 w2 := by rw [← hW]; exact below_box _ _
        (try rw [hbb])
        clear hW hbb
        have SS2 := Lib.hid hb.size
        have B2 := Lib.hid (B1.out.trans (hb.mono B1.out.size))
        have X2 := Lib.hid (X1.out.below hb)
        have Z2 := Lib.hid (Z1.out.below hb)
        clear hb B1 X1 Z1
        have LWY := Lib.hid Y2.out.lt
        have cX0 : w2.cell? ⟨w.heap.size, 0, none⟩ = some (.int .i64 r) := X2.out.cell 0
        have cX1 : w2.cell? ⟨w.heap.size, 1, none⟩ = some (.int .i64 g) := X2.out.cell 1
        have cX2 : w2.cell? ⟨w.heap.size, 2, none⟩ = some (.int .i64 1) := X2.out.cell 2
        have cX3 : w2.cell? ⟨w.heap.size, 3, none⟩ = some (.int .i64 t) := X2.out.cell 3
        have cX4 : w2.cell? ⟨w.heap.size, 4, none⟩ = some (.bool false) := X2.out.cell 4
        have cY0 : w2.cell? ⟨bo, 0, none⟩ = some (.int .i64 r) := Y2.out.cell 0
        have cY1 : w2.cell? ⟨bo, 1, none⟩ = some (.int .i64 g) := Y2.out.cell 1
        have cY2 : w2.cell? ⟨bo, 2, none⟩ = some (.int .i64 1) := Y2.out.cell 2
        have cY3 : w2.cell? ⟨bo, 3, none⟩ = some (.int .i64 t) := Y2.out.cell 3
        have cY4 : w2.cell? ⟨bo, 4, none⟩ = some (.bool false) := Y2.out.cell 4
        have fY0 : w2.frozen? ⟨bo, 0, none⟩ = false := Y2.out.free 0
        have fY1 : w2.frozen? ⟨bo, 1, none⟩ = false := Y2.out.free 1
        have fY2 : w2.frozen? ⟨bo, 2, none⟩ = false := Y2.out.free 2
        have fY3 : w2.frozen? ⟨bo, 3, none⟩ = false := Y2.out.free 3
        have fY4 : w2.frozen? ⟨bo, 4, none⟩ = false := Y2.out.free 4
        go_upto_region 6 with fail
        clear cX0 cX1 cX2 cX3 cX4 cY0 cY1 cY2 cY3 cY4 fY0 fY1 fY2 fY3 fY4
        have hWW : ((w2.setCell ⟨bo, 1, none⟩ (.int .i64 0)).setCell ⟨bo, 4, none⟩ (.bool false)) = ((w2.setCell ⟨bo, 1, none⟩ (.int .i64 0)).setCell ⟨bo, 4, none⟩ (.bool false)) := rfl
        obtain ⟨w3, hW⟩ : ∃ wy, ((w2.setCell ⟨bo, 1, none⟩ (.int .i64 0)).setCell ⟨bo, 4, none⟩ (.bool false)) = wy := ⟨_, rfl⟩
        rw [hW]
        clear hWW
        have B3 := Lib.hid (show Below w.heap.size w w3 by rw [← hW]; exact ((B2.out.setCell (p := ⟨bo, 1, none⟩) (by have hlY := LY.out; have hs0 := LTX.out; have hs1 := LTZ.out; have hs2 := SS1.out; have hs3 := SS2.out; have hs4 := LWY.out; first | omega | (simp <;> omega)) _).setCell (p := ⟨bo, 4, none⟩) (by have hlY := LY.out; have hs0 := LTX.out; have hs1 := LTZ.out; have hs2 := SS1.out; have hs3 := SS2.out; have hs4 := LWY.out; first | omega | (simp <;> omega)) _))
        have X3 := Lib.hid (show Bx 32 w3 (w.heap.size) #[.int .i64 r, .int .i64 g, .int .i64 1, .int .i64 t, .bool false] by rw [← hW]; exact ((X2.out.other (by have hlY := LY.out; have hs0 := LTX.out; have hs1 := LTZ.out; have hs2 := SS1.out; have hs3 := SS2.out; have hs4 := LWY.out; first | omega | (simp <;> omega)) _ _).other (by have hlY := LY.out; have hs0 := LTX.out; have hs1 := LTZ.out; have hs2 := SS1.out; have hs3 := SS2.out; have hs4 := LWY.out; first | omega | (simp <;> omega)) _ _))
        have Z3 := Lib.hid (show Bx 32 w3 (w.heap.size + 1) #[.int .i64 0, .int .i64 0, .int .i64 0, .int .i64 0, .bool false] by rw [← hW]; exact ((Z2.out.other (by have hlY := LY.out; have hs0 := LTX.out; have hs1 := LTZ.out; have hs2 := SS1.out; have hs3 := SS2.out; have hs4 := LWY.out; first | omega | (simp <;> omega)) _ _).other (by have hlY := LY.out; have hs0 := LTX.out; have hs1 := LTZ.out; have hs2 := SS1.out; have hs3 := SS2.out; have hs4 := LWY.out; first | omega | (simp <;> omega)) _ _))
        have Y3 := Lib.hid (show Bx 32 w3 (bo) #[.int .i64 r, .int .i64 0, .int .i64 1, .int .i64 t, .bool false] by rw [← hW]; exact ((Y2.out.set 1 _).set 4 _))
        clear hW B2 X2 Z2 Y2
        have cX0 : w3.cell? ⟨w.heap.size, 0, none⟩ = some (.int .i64 r) := X3.out.cell 0
        have cX1 : w3.cell? ⟨w.heap.size, 1, none⟩ = some (.int .i64 g) := X3.out.cell 1
        have cX2 : w3.cell? ⟨w.heap.size, 2, none⟩ = some (.int .i64 1) := X3.out.cell 2
        have cX3 : w3.cell? ⟨w.heap.size, 3, none⟩ = some (.int .i64 t) := X3.out.cell 3
        have cX4 : w3.cell? ⟨w.heap.size, 4, none⟩ = some (.bool false) := X3.out.cell 4
        have cY0 : w3.cell? ⟨bo, 0, none⟩ = some (.int .i64 r) := Y3.out.cell 0
        have cY1 : w3.cell? ⟨bo, 1, none⟩ = some (.int .i64 0) := Y3.out.cell 1
        have cY2 : w3.cell? ⟨bo, 2, none⟩ = some (.int .i64 1) := Y3.out.cell 2
        have cY3 : w3.cell? ⟨bo, 3, none⟩ = some (.int .i64 t) := Y3.out.cell 3
        have cY4 : w3.cell? ⟨bo, 4, none⟩ = some (.bool false) := Y3.out.cell 4
        have fY0 : w3.frozen? ⟨bo, 0, none⟩ = false := Y3.out.free 0
        have fY1 : w3.frozen? ⟨bo, 1, none⟩ = false := Y3.out.free 1
        have fY2 : w3.frozen? ⟨bo, 2, none⟩ = false := Y3.out.free 2
        have fY3 : w3.frozen? ⟨bo, 3, none⟩ = false := Y3.out.free 3
        have fY4 : w3.frozen? ⟨bo, 4, none⟩ = false := Y3.out.free 4
        go_upto_region 12 with fail
        clear cX0 cX1 cX2 cX3 cX4 cY0 cY1 cY2 cY3 cY4 fY0 fY1 fY2 fY3 fY4
        have hWW : (w3.setCell ⟨bo, 2, none⟩ (.int .i64 2)) = (w3.setCell ⟨bo, 2, none⟩ (.int .i64 2)) := rfl
        obtain ⟨w4, hW⟩ : ∃ wy, (w3.setCell ⟨bo, 2, none⟩ (.int .i64 2)) = wy := ⟨_, rfl⟩
        rw [hW]
        clear hWW
        have B4 := Lib.hid (show Below w.heap.size w w4 by rw [← hW]; exact (B3.out.setCell (p := ⟨bo, 2, none⟩) (by have hlY := LY.out; have hs0 := LTX.out; have hs1 := LTZ.out; have hs2 := SS1.out; have hs3 := SS2.out; have hs4 := LWY.out; first | omega | (simp <;> omega)) _))
        have X4 := Lib.hid (show Bx 32 w4 (w.heap.size) #[.int .i64 r, .int .i64 g, .int .i64 1, .int .i64 t, .bool false] by rw [← hW]; exact (X3.out.other (by have hlY := LY.out; have hs0 := LTX.out; have hs1 := LTZ.out; have hs2 := SS1.out; have hs3 := SS2.out; have hs4 := LWY.out; first | omega | (simp <;> omega)) _ _))
        have Z4 := Lib.hid (show Bx 32 w4 (w.heap.size + 1) #[.int .i64 0, .int .i64 0, .int .i64 0, .int .i64 0, .bool false] by rw [← hW]; exact (Z3.out.other (by have hlY := LY.out; have hs0 := LTX.out; have hs1 := LTZ.out; have hs2 := SS1.out; have hs3 := SS2.out; have hs4 := LWY.out; first | omega | (simp <;> omega)) _ _))
        have Y4 := Lib.hid (show Bx 32 w4 (bo) #[.int .i64 r, .int .i64 0, .int .i64 2, .int .i64 t, .bool false] by rw [← hW]; exact (Y3.out.set 2 _))
        clear hW B3 X3 Z3 Y3
        have cX0 : w4.cell? ⟨w.heap.size, 0, none⟩ = some (.int .i64 r) := X4.out.cell 0
        have cX1 : w4.cell? ⟨w.heap.size, 1, none⟩ = some (.int .i64 g) := X4.out.cell 1
        have cX2 : w4.cell? ⟨w.heap.size, 2, none⟩ = some (.int .i64 1) := X4.out.cell 2
        have cX3 : w4.cell? ⟨w.heap.size, 3, none⟩ = some (.int .i64 t) := X4.out.cell 3
        have cX4 : w4.cell? ⟨w.heap.size, 4, none⟩ = some (.bool false) := X4.out.cell 4
        have cY0 : w4.cell? ⟨bo, 0, none⟩ = some (.int .i64 r) := Y4.out.cell 0
        have cY1 : w4.cell? ⟨bo, 1, none⟩ = some (.int .i64 0) := Y4.out.cell 1
        have cY2 : w4.cell? ⟨bo, 2, none⟩ = some (.int .i64 2) := Y4.out.cell 2
        have cY3 : w4.cell? ⟨bo, 3, none⟩ = some (.int .i64 t) := Y4.out.cell 3
        have cY4 : w4.cell? ⟨bo, 4, none⟩ = some (.bool false) := Y4.out.cell 4
        have fY0 : w4.frozen? ⟨bo, 0, none⟩ = false := Y4.out.free 0
        have fY1 : w4.frozen? ⟨bo, 1, none⟩ = false := Y4.out.free 1
        have fY2 : w4.frozen? ⟨bo, 2, none⟩ = false := Y4.out.free 2
        have fY3 : w4.frozen? ⟨bo, 3, none⟩ = false := Y4.out.free 3
        have fY4 : w4.frozen? ⟨bo, 4, none⟩ = false := Y4.out.free 4
        go_upto_region 15 with fail
        clear cX0 cX1 cX2 cX3 cX4 cY0 cY1 cY2 cY3 cY4 fY0 fY1 fY2 fY3 fY4
        have hWW : ((w4.setCell ⟨bo, 2, none⟩ (.int .i64 0)).setCell ⟨bo, 3, none⟩ (.int .i64 10)) = ((w4.setCell ⟨bo, 2, none⟩ (.int .i64 0)).setCell ⟨bo, 3, none⟩ (.int .i64 10)) := rfl
        obtain ⟨w5, hW⟩ : ∃ wy, ((w4.setCell ⟨bo, 2, none⟩ (.int .i64 0)).setCell ⟨bo, 3, none⟩ (.int .i64 10)) = wy := ⟨_, rfl⟩
        rw [hW]
        clear hWW
        have B5 := Lib.hid (show Below w.heap.size w w5 by rw [← hW]; exact ((B4.out.setCell (p := ⟨bo, 2, none⟩) (by have hlY := LY.out; have hs0 := LTX.out; have hs1 := LTZ.out; have hs2 := SS1.out; have hs3 := SS2.out; have hs4 := LWY.out; first | omega | (simp <;> omega)) _).setCell (p := ⟨bo, 3, none⟩) (by have hlY := LY.out; have hs0 := LTX.out; have hs1 := LTZ.out; have hs2 := SS1.out; have hs3 := SS2.out; have hs4 := LWY.out; first | omega | (simp <;> omega)) _))
        have X5 := Lib.hid (show Bx 32 w5 (w.heap.size) #[.int .i64 r, .int .i64 g, .int .i64 1, .int .i64 t, .bool false] by rw [← hW]; exact ((X4.out.other (by have hlY := LY.out; have hs0 := LTX.out; have hs1 := LTZ.out; have hs2 := SS1.out; have hs3 := SS2.out; have hs4 := LWY.out; first | omega | (simp <;> omega)) _ _).other (by have hlY := LY.out; have hs0 := LTX.out; have hs1 := LTZ.out; have hs2 := SS1.out; have hs3 := SS2.out; have hs4 := LWY.out; first | omega | (simp <;> omega)) _ _))
        have Z5 := Lib.hid (show Bx 32 w5 (w.heap.size + 1) #[.int .i64 0, .int .i64 0, .int .i64 0, .int .i64 0, .bool false] by rw [← hW]; exact ((Z4.out.other (by have hlY := LY.out; have hs0 := LTX.out; have hs1 := LTZ.out; have hs2 := SS1.out; have hs3 := SS2.out; have hs4 := LWY.out; first | omega | (simp <;> omega)) _ _).other (by have hlY := LY.out; have hs0 := LTX.out; have hs1 := LTZ.out; have hs2 := SS1.out; have hs3 := SS2.out; have hs4 := LWY.out; first | omega | (simp <;> omega)) _ _))
        have Y5 := Lib.hid (show Bx 32 w5 (bo) #[.int .i64 r, .int .i64 0, .int .i64 0, .int .i64 10, .bool false] by rw [← hW]; exact ((Y4.out.set 2 _).set 3 _))
        clear hW B4 X4 Z4 Y4
        have cX0 : w5.cell? ⟨w.heap.size, 0, none⟩ = some (.int .i64 r) := X5.out.cell 0
        have cX1 : w5.cell? ⟨w.heap.size, 1, none⟩ = some (.int .i64 g) := X5.out.cell 1
        have cX2 : w5.cell? ⟨w.heap.size, 2, none⟩ = some (.int .i64 1) := X5.out.cell 2
        have cX3 : w5.cell? ⟨w.heap.size, 3, none⟩ = some (.int .i64 t) := X5.out.cell 3
        have cX4 : w5.cell? ⟨w.heap.size, 4, none⟩ = some (.bool false) := X5.out.cell 4
        have cY0 : w5.cell? ⟨bo, 0, none⟩ = some (.int .i64 r) := Y5.out.cell 0
        have cY1 : w5.cell? ⟨bo, 1, none⟩ = some (.int .i64 0) := Y5.out.cell 1
        have cY2 : w5.cell? ⟨bo, 2, none⟩ = some (.int .i64 0) := Y5.out.cell 2
        have cY3 : w5.cell? ⟨bo, 3, none⟩ = some (.int .i64 10) := Y5.out.cell 3
        have cY4 : w5.cell? ⟨bo, 4, none⟩ = some (.bool false) := Y5.out.cell 4
        have fY0 : w5.frozen? ⟨bo, 0, none⟩ = false := Y5.out.free 0
        have fY1 : w5.frozen? ⟨bo, 1, none⟩ = false := Y5.out.free 1
        have fY2 : w5.frozen? ⟨bo, 2, none⟩ = false := Y5.out.free 2
        have fY3 : w5.frozen? ⟨bo, 3, none⟩ = false := Y5.out.free 3
        have fY4 : w5.frozen? ⟨bo, 4, none⟩ = false := Y5.out.free 4
        go_wp2_with fail
        clear cX0 cX1 cX2 cX3 cX4 cY0 cY1 cY2 cY3 cY4 fY0 fY1 fY2 fY3 fY4
        (with_reducible refine (specMax 0 (r - 1) r2 HM.out _).mono ?_)
        rintro e wq ⟨rfl, rfl⟩
        have cX0 : w5.cell? ⟨w.heap.size, 0, none⟩ = some (.int .i64 r) := X5.out.cell 0
        have cX1 : w5.cell? ⟨w.heap.size, 1, none⟩ = some (.int .i64 g) := X5.out.cell 1
        have cX2 : w5.cell? ⟨w.heap.size, 2, none⟩ = some (.int .i64 1) := X5.out.cell 2
        have cX3 : w5.cell? ⟨w.heap.size, 3, none⟩ = some (.int .i64 t) := X5.out.cell 3
        have cX4 : w5.cell? ⟨w.heap.size, 4, none⟩ = some (.bool false) := X5.out.cell 4
        have cY0 : w5.cell? ⟨bo, 0, none⟩ = some (.int .i64 r) := Y5.out.cell 0
        have cY1 : w5.cell? ⟨bo, 1, none⟩ = some (.int .i64 0) := Y5.out.cell 1
        have cY2 : w5.cell? ⟨bo, 2, none⟩ = some (.int .i64 0) := Y5.out.cell 2
        have cY3 : w5.cell? ⟨bo, 3, none⟩ = some (.int .i64 10) := Y5.out.cell 3
        have cY4 : w5.cell? ⟨bo, 4, none⟩ = some (.bool false) := Y5.out.cell 4
        have fY0 : w5.frozen? ⟨bo, 0, none⟩ = false := Y5.out.free 0
        have fY1 : w5.frozen? ⟨bo, 1, none⟩ = false := Y5.out.free 1
        have fY2 : w5.frozen? ⟨bo, 2, none⟩ = false := Y5.out.free 2
        have fY3 : w5.frozen? ⟨bo, 3, none⟩ = false := Y5.out.free 3
        have fY4 : w5.frozen? ⟨bo, 4, none⟩ = false := Y5.out.free 4
        go_upto_region 16 with fail
        clear cX0 cX1 cX2 cX3 cX4 cY0 cY1 cY2 cY3 cY4 fY0 fY1 fY2 fY3 fY4
        have hWW : (w5.setCell ⟨bo, 0, none⟩ (.int .i64 r2)) = (w5.setCell ⟨bo, 0, none⟩ (.int .i64 r2)) := rfl
        obtain ⟨w6, hW⟩ : ∃ wy, (w5.setCell ⟨bo, 0, none⟩ (.int .i64 r2)) = wy := ⟨_, rfl⟩
        rw [hW]
        clear hWW
        have B6 := Lib.hid (show Below w.heap.size w w6 by rw [← hW]; exact (B5.out.setCell (p := ⟨bo, 0, none⟩) (by have hlY := LY.out; have hs0 := LTX.out; have hs1 := LTZ.out; have hs2 := SS1.out; have hs3 := SS2.out; have hs4 := LWY.out; first | omega | (simp <;> omega)) _))
        have X6 := Lib.hid (show Bx 32 w6 (w.heap.size) #[.int .i64 r, .int .i64 g, .int .i64 1, .int .i64 t, .bool false] by rw [← hW]; exact (X5.out.other (by have hlY := LY.out; have hs0 := LTX.out; have hs1 := LTZ.out; have hs2 := SS1.out; have hs3 := SS2.out; have hs4 := LWY.out; first | omega | (simp <;> omega)) _ _))
        have Z6 := Lib.hid (show Bx 32 w6 (w.heap.size + 1) #[.int .i64 0, .int .i64 0, .int .i64 0, .int .i64 0, .bool false] by rw [← hW]; exact (Z5.out.other (by have hlY := LY.out; have hs0 := LTX.out; have hs1 := LTZ.out; have hs2 := SS1.out; have hs3 := SS2.out; have hs4 := LWY.out; first | omega | (simp <;> omega)) _ _))
        have Y6 := Lib.hid (show Bx 32 w6 (bo) #[.int .i64 r2, .int .i64 0, .int .i64 0, .int .i64 10, .bool false] by rw [← hW]; exact (Y5.out.set 0 _))
        clear hW B5 X5 Z5 Y5
        go_wp2_with (first | (refine stw.list_load rfl 32 _ rfl (bo) rfl 32 _ Y6.out Try.underlying32 rfl szR ?_) | (refine stw.list_store rfl 32 _ _ rfl (w.heap.size + 1) #[.int .i64 r2, .int .i64 0, .int .i64 0, .int .i64 10, .bool false] rfl rfl 32 _ Z6.out rfl szR (oneR _ _ _ _ _) ?_; intro wz7 hz))
        have B7 := Lib.hid (hz.on B6.out (by have hlY := LY.out; have hs0 := LTX.out; have hs1 := LTZ.out; have hs2 := SS1.out; have hs3 := SS2.out; have hs4 := LWY.out; first | omega | (simp <;> omega)))
        have X7 := Lib.hid (hz.keep X6.out (by have hlY := LY.out; have hs0 := LTX.out; have hs1 := LTZ.out; have hs2 := SS1.out; have hs3 := SS2.out; have hs4 := LWY.out; first | omega | (simp <;> omega)))
        have Z7 := Lib.hid (hz.box)
        have Y7 := Lib.hid (hz.keep Y6.out (by have hlY := LY.out; have hs0 := LTX.out; have hs1 := LTZ.out; have hs2 := SS1.out; have hs3 := SS2.out; have hs4 := LWY.out; first | omega | (simp <;> omega)))
        clear hz B6 X6 Z6 Y6
        (try simp only [Exit.inBlock, Exit.then])
        refine bodyPost_ret (v := .agg #[.int .i64 r2, .int .i64 0, .int .i64 0, .int .i64 10, .bool false]) ?_ rfl ?_
        · rw [results_cell1 rfl]
          exact stw.back Z7.out Try.underlying32 rfl szR
        · exact ⟨by rw [HE.out], B7.out⟩
      · have HE := Lib.hid (show fa ⟨r, g, b, t, false⟩ = ⟨r, 0, 1, t, false⟩ by unfold fa; rw [if_pos (of_decide_eq_true HV.out), if_neg (fun h => by simp at h), if_neg hb1])
        obtain rfl : b = 0 := by omega
        clear ht2 hr2
        obtain ⟨bo, hbb⟩ : ∃ b, w1.heap.size = b := ⟨_, rfl⟩
        go_upto_region 4 with (refine stw.list_load rfl 32 _ rfl (w.heap.size) rfl 32 _ X1.out Try.underlying32 rfl szR ?_)
        generalize hW : w1.alloc (.cells #[.int .i64 r, .int .i64 g, .int .i64 0, .int .i64 t, .bool false] 32) = w2
        have LY := Lib.hid (show w.heap.size ≤ bo ∧ w.heap.size < bo ∧ w.heap.size + 1 < bo by have h1 := B1.out.size; have h2X := X1.out.lt; have h2Z := Z1.out.lt; have h3 := hbb; omega)
        have Y2 := Lib.hid (show Bx 32 w2 bo #[.int .i64 r, .int .i64 g, .int .i64 0, .int .i64 t, .bool false] by rw [← hW, ← hbb]; exact Bx.made _ _ _)
        have hb : Below w1.heap.size w1 w2 := by rw [← hW]; exact below_box _ _
        (try rw [hbb])
        clear hW hbb
        have SS2 := Lib.hid hb.size
        have B2 := Lib.hid (B1.out.trans (hb.mono B1.out.size))
        have X2 := Lib.hid (X1.out.below hb)
        have Z2 := Lib.hid (Z1.out.below hb)
        clear hb B1 X1 Z1
        have LWY := Lib.hid Y2.out.lt
        have cX0 : w2.cell? ⟨w.heap.size, 0, none⟩ = some (.int .i64 r) := X2.out.cell 0
        have cX1 : w2.cell? ⟨w.heap.size, 1, none⟩ = some (.int .i64 g) := X2.out.cell 1
        have cX2 : w2.cell? ⟨w.heap.size, 2, none⟩ = some (.int .i64 0) := X2.out.cell 2
        have cX3 : w2.cell? ⟨w.heap.size, 3, none⟩ = some (.int .i64 t) := X2.out.cell 3
        have cX4 : w2.cell? ⟨w.heap.size, 4, none⟩ = some (.bool false) := X2.out.cell 4
        have cY0 : w2.cell? ⟨bo, 0, none⟩ = some (.int .i64 r) := Y2.out.cell 0
        have cY1 : w2.cell? ⟨bo, 1, none⟩ = some (.int .i64 g) := Y2.out.cell 1
        have cY2 : w2.cell? ⟨bo, 2, none⟩ = some (.int .i64 0) := Y2.out.cell 2
        have cY3 : w2.cell? ⟨bo, 3, none⟩ = some (.int .i64 t) := Y2.out.cell 3
        have cY4 : w2.cell? ⟨bo, 4, none⟩ = some (.bool false) := Y2.out.cell 4
        have fY0 : w2.frozen? ⟨bo, 0, none⟩ = false := Y2.out.free 0
        have fY1 : w2.frozen? ⟨bo, 1, none⟩ = false := Y2.out.free 1
        have fY2 : w2.frozen? ⟨bo, 2, none⟩ = false := Y2.out.free 2
        have fY3 : w2.frozen? ⟨bo, 3, none⟩ = false := Y2.out.free 3
        have fY4 : w2.frozen? ⟨bo, 4, none⟩ = false := Y2.out.free 4
        go_upto_region 6 with fail
        clear cX0 cX1 cX2 cX3 cX4 cY0 cY1 cY2 cY3 cY4 fY0 fY1 fY2 fY3 fY4
        have hWW : ((w2.setCell ⟨bo, 1, none⟩ (.int .i64 0)).setCell ⟨bo, 4, none⟩ (.bool false)) = ((w2.setCell ⟨bo, 1, none⟩ (.int .i64 0)).setCell ⟨bo, 4, none⟩ (.bool false)) := rfl
        obtain ⟨w3, hW⟩ : ∃ wy, ((w2.setCell ⟨bo, 1, none⟩ (.int .i64 0)).setCell ⟨bo, 4, none⟩ (.bool false)) = wy := ⟨_, rfl⟩
        rw [hW]
        clear hWW
        have B3 := Lib.hid (show Below w.heap.size w w3 by rw [← hW]; exact ((B2.out.setCell (p := ⟨bo, 1, none⟩) (by have hlY := LY.out; have hs0 := LTX.out; have hs1 := LTZ.out; have hs2 := SS1.out; have hs3 := SS2.out; have hs4 := LWY.out; first | omega | (simp <;> omega)) _).setCell (p := ⟨bo, 4, none⟩) (by have hlY := LY.out; have hs0 := LTX.out; have hs1 := LTZ.out; have hs2 := SS1.out; have hs3 := SS2.out; have hs4 := LWY.out; first | omega | (simp <;> omega)) _))
        have X3 := Lib.hid (show Bx 32 w3 (w.heap.size) #[.int .i64 r, .int .i64 g, .int .i64 0, .int .i64 t, .bool false] by rw [← hW]; exact ((X2.out.other (by have hlY := LY.out; have hs0 := LTX.out; have hs1 := LTZ.out; have hs2 := SS1.out; have hs3 := SS2.out; have hs4 := LWY.out; first | omega | (simp <;> omega)) _ _).other (by have hlY := LY.out; have hs0 := LTX.out; have hs1 := LTZ.out; have hs2 := SS1.out; have hs3 := SS2.out; have hs4 := LWY.out; first | omega | (simp <;> omega)) _ _))
        have Z3 := Lib.hid (show Bx 32 w3 (w.heap.size + 1) #[.int .i64 0, .int .i64 0, .int .i64 0, .int .i64 0, .bool false] by rw [← hW]; exact ((Z2.out.other (by have hlY := LY.out; have hs0 := LTX.out; have hs1 := LTZ.out; have hs2 := SS1.out; have hs3 := SS2.out; have hs4 := LWY.out; first | omega | (simp <;> omega)) _ _).other (by have hlY := LY.out; have hs0 := LTX.out; have hs1 := LTZ.out; have hs2 := SS1.out; have hs3 := SS2.out; have hs4 := LWY.out; first | omega | (simp <;> omega)) _ _))
        have Y3 := Lib.hid (show Bx 32 w3 (bo) #[.int .i64 r, .int .i64 0, .int .i64 0, .int .i64 t, .bool false] by rw [← hW]; exact ((Y2.out.set 1 _).set 4 _))
        clear hW B2 X2 Z2 Y2
        have cX0 : w3.cell? ⟨w.heap.size, 0, none⟩ = some (.int .i64 r) := X3.out.cell 0
        have cX1 : w3.cell? ⟨w.heap.size, 1, none⟩ = some (.int .i64 g) := X3.out.cell 1
        have cX2 : w3.cell? ⟨w.heap.size, 2, none⟩ = some (.int .i64 0) := X3.out.cell 2
        have cX3 : w3.cell? ⟨w.heap.size, 3, none⟩ = some (.int .i64 t) := X3.out.cell 3
        have cX4 : w3.cell? ⟨w.heap.size, 4, none⟩ = some (.bool false) := X3.out.cell 4
        have cY0 : w3.cell? ⟨bo, 0, none⟩ = some (.int .i64 r) := Y3.out.cell 0
        have cY1 : w3.cell? ⟨bo, 1, none⟩ = some (.int .i64 0) := Y3.out.cell 1
        have cY2 : w3.cell? ⟨bo, 2, none⟩ = some (.int .i64 0) := Y3.out.cell 2
        have cY3 : w3.cell? ⟨bo, 3, none⟩ = some (.int .i64 t) := Y3.out.cell 3
        have cY4 : w3.cell? ⟨bo, 4, none⟩ = some (.bool false) := Y3.out.cell 4
        have fY0 : w3.frozen? ⟨bo, 0, none⟩ = false := Y3.out.free 0
        have fY1 : w3.frozen? ⟨bo, 1, none⟩ = false := Y3.out.free 1
        have fY2 : w3.frozen? ⟨bo, 2, none⟩ = false := Y3.out.free 2
        have fY3 : w3.frozen? ⟨bo, 3, none⟩ = false := Y3.out.free 3
        have fY4 : w3.frozen? ⟨bo, 4, none⟩ = false := Y3.out.free 4
        go_upto_region 12 with fail
        clear cX0 cX1 cX2 cX3 cX4 cY0 cY1 cY2 cY3 cY4 fY0 fY1 fY2 fY3 fY4
        have hWW : (w3.setCell ⟨bo, 2, none⟩ (.int .i64 1)) = (w3.setCell ⟨bo, 2, none⟩ (.int .i64 1)) := rfl
        obtain ⟨w4, hW⟩ : ∃ wy, (w3.setCell ⟨bo, 2, none⟩ (.int .i64 1)) = wy := ⟨_, rfl⟩
        rw [hW]
        clear hWW
        have B4 := Lib.hid (show Below w.heap.size w w4 by rw [← hW]; exact (B3.out.setCell (p := ⟨bo, 2, none⟩) (by have hlY := LY.out; have hs0 := LTX.out; have hs1 := LTZ.out; have hs2 := SS1.out; have hs3 := SS2.out; have hs4 := LWY.out; first | omega | (simp <;> omega)) _))
        have X4 := Lib.hid (show Bx 32 w4 (w.heap.size) #[.int .i64 r, .int .i64 g, .int .i64 0, .int .i64 t, .bool false] by rw [← hW]; exact (X3.out.other (by have hlY := LY.out; have hs0 := LTX.out; have hs1 := LTZ.out; have hs2 := SS1.out; have hs3 := SS2.out; have hs4 := LWY.out; first | omega | (simp <;> omega)) _ _))
        have Z4 := Lib.hid (show Bx 32 w4 (w.heap.size + 1) #[.int .i64 0, .int .i64 0, .int .i64 0, .int .i64 0, .bool false] by rw [← hW]; exact (Z3.out.other (by have hlY := LY.out; have hs0 := LTX.out; have hs1 := LTZ.out; have hs2 := SS1.out; have hs3 := SS2.out; have hs4 := LWY.out; first | omega | (simp <;> omega)) _ _))
        have Y4 := Lib.hid (show Bx 32 w4 (bo) #[.int .i64 r, .int .i64 0, .int .i64 1, .int .i64 t, .bool false] by rw [← hW]; exact (Y3.out.set 2 _))
        clear hW B3 X3 Z3 Y3
        have cX0 : w4.cell? ⟨w.heap.size, 0, none⟩ = some (.int .i64 r) := X4.out.cell 0
        have cX1 : w4.cell? ⟨w.heap.size, 1, none⟩ = some (.int .i64 g) := X4.out.cell 1
        have cX2 : w4.cell? ⟨w.heap.size, 2, none⟩ = some (.int .i64 0) := X4.out.cell 2
        have cX3 : w4.cell? ⟨w.heap.size, 3, none⟩ = some (.int .i64 t) := X4.out.cell 3
        have cX4 : w4.cell? ⟨w.heap.size, 4, none⟩ = some (.bool false) := X4.out.cell 4
        have cY0 : w4.cell? ⟨bo, 0, none⟩ = some (.int .i64 r) := Y4.out.cell 0
        have cY1 : w4.cell? ⟨bo, 1, none⟩ = some (.int .i64 0) := Y4.out.cell 1
        have cY2 : w4.cell? ⟨bo, 2, none⟩ = some (.int .i64 1) := Y4.out.cell 2
        have cY3 : w4.cell? ⟨bo, 3, none⟩ = some (.int .i64 t) := Y4.out.cell 3
        have cY4 : w4.cell? ⟨bo, 4, none⟩ = some (.bool false) := Y4.out.cell 4
        have fY0 : w4.frozen? ⟨bo, 0, none⟩ = false := Y4.out.free 0
        have fY1 : w4.frozen? ⟨bo, 1, none⟩ = false := Y4.out.free 1
        have fY2 : w4.frozen? ⟨bo, 2, none⟩ = false := Y4.out.free 2
        have fY3 : w4.frozen? ⟨bo, 3, none⟩ = false := Y4.out.free 3
        have fY4 : w4.frozen? ⟨bo, 4, none⟩ = false := Y4.out.free 4
        go_upto_region 16 with fail
        clear cX0 cX1 cX2 cX3 cX4 cY0 cY1 cY2 cY3 cY4 fY0 fY1 fY2 fY3 fY4
        go_wp2_with (first | (refine stw.list_load rfl 32 _ rfl (bo) rfl 32 _ Y4.out Try.underlying32 rfl szR ?_) | (refine stw.list_store rfl 32 _ _ rfl (w.heap.size + 1) #[.int .i64 r, .int .i64 0, .int .i64 1, .int .i64 t, .bool false] rfl rfl 32 _ Z4.out rfl szR (oneR _ _ _ _ _) ?_; intro wz5 hz))
        have B5 := Lib.hid (hz.on B4.out (by have hlY := LY.out; have hs0 := LTX.out; have hs1 := LTZ.out; have hs2 := SS1.out; have hs3 := SS2.out; have hs4 := LWY.out; first | omega | (simp <;> omega)))
        have X5 := Lib.hid (hz.keep X4.out (by have hlY := LY.out; have hs0 := LTX.out; have hs1 := LTZ.out; have hs2 := SS1.out; have hs3 := SS2.out; have hs4 := LWY.out; first | omega | (simp <;> omega)))
        have Z5 := Lib.hid (hz.box)
        have Y5 := Lib.hid (hz.keep Y4.out (by have hlY := LY.out; have hs0 := LTX.out; have hs1 := LTZ.out; have hs2 := SS1.out; have hs3 := SS2.out; have hs4 := LWY.out; first | omega | (simp <;> omega)))
        clear hz B4 X4 Z4 Y4
        (try simp only [Exit.inBlock, Exit.then])
        refine bodyPost_ret (v := .agg #[.int .i64 r, .int .i64 0, .int .i64 1, .int .i64 t, .bool false]) ?_ rfl ?_
        · rw [results_cell1 rfl]
          exact stw.back Z5.out Try.underlying32 rfl szR
        · exact ⟨by rw [HE.out], B5.out⟩
  | false =>
    have HE := Lib.hid (show fa ⟨r, g, b, t, p⟩ = ⟨r, g, b, t, p⟩ by unfold fa; rw [if_neg (of_decide_eq_false HV.out)])
    go_wp2_with (first | (refine stw.list_load rfl 32 _ rfl (w.heap.size) rfl 32 _ X1.out Try.underlying32 rfl szR ?_) | (refine stw.list_store rfl 32 _ _ rfl (w.heap.size + 1) #[.int .i64 r, .int .i64 g, .int .i64 b, .int .i64 t, .bool p] rfl rfl 32 _ Z1.out rfl szR (oneR _ _ _ _ _) ?_; intro wz2 hz))
    have B2 := Lib.hid (hz.on B1.out (by have hs0 := LTX.out; have hs1 := LTZ.out; have hs2 := SS1.out; first | omega | (simp <;> omega)))
    have X2 := Lib.hid (hz.keep X1.out (by have hs0 := LTX.out; have hs1 := LTZ.out; have hs2 := SS1.out; first | omega | (simp <;> omega)))
    have Z2 := Lib.hid (hz.box)
    clear hz B1 X1 Z1
    (try simp only [Exit.inBlock, Exit.then])
    refine bodyPost_ret (v := .agg #[.int .i64 r, .int .i64 g, .int .i64 b, .int .i64 t, .bool p]) ?_ rfl ?_
    · rw [results_cell1 rfl]
      exact stw.back Z2.out Try.underlying32 rfl szR
    · exact ⟨by rw [HE.out], B2.out⟩
end Go.Proofs.Ytejjafmppihneaa.ra
