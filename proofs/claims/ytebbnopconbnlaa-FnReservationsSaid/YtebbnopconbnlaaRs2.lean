/- A reservation after a heard frame, program and specification. Condition: none. -/
import Derived.Test.YtebbnopconbnlaaRs1
import Derived.Test.YtebbnopconbnlaaFb2
namespace Go.Proofs.Ytebbnopconbnlaa.bx
open Go.RowKit sl harn rng rsm stw
set_option linter.unusedVariables false
set_option linter.unusedSimpArgs false

set_option maxRecDepth 100000 in
set_option maxHeartbeats 4000000 in
theorem implAn (k f t s g : Int) (m r : Bool) (d : Int) (A : Option Addr) (n cap : Nat) (j : Int) (hj : 0 ≤ j ∧ j ≤ 999999998999) (hd : 0 ≤ d ∧ d ≤ 1000) (w : World) :
    Calls Try.prog 44 #[.agg #[.int .i64 k, .int .i64 f, .int .i64 t, .int .i64 s, .int .i64 g, .bool m, .bool r, .int .i64 d, .slice A n cap], .int .i64 j] w (RPost (⟨j + 1 + d, if k = 4 then t else f, f⟩ : Rv) w) := by
  obtain ⟨p, hp⟩ : ∃ p, j + 1 = p := ⟨_, rfl⟩
  obtain ⟨y, hy⟩ : ∃ y, p + d = y := ⟨_, rfl⟩
  have m1 : IntKind.i64.wrap p = p := IntWalk.i64_in _ (by omega)
  have m2 : IntKind.i64.wrap y = y := IntWalk.i64_in _ (by omega)
  have HP := Lib.hid (show j + 1 + d = y by omega)
  clear hj hd
  by_cases he : k = 4
  · have e4 : (k == 4) = true := by simp [he]
    go_enter Try.func44, Try.ntmps44
    go_wp2
    (try simp only [Exit.inBlock, Exit.then])
    refine bodyPost_ret (v := .agg #[.int .i64 y, .int .i64 t, .int .i64 f]) ?_ rfl ?_
    · rw [results_cell1 rfl]
      go_simp
    · refine ⟨?_, ?_⟩
      · rfl
      · (repeat' (first | exact Below.refl _ _ | refine Below.setCell ?_ (by simp) _ | refine Below.alloc ?_ (by simp <;> omega) _))
  · have e4 : (k == 4) = false := by simp [he]
    go_enter Try.func44, Try.ntmps44
    go_wp2
    (try simp only [Exit.inBlock, Exit.then])
    refine bodyPost_ret (v := .agg #[.int .i64 y, .int .i64 f, .int .i64 f]) ?_ rfl ?_
    · rw [results_cell1 rfl]
      go_simp
    · refine ⟨?_, ?_⟩
      · rfl
      · (repeat' (first | exact Below.refl _ _ | refine Below.setCell ?_ (by simp) _ | refine Below.alloc ?_ (by simp <;> omega) _))
set_option maxRecDepth 100000 in
set_option maxHeartbeats 4000000 in
theorem implHf (u h b i k f t s g : Int) (m r : Bool) (d : Int) (A : Option Addr) (n cap : Nat) (z : List Int) (hz : z.length = n) (j : Int) (w : World) :
    Calls Try.prog 14 #[.agg #[.int .i64 u, .int .i64 h, .int .i64 b], .int .i64 i, .agg #[.int .i64 k, .int .i64 f, .int .i64 t, .int .i64 s, .int .i64 g, .bool m, .bool r, .int .i64 d, .slice A n cap], .int .i64 j] w (RPost (hea ⟨u, h, b⟩ i (⟨k, f, t, s, g, m, r, d, z⟩ : frm.Fm) j) w) := by
  obtain ⟨v0, h0⟩ : ∃ v, decide (frm.Vf (⟨k, f, t, s, g, m, r, d, z⟩ : frm.Fm)) = v := ⟨_, rfl⟩
  obtain ⟨v1, h1⟩ : ∃ v, vr ⟨u, h, b⟩ = v := ⟨_, rfl⟩
  obtain ⟨v2, h2⟩ : ∃ v, decide (0 ≤ j ∧ j ≤ 999999998999) = v := ⟨_, rfl⟩
  have HC := Lib.hid (show cnt ⟨u, h, b⟩ i (⟨k, f, t, s, g, m, r, d, z⟩ : frm.Fm) j = (v0 && (v1 && (v2 && decide (¬ t = i)))) by unfold cnt; rw [← h0, ← h1, ← h2])
  have H0 := Lib.hid h0
  have H1 := Lib.hid h1
  have H2 := Lib.hid h2
  have HZ := Lib.hid hz
  clear h0 h1 h2 hz
  go_enter Try.func14, Try.ntmps14
  go_wp2_with fail
  obtain ⟨w0, hW⟩ : ∃ w0, ((w.alloc (.cells #[.int .i64 u, .int .i64 h, .int .i64 b] 25)).alloc (.cells #[.int .i64 k, .int .i64 f, .int .i64 t, .int .i64 s, .int .i64 g, .bool m, .bool r, .int .i64 d, .slice A n cap] 27)).alloc (.cells #[.int .i64 0, .int .i64 0, .int .i64 0] 25) = w0 := ⟨_, rfl⟩
  rw [hW]
  have B0 := Lib.hid (show Below w.heap.size w w0 by rw [← hW]; exact (((Below.refl _ _).alloc (by simp <;> omega) _).alloc (by simp <;> omega) _).alloc (by simp <;> omega) _)
  have X0 := Lib.hid (show Bx 25 w0 (w.heap.size) #[.int .i64 u, .int .i64 h, .int .i64 b] by
      rw [← hW]
      have hh := Bx.made 25 w #[.int .i64 u, .int .i64 h, .int .i64 b]
      exact ((hh.below (below_box _ _)).below (below_box _ _)))
  have M0 := Lib.hid (show Bx 27 w0 (w.heap.size + 1) #[.int .i64 k, .int .i64 f, .int .i64 t, .int .i64 s, .int .i64 g, .bool m, .bool r, .int .i64 d, .slice A n cap] by
      rw [← hW]
      have hh : Bx 27 ((w.alloc (.cells #[.int .i64 u, .int .i64 h, .int .i64 b] 25)).alloc (.cells #[.int .i64 k, .int .i64 f, .int .i64 t, .int .i64 s, .int .i64 g, .bool m, .bool r, .int .i64 d, .slice A n cap] 27)) (w.heap.size + 1) #[.int .i64 k, .int .i64 f, .int .i64 t, .int .i64 s, .int .i64 g, .bool m, .bool r, .int .i64 d, .slice A n cap] := by have hh := Bx.made 27 (w.alloc (.cells #[.int .i64 u, .int .i64 h, .int .i64 b] 25)) #[.int .i64 k, .int .i64 f, .int .i64 t, .int .i64 s, .int .i64 g, .bool m, .bool r, .int .i64 d, .slice A n cap]; simpa using hh
      exact (hh.below (below_box _ _)))
  have Z0 := Lib.hid (show Bx 25 w0 (w.heap.size + 1 + 1) #[.int .i64 0, .int .i64 0, .int .i64 0] by
      rw [← hW]
      have hh : Bx 25 (((w.alloc (.cells #[.int .i64 u, .int .i64 h, .int .i64 b] 25)).alloc (.cells #[.int .i64 k, .int .i64 f, .int .i64 t, .int .i64 s, .int .i64 g, .bool m, .bool r, .int .i64 d, .slice A n cap] 27)).alloc (.cells #[.int .i64 0, .int .i64 0, .int .i64 0] 25)) (w.heap.size + 1 + 1) #[.int .i64 0, .int .i64 0, .int .i64 0] := by have hh := Bx.made 25 ((w.alloc (.cells #[.int .i64 u, .int .i64 h, .int .i64 b] 25)).alloc (.cells #[.int .i64 k, .int .i64 f, .int .i64 t, .int .i64 s, .int .i64 g, .bool m, .bool r, .int .i64 d, .slice A n cap] 27)) #[.int .i64 0, .int .i64 0, .int .i64 0]; simpa using hh
      exact hh)
  clear hW
  go_wp2_with (refine stw.list_load rfl 27 _ rfl (w.heap.size + 1) rfl 27 _ M0.out Try.underlying27 rfl szM ?_)
  (with_reducible refine (fbx.implVf k f t s g m r d A n cap z HZ.out _).mono ?_)
  rintro e w1 hp
  obtain ⟨rfl, hb⟩ := fbx.b_parts H0.out hp
  clear hp
  have B1 := Lib.hid (B0.out.trans (hb.mono B0.out.size))
  have X1 := Lib.hid (X0.out.below hb)
  have M1 := Lib.hid (M0.out.below hb)
  have Z1 := Lib.hid (Z0.out.below hb)
  clear hb  B0 X0 M0 Z0
  cases v0 with
  | true =>
    have cX0 : w1.cell? ⟨w.heap.size, 0, none⟩ = some (.int .i64 u) := X1.out.cell 0
    have cX1 : w1.cell? ⟨w.heap.size, 1, none⟩ = some (.int .i64 h) := X1.out.cell 1
    have cX2 : w1.cell? ⟨w.heap.size, 2, none⟩ = some (.int .i64 b) := X1.out.cell 2
    go_wp2_with fail
    clear cX0 cX1 cX2
    (with_reducible refine (implVr u h b _).mono ?_)
    rintro e w2 hp
    obtain ⟨rfl, hb⟩ := b_parts H1.out hp
    clear hp
    have B2 := Lib.hid (B1.out.trans (hb.mono B1.out.size))
    have X2 := Lib.hid (X1.out.below hb)
    have M2 := Lib.hid (M1.out.below hb)
    have Z2 := Lib.hid (Z1.out.below hb)
    clear hb  B1 X1 M1 Z1
    cases v1 with
    | true =>
      go_wp2_with fail
      (with_reducible refine (inR j 0 999999998999 v2 _ H2.out).mono ?_)
      rintro e wq ⟨rfl, rfl⟩
      cases v2 with
      | true =>
        by_cases he : t = i
        · have e1 : (t == i) = true := by simp [he]
          have HE := Lib.hid (show hea ⟨u, h, b⟩ i (⟨k, f, t, s, g, m, r, d, z⟩ : frm.Fm) j = ⟨u, h, b⟩ by unfold hea; rw [HC.out, decide_eq_false (fun hh => hh he)]; rfl)
          have cM2 : w2.cell? ⟨w.heap.size + 1, 2, none⟩ = some (.int .i64 t) := M2.out.cell 2
          go_wp2_with (first | (refine stw.list_load rfl 25 _ rfl (w.heap.size) rfl 25 _ X2.out Try.underlying25 rfl szR ?_) | (refine stw.list_store rfl 25 _ _ rfl (w.heap.size + 1 + 1) #[.int .i64 u, .int .i64 h, .int .i64 b] rfl rfl 25 _ Z2.out rfl szR (oneR _ _ _) ?_; intro wz3 hz))
          clear cM2
          have B3 := Lib.hid (hz.on B2.out (by first | omega | (simp <;> omega)))
          have X3 := Lib.hid (hz.keep X2.out (by first | omega | (simp <;> omega)))
          have M3 := Lib.hid (hz.keep M2.out (by first | omega | (simp <;> omega)))
          have Z3 := Lib.hid (hz.box)
          clear hz B2 X2 M2 Z2
          (try simp only [Exit.inBlock, Exit.then])
          refine bodyPost_ret (v := .agg #[.int .i64 u, .int .i64 h, .int .i64 b]) ?_ rfl ?_
          · rw [results_cell1 rfl]
            exact stw.back Z3.out Try.underlying25 rfl szR
          · exact ⟨by rw [HE.out], B3.out⟩
        · have e1 : (t == i) = false := by simp [he]
          obtain ⟨⟨x0, x1, x2⟩, hx⟩ : ∃ x, com ⟨u, h, b⟩ (ann (⟨k, f, t, s, g, m, r, d, z⟩ : frm.Fm) j) = x := ⟨_, rfl⟩
          have HX := Lib.hid hx
          have HE := Lib.hid (show hea ⟨u, h, b⟩ i (⟨k, f, t, s, g, m, r, d, z⟩ : frm.Fm) j = ⟨x0, x1, x2⟩ by unfold hea; rw [HC.out, decide_eq_true he]; exact hx)
          have hd : 0 ≤ d ∧ d ≤ 1000 := by have hV : frm.Vf (⟨k, f, t, s, g, m, r, d, z⟩ : frm.Fm) := of_decide_eq_true H0.out; exact hV.2.2.2.1.2.2
          have hj : 0 ≤ j ∧ j ≤ 999999998999 := of_decide_eq_true H2.out
          have HD := Lib.hid hd
          have HJ := Lib.hid hj
          obtain ⟨⟨a0, a1, a2⟩, ha⟩ : ∃ x, ann (⟨k, f, t, s, g, m, r, d, z⟩ : frm.Fm) j = x := ⟨_, rfl⟩
          have HA := Lib.hid ha
          have HXA := Lib.hid (show com ⟨u, h, b⟩ ⟨a0, a1, a2⟩ = ⟨x0, x1, x2⟩ by rw [← ha, hx])
          clear ha hx hd hj he
          have cM2 : w2.cell? ⟨w.heap.size + 1, 2, none⟩ = some (.int .i64 t) := M2.out.cell 2
          go_wp2_with fail
          clear cM2
          clear e1
          refine reg.region_tail reg.Bel 5 34 [some [], some [], some [], some [(1, 30), (2, 31)], some [(0, 29), (3, 32)], none] [(0, 29), (1, 30), (2, 31), (3, 32), (4, 33)]
            (fun w' => Below w.heap.size w w' ∧ Bx 25 w' (w.heap.size) #[.int .i64 u, .int .i64 h, .int .i64 b] ∧ Bx 27 w' (w.heap.size + 1) #[.int .i64 k, .int .i64 f, .int .i64 t, .int .i64 s, .int .i64 g, .bool m, .bool r, .int .i64 d, .slice A n cap] ∧ Bx 25 w' (w.heap.size + 1 + 1) #[.int .i64 0, .int .i64 0, .int .i64 0] ∧ True)
            (reg.rl [reg.is (.agg #[.int .i64 u, .int .i64 h, .int .i64 b]), reg.is (.agg #[.int .i64 k, .int .i64 f, .int .i64 t, .int .i64 s, .int .i64 g, .bool m, .bool r, .int .i64 d, .slice A n cap]), reg.is (.int .i64 j), reg.is (.agg #[.int .i64 a0, .int .i64 a1, .int .i64 a2]), reg.is (.agg #[.int .i64 x0, .int .i64 x1, .int .i64 x2]), reg.free])
            (by kernel_rfl) rfl (by kernel_rfl) (by kernel_rfl) rfl
            (fun w1 w2 hc hb => ⟨hc.1.trans (hb.mono hc.1.size), hc.2.1.below hb, hc.2.2.1.below hb, hc.2.2.2.1.below hb, trivial⟩) (reg.rl_keep _) (⟨own.below_drew B2.out, X2.out.same rfl, M2.out.same rfl, Z2.out.same rfl, trivial⟩) (by kernel_rfl) ⟨?_, ?_, ?_, ?_, ?_, trivial⟩ ?_
          · refine fun w8 hc  K hK => ?_
            (try simp only [Act.put, List.setIfInBounds_toArray, List.set_cons_zero, List.set_cons_succ])
            rw [if_pos (by rfl)]
            refine stw.wp_load_bx 25 _ rfl (w.heap.size) rfl 25 _ hc.2.1 Try.underlying25 rfl szR ?_
            exact hK _ _ rfl (Below.refl _ _)
          · refine fun w8 hc  K hK => ?_
            (try simp only [Act.put, List.setIfInBounds_toArray, List.set_cons_zero, List.set_cons_succ])
            rw [if_pos (by rfl)]
            refine stw.wp_load_bx 27 _ rfl (w.heap.size + 1) rfl 27 _ hc.2.2.1 Try.underlying27 rfl szM ?_
            exact hK _ _ rfl (Below.refl _ _)
          · refine fun w8 hc  K hK => ?_
            (try simp only [Act.put, List.setIfInBounds_toArray, List.set_cons_zero, List.set_cons_succ])
            go_simp
            exact hK (.int .i64 j) _ rfl (Below.refl _ _)
          · refine fun w8 hc v1 h1 v2 h2 K hK => ?_
            obtain rfl : v1 = .agg #[.int .i64 k, .int .i64 f, .int .i64 t, .int .i64 s, .int .i64 g, .bool m, .bool r, .int .i64 d, .slice A n cap] := h1
            obtain rfl : v2 = .int .i64 j := h2
            (try simp only [Act.put, List.setIfInBounds_toArray, List.set_cons_zero, List.set_cons_succ])
            go_simp
            (with_reducible refine (implAn k f t s g m r d A n cap j HJ.out HD.out _).mono ?_)
            rintro e w3 hp
            obtain ⟨rfl, hb⟩ := r_parts HA.out hp
            exact hK _ _ rfl hb
          · refine fun w8 hc v0 h0 v3 h3 K hK => ?_
            obtain rfl : v0 = .agg #[.int .i64 u, .int .i64 h, .int .i64 b] := h0
            obtain rfl : v3 = .agg #[.int .i64 a0, .int .i64 a1, .int .i64 a2] := h3
            (try simp only [Act.put, List.setIfInBounds_toArray, List.set_cons_zero, List.set_cons_succ])
            go_simp
            (with_reducible refine (implCo u h b a0 a1 a2 _).mono ?_)
            rintro e w3 hp
            obtain ⟨rfl, hb⟩ := r_parts HXA.out hp
            exact hK _ _ rfl hb
          refine fun w9 hc v0 h0 v1 h1 v2 h2 v3 h3 v4 h4 => ?_
          obtain rfl : v0 = .agg #[.int .i64 u, .int .i64 h, .int .i64 b] := h0
          obtain rfl : v1 = .agg #[.int .i64 k, .int .i64 f, .int .i64 t, .int .i64 s, .int .i64 g, .bool m, .bool r, .int .i64 d, .slice A n cap] := h1
          obtain rfl : v2 = .int .i64 j := h2
          obtain rfl : v3 = .agg #[.int .i64 a0, .int .i64 a1, .int .i64 a2] := h3
          obtain rfl : v4 = .agg #[.int .i64 x0, .int .i64 x1, .int .i64 x2] := h4
          (try simp only [reg.Obs])
          (try simp only [Act.put, List.setIfInBounds_toArray, List.set_cons_zero, List.set_cons_succ])
          simp only [List.drop_succ_cons, List.drop_zero]
          have B3 := Lib.hid hc.1
          have X3 := Lib.hid hc.2.1
          have M3 := Lib.hid hc.2.2.1
          have Z3 := Lib.hid hc.2.2.2.1
          clear hc B2 X2 M2 Z2
          refine stw.list_store rfl 25 _ _ rfl (w.heap.size + 1 + 1) #[.int .i64 x0, .int .i64 x1, .int .i64 x2] rfl rfl 25 _ Z3.out rfl szR (oneR _ _ _) ?_
          intro wz4 hz
          (try simp only [Act.put])
          have B4 := Lib.hid (hz.on B3.out (by first | omega | (simp <;> omega)))
          have X4 := Lib.hid (hz.keep X3.out (by first | omega | (simp <;> omega)))
          have M4 := Lib.hid (hz.keep M3.out (by first | omega | (simp <;> omega)))
          have Z4 := Lib.hid (hz.box)
          clear hz B3 X3 M3 Z3
          go_wp2_with fail
          (try simp only [Exit.inBlock, Exit.then])
          refine bodyPost_ret (v := .agg #[.int .i64 x0, .int .i64 x1, .int .i64 x2]) ?_ rfl ?_
          · rw [results_cell1 rfl]
            exact stw.back Z4.out Try.underlying25 rfl szR
          · exact ⟨by rw [HE.out], B4.out⟩
      | false =>
        have HE := Lib.hid (show hea ⟨u, h, b⟩ i (⟨k, f, t, s, g, m, r, d, z⟩ : frm.Fm) j = ⟨u, h, b⟩ by unfold hea; rw [HC.out]; rfl)
        go_wp2_with (first | (refine stw.list_load rfl 25 _ rfl (w.heap.size) rfl 25 _ X2.out Try.underlying25 rfl szR ?_) | (refine stw.list_store rfl 25 _ _ rfl (w.heap.size + 1 + 1) #[.int .i64 u, .int .i64 h, .int .i64 b] rfl rfl 25 _ Z2.out rfl szR (oneR _ _ _) ?_; intro wz3 hz))
        have B3 := Lib.hid (hz.on B2.out (by first | omega | (simp <;> omega)))
        have X3 := Lib.hid (hz.keep X2.out (by first | omega | (simp <;> omega)))
        have M3 := Lib.hid (hz.keep M2.out (by first | omega | (simp <;> omega)))
        have Z3 := Lib.hid (hz.box)
        clear hz B2 X2 M2 Z2
        (try simp only [Exit.inBlock, Exit.then])
        refine bodyPost_ret (v := .agg #[.int .i64 u, .int .i64 h, .int .i64 b]) ?_ rfl ?_
        · rw [results_cell1 rfl]
          exact stw.back Z3.out Try.underlying25 rfl szR
        · exact ⟨by rw [HE.out], B3.out⟩
    | false =>
      have HE := Lib.hid (show hea ⟨u, h, b⟩ i (⟨k, f, t, s, g, m, r, d, z⟩ : frm.Fm) j = ⟨u, h, b⟩ by unfold hea; rw [HC.out]; rfl)
      go_wp2_with (first | (refine stw.list_load rfl 25 _ rfl (w.heap.size) rfl 25 _ X2.out Try.underlying25 rfl szR ?_) | (refine stw.list_store rfl 25 _ _ rfl (w.heap.size + 1 + 1) #[.int .i64 u, .int .i64 h, .int .i64 b] rfl rfl 25 _ Z2.out rfl szR (oneR _ _ _) ?_; intro wz3 hz))
      have B3 := Lib.hid (hz.on B2.out (by first | omega | (simp <;> omega)))
      have X3 := Lib.hid (hz.keep X2.out (by first | omega | (simp <;> omega)))
      have M3 := Lib.hid (hz.keep M2.out (by first | omega | (simp <;> omega)))
      have Z3 := Lib.hid (hz.box)
      clear hz B2 X2 M2 Z2
      (try simp only [Exit.inBlock, Exit.then])
      refine bodyPost_ret (v := .agg #[.int .i64 u, .int .i64 h, .int .i64 b]) ?_ rfl ?_
      · rw [results_cell1 rfl]
        exact stw.back Z3.out Try.underlying25 rfl szR
      · exact ⟨by rw [HE.out], B3.out⟩
  | false =>
    have HE := Lib.hid (show hea ⟨u, h, b⟩ i (⟨k, f, t, s, g, m, r, d, z⟩ : frm.Fm) j = ⟨u, h, b⟩ by unfold hea; rw [HC.out]; rfl)
    go_wp2_with (first | (refine stw.list_load rfl 25 _ rfl (w.heap.size) rfl 25 _ X1.out Try.underlying25 rfl szR ?_) | (refine stw.list_store rfl 25 _ _ rfl (w.heap.size + 1 + 1) #[.int .i64 u, .int .i64 h, .int .i64 b] rfl rfl 25 _ Z1.out rfl szR (oneR _ _ _) ?_; intro wz2 hz))
    have B2 := Lib.hid (hz.on B1.out (by first | omega | (simp <;> omega)))
    have X2 := Lib.hid (hz.keep X1.out (by first | omega | (simp <;> omega)))
    have M2 := Lib.hid (hz.keep M1.out (by first | omega | (simp <;> omega)))
    have Z2 := Lib.hid (hz.box)
    clear hz B1 X1 M1 Z1
    (try simp only [Exit.inBlock, Exit.then])
    refine bodyPost_ret (v := .agg #[.int .i64 u, .int .i64 h, .int .i64 b]) ?_ rfl ?_
    · rw [results_cell1 rfl]
      exact stw.back Z2.out Try.underlying25 rfl szR
    · exact ⟨by rw [HE.out], B2.out⟩
set_option maxRecDepth 100000 in
set_option maxHeartbeats 4000000 in
theorem specHf (u h b i k f t s g : Int) (m r : Bool) (d : Int) (A : Option Addr) (n cap : Nat) (z : List Int) (hz : z.length = n) (j : Int) (w : World) :
    Calls Try.prog 29 #[.agg #[.int .i64 u, .int .i64 h, .int .i64 b], .int .i64 i, .agg #[.int .i64 k, .int .i64 f, .int .i64 t, .int .i64 s, .int .i64 g, .bool m, .bool r, .int .i64 d, .slice A n cap], .int .i64 j] w (RPost (hea ⟨u, h, b⟩ i (⟨k, f, t, s, g, m, r, d, z⟩ : frm.Fm) j) w) := by
  obtain ⟨v0, h0⟩ : ∃ v, decide (frm.Vf (⟨k, f, t, s, g, m, r, d, z⟩ : frm.Fm)) = v := ⟨_, rfl⟩
  obtain ⟨v1, h1⟩ : ∃ v, vr ⟨u, h, b⟩ = v := ⟨_, rfl⟩
  obtain ⟨v2, h2⟩ : ∃ v, decide (0 ≤ j ∧ j ≤ 999999998999) = v := ⟨_, rfl⟩
  have HC := Lib.hid (show cnt ⟨u, h, b⟩ i (⟨k, f, t, s, g, m, r, d, z⟩ : frm.Fm) j = (v0 && (v1 && (v2 && decide (¬ t = i)))) by unfold cnt; rw [← h0, ← h1, ← h2])
  have H0 := Lib.hid h0
  have H1 := Lib.hid h1
  have H2 := Lib.hid h2
  have HZ := Lib.hid hz
  clear h0 h1 h2 hz
  go_enter Try.func29, Try.ntmps29
  go_wp2_with fail
  obtain ⟨w0, hW⟩ : ∃ w0, ((w.alloc (.cells #[.int .i64 u, .int .i64 h, .int .i64 b] 25)).alloc (.cells #[.int .i64 k, .int .i64 f, .int .i64 t, .int .i64 s, .int .i64 g, .bool m, .bool r, .int .i64 d, .slice A n cap] 27)).alloc (.cells #[.int .i64 0, .int .i64 0, .int .i64 0] 25) = w0 := ⟨_, rfl⟩
  rw [hW]
  have B0 := Lib.hid (show Below w.heap.size w w0 by rw [← hW]; exact (((Below.refl _ _).alloc (by simp <;> omega) _).alloc (by simp <;> omega) _).alloc (by simp <;> omega) _)
  have X0 := Lib.hid (show Bx 25 w0 (w.heap.size) #[.int .i64 u, .int .i64 h, .int .i64 b] by
      rw [← hW]
      have hh := Bx.made 25 w #[.int .i64 u, .int .i64 h, .int .i64 b]
      exact ((hh.below (below_box _ _)).below (below_box _ _)))
  have M0 := Lib.hid (show Bx 27 w0 (w.heap.size + 1) #[.int .i64 k, .int .i64 f, .int .i64 t, .int .i64 s, .int .i64 g, .bool m, .bool r, .int .i64 d, .slice A n cap] by
      rw [← hW]
      have hh : Bx 27 ((w.alloc (.cells #[.int .i64 u, .int .i64 h, .int .i64 b] 25)).alloc (.cells #[.int .i64 k, .int .i64 f, .int .i64 t, .int .i64 s, .int .i64 g, .bool m, .bool r, .int .i64 d, .slice A n cap] 27)) (w.heap.size + 1) #[.int .i64 k, .int .i64 f, .int .i64 t, .int .i64 s, .int .i64 g, .bool m, .bool r, .int .i64 d, .slice A n cap] := by have hh := Bx.made 27 (w.alloc (.cells #[.int .i64 u, .int .i64 h, .int .i64 b] 25)) #[.int .i64 k, .int .i64 f, .int .i64 t, .int .i64 s, .int .i64 g, .bool m, .bool r, .int .i64 d, .slice A n cap]; simpa using hh
      exact (hh.below (below_box _ _)))
  have Z0 := Lib.hid (show Bx 25 w0 (w.heap.size + 1 + 1) #[.int .i64 0, .int .i64 0, .int .i64 0] by
      rw [← hW]
      have hh : Bx 25 (((w.alloc (.cells #[.int .i64 u, .int .i64 h, .int .i64 b] 25)).alloc (.cells #[.int .i64 k, .int .i64 f, .int .i64 t, .int .i64 s, .int .i64 g, .bool m, .bool r, .int .i64 d, .slice A n cap] 27)).alloc (.cells #[.int .i64 0, .int .i64 0, .int .i64 0] 25)) (w.heap.size + 1 + 1) #[.int .i64 0, .int .i64 0, .int .i64 0] := by have hh := Bx.made 25 ((w.alloc (.cells #[.int .i64 u, .int .i64 h, .int .i64 b] 25)).alloc (.cells #[.int .i64 k, .int .i64 f, .int .i64 t, .int .i64 s, .int .i64 g, .bool m, .bool r, .int .i64 d, .slice A n cap] 27)) #[.int .i64 0, .int .i64 0, .int .i64 0]; simpa using hh
      exact hh)
  clear hW
  go_wp2_with (refine stw.list_load rfl 27 _ rfl (w.heap.size + 1) rfl 27 _ M0.out Try.underlying27 rfl szM ?_)
  (with_reducible refine (fbx.specVf k f t s g m r d A n cap z HZ.out _).mono ?_)
  rintro e w1 hp
  obtain ⟨rfl, hb⟩ := fbx.b_parts H0.out hp
  clear hp
  have B1 := Lib.hid (B0.out.trans (hb.mono B0.out.size))
  have X1 := Lib.hid (X0.out.below hb)
  have M1 := Lib.hid (M0.out.below hb)
  have Z1 := Lib.hid (Z0.out.below hb)
  clear hb  B0 X0 M0 Z0
  cases v0 with
  | true =>
    have cX0 : w1.cell? ⟨w.heap.size, 0, none⟩ = some (.int .i64 u) := X1.out.cell 0
    have cX1 : w1.cell? ⟨w.heap.size, 1, none⟩ = some (.int .i64 h) := X1.out.cell 1
    have cX2 : w1.cell? ⟨w.heap.size, 2, none⟩ = some (.int .i64 b) := X1.out.cell 2
    go_wp2_with fail
    clear cX0 cX1 cX2
    (with_reducible refine (specVr u h b _).mono ?_)
    rintro e w2 hp
    obtain ⟨rfl, hb⟩ := b_parts H1.out hp
    clear hp
    have B2 := Lib.hid (B1.out.trans (hb.mono B1.out.size))
    have X2 := Lib.hid (X1.out.below hb)
    have M2 := Lib.hid (M1.out.below hb)
    have Z2 := Lib.hid (Z1.out.below hb)
    clear hb  B1 X1 M1 Z1
    cases v1 with
    | true =>
      go_wp2_with fail
      (with_reducible refine (l1R j 0 999999998999 v2 _ H2.out).mono ?_)
      rintro e wq ⟨rfl, rfl⟩
      cases v2 with
      | true =>
        by_cases he : t = i
        · have e1 : (t == i) = true := by simp [he]
          have HE := Lib.hid (show hea ⟨u, h, b⟩ i (⟨k, f, t, s, g, m, r, d, z⟩ : frm.Fm) j = ⟨u, h, b⟩ by unfold hea; rw [HC.out, decide_eq_false (fun hh => hh he)]; rfl)
          have cM2 : w2.cell? ⟨w.heap.size + 1, 2, none⟩ = some (.int .i64 t) := M2.out.cell 2
          go_wp2_with (first | (refine stw.list_load rfl 25 _ rfl (w.heap.size) rfl 25 _ X2.out Try.underlying25 rfl szR ?_) | (refine stw.list_store rfl 25 _ _ rfl (w.heap.size + 1 + 1) #[.int .i64 u, .int .i64 h, .int .i64 b] rfl rfl 25 _ Z2.out rfl szR (oneR _ _ _) ?_; intro wz3 hz))
          clear cM2
          have B3 := Lib.hid (hz.on B2.out (by first | omega | (simp <;> omega)))
          have X3 := Lib.hid (hz.keep X2.out (by first | omega | (simp <;> omega)))
          have M3 := Lib.hid (hz.keep M2.out (by first | omega | (simp <;> omega)))
          have Z3 := Lib.hid (hz.box)
          clear hz B2 X2 M2 Z2
          (try simp only [Exit.inBlock, Exit.then])
          refine bodyPost_ret (v := .agg #[.int .i64 u, .int .i64 h, .int .i64 b]) ?_ rfl ?_
          · rw [results_cell1 rfl]
            exact stw.back Z3.out Try.underlying25 rfl szR
          · exact ⟨by rw [HE.out], B3.out⟩
        · have e1 : (t == i) = false := by simp [he]
          obtain ⟨⟨x0, x1, x2⟩, hx⟩ : ∃ x, com ⟨u, h, b⟩ (ann (⟨k, f, t, s, g, m, r, d, z⟩ : frm.Fm) j) = x := ⟨_, rfl⟩
          have HX := Lib.hid hx
          have HE := Lib.hid (show hea ⟨u, h, b⟩ i (⟨k, f, t, s, g, m, r, d, z⟩ : frm.Fm) j = ⟨x0, x1, x2⟩ by unfold hea; rw [HC.out, decide_eq_true he]; exact hx)
          have hd : 0 ≤ d ∧ d ≤ 1000 := by have hV : frm.Vf (⟨k, f, t, s, g, m, r, d, z⟩ : frm.Fm) := of_decide_eq_true H0.out; exact hV.2.2.2.1.2.2
          have hj : 0 ≤ j ∧ j ≤ 999999998999 := of_decide_eq_true H2.out
          have HD := Lib.hid hd
          have HJ := Lib.hid hj
          obtain ⟨p, hp⟩ : ∃ p, j + 1 = p := ⟨_, rfl⟩
          obtain ⟨y, hy⟩ : ∃ y, p + d = y := ⟨_, rfl⟩
          have m1 : IntKind.i64.wrap p = p := IntWalk.i64_in _ (by omega)
          have m2 : IntKind.i64.wrap y = y := IntWalk.i64_in _ (by omega)
          have HP := Lib.hid (show ann (⟨k, f, t, s, g, m, r, d, z⟩ : frm.Fm) j = ⟨y, if k = 4 then t else f, f⟩ by unfold ann; show (⟨j + 1 + d, if k = 4 then t else f, f⟩ : Rv) = _; rw [show j + 1 + d = y by omega])
          clear hx hd hj he
          have cM2 : w2.cell? ⟨w.heap.size + 1, 2, none⟩ = some (.int .i64 t) := M2.out.cell 2
          have cM7 : w2.cell? ⟨w.heap.size + 1, 7, none⟩ = some (.int .i64 d) := M2.out.cell 7
          have cM1 : w2.cell? ⟨w.heap.size + 1, 1, none⟩ = some (.int .i64 f) := M2.out.cell 1
          have cM0 : w2.cell? ⟨w.heap.size + 1, 0, none⟩ = some (.int .i64 k) := M2.out.cell 0
          have cX0 : w2.cell? ⟨w.heap.size, 0, none⟩ = some (.int .i64 u) := X2.out.cell 0
          by_cases hle : y ≤ u
          · have hd : decide (y ≤ u) = true := decide_eq_true hle
            have HQ := Lib.hid (show (⟨x0, x1, x2⟩ : Rv) = ⟨u, h, b⟩ by rw [← HX.out, HP.out]; unfold com; rw [if_neg (by show ¬ u < y; omega)])
            go_wp2_with (first | (refine stw.list_load rfl 25 _ rfl (w.heap.size) rfl 25 _ X2.out Try.underlying25 rfl szR ?_) | (refine stw.list_store rfl 25 _ _ rfl (w.heap.size + 1 + 1) #[.int .i64 u, .int .i64 h, .int .i64 b] rfl rfl 25 _ Z2.out rfl szR (oneR _ _ _) ?_; intro wz3 hz))
            clear cM2 cM7 cM1 cM0 cX0
            have B3 := Lib.hid (hz.on B2.out (by first | omega | (simp <;> omega)))
            have X3 := Lib.hid (hz.keep X2.out (by first | omega | (simp <;> omega)))
            have M3 := Lib.hid (hz.keep M2.out (by first | omega | (simp <;> omega)))
            have Z3 := Lib.hid (hz.box)
            clear hz B2 X2 M2 Z2
            (try simp only [Exit.inBlock, Exit.then])
            refine bodyPost_ret (v := .agg #[.int .i64 u, .int .i64 h, .int .i64 b]) ?_ rfl ?_
            · rw [results_cell1 rfl]
              exact stw.back Z3.out Try.underlying25 rfl szR
            · exact ⟨by rw [HE.out, HQ.out], B3.out⟩
          · have hd : decide (y ≤ u) = false := decide_eq_false hle
            have HQ := Lib.hid (show (⟨x0, x1, x2⟩ : Rv) = ⟨y, if k = 4 then t else f, f⟩ by rw [← HX.out, HP.out]; unfold com; rw [if_pos (by show u < y; omega)])
            go_upto_region 4 with fail
            clear cM2 cM7 cM1 cM0 cX0
            obtain ⟨o, hbb⟩ : ∃ b, w2.heap.size = b := ⟨_, rfl⟩
            generalize hW : w2.alloc (.cells #[.int .i64 y, .int .i64 f, .int .i64 f] 25) = w3
            have LO := Lib.hid (show w.heap.size ≤ o ∧ w.heap.size < o ∧ w.heap.size + 1 < o ∧ w.heap.size + 1 + 1 < o by have h1 := B2.out.size; have h2X := X2.out.lt; have h2M := M2.out.lt; have h2Z := Z2.out.lt; have h3 := hbb; omega)
            have O3 := Lib.hid (show Bx 25 w3 o #[.int .i64 y, .int .i64 f, .int .i64 f] by rw [← hW, ← hbb]; exact Bx.made _ _ _)
            have hb : Below w2.heap.size w2 w3 := by rw [← hW]; exact below_box _ _
            (try rw [hbb])
            clear hW hbb
            have B3 := Lib.hid (B2.out.trans (hb.mono B2.out.size))
            have X3 := Lib.hid (X2.out.below hb)
            have M3 := Lib.hid (M2.out.below hb)
            have Z3 := Lib.hid (Z2.out.below hb)
            clear hb B2 X2 M2 Z2
            have cM0 : w3.cell? ⟨w.heap.size + 1, 0, none⟩ = some (.int .i64 k) := M3.out.cell 0
            have cM2 : w3.cell? ⟨w.heap.size + 1, 2, none⟩ = some (.int .i64 t) := M3.out.cell 2
            have cO1 : w3.cell? ⟨o, 1, none⟩ = some (.int .i64 f) := O3.out.cell 1
            have fO1 : w3.frozen? ⟨o, 1, none⟩ = false := O3.out.free 1
            by_cases he : k = 4
            · have e4 : (k == 4) = true := by simp [he]
              have HR := Lib.hid (show (⟨x0, x1, x2⟩ : Rv) = ⟨y, t, f⟩ by rw [HQ.out, if_pos he])
              go_upto_region 6 with fail
              clear cM0 cM2 cO1 fO1
              have hWW : (w3.setCell ⟨o, 1, none⟩ (.int .i64 t)) = (w3.setCell ⟨o, 1, none⟩ (.int .i64 t)) := rfl
              obtain ⟨w4, hW⟩ : ∃ w9, (w3.setCell ⟨o, 1, none⟩ (.int .i64 t)) = w9 := ⟨_, rfl⟩
              rw [hW]
              clear hWW
              have B4 := Lib.hid (show Below w.heap.size w w4 by rw [← hW]; exact (B3.out.setCell (p := ⟨o, 1, none⟩) (by have hlO := LO.out; first | omega | (simp <;> omega)) _))
              have X4 := Lib.hid (show Bx 25 w4 (w.heap.size) #[.int .i64 u, .int .i64 h, .int .i64 b] by rw [← hW]; exact (X3.out.other (by have hlO := LO.out; first | omega | (simp <;> omega)) _ _))
              have M4 := Lib.hid (show Bx 27 w4 (w.heap.size + 1) #[.int .i64 k, .int .i64 f, .int .i64 t, .int .i64 s, .int .i64 g, .bool m, .bool r, .int .i64 d, .slice A n cap] by rw [← hW]; exact (M3.out.other (by have hlO := LO.out; first | omega | (simp <;> omega)) _ _))
              have Z4 := Lib.hid (show Bx 25 w4 (w.heap.size + 1 + 1) #[.int .i64 0, .int .i64 0, .int .i64 0] by rw [← hW]; exact (Z3.out.other (by have hlO := LO.out; first | omega | (simp <;> omega)) _ _))
              have O4 := Lib.hid (show Bx 25 w4 (o) #[.int .i64 y, .int .i64 t, .int .i64 f] by rw [← hW]; exact (O3.out.set 1 _))
              clear hW B3 X3 M3 Z3 O3
              go_wp2_with (first | (refine stw.list_load rfl 25 _ rfl (o) rfl 25 _ O4.out Try.underlying25 rfl szR ?_) | (refine stw.list_store rfl 25 _ _ rfl (w.heap.size + 1 + 1) #[.int .i64 y, .int .i64 t, .int .i64 f] rfl rfl 25 _ Z4.out rfl szR (oneR _ _ _) ?_; intro wz5 hz))
              have B5 := Lib.hid (hz.on B4.out (by have hlO := LO.out; first | omega | (simp <;> omega)))
              have X5 := Lib.hid (hz.keep X4.out (by have hlO := LO.out; first | omega | (simp <;> omega)))
              have M5 := Lib.hid (hz.keep M4.out (by have hlO := LO.out; first | omega | (simp <;> omega)))
              have Z5 := Lib.hid (hz.box)
              have O5 := Lib.hid (hz.keep O4.out (by have hlO := LO.out; first | omega | (simp <;> omega)))
              clear hz B4 X4 M4 Z4 O4
              (try simp only [Exit.inBlock, Exit.then])
              refine bodyPost_ret (v := .agg #[.int .i64 y, .int .i64 t, .int .i64 f]) ?_ rfl ?_
              · rw [results_cell1 rfl]
                exact stw.back Z5.out Try.underlying25 rfl szR
              · exact ⟨by rw [HE.out, HR.out], B5.out⟩
            · have e4 : (k == 4) = false := by simp [he]
              have HR := Lib.hid (show (⟨x0, x1, x2⟩ : Rv) = ⟨y, f, f⟩ by rw [HQ.out, if_neg he])
              go_wp2_with (first | (refine stw.list_load rfl 25 _ rfl (o) rfl 25 _ O3.out Try.underlying25 rfl szR ?_) | (refine stw.list_store rfl 25 _ _ rfl (w.heap.size + 1 + 1) #[.int .i64 y, .int .i64 f, .int .i64 f] rfl rfl 25 _ Z3.out rfl szR (oneR _ _ _) ?_; intro wz4 hz))
              clear cM0 cM2 cO1 fO1
              have B4 := Lib.hid (hz.on B3.out (by have hlO := LO.out; first | omega | (simp <;> omega)))
              have X4 := Lib.hid (hz.keep X3.out (by have hlO := LO.out; first | omega | (simp <;> omega)))
              have M4 := Lib.hid (hz.keep M3.out (by have hlO := LO.out; first | omega | (simp <;> omega)))
              have Z4 := Lib.hid (hz.box)
              have O4 := Lib.hid (hz.keep O3.out (by have hlO := LO.out; first | omega | (simp <;> omega)))
              clear hz B3 X3 M3 Z3 O3
              (try simp only [Exit.inBlock, Exit.then])
              refine bodyPost_ret (v := .agg #[.int .i64 y, .int .i64 f, .int .i64 f]) ?_ rfl ?_
              · rw [results_cell1 rfl]
                exact stw.back Z4.out Try.underlying25 rfl szR
              · exact ⟨by rw [HE.out, HR.out], B4.out⟩
      | false =>
        have HE := Lib.hid (show hea ⟨u, h, b⟩ i (⟨k, f, t, s, g, m, r, d, z⟩ : frm.Fm) j = ⟨u, h, b⟩ by unfold hea; rw [HC.out]; rfl)
        go_wp2_with (first | (refine stw.list_load rfl 25 _ rfl (w.heap.size) rfl 25 _ X2.out Try.underlying25 rfl szR ?_) | (refine stw.list_store rfl 25 _ _ rfl (w.heap.size + 1 + 1) #[.int .i64 u, .int .i64 h, .int .i64 b] rfl rfl 25 _ Z2.out rfl szR (oneR _ _ _) ?_; intro wz3 hz))
        have B3 := Lib.hid (hz.on B2.out (by first | omega | (simp <;> omega)))
        have X3 := Lib.hid (hz.keep X2.out (by first | omega | (simp <;> omega)))
        have M3 := Lib.hid (hz.keep M2.out (by first | omega | (simp <;> omega)))
        have Z3 := Lib.hid (hz.box)
        clear hz B2 X2 M2 Z2
        (try simp only [Exit.inBlock, Exit.then])
        refine bodyPost_ret (v := .agg #[.int .i64 u, .int .i64 h, .int .i64 b]) ?_ rfl ?_
        · rw [results_cell1 rfl]
          exact stw.back Z3.out Try.underlying25 rfl szR
        · exact ⟨by rw [HE.out], B3.out⟩
    | false =>
      have HE := Lib.hid (show hea ⟨u, h, b⟩ i (⟨k, f, t, s, g, m, r, d, z⟩ : frm.Fm) j = ⟨u, h, b⟩ by unfold hea; rw [HC.out]; rfl)
      go_wp2_with (first | (refine stw.list_load rfl 25 _ rfl (w.heap.size) rfl 25 _ X2.out Try.underlying25 rfl szR ?_) | (refine stw.list_store rfl 25 _ _ rfl (w.heap.size + 1 + 1) #[.int .i64 u, .int .i64 h, .int .i64 b] rfl rfl 25 _ Z2.out rfl szR (oneR _ _ _) ?_; intro wz3 hz))
      have B3 := Lib.hid (hz.on B2.out (by first | omega | (simp <;> omega)))
      have X3 := Lib.hid (hz.keep X2.out (by first | omega | (simp <;> omega)))
      have M3 := Lib.hid (hz.keep M2.out (by first | omega | (simp <;> omega)))
      have Z3 := Lib.hid (hz.box)
      clear hz B2 X2 M2 Z2
      (try simp only [Exit.inBlock, Exit.then])
      refine bodyPost_ret (v := .agg #[.int .i64 u, .int .i64 h, .int .i64 b]) ?_ rfl ?_
      · rw [results_cell1 rfl]
        exact stw.back Z3.out Try.underlying25 rfl szR
      · exact ⟨by rw [HE.out], B3.out⟩
  | false =>
    have HE := Lib.hid (show hea ⟨u, h, b⟩ i (⟨k, f, t, s, g, m, r, d, z⟩ : frm.Fm) j = ⟨u, h, b⟩ by unfold hea; rw [HC.out]; rfl)
    go_wp2_with (first | (refine stw.list_load rfl 25 _ rfl (w.heap.size) rfl 25 _ X1.out Try.underlying25 rfl szR ?_) | (refine stw.list_store rfl 25 _ _ rfl (w.heap.size + 1 + 1) #[.int .i64 u, .int .i64 h, .int .i64 b] rfl rfl 25 _ Z1.out rfl szR (oneR _ _ _) ?_; intro wz2 hz))
    have B2 := Lib.hid (hz.on B1.out (by first | omega | (simp <;> omega)))
    have X2 := Lib.hid (hz.keep X1.out (by first | omega | (simp <;> omega)))
    have M2 := Lib.hid (hz.keep M1.out (by first | omega | (simp <;> omega)))
    have Z2 := Lib.hid (hz.box)
    clear hz B1 X1 M1 Z1
    (try simp only [Exit.inBlock, Exit.then])
    refine bodyPost_ret (v := .agg #[.int .i64 u, .int .i64 h, .int .i64 b]) ?_ rfl ?_
    · rw [results_cell1 rfl]
      exact stw.back Z2.out Try.underlying25 rfl szR
    · exact ⟨by rw [HE.out], B2.out⟩
end Go.Proofs.Ytebbnopconbnlaa.bx
