/- The first backoff of a category: program and specification. Condition: seeds are numbers of the machine. -/
import Derived.Test.YtkfkfejjhfkobaaDoorBo4
import Derived.Test.YtkfkfejjhfkobaaDoorAc4
namespace Go.Proofs.YtkfkfejjhfkobaaDoor.bx
open Go.RowKit sl harn rng acm bom stw
set_option linter.unusedVariables false
set_option linter.unusedSimpArgs false

/-- The first backoff of a category. -/
def fst (k s : Int) : Bo := ⟨(pvs k).1, (pvs k).2.1, (pvs k).2.2.1, (pvs k).2.2.2, (pvs k).2.1, if 0 ≤ k ∧ k ≤ 3 then wt s 0 (pvs k).2.1 else 0, 0, 0, if 0 ≤ k ∧ k ≤ 3 then 1 else 0⟩
theorem fst_vb {k s : Int} (h : 0 ≤ k ∧ k ≤ 3) : Vb (fst k s) := by
  have h1 : Vp (pvs k).1 (pvs k).2.1 (pvs k).2.2.1 (pvs k).2.2.2 := by
    rcases four h with rfl | rfl | rfl | rfl <;> exact ⟨by decide, by kernel_rfl, by kernel_rfl, by decide, by decide⟩
  have h2 := win_in h1.low
  have h3 := h1.aifs
  refine ⟨h1, h1.low, ⟨Int.le_refl _, h1.le⟩, ?_, ⟨Int.le_refl _, show (0 : Int) ≤ (pvs k).1 by omega⟩, ⟨show (0 : Int) ≤ 0 by decide, show (0 : Int) ≤ 7 by decide⟩, ?_⟩
  · show 0 ≤ (if 0 ≤ k ∧ k ≤ 3 then wt s 0 (pvs k).2.1 else 0) ∧ (if 0 ≤ k ∧ k ≤ 3 then wt s 0 (pvs k).2.1 else 0) ≤ (pvs k).2.1
    rw [if_pos h]; exact wt_in s 0 _ (by omega)
  · show (0 : Int) ≤ (if 0 ≤ k ∧ k ≤ 3 then 1 else 0) ∧ (if 0 ≤ k ∧ k ≤ 3 then (1 : Int) else 0) ≤ 1000000000000
    rw [if_pos h]; omega
theorem fst_yes {k s : Int} (h : 0 ≤ k ∧ k ≤ 3) {q0 q1 q2 q3 u : Int} (hq : pvs k = (q0, q1, q2, q3)) (hu : wt s 0 q1 = u) : fst k s = ⟨q0, q1, q2, q3, q1, u, 0, 0, 1⟩ := by
  unfold fst; rw [hq, if_pos h, if_pos h]; simp only; rw [hu]
theorem fst_no {k s : Int} (h : ¬ (0 ≤ k ∧ k ≤ 3)) : fst k s = ⟨0, 0, 0, 0, 0, 0, 0, 0, 0⟩ := by
  unfold fst; rw [pvs_out h, if_neg h, if_neg h]
theorem aifs_ne {k q0 q1 q2 q3 : Int} (h : 0 ≤ k ∧ k ≤ 3) (hq : pvs k = (q0, q1, q2, q3)) : (q0 == 0) = false := by
  rcases four h with rfl | rfl | rfl | rfl <;> (have e : q0 = _ := (congrArg Prod.fst hq).symm; rw [e]; rfl)
set_option maxRecDepth 100000 in
set_option maxHeartbeats 4000000 in
theorem specNb (k s : Int) (hs : (Lit.int .i64 s).wf = true) (w : World) :
    Calls Tryd.prog 15 #[.int .i64 k, .int .i64 s] w (OPost (fst k s) w) := by
  have HS := Lib.hid hs
  clear hs
  have HZ0 := Lib.hid (show (Lit.int .i64 0).wf = true from rfl)
  go_enter Tryd.func15, Tryd.ntmps15
  go_wp2_with fail
  obtain ⟨w0, hW⟩ : ∃ w0, w.alloc (.cells #[.int .i64 0, .int .i64 0, .int .i64 0, .int .i64 0, .int .i64 0, .int .i64 0, .int .i64 0, .int .i64 0, .int .i64 0] 28) = w0 := ⟨_, rfl⟩
  rw [hW]
  have B0 := Lib.hid (show Below w.heap.size w w0 by rw [← hW]; exact (Below.refl _ _).alloc (by simp <;> omega) _)
  have Z0 := Lib.hid (show Bx 28 w0 (w.heap.size) #[.int .i64 0, .int .i64 0, .int .i64 0, .int .i64 0, .int .i64 0, .int .i64 0, .int .i64 0, .int .i64 0, .int .i64 0] by
    rw [← hW]
    have hh := Bx.made 28 w #[.int .i64 0, .int .i64 0, .int .i64 0, .int .i64 0, .int .i64 0, .int .i64 0, .int .i64 0, .int .i64 0, .int .i64 0]
    exact hh)
  clear hW
  by_cases hr : 0 ≤ k ∧ k ≤ 3
  · obtain ⟨⟨q0, q1, q2, q3⟩, hq⟩ : ∃ q, pvs k = q := ⟨_, rfl⟩
    obtain ⟨u, hu⟩ : ∃ u, wt s 0 q1 = u := ⟨_, rfl⟩
    have HE := Lib.hid (fst_yes (s := s) hr hq hu)
    have HU := Lib.hid hu
    have e0 := aifs_ne hr hq
    (with_reducible refine (specPar k _).mono ?_)
    rw [hq]
    rintro e w1 ⟨rfl, hb⟩
    have B1 := Lib.hid (B0.out.trans (hb.mono B0.out.size))
    have Z1 := Lib.hid (Z0.out.below hb)
    clear hb B0 Z0
    clear hq hu hr
    obtain ⟨b2, hbb⟩ : ∃ b, w1.heap.size = b := ⟨_, rfl⟩
    go_wp2_with fail
    generalize hW : w1.alloc (.cells #[.int .i64 q0, .int .i64 q1, .int .i64 q2, .int .i64 q3] 26) = w2
    have B2 := Lib.hid (show Below w.heap.size w w2 by rw [← hW]; exact B1.out.alloc B1.out.size _)
    have Z2 := Lib.hid (show Bx 28 w2 (w.heap.size) #[.int .i64 0, .int .i64 0, .int .i64 0, .int .i64 0, .int .i64 0, .int .i64 0, .int .i64 0, .int .i64 0, .int .i64 0] by rw [← hW]; exact Z1.out.below (below_box _ _))
    have A2 := Lib.hid (show Bx 26 w2 b2 #[.int .i64 q0, .int .i64 q1, .int .i64 q2, .int .i64 q3] by rw [← hW, ← hbb]; exact Bx.made _ _ _)
    have LA := Lib.hid (show w.heap.size ≤ b2 ∧ w.heap.size < b2 by have h1 := B1.out.size; have h2Z := Z1.out.lt; have h3 := hbb; omega)
    (try rw [hbb])
    clear hW hbb B1 Z1
    clear e0
    refine reg.region_tail reg.Bel 8 20 [some [], some [], some [(1, 13)], some [], some [], some [(4, 16)], some [(3, 15), (5, 17)], some [(0, 12), (2, 14), (6, 18)], none] [(0, 12), (1, 13), (2, 14), (3, 15), (4, 16), (5, 17), (6, 18), (7, 19)]
      (fun w' => Below w.heap.size w w' ∧ Bx 28 w' (w.heap.size) #[.int .i64 0, .int .i64 0, .int .i64 0, .int .i64 0, .int .i64 0, .int .i64 0, .int .i64 0, .int .i64 0, .int .i64 0] ∧ Bx 26 w' (b2) #[.int .i64 q0, .int .i64 q1, .int .i64 q2, .int .i64 q3])
      (reg.rl [reg.is (.agg #[.int .i64 q0, .int .i64 q1, .int .i64 q2, .int .i64 q3]), reg.is (.pointer (some ⟨b2, 1, none⟩)), reg.is (.int .i64 q1), reg.is (.int .i64 s), reg.is (.pointer (some ⟨b2, 1, none⟩)), reg.is (.int .i64 q1), reg.is (.int .i64 u), reg.is (.agg #[.int .i64 q0, .int .i64 q1, .int .i64 q2, .int .i64 q3, .int .i64 q1, .int .i64 u, .int .i64 0, .int .i64 0, .int .i64 1]), reg.free])
      (by kernel_rfl) rfl (by kernel_rfl) (by kernel_rfl) rfl
      (fun w1 w2 hc hb => ⟨hc.1.trans (hb.mono hc.1.size), hc.2.1.below hb, hc.2.2.below hb⟩) (reg.rl_keep _) (⟨own.below_drew B2.out, Z2.out.same rfl, A2.out.same rfl⟩) (by kernel_rfl) ⟨?_, ?_, ?_, ?_, ?_, ?_, ?_, ?_, trivial⟩ ?_
    · refine fun w8 hc  K hK => ?_
      (try simp only [Act.put, List.setIfInBounds_toArray, List.set_cons_zero, List.set_cons_succ])
      refine step_load rfl 26 _ rfl (b2) rfl 26 _ hc.2.2 Tryd.underlying26 rfl szP ?_
      exact hK _ _ rfl (Below.refl _ _)
    · refine fun w8 hc  K hK => ?_
      (try simp only [Act.put, List.setIfInBounds_toArray, List.set_cons_zero, List.set_cons_succ])
      go_simp
      exact hK (.pointer (some ⟨b2, 1, none⟩)) _ rfl (Below.refl _ _)
    · refine fun w8 hc v1 h1 K hK => ?_
      obtain rfl : v1 = .pointer (some ⟨b2, 1, none⟩) := h1
      (try simp only [Act.put, List.setIfInBounds_toArray, List.set_cons_zero, List.set_cons_succ])
      have c0 : w8.cell? ⟨b2, 1, none⟩ = some (.int .i64 q1) := hc.2.2.cell 1
      go_simp
      exact hK (.int .i64 q1) _ rfl (Below.refl _ _)
    · refine fun w8 hc  K hK => ?_
      (try simp only [Act.put, List.setIfInBounds_toArray, List.set_cons_zero, List.set_cons_succ])
      go_simp
      exact hK (.int .i64 s) _ rfl (Below.refl _ _)
    · refine fun w8 hc  K hK => ?_
      (try simp only [Act.put, List.setIfInBounds_toArray, List.set_cons_zero, List.set_cons_succ])
      go_simp
      exact hK (.pointer (some ⟨b2, 1, none⟩)) _ rfl (Below.refl _ _)
    · refine fun w8 hc v4 h4 K hK => ?_
      obtain rfl : v4 = .pointer (some ⟨b2, 1, none⟩) := h4
      (try simp only [Act.put, List.setIfInBounds_toArray, List.set_cons_zero, List.set_cons_succ])
      have c0 : w8.cell? ⟨b2, 1, none⟩ = some (.int .i64 q1) := hc.2.2.cell 1
      go_simp
      exact hK (.int .i64 q1) _ rfl (Below.refl _ _)
    · refine fun w8 hc v3 h3 v5 h5 K hK => ?_
      obtain rfl : v3 = .int .i64 s := h3
      obtain rfl : v5 = .int .i64 q1 := h5
      (try simp only [Act.put, List.setIfInBounds_toArray, List.set_cons_zero, List.set_cons_succ])
      go_simp
      (with_reducible refine (specRw s 0 q1 HS.out HZ0.out _).mono ?_)
      rintro e w3 hp
      obtain ⟨rfl, hb⟩ := n_parts HU.out hp
      exact hK _ _ rfl hb
    · refine fun w8 hc v0 h0 v2 h2 v6 h6 K hK => ?_
      obtain rfl : v0 = .agg #[.int .i64 q0, .int .i64 q1, .int .i64 q2, .int .i64 q3] := h0
      obtain rfl : v2 = .int .i64 q1 := h2
      obtain rfl : v6 = .int .i64 u := h6
      (try simp only [Act.put, List.setIfInBounds_toArray, List.set_cons_zero, List.set_cons_succ])
      go_simp
      exact hK (.agg #[.int .i64 q0, .int .i64 q1, .int .i64 q2, .int .i64 q3, .int .i64 q1, .int .i64 u, .int .i64 0, .int .i64 0, .int .i64 1]) _ rfl (Below.refl _ _)
    refine fun w9 hc v0 h0 v1 h1 v2 h2 v3 h3 v4 h4 v5 h5 v6 h6 v7 h7 => ?_
    obtain rfl : v0 = .agg #[.int .i64 q0, .int .i64 q1, .int .i64 q2, .int .i64 q3] := h0
    obtain rfl : v1 = .pointer (some ⟨b2, 1, none⟩) := h1
    obtain rfl : v2 = .int .i64 q1 := h2
    obtain rfl : v3 = .int .i64 s := h3
    obtain rfl : v4 = .pointer (some ⟨b2, 1, none⟩) := h4
    obtain rfl : v5 = .int .i64 q1 := h5
    obtain rfl : v6 = .int .i64 u := h6
    obtain rfl : v7 = .agg #[.int .i64 q0, .int .i64 q1, .int .i64 q2, .int .i64 q3, .int .i64 q1, .int .i64 u, .int .i64 0, .int .i64 0, .int .i64 1] := h7
    (try simp only [reg.Obs])
    (try simp only [Act.put, List.setIfInBounds_toArray, List.set_cons_zero, List.set_cons_succ])
    simp only [List.drop_succ_cons, List.drop_zero]
    have B3 := Lib.hid hc.1
    have Z3 := Lib.hid hc.2.1
    have A3 := Lib.hid hc.2.2
    clear hc B2 Z2 A2
    refine list_store rfl 28 _ _ rfl (w.heap.size) #[.int .i64 q0, .int .i64 q1, .int .i64 q2, .int .i64 q3, .int .i64 q1, .int .i64 u, .int .i64 0, .int .i64 0, .int .i64 1] rfl rfl 28 _ Z3.out rfl szB (one9 _ _ _ _ _ _ _ _ _) ?_
    intro wz hz
    (try simp only [Act.put])
    have B4 := Lib.hid (hz.on B3.out (by have hlA := LA.out; first | omega | (simp <;> omega)))
    have Z4 := Lib.hid (hz.box)
    have A4 := Lib.hid (hz.keep A3.out (by have hlA := LA.out; first | omega | (simp <;> omega)))
    clear hz B3 Z3 A3
    (try go_wp2_with fail)
    (try simp only [Exit.inBlock, Exit.then])
    refine bodyPost_ret (v := .agg #[.int .i64 q0, .int .i64 q1, .int .i64 q2, .int .i64 q3, .int .i64 q1, .int .i64 u, .int .i64 0, .int .i64 0, .int .i64 1]) ?_ rfl ?_
    · rw [results_cell1 rfl]
      exact back Z4.out Tryd.underlying28 rfl szB
    · exact ⟨by rw [HE.out], B4.out⟩
  · have HE := Lib.hid (fst_no (s := s) hr)
    (with_reducible refine (specPar k _).mono ?_)
    rw [pvs_out hr]
    rintro e w1 ⟨rfl, hb⟩
    have B1 := Lib.hid (B0.out.trans (hb.mono B0.out.size))
    have Z1 := Lib.hid (Z0.out.below hb)
    clear hb B0 Z0
    clear hr
    have Z1b := Lib.hid (show Bx 28 (w1.alloc (.cells #[.int .i64 0, .int .i64 0, .int .i64 0, .int .i64 0] 26)) w.heap.size #[.int .i64 0, .int .i64 0, .int .i64 0, .int .i64 0, .int .i64 0, .int .i64 0, .int .i64 0, .int .i64 0, .int .i64 0] from Z1.out.below (below_box _ _))
    have B1b := Lib.hid (show Below w.heap.size w (w1.alloc (.cells #[.int .i64 0, .int .i64 0, .int .i64 0, .int .i64 0] 26)) from B1.out.alloc B1.out.size _)
    go_wp2_with (refine list_store rfl 28 _ _ rfl (w.heap.size) #[.int .i64 0, .int .i64 0, .int .i64 0, .int .i64 0, .int .i64 0, .int .i64 0, .int .i64 0, .int .i64 0, .int .i64 0] rfl rfl 28 _ Z1b.out rfl szB (one9 _ _ _ _ _ _ _ _ _) ?_; intro wz hz)
    (try simp only [Exit.inBlock, Exit.then])
    refine bodyPost_ret (v := .agg #[.int .i64 0, .int .i64 0, .int .i64 0, .int .i64 0, .int .i64 0, .int .i64 0, .int .i64 0, .int .i64 0, .int .i64 0]) ?_ rfl ?_
    · rw [results_cell1 rfl]
      exact back hz.box Tryd.underlying28 rfl szB
    · exact ⟨by rw [HE.out], (hz.on B1b.out (Nat.le_refl _))⟩
set_option maxRecDepth 100000 in
set_option maxHeartbeats 4000000 in
theorem implNb (k s : Int) (hs : (Lit.int .i64 s).wf = true) (w : World) (ht : Tbl w) :
    Calls Tryd.prog 7 #[.int .i64 k, .int .i64 s] w (OPost (fst k s) w) := by
  have HS := Lib.hid hs
  have HT := Lib.hid ht
  clear hs ht
  go_enter Tryd.func7, Tryd.ntmps7
  go_wp2_with fail
  obtain ⟨w0, hW⟩ : ∃ w0, w.alloc (.cells #[.int .i64 0, .int .i64 0, .int .i64 0, .int .i64 0, .int .i64 0, .int .i64 0, .int .i64 0, .int .i64 0, .int .i64 0] 28) = w0 := ⟨_, rfl⟩
  rw [hW]
  have B0 := Lib.hid (show Below w.heap.size w w0 by rw [← hW]; exact (Below.refl _ _).alloc (by simp <;> omega) _)
  have Z0 := Lib.hid (show Bx 28 w0 (w.heap.size) #[.int .i64 0, .int .i64 0, .int .i64 0, .int .i64 0, .int .i64 0, .int .i64 0, .int .i64 0, .int .i64 0, .int .i64 0] by
    rw [← hW]
    have hh := Bx.made 28 w #[.int .i64 0, .int .i64 0, .int .i64 0, .int .i64 0, .int .i64 0, .int .i64 0, .int .i64 0, .int .i64 0, .int .i64 0]
    exact hh)
  clear hW
  have T0 := Lib.hid (HT.out.below B0.out)
  clear HT
  by_cases hr : 0 ≤ k ∧ k ≤ 3
  · have HD := Lib.hid (decide_eq_true hr)
    obtain ⟨⟨q0, q1, q2, q3⟩, hq⟩ : ∃ q, pvs k = q := ⟨_, rfl⟩
    obtain ⟨u, hu⟩ : ∃ u, wt s 0 q1 = u := ⟨_, rfl⟩
    have HE := Lib.hid (fst_yes (s := s) hr hq hu)
    have HR := Lib.hid (show red ⟨q0, q1, q2, q3, 0, 0, 0, 0, 0⟩ s q1 0 = ⟨q0, q1, q2, q3, q1, u, 0, 0, 1⟩ by unfold red; show (⟨q0, q1, q2, q3, q1, wt s 0 q1, 0, 0, mn (0 + 1) 1000000000000⟩ : Bo) = _; rw [hu]; rfl)
    have HQ := Lib.hid hq
    clear hr hu hq
    (with_reducible refine (isCat k true _ HD.out).mono ?_)
    rintro e wq ⟨rfl, rfl⟩
    go_wp2_with fail
    (with_reducible refine (implPar k _ T0.out).mono ?_)
    rw [HQ.out]
    rintro e w1 ⟨rfl, hb⟩
    have T1 := Lib.hid (T0.out.below hb)
    have B1 := Lib.hid (B0.out.trans (hb.mono B0.out.size))
    have Z1 := Lib.hid (Z0.out.below hb)
    clear hb B0 Z0
    clear HQ T0
    obtain ⟨b2, hbb⟩ : ∃ b, w1.heap.size = b := ⟨_, rfl⟩
    go_wp2_with fail
    generalize hW : w1.alloc (.cells #[.int .i64 q0, .int .i64 q1, .int .i64 q2, .int .i64 q3] 26) = w2
    have B2 := Lib.hid (show Below w.heap.size w w2 by rw [← hW]; exact B1.out.alloc B1.out.size _)
    have Z2 := Lib.hid (show Bx 28 w2 (w.heap.size) #[.int .i64 0, .int .i64 0, .int .i64 0, .int .i64 0, .int .i64 0, .int .i64 0, .int .i64 0, .int .i64 0, .int .i64 0] by rw [← hW]; exact Z1.out.below (below_box _ _))
    have A2 := Lib.hid (show Bx 26 w2 b2 #[.int .i64 q0, .int .i64 q1, .int .i64 q2, .int .i64 q3] by rw [← hW, ← hbb]; exact Bx.made _ _ _)
    have LA := Lib.hid (show w.heap.size ≤ b2 ∧ w.heap.size < b2 by have h1 := B1.out.size; have h2Z := Z1.out.lt; have h3 := hbb; omega)
    (try rw [hbb])
    clear hW hbb B1 Z1
    clear T1
    (with_reducible refine (implRd q0 q1 q2 q3 0 0 0 0 0 s q1 HS.out ⟨by decide, by decide⟩ _).mono ?_)
    rintro e w3 hp
    obtain ⟨rfl, hb⟩ := o_parts HR.out hp
    clear hp
    have B3 := Lib.hid (B2.out.trans (hb.mono B2.out.size))
    have Z3 := Lib.hid (Z2.out.below hb)
    have A3 := Lib.hid (A2.out.below hb)
    clear hb B2 Z2 A2
    go_wp2_with (refine list_store rfl 28 _ _ rfl (w.heap.size) #[.int .i64 q0, .int .i64 q1, .int .i64 q2, .int .i64 q3, .int .i64 q1, .int .i64 u, .int .i64 0, .int .i64 0, .int .i64 1] rfl rfl 28 _ Z3.out rfl szB (one9 _ _ _ _ _ _ _ _ _) ?_; intro wz hz)
    (try simp only [Exit.inBlock, Exit.then])
    refine bodyPost_ret (v := .agg #[.int .i64 q0, .int .i64 q1, .int .i64 q2, .int .i64 q3, .int .i64 q1, .int .i64 u, .int .i64 0, .int .i64 0, .int .i64 1]) ?_ rfl ?_
    · rw [results_cell1 rfl]
      exact back hz.box Tryd.underlying28 rfl szB
    · exact ⟨by rw [HE.out], (hz.on B3.out (Nat.le_refl _))⟩
  · have HD := Lib.hid (decide_eq_false hr)
    have HE := Lib.hid (fst_no (s := s) hr)
    clear hr
    (with_reducible refine (isCat k false _ HD.out).mono ?_)
    rintro e wq ⟨rfl, rfl⟩
    go_wp2_with (refine list_store rfl 28 _ _ rfl (w.heap.size) #[.int .i64 0, .int .i64 0, .int .i64 0, .int .i64 0, .int .i64 0, .int .i64 0, .int .i64 0, .int .i64 0, .int .i64 0] rfl rfl 28 _ Z0.out rfl szB (one9 _ _ _ _ _ _ _ _ _) ?_; intro wz hz)
    (try simp only [Exit.inBlock, Exit.then])
    refine bodyPost_ret (v := .agg #[.int .i64 0, .int .i64 0, .int .i64 0, .int .i64 0, .int .i64 0, .int .i64 0, .int .i64 0, .int .i64 0, .int .i64 0]) ?_ rfl ?_
    · rw [results_cell1 rfl]
      exact back hz.box Tryd.underlying28 rfl szB
    · exact ⟨by rw [HE.out], (hz.on B0.out (Nat.le_refl _))⟩
end Go.Proofs.YtkfkfejjhfkobaaDoor.bx
