/- A backoff drawn anew, program and specification; what remains of a used-up one. Condition: seeds are numbers of the machine, the draws are in their range. -/
import Derived.Test.YtkfkfejjhfkobaaDoorBo1
import Derived.Test.YtkfkfejjhfkobaaDoorStw
namespace Go.Proofs.YtkfkfejjhfkobaaDoor.bx
open Go.RowKit sl harn rng acm bom stw
set_option linter.unusedVariables false

theorem szB : (Tryd.prog.info? 28).map (·.size) = some 9 := by kernel_rfl
theorem one9 (a b c d x t j r n : Int) : (#[.int .i64 a, .int .i64 b, .int .i64 c, .int .i64 d, .int .i64 x, .int .i64 t, .int .i64 j, .int .i64 r, .int .i64 n] : Array Value).all (·.oneCell') = true :=
  all_oneCell_toArray (cs := [.int .i64 a, .int .i64 b, .int .i64 c, .int .i64 d, .int .i64 x, .int .i64 t, .int .i64 j, .int .i64 r, .int .i64 n]) (by intro v hv; simp only [List.mem_cons, List.not_mem_nil, or_false] at hv; rcases hv with rfl | rfl | rfl | rfl | rfl | rfl | rfl | rfl | rfl <;> rfl)
set_option maxRecDepth 100000 in
set_option maxHeartbeats 4000000 in
theorem implRd (a b c d x t j r n s y : Int) (hs : (Lit.int .i64 s).wf = true) (hn : 0 ≤ n ∧ n ≤ 1000000000000) (w : World) :
    Calls Tryd.prog 19 #[.agg #[.int .i64 a, .int .i64 b, .int .i64 c, .int .i64 d, .int .i64 x, .int .i64 t, .int .i64 j, .int .i64 r, .int .i64 n], .int .i64 s, .int .i64 y] w (OPost (red ⟨a, b, c, d, x, t, j, r, n⟩ s y r) w) := by
  have HS := Lib.hid hs
  have HW := Lib.hid (show (Lit.int .i64 n).wf = true from WalkArith.wf_i64 (by omega))
  obtain ⟨u, hu⟩ : ∃ u, wt s n y = u := ⟨_, rfl⟩
  have HU := Lib.hid hu
  obtain ⟨p, hp⟩ : ∃ p, n + 1 = p := ⟨_, rfl⟩
  have m1 : IntKind.i64.wrap p = p := IntWalk.i64_in _ (by omega)
  obtain ⟨m, hm⟩ : ∃ m, mn p 1000000000000 = m := ⟨_, rfl⟩
  have HM := Lib.hid hm
  have HE := Lib.hid (show red ⟨a, b, c, d, x, t, j, r, n⟩ s y r = ⟨a, b, c, d, y, u, 0, r, m⟩ by unfold red; show (⟨a, b, c, d, y, wt s n y, 0, r, mn (n + 1) 1000000000000⟩ : Bo) = _; rw [hu, hp, hm])
  clear hs hu hm hn
  go_enter Tryd.func19, Tryd.ntmps19
  go_wp2_with fail
  obtain ⟨w0, hW⟩ : ∃ w0, (w.alloc (.cells #[.int .i64 a, .int .i64 b, .int .i64 c, .int .i64 d, .int .i64 y, .int .i64 t, .int .i64 j, .int .i64 r, .int .i64 n] 28)).alloc (.cells #[.int .i64 0, .int .i64 0, .int .i64 0, .int .i64 0, .int .i64 0, .int .i64 0, .int .i64 0, .int .i64 0, .int .i64 0] 28) = w0 := ⟨_, rfl⟩
  rw [hW]
  have B0 := Lib.hid (show Below w.heap.size w w0 by rw [← hW]; exact ((Below.refl _ _).alloc (by simp <;> omega) _).alloc (by simp <;> omega) _)
  have X0 := Lib.hid (show Bx 28 w0 (w.heap.size) #[.int .i64 a, .int .i64 b, .int .i64 c, .int .i64 d, .int .i64 y, .int .i64 t, .int .i64 j, .int .i64 r, .int .i64 n] by
    rw [← hW]
    have hh := Bx.made 28 w #[.int .i64 a, .int .i64 b, .int .i64 c, .int .i64 d, .int .i64 y, .int .i64 t, .int .i64 j, .int .i64 r, .int .i64 n]
    exact (hh.below (below_box _ _)))
  have Z0 := Lib.hid (show Bx 28 w0 (w.heap.size + 1) #[.int .i64 0, .int .i64 0, .int .i64 0, .int .i64 0, .int .i64 0, .int .i64 0, .int .i64 0, .int .i64 0, .int .i64 0] by
    rw [← hW]
    have hh : Bx 28 ((w.alloc (.cells #[.int .i64 a, .int .i64 b, .int .i64 c, .int .i64 d, .int .i64 y, .int .i64 t, .int .i64 j, .int .i64 r, .int .i64 n] 28)).alloc (.cells #[.int .i64 0, .int .i64 0, .int .i64 0, .int .i64 0, .int .i64 0, .int .i64 0, .int .i64 0, .int .i64 0, .int .i64 0] 28)) (w.heap.size + 1) #[.int .i64 0, .int .i64 0, .int .i64 0, .int .i64 0, .int .i64 0, .int .i64 0, .int .i64 0, .int .i64 0, .int .i64 0] := by have hh := Bx.made 28 (w.alloc (.cells #[.int .i64 a, .int .i64 b, .int .i64 c, .int .i64 d, .int .i64 y, .int .i64 t, .int .i64 j, .int .i64 r, .int .i64 n] 28)) #[.int .i64 0, .int .i64 0, .int .i64 0, .int .i64 0, .int .i64 0, .int .i64 0, .int .i64 0, .int .i64 0, .int .i64 0]; simpa using hh
    exact hh)
  clear hW
  (with_reducible refine (implRw s n y HS.out HW.out _).mono ?_)
  rintro e w1 hp
  obtain ⟨rfl, hb⟩ := n_parts HU.out hp
  clear hp
  have B1 := Lib.hid (B0.out.trans (hb.mono B0.out.size))
  have X1 := Lib.hid (X0.out.below hb)
  have Z1 := Lib.hid (Z0.out.below hb)
  clear hb B0 X0 Z0
  have cX5 : w1.cell? ⟨w.heap.size, 5, none⟩ = some (.int .i64 t) := X1.out.cell 5
  have cX8 : w1.cell? ⟨w.heap.size, 8, none⟩ = some (.int .i64 n) := X1.out.cell 8
  have fX5 : w1.frozen? ⟨w.heap.size, 5, none⟩ = false := X1.out.free 5
  go_wp2_with fail
  clear cX5 cX8 fX5
  obtain ⟨w2, hW⟩ : ∃ w0, w1.setCell ⟨w.heap.size, 5, none⟩ (.int .i64 u) = w0 := ⟨_, rfl⟩
  rw [hW]
  have B2 := Lib.hid (show Below w.heap.size w w2 by rw [← hW]; exact (B1.out.setCell (p := ⟨w.heap.size, 5, none⟩) (by simp <;> omega) _))
  have X2 := Lib.hid (show Bx 28 w2 (w.heap.size) #[.int .i64 a, .int .i64 b, .int .i64 c, .int .i64 d, .int .i64 y, .int .i64 u, .int .i64 j, .int .i64 r, .int .i64 n] by rw [← hW]; exact (X1.out.set 5 _))
  have Z2 := Lib.hid (show Bx 28 w2 (w.heap.size + 1) #[.int .i64 0, .int .i64 0, .int .i64 0, .int .i64 0, .int .i64 0, .int .i64 0, .int .i64 0, .int .i64 0, .int .i64 0] by rw [← hW]; exact (Z1.out.other (by omega) _ _))
  clear hW B1 X1 Z1
  (with_reducible refine (implMin p 1000000000000 (mn p 1000000000000) rfl _).mono ?_)
  rintro e w3 ⟨rfl, hb⟩
  rw [HM.out]
  have B3 := Lib.hid (B2.out.trans (hb.mono B2.out.size))
  have X3 := Lib.hid (X2.out.below hb)
  have Z3 := Lib.hid (Z2.out.below hb)
  clear hb B2 X2 Z2
  clear m1 hp
  have cX8 : w3.cell? ⟨w.heap.size, 8, none⟩ = some (.int .i64 n) := X3.out.cell 8
  have cX6 : w3.cell? ⟨w.heap.size, 6, none⟩ = some (.int .i64 j) := X3.out.cell 6
  have fX8 : w3.frozen? ⟨w.heap.size, 8, none⟩ = false := X3.out.free 8
  have fX6 : w3.frozen? ⟨w.heap.size, 6, none⟩ = false := X3.out.free 6
  go_wp2_with (first
    | (refine list_load rfl 28 _ rfl (w.heap.size) rfl 28 _ (show Bx 28 _ (w.heap.size) #[.int .i64 a, .int .i64 b, .int .i64 c, .int .i64 d, .int .i64 y, .int .i64 u, .int .i64 0, .int .i64 r, .int .i64 m] from ((X3.out.set 8 _).set 6 _)) Tryd.underlying28 rfl szB ?_)
    | (refine list_store rfl 28 _ _ rfl (w.heap.size + 1) #[.int .i64 a, .int .i64 b, .int .i64 c, .int .i64 d, .int .i64 y, .int .i64 u, .int .i64 0, .int .i64 r, .int .i64 m] rfl rfl 28 _ (show Bx 28 _ (w.heap.size + 1) #[.int .i64 0, .int .i64 0, .int .i64 0, .int .i64 0, .int .i64 0, .int .i64 0, .int .i64 0, .int .i64 0, .int .i64 0] from ((Z3.out.other (by omega) _ _).other (by omega) _ _)) rfl szB (one9 _ _ _ _ _ _ _ _ _) ?_; intro wz hz))
  (try simp only [Exit.inBlock, Exit.then])
  refine bodyPost_ret (v := .agg #[.int .i64 a, .int .i64 b, .int .i64 c, .int .i64 d, .int .i64 y, .int .i64 u, .int .i64 0, .int .i64 r, .int .i64 m]) ?_ rfl ?_
  · rw [results_cell1 rfl]
    exact back hz.box Tryd.underlying28 rfl szB
  · exact ⟨by rw [HE.out], (hz.on ((B3.out.setCell (p := ⟨w.heap.size, 8, none⟩) (by simp <;> omega) _).setCell (p := ⟨w.heap.size, 6, none⟩) (by simp <;> omega) _) (by simp <;> omega))⟩
set_option maxRecDepth 100000 in
set_option maxHeartbeats 4000000 in
theorem specDr (a b c d x t j r n s y q : Int) (hs : (Lit.int .i64 s).wf = true) (hn : 0 ≤ n ∧ n ≤ 1000000000000) (w : World) :
    Calls Tryd.prog 57 #[.agg #[.int .i64 a, .int .i64 b, .int .i64 c, .int .i64 d, .int .i64 x, .int .i64 t, .int .i64 j, .int .i64 r, .int .i64 n], .int .i64 s, .int .i64 y, .int .i64 q] w (OPost (red ⟨a, b, c, d, x, t, j, r, n⟩ s y q) w) := by
  have HS := Lib.hid hs
  have HW := Lib.hid (show (Lit.int .i64 n).wf = true from WalkArith.wf_i64 (by omega))
  obtain ⟨u, hu⟩ : ∃ u, wt s n y = u := ⟨_, rfl⟩
  have HU := Lib.hid hu
  obtain ⟨p, hp⟩ : ∃ p, mn 999999999999 n = p := ⟨_, rfl⟩
  obtain ⟨m, hm⟩ : ∃ m, p + 1 = m := ⟨_, rfl⟩
  have hq : mn (n + 1) 1000000000000 = m ∧ m ≤ 1000000000000 ∧ 0 ≤ m := by rw [← hm, ← hp]; unfold mn; split <;> split <;> omega
  have m1 : IntKind.i64.wrap m = m := IntWalk.i64_in _ (by omega)
  have HM := Lib.hid hp
  have HE := Lib.hid (show red ⟨a, b, c, d, x, t, j, r, n⟩ s y q = ⟨a, b, c, d, y, u, 0, q, m⟩ by unfold red; show (⟨a, b, c, d, y, wt s n y, 0, q, mn (n + 1) 1000000000000⟩ : Bo) = _; rw [hu, hq.1])
  clear hq
  clear hs hu hp hn
  go_enter Tryd.func57, Tryd.ntmps57
  go_wp2_with fail
  obtain ⟨w0, hW⟩ : ∃ w0, ((w.alloc (.cells #[.int .i64 a, .int .i64 b, .int .i64 c, .int .i64 d, .int .i64 x, .int .i64 t, .int .i64 j, .int .i64 r, .int .i64 n] 28)).alloc (.cells #[.int .i64 0, .int .i64 0, .int .i64 0, .int .i64 0, .int .i64 0, .int .i64 0, .int .i64 0, .int .i64 0, .int .i64 0] 28)).alloc (.cells #[.int .i64 a, .int .i64 b, .int .i64 c, .int .i64 d, .int .i64 y, .int .i64 t, .int .i64 j, .int .i64 q, .int .i64 n] 28) = w0 := ⟨_, rfl⟩
  rw [hW]
  have B0 := Lib.hid (show Below w.heap.size w w0 by rw [← hW]; exact (((Below.refl _ _).alloc (by simp <;> omega) _).alloc (by simp <;> omega) _).alloc (by simp <;> omega) _)
  have X0 := Lib.hid (show Bx 28 w0 (w.heap.size) #[.int .i64 a, .int .i64 b, .int .i64 c, .int .i64 d, .int .i64 x, .int .i64 t, .int .i64 j, .int .i64 r, .int .i64 n] by
    rw [← hW]
    have hh := Bx.made 28 w #[.int .i64 a, .int .i64 b, .int .i64 c, .int .i64 d, .int .i64 x, .int .i64 t, .int .i64 j, .int .i64 r, .int .i64 n]
    exact ((hh.below (below_box _ _)).below (below_box _ _)))
  have Z0 := Lib.hid (show Bx 28 w0 (w.heap.size + 1) #[.int .i64 0, .int .i64 0, .int .i64 0, .int .i64 0, .int .i64 0, .int .i64 0, .int .i64 0, .int .i64 0, .int .i64 0] by
    rw [← hW]
    have hh : Bx 28 ((w.alloc (.cells #[.int .i64 a, .int .i64 b, .int .i64 c, .int .i64 d, .int .i64 x, .int .i64 t, .int .i64 j, .int .i64 r, .int .i64 n] 28)).alloc (.cells #[.int .i64 0, .int .i64 0, .int .i64 0, .int .i64 0, .int .i64 0, .int .i64 0, .int .i64 0, .int .i64 0, .int .i64 0] 28)) (w.heap.size + 1) #[.int .i64 0, .int .i64 0, .int .i64 0, .int .i64 0, .int .i64 0, .int .i64 0, .int .i64 0, .int .i64 0, .int .i64 0] := by have hh := Bx.made 28 (w.alloc (.cells #[.int .i64 a, .int .i64 b, .int .i64 c, .int .i64 d, .int .i64 x, .int .i64 t, .int .i64 j, .int .i64 r, .int .i64 n] 28)) #[.int .i64 0, .int .i64 0, .int .i64 0, .int .i64 0, .int .i64 0, .int .i64 0, .int .i64 0, .int .i64 0, .int .i64 0]; simpa using hh
    exact (hh.below (below_box _ _)))
  have Y0 := Lib.hid (show Bx 28 w0 (w.heap.size + 1 + 1) #[.int .i64 a, .int .i64 b, .int .i64 c, .int .i64 d, .int .i64 y, .int .i64 t, .int .i64 j, .int .i64 q, .int .i64 n] by
    rw [← hW]
    have hh : Bx 28 (((w.alloc (.cells #[.int .i64 a, .int .i64 b, .int .i64 c, .int .i64 d, .int .i64 x, .int .i64 t, .int .i64 j, .int .i64 r, .int .i64 n] 28)).alloc (.cells #[.int .i64 0, .int .i64 0, .int .i64 0, .int .i64 0, .int .i64 0, .int .i64 0, .int .i64 0, .int .i64 0, .int .i64 0] 28)).alloc (.cells #[.int .i64 a, .int .i64 b, .int .i64 c, .int .i64 d, .int .i64 y, .int .i64 t, .int .i64 j, .int .i64 q, .int .i64 n] 28)) (w.heap.size + 1 + 1) #[.int .i64 a, .int .i64 b, .int .i64 c, .int .i64 d, .int .i64 y, .int .i64 t, .int .i64 j, .int .i64 q, .int .i64 n] := by have hh := Bx.made 28 ((w.alloc (.cells #[.int .i64 a, .int .i64 b, .int .i64 c, .int .i64 d, .int .i64 x, .int .i64 t, .int .i64 j, .int .i64 r, .int .i64 n] 28)).alloc (.cells #[.int .i64 0, .int .i64 0, .int .i64 0, .int .i64 0, .int .i64 0, .int .i64 0, .int .i64 0, .int .i64 0, .int .i64 0] 28)) #[.int .i64 a, .int .i64 b, .int .i64 c, .int .i64 d, .int .i64 y, .int .i64 t, .int .i64 j, .int .i64 q, .int .i64 n]; simpa using hh
    exact hh)
  clear hW
  (with_reducible refine (specRw s n y HS.out HW.out _).mono ?_)
  rintro e w1 hp
  obtain ⟨rfl, hb⟩ := n_parts HU.out hp
  clear hp
  have B1 := Lib.hid (B0.out.trans (hb.mono B0.out.size))
  have X1 := Lib.hid (X0.out.below hb)
  have Z1 := Lib.hid (Z0.out.below hb)
  have Y1 := Lib.hid (Y0.out.below hb)
  clear hb B0 X0 Z0 Y0
  have cY5 : w1.cell? ⟨w.heap.size + 1 + 1, 5, none⟩ = some (.int .i64 t) := Y1.out.cell 5
  have fY5 : w1.frozen? ⟨w.heap.size + 1 + 1, 5, none⟩ = false := Y1.out.free 5
  have cX8 : w1.cell? ⟨w.heap.size, 8, none⟩ = some (.int .i64 n) := X1.out.cell 8
  go_wp2_with fail
  clear cY5 fY5 cX8
  obtain ⟨w2, hW⟩ : ∃ w0, w1.setCell ⟨w.heap.size + 1 + 1, 5, none⟩ (.int .i64 u) = w0 := ⟨_, rfl⟩
  rw [hW]
  have B2 := Lib.hid (show Below w.heap.size w w2 by rw [← hW]; exact (B1.out.setCell (p := ⟨w.heap.size + 1 + 1, 5, none⟩) (by simp <;> omega) _))
  have X2 := Lib.hid (show Bx 28 w2 (w.heap.size) #[.int .i64 a, .int .i64 b, .int .i64 c, .int .i64 d, .int .i64 x, .int .i64 t, .int .i64 j, .int .i64 r, .int .i64 n] by rw [← hW]; exact (X1.out.other (by omega) _ _))
  have Z2 := Lib.hid (show Bx 28 w2 (w.heap.size + 1) #[.int .i64 0, .int .i64 0, .int .i64 0, .int .i64 0, .int .i64 0, .int .i64 0, .int .i64 0, .int .i64 0, .int .i64 0] by rw [← hW]; exact (Z1.out.other (by omega) _ _))
  have Y2 := Lib.hid (show Bx 28 w2 (w.heap.size + 1 + 1) #[.int .i64 a, .int .i64 b, .int .i64 c, .int .i64 d, .int .i64 y, .int .i64 u, .int .i64 j, .int .i64 q, .int .i64 n] by rw [← hW]; exact (Y1.out.set 5 _))
  clear hW B1 X1 Z1 Y1
  (with_reducible refine (specMin 999999999999 n (mn 999999999999 n) rfl _).mono ?_)
  rintro e wq ⟨rfl, rfl⟩
  rw [HM.out]
  have cY8 : w2.cell? ⟨w.heap.size + 1 + 1, 8, none⟩ = some (.int .i64 n) := Y2.out.cell 8
  have cY6 : w2.cell? ⟨w.heap.size + 1 + 1, 6, none⟩ = some (.int .i64 j) := Y2.out.cell 6
  have fY8 : w2.frozen? ⟨w.heap.size + 1 + 1, 8, none⟩ = false := Y2.out.free 8
  have fY6 : w2.frozen? ⟨w.heap.size + 1 + 1, 6, none⟩ = false := Y2.out.free 6
  go_wp2_with (first
    | (refine list_load rfl 28 _ rfl (w.heap.size + 1 + 1) rfl 28 _ (show Bx 28 _ (w.heap.size + 1 + 1) #[.int .i64 a, .int .i64 b, .int .i64 c, .int .i64 d, .int .i64 y, .int .i64 u, .int .i64 0, .int .i64 q, .int .i64 m] from ((Y2.out.set 8 _).set 6 _)) Tryd.underlying28 rfl szB ?_)
    | (refine list_store rfl 28 _ _ rfl (w.heap.size + 1) #[.int .i64 a, .int .i64 b, .int .i64 c, .int .i64 d, .int .i64 y, .int .i64 u, .int .i64 0, .int .i64 q, .int .i64 m] rfl rfl 28 _ (show Bx 28 _ (w.heap.size + 1) #[.int .i64 0, .int .i64 0, .int .i64 0, .int .i64 0, .int .i64 0, .int .i64 0, .int .i64 0, .int .i64 0, .int .i64 0] from ((Z2.out.other (by omega) _ _).other (by omega) _ _)) rfl szB (one9 _ _ _ _ _ _ _ _ _) ?_; intro wz hz))
  (try simp only [Exit.inBlock, Exit.then])
  refine bodyPost_ret (v := .agg #[.int .i64 a, .int .i64 b, .int .i64 c, .int .i64 d, .int .i64 y, .int .i64 u, .int .i64 0, .int .i64 q, .int .i64 m]) ?_ rfl ?_
  · rw [results_cell1 rfl]
    exact back hz.box Tryd.underlying28 rfl szB
  · exact ⟨by rw [HE.out], (hz.on ((B2.out.setCell (p := ⟨w.heap.size + 1 + 1, 8, none⟩) (by simp <;> omega) _).setCell (p := ⟨w.heap.size + 1 + 1, 6, none⟩) (by simp <;> omega) _) (by simp <;> omega))⟩
end Go.Proofs.YtkfkfejjhfkobaaDoor.bx
