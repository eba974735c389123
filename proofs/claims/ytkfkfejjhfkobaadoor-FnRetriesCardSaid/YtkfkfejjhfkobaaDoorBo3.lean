/- A backoff one slot later: program and specification. Condition: the numbers of the backoff are numbers of the machine. -/
import Derived.Test.YtkfkfejjhfkobaaDoorBo2
namespace Go.Proofs.YtkfkfejjhfkobaaDoor.bx
open Go.RowKit sl harn rng acm bom stw
set_option linter.unusedVariables false

set_option maxRecDepth 100000 in
set_option maxHeartbeats 4000000 in
theorem specTi (a b c d x t j r n : Int) (y : Bool) (w : World) :
    Calls Tryd.prog 52 #[.agg #[.int .i64 a, .int .i64 b, .int .i64 c, .int .i64 d, .int .i64 x, .int .i64 t, .int .i64 j, .int .i64 r, .int .i64 n], .bool y] w (OPost (tik ⟨a, b, c, d, x, t, j, r, n⟩ y) w) := by
  obtain ⟨v, hv⟩ : ∃ v, vb ⟨a, b, c, d, x, t, j, r, n⟩ = v := ⟨_, rfl⟩
  have HV := Lib.hid hv
  clear hv
  go_enter Tryd.func52, Tryd.ntmps52
  go_wp2_with fail
  obtain ⟨w0, hW⟩ : ∃ w0, ((w.alloc (.cells #[.int .i64 a, .int .i64 b, .int .i64 c, .int .i64 d, .int .i64 x, .int .i64 t, .int .i64 j, .int .i64 r, .int .i64 n] 28)).alloc (.cells #[.int .i64 0, .int .i64 0, .int .i64 0, .int .i64 0, .int .i64 0, .int .i64 0, .int .i64 0, .int .i64 0, .int .i64 0] 28)).alloc (.cells #[.int .i64 a, .int .i64 b, .int .i64 c, .int .i64 d, .int .i64 x, .int .i64 t, .int .i64 j, .int .i64 r, .int .i64 n] 28) = w0 := ⟨_, rfl⟩
  rw [hW]
  have B0 := Lib.hid (show Below w.heap.size w w0 by rw [← hW]; exact (((Below.refl _ _).alloc (by simp <;> omega) _).alloc (by simp <;> omega) _).alloc (by simp <;> omega) _)
  have X0 := Lib.hid (show Bx 28 w0 (w.heap.size) #[.int .i64 a, .int .i64 b, .int .i64 c, .int .i64 d, .int .i64 x, .int .i64 t, .int .i64 j, .int .i64 r, .int .i64 n] by
    rw [← hW]
    have hh := Bx.made 28 w #[.int .i64 a, .int .i64 b, .int .i64 c, .int .i64 d, .int .i64 x, .int .i64 t, .int .i64 j, .int .i64 r, .int .i64 n]
    exact ((hh.below (below_box _ _)).below (below_box _ _)))
  have Z0 := Lib.hid (show Bx 28 w0 (w.heap.size + 1) #[.int .i64 0, .int .i64 0, .int .i64 0, .int .i64 0, .int .i64 0, .int .i64 0, .int .i64 0, .int .i64 0, .int .i64 0] by
    rw [← hW]
    have hh : Bx 28 ((w.alloc (.cells #[.int .i64 a, .int .i64 b, .int .i64 c, .int .i64 d, .int .i64 x, .int .i64 t, .int .i64 j, .int .i64 r, .int .i64 n] 28)).alloc (.cells #[.int .i64 0, .int .i64 0, .int .i64 0, .int .i64 0, .int .i64 0, .int .i64 0, .int .i64 0, .int .i64 0, .int .i64 0] 28)) (w.heap.size + 1) #[.int .i64 0, .int .i64 0, .int .i64 0, .int .i64 0, .int .i64 0, .int .i64 0, .int .i64 0, .int .i64 0, .int .i64 0] := by have hh := Bx.made 28 (w.alloc (.cells #[.int .i64 a, .int .i64 b, .int .i64 c, .int .i64 d, .int .i64 x, .int .i64 t, .int .i64 j, .int .i64 r, .int .i64 n] 28)) #[.int .i64 0, .int .i64 0, .int .i64 0, .int .i64 0, .int .i64 0, .int .i64 0, .int .i64 0, .int .i64 0, .int .i64 0]; simpa using hh
    exact (hh.below (below_box _ _)))
  have Y0 := Lib.hid (show Bx 28 w0 (w.heap.size + 1 + 1) #[.int .i64 a, .int .i64 b, .int .i64 c, .int .i64 d, .int .i64 x, .int .i64 t, .int .i64 j, .int .i64 r, .int .i64 n] by
    rw [← hW]
    have hh : Bx 28 (((w.alloc (.cells #[.int .i64 a, .int .i64 b, .int .i64 c, .int .i64 d, .int .i64 x, .int .i64 t, .int .i64 j, .int .i64 r, .int .i64 n] 28)).alloc (.cells #[.int .i64 0, .int .i64 0, .int .i64 0, .int .i64 0, .int .i64 0, .int .i64 0, .int .i64 0, .int .i64 0, .int .i64 0] 28)).alloc (.cells #[.int .i64 a, .int .i64 b, .int .i64 c, .int .i64 d, .int .i64 x, .int .i64 t, .int .i64 j, .int .i64 r, .int .i64 n] 28)) (w.heap.size + 1 + 1) #[.int .i64 a, .int .i64 b, .int .i64 c, .int .i64 d, .int .i64 x, .int .i64 t, .int .i64 j, .int .i64 r, .int .i64 n] := by have hh := Bx.made 28 ((w.alloc (.cells #[.int .i64 a, .int .i64 b, .int .i64 c, .int .i64 d, .int .i64 x, .int .i64 t, .int .i64 j, .int .i64 r, .int .i64 n] 28)).alloc (.cells #[.int .i64 0, .int .i64 0, .int .i64 0, .int .i64 0, .int .i64 0, .int .i64 0, .int .i64 0, .int .i64 0, .int .i64 0] 28)) #[.int .i64 a, .int .i64 b, .int .i64 c, .int .i64 d, .int .i64 x, .int .i64 t, .int .i64 j, .int .i64 r, .int .i64 n]; simpa using hh
    exact hh)
  clear hW
  (with_reducible refine (specVb a b c d x t j r n _).mono ?_)
  rintro e w1 hp
  obtain ⟨rfl, hb⟩ := b_parts HV.out hp
  clear hp
  have B1 := Lib.hid (B0.out.trans (hb.mono B0.out.size))
  have X1 := Lib.hid (X0.out.below hb)
  have Z1 := Lib.hid (Z0.out.below hb)
  have Y1 := Lib.hid (Y0.out.below hb)
  clear hb B0 X0 Z0 Y0
  cases v with
  | true =>
    cases y with
    | true =>
      have HE := Lib.hid (show tik ⟨a, b, c, d, x, t, j, r, n⟩ true = ⟨a, b, c, d, x, t, 0, r, n⟩ by unfold tik; rw [HV.out]; rfl)
      have cY6 : w1.cell? ⟨w.heap.size + 1 + 1, 6, none⟩ = some (.int .i64 j) := Y1.out.cell 6
      have fY6 : w1.frozen? ⟨w.heap.size + 1 + 1, 6, none⟩ = false := Y1.out.free 6
      go_wp2_with (first
        | (refine list_load rfl 28 _ rfl (w.heap.size + 1 + 1) rfl 28 _ (show Bx 28 _ (w.heap.size + 1 + 1) #[.int .i64 a, .int .i64 b, .int .i64 c, .int .i64 d, .int .i64 x, .int .i64 t, .int .i64 0, .int .i64 r, .int .i64 n] from (Y1.out.set 6 _)) Tryd.underlying28 rfl szB ?_)
        | (refine list_store rfl 28 _ _ rfl (w.heap.size + 1) #[.int .i64 a, .int .i64 b, .int .i64 c, .int .i64 d, .int .i64 x, .int .i64 t, .int .i64 0, .int .i64 r, .int .i64 n] rfl rfl 28 _ (show Bx 28 _ (w.heap.size + 1) #[.int .i64 0, .int .i64 0, .int .i64 0, .int .i64 0, .int .i64 0, .int .i64 0, .int .i64 0, .int .i64 0, .int .i64 0] from (Z1.out.other (by omega) _ _)) rfl szB (one9 _ _ _ _ _ _ _ _ _) ?_; intro wz hz))
      (try simp only [Exit.inBlock, Exit.then])
      refine bodyPost_ret (v := .agg #[.int .i64 a, .int .i64 b, .int .i64 c, .int .i64 d, .int .i64 x, .int .i64 t, .int .i64 0, .int .i64 r, .int .i64 n]) ?_ rfl ?_
      · rw [results_cell1 rfl]
        exact back hz.box Tryd.underlying28 rfl szB
      · exact ⟨by rw [HE.out], (hz.on (B1.out.setCell (p := ⟨w.heap.size + 1 + 1, 6, none⟩) (by simp <;> omega) _) (by simp <;> omega))⟩
    | false =>
      by_cases hj : j < a
      · have HQ := vb_iff.1 HV.out
        have q1 : 1 ≤ a ∧ a ≤ 15 := HQ.par.aifs
        have q2 : 0 ≤ j ∧ j ≤ a := HQ.idle
        have q3 : 0 ≤ t ∧ t ≤ x := HQ.wait
        have q4 : x ≤ c := HQ.le.2
        have q5 : 1 ≤ c ∧ c ≤ 1023 := win_in HQ.par.high
        obtain ⟨p, hp⟩ : ∃ p, j + 1 = p := ⟨_, rfl⟩
        have m1 : IntKind.i64.wrap p = p := IntWalk.i64_in _ (by omega)
        clear HQ q1 q2 q3 q4 q5
        have HE := Lib.hid (show tik ⟨a, b, c, d, x, t, j, r, n⟩ false = ⟨a, b, c, d, x, t, p, r, n⟩ by unfold tik; rw [HV.out, if_pos rfl, if_neg (by decide), if_pos hj]; show (⟨a, b, c, d, x, t, j + 1, r, n⟩ : Bo) = _; rw [hp])
        have cX0 : w1.cell? ⟨w.heap.size, 0, none⟩ = some (.int .i64 a) := X1.out.cell 0
        have cX6 : w1.cell? ⟨w.heap.size, 6, none⟩ = some (.int .i64 j) := X1.out.cell 6
        have cY6 : w1.cell? ⟨w.heap.size + 1 + 1, 6, none⟩ = some (.int .i64 j) := Y1.out.cell 6
        have fY6 : w1.frozen? ⟨w.heap.size + 1 + 1, 6, none⟩ = false := Y1.out.free 6
        go_wp2_with (first
          | (refine list_load rfl 28 _ rfl (w.heap.size + 1 + 1) rfl 28 _ (show Bx 28 _ (w.heap.size + 1 + 1) #[.int .i64 a, .int .i64 b, .int .i64 c, .int .i64 d, .int .i64 x, .int .i64 t, .int .i64 p, .int .i64 r, .int .i64 n] from (Y1.out.set 6 _)) Tryd.underlying28 rfl szB ?_)
          | (refine list_store rfl 28 _ _ rfl (w.heap.size + 1) #[.int .i64 a, .int .i64 b, .int .i64 c, .int .i64 d, .int .i64 x, .int .i64 t, .int .i64 p, .int .i64 r, .int .i64 n] rfl rfl 28 _ (show Bx 28 _ (w.heap.size + 1) #[.int .i64 0, .int .i64 0, .int .i64 0, .int .i64 0, .int .i64 0, .int .i64 0, .int .i64 0, .int .i64 0, .int .i64 0] from (Z1.out.other (by omega) _ _)) rfl szB (one9 _ _ _ _ _ _ _ _ _) ?_; intro wz hz))
        (try simp only [Exit.inBlock, Exit.then])
        refine bodyPost_ret (v := .agg #[.int .i64 a, .int .i64 b, .int .i64 c, .int .i64 d, .int .i64 x, .int .i64 t, .int .i64 p, .int .i64 r, .int .i64 n]) ?_ rfl ?_
        · rw [results_cell1 rfl]
          exact back hz.box Tryd.underlying28 rfl szB
        · exact ⟨by rw [HE.out], (hz.on (B1.out.setCell (p := ⟨w.heap.size + 1 + 1, 6, none⟩) (by simp <;> omega) _) (by simp <;> omega))⟩
      · by_cases ht : t > 0
        · have HQ := vb_iff.1 HV.out
          have q1 : 1 ≤ a ∧ a ≤ 15 := HQ.par.aifs
          have q2 : 0 ≤ j ∧ j ≤ a := HQ.idle
          have q3 : 0 ≤ t ∧ t ≤ x := HQ.wait
          have q4 : x ≤ c := HQ.le.2
          have q5 : 1 ≤ c ∧ c ≤ 1023 := win_in HQ.par.high
          obtain ⟨p, hp⟩ : ∃ p, t - 1 = p := ⟨_, rfl⟩
          have m1 : IntKind.i64.wrap p = p := IntWalk.i64_in _ (by omega)
          clear HQ q1 q2 q3 q4 q5
          have HE := Lib.hid (show tik ⟨a, b, c, d, x, t, j, r, n⟩ false = ⟨a, b, c, d, x, p, j, r, n⟩ by unfold tik; rw [HV.out, if_pos rfl, if_neg (by decide), if_neg hj, if_pos ht]; show (⟨a, b, c, d, x, t - 1, j, r, n⟩ : Bo) = _; rw [hp])
          have cX0 : w1.cell? ⟨w.heap.size, 0, none⟩ = some (.int .i64 a) := X1.out.cell 0
          have cX6 : w1.cell? ⟨w.heap.size, 6, none⟩ = some (.int .i64 j) := X1.out.cell 6
          have cX5 : w1.cell? ⟨w.heap.size, 5, none⟩ = some (.int .i64 t) := X1.out.cell 5
          have cY5 : w1.cell? ⟨w.heap.size + 1 + 1, 5, none⟩ = some (.int .i64 t) := Y1.out.cell 5
          have fY5 : w1.frozen? ⟨w.heap.size + 1 + 1, 5, none⟩ = false := Y1.out.free 5
          go_wp2_with (first
            | (refine list_load rfl 28 _ rfl (w.heap.size + 1 + 1) rfl 28 _ (show Bx 28 _ (w.heap.size + 1 + 1) #[.int .i64 a, .int .i64 b, .int .i64 c, .int .i64 d, .int .i64 x, .int .i64 p, .int .i64 j, .int .i64 r, .int .i64 n] from (Y1.out.set 5 _)) Tryd.underlying28 rfl szB ?_)
            | (refine list_store rfl 28 _ _ rfl (w.heap.size + 1) #[.int .i64 a, .int .i64 b, .int .i64 c, .int .i64 d, .int .i64 x, .int .i64 p, .int .i64 j, .int .i64 r, .int .i64 n] rfl rfl 28 _ (show Bx 28 _ (w.heap.size + 1) #[.int .i64 0, .int .i64 0, .int .i64 0, .int .i64 0, .int .i64 0, .int .i64 0, .int .i64 0, .int .i64 0, .int .i64 0] from (Z1.out.other (by omega) _ _)) rfl szB (one9 _ _ _ _ _ _ _ _ _) ?_; intro wz hz))
          (try simp only [Exit.inBlock, Exit.then])
          refine bodyPost_ret (v := .agg #[.int .i64 a, .int .i64 b, .int .i64 c, .int .i64 d, .int .i64 x, .int .i64 p, .int .i64 j, .int .i64 r, .int .i64 n]) ?_ rfl ?_
          · rw [results_cell1 rfl]
            exact back hz.box Tryd.underlying28 rfl szB
          · exact ⟨by rw [HE.out], (hz.on (B1.out.setCell (p := ⟨w.heap.size + 1 + 1, 5, none⟩) (by simp <;> omega) _) (by simp <;> omega))⟩
        · have HE := Lib.hid (show tik ⟨a, b, c, d, x, t, j, r, n⟩ false = ⟨a, b, c, d, x, t, j, r, n⟩ by unfold tik; rw [HV.out, if_pos rfl, if_neg (by decide), if_neg hj, if_neg ht])
          have cX0 : w1.cell? ⟨w.heap.size, 0, none⟩ = some (.int .i64 a) := X1.out.cell 0
          have cX6 : w1.cell? ⟨w.heap.size, 6, none⟩ = some (.int .i64 j) := X1.out.cell 6
          have cX5 : w1.cell? ⟨w.heap.size, 5, none⟩ = some (.int .i64 t) := X1.out.cell 5
          go_wp2_with (first
            | (refine list_load rfl 28 _ rfl (w.heap.size + 1 + 1) rfl 28 _ (show Bx 28 _ (w.heap.size + 1 + 1) #[.int .i64 a, .int .i64 b, .int .i64 c, .int .i64 d, .int .i64 x, .int .i64 t, .int .i64 j, .int .i64 r, .int .i64 n] from Y1.out) Tryd.underlying28 rfl szB ?_)
            | (refine list_store rfl 28 _ _ rfl (w.heap.size + 1) #[.int .i64 a, .int .i64 b, .int .i64 c, .int .i64 d, .int .i64 x, .int .i64 t, .int .i64 j, .int .i64 r, .int .i64 n] rfl rfl 28 _ (show Bx 28 _ (w.heap.size + 1) #[.int .i64 0, .int .i64 0, .int .i64 0, .int .i64 0, .int .i64 0, .int .i64 0, .int .i64 0, .int .i64 0, .int .i64 0] from Z1.out) rfl szB (one9 _ _ _ _ _ _ _ _ _) ?_; intro wz hz))
          (try simp only [Exit.inBlock, Exit.then])
          refine bodyPost_ret (v := .agg #[.int .i64 a, .int .i64 b, .int .i64 c, .int .i64 d, .int .i64 x, .int .i64 t, .int .i64 j, .int .i64 r, .int .i64 n]) ?_ rfl ?_
          · rw [results_cell1 rfl]
            exact back hz.box Tryd.underlying28 rfl szB
          · exact ⟨by rw [HE.out], (hz.on B1.out (by simp <;> omega))⟩
  | false =>
    have HE := Lib.hid (show tik ⟨a, b, c, d, x, t, j, r, n⟩ y = ⟨a, b, c, d, x, t, j, r, n⟩ by unfold tik; rw [HV.out]; rfl)
    go_wp2_with (first
      | (refine list_load rfl 28 _ rfl (w.heap.size + 1 + 1) rfl 28 _ (show Bx 28 _ (w.heap.size + 1 + 1) #[.int .i64 a, .int .i64 b, .int .i64 c, .int .i64 d, .int .i64 x, .int .i64 t, .int .i64 j, .int .i64 r, .int .i64 n] from Y1.out) Tryd.underlying28 rfl szB ?_)
      | (refine list_store rfl 28 _ _ rfl (w.heap.size + 1) #[.int .i64 a, .int .i64 b, .int .i64 c, .int .i64 d, .int .i64 x, .int .i64 t, .int .i64 j, .int .i64 r, .int .i64 n] rfl rfl 28 _ (show Bx 28 _ (w.heap.size + 1) #[.int .i64 0, .int .i64 0, .int .i64 0, .int .i64 0, .int .i64 0, .int .i64 0, .int .i64 0, .int .i64 0, .int .i64 0] from Z1.out) rfl szB (one9 _ _ _ _ _ _ _ _ _) ?_; intro wz hz))
    (try simp only [Exit.inBlock, Exit.then])
    refine bodyPost_ret (v := .agg #[.int .i64 a, .int .i64 b, .int .i64 c, .int .i64 d, .int .i64 x, .int .i64 t, .int .i64 j, .int .i64 r, .int .i64 n]) ?_ rfl ?_
    · rw [results_cell1 rfl]
      exact back hz.box Tryd.underlying28 rfl szB
    · exact ⟨by rw [HE.out], (hz.on B1.out (by simp <;> omega))⟩
end Go.Proofs.YtkfkfejjhfkobaaDoor.bx
