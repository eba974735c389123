/- What remains of a used-up backoff; BackoffSucceeded, BackoffFailed: program and specification. Condition: seeds are numbers of the machine. -/
import Derived.Test.YtkfkfejjhfkobaaBo3
import Derived.Test.YtkfkfejjhfkobaaReg
import Derived.Test.YtkfkfejjhfkobaaAc2
namespace Go.Proofs.Ytkfkfejjhfkobaa.bx
open Go.RowKit sl harn rng acm bom stw
set_option linter.unusedVariables false
set_option linter.unusedSimpArgs false

theorem szP : (Try.prog.info? 25).map (·.size) = some 4 := by kernel_rfl
set_option maxRecDepth 100000 in
set_option maxHeartbeats 4000000 in
theorem implEm (a b c d x t j r n : Int) (w : World) :
    Calls Try.prog 43 #[.agg #[.int .i64 a, .int .i64 b, .int .i64 c, .int .i64 d, .int .i64 x, .int .i64 t, .int .i64 j, .int .i64 r, .int .i64 n]] w (OPost (⟨a, b, c, d, 0, 0, 0, 0, n⟩ : Bo) w) := by
  go_enter Try.func43, Try.ntmps43
  go_wp2_with fail
  obtain ⟨w0, hW⟩ : ∃ w0, ((w.alloc (.cells #[.int .i64 a, .int .i64 b, .int .i64 c, .int .i64 d, .int .i64 x, .int .i64 t, .int .i64 j, .int .i64 r, .int .i64 n] 27)).alloc (.cells #[.int .i64 0, .int .i64 0, .int .i64 0, .int .i64 0, .int .i64 0, .int .i64 0, .int .i64 0, .int .i64 0, .int .i64 0] 27)).alloc (.cells #[.int .i64 a, .int .i64 b, .int .i64 c, .int .i64 d, .int .i64 x, .int .i64 t, .int .i64 j, .int .i64 r, .int .i64 n] 67) = w0 := ⟨_, rfl⟩
  rw [hW]
  have B0 := Lib.hid (show Below w.heap.size w w0 by rw [← hW]; exact (((Below.refl _ _).alloc (by simp <;> omega) _).alloc (by simp <;> omega) _).alloc (by simp <;> omega) _)
  have X0 := Lib.hid (show Bx 27 w0 (w.heap.size) #[.int .i64 a, .int .i64 b, .int .i64 c, .int .i64 d, .int .i64 x, .int .i64 t, .int .i64 j, .int .i64 r, .int .i64 n] by
    rw [← hW]
    have hh := Bx.made 27 w #[.int .i64 a, .int .i64 b, .int .i64 c, .int .i64 d, .int .i64 x, .int .i64 t, .int .i64 j, .int .i64 r, .int .i64 n]
    exact ((hh.below (below_box _ _)).below (below_box _ _)))
  have Z0 := Lib.hid (show Bx 27 w0 (w.heap.size + 1) #[.int .i64 0, .int .i64 0, .int .i64 0, .int .i64 0, .int .i64 0, .int .i64 0, .int .i64 0, .int .i64 0, .int .i64 0] by
    rw [← hW]
    have hh : Bx 27 ((w.alloc (.cells #[.int .i64 a, .int .i64 b, .int .i64 c, .int .i64 d, .int .i64 x, .int .i64 t, .int .i64 j, .int .i64 r, .int .i64 n] 27)).alloc (.cells #[.int .i64 0, .int .i64 0, .int .i64 0, .int .i64 0, .int .i64 0, .int .i64 0, .int .i64 0, .int .i64 0, .int .i64 0] 27)) (w.heap.size + 1) #[.int .i64 0, .int .i64 0, .int .i64 0, .int .i64 0, .int .i64 0, .int .i64 0, .int .i64 0, .int .i64 0, .int .i64 0] := by have hh := Bx.made 27 (w.alloc (.cells #[.int .i64 a, .int .i64 b, .int .i64 c, .int .i64 d, .int .i64 x, .int .i64 t, .int .i64 j, .int .i64 r, .int .i64 n] 27)) #[.int .i64 0, .int .i64 0, .int .i64 0, .int .i64 0, .int .i64 0, .int .i64 0, .int .i64 0, .int .i64 0, .int .i64 0]; simpa using hh
    exact (hh.below (below_box _ _)))
  have Y0 := Lib.hid (show Bx 67 w0 (w.heap.size + 1 + 1) #[.int .i64 a, .int .i64 b, .int .i64 c, .int .i64 d, .int .i64 x, .int .i64 t, .int .i64 j, .int .i64 r, .int .i64 n] by
    rw [← hW]
    have hh : Bx 67 (((w.alloc (.cells #[.int .i64 a, .int .i64 b, .int .i64 c, .int .i64 d, .int .i64 x, .int .i64 t, .int .i64 j, .int .i64 r, .int .i64 n] 27)).alloc (.cells #[.int .i64 0, .int .i64 0, .int .i64 0, .int .i64 0, .int .i64 0, .int .i64 0, .int .i64 0, .int .i64 0, .int .i64 0] 27)).alloc (.cells #[.int .i64 a, .int .i64 b, .int .i64 c, .int .i64 d, .int .i64 x, .int .i64 t, .int .i64 j, .int .i64 r, .int .i64 n] 67)) (w.heap.size + 1 + 1) #[.int .i64 a, .int .i64 b, .int .i64 c, .int .i64 d, .int .i64 x, .int .i64 t, .int .i64 j, .int .i64 r, .int .i64 n] := by have hh := Bx.made 67 ((w.alloc (.cells #[.int .i64 a, .int .i64 b, .int .i64 c, .int .i64 d, .int .i64 x, .int .i64 t, .int .i64 j, .int .i64 r, .int .i64 n] 27)).alloc (.cells #[.int .i64 0, .int .i64 0, .int .i64 0, .int .i64 0, .int .i64 0, .int .i64 0, .int .i64 0, .int .i64 0, .int .i64 0] 27)) #[.int .i64 a, .int .i64 b, .int .i64 c, .int .i64 d, .int .i64 x, .int .i64 t, .int .i64 j, .int .i64 r, .int .i64 n]; simpa using hh
    exact hh)
  clear hW
  have hcl := fun ty => run_clear_one (P := Try.prog) w0 68 27 ty #[.int .i64 0, .int .i64 0, .int .i64 0, .int .i64 0, .int .i64 0, .int .i64 0, .int .i64 0, .int .i64 0, .int .i64 0] Try.underlying68 (fun w => by kernel_rfl) (one9 _ _ _ _ _ _ _ _ _) (w.heap.size + 1 + 1) 1 67 #[.int .i64 a, .int .i64 b, .int .i64 c, .int .i64 d, .int .i64 x, .int .i64 t, .int .i64 j, .int .i64 r, .int .i64 n] Y0.out rfl (by simp)
  go_wp2_with fail
  rw [hcl]
  clear hcl
  obtain ⟨w1, hW⟩ : ∃ w1, w0.setRow (w.heap.size + 1 + 1) #[.int .i64 0, .int .i64 0, .int .i64 0, .int .i64 0, .int .i64 0, .int .i64 0, .int .i64 0, .int .i64 0, .int .i64 0] = w1 := ⟨_, rfl⟩
  rw [hW]
  have hz := put_row (cells := #[.int .i64 0, .int .i64 0, .int .i64 0, .int .i64 0, .int .i64 0, .int .i64 0, .int .i64 0, .int .i64 0, .int .i64 0]) Y0.out
  rw [hW] at hz
  have B1 := Lib.hid (hz.on B0.out (by omega))
  have X1 := Lib.hid (hz.keep X0.out (by omega))
  have Z1 := Lib.hid (hz.keep Z0.out (by omega))
  have Y1 := Lib.hid hz.box
  clear hW hz B0 X0 Z0 Y0
  go_wp2_with fail
  have BD := Lib.hid (own.below_drew B1.out)
  have XD := Lib.hid (show Bx 27 w1.drew (w.heap.size) #[.int .i64 a, .int .i64 b, .int .i64 c, .int .i64 d, .int .i64 x, .int .i64 t, .int .i64 j, .int .i64 r, .int .i64 n] from X1.out.same rfl)
  have ZD := Lib.hid (show Bx 27 w1.drew (w.heap.size + 1) #[.int .i64 0, .int .i64 0, .int .i64 0, .int .i64 0, .int .i64 0, .int .i64 0, .int .i64 0, .int .i64 0, .int .i64 0] from Z1.out.same rfl)
  have YD := Lib.hid (show Bx 67 w1.drew (w.heap.size + 1 + 1) #[.int .i64 0, .int .i64 0, .int .i64 0, .int .i64 0, .int .i64 0, .int .i64 0, .int .i64 0, .int .i64 0, .int .i64 0] from Y1.out.same rfl)
  have x0 : w1.drew.cell? ⟨w.heap.size, 0, none⟩ = some (.int .i64 a) := XD.out.cell 0
  have x1 : w1.drew.cell? ⟨w.heap.size, 1, none⟩ = some (.int .i64 b) := XD.out.cell 1
  have x2 : w1.drew.cell? ⟨w.heap.size, 2, none⟩ = some (.int .i64 c) := XD.out.cell 2
  have x3 : w1.drew.cell? ⟨w.heap.size, 3, none⟩ = some (.int .i64 d) := XD.out.cell 3
  have x8 : w1.drew.cell? ⟨w.heap.size, 8, none⟩ = some (.int .i64 n) := XD.out.cell 8
  have y0 : w1.drew.cell? ⟨w.heap.size + 1 + 1, 0, none⟩ = some (.int .i64 0) := YD.out.cell 0
  have f0 : w1.drew.frozen? ⟨w.heap.size + 1 + 1, 0, none⟩ = false := YD.out.free 0
  have y1 : w1.drew.cell? ⟨w.heap.size + 1 + 1, 1, none⟩ = some (.int .i64 0) := YD.out.cell 1
  have f1 : w1.drew.frozen? ⟨w.heap.size + 1 + 1, 1, none⟩ = false := YD.out.free 1
  have y2 : w1.drew.cell? ⟨w.heap.size + 1 + 1, 2, none⟩ = some (.int .i64 0) := YD.out.cell 2
  have f2 : w1.drew.frozen? ⟨w.heap.size + 1 + 1, 2, none⟩ = false := YD.out.free 2
  have y3 : w1.drew.cell? ⟨w.heap.size + 1 + 1, 3, none⟩ = some (.int .i64 0) := YD.out.cell 3
  have f3 : w1.drew.frozen? ⟨w.heap.size + 1 + 1, 3, none⟩ = false := YD.out.free 3
  have y8 : w1.drew.cell? ⟨w.heap.size + 1 + 1, 8, none⟩ = some (.int .i64 0) := YD.out.cell 8
  have f8 : w1.drew.frozen? ⟨w.heap.size + 1 + 1, 8, none⟩ = false := YD.out.free 8
  have x0' : w1.cell? ⟨w.heap.size, 0, none⟩ = some (.int .i64 a) := X1.out.cell 0
  have y0' : w1.cell? ⟨w.heap.size + 1 + 1, 0, none⟩ = some (.int .i64 0) := Y1.out.cell 0
  have f0' : w1.frozen? ⟨w.heap.size + 1 + 1, 0, none⟩ = false := Y1.out.free 0
  have x1' : w1.cell? ⟨w.heap.size, 1, none⟩ = some (.int .i64 b) := X1.out.cell 1
  have y1' : w1.cell? ⟨w.heap.size + 1 + 1, 1, none⟩ = some (.int .i64 0) := Y1.out.cell 1
  have f1' : w1.frozen? ⟨w.heap.size + 1 + 1, 1, none⟩ = false := Y1.out.free 1
  have x2' : w1.cell? ⟨w.heap.size, 2, none⟩ = some (.int .i64 c) := X1.out.cell 2
  have y2' : w1.cell? ⟨w.heap.size + 1 + 1, 2, none⟩ = some (.int .i64 0) := Y1.out.cell 2
  have f2' : w1.frozen? ⟨w.heap.size + 1 + 1, 2, none⟩ = false := Y1.out.free 2
  have x3' : w1.cell? ⟨w.heap.size, 3, none⟩ = some (.int .i64 d) := X1.out.cell 3
  have y3' : w1.cell? ⟨w.heap.size + 1 + 1, 3, none⟩ = some (.int .i64 0) := Y1.out.cell 3
  have f3' : w1.frozen? ⟨w.heap.size + 1 + 1, 3, none⟩ = false := Y1.out.free 3
  have x8' : w1.cell? ⟨w.heap.size, 8, none⟩ = some (.int .i64 n) := X1.out.cell 8
  have y8' : w1.cell? ⟨w.heap.size + 1 + 1, 8, none⟩ = some (.int .i64 0) := Y1.out.cell 8
  have f8' : w1.frozen? ⟨w.heap.size + 1 + 1, 8, none⟩ = false := Y1.out.free 8
  go_region
  clear BD XD YD ZD x0 x0' y0 y0' f0 f0' x1 x1' y1 y1' f1 f1' x2 x2' y2 y2' f2 f2' x3 x3' y3 y3' f3 f3' x8 x8' y8 y8' f8 f8'
  obtain ⟨w2, hW⟩ : ∃ w2, (((((w1.setCell ⟨w.heap.size + 1 + 1, 0, none⟩ (.int .i64 a)).setCell ⟨w.heap.size + 1 + 1, 1, none⟩ (.int .i64 b)).setCell ⟨w.heap.size + 1 + 1, 2, none⟩ (.int .i64 c)).setCell ⟨w.heap.size + 1 + 1, 3, none⟩ (.int .i64 d)).setCell ⟨w.heap.size + 1 + 1, 8, none⟩ (.int .i64 n)).drew = w2 := ⟨_, rfl⟩
  rw [hW]
  have B2 := Lib.hid (show Below w.heap.size w w2 by rw [← hW]; exact own.below_drew (((((B1.out.setCell (p := ⟨w.heap.size + 1 + 1, 0, none⟩) (by simp <;> omega) _).setCell (p := ⟨w.heap.size + 1 + 1, 1, none⟩) (by simp <;> omega) _).setCell (p := ⟨w.heap.size + 1 + 1, 2, none⟩) (by simp <;> omega) _).setCell (p := ⟨w.heap.size + 1 + 1, 3, none⟩) (by simp <;> omega) _).setCell (p := ⟨w.heap.size + 1 + 1, 8, none⟩) (by simp <;> omega) _))
  have Z2 := Lib.hid (show Bx 27 w2 (w.heap.size + 1) #[.int .i64 0, .int .i64 0, .int .i64 0, .int .i64 0, .int .i64 0, .int .i64 0, .int .i64 0, .int .i64 0, .int .i64 0] by rw [← hW]; exact (((((Z1.out.other (by omega) _ _).other (by omega) _ _).other (by omega) _ _).other (by omega) _ _).other (by omega) _ _).same rfl)
  have Y2 := Lib.hid (show Bx 67 w2 (w.heap.size + 1 + 1) #[.int .i64 a, .int .i64 b, .int .i64 c, .int .i64 d, .int .i64 0, .int .i64 0, .int .i64 0, .int .i64 0, .int .i64 n] by rw [← hW]; exact (((((Y1.out.set 0 _).set 1 _).set 2 _).set 3 _).set 8 _).same rfl)
  clear hW B1 X1 Y1 Z1
  go_wp2_with (first
    | (refine list_load rfl 27 _ rfl (w.heap.size + 1 + 1) rfl 67 _ Y2.out Try.underlying27 rfl szB ?_)
    | (refine list_store rfl 27 _ _ rfl (w.heap.size + 1) #[.int .i64 a, .int .i64 b, .int .i64 c, .int .i64 d, .int .i64 0, .int .i64 0, .int .i64 0, .int .i64 0, .int .i64 n] rfl rfl 27 _ Z2.out rfl szB (one9 _ _ _ _ _ _ _ _ _) ?_; intro wz hz))
  (try simp only [Exit.inBlock, Exit.then])
  refine bodyPost_ret (v := .agg #[.int .i64 a, .int .i64 b, .int .i64 c, .int .i64 d, .int .i64 0, .int .i64 0, .int .i64 0, .int .i64 0, .int .i64 n]) ?_ rfl ?_
  · rw [results_cell1 rfl]
    exact back hz.box Try.underlying27 rfl szB
  · exact ⟨by rfl, (hz.on B2.out (by omega))⟩
set_option maxRecDepth 100000 in
set_option maxHeartbeats 4000000 in
theorem implSc (a b c d x t j r n : Int) (s : Int) (hs : (Lit.int .i64 s).wf = true) (w : World) :
    Calls Try.prog 25 #[.agg #[.int .i64 a, .int .i64 b, .int .i64 c, .int .i64 d, .int .i64 x, .int .i64 t, .int .i64 j, .int .i64 r, .int .i64 n], .int .i64 s] w (OPost (suc ⟨a, b, c, d, x, t, j, r, n⟩ s) w) := by
  obtain ⟨v, hv⟩ : ∃ v, vb ⟨a, b, c, d, x, t, j, r, n⟩ = v := ⟨_, rfl⟩
  have HV := Lib.hid hv
  have HS := Lib.hid hs
  clear hv hs
  go_enter Try.func25, Try.ntmps25
  go_wp2_with fail
  obtain ⟨w0, hW⟩ : ∃ w0, (w.alloc (.cells #[.int .i64 a, .int .i64 b, .int .i64 c, .int .i64 d, .int .i64 x, .int .i64 t, .int .i64 j, .int .i64 r, .int .i64 n] 27)).alloc (.cells #[.int .i64 0, .int .i64 0, .int .i64 0, .int .i64 0, .int .i64 0, .int .i64 0, .int .i64 0, .int .i64 0, .int .i64 0] 27) = w0 := ⟨_, rfl⟩
  rw [hW]
  have B0 := Lib.hid (show Below w.heap.size w w0 by rw [← hW]; exact ((Below.refl _ _).alloc (by simp <;> omega) _).alloc (by simp <;> omega) _)
  have X0 := Lib.hid (show Bx 27 w0 (w.heap.size) #[.int .i64 a, .int .i64 b, .int .i64 c, .int .i64 d, .int .i64 x, .int .i64 t, .int .i64 j, .int .i64 r, .int .i64 n] by
    rw [← hW]
    have hh := Bx.made 27 w #[.int .i64 a, .int .i64 b, .int .i64 c, .int .i64 d, .int .i64 x, .int .i64 t, .int .i64 j, .int .i64 r, .int .i64 n]
    exact (hh.below (below_box _ _)))
  have Z0 := Lib.hid (show Bx 27 w0 (w.heap.size + 1) #[.int .i64 0, .int .i64 0, .int .i64 0, .int .i64 0, .int .i64 0, .int .i64 0, .int .i64 0, .int .i64 0, .int .i64 0] by
    rw [← hW]
    have hh : Bx 27 ((w.alloc (.cells #[.int .i64 a, .int .i64 b, .int .i64 c, .int .i64 d, .int .i64 x, .int .i64 t, .int .i64 j, .int .i64 r, .int .i64 n] 27)).alloc (.cells #[.int .i64 0, .int .i64 0, .int .i64 0, .int .i64 0, .int .i64 0, .int .i64 0, .int .i64 0, .int .i64 0, .int .i64 0] 27)) (w.heap.size + 1) #[.int .i64 0, .int .i64 0, .int .i64 0, .int .i64 0, .int .i64 0, .int .i64 0, .int .i64 0, .int .i64 0, .int .i64 0] := by have hh := Bx.made 27 (w.alloc (.cells #[.int .i64 a, .int .i64 b, .int .i64 c, .int .i64 d, .int .i64 x, .int .i64 t, .int .i64 j, .int .i64 r, .int .i64 n] 27)) #[.int .i64 0, .int .i64 0, .int .i64 0, .int .i64 0, .int .i64 0, .int .i64 0, .int .i64 0, .int .i64 0, .int .i64 0]; simpa using hh
    exact hh)
  clear hW
  (with_reducible refine (implVb a b c d x t j r n _).mono ?_)
  rintro e w1 hp
  obtain ⟨rfl, hb⟩ := b_parts HV.out hp
  clear hp
  have B1 := Lib.hid (B0.out.trans (hb.mono B0.out.size))
  have X1 := Lib.hid (X0.out.below hb)
  have Z1 := Lib.hid (Z0.out.below hb)
  clear hb B0 X0 Z0
  cases v with
  | true =>
    have hn : 0 ≤ n ∧ n ≤ 1000000000000 := (vb_iff.1 HV.out).draws
    obtain ⟨u, hu⟩ : ∃ u, wt s n b = u := ⟨_, rfl⟩
    obtain ⟨m, hm⟩ : ∃ m, mn (n + 1) 1000000000000 = m := ⟨_, rfl⟩
    have HR := Lib.hid (show red ⟨a, b, c, d, 0, 0, 0, 0, n⟩ s b 0 = ⟨a, b, c, d, b, u, 0, 0, m⟩ by unfold red; show (⟨a, b, c, d, b, wt s n b, 0, 0, mn (n + 1) 1000000000000⟩ : Bo) = _; rw [hu, hm])
    have HE := Lib.hid (show suc ⟨a, b, c, d, x, t, j, r, n⟩ s = ⟨a, b, c, d, b, u, 0, 0, m⟩ by unfold suc; rw [if_pos HV.out]; exact HR.out)
    have HN := Lib.hid hn
    clear hu hm hn
    go_wp2_with fail
    refine reg.region_tail reg.Bel 7 16 [some [], some [(0, 9)], some [], some [], some [(3, 12)], some [(4, 13)], some [(1, 10), (2, 11), (5, 14)], none] [(0, 9), (1, 10), (2, 11), (3, 12), (4, 13), (5, 14), (6, 15)]
      (fun w' => Below w.heap.size w w' ∧ Bx 27 w' (w.heap.size) #[.int .i64 a, .int .i64 b, .int .i64 c, .int .i64 d, .int .i64 x, .int .i64 t, .int .i64 j, .int .i64 r, .int .i64 n] ∧ Bx 27 w' (w.heap.size + 1) #[.int .i64 0, .int .i64 0, .int .i64 0, .int .i64 0, .int .i64 0, .int .i64 0, .int .i64 0, .int .i64 0, .int .i64 0])
      (reg.rl [reg.is (.agg #[.int .i64 a, .int .i64 b, .int .i64 c, .int .i64 d, .int .i64 x, .int .i64 t, .int .i64 j, .int .i64 r, .int .i64 n]), reg.is (.agg #[.int .i64 a, .int .i64 b, .int .i64 c, .int .i64 d, .int .i64 0, .int .i64 0, .int .i64 0, .int .i64 0, .int .i64 n]), reg.is (.int .i64 s), reg.is (.pointer (some ⟨w.heap.size, 0, none⟩)), reg.is (.pointer (some ⟨w.heap.size, 1, none⟩)), reg.is (.int .i64 b), reg.is (.agg #[.int .i64 a, .int .i64 b, .int .i64 c, .int .i64 d, .int .i64 b, .int .i64 u, .int .i64 0, .int .i64 0, .int .i64 m]), reg.free])
      (by kernel_rfl) rfl (by kernel_rfl) (by kernel_rfl) rfl
      (fun w1 w2 hc hb => ⟨hc.1.trans (hb.mono hc.1.size), hc.2.1.below hb, hc.2.2.below hb⟩) (reg.rl_keep _) (⟨own.below_drew B1.out, X1.out.same rfl, Z1.out.same rfl⟩) (by kernel_rfl) ⟨?_, ?_, ?_, ?_, ?_, ?_, ?_, trivial⟩ ?_
    · refine fun w8 hc  K hK => ?_
      (try simp only [Act.put, List.setIfInBounds_toArray, List.set_cons_zero, List.set_cons_succ])
      refine step_load rfl 27 _ rfl (w.heap.size) rfl 27 _ hc.2.1 Try.underlying27 rfl szB ?_
      exact hK _ _ rfl (Below.refl _ _)
    · refine fun w8 hc v0 h0 K hK => ?_
      obtain rfl : v0 = .agg #[.int .i64 a, .int .i64 b, .int .i64 c, .int .i64 d, .int .i64 x, .int .i64 t, .int .i64 j, .int .i64 r, .int .i64 n] := h0
      (try simp only [Act.put, List.setIfInBounds_toArray, List.set_cons_zero, List.set_cons_succ])
      go_simp
      (with_reducible refine (implEm a b c d x t j r n _).mono ?_)
      rintro e w3 hp
      obtain ⟨rfl, hb⟩ := o_parts rfl hp
      exact hK _ _ rfl hb
    · refine fun w8 hc  K hK => ?_
      (try simp only [Act.put, List.setIfInBounds_toArray, List.set_cons_zero, List.set_cons_succ])
      go_simp
      exact hK (.int .i64 s) _ rfl (Below.refl _ _)
    · refine fun w8 hc  K hK => ?_
      (try simp only [Act.put, List.setIfInBounds_toArray, List.set_cons_zero, List.set_cons_succ])
      go_simp
      exact hK (.pointer (some ⟨w.heap.size, 0, none⟩)) _ rfl (Below.refl _ _)
    · refine fun w8 hc v3 h3 K hK => ?_
      obtain rfl : v3 = .pointer (some ⟨w.heap.size, 0, none⟩) := h3
      (try simp only [Act.put, List.setIfInBounds_toArray, List.set_cons_zero, List.set_cons_succ])
      go_simp
      exact hK (.pointer (some ⟨w.heap.size, 1, none⟩)) _ rfl (Below.refl _ _)
    · refine fun w8 hc v4 h4 K hK => ?_
      obtain rfl : v4 = .pointer (some ⟨w.heap.size, 1, none⟩) := h4
      (try simp only [Act.put, List.setIfInBounds_toArray, List.set_cons_zero, List.set_cons_succ])
      have c0 : w8.cell? ⟨w.heap.size, 1, none⟩ = some (.int .i64 b) := hc.2.1.cell 1
      go_simp
      exact hK (.int .i64 b) _ rfl (Below.refl _ _)
    · refine fun w8 hc v1 h1 v2 h2 v5 h5 K hK => ?_
      obtain rfl : v1 = .agg #[.int .i64 a, .int .i64 b, .int .i64 c, .int .i64 d, .int .i64 0, .int .i64 0, .int .i64 0, .int .i64 0, .int .i64 n] := h1
      obtain rfl : v2 = .int .i64 s := h2
      obtain rfl : v5 = .int .i64 b := h5
      (try simp only [Act.put, List.setIfInBounds_toArray, List.set_cons_zero, List.set_cons_succ])
      go_simp
      (with_reducible refine (implRd a b c d 0 0 0 0 n s b HS.out HN.out _).mono ?_)
      rintro e w3 hp
      obtain ⟨rfl, hb⟩ := o_parts HR.out hp
      exact hK _ _ rfl hb
    refine fun w9 hc v0 h0 v1 h1 v2 h2 v3 h3 v4 h4 v5 h5 v6 h6 => ?_
    obtain rfl : v0 = .agg #[.int .i64 a, .int .i64 b, .int .i64 c, .int .i64 d, .int .i64 x, .int .i64 t, .int .i64 j, .int .i64 r, .int .i64 n] := h0
    obtain rfl : v1 = .agg #[.int .i64 a, .int .i64 b, .int .i64 c, .int .i64 d, .int .i64 0, .int .i64 0, .int .i64 0, .int .i64 0, .int .i64 n] := h1
    obtain rfl : v2 = .int .i64 s := h2
    obtain rfl : v3 = .pointer (some ⟨w.heap.size, 0, none⟩) := h3
    obtain rfl : v4 = .pointer (some ⟨w.heap.size, 1, none⟩) := h4
    obtain rfl : v5 = .int .i64 b := h5
    obtain rfl : v6 = .agg #[.int .i64 a, .int .i64 b, .int .i64 c, .int .i64 d, .int .i64 b, .int .i64 u, .int .i64 0, .int .i64 0, .int .i64 m] := h6
    (try simp only [reg.Obs])
    (try simp only [Act.put, List.setIfInBounds_toArray, List.set_cons_zero, List.set_cons_succ])
    simp only [List.drop_succ_cons, List.drop_zero]
    have B2 := Lib.hid hc.1
    have X2 := Lib.hid hc.2.1
    have Z2 := Lib.hid hc.2.2
    clear hc B1 X1 Z1
    refine list_store rfl 27 _ _ rfl (w.heap.size + 1) #[.int .i64 a, .int .i64 b, .int .i64 c, .int .i64 d, .int .i64 b, .int .i64 u, .int .i64 0, .int .i64 0, .int .i64 m] rfl rfl 27 _ Z2.out rfl szB (one9 _ _ _ _ _ _ _ _ _) ?_
    intro wz hz
    (try simp only [Act.put])
    have B3 := Lib.hid (hz.on B2.out (by first | omega | (simp <;> omega)))
    have X3 := Lib.hid (hz.keep X2.out (by first | omega | (simp <;> omega)))
    have Z3 := Lib.hid (hz.box)
    clear hz B2 X2 Z2
    (try go_wp2_with fail)
    (try simp only [Exit.inBlock, Exit.then])
    refine bodyPost_ret (v := .agg #[.int .i64 a, .int .i64 b, .int .i64 c, .int .i64 d, .int .i64 b, .int .i64 u, .int .i64 0, .int .i64 0, .int .i64 m]) ?_ rfl ?_
    · rw [results_cell1 rfl]
      exact back Z3.out Try.underlying27 rfl szB
    · exact ⟨by rw [HE.out], B3.out⟩
  | false =>
    have HE := Lib.hid (show suc ⟨a, b, c, d, x, t, j, r, n⟩ s = ⟨a, b, c, d, x, t, j, r, n⟩ by unfold suc; rw [HV.out]; rfl)
    go_wp2_with (first
      | (refine list_load rfl 27 _ rfl (w.heap.size) rfl 27 _ (show Bx 27 _ (w.heap.size) #[.int .i64 a, .int .i64 b, .int .i64 c, .int .i64 d, .int .i64 x, .int .i64 t, .int .i64 j, .int .i64 r, .int .i64 n] from X1.out) Try.underlying27 rfl szB ?_)
      | (refine list_store rfl 27 _ _ rfl (w.heap.size + 1) #[.int .i64 a, .int .i64 b, .int .i64 c, .int .i64 d, .int .i64 x, .int .i64 t, .int .i64 j, .int .i64 r, .int .i64 n] rfl rfl 27 _ (show Bx 27 _ (w.heap.size + 1) #[.int .i64 0, .int .i64 0, .int .i64 0, .int .i64 0, .int .i64 0, .int .i64 0, .int .i64 0, .int .i64 0, .int .i64 0] from Z1.out) rfl szB (one9 _ _ _ _ _ _ _ _ _) ?_; intro wz hz))
    (try simp only [Exit.inBlock, Exit.then])
    refine bodyPost_ret (v := .agg #[.int .i64 a, .int .i64 b, .int .i64 c, .int .i64 d, .int .i64 x, .int .i64 t, .int .i64 j, .int .i64 r, .int .i64 n]) ?_ rfl ?_
    · rw [results_cell1 rfl]
      exact back hz.box Try.underlying27 rfl szB
    · exact ⟨by rw [HE.out], (hz.on B1.out (by simp <;> omega))⟩
set_option maxRecDepth 100000 in
set_option maxHeartbeats 4000000 in
theorem specSc (a b c d x t j r n : Int) (s : Int) (hs : (Lit.int .i64 s).wf = true) (w : World) :
    Calls Try.prog 24 #[.agg #[.int .i64 a, .int .i64 b, .int .i64 c, .int .i64 d, .int .i64 x, .int .i64 t, .int .i64 j, .int .i64 r, .int .i64 n], .int .i64 s] w (OPost (suc ⟨a, b, c, d, x, t, j, r, n⟩ s) w) := by
  obtain ⟨v, hv⟩ : ∃ v, vb ⟨a, b, c, d, x, t, j, r, n⟩ = v := ⟨_, rfl⟩
  have HV := Lib.hid hv
  have HS := Lib.hid hs
  clear hv hs
  go_enter Try.func24, Try.ntmps24
  go_wp2_with fail
  obtain ⟨w0, hW⟩ : ∃ w0, (w.alloc (.cells #[.int .i64 a, .int .i64 b, .int .i64 c, .int .i64 d, .int .i64 x, .int .i64 t, .int .i64 j, .int .i64 r, .int .i64 n] 27)).alloc (.cells #[.int .i64 0, .int .i64 0, .int .i64 0, .int .i64 0, .int .i64 0, .int .i64 0, .int .i64 0, .int .i64 0, .int .i64 0] 27) = w0 := ⟨_, rfl⟩
  rw [hW]
  have B0 := Lib.hid (show Below w.heap.size w w0 by rw [← hW]; exact ((Below.refl _ _).alloc (by simp <;> omega) _).alloc (by simp <;> omega) _)
  have X0 := Lib.hid (show Bx 27 w0 (w.heap.size) #[.int .i64 a, .int .i64 b, .int .i64 c, .int .i64 d, .int .i64 x, .int .i64 t, .int .i64 j, .int .i64 r, .int .i64 n] by
    rw [← hW]
    have hh := Bx.made 27 w #[.int .i64 a, .int .i64 b, .int .i64 c, .int .i64 d, .int .i64 x, .int .i64 t, .int .i64 j, .int .i64 r, .int .i64 n]
    exact (hh.below (below_box _ _)))
  have Z0 := Lib.hid (show Bx 27 w0 (w.heap.size + 1) #[.int .i64 0, .int .i64 0, .int .i64 0, .int .i64 0, .int .i64 0, .int .i64 0, .int .i64 0, .int .i64 0, .int .i64 0] by
    rw [← hW]
    have hh : Bx 27 ((w.alloc (.cells #[.int .i64 a, .int .i64 b, .int .i64 c, .int .i64 d, .int .i64 x, .int .i64 t, .int .i64 j, .int .i64 r, .int .i64 n] 27)).alloc (.cells #[.int .i64 0, .int .i64 0, .int .i64 0, .int .i64 0, .int .i64 0, .int .i64 0, .int .i64 0, .int .i64 0, .int .i64 0] 27)) (w.heap.size + 1) #[.int .i64 0, .int .i64 0, .int .i64 0, .int .i64 0, .int .i64 0, .int .i64 0, .int .i64 0, .int .i64 0, .int .i64 0] := by have hh := Bx.made 27 (w.alloc (.cells #[.int .i64 a, .int .i64 b, .int .i64 c, .int .i64 d, .int .i64 x, .int .i64 t, .int .i64 j, .int .i64 r, .int .i64 n] 27)) #[.int .i64 0, .int .i64 0, .int .i64 0, .int .i64 0, .int .i64 0, .int .i64 0, .int .i64 0, .int .i64 0, .int .i64 0]; simpa using hh
    exact hh)
  clear hW
  (with_reducible refine (specVb a b c d x t j r n _).mono ?_)
  rintro e w1 hp
  obtain ⟨rfl, hb⟩ := b_parts HV.out hp
  clear hp
  have B1 := Lib.hid (B0.out.trans (hb.mono B0.out.size))
  have X1 := Lib.hid (X0.out.below hb)
  have Z1 := Lib.hid (Z0.out.below hb)
  clear hb B0 X0 Z0
  cases v with
  | true =>
    have hn : 0 ≤ n ∧ n ≤ 1000000000000 := (vb_iff.1 HV.out).draws
    obtain ⟨u, hu⟩ : ∃ u, wt s n b = u := ⟨_, rfl⟩
    obtain ⟨m, hm⟩ : ∃ m, mn (n + 1) 1000000000000 = m := ⟨_, rfl⟩
    have HR2 := Lib.hid (show red ⟨a, b, c, d, x, t, j, r, n⟩ s b 0 = ⟨a, b, c, d, b, u, 0, 0, m⟩ by unfold red; show (⟨a, b, c, d, b, wt s n b, 0, 0, mn (n + 1) 1000000000000⟩ : Bo) = _; rw [hu, hm])
    have HE := Lib.hid (show suc ⟨a, b, c, d, x, t, j, r, n⟩ s = ⟨a, b, c, d, b, u, 0, 0, m⟩ by unfold suc; rw [if_pos HV.out]; exact HR2.out)
    have HN := Lib.hid hn
    clear hu hm hn
    have cX1 : w1.cell? ⟨w.heap.size, 1, none⟩ = some (.int .i64 b) := X1.out.cell 1
    go_wp2_with (refine list_load rfl 27 _ rfl (w.heap.size) rfl 27 _ X1.out Try.underlying27 rfl szB ?_)
    (with_reducible refine (specDr a b c d x t j r n s b 0 HS.out HN.out _).mono ?_)
    rintro e w2 hp
    obtain ⟨rfl, hb⟩ := o_parts HR2.out hp
    clear hp
    clear cX1
    have B2 := Lib.hid (B1.out.trans (hb.mono B1.out.size))
    have X2 := Lib.hid (X1.out.below hb)
    have Z2 := Lib.hid (Z1.out.below hb)
    clear hb B1 X1 Z1
    go_wp2_with (refine list_store rfl 27 _ _ rfl (w.heap.size + 1) #[.int .i64 a, .int .i64 b, .int .i64 c, .int .i64 d, .int .i64 b, .int .i64 u, .int .i64 0, .int .i64 0, .int .i64 m] rfl rfl 27 _ Z2.out rfl szB (one9 _ _ _ _ _ _ _ _ _) ?_; intro wz hz)
    (try simp only [Exit.inBlock, Exit.then])
    refine bodyPost_ret (v := .agg #[.int .i64 a, .int .i64 b, .int .i64 c, .int .i64 d, .int .i64 b, .int .i64 u, .int .i64 0, .int .i64 0, .int .i64 m]) ?_ rfl ?_
    · rw [results_cell1 rfl]
      exact back hz.box Try.underlying27 rfl szB
    · exact ⟨by rw [HE.out], (hz.on B2.out (by simp <;> omega))⟩
  | false =>
    have HE := Lib.hid (show suc ⟨a, b, c, d, x, t, j, r, n⟩ s = ⟨a, b, c, d, x, t, j, r, n⟩ by unfold suc; rw [HV.out]; rfl)
    go_wp2_with (first
      | (refine list_load rfl 27 _ rfl (w.heap.size) rfl 27 _ (show Bx 27 _ (w.heap.size) #[.int .i64 a, .int .i64 b, .int .i64 c, .int .i64 d, .int .i64 x, .int .i64 t, .int .i64 j, .int .i64 r, .int .i64 n] from X1.out) Try.underlying27 rfl szB ?_)
      | (refine list_store rfl 27 _ _ rfl (w.heap.size + 1) #[.int .i64 a, .int .i64 b, .int .i64 c, .int .i64 d, .int .i64 x, .int .i64 t, .int .i64 j, .int .i64 r, .int .i64 n] rfl rfl 27 _ (show Bx 27 _ (w.heap.size + 1) #[.int .i64 0, .int .i64 0, .int .i64 0, .int .i64 0, .int .i64 0, .int .i64 0, .int .i64 0, .int .i64 0, .int .i64 0] from Z1.out) rfl szB (one9 _ _ _ _ _ _ _ _ _) ?_; intro wz hz))
    (try simp only [Exit.inBlock, Exit.then])
    refine bodyPost_ret (v := .agg #[.int .i64 a, .int .i64 b, .int .i64 c, .int .i64 d, .int .i64 x, .int .i64 t, .int .i64 j, .int .i64 r, .int .i64 n]) ?_ rfl ?_
    · rw [results_cell1 rfl]
      exact back hz.box Try.underlying27 rfl szB
    · exact ⟨by rw [HE.out], (hz.on B1.out (by simp <;> omega))⟩
/-- What a function hands back that is a backoff and a bool. -/
def FPost (q : Bo) (g : Bool) (w : World) (e : Ending) (w' : World) : Prop := e = .returned (.tuple #[.agg (bv q), .bool g]) ∧ Below w.heap.size w w'
theorem f_parts {q : Bo} {g g' : Bool} {a b c d x t j r n : Int} (ht : q = ⟨a, b, c, d, x, t, j, r, n⟩) (hg : g = g') {w w' : World} {e : Ending} (h : FPost q g w e w') : e = .returned (.tuple #[.agg #[.int .i64 a, .int .i64 b, .int .i64 c, .int .i64 d, .int .i64 x, .int .i64 t, .int .i64 j, .int .i64 r, .int .i64 n], .bool g']) ∧ Below w.heap.size w w' := by subst ht; subst hg; exact h
set_option maxRecDepth 100000 in
set_option maxHeartbeats 4000000 in
theorem implFl (a b c d x t j r n : Int) (s : Int) (hs : (Lit.int .i64 s).wf = true) (w : World) :
    Calls Try.prog 27 #[.agg #[.int .i64 a, .int .i64 b, .int .i64 c, .int .i64 d, .int .i64 x, .int .i64 t, .int .i64 j, .int .i64 r, .int .i64 n], .int .i64 s] w (FPost (fai ⟨a, b, c, d, x, t, j, r, n⟩ s) (aga ⟨a, b, c, d, x, t, j, r, n⟩) w) := by
  obtain ⟨v, hv⟩ : ∃ v, vb ⟨a, b, c, d, x, t, j, r, n⟩ = v := ⟨_, rfl⟩
  have HV := Lib.hid hv
  have HS := Lib.hid hs
  clear hv hs
  go_enter Try.func27, Try.ntmps27
  go_wp2_with fail
  obtain ⟨w0, hW⟩ : ∃ w0, (w.alloc (.cells #[.int .i64 a, .int .i64 b, .int .i64 c, .int .i64 d, .int .i64 x, .int .i64 t, .int .i64 j, .int .i64 r, .int .i64 n] 27)).alloc (.cells #[.int .i64 0, .int .i64 0, .int .i64 0, .int .i64 0, .int .i64 0, .int .i64 0, .int .i64 0, .int .i64 0, .int .i64 0] 27) = w0 := ⟨_, rfl⟩
  rw [hW]
  have B0 := Lib.hid (show Below w.heap.size w w0 by rw [← hW]; exact ((Below.refl _ _).alloc (by simp <;> omega) _).alloc (by simp <;> omega) _)
  have X0 := Lib.hid (show Bx 27 w0 (w.heap.size) #[.int .i64 a, .int .i64 b, .int .i64 c, .int .i64 d, .int .i64 x, .int .i64 t, .int .i64 j, .int .i64 r, .int .i64 n] by
    rw [← hW]
    have hh := Bx.made 27 w #[.int .i64 a, .int .i64 b, .int .i64 c, .int .i64 d, .int .i64 x, .int .i64 t, .int .i64 j, .int .i64 r, .int .i64 n]
    exact (hh.below (below_box _ _)))
  have Z0 := Lib.hid (show Bx 27 w0 (w.heap.size + 1) #[.int .i64 0, .int .i64 0, .int .i64 0, .int .i64 0, .int .i64 0, .int .i64 0, .int .i64 0, .int .i64 0, .int .i64 0] by
    rw [← hW]
    have hh : Bx 27 ((w.alloc (.cells #[.int .i64 a, .int .i64 b, .int .i64 c, .int .i64 d, .int .i64 x, .int .i64 t, .int .i64 j, .int .i64 r, .int .i64 n] 27)).alloc (.cells #[.int .i64 0, .int .i64 0, .int .i64 0, .int .i64 0, .int .i64 0, .int .i64 0, .int .i64 0, .int .i64 0, .int .i64 0] 27)) (w.heap.size + 1) #[.int .i64 0, .int .i64 0, .int .i64 0, .int .i64 0, .int .i64 0, .int .i64 0, .int .i64 0, .int .i64 0, .int .i64 0] := by have hh := Bx.made 27 (w.alloc (.cells #[.int .i64 a, .int .i64 b, .int .i64 c, .int .i64 d, .int .i64 x, .int .i64 t, .int .i64 j, .int .i64 r, .int .i64 n] 27)) #[.int .i64 0, .int .i64 0, .int .i64 0, .int .i64 0, .int .i64 0, .int .i64 0, .int .i64 0, .int .i64 0, .int .i64 0]; simpa using hh
    exact hh)
  clear hW
  (with_reducible refine (implVb a b c d x t j r n _).mono ?_)
  rintro e w1 hp
  obtain ⟨rfl, hb⟩ := b_parts HV.out hp
  clear hp
  have B1 := Lib.hid (B0.out.trans (hb.mono B0.out.size))
  have X1 := Lib.hid (X0.out.below hb)
  have Z1 := Lib.hid (Z0.out.below hb)
  clear hb B0 X0 Z0
  cases v with
  | true =>
    by_cases hr7 : r = 7
    · subst hr7
      have hn : 0 ≤ n ∧ n ≤ 1000000000000 := (vb_iff.1 HV.out).draws
      obtain ⟨u, hu⟩ : ∃ u, wt s n b = u := ⟨_, rfl⟩
      obtain ⟨m, hm⟩ : ∃ m, mn (n + 1) 1000000000000 = m := ⟨_, rfl⟩
      have HR2 := Lib.hid (show red ⟨a, b, c, d, x, t, j, 7, n⟩ s b 0 = ⟨a, b, c, d, b, u, 0, 0, m⟩ by unfold red; show (⟨a, b, c, d, b, wt s n b, 0, 0, mn (n + 1) 1000000000000⟩ : Bo) = _; rw [hu, hm])
      have HE := Lib.hid (show suc ⟨a, b, c, d, x, t, j, 7, n⟩ s = ⟨a, b, c, d, b, u, 0, 0, m⟩ by unfold suc; rw [if_pos HV.out]; exact HR2.out)
      have HN := Lib.hid hn
      clear hu hm hn
      have HE2 := Lib.hid (show fai ⟨a, b, c, d, x, t, j, 7, n⟩ s = ⟨a, b, c, d, b, u, 0, 0, m⟩ by unfold fai; rw [if_pos HV.out, if_pos rfl]; exact HR2.out)
      have HA := Lib.hid (show aga ⟨a, b, c, d, x, t, j, 7, n⟩ = false by unfold aga; rw [HV.out]; rfl)
      have cX7 : w1.cell? ⟨w.heap.size, 7, none⟩ = some (.int .i64 7) := X1.out.cell 7
      go_wp2_with (refine list_load rfl 27 _ rfl (w.heap.size) rfl 27 _ X1.out Try.underlying27 rfl szB ?_)
      (with_reducible refine (implSc a b c d x t j 7 n s HS.out _).mono ?_)
      rintro e w2 hp
      obtain ⟨rfl, hb⟩ := o_parts HE.out hp
      clear hp
      clear cX7
      have B2 := Lib.hid (B1.out.trans (hb.mono B1.out.size))
      have X2 := Lib.hid (X1.out.below hb)
      have Z2 := Lib.hid (Z1.out.below hb)
      clear hb B1 X1 Z1
      go_wp2_with (refine list_store rfl 27 _ _ rfl (w.heap.size + 1) #[.int .i64 a, .int .i64 b, .int .i64 c, .int .i64 d, .int .i64 b, .int .i64 u, .int .i64 0, .int .i64 0, .int .i64 m] rfl rfl 27 _ Z2.out rfl szB (one9 _ _ _ _ _ _ _ _ _) ?_; intro wz hz)
      (try simp only [Exit.inBlock, Exit.then])
      refine bodyPost_ret (v := .tuple #[.agg #[.int .i64 a, .int .i64 b, .int .i64 c, .int .i64 d, .int .i64 b, .int .i64 u, .int .i64 0, .int .i64 0, .int .i64 m], .bool false]) ?_ rfl ?_
      · rw [results_cell_tmp1 rfl]
        exact back2 hz.box Try.underlying27 rfl szB _
      · exact ⟨by rw [HE2.out, HA.out], (hz.on B2.out (by simp <;> omega))⟩
    · have HQ := vb_iff.1 HV.out
      have hn : 0 ≤ n ∧ n ≤ 1000000000000 := HQ.draws
      have hp7 : 0 ≤ r ∧ r ≤ 7 := HQ.tries
      have HP := Lib.hid HQ.par
      clear HQ
      obtain ⟨p, hp⟩ : ∃ p, r + 1 = p := ⟨_, rfl⟩
      have m1 : IntKind.i64.wrap p = p := IntWalk.i64_in _ (by omega)
      obtain ⟨y, hy⟩ : ∃ y, nw a b c d x = y := ⟨_, rfl⟩
      have HW := Lib.hid hy
      have hy2 : nx b c x = y := by rw [← hy, nw_yes (vp_iff.2 HP.out)]
      obtain ⟨u, hu⟩ : ∃ u, wt s n y = u := ⟨_, rfl⟩
      obtain ⟨m, hm⟩ : ∃ m, mn (n + 1) 1000000000000 = m := ⟨_, rfl⟩
      have HR := Lib.hid (show red ⟨a, b, c, d, x, t, j, r, n⟩ s y r = ⟨a, b, c, d, y, u, 0, r, m⟩ by unfold red; show (⟨a, b, c, d, y, wt s n y, 0, r, mn (n + 1) 1000000000000⟩ : Bo) = _; rw [hu, hm])
      have HE := Lib.hid (show fai ⟨a, b, c, d, x, t, j, r, n⟩ s = ⟨a, b, c, d, y, u, 0, p, m⟩ by unfold fai; rw [if_pos HV.out, if_neg hr7]; show red ⟨a, b, c, d, x, t, j, r, n⟩ s (nx b c x) (r + 1) = _; rw [hy2, hp]; unfold red; show (⟨a, b, c, d, y, wt s n y, 0, p, mn (n + 1) 1000000000000⟩ : Bo) = _; rw [hu, hm])
      have HA := Lib.hid (show aga ⟨a, b, c, d, x, t, j, r, n⟩ = true by unfold aga; rw [HV.out]; simp [hr7])
      have HN := Lib.hid hn
      have e7 : (r == 7) = false := by simpa using hr7
      have HR7 := Lib.hid hr7
      have HP1 := Lib.hid hp
      clear hn hp7 hu hm hy hy2 hr7 hp
      have cX7 : w1.cell? ⟨w.heap.size, 7, none⟩ = some (.int .i64 r) := X1.out.cell 7
      go_wp2_with fail
      clear cX7
      clear e7
      refine reg.region_tail reg.Bel 9 30 [some [], some [], some [], some [(2, 19)], some [], some [(4, 21)], some [(3, 20), (5, 22)], some [(0, 17), (1, 18), (6, 23)], some [], none] [(0, 17), (1, 18), (2, 19), (3, 20), (4, 21), (5, 22), (6, 23), (7, 24), (8, 6)]
        (fun w' => Below w.heap.size w w' ∧ Bx 27 w' (w.heap.size) #[.int .i64 a, .int .i64 b, .int .i64 c, .int .i64 d, .int .i64 x, .int .i64 t, .int .i64 j, .int .i64 r, .int .i64 n] ∧ Bx 27 w' (w.heap.size + 1) #[.int .i64 0, .int .i64 0, .int .i64 0, .int .i64 0, .int .i64 0, .int .i64 0, .int .i64 0, .int .i64 0, .int .i64 0])
        (reg.rl [reg.is (.agg #[.int .i64 a, .int .i64 b, .int .i64 c, .int .i64 d, .int .i64 x, .int .i64 t, .int .i64 j, .int .i64 r, .int .i64 n]), reg.is (.int .i64 s), reg.is (.pointer (some ⟨w.heap.size, 0, none⟩)), reg.is (.agg #[.int .i64 a, .int .i64 b, .int .i64 c, .int .i64 d]), reg.is (.pointer (some ⟨w.heap.size, 4, none⟩)), reg.is (.int .i64 x), reg.is (.int .i64 y), reg.is (.agg #[.int .i64 a, .int .i64 b, .int .i64 c, .int .i64 d, .int .i64 y, .int .i64 u, .int .i64 0, .int .i64 r, .int .i64 m]), stw.mk 27 (w.heap.size + 1) #[.int .i64 0, .int .i64 0, .int .i64 0, .int .i64 0, .int .i64 0, .int .i64 0, .int .i64 0, .int .i64 0, .int .i64 0], reg.free])
        (by kernel_rfl) rfl (by kernel_rfl) (by kernel_rfl) rfl
        (fun w1 w2 hc hb => ⟨hc.1.trans (hb.mono hc.1.size), hc.2.1.below hb, hc.2.2.below hb⟩) (reg.rl_keep _) (⟨own.below_drew B1.out, X1.out.same rfl, Z1.out.same rfl⟩) (by kernel_rfl) ⟨?_, ?_, ?_, ?_, ?_, ?_, ?_, ?_, ?_, trivial⟩ ?_
      · refine fun w8 hc  K hK => ?_
        (try simp only [Act.put, List.setIfInBounds_toArray, List.set_cons_zero, List.set_cons_succ])
        refine step_load rfl 27 _ rfl (w.heap.size) rfl 27 _ hc.2.1 Try.underlying27 rfl szB ?_
        exact hK _ _ rfl (Below.refl _ _)
      · refine fun w8 hc  K hK => ?_
        (try simp only [Act.put, List.setIfInBounds_toArray, List.set_cons_zero, List.set_cons_succ])
        go_simp
        exact hK (.int .i64 s) _ rfl (Below.refl _ _)
      · refine fun w8 hc  K hK => ?_
        (try simp only [Act.put, List.setIfInBounds_toArray, List.set_cons_zero, List.set_cons_succ])
        go_simp
        exact hK (.pointer (some ⟨w.heap.size, 0, none⟩)) _ rfl (Below.refl _ _)
      · refine fun w8 hc v2 h2 K hK => ?_
        obtain rfl : v2 = .pointer (some ⟨w.heap.size, 0, none⟩) := h2
        (try simp only [Act.put, List.setIfInBounds_toArray, List.set_cons_zero, List.set_cons_succ])
        refine step_part rfl 25 _ rfl (w.heap.size) 0 [.int .i64 a, .int .i64 b, .int .i64 c, .int .i64 d] rfl 27 _ hc.2.1 rfl Try.underlying25 rfl szP ?_
        exact hK _ _ rfl (Below.refl _ _)
      · refine fun w8 hc  K hK => ?_
        (try simp only [Act.put, List.setIfInBounds_toArray, List.set_cons_zero, List.set_cons_succ])
        go_simp
        exact hK (.pointer (some ⟨w.heap.size, 4, none⟩)) _ rfl (Below.refl _ _)
      · refine fun w8 hc v4 h4 K hK => ?_
        obtain rfl : v4 = .pointer (some ⟨w.heap.size, 4, none⟩) := h4
        (try simp only [Act.put, List.setIfInBounds_toArray, List.set_cons_zero, List.set_cons_succ])
        have c0 : w8.cell? ⟨w.heap.size, 4, none⟩ = some (.int .i64 x) := hc.2.1.cell 4
        go_simp
        exact hK (.int .i64 x) _ rfl (Below.refl _ _)
      · refine fun w8 hc v3 h3 v5 h5 K hK => ?_
        obtain rfl : v3 = .agg #[.int .i64 a, .int .i64 b, .int .i64 c, .int .i64 d] := h3
        obtain rfl : v5 = .int .i64 x := h5
        (try simp only [Act.put, List.setIfInBounds_toArray, List.set_cons_zero, List.set_cons_succ])
        go_simp
        (with_reducible refine (implNw a b c d x _).mono ?_)
        rintro e w3 hp
        obtain ⟨rfl, hb⟩ := n_parts HW.out hp
        exact hK _ _ rfl hb
      · refine fun w8 hc v0 h0 v1 h1 v6 h6 K hK => ?_
        obtain rfl : v0 = .agg #[.int .i64 a, .int .i64 b, .int .i64 c, .int .i64 d, .int .i64 x, .int .i64 t, .int .i64 j, .int .i64 r, .int .i64 n] := h0
        obtain rfl : v1 = .int .i64 s := h1
        obtain rfl : v6 = .int .i64 y := h6
        (try simp only [Act.put, List.setIfInBounds_toArray, List.set_cons_zero, List.set_cons_succ])
        go_simp
        (with_reducible refine (implRd a b c d x t j r n s y HS.out HN.out _).mono ?_)
        rintro e w3 hp
        obtain ⟨rfl, hb⟩ := o_parts HR.out hp
        exact hK _ _ rfl hb
      · refine fun w8 hc  K hK => ?_
        (try simp only [Act.put, List.setIfInBounds_toArray, List.set_cons_zero, List.set_cons_succ])
        have hlt := hc.2.2.lt
        go_simp
        exact hK (.pointer (some ⟨w8.heap.size, 0, none⟩)) _ ⟨w8.heap.size, rfl, hlt, Bx.made _ _ _⟩ (below_box _ _)
      refine fun w9 hc v0 h0 v1 h1 v2 h2 v3 h3 v4 h4 v5 h5 v6 h6 v7 h7 v8 h8 => ?_
      obtain rfl : v0 = .agg #[.int .i64 a, .int .i64 b, .int .i64 c, .int .i64 d, .int .i64 x, .int .i64 t, .int .i64 j, .int .i64 r, .int .i64 n] := h0
      obtain rfl : v1 = .int .i64 s := h1
      obtain rfl : v2 = .pointer (some ⟨w.heap.size, 0, none⟩) := h2
      obtain rfl : v3 = .agg #[.int .i64 a, .int .i64 b, .int .i64 c, .int .i64 d] := h3
      obtain rfl : v4 = .pointer (some ⟨w.heap.size, 4, none⟩) := h4
      obtain rfl : v5 = .int .i64 x := h5
      obtain rfl : v6 = .int .i64 y := h6
      obtain rfl : v7 = .agg #[.int .i64 a, .int .i64 b, .int .i64 c, .int .i64 d, .int .i64 y, .int .i64 u, .int .i64 0, .int .i64 r, .int .i64 m] := h7
      obtain ⟨q, rfl, hq, hP⟩ : ∃ q, v8 = .pointer (some ⟨q, 0, none⟩) ∧ w.heap.size + 1 < q ∧ Bx 27 w9 q #[.int .i64 0, .int .i64 0, .int .i64 0, .int .i64 0, .int .i64 0, .int .i64 0, .int .i64 0, .int .i64 0, .int .i64 0] := h8
      (try simp only [reg.Obs])
      (try simp only [Act.put, List.setIfInBounds_toArray, List.set_cons_zero, List.set_cons_succ])
      simp only [List.drop_succ_cons, List.drop_zero]
      have B2 := Lib.hid hc.1
      have X2 := Lib.hid hc.2.1
      have Z2 := Lib.hid hc.2.2
      clear hc B1 X1 Z1
      have N2 := Lib.hid hP
      clear hP
      refine list_store rfl 27 _ _ rfl (q) #[.int .i64 a, .int .i64 b, .int .i64 c, .int .i64 d, .int .i64 y, .int .i64 u, .int .i64 0, .int .i64 r, .int .i64 m] rfl rfl 27 _ N2.out rfl szB (one9 _ _ _ _ _ _ _ _ _) ?_
      intro wz hz
      (try simp only [Act.put])
      have B3 := Lib.hid (hz.on B2.out (by first | omega | (simp <;> omega)))
      have X3 := Lib.hid (hz.keep X2.out (by first | omega | (simp <;> omega)))
      have Z3 := Lib.hid (hz.keep Z2.out (by first | omega | (simp <;> omega)))
      have N3 := Lib.hid (hz.box)
      clear hz B2 X2 Z2 N2
      have e8 := HP1.out
      have cN7 : wz.cell? ⟨q, 7, none⟩ = some (.int .i64 r) := N3.out.cell 7
      have fN7 : wz.frozen? ⟨q, 7, none⟩ = false := N3.out.free 7
      go_wp2_with (first
        | (refine list_load rfl 27 _ rfl (q) rfl 27 _ (show Bx 27 _ (q) #[.int .i64 a, .int .i64 b, .int .i64 c, .int .i64 d, .int .i64 y, .int .i64 u, .int .i64 0, .int .i64 p, .int .i64 m] from (N3.out.set 7 _)) Try.underlying27 rfl szB ?_)
        | (refine list_store rfl 27 _ _ rfl (w.heap.size + 1) #[.int .i64 a, .int .i64 b, .int .i64 c, .int .i64 d, .int .i64 y, .int .i64 u, .int .i64 0, .int .i64 p, .int .i64 m] rfl rfl 27 _ (show Bx 27 _ (w.heap.size + 1) #[.int .i64 0, .int .i64 0, .int .i64 0, .int .i64 0, .int .i64 0, .int .i64 0, .int .i64 0, .int .i64 0, .int .i64 0] from (Z3.out.other (by omega) _ _)) rfl szB (one9 _ _ _ _ _ _ _ _ _) ?_; intro wz hz))
      (try simp only [Exit.inBlock, Exit.then])
      refine bodyPost_ret (v := .tuple #[.agg #[.int .i64 a, .int .i64 b, .int .i64 c, .int .i64 d, .int .i64 y, .int .i64 u, .int .i64 0, .int .i64 p, .int .i64 m], .bool true]) ?_ rfl ?_
      · rw [results_cell_tmp1 rfl]
        exact back2 hz.box Try.underlying27 rfl szB _
      · exact ⟨by rw [HE.out, HA.out], (hz.on (B3.out.setCell (p := ⟨q, 7, none⟩) (by simp <;> omega) _) (by simp <;> omega))⟩
  | false =>
    have HE := Lib.hid (show fai ⟨a, b, c, d, x, t, j, r, n⟩ s = ⟨a, b, c, d, x, t, j, r, n⟩ by unfold fai; rw [HV.out]; rfl)
    have HA := Lib.hid (show aga ⟨a, b, c, d, x, t, j, r, n⟩ = false by unfold aga; rw [HV.out]; rfl)
    go_wp2_with (first
      | (refine list_load rfl 27 _ rfl (w.heap.size) rfl 27 _ (show Bx 27 _ (w.heap.size) #[.int .i64 a, .int .i64 b, .int .i64 c, .int .i64 d, .int .i64 x, .int .i64 t, .int .i64 j, .int .i64 r, .int .i64 n] from X1.out) Try.underlying27 rfl szB ?_)
      | (refine list_store rfl 27 _ _ rfl (w.heap.size + 1) #[.int .i64 a, .int .i64 b, .int .i64 c, .int .i64 d, .int .i64 x, .int .i64 t, .int .i64 j, .int .i64 r, .int .i64 n] rfl rfl 27 _ (show Bx 27 _ (w.heap.size + 1) #[.int .i64 0, .int .i64 0, .int .i64 0, .int .i64 0, .int .i64 0, .int .i64 0, .int .i64 0, .int .i64 0, .int .i64 0] from Z1.out) rfl szB (one9 _ _ _ _ _ _ _ _ _) ?_; intro wz hz))
    (try simp only [Exit.inBlock, Exit.then])
    refine bodyPost_ret (v := .tuple #[.agg #[.int .i64 a, .int .i64 b, .int .i64 c, .int .i64 d, .int .i64 x, .int .i64 t, .int .i64 j, .int .i64 r, .int .i64 n], .bool false]) ?_ rfl ?_
    · rw [results_cell_tmp1 rfl]
      exact back2 hz.box Try.underlying27 rfl szB _
    · exact ⟨by rw [HE.out, HA.out], (hz.on B1.out (by simp <;> omega))⟩
set_option maxRecDepth 100000 in
set_option maxHeartbeats 4000000 in
theorem specFl (a b c d x t j r n : Int) (s : Int) (hs : (Lit.int .i64 s).wf = true) (w : World) :
    Calls Try.prog 26 #[.agg #[.int .i64 a, .int .i64 b, .int .i64 c, .int .i64 d, .int .i64 x, .int .i64 t, .int .i64 j, .int .i64 r, .int .i64 n], .int .i64 s] w (FPost (fai ⟨a, b, c, d, x, t, j, r, n⟩ s) (aga ⟨a, b, c, d, x, t, j, r, n⟩) w) := by
  obtain ⟨v, hv⟩ : ∃ v, vb ⟨a, b, c, d, x, t, j, r, n⟩ = v := ⟨_, rfl⟩
  have HV := Lib.hid hv
  have HS := Lib.hid hs
  clear hv hs
  go_enter Try.func26, Try.ntmps26
  go_wp2_with fail
  obtain ⟨w0, hW⟩ : ∃ w0, (w.alloc (.cells #[.int .i64 a, .int .i64 b, .int .i64 c, .int .i64 d, .int .i64 x, .int .i64 t, .int .i64 j, .int .i64 r, .int .i64 n] 27)).alloc (.cells #[.int .i64 0, .int .i64 0, .int .i64 0, .int .i64 0, .int .i64 0, .int .i64 0, .int .i64 0, .int .i64 0, .int .i64 0] 27) = w0 := ⟨_, rfl⟩
  rw [hW]
  have B0 := Lib.hid (show Below w.heap.size w w0 by rw [← hW]; exact ((Below.refl _ _).alloc (by simp <;> omega) _).alloc (by simp <;> omega) _)
  have X0 := Lib.hid (show Bx 27 w0 (w.heap.size) #[.int .i64 a, .int .i64 b, .int .i64 c, .int .i64 d, .int .i64 x, .int .i64 t, .int .i64 j, .int .i64 r, .int .i64 n] by
    rw [← hW]
    have hh := Bx.made 27 w #[.int .i64 a, .int .i64 b, .int .i64 c, .int .i64 d, .int .i64 x, .int .i64 t, .int .i64 j, .int .i64 r, .int .i64 n]
    exact (hh.below (below_box _ _)))
  have Z0 := Lib.hid (show Bx 27 w0 (w.heap.size + 1) #[.int .i64 0, .int .i64 0, .int .i64 0, .int .i64 0, .int .i64 0, .int .i64 0, .int .i64 0, .int .i64 0, .int .i64 0] by
    rw [← hW]
    have hh : Bx 27 ((w.alloc (.cells #[.int .i64 a, .int .i64 b, .int .i64 c, .int .i64 d, .int .i64 x, .int .i64 t, .int .i64 j, .int .i64 r, .int .i64 n] 27)).alloc (.cells #[.int .i64 0, .int .i64 0, .int .i64 0, .int .i64 0, .int .i64 0, .int .i64 0, .int .i64 0, .int .i64 0, .int .i64 0] 27)) (w.heap.size + 1) #[.int .i64 0, .int .i64 0, .int .i64 0, .int .i64 0, .int .i64 0, .int .i64 0, .int .i64 0, .int .i64 0, .int .i64 0] := by have hh := Bx.made 27 (w.alloc (.cells #[.int .i64 a, .int .i64 b, .int .i64 c, .int .i64 d, .int .i64 x, .int .i64 t, .int .i64 j, .int .i64 r, .int .i64 n] 27)) #[.int .i64 0, .int .i64 0, .int .i64 0, .int .i64 0, .int .i64 0, .int .i64 0, .int .i64 0, .int .i64 0, .int .i64 0]; simpa using hh
    exact hh)
  clear hW
  (with_reducible refine (specVb a b c d x t j r n _).mono ?_)
  rintro e w1 hp
  obtain ⟨rfl, hb⟩ := b_parts HV.out hp
  clear hp
  have B1 := Lib.hid (B0.out.trans (hb.mono B0.out.size))
  have X1 := Lib.hid (X0.out.below hb)
  have Z1 := Lib.hid (Z0.out.below hb)
  clear hb B0 X0 Z0
  cases v with
  | true =>
    by_cases hr7 : r = 7
    · subst hr7
      have hn : 0 ≤ n ∧ n ≤ 1000000000000 := (vb_iff.1 HV.out).draws
      obtain ⟨u, hu⟩ : ∃ u, wt s n b = u := ⟨_, rfl⟩
      obtain ⟨m, hm⟩ : ∃ m, mn (n + 1) 1000000000000 = m := ⟨_, rfl⟩
      have HR2 := Lib.hid (show red ⟨a, b, c, d, x, t, j, 7, n⟩ s b 0 = ⟨a, b, c, d, b, u, 0, 0, m⟩ by unfold red; show (⟨a, b, c, d, b, wt s n b, 0, 0, mn (n + 1) 1000000000000⟩ : Bo) = _; rw [hu, hm])
      have HE := Lib.hid (show suc ⟨a, b, c, d, x, t, j, 7, n⟩ s = ⟨a, b, c, d, b, u, 0, 0, m⟩ by unfold suc; rw [if_pos HV.out]; exact HR2.out)
      have HN := Lib.hid hn
      clear hu hm hn
      have HE2 := Lib.hid (show fai ⟨a, b, c, d, x, t, j, 7, n⟩ s = ⟨a, b, c, d, b, u, 0, 0, m⟩ by unfold fai; rw [if_pos HV.out, if_pos rfl]; exact HR2.out)
      have HA := Lib.hid (show aga ⟨a, b, c, d, x, t, j, 7, n⟩ = false by unfold aga; rw [HV.out]; rfl)
      have cX7 : w1.cell? ⟨w.heap.size, 7, none⟩ = some (.int .i64 7) := X1.out.cell 7
      go_wp2_with (refine list_load rfl 27 _ rfl (w.heap.size) rfl 27 _ X1.out Try.underlying27 rfl szB ?_)
      (with_reducible refine (specSc a b c d x t j 7 n s HS.out _).mono ?_)
      rintro e w2 hp
      obtain ⟨rfl, hb⟩ := o_parts HE.out hp
      clear hp
      clear cX7
      have B2 := Lib.hid (B1.out.trans (hb.mono B1.out.size))
      have X2 := Lib.hid (X1.out.below hb)
      have Z2 := Lib.hid (Z1.out.below hb)
      clear hb B1 X1 Z1
      go_wp2_with (refine list_store rfl 27 _ _ rfl (w.heap.size + 1) #[.int .i64 a, .int .i64 b, .int .i64 c, .int .i64 d, .int .i64 b, .int .i64 u, .int .i64 0, .int .i64 0, .int .i64 m] rfl rfl 27 _ Z2.out rfl szB (one9 _ _ _ _ _ _ _ _ _) ?_; intro wz hz)
      (try simp only [Exit.inBlock, Exit.then])
      refine bodyPost_ret (v := .tuple #[.agg #[.int .i64 a, .int .i64 b, .int .i64 c, .int .i64 d, .int .i64 b, .int .i64 u, .int .i64 0, .int .i64 0, .int .i64 m], .bool false]) ?_ rfl ?_
      · rw [results_cell_tmp1 rfl]
        exact back2 hz.box Try.underlying27 rfl szB _
      · exact ⟨by rw [HE2.out, HA.out], (hz.on B2.out (by simp <;> omega))⟩
    · have HQ := vb_iff.1 HV.out
      have hn : 0 ≤ n ∧ n ≤ 1000000000000 := HQ.draws
      have hp7 : 0 ≤ r ∧ r ≤ 7 := HQ.tries
      have HP := Lib.hid HQ.par
      clear HQ
      obtain ⟨p, hp⟩ : ∃ p, r + 1 = p := ⟨_, rfl⟩
      have m1 : IntKind.i64.wrap p = p := IntWalk.i64_in _ (by omega)
      obtain ⟨y, hy⟩ : ∃ y, nw a b c d x = y := ⟨_, rfl⟩
      have HW := Lib.hid hy
      have hy2 : nx b c x = y := by rw [← hy, nw_yes (vp_iff.2 HP.out)]
      obtain ⟨u, hu⟩ : ∃ u, wt s n y = u := ⟨_, rfl⟩
      obtain ⟨m, hm⟩ : ∃ m, mn (n + 1) 1000000000000 = m := ⟨_, rfl⟩
      have HR := Lib.hid (show red ⟨a, b, c, d, x, t, j, r, n⟩ s y p = ⟨a, b, c, d, y, u, 0, p, m⟩ by unfold red; show (⟨a, b, c, d, y, wt s n y, 0, p, mn (n + 1) 1000000000000⟩ : Bo) = _; rw [hu, hm])
      have HE := Lib.hid (show fai ⟨a, b, c, d, x, t, j, r, n⟩ s = ⟨a, b, c, d, y, u, 0, p, m⟩ by unfold fai; rw [if_pos HV.out, if_neg hr7]; show red ⟨a, b, c, d, x, t, j, r, n⟩ s (nx b c x) (r + 1) = _; rw [hy2, hp]; unfold red; show (⟨a, b, c, d, y, wt s n y, 0, p, mn (n + 1) 1000000000000⟩ : Bo) = _; rw [hu, hm])
      have HA := Lib.hid (show aga ⟨a, b, c, d, x, t, j, r, n⟩ = true by unfold aga; rw [HV.out]; simp [hr7])
      have HN := Lib.hid hn
      have e7 : (r == 7) = false := by simpa using hr7
      have HR7 := Lib.hid hr7
      have HP1 := Lib.hid hp
      clear hn hp7 hu hm hy hy2 hr7 hp
      have cX7 : w1.cell? ⟨w.heap.size, 7, none⟩ = some (.int .i64 r) := X1.out.cell 7
      go_wp2_with fail
      clear cX7
      clear e7
      have e8 := HP1.out
      refine reg.region_tail reg.Bel 11 27 [some [], some [], some [], some [(2, 18)], some [], some [(4, 20)], some [(3, 19), (5, 21)], some [], some [(7, 23)], some [(8, 24)], some [(0, 16), (1, 17), (6, 22), (9, 25)], none, none] [(0, 16), (1, 17), (2, 18), (3, 19), (4, 20), (5, 21), (6, 22), (7, 23), (8, 24), (9, 25), (10, 26)]
        (fun w' => Below w.heap.size w w' ∧ Bx 27 w' (w.heap.size) #[.int .i64 a, .int .i64 b, .int .i64 c, .int .i64 d, .int .i64 x, .int .i64 t, .int .i64 j, .int .i64 r, .int .i64 n] ∧ Bx 27 w' (w.heap.size + 1) #[.int .i64 0, .int .i64 0, .int .i64 0, .int .i64 0, .int .i64 0, .int .i64 0, .int .i64 0, .int .i64 0, .int .i64 0])
        (reg.rl [reg.is (.agg #[.int .i64 a, .int .i64 b, .int .i64 c, .int .i64 d, .int .i64 x, .int .i64 t, .int .i64 j, .int .i64 r, .int .i64 n]), reg.is (.int .i64 s), reg.is (.pointer (some ⟨w.heap.size, 0, none⟩)), reg.is (.agg #[.int .i64 a, .int .i64 b, .int .i64 c, .int .i64 d]), reg.is (.pointer (some ⟨w.heap.size, 4, none⟩)), reg.is (.int .i64 x), reg.is (.int .i64 y), reg.is (.pointer (some ⟨w.heap.size, 7, none⟩)), reg.is (.int .i64 r), reg.is (.int .i64 p), reg.is (.agg #[.int .i64 a, .int .i64 b, .int .i64 c, .int .i64 d, .int .i64 y, .int .i64 u, .int .i64 0, .int .i64 p, .int .i64 m]), reg.free, reg.free])
        (by kernel_rfl) rfl (by kernel_rfl) (by kernel_rfl) rfl
        (fun w1 w2 hc hb => ⟨hc.1.trans (hb.mono hc.1.size), hc.2.1.below hb, hc.2.2.below hb⟩) (reg.rl_keep _) (⟨own.below_drew B1.out, X1.out.same rfl, Z1.out.same rfl⟩) (by kernel_rfl) ⟨?_, ?_, ?_, ?_, ?_, ?_, ?_, ?_, ?_, ?_, ?_, trivial⟩ ?_
      · refine fun w8 hc  K hK => ?_
        (try simp only [Act.put, List.setIfInBounds_toArray, List.set_cons_zero, List.set_cons_succ])
        refine step_load rfl 27 _ rfl (w.heap.size) rfl 27 _ hc.2.1 Try.underlying27 rfl szB ?_
        exact hK _ _ rfl (Below.refl _ _)
      · refine fun w8 hc  K hK => ?_
        (try simp only [Act.put, List.setIfInBounds_toArray, List.set_cons_zero, List.set_cons_succ])
        go_simp
        exact hK (.int .i64 s) _ rfl (Below.refl _ _)
      · refine fun w8 hc  K hK => ?_
        (try simp only [Act.put, List.setIfInBounds_toArray, List.set_cons_zero, List.set_cons_succ])
        go_simp
        exact hK (.pointer (some ⟨w.heap.size, 0, none⟩)) _ rfl (Below.refl _ _)
      · refine fun w8 hc v2 h2 K hK => ?_
        obtain rfl : v2 = .pointer (some ⟨w.heap.size, 0, none⟩) := h2
        (try simp only [Act.put, List.setIfInBounds_toArray, List.set_cons_zero, List.set_cons_succ])
        refine step_part rfl 25 _ rfl (w.heap.size) 0 [.int .i64 a, .int .i64 b, .int .i64 c, .int .i64 d] rfl 27 _ hc.2.1 rfl Try.underlying25 rfl szP ?_
        exact hK _ _ rfl (Below.refl _ _)
      · refine fun w8 hc  K hK => ?_
        (try simp only [Act.put, List.setIfInBounds_toArray, List.set_cons_zero, List.set_cons_succ])
        go_simp
        exact hK (.pointer (some ⟨w.heap.size, 4, none⟩)) _ rfl (Below.refl _ _)
      · refine fun w8 hc v4 h4 K hK => ?_
        obtain rfl : v4 = .pointer (some ⟨w.heap.size, 4, none⟩) := h4
        (try simp only [Act.put, List.setIfInBounds_toArray, List.set_cons_zero, List.set_cons_succ])
        have c0 : w8.cell? ⟨w.heap.size, 4, none⟩ = some (.int .i64 x) := hc.2.1.cell 4
        go_simp
        exact hK (.int .i64 x) _ rfl (Below.refl _ _)
      · refine fun w8 hc v3 h3 v5 h5 K hK => ?_
        obtain rfl : v3 = .agg #[.int .i64 a, .int .i64 b, .int .i64 c, .int .i64 d] := h3
        obtain rfl : v5 = .int .i64 x := h5
        (try simp only [Act.put, List.setIfInBounds_toArray, List.set_cons_zero, List.set_cons_succ])
        go_simp
        (with_reducible refine (specNw a b c d x _).mono ?_)
        rintro e w3 hp
        obtain ⟨rfl, hb⟩ := n_parts HW.out hp
        exact hK _ _ rfl hb
      · refine fun w8 hc  K hK => ?_
        (try simp only [Act.put, List.setIfInBounds_toArray, List.set_cons_zero, List.set_cons_succ])
        go_simp
        exact hK (.pointer (some ⟨w.heap.size, 7, none⟩)) _ rfl (Below.refl _ _)
      · refine fun w8 hc v7 h7 K hK => ?_
        obtain rfl : v7 = .pointer (some ⟨w.heap.size, 7, none⟩) := h7
        (try simp only [Act.put, List.setIfInBounds_toArray, List.set_cons_zero, List.set_cons_succ])
        have c0 : w8.cell? ⟨w.heap.size, 7, none⟩ = some (.int .i64 r) := hc.2.1.cell 7
        go_simp
        exact hK (.int .i64 r) _ rfl (Below.refl _ _)
      · refine fun w8 hc v8 h8 K hK => ?_
        obtain rfl : v8 = .int .i64 r := h8
        (try simp only [Act.put, List.setIfInBounds_toArray, List.set_cons_zero, List.set_cons_succ])
        go_simp
        exact hK (.int .i64 p) _ rfl (Below.refl _ _)
      · refine fun w8 hc v0 h0 v1 h1 v6 h6 v9 h9 K hK => ?_
        obtain rfl : v0 = .agg #[.int .i64 a, .int .i64 b, .int .i64 c, .int .i64 d, .int .i64 x, .int .i64 t, .int .i64 j, .int .i64 r, .int .i64 n] := h0
        obtain rfl : v1 = .int .i64 s := h1
        obtain rfl : v6 = .int .i64 y := h6
        obtain rfl : v9 = .int .i64 p := h9
        (try simp only [Act.put, List.setIfInBounds_toArray, List.set_cons_zero, List.set_cons_succ])
        go_simp
        (with_reducible refine (specDr a b c d x t j r n s y p HS.out HN.out _).mono ?_)
        rintro e w3 hp
        obtain ⟨rfl, hb⟩ := o_parts HR.out hp
        exact hK _ _ rfl hb
      refine fun w9 hc v0 h0 v1 h1 v2 h2 v3 h3 v4 h4 v5 h5 v6 h6 v7 h7 v8 h8 v9 h9 v10 h10 => ?_
      obtain rfl : v0 = .agg #[.int .i64 a, .int .i64 b, .int .i64 c, .int .i64 d, .int .i64 x, .int .i64 t, .int .i64 j, .int .i64 r, .int .i64 n] := h0
      obtain rfl : v1 = .int .i64 s := h1
      obtain rfl : v2 = .pointer (some ⟨w.heap.size, 0, none⟩) := h2
      obtain rfl : v3 = .agg #[.int .i64 a, .int .i64 b, .int .i64 c, .int .i64 d] := h3
      obtain rfl : v4 = .pointer (some ⟨w.heap.size, 4, none⟩) := h4
      obtain rfl : v5 = .int .i64 x := h5
      obtain rfl : v6 = .int .i64 y := h6
      obtain rfl : v7 = .pointer (some ⟨w.heap.size, 7, none⟩) := h7
      obtain rfl : v8 = .int .i64 r := h8
      obtain rfl : v9 = .int .i64 p := h9
      obtain rfl : v10 = .agg #[.int .i64 a, .int .i64 b, .int .i64 c, .int .i64 d, .int .i64 y, .int .i64 u, .int .i64 0, .int .i64 p, .int .i64 m] := h10
      (try simp only [reg.Obs])
      (try simp only [Act.put, List.setIfInBounds_toArray, List.set_cons_zero, List.set_cons_succ])
      simp only [List.drop_succ_cons, List.drop_zero]
      have B2 := Lib.hid hc.1
      have X2 := Lib.hid hc.2.1
      have Z2 := Lib.hid hc.2.2
      clear hc B1 X1 Z1
      refine list_store rfl 27 _ _ rfl (w.heap.size + 1) #[.int .i64 a, .int .i64 b, .int .i64 c, .int .i64 d, .int .i64 y, .int .i64 u, .int .i64 0, .int .i64 p, .int .i64 m] rfl rfl 27 _ Z2.out rfl szB (one9 _ _ _ _ _ _ _ _ _) ?_
      intro wz hz
      (try simp only [Act.put])
      have B3 := Lib.hid (hz.on B2.out (by first | omega | (simp <;> omega)))
      have X3 := Lib.hid (hz.keep X2.out (by first | omega | (simp <;> omega)))
      have Z3 := Lib.hid (hz.box)
      clear hz B2 X2 Z2
      (try go_wp2_with fail)
      (try simp only [Exit.inBlock, Exit.then])
      refine bodyPost_ret (v := .tuple #[.agg #[.int .i64 a, .int .i64 b, .int .i64 c, .int .i64 d, .int .i64 y, .int .i64 u, .int .i64 0, .int .i64 p, .int .i64 m], .bool true]) ?_ rfl ?_
      · rw [results_cell_tmp1 rfl]
        exact back2 Z3.out Try.underlying27 rfl szB _
      · exact ⟨by rw [HE.out, HA.out], B3.out⟩
  | false =>
    have HE := Lib.hid (show fai ⟨a, b, c, d, x, t, j, r, n⟩ s = ⟨a, b, c, d, x, t, j, r, n⟩ by unfold fai; rw [HV.out]; rfl)
    have HA := Lib.hid (show aga ⟨a, b, c, d, x, t, j, r, n⟩ = false by unfold aga; rw [HV.out]; rfl)
    go_wp2_with (first
      | (refine list_load rfl 27 _ rfl (w.heap.size) rfl 27 _ (show Bx 27 _ (w.heap.size) #[.int .i64 a, .int .i64 b, .int .i64 c, .int .i64 d, .int .i64 x, .int .i64 t, .int .i64 j, .int .i64 r, .int .i64 n] from X1.out) Try.underlying27 rfl szB ?_)
      | (refine list_store rfl 27 _ _ rfl (w.heap.size + 1) #[.int .i64 a, .int .i64 b, .int .i64 c, .int .i64 d, .int .i64 x, .int .i64 t, .int .i64 j, .int .i64 r, .int .i64 n] rfl rfl 27 _ (show Bx 27 _ (w.heap.size + 1) #[.int .i64 0, .int .i64 0, .int .i64 0, .int .i64 0, .int .i64 0, .int .i64 0, .int .i64 0, .int .i64 0, .int .i64 0] from Z1.out) rfl szB (one9 _ _ _ _ _ _ _ _ _) ?_; intro wz hz))
    (try simp only [Exit.inBlock, Exit.then])
    refine bodyPost_ret (v := .tuple #[.agg #[.int .i64 a, .int .i64 b, .int .i64 c, .int .i64 d, .int .i64 x, .int .i64 t, .int .i64 j, .int .i64 r, .int .i64 n], .bool false]) ?_ rfl ?_
    · rw [results_cell_tmp1 rfl]
      exact back2 hz.box Try.underlying27 rfl szB _
    · exact ⟨by rw [HE.out, HA.out], (hz.on B1.out (by simp <;> omega))⟩
end Go.Proofs.Ytkfkfejjhfkobaa.bx
