/- ReplyTo, program and specification. Condition: none. -/
import Derived.Test.YtnnlkkohbjolaaaFb2
import Derived.Test.YtnnlkkohbjolaaaFb3
import Derived.Test.YtnnlkkohbjolaaaFhr
import Derived.Deep.RegionHeld3
namespace Go.Proofs.Ytnnlkkohbjolaaa.fbx
open Go.RowKit sl harn rng frm
set_option linter.unusedVariables false
theorem six {k f t s g : Int} {m r : Bool} {d : Int} {A : Option Addr} {n cap : Nat} {w : World} {b : Nat} (h : Bx 25 w b #[.int .i64 k, .int .i64 f, .int .i64 t, .int .i64 s, .int .i64 g, .bool m, .bool r, .int .i64 d, .slice A n cap]) : w.cell? ⟨b, 0, none⟩ = some (.int .i64 k) ∧ w.cell? ⟨b, 1, none⟩ = some (.int .i64 f) ∧ w.cell? ⟨b, 2, none⟩ = some (.int .i64 t) ∧ w.cell? ⟨b, 3, none⟩ = some (.int .i64 s) ∧ w.cell? ⟨b, 4, none⟩ = some (.int .i64 g) ∧ w.cell? ⟨b, 5, none⟩ = some (.bool m) ∧ w.cell? ⟨b, 6, none⟩ = some (.bool r) ∧ w.cell? ⟨b, 7, none⟩ = some (.int .i64 d) ∧ w.cell? ⟨b, 8, none⟩ = some (.slice A n cap) := ⟨h.cell 0, h.cell 1, h.cell 2, h.cell 3, h.cell 4, h.cell 5, h.cell 6, h.cell 7, h.cell 8⟩

set_option maxRecDepth 100000 in
set_option maxHeartbeats 4000000 in
theorem implRt (k f t s g : Int) (m r : Bool) (d : Int) (A : Option Addr) (n cap : Nat) (z : List Int) (hz : z.length = n) (hd : (Lit.int .i64 d).wf = true) (w : World) :
    Calls Try.prog 38 #[.agg #[.int .i64 k, .int .i64 f, .int .i64 t, .int .i64 s, .int .i64 g, .bool m, .bool r, .int .i64 d, .slice A n cap]] w (DPost (rt ⟨k, f, t, s, g, m, r, d, z⟩) w) := by
  have HL := Lib.hid hz
  obtain ⟨c, hc⟩ : ∃ c, rk k t = c := ⟨_, rfl⟩
  have HC := Lib.hid hc
  by_cases hv : Vf ⟨k, f, t, s, g, m, r, d, z⟩
  · have HV := Lib.hid (decide_eq_true hv)
    by_cases hc0 : c = 0
    · have e0 : (c == 0) = true := by simpa using hc0
      have HD := Lib.hid (show rt ⟨k, f, t, s, g, m, r, d, z⟩ = (⟨0, 0, 0, 0, 0, false, false, 0, []⟩, false) from rt_no fun h => h.2 (hc.trans hc0))
      clear hz hd hc hv hc0
      go_enter Try.func38, Try.ntmps38
      go_wp2_with fail
      obtain ⟨w0, hW⟩ : ∃ w0, (w.alloc (.cells #[.int .i64 k, .int .i64 f, .int .i64 t, .int .i64 s, .int .i64 g, .bool m, .bool r, .int .i64 d, .slice A n cap] 25)).alloc (.cells #[.int .i64 0, .int .i64 0, .int .i64 0, .int .i64 0, .int .i64 0, .bool false, .bool false, .int .i64 0, .slice none 0 0] 25) = w0 := ⟨_, rfl⟩
      rw [hW]
      have B0 := Lib.hid (show Below w.heap.size w w0 by rw [← hW]; exact below_box2 w _ _)
      have X0 := Lib.hid (show Bx 25 w0 w.heap.size #[.int .i64 k, .int .i64 f, .int .i64 t, .int .i64 s, .int .i64 g, .bool m, .bool r, .int .i64 d, .slice A n cap] by rw [← hW]; exact (Bx.made _ w _).below (below_box _ _))
      have Z0 := Lib.hid (show Bx 25 w0 (w.heap.size + 1) #[.int .i64 0, .int .i64 0, .int .i64 0, .int .i64 0, .int .i64 0, .bool false, .bool false, .int .i64 0, .slice none 0 0] by rw [← hW]; have hh := Bx.made 25 (w.alloc (.cells #[.int .i64 k, .int .i64 f, .int .i64 t, .int .i64 s, .int .i64 g, .bool m, .bool r, .int .i64 d, .slice A n cap] 25)) #[.int .i64 0, .int .i64 0, .int .i64 0, .int .i64 0, .int .i64 0, .bool false, .bool false, .int .i64 0, .slice none 0 0]; simpa using hh)
      clear hW
      (with_reducible refine (implRk k f t s g m r d A n cap _).mono ?_)
      rw [HC.out]
      rintro e1 w1 ⟨rfl, hb⟩
      have X1 := Lib.hid (X0.out.below hb)
      have Z1 := Lib.hid (Z0.out.below hb)
      have B1 := Lib.hid (B0.out.trans (hb.mono B0.out.size))
      clear hb X0 Z0 B0
      have c0 : w1.cell? ⟨w.heap.size, 0, none⟩ = some (.int .i64 k) := X1.out.cell 0
      have c1 : w1.cell? ⟨w.heap.size, 1, none⟩ = some (.int .i64 f) := X1.out.cell 1
      have c2 : w1.cell? ⟨w.heap.size, 2, none⟩ = some (.int .i64 t) := X1.out.cell 2
      have c3 : w1.cell? ⟨w.heap.size, 3, none⟩ = some (.int .i64 s) := X1.out.cell 3
      have c4 : w1.cell? ⟨w.heap.size, 4, none⟩ = some (.int .i64 g) := X1.out.cell 4
      have c5 : w1.cell? ⟨w.heap.size, 5, none⟩ = some (.bool m) := X1.out.cell 5
      have c6 : w1.cell? ⟨w.heap.size, 6, none⟩ = some (.bool r) := X1.out.cell 6
      have c7 : w1.cell? ⟨w.heap.size, 7, none⟩ = some (.int .i64 d) := X1.out.cell 7
      have c8 : w1.cell? ⟨w.heap.size, 8, none⟩ = some (.slice A n cap) := X1.out.cell 8
      go_wp2_with fail
      clear c0 c1 c2 c3 c4 c5 c6 c7 c8
      (with_reducible refine (implVf k f t s g m r d A n cap z HL.out _).mono ?_)
      rw [HV.out]
      rintro e2 w2 ⟨rfl, hb⟩
      have X2 := Lib.hid (X1.out.below hb)
      have Z2 := Lib.hid (Z1.out.below hb)
      have B2 := Lib.hid (B1.out.trans (hb.mono B1.out.size))
      clear hb X1 Z1 B1
      have z0 : w2.cell? ⟨w.heap.size + 1, 0, none⟩ = some (.int .i64 0) := Z2.out.cell 0
      have z1 : w2.cell? ⟨w.heap.size + 1, 1, none⟩ = some (.int .i64 0) := Z2.out.cell 1
      have z2 : w2.cell? ⟨w.heap.size + 1, 2, none⟩ = some (.int .i64 0) := Z2.out.cell 2
      have z3 : w2.cell? ⟨w.heap.size + 1, 3, none⟩ = some (.int .i64 0) := Z2.out.cell 3
      have z4 : w2.cell? ⟨w.heap.size + 1, 4, none⟩ = some (.int .i64 0) := Z2.out.cell 4
      have z5 : w2.cell? ⟨w.heap.size + 1, 5, none⟩ = some (.bool false) := Z2.out.cell 5
      have z6 : w2.cell? ⟨w.heap.size + 1, 6, none⟩ = some (.bool false) := Z2.out.cell 6
      have z7 : w2.cell? ⟨w.heap.size + 1, 7, none⟩ = some (.int .i64 0) := Z2.out.cell 7
      have z8 : w2.cell? ⟨w.heap.size + 1, 8, none⟩ = some (.slice none 0 0) := Z2.out.cell 8
      have u0 : w2.frozen? ⟨w.heap.size + 1, 0, none⟩ = false := Z2.out.free 0
      have u1 : w2.frozen? ⟨w.heap.size + 1, 1, none⟩ = false := Z2.out.free 1
      have u2 : w2.frozen? ⟨w.heap.size + 1, 2, none⟩ = false := Z2.out.free 2
      have u3 : w2.frozen? ⟨w.heap.size + 1, 3, none⟩ = false := Z2.out.free 3
      have u4 : w2.frozen? ⟨w.heap.size + 1, 4, none⟩ = false := Z2.out.free 4
      have u5 : w2.frozen? ⟨w.heap.size + 1, 5, none⟩ = false := Z2.out.free 5
      have u6 : w2.frozen? ⟨w.heap.size + 1, 6, none⟩ = false := Z2.out.free 6
      have u7 : w2.frozen? ⟨w.heap.size + 1, 7, none⟩ = false := Z2.out.free 7
      have u8 : w2.frozen? ⟨w.heap.size + 1, 8, none⟩ = false := Z2.out.free 8
      go_wp2_with fail
      (try simp only [Exit.inBlock, Exit.then])
      refine bodyPost_ret (v := .tuple #[.agg #[.int .i64 0, .int .i64 0, .int .i64 0, .int .i64 0, .int .i64 0, .bool false, .bool false, .int .i64 0, .slice none 0 0], .bool false]) ?_ rfl (DPost.make HD.out (ow_none _ _ _ w.heap.size w.heap.size ?_) ?_)
      · rw [results_cell_tmp1 rfl]
        go_simp
      · rw [size_nine]; exact B2.out.size
      · exact below_nine B2.out (by omega) _ _ _ _ _ _ _ _ _
    · have e0 : (c == 0) = false := by simpa using hc0
      obtain ⟨dd, hdd⟩ : ∃ dd, d - 1 = dd := ⟨_, rfl⟩
      obtain ⟨e, he⟩ : ∃ e, e = if 0 < dd then dd else 0 := ⟨_, rfl⟩
      have HE := Lib.hid he
      have hw : IntKind.i64.wrap (d - 1) = dd := by rw [← hdd]; exact IntWalk.i64_in _ (by have := hv.2.2.2.1.2.2; simp at this; omega)
      have HD := Lib.hid (show rt ⟨k, f, t, s, g, m, r, d, z⟩ = (⟨c, t, f, s, g, false, false, e, []⟩, true) by rw [rt_yes hv (fun h => hc0 (hc.symm.trans h)), he, ← hdd, ← hc])
      clear hz hd hc hv hc0 hdd he
      go_enter Try.func38, Try.ntmps38
      go_wp2_with fail
      obtain ⟨w0, hW⟩ : ∃ w0, (w.alloc (.cells #[.int .i64 k, .int .i64 f, .int .i64 t, .int .i64 s, .int .i64 g, .bool m, .bool r, .int .i64 d, .slice A n cap] 25)).alloc (.cells #[.int .i64 0, .int .i64 0, .int .i64 0, .int .i64 0, .int .i64 0, .bool false, .bool false, .int .i64 0, .slice none 0 0] 25) = w0 := ⟨_, rfl⟩
      rw [hW]
      have B0 := Lib.hid (show Below w.heap.size w w0 by rw [← hW]; exact below_box2 w _ _)
      have X0 := Lib.hid (show Bx 25 w0 w.heap.size #[.int .i64 k, .int .i64 f, .int .i64 t, .int .i64 s, .int .i64 g, .bool m, .bool r, .int .i64 d, .slice A n cap] by rw [← hW]; exact (Bx.made _ w _).below (below_box _ _))
      have Z0 := Lib.hid (show Bx 25 w0 (w.heap.size + 1) #[.int .i64 0, .int .i64 0, .int .i64 0, .int .i64 0, .int .i64 0, .bool false, .bool false, .int .i64 0, .slice none 0 0] by rw [← hW]; have hh := Bx.made 25 (w.alloc (.cells #[.int .i64 k, .int .i64 f, .int .i64 t, .int .i64 s, .int .i64 g, .bool m, .bool r, .int .i64 d, .slice A n cap] 25)) #[.int .i64 0, .int .i64 0, .int .i64 0, .int .i64 0, .int .i64 0, .bool false, .bool false, .int .i64 0, .slice none 0 0]; simpa using hh)
      clear hW
      (with_reducible refine (implRk k f t s g m r d A n cap _).mono ?_)
      rw [HC.out]
      rintro e1 w1 ⟨rfl, hb⟩
      have X1 := Lib.hid (X0.out.below hb)
      have Z1 := Lib.hid (Z0.out.below hb)
      have B1 := Lib.hid (B0.out.trans (hb.mono B0.out.size))
      clear hb X0 Z0 B0
      have c0 : w1.cell? ⟨w.heap.size, 0, none⟩ = some (.int .i64 k) := X1.out.cell 0
      have c1 : w1.cell? ⟨w.heap.size, 1, none⟩ = some (.int .i64 f) := X1.out.cell 1
      have c2 : w1.cell? ⟨w.heap.size, 2, none⟩ = some (.int .i64 t) := X1.out.cell 2
      have c3 : w1.cell? ⟨w.heap.size, 3, none⟩ = some (.int .i64 s) := X1.out.cell 3
      have c4 : w1.cell? ⟨w.heap.size, 4, none⟩ = some (.int .i64 g) := X1.out.cell 4
      have c5 : w1.cell? ⟨w.heap.size, 5, none⟩ = some (.bool m) := X1.out.cell 5
      have c6 : w1.cell? ⟨w.heap.size, 6, none⟩ = some (.bool r) := X1.out.cell 6
      have c7 : w1.cell? ⟨w.heap.size, 7, none⟩ = some (.int .i64 d) := X1.out.cell 7
      have c8 : w1.cell? ⟨w.heap.size, 8, none⟩ = some (.slice A n cap) := X1.out.cell 8
      go_wp2_with fail
      clear c0 c1 c2 c3 c4 c5 c6 c7 c8
      (with_reducible refine (implVf k f t s g m r d A n cap z HL.out _).mono ?_)
      rw [HV.out]
      rintro e2 w2 ⟨rfl, hb⟩
      have X2 := Lib.hid (X1.out.below hb)
      have Z2 := Lib.hid (Z1.out.below hb)
      have B2 := Lib.hid (B1.out.trans (hb.mono B1.out.size))
      clear hb X1 Z1 B1
      go_wp2_with fail
      have X3 := Lib.hid (show Bx 25 w2.drew w.heap.size #[.int .i64 k, .int .i64 f, .int .i64 t, .int .i64 s, .int .i64 g, .bool m, .bool r, .int .i64 d, .slice A n cap] from X2.out.same rfl)
      have Z3 := Lib.hid (show Bx 25 w2.drew (w.heap.size + 1) #[.int .i64 0, .int .i64 0, .int .i64 0, .int .i64 0, .int .i64 0, .bool false, .bool false, .int .i64 0, .slice none 0 0] from Z2.out.same rfl)
      have B3 := Lib.hid (own.below_drew B2.out)
      have c0 : w2.drew.cell? ⟨w.heap.size, 0, none⟩ = some (.int .i64 k) := X3.out.cell 0
      have c1 : w2.drew.cell? ⟨w.heap.size, 1, none⟩ = some (.int .i64 f) := X3.out.cell 1
      have c2 : w2.drew.cell? ⟨w.heap.size, 2, none⟩ = some (.int .i64 t) := X3.out.cell 2
      have c3 : w2.drew.cell? ⟨w.heap.size, 3, none⟩ = some (.int .i64 s) := X3.out.cell 3
      have c4 : w2.drew.cell? ⟨w.heap.size, 4, none⟩ = some (.int .i64 g) := X3.out.cell 4
      have c5 : w2.drew.cell? ⟨w.heap.size, 5, none⟩ = some (.bool m) := X3.out.cell 5
      have c6 : w2.drew.cell? ⟨w.heap.size, 6, none⟩ = some (.bool r) := X3.out.cell 6
      have c7 : w2.drew.cell? ⟨w.heap.size, 7, none⟩ = some (.int .i64 d) := X3.out.cell 7
      have c8 : w2.drew.cell? ⟨w.heap.size, 8, none⟩ = some (.slice A n cap) := X3.out.cell 8
      go_region_held3 (fun w' => w'.cell? ⟨w.heap.size, 0, none⟩ = some (.int .i64 k) ∧ w'.cell? ⟨w.heap.size, 1, none⟩ = some (.int .i64 f) ∧ w'.cell? ⟨w.heap.size, 2, none⟩ = some (.int .i64 t) ∧ w'.cell? ⟨w.heap.size, 3, none⟩ = some (.int .i64 s) ∧ w'.cell? ⟨w.heap.size, 4, none⟩ = some (.int .i64 g) ∧ w'.cell? ⟨w.heap.size, 5, none⟩ = some (.bool m) ∧ w'.cell? ⟨w.heap.size, 6, none⟩ = some (.bool r) ∧ w'.cell? ⟨w.heap.size, 7, none⟩ = some (.int .i64 d) ∧ w'.cell? ⟨w.heap.size, 8, none⟩ = some (.slice A n cap)) (first | (with_reducible exact KS.out _ _ _ _ _ _ _ _ _) | (with_reducible exact ⟨c0, c1, c2, c3, c4, c5, c6, c7, c8⟩) | (with_reducible exact ⟨d0, d1, d2, d3, d4, d5, d6, d7, d8⟩))
        ((go_at_call 69; refine (rng.implMax 0 dd e HE.out _).mono ?_; rintro e3 w4 ⟨rfl, hb⟩; have X4 := Lib.hid (X3.out.below hb); have Z4 := Lib.hid (Z3.out.below hb); have B4 := Lib.hid (B3.out.trans (hb.mono B3.out.size)); clear hb; have z0 : w4.cell? ⟨w.heap.size + 1, 0, none⟩ = some (.int .i64 0) := Z4.out.cell 0; have z1 : w4.cell? ⟨w.heap.size + 1, 1, none⟩ = some (.int .i64 0) := Z4.out.cell 1; have z2 : w4.cell? ⟨w.heap.size + 1, 2, none⟩ = some (.int .i64 0) := Z4.out.cell 2; have z3 : w4.cell? ⟨w.heap.size + 1, 3, none⟩ = some (.int .i64 0) := Z4.out.cell 3; have z4 : w4.cell? ⟨w.heap.size + 1, 4, none⟩ = some (.int .i64 0) := Z4.out.cell 4; have z5 : w4.cell? ⟨w.heap.size + 1, 5, none⟩ = some (.bool false) := Z4.out.cell 5; have z6 : w4.cell? ⟨w.heap.size + 1, 6, none⟩ = some (.bool false) := Z4.out.cell 6; have z7 : w4.cell? ⟨w.heap.size + 1, 7, none⟩ = some (.int .i64 0) := Z4.out.cell 7; have z8 : w4.cell? ⟨w.heap.size + 1, 8, none⟩ = some (.slice none 0 0) := Z4.out.cell 8; have u0 : w4.frozen? ⟨w.heap.size + 1, 0, none⟩ = false := Z4.out.free 0; have u1 : w4.frozen? ⟨w.heap.size + 1, 1, none⟩ = false := Z4.out.free 1; have u2 : w4.frozen? ⟨w.heap.size + 1, 2, none⟩ = false := Z4.out.free 2; have u3 : w4.frozen? ⟨w.heap.size + 1, 3, none⟩ = false := Z4.out.free 3; have u4 : w4.frozen? ⟨w.heap.size + 1, 4, none⟩ = false := Z4.out.free 4; have u5 : w4.frozen? ⟨w.heap.size + 1, 5, none⟩ = false := Z4.out.free 5; have u6 : w4.frozen? ⟨w.heap.size + 1, 6, none⟩ = false := Z4.out.free 6; have u7 : w4.frozen? ⟨w.heap.size + 1, 7, none⟩ = false := Z4.out.free 7; have u8 : w4.frozen? ⟨w.heap.size + 1, 8, none⟩ = false := Z4.out.free 8; have d0 : w4.cell? ⟨w.heap.size, 0, none⟩ = some (.int .i64 k) := X4.out.cell 0; have d1 : w4.cell? ⟨w.heap.size, 1, none⟩ = some (.int .i64 f) := X4.out.cell 1; have d2 : w4.cell? ⟨w.heap.size, 2, none⟩ = some (.int .i64 t) := X4.out.cell 2; have d3 : w4.cell? ⟨w.heap.size, 3, none⟩ = some (.int .i64 s) := X4.out.cell 3; have d4 : w4.cell? ⟨w.heap.size, 4, none⟩ = some (.int .i64 g) := X4.out.cell 4; have d5 : w4.cell? ⟨w.heap.size, 5, none⟩ = some (.bool m) := X4.out.cell 5; have d6 : w4.cell? ⟨w.heap.size, 6, none⟩ = some (.bool r) := X4.out.cell 6; have d7 : w4.cell? ⟨w.heap.size, 7, none⟩ = some (.int .i64 d) := X4.out.cell 7; have d8 : w4.cell? ⟨w.heap.size, 8, none⟩ = some (.slice A n cap) := X4.out.cell 8; have KS := Lib.hid (fun v0 v1 v2 v3 v4 v5 v6 v7 v8 => six (X4.out.same (block_nine w4 (w.heap.size + 1) w.heap.size (by omega) v0 v1 v2 v3 v4 v5 v6 v7 v8)))))
      go_wp2_with fail
      (try simp only [Exit.inBlock, Exit.then])
      refine bodyPost_ret (v := .tuple #[.agg #[.int .i64 c, .int .i64 t, .int .i64 f, .int .i64 s, .int .i64 g, .bool false, .bool false, .int .i64 e, .slice none 0 0], .bool true]) ?_ rfl (DPost.make HD.out (ow_none _ _ _ w.heap.size w.heap.size ?_) ?_)
      · rw [results_cell_tmp1 rfl]
        go_simp
      · rw [size_nine]; exact B4.out.size
      · exact below_nine B4.out (by omega) _ _ _ _ _ _ _ _ _
  · have HV := Lib.hid (decide_eq_false hv)
    have HD := Lib.hid (show rt ⟨k, f, t, s, g, m, r, d, z⟩ = (⟨0, 0, 0, 0, 0, false, false, 0, []⟩, false) from rt_no fun h => hv h.1)
    clear hz hd hc hv
    go_enter Try.func38, Try.ntmps38
    go_wp2_with fail
    obtain ⟨w0, hW⟩ : ∃ w0, (w.alloc (.cells #[.int .i64 k, .int .i64 f, .int .i64 t, .int .i64 s, .int .i64 g, .bool m, .bool r, .int .i64 d, .slice A n cap] 25)).alloc (.cells #[.int .i64 0, .int .i64 0, .int .i64 0, .int .i64 0, .int .i64 0, .bool false, .bool false, .int .i64 0, .slice none 0 0] 25) = w0 := ⟨_, rfl⟩
    rw [hW]
    have B0 := Lib.hid (show Below w.heap.size w w0 by rw [← hW]; exact below_box2 w _ _)
    have X0 := Lib.hid (show Bx 25 w0 w.heap.size #[.int .i64 k, .int .i64 f, .int .i64 t, .int .i64 s, .int .i64 g, .bool m, .bool r, .int .i64 d, .slice A n cap] by rw [← hW]; exact (Bx.made _ w _).below (below_box _ _))
    have Z0 := Lib.hid (show Bx 25 w0 (w.heap.size + 1) #[.int .i64 0, .int .i64 0, .int .i64 0, .int .i64 0, .int .i64 0, .bool false, .bool false, .int .i64 0, .slice none 0 0] by rw [← hW]; have hh := Bx.made 25 (w.alloc (.cells #[.int .i64 k, .int .i64 f, .int .i64 t, .int .i64 s, .int .i64 g, .bool m, .bool r, .int .i64 d, .slice A n cap] 25)) #[.int .i64 0, .int .i64 0, .int .i64 0, .int .i64 0, .int .i64 0, .bool false, .bool false, .int .i64 0, .slice none 0 0]; simpa using hh)
    clear hW
    (with_reducible refine (implRk k f t s g m r d A n cap _).mono ?_)
    rw [HC.out]
    rintro e1 w1 ⟨rfl, hb⟩
    have X1 := Lib.hid (X0.out.below hb)
    have Z1 := Lib.hid (Z0.out.below hb)
    have B1 := Lib.hid (B0.out.trans (hb.mono B0.out.size))
    clear hb X0 Z0 B0
    have c0 : w1.cell? ⟨w.heap.size, 0, none⟩ = some (.int .i64 k) := X1.out.cell 0
    have c1 : w1.cell? ⟨w.heap.size, 1, none⟩ = some (.int .i64 f) := X1.out.cell 1
    have c2 : w1.cell? ⟨w.heap.size, 2, none⟩ = some (.int .i64 t) := X1.out.cell 2
    have c3 : w1.cell? ⟨w.heap.size, 3, none⟩ = some (.int .i64 s) := X1.out.cell 3
    have c4 : w1.cell? ⟨w.heap.size, 4, none⟩ = some (.int .i64 g) := X1.out.cell 4
    have c5 : w1.cell? ⟨w.heap.size, 5, none⟩ = some (.bool m) := X1.out.cell 5
    have c6 : w1.cell? ⟨w.heap.size, 6, none⟩ = some (.bool r) := X1.out.cell 6
    have c7 : w1.cell? ⟨w.heap.size, 7, none⟩ = some (.int .i64 d) := X1.out.cell 7
    have c8 : w1.cell? ⟨w.heap.size, 8, none⟩ = some (.slice A n cap) := X1.out.cell 8
    go_wp2_with fail
    clear c0 c1 c2 c3 c4 c5 c6 c7 c8
    (with_reducible refine (implVf k f t s g m r d A n cap z HL.out _).mono ?_)
    rw [HV.out]
    rintro e2 w2 ⟨rfl, hb⟩
    have X2 := Lib.hid (X1.out.below hb)
    have Z2 := Lib.hid (Z1.out.below hb)
    have B2 := Lib.hid (B1.out.trans (hb.mono B1.out.size))
    clear hb X1 Z1 B1
    have z0 : w2.cell? ⟨w.heap.size + 1, 0, none⟩ = some (.int .i64 0) := Z2.out.cell 0
    have z1 : w2.cell? ⟨w.heap.size + 1, 1, none⟩ = some (.int .i64 0) := Z2.out.cell 1
    have z2 : w2.cell? ⟨w.heap.size + 1, 2, none⟩ = some (.int .i64 0) := Z2.out.cell 2
    have z3 : w2.cell? ⟨w.heap.size + 1, 3, none⟩ = some (.int .i64 0) := Z2.out.cell 3
    have z4 : w2.cell? ⟨w.heap.size + 1, 4, none⟩ = some (.int .i64 0) := Z2.out.cell 4
    have z5 : w2.cell? ⟨w.heap.size + 1, 5, none⟩ = some (.bool false) := Z2.out.cell 5
    have z6 : w2.cell? ⟨w.heap.size + 1, 6, none⟩ = some (.bool false) := Z2.out.cell 6
    have z7 : w2.cell? ⟨w.heap.size + 1, 7, none⟩ = some (.int .i64 0) := Z2.out.cell 7
    have z8 : w2.cell? ⟨w.heap.size + 1, 8, none⟩ = some (.slice none 0 0) := Z2.out.cell 8
    have u0 : w2.frozen? ⟨w.heap.size + 1, 0, none⟩ = false := Z2.out.free 0
    have u1 : w2.frozen? ⟨w.heap.size + 1, 1, none⟩ = false := Z2.out.free 1
    have u2 : w2.frozen? ⟨w.heap.size + 1, 2, none⟩ = false := Z2.out.free 2
    have u3 : w2.frozen? ⟨w.heap.size + 1, 3, none⟩ = false := Z2.out.free 3
    have u4 : w2.frozen? ⟨w.heap.size + 1, 4, none⟩ = false := Z2.out.free 4
    have u5 : w2.frozen? ⟨w.heap.size + 1, 5, none⟩ = false := Z2.out.free 5
    have u6 : w2.frozen? ⟨w.heap.size + 1, 6, none⟩ = false := Z2.out.free 6
    have u7 : w2.frozen? ⟨w.heap.size + 1, 7, none⟩ = false := Z2.out.free 7
    have u8 : w2.frozen? ⟨w.heap.size + 1, 8, none⟩ = false := Z2.out.free 8
    go_wp2_with fail
    (try simp only [Exit.inBlock, Exit.then])
    refine bodyPost_ret (v := .tuple #[.agg #[.int .i64 0, .int .i64 0, .int .i64 0, .int .i64 0, .int .i64 0, .bool false, .bool false, .int .i64 0, .slice none 0 0], .bool false]) ?_ rfl (DPost.make HD.out (ow_none _ _ _ w.heap.size w.heap.size ?_) ?_)
    · rw [results_cell_tmp1 rfl]
      go_simp
    · rw [size_nine]; exact B2.out.size
    · exact below_nine B2.out (by omega) _ _ _ _ _ _ _ _ _
set_option maxRecDepth 100000 in
set_option maxHeartbeats 4000000 in
theorem specRt (k f t s g : Int) (m r : Bool) (d : Int) (A : Option Addr) (n cap : Nat) (z : List Int) (hz : z.length = n) (hd : (Lit.int .i64 d).wf = true) (w : World) :
    Calls Try.prog 37 #[.agg #[.int .i64 k, .int .i64 f, .int .i64 t, .int .i64 s, .int .i64 g, .bool m, .bool r, .int .i64 d, .slice A n cap]] w (DPost (rt ⟨k, f, t, s, g, m, r, d, z⟩) w) := by
  have HL := Lib.hid hz
  obtain ⟨c, hc⟩ : ∃ c, rk k t = c := ⟨_, rfl⟩
  have HC := Lib.hid hc
  by_cases hv : Vf ⟨k, f, t, s, g, m, r, d, z⟩
  · have HV := Lib.hid (decide_eq_true hv)
    by_cases hc0 : c = 0
    · have e0 : (c == 0) = true := by simpa using hc0
      have HD := Lib.hid (show rt ⟨k, f, t, s, g, m, r, d, z⟩ = (⟨0, 0, 0, 0, 0, false, false, 0, []⟩, false) from rt_no fun h => h.2 (hc.trans hc0))
      clear hz hd hc hv hc0
      go_enter Try.func37, Try.ntmps37
      go_wp2_with fail
      obtain ⟨w0, hW⟩ : ∃ w0, (w.alloc (.cells #[.int .i64 k, .int .i64 f, .int .i64 t, .int .i64 s, .int .i64 g, .bool m, .bool r, .int .i64 d, .slice A n cap] 25)).alloc (.cells #[.int .i64 0, .int .i64 0, .int .i64 0, .int .i64 0, .int .i64 0, .bool false, .bool false, .int .i64 0, .slice none 0 0] 25) = w0 := ⟨_, rfl⟩
      rw [hW]
      have B0 := Lib.hid (show Below w.heap.size w w0 by rw [← hW]; exact below_box2 w _ _)
      have X0 := Lib.hid (show Bx 25 w0 w.heap.size #[.int .i64 k, .int .i64 f, .int .i64 t, .int .i64 s, .int .i64 g, .bool m, .bool r, .int .i64 d, .slice A n cap] by rw [← hW]; exact (Bx.made _ w _).below (below_box _ _))
      have Z0 := Lib.hid (show Bx 25 w0 (w.heap.size + 1) #[.int .i64 0, .int .i64 0, .int .i64 0, .int .i64 0, .int .i64 0, .bool false, .bool false, .int .i64 0, .slice none 0 0] by rw [← hW]; have hh := Bx.made 25 (w.alloc (.cells #[.int .i64 k, .int .i64 f, .int .i64 t, .int .i64 s, .int .i64 g, .bool m, .bool r, .int .i64 d, .slice A n cap] 25)) #[.int .i64 0, .int .i64 0, .int .i64 0, .int .i64 0, .int .i64 0, .bool false, .bool false, .int .i64 0, .slice none 0 0]; simpa using hh)
      clear hW
      (with_reducible refine (specRk k f t s g m r d A n cap _).mono ?_)
      rw [HC.out]
      rintro e1 w1 ⟨rfl, hb⟩
      have X1 := Lib.hid (X0.out.below hb)
      have Z1 := Lib.hid (Z0.out.below hb)
      have B1 := Lib.hid (B0.out.trans (hb.mono B0.out.size))
      clear hb X0 Z0 B0
      have c0 : w1.cell? ⟨w.heap.size, 0, none⟩ = some (.int .i64 k) := X1.out.cell 0
      have c1 : w1.cell? ⟨w.heap.size, 1, none⟩ = some (.int .i64 f) := X1.out.cell 1
      have c2 : w1.cell? ⟨w.heap.size, 2, none⟩ = some (.int .i64 t) := X1.out.cell 2
      have c3 : w1.cell? ⟨w.heap.size, 3, none⟩ = some (.int .i64 s) := X1.out.cell 3
      have c4 : w1.cell? ⟨w.heap.size, 4, none⟩ = some (.int .i64 g) := X1.out.cell 4
      have c5 : w1.cell? ⟨w.heap.size, 5, none⟩ = some (.bool m) := X1.out.cell 5
      have c6 : w1.cell? ⟨w.heap.size, 6, none⟩ = some (.bool r) := X1.out.cell 6
      have c7 : w1.cell? ⟨w.heap.size, 7, none⟩ = some (.int .i64 d) := X1.out.cell 7
      have c8 : w1.cell? ⟨w.heap.size, 8, none⟩ = some (.slice A n cap) := X1.out.cell 8
      go_wp2_with fail
      clear c0 c1 c2 c3 c4 c5 c6 c7 c8
      (with_reducible refine (specVf k f t s g m r d A n cap z HL.out _).mono ?_)
      rw [HV.out]
      rintro e2 w2 ⟨rfl, hb⟩
      have X2 := Lib.hid (X1.out.below hb)
      have Z2 := Lib.hid (Z1.out.below hb)
      have B2 := Lib.hid (B1.out.trans (hb.mono B1.out.size))
      clear hb X1 Z1 B1
      have z0 : w2.cell? ⟨w.heap.size + 1, 0, none⟩ = some (.int .i64 0) := Z2.out.cell 0
      have z1 : w2.cell? ⟨w.heap.size + 1, 1, none⟩ = some (.int .i64 0) := Z2.out.cell 1
      have z2 : w2.cell? ⟨w.heap.size + 1, 2, none⟩ = some (.int .i64 0) := Z2.out.cell 2
      have z3 : w2.cell? ⟨w.heap.size + 1, 3, none⟩ = some (.int .i64 0) := Z2.out.cell 3
      have z4 : w2.cell? ⟨w.heap.size + 1, 4, none⟩ = some (.int .i64 0) := Z2.out.cell 4
      have z5 : w2.cell? ⟨w.heap.size + 1, 5, none⟩ = some (.bool false) := Z2.out.cell 5
      have z6 : w2.cell? ⟨w.heap.size + 1, 6, none⟩ = some (.bool false) := Z2.out.cell 6
      have z7 : w2.cell? ⟨w.heap.size + 1, 7, none⟩ = some (.int .i64 0) := Z2.out.cell 7
      have z8 : w2.cell? ⟨w.heap.size + 1, 8, none⟩ = some (.slice none 0 0) := Z2.out.cell 8
      have u0 : w2.frozen? ⟨w.heap.size + 1, 0, none⟩ = false := Z2.out.free 0
      have u1 : w2.frozen? ⟨w.heap.size + 1, 1, none⟩ = false := Z2.out.free 1
      have u2 : w2.frozen? ⟨w.heap.size + 1, 2, none⟩ = false := Z2.out.free 2
      have u3 : w2.frozen? ⟨w.heap.size + 1, 3, none⟩ = false := Z2.out.free 3
      have u4 : w2.frozen? ⟨w.heap.size + 1, 4, none⟩ = false := Z2.out.free 4
      have u5 : w2.frozen? ⟨w.heap.size + 1, 5, none⟩ = false := Z2.out.free 5
      have u6 : w2.frozen? ⟨w.heap.size + 1, 6, none⟩ = false := Z2.out.free 6
      have u7 : w2.frozen? ⟨w.heap.size + 1, 7, none⟩ = false := Z2.out.free 7
      have u8 : w2.frozen? ⟨w.heap.size + 1, 8, none⟩ = false := Z2.out.free 8
      go_wp2_with fail
      (try simp only [Exit.inBlock, Exit.then])
      refine bodyPost_ret (v := .tuple #[.agg #[.int .i64 0, .int .i64 0, .int .i64 0, .int .i64 0, .int .i64 0, .bool false, .bool false, .int .i64 0, .slice none 0 0], .bool false]) ?_ rfl (DPost.make HD.out (ow_none _ _ _ w.heap.size w.heap.size ?_) ?_)
      · rw [results_cell_tmp1 rfl]
        go_simp
      · rw [size_nine]; exact B2.out.size
      · exact below_nine B2.out (by omega) _ _ _ _ _ _ _ _ _
    · have e0 : (c == 0) = false := by simpa using hc0
      obtain ⟨dd, hdd⟩ : ∃ dd, d - 1 = dd := ⟨_, rfl⟩
      obtain ⟨e, he⟩ : ∃ e, e = if 0 < dd then dd else 0 := ⟨_, rfl⟩
      have HE := Lib.hid he
      have hw : IntKind.i64.wrap (d - 1) = dd := by rw [← hdd]; exact IntWalk.i64_in _ (by have := hv.2.2.2.1.2.2; simp at this; omega)
      have HD := Lib.hid (show rt ⟨k, f, t, s, g, m, r, d, z⟩ = (⟨c, t, f, s, g, false, false, e, []⟩, true) by rw [rt_yes hv (fun h => hc0 (hc.symm.trans h)), he, ← hdd, ← hc])
      clear hz hd hc hv hc0 hdd he
      go_enter Try.func37, Try.ntmps37
      go_wp2_with fail
      obtain ⟨w0, hW⟩ : ∃ w0, (w.alloc (.cells #[.int .i64 k, .int .i64 f, .int .i64 t, .int .i64 s, .int .i64 g, .bool m, .bool r, .int .i64 d, .slice A n cap] 25)).alloc (.cells #[.int .i64 0, .int .i64 0, .int .i64 0, .int .i64 0, .int .i64 0, .bool false, .bool false, .int .i64 0, .slice none 0 0] 25) = w0 := ⟨_, rfl⟩
      rw [hW]
      have B0 := Lib.hid (show Below w.heap.size w w0 by rw [← hW]; exact below_box2 w _ _)
      have X0 := Lib.hid (show Bx 25 w0 w.heap.size #[.int .i64 k, .int .i64 f, .int .i64 t, .int .i64 s, .int .i64 g, .bool m, .bool r, .int .i64 d, .slice A n cap] by rw [← hW]; exact (Bx.made _ w _).below (below_box _ _))
      have Z0 := Lib.hid (show Bx 25 w0 (w.heap.size + 1) #[.int .i64 0, .int .i64 0, .int .i64 0, .int .i64 0, .int .i64 0, .bool false, .bool false, .int .i64 0, .slice none 0 0] by rw [← hW]; have hh := Bx.made 25 (w.alloc (.cells #[.int .i64 k, .int .i64 f, .int .i64 t, .int .i64 s, .int .i64 g, .bool m, .bool r, .int .i64 d, .slice A n cap] 25)) #[.int .i64 0, .int .i64 0, .int .i64 0, .int .i64 0, .int .i64 0, .bool false, .bool false, .int .i64 0, .slice none 0 0]; simpa using hh)
      clear hW
      (with_reducible refine (specRk k f t s g m r d A n cap _).mono ?_)
      rw [HC.out]
      rintro e1 w1 ⟨rfl, hb⟩
      have X1 := Lib.hid (X0.out.below hb)
      have Z1 := Lib.hid (Z0.out.below hb)
      have B1 := Lib.hid (B0.out.trans (hb.mono B0.out.size))
      clear hb X0 Z0 B0
      have c0 : w1.cell? ⟨w.heap.size, 0, none⟩ = some (.int .i64 k) := X1.out.cell 0
      have c1 : w1.cell? ⟨w.heap.size, 1, none⟩ = some (.int .i64 f) := X1.out.cell 1
      have c2 : w1.cell? ⟨w.heap.size, 2, none⟩ = some (.int .i64 t) := X1.out.cell 2
      have c3 : w1.cell? ⟨w.heap.size, 3, none⟩ = some (.int .i64 s) := X1.out.cell 3
      have c4 : w1.cell? ⟨w.heap.size, 4, none⟩ = some (.int .i64 g) := X1.out.cell 4
      have c5 : w1.cell? ⟨w.heap.size, 5, none⟩ = some (.bool m) := X1.out.cell 5
      have c6 : w1.cell? ⟨w.heap.size, 6, none⟩ = some (.bool r) := X1.out.cell 6
      have c7 : w1.cell? ⟨w.heap.size, 7, none⟩ = some (.int .i64 d) := X1.out.cell 7
      have c8 : w1.cell? ⟨w.heap.size, 8, none⟩ = some (.slice A n cap) := X1.out.cell 8
      go_wp2_with fail
      clear c0 c1 c2 c3 c4 c5 c6 c7 c8
      (with_reducible refine (specVf k f t s g m r d A n cap z HL.out _).mono ?_)
      rw [HV.out]
      rintro e2 w2 ⟨rfl, hb⟩
      have X2 := Lib.hid (X1.out.below hb)
      have Z2 := Lib.hid (Z1.out.below hb)
      have B2 := Lib.hid (B1.out.trans (hb.mono B1.out.size))
      clear hb X1 Z1 B1
      go_wp2_with fail
      have X3 := Lib.hid (show Bx 25 w2.drew w.heap.size #[.int .i64 k, .int .i64 f, .int .i64 t, .int .i64 s, .int .i64 g, .bool m, .bool r, .int .i64 d, .slice A n cap] from X2.out.same rfl)
      have Z3 := Lib.hid (show Bx 25 w2.drew (w.heap.size + 1) #[.int .i64 0, .int .i64 0, .int .i64 0, .int .i64 0, .int .i64 0, .bool false, .bool false, .int .i64 0, .slice none 0 0] from Z2.out.same rfl)
      have B3 := Lib.hid (own.below_drew B2.out)
      have c0 : w2.drew.cell? ⟨w.heap.size, 0, none⟩ = some (.int .i64 k) := X3.out.cell 0
      have c1 : w2.drew.cell? ⟨w.heap.size, 1, none⟩ = some (.int .i64 f) := X3.out.cell 1
      have c2 : w2.drew.cell? ⟨w.heap.size, 2, none⟩ = some (.int .i64 t) := X3.out.cell 2
      have c3 : w2.drew.cell? ⟨w.heap.size, 3, none⟩ = some (.int .i64 s) := X3.out.cell 3
      have c4 : w2.drew.cell? ⟨w.heap.size, 4, none⟩ = some (.int .i64 g) := X3.out.cell 4
      have c5 : w2.drew.cell? ⟨w.heap.size, 5, none⟩ = some (.bool m) := X3.out.cell 5
      have c6 : w2.drew.cell? ⟨w.heap.size, 6, none⟩ = some (.bool r) := X3.out.cell 6
      have c7 : w2.drew.cell? ⟨w.heap.size, 7, none⟩ = some (.int .i64 d) := X3.out.cell 7
      have c8 : w2.drew.cell? ⟨w.heap.size, 8, none⟩ = some (.slice A n cap) := X3.out.cell 8
      go_region_held3 (fun w' => w'.cell? ⟨w.heap.size, 0, none⟩ = some (.int .i64 k) ∧ w'.cell? ⟨w.heap.size, 1, none⟩ = some (.int .i64 f) ∧ w'.cell? ⟨w.heap.size, 2, none⟩ = some (.int .i64 t) ∧ w'.cell? ⟨w.heap.size, 3, none⟩ = some (.int .i64 s) ∧ w'.cell? ⟨w.heap.size, 4, none⟩ = some (.int .i64 g) ∧ w'.cell? ⟨w.heap.size, 5, none⟩ = some (.bool m) ∧ w'.cell? ⟨w.heap.size, 6, none⟩ = some (.bool r) ∧ w'.cell? ⟨w.heap.size, 7, none⟩ = some (.int .i64 d) ∧ w'.cell? ⟨w.heap.size, 8, none⟩ = some (.slice A n cap)) (first | (with_reducible exact KS.out _ _ _ _ _ _ _ _ _) | (with_reducible exact ⟨c0, c1, c2, c3, c4, c5, c6, c7, c8⟩) | (with_reducible exact ⟨d0, d1, d2, d3, d4, d5, d6, d7, d8⟩))
        ((go_at_call 68; refine (rng.specMax 0 dd e HE.out _).mono ?_; rintro e3 w4 ⟨rfl, hb⟩; have X4 := X3; have Z4 := Z3; have B4 := B3; rw [hb] at X4 Z4 B4; clear hb; have z0 : w4.cell? ⟨w.heap.size + 1, 0, none⟩ = some (.int .i64 0) := Z4.out.cell 0; have z1 : w4.cell? ⟨w.heap.size + 1, 1, none⟩ = some (.int .i64 0) := Z4.out.cell 1; have z2 : w4.cell? ⟨w.heap.size + 1, 2, none⟩ = some (.int .i64 0) := Z4.out.cell 2; have z3 : w4.cell? ⟨w.heap.size + 1, 3, none⟩ = some (.int .i64 0) := Z4.out.cell 3; have z4 : w4.cell? ⟨w.heap.size + 1, 4, none⟩ = some (.int .i64 0) := Z4.out.cell 4; have z5 : w4.cell? ⟨w.heap.size + 1, 5, none⟩ = some (.bool false) := Z4.out.cell 5; have z6 : w4.cell? ⟨w.heap.size + 1, 6, none⟩ = some (.bool false) := Z4.out.cell 6; have z7 : w4.cell? ⟨w.heap.size + 1, 7, none⟩ = some (.int .i64 0) := Z4.out.cell 7; have z8 : w4.cell? ⟨w.heap.size + 1, 8, none⟩ = some (.slice none 0 0) := Z4.out.cell 8; have u0 : w4.frozen? ⟨w.heap.size + 1, 0, none⟩ = false := Z4.out.free 0; have u1 : w4.frozen? ⟨w.heap.size + 1, 1, none⟩ = false := Z4.out.free 1; have u2 : w4.frozen? ⟨w.heap.size + 1, 2, none⟩ = false := Z4.out.free 2; have u3 : w4.frozen? ⟨w.heap.size + 1, 3, none⟩ = false := Z4.out.free 3; have u4 : w4.frozen? ⟨w.heap.size + 1, 4, none⟩ = false := Z4.out.free 4; have u5 : w4.frozen? ⟨w.heap.size + 1, 5, none⟩ = false := Z4.out.free 5; have u6 : w4.frozen? ⟨w.heap.size + 1, 6, none⟩ = false := Z4.out.free 6; have u7 : w4.frozen? ⟨w.heap.size + 1, 7, none⟩ = false := Z4.out.free 7; have u8 : w4.frozen? ⟨w.heap.size + 1, 8, none⟩ = false := Z4.out.free 8; have d0 : w4.cell? ⟨w.heap.size, 0, none⟩ = some (.int .i64 k) := X4.out.cell 0; have d1 : w4.cell? ⟨w.heap.size, 1, none⟩ = some (.int .i64 f) := X4.out.cell 1; have d2 : w4.cell? ⟨w.heap.size, 2, none⟩ = some (.int .i64 t) := X4.out.cell 2; have d3 : w4.cell? ⟨w.heap.size, 3, none⟩ = some (.int .i64 s) := X4.out.cell 3; have d4 : w4.cell? ⟨w.heap.size, 4, none⟩ = some (.int .i64 g) := X4.out.cell 4; have d5 : w4.cell? ⟨w.heap.size, 5, none⟩ = some (.bool m) := X4.out.cell 5; have d6 : w4.cell? ⟨w.heap.size, 6, none⟩ = some (.bool r) := X4.out.cell 6; have d7 : w4.cell? ⟨w.heap.size, 7, none⟩ = some (.int .i64 d) := X4.out.cell 7; have d8 : w4.cell? ⟨w.heap.size, 8, none⟩ = some (.slice A n cap) := X4.out.cell 8; have KS := Lib.hid (fun v0 v1 v2 v3 v4 v5 v6 v7 v8 => six (X4.out.same (block_nine w4 (w.heap.size + 1) w.heap.size (by omega) v0 v1 v2 v3 v4 v5 v6 v7 v8)))))
      go_wp2_with fail
      (try simp only [Exit.inBlock, Exit.then])
      refine bodyPost_ret (v := .tuple #[.agg #[.int .i64 c, .int .i64 t, .int .i64 f, .int .i64 s, .int .i64 g, .bool false, .bool false, .int .i64 e, .slice none 0 0], .bool true]) ?_ rfl (DPost.make HD.out (ow_none _ _ _ w.heap.size w.heap.size ?_) ?_)
      · rw [results_cell_tmp1 rfl]
        go_simp
      · rw [size_nine]; exact B4.out.size
      · exact below_nine B4.out (by omega) _ _ _ _ _ _ _ _ _
  · have HV := Lib.hid (decide_eq_false hv)
    have HD := Lib.hid (show rt ⟨k, f, t, s, g, m, r, d, z⟩ = (⟨0, 0, 0, 0, 0, false, false, 0, []⟩, false) from rt_no fun h => hv h.1)
    clear hz hd hc hv
    go_enter Try.func37, Try.ntmps37
    go_wp2_with fail
    obtain ⟨w0, hW⟩ : ∃ w0, (w.alloc (.cells #[.int .i64 k, .int .i64 f, .int .i64 t, .int .i64 s, .int .i64 g, .bool m, .bool r, .int .i64 d, .slice A n cap] 25)).alloc (.cells #[.int .i64 0, .int .i64 0, .int .i64 0, .int .i64 0, .int .i64 0, .bool false, .bool false, .int .i64 0, .slice none 0 0] 25) = w0 := ⟨_, rfl⟩
    rw [hW]
    have B0 := Lib.hid (show Below w.heap.size w w0 by rw [← hW]; exact below_box2 w _ _)
    have X0 := Lib.hid (show Bx 25 w0 w.heap.size #[.int .i64 k, .int .i64 f, .int .i64 t, .int .i64 s, .int .i64 g, .bool m, .bool r, .int .i64 d, .slice A n cap] by rw [← hW]; exact (Bx.made _ w _).below (below_box _ _))
    have Z0 := Lib.hid (show Bx 25 w0 (w.heap.size + 1) #[.int .i64 0, .int .i64 0, .int .i64 0, .int .i64 0, .int .i64 0, .bool false, .bool false, .int .i64 0, .slice none 0 0] by rw [← hW]; have hh := Bx.made 25 (w.alloc (.cells #[.int .i64 k, .int .i64 f, .int .i64 t, .int .i64 s, .int .i64 g, .bool m, .bool r, .int .i64 d, .slice A n cap] 25)) #[.int .i64 0, .int .i64 0, .int .i64 0, .int .i64 0, .int .i64 0, .bool false, .bool false, .int .i64 0, .slice none 0 0]; simpa using hh)
    clear hW
    (with_reducible refine (specRk k f t s g m r d A n cap _).mono ?_)
    rw [HC.out]
    rintro e1 w1 ⟨rfl, hb⟩
    have X1 := Lib.hid (X0.out.below hb)
    have Z1 := Lib.hid (Z0.out.below hb)
    have B1 := Lib.hid (B0.out.trans (hb.mono B0.out.size))
    clear hb X0 Z0 B0
    have c0 : w1.cell? ⟨w.heap.size, 0, none⟩ = some (.int .i64 k) := X1.out.cell 0
    have c1 : w1.cell? ⟨w.heap.size, 1, none⟩ = some (.int .i64 f) := X1.out.cell 1
    have c2 : w1.cell? ⟨w.heap.size, 2, none⟩ = some (.int .i64 t) := X1.out.cell 2
    have c3 : w1.cell? ⟨w.heap.size, 3, none⟩ = some (.int .i64 s) := X1.out.cell 3
    have c4 : w1.cell? ⟨w.heap.size, 4, none⟩ = some (.int .i64 g) := X1.out.cell 4
    have c5 : w1.cell? ⟨w.heap.size, 5, none⟩ = some (.bool m) := X1.out.cell 5
    have c6 : w1.cell? ⟨w.heap.size, 6, none⟩ = some (.bool r) := X1.out.cell 6
    have c7 : w1.cell? ⟨w.heap.size, 7, none⟩ = some (.int .i64 d) := X1.out.cell 7
    have c8 : w1.cell? ⟨w.heap.size, 8, none⟩ = some (.slice A n cap) := X1.out.cell 8
    go_wp2_with fail
    clear c0 c1 c2 c3 c4 c5 c6 c7 c8
    (with_reducible refine (specVf k f t s g m r d A n cap z HL.out _).mono ?_)
    rw [HV.out]
    rintro e2 w2 ⟨rfl, hb⟩
    have X2 := Lib.hid (X1.out.below hb)
    have Z2 := Lib.hid (Z1.out.below hb)
    have B2 := Lib.hid (B1.out.trans (hb.mono B1.out.size))
    clear hb X1 Z1 B1
    have z0 : w2.cell? ⟨w.heap.size + 1, 0, none⟩ = some (.int .i64 0) := Z2.out.cell 0
    have z1 : w2.cell? ⟨w.heap.size + 1, 1, none⟩ = some (.int .i64 0) := Z2.out.cell 1
    have z2 : w2.cell? ⟨w.heap.size + 1, 2, none⟩ = some (.int .i64 0) := Z2.out.cell 2
    have z3 : w2.cell? ⟨w.heap.size + 1, 3, none⟩ = some (.int .i64 0) := Z2.out.cell 3
    have z4 : w2.cell? ⟨w.heap.size + 1, 4, none⟩ = some (.int .i64 0) := Z2.out.cell 4
    have z5 : w2.cell? ⟨w.heap.size + 1, 5, none⟩ = some (.bool false) := Z2.out.cell 5
    have z6 : w2.cell? ⟨w.heap.size + 1, 6, none⟩ = some (.bool false) := Z2.out.cell 6
    have z7 : w2.cell? ⟨w.heap.size + 1, 7, none⟩ = some (.int .i64 0) := Z2.out.cell 7
    have z8 : w2.cell? ⟨w.heap.size + 1, 8, none⟩ = some (.slice none 0 0) := Z2.out.cell 8
    have u0 : w2.frozen? ⟨w.heap.size + 1, 0, none⟩ = false := Z2.out.free 0
    have u1 : w2.frozen? ⟨w.heap.size + 1, 1, none⟩ = false := Z2.out.free 1
    have u2 : w2.frozen? ⟨w.heap.size + 1, 2, none⟩ = false := Z2.out.free 2
    have u3 : w2.frozen? ⟨w.heap.size + 1, 3, none⟩ = false := Z2.out.free 3
    have u4 : w2.frozen? ⟨w.heap.size + 1, 4, none⟩ = false := Z2.out.free 4
    have u5 : w2.frozen? ⟨w.heap.size + 1, 5, none⟩ = false := Z2.out.free 5
    have u6 : w2.frozen? ⟨w.heap.size + 1, 6, none⟩ = false := Z2.out.free 6
    have u7 : w2.frozen? ⟨w.heap.size + 1, 7, none⟩ = false := Z2.out.free 7
    have u8 : w2.frozen? ⟨w.heap.size + 1, 8, none⟩ = false := Z2.out.free 8
    go_wp2_with fail
    (try simp only [Exit.inBlock, Exit.then])
    refine bodyPost_ret (v := .tuple #[.agg #[.int .i64 0, .int .i64 0, .int .i64 0, .int .i64 0, .int .i64 0, .bool false, .bool false, .int .i64 0, .slice none 0 0], .bool false]) ?_ rfl (DPost.make HD.out (ow_none _ _ _ w.heap.size w.heap.size ?_) ?_)
    · rw [results_cell_tmp1 rfl]
      go_simp
    · rw [size_nine]; exact B2.out.size
    · exact below_nine B2.out (by omega) _ _ _ _ _ _ _ _ _
end Go.Proofs.Ytnnlkkohbjolaaa.fbx
