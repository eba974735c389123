/- Any frame that is drawn, and bytes that were bent. Condition: the bytes that are drawn from are a slice that came in. -/
import Derived.Test.YtebbnopconbnlaaDrawF
import Derived.Test.YtebbnopconbnlaaCut
namespace Go.Proofs.Ytebbnopconbnlaa.draw
open Go.RowKit sl harn fbx frm
set_option linter.unusedVariables false
theorem slice_low {P : Program} (t E : TypeId) (i0 : TypeInfo) (hu : P.underlying t = some (.slice E)) (hi : P.info? E = some i0) (b n c j : Nat) (hj : j ≤ c) (W : World) :
    (Instr.slice t (.slice (some ⟨b, 0, none⟩) n c) none (some (.int .i64 (j : Int))) none).run P W = .ok (.slice (some ⟨b, 0, none⟩) j c) W := by
  simp [Instr.slice, run_underlying hu, Instr.sliceBounds, Instr.sliceBound, sizeOf, typeInfo, hi, go_sem, Addr.add, hj]
theorem slice_none {P : Program} (t E : TypeId) (i0 : TypeInfo) (hu : P.underlying t = some (.slice E)) (hi : P.info? E = some i0) (W : World) :
    (Instr.slice t (.slice none 0 0) none (some (.int .i64 0)) none).run P W = .ok (.slice none 0 0) W := by
  simp [Instr.slice, run_underlying hu, Instr.sliceBounds, Instr.sliceBound, sizeOf, typeInfo, hi, go_sem]
theorem ow_take {E : TypeId} {k : IntKind} {w : World} {lo hi n cap : Nat} {b : Nat} {zs : List Int} (h : Ow E k w lo hi (some ⟨b, 0, none⟩) n cap zs) {m : Nat} (hm : m ≤ n) : Ow E k w lo hi (some ⟨b, 0, none⟩) m cap (zs.take m) := by
  have hl := h.len
  rcases h.form with ⟨e, _⟩ | ⟨g, cur, e, g1, g2, hb, g3, g4, g5, g6⟩
  · cases e
  · injection e with e; injection e with e _
    subst e
    refine ⟨⟨by simp; omega, Or.inr ⟨b, cap, cur, rfl, g1, hb, by omega, g4, by omega, ?_⟩⟩, h.wf.take m, h.hi_, h.2.2.2⟩
    rw [Nat.mul_one]
    have e2 : cur.toList.take m = (cur.toList.take n).take m := by rw [List.take_take, Nat.min_eq_left hm]
    rw [e2, g6, List.map_take]

set_option maxRecDepth 100000 in
set_option maxHeartbeats 4000000 in
theorem anyFrm (w : World) (p : Nat) (a : Option Addr) (len cap : Nat) (hc : Cur w p a len cap) :
    Calls Try.prog 40 #[.pointer (some ⟨p, 0, none⟩)] w (FrmPost p a len cap w) := by
  obtain ⟨i0, hi0, hz0, hz1, hz2⟩ := info_parts u8Info
  have HZ := Lib.hid (And.intro hi0 (And.intro hz0 (And.intro hz1 hz2)))
  clear hi0 hz0 hz1 hz2
  have C0 := Lib.hid hc
  have P0 := Lib.hid hc.lt
  clear hc
  go_enter Try.func40, Try.ntmps40
  go_wp2_with fail
  obtain ⟨w1, hW⟩ : ∃ w1, w.alloc (.cells #[.int .i64 0, .int .i64 0, .int .i64 0, .int .i64 0, .int .i64 0, .bool false, .bool false, .int .i64 0, .slice none 0 0] 27) = w1 := ⟨_, rfl⟩
  rw [hW]
  have K1 := Lib.hid (show Keep p w w1 by rw [← hW]; exact (Keep.refl p w).alloc _)
  have C1 := Lib.hid (show Cur w1 p a len cap by rw [← hW]; exact C0.out.alloc _)
  have Z1 := Lib.hid (show Bx 27 w1 w.heap.size #[.int .i64 0, .int .i64 0, .int .i64 0, .int .i64 0, .int .i64 0, .bool false, .bool false, .int .i64 0, .slice none 0 0] by rw [← hW]; exact Bx.made _ _ _)
  have SZ := Lib.hid (show w.heap.size < w1.heap.size from Z1.out.lt)
  clear hW
  (with_reducible refine (frm_ _ p a len cap C1.out).mono ?_)
  rintro e w2 ⟨k, f, t, s, g, m, r, d, A, n, c, zs, rfl, ⟨s0, s1, s2, s3, s4, s5⟩, hn, ho, hk, hc⟩
  have K2 := Lib.hid (K1.out.trans hk)
  have C2 := Lib.hid hc
  have Z2 := Lib.hid (bx_keep Z1.out hk (by have := P0.out; omega))
  have Y2 := Lib.hid ho
  clear ho hk hc K1 C1 Z1
  have Q0 := Lib.hid s0
  have Q1 := Lib.hid s1
  have Q2 := Lib.hid s2
  have Q3 := Lib.hid s3
  have Q4 := Lib.hid s4
  have Q5 := Lib.hid s5
  have HN := Lib.hid hn
  clear s0 s1 s2 s3 s4 s5 hn
  obtain ⟨b, hb⟩ : ∃ b, w2.heap.size = b := ⟨_, rfl⟩
  have S3 := Lib.hid (show w.heap.size < b by rw [← hb]; exact Z2.out.lt)
  go_wp2_with fail
  obtain ⟨w3, hW⟩ : ∃ w3, w2.alloc (.cells #[.int .i64 k, .int .i64 f, .int .i64 t, .int .i64 s, .int .i64 g, .bool m, .bool r, .int .i64 d, .slice A n c] 27) = w3 := ⟨_, rfl⟩
  rw [hW]
  have K3 := Lib.hid (show Keep p w w3 by rw [← hW]; exact K2.out.alloc _)
  have C3 := Lib.hid (show Cur w3 p a len cap by rw [← hW]; exact C2.out.alloc _)
  have Z3 := Lib.hid (show Bx 27 w3 w.heap.size #[.int .i64 0, .int .i64 0, .int .i64 0, .int .i64 0, .int .i64 0, .bool false, .bool false, .int .i64 0, .slice none 0 0] by rw [← hW]; exact Z2.out.below (below_box _ _))
  have X3 := Lib.hid (show Bx 27 w3 b #[.int .i64 k, .int .i64 f, .int .i64 t, .int .i64 s, .int .i64 g, .bool m, .bool r, .int .i64 d, .slice A n c] by rw [← hW, ← hb]; exact Bx.made _ _ _)
  have Y3 := Lib.hid (show Ow 5 .u8 w3 w1.heap.size w2.heap.size A n c zs by rw [← hW]; exact Y2.out.below (below_box _ _))
  have SB := Lib.hid (show w2.heap.size ≤ b by omega)
  try rw [hb]
  clear hW hb K2 C2 Z2 Y2
  (with_reducible refine (below 12 (by omega) _ p a len cap C3.out).mono ?_)
  rintro e w4 ⟨x, rfl, hx0, hx1, hk, hc⟩
  have hx2 := hx1 (by omega)
  have K4 := Lib.hid (K3.out.trans hk)
  have C4 := Lib.hid hc
  have Z4 := Lib.hid (bx_keep Z3.out hk (by have := P0.out; omega))
  have X4 := Lib.hid (bx_keep X3.out hk (by have := P0.out; have := S3.out; omega))
  have Y4 := Lib.hid (ow_keep Y3.out hk (by have := P0.out; have := SZ.out; omega))
  clear K3 C3 Z3 X3 Y3
  clear hk hc hx1
  have hxx : x = 0 ∨ x = 1 ∨ x = 2 ∨ x = 3 ∨ x = 4 ∨ x = 5 ∨ x = 6 ∨ 7 ≤ x := by omega
  clear hx0 hx2
  rcases hxx with rfl | rfl | rfl | rfl | rfl | rfl | rfl | hx7
  · go_wp2_with fail
    (with_reducible refine (pickIn (0) 8 2 (by omega) (by omega) _ p a len cap C4.out #[.int .i64 0, .int .i64 8] rfl (by kernel_rfl)).mono ?_)
    rintro e w5 ⟨y, rfl, hy0, hy1, hk, hc⟩
    have K5 := Lib.hid (K4.out.trans hk)
    have C5 := Lib.hid hc
    have Z5 := Lib.hid (bx_keep Z4.out hk (by have := P0.out; omega))
    have X5 := Lib.hid (bx_keep X4.out hk (by have := P0.out; have := S3.out; omega))
    have Y5 := Lib.hid (ow_keep Y4.out hk (by have := P0.out; have := SZ.out; omega))
    clear K4 C4 Z4 X4 Y4
    clear hk hc
    have hne : b ≠ w.heap.size := by have := S3.out; omega
    have z0 : w5.cell? ⟨w.heap.size, 0, none⟩ = some (.int .i64 0) := Z5.out.cell 0
    have z1 : w5.cell? ⟨w.heap.size, 1, none⟩ = some (.int .i64 0) := Z5.out.cell 1
    have z2 : w5.cell? ⟨w.heap.size, 2, none⟩ = some (.int .i64 0) := Z5.out.cell 2
    have z3 : w5.cell? ⟨w.heap.size, 3, none⟩ = some (.int .i64 0) := Z5.out.cell 3
    have z4 : w5.cell? ⟨w.heap.size, 4, none⟩ = some (.int .i64 0) := Z5.out.cell 4
    have z5 : w5.cell? ⟨w.heap.size, 5, none⟩ = some (.bool false) := Z5.out.cell 5
    have z6 : w5.cell? ⟨w.heap.size, 6, none⟩ = some (.bool false) := Z5.out.cell 6
    have z7 : w5.cell? ⟨w.heap.size, 7, none⟩ = some (.int .i64 0) := Z5.out.cell 7
    have z8 : w5.cell? ⟨w.heap.size, 8, none⟩ = some (.slice none 0 0) := Z5.out.cell 8
    have u0 : w5.frozen? ⟨w.heap.size, 0, none⟩ = false := Z5.out.free 0
    have u1 : w5.frozen? ⟨w.heap.size, 1, none⟩ = false := Z5.out.free 1
    have u2 : w5.frozen? ⟨w.heap.size, 2, none⟩ = false := Z5.out.free 2
    have u3 : w5.frozen? ⟨w.heap.size, 3, none⟩ = false := Z5.out.free 3
    have u4 : w5.frozen? ⟨w.heap.size, 4, none⟩ = false := Z5.out.free 4
    have u5 : w5.frozen? ⟨w.heap.size, 5, none⟩ = false := Z5.out.free 5
    have u6 : w5.frozen? ⟨w.heap.size, 6, none⟩ = false := Z5.out.free 6
    have u7 : w5.frozen? ⟨w.heap.size, 7, none⟩ = false := Z5.out.free 7
    have u8 : w5.frozen? ⟨w.heap.size, 8, none⟩ = false := Z5.out.free 8
    have x_0 : w5.cell? ⟨b, 0, none⟩ = some (.int .i64 k) := X5.out.cell 0
    have x_1 : w5.cell? ⟨b, 1, none⟩ = some (.int .i64 f) := X5.out.cell 1
    have x_2 : w5.cell? ⟨b, 2, none⟩ = some (.int .i64 t) := X5.out.cell 2
    have x_3 : w5.cell? ⟨b, 3, none⟩ = some (.int .i64 s) := X5.out.cell 3
    have x_4 : w5.cell? ⟨b, 4, none⟩ = some (.int .i64 g) := X5.out.cell 4
    have x_5 : w5.cell? ⟨b, 5, none⟩ = some (.bool m) := X5.out.cell 5
    have x_6 : w5.cell? ⟨b, 6, none⟩ = some (.bool r) := X5.out.cell 6
    have x_7 : w5.cell? ⟨b, 7, none⟩ = some (.int .i64 d) := X5.out.cell 7
    have x_8 : w5.cell? ⟨b, 8, none⟩ = some (.slice A n c) := X5.out.cell 8
    have fx : w5.frozen? ⟨b, 0, none⟩ = false := X5.out.free 0
    go_wp2_with fail
    (try simp only [Exit.inBlock, Exit.then])
    refine bodyPost_ret (v := .agg #[.int .i64 y, .int .i64 f, .int .i64 t, .int .i64 s, .int .i64 g, .bool m, .bool r, .int .i64 d, .slice A n c]) ?_ rfl ?_
    · rw [results_cell1 rfl]
      go_simp
    · have hb1 : Below w.heap.size w5 (w5.setCell ⟨b, 0, none⟩ (.int .i64 y)) := ((Below.refl w5.heap.size w5).mono (by have := Z5.out.lt; omega)).setCell (p := ⟨b, 0, none⟩) (by show w.heap.size ≤ b; have := S3.out; omega) _
      have hbl : Below w.heap.size w5 ((((((((((w5.setCell ⟨b, 0, none⟩ (.int .i64 y)).setCell ⟨w.heap.size, 0, none⟩ (.int .i64 y)).setCell ⟨w.heap.size, 1, none⟩ (.int .i64 f)).setCell ⟨w.heap.size, 2, none⟩ (.int .i64 t)).setCell ⟨w.heap.size, 3, none⟩ (.int .i64 s)).setCell ⟨w.heap.size, 4, none⟩ (.int .i64 g)).setCell ⟨w.heap.size, 5, none⟩ (.bool m)).setCell ⟨w.heap.size, 6, none⟩ (.bool r)).setCell ⟨w.heap.size, 7, none⟩ (.int .i64 d)).setCell ⟨w.heap.size, 8, none⟩ (.slice A n c)) := below_nine hb1 (Nat.le_refl _) _ _ _ _ _ _ _ _ _
      exact ⟨_, _, _, _, _, _, _, _, _, _, _, zs, rfl, ⟨(by unfold Small; omega), Q1.out, Q2.out, Q3.out, Q4.out, Q5.out⟩, HN.out, ((ow_nine (Y5.out.same (by simp [World.setCell]) (fun q h1 h2 => Below.heap_setCell _ _ _ _ (by show q ≠ b; have := SB.out; omega))) (by have := SZ.out; omega) _ _ _ _ _ _ _ _ _).down (by have := SZ.out; omega)).up, K5.out.later (Nat.le_refl _) hbl, Cur.later C0.out K5.out C5.out (Nat.le_refl _) hbl⟩
  · have x_2 : w4.cell? ⟨b, 2, none⟩ = some (.int .i64 t) := X4.out.cell 2
    go_wp2_with fail
    clear x_2
    (with_reducible refine (pickIn (-100000) 100000 4 (by omega) (by omega) _ p a len cap C4.out #[.int .i64 (-1), .int .i64 15, .int .i64 16, .int .i64 t] rfl (by have hq := Q2.out; unfold Small at hq; simp [okInt]; omega)).mono ?_)
    rintro e w5 ⟨y, rfl, hy0, hy1, hk, hc⟩
    have K5 := Lib.hid (K4.out.trans hk)
    have C5 := Lib.hid hc
    have Z5 := Lib.hid (bx_keep Z4.out hk (by have := P0.out; omega))
    have X5 := Lib.hid (bx_keep X4.out hk (by have := P0.out; have := S3.out; omega))
    have Y5 := Lib.hid (ow_keep Y4.out hk (by have := P0.out; have := SZ.out; omega))
    clear K4 C4 Z4 X4 Y4
    clear hk hc
    have hne : b ≠ w.heap.size := by have := S3.out; omega
    have z0 : w5.cell? ⟨w.heap.size, 0, none⟩ = some (.int .i64 0) := Z5.out.cell 0
    have z1 : w5.cell? ⟨w.heap.size, 1, none⟩ = some (.int .i64 0) := Z5.out.cell 1
    have z2 : w5.cell? ⟨w.heap.size, 2, none⟩ = some (.int .i64 0) := Z5.out.cell 2
    have z3 : w5.cell? ⟨w.heap.size, 3, none⟩ = some (.int .i64 0) := Z5.out.cell 3
    have z4 : w5.cell? ⟨w.heap.size, 4, none⟩ = some (.int .i64 0) := Z5.out.cell 4
    have z5 : w5.cell? ⟨w.heap.size, 5, none⟩ = some (.bool false) := Z5.out.cell 5
    have z6 : w5.cell? ⟨w.heap.size, 6, none⟩ = some (.bool false) := Z5.out.cell 6
    have z7 : w5.cell? ⟨w.heap.size, 7, none⟩ = some (.int .i64 0) := Z5.out.cell 7
    have z8 : w5.cell? ⟨w.heap.size, 8, none⟩ = some (.slice none 0 0) := Z5.out.cell 8
    have u0 : w5.frozen? ⟨w.heap.size, 0, none⟩ = false := Z5.out.free 0
    have u1 : w5.frozen? ⟨w.heap.size, 1, none⟩ = false := Z5.out.free 1
    have u2 : w5.frozen? ⟨w.heap.size, 2, none⟩ = false := Z5.out.free 2
    have u3 : w5.frozen? ⟨w.heap.size, 3, none⟩ = false := Z5.out.free 3
    have u4 : w5.frozen? ⟨w.heap.size, 4, none⟩ = false := Z5.out.free 4
    have u5 : w5.frozen? ⟨w.heap.size, 5, none⟩ = false := Z5.out.free 5
    have u6 : w5.frozen? ⟨w.heap.size, 6, none⟩ = false := Z5.out.free 6
    have u7 : w5.frozen? ⟨w.heap.size, 7, none⟩ = false := Z5.out.free 7
    have u8 : w5.frozen? ⟨w.heap.size, 8, none⟩ = false := Z5.out.free 8
    have x_0 : w5.cell? ⟨b, 0, none⟩ = some (.int .i64 k) := X5.out.cell 0
    have x_1 : w5.cell? ⟨b, 1, none⟩ = some (.int .i64 f) := X5.out.cell 1
    have x_2 : w5.cell? ⟨b, 2, none⟩ = some (.int .i64 t) := X5.out.cell 2
    have x_3 : w5.cell? ⟨b, 3, none⟩ = some (.int .i64 s) := X5.out.cell 3
    have x_4 : w5.cell? ⟨b, 4, none⟩ = some (.int .i64 g) := X5.out.cell 4
    have x_5 : w5.cell? ⟨b, 5, none⟩ = some (.bool m) := X5.out.cell 5
    have x_6 : w5.cell? ⟨b, 6, none⟩ = some (.bool r) := X5.out.cell 6
    have x_7 : w5.cell? ⟨b, 7, none⟩ = some (.int .i64 d) := X5.out.cell 7
    have x_8 : w5.cell? ⟨b, 8, none⟩ = some (.slice A n c) := X5.out.cell 8
    have fx : w5.frozen? ⟨b, 1, none⟩ = false := X5.out.free 1
    go_wp2_with fail
    (try simp only [Exit.inBlock, Exit.then])
    refine bodyPost_ret (v := .agg #[.int .i64 k, .int .i64 y, .int .i64 t, .int .i64 s, .int .i64 g, .bool m, .bool r, .int .i64 d, .slice A n c]) ?_ rfl ?_
    · rw [results_cell1 rfl]
      go_simp
    · have hb1 : Below w.heap.size w5 (w5.setCell ⟨b, 1, none⟩ (.int .i64 y)) := ((Below.refl w5.heap.size w5).mono (by have := Z5.out.lt; omega)).setCell (p := ⟨b, 1, none⟩) (by show w.heap.size ≤ b; have := S3.out; omega) _
      have hbl : Below w.heap.size w5 ((((((((((w5.setCell ⟨b, 1, none⟩ (.int .i64 y)).setCell ⟨w.heap.size, 0, none⟩ (.int .i64 k)).setCell ⟨w.heap.size, 1, none⟩ (.int .i64 y)).setCell ⟨w.heap.size, 2, none⟩ (.int .i64 t)).setCell ⟨w.heap.size, 3, none⟩ (.int .i64 s)).setCell ⟨w.heap.size, 4, none⟩ (.int .i64 g)).setCell ⟨w.heap.size, 5, none⟩ (.bool m)).setCell ⟨w.heap.size, 6, none⟩ (.bool r)).setCell ⟨w.heap.size, 7, none⟩ (.int .i64 d)).setCell ⟨w.heap.size, 8, none⟩ (.slice A n c)) := below_nine hb1 (Nat.le_refl _) _ _ _ _ _ _ _ _ _
      exact ⟨_, _, _, _, _, _, _, _, _, _, _, zs, rfl, ⟨Q0.out, (by unfold Small; omega), Q2.out, Q3.out, Q4.out, Q5.out⟩, HN.out, ((ow_nine (Y5.out.same (by simp [World.setCell]) (fun q h1 h2 => Below.heap_setCell _ _ _ _ (by show q ≠ b; have := SB.out; omega))) (by have := SZ.out; omega) _ _ _ _ _ _ _ _ _).down (by have := SZ.out; omega)).up, K5.out.later (Nat.le_refl _) hbl, Cur.later C0.out K5.out C5.out (Nat.le_refl _) hbl⟩
  · go_wp2_with fail
    (with_reducible refine (pickIn (-1) 63 4 (by omega) (by omega) _ p a len cap C4.out #[.int .i64 (-1), .int .i64 15, .int .i64 16, .int .i64 63] rfl (by kernel_rfl)).mono ?_)
    rintro e w5 ⟨y, rfl, hy0, hy1, hk, hc⟩
    have K5 := Lib.hid (K4.out.trans hk)
    have C5 := Lib.hid hc
    have Z5 := Lib.hid (bx_keep Z4.out hk (by have := P0.out; omega))
    have X5 := Lib.hid (bx_keep X4.out hk (by have := P0.out; have := S3.out; omega))
    have Y5 := Lib.hid (ow_keep Y4.out hk (by have := P0.out; have := SZ.out; omega))
    clear K4 C4 Z4 X4 Y4
    clear hk hc
    have hne : b ≠ w.heap.size := by have := S3.out; omega
    have z0 : w5.cell? ⟨w.heap.size, 0, none⟩ = some (.int .i64 0) := Z5.out.cell 0
    have z1 : w5.cell? ⟨w.heap.size, 1, none⟩ = some (.int .i64 0) := Z5.out.cell 1
    have z2 : w5.cell? ⟨w.heap.size, 2, none⟩ = some (.int .i64 0) := Z5.out.cell 2
    have z3 : w5.cell? ⟨w.heap.size, 3, none⟩ = some (.int .i64 0) := Z5.out.cell 3
    have z4 : w5.cell? ⟨w.heap.size, 4, none⟩ = some (.int .i64 0) := Z5.out.cell 4
    have z5 : w5.cell? ⟨w.heap.size, 5, none⟩ = some (.bool false) := Z5.out.cell 5
    have z6 : w5.cell? ⟨w.heap.size, 6, none⟩ = some (.bool false) := Z5.out.cell 6
    have z7 : w5.cell? ⟨w.heap.size, 7, none⟩ = some (.int .i64 0) := Z5.out.cell 7
    have z8 : w5.cell? ⟨w.heap.size, 8, none⟩ = some (.slice none 0 0) := Z5.out.cell 8
    have u0 : w5.frozen? ⟨w.heap.size, 0, none⟩ = false := Z5.out.free 0
    have u1 : w5.frozen? ⟨w.heap.size, 1, none⟩ = false := Z5.out.free 1
    have u2 : w5.frozen? ⟨w.heap.size, 2, none⟩ = false := Z5.out.free 2
    have u3 : w5.frozen? ⟨w.heap.size, 3, none⟩ = false := Z5.out.free 3
    have u4 : w5.frozen? ⟨w.heap.size, 4, none⟩ = false := Z5.out.free 4
    have u5 : w5.frozen? ⟨w.heap.size, 5, none⟩ = false := Z5.out.free 5
    have u6 : w5.frozen? ⟨w.heap.size, 6, none⟩ = false := Z5.out.free 6
    have u7 : w5.frozen? ⟨w.heap.size, 7, none⟩ = false := Z5.out.free 7
    have u8 : w5.frozen? ⟨w.heap.size, 8, none⟩ = false := Z5.out.free 8
    have x_0 : w5.cell? ⟨b, 0, none⟩ = some (.int .i64 k) := X5.out.cell 0
    have x_1 : w5.cell? ⟨b, 1, none⟩ = some (.int .i64 f) := X5.out.cell 1
    have x_2 : w5.cell? ⟨b, 2, none⟩ = some (.int .i64 t) := X5.out.cell 2
    have x_3 : w5.cell? ⟨b, 3, none⟩ = some (.int .i64 s) := X5.out.cell 3
    have x_4 : w5.cell? ⟨b, 4, none⟩ = some (.int .i64 g) := X5.out.cell 4
    have x_5 : w5.cell? ⟨b, 5, none⟩ = some (.bool m) := X5.out.cell 5
    have x_6 : w5.cell? ⟨b, 6, none⟩ = some (.bool r) := X5.out.cell 6
    have x_7 : w5.cell? ⟨b, 7, none⟩ = some (.int .i64 d) := X5.out.cell 7
    have x_8 : w5.cell? ⟨b, 8, none⟩ = some (.slice A n c) := X5.out.cell 8
    have fx : w5.frozen? ⟨b, 2, none⟩ = false := X5.out.free 2
    go_wp2_with fail
    (try simp only [Exit.inBlock, Exit.then])
    refine bodyPost_ret (v := .agg #[.int .i64 k, .int .i64 f, .int .i64 y, .int .i64 s, .int .i64 g, .bool m, .bool r, .int .i64 d, .slice A n c]) ?_ rfl ?_
    · rw [results_cell1 rfl]
      go_simp
    · have hb1 : Below w.heap.size w5 (w5.setCell ⟨b, 2, none⟩ (.int .i64 y)) := ((Below.refl w5.heap.size w5).mono (by have := Z5.out.lt; omega)).setCell (p := ⟨b, 2, none⟩) (by show w.heap.size ≤ b; have := S3.out; omega) _
      have hbl : Below w.heap.size w5 ((((((((((w5.setCell ⟨b, 2, none⟩ (.int .i64 y)).setCell ⟨w.heap.size, 0, none⟩ (.int .i64 k)).setCell ⟨w.heap.size, 1, none⟩ (.int .i64 f)).setCell ⟨w.heap.size, 2, none⟩ (.int .i64 y)).setCell ⟨w.heap.size, 3, none⟩ (.int .i64 s)).setCell ⟨w.heap.size, 4, none⟩ (.int .i64 g)).setCell ⟨w.heap.size, 5, none⟩ (.bool m)).setCell ⟨w.heap.size, 6, none⟩ (.bool r)).setCell ⟨w.heap.size, 7, none⟩ (.int .i64 d)).setCell ⟨w.heap.size, 8, none⟩ (.slice A n c)) := below_nine hb1 (Nat.le_refl _) _ _ _ _ _ _ _ _ _
      exact ⟨_, _, _, _, _, _, _, _, _, _, _, zs, rfl, ⟨Q0.out, Q1.out, (by unfold Small; omega), Q3.out, Q4.out, Q5.out⟩, HN.out, ((ow_nine (Y5.out.same (by simp [World.setCell]) (fun q h1 h2 => Below.heap_setCell _ _ _ _ (by show q ≠ b; have := SB.out; omega))) (by have := SZ.out; omega) _ _ _ _ _ _ _ _ _).down (by have := SZ.out; omega)).up, K5.out.later (Nat.le_refl _) hbl, Cur.later C0.out K5.out C5.out (Nat.le_refl _) hbl⟩
  · go_wp2_with fail
    (with_reducible refine (pickIn (-1) 4096 3 (by omega) (by omega) _ p a len cap C4.out #[.int .i64 (-1), .int .i64 4095, .int .i64 4096] rfl (by kernel_rfl)).mono ?_)
    rintro e w5 ⟨y, rfl, hy0, hy1, hk, hc⟩
    have K5 := Lib.hid (K4.out.trans hk)
    have C5 := Lib.hid hc
    have Z5 := Lib.hid (bx_keep Z4.out hk (by have := P0.out; omega))
    have X5 := Lib.hid (bx_keep X4.out hk (by have := P0.out; have := S3.out; omega))
    have Y5 := Lib.hid (ow_keep Y4.out hk (by have := P0.out; have := SZ.out; omega))
    clear K4 C4 Z4 X4 Y4
    clear hk hc
    have hne : b ≠ w.heap.size := by have := S3.out; omega
    have z0 : w5.cell? ⟨w.heap.size, 0, none⟩ = some (.int .i64 0) := Z5.out.cell 0
    have z1 : w5.cell? ⟨w.heap.size, 1, none⟩ = some (.int .i64 0) := Z5.out.cell 1
    have z2 : w5.cell? ⟨w.heap.size, 2, none⟩ = some (.int .i64 0) := Z5.out.cell 2
    have z3 : w5.cell? ⟨w.heap.size, 3, none⟩ = some (.int .i64 0) := Z5.out.cell 3
    have z4 : w5.cell? ⟨w.heap.size, 4, none⟩ = some (.int .i64 0) := Z5.out.cell 4
    have z5 : w5.cell? ⟨w.heap.size, 5, none⟩ = some (.bool false) := Z5.out.cell 5
    have z6 : w5.cell? ⟨w.heap.size, 6, none⟩ = some (.bool false) := Z5.out.cell 6
    have z7 : w5.cell? ⟨w.heap.size, 7, none⟩ = some (.int .i64 0) := Z5.out.cell 7
    have z8 : w5.cell? ⟨w.heap.size, 8, none⟩ = some (.slice none 0 0) := Z5.out.cell 8
    have u0 : w5.frozen? ⟨w.heap.size, 0, none⟩ = false := Z5.out.free 0
    have u1 : w5.frozen? ⟨w.heap.size, 1, none⟩ = false := Z5.out.free 1
    have u2 : w5.frozen? ⟨w.heap.size, 2, none⟩ = false := Z5.out.free 2
    have u3 : w5.frozen? ⟨w.heap.size, 3, none⟩ = false := Z5.out.free 3
    have u4 : w5.frozen? ⟨w.heap.size, 4, none⟩ = false := Z5.out.free 4
    have u5 : w5.frozen? ⟨w.heap.size, 5, none⟩ = false := Z5.out.free 5
    have u6 : w5.frozen? ⟨w.heap.size, 6, none⟩ = false := Z5.out.free 6
    have u7 : w5.frozen? ⟨w.heap.size, 7, none⟩ = false := Z5.out.free 7
    have u8 : w5.frozen? ⟨w.heap.size, 8, none⟩ = false := Z5.out.free 8
    have x_0 : w5.cell? ⟨b, 0, none⟩ = some (.int .i64 k) := X5.out.cell 0
    have x_1 : w5.cell? ⟨b, 1, none⟩ = some (.int .i64 f) := X5.out.cell 1
    have x_2 : w5.cell? ⟨b, 2, none⟩ = some (.int .i64 t) := X5.out.cell 2
    have x_3 : w5.cell? ⟨b, 3, none⟩ = some (.int .i64 s) := X5.out.cell 3
    have x_4 : w5.cell? ⟨b, 4, none⟩ = some (.int .i64 g) := X5.out.cell 4
    have x_5 : w5.cell? ⟨b, 5, none⟩ = some (.bool m) := X5.out.cell 5
    have x_6 : w5.cell? ⟨b, 6, none⟩ = some (.bool r) := X5.out.cell 6
    have x_7 : w5.cell? ⟨b, 7, none⟩ = some (.int .i64 d) := X5.out.cell 7
    have x_8 : w5.cell? ⟨b, 8, none⟩ = some (.slice A n c) := X5.out.cell 8
    have fx : w5.frozen? ⟨b, 3, none⟩ = false := X5.out.free 3
    go_wp2_with fail
    (try simp only [Exit.inBlock, Exit.then])
    refine bodyPost_ret (v := .agg #[.int .i64 k, .int .i64 f, .int .i64 t, .int .i64 y, .int .i64 g, .bool m, .bool r, .int .i64 d, .slice A n c]) ?_ rfl ?_
    · rw [results_cell1 rfl]
      go_simp
    · have hb1 : Below w.heap.size w5 (w5.setCell ⟨b, 3, none⟩ (.int .i64 y)) := ((Below.refl w5.heap.size w5).mono (by have := Z5.out.lt; omega)).setCell (p := ⟨b, 3, none⟩) (by show w.heap.size ≤ b; have := S3.out; omega) _
      have hbl : Below w.heap.size w5 ((((((((((w5.setCell ⟨b, 3, none⟩ (.int .i64 y)).setCell ⟨w.heap.size, 0, none⟩ (.int .i64 k)).setCell ⟨w.heap.size, 1, none⟩ (.int .i64 f)).setCell ⟨w.heap.size, 2, none⟩ (.int .i64 t)).setCell ⟨w.heap.size, 3, none⟩ (.int .i64 y)).setCell ⟨w.heap.size, 4, none⟩ (.int .i64 g)).setCell ⟨w.heap.size, 5, none⟩ (.bool m)).setCell ⟨w.heap.size, 6, none⟩ (.bool r)).setCell ⟨w.heap.size, 7, none⟩ (.int .i64 d)).setCell ⟨w.heap.size, 8, none⟩ (.slice A n c)) := below_nine hb1 (Nat.le_refl _) _ _ _ _ _ _ _ _ _
      exact ⟨_, _, _, _, _, _, _, _, _, _, _, zs, rfl, ⟨Q0.out, Q1.out, Q2.out, (by unfold Small; omega), Q4.out, Q5.out⟩, HN.out, ((ow_nine (Y5.out.same (by simp [World.setCell]) (fun q h1 h2 => Below.heap_setCell _ _ _ _ (by show q ≠ b; have := SB.out; omega))) (by have := SZ.out; omega) _ _ _ _ _ _ _ _ _).down (by have := SZ.out; omega)).up, K5.out.later (Nat.le_refl _) hbl, Cur.later C0.out K5.out C5.out (Nat.le_refl _) hbl⟩
  · go_wp2_with fail
    (with_reducible refine (pickIn (-1) 16 3 (by omega) (by omega) _ p a len cap C4.out #[.int .i64 (-1), .int .i64 15, .int .i64 16] rfl (by kernel_rfl)).mono ?_)
    rintro e w5 ⟨y, rfl, hy0, hy1, hk, hc⟩
    have K5 := Lib.hid (K4.out.trans hk)
    have C5 := Lib.hid hc
    have Z5 := Lib.hid (bx_keep Z4.out hk (by have := P0.out; omega))
    have X5 := Lib.hid (bx_keep X4.out hk (by have := P0.out; have := S3.out; omega))
    have Y5 := Lib.hid (ow_keep Y4.out hk (by have := P0.out; have := SZ.out; omega))
    clear K4 C4 Z4 X4 Y4
    clear hk hc
    have hne : b ≠ w.heap.size := by have := S3.out; omega
    have z0 : w5.cell? ⟨w.heap.size, 0, none⟩ = some (.int .i64 0) := Z5.out.cell 0
    have z1 : w5.cell? ⟨w.heap.size, 1, none⟩ = some (.int .i64 0) := Z5.out.cell 1
    have z2 : w5.cell? ⟨w.heap.size, 2, none⟩ = some (.int .i64 0) := Z5.out.cell 2
    have z3 : w5.cell? ⟨w.heap.size, 3, none⟩ = some (.int .i64 0) := Z5.out.cell 3
    have z4 : w5.cell? ⟨w.heap.size, 4, none⟩ = some (.int .i64 0) := Z5.out.cell 4
    have z5 : w5.cell? ⟨w.heap.size, 5, none⟩ = some (.bool false) := Z5.out.cell 5
    have z6 : w5.cell? ⟨w.heap.size, 6, none⟩ = some (.bool false) := Z5.out.cell 6
    have z7 : w5.cell? ⟨w.heap.size, 7, none⟩ = some (.int .i64 0) := Z5.out.cell 7
    have z8 : w5.cell? ⟨w.heap.size, 8, none⟩ = some (.slice none 0 0) := Z5.out.cell 8
    have u0 : w5.frozen? ⟨w.heap.size, 0, none⟩ = false := Z5.out.free 0
    have u1 : w5.frozen? ⟨w.heap.size, 1, none⟩ = false := Z5.out.free 1
    have u2 : w5.frozen? ⟨w.heap.size, 2, none⟩ = false := Z5.out.free 2
    have u3 : w5.frozen? ⟨w.heap.size, 3, none⟩ = false := Z5.out.free 3
    have u4 : w5.frozen? ⟨w.heap.size, 4, none⟩ = false := Z5.out.free 4
    have u5 : w5.frozen? ⟨w.heap.size, 5, none⟩ = false := Z5.out.free 5
    have u6 : w5.frozen? ⟨w.heap.size, 6, none⟩ = false := Z5.out.free 6
    have u7 : w5.frozen? ⟨w.heap.size, 7, none⟩ = false := Z5.out.free 7
    have u8 : w5.frozen? ⟨w.heap.size, 8, none⟩ = false := Z5.out.free 8
    have x_0 : w5.cell? ⟨b, 0, none⟩ = some (.int .i64 k) := X5.out.cell 0
    have x_1 : w5.cell? ⟨b, 1, none⟩ = some (.int .i64 f) := X5.out.cell 1
    have x_2 : w5.cell? ⟨b, 2, none⟩ = some (.int .i64 t) := X5.out.cell 2
    have x_3 : w5.cell? ⟨b, 3, none⟩ = some (.int .i64 s) := X5.out.cell 3
    have x_4 : w5.cell? ⟨b, 4, none⟩ = some (.int .i64 g) := X5.out.cell 4
    have x_5 : w5.cell? ⟨b, 5, none⟩ = some (.bool m) := X5.out.cell 5
    have x_6 : w5.cell? ⟨b, 6, none⟩ = some (.bool r) := X5.out.cell 6
    have x_7 : w5.cell? ⟨b, 7, none⟩ = some (.int .i64 d) := X5.out.cell 7
    have x_8 : w5.cell? ⟨b, 8, none⟩ = some (.slice A n c) := X5.out.cell 8
    have fx : w5.frozen? ⟨b, 4, none⟩ = false := X5.out.free 4
    go_wp2_with fail
    (try simp only [Exit.inBlock, Exit.then])
    refine bodyPost_ret (v := .agg #[.int .i64 k, .int .i64 f, .int .i64 t, .int .i64 s, .int .i64 y, .bool m, .bool r, .int .i64 d, .slice A n c]) ?_ rfl ?_
    · rw [results_cell1 rfl]
      go_simp
    · have hb1 : Below w.heap.size w5 (w5.setCell ⟨b, 4, none⟩ (.int .i64 y)) := ((Below.refl w5.heap.size w5).mono (by have := Z5.out.lt; omega)).setCell (p := ⟨b, 4, none⟩) (by show w.heap.size ≤ b; have := S3.out; omega) _
      have hbl : Below w.heap.size w5 ((((((((((w5.setCell ⟨b, 4, none⟩ (.int .i64 y)).setCell ⟨w.heap.size, 0, none⟩ (.int .i64 k)).setCell ⟨w.heap.size, 1, none⟩ (.int .i64 f)).setCell ⟨w.heap.size, 2, none⟩ (.int .i64 t)).setCell ⟨w.heap.size, 3, none⟩ (.int .i64 s)).setCell ⟨w.heap.size, 4, none⟩ (.int .i64 y)).setCell ⟨w.heap.size, 5, none⟩ (.bool m)).setCell ⟨w.heap.size, 6, none⟩ (.bool r)).setCell ⟨w.heap.size, 7, none⟩ (.int .i64 d)).setCell ⟨w.heap.size, 8, none⟩ (.slice A n c)) := below_nine hb1 (Nat.le_refl _) _ _ _ _ _ _ _ _ _
      exact ⟨_, _, _, _, _, _, _, _, _, _, _, zs, rfl, ⟨Q0.out, Q1.out, Q2.out, Q3.out, (by unfold Small; omega), Q5.out⟩, HN.out, ((ow_nine (Y5.out.same (by simp [World.setCell]) (fun q h1 h2 => Below.heap_setCell _ _ _ _ (by show q ≠ b; have := SB.out; omega))) (by have := SZ.out; omega) _ _ _ _ _ _ _ _ _).down (by have := SZ.out; omega)).up, K5.out.later (Nat.le_refl _) hbl, Cur.later C0.out K5.out C5.out (Nat.le_refl _) hbl⟩
  · go_wp2_with fail
    (with_reducible refine (pickIn (-1) 1001 3 (by omega) (by omega) _ p a len cap C4.out #[.int .i64 (-1), .int .i64 1000, .int .i64 1001] rfl (by kernel_rfl)).mono ?_)
    rintro e w5 ⟨y, rfl, hy0, hy1, hk, hc⟩
    have K5 := Lib.hid (K4.out.trans hk)
    have C5 := Lib.hid hc
    have Z5 := Lib.hid (bx_keep Z4.out hk (by have := P0.out; omega))
    have X5 := Lib.hid (bx_keep X4.out hk (by have := P0.out; have := S3.out; omega))
    have Y5 := Lib.hid (ow_keep Y4.out hk (by have := P0.out; have := SZ.out; omega))
    clear K4 C4 Z4 X4 Y4
    clear hk hc
    have hne : b ≠ w.heap.size := by have := S3.out; omega
    have z0 : w5.cell? ⟨w.heap.size, 0, none⟩ = some (.int .i64 0) := Z5.out.cell 0
    have z1 : w5.cell? ⟨w.heap.size, 1, none⟩ = some (.int .i64 0) := Z5.out.cell 1
    have z2 : w5.cell? ⟨w.heap.size, 2, none⟩ = some (.int .i64 0) := Z5.out.cell 2
    have z3 : w5.cell? ⟨w.heap.size, 3, none⟩ = some (.int .i64 0) := Z5.out.cell 3
    have z4 : w5.cell? ⟨w.heap.size, 4, none⟩ = some (.int .i64 0) := Z5.out.cell 4
    have z5 : w5.cell? ⟨w.heap.size, 5, none⟩ = some (.bool false) := Z5.out.cell 5
    have z6 : w5.cell? ⟨w.heap.size, 6, none⟩ = some (.bool false) := Z5.out.cell 6
    have z7 : w5.cell? ⟨w.heap.size, 7, none⟩ = some (.int .i64 0) := Z5.out.cell 7
    have z8 : w5.cell? ⟨w.heap.size, 8, none⟩ = some (.slice none 0 0) := Z5.out.cell 8
    have u0 : w5.frozen? ⟨w.heap.size, 0, none⟩ = false := Z5.out.free 0
    have u1 : w5.frozen? ⟨w.heap.size, 1, none⟩ = false := Z5.out.free 1
    have u2 : w5.frozen? ⟨w.heap.size, 2, none⟩ = false := Z5.out.free 2
    have u3 : w5.frozen? ⟨w.heap.size, 3, none⟩ = false := Z5.out.free 3
    have u4 : w5.frozen? ⟨w.heap.size, 4, none⟩ = false := Z5.out.free 4
    have u5 : w5.frozen? ⟨w.heap.size, 5, none⟩ = false := Z5.out.free 5
    have u6 : w5.frozen? ⟨w.heap.size, 6, none⟩ = false := Z5.out.free 6
    have u7 : w5.frozen? ⟨w.heap.size, 7, none⟩ = false := Z5.out.free 7
    have u8 : w5.frozen? ⟨w.heap.size, 8, none⟩ = false := Z5.out.free 8
    have x_0 : w5.cell? ⟨b, 0, none⟩ = some (.int .i64 k) := X5.out.cell 0
    have x_1 : w5.cell? ⟨b, 1, none⟩ = some (.int .i64 f) := X5.out.cell 1
    have x_2 : w5.cell? ⟨b, 2, none⟩ = some (.int .i64 t) := X5.out.cell 2
    have x_3 : w5.cell? ⟨b, 3, none⟩ = some (.int .i64 s) := X5.out.cell 3
    have x_4 : w5.cell? ⟨b, 4, none⟩ = some (.int .i64 g) := X5.out.cell 4
    have x_5 : w5.cell? ⟨b, 5, none⟩ = some (.bool m) := X5.out.cell 5
    have x_6 : w5.cell? ⟨b, 6, none⟩ = some (.bool r) := X5.out.cell 6
    have x_7 : w5.cell? ⟨b, 7, none⟩ = some (.int .i64 d) := X5.out.cell 7
    have x_8 : w5.cell? ⟨b, 8, none⟩ = some (.slice A n c) := X5.out.cell 8
    have fx : w5.frozen? ⟨b, 7, none⟩ = false := X5.out.free 7
    go_wp2_with fail
    (try simp only [Exit.inBlock, Exit.then])
    refine bodyPost_ret (v := .agg #[.int .i64 k, .int .i64 f, .int .i64 t, .int .i64 s, .int .i64 g, .bool m, .bool r, .int .i64 y, .slice A n c]) ?_ rfl ?_
    · rw [results_cell1 rfl]
      go_simp
    · have hb1 : Below w.heap.size w5 (w5.setCell ⟨b, 7, none⟩ (.int .i64 y)) := ((Below.refl w5.heap.size w5).mono (by have := Z5.out.lt; omega)).setCell (p := ⟨b, 7, none⟩) (by show w.heap.size ≤ b; have := S3.out; omega) _
      have hbl : Below w.heap.size w5 ((((((((((w5.setCell ⟨b, 7, none⟩ (.int .i64 y)).setCell ⟨w.heap.size, 0, none⟩ (.int .i64 k)).setCell ⟨w.heap.size, 1, none⟩ (.int .i64 f)).setCell ⟨w.heap.size, 2, none⟩ (.int .i64 t)).setCell ⟨w.heap.size, 3, none⟩ (.int .i64 s)).setCell ⟨w.heap.size, 4, none⟩ (.int .i64 g)).setCell ⟨w.heap.size, 5, none⟩ (.bool m)).setCell ⟨w.heap.size, 6, none⟩ (.bool r)).setCell ⟨w.heap.size, 7, none⟩ (.int .i64 y)).setCell ⟨w.heap.size, 8, none⟩ (.slice A n c)) := below_nine hb1 (Nat.le_refl _) _ _ _ _ _ _ _ _ _
      exact ⟨_, _, _, _, _, _, _, _, _, _, _, zs, rfl, ⟨Q0.out, Q1.out, Q2.out, Q3.out, Q4.out, (by unfold Small; omega)⟩, HN.out, ((ow_nine (Y5.out.same (by simp [World.setCell]) (fun q h1 h2 => Below.heap_setCell _ _ _ _ (by show q ≠ b; have := SB.out; omega))) (by have := SZ.out; omega) _ _ _ _ _ _ _ _ _).down (by have := SZ.out; omega)).up, K5.out.later (Nat.le_refl _) hbl, Cur.later C0.out K5.out C5.out (Nat.le_refl _) hbl⟩
  · go_wp2_with fail
    (with_reducible refine (below 2 (by omega) _ p a len cap C4.out).mono ?_)
    rintro e w5 ⟨y, rfl, hy0, hy1, hk, hc⟩
    have hy2 := hy1 (by omega)
    have K5 := Lib.hid (K4.out.trans hk)
    have C5 := Lib.hid hc
    have Z5 := Lib.hid (bx_keep Z4.out hk (by have := P0.out; omega))
    have X5 := Lib.hid (bx_keep X4.out hk (by have := P0.out; have := S3.out; omega))
    have Y5 := Lib.hid (ow_keep Y4.out hk (by have := P0.out; have := SZ.out; omega))
    clear K4 C4 Z4 X4 Y4
    clear hk hc hy1
    obtain ⟨q, hq⟩ := Int.eq_ofNat_of_zero_le (show 0 ≤ 100 + y by omega)
    have e1 : IntKind.i64.wrap (q : Int) = q := IntWalk.i64_in _ (by omega)
    have hq2 : q ≤ 1000 := by omega
    have hmk := fun W => run_make1 (P := Try.prog) 22 5 i0 _ Try.underlying22 HZ.out.1 HZ.out.2.1 HZ.out.2.2.1 q (by have := HZ.out.2.2.2; omega) (by omega) W
    have M5 := Lib.hid (show Ow 5 .u8 (w5.alloc (.cells (madeCells (Value.cells (.int .u8 0)) q) 5)) w5.heap.size (w5.alloc (.cells (madeCells (Value.cells (.int .u8 0)) q) 5)).heap.size (some ⟨w5.heap.size, 0, none⟩) q q (List.replicate q 0) from Ow.lit w5 _ _ (by rw [show Value.cells (.int .u8 0) = #[.int .u8 0] from rfl, toList_madeCells_one]; simp) (Wf.of_u8 fun z hz => by have := List.eq_of_mem_replicate hz; omega) (by simp [maxLen]; omega) (size_madeCells _ _))
    obtain ⟨w6, hW⟩ : ∃ w6, w5.alloc (.cells (madeCells (Value.cells (.int .u8 0)) q) 5) = w6 := ⟨_, rfl⟩
    rw [hW] at M5
    have hmk2 : (Instr.makeSlice 22 (.int .i64 (q : Int)) (.int .i64 (q : Int))).run Try.prog w5 = .ok (.slice (some ⟨w5.heap.size, 0, none⟩) q q) w6 := by rw [← hW]; exact hmk w5
    have K6 := Lib.hid (show Keep p w w6 by rw [← hW]; exact K5.out.alloc _)
    have C6 := Lib.hid (show Cur w6 p a len cap by rw [← hW]; exact C5.out.alloc _)
    have Z6 := Lib.hid (show Bx 27 w6 w.heap.size #[.int .i64 0, .int .i64 0, .int .i64 0, .int .i64 0, .int .i64 0, .bool false, .bool false, .int .i64 0, .slice none 0 0] by rw [← hW]; exact Z5.out.below (below_box _ _))
    have X6 := Lib.hid (show Bx 27 w6 b #[.int .i64 k, .int .i64 f, .int .i64 t, .int .i64 s, .int .i64 g, .bool m, .bool r, .int .i64 d, .slice A n c] by rw [← hW]; exact X5.out.below (below_box _ _))
    have SM := Lib.hid (show b < w5.heap.size from X5.out.lt)
    clear hW hmk K5 C5 Z5 X5 Y5
    have hne : b ≠ w.heap.size := by have := S3.out; omega
    have z0 : w6.cell? ⟨w.heap.size, 0, none⟩ = some (.int .i64 0) := Z6.out.cell 0
    have z1 : w6.cell? ⟨w.heap.size, 1, none⟩ = some (.int .i64 0) := Z6.out.cell 1
    have z2 : w6.cell? ⟨w.heap.size, 2, none⟩ = some (.int .i64 0) := Z6.out.cell 2
    have z3 : w6.cell? ⟨w.heap.size, 3, none⟩ = some (.int .i64 0) := Z6.out.cell 3
    have z4 : w6.cell? ⟨w.heap.size, 4, none⟩ = some (.int .i64 0) := Z6.out.cell 4
    have z5 : w6.cell? ⟨w.heap.size, 5, none⟩ = some (.bool false) := Z6.out.cell 5
    have z6 : w6.cell? ⟨w.heap.size, 6, none⟩ = some (.bool false) := Z6.out.cell 6
    have z7 : w6.cell? ⟨w.heap.size, 7, none⟩ = some (.int .i64 0) := Z6.out.cell 7
    have z8 : w6.cell? ⟨w.heap.size, 8, none⟩ = some (.slice none 0 0) := Z6.out.cell 8
    have u0 : w6.frozen? ⟨w.heap.size, 0, none⟩ = false := Z6.out.free 0
    have u1 : w6.frozen? ⟨w.heap.size, 1, none⟩ = false := Z6.out.free 1
    have u2 : w6.frozen? ⟨w.heap.size, 2, none⟩ = false := Z6.out.free 2
    have u3 : w6.frozen? ⟨w.heap.size, 3, none⟩ = false := Z6.out.free 3
    have u4 : w6.frozen? ⟨w.heap.size, 4, none⟩ = false := Z6.out.free 4
    have u5 : w6.frozen? ⟨w.heap.size, 5, none⟩ = false := Z6.out.free 5
    have u6 : w6.frozen? ⟨w.heap.size, 6, none⟩ = false := Z6.out.free 6
    have u7 : w6.frozen? ⟨w.heap.size, 7, none⟩ = false := Z6.out.free 7
    have u8 : w6.frozen? ⟨w.heap.size, 8, none⟩ = false := Z6.out.free 8
    have x_0 : w6.cell? ⟨b, 0, none⟩ = some (.int .i64 k) := X6.out.cell 0
    have x_1 : w6.cell? ⟨b, 1, none⟩ = some (.int .i64 f) := X6.out.cell 1
    have x_2 : w6.cell? ⟨b, 2, none⟩ = some (.int .i64 t) := X6.out.cell 2
    have x_3 : w6.cell? ⟨b, 3, none⟩ = some (.int .i64 s) := X6.out.cell 3
    have x_4 : w6.cell? ⟨b, 4, none⟩ = some (.int .i64 g) := X6.out.cell 4
    have x_5 : w6.cell? ⟨b, 5, none⟩ = some (.bool m) := X6.out.cell 5
    have x_6 : w6.cell? ⟨b, 6, none⟩ = some (.bool r) := X6.out.cell 6
    have x_7 : w6.cell? ⟨b, 7, none⟩ = some (.int .i64 d) := X6.out.cell 7
    have x_8 : w6.cell? ⟨b, 8, none⟩ = some (.slice A n c) := X6.out.cell 8
    have fx : w6.frozen? ⟨b, 8, none⟩ = false := X6.out.free 8
    go_wp2_with fail
    (try simp only [Exit.inBlock, Exit.then])
    refine bodyPost_ret (v := .agg #[.int .i64 k, .int .i64 f, .int .i64 t, .int .i64 s, .int .i64 g, .bool m, .bool r, .int .i64 d, .slice (some ⟨w5.heap.size, 0, none⟩) q q]) ?_ rfl ?_
    · rw [results_cell1 rfl]
      go_simp
    · have hb1 : Below w.heap.size w6 (w6.setCell ⟨b, 8, none⟩ (.slice (some ⟨w5.heap.size, 0, none⟩) q q)) := ((Below.refl w6.heap.size w6).mono (by have := Z6.out.lt; omega)).setCell (p := ⟨b, 8, none⟩) (by show w.heap.size ≤ b; have := S3.out; omega) _
      have hbl : Below w.heap.size w6 ((((((((((w6.setCell ⟨b, 8, none⟩ (.slice (some ⟨w5.heap.size, 0, none⟩) q q)).setCell ⟨w.heap.size, 0, none⟩ (.int .i64 k)).setCell ⟨w.heap.size, 1, none⟩ (.int .i64 f)).setCell ⟨w.heap.size, 2, none⟩ (.int .i64 t)).setCell ⟨w.heap.size, 3, none⟩ (.int .i64 s)).setCell ⟨w.heap.size, 4, none⟩ (.int .i64 g)).setCell ⟨w.heap.size, 5, none⟩ (.bool m)).setCell ⟨w.heap.size, 6, none⟩ (.bool r)).setCell ⟨w.heap.size, 7, none⟩ (.int .i64 d)).setCell ⟨w.heap.size, 8, none⟩ (.slice (some ⟨w5.heap.size, 0, none⟩) q q)) := below_nine hb1 (Nat.le_refl _) _ _ _ _ _ _ _ _ _
      exact ⟨_, _, _, _, _, _, _, _, _, _, _, List.replicate q 0, rfl, ⟨Q0.out, Q1.out, Q2.out, Q3.out, Q4.out, Q5.out⟩, hq2, ((ow_nine (M5.out.same (by simp [World.setCell]) (fun h h1 h2 => Below.heap_setCell _ _ _ _ (by show h ≠ b; have := SM.out; omega))) (by have := SM.out; have := S3.out; omega) _ _ _ _ _ _ _ _ _).down (by have := SM.out; have := S3.out; omega)).up, K6.out.later (Nat.le_refl _) hbl, Cur.later C0.out K6.out C6.out (Nat.le_refl _) hbl⟩
  · have n0 : (x == 0) = false := by simp; omega
    have n1 : (x == 1) = false := by simp; omega
    have n2 : (x == 2) = false := by simp; omega
    have n3 : (x == 3) = false := by simp; omega
    have n4 : (x == 4) = false := by simp; omega
    have n5 : (x == 5) = false := by simp; omega
    have n6 : (x == 6) = false := by simp; omega
    have hne : b ≠ w.heap.size := by have := S3.out; omega
    have z0 : w4.cell? ⟨w.heap.size, 0, none⟩ = some (.int .i64 0) := Z4.out.cell 0
    have z1 : w4.cell? ⟨w.heap.size, 1, none⟩ = some (.int .i64 0) := Z4.out.cell 1
    have z2 : w4.cell? ⟨w.heap.size, 2, none⟩ = some (.int .i64 0) := Z4.out.cell 2
    have z3 : w4.cell? ⟨w.heap.size, 3, none⟩ = some (.int .i64 0) := Z4.out.cell 3
    have z4 : w4.cell? ⟨w.heap.size, 4, none⟩ = some (.int .i64 0) := Z4.out.cell 4
    have z5 : w4.cell? ⟨w.heap.size, 5, none⟩ = some (.bool false) := Z4.out.cell 5
    have z6 : w4.cell? ⟨w.heap.size, 6, none⟩ = some (.bool false) := Z4.out.cell 6
    have z7 : w4.cell? ⟨w.heap.size, 7, none⟩ = some (.int .i64 0) := Z4.out.cell 7
    have z8 : w4.cell? ⟨w.heap.size, 8, none⟩ = some (.slice none 0 0) := Z4.out.cell 8
    have u0 : w4.frozen? ⟨w.heap.size, 0, none⟩ = false := Z4.out.free 0
    have u1 : w4.frozen? ⟨w.heap.size, 1, none⟩ = false := Z4.out.free 1
    have u2 : w4.frozen? ⟨w.heap.size, 2, none⟩ = false := Z4.out.free 2
    have u3 : w4.frozen? ⟨w.heap.size, 3, none⟩ = false := Z4.out.free 3
    have u4 : w4.frozen? ⟨w.heap.size, 4, none⟩ = false := Z4.out.free 4
    have u5 : w4.frozen? ⟨w.heap.size, 5, none⟩ = false := Z4.out.free 5
    have u6 : w4.frozen? ⟨w.heap.size, 6, none⟩ = false := Z4.out.free 6
    have u7 : w4.frozen? ⟨w.heap.size, 7, none⟩ = false := Z4.out.free 7
    have u8 : w4.frozen? ⟨w.heap.size, 8, none⟩ = false := Z4.out.free 8
    have x_0 : w4.cell? ⟨b, 0, none⟩ = some (.int .i64 k) := X4.out.cell 0
    have x_1 : w4.cell? ⟨b, 1, none⟩ = some (.int .i64 f) := X4.out.cell 1
    have x_2 : w4.cell? ⟨b, 2, none⟩ = some (.int .i64 t) := X4.out.cell 2
    have x_3 : w4.cell? ⟨b, 3, none⟩ = some (.int .i64 s) := X4.out.cell 3
    have x_4 : w4.cell? ⟨b, 4, none⟩ = some (.int .i64 g) := X4.out.cell 4
    have x_5 : w4.cell? ⟨b, 5, none⟩ = some (.bool m) := X4.out.cell 5
    have x_6 : w4.cell? ⟨b, 6, none⟩ = some (.bool r) := X4.out.cell 6
    have x_7 : w4.cell? ⟨b, 7, none⟩ = some (.int .i64 d) := X4.out.cell 7
    have x_8 : w4.cell? ⟨b, 8, none⟩ = some (.slice A n c) := X4.out.cell 8
    go_wp2_with fail
    (try simp only [Exit.inBlock, Exit.then])
    refine bodyPost_ret (v := .agg #[.int .i64 k, .int .i64 f, .int .i64 t, .int .i64 s, .int .i64 g, .bool m, .bool r, .int .i64 d, .slice A n c]) ?_ rfl ?_
    · rw [results_cell1 rfl]
      go_simp
    · have hb1 : Below w.heap.size w4 w4 := ((Below.refl w4.heap.size w4).mono (by have := Z4.out.lt; omega))
      have hbl : Below w.heap.size w4 (((((((((w4.setCell ⟨w.heap.size, 0, none⟩ (.int .i64 k)).setCell ⟨w.heap.size, 1, none⟩ (.int .i64 f)).setCell ⟨w.heap.size, 2, none⟩ (.int .i64 t)).setCell ⟨w.heap.size, 3, none⟩ (.int .i64 s)).setCell ⟨w.heap.size, 4, none⟩ (.int .i64 g)).setCell ⟨w.heap.size, 5, none⟩ (.bool m)).setCell ⟨w.heap.size, 6, none⟩ (.bool r)).setCell ⟨w.heap.size, 7, none⟩ (.int .i64 d)).setCell ⟨w.heap.size, 8, none⟩ (.slice A n c)) := below_nine hb1 (Nat.le_refl _) _ _ _ _ _ _ _ _ _
      exact ⟨_, _, _, _, _, _, _, _, _, _, _, zs, rfl, ⟨Q0.out, Q1.out, Q2.out, Q3.out, Q4.out, Q5.out⟩, HN.out, ((ow_nine Y4.out (by have := SZ.out; omega) _ _ _ _ _ _ _ _ _).down (by have := SZ.out; omega)).up, K4.out.later (Nat.le_refl _) hbl, Cur.later C0.out K4.out C4.out (Nat.le_refl _) hbl⟩
end Go.Proofs.Ytebbnopconbnlaa.draw
