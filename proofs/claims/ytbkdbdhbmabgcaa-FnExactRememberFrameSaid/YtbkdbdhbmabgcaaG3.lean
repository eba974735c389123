/- Merged texts of this seat. DrawG: Any frame that is drawn, and bytes that were bent. Condition: the bytes that are drawn from are a slice that came in. | Box: A block that holds an array of cells, whatever the struct; results that are one bool or one integer; ranges. Condition: none. | Drk: Blocks, cursors and draws: small laws whatever the struct. Condition: none. | Reg: A region that draws its order, by what each operation leaves: one duty for each operation, none for an order. Each operation is shown to leave a value that is right, in whatever order the others came; what is right stays so; one operation that writes (the last in every order) may end the region. Condition: the region's form, a Bool that the kernel reckons. | Stw: A whole variable of many cells stored and handed back in one step, in regions that draw their order and in others; 'clear' of one element of many cells. Condition: none. | Rgk: A region that draws its order and stores whole variables whose places are known, in whatever order the stores come: what each operation may do to the world, what is right of its value and stays so. Condition: none. -/
import Derived.Deep.QuietTactic
import Derived.Orders
import Derived.StillTail
import Derived.Below
import Derived.Laws.CopyRow
import Derived.Deep.RegionLaw
import Derived.Deep.MidRow
import Derived.Lib.SliceRun
import Derived.Test.YtbkdbdhbmabgcaaG1
import Derived.Test.YtbkdbdhbmabgcaaG2
section
namespace Go.Proofs.Ytbkdbdhbmabgcaa.draw
open Go.RowKit sl harn fbx frm
set_option linter.unusedVariables false
theorem slice_low {P : Program} (t E : TypeId) (i0 : TypeInfo) (hu : P.underlying t = some (.slice E)) (hi : P.info? E = some i0) (b n c j : Nat) (hj : j ≤ c) (W : World) :
    (Instr.slice t (.slice (some ⟨b, 0, none⟩) n c) none (some (.int .i64 (j : Int))) none).run P W = .ok (.slice (some ⟨b, 0, none⟩) j c) W := by
  simp [Instr.slice, run_underlying hu, Instr.sliceBounds, Instr.sliceBound, sizeOf, typeInfo, hi, go_sem, Addr.add, hj]
theorem slice_none {P : Program} (t E : TypeId) (i0 : TypeInfo) (hu : P.underlying t = some (.slice E)) (hi : P.info? E = some i0) (W : World) :
    (Instr.slice t (.slice none 0 0) none (some (.int .i64 0)) none).run P W = .ok (.slice none 0 0) W := by
  simp [Instr.slice, run_underlying hu, Instr.sliceBounds, Instr.sliceBound, sizeOf, typeInfo, hi, go_sem]
theorem ow_take {E : TypeId} {k : IntKind} {w : World} {lo hi n cap : Nat} {b : Nat} {zs : List Int} (h : Ow E k w lo hi (some ⟨b, 0, none⟩) n cap zs) {m : Nat} (hm : m ≤ n) : Ow E k w lo hi (some ⟨b, 0, none⟩) m cap (zs.take m) := by
  have hl := h.len
  rcases h.form with ⟨e, _⟩ | ⟨g, cur, e, g1, g2, hb, g3, g4, g5, g6⟩
  · cases e
  · injection e with e; injection e with e _
    subst e
    refine ⟨⟨by simp; omega, Or.inr ⟨b, cap, cur, rfl, g1, hb, by omega, g4, by omega, ?_⟩⟩, h.wf.take m, h.hi_, h.2.2.2⟩
    rw [Nat.mul_one]
    have e2 : cur.toList.take m = (cur.toList.take n).take m := by rw [List.take_take, Nat.min_eq_left hm]
    rw [e2, g6, List.map_take]

set_option maxRecDepth 100000 in
set_option maxHeartbeats 4000000 in
theorem anyFrm (w : World) (p : Nat) (a : Option Addr) (len cap : Nat) (hc : Cur w p a len cap) :
    Calls Try.prog 49 #[.pointer (some ⟨p, 0, none⟩)] w (FrmPost p a len cap w) := by
  obtain ⟨i0, hi0, hz0, hz1, hz2⟩ := info_parts u8Info
  have HZ := Lib.hid (And.intro hi0 (And.intro hz0 (And.intro hz1 hz2)))
  clear hi0 hz0 hz1 hz2
  have C0 := Lib.hid hc
  have P0 := Lib.hid hc.lt
  clear hc
  go_enter Try.func49, Try.ntmps49
  go_wp2_with fail
  obtain ⟨w1, hW⟩ : ∃ w1, w.alloc (.cells #[.int .i64 0, .int .i64 0, .int .i64 0, .int .i64 0, .int .i64 0, .bool false, .bool false, .int .i64 0, .slice none 0 0] 25) = w1 := ⟨_, rfl⟩
  rw [hW]
  have K1 := Lib.hid (show Keep p w w1 by rw [← hW]; exact (Keep.refl p w).alloc _)
  have C1 := Lib.hid (show Cur w1 p a len cap by rw [← hW]; exact C0.out.alloc _)
  have Z1 := Lib.hid (show Bx 25 w1 w.heap.size #[.int .i64 0, .int .i64 0, .int .i64 0, .int .i64 0, .int .i64 0, .bool false, .bool false, .int .i64 0, .slice none 0 0] by rw [← hW]; exact Bx.made _ _ _)
  have SZ := Lib.hid (show w.heap.size < w1.heap.size from Z1.out.lt)
  clear hW
  (with_reducible refine (frm_ _ p a len cap C1.out).mono ?_)
  rintro e w2 ⟨k, f, t, s, g, m, r, d, A, n, c, zs, rfl, ⟨s0, s1, s2, s3, s4, s5⟩, hn, ho, hk, hc⟩
  have K2 := Lib.hid (K1.out.trans hk)
  have C2 := Lib.hid hc
  have Z2 := Lib.hid (bx_keep Z1.out hk (by have := P0.out; omega))
  have Y2 := Lib.hid ho
  clear ho hk hc K1 C1 Z1
  have Q0 := Lib.hid s0
  have Q1 := Lib.hid s1
  have Q2 := Lib.hid s2
  have Q3 := Lib.hid s3
  have Q4 := Lib.hid s4
  have Q5 := Lib.hid s5
  have HN := Lib.hid hn
  clear s0 s1 s2 s3 s4 s5 hn
  obtain ⟨b, hb⟩ : ∃ b, w2.heap.size = b := ⟨_, rfl⟩
  have S3 := Lib.hid (show w.heap.size < b by rw [← hb]; exact Z2.out.lt)
  go_wp2_with fail
  obtain ⟨w3, hW⟩ : ∃ w3, w2.alloc (.cells #[.int .i64 k, .int .i64 f, .int .i64 t, .int .i64 s, .int .i64 g, .bool m, .bool r, .int .i64 d, .slice A n c] 25) = w3 := ⟨_, rfl⟩
  rw [hW]
  have K3 := Lib.hid (show Keep p w w3 by rw [← hW]; exact K2.out.alloc _)
  have C3 := Lib.hid (show Cur w3 p a len cap by rw [← hW]; exact C2.out.alloc _)
  have Z3 := Lib.hid (show Bx 25 w3 w.heap.size #[.int .i64 0, .int .i64 0, .int .i64 0, .int .i64 0, .int .i64 0, .bool false, .bool false, .int .i64 0, .slice none 0 0] by rw [← hW]; exact Z2.out.below (below_box _ _))
  have X3 := Lib.hid (show Bx 25 w3 b #[.int .i64 k, .int .i64 f, .int .i64 t, .int .i64 s, .int .i64 g, .bool m, .bool r, .int .i64 d, .slice A n c] by rw [← hW, ← hb]; exact Bx.made _ _ _)
  have Y3 := Lib.hid (show Ow 5 .u8 w3 w1.heap.size w2.heap.size A n c zs by rw [← hW]; exact Y2.out.below (below_box _ _))
  have SB := Lib.hid (show w2.heap.size ≤ b by omega)
  try rw [hb]
  clear hW hb K2 C2 Z2 Y2
  (with_reducible refine (below 12 (by omega) _ p a len cap C3.out).mono ?_)
  rintro e w4 ⟨x, rfl, hx0, hx1, hk, hc⟩
  have hx2 := hx1 (by omega)
  have K4 := Lib.hid (K3.out.trans hk)
  have C4 := Lib.hid hc
  have Z4 := Lib.hid (bx_keep Z3.out hk (by have := P0.out; omega))
  have X4 := Lib.hid (bx_keep X3.out hk (by have := P0.out; have := S3.out; omega))
  have Y4 := Lib.hid (ow_keep Y3.out hk (by have := P0.out; have := SZ.out; omega))
  clear K3 C3 Z3 X3 Y3
  clear hk hc hx1
  have hxx : x = 0 ∨ x = 1 ∨ x = 2 ∨ x = 3 ∨ x = 4 ∨ x = 5 ∨ x = 6 ∨ 7 ≤ x := by omega
  clear hx0 hx2
  rcases hxx with rfl | rfl | rfl | rfl | rfl | rfl | rfl | hx7
  · go_wp2_with fail
    (with_reducible refine (pickIn (0) 8 2 (by omega) (by omega) _ p a len cap C4.out #[.int .i64 0, .int .i64 8] rfl (by kernel_rfl)).mono ?_)
    rintro e w5 ⟨y, rfl, hy0, hy1, hk, hc⟩
    have K5 := Lib.hid (K4.out.trans hk)
    have C5 := Lib.hid hc
    have Z5 := Lib.hid (bx_keep Z4.out hk (by have := P0.out; omega))
    have X5 := Lib.hid (bx_keep X4.out hk (by have := P0.out; have := S3.out; omega))
    have Y5 := Lib.hid (ow_keep Y4.out hk (by have := P0.out; have := SZ.out; omega))
    clear K4 C4 Z4 X4 Y4
    clear hk hc
    have hne : b ≠ w.heap.size := by have := S3.out; omega
    have z0 : w5.cell? ⟨w.heap.size, 0, none⟩ = some (.int .i64 0) := Z5.out.cell 0
    have z1 : w5.cell? ⟨w.heap.size, 1, none⟩ = some (.int .i64 0) := Z5.out.cell 1
    have z2 : w5.cell? ⟨w.heap.size, 2, none⟩ = some (.int .i64 0) := Z5.out.cell 2
    have z3 : w5.cell? ⟨w.heap.size, 3, none⟩ = some (.int .i64 0) := Z5.out.cell 3
    have z4 : w5.cell? ⟨w.heap.size, 4, none⟩ = some (.int .i64 0) := Z5.out.cell 4
    have z5 : w5.cell? ⟨w.heap.size, 5, none⟩ = some (.bool false) := Z5.out.cell 5
    have z6 : w5.cell? ⟨w.heap.size, 6, none⟩ = some (.bool false) := Z5.out.cell 6
    have z7 : w5.cell? ⟨w.heap.size, 7, none⟩ = some (.int .i64 0) := Z5.out.cell 7
    have z8 : w5.cell? ⟨w.heap.size, 8, none⟩ = some (.slice none 0 0) := Z5.out.cell 8
    have u0 : w5.frozen? ⟨w.heap.size, 0, none⟩ = false := Z5.out.free 0
    have u1 : w5.frozen? ⟨w.heap.size, 1, none⟩ = false := Z5.out.free 1
    have u2 : w5.frozen? ⟨w.heap.size, 2, none⟩ = false := Z5.out.free 2
    have u3 : w5.frozen? ⟨w.heap.size, 3, none⟩ = false := Z5.out.free 3
    have u4 : w5.frozen? ⟨w.heap.size, 4, none⟩ = false := Z5.out.free 4
    have u5 : w5.frozen? ⟨w.heap.size, 5, none⟩ = false := Z5.out.free 5
    have u6 : w5.frozen? ⟨w.heap.size, 6, none⟩ = false := Z5.out.free 6
    have u7 : w5.frozen? ⟨w.heap.size, 7, none⟩ = false := Z5.out.free 7
    have u8 : w5.frozen? ⟨w.heap.size, 8, none⟩ = false := Z5.out.free 8
    have x_0 : w5.cell? ⟨b, 0, none⟩ = some (.int .i64 k) := X5.out.cell 0
    have x_1 : w5.cell? ⟨b, 1, none⟩ = some (.int .i64 f) := X5.out.cell 1
    have x_2 : w5.cell? ⟨b, 2, none⟩ = some (.int .i64 t) := X5.out.cell 2
    have x_3 : w5.cell? ⟨b, 3, none⟩ = some (.int .i64 s) := X5.out.cell 3
    have x_4 : w5.cell? ⟨b, 4, none⟩ = some (.int .i64 g) := X5.out.cell 4
    have x_5 : w5.cell? ⟨b, 5, none⟩ = some (.bool m) := X5.out.cell 5
    have x_6 : w5.cell? ⟨b, 6, none⟩ = some (.bool r) := X5.out.cell 6
    have x_7 : w5.cell? ⟨b, 7, none⟩ = some (.int .i64 d) := X5.out.cell 7
    have x_8 : w5.cell? ⟨b, 8, none⟩ = some (.slice A n c) := X5.out.cell 8
    have fx : w5.frozen? ⟨b, 0, none⟩ = false := X5.out.free 0
    go_wp2_with fail
    (try simp only [Exit.inBlock, Exit.then])
    refine bodyPost_ret (v := .agg #[.int .i64 y, .int .i64 f, .int .i64 t, .int .i64 s, .int .i64 g, .bool m, .bool r, .int .i64 d, .slice A n c]) ?_ rfl ?_
    · rw [results_cell1 rfl]
      go_simp
    · have hb1 : Below w.heap.size w5 (w5.setCell ⟨b, 0, none⟩ (.int .i64 y)) := ((Below.refl w5.heap.size w5).mono (by have := Z5.out.lt; omega)).setCell (p := ⟨b, 0, none⟩) (by show w.heap.size ≤ b; have := S3.out; omega) _
      have hbl : Below w.heap.size w5 ((((((((((w5.setCell ⟨b, 0, none⟩ (.int .i64 y)).setCell ⟨w.heap.size, 0, none⟩ (.int .i64 y)).setCell ⟨w.heap.size, 1, none⟩ (.int .i64 f)).setCell ⟨w.heap.size, 2, none⟩ (.int .i64 t)).setCell ⟨w.heap.size, 3, none⟩ (.int .i64 s)).setCell ⟨w.heap.size, 4, none⟩ (.int .i64 g)).setCell ⟨w.heap.size, 5, none⟩ (.bool m)).setCell ⟨w.heap.size, 6, none⟩ (.bool r)).setCell ⟨w.heap.size, 7, none⟩ (.int .i64 d)).setCell ⟨w.heap.size, 8, none⟩ (.slice A n c)) := below_nine hb1 (Nat.le_refl _) _ _ _ _ _ _ _ _ _
      exact ⟨_, _, _, _, _, _, _, _, _, _, _, zs, rfl, ⟨(by unfold Small; omega), Q1.out, Q2.out, Q3.out, Q4.out, Q5.out⟩, HN.out, ((ow_nine (Y5.out.same (by simp [World.setCell]) (fun q h1 h2 => Below.heap_setCell _ _ _ _ (by show q ≠ b; have := SB.out; omega))) (by have := SZ.out; omega) _ _ _ _ _ _ _ _ _).down (by have := SZ.out; omega)).up, K5.out.later (Nat.le_refl _) hbl, Cur.later C0.out K5.out C5.out (Nat.le_refl _) hbl⟩
  · have x_2 : w4.cell? ⟨b, 2, none⟩ = some (.int .i64 t) := X4.out.cell 2
    go_wp2_with fail
    clear x_2
    (with_reducible refine (pickIn (-100000) 100000 4 (by omega) (by omega) _ p a len cap C4.out #[.int .i64 (-1), .int .i64 15, .int .i64 16, .int .i64 t] rfl (by have hq := Q2.out; unfold Small at hq; simp [okInt]; omega)).mono ?_)
    rintro e w5 ⟨y, rfl, hy0, hy1, hk, hc⟩
    have K5 := Lib.hid (K4.out.trans hk)
    have C5 := Lib.hid hc
    have Z5 := Lib.hid (bx_keep Z4.out hk (by have := P0.out; omega))
    have X5 := Lib.hid (bx_keep X4.out hk (by have := P0.out; have := S3.out; omega))
    have Y5 := Lib.hid (ow_keep Y4.out hk (by have := P0.out; have := SZ.out; omega))
    clear K4 C4 Z4 X4 Y4
    clear hk hc
    have hne : b ≠ w.heap.size := by have := S3.out; omega
    have z0 : w5.cell? ⟨w.heap.size, 0, none⟩ = some (.int .i64 0) := Z5.out.cell 0
    have z1 : w5.cell? ⟨w.heap.size, 1, none⟩ = some (.int .i64 0) := Z5.out.cell 1
    have z2 : w5.cell? ⟨w.heap.size, 2, none⟩ = some (.int .i64 0) := Z5.out.cell 2
    have z3 : w5.cell? ⟨w.heap.size, 3, none⟩ = some (.int .i64 0) := Z5.out.cell 3
    have z4 : w5.cell? ⟨w.heap.size, 4, none⟩ = some (.int .i64 0) := Z5.out.cell 4
    have z5 : w5.cell? ⟨w.heap.size, 5, none⟩ = some (.bool false) := Z5.out.cell 5
    have z6 : w5.cell? ⟨w.heap.size, 6, none⟩ = some (.bool false) := Z5.out.cell 6
    have z7 : w5.cell? ⟨w.heap.size, 7, none⟩ = some (.int .i64 0) := Z5.out.cell 7
    have z8 : w5.cell? ⟨w.heap.size, 8, none⟩ = some (.slice none 0 0) := Z5.out.cell 8
    have u0 : w5.frozen? ⟨w.heap.size, 0, none⟩ = false := Z5.out.free 0
    have u1 : w5.frozen? ⟨w.heap.size, 1, none⟩ = false := Z5.out.free 1
    have u2 : w5.frozen? ⟨w.heap.size, 2, none⟩ = false := Z5.out.free 2
    have u3 : w5.frozen? ⟨w.heap.size, 3, none⟩ = false := Z5.out.free 3
    have u4 : w5.frozen? ⟨w.heap.size, 4, none⟩ = false := Z5.out.free 4
    have u5 : w5.frozen? ⟨w.heap.size, 5, none⟩ = false := Z5.out.free 5
    have u6 : w5.frozen? ⟨w.heap.size, 6, none⟩ = false := Z5.out.free 6
    have u7 : w5.frozen? ⟨w.heap.size, 7, none⟩ = false := Z5.out.free 7
    have u8 : w5.frozen? ⟨w.heap.size, 8, none⟩ = false := Z5.out.free 8
    have x_0 : w5.cell? ⟨b, 0, none⟩ = some (.int .i64 k) := X5.out.cell 0
    have x_1 : w5.cell? ⟨b, 1, none⟩ = some (.int .i64 f) := X5.out.cell 1
    have x_2 : w5.cell? ⟨b, 2, none⟩ = some (.int .i64 t) := X5.out.cell 2
    have x_3 : w5.cell? ⟨b, 3, none⟩ = some (.int .i64 s) := X5.out.cell 3
    have x_4 : w5.cell? ⟨b, 4, none⟩ = some (.int .i64 g) := X5.out.cell 4
    have x_5 : w5.cell? ⟨b, 5, none⟩ = some (.bool m) := X5.out.cell 5
    have x_6 : w5.cell? ⟨b, 6, none⟩ = some (.bool r) := X5.out.cell 6
    have x_7 : w5.cell? ⟨b, 7, none⟩ = some (.int .i64 d) := X5.out.cell 7
    have x_8 : w5.cell? ⟨b, 8, none⟩ = some (.slice A n c) := X5.out.cell 8
    have fx : w5.frozen? ⟨b, 1, none⟩ = false := X5.out.free 1
    go_wp2_with fail
    (try simp only [Exit.inBlock, Exit.then])
    refine bodyPost_ret (v := .agg #[.int .i64 k, .int .i64 y, .int .i64 t, .int .i64 s, .int .i64 g, .bool m, .bool r, .int .i64 d, .slice A n c]) ?_ rfl ?_
    · rw [results_cell1 rfl]
      go_simp
    · have hb1 : Below w.heap.size w5 (w5.setCell ⟨b, 1, none⟩ (.int .i64 y)) := ((Below.refl w5.heap.size w5).mono (by have := Z5.out.lt; omega)).setCell (p := ⟨b, 1, none⟩) (by show w.heap.size ≤ b; have := S3.out; omega) _
      have hbl : Below w.heap.size w5 ((((((((((w5.setCell ⟨b, 1, none⟩ (.int .i64 y)).setCell ⟨w.heap.size, 0, none⟩ (.int .i64 k)).setCell ⟨w.heap.size, 1, none⟩ (.int .i64 y)).setCell ⟨w.heap.size, 2, none⟩ (.int .i64 t)).setCell ⟨w.heap.size, 3, none⟩ (.int .i64 s)).setCell ⟨w.heap.size, 4, none⟩ (.int .i64 g)).setCell ⟨w.heap.size, 5, none⟩ (.bool m)).setCell ⟨w.heap.size, 6, none⟩ (.bool r)).setCell ⟨w.heap.size, 7, none⟩ (.int .i64 d)).setCell ⟨w.heap.size, 8, none⟩ (.slice A n c)) := below_nine hb1 (Nat.le_refl _) _ _ _ _ _ _ _ _ _
      exact ⟨_, _, _, _, _, _, _, _, _, _, _, zs, rfl, ⟨Q0.out, (by unfold Small; omega), Q2.out, Q3.out, Q4.out, Q5.out⟩, HN.out, ((ow_nine (Y5.out.same (by simp [World.setCell]) (fun q h1 h2 => Below.heap_setCell _ _ _ _ (by show q ≠ b; have := SB.out; omega))) (by have := SZ.out; omega) _ _ _ _ _ _ _ _ _).down (by have := SZ.out; omega)).up, K5.out.later (Nat.le_refl _) hbl, Cur.later C0.out K5.out C5.out (Nat.le_refl _) hbl⟩
  · go_wp2_with fail
    (with_reducible refine (pickIn (-1) 63 4 (by omega) (by omega) _ p a len cap C4.out #[.int .i64 (-1), .int .i64 15, .int .i64 16, .int .i64 63] rfl (by kernel_rfl)).mono ?_)
    rintro e w5 ⟨y, rfl, hy0, hy1, hk, hc⟩
    have K5 := Lib.hid (K4.out.trans hk)
    have C5 := Lib.hid hc
    have Z5 := Lib.hid (bx_keep Z4.out hk (by have := P0.out; omega))
    have X5 := Lib.hid (bx_keep X4.out hk (by have := P0.out; have := S3.out; omega))
    have Y5 := Lib.hid (ow_keep Y4.out hk (by have := P0.out; have := SZ.out; omega))
    clear K4 C4 Z4 X4 Y4
    clear hk hc
    have hne : b ≠ w.heap.size := by have := S3.out; omega
    have z0 : w5.cell? ⟨w.heap.size, 0, none⟩ = some (.int .i64 0) := Z5.out.cell 0
    have z1 : w5.cell? ⟨w.heap.size, 1, none⟩ = some (.int .i64 0) := Z5.out.cell 1
    have z2 : w5.cell? ⟨w.heap.size, 2, none⟩ = some (.int .i64 0) := Z5.out.cell 2
    have z3 : w5.cell? ⟨w.heap.size, 3, none⟩ = some (.int .i64 0) := Z5.out.cell 3
    have z4 : w5.cell? ⟨w.heap.size, 4, none⟩ = some (.int .i64 0) := Z5.out.cell 4
    have z5 : w5.cell? ⟨w.heap.size, 5, none⟩ = some (.bool false) := Z5.out.cell 5
    have z6 : w5.cell? ⟨w.heap.size, 6, none⟩ = some (.bool false) := Z5.out.cell 6
    have z7 : w5.cell? ⟨w.heap.size, 7, none⟩ = some (.int .i64 0) := Z5.out.cell 7
    have z8 : w5.cell? ⟨w.heap.size, 8, none⟩ = some (.slice none 0 0) := Z5.out.cell 8
    have u0 : w5.frozen? ⟨w.heap.size, 0, none⟩ = false := Z5.out.free 0
    have u1 : w5.frozen? ⟨w.heap.size, 1, none⟩ = false := Z5.out.free 1
    have u2 : w5.frozen? ⟨w.heap.size, 2, none⟩ = false := Z5.out.free 2
    have u3 : w5.frozen? ⟨w.heap.size, 3, none⟩ = false := Z5.out.free 3
    have u4 : w5.frozen? ⟨w.heap.size, 4, none⟩ = false := Z5.out.free 4
    have u5 : w5.frozen? ⟨w.heap.size, 5, none⟩ = false := Z5.out.free 5
    have u6 : w5.frozen? ⟨w.heap.size, 6, none⟩ = false := Z5.out.free 6
    have u7 : w5.frozen? ⟨w.heap.size, 7, none⟩ = false := Z5.out.free 7
    have u8 : w5.frozen? ⟨w.heap.size, 8, none⟩ = false := Z5.out.free 8
    have x_0 : w5.cell? ⟨b, 0, none⟩ = some (.int .i64 k) := X5.out.cell 0
    have x_1 : w5.cell? ⟨b, 1, none⟩ = some (.int .i64 f) := X5.out.cell 1
    have x_2 : w5.cell? ⟨b, 2, none⟩ = some (.int .i64 t) := X5.out.cell 2
    have x_3 : w5.cell? ⟨b, 3, none⟩ = some (.int .i64 s) := X5.out.cell 3
    have x_4 : w5.cell? ⟨b, 4, none⟩ = some (.int .i64 g) := X5.out.cell 4
    have x_5 : w5.cell? ⟨b, 5, none⟩ = some (.bool m) := X5.out.cell 5
    have x_6 : w5.cell? ⟨b, 6, none⟩ = some (.bool r) := X5.out.cell 6
    have x_7 : w5.cell? ⟨b, 7, none⟩ = some (.int .i64 d) := X5.out.cell 7
    have x_8 : w5.cell? ⟨b, 8, none⟩ = some (.slice A n c) := X5.out.cell 8
    have fx : w5.frozen? ⟨b, 2, none⟩ = false := X5.out.free 2
    go_wp2_with fail
    (try simp only [Exit.inBlock, Exit.then])
    refine bodyPost_ret (v := .agg #[.int .i64 k, .int .i64 f, .int .i64 y, .int .i64 s, .int .i64 g, .bool m, .bool r, .int .i64 d, .slice A n c]) ?_ rfl ?_
    · rw [results_cell1 rfl]
      go_simp
    · have hb1 : Below w.heap.size w5 (w5.setCell ⟨b, 2, none⟩ (.int .i64 y)) := ((Below.refl w5.heap.size w5).mono (by have := Z5.out.lt; omega)).setCell (p := ⟨b, 2, none⟩) (by show w.heap.size ≤ b; have := S3.out; omega) _
      have hbl : Below w.heap.size w5 ((((((((((w5.setCell ⟨b, 2, none⟩ (.int .i64 y)).setCell ⟨w.heap.size, 0, none⟩ (.int .i64 k)).setCell ⟨w.heap.size, 1, none⟩ (.int .i64 f)).setCell ⟨w.heap.size, 2, none⟩ (.int .i64 y)).setCell ⟨w.heap.size, 3, none⟩ (.int .i64 s)).setCell ⟨w.heap.size, 4, none⟩ (.int .i64 g)).setCell ⟨w.heap.size, 5, none⟩ (.bool m)).setCell ⟨w.heap.size, 6, none⟩ (.bool r)).setCell ⟨w.heap.size, 7, none⟩ (.int .i64 d)).setCell ⟨w.heap.size, 8, none⟩ (.slice A n c)) := below_nine hb1 (Nat.le_refl _) _ _ _ _ _ _ _ _ _
      exact ⟨_, _, _, _, _, _, _, _, _, _, _, zs, rfl, ⟨Q0.out, Q1.out, (by unfold Small; omega), Q3.out, Q4.out, Q5.out⟩, HN.out, ((ow_nine (Y5.out.same (by simp [World.setCell]) (fun q h1 h2 => Below.heap_setCell _ _ _ _ (by show q ≠ b; have := SB.out; omega))) (by have := SZ.out; omega) _ _ _ _ _ _ _ _ _).down (by have := SZ.out; omega)).up, K5.out.later (Nat.le_refl _) hbl, Cur.later C0.out K5.out C5.out (Nat.le_refl _) hbl⟩
  · go_wp2_with fail
    (with_reducible refine (pickIn (-1) 4096 3 (by omega) (by omega) _ p a len cap C4.out #[.int .i64 (-1), .int .i64 4095, .int .i64 4096] rfl (by kernel_rfl)).mono ?_)
    rintro e w5 ⟨y, rfl, hy0, hy1, hk, hc⟩
    have K5 := Lib.hid (K4.out.trans hk)
    have C5 := Lib.hid hc
    have Z5 := Lib.hid (bx_keep Z4.out hk (by have := P0.out; omega))
    have X5 := Lib.hid (bx_keep X4.out hk (by have := P0.out; have := S3.out; omega))
    have Y5 := Lib.hid (ow_keep Y4.out hk (by have := P0.out; have := SZ.out; omega))
    clear K4 C4 Z4 X4 Y4
    clear hk hc
    have hne : b ≠ w.heap.size := by have := S3.out; omega
    have z0 : w5.cell? ⟨w.heap.size, 0, none⟩ = some (.int .i64 0) := Z5.out.cell 0
    have z1 : w5.cell? ⟨w.heap.size, 1, none⟩ = some (.int .i64 0) := Z5.out.cell 1
    have z2 : w5.cell? ⟨w.heap.size, 2, none⟩ = some (.int .i64 0) := Z5.out.cell 2
    have z3 : w5.cell? ⟨w.heap.size, 3, none⟩ = some (.int .i64 0) := Z5.out.cell 3
    have z4 : w5.cell? ⟨w.heap.size, 4, none⟩ = some (.int .i64 0) := Z5.out.cell 4
    have z5 : w5.cell? ⟨w.heap.size, 5, none⟩ = some (.bool false) := Z5.out.cell 5
    have z6 : w5.cell? ⟨w.heap.size, 6, none⟩ = some (.bool false) := Z5.out.cell 6
    have z7 : w5.cell? ⟨w.heap.size, 7, none⟩ = some (.int .i64 0) := Z5.out.cell 7
    have z8 : w5.cell? ⟨w.heap.size, 8, none⟩ = some (.slice none 0 0) := Z5.out.cell 8
    have u0 : w5.frozen? ⟨w.heap.size, 0, none⟩ = false := Z5.out.free 0
    have u1 : w5.frozen? ⟨w.heap.size, 1, none⟩ = false := Z5.out.free 1
    have u2 : w5.frozen? ⟨w.heap.size, 2, none⟩ = false := Z5.out.free 2
    have u3 : w5.frozen? ⟨w.heap.size, 3, none⟩ = false := Z5.out.free 3
    have u4 : w5.frozen? ⟨w.heap.size, 4, none⟩ = false := Z5.out.free 4
    have u5 : w5.frozen? ⟨w.heap.size, 5, none⟩ = false := Z5.out.free 5
    have u6 : w5.frozen? ⟨w.heap.size, 6, none⟩ = false := Z5.out.free 6
    have u7 : w5.frozen? ⟨w.heap.size, 7, none⟩ = false := Z5.out.free 7
    have u8 : w5.frozen? ⟨w.heap.size, 8, none⟩ = false := Z5.out.free 8
    have x_0 : w5.cell? ⟨b, 0, none⟩ = some (.int .i64 k) := X5.out.cell 0
    have x_1 : w5.cell? ⟨b, 1, none⟩ = some (.int .i64 f) := X5.out.cell 1
    have x_2 : w5.cell? ⟨b, 2, none⟩ = some (.int .i64 t) := X5.out.cell 2
    have x_3 : w5.cell? ⟨b, 3, none⟩ = some (.int .i64 s) := X5.out.cell 3
    have x_4 : w5.cell? ⟨b, 4, none⟩ = some (.int .i64 g) := X5.out.cell 4
    have x_5 : w5.cell? ⟨b, 5, none⟩ = some (.bool m) := X5.out.cell 5
    have x_6 : w5.cell? ⟨b, 6, none⟩ = some (.bool r) := X5.out.cell 6
    have x_7 : w5.cell? ⟨b, 7, none⟩ = some (.int .i64 d) := X5.out.cell 7
    have x_8 : w5.cell? ⟨b, 8, none⟩ = some (.slice A n c) := X5.out.cell 8
    have fx : w5.frozen? ⟨b, 3, none⟩ = false := X5.out.free 3
    go_wp2_with fail
    (try simp only [Exit.inBlock, Exit.then])
    refine bodyPost_ret (v := .agg #[.int .i64 k, .int .i64 f, .int .i64 t, .int .i64 y, .int .i64 g, .bool m, .bool r, .int .i64 d, .slice A n c]) ?_ rfl ?_
    · rw [results_cell1 rfl]
      go_simp
    · have hb1 : Below w.heap.size w5 (w5.setCell ⟨b, 3, none⟩ (.int .i64 y)) := ((Below.refl w5.heap.size w5).mono (by have := Z5.out.lt; omega)).setCell (p := ⟨b, 3, none⟩) (by show w.heap.size ≤ b; have := S3.out; omega) _
      have hbl : Below w.heap.size w5 ((((((((((w5.setCell ⟨b, 3, none⟩ (.int .i64 y)).setCell ⟨w.heap.size, 0, none⟩ (.int .i64 k)).setCell ⟨w.heap.size, 1, none⟩ (.int .i64 f)).setCell ⟨w.heap.size, 2, none⟩ (.int .i64 t)).setCell ⟨w.heap.size, 3, none⟩ (.int .i64 y)).setCell ⟨w.heap.size, 4, none⟩ (.int .i64 g)).setCell ⟨w.heap.size, 5, none⟩ (.bool m)).setCell ⟨w.heap.size, 6, none⟩ (.bool r)).setCell ⟨w.heap.size, 7, none⟩ (.int .i64 d)).setCell ⟨w.heap.size, 8, none⟩ (.slice A n c)) := below_nine hb1 (Nat.le_refl _) _ _ _ _ _ _ _ _ _
      exact ⟨_, _, _, _, _, _, _, _, _, _, _, zs, rfl, ⟨Q0.out, Q1.out, Q2.out, (by unfold Small; omega), Q4.out, Q5.out⟩, HN.out, ((ow_nine (Y5.out.same (by simp [World.setCell]) (fun q h1 h2 => Below.heap_setCell _ _ _ _ (by show q ≠ b; have := SB.out; omega))) (by have := SZ.out; omega) _ _ _ _ _ _ _ _ _).down (by have := SZ.out; omega)).up, K5.out.later (Nat.le_refl _) hbl, Cur.later C0.out K5.out C5.out (Nat.le_refl _) hbl⟩
  · go_wp2_with fail
    (with_reducible refine (pickIn (-1) 16 3 (by omega) (by omega) _ p a len cap C4.out #[.int .i64 (-1), .int .i64 15, .int .i64 16] rfl (by kernel_rfl)).mono ?_)
    rintro e w5 ⟨y, rfl, hy0, hy1, hk, hc⟩
    have K5 := Lib.hid (K4.out.trans hk)
    have C5 := Lib.hid hc
    have Z5 := Lib.hid (bx_keep Z4.out hk (by have := P0.out; omega))
    have X5 := Lib.hid (bx_keep X4.out hk (by have := P0.out; have := S3.out; omega))
    have Y5 := Lib.hid (ow_keep Y4.out hk (by have := P0.out; have := SZ.out; omega))
    clear K4 C4 Z4 X4 Y4
    clear hk hc
    have hne : b ≠ w.heap.size := by have := S3.out; omega
    have z0 : w5.cell? ⟨w.heap.size, 0, none⟩ = some (.int .i64 0) := Z5.out.cell 0
    have z1 : w5.cell? ⟨w.heap.size, 1, none⟩ = some (.int .i64 0) := Z5.out.cell 1
    have z2 : w5.cell? ⟨w.heap.size, 2, none⟩ = some (.int .i64 0) := Z5.out.cell 2
    have z3 : w5.cell? ⟨w.heap.size, 3, none⟩ = some (.int .i64 0) := Z5.out.cell 3
    have z4 : w5.cell? ⟨w.heap.size, 4, none⟩ = some (.int .i64 0) := Z5.out.cell 4
    have z5 : w5.cell? ⟨w.heap.size, 5, none⟩ = some (.bool false) := Z5.out.cell 5
    have z6 : w5.cell? ⟨w.heap.size, 6, none⟩ = some (.bool false) := Z5.out.cell 6
    have z7 : w5.cell? ⟨w.heap.size, 7, none⟩ = some (.int .i64 0) := Z5.out.cell 7
    have z8 : w5.cell? ⟨w.heap.size, 8, none⟩ = some (.slice none 0 0) := Z5.out.cell 8
    have u0 : w5.frozen? ⟨w.heap.size, 0, none⟩ = false := Z5.out.free 0
    have u1 : w5.frozen? ⟨w.heap.size, 1, none⟩ = false := Z5.out.free 1
    have u2 : w5.frozen? ⟨w.heap.size, 2, none⟩ = false := Z5.out.free 2
    have u3 : w5.frozen? ⟨w.heap.size, 3, none⟩ = false := Z5.out.free 3
    have u4 : w5.frozen? ⟨w.heap.size, 4, none⟩ = false := Z5.out.free 4
    have u5 : w5.frozen? ⟨w.heap.size, 5, none⟩ = false := Z5.out.free 5
    have u6 : w5.frozen? ⟨w.heap.size, 6, none⟩ = false := Z5.out.free 6
    have u7 : w5.frozen? ⟨w.heap.size, 7, none⟩ = false := Z5.out.free 7
    have u8 : w5.frozen? ⟨w.heap.size, 8, none⟩ = false := Z5.out.free 8
    have x_0 : w5.cell? ⟨b, 0, none⟩ = some (.int .i64 k) := X5.out.cell 0
    have x_1 : w5.cell? ⟨b, 1, none⟩ = some (.int .i64 f) := X5.out.cell 1
    have x_2 : w5.cell? ⟨b, 2, none⟩ = some (.int .i64 t) := X5.out.cell 2
    have x_3 : w5.cell? ⟨b, 3, none⟩ = some (.int .i64 s) := X5.out.cell 3
    have x_4 : w5.cell? ⟨b, 4, none⟩ = some (.int .i64 g) := X5.out.cell 4
    have x_5 : w5.cell? ⟨b, 5, none⟩ = some (.bool m) := X5.out.cell 5
    have x_6 : w5.cell? ⟨b, 6, none⟩ = some (.bool r) := X5.out.cell 6
    have x_7 : w5.cell? ⟨b, 7, none⟩ = some (.int .i64 d) := X5.out.cell 7
    have x_8 : w5.cell? ⟨b, 8, none⟩ = some (.slice A n c) := X5.out.cell 8
    have fx : w5.frozen? ⟨b, 4, none⟩ = false := X5.out.free 4
    go_wp2_with fail
    (try simp only [Exit.inBlock, Exit.then])
    refine bodyPost_ret (v := .agg #[.int .i64 k, .int .i64 f, .int .i64 t, .int .i64 s, .int .i64 y, .bool m, .bool r, .int .i64 d, .slice A n c]) ?_ rfl ?_
    · rw [results_cell1 rfl]
      go_simp
    · have hb1 : Below w.heap.size w5 (w5.setCell ⟨b, 4, none⟩ (.int .i64 y)) := ((Below.refl w5.heap.size w5).mono (by have := Z5.out.lt; omega)).setCell (p := ⟨b, 4, none⟩) (by show w.heap.size ≤ b; have := S3.out; omega) _
      have hbl : Below w.heap.size w5 ((((((((((w5.setCell ⟨b, 4, none⟩ (.int .i64 y)).setCell ⟨w.heap.size, 0, none⟩ (.int .i64 k)).setCell ⟨w.heap.size, 1, none⟩ (.int .i64 f)).setCell ⟨w.heap.size, 2, none⟩ (.int .i64 t)).setCell ⟨w.heap.size, 3, none⟩ (.int .i64 s)).setCell ⟨w.heap.size, 4, none⟩ (.int .i64 y)).setCell ⟨w.heap.size, 5, none⟩ (.bool m)).setCell ⟨w.heap.size, 6, none⟩ (.bool r)).setCell ⟨w.heap.size, 7, none⟩ (.int .i64 d)).setCell ⟨w.heap.size, 8, none⟩ (.slice A n c)) := below_nine hb1 (Nat.le_refl _) _ _ _ _ _ _ _ _ _
      exact ⟨_, _, _, _, _, _, _, _, _, _, _, zs, rfl, ⟨Q0.out, Q1.out, Q2.out, Q3.out, (by unfold Small; omega), Q5.out⟩, HN.out, ((ow_nine (Y5.out.same (by simp [World.setCell]) (fun q h1 h2 => Below.heap_setCell _ _ _ _ (by show q ≠ b; have := SB.out; omega))) (by have := SZ.out; omega) _ _ _ _ _ _ _ _ _).down (by have := SZ.out; omega)).up, K5.out.later (Nat.le_refl _) hbl, Cur.later C0.out K5.out C5.out (Nat.le_refl _) hbl⟩
  · go_wp2_with fail
    (with_reducible refine (pickIn (-1) 1001 3 (by omega) (by omega) _ p a len cap C4.out #[.int .i64 (-1), .int .i64 1000, .int .i64 1001] rfl (by kernel_rfl)).mono ?_)
    rintro e w5 ⟨y, rfl, hy0, hy1, hk, hc⟩
    have K5 := Lib.hid (K4.out.trans hk)
    have C5 := Lib.hid hc
    have Z5 := Lib.hid (bx_keep Z4.out hk (by have := P0.out; omega))
    have X5 := Lib.hid (bx_keep X4.out hk (by have := P0.out; have := S3.out; omega))
    have Y5 := Lib.hid (ow_keep Y4.out hk (by have := P0.out; have := SZ.out; omega))
    clear K4 C4 Z4 X4 Y4
    clear hk hc
    have hne : b ≠ w.heap.size := by have := S3.out; omega
    have z0 : w5.cell? ⟨w.heap.size, 0, none⟩ = some (.int .i64 0) := Z5.out.cell 0
    have z1 : w5.cell? ⟨w.heap.size, 1, none⟩ = some (.int .i64 0) := Z5.out.cell 1
    have z2 : w5.cell? ⟨w.heap.size, 2, none⟩ = some (.int .i64 0) := Z5.out.cell 2
    have z3 : w5.cell? ⟨w.heap.size, 3, none⟩ = some (.int .i64 0) := Z5.out.cell 3
    have z4 : w5.cell? ⟨w.heap.size, 4, none⟩ = some (.int .i64 0) := Z5.out.cell 4
    have z5 : w5.cell? ⟨w.heap.size, 5, none⟩ = some (.bool false) := Z5.out.cell 5
    have z6 : w5.cell? ⟨w.heap.size, 6, none⟩ = some (.bool false) := Z5.out.cell 6
    have z7 : w5.cell? ⟨w.heap.size, 7, none⟩ = some (.int .i64 0) := Z5.out.cell 7
    have z8 : w5.cell? ⟨w.heap.size, 8, none⟩ = some (.slice none 0 0) := Z5.out.cell 8
    have u0 : w5.frozen? ⟨w.heap.size, 0, none⟩ = false := Z5.out.free 0
    have u1 : w5.frozen? ⟨w.heap.size, 1, none⟩ = false := Z5.out.free 1
    have u2 : w5.frozen? ⟨w.heap.size, 2, none⟩ = false := Z5.out.free 2
    have u3 : w5.frozen? ⟨w.heap.size, 3, none⟩ = false := Z5.out.free 3
    have u4 : w5.frozen? ⟨w.heap.size, 4, none⟩ = false := Z5.out.free 4
    have u5 : w5.frozen? ⟨w.heap.size, 5, none⟩ = false := Z5.out.free 5
    have u6 : w5.frozen? ⟨w.heap.size, 6, none⟩ = false := Z5.out.free 6
    have u7 : w5.frozen? ⟨w.heap.size, 7, none⟩ = false := Z5.out.free 7
    have u8 : w5.frozen? ⟨w.heap.size, 8, none⟩ = false := Z5.out.free 8
    have x_0 : w5.cell? ⟨b, 0, none⟩ = some (.int .i64 k) := X5.out.cell 0
    have x_1 : w5.cell? ⟨b, 1, none⟩ = some (.int .i64 f) := X5.out.cell 1
    have x_2 : w5.cell? ⟨b, 2, none⟩ = some (.int .i64 t) := X5.out.cell 2
    have x_3 : w5.cell? ⟨b, 3, none⟩ = some (.int .i64 s) := X5.out.cell 3
    have x_4 : w5.cell? ⟨b, 4, none⟩ = some (.int .i64 g) := X5.out.cell 4
    have x_5 : w5.cell? ⟨b, 5, none⟩ = some (.bool m) := X5.out.cell 5
    have x_6 : w5.cell? ⟨b, 6, none⟩ = some (.bool r) := X5.out.cell 6
    have x_7 : w5.cell? ⟨b, 7, none⟩ = some (.int .i64 d) := X5.out.cell 7
    have x_8 : w5.cell? ⟨b, 8, none⟩ = some (.slice A n c) := X5.out.cell 8
    have fx : w5.frozen? ⟨b, 7, none⟩ = false := X5.out.free 7
    go_wp2_with fail
    (try simp only [Exit.inBlock, Exit.then])
    refine bodyPost_ret (v := .agg #[.int .i64 k, .int .i64 f, .int .i64 t, .int .i64 s, .int .i64 g, .bool m, .bool r, .int .i64 y, .slice A n c]) ?_ rfl ?_
    · rw [results_cell1 rfl]
      go_simp
    · have hb1 : Below w.heap.size w5 (w5.setCell ⟨b, 7, none⟩ (.int .i64 y)) := ((Below.refl w5.heap.size w5).mono (by have := Z5.out.lt; omega)).setCell (p := ⟨b, 7, none⟩) (by show w.heap.size ≤ b; have := S3.out; omega) _
      have hbl : Below w.heap.size w5 ((((((((((w5.setCell ⟨b, 7, none⟩ (.int .i64 y)).setCell ⟨w.heap.size, 0, none⟩ (.int .i64 k)).setCell ⟨w.heap.size, 1, none⟩ (.int .i64 f)).setCell ⟨w.heap.size, 2, none⟩ (.int .i64 t)).setCell ⟨w.heap.size, 3, none⟩ (.int .i64 s)).setCell ⟨w.heap.size, 4, none⟩ (.int .i64 g)).setCell ⟨w.heap.size, 5, none⟩ (.bool m)).setCell ⟨w.heap.size, 6, none⟩ (.bool r)).setCell ⟨w.heap.size, 7, none⟩ (.int .i64 y)).setCell ⟨w.heap.size, 8, none⟩ (.slice A n c)) := below_nine hb1 (Nat.le_refl _) _ _ _ _ _ _ _ _ _
      exact ⟨_, _, _, _, _, _, _, _, _, _, _, zs, rfl, ⟨Q0.out, Q1.out, Q2.out, Q3.out, Q4.out, (by unfold Small; omega)⟩, HN.out, ((ow_nine (Y5.out.same (by simp [World.setCell]) (fun q h1 h2 => Below.heap_setCell _ _ _ _ (by show q ≠ b; have := SB.out; omega))) (by have := SZ.out; omega) _ _ _ _ _ _ _ _ _).down (by have := SZ.out; omega)).up, K5.out.later (Nat.le_refl _) hbl, Cur.later C0.out K5.out C5.out (Nat.le_refl _) hbl⟩
  · go_wp2_with fail
    (with_reducible refine (below 2 (by omega) _ p a len cap C4.out).mono ?_)
    rintro e w5 ⟨y, rfl, hy0, hy1, hk, hc⟩
    have hy2 := hy1 (by omega)
    have K5 := Lib.hid (K4.out.trans hk)
    have C5 := Lib.hid hc
    have Z5 := Lib.hid (bx_keep Z4.out hk (by have := P0.out; omega))
    have X5 := Lib.hid (bx_keep X4.out hk (by have := P0.out; have := S3.out; omega))
    have Y5 := Lib.hid (ow_keep Y4.out hk (by have := P0.out; have := SZ.out; omega))
    clear K4 C4 Z4 X4 Y4
    clear hk hc hy1
    obtain ⟨q, hq⟩ := Int.eq_ofNat_of_zero_le (show 0 ≤ 100 + y by omega)
    have e1 : IntKind.i64.wrap (q : Int) = q := IntWalk.i64_in _ (by omega)
    have hq2 : q ≤ 1000 := by omega
    have hmk := fun W => run_make1 (P := Try.prog) 22 5 i0 _ Try.underlying22 HZ.out.1 HZ.out.2.1 HZ.out.2.2.1 q (by have := HZ.out.2.2.2; omega) (by omega) W
    have M5 := Lib.hid (show Ow 5 .u8 (w5.alloc (.cells (madeCells (Value.cells (.int .u8 0)) q) 5)) w5.heap.size (w5.alloc (.cells (madeCells (Value.cells (.int .u8 0)) q) 5)).heap.size (some ⟨w5.heap.size, 0, none⟩) q q (List.replicate q 0) from Ow.lit w5 _ _ (by rw [show Value.cells (.int .u8 0) = #[.int .u8 0] from rfl, toList_madeCells_one]; simp) (Wf.of_u8 fun z hz => by have := List.eq_of_mem_replicate hz; omega) (by simp [maxLen]; omega) (size_madeCells _ _))
    obtain ⟨w6, hW⟩ : ∃ w6, w5.alloc (.cells (madeCells (Value.cells (.int .u8 0)) q) 5) = w6 := ⟨_, rfl⟩
    rw [hW] at M5
    have hmk2 : (Instr.makeSlice 22 (.int .i64 (q : Int)) (.int .i64 (q : Int))).run Try.prog w5 = .ok (.slice (some ⟨w5.heap.size, 0, none⟩) q q) w6 := by rw [← hW]; exact hmk w5
    have K6 := Lib.hid (show Keep p w w6 by rw [← hW]; exact K5.out.alloc _)
    have C6 := Lib.hid (show Cur w6 p a len cap by rw [← hW]; exact C5.out.alloc _)
    have Z6 := Lib.hid (show Bx 25 w6 w.heap.size #[.int .i64 0, .int .i64 0, .int .i64 0, .int .i64 0, .int .i64 0, .bool false, .bool false, .int .i64 0, .slice none 0 0] by rw [← hW]; exact Z5.out.below (below_box _ _))
    have X6 := Lib.hid (show Bx 25 w6 b #[.int .i64 k, .int .i64 f, .int .i64 t, .int .i64 s, .int .i64 g, .bool m, .bool r, .int .i64 d, .slice A n c] by rw [← hW]; exact X5.out.below (below_box _ _))
    have SM := Lib.hid (show b < w5.heap.size from X5.out.lt)
    clear hW hmk K5 C5 Z5 X5 Y5
    have hne : b ≠ w.heap.size := by have := S3.out; omega
    have z0 : w6.cell? ⟨w.heap.size, 0, none⟩ = some (.int .i64 0) := Z6.out.cell 0
    have z1 : w6.cell? ⟨w.heap.size, 1, none⟩ = some (.int .i64 0) := Z6.out.cell 1
    have z2 : w6.cell? ⟨w.heap.size, 2, none⟩ = some (.int .i64 0) := Z6.out.cell 2
    have z3 : w6.cell? ⟨w.heap.size, 3, none⟩ = some (.int .i64 0) := Z6.out.cell 3
    have z4 : w6.cell? ⟨w.heap.size, 4, none⟩ = some (.int .i64 0) := Z6.out.cell 4
    have z5 : w6.cell? ⟨w.heap.size, 5, none⟩ = some (.bool false) := Z6.out.cell 5
    have z6 : w6.cell? ⟨w.heap.size, 6, none⟩ = some (.bool false) := Z6.out.cell 6
    have z7 : w6.cell? ⟨w.heap.size, 7, none⟩ = some (.int .i64 0) := Z6.out.cell 7
    have z8 : w6.cell? ⟨w.heap.size, 8, none⟩ = some (.slice none 0 0) := Z6.out.cell 8
    have u0 : w6.frozen? ⟨w.heap.size, 0, none⟩ = false := Z6.out.free 0
    have u1 : w6.frozen? ⟨w.heap.size, 1, none⟩ = false := Z6.out.free 1
    have u2 : w6.frozen? ⟨w.heap.size, 2, none⟩ = false := Z6.out.free 2
    have u3 : w6.frozen? ⟨w.heap.size, 3, none⟩ = false := Z6.out.free 3
    have u4 : w6.frozen? ⟨w.heap.size, 4, none⟩ = false := Z6.out.free 4
    have u5 : w6.frozen? ⟨w.heap.size, 5, none⟩ = false := Z6.out.free 5
    have u6 : w6.frozen? ⟨w.heap.size, 6, none⟩ = false := Z6.out.free 6
    have u7 : w6.frozen? ⟨w.heap.size, 7, none⟩ = false := Z6.out.free 7
    have u8 : w6.frozen? ⟨w.heap.size, 8, none⟩ = false := Z6.out.free 8
    have x_0 : w6.cell? ⟨b, 0, none⟩ = some (.int .i64 k) := X6.out.cell 0
    have x_1 : w6.cell? ⟨b, 1, none⟩ = some (.int .i64 f) := X6.out.cell 1
    have x_2 : w6.cell? ⟨b, 2, none⟩ = some (.int .i64 t) := X6.out.cell 2
    have x_3 : w6.cell? ⟨b, 3, none⟩ = some (.int .i64 s) := X6.out.cell 3
    have x_4 : w6.cell? ⟨b, 4, none⟩ = some (.int .i64 g) := X6.out.cell 4
    have x_5 : w6.cell? ⟨b, 5, none⟩ = some (.bool m) := X6.out.cell 5
    have x_6 : w6.cell? ⟨b, 6, none⟩ = some (.bool r) := X6.out.cell 6
    have x_7 : w6.cell? ⟨b, 7, none⟩ = some (.int .i64 d) := X6.out.cell 7
    have x_8 : w6.cell? ⟨b, 8, none⟩ = some (.slice A n c) := X6.out.cell 8
    have fx : w6.frozen? ⟨b, 8, none⟩ = false := X6.out.free 8
    go_wp2_with fail
    (try simp only [Exit.inBlock, Exit.then])
    refine bodyPost_ret (v := .agg #[.int .i64 k, .int .i64 f, .int .i64 t, .int .i64 s, .int .i64 g, .bool m, .bool r, .int .i64 d, .slice (some ⟨w5.heap.size, 0, none⟩) q q]) ?_ rfl ?_
    · rw [results_cell1 rfl]
      go_simp
    · have hb1 : Below w.heap.size w6 (w6.setCell ⟨b, 8, none⟩ (.slice (some ⟨w5.heap.size, 0, none⟩) q q)) := ((Below.refl w6.heap.size w6).mono (by have := Z6.out.lt; omega)).setCell (p := ⟨b, 8, none⟩) (by show w.heap.size ≤ b; have := S3.out; omega) _
      have hbl : Below w.heap.size w6 ((((((((((w6.setCell ⟨b, 8, none⟩ (.slice (some ⟨w5.heap.size, 0, none⟩) q q)).setCell ⟨w.heap.size, 0, none⟩ (.int .i64 k)).setCell ⟨w.heap.size, 1, none⟩ (.int .i64 f)).setCell ⟨w.heap.size, 2, none⟩ (.int .i64 t)).setCell ⟨w.heap.size, 3, none⟩ (.int .i64 s)).setCell ⟨w.heap.size, 4, none⟩ (.int .i64 g)).setCell ⟨w.heap.size, 5, none⟩ (.bool m)).setCell ⟨w.heap.size, 6, none⟩ (.bool r)).setCell ⟨w.heap.size, 7, none⟩ (.int .i64 d)).setCell ⟨w.heap.size, 8, none⟩ (.slice (some ⟨w5.heap.size, 0, none⟩) q q)) := below_nine hb1 (Nat.le_refl _) _ _ _ _ _ _ _ _ _
      exact ⟨_, _, _, _, _, _, _, _, _, _, _, List.replicate q 0, rfl, ⟨Q0.out, Q1.out, Q2.out, Q3.out, Q4.out, Q5.out⟩, hq2, ((ow_nine (M5.out.same (by simp [World.setCell]) (fun h h1 h2 => Below.heap_setCell _ _ _ _ (by show h ≠ b; have := SM.out; omega))) (by have := SM.out; have := S3.out; omega) _ _ _ _ _ _ _ _ _).down (by have := SM.out; have := S3.out; omega)).up, K6.out.later (Nat.le_refl _) hbl, Cur.later C0.out K6.out C6.out (Nat.le_refl _) hbl⟩
  · have n0 : (x == 0) = false := by simp; omega
    have n1 : (x == 1) = false := by simp; omega
    have n2 : (x == 2) = false := by simp; omega
    have n3 : (x == 3) = false := by simp; omega
    have n4 : (x == 4) = false := by simp; omega
    have n5 : (x == 5) = false := by simp; omega
    have n6 : (x == 6) = false := by simp; omega
    have hne : b ≠ w.heap.size := by have := S3.out; omega
    have z0 : w4.cell? ⟨w.heap.size, 0, none⟩ = some (.int .i64 0) := Z4.out.cell 0
    have z1 : w4.cell? ⟨w.heap.size, 1, none⟩ = some (.int .i64 0) := Z4.out.cell 1
    have z2 : w4.cell? ⟨w.heap.size, 2, none⟩ = some (.int .i64 0) := Z4.out.cell 2
    have z3 : w4.cell? ⟨w.heap.size, 3, none⟩ = some (.int .i64 0) := Z4.out.cell 3
    have z4 : w4.cell? ⟨w.heap.size, 4, none⟩ = some (.int .i64 0) := Z4.out.cell 4
    have z5 : w4.cell? ⟨w.heap.size, 5, none⟩ = some (.bool false) := Z4.out.cell 5
    have z6 : w4.cell? ⟨w.heap.size, 6, none⟩ = some (.bool false) := Z4.out.cell 6
    have z7 : w4.cell? ⟨w.heap.size, 7, none⟩ = some (.int .i64 0) := Z4.out.cell 7
    have z8 : w4.cell? ⟨w.heap.size, 8, none⟩ = some (.slice none 0 0) := Z4.out.cell 8
    have u0 : w4.frozen? ⟨w.heap.size, 0, none⟩ = false := Z4.out.free 0
    have u1 : w4.frozen? ⟨w.heap.size, 1, none⟩ = false := Z4.out.free 1
    have u2 : w4.frozen? ⟨w.heap.size, 2, none⟩ = false := Z4.out.free 2
    have u3 : w4.frozen? ⟨w.heap.size, 3, none⟩ = false := Z4.out.free 3
    have u4 : w4.frozen? ⟨w.heap.size, 4, none⟩ = false := Z4.out.free 4
    have u5 : w4.frozen? ⟨w.heap.size, 5, none⟩ = false := Z4.out.free 5
    have u6 : w4.frozen? ⟨w.heap.size, 6, none⟩ = false := Z4.out.free 6
    have u7 : w4.frozen? ⟨w.heap.size, 7, none⟩ = false := Z4.out.free 7
    have u8 : w4.frozen? ⟨w.heap.size, 8, none⟩ = false := Z4.out.free 8
    have x_0 : w4.cell? ⟨b, 0, none⟩ = some (.int .i64 k) := X4.out.cell 0
    have x_1 : w4.cell? ⟨b, 1, none⟩ = some (.int .i64 f) := X4.out.cell 1
    have x_2 : w4.cell? ⟨b, 2, none⟩ = some (.int .i64 t) := X4.out.cell 2
    have x_3 : w4.cell? ⟨b, 3, none⟩ = some (.int .i64 s) := X4.out.cell 3
    have x_4 : w4.cell? ⟨b, 4, none⟩ = some (.int .i64 g) := X4.out.cell 4
    have x_5 : w4.cell? ⟨b, 5, none⟩ = some (.bool m) := X4.out.cell 5
    have x_6 : w4.cell? ⟨b, 6, none⟩ = some (.bool r) := X4.out.cell 6
    have x_7 : w4.cell? ⟨b, 7, none⟩ = some (.int .i64 d) := X4.out.cell 7
    have x_8 : w4.cell? ⟨b, 8, none⟩ = some (.slice A n c) := X4.out.cell 8
    go_wp2_with fail
    (try simp only [Exit.inBlock, Exit.then])
    refine bodyPost_ret (v := .agg #[.int .i64 k, .int .i64 f, .int .i64 t, .int .i64 s, .int .i64 g, .bool m, .bool r, .int .i64 d, .slice A n c]) ?_ rfl ?_
    · rw [results_cell1 rfl]
      go_simp
    · have hb1 : Below w.heap.size w4 w4 := ((Below.refl w4.heap.size w4).mono (by have := Z4.out.lt; omega))
      have hbl : Below w.heap.size w4 (((((((((w4.setCell ⟨w.heap.size, 0, none⟩ (.int .i64 k)).setCell ⟨w.heap.size, 1, none⟩ (.int .i64 f)).setCell ⟨w.heap.size, 2, none⟩ (.int .i64 t)).setCell ⟨w.heap.size, 3, none⟩ (.int .i64 s)).setCell ⟨w.heap.size, 4, none⟩ (.int .i64 g)).setCell ⟨w.heap.size, 5, none⟩ (.bool m)).setCell ⟨w.heap.size, 6, none⟩ (.bool r)).setCell ⟨w.heap.size, 7, none⟩ (.int .i64 d)).setCell ⟨w.heap.size, 8, none⟩ (.slice A n c)) := below_nine hb1 (Nat.le_refl _) _ _ _ _ _ _ _ _ _
      exact ⟨_, _, _, _, _, _, _, _, _, _, _, zs, rfl, ⟨Q0.out, Q1.out, Q2.out, Q3.out, Q4.out, Q5.out⟩, HN.out, ((ow_nine Y4.out (by have := SZ.out; omega) _ _ _ _ _ _ _ _ _).down (by have := SZ.out; omega)).up, K4.out.later (Nat.le_refl _) hbl, Cur.later C0.out K4.out C4.out (Nat.le_refl _) hbl⟩
end Go.Proofs.Ytbkdbdhbmabgcaa.draw
end

section
namespace Go.Proofs.Ytbkdbdhbmabgcaa.bx
open Go.RowKit sl harn rng
set_option linter.unusedVariables false

theorem results_cell1 {fn : Func} {p : Tmp} {ty : TypeId} (h : fn.results = #[.cell p ty]) (tmps : Array Value) (P : Program) (w : World) :
    (results fn tmps).run P w = ((asAddr (tmps.getD p undef)).run P w).andThen fun a w₁ => (loadVar ty a).run P w₁ := by
  simp only [results, h]
  simp [Sem.run_bind, Result.andThen]
theorem results_cell_tmp1 {fn : Func} {p u : Tmp} {ty : TypeId} (h : fn.results = #[.cell p ty, .tmp u]) (tmps : Array Value) (P : Program) (w : World) :
    (results fn tmps).run P w =
      ((asAddr (tmps.getD p undef)).run P w).andThen fun a w₁ => ((loadVar ty a).run P w₁).andThen fun v w₂ => .ok (.tuple #[v, tmps.getD u undef]) w₂ := by
  simp only [results, h]
  simp [Sem.run_bind, Result.andThen]
theorem below_box (w : World) (o : Obj) : Below w.heap.size w (w.alloc o) := (Below.refl _ _).alloc (Nat.le_refl _) _
theorem below_box2 (w : World) (o o' : Obj) : Below w.heap.size w ((w.alloc o).alloc o') := ((Below.refl _ _).alloc (Nat.le_refl _) _).alloc (by simp) _
/-- A block that holds these cells. -/
def Bx (T : TypeId) (w : World) (b : Nat) (cs : Array Value) : Prop := w.heap[b]? = some (.cells cs T (0, 0))
section
variable {T : TypeId} {w w' : World} {b : Nat} {cs : Array Value}
theorem Bx.cell (h : Bx T w b cs) (i : Nat) : w.cell? ⟨b, i, none⟩ = cs[i]? := by unfold Bx at h; simp [World.cell?, h]
theorem Bx.lt (h : Bx T w b cs) : b < w.heap.size := lt_of_block h
theorem Bx.same (h : Bx T w b cs) (hb : w'.heap[b]? = w.heap[b]?) : Bx T w' b cs := by unfold Bx at h ⊢; rw [hb]; exact h
theorem Bx.below (h : Bx T w b cs) (hb : Below w.heap.size w w') : Bx T w' b cs := h.same (hb.block b h.lt)
theorem Bx.free (h : Bx T w b cs) (i : Nat) : w.frozen? ⟨b, i, none⟩ = false := by unfold Bx at h; simp [World.frozen?, h]
theorem Bx.tch {lo hi : Nat} (h : Bx T w b cs) (hb : Tch lo hi w w') (hd : b < lo ∨ hi ≤ b) : Bx T w' b cs := h.same (hb.block b h.lt hd)
theorem Bx.made (T : TypeId) (w : World) (cs : Array Value) : Bx T (w.alloc (.cells cs T)) w.heap.size cs := heap_alloc_new w _
theorem Bx.up {B : Nat} (h : Bx T w b cs) (hb : Below B w w') (hB : b < B) : Bx T w' b cs := h.same (hb.block b hB)
theorem Bx.set (h : Bx T w b cs) (i : Nat) (v : Value) : Bx T (w.setCell ⟨b, i, none⟩ v) b (cs.setIfInBounds i v) := by
  unfold Bx at h ⊢
  simp [World.setCell, Array.getElem?_modify, h]
theorem Bx.other {c : Nat} (h : Bx T w b cs) (hc : b ≠ c) (i : Nat) (v : Value) : Bx T (w.setCell ⟨c, i, none⟩ v) b cs := h.same (Below.heap_setCell _ _ _ _ hc)
end
/-- What a function of a frame hands back that is a bool, or an integer. -/
def BPost (b : Bool) (w : World) (e : Ending) (w' : World) : Prop := e = .returned (.bool b) ∧ Below w.heap.size w w'
def NPost (n : Int) (w : World) (e : Ending) (w' : World) : Prop := e = .returned (.int .i64 n) ∧ Below w.heap.size w w'
theorem b_parts {a b : Bool} (ht : a = b) {w w' : World} {e : Ending} (h : BPost a w e w') : e = .returned (.bool b) ∧ Below w.heap.size w w' := by subst ht; exact h
theorem n_parts {a b : Int} (ht : a = b) {w w' : World} {e : Ending} (h : NPost a w e w') : e = .returned (.int .i64 b) ∧ Below w.heap.size w w' := by subst ht; exact h

theorem inR (n a b : Int) (v : Bool) (w : World) (h : decide (a ≤ n ∧ n ≤ b) = v) :
    Calls Try.prog 54 #[.int .i64 n, .int .i64 a, .int .i64 b] w fun e w' => e = .returned (.bool v) ∧ w = w' := by
  cases v with
  | true => exact inRange_yes n a b (of_decide_eq_true h) w
  | false => exact inRange_no n a b (of_decide_eq_false h) w
theorem l1R (n a b : Int) (v : Bool) (w : World) (h : decide (a ≤ n ∧ n ≤ b) = v) :
    Calls Try.prog 57 #[.int .i64 n, .int .i64 a, .int .i64 b] w fun e w' => e = .returned (.bool v) ∧ w = w' := by
  cases v with
  | true => exact l1In_yes n a b (of_decide_eq_true h) w
  | false => exact l1In_no n a b (of_decide_eq_false h) w
theorem ow_none (E : TypeId) (k : IntKind) (w : World) (lo hi : Nat) (h : hi ≤ w.heap.size) : Ow E k w lo hi none 0 0 [] :=
  ⟨⟨by simp, .inl ⟨rfl, rfl⟩⟩, Wf.nil k, h, fun _ _ e => by cases e⟩

/-- The worlds behind w in which what stood there stands. -/
structure Af (base : World) where
  w : World
  below : Below base.heap.size base w
instance (w : World) : Nonempty (Af w) := ⟨⟨w, Below.refl _ _⟩⟩
theorem Af.next {w v : World} {n : Af w} (h : Below n.w.heap.size n.w v) : ∃ m : Af w, v = m.w :=
  ⟨⟨v, n.below.trans (h.mono n.below.size)⟩, rfl⟩
/-- A region that draws its order, whose operations only read and whose callees leave what was there: walked once, in the text's order. -/
theorem region_after {P : Program} {id : Nat} {Q : Exit → Act → World → Prop} {a : Act} {w : World} {l : List Oper} (hm : P.follows .mixedOrders = true) (hB : Region.lexB .any l.toArray = true)
    (h : wpQuiet P l.toArray (fun w' => ∃ n : Af w, w' = n.w) (fun a' => ∀ w', (∃ n : Af w, w' = n.w) → Q .normal a' w') l a) : (Code.region id l.toArray true).wp P Q a w :=
  wp_region_quiet (C := fun w' => ∃ n : Af w, w' = n.w) hm hB ⟨⟨_, own.below_drew (Below.refl _ _)⟩, rfl⟩ h
theorem Af.call {P : Program} {f : FuncId} {args : Array Value} {w : World} {n : Af w} {v : Value}
    (h : Calls P f args n.w fun e w' => e = .returned v ∧ Below n.w.heap.size n.w w') : Calls P f args n.w fun e w' => e = .returned v ∧ ∃ m : Af w, w' = m.w :=
  h.mono fun _ _ ⟨he, hb⟩ => ⟨he, Af.next hb⟩
theorem Af.rd {k : IntKind} {w : World} {lo hi n cap : Nat} {A : Option Addr} {zs : List Int} (h : Rd k w lo hi A n cap zs) (m : Af w) : Rd k m.w lo hi A n cap zs := h.below m.below
theorem Af.cells {T : TypeId} {w : World} {b : Nat} {cs : Array Value} (h : Bx T w b cs) (m : Af w) : Bx T m.w b cs := h.below m.below
theorem Af.on {w v : World} (h : Below w.heap.size w v) (m : Af v) : Below w.heap.size w m.w := h.trans (m.below.mono h.size)
end Go.Proofs.Ytbkdbdhbmabgcaa.bx
end

section
namespace Go.Proofs.Ytbkdbdhbmabgcaa.drk
open Go.RowKit sl harn bx draw
set_option linter.unusedVariables false

theorem bx_keep {T : TypeId} {w w' : World} {p b : Nat} {cs : Array Value} (h : Bx T w b cs) (k : Keep p w w') (hn : b ≠ p) : Bx T w' b cs := h.same (k.block b h.lt hn)
theorem later {p : Nat} {w w1 w2 : World} (h : Keep p w w1) {B : Nat} (hB : w.heap.size ≤ B) (hb : Below B w1 w2) : Keep p w w2 :=
  ⟨hb.os.trans h.os, hb.tape.trans h.tape, hb.output.trans h.output, Nat.le_trans h.size hb.size, fun j hj hn => (hb.block j (by omega)).trans (h.block j hj hn)⟩
/-- The cursor behind a change above it. -/
theorem cur_later {w w1 w2 : World} {p B : Nat} {a : Option Addr} {len cap : Nat} (h0 : Cur w p a len cap) (hk : Keep p w w1) (h : Cur w1 p a len cap) (hB : w.heap.size ≤ B) (hb : Below B w1 w2) : Cur w2 p a len cap := by
  have hp := h0.lt
  have k2 := later hk hB hb
  obtain ⟨-, i, g, hi, hblk⟩ := h
  exact ⟨h0.1.keep k2, i, g, hi, (hb.block p (by omega)).trans hblk⟩
/-- A cursor's world in which all that stood there stands. -/
theorem cur_below {w w' : World} {p : Nat} {a : Option Addr} {len cap : Nat} (h : Cur w p a len cap) (hb : Below w.heap.size w w') : Cur w' p a len cap := cur_later h (Keep.refl p w) h (Nat.le_refl _) hb
/-- Stores into one block that was made behind a world. -/
theorem below_four {B c : Nat} {a w : World} (h : Below B a w) (hc : B ≤ c) (v0 v1 v2 v3 : Value) :
    Below B a ((((w.setCell ⟨c, 0, none⟩ v0).setCell ⟨c, 1, none⟩ v1).setCell ⟨c, 2, none⟩ v2).setCell ⟨c, 3, none⟩ v3) :=
  (((h.setCell (p := ⟨c, 0, none⟩) hc v0).setCell (p := ⟨c, 1, none⟩) hc v1).setCell (p := ⟨c, 2, none⟩) hc v2).setCell (p := ⟨c, 3, none⟩) hc v3
theorem keep_bel {w w1 w2 : World} {B : Nat} (h : Below B w w1) (hB : B ≤ w1.heap.size) (k : Keep w1.heap.size w1 w2) : Below B w w2 :=
  h.trans ⟨k.os, k.tape, k.output, k.size, fun j hj => k.block j (by omega) (by omega)⟩
/-- How a draw, or what makes memory beside one, changes the world. -/
def Dr (p : Nat) (A : Option Addr) (len cap : Nat) (w w' : World) : Prop := Keep p w w' ∧ Cur w' p A len cap
end Go.Proofs.Ytbkdbdhbmabgcaa.drk
end

section
namespace Go.Proofs.Ytbkdbdhbmabgcaa.reg
open Go Go.RowKit
set_option linter.unusedVariables false

/-- The slot that an operation writes. -/
def dst (ops : Array Oper) (j : Nat) : Option Tmp := (ops[j]?).bind (·.dst)
def look (a : Act) : Option Tmp → Value
  | some d => a.tmps.getD d undef
  | none => undef
/-- The slot that an operation writes, or, of one that writes none, a slot that it refers to. -/
def slot (rf : List (Nat × Tmp)) (j : Nat) : Option Tmp → Option Tmp
  | some d => some d
  | none => rf.lookup j
/-- The value of which it is said what is right. -/
def told (rf : List (Nat × Tmp)) (c : Act) (j : Nat) (v : Value) : Option Tmp → Value
  | some _ => v
  | none => look c (rf.lookup j)
/-- No way out but the normal one. -/
def QF : Exit → Act → World → Prop := fun _ _ _ => False
/-- For whatever right values of these operations. -/
def Obs (ops : Array Oper) (R : Nat → Value → World → Prop) (w : World) (body : Act → Prop) : List (Nat × Tmp) → Act → Prop
  | [], b => body b
  | (j, d) :: l, b => ∀ v, R j v w → Obs ops R w body l (b.put (some d) v)
/-- What stood there stands. -/
abbrev Bel (w w' : World) : Prop := Below w.heap.size w w'
/-- One operation's duty. E: how it may change the world. -/
def Ob (E : Nat → World → World → Prop) (rf : List (Nat × Tmp)) (P : Program) (ops : Array Oper) (R : Nat → Value → World → Prop) (C : World → Prop) (a0 : Act) (i : Nat) (o : Oper) (d : List (Nat × Tmp)) : Prop :=
  ∀ w, C w → Obs ops R w (fun c => ∀ K : Act → World → Prop, (∀ v w', R i (told rf c i v o.dst) w' → E i w w' → K (c.put o.dst v) w') →
    if Region.wanted o (yielded ops c.tmps) = true then Oper.wp P o c w K QF else K (c.put o.dst undef) w) d a0
/-- All duties: one for each operation for which a list stands. -/
def All (E : Nat → World → World → Prop) (rf : List (Nat × Tmp)) (P : Program) (ops : Array Oper) (R : Nat → Value → World → Prop) (C : World → Prop) (a0 : Act) : Nat → List Oper → List (Option (List (Nat × Tmp))) → Prop
  | i, o :: l, some d :: nd => Ob E rf P ops R C a0 i o d ∧ All E rf P ops R C a0 (i + 1) l nd
  | i, _ :: l, none :: nd => All E rf P ops R C a0 (i + 1) l nd
  | _, _, _ => True

/-- What is right of a value and stays so. -/
def Stay (E : World → World → Prop) : Type := { p : Value → World → Prop // ∀ v w w', p v w → E w w' → p v w' }
def is {E : World → World → Prop} (x : Value) : Stay E := ⟨fun v _ => v = x, fun _ _ _ h _ => h⟩
/-- What is right of a value alone. -/
def val {E : World → World → Prop} (p : Value → Prop) : Stay E := ⟨fun v _ => p v, fun _ _ _ h _ => h⟩
def free {E : World → World → Prop} : Stay E := ⟨fun _ _ => True, fun _ _ _ _ _ => trivial⟩
def rl {E : World → World → Prop} (l : List (Stay E)) : Nat → Value → World → Prop := fun i v w => (l.getD i free).1 v w
theorem rl_keep {E : World → World → Prop} (l : List (Stay E)) : ∀ j v w w', rl l j v w → E w w' → rl l j v w' := fun j v w w' h hb => (l.getD j free).2 v w w' h hb

theorem edge_of {ops : Array Oper} {j i : Nat} {oj : Oper} (h : Region.waitsFor .any ops j i = true) (hj : ops[j]? = some oj) : ∃ e ∈ oj.after, Region.binds .any e = true ∧ e.on = i := by
  obtain ⟨o, ho, h2⟩ := Region.waitsFor_spec h
  obtain rfl := Option.some.inj (ho.symm.trans hj)
  exact h2
/-- The region's form. s: where the operations begin that end it, each behind the one before it, or a number beyond; N: how many slots; nd: whose values each operation looks at. -/
def okB (ops : Array Oper) (s N : Nat) (rf : List (Nat × Tmp)) (nd : List (Option (List (Nat × Tmp)))) : Bool :=
  let n := ops.size
  Region.noSelect ops &&
  (List.range n).all (fun i => (ops.getD i default).after.all fun e => !Region.binds .any e || decide (e.on < i)) &&
  (List.range n).all (fun i => (List.range n).all fun j => i == j || (dst ops i).isNone || dst ops i != dst ops j) &&
  (List.range n).all (fun i => match dst ops i with | some d => decide (d < N) | none => true) &&
  (decide (n ≤ s) || (List.range s).all fun i => (List.range (s + 1)).any fun j => decide (i < j) && Region.waitsFor .any ops j i) &&
  (List.range n).all (fun t => decide (t ≤ s) || Region.waitsFor .any ops t (t - 1)) &&
  rf.all (fun x => (dst ops x.1).isNone && (nd.getD x.1 none).any (fun d => d.any fun j => j.2 == x.2) && decide (x.1 < s)) &&
  (List.range n).all (fun i => decide (s ≤ i) || match nd[i]? with
    | some (some d) => d.all (fun j => Region.waitsFor .any ops i j.1 && dst ops j.1 == some j.2 && decide (j.1 < s)) && ((ops.getD i default).looksAt ops).all fun k => d.any (fun j => j.2 == k) || (List.range s).all fun j => dst ops j != some k
    | _ => false)

theorem all_get {E : Nat → World → World → Prop} {rf : List (Nat × Tmp)} {P : Program} {ops : Array Oper} {R : Nat → Value → World → Prop} {C : World → Prop} {a0 : Act} : ∀ (l : List Oper) (nd : List (Option (List (Nat × Tmp)))) (k : Nat), All E rf P ops R C a0 k l nd → ∀ (i : Nat) (o : Oper) (d : List (Nat × Tmp)), l[i]? = some o → nd[i]? = some (some d) → Ob E rf P ops R C a0 (k + i) o d
  | [], _, _, _, i, o, d, ho, _ => by simp at ho
  | o :: l, [], _, _, i, _, d, _, hd => by simp at hd
  | o :: l, none :: nd, k, h, 0, _, d, _, hd => by simp at hd
  | o :: l, none :: nd, k, h, i + 1, o', d, ho, hd => by
    have := all_get l nd (k + 1) h i o' d (by simpa using ho) (by simpa using hd)
    rwa [show k + 1 + i = k + (i + 1) by omega] at this
  | o :: l, some e :: nd, k, h, 0, o', d, ho, hd => by
    simp at ho hd
    subst ho hd
    exact h.1
  | o :: l, some e :: nd, k, h, i + 1, o', d, ho, hd => by
    have := all_get l nd (k + 1) h.2 i o' d (by simpa using ho) (by simpa using hd)
    rwa [show k + 1 + i = k + (i + 1) by omega] at this

section
variable {P : Program} {ops : Array Oper} {Q : Exit → Act → World → Prop} {C : World → Prop} {R : Nat → Value → World → Prop} {a0 : Act} {E : Nat → World → World → Prop} {rf : List (Nat × Tmp)}

/-- The frame b with the slots of these operations as they are in a. -/
def puts (ops : Array Oper) (a : Act) : List (Nat × Tmp) → Act → Act
  | [], b => b
  | (j, d) :: l, b => puts ops a l (b.put (some d) (look a (some d)))
theorem obs_puts {w : World} {body : Act → Prop} {a : Act} : ∀ (l : List (Nat × Tmp)) (b : Act), Obs ops R w body l b → (∀ j ∈ l, R j.1 (look a (some j.2)) w) → body (puts ops a l b)
  | [], _, h, _ => h
  | (j, d) :: l, b, h, hR => obs_puts l _ (h _ (hR (j, d) (by simp))) fun k hk => hR k (by simp [hk])
theorem obs_mono {w : World} {f g : Act → Prop} (h : ∀ c, f c → g c) : ∀ (l : List (Nat × Tmp)) (b : Act), Obs ops R w f l b → Obs ops R w g l b
  | [], b, hh => h b hh
  | (_, _) :: l, b, hh => fun v hv => obs_mono h l _ (hh v hv)
theorem put_size (a : Act) (x : Option Tmp) (v : Value) : (a.put x v).tmps.size = a.tmps.size := by cases x <;> simp [Act.put]
theorem put_defers (a : Act) (x : Option Tmp) (v : Value) : (a.put x v).defers = a.defers := by cases x <;> rfl
theorem put_ne {a : Act} {x : Option Tmp} {v : Value} {k : Nat} (h : x ≠ some k) : (a.put x v).tmps.getD k undef = a.tmps.getD k undef := by
  cases x with
  | none => rfl
  | some d =>
    have hne : d ≠ k := fun e => h (by rw [e])
    simp [Act.put, Array.getElem?_setIfInBounds_ne hne]
theorem put_at {a : Act} {v : Value} {k : Nat} (h : k < a.tmps.size) : (a.put (some k) v).tmps.getD k undef = v := by
  simp [Act.put, h]
theorem beyond {a : Act} {k : Nat} (h : ¬ k < a.tmps.size) : a.tmps.getD k undef = undef := by
  simp [Array.getElem?_eq_none (Nat.le_of_not_lt h)]
theorem puts_size (a : Act) : ∀ (l : List (Nat × Tmp)) (b : Act), (puts ops a l b).tmps.size = b.tmps.size
  | [], _ => rfl
  | (j, d) :: l, b => by rw [puts, puts_size a l, put_size]
theorem puts_defers (a : Act) : ∀ (l : List (Nat × Tmp)) (b : Act), (puts ops a l b).defers = b.defers
  | [], _ => rfl
  | (j, d) :: l, b => by rw [puts, puts_defers a l, put_defers]
theorem puts_kept (a : Act) {k : Nat} : ∀ (l : List (Nat × Tmp)) (b : Act), a.tmps.size = b.tmps.size → b.tmps.getD k undef = a.tmps.getD k undef → (puts ops a l b).tmps.getD k undef = a.tmps.getD k undef
  | [], _, _, h => h
  | (j, d) :: l, b, hs, h => by
    rw [puts]
    refine puts_kept a l _ (by rw [put_size]; exact hs) ?_
    by_cases hk : d = k
    · rw [hk]
      by_cases hlt : k < b.tmps.size
      · rw [put_at hlt]; rfl
      · rw [beyond (by rw [put_size]; exact hlt), beyond (a := a) (by omega)]
    · rw [put_ne (by simpa using hk)]; exact h
theorem puts_in (a : Act) {k : Nat} : ∀ (l : List (Nat × Tmp)) (b : Act), a.tmps.size = b.tmps.size → (∃ j ∈ l, j.2 = k) → (puts ops a l b).tmps.getD k undef = a.tmps.getD k undef
  | [], _, _, h => by obtain ⟨j, hj, _⟩ := h; cases hj
  | (j, d) :: l, b, hs, h => by
    rw [puts]
    by_cases hk : d = k
    · refine puts_kept a l _ (by rw [put_size]; exact hs) ?_
      rw [hk]
      by_cases hlt : k < b.tmps.size
      · rw [put_at hlt]; rfl
      · rw [beyond (by rw [put_size]; exact hlt), beyond (a := a) (by omega)]
    · refine puts_in a l _ (by rw [put_size]; exact hs) ?_
      obtain ⟨i, hi, he⟩ := h
      rcases List.mem_cons.1 hi with rfl | hi
      · exact absurd he hk
      · exact ⟨i, hi, he⟩
theorem act_eq {a b : Act} (h1 : a.tmps.size = b.tmps.size) (h2 : ∀ k, a.tmps.getD k undef = b.tmps.getD k undef) (h3 : a.defers = b.defers) : a = b := by
  obtain ⟨t, d⟩ := a
  obtain ⟨t', d'⟩ := b
  simp only at h1 h2 h3
  subst h3
  have : t = t' := Array.ext h1 fun i hi hi' => by
    have := h2 i
    simp [hi, hi'] at this
    exact this
  rw [this]

/-- Two frames that agree where an operation looks. -/
theorem exec_same {o : Oper} {a c : Act} (hs : ∀ cs b, o.op ≠ .select cs b) (h : ∀ k ∈ o.looksAt ops, a.tmps.getD k undef = c.tmps.getD k undef) : execOp a.eval o = execOp c.eval o :=
  execOp_congr o hs fun x hx => by
    cases x with
    | tmp t => exact h t (List.mem_append_left _ (List.mem_filterMap.2 ⟨.tmp t, by simpa using hx, rfl⟩))
    | _ => rfl
theorem wanted_same {o : Oper} {a c : Act} (hz : a.tmps.size = c.tmps.size) (h : ∀ k ∈ o.looksAt ops, a.tmps.getD k undef = c.tmps.getD k undef) : Region.wanted o (yielded ops a.tmps) = Region.wanted o (yielded ops c.tmps) := by
  unfold Region.wanted
  cases hg : o.guard with
  | none => rfl
  | some gw =>
    obtain ⟨g, want⟩ := gw
    have hy : yielded ops a.tmps g = yielded ops c.tmps g := by
      unfold yielded
      cases ht : (ops[g]?).bind (·.dst) with
      | none => rfl
      | some t =>
        have := h t (List.mem_append_right _ (by rw [hg]; simp [ht]))
        have e : a.tmps[t]? = c.tmps[t]? := by
          by_cases hlt : t < a.tmps.size
          · have hlt' : t < c.tmps.size := hz ▸ hlt
            simp [hlt, hlt'] at this ⊢
            exact this
          · rw [Array.getElem?_eq_none (Nat.le_of_not_lt hlt), Array.getElem?_eq_none (Nat.le_of_not_lt (hz ▸ hlt))]
        simp [e]
    simp [hy]
/-- An operation's way, from one frame to another that agrees where it looks. -/
theorem upon_move {o : Oper} {a c : Act} {K K' : Act → World → Prop} {r : Result Next} (hk : ∀ v w', K (c.put o.dst v) w' → K' (a.put o.dst v) w') (hd : ∀ d w', ¬ K ({ c with defers := d :: c.defers }.put o.dst undef) w')
    (h : o.upon P c K QF r) : o.upon P a K' Q r := by
  cases r with
  | ok n w' =>
    cases n <;> simp only [Oper.upon] at h ⊢
    case value u => exact hk _ _ h
    case skip => exact hk _ _ h
    case defer d => exact absurd h (hd _ _)
    case enter f args =>
      refine Calls.mono h fun e w'' he => ?_
      cases e with
      | returned u => exact hk _ _ he
      | panicked c => exact he.elim
      | outgrown => obtain ⟨_, _, he⟩ := he; exact he.elim
    case row row args => exact Rows.mono h fun u w'' he => hk _ _ he
  | halt x w' =>
    cases x <;> simp only [Oper.upon] at h ⊢
    case panic u => exact h.elim

structure Inv (rf : List (Nat × Tmp)) (C : World → Prop) (R : Nat → Value → World → Prop) (ops : Array Oper) (a0 : Act) (s : Nat) (L : Array Bool) (a : Act) (w : World) : Prop where
  c : C w
  len : L.size = ops.size
  closed : ∀ j oj, ops[j]? = some oj → L.getD j false = true → ∀ e ∈ oj.after, Region.binds .any e = true → L.getD e.on false = true
  tail : ∀ t, s ≤ t → L.getD t false = false
  defers : a.defers = a0.defers
  size : a.tmps.size = a0.tmps.size
  base : ∀ k, (∀ j, L.getD j false = true → dst ops j ≠ some k) → a.tmps.getD k undef = a0.tmps.getD k undef
  right : ∀ j, L.getD j false = true → (slot rf j (dst ops j)).isSome = true → R j (look a (slot rf j (dst ops j))) w

theorem set_at {L : Array Bool} {j : Nat} (hj : j < L.size) : (L.setIfInBounds j true).getD j false = true := by simp [hj]

/-- What the Bool says. -/
structure Ok (ops : Array Oper) (s N : Nat) (rf : List (Nat × Tmp)) (nd : List (Option (List (Nat × Tmp)))) : Prop where
  sel : Region.noSelect ops = true
  back : ∀ i o, ops[i]? = some o → ∀ e ∈ o.after, Region.binds .any e = true → e.on < i
  apart : ∀ i j d, i < ops.size → j < ops.size → i ≠ j → dst ops i = some d → dst ops j ≠ some d
  room : ∀ i d, dst ops i = some d → d < N
  ends : s < ops.size → ∀ i, i < s → ∃ j, j ≤ s ∧ i < j ∧ Region.waitsFor .any ops j i = true
  chain : ∀ t, s < t → t < ops.size → Region.waitsFor .any ops t (t - 1) = true
  refs : ∀ j d, rf.lookup j = some d → dst ops j = none ∧ j < s ∧ ∃ l k, nd[j]? = some (some l) ∧ (k, d) ∈ l
  need : ∀ i o, ops[i]? = some o → i < s → ∃ d, nd[i]? = some (some d) ∧ (∀ j ∈ d, Region.waitsFor .any ops i j.1 = true ∧ dst ops j.1 = some j.2 ∧ j.1 < s) ∧
    ∀ k ∈ o.looksAt ops, (∃ j ∈ d, j.2 = k) ∨ ∀ j, j < s → dst ops j ≠ some k
theorem dst_lt {j : Nat} {d : Tmp} (h : dst ops j = some d) : j < ops.size := by
  unfold dst at h
  rcases Nat.lt_or_ge j ops.size with h' | h'
  · exact h'
  · rw [Array.getElem?_eq_none h'] at h; cases h
theorem ok_of {s N : Nat} {nd : List (Option (List (Nat × Tmp)))} (h : okB ops s N rf nd = true) : Ok ops s N rf nd := by
  unfold okB at h
  simp only [Bool.and_eq_true] at h
  obtain ⟨⟨⟨⟨⟨⟨⟨h1, h4⟩, h5⟩, h6⟩, h7⟩, h9⟩, ha⟩, h8⟩ := h
  have lt_of : ∀ {i : Nat} {o : Oper}, ops[i]? = some o → i < ops.size ∧ ops.getD i default = o := fun {i o} ho => by
    have hi := (Array.getElem?_eq_some_iff.1 ho).1
    exact ⟨hi, by simp [ho]⟩
  refine ⟨h1, fun i o ho e he hb => ?_, fun i j d hi hj hne he => ?_, fun i d hd => ?_, fun hs i hi => ?_, fun t ht hn => ?_, fun j d hl => ?_, fun i o ho hne => ?_⟩
  · obtain ⟨hi, e0⟩ := lt_of ho
    have := List.all_eq_true.1 h4 i (List.mem_range.2 hi)
    rw [e0] at this
    have := Array.all_eq_true_iff_forall_mem.1 this e he
    simpa [hb] using this
  · have := List.all_eq_true.1 (List.all_eq_true.1 h5 i (List.mem_range.2 hi)) j (List.mem_range.2 hj)
    simp [hne, he] at this
    exact fun e => this e.symm
  · have := List.all_eq_true.1 h6 i (List.mem_range.2 (dst_lt hd))
    rw [hd] at this
    simpa using this
  · simp only [Bool.or_eq_true, decide_eq_true_eq] at h7
    rcases h7 with h7 | h7
    · omega
    · obtain ⟨j, hj, hb⟩ := List.any_eq_true.1 (List.all_eq_true.1 h7 i (List.mem_range.2 hi))
      simp only [Bool.and_eq_true, decide_eq_true_eq] at hb
      exact ⟨j, by have := List.mem_range.1 hj; omega, hb.1, hb.2⟩
  · have := List.all_eq_true.1 h9 t (List.mem_range.2 hn)
    simp only [Bool.or_eq_true, decide_eq_true_eq] at this
    rcases this with this | this
    · omega
    · exact this
  · have hm : (j, d) ∈ rf := by
      clear ha h8
      induction rf with
      | nil => cases hl
      | cons x l ih =>
        obtain ⟨x1, x2⟩ := x
        rw [List.lookup_cons] at hl
        split at hl
        · rename_i he
          have he' : j = x1 := by simpa using he
          rw [he', (Option.some.inj hl)]; exact List.mem_cons_self
        · exact List.mem_cons_of_mem _ (ih hl)
    have h := List.all_eq_true.1 ha _ hm
    simp only [Bool.and_eq_true, decide_eq_true_eq, Option.isNone_iff_eq_none] at h
    obtain ⟨⟨h2, h3⟩, hs⟩ := h
    refine ⟨h2, hs, ?_⟩
    rcases Nat.lt_or_ge j nd.length with hj | hj
    · have e : nd.getD j none = nd[j] := by simp [hj]
      rw [e] at h3
      cases hx : nd[j] with
      | none => rw [hx] at h3; cases h3
      | some l =>
        rw [hx] at h3
        obtain ⟨k, hk, he⟩ := List.any_eq_true.1 (by simpa using h3 : l.any (fun k => k.2 == d) = true)
        have he' : k.2 = d := by simpa using he
        exact ⟨l, k.1, by rw [List.getElem?_eq_getElem hj, hx], by rw [← he']; exact hk⟩
    · simp [List.getElem?_eq_none hj] at h3
  · obtain ⟨hi, e0⟩ := lt_of ho
    have := List.all_eq_true.1 h8 i (List.mem_range.2 hi)
    simp only [Bool.or_eq_true, decide_eq_true_eq] at this
    rcases this with this | this
    · omega
    · split at this
      · rename_i d hd
        simp only [Bool.and_eq_true] at this
        refine ⟨d, hd, fun j hj => ?_, fun k hk => ?_⟩
        · have h := List.all_eq_true.1 this.1 j hj
          simp only [Bool.and_eq_true, decide_eq_true_eq, beq_iff_eq] at h
          exact ⟨h.1.1, h.1.2, h.2⟩
        · have h := this.2
          rw [e0] at h
          have h := List.all_eq_true.1 h k hk
          simp only [Bool.or_eq_true] at h
          rcases h with h | h
          · obtain ⟨j, hj, hb⟩ := List.any_eq_true.1 h
            exact .inl ⟨j, hj, by simpa using hb⟩
          · refine .inr fun j hjs he => ?_
            have h := List.all_eq_true.1 h j (List.mem_range.2 hjs)
            rw [he] at h
            simp at h
      · cases this

/-- What is not yet done waits for nothing but what is not yet done: something may come up. -/
theorem some_ready {s N : Nat} {nd : List (Option (List (Nat × Tmp)))} (H : Ok ops s N rf nd) {L : Array Bool} (hl : L.size = ops.size) : ∀ (m j : Nat), j < m → j < ops.size → L.getD j true = false → Region.ready .any ops L ≠ []
  | 0, j, hjm, _, _ => by omega
  | m + 1, j, hjm, hj, hun => by
    by_cases hr : j ∈ Region.ready .any ops L
    · exact fun h => by rw [h] at hr; cases hr
    · have ho : ops[j]? = some ops[j] := Array.getElem?_eq_getElem hj
      have : ∃ e ∈ (ops[j]).after, Region.binds .any e = true ∧ L.getD e.on false = false := by
        refine Classical.byContradiction fun hn => hr (mem_ready.2 ⟨hun, _, ho, fun e he hb => ?_⟩)
        cases hx : L.getD e.on false with
        | true => rfl
        | false => exact absurd ⟨e, he, hb, hx⟩ hn
      obtain ⟨e, he, hb, hx⟩ := this
      have hlt := H.back j _ ho e he hb
      exact some_ready H hl m e.on (by omega) (by omega) (getD_in (by omega) hx)
/-- What ends the region begins when all others are done. -/
theorem tail_last {s N : Nat} {nd : List (Option (List (Nat × Tmp)))} (H : Ok ops s N rf nd) {L : Array Bool} {a : Act} {w : World} (I : Inv rf C R ops a0 s L a w) (hs : s ∈ Region.ready .any ops L) : ∀ (m i : Nat), s - i < m → i < s → L.getD i false = true
  | 0, i, h, _ => by omega
  | m + 1, i, h, hi => by
    obtain ⟨_, os, hos, hall⟩ := mem_ready.1 hs
    have hsl : s < ops.size := (Array.getElem?_eq_some_iff.1 hos).1
    cases hx : L.getD i false with
    | true => rfl
    | false =>
      exfalso
      obtain ⟨j, hj, hij, hw⟩ := H.ends hsl i hi
      by_cases hjs : j = s
      · subst hjs
        obtain ⟨e, he, hb, hon⟩ := edge_of hw hos
        have := hall e he hb
        rw [hon, hx] at this; cases this
      · have h2 := tail_last H I hs m j (by omega) (by omega)
        have hoj : ops[j]? = some (ops[j]'(by omega)) := Array.getElem?_eq_getElem (by omega)
        obtain ⟨e, he, hb, hon⟩ := edge_of hw hoj
        have := I.closed j _ hoj h2 e he hb
        rw [hon, hx] at this; cases this
theorem no_tail {s N : Nat} {nd : List (Option (List (Nat × Tmp)))} (H : Ok ops s N rf nd) {L : Array Bool} {a : Act} {w : World} (I : Inv rf C R ops a0 s L a w) {t : Nat} (ht : s < t) (hr : t ∈ Region.ready .any ops L) : False := by
  obtain ⟨_, o, ho, hall⟩ := mem_ready.1 hr
  obtain ⟨e, he, hb, hon⟩ := edge_of (H.chain t ht (Array.getElem?_eq_some_iff.1 ho).1) ho
  have := hall e he hb
  rw [hon, I.tail (t - 1) (by omega)] at this; cases this

/-- The numbers of the operations that are to be done, and their slots. -/
def heads (ops : Array Oper) (s : Nat) : List (Nat × Tmp) := (List.range s).filterMap fun j => (dst ops j).map fun d => (j, d)
theorem mem_heads {s : Nat} {x : Nat × Tmp} (h : x ∈ heads ops s) : x.1 < s ∧ dst ops x.1 = some x.2 := by
  obtain ⟨j, hr, hj⟩ := List.mem_filterMap.1 h
  obtain ⟨d, hd, rfl⟩ := Option.map_eq_some_iff.1 hj
  exact ⟨List.mem_range.1 hr, hd⟩
theorem to_heads {s j : Nat} {d : Tmp} (h1 : j < s) (h3 : dst ops j = some d) : (j, d) ∈ heads ops s :=
  List.mem_filterMap.2 ⟨j, List.mem_range.2 h1, by rw [h3]; rfl⟩
theorem all_done {s N : Nat} {nd : List (Option (List (Nat × Tmp)))} (H : Ok ops s N rf nd) {L : Array Bool} {a : Act} {w : World} (I : Inv rf C R ops a0 s L a w) (hd : ∀ i, i < s → i < ops.size → L.getD i false = true) {body : Act → Prop}
    (h : Obs ops R w body (heads ops s) a0) : body a := by
  have h1 := obs_puts (a := a) _ _ h fun j hj => by
    obtain ⟨h2, h4⟩ := mem_heads hj
    have := I.right j.1 (hd j.1 h2 (dst_lt h4)) (by rw [h4]; rfl)
    rwa [h4] at this
  have e : puts ops a (heads ops s) a0 = a := act_eq (by rw [puts_size]; exact I.size.symm) (fun k => by
    by_cases hk : ∃ j ∈ heads ops s, j.2 = k
    · exact puts_in a _ _ I.size hk
    · exact puts_kept a _ _ I.size (I.base k fun j hl he => hk ⟨(j, k), to_heads (by
        rcases Nat.lt_or_ge j s with h' | h'
        · exact h'
        · rw [I.tail j h'] at hl; cases hl) he, rfl⟩).symm) (by rw [puts_defers]; exact I.defers.symm)
  rwa [e] at h1
/-- One step. -/
theorem inv_step {s N : Nat} {nd : List (Option (List (Nat × Tmp)))} (H : Ok ops s N rf nd) (hN : a0.tmps.size = N) (hC : ∀ i w w', C w → E i w w' → C w') (hR : ∀ i j v w w', i ≠ j → R j v w → E i w w' → R j v w')
    {L : Array Bool} {a : Act} {w : World} (I : Inv rf C R ops a0 s L a w) {i : Nat} {o : Oper} (ho : ops[i]? = some o) (his : i < s) (hr : i ∈ Region.ready .any ops L) {v : Value} {w' : World} (hv : (slot rf i (dst ops i)).isSome = true → R i (told rf a i v (dst ops i)) w') (hb : E i w w') :
    Inv rf C R ops a0 s (L.setIfInBounds i true) (a.put o.dst v) w' := by
  obtain ⟨hun, o', ho', hall⟩ := mem_ready.1 hr
  obtain rfl : o' = o := Option.some.inj (ho'.symm.trans ho)
  have hd : dst ops i = o'.dst := by unfold dst; rw [ho]; rfl
  have hi : i < ops.size := (Array.getElem?_eq_some_iff.1 ho).1
  have hiL : i < L.size := by rw [I.len]; exact hi
  refine ⟨hC _ _ _ I.c hb, by simp [I.len], fun j oj hj hl e he hbi => ?_, fun t ht => by rw [getD_set_ne false (by omega)]; exact I.tail t ht, by rw [put_defers]; exact I.defers, by rw [put_size]; exact I.size, fun k hk => ?_, fun j hl hsm => ?_⟩
  · by_cases hij : i = j
    · subst hij
      obtain rfl : oj = o' := Option.some.inj (hj.symm.trans ho)
      exact getD_set_true (hall e he hbi)
    · rw [getD_set_ne false hij] at hl
      exact getD_set_true (I.closed j oj hj hl e he hbi)
  · have hik : dst ops i ≠ some k := hk i (set_at hiL)
    rw [put_ne (by rw [← hd]; exact hik)]
    exact I.base k fun j hl => hk j (getD_set_true hl)
  · by_cases hij : i = j
    · subst hij
      have hv' := hv hsm
      cases hdd : dst ops i with
      | some d =>
        rw [hdd] at hv'
        have : look (a.put o'.dst v) (slot rf i (some d)) = v := by
          rw [← hd, hdd]
          exact put_at (by rw [I.size, hN]; exact H.room i d hdd)
        rw [this]; exact hv'
      | none =>
        rw [hdd] at hv'
        have : look (a.put o'.dst v) (slot rf i none) = look a (rf.lookup i) := by rw [← hd, hdd]; rfl
        rw [this]; exact hv'
    · rw [getD_set_ne false hij] at hl
      have keep : look (a.put o'.dst v) (slot rf j (dst ops j)) = look a (slot rf j (dst ops j)) := by
        cases hdd : dst ops j with
        | some d => exact put_ne fun e => H.apart j i d (dst_lt hdd) hi (Ne.symm hij) hdd (by rw [hd]; exact e)
        | none =>
          cases hrf : rf.lookup j with
          | none => simp only [slot, hrf, look]
          | some d =>
            simp only [slot, hrf]
            obtain ⟨_, hjs, l, k, hl1, hkl⟩ := H.refs j d hrf
            have hjn : j < ops.size := by
              rcases Nat.lt_or_ge j ops.size with h' | h'
              · exact h'
              · simp [Array.getElem?_eq_none (show L.size ≤ j by rw [I.len]; exact h')] at hl
            have hoj : ops[j]? = some ops[j] := Array.getElem?_eq_getElem hjn
            obtain ⟨l', hl2, hdep, _⟩ := H.need j _ hoj hjs
            obtain rfl : l' = l := by simpa using hl2.symm.trans hl1
            obtain ⟨h1, h2, _⟩ := hdep (k, d) hkl
            obtain ⟨e, he, hbi, hon⟩ := edge_of h1 hoj
            have hkL := I.closed j _ hoj hl e he hbi
            rw [hon] at hkL
            refine put_ne fun e => ?_
            have hki : k ≠ i := fun e => by subst e; rw [getD_both hun] at hkL; cases hkL
            exact H.apart k i d (dst_lt h2) hi hki h2 (by rw [hd]; exact e)
      rw [keep]
      exact hR i j _ _ _ hij (I.right j hl hsm) hb

theorem step_op {l : List Oper} {s N : Nat} {nd : List (Option (List (Nat × Tmp)))} (H : Ok l.toArray s N rf nd) (hN : a0.tmps.size = N) (hC : ∀ i w w', C w → E i w w' → C w') (hR : ∀ i j v w w', i ≠ j → R j v w → E i w w' → R j v w')
    (hA : All E rf P l.toArray R C a0 0 l nd) {L : Array Bool} {a : Act} {w : World} (I : Inv rf C R l.toArray a0 s L a w) {i : Nat} (his : i < s) (hr : i ∈ Region.ready .any l.toArray L) {K : Act → World → Prop}
    (hK : ∀ a' w', Inv rf C R l.toArray a0 s (L.setIfInBounds i true) a' w' → K a' w') : wpOp P l.toArray Q i K a w := by
  obtain ⟨hun, o, ho, hall⟩ := mem_ready.1 hr
  have hd : dst l.toArray i = o.dst := by unfold dst; rw [ho]; rfl
  obtain ⟨d, hnd, hdep, hlook⟩ := H.need i o ho his
  have hlist : ∀ j ∈ d, L.getD j.1 false = true := fun j hj => by
    obtain ⟨e, he, hb, hon⟩ := edge_of (hdep j hj).1 ho
    rw [← hon]; exact hall e he hb
  have hob : Ob E rf P l.toArray R C a0 i o d := by
    have := all_get l nd 0 hA i o d (by simpa using ho) hnd
    rwa [Nat.zero_add] at this
  have hc := obs_puts (a := a) _ _ (hob w I.c) fun j hj => by
    have := I.right j.1 (hlist j hj) (by rw [(hdep j hj).2.1]; rfl)
    rwa [(hdep j hj).2.1] at this
  have hcs : (puts l.toArray a d a0).tmps.size = a.tmps.size := by rw [puts_size]; exact I.size.symm
  have hag : ∀ k ∈ o.looksAt l.toArray, a.tmps.getD k undef = (puts l.toArray a d a0).tmps.getD k undef := fun k hk => by
    rcases hlook k hk with h | h
    · exact (puts_in a d a0 I.size h).symm
    · refine (puts_kept a d a0 I.size (I.base k fun j hl => h j ?_).symm).symm
      rcases Nat.lt_or_ge j s with h' | h'
      · exact h'
      · rw [I.tail j h'] at hl; cases hl
  have hsel := Region.noSelect_spec H.sel i o
  have h1 := hc (fun a' w' => ∃ v, a' = (puts l.toArray a d a0).put o.dst v ∧ R i (told rf (puts l.toArray a d a0) i v o.dst) w' ∧ E i w w') fun v w' h2 h3 => ⟨v, rfl, h2, h3⟩
  have fin : ∀ v w', (∃ v', (puts l.toArray a d a0).put o.dst v = (puts l.toArray a d a0).put o.dst v' ∧ R i (told rf (puts l.toArray a d a0) i v' o.dst) w' ∧ E i w w') → K (a.put o.dst v) w' := fun v w' ⟨v', e, h2, h3⟩ =>
    hK _ _ (inv_step H hN hC hR I ho his hr (fun hsm => by
      rw [hd] at hsm ⊢
      cases hx' : o.dst with
      | some x =>
        rw [hx'] at e h2
        have hx : dst l.toArray i = some x := by rw [hd]; exact hx'
        have hlt : x < (puts l.toArray a d a0).tmps.size := by rw [puts_size, hN]; exact H.room i x hx
        have h4 : ((puts l.toArray a d a0).put (some x) v).tmps.getD x undef = ((puts l.toArray a d a0).put (some x) v').tmps.getD x undef := by rw [e]
        rw [put_at hlt, put_at hlt] at h4
        show R i v w'
        rw [h4]; exact h2
      | none =>
        rw [hx'] at h2 hsm
        show R i (look a (rf.lookup i)) w'
        have h2' : R i (look (puts l.toArray a d a0) (rf.lookup i)) w' := h2
        obtain ⟨x, hx⟩ := Option.isSome_iff_exists.1 hsm
        have hx2 : rf.lookup i = some x := hx
        rw [hx2] at h2' ⊢
        obtain ⟨_, _, l', k, hl1, hkl⟩ := H.refs i x hx2
        obtain rfl : l' = d := by simpa using hl1.symm.trans hnd
        have e2 : (puts l.toArray a l' a0).tmps.getD x undef = a.tmps.getD x undef := puts_in a l' a0 I.size ⟨(k, x), hkl, rfl⟩
        have e3 : look (puts l.toArray a l' a0) (some x) = look a (some x) := e2
        rw [← e3]; exact h2') h3)
  unfold wpOp
  rw [ho]
  simp only
  rw [wanted_same hcs.symm hag]
  split
  · rename_i hw
    rw [if_pos hw] at h1
    refine .inl ?_
    unfold Oper.wp at h1 ⊢
    rw [exec_same (fun cs b => hsel cs b ho) hag]
    refine upon_move fin (fun dd w' hh => ?_) h1
    obtain ⟨v', e, _⟩ := hh
    have := congrArg Act.defers e
    rw [put_defers, put_defers] at this
    exact absurd (congrArg List.length this) (by simp)
  · rename_i hw
    rw [if_neg hw] at h1
    exact fin _ _ h1

theorem count_set {L : Array Bool} {i : Nat} (h : L.getD i true = false) : (L.setIfInBounds i true).toList.count false + 1 = L.toList.count false := by
  have hi : i < L.size := by
    rcases Nat.lt_or_ge i L.size with h' | h'
    · exact h'
    · simp [Array.getElem?_eq_none h'] at h
  have hx : L[i] = false := by simpa [hi] using h
  have hm : false ∈ L.toList := by rw [← hx]; simp
  have hpos : 0 < L.toList.count false := List.count_pos_iff.2 hm
  rw [Array.toList_setIfInBounds, List.count_set (by simpa using hi)]
  have e : (L.toList[i]'(by simpa using hi) == false) = true := by simp [hx]
  rw [if_pos e, if_neg (by decide)]
  omega
theorem none_left {L : Array Bool} (h : L.toList.count false = 0) (i : Nat) : L.getD i true = true := by
  rcases Nat.lt_or_ge i L.size with h' | h'
  · have := List.count_eq_zero.1 h
    cases hx : L[i] with
    | true => simp [h', hx]
    | false => exact absurd (show false ∈ L.toList by rw [← hx]; simp) this
  · simp [Array.getElem?_eq_none h']

/-- A region without an end of its own, from any state. -/
theorem any_plain {l : List Oper} {N : Nat} {nd : List (Option (List (Nat × Tmp)))} (H : Ok l.toArray l.length N rf nd) (hN : a0.tmps.size = N) (hC : ∀ i w w', C w → E i w w' → C w') (hR : ∀ i j v w w', i ≠ j → R j v w → E i w w' → R j v w')
    (hA : All E rf P l.toArray R C a0 0 l nd) (hF : ∀ w, C w → Obs l.toArray R w (fun c => (∀ x ∈ rf, rf.lookup x.1 = some x.2 → R x.1 (look c (some x.2)) w) → Q .normal c w) (heads l.toArray l.length) a0) : ∀ (fuel : Nat) (L : Array Bool) (a : Act) (w : World), L.toList.count false ≤ fuel → Inv rf C R l.toArray a0 l.length L a w →
    wpAny P .any l.toArray Q fuel L a w := by
  intro fuel
  have fin : ∀ (L : Array Bool) (a : Act) (w : World), Region.ready .any l.toArray L = [] → Inv rf C R l.toArray a0 l.length L a w → Q .normal a w := fun L a w h0 I => by
    have hall : ∀ i, i < l.toArray.size → L.getD i false = true := fun i hi => by
      cases hx : L.getD i false with
      | true => rfl
      | false => exact absurd h0 (some_ready H I.len (i + 1) i (by omega) hi (getD_in (by rw [I.len]; exact hi) hx))
    refine all_done H I (fun i _ hi => hall i hi) (hF w I.c) fun x hx hlk => ?_
    obtain ⟨h1, h2, _⟩ := H.refs x.1 x.2 hlk
    have := I.right x.1 (hall x.1 (by simpa using h2)) (by rw [h1]; simp only [slot, hlk]; rfl)
    rw [h1] at this
    simp only [slot, hlk] at this
    exact this
  induction fuel with
  | zero =>
    intro L a w hc I
    have h0 : Region.ready .any l.toArray L = [] := List.eq_nil_iff_forall_not_mem.2 fun i hi => by
      have := (mem_ready.1 hi).1
      rw [none_left (by omega) i] at this; cases this
    exact ⟨h0, fin L a w h0 I⟩
  | succ fuel ih =>
    intro L a w hc I
    refine ⟨fun h0 => fin L a w h0 I, fun i hi => step_op H hN hC hR hA I ?_ hi fun a' w' I' => ih _ _ _ (by have := count_set (mem_ready.1 hi).1; omega) I'⟩
    obtain ⟨_, o, ho, _⟩ := mem_ready.1 hi
    simpa using (Array.getElem?_eq_some_iff.1 ho).1
/-- Which are done when the end begins. -/
def upTo (n s : Nat) : Array Bool := ((List.range n).map fun i => decide (i < s)).toArray
theorem is_upTo {L : Array Bool} {n s : Nat} (hl : L.size = n) (h1 : ∀ i, i < s → L.getD i false = true) (h2 : ∀ t, s ≤ t → L.getD t false = false) : L = upTo n s := by
  refine Array.ext (by simp [upTo, hl]) fun i hi hi' => ?_
  have e : L[i] = L.getD i false := by simp [hi]
  rw [e]
  simp only [upTo, List.getElem_toArray, List.getElem_map, List.getElem_range]
  rcases Nat.lt_or_ge i s with h' | h'
  · rw [h1 i h', decide_eq_true h']
  · rw [h2 i h', decide_eq_false (by omega)]
theorem count_upTo (n s : Nat) (h : s ≤ n) : (upTo n s).toList.count false = n - s := by
  induction n with
  | zero => simp [upTo]
  | succ n ih =>
    have e : (upTo (n + 1) s).toList = (upTo n s).toList ++ [decide (n < s)] := by simp [upTo, List.range_succ]
    rw [e, List.count_append]
    rcases Nat.lt_or_ge n s with h' | h'
    · have hs : s = n + 1 := by omega
      have h0 : (upTo n s).toList.count false = 0 := List.count_eq_zero.2 fun hm => by
        simp only [upTo, List.mem_map, List.mem_range] at hm
        obtain ⟨i, hi, hh⟩ := hm
        rw [decide_eq_true (by omega)] at hh; cases hh
      rw [h0, decide_eq_true h']; simp; omega
    · rw [ih h', decide_eq_false (by omega)]; simp; omega
/-- A region that a chain of operations from number s on ends, from any state. -/
theorem any_tail {l : List Oper} {s N : Nat} {nd : List (Option (List (Nat × Tmp)))} (hs : s < l.length) (H : Ok l.toArray s N rf nd) (hT : Region.seqB .any l.toArray (l.length - s) s (upTo l.length s) = true) (hN : a0.tmps.size = N) (hC : ∀ i w w', C w → E i w w' → C w')
    (hR : ∀ i j v w w', i ≠ j → R j v w → E i w w' → R j v w') (hA : All E rf P l.toArray R C a0 0 l nd) (hF : ∀ w, C w → Obs l.toArray R w (fun c => wpList P l.toArray Q (l.drop s) c w) (heads l.toArray s) a0) :
    ∀ (fuel : Nat) (L : Array Bool) (a : Act) (w : World), L.toList.count false = fuel → Inv rf C R l.toArray a0 s L a w → wpAny P .any l.toArray Q fuel L a w := by
  have hsl : s < l.toArray.size := by simpa using hs
  intro fuel
  induction fuel with
  | zero =>
    intro L a w hc I
    have h1 := none_left (L := L) (by omega) s
    have h2 := getD_in (by rw [I.len]; exact hsl) (I.tail s (Nat.le_refl _))
    rw [h1] at h2; cases h2
  | succ fuel ih =>
    intro L a w hc I
    by_cases hall : ∀ i, i < s → L.getD i false = true
    · have hu : L = upTo l.length s := is_upTo (by rw [I.len]; simp) hall I.tail
      have hcc := count_upTo l.length s (by omega)
      rw [← hu, hc] at hcc
      have h1 := all_done H I (fun i h _ => hall i h) (hF w I.c)
      have := wpAny_of_seq (md := .any) (Q' := Q) (l.drop s) s L a w (fun j => by simp [List.getElem?_drop]) (by rw [hu, List.length_drop]; exact hT) h1
      rwa [List.length_drop, ← hcc] at this
    · refine ⟨fun h0 => absurd h0 (some_ready H I.len (s + 1) s (by omega) hsl (getD_in (by rw [I.len]; exact hsl) (I.tail s (Nat.le_refl _)))), fun i hi => ?_⟩
      have his : i < s := by
        rcases Nat.lt_trichotomy i s with h | h | h
        · exact h
        · subst h; exact absurd (fun j hj => tail_last H I hi (i - j + 1) j (by omega) hj) hall
        · exact (no_tail H I h hi).elim
      exact step_op H hN hC hR hA I his hi fun a' w' I' => ih _ _ _ (by have := count_set (mem_ready.1 hi).1; omega) I'

theorem inv_start {s : Nat} {w : World} (hc : C w) : Inv rf C R ops a0 s (Array.replicate ops.size false) a0 w :=
  have h0 : ∀ j, (Array.replicate ops.size false).getD j false = false := fun j => by
    rcases Nat.lt_or_ge j ops.size with h | h
    · simp [h]
    · simp [h]
  ⟨hc, by simp, fun j oj _ h1 => (by rw [h0] at h1; cases h1), fun t _ => h0 t, rfl, rfl, fun _ _ => rfl, fun j h1 => (by rw [h0] at h1; cases h1)⟩

/-- **A region that draws its order and that a chain of operations (from number s on) ends.** -/
theorem region_tail {id : Nat} {l : List Oper} {w : World} (E : World → World → Prop) (s N : Nat) (nd : List (Option (List (Nat × Tmp)))) (hd : List (Nat × Tmp)) (C : World → Prop) (R : Nat → Value → World → Prop) (hm : P.follows .mixedOrders = true) (hs : decide (s < l.length) = true) (hB : okB l.toArray s N [] nd = true)
    (hT : Region.seqB .any l.toArray (l.length - s) s (upTo l.length s) = true) (hN : a0.tmps.size = N) (hC : ∀ w w', C w → E w w' → C w') (hR : ∀ j v w w', R j v w → E w w' → R j v w') (h0 : C w.drew) (hH : heads l.toArray s = hd) (hA : All (fun _ => E) [] P l.toArray R C a0 0 l nd)
    (hF : ∀ w, C w → Obs l.toArray R w (fun c => wpList P l.toArray Q (l.drop s) c w) hd a0) : (Code.region id l.toArray true).wp P Q a0 w :=
  wp_region_any hm (by
    subst hH
    exact any_tail (Q := Q) (E := fun _ => E) (rf := []) (of_decide_eq_true hs) (ok_of hB) hT hN (fun _ => hC) (fun _ j v w w' _ => hR j v w w') hA hF _ _ a0 w.drew (by simp) (inv_start h0))
/-- **A region that draws its order and whose operations only make memory.** -/
theorem region_plain {id : Nat} {l : List Oper} {w : World} (E : World → World → Prop) (N : Nat) (nd : List (Option (List (Nat × Tmp)))) (hd : List (Nat × Tmp)) (C : World → Prop) (R : Nat → Value → World → Prop) (hm : P.follows .mixedOrders = true) (hB : okB l.toArray l.length N [] nd = true) (hN : a0.tmps.size = N)
    (hC : ∀ w w', C w → E w w' → C w') (hR : ∀ j v w w', R j v w → E w w' → R j v w') (h0 : C w.drew) (hH : heads l.toArray l.length = hd) (hA : All (fun _ => E) [] P l.toArray R C a0 0 l nd)
    (hF : ∀ w, C w → Obs l.toArray R w (fun c => Q .normal c w) hd a0) : (Code.region id l.toArray true).wp P Q a0 w :=
  wp_region_any hm (by
    subst hH
    exact any_plain (Q := Q) (E := fun _ => E) (rf := []) (ok_of hB) hN (fun _ => hC) (fun _ j v w w' _ => hR j v w w') hA (fun w h => obs_mono (f := fun c => Q .normal c w) (g := fun c => (∀ x ∈ ([] : List (Nat × Tmp)), ([] : List (Nat × Tmp)).lookup x.1 = some x.2 → R x.1 (look c (some x.2)) w) → Q .normal c w) (fun _ q _ => q) _ _ (hF w h)) _ _ a0 w.drew (by simp) (inv_start h0))
/-- **A region that draws its order, each operation with a relation of its own; rf: of which slot's value it is said what an operation without a slot leaves.** In the end what it says of them holds too. -/
theorem region_free {id : Nat} {l : List Oper} {w : World} (E : Nat → World → World → Prop) (N : Nat) (rf : List (Nat × Tmp)) (nd : List (Option (List (Nat × Tmp)))) (hd : List (Nat × Tmp)) (C : World → Prop) (R : Nat → Value → World → Prop) (hm : P.follows .mixedOrders = true) (hB : okB l.toArray l.length N rf nd = true) (hN : a0.tmps.size = N)
    (hC : ∀ i w w', C w → E i w w' → C w') (hR : ∀ i j v w w', i ≠ j → R j v w → E i w w' → R j v w') (h0 : C w.drew) (hH : heads l.toArray l.length = hd) (hA : All E rf P l.toArray R C a0 0 l nd)
    (hF : ∀ w, C w → Obs l.toArray R w (fun c => (∀ x ∈ rf, rf.lookup x.1 = some x.2 → R x.1 (look c (some x.2)) w) → Q .normal c w) hd a0) : (Code.region id l.toArray true).wp P Q a0 w :=
  wp_region_any hm (by
    subst hH
    exact any_plain (Q := Q) (ok_of hB) hN hC hR hA hF _ _ a0 w.drew (by simp) (inv_start h0))
end
end Go.Proofs.Ytbkdbdhbmabgcaa.reg
end

section
namespace Go.Proofs.Ytbkdbdhbmabgcaa.stw
open Go.RowKit sl harn bx
set_option linter.unusedVariables false

theorem cells_row {P : Program} {w : World} {b : Nat} {T : TypeId} {cur cells : Array Value} (hX : Bx T w b cur) (hs : cur.size = cells.size) (h1 : cells.all (·.oneCell') = true) : w.setCells b 0 cells.toList = w.setRow b cells := by
  have h2 := run_storeCells_cells (P := P) b 0 cells.toList 0 w (fun j hj => by rw [show 0 + 0 + j = j by omega, hX.cell j]; simp at hj; simp; omega) (fun j hj => by rw [show 0 + 0 + j = j by omega]; exact hX.free j)
    (fun v hv => (Array.all_eq_true_iff_forall_mem.1 h1) v (by simpa using hv))
  have h3 := run_storeCells_at P b 0 T cells.toList 0 cur w hX (by simp; omega) (fun v hv => (Array.all_eq_true_iff_forall_mem.1 h1) v (by simpa using hv))
  have hrow : (cur.toList.take (0 + 0) ++ cells.toList ++ cur.toList.drop (0 + 0 + cells.toList.length)).toArray = cells := by
    rw [Nat.add_zero, Nat.zero_add, List.take_zero, List.drop_eq_nil_of_le (by simp; omega)]
    simp
  rw [hrow] at h3
  rw [h2] at h3
  simpa using h3
structure Put (T : TypeId) (w : World) (b : Nat) (cells : Array Value) (w' : World) : Prop where
  box : Bx T w' b cells
  below : Below b w w'
  other : ∀ j, j ≠ b → w'.heap[j]? = w.heap[j]?
theorem Put.keep {T U : TypeId} {w w' : World} {b c : Nat} {cells cs : Array Value} (h : Put T w b cells w') (hX : Bx U w c cs) (hc : c ≠ b) : Bx U w' c cs := hX.same (h.other c hc)
theorem Put.on {T : TypeId} {w w' v : World} {b B : Nat} {cells : Array Value} (h : Put T w b cells w') (hb : Below B v w) (hB : B ≤ b) : Below B v w' :=
  hb.trans ⟨h.below.os, h.below.tape, h.below.output, h.below.size, fun j hj => h.other j (by omega)⟩
theorem put_row {T : TypeId} {w : World} {b : Nat} {cur cells : Array Value} (hX : Bx T w b cur) : Put T w b cells (w.setRow b cells) :=
  ⟨show _ = _ from setRow_heap w b _ _ T _ hX, ⟨rfl, rfl, rfl, by simp [World.setRow], fun k hk => setRow_other w b k _ (by omega)⟩, fun k hk => setRow_other w b k _ (by omega)⟩
theorem there_of {T : TypeId} {w : World} {b n : Nat} {cs : Array Value} (h : Bx T w b cs) (hn : n ≤ cs.size) : w.there b 0 n := fun j hj => by
  rw [Nat.zero_add, h.cell j]
  exact ⟨by simp; omega, h.free j⟩
theorem range_of {T : TypeId} {w : World} {b : Nat} {cs : Array Value} (h : Bx T w b cs) : w.rangeAt b 0 cs.toList := fun j v hj => by
  rw [Nat.zero_add, h.cell j]; simpa using hj
/-- A whole variable stored, in a region that draws its order. -/
theorem step_store {P : Program} {ops : Array Oper} {ts : Array Value} {o : Oper} {a : Act} {w : World} {K : Act → World → Prop} {Q : Exit → Act → World → Prop} {E : Prop} (hgd : o.guard = none) (ty : TypeId) (x y : Operand) (ho : o.op = .store ty x y)
    (b : Nat) (cells : Array Value) (hx : a.eval x = .pointer (some ⟨b, 0, none⟩)) (hy : a.eval y = .agg cells) (T : TypeId) (cur : Array Value) (hX : Bx T w b cur) (hs : cur.size = cells.size)
    (hi : (P.info? ty).map (·.size) = some cells.size) (h1 : cells.all (·.oneCell') = true) (h : ∀ w', Put T w b cells w' → K (a.put o.dst undef) w') :
    if Region.wanted o (yielded ops ts) = true then Oper.wp P o a w K Q else E := by
  have hw : Region.wanted o (yielded ops ts) = true := by simp [Region.wanted, hgd]
  rw [if_pos hw]
  refine wp_store_mid ty x y ho b 0 cells hx hy (there_of hX (by omega)) hi h1 ?_
  rw [cells_row (P := P) hX hs h1]
  exact h _ (put_row hX)
/-- The same in a region of one order. -/
theorem list_store {P : Program} {ops : Array Oper} {rest : List Oper} {o : Oper} {a : Act} {w : World} {Q : Exit → Act → World → Prop} (hgd : o.guard = none) (ty : TypeId) (x y : Operand) (ho : o.op = .store ty x y)
    (b : Nat) (cells : Array Value) (hx : a.eval x = .pointer (some ⟨b, 0, none⟩)) (hy : a.eval y = .agg cells) (T : TypeId) (cur : Array Value) (hX : Bx T w b cur) (hs : cur.size = cells.size)
    (hi : (P.info? ty).map (·.size) = some cells.size) (h1 : cells.all (·.oneCell') = true) (h : ∀ w', Put T w b cells w' → wpList P ops Q rest (a.put o.dst undef) w') : wpList P ops Q (o :: rest) a w := by
  refine wpList_store_mid hgd ty x y ho b 0 cells hx hy (there_of hX (by omega)) hi h1 ?_
  rw [cells_row (P := P) hX hs h1]
  exact h _ (put_row hX)
theorem list_load {P : Program} {ops : Array Oper} {rest : List Oper} {o : Oper} {a : Act} {w : World} {Q : Exit → Act → World → Prop} (hgd : o.guard = none) (ty : TypeId) (x : Operand) (ho : o.op = .load ty x)
    (b : Nat) (hx : a.eval x = .pointer (some ⟨b, 0, none⟩)) (T : TypeId) (cur : Array Value) (hX : Bx T w b cur) {d : TypeDesc} (hu : P.underlying ty = some d) (hd : d.isRow = true) (hi : (P.info? ty).map (·.size) = some cur.size)
    (h : wpList P ops Q rest (a.put o.dst (.agg cur)) w) : wpList P ops Q (o :: rest) a w := by
  refine wpList_load_mid hgd ty x ho b 0 hx cur.toList d (range_of hX) hu hd (by simpa using hi) ?_
  simpa using h
/-- A whole variable loaded, in a region that draws its order; a part of it. -/
theorem step_load {P : Program} {ops : Array Oper} {ts : Array Value} {o : Oper} {a : Act} {w : World} {K : Act → World → Prop} {Q : Exit → Act → World → Prop} {E : Prop} (hgd : o.guard = none) (ty : TypeId) (x : Operand) (ho : o.op = .load ty x)
    (b : Nat) (hx : a.eval x = .pointer (some ⟨b, 0, none⟩)) (T : TypeId) (cur : Array Value) (hX : Bx T w b cur) {d : TypeDesc} (hu : P.underlying ty = some d) (hd : d.isRow = true) (hi : (P.info? ty).map (·.size) = some cur.size)
    (h : K (a.put o.dst (.agg cur)) w) : if Region.wanted o (yielded ops ts) = true then Oper.wp P o a w K Q else E := by
  have hw : Region.wanted o (yielded ops ts) = true := by simp [Region.wanted, hgd]
  rw [if_pos hw]
  refine wp_load_mid ty x ho b 0 hx cur.toList d (range_of hX) hu hd (by simpa using hi) ?_
  simpa using h
theorem range_part {T : TypeId} {w : World} {b : Nat} {cur : Array Value} (hX : Bx T w b cur) (off : Nat) (cs : List Value) (he : cs = (cur.toList.drop off).take cs.length) : w.rangeAt b off cs := fun j v hj => by
  rw [hX.cell]
  rw [he] at hj
  rw [List.getElem?_take] at hj
  split at hj
  · rw [List.getElem?_drop] at hj; simpa using hj
  · cases hj
theorem step_part {P : Program} {ops : Array Oper} {ts : Array Value} {o : Oper} {a : Act} {w : World} {K : Act → World → Prop} {Q : Exit → Act → World → Prop} {E : Prop} (hgd : o.guard = none) (ty : TypeId) (x : Operand) (ho : o.op = .load ty x)
    (b off : Nat) (cs : List Value) (hx : a.eval x = .pointer (some ⟨b, off, none⟩)) (T : TypeId) (cur : Array Value) (hX : Bx T w b cur) (he : cs = (cur.toList.drop off).take cs.length) {d : TypeDesc} (hu : P.underlying ty = some d) (hd : d.isRow = true) (hi : (P.info? ty).map (·.size) = some cs.length)
    (h : K (a.put o.dst (.agg cs.toArray)) w) : if Region.wanted o (yielded ops ts) = true then Oper.wp P o a w K Q else E := by
  have hw : Region.wanted o (yielded ops ts) = true := by simp [Region.wanted, hgd]
  rw [if_pos hw]
  exact wp_load_mid ty x ho b off hx cs d (range_part hX off cs he) hu hd hi h
/-- A whole variable handed back. -/
theorem back {P : Program} {w : World} {b : Nat} {ty T : TypeId} {cur : Array Value} {d : TypeDesc} (hX : Bx T w b cur) (hu : P.underlying ty = some d) (hd : d.isRow = true) (hi : (P.info? ty).map (·.size) = some cur.size) :
    ((asAddr (.pointer (some ⟨b, 0, none⟩))).run P w).andThen (fun a w₁ => (loadVar ty a).run P w₁) = .ok (.agg cur) w := by
  have := run_loadVar_mid w b 0 ty cur.toList d (range_of hX) hu hd (by simpa using hi)
  rw [Array.toArray_toList] at this
  exact this
theorem back2 {P : Program} {w : World} {b : Nat} {ty T : TypeId} {cur : Array Value} {d : TypeDesc} (hX : Bx T w b cur) (hu : P.underlying ty = some d) (hd : d.isRow = true) (hi : (P.info? ty).map (·.size) = some cur.size) (x : Value) :
    ((asAddr (.pointer (some ⟨b, 0, none⟩))).run P w).andThen (fun a w₁ => ((loadVar ty a).run P w₁).andThen fun v w₂ => Result.ok (Value.tuple #[v, x]) w₂) = Result.ok (Value.tuple #[.agg cur, x]) w := by
  have h := back hX hu hd hi
  have e : ((asAddr (.pointer (some ⟨b, 0, none⟩))).run P w).andThen (fun a w₁ => ((loadVar ty a).run P w₁).andThen fun v w₂ => Result.ok (Value.tuple #[v, x]) w₂) = (((asAddr (.pointer (some ⟨b, 0, none⟩))).run P w).andThen (fun a w₁ => (loadVar ty a).run P w₁)).andThen fun v w₂ => Result.ok (Value.tuple #[v, x]) w₂ := by
    cases (asAddr (.pointer (some ⟨b, 0, none⟩))).run P w <;> rfl
  rw [e, h]
  rfl
/-- A variable that the region makes: where it lies, and what it holds. -/
def mk (T : TypeId) (B : Nat) (cs : Array Value) : reg.Stay reg.Bel := ⟨fun v w => ∃ p, v = .pointer (some ⟨p, 0, none⟩) ∧ B < p ∧ Bx T w p cs, fun v w w' ⟨p, h1, h2, h3⟩ hb => ⟨p, h1, h2, h3.below hb⟩⟩
/-- 'clear' of a slice of one element of many cells. -/
theorem run_clear_one {P : Program} (w : World) (t e ty : TypeId) (zs : Array Value) (ht : P.underlying t = some (.slice e)) (hv : ∀ w, (zeroValue e).run P w = .ok (.agg zs) w) (h1 : zs.all (·.oneCell') = true) (b c : Nat) (T : TypeId) (cur : Array Value) (hX : Bx T w b cur) (hs : cur.size = zs.size) (hz : 0 < zs.size) :
    (Builtin.clear_ #[t] ty #[.slice (some ⟨b, 0, none⟩) 1 c]).run P w = .ok (.tuple #[]) (w.setRow b zs) := by
  have hzc : (Builtin.zeroCells zs 1).toList = zs.toList := by
    simp [Builtin.zeroCells]
    apply List.ext_getElem
    · simp
    · intro i g1 g2
      simp at g1
      have : i < zs.size := by simpa using g2
      simp [Nat.mod_eq_of_lt this]
      exact getElem!_pos zs i this
  have h2 := run_storeCells_cells (P := P) b 0 zs.toList 0 w (fun j hj => by rw [show 0 + 0 + j = j by omega, hX.cell j]; simp at hj; simp; omega) (fun j hj => by rw [show 0 + 0 + j = j by omega]; exact hX.free j)
    (fun v hv => (Array.all_eq_true_iff_forall_mem.1 h1) v (by simpa using hv))
  simp only [Nat.add_zero] at h2
  rw [cells_row (P := P) hX hs h1] at h2
  simp [Builtin.clear_, run_underlying ht, hv, Value.cells, hzc, h2]
end Go.Proofs.Ytbkdbdhbmabgcaa.stw
end

section
namespace Go.Proofs.Ytbkdbdhbmabgcaa.stw
open Go.RowKit sl harn bx draw drk
set_option linter.unusedVariables false

/-- What a store leaves, and where. -/
structure Tgt where
  T : TypeId
  b : Nat
  cs : Array Value
section
variable (D : World → World → Prop) (ts : List (Nat × Tgt))
/-- Operation i: a store that is listed, or what the relation D allows. -/
def E3 (i : Nat) (w w' : World) : Prop := match ts.lookup i with
  | some t => Put t.T w t.b t.cs w'
  | none => D w w'
structure St3 where
  q : Value → World → Prop
  h1 : ∀ v w w', q v w → D w w' → q v w'
  h2 : ∀ v w w' x, x ∈ ts → q v w → Put x.2.T w x.2.b x.2.cs w' → q v w'
def is3 (x : Value) : St3 D ts := ⟨fun v _ => v = x, fun _ _ _ h _ => h, fun _ _ _ _ _ h _ => h⟩
def val3 (p : Value → Prop) : St3 D ts := ⟨fun v _ => p v, fun _ _ _ h _ => h, fun _ _ _ _ _ h _ => h⟩
/-- A block that the region makes. -/
def blk3 (kp : Nat → Prop) (hD : ∀ {w w' : World} {T : TypeId} {b : Nat} {cs : Array Value}, D w w' → kp b → Bx T w b cs → Bx T w' b cs) (f : Nat → Value) (T : TypeId) (cs : Array Value) : St3 D ts :=
  ⟨fun v w => ∃ N, v = f N ∧ kp N ∧ (∀ x ∈ ts, x.2.b ≠ N) ∧ Bx T w N cs, fun v w w' ⟨N, h1, h2, h3, h4⟩ h => ⟨N, h1, h2, h3, hD h h2 h4⟩, fun v w w' x hx ⟨N, h1, h2, h3, h4⟩ h => ⟨N, h1, h2, h3, h.keep h4 (fun e => h3 x hx e.symm)⟩⟩
def r3 (l : List (St3 D ts)) (j : Nat) (v : Value) (w : World) : Prop := match ts.lookup j with
  | some t => Bx t.T w t.b t.cs
  | none => (l.getD j (val3 D ts fun _ => True)).q v w
end
section
variable {D : World → World → Prop} {ts : List (Nat × Tgt)}
theorem lookup_mem : ∀ {ts : List (Nat × Tgt)} {i : Nat} {t : Tgt}, ts.lookup i = some t → (i, t) ∈ ts
  | (k, u) :: l, i, t, h => by
    rw [List.lookup_cons] at h
    split at h
    · rename_i he
      have e : i = k := by simpa using he
      rw [e, Option.some.inj h]
      exact List.mem_cons_self
    · exact List.mem_cons_of_mem _ (lookup_mem h)
theorem r3_keep (kp : Nat → Prop) (hD : ∀ {w w' : World} {T : TypeId} {b : Nat} {cs : Array Value}, D w w' → kp b → Bx T w b cs → Bx T w' b cs) (hp : ∀ x ∈ ts, kp x.2.b) (hd : ∀ x ∈ ts, ∀ y ∈ ts, x.1 ≠ y.1 → x.2.b ≠ y.2.b) (l : List (St3 D ts))
    (i j : Nat) (v : Value) (w w' : World) (hij : i ≠ j) (h : r3 D ts l j v w) (he : E3 D ts i w w') : r3 D ts l j v w' := by
  unfold r3 at h ⊢
  unfold E3 at he
  cases hj : ts.lookup j with
  | some t =>
    rw [hj] at h
    simp only at h ⊢
    cases hi : ts.lookup i with
    | some u =>
      rw [hi] at he
      exact Put.keep he h (hd _ (lookup_mem hj) _ (lookup_mem hi) (fun e => hij e.symm))
    | none => rw [hi] at he; exact hD he (hp _ (lookup_mem hj)) h
  | none =>
    rw [hj] at h
    simp only at h ⊢
    cases hi : ts.lookup i with
    | some u => rw [hi] at he; exact (l.getD j (val3 D ts fun _ => True)).h2 v w w' _ (lookup_mem hi) h he
    | none => rw [hi] at he; exact (l.getD j (val3 D ts fun _ => True)).h1 v w w' h he
theorem r3_ne {l : List (St3 D ts)} {j : Nat} {v : Value} {w : World} (hj : ts.lookup j = none) (h : (l.getD j (val3 D ts fun _ => True)).q v w) : r3 D ts l j v w := by
  unfold r3; rw [hj]; exact h
theorem r3_out {l : List (St3 D ts)} {j : Nat} {v : Value} {w : World} (hj : ts.lookup j = none) (h : r3 D ts l j v w) : (l.getD j (val3 D ts fun _ => True)).q v w := by
  unfold r3 at h; rw [hj] at h; exact h
theorem r3_put {l : List (St3 D ts)} {j : Nat} {v : Value} {w : World} {t : Tgt} (hj : ts.lookup j = some t) (h : Bx t.T w t.b t.cs) : r3 D ts l j v w := by
  unfold r3; rw [hj]; exact h
theorem r3_got {l : List (St3 D ts)} {j : Nat} {v : Value} {w : World} {t : Tgt} (hj : ts.lookup j = some t) (h : r3 D ts l j v w) : Bx t.T w t.b t.cs := by
  unfold r3 at h; rw [hj] at h; exact h
theorem e3_ne {i : Nat} {w w' : World} (hi : ts.lookup i = none) (h : D w w') : E3 D ts i w w' := by unfold E3; rw [hi]; exact h
theorem e3_put {i : Nat} {w w' : World} {t : Tgt} (hi : ts.lookup i = some t) (h : Put t.T w t.b t.cs w') : E3 D ts i w w' := by unfold E3; rw [hi]; exact h
theorem E3.cases {i : Nat} {w w' : World} {X : Prop} (h : E3 D ts i w w') (h1 : D w w' → X) (h2 : ∀ x ∈ ts, Put x.2.T w x.2.b x.2.cs w' → X) : X := by
  unfold E3 at h
  cases hi : ts.lookup i with
  | some u => rw [hi] at h; exact h2 _ (lookup_mem hi) h
  | none => rw [hi] at h; exact h1 h
end
/-- A variable lies there, whatever it holds. -/
def Lies (T : TypeId) (b n : Nat) (w : World) : Prop := ∃ cs, cs.size = n ∧ Bx T w b cs
theorem Lies.of {T : TypeId} {w : World} {b : Nat} {cs : Array Value} (h : Bx T w b cs) : Lies T b cs.size w := ⟨cs, rfl, h⟩
theorem Lies.same {T : TypeId} {b n : Nat} {w w' : World} (h : Lies T b n w) (hb : w'.heap[b]? = w.heap[b]?) : Lies T b n w' := by
  obtain ⟨cs, h1, h2⟩ := h; exact ⟨cs, h1, h2.same hb⟩
theorem Lies.lt {T : TypeId} {b n : Nat} {w : World} (h : Lies T b n w) : b < w.heap.size := by
  obtain ⟨cs, h1, h2⟩ := h; exact h2.lt
theorem Lies.put {T U : TypeId} {b c n : Nat} {w w' : World} {cs : Array Value} (h : Lies T b n w) (hp : Put U w c cs w') (he : c = b → U = T ∧ cs.size = n) : Lies T b n w' := by
  by_cases hc : c = b
  · obtain ⟨e1, e2⟩ := he hc
    subst hc e1
    exact ⟨cs, e2, hp.box⟩
  · exact h.same (hp.other b (fun e => hc e.symm))
/-- Of what was there only listed blocks may have been written. -/
structure KS (S : List Nat) (w w' : World) : Prop where
  os : w'.os = w.os
  tape : w'.tape = w.tape
  output : w'.output = w.output
  size : w.heap.size ≤ w'.heap.size
  block : ∀ k, k < w.heap.size → k ∉ S → w'.heap[k]? = w.heap[k]?
theorem KS.refl (S : List Nat) (w : World) : KS S w w := ⟨rfl, rfl, rfl, Nat.le_refl _, fun _ _ _ => rfl⟩
theorem KS.trans {S : List Nat} {a b c : World} (h : KS S a b) (g : KS S b c) : KS S a c :=
  ⟨g.os.trans h.os, g.tape.trans h.tape, g.output.trans h.output, Nat.le_trans h.size g.size, fun k h1 h2 => (g.block k (Nat.lt_of_lt_of_le h1 h.size) h2).trans (h.block k h1 h2)⟩
theorem KS.keep {S : List Nat} {p : Nat} {w w' : World} (h : Keep p w w') (hp : p ∈ S) : KS S w w' := ⟨h.os, h.tape, h.output, h.size, fun k h1 h2 => h.block k h1 (fun e => h2 (e ▸ hp))⟩
theorem KS.put {S : List Nat} {T : TypeId} {w w' : World} {b : Nat} {cs : Array Value} (h : Put T w b cs w') (hb : b ∈ S) : KS S w w' :=
  ⟨h.below.os, h.below.tape, h.below.output, h.below.size, fun k _ h2 => h.other k (fun e => h2 (e ▸ hb))⟩
theorem KS.below {S : List Nat} {w w' : World} {B : Nat} (h : KS S w w') (hS : ∀ x ∈ S, B ≤ x) (hB : B ≤ w.heap.size) : Below B w w' :=
  ⟨h.os, h.tape, h.output, h.size, fun k hk => h.block k (by omega) (fun hm => by have := hS k hm; omega)⟩
/-- The cursor behind a store beside it. -/
theorem cur_put {T : TypeId} {w0 w w' : World} {p q b : Nat} {A : Option Addr} {len cap : Nat} {cs : Array Value} (hc : draw.Code w0 q A len) (h : Cur w p A len cap) (hp : Put T w b cs w') (hb0 : w0.heap.size ≤ b) (hbp : b ≠ p) : Cur w' p A len cap := by
  obtain ⟨⟨hl, hcode⟩, i, g, hi, hblk⟩ := h
  refine ⟨⟨hl, fun h0 => ?_⟩, i, g, hi, (hp.other p (fun e => hbp e.symm)).trans hblk⟩
  obtain ⟨b1, off, e, hn, hb, hcells⟩ := hcode h0
  obtain ⟨b2, off2, e2, _, hb2, _⟩ := hc.2 h0
  obtain rfl : b1 = b2 := by
    have := e.symm.trans e2
    injection this with this
    injection this
  have hh := hp.other b1 (by omega)
  refine ⟨b1, off, e, hn, Nat.lt_of_lt_of_le hb hp.below.size, fun j hj => ?_⟩
  obtain ⟨z, h1, h2, h3⟩ := hcells j hj
  exact ⟨z, h1, h2, by rw [show w'.cell? ⟨b1, off + j, none⟩ = w.cell? ⟨b1, off + j, none⟩ by simp [World.cell?, hh]]; exact h3⟩
/-- One of some numbers that lie in a block. -/
theorem pickAt (lo hi : Int) (n : Nat) (hn0 : 0 < n) (hn : (n : Int) ≤ 9223372036854775807) (w : World) (p q : Nat) (a : Option Addr) (len cap : Nat) (vs : Array Value) (T : TypeId) (hX : Bx T w q vs) (hq : q ≠ p) (hs : vs.size = n) (ha : vs.toList.all (okInt lo hi) = true) (hc : Cur w p a len cap) :
    Calls Try.prog 51 #[.pointer (some ⟨p, 0, none⟩), .slice (some ⟨q, 0, none⟩) n n] w (IntPost lo hi p a len cap w) := by
  refine (pickInt (fun z => lo ≤ z ∧ z ≤ hi) n hn0 hn _ p q a len cap n ⟨hq, hX.lt, fun i hi => ⟨vs[i]'(by omega), of_okInt (List.all_eq_true.1 ha _ (by simp)), ?_⟩⟩ hc).mono ?_
  · rw [hX.cell i]; simp [show i < vs.size by omega]
  · rintro e w1 ⟨v, rfl, ⟨z, rfl, h1, h2⟩, hk, hc1⟩
    exact ⟨z, rfl, h1, h2, hk, hc1⟩
theorem dr_same {p : Nat} {a : Option Addr} {len cap : Nat} {w : World} (hc : Cur w p a len cap) : Dr p a len cap w w := ⟨Keep.refl p w, hc⟩
theorem dr_below {p : Nat} {a : Option Addr} {len cap : Nat} {w w' : World} (hc : Cur w p a len cap) (hb : Below w.heap.size w w') : Dr p a len cap w w' := ⟨later (Keep.refl p w) (Nat.le_refl _) hb, cur_below hc hb⟩
end Go.Proofs.Ytbkdbdhbmabgcaa.stw
end
