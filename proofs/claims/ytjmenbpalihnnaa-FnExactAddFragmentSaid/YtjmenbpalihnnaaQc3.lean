/- Copies of messages and of queues, program and specification. Condition: bodies up to 2^26 bytes. -/
import Derived.Test.YtjmenbpalihnnaaQh2
import Derived.Test.YtjmenbpalihnnaaMra
import Derived.Test.YtjmenbpalihnnaaUv
namespace Go.Proofs.Ytjmenbpalihnnaa.mq
open Go.RowKit sl harn bx mrw
set_option linter.unusedVariables false
set_option linter.unusedSimpArgs false

theorem x_parts {x : Msg} {w w' : World} {e : Ending} (h : XPost x w e w') : ∃ A n cap, e = .returned (mV x A n cap) ∧ Ow 5 .u8 w' w.heap.size w'.heap.size A n cap x.2.2.2 ∧ Below w.heap.size w w' := h
theorem q_parts {q : List Msg × Int} {w w' : World} {e : Ending} (h : QPost q w e w') : ∃ A n cap es, e = .returned (qV A n cap q.2) ∧ es.map (·.x) = q.1 ∧ Oe msg w' w.heap.size w'.heap.size A n cap es ∧ Below w.heap.size w w' := by
  obtain ⟨A, n, cap, e, ⟨es, h1, h2⟩, h3⟩ := h
  exact ⟨A, n, cap, es, e, h1, h2, h3⟩
theorem copyAll (lo hi : Nat) (A : Option Addr) (n cap : Nat) (zs : List Int) (w : World) (h : Rd .u8 w lo hi A n cap zs) (hn : n ≤ 134217728) :
    Calls Try.prog 75 #[.slice A n cap, .int .i64 0, .int .i64 n] w (SlPost 5 .u8 w zs) := by
  have hh := uvs.copyPart lo hi A n cap zs 0 n w h (by omega) (Nat.le_refl _) hn
  have e : (zs.drop 0).take (n - 0) = zs := by rw [List.drop_zero]; exact List.take_of_length_le (by rw [h.len]; omega)
  rw [e] at hh
  exact hh
set_option maxRecDepth 100000 in
set_option maxHeartbeats 4000000 in
theorem implCm (x : Msg) (A : Option Addr) (n c lo hi : Nat) (w : World) (h : Rd .u8 w lo hi A n c x.2.2.2) (hn : n ≤ 67108864) :
    Calls Try.prog 64 #[mV x A n c] w (XPost x w) := by
  have HR := Lib.hid h
  have HN := Lib.hid hn
  clear h hn
  obtain ⟨w0, hW⟩ : ∃ w0, (w.alloc (.cells #[.int .i64 x.1, .int .i64 x.2.1, .int .i64 x.2.2.1, .slice A n c] 28)).alloc (.cells #[.int .i64 0, .int .i64 0, .int .i64 0, .slice none 0 0] 28) = w0 := ⟨_, rfl⟩
  have B0 := Lib.hid (show Below w.heap.size w w0 by rw [← hW]; exact below_box2 w _ _)
  have X0 := Lib.hid (show Bx 28 w0 w.heap.size #[.int .i64 x.1, .int .i64 x.2.1, .int .i64 x.2.2.1, .slice A n c] by rw [← hW]; exact (Bx.made _ w _).below (below_box _ _))
  have Z0 := Lib.hid (show Bx 28 w0 (w.heap.size + 1) #[.int .i64 0, .int .i64 0, .int .i64 0, .slice none 0 0] by rw [← hW]; have hh := Bx.made 28 (w.alloc (.cells #[.int .i64 x.1, .int .i64 x.2.1, .int .i64 x.2.2.1, .slice A n c] 28)) #[.int .i64 0, .int .i64 0, .int .i64 0, .slice none 0 0]; simpa using hh)
  have R0 := Lib.hid (HR.out.below B0.out)
  have HW := Lib.hid hW
  clear hW HR
  go_enter Try.func64, Try.ntmps64
  go_wp2_with fail
  rw [HW.out]
  (with_reducible refine (copyAll _ _ A n c x.2.2.2 _ R0.out (by have := HN.out; omega)).mono ?_)
  rintro e w1 ⟨A1, n1, c1, rfl, ho, hb⟩
  have O1 := Lib.hid ho
  have B1 := Lib.hid (B0.out.trans (hb.mono B0.out.size))
  have X1 := Lib.hid (X0.out.below hb)
  have Z1 := Lib.hid (Z0.out.below hb)
  have L1 := Lib.hid (show w.heap.size + 1 < w0.heap.size from Z0.out.lt)
  clear ho hb B0 X0 Z0 R0 HW
  have x0 : w1.cell? ⟨w.heap.size, 0, none⟩ = some (.int .i64 x.1) := X1.out.cell 0
  have x1 : w1.cell? ⟨w.heap.size, 1, none⟩ = some (.int .i64 x.2.1) := X1.out.cell 1
  have x2 : w1.cell? ⟨w.heap.size, 2, none⟩ = some (.int .i64 x.2.2.1) := X1.out.cell 2
  have x3 : w1.cell? ⟨w.heap.size, 3, none⟩ = some (.slice A n c) := X1.out.cell 3
  have fx : w1.frozen? ⟨w.heap.size, 3, none⟩ = false := X1.out.free 3
  have y0 : w1.cell? ⟨w.heap.size + 1, 0, none⟩ = some (.int .i64 0) := Z1.out.cell 0
  have fy0 : w1.frozen? ⟨w.heap.size + 1, 0, none⟩ = false := Z1.out.free 0
  have y1 : w1.cell? ⟨w.heap.size + 1, 1, none⟩ = some (.int .i64 0) := Z1.out.cell 1
  have fy1 : w1.frozen? ⟨w.heap.size + 1, 1, none⟩ = false := Z1.out.free 1
  have y2 : w1.cell? ⟨w.heap.size + 1, 2, none⟩ = some (.int .i64 0) := Z1.out.cell 2
  have fy2 : w1.frozen? ⟨w.heap.size + 1, 2, none⟩ = false := Z1.out.free 2
  have y3 : w1.cell? ⟨w.heap.size + 1, 3, none⟩ = some (.slice none 0 0) := Z1.out.cell 3
  have fy3 : w1.frozen? ⟨w.heap.size + 1, 3, none⟩ = false := Z1.out.free 3
  go_wp2_with fail
  (try simp only [Exit.inBlock, Exit.then])
  refine bodyPost_ret (v := mV x A1 n1 c1) ?_ rfl ?_
  · rw [results_cell1 rfl]
    go_simp
  · refine ⟨A1, n1, c1, rfl, ?_, ?_⟩
    · exact ((O1.out).same (by simp [World.setCell]) (fun b h1 _ => by have := L1.out; rw [Below.heap_setCell _ _ _ _ (show b ≠ w.heap.size + 1 by omega), Below.heap_setCell _ _ _ _ (show b ≠ w.heap.size + 1 by omega), Below.heap_setCell _ _ _ _ (show b ≠ w.heap.size + 1 by omega), Below.heap_setCell _ _ _ _ (show b ≠ w.heap.size + 1 by omega), Below.heap_setCell _ _ _ _ (show b ≠ w.heap.size by omega)])).up.down (by have := L1.out; omega)
    · exact (((((B1.out.setCell (p := ⟨w.heap.size, 3, none⟩) (by show w.heap.size ≤ w.heap.size; omega) _).setCell (p := ⟨w.heap.size + 1, 0, none⟩) (by show w.heap.size ≤ w.heap.size + 1; omega) _).setCell (p := ⟨w.heap.size + 1, 1, none⟩) (by show w.heap.size ≤ w.heap.size + 1; omega) _).setCell (p := ⟨w.heap.size + 1, 2, none⟩) (by show w.heap.size ≤ w.heap.size + 1; omega) _).setCell (p := ⟨w.heap.size + 1, 3, none⟩) (by show w.heap.size ≤ w.heap.size + 1; omega) _)
set_option maxRecDepth 100000 in
set_option maxHeartbeats 4000000 in
theorem specCm (x : Msg) (A : Option Addr) (n c lo hi : Nat) (w : World) (h : Rd .u8 w lo hi A n c x.2.2.2) (hn : n ≤ 67108864) :
    Calls Try.prog 110 #[mV x A n c] w (XPost x w) := by
  obtain ⟨i0, hi0, hz0, hz1, hz2⟩ := info_parts u8Info
  have HZ := Lib.hid (And.intro hi0 (And.intro hz0 (And.intro hz1 hz2)))
  clear hi0 hz0 hz1 hz2
  have HR := Lib.hid h
  have HN := Lib.hid hn
  clear h hn
  obtain ⟨w0, hW⟩ : ∃ w0, (w.alloc (.cells #[.int .i64 x.1, .int .i64 x.2.1, .int .i64 x.2.2.1, .slice A n c] 28)).alloc (.cells #[.int .i64 0, .int .i64 0, .int .i64 0, .slice none 0 0] 28) = w0 := ⟨_, rfl⟩
  have B0 := Lib.hid (show Below w.heap.size w w0 by rw [← hW]; exact below_box2 w _ _)
  have X0 := Lib.hid (show Bx 28 w0 w.heap.size #[.int .i64 x.1, .int .i64 x.2.1, .int .i64 x.2.2.1, .slice A n c] by rw [← hW]; exact (Bx.made _ w _).below (below_box _ _))
  have Z0 := Lib.hid (show Bx 28 w0 (w.heap.size + 1) #[.int .i64 0, .int .i64 0, .int .i64 0, .slice none 0 0] by rw [← hW]; have hh := Bx.made 28 (w.alloc (.cells #[.int .i64 x.1, .int .i64 x.2.1, .int .i64 x.2.2.1, .slice A n c] 28)) #[.int .i64 0, .int .i64 0, .int .i64 0, .slice none 0 0]; simpa using hh)
  have R0 := Lib.hid (HR.out.below B0.out)
  have HW := Lib.hid hW
  clear hW HR
  have BE := Lib.hid (below_box w0 (.cells #[] 5))
  have L1 := Lib.hid (show w.heap.size + 1 < w0.heap.size from Z0.out.lt)
  have p3 : (w0.alloc (.cells #[] 5)).cell? ⟨w.heap.size, 3, none⟩ = some (.slice A n c) := (X0.out.below BE.out).cell 3
  go_enter Try.func110, Try.ntmps110
  go_upto_region 1 with fail
  rw [HW.out]
  go_wp2_with (at_builtin; refine wpList_app _ rfl _ _ 22 rfl 5 i0 _ .u8 Try.underlying22 HZ.out.1 HZ.out.2.1 HZ.out.2.2.1 (by rw [HZ.out.2.2.2]; omega) rfl rfl rfl (Ow.empty _ _ _) (R0.out.alloc _) (by have := HN.out; omega) (by simp) ?_; intro A1 c1 w1 ho hb1; have O1 := Lib.hid (show Ow 5 .u8 w1 w0.heap.size w1.heap.size A1 n c1 x.2.2.2 by simpa using ho); have BB := Lib.hid (BE.out.trans hb1); have B1 := Lib.hid (B0.out.trans (BB.out.mono B0.out.size)); have X1 := Lib.hid (X0.out.below BB.out); have Z1 := Lib.hid (Z0.out.below BB.out); clear ho hb1 p3; rw [Nat.zero_add]; have x0 : w1.cell? ⟨w.heap.size, 0, none⟩ = some (.int .i64 x.1) := X1.out.cell 0; have x1 : w1.cell? ⟨w.heap.size, 1, none⟩ = some (.int .i64 x.2.1) := X1.out.cell 1; have x2 : w1.cell? ⟨w.heap.size, 2, none⟩ = some (.int .i64 x.2.2.1) := X1.out.cell 2; have x3 : w1.cell? ⟨w.heap.size, 3, none⟩ = some (.slice A n c) := X1.out.cell 3; have fx : w1.frozen? ⟨w.heap.size, 3, none⟩ = false := X1.out.free 3; have y0 : w1.cell? ⟨w.heap.size + 1, 0, none⟩ = some (.int .i64 0) := Z1.out.cell 0; have fy0 : w1.frozen? ⟨w.heap.size + 1, 0, none⟩ = false := Z1.out.free 0; have y1 : w1.cell? ⟨w.heap.size + 1, 1, none⟩ = some (.int .i64 0) := Z1.out.cell 1; have fy1 : w1.frozen? ⟨w.heap.size + 1, 1, none⟩ = false := Z1.out.free 1; have y2 : w1.cell? ⟨w.heap.size + 1, 2, none⟩ = some (.int .i64 0) := Z1.out.cell 2; have fy2 : w1.frozen? ⟨w.heap.size + 1, 2, none⟩ = false := Z1.out.free 2; have y3 : w1.cell? ⟨w.heap.size + 1, 3, none⟩ = some (.slice none 0 0) := Z1.out.cell 3; have fy3 : w1.frozen? ⟨w.heap.size + 1, 3, none⟩ = false := Z1.out.free 3)
  (try simp only [Exit.inBlock, Exit.then])
  refine bodyPost_ret (v := mV x A1 n c1) ?_ rfl ?_
  · rw [results_cell1 rfl]
    go_simp
  · refine ⟨A1, n, c1, rfl, ?_, ?_⟩
    · exact ((O1.out).same (by simp [World.setCell]) (fun b h1 _ => by have := L1.out; rw [Below.heap_setCell _ _ _ _ (show b ≠ w.heap.size + 1 by omega), Below.heap_setCell _ _ _ _ (show b ≠ w.heap.size + 1 by omega), Below.heap_setCell _ _ _ _ (show b ≠ w.heap.size + 1 by omega), Below.heap_setCell _ _ _ _ (show b ≠ w.heap.size + 1 by omega), Below.heap_setCell _ _ _ _ (show b ≠ w.heap.size by omega)])).up.down (by have := L1.out; omega)
    · exact (((((B1.out.setCell (p := ⟨w.heap.size, 3, none⟩) (by show w.heap.size ≤ w.heap.size; omega) _).setCell (p := ⟨w.heap.size + 1, 0, none⟩) (by show w.heap.size ≤ w.heap.size + 1; omega) _).setCell (p := ⟨w.heap.size + 1, 1, none⟩) (by show w.heap.size ≤ w.heap.size + 1; omega) _).setCell (p := ⟨w.heap.size + 1, 2, none⟩) (by show w.heap.size ≤ w.heap.size + 1; omega) _).setCell (p := ⟨w.heap.size + 1, 3, none⟩) (by show w.heap.size ≤ w.heap.size + 1; omega) _)
end Go.Proofs.Ytjmenbpalihnnaa.mq
