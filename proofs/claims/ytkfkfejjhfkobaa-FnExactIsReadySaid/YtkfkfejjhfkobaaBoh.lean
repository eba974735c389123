/- The harness over a backoff: blocks of nine integers, copy and comparison. Condition: none. -/
import Derived.Test.YtkfkfejjhfkobaaBo2
import Derived.Test.YtkfkfejjhfkobaaAc4
import Derived.Test.YtkfkfejjhfkobaaAch
import Derived.Deep.Cut
namespace Go.Proofs.Ytkfkfejjhfkobaa.boh
open Go.RowKit sl harn bx stw
set_option linter.unusedVariables false

theorem below_box (w : World) (o : Obj) : Below w.heap.size w (w.alloc o) := bx.below_box w o
theorem below_box2 (w : World) (o o' : Obj) : Below w.heap.size w ((w.alloc o).alloc o') := bx.below_box2 w o o'
def LBox (w : World) (p : Nat) (a b c d x t j r n : Int) : Prop := Bx 34 w p #[.int .i64 a, .int .i64 b, .int .i64 c, .int .i64 d, .int .i64 x, .int .i64 t, .int .i64 j, .int .i64 r, .int .i64 n]
section
variable {w w' : World} {p : Nat} {a b c d x t j r n : Int}
theorem LBox.c0 (h : LBox w p a b c d x t j r n) : w.cell? ⟨p, 0, none⟩ = some (.int .i64 a) := Bx.cell h 0
theorem LBox.c1 (h : LBox w p a b c d x t j r n) : w.cell? ⟨p, 1, none⟩ = some (.int .i64 b) := Bx.cell h 1
theorem LBox.c2 (h : LBox w p a b c d x t j r n) : w.cell? ⟨p, 2, none⟩ = some (.int .i64 c) := Bx.cell h 2
theorem LBox.c3 (h : LBox w p a b c d x t j r n) : w.cell? ⟨p, 3, none⟩ = some (.int .i64 d) := Bx.cell h 3
theorem LBox.c4 (h : LBox w p a b c d x t j r n) : w.cell? ⟨p, 4, none⟩ = some (.int .i64 x) := Bx.cell h 4
theorem LBox.c5 (h : LBox w p a b c d x t j r n) : w.cell? ⟨p, 5, none⟩ = some (.int .i64 t) := Bx.cell h 5
theorem LBox.c6 (h : LBox w p a b c d x t j r n) : w.cell? ⟨p, 6, none⟩ = some (.int .i64 j) := Bx.cell h 6
theorem LBox.c7 (h : LBox w p a b c d x t j r n) : w.cell? ⟨p, 7, none⟩ = some (.int .i64 r) := Bx.cell h 7
theorem LBox.c8 (h : LBox w p a b c d x t j r n) : w.cell? ⟨p, 8, none⟩ = some (.int .i64 n) := Bx.cell h 8
theorem LBox.lt (h : LBox w p a b c d x t j r n) : p < w.heap.size := Bx.lt h
theorem LBox.below (h : LBox w p a b c d x t j r n) (hb : Below w.heap.size w w') : LBox w' p a b c d x t j r n := Bx.below h hb
theorem LBox.tch {lo hi : Nat} (h : LBox w p a b c d x t j r n) (hb : Tch lo hi w w') (hd : p < lo ∨ hi ≤ p) : LBox w' p a b c d x t j r n := Bx.tch h hb hd
theorem LBox.made (w : World) (a b c d x t j r n : Int) : LBox (w.alloc (.cells #[.int .i64 a, .int .i64 b, .int .i64 c, .int .i64 d, .int .i64 x, .int .i64 t, .int .i64 j, .int .i64 r, .int .i64 n] 34)) w.heap.size a b c d x t j r n := Bx.made _ w _
end
def Box (w : World) (p : Nat) (a b c d x t j r n : Int) : Prop := Bx 27 w p #[.int .i64 a, .int .i64 b, .int .i64 c, .int .i64 d, .int .i64 x, .int .i64 t, .int .i64 j, .int .i64 r, .int .i64 n]
section
variable {w w' : World} {p : Nat} {a b c d x t j r n : Int}
theorem Box.c0 (h : Box w p a b c d x t j r n) : w.cell? ⟨p, 0, none⟩ = some (.int .i64 a) := Bx.cell h 0
theorem Box.c1 (h : Box w p a b c d x t j r n) : w.cell? ⟨p, 1, none⟩ = some (.int .i64 b) := Bx.cell h 1
theorem Box.c2 (h : Box w p a b c d x t j r n) : w.cell? ⟨p, 2, none⟩ = some (.int .i64 c) := Bx.cell h 2
theorem Box.c3 (h : Box w p a b c d x t j r n) : w.cell? ⟨p, 3, none⟩ = some (.int .i64 d) := Bx.cell h 3
theorem Box.c4 (h : Box w p a b c d x t j r n) : w.cell? ⟨p, 4, none⟩ = some (.int .i64 x) := Bx.cell h 4
theorem Box.c5 (h : Box w p a b c d x t j r n) : w.cell? ⟨p, 5, none⟩ = some (.int .i64 t) := Bx.cell h 5
theorem Box.c6 (h : Box w p a b c d x t j r n) : w.cell? ⟨p, 6, none⟩ = some (.int .i64 j) := Bx.cell h 6
theorem Box.c7 (h : Box w p a b c d x t j r n) : w.cell? ⟨p, 7, none⟩ = some (.int .i64 r) := Bx.cell h 7
theorem Box.c8 (h : Box w p a b c d x t j r n) : w.cell? ⟨p, 8, none⟩ = some (.int .i64 n) := Bx.cell h 8
theorem Box.lt (h : Box w p a b c d x t j r n) : p < w.heap.size := Bx.lt h
theorem Box.below (h : Box w p a b c d x t j r n) (hb : Below w.heap.size w w') : Box w' p a b c d x t j r n := Bx.below h hb
theorem Box.tch {lo hi : Nat} (h : Box w p a b c d x t j r n) (hb : Tch lo hi w w') (hd : p < lo ∨ hi ≤ p) : Box w' p a b c d x t j r n := Bx.tch h hb hd
theorem Box.made (w : World) (a b c d x t j r n : Int) : Box (w.alloc (.cells #[.int .i64 a, .int .i64 b, .int .i64 c, .int .i64 d, .int .i64 x, .int .i64 t, .int .i64 j, .int .i64 r, .int .i64 n] 27)) w.heap.size a b c d x t j r n := Bx.made _ w _
end
set_option maxRecDepth 100000 in
set_option maxHeartbeats 4000000 in
theorem toBo (a b c d x t j r n : Int) (w : World) :
    Calls Try.prog 18 #[.agg #[.int .i64 a, .int .i64 b, .int .i64 c, .int .i64 d, .int .i64 x, .int .i64 t, .int .i64 j, .int .i64 r, .int .i64 n]] w fun e w' => e = .returned (.agg #[.int .i64 a, .int .i64 b, .int .i64 c, .int .i64 d, .int .i64 x, .int .i64 t, .int .i64 j, .int .i64 r, .int .i64 n]) ∧ Below w.heap.size w w' := by
  go_enter Try.func18, Try.ntmps18
  go_wp2_with fail
  obtain ⟨w0, hW⟩ : ∃ w0, ((w.alloc (.cells #[.int .i64 a, .int .i64 b, .int .i64 c, .int .i64 d, .int .i64 x, .int .i64 t, .int .i64 j, .int .i64 r, .int .i64 n] 34)).alloc (.cells #[.int .i64 0, .int .i64 0, .int .i64 0, .int .i64 0, .int .i64 0, .int .i64 0, .int .i64 0, .int .i64 0, .int .i64 0] 27)).alloc (.cells #[.int .i64 0, .int .i64 0, .int .i64 0, .int .i64 0, .int .i64 0, .int .i64 0, .int .i64 0, .int .i64 0, .int .i64 0] 27) = w0 := ⟨_, rfl⟩
  rw [hW]
  have B0 := Lib.hid (show Below w.heap.size w w0 by rw [← hW]; exact (((Below.refl _ _).alloc (by simp <;> omega) _).alloc (by simp <;> omega) _).alloc (by simp <;> omega) _)
  have X0 := Lib.hid (show Bx 34 w0 (w.heap.size) #[.int .i64 a, .int .i64 b, .int .i64 c, .int .i64 d, .int .i64 x, .int .i64 t, .int .i64 j, .int .i64 r, .int .i64 n] by
    rw [← hW]
    have hh := Bx.made 34 w #[.int .i64 a, .int .i64 b, .int .i64 c, .int .i64 d, .int .i64 x, .int .i64 t, .int .i64 j, .int .i64 r, .int .i64 n]
    exact ((hh.below (below_box _ _)).below (below_box _ _)))
  have Z0 := Lib.hid (show Bx 27 w0 (w.heap.size + 1) #[.int .i64 0, .int .i64 0, .int .i64 0, .int .i64 0, .int .i64 0, .int .i64 0, .int .i64 0, .int .i64 0, .int .i64 0] by
    rw [← hW]
    have hh : Bx 27 ((w.alloc (.cells #[.int .i64 a, .int .i64 b, .int .i64 c, .int .i64 d, .int .i64 x, .int .i64 t, .int .i64 j, .int .i64 r, .int .i64 n] 34)).alloc (.cells #[.int .i64 0, .int .i64 0, .int .i64 0, .int .i64 0, .int .i64 0, .int .i64 0, .int .i64 0, .int .i64 0, .int .i64 0] 27)) (w.heap.size + 1) #[.int .i64 0, .int .i64 0, .int .i64 0, .int .i64 0, .int .i64 0, .int .i64 0, .int .i64 0, .int .i64 0, .int .i64 0] := by have hh := Bx.made 27 (w.alloc (.cells #[.int .i64 a, .int .i64 b, .int .i64 c, .int .i64 d, .int .i64 x, .int .i64 t, .int .i64 j, .int .i64 r, .int .i64 n] 34)) #[.int .i64 0, .int .i64 0, .int .i64 0, .int .i64 0, .int .i64 0, .int .i64 0, .int .i64 0, .int .i64 0, .int .i64 0]; simpa using hh
    exact (hh.below (below_box _ _)))
  have Y0 := Lib.hid (show Bx 27 w0 (w.heap.size + 1 + 1) #[.int .i64 0, .int .i64 0, .int .i64 0, .int .i64 0, .int .i64 0, .int .i64 0, .int .i64 0, .int .i64 0, .int .i64 0] by
    rw [← hW]
    have hh : Bx 27 (((w.alloc (.cells #[.int .i64 a, .int .i64 b, .int .i64 c, .int .i64 d, .int .i64 x, .int .i64 t, .int .i64 j, .int .i64 r, .int .i64 n] 34)).alloc (.cells #[.int .i64 0, .int .i64 0, .int .i64 0, .int .i64 0, .int .i64 0, .int .i64 0, .int .i64 0, .int .i64 0, .int .i64 0] 27)).alloc (.cells #[.int .i64 0, .int .i64 0, .int .i64 0, .int .i64 0, .int .i64 0, .int .i64 0, .int .i64 0, .int .i64 0, .int .i64 0] 27)) (w.heap.size + 1 + 1) #[.int .i64 0, .int .i64 0, .int .i64 0, .int .i64 0, .int .i64 0, .int .i64 0, .int .i64 0, .int .i64 0, .int .i64 0] := by have hh := Bx.made 27 ((w.alloc (.cells #[.int .i64 a, .int .i64 b, .int .i64 c, .int .i64 d, .int .i64 x, .int .i64 t, .int .i64 j, .int .i64 r, .int .i64 n] 34)).alloc (.cells #[.int .i64 0, .int .i64 0, .int .i64 0, .int .i64 0, .int .i64 0, .int .i64 0, .int .i64 0, .int .i64 0, .int .i64 0] 27)) #[.int .i64 0, .int .i64 0, .int .i64 0, .int .i64 0, .int .i64 0, .int .i64 0, .int .i64 0, .int .i64 0, .int .i64 0]; simpa using hh
    exact hh)
  clear hW
  have cX0 : w0.cell? ⟨w.heap.size, 0, none⟩ = some (.int .i64 a) := X0.out.cell 0
  have cX1 : w0.cell? ⟨w.heap.size, 1, none⟩ = some (.int .i64 b) := X0.out.cell 1
  have cX2 : w0.cell? ⟨w.heap.size, 2, none⟩ = some (.int .i64 c) := X0.out.cell 2
  have cX3 : w0.cell? ⟨w.heap.size, 3, none⟩ = some (.int .i64 d) := X0.out.cell 3
  go_wp2_with fail
  (with_reducible refine (acp.toAp a b c d _).mono ?_)
  rintro e w1 ⟨rfl, hb⟩
  clear cX0 cX1 cX2 cX3
  have B1 := Lib.hid (B0.out.trans (hb.mono B0.out.size))
  have X1 := Lib.hid (X0.out.below hb)
  have Z1 := Lib.hid (Z0.out.below hb)
  have Y1 := Lib.hid (Y0.out.below hb)
  clear hb B0 X0 Z0 Y0
  have cY0 : w1.cell? ⟨w.heap.size + 1 + 1, 0, none⟩ = some (.int .i64 0) := Y1.out.cell 0
  have cY1 : w1.cell? ⟨w.heap.size + 1 + 1, 1, none⟩ = some (.int .i64 0) := Y1.out.cell 1
  have cY2 : w1.cell? ⟨w.heap.size + 1 + 1, 2, none⟩ = some (.int .i64 0) := Y1.out.cell 2
  have cY3 : w1.cell? ⟨w.heap.size + 1 + 1, 3, none⟩ = some (.int .i64 0) := Y1.out.cell 3
  have fY0 : w1.frozen? ⟨w.heap.size + 1 + 1, 0, none⟩ = false := Y1.out.free 0
  have fY1 : w1.frozen? ⟨w.heap.size + 1 + 1, 1, none⟩ = false := Y1.out.free 1
  have fY2 : w1.frozen? ⟨w.heap.size + 1 + 1, 2, none⟩ = false := Y1.out.free 2
  have fY3 : w1.frozen? ⟨w.heap.size + 1 + 1, 3, none⟩ = false := Y1.out.free 3
  go_upto_region 3 with fail
  clear cY0 cY1 cY2 cY3 fY0 fY1 fY2 fY3
  obtain ⟨w2, hW⟩ : ∃ w0, (((w1.setCell ⟨w.heap.size + 1 + 1, 0, none⟩ (.int .i64 a)).setCell ⟨w.heap.size + 1 + 1, 1, none⟩ (.int .i64 b)).setCell ⟨w.heap.size + 1 + 1, 2, none⟩ (.int .i64 c)).setCell ⟨w.heap.size + 1 + 1, 3, none⟩ (.int .i64 d) = w0 := ⟨_, rfl⟩
  rw [hW]
  have B2 := Lib.hid (show Below w.heap.size w w2 by rw [← hW]; exact ((((B1.out.setCell (p := ⟨w.heap.size + 1 + 1, 0, none⟩) (by simp <;> omega) _).setCell (p := ⟨w.heap.size + 1 + 1, 1, none⟩) (by simp <;> omega) _).setCell (p := ⟨w.heap.size + 1 + 1, 2, none⟩) (by simp <;> omega) _).setCell (p := ⟨w.heap.size + 1 + 1, 3, none⟩) (by simp <;> omega) _))
  have X2 := Lib.hid (show Bx 34 w2 (w.heap.size) #[.int .i64 a, .int .i64 b, .int .i64 c, .int .i64 d, .int .i64 x, .int .i64 t, .int .i64 j, .int .i64 r, .int .i64 n] by rw [← hW]; exact ((((X1.out.other (by omega) _ _).other (by omega) _ _).other (by omega) _ _).other (by omega) _ _))
  have Z2 := Lib.hid (show Bx 27 w2 (w.heap.size + 1) #[.int .i64 0, .int .i64 0, .int .i64 0, .int .i64 0, .int .i64 0, .int .i64 0, .int .i64 0, .int .i64 0, .int .i64 0] by rw [← hW]; exact ((((Z1.out.other (by omega) _ _).other (by omega) _ _).other (by omega) _ _).other (by omega) _ _))
  have Y2 := Lib.hid (show Bx 27 w2 (w.heap.size + 1 + 1) #[.int .i64 a, .int .i64 b, .int .i64 c, .int .i64 d, .int .i64 0, .int .i64 0, .int .i64 0, .int .i64 0, .int .i64 0] by rw [← hW]; exact ((((Y1.out.set 0 _).set 1 _).set 2 _).set 3 _))
  clear hW B1 X1 Z1 Y1
  have cX4 : w2.cell? ⟨w.heap.size, 4, none⟩ = some (.int .i64 x) := X2.out.cell 4
  have cY4 : w2.cell? ⟨w.heap.size + 1 + 1, 4, none⟩ = some (.int .i64 0) := Y2.out.cell 4
  have fY4 : w2.frozen? ⟨w.heap.size + 1 + 1, 4, none⟩ = false := Y2.out.free 4
  go_upto_region 4 with fail
  clear cX4 cY4 fY4
  obtain ⟨w3, hW⟩ : ∃ w0, w2.setCell ⟨w.heap.size + 1 + 1, 4, none⟩ (.int .i64 x) = w0 := ⟨_, rfl⟩
  rw [hW]
  have B3 := Lib.hid (show Below w.heap.size w w3 by rw [← hW]; exact (B2.out.setCell (p := ⟨w.heap.size + 1 + 1, 4, none⟩) (by simp <;> omega) _))
  have X3 := Lib.hid (show Bx 34 w3 (w.heap.size) #[.int .i64 a, .int .i64 b, .int .i64 c, .int .i64 d, .int .i64 x, .int .i64 t, .int .i64 j, .int .i64 r, .int .i64 n] by rw [← hW]; exact (X2.out.other (by omega) _ _))
  have Z3 := Lib.hid (show Bx 27 w3 (w.heap.size + 1) #[.int .i64 0, .int .i64 0, .int .i64 0, .int .i64 0, .int .i64 0, .int .i64 0, .int .i64 0, .int .i64 0, .int .i64 0] by rw [← hW]; exact (Z2.out.other (by omega) _ _))
  have Y3 := Lib.hid (show Bx 27 w3 (w.heap.size + 1 + 1) #[.int .i64 a, .int .i64 b, .int .i64 c, .int .i64 d, .int .i64 x, .int .i64 0, .int .i64 0, .int .i64 0, .int .i64 0] by rw [← hW]; exact (Y2.out.set 4 _))
  clear hW B2 X2 Z2 Y2
  have cX5 : w3.cell? ⟨w.heap.size, 5, none⟩ = some (.int .i64 t) := X3.out.cell 5
  have cY5 : w3.cell? ⟨w.heap.size + 1 + 1, 5, none⟩ = some (.int .i64 0) := Y3.out.cell 5
  have fY5 : w3.frozen? ⟨w.heap.size + 1 + 1, 5, none⟩ = false := Y3.out.free 5
  go_upto_region 5 with fail
  clear cX5 cY5 fY5
  obtain ⟨w4, hW⟩ : ∃ w0, w3.setCell ⟨w.heap.size + 1 + 1, 5, none⟩ (.int .i64 t) = w0 := ⟨_, rfl⟩
  rw [hW]
  have B4 := Lib.hid (show Below w.heap.size w w4 by rw [← hW]; exact (B3.out.setCell (p := ⟨w.heap.size + 1 + 1, 5, none⟩) (by simp <;> omega) _))
  have X4 := Lib.hid (show Bx 34 w4 (w.heap.size) #[.int .i64 a, .int .i64 b, .int .i64 c, .int .i64 d, .int .i64 x, .int .i64 t, .int .i64 j, .int .i64 r, .int .i64 n] by rw [← hW]; exact (X3.out.other (by omega) _ _))
  have Z4 := Lib.hid (show Bx 27 w4 (w.heap.size + 1) #[.int .i64 0, .int .i64 0, .int .i64 0, .int .i64 0, .int .i64 0, .int .i64 0, .int .i64 0, .int .i64 0, .int .i64 0] by rw [← hW]; exact (Z3.out.other (by omega) _ _))
  have Y4 := Lib.hid (show Bx 27 w4 (w.heap.size + 1 + 1) #[.int .i64 a, .int .i64 b, .int .i64 c, .int .i64 d, .int .i64 x, .int .i64 t, .int .i64 0, .int .i64 0, .int .i64 0] by rw [← hW]; exact (Y3.out.set 5 _))
  clear hW B3 X3 Z3 Y3
  have cX6 : w4.cell? ⟨w.heap.size, 6, none⟩ = some (.int .i64 j) := X4.out.cell 6
  have cY6 : w4.cell? ⟨w.heap.size + 1 + 1, 6, none⟩ = some (.int .i64 0) := Y4.out.cell 6
  have fY6 : w4.frozen? ⟨w.heap.size + 1 + 1, 6, none⟩ = false := Y4.out.free 6
  go_upto_region 6 with fail
  clear cX6 cY6 fY6
  obtain ⟨w5, hW⟩ : ∃ w0, w4.setCell ⟨w.heap.size + 1 + 1, 6, none⟩ (.int .i64 j) = w0 := ⟨_, rfl⟩
  rw [hW]
  have B5 := Lib.hid (show Below w.heap.size w w5 by rw [← hW]; exact (B4.out.setCell (p := ⟨w.heap.size + 1 + 1, 6, none⟩) (by simp <;> omega) _))
  have X5 := Lib.hid (show Bx 34 w5 (w.heap.size) #[.int .i64 a, .int .i64 b, .int .i64 c, .int .i64 d, .int .i64 x, .int .i64 t, .int .i64 j, .int .i64 r, .int .i64 n] by rw [← hW]; exact (X4.out.other (by omega) _ _))
  have Z5 := Lib.hid (show Bx 27 w5 (w.heap.size + 1) #[.int .i64 0, .int .i64 0, .int .i64 0, .int .i64 0, .int .i64 0, .int .i64 0, .int .i64 0, .int .i64 0, .int .i64 0] by rw [← hW]; exact (Z4.out.other (by omega) _ _))
  have Y5 := Lib.hid (show Bx 27 w5 (w.heap.size + 1 + 1) #[.int .i64 a, .int .i64 b, .int .i64 c, .int .i64 d, .int .i64 x, .int .i64 t, .int .i64 j, .int .i64 0, .int .i64 0] by rw [← hW]; exact (Y4.out.set 6 _))
  clear hW B4 X4 Z4 Y4
  have cX7 : w5.cell? ⟨w.heap.size, 7, none⟩ = some (.int .i64 r) := X5.out.cell 7
  have cY7 : w5.cell? ⟨w.heap.size + 1 + 1, 7, none⟩ = some (.int .i64 0) := Y5.out.cell 7
  have fY7 : w5.frozen? ⟨w.heap.size + 1 + 1, 7, none⟩ = false := Y5.out.free 7
  go_upto_region 7 with fail
  clear cX7 cY7 fY7
  obtain ⟨w6, hW⟩ : ∃ w0, w5.setCell ⟨w.heap.size + 1 + 1, 7, none⟩ (.int .i64 r) = w0 := ⟨_, rfl⟩
  rw [hW]
  have B6 := Lib.hid (show Below w.heap.size w w6 by rw [← hW]; exact (B5.out.setCell (p := ⟨w.heap.size + 1 + 1, 7, none⟩) (by simp <;> omega) _))
  have X6 := Lib.hid (show Bx 34 w6 (w.heap.size) #[.int .i64 a, .int .i64 b, .int .i64 c, .int .i64 d, .int .i64 x, .int .i64 t, .int .i64 j, .int .i64 r, .int .i64 n] by rw [← hW]; exact (X5.out.other (by omega) _ _))
  have Z6 := Lib.hid (show Bx 27 w6 (w.heap.size + 1) #[.int .i64 0, .int .i64 0, .int .i64 0, .int .i64 0, .int .i64 0, .int .i64 0, .int .i64 0, .int .i64 0, .int .i64 0] by rw [← hW]; exact (Z5.out.other (by omega) _ _))
  have Y6 := Lib.hid (show Bx 27 w6 (w.heap.size + 1 + 1) #[.int .i64 a, .int .i64 b, .int .i64 c, .int .i64 d, .int .i64 x, .int .i64 t, .int .i64 j, .int .i64 r, .int .i64 0] by rw [← hW]; exact (Y5.out.set 7 _))
  clear hW B5 X5 Z5 Y5
  have cX8 : w6.cell? ⟨w.heap.size, 8, none⟩ = some (.int .i64 n) := X6.out.cell 8
  have cY8 : w6.cell? ⟨w.heap.size + 1 + 1, 8, none⟩ = some (.int .i64 0) := Y6.out.cell 8
  have fY8 : w6.frozen? ⟨w.heap.size + 1 + 1, 8, none⟩ = false := Y6.out.free 8
  go_upto_region 8 with fail
  clear cX8 cY8 fY8
  obtain ⟨w7, hW⟩ : ∃ w0, w6.setCell ⟨w.heap.size + 1 + 1, 8, none⟩ (.int .i64 n) = w0 := ⟨_, rfl⟩
  rw [hW]
  have B7 := Lib.hid (show Below w.heap.size w w7 by rw [← hW]; exact (B6.out.setCell (p := ⟨w.heap.size + 1 + 1, 8, none⟩) (by simp <;> omega) _))
  have X7 := Lib.hid (show Bx 34 w7 (w.heap.size) #[.int .i64 a, .int .i64 b, .int .i64 c, .int .i64 d, .int .i64 x, .int .i64 t, .int .i64 j, .int .i64 r, .int .i64 n] by rw [← hW]; exact (X6.out.other (by omega) _ _))
  have Z7 := Lib.hid (show Bx 27 w7 (w.heap.size + 1) #[.int .i64 0, .int .i64 0, .int .i64 0, .int .i64 0, .int .i64 0, .int .i64 0, .int .i64 0, .int .i64 0, .int .i64 0] by rw [← hW]; exact (Z6.out.other (by omega) _ _))
  have Y7 := Lib.hid (show Bx 27 w7 (w.heap.size + 1 + 1) #[.int .i64 a, .int .i64 b, .int .i64 c, .int .i64 d, .int .i64 x, .int .i64 t, .int .i64 j, .int .i64 r, .int .i64 n] by rw [← hW]; exact (Y6.out.set 8 _))
  clear hW B6 X6 Z6 Y6
  go_wp2_with (first
    | (refine list_load rfl 27 _ rfl (w.heap.size + 1 + 1) rfl 27 _ (show Bx 27 _ (w.heap.size + 1 + 1) #[.int .i64 a, .int .i64 b, .int .i64 c, .int .i64 d, .int .i64 x, .int .i64 t, .int .i64 j, .int .i64 r, .int .i64 n] from Y7.out) Try.underlying27 rfl szB ?_)
    | (refine list_store rfl 27 _ _ rfl (w.heap.size + 1) #[.int .i64 a, .int .i64 b, .int .i64 c, .int .i64 d, .int .i64 x, .int .i64 t, .int .i64 j, .int .i64 r, .int .i64 n] rfl rfl 27 _ (show Bx 27 _ (w.heap.size + 1) #[.int .i64 0, .int .i64 0, .int .i64 0, .int .i64 0, .int .i64 0, .int .i64 0, .int .i64 0, .int .i64 0, .int .i64 0] from Z7.out) rfl szB (one9 _ _ _ _ _ _ _ _ _) ?_; intro wz hz))
  (try simp only [Exit.inBlock, Exit.then])
  refine bodyPost_ret (v := .agg #[.int .i64 a, .int .i64 b, .int .i64 c, .int .i64 d, .int .i64 x, .int .i64 t, .int .i64 j, .int .i64 r, .int .i64 n]) ?_ rfl ?_
  · rw [results_cell1 rfl]
    exact back hz.box Try.underlying27 rfl szB
  · exact ⟨by rfl, (hz.on B7.out (by simp <;> omega))⟩
set_option maxRecDepth 100000 in
set_option maxHeartbeats 4000000 in
theorem eqBo_yes (a b c d x t j r n : Int) (w : World) :
    Calls Try.prog 22 #[.agg #[.int .i64 a, .int .i64 b, .int .i64 c, .int .i64 d, .int .i64 x, .int .i64 t, .int .i64 j, .int .i64 r, .int .i64 n], .agg #[.int .i64 a, .int .i64 b, .int .i64 c, .int .i64 d, .int .i64 x, .int .i64 t, .int .i64 j, .int .i64 r, .int .i64 n]] w fun e w' => e = .returned (.bool true) ∧ Below w.heap.size w w' := by
  go_enter Try.func22, Try.ntmps22
  go_wp2_with fail
  obtain ⟨w0, hW⟩ : ∃ w0, (w.alloc (.cells #[.int .i64 a, .int .i64 b, .int .i64 c, .int .i64 d, .int .i64 x, .int .i64 t, .int .i64 j, .int .i64 r, .int .i64 n] 27)).alloc (.cells #[.int .i64 a, .int .i64 b, .int .i64 c, .int .i64 d, .int .i64 x, .int .i64 t, .int .i64 j, .int .i64 r, .int .i64 n] 27) = w0 := ⟨_, rfl⟩
  rw [hW]
  have B0 := Lib.hid (show Below w.heap.size w w0 by rw [← hW]; exact ((Below.refl _ _).alloc (by simp <;> omega) _).alloc (by simp <;> omega) _)
  have X0 := Lib.hid (show Bx 27 w0 (w.heap.size) #[.int .i64 a, .int .i64 b, .int .i64 c, .int .i64 d, .int .i64 x, .int .i64 t, .int .i64 j, .int .i64 r, .int .i64 n] by
    rw [← hW]
    have hh := Bx.made 27 w #[.int .i64 a, .int .i64 b, .int .i64 c, .int .i64 d, .int .i64 x, .int .i64 t, .int .i64 j, .int .i64 r, .int .i64 n]
    exact (hh.below (below_box _ _)))
  have Y0 := Lib.hid (show Bx 27 w0 (w.heap.size + 1) #[.int .i64 a, .int .i64 b, .int .i64 c, .int .i64 d, .int .i64 x, .int .i64 t, .int .i64 j, .int .i64 r, .int .i64 n] by
    rw [← hW]
    have hh : Bx 27 ((w.alloc (.cells #[.int .i64 a, .int .i64 b, .int .i64 c, .int .i64 d, .int .i64 x, .int .i64 t, .int .i64 j, .int .i64 r, .int .i64 n] 27)).alloc (.cells #[.int .i64 a, .int .i64 b, .int .i64 c, .int .i64 d, .int .i64 x, .int .i64 t, .int .i64 j, .int .i64 r, .int .i64 n] 27)) (w.heap.size + 1) #[.int .i64 a, .int .i64 b, .int .i64 c, .int .i64 d, .int .i64 x, .int .i64 t, .int .i64 j, .int .i64 r, .int .i64 n] := by have hh := Bx.made 27 (w.alloc (.cells #[.int .i64 a, .int .i64 b, .int .i64 c, .int .i64 d, .int .i64 x, .int .i64 t, .int .i64 j, .int .i64 r, .int .i64 n] 27)) #[.int .i64 a, .int .i64 b, .int .i64 c, .int .i64 d, .int .i64 x, .int .i64 t, .int .i64 j, .int .i64 r, .int .i64 n]; simpa using hh
    exact hh)
  clear hW
  have cX0 : w0.cell? ⟨w.heap.size, 0, none⟩ = some (.int .i64 a) := X0.out.cell 0
  have cX1 : w0.cell? ⟨w.heap.size, 1, none⟩ = some (.int .i64 b) := X0.out.cell 1
  have cX2 : w0.cell? ⟨w.heap.size, 2, none⟩ = some (.int .i64 c) := X0.out.cell 2
  have cX3 : w0.cell? ⟨w.heap.size, 3, none⟩ = some (.int .i64 d) := X0.out.cell 3
  have cY0 : w0.cell? ⟨w.heap.size + 1, 0, none⟩ = some (.int .i64 a) := Y0.out.cell 0
  have cY1 : w0.cell? ⟨w.heap.size + 1, 1, none⟩ = some (.int .i64 b) := Y0.out.cell 1
  have cY2 : w0.cell? ⟨w.heap.size + 1, 2, none⟩ = some (.int .i64 c) := Y0.out.cell 2
  have cY3 : w0.cell? ⟨w.heap.size + 1, 3, none⟩ = some (.int .i64 d) := Y0.out.cell 3
  go_wp2_with fail
  (with_reducible refine (eqAp a b c d _).mono ?_)
  rintro e w1 hp
  obtain ⟨rfl, hb⟩ := b_parts rfl hp
  clear hp
  clear cX0 cX1 cX2 cX3 cY0 cY1 cY2 cY3
  have B1 := Lib.hid (B0.out.trans (hb.mono B0.out.size))
  have X1 := Lib.hid (X0.out.below hb)
  have Y1 := Lib.hid (Y0.out.below hb)
  clear hb B0 X0 Y0
  have cX4 : w1.cell? ⟨w.heap.size, 4, none⟩ = some (.int .i64 x) := X1.out.cell 4
  have cX5 : w1.cell? ⟨w.heap.size, 5, none⟩ = some (.int .i64 t) := X1.out.cell 5
  have cX6 : w1.cell? ⟨w.heap.size, 6, none⟩ = some (.int .i64 j) := X1.out.cell 6
  have cX7 : w1.cell? ⟨w.heap.size, 7, none⟩ = some (.int .i64 r) := X1.out.cell 7
  have cX8 : w1.cell? ⟨w.heap.size, 8, none⟩ = some (.int .i64 n) := X1.out.cell 8
  have cY4 : w1.cell? ⟨w.heap.size + 1, 4, none⟩ = some (.int .i64 x) := Y1.out.cell 4
  have cY5 : w1.cell? ⟨w.heap.size + 1, 5, none⟩ = some (.int .i64 t) := Y1.out.cell 5
  have cY6 : w1.cell? ⟨w.heap.size + 1, 6, none⟩ = some (.int .i64 j) := Y1.out.cell 6
  have cY7 : w1.cell? ⟨w.heap.size + 1, 7, none⟩ = some (.int .i64 r) := Y1.out.cell 7
  have cY8 : w1.cell? ⟨w.heap.size + 1, 8, none⟩ = some (.int .i64 n) := Y1.out.cell 8
  go_wp2_with fail
  go_ret
  exact ⟨rfl, B1.out⟩
end Go.Proofs.Ytkfkfejjhfkobaa.boh
