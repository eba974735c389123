/- The harness over a backoff: blocks of nine integers, copy and comparison. Condition: none. -/
import Derived.Test.YtkfkfejjhfkobaaDoorBo2
import Derived.Test.YtkfkfejjhfkobaaDoorAc4
import Derived.Test.YtkfkfejjhfkobaaDoorAch
import Derived.Deep.Cut
namespace Go.Proofs.YtkfkfejjhfkobaaDoor.boh
open Go.RowKit sl harn bx stw
set_option linter.unusedVariables false

theorem below_box (w : World) (o : Obj) : Below w.heap.size w (w.alloc o) := bx.below_box w o
theorem below_box2 (w : World) (o o' : Obj) : Below w.heap.size w ((w.alloc o).alloc o') := bx.below_box2 w o o'
section
variable {w w' : World} {p : Nat} {a b c d x t j r n : Int}
end
def Box (w : World) (p : Nat) (a b c d x t j r n : Int) : Prop := Bx 28 w p #[.int .i64 a, .int .i64 b, .int .i64 c, .int .i64 d, .int .i64 x, .int .i64 t, .int .i64 j, .int .i64 r, .int .i64 n]
section
variable {w w' : World} {p : Nat} {a b c d x t j r n : Int}
theorem Box.c0 (h : Box w p a b c d x t j r n) : w.cell? ⟨p, 0, none⟩ = some (.int .i64 a) := Bx.cell h 0
theorem Box.c1 (h : Box w p a b c d x t j r n) : w.cell? ⟨p, 1, none⟩ = some (.int .i64 b) := Bx.cell h 1
theorem Box.c2 (h : Box w p a b c d x t j r n) : w.cell? ⟨p, 2, none⟩ = some (.int .i64 c) := Bx.cell h 2
theorem Box.c3 (h : Box w p a b c d x t j r n) : w.cell? ⟨p, 3, none⟩ = some (.int .i64 d) := Bx.cell h 3
theorem Box.c4 (h : Box w p a b c d x t j r n) : w.cell? ⟨p, 4, none⟩ = some (.int .i64 x) := Bx.cell h 4
theorem Box.c5 (h : Box w p a b c d x t j r n) : w.cell? ⟨p, 5, none⟩ = some (.int .i64 t) := Bx.cell h 5
theorem Box.c6 (h : Box w p a b c d x t j r n) : w.cell? ⟨p, 6, none⟩ = some (.int .i64 j) := Bx.cell h 6
theorem Box.c7 (h : Box w p a b c d x t j r n) : w.cell? ⟨p, 7, none⟩ = some (.int .i64 r) := Bx.cell h 7
theorem Box.c8 (h : Box w p a b c d x t j r n) : w.cell? ⟨p, 8, none⟩ = some (.int .i64 n) := Bx.cell h 8
theorem Box.lt (h : Box w p a b c d x t j r n) : p < w.heap.size := Bx.lt h
theorem Box.below (h : Box w p a b c d x t j r n) (hb : Below w.heap.size w w') : Box w' p a b c d x t j r n := Bx.below h hb
theorem Box.tch {lo hi : Nat} (h : Box w p a b c d x t j r n) (hb : Tch lo hi w w') (hd : p < lo ∨ hi ≤ p) : Box w' p a b c d x t j r n := Bx.tch h hb hd
theorem Box.made (w : World) (a b c d x t j r n : Int) : Box (w.alloc (.cells #[.int .i64 a, .int .i64 b, .int .i64 c, .int .i64 d, .int .i64 x, .int .i64 t, .int .i64 j, .int .i64 r, .int .i64 n] 28)) w.heap.size a b c d x t j r n := Bx.made _ w _
end
set_option maxRecDepth 100000 in
set_option maxHeartbeats 4000000 in
theorem eqBo_yes (a b c d x t j r n : Int) (w : World) :
    Calls Tryd.prog 16 #[.agg #[.int .i64 a, .int .i64 b, .int .i64 c, .int .i64 d, .int .i64 x, .int .i64 t, .int .i64 j, .int .i64 r, .int .i64 n], .agg #[.int .i64 a, .int .i64 b, .int .i64 c, .int .i64 d, .int .i64 x, .int .i64 t, .int .i64 j, .int .i64 r, .int .i64 n]] w fun e w' => e = .returned (.bool true) ∧ Below w.heap.size w w' := by
  go_enter Tryd.func16, Tryd.ntmps16
  go_wp2_with fail
  obtain ⟨w0, hW⟩ : ∃ w0, (w.alloc (.cells #[.int .i64 a, .int .i64 b, .int .i64 c, .int .i64 d, .int .i64 x, .int .i64 t, .int .i64 j, .int .i64 r, .int .i64 n] 28)).alloc (.cells #[.int .i64 a, .int .i64 b, .int .i64 c, .int .i64 d, .int .i64 x, .int .i64 t, .int .i64 j, .int .i64 r, .int .i64 n] 28) = w0 := ⟨_, rfl⟩
  rw [hW]
  have B0 := Lib.hid (show Below w.heap.size w w0 by rw [← hW]; exact ((Below.refl _ _).alloc (by simp <;> omega) _).alloc (by simp <;> omega) _)
  have X0 := Lib.hid (show Bx 28 w0 (w.heap.size) #[.int .i64 a, .int .i64 b, .int .i64 c, .int .i64 d, .int .i64 x, .int .i64 t, .int .i64 j, .int .i64 r, .int .i64 n] by
    rw [← hW]
    have hh := Bx.made 28 w #[.int .i64 a, .int .i64 b, .int .i64 c, .int .i64 d, .int .i64 x, .int .i64 t, .int .i64 j, .int .i64 r, .int .i64 n]
    exact (hh.below (below_box _ _)))
  have Y0 := Lib.hid (show Bx 28 w0 (w.heap.size + 1) #[.int .i64 a, .int .i64 b, .int .i64 c, .int .i64 d, .int .i64 x, .int .i64 t, .int .i64 j, .int .i64 r, .int .i64 n] by
    rw [← hW]
    have hh : Bx 28 ((w.alloc (.cells #[.int .i64 a, .int .i64 b, .int .i64 c, .int .i64 d, .int .i64 x, .int .i64 t, .int .i64 j, .int .i64 r, .int .i64 n] 28)).alloc (.cells #[.int .i64 a, .int .i64 b, .int .i64 c, .int .i64 d, .int .i64 x, .int .i64 t, .int .i64 j, .int .i64 r, .int .i64 n] 28)) (w.heap.size + 1) #[.int .i64 a, .int .i64 b, .int .i64 c, .int .i64 d, .int .i64 x, .int .i64 t, .int .i64 j, .int .i64 r, .int .i64 n] := by have hh := Bx.made 28 (w.alloc (.cells #[.int .i64 a, .int .i64 b, .int .i64 c, .int .i64 d, .int .i64 x, .int .i64 t, .int .i64 j, .int .i64 r, .int .i64 n] 28)) #[.int .i64 a, .int .i64 b, .int .i64 c, .int .i64 d, .int .i64 x, .int .i64 t, .int .i64 j, .int .i64 r, .int .i64 n]; simpa using hh
    exact hh)
  clear hW
  have cX0 : w0.cell? ⟨w.heap.size, 0, none⟩ = some (.int .i64 a) := X0.out.cell 0
  have cX1 : w0.cell? ⟨w.heap.size, 1, none⟩ = some (.int .i64 b) := X0.out.cell 1
  have cX2 : w0.cell? ⟨w.heap.size, 2, none⟩ = some (.int .i64 c) := X0.out.cell 2
  have cX3 : w0.cell? ⟨w.heap.size, 3, none⟩ = some (.int .i64 d) := X0.out.cell 3
  have cY0 : w0.cell? ⟨w.heap.size + 1, 0, none⟩ = some (.int .i64 a) := Y0.out.cell 0
  have cY1 : w0.cell? ⟨w.heap.size + 1, 1, none⟩ = some (.int .i64 b) := Y0.out.cell 1
  have cY2 : w0.cell? ⟨w.heap.size + 1, 2, none⟩ = some (.int .i64 c) := Y0.out.cell 2
  have cY3 : w0.cell? ⟨w.heap.size + 1, 3, none⟩ = some (.int .i64 d) := Y0.out.cell 3
  go_wp2_with fail
  (with_reducible refine (eqAp a b c d _).mono ?_)
  rintro e w1 hp
  obtain ⟨rfl, hb⟩ := b_parts rfl hp
  clear hp
  clear cX0 cX1 cX2 cX3 cY0 cY1 cY2 cY3
  have B1 := Lib.hid (B0.out.trans (hb.mono B0.out.size))
  have X1 := Lib.hid (X0.out.below hb)
  have Y1 := Lib.hid (Y0.out.below hb)
  clear hb B0 X0 Y0
  have cX4 : w1.cell? ⟨w.heap.size, 4, none⟩ = some (.int .i64 x) := X1.out.cell 4
  have cX5 : w1.cell? ⟨w.heap.size, 5, none⟩ = some (.int .i64 t) := X1.out.cell 5
  have cX6 : w1.cell? ⟨w.heap.size, 6, none⟩ = some (.int .i64 j) := X1.out.cell 6
  have cX7 : w1.cell? ⟨w.heap.size, 7, none⟩ = some (.int .i64 r) := X1.out.cell 7
  have cX8 : w1.cell? ⟨w.heap.size, 8, none⟩ = some (.int .i64 n) := X1.out.cell 8
  have cY4 : w1.cell? ⟨w.heap.size + 1, 4, none⟩ = some (.int .i64 x) := Y1.out.cell 4
  have cY5 : w1.cell? ⟨w.heap.size + 1, 5, none⟩ = some (.int .i64 t) := Y1.out.cell 5
  have cY6 : w1.cell? ⟨w.heap.size + 1, 6, none⟩ = some (.int .i64 j) := Y1.out.cell 6
  have cY7 : w1.cell? ⟨w.heap.size + 1, 7, none⟩ = some (.int .i64 r) := Y1.out.cell 7
  have cY8 : w1.cell? ⟨w.heap.size + 1, 8, none⟩ = some (.int .i64 n) := Y1.out.cell 8
  go_wp2_with fail
  go_ret
  exact ⟨rfl, B1.out⟩
end Go.Proofs.YtkfkfejjhfkobaaDoor.boh
