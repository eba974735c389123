/- The harness over a reservation: blocks of three integers, copy and comparison. Condition: none. -/
import Derived.Test.YtebbnopconbnlaaRs1
namespace Go.Proofs.Ytebbnopconbnlaa.rsh
open Go.RowKit sl harn bx stw
set_option linter.unusedVariables false

theorem below_box (w : World) (o : Obj) : Below w.heap.size w (w.alloc o) := bx.below_box w o
theorem below_box2 (w : World) (o o' : Obj) : Below w.heap.size w ((w.alloc o).alloc o') := bx.below_box2 w o o'
def LBox (w : World) (p : Nat) (u h b : Int) : Prop := Bx 39 w p #[.int .i64 u, .int .i64 h, .int .i64 b]
section
variable {w w' : World} {p : Nat} {u h b : Int}
theorem LBox.c0 (hx : LBox w p u h b) : w.cell? ⟨p, 0, none⟩ = some (.int .i64 u) := Bx.cell hx 0
theorem LBox.c1 (hx : LBox w p u h b) : w.cell? ⟨p, 1, none⟩ = some (.int .i64 h) := Bx.cell hx 1
theorem LBox.c2 (hx : LBox w p u h b) : w.cell? ⟨p, 2, none⟩ = some (.int .i64 b) := Bx.cell hx 2
theorem LBox.lt (hx : LBox w p u h b) : p < w.heap.size := Bx.lt hx
theorem LBox.below (hx : LBox w p u h b) (hb : Below w.heap.size w w') : LBox w' p u h b := Bx.below hx hb
theorem LBox.tch {lo hi : Nat} (hx : LBox w p u h b) (hb : Tch lo hi w w') (hd : p < lo ∨ hi ≤ p) : LBox w' p u h b := Bx.tch hx hb hd
theorem LBox.made (w : World) (u h b : Int) : LBox (w.alloc (.cells #[.int .i64 u, .int .i64 h, .int .i64 b] 39)) w.heap.size u h b := Bx.made _ w _
end
def Box (w : World) (p : Nat) (u h b : Int) : Prop := Bx 25 w p #[.int .i64 u, .int .i64 h, .int .i64 b]
section
variable {w w' : World} {p : Nat} {u h b : Int}
theorem Box.c0 (hx : Box w p u h b) : w.cell? ⟨p, 0, none⟩ = some (.int .i64 u) := Bx.cell hx 0
theorem Box.c1 (hx : Box w p u h b) : w.cell? ⟨p, 1, none⟩ = some (.int .i64 h) := Bx.cell hx 1
theorem Box.c2 (hx : Box w p u h b) : w.cell? ⟨p, 2, none⟩ = some (.int .i64 b) := Bx.cell hx 2
theorem Box.lt (hx : Box w p u h b) : p < w.heap.size := Bx.lt hx
theorem Box.below (hx : Box w p u h b) (hb : Below w.heap.size w w') : Box w' p u h b := Bx.below hx hb
theorem Box.tch {lo hi : Nat} (hx : Box w p u h b) (hb : Tch lo hi w w') (hd : p < lo ∨ hi ≤ p) : Box w' p u h b := Bx.tch hx hb hd
theorem Box.made (w : World) (u h b : Int) : Box (w.alloc (.cells #[.int .i64 u, .int .i64 h, .int .i64 b] 25)) w.heap.size u h b := Bx.made _ w _
end
set_option maxRecDepth 100000 in
set_option maxHeartbeats 4000000 in
theorem toRv (u h b : Int) (w : World) :
    Calls Try.prog 26 #[.agg #[.int .i64 u, .int .i64 h, .int .i64 b]] w (fun e w' => e = .returned (.agg #[.int .i64 u, .int .i64 h, .int .i64 b]) ∧ Below w.heap.size w w') := by
  go_enter Try.func26, Try.ntmps26
  go_wp2
  (try simp only [Exit.inBlock, Exit.then])
  refine bodyPost_ret (v := .agg #[.int .i64 u, .int .i64 h, .int .i64 b]) ?_ rfl ⟨rfl, ?_⟩
  · rw [results_cell1 rfl]
    go_simp
  · (repeat' (first | exact Below.refl _ _ | refine Below.setCell ?_ (by simp) _ | refine Below.alloc ?_ (by simp <;> omega) _))
set_option maxRecDepth 100000 in
set_option maxHeartbeats 4000000 in
theorem eqRv_yes (u h b : Int) (w : World) :
    Calls Try.prog 31 #[.agg #[.int .i64 u, .int .i64 h, .int .i64 b], .agg #[.int .i64 u, .int .i64 h, .int .i64 b]] w (fun e w' => e = .returned (.bool true) ∧ Below w.heap.size w w') := by
  go_enter Try.func31, Try.ntmps31
  go_wp2
  go_ret
  exact ⟨rfl, below_box2 _ _ _⟩
end Go.Proofs.Ytebbnopconbnlaa.rsh
