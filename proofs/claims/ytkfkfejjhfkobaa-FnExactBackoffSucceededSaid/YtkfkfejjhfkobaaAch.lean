/- The harness's copy of parameters, parameters in a block of their own. Condition: none. -/
import Derived.Test.YtkfkfejjhfkobaaAc3
namespace Go.Proofs.Ytkfkfejjhfkobaa.acp
open Go.RowKit sl harn
set_option linter.unusedVariables false
theorem below_box (w : World) (o : Obj) : Below w.heap.size w (w.alloc o) := bx.below_box w o
theorem below_box2 (w : World) (o o' : Obj) : Below w.heap.size w ((w.alloc o).alloc o') := bx.below_box2 w o o'
/-- A law's own parameters in a block of its own. -/
def LBox (w : World) (b : Nat) (p q r s : Int) : Prop := w.heap[b]? = some (.cells #[.int .i64 p, .int .i64 q, .int .i64 r, .int .i64 s] 32 (0, 0))
section
variable {w w' : World} {b : Nat} {p q r s : Int}
theorem LBox.c0 (h : LBox w b p q r s) : w.cell? ⟨b, 0, none⟩ = some (.int .i64 p) := by unfold LBox at h; simp [World.cell?, h]
theorem LBox.c1 (h : LBox w b p q r s) : w.cell? ⟨b, 1, none⟩ = some (.int .i64 q) := by unfold LBox at h; simp [World.cell?, h]
theorem LBox.c2 (h : LBox w b p q r s) : w.cell? ⟨b, 2, none⟩ = some (.int .i64 r) := by unfold LBox at h; simp [World.cell?, h]
theorem LBox.c3 (h : LBox w b p q r s) : w.cell? ⟨b, 3, none⟩ = some (.int .i64 s) := by unfold LBox at h; simp [World.cell?, h]
theorem LBox.lt (h : LBox w b p q r s) : b < w.heap.size := lt_of_block h
theorem LBox.same (h : LBox w b p q r s) (hb : w'.heap[b]? = w.heap[b]?) : LBox w' b p q r s := by unfold LBox at h ⊢; rw [hb]; exact h
theorem LBox.below (h : LBox w b p q r s) (hb : Below w.heap.size w w') : LBox w' b p q r s := h.same (hb.block b h.lt)
theorem LBox.tch {lo hi : Nat} (h : LBox w b p q r s) (hb : Tch lo hi w w') (hd : b < lo ∨ hi ≤ b) : LBox w' b p q r s := h.same (hb.block b h.lt hd)
theorem LBox.made (w : World) (p q r s : Int) : LBox (w.alloc (.cells #[.int .i64 p, .int .i64 q, .int .i64 r, .int .i64 s] 32)) w.heap.size p q r s := heap_alloc_new w _
end
set_option maxRecDepth 100000 in
set_option maxHeartbeats 4000000 in
theorem toAp (p q r s : Int) (w : World) :
    Calls Try.prog 37 #[.agg #[.int .i64 p, .int .i64 q, .int .i64 r, .int .i64 s]] w fun e w' => e = .returned (.agg #[.int .i64 p, .int .i64 q, .int .i64 r, .int .i64 s]) ∧ Below w.heap.size w w' := by
  go_enter Try.func37, Try.ntmps37
  go_wp2
  (try simp only [Exit.inBlock, Exit.then])
  refine bodyPost_ret (v := .agg #[.int .i64 p, .int .i64 q, .int .i64 r, .int .i64 s]) ?_ rfl ⟨rfl, ?_⟩
  · rw [bx.results_cell1 rfl]
    go_simp
  · (repeat' (first | exact Below.refl _ _ | refine Below.setCell ?_ (by simp) _ | refine Below.alloc ?_ (by simp <;> omega) _))
end Go.Proofs.Ytkfkfejjhfkobaa.acp
