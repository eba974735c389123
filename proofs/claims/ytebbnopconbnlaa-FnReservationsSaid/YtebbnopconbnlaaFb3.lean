/- NeedsAck, ReplyKind, the flags and the numbers of a frame, program and specification. Condition: none. -/
import Derived.Test.YtebbnopconbnlaaFbx
namespace Go.Proofs.Ytebbnopconbnlaa.fbx
open Go.RowKit sl harn rng frm
set_option linter.unusedVariables false
theorem ack_k {k t : Int} (h : k = 1 ∨ k = 6) (h2 : ¬ t = 63) : decide (Ack k t) = true := decide_eq_true ⟨h, h2⟩
theorem ack_t {k t : Int} (h2 : t = 63) : decide (Ack k t) = false := decide_eq_false fun h => h.2 h2
theorem ack_n {k t : Int} (h : ¬ (k = 1 ∨ k = 6)) : decide (Ack k t) = false := decide_eq_false fun g => h g.1

theorem seven_own (w : World) (o : Obj) (a b c d e f g : Int) (hw : Wf .i64 [a, b, c, d, e, f, g]) :
    Ow 3 .i64 ((w.alloc o).alloc (.cells #[.int .i64 a, .int .i64 b, .int .i64 c, .int .i64 d, .int .i64 e, .int .i64 f, .int .i64 g] 3)) w.heap.size ((w.alloc o).alloc (.cells #[.int .i64 a, .int .i64 b, .int .i64 c, .int .i64 d, .int .i64 e, .int .i64 f, .int .i64 g] 3)).heap.size (some ⟨w.heap.size + 1, 0, none⟩) 7 7 [a, b, c, d, e, f, g] := by
  have h := Ow.down (lo2 := w.heap.size) (Ow.lit (k := .i64) (E := 3) (n := 7) (w.alloc o) #[.int .i64 a, .int .i64 b, .int .i64 c, .int .i64 d, .int .i64 e, .int .i64 f, .int .i64 g] [a, b, c, d, e, f, g] rfl hw (by simp [maxLen]) rfl) (by simp)
  simpa using h
end Go.Proofs.Ytebbnopconbnlaa.fbx
