/- Blocks of an acknowledgment. No program. -/
import Derived.Test.YthbmnhbnoipdfaaBs6
import Derived.Test.YthbmnhbnoipdfaaHarn
namespace Go.Proofs.Ythbmnhbnoipdfaa.bs
open Go.RowKit sl harn rng bx stw
set_option linter.unusedVariables false
set_option linter.unusedSimpArgs false

def LBoxA (w : World) (p : Nat) (c b : Int) : Prop := Bx 45 w p #[.int .i64 c, .int .i64 b]
section
variable {w w' : World} {p : Nat} {c b : Int}
theorem LBoxA.c0 (hx : LBoxA w p c b) : w.cell? ⟨p, 0, none⟩ = some (.int .i64 c) := Bx.cell hx 0
theorem LBoxA.c1 (hx : LBoxA w p c b) : w.cell? ⟨p, 1, none⟩ = some (.int .i64 b) := Bx.cell hx 1
theorem LBoxA.lt (hx : LBoxA w p c b) : p < w.heap.size := Bx.lt hx
theorem LBoxA.below (hx : LBoxA w p c b) (hb : Below w.heap.size w w') : LBoxA w' p c b := Bx.below hx hb
theorem LBoxA.tch {lo hi : Nat} (hx : LBoxA w p c b) (hb : Tch lo hi w w') (hd : p < lo ∨ hi ≤ p) : LBoxA w' p c b := Bx.tch hx hb hd
theorem LBoxA.made (w : World) (c b : Int) : LBoxA (w.alloc (.cells #[.int .i64 c, .int .i64 b] 45)) w.heap.size c b := Bx.made _ w _
end
def BoxA (w : World) (p : Nat) (c b : Int) : Prop := Bx 27 w p #[.int .i64 c, .int .i64 b]
section
variable {w w' : World} {p : Nat} {c b : Int}
theorem BoxA.c0 (hx : BoxA w p c b) : w.cell? ⟨p, 0, none⟩ = some (.int .i64 c) := Bx.cell hx 0
theorem BoxA.c1 (hx : BoxA w p c b) : w.cell? ⟨p, 1, none⟩ = some (.int .i64 b) := Bx.cell hx 1
theorem BoxA.lt (hx : BoxA w p c b) : p < w.heap.size := Bx.lt hx
theorem BoxA.below (hx : BoxA w p c b) (hb : Below w.heap.size w w') : BoxA w' p c b := Bx.below hx hb
theorem BoxA.tch {lo hi : Nat} (hx : BoxA w p c b) (hb : Tch lo hi w w') (hd : p < lo ∨ hi ≤ p) : BoxA w' p c b := Bx.tch hx hb hd
theorem BoxA.made (w : World) (c b : Int) : BoxA (w.alloc (.cells #[.int .i64 c, .int .i64 b] 27)) w.heap.size c b := Bx.made _ w _
end
end Go.Proofs.Ythbmnhbnoipdfaa.bs
