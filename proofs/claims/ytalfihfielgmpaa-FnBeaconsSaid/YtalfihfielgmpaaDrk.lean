/- Blocks, cursors and draws: small laws whatever the struct. Condition: none. -/
import Derived.Test.YtalfihfielgmpaaBox
import Derived.Test.YtalfihfielgmpaaDraw2
namespace Go.Proofs.Ytalfihfielgmpaa.drk
open Go.RowKit sl harn bx draw
set_option linter.unusedVariables false

theorem bx_keep {T : TypeId} {w w' : World} {p b : Nat} {cs : Array Value} (h : Bx T w b cs) (k : Keep p w w') (hn : b ≠ p) : Bx T w' b cs := h.same (k.block b h.lt hn)
theorem later {p : Nat} {w w1 w2 : World} (h : Keep p w w1) {B : Nat} (hB : w.heap.size ≤ B) (hb : Below B w1 w2) : Keep p w w2 :=
  ⟨hb.os.trans h.os, hb.tape.trans h.tape, hb.output.trans h.output, Nat.le_trans h.size hb.size, fun j hj hn => (hb.block j (by omega)).trans (h.block j hj hn)⟩
/-- The cursor behind a change above it. -/
theorem cur_later {w w1 w2 : World} {p B : Nat} {a : Option Addr} {len cap : Nat} (h0 : Cur w p a len cap) (hk : Keep p w w1) (h : Cur w1 p a len cap) (hB : w.heap.size ≤ B) (hb : Below B w1 w2) : Cur w2 p a len cap := by
  have hp := h0.lt
  have k2 := later hk hB hb
  obtain ⟨-, i, g, hi, hblk⟩ := h
  exact ⟨h0.1.keep k2, i, g, hi, (hb.block p (by omega)).trans hblk⟩
/-- A cursor's world in which all that stood there stands. -/
theorem cur_below {w w' : World} {p : Nat} {a : Option Addr} {len cap : Nat} (h : Cur w p a len cap) (hb : Below w.heap.size w w') : Cur w' p a len cap := cur_later h (Keep.refl p w) h (Nat.le_refl _) hb
/-- Stores into one block that was made behind a world. -/
theorem below_four {B c : Nat} {a w : World} (h : Below B a w) (hc : B ≤ c) (v0 v1 v2 v3 : Value) :
    Below B a ((((w.setCell ⟨c, 0, none⟩ v0).setCell ⟨c, 1, none⟩ v1).setCell ⟨c, 2, none⟩ v2).setCell ⟨c, 3, none⟩ v3) :=
  (((h.setCell (p := ⟨c, 0, none⟩) hc v0).setCell (p := ⟨c, 1, none⟩) hc v1).setCell (p := ⟨c, 2, none⟩) hc v2).setCell (p := ⟨c, 3, none⟩) hc v3
theorem keep_bel {w w1 w2 : World} {B : Nat} (h : Below B w w1) (hB : B ≤ w1.heap.size) (k : Keep w1.heap.size w1 w2) : Below B w w2 :=
  h.trans ⟨k.os, k.tape, k.output, k.size, fun j hj => k.block j (by omega) (by omega)⟩
/-- How a draw, or what makes memory beside one, changes the world. -/
def Dr (p : Nat) (A : Option Addr) (len cap : Nat) (w w' : World) : Prop := Keep p w w' ∧ Cur w' p A len cap
end Go.Proofs.Ytalfihfielgmpaa.drk
