/- Drawn slices of bytes, and an append between two draws. Condition: the bytes that are drawn from are a slice that came in. -/
import Derived.Test.YtalfihfielgmpaaDraw2
import Derived.Test.YtalfihfielgmpaaApp
namespace Go.Proofs.Ytalfihfielgmpaa.draw
open Go.RowKit sl harn

theorem ow_keep {E : TypeId} {k : IntKind} {w w' : World} {lo hi n cap p : Nat} {A : Option Addr} {zs : List Int} (h : Ow E k w lo hi A n cap zs) (hk : Keep p w w') (hp : p < lo) : Ow E k w' lo hi A n cap zs :=
  h.same hk.size fun b h1 h2 => hk.block b (by have := h.hi_; omega) (by omega)
theorem cur_then {w w1 w2 : World} {p : Nat} {a : Option Addr} {len cap : Nat} (hc0 : Code w p a len) (hp : p < w.heap.size) (hk : Keep p w w1) (hc : Cur w1 p a len cap) (hb : Below w.heap.size w1 w2) : Keep p w w2 ∧ Cur w2 p a len cap := by
  have k2 : Keep p w w2 := ⟨hb.os.trans hk.os, hb.tape.trans hk.tape, hb.output.trans hk.output, Nat.le_trans hk.size hb.size, fun j hj hn => (hb.block j hj).trans (hk.block j hj hn)⟩
  obtain ⟨-, i, g, hi, hblk⟩ := hc
  exact ⟨k2, hc0.keep k2, i, g, hi, (hb.block p hp).trans hblk⟩

theorem below_push' {B : Nat} {w w' : World} {o : Obj} (hl : B ≤ w.heap.size) (hb : Below B (w.alloc o) w') : Below B w w' := ((Below.refl _ _).alloc hl o).trans hb
theorem cur_then2 {w w1 w2 : World} {B : Nat} {a : Option Addr} {len cap : Nat} (hc0 : Code w w.heap.size a len) (hp : w.heap.size < B) (hk : Keep w.heap.size w w1) (hc : Cur w1 w.heap.size a len cap) (hb : Below B w1 w2) : Keep w.heap.size w w2 ∧ Cur w2 w.heap.size a len cap := by
  have k2 : Keep w.heap.size w w2 := ⟨hb.os.trans hk.os, hb.tape.trans hk.tape, hb.output.trans hk.output, Nat.le_trans hk.size hb.size, fun j hj hn => (hb.block j (by omega)).trans (hk.block j hj hn)⟩
  obtain ⟨-, i, g, hi, hblk⟩ := hc
  exact ⟨k2, hc0.keep k2, i, g, hi, (hb.block _ hp).trans hblk⟩
/-- Some bytes, as many as asked for. -/
def SomePost (N : Int) (p : Nat) (a : Option Addr) (len cap : Nat) (w : World) (e : Ending) (w' : World) : Prop :=
  ∃ A n c zs, e = .returned (.slice A n c) ∧ (n : Int) ≤ N ∧ Ow 5 .u8 w' w.heap.size w'.heap.size A n c zs ∧ Keep p w w' ∧ Cur w' p a len cap
/-- Bytes that are being drawn. -/
def Drawing (w wr : World) (p : Nat) (a : Option Addr) (len cap : Nat) (k : Nat) (v : Value) : Prop :=
  ∃ A c zs, v = .slice A k c ∧ Ow 5 .u8 wr w.heap.size wr.heap.size A k c zs ∧ Keep p w wr ∧ Cur wr p a len cap
end Go.Proofs.Ytalfihfielgmpaa.draw
