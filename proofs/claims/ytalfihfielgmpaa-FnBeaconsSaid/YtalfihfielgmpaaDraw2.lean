/- What the draws of numbers and strings return, in ranges. Condition: the bytes that are drawn from are a slice that came in. -/
import Derived.Test.YtalfihfielgmpaaDraw
namespace Go.Proofs.Ytalfihfielgmpaa.draw
open Go.RowKit

def okInt (lo hi : Int) : Value → Bool
  | .int .i64 z => decide (lo ≤ z ∧ z ≤ hi)
  | _ => false
theorem of_okInt {lo hi : Int} {v : Value} (h : okInt lo hi v = true) : ∃ z, v = .int .i64 z ∧ (lo ≤ z ∧ z ≤ hi) := by
  unfold okInt at h
  split at h
  · exact ⟨_, rfl, of_decide_eq_true h⟩
  · cases h
theorem row_new {P : Value → Prop} {ok : Value → Bool} (hok : ∀ v, ok v = true → P v) (w : World) (p : Nat) (hp : p < w.heap.size) (vs : Array Value) (t : TypeId) (n : Nat) (hn : vs.size = n) (ha : vs.toList.all ok = true) :
    Row P (w.alloc (.cells vs t)) p w.heap.size n := by
  have hb : (w.alloc (.cells vs t)).heap[w.heap.size]? = some (.cells vs t (0, 0)) := by show (w.heap.push _)[w.heap.size]? = _; simp
  refine ⟨by omega, by simp, fun i hi => ⟨vs[i]'(by omega), hok _ (List.all_eq_true.1 ha _ (by simp)), ?_⟩⟩
  have hi2 : i < vs.size := by omega
  simp only [World.cell?, hb]
  exact Array.getElem?_eq_getElem hi2
theorem Cur.lt {w : World} {p : Nat} {a : Option Addr} {len cap : Nat} (h : Cur w p a len cap) : p < w.heap.size := by
  obtain ⟨-, i, g, -, hb⟩ := h
  exact lt_of_block hb
theorem Cur.alloc {w : World} {p : Nat} {a : Option Addr} {len cap : Nat} (h : Cur w p a len cap) (o : Obj) : Cur (w.alloc o) p a len cap := by
  have hp := h.lt
  obtain ⟨hc, i, g, hi, hb⟩ := h
  exact ⟨hc.keep ((Keep.refl p w).alloc o), i, g, hi, by rw [Below.heap_alloc w o p hp]; exact hb⟩

/-- A number in a range. -/
def IntPost (lo hi : Int) (p : Nat) (a : Option Addr) (len cap : Nat) (w : World) (e : Ending) (w' : World) : Prop := ∃ z : Int, e = .returned (.int .i64 z) ∧ lo ≤ z ∧ z ≤ hi ∧ Keep p w w' ∧ Cur w' p a len cap

theorem pickIn (lo hi : Int) (n : Nat) (hn0 : 0 < n) (hn : (n : Int) ≤ 9223372036854775807) (w : World) (p : Nat) (a : Option Addr) (len cap : Nat) (hc : Cur w p a len cap) (vs : Array Value) (hs : vs.size = n) (ha : vs.toList.all (okInt lo hi) = true) :
    Calls Try.prog 61 #[.pointer (some ⟨p, 0, none⟩), .slice (some ⟨w.heap.size, 0, none⟩) n n] (w.alloc (.cells vs 3)) (IntPost lo hi p a len cap w) := by
  refine (pickInt (fun z => lo ≤ z ∧ z ≤ hi) n hn0 hn _ p w.heap.size a len cap n (row_new (fun v => of_okInt) w p hc.lt vs 3 n hs ha) (hc.alloc _)).mono ?_
  rintro e w1 ⟨v, rfl, ⟨z, rfl, h1, h2⟩, hk, hc1⟩
  exact ⟨z, rfl, h1, h2, ((Keep.refl p w).alloc _).trans hk, hc1⟩

theorem keep_below {w w1 w2 : World} (h : Keep w.heap.size w w1) (h2 : Keep w.heap.size w1 w2) : Below w.heap.size w w2 :=
  have k := h.trans h2
  ⟨k.os, k.tape, k.output, k.size, fun j hj => k.block j hj (by omega)⟩
theorem code_later {w w' : World} {a : Option Addr} {len : Nat} (h : Code w w.heap.size a len) (hb : Below w.heap.size w w') : Code w' w'.heap.size a len := by
  refine ⟨h.1, fun hl => ?_⟩
  obtain ⟨b, off, e, -, hlt, hc⟩ := h.2 hl
  have := hb.size
  refine ⟨b, off, e, by omega, by omega, fun i hi => ?_⟩
  obtain ⟨z, h1, h2, h3⟩ := hc i hi
  exact ⟨z, h1, h2, by rw [hb.cell (p := ⟨b, off + i, none⟩) hlt]; exact h3⟩
end Go.Proofs.Ytalfihfielgmpaa.draw
