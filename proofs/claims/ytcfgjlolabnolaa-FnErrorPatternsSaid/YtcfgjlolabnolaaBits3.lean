/- Bit strings, program and specification: IntToBits and XorBits. Condition: lengths up to 2^26. -/
import Derived.Test.YtcfgjlolabnolaaBits2
import Derived.Test.YtcfgjlolabnolaaDraw
import Derived.Deep.RegionWith
import Derived.Deep.RegionHeld3
namespace Go.Proofs.Ytcfgjlolabnolaa.bits
open Go.RowKit sl harn bm rng

theorem low1 (n : Int) : bits .and .i64 n 1 = n % 2 := draw.low_bits 1 (by omega) n
theorem empty_post (E : TypeId) (k : IntKind) (w : World) : SlPost E k w [] (.returned (.slice (some ⟨w.heap.size, 0, none⟩) 0 0)) (w.alloc (.cells #[] E)) :=
  ⟨_, _, _, rfl, (Ow.empty E k w).up, (Below.refl _ _).alloc (Nat.le_refl _) _⟩
theorem itb_at {n : Int} {m k : Nat} (h0 : 0 ≤ n) (hm : m ≤ 40) (hk : k < m) : (itb n m).getD k 0 = n / 2 ^ k % 2 := by
  rw [itb_yes h0 (by omega), Int.toNat_natCast, dig_at n hk]
theorem itb_len_in {n : Int} {m : Nat} (h0 : 0 ≤ n) (hm : m ≤ 40) : (itb n m).length = m := by
  rw [itb_yes h0 (by omega), Int.toNat_natCast, dig_len]
/-- A list that is being gathered by appends. -/
def Gath (E : TypeId) (kd : IntKind) (w wr : World) (zs : List Int) (k : Nat) (v : Value) : Prop := ∃ A c, v = .slice A k c ∧ Ow E kd wr w.heap.size wr.heap.size A k c (zs.take k) ∧ Below w.heap.size w wr
theorem Gath.start (E : TypeId) (kd : IntKind) (w : World) (zs : List Int) : Gath E kd w (w.alloc (.cells #[] E)) zs 0 (.slice (some ⟨w.heap.size, 0, none⟩) 0 0) :=
  ⟨_, _, rfl, (Ow.empty E kd w).up, (Below.refl _ _).alloc (Nat.le_refl _) _⟩
theorem take_one {zs : List Int} {k : Nat} (h : k < zs.length) : zs.take (k + 1) = zs.take k ++ [zs.getD k 0] := by
  rw [List.take_add_one, List.getElem?_eq_getElem h, List.getD_eq_getElem?_getD, List.getElem?_eq_getElem h]; rfl
theorem Gath.done {E : TypeId} {kd : IntKind} {w wr : World} {zs : List Int} {k : Nat} {A : Option Addr} {c : Nat} (ho : Ow E kd wr w.heap.size wr.heap.size A k c (zs.take k)) (hb : Below w.heap.size w wr) (hl : zs.length = k) : SlPost E kd w zs (.returned (.slice A k c)) wr := by
  rw [take_all hl] at ho
  exact ⟨_, _, _, rfl, ho, hb⟩
end Go.Proofs.Ytcfgjlolabnolaa.bits
