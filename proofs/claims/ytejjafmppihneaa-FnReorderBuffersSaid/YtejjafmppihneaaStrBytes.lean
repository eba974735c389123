/- The bytes of a string in new memory ('[]byte(s)'), as a slice that is read. Condition: the string fits. -/
import Derived.Test.YtejjafmppihneaaApp
import Derived.Laws.IdiomStrings
namespace Go.Proofs.Ytejjafmppihneaa.sl
open Go.RowKit

/-- The bytes of a string, as numbers. -/
def sb (s : ByteArray) : List Int := s.data.toList.map fun b => (b.toNat : Int)
theorem sb_len (s : ByteArray) : (sb s).length = s.size := by unfold sb; rw [List.length_map, Array.length_toList]; rfl
theorem sb_wf (s : ByteArray) : Wf .u8 (sb s) := Wf.of_u8 fun z hz => by
  obtain ⟨b, _, rfl⟩ := List.mem_map.1 hz
  have := b.toNat_lt
  omega
theorem sb_at (s : ByteArray) {i : Nat} (h : i < s.data.size) : (sb s).getD i 0 = (s.data[i].toNat : Int) := by
  rw [sb, List.getD_eq_getElem?_getD, List.getElem?_map, Array.getElem?_toList, Array.getElem?_eq_getElem h]; rfl
theorem Rd.bytes (s : ByteArray) (w : World) (E : TypeId) (c : Nat) (fz : Nat × Nat) (h1 : s.size ≤ c) (h2 : c ≤ maxLen) :
    Rd .u8 (w.alloc (.cells (bytesRow s c) E fz)).drew w.heap.size (w.heap.size + 1) (some ⟨w.heap.size, 0, none⟩) s.size c (sb s) := by
  refine ⟨sb_len s, h1, h2, by simp, sb_wf s, fun _ => ⟨_, 0, rfl, Nat.le_refl _, by omega, fun i hi => ?_⟩⟩
  have hb : (w.alloc (.cells (bytesRow s c) E fz)).drew.heap[w.heap.size]? = some (.cells (bytesRow s c) E fz) := by
    show (w.heap.push _)[w.heap.size]? = _
    simp
  have hi2 : i < s.data.size := hi
  simp only [World.cell?, hb, Nat.zero_add]
  rw [bytesRow_at s c i hi2, sb_at s hi2]; rfl
end Go.Proofs.Ytejjafmppihneaa.sl
