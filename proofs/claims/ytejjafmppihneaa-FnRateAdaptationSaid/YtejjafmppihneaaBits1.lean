/- Bit strings, program and specification: IsBitString, Weight, Parity, HammingDistance, BitsToInt. Condition: none. -/
import Derived.Test.YtejjafmppihneaaBitm
import Derived.Test.YtejjafmppihneaaRng
namespace Go.Proofs.Ytejjafmppihneaa.bits
open Go.RowKit sl harn bm rng

theorem next_bit {zs : List Int} {k : Nat} {x : Int} (h : ∀ j, j < k → 0 ≤ zs.getD j 0 ∧ zs.getD j 0 ≤ 1) (hx : zs.getD k 0 = x) (h1 : 0 ≤ x) (h2 : x ≤ 1) : ∀ j, j < k + 1 → 0 ≤ zs.getD j 0 ∧ zs.getD j 0 ≤ 1 := fun j hj => by
  rcases Nat.lt_or_ge j k with hjk | hjk
  · exact h j hjk
  · obtain rfl : j = k := by omega
    rw [hx]; exact ⟨h1, h2⟩
theorem ret_bool {a b : Bool} (h : a = b) : Ending.returned (.bool a) = .returned (.bool b) := by rw [h]
theorem take_all {zs : List Int} {n : Nat} (h : zs.length = n) : zs.take n = zs := List.take_of_length_le (by omega)
theorem wt_next {zs : List Int} {k : Nat} {a x : Int} (h : a = wt (zs.take k)) (hk : k < zs.length) (hx : zs.getD k 0 = x) : wt (zs.take (k + 1)) = a + (if x = 1 then 1 else 0) := by
  rw [wt_take zs hk, h, hx]
theorem wt_bd {zs : List Int} {k : Nat} {a : Int} (h : a = wt (zs.take k)) : 0 ≤ a ∧ a ≤ k := by
  have := wt_in (zs.take k)
  rw [h]; simp at this ⊢; omega
/-- Parity. -/
def par (l : List Int) : Int := wt l % 2
end Go.Proofs.Ytejjafmppihneaa.bits
