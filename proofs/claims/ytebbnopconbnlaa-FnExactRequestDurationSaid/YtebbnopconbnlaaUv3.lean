/- ReadUvarint of the program. Condition: lengths up to 2^27. -/
import Derived.Test.YtebbnopconbnlaaUv2
namespace Go.Proofs.Ytebbnopconbnlaa.uvs
open Go.RowKit sl enc harn

theorem and127u8 (x : Int) (h0 : 0 ≤ x) (h1 : x ≤ 255) : bits .and .u8 x 127 = x % 128 := by
  obtain ⟨k, rfl⟩ := Int.eq_ofNat_of_zero_le h0
  show IntKind.u8.wrap ((BitVec.ofInt 8 (k : Int) &&& BitVec.ofInt 8 127).toNat : Int) = _
  rw [BitVec.toNat_and]
  have e1 : (BitVec.ofInt 8 (k : Int)).toNat = k := by rw [BitVec.ofInt_natCast, BitVec.toNat_ofNat]; omega
  have e2 : (BitVec.ofInt 8 127).toNat = 2 ^ 7 - 1 := by rfl
  rw [e1, e2, Nat.and_two_pow_sub_one_eq_mod]
  have := IntWalk.u8_in ((k % 2 ^ 7 : Nat) : Int) (by omega)
  rw [this]; omega

end Go.Proofs.Ytebbnopconbnlaa.uvs
