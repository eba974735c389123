/- The check of bytes: shiftCrc and Crc16, program and specification. Condition: none. -/
import Derived.Test.YtebbnopconbnlaaCrcm
import Derived.Test.YtebbnopconbnlaaBits1
import Derived.Test.YtebbnopconbnlaaDraw
namespace Go.Proofs.Ytebbnopconbnlaa.crcs
open Go.RowKit sl harn bm rng crcm

theorem low1 (n : Int) : bits .and .i64 n 1 = n % 2 := draw.low_bits 1 (by omega) n
theorem i64_nat {p : Nat} (h : p < 65536) : (BitVec.ofInt 64 (p : Int)).toNat = p := by rw [BitVec.ofInt_natCast, BitVec.toNat_ofNat]; omega
theorem xor_nat {p q : Nat} (hp : p < 65536) (hq : q < 65536) : bits .xor .i64 (p : Int) (q : Int) = ((p ^^^ q : Nat) : Int) := by
  show IntKind.i64.wrap ((BitVec.ofInt 64 (p : Int) ^^^ BitVec.ofInt 64 (q : Int)).toNat : Int) = _
  rw [BitVec.toNat_xor, i64_nat hp, i64_nat hq, IntKind.wrap_i64]
  have : p ^^^ q < 65536 := Nat.xor_lt_two_pow (n := 16) hp hq
  omega
theorem byt_of_wf {zs : List Int} (h : Wf .u8 zs) : Byt zs := h.u8
theorem st_odd {y : Nat} (h : y % 2 = 1) : st y = y / 2 ^^^ 33800 := if_pos h
theorem st_even {y : Nat} (h : y % 2 = 0) : st y = y / 2 := if_neg (by omega)
theorem ret_num2 {a b : Int} (h : a = b) : Ending.returned (.int .i64 a) = .returned (.int .i64 b) := by rw [h]

end Go.Proofs.Ytebbnopconbnlaa.crcs
