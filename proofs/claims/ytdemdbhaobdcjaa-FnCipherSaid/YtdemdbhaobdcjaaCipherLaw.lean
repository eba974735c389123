/- The law function of the cipher (FnCipher) returns true and leaves what was there. Condition: the argument is a slice of bytes that came in. -/
import Derived.Test.YtdemdbhaobdcjaaCipher2
import Derived.Test.YtdemdbhaobdcjaaDraw5
import Derived.Test.YtdemdbhaobdcjaaSame
namespace Go.Proofs.Ytdemdbhaobdcjaa.cipherLaw
open Go.RowKit sl harn cip

set_option maxRecDepth 100000 in
set_option maxHeartbeats 4000000 in
theorem walk (a : Option Addr) (len cap : Nat) (z0 : List Int) (w : World) (r0 : kit.IsRow .u8 w a len cap z0) :
    Calls Try.prog 3 #[.slice a len cap] w fun e w' => e = .returned (.bool true) ∧ Below w.heap.size w w' := by
  have HC := Lib.hid (draw.code_of_row r0)
  have hlen : (len : Int) ≤ 9223372036854775807 := by have := HC.out.1; omega
  clear r0
  by_cases hbig : 1048576 < (len : Int)
  · go_enter Try.func3, Try.ntmps3
    go_wp2
    go_ret
    exact ⟨rfl, Below.refl _ _⟩
  go_enter Try.func3, Try.ntmps3
  go_wp2_with (go_at_call 13; go_in)
  clear hbig
  (with_reducible refine (draw.drawEncrypt _ a len cap HC.out).mono ?_)
  rintro e w1 ⟨k, A, n, c, zs, rfl, hk, hn, ho, hb⟩
  have O1 := Lib.hid ho
  have N1 := Lib.hid (show n ≤ 67108864 by omega)
  have B1 := Lib.hid hb
  have HK := Lib.hid (show (Lit.int .i64 k).wf = true from WalkArith.wf_i64 (by omega))
  have LN := Lib.hid ho.len
  have D1 := Lib.hid (dec_enc k ho.wf)
  have D2 := Lib.hid (enc_dec k ho.wf)
  clear hb ho hn hk
  go_wp2_with fail
  (with_reducible refine (implEnc k HK.out zs _ _ A n c _ O1.out.rd N1.out).mono ?_)
  rintro e w2 ⟨B, m, d, rfl, ho, hb⟩
  have O2 := Lib.hid (O1.out.below hb)
  have Q2 := Lib.hid ho
  have M2 := Lib.hid (show m ≤ 67108864 by have h1 := ho.len; rw [enc_len, LN.out] at h1; have := N1.out; omega)
  have B2 := Lib.hid (B1.out.trans (hb.mono B1.out.size))
  clear hb ho B1 O1
  go_wp2_with fail
  (with_reducible refine (implDec k HK.out (enc k zs) _ _ B m d _ Q2.out.rd M2.out).mono ?_)
  rintro e w3 ⟨C, q, f, rfl, ho, hb⟩
  rw [D1.out] at ho
  have O3 := Lib.hid (O2.out.below hb)
  have Q3 := Lib.hid ho
  have B3 := Lib.hid (B2.out.trans (hb.mono B2.out.size))
  clear hb ho B2 O2 Q2
  go_wp2_with fail
  (with_reducible refine (sameB_yes zs _ _ _ _ C A q f n c _ Q3.out.rd O3.out.rd).mono ?_)
  rintro e w4 ⟨rfl, hb⟩
  have O4 := Lib.hid (O3.out.below hb)
  have B4 := Lib.hid (B3.out.trans (hb.mono B3.out.size))
  clear hb B3 O3 Q3
  go_wp2_with fail
  (with_reducible refine (implDec k HK.out zs _ _ A n c _ O4.out.rd N1.out).mono ?_)
  rintro e w5 ⟨G, m5, d5, rfl, ho, hb⟩
  have O5 := Lib.hid (O4.out.below hb)
  have Q5 := Lib.hid ho
  have M5 := Lib.hid (show m5 ≤ 67108864 by have h1 := ho.len; rw [dec_len, LN.out] at h1; have := N1.out; omega)
  have B5 := Lib.hid (B4.out.trans (hb.mono B4.out.size))
  clear hb ho B4 O4
  go_wp2_with fail
  (with_reducible refine (implEnc k HK.out (dec k zs) _ _ G m5 d5 _ Q5.out.rd M5.out).mono ?_)
  rintro e w6 ⟨H, m6, d6, rfl, ho, hb⟩
  rw [D2.out] at ho
  have O6 := Lib.hid (O5.out.below hb)
  have Q6 := Lib.hid ho
  have B6 := Lib.hid (B5.out.trans (hb.mono B5.out.size))
  clear hb ho B5 O5 Q5
  go_wp2_with fail
  (with_reducible refine (sameB_yes zs _ _ _ _ H A m6 d6 n c _ Q6.out.rd O6.out.rd).mono ?_)
  rintro e w7 ⟨rfl, hb⟩
  have O7 := Lib.hid (O6.out.below hb)
  have B7 := Lib.hid (B6.out.trans (hb.mono B6.out.size))
  clear hb B6 O6 Q6
  go_wp2_with fail
  (with_reducible refine (implEnc k HK.out zs _ _ A n c _ O7.out.rd N1.out).mono ?_)
  rintro e w8 ⟨J, m8, d8, rfl, ho, hb⟩
  obtain rfl : m8 = n := by have h1 := ho.len; rw [enc_len, LN.out] at h1; exact h1.symm
  have B8 := Lib.hid (B7.out.trans (hb.mono B7.out.size))
  clear hb ho
  go_wp2_with fail
  go_ret
  exact ⟨rfl, B8.out⟩
end Go.Proofs.Ytdemdbhaobdcjaa.cipherLaw
