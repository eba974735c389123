/- The check of bytes: shiftCrc and Crc16, program and specification. Condition: none. -/
import Derived.Test.YthgbmcdfbinpkaaCrcm
import Derived.Test.YthgbmcdfbinpkaaBits1
import Derived.Test.YthgbmcdfbinpkaaDraw
namespace Go.Proofs.Ythgbmcdfbinpkaa.crcs
open Go.RowKit sl harn bm rng crcm

theorem low1 (n : Int) : bits .and .i64 n 1 = n % 2 := draw.low_bits 1 (by omega) n
theorem i64_nat {p : Nat} (h : p < 65536) : (BitVec.ofInt 64 (p : Int)).toNat = p := by rw [BitVec.ofInt_natCast, BitVec.toNat_ofNat]; omega
theorem xor_nat {p q : Nat} (hp : p < 65536) (hq : q < 65536) : bits .xor .i64 (p : Int) (q : Int) = ((p ^^^ q : Nat) : Int) := by
  show IntKind.i64.wrap ((BitVec.ofInt 64 (p : Int) ^^^ BitVec.ofInt 64 (q : Int)).toNat : Int) = _
  rw [BitVec.toNat_xor, i64_nat hp, i64_nat hq, IntKind.wrap_i64]
  have : p ^^^ q < 65536 := Nat.xor_lt_two_pow (n := 16) hp hq
  omega
theorem byt_of_wf {zs : List Int} (h : Wf .u8 zs) : Byt zs := h.u8
theorem st_odd {y : Nat} (h : y % 2 = 1) : st y = y / 2 ^^^ 33800 := if_pos h
theorem st_even {y : Nat} (h : y % 2 = 0) : st y = y / 2 := if_neg (by omega)
theorem ret_num2 {a b : Int} (h : a = b) : Ending.returned (.int .i64 a) = .returned (.int .i64 b) := by rw [h]

theorem shiftCrc (x : Nat) (hx : x < 65536) (w : World) :
    Calls Try.prog 70 #[.int .i64 x] w fun e w' => e = .returned (.int .i64 (sn 8 x : Nat)) ∧ w = w' := by
  have HX := Lib.hid hx
  clear hx
  go_enter Try.func70, Try.ntmps70
  go_wp2
  go_loop [0, 4] (fun r i => ∃ k y : Nat, i = .int .i64 k ∧ r = .int .i64 y ∧ k ≤ 8 ∧ y = sn k x) (fun _ i => 8 - (intOf i).toNat)
  case atStart => exact ⟨0, x, rfl, rfl, by omega, rfl⟩
  case round =>
    obtain ⟨k, y, rfl, rfl, hk, hy⟩ := hrel
    have hy2 : y < 65536 := by rw [hy]; exact sn_lt k HX.out
    have HY := Lib.hid hy
    clear hy
    by_cases hlt : k < 8
    · have hlt2 : (k : Int) < 8 := by omega
      have hl := low1 (y : Int)
      obtain ⟨z, hz⟩ : ∃ z : Nat, z = y / 2 := ⟨_, rfl⟩
      have hz1 : (y : Int) / 2 = z := by omega
      have hz2 : z < 32768 := by omega
      have HZ := Lib.hid hz
      clear hz
      rcases Nat.mod_two_eq_zero_or_one y with h2 | h2
      · have h3 : (y : Int) % 2 = 0 := by omega
        rw [h3] at hl
        clear h3
        go_wp2
        go_round
        case rel => exact ⟨k + 1, z, by go_num, rfl, by omega, by rw [sn_succ, ← HY.out, st_even h2, HZ.out]⟩
        case measure => simp [intOf]; omega
      · have h3 : (y : Int) % 2 = 1 := by omega
        rw [h3] at hl
        have hx := xor_nat (p := z) (q := 33800) (by omega) (by omega)
        obtain ⟨v, hv⟩ : ∃ v : Nat, z ^^^ 33800 = v := ⟨_, rfl⟩
        rw [hv] at hx
        have hx2 : bits .xor .i64 (z : Int) 33800 = v := hx
        have HV := Lib.hid hv
        clear h3 hv hx
        go_wp2
        go_round
        case rel => exact ⟨k + 1, v, by go_num, rfl, by omega, by rw [sn_succ, ← HY.out, st_odd h2, ← HZ.out, HV.out]⟩
        case measure => simp [intOf]; omega
    · have hlt2 : ¬ (k : Int) < 8 := by omega
      obtain rfl : k = 8 := by omega
      go_wp2
      go_ret
      exact ⟨ret_num2 (by rw [HY.out]), rfl⟩

theorem implCrc (zs : List Int) (lo hi : Nat) (A : Option Addr) (n cap : Nat) (w : World) (h : Rd .u8 w lo hi A n cap zs) :
    Calls Try.prog 69 #[.slice A n cap] w fun e w' => e = .returned (.int .i64 (crc zs : Nat)) ∧ w = w' := by
  have hb := h.cap_
  have HR := Lib.hid h
  clear h
  go_enter Try.func69, Try.ntmps69
  go_wp2
  go_loop [3, 8] (fun r i => ∃ k y : Nat, i = .int .i64 k ∧ r = .int .i64 y ∧ k ≤ n ∧ y = reg 65535 (zs.take k)) (fun _ i => n - (intOf i).toNat)
  case atStart => exact ⟨0, 65535, rfl, rfl, by omega, rfl⟩
  case round =>
    obtain ⟨k, y, rfl, rfl, hk, hy⟩ := hrel
    have hy2 : y < 65536 := by rw [hy]; exact reg_lt (by omega) (byt_of_wf (Wf.take HR.out.wf k))
    have HY := Lib.hid hy
    clear hy
    by_cases hlt : k < n
    · obtain ⟨b, off, rfl, h1, h2, hc⟩ := HR.out.at_ hlt
      have hx01 : 0 ≤ zs.getD k 0 ∧ zs.getD k 0 ≤ 255 := by
        have h1 := HR.out.wf.getD (i := k) (by have := HR.out.len; omega)
        have := bounds_u8 h1; omega
      obtain ⟨x, hx⟩ : ∃ x, zs.getD k 0 = x := ⟨_, rfl⟩
      rw [hx] at hc hx01
      obtain ⟨hx0, hx1⟩ := hx01
      obtain ⟨m, rfl⟩ := Int.eq_ofNat_of_zero_le hx0
      have hm : m ≤ 255 := by omega
      have hxr := xor_nat (p := y) (q := m) hy2 (by omega)
      obtain ⟨v, hv⟩ : ∃ v : Nat, y ^^^ m = v := ⟨_, rfl⟩
      rw [hv] at hxr
      have HV := Lib.hid (show v < 65536 by rw [← hv]; exact Nat.xor_lt_two_pow (n := 16) hy2 (by omega))
      have HN := Lib.hid (show reg 65535 (zs.take (k + 1)) = sn 8 v by rw [reg_take _ _ (by rw [HR.out.len]; exact hlt), ← HY.out, hx, by8, Int.toNat_natCast, hv])
      clear hx hv hx0 hx1
      have hlt2 : (k : Int) < n := by omega
      go_wp2_with (go_at_call 70; refine (shiftCrc v HV.out _).mono ?_; rintro e w1 ⟨rfl, rfl⟩)
      go_round
      case rel => exact ⟨k + 1, _, by go_num, rfl, by omega, HN.out.symm⟩
      case measure => simp [intOf]; omega
    · have hlt2 : ¬ (k : Int) < n := by omega
      obtain rfl : k = n := by omega
      have hxr := xor_nat (p := y) (q := 65535) hy2 (by omega)
      obtain ⟨v, hv⟩ : ∃ v : Nat, y ^^^ 65535 = v := ⟨_, rfl⟩
      rw [hv] at hxr
      have hx2 : bits .xor .i64 (y : Int) 65535 = v := hxr
      have HV := Lib.hid hv
      clear hxr hv
      go_wp2
      go_ret
      exact ⟨ret_num2 (by rw [← HV.out, HY.out, bits.take_all HR.out.len]; rfl), rfl⟩

theorem specCrc (zs : List Int) (lo hi : Nat) (A : Option Addr) (n cap : Nat) (w : World) (h : Rd .u8 w lo hi A n cap zs) :
    Calls Try.prog 55 #[.slice A n cap] w fun e w' => e = .returned (.int .i64 (crc zs : Nat)) ∧ w = w' := by
  have hb := h.cap_
  have HR := Lib.hid h
  clear h
  go_enter Try.func55, Try.ntmps55
  go_wp2
  go_loop [3, 4] (fun r i => ∃ k y : Nat, i = .int .i64 k ∧ r = .int .i64 y ∧ k ≤ n ∧ y = reg 65535 (zs.take k)) (fun _ i => n - (intOf i).toNat)
  case atStart => exact ⟨0, 65535, rfl, rfl, by omega, rfl⟩
  case round =>
    obtain ⟨k, y, rfl, rfl, hk, hy⟩ := hrel
    have hy2 : y < 65536 := by rw [hy]; exact reg_lt (by omega) (byt_of_wf (Wf.take HR.out.wf k))
    have HY := Lib.hid hy
    clear hy
    by_cases hlt : k < n
    · obtain ⟨b, off, rfl, h1, h2, hc⟩ := HR.out.at_ hlt
      have hx01 : 0 ≤ zs.getD k 0 ∧ zs.getD k 0 ≤ 255 := by
        have h1 := HR.out.wf.getD (i := k) (by have := HR.out.len; omega)
        have := bounds_u8 h1; omega
      obtain ⟨x, hx⟩ : ∃ x, zs.getD k 0 = x := ⟨_, rfl⟩
      rw [hx] at hc hx01
      obtain ⟨hx0, hx1⟩ := hx01
      obtain ⟨m, rfl⟩ := Int.eq_ofNat_of_zero_le hx0
      have hm : m ≤ 255 := by omega
      have hxr := xor_nat (p := y) (q := m) hy2 (by omega)
      obtain ⟨v, hv⟩ : ∃ v : Nat, y ^^^ m = v := ⟨_, rfl⟩
      rw [hv] at hxr
      have HV := Lib.hid (show v < 65536 by rw [← hv]; exact Nat.xor_lt_two_pow (n := 16) hy2 (by omega))
      have HN := Lib.hid (show reg 65535 (zs.take (k + 1)) = sn 8 v by rw [reg_take _ _ (by rw [HR.out.len]; exact hlt), ← HY.out, hx, by8, Int.toNat_natCast, hv])
      clear hx hv hx0 hx1
      have hlt2 : (k : Int) < n := by omega
      go_wp2
      go_loop [3, 5] (fun r i => ∃ j u : Nat, i = .int .i64 j ∧ r = .int .i64 u ∧ j ≤ 8 ∧ u = sn j v) (fun _ i => 8 - (intOf i).toNat)
      case atStart => exact ⟨0, v, rfl, rfl, by omega, rfl⟩
      case round =>
        clear hxr
        obtain ⟨j, u, rfl, rfl, hj, hu⟩ := hrel
        have hu2 : u < 65536 := by rw [hu]; exact sn_lt j HV.out
        have HU := Lib.hid hu
        clear hu
        by_cases hlj : j < 8
        · have hlj2 : (j : Int) < 8 := by omega
          have hl := low1 (u : Int)
          obtain ⟨z, hz⟩ : ∃ z : Nat, z = u / 2 := ⟨_, rfl⟩
          have hz1 : (u : Int) / 2 = z := by omega
          have hz2 : z < 32768 := by omega
          have HZ := Lib.hid hz
          clear hz
          rcases Nat.mod_two_eq_zero_or_one u with h2 | h2
          · have h3 : (u : Int) % 2 = 0 := by omega
            rw [h3] at hl
            clear h3
            go_wp2
            go_round
            case rel => exact ⟨j + 1, z, by go_num, rfl, by omega, by rw [sn_succ, ← HU.out, st_even h2, HZ.out]⟩
            case measure => simp [intOf]; omega
          · have h3 : (u : Int) % 2 = 1 := by omega
            rw [h3] at hl
            have hx := xor_nat (p := z) (q := 33800) (by omega) (by omega)
            obtain ⟨t, ht⟩ : ∃ t : Nat, z ^^^ 33800 = t := ⟨_, rfl⟩
            rw [ht] at hx
            have hx2 : bits .xor .i64 (z : Int) 33800 = t := hx
            have HT := Lib.hid ht
            clear h3 ht hx
            go_wp2
            go_round
            case rel => exact ⟨j + 1, t, by go_num, rfl, by omega, by rw [sn_succ, ← HU.out, st_odd h2, ← HZ.out, HT.out]⟩
            case measure => simp [intOf]; omega
        · have hlj2 : ¬ (j : Int) < 8 := by omega
          obtain rfl : j = 8 := by omega
          go_wp2
          go_round
          case rel => exact ⟨k + 1, u, by go_num, rfl, by omega, by rw [HU.out, HN.out]⟩
          case measure => simp [intOf]; omega
    · have hlt2 : ¬ (k : Int) < n := by omega
      obtain rfl : k = n := by omega
      have hxr := xor_nat (p := y) (q := 65535) hy2 (by omega)
      obtain ⟨v, hv⟩ : ∃ v : Nat, y ^^^ 65535 = v := ⟨_, rfl⟩
      rw [hv] at hxr
      have hx2 : bits .xor .i64 (y : Int) 65535 = v := hxr
      have HV := Lib.hid hv
      clear hxr hv
      go_wp2
      go_ret
      exact ⟨ret_num2 (by rw [← HV.out, HY.out, bits.take_all HR.out.len]; rfl), rfl⟩
end Go.Proofs.Ythgbmcdfbinpkaa.crcs
