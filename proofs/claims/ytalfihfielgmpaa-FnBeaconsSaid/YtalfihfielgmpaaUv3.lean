/- ReadUvarint of the program. Condition: lengths up to 2^27. -/
import Derived.Test.YtalfihfielgmpaaUv2
namespace Go.Proofs.Ytalfihfielgmpaa.uvs
open Go.RowKit sl enc harn

theorem and127u8 (x : Int) (h0 : 0 ≤ x) (h1 : x ≤ 255) : bits .and .u8 x 127 = x % 128 := by
  obtain ⟨k, rfl⟩ := Int.eq_ofNat_of_zero_le h0
  show IntKind.u8.wrap ((BitVec.ofInt 8 (k : Int) &&& BitVec.ofInt 8 127).toNat : Int) = _
  rw [BitVec.toNat_and]
  have e1 : (BitVec.ofInt 8 (k : Int)).toNat = k := by rw [BitVec.ofInt_natCast, BitVec.toNat_ofNat]; omega
  have e2 : (BitVec.ofInt 8 127).toNat = 2 ^ 7 - 1 := by rfl
  rw [e1, e2, Nat.and_two_pow_sub_one_eq_mod]
  have := IntWalk.u8_in ((k % 2 ^ 7 : Nat) : Int) (by omega)
  rw [this]; omega

theorem implRv (lo hi : Nat) (A : Option Addr) (n cap : Nat) (zs : List Int) (off : Int) (w : World) (h : Rd .u8 w lo hi A n cap zs) (hn : n ≤ 134217728) :
    Calls Try.prog 64 #[.slice A n cap, .int .i64 off] w (RvPost zs off w) := by
  have hlen := h.len
  have hb := h.cap_
  have HR := Lib.hid h
  have HL := Lib.hid hlen
  clear h hlen
  by_cases hoff : 0 ≤ off ∧ off ≤ n
  · have hr := fun W => inRange_yes off 0 n hoff W
    obtain ⟨o, rfl⟩ := Int.eq_ofNat_of_zero_le hoff.1
    have hon : o ≤ n := by omega
    clear hoff
    go_enter Try.func64, Try.ntmps64
    go_wp2_with (first
      | (go_at_call 56; refine (hr _).mono ?_; rintro e w1 ⟨rfl, rfl⟩)
      | (go_at_call 71; refine (minOf _ _ _).mono ?_; rintro e w1 ⟨z, rfl, hz1, hz2, hz3, hb1⟩; obtain ⟨z, rfl⟩ := Int.eq_ofNat_of_zero_le (show 0 ≤ z by omega); have HB1 := Lib.hid hb1; have HZ := Lib.hid (And.intro hz1 (And.intro hz2 hz3)); clear hb1 hz1 hz2 hz3)
      | (go_at_call 70; refine (part lo hi A n cap zs o z _ (HR.out.below HB1.out) (by have := HZ.out; omega) (by have := HZ.out; omega)).mono ?_; rintro e w2 ⟨G, rfl, hg, rfl⟩; have HG := Lib.hid hg; clear hg))
    obtain ⟨m, hm⟩ : ∃ m, z - o = m := ⟨_, rfl⟩
    rw [hm] at HG
    have HM : Hid (o + m ≤ n ∧ (m = 6 ∨ (m < 6 ∧ o + m = n))) := by have := HZ.out; unfold Hid; omega
    have hmn : m ≤ n := by have := HZ.out; omega
    have hm6 : m ≤ 6 := by have := HM.out; omega
    simp only [hm]
    clear hm hr HZ
    go_loop [8, 27] (fun a i => ∃ (k : Nat) (q : Int), i = .int .i64 k ∧ a = .int .i64 q ∧ k ≤ m ∧ Got zs o k q) (fun _ i => m - (intOf i).toNat)
    case atStart => exact ⟨0, 0, rfl, rfl, by omega, Got.start zs o⟩
    case round =>
      obtain ⟨k, q, rfl, rfl, hk, hgot⟩ := hrel
      have HK := Lib.hid hgot
      clear hgot
      by_cases hkm : k < m
      · have hk6 : k < 6 := by omega
        have hok : o + k < n := by have := HM.out; omega
        have hgl := HG.out.at_ hkm
        obtain ⟨b, off0, rfl, g1, g2, hc⟩ := hgl
        have hgd : ((zs.drop o).take m).getD k 0 = zs.getD (o + k) 0 := by
          rw [List.getD_eq_getElem?_getD, List.getD_eq_getElem?_getD, List.getElem?_take, if_pos hkm, List.getElem?_drop]
        rw [hgd] at hc
        clear hgd
        obtain ⟨x, hx⟩ : ∃ x, zs.getD (o + k) 0 = x := ⟨_, rfl⟩
        have hx01 : 0 ≤ x ∧ x ≤ 255 := by
          have h1 := HR.out.wf.getD (i := o + k) (by have := HL.out; omega)
          rw [hx] at h1
          have := bounds_u8 h1; omega
        obtain ⟨hx0, hx1⟩ := hx01
        rw [hx] at hc
        have HX := Lib.hid hx
        obtain ⟨y, hy⟩ : ∃ y, x % 128 = y := ⟨_, rfl⟩
        have ha := and127u8 x hx0 hx1
        rw [hy] at ha
        have hy0 : 0 ≤ y := by omega
        have hy1 : y < 128 := by omega
        obtain ⟨v, hv⟩ : ∃ v, q + y * 128 ^ k = v := ⟨_, rfl⟩
        have hor := or_wrap k q y v HK.out.1 HK.out.2.1 hy0 hy1 hk6 hv
        have hv0 : 0 ≤ v := by have := pow_step HK.out.1 HK.out.2.1 hy0 hy1; omega
        have HY := Lib.hid (And.intro hy hv)
        have hkm2 : (k : Int) < m := by omega
        clear hx hy hv
        by_cases hx128 : x < 128
        · have HD := Lib.hid (HK.out.last (by omega) (by have := HL.out; omega) HX.out hx128 hk6)
          have HYX : Hid (y = x) := by have := HY.out.1; unfold Hid; omega
          by_cases hbad : (x = 0 ∧ 0 < k) ∨ 1000000000000 < v
          · have HE : Hid (rv zs o = (0, 0, false)) := rv_none (by rw [Int.toNat_natCast] at HD; rw [Int.toNat_natCast, HD.out, if_pos (by rw [← HYX.out, HY.out.2, HYX.out]; exact hbad)])
            rcases hbad with ⟨rfl, hk0⟩ | hv1
            · have hkz : ((k : Int) == 0) = false := by simp; omega
              go_wp2
              all_goals
                go_ret3
                exact ⟨ret_three HE.out.symm, HB1.out⟩
            · go_wp2
              all_goals
                go_ret3
                exact ⟨ret_three HE.out.symm, HB1.out⟩
          · have HE : Hid (rv zs o = (v, (o : Int) + ((k + 1 : Nat) : Int), true)) := rv_some (by have := HL.out; omega) (by rw [HD.out, if_neg (by rw [← HYX.out, HY.out.2, HYX.out]; exact hbad), ← HYX.out, HY.out.2])
            have hv1 : v ≤ 1000000000000 := by omega
            by_cases hxz : x = 0
            · have hk0 : (k : Int) ≤ 0 := by omega
              have hz : (x != 0) = false := by simpa using hxz
              have e3 : (v, (o : Int) + 1, true) = rv zs o := by rw [HE.out]; simp; omega
              have E3 := Lib.hid e3
              clear hbad hxz e3
              go_wp2
              all_goals
                go_ret3
                exact ⟨ret_three E3.out, HB1.out⟩
            · have hz : (x != 0) = true := by simpa using hxz
              have e3 : (v, (o : Int) + k + 1, true) = rv zs o := by rw [HE.out]; simp; try omega
              have E3 := Lib.hid e3
              clear hbad hxz e3
              go_wp2
              all_goals
                go_ret3
                exact ⟨ret_three E3.out, HB1.out⟩
        · have HM2 := Lib.hid (HK.out.more (by omega) (by have := HL.out; omega) HX.out (by omega) hx1 hk6)
          go_wp2
          go_round
          case rel => exact ⟨k + 1, v, by go_num, rfl, by omega, by have h := HM2.out; rw [show x - 128 = y by have := HY.out.1; omega, HY.out.2] at h; exact h⟩
          case measure => simp [intOf]; omega
      · obtain rfl : k = m := by omega
        have HE : Hid (rv zs o = (0, 0, false)) := by
          rcases HM.out.2 with h6 | ⟨h6, h7⟩
          · subst h6; exact HK.out.six
          · exact HK.out.end_ (by have := HL.out; rw [Int.toNat_natCast]; omega)
        have hkm2 : ¬ (k : Int) < k := by omega
        go_wp2
        go_ret3
        exact ⟨ret_three HE.out.symm, HB1.out⟩
  · have hr := fun W => inRange_no off 0 n hoff W
    go_enter Try.func64, Try.ntmps64
    go_wp2_with (go_at_call 56; refine (hr _).mono ?_; rintro e w1 ⟨rfl, rfl⟩)
    go_ret3
    exact ⟨ret_three (rv_out (by have := HL.out; omega)).symm, Below.refl _ _⟩
end Go.Proofs.Ytalfihfielgmpaa.uvs
