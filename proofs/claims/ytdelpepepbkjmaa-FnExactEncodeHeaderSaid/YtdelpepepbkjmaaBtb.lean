/- BytesToBits of the specification. Condition: lengths up to 2^26. -/
import Derived.Test.YtdelpepepbkjmaaBits4
namespace Go.Proofs.Ytdelpepepbkjmaa.bits
open Go.RowKit sl harn bm rng

theorem btb_pos (zs : List Int) {k j : Nat} (hk : k < zs.length) (hj : j < 8) : (btb zs).getD (8 * k + j) 0 = zs.getD k 0 / 2 ^ j % 2 := by
  have e : zs = zs.take k ++ (zs.getD k 0 :: zs.drop (k + 1)) := by
    rw [List.getD_eq_getElem?_getD, List.getElem?_eq_getElem hk, Option.getD_some, ← List.drop_eq_getElem_cons hk, List.take_append_drop]
  have e2 : btb zs = btb (zs.take k) ++ (dig (zs.getD k 0) 8 ++ btb (zs.drop (k + 1))) := by
    conv => lhs; rw [e]
    rw [btb_append]; rfl
  rw [e2, List.getD_eq_getElem?_getD, List.getElem?_append_right (by rw [btb_len]; simp; omega), btb_len, List.length_take, Nat.min_eq_left (by omega), Nat.add_sub_cancel_left,
    List.getElem?_append_left (by rw [dig_len]; exact hj), ← List.getD_eq_getElem?_getD, dig_at _ hj]
set_option maxRecDepth 100000 in
set_option maxHeartbeats 4000000 in
theorem specBtb (zs : List Int) (lo hi : Nat) (A : Option Addr) (n cap : Nat) (w : World) (h : Rd .u8 w lo hi A n cap zs) (hn : n ≤ 67108864) :
    Calls Try.prog 57 #[.slice A n cap] w (SlPost 3 .i64 w (btb zs)) := by
  have hb := h.cap_
  have HR := Lib.hid h
  clear h
  obtain ⟨i0, hi0, hz0, hz1, hz2⟩ := info_parts intInfo
  have HZ := Lib.hid (And.intro hi0 (And.intro hz0 (And.intro hz1 hz2)))
  clear hz2 hz1 hz0 hi0
  go_enter Try.func57, Try.ntmps57
  go_wp2
  go_loopw [3, 4] (fun v i wr => ∃ k : Nat, i = .int .i64 k ∧ k ≤ n ∧ Gath 3 .i64 w wr (btb zs) (8 * k) v) (fun _ i _ => n - (intOf i).toNat)
  case atStart => exact ⟨0, rfl, by omega, Gath.start _ _ _ _⟩
  case round =>
    obtain ⟨k, rfl, hk, C, c, rfl, ho, hb⟩ := hrel
    have HO := Lib.hid ho
    have HB := Lib.hid hb
    clear ho hb
    by_cases hlt : k < n
    · have hlt2 : (k : Int) < n := by omega
      go_wp2
      go_loopw [3, 5] (fun v i wr => ∃ j : Nat, i = .int .i64 j ∧ j ≤ 8 ∧ Gath 3 .i64 w wr (btb zs) (8 * k + j) v) (fun _ i _ => 8 - (intOf i).toNat)
      case atStart => exact ⟨0, rfl, by omega, _, _, rfl, HO.out, HB.out⟩
      case round =>
        clear HO HB
        obtain ⟨j, rfl, hj, C, c, rfl, ho, hb⟩ := hrel
        have HO := Lib.hid ho
        have HB := Lib.hid hb
        clear ho hb
        by_cases hlt3 : j < 8
        · have hlt4 : (j : Int) < 8 := by omega
          obtain ⟨b, off, rfl, h1, h2, hc⟩ := (HR.out.below HB.out).at_ hlt
          have hx01 : 0 ≤ zs.getD k 0 ∧ zs.getD k 0 ≤ 255 := by
            have h1 := HR.out.wf.getD (i := k) (by have := HR.out.len; omega)
            have := bounds_u8 h1; omega
          have hlen := HR.out.len
          have hx := btb_pos zs (k := k) (by omega) hlt3
          obtain ⟨x, hxe⟩ : ∃ x, zs.getD k 0 = x := ⟨_, rfl⟩
          rw [hxe] at hc hx01 hx
          obtain ⟨hx0, hx1⟩ := hx01
          have hbit := low1 (x / 2 ^ j)
          obtain ⟨z, hz⟩ : ∃ z, x / 2 ^ j % 2 = z := ⟨_, rfl⟩
          rw [hz] at hbit hx
          have HX := Lib.hid (show (btb zs).take (8 * k + j + 1) = (btb zs).take (8 * k + j) ++ [z] by rw [take_one (by rw [btb_len]; omega), hx])
          have HV := Lib.hid (show (Lit.int .i64 z).wf = true by rw [← hz]; exact WalkArith.wf_i64 (by omega))
          clear hx hxe hz
          go_wp2_with (at_builtin; refine wpList_app _ rfl _ _ 27 rfl 3 i0 _ .i64 Try.underlying27 HZ.out.1 HZ.out.2.1 HZ.out.2.2.1 (by rw [HZ.out.2.2.2]; omega) rfl rfl rfl (HO.out.alloc _) (Rd.one .i64 _ _ _ HV.out) (by omega) (by have := HB.out.size; simp; omega) ?_; intro A1 cap1 w1 ho hb1; have HO1 := Lib.hid ho; have HB1 := Lib.hid ((HB.out.alloc HB.out.size _).trans hb1); clear ho hb1)
          go_roundw
          case rel => exact ⟨j + 1, by go_num, by omega, A1, cap1, rfl, by rw [← Nat.add_assoc, HX.out]; exact HO1.out, HB1.out⟩
          case measure => simp [intOf]; omega
        · have hlt4 : ¬ (j : Int) < 8 := by omega
          obtain rfl : j = 8 := by omega
          go_wp2
          go_roundw
          case rel => exact ⟨k + 1, by go_num, by omega, C, c, rfl, HO.out, HB.out⟩
          case measure => simp [intOf]; omega
    · have hlt2 : ¬ (k : Int) < n := by omega
      go_wp2
      go_ret
      obtain rfl : k = n := by omega
      exact Gath.done HO.out HB.out (by rw [btb_len, HR.out.len])

end Go.Proofs.Ytdelpepepbkjmaa.bits
