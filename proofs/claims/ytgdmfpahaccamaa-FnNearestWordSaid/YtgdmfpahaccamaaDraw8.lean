/- The draws of stage 6: coded bits with two positions, and symbols. Condition: the code is read. -/
import Derived.Test.YtgdmfpahaccamaaDraw6
import Derived.Test.YtgdmfpahaccamaaCnv2
namespace Go.Proofs.Ytgdmfpahaccamaa.draw
open Go.RowKit sl harn

theorem In.isb {zs : List Int} (h : In 0 1 zs) : bm.isb zs = true := (bm.isb_iff zs).2 h
theorem conv_in (l : List Int) : In (-1) 3 (cvm.conv l) := fun z hz => by have := cvm.conv_bit l z hz; omega
/-- Bits, and two positions in their code word. -/
def CodedPost (w : World) (e : Ending) (w' : World) : Prop :=
  ∃ (A : Option Addr) (n c : Nat) (zs : List Int) (i j : Int), e = .returned (.tuple #[.slice A n c, .int .i64 i, .int .i64 j]) ∧ n ≤ 1000 ∧ (0 ≤ i ∧ i < 2 * ((n : Int) + 2)) ∧ (0 ≤ j ∧ j < 2 * ((n : Int) + 2)) ∧ bm.isb zs = true ∧ Ow 3 .i64 w' w.heap.size w'.heap.size A n c zs ∧ Below w.heap.size w w'
set_option maxRecDepth 100000 in
theorem drawCoded (w : World) (a : Option Addr) (len cap : Nat) (hc : Code w w.heap.size a len) :
    Calls Try.prog 12 #[.slice a len cap] w (CodedPost w) := by
  have C0 := Lib.hid hc
  clear hc
  go_enter Try.func12, Try.ntmps12
  go_wp2_with fail
  (with_reducible refine (new _ a len cap C0.out).mono ?_)
  rintro e w1 ⟨rfl, hk, hs, hc⟩
  have K1 := Lib.hid hk
  have C1 := Lib.hid hc
  have S1 := Lib.hid hs
  clear hk hc hs
  go_wp2_with fail
  (with_reducible refine (below 12 (by omega) _ w.heap.size a len cap C1.out).mono ?_)
  rintro e w3 ⟨x, rfl, hx0, hx1, hk, hc⟩
  have hx := hx1 (by omega)
  have K3 := Lib.hid (K1.out.trans hk)
  have S3 := Lib.hid (Nat.lt_of_lt_of_le S1.out hk.size)
  have C3 := Lib.hid hc
  clear hk hc hx1 C1 K1 S1
  go_wp2_with fail
  (with_reducible refine (bits4 _ (by omega) (by omega) _ w.heap.size a len cap C3.out).mono ?_)
  rintro e w4 ⟨A, n, c, zs, rfl, hn, ho, hi, hk, hc⟩
  have K4 := Lib.hid (K3.out.trans hk)
  have S4 := Lib.hid (Nat.lt_of_lt_of_le S3.out hk.size)
  have C4 := Lib.hid hc
  have O4 := Lib.hid ho
  have I4 := Lib.hid (In.isb hi)
  have P4 := Lib.hid S3.out
  clear hk hc ho hi C3 K3
  go_wp2_with fail
  (with_reducible refine (cvs.specEnl n _).mono ?_)
  rw [cvm.enl_yes (show 0 ≤ (n : Int) ∧ (n : Int) ≤ 1000000000000 by omega)]
  rintro e w5 ⟨rfl, rfl⟩
  go_wp2_with fail
  (with_reducible refine (below (2 * ((n : Int) + 2)) (by omega) _ w.heap.size a len cap C4.out).mono ?_)
  rintro e w5 ⟨i, rfl, hi0, hi1, hk, hc⟩
  have hi := hi1 (by omega)
  have K5 := Lib.hid (K4.out.trans hk)
  have O5 := Lib.hid (ow_keep O4.out hk P4.out)
  have C5 := Lib.hid hc
  clear hk hc hi1 C4 K4 O4
  go_wp2_with fail
  (with_reducible refine (below (2 * ((n : Int) + 2)) (by omega) _ w.heap.size a len cap C5.out).mono ?_)
  rintro e w6 ⟨j, rfl, hj0, hj1, hk, hc⟩
  have hj := hj1 (by omega)
  have O6 := Lib.hid ((ow_keep O5.out hk P4.out).up.down (lo2 := w.heap.size) (Nat.le_of_lt S3.out))
  have B6 := Lib.hid (keep_below K5.out hk)
  clear hk hc hj1 C5 K5 O5
  go_wp2_with fail
  go_ret3
  exact ⟨_, _, _, zs, _, _, rfl, hn, ⟨hi0, hi⟩, ⟨hj0, hj⟩, I4.out, O6.out, B6.out⟩
/-- Symbols being changed. -/
def Changing (w wr : World) (p : Nat) (a : Option Addr) (len cap : Nat) (A : Option Addr) (n c : Nat) : Prop :=
  ∃ zs, Ow 3 .i64 wr w.heap.size wr.heap.size A n c zs ∧ In (-1) 3 zs ∧ Keep p w wr ∧ Cur wr p a len cap
set_option maxRecDepth 100000 in
set_option maxHeartbeats 4000000 in
theorem syms6 (w : World) (p : Nat) (a : Option Addr) (len cap : Nat) (hc : Cur w p a len cap) :
    Calls Try.prog 46 #[.pointer (some ⟨p, 0, none⟩)] w (SomeInts (-1) 3 3000 p a len cap w) := by
  obtain ⟨i0, hi0, hz0, hz1, hz2⟩ := info_parts intInfo
  have HZ := Lib.hid (And.intro hi0 (And.intro hz0 (And.intro hz1 hz2)))
  have C0 := Lib.hid hc
  have P0 := Lib.hid hc.lt
  clear hc hi0 hz0 hz1 hz2
  go_enter Try.func46, Try.ntmps46
  go_wp2_with fail
  (with_reducible refine (below 12 (by omega) _ p a len cap C0.out).mono ?_)
  rintro e w1 ⟨x, rfl, hx0, hx1, hk, hc⟩
  have hx := hx1 (by omega)
  have K1 := Lib.hid hk
  have C1 := Lib.hid hc
  clear hk hc hx1
  go_wp2_with fail
  (with_reducible refine (bits4 _ (by omega) (by omega) _ p a len cap C1.out).mono ?_)
  rintro e w2 ⟨A0, n0, c0, zs, rfl, hn, ho, hi, hk, hc⟩
  have K2 := Lib.hid (K1.out.trans hk)
  have C2 := Lib.hid hc
  have O2 := Lib.hid ho
  have I2 := Lib.hid (In.isb hi)
  clear hk hc ho hi C1 K1
  go_wp2_with fail
  (with_reducible refine (cvs.specCv zs _ _ A0 n0 c0 _ O2.out.rd (by omega)).mono ?_)
  rintro e w3 ⟨A, n, c, rfl, ho, hb⟩
  have hnn : n = 2 * (n0 + 2) := by have h1 := ho.len; rw [cvm.conv_len_yes I2.out, O2.out.len] at h1; omega
  have hn3 : n ≤ 2004 := by omega
  have hn4 : 0 < n := by omega
  clear hnn
  have HB := Lib.hid (cur_then C0.out.1 P0.out K2.out C2.out (hb.mono K2.out.size))
  have K3 := Lib.hid HB.out.1
  have C3 := Lib.hid HB.out.2
  have O3 := Lib.hid (ho.down (lo2 := w.heap.size) K2.out.size)
  clear hb ho HB O2 C2 K2
  go_wp2_with fail
  (with_reducible refine (below 4 (by omega) _ p a len cap C3.out).mono ?_)
  rintro e w4 ⟨y, rfl, hy0, hy1, hk, hc⟩
  have hy := hy1 (by omega)
  have K4 := Lib.hid (K3.out.trans hk)
  have C4 := Lib.hid hc
  have O4 := Lib.hid (ow_keep O3.out hk P0.out).up
  clear hk hc hy1 C3 K3 O3
  obtain ⟨b, rfl⟩ : ∃ b, A = some ⟨b, 0, none⟩ := by
    rcases O4.out.form with ⟨_, h0, _⟩ | ⟨g, cur, h, _⟩
    · omega
    · exact ⟨g, h⟩
  have hbl : w.heap.size ≤ b := by
    rcases O4.out.form with ⟨h, _⟩ | ⟨g, cur, h, g1, _⟩
    · cases h
    · injection h with h; injection h with h _; omega
  have HBL := Lib.hid hbl
  clear hbl
  go_wp2_with fail
  go_loopw [4] (fun i wr => ∃ y : Int, i = .int .i64 y ∧ 0 ≤ y ∧ y ≤ 4 ∧ Changing w wr p a len cap (some ⟨b, 0, none⟩) n c) (fun i _ => (intOf i).toNat)
  case atStart => exact ⟨y, rfl, hy0, by omega, _, O4.out, conv_in _, K4.out, C4.out⟩
  case round =>
    clear O4 K4 C4 hy0 hy
    obtain ⟨y, rfl, hy0, hy4, ys, ho, hi, hk, hc⟩ := hrel
    have OY := Lib.hid ho
    have IY := Lib.hid hi
    have KY := Lib.hid hk
    have CY := Lib.hid hc
    clear ho hi hk hc
    by_cases hlt : 0 < y
    · go_wp2_with fail
      (with_reducible refine (below n (by omega) _ p a len cap CY.out).mono ?_)
      rintro e w5 ⟨q, rfl, hq0, hq1, hk, hc⟩
      have hq2 := hq1 (by omega)
      obtain ⟨j, rfl⟩ := Int.eq_ofNat_of_zero_le hq0
      have K5 := Lib.hid (KY.out.trans hk)
      have C5 := Lib.hid hc
      have O5 := Lib.hid (ow_keep OY.out hk P0.out).up
      clear hk hc hq1 CY KY OY
      go_wp2_with fail
      (with_reducible refine (below 3 (by omega) _ p a len cap C5.out).mono ?_)
      rintro e w6 ⟨z, rfl, hz0, hz1, hk, hc⟩
      have hz2 := hz1 (by omega)
      have K6 := Lib.hid (K5.out.trans hk)
      have C6 := Lib.hid hc
      have O6 := Lib.hid (ow_keep O5.out hk P0.out).up
      have hcell := cell_of (ow_keep O5.out hk P0.out) (show j < n by omega)
      have hfree := (ow_keep O5.out hk P0.out).free rfl j
      have hb6 := Lib.hid (show Below w.heap.size w6 (w6.setCell ⟨b, j, none⟩ (.int .i64 z)) from (Below.refl _ _).setCell (p := ⟨b, j, none⟩) HBL.out _)
      have HB6 := Lib.hid (cur_then C0.out.1 P0.out K6.out C6.out hb6.out)
      have O7 := Lib.hid (ow_set O6.out j z (WalkArith.wf_i64 (by omega))).up
      have I7 := Lib.hid (IY.out.set j (show -1 ≤ z by omega) (show z ≤ 3 by omega))
      clear hk hc hz1 C5 K5 O5 O6 K6 C6 hb6
      go_wp2_with fail
      go_roundw
      case rel => exact ⟨y - 1, by go_num, by omega, by omega, _, O7.out, I7.out, HB6.out.1, HB6.out.2⟩
      case measure => simp [intOf]; omega
    · go_wp2_with fail
      (with_reducible refine (once 8 (by omega) _ p a len cap CY.out).mono ?_)
      rintro e w5 ⟨bb, rfl, hk, hc⟩
      have K5 := Lib.hid (KY.out.trans hk)
      have C5 := Lib.hid hc
      have O5 := Lib.hid (ow_keep OY.out hk P0.out).up
      clear hk hc CY KY OY
      cases bb
      · go_wp2
        go_ret
        exact ⟨_, _, _, ys, rfl, by omega, O5.out, IY.out, K5.out, C5.out⟩
      · go_wp2_with (first
          | (go_at_call 58; refine (pickIn (-1) 3 3 (by omega) (by omega) _ p a len cap C5.out _ rfl (by kernel_rfl)).mono ?_; rintro e w6 ⟨z, rfl, hz1, hz2, hk, hc⟩; have K6 := Lib.hid (K5.out.trans hk); have C6 := Lib.hid hc; have O6 := Lib.hid (ow_keep O5.out hk P0.out).up; have HX := Lib.hid (And.intro (show (Lit.int .i64 z).wf = true from WalkArith.wf_i64 (by omega)) (IY.out.push hz1 hz2)); (have hs1 : w.heap.size ≤ w6.heap.size := K6.out.size); clear hk hc C5 K5 O5)
          | (at_builtin; refine wpList_app _ rfl _ _ 24 rfl 3 i0 _ .i64 Try.underlying24 HZ.out.1 HZ.out.2.1 HZ.out.2.2.1 (by rw [HZ.out.2.2.2]; omega) rfl rfl rfl (O6.out.alloc _) (Rd.one .i64 _ _ _ HX.out.1) (by omega) (by simp; omega) ?_; intro A1 cap1 w7 ho hb1; have HO3 := Lib.hid ho; have HB := Lib.hid (cur_then C0.out.1 P0.out K6.out C6.out (below_push' hs1 hb1)); clear ho hb1))
        go_ret
        exact ⟨_, _, _, _, rfl, by omega, HO3.out, HX.out.2, HB.out.1, HB.out.2⟩
end Go.Proofs.Ytgdmfpahaccamaa.draw
