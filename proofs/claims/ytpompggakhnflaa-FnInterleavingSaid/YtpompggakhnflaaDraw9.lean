/- The draws of stage 8: symbols and a number of columns. Condition: the bytes that are drawn from are a slice that came in. -/
import Derived.Test.YtpompggakhnflaaDraw6
namespace Go.Proofs.Ytpompggakhnflaa.draw
open Go.RowKit sl harn

theorem columns8 (w : World) (p : Nat) (a : Option Addr) (len cap : Nat) (hc : Cur w p a len cap) :
    Calls Try.prog 42 #[.pointer (some ⟨p, 0, none⟩)] w (IntPost (-1) 65 p a len cap w) := by
  have C0 := Lib.hid hc
  clear hc
  go_enter Try.func42, Try.ntmps42
  go_wp2_with (go_at_call 47; refine (pickIn (-1) 65 9 (by omega) (by omega) _ p a len cap C0.out _ rfl (by kernel_rfl)).mono ?_; rintro e w1 ⟨z, rfl, h1, h2, hk, hc⟩; have K := Lib.hid hk; have C := Lib.hid hc; have B := Lib.hid (And.intro h1 h2); clear hk hc h1 h2)
  go_ret
  exact ⟨_, rfl, B.out.1, B.out.2, K.out, C.out⟩
/-- Symbols and columns. -/
def DrawnCols (w : World) (e : Ending) (w' : World) : Prop :=
  ∃ A n c zs k, e = .returned (.tuple #[.slice A n c, .int .i64 k]) ∧ n ≤ 24 ∧ (-1 ≤ k ∧ k ≤ 65) ∧ Ow 3 .i64 w' w.heap.size w'.heap.size A n c zs ∧ Below w.heap.size w w'
set_option maxRecDepth 100000 in
theorem symbols8 (w : World) (a : Option Addr) (len cap : Nat) (hc : Code w w.heap.size a len) :
    Calls Try.prog 32 #[.slice a len cap] w (DrawnCols w) := by
  obtain ⟨i0, hi0, hz0, hz1, hz2⟩ := info_parts intInfo
  have C0 := Lib.hid hc
  have HZ := Lib.hid (And.intro hi0 (And.intro hz0 (And.intro hz1 hz2)))
  clear hc hi0 hz0 hz1 hz2
  go_enter Try.func32, Try.ntmps32
  go_wp2_with fail
  (with_reducible refine (new _ a len cap C0.out).mono ?_)
  rintro e w1 ⟨rfl, hk, hs, hc⟩
  have K1 := Lib.hid hk
  have S1 := Lib.hid hs
  have P0 := Lib.hid hc.lt
  have C1 := Lib.hid hc
  clear hk hs hc
  go_wp2_with fail
  (with_reducible refine (below 25 (by omega) _ w.heap.size a len cap (C1.out.alloc _)).mono ?_)
  rintro e w2 ⟨x, rfl, hx0, hx1, hk, hc⟩
  have hx := hx1 (by omega)
  have K2 := Lib.hid (((Keep.refl w.heap.size w1).alloc _).trans hk)
  have O2 := Lib.hid (ow_keep (Ow.empty 3 .i64 w1) hk P0.out)
  have C2 := Lib.hid hc
  clear hk hc hx1
  go_wp2_with fail
  go_loopw [5, 6] (fun v i wr => ∃ (k : Nat) (y : Int), i = .int .i64 y ∧ 0 ≤ y ∧ (k : Int) + y ≤ 24 ∧ DrawingI 0 8 w1 wr w.heap.size a len cap k v) (fun _ i _ => (intOf i).toNat)
  case atStart => exact ⟨0, x, rfl, by omega, by omega, _, _, [], rfl, O2.out.up, In.nil _ _, K2.out, C2.out⟩
  case round =>
    clear O2 K2 C2
    obtain ⟨k, y, rfl, hy0, hky, B, c, zs, rfl, ho, hin, hkp, hcu⟩ := hrel
    have HO := Lib.hid ho
    have HI := Lib.hid hin
    have HK := Lib.hid hkp
    have HC := Lib.hid hcu
    clear ho hkp hcu hin
    by_cases hlt : 0 < y
    · go_wp2_with (first
        | (go_at_call 41; refine (below 9 (by omega) _ w.heap.size a len cap HC.out).mono ?_; rintro e w2 ⟨z, rfl, hz0, hz1, hk1, hc1⟩; (have hz2 := hz1 (by omega)); have HO1 := Lib.hid (ow_keep HO.out hk1 P0.out); have HX := Lib.hid (And.intro (show (Lit.int .i64 z).wf = true from WalkArith.wf_i64 (by omega)) (HI.out.push hz0 (show z ≤ 8 by omega))); have HC1 := Lib.hid hc1; have HK1 := Lib.hid (HK.out.trans hk1); (have hs1 : w1.heap.size ≤ w2.heap.size := HK1.out.size); clear hk1 hc1 hz1 HC HO HK HI)
        | (at_builtin; refine wpList_app _ rfl _ _ 24 rfl 3 i0 _ .i64 Try.underlying24 HZ.out.1 HZ.out.2.1 HZ.out.2.2.1 (by rw [HZ.out.2.2.2]; omega) rfl rfl rfl (HO1.out.alloc _) (Rd.one .i64 _ _ _ HX.out.1) (by omega) (by simp; omega) ?_; intro A1 cap1 w3 ho hb1; have HO3 := Lib.hid ho; have HB := Lib.hid (cur_then C1.out.1 P0.out HK1.out HC1.out (below_push' hs1 hb1)); clear ho hb1))
      go_roundw
      case rel => exact ⟨k + 1, y - 1, by go_num, by omega, by omega, A1, cap1, _, rfl, HO3.out, HX.out.2, HB.out.1, HB.out.2⟩
      case measure => simp [intOf]; omega
    · go_wp2_with fail
      (with_reducible refine (columns8 _ w.heap.size a len cap HC.out).mono ?_)
      rintro e w3 ⟨z, rfl, h1, h2, hk, hc⟩
      have K3 := Lib.hid (keep_below K1.out (HK.out.trans hk))
      have O3 := Lib.hid ((ow_keep HO.out hk P0.out).up.down (lo2 := w.heap.size) (Nat.le_of_lt S1.out))
      have BZ := Lib.hid (And.intro h1 h2)
      clear hk hc h1 h2
      go_wp2_with fail
      go_ret2
      exact ⟨_, _, _, zs, _, rfl, by omega, BZ.out, O3.out, K3.out⟩
theorem drawInterleave (w : World) (a : Option Addr) (len cap : Nat) (hc : Code w w.heap.size a len) :
    Calls Try.prog 12 #[.slice a len cap] w (DrawnCols w) := by
  have C0 := Lib.hid hc
  clear hc
  go_enter Try.func12, Try.ntmps12
  go_wp2_with fail
  (with_reducible refine (symbols8 _ a len cap C0.out).mono ?_)
  rintro e w1 ⟨A, n, c, zs, k, rfl, h1, h2, h3, h4⟩
  have H := Lib.hid (And.intro h1 (And.intro h2 (And.intro h3 h4)))
  clear h1 h2 h3 h4
  go_wp2_with fail
  go_ret2
  exact ⟨_, _, _, zs, _, rfl, H.out.1, H.out.2.1, H.out.2.2.1, H.out.2.2.2⟩
end Go.Proofs.Ytpompggakhnflaa.draw
