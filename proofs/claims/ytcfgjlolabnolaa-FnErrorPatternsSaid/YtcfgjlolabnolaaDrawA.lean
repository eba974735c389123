/- The draws of stage 9: positions, some of which do not exist; a seed, a count and a rate. Condition: the bytes that are drawn from are a slice that came in. -/
import Derived.Test.YtcfgjlolabnolaaDraw5
namespace Go.Proofs.Ytcfgjlolabnolaa.draw
open Go.RowKit sl harn

set_option maxRecDepth 100000 in
theorem pattern9 (N M : Int) (hN : 0 ≤ N ∧ N ≤ 1000) (hM : N + 2 = M) (w : World) (p : Nat) (a : Option Addr) (len cap : Nat) (hc : Cur w p a len cap) :
    Calls Try.prog 33 #[.pointer (some ⟨p, 0, none⟩), .int .i64 N] w (SomeInts (-1) 1000 4 p a len cap w) := by
  obtain ⟨i0, hi0, hz0, hz1, hz2⟩ := info_parts intInfo
  have C0 := Lib.hid hc
  have P0 := Lib.hid hc.lt
  have HZ := Lib.hid (And.intro hi0 (And.intro hz0 (And.intro hz1 hz2)))
  obtain ⟨hN0, hN1⟩ := hN
  clear hc hi0 hz0 hz1 hz2
  go_enter Try.func33, Try.ntmps33
  go_wp2_with (go_at_call 36; refine (below 5 (by omega) _ p a len cap (C0.out.alloc _)).mono ?_; rintro e w1 ⟨x, rfl, hx0, hx1, hk, hc⟩; have K1 := Lib.hid (((Keep.refl p w).alloc _).trans hk); have O1 := Lib.hid (ow_keep (Ow.empty 3 .i64 w) hk P0.out); have C1 := Lib.hid hc; (have hx := hx1 (by omega)); clear hk hc hx1)
  go_loopw [5, 6] (fun v i wr => ∃ (k : Nat) (y : Int), i = .int .i64 y ∧ 0 ≤ y ∧ (k : Int) + y ≤ 4 ∧ DrawingI (-1) 1000 w wr p a len cap k v) (fun _ i _ => (intOf i).toNat)
  case atStart => exact ⟨0, x, rfl, by omega, by omega, _, _, [], rfl, O1.out.up, In.nil _ _, K1.out, C1.out⟩
  case round =>
    obtain ⟨k, y, rfl, hy0, hky, B, c, zs, rfl, ho, hin, hkp, hcu⟩ := hrel
    have HO := Lib.hid ho
    have HI := Lib.hid hin
    have HK := Lib.hid hkp
    have HC := Lib.hid hcu
    clear ho hkp hcu hin
    by_cases hlt : 0 < y
    · go_wp2_with (first
        | (go_at_call 36; refine (below M (by omega) _ p a len cap HC.out).mono ?_; rintro e w2 ⟨z, rfl, hz0, hz1, hk1, hc1⟩; (have hz2 := hz1 (by omega)); have HO1 := Lib.hid (ow_keep HO.out hk1 P0.out); have HX := Lib.hid (And.intro (show (Lit.int .i64 (z - 1)).wf = true from WalkArith.wf_i64 (by omega)) (HI.out.push (show -1 ≤ z - 1 by omega) (show z - 1 ≤ 1000 by omega))); have HC1 := Lib.hid hc1; have HK1 := Lib.hid (HK.out.trans hk1); (have hs1 : w.heap.size ≤ w2.heap.size := HK1.out.size); clear hk1 hc1 hz1 HC HO HK HI)
        | (at_builtin; refine wpList_app _ rfl _ _ 24 rfl 3 i0 _ .i64 Try.underlying24 HZ.out.1 HZ.out.2.1 HZ.out.2.2.1 (by rw [HZ.out.2.2.2]; omega) rfl rfl rfl (HO1.out.alloc _) (Rd.one .i64 _ _ _ HX.out.1) (by omega) (by simp; omega) ?_; intro A1 cap1 w3 ho hb1; have HO3 := Lib.hid ho; have HB := Lib.hid (cur_then C0.out.1 P0.out HK1.out HC1.out (below_push' hs1 hb1)); clear ho hb1))
      go_roundw
      case rel => exact ⟨k + 1, y - 1, by go_num, by omega, by omega, A1, cap1, _, rfl, HO3.out, HX.out.2, HB.out.1, HB.out.2⟩
      case measure => simp [intOf]; omega
    · go_wp2
      go_ret
      exact ⟨_, _, _, zs, rfl, by omega, HO.out, HI.out, HK.out, HC.out⟩

/-- Two patterns. -/
def DrawnTwo (w : World) (e : Ending) (w' : World) : Prop :=
  ∃ A n c zs B m d ys, e = .returned (.tuple #[.slice A n c, .slice B m d]) ∧ n ≤ 4 ∧ m ≤ 4 ∧ Ow 3 .i64 w' w.heap.size w'.heap.size A n c zs ∧ Ow 3 .i64 w' w.heap.size w'.heap.size B m d ys ∧ Below w.heap.size w w'
set_option maxRecDepth 100000 in
theorem drawMerge (w : World) (a : Option Addr) (len cap : Nat) (hc : Code w w.heap.size a len) :
    Calls Try.prog 11 #[.slice a len cap] w (DrawnTwo w) := by
  have C0 := Lib.hid hc
  clear hc
  go_enter Try.func11, Try.ntmps11
  go_wp2_with (go_at_call 32; refine (new _ a len cap C0.out).mono ?_; rintro e w1 ⟨rfl, hk, hs, hc⟩; have K1 := Lib.hid hk; have C1 := Lib.hid hc; have S1 := Lib.hid hs; clear hk hc hs)
  go_wp2_with (go_at_call 33; refine (pattern9 9 11 (by omega) (by omega) _ w.heap.size a len cap C1.out).mono ?_; rintro e w2 ⟨A, n, c, zs, rfl, hn, ho, hi, hk, hc⟩; have K2 := Lib.hid (K1.out.trans hk); have S2 := Lib.hid (Nat.lt_of_lt_of_le S1.out hk.size); have C2 := Lib.hid hc; have O2 := Lib.hid (And.intro ho hn); clear hk hc ho hi hn K1)
  go_wp2_with (go_at_call 33; refine (pattern9 9 11 (by omega) (by omega) _ w.heap.size a len cap C2.out).mono ?_; rintro e w4 ⟨B, m, d, ys, rfl, hm, ho, hi, hk, hc⟩; have K4 := Lib.hid (keep_below K2.out hk); have A4 := Lib.hid (ow_keep O2.out.1 hk S1.out); have O4 := Lib.hid (And.intro (ho.down (lo2 := w.heap.size) (Nat.le_of_lt S2.out)) hm); clear hk hc ho hi hm C2 K2)
  go_ret2
  exact ⟨_, _, _, zs, _, _, _, ys, rfl, O2.out.2, O4.out.2, (A4.out.down (Nat.le_of_lt S1.out)).up, O4.out.1, K4.out⟩
/-- A seed, a count and a rate. -/
def DrawnThree (w : World) (e : Ending) (w' : World) : Prop :=
  ∃ s n r, e = .returned (.tuple #[.int .i64 s, .int .i64 n, .int .i64 r]) ∧ (0 ≤ s ∧ s ≤ 99) ∧ (-1 ≤ n ∧ n ≤ 10001) ∧ (-1 ≤ r ∧ r ≤ 1001) ∧ Below w.heap.size w w'
set_option maxRecDepth 100000 in
theorem drawErr (w : World) (a : Option Addr) (len cap : Nat) (hc : Code w w.heap.size a len) :
    Calls Try.prog 15 #[.slice a len cap] w (DrawnThree w) := by
  have C0 := Lib.hid hc
  clear hc
  go_enter Try.func15, Try.ntmps15
  go_wp2_with (go_at_call 32; refine (new _ a len cap C0.out).mono ?_; rintro e w1 ⟨rfl, hk, hs, hc⟩; have K1 := Lib.hid hk; have C1 := Lib.hid hc; have S1 := Lib.hid hs; clear hk hc hs)
  go_wp2_with (go_at_call 36; refine (below 100 (by omega) _ w.heap.size a len cap C1.out).mono ?_; rintro e w2 ⟨s, rfl, h1, h2, hk, hc⟩; have K2 := Lib.hid (K1.out.trans hk); have C2 := Lib.hid hc; have Q2 := Lib.hid (And.intro h1 (h2 (by omega))); clear hk hc h1 h2 C1 K1)
  go_wp2_with (go_at_call 37; refine (pickIn (-1) 10001 5 (by omega) (by omega) _ w.heap.size a len cap C2.out _ rfl (by decide)).mono ?_; rintro e w3 ⟨n, rfl, h1, h2, hk, hc⟩; have K3 := Lib.hid (K2.out.trans hk); have C3 := Lib.hid hc; have Q3 := Lib.hid (And.intro h1 h2); clear hk hc h1 h2 C2 K2)
  go_wp2_with (go_at_call 37; refine (pickIn (-1) 1001 6 (by omega) (by omega) _ w.heap.size a len cap C3.out _ rfl (by decide)).mono ?_; rintro e w4 ⟨r, rfl, h1, h2, hk, hc⟩; have K4 := Lib.hid (keep_below K3.out hk); have Q4 := Lib.hid (And.intro h1 h2); clear hk hc h1 h2 C3 K3)
  go_ret3
  exact ⟨_, _, _, rfl, ⟨Q2.out.1, by have := Q2.out.2; omega⟩, Q3.out, Q4.out, K4.out⟩
end Go.Proofs.Ytcfgjlolabnolaa.draw
