/- The draws of stage 3: a key, lists of words, bytes, a label. Condition: the bytes that are drawn from are a slice that came in. -/
import Derived.Test.YtdemdbhaobdcjaaDrawB
import Derived.Test.YtdemdbhaobdcjaaDrawS
namespace Go.Proofs.Ytdemdbhaobdcjaa.draw
open Go.RowKit sl harn

set_option maxRecDepth 100000 in
theorem word3 (w : World) (p : Nat) (a : Option Addr) (len cap : Nat) (hc : Cur w p a len cap) :
    Calls Try.prog 45 #[.pointer (some ⟨p, 0, none⟩)] w (IntPost (-1) 2147483648 p a len cap w) := by
  have C0 := Lib.hid hc
  clear hc
  go_enter Try.func45, Try.ntmps45
  go_wp2_with (go_at_call 57; refine (once 10 (by omega) _ p a len cap C0.out).mono ?_; rintro e w1 ⟨b, rfl, hk, hc⟩; have K1 := Lib.hid hk; have C1 := Lib.hid hc; clear hk hc C0; cases b)
  · go_wp2_with (go_at_call 57; refine (once 4 (by omega) _ p a len cap C1.out).mono ?_; rintro e w2 ⟨b, rfl, hk, hc⟩; have K2 := Lib.hid (K1.out.trans hk); have C2 := Lib.hid hc; clear hk hc C1 K1; cases b)
    · go_wp2_with (go_at_call 47; refine (below 1000000 (by omega) _ p a len cap C2.out).mono ?_; rintro e w3 ⟨x, rfl, hx0, hx1, hk, hc⟩; have K3 := Lib.hid (K2.out.trans hk); have C3 := Lib.hid hc; (have B := hx1 (by omega)); clear hk hc hx1 C2 K2)
      go_wp2_with (go_at_call 47; refine (below 2000 (by omega) _ p a len cap C3.out).mono ?_; rintro e w4 ⟨y, rfl, hy0, hy1, hk, hc⟩; have K4 := Lib.hid (K3.out.trans hk); have C4 := Lib.hid hc; (have B2 := hy1 (by omega)); (have hp0 : 0 ≤ x * y := Int.mul_nonneg hx0 hy0); (have hp1 : x * y ≤ 2000000000 := by have h1 : x * y ≤ 1000000 * y := Int.mul_le_mul_of_nonneg_right (by omega) hy0; omega); clear hk hc hy1 C3 K3)
      go_ret
      exact ⟨_, rfl, by omega, by omega, K4.out, C4.out⟩
    · go_wp2_with (go_at_call 58; refine (pickIn 0 2147483646 3 (by omega) (by omega) _ p a len cap C2.out _ rfl (by kernel_rfl)).mono ?_; rintro e w3 ⟨z, rfl, h1, h2, hk, hc⟩; have K := Lib.hid (K2.out.trans hk); have C := Lib.hid hc; have B := Lib.hid (And.intro h1 h2); clear hk hc h1 h2)
      go_ret
      exact ⟨_, rfl, by have := B.out.1; omega, by have := B.out.2; omega, K.out, C.out⟩
  · go_wp2_with (go_at_call 58; refine (pickIn (-1) 2147483648 3 (by omega) (by omega) _ p a len cap C1.out _ rfl (by kernel_rfl)).mono ?_; rintro e w2 ⟨z, rfl, h1, h2, hk, hc⟩; have K := Lib.hid (K1.out.trans hk); have C := Lib.hid hc; have B := Lib.hid (And.intro h1 h2); clear hk hc h1 h2)
    go_ret
    exact ⟨_, rfl, B.out.1, B.out.2, K.out, C.out⟩

/-- Numbers in a range. -/
def In (lo hi : Int) (zs : List Int) : Prop := ∀ z ∈ zs, lo ≤ z ∧ z ≤ hi
theorem In.nil (lo hi : Int) : In lo hi [] := fun _ h => by cases h
theorem In.push {lo hi : Int} {zs : List Int} (h : In lo hi zs) {x : Int} (h1 : lo ≤ x) (h2 : x ≤ hi) : In lo hi (zs ++ [x]) := fun z hz => by
  rcases List.mem_append.1 hz with hz | hz
  · exact h z hz
  · have : z = x := by simpa using hz
    subst this; exact ⟨h1, h2⟩
/-- Some numbers in a range, at most N. -/
def SomeInts (lo hi : Int) (N : Nat) (p : Nat) (a : Option Addr) (len cap : Nat) (w : World) (e : Ending) (w' : World) : Prop :=
  ∃ A n c zs, e = .returned (.slice A n c) ∧ n ≤ N ∧ Ow 3 .i64 w' w.heap.size w'.heap.size A n c zs ∧ In lo hi zs ∧ Keep p w w' ∧ Cur w' p a len cap
def DrawingI (lo hi : Int) (w wr : World) (p : Nat) (a : Option Addr) (len cap : Nat) (k : Nat) (v : Value) : Prop :=
  ∃ A c zs, v = .slice A k c ∧ Ow 3 .i64 wr w.heap.size wr.heap.size A k c zs ∧ In lo hi zs ∧ Keep p w wr ∧ Cur wr p a len cap
set_option maxRecDepth 100000 in
theorem words3 (w : World) (p : Nat) (a : Option Addr) (len cap : Nat) (hc : Cur w p a len cap) :
    Calls Try.prog 49 #[.pointer (some ⟨p, 0, none⟩)] w (SomeInts (-1) 2147483648 4 p a len cap w) := by
  obtain ⟨i0, hi0, hz0, hz1, hz2⟩ := info_parts intInfo
  have C0 := Lib.hid hc
  have P0 := Lib.hid hc.lt
  have HZ := Lib.hid (And.intro hi0 (And.intro hz0 (And.intro hz1 hz2)))
  clear hc hi0 hz0 hz1 hz2
  go_enter Try.func49, Try.ntmps49
  go_wp2_with (go_at_call 47; refine (below 5 (by omega) _ p a len cap (C0.out.alloc _)).mono ?_; rintro e w1 ⟨x, rfl, hx0, hx1, hk, hc⟩; have K1 := Lib.hid (((Keep.refl p w).alloc _).trans hk); have O1 := Lib.hid (ow_keep (Ow.empty 3 .i64 w) hk P0.out); have C1 := Lib.hid hc; (have hx := hx1 (by omega)); clear hk hc hx1)
  go_loopw [3, 4] (fun v i wr => ∃ (k : Nat) (y : Int), i = .int .i64 y ∧ 0 ≤ y ∧ (k : Int) + y ≤ 4 ∧ DrawingI (-1) 2147483648 w wr p a len cap k v) (fun _ i _ => (intOf i).toNat)
  case atStart => exact ⟨0, x, rfl, by omega, by omega, _, _, [], rfl, O1.out.up, In.nil _ _, K1.out, C1.out⟩
  case round =>
    obtain ⟨k, y, rfl, hy0, hky, B, c, zs, rfl, ho, hin, hkp, hcu⟩ := hrel
    have HO := Lib.hid ho
    have HI := Lib.hid hin
    have HK := Lib.hid hkp
    have HC := Lib.hid hcu
    clear ho hkp hcu hin
    by_cases hlt : 0 < y
    · go_wp2_with (first
        | (go_at_call 45; refine (word3 _ p a len cap HC.out).mono ?_; rintro e w2 ⟨z, rfl, hz0, hz1, hk1, hc1⟩; have HO1 := Lib.hid (ow_keep HO.out hk1 P0.out); have HX := Lib.hid (And.intro (show (Lit.int .i64 z).wf = true from WalkArith.wf_i64 (by omega)) (HI.out.push hz0 hz1)); have HC1 := Lib.hid hc1; have HK1 := Lib.hid (HK.out.trans hk1); (have hs1 : w.heap.size ≤ w2.heap.size := HK1.out.size); clear hk1 hc1 HC HO HK HI)
        | (at_builtin; refine wpList_app _ rfl _ _ 28 rfl 3 i0 _ .i64 Try.underlying28 HZ.out.1 HZ.out.2.1 HZ.out.2.2.1 (by rw [HZ.out.2.2.2]; omega) rfl rfl rfl (HO1.out.alloc _) (Rd.one .i64 _ _ _ HX.out.1) (by omega) (by simp; omega) ?_; intro A1 cap1 w3 ho hb1; have HO3 := Lib.hid ho; have HB := Lib.hid (cur_then C0.out.1 P0.out HK1.out HC1.out (below_push' hs1 hb1)); clear ho hb1))
      go_roundw
      case rel => exact ⟨k + 1, y - 1, by go_num, by omega, by omega, A1, cap1, _, rfl, HO3.out, HX.out.2, HB.out.1, HB.out.2⟩
      case measure => simp [intOf]; omega
    · go_wp2
      go_ret
      exact ⟨_, _, _, zs, rfl, by omega, HO.out, HI.out, HK.out, HC.out⟩

/-- A key and some bytes. -/
def DrawnKeyBytes (w : World) (e : Ending) (w' : World) : Prop :=
  ∃ k A n c zs, e = .returned (.tuple #[.int .i64 k, .slice A n c]) ∧ (-1 ≤ k ∧ k ≤ 2147483648) ∧ n ≤ 8 ∧ Ow 5 .u8 w' w.heap.size w'.heap.size A n c zs ∧ Below w.heap.size w w'
theorem drawEncrypt (w : World) (a : Option Addr) (len cap : Nat) (hc : Code w w.heap.size a len) :
    Calls Try.prog 14 #[.slice a len cap] w (DrawnKeyBytes w) := by
  have C0 := Lib.hid hc
  clear hc
  go_enter Try.func14, Try.ntmps14
  go_wp2_with (go_at_call 44; refine (new _ a len cap C0.out).mono ?_; rintro e w1 ⟨rfl, hk, hs, hc⟩; have K1 := Lib.hid hk; have C1 := Lib.hid hc; have S1 := Lib.hid hs; clear hk hc hs)
  go_wp2_with (go_at_call 45; refine (word3 _ w.heap.size a len cap C1.out).mono ?_; rintro e w2 ⟨k, rfl, h1, h2, hk, hc⟩; have K2 := Lib.hid (K1.out.trans hk); have S2 := Lib.hid (Nat.lt_of_lt_of_le S1.out hk.size); have C2 := Lib.hid hc; have B := Lib.hid (And.intro h1 h2); clear hk hc h1 h2 C1 K1 S1)
  go_wp2_with (go_at_call 47; refine (below 8 (by omega) _ w.heap.size a len cap C2.out).mono ?_; rintro e w3 ⟨x, rfl, hx0, hx1, hk, hc⟩; have K3 := Lib.hid (K2.out.trans hk); have S3 := Lib.hid (Nat.lt_of_lt_of_le S2.out hk.size); have C3 := Lib.hid hc; (have hx := hx1 (by omega)); clear hx1 hk hc C2 K2 S2)
  go_wp2_with (go_at_call 46; refine (bytes x (by omega) (by omega) _ w.heap.size a len cap C3.out).mono ?_; rintro e w4 ⟨A, n, c, zs, rfl, hn, ho, hk, hc⟩; have K4 := Lib.hid (keep_below K3.out hk); have O4 := Lib.hid (ho.down (lo2 := w.heap.size) (Nat.le_of_lt S3.out)); clear hk hc ho C3 K3)
  go_ret2
  exact ⟨_, _, _, _, zs, rfl, B.out, by omega, O4.out, K4.out⟩
/-- A key and some numbers. -/
def DrawnKeyInts (w : World) (e : Ending) (w' : World) : Prop :=
  ∃ k A n c zs, e = .returned (.tuple #[.int .i64 k, .slice A n c]) ∧ (-1 ≤ k ∧ k ≤ 2147483648) ∧ n ≤ 4 ∧ Ow 3 .i64 w' w.heap.size w'.heap.size A n c zs ∧ In (-1) 2147483648 zs ∧ Below w.heap.size w w'
theorem drawKeyedHash (w : World) (a : Option Addr) (len cap : Nat) (hc : Code w w.heap.size a len) :
    Calls Try.prog 18 #[.slice a len cap] w (DrawnKeyInts w) := by
  have C0 := Lib.hid hc
  clear hc
  go_enter Try.func18, Try.ntmps18
  go_wp2_with (go_at_call 44; refine (new _ a len cap C0.out).mono ?_; rintro e w1 ⟨rfl, hk, hs, hc⟩; have K1 := Lib.hid hk; have C1 := Lib.hid hc; have S1 := Lib.hid hs; clear hk hc hs)
  go_wp2_with (go_at_call 45; refine (word3 _ w.heap.size a len cap C1.out).mono ?_; rintro e w2 ⟨k, rfl, h1, h2, hk, hc⟩; have K2 := Lib.hid (K1.out.trans hk); have S2 := Lib.hid (Nat.lt_of_lt_of_le S1.out hk.size); have C2 := Lib.hid hc; have B := Lib.hid (And.intro h1 h2); clear hk hc h1 h2 C1 K1 S1)
  go_wp2_with (go_at_call 49; refine (words3 _ w.heap.size a len cap C2.out).mono ?_; rintro e w4 ⟨A, n, c, zs, rfl, hn, ho, hi, hk, hc⟩; have K4 := Lib.hid (keep_below K2.out hk); have O4 := Lib.hid (And.intro hn (And.intro (ho.down (lo2 := w.heap.size) (Nat.le_of_lt S2.out)) hi)); clear hk hc ho C2 K2 hn hi)
  go_ret2
  exact ⟨_, _, _, _, zs, rfl, B.out, O4.out.1, O4.out.2.1, O4.out.2.2, K4.out⟩
/-- A key and a string. -/
def DrawnKeyStr (w : World) (e : Ending) (w' : World) : Prop :=
  ∃ (k : Int) (s : ByteArray), e = .returned (.tuple #[.int .i64 k, .string s]) ∧ (-1 ≤ k ∧ k ≤ 2147483648) ∧ s.size ≤ 4 ∧ Below w.heap.size w w'
theorem drawDerive (w : World) (a : Option Addr) (len cap : Nat) (hc : Code w w.heap.size a len) :
    Calls Try.prog 23 #[.slice a len cap] w (DrawnKeyStr w) := by
  have C0 := Lib.hid hc
  clear hc
  go_enter Try.func23, Try.ntmps23
  go_wp2_with (go_at_call 44; refine (new _ a len cap C0.out).mono ?_; rintro e w1 ⟨rfl, hk, hs, hc⟩; have K1 := Lib.hid hk; have C1 := Lib.hid hc; have S1 := Lib.hid hs; clear hk hc hs)
  go_wp2_with (go_at_call 45; refine (word3 _ w.heap.size a len cap C1.out).mono ?_; rintro e w2 ⟨k, rfl, h1, h2, hk, hc⟩; have K2 := Lib.hid (K1.out.trans hk); have C2 := Lib.hid hc; have B := Lib.hid (And.intro h1 h2); clear hk hc h1 h2 C1 K1 S1)
  go_wp2_with (go_at_call 53; refine (pickStrIn 4 6 (by omega) (by omega) _ w.heap.size a len cap C2.out _ rfl (by kernel_rfl)).mono ?_; rintro e w3 ⟨z, rfl, h1, hk, hc⟩; have K3 := Lib.hid (keep_below K2.out hk); have B2 := Lib.hid h1; clear hk hc h1)
  go_ret2
  exact ⟨_, _, rfl, B.out, B2.out, K3.out⟩
end Go.Proofs.Ytdemdbhaobdcjaa.draw
