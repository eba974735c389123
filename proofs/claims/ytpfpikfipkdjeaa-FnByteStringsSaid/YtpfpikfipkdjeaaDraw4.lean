/- Drawn slices of bytes, and the draws of varints and byte strings. Condition: the bytes that are drawn from are a slice that came in. -/
import Derived.Test.YtpfpikfipkdjeaaDraw2
import Derived.Test.YtpfpikfipkdjeaaUv2
namespace Go.Proofs.Ytpfpikfipkdjeaa.draw
open Go.RowKit sl harn

theorem ow_keep {E : TypeId} {k : IntKind} {w w' : World} {lo hi n cap p : Nat} {A : Option Addr} {zs : List Int} (h : Ow E k w lo hi A n cap zs) (hk : Keep p w w') (hp : p < lo) : Ow E k w' lo hi A n cap zs :=
  h.same hk.size fun b h1 h2 => hk.block b (by have := h.hi_; omega) (by omega)
theorem cur_then {w w1 w2 : World} {p : Nat} {a : Option Addr} {len cap : Nat} (hc0 : Code w p a len) (hp : p < w.heap.size) (hk : Keep p w w1) (hc : Cur w1 p a len cap) (hb : Below w.heap.size w1 w2) : Keep p w w2 ∧ Cur w2 p a len cap := by
  have k2 : Keep p w w2 := ⟨hb.os.trans hk.os, hb.tape.trans hk.tape, hb.output.trans hk.output, Nat.le_trans hk.size hb.size, fun j hj hn => (hb.block j hj).trans (hk.block j hj hn)⟩
  obtain ⟨-, i, g, hi, hblk⟩ := hc
  exact ⟨k2, hc0.keep k2, i, g, hi, (hb.block p hp).trans hblk⟩

theorem below_push' {B : Nat} {w w' : World} {o : Obj} (hl : B ≤ w.heap.size) (hb : Below B (w.alloc o) w') : Below B w w' := ((Below.refl _ _).alloc hl o).trans hb
theorem cur_then2 {w w1 w2 : World} {B : Nat} {a : Option Addr} {len cap : Nat} (hc0 : Code w w.heap.size a len) (hp : w.heap.size < B) (hk : Keep w.heap.size w w1) (hc : Cur w1 w.heap.size a len cap) (hb : Below B w1 w2) : Keep w.heap.size w w2 ∧ Cur w2 w.heap.size a len cap := by
  have k2 : Keep w.heap.size w w2 := ⟨hb.os.trans hk.os, hb.tape.trans hk.tape, hb.output.trans hk.output, Nat.le_trans hk.size hb.size, fun j hj hn => (hb.block j (by omega)).trans (hk.block j hj hn)⟩
  obtain ⟨-, i, g, hi, hblk⟩ := hc
  exact ⟨k2, hc0.keep k2, i, g, hi, (hb.block _ hp).trans hblk⟩
/-- Some bytes, as many as asked for. -/
def SomePost (N : Int) (p : Nat) (a : Option Addr) (len cap : Nat) (w : World) (e : Ending) (w' : World) : Prop :=
  ∃ A n c zs, e = .returned (.slice A n c) ∧ (n : Int) ≤ N ∧ Ow 5 .u8 w' w.heap.size w'.heap.size A n c zs ∧ Keep p w w' ∧ Cur w' p a len cap
/-- Bytes that are being drawn. -/
def Drawing (w wr : World) (p : Nat) (a : Option Addr) (len cap : Nat) (k : Nat) (v : Value) : Prop :=
  ∃ A c zs, v = .slice A k c ∧ Ow 5 .u8 wr w.heap.size wr.heap.size A k c zs ∧ Keep p w wr ∧ Cur wr p a len cap
set_option maxRecDepth 100000 in
theorem bytes (N : Int) (h0 : 0 ≤ N) (hN : N ≤ 1000) (w : World) (p : Nat) (a : Option Addr) (len cap : Nat) (hc : Cur w p a len cap) :
    Calls Try.prog 45 #[.pointer (some ⟨p, 0, none⟩), .int .i64 N] w (SomePost N p a len cap w) := by
  obtain ⟨i0, hi0, hz0, hz1, hz2⟩ := info_parts u8Info
  have C0 := Lib.hid hc
  have P0 := Lib.hid hc.lt
  have HZ := Lib.hid (And.intro hi0 (And.intro hz0 (And.intro hz1 hz2)))
  clear hc hi0 hz0 hz1 hz2
  go_enter Try.func45, Try.ntmps45
  go_wp2
  go_loopw [5, 6] (fun v i wr => ∃ k : Nat, i = .int .i64 k ∧ (k : Int) ≤ N ∧ Drawing w wr p a len cap k v) (fun _ i _ => (N - intOf i).toNat)
  case atStart => exact ⟨0, rfl, by omega, _, _, [], rfl, (Ow.empty 5 .u8 w).up, (Keep.refl p w).alloc _, C0.out.alloc _⟩
  case round =>
    obtain ⟨k, rfl, hk, B, c, zs, rfl, ho, hkp, hcu⟩ := hrel
    have HO := Lib.hid ho
    have HK := Lib.hid hkp
    have HC := Lib.hid hcu
    clear ho hkp hcu
    by_cases hlt : (k : Int) < N
    · go_wp2_with (first
        | (go_at_call 59; refine (byte _ p a len cap HC.out).mono ?_; rintro e w1 ⟨x, rfl, hx0, hx1, hk1, hc1⟩; have HO1 := Lib.hid (ow_keep HO.out hk1 P0.out); have HX := Lib.hid (show (Lit.int .u8 x).wf = true from WalkArith.wf_u8 (by omega)); have HC1 := Lib.hid hc1; have HK1 := Lib.hid (HK.out.trans hk1); (have hs1 : w.heap.size ≤ w1.heap.size := HK1.out.size); clear hk1 hc1 HC HO HK)
        | (at_builtin; refine wpList_app _ rfl _ _ 22 rfl 5 i0 _ .u8 Try.underlying22 HZ.out.1 HZ.out.2.1 HZ.out.2.2.1 (by rw [HZ.out.2.2.2]; omega) rfl rfl rfl (HO1.out.alloc _) (Rd.one .u8 _ _ _ HX.out) (by omega) (by simp; omega) ?_; intro A1 cap1 w3 ho hb1; have HO3 := Lib.hid ho; have HB := Lib.hid (cur_then C0.out.1 P0.out HK1.out HC1.out (below_push' hs1 hb1)); clear ho hb1))
      go_roundw
      case rel => exact ⟨k + 1, by go_num, by omega, A1, cap1, zs ++ [x], rfl, HO3.out, HB.out.1, HB.out.2⟩
      case measure => simp [intOf]; omega
    · go_wp2
      go_ret
      exact ⟨_, _, _, zs, rfl, hk, HO.out, HK.out, HC.out⟩

/-- A slice of bytes and a number. -/
def DrawnSlInt (lo hi : Int) (w : World) (e : Ending) (w' : World) : Prop :=
  ∃ A n c zs x, e = .returned (.tuple #[.slice A n c, .int .i64 x]) ∧ Ow 5 .u8 w' w.heap.size w'.heap.size A n c zs ∧ (n : Int) ≤ 1000 ∧ (lo ≤ x ∧ x ≤ hi) ∧ Below w.heap.size w w'
/-- Two slices of bytes. -/
def DrawnTwoSl (w : World) (e : Ending) (w' : World) : Prop :=
  ∃ A n c zs B m d ys, e = .returned (.tuple #[.slice A n c, .slice B m d]) ∧ Ow 5 .u8 w' w.heap.size w'.heap.size A n c zs ∧ Ow 5 .u8 w' w.heap.size w'.heap.size B m d ys ∧ (n : Int) ≤ 1000 ∧ (m : Int) ≤ 1000 ∧ Below w.heap.size w w'
theorem drawAppendUvarint (w : World) (a : Option Addr) (len cap : Nat) (hc : Code w w.heap.size a len) :
    Calls Try.prog 14 #[.slice a len cap] w (DrawnSlInt (-9223372036854775808) 9223372036854775807 w) := by
  have C0 := Lib.hid hc
  clear hc
  go_enter Try.func14, Try.ntmps14
  go_wp2_with (go_at_call 44; refine (new _ a len cap C0.out).mono ?_; rintro e w1 ⟨rfl, hk, hs, hc⟩; have K1 := Lib.hid hk; have C1 := Lib.hid hc; have S1 := Lib.hid hs; clear hk hc hs)
  go_wp2_with (go_at_call 46; refine (below 3 (by omega) _ w.heap.size a len cap C1.out).mono ?_; rintro e w2 ⟨x, rfl, hx0, hx1, hk, hc⟩; have K2 := Lib.hid (K1.out.trans hk); have S2 := Lib.hid (Nat.lt_of_lt_of_le S1.out hk.size); have C2 := Lib.hid hc; (have hx := hx1 (by omega)); clear hx1 hk hc C1 K1 S1)
  go_wp2_with (go_at_call 45; refine (bytes x (by omega) (by omega) _ w.heap.size a len cap C2.out).mono ?_; rintro e w3 ⟨A, n, c, zs, rfl, hn, ho, hk, hc⟩; have K3 := Lib.hid (K2.out.trans hk); have C3 := Lib.hid hc; have O3 := Lib.hid ho; clear hk hc ho C2 K2)
  go_wp2_with (go_at_call 47; refine (one _ w.heap.size a len cap C3.out).mono ?_; rintro e w4 ⟨z, rfl, h1, h2, hk, hc⟩; have K4 := Lib.hid (keep_below K3.out hk); have O4 := Lib.hid (ow_keep O3.out hk S2.out); have B := Lib.hid (And.intro h1 h2); clear hk hc h1 h2 C3 O3)
  go_ret2
  exact ⟨_, _, _, zs, _, rfl, (O4.out.down (Nat.le_of_lt S2.out)).up, by omega, B.out, K4.out⟩
theorem drawAppendBytes (w : World) (a : Option Addr) (len cap : Nat) (hc : Code w w.heap.size a len) :
    Calls Try.prog 20 #[.slice a len cap] w (DrawnTwoSl w) := by
  have C0 := Lib.hid hc
  clear hc
  go_enter Try.func20, Try.ntmps20
  go_wp2_with (go_at_call 44; refine (new _ a len cap C0.out).mono ?_; rintro e w1 ⟨rfl, hk, hs, hc⟩; have K1 := Lib.hid hk; have C1 := Lib.hid hc; have S1 := Lib.hid hs; clear hk hc hs)
  go_wp2_with (go_at_call 46; refine (below 3 (by omega) _ w.heap.size a len cap C1.out).mono ?_; rintro e w2 ⟨x, rfl, hx0, hx1, hk, hc⟩; have K2 := Lib.hid (K1.out.trans hk); have S2 := Lib.hid (Nat.lt_of_lt_of_le S1.out hk.size); have C2 := Lib.hid hc; (have hx := hx1 (by omega)); clear hx1 hk hc C1 K1 S1)
  go_wp2_with (go_at_call 45; refine (bytes x (by omega) (by omega) _ w.heap.size a len cap C2.out).mono ?_; rintro e w3 ⟨A, n, c, zs, rfl, hn, ho, hk, hc⟩; have K3 := Lib.hid (K2.out.trans hk); have S3 := Lib.hid (Nat.lt_of_lt_of_le S2.out hk.size); have C3 := Lib.hid hc; have O3 := Lib.hid ho; clear hk hc ho C2 K2)
  go_wp2_with (go_at_call 46; refine (below 6 (by omega) _ w.heap.size a len cap C3.out).mono ?_; rintro e w4 ⟨y, rfl, hy0, hy1, hk, hc⟩; have K4 := Lib.hid (K3.out.trans hk); have S4 := Lib.hid (Nat.lt_of_lt_of_le S3.out hk.size); have O4 := Lib.hid (ow_keep O3.out hk S2.out); have C4 := Lib.hid hc; (have hy := hy1 (by omega)); clear hy1 hk hc C3 K3 O3)
  go_wp2_with (go_at_call 45; refine (bytes y (by omega) (by omega) _ w.heap.size a len cap C4.out).mono ?_; rintro e w5 ⟨B, m, d, ys, rfl, hm, ho, hk, hc⟩; have K5 := Lib.hid (keep_below K4.out hk); have O5 := Lib.hid (ow_keep O4.out hk S2.out); have Q5 := Lib.hid ho; clear hk hc ho C4 K4 O4)
  go_ret2
  exact ⟨_, _, _, zs, _, _, _, ys, rfl, (O5.out.down (Nat.le_of_lt S2.out)).up, Q5.out.down (Nat.le_of_lt S4.out), by omega, by omega, K5.out⟩

set_option maxRecDepth 100000 in
theorem drawReadUvarint (w : World) (a : Option Addr) (len cap : Nat) (hc : Code w w.heap.size a len) :
    Calls Try.prog 18 #[.slice a len cap] w (DrawnSlInt (-1) 2 w) := by
  obtain ⟨i0, hi0, hz0, hz1, hz2⟩ := info_parts u8Info
  have HZ := Lib.hid (And.intro hi0 (And.intro hz0 (And.intro hz1 hz2)))
  have C0 := Lib.hid hc
  clear hc hi0 hz0 hz1 hz2
  go_enter Try.func18, Try.ntmps18
  go_wp2_with (go_at_call 44; refine (new _ a len cap C0.out).mono ?_; rintro e w1 ⟨rfl, hk, hs, hc⟩; have K1 := Lib.hid hk; have C1 := Lib.hid hc; have S1 := Lib.hid hs; clear hk hc hs)
  go_wp2_with (go_at_call 53; refine (once 2 (by omega) _ w.heap.size a len cap C1.out).mono ?_; rintro e w2 ⟨b, rfl, hk, hc⟩; have K2 := Lib.hid (K1.out.trans hk); have S2 := Lib.hid (Nat.lt_of_lt_of_le S1.out hk.size); have C2 := Lib.hid hc; clear hk hc C1 K1 S1; cases b)
  · go_wp2_with (go_at_call 46; refine (below 8 (by omega) _ w.heap.size a len cap (C2.out.alloc _)).mono ?_; rintro e w3 ⟨x, rfl, hx0, hx1, hk, hc⟩; have K3 := Lib.hid (K2.out.trans (((Keep.refl _ _).alloc _).trans hk)); have O3 := Lib.hid (ow_keep (Ow.empty 5 .u8 w2) hk S2.out); have S3 := Lib.hid (Nat.lt_of_lt_of_le S2.out (((Keep.refl w.heap.size w2).alloc _).trans hk).size); have C3 := Lib.hid hc; have HS3 := Lib.hid (((Keep.refl w.heap.size w2).alloc _).trans hk).size; (have hx := hx1 (by omega)); clear hx1 hk hc)
    go_loopw [5, 6] (fun v i wr => ∃ (k : Nat) (y : Int), i = .int .i64 y ∧ (k : Int) + y ≤ 7 ∧ 0 ≤ y ∧ ∃ A c zs, v = .slice A k c ∧ Ow 5 .u8 wr w2.heap.size wr.heap.size A k c zs ∧ Keep w.heap.size w wr ∧ Cur wr w.heap.size a len cap ∧ w2.heap.size ≤ wr.heap.size) (fun _ i _ => (intOf i).toNat)
    case atStart => exact ⟨0, x, rfl, by omega, by omega, _, _, [], rfl, O3.out.up, K3.out, C3.out, HS3.out⟩
    case round =>
      obtain ⟨k, y, rfl, hky, hy7, B, c, zs, rfl, ho, hkp, hcu, hsz⟩ := hrel
      have HO := Lib.hid ho
      have HK := Lib.hid hkp
      have HC := Lib.hid hcu
      have HSZ := Lib.hid hsz
      clear ho hkp hcu hsz
      by_cases hlt : 0 < y
      · go_wp2_with (first
          | (go_at_call 55; refine (pickIn 0 255 5 (by omega) (by omega) _ w.heap.size a len cap HC.out _ rfl (by kernel_rfl)).mono ?_; rintro e w5 ⟨q, rfl, hq0, hq1, hk1, hc1⟩; have HO1 := Lib.hid (ow_keep HO.out hk1 S2.out); have HX := Lib.hid (show (Lit.int .u8 q).wf = true from WalkArith.wf_u8 (by omega)); have HC1 := Lib.hid hc1; have HK1 := Lib.hid (HK.out.trans hk1); (have hs1 : w2.heap.size ≤ w5.heap.size := Nat.le_trans HSZ.out hk1.size); (have hp1 : w.heap.size < w2.heap.size := S2.out); clear hk1 hc1 HC HO HK)
          | (at_builtin; refine wpList_app _ rfl _ _ 22 rfl 5 i0 _ .u8 Try.underlying22 HZ.out.1 HZ.out.2.1 HZ.out.2.2.1 (by rw [HZ.out.2.2.2]; omega) rfl rfl rfl (HO1.out.alloc _) (Rd.one .u8 _ _ _ HX.out) (by omega) (by simp; omega) ?_; intro A1 cap1 w6 ho hb1; have HO3 := Lib.hid ho; have HB0 := Lib.hid (below_push' hs1 hb1); have HB := Lib.hid (cur_then2 C0.out hp1 HK1.out HC1.out HB0.out); have HS6 := Lib.hid (Nat.le_trans hs1 HB0.out.size); clear ho hb1))
        go_roundw
        case rel => exact ⟨k + 1, y - 1, by go_num, by omega, by omega, A1, cap1, zs ++ [q], rfl, HO3.out, HB.out.1, HB.out.2, HS6.out⟩
        case measure => simp [intOf]; omega
      · go_wp2_with (go_at_call 46; refine (below 4 (by omega) _ w.heap.size a len cap HC.out).mono ?_; rintro e w7 ⟨q, rfl, hq0, hq1, hk1, hc1⟩; have HO1 := Lib.hid (ow_keep HO.out hk1 S2.out); have HK1 := Lib.hid (keep_below HK.out hk1); (have hq := hq1 (by omega)); clear hk1 hc1 hq1)
        go_ret2
        exact ⟨_, _, _, zs, _, rfl, (HO1.out.down (Nat.le_of_lt S2.out)).up, by omega, by omega, HK1.out⟩
  · go_wp2_with (go_at_call 45; refine (bytes 1 (by omega) (by omega) _ w.heap.size a len cap C2.out).mono ?_; rintro e w3 ⟨A, n, c, zs, rfl, hn, ho, hk, hc⟩; have K3 := Lib.hid (K2.out.trans hk); have C3 := Lib.hid hc; have O3 := Lib.hid ho; clear hk hc ho C2 K2)
    go_wp2_with (go_at_call 54; refine (num _ w.heap.size a len cap C3.out).mono ?_; rintro e w4 ⟨z, rfl, h1, h2, hk, hc⟩; have K4 := Lib.hid (keep_below K3.out hk); have O4 := Lib.hid (ow_keep O3.out hk S2.out); clear hk hc h1 h2 C3 O3)
    go_wp2_with (go_at_call 27; refine (uvs.specUv _ _ A n c zs z _ O4.out.rd (by omega)).mono ?_; rintro e w5 ⟨B, m, d, rfl, ho, hb⟩; have O5 := Lib.hid (ho.down (lo2 := w.heap.size) K4.out.size); have K5 := Lib.hid (K4.out.trans (hb.mono K4.out.size)); have HM := Lib.hid (show (m : Int) ≤ 1000 by have h1 := ho.len; have h2 := enc.uv_len zs z; have h3 := O4.out.len; omega); clear ho hb)
    go_ret2
    exact ⟨_, _, _, _, _, rfl, O5.out, HM.out, by omega, K5.out⟩
end Go.Proofs.Ytpfpikfipkdjeaa.draw
