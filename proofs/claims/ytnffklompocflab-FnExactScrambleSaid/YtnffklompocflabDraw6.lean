/- The draws of stage 4: bit strings, sometimes with an element that is no bit; bytes. Condition: the bytes that are drawn from are a slice that came in. -/
import Derived.Test.YtnffklompocflabDraw5
namespace Go.Proofs.Ytnffklompocflab.draw
open Go.RowKit sl harn

/-- What stands behind a change of one cell of a row of the call's own. -/
theorem ow_set {E : TypeId} {k : IntKind} {w : World} {lo hi n cap b : Nat} {zs : List Int} (h : Ow E k w lo hi (some ⟨b, 0, none⟩) n cap zs) (i : Nat) (v : Int) (hv : (Lit.int k v).wf = true) : Ow E k (w.setCell ⟨b, i, none⟩ (.int k v)) lo hi (some ⟨b, 0, none⟩) n cap (zs.set i v) := by
  have hs := h.1.stored i (.int k v)
  have e : (zs.map (Value.int k)).set i (.int k v) = (zs.set i v).map (Value.int k) := by rw [List.map_set]
  refine ⟨?_, ?_, ?_, h.2.2.2⟩
  · rw [← e]; exact hs.1
  · intro z hz
    rcases List.mem_or_eq_of_mem_set hz with hz | hz
    · exact h.wf z hz
    · rw [hz]; exact hv
  · have := h.hi_; simpa [World.setCell] using this
theorem In.set {lo hi : Int} {zs : List Int} (h : In lo hi zs) (i : Nat) {x : Int} (h1 : lo ≤ x) (h2 : x ≤ hi) : In lo hi (zs.set i x) := fun z hz => by
  rcases List.mem_or_eq_of_mem_set hz with hz | hz
  · exact h z hz
  · rw [hz]; exact ⟨h1, h2⟩
theorem In.wide {lo hi lo2 hi2 : Int} {zs : List Int} (h : In lo hi zs) (h1 : lo2 ≤ lo) (h2 : hi ≤ hi2) : In lo2 hi2 zs := fun z hz => by
  have := h z hz; omega
set_option maxRecDepth 100000 in
theorem bits4 (N : Int) (h0 : 0 ≤ N) (hN : N ≤ 1000) (w : World) (p : Nat) (a : Option Addr) (len cap : Nat) (hc : Cur w p a len cap) :
    Calls Try.prog 46 #[.pointer (some ⟨p, 0, none⟩), .int .i64 N] w (SomeInts 0 1 1000 p a len cap w) := by
  obtain ⟨i0, hi0, hz0, hz1, hz2⟩ := info_parts intInfo
  have C0 := Lib.hid hc
  have P0 := Lib.hid hc.lt
  have HZ := Lib.hid (And.intro hi0 (And.intro hz0 (And.intro hz1 hz2)))
  clear hc hi0 hz0 hz1 hz2
  go_enter Try.func46, Try.ntmps46
  go_wp2
  go_loopw [5, 6] (fun v i wr => ∃ k : Nat, i = .int .i64 k ∧ (k : Int) ≤ N ∧ DrawingI 0 1 w wr p a len cap k v) (fun _ i _ => (N - intOf i).toNat)
  case atStart => exact ⟨0, rfl, by omega, _, _, [], rfl, (Ow.empty 3 .i64 w).up, In.nil _ _, (Keep.refl p w).alloc _, C0.out.alloc _⟩
  case round =>
    obtain ⟨k, rfl, hk, B, c, zs, rfl, ho, hin, hkp, hcu⟩ := hrel
    have HO := Lib.hid ho
    have HI := Lib.hid hin
    have HK := Lib.hid hkp
    have HC := Lib.hid hcu
    clear ho hkp hcu hin
    by_cases hlt : (k : Int) < N
    · go_wp2_with (first
        | (go_at_call 43; refine (below 2 (by omega) _ p a len cap HC.out).mono ?_; rintro e w2 ⟨z, rfl, hz0, hz1, hk1, hc1⟩; (have hz2 := hz1 (by omega)); have HO1 := Lib.hid (ow_keep HO.out hk1 P0.out); have HX := Lib.hid (And.intro (show (Lit.int .i64 z).wf = true from WalkArith.wf_i64 (by omega)) (HI.out.push hz0 (show z ≤ 1 by omega))); have HC1 := Lib.hid hc1; have HK1 := Lib.hid (HK.out.trans hk1); (have hs1 : w.heap.size ≤ w2.heap.size := HK1.out.size); clear hk1 hc1 hz1 HC HO HK HI)
        | (at_builtin; refine wpList_app _ rfl _ _ 22 rfl 3 i0 _ .i64 Try.underlying22 HZ.out.1 HZ.out.2.1 HZ.out.2.2.1 (by rw [HZ.out.2.2.2]; omega) rfl rfl rfl (HO1.out.alloc _) (Rd.one .i64 _ _ _ HX.out.1) (by omega) (by simp; omega) ?_; intro A1 cap1 w3 ho hb1; have HO3 := Lib.hid ho; have HB := Lib.hid (cur_then C0.out.1 P0.out HK1.out HC1.out (below_push' hs1 hb1)); clear ho hb1))
      go_roundw
      case rel => exact ⟨k + 1, by go_num, by omega, A1, cap1, _, rfl, HO3.out, HX.out.2, HB.out.1, HB.out.2⟩
      case measure => simp [intOf]; omega
    · go_wp2
      go_ret
      exact ⟨_, _, _, zs, rfl, by omega, HO.out, HI.out, HK.out, HC.out⟩
theorem SomeInts.wide {lo hi lo2 hi2 : Int} {N : Nat} {p : Nat} {a : Option Addr} {len cap : Nat} {w w' : World} {e : Ending} (h : SomeInts lo hi N p a len cap w e w') (h1 : lo2 ≤ lo) (h2 : hi ≤ hi2) : SomeInts lo2 hi2 N p a len cap w e w' := by
  obtain ⟨A, n, c, zs, e1, e2, e3, e4, e5⟩ := h
  exact ⟨A, n, c, zs, e1, e2, e3, e4.wide h1 h2, e5⟩
theorem cell_of {E : TypeId} {k : IntKind} {w : World} {lo hi n cap b : Nat} {zs : List Int} (h : Ow E k w lo hi (some ⟨b, 0, none⟩) n cap zs) {j : Nat} (hj : j < n) : w.cell? ⟨b, j, none⟩ = some (.int k (zs.getD j 0)) := by
  obtain ⟨b', off, e, _, _, hc⟩ := h.rd.at_ hj
  injection e with e; injection e with e1 e2 e3
  subst e1 e2
  rwa [Nat.zero_add] at hc
set_option maxRecDepth 100000 in
theorem any4 (w : World) (p : Nat) (a : Option Addr) (len cap : Nat) (hc : Cur w p a len cap) :
    Calls Try.prog 47 #[.pointer (some ⟨p, 0, none⟩)] w (SomeInts (-1) 3 1000 p a len cap w) := by
  have C0 := Lib.hid hc
  have P0 := Lib.hid hc.lt
  clear hc
  go_enter Try.func47, Try.ntmps47
  go_wp2_with (go_at_call 58; refine (pickIn 0 41 7 (by omega) (by omega) _ p a len cap C0.out _ rfl (by kernel_rfl)).mono ?_; rintro e w1 ⟨x, rfl, h1, h2, hk, hc⟩; have K1 := Lib.hid hk; have C1 := Lib.hid hc; clear hk hc)
  go_wp2_with fail
  (with_reducible refine (below 3 (by omega) _ p a len cap C1.out).mono ?_)
  rintro e w2 ⟨y, rfl, hy0, hy1, hk, hc⟩
  have K2 := Lib.hid (K1.out.trans hk)
  have C2 := Lib.hid hc
  have hy2 := hy1 (by omega)
  clear hk hc hy1 C1 K1
  go_wp2_with fail
  (with_reducible refine (bits4 _ (by omega) (by omega) _ p a len cap C2.out).mono ?_)
  rintro e w3 ⟨A, n, c, zs, rfl, hn, ho, hi, hk, hc⟩
  have K3 := Lib.hid (K2.out.trans hk)
  have C3 := Lib.hid hc
  have O3 := Lib.hid (ho.down K2.out.size)
  have I3 := Lib.hid hi
  have I4 := Lib.hid (hi.wide (show (-1 : Int) ≤ 0 by omega) (show (1 : Int) ≤ 3 by omega))
  clear hk hc ho hi C2 K2
  by_cases hn0 : 0 < (n : Int)
  · go_wp2_with fail
    (with_reducible refine (once 6 (by omega) _ p a len cap C3.out).mono ?_)
    rintro e w4 ⟨b, rfl, hk, hc⟩
    have K4 := Lib.hid (K3.out.trans hk)
    have C4 := Lib.hid hc
    have O4 := Lib.hid (ow_keep O3.out hk P0.out).up
    clear hk hc C3 K3 O3
    cases b
    · go_wp2
      go_ret
      exact ⟨_, _, _, zs, rfl, hn, O4.out, I4.out, K4.out, C4.out⟩
    · go_wp2_with fail
      (with_reducible refine (below n (by omega) _ p a len cap C4.out).mono ?_)
      rintro e w5 ⟨q, rfl, hq0, hq1, hk, hc⟩
      have hq2 := hq1 (by omega)
      obtain ⟨j, rfl⟩ := Int.eq_ofNat_of_zero_le hq0
      have K5 := Lib.hid (K4.out.trans hk)
      have C5 := Lib.hid hc
      have O5 := Lib.hid (ow_keep O4.out hk P0.out).up
      clear hk hc hq1 C4 K4 O4
      obtain ⟨b, rfl⟩ : ∃ b, A = some ⟨b, 0, none⟩ := by
        rcases O5.out.form with ⟨_, h0, _⟩ | ⟨g, cur, h, _⟩
        · omega
        · exact ⟨g, h⟩
      have hbl : w.heap.size ≤ b := by
        rcases O5.out.form with ⟨h, _⟩ | ⟨g, cur, h, g1, _⟩
        · cases h
        · injection h with h; injection h with h _; omega
      have HBL := Lib.hid hbl
      clear hbl
      go_wp2_with (go_at_call 58; refine (pickIn (-1) 3 3 (by omega) (by omega) _ p a len cap C5.out _ rfl (by kernel_rfl)).mono ?_; rintro e w6 ⟨z, rfl, hz1, hz2, hk, hc⟩; have K6 := Lib.hid (K5.out.trans hk); have C6 := Lib.hid hc; have O6 := Lib.hid (ow_keep O5.out hk P0.out).up; have hcell := cell_of (ow_keep O5.out hk P0.out) (show j < n by omega); have hfree := (ow_keep O5.out hk P0.out).free rfl j; have Z6 := Lib.hid (And.intro hz1 hz2); clear hk hc C5 K5 O5)
      go_ret
      have hv : (Lit.int .i64 z).wf = true := WalkArith.wf_i64 (by have := Z6.out; omega)
      have hb6 : Below w.heap.size w6 (w6.setCell ⟨b, j, none⟩ (.int .i64 z)) := (Below.refl _ _).setCell (p := ⟨b, j, none⟩) HBL.out _
      have HB := cur_then C0.out.1 P0.out K6.out C6.out hb6
      exact ⟨_, _, _, _, rfl, hn, (ow_set O6.out j z hv).up, I4.out.set j Z6.out.1 Z6.out.2, HB.1, HB.2⟩
  · go_wp2
    go_ret
    exact ⟨_, _, _, zs, rfl, hn, O3.out, I4.out, K3.out, C3.out⟩
theorem drawBitsToBytes (w : World) (a : Option Addr) (len cap : Nat) (hc : Code w w.heap.size a len) :
    Calls Try.prog 24 #[.slice a len cap] w (fun e w' => ∃ A n c zs, e = .returned (.slice A n c) ∧ n ≤ 1000 ∧ Ow 3 .i64 w' w.heap.size w'.heap.size A n c zs ∧ Below w.heap.size w w') := by
  have C0 := Lib.hid hc
  clear hc
  go_enter Try.func24, Try.ntmps24
  go_wp2_with fail
  (with_reducible refine (new _ a len cap C0.out).mono ?_)
  rintro e w1 ⟨rfl, hk, hs, hc⟩
  have K1 := Lib.hid hk
  have C1 := Lib.hid hc
  have S1 := Lib.hid hs
  clear hk hc hs
  go_wp2_with fail
  (with_reducible refine (once 2 (by omega) _ w.heap.size a len cap C1.out).mono ?_)
  rintro e w2 ⟨b, rfl, hk, hc⟩
  have K2 := Lib.hid (K1.out.trans hk)
  have S2 := Lib.hid (Nat.lt_of_lt_of_le S1.out hk.size)
  have C2 := Lib.hid hc
  clear hk hc C1 K1 S1
  cases b
  · go_wp2_with fail
    (with_reducible refine (any4 _ w.heap.size a len cap C2.out).mono ?_)
    rintro e w4 ⟨A, n, c, zs, rfl, hn, ho, hi, hk, hc⟩
    have K4 := Lib.hid (keep_below K2.out hk)
    have O4 := Lib.hid (ho.down (lo2 := w.heap.size) (Nat.le_of_lt S2.out))
    clear hk hc ho hi
    go_wp2_with fail
    go_ret
    exact ⟨_, _, _, zs, rfl, hn, O4.out, K4.out⟩
  · go_wp2_with fail
    (with_reducible refine (below 4 (by omega) _ w.heap.size a len cap C2.out).mono ?_)
    rintro e w3 ⟨x, rfl, hx0, hx1, hk, hc⟩
    have hx := hx1 (by omega)
    have K3 := Lib.hid (K2.out.trans hk)
    have S3 := Lib.hid (Nat.lt_of_lt_of_le S2.out hk.size)
    have C3 := Lib.hid hc
    clear hk hc hx1 C2 K2 S2
    go_wp2_with fail
    (with_reducible refine (bits4 _ (by omega) (by omega) _ w.heap.size a len cap C3.out).mono ?_)
    rintro e w4 ⟨A, n, c, zs, rfl, hn, ho, hi, hk, hc⟩
    have K4 := Lib.hid (keep_below K3.out hk)
    have O4 := Lib.hid (ho.down (lo2 := w.heap.size) (Nat.le_of_lt S3.out))
    clear hk hc ho hi
    go_wp2_with fail
    go_ret
    exact ⟨_, _, _, zs, rfl, hn, O4.out, K4.out⟩
theorem drawBytesToBits (w : World) (a : Option Addr) (len cap : Nat) (hc : Code w w.heap.size a len) :
    Calls Try.prog 22 #[.slice a len cap] w (fun e w' => ∃ A n c zs, e = .returned (.slice A n c) ∧ n ≤ 1000 ∧ Ow 5 .u8 w' w.heap.size w'.heap.size A n c zs ∧ Below w.heap.size w w') := by
  have C0 := Lib.hid hc
  clear hc
  go_enter Try.func22, Try.ntmps22
  go_wp2_with fail
  (with_reducible refine (new _ a len cap C0.out).mono ?_)
  rintro e w1 ⟨rfl, hk, hs, hc⟩
  have K1 := Lib.hid hk
  have C1 := Lib.hid hc
  have S1 := Lib.hid hs
  clear hk hc hs
  go_wp2_with fail
  (with_reducible refine (below 6 (by omega) _ w.heap.size a len cap C1.out).mono ?_)
  rintro e w3 ⟨x, rfl, hx0, hx1, hk, hc⟩
  have hx := hx1 (by omega)
  have K3 := Lib.hid (K1.out.trans hk)
  have S3 := Lib.hid (Nat.lt_of_lt_of_le S1.out hk.size)
  have C3 := Lib.hid hc
  clear hk hc hx1 C1 K1 S1
  go_wp2_with fail
  (with_reducible refine (bytes _ (by omega) (by omega) _ w.heap.size a len cap C3.out).mono ?_)
  rintro e w4 ⟨A, n, c, zs, rfl, hn, ho, hk, hc⟩
  have K4 := Lib.hid (keep_below K3.out hk)
  have O4 := Lib.hid (ho.down (lo2 := w.heap.size) (Nat.le_of_lt S3.out))
  clear hk hc ho
  go_wp2_with fail
  go_ret
  exact ⟨_, _, _, zs, rfl, by omega, O4.out, K4.out⟩
end Go.Proofs.Ytnffklompocflab.draw
