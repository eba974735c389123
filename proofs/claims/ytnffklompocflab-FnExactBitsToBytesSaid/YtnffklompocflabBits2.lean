/- Bit strings, program and specification: HammingDistance and BitsToInt. Condition: none. -/
import Derived.Test.YtnffklompocflabBits1
import Derived.Laws.Bits128
namespace Go.Proofs.Ytnffklompocflab.bits
open Go.RowKit sl harn bm rng

theorem ham_start {zs ys : List Int} : diff (zs.take 0) (ys.take 0) = 0 := by simp [diff]
theorem ham_bd (zs ys : List Int) (k : Nat) : 0 ≤ diff (zs.take k) (ys.take k) ∧ diff (zs.take k) (ys.take k) ≤ k := by
  have := diff_in (zs.take k) (ys.take k)
  have h2 : (zs.take k).length ≤ k := by simp; omega
  omega
theorem ham_end {zs ys : List Int} {n n2 : Nat} (h1 : zs.length = n) (h2 : ys.length = n2) {m M : Nat} (hm : m = min n n2) (hM : M = max n n2) {a : Int} (ha : a = M - m + diff (zs.take m) (ys.take m)) : a = ham zs ys := by
  rw [ha, diff_all zs ys m (by omega), ham, h1, h2, hM, hm]
def HamPost (zs ys : List Int) (w : World) (e : Ending) (w' : World) : Prop := e = .returned (.int .i64 (ham zs ys)) ∧ Below w.heap.size w w'
theorem HamPost.parts {zs ys : List Int} {r : Int} (ht : ham zs ys = r) {w : World} {e : Ending} {w' : World} (h : HamPost zs ys w e w') : e = .returned (.int .i64 r) ∧ Below w.heap.size w w' := by
  subst ht; exact h
theorem implHam (zs ys : List Int) (lo hi lo2 hi2 : Nat) (A B : Option Addr) (n cap n2 cap2 : Nat) (w : World) (h : Rd .i64 w lo hi A n cap zs) (h' : Rd .i64 w lo2 hi2 B n2 cap2 ys) :
    Calls Try.prog 31 #[.slice A n cap, .slice B n2 cap2] w (HamPost zs ys w) := by
  have hb := h.cap_
  have hb2 := h'.cap_
  obtain ⟨m, hm⟩ : ∃ m, m = min n n2 := ⟨_, rfl⟩
  obtain ⟨M, hM⟩ : ∃ M, M = max n n2 := ⟨_, rfl⟩
  have HM := Lib.hid (And.intro hm hM)
  have b1 : m ≤ n := by omega
  have b2 : m ≤ n2 := by omega
  have b3 : m ≤ M := by omega
  have b4 : (M : Int) ≤ 9223372036854775807 := by omega
  have H1 := Lib.hid (show (m : Int) = if (n2 : Int) < n then (n2 : Int) else n by split <;> omega)
  have H2 := Lib.hid (show (M : Int) = if (n : Int) < n2 then (n2 : Int) else n by split <;> omega)
  have HR := Lib.hid h
  have HS := Lib.hid h'
  clear h h' hm hM
  go_enter Try.func31, Try.ntmps31
  go_wp2_with fail
  (with_reducible refine (implMin n n2 m H1.out _).mono ?_)
  rintro e w1 ⟨rfl, hb1⟩
  have HB1 := Lib.hid hb1
  clear hb1
  go_wp2_with fail
  (with_reducible refine (implMax n n2 M H2.out _).mono ?_)
  rintro e w2 ⟨rfl, hb2⟩
  have HB2 := Lib.hid (HB1.out.trans (hb2.mono HB1.out.size))
  clear hb2 HB1
  have HR2 := Lib.hid (HR.out.below HB2.out)
  have HS2 := Lib.hid (HS.out.below HB2.out)
  clear HR HS
  go_wp2_with fail
  go_loopw [6, 21] (fun d i wr => ∃ (k q : Nat) (a : Int), i = .int .i64 k ∧ d = .int .i64 a ∧ k ≤ m ∧ wr = w2.drewN q ∧ a = M - m + diff (zs.take k) (ys.take k)) (fun _ i _ => m - (intOf i).toNat)
  case atStart => exact ⟨0, 0, M - m, rfl, rfl, by omega, rfl, by rw [ham_start, Int.add_zero]⟩
  case round =>
    obtain ⟨k, q, a, rfl, rfl, hk, rfl, ha⟩ := hrel
    have h3 := ham_bd zs ys k
    have ha0 : 0 ≤ a := by omega
    have ha1 : a ≤ M - m + k := by omega
    have HA := Lib.hid ha
    clear ha h3
    by_cases hlt : k < m
    · obtain ⟨b, off, rfl, h1, h2, hc⟩ := HR2.out.at_ (show k < n by omega)
      obtain ⟨b', off', rfl, h1', h2', hc'⟩ := HS2.out.at_ (show k < n2 by omega)
      obtain ⟨x, hx⟩ : ∃ x, zs.getD k 0 = x := ⟨_, rfl⟩
      obtain ⟨y, hy⟩ : ∃ y, ys.getD k 0 = y := ⟨_, rfl⟩
      have HX := Lib.hid (show diff (zs.take (k + 1)) (ys.take (k + 1)) = diff (zs.take k) (ys.take k) + (if x = y then 0 else 1) by rw [← hx, ← hy]; exact diff_take zs ys k (by rw [HR2.out.len]; omega) (by rw [HS2.out.len]; omega))
      rw [hx] at hc
      rw [hy] at hc'
      clear hx hy
      have hlt2 : (k : Int) < m := by omega
      have hlt3 : (k : Int) < n := by omega
      have hlt4 : (k : Int) < n2 := by omega
      by_cases hxy : x = y
      · subst hxy
        go_wp2
        go_quiet (fail)
        go_wp2
        go_roundw
        case rel => exact ⟨k + 1, _, a, by go_num, rfl, by omega, rfl, by rw [HX.out, HA.out, if_pos trivial, Int.add_zero]⟩
        case measure => simp [intOf]; omega
      · have hne : (x == y) = false := by simpa using hxy
        go_wp2
        go_quiet (fail)
        go_wp2
        go_roundw
        case rel => exact ⟨k + 1, _, a + 1, by go_num, by go_num, by omega, rfl, by rw [HX.out, HA.out, if_neg hxy]; omega⟩
        case measure => simp [intOf]; omega
    · have hlt2 : ¬ (k : Int) < m := by omega
      obtain rfl : k = m := by omega
      go_wp2
      go_ret
      exact ⟨ret_num (ham_end HR2.out.len HS2.out.len HM.out.1 HM.out.2 HA.out), HB2.out.trans ((below_drews w2 q).mono HB2.out.size)⟩
theorem or_bit {k : Nat} {a x : Int} (ha : 0 ≤ a) (ha2 : a < 2 ^ k) (hx : 0 ≤ x ∧ x ≤ 1) (hk : k ≤ 61) : bits .or .i64 a (x * 2 ^ k) = a + x * 2 ^ k := by
  obtain ⟨p, rfl⟩ := Int.eq_ofNat_of_zero_le ha
  obtain ⟨q, rfl⟩ := Int.eq_ofNat_of_zero_le hx.1
  have hp : p < 2 ^ k := by exact_mod_cast ha2
  have hq : q ≤ 1 := by omega
  have hk2 : 2 ^ k ≤ 2 ^ 61 := Nat.pow_le_pow_right (by omega) hk
  rw [show ((q : Int) * 2 ^ k) = ((q * 2 ^ k : Nat) : Int) by rw [Int.natCast_mul, Int.natCast_pow, show ((2 : Nat) : Int) = 2 from rfl]]
  have hs : q * 2 ^ k ≤ 2 ^ 61 := by
    have : q = 0 ∨ q = 1 := by omega
    rcases this with rfl | rfl <;> omega
  have e : (p ||| q * 2 ^ k) = p + q * 2 ^ k := by
    have := Nat.two_pow_add_eq_or_of_lt hp q
    rw [Nat.or_comm, Nat.mul_comm q, Nat.add_comm p]
    exact this.symm
  show IntKind.i64.wrap ((BitVec.ofInt 64 (p : Int) ||| BitVec.ofInt 64 ((q * 2 ^ k : Nat) : Int)).toNat : Int) = _
  rw [BitVec.toNat_or]
  generalize hg : q * 2 ^ k = g at *
  have e1 : (BitVec.ofInt 64 (p : Int)).toNat = p := by rw [BitVec.ofInt_natCast, BitVec.toNat_ofNat]; omega
  have e2 : (BitVec.ofInt 64 (g : Int)).toNat = g := by rw [BitVec.ofInt_natCast, BitVec.toNat_ofNat]; omega
  rw [e1, e2, e, IntKind.wrap_i64]
  omega
theorem or_wrap {k : Nat} {a x : Int} (ha : 0 ≤ a) (ha2 : a < 2 ^ k) (hx : 0 ≤ x ∧ x ≤ 1) (hk : k ≤ 61) : bits .or .i64 a (wrap64 (x * 2 ^ k)) = a + x * 2 ^ k := by
  have h2 := pow_le hk
  have hp := pow_pos k
  have : wrap64 (x * 2 ^ k) = x * 2 ^ k := by
    have : x = 0 ∨ x = 1 := by omega
    rcases this with rfl | rfl
    · rw [Int.zero_mul]; exact IntWalk.wrap64_in 0 (by omega)
    · rw [Int.one_mul]; exact IntWalk.wrap64_in (2 ^ k) (by omega)
  rw [this, or_bit ha ha2 hx hk]
theorem implBti (zs : List Int) (lo hi : Nat) (A : Option Addr) (n cap : Nat) (w : World) (h : Rd .i64 w lo hi A n cap zs) :
    Calls Try.prog 20 #[.slice A n cap] w fun e w' => e = .returned (.int .i64 (bti zs)) ∧ w = w' := by
  have hb := h.cap_
  have HR := Lib.hid h
  clear h
  by_cases h40 : 40 < n
  · have H0 := Lib.hid (bti_no (l := zs) (by have := HR.out.len; omega))
    go_enter Try.func20, Try.ntmps20
    go_wp2_with fail
    go_ret
    exact ⟨ret_num H0.out.symm, rfl⟩
  · by_cases hi1 : isb zs = true
    · have H0 := Lib.hid (bti_yes hi1 (by have := HR.out.len; omega))
      have HI := Lib.hid hi1
      clear hi1
      go_enter Try.func20, Try.ntmps20
      go_wp2_with (go_at_call 11; refine (implIsb zs _ _ A n cap _ HR.out).mono ?_; rw [HI.out]; rintro e w1 ⟨rfl, rfl⟩)
      go_loop [3, 16] (fun s i => ∃ (k : Nat) (a : Int), i = .int .i64 k ∧ s = .int .i64 a ∧ k ≤ n ∧ a = num (zs.take k)) (fun _ i => n - (intOf i).toNat)
      case atStart => exact ⟨0, 0, rfl, rfl, by omega, rfl⟩
      case round =>
        obtain ⟨k, a, rfl, rfl, hk, ha⟩ := hrel
        have HA := Lib.hid ha
        clear ha
        by_cases hlt : k < n
        · obtain ⟨b, off, rfl, h1, h2, hc⟩ := HR.out.at_ hlt
          have hx01 := isb_getD HI.out k
          obtain ⟨x, hx⟩ : ∃ x, zs.getD k 0 = x := ⟨_, rfl⟩
          rw [hx] at hc hx01
          obtain ⟨v, hv⟩ : ∃ v, a + x * 2 ^ k = v := ⟨_, rfl⟩
          have hor : bits .or .i64 a (wrap64 (x * 2 ^ k)) = v := by
            have hin := num_in (isb_all (isb_sub HI.out (m := zs.take k) fun z hz => List.mem_of_mem_take hz))
            rw [← HA.out, List.length_take, Nat.min_eq_left (by have := HR.out.len; omega)] at hin
            rw [or_wrap hin.1 hin.2 hx01 (by omega), hv]
          have HX := Lib.hid (show num (zs.take (k + 1)) = v by rw [num_take zs (by rw [HR.out.len]; exact hlt), ← HA.out, hx, hv])
          clear hx hv
          have hlt2 : (k : Int) < n := by omega
          go_wp2
          go_round
          case rel => exact ⟨k + 1, v, by go_num, rfl, by omega, HX.out.symm⟩
          case measure => simp [intOf]; omega
        · have hlt2 : ¬ (k : Int) < n := by omega
          obtain rfl : k = n := by omega
          go_wp2
          go_ret
          exact ⟨ret_num (by rw [HA.out, H0.out, take_all HR.out.len]), rfl⟩
    · have H0 := Lib.hid (bti_no (l := zs) (fun h => hi1 h.1))
      have HI := Lib.hid (show isb zs = false by simpa using hi1)
      clear hi1
      go_enter Try.func20, Try.ntmps20
      go_wp2_with (go_at_call 11; refine (implIsb zs _ _ A n cap _ HR.out).mono ?_; rw [HI.out]; rintro e w1 ⟨rfl, rfl⟩)
      go_ret
      exact ⟨ret_num H0.out.symm, rfl⟩
theorem specBti (zs : List Int) (lo hi : Nat) (A : Option Addr) (n cap : Nat) (w : World) (h : Rd .i64 w lo hi A n cap zs) :
    Calls Try.prog 19 #[.slice A n cap] w fun e w' => e = .returned (.int .i64 (bti zs)) ∧ w = w' := by
  have hb := h.cap_
  have HR := Lib.hid h
  clear h
  by_cases hi1 : isb zs = true
  · have HI := Lib.hid hi1
    by_cases h40 : 40 < n
    · have H0 := Lib.hid (bti_no (l := zs) (by have := HR.out.len; omega))
      clear hi1
      go_enter Try.func19, Try.ntmps19
      go_wp2_with (go_at_call 9; refine (specIsb zs _ _ A n cap _ HR.out).mono ?_; rw [HI.out]; rintro e w1 ⟨rfl, rfl⟩)
      go_ret
      exact ⟨ret_num H0.out.symm, rfl⟩
    · have H0 := Lib.hid (bti_yes hi1 (by have := HR.out.len; omega))
      clear hi1
      go_enter Try.func19, Try.ntmps19
      go_wp2_with (go_at_call 9; refine (specIsb zs _ _ A n cap _ HR.out).mono ?_; rw [HI.out]; rintro e w1 ⟨rfl, rfl⟩)
      go_loop [3, 4] (fun s i => ∃ (k : Nat) (a : Int), i = .int .i64 k ∧ s = .int .i64 a ∧ k ≤ n ∧ a = num (zs.take k)) (fun _ i => n - (intOf i).toNat)
      case atStart => exact ⟨0, 0, rfl, rfl, by omega, rfl⟩
      case round =>
        obtain ⟨k, a, rfl, rfl, hk, ha⟩ := hrel
        have HA := Lib.hid ha
        clear ha
        by_cases hlt : k < n
        · obtain ⟨b, off, rfl, h1, h2, hc⟩ := HR.out.at_ hlt
          have hx01 := isb_getD HI.out k
          obtain ⟨x, hx⟩ : ∃ x, zs.getD k 0 = x := ⟨_, rfl⟩
          rw [hx] at hc hx01
          obtain ⟨v, hv⟩ : ∃ v, a + x * 2 ^ k = v := ⟨_, rfl⟩
          have hor : bits .or .i64 a (wrap64 (x * 2 ^ k)) = v := by
            have hin := num_in (isb_all (isb_sub HI.out (m := zs.take k) fun z hz => List.mem_of_mem_take hz))
            rw [← HA.out, List.length_take, Nat.min_eq_left (by have := HR.out.len; omega)] at hin
            rw [or_wrap hin.1 hin.2 hx01 (by omega), hv]
          have HX := Lib.hid (show num (zs.take (k + 1)) = v by rw [num_take zs (by rw [HR.out.len]; exact hlt), ← HA.out, hx, hv])
          clear hx hv
          have hlt2 : (k : Int) < n := by omega
          go_wp2
          go_round
          case rel => exact ⟨k + 1, v, by go_num, rfl, by omega, HX.out.symm⟩
          case measure => simp [intOf]; omega
        · have hlt2 : ¬ (k : Int) < n := by omega
          obtain rfl : k = n := by omega
          go_wp2
          go_ret
          exact ⟨ret_num (by rw [HA.out, H0.out, take_all HR.out.len]), rfl⟩
  · have H0 := Lib.hid (bti_no (l := zs) (fun h => hi1 h.1))
    have HI := Lib.hid (show isb zs = false by simpa using hi1)
    clear hi1
    go_enter Try.func19, Try.ntmps19
    go_wp2_with (go_at_call 9; refine (specIsb zs _ _ A n cap _ HR.out).mono ?_; rw [HI.out]; rintro e w1 ⟨rfl, rfl⟩)
    go_ret
    exact ⟨ret_num H0.out.symm, rfl⟩
end Go.Proofs.Ytnffklompocflab.bits
