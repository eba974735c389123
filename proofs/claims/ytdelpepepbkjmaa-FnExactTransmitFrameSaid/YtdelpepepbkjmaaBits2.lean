/- Bit strings, program and specification: HammingDistance and BitsToInt. Condition: none. -/
import Derived.Test.YtdelpepepbkjmaaBits1
import Derived.Laws.Bits128
namespace Go.Proofs.Ytdelpepepbkjmaa.bits
open Go.RowKit sl harn bm rng

theorem ham_start {zs ys : List Int} : diff (zs.take 0) (ys.take 0) = 0 := by simp [diff]
theorem ham_bd (zs ys : List Int) (k : Nat) : 0 ≤ diff (zs.take k) (ys.take k) ∧ diff (zs.take k) (ys.take k) ≤ k := by
  have := diff_in (zs.take k) (ys.take k)
  have h2 : (zs.take k).length ≤ k := by simp; omega
  omega
theorem ham_end {zs ys : List Int} {n n2 : Nat} (h1 : zs.length = n) (h2 : ys.length = n2) {m M : Nat} (hm : m = min n n2) (hM : M = max n n2) {a : Int} (ha : a = M - m + diff (zs.take m) (ys.take m)) : a = ham zs ys := by
  rw [ha, diff_all zs ys m (by omega), ham, h1, h2, hM, hm]
def HamPost (zs ys : List Int) (w : World) (e : Ending) (w' : World) : Prop := e = .returned (.int .i64 (ham zs ys)) ∧ Below w.heap.size w w'
theorem HamPost.parts {zs ys : List Int} {r : Int} (ht : ham zs ys = r) {w : World} {e : Ending} {w' : World} (h : HamPost zs ys w e w') : e = .returned (.int .i64 r) ∧ Below w.heap.size w w' := by
  subst ht; exact h
theorem or_bit {k : Nat} {a x : Int} (ha : 0 ≤ a) (ha2 : a < 2 ^ k) (hx : 0 ≤ x ∧ x ≤ 1) (hk : k ≤ 61) : bits .or .i64 a (x * 2 ^ k) = a + x * 2 ^ k := by
  obtain ⟨p, rfl⟩ := Int.eq_ofNat_of_zero_le ha
  obtain ⟨q, rfl⟩ := Int.eq_ofNat_of_zero_le hx.1
  have hp : p < 2 ^ k := by exact_mod_cast ha2
  have hq : q ≤ 1 := by omega
  have hk2 : 2 ^ k ≤ 2 ^ 61 := Nat.pow_le_pow_right (by omega) hk
  rw [show ((q : Int) * 2 ^ k) = ((q * 2 ^ k : Nat) : Int) by rw [Int.natCast_mul, Int.natCast_pow, show ((2 : Nat) : Int) = 2 from rfl]]
  have hs : q * 2 ^ k ≤ 2 ^ 61 := by
    have : q = 0 ∨ q = 1 := by omega
    rcases this with rfl | rfl <;> omega
  have e : (p ||| q * 2 ^ k) = p + q * 2 ^ k := by
    have := Nat.two_pow_add_eq_or_of_lt hp q
    rw [Nat.or_comm, Nat.mul_comm q, Nat.add_comm p]
    exact this.symm
  show IntKind.i64.wrap ((BitVec.ofInt 64 (p : Int) ||| BitVec.ofInt 64 ((q * 2 ^ k : Nat) : Int)).toNat : Int) = _
  rw [BitVec.toNat_or]
  generalize hg : q * 2 ^ k = g at *
  have e1 : (BitVec.ofInt 64 (p : Int)).toNat = p := by rw [BitVec.ofInt_natCast, BitVec.toNat_ofNat]; omega
  have e2 : (BitVec.ofInt 64 (g : Int)).toNat = g := by rw [BitVec.ofInt_natCast, BitVec.toNat_ofNat]; omega
  rw [e1, e2, e, IntKind.wrap_i64]
  omega
theorem or_wrap {k : Nat} {a x : Int} (ha : 0 ≤ a) (ha2 : a < 2 ^ k) (hx : 0 ≤ x ∧ x ≤ 1) (hk : k ≤ 61) : bits .or .i64 a (wrap64 (x * 2 ^ k)) = a + x * 2 ^ k := by
  have h2 := pow_le hk
  have hp := pow_pos k
  have : wrap64 (x * 2 ^ k) = x * 2 ^ k := by
    have : x = 0 ∨ x = 1 := by omega
    rcases this with rfl | rfl
    · rw [Int.zero_mul]; exact IntWalk.wrap64_in 0 (by omega)
    · rw [Int.one_mul]; exact IntWalk.wrap64_in (2 ^ k) (by omega)
  rw [this, or_bit ha ha2 hx hk]
theorem implBti (zs : List Int) (lo hi : Nat) (A : Option Addr) (n cap : Nat) (w : World) (h : Rd .i64 w lo hi A n cap zs) :
    Calls Try.prog 46 #[.slice A n cap] w fun e w' => e = .returned (.int .i64 (bti zs)) ∧ w = w' := by
  have hb := h.cap_
  have HR := Lib.hid h
  clear h
  by_cases h40 : 40 < n
  · have H0 := Lib.hid (bti_no (l := zs) (by have := HR.out.len; omega))
    go_enter Try.func46, Try.ntmps46
    go_wp2_with fail
    go_ret
    exact ⟨ret_num H0.out.symm, rfl⟩
  · by_cases hi1 : isb zs = true
    · have H0 := Lib.hid (bti_yes hi1 (by have := HR.out.len; omega))
      have HI := Lib.hid hi1
      clear hi1
      go_enter Try.func46, Try.ntmps46
      go_wp2_with (go_at_call 67; refine (implIsb zs _ _ A n cap _ HR.out).mono ?_; rw [HI.out]; rintro e w1 ⟨rfl, rfl⟩)
      go_loop [3, 16] (fun s i => ∃ (k : Nat) (a : Int), i = .int .i64 k ∧ s = .int .i64 a ∧ k ≤ n ∧ a = num (zs.take k)) (fun _ i => n - (intOf i).toNat)
      case atStart => exact ⟨0, 0, rfl, rfl, by omega, rfl⟩
      case round =>
        obtain ⟨k, a, rfl, rfl, hk, ha⟩ := hrel
        have HA := Lib.hid ha
        clear ha
        by_cases hlt : k < n
        · obtain ⟨b, off, rfl, h1, h2, hc⟩ := HR.out.at_ hlt
          have hx01 := isb_getD HI.out k
          obtain ⟨x, hx⟩ : ∃ x, zs.getD k 0 = x := ⟨_, rfl⟩
          rw [hx] at hc hx01
          obtain ⟨v, hv⟩ : ∃ v, a + x * 2 ^ k = v := ⟨_, rfl⟩
          have hor : bits .or .i64 a (wrap64 (x * 2 ^ k)) = v := by
            have hin := num_in (isb_all (isb_sub HI.out (m := zs.take k) fun z hz => List.mem_of_mem_take hz))
            rw [← HA.out, List.length_take, Nat.min_eq_left (by have := HR.out.len; omega)] at hin
            rw [or_wrap hin.1 hin.2 hx01 (by omega), hv]
          have HX := Lib.hid (show num (zs.take (k + 1)) = v by rw [num_take zs (by rw [HR.out.len]; exact hlt), ← HA.out, hx, hv])
          clear hx hv
          have hlt2 : (k : Int) < n := by omega
          go_wp2
          go_round
          case rel => exact ⟨k + 1, v, by go_num, rfl, by omega, HX.out.symm⟩
          case measure => simp [intOf]; omega
        · have hlt2 : ¬ (k : Int) < n := by omega
          obtain rfl : k = n := by omega
          go_wp2
          go_ret
          exact ⟨ret_num (by rw [HA.out, H0.out, take_all HR.out.len]), rfl⟩
    · have H0 := Lib.hid (bti_no (l := zs) (fun h => hi1 h.1))
      have HI := Lib.hid (show isb zs = false by simpa using hi1)
      clear hi1
      go_enter Try.func46, Try.ntmps46
      go_wp2_with (go_at_call 67; refine (implIsb zs _ _ A n cap _ HR.out).mono ?_; rw [HI.out]; rintro e w1 ⟨rfl, rfl⟩)
      go_ret
      exact ⟨ret_num H0.out.symm, rfl⟩
theorem specBti (zs : List Int) (lo hi : Nat) (A : Option Addr) (n cap : Nat) (w : World) (h : Rd .i64 w lo hi A n cap zs) :
    Calls Try.prog 50 #[.slice A n cap] w fun e w' => e = .returned (.int .i64 (bti zs)) ∧ w = w' := by
  have hb := h.cap_
  have HR := Lib.hid h
  clear h
  by_cases hi1 : isb zs = true
  · have HI := Lib.hid hi1
    by_cases h40 : 40 < n
    · have H0 := Lib.hid (bti_no (l := zs) (by have := HR.out.len; omega))
      clear hi1
      go_enter Try.func50, Try.ntmps50
      go_wp2_with (go_at_call 68; refine (specIsb zs _ _ A n cap _ HR.out).mono ?_; rw [HI.out]; rintro e w1 ⟨rfl, rfl⟩)
      go_ret
      exact ⟨ret_num H0.out.symm, rfl⟩
    · have H0 := Lib.hid (bti_yes hi1 (by have := HR.out.len; omega))
      clear hi1
      go_enter Try.func50, Try.ntmps50
      go_wp2_with (go_at_call 68; refine (specIsb zs _ _ A n cap _ HR.out).mono ?_; rw [HI.out]; rintro e w1 ⟨rfl, rfl⟩)
      go_loop [3, 4] (fun s i => ∃ (k : Nat) (a : Int), i = .int .i64 k ∧ s = .int .i64 a ∧ k ≤ n ∧ a = num (zs.take k)) (fun _ i => n - (intOf i).toNat)
      case atStart => exact ⟨0, 0, rfl, rfl, by omega, rfl⟩
      case round =>
        obtain ⟨k, a, rfl, rfl, hk, ha⟩ := hrel
        have HA := Lib.hid ha
        clear ha
        by_cases hlt : k < n
        · obtain ⟨b, off, rfl, h1, h2, hc⟩ := HR.out.at_ hlt
          have hx01 := isb_getD HI.out k
          obtain ⟨x, hx⟩ : ∃ x, zs.getD k 0 = x := ⟨_, rfl⟩
          rw [hx] at hc hx01
          obtain ⟨v, hv⟩ : ∃ v, a + x * 2 ^ k = v := ⟨_, rfl⟩
          have hor : bits .or .i64 a (wrap64 (x * 2 ^ k)) = v := by
            have hin := num_in (isb_all (isb_sub HI.out (m := zs.take k) fun z hz => List.mem_of_mem_take hz))
            rw [← HA.out, List.length_take, Nat.min_eq_left (by have := HR.out.len; omega)] at hin
            rw [or_wrap hin.1 hin.2 hx01 (by omega), hv]
          have HX := Lib.hid (show num (zs.take (k + 1)) = v by rw [num_take zs (by rw [HR.out.len]; exact hlt), ← HA.out, hx, hv])
          clear hx hv
          have hlt2 : (k : Int) < n := by omega
          go_wp2
          go_round
          case rel => exact ⟨k + 1, v, by go_num, rfl, by omega, HX.out.symm⟩
          case measure => simp [intOf]; omega
        · have hlt2 : ¬ (k : Int) < n := by omega
          obtain rfl : k = n := by omega
          go_wp2
          go_ret
          exact ⟨ret_num (by rw [HA.out, H0.out, take_all HR.out.len]), rfl⟩
  · have H0 := Lib.hid (bti_no (l := zs) (fun h => hi1 h.1))
    have HI := Lib.hid (show isb zs = false by simpa using hi1)
    clear hi1
    go_enter Try.func50, Try.ntmps50
    go_wp2_with (go_at_call 68; refine (specIsb zs _ _ A n cap _ HR.out).mono ?_; rw [HI.out]; rintro e w1 ⟨rfl, rfl⟩)
    go_ret
    exact ⟨ret_num H0.out.symm, rfl⟩
end Go.Proofs.Ytdelpepepbkjmaa.bits
