/- Bit strings, program and specification: IsBitString, Weight, Parity, HammingDistance, BitsToInt. Condition: none. -/
import Derived.Test.YtichhbkgebimeaaBitm
import Derived.Test.YtichhbkgebimeaaRng
namespace Go.Proofs.Ytichhbkgebimeaa.bits
open Go.RowKit sl harn bm rng

theorem next_bit {zs : List Int} {k : Nat} {x : Int} (h : ∀ j, j < k → 0 ≤ zs.getD j 0 ∧ zs.getD j 0 ≤ 1) (hx : zs.getD k 0 = x) (h1 : 0 ≤ x) (h2 : x ≤ 1) : ∀ j, j < k + 1 → 0 ≤ zs.getD j 0 ∧ zs.getD j 0 ≤ 1 := fun j hj => by
  rcases Nat.lt_or_ge j k with hjk | hjk
  · exact h j hjk
  · obtain rfl : j = k := by omega
    rw [hx]; exact ⟨h1, h2⟩
theorem ret_bool {a b : Bool} (h : a = b) : Ending.returned (.bool a) = .returned (.bool b) := by rw [h]
theorem areIn (lo' hi' : Int) (zs : List Int) (lo hi : Nat) (A : Option Addr) (n cap : Nat) (w : World) (h : Rd .i64 w lo hi A n cap zs) :
    Calls Try.prog 43 #[.slice A n cap, .int .i64 lo', .int .i64 hi'] w fun e w' => e = .returned (.bool (inr zs lo' hi')) ∧ w = w' := by
  have hb := h.cap_
  have HR := Lib.hid h
  clear h
  go_enter Try.func43, Try.ntmps43
  go_wp2
  go_loop [11] (fun i => ∃ k : Nat, i = .int .i64 k ∧ k ≤ n ∧ ∀ j, j < k → lo' ≤ zs.getD j 0 ∧ zs.getD j 0 ≤ hi') (fun i => n - (intOf i).toNat)
  case atStart => exact ⟨0, rfl, by omega, fun j h => absurd h (by omega)⟩
  case round =>
    obtain ⟨k, rfl, hk, hall⟩ := hrel
    have HA := Lib.hid hall
    clear hall
    by_cases hlt : k < n
    · obtain ⟨b, off, rfl, h1, h2, hc⟩ := HR.out.at_ hlt
      obtain ⟨x, hx⟩ : ∃ x, zs.getD k 0 = x := ⟨_, rfl⟩
      rw [hx] at hc
      have HX := Lib.hid hx
      clear hx
      have hlt2 : (k : Int) < n := by omega
      by_cases h01 : lo' ≤ x ∧ x ≤ hi'
      · have H01 := Lib.hid h01
        clear h01
        go_wp2_with (go_at_call 42; refine (inRange_yes x lo' hi' H01.out _).mono ?_; rintro e w1 ⟨rfl, rfl⟩)
        go_round
        case rel => exact ⟨k + 1, by go_num, by omega, next_in HA.out HX.out H01.out.1 H01.out.2⟩
        case measure => simp [intOf]; omega
      · have H01 := Lib.hid h01
        clear h01
        go_wp2_with (go_at_call 42; refine (inRange_no x lo' hi' H01.out _).mono ?_; rintro e w1 ⟨rfl, rfl⟩)
        go_ret
        exact ⟨ret_bool (inr_no (i := k) (by rw [HR.out.len]; exact hlt) (by rw [HX.out]; exact H01.out)).symm, rfl⟩
    · have hlt2 : ¬ (k : Int) < n := by omega
      obtain rfl : k = n := by omega
      go_wp2
      go_ret
      exact ⟨ret_bool (inr_of_at fun i hi => HA.out i (by rw [← HR.out.len]; exact hi)).symm, rfl⟩
theorem take_all {zs : List Int} {n : Nat} (h : zs.length = n) : zs.take n = zs := List.take_of_length_le (by omega)
theorem wt_next {zs : List Int} {k : Nat} {a x : Int} (h : a = wt (zs.take k)) (hk : k < zs.length) (hx : zs.getD k 0 = x) : wt (zs.take (k + 1)) = a + (if x = 1 then 1 else 0) := by
  rw [wt_take zs hk, h, hx]
theorem wt_bd {zs : List Int} {k : Nat} {a : Int} (h : a = wt (zs.take k)) : 0 ≤ a ∧ a ≤ k := by
  have := wt_in (zs.take k)
  rw [h]; simp at this ⊢; omega
/-- Parity. -/
def par (l : List Int) : Int := wt l % 2
end Go.Proofs.Ytichhbkgebimeaa.bits
