/- A byte of the law's input, or a number in its place. Condition: at most 2^20 bytes. -/
import Derived.Test.YtnnlkkohbjolaaaApp
namespace Go.Proofs.Ytnnlkkohbjolaaa.lawAt
open Go.RowKit sl harn

/-- A byte of the input, or a number in its place. -/
def AtPost (w : World) (e : Ending) (w' : World) : Prop := ∃ x : Int, e = .returned (.int .i64 x) ∧ 0 ≤ x ∧ x ≤ 255 ∧ w = w'
theorem at_ (i : Int) (h0 : 0 ≤ i) (h1 : i ≤ 1000000) (a : Option Addr) (len cap lo hi : Nat) (zs : List Int) (w : World) (h : Rd .u8 w lo hi a len cap zs) (hl : len ≤ 1048576) :
    Calls Try.prog 20 #[.slice a len cap, .int .i64 i] w (AtPost w) := by
  obtain ⟨k, rfl⟩ := Int.eq_ofNat_of_zero_le h0
  have HR := Lib.hid h
  clear h
  by_cases hk : k < len
  · obtain ⟨b, off, rfl, _, _, hc⟩ := HR.out.at_ hk
    obtain ⟨x, hx⟩ : ∃ x, zs.getD k 0 = x := ⟨_, rfl⟩
    have hx01 : 0 ≤ x ∧ x ≤ 255 := by
      have h1 := HR.out.wf.getD (i := k) (by have := HR.out.len; omega)
      rw [hx] at h1
      have := bounds_u8 h1; omega
    obtain ⟨hx0, hx1⟩ := hx01
    rw [hx] at hc
    have hk2 : (k : Int) < len := by omega
    clear hx
    go_enter Try.func20, Try.ntmps20
    go_wp2
    go_ret
    exact ⟨x, rfl, hx0, hx1, rfl⟩
  · have hk2 : ¬ (k : Int) < len := by omega
    go_enter Try.func20, Try.ntmps20
    go_wp2
    go_ret
    exact ⟨_, rfl, Int.emod_nonneg _ (by omega), by have := Int.emod_lt_of_pos ((k : Int) * 31 + (len : Int) * 7) (show (0 : Int) < 256 by omega); omega, rfl⟩
end Go.Proofs.Ytnnlkkohbjolaaa.lawAt
