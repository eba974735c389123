/- A byte of the input, as laws read it, told by the input alone. Condition: the slice of bytes reads as listed. -/
import Derived.Test.YtalfihfielgmpaaHarn
namespace Go.Proofs.Ytalfihfielgmpaa.lawAt
open Go.RowKit sl harn
set_option linter.unusedVariables false

def atv (zs : List Int) (len k : Nat) : Int := if k < len then zs.getD k 0 else ((k : Int) * 31 + (len : Int) * 7) % 256
theorem atv_in {a : Option Addr} {len cap lo hi : Nat} {zs : List Int} {w : World} (h : Rd .u8 w lo hi a len cap zs) (k : Nat) : 0 ≤ atv zs len k ∧ atv zs len k ≤ 255 := by
  unfold atv
  split
  · rename_i hk
    have h1 := h.wf.getD (i := k) (by have := h.len; omega)
    have := bounds_u8 h1; omega
  · have h1 := Int.emod_nonneg ((k : Int) * 31 + (len : Int) * 7) (show (256 : Int) ≠ 0 by omega)
    have h2 := Int.emod_lt_of_pos ((k : Int) * 31 + (len : Int) * 7) (show (0 : Int) < 256 by omega)
    omega
theorem at_v (k : Nat) (i : Int) (hi : i = k) (h1 : k ≤ 1000) (v : Int) (a : Option Addr) (len cap lo hi' : Nat) (zs : List Int) (w : World) (h : Rd .u8 w lo hi' a len cap zs) (hl : len ≤ 1048576) (hv : atv zs len k = v) :
    Calls Try.prog 18 #[.slice a len cap, .int .i64 i] w fun e w' => e = .returned (.int .i64 v) ∧ w = w' := by
  subst hi
  have HR := Lib.hid h
  clear h
  by_cases hk : k < len
  · have hv' : zs.getD k 0 = v := by rw [← hv, atv, if_pos hk]
    obtain ⟨b, off, rfl, _, _, hc⟩ := HR.out.at_ hk
    have hx01 : 0 ≤ v ∧ v ≤ 255 := by rw [← hv]; exact atv_in HR.out k
    obtain ⟨hx0, hx1⟩ := hx01
    rw [hv'] at hc
    have hk2 : (k : Int) < len := by omega
    clear hv hv'
    go_enter Try.func18, Try.ntmps18
    go_wp2
    go_ret
    exact ⟨rfl, rfl⟩
  · have hv' : ((k : Int) * 31 + (len : Int) * 7) % 256 = v := by rw [← hv, atv, if_neg hk]
    have hk2 : ¬ (k : Int) < len := by omega
    clear hv
    go_enter Try.func18, Try.ntmps18
    go_wp2
    go_ret
    exact ⟨rfl, rfl⟩
end Go.Proofs.Ytalfihfielgmpaa.lawAt
