/- Cuts of a slice as runs, and what is read through them. Condition: none. -/
import Derived.Test.YtebbnopconbnlaaApp
namespace Go.Proofs.Ytebbnopconbnlaa.cuts
open Go.RowKit sl harn
set_option linter.unusedVariables false
theorem rd_pre {k : IntKind} {w : World} {lo hi n cap : Nat} {A : Option Addr} {zs : List Int} (h : Rd k w lo hi A n cap zs) {j : Nat} (hj : j ≤ n) (A' : Option Addr) (hA : 0 < j → A' = A.map (·.add 0)) : Rd k w lo hi A' j cap (zs.take j) := by
  have := h.cut 0 j cap A' (fun g => hA g) (by omega) hj (by have := h.cap_; omega) (by have := h.2.2.1; omega)
  simpa using this
theorem rd_post {k : IntKind} {w : World} {lo hi n cap : Nat} {A : Option Addr} {zs : List Int} (h : Rd k w lo hi A n cap zs) {j : Nat} (hj : j ≤ n) (A' : Option Addr) (hA : j < n → A' = A.map (·.add j)) : Rd k w lo hi A' (n - j) (cap - j) (zs.drop j) := by
  have := h.cut j n (cap - j) A' hA hj (Nat.le_refl _) (by have := h.cap_; omega) (by have := h.2.2.1; omega)
  rwa [List.take_of_length_le (by rw [List.length_drop, h.len]; exact Nat.le_refl _)] at this
theorem slice_pre {P : Program} (t E : TypeId) (i0 : TypeInfo) (hu : P.underlying t = some (.slice E)) (hi : P.info? E = some i0) (hs : i0.size = 1) (A : Option Addr) (n cap j : Nat) (hj : j ≤ cap) :
    ∃ A', (0 < j → A' = A.map (·.add 0)) ∧ ∀ W, (Instr.slice t (.slice A n cap) none (some (.int .i64 j)) none).run P W = .ok (.slice A' j cap) W := by
  refine ⟨if cap = 0 then A else A.map (·.add (0 * 1)), fun h => ?_, fun W => ?_⟩
  · rw [if_neg (by omega)]
  · have hj2 : (j : Int) ≤ cap := by omega
    simp [Instr.slice, run_underlying hu, Instr.sliceBounds, Instr.sliceBound, sizeOf, typeInfo, hi, go_sem]
    intro h; omega
theorem slice_post {P : Program} (t E : TypeId) (i0 : TypeInfo) (hu : P.underlying t = some (.slice E)) (hi : P.info? E = some i0) (hs : i0.size = 1) (A : Option Addr) (n cap j : Nat) (hj : j ≤ n) (hc : n ≤ cap) :
    ∃ A', (j < n → A' = A.map (·.add j)) ∧ ∀ W, (Instr.slice t (.slice A n cap) (some (.int .i64 j)) none none).run P W = .ok (.slice A' (n - j) (cap - j)) W := by
  refine ⟨if cap = j then A else A.map (·.add (j * 1)), fun h => ?_, fun W => ?_⟩
  · rw [if_neg (by omega), Nat.mul_one]
  · have hj2 : (j : Int) ≤ n := by omega
    simp [Instr.slice, run_underlying hu, Instr.sliceBounds, Instr.sliceBound, sizeOf, typeInfo, hi, hs, go_sem]
    intro h; omega
end Go.Proofs.Ytebbnopconbnlaa.cuts
