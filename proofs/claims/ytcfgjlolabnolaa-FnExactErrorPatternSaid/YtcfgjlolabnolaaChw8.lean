/- MergePatterns, the specification: counts, and an insertion by three appends. Condition: lengths up to 2^26. -/
import Derived.Test.YtcfgjlolabnolaaChw7
import Derived.Test.YtcfgjlolabnolaaApp2
import Derived.BigQuiet
import Derived.Deep.RegionHeld3
namespace Go.Proofs.Ytcfgjlolabnolaa.chw
open Go.RowKit sl harn chm own
set_option linter.unusedVariables false

theorem count_next (l : List Int) (x : Int) {k : Nat} (h : k < l.length) : (l.take (k + 1)).count x = (l.take k).count x + (if l.getD k 0 = x then 1 else 0) := by
  rw [take_next l h, List.count_append, List.count_singleton]
  simp only [beq_iff_eq]
set_option maxRecDepth 100000 in
theorem count_ (zs : List Int) (x : Int) (lo hi : Nat) (A : Option Addr) (n cap : Nat) (w : World) (h : Rd .i64 w lo hi A n cap zs) (hn : n ≤ 1073741824) :
    Calls Try.prog 46 #[.slice A n cap, .int .i64 x] w fun e w' => e = .returned (.int .i64 (zs.count x : Nat)) ∧ w = w' := by
  have hb := h.cap_
  have HL := Lib.hid h.len
  have HR := Lib.hid h
  clear h
  go_enter Try.func46, Try.ntmps46
  go_wp2_with fail
  go_loopw [5, 6] (fun v i wr => ∃ k c : Nat, i = .int .i64 k ∧ v = .int .i64 c ∧ k ≤ n ∧ c ≤ k ∧ (zs.take k).count x = c ∧ w = wr) (fun _ i _ => n - (intOf i).toNat)
  case atStart => exact ⟨0, 0, rfl, rfl, by omega, by omega, rfl, rfl⟩
  case round =>
    obtain ⟨k, c, rfl, rfl, hk, hck, hc, rfl⟩ := hrel
    have HC := Lib.hid hc
    clear hc
    by_cases hlt : k < n
    · have hlt2 : (k : Int) < n := by omega
      obtain ⟨b', off, rfl, g1, g2, hcl⟩ := HR.out.at_ hlt
      obtain ⟨y, hy⟩ : ∃ y, zs.getD k 0 = y := ⟨_, rfl⟩
      have HN := count_next zs x (k := k) (by rw [HL.out]; exact hlt)
      rw [hy] at hcl HN
      rw [HC.out] at HN
      clear g1 g2 hy
      by_cases e : y = x
      · have hyx : (y == x) = true := by simpa using e
        rw [if_pos e] at HN
        have HN1 := Lib.hid HN
        clear HN e
        go_wp2_with fail
        go_roundw
        case rel => exact ⟨k + 1, c + 1, by go_num, by go_num, by omega, by omega, HN1.out, (by first | rfl | trivial)⟩
        case measure => simp [intOf]; omega
      · have hyx : (y == x) = false := by simpa using e
        rw [if_neg e] at HN
        have HN1 := Lib.hid HN
        clear HN e
        go_wp2_with fail
        go_roundw
        case rel => exact ⟨k + 1, c, by go_num, rfl, by omega, by omega, HN1.out, (by first | rfl | trivial)⟩
        case measure => simp [intOf]; omega
    · have hlt2 : ¬ (k : Int) < n := by omega
      have HN1 := Lib.hid (show zs.count x = c by have := HC.out; rwa [List.take_of_length_le (by rw [HL.out]; omega)] at this)
      go_wp2_with fail
      go_ret
      rw [HN1.out]
      exact ⟨rfl, rfl⟩

/-- The first elements of a slice that is read; the others. -/
theorem rd_pre {k : IntKind} {w : World} {lo hi n cap : Nat} {A : Option Addr} {zs : List Int} (h : Rd k w lo hi A n cap zs) {j : Nat} (hj : j ≤ n) (A' : Option Addr) (hA : 0 < j → A' = A.map (·.add 0)) : Rd k w lo hi A' j cap (zs.take j) := by
  have := h.cut 0 j cap A' (fun g => hA g) (by omega) hj (by have := h.cap_; omega) (by have := h.2.2.1; omega)
  simpa using this
theorem rd_post {k : IntKind} {w : World} {lo hi n cap : Nat} {A : Option Addr} {zs : List Int} (h : Rd k w lo hi A n cap zs) {j : Nat} (hj : j ≤ n) (A' : Option Addr) (hA : j < n → A' = A.map (·.add j)) : Rd k w lo hi A' (n - j) (cap - j) (zs.drop j) := by
  have := h.cut j n (cap - j) A' hA hj (Nat.le_refl _) (by have := h.cap_; omega) (by have := h.2.2.1; omega)
  rwa [List.take_of_length_le (by rw [List.length_drop, h.len]; exact Nat.le_refl _)] at this
theorem slice_pre {P : Program} (t E : TypeId) (i0 : TypeInfo) (hu : P.underlying t = some (.slice E)) (hi : P.info? E = some i0) (hs : i0.size = 1) (A : Option Addr) (n cap j : Nat) (hj : j ≤ cap) :
    ∃ A', (0 < j → A' = A.map (·.add 0)) ∧ ∀ W, (Instr.slice t (.slice A n cap) none (some (.int .i64 j)) none).run P W = .ok (.slice A' j cap) W := by
  refine ⟨if cap = 0 then A else A.map (·.add (0 * 1)), fun h => ?_, fun W => ?_⟩
  · rw [if_neg (by omega)]
  · have hj2 : (j : Int) ≤ cap := by omega
    simp [Instr.slice, run_underlying hu, Instr.sliceBounds, Instr.sliceBound, sizeOf, typeInfo, hi, go_sem]
    intro h; omega
theorem slice_post {P : Program} (t E : TypeId) (i0 : TypeInfo) (hu : P.underlying t = some (.slice E)) (hi : P.info? E = some i0) (hs : i0.size = 1) (A : Option Addr) (n cap j : Nat) (hj : j ≤ n) (hc : n ≤ cap) :
    ∃ A', (j < n → A' = A.map (·.add j)) ∧ ∀ W, (Instr.slice t (.slice A n cap) (some (.int .i64 j)) none none).run P W = .ok (.slice A' (n - j) (cap - j)) W := by
  refine ⟨if cap = j then A else A.map (·.add (j * 1)), fun h => ?_, fun W => ?_⟩
  · rw [if_neg (by omega), Nat.mul_one]
  · have hj2 : (j : Int) ≤ n := by omega
    simp [Instr.slice, run_underlying hu, Instr.sliceBounds, Instr.sliceBound, sizeOf, typeInfo, hi, hs, go_sem]
    intro h; omega
end Go.Proofs.Ytcfgjlolabnolaa.chw
