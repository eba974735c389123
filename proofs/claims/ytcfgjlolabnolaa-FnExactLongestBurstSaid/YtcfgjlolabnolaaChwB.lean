/- LongestBurst, the specification. Condition: lengths up to 2^26. -/
import Derived.Test.YtcfgjlolabnolaaChwA
namespace Go.Proofs.Ytcfgjlolabnolaa.chw
open Go.RowKit sl harn rng chm own
set_option linter.unusedVariables false

/-- What has been found out of the first elements. -/
def Firsts (S : List Int) (k L : Nat) : Prop := (∀ i, i < k → ∃ m, Bl S (S.getD i 0) m ∧ m ≤ L) ∧ (L = 0 ∨ ∃ x ∈ S, Bl S x L)
theorem firsts_start (S : List Int) : Firsts S 0 0 := ⟨fun i h => by omega, Or.inl rfl⟩
theorem firsts_more {S : List Int} {k L j M : Nat} {x : Int} (h : Firsts S k L) (hk : k < S.length) (hx : S.getD k 0 = x) (hb : Bl S x j) (hM : (M : Int) = if (L : Int) < j then (j : Int) else L) : Firsts S (k + 1) M := by
  have h1 : L ≤ M := by split at hM <;> omega
  have h2 : j ≤ M := by split at hM <;> omega
  refine ⟨fun i hi => ?_, ?_⟩
  · by_cases e : i < k
    · obtain ⟨m, g1, g2⟩ := h.1 i e
      exact ⟨m, g1, by omega⟩
    · obtain rfl : i = k := by omega
      exact ⟨j, by rw [hx]; exact hb, h2⟩
  · split at hM
    · obtain rfl : M = j := by omega
      exact Or.inr ⟨x, by rw [← hx]; exact mem_getD hk, hb⟩
    · obtain rfl : M = L := by omega
      exact h.2
theorem firsts_end {S : List Int} {k L : Nat} (h : Firsts S k L) (hk : S.length ≤ k) : lb S = L :=
  (lb_all (fun x hx => by
    obtain ⟨i, h1, rfl⟩ := ex_getD hx
    exact h.1 i (by omega)) h.2).eq

set_option maxRecDepth 100000 in
set_option maxHeartbeats 4000000 in
theorem specBurstLen (zs : List Int) (lo hi : Nat) (A : Option Addr) (n cap : Nat) (w : World) (h : Rd .i64 w lo hi A n cap zs) (hn : n ≤ 67108864) :
    Calls Try.prog 31 #[.slice A n cap] w fun e w' => e = .returned (.int .i64 (lb zs : Nat)) ∧ Below w.heap.size w w' := by
  have hb := h.cap_
  have HL := Lib.hid h.len
  have HR := Lib.hid h
  have HS := Lib.hid (show zs.length ≤ 1073741824 by rw [h.len]; omega)
  clear h
  go_enter Try.func31, Try.ntmps31
  go_wp2_with fail
  go_loopw [3, 4] (fun v i wr => ∃ k L : Nat, v = .int .i64 (L : Nat) ∧ i = .int .i64 k ∧ k ≤ n ∧ L ≤ 1073741825 ∧ Firsts zs k L ∧ w = wr) (fun _ i _ => n - (intOf i).toNat)
  case atStart => exact ⟨0, 0, rfl, rfl, by omega, by omega, firsts_start _, rfl⟩
  case round =>
    obtain ⟨k, L, rfl, rfl, hk, hL, hf, rfl⟩ := hrel
    have HF := Lib.hid hf
    clear hf
    by_cases hlt : k < n
    · have hlt2 : (k : Int) < n := by omega
      have HK := Lib.hid (show k < zs.length by rw [HL.out]; exact hlt)
      obtain ⟨b', off, rfl, g1, g2, hc⟩ := HR.out.at_ hlt
      obtain ⟨x, hx⟩ : ∃ x, zs.getD k 0 = x := ⟨_, rfl⟩
      have HX := Lib.hid hx
      rw [hx] at hc
      clear g1 g2 hx
      go_wp2_with fail
      go_loopw [5] (fun l w9 => ∃ j : Nat, l = .int .i64 j ∧ 1 ≤ j ∧ j ≤ zs.length + 1 ∧ (∀ m : Nat, 1 ≤ m → m < j → nx x m ∈ zs) ∧ w = w9) (fun l _ => zs.length + 2 - (intOf l).toNat)
      case atStart => exact ⟨1, rfl, by omega, by omega, fun m h1 h2 => by omega, rfl⟩
      case round =>
        obtain ⟨j, rfl, hj1, hj2, hrun, rfl⟩ := hrel
        have HRUN := Lib.hid hrun
        have hj3 : j ≤ 67108865 := by rw [HL.out] at hj2; omega
        obtain ⟨y, hy⟩ : ∃ y, nx x j = y := ⟨_, rfl⟩
        have hy1 : IntKind.i64.wrap (x + j) = y := by rw [← hy]; exact nx_wrap x j
        have hy2 : wrap64 (x + j) = y := by rw [← hy]; unfold wrap64 nx; omega
        have HY := Lib.hid hy
        obtain ⟨C, hC⟩ : ∃ C, zs.count y = C := ⟨_, rfl⟩
        have HC := Lib.hid hC
        have hCle : C ≤ 134217728 := by have h1 := List.count_le_length (a := y) (l := zs); rw [hC, HL.out] at h1; omega
        clear hy hrun hC
        by_cases hys : 0 < C
        · have hys2 : (0 : Int) < C := by omega
          have HN := Lib.hid (run_more HRUN.out HY.out (List.count_pos_iff.1 (by rw [HC.out]; exact hys)))
          have HJ := Lib.hid (show j ≤ zs.length from run_len HS.out fun m h1 h2 => HN.out m h1 (by omega))
          go_wp2_with fail
          (with_reducible refine (count_ zs y _ _ _ n _ _ HR.out (by omega)).mono ?_)
          rw [HC.out]
          rintro e w3 ⟨rfl, rfl⟩
          go_wp2_with fail
          go_roundw
          case rel => exact ⟨j + 1, by go_num, by omega, by have := HJ.out; omega, HN.out, (by first | rfl | trivial)⟩
          case measure => have := HJ.out; simp [intOf]; omega
        · have hys2 : ¬ (0 : Int) < C := by omega
          have HBL := Lib.hid (show Bl zs x j from ⟨hj1, HRUN.out, by rw [HY.out]; exact fun g => hys (by rw [← HC.out]; exact List.count_pos_iff.2 g)⟩)
          obtain ⟨M, hM⟩ : ∃ M : Nat, (M : Int) = if (L : Int) < j then (j : Int) else L := by
            by_cases h9 : (L : Int) < j
            · exact ⟨j, (if_pos h9).symm⟩
            · exact ⟨L, (if_neg h9).symm⟩
          have hM2 : M ≤ 1073741825 := by split at hM <;> omega
          have HM9 := Lib.hid hM
          have HN := Lib.hid (firsts_more HF.out HK.out HX.out HBL.out hM)
          clear hM
          go_wp2_with fail
          (with_reducible refine (count_ zs y _ _ _ n _ _ HR.out (by omega)).mono ?_)
          rw [HC.out]
          rintro e w3 ⟨rfl, rfl⟩
          go_wp2_with fail
          (with_reducible refine (specMax L j M HM9.out _).mono ?_)
          rintro e w10 ⟨rfl, rfl⟩
          go_wp2_with fail
          go_roundw
          case rel => exact ⟨k + 1, M, rfl, by go_num, by omega, by omega, HN.out, (by first | rfl | trivial)⟩
          case measure => simp [intOf]; omega
    · have hlt2 : ¬ (k : Int) < n := by omega
      have HM := Lib.hid (firsts_end HF.out (by rw [HL.out]; omega))
      go_wp2_with fail
      go_ret
      rw [HM.out]
      exact ⟨rfl, Below.refl _ _⟩
end Go.Proofs.Ytcfgjlolabnolaa.chw
