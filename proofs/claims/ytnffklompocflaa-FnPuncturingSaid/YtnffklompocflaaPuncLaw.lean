/- The law function of puncturing (FnPuncturing) returns true and leaves what was there. Condition: the argument is a slice of bytes that came in. -/
import Derived.Test.YtnffklompocflaaDraw8
import Derived.Test.YtnffklompocflaaCnv3
namespace Go.Proofs.Ytnffklompocflaa.puncLaw
open Go.RowKit sl harn cvm cvs
set_option linter.unusedVariables false

set_option maxRecDepth 100000 in
set_option maxHeartbeats 4000000 in
theorem walk (a : Option Addr) (len cap : Nat) (z0 : List Int) (w : World) (r0 : kit.IsRow .u8 w a len cap z0) :
    Calls Try.prog 4 #[.slice a len cap] w fun e w' => e = .returned (.bool true) ∧ Below w.heap.size w w' := by
  have HC := Lib.hid (draw.code_of_row r0)
  have hlen : (len : Int) ≤ 9223372036854775807 := by have := HC.out.1; omega
  clear r0
  by_cases hbig : 1048576 < (len : Int)
  · go_enter Try.func4, Try.ntmps4
    go_wp2
    go_ret
    exact ⟨rfl, Below.refl _ _⟩
  go_enter Try.func4, Try.ntmps4
  go_wp2_with (go_at_call 13; go_in)
  clear hbig
  go_wp2_with fail
  (with_reducible refine (draw.drawPuncture _ a len cap HC.out).mono ?_)
  rintro e w1 ⟨A, n, c, zs, rfl, hn, ho, hb⟩
  have B1 := Lib.hid hb
  have O1 := Lib.hid ho
  have HL := Lib.hid ho.len
  clear ho hb HC
  go_wp2_with fail
  (with_reducible refine (implPc zs _ _ A n c _ O1.out.rd (by omega)).mono ?_)
  rintro e w2 ⟨P, q, pc, rfl, ho, hb⟩
  have HQ := Lib.hid (show q = n - n / 4 by have h1 := ho.len; rw [punc_len, HL.out] at h1; exact h1.symm)
  have HPL := Lib.hid (show plen (n : Int) = q by rw [plen_nat, HQ.out])
  have HW := Lib.hid (show (Lit.int .i64 (n : Int)).wf = true from WalkArith.wf_i64 (by omega))
  have HW4 := Lib.hid (show (Lit.int .i64 ((n : Int) + 4)).wf = true from WalkArith.wf_i64 (by omega))
  have hq : q ≤ 3000 := by rw [HQ.out]; omega
  have B2 := Lib.hid (B1.out.trans (hb.mono B1.out.size))
  have O2 := Lib.hid (O1.out.below hb)
  have P2 := Lib.hid ho
  have HD := Lib.hid (show dep (punc zs) (n : Int) = dep1 (punc zs) n by have := dep_punc zs (by rw [HL.out]; omega); rwa [HL.out] at this)
  have HD4 := Lib.hid (show dep (punc zs) ((n : Int) + 4) = [] by have := dep_punc4 zs; rw [HL.out] at this; exact this)
  clear ho hb B1 O1
  go_wp2_with fail
  (with_reducible refine (implDp (punc zs) n HW.out _ _ P q pc _ P2.out.rd).mono ?_)
  rintro e w3 ⟨X, m, xc, rfl, ho, hb⟩
  rw [HD.out] at ho
  have hm : m = n := by rw [← ho.len, dep1_len]
  subst hm
  have B3 := Lib.hid (B2.out.trans (hb.mono B2.out.size))
  have O3 := Lib.hid (O2.out.below hb)
  have P3 := Lib.hid (P2.out.below hb)
  have X3 := Lib.hid ho
  clear ho hb B2 O2 P2
  go_wp2_with fail
  (with_reducible refine (implPln m HW.out _).mono ?_)
  rw [HPL.out]
  rintro e w4 ⟨rfl, rfl⟩
  go_wp2_with fail
  go_loopw [6] (fun i wr => ∃ k : Nat, i = .int .i64 k ∧ k ≤ m ∧ Below w3.heap.size w3 wr) (fun i _ => m - (intOf i).toNat)
  case atStart => exact ⟨0, rfl, by omega, Below.refl _ _⟩
  case round =>
    obtain ⟨k, rfl, hk, hb⟩ := hrel
    have HB := Lib.hid hb
    clear hb
    by_cases hlt : k < m
    · have hlt2 : (k : Int) < m := by omega
      have h0 : 0 ≤ (k : Int) := by omega
      obtain ⟨b, off, rfl, h1, h2, hc⟩ := (X3.out.rd.below HB.out).at_ hlt
      rw [dep1_at _ hlt] at hc
      clear h1 h2
      by_cases h3 : k % 4 = 3
      · have h4 : (k : Int) % 4 = 3 := by omega
        rw [if_pos h3] at hc
        clear h3
        go_wp2
        go_quiet (fail)
        go_wp2
        go_roundw
        case rel => exact ⟨k + 1, by go_num, by omega, HB.out.trans ((below_drews _ _).mono HB.out.size)⟩
        case measure => simp [intOf]; omega
      · rw [if_neg h3, punc_at zs (by rw [HL.out]; exact hlt) h3] at hc
        obtain ⟨b', off', rfl, h1', h2', hc'⟩ := (O3.out.rd.below HB.out).at_ hlt
        obtain ⟨x, hx⟩ : ∃ x, zs.getD k 0 = x := ⟨_, rfl⟩
        rw [hx] at hc hc'
        obtain ⟨r, hr⟩ : ∃ r, (k : Int) % 4 = r := ⟨_, rfl⟩
        have hrt : (k : Int).tmod 4 = r := by rw [Int.tmod_eq_emod_of_nonneg h0]; exact hr
        have hr3 : r ≠ 3 := by omega
        have hr2 : (r == 3) = false := by simpa using hr3
        clear h3 h1' h2' hx
        go_wp2
        go_quiet (fail)
        go_wp2
        go_roundw
        case rel => exact ⟨k + 1, by go_num, by omega, HB.out.trans ((below_drews _ _).mono HB.out.size)⟩
        case measure => simp [intOf]; omega
    · have hlt2 : ¬ (k : Int) < m := by omega
      obtain rfl : k = m := by omega
      have P4 := Lib.hid (P3.out.below HB.out)
      clear hlt hlt2
      go_wp2_with fail
      (with_reducible refine (implDp (punc zs) ((k : Int) + 4) HW4.out _ _ P q pc _ P4.out.rd).mono ?_)
      rw [HD4.out]
      rintro e w5 ⟨Y, y, yc, rfl, ho, hb⟩
      have hy : y = 0 := by rw [← ho.len]; rfl
      subst hy
      have B5 := Lib.hid ((B3.out.trans (HB.out.mono B3.out.size)).trans (hb.mono (by have := B3.out.size; have := HB.out.size; omega)))
      clear ho hb
      go_wp2_with fail
      go_ret
      exact ⟨rfl, B5.out⟩
end Go.Proofs.Ytnffklompocflaa.puncLaw
