/- The law function of the scrambler (FnScrambling) returns true and leaves what was there. Condition: the argument is a slice of bytes that came in. -/
import Derived.Test.YtnffklompocflabScr2
import Derived.Test.YtnffklompocflabDraw7
import Derived.Test.YtnffklompocflabSame
namespace Go.Proofs.Ytnffklompocflab.scrLaw
open Go.RowKit sl harn scrm scrs
set_option linter.unusedVariables false

set_option maxRecDepth 100000 in
set_option maxHeartbeats 4000000 in
theorem walk (a : Option Addr) (len cap : Nat) (z0 : List Int) (w : World) (r0 : kit.IsRow .u8 w a len cap z0) :
    Calls Try.prog 8 #[.slice a len cap] w fun e w' => e = .returned (.bool true) ∧ Below w.heap.size w w' := by
  have HC := Lib.hid (draw.code_of_row r0)
  have hlen : (len : Int) ≤ 9223372036854775807 := by have := HC.out.1; omega
  clear r0
  by_cases hbig : 1048576 < (len : Int)
  · go_enter Try.func8, Try.ntmps8
    go_wp2
    go_ret
    exact ⟨rfl, Below.refl _ _⟩
  go_enter Try.func8, Try.ntmps8
  go_wp2_with (go_at_call 21; go_in)
  clear hbig
  go_wp2_with fail
  (with_reducible refine (draw.drawScr _ a len cap HC.out).mono ?_)
  rintro e w1 ⟨s, A, n, c, zs, rfl, hs0, hs1, hn, ho, hb⟩
  have B1 := Lib.hid hb
  have O1 := Lib.hid ho
  clear ho hb HC
  go_wp2_with fail
  (with_reducible refine (implScr s zs _ _ A n c _ O1.out.rd (by omega)).mono ?_)
  rintro e w2 ⟨X, xn, xc, rfl, ho, hb⟩
  have hxn : xn = n := by have h1 := ho.len; have h2 := O1.out.len; rw [scr_len] at h1; omega
  subst hxn
  have B2 := Lib.hid (B1.out.trans (hb.mono B1.out.size))
  have O2 := Lib.hid (O1.out.below hb)
  have X2 := Lib.hid ho
  clear ho hb B1 O1
  go_wp2_with fail
  (with_reducible refine (implScr s (scr s zs) _ _ X xn xc _ X2.out.rd (by omega)).mono ?_)
  rintro e w3 ⟨Y, yn, yc, rfl, ho, hb⟩
  rw [scr_scr] at ho
  have B3 := Lib.hid (B2.out.trans (hb.mono B2.out.size))
  have O3 := Lib.hid (O2.out.below hb)
  have X3 := Lib.hid (X2.out.below hb)
  have Y3 := Lib.hid ho
  clear ho hb B2 O2 X2
  go_wp2_with fail
  (with_reducible refine (sameI_yes zs _ _ _ _ Y A yn yc xn c _ Y3.out.rd O3.out.rd).mono ?_)
  rintro e w4 ⟨rfl, hb⟩
  have B4 := Lib.hid (B3.out.trans (hb.mono B3.out.size))
  have O4 := Lib.hid (O3.out.below hb)
  have X4 := Lib.hid (X3.out.below hb)
  clear hb B3 O3 X3 Y3
  by_cases hv : 1 ≤ s ∧ s ≤ 127
  · have HV := Lib.hid hv
    obtain ⟨hv1, hv2⟩ := hv
    have hv3 : ¬ s < 1 := by omega
    have hv4 : ¬ 127 < s := by omega
    clear O4 X4
    go_wp2_with fail
    go_loopw [6, 7] (fun t i wr => ∃ k : Nat, i = .int .i64 k ∧ t = .int .i64 (nth k s) ∧ k ≤ 127 ∧ Below w.heap.size w wr) (fun _ i _ => 127 - (intOf i).toNat)
    case atStart => exact ⟨0, rfl, rfl, by omega, B4.out⟩
    case round =>
      clear B4
      obtain ⟨k, rfl, rfl, hk, hb⟩ := hrel
      have HB := Lib.hid hb
      clear hb
      by_cases hlt : k < 127
      · have hlt2 : (k : Int) < 127 := by omega
        have hin := nth_in (k + 1) HV.out
        rw [nth_succ] at hin
        have HN := Lib.hid (nth_succ k s)
        obtain ⟨t, ht⟩ : ∃ t, nth k s = t := ⟨_, rfl⟩
        obtain ⟨u, hu⟩ : ∃ u, nx t = u := ⟨_, rfl⟩
        have HNX := Lib.hid (implNext t)
        rw [ht] at hin HN ⊢
        rw [hu] at hin HN HNX
        obtain ⟨hu1, hu2⟩ := hin
        have hu3 : ¬ u < 1 := by omega
        have hu4 : ¬ 127 < u := by omega
        clear ht hu
        by_cases hl6 : k < 126
        · have hne : (u == s) = false := by
            have := not_before HV.out (k := k + 1) (by omega) (by omega)
            rw [HN.out] at this; simpa using this
          go_wp2_with (go_at_call 37; refine (HNX.out _).mono ?_; rintro e w5 ⟨rfl, hb⟩; have B5 := Lib.hid (HB.out.trans (hb.mono HB.out.size)); clear hb)
          go_roundw
          case rel => exact ⟨k + 1, by go_num, by rw [HN.out], by omega, B5.out⟩
          case measure => simp [intOf]; omega
        · obtain rfl : k = 126 := by omega
          have hus : u = s := by rw [← HN.out]; exact recur HV.out
          subst hus
          go_wp2_with (go_at_call 37; refine (HNX.out _).mono ?_; rintro e w5 ⟨rfl, hb⟩; have B5 := Lib.hid (HB.out.trans (hb.mono HB.out.size)); clear hb)
          go_roundw
          case rel => exact ⟨127, rfl, by rw [HN.out], by omega, B5.out⟩
          case measure => simp [intOf]
      · have hlt2 : ¬ (k : Int) < 127 := by omega
        obtain rfl : k = 127 := by omega
        rw [recur HV.out]
        have A1 := Lib.hid (show aft s 127 = s by rw [aft_yes HV.out (by omega)]; exact recur HV.out)
        have A2 := Lib.hid (show aft s 1 = nx s by rw [aft_yes HV.out (by omega)]; rfl)
        clear hlt hlt2
        go_wp2_with fail
        (with_reducible refine (implAfter s 127 _).mono ?_)
        rw [A1.out]
        rintro e w5 ⟨rfl, hb⟩
        have B5 := Lib.hid (HB.out.trans (hb.mono HB.out.size))
        clear hb HB
        go_wp2_with fail
        (with_reducible refine (implAfter s 1 _).mono ?_)
        rw [A2.out]
        rintro e w6 ⟨rfl, hb⟩
        have B6 := Lib.hid (B5.out.trans (hb.mono B5.out.size))
        clear hb B5
        go_wp2_with fail
        (with_reducible refine (implNext s _).mono ?_)
        rintro e w7 ⟨rfl, hb⟩
        have B7 := Lib.hid (B6.out.trans (hb.mono B6.out.size))
        clear hb B6
        go_wp2_with fail
        go_ret
        exact ⟨rfl, B7.out⟩
  · have HNO := Lib.hid (nx_no hv)
    have HS := Lib.hid (scr_no (s := s) (l := zs) (fun h => hv h.1))
    have X5 := Lib.hid (show Ow 3 .i64 w4 _ _ X xn xc zs by have := X4.out; rw [HS.out] at this; exact this)
    clear X4
    by_cases hv1 : s < 1
    · go_wp2_with fail
      (with_reducible refine (sameI_yes zs _ _ _ _ X A xn xc xn c _ X5.out.rd O4.out.rd).mono ?_)
      rintro e w5 ⟨rfl, hb⟩
      have B5 := Lib.hid (B4.out.trans (hb.mono B4.out.size))
      clear hb B4 X5 O4
      go_wp2_with fail
      (with_reducible refine (implNext s _).mono ?_)
      rw [HNO.out]
      rintro e w6 ⟨rfl, hb⟩
      have B6 := Lib.hid (B5.out.trans (hb.mono B5.out.size))
      clear hb B5
      go_wp2_with fail
      go_ret
      exact ⟨rfl, B6.out⟩
    · have hv2 : 127 < s := by omega
      go_wp2_with fail
      (with_reducible refine (sameI_yes zs _ _ _ _ X A xn xc xn c _ X5.out.rd O4.out.rd).mono ?_)
      rintro e w5 ⟨rfl, hb⟩
      have B5 := Lib.hid (B4.out.trans (hb.mono B4.out.size))
      clear hb B4 X5 O4
      go_wp2_with fail
      (with_reducible refine (implNext s _).mono ?_)
      rw [HNO.out]
      rintro e w6 ⟨rfl, hb⟩
      have B6 := Lib.hid (B5.out.trans (hb.mono B5.out.size))
      clear hb B5
      go_wp2_with fail
      go_ret
      exact ⟨rfl, B6.out⟩
end Go.Proofs.Ytnffklompocflab.scrLaw
