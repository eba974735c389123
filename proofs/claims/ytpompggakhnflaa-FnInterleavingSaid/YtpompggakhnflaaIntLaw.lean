/- The law function of interleaving (FnInterleaving) returns true and leaves what was there. Condition: the argument is a slice of bytes that came in. -/
import Derived.Test.YtpompggakhnflaaDraw9
import Derived.Test.YtpompggakhnflaaEnd8
import Derived.Test.YtpompggakhnflaaItm2
import Derived.Test.YtpompggakhnflaaSame
namespace Go.Proofs.Ytpompggakhnflaa.intLaw
open Go.RowKit sl harn itm itl
set_option linter.unusedVariables false

/-- The positions so far. -/
def Pos (n c : Nat) (w wr : World) (k : Nat) (v : Value) : Prop := ∃ A cp, v = .slice A k cp ∧ Ow 3 .i64 wr w.heap.size wr.heap.size A k cp (plist n c k) ∧ Below w.heap.size w wr
set_option maxRecDepth 100000 in
set_option maxHeartbeats 4000000 in
theorem walk (a : Option Addr) (len cap : Nat) (z0 : List Int) (w : World) (r0 : kit.IsRow .u8 w a len cap z0) :
    Calls Try.prog 3 #[.slice a len cap] w fun e w' => e = .returned (.bool true) ∧ Below w.heap.size w w' := by
  have HC := Lib.hid (draw.code_of_row r0)
  have hlen : (len : Int) ≤ 9223372036854775807 := by have := HC.out.1; omega
  clear r0
  by_cases hbig : 1048576 < (len : Int)
  · go_enter Try.func3, Try.ntmps3
    go_wp2
    go_ret
    exact ⟨rfl, Below.refl _ _⟩
  obtain ⟨i0, hi0, hz0, hz1, hz2⟩ := info_parts intInfo
  have HZ := Lib.hid (And.intro hi0 (And.intro hz0 (And.intro hz1 hz2)))
  clear hi0 hz0 hz1 hz2
  go_enter Try.func3, Try.ntmps3
  go_wp2_with (go_at_call 11; go_in)
  clear hbig
  go_wp2_with fail
  (with_reducible refine (draw.drawInterleave _ a len cap HC.out).mono ?_)
  rintro e w1 ⟨A, n, c, zs, col, rfl, hn, hcol, ho, hb⟩
  obtain ⟨hcol0, hcol1⟩ := hcol
  have B1 := Lib.hid hb
  have O1 := Lib.hid ho
  have HL := Lib.hid ho.len
  clear ho hb HC
  go_wp2_with fail
  (with_reducible refine (implItl zs col _ _ A n c _ O1.out.rd (by omega)).mono ?_)
  rintro e w2 ⟨X, m, xc, rfl, ho, hb⟩
  have hm : m = n := by rw [← ho.len, itl_len, HL.out]
  subst hm
  have B2 := Lib.hid (B1.out.trans (hb.mono B1.out.size))
  have O2 := Lib.hid (O1.out.below hb)
  have X2 := Lib.hid ho
  clear ho hb B1 O1
  go_wp2_with fail
  (with_reducible refine (implDei (itl zs col) col _ _ X m xc _ X2.out.rd (by omega)).mono ?_)
  rw [dei_itl]
  rintro e w3 ⟨Y, y, yc, rfl, ho, hb⟩
  have B3 := Lib.hid (B2.out.trans (hb.mono B2.out.size))
  have O3 := Lib.hid (O2.out.below hb)
  have X3 := Lib.hid (X2.out.below hb)
  have Y3 := Lib.hid ho
  clear ho hb B2 O2 X2
  go_wp2_with fail
  (with_reducible refine (sameI_yes zs _ _ _ _ Y A y yc m c _ Y3.out.rd O3.out.rd).mono ?_)
  rintro e w4 ⟨rfl, hb⟩
  have B4 := Lib.hid (B3.out.trans (hb.mono B3.out.size))
  have O4 := Lib.hid (O3.out.below hb)
  have X4 := Lib.hid (X3.out.below hb)
  clear hb B3 O3 X3 Y3
  go_wp2_with fail
  (with_reducible refine (implDei zs col _ _ A m c _ O4.out.rd (by omega)).mono ?_)
  rintro e w5 ⟨P, q, pc, rfl, ho, hb⟩
  have hq : q = m := by rw [← ho.len, dei_len, HL.out]
  subst hq
  have B5 := Lib.hid (B4.out.trans (hb.mono B4.out.size))
  have O5 := Lib.hid (O4.out.below hb)
  have X5 := Lib.hid (X4.out.below hb)
  have P5 := Lib.hid ho
  clear ho hb B4 O4 X4
  go_wp2_with fail
  (with_reducible refine (implItl (dei zs col) col _ _ P q pc _ P5.out.rd (by omega)).mono ?_)
  rw [itl_dei]
  rintro e w6 ⟨R, r, rc, rfl, ho, hb⟩
  have B6 := Lib.hid (B5.out.trans (hb.mono B5.out.size))
  have O6 := Lib.hid (O5.out.below hb)
  have X6 := Lib.hid (X5.out.below hb)
  have R6 := Lib.hid ho
  clear ho hb B5 O5 X5 P5
  go_wp2_with fail
  (with_reducible refine (sameI_yes zs _ _ _ _ R A r rc q c _ R6.out.rd O6.out.rd).mono ?_)
  rintro e w7 ⟨rfl, hb⟩
  have B7 := Lib.hid (B6.out.trans (hb.mono B6.out.size))
  have O7 := Lib.hid (O6.out.below hb)
  have X7 := Lib.hid (X6.out.below hb)
  clear hb B6 O6 X6 R6
  by_cases hok : 1 ≤ col ∧ col ≤ 64
  · obtain ⟨k, rfl⟩ := Int.eq_ofNat_of_zero_le (show 0 ≤ col by omega)
    have HK := Lib.hid (show 1 ≤ k ∧ k ≤ 64 by omega)
    have HY := Lib.hid (itl_yes HL.out (show Ok q k from ⟨by omega, by omega⟩))
    have hc1 : ¬ (k : Int) < 1 := by omega
    have hc2 : ¬ 64 < (k : Int) := by omega
    rw [HY.out] at X7
    clear hok hcol0 hcol1
    go_wp2_with fail
    go_loopw [6, 7] (fun v i wr => ∃ j : Nat, i = .int .i64 j ∧ j ≤ q ∧ Pos q k w7 wr j v) (fun _ i _ => q - (intOf i).toNat)
    case atStart => exact ⟨0, rfl, by omega, _, _, rfl, (Ow.empty 3 .i64 w7).up, (Below.refl _ _).alloc (Nat.le_refl _) _⟩
    case round =>
      clear hc1 hc2
      obtain ⟨j, rfl, hj, V, vc, rfl, ho, hb⟩ := hrel
      have HO := Lib.hid ho
      have HB := Lib.hid hb
      clear ho hb
      by_cases hlt : j < q
      · have hlt2 : (j : Int) < q := by omega
        obtain ⟨z, hz⟩ : ∃ z, pos q k j = z := ⟨_, rfl⟩
        have HP := Lib.hid hz
        have HI := Lib.hid (show idx q k j = z by rw [idx_yes HK.out (by omega) hlt, hz])
        have hzn : z < q := by rw [← hz]; exact pos_lt (by have := HK.out; omega) hlt
        have hzn2 : (z : Int) < q := by omega
        have HW := Lib.hid (show (Lit.int .i64 (z : Int)).wf = true from WalkArith.wf_i64 (by omega))
        have HE := Lib.hid (show (put q k zs q).getD z 0 = zs.getD j 0 by rw [← hz]; exact put_at (by have := HK.out; omega) HL.out q (Nat.le_refl _) j hlt)
        clear hz
        go_wp2_with fail
        (with_reducible refine (implIdx q k j _).mono ?_)
        rw [HI.out]
        rintro e w8 ⟨rfl, hb⟩
        have B8 := Lib.hid (HB.out.trans (hb.mono HB.out.size))
        have HO8 := Lib.hid (HO.out.below hb).up
        obtain ⟨b1, f1, rfl, g1, g2, c1⟩ := (X7.out.rd.below B8.out).at_ hzn
        obtain ⟨b2, f2, rfl, g3, g4, c2⟩ := (O7.out.rd.below B8.out).at_ hlt
        rw [HE.out] at c1
        obtain ⟨x, hx⟩ : ∃ x, zs.getD j 0 = x := ⟨_, rfl⟩
        rw [hx] at c1 c2
        have hz0 : ¬ (z : Int) < 0 := by omega
        have hz9 : ¬ (q : Int) ≤ z := by omega
        have d1 : decide ((z : Int) < 0) = false := decide_eq_false hz0
        have d2 : decide ((q : Int) ≤ z) = false := decide_eq_false hz9
        clear hb HB HO g1 g2 g3 g4 hx
        go_wp2_with fail
        go_quiet (fail)
        clear c1 c2 d1 d2
        go_wp2_with (at_builtin; refine wpList_app _ rfl _ _ 24 rfl 3 i0 _ .i64 Try.underlying24 HZ.out.1 HZ.out.2.1 HZ.out.2.2.1 (by rw [HZ.out.2.2.2]; omega) rfl rfl rfl ((ow_drewN HO8.out).alloc _) (Rd.one .i64 _ _ _ HW.out) (by omega) (by have := B8.out.size; simp; omega) ?_; intro A1 cap1 w9 ho hb1; have O9 := Lib.hid ho; have B9 := Lib.hid (((below_drewN B8.out).alloc (below_drewN B8.out).size _).trans hb1); clear ho hb1)
        go_roundw
        case rel => exact ⟨j + 1, by go_num, by omega, _, _, rfl, by rw [plist_succ HP.out]; exact O9.out, B9.out⟩
        case measure => simp [intOf]; omega
      · have hlt2 : ¬ (j : Int) < q := by omega
        obtain rfl : j = q := by omega
        have HPM := Lib.hid (plist_pm (n := j) (c := k) (by have := HK.out; omega))
        have HPN := Lib.hid (plist_not j k j)
        go_wp2_with fail
        (with_reducible refine (implPm (plist j k j) _ _ V j vc _ HO.out.rd (by omega)).mono ?_)
        rw [HPM.out]
        rintro e w8 ⟨rfl, hb⟩
        have HO8 := Lib.hid (HO.out.below hb).up
        have B8 := Lib.hid (HB.out.trans (hb.mono HB.out.size))
        clear hb HO HB
        go_wp2_with (at_builtin; refine wpList_app_want _ (by rfl) _ _ 24 rfl 3 i0 _ .i64 Try.underlying24 HZ.out.1 HZ.out.2.1 HZ.out.2.2.1 (by rw [HZ.out.2.2.2]; omega) rfl rfl rfl (HO8.out.alloc _) (Ow.lit (E := 3) (k := .i64) (n := 2) _ #[.int .i64 0, .int .i64 0] [0, 0] rfl (Wf.of_i64 (by intro z hz; simp at hz; omega)) (by unfold maxLen; simp) rfl).rd (by omega) (by have := B8.out.size; simp; omega) ?_; intro A1 cap1 w9 ho hb1; have O9 := Lib.hid ho; have B9 := Lib.hid ((B8.out.alloc B8.out.size _).trans hb1); clear ho hb1)
        (with_reducible refine (implPm (plist j k j ++ [0, 0]) _ _ A1 (j + 2) cap1 _ O9.out.rd (by omega)).mono ?_)
        rw [HPN.out]
        rintro e w10 ⟨rfl, hb⟩
        have B10 := Lib.hid (B7.out.trans ((B9.out.trans (hb.mono B9.out.size)).mono B7.out.size))
        clear hb
        go_wp2_with fail
        go_ret
        exact ⟨rfl, B10.out⟩
  · have HN := Lib.hid (show ¬ Ok q col from fun h => hok h.1)
    have HY := Lib.hid (itl_no (l := zs) (c := col) (by rw [HL.out]; exact HN.out))
    have HX := Lib.hid (idx_no (n := q) (c := col) (i := 0) fun h => hok h.1.1)
    rw [HY.out] at X7
    by_cases hc1 : col < 1
    · clear hok
      go_wp2_with fail
      (with_reducible refine (sameI_yes zs _ _ _ _ X A q xc q c _ X7.out.rd O7.out.rd).mono ?_)
      rintro e w8 ⟨rfl, hb⟩
      have B8 := Lib.hid (B7.out.trans (hb.mono B7.out.size))
      clear hb
      go_wp2_with fail
      (with_reducible refine (implIdx q col 0 _).mono ?_)
      rw [HX.out]
      rintro e w9 ⟨rfl, hb⟩
      have B9 := Lib.hid (B8.out.trans (hb.mono B8.out.size))
      clear hb
      go_wp2_with fail
      go_ret
      exact ⟨rfl, B9.out⟩
    · have hc2 : 64 < col := by omega
      clear hok
      go_wp2_with fail
      (with_reducible refine (sameI_yes zs _ _ _ _ X A q xc q c _ X7.out.rd O7.out.rd).mono ?_)
      rintro e w8 ⟨rfl, hb⟩
      have B8 := Lib.hid (B7.out.trans (hb.mono B7.out.size))
      clear hb
      go_wp2_with fail
      (with_reducible refine (implIdx q col 0 _).mono ?_)
      rw [HX.out]
      rintro e w9 ⟨rfl, hb⟩
      have B9 := Lib.hid (B8.out.trans (hb.mono B8.out.size))
      clear hb
      go_wp2_with fail
      go_ret
      exact ⟨rfl, B9.out⟩
end Go.Proofs.Ytpompggakhnflaa.intLaw
