/- The law function of error patterns (FnErrorPatterns) returns true and leaves what was there. Condition: the argument is a slice of bytes that came in. -/
import Derived.Test.YtcfgjlolabnolaaDrawA
import Derived.Test.YtcfgjlolabnolaaBtb
import Derived.Test.YtcfgjlolabnolaaAt
import Derived.Test.YtcfgjlolabnolaaSame
import Derived.Test.YtcfgjlolabnolaaEnd9
namespace Go.Proofs.Ytcfgjlolabnolaa.errLaw
open Go.RowKit sl harn rng chm chw own
set_option linter.unusedVariables false

theorem two (k : IntKind) (E : TypeId) (w : World) (x y : Int) (hx : (Lit.int k x).wf = true) (hy : (Lit.int k y).wf = true) : Rd k (w.alloc (.cells #[.int k x, .int k y] E)) w.heap.size (w.heap.size + 1) (some ⟨w.heap.size, 0, none⟩) 2 2 [x, y] :=
  ⟨rfl, by omega, by unfold maxLen; omega, by simp, fun z hz => by
    rcases List.mem_cons.1 hz with rfl | hz
    · exact hx
    · have : z = y := by simpa using hz
      rw [this]; exact hy, fun _ => ⟨_, 0, rfl, Nat.le_refl _, by omega, fun i hi => by
    have : i = 0 ∨ i = 1 := by omega
    rcases this with rfl | rfl <;> simp⟩⟩
theorem top_small {n : Int} (h : -1000000 ≤ n ∧ n ≤ 1000000) : top n = n - 1 := by unfold top wrap64; omega
theorem errs_vp (f : Nat → Int) (n rate : Int) (h : -1 ≤ n ∧ n ≤ 10001) : vpat (errs f n rate) (top n) = true := by
  refine vpat_yes ?_
  by_cases hn : 0 ≤ n ∧ n ≤ 10000
  · obtain ⟨k, rfl⟩ := Int.eq_ofNat_of_zero_le hn.1
    rw [errs_yes (by omega), top_small (by omega)]
    exact errN_vp
  · rw [errs_no hn]; exact nil_vp _
theorem errs_nine (seed : Int) : (errs (level seed) 9 1000).length = 9 := by
  have := errN_all (f := level seed) (rate := 1000) (fun i => by have := (lev_in (h := hsh.kh seed [(i : Int)])).2; unfold level; omega) 9
  rw [show (9 : Int) = ((9 : Nat) : Int) by rfl, errs_yes (by omega)]
  exact this
set_option maxRecDepth 100000 in
set_option maxHeartbeats 4000000 in
theorem walk (a : Option Addr) (len cap : Nat) (z0 : List Int) (w : World) (r0 : kit.IsRow .u8 w a len cap z0) :
    Calls Try.prog 3 #[.slice a len cap] w fun e w' => e = .returned (.bool true) ∧ Below w.heap.size w w' := by
  have HC := Lib.hid (draw.code_of_row r0)
  obtain ⟨cs, hcs⟩ := Rd.of_row r0
  have HR := Lib.hid hcs
  have hlen : (len : Int) ≤ 9223372036854775807 := by have := HC.out.1; omega
  clear r0 hcs
  by_cases hbig : 1048576 < (len : Int)
  · go_enter Try.func3, Try.ntmps3
    go_wp2
    go_ret
    exact ⟨rfl, Below.refl _ _⟩
  have HLL := Lib.hid (show len ≤ 1048576 by omega)
  go_enter Try.func3, Try.ntmps3
  go_wp2_with (go_at_call 10; go_in)
  clear hbig
  go_wp2_with fail
  (with_reducible refine (draw.drawMerge _ a len cap HC.out).mono ?_)
  rintro e w1 ⟨A, n, c, za, B, m, d, zb, rfl, hn, hm, ha, hzb, hb⟩
  have B1 := Lib.hid hb
  have A1 := Lib.hid ha
  have Z1 := Lib.hid hzb
  have C1 := Lib.hid (draw.code_later HC.out hb)
  have R1 := Lib.hid (HR.out.below hb)
  clear ha hzb hb HC HR
  go_wp2_with fail
  (with_reducible refine (lawAt.at_ 0 (by omega) (by omega) a len cap _ _ cs _ R1.out HLL.out).mono ?_)
  rintro e w2 ⟨x, rfl, hx0, hx1, rfl⟩
  have hxw : IntKind.u8.wrap x = x := by rw [IntKind.wrap_u8]; omega
  go_wp2_with fail
  (with_reducible refine (lawAt.at_ 1 (by omega) (by omega) a len cap _ _ cs _ R1.out HLL.out).mono ?_)
  rintro e w2 ⟨y, rfl, hy0, hy1, rfl⟩
  have hyw : IntKind.u8.wrap y = y := by rw [IntKind.wrap_u8]; omega
  have HT := Lib.hid (two .u8 5 w1 x y (WalkArith.wf_u8 (by omega)) (WalkArith.wf_u8 (by omega)))
  have B2 := Lib.hid ((Below.refl w1.heap.size w1).alloc (Nat.le_refl _) (.cells #[.int .u8 x, .int .u8 y] 5))
  clear R1
  go_wp2_with fail
  (with_reducible refine (bits.specBtb [x, y] _ _ _ 2 2 _ HT.out (by omega)).mono ?_)
  rintro e w3 ⟨X, q, xc, rfl, ho, hb⟩
  have hq : q = 16 := by rw [← ho.len, bm.btb_len]; rfl
  obtain ⟨bs, hbs⟩ : ∃ bs, bm.btb [x, y] = bs := ⟨_, rfl⟩
  rw [hbs] at ho
  have X3 := Lib.hid ho
  have B3 := Lib.hid (B2.out.trans (hb.mono B2.out.size))
  have A3 := Lib.hid (A1.out.below B3.out)
  have Z3 := Lib.hid (Z1.out.below B3.out)
  have B4 := Lib.hid (B1.out.trans (B3.out.mono B1.out.size))
  have C3 := Lib.hid (draw.code_later C1.out B3.out)
  clear ho hb HT B2 A1 Z1 C1 B1 hxw hyw hbs hx0 hx1 hy0 hy1 B3
  subst hq
  go_wp2_with fail
  (with_reducible refine (implMerge za zb _ _ _ _ A B n c m d _ A3.out.rd Z3.out.rd (by omega) (by omega)).mono ?_)
  rintro e w4 ⟨M, r, mc, rfl, ho, hb⟩
  have hr : r ≤ 8 := by have h1 := ho.len; have h2 := fin9.mrg_len za zb; have h3 := A3.out.len; have h4 := Z3.out.len; omega
  have HOD := Lib.hid (fin9.mrg_odds (za ++ zb))
  obtain ⟨ms, hms⟩ : ∃ ms, mrg (za ++ zb) = ms := ⟨_, rfl⟩
  rw [hms] at ho HOD
  have HML := Lib.hid ho.len
  have HAsc := Lib.hid ((asc_iff ms).2 HOD.out.1)
  have M4 := Lib.hid ho
  have X4 := Lib.hid (X3.out.below hb)
  have A4 := Lib.hid (A3.out.below hb)
  have Z4 := Lib.hid (Z3.out.below hb)
  have C4 := Lib.hid (draw.code_later C3.out hb)
  have B5 := Lib.hid (B4.out.trans (hb.mono B4.out.size))
  clear ho hb hms X3 A3 Z3 C3 B4
  go_wp2_with fail
  go_loopw [7] (fun i wr => ∃ k : Nat, i = .int .i64 k ∧ 1 ≤ k ∧ k ≤ 9 ∧ Below w4.heap.size w4 wr) (fun i _ => 9 - (intOf i).toNat)
  case atStart => exact ⟨1, rfl, by omega, by omega, Below.refl _ _⟩
  case round =>
    obtain ⟨k, rfl, hk1, hk2, hb⟩ := hrel
    have HB := Lib.hid hb
    clear hb
    by_cases hlt : k < r
    · have hlt2 : (k : Int) < r := by omega
      obtain ⟨k0, hk0⟩ : ∃ k0, k0 + 1 = k := ⟨k - 1, by omega⟩
      have hk3 : (k : Int) - 1 = k0 := by omega
      have hk4 : IntKind.i64.wrap (k0 : Int) = k0 := IntWalk.i64_in _ (by omega)
      have hk5 : (k0 : Int) < r := by omega
      obtain ⟨b1, f1, rfl, g1, g2, c1⟩ := (M4.out.rd.below HB.out).at_ hlt
      obtain ⟨b2, f2, e2, g3, g4, c2⟩ := (M4.out.rd.below HB.out).at_ (show k0 < r by omega)
      injection e2 with e2
      injection e2 with e3 e4 _
      subst e3 e4
      obtain ⟨u, hu⟩ : ∃ u, ms.getD k0 0 = u := ⟨_, rfl⟩
      obtain ⟨v, hv⟩ : ∃ v, ms.getD k 0 = v := ⟨_, rfl⟩
      have hgap : u < v := by
        have := HAsc.out k0 (by rw [HML.out]; omega)
        rw [hk0, hu, hv] at this
        exact this
      rw [hu] at c2
      rw [hv] at c1
      have hvy : decide (v ≤ u) = false := decide_eq_false (by omega)
      clear g1 g2 g3 g4 hu hv hgap hk0
      go_wp2_with fail
      go_quiet (fail)
      clear c1 c2 hvy hk4 hk3
      go_wp2_with fail
      go_roundw
      case rel => exact ⟨k + 1, by go_num, by omega, by omega, below_drewN HB.out⟩
      case measure => simp [intOf]; omega
    · have hlt2 : ¬ (k : Int) < r := by omega
      have X5 := Lib.hid (X4.out.below HB.out)
      have A5 := Lib.hid (A4.out.below HB.out)
      have Z5 := Lib.hid (Z4.out.below HB.out)
      have M5 := Lib.hid (M4.out.below HB.out)
      have C5 := Lib.hid (draw.code_later C4.out HB.out)
      have B6 := Lib.hid (B5.out.trans (HB.out.mono B5.out.size))
      clear X4 A4 Z4 M4 C4 B5 HB hk1 hk2 hlt
      go_wp2_with fail
      (with_reducible refine (draw.drawErr _ a len cap C5.out).mono ?_)
      rintro e w5 ⟨s, N, rt, rfl, hs, hN, hrt, hb⟩
      have HSW := Lib.hid (show (Lit.int .i64 s).wf = true from WalkArith.wf_i64 (by omega))
      have HVP := Lib.hid (errs_vp (level s) N rt hN)
      have X6 := Lib.hid (X5.out.below hb)
      have A6 := Lib.hid (A5.out.below hb)
      have Z6 := Lib.hid (Z5.out.below hb)
      have M6 := Lib.hid (M5.out.below hb)
      have B7 := Lib.hid (B6.out.trans (hb.mono B6.out.size))
      clear hb hs hN hrt X5 A5 Z5 M5 C5 B6
      go_wp2_with fail
      (with_reducible refine (implErr s N rt HSW.out _).mono ?_)
      rintro e w6 ⟨P, p, pc, rfl, ho, hb⟩
      have hp : p ≤ 10000 := by have h1 := ho.len; have h2 := errs_len (level s) N rt; omega
      have P7 := Lib.hid ho
      have X7 := Lib.hid (X6.out.below hb)
      have A7 := Lib.hid (A6.out.below hb)
      have Z7 := Lib.hid (Z6.out.below hb)
      have M7 := Lib.hid (M6.out.below hb)
      have B8 := Lib.hid (B7.out.trans (hb.mono B7.out.size))
      clear ho hb X6 A6 Z6 M6 B7
      go_wp2_with fail
      (with_reducible refine (implFlip bs za _ _ _ _ X A 16 xc n c _ X7.out.rd A7.out.rd (by omega) (by omega)).mono ?_)
      rintro e w7 ⟨F, f, fc, rfl, ho, hb⟩
      have hf : f = 16 := by rw [← ho.len, flips_len]; exact X7.out.len
      subst hf
      have F8 := Lib.hid ho
      have P8 := Lib.hid (P7.out.below hb)
      have X8 := Lib.hid (X7.out.below hb)
      have A8 := Lib.hid (A7.out.below hb)
      have Z8 := Lib.hid (Z7.out.below hb)
      have M8 := Lib.hid (M7.out.below hb)
      have B9 := Lib.hid (B8.out.trans (hb.mono B8.out.size))
      clear ho hb X7 A7 Z7 M7 P7 B8
      go_wp2_with fail
      (with_reducible refine (implFlip (flips bs za) za _ _ _ _ F A 16 fc n c _ F8.out.rd A8.out.rd (by omega) (by omega)).mono ?_)
      rw [flips_twice]
      rintro e w8 ⟨G, g, gc, rfl, ho, hb⟩
      have hg : g = 16 := by rw [← ho.len]; exact X8.out.len
      subst hg
      have G9 := Lib.hid ho
      have P9 := Lib.hid (P8.out.below hb)
      have X9 := Lib.hid (X8.out.below hb)
      have A9 := Lib.hid (A8.out.below hb)
      have Z9 := Lib.hid (Z8.out.below hb)
      have M9 := Lib.hid (M8.out.below hb)
      have B10 := Lib.hid (B9.out.trans (hb.mono B9.out.size))
      clear ho hb X8 A8 Z8 M8 P8 B9 F8
      go_wp2_with fail
      (with_reducible refine (sameI_yes bs _ _ _ _ G X 16 gc 16 xc _ G9.out.rd X9.out.rd).mono ?_)
      rintro e w9 ⟨rfl, hb⟩
      have P10 := Lib.hid (P9.out.below hb)
      have X10 := Lib.hid (X9.out.below hb)
      have A10 := Lib.hid (A9.out.below hb)
      have Z10 := Lib.hid (Z9.out.below hb)
      have M10 := Lib.hid (M9.out.below hb)
      have B11 := Lib.hid (B10.out.trans (hb.mono B10.out.size))
      clear hb X9 A9 Z9 M9 P9 B10 G9
      go_wp2_with fail
      (with_reducible refine (implFlip bs ms _ _ _ _ X M 16 xc r mc _ X10.out.rd M10.out.rd (by omega) (by omega)).mono ?_)
      rw [flips_both (b := bs) HOD.out.count]
      rintro e w10 ⟨H, h, hc, rfl, ho, hb⟩
      have hh : h = 16 := by rw [← ho.len, flips_len, flips_len]; exact X10.out.len
      subst hh
      have H11 := Lib.hid ho
      have P11 := Lib.hid (P10.out.below hb)
      have X11 := Lib.hid (X10.out.below hb)
      have A11 := Lib.hid (A10.out.below hb)
      have Z11 := Lib.hid (Z10.out.below hb)
      have B12 := Lib.hid (B11.out.trans (hb.mono B11.out.size))
      clear ho hb X10 A10 Z10 M10 P10 B11
      go_wp2_with fail
      (with_reducible refine (implFlip bs za _ _ _ _ X A 16 xc n c _ X11.out.rd A11.out.rd (by omega) (by omega)).mono ?_)
      rintro e w11 ⟨I, i, ic, rfl, ho, hb⟩
      have hi : i = 16 := by rw [← ho.len, flips_len]; exact X11.out.len
      subst hi
      have I12 := Lib.hid ho
      have H12 := Lib.hid (H11.out.below hb)
      have P12 := Lib.hid (P11.out.below hb)
      have Z12 := Lib.hid (Z11.out.below hb)
      have B13 := Lib.hid (B12.out.trans (hb.mono B12.out.size))
      clear ho hb X11 A11 Z11 P11 B12 H11
      go_wp2_with fail
      (with_reducible refine (implFlip (flips bs za) zb _ _ _ _ I B 16 ic m d _ I12.out.rd Z12.out.rd (by omega) (by omega)).mono ?_)
      rintro e w12 ⟨J, j, jc, rfl, ho, hb⟩
      have hj : j = 16 := by rw [← ho.len, flips_len]; exact I12.out.len
      subst hj
      have J13 := Lib.hid ho
      have H13 := Lib.hid (H12.out.below hb)
      have P13 := Lib.hid (P12.out.below hb)
      have B14 := Lib.hid (B13.out.trans (hb.mono B13.out.size))
      clear ho hb I12 Z12 P12 B13 H12
      go_wp2_with fail
      (with_reducible refine (sameI_yes (flips (flips bs za) zb) _ _ _ _ H J 16 hc 16 jc _ H13.out.rd J13.out.rd).mono ?_)
      rintro e w13 ⟨rfl, hb⟩
      have P14 := Lib.hid (P13.out.below hb)
      have B15 := Lib.hid (B14.out.trans (hb.mono B14.out.size))
      clear hb H13 J13 P13 B14
      go_wp2_with fail
      (with_reducible refine (implVp (errs (level s) N rt) N _ _ P p pc _ P14.out.rd (by omega)).mono ?_)
      rw [HVP.out]
      rintro e w14 ⟨rfl, hb⟩
      have B16 := Lib.hid (B15.out.trans (hb.mono B15.out.size))
      clear hb P14 B15
      go_wp2_with fail
      (with_reducible refine (implBurst 3 5 _).mono ?_)
      rintro e w15 ⟨K, kk, kc, rfl, ho, hb⟩
      have hkk : kk ≤ 1000 := by have h1 := ho.len; have h2 := brst_len 3 5; omega
      have K17 := Lib.hid ho
      have B17 := Lib.hid (B16.out.trans (hb.mono B16.out.size))
      clear ho hb B16
      go_wp2_with fail
      (with_reducible refine (implBurstLen (brst 3 5) _ _ K kk kc _ K17.out.rd (by omega)).mono ?_)
      rw [lb_five.eq]
      rintro e w16 ⟨rfl, hb⟩
      have B18 := Lib.hid (B17.out.trans (hb.mono B17.out.size))
      clear hb K17 B17
      go_wp2_with fail
      (with_reducible refine (implErr s 9 1000 HSW.out _).mono ?_)
      rintro e w17 ⟨Q, qq, qc, rfl, ho, hb⟩
      have hqq : qq = 9 := by rw [← ho.len]; exact errs_nine s
      subst hqq
      have B19 := Lib.hid (B18.out.trans (hb.mono B18.out.size))
      clear ho hb B18
      go_wp2_with fail
      go_ret
      exact ⟨rfl, B19.out⟩
end Go.Proofs.Ytcfgjlolabnolaa.errLaw
