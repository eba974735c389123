/- The law function of bit strings (FnBits) returns true and leaves what was there. Condition: the argument is a slice of bytes that came in. -/
import Derived.Test.YtnffklompocflabBits7
import Derived.Test.YtnffklompocflabDraw6
import Derived.Test.YtnffklompocflabAt
import Derived.Test.YtnffklompocflabSame
namespace Go.Proofs.Ytnffklompocflab.bitsLaw
open Go.RowKit sl harn bm Go.Proofs.Ytnffklompocflab.bits
set_option linter.unusedVariables false

theorem ham_same {a b : List Int} {n : Nat} (ha : a.length = n) (hb : b.length = n) : ham a b = diff a b := by
  unfold ham; rw [ha, hb]; simp
theorem bb_fine {l : List Int} {y : List Int} {b : Bool} (h : bb l = (y, b)) (h1 : isb l = true) (h2 : l.length % 8 = 0) : b = true ∧ btb y = l := by
  rw [bb_yes h1 h2] at h
  injection h with h3 h4
  exact ⟨h4.symm, by rw [← h3]; exact btb_bytesOf _ l h1 (by omega)⟩
theorem bb_unfine {l : List Int} {y : List Int} {b : Bool} (h : bb l = (y, b)) (h1 : ¬ (isb l = true ∧ l.length % 8 = 0)) : b = false := by
  rw [bb_no h1] at h
  injection h with h3 h4
  exact h4.symm
theorem lit2 (w : World) {x y : Int} (hx : 0 ≤ x ∧ x ≤ 255) (hy : 0 ≤ y ∧ y ≤ 255) : Rd .u8 (w.alloc (.cells #[.int .u8 x, .int .u8 y] 5)) w.heap.size (w.alloc (.cells #[.int .u8 x, .int .u8 y] 5)).heap.size (some ⟨w.heap.size, 0, none⟩) 2 2 [x, y] :=
  (Ow.lit (E := 5) (k := .u8) (n := 2) w #[.int .u8 x, .int .u8 y] [x, y] rfl (Wf.of_u8 (by intro z hz; simp at hz; rcases hz with rfl | rfl <;> omega)) (by unfold maxLen; simp) rfl).rd
set_option maxRecDepth 100000 in
set_option maxHeartbeats 4000000 in
theorem walk (a : Option Addr) (len cap : Nat) (z0 : List Int) (w : World) (r0 : kit.IsRow .u8 w a len cap z0) :
    Calls Try.prog 6 #[.slice a len cap] w fun e w' => e = .returned (.bool true) ∧ Below w.heap.size w w' := by
  have HC := Lib.hid (draw.code_of_row r0)
  have hlen : (len : Int) ≤ 9223372036854775807 := by have := HC.out.1; omega
  obtain ⟨y0, hr0⟩ := Rd.of_row r0
  have RC := Lib.hid hr0
  clear r0 hr0
  by_cases hbig : 1048576 < (len : Int)
  · go_enter Try.func6, Try.ntmps6
    go_wp2
    go_ret
    exact ⟨rfl, Below.refl _ _⟩
  have LN := Lib.hid (show len ≤ 1048576 by omega)
  have B0 := Lib.hid (Below.refl w.heap.size w)
  have HCL := Lib.hid (fun (W : World) (hb : Below w.heap.size w W) => draw.code_later HC.out hb)
  go_enter Try.func6, Try.ntmps6
  go_wp2_with (go_at_call 21; go_in)
  clear hbig
  go_wp2_with fail
  (with_reducible refine (draw.drawBytesToBits _ a len cap HC.out).mono ?_)
  rintro e w1 ⟨A, n, c, zs, rfl, hn, ho, hb⟩
  have N1 := Lib.hid hn
  have D1 := Lib.hid (bb_btb ho.wf.u8)
  have L1 := Lib.hid ho.len
  clear hn
  have F2 := Lib.hid (RC.out.below hb)
  clear RC
  have B3 := Lib.hid (B0.out.trans (hb.mono B0.out.size))
  clear B0
  have F4 := Lib.hid ho
  clear ho hb
  go_wp2_with fail
  (with_reducible refine (implBtb zs _ _ A n c _ F4.out.rd (by have := N1.out; omega)).mono ?_)
  rintro e w5 ⟨B, m, d, rfl, ho, hb⟩
  have M1 := Lib.hid (show m ≤ 67108864 by have h1 := ho.len; have h2 := btb_len zs; have h3 := L1.out; have h4 := N1.out; omega)
  have F6 := Lib.hid (F2.out.below hb)
  clear F2
  have F7 := Lib.hid (F4.out.below hb)
  clear F4
  have B8 := Lib.hid (B3.out.trans (hb.mono B3.out.size))
  clear B3
  have F9 := Lib.hid ho
  clear ho hb
  go_wp2_with fail
  (with_reducible refine (implBb (btb zs) _ _ B m d _ F9.out.rd M1.out).mono ?_)
  rintro e w10 hp
  obtain ⟨X, xn, xc, rfl, ho, hb⟩ := BbPost.parts D1.out hp
  clear hp
  have F11 := Lib.hid (F6.out.below hb)
  clear F6
  have F12 := Lib.hid (F7.out.below hb)
  clear F7
  have F13 := Lib.hid (F9.out.below hb)
  clear F9
  have B14 := Lib.hid (B8.out.trans (hb.mono B8.out.size))
  clear B8
  have F15 := Lib.hid ho
  clear ho hb
  clear F13
  go_wp2_with fail
  (with_reducible refine (draw.drawBitsToBytes _ a len cap (HCL.out _ B14.out)).mono ?_)
  rintro e w16 ⟨L, ln, lc, ls, rfl, hn, ho, hb⟩
  have N2 := Lib.hid hn
  have L2 := Lib.hid ho.len
  clear hn
  have F17 := Lib.hid (F11.out.below hb)
  clear F11
  have F18 := Lib.hid (F12.out.below hb)
  clear F12
  have F19 := Lib.hid (F15.out.below hb)
  clear F15
  have B20 := Lib.hid (B14.out.trans (hb.mono B14.out.size))
  clear B14
  have F21 := Lib.hid ho
  clear ho hb
  obtain ⟨yl, yb, ht⟩ : ∃ l b, bb ls = (l, b) := ⟨_, _, rfl⟩
  have HT := Lib.hid ht
  clear ht
  go_wp2_with fail
  (with_reducible refine (implBb ls _ _ L ln lc _ F21.out.rd (by have := N2.out; omega)).mono ?_)
  rintro e w22 hp
  obtain ⟨Y, yn, yc, rfl, ho, hb⟩ := BbPost.parts HT.out hp
  clear hp
  have F23 := Lib.hid (F17.out.below hb)
  clear F17
  have F24 := Lib.hid (F18.out.below hb)
  clear F18
  have F25 := Lib.hid (F19.out.below hb)
  clear F19
  have F26 := Lib.hid (F21.out.below hb)
  clear F21
  have B27 := Lib.hid (B20.out.trans (hb.mono B20.out.size))
  clear B20
  have F28 := Lib.hid ho
  clear ho hb
  go_wp2_with fail
  (with_reducible refine (lawAt.at_ 0 (by omega) (by omega) a len cap _ _ y0 _ F23.out LN.out).mono ?_)
  rintro e w29 ⟨p0, rfl, h0p0, h1p0, rfl⟩
  go_wp2_with fail
  (with_reducible refine (lawAt.at_ 1 (by omega) (by omega) a len cap _ _ y0 _ F23.out LN.out).mono ?_)
  rintro e w30 ⟨p1, rfl, h0p1, h1p1, rfl⟩
  go_wp2_with fail
  (with_reducible refine (lawAt.at_ 2 (by omega) (by omega) a len cap _ _ y0 _ F23.out LN.out).mono ?_)
  rintro e w31 ⟨p2, rfl, h0p2, h1p2, rfl⟩
  go_wp2_with fail
  (with_reducible refine (lawAt.at_ 3 (by omega) (by omega) a len cap _ _ y0 _ F23.out LN.out).mono ?_)
  rintro e w32 ⟨p3, rfl, h0p3, h1p3, rfl⟩
  have P2 := Lib.hid (And.intro (And.intro h0p2 h1p2) (And.intro h0p3 h1p3))
  go_wp2_with fail
  (with_reducible refine (implBtb [p2, p3] _ _ _ 2 2 _ (lit2 _ P2.out.1 P2.out.2) (by omega)).mono ?_)
  rintro e w33 ⟨u, nu, cu, rfl, ho, hb0⟩
  obtain ⟨U, hU⟩ : ∃ l, btb [p2, p3] = l := ⟨_, rfl⟩
  have IU := Lib.hid (show (∀ z ∈ U, 0 ≤ z ∧ z ≤ 1) ∧ U.length = 16 by rw [← hU]; exact ⟨btb_bit _, btb_len _⟩)
  rw [hU] at ho
  have hb := draw.below_push' (Nat.le_refl _) (hb0.mono (by simp))
  have F34 := Lib.hid (F23.out.below hb)
  clear F23
  have F35 := Lib.hid (F24.out.below hb)
  clear F24
  have F36 := Lib.hid (F25.out.below hb)
  clear F25
  have F37 := Lib.hid (F26.out.below hb)
  clear F26
  have F38 := Lib.hid (F28.out.below hb)
  clear F28
  have B39 := Lib.hid (B27.out.trans (hb.mono B27.out.size))
  clear B27
  have F40 := Lib.hid ho
  clear ho hb hb0 hU
  go_wp2_with fail
  (with_reducible refine (lawAt.at_ 4 (by omega) (by omega) a len cap _ _ y0 _ F34.out LN.out).mono ?_)
  rintro e w41 ⟨p4, rfl, h0p4, h1p4, rfl⟩
  go_wp2_with fail
  (with_reducible refine (lawAt.at_ 5 (by omega) (by omega) a len cap _ _ y0 _ F34.out LN.out).mono ?_)
  rintro e w42 ⟨p5, rfl, h0p5, h1p5, rfl⟩
  have P4 := Lib.hid (And.intro (And.intro h0p4 h1p4) (And.intro h0p5 h1p5))
  go_wp2_with fail
  (with_reducible refine (implBtb [p4, p5] _ _ _ 2 2 _ (lit2 _ P4.out.1 P4.out.2) (by omega)).mono ?_)
  rintro e w43 ⟨v, nv, cv, rfl, ho, hb0⟩
  obtain ⟨V, hU⟩ : ∃ l, btb [p4, p5] = l := ⟨_, rfl⟩
  have IV := Lib.hid (show (∀ z ∈ V, 0 ≤ z ∧ z ≤ 1) ∧ V.length = 16 by rw [← hU]; exact ⟨btb_bit _, btb_len _⟩)
  rw [hU] at ho
  have hb := draw.below_push' (Nat.le_refl _) (hb0.mono (by simp))
  have F44 := Lib.hid (F34.out.below hb)
  clear F34
  have F45 := Lib.hid (F35.out.below hb)
  clear F35
  have F46 := Lib.hid (F36.out.below hb)
  clear F36
  have F47 := Lib.hid (F37.out.below hb)
  clear F37
  have F48 := Lib.hid (F38.out.below hb)
  clear F38
  have F49 := Lib.hid (F40.out.below hb)
  clear F40
  have B50 := Lib.hid (B39.out.trans (hb.mono B39.out.size))
  clear B39
  have F51 := Lib.hid ho
  clear ho hb hb0 hU
  clear F44
  have HQ := Lib.hid (show 0 ≤ p0 * 256 + p1 ∧ p0 * 256 + p1 < 65536 by omega)
  obtain ⟨q, hq⟩ : ∃ q, p0 * 256 + p1 = q := ⟨_, rfl⟩
  rw [hq] at HQ
  have HBQ := Lib.hid (bti_itb HQ.out.1 HQ.out.2)
  have HXX := Lib.hid (xor_xor U V IU.out.1 IV.out.1 (by rw [IU.out.2, IV.out.2]))
  have HXW := Lib.hid (show wt (xorB U V) = ham U V by rw [wt_xor U V IU.out.1 IV.out.1, ham_same IU.out.2 IV.out.2])
  obtain ⟨hd, hhd⟩ : ∃ hd, ham U V = hd := ⟨_, rfl⟩
  rw [hhd] at HXW
  obtain ⟨wu, hwu⟩ : ∃ wu, wt U = wu := ⟨_, rfl⟩
  have hwu0 : 0 ≤ wu := by rw [← hwu]; exact (wt_in U).1
  have HWU := Lib.hid hwu
  have HHD := Lib.hid hhd
  have HPA := Lib.hid (show par U = wu % 2 by rw [par, hwu])
  have HXL := Lib.hid (show (xorB U V).length = 16 by rw [xorB_len, IU.out.2, IV.out.2]; rfl)
  clear hwu hhd h0p2 h1p2 h0p3 h1p3 h0p4 h1p4 h0p5 h1p5
  go_wp2_with fail
  (with_reducible refine (sameB_yes zs _ _ _ _ X A xn xc n c _ F46.out.rd F45.out.rd).mono ?_)
  rintro e w52 ⟨rfl, hb⟩
  have F53 := Lib.hid (F45.out.below hb)
  clear F45
  have F54 := Lib.hid (F46.out.below hb)
  clear F46
  have F55 := Lib.hid (F47.out.below hb)
  clear F47
  have F56 := Lib.hid (F48.out.below hb)
  clear F48
  have F57 := Lib.hid (F49.out.below hb)
  clear F49
  have F58 := Lib.hid (F51.out.below hb)
  clear F51
  have B59 := Lib.hid (B50.out.trans (hb.mono B50.out.size))
  clear B50 hb
  clear F54
  clear F53
  by_cases hf : isb ls = true ∧ ls.length % 8 = 0
  · skip
    have h8 : (ln : Int) % 8 = 0 := by have := hf.2; rw [L2.out] at this; omega
    have HI := Lib.hid hf.1
    obtain ⟨hyb, hyl⟩ := bb_fine HT.out hf.1 hf.2
    subst hyb
    have HYL := Lib.hid hyl
    have hYN := (by have h1 := F56.out.len; have h2 := congrArg List.length hyl; rw [btb_len] at h2; have h3 := L2.out; have h4 := N2.out; omega : yn ≤ 67108864)
    have HYN := Lib.hid hYN
    clear hf hyl hYN
    go_wp2_with fail
    (with_reducible refine (specIsb ls _ _ L ln lc _ F55.out.rd).mono ?_)
    rintro e w60 ⟨rfl, rfl⟩
    rw [HI.out]
    go_wp2_with fail
    (with_reducible refine (implBtb yl _ _ Y yn yc _ F56.out.rd HYN.out).mono ?_)
    rintro e w61 ⟨Z, zn, zc, rfl, ho, hb⟩
    rw [HYL.out] at ho
    have F62 := Lib.hid (F55.out.below hb)
    clear F55
    have F63 := Lib.hid (F56.out.below hb)
    clear F56
    have F64 := Lib.hid (F57.out.below hb)
    clear F57
    have F65 := Lib.hid (F58.out.below hb)
    clear F58
    have B66 := Lib.hid (B59.out.trans (hb.mono B59.out.size))
    clear B59
    have F67 := Lib.hid ho
    clear ho hb
    go_wp2_with fail
    (with_reducible refine (sameI_yes ls _ _ _ _ Z L zn zc ln lc _ F67.out.rd F62.out.rd).mono ?_)
    rintro e w68 ⟨rfl, hb⟩
    have F69 := Lib.hid (F62.out.below hb)
    clear F62
    have F70 := Lib.hid (F63.out.below hb)
    clear F63
    have F71 := Lib.hid (F64.out.below hb)
    clear F64
    have F72 := Lib.hid (F65.out.below hb)
    clear F65
    have F73 := Lib.hid (F67.out.below hb)
    clear F67
    have B74 := Lib.hid (B66.out.trans (hb.mono B66.out.size))
    clear B66
    clear hb
    clear F73
    clear F70
    clear F69
    go_wp2_with fail
    (with_reducible refine (implItb q 16 _).mono ?_)
    rintro e w75 ⟨G, gn, gc, rfl, ho, hb⟩
    have F76 := Lib.hid (F71.out.below hb)
    clear F71
    have F77 := Lib.hid (F72.out.below hb)
    clear F72
    have B78 := Lib.hid (B74.out.trans (hb.mono B74.out.size))
    clear B74
    have F79 := Lib.hid ho
    clear ho hb
    go_wp2_with fail
    (with_reducible refine (implBti _ _ _ G gn gc _ F79.out.rd).mono ?_)
    rintro e w80 ⟨rfl, rfl⟩
    rw [HBQ.out]
    clear F79
    go_wp2_with fail
    (with_reducible refine (implXor U V _ _ _ _ u v nu cu nv cv _ F76.out.rd F77.out.rd (by have h1 := F76.out.len; have h2 := IU.out.2; omega)).mono ?_)
    rintro e w81 ⟨G, gn, gc, rfl, ho, hb⟩
    have F82 := Lib.hid (F76.out.below hb)
    clear F76
    have F83 := Lib.hid (F77.out.below hb)
    clear F77
    have B84 := Lib.hid (B78.out.trans (hb.mono B78.out.size))
    clear B78
    have F85 := Lib.hid ho
    clear ho hb
    go_wp2_with fail
    (with_reducible refine (implWt _ _ _ G gn gc _ F85.out.rd).mono ?_)
    rintro e w86 ⟨rfl, rfl⟩
    rw [HXW.out]
    clear F85
    go_wp2_with fail
    (with_reducible refine (implHam U V _ _ _ _ u v nu cu nv cv _ F82.out.rd F83.out.rd).mono ?_)
    rintro e w87 hp
    obtain ⟨rfl, hb⟩ := HamPost.parts HHD.out hp
    clear hp
    have F88 := Lib.hid (F82.out.below hb)
    clear F82
    have F89 := Lib.hid (F83.out.below hb)
    clear F83
    have B90 := Lib.hid (B84.out.trans (hb.mono B84.out.size))
    clear B84
    clear hb
    go_wp2_with fail
    (with_reducible refine (implPar _ _ _ u nu cu _ F88.out.rd).mono ?_)
    rintro e w91 ⟨rfl, rfl⟩
    rw [HPA.out]
    go_wp2_with fail
    (with_reducible refine (implWt _ _ _ u nu cu _ F88.out.rd).mono ?_)
    rintro e w92 ⟨rfl, rfl⟩
    rw [HWU.out]
    go_wp2_with fail
    (with_reducible refine (implXor U V _ _ _ _ u v nu cu nv cv _ F88.out.rd F89.out.rd (by have h1 := F88.out.len; have h2 := IU.out.2; omega)).mono ?_)
    rintro e w93 ⟨G, gn, gc, rfl, ho, hb⟩
    have F94 := Lib.hid (F88.out.below hb)
    clear F88
    have F95 := Lib.hid (F89.out.below hb)
    clear F89
    have B96 := Lib.hid (B90.out.trans (hb.mono B90.out.size))
    clear B90
    have F97 := Lib.hid ho
    clear ho hb
    go_wp2_with fail
    (with_reducible refine (implXor (xorB U V) V _ _ _ _ G v gn gc nv cv _ F97.out.rd F95.out.rd (by have h1 := F97.out.len; have h2 := HXL.out; omega)).mono ?_)
    rintro e w98 ⟨H, hn, hc, rfl, ho, hb⟩
    rw [HXX.out] at ho
    have F99 := Lib.hid (F94.out.below hb)
    clear F94
    have F100 := Lib.hid (F95.out.below hb)
    clear F95
    have F101 := Lib.hid (F97.out.below hb)
    clear F97
    have B102 := Lib.hid (B96.out.trans (hb.mono B96.out.size))
    clear B96
    have F103 := Lib.hid ho
    clear ho hb
    go_wp2_with fail
    (with_reducible refine (sameI_yes U _ _ _ _ H u hn hc nu cu _ F103.out.rd F99.out.rd).mono ?_)
    rintro e w104 ⟨rfl, hb⟩
    have F105 := Lib.hid (F99.out.below hb)
    clear F99
    have F106 := Lib.hid (F100.out.below hb)
    clear F100
    have F107 := Lib.hid (F101.out.below hb)
    clear F101
    have F108 := Lib.hid (F103.out.below hb)
    clear F103
    have B109 := Lib.hid (B102.out.trans (hb.mono B102.out.size))
    clear B102
    clear hb
    go_wp2_with fail
    go_ret
    exact ⟨rfl, B109.out⟩
  by_cases hi : isb ls = true
  · skip
    have hyb := bb_unfine HT.out hf
    subst hyb
    have HI := Lib.hid hi
    have h8 : ¬ (ln : Int) % 8 = 0 := by intro h; apply hf; refine ⟨hi, ?_⟩; rw [L2.out]; omega
    clear hf hi
    go_wp2_with fail
    (with_reducible refine (specIsb ls _ _ L ln lc _ F55.out.rd).mono ?_)
    rintro e w110 ⟨rfl, rfl⟩
    rw [HI.out]
    clear F56
    clear F55
    go_wp2_with fail
    (with_reducible refine (implItb q 16 _).mono ?_)
    rintro e w111 ⟨G, gn, gc, rfl, ho, hb⟩
    have F112 := Lib.hid (F57.out.below hb)
    clear F57
    have F113 := Lib.hid (F58.out.below hb)
    clear F58
    have B114 := Lib.hid (B59.out.trans (hb.mono B59.out.size))
    clear B59
    have F115 := Lib.hid ho
    clear ho hb
    go_wp2_with fail
    (with_reducible refine (implBti _ _ _ G gn gc _ F115.out.rd).mono ?_)
    rintro e w116 ⟨rfl, rfl⟩
    rw [HBQ.out]
    clear F115
    go_wp2_with fail
    (with_reducible refine (implXor U V _ _ _ _ u v nu cu nv cv _ F112.out.rd F113.out.rd (by have h1 := F112.out.len; have h2 := IU.out.2; omega)).mono ?_)
    rintro e w117 ⟨G, gn, gc, rfl, ho, hb⟩
    have F118 := Lib.hid (F112.out.below hb)
    clear F112
    have F119 := Lib.hid (F113.out.below hb)
    clear F113
    have B120 := Lib.hid (B114.out.trans (hb.mono B114.out.size))
    clear B114
    have F121 := Lib.hid ho
    clear ho hb
    go_wp2_with fail
    (with_reducible refine (implWt _ _ _ G gn gc _ F121.out.rd).mono ?_)
    rintro e w122 ⟨rfl, rfl⟩
    rw [HXW.out]
    clear F121
    go_wp2_with fail
    (with_reducible refine (implHam U V _ _ _ _ u v nu cu nv cv _ F118.out.rd F119.out.rd).mono ?_)
    rintro e w123 hp
    obtain ⟨rfl, hb⟩ := HamPost.parts HHD.out hp
    clear hp
    have F124 := Lib.hid (F118.out.below hb)
    clear F118
    have F125 := Lib.hid (F119.out.below hb)
    clear F119
    have B126 := Lib.hid (B120.out.trans (hb.mono B120.out.size))
    clear B120
    clear hb
    go_wp2_with fail
    (with_reducible refine (implPar _ _ _ u nu cu _ F124.out.rd).mono ?_)
    rintro e w127 ⟨rfl, rfl⟩
    rw [HPA.out]
    go_wp2_with fail
    (with_reducible refine (implWt _ _ _ u nu cu _ F124.out.rd).mono ?_)
    rintro e w128 ⟨rfl, rfl⟩
    rw [HWU.out]
    go_wp2_with fail
    (with_reducible refine (implXor U V _ _ _ _ u v nu cu nv cv _ F124.out.rd F125.out.rd (by have h1 := F124.out.len; have h2 := IU.out.2; omega)).mono ?_)
    rintro e w129 ⟨G, gn, gc, rfl, ho, hb⟩
    have F130 := Lib.hid (F124.out.below hb)
    clear F124
    have F131 := Lib.hid (F125.out.below hb)
    clear F125
    have B132 := Lib.hid (B126.out.trans (hb.mono B126.out.size))
    clear B126
    have F133 := Lib.hid ho
    clear ho hb
    go_wp2_with fail
    (with_reducible refine (implXor (xorB U V) V _ _ _ _ G v gn gc nv cv _ F133.out.rd F131.out.rd (by have h1 := F133.out.len; have h2 := HXL.out; omega)).mono ?_)
    rintro e w134 ⟨H, hn, hc, rfl, ho, hb⟩
    rw [HXX.out] at ho
    have F135 := Lib.hid (F130.out.below hb)
    clear F130
    have F136 := Lib.hid (F131.out.below hb)
    clear F131
    have F137 := Lib.hid (F133.out.below hb)
    clear F133
    have B138 := Lib.hid (B132.out.trans (hb.mono B132.out.size))
    clear B132
    have F139 := Lib.hid ho
    clear ho hb
    go_wp2_with fail
    (with_reducible refine (sameI_yes U _ _ _ _ H u hn hc nu cu _ F139.out.rd F135.out.rd).mono ?_)
    rintro e w140 ⟨rfl, hb⟩
    have F141 := Lib.hid (F135.out.below hb)
    clear F135
    have F142 := Lib.hid (F136.out.below hb)
    clear F136
    have F143 := Lib.hid (F137.out.below hb)
    clear F137
    have F144 := Lib.hid (F139.out.below hb)
    clear F139
    have B145 := Lib.hid (B138.out.trans (hb.mono B138.out.size))
    clear B138
    clear hb
    go_wp2_with fail
    go_ret
    exact ⟨rfl, B145.out⟩
  · skip
    have hyb := bb_unfine HT.out hf
    subst hyb
    have HI := Lib.hid (show isb ls = false by simpa using hi)
    clear hf hi
    go_wp2_with fail
    (with_reducible refine (specIsb ls _ _ L ln lc _ F55.out.rd).mono ?_)
    rintro e w146 ⟨rfl, rfl⟩
    rw [HI.out]
    clear F56
    clear F55
    go_wp2_with fail
    (with_reducible refine (implItb q 16 _).mono ?_)
    rintro e w147 ⟨G, gn, gc, rfl, ho, hb⟩
    have F148 := Lib.hid (F57.out.below hb)
    clear F57
    have F149 := Lib.hid (F58.out.below hb)
    clear F58
    have B150 := Lib.hid (B59.out.trans (hb.mono B59.out.size))
    clear B59
    have F151 := Lib.hid ho
    clear ho hb
    go_wp2_with fail
    (with_reducible refine (implBti _ _ _ G gn gc _ F151.out.rd).mono ?_)
    rintro e w152 ⟨rfl, rfl⟩
    rw [HBQ.out]
    clear F151
    go_wp2_with fail
    (with_reducible refine (implXor U V _ _ _ _ u v nu cu nv cv _ F148.out.rd F149.out.rd (by have h1 := F148.out.len; have h2 := IU.out.2; omega)).mono ?_)
    rintro e w153 ⟨G, gn, gc, rfl, ho, hb⟩
    have F154 := Lib.hid (F148.out.below hb)
    clear F148
    have F155 := Lib.hid (F149.out.below hb)
    clear F149
    have B156 := Lib.hid (B150.out.trans (hb.mono B150.out.size))
    clear B150
    have F157 := Lib.hid ho
    clear ho hb
    go_wp2_with fail
    (with_reducible refine (implWt _ _ _ G gn gc _ F157.out.rd).mono ?_)
    rintro e w158 ⟨rfl, rfl⟩
    rw [HXW.out]
    clear F157
    go_wp2_with fail
    (with_reducible refine (implHam U V _ _ _ _ u v nu cu nv cv _ F154.out.rd F155.out.rd).mono ?_)
    rintro e w159 hp
    obtain ⟨rfl, hb⟩ := HamPost.parts HHD.out hp
    clear hp
    have F160 := Lib.hid (F154.out.below hb)
    clear F154
    have F161 := Lib.hid (F155.out.below hb)
    clear F155
    have B162 := Lib.hid (B156.out.trans (hb.mono B156.out.size))
    clear B156
    clear hb
    go_wp2_with fail
    (with_reducible refine (implPar _ _ _ u nu cu _ F160.out.rd).mono ?_)
    rintro e w163 ⟨rfl, rfl⟩
    rw [HPA.out]
    go_wp2_with fail
    (with_reducible refine (implWt _ _ _ u nu cu _ F160.out.rd).mono ?_)
    rintro e w164 ⟨rfl, rfl⟩
    rw [HWU.out]
    go_wp2_with fail
    (with_reducible refine (implXor U V _ _ _ _ u v nu cu nv cv _ F160.out.rd F161.out.rd (by have h1 := F160.out.len; have h2 := IU.out.2; omega)).mono ?_)
    rintro e w165 ⟨G, gn, gc, rfl, ho, hb⟩
    have F166 := Lib.hid (F160.out.below hb)
    clear F160
    have F167 := Lib.hid (F161.out.below hb)
    clear F161
    have B168 := Lib.hid (B162.out.trans (hb.mono B162.out.size))
    clear B162
    have F169 := Lib.hid ho
    clear ho hb
    go_wp2_with fail
    (with_reducible refine (implXor (xorB U V) V _ _ _ _ G v gn gc nv cv _ F169.out.rd F167.out.rd (by have h1 := F169.out.len; have h2 := HXL.out; omega)).mono ?_)
    rintro e w170 ⟨H, hn, hc, rfl, ho, hb⟩
    rw [HXX.out] at ho
    have F171 := Lib.hid (F166.out.below hb)
    clear F166
    have F172 := Lib.hid (F167.out.below hb)
    clear F167
    have F173 := Lib.hid (F169.out.below hb)
    clear F169
    have B174 := Lib.hid (B168.out.trans (hb.mono B168.out.size))
    clear B168
    have F175 := Lib.hid ho
    clear ho hb
    go_wp2_with fail
    (with_reducible refine (sameI_yes U _ _ _ _ H u hn hc nu cu _ F175.out.rd F171.out.rd).mono ?_)
    rintro e w176 ⟨rfl, hb⟩
    have F177 := Lib.hid (F171.out.below hb)
    clear F171
    have F178 := Lib.hid (F172.out.below hb)
    clear F172
    have F179 := Lib.hid (F173.out.below hb)
    clear F173
    have F180 := Lib.hid (F175.out.below hb)
    clear F175
    have B181 := Lib.hid (B174.out.trans (hb.mono B174.out.size))
    clear B174
    clear hb
    go_wp2_with fail
    go_ret
    exact ⟨rfl, B181.out⟩
end Go.Proofs.Ytnffklompocflab.bitsLaw
