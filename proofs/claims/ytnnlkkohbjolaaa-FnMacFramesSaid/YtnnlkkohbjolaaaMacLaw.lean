/- The law function of medium access frames (FnMacFrames) returns true and leaves what was there. Condition: the argument is a slice of bytes that came in. -/
import Derived.Test.YtnnlkkohbjolaaaDrawH
import Derived.Test.YtnnlkkohbjolaaaEnd12
import Derived.Test.YtnnlkkohbjolaaaAt
import Derived.Test.YtnnlkkohbjolaaaSame
namespace Go.Proofs.Ytnnlkkohbjolaaa.macLaw
open Go.RowKit sl harn frm
set_option linter.unusedVariables false
theorem xor_u8 {p q : Nat} (hp : p < 256) (hq : q < 8) : bits .xor .u8 (p : Int) (2 ^ q % 256) = ((p ^^^ 2 ^ q : Nat) : Int) := by
  have hk2 : 2 ^ q ≤ 2 ^ 7 := Nat.pow_le_pow_right (by omega) (by omega)
  have e0 : ((2 : Int) ^ q) = ((2 ^ q : Nat) : Int) := by rw [Int.natCast_pow]; rfl
  rw [e0]
  generalize 2 ^ q = g at *
  rw [show (g : Int) % 256 = g by omega]
  have h3 : p ^^^ g < 2 ^ 8 := Nat.xor_lt_two_pow (by omega) (by omega)
  show IntKind.u8.wrap ((BitVec.ofInt 8 (p : Int) ^^^ BitVec.ofInt 8 (g : Int)).toNat : Int) = _
  rw [BitVec.toNat_xor]
  have e1 : (BitVec.ofInt 8 (p : Int)).toNat = p := by rw [BitVec.ofInt_natCast, BitVec.toNat_ofNat]; omega
  have e2 : (BitVec.ofInt 8 (g : Int)).toNat = g := by rw [BitVec.ofInt_natCast, BitVec.toNat_ofNat]; omega
  rw [e1, e2, IntKind.wrap_u8]
  omega
theorem ef_pos {x : Fm} (h : Vf x) : 0 < (ef x).length := by rw [ef_yes h, crcs.wc_len]; omega
theorem small_wf {k f t s g d : Int} (m r : Bool) (h : draw.Small k ∧ draw.Small f ∧ draw.Small t ∧ draw.Small s ∧ draw.Small g ∧ draw.Small d) : Wf .i64 (nums ⟨k, f, t, s, g, m, r, d, []⟩) := by
  obtain ⟨h1, h2, h3, h4, h5, h6⟩ := h
  unfold draw.Small at *
  exact wf7 m r (WalkArith.wf_i64 (by omega)) (WalkArith.wf_i64 (by omega)) (WalkArith.wf_i64 (by omega)) (WalkArith.wf_i64 (by omega)) (WalkArith.wf_i64 (by omega)) (WalkArith.wf_i64 (by omega))
set_option maxRecDepth 100000 in
set_option maxHeartbeats 4000000 in
theorem sameFr (k f t s g : Int) (m r : Bool) (d : Int) (A : Option Addr) (n cap : Nat) (A' : Option Addr) (n' cap' : Nat) (z : List Int) (lo hi lo2 hi2 : Nat) (w : World) (h : Rd .u8 w lo hi A n cap z) (h2 : Rd .u8 w lo2 hi2 A' n' cap' z) :
    Calls Try.prog 18 #[.agg #[.int .i64 k, .int .i64 f, .int .i64 t, .int .i64 s, .int .i64 g, .bool m, .bool r, .int .i64 d, .slice A n cap], .agg #[.int .i64 k, .int .i64 f, .int .i64 t, .int .i64 s, .int .i64 g, .bool m, .bool r, .int .i64 d, .slice A' n' cap']] w (fbx.BPost true w) := by
  have HR := Lib.hid (h.below (fbx.below_box2 w (.cells #[.int .i64 k, .int .i64 f, .int .i64 t, .int .i64 s, .int .i64 g, .bool m, .bool r, .int .i64 d, .slice A n cap] 25) (.cells #[.int .i64 k, .int .i64 f, .int .i64 t, .int .i64 s, .int .i64 g, .bool m, .bool r, .int .i64 d, .slice A' n' cap'] 25)))
  have HS := Lib.hid (h2.below (fbx.below_box2 w (.cells #[.int .i64 k, .int .i64 f, .int .i64 t, .int .i64 s, .int .i64 g, .bool m, .bool r, .int .i64 d, .slice A n cap] 25) (.cells #[.int .i64 k, .int .i64 f, .int .i64 t, .int .i64 s, .int .i64 g, .bool m, .bool r, .int .i64 d, .slice A' n' cap'] 25)))
  clear h h2
  go_enter Try.func18, Try.ntmps18
  go_wp2_with fail
  (with_reducible refine (harn.sameB_yes z _ _ _ _ A A' n cap n' cap' _ HR.out HS.out).mono ?_)
  rintro e w1 ⟨rfl, hb⟩
  have B1 := Lib.hid ((fbx.below_box2 w _ _).trans (hb.mono (by simp; omega)))
  clear hb
  go_wp2_with fail
  go_ret
  exact ⟨rfl, B1.out⟩
set_option maxRecDepth 100000 in
set_option maxHeartbeats 4000000 in
theorem walk (a : Option Addr) (len cap : Nat) (z0 : List Int) (w : World) (r0 : kit.IsRow .u8 w a len cap z0) :
    Calls Try.prog 3 #[.slice a len cap] w fun e w' => e = .returned (.bool true) ∧ Below w.heap.size w w' := by
  have HC := Lib.hid (draw.code_of_row r0)
  have hlen : (len : Int) ≤ 9223372036854775807 := by have := HC.out.1; omega
  obtain ⟨y0, hr0⟩ := Rd.of_row r0
  have RC := Lib.hid hr0
  have HLC := Lib.hid hr0.len
  clear r0 hr0
  by_cases hbig : 1048576 < (len : Int)
  · go_enter Try.func3, Try.ntmps3
    go_wp2
    go_ret
    exact ⟨rfl, Below.refl _ _⟩
  have LN := Lib.hid (show len ≤ 1048576 by omega)
  have B0 := Lib.hid (Below.refl w.heap.size w)
  go_enter Try.func3, Try.ntmps3
  go_wp2_with (go_at_call 11; go_in)
  clear hbig
  go_wp2_with fail
  (with_reducible refine (draw.drawEf _ a len cap HC.out).mono ?_)
  rintro e w1 ⟨k, f, t, s, g, m, r, d, A, n, c, z, rfl, hs, hn, ho, hb⟩
  have F2 := Lib.hid ho
  have HN := Lib.hid hn
  have HLZ := Lib.hid ho.len
  have HBZ := Lib.hid (show crcm.Byt z from ho.wf.u8)
  have WN := Lib.hid (show Wf .i64 (nums ⟨k, f, t, s, g, m, r, d, []⟩) from small_wf m r hs)
  clear ho hn hs
  have S4 := Lib.hid (hb.size)
  have B3 := Lib.hid (B0.out.trans (hb.mono B0.out.size))
  clear B0
  have F5 := Lib.hid (RC.out.below hb)
  clear RC
  clear hb
  obtain ⟨el, hel⟩ : ∃ el, ef ⟨k, f, t, s, g, m, r, d, z⟩ = el := ⟨_, rfl⟩
  have HEL := Lib.hid hel
  have HLE := Lib.hid (show el.length ≤ 144 by rw [← hel]; exact ef_len _)
  clear hel
  obtain ⟨V6, hV6⟩ : ∃ x, x = w1.alloc (.cells #[.int .i64 k, .int .i64 f, .int .i64 t, .int .i64 s, .int .i64 g, .bool m, .bool r, .int .i64 d, .slice A n c] 25) := ⟨_, rfl⟩
  have hbV6 : Below w1.heap.size w1 V6 := by rw [hV6]; exact fbx.below_box _ _
  have S7 := Lib.hid (show w1.heap.size + 1 ≤ V6.heap.size by rw [hV6]; simp)
  have S9 := Lib.hid (hbV6.size)
  have B8 := Lib.hid (B3.out.trans (hbV6.mono B3.out.size))
  clear B3
  have F10 := Lib.hid (F5.out.below hbV6)
  clear F5
  have F11 := Lib.hid (F2.out.below hbV6)
  clear F2
  have X12 := Lib.hid (show fbx.Bx 25 V6 w1.heap.size #[.int .i64 k, .int .i64 f, .int .i64 t, .int .i64 s, .int .i64 g, .bool m, .bool r, .int .i64 d, .slice A n c] by rw [hV6]; exact fbx.Bx.made _ _ _)
  clear hbV6
  go_wp2_with fail
  rw [← hV6]
  clear hV6 
  (with_reducible refine (draw.drawDf _ a len cap (draw.code_later HC.out B8.out)).mono ?_)
  rintro e w13 ⟨A2, n2, c2, zb, rfl, hn2, ho, hb⟩
  have F14 := Lib.hid ho
  have HN2 := Lib.hid hn2
  have HLB := Lib.hid ho.len
  have HBB := Lib.hid (show crcm.Byt zb from ho.wf.u8)
  clear ho hn2
  have S16 := Lib.hid (hb.size)
  have B15 := Lib.hid (B8.out.trans (hb.mono B8.out.size))
  clear B8
  have F17 := Lib.hid (F10.out.below hb)
  clear F10
  have F18 := Lib.hid (F11.out.below hb)
  clear F11
  have F19 := Lib.hid (X12.out.below hb)
  clear X12
  clear hb
  obtain ⟨⟨⟨y0_, y1_, y2_, y3_, y4_, y5_, y6_, y7_, yz⟩, fb⟩, ht⟩ : ∃ x, df zb = x := ⟨_, rfl⟩
  have HT2 := Lib.hid ht
  have HLY := Lib.hid (show yz.length ≤ 100 from df_len ht)
  clear ht
  have cc0_0 : w13.cell? ⟨w1.heap.size, 0, none⟩ = some (.int .i64 k) := F19.out.cell 0
  have cc0_1 : w13.cell? ⟨w1.heap.size, 1, none⟩ = some (.int .i64 f) := F19.out.cell 1
  have cc0_2 : w13.cell? ⟨w1.heap.size, 2, none⟩ = some (.int .i64 t) := F19.out.cell 2
  have cc0_3 : w13.cell? ⟨w1.heap.size, 3, none⟩ = some (.int .i64 s) := F19.out.cell 3
  have cc0_4 : w13.cell? ⟨w1.heap.size, 4, none⟩ = some (.int .i64 g) := F19.out.cell 4
  have cc0_5 : w13.cell? ⟨w1.heap.size, 5, none⟩ = some (.bool m) := F19.out.cell 5
  have cc0_6 : w13.cell? ⟨w1.heap.size, 6, none⟩ = some (.bool r) := F19.out.cell 6
  have cc0_7 : w13.cell? ⟨w1.heap.size, 7, none⟩ = some (.int .i64 d) := F19.out.cell 7
  have cc0_8 : w13.cell? ⟨w1.heap.size, 8, none⟩ = some (.slice A n c) := F19.out.cell 8
  go_wp2_with fail
  clear cc0_0 cc0_1 cc0_2 cc0_3 cc0_4 cc0_5 cc0_6 cc0_7 cc0_8
  (with_reducible refine (fbx.implEf k f t s g m r d A n c z _ _ _ F18.out.rd (by have l1 := F18.out.len; have q1 := HN.out; have q11 := HLZ.out; omega)).mono ?_)
  rw [HEL.out]
  rintro e w23 ⟨A20, m21, c22, rfl, ho, hb⟩
  have F24 := Lib.hid ho
  clear ho
  have S26 := Lib.hid (hb.size)
  have B25 := Lib.hid (B15.out.trans (hb.mono B15.out.size))
  clear B15
  have F27 := Lib.hid (F17.out.below hb)
  clear F17
  have F28 := Lib.hid (F18.out.below hb)
  clear F18
  have F29 := Lib.hid (F19.out.below hb)
  clear F19
  have F30 := Lib.hid (F14.out.below hb)
  clear F14
  clear hb
  by_cases hv : Vf ⟨k, f, t, s, g, m, r, d, z⟩
  · have HVF := Lib.hid hv
    have HV := Lib.hid (decide_eq_true hv)
    have HT1 := Lib.hid (show df el = (⟨k, f, t, s, g, m, r, d, z⟩, true) by rw [← HEL.out]; exact df_ef hv)
    clear hv
    go_wp2_with fail
    (with_reducible refine (fbx.implDf el _ _ A20 m21 c22 _ F24.out.rd (by have l1 := F24.out.len; have q3 := HLE.out; omega)).mono ?_)
    rintro e w34 hpost
    obtain ⟨A31, m32, c33, rfl, ho, hb⟩ := fbx.DPost.parts HT1.out hpost
    have F35 := Lib.hid ho
    clear ho hpost
    have S37 := Lib.hid (hb.size)
    have B36 := Lib.hid (B25.out.trans (hb.mono B25.out.size))
    clear B25
    have F38 := Lib.hid (F27.out.below hb)
    clear F27
    have F39 := Lib.hid (F28.out.below hb)
    clear F28
    have F40 := Lib.hid (F29.out.below hb)
    clear F29
    have F41 := Lib.hid (F30.out.below hb)
    clear F30
    have F42 := Lib.hid (F24.out.below hb)
    clear F24
    clear hb
    obtain ⟨V43, hV43⟩ : ∃ x, x = w34.alloc (.cells #[.int .i64 k, .int .i64 f, .int .i64 t, .int .i64 s, .int .i64 g, .bool m, .bool r, .int .i64 d, .slice A31 m32 c33] 25) := ⟨_, rfl⟩
    have hbV43 : Below w34.heap.size w34 V43 := by rw [hV43]; exact fbx.below_box _ _
    have S44 := Lib.hid (show w34.heap.size + 1 ≤ V43.heap.size by rw [hV43]; simp)
    have S46 := Lib.hid (hbV43.size)
    have B45 := Lib.hid (B36.out.trans (hbV43.mono B36.out.size))
    clear B36
    have F47 := Lib.hid (F38.out.below hbV43)
    clear F38
    have F48 := Lib.hid (F39.out.below hbV43)
    clear F39
    have F49 := Lib.hid (F40.out.below hbV43)
    clear F40
    have F50 := Lib.hid (F41.out.below hbV43)
    clear F41
    have F51 := Lib.hid (F42.out.below hbV43)
    clear F42
    have F52 := Lib.hid (F35.out.below hbV43)
    clear F35
    have X53 := Lib.hid (show fbx.Bx 25 V43 w34.heap.size #[.int .i64 k, .int .i64 f, .int .i64 t, .int .i64 s, .int .i64 g, .bool m, .bool r, .int .i64 d, .slice A31 m32 c33] by rw [hV43]; exact fbx.Bx.made _ _ _)
    clear hbV43
    go_wp2_with fail
    rw [← hV43]
    clear hV43 
    (with_reducible refine (fbx.implDf zb _ _ A2 n2 c2 _ F50.out.rd (by have l1 := F50.out.len; have q2 := HN2.out; have q22 := HLB.out; omega)).mono ?_)
    rintro e w57 hpost
    obtain ⟨A54, m55, c56, rfl, ho, hb⟩ := fbx.DPost.parts HT2.out hpost
    have F58 := Lib.hid ho
    clear ho hpost
    have S60 := Lib.hid (hb.size)
    have B59 := Lib.hid (B45.out.trans (hb.mono B45.out.size))
    clear B45
    have F61 := Lib.hid (F47.out.below hb)
    clear F47
    have F62 := Lib.hid (F48.out.below hb)
    clear F48
    have F63 := Lib.hid (F49.out.below hb)
    clear F49
    have F64 := Lib.hid (F50.out.below hb)
    clear F50
    have F65 := Lib.hid (F51.out.below hb)
    clear F51
    have F66 := Lib.hid (F52.out.below hb)
    clear F52
    have F67 := Lib.hid (X53.out.below hb)
    clear X53
    clear hb
    obtain ⟨V68, hV68⟩ : ∃ x, x = w57.alloc (.cells #[.int .i64 y0_, .int .i64 y1_, .int .i64 y2_, .int .i64 y3_, .int .i64 y4_, .bool y5_, .bool y6_, .int .i64 y7_, .slice A54 m55 c56] 25) := ⟨_, rfl⟩
    have hbV68 : Below w57.heap.size w57 V68 := by rw [hV68]; exact fbx.below_box _ _
    have S69 := Lib.hid (show w57.heap.size + 1 ≤ V68.heap.size by rw [hV68]; simp)
    have S71 := Lib.hid (hbV68.size)
    have B70 := Lib.hid (B59.out.trans (hbV68.mono B59.out.size))
    clear B59
    have F72 := Lib.hid (F61.out.below hbV68)
    clear F61
    have F73 := Lib.hid (F62.out.below hbV68)
    clear F62
    have F74 := Lib.hid (F63.out.below hbV68)
    clear F63
    have F75 := Lib.hid (F64.out.below hbV68)
    clear F64
    have F76 := Lib.hid (F65.out.below hbV68)
    clear F65
    have F77 := Lib.hid (F66.out.below hbV68)
    clear F66
    have F78 := Lib.hid (F67.out.below hbV68)
    clear F67
    have F79 := Lib.hid (F58.out.below hbV68)
    clear F58
    have X80 := Lib.hid (show fbx.Bx 25 V68 w57.heap.size #[.int .i64 y0_, .int .i64 y1_, .int .i64 y2_, .int .i64 y3_, .int .i64 y4_, .bool y5_, .bool y6_, .int .i64 y7_, .slice A54 m55 c56] by rw [hV68]; exact fbx.Bx.made _ _ _)
    clear hbV68
    go_wp2_with fail
    rw [← hV68]
    clear hV68 
    (with_reducible refine (fbx.specDf zb _ _ A2 n2 c2 _ F75.out.rd (by have l1 := F75.out.len; have q2 := HN2.out; have q22 := HLB.out; omega)).mono ?_)
    rintro e w84 hpost
    obtain ⟨A81, m82, c83, rfl, ho, hb⟩ := fbx.DPost.parts HT2.out hpost
    have F85 := Lib.hid ho
    clear ho hpost
    have S87 := Lib.hid (hb.size)
    have B86 := Lib.hid (B70.out.trans (hb.mono B70.out.size))
    clear B70
    have F88 := Lib.hid (F72.out.below hb)
    clear F72
    have F89 := Lib.hid (F73.out.below hb)
    clear F73
    have F90 := Lib.hid (F74.out.below hb)
    clear F74
    have F91 := Lib.hid (F75.out.below hb)
    clear F75
    have F92 := Lib.hid (F76.out.below hb)
    clear F76
    have F93 := Lib.hid (F77.out.below hb)
    clear F77
    have F94 := Lib.hid (F78.out.below hb)
    clear F78
    have F95 := Lib.hid (F79.out.below hb)
    clear F79
    have F96 := Lib.hid (X80.out.below hb)
    clear X80
    clear hb
    obtain ⟨V97, hV97⟩ : ∃ x, x = w84.alloc (.cells #[.int .i64 y0_, .int .i64 y1_, .int .i64 y2_, .int .i64 y3_, .int .i64 y4_, .bool y5_, .bool y6_, .int .i64 y7_, .slice A81 m82 c83] 25) := ⟨_, rfl⟩
    have hbV97 : Below w84.heap.size w84 V97 := by rw [hV97]; exact fbx.below_box _ _
    have S98 := Lib.hid (show w84.heap.size + 1 ≤ V97.heap.size by rw [hV97]; simp)
    have S100 := Lib.hid (hbV97.size)
    have B99 := Lib.hid (B86.out.trans (hbV97.mono B86.out.size))
    clear B86
    have F101 := Lib.hid (F88.out.below hbV97)
    clear F88
    have F102 := Lib.hid (F89.out.below hbV97)
    clear F89
    have F103 := Lib.hid (F90.out.below hbV97)
    clear F90
    have F104 := Lib.hid (F91.out.below hbV97)
    clear F91
    have F105 := Lib.hid (F92.out.below hbV97)
    clear F92
    have F106 := Lib.hid (F93.out.below hbV97)
    clear F93
    have F107 := Lib.hid (F94.out.below hbV97)
    clear F94
    have F108 := Lib.hid (F95.out.below hbV97)
    clear F95
    have F109 := Lib.hid (F96.out.below hbV97)
    clear F96
    have F110 := Lib.hid (F85.out.below hbV97)
    clear F85
    have X111 := Lib.hid (show fbx.Bx 25 V97 w84.heap.size #[.int .i64 y0_, .int .i64 y1_, .int .i64 y2_, .int .i64 y3_, .int .i64 y4_, .bool y5_, .bool y6_, .int .i64 y7_, .slice A81 m82 c83] by rw [hV97]; exact fbx.Bx.made _ _ _)
    clear hbV97
    have cc0_0 : (w84.alloc (.cells #[.int .i64 y0_, .int .i64 y1_, .int .i64 y2_, .int .i64 y3_, .int .i64 y4_, .bool y5_, .bool y6_, .int .i64 y7_, .slice A81 m82 c83] 25)).cell? ⟨w1.heap.size, 0, none⟩ = some (.int .i64 k) := by rw [← hV97]; exact F103.out.cell 0
    have cc0_1 : (w84.alloc (.cells #[.int .i64 y0_, .int .i64 y1_, .int .i64 y2_, .int .i64 y3_, .int .i64 y4_, .bool y5_, .bool y6_, .int .i64 y7_, .slice A81 m82 c83] 25)).cell? ⟨w1.heap.size, 1, none⟩ = some (.int .i64 f) := by rw [← hV97]; exact F103.out.cell 1
    have cc0_2 : (w84.alloc (.cells #[.int .i64 y0_, .int .i64 y1_, .int .i64 y2_, .int .i64 y3_, .int .i64 y4_, .bool y5_, .bool y6_, .int .i64 y7_, .slice A81 m82 c83] 25)).cell? ⟨w1.heap.size, 2, none⟩ = some (.int .i64 t) := by rw [← hV97]; exact F103.out.cell 2
    have cc0_3 : (w84.alloc (.cells #[.int .i64 y0_, .int .i64 y1_, .int .i64 y2_, .int .i64 y3_, .int .i64 y4_, .bool y5_, .bool y6_, .int .i64 y7_, .slice A81 m82 c83] 25)).cell? ⟨w1.heap.size, 3, none⟩ = some (.int .i64 s) := by rw [← hV97]; exact F103.out.cell 3
    have cc0_4 : (w84.alloc (.cells #[.int .i64 y0_, .int .i64 y1_, .int .i64 y2_, .int .i64 y3_, .int .i64 y4_, .bool y5_, .bool y6_, .int .i64 y7_, .slice A81 m82 c83] 25)).cell? ⟨w1.heap.size, 4, none⟩ = some (.int .i64 g) := by rw [← hV97]; exact F103.out.cell 4
    have cc0_5 : (w84.alloc (.cells #[.int .i64 y0_, .int .i64 y1_, .int .i64 y2_, .int .i64 y3_, .int .i64 y4_, .bool y5_, .bool y6_, .int .i64 y7_, .slice A81 m82 c83] 25)).cell? ⟨w1.heap.size, 5, none⟩ = some (.bool m) := by rw [← hV97]; exact F103.out.cell 5
    have cc0_6 : (w84.alloc (.cells #[.int .i64 y0_, .int .i64 y1_, .int .i64 y2_, .int .i64 y3_, .int .i64 y4_, .bool y5_, .bool y6_, .int .i64 y7_, .slice A81 m82 c83] 25)).cell? ⟨w1.heap.size, 6, none⟩ = some (.bool r) := by rw [← hV97]; exact F103.out.cell 6
    have cc0_7 : (w84.alloc (.cells #[.int .i64 y0_, .int .i64 y1_, .int .i64 y2_, .int .i64 y3_, .int .i64 y4_, .bool y5_, .bool y6_, .int .i64 y7_, .slice A81 m82 c83] 25)).cell? ⟨w1.heap.size, 7, none⟩ = some (.int .i64 d) := by rw [← hV97]; exact F103.out.cell 7
    have cc0_8 : (w84.alloc (.cells #[.int .i64 y0_, .int .i64 y1_, .int .i64 y2_, .int .i64 y3_, .int .i64 y4_, .bool y5_, .bool y6_, .int .i64 y7_, .slice A81 m82 c83] 25)).cell? ⟨w1.heap.size, 8, none⟩ = some (.slice A n c) := by rw [← hV97]; exact F103.out.cell 8
    go_wp2_with fail
    rw [← hV97]
    clear hV97 cc0_0 cc0_1 cc0_2 cc0_3 cc0_4 cc0_5 cc0_6 cc0_7 cc0_8
    clear X111
    clear F110
    (with_reducible refine (fbx.specVf k f t s g m r d A n c z (by have h1 := F102.out.len; exact h1) _).mono ?_)
    rw [HV.out]
    rintro e w112 ⟨rfl, hb⟩
    have S114 := Lib.hid (hb.size)
    have B113 := Lib.hid (B99.out.trans (hb.mono B99.out.size))
    clear B99
    have F115 := Lib.hid (F101.out.below hb)
    clear F101
    have F116 := Lib.hid (F102.out.below hb)
    clear F102
    have F117 := Lib.hid (F103.out.below hb)
    clear F103
    have F118 := Lib.hid (F104.out.below hb)
    clear F104
    have F119 := Lib.hid (F105.out.below hb)
    clear F105
    have F120 := Lib.hid (F106.out.below hb)
    clear F106
    have F121 := Lib.hid (F107.out.below hb)
    clear F107
    have F122 := Lib.hid (F108.out.below hb)
    clear F108
    have F123 := Lib.hid (F109.out.below hb)
    clear F109
    clear hb
    have cc0_0 : w112.cell? ⟨w34.heap.size, 0, none⟩ = some (.int .i64 k) := F121.out.cell 0
    have cc0_1 : w112.cell? ⟨w34.heap.size, 1, none⟩ = some (.int .i64 f) := F121.out.cell 1
    have cc0_2 : w112.cell? ⟨w34.heap.size, 2, none⟩ = some (.int .i64 t) := F121.out.cell 2
    have cc0_3 : w112.cell? ⟨w34.heap.size, 3, none⟩ = some (.int .i64 s) := F121.out.cell 3
    have cc0_4 : w112.cell? ⟨w34.heap.size, 4, none⟩ = some (.int .i64 g) := F121.out.cell 4
    have cc0_5 : w112.cell? ⟨w34.heap.size, 5, none⟩ = some (.bool m) := F121.out.cell 5
    have cc0_6 : w112.cell? ⟨w34.heap.size, 6, none⟩ = some (.bool r) := F121.out.cell 6
    have cc0_7 : w112.cell? ⟨w34.heap.size, 7, none⟩ = some (.int .i64 d) := F121.out.cell 7
    have cc0_8 : w112.cell? ⟨w34.heap.size, 8, none⟩ = some (.slice A31 m32 c33) := F121.out.cell 8
    have cc1_0 : w112.cell? ⟨w1.heap.size, 0, none⟩ = some (.int .i64 k) := F117.out.cell 0
    have cc1_1 : w112.cell? ⟨w1.heap.size, 1, none⟩ = some (.int .i64 f) := F117.out.cell 1
    have cc1_2 : w112.cell? ⟨w1.heap.size, 2, none⟩ = some (.int .i64 t) := F117.out.cell 2
    have cc1_3 : w112.cell? ⟨w1.heap.size, 3, none⟩ = some (.int .i64 s) := F117.out.cell 3
    have cc1_4 : w112.cell? ⟨w1.heap.size, 4, none⟩ = some (.int .i64 g) := F117.out.cell 4
    have cc1_5 : w112.cell? ⟨w1.heap.size, 5, none⟩ = some (.bool m) := F117.out.cell 5
    have cc1_6 : w112.cell? ⟨w1.heap.size, 6, none⟩ = some (.bool r) := F117.out.cell 6
    have cc1_7 : w112.cell? ⟨w1.heap.size, 7, none⟩ = some (.int .i64 d) := F117.out.cell 7
    have cc1_8 : w112.cell? ⟨w1.heap.size, 8, none⟩ = some (.slice A n c) := F117.out.cell 8
    go_wp2_with fail
    clear cc0_0 cc0_1 cc0_2 cc0_3 cc0_4 cc0_5 cc0_6 cc0_7 cc0_8 cc1_0 cc1_1 cc1_2 cc1_3 cc1_4 cc1_5 cc1_6 cc1_7 cc1_8
    (with_reducible refine (sameFr k f t s g m r d A31 m32 c33 A n c z _ _ _ _ _ F120.out.rd F116.out.rd).mono ?_)
    rintro e w124 ⟨rfl, hb⟩
    have S126 := Lib.hid (hb.size)
    have B125 := Lib.hid (B113.out.trans (hb.mono B113.out.size))
    clear B113
    have F127 := Lib.hid (F115.out.below hb)
    clear F115
    have F128 := Lib.hid (F116.out.below hb)
    clear F116
    have F129 := Lib.hid (F117.out.below hb)
    clear F117
    have F130 := Lib.hid (F118.out.below hb)
    clear F118
    have F131 := Lib.hid (F119.out.below hb)
    clear F119
    have F132 := Lib.hid (F120.out.below hb)
    clear F120
    have F133 := Lib.hid (F121.out.below hb)
    clear F121
    have F134 := Lib.hid (F122.out.below hb)
    clear F122
    have F135 := Lib.hid (F123.out.below hb)
    clear F123
    clear hb
    cases fb with
    | true =>
      have HEY := Lib.hid (df_ok HBB.out HT2.out).2
      have cc0_0 : w124.cell? ⟨w57.heap.size, 0, none⟩ = some (.int .i64 y0_) := F135.out.cell 0
      have cc0_1 : w124.cell? ⟨w57.heap.size, 1, none⟩ = some (.int .i64 y1_) := F135.out.cell 1
      have cc0_2 : w124.cell? ⟨w57.heap.size, 2, none⟩ = some (.int .i64 y2_) := F135.out.cell 2
      have cc0_3 : w124.cell? ⟨w57.heap.size, 3, none⟩ = some (.int .i64 y3_) := F135.out.cell 3
      have cc0_4 : w124.cell? ⟨w57.heap.size, 4, none⟩ = some (.int .i64 y4_) := F135.out.cell 4
      have cc0_5 : w124.cell? ⟨w57.heap.size, 5, none⟩ = some (.bool y5_) := F135.out.cell 5
      have cc0_6 : w124.cell? ⟨w57.heap.size, 6, none⟩ = some (.bool y6_) := F135.out.cell 6
      have cc0_7 : w124.cell? ⟨w57.heap.size, 7, none⟩ = some (.int .i64 y7_) := F135.out.cell 7
      have cc0_8 : w124.cell? ⟨w57.heap.size, 8, none⟩ = some (.slice A54 m55 c56) := F135.out.cell 8
      go_wp2_with fail
      clear cc0_0 cc0_1 cc0_2 cc0_3 cc0_4 cc0_5 cc0_6 cc0_7 cc0_8
      (with_reducible refine (fbx.implEf y0_ y1_ y2_ y3_ y4_ y5_ y6_ y7_ A54 m55 c56 yz _ _ _ F134.out.rd (by have l1 := F134.out.len; have q4 := HLY.out; omega)).mono ?_)
      rw [HEY.out]
      rintro e w139 ⟨A136, m137, c138, rfl, ho, hb⟩
      have F140 := Lib.hid ho
      clear ho
      have S142 := Lib.hid (hb.size)
      have B141 := Lib.hid (B125.out.trans (hb.mono B125.out.size))
      clear B125
      have F143 := Lib.hid (F127.out.below hb)
      clear F127
      have F144 := Lib.hid (F128.out.below hb)
      clear F128
      have F145 := Lib.hid (F129.out.below hb)
      clear F129
      have F146 := Lib.hid (F130.out.below hb)
      clear F130
      have F147 := Lib.hid (F131.out.below hb)
      clear F131
      have F148 := Lib.hid (F132.out.below hb)
      clear F132
      have F149 := Lib.hid (F133.out.below hb)
      clear F133
      have F150 := Lib.hid (F134.out.below hb)
      clear F134
      have F151 := Lib.hid (F135.out.below hb)
      clear F135
      clear hb
      go_wp2_with fail
      (with_reducible refine (harn.sameB_yes zb _ _ _ _ A136 A2 m137 c138 n2 c2 _ F140.out.rd F146.out.rd).mono ?_)
      rintro e w152 ⟨rfl, hb⟩
      have S154 := Lib.hid (hb.size)
      have B153 := Lib.hid (B141.out.trans (hb.mono B141.out.size))
      clear B141
      have F155 := Lib.hid (F143.out.below hb)
      clear F143
      have F156 := Lib.hid (F144.out.below hb)
      clear F144
      have F157 := Lib.hid (F145.out.below hb)
      clear F145
      have F158 := Lib.hid (F146.out.below hb)
      clear F146
      have F159 := Lib.hid (F147.out.below hb)
      clear F147
      have F160 := Lib.hid (F148.out.below hb)
      clear F148
      have F161 := Lib.hid (F149.out.below hb)
      clear F149
      have F162 := Lib.hid (F150.out.below hb)
      clear F150
      have F163 := Lib.hid (F151.out.below hb)
      clear F151
      have F164 := Lib.hid (F140.out.below hb)
      clear F140
      clear hb
      clear F164
      go_wp2_with fail
      (with_reducible refine (lawAt.at_ 0 (by omega) (by omega) a len cap _ _ y0 _ F155.out LN.out).mono ?_)
      rintro e wq ⟨p0, rfl, hp0, hp0', rfl⟩
      have HENN := Lib.hid (show m21 = el.length from F159.out.len.symm)
      have hpos : 0 < m21 := by rw [HENN.out, ← HEL.out]; exact ef_pos HVF.out
      have hle : m21 ≤ 144 := by have := HLE.out; have := HENN.out; omega
      obtain ⟨i, hi⟩ := Int.eq_ofNat_of_zero_le (Int.emod_nonneg p0 (show 8 * (m21 : Int) ≠ 0 by omega))
      have hi8 : i / 8 < m21 := by have := Int.emod_lt_of_pos p0 (show 0 < 8 * (m21 : Int) by omega); omega
      have hti : p0.tmod (8 * (m21 : Int)) = i := by rw [Int.tmod_eq_emod_of_nonneg hp0]; exact hi
      have ew : IntKind.i64.wrap (8 * (m21 : Int)) = 8 * (m21 : Int) := IntWalk.i64_in _ (by omega)
      have ez : ((8 * (m21 : Int)) == 0) = false := by simp; omega
      clear hp0 hp0' hi
      obtain ⟨eb, rfl, hbl⟩ := own.own_some F159.out hpos
      have HBL := Lib.hid hbl
      have HBH := Lib.hid (show eb < w23.heap.size from F159.out.2.2.2 eb 0 rfl)
      clear hbl
      have hcell := own.cell_of F159.out hi8
      have hfree := F159.out.free rfl (i / 8)
      have HEB := Lib.hid (show crcm.Byt el by rw [← HEL.out]; exact ef_byt HBZ.out)
      have hx := byt_at HEB.out (i / 8)
      obtain ⟨x, hxe⟩ : ∃ x, el.getD (i / 8) 0 = x := ⟨_, rfl⟩
      have HBIT := Lib.hid (show df (el.set (i / 8) (inv x (i % 8))) = (⟨0, 0, 0, 0, 0, false, false, 0, []⟩, false) by
        have h1 := df_bit (x := ⟨k, f, t, s, g, m, r, d, z⟩) HVF.out HBZ.out (j := i / 8) (q := i % 8) (by rw [HEL.out, ← HENN.out]; exact hi8) (by omega)
        rw [HEL.out, hxe] at h1; exact h1)
      rw [hxe] at hcell hx
      obtain ⟨mq, rfl⟩ := Int.eq_ofNat_of_zero_le hx.1
      have hxor := xor_u8 (p := mq) (q := i % 8) (by omega) (by omega)
      have HVI := Lib.hid (inv_in hx (q := i % 8) (by omega))
      rw [show ((mq ^^^ 2 ^ (i % 8) : Nat) : Int) = inv mq (i % 8) by rw [inv, Int.toNat_natCast]] at hxor
      obtain ⟨v, hv⟩ : ∃ v, inv mq (i % 8) = v := ⟨_, rfl⟩
      rw [hv] at hxor HVI HBIT
      have e1 : (i : Int) / 8 < m21 := by omega
      clear hxe hv hx hpos
      go_wp2
      go_region
      obtain ⟨w165, hw7⟩ : ∃ W, (w152.setCell ⟨eb, i / 8, none⟩ (.int .u8 v)).drew = W := ⟨_, rfl⟩
      rw [hw7]
      have ht : Tch w13.heap.size w23.heap.size w152 w165 := by rw [← hw7]; exact ⟨rfl, rfl, rfl, by simp [World.drew, World.setCell], fun q hq hd => Below.heap_setCell _ _ _ _ (by show q ≠ eb; have h1 := HBL.out; have h2 := HBH.out; omega)⟩
      have F166 := Lib.hid (show Ow 5 .u8 w165 w13.heap.size w23.heap.size (some ⟨eb, 0, none⟩) m21 c22 (el.set (i / 8) v) by rw [← hw7]; exact (own.ow_set F159.out (i / 8) v (WalkArith.wf_u8 (by have := HVI.out; omega))).same (Nat.le_refl _) fun _ _ _ => rfl)
      have HL2 := Lib.hid (show (el.set (i / 8) v).length ≤ 144 by rw [List.length_set]; exact HLE.out)
      clear hw7
      have S168 := Lib.hid (ht.size)
      have B167 := Lib.hid (B153.out.trans (ht.below (by have s0 := S4.out; have s1 := S7.out; have s2 := S9.out; have s3 := S16.out; have s4 := S26.out; have s5 := S37.out; have s6 := S44.out; have s7 := S46.out; have s8 := S60.out; have s9 := S69.out; have s10 := S71.out; have s11 := S87.out; have s12 := S98.out; have s13 := S100.out; have s14 := S114.out; have s15 := S126.out; have s16 := S142.out; have s17 := S154.out; omega) B153.out.size))
      clear B153
      have F169 := Lib.hid (F155.out.tch ht (by have s0 := S4.out; have s1 := S7.out; have s2 := S9.out; have s3 := S16.out; have s4 := S26.out; have s5 := S37.out; have s6 := S44.out; have s7 := S46.out; have s8 := S60.out; have s9 := S69.out; have s10 := S71.out; have s11 := S87.out; have s12 := S98.out; have s13 := S100.out; have s14 := S114.out; have s15 := S126.out; have s16 := S142.out; have s17 := S154.out; have s18 := S168.out; omega))
      clear F155
      have F170 := Lib.hid (F156.out.tch ht (by have s0 := S4.out; have s1 := S7.out; have s2 := S9.out; have s3 := S16.out; have s4 := S26.out; have s5 := S37.out; have s6 := S44.out; have s7 := S46.out; have s8 := S60.out; have s9 := S69.out; have s10 := S71.out; have s11 := S87.out; have s12 := S98.out; have s13 := S100.out; have s14 := S114.out; have s15 := S126.out; have s16 := S142.out; have s17 := S154.out; have s18 := S168.out; omega))
      clear F156
      have F171 := Lib.hid (F157.out.tch ht (by have s0 := S4.out; have s1 := S7.out; have s2 := S9.out; have s3 := S16.out; have s4 := S26.out; have s5 := S37.out; have s6 := S44.out; have s7 := S46.out; have s8 := S60.out; have s9 := S69.out; have s10 := S71.out; have s11 := S87.out; have s12 := S98.out; have s13 := S100.out; have s14 := S114.out; have s15 := S126.out; have s16 := S142.out; have s17 := S154.out; have s18 := S168.out; omega))
      clear F157
      have F172 := Lib.hid (F158.out.tch ht (by have s0 := S4.out; have s1 := S7.out; have s2 := S9.out; have s3 := S16.out; have s4 := S26.out; have s5 := S37.out; have s6 := S44.out; have s7 := S46.out; have s8 := S60.out; have s9 := S69.out; have s10 := S71.out; have s11 := S87.out; have s12 := S98.out; have s13 := S100.out; have s14 := S114.out; have s15 := S126.out; have s16 := S142.out; have s17 := S154.out; have s18 := S168.out; omega))
      clear F158
      have F173 := Lib.hid (F160.out.tch ht (by have s0 := S4.out; have s1 := S7.out; have s2 := S9.out; have s3 := S16.out; have s4 := S26.out; have s5 := S37.out; have s6 := S44.out; have s7 := S46.out; have s8 := S60.out; have s9 := S69.out; have s10 := S71.out; have s11 := S87.out; have s12 := S98.out; have s13 := S100.out; have s14 := S114.out; have s15 := S126.out; have s16 := S142.out; have s17 := S154.out; have s18 := S168.out; omega))
      clear F160
      have F174 := Lib.hid (F161.out.tch ht (by have s0 := S4.out; have s1 := S7.out; have s2 := S9.out; have s3 := S16.out; have s4 := S26.out; have s5 := S37.out; have s6 := S44.out; have s7 := S46.out; have s8 := S60.out; have s9 := S69.out; have s10 := S71.out; have s11 := S87.out; have s12 := S98.out; have s13 := S100.out; have s14 := S114.out; have s15 := S126.out; have s16 := S142.out; have s17 := S154.out; have s18 := S168.out; omega))
      clear F161
      have F175 := Lib.hid (F162.out.tch ht (by have s0 := S4.out; have s1 := S7.out; have s2 := S9.out; have s3 := S16.out; have s4 := S26.out; have s5 := S37.out; have s6 := S44.out; have s7 := S46.out; have s8 := S60.out; have s9 := S69.out; have s10 := S71.out; have s11 := S87.out; have s12 := S98.out; have s13 := S100.out; have s14 := S114.out; have s15 := S126.out; have s16 := S142.out; have s17 := S154.out; have s18 := S168.out; omega))
      clear F162
      have F176 := Lib.hid (F163.out.tch ht (by have s0 := S4.out; have s1 := S7.out; have s2 := S9.out; have s3 := S16.out; have s4 := S26.out; have s5 := S37.out; have s6 := S44.out; have s7 := S46.out; have s8 := S60.out; have s9 := S69.out; have s10 := S71.out; have s11 := S87.out; have s12 := S98.out; have s13 := S100.out; have s14 := S114.out; have s15 := S126.out; have s16 := S142.out; have s17 := S154.out; have s18 := S168.out; omega))
      clear F163
      clear ht
      clear F159
      obtain ⟨e2, he2⟩ : ∃ e2, el.set (i / 8) v = e2 := ⟨_, rfl⟩
      rw [he2] at F166 HBIT HL2
      clear he2 hcell hfree hxor e1 hti ew ez
      go_wp2_with fail
      (with_reducible refine (fbx.implDf e2 _ _ (some ⟨eb, 0, none⟩) m21 c22 _ F166.out.rd (by have l1 := F166.out.len; have q3 := HL2.out; omega)).mono ?_)
      rintro e w180 hpost
      obtain ⟨A177, m178, c179, rfl, ho, hb⟩ := fbx.DPost.parts HBIT.out hpost
      have F181 := Lib.hid ho
      clear ho hpost
      have S183 := Lib.hid (hb.size)
      have B182 := Lib.hid (B167.out.trans (hb.mono B167.out.size))
      clear B167
      have F184 := Lib.hid (F169.out.below hb)
      clear F169
      have F185 := Lib.hid (F170.out.below hb)
      clear F170
      have F186 := Lib.hid (F171.out.below hb)
      clear F171
      have F187 := Lib.hid (F172.out.below hb)
      clear F172
      have F188 := Lib.hid (F166.out.below hb)
      clear F166
      have F189 := Lib.hid (F173.out.below hb)
      clear F173
      have F190 := Lib.hid (F174.out.below hb)
      clear F174
      have F191 := Lib.hid (F175.out.below hb)
      clear F175
      have F192 := Lib.hid (F176.out.below hb)
      clear F176
      clear hb
      obtain ⟨V193, hV193⟩ : ∃ x, x = w180.alloc (.cells #[.int .i64 0, .int .i64 0, .int .i64 0, .int .i64 0, .int .i64 0, .bool false, .bool false, .int .i64 0, .slice A177 m178 c179] 25) := ⟨_, rfl⟩
      have hbV193 : Below w180.heap.size w180 V193 := by rw [hV193]; exact fbx.below_box _ _
      have S194 := Lib.hid (show w180.heap.size + 1 ≤ V193.heap.size by rw [hV193]; simp)
      have S196 := Lib.hid (hbV193.size)
      have B195 := Lib.hid (B182.out.trans (hbV193.mono B182.out.size))
      clear B182
      have F197 := Lib.hid (F184.out.below hbV193)
      clear F184
      have F198 := Lib.hid (F185.out.below hbV193)
      clear F185
      have F199 := Lib.hid (F186.out.below hbV193)
      clear F186
      have F200 := Lib.hid (F187.out.below hbV193)
      clear F187
      have F201 := Lib.hid (F188.out.below hbV193)
      clear F188
      have F202 := Lib.hid (F189.out.below hbV193)
      clear F189
      have F203 := Lib.hid (F190.out.below hbV193)
      clear F190
      have F204 := Lib.hid (F191.out.below hbV193)
      clear F191
      have F205 := Lib.hid (F192.out.below hbV193)
      clear F192
      have F206 := Lib.hid (F181.out.below hbV193)
      clear F181
      have X207 := Lib.hid (show fbx.Bx 25 V193 w180.heap.size #[.int .i64 0, .int .i64 0, .int .i64 0, .int .i64 0, .int .i64 0, .bool false, .bool false, .int .i64 0, .slice A177 m178 c179] by rw [hV193]; exact fbx.Bx.made _ _ _)
      clear hbV193
      have cc0_0 : (w180.alloc (.cells #[.int .i64 0, .int .i64 0, .int .i64 0, .int .i64 0, .int .i64 0, .bool false, .bool false, .int .i64 0, .slice A177 m178 c179] 25)).cell? ⟨w34.heap.size, 0, none⟩ = some (.int .i64 k) := by rw [← hV193]; exact F203.out.cell 0
      have cc0_1 : (w180.alloc (.cells #[.int .i64 0, .int .i64 0, .int .i64 0, .int .i64 0, .int .i64 0, .bool false, .bool false, .int .i64 0, .slice A177 m178 c179] 25)).cell? ⟨w34.heap.size, 1, none⟩ = some (.int .i64 f) := by rw [← hV193]; exact F203.out.cell 1
      have cc0_2 : (w180.alloc (.cells #[.int .i64 0, .int .i64 0, .int .i64 0, .int .i64 0, .int .i64 0, .bool false, .bool false, .int .i64 0, .slice A177 m178 c179] 25)).cell? ⟨w34.heap.size, 2, none⟩ = some (.int .i64 t) := by rw [← hV193]; exact F203.out.cell 2
      have cc0_3 : (w180.alloc (.cells #[.int .i64 0, .int .i64 0, .int .i64 0, .int .i64 0, .int .i64 0, .bool false, .bool false, .int .i64 0, .slice A177 m178 c179] 25)).cell? ⟨w34.heap.size, 3, none⟩ = some (.int .i64 s) := by rw [← hV193]; exact F203.out.cell 3
      have cc0_4 : (w180.alloc (.cells #[.int .i64 0, .int .i64 0, .int .i64 0, .int .i64 0, .int .i64 0, .bool false, .bool false, .int .i64 0, .slice A177 m178 c179] 25)).cell? ⟨w34.heap.size, 4, none⟩ = some (.int .i64 g) := by rw [← hV193]; exact F203.out.cell 4
      have cc0_5 : (w180.alloc (.cells #[.int .i64 0, .int .i64 0, .int .i64 0, .int .i64 0, .int .i64 0, .bool false, .bool false, .int .i64 0, .slice A177 m178 c179] 25)).cell? ⟨w34.heap.size, 5, none⟩ = some (.bool m) := by rw [← hV193]; exact F203.out.cell 5
      have cc0_6 : (w180.alloc (.cells #[.int .i64 0, .int .i64 0, .int .i64 0, .int .i64 0, .int .i64 0, .bool false, .bool false, .int .i64 0, .slice A177 m178 c179] 25)).cell? ⟨w34.heap.size, 6, none⟩ = some (.bool r) := by rw [← hV193]; exact F203.out.cell 6
      have cc0_7 : (w180.alloc (.cells #[.int .i64 0, .int .i64 0, .int .i64 0, .int .i64 0, .int .i64 0, .bool false, .bool false, .int .i64 0, .slice A177 m178 c179] 25)).cell? ⟨w34.heap.size, 7, none⟩ = some (.int .i64 d) := by rw [← hV193]; exact F203.out.cell 7
      have cc0_8 : (w180.alloc (.cells #[.int .i64 0, .int .i64 0, .int .i64 0, .int .i64 0, .int .i64 0, .bool false, .bool false, .int .i64 0, .slice A177 m178 c179] 25)).cell? ⟨w34.heap.size, 8, none⟩ = some (.slice A31 m32 c33) := by rw [← hV193]; exact F203.out.cell 8
      have cc1_0 : (w180.alloc (.cells #[.int .i64 0, .int .i64 0, .int .i64 0, .int .i64 0, .int .i64 0, .bool false, .bool false, .int .i64 0, .slice A177 m178 c179] 25)).cell? ⟨w1.heap.size, 0, none⟩ = some (.int .i64 k) := by rw [← hV193]; exact F199.out.cell 0
      have cc1_1 : (w180.alloc (.cells #[.int .i64 0, .int .i64 0, .int .i64 0, .int .i64 0, .int .i64 0, .bool false, .bool false, .int .i64 0, .slice A177 m178 c179] 25)).cell? ⟨w1.heap.size, 1, none⟩ = some (.int .i64 f) := by rw [← hV193]; exact F199.out.cell 1
      have cc1_2 : (w180.alloc (.cells #[.int .i64 0, .int .i64 0, .int .i64 0, .int .i64 0, .int .i64 0, .bool false, .bool false, .int .i64 0, .slice A177 m178 c179] 25)).cell? ⟨w1.heap.size, 2, none⟩ = some (.int .i64 t) := by rw [← hV193]; exact F199.out.cell 2
      have cc1_3 : (w180.alloc (.cells #[.int .i64 0, .int .i64 0, .int .i64 0, .int .i64 0, .int .i64 0, .bool false, .bool false, .int .i64 0, .slice A177 m178 c179] 25)).cell? ⟨w1.heap.size, 3, none⟩ = some (.int .i64 s) := by rw [← hV193]; exact F199.out.cell 3
      have cc1_4 : (w180.alloc (.cells #[.int .i64 0, .int .i64 0, .int .i64 0, .int .i64 0, .int .i64 0, .bool false, .bool false, .int .i64 0, .slice A177 m178 c179] 25)).cell? ⟨w1.heap.size, 4, none⟩ = some (.int .i64 g) := by rw [← hV193]; exact F199.out.cell 4
      have cc1_5 : (w180.alloc (.cells #[.int .i64 0, .int .i64 0, .int .i64 0, .int .i64 0, .int .i64 0, .bool false, .bool false, .int .i64 0, .slice A177 m178 c179] 25)).cell? ⟨w1.heap.size, 5, none⟩ = some (.bool m) := by rw [← hV193]; exact F199.out.cell 5
      have cc1_6 : (w180.alloc (.cells #[.int .i64 0, .int .i64 0, .int .i64 0, .int .i64 0, .int .i64 0, .bool false, .bool false, .int .i64 0, .slice A177 m178 c179] 25)).cell? ⟨w1.heap.size, 6, none⟩ = some (.bool r) := by rw [← hV193]; exact F199.out.cell 6
      have cc1_7 : (w180.alloc (.cells #[.int .i64 0, .int .i64 0, .int .i64 0, .int .i64 0, .int .i64 0, .bool false, .bool false, .int .i64 0, .slice A177 m178 c179] 25)).cell? ⟨w1.heap.size, 7, none⟩ = some (.int .i64 d) := by rw [← hV193]; exact F199.out.cell 7
      have cc1_8 : (w180.alloc (.cells #[.int .i64 0, .int .i64 0, .int .i64 0, .int .i64 0, .int .i64 0, .bool false, .bool false, .int .i64 0, .slice A177 m178 c179] 25)).cell? ⟨w1.heap.size, 8, none⟩ = some (.slice A n c) := by rw [← hV193]; exact F199.out.cell 8
      go_wp2_with fail
      rw [← hV193]
      clear hV193 cc0_0 cc0_1 cc0_2 cc0_3 cc0_4 cc0_5 cc0_6 cc0_7 cc0_8 cc1_0 cc1_1 cc1_2 cc1_3 cc1_4 cc1_5 cc1_6 cc1_7 cc1_8
      (with_reducible refine (fbx.implEqf k f t s g m r d A31 m32 c33 k f t s g m r d A n c z z _ _ _ _ _ WN.out WN.out F202.out.rd F198.out.rd).mono ?_)
      rw [fbx.eqf_self]
      rintro e w208 ⟨rfl, hb⟩
      have S210 := Lib.hid (hb.size)
      have B209 := Lib.hid (B195.out.trans (hb.mono B195.out.size))
      clear B195
      have F211 := Lib.hid (F197.out.below hb)
      clear F197
      have F212 := Lib.hid (F198.out.below hb)
      clear F198
      have F213 := Lib.hid (F199.out.below hb)
      clear F199
      have F214 := Lib.hid (F200.out.below hb)
      clear F200
      have F215 := Lib.hid (F201.out.below hb)
      clear F201
      have F216 := Lib.hid (F202.out.below hb)
      clear F202
      have F217 := Lib.hid (F203.out.below hb)
      clear F203
      have F218 := Lib.hid (F204.out.below hb)
      clear F204
      have F219 := Lib.hid (F205.out.below hb)
      clear F205
      have F220 := Lib.hid (F206.out.below hb)
      clear F206
      have F221 := Lib.hid (X207.out.below hb)
      clear X207
      clear hb
      go_wp2_with fail
      go_ret
      exact ⟨rfl, B209.out⟩
    | false =>
      go_wp2_with fail
      (with_reducible refine (lawAt.at_ 0 (by omega) (by omega) a len cap _ _ y0 _ F127.out LN.out).mono ?_)
      rintro e wq ⟨p0, rfl, hp0, hp0', rfl⟩
      have HENN := Lib.hid (show m21 = el.length from F131.out.len.symm)
      have hpos : 0 < m21 := by rw [HENN.out, ← HEL.out]; exact ef_pos HVF.out
      have hle : m21 ≤ 144 := by have := HLE.out; have := HENN.out; omega
      obtain ⟨i, hi⟩ := Int.eq_ofNat_of_zero_le (Int.emod_nonneg p0 (show 8 * (m21 : Int) ≠ 0 by omega))
      have hi8 : i / 8 < m21 := by have := Int.emod_lt_of_pos p0 (show 0 < 8 * (m21 : Int) by omega); omega
      have hti : p0.tmod (8 * (m21 : Int)) = i := by rw [Int.tmod_eq_emod_of_nonneg hp0]; exact hi
      have ew : IntKind.i64.wrap (8 * (m21 : Int)) = 8 * (m21 : Int) := IntWalk.i64_in _ (by omega)
      have ez : ((8 * (m21 : Int)) == 0) = false := by simp; omega
      clear hp0 hp0' hi
      obtain ⟨eb, rfl, hbl⟩ := own.own_some F131.out hpos
      have HBL := Lib.hid hbl
      have HBH := Lib.hid (show eb < w23.heap.size from F131.out.2.2.2 eb 0 rfl)
      clear hbl
      have hcell := own.cell_of F131.out hi8
      have hfree := F131.out.free rfl (i / 8)
      have HEB := Lib.hid (show crcm.Byt el by rw [← HEL.out]; exact ef_byt HBZ.out)
      have hx := byt_at HEB.out (i / 8)
      obtain ⟨x, hxe⟩ : ∃ x, el.getD (i / 8) 0 = x := ⟨_, rfl⟩
      have HBIT := Lib.hid (show df (el.set (i / 8) (inv x (i % 8))) = (⟨0, 0, 0, 0, 0, false, false, 0, []⟩, false) by
        have h1 := df_bit (x := ⟨k, f, t, s, g, m, r, d, z⟩) HVF.out HBZ.out (j := i / 8) (q := i % 8) (by rw [HEL.out, ← HENN.out]; exact hi8) (by omega)
        rw [HEL.out, hxe] at h1; exact h1)
      rw [hxe] at hcell hx
      obtain ⟨mq, rfl⟩ := Int.eq_ofNat_of_zero_le hx.1
      have hxor := xor_u8 (p := mq) (q := i % 8) (by omega) (by omega)
      have HVI := Lib.hid (inv_in hx (q := i % 8) (by omega))
      rw [show ((mq ^^^ 2 ^ (i % 8) : Nat) : Int) = inv mq (i % 8) by rw [inv, Int.toNat_natCast]] at hxor
      obtain ⟨v, hv⟩ : ∃ v, inv mq (i % 8) = v := ⟨_, rfl⟩
      rw [hv] at hxor HVI HBIT
      have e1 : (i : Int) / 8 < m21 := by omega
      clear hxe hv hx hpos
      go_wp2
      go_region
      obtain ⟨w136, hw7⟩ : ∃ W, (w124.setCell ⟨eb, i / 8, none⟩ (.int .u8 v)).drew = W := ⟨_, rfl⟩
      rw [hw7]
      have ht : Tch w13.heap.size w23.heap.size w124 w136 := by rw [← hw7]; exact ⟨rfl, rfl, rfl, by simp [World.drew, World.setCell], fun q hq hd => Below.heap_setCell _ _ _ _ (by show q ≠ eb; have h1 := HBL.out; have h2 := HBH.out; omega)⟩
      have F137 := Lib.hid (show Ow 5 .u8 w136 w13.heap.size w23.heap.size (some ⟨eb, 0, none⟩) m21 c22 (el.set (i / 8) v) by rw [← hw7]; exact (own.ow_set F131.out (i / 8) v (WalkArith.wf_u8 (by have := HVI.out; omega))).same (Nat.le_refl _) fun _ _ _ => rfl)
      have HL2 := Lib.hid (show (el.set (i / 8) v).length ≤ 144 by rw [List.length_set]; exact HLE.out)
      clear hw7
      have S139 := Lib.hid (ht.size)
      have B138 := Lib.hid (B125.out.trans (ht.below (by have s0 := S4.out; have s1 := S7.out; have s2 := S9.out; have s3 := S16.out; have s4 := S26.out; have s5 := S37.out; have s6 := S44.out; have s7 := S46.out; have s8 := S60.out; have s9 := S69.out; have s10 := S71.out; have s11 := S87.out; have s12 := S98.out; have s13 := S100.out; have s14 := S114.out; have s15 := S126.out; omega) B125.out.size))
      clear B125
      have F140 := Lib.hid (F127.out.tch ht (by have s0 := S4.out; have s1 := S7.out; have s2 := S9.out; have s3 := S16.out; have s4 := S26.out; have s5 := S37.out; have s6 := S44.out; have s7 := S46.out; have s8 := S60.out; have s9 := S69.out; have s10 := S71.out; have s11 := S87.out; have s12 := S98.out; have s13 := S100.out; have s14 := S114.out; have s15 := S126.out; have s16 := S139.out; omega))
      clear F127
      have F141 := Lib.hid (F128.out.tch ht (by have s0 := S4.out; have s1 := S7.out; have s2 := S9.out; have s3 := S16.out; have s4 := S26.out; have s5 := S37.out; have s6 := S44.out; have s7 := S46.out; have s8 := S60.out; have s9 := S69.out; have s10 := S71.out; have s11 := S87.out; have s12 := S98.out; have s13 := S100.out; have s14 := S114.out; have s15 := S126.out; have s16 := S139.out; omega))
      clear F128
      have F142 := Lib.hid (F129.out.tch ht (by have s0 := S4.out; have s1 := S7.out; have s2 := S9.out; have s3 := S16.out; have s4 := S26.out; have s5 := S37.out; have s6 := S44.out; have s7 := S46.out; have s8 := S60.out; have s9 := S69.out; have s10 := S71.out; have s11 := S87.out; have s12 := S98.out; have s13 := S100.out; have s14 := S114.out; have s15 := S126.out; have s16 := S139.out; omega))
      clear F129
      have F143 := Lib.hid (F130.out.tch ht (by have s0 := S4.out; have s1 := S7.out; have s2 := S9.out; have s3 := S16.out; have s4 := S26.out; have s5 := S37.out; have s6 := S44.out; have s7 := S46.out; have s8 := S60.out; have s9 := S69.out; have s10 := S71.out; have s11 := S87.out; have s12 := S98.out; have s13 := S100.out; have s14 := S114.out; have s15 := S126.out; have s16 := S139.out; omega))
      clear F130
      have F144 := Lib.hid (F132.out.tch ht (by have s0 := S4.out; have s1 := S7.out; have s2 := S9.out; have s3 := S16.out; have s4 := S26.out; have s5 := S37.out; have s6 := S44.out; have s7 := S46.out; have s8 := S60.out; have s9 := S69.out; have s10 := S71.out; have s11 := S87.out; have s12 := S98.out; have s13 := S100.out; have s14 := S114.out; have s15 := S126.out; have s16 := S139.out; omega))
      clear F132
      have F145 := Lib.hid (F133.out.tch ht (by have s0 := S4.out; have s1 := S7.out; have s2 := S9.out; have s3 := S16.out; have s4 := S26.out; have s5 := S37.out; have s6 := S44.out; have s7 := S46.out; have s8 := S60.out; have s9 := S69.out; have s10 := S71.out; have s11 := S87.out; have s12 := S98.out; have s13 := S100.out; have s14 := S114.out; have s15 := S126.out; have s16 := S139.out; omega))
      clear F133
      have F146 := Lib.hid (F134.out.tch ht (by have s0 := S4.out; have s1 := S7.out; have s2 := S9.out; have s3 := S16.out; have s4 := S26.out; have s5 := S37.out; have s6 := S44.out; have s7 := S46.out; have s8 := S60.out; have s9 := S69.out; have s10 := S71.out; have s11 := S87.out; have s12 := S98.out; have s13 := S100.out; have s14 := S114.out; have s15 := S126.out; have s16 := S139.out; omega))
      clear F134
      have F147 := Lib.hid (F135.out.tch ht (by have s0 := S4.out; have s1 := S7.out; have s2 := S9.out; have s3 := S16.out; have s4 := S26.out; have s5 := S37.out; have s6 := S44.out; have s7 := S46.out; have s8 := S60.out; have s9 := S69.out; have s10 := S71.out; have s11 := S87.out; have s12 := S98.out; have s13 := S100.out; have s14 := S114.out; have s15 := S126.out; have s16 := S139.out; omega))
      clear F135
      clear ht
      clear F131
      obtain ⟨e2, he2⟩ : ∃ e2, el.set (i / 8) v = e2 := ⟨_, rfl⟩
      rw [he2] at F137 HBIT HL2
      clear he2 hcell hfree hxor e1 hti ew ez
      go_wp2_with fail
      (with_reducible refine (fbx.implDf e2 _ _ (some ⟨eb, 0, none⟩) m21 c22 _ F137.out.rd (by have l1 := F137.out.len; have q3 := HL2.out; omega)).mono ?_)
      rintro e w151 hpost
      obtain ⟨A148, m149, c150, rfl, ho, hb⟩ := fbx.DPost.parts HBIT.out hpost
      have F152 := Lib.hid ho
      clear ho hpost
      have S154 := Lib.hid (hb.size)
      have B153 := Lib.hid (B138.out.trans (hb.mono B138.out.size))
      clear B138
      have F155 := Lib.hid (F140.out.below hb)
      clear F140
      have F156 := Lib.hid (F141.out.below hb)
      clear F141
      have F157 := Lib.hid (F142.out.below hb)
      clear F142
      have F158 := Lib.hid (F143.out.below hb)
      clear F143
      have F159 := Lib.hid (F137.out.below hb)
      clear F137
      have F160 := Lib.hid (F144.out.below hb)
      clear F144
      have F161 := Lib.hid (F145.out.below hb)
      clear F145
      have F162 := Lib.hid (F146.out.below hb)
      clear F146
      have F163 := Lib.hid (F147.out.below hb)
      clear F147
      clear hb
      obtain ⟨V164, hV164⟩ : ∃ x, x = w151.alloc (.cells #[.int .i64 0, .int .i64 0, .int .i64 0, .int .i64 0, .int .i64 0, .bool false, .bool false, .int .i64 0, .slice A148 m149 c150] 25) := ⟨_, rfl⟩
      have hbV164 : Below w151.heap.size w151 V164 := by rw [hV164]; exact fbx.below_box _ _
      have S165 := Lib.hid (show w151.heap.size + 1 ≤ V164.heap.size by rw [hV164]; simp)
      have S167 := Lib.hid (hbV164.size)
      have B166 := Lib.hid (B153.out.trans (hbV164.mono B153.out.size))
      clear B153
      have F168 := Lib.hid (F155.out.below hbV164)
      clear F155
      have F169 := Lib.hid (F156.out.below hbV164)
      clear F156
      have F170 := Lib.hid (F157.out.below hbV164)
      clear F157
      have F171 := Lib.hid (F158.out.below hbV164)
      clear F158
      have F172 := Lib.hid (F159.out.below hbV164)
      clear F159
      have F173 := Lib.hid (F160.out.below hbV164)
      clear F160
      have F174 := Lib.hid (F161.out.below hbV164)
      clear F161
      have F175 := Lib.hid (F162.out.below hbV164)
      clear F162
      have F176 := Lib.hid (F163.out.below hbV164)
      clear F163
      have F177 := Lib.hid (F152.out.below hbV164)
      clear F152
      have X178 := Lib.hid (show fbx.Bx 25 V164 w151.heap.size #[.int .i64 0, .int .i64 0, .int .i64 0, .int .i64 0, .int .i64 0, .bool false, .bool false, .int .i64 0, .slice A148 m149 c150] by rw [hV164]; exact fbx.Bx.made _ _ _)
      clear hbV164
      have cc0_0 : (w151.alloc (.cells #[.int .i64 0, .int .i64 0, .int .i64 0, .int .i64 0, .int .i64 0, .bool false, .bool false, .int .i64 0, .slice A148 m149 c150] 25)).cell? ⟨w34.heap.size, 0, none⟩ = some (.int .i64 k) := by rw [← hV164]; exact F174.out.cell 0
      have cc0_1 : (w151.alloc (.cells #[.int .i64 0, .int .i64 0, .int .i64 0, .int .i64 0, .int .i64 0, .bool false, .bool false, .int .i64 0, .slice A148 m149 c150] 25)).cell? ⟨w34.heap.size, 1, none⟩ = some (.int .i64 f) := by rw [← hV164]; exact F174.out.cell 1
      have cc0_2 : (w151.alloc (.cells #[.int .i64 0, .int .i64 0, .int .i64 0, .int .i64 0, .int .i64 0, .bool false, .bool false, .int .i64 0, .slice A148 m149 c150] 25)).cell? ⟨w34.heap.size, 2, none⟩ = some (.int .i64 t) := by rw [← hV164]; exact F174.out.cell 2
      have cc0_3 : (w151.alloc (.cells #[.int .i64 0, .int .i64 0, .int .i64 0, .int .i64 0, .int .i64 0, .bool false, .bool false, .int .i64 0, .slice A148 m149 c150] 25)).cell? ⟨w34.heap.size, 3, none⟩ = some (.int .i64 s) := by rw [← hV164]; exact F174.out.cell 3
      have cc0_4 : (w151.alloc (.cells #[.int .i64 0, .int .i64 0, .int .i64 0, .int .i64 0, .int .i64 0, .bool false, .bool false, .int .i64 0, .slice A148 m149 c150] 25)).cell? ⟨w34.heap.size, 4, none⟩ = some (.int .i64 g) := by rw [← hV164]; exact F174.out.cell 4
      have cc0_5 : (w151.alloc (.cells #[.int .i64 0, .int .i64 0, .int .i64 0, .int .i64 0, .int .i64 0, .bool false, .bool false, .int .i64 0, .slice A148 m149 c150] 25)).cell? ⟨w34.heap.size, 5, none⟩ = some (.bool m) := by rw [← hV164]; exact F174.out.cell 5
      have cc0_6 : (w151.alloc (.cells #[.int .i64 0, .int .i64 0, .int .i64 0, .int .i64 0, .int .i64 0, .bool false, .bool false, .int .i64 0, .slice A148 m149 c150] 25)).cell? ⟨w34.heap.size, 6, none⟩ = some (.bool r) := by rw [← hV164]; exact F174.out.cell 6
      have cc0_7 : (w151.alloc (.cells #[.int .i64 0, .int .i64 0, .int .i64 0, .int .i64 0, .int .i64 0, .bool false, .bool false, .int .i64 0, .slice A148 m149 c150] 25)).cell? ⟨w34.heap.size, 7, none⟩ = some (.int .i64 d) := by rw [← hV164]; exact F174.out.cell 7
      have cc0_8 : (w151.alloc (.cells #[.int .i64 0, .int .i64 0, .int .i64 0, .int .i64 0, .int .i64 0, .bool false, .bool false, .int .i64 0, .slice A148 m149 c150] 25)).cell? ⟨w34.heap.size, 8, none⟩ = some (.slice A31 m32 c33) := by rw [← hV164]; exact F174.out.cell 8
      have cc1_0 : (w151.alloc (.cells #[.int .i64 0, .int .i64 0, .int .i64 0, .int .i64 0, .int .i64 0, .bool false, .bool false, .int .i64 0, .slice A148 m149 c150] 25)).cell? ⟨w1.heap.size, 0, none⟩ = some (.int .i64 k) := by rw [← hV164]; exact F170.out.cell 0
      have cc1_1 : (w151.alloc (.cells #[.int .i64 0, .int .i64 0, .int .i64 0, .int .i64 0, .int .i64 0, .bool false, .bool false, .int .i64 0, .slice A148 m149 c150] 25)).cell? ⟨w1.heap.size, 1, none⟩ = some (.int .i64 f) := by rw [← hV164]; exact F170.out.cell 1
      have cc1_2 : (w151.alloc (.cells #[.int .i64 0, .int .i64 0, .int .i64 0, .int .i64 0, .int .i64 0, .bool false, .bool false, .int .i64 0, .slice A148 m149 c150] 25)).cell? ⟨w1.heap.size, 2, none⟩ = some (.int .i64 t) := by rw [← hV164]; exact F170.out.cell 2
      have cc1_3 : (w151.alloc (.cells #[.int .i64 0, .int .i64 0, .int .i64 0, .int .i64 0, .int .i64 0, .bool false, .bool false, .int .i64 0, .slice A148 m149 c150] 25)).cell? ⟨w1.heap.size, 3, none⟩ = some (.int .i64 s) := by rw [← hV164]; exact F170.out.cell 3
      have cc1_4 : (w151.alloc (.cells #[.int .i64 0, .int .i64 0, .int .i64 0, .int .i64 0, .int .i64 0, .bool false, .bool false, .int .i64 0, .slice A148 m149 c150] 25)).cell? ⟨w1.heap.size, 4, none⟩ = some (.int .i64 g) := by rw [← hV164]; exact F170.out.cell 4
      have cc1_5 : (w151.alloc (.cells #[.int .i64 0, .int .i64 0, .int .i64 0, .int .i64 0, .int .i64 0, .bool false, .bool false, .int .i64 0, .slice A148 m149 c150] 25)).cell? ⟨w1.heap.size, 5, none⟩ = some (.bool m) := by rw [← hV164]; exact F170.out.cell 5
      have cc1_6 : (w151.alloc (.cells #[.int .i64 0, .int .i64 0, .int .i64 0, .int .i64 0, .int .i64 0, .bool false, .bool false, .int .i64 0, .slice A148 m149 c150] 25)).cell? ⟨w1.heap.size, 6, none⟩ = some (.bool r) := by rw [← hV164]; exact F170.out.cell 6
      have cc1_7 : (w151.alloc (.cells #[.int .i64 0, .int .i64 0, .int .i64 0, .int .i64 0, .int .i64 0, .bool false, .bool false, .int .i64 0, .slice A148 m149 c150] 25)).cell? ⟨w1.heap.size, 7, none⟩ = some (.int .i64 d) := by rw [← hV164]; exact F170.out.cell 7
      have cc1_8 : (w151.alloc (.cells #[.int .i64 0, .int .i64 0, .int .i64 0, .int .i64 0, .int .i64 0, .bool false, .bool false, .int .i64 0, .slice A148 m149 c150] 25)).cell? ⟨w1.heap.size, 8, none⟩ = some (.slice A n c) := by rw [← hV164]; exact F170.out.cell 8
      go_wp2_with fail
      rw [← hV164]
      clear hV164 cc0_0 cc0_1 cc0_2 cc0_3 cc0_4 cc0_5 cc0_6 cc0_7 cc0_8 cc1_0 cc1_1 cc1_2 cc1_3 cc1_4 cc1_5 cc1_6 cc1_7 cc1_8
      (with_reducible refine (fbx.implEqf k f t s g m r d A31 m32 c33 k f t s g m r d A n c z z _ _ _ _ _ WN.out WN.out F173.out.rd F169.out.rd).mono ?_)
      rw [fbx.eqf_self]
      rintro e w179 ⟨rfl, hb⟩
      have S181 := Lib.hid (hb.size)
      have B180 := Lib.hid (B166.out.trans (hb.mono B166.out.size))
      clear B166
      have F182 := Lib.hid (F168.out.below hb)
      clear F168
      have F183 := Lib.hid (F169.out.below hb)
      clear F169
      have F184 := Lib.hid (F170.out.below hb)
      clear F170
      have F185 := Lib.hid (F171.out.below hb)
      clear F171
      have F186 := Lib.hid (F172.out.below hb)
      clear F172
      have F187 := Lib.hid (F173.out.below hb)
      clear F173
      have F188 := Lib.hid (F174.out.below hb)
      clear F174
      have F189 := Lib.hid (F175.out.below hb)
      clear F175
      have F190 := Lib.hid (F176.out.below hb)
      clear F176
      have F191 := Lib.hid (F177.out.below hb)
      clear F177
      have F192 := Lib.hid (X178.out.below hb)
      clear X178
      clear hb
      go_wp2_with fail
      go_ret
      exact ⟨rfl, B180.out⟩
  · have HV := Lib.hid (decide_eq_false hv)
    obtain rfl : el = [] := by rw [← HEL.out]; exact ef_no hv
    have HT1 := Lib.hid (show df [] = (⟨0, 0, 0, 0, 0, false, false, 0, []⟩, false) from df_nil)
    obtain rfl : 0 = m21 := F24.out.len
    clear hv
    go_wp2_with fail
    (with_reducible refine (fbx.implDf [] _ _ A20 0 c22 _ F24.out.rd (by have l1 := F24.out.len; have q3 := HLE.out; omega)).mono ?_)
    rintro e w34 hpost
    obtain ⟨A31, m32, c33, rfl, ho, hb⟩ := fbx.DPost.parts HT1.out hpost
    have F35 := Lib.hid ho
    clear ho hpost
    have S37 := Lib.hid (hb.size)
    have B36 := Lib.hid (B25.out.trans (hb.mono B25.out.size))
    clear B25
    have F38 := Lib.hid (F27.out.below hb)
    clear F27
    have F39 := Lib.hid (F28.out.below hb)
    clear F28
    have F40 := Lib.hid (F29.out.below hb)
    clear F29
    have F41 := Lib.hid (F30.out.below hb)
    clear F30
    have F42 := Lib.hid (F24.out.below hb)
    clear F24
    clear hb
    obtain ⟨V43, hV43⟩ : ∃ x, x = w34.alloc (.cells #[.int .i64 0, .int .i64 0, .int .i64 0, .int .i64 0, .int .i64 0, .bool false, .bool false, .int .i64 0, .slice A31 m32 c33] 25) := ⟨_, rfl⟩
    have hbV43 : Below w34.heap.size w34 V43 := by rw [hV43]; exact fbx.below_box _ _
    have S44 := Lib.hid (show w34.heap.size + 1 ≤ V43.heap.size by rw [hV43]; simp)
    have S46 := Lib.hid (hbV43.size)
    have B45 := Lib.hid (B36.out.trans (hbV43.mono B36.out.size))
    clear B36
    have F47 := Lib.hid (F38.out.below hbV43)
    clear F38
    have F48 := Lib.hid (F39.out.below hbV43)
    clear F39
    have F49 := Lib.hid (F40.out.below hbV43)
    clear F40
    have F50 := Lib.hid (F41.out.below hbV43)
    clear F41
    have F51 := Lib.hid (F42.out.below hbV43)
    clear F42
    have F52 := Lib.hid (F35.out.below hbV43)
    clear F35
    have X53 := Lib.hid (show fbx.Bx 25 V43 w34.heap.size #[.int .i64 0, .int .i64 0, .int .i64 0, .int .i64 0, .int .i64 0, .bool false, .bool false, .int .i64 0, .slice A31 m32 c33] by rw [hV43]; exact fbx.Bx.made _ _ _)
    clear hbV43
    go_wp2_with fail
    rw [← hV43]
    clear hV43 
    (with_reducible refine (fbx.implDf zb _ _ A2 n2 c2 _ F50.out.rd (by have l1 := F50.out.len; have q2 := HN2.out; have q22 := HLB.out; omega)).mono ?_)
    rintro e w57 hpost
    obtain ⟨A54, m55, c56, rfl, ho, hb⟩ := fbx.DPost.parts HT2.out hpost
    have F58 := Lib.hid ho
    clear ho hpost
    have S60 := Lib.hid (hb.size)
    have B59 := Lib.hid (B45.out.trans (hb.mono B45.out.size))
    clear B45
    have F61 := Lib.hid (F47.out.below hb)
    clear F47
    have F62 := Lib.hid (F48.out.below hb)
    clear F48
    have F63 := Lib.hid (F49.out.below hb)
    clear F49
    have F64 := Lib.hid (F50.out.below hb)
    clear F50
    have F65 := Lib.hid (F51.out.below hb)
    clear F51
    have F66 := Lib.hid (F52.out.below hb)
    clear F52
    have F67 := Lib.hid (X53.out.below hb)
    clear X53
    clear hb
    obtain ⟨V68, hV68⟩ : ∃ x, x = w57.alloc (.cells #[.int .i64 y0_, .int .i64 y1_, .int .i64 y2_, .int .i64 y3_, .int .i64 y4_, .bool y5_, .bool y6_, .int .i64 y7_, .slice A54 m55 c56] 25) := ⟨_, rfl⟩
    have hbV68 : Below w57.heap.size w57 V68 := by rw [hV68]; exact fbx.below_box _ _
    have S69 := Lib.hid (show w57.heap.size + 1 ≤ V68.heap.size by rw [hV68]; simp)
    have S71 := Lib.hid (hbV68.size)
    have B70 := Lib.hid (B59.out.trans (hbV68.mono B59.out.size))
    clear B59
    have F72 := Lib.hid (F61.out.below hbV68)
    clear F61
    have F73 := Lib.hid (F62.out.below hbV68)
    clear F62
    have F74 := Lib.hid (F63.out.below hbV68)
    clear F63
    have F75 := Lib.hid (F64.out.below hbV68)
    clear F64
    have F76 := Lib.hid (F65.out.below hbV68)
    clear F65
    have F77 := Lib.hid (F66.out.below hbV68)
    clear F66
    have F78 := Lib.hid (F67.out.below hbV68)
    clear F67
    have F79 := Lib.hid (F58.out.below hbV68)
    clear F58
    have X80 := Lib.hid (show fbx.Bx 25 V68 w57.heap.size #[.int .i64 y0_, .int .i64 y1_, .int .i64 y2_, .int .i64 y3_, .int .i64 y4_, .bool y5_, .bool y6_, .int .i64 y7_, .slice A54 m55 c56] by rw [hV68]; exact fbx.Bx.made _ _ _)
    clear hbV68
    go_wp2_with fail
    rw [← hV68]
    clear hV68 
    (with_reducible refine (fbx.specDf zb _ _ A2 n2 c2 _ F75.out.rd (by have l1 := F75.out.len; have q2 := HN2.out; have q22 := HLB.out; omega)).mono ?_)
    rintro e w84 hpost
    obtain ⟨A81, m82, c83, rfl, ho, hb⟩ := fbx.DPost.parts HT2.out hpost
    have F85 := Lib.hid ho
    clear ho hpost
    have S87 := Lib.hid (hb.size)
    have B86 := Lib.hid (B70.out.trans (hb.mono B70.out.size))
    clear B70
    have F88 := Lib.hid (F72.out.below hb)
    clear F72
    have F89 := Lib.hid (F73.out.below hb)
    clear F73
    have F90 := Lib.hid (F74.out.below hb)
    clear F74
    have F91 := Lib.hid (F75.out.below hb)
    clear F75
    have F92 := Lib.hid (F76.out.below hb)
    clear F76
    have F93 := Lib.hid (F77.out.below hb)
    clear F77
    have F94 := Lib.hid (F78.out.below hb)
    clear F78
    have F95 := Lib.hid (F79.out.below hb)
    clear F79
    have F96 := Lib.hid (X80.out.below hb)
    clear X80
    clear hb
    obtain ⟨V97, hV97⟩ : ∃ x, x = w84.alloc (.cells #[.int .i64 y0_, .int .i64 y1_, .int .i64 y2_, .int .i64 y3_, .int .i64 y4_, .bool y5_, .bool y6_, .int .i64 y7_, .slice A81 m82 c83] 25) := ⟨_, rfl⟩
    have hbV97 : Below w84.heap.size w84 V97 := by rw [hV97]; exact fbx.below_box _ _
    have S98 := Lib.hid (show w84.heap.size + 1 ≤ V97.heap.size by rw [hV97]; simp)
    have S100 := Lib.hid (hbV97.size)
    have B99 := Lib.hid (B86.out.trans (hbV97.mono B86.out.size))
    clear B86
    have F101 := Lib.hid (F88.out.below hbV97)
    clear F88
    have F102 := Lib.hid (F89.out.below hbV97)
    clear F89
    have F103 := Lib.hid (F90.out.below hbV97)
    clear F90
    have F104 := Lib.hid (F91.out.below hbV97)
    clear F91
    have F105 := Lib.hid (F92.out.below hbV97)
    clear F92
    have F106 := Lib.hid (F93.out.below hbV97)
    clear F93
    have F107 := Lib.hid (F94.out.below hbV97)
    clear F94
    have F108 := Lib.hid (F95.out.below hbV97)
    clear F95
    have F109 := Lib.hid (F96.out.below hbV97)
    clear F96
    have F110 := Lib.hid (F85.out.below hbV97)
    clear F85
    have X111 := Lib.hid (show fbx.Bx 25 V97 w84.heap.size #[.int .i64 y0_, .int .i64 y1_, .int .i64 y2_, .int .i64 y3_, .int .i64 y4_, .bool y5_, .bool y6_, .int .i64 y7_, .slice A81 m82 c83] by rw [hV97]; exact fbx.Bx.made _ _ _)
    clear hbV97
    have cc0_0 : (w84.alloc (.cells #[.int .i64 y0_, .int .i64 y1_, .int .i64 y2_, .int .i64 y3_, .int .i64 y4_, .bool y5_, .bool y6_, .int .i64 y7_, .slice A81 m82 c83] 25)).cell? ⟨w1.heap.size, 0, none⟩ = some (.int .i64 k) := by rw [← hV97]; exact F103.out.cell 0
    have cc0_1 : (w84.alloc (.cells #[.int .i64 y0_, .int .i64 y1_, .int .i64 y2_, .int .i64 y3_, .int .i64 y4_, .bool y5_, .bool y6_, .int .i64 y7_, .slice A81 m82 c83] 25)).cell? ⟨w1.heap.size, 1, none⟩ = some (.int .i64 f) := by rw [← hV97]; exact F103.out.cell 1
    have cc0_2 : (w84.alloc (.cells #[.int .i64 y0_, .int .i64 y1_, .int .i64 y2_, .int .i64 y3_, .int .i64 y4_, .bool y5_, .bool y6_, .int .i64 y7_, .slice A81 m82 c83] 25)).cell? ⟨w1.heap.size, 2, none⟩ = some (.int .i64 t) := by rw [← hV97]; exact F103.out.cell 2
    have cc0_3 : (w84.alloc (.cells #[.int .i64 y0_, .int .i64 y1_, .int .i64 y2_, .int .i64 y3_, .int .i64 y4_, .bool y5_, .bool y6_, .int .i64 y7_, .slice A81 m82 c83] 25)).cell? ⟨w1.heap.size, 3, none⟩ = some (.int .i64 s) := by rw [← hV97]; exact F103.out.cell 3
    have cc0_4 : (w84.alloc (.cells #[.int .i64 y0_, .int .i64 y1_, .int .i64 y2_, .int .i64 y3_, .int .i64 y4_, .bool y5_, .bool y6_, .int .i64 y7_, .slice A81 m82 c83] 25)).cell? ⟨w1.heap.size, 4, none⟩ = some (.int .i64 g) := by rw [← hV97]; exact F103.out.cell 4
    have cc0_5 : (w84.alloc (.cells #[.int .i64 y0_, .int .i64 y1_, .int .i64 y2_, .int .i64 y3_, .int .i64 y4_, .bool y5_, .bool y6_, .int .i64 y7_, .slice A81 m82 c83] 25)).cell? ⟨w1.heap.size, 5, none⟩ = some (.bool m) := by rw [← hV97]; exact F103.out.cell 5
    have cc0_6 : (w84.alloc (.cells #[.int .i64 y0_, .int .i64 y1_, .int .i64 y2_, .int .i64 y3_, .int .i64 y4_, .bool y5_, .bool y6_, .int .i64 y7_, .slice A81 m82 c83] 25)).cell? ⟨w1.heap.size, 6, none⟩ = some (.bool r) := by rw [← hV97]; exact F103.out.cell 6
    have cc0_7 : (w84.alloc (.cells #[.int .i64 y0_, .int .i64 y1_, .int .i64 y2_, .int .i64 y3_, .int .i64 y4_, .bool y5_, .bool y6_, .int .i64 y7_, .slice A81 m82 c83] 25)).cell? ⟨w1.heap.size, 7, none⟩ = some (.int .i64 d) := by rw [← hV97]; exact F103.out.cell 7
    have cc0_8 : (w84.alloc (.cells #[.int .i64 y0_, .int .i64 y1_, .int .i64 y2_, .int .i64 y3_, .int .i64 y4_, .bool y5_, .bool y6_, .int .i64 y7_, .slice A81 m82 c83] 25)).cell? ⟨w1.heap.size, 8, none⟩ = some (.slice A n c) := by rw [← hV97]; exact F103.out.cell 8
    go_wp2_with fail
    rw [← hV97]
    clear hV97 cc0_0 cc0_1 cc0_2 cc0_3 cc0_4 cc0_5 cc0_6 cc0_7 cc0_8
    clear X111
    clear F110
    (with_reducible refine (fbx.specVf k f t s g m r d A n c z (by have h1 := F102.out.len; exact h1) _).mono ?_)
    rw [HV.out]
    rintro e w112 ⟨rfl, hb⟩
    have S114 := Lib.hid (hb.size)
    have B113 := Lib.hid (B99.out.trans (hb.mono B99.out.size))
    clear B99
    have F115 := Lib.hid (F101.out.below hb)
    clear F101
    have F116 := Lib.hid (F102.out.below hb)
    clear F102
    have F117 := Lib.hid (F103.out.below hb)
    clear F103
    have F118 := Lib.hid (F104.out.below hb)
    clear F104
    have F119 := Lib.hid (F105.out.below hb)
    clear F105
    have F120 := Lib.hid (F106.out.below hb)
    clear F106
    have F121 := Lib.hid (F107.out.below hb)
    clear F107
    have F122 := Lib.hid (F108.out.below hb)
    clear F108
    have F123 := Lib.hid (F109.out.below hb)
    clear F109
    clear hb
    cases fb with
    | true =>
      have HEY := Lib.hid (df_ok HBB.out HT2.out).2
      have cc0_0 : w112.cell? ⟨w57.heap.size, 0, none⟩ = some (.int .i64 y0_) := F123.out.cell 0
      have cc0_1 : w112.cell? ⟨w57.heap.size, 1, none⟩ = some (.int .i64 y1_) := F123.out.cell 1
      have cc0_2 : w112.cell? ⟨w57.heap.size, 2, none⟩ = some (.int .i64 y2_) := F123.out.cell 2
      have cc0_3 : w112.cell? ⟨w57.heap.size, 3, none⟩ = some (.int .i64 y3_) := F123.out.cell 3
      have cc0_4 : w112.cell? ⟨w57.heap.size, 4, none⟩ = some (.int .i64 y4_) := F123.out.cell 4
      have cc0_5 : w112.cell? ⟨w57.heap.size, 5, none⟩ = some (.bool y5_) := F123.out.cell 5
      have cc0_6 : w112.cell? ⟨w57.heap.size, 6, none⟩ = some (.bool y6_) := F123.out.cell 6
      have cc0_7 : w112.cell? ⟨w57.heap.size, 7, none⟩ = some (.int .i64 y7_) := F123.out.cell 7
      have cc0_8 : w112.cell? ⟨w57.heap.size, 8, none⟩ = some (.slice A54 m55 c56) := F123.out.cell 8
      go_wp2_with fail
      clear cc0_0 cc0_1 cc0_2 cc0_3 cc0_4 cc0_5 cc0_6 cc0_7 cc0_8
      (with_reducible refine (fbx.implEf y0_ y1_ y2_ y3_ y4_ y5_ y6_ y7_ A54 m55 c56 yz _ _ _ F122.out.rd (by have l1 := F122.out.len; have q4 := HLY.out; omega)).mono ?_)
      rw [HEY.out]
      rintro e w127 ⟨A124, m125, c126, rfl, ho, hb⟩
      have F128 := Lib.hid ho
      clear ho
      have S130 := Lib.hid (hb.size)
      have B129 := Lib.hid (B113.out.trans (hb.mono B113.out.size))
      clear B113
      have F131 := Lib.hid (F115.out.below hb)
      clear F115
      have F132 := Lib.hid (F116.out.below hb)
      clear F116
      have F133 := Lib.hid (F117.out.below hb)
      clear F117
      have F134 := Lib.hid (F118.out.below hb)
      clear F118
      have F135 := Lib.hid (F119.out.below hb)
      clear F119
      have F136 := Lib.hid (F120.out.below hb)
      clear F120
      have F137 := Lib.hid (F121.out.below hb)
      clear F121
      have F138 := Lib.hid (F122.out.below hb)
      clear F122
      have F139 := Lib.hid (F123.out.below hb)
      clear F123
      clear hb
      go_wp2_with fail
      (with_reducible refine (harn.sameB_yes zb _ _ _ _ A124 A2 m125 c126 n2 c2 _ F128.out.rd F134.out.rd).mono ?_)
      rintro e w140 ⟨rfl, hb⟩
      have S142 := Lib.hid (hb.size)
      have B141 := Lib.hid (B129.out.trans (hb.mono B129.out.size))
      clear B129
      have F143 := Lib.hid (F131.out.below hb)
      clear F131
      have F144 := Lib.hid (F132.out.below hb)
      clear F132
      have F145 := Lib.hid (F133.out.below hb)
      clear F133
      have F146 := Lib.hid (F134.out.below hb)
      clear F134
      have F147 := Lib.hid (F135.out.below hb)
      clear F135
      have F148 := Lib.hid (F136.out.below hb)
      clear F136
      have F149 := Lib.hid (F137.out.below hb)
      clear F137
      have F150 := Lib.hid (F138.out.below hb)
      clear F138
      have F151 := Lib.hid (F139.out.below hb)
      clear F139
      have F152 := Lib.hid (F128.out.below hb)
      clear F128
      clear hb
      clear F152
      go_wp2_with fail
      go_ret
      exact ⟨rfl, B141.out⟩
    | false =>
      go_wp2_with fail
      go_ret
      exact ⟨rfl, B113.out⟩
end Go.Proofs.Ytnnlkkohbjolaaa.macLaw
