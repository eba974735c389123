/- The law function of FnExactEqualQueues returns true and leaves what was there. Condition: the slices among the arguments are slices that came in. -/
import Derived.Test.YtbifggfmfiocoaaQlx
import Derived.Test.YtbifggfmfiocoaaQca
import Derived.Deep.RegionHeld3
namespace Go.Proofs.Ytbifggfmfiocoaa.xExactEqualQueues
open Go.RowKit sl harn bx mrw mq
set_option linter.unusedVariables false
set_option maxRecDepth 100000 in
set_option maxHeartbeats 4000000 in
theorem walk (ms : List Msg) (d : Int) (A : Option Addr) (n cap : Nat) (ms2 : List Msg) (d2 : Int) (A2 : Option Addr) (n2 cap2 : Nat) (w : World) (row0 : Rq msg w 0 w.heap.size A n cap ms) (row2 : Rq msg w 0 w.heap.size A2 n2 cap2 ms2) :
    Calls Try.prog 12 #[qV A n cap d, qV A2 n2 cap2 d2] w fun e w' => e = .returned (.bool true) ∧ Below w.heap.size w w' := by
  have R0 := Lib.hid row0
  have HLN := Lib.hid row0.len
  have hn0 : n ≤ cap ∧ cap ≤ 9223372036854775807 := row0.cap_
  have R2 := Lib.hid row2
  have HLN2 := Lib.hid row2.len
  have hn2 : n2 ≤ cap2 ∧ cap2 ≤ 9223372036854775807 := row2.cap_
  clear row0 row2
  have B0 := Lib.hid (Below.refl w.heap.size w)
  go_enter Try.func12, Try.ntmps12
  go_wp2_with fail
  obtain ⟨W0, hW0⟩ : ∃ y, (w.alloc (.cells #[.slice A n cap, .int .i64 d] 50)).alloc (.cells #[.slice A2 n2 cap2, .int .i64 d2] 50) = y := ⟨_, rfl⟩
  rw [hW0]
  have hb0 : Below w.heap.size w W0 := by rw [← hW0]; exact (bx.below_box w _).alloc (by simp) _
  have LB0 := Lib.hid (show bx.Bx 50 W0 w.heap.size #[.slice A n cap, .int .i64 d] by rw [← hW0]; exact (bx.Bx.made _ w _).below (bx.below_box _ _))
  have LB1 := Lib.hid (show bx.Bx 50 W0 (w.heap.size + 1) #[.slice A2 n2 cap2, .int .i64 d2] by rw [← hW0]; have hh := bx.Bx.made 50 (w.alloc (.cells #[.slice A n cap, .int .i64 d] 50)) #[.slice A2 n2 cap2, .int .i64 d2]; simpa using hh)
  have S00 := Lib.hid (show w.heap.size + 2 ≤ W0.heap.size by rw [← hW0]; simp)
  clear hW0
  have R0 := Lib.hid (R0.out.below hb0)
  have R2 := Lib.hid (R2.out.below hb0)
  have B0 := Lib.hid hb0
  clear hb0
  (with_reducible refine (szQue ms d A n cap _ _ 1048576 (by omega) _ R0.out).mono ?_)
  rintro e w1 ⟨r0, rfl, hr, hb⟩
  rcases hr with ⟨hr1, hlt⟩ | ⟨hrl, hle⟩
  · subst hr1
    go_wp2_with fail
    go_ret
    exact ⟨rfl, B0.out.trans (hb.mono B0.out.size)⟩
  have hng0 : ¬ r0 < 0 := by omega
  have S3 := Lib.hid (hb.size)
  have B2 := Lib.hid (B0.out.trans (hb.mono B0.out.size))
  clear B0
  have F4 := Lib.hid (LB0.out.below hb)
  clear LB0
  have F5 := Lib.hid (R0.out.below hb)
  clear R0
  have F6 := Lib.hid (LB1.out.below hb)
  clear LB1
  have F7 := Lib.hid (R2.out.below hb)
  clear R2
  clear hb
  have hq0 : n + blk ms ≤ 1048576 := by omega
  have HR0 := Lib.hid (show 0 ≤ r0 ∧ r0 ≤ 1048576 by omega)
  clear hrl hle
  have cc0_0 : w1.cell? ⟨w.heap.size + 1, 0, none⟩ = some (.slice A2 n2 cap2) := F6.out.cell 0
  have cc0_1 : w1.cell? ⟨w.heap.size + 1, 1, none⟩ = some (.int .i64 d2) := F6.out.cell 1
  go_wp2_with fail
  clear cc0_0 cc0_1
  (with_reducible refine (szQue ms2 d2 A2 n2 cap2 _ _ r0 HR0.out _ F7.out).mono ?_)
  rintro e w8 ⟨r1, rfl, hr, hb⟩
  rcases hr with ⟨hr1, hlt⟩ | ⟨hrl, hle⟩
  · subst hr1
    go_wp2_with fail
    go_ret
    exact ⟨rfl, B2.out.trans (hb.mono B2.out.size)⟩
  have hng1 : ¬ r1 < 0 := by omega
  have S10 := Lib.hid (hb.size)
  have B9 := Lib.hid (B2.out.trans (hb.mono B2.out.size))
  clear B2
  have F11 := Lib.hid (F4.out.below hb)
  clear F4
  have F12 := Lib.hid (F5.out.below hb)
  clear F5
  have F13 := Lib.hid (F6.out.below hb)
  clear F6
  have F14 := Lib.hid (F7.out.below hb)
  clear F7
  clear hb
  have h9 := HR0.out
  have hq2 : n2 + blk ms2 ≤ 1048576 := by omega
  have HR1 := Lib.hid (show 0 ≤ r1 ∧ r1 ≤ 1048576 by omega)
  clear hrl hle h9
  have HN := Lib.hid (show n ≤ 67108864 by omega)
  have BD0 := Lib.hid (bd_of (List.Sublist.refl ms) (by rw [HLN.out]; omega))
  have HBD := Lib.hid BD0.out.1
  have HQ0 := Lib.hid hq0
  clear hq0
  have HN2 := Lib.hid (show n2 ≤ 67108864 by omega)
  have BD02 := Lib.hid (bd_of (List.Sublist.refl ms2) (by rw [HLN2.out]; omega))
  have HBD2 := Lib.hid BD02.out.1
  clear hq2
  obtain ⟨vb, hvb⟩ : ∃ vb, (decide (ms = ms2) && decide (d = d2)) = vb := ⟨_, rfl⟩
  have VB := Lib.hid hvb
  clear hvb
  go_wp2_with fail
  have hbd : Below w8.heap.size w8 w8.drew := own.below_drew (Below.refl _ _)
  have S16 := Lib.hid (hbd.size)
  have B15 := Lib.hid (B9.out.trans (hbd.mono B9.out.size))
  clear B9
  have F17 := Lib.hid (F11.out.below hbd)
  clear F11
  have F18 := Lib.hid (F12.out.below hbd)
  clear F12
  have F19 := Lib.hid (F13.out.below hbd)
  clear F13
  have F20 := Lib.hid (F14.out.below hbd)
  clear F14
  clear hbd
  refine reg.region_plain reg.Bel 45 [some [], some [(0, 20)], some [], some [(2, 22)], some [(1, 21), (3, 23)], some [(4, 24)]] [(0, 20), (1, 21), (2, 22), (3, 23), (4, 24), (5, 6)]
    (fun w' => Below w.heap.size w w' ∧ w8.drew.heap.size ≤ w'.heap.size ∧ bx.Bx 50 w' (w.heap.size) #[.slice A n cap, .int .i64 d] ∧ Rq msg w' (0) (w.heap.size) A n cap ms ∧ bx.Bx 50 w' (w.heap.size + 1) #[.slice A2 n2 cap2, .int .i64 d2] ∧ Rq msg w' (0) (w.heap.size) A2 n2 cap2 ms2 ∧ True)
    (reg.rl [reg.is (.agg #[.slice A n cap, .int .i64 d]), qrow ms d, reg.is (.agg #[.slice A2 n2 cap2, .int .i64 d2]), qrow ms2 d2, reg.is (.bool vb), reg.is (.bool vb)])
    (by kernel_rfl) (by kernel_rfl) rfl
    (fun w1 w2 hc hb => ⟨hc.1.trans (hb.mono hc.1.size), Nat.le_trans hc.2.1 hb.size, hc.2.2.1.below hb, hc.2.2.2.1.below hb, hc.2.2.2.2.1.below hb, hc.2.2.2.2.2.1.below hb, trivial⟩) (reg.rl_keep _) (⟨B15.out, Nat.le_refl _, F17.out, F18.out, F19.out, F20.out, trivial⟩) (by kernel_rfl) ⟨?_, ?_, ?_, ?_, ?_, ?_, trivial⟩ ?_
  · refine fun w8 hc  K hK => ?_
    (try simp only [Act.put, List.setIfInBounds_toArray, List.set_cons_zero, List.set_cons_succ])
    rw [if_pos (by rfl)]
    refine stw.wp_load_bx 50 _ rfl (w.heap.size) rfl 50 _ hc.2.2.1 Try.underlying50 rfl szLQ ?_
    exact hK _ _ rfl (Below.refl _ _)
  · refine fun w8 hc v0 h0 K hK => ?_
    obtain rfl : v0 = .agg #[.slice A n cap, .int .i64 d] := h0
    (try simp only [Act.put, List.setIfInBounds_toArray, List.set_cons_zero, List.set_cons_succ])
    go_simp
    (with_reducible refine (toQue ms d A n cap _ _ HN.out HBD.out _ hc.2.2.2.1).mono ?_)
    rintro e w3 hp
    obtain ⟨A2, m2, c2, es2, rfl, g9, ho, hb⟩ := q_parts2 hp
    exact hK _ _ ⟨A2, m2, c2, _, _, es2, rfl, g9, ho⟩ hb
  · refine fun w8 hc  K hK => ?_
    (try simp only [Act.put, List.setIfInBounds_toArray, List.set_cons_zero, List.set_cons_succ])
    rw [if_pos (by rfl)]
    refine stw.wp_load_bx 50 _ rfl (w.heap.size + 1) rfl 50 _ hc.2.2.2.2.1 Try.underlying50 rfl szLQ ?_
    exact hK _ _ rfl (Below.refl _ _)
  · refine fun w8 hc v2 h2 K hK => ?_
    obtain rfl : v2 = .agg #[.slice A2 n2 cap2, .int .i64 d2] := h2
    (try simp only [Act.put, List.setIfInBounds_toArray, List.set_cons_zero, List.set_cons_succ])
    go_simp
    (with_reducible refine (toQue ms2 d2 A2 n2 cap2 _ _ HN2.out HBD2.out _ hc.2.2.2.2.2.1).mono ?_)
    rintro e w3 hp
    obtain ⟨A2, m2, c2, es2, rfl, g9, ho, hb⟩ := q_parts2 hp
    exact hK _ _ ⟨A2, m2, c2, _, _, es2, rfl, g9, ho⟩ hb
  · refine fun w8 hc v1 h1 v3 h3 K hK => ?_
    obtain ⟨A1_, n1_, c1_, lo1_, hi1_, es1_, rfl, hE1, hO1⟩ := h1
    obtain ⟨A3_, n3_, c3_, lo3_, hi3_, es3_, rfl, hE3, hO3⟩ := h3
    (try simp only [Act.put, List.setIfInBounds_toArray, List.set_cons_zero, List.set_cons_succ])
    go_simp
    (with_reducible refine (specEq ms ms2 d d2 A1_ n1_ c1_ _ _ A3_ n3_ c3_ _ _ _ (rq_of hE1 hO1) (rq_of hE3 hO3)).mono ?_)
    rintro e w3 hp
    obtain ⟨rfl, hb⟩ := b_parts VB.out hp
    exact hK _ _ rfl hb
  · refine fun w8 hc v4 h4 K hK => ?_
    obtain rfl : v4 = .bool vb := h4
    (try simp only [Act.put, List.setIfInBounds_toArray, List.set_cons_zero, List.set_cons_succ])
    go_simp
    exact hK (.bool vb) _ rfl (Below.refl _ _)
  refine fun w21 hc v0 h0 v1 h1 v2 h2 v3 h3 v4 h4 v5 h5 => ?_
  obtain rfl : v0 = .agg #[.slice A n cap, .int .i64 d] := h0
  obtain ⟨A1_, n1_, c1_, lo1_, hi1_, es1_, rfl, hE1, hO1⟩ := h1
  obtain rfl : v2 = .agg #[.slice A2 n2 cap2, .int .i64 d2] := h2
  obtain ⟨A3_, n3_, c3_, lo3_, hi3_, es3_, rfl, hE3, hO3⟩ := h3
  obtain rfl : v4 = .bool vb := h4
  obtain rfl : v5 = .bool vb := h5
  (try simp only [reg.Obs])
  (try simp only [Act.put, List.setIfInBounds_toArray, List.set_cons_zero, List.set_cons_succ])
  have B22 := Lib.hid hc.1
  have S23 := Lib.hid hc.2.1
  have F24 := Lib.hid hc.2.2.1
  have F25 := Lib.hid hc.2.2.2.1
  have F26 := Lib.hid hc.2.2.2.2.1
  have F27 := Lib.hid hc.2.2.2.2.2.1
  clear hc hE1 hO1 hE3 hO3 B15 F17 F18 F19 F20
  have cc0_0 : w21.cell? ⟨w.heap.size, 0, none⟩ = some (.slice A n cap) := F24.out.cell 0
  have cc0_1 : w21.cell? ⟨w.heap.size, 1, none⟩ = some (.int .i64 d) := F24.out.cell 1
  go_wp2_with fail
  clear cc0_0 cc0_1
  (with_reducible refine (toQue ms d A n cap _ _ HN.out HBD.out _ F25.out).mono ?_)
  rintro e w28 hp
  obtain ⟨A29, m30, c31, es32, rfl, g9, ho, hb⟩ := q_parts2 hp
  clear hp
  obtain rfl : n = m30 := (by have h1 := ho.len; have h2 := congrArg List.length g9; have h3 := HLN.out; simp at h2; omega)
  have HE33 := Lib.hid g9
  clear g9
  have F34 := Lib.hid ho
  clear ho
  have S36 := Lib.hid (hb.size)
  have B35 := Lib.hid (B22.out.trans (hb.mono B22.out.size))
  clear B22
  have F37 := Lib.hid (F24.out.below hb)
  clear F24
  have F38 := Lib.hid (F25.out.below hb)
  clear F25
  have F39 := Lib.hid (F26.out.below hb)
  clear F26
  have F40 := Lib.hid (F27.out.below hb)
  clear F27
  clear hb
  obtain ⟨V41, hV41⟩ : ∃ x, x = w28.alloc (.cells #[.slice A29 n c31, .int .i64 d] 26) := ⟨_, rfl⟩
  have hbV41 : Below w28.heap.size w28 V41 := by rw [hV41]; exact bx.below_box _ _
  have S42 := Lib.hid (show w28.heap.size + 1 ≤ V41.heap.size by rw [hV41]; simp)
  have S44 := Lib.hid (hbV41.size)
  have B43 := Lib.hid (B35.out.trans (hbV41.mono B35.out.size))
  clear B35
  have F45 := Lib.hid (F37.out.below hbV41)
  clear F37
  have F46 := Lib.hid (F38.out.below hbV41)
  clear F38
  have F47 := Lib.hid (F39.out.below hbV41)
  clear F39
  have F48 := Lib.hid (F40.out.below hbV41)
  clear F40
  have F49 := Lib.hid (F34.out.below hbV41)
  clear F34
  have X50 := Lib.hid (show bx.Bx 26 V41 w28.heap.size #[.slice A29 n c31, .int .i64 d] by rw [hV41]; exact bx.Bx.made _ _ _)
  clear hbV41
  have cc0_0 : (w28.alloc (.cells #[.slice A29 n c31, .int .i64 d] 26)).cell? ⟨w.heap.size + 1, 0, none⟩ = some (.slice A2 n2 cap2) := by rw [← hV41]; exact F47.out.cell 0
  have cc0_1 : (w28.alloc (.cells #[.slice A29 n c31, .int .i64 d] 26)).cell? ⟨w.heap.size + 1, 1, none⟩ = some (.int .i64 d2) := by rw [← hV41]; exact F47.out.cell 1
  go_wp2_with fail
  rw [← hV41]
  clear hV41 cc0_0 cc0_1
  (with_reducible refine (toQue ms2 d2 A2 n2 cap2 _ _ HN2.out HBD2.out _ F48.out).mono ?_)
  rintro e w51 hp
  obtain ⟨A52, m53, c54, es55, rfl, g9, ho, hb⟩ := q_parts2 hp
  clear hp
  obtain rfl : n2 = m53 := (by have h1 := ho.len; have h2 := congrArg List.length g9; have h3 := HLN2.out; simp at h2; omega)
  have HE56 := Lib.hid g9
  clear g9
  have F57 := Lib.hid ho
  clear ho
  have S59 := Lib.hid (hb.size)
  have B58 := Lib.hid (B43.out.trans (hb.mono B43.out.size))
  clear B43
  have F60 := Lib.hid (F45.out.below hb)
  clear F45
  have F61 := Lib.hid (F46.out.below hb)
  clear F46
  have F62 := Lib.hid (F47.out.below hb)
  clear F47
  have F63 := Lib.hid (F48.out.below hb)
  clear F48
  have F64 := Lib.hid (F49.out.below hb)
  clear F49
  have F65 := Lib.hid (X50.out.below hb)
  clear X50
  clear hb
  obtain ⟨V66, hV66⟩ : ∃ x, x = w51.alloc (.cells #[.slice A52 n2 c54, .int .i64 d2] 26) := ⟨_, rfl⟩
  have hbV66 : Below w51.heap.size w51 V66 := by rw [hV66]; exact bx.below_box _ _
  have S67 := Lib.hid (show w51.heap.size + 1 ≤ V66.heap.size by rw [hV66]; simp)
  have S69 := Lib.hid (hbV66.size)
  have B68 := Lib.hid (B58.out.trans (hbV66.mono B58.out.size))
  clear B58
  have F70 := Lib.hid (F60.out.below hbV66)
  clear F60
  have F71 := Lib.hid (F61.out.below hbV66)
  clear F61
  have F72 := Lib.hid (F62.out.below hbV66)
  clear F62
  have F73 := Lib.hid (F63.out.below hbV66)
  clear F63
  have F74 := Lib.hid (F64.out.below hbV66)
  clear F64
  have F75 := Lib.hid (F65.out.below hbV66)
  clear F65
  have F76 := Lib.hid (F57.out.below hbV66)
  clear F57
  have X77 := Lib.hid (show bx.Bx 26 V66 w51.heap.size #[.slice A52 n2 c54, .int .i64 d2] by rw [hV66]; exact bx.Bx.made _ _ _)
  clear hbV66
  have cc0_0 : (w51.alloc (.cells #[.slice A52 n2 c54, .int .i64 d2] 26)).cell? ⟨w28.heap.size, 0, none⟩ = some (.slice A29 n c31) := by rw [← hV66]; exact F75.out.cell 0
  have cc0_1 : (w51.alloc (.cells #[.slice A52 n2 c54, .int .i64 d2] 26)).cell? ⟨w28.heap.size, 1, none⟩ = some (.int .i64 d) := by rw [← hV66]; exact F75.out.cell 1
  have cc1_0 : (w51.alloc (.cells #[.slice A52 n2 c54, .int .i64 d2] 26)).cell? ⟨w51.heap.size, 0, none⟩ = some (.slice A52 n2 c54) := by rw [← hV66]; exact X77.out.cell 0
  have cc1_1 : (w51.alloc (.cells #[.slice A52 n2 c54, .int .i64 d2] 26)).cell? ⟨w51.heap.size, 1, none⟩ = some (.int .i64 d2) := by rw [← hV66]; exact X77.out.cell 1
  go_wp2_with fail
  rw [← hV66]
  clear hV66 cc0_0 cc0_1 cc1_0 cc1_1
  (with_reducible refine (implEq ms ms2 d d2 A29 n c31 _ _ A52 n2 c54 _ _ _ (rq_of HE33.out F74.out) (rq_of HE56.out F76.out)).mono ?_)
  rintro e w78 hp
  obtain ⟨rfl, hb⟩ := b_parts VB.out hp
  clear hp
  have S80 := Lib.hid (hb.size)
  have B79 := Lib.hid (B68.out.trans (hb.mono B68.out.size))
  clear B68
  have F81 := Lib.hid (F70.out.below hb)
  clear F70
  have F82 := Lib.hid (F71.out.below hb)
  clear F71
  have F83 := Lib.hid (F72.out.below hb)
  clear F72
  have F84 := Lib.hid (F73.out.below hb)
  clear F73
  have F85 := Lib.hid (F74.out.below hb)
  clear F74
  have F86 := Lib.hid (F75.out.below hb)
  clear F75
  have F87 := Lib.hid (F76.out.below hb)
  clear F76
  have F88 := Lib.hid (X77.out.below hb)
  clear X77
  clear hb
  go_wp2_with fail
  have hbd : Below w78.heap.size w78 w78.drew := own.below_drew (Below.refl _ _)
  have S90 := Lib.hid (hbd.size)
  have B89 := Lib.hid (B79.out.trans (hbd.mono B79.out.size))
  clear B79
  have F91 := Lib.hid (F81.out.below hbd)
  clear F81
  have F92 := Lib.hid (F82.out.below hbd)
  clear F82
  have F93 := Lib.hid (F83.out.below hbd)
  clear F83
  have F94 := Lib.hid (F84.out.below hbd)
  clear F84
  have F95 := Lib.hid (F85.out.below hbd)
  clear F85
  have F96 := Lib.hid (F86.out.below hbd)
  clear F86
  have F97 := Lib.hid (F87.out.below hbd)
  clear F87
  have F98 := Lib.hid (F88.out.below hbd)
  clear F88
  clear hbd
  have ca0_0 : w78.drew.cell? ⟨w28.heap.size, 0, none⟩ = some (.slice A29 n c31) := F96.out.cell 0
  have ca0_1 : w78.drew.cell? ⟨w28.heap.size, 1, none⟩ = some (.int .i64 d) := F96.out.cell 1
  have ca1_0 : w78.drew.cell? ⟨w.heap.size, 0, none⟩ = some (.slice A n cap) := F91.out.cell 0
  have ca1_1 : w78.drew.cell? ⟨w.heap.size, 1, none⟩ = some (.int .i64 d) := F91.out.cell 1
  go_region_held3 (fun w' => w'.cell? ⟨w28.heap.size, 0, none⟩ = some (.slice A29 n c31) ∧ w'.cell? ⟨w28.heap.size, 1, none⟩ = some (.int .i64 d) ∧ w'.cell? ⟨w.heap.size, 0, none⟩ = some (.slice A n cap) ∧ w'.cell? ⟨w.heap.size, 1, none⟩ = some (.int .i64 d)) (first | (with_reducible exact ⟨ca0_0, ca0_1, ca1_0, ca1_1⟩) | (with_reducible exact ⟨cb0_0, cb0_1, cb1_0, cb1_1⟩) | (with_reducible exact ⟨cd0_0, cd0_1, cd1_0, cd1_1⟩))
    (first
    | (go_at_call 33; refine (toQue ms d A n cap _ _ HN.out HBD.out _ F92.out).mono ?_; rintro e w99 hp; obtain ⟨A101, m102, c103, es104, rfl, g9, ho, hb⟩ := q_parts2 hp; clear hp; obtain rfl : n = m102 := (by have h1 := ho.len; have h2 := congrArg List.length g9; have h3 := HLN.out; simp at h2; omega); have HE105 := Lib.hid g9; clear g9; have F106 := Lib.hid ho; clear ho; have S108 := Lib.hid (hb.size); have B107 := Lib.hid (B89.out.trans (hb.mono B89.out.size)); clear B89; have F109 := Lib.hid (F91.out.below hb); clear F91; have F110 := Lib.hid (F92.out.below hb); clear F92; have F111 := Lib.hid (F93.out.below hb); clear F93; have F112 := Lib.hid (F94.out.below hb); clear F94; have F113 := Lib.hid (F95.out.below hb); clear F95; have F114 := Lib.hid (F96.out.below hb); clear F96; have F115 := Lib.hid (F97.out.below hb); clear F97; have F116 := Lib.hid (F98.out.below hb); clear F98; clear hb; have cb0_0 : w99.cell? ⟨w28.heap.size, 0, none⟩ = some (.slice A29 n c31) := F114.out.cell 0; have cb0_1 : w99.cell? ⟨w28.heap.size, 1, none⟩ = some (.int .i64 d) := F114.out.cell 1; have cb1_0 : w99.cell? ⟨w.heap.size, 0, none⟩ = some (.slice A n cap) := F109.out.cell 0; have cb1_1 : w99.cell? ⟨w.heap.size, 1, none⟩ = some (.int .i64 d) := F109.out.cell 1)
    | (go_at_call 34; refine (eqQue_yes ms d A29 A101 n c31 n c103 _ _ _ _ _ (rq_of HE33.out F113.out) (rq_of HE105.out F106.out)).mono ?_; rintro e w100 ⟨rfl, hb⟩; have S118 := Lib.hid (hb.size); have B117 := Lib.hid (B107.out.trans (hb.mono B107.out.size)); clear B107; have F119 := Lib.hid (F109.out.below hb); clear F109; have F120 := Lib.hid (F110.out.below hb); clear F110; have F121 := Lib.hid (F111.out.below hb); clear F111; have F122 := Lib.hid (F112.out.below hb); clear F112; have F123 := Lib.hid (F113.out.below hb); clear F113; have F124 := Lib.hid (F114.out.below hb); clear F114; have F125 := Lib.hid (F115.out.below hb); clear F115; have F126 := Lib.hid (F116.out.below hb); clear F116; clear hb; have cd0_0 : w100.cell? ⟨w28.heap.size, 0, none⟩ = some (.slice A29 n c31) := F124.out.cell 0; have cd0_1 : w100.cell? ⟨w28.heap.size, 1, none⟩ = some (.int .i64 d) := F124.out.cell 1; have cd1_0 : w100.cell? ⟨w.heap.size, 0, none⟩ = some (.slice A n cap) := F119.out.cell 0; have cd1_1 : w100.cell? ⟨w.heap.size, 1, none⟩ = some (.int .i64 d) := F119.out.cell 1))
  clear ca0_0 ca0_1 ca1_0 ca1_1 cb0_0 cb0_1 cb1_0 cb1_1 cd0_0 cd0_1 cd1_0 cd1_1
  go_wp2_with fail
  have hbd : Below w100.heap.size w100 w100.drew := own.below_drew (Below.refl _ _)
  have S128 := Lib.hid (hbd.size)
  have B127 := Lib.hid (B117.out.trans (hbd.mono B117.out.size))
  clear B117
  have F129 := Lib.hid (F119.out.below hbd)
  clear F119
  have F130 := Lib.hid (F120.out.below hbd)
  clear F120
  have F131 := Lib.hid (F121.out.below hbd)
  clear F121
  have F132 := Lib.hid (F122.out.below hbd)
  clear F122
  have F133 := Lib.hid (F123.out.below hbd)
  clear F123
  have F134 := Lib.hid (F124.out.below hbd)
  clear F124
  have F135 := Lib.hid (F125.out.below hbd)
  clear F125
  have F136 := Lib.hid (F126.out.below hbd)
  clear F126
  clear hbd
  have ca0_0 : w100.drew.cell? ⟨w51.heap.size, 0, none⟩ = some (.slice A52 n2 c54) := F136.out.cell 0
  have ca0_1 : w100.drew.cell? ⟨w51.heap.size, 1, none⟩ = some (.int .i64 d2) := F136.out.cell 1
  have ca1_0 : w100.drew.cell? ⟨w.heap.size + 1, 0, none⟩ = some (.slice A2 n2 cap2) := F131.out.cell 0
  have ca1_1 : w100.drew.cell? ⟨w.heap.size + 1, 1, none⟩ = some (.int .i64 d2) := F131.out.cell 1
  go_region_held3 (fun w' => w'.cell? ⟨w51.heap.size, 0, none⟩ = some (.slice A52 n2 c54) ∧ w'.cell? ⟨w51.heap.size, 1, none⟩ = some (.int .i64 d2) ∧ w'.cell? ⟨w.heap.size + 1, 0, none⟩ = some (.slice A2 n2 cap2) ∧ w'.cell? ⟨w.heap.size + 1, 1, none⟩ = some (.int .i64 d2)) (first | (with_reducible exact ⟨ca0_0, ca0_1, ca1_0, ca1_1⟩) | (with_reducible exact ⟨cb0_0, cb0_1, cb1_0, cb1_1⟩) | (with_reducible exact ⟨cd0_0, cd0_1, cd1_0, cd1_1⟩))
    (first
    | (go_at_call 33; refine (toQue ms2 d2 A2 n2 cap2 _ _ HN2.out HBD2.out _ F132.out).mono ?_; rintro e w137 hp; obtain ⟨A139, m140, c141, es142, rfl, g9, ho, hb⟩ := q_parts2 hp; clear hp; obtain rfl : n2 = m140 := (by have h1 := ho.len; have h2 := congrArg List.length g9; have h3 := HLN2.out; simp at h2; omega); have HE143 := Lib.hid g9; clear g9; have F144 := Lib.hid ho; clear ho; have S146 := Lib.hid (hb.size); have B145 := Lib.hid (B127.out.trans (hb.mono B127.out.size)); clear B127; have F147 := Lib.hid (F129.out.below hb); clear F129; have F148 := Lib.hid (F130.out.below hb); clear F130; have F149 := Lib.hid (F131.out.below hb); clear F131; have F150 := Lib.hid (F132.out.below hb); clear F132; have F151 := Lib.hid (F133.out.below hb); clear F133; have F152 := Lib.hid (F134.out.below hb); clear F134; have F153 := Lib.hid (F135.out.below hb); clear F135; have F154 := Lib.hid (F136.out.below hb); clear F136; clear hb; have cb0_0 : w137.cell? ⟨w51.heap.size, 0, none⟩ = some (.slice A52 n2 c54) := F154.out.cell 0; have cb0_1 : w137.cell? ⟨w51.heap.size, 1, none⟩ = some (.int .i64 d2) := F154.out.cell 1; have cb1_0 : w137.cell? ⟨w.heap.size + 1, 0, none⟩ = some (.slice A2 n2 cap2) := F149.out.cell 0; have cb1_1 : w137.cell? ⟨w.heap.size + 1, 1, none⟩ = some (.int .i64 d2) := F149.out.cell 1)
    | (go_at_call 34; refine (eqQue_yes ms2 d2 A52 A139 n2 c54 n2 c141 _ _ _ _ _ (rq_of HE56.out F153.out) (rq_of HE143.out F144.out)).mono ?_; rintro e w138 ⟨rfl, hb⟩; have S156 := Lib.hid (hb.size); have B155 := Lib.hid (B145.out.trans (hb.mono B145.out.size)); clear B145; have F157 := Lib.hid (F147.out.below hb); clear F147; have F158 := Lib.hid (F148.out.below hb); clear F148; have F159 := Lib.hid (F149.out.below hb); clear F149; have F160 := Lib.hid (F150.out.below hb); clear F150; have F161 := Lib.hid (F151.out.below hb); clear F151; have F162 := Lib.hid (F152.out.below hb); clear F152; have F163 := Lib.hid (F153.out.below hb); clear F153; have F164 := Lib.hid (F154.out.below hb); clear F154; clear hb; have cd0_0 : w138.cell? ⟨w51.heap.size, 0, none⟩ = some (.slice A52 n2 c54) := F164.out.cell 0; have cd0_1 : w138.cell? ⟨w51.heap.size, 1, none⟩ = some (.int .i64 d2) := F164.out.cell 1; have cd1_0 : w138.cell? ⟨w.heap.size + 1, 0, none⟩ = some (.slice A2 n2 cap2) := F159.out.cell 0; have cd1_1 : w138.cell? ⟨w.heap.size + 1, 1, none⟩ = some (.int .i64 d2) := F159.out.cell 1))
  clear ca0_0 ca0_1 ca1_0 ca1_1 cb0_0 cb0_1 cb1_0 cb1_1 cd0_0 cd0_1 cd1_0 cd1_1
  go_wp2_with fail
  go_ret
  exact ⟨rfl, B155.out⟩
end Go.Proofs.Ytbifggfmfiocoaa.xExactEqualQueues
