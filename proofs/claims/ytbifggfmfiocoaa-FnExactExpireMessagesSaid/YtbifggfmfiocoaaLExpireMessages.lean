/- The law function of FnExactExpireMessages returns true and leaves what was there. Condition: the slices among the arguments are slices that came in. -/
import Derived.Test.YtbifggfmfiocoaaQlw
import Derived.Deep.RegionHeld3
namespace Go.Proofs.Ytbifggfmfiocoaa.xExactExpireMessages
open Go.RowKit sl harn bx mrw mq
set_option linter.unusedVariables false
set_option maxRecDepth 100000 in
set_option maxHeartbeats 4000000 in
theorem walk (ms : List Msg) (d : Int) (A : Option Addr) (n cap : Nat) (t : Int) (w : World) (row0 : Rq msg w 0 w.heap.size A n cap ms) :
    Calls Try.prog 10 #[qV A n cap d, .int .i64 t] w fun e w' => e = .returned (.bool true) ∧ Below w.heap.size w w' := by
  have R0 := Lib.hid row0
  have HLN := Lib.hid row0.len
  have hn0 : n ≤ cap ∧ cap ≤ 9223372036854775807 := row0.cap_
  clear row0
  have B0 := Lib.hid (Below.refl w.heap.size w)
  go_enter Try.func10, Try.ntmps10
  go_wp2_with fail
  obtain ⟨W0, hW0⟩ : ∃ y, w.alloc (.cells #[.slice A n cap, .int .i64 d] 50) = y := ⟨_, rfl⟩
  rw [hW0]
  have hb0 : Below w.heap.size w W0 := by rw [← hW0]; exact bx.below_box _ _
  have LB0 := Lib.hid (show bx.Bx 50 W0 w.heap.size #[.slice A n cap, .int .i64 d] by rw [← hW0]; exact bx.Bx.made _ _ _)
  have S00 := Lib.hid (show w.heap.size + 1 ≤ W0.heap.size by rw [← hW0]; simp)
  clear hW0
  have R0 := Lib.hid (R0.out.below hb0)
  have B0 := Lib.hid hb0
  clear hb0
  (with_reducible refine (szQue ms d A n cap _ _ 1048576 (by omega) _ R0.out).mono ?_)
  rintro e w1 ⟨r0, rfl, hr, hb⟩
  rcases hr with ⟨hr1, hlt⟩ | ⟨hrl, hle⟩
  · subst hr1
    go_wp2_with fail
    go_ret
    exact ⟨rfl, B0.out.trans (hb.mono B0.out.size)⟩
  have hng0 : ¬ r0 < 0 := by omega
  have S3 := Lib.hid (hb.size)
  have B2 := Lib.hid (B0.out.trans (hb.mono B0.out.size))
  clear B0
  have F4 := Lib.hid (LB0.out.below hb)
  clear LB0
  have F5 := Lib.hid (R0.out.below hb)
  clear R0
  clear hb
  have hq0 : n + blk ms ≤ 1048576 := by omega
  have HR0 := Lib.hid (show 0 ≤ r0 ∧ r0 ≤ 1048576 by omega)
  clear hrl hle
  have HN := Lib.hid (show n ≤ 67108864 by omega)
  have BD0 := Lib.hid (bd_of (List.Sublist.refl ms) (by rw [HLN.out]; omega))
  have HBD := Lib.hid BD0.out.1
  have HQ0 := Lib.hid hq0
  clear hq0
  obtain ⟨⟨l1, d1⟩, hvb⟩ : ∃ p : List Msg × Int, (keep t ms n, drp t ms d n) = p := ⟨_, rfl⟩
  have VQ := Lib.hid hvb
  have BD1 := Lib.hid (show Bd l1 from bd_of (ms := ms) (by have h9 := congrArg Prod.fst hvb; dsimp only at h9; rw [← h9]; exact keep_sub2 t ms n HLN.out) (by rw [HLN.out]; have := HQ0.out; omega))
  clear hvb
  have cc0_0 : w1.cell? ⟨w.heap.size, 0, none⟩ = some (.slice A n cap) := F4.out.cell 0
  have cc0_1 : w1.cell? ⟨w.heap.size, 1, none⟩ = some (.int .i64 d) := F4.out.cell 1
  go_wp2_with fail
  clear cc0_0 cc0_1
  (with_reducible refine (toQue ms d A n cap _ _ HN.out HBD.out _ F5.out).mono ?_)
  rintro e w6 hp
  obtain ⟨A7, m8, c9, es10, rfl, g9, ho, hb⟩ := q_parts2 hp
  clear hp
  obtain rfl : n = m8 := (by have h1 := ho.len; have h2 := congrArg List.length g9; have h3 := HLN.out; simp at h2; omega)
  have HE11 := Lib.hid g9
  clear g9
  have F12 := Lib.hid ho
  clear ho
  have S14 := Lib.hid (hb.size)
  have B13 := Lib.hid (B2.out.trans (hb.mono B2.out.size))
  clear B2
  have F15 := Lib.hid (F4.out.below hb)
  clear F4
  have F16 := Lib.hid (F5.out.below hb)
  clear F5
  clear hb
  go_wp2_with fail
  (with_reducible refine (specXp t ms d A7 n c9 _ _ HN.out HBD.out _ (rq_of HE11.out F12.out)).mono ?_)
  rw [VQ.out]
  rintro e w17 hp
  obtain ⟨A18, m19, c20, es21, rfl, g9, ho, hb⟩ := q_parts2 hp
  clear hp
  have HE22 := Lib.hid g9
  clear g9
  have F23 := Lib.hid ho
  clear ho
  have S25 := Lib.hid (hb.size)
  have B24 := Lib.hid (B13.out.trans (hb.mono B13.out.size))
  clear B13
  have F26 := Lib.hid (F15.out.below hb)
  clear F15
  have F27 := Lib.hid (F16.out.below hb)
  clear F16
  have F28 := Lib.hid (F12.out.below hb)
  clear F12
  clear hb
  clear F28
  obtain ⟨V29, hV29⟩ : ∃ x, x = w17.alloc (.cells #[.slice A18 m19 c20, .int .i64 d1] 26) := ⟨_, rfl⟩
  have hbV29 : Below w17.heap.size w17 V29 := by rw [hV29]; exact bx.below_box _ _
  have S30 := Lib.hid (show w17.heap.size + 1 ≤ V29.heap.size by rw [hV29]; simp)
  have S32 := Lib.hid (hbV29.size)
  have B31 := Lib.hid (B24.out.trans (hbV29.mono B24.out.size))
  clear B24
  have F33 := Lib.hid (F26.out.below hbV29)
  clear F26
  have F34 := Lib.hid (F27.out.below hbV29)
  clear F27
  have F35 := Lib.hid (F23.out.below hbV29)
  clear F23
  have X36 := Lib.hid (show bx.Bx 26 V29 w17.heap.size #[.slice A18 m19 c20, .int .i64 d1] by rw [hV29]; exact bx.Bx.made _ _ _)
  clear hbV29
  have cc0_0 : (w17.alloc (.cells #[.slice A18 m19 c20, .int .i64 d1] 26)).cell? ⟨w.heap.size, 0, none⟩ = some (.slice A n cap) := by rw [← hV29]; exact F33.out.cell 0
  have cc0_1 : (w17.alloc (.cells #[.slice A18 m19 c20, .int .i64 d1] 26)).cell? ⟨w.heap.size, 1, none⟩ = some (.int .i64 d) := by rw [← hV29]; exact F33.out.cell 1
  go_wp2_with fail
  rw [← hV29]
  clear hV29 cc0_0 cc0_1
  (with_reducible refine (toQue ms d A n cap _ _ HN.out HBD.out _ F34.out).mono ?_)
  rintro e w37 hp
  obtain ⟨A38, m39, c40, es41, rfl, g9, ho, hb⟩ := q_parts2 hp
  clear hp
  obtain rfl : n = m39 := (by have h1 := ho.len; have h2 := congrArg List.length g9; have h3 := HLN.out; simp at h2; omega)
  have HE42 := Lib.hid g9
  clear g9
  have F43 := Lib.hid ho
  clear ho
  have S45 := Lib.hid (hb.size)
  have B44 := Lib.hid (B31.out.trans (hb.mono B31.out.size))
  clear B31
  have F46 := Lib.hid (F33.out.below hb)
  clear F33
  have F47 := Lib.hid (F34.out.below hb)
  clear F34
  have F48 := Lib.hid (F35.out.below hb)
  clear F35
  have F49 := Lib.hid (X36.out.below hb)
  clear X36
  clear hb
  obtain ⟨V50, hV50⟩ : ∃ x, x = w37.alloc (.cells #[.slice A38 n c40, .int .i64 d] 26) := ⟨_, rfl⟩
  have hbV50 : Below w37.heap.size w37 V50 := by rw [hV50]; exact bx.below_box _ _
  have S51 := Lib.hid (show w37.heap.size + 1 ≤ V50.heap.size by rw [hV50]; simp)
  have S53 := Lib.hid (hbV50.size)
  have B52 := Lib.hid (B44.out.trans (hbV50.mono B44.out.size))
  clear B44
  have F54 := Lib.hid (F46.out.below hbV50)
  clear F46
  have F55 := Lib.hid (F47.out.below hbV50)
  clear F47
  have F56 := Lib.hid (F48.out.below hbV50)
  clear F48
  have F57 := Lib.hid (F49.out.below hbV50)
  clear F49
  have F58 := Lib.hid (F43.out.below hbV50)
  clear F43
  have X59 := Lib.hid (show bx.Bx 26 V50 w37.heap.size #[.slice A38 n c40, .int .i64 d] by rw [hV50]; exact bx.Bx.made _ _ _)
  clear hbV50
  go_wp2_with fail
  rw [← hV50]
  clear hV50 
  (with_reducible refine (implXp t ms d A38 n c40 _ _ HN.out HBD.out _ (rq_of HE42.out F58.out)).mono ?_)
  rw [VQ.out]
  rintro e w60 hp
  obtain ⟨A61, m62, c63, es64, rfl, g9, ho, hb⟩ := q_parts2 hp
  clear hp
  have HE65 := Lib.hid g9
  clear g9
  have F66 := Lib.hid ho
  clear ho
  have S68 := Lib.hid (hb.size)
  have B67 := Lib.hid (B52.out.trans (hb.mono B52.out.size))
  clear B52
  have F69 := Lib.hid (F54.out.below hb)
  clear F54
  have F70 := Lib.hid (F55.out.below hb)
  clear F55
  have F71 := Lib.hid (F56.out.below hb)
  clear F56
  have F72 := Lib.hid (F57.out.below hb)
  clear F57
  have F73 := Lib.hid (F58.out.below hb)
  clear F58
  have F74 := Lib.hid (X59.out.below hb)
  clear X59
  clear hb
  obtain ⟨V75, hV75⟩ : ∃ x, x = w60.alloc (.cells #[.slice A61 m62 c63, .int .i64 d1] 26) := ⟨_, rfl⟩
  have hbV75 : Below w60.heap.size w60 V75 := by rw [hV75]; exact bx.below_box _ _
  have S76 := Lib.hid (show w60.heap.size + 1 ≤ V75.heap.size by rw [hV75]; simp)
  have S78 := Lib.hid (hbV75.size)
  have B77 := Lib.hid (B67.out.trans (hbV75.mono B67.out.size))
  clear B67
  have F79 := Lib.hid (F69.out.below hbV75)
  clear F69
  have F80 := Lib.hid (F70.out.below hbV75)
  clear F70
  have F81 := Lib.hid (F71.out.below hbV75)
  clear F71
  have F82 := Lib.hid (F72.out.below hbV75)
  clear F72
  have F83 := Lib.hid (F73.out.below hbV75)
  clear F73
  have F84 := Lib.hid (F74.out.below hbV75)
  clear F74
  have F85 := Lib.hid (F66.out.below hbV75)
  clear F66
  have X86 := Lib.hid (show bx.Bx 26 V75 w60.heap.size #[.slice A61 m62 c63, .int .i64 d1] by rw [hV75]; exact bx.Bx.made _ _ _)
  clear hbV75
  have cc0_0 : (w60.alloc (.cells #[.slice A61 m62 c63, .int .i64 d1] 26)).cell? ⟨w60.heap.size, 0, none⟩ = some (.slice A61 m62 c63) := by rw [← hV75]; exact X86.out.cell 0
  have cc0_1 : (w60.alloc (.cells #[.slice A61 m62 c63, .int .i64 d1] 26)).cell? ⟨w60.heap.size, 1, none⟩ = some (.int .i64 d1) := by rw [← hV75]; exact X86.out.cell 1
  have cc1_0 : (w60.alloc (.cells #[.slice A61 m62 c63, .int .i64 d1] 26)).cell? ⟨w17.heap.size, 0, none⟩ = some (.slice A18 m19 c20) := by rw [← hV75]; exact F82.out.cell 0
  have cc1_1 : (w60.alloc (.cells #[.slice A61 m62 c63, .int .i64 d1] 26)).cell? ⟨w17.heap.size, 1, none⟩ = some (.int .i64 d1) := by rw [← hV75]; exact F82.out.cell 1
  go_wp2_with fail
  rw [← hV75]
  clear hV75 cc0_0 cc0_1 cc1_0 cc1_1
  (with_reducible refine (eqQue_yes l1 d1 A61 A18 m62 c63 m19 c20 _ _ _ _ _ (rq_of HE65.out F85.out) (rq_of HE22.out F81.out)).mono ?_)
  rintro e w87 ⟨rfl, hb⟩
  have S89 := Lib.hid (hb.size)
  have B88 := Lib.hid (B77.out.trans (hb.mono B77.out.size))
  clear B77
  have F90 := Lib.hid (F79.out.below hb)
  clear F79
  have F91 := Lib.hid (F80.out.below hb)
  clear F80
  have F92 := Lib.hid (F81.out.below hb)
  clear F81
  have F93 := Lib.hid (F82.out.below hb)
  clear F82
  have F94 := Lib.hid (F83.out.below hb)
  clear F83
  have F95 := Lib.hid (F84.out.below hb)
  clear F84
  have F96 := Lib.hid (F85.out.below hb)
  clear F85
  have F97 := Lib.hid (X86.out.below hb)
  clear X86
  clear hb
  go_wp2_with fail
  have hbd : Below w87.heap.size w87 w87.drew := own.below_drew (Below.refl _ _)
  have S99 := Lib.hid (hbd.size)
  have B98 := Lib.hid (B88.out.trans (hbd.mono B88.out.size))
  clear B88
  have F100 := Lib.hid (F90.out.below hbd)
  clear F90
  have F101 := Lib.hid (F91.out.below hbd)
  clear F91
  have F102 := Lib.hid (F92.out.below hbd)
  clear F92
  have F103 := Lib.hid (F93.out.below hbd)
  clear F93
  have F104 := Lib.hid (F94.out.below hbd)
  clear F94
  have F105 := Lib.hid (F95.out.below hbd)
  clear F95
  have F106 := Lib.hid (F96.out.below hbd)
  clear F96
  have F107 := Lib.hid (F97.out.below hbd)
  clear F97
  clear hbd
  have ca0_0 : w87.drew.cell? ⟨w37.heap.size, 0, none⟩ = some (.slice A38 n c40) := F105.out.cell 0
  have ca0_1 : w87.drew.cell? ⟨w37.heap.size, 1, none⟩ = some (.int .i64 d) := F105.out.cell 1
  have ca1_0 : w87.drew.cell? ⟨w.heap.size, 0, none⟩ = some (.slice A n cap) := F100.out.cell 0
  have ca1_1 : w87.drew.cell? ⟨w.heap.size, 1, none⟩ = some (.int .i64 d) := F100.out.cell 1
  go_region_held3 (fun w' => w'.cell? ⟨w37.heap.size, 0, none⟩ = some (.slice A38 n c40) ∧ w'.cell? ⟨w37.heap.size, 1, none⟩ = some (.int .i64 d) ∧ w'.cell? ⟨w.heap.size, 0, none⟩ = some (.slice A n cap) ∧ w'.cell? ⟨w.heap.size, 1, none⟩ = some (.int .i64 d)) (first | (with_reducible exact ⟨ca0_0, ca0_1, ca1_0, ca1_1⟩) | (with_reducible exact ⟨cb0_0, cb0_1, cb1_0, cb1_1⟩) | (with_reducible exact ⟨cd0_0, cd0_1, cd1_0, cd1_1⟩))
    (first
    | (go_at_call 33; refine (toQue ms d A n cap _ _ HN.out HBD.out _ F101.out).mono ?_; rintro e w108 hp; obtain ⟨A110, m111, c112, es113, rfl, g9, ho, hb⟩ := q_parts2 hp; clear hp; obtain rfl : n = m111 := (by have h1 := ho.len; have h2 := congrArg List.length g9; have h3 := HLN.out; simp at h2; omega); have HE114 := Lib.hid g9; clear g9; have F115 := Lib.hid ho; clear ho; have S117 := Lib.hid (hb.size); have B116 := Lib.hid (B98.out.trans (hb.mono B98.out.size)); clear B98; have F118 := Lib.hid (F100.out.below hb); clear F100; have F119 := Lib.hid (F101.out.below hb); clear F101; have F120 := Lib.hid (F102.out.below hb); clear F102; have F121 := Lib.hid (F103.out.below hb); clear F103; have F122 := Lib.hid (F104.out.below hb); clear F104; have F123 := Lib.hid (F105.out.below hb); clear F105; have F124 := Lib.hid (F106.out.below hb); clear F106; have F125 := Lib.hid (F107.out.below hb); clear F107; clear hb; have cb0_0 : w108.cell? ⟨w37.heap.size, 0, none⟩ = some (.slice A38 n c40) := F123.out.cell 0; have cb0_1 : w108.cell? ⟨w37.heap.size, 1, none⟩ = some (.int .i64 d) := F123.out.cell 1; have cb1_0 : w108.cell? ⟨w.heap.size, 0, none⟩ = some (.slice A n cap) := F118.out.cell 0; have cb1_1 : w108.cell? ⟨w.heap.size, 1, none⟩ = some (.int .i64 d) := F118.out.cell 1)
    | (go_at_call 34; refine (eqQue_yes ms d A38 A110 n c40 n c112 _ _ _ _ _ (rq_of HE42.out F122.out) (rq_of HE114.out F115.out)).mono ?_; rintro e w109 ⟨rfl, hb⟩; have S127 := Lib.hid (hb.size); have B126 := Lib.hid (B116.out.trans (hb.mono B116.out.size)); clear B116; have F128 := Lib.hid (F118.out.below hb); clear F118; have F129 := Lib.hid (F119.out.below hb); clear F119; have F130 := Lib.hid (F120.out.below hb); clear F120; have F131 := Lib.hid (F121.out.below hb); clear F121; have F132 := Lib.hid (F122.out.below hb); clear F122; have F133 := Lib.hid (F123.out.below hb); clear F123; have F134 := Lib.hid (F124.out.below hb); clear F124; have F135 := Lib.hid (F125.out.below hb); clear F125; clear hb; have cd0_0 : w109.cell? ⟨w37.heap.size, 0, none⟩ = some (.slice A38 n c40) := F133.out.cell 0; have cd0_1 : w109.cell? ⟨w37.heap.size, 1, none⟩ = some (.int .i64 d) := F133.out.cell 1; have cd1_0 : w109.cell? ⟨w.heap.size, 0, none⟩ = some (.slice A n cap) := F128.out.cell 0; have cd1_1 : w109.cell? ⟨w.heap.size, 1, none⟩ = some (.int .i64 d) := F128.out.cell 1))
  clear ca0_0 ca0_1 ca1_0 ca1_1 cb0_0 cb0_1 cb1_0 cb1_1 cd0_0 cd0_1 cd1_0 cd1_1
  have cc0_0 : w109.cell? ⟨w37.heap.size, 0, none⟩ = some (.slice A38 n c40) := F133.out.cell 0
  have cc0_1 : w109.cell? ⟨w37.heap.size, 1, none⟩ = some (.int .i64 d) := F133.out.cell 1
  go_wp2_with fail
  clear cc0_0 cc0_1
  (with_reducible refine (markQue ms d A38 n c40 _ _ 1 (by omega) BD0.out.top BD0.out.body _ (oq_of HE42.out F132.out)).mono ?_)
  rintro e w136 ⟨rfl, ho, hb⟩
  obtain ⟨k1, hk9⟩ : ∃ k, 1 + tot ms = k := ⟨_, rfl⟩
  rw [hk9]
  have Hk1 := Lib.hid hk9
  have ngk1 : ¬ k1 < 0 := by have h9 := BD0.out.2.2; rw [hk9] at h9; omega
  clear hk9
  obtain ⟨es137, ge, go⟩ := ho
  have HE138 := Lib.hid ge
  have F139 := Lib.hid go
  clear ge go
  have S141 := Lib.hid (hb.size)
  have B140 := Lib.hid (B126.out.trans (hb.below (by have s0 := S00.out; have s1 := S3.out; have s2 := S14.out; have s3 := S25.out; have s4 := S30.out; have s5 := S32.out; have s6 := S45.out; have s7 := S51.out; have s8 := S53.out; have s9 := S68.out; have s10 := S76.out; have s11 := S78.out; have s12 := S89.out; have s13 := S99.out; have s14 := S117.out; have s15 := S127.out; omega) B126.out.size))
  clear B126
  have F142 := Lib.hid (F128.out.tch hb (by have s0 := S00.out; have s1 := S3.out; have s2 := S14.out; have s3 := S25.out; have s4 := S30.out; have s5 := S32.out; have s6 := S45.out; have s7 := S51.out; have s8 := S53.out; have s9 := S68.out; have s10 := S76.out; have s11 := S78.out; have s12 := S89.out; have s13 := S99.out; have s14 := S117.out; have s15 := S127.out; have s16 := S141.out; omega))
  clear F128
  have F143 := Lib.hid (F129.out.tch hb (by have s0 := S00.out; have s1 := S3.out; have s2 := S14.out; have s3 := S25.out; have s4 := S30.out; have s5 := S32.out; have s6 := S45.out; have s7 := S51.out; have s8 := S53.out; have s9 := S68.out; have s10 := S76.out; have s11 := S78.out; have s12 := S89.out; have s13 := S99.out; have s14 := S117.out; have s15 := S127.out; have s16 := S141.out; omega))
  clear F129
  have F144 := Lib.hid (F130.out.tch hb (by have s0 := S00.out; have s1 := S3.out; have s2 := S14.out; have s3 := S25.out; have s4 := S30.out; have s5 := S32.out; have s6 := S45.out; have s7 := S51.out; have s8 := S53.out; have s9 := S68.out; have s10 := S76.out; have s11 := S78.out; have s12 := S89.out; have s13 := S99.out; have s14 := S117.out; have s15 := S127.out; have s16 := S141.out; omega))
  clear F130
  have F145 := Lib.hid (F131.out.tch hb (by have s0 := S00.out; have s1 := S3.out; have s2 := S14.out; have s3 := S25.out; have s4 := S30.out; have s5 := S32.out; have s6 := S45.out; have s7 := S51.out; have s8 := S53.out; have s9 := S68.out; have s10 := S76.out; have s11 := S78.out; have s12 := S89.out; have s13 := S99.out; have s14 := S117.out; have s15 := S127.out; have s16 := S141.out; omega))
  clear F131
  have F146 := Lib.hid (F133.out.tch hb (by have s0 := S00.out; have s1 := S3.out; have s2 := S14.out; have s3 := S25.out; have s4 := S30.out; have s5 := S32.out; have s6 := S45.out; have s7 := S51.out; have s8 := S53.out; have s9 := S68.out; have s10 := S76.out; have s11 := S78.out; have s12 := S89.out; have s13 := S99.out; have s14 := S117.out; have s15 := S127.out; have s16 := S141.out; omega))
  clear F133
  have F147 := Lib.hid (F134.out.tch hb (by have s0 := S00.out; have s1 := S3.out; have s2 := S14.out; have s3 := S25.out; have s4 := S30.out; have s5 := S32.out; have s6 := S45.out; have s7 := S51.out; have s8 := S53.out; have s9 := S68.out; have s10 := S76.out; have s11 := S78.out; have s12 := S89.out; have s13 := S99.out; have s14 := S117.out; have s15 := S127.out; have s16 := S141.out; omega))
  clear F134
  have F148 := Lib.hid (F135.out.tch hb (by have s0 := S00.out; have s1 := S3.out; have s2 := S14.out; have s3 := S25.out; have s4 := S30.out; have s5 := S32.out; have s6 := S45.out; have s7 := S51.out; have s8 := S53.out; have s9 := S68.out; have s10 := S76.out; have s11 := S78.out; have s12 := S89.out; have s13 := S99.out; have s14 := S117.out; have s15 := S127.out; have s16 := S141.out; omega))
  clear F135
  clear hb
  clear F132 HE42
  clear F146
  clear F139
  have cc0_0 : w136.cell? ⟨w60.heap.size, 0, none⟩ = some (.slice A61 m62 c63) := F148.out.cell 0
  have cc0_1 : w136.cell? ⟨w60.heap.size, 1, none⟩ = some (.int .i64 d1) := F148.out.cell 1
  have cc1_0 : w136.cell? ⟨w17.heap.size, 0, none⟩ = some (.slice A18 m19 c20) := F145.out.cell 0
  have cc1_1 : w136.cell? ⟨w17.heap.size, 1, none⟩ = some (.int .i64 d1) := F145.out.cell 1
  go_wp2_with fail
  clear cc0_0 cc0_1 cc1_0 cc1_1
  (with_reducible refine (eqQue_yes l1 d1 A61 A18 m62 c63 m19 c20 _ _ _ _ _ (rq_of HE65.out F147.out) (rq_of HE22.out F144.out)).mono ?_)
  rintro e w149 ⟨rfl, hb⟩
  have S151 := Lib.hid (hb.size)
  have B150 := Lib.hid (B140.out.trans (hb.mono B140.out.size))
  clear B140
  have F152 := Lib.hid (F142.out.below hb)
  clear F142
  have F153 := Lib.hid (F143.out.below hb)
  clear F143
  have F154 := Lib.hid (F144.out.below hb)
  clear F144
  have F155 := Lib.hid (F145.out.below hb)
  clear F145
  have F156 := Lib.hid (F147.out.below hb)
  clear F147
  have F157 := Lib.hid (F148.out.below hb)
  clear F148
  clear hb
  have cc0_0 : w149.cell? ⟨w60.heap.size, 0, none⟩ = some (.slice A61 m62 c63) := F157.out.cell 0
  have cc0_1 : w149.cell? ⟨w60.heap.size, 1, none⟩ = some (.int .i64 d1) := F157.out.cell 1
  go_wp2_with fail
  clear cc0_0 cc0_1
  (with_reducible refine (markQue l1 d1 A61 m62 c63 _ _ 1 (by omega) BD1.out.top BD1.out.body _ (oq_of HE65.out F156.out)).mono ?_)
  rintro e w158 ⟨rfl, ho, hb⟩
  obtain ⟨k2, hk9⟩ : ∃ k, 1 + tot l1 = k := ⟨_, rfl⟩
  rw [hk9]
  have Hk2 := Lib.hid hk9
  have ngk2 : ¬ k2 < 0 := by have h9 := BD1.out.2.2; rw [hk9] at h9; omega
  clear hk9
  obtain ⟨es159, ge, go⟩ := ho
  have HE160 := Lib.hid ge
  have F161 := Lib.hid go
  clear ge go
  have S163 := Lib.hid (hb.size)
  have B162 := Lib.hid (B150.out.trans (hb.below (by have s0 := S00.out; have s1 := S3.out; have s2 := S14.out; have s3 := S25.out; have s4 := S30.out; have s5 := S32.out; have s6 := S45.out; have s7 := S51.out; have s8 := S53.out; have s9 := S68.out; have s10 := S76.out; have s11 := S78.out; have s12 := S89.out; have s13 := S99.out; have s14 := S117.out; have s15 := S127.out; have s16 := S141.out; have s17 := S151.out; omega) B150.out.size))
  clear B150
  have F164 := Lib.hid (F152.out.tch hb (by have s0 := S00.out; have s1 := S3.out; have s2 := S14.out; have s3 := S25.out; have s4 := S30.out; have s5 := S32.out; have s6 := S45.out; have s7 := S51.out; have s8 := S53.out; have s9 := S68.out; have s10 := S76.out; have s11 := S78.out; have s12 := S89.out; have s13 := S99.out; have s14 := S117.out; have s15 := S127.out; have s16 := S141.out; have s17 := S151.out; have s18 := S163.out; omega))
  clear F152
  have F165 := Lib.hid (F153.out.tch hb (by have s0 := S00.out; have s1 := S3.out; have s2 := S14.out; have s3 := S25.out; have s4 := S30.out; have s5 := S32.out; have s6 := S45.out; have s7 := S51.out; have s8 := S53.out; have s9 := S68.out; have s10 := S76.out; have s11 := S78.out; have s12 := S89.out; have s13 := S99.out; have s14 := S117.out; have s15 := S127.out; have s16 := S141.out; have s17 := S151.out; have s18 := S163.out; omega))
  clear F153
  have F166 := Lib.hid (F154.out.tch hb (by have s0 := S00.out; have s1 := S3.out; have s2 := S14.out; have s3 := S25.out; have s4 := S30.out; have s5 := S32.out; have s6 := S45.out; have s7 := S51.out; have s8 := S53.out; have s9 := S68.out; have s10 := S76.out; have s11 := S78.out; have s12 := S89.out; have s13 := S99.out; have s14 := S117.out; have s15 := S127.out; have s16 := S141.out; have s17 := S151.out; have s18 := S163.out; omega))
  clear F154
  have F167 := Lib.hid (F155.out.tch hb (by have s0 := S00.out; have s1 := S3.out; have s2 := S14.out; have s3 := S25.out; have s4 := S30.out; have s5 := S32.out; have s6 := S45.out; have s7 := S51.out; have s8 := S53.out; have s9 := S68.out; have s10 := S76.out; have s11 := S78.out; have s12 := S89.out; have s13 := S99.out; have s14 := S117.out; have s15 := S127.out; have s16 := S141.out; have s17 := S151.out; have s18 := S163.out; omega))
  clear F155
  have F168 := Lib.hid (F157.out.tch hb (by have s0 := S00.out; have s1 := S3.out; have s2 := S14.out; have s3 := S25.out; have s4 := S30.out; have s5 := S32.out; have s6 := S45.out; have s7 := S51.out; have s8 := S53.out; have s9 := S68.out; have s10 := S76.out; have s11 := S78.out; have s12 := S89.out; have s13 := S99.out; have s14 := S117.out; have s15 := S127.out; have s16 := S141.out; have s17 := S151.out; have s18 := S163.out; omega))
  clear F157
  clear hb
  clear F156 HE65
  have cc0_0 : w158.cell? ⟨w60.heap.size, 0, none⟩ = some (.slice A61 m62 c63) := F168.out.cell 0
  have cc0_1 : w158.cell? ⟨w60.heap.size, 1, none⟩ = some (.int .i64 d1) := F168.out.cell 1
  go_wp2_with fail
  clear cc0_0 cc0_1
  (with_reducible refine (heldQue l1 d1 A61 m62 c63 _ _ 1 (by omega) BD1.out.top BD1.out.body _ (rq_of HE160.out F161.out)).mono ?_)
  rintro e w169 hp
  obtain ⟨rfl, hb⟩ := n_parts Hk2.out hp
  clear hp
  have S171 := Lib.hid (hb.size)
  have B170 := Lib.hid (B162.out.trans (hb.mono B162.out.size))
  clear B162
  have F172 := Lib.hid (F164.out.below hb)
  clear F164
  have F173 := Lib.hid (F165.out.below hb)
  clear F165
  have F174 := Lib.hid (F166.out.below hb)
  clear F166
  have F175 := Lib.hid (F167.out.below hb)
  clear F167
  have F176 := Lib.hid (F161.out.below hb)
  clear F161
  have F177 := Lib.hid (F168.out.below hb)
  clear F168
  clear hb
  have cc0_0 : w169.cell? ⟨w.heap.size, 0, none⟩ = some (.slice A n cap) := F172.out.cell 0
  have cc0_1 : w169.cell? ⟨w.heap.size, 1, none⟩ = some (.int .i64 d) := F172.out.cell 1
  go_wp2_with fail
  clear cc0_0 cc0_1
  (with_reducible refine (toQue ms d A n cap _ _ HN.out HBD.out _ F173.out).mono ?_)
  rintro e w178 hp
  obtain ⟨A179, m180, c181, es182, rfl, g9, ho, hb⟩ := q_parts2 hp
  clear hp
  obtain rfl : n = m180 := (by have h1 := ho.len; have h2 := congrArg List.length g9; have h3 := HLN.out; simp at h2; omega)
  have HE183 := Lib.hid g9
  clear g9
  have F184 := Lib.hid ho
  clear ho
  have S186 := Lib.hid (hb.size)
  have B185 := Lib.hid (B170.out.trans (hb.mono B170.out.size))
  clear B170
  have F187 := Lib.hid (F172.out.below hb)
  clear F172
  have F188 := Lib.hid (F173.out.below hb)
  clear F173
  have F189 := Lib.hid (F174.out.below hb)
  clear F174
  have F190 := Lib.hid (F175.out.below hb)
  clear F175
  have F191 := Lib.hid (F176.out.below hb)
  clear F176
  have F192 := Lib.hid (F177.out.below hb)
  clear F177
  clear hb
  go_wp2_with fail
  (with_reducible refine (implXp t ms d A179 n c181 _ _ HN.out HBD.out _ (rq_of HE183.out F184.out)).mono ?_)
  rw [VQ.out]
  rintro e w193 hp
  obtain ⟨A194, m195, c196, es197, rfl, g9, ho, hb⟩ := q_parts2 hp
  clear hp
  have HE198 := Lib.hid g9
  clear g9
  have F199 := Lib.hid ho
  clear ho
  have S201 := Lib.hid (hb.size)
  have B200 := Lib.hid (B185.out.trans (hb.mono B185.out.size))
  clear B185
  have F202 := Lib.hid (F187.out.below hb)
  clear F187
  have F203 := Lib.hid (F188.out.below hb)
  clear F188
  have F204 := Lib.hid (F189.out.below hb)
  clear F189
  have F205 := Lib.hid (F190.out.below hb)
  clear F190
  have F206 := Lib.hid (F191.out.below hb)
  clear F191
  have F207 := Lib.hid (F192.out.below hb)
  clear F192
  have F208 := Lib.hid (F184.out.below hb)
  clear F184
  clear hb
  clear F208
  obtain ⟨V209, hV209⟩ : ∃ x, x = w193.alloc (.cells #[.slice A194 m195 c196, .int .i64 d1] 26) := ⟨_, rfl⟩
  have hbV209 : Below w193.heap.size w193 V209 := by rw [hV209]; exact bx.below_box _ _
  have S210 := Lib.hid (show w193.heap.size + 1 ≤ V209.heap.size by rw [hV209]; simp)
  have S212 := Lib.hid (hbV209.size)
  have B211 := Lib.hid (B200.out.trans (hbV209.mono B200.out.size))
  clear B200
  have F213 := Lib.hid (F202.out.below hbV209)
  clear F202
  have F214 := Lib.hid (F203.out.below hbV209)
  clear F203
  have F215 := Lib.hid (F204.out.below hbV209)
  clear F204
  have F216 := Lib.hid (F205.out.below hbV209)
  clear F205
  have F217 := Lib.hid (F206.out.below hbV209)
  clear F206
  have F218 := Lib.hid (F207.out.below hbV209)
  clear F207
  have F219 := Lib.hid (F199.out.below hbV209)
  clear F199
  have X220 := Lib.hid (show bx.Bx 26 V209 w193.heap.size #[.slice A194 m195 c196, .int .i64 d1] by rw [hV209]; exact bx.Bx.made _ _ _)
  clear hbV209
  have cc0_0 : (w193.alloc (.cells #[.slice A194 m195 c196, .int .i64 d1] 26)).cell? ⟨w193.heap.size, 0, none⟩ = some (.slice A194 m195 c196) := by rw [← hV209]; exact X220.out.cell 0
  have cc0_1 : (w193.alloc (.cells #[.slice A194 m195 c196, .int .i64 d1] 26)).cell? ⟨w193.heap.size, 1, none⟩ = some (.int .i64 d1) := by rw [← hV209]; exact X220.out.cell 1
  have cc1_0 : (w193.alloc (.cells #[.slice A194 m195 c196, .int .i64 d1] 26)).cell? ⟨w17.heap.size, 0, none⟩ = some (.slice A18 m19 c20) := by rw [← hV209]; exact F216.out.cell 0
  have cc1_1 : (w193.alloc (.cells #[.slice A194 m195 c196, .int .i64 d1] 26)).cell? ⟨w17.heap.size, 1, none⟩ = some (.int .i64 d1) := by rw [← hV209]; exact F216.out.cell 1
  go_wp2_with fail
  rw [← hV209]
  clear hV209 cc0_0 cc0_1 cc1_0 cc1_1
  (with_reducible refine (eqQue_yes l1 d1 A194 A18 m195 c196 m19 c20 _ _ _ _ _ (rq_of HE198.out F219.out) (rq_of HE22.out F215.out)).mono ?_)
  rintro e w221 ⟨rfl, hb⟩
  have S223 := Lib.hid (hb.size)
  have B222 := Lib.hid (B211.out.trans (hb.mono B211.out.size))
  clear B211
  have F224 := Lib.hid (F213.out.below hb)
  clear F213
  have F225 := Lib.hid (F214.out.below hb)
  clear F214
  have F226 := Lib.hid (F215.out.below hb)
  clear F215
  have F227 := Lib.hid (F216.out.below hb)
  clear F216
  have F228 := Lib.hid (F217.out.below hb)
  clear F217
  have F229 := Lib.hid (F218.out.below hb)
  clear F218
  have F230 := Lib.hid (F219.out.below hb)
  clear F219
  have F231 := Lib.hid (X220.out.below hb)
  clear X220
  clear hb
  clear F231
  clear F230
  clear F227
  clear F226
  have cc0_0 : w221.cell? ⟨w60.heap.size, 0, none⟩ = some (.slice A61 m62 c63) := F229.out.cell 0
  have cc0_1 : w221.cell? ⟨w60.heap.size, 1, none⟩ = some (.int .i64 d1) := F229.out.cell 1
  go_wp2_with fail
  clear cc0_0 cc0_1
  (with_reducible refine (heldQue l1 d1 A61 m62 c63 _ _ 1 (by omega) BD1.out.top BD1.out.body _ (rq_of HE160.out F228.out)).mono ?_)
  rintro e w232 hp
  obtain ⟨rfl, hb⟩ := n_parts Hk2.out hp
  clear hp
  have S234 := Lib.hid (hb.size)
  have B233 := Lib.hid (B222.out.trans (hb.mono B222.out.size))
  clear B222
  have F235 := Lib.hid (F224.out.below hb)
  clear F224
  have F236 := Lib.hid (F225.out.below hb)
  clear F225
  have F237 := Lib.hid (F228.out.below hb)
  clear F228
  have F238 := Lib.hid (F229.out.below hb)
  clear F229
  clear hb
  go_wp2_with fail
  go_ret
  exact ⟨rfl, B233.out⟩
end Go.Proofs.Ytbifggfmfiocoaa.xExactExpireMessages
