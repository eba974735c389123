/- The law function of FnExactTakeMessage returns true and leaves what was there. Condition: the slices among the arguments are slices that came in. -/
import Derived.Test.YtbifggfmfiocoaaQch
import Derived.Test.YtbifggfmfiocoaaQcf
import Derived.Deep.RegionHeld3
namespace Go.Proofs.Ytbifggfmfiocoaa.xExactTakeMessage
open Go.RowKit sl harn bx mrw mq
set_option linter.unusedVariables false
set_option maxRecDepth 100000 in
set_option maxHeartbeats 4000000 in
theorem walk (ms : List Msg) (d : Int) (A : Option Addr) (n cap : Nat) (i : Int) (wi : (Lit.int .i64 i).wf = true) (w : World) (row0 : Rq msg w 0 w.heap.size A n cap ms) :
    Calls Try.prog 9 #[qV A n cap d, .int .i64 i] w fun e w' => e = .returned (.bool true) ∧ Below w.heap.size w w' := by
  have R0 := Lib.hid row0
  have HLN := Lib.hid row0.len
  have hn0 : n ≤ cap ∧ cap ≤ 9223372036854775807 := row0.cap_
  clear row0
  have B0 := Lib.hid (Below.refl w.heap.size w)
  go_enter Try.func9, Try.ntmps9
  go_wp2_with fail
  obtain ⟨W0, hW0⟩ : ∃ y, w.alloc (.cells #[.slice A n cap, .int .i64 d] 50) = y := ⟨_, rfl⟩
  rw [hW0]
  have hb0 : Below w.heap.size w W0 := by rw [← hW0]; exact bx.below_box _ _
  have LB0 := Lib.hid (show bx.Bx 50 W0 w.heap.size #[.slice A n cap, .int .i64 d] by rw [← hW0]; exact bx.Bx.made _ _ _)
  have S00 := Lib.hid (show w.heap.size + 1 ≤ W0.heap.size by rw [← hW0]; simp)
  clear hW0
  have R0 := Lib.hid (R0.out.below hb0)
  have B0 := Lib.hid hb0
  clear hb0
  (with_reducible refine (szQue ms d A n cap _ _ 1048576 (by omega) _ R0.out).mono ?_)
  rintro e w1 ⟨r0, rfl, hr, hb⟩
  rcases hr with ⟨hr1, hlt⟩ | ⟨hrl, hle⟩
  · subst hr1
    go_wp2_with fail
    go_ret
    exact ⟨rfl, B0.out.trans (hb.mono B0.out.size)⟩
  have hng0 : ¬ r0 < 0 := by omega
  have S3 := Lib.hid (hb.size)
  have B2 := Lib.hid (B0.out.trans (hb.mono B0.out.size))
  clear B0
  have F4 := Lib.hid (LB0.out.below hb)
  clear LB0
  have F5 := Lib.hid (R0.out.below hb)
  clear R0
  clear hb
  have hq0 : n + blk ms ≤ 1048576 := by omega
  have HR0 := Lib.hid (show 0 ≤ r0 ∧ r0 ≤ 1048576 by omega)
  clear hrl hle
  have HN := Lib.hid (show n ≤ 67108864 by omega)
  have BD0 := Lib.hid (bd_of (List.Sublist.refl ms) (by rw [HLN.out]; omega))
  have HBD := Lib.hid BD0.out.1
  have HQ0 := Lib.hid hq0
  clear hq0
  obtain ⟨⟨l1, y1, b1⟩, hvb⟩ : ∃ p : List Msg × Msg × Bool, tk ms i = p := ⟨_, rfl⟩
  have VT := Lib.hid hvb
  have BD1 := Lib.hid (show Bd l1 from bd_of (ms := ms) (by have h9 := tk_sub ms i; rw [hvb] at h9; exact h9) (by rw [HLN.out]; have := HQ0.out; omega))
  have HY1 := Lib.hid (show y1.2.2.2.length ≤ 67108864 by have h9 := tk_msg ms i; rw [hvb] at h9; have h8 := HQ0.out; have h7 : y1.2.2.2.length ≤ blk ms := h9; omega)
  clear hvb
  have cc0_0 : w1.cell? ⟨w.heap.size, 0, none⟩ = some (.slice A n cap) := F4.out.cell 0
  have cc0_1 : w1.cell? ⟨w.heap.size, 1, none⟩ = some (.int .i64 d) := F4.out.cell 1
  go_wp2_with fail
  clear cc0_0 cc0_1
  (with_reducible refine (toQue ms d A n cap _ _ HN.out HBD.out _ F5.out).mono ?_)
  rintro e w6 hp
  obtain ⟨A7, m8, c9, es10, rfl, g9, ho, hb⟩ := q_parts2 hp
  clear hp
  obtain rfl : n = m8 := (by have h1 := ho.len; have h2 := congrArg List.length g9; have h3 := HLN.out; simp at h2; omega)
  have HE11 := Lib.hid g9
  clear g9
  have F12 := Lib.hid ho
  clear ho
  have S14 := Lib.hid (hb.size)
  have B13 := Lib.hid (B2.out.trans (hb.mono B2.out.size))
  clear B2
  have F15 := Lib.hid (F4.out.below hb)
  clear F4
  have F16 := Lib.hid (F5.out.below hb)
  clear F5
  clear hb
  go_wp2_with fail
  (with_reducible refine (specTk ms d i wi A7 n c9 _ _ HN.out HBD.out _ (rq_of HE11.out F12.out)).mono ?_)
  rw [VT.out]
  rintro e w17 hp
  obtain ⟨A18, m19, c20, es21, f24, rfl, g9, ho, hf, hds, hb⟩ := t_parts hp
  clear hp
  have HE22 := Lib.hid g9
  have F23 := Lib.hid ho
  have F25 := Lib.hid hf
  have DS26 := Lib.hid hds
  clear g9 ho hf hds
  have S28 := Lib.hid (hb.size)
  have B27 := Lib.hid (B13.out.trans (hb.mono B13.out.size))
  clear B13
  have F29 := Lib.hid (F15.out.below hb)
  clear F15
  have F30 := Lib.hid (F16.out.below hb)
  clear F16
  have F31 := Lib.hid (F12.out.below hb)
  clear F12
  clear hb
  clear F31
  obtain ⟨V32, hV32⟩ : ∃ x, x = (w17.alloc (.cells #[.slice A18 m19 c20, .int .i64 d] 26)).alloc (.cells #[.int .i64 y1.1, .int .i64 y1.2.1, .int .i64 y1.2.2.1, .slice f24.A f24.n f24.c] 28) := ⟨_, rfl⟩
  have hbV32 : Below w17.heap.size w17 V32 := by rw [hV32]; exact (bx.below_box _ _).alloc (by simp) _
  have S33 := Lib.hid (show w17.heap.size + 2 ≤ V32.heap.size by rw [hV32]; simp)
  have S35 := Lib.hid (hbV32.size)
  have B34 := Lib.hid (B27.out.trans (hbV32.mono B27.out.size))
  clear B27
  have F36 := Lib.hid (F29.out.below hbV32)
  clear F29
  have F37 := Lib.hid (F30.out.below hbV32)
  clear F30
  have F38 := Lib.hid (F23.out.below hbV32)
  clear F23
  have F39 := Lib.hid (F25.out.below hbV32)
  clear F25
  have X40 := Lib.hid (show bx.Bx 26 V32 w17.heap.size #[.slice A18 m19 c20, .int .i64 d] by rw [hV32]; exact (bx.Bx.made _ _ _).below (bx.below_box _ _))
  have X41 := Lib.hid (show bx.Bx 28 V32 (w17.heap.size + 1) #[.int .i64 y1.1, .int .i64 y1.2.1, .int .i64 y1.2.2.1, .slice f24.A f24.n f24.c] by rw [hV32]; have hh := bx.Bx.made 28 (w17.alloc (.cells #[.slice A18 m19 c20, .int .i64 d] 26)) #[.int .i64 y1.1, .int .i64 y1.2.1, .int .i64 y1.2.2.1, .slice f24.A f24.n f24.c]; simpa using hh)
  clear hbV32
  have cc0_0 : ((w17.alloc (.cells #[.slice A18 m19 c20, .int .i64 d] 26)).alloc (.cells #[.int .i64 y1.1, .int .i64 y1.2.1, .int .i64 y1.2.2.1, .slice f24.A f24.n f24.c] 28)).cell? ⟨w.heap.size, 0, none⟩ = some (.slice A n cap) := by rw [← hV32]; exact F36.out.cell 0
  have cc0_1 : ((w17.alloc (.cells #[.slice A18 m19 c20, .int .i64 d] 26)).alloc (.cells #[.int .i64 y1.1, .int .i64 y1.2.1, .int .i64 y1.2.2.1, .slice f24.A f24.n f24.c] 28)).cell? ⟨w.heap.size, 1, none⟩ = some (.int .i64 d) := by rw [← hV32]; exact F36.out.cell 1
  go_wp2_with fail
  rw [← hV32]
  clear hV32 cc0_0 cc0_1
  (with_reducible refine (toQue ms d A n cap _ _ HN.out HBD.out _ F37.out).mono ?_)
  rintro e w42 hp
  obtain ⟨A43, m44, c45, es46, rfl, g9, ho, hb⟩ := q_parts2 hp
  clear hp
  obtain rfl : n = m44 := (by have h1 := ho.len; have h2 := congrArg List.length g9; have h3 := HLN.out; simp at h2; omega)
  have HE47 := Lib.hid g9
  clear g9
  have F48 := Lib.hid ho
  clear ho
  have S50 := Lib.hid (hb.size)
  have B49 := Lib.hid (B34.out.trans (hb.mono B34.out.size))
  clear B34
  have F51 := Lib.hid (F36.out.below hb)
  clear F36
  have F52 := Lib.hid (F37.out.below hb)
  clear F37
  have F53 := Lib.hid (F38.out.below hb)
  clear F38
  have F54 := Lib.hid (F39.out.below hb)
  clear F39
  have F55 := Lib.hid (X40.out.below hb)
  clear X40
  have F56 := Lib.hid (X41.out.below hb)
  clear X41
  clear hb
  obtain ⟨V57, hV57⟩ : ∃ x, x = w42.alloc (.cells #[.slice A43 n c45, .int .i64 d] 26) := ⟨_, rfl⟩
  have hbV57 : Below w42.heap.size w42 V57 := by rw [hV57]; exact bx.below_box _ _
  have S58 := Lib.hid (show w42.heap.size + 1 ≤ V57.heap.size by rw [hV57]; simp)
  have S60 := Lib.hid (hbV57.size)
  have B59 := Lib.hid (B49.out.trans (hbV57.mono B49.out.size))
  clear B49
  have F61 := Lib.hid (F51.out.below hbV57)
  clear F51
  have F62 := Lib.hid (F52.out.below hbV57)
  clear F52
  have F63 := Lib.hid (F53.out.below hbV57)
  clear F53
  have F64 := Lib.hid (F54.out.below hbV57)
  clear F54
  have F65 := Lib.hid (F55.out.below hbV57)
  clear F55
  have F66 := Lib.hid (F56.out.below hbV57)
  clear F56
  have F67 := Lib.hid (F48.out.below hbV57)
  clear F48
  have X68 := Lib.hid (show bx.Bx 26 V57 w42.heap.size #[.slice A43 n c45, .int .i64 d] by rw [hV57]; exact bx.Bx.made _ _ _)
  clear hbV57
  go_wp2_with fail
  rw [← hV57]
  clear hV57 
  (with_reducible refine (implTk ms d i wi A43 n c45 _ _ HN.out HBD.out _ (rq_of HE47.out F67.out)).mono ?_)
  rw [VT.out]
  rintro e w69 hp
  obtain ⟨A70, m71, c72, es73, f76, rfl, g9, ho, hf, hds, hb⟩ := t_parts hp
  clear hp
  have HE74 := Lib.hid g9
  have F75 := Lib.hid ho
  have F77 := Lib.hid hf
  have DS78 := Lib.hid hds
  clear g9 ho hf hds
  have S80 := Lib.hid (hb.size)
  have B79 := Lib.hid (B59.out.trans (hb.mono B59.out.size))
  clear B59
  have F81 := Lib.hid (F61.out.below hb)
  clear F61
  have F82 := Lib.hid (F62.out.below hb)
  clear F62
  have F83 := Lib.hid (F63.out.below hb)
  clear F63
  have F84 := Lib.hid (F64.out.below hb)
  clear F64
  have F85 := Lib.hid (F65.out.below hb)
  clear F65
  have F86 := Lib.hid (F66.out.below hb)
  clear F66
  have F87 := Lib.hid (F67.out.below hb)
  clear F67
  have F88 := Lib.hid (X68.out.below hb)
  clear X68
  clear hb
  obtain ⟨V89, hV89⟩ : ∃ x, x = (w69.alloc (.cells #[.slice A70 m71 c72, .int .i64 d] 26)).alloc (.cells #[.int .i64 y1.1, .int .i64 y1.2.1, .int .i64 y1.2.2.1, .slice f76.A f76.n f76.c] 28) := ⟨_, rfl⟩
  have hbV89 : Below w69.heap.size w69 V89 := by rw [hV89]; exact (bx.below_box _ _).alloc (by simp) _
  have S90 := Lib.hid (show w69.heap.size + 2 ≤ V89.heap.size by rw [hV89]; simp)
  have S92 := Lib.hid (hbV89.size)
  have B91 := Lib.hid (B79.out.trans (hbV89.mono B79.out.size))
  clear B79
  have F93 := Lib.hid (F81.out.below hbV89)
  clear F81
  have F94 := Lib.hid (F82.out.below hbV89)
  clear F82
  have F95 := Lib.hid (F83.out.below hbV89)
  clear F83
  have F96 := Lib.hid (F84.out.below hbV89)
  clear F84
  have F97 := Lib.hid (F85.out.below hbV89)
  clear F85
  have F98 := Lib.hid (F86.out.below hbV89)
  clear F86
  have F99 := Lib.hid (F87.out.below hbV89)
  clear F87
  have F100 := Lib.hid (F88.out.below hbV89)
  clear F88
  have F101 := Lib.hid (F75.out.below hbV89)
  clear F75
  have F102 := Lib.hid (F77.out.below hbV89)
  clear F77
  have X103 := Lib.hid (show bx.Bx 26 V89 w69.heap.size #[.slice A70 m71 c72, .int .i64 d] by rw [hV89]; exact (bx.Bx.made _ _ _).below (bx.below_box _ _))
  have X104 := Lib.hid (show bx.Bx 28 V89 (w69.heap.size + 1) #[.int .i64 y1.1, .int .i64 y1.2.1, .int .i64 y1.2.2.1, .slice f76.A f76.n f76.c] by rw [hV89]; have hh := bx.Bx.made 28 (w69.alloc (.cells #[.slice A70 m71 c72, .int .i64 d] 26)) #[.int .i64 y1.1, .int .i64 y1.2.1, .int .i64 y1.2.2.1, .slice f76.A f76.n f76.c]; simpa using hh)
  clear hbV89
  have cc0_0 : ((w69.alloc (.cells #[.slice A70 m71 c72, .int .i64 d] 26)).alloc (.cells #[.int .i64 y1.1, .int .i64 y1.2.1, .int .i64 y1.2.2.1, .slice f76.A f76.n f76.c] 28)).cell? ⟨w69.heap.size, 0, none⟩ = some (.slice A70 m71 c72) := by rw [← hV89]; exact X103.out.cell 0
  have cc0_1 : ((w69.alloc (.cells #[.slice A70 m71 c72, .int .i64 d] 26)).alloc (.cells #[.int .i64 y1.1, .int .i64 y1.2.1, .int .i64 y1.2.2.1, .slice f76.A f76.n f76.c] 28)).cell? ⟨w69.heap.size, 1, none⟩ = some (.int .i64 d) := by rw [← hV89]; exact X103.out.cell 1
  have cc1_0 : ((w69.alloc (.cells #[.slice A70 m71 c72, .int .i64 d] 26)).alloc (.cells #[.int .i64 y1.1, .int .i64 y1.2.1, .int .i64 y1.2.2.1, .slice f76.A f76.n f76.c] 28)).cell? ⟨w17.heap.size, 0, none⟩ = some (.slice A18 m19 c20) := by rw [← hV89]; exact F97.out.cell 0
  have cc1_1 : ((w69.alloc (.cells #[.slice A70 m71 c72, .int .i64 d] 26)).alloc (.cells #[.int .i64 y1.1, .int .i64 y1.2.1, .int .i64 y1.2.2.1, .slice f76.A f76.n f76.c] 28)).cell? ⟨w17.heap.size, 1, none⟩ = some (.int .i64 d) := by rw [← hV89]; exact F97.out.cell 1
  go_wp2_with fail
  rw [← hV89]
  clear hV89 cc0_0 cc0_1 cc1_0 cc1_1
  (with_reducible refine (eqQue_yes l1 d A70 A18 m71 c72 m19 c20 _ _ _ _ _ (rq_of HE74.out F101.out) (rq_of HE22.out F95.out)).mono ?_)
  rintro e w105 ⟨rfl, hb⟩
  have S107 := Lib.hid (hb.size)
  have B106 := Lib.hid (B91.out.trans (hb.mono B91.out.size))
  clear B91
  have F108 := Lib.hid (F93.out.below hb)
  clear F93
  have F109 := Lib.hid (F94.out.below hb)
  clear F94
  have F110 := Lib.hid (F95.out.below hb)
  clear F95
  have F111 := Lib.hid (F96.out.below hb)
  clear F96
  have F112 := Lib.hid (F97.out.below hb)
  clear F97
  have F113 := Lib.hid (F98.out.below hb)
  clear F98
  have F114 := Lib.hid (F99.out.below hb)
  clear F99
  have F115 := Lib.hid (F100.out.below hb)
  clear F100
  have F116 := Lib.hid (F101.out.below hb)
  clear F101
  have F117 := Lib.hid (F102.out.below hb)
  clear F102
  have F118 := Lib.hid (X103.out.below hb)
  clear X103
  have F119 := Lib.hid (X104.out.below hb)
  clear X104
  clear hb
  have cc0_0 : w105.cell? ⟨(w69.heap.size + 1), 0, none⟩ = some (.int .i64 y1.1) := F119.out.cell 0
  have cc0_1 : w105.cell? ⟨(w69.heap.size + 1), 1, none⟩ = some (.int .i64 y1.2.1) := F119.out.cell 1
  have cc0_2 : w105.cell? ⟨(w69.heap.size + 1), 2, none⟩ = some (.int .i64 y1.2.2.1) := F119.out.cell 2
  have cc0_3 : w105.cell? ⟨(w69.heap.size + 1), 3, none⟩ = some (.slice f76.A f76.n f76.c) := F119.out.cell 3
  have cc1_0 : w105.cell? ⟨(w17.heap.size + 1), 0, none⟩ = some (.int .i64 y1.1) := F113.out.cell 0
  have cc1_1 : w105.cell? ⟨(w17.heap.size + 1), 1, none⟩ = some (.int .i64 y1.2.1) := F113.out.cell 1
  have cc1_2 : w105.cell? ⟨(w17.heap.size + 1), 2, none⟩ = some (.int .i64 y1.2.2.1) := F113.out.cell 2
  have cc1_3 : w105.cell? ⟨(w17.heap.size + 1), 3, none⟩ = some (.slice f24.A f24.n f24.c) := F113.out.cell 3
  go_wp2_with fail
  clear cc0_0 cc0_1 cc0_2 cc0_3 cc1_0 cc1_1 cc1_2 cc1_3
  (with_reducible refine (eqMsg_yes y1 f76.A f76.n f76.c f24.A f24.n f24.c _ _ _ _ _ F117.out.rd F111.out.rd).mono ?_)
  rintro e w120 ⟨rfl, hb⟩
  have S122 := Lib.hid (hb.size)
  have B121 := Lib.hid (B106.out.trans (hb.mono B106.out.size))
  clear B106
  have F123 := Lib.hid (F108.out.below hb)
  clear F108
  have F124 := Lib.hid (F109.out.below hb)
  clear F109
  have F125 := Lib.hid (F110.out.below hb)
  clear F110
  have F126 := Lib.hid (F111.out.below hb)
  clear F111
  have F127 := Lib.hid (F112.out.below hb)
  clear F112
  have F128 := Lib.hid (F113.out.below hb)
  clear F113
  have F129 := Lib.hid (F114.out.below hb)
  clear F114
  have F130 := Lib.hid (F115.out.below hb)
  clear F115
  have F131 := Lib.hid (F116.out.below hb)
  clear F116
  have F132 := Lib.hid (F117.out.below hb)
  clear F117
  have F133 := Lib.hid (F118.out.below hb)
  clear F118
  have F134 := Lib.hid (F119.out.below hb)
  clear F119
  clear hb
  go_wp2_with fail
  have hbd : Below w120.heap.size w120 w120.drew := own.below_drew (Below.refl _ _)
  have S136 := Lib.hid (hbd.size)
  have B135 := Lib.hid (B121.out.trans (hbd.mono B121.out.size))
  clear B121
  have F137 := Lib.hid (F123.out.below hbd)
  clear F123
  have F138 := Lib.hid (F124.out.below hbd)
  clear F124
  have F139 := Lib.hid (F125.out.below hbd)
  clear F125
  have F140 := Lib.hid (F126.out.below hbd)
  clear F126
  have F141 := Lib.hid (F127.out.below hbd)
  clear F127
  have F142 := Lib.hid (F128.out.below hbd)
  clear F128
  have F143 := Lib.hid (F129.out.below hbd)
  clear F129
  have F144 := Lib.hid (F130.out.below hbd)
  clear F130
  have F145 := Lib.hid (F131.out.below hbd)
  clear F131
  have F146 := Lib.hid (F132.out.below hbd)
  clear F132
  have F147 := Lib.hid (F133.out.below hbd)
  clear F133
  have F148 := Lib.hid (F134.out.below hbd)
  clear F134
  clear hbd
  have ca0_0 : w120.drew.cell? ⟨w42.heap.size, 0, none⟩ = some (.slice A43 n c45) := F144.out.cell 0
  have ca0_1 : w120.drew.cell? ⟨w42.heap.size, 1, none⟩ = some (.int .i64 d) := F144.out.cell 1
  have ca1_0 : w120.drew.cell? ⟨w.heap.size, 0, none⟩ = some (.slice A n cap) := F137.out.cell 0
  have ca1_1 : w120.drew.cell? ⟨w.heap.size, 1, none⟩ = some (.int .i64 d) := F137.out.cell 1
  go_region_held3 (fun w' => w'.cell? ⟨w42.heap.size, 0, none⟩ = some (.slice A43 n c45) ∧ w'.cell? ⟨w42.heap.size, 1, none⟩ = some (.int .i64 d) ∧ w'.cell? ⟨w.heap.size, 0, none⟩ = some (.slice A n cap) ∧ w'.cell? ⟨w.heap.size, 1, none⟩ = some (.int .i64 d)) (first | (with_reducible exact ⟨ca0_0, ca0_1, ca1_0, ca1_1⟩) | (with_reducible exact ⟨cb0_0, cb0_1, cb1_0, cb1_1⟩) | (with_reducible exact ⟨cd0_0, cd0_1, cd1_0, cd1_1⟩))
    (first
    | (go_at_call 33; refine (toQue ms d A n cap _ _ HN.out HBD.out _ F138.out).mono ?_; rintro e w149 hp; obtain ⟨A151, m152, c153, es154, rfl, g9, ho, hb⟩ := q_parts2 hp; clear hp; obtain rfl : n = m152 := (by have h1 := ho.len; have h2 := congrArg List.length g9; have h3 := HLN.out; simp at h2; omega); have HE155 := Lib.hid g9; clear g9; have F156 := Lib.hid ho; clear ho; have S158 := Lib.hid (hb.size); have B157 := Lib.hid (B135.out.trans (hb.mono B135.out.size)); clear B135; have F159 := Lib.hid (F137.out.below hb); clear F137; have F160 := Lib.hid (F138.out.below hb); clear F138; have F161 := Lib.hid (F139.out.below hb); clear F139; have F162 := Lib.hid (F140.out.below hb); clear F140; have F163 := Lib.hid (F141.out.below hb); clear F141; have F164 := Lib.hid (F142.out.below hb); clear F142; have F165 := Lib.hid (F143.out.below hb); clear F143; have F166 := Lib.hid (F144.out.below hb); clear F144; have F167 := Lib.hid (F145.out.below hb); clear F145; have F168 := Lib.hid (F146.out.below hb); clear F146; have F169 := Lib.hid (F147.out.below hb); clear F147; have F170 := Lib.hid (F148.out.below hb); clear F148; clear hb; have cb0_0 : w149.cell? ⟨w42.heap.size, 0, none⟩ = some (.slice A43 n c45) := F166.out.cell 0; have cb0_1 : w149.cell? ⟨w42.heap.size, 1, none⟩ = some (.int .i64 d) := F166.out.cell 1; have cb1_0 : w149.cell? ⟨w.heap.size, 0, none⟩ = some (.slice A n cap) := F159.out.cell 0; have cb1_1 : w149.cell? ⟨w.heap.size, 1, none⟩ = some (.int .i64 d) := F159.out.cell 1)
    | (go_at_call 34; refine (eqQue_yes ms d A43 A151 n c45 n c153 _ _ _ _ _ (rq_of HE47.out F165.out) (rq_of HE155.out F156.out)).mono ?_; rintro e w150 ⟨rfl, hb⟩; have S172 := Lib.hid (hb.size); have B171 := Lib.hid (B157.out.trans (hb.mono B157.out.size)); clear B157; have F173 := Lib.hid (F159.out.below hb); clear F159; have F174 := Lib.hid (F160.out.below hb); clear F160; have F175 := Lib.hid (F161.out.below hb); clear F161; have F176 := Lib.hid (F162.out.below hb); clear F162; have F177 := Lib.hid (F163.out.below hb); clear F163; have F178 := Lib.hid (F164.out.below hb); clear F164; have F179 := Lib.hid (F165.out.below hb); clear F165; have F180 := Lib.hid (F166.out.below hb); clear F166; have F181 := Lib.hid (F167.out.below hb); clear F167; have F182 := Lib.hid (F168.out.below hb); clear F168; have F183 := Lib.hid (F169.out.below hb); clear F169; have F184 := Lib.hid (F170.out.below hb); clear F170; clear hb; have cd0_0 : w150.cell? ⟨w42.heap.size, 0, none⟩ = some (.slice A43 n c45) := F180.out.cell 0; have cd0_1 : w150.cell? ⟨w42.heap.size, 1, none⟩ = some (.int .i64 d) := F180.out.cell 1; have cd1_0 : w150.cell? ⟨w.heap.size, 0, none⟩ = some (.slice A n cap) := F173.out.cell 0; have cd1_1 : w150.cell? ⟨w.heap.size, 1, none⟩ = some (.int .i64 d) := F173.out.cell 1))
  clear ca0_0 ca0_1 ca1_0 ca1_1 cb0_0 cb0_1 cb1_0 cb1_1 cd0_0 cd0_1 cd1_0 cd1_1
  have cc0_0 : w150.cell? ⟨w42.heap.size, 0, none⟩ = some (.slice A43 n c45) := F180.out.cell 0
  have cc0_1 : w150.cell? ⟨w42.heap.size, 1, none⟩ = some (.int .i64 d) := F180.out.cell 1
  go_wp2_with fail
  clear cc0_0 cc0_1
  (with_reducible refine (markQue ms d A43 n c45 _ _ 1 (by omega) BD0.out.top BD0.out.body _ (oq_of HE47.out F179.out)).mono ?_)
  rintro e w185 ⟨rfl, ho, hb⟩
  obtain ⟨k1, hk9⟩ : ∃ k, 1 + tot ms = k := ⟨_, rfl⟩
  rw [hk9]
  have Hk1 := Lib.hid hk9
  have ngk1 : ¬ k1 < 0 := by have h9 := BD0.out.2.2; rw [hk9] at h9; omega
  have K1 := Lib.hid (show 0 ≤ k1 ∧ k1 ≤ 1099511627776 by have h9 := BD0.out; rw [← hk9]; exact ⟨h9.2.2, h9.2.1⟩)
  clear hk9
  obtain ⟨es186, ge, go⟩ := ho
  have HE187 := Lib.hid ge
  have F188 := Lib.hid go
  clear ge go
  have S190 := Lib.hid (hb.size)
  have B189 := Lib.hid (B171.out.trans (hb.below (by have s0 := S00.out; have s1 := S3.out; have s2 := S14.out; have s3 := S28.out; have s4 := S33.out; have s5 := S35.out; have s6 := S50.out; have s7 := S58.out; have s8 := S60.out; have s9 := S80.out; have s10 := S90.out; have s11 := S92.out; have s12 := S107.out; have s13 := S122.out; have s14 := S136.out; have s15 := S158.out; have s16 := S172.out; omega) B171.out.size))
  clear B171
  have F191 := Lib.hid (F173.out.tch hb (by have s0 := S00.out; have s1 := S3.out; have s2 := S14.out; have s3 := S28.out; have s4 := S33.out; have s5 := S35.out; have s6 := S50.out; have s7 := S58.out; have s8 := S60.out; have s9 := S80.out; have s10 := S90.out; have s11 := S92.out; have s12 := S107.out; have s13 := S122.out; have s14 := S136.out; have s15 := S158.out; have s16 := S172.out; have s17 := S190.out; omega))
  clear F173
  have F192 := Lib.hid (F174.out.tch hb (by have s0 := S00.out; have s1 := S3.out; have s2 := S14.out; have s3 := S28.out; have s4 := S33.out; have s5 := S35.out; have s6 := S50.out; have s7 := S58.out; have s8 := S60.out; have s9 := S80.out; have s10 := S90.out; have s11 := S92.out; have s12 := S107.out; have s13 := S122.out; have s14 := S136.out; have s15 := S158.out; have s16 := S172.out; have s17 := S190.out; omega))
  clear F174
  have F193 := Lib.hid (F175.out.tch hb (by have s0 := S00.out; have s1 := S3.out; have s2 := S14.out; have s3 := S28.out; have s4 := S33.out; have s5 := S35.out; have s6 := S50.out; have s7 := S58.out; have s8 := S60.out; have s9 := S80.out; have s10 := S90.out; have s11 := S92.out; have s12 := S107.out; have s13 := S122.out; have s14 := S136.out; have s15 := S158.out; have s16 := S172.out; have s17 := S190.out; omega))
  clear F175
  have F194 := Lib.hid (F176.out.tch hb (by have s0 := S00.out; have s1 := S3.out; have s2 := S14.out; have s3 := S28.out; have s4 := S33.out; have s5 := S35.out; have s6 := S50.out; have s7 := S58.out; have s8 := S60.out; have s9 := S80.out; have s10 := S90.out; have s11 := S92.out; have s12 := S107.out; have s13 := S122.out; have s14 := S136.out; have s15 := S158.out; have s16 := S172.out; have s17 := S190.out; omega))
  clear F176
  have F195 := Lib.hid (F177.out.tch hb (by have s0 := S00.out; have s1 := S3.out; have s2 := S14.out; have s3 := S28.out; have s4 := S33.out; have s5 := S35.out; have s6 := S50.out; have s7 := S58.out; have s8 := S60.out; have s9 := S80.out; have s10 := S90.out; have s11 := S92.out; have s12 := S107.out; have s13 := S122.out; have s14 := S136.out; have s15 := S158.out; have s16 := S172.out; have s17 := S190.out; omega))
  clear F177
  have F196 := Lib.hid (F178.out.tch hb (by have s0 := S00.out; have s1 := S3.out; have s2 := S14.out; have s3 := S28.out; have s4 := S33.out; have s5 := S35.out; have s6 := S50.out; have s7 := S58.out; have s8 := S60.out; have s9 := S80.out; have s10 := S90.out; have s11 := S92.out; have s12 := S107.out; have s13 := S122.out; have s14 := S136.out; have s15 := S158.out; have s16 := S172.out; have s17 := S190.out; omega))
  clear F178
  have F197 := Lib.hid (F180.out.tch hb (by have s0 := S00.out; have s1 := S3.out; have s2 := S14.out; have s3 := S28.out; have s4 := S33.out; have s5 := S35.out; have s6 := S50.out; have s7 := S58.out; have s8 := S60.out; have s9 := S80.out; have s10 := S90.out; have s11 := S92.out; have s12 := S107.out; have s13 := S122.out; have s14 := S136.out; have s15 := S158.out; have s16 := S172.out; have s17 := S190.out; omega))
  clear F180
  have F198 := Lib.hid (F181.out.tch hb (by have s0 := S00.out; have s1 := S3.out; have s2 := S14.out; have s3 := S28.out; have s4 := S33.out; have s5 := S35.out; have s6 := S50.out; have s7 := S58.out; have s8 := S60.out; have s9 := S80.out; have s10 := S90.out; have s11 := S92.out; have s12 := S107.out; have s13 := S122.out; have s14 := S136.out; have s15 := S158.out; have s16 := S172.out; have s17 := S190.out; omega))
  clear F181
  have F199 := Lib.hid (F182.out.tch hb (by have s0 := S00.out; have s1 := S3.out; have s2 := S14.out; have s3 := S28.out; have s4 := S33.out; have s5 := S35.out; have s6 := S50.out; have s7 := S58.out; have s8 := S60.out; have s9 := S80.out; have s10 := S90.out; have s11 := S92.out; have s12 := S107.out; have s13 := S122.out; have s14 := S136.out; have s15 := S158.out; have s16 := S172.out; have s17 := S190.out; omega))
  clear F182
  have F200 := Lib.hid (F183.out.tch hb (by have s0 := S00.out; have s1 := S3.out; have s2 := S14.out; have s3 := S28.out; have s4 := S33.out; have s5 := S35.out; have s6 := S50.out; have s7 := S58.out; have s8 := S60.out; have s9 := S80.out; have s10 := S90.out; have s11 := S92.out; have s12 := S107.out; have s13 := S122.out; have s14 := S136.out; have s15 := S158.out; have s16 := S172.out; have s17 := S190.out; omega))
  clear F183
  have F201 := Lib.hid (F184.out.tch hb (by have s0 := S00.out; have s1 := S3.out; have s2 := S14.out; have s3 := S28.out; have s4 := S33.out; have s5 := S35.out; have s6 := S50.out; have s7 := S58.out; have s8 := S60.out; have s9 := S80.out; have s10 := S90.out; have s11 := S92.out; have s12 := S107.out; have s13 := S122.out; have s14 := S136.out; have s15 := S158.out; have s16 := S172.out; have s17 := S190.out; omega))
  clear F184
  clear hb
  clear F179 HE47
  clear F197
  clear F188
  have cc0_0 : w185.cell? ⟨w69.heap.size, 0, none⟩ = some (.slice A70 m71 c72) := F200.out.cell 0
  have cc0_1 : w185.cell? ⟨w69.heap.size, 1, none⟩ = some (.int .i64 d) := F200.out.cell 1
  have cc1_0 : w185.cell? ⟨w17.heap.size, 0, none⟩ = some (.slice A18 m19 c20) := F195.out.cell 0
  have cc1_1 : w185.cell? ⟨w17.heap.size, 1, none⟩ = some (.int .i64 d) := F195.out.cell 1
  go_wp2_with fail
  clear cc0_0 cc0_1 cc1_0 cc1_1
  (with_reducible refine (eqQue_yes l1 d A70 A18 m71 c72 m19 c20 _ _ _ _ _ (rq_of HE74.out F198.out) (rq_of HE22.out F193.out)).mono ?_)
  rintro e w202 ⟨rfl, hb⟩
  have S204 := Lib.hid (hb.size)
  have B203 := Lib.hid (B189.out.trans (hb.mono B189.out.size))
  clear B189
  have F205 := Lib.hid (F191.out.below hb)
  clear F191
  have F206 := Lib.hid (F192.out.below hb)
  clear F192
  have F207 := Lib.hid (F193.out.below hb)
  clear F193
  have F208 := Lib.hid (F194.out.below hb)
  clear F194
  have F209 := Lib.hid (F195.out.below hb)
  clear F195
  have F210 := Lib.hid (F196.out.below hb)
  clear F196
  have F211 := Lib.hid (F198.out.below hb)
  clear F198
  have F212 := Lib.hid (F199.out.below hb)
  clear F199
  have F213 := Lib.hid (F200.out.below hb)
  clear F200
  have F214 := Lib.hid (F201.out.below hb)
  clear F201
  clear hb
  have cc0_0 : w202.cell? ⟨(w69.heap.size + 1), 0, none⟩ = some (.int .i64 y1.1) := F214.out.cell 0
  have cc0_1 : w202.cell? ⟨(w69.heap.size + 1), 1, none⟩ = some (.int .i64 y1.2.1) := F214.out.cell 1
  have cc0_2 : w202.cell? ⟨(w69.heap.size + 1), 2, none⟩ = some (.int .i64 y1.2.2.1) := F214.out.cell 2
  have cc0_3 : w202.cell? ⟨(w69.heap.size + 1), 3, none⟩ = some (.slice f76.A f76.n f76.c) := F214.out.cell 3
  have cc1_0 : w202.cell? ⟨(w17.heap.size + 1), 0, none⟩ = some (.int .i64 y1.1) := F210.out.cell 0
  have cc1_1 : w202.cell? ⟨(w17.heap.size + 1), 1, none⟩ = some (.int .i64 y1.2.1) := F210.out.cell 1
  have cc1_2 : w202.cell? ⟨(w17.heap.size + 1), 2, none⟩ = some (.int .i64 y1.2.2.1) := F210.out.cell 2
  have cc1_3 : w202.cell? ⟨(w17.heap.size + 1), 3, none⟩ = some (.slice f24.A f24.n f24.c) := F210.out.cell 3
  go_wp2_with fail
  clear cc0_0 cc0_1 cc0_2 cc0_3 cc1_0 cc1_1 cc1_2 cc1_3
  (with_reducible refine (eqMsg_yes y1 f76.A f76.n f76.c f24.A f24.n f24.c _ _ _ _ _ F212.out.rd F208.out.rd).mono ?_)
  rintro e w215 ⟨rfl, hb⟩
  have S217 := Lib.hid (hb.size)
  have B216 := Lib.hid (B203.out.trans (hb.mono B203.out.size))
  clear B203
  have F218 := Lib.hid (F205.out.below hb)
  clear F205
  have F219 := Lib.hid (F206.out.below hb)
  clear F206
  have F220 := Lib.hid (F207.out.below hb)
  clear F207
  have F221 := Lib.hid (F208.out.below hb)
  clear F208
  have F222 := Lib.hid (F209.out.below hb)
  clear F209
  have F223 := Lib.hid (F210.out.below hb)
  clear F210
  have F224 := Lib.hid (F211.out.below hb)
  clear F211
  have F225 := Lib.hid (F212.out.below hb)
  clear F212
  have F226 := Lib.hid (F213.out.below hb)
  clear F213
  have F227 := Lib.hid (F214.out.below hb)
  clear F214
  clear hb
  have cc0_0 : w215.cell? ⟨w69.heap.size, 0, none⟩ = some (.slice A70 m71 c72) := F226.out.cell 0
  have cc0_1 : w215.cell? ⟨w69.heap.size, 1, none⟩ = some (.int .i64 d) := F226.out.cell 1
  go_wp2_with fail
  clear cc0_0 cc0_1
  (with_reducible refine (markQueF l1 d es73 HE74.out f76 y1.2.2.2 A70 m71 c72 _ _ 1 (by omega) BD1.out.top BD1.out.body _ F224.out F225.out DS78.out).mono ?_)
  rintro e w228 hp
  obtain ⟨es9, rfl, ge, go, gf, gd, hb⟩ := kf_parts hp
  clear hp
  obtain ⟨k2, hk9⟩ : ∃ k, 1 + tot l1 = k := ⟨_, rfl⟩
  rw [hk9]
  have Hk2 := Lib.hid hk9
  have ngk2 : ¬ k2 < 0 := by have h9 := BD1.out.2.2; rw [hk9] at h9; omega
  have K2 := Lib.hid (show 0 ≤ k2 ∧ k2 ≤ 1099511627776 by have h9 := BD1.out; rw [← hk9]; exact ⟨h9.2.2, h9.2.1⟩)
  clear hk9
  have HE229 := Lib.hid ge
  have F230 := Lib.hid go
  have F232 := Lib.hid gf
  have DS231 := Lib.hid gd
  clear ge go gf gd
  have S234 := Lib.hid (hb.size)
  have B233 := Lib.hid (B216.out.trans (hb.below (by have s0 := S00.out; have s1 := S3.out; have s2 := S14.out; have s3 := S28.out; have s4 := S33.out; have s5 := S35.out; have s6 := S50.out; have s7 := S58.out; have s8 := S60.out; have s9 := S80.out; have s10 := S90.out; have s11 := S92.out; have s12 := S107.out; have s13 := S122.out; have s14 := S136.out; have s15 := S158.out; have s16 := S172.out; have s17 := S190.out; have s18 := S204.out; have s19 := S217.out; omega) B216.out.size))
  clear B216
  have F235 := Lib.hid (F218.out.tch hb (by have s0 := S00.out; have s1 := S3.out; have s2 := S14.out; have s3 := S28.out; have s4 := S33.out; have s5 := S35.out; have s6 := S50.out; have s7 := S58.out; have s8 := S60.out; have s9 := S80.out; have s10 := S90.out; have s11 := S92.out; have s12 := S107.out; have s13 := S122.out; have s14 := S136.out; have s15 := S158.out; have s16 := S172.out; have s17 := S190.out; have s18 := S204.out; have s19 := S217.out; have s20 := S234.out; omega))
  clear F218
  have F236 := Lib.hid (F219.out.tch hb (by have s0 := S00.out; have s1 := S3.out; have s2 := S14.out; have s3 := S28.out; have s4 := S33.out; have s5 := S35.out; have s6 := S50.out; have s7 := S58.out; have s8 := S60.out; have s9 := S80.out; have s10 := S90.out; have s11 := S92.out; have s12 := S107.out; have s13 := S122.out; have s14 := S136.out; have s15 := S158.out; have s16 := S172.out; have s17 := S190.out; have s18 := S204.out; have s19 := S217.out; have s20 := S234.out; omega))
  clear F219
  have F237 := Lib.hid (F220.out.tch hb (by have s0 := S00.out; have s1 := S3.out; have s2 := S14.out; have s3 := S28.out; have s4 := S33.out; have s5 := S35.out; have s6 := S50.out; have s7 := S58.out; have s8 := S60.out; have s9 := S80.out; have s10 := S90.out; have s11 := S92.out; have s12 := S107.out; have s13 := S122.out; have s14 := S136.out; have s15 := S158.out; have s16 := S172.out; have s17 := S190.out; have s18 := S204.out; have s19 := S217.out; have s20 := S234.out; omega))
  clear F220
  have F238 := Lib.hid (F221.out.tch hb (by have s0 := S00.out; have s1 := S3.out; have s2 := S14.out; have s3 := S28.out; have s4 := S33.out; have s5 := S35.out; have s6 := S50.out; have s7 := S58.out; have s8 := S60.out; have s9 := S80.out; have s10 := S90.out; have s11 := S92.out; have s12 := S107.out; have s13 := S122.out; have s14 := S136.out; have s15 := S158.out; have s16 := S172.out; have s17 := S190.out; have s18 := S204.out; have s19 := S217.out; have s20 := S234.out; omega))
  clear F221
  have F239 := Lib.hid (F222.out.tch hb (by have s0 := S00.out; have s1 := S3.out; have s2 := S14.out; have s3 := S28.out; have s4 := S33.out; have s5 := S35.out; have s6 := S50.out; have s7 := S58.out; have s8 := S60.out; have s9 := S80.out; have s10 := S90.out; have s11 := S92.out; have s12 := S107.out; have s13 := S122.out; have s14 := S136.out; have s15 := S158.out; have s16 := S172.out; have s17 := S190.out; have s18 := S204.out; have s19 := S217.out; have s20 := S234.out; omega))
  clear F222
  have F240 := Lib.hid (F223.out.tch hb (by have s0 := S00.out; have s1 := S3.out; have s2 := S14.out; have s3 := S28.out; have s4 := S33.out; have s5 := S35.out; have s6 := S50.out; have s7 := S58.out; have s8 := S60.out; have s9 := S80.out; have s10 := S90.out; have s11 := S92.out; have s12 := S107.out; have s13 := S122.out; have s14 := S136.out; have s15 := S158.out; have s16 := S172.out; have s17 := S190.out; have s18 := S204.out; have s19 := S217.out; have s20 := S234.out; omega))
  clear F223
  have F241 := Lib.hid (F226.out.tch hb (by have s0 := S00.out; have s1 := S3.out; have s2 := S14.out; have s3 := S28.out; have s4 := S33.out; have s5 := S35.out; have s6 := S50.out; have s7 := S58.out; have s8 := S60.out; have s9 := S80.out; have s10 := S90.out; have s11 := S92.out; have s12 := S107.out; have s13 := S122.out; have s14 := S136.out; have s15 := S158.out; have s16 := S172.out; have s17 := S190.out; have s18 := S204.out; have s19 := S217.out; have s20 := S234.out; omega))
  clear F226
  have F242 := Lib.hid (F227.out.tch hb (by have s0 := S00.out; have s1 := S3.out; have s2 := S14.out; have s3 := S28.out; have s4 := S33.out; have s5 := S35.out; have s6 := S50.out; have s7 := S58.out; have s8 := S60.out; have s9 := S80.out; have s10 := S90.out; have s11 := S92.out; have s12 := S107.out; have s13 := S122.out; have s14 := S136.out; have s15 := S158.out; have s16 := S172.out; have s17 := S190.out; have s18 := S204.out; have s19 := S217.out; have s20 := S234.out; omega))
  clear F227
  clear hb
  clear F224 HE74 DS78 F225
  have cc0_0 : w228.cell? ⟨(w69.heap.size + 1), 0, none⟩ = some (.int .i64 y1.1) := F242.out.cell 0
  have cc0_1 : w228.cell? ⟨(w69.heap.size + 1), 1, none⟩ = some (.int .i64 y1.2.1) := F242.out.cell 1
  have cc0_2 : w228.cell? ⟨(w69.heap.size + 1), 2, none⟩ = some (.int .i64 y1.2.2.1) := F242.out.cell 2
  have cc0_3 : w228.cell? ⟨(w69.heap.size + 1), 3, none⟩ = some (.slice f76.A f76.n f76.c) := F242.out.cell 3
  go_wp2_with fail
  clear cc0_0 cc0_1 cc0_2 cc0_3
  obtain ⟨l9, r9, hl9, hr9, hown9, hnar9⟩ := ow_narrow F232.out (by have s0 := S00.out; have s1 := S3.out; have s2 := S14.out; have s3 := S28.out; have s4 := S33.out; have s5 := S35.out; have s6 := S50.out; have s7 := S58.out; have s8 := S60.out; have s9 := S80.out; have s10 := S90.out; have s11 := S92.out; have s12 := S107.out; have s13 := S122.out; have s14 := S136.out; have s15 := S158.out; have s16 := S172.out; have s17 := S190.out; have s18 := S204.out; have s19 := S217.out; have s20 := S234.out; omega)
  have HOWN9 := Lib.hid hown9
  have HNAR9 := Lib.hid hnar9
  have HL9 := Lib.hid (And.intro hl9 hr9)
  clear hown9 hnar9 hl9 hr9
  have HFN := Lib.hid (show f76.n ≤ 67108864 by have h1 := F232.out.len; have h2 := HY1.out; omega)
  (with_reducible refine (markMsg y1 f76.A f76.n f76.c l9 r9 k2 _ HNAR9.out K2.out.1 K2.out.2 HFN.out).mono ?_)
  rintro e w243 ⟨rfl, ho9, hb⟩
  obtain ⟨k3, hk9⟩ : ∃ k, k2 + (f76.n : Int) = k := ⟨_, rfl⟩
  rw [hk9]
  have Hk3 := Lib.hid hk9
  have ngk3 : ¬ k3 < 0 := by have h9 := K2.out; omega
  clear hk9
  have F244 := Lib.hid (oe_apart F230.out HNAR9.out hb HOWN9.out (fun e he x y hx hy h9 => (List.pairwise_append.1 DS231.out).2.2 e he f76 (by simp) y x hy hx h9.symm))
  have F245 := Lib.hid (show Ow 5 .u8 w243 l9 r9 f76.A f76.n f76.c (marks .u8 k2 f76.n) from ho9)
  clear ho9 F230 F232
  have S247 := Lib.hid (hb.size)
  have B246 := Lib.hid (B233.out.trans (hb.below (by have s0 := S00.out; have s1 := S3.out; have s2 := S14.out; have s3 := S28.out; have s4 := S33.out; have s5 := S35.out; have s6 := S50.out; have s7 := S58.out; have s8 := S60.out; have s9 := S80.out; have s10 := S90.out; have s11 := S92.out; have s12 := S107.out; have s13 := S122.out; have s14 := S136.out; have s15 := S158.out; have s16 := S172.out; have s17 := S190.out; have s18 := S204.out; have s19 := S217.out; have s20 := S234.out; have s21 := HL9.out; omega) B233.out.size))
  clear B233
  have F248 := Lib.hid (F235.out.tch hb (by have s0 := S00.out; have s1 := S3.out; have s2 := S14.out; have s3 := S28.out; have s4 := S33.out; have s5 := S35.out; have s6 := S50.out; have s7 := S58.out; have s8 := S60.out; have s9 := S80.out; have s10 := S90.out; have s11 := S92.out; have s12 := S107.out; have s13 := S122.out; have s14 := S136.out; have s15 := S158.out; have s16 := S172.out; have s17 := S190.out; have s18 := S204.out; have s19 := S217.out; have s20 := S234.out; have s21 := HL9.out; have s22 := S247.out; omega))
  clear F235
  have F249 := Lib.hid (F236.out.tch hb (by have s0 := S00.out; have s1 := S3.out; have s2 := S14.out; have s3 := S28.out; have s4 := S33.out; have s5 := S35.out; have s6 := S50.out; have s7 := S58.out; have s8 := S60.out; have s9 := S80.out; have s10 := S90.out; have s11 := S92.out; have s12 := S107.out; have s13 := S122.out; have s14 := S136.out; have s15 := S158.out; have s16 := S172.out; have s17 := S190.out; have s18 := S204.out; have s19 := S217.out; have s20 := S234.out; have s21 := HL9.out; have s22 := S247.out; omega))
  clear F236
  have F250 := Lib.hid (F237.out.tch hb (by have s0 := S00.out; have s1 := S3.out; have s2 := S14.out; have s3 := S28.out; have s4 := S33.out; have s5 := S35.out; have s6 := S50.out; have s7 := S58.out; have s8 := S60.out; have s9 := S80.out; have s10 := S90.out; have s11 := S92.out; have s12 := S107.out; have s13 := S122.out; have s14 := S136.out; have s15 := S158.out; have s16 := S172.out; have s17 := S190.out; have s18 := S204.out; have s19 := S217.out; have s20 := S234.out; have s21 := HL9.out; have s22 := S247.out; omega))
  clear F237
  have F251 := Lib.hid (F238.out.tch hb (by have s0 := S00.out; have s1 := S3.out; have s2 := S14.out; have s3 := S28.out; have s4 := S33.out; have s5 := S35.out; have s6 := S50.out; have s7 := S58.out; have s8 := S60.out; have s9 := S80.out; have s10 := S90.out; have s11 := S92.out; have s12 := S107.out; have s13 := S122.out; have s14 := S136.out; have s15 := S158.out; have s16 := S172.out; have s17 := S190.out; have s18 := S204.out; have s19 := S217.out; have s20 := S234.out; have s21 := HL9.out; have s22 := S247.out; omega))
  clear F238
  have F252 := Lib.hid (F239.out.tch hb (by have s0 := S00.out; have s1 := S3.out; have s2 := S14.out; have s3 := S28.out; have s4 := S33.out; have s5 := S35.out; have s6 := S50.out; have s7 := S58.out; have s8 := S60.out; have s9 := S80.out; have s10 := S90.out; have s11 := S92.out; have s12 := S107.out; have s13 := S122.out; have s14 := S136.out; have s15 := S158.out; have s16 := S172.out; have s17 := S190.out; have s18 := S204.out; have s19 := S217.out; have s20 := S234.out; have s21 := HL9.out; have s22 := S247.out; omega))
  clear F239
  have F253 := Lib.hid (F240.out.tch hb (by have s0 := S00.out; have s1 := S3.out; have s2 := S14.out; have s3 := S28.out; have s4 := S33.out; have s5 := S35.out; have s6 := S50.out; have s7 := S58.out; have s8 := S60.out; have s9 := S80.out; have s10 := S90.out; have s11 := S92.out; have s12 := S107.out; have s13 := S122.out; have s14 := S136.out; have s15 := S158.out; have s16 := S172.out; have s17 := S190.out; have s18 := S204.out; have s19 := S217.out; have s20 := S234.out; have s21 := HL9.out; have s22 := S247.out; omega))
  clear F240
  have F254 := Lib.hid (F241.out.tch hb (by have s0 := S00.out; have s1 := S3.out; have s2 := S14.out; have s3 := S28.out; have s4 := S33.out; have s5 := S35.out; have s6 := S50.out; have s7 := S58.out; have s8 := S60.out; have s9 := S80.out; have s10 := S90.out; have s11 := S92.out; have s12 := S107.out; have s13 := S122.out; have s14 := S136.out; have s15 := S158.out; have s16 := S172.out; have s17 := S190.out; have s18 := S204.out; have s19 := S217.out; have s20 := S234.out; have s21 := HL9.out; have s22 := S247.out; omega))
  clear F241
  have F255 := Lib.hid (F242.out.tch hb (by have s0 := S00.out; have s1 := S3.out; have s2 := S14.out; have s3 := S28.out; have s4 := S33.out; have s5 := S35.out; have s6 := S50.out; have s7 := S58.out; have s8 := S60.out; have s9 := S80.out; have s10 := S90.out; have s11 := S92.out; have s12 := S107.out; have s13 := S122.out; have s14 := S136.out; have s15 := S158.out; have s16 := S172.out; have s17 := S190.out; have s18 := S204.out; have s19 := S217.out; have s20 := S234.out; have s21 := HL9.out; have s22 := S247.out; omega))
  clear F242
  clear hb
  have cc0_0 : w243.cell? ⟨w69.heap.size, 0, none⟩ = some (.slice A70 m71 c72) := F254.out.cell 0
  have cc0_1 : w243.cell? ⟨w69.heap.size, 1, none⟩ = some (.int .i64 d) := F254.out.cell 1
  go_wp2_with fail
  clear cc0_0 cc0_1
  (with_reducible refine (heldQue l1 d A70 m71 c72 _ _ 1 (by omega) BD1.out.top BD1.out.body _ (rq_of HE229.out F244.out)).mono ?_)
  rintro e w256 hp
  obtain ⟨rfl, hb⟩ := n_parts Hk2.out hp
  clear hp
  have S258 := Lib.hid (hb.size)
  have B257 := Lib.hid (B246.out.trans (hb.mono B246.out.size))
  clear B246
  have F259 := Lib.hid (F248.out.below hb)
  clear F248
  have F260 := Lib.hid (F249.out.below hb)
  clear F249
  have F261 := Lib.hid (F250.out.below hb)
  clear F250
  have F262 := Lib.hid (F251.out.below hb)
  clear F251
  have F263 := Lib.hid (F252.out.below hb)
  clear F252
  have F264 := Lib.hid (F253.out.below hb)
  clear F253
  have F265 := Lib.hid (F254.out.below hb)
  clear F254
  have F266 := Lib.hid (F255.out.below hb)
  clear F255
  have F267 := Lib.hid (F244.out.below hb)
  clear F244
  have F268 := Lib.hid (F245.out.below hb)
  clear F245
  clear hb
  have cc0_0 : w256.cell? ⟨(w69.heap.size + 1), 0, none⟩ = some (.int .i64 y1.1) := F266.out.cell 0
  have cc0_1 : w256.cell? ⟨(w69.heap.size + 1), 1, none⟩ = some (.int .i64 y1.2.1) := F266.out.cell 1
  have cc0_2 : w256.cell? ⟨(w69.heap.size + 1), 2, none⟩ = some (.int .i64 y1.2.2.1) := F266.out.cell 2
  have cc0_3 : w256.cell? ⟨(w69.heap.size + 1), 3, none⟩ = some (.slice f76.A f76.n f76.c) := F266.out.cell 3
  go_wp2_with fail
  clear cc0_0 cc0_1 cc0_2 cc0_3
  (with_reducible refine (heldMsg y1 f76.A f76.n f76.c _ _ k2 _ F268.out.rd K2.out.1 K2.out.2 HFN.out).mono ?_)
  rintro e w269 hp
  obtain ⟨rfl, hb⟩ := n_parts Hk3.out hp
  clear hp
  have S271 := Lib.hid (hb.size)
  have B270 := Lib.hid (B257.out.trans (hb.mono B257.out.size))
  clear B257
  have F272 := Lib.hid (F259.out.below hb)
  clear F259
  have F273 := Lib.hid (F260.out.below hb)
  clear F260
  have F274 := Lib.hid (F261.out.below hb)
  clear F261
  have F275 := Lib.hid (F262.out.below hb)
  clear F262
  have F276 := Lib.hid (F263.out.below hb)
  clear F263
  have F277 := Lib.hid (F264.out.below hb)
  clear F264
  have F278 := Lib.hid (F265.out.below hb)
  clear F265
  have F279 := Lib.hid (F266.out.below hb)
  clear F266
  have F280 := Lib.hid (F267.out.below hb)
  clear F267
  have F281 := Lib.hid (F268.out.below hb)
  clear F268
  clear hb
  have cc0_0 : w269.cell? ⟨w.heap.size, 0, none⟩ = some (.slice A n cap) := F272.out.cell 0
  have cc0_1 : w269.cell? ⟨w.heap.size, 1, none⟩ = some (.int .i64 d) := F272.out.cell 1
  go_wp2_with fail
  clear cc0_0 cc0_1
  (with_reducible refine (toQue ms d A n cap _ _ HN.out HBD.out _ F273.out).mono ?_)
  rintro e w282 hp
  obtain ⟨A283, m284, c285, es286, rfl, g9, ho, hb⟩ := q_parts2 hp
  clear hp
  obtain rfl : n = m284 := (by have h1 := ho.len; have h2 := congrArg List.length g9; have h3 := HLN.out; simp at h2; omega)
  have HE287 := Lib.hid g9
  clear g9
  have F288 := Lib.hid ho
  clear ho
  have S290 := Lib.hid (hb.size)
  have B289 := Lib.hid (B270.out.trans (hb.mono B270.out.size))
  clear B270
  have F291 := Lib.hid (F272.out.below hb)
  clear F272
  have F292 := Lib.hid (F273.out.below hb)
  clear F273
  have F293 := Lib.hid (F274.out.below hb)
  clear F274
  have F294 := Lib.hid (F275.out.below hb)
  clear F275
  have F295 := Lib.hid (F276.out.below hb)
  clear F276
  have F296 := Lib.hid (F277.out.below hb)
  clear F277
  have F297 := Lib.hid (F278.out.below hb)
  clear F278
  have F298 := Lib.hid (F279.out.below hb)
  clear F279
  have F299 := Lib.hid (F280.out.below hb)
  clear F280
  have F300 := Lib.hid (F281.out.below hb)
  clear F281
  clear hb
  go_wp2_with fail
  (with_reducible refine (implTk ms d i wi A283 n c285 _ _ HN.out HBD.out _ (rq_of HE287.out F288.out)).mono ?_)
  rw [VT.out]
  rintro e w301 hp
  obtain ⟨A302, m303, c304, es305, f308, rfl, g9, ho, hf, hds, hb⟩ := t_parts hp
  clear hp
  have HE306 := Lib.hid g9
  have F307 := Lib.hid ho
  have F309 := Lib.hid hf
  have DS310 := Lib.hid hds
  clear g9 ho hf hds
  have S312 := Lib.hid (hb.size)
  have B311 := Lib.hid (B289.out.trans (hb.mono B289.out.size))
  clear B289
  have F313 := Lib.hid (F291.out.below hb)
  clear F291
  have F314 := Lib.hid (F292.out.below hb)
  clear F292
  have F315 := Lib.hid (F293.out.below hb)
  clear F293
  have F316 := Lib.hid (F294.out.below hb)
  clear F294
  have F317 := Lib.hid (F295.out.below hb)
  clear F295
  have F318 := Lib.hid (F296.out.below hb)
  clear F296
  have F319 := Lib.hid (F297.out.below hb)
  clear F297
  have F320 := Lib.hid (F298.out.below hb)
  clear F298
  have F321 := Lib.hid (F299.out.below hb)
  clear F299
  have F322 := Lib.hid (F300.out.below hb)
  clear F300
  have F323 := Lib.hid (F288.out.below hb)
  clear F288
  clear hb
  clear F323
  obtain ⟨V324, hV324⟩ : ∃ x, x = (w301.alloc (.cells #[.slice A302 m303 c304, .int .i64 d] 26)).alloc (.cells #[.int .i64 y1.1, .int .i64 y1.2.1, .int .i64 y1.2.2.1, .slice f308.A f308.n f308.c] 28) := ⟨_, rfl⟩
  have hbV324 : Below w301.heap.size w301 V324 := by rw [hV324]; exact (bx.below_box _ _).alloc (by simp) _
  have S325 := Lib.hid (show w301.heap.size + 2 ≤ V324.heap.size by rw [hV324]; simp)
  have S327 := Lib.hid (hbV324.size)
  have B326 := Lib.hid (B311.out.trans (hbV324.mono B311.out.size))
  clear B311
  have F328 := Lib.hid (F313.out.below hbV324)
  clear F313
  have F329 := Lib.hid (F314.out.below hbV324)
  clear F314
  have F330 := Lib.hid (F315.out.below hbV324)
  clear F315
  have F331 := Lib.hid (F316.out.below hbV324)
  clear F316
  have F332 := Lib.hid (F317.out.below hbV324)
  clear F317
  have F333 := Lib.hid (F318.out.below hbV324)
  clear F318
  have F334 := Lib.hid (F319.out.below hbV324)
  clear F319
  have F335 := Lib.hid (F320.out.below hbV324)
  clear F320
  have F336 := Lib.hid (F321.out.below hbV324)
  clear F321
  have F337 := Lib.hid (F322.out.below hbV324)
  clear F322
  have F338 := Lib.hid (F307.out.below hbV324)
  clear F307
  have F339 := Lib.hid (F309.out.below hbV324)
  clear F309
  have X340 := Lib.hid (show bx.Bx 26 V324 w301.heap.size #[.slice A302 m303 c304, .int .i64 d] by rw [hV324]; exact (bx.Bx.made _ _ _).below (bx.below_box _ _))
  have X341 := Lib.hid (show bx.Bx 28 V324 (w301.heap.size + 1) #[.int .i64 y1.1, .int .i64 y1.2.1, .int .i64 y1.2.2.1, .slice f308.A f308.n f308.c] by rw [hV324]; have hh := bx.Bx.made 28 (w301.alloc (.cells #[.slice A302 m303 c304, .int .i64 d] 26)) #[.int .i64 y1.1, .int .i64 y1.2.1, .int .i64 y1.2.2.1, .slice f308.A f308.n f308.c]; simpa using hh)
  clear hbV324
  have cc0_0 : ((w301.alloc (.cells #[.slice A302 m303 c304, .int .i64 d] 26)).alloc (.cells #[.int .i64 y1.1, .int .i64 y1.2.1, .int .i64 y1.2.2.1, .slice f308.A f308.n f308.c] 28)).cell? ⟨w301.heap.size, 0, none⟩ = some (.slice A302 m303 c304) := by rw [← hV324]; exact X340.out.cell 0
  have cc0_1 : ((w301.alloc (.cells #[.slice A302 m303 c304, .int .i64 d] 26)).alloc (.cells #[.int .i64 y1.1, .int .i64 y1.2.1, .int .i64 y1.2.2.1, .slice f308.A f308.n f308.c] 28)).cell? ⟨w301.heap.size, 1, none⟩ = some (.int .i64 d) := by rw [← hV324]; exact X340.out.cell 1
  have cc1_0 : ((w301.alloc (.cells #[.slice A302 m303 c304, .int .i64 d] 26)).alloc (.cells #[.int .i64 y1.1, .int .i64 y1.2.1, .int .i64 y1.2.2.1, .slice f308.A f308.n f308.c] 28)).cell? ⟨w17.heap.size, 0, none⟩ = some (.slice A18 m19 c20) := by rw [← hV324]; exact F332.out.cell 0
  have cc1_1 : ((w301.alloc (.cells #[.slice A302 m303 c304, .int .i64 d] 26)).alloc (.cells #[.int .i64 y1.1, .int .i64 y1.2.1, .int .i64 y1.2.2.1, .slice f308.A f308.n f308.c] 28)).cell? ⟨w17.heap.size, 1, none⟩ = some (.int .i64 d) := by rw [← hV324]; exact F332.out.cell 1
  go_wp2_with fail
  rw [← hV324]
  clear hV324 cc0_0 cc0_1 cc1_0 cc1_1
  (with_reducible refine (eqQue_yes l1 d A302 A18 m303 c304 m19 c20 _ _ _ _ _ (rq_of HE306.out F338.out) (rq_of HE22.out F330.out)).mono ?_)
  rintro e w342 ⟨rfl, hb⟩
  have S344 := Lib.hid (hb.size)
  have B343 := Lib.hid (B326.out.trans (hb.mono B326.out.size))
  clear B326
  have F345 := Lib.hid (F328.out.below hb)
  clear F328
  have F346 := Lib.hid (F329.out.below hb)
  clear F329
  have F347 := Lib.hid (F330.out.below hb)
  clear F330
  have F348 := Lib.hid (F331.out.below hb)
  clear F331
  have F349 := Lib.hid (F332.out.below hb)
  clear F332
  have F350 := Lib.hid (F333.out.below hb)
  clear F333
  have F351 := Lib.hid (F334.out.below hb)
  clear F334
  have F352 := Lib.hid (F335.out.below hb)
  clear F335
  have F353 := Lib.hid (F336.out.below hb)
  clear F336
  have F354 := Lib.hid (F337.out.below hb)
  clear F337
  have F355 := Lib.hid (F338.out.below hb)
  clear F338
  have F356 := Lib.hid (F339.out.below hb)
  clear F339
  have F357 := Lib.hid (X340.out.below hb)
  clear X340
  have F358 := Lib.hid (X341.out.below hb)
  clear X341
  clear hb
  have cc0_0 : w342.cell? ⟨(w301.heap.size + 1), 0, none⟩ = some (.int .i64 y1.1) := F358.out.cell 0
  have cc0_1 : w342.cell? ⟨(w301.heap.size + 1), 1, none⟩ = some (.int .i64 y1.2.1) := F358.out.cell 1
  have cc0_2 : w342.cell? ⟨(w301.heap.size + 1), 2, none⟩ = some (.int .i64 y1.2.2.1) := F358.out.cell 2
  have cc0_3 : w342.cell? ⟨(w301.heap.size + 1), 3, none⟩ = some (.slice f308.A f308.n f308.c) := F358.out.cell 3
  have cc1_0 : w342.cell? ⟨(w17.heap.size + 1), 0, none⟩ = some (.int .i64 y1.1) := F350.out.cell 0
  have cc1_1 : w342.cell? ⟨(w17.heap.size + 1), 1, none⟩ = some (.int .i64 y1.2.1) := F350.out.cell 1
  have cc1_2 : w342.cell? ⟨(w17.heap.size + 1), 2, none⟩ = some (.int .i64 y1.2.2.1) := F350.out.cell 2
  have cc1_3 : w342.cell? ⟨(w17.heap.size + 1), 3, none⟩ = some (.slice f24.A f24.n f24.c) := F350.out.cell 3
  go_wp2_with fail
  clear cc0_0 cc0_1 cc0_2 cc0_3 cc1_0 cc1_1 cc1_2 cc1_3
  (with_reducible refine (eqMsg_yes y1 f308.A f308.n f308.c f24.A f24.n f24.c _ _ _ _ _ F356.out.rd F348.out.rd).mono ?_)
  rintro e w359 ⟨rfl, hb⟩
  have S361 := Lib.hid (hb.size)
  have B360 := Lib.hid (B343.out.trans (hb.mono B343.out.size))
  clear B343
  have F362 := Lib.hid (F345.out.below hb)
  clear F345
  have F363 := Lib.hid (F346.out.below hb)
  clear F346
  have F364 := Lib.hid (F347.out.below hb)
  clear F347
  have F365 := Lib.hid (F348.out.below hb)
  clear F348
  have F366 := Lib.hid (F349.out.below hb)
  clear F349
  have F367 := Lib.hid (F350.out.below hb)
  clear F350
  have F368 := Lib.hid (F351.out.below hb)
  clear F351
  have F369 := Lib.hid (F352.out.below hb)
  clear F352
  have F370 := Lib.hid (F353.out.below hb)
  clear F353
  have F371 := Lib.hid (F354.out.below hb)
  clear F354
  have F372 := Lib.hid (F355.out.below hb)
  clear F355
  have F373 := Lib.hid (F356.out.below hb)
  clear F356
  have F374 := Lib.hid (F357.out.below hb)
  clear F357
  have F375 := Lib.hid (F358.out.below hb)
  clear F358
  clear hb
  clear F374
  clear F372
  clear F375
  clear F373
  clear F366
  clear F364
  clear F367
  clear F365
  have cc0_0 : w359.cell? ⟨w69.heap.size, 0, none⟩ = some (.slice A70 m71 c72) := F368.out.cell 0
  have cc0_1 : w359.cell? ⟨w69.heap.size, 1, none⟩ = some (.int .i64 d) := F368.out.cell 1
  go_wp2_with fail
  clear cc0_0 cc0_1
  (with_reducible refine (heldQue l1 d A70 m71 c72 _ _ 1 (by omega) BD1.out.top BD1.out.body _ (rq_of HE229.out F370.out)).mono ?_)
  rintro e w376 hp
  obtain ⟨rfl, hb⟩ := n_parts Hk2.out hp
  clear hp
  have S378 := Lib.hid (hb.size)
  have B377 := Lib.hid (B360.out.trans (hb.mono B360.out.size))
  clear B360
  have F379 := Lib.hid (F362.out.below hb)
  clear F362
  have F380 := Lib.hid (F363.out.below hb)
  clear F363
  have F381 := Lib.hid (F368.out.below hb)
  clear F368
  have F382 := Lib.hid (F369.out.below hb)
  clear F369
  have F383 := Lib.hid (F370.out.below hb)
  clear F370
  have F384 := Lib.hid (F371.out.below hb)
  clear F371
  clear hb
  have cc0_0 : w376.cell? ⟨(w69.heap.size + 1), 0, none⟩ = some (.int .i64 y1.1) := F382.out.cell 0
  have cc0_1 : w376.cell? ⟨(w69.heap.size + 1), 1, none⟩ = some (.int .i64 y1.2.1) := F382.out.cell 1
  have cc0_2 : w376.cell? ⟨(w69.heap.size + 1), 2, none⟩ = some (.int .i64 y1.2.2.1) := F382.out.cell 2
  have cc0_3 : w376.cell? ⟨(w69.heap.size + 1), 3, none⟩ = some (.slice f76.A f76.n f76.c) := F382.out.cell 3
  go_wp2_with fail
  clear cc0_0 cc0_1 cc0_2 cc0_3
  (with_reducible refine (heldMsg y1 f76.A f76.n f76.c _ _ k2 _ F384.out.rd K2.out.1 K2.out.2 HFN.out).mono ?_)
  rintro e w385 hp
  obtain ⟨rfl, hb⟩ := n_parts Hk3.out hp
  clear hp
  have S387 := Lib.hid (hb.size)
  have B386 := Lib.hid (B377.out.trans (hb.mono B377.out.size))
  clear B377
  have F388 := Lib.hid (F379.out.below hb)
  clear F379
  have F389 := Lib.hid (F380.out.below hb)
  clear F380
  have F390 := Lib.hid (F381.out.below hb)
  clear F381
  have F391 := Lib.hid (F382.out.below hb)
  clear F382
  have F392 := Lib.hid (F383.out.below hb)
  clear F383
  have F393 := Lib.hid (F384.out.below hb)
  clear F384
  clear hb
  go_wp2_with fail
  go_ret
  exact ⟨rfl, B386.out⟩
end Go.Proofs.Ytbifggfmfiocoaa.xExactTakeMessage
